/- Ranks without a member. -/
import Derived.Test.YticajcagcdbgpaaGreatDoorK4
import Derived.OwnWalk
namespace Go.Proofs.YticajcagcdbgpaaGreatDoor.Kk
open Go.RowKit Go.Sort

theorem info30 : (Tryz.prog.info? 54).map (fun i => (i.zero, i.size, i.bytes)) = some (some (.agg #[.string ⟨#[]⟩, .int .i64 0]), 2, 24) := by kernel_rfl

/-- The ranks' cells. -/
def encR (x : Rk) : List Value := [.string x.m, .int .i64 x.s]

def flatR (L : List Rk) : List Value := L.flatMap encR
theorem flatR_len (L : List Rk) : (flatR L).length = L.length * 2 := by
  unfold flatR
  induction L with
  | nil => rfl
  | cons x l ih => rw [List.flatMap_cons, List.length_append, ih, List.length_cons]; show 2 + l.length * 2 = _; omega
theorem flatR_app (L M : List Rk) : flatR (L ++ M) = flatR L ++ flatR M := List.flatMap_append

/-- A slice that owns its ranks. -/
abbrev OwnR (w : World) (B : Nat) (v : Value) (L : List Rk) : Prop := w.ownsRow B 54 2 v L.length (flatR L)

theorem ownR_none (w : World) (B : Nat) (hB : B ≤ w.heap.size) : OwnR (w.alloc (.cells #[] 54)) B (.slice (some ⟨w.heap.size, 0, none⟩) 0 0) [] :=
  ⟨rfl, .inr ⟨w.heap.size, 0, #[], rfl, hB, RowAt.new w 54 #[], by simp, by unfold maxLen; omega, by simp, by simp [flatR]⟩⟩

theorem ownR_form {w : World} {B : Nat} {v : Value} {L : List Rk} (h : OwnR w B v L) : ∃ a c, v = .slice a L.length c := by
  rcases Joins.ownsRow_forms h with ⟨h1, h2⟩ | ⟨A, c, rfl⟩
  · exact ⟨none, 0, by rw [h2, h1]⟩
  · exact ⟨some ⟨A, 0, none⟩, c, rfl⟩

theorem below_grown {B : Nat} {w w1 w2 : World} {r : Option Nat} (b : Below B w w1) (g : w1.grownBy w2 r) (hr : ∀ x, r = some x → B ≤ x) (hB : B ≤ w1.heap.size) : Below B w w2 :=
  ⟨g.os.trans b.os, g.tape.trans b.tape, g.output.trans b.output, Nat.le_trans b.size g.size, fun k hk => (g.block k (by omega) (fun e => by have := hr k e.symm; omega)).trans (b.block k hk)⟩
end Go.Proofs.YticajcagcdbgpaaGreatDoor.Kk
