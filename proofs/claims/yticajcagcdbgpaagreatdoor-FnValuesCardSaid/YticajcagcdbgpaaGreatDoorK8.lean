/- Ranks with another score for a member, in the specification's words. -/
import Derived.Test.YticajcagcdbgpaaGreatDoorK7
namespace Go.Proofs.YticajcagcdbgpaaGreatDoor.Kk
open Go.RowKit Go.Sort

theorem OwnR.below {w w' : World} {B : Nat} {v : Value} {L : List Rk} (h : OwnR w B v L) (hb : Below w.heap.size w w') : OwnR w' B v L := by
  obtain ⟨h1, ⟨e1, e2⟩ | ⟨g, cap, cur, e1, h2, h3, h4⟩⟩ := h
  · exact ⟨h1, .inl ⟨e1, e2⟩⟩
  · exact ⟨h1, .inr ⟨g, cap, cur, e1, h2, (hb.block g (RowAt.lt (T := 54) (C := cur) h3)).trans h3, h4⟩⟩

theorem flatR_at (L : List Rk) (i : Nat) (h : i < L.length) : (flatR L)[i * 2]? = some (.string (L.getD i rk0).m) ∧ (flatR L)[i * 2 + 1]? = some (.int .i64 (L.getD i rk0).s) := by
  induction L generalizing i with
  | nil => simp at h
  | cons x l ih =>
    cases i with
    | zero => exact ⟨rfl, rfl⟩
    | succ i =>
      have := ih i (by simpa using h)
      have e : flatR (x :: l) = .string x.m :: .int .i64 x.s :: flatR l := rfl
      have e2 : (i + 1) * 2 = i * 2 + 1 + 1 := by omega
      rw [e, e2]
      simpa using this

theorem ownR_at {w : World} {B A cap : Nat} {L : List Rk} (h : OwnR w B (.slice (some ⟨A, 0, none⟩) L.length cap) L) (i : Nat) (hi : i < L.length) : RkAt w A (i * 2) (L.getD i rk0) := by
  obtain ⟨f0, f1⟩ := flatR_at L i hi
  have c0 := h.cells rfl _ _ f0
  have c1 := h.cells rfl _ _ f1
  rw [Addr.add_lit, Nat.zero_add] at c0 c1
  exact ⟨c0, c1⟩
end Go.Proofs.YticajcagcdbgpaaGreatDoor.Kk
