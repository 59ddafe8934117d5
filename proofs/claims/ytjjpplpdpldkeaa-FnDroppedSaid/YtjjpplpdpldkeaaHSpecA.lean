/- What the specification's look at a heap needs: its range test, and the look as a function. -/
import Derived.Test.YtjjpplpdpldkeaaHLive
namespace Go.Proofs.Ytjjpplpdpldkeaa
open Go.RowKit Go.Sort

theorem in_yes (n a b : Int) (w : World) (h : a ≤ n ∧ n ≤ b) : Calls Try.prog 30 #[.int .i64 n, .int .i64 a, .int .i64 b] w fun e w' => e = .returned (.bool true) ∧ w' = w := by
  obtain ⟨h1, h2⟩ := h
  go_enter Try.func30, Try.ntmps30
  go_wp2
  go_ret
  exact ⟨rfl, rfl⟩

theorem in_no (n a b : Int) (w : World) (h : ¬ (a ≤ n ∧ n ≤ b)) : Calls Try.prog 30 #[.int .i64 n, .int .i64 a, .int .i64 b] w fun e w' => e = .returned (.bool false) ∧ w' = w := by
  by_cases h1 : a ≤ n
  · have h2 : ¬ n ≤ b := by omega
    go_enter Try.func30, Try.ntmps30
    go_wp2
    go_ret
    exact ⟨rfl, rfl⟩
  · go_enter Try.func30, Try.ntmps30
    go_wp2
    go_ret
    exact ⟨rfl, rfl⟩

theorem heap_spec {s : ByteArray} {L : List Cl} (h1 : s.size ≤ 3000) (h2 : L.length ≤ 40) : heapB s L = specB (byteAt s) s.size L := by
  unfold heapB
  rw [decide_eq_true ⟨h1, h2⟩, Bool.true_and, impl_spec _ _ h1]

theorem spec_no {s : ByteArray} {L : List Cl} (h1 : s.size ≤ 3000) (h2 : L.length ≤ 40) {k : Nat} (hk : k < L.length) (h : specCellB s.size (L.getD k cl0) = false) : heapB s L = false := by
  rw [heap_spec h1 h2]
  unfold specB
  have : L.all (specCellB s.size) = false := by
    rw [List.all_eq_false]
    refine ⟨L.getD k cl0, ?_, by rw [h]; simp⟩
    rw [List.getD_eq_getElem?_getD, List.getElem?_eq_getElem hk]
    exact List.getElem_mem hk
  rw [this, Bool.false_and]

def AllTo (s : ByteArray) (L : List Cl) (k : Nat) : Prop := ∀ i, i < k → specCellB s.size (L.getD i cl0) = true

theorem allTo_next {s : ByteArray} {L : List Cl} {k : Nat} (h : AllTo s L k) (hk : specCellB s.size (L.getD k cl0) = true) : AllTo s L (k + 1) := fun i hi => by
  rcases Nat.lt_succ_iff_lt_or_eq.1 hi with h1 | h1
  · exact h i h1
  · rw [h1]; exact hk

theorem allTo_end {s : ByteArray} {L : List Cl} (h1 : s.size ≤ 3000) (h2 : L.length ≤ 40) (h : AllTo s L L.length) : heapB s L = sweepB (byteAt s) s.size ((stI L L.length).map (clOf L)) 0 := by
  rw [heap_spec h1 h2]
  unfold specB
  have : L.all (specCellB s.size) = true := by
    rw [List.all_eq_true]
    intro x hx
    obtain ⟨i, hi, rfl⟩ := List.getElem_of_mem hx
    have := h i hi
    rw [List.getD_eq_getElem?_getD, List.getElem?_eq_getElem hi] at this
    exact this
  rw [this, Bool.true_and, live_all]

end Go.Proofs.Ytjjpplpdpldkeaa
