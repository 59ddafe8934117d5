/- Cells that a slice owns are marked and held: walked. -/
import Derived.Test.YtjjpplpdpldkeaaHOwn
namespace Go.Proofs.Ytjjpplpdpldkeaa
open Go.RowKit Go.Sort

theorem owns_at {w : World} {B n cap A k j : Nat} {xs : List Value} {v : Value} (h : w.ownsRow B 35 4 (.slice (some ⟨A, 0, none⟩) n cap) n xs) (e : xs[k * 4 + j]? = some v) : w.cell? ⟨A, k * 4 + j, none⟩ = some v := by
  have := h.cells rfl (k * 4 + j) _ e
  rwa [Addr.add_lit, Nat.zero_add] at this

theorem grown_own {w w1 : World} {A : Nat} {u : Value} {j : Nat} (h : w.grownBy w1 (some A)) : w.grownBy (w1.setCell ⟨A, j, none⟩ u) (some A) := grown_set1 h

theorem mod_same (K : Nat) : decide ((K + 3) % 3 = 0) = (((K : Int) + 1 + 1 + 1) % 3 == 0) := by
  rw [Bool.eq_iff_iff, decide_eq_true_iff, beq_iff_eq]
  omega

end Go.Proofs.Ytjjpplpdpldkeaa
