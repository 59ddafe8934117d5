/- The specification's Get, whole. -/
import Derived.Test.YtjjpplpdpldkeaaHGetS
namespace Go.Proofs.Ytjjpplpdpldkeaa
open Go.RowKit Go.Sort

/-- What is got. -/
def getB (s : ByteArray) (L : List Cl) (rc rg : Int) : ByteArray × Bool :=
  if heapB s L = true ∧ isB L rc rg = true then (s.extract (L.getD rc.toNat cl0).pos.toNat ((L.getD rc.toNat cl0).pos.toNat + (L.getD rc.toNat cl0).len.toNat), true) else (⟨#[]⟩, false)

theorem is_in {L : List Cl} {rc rg : Int} (h : isB L rc rg = true) : ∃ k : Nat, rc = k ∧ k < L.length ∧ (L.getD k cl0).live = true ∧ (L.getD k cl0).gen = rg := by
  unfold isB at h
  rw [Bool.and_eq_true, Bool.and_eq_true] at h
  have h1 := of_decide_eq_true h.1
  refine ⟨rc.toNat, by omega, by omega, h.2.1, by simpa using h.2.2⟩

end Go.Proofs.Ytjjpplpdpldkeaa
