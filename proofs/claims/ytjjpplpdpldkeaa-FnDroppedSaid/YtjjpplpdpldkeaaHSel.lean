/- A region that draws its order and stores last: which world it is in, by what has come up. -/
import Derived.Test.YtjjpplpdpldkeaaHCallR
namespace Go.Proofs.Ytjjpplpdpldkeaa
open Go.RowKit Go.Sort

def wsel (l : Array Bool) (i : Nat) (a b : World) : World := if l.getD i false = true then b else a

theorem wsel_on {l : Array Bool} {i : Nat} {a b : World} (h : l.getD i false = true) : wsel l i a b = b := if_pos h
theorem wsel_off {l : Array Bool} {i : Nat} {a b : World} (h : l.getD i false = false) : wsel l i a b = a := if_neg (by rw [h]; simp)
theorem wsel_ne {l : Array Bool} {i j : Nat} {a b : World} (h : j ≠ i) : wsel (l.setIfInBounds j true) i a b = wsel l i a b := by
  unfold wsel
  rw [getD_set_ne h]
theorem wsel_self {l : Array Bool} {i : Nat} {a b : World} (h : i < l.size) : wsel (l.setIfInBounds i true) i a b = b := wsel_on (getD_set_self h)
theorem wsel_rep {n i : Nat} {a b : World} : wsel (Array.replicate n false) i a b = a := by
  apply wsel_off
  rw [Array.getD_eq_getD_getElem?, Array.getElem?_replicate]
  split <;> rfl

/-- The last one comes up last. -/
def LastUp (t : Nat) (l : Array Bool) : Prop := l.getD t false = true → ∀ j, j < t → l.getD j false = true

theorem last_rep {n t : Nat} : LastUp t (Array.replicate n false) := fun h => by
  rw [Array.getD_eq_getD_getElem?, Array.getElem?_replicate] at h
  split at h <;> cases h

theorem LastUp.off {t i : Nat} {l : Array Bool} (h : LastUp t l) (hi : i < t) (ho : l.getD i false = false) : l.getD t false = false := by
  cases hx : l.getD t false with
  | false => rfl
  | true => rw [h hx i hi] at ho; cases ho

theorem LastUp.next {t i : Nat} {l : Array Bool} (h : LastUp t l) (hi : i < t) (ho : l.getD i false = false) : LastUp t (l.setIfInBounds i true) := fun hx => by
  rw [getD_set_ne (show i ≠ t by omega), h.off hi ho] at hx
  cases hx

theorem LastUp.last {t : Nat} {l : Array Bool} (h : ∀ j, j < t → l.getD j false = true) : LastUp t (l.setIfInBounds t true) := fun _ j hj => by
  rw [getD_set_ne (show t ≠ j by omega)]
  exact h j hj
end Go.Proofs.Ytjjpplpdpldkeaa
