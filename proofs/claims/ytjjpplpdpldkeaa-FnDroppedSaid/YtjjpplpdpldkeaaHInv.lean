/- A region that draws its order, walked by an invariant: each operation once, whatever order is drawn. -/
import Derived.Test.YtjjpplpdpldkeaaHN
import Derived.Deep.RegionHeldLaw
namespace Go.Proofs.Ytjjpplpdpldkeaa
open Go.RowKit Go.Sort

section
variable {P : Program} {ops : Array Oper} {Q : Exit → Act → World → Prop} {md : Region.Mode}

theorem ready_mem {l : Array Bool} {i : Nat} (h : i ∈ Region.ready md ops l) : i < ops.size ∧ l.getD i true = false ∧ ((ops[i]?).map (·.after.all fun e => !Region.binds md e || l.getD e.on false)).getD false = true := by
  unfold Region.ready at h
  rw [List.mem_filter, List.mem_range, Bool.and_eq_true] at h
  exact ⟨h.1, by simpa using h.2.1, h.2.2⟩

/-- How many have not come up. -/
def unl (l : Array Bool) : Nat := l.toList.countP (fun b => !b)

theorem unl_set {l : Array Bool} {i : Nat} (h : l.getD i true = false) : unl (l.setIfInBounds i true) + 1 = unl l := by
  have hi : i < l.size := by
    by_cases hi : i < l.size
    · exact hi
    · rw [Array.getD_eq_getD_getElem?, Array.getElem?_eq_none (by omega)] at h
      cases h
  have hi' : i < l.toList.length := by simpa using hi
  have hv : l.toList[i] = false := by
    rw [Array.getD_eq_getD_getElem?, Array.getElem?_eq_getElem hi] at h
    simpa using h
  have hpos : 0 < l.toList.countP (fun b => !b) := List.countP_pos_iff.2 ⟨_, List.getElem_mem hi', by rw [hv]; rfl⟩
  unfold unl
  rw [Array.toList_setIfInBounds, List.countP_set hi', hv, show (if (!false) = true then 1 else 0) = 1 from rfl, show (if (!true) = true then 1 else 0) = 0 from rfl]
  omega

theorem ready_none {l : Array Bool} (h : unl l = 0) : Region.ready md ops l = [] := by
  apply List.eq_nil_iff_forall_not_mem.2
  intro i hi
  have hm := (ready_mem hi).2.1
  have := unl_set hm
  omega

theorem wpAnyH_inv (I : Array Bool → Act → World → Prop) 
    (hstep : ∀ l a w i, I l a w → i ∈ Region.ready md ops l → wpOp P ops Q i (fun a' w' => I (l.setIfInBounds i true) a' w') a w)
    (hdone : ∀ l a w, I l a w → Region.ready md ops l = [] → Q .normal a w) : ∀ (fuel : Nat) l a w, I l a w → unl l ≤ fuel → wpAnyH P md ops Q (fun _ => True) fuel l a w
  | 0, l, a, w, h, hu => ⟨ready_none (by omega), hdone l a w h (ready_none (by omega))⟩
  | fuel + 1, l, a, w, h, hu => ⟨fun h0 => hdone l a w h h0, fun i hi => wpOp_mono (fun a' w' h' => ⟨trivial, wpAnyH_inv I hstep hdone fuel _ a' w' h' (by have := unl_set (ready_mem hi).2.1; omega)⟩) (hstep l a w i h hi)⟩

/-- All have come up, when none may: where each waits only for those ahead of it. -/
theorem all_listed {l : Array Bool} (hb : (List.range ops.size).all (fun i => ((ops[i]?).map (·.after.all fun e => !Region.binds md e || decide (e.on < i))).getD false) = true) (h : Region.ready md ops l = []) : ∀ i, i < ops.size → l.getD i true = true := by
  intro i
  induction i using Nat.strongRecOn with
  | _ i ih =>
    intro hi
    cases hl : l.getD i true with
    | true => rfl
    | false =>
      exfalso
      have hm : i ∈ Region.ready md ops l := by
        unfold Region.ready
        rw [List.mem_filter, List.mem_range, Bool.and_eq_true]
        refine ⟨hi, by rw [hl]; rfl, ?_⟩
        have hb' := List.all_eq_true.1 hb i (List.mem_range.2 hi)
        rw [Array.getElem?_eq_getElem hi] at hb' ⊢
        show (ops[i].after.all fun e => !Region.binds md e || l.getD e.on false) = true
        have hb2 : (ops[i].after.all fun e => !Region.binds md e || decide (e.on < i)) = true := hb'
        rw [Array.all_eq_true] at hb2 ⊢
        intro j hj
        have hj2 := hb2 j hj
        rw [Bool.or_eq_true] at hj2 ⊢
        rcases hj2 with hj2 | hj2
        · exact .inl hj2
        have hlt := of_decide_eq_true hj2
        have := ih _ hlt (by omega)
        right
        have hi2 : i < l.size := by
          by_cases h2 : i < l.size
          · exact h2
          · rw [Array.getD_eq_getD_getElem?, Array.getElem?_eq_none (by omega)] at hl
            cases hl
        rw [Array.getD_eq_getD_getElem?, Array.getElem?_eq_getElem (by omega)] at this ⊢
        exact this
      rw [h] at hm
      cases hm

theorem wp_region_inv (I : Array Bool → Act → World → Prop) {id : Nat} {a : Act} {w : World} (hm : P.follows .mixedOrders = true) (h0 : I (Array.replicate ops.size false) a w.drew)
    (hstep : ∀ l a w i, I l a w → i ∈ Region.ready .any ops l → wpOp P ops Q i (fun a' w' => I (l.setIfInBounds i true) a' w') a w)
    (hb : (List.range ops.size).all (fun i => ((ops[i]?).map (·.after.all fun e => !Region.binds .any e || decide (e.on < i))).getD false) = true)
    (hdone : ∀ l a w, I l a w → (∀ i, i < ops.size → l.getD i true = true) → Q .normal a w) : (Code.region id ops true).wp P Q a w :=
  wp_region_held hm (wpAnyH_inv I hstep (fun l a w h hr => hdone l a w h (all_listed hb hr)) _ _ _ _ h0 (by unfold unl; rw [Array.toList_replicate]; exact Nat.le_trans List.countP_le_length (by simp)))
end

/-- What a slot holds: the value, when its operation has come up. -/
def sl (l : Array Bool) (j : Nat) (v : Value) : Value := if l.getD j false = true then v else undef

theorem sl_on {l : Array Bool} {j : Nat} {v : Value} (h : l.getD j false = true) : sl l j v = v := if_pos h
theorem sl_off {l : Array Bool} {j : Nat} {v : Value} (h : l.getD j false = false) : sl l j v = undef := if_neg (by rw [h]; simp)

theorem getD_set_ne {l : Array Bool} {i j : Nat} {b : Bool} (h : i ≠ j) : (l.setIfInBounds i true).getD j b = l.getD j b := by
  rw [Array.getD_eq_getD_getElem?, Array.getD_eq_getD_getElem?, Array.getElem?_setIfInBounds_ne h]

theorem getD_set_self {l : Array Bool} {i : Nat} {b : Bool} (h : i < l.size) : (l.setIfInBounds i true).getD i b = true := by
  rw [Array.getD_eq_getD_getElem?, Array.getElem?_setIfInBounds_self_of_lt h]
  rfl

theorem sl_ne {l : Array Bool} {i j : Nat} {v : Value} (h : i ≠ j) : sl (l.setIfInBounds i true) j v = sl l j v := by
  unfold sl
  rw [getD_set_ne h]

theorem sl_self {l : Array Bool} {i : Nat} {v : Value} (h : i < l.size) : sl (l.setIfInBounds i true) i v = v := sl_on (getD_set_self h)

theorem off_of {l : Array Bool} {i : Nat} (h : l.getD i true = false) : l.getD i false = false := by
  rw [Array.getD_eq_getD_getElem?] at h ⊢
  cases hx : l[i]? with
  | none => rfl
  | some b => rw [hx] at h; exact h

theorem lt_of_off {l : Array Bool} {i : Nat} (h : l.getD i true = false) : i < l.size := by
  by_cases hi : i < l.size
  · exact hi
  · rw [Array.getD_eq_getD_getElem?, Array.getElem?_eq_none (by omega)] at h
    cases h

theorem on_of {l : Array Bool} {i : Nat} (h : l.getD i true = true) (hi : i < l.size) : l.getD i false = true := by
  rw [Array.getD_eq_getD_getElem?, Array.getElem?_eq_getElem hi] at h ⊢
  exact h
end Go.Proofs.Ytjjpplpdpldkeaa
