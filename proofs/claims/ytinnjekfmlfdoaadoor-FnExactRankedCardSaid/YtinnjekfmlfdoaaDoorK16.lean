/- slices.SortFunc at a slice that owns its ranks. -/
import Derived.Test.YtinnjekfmlfdoaaDoorK15
namespace Go.Proofs.YtinnjekfmlfdoaaDoor
open Go.RowKit Go.Sort Go.Shelf Go.Lib

theorem putRow_self' {α : Type} [Inhabited α] (enc : α → Value) (w : World) (blk off : Nat) (d : Array α) {c : Array Value} {e : TypeId} {fr : Nat × Nat} (h : w.heap[blk]? = some (.cells c e fr)) : (putRow enc w blk off d).heap[blk]? = some (.cells (Go.Sort.putCells enc off d c) e fr) := by
  unfold putRow mapBlock
  rw [Array.getElem?_modify, if_pos rfl, h]
  rfl

theorem putRow_other' {α : Type} [Inhabited α] (enc : α → Value) (w : World) (blk off j : Nat) (d : Array α) (h : j ≠ blk) : (putRow enc w blk off d).heap[j]? = w.heap[j]? := by
  unfold putRow mapBlock
  rw [Array.getElem?_modify, if_neg (fun e => h e.symm)]

theorem putRow_size' {α : Type} [Inhabited α] (enc : α → Value) (w : World) (blk off : Nat) (d : Array α) : (putRow enc w blk off d).heap.size = w.heap.size := by
  unfold putRow mapBlock
  exact Array.size_modify

theorem flat_get [Inhabited Rk] (L : List Rk) (t : Nat) (h : t < L.length * 2) : (flatR L)[t]? = some ((flatK encR 2 L.toArray)[t]!) := by
  rw [get_flatK encR 2 L.toArray t (by simpa using h)]
  have hi : t / 2 < L.length := by omega
  obtain ⟨h0, h1⟩ := flatR_at L (t / 2) hi
  have he : L.toArray[t / 2]! = L.getD (t / 2) rk0 := by
    rw [getElem!_pos L.toArray (t / 2) (by simpa using hi), List.getD_eq_getElem?_getD, List.getElem?_eq_getElem hi]
    simp
  rw [he]
  rcases Nat.mod_two_eq_zero_or_one t with hm | hm
  · rw [hm]
    rw [show t / 2 * 2 = t by omega] at h0
    rw [h0]; rfl
  · rw [hm]
    rw [show t / 2 * 2 + 1 = t by omega] at h1
    rw [h1]; rfl

theorem holds_own [Inhabited Rk] {w : World} {B A cap : Nat} {L : List Rk} (h : OwnR w B (.slice (some ⟨A, 0, none⟩) L.length cap) L) : HoldsK encR 2 w A 0 L.toArray := by
  intro j hj
  have hj' : j < L.length * 2 := by simpa using hj
  have hc := h.cells rfl j _ (flat_get L j hj')
  rw [Addr.add_lit, Nat.zero_add] at hc
  refine ⟨by rw [Nat.zero_add]; exact hc, ?_⟩
  obtain ⟨_, h2 | ⟨A', cap', cur, he, hB, hg, _⟩⟩ := h
  · cases h2.1
  · simp at he
    obtain ⟨rfl, rfl⟩ := he
    exact Lib.frozen_of_heap hg _

theorem owns_sorted [Inhabited Rk] {w : World} {B A cap m : Nat} {L : List Rk} {D : Array Rk} {os : Array Obj} (h : OwnR w B (.slice (some ⟨A, 0, none⟩) L.length cap) L) (hd : D.size = L.length) (hBw : B ≤ w.heap.size) :
    OwnR (sortWorldK encR 2 w A 0 m D os) B (.slice (some ⟨A, 0, none⟩) D.toList.length cap) D.toList ∧ Below B w (sortWorldK encR 2 w A 0 m D os) := by
  have hlt := h.lt A rfl
  have hDl : D.toList.length = L.length := by simpa using hd
  obtain ⟨h1, h2 | ⟨A', cap', cur, he, hB, hg, hc1, hc2, hsz, htk⟩⟩ := h
  · cases h2.1
  · simp at he
    obtain ⟨rfl, rfl⟩ := he
    have hrow : (sortWorldK encR 2 w A 0 m D os).heap[A]? = some (.cells (Go.Sort.putCells id 0 (flatK encR 2 D) cur) 30 (0, 0)) := by
      unfold sortWorldK grow
      show ((putRowK encR 2 (Go.Sort.ahead w m) A 0 D).heap ++ os)[A]? = _
      unfold putRowK
      rw [Array.getElem?_append_left (by rw [putRow_size']; exact hlt.2)]
      exact putRow_self' id (Go.Sort.ahead w m) A 0 (flatK encR 2 D) hg
    refine ⟨⟨by rw [flatR_len], .inr ⟨A, cap, Go.Sort.putCells id 0 (flatK encR 2 D) cur, by rw [hDl], hB, hrow, by omega, hc2, by simp [Go.Sort.putCells, hsz], ?_⟩⟩, ⟨rfl, rfl, rfl, ?_, fun j hj => ?_⟩⟩
    · apply List.ext_getElem?
      intro i
      by_cases hi : i < D.toList.length * 2
      · rw [List.getElem?_take, if_pos hi, Array.getElem?_toList, flat_get D.toList i hi]
        unfold Go.Sort.putCells
        have hic : i < cur.size := by omega
        rw [Array.getElem?_mapIdx, Array.getElem?_eq_getElem hic, Option.map_some, if_pos (by simp; omega), Nat.sub_zero]
        simp
      · rw [List.getElem?_take, if_neg hi, List.getElem?_eq_none (by rw [flatR_len]; omega)]
    · unfold sortWorldK grow putRowK
      show w.heap.size ≤ ((putRow id (Go.Sort.ahead w m) A 0 (flatK encR 2 D)).heap ++ os).size
      rw [Array.size_append, putRow_size']
      exact Nat.le_add_right _ _
    · unfold sortWorldK grow putRowK
      show ((putRow id (Go.Sort.ahead w m) A 0 (flatK encR 2 D)).heap ++ os)[j]? = _
      rw [Array.getElem?_append_left (by rw [putRow_size']; show j < w.heap.size; omega), putRow_other' id _ A 0 j _ (by omega)]
      rfl

theorem sort_own (A cap B : Nat) (x : Rk) (M : List Rk) (w : World) (h : OwnR w B (.slice (some ⟨A, 0, none⟩) (x :: M).length cap) (x :: M)) (hB : B ≤ w.heap.size) (hl : M.length ≤ 1048577) :
    Calls Tryd.prog 18 #[.slice (some ⟨A, 0, none⟩) (x :: M).length cap, .func (.func 19) #[] #[]] w fun e w' => e = .returned (.tuple #[]) ∧ ∃ D : List Rk, D.Perm (x :: M) ∧ (M.Pairwise leR → D = insR M x) ∧ OwnR w' B (.slice (some ⟨A, 0, none⟩) D.length cap) D ∧ Below B w w' := by
  haveI : Inhabited Rk := ⟨rk0⟩
  have hs := sort_any A 0 cap (x :: M).toArray w (holds_own h) (h.lt A rfl).2 (by simp; omega)
  rw [show (x :: M).toArray.size = (x :: M).length from rfl] at hs
  refine hs.mono fun e w' ⟨he, d', n, os, hp, hso, hw⟩ => ⟨he, d'.toList, ?_, fun hM => sorted_is (d := (x :: M).toArray) rfl hM hp hso, ?_⟩
  · have e1 : (d'.extract 0 (x :: M).length).toList = d'.toList := by rw [show (x :: M).length = d'.size from hp.1.symm, Array.extract_size]
    have e2 : ((x :: M).toArray.extract 0 (x :: M).length).toList = x :: M := by rw [show (x :: M).length = (x :: M).toArray.size from rfl, Array.extract_size]
    have := hp.2.2
    rw [e1, e2] at this
    exact this
  · rw [hw]
    exact owns_sorted h hp.1 hB
end Go.Proofs.YtinnjekfmlfdoaaDoor
