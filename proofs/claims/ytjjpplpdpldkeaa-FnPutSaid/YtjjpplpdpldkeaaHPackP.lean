/- The live cells in the order in which they lie, as the program tells them. -/
import Derived.Test.YtjjpplpdpldkeaaHPackM
import Derived.Test.YtjjpplpdpldkeaaSort
import Derived.Shelf.SlSortCmp.NoneTotal
namespace Go.Proofs.Ytjjpplpdpldkeaa
open Go.RowKit Go.Sort Go.Shelf

/-- What cmp.Compare says. -/
def cmpI (x y : Int) : Int := if x < y then -1 else if y < x then 1 else 0

set_option maxHeartbeats 1000000 in
theorem compare_any (x y : Int) (w : World) : Calls Try.prog 49 #[.int .i64 x, .int .i64 y] w fun e w' => e = .returned (.int .i64 (cmpI x y)) ∧ w' = w := by
  by_cases h1 : x < y
  · have H : Hid (cmpI x y = -1) := if_pos h1
    go_enter Try.func49, Try.ntmps49
    go_wp2
    go_ret
    exact ⟨ret_int H.out.symm, rfl⟩
  · by_cases h2 : y < x
    · have H : Hid (cmpI x y = 1) := by unfold Hid cmpI; rw [if_neg h1, if_pos h2]
      go_enter Try.func49, Try.ntmps49
      go_wp2
      go_ret
      exact ⟨ret_int H.out.symm, rfl⟩
    · have H : Hid (cmpI x y = 0) := by unfold Hid cmpI; rw [if_neg h1, if_neg h2]
      go_enter Try.func49, Try.ntmps49
      go_wp2
      go_ret
      exact ⟨ret_int H.out.symm, rfl⟩

set_option maxHeartbeats 1000000 in
theorem byPos_any (p q : Nat) (x y : Int) (w : World) (hp : w.cell? ⟨p, 0, none⟩ = some (.int .i64 x)) (hq : w.cell? ⟨q, 0, none⟩ = some (.int .i64 y)) :
    Calls Try.prog 48 #[.pointer (some ⟨p, 0, none⟩), .pointer (some ⟨q, 0, none⟩)] w fun e w' => e = .returned (.int .i64 (cmpI x y)) ∧ ∃ m, w' = w.drewN m := by
  have hc := fun W => compare_any x y W
  generalize cmpI x y = r at hc ⊢
  go_enter Try.func48, Try.ntmps48
  go_wp2
  go_quiet ((exact Calls.quiet_of_same (hc _)))
  go_wp2
  go_ret
  exact ⟨rfl, _, rfl⟩

/-- The places of the live cells among the first k. -/
def liveF (L : List Cl) (k : Nat) : List Nat := (List.range k).filter fun i => (L.getD i cl0).live

theorem liveF_next (L : List Cl) (k : Nat) : liveF L (k + 1) = if (L.getD k cl0).live = true then liveF L k ++ [k] else liveF L k := by
  unfold liveF
  rw [List.range_succ, List.filter_append]
  by_cases h : (L.getD k cl0).live = true
  · rw [if_pos h, List.filter_cons_of_pos (p := fun i => (L.getD i cl0).live) h]
    rfl
  · rw [if_neg h, List.filter_cons_of_neg (p := fun i => (L.getD i cl0).live) h]
    simp

theorem liveF_lt (L : List Cl) (k : Nat) : ∀ i ∈ liveF L k, i < k := fun _ hi => List.mem_range.1 (List.mem_filter.1 hi).1

theorem liveF_len (L : List Cl) (k : Nat) : (liveF L k).length ≤ k := by
  have := List.length_filter_le (fun i => (L.getD i cl0).live) (List.range k)
  rw [List.length_range] at this
  exact this

theorem live_perm (L : List Cl) : ∀ k, (stI L k).Perm (liveF L k)
  | 0 => .refl _
  | k + 1 => by
    rw [stI, liveF_next]
    show (if (clOf L k).live = true then _ else _ : List Nat).Perm _
    unfold clOf
    by_cases h : (L.getD k cl0).live = true
    · rw [if_pos h, if_pos h]
      exact ((ins_perm L k _).trans ((live_perm L k).cons k)).trans (List.perm_append_singleton k _).symm
    · rw [if_neg h, if_neg h]
      exact live_perm L k

/-- There is one order in which they lie. -/
theorem one_order {n : Nat} {L : List Cl} {t : Nat → Bool} (h : Right n L t) {S : List Nat} (hp : S.Perm (liveF L L.length)) (hs : S.Pairwise fun i j => (L.getD i cl0).pos ≤ (L.getD j cl0).pos) : S = liveS L := by
  have hl : (liveS L).Pairwise fun i j => (L.getD i cl0).pos ≤ (L.getD j cl0).pos := by
    have := h.sorted
    rw [live_all L] at this
    unfold Sorted at this
    rw [List.pairwise_map] at this
    exact this
  have hd : (liveS L).Pairwise fun i j => Disj (clOf L i) (clOf L j) := by
    have := h.disj
    rw [live_all L, List.pairwise_map] at this
    exact this
  refine List.Perm.eq_of_pairwise ?_ hs hl (hp.trans (live_perm L L.length).symm)
  intro i j hi hj h1 h2
  have hi' : i ∈ liveS L := (live_perm L L.length).mem_iff.2 (hp.mem_iff.1 hi)
  have oi := live_ok h hi'
  have oj := live_ok h hj
  obtain ⟨_, i1, _, _⟩ := oi
  obtain ⟨_, j1, _, _⟩ := oj
  have e : (clOf L i).pos = (clOf L j).pos := Int.le_antisymm h1 h2
  by_cases hij : i = j
  · exact hij
  · exfalso
    obtain ⟨a, ha, rfl⟩ := List.getElem_of_mem hi'
    obtain ⟨b, hb, rfl⟩ := List.getElem_of_mem hj
    rcases Nat.lt_trichotomy a b with hab | hab | hab
    · have := List.pairwise_iff_getElem.1 hd a b ha hb hab
      unfold Disj at this
      omega
    · subst hab; exact hij rfl
    · have := List.pairwise_iff_getElem.1 hd b a hb ha hab
      unfold Disj at this
      omega

theorem putRow_self' {α : Type} [Inhabited α] (enc : α → Value) (w : World) (blk off : Nat) (d : Array α) {c : Array Value} {e : TypeId} {fr : Nat × Nat} (h : w.heap[blk]? = some (.cells c e fr)) : (putRow enc w blk off d).heap[blk]? = some (.cells (Go.Sort.putCells enc off d c) e fr) := by
  unfold putRow mapBlock
  rw [Array.getElem?_modify, if_pos rfl, h]
  rfl

theorem putRow_other' {α : Type} [Inhabited α] (enc : α → Value) (w : World) (blk off j : Nat) (d : Array α) (h : j ≠ blk) : (putRow enc w blk off d).heap[j]? = w.heap[j]? := by
  unfold putRow mapBlock
  rw [Array.getElem?_modify, if_neg (fun e => h e.symm)]

theorem putRow_size' {α : Type} [Inhabited α] (enc : α → Value) (w : World) (blk off : Nat) (d : Array α) : (putRow enc w blk off d).heap.size = w.heap.size := by
  unfold putRow mapBlock
  exact Array.size_modify

/-- The row behind the sort: another list, as long, in the same room. -/
theorem owns_sorted {α : Type} [Inhabited α] {enc : α → Value} {w : World} {B A cap m : Nat} {d d' : Array α} {os : Array Obj} (h : w.ownsRow B 59 1 (.slice (some ⟨A, 0, none⟩) d.size cap) d.size (d.toList.map enc)) (hd : d'.size = d.size) :
    (sortWorld enc w A 0 m d' os).ownsRow B 59 1 (.slice (some ⟨A, 0, none⟩) d.size cap) d.size (d'.toList.map enc) ∧ w.grownBy (sortWorld enc w A 0 m d' os) (some A) := by
  have hlt := h.lt A rfl
  obtain ⟨h1, h2 | ⟨A', cap', cur, he, hB, hg, hc1, hc2, hsz, htk⟩⟩ := h
  · cases h2.1
  · simp at he
    obtain ⟨rfl, rfl⟩ := he
    have hrow : (sortWorld enc w A 0 m d' os).heap[A]? = some (.cells (Go.Sort.putCells enc 0 d' cur) 59 (0, 0)) := by
      unfold sortWorld grow
      show ((putRow enc (Go.Sort.ahead w m) A 0 d').heap ++ os)[A]? = _
      rw [Array.getElem?_append_left (by rw [putRow_size']; exact hlt.2)]
      exact putRow_self' enc (Go.Sort.ahead w m) A 0 d' hg
    refine ⟨⟨by simp [hd], .inr ⟨A, cap, Go.Sort.putCells enc 0 d' cur, rfl, hB, hrow, hc1, hc2, by simp [Go.Sort.putCells, hsz], ?_⟩⟩, ⟨rfl, rfl, rfl, ?_, fun j hj hne => ?_⟩⟩
    · apply List.ext_getElem?
      intro i
      by_cases hi : i < d.size
      · rw [List.getElem?_take, if_pos (by omega), Array.getElem?_toList]
        unfold Go.Sort.putCells
        have hic : i < cur.size := by omega
        rw [Array.getElem?_mapIdx, Array.getElem?_eq_getElem hic, Option.map_some, if_pos (by omega), List.getElem?_map, Array.getElem?_toList, Array.getElem?_eq_getElem (by omega), Nat.sub_zero, getElem!_pos d' i (by omega)]
        rfl
      · rw [List.getElem?_take, if_neg (by omega), List.getElem?_eq_none (by simp; omega)]
    · unfold sortWorld grow
      show w.heap.size ≤ ((putRow enc (Go.Sort.ahead w m) A 0 d').heap ++ os).size
      rw [Array.size_append, putRow_size']
      exact Nat.le_add_right _ _
    · unfold sortWorld grow
      show ((putRow enc (Go.Sort.ahead w m) A 0 d').heap ++ os)[j]? = _
      rw [Array.getElem?_append_left (by rw [putRow_size']; exact hj), putRow_other' enc _ A 0 j d' (fun e => hne (by rw [e]))]
      rfl
end Go.Proofs.Ytjjpplpdpldkeaa
