/- eqStringSS, markStringSS, heldStringSS at lists of lists that own their memory. -/
import Derived.Test.YtjgmkbldclangaaGreatDoorFImFed
namespace Go.Proofs.YtjgmkbldclangaaGreatDoor.Fd
open Go.RowKit Go.Sort

/-- The texts of a request, as they are compared. -/
def bytesOf (ts : List (List UInt8)) : List ByteArray := ts.map fun t => ⟨t.toArray⟩

theorem strVals_bytes (ts : List (List UInt8)) : strVals ts = (bytesOf ts).map Value.string := by
  unfold strVals bytesOf
  rw [List.map_map]
  rfl

def SmallReqs (L : List (List (List UInt8))) : Prop := ∀ ts ∈ L, ts.length ≤ 16 ∧ ∀ t ∈ ts, t.length ≤ 200

theorem bytes_small {ts : List (List UInt8)} (h : ∀ t ∈ ts, t.length ≤ 200) : ∀ x ∈ bytesOf ts, x.size ≤ 9000000 := fun x hx => by
  obtain ⟨t, ht, rfl⟩ := List.mem_map.1 hx
  have := h t ht
  show t.toArray.size ≤ _
  rw [List.size_toArray]
  omega

/-- One of the lists. -/
theorem own2_at {W : World} {B : Nat} {v : Value} {xs : List Value} {L : List (List (List UInt8))} (h : Own2 W B v xs (rowsOf L)) (hS : SmallReqs L) (i : Nat) (hi : i < L.length) :
    ∃ A cap a b off c, v = .slice (some ⟨A, 0, none⟩) L.length cap ∧ W.cell? ⟨A, i, none⟩ = some (.slice a (L[i]).length c) ∧ xs[i]? = some (.slice a (L[i]).length c) ∧ StrsIn W a b off (L[i]).length (bytesOf L[i]) := by
  have ho := h.outer
  rw [rowsOf_len] at ho
  obtain ⟨A, cap, rfl⟩ := Go.Joins.ownsRow_form ho (by omega)
  have hr : (rowsOf L)[i]? = some (strVals L[i]) := by unfold rowsOf; rw [List.getElem?_map, List.getElem?_eq_getElem hi]; rfl
  obtain ⟨x, h1, h2⟩ := h.inner i _ hr
  rw [strVals_bytes, List.length_map] at h2
  have hl : (bytesOf L[i]).length = (L[i]).length := by unfold bytesOf; rw [List.length_map]
  obtain ⟨a, b, off, c, rfl, hs⟩ := strsIn_any h2 rfl (bytes_small (hS _ (List.getElem_mem hi)).2)
  rw [hl] at hs h1
  have hc := ho.cells rfl i _ h1
  rw [Addr.add_lit, Nat.zero_add] at hc
  exact ⟨A, cap, a, b, off, c, rfl, hc, h1, hs⟩

theorem strs_drewN {w : World} {a : Option Addr} {b off n q : Nat} {ss : List ByteArray} (h : StrsIn w a b off n ss) : StrsIn (w.drewN q) a b off n ss := ⟨h.len, h.addr, h.low, h.cell, h.fit⟩

set_option maxHeartbeats 2000000 in
set_option maxRecDepth 100000 in
theorem eqSS_any (v1 v2 : Value) (xs1 xs2 : List Value) (L : List (List (List UInt8))) (B1 B2 : Nat) (w : World) (h1 : Own2 w B1 v1 xs1 (rowsOf L)) (h2 : Own2 w B2 v2 xs2 (rowsOf L)) (hS : SmallReqs L) (hn : L.length ≤ 2097152) :
    Calls Tryz.prog 77 #[v1, v2] w fun e w' => e = .returned (.bool true) ∧ ∃ q, w' = w.drewN q := by
  have HS : Hid (SmallReqs L) := hS
  have H1 : Hid (Own2 w B1 v1 xs1 (rowsOf L)) := h1
  have H2 : Hid (Own2 w B2 v2 xs2 (rowsOf L)) := h2
  obtain ⟨a1, c1, hv1⟩ := slice_any h1.outer
  obtain ⟨a2, c2, hv2⟩ := slice_any h2.outer
  rw [rowsOf_len] at hv1 hv2
  subst hv1 hv2
  clear h1 h2 hS
  go_enter Tryz.func77, Tryz.ntmps77
  go_wp2
  go_loopw [5] (fun i wr => ∃ (k q : Nat), k ≤ L.length ∧ i = .int .i64 k ∧ wr = w.drewN q) (fun i _ => L.length - (intOf i).toNat)
  case atStart => exact ⟨0, 0, by omega, rfl, rfl⟩
  case round =>
    obtain ⟨k, q, hk, rfl, hwq⟩ := hrel
    have HW : Hid (wr = w.drewN q) := hwq
    have H1' : Own2 wr B1 (.slice a1 L.length c1) xs1 (rowsOf L) := by rw [hwq]; exact H1.out.drewN q
    have H2' : Own2 wr B2 (.slice a2 L.length c2) xs2 (rowsOf L) := by rw [hwq]; exact H2.out.drewN q
    clear hwq
    by_cases hlt : k < L.length
    · obtain ⟨A, cap, p1, b1, f1, k1, hv1, hc1, _, hs1⟩ := own2_at H1' HS.out k hlt
      obtain ⟨A', cap', p2, b2, f2, k2, hv2, hc2, _, hs2⟩ := own2_at H2' HS.out k hlt
      cases hv1
      cases hv2
      have h16 : (L[k]).length ≤ 16 := (HS.out _ (List.getElem_mem hlt)).1
      have HC : ∀ n, Calls Tryz.prog 74 #[.slice p1 (L[k]).length k1, .slice p2 (L[k]).length k2] (wr.drewN n) fun e w' => e = .returned (.bool true) ∧ ∃ m, w' = (wr.drewN n).drewN m := fun n => eq_any p1 p2 b1 f1 b2 f2 _ k1 k2 (bytesOf L[k]) _ (strs_drewN hs1) (strs_drewN hs2) (by omega)
      clear hs1 hs2 H1' H2'
      generalize (L[k]).length = m at *
      go_wp2
      go_quiet ((exact Calls.quiet_of (HC _)))
      go_wp2
      go_roundw
      case rel => exact ⟨k + 1, _, by omega, by go_num, by rw [HW.out, World.drewN_drewN]⟩
      case measure => simp [intOf]; omega
    · clear H1' H2'
      go_wp2
      go_ret
      exact ⟨rfl, q, HW.out⟩

theorem rise_ne {xs : List Value} (h : xs.Pairwise Rise) {i j : Nat} {x y : Value} (hx : xs[i]? = some x) (hy : xs[j]? = some y) (hij : i ≠ j) {a : Nat} (ha : x.ownBlock = some a) : y.ownBlock ≠ some a := fun e => by
  obtain ⟨hi, ei⟩ := List.getElem?_eq_some_iff.1 hx
  obtain ⟨hj, ej⟩ := List.getElem?_eq_some_iff.1 hy
  rw [List.pairwise_iff_getElem] at h
  rcases Nat.lt_or_gt_of_ne hij with hlt | hlt
  · have := h i j hi hj hlt a a (by rw [ei]; exact ha) (by rw [ej]; exact e)
    omega
  · have := h j i hj hi hlt a a (by rw [ej]; exact e) (by rw [ei]; exact ha)
    omega

theorem own2_mark {W W' : World} {B : Nat} {v x : Value} {xs : List Value} {rows : List (List Value)} {i : Nat} {r' : List Value} (h : Own2 W B v xs rows) (hx : xs[i]? = some x) (ho : W'.ownsRow B 9 1 x r'.length r') (hg : W.grownBy W' x.ownBlock) (hxo : ∀ g, x.ownBlock = some g → v.ownBlock ≠ some g) : Own2 W' B v xs (rows.set i r') := by
  have kp : ∀ {T : TypeId} {y : Value} {n : Nat} {ys : List Value}, W.ownsRow B T 1 y n ys → (∀ g, x.ownBlock = some g → y.ownBlock ≠ some g) → W'.ownsRow B T 1 y n ys := fun {T y n ys} hy hne =>
    hy.kept hg (by
      by_cases hyn : y.ownBlock = none
      · exact .inl hyn
      · refine .inr fun e => ?_
        obtain ⟨g, hgy⟩ := Option.ne_none_iff_exists'.1 hyn
        exact hne g (by rw [← e]; exact hgy) hgy)
  refine ⟨by rw [List.length_set]; exact kp h.outer hxo, fun j s hs => ?_, h.up⟩
  by_cases hij : i = j
  · subst hij
    have hlt : i < rows.length := by
      have := (List.getElem?_eq_some_iff.1 hs).1
      rwa [List.length_set] at this
    rw [List.getElem?_set_self hlt] at hs
    cases hs
    exact ⟨x, hx, ho⟩
  · rw [List.getElem?_set_ne hij] at hs
    obtain ⟨y, h1, h2⟩ := h.inner j s hs
    exact ⟨y, h1, kp h2 (fun g hg' => rise_ne h.up hx h1 hij hg')⟩

/-- Where the marks of a list begin. -/
def startAt (L : List (List (List UInt8))) : Nat → Nat
  | 0 => 1
  | i + 1 => startAt L i + (L.getD i []).length

theorem start_step (L : List (List (List UInt8))) (i : Nat) (h : i < L.length) : startAt L (i + 1) = startAt L i + (L[i]).length := by
  rw [startAt, List.getD_eq_getElem?_getD, List.getElem?_eq_getElem h]
  rfl

theorem start_le {L : List (List (List UInt8))} (hS : SmallReqs L) : ∀ i, i ≤ L.length → startAt L i ≤ 1 + 16 * i
  | 0, _ => by simp [startAt]
  | i + 1, h => by
    rw [start_step L i (by omega)]
    have h1 := start_le hS i (by omega)
    have h2 := (hS _ (List.getElem_mem (show i < L.length by omega))).1
    omega

theorem start_pos (L : List (List (List UInt8))) : ∀ i : Nat, 1 ≤ startAt L i
  | 0 => by simp [startAt]
  | i + 1 => by have := start_pos L i; rw [startAt]; omega

def markRows (L : List (List (List UInt8))) : List (List Value) := (List.range L.length).map fun i => marks (startAt L i) (L.getD i []).length

theorem markRows_len (L : List (List (List UInt8))) : (markRows L).length = L.length := by unfold markRows; simp
theorem markRows_at (L : List (List (List UInt8))) (i : Nat) (h : i < L.length) : (markRows L)[i]? = some (marks (startAt L i) (L[i]).length) := by
  unfold markRows
  rw [List.getElem?_map, List.getElem?_range h]
  show some (marks (startAt L i) (L.getD i []).length) = _
  rw [List.getD_eq_getElem?_getD, List.getElem?_eq_getElem h]
  rfl
theorem marks_len (s n : Nat) : (marks s n).length = n := by unfold marks; simp

theorem below_own {W W' : World} {B n : Nat} {x : Value} {xs : List Value} (h : W.ownsRow B 9 1 x n xs) (hg : W.grownBy W' x.ownBlock) (hB : B ≤ W.heap.size) : Below B W W' :=
  ⟨hg.os, hg.tape, hg.output, hg.size, fun k hk => hg.block k (by omega) (fun e => by have := (h.lt k e.symm).1; omega)⟩

end Go.Proofs.YtjgmkbldclangaaGreatDoor.Fd
