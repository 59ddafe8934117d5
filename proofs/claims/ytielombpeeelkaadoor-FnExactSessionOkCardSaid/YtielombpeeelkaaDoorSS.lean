/- eqStringSS, markStringSS, heldStringSS at lists of lists that own their memory. -/
import Derived.Test.YtielombpeeelkaaDoorImFed
namespace Go.Proofs.YtielombpeeelkaaDoor
open Go.RowKit Go.Sort

/-- The texts of a request, as they are compared. -/
def bytesOf (ts : List (List UInt8)) : List ByteArray := ts.map fun t => ⟨t.toArray⟩

theorem strVals_bytes (ts : List (List UInt8)) : strVals ts = (bytesOf ts).map Value.string := by
  unfold strVals bytesOf
  rw [List.map_map]
  rfl

def SmallReqs (L : List (List (List UInt8))) : Prop := ∀ ts ∈ L, ts.length ≤ 16 ∧ ∀ t ∈ ts, t.length ≤ 200

theorem bytes_small {ts : List (List UInt8)} (h : ∀ t ∈ ts, t.length ≤ 200) : ∀ x ∈ bytesOf ts, x.size ≤ 9000000 := fun x hx => by
  obtain ⟨t, ht, rfl⟩ := List.mem_map.1 hx
  have := h t ht
  show t.toArray.size ≤ _
  rw [List.size_toArray]
  omega

/-- One of the lists. -/
theorem own2_at {W : World} {B : Nat} {v : Value} {xs : List Value} {L : List (List (List UInt8))} (h : Own2 W B v xs (rowsOf L)) (hS : SmallReqs L) (i : Nat) (hi : i < L.length) :
    ∃ A cap a b off c, v = .slice (some ⟨A, 0, none⟩) L.length cap ∧ W.cell? ⟨A, i, none⟩ = some (.slice a (L[i]).length c) ∧ xs[i]? = some (.slice a (L[i]).length c) ∧ StrsIn W a b off (L[i]).length (bytesOf L[i]) := by
  have ho := h.outer
  rw [rowsOf_len] at ho
  obtain ⟨A, cap, rfl⟩ := Go.Joins.ownsRow_form ho (by omega)
  have hr : (rowsOf L)[i]? = some (strVals L[i]) := by unfold rowsOf; rw [List.getElem?_map, List.getElem?_eq_getElem hi]; rfl
  obtain ⟨x, h1, h2⟩ := h.inner i _ hr
  rw [strVals_bytes, List.length_map] at h2
  have hl : (bytesOf L[i]).length = (L[i]).length := by unfold bytesOf; rw [List.length_map]
  obtain ⟨a, b, off, c, rfl, hs⟩ := strsIn_any h2 rfl (bytes_small (hS _ (List.getElem_mem hi)).2)
  rw [hl] at hs h1
  have hc := ho.cells rfl i _ h1
  rw [Addr.add_lit, Nat.zero_add] at hc
  exact ⟨A, cap, a, b, off, c, rfl, hc, h1, hs⟩

theorem strs_drewN {w : World} {a : Option Addr} {b off n q : Nat} {ss : List ByteArray} (h : StrsIn w a b off n ss) : StrsIn (w.drewN q) a b off n ss := ⟨h.len, h.addr, h.low, h.cell, h.fit⟩

set_option maxHeartbeats 2000000 in
set_option maxRecDepth 100000 in
theorem eqSS_any (v1 v2 : Value) (xs1 xs2 : List Value) (L : List (List (List UInt8))) (B1 B2 : Nat) (w : World) (h1 : Own2 w B1 v1 xs1 (rowsOf L)) (h2 : Own2 w B2 v2 xs2 (rowsOf L)) (hS : SmallReqs L) (hn : L.length ≤ 2097152) :
    Calls Tryd.prog 12 #[v1, v2] w fun e w' => e = .returned (.bool true) ∧ ∃ q, w' = w.drewN q := by
  have HS : Hid (SmallReqs L) := hS
  have H1 : Hid (Own2 w B1 v1 xs1 (rowsOf L)) := h1
  have H2 : Hid (Own2 w B2 v2 xs2 (rowsOf L)) := h2
  obtain ⟨a1, c1, hv1⟩ := slice_any h1.outer
  obtain ⟨a2, c2, hv2⟩ := slice_any h2.outer
  rw [rowsOf_len] at hv1 hv2
  subst hv1 hv2
  clear h1 h2 hS
  go_enter Tryd.func12, Tryd.ntmps12
  go_wp2
  go_loopw [5] (fun i wr => ∃ (k q : Nat), k ≤ L.length ∧ i = .int .i64 k ∧ wr = w.drewN q) (fun i _ => L.length - (intOf i).toNat)
  case atStart => exact ⟨0, 0, by omega, rfl, rfl⟩
  case round =>
    obtain ⟨k, q, hk, rfl, hwq⟩ := hrel
    have HW : Hid (wr = w.drewN q) := hwq
    have H1' : Own2 wr B1 (.slice a1 L.length c1) xs1 (rowsOf L) := by rw [hwq]; exact H1.out.drewN q
    have H2' : Own2 wr B2 (.slice a2 L.length c2) xs2 (rowsOf L) := by rw [hwq]; exact H2.out.drewN q
    clear hwq
    by_cases hlt : k < L.length
    · obtain ⟨A, cap, p1, b1, f1, k1, hv1, hc1, _, hs1⟩ := own2_at H1' HS.out k hlt
      obtain ⟨A', cap', p2, b2, f2, k2, hv2, hc2, _, hs2⟩ := own2_at H2' HS.out k hlt
      cases hv1
      cases hv2
      have h16 : (L[k]).length ≤ 16 := (HS.out _ (List.getElem_mem hlt)).1
      have HC : ∀ n, Calls Tryd.prog 32 #[.slice p1 (L[k]).length k1, .slice p2 (L[k]).length k2] (wr.drewN n) fun e w' => e = .returned (.bool true) ∧ ∃ m, w' = (wr.drewN n).drewN m := fun n => eq_any p1 p2 b1 f1 b2 f2 _ k1 k2 (bytesOf L[k]) _ (strs_drewN hs1) (strs_drewN hs2) (by omega)
      clear hs1 hs2 H1' H2'
      generalize (L[k]).length = m at *
      go_wp2
      go_quiet ((exact Calls.quiet_of (HC _)))
      go_wp2
      go_roundw
      case rel => exact ⟨k + 1, _, by omega, by go_num, by rw [HW.out, World.drewN_drewN]⟩
      case measure => simp [intOf]; omega
    · clear H1' H2'
      go_wp2
      go_ret
      exact ⟨rfl, q, HW.out⟩

theorem rise_ne {xs : List Value} (h : xs.Pairwise Rise) {i j : Nat} {x y : Value} (hx : xs[i]? = some x) (hy : xs[j]? = some y) (hij : i ≠ j) {a : Nat} (ha : x.ownBlock = some a) : y.ownBlock ≠ some a := fun e => by
  obtain ⟨hi, ei⟩ := List.getElem?_eq_some_iff.1 hx
  obtain ⟨hj, ej⟩ := List.getElem?_eq_some_iff.1 hy
  rw [List.pairwise_iff_getElem] at h
  rcases Nat.lt_or_gt_of_ne hij with hlt | hlt
  · have := h i j hi hj hlt a a (by rw [ei]; exact ha) (by rw [ej]; exact e)
    omega
  · have := h j i hj hi hlt a a (by rw [ej]; exact e) (by rw [ei]; exact ha)
    omega

theorem own2_mark {W W' : World} {B : Nat} {v x : Value} {xs : List Value} {rows : List (List Value)} {i : Nat} {r' : List Value} (h : Own2 W B v xs rows) (hx : xs[i]? = some x) (ho : W'.ownsRow B 9 1 x r'.length r') (hg : W.grownBy W' x.ownBlock) (hxo : ∀ g, x.ownBlock = some g → v.ownBlock ≠ some g) : Own2 W' B v xs (rows.set i r') := by
  have kp : ∀ {T : TypeId} {y : Value} {n : Nat} {ys : List Value}, W.ownsRow B T 1 y n ys → (∀ g, x.ownBlock = some g → y.ownBlock ≠ some g) → W'.ownsRow B T 1 y n ys := fun {T y n ys} hy hne =>
    hy.kept hg (by
      by_cases hyn : y.ownBlock = none
      · exact .inl hyn
      · refine .inr fun e => ?_
        obtain ⟨g, hgy⟩ := Option.ne_none_iff_exists'.1 hyn
        exact hne g (by rw [← e]; exact hgy) hgy)
  refine ⟨by rw [List.length_set]; exact kp h.outer hxo, fun j s hs => ?_, h.up⟩
  by_cases hij : i = j
  · subst hij
    have hlt : i < rows.length := by
      have := (List.getElem?_eq_some_iff.1 hs).1
      rwa [List.length_set] at this
    rw [List.getElem?_set_self hlt] at hs
    cases hs
    exact ⟨x, hx, ho⟩
  · rw [List.getElem?_set_ne hij] at hs
    obtain ⟨y, h1, h2⟩ := h.inner j s hs
    exact ⟨y, h1, kp h2 (fun g hg' => rise_ne h.up hx h1 hij hg')⟩

/-- Where the marks of a list begin. -/
def startAt (L : List (List (List UInt8))) : Nat → Nat
  | 0 => 1
  | i + 1 => startAt L i + (L.getD i []).length

theorem start_step (L : List (List (List UInt8))) (i : Nat) (h : i < L.length) : startAt L (i + 1) = startAt L i + (L[i]).length := by
  rw [startAt, List.getD_eq_getElem?_getD, List.getElem?_eq_getElem h]
  rfl

theorem start_le {L : List (List (List UInt8))} (hS : SmallReqs L) : ∀ i, i ≤ L.length → startAt L i ≤ 1 + 16 * i
  | 0, _ => by simp [startAt]
  | i + 1, h => by
    rw [start_step L i (by omega)]
    have h1 := start_le hS i (by omega)
    have h2 := (hS _ (List.getElem_mem (show i < L.length by omega))).1
    omega

theorem start_pos (L : List (List (List UInt8))) : ∀ i : Nat, 1 ≤ startAt L i
  | 0 => by simp [startAt]
  | i + 1 => by have := start_pos L i; rw [startAt]; omega

def markRows (L : List (List (List UInt8))) : List (List Value) := (List.range L.length).map fun i => marks (startAt L i) (L.getD i []).length

theorem markRows_len (L : List (List (List UInt8))) : (markRows L).length = L.length := by unfold markRows; simp
theorem markRows_at (L : List (List (List UInt8))) (i : Nat) (h : i < L.length) : (markRows L)[i]? = some (marks (startAt L i) (L[i]).length) := by
  unfold markRows
  rw [List.getElem?_map, List.getElem?_range h]
  show some (marks (startAt L i) (L.getD i []).length) = _
  rw [List.getD_eq_getElem?_getD, List.getElem?_eq_getElem h]
  rfl
theorem marks_len (s n : Nat) : (marks s n).length = n := by unfold marks; simp

theorem below_own {W W' : World} {B n : Nat} {x : Value} {xs : List Value} (h : W.ownsRow B 9 1 x n xs) (hg : W.grownBy W' x.ownBlock) (hB : B ≤ W.heap.size) : Below B W W' :=
  ⟨hg.os, hg.tape, hg.output, hg.size, fun k hk => hg.block k (by omega) (fun e => by have := (h.lt k e.symm).1; omega)⟩

set_option maxHeartbeats 2000000 in
set_option maxRecDepth 100000 in
theorem markSS_any (v : Value) (xs : List Value) (L : List (List (List UInt8))) (B : Nat) (w : World) (h : Own2 w B v xs (rowsOf L)) (hS : SmallReqs L) (hn : L.length ≤ 2097152) (hB : B ≤ w.heap.size) :
    Calls Tryd.prog 13 #[v, .int .i64 1] w fun e w' => e = .returned (.int .i64 (startAt L L.length)) ∧ Own2 w' B v xs (markRows L) ∧ Below B w w' := by
  have HS : Hid (SmallReqs L) := hS
  obtain ⟨a1, c1, hv1⟩ := slice_any h.outer
  rw [rowsOf_len] at hv1
  subst hv1
  have HI : Hid (Own2 w B (.slice a1 L.length c1) xs (rowsOf L)) := h
  clear h hS
  go_enter Tryd.func13, Tryd.ntmps13
  go_wp2
  go_loopw [1, 5] (fun m i wr => ∃ (k : Nat) (rows : List (List Value)), k ≤ L.length ∧ i = .int .i64 k ∧ m = .int .i64 (startAt L k) ∧ Hid (Own2 wr B (.slice a1 L.length c1) xs rows) ∧ Hid (rows.length = L.length ∧ (∀ j, j < k → rows[j]? = (markRows L)[j]?) ∧ (∀ j, k ≤ j → rows[j]? = (rowsOf L)[j]?)) ∧ Below B w wr) (fun _ i _ => L.length - (intOf i).toNat)
  case atStart => exact ⟨0, rowsOf L, by omega, rfl, by simp [startAt], HI.out, ⟨rowsOf_len L, fun j hj => by omega, fun j _ => rfl⟩, Below.refl _ _⟩
  case round =>
    obtain ⟨k, rows, hk, rfl, rfl, ho, hrows, bk⟩ := hrel
    have sk := bk.size
    clear HI
    by_cases hlt : k < L.length
    · have hr : rows[k]? = some (strVals L[k]) := by
        rw [hrows.out.2.2 k (Nat.le_refl _)]
        unfold rowsOf
        rw [List.getElem?_map, List.getElem?_eq_getElem hlt]
        rfl
      obtain ⟨x, hx, hox⟩ := ho.out.inner k _ hr
      rw [strVals_len] at hox
      have h16 : (L[k]).length ≤ 16 := (HS.out _ (List.getElem_mem hlt)).1
      have hst := start_le HS.out k hk
      have hst1 := start_pos L k
      have HM := markS_any (startAt L k) B x (L[k]).length _ wr hox (by omega) hst1 (by omega)
      have HST : Hid (startAt L (k + 1) = startAt L k + (L[k]).length) := start_step L k hlt
      have HOX : Hid _ := hox
      have HXk : Hid (xs[k]? = some x) := hx
      have hcell : ∃ A, a1 = some ⟨A, 0, none⟩ ∧ wr.cell? ⟨A, k, none⟩ = some x := by
        have hov := ho.out.outer
        rw [hrows.out.1] at hov
        obtain ⟨A, cap, e⟩ := Go.Joins.ownsRow_form hov (by omega)
        cases e
        have hc := hov.cells rfl k _ hx
        rw [Addr.add_lit, Nat.zero_add] at hc
        exact ⟨A, rfl, hc⟩
      obtain ⟨A, hA, hc⟩ := hcell
      obtain ⟨p1, k1, hxe⟩ := slice_any hox
      have HMr : Hid (markRows L)[k]?.isSome := by unfold Hid; rw [markRows_at L k hlt]; rfl
      have HMk : Hid ((markRows L)[k]? = some (marks (startAt L k) (L[k]).length)) := markRows_at L k hlt
      clear hox hx hr hst
      subst hxe
      generalize (L[k]).length = n at *
      generalize startAt L k = s at *
      subst hA
      go_wp2_with fail
      refine HM.mono ?_
      rintro e w1 ⟨rfl, o1, g1⟩
      have b1 := below_own HOX.out g1 (by omega)
      have H1 : Hid (Own2 w1 B (.slice (some ⟨A, 0, none⟩) L.length c1) xs (rows.set k (marks s n))) := own2_mark ho.out HXk.out (by rw [marks_len]; exact o1) g1 (fun g hg e => own_apart ho.out.outer HOX.out e hg)
      have HR1 : Hid ((rows.set k (marks s n)).length = L.length ∧ (∀ j, j < k + 1 → (rows.set k (marks s n))[j]? = (markRows L)[j]?) ∧ (∀ j, k + 1 ≤ j → (rows.set k (marks s n))[j]? = (rowsOf L)[j]?)) := by
        obtain ⟨r1, r2, r3⟩ := hrows.out
        refine ⟨by rw [List.length_set]; exact r1, fun j hj => ?_, fun j hj => ?_⟩
        · by_cases hjk : k = j
          · subst hjk
            rw [List.getElem?_set_self (by omega), HMk.out]
          · rw [List.getElem?_set_ne hjk]
            exact r2 j (by omega)
        · rw [List.getElem?_set_ne (by omega)]
          exact r3 j (by omega)
      clear o1 g1 ho hrows HM HOX
      go_wp2
      go_roundw
      case rel => exact ⟨k + 1, _, by omega, by go_num, by rw [HST.out]; simp, H1, HR1, bk.trans b1⟩
      case measure => simp [intOf]; omega
    · obtain rfl : k = L.length := by omega
      have HE : Hid (rows = markRows L) := by
        obtain ⟨r1, r2, _⟩ := hrows.out
        unfold Hid
        apply List.ext_getElem?
        intro i
        by_cases hi : i < L.length
        · exact r2 i hi
        · rw [List.getElem?_eq_none (by omega), List.getElem?_eq_none (by rw [markRows_len]; omega)]
      clear hrows
      go_wp2
      go_ret
      refine ⟨rfl, ?_, bk⟩
      rw [← HE.out]
      exact ho.out

set_option maxHeartbeats 2000000 in
set_option maxRecDepth 100000 in
theorem heldSS_any (v : Value) (xs : List Value) (L : List (List (List UInt8))) (B : Nat) (w : World) (h : Own2 w B v xs (markRows L)) (hS : SmallReqs L) (hn : L.length ≤ 2097152) :
    Calls Tryd.prog 14 #[v, .int .i64 1] w fun e w' => e = .returned (.int .i64 (startAt L L.length)) ∧ Below w.heap.size w w' := by
  have HS : Hid (SmallReqs L) := hS
  obtain ⟨a1, c1, hv1⟩ := slice_any h.outer
  rw [markRows_len] at hv1
  subst hv1
  have HI : Hid (Own2 w B (.slice a1 L.length c1) xs (markRows L)) := h
  clear h hS
  go_enter Tryd.func14, Tryd.ntmps14
  go_wp2
  go_loopw [1, 5] (fun m i wr => ∃ (k : Nat), k ≤ L.length ∧ i = .int .i64 k ∧ m = .int .i64 (startAt L k) ∧ Below w.heap.size w wr) (fun _ i _ => L.length - (intOf i).toNat)
  case atStart => exact ⟨0, by omega, rfl, by simp [startAt], Below.refl _ _⟩
  case round =>
    obtain ⟨k, hk, rfl, rfl, bk⟩ := hrel
    have sk := bk.size
    have ho := HI.out.below bk
    by_cases hlt : k < L.length
    · obtain ⟨x, hx, hox⟩ := ho.inner k _ (markRows_at L k hlt)
      rw [marks_len] at hox
      have h16 : (L[k]).length ≤ 16 := (HS.out _ (List.getElem_mem hlt)).1
      have hst := start_le HS.out k hk
      have hst1 := start_pos L k
      have HM := heldS_any (startAt L k) B x (L[k]).length wr hox (by omega) hst1 (by omega)
      have HST : Hid (startAt L (k + 1) = startAt L k + (L[k]).length) := start_step L k hlt
      have hcell : ∃ A, a1 = some ⟨A, 0, none⟩ ∧ wr.cell? ⟨A, k, none⟩ = some x := by
        have hov := ho.outer
        rw [markRows_len] at hov
        obtain ⟨A, cap, e⟩ := Go.Joins.ownsRow_form hov (by omega)
        cases e
        have hc := hov.cells rfl k _ hx
        rw [Addr.add_lit, Nat.zero_add] at hc
        exact ⟨A, rfl, hc⟩
      obtain ⟨A, hA, hc⟩ := hcell
      obtain ⟨p1, k1, hxe⟩ := slice_any hox
      clear hox hx hst ho
      subst hxe
      generalize (L[k]).length = n at *
      generalize startAt L k = s at *
      subst hA
      have hneg : decide ((s : Int) + (n : Int) < 0) = false := decide_eq_false (by omega)
      go_wp2_with fail
      refine HM.mono ?_
      rintro e w1 ⟨rfl, b1⟩
      clear HM
      go_wp2
      go_roundw
      case rel => exact ⟨k + 1, by omega, by go_num, by rw [HST.out]; simp, bk.trans (b1.mono sk)⟩
      case measure => simp [intOf]; omega
    · obtain rfl : k = L.length := by omega
      go_wp2
      go_ret
      exact ⟨rfl, bk⟩
end Go.Proofs.YtielombpeeelkaaDoor
