/- Marks from any number on: in texts, in pairs, in ranks. -/
import Derived.Test.YtapdoechmnjaeaaGreatDoorY5
namespace Go.Proofs.YtapdoechmnjaeaaGreatDoor
open Go.RowKit Go.Sort
open Kk (Rk rk0 texL texR decS scoreB rightB ranksB OwnR flatR encR markB RanksIn mrk marks marks_at marks_len mark_any)

/-- Marks in texts and in pairs, from a number on. -/
def smarksF (s0 n : Nat) : List ByteArray := (List.range n).map fun i => markB (s0 + i)
theorem smarksF_len (s0 n : Nat) : (smarksF s0 n).length = n := by simp [smarksF]
theorem smarksF_at (s0 n i : Nat) (h : i < n) : (smarksF s0 n).getD i ByteArray.empty = markB (s0 + i) := by
  unfold smarksF
  rw [List.getD_eq_getElem?_getD, List.getElem?_map, List.getElem?_range h]
  rfl
def pmarkF (s0 i : Nat) : Pr := (markB (s0 + 2 * i), markB (s0 + 2 * i + 1))
def pmarksF (s0 n : Nat) : List Pr := (List.range n).map (pmarkF s0)
theorem pmarksF_len (s0 n : Nat) : (pmarksF s0 n).length = n := by simp [pmarksF]
theorem pmarksF_at (s0 n i : Nat) (h : i < n) : (pmarksF s0 n).getD i (bz, bz) = pmarkF s0 i := by
  unfold pmarksF
  rw [List.getD_eq_getElem?_getD, List.getElem?_map, List.getElem?_range h]
  rfl

set_option maxHeartbeats 2000000 in
set_option maxRecDepth 100000 in
theorem markS_at (s0 B : Nat) (v : Value) (L : List ByteArray) (w : World) (h : OwnS w B v L) (hn : L.length ≤ 1000000) (h1s : 1 ≤ s0) (hs0 : s0 ≤ 100000000) :
    Calls Tryz.prog 57 #[v, .int .i64 (s0 : Nat)] w fun e w' => e = .returned (.int .i64 (s0 + L.length : Nat)) ∧ OwnS w' B v (smarksF s0 L.length) ∧ w.grownBy w' (Value.ownBlock v) := by
  generalize hnl : L.length = n at *
  obtain ⟨hxl, ⟨rfl, h0⟩ | ⟨g, cap, cur, rfl, hg, hh, hcap, hmax, hcs, htk⟩⟩ := h
  · obtain rfl : n = 0 := by omega
    refine (markS_nil none 0 s0 w).mono ?_
    rintro e w' ⟨rfl, rfl⟩
    exact ⟨rfl, ownS_nil _ _, grown_refl _ _⟩
  · rw [hnl] at hcap ⊢
    have hr0 : RowAt w g 9 cur := hh
    have hlt0 := hr0.lt
    have HM : Hid (cap ≤ maxLen) := hmax
    clear hh htk hxl hmax hnl
    go_enter Tryz.func57, Tryz.ntmps57
    go_wp2
    go_loopw [1, 5] (fun m i wr => ∃ (k : Nat) (D : Array Value), k ≤ n ∧ i = .int .i64 k ∧ m = .int .i64 ((s0 : Int) + (k : Int)) ∧ D.size = cap * 1 ∧ RowAt wr g 9 D ∧ Hid (∀ j, j < k → D[j]? = some (.string (markB (s0 + j)))) ∧ w.grownBy wr (some g)) (fun _ i _ => n - (intOf i).toNat)
    case atStart => exact ⟨0, cur, by omega, rfl, (by simp), hcs, hr0, fun j hj => by omega, grown_refl _ _⟩
    case round =>
      obtain ⟨k, D, hk, rfl, rfl, hD, hrow, hpre, gk⟩ := hrel
      have sk := gk.size
      by_cases hlt : k < n
      · have hkm : ((s0 : Int) + (k : Int)) = ((s0 + k : Nat) : Int) := by omega
        have HC : Hid (Calls Tryz.prog 56 #[.int .i64 ((s0 : Int) + (k : Int))] wr fun e w' => e = .returned (.string (markB (s0 + k))) ∧ Below wr.heap.size wr w') := by
          unfold Hid; rw [hkm]; exact Kk.mark_any (s0 + k) wr (by omega) (by omega)
        clear hkm
        go_wp2_with fail
        refine HC.out.mono ?_
        rintro e w1 ⟨rfl, b1⟩
        have hrow1 := hrow.below b1 (hrow.lt)
        have hg1 : w1.cell? ⟨g, k, none⟩ = some (D[k]'(by omega)) := by rw [hrow1.cell k]; simp
        have hfz := hrow1.frozen k
        have HR : Hid (RowAt (w1.setCell ⟨g, k, none⟩ (.string (markB (s0 + k)))) g 9 (D.setIfInBounds k (.string (markB (s0 + k))))) := hrow1.set k _
        have HG : Hid (w.grownBy (w1.setCell ⟨g, k, none⟩ (.string (markB (s0 + k)))) (some g)) := grown_trans (grown_below gk b1) (grown_set _ g k _)
        have HD : Hid (D.size = cap * 1) := hD
        generalize hDk : D[k]'(by omega) = old at *
        clear hDk hD hrow hrow1 HC b1 gk
        go_wp2
        go_roundw
        case rel =>
          refine ⟨k + 1, _, by omega, by go_num, by go_num, ?_, HR.out, ?_, HG.out⟩
          · rw [Array.size_setIfInBounds]; exact HD.out
          · intro j hj
            by_cases hjk : k = j
            · subst hjk
              rw [Array.getElem?_setIfInBounds_self_of_lt (by rw [HD.out]; omega)]
            · rw [Array.getElem?_setIfInBounds_ne hjk]
              exact hpre.out j (by omega)
        case measure => simp [intOf]; omega
      · obtain rfl : k = n := by omega
        have HO : Hid (OwnS wr B (.slice (some ⟨g, 0, none⟩) k cap) (smarksF s0 k)) := by
          unfold Hid OwnS
          rw [smarksF_len]
          refine ⟨by simp [smarksF, strV], .inr ⟨g, cap, D, rfl, hg, hrow, hcap, HM.out, hD, ?_⟩⟩
          apply List.ext_getElem?
          intro i
          by_cases hi : i < k
          · rw [Nat.mul_one, List.getElem?_take_of_lt hi, Array.getElem?_toList, hpre.out i hi]
            simp [strV, smarksF, hi]
          · rw [List.getElem?_eq_none (by simp; omega), List.getElem?_eq_none (by simp [smarksF, strV]; omega)]
        clear hrow hpre hD
        go_wp2
        go_ret
        exact ⟨ret_int (by omega), HO.out, gk⟩


set_option maxHeartbeats 2000000 in
set_option maxRecDepth 100000 in
theorem heldS_at (s0 : Nat) (a : Option Addr) (g n cap : Nat) (w : World) (h : StrsIn w a g 0 n (smarksF s0 n)) (hn : n ≤ 1000000) (h1s : 1 ≤ s0) (hs0 : s0 ≤ 100000000) :
    Calls Tryz.prog 60 #[.slice a n cap, .int .i64 (s0 : Nat)] w fun e w' => e = .returned (.int .i64 (s0 + n : Nat)) ∧ Below w.heap.size w w' := by
  have H : Hid (StrsIn w a g 0 n (smarksF s0 n)) := h
  clear h
  go_enter Tryz.func60, Tryz.ntmps60
  go_wp2
  go_loopw [1, 5] (fun m i wr => ∃ (k : Nat), k ≤ n ∧ i = .int .i64 k ∧ m = .int .i64 ((s0 : Int) + (k : Int)) ∧ Below w.heap.size w wr) (fun _ i _ => n - (intOf i).toNat)
  case atStart => exact ⟨0, by omega, rfl, (by simp), Below.refl _ _⟩
  case round =>
    obtain ⟨k, hk, rfl, rfl, bk⟩ := hrel
    have sk := bk.size
    by_cases hlt : k < n
    · have hkm : ((s0 : Int) + (k : Int)) = ((s0 + k : Nat) : Int) := by omega
      have cD : ∀ d os, Calls Tryz.prog 56 #[.int .i64 ((s0 : Int) + (k : Int))] (grow (redrawn wr d) os) fun e w'' => e = .returned (.string (markB (s0 + k))) ∧ ∃ p : Regrown, w'' = grow (redrawn wr p.d) p.os := fun d os => by
        rw [hkm]; exact Calls.regrown_of (Kk.mark_any (s0 + k) _ (by omega) (by omega))
      obtain rfl := H.out.addr (by omega)
      have hc := H.out.cell k hlt
      rw [Nat.zero_add, smarksF_at s0 n k hlt] at hc
      have kc := cell_regrown ((bk.cell (p := ⟨g, k, none⟩) (H.out.low (by omega))).trans hc)
      generalize markB (s0 + k) = mk at *
      clear hkm hc
      go_wp2
      refine wp_region_quiet_below (by kernel_rfl) (by kernel_rfl) ?_
      repeat (quiet_step (first | exact cD _ _))
      refine wpQuiet_nil ?_
      intro _ hw'
      obtain ⟨⟨dq, osq⟩, hw''⟩ := hw'
      subst hw''
      have bq := below_regrown wr dq osq
      generalize grow (redrawn wr dq) osq = wq at *
      go_wp2
      go_roundw
      case rel => exact ⟨k + 1, by omega, by go_num, by go_num, bk.trans (bq.mono bk.size)⟩
      case measure => simp [intOf]; omega
    · obtain rfl : k = n := by omega
      go_wp2
      go_ret
      exact ⟨ret_int (by omega), bk⟩

set_option maxHeartbeats 4000000 in
set_option maxRecDepth 100000 in
theorem markP_at (s0 B : Nat) (v : Value) (L : List Pr) (w : World) (h : OwnP w B v L) (hn : L.length ≤ 1048577) (h1s : 1 ≤ s0) (hs0 : s0 ≤ 100000000) :
    Calls Tryz.prog 58 #[v, .int .i64 (s0 : Nat)] w fun e w' => e = .returned (.int .i64 (s0 + 2 * L.length : Nat)) ∧ OwnP w' B v (pmarksF s0 L.length) ∧ w.grownBy w' (Value.ownBlock v) := by
  generalize hnl : L.length = n at *
  obtain ⟨hxl, ⟨rfl, h0⟩ | ⟨g, cap, cur, rfl, hg, hh, hcap, hmax, hcs, htk⟩⟩ := h
  · obtain rfl : n = 0 := by omega
    refine (markP_nil none 0 s0 w).mono ?_
    rintro e w' ⟨rfl, rfl⟩
    exact ⟨rfl, ownP_nil _ _, grown_refl _ _⟩
  · rw [hnl] at hcap ⊢
    have hr0 : RowAt w g 139 cur := hh
    have hlt0 := hr0.lt
    have HM : Hid (cap ≤ maxLen) := hmax
    clear hh htk hxl hmax hnl
    go_enter Tryz.func58, Tryz.ntmps58
    go_wp2
    go_loopw [1, 5] (fun m i wr => ∃ (k : Nat) (D : Array Value), k ≤ n ∧ i = .int .i64 k ∧ m = .int .i64 (s0 + 2 * k : Nat) ∧ D.size = cap * 2 ∧ RowAt wr g 139 D ∧ Hid (PreP D (pmarksF s0 n) k) ∧ w.grownBy wr (some g)) (fun _ i _ => n - (intOf i).toNat)
    case atStart => exact ⟨0, cur, by omega, rfl, rfl, hcs, hr0, fun j hj => by omega, grown_refl _ _⟩
    case round =>
      obtain ⟨k, D, hk, rfl, rfl, hD, hrow, hpre, gk⟩ := hrel
      have sk := gk.size
      by_cases hlt : k < n
      · have HX : Hid ((pmarksF s0 n).getD k (bz, bz) = (markB (s0 + 2 * k), markB (s0 + 2 * k + 1))) := pmarksF_at s0 n k hlt
        have cM := Kk.mark_any (s0 + 2 * k) wr (by omega) (by omega)
        have cN : Hid (∀ W, Calls Tryz.prog 56 #[.int .i64 ((s0 + 2 * k + 1 : Nat) : Int)] W fun e w' => e = .returned (.string (markB (s0 + 2 * k + 1))) ∧ Below W.heap.size W w') := fun W => Kk.mark_any (s0 + 2 * k + 1) W (by omega) (by omega)
        have hkn : k ≤ 1048577 := by omega
        generalize hK : s0 + 2 * k = K at *
        have hKb : K ≤ 105000000 := by omega
        have cN2 : Hid (∀ W, Calls Tryz.prog 56 #[.int .i64 ((K : Int) + 1)] W fun e w' => e = .returned (.string (markB (K + 1))) ∧ Below W.heap.size W w') := cN.out
        go_wp2_with fail
        refine cM.mono ?_
        rintro e w1 ⟨rfl, b1⟩
        have hrow1 := hrow.below b1 hrow.lt
        have HD : Hid (D.size = cap * 2) := hD
        have hD2 : k * 2 + 1 < D.size := by rw [hD]; omega
        have t0 : w1.cell? ⟨g, k * 2, none⟩ = some (D[k * 2]'(by omega)) := by rw [hrow1.cell]; simp
        have f0 := hrow1.frozen (k * 2)
        have HR2 : Hid (RowAt (w1.setCell ⟨g, k * 2, none⟩ (.string (markB K))) g 139 (D.setIfInBounds (k * 2) (.string (markB K)))) := hrow1.set (k * 2) (.string (markB K))
        have HG2 : Hid (w.grownBy (w1.setCell ⟨g, k * 2, none⟩ (.string (markB K))) (some g)) := grown_trans (grown_below gk b1) (grown_set w1 g (k * 2) (.string (markB K)))
        have HP : Hid (PreP ((D.setIfInBounds (k * 2) (.string (markB K))).setIfInBounds (k * 2 + 1) (.string (markB (K + 1)))) (pmarksF s0 n) (k + 1)) := preP_put hpre.out hD2 HX.out
        have HT : Hid ((D.setIfInBounds (k * 2) (.string (markB K)))[k * 2 + 1]? = some (D[k * 2 + 1]'(by omega))) := by unfold Hid; rw [Array.getElem?_setIfInBounds_ne (by omega)]; simp
        generalize D[k * 2]'(by omega) = y0 at *
        generalize D[k * 2 + 1]'(by omega) = y1 at *
        have HKK : Hid (s0 + 2 * k = K) := hK
        clear hK hD hrow hrow1 hpre cM b1 gk HX cN
        generalize markB K = mk at *
        go_wp2_with fail
        refine (cN2.out _).mono ?_
        rintro e w2 ⟨rfl, b2⟩
        have hrow2 := HR2.out.below b2 HR2.out.lt
        have t1 : w2.cell? ⟨g, k * 2 + 1, none⟩ = some y1 := (hrow2.cell (k * 2 + 1)).trans HT.out
        have f1 := hrow2.frozen (k * 2 + 1)
        have HR : Hid (RowAt (w2.setCell ⟨g, k * 2 + 1, none⟩ (.string (markB (K + 1)))) g 139 _) := hrow2.set (k * 2 + 1) (.string (markB (K + 1)))
        have HG : Hid (w.grownBy (w2.setCell ⟨g, k * 2 + 1, none⟩ (.string (markB (K + 1)))) (some g)) := grown_trans (grown_below HG2.out b2) (grown_set _ g (k * 2 + 1) (.string (markB (K + 1))))
        clear hrow2 b2 HR2 HG2 cN2 t0 f0
        generalize markB (K + 1) = mk2 at *
        go_wp2
        go_roundw
        case rel => exact ⟨k + 1, _, by omega, by go_num, congrArg (Value.int .i64) (by have := HKK.out; omega), by rw [Array.size_setIfInBounds, Array.size_setIfInBounds, HD.out], HR.out, HP, HG.out⟩
        case measure => simp [intOf]; omega
      · obtain rfl : k = n := by omega
        have HO : Hid (OwnP wr B (.slice (some ⟨g, 0, none⟩) k cap) (pmarksF s0 k)) := by
          have := rowP_owns (B := B) hrow hD (by rw [pmarksF_len]; exact hpre.out) (by rw [pmarksF_len]; exact hcap) HM.out hg
          rw [pmarksF_len] at this
          exact this
        clear hrow hpre hD
        go_wp2
        go_ret
        exact ⟨rfl, HO.out, gk⟩


set_option maxHeartbeats 4000000 in
set_option maxRecDepth 100000 in
theorem heldP_at (s0 : Nat) (a : Option Addr) (A n c : Nat) (w : World) (h : PairsIn w a A n (pmarksF s0 n)) (hn : n ≤ 1048577) (h1s : 1 ≤ s0) (hs0 : s0 ≤ 100000000) :
    Calls Tryz.prog 61 #[.slice a n c, .int .i64 (s0 : Nat)] w fun e w' => e = .returned (.int .i64 (s0 + 2 * n : Nat)) ∧ Below w.heap.size w w' := by
  have H : Hid (PairsIn w a A n (pmarksF s0 n)) := h
  clear h
  go_enter Tryz.func61, Tryz.ntmps61
  go_wp2
  go_loopw [1, 5] (fun m i wr => ∃ (k : Nat), k ≤ n ∧ i = .int .i64 k ∧ m = .int .i64 (s0 + 2 * k : Nat) ∧ Below w.heap.size w wr) (fun _ i _ => n - (intOf i).toNat)
  case atStart => exact ⟨0, by omega, rfl, rfl, Below.refl _ _⟩
  case round =>
    obtain ⟨k, hk, rfl, rfl, bk⟩ := hrel
    have sk := bk.size
    by_cases hlt : k < n
    · have HW := H.out.below bk
      obtain rfl := HW.addr (by omega)
      have c0 := HW.c0 k hlt
      have c1 := HW.c1 k hlt
      rw [pmarksF_at s0 n k hlt] at c0 c1
      have cM : ∀ d os, Calls Tryz.prog 56 #[.int .i64 (s0 + 2 * k : Nat)] (grow (redrawn wr d) os) fun e w'' => e = .returned (.string (markB (s0 + 2 * k))) ∧ ∃ p : Regrown, w'' = grow (redrawn wr p.d) p.os := fun d os => Calls.regrown_of (Kk.mark_any (s0 + 2 * k) _ (by omega) (by omega))
      have cN : ∀ W, Calls Tryz.prog 56 #[.int .i64 (s0 + 2 * k + 1 : Nat)] W fun e w'' => e = .returned (.string (markB (s0 + 2 * k + 1))) ∧ Below W.heap.size W w'' := fun W => Kk.mark_any (s0 + 2 * k + 1) W (by omega) (by omega)
      unfold pmarkF at c0 c1
      generalize hK : s0 + 2 * k = K at *
      have hKb : K ≤ 105000000 := by omega
      have hlow := HW.low (by omega)
      have HKK : Hid (s0 + 2 * k = K) := hK
      clear HW hK
      dsimp only at c0 c1
      have kc0 := cell_regrown c0
      generalize markB K = mk at *
      generalize markB (K + 1) = mk2 at *
      have hbm : ∀ wq, Below wr.heap.size wr wq → wq.cell? ⟨A, k * 2 + 1, none⟩ = some (.string mk2) := fun wq hb => (hb.cell (p := ⟨A, k * 2 + 1, none⟩) hlow).trans c1
      clear c0 c1
      go_wp2
      refine wp_region_quiet_below (by kernel_rfl) (by kernel_rfl) ?_
      repeat (quiet_step (first | exact cM _ _))
      refine wpQuiet_nil ?_
      intro _ hw'
      obtain ⟨⟨dq, osq⟩, hw''⟩ := hw'
      subst hw''
      have bq := below_regrown wr dq osq
      have c1 := hbm _ bq
      have bkq := bk.trans (bq.mono sk)
      have skq := bkq.size
      generalize grow (redrawn wr dq) osq = wq at *
      have cN2 : ∀ d os, Calls Tryz.prog 56 #[.int .i64 ((K : Int) + 1)] (grow (redrawn wq d) os) fun e w'' => e = .returned (.string mk2) ∧ ∃ p : Regrown, w'' = grow (redrawn wq p.d) p.os := fun d os => Calls.regrown_of (cN _)
      have kc1 := cell_regrown c1
      clear kc0 cM hbm cN bq
      go_wp2
      refine wp_region_quiet_below (by kernel_rfl) (by kernel_rfl) ?_
      repeat (quiet_step (first | exact cN2 _ _))
      refine wpQuiet_nil ?_
      intro _ hw'
      obtain ⟨⟨dp, osp⟩, hw''⟩ := hw'
      subst hw''
      have bp := below_regrown wq dp osp
      generalize grow (redrawn wq dp) osp = wp at *
      clear kc1 cN2
      go_wp2
      go_roundw
      case rel => exact ⟨k + 1, by omega, by go_num, congrArg (Value.int .i64) (by have := HKK.out; omega), bkq.trans (bp.mono skq)⟩
      case measure => simp [intOf]; omega
    · obtain rfl : k = n := by omega
      go_wp2
      go_ret
      exact ⟨rfl, bk⟩

set_option maxHeartbeats 4000000 in
set_option maxRecDepth 100000 in
theorem heldR_at (s0 : Nat) (a : Option Addr) (A n c : Nat) (w : World) (hin : RanksIn w a A 0 n (marks s0 n)) (hn : n ≤ 1048577) (h1s : 1 ≤ s0) (hs0 : s0 ≤ 100000000) :
    Calls Tryz.prog 62 #[.slice a n c, .int .i64 (s0 : Nat)] w fun e w' => e = .returned (.int .i64 (s0 + 2 * n : Nat)) ∧ Below w.heap.size w w' := by
  have H : Hid (RanksIn w a A 0 n (marks s0 n)) := hin
  clear hin
  go_enter Tryz.func62, Tryz.ntmps62
  go_wp2
  go_loopw [1, 5] (fun m i wr => ∃ (k : Nat), k ≤ n ∧ i = .int .i64 k ∧ m = .int .i64 (s0 + 2 * k : Nat) ∧ Below w.heap.size w wr) (fun _ i _ => n - (intOf i).toNat)
  case atStart => exact ⟨0, by omega, rfl, rfl, Below.refl _ _⟩
  case round =>
    obtain ⟨k, hk, rfl, rfl, bk⟩ := hrel
    have sk := bk.size
    by_cases hlt : k < n
    · have HW := H.out.below bk
      have hx := HW.cell k hlt
      obtain rfl := HW.addr (by omega)
      rw [marks_at s0 n k hlt, Nat.zero_add] at hx
      have cM : ∀ d os, Calls Tryz.prog 56 #[.int .i64 (s0 + 2 * k : Nat)] (grow (redrawn wr d) os) fun e w'' => e = .returned (.string (markB (s0 + 2 * k))) ∧ ∃ p : Regrown, w'' = grow (redrawn wr p.d) p.os := fun d os => Calls.regrown_of (mark_any (s0 + 2 * k) _ (by omega) (by omega))
      have HK : Hid (s0 + 2 * (k + 1) = s0 + 2 * k + 2) := by unfold Hid; omega
      generalize hK : s0 + 2 * k = K at *
      have hKb : K ≤ 105000000 := by omega
      have c0 : wr.cell? ⟨A, k * 2, none⟩ = some (.string (markB K)) := by have := hx.c0; unfold mrk at this; rwa [hK] at this
      have c1 : wr.cell? ⟨A, k * 2 + 1, none⟩ = some (.int .i64 ((K : Int) + 1)) := by have := hx.c1; unfold mrk at this; rw [hK] at this; exact this
      have hlow := HW.low (by omega)
      have HKK : Hid (s0 + 2 * k = K) := hK
      clear hx HW hK
      have kc0 := cell_regrown c0
      generalize markB K = mk at *
      have hbm : ∀ wq, Below wr.heap.size wr wq → wq.cell? ⟨A, k * 2 + 1, none⟩ = some (.int .i64 ((K : Int) + 1)) := fun wq hb => (hb.cell (p := ⟨A, k * 2 + 1, none⟩) hlow).trans c1
      clear c0 c1
      go_wp2
      refine wp_region_quiet_below (by kernel_rfl) (by kernel_rfl) ?_
      repeat (quiet_step (first | exact cM _ _))
      refine wpQuiet_nil ?_
      intro _ hw'
      obtain ⟨⟨dq, osq⟩, hw''⟩ := hw'
      subst hw''
      have bq := below_regrown wr dq osq
      have c1 := hbm _ bq
      generalize grow (redrawn wr dq) osq = wq at *
      clear kc0 cM hbm
      go_wp2
      go_roundw
      case rel => exact ⟨k + 1, by omega, by go_num, congrArg (Value.int .i64) (by have := HKK.out; omega), bk.trans (bq.mono sk)⟩
      case measure => simp [intOf]; omega
    · obtain rfl : k = n := by omega
      go_wp2
      go_ret
      exact ⟨rfl, bk⟩

end Go.Proofs.YtapdoechmnjaeaaGreatDoor
namespace Go.Proofs.YtapdoechmnjaeaaGreatDoor.Kk
open Go.RowKit Go.Sort

set_option maxHeartbeats 4000000 in
set_option maxRecDepth 100000 in
theorem markR_at (s0 B : Nat) (v : Value) (L : List Rk) (w : World) (h : OwnR w B v L) (hn : L.length ≤ 1048577) (h1s : 1 ≤ s0) (hs0 : s0 ≤ 100000000) :
    Calls Tryz.prog 59 #[v, .int .i64 (s0 : Nat)] w fun e w' => e = .returned (.int .i64 (s0 + 2 * L.length : Nat)) ∧ OwnR w' B v (marks s0 L.length) ∧ w.grownBy w' (Value.ownBlock v) := by
  generalize hnl : L.length = n at *
  obtain ⟨hxl, ⟨rfl, h0⟩ | ⟨g, cap, cur, rfl, hg, hh, hcap, hmax, hcs, htk⟩⟩ := h
  · obtain rfl : n = 0 := by omega
    clear hnl h0 hxl
    go_enter Tryz.func59, Tryz.ntmps59
    go_wp2
    refine wp_loop_rounds 1 ?_
    rw [rounds_succ]
    go_wp2
    go_ret
    exact ⟨rfl, ownR_nil _ _, grown_refl _ _⟩
  · rw [hnl] at hcap ⊢
    have hr0 : RowAt w g 143 cur := hh
    have hlt0 := hr0.lt
    have HM : Hid (cap ≤ maxLen) := hmax
    clear hh htk hxl hmax hnl
    go_enter Tryz.func59, Tryz.ntmps59
    go_wp2
    go_loopw [1, 5] (fun m i wr => ∃ (k : Nat) (D : Array Value), k ≤ n ∧ i = .int .i64 k ∧ m = .int .i64 (s0 + 2 * k : Nat) ∧ D.size = cap * 2 ∧ RowAt wr g 143 D ∧ Hid (PreR D (marks s0 n) k) ∧ w.grownBy wr (some g)) (fun _ i _ => n - (intOf i).toNat)
    case atStart => exact ⟨0, cur, by omega, rfl, rfl, hcs, hr0, fun j hj => by omega, grown_refl _ _⟩
    case round =>
      obtain ⟨k, D, hk, rfl, rfl, hD, hrow, hpre, gk⟩ := hrel
      have sk := gk.size
      by_cases hlt : k < n
      · have HX : Hid ((marks s0 n).getD k rk0 = ⟨markB (s0 + 2 * k), ((s0 + 2 * k + 1 : Nat) : Int)⟩) := marks_at s0 n k hlt
        have cM := mark_any (s0 + 2 * k) wr (by omega) (by omega)
        have HK : Hid (s0 + 2 * (k + 1) = s0 + 2 * k + 2) := by unfold Hid; omega
        generalize hK : s0 + 2 * k = K at *
        have hKb : K ≤ 105000000 := by omega
        go_wp2_with fail
        refine cM.mono ?_
        rintro e w1 ⟨rfl, b1⟩
        have hrow1 := hrow.below b1 hrow.lt
        have HD : Hid (D.size = cap * 2) := hD
        have hD2 : k * 2 + 1 < D.size := by rw [hD]; omega
        have t0 : w1.cell? ⟨g, k * 2, none⟩ = some (D[k * 2]'(by omega)) := by rw [hrow1.cell]; simp
        have f0 := hrow1.frozen (k * 2)
        have hrow2 := hrow1.set (k * 2) (.string (markB K))
        have t1 : (w1.setCell ⟨g, k * 2, none⟩ (.string (markB K))).cell? ⟨g, k * 2 + 1, none⟩ = some (D[k * 2 + 1]'(by omega)) := by rw [hrow2.cell, Array.getElem?_setIfInBounds_ne (by omega)]; simp
        have f1 := hrow2.frozen (k * 2 + 1)
        have HR : Hid (RowAt _ g 143 _) := hrow2.set (k * 2 + 1) (.int .i64 ((K : Int) + 1))
        have HP : Hid (PreR _ (marks s0 n) (k + 1)) := pre_put hpre.out hD2 (s := (K : Int) + 1) (by rw [HX.out]; rfl)
        have HG : Hid _ := grown_trans (grown_trans (grown_below gk b1) (grown_set w1 g (k * 2) (.string (markB K)))) (grown_set _ g (k * 2 + 1) (.int .i64 ((K : Int) + 1)))
        generalize D[k * 2]'(by omega) = y0 at *
        generalize D[k * 2 + 1]'(by omega) = y1 at *
        have HKK : Hid (s0 + 2 * k = K) := hK
        clear hK hD hrow hrow1 hrow2 hpre cM b1 gk HX
        generalize markB K = mk at *
        go_wp2
        go_roundw
        case rel => exact ⟨k + 1, _, by omega, by go_num, congrArg (Value.int .i64) (by have := HKK.out; omega), by rw [Array.size_setIfInBounds, Array.size_setIfInBounds, HD.out], HR.out, HP, HG.out⟩
        case measure => simp [intOf]; omega
      · obtain rfl : k = n := by omega
        have HO : Hid (OwnR wr B (.slice (some ⟨g, 0, none⟩) k cap) (marks s0 k)) := by
          have := row_owns (B := B) hrow hD (by rw [marks_len]; exact hpre.out) (by rw [marks_len]; exact hcap) HM.out hg
          rw [marks_len] at this
          exact this
        clear hrow hpre hD
        go_wp2
        go_ret
        exact ⟨rfl, HO.out, gk⟩

end Go.Proofs.YtapdoechmnjaeaaGreatDoor.Kk
