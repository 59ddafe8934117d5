/- Marks in pairs: written into an answer's own memory, and found there again. -/
import Derived.Test.YticajcagcdbgpaaDoorY2
namespace Go.Proofs.YticajcagcdbgpaaDoor
open Go.RowKit Go.Sort
open Kk (Rk rk0 texL texR decS scoreB rightB ranksB OwnR flatR encR markB)

def PreP (D : Array Value) (L : List Pr) (k : Nat) : Prop := ∀ i, i < k → D[i * 2]? = some (.string (L.getD i (bz, bz)).1) ∧ D[i * 2 + 1]? = some (.string (L.getD i (bz, bz)).2)

theorem preP_put {D : Array Value} {L : List Pr} {k : Nat} {m s : ByteArray} (h : PreP D L k) (hD : k * 2 + 1 < D.size) (hx : L.getD k (bz, bz) = (m, s)) : PreP ((D.setIfInBounds (k * 2) (.string m)).setIfInBounds (k * 2 + 1) (.string s)) L (k + 1) := fun i hi => by
  by_cases e : i = k
  · subst e
    rw [hx]
    refine ⟨?_, ?_⟩
    · rw [Array.getElem?_setIfInBounds_ne (by omega), Array.getElem?_setIfInBounds_self_of_lt (by omega)]
    · rw [Array.getElem?_setIfInBounds_self_of_lt (by rw [Array.size_setIfInBounds]; omega)]
  · obtain ⟨h0, h1⟩ := h i (by omega)
    refine ⟨?_, ?_⟩
    · rw [Array.getElem?_setIfInBounds_ne (by omega), Array.getElem?_setIfInBounds_ne (by omega)]; exact h0
    · rw [Array.getElem?_setIfInBounds_ne (by omega), Array.getElem?_setIfInBounds_ne (by omega)]; exact h1

theorem flatPV_len : ∀ ps : List Pr, (flatPV ps).length = ps.length * 2
  | [] => rfl
  | p :: ps => by
    have e : flatPV (p :: ps) = .string p.1 :: .string p.2 :: flatPV ps := rfl
    rw [e, List.length_cons, List.length_cons, flatPV_len ps, List.length_cons]
    omega

theorem preP_flat {D : Array Value} {L : List Pr} (h : PreP D L L.length) : D.toList.take (L.length * 2) = flatPV L := by
  apply List.ext_getElem?
  intro j
  by_cases hj : j < L.length * 2
  · rw [List.getElem?_take, if_pos hj, Array.getElem?_toList]
    have hi : j / 2 < L.length := by omega
    obtain ⟨f0, f1⟩ := flatPV_at L (j / 2) hi
    obtain ⟨h0, h1⟩ := h (j / 2) hi
    rcases Nat.mod_two_eq_zero_or_one j with hm | hm
    · rw [show j / 2 * 2 = j by omega] at f0 h0
      rw [f0, h0]
    · rw [show j / 2 * 2 + 1 = j by omega] at f1 h1
      rw [f1, h1]
  · rw [List.getElem?_take, if_neg hj, List.getElem?_eq_none (by rw [flatPV_len]; omega)]

theorem rowP_owns {w : World} {g cap B : Nat} {D : Array Value} {L : List Pr} (h : RowAt w g 33 D) (hD : D.size = cap * 2) (hp : PreP D L L.length) (hc : L.length ≤ cap) (hm : cap ≤ maxLen) (hB : B ≤ g) : OwnP w B (.slice (some ⟨g, 0, none⟩) L.length cap) L :=
  ⟨by rw [flatPV_len], .inr ⟨g, cap, D, rfl, hB, h, hc, hm, hD, preP_flat hp⟩⟩

/-- The marks of pairs, from 1 on. -/
def pmark (i : Nat) : Pr := (markB (1 + 2 * i), markB (1 + 2 * i + 1))
def pmarks (n : Nat) : List Pr := (List.range n).map pmark
theorem pmarks_len (n : Nat) : (pmarks n).length = n := by simp [pmarks]
theorem pmarks_at (n i : Nat) (h : i < n) : (pmarks n).getD i (bz, bz) = pmark i := by
  unfold pmarks
  rw [List.getD_eq_getElem?_getD, List.getElem?_map, List.getElem?_range h]
  rfl

set_option maxHeartbeats 4000000 in
set_option maxRecDepth 100000 in
theorem markP_any (B : Nat) (v : Value) (L : List Pr) (w : World) (h : OwnP w B v L) (hn : L.length ≤ 1048577) :
    Calls Tryd.prog 18 #[v, .int .i64 1] w fun e w' => e = .returned (.int .i64 (1 + 2 * L.length : Nat)) ∧ OwnP w' B v (pmarks L.length) ∧ w.grownBy w' (Value.ownBlock v) := by
  generalize hnl : L.length = n at *
  obtain ⟨hxl, ⟨rfl, h0⟩ | ⟨g, cap, cur, rfl, hg, hh, hcap, hmax, hcs, htk⟩⟩ := h
  · obtain rfl : n = 0 := by omega
    refine (markP_nil none 0 1 w).mono ?_
    rintro e w' ⟨rfl, rfl⟩
    exact ⟨rfl, ownP_nil _ _, grown_refl _ _⟩
  · rw [hnl] at hcap ⊢
    have hr0 : RowAt w g 33 cur := hh
    have hlt0 := hr0.lt
    have HM : Hid (cap ≤ maxLen) := hmax
    clear hh htk hxl hmax hnl
    go_enter Tryd.func18, Tryd.ntmps18
    go_wp2
    go_loopw [1, 5] (fun m i wr => ∃ (k : Nat) (D : Array Value), k ≤ n ∧ i = .int .i64 k ∧ m = .int .i64 (1 + 2 * k : Nat) ∧ D.size = cap * 2 ∧ RowAt wr g 33 D ∧ Hid (PreP D (pmarks n) k) ∧ w.grownBy wr (some g)) (fun _ i _ => n - (intOf i).toNat)
    case atStart => exact ⟨0, cur, by omega, rfl, rfl, hcs, hr0, fun j hj => by omega, grown_refl _ _⟩
    case round =>
      obtain ⟨k, D, hk, rfl, rfl, hD, hrow, hpre, gk⟩ := hrel
      have sk := gk.size
      by_cases hlt : k < n
      · have HX : Hid ((pmarks n).getD k (bz, bz) = (markB (1 + 2 * k), markB (1 + 2 * k + 1))) := pmarks_at n k hlt
        have cM := Kk.mark_any (1 + 2 * k) wr (by omega) (by omega)
        have cN : Hid (∀ W, Calls Tryd.prog 32 #[.int .i64 ((1 + 2 * k + 1 : Nat) : Int)] W fun e w' => e = .returned (.string (markB (1 + 2 * k + 1))) ∧ Below W.heap.size W w') := fun W => Kk.mark_any (1 + 2 * k + 1) W (by omega) (by omega)
        have hkn : k ≤ 1048577 := by omega
        generalize hK : 1 + 2 * k = K at *
        have hKb : K ≤ 105000000 := by omega
        have cN2 : Hid (∀ W, Calls Tryd.prog 32 #[.int .i64 ((K : Int) + 1)] W fun e w' => e = .returned (.string (markB (K + 1))) ∧ Below W.heap.size W w') := cN.out
        go_wp2_with fail
        refine cM.mono ?_
        rintro e w1 ⟨rfl, b1⟩
        have hrow1 := hrow.below b1 hrow.lt
        have HD : Hid (D.size = cap * 2) := hD
        have hD2 : k * 2 + 1 < D.size := by rw [hD]; omega
        have t0 : w1.cell? ⟨g, k * 2, none⟩ = some (D[k * 2]'(by omega)) := by rw [hrow1.cell]; simp
        have f0 := hrow1.frozen (k * 2)
        have HR2 : Hid (RowAt (w1.setCell ⟨g, k * 2, none⟩ (.string (markB K))) g 33 (D.setIfInBounds (k * 2) (.string (markB K)))) := hrow1.set (k * 2) (.string (markB K))
        have HG2 : Hid (w.grownBy (w1.setCell ⟨g, k * 2, none⟩ (.string (markB K))) (some g)) := grown_trans (grown_below gk b1) (grown_set w1 g (k * 2) (.string (markB K)))
        have HP : Hid (PreP ((D.setIfInBounds (k * 2) (.string (markB K))).setIfInBounds (k * 2 + 1) (.string (markB (K + 1)))) (pmarks n) (k + 1)) := preP_put hpre.out hD2 HX.out
        have HT : Hid ((D.setIfInBounds (k * 2) (.string (markB K)))[k * 2 + 1]? = some (D[k * 2 + 1]'(by omega))) := by unfold Hid; rw [Array.getElem?_setIfInBounds_ne (by omega)]; simp
        generalize D[k * 2]'(by omega) = y0 at *
        generalize D[k * 2 + 1]'(by omega) = y1 at *
        have HKK : Hid (1 + 2 * k = K) := hK
        clear hK hD hrow hrow1 hpre cM b1 gk HX cN
        generalize markB K = mk at *
        go_wp2_with fail
        refine (cN2.out _).mono ?_
        rintro e w2 ⟨rfl, b2⟩
        have hrow2 := HR2.out.below b2 HR2.out.lt
        have t1 : w2.cell? ⟨g, k * 2 + 1, none⟩ = some y1 := (hrow2.cell (k * 2 + 1)).trans HT.out
        have f1 := hrow2.frozen (k * 2 + 1)
        have HR : Hid (RowAt (w2.setCell ⟨g, k * 2 + 1, none⟩ (.string (markB (K + 1)))) g 33 _) := hrow2.set (k * 2 + 1) (.string (markB (K + 1)))
        have HG : Hid (w.grownBy (w2.setCell ⟨g, k * 2 + 1, none⟩ (.string (markB (K + 1)))) (some g)) := grown_trans (grown_below HG2.out b2) (grown_set _ g (k * 2 + 1) (.string (markB (K + 1))))
        clear hrow2 b2 HR2 HG2 cN2 t0 f0
        generalize markB (K + 1) = mk2 at *
        go_wp2
        go_roundw
        case rel => exact ⟨k + 1, _, by omega, by go_num, congrArg (Value.int .i64) (by have := HKK.out; omega), by rw [Array.size_setIfInBounds, Array.size_setIfInBounds, HD.out], HR.out, HP, HG.out⟩
        case measure => simp [intOf]; omega
      · obtain rfl : k = n := by omega
        have HO : Hid (OwnP wr B (.slice (some ⟨g, 0, none⟩) k cap) (pmarks k)) := by
          have := rowP_owns (B := B) hrow hD (by rw [pmarks_len]; exact hpre.out) (by rw [pmarks_len]; exact hcap) HM.out hg
          rw [pmarks_len] at this
          exact this
        clear hrow hpre hD
        go_wp2
        go_ret
        exact ⟨rfl, HO.out, gk⟩

set_option maxHeartbeats 4000000 in
set_option maxRecDepth 100000 in
theorem heldP_any (a : Option Addr) (A n c : Nat) (w : World) (h : PairsIn w a A n (pmarks n)) (hn : n ≤ 1048577) :
    Calls Tryd.prog 21 #[.slice a n c, .int .i64 1] w fun e w' => e = .returned (.int .i64 (1 + 2 * n : Nat)) ∧ Below w.heap.size w w' := by
  have H : Hid (PairsIn w a A n (pmarks n)) := h
  clear h
  go_enter Tryd.func21, Tryd.ntmps21
  go_wp2
  go_loopw [1, 5] (fun m i wr => ∃ (k : Nat), k ≤ n ∧ i = .int .i64 k ∧ m = .int .i64 (1 + 2 * k : Nat) ∧ Below w.heap.size w wr) (fun _ i _ => n - (intOf i).toNat)
  case atStart => exact ⟨0, by omega, rfl, rfl, Below.refl _ _⟩
  case round =>
    obtain ⟨k, hk, rfl, rfl, bk⟩ := hrel
    have sk := bk.size
    by_cases hlt : k < n
    · have HW := H.out.below bk
      obtain rfl := HW.addr (by omega)
      have c0 := HW.c0 k hlt
      have c1 := HW.c1 k hlt
      rw [pmarks_at n k hlt] at c0 c1
      have cM : ∀ d os, Calls Tryd.prog 32 #[.int .i64 (1 + 2 * k : Nat)] (grow (redrawn wr d) os) fun e w'' => e = .returned (.string (markB (1 + 2 * k))) ∧ ∃ p : Regrown, w'' = grow (redrawn wr p.d) p.os := fun d os => Calls.regrown_of (Kk.mark_any (1 + 2 * k) _ (by omega) (by omega))
      have cN : ∀ W, Calls Tryd.prog 32 #[.int .i64 (1 + 2 * k + 1 : Nat)] W fun e w'' => e = .returned (.string (markB (1 + 2 * k + 1))) ∧ Below W.heap.size W w'' := fun W => Kk.mark_any (1 + 2 * k + 1) W (by omega) (by omega)
      unfold pmark at c0 c1
      generalize hK : 1 + 2 * k = K at *
      have hKb : K ≤ 105000000 := by omega
      have hlow := HW.low (by omega)
      have HKK : Hid (1 + 2 * k = K) := hK
      clear HW hK
      dsimp only at c0 c1
      have kc0 := cell_regrown c0
      generalize markB K = mk at *
      generalize markB (K + 1) = mk2 at *
      have hbm : ∀ wq, Below wr.heap.size wr wq → wq.cell? ⟨A, k * 2 + 1, none⟩ = some (.string mk2) := fun wq hb => (hb.cell (p := ⟨A, k * 2 + 1, none⟩) hlow).trans c1
      clear c0 c1
      go_wp2
      refine wp_region_quiet_below (by kernel_rfl) (by kernel_rfl) ?_
      repeat (quiet_step (first | exact cM _ _))
      refine wpQuiet_nil ?_
      intro _ hw'
      obtain ⟨⟨dq, osq⟩, hw''⟩ := hw'
      subst hw''
      have bq := below_regrown wr dq osq
      have c1 := hbm _ bq
      have bkq := bk.trans (bq.mono sk)
      have skq := bkq.size
      generalize grow (redrawn wr dq) osq = wq at *
      have cN2 : ∀ d os, Calls Tryd.prog 32 #[.int .i64 ((K : Int) + 1)] (grow (redrawn wq d) os) fun e w'' => e = .returned (.string mk2) ∧ ∃ p : Regrown, w'' = grow (redrawn wq p.d) p.os := fun d os => Calls.regrown_of (cN _)
      have kc1 := cell_regrown c1
      clear kc0 cM hbm cN bq
      go_wp2
      refine wp_region_quiet_below (by kernel_rfl) (by kernel_rfl) ?_
      repeat (quiet_step (first | exact cN2 _ _))
      refine wpQuiet_nil ?_
      intro _ hw'
      obtain ⟨⟨dp, osp⟩, hw''⟩ := hw'
      subst hw''
      have bp := below_regrown wq dp osp
      generalize grow (redrawn wq dp) osp = wp at *
      clear kc1 cN2
      go_wp2
      go_roundw
      case rel => exact ⟨k + 1, by omega, by go_num, congrArg (Value.int .i64) (by have := HKK.out; omega), bkq.trans (bp.mono skq)⟩
      case measure => simp [intOf]; omega
    · obtain rfl : k = n := by omega
      go_wp2
      go_ret
      exact ⟨rfl, bk⟩
end Go.Proofs.YticajcagcdbgpaaDoor
