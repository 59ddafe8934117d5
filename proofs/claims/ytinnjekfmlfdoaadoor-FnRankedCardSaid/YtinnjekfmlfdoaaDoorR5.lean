/- FnRanked: the law's walk. -/
import Derived.Test.YtinnjekfmlfdoaaDoorR4
namespace Go.Proofs.YtinnjekfmlfdoaaDoor
open Go.RowKit Go.Sort

theorem big_any (a : Option Addr) (n c : Nat) (w : World) :
    Calls Tryd.prog 5 #[.slice a n c] w fun e w' => e = .returned (.bool (decide ((1048576 : Int) < (n : Int)))) ∧ w' = w := by
  go_enter Tryd.func5, Tryd.ntmps5
  go_wp2
  go_ret
  exact ⟨rfl, rfl⟩

set_option maxHeartbeats 8000000 in
set_option maxRecDepth 100000 in
theorem walk3 (a : Option Addr) (n c : Nat) (w : World) (hn : n ≤ 9223372036854775807) (hb : BytesIn w a n w.heap.size) (ht : Tab w) (hw10 : 2 ≤ w.heap.size) :
    Calls Tryd.prog 3 #[.slice a n c] w fun e w' => e = .returned (.bool true) ∧ Below w.heap.size w w' := by
  by_cases hbig : (1048576 : Int) < (n : Int)
  · have hbd : decide ((1048576 : Int) < (n : Int)) = true := decide_eq_true hbig
    have cB := big_any a n c w
    rw [hbd] at cB
    go_enter Tryd.func3, Tryd.ntmps3
    go_wp2_with fail
    refine cB.mono ?_
    rintro e w1 ⟨rfl, rfl⟩
    go_wp2
    go_ret
    exact ⟨rfl, Below.refl _ _⟩
  have hbd : decide ((1048576 : Int) < (n : Int)) = false := decide_eq_false hbig
  have cB := big_any a n c w
  rw [hbd] at cB
  clear hbd hbig
  go_enter Tryd.func3, Tryd.ntmps3
  go_wp2_with fail
  refine cB.mono ?_
  rintro e w0 ⟨rfl, rfl⟩
  clear cB
  go_wp2_with fail
  refine (drawR_any a n c w0 hn hb).mono ?_
  rintro e w1 ⟨v1, L, m, s, rfl, hL, hf, hfs, o1, b1⟩
  have z1 := b1.size
  have T1 := ht.below b1 hw10
  obtain ⟨a1, A1, c1, rfl, R1⟩ := ownR_any o1
  have cI := implRanked a1 A1 0 L.length c1 L m s w1 R1 (by omega) hf hfs T1 (by omega)
  have cS := fun w (h : RanksIn w a1 A1 0 L.length L) => specRanked a1 A1 0 L.length c1 L m s w h (by omega)
  have HFI : Hid (FitL (insR (without L m) ⟨m, s⟩)) := fit_ins (fit_without hf) hfs
  have HIL : Hid ((insR (without L m) ⟨m, s⟩).length ≤ 7) := by
    unfold Hid
    rw [ins_len]
    have := without_len L m
    omega
  have HOLD : Hid (∀ y, y ∈ L → y.m = m ∨ y ∈ insR (without L m) ⟨m, s⟩) := fun y hy => old_there hy
  have HHAS : Hid ((⟨m, s⟩ : Rk) ∈ insR (without L m) ⟨m, s⟩) := ins_has _ _
  have HAG : Hid (insR (without (insR (without L m) ⟨m, s⟩) m) ⟨m, s⟩ = insR (without L m) ⟨m, s⟩) := again_same L m s
  have HFS : Hid (fitS s) := hfs
  have HT : Hid (Tab w0) := ht
  clear hf hfs T1 ht o1 hb
  cases hok : rankedB L m s with
  | false =>
    rw [hok] at cI
    simp only [hok] at cS
    clear hok HFI HIL HOLD HHAS HAG HFS HT
    go_wp2_with fail
    refine cI.mono ?_
    intro e w2 he2
    obtain ⟨v2, rfl, o2, b2⟩ := end_res he2
    obtain ⟨a2, A2, c2, rfl, R2⟩ := ownR_any o2
    have z2 := b2.size
    have bb2 := b1.trans (b2.mono z1)
    have R12 := R1.below b2
    clear cI he2 o2 R2
    go_wp2_with fail
    refine (cS _ R12).mono ?_
    intro e w3 he3
    obtain ⟨v3, rfl, o3, b3⟩ := end_res he3
    obtain ⟨a3, A3, c3, rfl, R3⟩ := ownR_any o3
    have bb3 := bb2.trans (b3.mono (by omega))
    clear cS he3 o3 R3
    go_wp2
    go_ret
    exact ⟨rfl, bb3⟩
  | true =>
    have HRI : Hid (∀ k, 0 < k → k < (insR (without L m) ⟨m, s⟩).length → aheadB ((insR (without L m) ⟨m, s⟩).getD (k - 1) rk0) ((insR (without L m) ⟨m, s⟩).getD k rk0) = true) := fun k h0 hk => ok_rise hok k h0 hk
    have HRA : Hid (rankedB (insR (without L m) ⟨m, s⟩) m s = true) := again_ok hok
    rw [hok] at cI
    simp only [hok] at cS
    clear hok
    generalize insR (without L m) ⟨m, s⟩ = I at *
    go_wp2_with fail
    refine cI.mono ?_
    intro e w2 he2
    obtain ⟨v2, rfl, o2, b2⟩ := end_res he2
    obtain ⟨a2, A2, c2, rfl, R2⟩ := ownR_any o2
    have z2 := b2.size
    have bb2 := b1.trans (b2.mono z1)
    have R12 := R1.below b2
    clear cI he2 o2 R1
    go_wp2_with fail
    refine (cS _ R12).mono ?_
    intro e w3 he3
    obtain ⟨v3, rfl, o3, b3⟩ := end_res he3
    obtain ⟨a3, A3, c3, rfl, R3⟩ := ownR_any o3
    have z3 := b3.size
    have bb3 := bb2.trans (b3.mono (by omega))
    have R13 := R12.below b3
    have R23 := R2.below b3
    clear cS he3 o3 R12 R2
    have hil := HIL.out
    rw [show resL I true = I from rfl] at *
    have H1 : Hid (RanksIn w3 a1 A1 0 L.length L) := R13
    have H2 : Hid (RanksIn w3 a2 A2 0 I.length I) := R23
    have H3 : Hid (RanksIn w3 a3 A3 0 I.length I) := R3
    clear R13 R23 R3
    go_wp2_with fail
    go_loopw [10, 11] (fun f i wr => ∃ (k : Nat), k ≤ I.length ∧ i = .int .i64 k ∧ f = .bool (anyB I ⟨m, s⟩ k) ∧ Below w3.heap.size w3 wr) (fun _ i _ => I.length - (intOf i).toNat)
    case atStart => exact ⟨0, by omega, rfl, rfl, Below.refl _ _⟩
    case round =>
      obtain ⟨k, hk, rfl, rfl, bk⟩ := hrel
      by_cases hlt : k < I.length
      · have B2 := H2.out.below bk
        have B3 := H3.out.below bk
        have hy := B2.cell k hlt
        have hy3 := B3.cell k hlt
        rw [Nat.zero_add] at hy hy3
        obtain rfl := B2.addr (by omega)
        obtain rfl := B3.addr (by omega)
        have d0 := hy.c0
        have d1 := hy.c1
        have e0 := hy3.c0
        have e1 := hy3.c1
        have HN : Hid (anyB I ⟨m, s⟩ (k + 1) = (anyB I ⟨m, s⟩ k || eqB (I.getD k rk0) ⟨m, s⟩)) := anyB_next I ⟨m, s⟩ k
        have HRK : Hid (0 < k → aheadB (I.getD (k - 1) rk0) (I.getD k rk0) = true) := fun h0 => HRI.out k h0 hlt
        generalize I.getD k rk0 = y at *
        obtain ⟨ym, ys⟩ := y
        dsimp only at d0 d1 e0 e1
        generalize hfo : anyB I ⟨m, s⟩ k = fo at *
        clear hfo
        have hk0 : (0 : Int) ≤ (k : Int) := by omega
        have hkn : (k : Int) < (I.length : Int) := by omega
        have sk := bk.size
        by_cases hk1 : k = 0
        · have g1 : decide ((0 : Int) < (k : Int)) = false := decide_eq_false (by omega)
          have g2 : decide (0 < k) = false := decide_eq_false (by omega)
          clear HRK B2 B3 hy hy3 hk1
          go_wp2_with fail
          go_quiet ((fail))
          have bq := below_drewN bk nq
          have HQ : Hid (eqB ⟨ym, ys⟩ ⟨m, s⟩ = ((ym.toList == m.toList) && (ys == s))) := rfl
          clear g1 g2
          cases q1 : (ym.toList == m.toList) <;> cases q2 : (ys == s) <;> cases fo
          all_goals
            go_wp2
            go_roundw
            case rel => exact ⟨k + 1, by omega, by go_num, congrArg Value.bool (by rw [HN.out, HQ.out, q1, q2]; rfl), bq⟩
            case measure => simp [intOf]; omega
        · have g1 : decide ((0 : Int) < (k : Int)) = true := decide_eq_true (by omega)
          have g2 : decide (0 < k) = true := decide_eq_true (by omega)
          have hx := B2.cell (k - 1) (by omega)
          rw [Nat.zero_add] at hx
          have c0 := hx.c0
          have c1 := hx.c1
          have HA := HRK.out (by omega)
          generalize I.getD (k - 1) rk0 = x at *
          obtain ⟨xm, xs⟩ := x
          dsimp only at c0 c1
          have hk2 : (1 : Int) ≤ (k : Int) := by omega
          have hk3 : (0 : Int) ≤ (k : Int) - 1 := by omega
          have hk4 : (k : Int) - 1 < (I.length : Int) := by omega
          have htn : ((k : Int) - 1).toNat = k - 1 := by omega
          have hw : IntKind.i64.wrap ((k : Int) - 1) = (k : Int) - 1 := wrap_small (by omega) (by omega)
          have hA2 := ahead_two HA
          clear HRK B2 B3 hy hy3 hk1 HA hx
          dsimp only at hA2
          rcases hA2 with hA2 | ⟨rfl, hA2⟩
          · have t1 : decide (ys < xs) = false := decide_eq_false (by omega)
            have t2 : (xs == ys) = false := by simp; omega
            go_wp2_with fail
            go_quiet ((fail))
            have bq := below_drewN bk nq
            have HQ : Hid (eqB ⟨ym, ys⟩ ⟨m, s⟩ = ((ym.toList == m.toList) && (ys == s))) := rfl
            clear g1 g2 t1 t2 hA2 hk2 hk3 hk4 htn hw c0 c1
            cases q1 : (ym.toList == m.toList) <;> cases q2 : (ys == s) <;> cases fo
            all_goals
              go_wp2
              go_roundw
              case rel => exact ⟨k + 1, by omega, by go_num, congrArg Value.bool (by rw [HN.out, HQ.out, q1, q2]; rfl), bq⟩
              case measure => simp [intOf]; omega
          · go_wp2_with fail
            go_quiet ((fail))
            have bq := below_drewN bk nq
            have HQ : Hid (eqB ⟨ym, xs⟩ ⟨m, s⟩ = ((ym.toList == m.toList) && (xs == s))) := rfl
            clear g1 g2 hA2 hk2 hk3 hk4 htn hw c0 c1
            cases q1 : (ym.toList == m.toList) <;> cases q2 : (xs == s) <;> cases fo
            all_goals
              go_wp2
              go_roundw
              case rel => exact ⟨k + 1, by omega, by go_num, congrArg Value.bool (by rw [HN.out, HQ.out, q1, q2]; rfl), bq⟩
              case measure => simp [intOf]; omega
      · obtain rfl : k = I.length := by omega
        obtain ⟨W1, hW1⟩ : ∃ W1, W1 = wr := ⟨wr, rfl⟩
        subst hW1
        have HFO : Hid (anyB I ⟨m, s⟩ I.length = true) := anyB_mem HHAS.out
        rw [HFO.out]
        have sk := bk.size
        have bb4 := bb3.trans (bk.mono (by omega))
        have G1 : Hid (RanksIn W1 a1 A1 0 L.length L) := H1.out.below bk
        have G2 : Hid (RanksIn W1 a2 A2 0 I.length I) := H2.out.below bk
        clear H1 H2 H3 HRI bk
        go_wp2_with fail
        go_loopw [12] (fun i wr2 => ∃ (k : Nat), k ≤ L.length ∧ i = .int .i64 k ∧ Below W1.heap.size W1 wr2) (fun i _ => L.length - (intOf i).toNat)
        case atStart => exact ⟨0, by omega, rfl, Below.refl _ _⟩
        case round =>
          obtain ⟨i, hi, rfl, bi⟩ := hrel
          obtain ⟨W2, hW2⟩ : ∃ W2, W2 = wr := ⟨wr, rfl⟩
          subst hW2
          have si := bi.size
          by_cases hilt : i < L.length
          · have D1 := G1.out.below bi
            have hy := D1.cell i hilt
            rw [Nat.zero_add] at hy
            obtain rfl := D1.addr (by omega)
            have hlow := D1.low (by omega)
            have d0 := hy.c0
            have d1 := hy.c1
            have HTH : Hid (((L.getD i rk0).m.toList == m.toList || anyB I (L.getD i rk0) I.length) = true) := by
              unfold Hid
              rcases HOLD.out (L.getD i rk0) (by rw [List.getD_eq_getElem?_getD, List.getElem?_eq_getElem hilt, Option.getD_some]; exact List.getElem_mem hilt) with h | h
              · rw [h]; simp
              · rw [anyB_mem h, Bool.or_true]
            have HNX : Hid (∀ j, anyB I (L.getD i rk0) (j + 1) = (anyB I (L.getD i rk0) j || eqB (I.getD j rk0) (L.getD i rk0))) := fun j => anyB_next I _ j
            have HZ : Hid (anyB I (L.getD i rk0) 0 = false) := rfl
            generalize L.getD i rk0 = y at *
            obtain ⟨ym, ys⟩ := y
            dsimp only at d0 d1
            have hi0 : (0 : Int) ≤ (i : Int) := by omega
            have hin : (i : Int) < (L.length : Int) := by omega
            clear hy D1
            have HD0 : Hid (∀ W, Below W2.heap.size W2 W → W.cell? ⟨A1, i * 2, none⟩ = some (.string ym) ∧ W.cell? ⟨A1, i * 2 + 1, none⟩ = some (.int .i64 ys)) := fun W hW => ⟨(hW.cell (p := ⟨A1, i * 2, none⟩) hlow).trans d0, (hW.cell (p := ⟨A1, i * 2 + 1, none⟩) hlow).trans d1⟩
            have HT0 : Hid (∀ t : Bool, (ym.toList == m.toList) = t → (t || anyB I ⟨ym, ys⟩ I.length) = true) := fun t e => by rw [← e]; exact HTH.out
            clear HTH
            generalize ht0 : (ym.toList == m.toList) = t0 at *
            have HT1 : Hid ((t0 || anyB I ⟨ym, ys⟩ I.length) = true) := HT0.out t0 rfl
            clear HT0
            go_wp2_with fail
            clear ht0
            go_loopw [13, 14] (fun t j wr3 => ∃ (k : Nat), k ≤ I.length ∧ j = .int .i64 k ∧ t = .bool (t0 || anyB I ⟨ym, ys⟩ k) ∧ Below W2.heap.size W2 wr3) (fun _ j _ => I.length - (intOf j).toNat)
            case atStart => exact ⟨0, by omega, rfl, by rw [HZ.out, Bool.or_false], Below.refl _ _⟩
            case round =>
              obtain ⟨j, hj, rfl, rfl, bj⟩ := hrel
              have sj := bj.size
              clear d0 d1
              obtain ⟨d0, d1⟩ := HD0.out _ bj
              by_cases hjlt : j < I.length
              · have D2 := (G2.out.below bi).below bj
                have hx := D2.cell j hjlt
                rw [Nat.zero_add] at hx
                obtain rfl := D2.addr (by omega)
                have c0 := hx.c0
                have c1 := hx.c1
                have HNJ := HNX.out j
                have HNK : Hid (anyB I ⟨ym, ys⟩ (j + 1) = (anyB I ⟨ym, ys⟩ j || eqB (I.getD j rk0) ⟨ym, ys⟩)) := HNJ
                clear HNJ D2 hx
                generalize I.getD j rk0 = x at *
                obtain ⟨xm, xs⟩ := x
                dsimp only at c0 c1
                have hj0 : (0 : Int) ≤ (j : Int) := by omega
                have hjn : (j : Int) < (I.length : Int) := by omega
                have HQ : Hid (eqB ⟨xm, xs⟩ ⟨ym, ys⟩ = ((xm.toList == ym.toList) && (xs == ys))) := rfl
                have HTT : Hid (∀ b, (t0 || anyB I ⟨ym, ys⟩ j) = b → (t0 || anyB I ⟨ym, ys⟩ (j + 1)) = (b || ((xm.toList == ym.toList) && (xs == ys)))) := fun b e => by rw [HNK.out, HQ.out, ← Bool.or_assoc, e]
                generalize htj : (t0 || anyB I ⟨ym, ys⟩ j) = tj at *
                have HTU := HTT.out tj rfl
                have HTV : Hid ((t0 || anyB I ⟨ym, ys⟩ (j + 1)) = (tj || ((xm.toList == ym.toList) && (xs == ys)))) := HTU
                clear HTU HTT htj HQ HNK
                cases tj with
                | true =>
                  have HTW : Hid ((t0 || anyB I ⟨ym, ys⟩ (j + 1)) = true) := by unfold Hid; rw [HTV.out, Bool.true_or]
                  clear HTV
                  go_wp2_with fail
                  go_quiet ((fail))
                  go_wp2
                  go_roundw
                  case rel => exact ⟨j + 1, by omega, by go_num, congrArg Value.bool HTW.out.symm, below_drewN bj _⟩
                  case measure => simp [intOf]; omega
                | false =>
                  cases q1 : (xm.toList == ym.toList) <;> cases q2 : (xs == ys)
                  all_goals
                    have HTW : Hid _ := HTV.out
                    rw [q1, q2] at HTW
                    clear HTV
                    go_wp2_with fail
                    go_quiet ((fail))
                    go_wp2
                    go_roundw
                    case rel => exact ⟨j + 1, by omega, by go_num, congrArg Value.bool HTW.out.symm, below_drewN bj _⟩
                    case measure => simp [intOf]; omega
              · obtain rfl : j = I.length := by omega
                rw [HT1.out]
                have bij := bi.trans (bj.mono si)
                clear HD0 HNX HZ HT1 d0 d1
                go_wp2
                go_roundw
                case rel => exact ⟨i + 1, by omega, by go_num, bij⟩
                case measure => simp [intOf]; omega
          · have bb5 := bb4.trans (bi.mono (by omega))
            have T5 := HT.out.below bb5 hw10
            have D2 := G2.out.below bi
            have cA := implRanked a2 A2 0 I.length c2 I m s W2 D2 (by omega) HFI.out HFS.out T5 (by omega)
            rw [HAG.out, HRA.out] at cA
            clear T5 D2
            go_wp2_with fail
            refine cA.mono ?_
            intro e w6 he6
            obtain ⟨v6, rfl, o6, b6⟩ := end_res he6
            obtain ⟨a6, A6, c6, rfl, R6⟩ := ownR_any o6
            rw [show resL I true = I from rfl] at *
            have bb6 := bb5.trans (b6.mono (by omega))
            clear cA he6 o6 R6
            go_wp2
            go_ret
            exact ⟨rfl, bb6⟩
end Go.Proofs.YtinnjekfmlfdoaaDoor
