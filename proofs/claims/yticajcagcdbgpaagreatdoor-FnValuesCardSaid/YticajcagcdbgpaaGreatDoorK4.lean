/- Whether ranks are right, in the specification's words. -/
import Derived.Test.YticajcagcdbgpaaGreatDoorK3
import Derived.Deep.CutRange
namespace Go.Proofs.YticajcagcdbgpaaGreatDoor.Kk
open Go.RowKit Go.Sort

def okAt (L : List Rk) (i : Nat) : Bool := buAt L i && (scAt L i && (riAt L i && frAt L i))
def ranksB (L : List Rk) : Bool := decide (L.length ≤ 20) && (List.range L.length).all (okAt L)

theorem fr_no {L : List Rk} {q i : Nat} (h : q < i) (he : (L.getD q rk0).m = (L.getD i rk0).m) : frAt L i = false := by
  unfold frAt
  rw [Bool.not_eq_false', List.any_eq_true]
  exact ⟨q, List.mem_range.2 h, by simpa using he⟩
theorem fr_yes {L : List Rk} {i : Nat} (h : ∀ j, j < i → (L.getD j rk0).m ≠ (L.getD i rk0).m) : frAt L i = true := by
  unfold frAt
  rw [Bool.not_eq_true', List.any_eq_false]
  intro j hj
  simpa using h j (List.mem_range.1 hj)

set_option maxHeartbeats 4000000 in
set_option maxRecDepth 100000 in
theorem ranks_any (a : Option Addr) (b off n c : Nat) (L : List Rk) (w : World) (h : RanksIn w a b off n L) (hn : n ≤ 1048577) :
    Calls Tryz.prog 25 #[.slice a n c] w fun e w' => e = .returned (.bool (ranksB L)) ∧ Below w.heap.size w w' := by
  have H : Hid (RanksIn w a b off n L) := h
  have HL : Hid (L.length = n) := h.len
  clear h
  by_cases h20 : n ≤ 20
  · have g20 : ¬ (20 : Int) < (n : Int) := by omega
    have HE : Hid (ranksB L = (List.range n).all (okAt L)) := by
      unfold Hid ranksB
      rw [HL.out, decide_eq_true h20, Bool.true_and]
    go_enter Tryz.func25, Tryz.ntmps25
    go_wp2
    go_loopw [3] (fun i wr => ∃ (k : Nat), k ≤ n ∧ i = .int .i64 k ∧ Hid (∀ j, j < k → okAt L j = true) ∧ Below w.heap.size w wr) (fun i _ => n - (intOf i).toNat)
    case atStart => exact ⟨0, by omega, rfl, fun j hj => by omega, Below.refl _ _⟩
    case round =>
      obtain ⟨k, hk, rfl, hp, bk⟩ := hrel
      by_cases hlt : k < n
      · have HW := H.out.below bk
        have hy := HW.cell k hlt
        obtain rfl := HW.addr (by omega)
        have hb := HW.low (by omega)
        have d0 := hy.c0
        have d1 := hy.c1
        have HOK : Hid (okAt L k = (buAt L k && (scAt L k && (riAt L k && frAt L k)))) := rfl
        have HNO : Hid (okAt L k = false → ranksB L = false) := fun hf => by rw [HE.out]; exact all_no hlt hf
        have HBU : Hid (buAt L k = decide ((L.getD k rk0).m.size ≤ 200)) := rfl
        have HSC : Hid (scAt L k = (decide (-1000000000000000000 ≤ (L.getD k rk0).s) && decide ((L.getD k rk0).s ≤ 1000000000000000000))) := rfl
        have HY : Hid (∃ y, L.getD k rk0 = y) := ⟨_, rfl⟩
        obtain ⟨y, hye⟩ := HY.out
        have HYE : Hid (L.getD k rk0 = y) := hye
        rw [hye] at d0 d1 HBU HSC
        obtain ⟨ym, ys⟩ := y
        dsimp only at d0 d1
        have sk := bk.size
        have hk0 : (0 : Int) ≤ (k : Int) := by omega
        have hkn : (k : Int) < (n : Int) := by omega
        clear HY hye hy
        by_cases hsz : ym.size ≤ 200
        · have gsz : ¬ (200 : Int) < (ym.size : Int) := by omega
          have HBU2 : Hid (buAt L k = true) := HBU.out.trans (decide_eq_true hsz)
          clear HBU
          have HIN : Hid (∀ W, Calls Tryz.prog 38 #[.int .i64 ys, .int .i64 (-1000000000000000000), .int .i64 1000000000000000000] W fun e w' => e = .returned (.bool (scAt L k)) ∧ w' = W) := fun W => by
            rw [HSC.out]
            exact in_any ys (-1000000000000000000) 1000000000000000000 W
          cases hsc : scAt L k with
          | false =>
            rw [hsc] at HIN
            have HN2 : Hid (ranksB L = false) := HNO.out (by rw [HOK.out, hsc]; simp)
            clear HSC hsc HOK HNO hp HE HBU2 HW
            go_upto_region 6 with fail
            go_quiet ((exact Calls.quiet_of_same (HIN.out _)))
            go_wp2
            go_ret
            exact ⟨ret_bool HN2.out.symm, below_drewN bk _⟩
          | true =>
            rw [hsc] at HIN
            have HOK2 : Hid (okAt L k = (riAt L k && frAt L k)) := by unfold Hid; rw [HOK.out, HBU2.out, hsc]; rfl
            clear HSC hsc HOK HBU2
            go_upto_region 6 with fail
            go_cut [46] from 8 to 73 (fun x wx => x = .bool (!riAt L k) ∧ Below w.heap.size w wx)
            case first =>
              by_cases hk1 : k = 0
              · have HRI : Hid (riAt L k = true) := by unfold Hid riAt; rw [decide_eq_true hk1]; rfl
                have g1 : decide ((0 : Int) < (k : Int)) = false := decide_eq_false (by omega)
                have g2 : decide (0 < k) = false := decide_eq_false (by omega)
                clear HOK2 HNO hp HE HW hk1
                go_quiet ((exact Calls.quiet_of_same (HIN.out _)))
                go_step
                go_step
                go_meet
                case rel => exact ⟨by rw [HRI.out]; rfl, below_drewN bk _⟩
              · have g1 : decide ((0 : Int) < (k : Int)) = true := decide_eq_true (by omega)
                have g2 : decide (0 < k) = true := decide_eq_true (by omega)
                have HRI : Hid (riAt L k = aheadB (L.getD (k - 1) rk0) (L.getD k rk0)) := by
                  unfold Hid riAt
                  rw [decide_eq_false hk1]
                  rfl
                have hx := HW.cell (k - 1) (by omega)
                have c0 := hx.c0
                have c1 := hx.c1
                rw [HYE.out] at HRI
                generalize L.getD (k - 1) rk0 = x at *
                obtain ⟨ri, hri⟩ : ∃ ri, riAt L k = ri := ⟨_, rfl⟩
                have HRE : Hid (riAt L k = ri) := hri
                have HAH : Hid (∀ W, Calls Tryz.prog 39 #[rkV x, rkV ⟨ym, ys⟩] W fun e w' => e = .returned (.bool ri) ∧ Below W.heap.size W w') := fun W => by
                  rw [← hri, HRI.out]
                  exact ahead_any x ⟨ym, ys⟩ W
                clear hri
                obtain ⟨xm, xs⟩ := x
                dsimp only at c0 c1
                have hk2 : (1 : Int) ≤ (k : Int) := by omega
                have hk3 : (0 : Int) ≤ (k : Int) - 1 := by omega
                have hk4 : (k : Int) - 1 < (n : Int) := by omega
                have htn : ((k : Int) - 1).toNat = k - 1 := by omega
                have hw : IntKind.i64.wrap ((k : Int) - 1) = (k : Int) - 1 := wrap_small (by omega) (by omega)
                clear HOK2 HNO hp HE HW hk1 HRI hx
                go_region_held3 (fun W => W.cell? ⟨b, off + (k - 1) * 2, none⟩ = some (.string xm) ∧ W.cell? ⟨b, off + (k - 1) * 2 + 1, none⟩ = some (.int .i64 xs) ∧ W.cell? ⟨b, off + k * 2, none⟩ = some (.string ym) ∧ W.cell? ⟨b, off + k * 2 + 1, none⟩ = some (.int .i64 ys))
                  (first
                    | exact ⟨c0, c1, d0, d1⟩
                    | exact ⟨(b1.cell (p := ⟨b, _, none⟩) hb).trans c0, (b1.cell (p := ⟨b, _, none⟩) hb).trans c1, (b1.cell (p := ⟨b, _, none⟩) hb).trans d0, (b1.cell (p := ⟨b, _, none⟩) hb).trans d1⟩)
                  (first
                    | (go_at_call 38
                       refine (HIN.out _).mono ?_
                       rintro e w1 ⟨rfl, rfl⟩)
                    | (go_at_call 39
                       refine (HAH.out _).mono ?_
                       rintro e w1 ⟨rfl, b1⟩))
                all_goals
                  go_step
                  go_step
                  go_meet
                  case rel => exact ⟨by rw [HRE.out], bk.trans ((Below.trans (below_drewN (Below.refl _ wr) 1) b1).mono sk)⟩
            case rest =>
              obtain ⟨rfl, bw⟩ := hcut
              clear HIN d0 d1 HW hb bk sk
              have sw := bw.size
              generalize hnn : (!riAt L k) = nn
              cases nn with
              | true =>
                have HN2 : Hid (ranksB L = false) := HNO.out (by
                  have hr : riAt L k = false := by simpa using hnn
                  rw [HOK2.out, hr]; rfl)
                clear hnn HOK2 HNO hp HE
                go_wp2
                go_ret
                exact ⟨ret_bool HN2.out.symm, bw⟩
              | false =>
                have HOK3 : Hid (okAt L k = frAt L k) := by
                  have hr : riAt L k = true := by simpa using hnn
                  unfold Hid
                  rw [HOK2.out, hr]; rfl
                clear hnn HOK2
                go_wp2_with fail
                go_loopw [4] (fun i wr => ∃ (q : Nat), q ≤ k ∧ i = .int .i64 q ∧ Hid (∀ j, j < q → (L.getD j rk0).m ≠ ym) ∧ Below w.heap.size w wr) (fun i _ => k - (intOf i).toNat)
                case atStart => exact ⟨0, by omega, rfl, fun j hj => by omega, bw⟩
                case round =>
                  obtain ⟨q, hq, rfl, hpq, bq⟩ := hrel
                  by_cases hql : q < k
                  · have HWq := H.out.below bq
                    have e0 := (HWq.cell q (by omega)).c0
                    have d0 := (HWq.cell k hlt).c0
                    rw [HYE.out] at d0
                    have HX : Hid (∃ x, (L.getD q rk0).m = x) := ⟨_, rfl⟩
                    obtain ⟨xm, hxe⟩ := HX.out
                    have HXE : Hid ((L.getD q rk0).m = xm) := hxe
                    rw [hxe] at e0
                    dsimp only at d0
                    have hq0 : (0 : Int) ≤ (q : Int) := by omega
                    have hqn : (q : Int) < (n : Int) := by omega
                    clear HWq HX hxe
                    by_cases he : xm = ym
                    · have HN2 : Hid (ranksB L = false) := HNO.out (by rw [HOK3.out]; exact fr_no hql (by rw [HXE.out, HYE.out]; exact he))
                      have hd : (xm.toList == ym.toList) = true := by rw [str_eq, decide_eq_true he]
                      clear HNO HOK3 hp hpq HE HYE HXE he
                      go_upto_region 11 with fail
                      go_quiet ((fail))
                      go_wp2
                      go_ret
                      exact ⟨ret_bool HN2.out.symm, below_drewN bq _⟩
                    · have HP2 : Hid (∀ j, j < q + 1 → (L.getD j rk0).m ≠ ym) := fun j hj => by
                        by_cases e : j = q
                        · subst e; rw [HXE.out]; exact he
                        · exact hpq.out j (by omega)
                      have hd := str_ne he
                      clear HNO HOK3 hp hpq HE HYE HXE he
                      go_upto_region 11 with fail
                      go_quiet ((fail))
                      go_wp2
                      go_roundw
                      case rel => exact ⟨q + 1, by omega, by go_num, HP2, below_drewN bq _⟩
                      case measure => simp [intOf]; omega
                  · obtain rfl : q = k := by omega
                    have HP2 : Hid (∀ j, j < q + 1 → okAt L j = true) := fun j hj => by
                      by_cases e : j = q
                      · subst e
                        rw [HOK3.out]
                        exact fr_yes fun i hi => by rw [HYE.out]; exact hpq.out i hi
                      · exact hp.out j (by omega)
                    clear HNO HOK3 hp hpq HE HYE
                    go_wp2
                    go_roundw
                    case rel => exact ⟨q + 1, by omega, by go_num, HP2, bq⟩
                    case measure => simp [intOf]; omega
        · have gsz : (200 : Int) < (ym.size : Int) := by omega
          have HN2 : Hid (ranksB L = false) := HNO.out (by rw [HOK.out, HBU.out, decide_eq_false hsz]; rfl)
          clear HBU HSC HOK HNO hp HE HW
          go_upto_region 6 with fail
          go_quiet (fail)
          go_wp2
          go_ret
          exact ⟨ret_bool HN2.out.symm, below_drewN bk _⟩
      · obtain rfl : k = n := by omega
        have HT : Hid (ranksB L = true) := by unfold Hid; rw [HE.out]; exact all_yes hp.out
        clear hp HE
        go_wp2
        go_ret
        exact ⟨ret_bool HT.out.symm, bk⟩
  · have g20 : (20 : Int) < (n : Int) := by omega
    have HE : Hid (ranksB L = false) := by
      unfold Hid ranksB
      rw [HL.out, decide_eq_false h20, Bool.false_and]
    go_enter Tryz.func25, Tryz.ntmps25
    go_wp2
    go_ret
    exact ⟨ret_bool HE.out.symm, Below.refl _ _⟩
end Go.Proofs.YticajcagcdbgpaaGreatDoor.Kk
