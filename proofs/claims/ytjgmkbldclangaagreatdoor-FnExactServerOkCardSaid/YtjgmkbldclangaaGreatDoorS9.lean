/- ServerOk, the program's and the specification's. -/
import Derived.Test.YtjgmkbldclangaaGreatDoorS8
import Derived.Lib.QuietBelow
namespace Go.Proofs.YtjgmkbldclangaaGreatDoor
open Go.RowKit Go.Sort
open _root_.Go.Proofs.YtjgmkbldclangaaGreatDoor.Fd (ListsB ListsU SmallQ sessV sessB)

theorem at3 {W : World} {g : Nat} {T : TypeId} {a b c : Value} (q : RowAt W g T #[a, b, c]) : W.cell? ⟨g, 0, none⟩ = some a ∧ W.cell? ⟨g, 1, none⟩ = some b ∧ W.cell? ⟨g, 2, none⟩ = some c :=
  ⟨q.cell 0, q.cell 1, q.cell 2⟩

def serverB (L : List KV) (now : Int) (C : List CV) : Bool := dbOkB (L.map KV.key) && (timeB now && clsB C)

set_option maxHeartbeats 2000000 in
theorem implServer_any (a1 a2 : Option Addr) (B1 B2 o2 n1 n2 c1 c2 : Nat) (L : List KV) (C : List CV) (now : Int) (w : World) (h : DbAt w a1 B1 n1 L) (hs : Small L) (hn : n1 ≤ 1048577) (h2 : ClsIn w a2 B2 o2 n2 C) (hs2 : ∀ i, i < n2 → ClGood (C.getD i cv0).cl) (hn2 : n2 ≤ 1048577) (hR : Fd.Ready w) :
    Calls Tryz.prog 7 #[.agg #[.slice a1 n1 c1, .int .i64 now, .slice a2 n2 c2]] w fun e w' => e = .returned (.bool (serverB L now C)) ∧ Below w.heap.size w w' := by
  have HE : Hid (serverB L now C = (dbOkB (L.map KV.key) && (timeB now && clsB C))) := rfl
  have HD : Hid (∀ W, Below w.heap.size w W → Calls Tryz.prog 16 #[.slice a1 n1 c1] W fun e w' => e = .returned (.bool (dbOkB (L.map KV.key))) ∧ Below W.heap.size W w') := fun W hb => implDbOk_any a1 B1 n1 c1 L W (h.below hb) hs hn (fd_ready (hR.below (hb.mono hR.six)))
  have HT : Hid (∀ W, Calls Tryz.prog 17 #[.int .i64 now] W fun e w' => e = .returned (.bool (timeB now)) ∧ w' = W) := fun W => timeOk_any now W
  have HC : Hid (∀ W, Below w.heap.size w W → Calls Tryz.prog 18 #[.slice a2 n2 c2] W fun e w' => e = .returned (.bool (clsB C)) ∧ Below W.heap.size W w') := fun W hb => clientsOk_any a2 B2 o2 n2 c2 C W (h2.below hb) hs2 hn2 (hR.below (hb.mono hR.six))
  clear h hs h2 hs2 hR
  generalize serverB L now C = O at *
  generalize dbOkB (L.map KV.key) = o1 at *
  generalize timeB now = o2 at *
  generalize clsB C = o3 at *
  have b0 : Below w.heap.size w (w.alloc (.cells #[.slice a1 n1 c1, .int .i64 now, .slice a2 n2 c2] 31)) := (Below.refl _ w).alloc (Nat.le_refl _) _
  have r0 := RowAt.new w 31 #[.slice a1 n1 c1, .int .i64 now, .slice a2 n2 c2]
  obtain ⟨wa, hwa⟩ : ∃ wa, w.alloc (.cells #[.slice a1 n1 c1, .int .i64 now, .slice a2 n2 c2] 31) = wa := ⟨_, rfl⟩
  have HWA : Hid (w.alloc (.cells #[.slice a1 n1 c1, .int .i64 now, .slice a2 n2 c2] 31) = wa) := hwa
  rw [hwa] at b0 r0
  clear hwa
  cases o1 with
  | false =>
    have HE2 : Hid (O = false) := HE.out
    go_enter Tryz.func7, Tryz.ntmps7
    go_wp2_with fail
    rw [HWA.out]
    refine (HD.out wa b0).mono ?_
    rintro e w1 ⟨rfl, b1⟩
    have bb := b0.trans (b1.mono b0.size)
    go_wp2
    go_ret
    exact ⟨ret_bool HE2.out.symm, bb⟩
  | true =>
    rw [Bool.true_and] at HE
    cases o2 with
    | false =>
      have HE2 : Hid (O = false) := HE.out
      go_enter Tryz.func7, Tryz.ntmps7
      go_wp2_with fail
      rw [HWA.out]
      refine (HD.out wa b0).mono ?_
      rintro e w1 ⟨rfl, b1⟩
      have bb := b0.trans (b1.mono b0.size)
      obtain ⟨y0, y1, y2⟩ := at3 (RowAt.below r0 b1 r0.lt)
      go_wp2_with fail
      refine (HT.out w1).mono ?_
      rintro e w2 ⟨rfl, rfl⟩
      go_wp2
      go_ret
      exact ⟨ret_bool HE2.out.symm, bb⟩
    | true =>
      have HE2 : Hid (O = o3) := HE.out
      go_enter Tryz.func7, Tryz.ntmps7
      go_wp2_with fail
      rw [HWA.out]
      refine (HD.out wa b0).mono ?_
      rintro e w1 ⟨rfl, b1⟩
      have bb := b0.trans (b1.mono b0.size)
      obtain ⟨y0, y1, y2⟩ := at3 (RowAt.below r0 b1 r0.lt)
      go_wp2_with fail
      refine (HT.out w1).mono ?_
      rintro e w2 ⟨rfl, rfl⟩
      have HCc := HC.out w2 bb
      go_wp2_with fail
      refine HCc.mono ?_
      rintro e w3 ⟨rfl, b3⟩
      have bb3 := bb.trans (b3.mono bb.size)
      clear y0 y1 y2 HCc
      go_wp2
      go_ret
      exact ⟨ret_bool HE2.out.symm, bb3⟩

def okC (L : List CV) (j : Nat) : Bool := kyC L j && riC L j
theorem clsB_eq (L : List CV) (n : Nat) (h : L.length = n) : clsB L = (decide (n ≤ 5) && (List.range n).all (okC L)) := by
  unfold clsB
  rw [h, all_both]
  rfl

theorem l1In_id (t : Int) (w : World) : Calls Tryz.prog 12 #[.int .i64 t, .int .i64 1, .int .i64 1000] w fun e w' => e = .returned (.bool (idB t)) ∧ Below w.heap.size w w' :=
  (l1In_any t 1 1000 w).mono fun e w' ⟨he, hw⟩ => ⟨he, by rw [hw]; exact Below.refl _ _⟩

set_option maxHeartbeats 8000000 in
set_option maxRecDepth 100000 in
theorem specServer_any (a1 a2 : Option Addr) (B1 B2 o2 n1 n2 c1 c2 : Nat) (L : List KV) (C : List CV) (now : Int) (w : World) (h : DbAt w a1 B1 n1 L) (hs : Small L) (hn : n1 ≤ 1048577) (h2 : ClsIn w a2 B2 o2 n2 C) (hs2 : ∀ i, i < n2 → ClGood (C.getD i cv0).cl) (hn2 : n2 ≤ 1048577) :
    Calls Tryz.prog 5 #[.agg #[.slice a1 n1 c1, .int .i64 now, .slice a2 n2 c2]] w fun e w' => e = .returned (.bool (serverB L now C)) ∧ Below w.heap.size w w' := by
  have HE : Hid (serverB L now C = (dbOkB (L.map KV.key) && (timeB now && (decide (n2 ≤ 5) && (List.range n2).all (okC C))))) := by unfold Hid serverB; rw [clsB_eq C n2 h2.len]
  have HD : Hid (∀ W, Below w.heap.size w W → Calls Tryz.prog 11 #[.slice a1 n1 c1] W fun e w' => e = .returned (.bool (dbOkB (L.map KV.key))) ∧ Below W.heap.size W w') := fun W hb => specDbOk_any a1 B1 n1 c1 L W (h.below hb) hs hn
  have HT : Hid (∀ W, Calls Tryz.prog 12 #[.int .i64 now, .int .i64 0, .int .i64 1000000000] W fun e w' => e = .returned (.bool (timeB now)) ∧ Below W.heap.size W w') := fun W => l1In_time now W
  have HC : Hid (ClsIn w a2 B2 o2 n2 C) := h2
  have HS : Hid (∀ i, i < n2 → ClGood (C.getD i cv0).cl) := hs2
  clear h hs h2 hs2
  generalize serverB L now C = O at *
  generalize dbOkB (L.map KV.key) = p1 at *
  generalize timeB now = p2 at *
  have b0 : Below w.heap.size w (w.alloc (.cells #[.slice a1 n1 c1, .int .i64 now, .slice a2 n2 c2] 31)) := (Below.refl _ w).alloc (Nat.le_refl _) _
  have r0 := RowAt.new w 31 #[.slice a1 n1 c1, .int .i64 now, .slice a2 n2 c2]
  obtain ⟨wa, hwa⟩ : ∃ wa, w.alloc (.cells #[.slice a1 n1 c1, .int .i64 now, .slice a2 n2 c2] 31) = wa := ⟨_, rfl⟩
  have HWA : Hid (w.alloc (.cells #[.slice a1 n1 c1, .int .i64 now, .slice a2 n2 c2] 31) = wa) := hwa
  rw [hwa] at b0 r0
  clear hwa
  cases p1 with
  | false =>
    have HE2 : Hid (O = false) := HE.out
    go_enter Tryz.func5, Tryz.ntmps5
    go_wp2_with fail
    rw [HWA.out]
    refine (HD.out wa b0).mono ?_
    rintro e w1 ⟨rfl, b1⟩
    have bb := b0.trans (b1.mono b0.size)
    go_wp2
    go_ret
    exact ⟨ret_bool HE2.out.symm, bb⟩
  | true =>
    rw [Bool.true_and] at HE
    cases p2 with
    | false =>
      have HE2 : Hid (O = false) := HE.out
      go_enter Tryz.func5, Tryz.ntmps5
      go_wp2_with fail
      rw [HWA.out]
      refine (HD.out wa b0).mono ?_
      rintro e w1 ⟨rfl, b1⟩
      have bb := b0.trans (b1.mono b0.size)
      have r1 := RowAt.below r0 b1 r0.lt
      obtain ⟨y0, y1, y2⟩ := at3 r1
      go_wp2_with fail
      refine (HT.out w1).mono ?_
      rintro e w2 ⟨rfl, be⟩
      have bb2 := bb.trans (be.mono bb.size)
      clear y0 y1 y2
      go_wp2
      go_ret
      exact ⟨ret_bool HE2.out.symm, bb2⟩
    | true =>
      rw [Bool.true_and] at HE
      by_cases h5 : n2 ≤ 5
      · have hg : decide ((5 : Int) < (n2 : Int)) = false := decide_eq_false (by omega)
        rw [decide_eq_true h5, Bool.true_and] at HE
        go_enter Tryz.func5, Tryz.ntmps5
        go_wp2_with fail
        rw [HWA.out]
        refine (HD.out wa b0).mono ?_
        rintro e w1 ⟨rfl, b1⟩
        have bb := b0.trans (b1.mono b0.size)
        have r1 := RowAt.below r0 b1 r0.lt
        obtain ⟨y0, y1, y2⟩ := at3 r1
        go_wp2_with fail
        refine (HT.out w1).mono ?_
        rintro e w2 ⟨rfl, be⟩
        have r2 := RowAt.below r1 be r1.lt
        have bb2 := bb.trans (be.mono bb.size)
        have HC2 : Hid (ClsIn w2 a2 B2 o2 n2 C) := HC.out.below bb2
        obtain ⟨z0, z1, z2⟩ := at3 r2
        clear y0 y1 y2 HC HD HT
        have HR2 : Hid (RowAt w2 w.heap.size 31 #[.slice a1 n1 c1, .int .i64 now, .slice a2 n2 c2]) := r2
        clear r0 r1 r2 b0 HWA
        go_wp2_with fail
        go_loopw [3] (fun i wr => ∃ (k : Nat), k ≤ n2 ∧ i = .int .i64 k ∧ Hid (∀ j, j < k → okC C j = true) ∧ Below w2.heap.size w2 wr) (fun i _ => n2 - (intOf i).toNat)
        case atStart => exact ⟨0, by omega, rfl, (fun j hj => by omega), Below.refl _ _⟩
        case round =>
          obtain ⟨k, hk, rfl, hp, bk⟩ := hrel
          have sk := bk.size
          have rk := RowAt.below HR2.out bk HR2.out.lt
          have BB := bb2.trans (bk.mono bb2.size)
          clear z0 z1 z2
          obtain ⟨z0, z1, z2⟩ := at3 rk
          clear rk
          by_cases hlt : k < n2
          · have HW := HC2.out.below bk
            have hv := HW.val k hlt
            have hc := HW.cell k hlt
            have hpv : 0 < k → wr.cell? ⟨B2, o2 + (k - 1) * 6, none⟩ = some (.int .i64 (C.getD (k - 1) cv0).cl.id) := fun h0 => (HW.cell (k - 1) (by omega)).c0
            obtain rfl := HW.addr (by omega)
            have q1 := HS.out k hlt
            have HOK : Hid (okC C k = (idB (C.getD k cv0).cl.id && sessB (C.getD k cv0).cl.rest (C.getD k cv0).cl.multi (C.getD k cv0).cl.Q (C.getD k cv0).cl.dirty (C.getD k cv0).cl.dead && (decide (k = 0) || decide ((C.getD (k - 1) cv0).cl.id < (C.getD k cv0).cl.id)))) := rfl
            have HNO : Hid (okC C k = false → O = false) := fun h => by rw [HE.out]; exact Kk.all_no hlt h
            have HP3 : Hid (okC C k = true → ∀ j, j < k + 1 → okC C j = true) := fun h j hj => by
              by_cases e : j = k
              · subst e; exact h
              · exact hp.out j (by omega)
            clear hp
            have cS : ∀ d os, Calls Tryz.prog 13 #[sessV (C.getD k cv0).cl.rest (C.getD k cv0).cl.multi (C.getD k cv0).q (C.getD k cv0).cl.dirty (C.getD k cv0).cl.dead] (grow (redrawn wr d) os) fun e w'' => e = .returned (.bool (sessB (C.getD k cv0).cl.rest (C.getD k cv0).cl.multi (C.getD k cv0).cl.Q (C.getD k cv0).cl.dirty (C.getD k cv0).cl.dead)) ∧ ∃ p : Regrown, w'' = grow (redrawn wr p.d) p.os := fun d os => Calls.regrown_of (Fd.specSess _ _ _ _ _ _ _ q1.rest (hv.below (below_regrown wr d os)) q1.small)
            have cI : ∀ d os, Calls Tryz.prog 12 #[.int .i64 (C.getD k cv0).cl.id, .int .i64 1, .int .i64 1000] (grow (redrawn wr d) os) fun e w'' => e = .returned (.bool (idB (C.getD k cv0).cl.id)) ∧ ∃ p : Regrown, w'' = grow (redrawn wr p.d) p.os := fun d os => Calls.regrown_of (l1In_id _ _)
            generalize C.getD k cv0 = y at *
            generalize (C.getD (k - 1) cv0).cl.id = xi at *
            generalize okC C k = ok at *
            generalize sessB y.cl.rest y.cl.multi y.cl.Q y.cl.dirty y.cl.dead = s2 at *
            generalize idB y.cl.id = s1 at *
            obtain ⟨d0, d1, d2, d3, d4, d5⟩ := hc
            clear HW q1 hv
            obtain ⟨⟨id, t, multi, _, dirty, dead⟩, q⟩ := y
            dsimp only at d0 d1 d2 d3 d4 d5 cS cI HOK
            have kz2 := cell_regrown z2
            have kc0 := cell_regrown d0
            have kc1 := cell_regrown d1
            have kc2 := cell_regrown d2
            have kc3 := cell_regrown d3
            have kc4 := cell_regrown d4
            have kc5 := cell_regrown d5
            have hk0 : (0 : Int) ≤ (k : Int) := by omega
            have hkn : (k : Int) < (n2 : Int) := by omega
            clear d0 d1 d2 d3 d4 d5
            cases s1 with
            | false =>
              have HY : Hid (O = false) := HNO.out (by rw [HOK.out]; rfl)
              clear HOK HNO HP3 hpv
              go_wp2
              refine wp_region_quiet_below (by kernel_rfl) (by kernel_rfl) ?_
              repeat (first | go_big_quiet_skip | quiet_step (first | with_reducible exact cS _ _ | with_reducible exact cI _ _) | (go_big_quiet_want; go_big_quiet_op; go_big_quiet_on))
              refine wpQuiet_nil ?_
              intro _ hw'
              obtain ⟨⟨dq, osq⟩, hw''⟩ := hw'
              subst hw''
              have bq := below_regrown wr dq osq
              generalize grow (redrawn wr dq) osq = wq at *
              go_wp2
              go_ret
              exact ⟨ret_bool HY.out.symm, BB.trans (bq.mono BB.size)⟩
            | true =>
              rw [Bool.true_and] at HOK
              cases s2 with
              | false =>
                have HY : Hid (O = false) := HNO.out (by rw [HOK.out]; rfl)
                clear HOK HNO HP3 hpv
                go_wp2
                refine wp_region_quiet_below (by kernel_rfl) (by kernel_rfl) ?_
                repeat (first | go_big_quiet_skip | quiet_step (first | with_reducible exact cS _ _ | with_reducible exact cI _ _) | (go_big_quiet_want; go_big_quiet_op; go_big_quiet_on))
                refine wpQuiet_nil ?_
                intro _ hw'
                obtain ⟨⟨dq, osq⟩, hw''⟩ := hw'
                subst hw''
                have bq := below_regrown wr dq osq
                generalize grow (redrawn wr dq) osq = wq at *
                go_wp2
                go_ret
                exact ⟨ret_bool HY.out.symm, BB.trans (bq.mono BB.size)⟩
              | true =>
                rw [Bool.true_and] at HOK
                by_cases hk1 : k = 0
                · have g3 : decide ((0 : Int) < (k : Int)) = false := decide_eq_false (by omega)
                  have g3' : decide (0 < k) = false := decide_eq_false (by omega)
                  have HY : Hid (∀ j, j < k + 1 → okC C j = true) := HP3.out (by rw [HOK.out, decide_eq_true hk1]; rfl)
                  clear HOK HNO HP3 hpv hk1
                  go_wp2
                  refine wp_region_quiet_below (by kernel_rfl) (by kernel_rfl) ?_
                  repeat (first | go_big_quiet_skip | quiet_step (first | with_reducible exact cS _ _ | with_reducible exact cI _ _) | (go_big_quiet_want; go_big_quiet_op; go_big_quiet_on))
                  refine wpQuiet_nil ?_
                  intro _ hw'
                  obtain ⟨⟨dq, osq⟩, hw''⟩ := hw'
                  subst hw''
                  have bq := below_regrown wr dq osq
                  generalize grow (redrawn wr dq) osq = wq at *
                  go_wp2
                  go_roundw
                  case rel => exact ⟨k + 1, by omega, by go_num, HY, bk.trans (bq.mono sk)⟩
                  case measure => simp [intOf]; omega
                · have g3 : decide ((0 : Int) < (k : Int)) = true := decide_eq_true (by omega)
                  have g3' : decide (0 < k) = true := decide_eq_true (by omega)
                  have kx0 := cell_regrown (hpv (by omega))
                  have hk2 : (1 : Int) ≤ (k : Int) := by omega
                  have hk3 : (0 : Int) ≤ (k : Int) - 1 := by omega
                  have hk4 : (k : Int) - 1 < (n2 : Int) := by omega
                  have htn : ((k : Int) - 1).toNat = k - 1 := by omega
                  have hw : IntKind.i64.wrap ((k : Int) - 1) = (k : Int) - 1 := Kk.wrap_small (by omega) (by omega)
                  rw [decide_eq_false hk1, Bool.false_or] at HOK
                  clear hpv hk1
                  by_cases hlss : xi < id
                  · have HY : Hid (∀ j, j < k + 1 → okC C j = true) := HP3.out (by rw [HOK.out, decide_eq_true hlss])
                    have g4 : decide (id ≤ xi) = false := decide_eq_false (by omega)
                    clear HOK HNO HP3
                    go_wp2
                    refine wp_region_quiet_below (by kernel_rfl) (by kernel_rfl) ?_
                    repeat (first | go_big_quiet_skip | quiet_step (first | with_reducible exact cS _ _ | with_reducible exact cI _ _) | (go_big_quiet_want; go_big_quiet_op; go_big_quiet_on))
                    refine wpQuiet_nil ?_
                    intro _ hw'
                    obtain ⟨⟨dq, osq⟩, hw''⟩ := hw'
                    subst hw''
                    have bq := below_regrown wr dq osq
                    generalize grow (redrawn wr dq) osq = wq at *
                    go_wp2
                    go_roundw
                    case rel => exact ⟨k + 1, by omega, by go_num, HY, bk.trans (bq.mono sk)⟩
                    case measure => simp [intOf]; omega
                  · have HY : Hid (O = false) := HNO.out (by rw [HOK.out, decide_eq_false hlss])
                    have g4 : decide (id ≤ xi) = true := decide_eq_true (by omega)
                    clear HOK HNO HP3
                    go_wp2
                    refine wp_region_quiet_below (by kernel_rfl) (by kernel_rfl) ?_
                    repeat (first | go_big_quiet_skip | quiet_step (first | with_reducible exact cS _ _ | with_reducible exact cI _ _) | (go_big_quiet_want; go_big_quiet_op; go_big_quiet_on))
                    refine wpQuiet_nil ?_
                    intro _ hw'
                    obtain ⟨⟨dq, osq⟩, hw''⟩ := hw'
                    subst hw''
                    have bq := below_regrown wr dq osq
                    generalize grow (redrawn wr dq) osq = wq at *
                    go_wp2
                    go_ret
                    exact ⟨ret_bool HY.out.symm, BB.trans (bq.mono BB.size)⟩
          · have HY : Hid (O = true) := by unfold Hid; rw [HE.out]; exact Kk.all_yes fun j hj => hp.out j (by omega)
            clear hp
            go_wp2
            go_ret
            exact ⟨ret_bool HY.out.symm, BB⟩
      · have hg : decide ((5 : Int) < (n2 : Int)) = true := decide_eq_true (by omega)
        have HE2 : Hid (O = false) := by unfold Hid; rw [HE.out, decide_eq_false h5]; rfl
        go_enter Tryz.func5, Tryz.ntmps5
        go_wp2_with fail
        rw [HWA.out]
        refine (HD.out wa b0).mono ?_
        rintro e w1 ⟨rfl, b1⟩
        have bb := b0.trans (b1.mono b0.size)
        have r1 := RowAt.below r0 b1 r0.lt
        obtain ⟨y0, y1, y2⟩ := at3 r1
        go_wp2_with fail
        refine (HT.out w1).mono ?_
        rintro e w2 ⟨rfl, be⟩
        have bb2 := bb.trans (be.mono bb.size)
        obtain ⟨z0, z1, z2⟩ := at3 (RowAt.below r1 be r1.lt)
        clear y0 y1 y2
        go_wp2
        go_ret
        exact ⟨ret_bool HE2.out.symm, bb2⟩
end Go.Proofs.YtjgmkbldclangaaGreatDoor
