/- spec.DbOf. -/
import Derived.Test.YtapdoechmnjaeaaGreatDoorGa
import Derived.Test.YtapdoechmnjaeaaGreatDoorG3
import Derived.Test.YtapdoechmnjaeaaGreatDoorXb
import Derived.Deep.RegionLaw
namespace Go.Proofs.YtapdoechmnjaeaaGreatDoor
open Go.RowKit Go.Sort
open Kk (Rk rk0 texL texR decS scoreB rightB ranksB OwnR flatR encR markB RanksIn)
open Hp (refV two_at Cl cl0 CellsIn Fit getB heapB cells_below)

theorem ownK_empty {w : World} {B g : Nat} (h : RowAt w g 47 #[]) (hB : B ≤ g) : OwnK w B (.slice (some ⟨g, 0, none⟩) 0 0) [] :=
  ⟨rfl, .inr ⟨g, 0, #[], rfl, hB, h, Nat.le_refl _, by unfold maxLen; omega, rfl, rfl⟩⟩

theorem FetchI.empty (w : World) (s : ByteArray) (C : List Cl) (es : List En) : FetchI w s C es 0 (.slice (some ⟨w.heap.size, 0, none⟩) 0 0) (w.alloc (.cells #[] 47)) [] :=
  ⟨ownK_empty (RowAt.new w 47 #[]) (Nat.le_refl _), ⟨_, rising_nil _ _ _ (by simp)⟩, rfl, fun i hi => by simp at hi, rfl, (Below.refl _ w).alloc (Nat.le_refl _) _⟩

set_option maxHeartbeats 4000000 in
set_option maxRecDepth 100000 in
theorem specDbOf_any (s : ByteArray) (a : Option Addr) (b off n c : Nat) (C : List Cl) (ea : Option Addr) (eb eo m ec : Nat) (es : List En) (w : World) (h : CellsIn w a b off n C) (hf : ∀ i, i < n → Fit (C.getD i cl0)) (he : EntsIn w ea eb eo m es) (hm : m ≤ 1048576) (hz : ∀ i, i < m → (es.getD i en0).name.size ≤ 1048576) (hs : s.size ≤ 1048576) (hn : n ≤ 1048576) :
    Calls Tryz.prog 8 #[.agg #[.string s, .slice a n c], .slice ea m ec] w (FetchEnd w (dbOfM s C es)) := by
  have hel := he.len
  obtain ⟨A0, hA0⟩ : ∃ A0, w.alloc (.cells #[.string s, .slice a n c] 26) = A0 := ⟨_, rfl⟩
  have HA0 : Hid (w.alloc (.cells #[.string s, .slice a n c] 26) = A0) := hA0
  have b0 : Below w.heap.size w A0 := by rw [← hA0]; exact (Below.refl _ w).alloc (Nat.le_refl _) _
  have r0 : RowAt A0 w.heap.size 26 #[.string s, .slice a n c] := by rw [← hA0]; exact RowAt.new w 26 _
  have s0 := b0.size
  have HO : Hid (Calls Tryz.prog 34 #[.agg #[.string s, .slice a n c]] A0 fun e w' => e = .returned (.bool (heapB s C)) ∧ Below A0.heap.size A0 w') := Hp.specOk_any s a b off n c C A0 (cells_below h b0) hs hn hf
  have HG : Hid (∀ W e, Below w.heap.size w W → ∀ d os, Calls Tryz.prog 35 #[.agg #[.string s, .slice a n c], refV (En.rc e) e.rg] (grow (redrawn W d) os) fun en w'' => en = .returned (.tuple #[.string (getB s C e.rc e.rg).1, .bool (getB s C e.rc e.rg).2]) ∧ ∃ p : Regrown, w'' = grow (redrawn W p.d) p.os) := fun W e hb d os => Calls.regrown_of (Hp.specGet_any s a b off n c C e.rc e.rg _ (cells_below (cells_below h hb) (below_regrown _ d os)) hs hn hf)
  have HE : Hid (∀ W, Below w.heap.size w W → EntsIn W ea eb eo m es) := fun W hb => he.below hb
  have HAD : Hid (0 < m → ea = some ⟨eb, eo, none⟩) := he.addr
  have HD : Hid (∀ W aa A cc L, DbAt W aa A L.length L → Small L → L.length ≤ 20 → Calls Tryz.prog 37 #[.slice aa L.length cc] W fun e w' => e = .returned (.bool (dbOkB (L.map KV.key))) ∧ Below W.heap.size W w') := fun W aa A cc L hd hsm h20 => specDbOk_any aa A L.length cc L W hd hsm (by omega)
  have HL : Hid (es.length = m) := hel
  have HZ : Hid (∀ i, i < m → (es.getD i en0).name.size ≤ 1048576) := hz
  have D1 : Hid (heapB s C = false → dbOfM s C es = none) := dbOf_heap
  have D2 : Hid (¬ m ≤ 20 → dbOfM s C es = none) := fun hx => dbOf_many (by rw [hel]; exact hx)
  have D3 : Hid (∀ i, i < m → keyOf s C (es.getD i en0) = none → dbOfM s C es = none) := fun i hi hk => dbOf_none (fetch_none s C es i (by rw [hel]; exact hi) hk)
  have D4 : Hid (∀ ks, heapB s C = true → m ≤ 20 → fetchM s C es = some ks → (dbOfM s C es = if dbOkB ks = true then some ks else none)) := fun ks h1 h2 h3 => dbOf_some h1 (by rw [hel]; exact h2) h3
  clear h hf he hz hel hA0
  generalize dbOfM s C es = R at *
  generalize heapB s C = hb at *
  go_enter Tryz.func8, Tryz.ntmps8
  go_wp2_with fail
  rw [HA0.out]
  refine HO.out.mono ?_
  rintro e w1 ⟨rfl, b1⟩
  have bb1 := b0.trans (b1.mono s0)
  have r1 := r0.below b1 r0.lt
  have l1 := r1.lt
  have s1 := bb1.size
  clear r0 HA0 HO
  cases hb with
  | false =>
    have HY : Hid (R = none) := D1.out (by trivial)
    go_wp2
    go_ret2
    exact fetchEnd_no bb1 HY.out
  | true =>
    by_cases h20 : m ≤ 20
    · have g20 : decide ((20 : Int) < (m : Int)) = false := decide_eq_false (by omega)
      have D5 : Hid (∀ ks, fetchM s C es = some ks → R = if dbOkB ks = true then some ks else none) := fun ks => D4.out ks (by trivial) h20
      clear D1 D2 D4 b1
      go_wp2
      go_loopw [6, 7] (fun v i wr => ∃ (k : Nat) (L : List KV), k ≤ m ∧ i = .int .i64 k ∧ Hid (FetchI w1 s C es k v wr L)) (fun _ i _ => m - (intOf i).toNat)
      case atStart => exact ⟨0, [], by omega, rfl, FetchI.empty w1 s C es⟩
      case round =>
        obtain ⟨k, L, hk, rfl, hI⟩ := hrel
        have bk := hI.out.bel
        have sk := bk.size
        have bbk := bb1.trans (bk.mono s1)
        by_cases hlt : k < m
        · have hx := (HE.out wr bbk).cell k hlt
          have hlow := (HE.out wr bbk).low (by omega)
          obtain rfl := HAD.out (by omega)
          have hzk := HZ.out k hlt
          have HN1 : Hid (keyOf s C (es.getD k en0) = none → R = none) := D3.out k hlt
          have rk := r1.below bk l1
          obtain ⟨f0, f1⟩ := two_at rk
          have CG := HG.out wr (es.getD k en0) bbk
          have hgs := getB_size s C (es.getD k en0).rc (es.getD k en0).rg
          have CR : Hid (∀ W, Calls Tryz.prog 36 #[.string (getB s C (es.getD k en0).rc (es.getD k en0).rg).1] W (ResV W (readI (getB s C (es.getD k en0).rc (es.getD k en0).rg).1.data.toList).1 (readI (getB s C (es.getD k en0).rc (es.getD k en0).rg).1.data.toList).2)) := fun W => (specRead_any _ W (by omega)).mono fun _ _ h => h.resV
          have K1 : Hid ((getB s C (es.getD k en0).rc (es.getD k en0).rg).2 = false → keyOf s C (es.getD k en0) = none) := key_no1
          have K2 : Hid ((readI (getB s C (es.getD k en0).rc (es.getD k en0).rg).1.data.toList).2 = false → keyOf s C (es.getD k en0) = none) := key_no2
          have K3 : Hid ((getB s C (es.getD k en0).rc (es.getD k en0).rg).2 = true → (readI (getB s C (es.getD k en0).rc (es.getD k en0).rg).1.data.toList).2 = true → keyOf s C (es.getD k en0) = some ⟨(es.getD k en0).name, (readI (getB s C (es.getD k en0).rc (es.getD k en0).rg).1.data.toList).1, (es.getD k en0).due⟩ ∧ KSm (readI (getB s C (es.getD k en0).rc (es.getD k en0).rg).1.data.toList).1) := fun h1 h2 => ⟨key_yes h1 h2, read_small h2⟩
          have HNX : Hid (∀ (w3 w5 : World) (N : Nat) (v' : Value) (y : KV), Below wr.heap.size wr w3 → wr.heap.size ≤ N → N ≤ w3.heap.size → VOwn w3 N y.key.val y.vi y.vp y.vr → OwnK w5 w1.heap.size v' (L ++ [y]) → Below w1.heap.size w3 w5 → w3.grownBy w5 u6.ownBlock → keyOf s C (es.getD k en0) = some y.key → KSm y.key.val ∧ y.key.name.size ≤ 1048576 → FetchI w1 s C es (k + 1) v' w5 (L ++ [y])) := fun w3 w5 N v' y q1 q2 q3 q4 q5 q6 q7 q8 q9 => hI.out.next q1 q2 q3 q4 q5 q6 q7 (by rw [HL.out]; exact hlt) q8 q9
          have HOW : Hid (OwnK wr w1.heap.size u6 L) := hI.out.own
          have hLn : L.length ≤ 1000 := by rw [hI.out.len]; omega
          clear hI
          generalize hen : es.getD k en0 = x at *
          clear hen
          obtain ⟨nm, rc, rg, due⟩ := x
          obtain ⟨c0, c1, c2, c3⟩ := hx
          dsimp only at c0 c1 c2 c3 hzk CG CR K1 K2 K3 hgs
          generalize keyOf s C ⟨nm, rc, rg, due⟩ = KO at *
          generalize getB s C rc rg = G at *
          obtain ⟨G1, G2⟩ := G
          dsimp only at CG CR K1 K2 K3 hgs
          generalize readI G1.data.toList = V at *
          obtain ⟨v, vo⟩ := V
          dsimp only at CR K2 K3
          have HC0 : Hid (wr.cell? ⟨eb, eo + k * 4, none⟩ = some (.string nm)) := c0
          have HC3 : Hid (wr.cell? ⟨eb, eo + k * 4 + 3, none⟩ = some (.int .i64 due)) := c3
          have kc1 := cell_regrown c1
          have kc2 := cell_regrown c2
          have kf0 := cell_regrown f0
          have kf1 := cell_regrown f1
          have hk0 : (0 : Int) ≤ (k : Int) := by omega
          have hkn : (k : Int) < (m : Int) := by omega
          clear c0 c1 c2 c3 f0 f1
          go_upto_region 7 with fail
          refine wp_region_quiet_below (by kernel_rfl) (by kernel_rfl) ?_
          repeat (first | go_big_quiet_skip | quiet_step (first | with_reducible exact CG _ _))
          refine wpQuiet_nil ?_
          intro _ hw'
          obtain ⟨⟨dq, osq⟩, hw''⟩ := hw'
          subst hw''
          have bq := below_regrown wr dq osq
          generalize grow (redrawn wr dq) osq = w2 at *
          have s2 := bq.size
          have bb2 := bbk.trans (bq.mono (by have := bbk.size; omega))
          clear kc1 kc2 kf0 kf1 CG
          go_wp2_with fail
          refine (CR.out w2).mono ?_
          rintro e w3 ⟨a1, c1, a2, c2, a3, c3, rfl, o3, b3⟩
          have s3 := b3.size
          have bb3 := bb2.trans (b3.mono bb2.size)
          have bw3 := bq.trans (b3.mono s2)
          have bz3 : Hid (∀ o, Below w.heap.size w (w3.alloc o)) := fun o => bb3.alloc bb3.size o
          cases G2 with
          | false =>
            have HY : Hid (R = none) := HN1.out (K1.out (by trivial))
            clear o3 K2 K3
            go_wp2
            go_ret2
            exact fetchEnd_no (bz3.out _) HY.out
          | true =>
            clear K1
            cases vo with
            | false =>
              have HY : Hid (R = none) := HN1.out (K2.out (by trivial))
              clear o3 K2 K3
              go_wp2
              go_ret2
              exact fetchEnd_no (bz3.out _) HY.out
            | true =>
              obtain ⟨hk3, hsm⟩ := K3.out (by trivial) (by trivial)
              have HK3 : Hid (KO = some ⟨nm, v, due⟩) := hk3
              have HSM : Hid (KSm v) := hsm
              obtain ⟨A2, hA2⟩ : ∃ A2, w3.alloc (.cells (vC v.kind v.text (.slice a1 v.items.length c1) (.slice a2 v.pairs.length c2) (.slice a3 v.ranks.length c3)) 45) = A2 := ⟨_, rfl⟩
              have HA2 : Hid (w3.alloc (.cells (vC v.kind v.text (.slice a1 v.items.length c1) (.slice a2 v.pairs.length c2) (.slice a3 v.ranks.length c3)) 45) = A2) := hA2
              have bx : Below w3.heap.size w3 A2 := by rw [← hA2]; exact (Below.refl _ w3).alloc (Nat.le_refl _) _
              have rx : RowAt A2 w3.heap.size 45 (vC v.kind v.text (.slice a1 v.items.length c1) (.slice a2 v.pairs.length c2) (.slice a3 v.ranks.length c3)) := by rw [← hA2]; exact RowAt.new w3 45 _
              have bwA := bw3.trans (bx.mono bw3.size)
              have zx := bx.size
              have zA2 : A2.heap.size = w3.heap.size + 1 := by rw [← hA2]; simp
              have bwD : Below wr.heap.size wr A2.drew := bwA.trans (below_drewN (Below.refl _ A2) 1)
              have o3D : VOwn A2.drew w2.heap.size v (.slice a1 v.items.length c1) (.slice a2 v.pairs.length c2) (.slice a3 v.ranks.length c3) := (o3.below bx).below (below_drewN (Below.refl _ A2) 1)
              obtain ⟨v', w5, hrun, o5, b5, g5⟩ := app_key (w := A2.drew) (B := w1.heap.size) (V := u6) (L := L) ⟨nm, v, due⟩ a1 a2 a3 v.items.length c1 v.pairs.length c2 v.ranks.length c3 (owns_below HOW.out bwD) (by omega) (by have := bwD.size; omega)
              have HI5 : Hid (FetchI w1 s C es (k + 1) v' w5 (L ++ [⟨⟨nm, v, due⟩, .slice a1 v.items.length c1, .slice a2 v.pairs.length c2, .slice a3 v.ranks.length c3⟩])) := HNX.out A2.drew w5 w2.heap.size v' _ bwD s2 (by show w2.heap.size ≤ A2.heap.size; omega) o3D o5 b5 g5 HK3.out ⟨HSM.out, hzk⟩
              have HRUN : (Builtin.append_ #[30, 30] 30 #[u6, .slice (some ⟨w3.heap.size + 1, 0, none⟩) 1 1]).run Tryz.prog (A2.alloc (.cells (kC nm v.kind v.text (.slice a1 v.items.length c1) (.slice a2 v.pairs.length c2) (.slice a3 v.ranks.length c3) due) 47)).drew = .ok v' w5 := by rw [← zA2]; exact hrun
              obtain ⟨k0, k1, k2, k3, k4⟩ := row5 rx
              have p0 := (bwA.cell (p := ⟨eb, eo + k * 4, none⟩) hlow).trans HC0.out
              have p3 := (bwA.cell (p := ⟨eb, eo + k * 4 + 3, none⟩) hlow).trans HC3.out
              clear hrun o5 b5 g5 hA2 o3 o3D K2 K3 hk3 hsm HNX HOW CR HC0 HC3 bwD
              generalize v.items.length = ni at *
              generalize v.pairs.length = np at *
              generalize v.ranks.length = nr at *
              generalize v.kind = vk at *
              generalize v.text = vt at *
              go_upto_region 11 with fail
              rw [HA2.out]
              have zz : A2.heap.size = w3.heap.size + 1 := zA2
              clear zA2 rx bx bz3
              go_region_law (first
                | refine step_append_run rfl (.tmp 48) (.tmp 61) 30 rfl (by simp [Act.eval]) (by simp [Act.eval]) HRUN ?_)
              all_goals
                go_wp2
                go_roundw
                case rel => exact ⟨k + 1, _, by omega, by go_num, HI5⟩
                case measure => simp [intOf]; omega
        · obtain rfl : k = m := by omega
          have e1 : es.take k = es := List.take_of_length_le (by rw [HL.out]; exact Nat.le_refl _)
          have hg := hI.out.got
          rw [e1] at hg
          have HRK : Hid (R = if dbOkB (L.map KV.key) = true then some (L.map KV.key) else none) := D5.out _ hg
          have hown : DbOwn wr w1.heap.size u6 L := ⟨hI.out.own, hI.out.vals⟩
          have hsm := hI.out.small
          have hLl : L.length ≤ 20 := by rw [hI.out.len]; exact h20
          clear hI hg e1
          obtain ⟨aa, A, cc, hu6, hat⟩ := hown.at
          subst hu6
          have HD3 := HD.out wr aa A cc L hat hsm hLl
          have HOW : Hid (∀ W, Below wr.heap.size wr W → Below w.heap.size w W → FetchEnd w (some (L.map KV.key)) (.returned (.tuple #[.slice aa L.length cc, .bool true])) W) := fun W hbw hb0 => ⟨hb0, _, L, rfl, rfl, (hown.below hbw).le s1, hsm⟩
          clear HD hown hat hsm hLl
          generalize L.map KV.key = ks at *
          generalize L.length = nl at *
          have HD4 : Hid (Calls Tryz.prog 37 #[.slice aa nl cc] wr fun e w' => e = .returned (.bool (dbOkB ks)) ∧ Below wr.heap.size wr w') := HD3
          clear HD3
          cases hok : dbOkB ks with
          | false =>
            rw [hok] at HD4 HRK
            have HY : Hid (R = none) := HRK.out
            clear hok
            go_wp2_with fail
            refine HD4.out.mono ?_
            rintro e w3 ⟨rfl, b3⟩
            have bb3 := bbk.trans (b3.mono (by have := bbk.size; omega))
            go_wp2
            go_ret2
            exact fetchEnd_no bb3 HY.out
          | true =>
            rw [hok] at HD4 HRK
            have HY : Hid (R = some ks) := HRK.out
            clear hok
            go_wp2_with fail
            refine HD4.out.mono ?_
            rintro e w3 ⟨rfl, b3⟩
            have bb3 := bbk.trans (b3.mono (by have := bbk.size; omega))
            have HEND : Hid (FetchEnd w R (.returned (.tuple #[.slice aa nl cc, .bool true])) w3) := by rw [HY.out]; exact HOW.out w3 b3 bb3
            clear HOW
            go_wp2
            go_ret2
            exact HEND.out
    · have g20 : decide ((20 : Int) < (m : Int)) = true := decide_eq_true (by omega)
      have HY : Hid (R = none) := D2.out h20
      clear h20
      go_wp2
      go_ret2
      exact fetchEnd_no bb1 HY.out
end Go.Proofs.YtapdoechmnjaeaaGreatDoor
