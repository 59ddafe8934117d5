/- FnValues: the law's walk. -/
import Derived.Test.YticajcagcdbgpaaGreatDoorA4
import Derived.Test.YticajcagcdbgpaaGreatDoorB1
import Derived.Test.YticajcagcdbgpaaGreatDoorD6
import Derived.Test.YticajcagcdbgpaaGreatDoorD3
import Derived.Test.YticajcagcdbgpaaGreatDoorX6
import Derived.Deep.RegionHeld3
import Derived.Deep.RegionHeldLaw
import Derived.Deep.RegionHeld2
import Derived.Deep.RegionHeld
namespace Go.Proofs.YticajcagcdbgpaaGreatDoor
open Go.RowKit Go.Sort
open Kk (Rk rk0 texL texR decS scoreB rightB ranksB OwnR flatR encR FitL)

def ResAt (w : World) (v : Vl) (k : Int) (t : ByteArray) (ni np nr : Nat) (o : Bool) (e : Ending) (w' : World) : Prop := ∃ a1 c1 a2 c2 a3 c3, e = .returned (.tuple #[vlV k t (.slice a1 ni c1) (.slice a2 np c2) (.slice a3 nr c3), .bool o]) ∧ VOwn w' w.heap.size v (.slice a1 ni c1) (.slice a2 np c2) (.slice a3 nr c3) ∧ Below w.heap.size w w'

theorem ValEnd.res {w : World} {r : Vl × Bool} {e : Ending} {w' : World} (h : ValEnd w r e w') : ResAt w r.1 r.1.kind r.1.text r.1.items.length r.1.pairs.length r.1.ranks.length r.2 e w' := by
  obtain ⟨vi, vp, vr, he, h1, h2, h3, hb⟩ := h
  obtain ⟨a1, c1, e1⟩ := owns_form h1
  obtain ⟨a2, c2, e2⟩ := owns_form h2
  obtain ⟨a3, c3, e3⟩ := owns_form h3
  subst e1 e2 e3
  exact ⟨a1, c1, a2, c2, a3, c3, he, ⟨h1, h2, h3⟩, hb⟩

theorem read_ok (l : List UInt8) (h : (readI l).2 = true) : vokB (readI l).1 = true := by
  have hb := read_bytes l h
  cases hv : vokB (readI l).1 with
  | true => rfl
  | false =>
    unfold vbytes at hb
    rw [hv] at hb
    have : l = [] := hb.symm
    rw [this] at h
    cases h

theorem ok_fit {v : Vl} (h : vokB v = true) : VFit v ∧ v.pairs.length ≤ 500000 ∧ FitL v.ranks := by
  have hs := small_of_ok h
  have h1 := hs.text
  have h2 := hs.ni
  have h3 := hs.np
  have h4 := hs.nr
  exact ⟨⟨by omega, by omega, by omega, by omega⟩, by omega, fun x hx => by have := (hs.ranks x hx).2; exact ⟨by omega, by omega⟩⟩

theorem eqb_refl (s : ByteArray) : (s.toList == s.toList) = true := by simp

/-- What the second half of the law asks. -/
structure Half (s : ByteArray) : Prop where
  im : ∀ w, Ready w → Calls Tryz.prog 7 #[.string s] w (ResAt w (readI s.data.toList).1 (readI s.data.toList).1.kind (readI s.data.toList).1.text (readI s.data.toList).1.items.length (readI s.data.toList).1.pairs.length (readI s.data.toList).1.ranks.length (readI s.data.toList).2)
  sp : ∀ w, Calls Tryz.prog 13 #[.string s] w (ResAt w (readI s.data.toList).1 (readI s.data.toList).1.kind (readI s.data.toList).1.text (readI s.data.toList).1.items.length (readI s.data.toList).1.pairs.length (readI s.data.toList).1.ranks.length (readI s.data.toList).2)
  by_ : (readI s.data.toList).2 = true → ∀ (vi vp vr : Value) (B : Nat) (w : World), VOwn w B (readI s.data.toList).1 vi vp vr → Ready w → Calls Tryz.prog 6 #[vlV (readI s.data.toList).1.kind (readI s.data.toList).1.text vi vp vr] w fun e w' => e = .returned (.string s) ∧ Below w.heap.size w w'

theorem half_of (s : ByteArray) (hs : s.size ≤ 1048576) : Half s :=
  ⟨fun w hr => (readV_any s w hs hr).mono fun _ _ h => h.res, fun w => (specRead_any s w hs).mono fun _ _ h => h.res, fun ho vi vp vr B w hv hr => by
    obtain ⟨h1, h2, h3⟩ := ok_fit (read_ok _ ho)
    have := implBytes_any _ vi vp vr B w hv h1 h2 h3 hr
    rw [read_bytes _ ho] at this
    exact this⟩

set_option maxHeartbeats 16000000 in
set_option maxRecDepth 100000 in
theorem values_walk (ca : Option Addr) (cn cc : Nat) (w : World) (hn : cn ≤ 9223372036854775807) (hb : BytesIn w ca cn w.heap.size) (hr : Ready w) :
    Calls Tryz.prog 3 #[.slice ca cn cc] w fun e w' => e = .returned (.bool true) ∧ Below w.heap.size w w' := by
  have hsix := hr.six
  have HB : Hid (Calls Tryz.prog 4 #[.slice ca cn cc] w fun e w' => e = .returned (.bool (decide ((1048576 : Int) < (cn : Int)))) ∧ w' = w) := big_any ca cn cc w
  by_cases hbig : 1048576 < cn
  · have e1 : decide ((1048576 : Int) < (cn : Int)) = true := by simp; omega
    rw [e1] at HB
    clear e1
    go_enter Tryz.func3, Tryz.ntmps3
    go_wp2_with fail
    refine HB.out.mono ?_
    rintro e w1 ⟨rfl, rfl⟩
    go_wp2
    go_ret
    exact ⟨rfl, Below.refl _ _⟩
  · have e1 : decide ((1048576 : Int) < (cn : Int)) = false := by simp; omega
    rw [e1] at HB
    have HD : Hid (Calls Tryz.prog 5 #[.slice ca cn cc] w (DrawB w)) := drawV_any ca cn cc w hn hb
    have HT : Hid (∀ W, Below w.heap.size w W → Calls Tryz.prog 12 #[.slice ca cn cc] W fun e w' => ∃ s : ByteArray, e = .returned (.string s) ∧ s.size ≤ 1048576 ∧ Below W.heap.size W w') := fun W hW => drawT_any ca cn cc W hn (by
      have := hb.below hW
      exact ⟨fun h => by obtain ⟨x, o, q1, q2, q3⟩ := this.cell h; have := hW.size; exact ⟨x, o, q1, by omega, q3⟩⟩)
    have RB : Hid (∀ W, Below w.heap.size w W → Ready W) := fun W hW => hr.below (hW.mono hsix)
    clear e1 hb hr
    go_enter Tryz.func3, Tryz.ntmps3
    go_wp2_with fail
    refine HB.out.mono ?_
    rintro e w0 ⟨rfl, hw0⟩
    rw [hw0]
    clear hw0
    go_wp2_with fail
    refine HD.out.mono ?_
    rintro e w1 ⟨v, vi, vp, vr, rfl, o1, hsm, b1⟩
    have s1 := b1.size
    have hfit := hsm.fits
    have hnp : v.pairs.length ≤ 500000 := by have := hsm.np; omega
    have hfl := hsm.fit
    have HIB : Hid (∀ W, Below w1.heap.size w1 W → Calls Tryz.prog 6 #[vlV v.kind v.text vi vp vr] W fun e w' => e = .returned (.string ⟨(vbytes v).toArray⟩) ∧ Below W.heap.size W w') := fun W hW => implBytes_any v vi vp vr _ W (o1.below hW) hfit hnp hfl (RB.out W (b1.trans (hW.mono s1)))
    have HSB : Hid (∀ W, Below w1.heap.size w1 W → Calls Tryz.prog 8 #[vlV v.kind v.text vi vp vr] W fun e w' => e = .returned (.string ⟨(vbytes v).toArray⟩) ∧ Below W.heap.size W w') := fun W hW => specBytes_any v vi vp vr _ W (o1.below hW) hfit
    have HIO : Hid (∀ W, Below w1.heap.size w1 W → Calls Tryz.prog 9 #[vlV v.kind v.text vi vp vr] W fun e w' => e = .returned (.bool (vokB v)) ∧ Below W.heap.size W w') := fun W hW => implOk_any v vi vp vr _ W (o1.below hW) hfit hnp hfl (RB.out W (b1.trans (hW.mono s1)))
    have HSO : Hid (∀ W, Below w1.heap.size w1 W → Calls Tryz.prog 10 #[vlV v.kind v.text vi vp vr] W fun e w' => e = .returned (.bool (vokB v)) ∧ Below W.heap.size W w') := fun W hW => specOk_any v vi vp vr _ W (o1.below hW) hfit
    have HSV : Hid (vokB v = true → ∀ (W0 W : World) (B : Nat) (xi xp xr : Value), Below w1.heap.size w1 W → VOwn W B v xi xp xr → Calls Tryz.prog 11 #[vlV v.kind v.text xi xp xr, vlV v.kind v.text vi vp vr] W fun e w' => e = .returned (.bool true) ∧ Below W.heap.size W w') := fun hok W0 W B xi xp xr hW ho => by
      have hz : ∀ t ∈ v.items, t.size ≤ 1048576 := fun t ht => by have := hsm.items t ht; omega
      exact sameValue_any v xi xp xr vi vp vr W (ho.at hz) ((o1.below hW).at hz) (by have := hsm.ni; omega) (by have := hsm.np; omega) (by have := hsm.nr; omega)
    have HF : Hid (Half ⟨(vbytes v).toArray⟩) := half_of _ (by rw [size_mk]; have := vbytes_len v; omega)
    obtain ⟨a1, c1, e1⟩ := owns_form o1.items
    obtain ⟨a2, c2, e2⟩ := owns_form o1.pairs
    obtain ⟨a3, c3, e3⟩ := owns_form o1.ranks
    have HRD : Hid (readI (⟨(vbytes v).toArray⟩ : ByteArray).data.toList = if vokB v = true then (v, true) else (vl0, false)) := by
      show readI (vbytes v) = _
      cases hv : vokB v with
      | true => rw [back_right v hv, if_pos rfl]
      | false => rw [back_wrong v hv]; rfl
    clear o1 hfit hnp hfl
    have hIM := HF.out.im
    rw [HRD.out] at hIM
    clear HF HRD hsm
    generalize (⟨(vbytes v).toArray⟩ : ByteArray) = s at *
    cases hok : vokB v with
    | false =>
      have HIM : Hid (∀ W, Ready W → Calls Tryz.prog 7 #[.string s] W (ResAt W vl0 0 ⟨#[]⟩ 0 0 0 false)) := by rw [hok] at hIM; exact hIM
      rw [hok] at HIO HSO
      clear hIM
      generalize v.items.length = ni at *
      generalize v.pairs.length = np at *
      generalize v.ranks.length = nr at *
      subst e1 e2 e3
      generalize v.kind = k at *
      generalize v.text = t at *
      obtain ⟨A1, hA1⟩ : ∃ A1, w1.alloc (.cells (vC k t (.slice a1 ni c1) (.slice a2 np c2) (.slice a3 nr c3)) 28) = A1 := ⟨_, rfl⟩
      have HA1 : Hid (w1.alloc (.cells (vC k t (.slice a1 ni c1) (.slice a2 np c2) (.slice a3 nr c3)) 28) = A1) := hA1
      have ra : RowAt A1 w1.heap.size 28 (vC k t (.slice a1 ni c1) (.slice a2 np c2) (.slice a3 nr c3)) := by rw [← hA1]; exact RowAt.new w1 28 _
      have zA1 : A1.heap.size = w1.heap.size + 1 := by rw [← hA1]; simp
      have ba : Below w1.heap.size w1 A1 := by rw [← hA1]; exact (Below.refl _ w1).alloc (Nat.le_refl _) _
      have RA : Hid (RowAt A1 w1.heap.size 28 (vC k t (.slice a1 ni c1) (.slice a2 np c2) (.slice a3 nr c3))) := ra
      clear hA1 ra
      go_wp2_with fail
      rw [HA1.out]
      refine (HIB.out A1 ba).mono ?_
      rintro e w2 ⟨rfl, b2⟩
      have b12 := ba.trans (b2.mono ba.size)
      have bb2 := b1.trans (b12.mono s1)
      have s12 := b12.size
      have RA2 : Hid (RowAt w2 w1.heap.size 28 (vC k t (.slice a1 ni c1) (.slice a2 np c2) (.slice a3 nr c3))) := RowAt.below RA.out b2 (by omega)
      clear b2 ba RA
      go_wp2_with fail
      refine (HIM.out w2 (RB.out w2 bb2)).mono ?_
      rintro e w3 ⟨x1, d1, x2, d2, x3, d3, rfl, ox, b3⟩
      have b13 := b12.trans (b3.mono s12)
      have s13 := b13.size
      obtain ⟨A3, hA3⟩ : ∃ A3, w3.alloc (.cells (vC 0 ⟨#[]⟩ (.slice x1 0 d1) (.slice x2 0 d2) (.slice x3 0 d3)) 28) = A3 := ⟨_, rfl⟩
      have HA3 : Hid (w3.alloc (.cells (vC 0 ⟨#[]⟩ (.slice x1 0 d1) (.slice x2 0 d2) (.slice x3 0 d3)) 28) = A3) := hA3
      have rx : RowAt A3 w3.heap.size 28 (vC 0 ⟨#[]⟩ (.slice x1 0 d1) (.slice x2 0 d2) (.slice x3 0 d3)) := by rw [← hA3]; exact RowAt.new w3 28 _
      have bA3 : Below w3.heap.size w3 A3 := by rw [← hA3]; exact (Below.refl _ w3).alloc (Nat.le_refl _) _
      have b1A : Below w1.heap.size w1 A3 := b13.trans (bA3.mono s13)
      have s1A := b1A.size
      have ra3 : RowAt A3 w1.heap.size 28 (vC k t (.slice a1 ni c1) (.slice a2 np c2) (.slice a3 nr c3)) := RowAt.below (RowAt.below RA2.out b3 RA2.out.lt) bA3 (by have := RA2.out.lt; have := b3.size; omega)
      have kp : ∀ {W : World}, Below A3.heap.size A3 W → (W.cell? ⟨w1.heap.size, 0, none⟩ = some (.int .i64 k) ∧ W.cell? ⟨w1.heap.size, 1, none⟩ = some (.string t) ∧ W.cell? ⟨w1.heap.size, 2, none⟩ = some (.slice a1 ni c1) ∧ W.cell? ⟨w1.heap.size, 3, none⟩ = some (.slice a2 np c2) ∧ W.cell? ⟨w1.heap.size, 4, none⟩ = some (.slice a3 nr c3) ∧ W.cell? ⟨w3.heap.size, 0, none⟩ = some (.int .i64 0) ∧ W.cell? ⟨w3.heap.size, 1, none⟩ = some (.string ⟨#[]⟩) ∧ W.cell? ⟨w3.heap.size, 2, none⟩ = some (.slice x1 0 d1) ∧ W.cell? ⟨w3.heap.size, 3, none⟩ = some (.slice x2 0 d2) ∧ W.cell? ⟨w3.heap.size, 4, none⟩ = some (.slice x3 0 d3)) := fun b => by
        obtain ⟨k0, k1, k2, k3, k4⟩ := row5 (RowAt.below ra3 b ra3.lt)
        obtain ⟨j0, j1, j2, j3, j4⟩ := row5 (RowAt.below rx b rx.lt)
        exact ⟨k0, k1, k2, k3, k4, j0, j1, j2, j3, j4⟩
      have up : ∀ {W : World}, Below A3.heap.size A3 W → Below w1.heap.size w1 W := fun b => b1A.trans (b.mono s1A)
      have BB : Hid (∀ W, Below A3.heap.size A3 W → Below w1.heap.size w1 W) := fun W hW => up hW
      obtain ⟨k0, k1, k2, k3, k4⟩ := row5 ra3
      have q0 := cell_regrown k0
      have q1 := cell_regrown k1
      have q2 := cell_regrown k2
      have q3 := cell_regrown k3
      have q4 := cell_regrown k4
      have c8 : ∀ d os, Calls Tryz.prog 8 #[vlV k t (.slice a1 ni c1) (.slice a2 np c2) (.slice a3 nr c3)] (grow (redrawn A3 d) os) fun e w'' => e = .returned (.string s) ∧ ∃ p : Regrown, w'' = grow (redrawn A3 p.d) p.os := fun d os => Calls.regrown_of (HSB.out _ (up (below_regrown A3 d os)))
      have c9 : ∀ d os, Calls Tryz.prog 9 #[vlV k t (.slice a1 ni c1) (.slice a2 np c2) (.slice a3 nr c3)] (grow (redrawn A3 d) os) fun e w'' => e = .returned (.bool false) ∧ ∃ p : Regrown, w'' = grow (redrawn A3 p.d) p.os := fun d os => Calls.regrown_of (HIO.out _ (up (below_regrown A3 d os)))
      have c10 : ∀ d os, Calls Tryz.prog 10 #[vlV k t (.slice a1 ni c1) (.slice a2 np c2) (.slice a3 nr c3)] (grow (redrawn A3 d) os) fun e w'' => e = .returned (.bool false) ∧ ∃ p : Regrown, w'' = grow (redrawn A3 p.d) p.os := fun d os => Calls.regrown_of (HSO.out _ (up (below_regrown A3 d os)))
      have BW : Hid (∀ W, Below A3.heap.size A3 W → Below w.heap.size w W) := fun W hW => b1.trans ((up hW).mono s1)
      clear hA3 rx bA3 ra3 up ox b3 b13 b12 bb2 HIB HSB HIO HSO HIM HSV RA2 hok b1A kp k0 k1 k2 k3 k4 BB
      go_upto_region 6 with fail
      rw [HA3.out]
      refine wp_region_quiet_below (by kernel_rfl) (by kernel_rfl) ?_
      repeat (quiet_step (first | exact c8 _ _ | exact c9 _ _ | exact c10 _ _))
      refine wpQuiet_nil ?_
      intro _ hw'
      obtain ⟨⟨dq, osq⟩, hw''⟩ := hw'
      subst hw''
      have bx := below_regrown A3 dq osq
      generalize grow (redrawn A3 dq) osq = wx at *
      clear c8 c9 c10 q0 q1 q2 q3 q4
      go_wp2_with fail
      refine (HT.out _ (BW.out _ bx)).mono ?_
      rintro e w8 ⟨t2, rfl, ht2, b8⟩
      have bb8 := (BW.out _ bx).trans (b8.mono (BW.out _ bx).size)
      have hHF := half_of t2 ht2
      have HI2 : Hid (∀ W, Ready W → Calls Tryz.prog 7 #[.string t2] W (ResAt W (readI t2.data.toList).1 (readI t2.data.toList).1.kind (readI t2.data.toList).1.text (readI t2.data.toList).1.items.length (readI t2.data.toList).1.pairs.length (readI t2.data.toList).1.ranks.length (readI t2.data.toList).2)) := hHF.im
      have HS2 : Hid (∀ W, Calls Tryz.prog 13 #[.string t2] W (ResAt W (readI t2.data.toList).1 (readI t2.data.toList).1.kind (readI t2.data.toList).1.text (readI t2.data.toList).1.items.length (readI t2.data.toList).1.pairs.length (readI t2.data.toList).1.ranks.length (readI t2.data.toList).2)) := hHF.sp
      have HB2 : Hid ((readI t2.data.toList).2 = true → ∀ (vi vp vr : Value) (B : Nat) (w : World), VOwn w B (readI t2.data.toList).1 vi vp vr → Ready w → Calls Tryz.prog 6 #[vlV (readI t2.data.toList).1.kind (readI t2.data.toList).1.text vi vp vr] w fun e w' => e = .returned (.string t2) ∧ Below w.heap.size w w') := hHF.by_
      clear hHF bx b8
      generalize (readI t2.data.toList).2 = o2 at *
      generalize (readI t2.data.toList).1.items.length = li at *
      generalize (readI t2.data.toList).1.pairs.length = lp at *
      generalize (readI t2.data.toList).1.ranks.length = lr at *
      generalize (readI t2.data.toList).1.kind = ky at *
      generalize (readI t2.data.toList).1.text = ty at *
      generalize (readI t2.data.toList).1 = V2 at *
      have s8 := bb8.size
      go_wp2_with fail
      refine (HI2.out w8 (RB.out w8 bb8)).mono ?_
      rintro e w9 ⟨y1, f1, y2, f2, y3, f3, rfl, oy, b9⟩
      have bb9 := bb8.trans (b9.mono s8)
      have s9 := bb9.size
      obtain ⟨A9, hA9⟩ : ∃ A9, w9.alloc (.cells (vC ky ty (.slice y1 li f1) (.slice y2 lp f2) (.slice y3 lr f3)) 28) = A9 := ⟨_, rfl⟩
      have HA9 : Hid (w9.alloc (.cells (vC ky ty (.slice y1 li f1) (.slice y2 lp f2) (.slice y3 lr f3)) 28) = A9) := hA9
      have ry : RowAt A9 w9.heap.size 28 (vC ky ty (.slice y1 li f1) (.slice y2 lp f2) (.slice y3 lr f3)) := by rw [← hA9]; exact RowAt.new w9 28 _
      have by9 : Below w9.heap.size w9 A9 := by rw [← hA9]; exact (Below.refl _ w9).alloc (Nat.le_refl _) _
      have bbA9 := bb9.trans (by9.mono s9)
      have OY : Hid (VOwn A9 w8.heap.size V2 (.slice y1 li f1) (.slice y2 lp f2) (.slice y3 lr f3)) := oy.below by9
      have RY : Hid (RowAt A9 w9.heap.size 28 (vC ky ty (.slice y1 li f1) (.slice y2 lp f2) (.slice y3 lr f3))) := ry
      clear hA9 oy b9 ry
      go_wp2_with fail
      rw [HA9.out]
      refine (HS2.out A9).mono ?_
      rintro e w10 ⟨z1, h1, z2, h2, z3, h3, rfl, _, b10⟩
      have bb10 := bbA9.trans (b10.mono bbA9.size)
      have s10 := bb10.size
      obtain ⟨A10, hA10⟩ : ∃ A10, w10.alloc (.cells (vC ky ty (.slice z1 li h1) (.slice z2 lp h2) (.slice z3 lr h3)) 28) = A10 := ⟨_, rfl⟩
      have HA10 : Hid (w10.alloc (.cells (vC ky ty (.slice z1 li h1) (.slice z2 lp h2) (.slice z3 lr h3)) 28) = A10) := hA10
      have bz10 : Below w10.heap.size w10 A10 := by rw [← hA10]; exact (Below.refl _ w10).alloc (Nat.le_refl _) _
      have bbA10 := bb10.trans (bz10.mono s10)
      have b910 : Below A9.heap.size A9 A10 := b10.trans (bz10.mono b10.size)
      have ry10 := RowAt.below RY.out b910 RY.out.lt
      obtain ⟨n0, n1, n2, n3, n4⟩ := row5 ry10
      rw [← hA10] at n0 n1 n2 n3 n4
      have OY10 : Hid (VOwn A10 w8.heap.size V2 (.slice y1 li f1) (.slice y2 lp f2) (.slice y3 lr f3)) := OY.out.below b910
      clear hA10 ry10 bz10 b10
      cases o2 with
      | false =>
        go_wp2_with fail
        rw [HA10.out]
        go_ret
        exact ⟨rfl, bbA10⟩
      | true =>
        have HC6 : Hid (Calls Tryz.prog 6 #[vlV ky ty (.slice y1 li f1) (.slice y2 lp f2) (.slice y3 lr f3)] A10 fun e w' => e = .returned (.string t2) ∧ Below A10.heap.size A10 w') := HB2.out rfl _ _ _ _ A10 OY10.out (RB.out A10 bbA10)
        go_wp2_with fail
        rw [HA10.out]
        refine HC6.out.mono ?_
        rintro e w11 ⟨rfl, b11⟩
        have bb11 := bbA10.trans (b11.mono bbA10.size)
        clear n0 n1 n2 n3 n4
        go_wp2
        go_ret
        exact ⟨rfl, bb11⟩

    | true =>
      have HIM : Hid (∀ W, Ready W → Calls Tryz.prog 7 #[.string s] W (ResAt W v v.kind v.text v.items.length v.pairs.length v.ranks.length true)) := by rw [hok] at hIM; exact hIM
      rw [hok] at HIO HSO
      clear hIM
      generalize v.items.length = ni at *
      generalize v.pairs.length = np at *
      generalize v.ranks.length = nr at *
      subst e1 e2 e3
      generalize v.kind = k at *
      generalize v.text = t at *
      obtain ⟨A1, hA1⟩ : ∃ A1, w1.alloc (.cells (vC k t (.slice a1 ni c1) (.slice a2 np c2) (.slice a3 nr c3)) 28) = A1 := ⟨_, rfl⟩
      have HA1 : Hid (w1.alloc (.cells (vC k t (.slice a1 ni c1) (.slice a2 np c2) (.slice a3 nr c3)) 28) = A1) := hA1
      have ra : RowAt A1 w1.heap.size 28 (vC k t (.slice a1 ni c1) (.slice a2 np c2) (.slice a3 nr c3)) := by rw [← hA1]; exact RowAt.new w1 28 _
      have zA1 : A1.heap.size = w1.heap.size + 1 := by rw [← hA1]; simp
      have ba : Below w1.heap.size w1 A1 := by rw [← hA1]; exact (Below.refl _ w1).alloc (Nat.le_refl _) _
      have RA : Hid (RowAt A1 w1.heap.size 28 (vC k t (.slice a1 ni c1) (.slice a2 np c2) (.slice a3 nr c3))) := ra
      clear hA1 ra
      go_wp2_with fail
      rw [HA1.out]
      refine (HIB.out A1 ba).mono ?_
      rintro e w2 ⟨rfl, b2⟩
      have b12 := ba.trans (b2.mono ba.size)
      have bb2 := b1.trans (b12.mono s1)
      have s12 := b12.size
      have RA2 : Hid (RowAt w2 w1.heap.size 28 (vC k t (.slice a1 ni c1) (.slice a2 np c2) (.slice a3 nr c3))) := RowAt.below RA.out b2 (by omega)
      clear b2 ba RA
      go_wp2_with fail
      refine (HIM.out w2 (RB.out w2 bb2)).mono ?_
      rintro e w3 ⟨x1, d1, x2, d2, x3, d3, rfl, ox, b3⟩
      have b13 := b12.trans (b3.mono s12)
      have s13 := b13.size
      obtain ⟨A3, hA3⟩ : ∃ A3, w3.alloc (.cells (vC k t (.slice x1 ni d1) (.slice x2 np d2) (.slice x3 nr d3)) 28) = A3 := ⟨_, rfl⟩
      have HA3 : Hid (w3.alloc (.cells (vC k t (.slice x1 ni d1) (.slice x2 np d2) (.slice x3 nr d3)) 28) = A3) := hA3
      have rx : RowAt A3 w3.heap.size 28 (vC k t (.slice x1 ni d1) (.slice x2 np d2) (.slice x3 nr d3)) := by rw [← hA3]; exact RowAt.new w3 28 _
      have bA3 : Below w3.heap.size w3 A3 := by rw [← hA3]; exact (Below.refl _ w3).alloc (Nat.le_refl _) _
      have b1A : Below w1.heap.size w1 A3 := b13.trans (bA3.mono s13)
      have s1A := b1A.size
      have ra3 : RowAt A3 w1.heap.size 28 (vC k t (.slice a1 ni c1) (.slice a2 np c2) (.slice a3 nr c3)) := RowAt.below (RowAt.below RA2.out b3 RA2.out.lt) bA3 (by have := RA2.out.lt; have := b3.size; omega)
      have kp : ∀ {W : World}, Below A3.heap.size A3 W → (W.cell? ⟨w1.heap.size, 0, none⟩ = some (.int .i64 k) ∧ W.cell? ⟨w1.heap.size, 1, none⟩ = some (.string t) ∧ W.cell? ⟨w1.heap.size, 2, none⟩ = some (.slice a1 ni c1) ∧ W.cell? ⟨w1.heap.size, 3, none⟩ = some (.slice a2 np c2) ∧ W.cell? ⟨w1.heap.size, 4, none⟩ = some (.slice a3 nr c3) ∧ W.cell? ⟨w3.heap.size, 0, none⟩ = some (.int .i64 k) ∧ W.cell? ⟨w3.heap.size, 1, none⟩ = some (.string t) ∧ W.cell? ⟨w3.heap.size, 2, none⟩ = some (.slice x1 ni d1) ∧ W.cell? ⟨w3.heap.size, 3, none⟩ = some (.slice x2 np d2) ∧ W.cell? ⟨w3.heap.size, 4, none⟩ = some (.slice x3 nr d3)) := fun b => by
        obtain ⟨k0, k1, k2, k3, k4⟩ := row5 (RowAt.below ra3 b ra3.lt)
        obtain ⟨j0, j1, j2, j3, j4⟩ := row5 (RowAt.below rx b rx.lt)
        exact ⟨k0, k1, k2, k3, k4, j0, j1, j2, j3, j4⟩
      have up : ∀ {W : World}, Below A3.heap.size A3 W → Below w1.heap.size w1 W := fun b => b1A.trans (b.mono s1A)
      have G8 : Hid (∀ W, Below A3.heap.size A3 W → Calls Tryz.prog 8 #[vlV k t (.slice a1 ni c1) (.slice a2 np c2) (.slice a3 nr c3)] W fun e w' => e = .returned (.string s) ∧ Below A3.heap.size A3 w') := fun W hW => (HSB.out W (up hW)).mono fun e w' ⟨he, h⟩ => ⟨he, hW.trans (h.mono hW.size)⟩
      have G9 : Hid (∀ W, Below A3.heap.size A3 W → Calls Tryz.prog 9 #[vlV k t (.slice a1 ni c1) (.slice a2 np c2) (.slice a3 nr c3)] W fun e w' => e = .returned (.bool true) ∧ Below A3.heap.size A3 w') := fun W hW => (HIO.out W (up hW)).mono fun e w' ⟨he, h⟩ => ⟨he, hW.trans (h.mono hW.size)⟩
      have G10 : Hid (∀ W, Below A3.heap.size A3 W → Calls Tryz.prog 10 #[vlV k t (.slice a1 ni c1) (.slice a2 np c2) (.slice a3 nr c3)] W fun e w' => e = .returned (.bool true) ∧ Below A3.heap.size A3 w') := fun W hW => (HSO.out W (up hW)).mono fun e w' ⟨he, h⟩ => ⟨he, hW.trans (h.mono hW.size)⟩
      have G11 : Hid (∀ W, Below A3.heap.size A3 W → Calls Tryz.prog 11 #[vlV k t (.slice x1 ni d1) (.slice x2 np d2) (.slice x3 nr d3), vlV k t (.slice a1 ni c1) (.slice a2 np c2) (.slice a3 nr c3)] W fun e w' => e = .returned (.bool true) ∧ Below A3.heap.size A3 w') := fun W hW => (HSV.out hok w1 W w2.heap.size _ _ _ (up hW) ((ox.below bA3).below hW)).mono fun e w' ⟨he, h⟩ => ⟨he, hW.trans (h.mono hW.size)⟩
      have BW : Hid (∀ W, Below A3.heap.size A3 W → Below w.heap.size w W) := fun W hW => b1.trans ((up hW).mono s1)
      have bx : Below A3.heap.size A3 A3.drew := below_drewN (Below.refl _ _) 1
      have KP : Hid (∀ {W : World}, Below A3.heap.size A3 W → (W.cell? ⟨w1.heap.size, 0, none⟩ = some (.int .i64 k) ∧ W.cell? ⟨w1.heap.size, 1, none⟩ = some (.string t) ∧ W.cell? ⟨w1.heap.size, 2, none⟩ = some (.slice a1 ni c1) ∧ W.cell? ⟨w1.heap.size, 3, none⟩ = some (.slice a2 np c2) ∧ W.cell? ⟨w1.heap.size, 4, none⟩ = some (.slice a3 nr c3) ∧ W.cell? ⟨w3.heap.size, 0, none⟩ = some (.int .i64 k) ∧ W.cell? ⟨w3.heap.size, 1, none⟩ = some (.string t) ∧ W.cell? ⟨w3.heap.size, 2, none⟩ = some (.slice x1 ni d1) ∧ W.cell? ⟨w3.heap.size, 3, none⟩ = some (.slice x2 np d2) ∧ W.cell? ⟨w3.heap.size, 4, none⟩ = some (.slice x3 nr d3))) := kp
      clear hA3 rx bA3 ra3 up ox b3 b13 b12 bb2 HIB HSB HIO HSO HIM HSV RA2 hok b1A kp
      go_upto_region 6 with fail
      rw [HA3.out]
      go_region_held3 (fun W => W.cell? ⟨w1.heap.size, 0, none⟩ = some (.int .i64 k) ∧ W.cell? ⟨w1.heap.size, 1, none⟩ = some (.string t) ∧ W.cell? ⟨w1.heap.size, 2, none⟩ = some (.slice a1 ni c1) ∧ W.cell? ⟨w1.heap.size, 3, none⟩ = some (.slice a2 np c2) ∧ W.cell? ⟨w1.heap.size, 4, none⟩ = some (.slice a3 nr c3) ∧ W.cell? ⟨w3.heap.size, 0, none⟩ = some (.int .i64 k) ∧ W.cell? ⟨w3.heap.size, 1, none⟩ = some (.string t) ∧ W.cell? ⟨w3.heap.size, 2, none⟩ = some (.slice x1 ni d1) ∧ W.cell? ⟨w3.heap.size, 3, none⟩ = some (.slice x2 np d2) ∧ W.cell? ⟨w3.heap.size, 4, none⟩ = some (.slice x3 nr d3))
        (exact KP.out bx)
        (first
          | (go_at_call 8
             refine (G8.out _ bx).mono ?_
             rintro e wx ⟨rfl, b1x⟩
             have bx := b1x)
          | (go_at_call 9
             refine (G9.out _ bx).mono ?_
             rintro e wx ⟨rfl, b1x⟩
             have bx := b1x)
          | (go_at_call 10
             refine (G10.out _ bx).mono ?_
             rintro e wx ⟨rfl, b1x⟩
             have bx := b1x)
          | (go_at_call 11
             refine (G11.out _ bx).mono ?_
             rintro e wx ⟨rfl, b1x⟩
             have bx := b1x))
      all_goals
        go_wp2_with fail
        refine (HT.out _ (BW.out _ bx)).mono ?_
        rintro e w8 ⟨t2, rfl, ht2, b8⟩
        have bb8 := (BW.out _ bx).trans (b8.mono (BW.out _ bx).size)
        have hHF := half_of t2 ht2
        have HI2 : Hid (∀ W, Ready W → Calls Tryz.prog 7 #[.string t2] W (ResAt W (readI t2.data.toList).1 (readI t2.data.toList).1.kind (readI t2.data.toList).1.text (readI t2.data.toList).1.items.length (readI t2.data.toList).1.pairs.length (readI t2.data.toList).1.ranks.length (readI t2.data.toList).2)) := hHF.im
        have HS2 : Hid (∀ W, Calls Tryz.prog 13 #[.string t2] W (ResAt W (readI t2.data.toList).1 (readI t2.data.toList).1.kind (readI t2.data.toList).1.text (readI t2.data.toList).1.items.length (readI t2.data.toList).1.pairs.length (readI t2.data.toList).1.ranks.length (readI t2.data.toList).2)) := hHF.sp
        have HB2 : Hid ((readI t2.data.toList).2 = true → ∀ (vi vp vr : Value) (B : Nat) (w : World), VOwn w B (readI t2.data.toList).1 vi vp vr → Ready w → Calls Tryz.prog 6 #[vlV (readI t2.data.toList).1.kind (readI t2.data.toList).1.text vi vp vr] w fun e w' => e = .returned (.string t2) ∧ Below w.heap.size w w') := hHF.by_
        clear hHF bx b8
        generalize (readI t2.data.toList).2 = o2 at *
        generalize (readI t2.data.toList).1.items.length = li at *
        generalize (readI t2.data.toList).1.pairs.length = lp at *
        generalize (readI t2.data.toList).1.ranks.length = lr at *
        generalize (readI t2.data.toList).1.kind = ky at *
        generalize (readI t2.data.toList).1.text = ty at *
        generalize (readI t2.data.toList).1 = V2 at *
        have s8 := bb8.size
        go_wp2_with fail
        refine (HI2.out w8 (RB.out w8 bb8)).mono ?_
        rintro e w9 ⟨y1, f1, y2, f2, y3, f3, rfl, oy, b9⟩
        have bb9 := bb8.trans (b9.mono s8)
        have s9 := bb9.size
        obtain ⟨A9, hA9⟩ : ∃ A9, w9.alloc (.cells (vC ky ty (.slice y1 li f1) (.slice y2 lp f2) (.slice y3 lr f3)) 28) = A9 := ⟨_, rfl⟩
        have HA9 : Hid (w9.alloc (.cells (vC ky ty (.slice y1 li f1) (.slice y2 lp f2) (.slice y3 lr f3)) 28) = A9) := hA9
        have ry : RowAt A9 w9.heap.size 28 (vC ky ty (.slice y1 li f1) (.slice y2 lp f2) (.slice y3 lr f3)) := by rw [← hA9]; exact RowAt.new w9 28 _
        have by9 : Below w9.heap.size w9 A9 := by rw [← hA9]; exact (Below.refl _ w9).alloc (Nat.le_refl _) _
        have bbA9 := bb9.trans (by9.mono s9)
        have OY : Hid (VOwn A9 w8.heap.size V2 (.slice y1 li f1) (.slice y2 lp f2) (.slice y3 lr f3)) := oy.below by9
        have RY : Hid (RowAt A9 w9.heap.size 28 (vC ky ty (.slice y1 li f1) (.slice y2 lp f2) (.slice y3 lr f3))) := ry
        clear hA9 oy b9 ry
        go_wp2_with fail
        rw [HA9.out]
        refine (HS2.out A9).mono ?_
        rintro e w10 ⟨z1, h1, z2, h2, z3, h3, rfl, _, b10⟩
        have bb10 := bbA9.trans (b10.mono bbA9.size)
        have s10 := bb10.size
        obtain ⟨A10, hA10⟩ : ∃ A10, w10.alloc (.cells (vC ky ty (.slice z1 li h1) (.slice z2 lp h2) (.slice z3 lr h3)) 28) = A10 := ⟨_, rfl⟩
        have HA10 : Hid (w10.alloc (.cells (vC ky ty (.slice z1 li h1) (.slice z2 lp h2) (.slice z3 lr h3)) 28) = A10) := hA10
        have bz10 : Below w10.heap.size w10 A10 := by rw [← hA10]; exact (Below.refl _ w10).alloc (Nat.le_refl _) _
        have bbA10 := bb10.trans (bz10.mono s10)
        have b910 : Below A9.heap.size A9 A10 := b10.trans (bz10.mono b10.size)
        have ry10 := RowAt.below RY.out b910 RY.out.lt
        obtain ⟨n0, n1, n2, n3, n4⟩ := row5 ry10
        rw [← hA10] at n0 n1 n2 n3 n4
        have OY10 : Hid (VOwn A10 w8.heap.size V2 (.slice y1 li f1) (.slice y2 lp f2) (.slice y3 lr f3)) := OY.out.below b910
        clear hA10 ry10 bz10 b10
        cases o2 with
        | false =>
          go_wp2_with fail
          rw [HA10.out]
          go_ret
          exact ⟨rfl, bbA10⟩
        | true =>
          have HC6 : Hid (Calls Tryz.prog 6 #[vlV ky ty (.slice y1 li f1) (.slice y2 lp f2) (.slice y3 lr f3)] A10 fun e w' => e = .returned (.string t2) ∧ Below A10.heap.size A10 w') := HB2.out rfl _ _ _ _ A10 OY10.out (RB.out A10 bbA10)
          go_wp2_with fail
          rw [HA10.out]
          refine HC6.out.mono ?_
          rintro e w11 ⟨rfl, b11⟩
          have bb11 := bbA10.trans (b11.mono bbA10.size)
          clear n0 n1 n2 n3 n4
          go_wp2
          go_ret
          exact ⟨rfl, bb11⟩

end Go.Proofs.YticajcagcdbgpaaGreatDoor
