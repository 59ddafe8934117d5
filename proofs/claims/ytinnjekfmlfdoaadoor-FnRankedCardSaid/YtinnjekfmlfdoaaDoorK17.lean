/- impl.Ranked answers as the specification. -/
import Derived.Test.YtinnjekfmlfdoaaDoorK16
namespace Go.Proofs.YtinnjekfmlfdoaaDoor
open Go.RowKit Go.Sort

theorem ownR_one (w : World) (B : Nat) (m : ByteArray) (s : Int) (hB : B ≤ w.heap.size) : OwnR (w.alloc (.cells #[.string m, .int .i64 s] 30)) B (.slice (some ⟨w.heap.size, 0, none⟩) 1 1) [⟨m, s⟩] :=
  ⟨rfl, .inr ⟨w.heap.size, 1, #[.string m, .int .i64 s], rfl, hB, RowAt.new w 30 _, by simp, by unfold maxLen; omega, by simp, rfl⟩⟩

theorem fit_without {L : List Rk} {m : ByteArray} (h : FitL L) : FitL (without L m) := fun x hx => h x (List.mem_filter.1 hx).1
theorem fit_ins {M : List Rk} {x : Rk} (h : FitL M) (hx : fitS x.s) : FitL (insR M x) := fun y hy => by
  rcases ins_mem hy with rfl | hy
  · exact hx
  · exact h y hy

theorem right_pos {L : List Rk} (h : 1 ≤ L.length) : rightB L = ranksB L := by unfold rightB; rw [decide_eq_true h, Bool.true_and]

theorem own_cast {w : World} {B A cc n : Nat} {D : List Rk} (h : OwnR w B (.slice (some ⟨A, 0, none⟩) D.length cc) D) (e : D.length = n) : OwnR w B (.slice (some ⟨A, 0, none⟩) n cc) (if true = true then D else []) := by subst e; exact h

theorem end_false {w w' : World} {I : List Rk} (hb : Below w.heap.size w w') : RankedEnd w I false (.returned (.tuple #[.slice none 0 0, .bool false])) w' :=
  ⟨⟨_, rfl, ownR_nil _ _⟩, hb⟩

set_option maxHeartbeats 4000000 in
set_option maxRecDepth 100000 in
theorem impl_core (a : Option Addr) (b off n c : Nat) (L : List Rk) (m : ByteArray) (s : Int) (w : World) (h : RanksIn w a b off n L) (hn : n ≤ 1048576) (hf : FitL L) (hfs : fitS s) (ht : Tab w) (hw10 : 2 ≤ w.heap.size) (hok : ranksB L = true)
    (hstart : n = 0 ∨ n ≠ 0 ∧ rightB L = true) :
    Calls Tryd.prog 7 #[.slice a n c, .string m, .int .i64 s] w (RankedEnd w (insR (without L m) ⟨m, s⟩) (rankedB L m s)) := by
  obtain ⟨i0, hi, hz0, hz1, hz2⟩ := info_parts info30
  have HS : Hid (L.Pairwise leR) := ranks_sorted hok
  have HRB : Hid (rankedB L m s = ranksB (insR (without L m) ⟨m, s⟩)) := by unfold Hid rankedB; rw [hok, Bool.true_and]
  have HRI : Hid (rightB (insR (without L m) ⟨m, s⟩) = ranksB (insR (without L m) ⟨m, s⟩)) := right_pos (by rw [ins_len]; omega)
  have cR := right_any a b off n c L w h (by omega) hf ht hw10
  have H : Hid (RanksIn w a b off n L) := h
  have HL : Hid (L.length = n) := h.len
  have HF : Hid (FitL L) := hf
  have HT : Hid (Tab w) := ht
  have HFS : Hid (fitS s) := hfs
  clear h hf ht hok hfs
  generalize hI : insR (without L m) ⟨m, s⟩ = I at *
  have HI : Hid (insR (without L m) ⟨m, s⟩ = I) := hI
  clear hI
  generalize hrb : rankedB L m s = rb at *
  clear hrb
  go_enter Tryd.func7, Tryd.ntmps7
  rcases hstart with h0 | ⟨h0, hr⟩
  · have hd0 : decide ((0 : Int) < (n : Int)) = false := by simp; omega
    have hd1 : decide (0 < n) = false := by simp; omega
    clear cR h0
    have b0 : Below w.heap.size w w := Below.refl _ _
    have z0 : w.heap.size ≤ w.heap.size := Nat.le_refl _
    have O0 := ownR_one w w.heap.size m s z0
    have B0 : Below w.heap.size w (w.alloc (.cells #[.string m, .int .i64 s] 30)) := b0.alloc z0 _
    go_wp2
    go_loopw [8, 25] (fun v i wr => ∃ (k A cc : Nat), k ≤ n ∧ i = .int .i64 k ∧ v = .slice (some ⟨A, 0, none⟩) ((⟨m, s⟩ : Rk) :: without (L.take k) m).length cc ∧ OwnR wr w.heap.size (.slice (some ⟨A, 0, none⟩) ((⟨m, s⟩ : Rk) :: without (L.take k) m).length cc) (⟨m, s⟩ :: without (L.take k) m) ∧ Below w.heap.size w wr) (fun _ i _ => n - (intOf i).toNat)
    case atStart => exact ⟨0, _, _, by omega, rfl, rfl, O0, B0⟩
    case round =>
      obtain ⟨k, A, cc, hk, rfl, rfl, hown, bk⟩ := hrel
      clear O0 B0
      have sk := bk.size
      by_cases hlt : k < n
      · have HW := H.out.below bk
        have hy := HW.cell k hlt
        obtain rfl := HW.addr (by omega)
        have d0 := hy.c0
        have d1 := hy.c1
        have HN : Hid (without (L.take (k + 1)) m = without (L.take k) m ++ (if (L.getD k rk0).m = m then [] else [L.getD k rk0])) := without_next L m k (by rw [HL.out]; exact hlt)
        have hwl : (without (L.take k) m).length ≤ k := Nat.le_trans (without_len _ _) (by rw [List.length_take]; omega)
        generalize L.getD k rk0 = y at *
        obtain ⟨ym, ys⟩ := y
        dsimp only at d0 d1
        clear HW hy
        have b1 : Below w.heap.size w (wr.alloc (.cells #[.string ym, .int .i64 ys] 30)) := bk.alloc sk _
        have b01 : Below wr.heap.size wr (wr.alloc (.cells #[.string ym, .int .i64 ys] 30)) := (Below.refl _ wr).alloc (Nat.le_refl _) _
        have o1 := OwnR.below hown b01
        by_cases he : ym = m
        · have HN2 : Hid (without (L.take (k + 1)) m = without (L.take k) m) := by unfold Hid; rw [HN.out, if_pos he, List.append_nil]
          have HW2 : Hid _ := o1
          subst he
          clear HN hown o1
          go_wp2
          go_roundw
          case rel => exact ⟨k + 1, A, cc, by omega, by go_num, by rw [HN2.out], by rw [HN2.out]; exact HW2.out, b1⟩
          case measure => simp [intOf]; omega
        · have HN2 : Hid (without (L.take (k + 1)) m = without (L.take k) m ++ [⟨ym, ys⟩]) := by unfold Hid; rw [HN.out, if_neg he]
          have hd := str_ne he
          have r0 := RowAt.new wr 30 #[.string ym, .int .i64 ys]
          have e0 := r0.cell 0
          have e1 := r0.cell 1
          simp only [List.getElem?_toArray, List.getElem?_cons_zero, List.getElem?_cons_succ] at e0 e1
          generalize without (L.take k) m = M at *
          clear HN he hown
          have z1 : w.heap.size ≤ (wr.alloc (.cells #[.string ym, .int .i64 ys] 30)).heap.size := by simp; omega
          go_wp2_with (at_builtin; refine wpList_append_own _ rfl _ _ 42 rfl w.heap.size 30 i0 _ 2 24 Tryd.underlying42 hi hz0 hz1 hz2 rfl (by decide) _ _ _ rfl (o1.alloc _) ⟨wr.heap.size + 1, 0, none⟩ 1 1 [.string ym, .int .i64 ys] rfl rfl ?c1 ?c2 ?c3 ?c4 ?c5 ?_)
          case c1 =>
            intro j u hj
            rw [Addr.add_lit, Nat.zero_add]
            have := (RowAt.new (wr.alloc (.cells #[.string ym, .int .i64 ys] 30)) 30 #[.string ym, .int .i64 ys]).cell j
            simp only [World.size_alloc] at this
            exact this.trans (by simpa using hj)
          case c2 => exact fun u hu => by simp at hu; rcases hu with rfl | rfl <;> rfl
          case c3 => unfold maxLen; simp; omega
          case c4 => simp; omega
          case c5 => simp; omega
          intro v' w5 hown' hgrow _
          have b5 : Below w.heap.size w w5 := below_grown (b1.alloc z1 _) hgrow (fun x hx => (o1.lt x hx).1) (by simp; omega)
          have H5 : Hid (OwnR w5 w.heap.size v' ((⟨m, s⟩ :: M) ++ [⟨ym, ys⟩])) := by
            unfold Hid OwnR
            rw [flatR_app, List.length_append]
            exact hown'
          obtain ⟨A5, c5, hv⟩ : ∃ A cap, v' = .slice (some ⟨A, 0, none⟩) ((⟨m, s⟩ :: M) ++ [(⟨ym, ys⟩ : Rk)]).length cap := Go.Joins.ownsRow_form H5.out (by simp)
          subst hv
          clear hown' hgrow o1 r0 e0 e1
          go_wp2
          go_roundw
          case rel => exact ⟨k + 1, A5, c5, by omega, by go_num, by rw [HN2.out]; rfl, by rw [HN2.out]; exact H5.out, b5⟩
          case measure => simp [intOf]; omega
      · obtain rfl : k = n := by omega
        have HTK : Hid (L.take k = L) := by unfold Hid; rw [← HL.out]; exact List.take_length
        rw [HTK.out] at hown
        have hwl : (without L m).length ≤ k := by rw [← HL.out]; exact without_len _ _
        have cS := sort_own A cc w.heap.size ⟨m, s⟩ (without L m) wr hown sk (by omega)
        have HSW : Hid ((without L m).Pairwise leR) := without_sorted HS.out
        have HFI : Hid (FitL I) := by unfold Hid; rw [← HI.out]; exact fit_ins (fit_without HF.out) HFS.out
        have HIL : Hid (I.length = (without L m).length + 1) := by unfold Hid; rw [← HI.out]; exact ins_len _ _
        have TB := HT.out.below bk hw10
        rw [HTK.out]
        clear hown
        go_wp2_with fail
        refine cS.mono ?_
        rintro e w1 ⟨rfl, D, _, hD, oD, b1⟩
        have hDI : D = I := (hD HSW.out).trans HI.out
        subst hDI
        have z1 := b1.size
        have bb := bk.trans b1
        have T1 := TB.below b1 hw10
        have cR2 := right_any (some ⟨A, 0, none⟩) A 0 D.length cc D w1 (ownR_in oD) (by rw [HIL.out]; omega) HFI.out T1 (by omega)
        rw [HRI.out, ← HRB.out, HIL.out] at cR2
        have HOD : Hid _ := oD
        clear cS hD oD T1
        go_wp2_with fail
        refine cR2.mono ?_
        rintro e w2 ⟨rfl, b2⟩
        have b3 := bb.trans (b2.mono (by omega))
        have HO2 : Hid _ := OwnR.below HOD.out b2
        clear cR2 HOD
        cases rb with
        | false =>
          go_wp2
          go_ret2
          exact end_false b3
        | true =>
          go_wp2
          go_ret2
          exact ⟨⟨_, rfl, own_cast HO2.out HIL.out⟩, b3⟩
  · rw [hr] at cR
    have hd0 : decide ((0 : Int) < (n : Int)) = true := by simp; omega
    go_wp2_with fail
    refine cR.mono ?_
    rintro e W0 ⟨rfl, b0⟩
    have z0 := b0.size
    clear cR hr
    have O0 := ownR_one W0 w.heap.size m s z0
    have B0 : Below w.heap.size w (W0.alloc (.cells #[.string m, .int .i64 s] 30)) := b0.alloc z0 _
    go_wp2
    go_loopw [8, 25] (fun v i wr => ∃ (k A cc : Nat), k ≤ n ∧ i = .int .i64 k ∧ v = .slice (some ⟨A, 0, none⟩) ((⟨m, s⟩ : Rk) :: without (L.take k) m).length cc ∧ OwnR wr w.heap.size (.slice (some ⟨A, 0, none⟩) ((⟨m, s⟩ : Rk) :: without (L.take k) m).length cc) (⟨m, s⟩ :: without (L.take k) m) ∧ Below w.heap.size w wr) (fun _ i _ => n - (intOf i).toNat)
    case atStart => exact ⟨0, _, _, by omega, rfl, rfl, O0, B0⟩
    case round =>
      obtain ⟨k, A, cc, hk, rfl, rfl, hown, bk⟩ := hrel
      clear O0 B0
      have sk := bk.size
      by_cases hlt : k < n
      · have HW := H.out.below bk
        have hy := HW.cell k hlt
        obtain rfl := HW.addr (by omega)
        have d0 := hy.c0
        have d1 := hy.c1
        have HN : Hid (without (L.take (k + 1)) m = without (L.take k) m ++ (if (L.getD k rk0).m = m then [] else [L.getD k rk0])) := without_next L m k (by rw [HL.out]; exact hlt)
        have hwl : (without (L.take k) m).length ≤ k := Nat.le_trans (without_len _ _) (by rw [List.length_take]; omega)
        generalize L.getD k rk0 = y at *
        obtain ⟨ym, ys⟩ := y
        dsimp only at d0 d1
        clear HW hy
        have b1 : Below w.heap.size w (wr.alloc (.cells #[.string ym, .int .i64 ys] 30)) := bk.alloc sk _
        have b01 : Below wr.heap.size wr (wr.alloc (.cells #[.string ym, .int .i64 ys] 30)) := (Below.refl _ wr).alloc (Nat.le_refl _) _
        have o1 := OwnR.below hown b01
        by_cases he : ym = m
        · have HN2 : Hid (without (L.take (k + 1)) m = without (L.take k) m) := by unfold Hid; rw [HN.out, if_pos he, List.append_nil]
          have HW2 : Hid _ := o1
          subst he
          clear HN hown o1
          go_wp2
          go_roundw
          case rel => exact ⟨k + 1, A, cc, by omega, by go_num, by rw [HN2.out], by rw [HN2.out]; exact HW2.out, b1⟩
          case measure => simp [intOf]; omega
        · have HN2 : Hid (without (L.take (k + 1)) m = without (L.take k) m ++ [⟨ym, ys⟩]) := by unfold Hid; rw [HN.out, if_neg he]
          have hd := str_ne he
          have r0 := RowAt.new wr 30 #[.string ym, .int .i64 ys]
          have e0 := r0.cell 0
          have e1 := r0.cell 1
          simp only [List.getElem?_toArray, List.getElem?_cons_zero, List.getElem?_cons_succ] at e0 e1
          generalize without (L.take k) m = M at *
          clear HN he hown
          have z1 : w.heap.size ≤ (wr.alloc (.cells #[.string ym, .int .i64 ys] 30)).heap.size := by simp; omega
          go_wp2_with (at_builtin; refine wpList_append_own _ rfl _ _ 42 rfl w.heap.size 30 i0 _ 2 24 Tryd.underlying42 hi hz0 hz1 hz2 rfl (by decide) _ _ _ rfl (o1.alloc _) ⟨wr.heap.size + 1, 0, none⟩ 1 1 [.string ym, .int .i64 ys] rfl rfl ?c1 ?c2 ?c3 ?c4 ?c5 ?_)
          case c1 =>
            intro j u hj
            rw [Addr.add_lit, Nat.zero_add]
            have := (RowAt.new (wr.alloc (.cells #[.string ym, .int .i64 ys] 30)) 30 #[.string ym, .int .i64 ys]).cell j
            simp only [World.size_alloc] at this
            exact this.trans (by simpa using hj)
          case c2 => exact fun u hu => by simp at hu; rcases hu with rfl | rfl <;> rfl
          case c3 => unfold maxLen; simp; omega
          case c4 => simp; omega
          case c5 => simp; omega
          intro v' w5 hown' hgrow _
          have b5 : Below w.heap.size w w5 := below_grown (b1.alloc z1 _) hgrow (fun x hx => (o1.lt x hx).1) (by simp; omega)
          have H5 : Hid (OwnR w5 w.heap.size v' ((⟨m, s⟩ :: M) ++ [⟨ym, ys⟩])) := by
            unfold Hid OwnR
            rw [flatR_app, List.length_append]
            exact hown'
          obtain ⟨A5, c5, hv⟩ : ∃ A cap, v' = .slice (some ⟨A, 0, none⟩) ((⟨m, s⟩ :: M) ++ [(⟨ym, ys⟩ : Rk)]).length cap := Go.Joins.ownsRow_form H5.out (by simp)
          subst hv
          clear hown' hgrow o1 r0 e0 e1
          go_wp2
          go_roundw
          case rel => exact ⟨k + 1, A5, c5, by omega, by go_num, by rw [HN2.out]; rfl, by rw [HN2.out]; exact H5.out, b5⟩
          case measure => simp [intOf]; omega
      · obtain rfl : k = n := by omega
        have HTK : Hid (L.take k = L) := by unfold Hid; rw [← HL.out]; exact List.take_length
        rw [HTK.out] at hown
        have hwl : (without L m).length ≤ k := by rw [← HL.out]; exact without_len _ _
        have cS := sort_own A cc w.heap.size ⟨m, s⟩ (without L m) wr hown sk (by omega)
        have HSW : Hid ((without L m).Pairwise leR) := without_sorted HS.out
        have HFI : Hid (FitL I) := by unfold Hid; rw [← HI.out]; exact fit_ins (fit_without HF.out) HFS.out
        have HIL : Hid (I.length = (without L m).length + 1) := by unfold Hid; rw [← HI.out]; exact ins_len _ _
        have TB := HT.out.below bk hw10
        rw [HTK.out]
        clear hown
        go_wp2_with fail
        refine cS.mono ?_
        rintro e w1 ⟨rfl, D, _, hD, oD, b1⟩
        have hDI : D = I := (hD HSW.out).trans HI.out
        subst hDI
        have z1 := b1.size
        have bb := bk.trans b1
        have T1 := TB.below b1 hw10
        have cR2 := right_any (some ⟨A, 0, none⟩) A 0 D.length cc D w1 (ownR_in oD) (by rw [HIL.out]; omega) HFI.out T1 (by omega)
        rw [HRI.out, ← HRB.out, HIL.out] at cR2
        have HOD : Hid _ := oD
        clear cS hD oD T1
        go_wp2_with fail
        refine cR2.mono ?_
        rintro e w2 ⟨rfl, b2⟩
        have b3 := bb.trans (b2.mono (by omega))
        have HO2 : Hid _ := OwnR.below HOD.out b2
        clear cR2 HOD
        cases rb with
        | false =>
          go_wp2
          go_ret2
          exact end_false b3
        | true =>
          go_wp2
          go_ret2
          exact ⟨⟨_, rfl, own_cast HO2.out HIL.out⟩, b3⟩
end Go.Proofs.YtinnjekfmlfdoaaDoor
