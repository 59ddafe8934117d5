/- The specification's ReadValue at a text and at items. -/
import Derived.Test.YtapdoechmnjaeaaGreatDoorX2
namespace Go.Proofs.YtapdoechmnjaeaaGreatDoor
open Go.RowKit Go.Sort
open Kk (Rk rk0 texL texR decS scoreB rightB ranksB OwnR flatR encR)

set_option maxHeartbeats 8000000 in
set_option maxRecDepth 100000 in
theorem specV_items (s : ByteArray) (l : List UInt8) (w : World) (hs : s.size ≤ 1048576) (hb : s.data.toList = 50 :: l) :
    Calls Tryz.prog 36 #[.string s] w (ValEnd w (readS1 (50 : UInt8) (textsM l))) := by
  obtain ⟨hpos, hb0, _, hll⟩ := one_of hb
  have he := empty_no hpos
  obtain ⟨i0, hi, hz0, hz1, hz2⟩ := info_parts info9
  obtain ⟨T, hT⟩ : ∃ T, textsM l = T := ⟨_, rfl⟩
  obtain ⟨RR, hRR⟩ : ∃ RR, readS1 (50 : UInt8) (textsM l) = RR := ⟨_, rfl⟩
  have HNO : Hid (T = none → RR = (vl0, false)) := fun e => by rw [← hRR, hT, e]; rfl
  have HYES : Hid (∀ ts r, T = some (ts, r) → RR = if vbytes (specV (50 : UInt8) ts) = s.data.toList then (specV (50 : UInt8) ts, true) else (vl0, false)) := fun ts r e => by
    rw [← hRR, hT, e]
    show (if _ then _ else _) = _
    have htk := spec_taken (50 : UInt8) l ts r (textsM_enc l.length l ts r (Nat.le_refl _) (hT.trans e)).1
    rw [← hb] at htk
    by_cases hc : specOkB (50 : UInt8) ts = true ∧ encT (specTx (50 : UInt8) ts) = encT ts ++ r
    · rw [if_pos hc, if_pos (htk.2 hc)]
    · rw [if_neg hc, if_neg (fun h => hc (htk.1 h))]
  have HCNT : Hid (∀ ts r, T = some (ts, r) → 2 * ts.length ≤ s.size ∧ ∀ t ∈ ts, t.size ≤ 65535) := fun ts r e => by
    have := texts_count (hT.trans e)
    exact ⟨by omega, (textsM_enc l.length l ts r (Nat.le_refl _) (hT.trans e)).2.2⟩
  have HT0 : Hid (T = preT [] (textsM (s.data.toList.drop 1))) := by unfold Hid; rw [preT_nil, hb, ← hT]; rfl
  rw [hRR]
  have hsz : s.data.toList.length = s.size := (Lib.size_eq s).symm
  have HSZ : Hid (s.data.toList.length = s.size) := hsz
  have HZ : Hid (RdS w (.slice (some ⟨w.heap.size + 1, 0, none⟩) 0 0) [] ((w.alloc (.cells z5 45)).alloc (.cells #[] 9))) := by
    have b1 : Below w.heap.size w (w.alloc (.cells z5 45)) := (Below.refl _ w).alloc (Nat.le_refl _) _
    have e1 : (w.alloc (.cells z5 45)).heap.size = w.heap.size + 1 := by simp
    refine ⟨⟨rfl, .inr ⟨w.heap.size + 1, 0, #[], rfl, Nat.le_refl _, by rw [← e1]; exact RowAt.new (w.alloc (.cells z5 45)) 9 #[], by simp, by unfold maxLen; omega, by simp, by simp [strV]⟩⟩, ?_, ?_⟩
    · exact RowAt.below (RowAt.new w 45 z5) ((Below.refl (w.alloc (.cells z5 45)).heap.size _).alloc (Nat.le_refl _) _) (by simp)
    · exact b1.alloc (by simp) _
  have h0i : (0 : Int) < (s.size : Int) := by omega
  clear hT hRR hb hll hsz
  go_enter Tryz.func36, Tryz.ntmps36
  go_wp2_with fail
  go_loopw [4, 5] (fun v i wr => ∃ (p : Nat) (acc : List ByteArray), 1 ≤ p ∧ p ≤ s.size ∧ acc.length + 1 ≤ p ∧ i = .int .i64 p ∧ RdS w v acc wr ∧ T = preT acc (textsM (s.data.toList.drop p))) (fun _ i _ => s.size - (intOf i).toNat)
  case atStart => exact ⟨1, [], by omega, by omega, by simp, rfl, HZ.out, HT0.out⟩
  case round =>
    obtain ⟨p, acc, hp1, hp2, hacl, rfl, hrd, hpre⟩ := hrel
    have HP : Hid (T = preT acc (textsM (s.data.toList.drop p))) := hpre
    have HRD : Hid (RdS w u4 acc wr) := hrd
    have hltg := hrd.res.lt
    clear HZ HT0 hpre
    by_cases hge : p + 2 ≤ s.size
    · have gge : (p : Int) + 2 ≤ (s.size : Int) := by omega
      obtain ⟨a, b', l2, hd⟩ : ∃ a b' l2, s.data.toList.drop p = a :: b' :: l2 := by
        have : 2 ≤ (s.data.toList.drop p).length := by rw [List.length_drop, HSZ.out]; omega
        match h : s.data.toList.drop p, this with
        | a :: b' :: l2, _ => exact ⟨a, b', l2, rfl⟩
      have ga := get_of hd
      have gb := get_of (s := s) (i := p + 1) (a := b') (rest := l2) (by rw [← List.drop_drop, hd]; rfl)
      have hl2 : l2.length + (p + 2) = s.size := by
        have := congrArg List.length hd
        rw [List.length_drop, HSZ.out] at this
        simp at this
        omega
      have ha256 : a.toNat < 256 := a.toNat_lt
      have hb256 : b'.toNat < 256 := b'.toNat_lt
      obtain ⟨n, hn⟩ : ∃ n, 256 * a.toNat + b'.toNat = n := ⟨_, rfl⟩
      have hn2 : (256 : Int) * (a.toNat : Int) + (b'.toNat : Int) = (n : Int) := by omega
      have hnb : n ≤ 65535 := by omega
      have HN : Hid (textsM (s.data.toList.drop p) = if l2.length < n then none else preT [⟨(l2.take n).toArray⟩] (textsM (l2.drop n))) := by
        unfold Hid
        rw [hd, textsM_two, hn]
      have q0 : (0 : Int) ≤ (p : Int) := by omega
      have q1 : (p : Int) < (s.size : Int) := by omega
      have q2 : (0 : Int) ≤ (p : Int) + 1 := by omega
      have q3 : (p : Int) + 1 < (s.size : Int) := by omega
      have w1 : IntKind.i64.wrap ((p : Int) + 1) = (p : Int) + 1 := Kk.wrap_small (by omega) (by omega)
      have t1 : ((p : Int) + 1).toNat = p + 1 := by omega
      by_cases hcut : s.size < p + 2 + n
      · have gcut : decide ((s.size : Int) < (p : Int) + 2 + (n : Int)) = true := by simp; omega
        have HE : Hid (RR = (vl0, false)) := HNO.out (by rw [HP.out, HN.out, if_pos (by omega)]; rfl)
        have hz := hrd.res
        have hbel := hrd.bel
        clear hrd HRD HN HP hd hn hl2
        go_wp2
        go_quiet ((fail))
        have hz2 : RowAt (wr.drewN nq) w.heap.size 45 z5 := hz
        have b2 : Below w.heap.size w (wr.drewN nq) := below_drewN hbel _
        generalize wr.drewN nq = w2 at *
        have c0 := hz2.cell 0
        have c1 := hz2.cell 1
        have c2 := hz2.cell 2
        have c3 := hz2.cell 3
        have c4 := hz2.cell 4
        have f0 := hz2.frozen 0
        have f1 := hz2.frozen 1
        have f2 := hz2.frozen 2
        have f3 := hz2.frozen 3
        have f4 := hz2.frozen 4
        simp at c0 c1 c2 c3 c4
        clear hz hz2
        go_wp2
        exact bodyPost_ret (v := .tuple #[vlV 0 ⟨#[]⟩ nilS nilS nilS, .bool false]) (by simp [results, Tryz.results36, go_sem, c0, c1, c2, c3, c4]) rfl (by rw [HE.out]; exact val_zero (res5_below b2 _ _ _ _ _ _ (Nat.le_refl _)))
      · have gcut : decide ((s.size : Int) < (p : Int) + 2 + (n : Int)) = false := by simp; omega
        have HX : Hid (s.extract (p + 2) (p + 2 + n) = ⟨(l2.take n).toArray⟩) := str_of _ _ (by rw [Lib.extract_data, ← List.drop_drop, hd]; simp)
        have HN2 : Hid (T = preT (acc ++ [⟨(l2.take n).toArray⟩]) (textsM (s.data.toList.drop (p + 2 + n)))) := by
          unfold Hid
          rw [HP.out, HN.out, if_neg (by omega), preT_preT, ← List.drop_drop, ← List.drop_drop, hd]
          rfl
        obtain ⟨t, ht⟩ : ∃ t : ByteArray, t = ⟨(l2.take n).toArray⟩ := ⟨_, rfl⟩
        rw [← ht] at HX HN2
        have w2 : IntKind.i64.wrap ((p : Int) + 2) = (p : Int) + 2 := Kk.wrap_small (by omega) (by omega)
        have w3 : IntKind.i64.wrap ((p : Int) + 2 + (n : Int)) = (p : Int) + 2 + (n : Int) := Kk.wrap_small (by omega) (by omega)
        have t2 : ((p : Int) + 2).toNat = p + 2 := by omega
        have t3 : ((p : Int) + 2 + (n : Int)).toNat = p + 2 + n := by omega
        have r0 : (0 : Int) ≤ (p : Int) + 2 := by omega
        have r1 : (p : Int) + 2 ≤ (p : Int) + 2 + (n : Int) := by omega
        have r2 : (p : Int) + 2 + (n : Int) ≤ (s.size : Int) := by omega
        have r3 : p + 2 + n ≤ s.size := by omega
        have r4 : p + 2 ≤ p + 2 + n := by omega
        have hown := hrd.own
        clear hrd HN HP hd hn hl2 ht
        go_wp2
        go_quiet ((fail))
        have o2 : OwnS (wr.drewN nq) (w.heap.size + 1) u4 acc := owns_block hown (fun _ _ => rfl)
        have RD2 : Hid (RdS w u4 acc (wr.drewN nq)) := HRD.out.below (below_drewN (Below.refl _ _) _)
        have hlt2 : w.heap.size < (wr.drewN nq).heap.size := hltg
        generalize wr.drewN nq = w2' at *
        clear hown HRD
        have ha20 : acc.length ≤ 1048576 := by omega
        go_wp2_with (at_builtin; first | rw [HX.out] | skip; refine wpList_append_own _ rfl _ _ 41 rfl (w.heap.size + 1) 9 i0 _ 1 16 Tryz.underlying41 hi hz0 hz1 hz2 rfl (by decide) _ _ _ rfl (o2.alloc _) ⟨w2'.heap.size, 0, none⟩ 1 1 [.string t] rfl rfl ?c1 ?c2 ?c3 ?c4 ?c5 ?_)
        case c1 => exact cell_one_new _ _ _
        case c2 => intro y hy; simp at hy; subst hy; rfl
        case c3 => unfold maxLen; omega
        case c4 => omega
        case c5 => simp; omega
        intro v' w5 hown' hgrow _
        have RD5 : Hid (RdS w v' (acc ++ [t]) w5) := RD2.out.push hown' hgrow
        clear hown' hgrow o2 RD2
        go_wp2
        go_roundw
        case rel => exact ⟨p + 2 + n, acc ++ [t], by omega, by omega, by rw [List.length_append, List.length_singleton]; omega, by go_num, RD5.out, HN2.out⟩
        case measure => simp [intOf]; omega
    · have gge : ¬ (p : Int) + 2 ≤ (s.size : Int) := by omega
      obtain ⟨r, hr⟩ : ∃ r, T = some (acc, r) := by
        have hl : (s.data.toList.drop p).length ≤ 1 := by rw [List.length_drop, HSZ.out]; omega
        match h : s.data.toList.drop p, hl with
        | [], _ => exact ⟨[], by rw [HP.out, h, textsM_nil]; simp [preT]⟩
        | [x], _ => exact ⟨[x], by rw [HP.out, h, textsM_one]; simp [preT]⟩
      have HRR : Hid (RR = if vbytes (specV (50 : UInt8) acc) = s.data.toList then (specV (50 : UInt8) acc, true) else (vl0, false)) := HYES.out acc r hr
      obtain ⟨hcnt, hzz⟩ := HCNT.out acc r hr
      have HZZ : Hid (∀ t ∈ acc, t.size ≤ 65535) := hzz
      obtain ⟨va, vc, hv⟩ := owns_form hrd.own
      obtain ⟨na, hna⟩ : ∃ na, acc.length = na := ⟨_, rfl⟩
      have HNA : Hid (acc.length = na) := hna
      rw [hna] at hv hcnt hacl
      subst hv
      clear HP HNO HYES HCNT hr hrd hzz hna
      have hV : specV 50 acc = ⟨2, bz, acc, [], []⟩ := by
        unfold specV
        rw [if_neg (by decide), if_pos rfl]
      rw [hV] at HRR
      clear hV
      have bA : Below wr.heap.size wr (wr.alloc (.cells (vC 2 bz (.slice va na vc) nilS nilS) 45)) := (Below.refl _ wr).alloc (Nat.le_refl _) _
      have RDA := HRD.out.below bA
      have HVB : Hid (Calls Tryz.prog 72 #[vlV 2 bz (.slice va na vc) nilS nilS] (wr.alloc (.cells (vC 2 bz (.slice va na vc) nilS nilS) 45)) fun e w' => e = .returned (.string ⟨(vbytes (⟨2, bz, acc, [], []⟩ : Vl)).toArray⟩) ∧ Below (wr.alloc (.cells (vC 2 bz (.slice va na vc) nilS nilS) 45)).heap.size (wr.alloc (.cells (vC 2 bz (.slice va na vc) nilS nilS) 45)) w') := specBytes_any (⟨2, bz, acc, [], []⟩ : Vl) (.slice va na vc) nilS nilS (w.heap.size + 1) (wr.alloc (.cells (vC 2 bz (.slice va na vc) nilS nilS) 45)) ⟨RDA.own, ownP_nil _ _, Kk.ownR_nil _ _⟩ (vl_fit hs (Nat.zero_le _) (by show 2 * acc.length ≤ _; rw [HNA.out]; exact hcnt) (Nat.zero_le _) (Nat.zero_le _))
      have HOW : Hid (VOwn (wr.alloc (.cells (vC 2 bz (.slice va na vc) nilS nilS) 45)) (w.heap.size + 1) (⟨2, bz, acc, [], []⟩ : Vl) (.slice va na vc) nilS nilS) := ⟨RDA.own, ownP_nil _ _, Kk.ownR_nil _ _⟩
      have HRES : Hid (RowAt (wr.alloc (.cells (vC 2 bz (.slice va na vc) nilS nilS) 45)) w.heap.size 45 z5) := RDA.res
      have HROW : Hid (RowAt (wr.alloc (.cells (vC 2 bz (.slice va na vc) nilS nilS) 45)) wr.heap.size 45 (vC 2 bz (.slice va na vc) nilS nilS)) := RowAt.new wr 45 _
      have HBEL : Hid (Below w.heap.size w (wr.alloc (.cells (vC 2 bz (.slice va na vc) nilS nilS) 45))) := RDA.bel
      clear RDA bA HRD
      obtain ⟨g0, g1, g2, g3, g4⟩ := row5 HROW.out
      go_wp2_with fail
      refine HVB.out.mono ?_
      rintro e w9 ⟨rfl, b9⟩
      have hz9 : RowAt w9 w.heap.size 45 z5 := RowAt.below HRES.out b9 HRES.out.lt
      have hr9 : RowAt w9 wr.heap.size 45 (vC 2 bz (.slice va na vc) nilS nilS) := RowAt.below HROW.out b9 HROW.out.lt
      have hb9 : Below w.heap.size w w9 := HBEL.out.trans (b9.mono HBEL.out.size)
      have ho9 : VOwn w9 (w.heap.size + 1) (⟨2, bz, acc, [], []⟩ : Vl) (.slice va na vc) nilS nilS := HOW.out.below b9
      obtain ⟨y0, y1, y2, y3, y4⟩ := row5 hr9
      have c0 := hz9.cell 0
      have c1 := hz9.cell 1
      have c2 := hz9.cell 2
      have c3 := hz9.cell 3
      have c4 := hz9.cell 4
      have f0 := hz9.frozen 0
      have f1 := hz9.frozen 1
      have f2 := hz9.frozen 2
      have f3 := hz9.frozen 3
      have f4 := hz9.frozen 4
      simp at c0 c1 c2 c3 c4
      have HE9 : Hid (∀ W, (∀ k, k ≠ w.heap.size → W.heap[k]? = w9.heap[k]?) → Below w.heap.size w W → ValEnd w ((⟨2, bz, acc, [], []⟩ : Vl), true) (.returned (.tuple #[vlV 2 bz (.slice va na vc) nilS nilS, .bool true])) W) := fun W hk hb =>
        ⟨(.slice va na vc), nilS, nilS, rfl, own_up (owns_block ho9.items fun g hg => hk g (by have := (own_lt ho9.items hg).1; omega)) (by omega), own_up (owns_block ho9.pairs fun g hg => hk g (by have := (own_lt ho9.pairs hg).1; omega)) (by omega), own_up (owns_block ho9.ranks fun g hg => hk g (by have := (own_lt ho9.ranks hg).1; omega)) (by omega), hb⟩
      clear g0 g1 g2 g3 g4 hz9 hr9 ho9 b9
      by_cases hEq : vbytes (⟨2, bz, acc, [], []⟩ : Vl) = s.data.toList
      · have hR2 : Hid (RR = ((⟨2, bz, acc, [], []⟩ : Vl), true)) := by unfold Hid; rw [HRR.out]; exact if_pos hEq
        have hbq : (vbytes (⟨2, bz, acc, [], []⟩ : Vl) == s.toList) = true := by simp [hEq, ByteArray.toList_eq]
        clear HRR hEq HVB HOW HRES HROW HBEL
        generalize vbytes (⟨2, bz, acc, [], []⟩ : Vl) = XX at *
        go_wp2
        exact bodyPost_ret (v := .tuple #[vlV 2 bz (.slice va na vc) nilS nilS, .bool true]) (by simp [results, Tryz.results36, go_sem, c0, c1, c2, c3, c4]) rfl (by rw [hR2.out]; exact HE9.out _ (fun k hk => res5_block w9 _ _ _ _ _ _ k hk) (res5_below hb9 _ _ _ _ _ _ (Nat.le_refl _)))
      · have hR2 : Hid (RR = (vl0, false)) := by unfold Hid; rw [HRR.out]; exact if_neg hEq
        have hbq : (vbytes (⟨2, bz, acc, [], []⟩ : Vl) == s.toList) = false := by simp [hEq, ByteArray.toList_eq]
        clear HRR hEq HVB HOW HRES HROW HBEL HE9
        generalize vbytes (⟨2, bz, acc, [], []⟩ : Vl) = XX at *
        go_wp2
        exact bodyPost_ret (v := .tuple #[vlV 0 ⟨#[]⟩ nilS nilS nilS, .bool false]) (by simp [results, Tryz.results36, go_sem, c0, c1, c2, c3, c4]) rfl (by rw [hR2.out]; exact val_zero (res5_below hb9 _ _ _ _ _ _ (Nat.le_refl _)))

set_option maxHeartbeats 8000000 in
set_option maxRecDepth 100000 in
theorem specV_text (s : ByteArray) (l : List UInt8) (w : World) (hs : s.size ≤ 1048576) (hb : s.data.toList = 49 :: l) :
    Calls Tryz.prog 36 #[.string s] w (ValEnd w (readS1 (49 : UInt8) (textsM l))) := by
  obtain ⟨hpos, hb0, _, hll⟩ := one_of hb
  have he := empty_no hpos
  obtain ⟨i0, hi, hz0, hz1, hz2⟩ := info_parts info9
  obtain ⟨T, hT⟩ : ∃ T, textsM l = T := ⟨_, rfl⟩
  obtain ⟨RR, hRR⟩ : ∃ RR, readS1 (49 : UInt8) (textsM l) = RR := ⟨_, rfl⟩
  have HNO : Hid (T = none → RR = (vl0, false)) := fun e => by rw [← hRR, hT, e]; rfl
  have HYES : Hid (∀ ts r, T = some (ts, r) → RR = if vbytes (specV (49 : UInt8) ts) = s.data.toList then (specV (49 : UInt8) ts, true) else (vl0, false)) := fun ts r e => by
    rw [← hRR, hT, e]
    show (if _ then _ else _) = _
    have htk := spec_taken (49 : UInt8) l ts r (textsM_enc l.length l ts r (Nat.le_refl _) (hT.trans e)).1
    rw [← hb] at htk
    by_cases hc : specOkB (49 : UInt8) ts = true ∧ encT (specTx (49 : UInt8) ts) = encT ts ++ r
    · rw [if_pos hc, if_pos (htk.2 hc)]
    · rw [if_neg hc, if_neg (fun h => hc (htk.1 h))]
  have HCNT : Hid (∀ ts r, T = some (ts, r) → 2 * ts.length ≤ s.size ∧ ∀ t ∈ ts, t.size ≤ 65535) := fun ts r e => by
    have := texts_count (hT.trans e)
    exact ⟨by omega, (textsM_enc l.length l ts r (Nat.le_refl _) (hT.trans e)).2.2⟩
  have HT0 : Hid (T = preT [] (textsM (s.data.toList.drop 1))) := by unfold Hid; rw [preT_nil, hb, ← hT]; rfl
  rw [hRR]
  have hsz : s.data.toList.length = s.size := (Lib.size_eq s).symm
  have HSZ : Hid (s.data.toList.length = s.size) := hsz
  have HZ : Hid (RdS w (.slice (some ⟨w.heap.size + 1, 0, none⟩) 0 0) [] ((w.alloc (.cells z5 45)).alloc (.cells #[] 9))) := by
    have b1 : Below w.heap.size w (w.alloc (.cells z5 45)) := (Below.refl _ w).alloc (Nat.le_refl _) _
    have e1 : (w.alloc (.cells z5 45)).heap.size = w.heap.size + 1 := by simp
    refine ⟨⟨rfl, .inr ⟨w.heap.size + 1, 0, #[], rfl, Nat.le_refl _, by rw [← e1]; exact RowAt.new (w.alloc (.cells z5 45)) 9 #[], by simp, by unfold maxLen; omega, by simp, by simp [strV]⟩⟩, ?_, ?_⟩
    · exact RowAt.below (RowAt.new w 45 z5) ((Below.refl (w.alloc (.cells z5 45)).heap.size _).alloc (Nat.le_refl _) _) (by simp)
    · exact b1.alloc (by simp) _
  have h0i : (0 : Int) < (s.size : Int) := by omega
  clear hT hRR hb hll hsz
  go_enter Tryz.func36, Tryz.ntmps36
  go_wp2_with fail
  go_loopw [4, 5] (fun v i wr => ∃ (p : Nat) (acc : List ByteArray), 1 ≤ p ∧ p ≤ s.size ∧ acc.length + 1 ≤ p ∧ i = .int .i64 p ∧ RdS w v acc wr ∧ T = preT acc (textsM (s.data.toList.drop p))) (fun _ i _ => s.size - (intOf i).toNat)
  case atStart => exact ⟨1, [], by omega, by omega, by simp, rfl, HZ.out, HT0.out⟩
  case round =>
    obtain ⟨p, acc, hp1, hp2, hacl, rfl, hrd, hpre⟩ := hrel
    have HP : Hid (T = preT acc (textsM (s.data.toList.drop p))) := hpre
    have HRD : Hid (RdS w u4 acc wr) := hrd
    have hltg := hrd.res.lt
    clear HZ HT0 hpre
    by_cases hge : p + 2 ≤ s.size
    · have gge : (p : Int) + 2 ≤ (s.size : Int) := by omega
      obtain ⟨a, b', l2, hd⟩ : ∃ a b' l2, s.data.toList.drop p = a :: b' :: l2 := by
        have : 2 ≤ (s.data.toList.drop p).length := by rw [List.length_drop, HSZ.out]; omega
        match h : s.data.toList.drop p, this with
        | a :: b' :: l2, _ => exact ⟨a, b', l2, rfl⟩
      have ga := get_of hd
      have gb := get_of (s := s) (i := p + 1) (a := b') (rest := l2) (by rw [← List.drop_drop, hd]; rfl)
      have hl2 : l2.length + (p + 2) = s.size := by
        have := congrArg List.length hd
        rw [List.length_drop, HSZ.out] at this
        simp at this
        omega
      have ha256 : a.toNat < 256 := a.toNat_lt
      have hb256 : b'.toNat < 256 := b'.toNat_lt
      obtain ⟨n, hn⟩ : ∃ n, 256 * a.toNat + b'.toNat = n := ⟨_, rfl⟩
      have hn2 : (256 : Int) * (a.toNat : Int) + (b'.toNat : Int) = (n : Int) := by omega
      have hnb : n ≤ 65535 := by omega
      have HN : Hid (textsM (s.data.toList.drop p) = if l2.length < n then none else preT [⟨(l2.take n).toArray⟩] (textsM (l2.drop n))) := by
        unfold Hid
        rw [hd, textsM_two, hn]
      have q0 : (0 : Int) ≤ (p : Int) := by omega
      have q1 : (p : Int) < (s.size : Int) := by omega
      have q2 : (0 : Int) ≤ (p : Int) + 1 := by omega
      have q3 : (p : Int) + 1 < (s.size : Int) := by omega
      have w1 : IntKind.i64.wrap ((p : Int) + 1) = (p : Int) + 1 := Kk.wrap_small (by omega) (by omega)
      have t1 : ((p : Int) + 1).toNat = p + 1 := by omega
      by_cases hcut : s.size < p + 2 + n
      · have gcut : decide ((s.size : Int) < (p : Int) + 2 + (n : Int)) = true := by simp; omega
        have HE : Hid (RR = (vl0, false)) := HNO.out (by rw [HP.out, HN.out, if_pos (by omega)]; rfl)
        have hz := hrd.res
        have hbel := hrd.bel
        clear hrd HRD HN HP hd hn hl2
        go_wp2
        go_quiet ((fail))
        have hz2 : RowAt (wr.drewN nq) w.heap.size 45 z5 := hz
        have b2 : Below w.heap.size w (wr.drewN nq) := below_drewN hbel _
        generalize wr.drewN nq = w2 at *
        have c0 := hz2.cell 0
        have c1 := hz2.cell 1
        have c2 := hz2.cell 2
        have c3 := hz2.cell 3
        have c4 := hz2.cell 4
        have f0 := hz2.frozen 0
        have f1 := hz2.frozen 1
        have f2 := hz2.frozen 2
        have f3 := hz2.frozen 3
        have f4 := hz2.frozen 4
        simp at c0 c1 c2 c3 c4
        clear hz hz2
        go_wp2
        exact bodyPost_ret (v := .tuple #[vlV 0 ⟨#[]⟩ nilS nilS nilS, .bool false]) (by simp [results, Tryz.results36, go_sem, c0, c1, c2, c3, c4]) rfl (by rw [HE.out]; exact val_zero (res5_below b2 _ _ _ _ _ _ (Nat.le_refl _)))
      · have gcut : decide ((s.size : Int) < (p : Int) + 2 + (n : Int)) = false := by simp; omega
        have HX : Hid (s.extract (p + 2) (p + 2 + n) = ⟨(l2.take n).toArray⟩) := str_of _ _ (by rw [Lib.extract_data, ← List.drop_drop, hd]; simp)
        have HN2 : Hid (T = preT (acc ++ [⟨(l2.take n).toArray⟩]) (textsM (s.data.toList.drop (p + 2 + n)))) := by
          unfold Hid
          rw [HP.out, HN.out, if_neg (by omega), preT_preT, ← List.drop_drop, ← List.drop_drop, hd]
          rfl
        obtain ⟨t, ht⟩ : ∃ t : ByteArray, t = ⟨(l2.take n).toArray⟩ := ⟨_, rfl⟩
        rw [← ht] at HX HN2
        have w2 : IntKind.i64.wrap ((p : Int) + 2) = (p : Int) + 2 := Kk.wrap_small (by omega) (by omega)
        have w3 : IntKind.i64.wrap ((p : Int) + 2 + (n : Int)) = (p : Int) + 2 + (n : Int) := Kk.wrap_small (by omega) (by omega)
        have t2 : ((p : Int) + 2).toNat = p + 2 := by omega
        have t3 : ((p : Int) + 2 + (n : Int)).toNat = p + 2 + n := by omega
        have r0 : (0 : Int) ≤ (p : Int) + 2 := by omega
        have r1 : (p : Int) + 2 ≤ (p : Int) + 2 + (n : Int) := by omega
        have r2 : (p : Int) + 2 + (n : Int) ≤ (s.size : Int) := by omega
        have r3 : p + 2 + n ≤ s.size := by omega
        have r4 : p + 2 ≤ p + 2 + n := by omega
        have hown := hrd.own
        clear hrd HN HP hd hn hl2 ht
        go_wp2
        go_quiet ((fail))
        have o2 : OwnS (wr.drewN nq) (w.heap.size + 1) u4 acc := owns_block hown (fun _ _ => rfl)
        have RD2 : Hid (RdS w u4 acc (wr.drewN nq)) := HRD.out.below (below_drewN (Below.refl _ _) _)
        have hlt2 : w.heap.size < (wr.drewN nq).heap.size := hltg
        generalize wr.drewN nq = w2' at *
        clear hown HRD
        have ha20 : acc.length ≤ 1048576 := by omega
        go_wp2_with (at_builtin; first | rw [HX.out] | skip; refine wpList_append_own _ rfl _ _ 41 rfl (w.heap.size + 1) 9 i0 _ 1 16 Tryz.underlying41 hi hz0 hz1 hz2 rfl (by decide) _ _ _ rfl (o2.alloc _) ⟨w2'.heap.size, 0, none⟩ 1 1 [.string t] rfl rfl ?c1 ?c2 ?c3 ?c4 ?c5 ?_)
        case c1 => exact cell_one_new _ _ _
        case c2 => intro y hy; simp at hy; subst hy; rfl
        case c3 => unfold maxLen; omega
        case c4 => omega
        case c5 => simp; omega
        intro v' w5 hown' hgrow _
        have RD5 : Hid (RdS w v' (acc ++ [t]) w5) := RD2.out.push hown' hgrow
        clear hown' hgrow o2 RD2
        go_wp2
        go_roundw
        case rel => exact ⟨p + 2 + n, acc ++ [t], by omega, by omega, by rw [List.length_append, List.length_singleton]; omega, by go_num, RD5.out, HN2.out⟩
        case measure => simp [intOf]; omega
    · have gge : ¬ (p : Int) + 2 ≤ (s.size : Int) := by omega
      obtain ⟨r, hr⟩ : ∃ r, T = some (acc, r) := by
        have hl : (s.data.toList.drop p).length ≤ 1 := by rw [List.length_drop, HSZ.out]; omega
        match h : s.data.toList.drop p, hl with
        | [], _ => exact ⟨[], by rw [HP.out, h, textsM_nil]; simp [preT]⟩
        | [x], _ => exact ⟨[x], by rw [HP.out, h, textsM_one]; simp [preT]⟩
      have HRR : Hid (RR = if vbytes (specV (49 : UInt8) acc) = s.data.toList then (specV (49 : UInt8) acc, true) else (vl0, false)) := HYES.out acc r hr
      obtain ⟨hcnt, hzz⟩ := HCNT.out acc r hr
      have HZZ : Hid (∀ t ∈ acc, t.size ≤ 65535) := hzz
      obtain ⟨va, vc, hv⟩ := owns_form hrd.own
      obtain ⟨na, hna⟩ : ∃ na, acc.length = na := ⟨_, rfl⟩
      have HNA : Hid (acc.length = na) := hna
      rw [hna] at hv hcnt hacl
      subst hv
      clear HP HNO HYES HCNT hr hrd hzz hna
      have hV : specV 49 acc = ⟨1, acc.headD bz, [], [], []⟩ := by
        unfold specV
        rw [if_pos rfl]
      rw [hV] at HRR
      clear hV
      by_cases hn0 : na = 0
      · subst hn0
        have hacc0 : acc = [] := List.eq_nil_of_length_eq_zero HNA.out
        have e0 : acc.headD bz = bz := by rw [hacc0]; rfl
        rw [e0] at HRR
        have htf : bz.size ≤ s.size := Nat.zero_le _
        have bA : Below wr.heap.size wr (wr.alloc (.cells (vC 1 bz nilS nilS nilS) 45)) := (Below.refl _ wr).alloc (Nat.le_refl _) _
        have RDA := HRD.out.below bA
        have HVB : Hid (Calls Tryz.prog 72 #[vlV 1 bz nilS nilS nilS] (wr.alloc (.cells (vC 1 bz nilS nilS nilS) 45)) fun e w' => e = .returned (.string ⟨(vbytes (⟨1, bz, [], [], []⟩ : Vl)).toArray⟩) ∧ Below (wr.alloc (.cells (vC 1 bz nilS nilS nilS) 45)).heap.size (wr.alloc (.cells (vC 1 bz nilS nilS nilS) 45)) w') := specBytes_any (⟨1, bz, [], [], []⟩ : Vl) nilS nilS nilS (w.heap.size + 1) (wr.alloc (.cells (vC 1 bz nilS nilS nilS) 45)) ⟨ownS_nil _ _, ownP_nil _ _, Kk.ownR_nil _ _⟩ (vl_fit hs htf (Nat.zero_le _) (Nat.zero_le _) (Nat.zero_le _))
        have HOW : Hid (VOwn (wr.alloc (.cells (vC 1 bz nilS nilS nilS) 45)) (w.heap.size + 1) (⟨1, bz, [], [], []⟩ : Vl) nilS nilS nilS) := ⟨ownS_nil _ _, ownP_nil _ _, Kk.ownR_nil _ _⟩
        have HRES : Hid (RowAt (wr.alloc (.cells (vC 1 bz nilS nilS nilS) 45)) w.heap.size 45 z5) := RDA.res
        have HROW : Hid (RowAt (wr.alloc (.cells (vC 1 bz nilS nilS nilS) 45)) wr.heap.size 45 (vC 1 bz nilS nilS nilS)) := RowAt.new wr 45 _
        have HBEL : Hid (Below w.heap.size w (wr.alloc (.cells (vC 1 bz nilS nilS nilS) 45))) := RDA.bel
        clear RDA bA HRD
        obtain ⟨g0, g1, g2, g3, g4⟩ := row5 HROW.out
        go_wp2_with fail
        refine HVB.out.mono ?_
        rintro e w9 ⟨rfl, b9⟩
        have hz9 : RowAt w9 w.heap.size 45 z5 := RowAt.below HRES.out b9 HRES.out.lt
        have hr9 : RowAt w9 wr.heap.size 45 (vC 1 bz nilS nilS nilS) := RowAt.below HROW.out b9 HROW.out.lt
        have hb9 : Below w.heap.size w w9 := HBEL.out.trans (b9.mono HBEL.out.size)
        have ho9 : VOwn w9 (w.heap.size + 1) (⟨1, bz, [], [], []⟩ : Vl) nilS nilS nilS := HOW.out.below b9
        obtain ⟨y0, y1, y2, y3, y4⟩ := row5 hr9
        have c0 := hz9.cell 0
        have c1 := hz9.cell 1
        have c2 := hz9.cell 2
        have c3 := hz9.cell 3
        have c4 := hz9.cell 4
        have f0 := hz9.frozen 0
        have f1 := hz9.frozen 1
        have f2 := hz9.frozen 2
        have f3 := hz9.frozen 3
        have f4 := hz9.frozen 4
        simp at c0 c1 c2 c3 c4
        have HE9 : Hid (∀ W, (∀ k, k ≠ w.heap.size → W.heap[k]? = w9.heap[k]?) → Below w.heap.size w W → ValEnd w ((⟨1, bz, [], [], []⟩ : Vl), true) (.returned (.tuple #[vlV 1 bz nilS nilS nilS, .bool true])) W) := fun W hk hb =>
          ⟨nilS, nilS, nilS, rfl, own_up (owns_block ho9.items fun g hg => hk g (by have := (own_lt ho9.items hg).1; omega)) (by omega), own_up (owns_block ho9.pairs fun g hg => hk g (by have := (own_lt ho9.pairs hg).1; omega)) (by omega), own_up (owns_block ho9.ranks fun g hg => hk g (by have := (own_lt ho9.ranks hg).1; omega)) (by omega), hb⟩
        clear g0 g1 g2 g3 g4 hz9 hr9 ho9 b9
        by_cases hEq : vbytes (⟨1, bz, [], [], []⟩ : Vl) = s.data.toList
        · have hR2 : Hid (RR = ((⟨1, bz, [], [], []⟩ : Vl), true)) := by unfold Hid; rw [HRR.out]; exact if_pos hEq
          have hbq : (vbytes (⟨1, bz, [], [], []⟩ : Vl) == s.toList) = true := by simp [hEq, ByteArray.toList_eq]
          clear HRR hEq HVB HOW HRES HROW HBEL
          generalize vbytes (⟨1, bz, [], [], []⟩ : Vl) = XX at *
          go_wp2
          exact bodyPost_ret (v := .tuple #[vlV 1 bz nilS nilS nilS, .bool true]) (by simp [results, Tryz.results36, go_sem, c0, c1, c2, c3, c4]) rfl (by rw [hR2.out]; exact HE9.out _ (fun k hk => res5_block w9 _ _ _ _ _ _ k hk) (res5_below hb9 _ _ _ _ _ _ (Nat.le_refl _)))
        · have hR2 : Hid (RR = (vl0, false)) := by unfold Hid; rw [HRR.out]; exact if_neg hEq
          have hbq : (vbytes (⟨1, bz, [], [], []⟩ : Vl) == s.toList) = false := by simp [hEq, ByteArray.toList_eq]
          clear HRR hEq HVB HOW HRES HROW HBEL HE9
          generalize vbytes (⟨1, bz, [], [], []⟩ : Vl) = XX at *
          go_wp2
          exact bodyPost_ret (v := .tuple #[vlV 0 ⟨#[]⟩ nilS nilS nilS, .bool false]) (by simp [results, Tryz.results36, go_sem, c0, c1, c2, c3, c4]) rfl (by rw [hR2.out]; exact val_zero (res5_below hb9 _ _ _ _ _ _ (Nat.le_refl _)))

      · have hn0i : (0 : Int) < (na : Int) := by omega
        have hn0n : 0 < na := by omega
        obtain ⟨xa, xA, xc, hxv, hxa, _, _, hxc⟩ := ownS_cells HRD.out.own
        have hxv2 : xa = va := by
          injection hxv with h1 _ _
          exact h1.symm
        obtain ⟨hxa1, _, hxlt⟩ := hxa (by rw [HNA.out]; exact hn0n)
        rw [hxv2] at hxa1
        subst hxa1
        have hc0 := hxc 0 (by rw [HNA.out]; exact hn0n)
        obtain ⟨t0, ht0⟩ : ∃ t0, acc.headD bz = t0 := ⟨_, rfl⟩
        have hgd : acc.getD 0 ByteArray.empty = t0 := by
          rw [← ht0]
          cases acc with
          | nil => have := HNA.out; simp at this; omega
          | cons x xs => rfl
        rw [hgd] at hc0
        have htz : t0.size ≤ 65535 := HZZ.out t0 (by rw [← hgd]; exact getD_mem acc _ 0 (by rw [HNA.out]; exact hn0n))
        have htf : t0.size ≤ 1048576 := by omega
        rw [ht0] at HRR
        have hcA := (((Below.refl wr.heap.size wr).alloc (Nat.le_refl _) (.cells (vC 1 bz nilS nilS nilS) 45)).cell (p := ⟨xA, 0, none⟩) hxlt).trans hc0
        clear hxv hxv2 hxa hxc ht0 hgd
        have bA : Below wr.heap.size wr (wr.alloc (.cells (vC 1 t0 nilS nilS nilS) 45)) := (Below.refl _ wr).alloc (Nat.le_refl _) _
        have RDA := HRD.out.below bA
        have HVB : Hid (Calls Tryz.prog 72 #[vlV 1 t0 nilS nilS nilS] (wr.alloc (.cells (vC 1 t0 nilS nilS nilS) 45)) fun e w' => e = .returned (.string ⟨(vbytes (⟨1, t0, [], [], []⟩ : Vl)).toArray⟩) ∧ Below (wr.alloc (.cells (vC 1 t0 nilS nilS nilS) 45)).heap.size (wr.alloc (.cells (vC 1 t0 nilS nilS nilS) 45)) w') := specBytes_any (⟨1, t0, [], [], []⟩ : Vl) nilS nilS nilS (w.heap.size + 1) (wr.alloc (.cells (vC 1 t0 nilS nilS nilS) 45)) ⟨ownS_nil _ _, ownP_nil _ _, Kk.ownR_nil _ _⟩ ⟨htf, Nat.zero_le _, Nat.zero_le _, Nat.zero_le _⟩
        have HOW : Hid (VOwn (wr.alloc (.cells (vC 1 t0 nilS nilS nilS) 45)) (w.heap.size + 1) (⟨1, t0, [], [], []⟩ : Vl) nilS nilS nilS) := ⟨ownS_nil _ _, ownP_nil _ _, Kk.ownR_nil _ _⟩
        have HRES : Hid (RowAt (wr.alloc (.cells (vC 1 t0 nilS nilS nilS) 45)) w.heap.size 45 z5) := RDA.res
        have HROW : Hid (RowAt (wr.alloc (.cells (vC 1 t0 nilS nilS nilS) 45)) wr.heap.size 45 (vC 1 t0 nilS nilS nilS)) := RowAt.new wr 45 _
        have HBEL : Hid (Below w.heap.size w (wr.alloc (.cells (vC 1 t0 nilS nilS nilS) 45))) := RDA.bel
        clear RDA bA HRD
        obtain ⟨g0, g1, g2, g3, g4⟩ := row5 HROW.out
        go_wp2_with fail
        refine HVB.out.mono ?_
        rintro e w9 ⟨rfl, b9⟩
        have hz9 : RowAt w9 w.heap.size 45 z5 := RowAt.below HRES.out b9 HRES.out.lt
        have hr9 : RowAt w9 wr.heap.size 45 (vC 1 t0 nilS nilS nilS) := RowAt.below HROW.out b9 HROW.out.lt
        have hb9 : Below w.heap.size w w9 := HBEL.out.trans (b9.mono HBEL.out.size)
        have ho9 : VOwn w9 (w.heap.size + 1) (⟨1, t0, [], [], []⟩ : Vl) nilS nilS nilS := HOW.out.below b9
        obtain ⟨y0, y1, y2, y3, y4⟩ := row5 hr9
        have c0 := hz9.cell 0
        have c1 := hz9.cell 1
        have c2 := hz9.cell 2
        have c3 := hz9.cell 3
        have c4 := hz9.cell 4
        have f0 := hz9.frozen 0
        have f1 := hz9.frozen 1
        have f2 := hz9.frozen 2
        have f3 := hz9.frozen 3
        have f4 := hz9.frozen 4
        simp at c0 c1 c2 c3 c4
        have HE9 : Hid (∀ W, (∀ k, k ≠ w.heap.size → W.heap[k]? = w9.heap[k]?) → Below w.heap.size w W → ValEnd w ((⟨1, t0, [], [], []⟩ : Vl), true) (.returned (.tuple #[vlV 1 t0 nilS nilS nilS, .bool true])) W) := fun W hk hb =>
          ⟨nilS, nilS, nilS, rfl, own_up (owns_block ho9.items fun g hg => hk g (by have := (own_lt ho9.items hg).1; omega)) (by omega), own_up (owns_block ho9.pairs fun g hg => hk g (by have := (own_lt ho9.pairs hg).1; omega)) (by omega), own_up (owns_block ho9.ranks fun g hg => hk g (by have := (own_lt ho9.ranks hg).1; omega)) (by omega), hb⟩
        clear g0 g1 g2 g3 g4 hz9 hr9 ho9 b9
        by_cases hEq : vbytes (⟨1, t0, [], [], []⟩ : Vl) = s.data.toList
        · have hR2 : Hid (RR = ((⟨1, t0, [], [], []⟩ : Vl), true)) := by unfold Hid; rw [HRR.out]; exact if_pos hEq
          have hbq : (vbytes (⟨1, t0, [], [], []⟩ : Vl) == s.toList) = true := by simp [hEq, ByteArray.toList_eq]
          clear HRR hEq HVB HOW HRES HROW HBEL
          generalize vbytes (⟨1, t0, [], [], []⟩ : Vl) = XX at *
          go_wp2
          exact bodyPost_ret (v := .tuple #[vlV 1 t0 nilS nilS nilS, .bool true]) (by simp [results, Tryz.results36, go_sem, c0, c1, c2, c3, c4]) rfl (by rw [hR2.out]; exact HE9.out _ (fun k hk => res5_block w9 _ _ _ _ _ _ k hk) (res5_below hb9 _ _ _ _ _ _ (Nat.le_refl _)))
        · have hR2 : Hid (RR = (vl0, false)) := by unfold Hid; rw [HRR.out]; exact if_neg hEq
          have hbq : (vbytes (⟨1, t0, [], [], []⟩ : Vl) == s.toList) = false := by simp [hEq, ByteArray.toList_eq]
          clear HRR hEq HVB HOW HRES HROW HBEL HE9
          generalize vbytes (⟨1, t0, [], [], []⟩ : Vl) = XX at *
          go_wp2
          exact bodyPost_ret (v := .tuple #[vlV 0 ⟨#[]⟩ nilS nilS nilS, .bool false]) (by simp [results, Tryz.results36, go_sem, c0, c1, c2, c3, c4]) rfl (by rw [hR2.out]; exact val_zero (res5_below hb9 _ _ _ _ _ _ (Nat.le_refl _)))

end Go.Proofs.YtapdoechmnjaeaaGreatDoor
