/- The specification's ReadValue at ranks. The specification's ReadValue at every text, as the program's. -/
import Derived.Test.YtapdoechmnjaeaaGreatDoorX4
import Derived.Test.YtapdoechmnjaeaaGreatDoorX3
namespace Go.Proofs.YtapdoechmnjaeaaGreatDoor
open Go.RowKit Go.Sort
open Kk (Rk rk0 texL texR decS scoreB rightB ranksB OwnR flatR encR)

theorem app_rank {w : World} {B : Nat} {V : Value} {ps : List Rk} (x : ByteArray) (y : Int) (t : TypeId) (ht : Tryz.prog.underlying t = some (.slice 143)) (h : OwnR w B V ps) (hn : ps.length ≤ 1048576) (hB : B ≤ w.heap.size) :
    ∃ v' w', (Builtin.append_ #[t, t] t #[V, .slice (some ⟨w.heap.size, 0, none⟩) 1 1]).run Tryz.prog (w.alloc (.cells #[.string x, .int .i64 y] 143)) = .ok v' w' ∧ OwnR w' B v' (ps ++ [⟨x, y⟩]) ∧ Below B w w' := by
  obtain ⟨i0, hi, hz0, hz1, hz2⟩ := info_parts Kk.info30
  have hbl : Below w.heap.size w (w.alloc (.cells #[.string x, .int .i64 y] 143)) := (Below.refl _ w).alloc (Nat.le_refl _) _
  have oA := owns_below h hbl
  obtain ⟨v', w', hrun, hown, hg, _, hblk⟩ := run_append_own_at (P := Tryz.prog) (w.alloc (.cells #[.string x, .int .i64 y] 143)) B t t 143 i0 _ 2 24 ht hi hz0 hz1 hz2 rfl (by decide) V ps.length (flatR ps) oA ⟨w.heap.size, 0, none⟩ 1 1 [.string x, .int .i64 y] rfl (fun j u hj => by
    rw [Addr.add_lit, Nat.zero_add]
    exact ((RowAt.new w 143 #[.string x, .int .i64 y]).cell j).trans (by simpa using hj)) (fun u hu => by simp at hu; rcases hu with rfl | rfl <;> rfl) (by unfold maxLen; omega) (by omega) (by simp; omega)
  refine ⟨v', w', hrun, ?_, below_own (Below.refl _ w) hB h hg⟩
  unfold OwnR
  rw [List.length_append, Kk.flatR_app]
  exact hown

theorem rankUp_len2 : ∀ us : List ByteArray, 2 * (rankUp us).length ≤ us.length
  | [] => by simp [rankUp]
  | [_] => by simp [rankUp]
  | _ :: _ :: l => by have := rankUp_len2 l; simp [rankUp]; omega

/-- The value's own row while its ranks are read: what was before stands. -/
structure LayRanks (wr : World) (vq : Value) (qs : List Rk) (W : World) : Prop where
  row : RowAt W wr.heap.size 45 (vC 4 bz nilS nilS vq)
  own : OwnR W (wr.heap.size + 1) vq qs
  bel : Below wr.heap.size wr W

theorem LayRanks.step {wr W w5 : World} {vq v' : Value} {qs rs : List Rk} (h : LayRanks wr vq qs W) (hr : RowAt w5 wr.heap.size 45 (vC 4 bz nilS nilS vq)) (o5 : OwnR w5 (wr.heap.size + 1) v' rs) (b5 : Below (wr.heap.size + 1) W.drew w5) : LayRanks wr v' rs (w5.setCell ⟨wr.heap.size, 4, none⟩ v') := by
  have hs : wr.heap.size + 1 ≤ w5.heap.size := hr.lt
  have hw : wr.heap.size ≤ W.heap.size := h.bel.size
  refine ⟨hr.set 4 v', owns_block o5 (fun g hg => ?_), ?_⟩
  · have := (own_lt o5 hg).1
    exact (grown_set w5 wr.heap.size 4 v').block g (own_lt o5 hg).2 (fun e => by injection e with e; omega)
  · have b1 : Below wr.heap.size wr W.drew := below_drewN h.bel 1
    have b2 : Below wr.heap.size W.drew w5 := b5.mono (Nat.le_succ _)
    exact (b1.trans b2).trans (below_of_grown (grown_set w5 wr.heap.size 4 v') (Nat.le_refl _) (by omega))

set_option maxHeartbeats 8000000 in
set_option maxRecDepth 100000 in
theorem specV_ranks (s : ByteArray) (l : List UInt8) (w : World) (hs : s.size ≤ 1048576) (hb : s.data.toList = 52 :: l) :
    Calls Tryz.prog 36 #[.string s] w (ValEnd w (readS1 (52 : UInt8) (textsM l))) := by
  obtain ⟨hpos, hb0, _, hll⟩ := one_of hb
  have he := empty_no hpos
  obtain ⟨i0, hi, hz0, hz1, hz2⟩ := info_parts info9
  obtain ⟨T, hT⟩ : ∃ T, textsM l = T := ⟨_, rfl⟩
  obtain ⟨RR, hRR⟩ : ∃ RR, readS1 (52 : UInt8) (textsM l) = RR := ⟨_, rfl⟩
  have HNO : Hid (T = none → RR = (vl0, false)) := fun e => by rw [← hRR, hT, e]; rfl
  have HYES : Hid (∀ ts r, T = some (ts, r) → RR = if vbytes (specV (52 : UInt8) ts) = s.data.toList then (specV (52 : UInt8) ts, true) else (vl0, false)) := fun ts r e => by
    rw [← hRR, hT, e]
    show (if _ then _ else _) = _
    have htk := spec_taken (52 : UInt8) l ts r (textsM_enc l.length l ts r (Nat.le_refl _) (hT.trans e)).1
    rw [← hb] at htk
    by_cases hc : specOkB (52 : UInt8) ts = true ∧ encT (specTx (52 : UInt8) ts) = encT ts ++ r
    · rw [if_pos hc, if_pos (htk.2 hc)]
    · rw [if_neg hc, if_neg (fun h => hc (htk.1 h))]
  have HCNT : Hid (∀ ts r, T = some (ts, r) → 2 * ts.length ≤ s.size ∧ ∀ t ∈ ts, t.size ≤ 65535) := fun ts r e => by
    have := texts_count (hT.trans e)
    exact ⟨by omega, (textsM_enc l.length l ts r (Nat.le_refl _) (hT.trans e)).2.2⟩
  have HT0 : Hid (T = preT [] (textsM (s.data.toList.drop 1))) := by unfold Hid; rw [preT_nil, hb, ← hT]; rfl
  rw [hRR]
  have hsz : s.data.toList.length = s.size := (Lib.size_eq s).symm
  have HSZ : Hid (s.data.toList.length = s.size) := hsz
  have HZ : Hid (RdS w (.slice (some ⟨w.heap.size + 1, 0, none⟩) 0 0) [] ((w.alloc (.cells z5 45)).alloc (.cells #[] 9))) := by
    have b1 : Below w.heap.size w (w.alloc (.cells z5 45)) := (Below.refl _ w).alloc (Nat.le_refl _) _
    have e1 : (w.alloc (.cells z5 45)).heap.size = w.heap.size + 1 := by simp
    refine ⟨⟨rfl, .inr ⟨w.heap.size + 1, 0, #[], rfl, Nat.le_refl _, by rw [← e1]; exact RowAt.new (w.alloc (.cells z5 45)) 9 #[], by simp, by unfold maxLen; omega, by simp, by simp [strV]⟩⟩, ?_, ?_⟩
    · exact RowAt.below (RowAt.new w 45 z5) ((Below.refl (w.alloc (.cells z5 45)).heap.size _).alloc (Nat.le_refl _) _) (by simp)
    · exact b1.alloc (by simp) _
  have h0i : (0 : Int) < (s.size : Int) := by omega
  clear hT hRR hb hll hsz
  go_enter Tryz.func36, Tryz.ntmps36
  go_wp2_with fail
  go_loopw [4, 5] (fun v i wr => ∃ (p : Nat) (acc : List ByteArray), 1 ≤ p ∧ p ≤ s.size ∧ acc.length + 1 ≤ p ∧ i = .int .i64 p ∧ RdS w v acc wr ∧ T = preT acc (textsM (s.data.toList.drop p))) (fun _ i _ => s.size - (intOf i).toNat)
  case atStart => exact ⟨1, [], by omega, by omega, by simp, rfl, HZ.out, HT0.out⟩
  case round =>
    obtain ⟨p, acc, hp1, hp2, hacl, rfl, hrd, hpre⟩ := hrel
    have HP : Hid (T = preT acc (textsM (s.data.toList.drop p))) := hpre
    have HRD : Hid (RdS w u4 acc wr) := hrd
    have hltg := hrd.res.lt
    clear HZ HT0 hpre
    by_cases hge : p + 2 ≤ s.size
    · have gge : (p : Int) + 2 ≤ (s.size : Int) := by omega
      obtain ⟨a, b', l2, hd⟩ : ∃ a b' l2, s.data.toList.drop p = a :: b' :: l2 := by
        have : 2 ≤ (s.data.toList.drop p).length := by rw [List.length_drop, HSZ.out]; omega
        match h : s.data.toList.drop p, this with
        | a :: b' :: l2, _ => exact ⟨a, b', l2, rfl⟩
      have ga := get_of hd
      have gb := get_of (s := s) (i := p + 1) (a := b') (rest := l2) (by rw [← List.drop_drop, hd]; rfl)
      have hl2 : l2.length + (p + 2) = s.size := by
        have := congrArg List.length hd
        rw [List.length_drop, HSZ.out] at this
        simp at this
        omega
      have ha256 : a.toNat < 256 := a.toNat_lt
      have hb256 : b'.toNat < 256 := b'.toNat_lt
      obtain ⟨n, hn⟩ : ∃ n, 256 * a.toNat + b'.toNat = n := ⟨_, rfl⟩
      have hn2 : (256 : Int) * (a.toNat : Int) + (b'.toNat : Int) = (n : Int) := by omega
      have hnb : n ≤ 65535 := by omega
      have HN : Hid (textsM (s.data.toList.drop p) = if l2.length < n then none else preT [⟨(l2.take n).toArray⟩] (textsM (l2.drop n))) := by
        unfold Hid
        rw [hd, textsM_two, hn]
      have q0 : (0 : Int) ≤ (p : Int) := by omega
      have q1 : (p : Int) < (s.size : Int) := by omega
      have q2 : (0 : Int) ≤ (p : Int) + 1 := by omega
      have q3 : (p : Int) + 1 < (s.size : Int) := by omega
      have w1 : IntKind.i64.wrap ((p : Int) + 1) = (p : Int) + 1 := Kk.wrap_small (by omega) (by omega)
      have t1 : ((p : Int) + 1).toNat = p + 1 := by omega
      by_cases hcut : s.size < p + 2 + n
      · have gcut : decide ((s.size : Int) < (p : Int) + 2 + (n : Int)) = true := by simp; omega
        have HE : Hid (RR = (vl0, false)) := HNO.out (by rw [HP.out, HN.out, if_pos (by omega)]; rfl)
        have hz := hrd.res
        have hbel := hrd.bel
        clear hrd HRD HN HP hd hn hl2
        go_wp2
        go_quiet ((fail))
        have hz2 : RowAt (wr.drewN nq) w.heap.size 45 z5 := hz
        have b2 : Below w.heap.size w (wr.drewN nq) := below_drewN hbel _
        generalize wr.drewN nq = w2 at *
        have c0 := hz2.cell 0
        have c1 := hz2.cell 1
        have c2 := hz2.cell 2
        have c3 := hz2.cell 3
        have c4 := hz2.cell 4
        have f0 := hz2.frozen 0
        have f1 := hz2.frozen 1
        have f2 := hz2.frozen 2
        have f3 := hz2.frozen 3
        have f4 := hz2.frozen 4
        simp at c0 c1 c2 c3 c4
        clear hz hz2
        go_wp2
        exact bodyPost_ret (v := .tuple #[vlV 0 ⟨#[]⟩ nilS nilS nilS, .bool false]) (by simp [results, Tryz.results36, go_sem, c0, c1, c2, c3, c4]) rfl (by rw [HE.out]; exact val_zero (res5_below b2 _ _ _ _ _ _ (Nat.le_refl _)))
      · have gcut : decide ((s.size : Int) < (p : Int) + 2 + (n : Int)) = false := by simp; omega
        have HX : Hid (s.extract (p + 2) (p + 2 + n) = ⟨(l2.take n).toArray⟩) := str_of _ _ (by rw [Lib.extract_data, ← List.drop_drop, hd]; simp)
        have HN2 : Hid (T = preT (acc ++ [⟨(l2.take n).toArray⟩]) (textsM (s.data.toList.drop (p + 2 + n)))) := by
          unfold Hid
          rw [HP.out, HN.out, if_neg (by omega), preT_preT, ← List.drop_drop, ← List.drop_drop, hd]
          rfl
        obtain ⟨t, ht⟩ : ∃ t : ByteArray, t = ⟨(l2.take n).toArray⟩ := ⟨_, rfl⟩
        rw [← ht] at HX HN2
        have w2 : IntKind.i64.wrap ((p : Int) + 2) = (p : Int) + 2 := Kk.wrap_small (by omega) (by omega)
        have w3 : IntKind.i64.wrap ((p : Int) + 2 + (n : Int)) = (p : Int) + 2 + (n : Int) := Kk.wrap_small (by omega) (by omega)
        have t2 : ((p : Int) + 2).toNat = p + 2 := by omega
        have t3 : ((p : Int) + 2 + (n : Int)).toNat = p + 2 + n := by omega
        have r0 : (0 : Int) ≤ (p : Int) + 2 := by omega
        have r1 : (p : Int) + 2 ≤ (p : Int) + 2 + (n : Int) := by omega
        have r2 : (p : Int) + 2 + (n : Int) ≤ (s.size : Int) := by omega
        have r3 : p + 2 + n ≤ s.size := by omega
        have r4 : p + 2 ≤ p + 2 + n := by omega
        have hown := hrd.own
        clear hrd HN HP hd hn hl2 ht
        go_wp2
        go_quiet ((fail))
        have o2 : OwnS (wr.drewN nq) (w.heap.size + 1) u4 acc := owns_block hown (fun _ _ => rfl)
        have RD2 : Hid (RdS w u4 acc (wr.drewN nq)) := HRD.out.below (below_drewN (Below.refl _ _) _)
        have hlt2 : w.heap.size < (wr.drewN nq).heap.size := hltg
        generalize wr.drewN nq = w2' at *
        clear hown HRD
        have ha20 : acc.length ≤ 1048576 := by omega
        go_wp2_with (at_builtin; first | rw [HX.out] | skip; refine wpList_append_own _ rfl _ _ 41 rfl (w.heap.size + 1) 9 i0 _ 1 16 Tryz.underlying41 hi hz0 hz1 hz2 rfl (by decide) _ _ _ rfl (o2.alloc _) ⟨w2'.heap.size, 0, none⟩ 1 1 [.string t] rfl rfl ?c1 ?c2 ?c3 ?c4 ?c5 ?_)
        case c1 => exact cell_one_new _ _ _
        case c2 => intro y hy; simp at hy; subst hy; rfl
        case c3 => unfold maxLen; omega
        case c4 => omega
        case c5 => simp; omega
        intro v' w5 hown' hgrow _
        have RD5 : Hid (RdS w v' (acc ++ [t]) w5) := RD2.out.push hown' hgrow
        clear hown' hgrow o2 RD2
        go_wp2
        go_roundw
        case rel => exact ⟨p + 2 + n, acc ++ [t], by omega, by omega, by rw [List.length_append, List.length_singleton]; omega, by go_num, RD5.out, HN2.out⟩
        case measure => simp [intOf]; omega
    · have gge : ¬ (p : Int) + 2 ≤ (s.size : Int) := by omega
      obtain ⟨r, hr⟩ : ∃ r, T = some (acc, r) := by
        have hl : (s.data.toList.drop p).length ≤ 1 := by rw [List.length_drop, HSZ.out]; omega
        match h : s.data.toList.drop p, hl with
        | [], _ => exact ⟨[], by rw [HP.out, h, textsM_nil]; simp [preT]⟩
        | [x], _ => exact ⟨[x], by rw [HP.out, h, textsM_one]; simp [preT]⟩
      have HRR : Hid (RR = if vbytes (specV (52 : UInt8) acc) = s.data.toList then (specV (52 : UInt8) acc, true) else (vl0, false)) := HYES.out acc r hr
      obtain ⟨hcnt, hzz⟩ := HCNT.out acc r hr
      have HZZ : Hid (∀ t ∈ acc, t.size ≤ 65535) := hzz
      obtain ⟨va, vc, hv⟩ := owns_form hrd.own
      obtain ⟨na, hna⟩ : ∃ na, acc.length = na := ⟨_, rfl⟩
      have HNA : Hid (acc.length = na) := hna
      rw [hna] at hv hcnt hacl
      subst hv
      clear HP HNO HYES HCNT hr hrd hzz hna
      rename World => w0
      have hV : specV 52 acc = ⟨4, bz, [], [], rankUp acc⟩ := by
        unfold specV
        rw [if_neg (by decide), if_neg (by decide), if_neg (by decide), if_pos rfl]
      rw [hV] at HRR
      clear hV
      obtain ⟨xa, xA, xc, hxv, hxa, _, _, hxc⟩ := ownS_cells HRD.out.own
      have hxv2 : xa = va := by
        injection hxv with h1 _ _
        exact h1.symm
      subst hxv2
      rw [HNA.out] at hxa hxc
      have HXA : Hid (0 < na → xa = some ⟨xA, 0, none⟩ ∧ w.heap.size + 1 ≤ xA ∧ xA < w0.heap.size) := hxa
      have HXC : Hid (∀ i, i < na → w0.cell? ⟨xA, i, none⟩ = some (.string (acc.getD i ByteArray.empty))) := hxc
      clear hxv hxa hxc
      have hwlt := HRD.out.bel.size
      have HQ0 : Hid (LayRanks w0 nilS [] (w0.alloc (.cells (vC 4 bz nilS nilS nilS) 45))) := ⟨RowAt.new w0 45 _, Kk.ownR_nil _ _, (Below.refl _ w0).alloc (Nat.le_refl _) _⟩
      go_wp2_with fail
      go_loopw [9] (fun i W => ∃ (j : Nat) (vq : Value) (qs : List Rk), i = .int .i64 j ∧ j ≤ na ∧ rankUp acc = qs ++ rankUp (acc.drop j) ∧ qs.length ≤ j ∧ LayRanks w0 vq qs W) (fun i _ => na - (intOf i).toNat)
      case atStart => exact ⟨0, nilS, [], rfl, by omega, rfl, by simp, HQ0.out⟩
      case round =>
        obtain ⟨j, vq, qs, rfl, hj, hup, hql, hlay⟩ := hrel
        have HUP : Hid (rankUp acc = qs ++ rankUp (acc.drop j)) := hup
        have hglt := hlay.row.lt
        obtain ⟨xq, yq, hvq⟩ := owns_form hlay.own
        clear HQ0 hup
        by_cases hjn : j + 1 < na
        · have hji : (j : Int) + 1 < (na : Int) := by omega
          obtain ⟨ha1, ha2, ha3⟩ := HXA.out (by omega)
          subst ha1
          obtain ⟨p, q, rest, hdr⟩ : ∃ p q rest, acc.drop j = p :: q :: rest := by
            have : 2 ≤ (acc.drop j).length := by rw [List.length_drop, HNA.out]; omega
            match h : acc.drop j, this with
            | a :: b' :: l2, _ => exact ⟨a, b', l2, rfl⟩
          have gp : acc.getD j ByteArray.empty = p := getD_drop hdr
          have gq : acc.getD (j + 1) ByteArray.empty = q := getD_drop (by rw [← List.drop_drop, hdr]; rfl)
          have hcp := (hlay.bel.cell (p := ⟨xA, j, none⟩) ha3).trans (HXC.out j (by omega))
          have hcq := (hlay.bel.cell (p := ⟨xA, j + 1, none⟩) ha3).trans (HXC.out (j + 1) (by omega))
          rw [gp] at hcp
          rw [gq] at hcq
          have hqz : q.size ≤ 65535 := HZZ.out q (by rw [← gq]; exact getD_mem acc _ (j + 1) (by rw [HNA.out]; omega))
          obtain ⟨z, hz⟩ : ∃ z, (intI q.data.toList).1 = z := ⟨_, rfl⟩
          have HINT : Hid (Calls Tryz.prog 78 #[.string q] wr fun e w' => e = .returned (.tuple #[.int .i64 z, .bool (intI q.data.toList).2]) ∧ w' = wr) := by
            have := l1Int_any q wr (by omega)
            rw [hz] at this
            exact this
          generalize (intI q.data.toList).2 = bq at *
          have HUP2 : Hid (rankUp acc = (qs ++ [(⟨p, z⟩ : Rk)]) ++ rankUp (acc.drop (j + 2))) := by
            unfold Hid
            rw [HUP.out, ← List.drop_drop, hdr]
            simp [rankUp]; exact hz
          have bA : Below wr.heap.size wr (wr.alloc (.cells #[.string p, .int .i64 z] 143)) := (Below.refl _ wr).alloc (Nat.le_refl _) _
          have d0 := (bA.cell (p := ⟨xA, j, none⟩) (show xA < wr.heap.size by omega)).trans hcp
          have d1 := (bA.cell (p := ⟨xA, j + 1, none⟩) (show xA < wr.heap.size by omega)).trans hcq
          obtain ⟨e0, e1, e2, e3, e4⟩ := row5 hlay.row
          have hrA : RowAt (wr.alloc (.cells #[.string p, .int .i64 z] 143)) w0.heap.size 45 (vC 4 bz nilS nilS vq) := RowAt.below hlay.row bA hlay.row.lt
          obtain ⟨k0, k1, k2, k3, k4⟩ := row5 hrA
          have od : OwnR wr.drew (w0.heap.size + 1) vq qs := owns_block hlay.own (fun _ _ => rfl)
          obtain ⟨v', w5, hrun0, o5, b5⟩ := app_rank p z 43 Tryz.underlying43 od (by omega) (show w0.heap.size + 1 ≤ wr.heap.size from hglt)
          have hrun : (Builtin.append_ #[43, 43] 43 #[vq, .slice (some ⟨wr.heap.size, 0, none⟩) 1 1]).run Tryz.prog (wr.alloc (.cells #[.string p, .int .i64 z] 143)).drew = .ok v' w5 := hrun0
          have hr5 : RowAt w5 w0.heap.size 45 (vC 4 bz nilS nilS vq) := RowAt.below (show RowAt wr.drew w0.heap.size 45 _ from hlay.row) b5 (by omega)
          have L5 : Hid (LayRanks w0 v' (qs ++ [(⟨p, z⟩ : Rk)]) (w5.setCell ⟨w0.heap.size, 4, none⟩ v')) := LayRanks.step hlay hr5 o5 b5
          obtain ⟨m0, m1, m2, m3, m4⟩ := row5 hr5
          obtain ⟨xv, yv, hv5⟩ := owns_form o5
          have n4 := hr5.frozen 4
          have h0n : j < na := by omega
          have h0i : (j : Int) < (na : Int) := by omega
          have h00 : (0 : Int) ≤ (j : Int) := by omega
          have h01 : (0 : Int) ≤ (j : Int) + 1 := by omega
          have w1 : IntKind.i64.wrap ((j : Int) + 1) = (j : Int) + 1 := Kk.wrap_small (by omega) (by omega)
          have t1 : ((j : Int) + 1).toNat = j + 1 := by omega
          have HJN : Hid (j + 1 < na) := hjn
          clear hlay od hrun0 o5 b5 bA hr5 hrA gp gq hdr HXA HXC HUP HRR hz
          generalize (qs ++ [(⟨p, z⟩ : Rk)]).length = nv5 at hv5
          subst hvq hv5
          go_wp2_with fail
          refine HINT.out.mono ?_
          rintro e w6 ⟨rfl, rfl⟩
          go_wp2_with fail
          go_region_law (first
            | refine step_append_run rfl (.tmp 118) (.tmp 125) 43 rfl (by simp [Act.eval]) (by simp [Act.eval]) hrun ?_)
          all_goals
            go_wp2
            go_roundw
            case rel => exact ⟨j + 2, _, qs ++ [(⟨p, z⟩ : Rk)], by go_num, by have := HJN.out; omega, HUP2.out, by rw [List.length_append, List.length_singleton]; omega, L5.out⟩
            case measure => simp [intOf]; have := HJN.out; omega
        · have hji : ¬ (j : Int) + 1 < (na : Int) := by omega
          have hend : rankUp acc = qs := by
            rw [HUP.out]
            have : (acc.drop j).length ≤ 1 := by rw [List.length_drop, HNA.out]; omega
            match h : acc.drop j, this with
            | [], _ => simp [rankUp]
            | [x], _ => simp [rankUp]
          have hqn : 2 * qs.length ≤ s.size := by
            rw [← hend]
            have := rankUp_len2 acc
            rw [HNA.out] at this
            omega
          rw [hend] at HRR
          subst hvq
          have RDA := HRD.out.below hlay.bel
          have HLAY : Hid (LayRanks w0 (.slice xq qs.length yq) qs wr) := hlay
          clear hlay
          have HVB : Hid (Calls Tryz.prog 72 #[vlV 4 bz nilS nilS (.slice xq qs.length yq)] (wr) fun e w' => e = .returned (.string ⟨(vbytes (⟨4, bz, [], [], qs⟩ : Vl)).toArray⟩) ∧ Below (wr).heap.size (wr) w') := specBytes_any (⟨4, bz, [], [], qs⟩ : Vl) nilS nilS (.slice xq qs.length yq) (w.heap.size + 1) (wr) ⟨ownS_nil _ _, ownP_nil _ _, own_up HLAY.out.own (by omega)⟩ (vl_fit hs (Nat.zero_le _) (Nat.zero_le _) (Nat.zero_le _) hqn)
          have HOW : Hid (VOwn (wr) (w.heap.size + 1) (⟨4, bz, [], [], qs⟩ : Vl) nilS nilS (.slice xq qs.length yq)) := ⟨ownS_nil _ _, ownP_nil _ _, own_up HLAY.out.own (by omega)⟩
          have HRES : Hid (RowAt (wr) w.heap.size 45 z5) := RDA.res
          have HROW : Hid (RowAt (wr) w0.heap.size 45 (vC 4 bz nilS nilS (.slice xq qs.length yq))) := HLAY.out.row
          have HBEL : Hid (Below w.heap.size w (wr)) := RDA.bel

          clear RDA HLAY HRD HXA HXC HUP hend
          generalize qs.length = nqs at *
          obtain ⟨g0, g1, g2, g3, g4⟩ := row5 HROW.out
          go_wp2_with fail
          refine HVB.out.mono ?_
          rintro e w9 ⟨rfl, b9⟩
          have hz9 : RowAt w9 w.heap.size 45 z5 := RowAt.below HRES.out b9 HRES.out.lt
          have hr9 : RowAt w9 w0.heap.size 45 (vC 4 bz nilS nilS (.slice xq nqs yq)) := RowAt.below HROW.out b9 HROW.out.lt
          have hb9 : Below w.heap.size w w9 := HBEL.out.trans (b9.mono HBEL.out.size)
          have ho9 : VOwn w9 (w.heap.size + 1) (⟨4, bz, [], [], qs⟩ : Vl) nilS nilS (.slice xq nqs yq) := HOW.out.below b9
          obtain ⟨y0, y1, y2, y3, y4⟩ := row5 hr9
          have c0 := hz9.cell 0
          have c1 := hz9.cell 1
          have c2 := hz9.cell 2
          have c3 := hz9.cell 3
          have c4 := hz9.cell 4
          have f0 := hz9.frozen 0
          have f1 := hz9.frozen 1
          have f2 := hz9.frozen 2
          have f3 := hz9.frozen 3
          have f4 := hz9.frozen 4
          simp at c0 c1 c2 c3 c4
          have HE9 : Hid (∀ W, (∀ k, k ≠ w.heap.size → W.heap[k]? = w9.heap[k]?) → Below w.heap.size w W → ValEnd w ((⟨4, bz, [], [], qs⟩ : Vl), true) (.returned (.tuple #[vlV 4 bz nilS nilS (.slice xq nqs yq), .bool true])) W) := fun W hk hb =>
            ⟨nilS, nilS, (.slice xq nqs yq), rfl, own_up (owns_block ho9.items fun g hg => hk g (by have := (own_lt ho9.items hg).1; omega)) (by omega), own_up (owns_block ho9.pairs fun g hg => hk g (by have := (own_lt ho9.pairs hg).1; omega)) (by omega), own_up (owns_block ho9.ranks fun g hg => hk g (by have := (own_lt ho9.ranks hg).1; omega)) (by omega), hb⟩
          clear g0 g1 g2 g3 g4 hz9 hr9 ho9 b9
          by_cases hEq : vbytes (⟨4, bz, [], [], qs⟩ : Vl) = s.data.toList
          · have hR2 : Hid (RR = ((⟨4, bz, [], [], qs⟩ : Vl), true)) := by unfold Hid; rw [HRR.out]; exact if_pos hEq
            have hbq : (vbytes (⟨4, bz, [], [], qs⟩ : Vl) == s.toList) = true := by simp [hEq, ByteArray.toList_eq]
            clear HRR hEq HVB HOW HRES HROW HBEL
            generalize vbytes (⟨4, bz, [], [], qs⟩ : Vl) = XX at *
            go_wp2
            exact bodyPost_ret (v := .tuple #[vlV 4 bz nilS nilS (.slice xq nqs yq), .bool true]) (by simp [results, Tryz.results36, go_sem, c0, c1, c2, c3, c4]) rfl (by rw [hR2.out]; exact HE9.out _ (fun k hk => res5_block w9 _ _ _ _ _ _ k hk) (res5_below hb9 _ _ _ _ _ _ (Nat.le_refl _)))
          · have hR2 : Hid (RR = (vl0, false)) := by unfold Hid; rw [HRR.out]; exact if_neg hEq
            have hbq : (vbytes (⟨4, bz, [], [], qs⟩ : Vl) == s.toList) = false := by simp [hEq, ByteArray.toList_eq]
            clear HRR hEq HVB HOW HRES HROW HBEL HE9
            generalize vbytes (⟨4, bz, [], [], qs⟩ : Vl) = XX at *
            go_wp2
            exact bodyPost_ret (v := .tuple #[vlV 0 ⟨#[]⟩ nilS nilS nilS, .bool false]) (by simp [results, Tryz.results36, go_sem, c0, c1, c2, c3, c4]) rfl (by rw [hR2.out]; exact val_zero (res5_below hb9 _ _ _ _ _ _ (Nat.le_refl _)))

end Go.Proofs.YtapdoechmnjaeaaGreatDoor

namespace Go.Proofs.YtapdoechmnjaeaaGreatDoor
open Go.RowKit Go.Sort
open Kk (Rk rk0 texL texR decS scoreB rightB ranksB OwnR flatR encR)

theorem specRead_any (s : ByteArray) (w : World) (hs : s.size ≤ 1048576) : Calls Tryz.prog 36 #[.string s] w (ValEnd w (readI s.data.toList)) := by
  rw [← read_same]
  cases hl : s.data.toList with
  | nil =>
    have h0 : s.size = 0 := by rw [Lib.size_eq, hl]; rfl
    exact specV_empty s w h0
  | cons b l =>
    show Calls Tryz.prog 36 #[.string s] w (ValEnd w (readS1 b (textsM l)))
    by_cases b1 : b = 49
    · subst b1; exact specV_text s l w hs hl
    by_cases b2 : b = 50
    · subst b2; exact specV_items s l w hs hl
    by_cases b3 : b = 51
    · subst b3; exact specV_pairs s l w hs hl
    by_cases b4 : b = 52
    · subst b4; exact specV_ranks s l w hs hl
    · exact specV_else s l w hs b hl (fun h => b1 (by apply UInt8.toNat_inj.1; rw [h]; rfl)) (fun h => b2 (by apply UInt8.toNat_inj.1; rw [h]; rfl)) (fun h => b3 (by apply UInt8.toNat_inj.1; rw [h]; rfl)) (fun h => b4 (by apply UInt8.toNat_inj.1; rw [h]; rfl))
end Go.Proofs.YtapdoechmnjaeaaGreatDoor
