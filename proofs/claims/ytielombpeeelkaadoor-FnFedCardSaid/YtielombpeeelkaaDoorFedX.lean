/- FnFed: the law's walk. -/
import Derived.Test.YtielombpeeelkaaDoorFedW
namespace Go.Proofs.YtielombpeeelkaaDoor
open Go.RowKit Go.Sort

set_option maxHeartbeats 4000000 in
set_option maxRecDepth 100000 in
theorem fedLaw_no (ra : Option Addr) (rn rc : Nat) (w : World) (hbig : 1048576 < rn) :
    Calls Tryd.prog 3 #[.slice ra rn rc] w fun e w' => e = .returned (.bool true) ∧ Below w.heap.size w w' := by
  have hd : decide ((1048576 : Int) < (rn : Int)) = true := decide_eq_true (by omega)
  go_enter Tryd.func3, Tryd.ntmps3
  go_wp2_with fail
  refine (big_any ra rn rc w).mono ?_
  rintro e w1 ⟨rfl, rfl⟩
  rw [hd]
  go_wp2
  go_ret
  exact ⟨rfl, Below.refl _ _⟩

set_option maxHeartbeats 4000000 in
set_option maxRecDepth 100000 in
theorem fedLaw_walk (ra : Option Addr) (rn rc : Nat) (w : World) (hn : rn ≤ 9223372036854775807) (hb : BytesIn w ra rn w.heap.size) (hr : Ready w) :
    Calls Tryd.prog 3 #[.slice ra rn rc] w fun e w' => e = .returned (.bool true) ∧ Below w.heap.size w w' := by
  by_cases hbig : 1048576 < rn
  · exact fedLaw_no ra rn rc w hbig
  · have hd : decide ((1048576 : Int) < (rn : Int)) = false := decide_eq_false (by omega)
    have HR : Hid (Ready w) := hr
    have hsix := hr.six
    clear hr
    go_enter Tryd.func3, Tryd.ntmps3
    go_wp2_with fail
    refine (big_any ra rn rc w).mono ?_
    rintro e w0 ⟨rfl, rfl⟩
    rw [hd]
    clear hd
    go_wp2_with fail
    refine (drawFed ra rn rc w0 hn hb).mono ?_
    rintro e w1 ⟨a, b, rfl, ha, hb2, b1⟩
    have s1 := b1.size
    have R1 : Hid (Ready w1) := HR.out.below (b1.mono hsix)
    have hrem : Int.tmod (rn : Int) ((b.size : Int) + 1) = ((rn % (b.size + 1) : Nat) : Int) := by
      rw [Int.tmod_eq_emod_of_nonneg (by omega)]
      have : ((b.size : Int) + 1) = ((b.size + 1 : Nat) : Int) := by omega
      rw [this]; rfl
    have hk : rn % (b.size + 1) ≤ b.size := by have := Nat.mod_lt rn (show 0 < b.size + 1 by omega); omega
    obtain ⟨L, L1, L2, left, mid, ok, fine, hF⟩ := facts_of a b (rn % (b.size + 1)) ha hb2 hk
    generalize rn % (b.size + 1) = k at *
    have k0 : (0 : Int) ≤ (k : Int) := by omega
    have k1 : (k : Int) ≤ (b.size : Int) := by omega
    have hz : ¬ ((b.size : Int) + 1) = 0 := by omega
    have HF : Hid (FedFacts a b k L L1 L2 left mid ok fine) := hF
    obtain ⟨f0, f1, f2⟩ := hF.few
    clear hF hb HR
    have I0 := HF.out.imp0 w1 R1.out
    unfold FedOf at I0
    go_wp2_with fail
    refine I0.mono ?_
    rintro e w2 ⟨v2, xs2, rfl, o2, b2⟩
    have bb2 := b1.trans (b2.mono s1)
    have s2 := b2.size
    have R2 : Hid (Ready w2) := R1.out.below (b2.mono (by omega))
    have S0 := HF.out.spe0 w2
    unfold FedOf at S0
    have Q2 : Hid (Lists w2 v2 L) := lists_own o2 HF.out.small.1
    clear I0 b1 b2 o2 R1
    obtain ⟨p2, c2, hv2⟩ := Q2.out.val
    subst hv2
    go_wp2_with fail
    refine S0.mono ?_
    rintro e w3 ⟨v3, xs3, rfl, o3, b3⟩
    have bb3 := bb2.trans (b3.mono (by omega))
    have s3 := b3.size
    have R3 : Hid (Ready w3) := R2.out.below (b3.mono (by omega))
    have Q23 : Hid (Lists w3 _ L) := Q2.out.below b3
    have Q3 : Hid (Lists w3 v3 L) := lists_own o3 HF.out.small.1
    have I1 := HF.out.imp1 w3 R3.out
    unfold FedOf at I1
    clear S0 b3 o3 R2 bb2 Q2
    obtain ⟨p3, c3, hv3⟩ := Q3.out.val
    subst hv3
    go_wp2_with fail
    refine I1.mono ?_
    rintro e w4 ⟨v4, xs4, rfl, o4, b4⟩
    have bb4 := bb3.trans (b4.mono (by omega))
    have s4 := b4.size
    have R4 : Hid (Ready w4) := R3.out.below (b4.mono (by omega))
    have Q24 : Hid (Lists w4 _ L) := Q23.out.below b4
    have Q34 : Hid (Lists w4 _ L) := Q3.out.below b4
    clear I1 b4 R3 bb3 Q23 Q3
    have HS0 : Hid (SmallReqs L) := HF.out.small.1
    have HN0 : Hid (∀ ts ∈ L, ts ≠ []) := HF.out.some_
    obtain ⟨p4, c4, hv4⟩ := slice_any o4.outer
    rw [rowsOf_len] at hv4
    subst hv4
    cases hfi : fine with
    | true =>
      subst hfi
      have HJ : Hid (L = L1 ++ L2) := HF.out.joins rfl
      have I2 := HF.out.imp2 rfl w4 R4.out
      unfold FedOf at I2
      have HS1 : Hid (SmallReqs L1) := HF.out.small.2.1
      have HS2 : Hid (SmallReqs L2) := HF.out.small.2.2
      go_wp2_with fail
      refine I2.mono ?_
      rintro e w5 ⟨v5, xs5, rfl, o5, b5⟩
      have bb5 := bb4.trans (b5.mono (by omega))
      have s5 := b5.size
      have R5 : Hid (Ready w5) := R4.out.below (b5.mono (by omega))
      have Q25 : Hid (Lists w5 _ L) := Q24.out.below b5
      have Q35 : Hid (Lists w5 _ L) := Q34.out.below b5
      have o45 := o4.below b5
      clear I2 b5 R4 bb4 Q24 Q34 o4
      obtain ⟨p5, c5, hv5⟩ := slice_any o5.outer
      rw [rowsOf_len] at hv5
      subst hv5
      have ba : Below w5.heap.size w5 (w5.alloc (.cells #[] 30)) := (Below.refl _ w5).alloc (Nat.le_refl _) _
      have hd0 := (Own2.none w5 w5.heap.size (Nat.le_refl _)).outer
      have hs4 := (o45.below ba).outer
      have hs5 := (o5.below ba).outer
      rw [rowsOf_len] at hs4 hs5
      have l5 : ∀ g, Value.ownBlock (.slice p5 L2.length c5) = some g → g < w5.heap.size := fun g hg => (o5.outer.lt g hg).2
      obtain ⟨A7, cap7, w7, run7, own7, g7⟩ := append_rows hd0 hs4 (row_slices o45) (by simp; omega) (by simp)
      have hsz7 : w5.heap.size < w7.heap.size := by have := g7.size; simp at this; omega
      have hs57 := hs5.kept g7 (by
        by_cases hn5 : Value.ownBlock (.slice p5 L2.length c5) = none
        · exact .inl hn5
        · obtain ⟨g, hg⟩ := Option.ne_none_iff_exists'.1 hn5
          exact .inr (by rw [hg]; intro e; have := l5 g hg; cases e; omega))
      simp only [Nat.zero_add, List.nil_append] at run7 own7
      obtain ⟨A8, cap8, w8, run8, own8, g8⟩ := append_rows own7 hs57 (row_slices o5) (by omega) (by omega)
      have hA7 : w5.heap.size ≤ A7 := (own7.lt A7 rfl).1
      have b8 : Below w5.heap.size w5 w8 := ⟨g8.os.trans (g7.os.trans ba.os), g8.tape.trans (g7.tape.trans ba.tape), g8.output.trans (g7.output.trans ba.output), by have := g8.size; omega, fun i hi => (g8.block i (by omega) (fun e => by cases e; omega)).trans ((g7.block i (by simp; omega) (fun e => by cases e; omega)).trans (ba.block i hi))⟩
      have Q6 : Hid (Lists w8 (.slice (some ⟨A8, 0, none⟩) L.length cap8) L) := by
        unfold Hid
        rw [HJ.out, List.length_append]
        exact lists_join o45 o5 HS1.out HS2.out b8 own8
      have Q28 : Hid (Lists w8 _ L) := Q25.out.below b8
      have Q38 : Hid (Lists w8 _ L) := Q35.out.below b8
      have R8 : Hid (Ready w8) := R5.out.below (b8.mono (by omega))
      have bb8 := bb5.trans (b8.mono (by omega))
      have s8 := b8.size
      have hLL : L1.length + L2.length = L.length := by rw [HJ.out, List.length_append]
      rw [hLL] at run8
      clear own7 own8 g7 g8 hs4 hs5 hs57 hd0 o45 o5 ba b8 bb5 R5 Q25 Q35 l5
      go_wp2_with (at_builtin; (first | (refine list_append_run rfl _ _ 26 rfl rfl rfl run7 ?_; clear run7) | refine list_append_run rfl _ _ 26 rfl rfl rfl run8 ?_); intro _)
      go_loopw [19] (fun i wr => ∃ (j q : Nat), j ≤ L.length ∧ i = .int .i64 j ∧ wr = w8.drewN q) (fun i _ => L.length - (intOf i).toNat)
      case atStart => exact ⟨0, 0, by omega, rfl, rfl⟩
      case round =>
        obtain ⟨j, q, hj, rfl, hwq⟩ := hrel
        have HW : Hid (wr = w8.drewN q) := hwq
        have dq : Below w8.heap.size w8 wr := by rw [hwq]; exact below_drewN (Below.refl _ _) q
        have T6 := Q6.out.below dq
        have T2 := Q28.out.below dq
        have T3 := Q38.out.below dq
        clear hwq
        by_cases hlt : j < L.length
        · obtain ⟨A6, cap6, x6, y6, z6, k6, e6, _, h6, s6⟩ := T6.at_ j hlt
          obtain ⟨A7, cap7, x7, y7, z7, k7, e7, _, h7, s7⟩ := T2.at_ j hlt
          obtain ⟨A8, cap8, x8, y8, z8, k8, e8, _, h8, s8⟩ := T3.at_ j hlt
          cases e6
          cases e7
          cases e8
          have h16 : (L[j]).length ≤ 16 := (HS0.out _ (List.getElem_mem hlt)).1
          have hpos : 0 < (L[j]).length := List.length_pos_iff.2 (HN0.out _ (List.getElem_mem hlt))
          have HC1 : ∀ n, Calls Tryd.prog 10 #[.slice x6 (L[j]).length k6, .slice x7 (L[j]).length k7] (wr.drewN n) fun e w' => e = .returned (.bool true) ∧ ∃ m, w' = (wr.drewN n).drewN m := fun n => same_any x6 x7 y6 z6 y7 z7 _ k6 k7 (bytesOf L[j]) _ (strs_drewN s6) (strs_drewN s7) (by omega)
          have HC2 : ∀ n, Calls Tryd.prog 10 #[.slice x7 (L[j]).length k7, .slice x8 (L[j]).length k8] (wr.drewN n) fun e w' => e = .returned (.bool true) ∧ ∃ m, w' = (wr.drewN n).drewN m := fun n => same_any x7 x8 y7 z7 y8 z8 _ k7 k8 (bytesOf L[j]) _ (strs_drewN s7) (strs_drewN s8) (by omega)
          clear s6 s7 s8 T6 T2 T3 dq
          generalize (L[j]).length = m at *
          have hm0 : ((m : Int) == 0) = false := by simp; omega
          have hm1 : ¬ (m : Int) = 0 := by omega
          have hge : decide (L.length ≤ j) = false := decide_eq_false (by omega)
          have hmn : ¬ m = 0 := by omega
          have hmd : decide (m = 0) = false := decide_eq_false (by omega)
          go_wp2
          go_big_quiet ((first | with_reducible exact Calls.quiet_of (HC1 _) | with_reducible exact Calls.quiet_of (HC2 _)))
          go_wp2
          go_roundw
          case rel => exact ⟨j + 1, _, by omega, by go_num, by rw [HW.out, World.drewN_drewN]⟩
          case measure => simp [intOf]; omega
        · have RW : Hid (Ready wr) := R8.out.below (dq.mono (by omega))
          have bbw := bb8.trans (dq.mono (by omega))
          have HE := HF.out.ends wr RW.out
          have HNo : Hid (ok = false → left.size = 0) := HF.out.none_
          have sw := bbw.size
          clear T6 T2 T3 HF HW dq
          go_wp2_with fail
          refine HE.mono ?_
          rintro e w9 ⟨v9, x9, c9, rfl, ⟨p9, n9, q9, rfl⟩, hc9, b9⟩
          have bb9 := bbw.trans (b9.mono sw)
          clear HE b9 bbw
          cases ok with
          | true =>
            obtain rfl := hc9 rfl
            clear hc9 HNo
            go_wp2
            go_ret
            exact ⟨rfl, bb9⟩
          | false =>
            have he := empty_yes (HNo.out rfl)
            clear hc9 HNo
            go_wp2
            go_ret
            exact ⟨rfl, bb9⟩
    | false =>
      subst hfi
      obtain ⟨hLe, hok⟩ := HF.out.stops rfl
      subst hLe
      subst hok
      have Q6 : Hid (Lists w4 (.slice p4 L.length c4) L) := lists_own o4 HS0.out
      clear o4
      have hgt : decide ((L.length : Int) < (L.length : Int)) = false := decide_eq_false (by omega)
      go_wp2_with fail
      go_loopw [19] (fun i wr => ∃ (j q : Nat), j ≤ L.length ∧ i = .int .i64 j ∧ wr = w4.drewN q) (fun i _ => L.length - (intOf i).toNat)
      case atStart => exact ⟨0, 0, by omega, rfl, rfl⟩
      case round =>
        obtain ⟨j, q, hj, rfl, hwq⟩ := hrel
        have HW : Hid (wr = w4.drewN q) := hwq
        have dq : Below w4.heap.size w4 wr := by rw [hwq]; exact below_drewN (Below.refl _ _) q
        have T6 := Q6.out.below dq
        have T2 := Q24.out.below dq
        have T3 := Q34.out.below dq
        clear hwq
        by_cases hlt : j < L.length
        · obtain ⟨A6, cap6, x6, y6, z6, k6, e6, _, h6, s6⟩ := T6.at_ j hlt
          obtain ⟨A7, cap7, x7, y7, z7, k7, e7, _, h7, s7⟩ := T2.at_ j hlt
          obtain ⟨A8, cap8, x8, y8, z8, k8, e8, _, h8, s8⟩ := T3.at_ j hlt
          cases e6
          cases e7
          cases e8
          have h16 : (L[j]).length ≤ 16 := (HS0.out _ (List.getElem_mem hlt)).1
          have hpos : 0 < (L[j]).length := List.length_pos_iff.2 (HN0.out _ (List.getElem_mem hlt))
          have HC1 : ∀ n, Calls Tryd.prog 10 #[.slice x6 (L[j]).length k6, .slice x7 (L[j]).length k7] (wr.drewN n) fun e w' => e = .returned (.bool true) ∧ ∃ m, w' = (wr.drewN n).drewN m := fun n => same_any x6 x7 y6 z6 y7 z7 _ k6 k7 (bytesOf L[j]) _ (strs_drewN s6) (strs_drewN s7) (by omega)
          have HC2 : ∀ n, Calls Tryd.prog 10 #[.slice x7 (L[j]).length k7, .slice x8 (L[j]).length k8] (wr.drewN n) fun e w' => e = .returned (.bool true) ∧ ∃ m, w' = (wr.drewN n).drewN m := fun n => same_any x7 x8 y7 z7 y8 z8 _ k7 k8 (bytesOf L[j]) _ (strs_drewN s7) (strs_drewN s8) (by omega)
          clear s6 s7 s8 T6 T2 T3 dq
          generalize (L[j]).length = m at *
          have hm0 : ((m : Int) == 0) = false := by simp; omega
          have hm1 : ¬ (m : Int) = 0 := by omega
          have hge : decide (L.length ≤ j) = false := decide_eq_false (by omega)
          have hmn : ¬ m = 0 := by omega
          have hmd : decide (m = 0) = false := decide_eq_false (by omega)
          go_wp2
          go_big_quiet ((first | with_reducible exact Calls.quiet_of (HC1 _) | with_reducible exact Calls.quiet_of (HC2 _)))
          go_wp2
          go_roundw
          case rel => exact ⟨j + 1, _, by omega, by go_num, by rw [HW.out, World.drewN_drewN]⟩
          case measure => simp [intOf]; omega
        · have RW : Hid (Ready wr) := R4.out.below (dq.mono (by omega))
          have bbw := bb4.trans (dq.mono (by omega))
          have HE := HF.out.ends wr RW.out
          have HNo : Hid (left.size = 0) := HF.out.none_ rfl
          have sw := bbw.size
          clear T6 T2 T3 HF HW dq
          go_wp2_with fail
          refine HE.mono ?_
          rintro e w9 ⟨v9, x9, c9, rfl, ⟨p9, n9, q9, rfl⟩, hc9, b9⟩
          have bb9 := bbw.trans (b9.mono sw)
          clear HE b9 bbw
          have he := empty_yes HNo.out
          clear hc9 HNo
          go_wp2
          go_ret
          exact ⟨rfl, bb9⟩
end Go.Proofs.YtielombpeeelkaaDoor
