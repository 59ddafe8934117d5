/- The reader's marked at this dump. -/
import Derived.Test.YtielombpeeelkaaDoorSome
namespace Go.Proofs.YtielombpeeelkaaDoor
open Go.RowKit Go.Sort

theorem ready_grown {w w' : World} {rb : Nat} (h : Ready w) (hg : w.grownBy w' (some rb)) (hb : 6 ≤ rb) : Ready w' := h.below (below_of_grown hg hb h.six)

theorem line_sz {s : ByteArray} {at_ : Nat} {l : List UInt8} (h : at_ + l.length + 2 ≤ s.size) (hs : s.size ≤ 2097152) : l.length ≤ 2097150 := by omega

/-- How a marked line ends. -/
def MarkedEnd (w : World) (rb : Nat) (s : ByteArray) (at_ : Nat) : Int ⊕ (Nat × Nat) → Ending → World → Prop
  | .inl c, e, w' => e = gaveUp c ∧ w.grownBy w' (some rb)
  | .inr (n, u), e, w' => e = .returned (.int .i64 n) ∧ RdAt w' rb s (at_ + u) ∧ at_ + u ≤ s.size ∧ w.grownBy w' (some rb)

set_option maxHeartbeats 1000000 in
theorem marked_any (s : ByteArray) (at_ rb : Nat) (mark : UInt8) (mz most : Int) (hmz : mz = mark.toNat) (w : World) (hs : s.size ≤ 2097152) (ha : at_ ≤ s.size) (hr : Ready w) (h : RdAt w rb s at_) (hrb : 6 ≤ rb) :
    Calls Tryd.prog 61 #[.pointer (some ⟨rb, 0, none⟩), .int .u8 mz, .int .i64 most] w fun e w' => MarkedEnd w rb s at_ (markedM (s.data.toList.drop at_) mark most) e w' := by
  cases hl : lineM (s.data.toList.drop at_) with
  | inl c =>
    have HM : Hid (markedM (s.data.toList.drop at_) mark most = .inl c) := by unfold Hid markedM; rw [hl]
    have HC : Hid (Calls Tryd.prog 69 #[.pointer (some ⟨rb, 0, none⟩)] w fun e w' => e = gaveUp c ∧ Below w.heap.size w w') := line_inl s at_ rb c w hs ha hr h hl
    rw [HM.out]
    clear hl HM
    go_enter Tryd.func61, Tryd.ntmps61
    go_wp2_with fail
    refine HC.out.mono ?_
    rintro e w1 ⟨rfl, b1⟩
    unfold gaveUp
    go_wp2
    exact ⟨rfl, rfl, grown_below (grown_refl w _) b1⟩
  | inr l =>
    obtain ⟨hfit, HC0⟩ := line_inr s at_ rb l w hs ha hr h hl
    have HC : Hid (Calls Tryd.prog 69 #[.pointer (some ⟨rb, 0, none⟩)] w fun e w' => e = .returned (.string ⟨l.toArray⟩) ∧ RdAt w' rb s (at_ + l.length + 2) ∧ w.grownBy w' (some rb)) := HC0
    clear HC0
    cases l with
    | nil =>
      have HM : Hid (markedM (s.data.toList.drop at_) mark most = .inl 2) := by unfold Hid markedM; rw [hl]
      rw [HM.out]
      clear hl HM
      go_enter Tryd.func61, Tryd.ntmps61
      go_wp2_with fail
      refine HC.out.mono ?_
      rintro e w1 ⟨rfl, r1, g1⟩
      go_wp2_with fail
      refine (giveUp_any 2 _).mono ?_
      rintro e w2 ⟨rfl, rfl⟩
      unfold gaveUp
      go_wp2
      exact ⟨rfl, rfl, g1⟩
    | cons b r =>
      have HM : Hid (markedM (s.data.toList.drop at_) mark most = if b = mark then (match countM r most with | some n => .inr (n, r.length + 3) | none => .inl 2) else .inl 2) := by unfold Hid markedM; rw [hl]; rfl
      rw [HM.out]
      clear hl HM
      have hb256 : b.toNat < 256 := b.toNat_lt
      have h00 : ∀ hx, (⟨(b :: r).toArray⟩ : ByteArray)[0]'hx = b := fun _ => rfl
      have HX : Hid ((⟨(b :: r).toArray⟩ : ByteArray).extract 1 (r.length + 1) = ⟨r.toArray⟩) := str_of _ _ (by rw [Lib.extract_data]; simp)
      subst hmz
      have hfit2 : at_ + (r.length + 1) + 2 ≤ s.size := hfit
      have hrs : (⟨r.toArray⟩ : ByteArray).size ≤ 2097152 := by rw [size_mk]; omega
      clear hfit
      by_cases hbm : b = mark
      · rw [if_pos hbm]
        have hbz : ((b.toNat : Int) != (mark.toNat : Int)) = false := by rw [hbm]; simp
        cases hcm : countM r most with
        | none =>
          have HK : Hid (countM r most = none) := hcm
          clear hcm hbm
          go_enter Tryd.func61, Tryd.ntmps61
          go_wp2_with fail
          refine HC.out.mono ?_
          rintro e w1 ⟨rfl, r1, g1⟩
          go_wp2_with fail
          rw [HX.out]
          refine (countOf_none ⟨r.toArray⟩ most w1 hrs (ready_grown hr g1 hrb) HK.out).mono ?_
          rintro e w2 ⟨rfl, b2⟩
          unfold gaveUp
          go_wp2
          exact ⟨rfl, rfl, grown_below g1 b2⟩
        | some n =>
          have HK : Hid (countM r most = some n) := hcm
          clear hcm hbm
          go_enter Tryd.func61, Tryd.ntmps61
          go_wp2_with fail
          refine HC.out.mono ?_
          rintro e w1 ⟨rfl, r1, g1⟩
          go_wp2_with fail
          rw [HX.out]
          refine (countOf_some ⟨r.toArray⟩ most n w1 hrs (ready_grown hr g1 hrb) HK.out).mono ?_
          rintro e w2 ⟨rfl, b2⟩
          have r2 := RowAt.below r1 b2 (RowAt.lt r1)
          go_wp2
          go_ret
          exact ⟨rfl, r2, by omega, grown_below g1 b2⟩
      · rw [if_neg hbm]
        have hbz : ((b.toNat : Int) != (mark.toNat : Int)) = true := by
          rw [bne_iff_ne]
          intro e
          exact hbm (UInt8.toNat_inj.1 (by omega))
        clear hbm
        go_enter Tryd.func61, Tryd.ntmps61
        go_wp2_with fail
        refine HC.out.mono ?_
        rintro e w1 ⟨rfl, r1, g1⟩
        go_wp2_with fail
        refine (giveUp_any 2 _).mono ?_
        rintro e w2 ⟨rfl, rfl⟩
        unfold gaveUp
        go_wp2
        exact ⟨rfl, rfl, g1⟩
end Go.Proofs.YtielombpeeelkaaDoor
