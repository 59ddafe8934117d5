/- The specification's line and bulk. -/
import Derived.Test.YtjgmkbldclangaaGreatDoorFSpInt
namespace Go.Proofs.YtjgmkbldclangaaGreatDoor.Fd
open Go.RowKit Go.Sort

/-- The specification's reader in block rb. -/
def SpAt (w : World) (rb : Nat) (s : ByteArray) (at_ : Nat) (code : Int) : Prop := RowAt w rb 111 #[.string s, .int .i64 at_, .int .i64 code, .slice none 0 0]

def LineSp (w : World) (rb : Nat) (s : ByteArray) (at_ : Nat) : Int ⊕ List UInt8 → Ending → World → Prop
  | .inl c, e, w' => e = .returned (.string ⟨#[]⟩) ∧ SpAt w' rb s at_ c ∧ w.grownBy w' (some rb)
  | .inr l, e, w' => e = .returned (.string ⟨l.toArray⟩) ∧ SpAt w' rb s (at_ + l.length + 2) 0 ∧ at_ + l.length + 2 ≤ s.size ∧ w.grownBy w' (some rb)

theorem SpAt.setAt {w : World} {rb : Nat} {s : ByteArray} {a b : Nat} {c : Int} (h : SpAt w rb s a c) : SpAt (w.setCell ⟨rb, 1, none⟩ (.int .i64 b)) rb s b c := by
  have := RowAt.set h 1 (.int .i64 b)
  simpa [SpAt] using this
theorem SpAt.setCode {w : World} {rb : Nat} {s : ByteArray} {a : Nat} {c d : Int} (h : SpAt w rb s a c) : SpAt (w.setCell ⟨rb, 2, none⟩ (.int .i64 d)) rb s a d := by
  have := RowAt.set h 2 (.int .i64 d)
  simpa [SpAt] using this
theorem SpAt.drew {w : World} {rb : Nat} {s : ByteArray} {a : Nat} {c : Int} (h : SpAt w rb s a c) (q : Nat) : SpAt (w.drewN q) rb s a c := h

set_option maxHeartbeats 2000000 in
theorem spLine (s : ByteArray) (at_ rb : Nat) (w : World) (hs : s.size ≤ 2097152) (ha : at_ ≤ s.size) (h : SpAt w rb s at_ 0) :
    Calls Tryz.prog 61 #[.pointer (some ⟨rb, 0, none⟩)] w (LineSp w rb s at_ (lineM (s.data.toList.drop at_))) := by
  have c0 := h.cell 0
  have c1 := h.cell 1
  have c2 := h.cell 2
  simp at c0 c1 c2
  have f1 := h.frozen 1
  have f2 := h.frozen 2
  have HS : Hid (SpAt w rb s at_ 0) := h
  have hz : s.data.toList.length = s.size := (Lib.size_eq s).symm
  have HZ : Hid (s.data.toList.length = s.size) := hz
  clear h hz
  go_enter Tryz.func61, Tryz.ntmps61
  go_wp2
  go_loop [3] (fun i => ∃ k : Nat, at_ ≤ k ∧ k ≤ s.size ∧ i = .int .i64 k ∧ Hid (FarL s.data.toList at_ k)) (fun i => s.size - (intOf i).toNat)
  case atStart => exact ⟨at_, by omega, ha, rfl, FarL.zero _ _⟩
  case round =>
    obtain ⟨k, hk0, hk, rfl, hf⟩ := hrel
    by_cases hlt : k + 1 < s.size
    · have hlti : (k : Int) + 1 < (s.size : Int) := by omega
      have e0 := sget s k (by omega)
      have e1 := sget s (k + 1) hlt
      have hl0 : k < s.data.toList.length := by rw [HZ.out]; omega
      by_cases hA : (s[k]'(by omega)).toNat = 13
      · by_cases hB : (s[k + 1]'hlt).toNat = 10
        · have HI : Hid (lineM (s.data.toList.drop at_) = .inr ((s.data.toList.drop at_).take (k - at_))) := by
            unfold Hid
            have := FarL.here hf.out (by rw [e0, byte_eq hA]; rfl) (by rw [e1, byte_eq hB]; rfl)
            unfold lineM
            rw [this, if_pos (by omega)]
            rfl
          have HE : Hid (s.extract at_ k = ⟨((s.data.toList.drop at_).take (k - at_)).toArray⟩) := str_of _ _ (by rw [Lib.extract_data])
          have HL : Hid (((s.data.toList.drop at_).take (k - at_)).length = k - at_) := by
            unfold Hid
            rw [List.length_take, List.length_drop, HZ.out]; omega
          have hAi : ((s[k]'(by omega)).toNat : Int) = 13 := by omega
          have hBi : ((s[k + 1]'hlt).toNat : Int) = 10 := by omega
          clear e0 e1 hf hl0
          go_wp2
          go_quiet ((fail))
          go_wp2
          go_ret
          rw [HI.out]
          refine ⟨congrArg (fun x => Ending.returned (.string x)) HE.out, ?_, ?_, grown_trans (grown_drewN w _ _) (grown_set _ rb 1 _)⟩
          · rw [HL.out, show at_ + (k - at_) + 2 = k + 2 from by omega]
            exact (HS.out.drew _).setAt
          · rw [HL.out]; omega
        · have HF : Hid (FarL s.data.toList at_ (k + 1)) := FarL.next hf.out hk0 hl0 (by
            rintro ⟨_, h2⟩
            rw [e1] at h2
            injection h2 with h2
            exact hB (by rw [h2]; rfl))
          have hAi : ((s[k]'(by omega)).toNat : Int) = 13 := by omega
          have hBi : ¬ ((s[k + 1]'hlt).toNat : Int) = 10 := by omega
          clear e0 e1 hf hl0
          go_wp2
          go_round
          · exact ⟨k + 1, by omega, by omega, by go_num, HF⟩
          · simp [intOf]; omega
      · have HF : Hid (FarL s.data.toList at_ (k + 1)) := FarL.next hf.out hk0 hl0 (by
            rintro ⟨h2, _⟩
            rw [e0] at h2
            injection h2 with h2
            exact hA (by rw [h2]; rfl))
        have hAi : ¬ ((s[k]'(by omega)).toNat : Int) = 13 := by omega
        clear e0 e1 hf hl0
        go_wp2
        go_round
        · exact ⟨k + 1, by omega, by omega, by go_num, HF⟩
        · simp [intOf]; omega
    · have HX : Hid (Lib.index (s.data.toList.drop at_) [13, 10] = -1) := FarL.end hf.out (by rw [HZ.out]; omega)
      have hlti : ¬ (k : Int) + 1 < (s.size : Int) := by omega
      have HD : Hid ((s.data.toList.drop at_).length = s.size - at_) := by unfold Hid; rw [List.length_drop, HZ.out]
      have h1 : SpAt (w.setCell ⟨rb, 2, none⟩ (.int .i64 1)) rb s at_ 1 := HS.out.setCode
      have g1 : w.grownBy (w.setCell ⟨rb, 2, none⟩ (.int .i64 1)) (some rb) := grown_set w rb 2 _
      clear hf
      by_cases hb : 300 < s.size - at_
      · have HI : Hid (lineM (s.data.toList.drop at_) = .inl 2) := by
          unfold Hid lineM
          rw [HX.out, if_neg (by omega), if_pos (by rw [HD.out]; exact hb)]
        have hbi : (300 : Int) < (s.size : Int) - (at_ : Int) := by omega
        go_wp2
        generalize w.setCell ⟨rb, 2, none⟩ (.int .i64 1) = w1 at *
        clear c0 c1 c2 f1 f2
        have c0 := RowAt.cell h1 0
        have c1 := RowAt.cell h1 1
        have c2 := RowAt.cell h1 2
        simp at c0 c1 c2
        have f2 := RowAt.frozen h1 2
        have H1 : Hid (SpAt w1 rb s at_ 1) := h1
        clear h1
        go_quiet ((fail))
        go_wp2
        go_ret
        rw [HI.out]
        exact ⟨rfl, (H1.out.drew _).setCode, grown_trans g1 (grown_trans (grown_drewN w1 _ _) (grown_set _ rb 2 _))⟩
      · have HI : Hid (lineM (s.data.toList.drop at_) = .inl 1) := by
          unfold Hid lineM
          rw [HX.out, if_neg (by omega), if_neg (by rw [HD.out]; exact hb)]
        have hbi : ¬ (300 : Int) < (s.size : Int) - (at_ : Int) := by omega
        go_wp2
        generalize w.setCell ⟨rb, 2, none⟩ (.int .i64 1) = w1 at *
        clear c0 c1 c2 f1 f2
        have c0 := RowAt.cell h1 0
        have c1 := RowAt.cell h1 1
        simp at c0 c1
        have H1 : Hid (SpAt w1 rb s at_ 1) := h1
        clear h1
        go_quiet ((fail))
        go_wp2
        go_ret
        rw [HI.out]
        exact ⟨rfl, H1.out.drew _, grown_trans g1 (grown_drewN w1 _ _)⟩

def BulkSp (w : World) (rb : Nat) (s : ByteArray) (at_ n : Nat) : Int ⊕ List UInt8 → Ending → World → Prop
  | .inl c, e, w' => ∃ t a, e = .returned (.string t) ∧ t.size ≤ 2097152 ∧ SpAt w' rb s a c ∧ w.grownBy w' (some rb)
  | .inr l, e, w' => e = .returned (.string ⟨l.toArray⟩) ∧ SpAt w' rb s (at_ + n + 2) 0 ∧ at_ + n + 2 ≤ s.size ∧ w.grownBy w' (some rb)

set_option maxHeartbeats 2000000 in
theorem spBulk (s : ByteArray) (at_ rb n : Nat) (w : World) (hs : s.size ≤ 2097152) (ha : at_ ≤ s.size) (hn : n ≤ 2097152) (h : SpAt w rb s at_ 0) :
    Calls Tryz.prog 63 #[.pointer (some ⟨rb, 0, none⟩), .int .i64 n] w (BulkSp w rb s at_ n (someM (s.data.toList.drop at_) n)) := by
  have c0 := h.cell 0
  have c1 := h.cell 1
  have c2 := h.cell 2
  simp at c0 c1 c2
  have f1 := h.frozen 1
  have f2 := h.frozen 2
  have HS : Hid (SpAt w rb s at_ 0) := h
  have HD : Hid ((s.data.toList.drop at_).length = s.size - at_) := by unfold Hid; rw [List.length_drop, ← Lib.size_eq]
  clear h
  by_cases hsh : s.size < at_ + n + 2
  · have HI : Hid (someM (s.data.toList.drop at_) n = .inl 1) := by
      unfold Hid someM
      rw [HD.out, if_pos (by omega)]
    have hi : (s.size : Int) < (at_ : Int) + n + 2 := by omega
    go_enter Tryz.func63, Tryz.ntmps63
    go_wp2
    go_ret
    rw [HI.out]
    exact ⟨_, at_, rfl, by decide, HS.out.setCode, grown_set w rb 2 _⟩
  · have hi : ¬ (s.size : Int) < (at_ : Int) + n + 2 := by omega
    have HT : Hid ((s.extract (at_ + n) (at_ + n + 2)).toList = ((s.data.toList.drop at_).drop n).take 2) := by
      unfold Hid
      rw [ByteArray.toList_eq, Lib.extract_data, List.drop_drop]
      congr 1; omega
    by_cases hc : ((s.data.toList.drop at_).drop n).take 2 = [13, 10]
    · have HI : Hid (someM (s.data.toList.drop at_) n = .inr ((s.data.toList.drop at_).take n)) := by
        unfold Hid someM
        rw [HD.out, if_neg (by omega), if_pos hc]
      have HE : Hid (s.extract at_ (at_ + n) = ⟨((s.data.toList.drop at_).take n).toArray⟩) := str_of _ _ (by rw [Lib.extract_data]; congr 1; omega)
      have hne : ((s.extract (at_ + n) (at_ + n + 2)).toList == [13, 10]) = true := by rw [HT.out, hc]; rfl
      clear hc
      have hni : (n : Int) ≤ 2097152 := by omega
      go_enter Tryz.func63, Tryz.ntmps63
      go_wp2
      go_quiet ((fail))
      go_wp2
      go_ret
      rw [HI.out]
      refine ⟨congrArg (fun x => Ending.returned (.string x)) HE.out, ?_, by omega, grown_trans (grown_drewN w _ _) (grown_set _ rb 1 _)⟩
      exact (HS.out.drew _).setAt (b := at_ + n + 2)
    · have HI : Hid (someM (s.data.toList.drop at_) n = .inl 2) := by
        unfold Hid someM
        rw [HD.out, if_neg (by omega), if_neg hc]
      have hne : ((s.extract (at_ + n) (at_ + n + 2)).toList == [13, 10]) = false := by rw [HT.out]; simpa using hc
      clear hc
      have h1 : SpAt (w.setCell ⟨rb, 2, none⟩ (.int .i64 2)) rb s at_ 2 := HS.out.setCode
      have g1 : w.grownBy (w.setCell ⟨rb, 2, none⟩ (.int .i64 2)) (some rb) := grown_set w rb 2 _
      go_enter Tryz.func63, Tryz.ntmps63
      go_wp2
      generalize w.setCell ⟨rb, 2, none⟩ (.int .i64 2) = w1 at *
      clear c0 c1 c2 f1 f2
      have c0 := RowAt.cell h1 0
      have c1 := RowAt.cell h1 1
      simp at c0 c1
      have f1 := RowAt.frozen h1 1
      have H1 : Hid (SpAt w1 rb s at_ 2) := h1
      clear h1
      go_quiet ((fail))
      go_wp2
      go_ret
      rw [HI.out]
      refine ⟨_, at_ + n + 2, rfl, ?_, (H1.out.drew _).setAt (b := at_ + n + 2), grown_trans g1 (grown_trans (grown_drewN w1 _ _) (grown_set _ rb 1 _))⟩
      simp; omega
end Go.Proofs.YtjgmkbldclangaaGreatDoor.Fd
