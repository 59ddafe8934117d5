/- The reader's line and some over a reply's reader: three cells. -/
import Derived.Test.YtcgeafdakaeicaaDoorSome
namespace Go.Proofs.YtcgeafdakaeicaaDoor
open Go.RowKit Go.Sort

/-- The reply's reader in block rb: the text, the first byte not yet read, and the nodes. -/
def R3 (V : Value) (w : World) (rb : Nat) (s : ByteArray) (at_ : Nat) : Prop := RowAt w rb 59 #[.string s, .int .i64 at_, V]

set_option maxHeartbeats 1000000 in
theorem line3_inl (V : Value) (s : ByteArray) (at_ rb : Nat) (c : Int) (w : World) (hs : s.size ≤ 1048576) (ha : at_ ≤ s.size) (hr : Ready w) (h : R3 V w rb s at_) (hl : lineM (s.data.toList.drop at_) = .inl c) :
    Calls Tryd.prog 58 #[.pointer (some ⟨rb, 0, none⟩)] w fun e w' => e = gaveUp c ∧ Below w.heap.size w w' := by
  have c0 := h.cell 0
  have c1 := h.cell 1
  simp at c0 c1
  have hai : (at_ : Int) ≤ (s.size : Int) := by omega
  obtain ⟨m, hm⟩ := hr.mx
  have ht : (s.extract at_ s.size).data.toList = s.data.toList.drop at_ := Lib.extract_to_end s at_
  have hsz : (s.extract at_ s.size).size = s.size - at_ := by rw [Lib.size_eq, ht, List.length_drop, ← Lib.size_eq]
  have HC : Hid (∀ q, Calls Tryd.prog 76 #[.string (s.extract at_ s.size), .string ⟨#[13, 10]⟩] (w.drewN q) fun e w' => e = .returned (.int .i64 (Lib.index (s.data.toList.drop at_) [13, 10])) ∧ w' = w.drewN q) := fun q => by
    have := Tryd.strings_Index (s.extract at_ s.size) ⟨#[13, 10]⟩ m (w.drewN q) (by omega) hm
    rw [ht] at this
    exact this
  have HZ : Hid ((s.data.toList.drop at_).length = s.size - at_) := by unfold Hid; rw [List.length_drop, ← Lib.size_eq]
  unfold lineM at hl
  rw [HZ.out] at hl
  have H2 : Hid _ := hl
  clear hl ht hr hm
  generalize Lib.index (s.data.toList.drop at_) [13, 10] = n at *
  have hn : n < 0 := by
    by_cases hn : 0 ≤ n
    · have := H2.out
      rw [if_pos hn] at this
      cases this
    · omega
  have hd : decide (n < 0) = true := by simpa using hn
  have H3 := H2.out
  rw [if_neg (by omega)] at H3
  by_cases hb : 300 < s.size - at_
  · rw [if_pos hb] at H3
    injection H3 with H3
    have hbi : (300 : Int) < ((s.size - at_ : Nat) : Int) := by omega
    subst H3
    clear H2 HZ
    go_enter Tryd.func58, Tryd.ntmps58
    go_wp2
    go_quiet ((fail))
    go_wp2_with fail
    refine (HC.out _).mono ?_
    rintro e w1 ⟨rfl, rfl⟩
    go_wp2_with fail
    refine (giveUp_any 2 _).mono ?_
    rintro e w2 ⟨rfl, rfl⟩
    unfold gaveUp
    go_wp2
    exact ⟨rfl, rfl, below_drewN (Below.refl _ _) _⟩
  · rw [if_neg hb] at H3
    injection H3 with H3
    have hbi : ¬ (300 : Int) < ((s.size - at_ : Nat) : Int) := by omega
    subst H3
    clear H2 HZ
    go_enter Tryd.func58, Tryd.ntmps58
    go_wp2
    go_quiet ((fail))
    go_wp2_with fail
    refine (HC.out _).mono ?_
    rintro e w1 ⟨rfl, rfl⟩
    go_wp2_with fail
    refine (giveUp_any 1 _).mono ?_
    rintro e w2 ⟨rfl, rfl⟩
    unfold gaveUp
    go_wp2
    exact ⟨rfl, rfl, below_drewN (Below.refl _ _) _⟩

set_option maxHeartbeats 1000000 in
theorem line3_inr (V : Value) (s : ByteArray) (at_ rb : Nat) (l : List UInt8) (w : World) (hs : s.size ≤ 1048576) (ha : at_ ≤ s.size) (hr : Ready w) (h : R3 V w rb s at_) (hl : lineM (s.data.toList.drop at_) = .inr l) :
    at_ + l.length + 2 ≤ s.size ∧ Calls Tryd.prog 58 #[.pointer (some ⟨rb, 0, none⟩)] w fun e w' => e = .returned (.string ⟨l.toArray⟩) ∧ R3 V w' rb s (at_ + l.length + 2) ∧ w.grownBy w' (some rb) := by
  have c0 := h.cell 0
  have c1 := h.cell 1
  simp at c0 c1
  have fz := h.frozen 1
  have hai : (at_ : Int) ≤ (s.size : Int) := by omega
  obtain ⟨m, hm⟩ := hr.mx
  have ht : (s.extract at_ s.size).data.toList = s.data.toList.drop at_ := Lib.extract_to_end s at_
  have hsz : (s.extract at_ s.size).size = s.size - at_ := by rw [Lib.size_eq, ht, List.length_drop, ← Lib.size_eq]
  have HC : Hid (∀ q, Calls Tryd.prog 76 #[.string (s.extract at_ s.size), .string ⟨#[13, 10]⟩] (w.drewN q) fun e w' => e = .returned (.int .i64 (Lib.index (s.data.toList.drop at_) [13, 10])) ∧ w' = w.drewN q) := fun q => by
    have := Tryd.strings_Index (s.extract at_ s.size) ⟨#[13, 10]⟩ m (w.drewN q) (by omega) hm
    rw [ht] at this
    exact this
  have hlen : (s.data.toList.drop at_).length = s.size - at_ := by rw [List.length_drop, ← Lib.size_eq]
  have hn : 0 ≤ Lib.index (s.data.toList.drop at_) [13, 10] := by
    unfold lineM at hl
    by_cases hn : 0 ≤ Lib.index (s.data.toList.drop at_) [13, 10]
    · exact hn
    · rw [if_neg hn] at hl; split at hl <;> cases hl
  have hfit := index_fits _ hn
  rw [hlen] at hfit
  unfold lineM at hl
  rw [if_pos hn] at hl
  injection hl with hl
  generalize Lib.index (s.data.toList.drop at_) [13, 10] = n at *
  obtain ⟨k, rfl⟩ := Int.eq_ofNat_of_zero_le hn
  rw [Int.toNat_natCast] at hl
  have hll : l.length = k := by rw [← hl, List.length_take, hlen]; omega
  have HE : Hid (((s.extract at_ s.size).extract 0 k) = ⟨l.toArray⟩) := str_of _ _ (by rw [Lib.extract_data, ht, ← hl]; simp)
  rw [hll]
  refine ⟨by omega, ?_⟩
  have hd : decide ((k : Int) < 0) = false := by simp
  have hr1 : ∀ q, R3 V ((w.drewN q).setCell ⟨rb, 1, none⟩ (.int .i64 ((at_ : Int) + ((k : Int) + 2)))) rb s (at_ + k + 2) := fun q => by
    have := RowAt.set (w := w.drewN q) h 1 (.int .i64 ((at_ : Int) + ((k : Int) + 2)))
    unfold R3
    rw [show ((at_ + k + 2 : Nat) : Int) = (at_ : Int) + ((k : Int) + 2) from by omega]
    simpa using this
  have HR1 : Hid (∀ q, R3 V ((w.drewN q).setCell ⟨rb, 1, none⟩ (.int .i64 ((at_ : Int) + ((k : Int) + 2)))) rb s (at_ + k + 2)) := hr1
  have hlt := h.lt
  have hkz : (k : Int) ≤ ((s.size - at_ : Nat) : Int) := by omega
  clear hr1 hl hll hlen hr hm ht
  go_enter Tryd.func58, Tryd.ntmps58
  go_wp2
  go_quiet ((fail))
  go_wp2_with fail
  refine (HC.out _).mono ?_
  rintro e w1 ⟨rfl, rfl⟩
  go_wp2_with fail
  rw [HE.out]
  refine (clone60 ⟨l.toArray⟩ _ (by rw [← HE.out]; simp; omega)).mono ?_
  rintro e w2 ⟨rfl, b2⟩
  have hsz2 : ∀ q, ((w.drewN q).setCell ⟨rb, 1, none⟩ (.int .i64 ((at_ : Int) + ((k : Int) + 2)))).heap.size = w.heap.size := fun q => by simp [World.setCell]
  have r2 := RowAt.below (HR1.out nq) b2 (by rw [hsz2]; exact hlt)
  have g2 := grown_below (grown_trans (grown_drewN w nq (some rb)) (grown_set (w.drewN nq) rb 1 (.int .i64 ((at_ : Int) + ((k : Int) + 2))))) b2
  clear b2
  go_wp2
  go_ret
  exact ⟨rfl, r2, g2⟩
set_option maxHeartbeats 1000000 in
theorem some3_inl (V : Value) (s : ByteArray) (at_ rb n : Nat) (c : Int) (w : World) (_hs : s.size ≤ 1048576) (ha : at_ ≤ s.size) (hn : n ≤ 1048576) (h : R3 V w rb s at_) (hl : someM (s.data.toList.drop at_) n = .inl c) :
    Calls Tryd.prog 80 #[.pointer (some ⟨rb, 0, none⟩), .int .i64 n] w fun e w' => e = gaveUp c ∧ Below w.heap.size w w' := by
  have c0 := h.cell 0
  have c1 := h.cell 1
  simp at c0 c1
  have hai : (at_ : Int) ≤ (s.size : Int) := by omega
  have ht : (s.extract at_ s.size).data.toList = s.data.toList.drop at_ := Lib.extract_to_end s at_
  have hsz : (s.extract at_ s.size).size = s.size - at_ := by rw [Lib.size_eq, ht, List.length_drop, ← Lib.size_eq]
  have HZ : Hid ((s.data.toList.drop at_).length = s.size - at_) := by unfold Hid; rw [List.length_drop, ← Lib.size_eq]
  unfold someM at hl
  rw [HZ.out] at hl
  by_cases hb : s.size - at_ < n + 2
  · rw [if_pos hb] at hl
    injection hl with hl
    subst hl
    have hbi : ((s.size - at_ : Nat) : Int) < (n : Int) + 2 := by omega
    clear ht HZ
    go_enter Tryd.func80, Tryd.ntmps80
    go_wp2
    go_quiet ((fail))
    go_wp2_with fail
    refine (giveUp_any 1 _).mono ?_
    rintro e w2 ⟨rfl, rfl⟩
    unfold gaveUp
    go_wp2
    exact ⟨rfl, rfl, below_drewN (Below.refl _ _) _⟩
  · rw [if_neg hb] at hl
    by_cases he : ((s.data.toList.drop at_).drop n).take 2 = [13, 10]
    · rw [if_pos he] at hl; cases hl
    · rw [if_neg he] at hl
      injection hl with hl
      subst hl
      have hbi : ¬ ((s.size - at_ : Nat) : Int) < (n : Int) + 2 := by omega
      have hb2 : (n : Int) + 2 ≤ ((s.size - at_ : Nat) : Int) := by omega
      have hne : (((s.extract at_ s.size).extract n (n + 2)).toList == [13, 10]) = false := by
        have e1 : ((s.extract at_ s.size).extract n (n + 2)).toList = ((s.data.toList.drop at_).drop n).take 2 := by
          rw [ByteArray.toList_eq, Lib.extract_data, ht]
          congr 1
          omega
        rw [e1]
        simpa using he
      clear ht HZ he
      go_enter Tryd.func80, Tryd.ntmps80
      go_wp2
      go_quiet ((fail))
      go_wp2_with fail
      refine (giveUp_any 2 _).mono ?_
      rintro e w2 ⟨rfl, rfl⟩
      unfold gaveUp
      go_wp2
      exact ⟨rfl, rfl, below_drewN (Below.refl _ _) _⟩

set_option maxHeartbeats 1000000 in
theorem some3_inr (V : Value) (s : ByteArray) (at_ rb n : Nat) (l : List UInt8) (w : World) (hs : s.size ≤ 1048576) (ha : at_ ≤ s.size) (hn : n ≤ 1048576) (h : R3 V w rb s at_) (hl : someM (s.data.toList.drop at_) n = .inr l) :
    at_ + n + 2 ≤ s.size ∧ l.length = n ∧ Calls Tryd.prog 80 #[.pointer (some ⟨rb, 0, none⟩), .int .i64 n] w fun e w' => e = .returned (.string ⟨l.toArray⟩) ∧ R3 V w' rb s (at_ + n + 2) ∧ w.grownBy w' (some rb) := by
  have c0 := h.cell 0
  have c1 := h.cell 1
  simp at c0 c1
  have fz := h.frozen 1
  have hlt := h.lt
  have hai : (at_ : Int) ≤ (s.size : Int) := by omega
  have ht : (s.extract at_ s.size).data.toList = s.data.toList.drop at_ := Lib.extract_to_end s at_
  have hsz : (s.extract at_ s.size).size = s.size - at_ := by rw [Lib.size_eq, ht, List.length_drop, ← Lib.size_eq]
  have hlen : (s.data.toList.drop at_).length = s.size - at_ := by rw [List.length_drop, ← Lib.size_eq]
  unfold someM at hl
  rw [hlen] at hl
  by_cases hb : s.size - at_ < n + 2
  · rw [if_pos hb] at hl; cases hl
  rw [if_neg hb] at hl
  by_cases he : ((s.data.toList.drop at_).drop n).take 2 = [13, 10]
  · rw [if_pos he] at hl
    injection hl with hl
    have hll : l.length = n := by rw [← hl, List.length_take, hlen]; omega
    refine ⟨by omega, hll, ?_⟩
    have HE : Hid (((s.extract at_ s.size).extract 0 n) = ⟨l.toArray⟩) := str_of _ _ (by rw [Lib.extract_data, ht, ← hl]; simp)
    have hbi : ¬ ((s.size - at_ : Nat) : Int) < (n : Int) + 2 := by omega
    have hb2 : (n : Int) + 2 ≤ ((s.size - at_ : Nat) : Int) := by omega
    have hne : (((s.extract at_ s.size).extract n (n + 2)).toList == [13, 10]) = true := by
      have e1 : ((s.extract at_ s.size).extract n (n + 2)).toList = ((s.data.toList.drop at_).drop n).take 2 := by
        rw [ByteArray.toList_eq, Lib.extract_data, ht]
        congr 1
        omega
      rw [e1]
      simpa using he
    have HR1 : Hid (∀ q, R3 V ((w.drewN q).setCell ⟨rb, 1, none⟩ (.int .i64 ((at_ : Int) + ((n : Int) + 2)))) rb s (at_ + n + 2)) := fun q => by
      have := RowAt.set (w := w.drewN q) h 1 (.int .i64 ((at_ : Int) + ((n : Int) + 2)))
      unfold R3
      rw [show ((at_ + n + 2 : Nat) : Int) = (at_ : Int) + ((n : Int) + 2) from by omega]
      simpa using this
    clear ht hlen he hl hll
    go_enter Tryd.func80, Tryd.ntmps80
    go_wp2
    go_quiet ((fail))
    go_wp2_with fail
    rw [HE.out]
    refine (clone60 ⟨l.toArray⟩ _ (by rw [← HE.out]; simp; omega)).mono ?_
    rintro e w2 ⟨rfl, b2⟩
    have hsz2 : ∀ q, ((w.drewN q).setCell ⟨rb, 1, none⟩ (.int .i64 ((at_ : Int) + ((n : Int) + 2)))).heap.size = w.heap.size := fun q => by simp [World.setCell]
    have r2 := RowAt.below (HR1.out nq) b2 (by rw [hsz2]; exact hlt)
    have g2 := grown_below (grown_trans (grown_drewN w nq (some rb)) (grown_set (w.drewN nq) rb 1 (.int .i64 ((at_ : Int) + ((n : Int) + 2))))) b2
    clear b2
    go_wp2
    go_ret
    exact ⟨rfl, r2, g2⟩
  · rw [if_neg he] at hl; cases hl

end Go.Proofs.YtcgeafdakaeicaaDoor
