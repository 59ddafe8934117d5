/- The reader's line and some at this dump. -/
import Derived.Test.YtjgmkbldclangaaGreatDoorFNum
import Derived.Test.YtjgmkbldclangaaGreatDoorFW
namespace Go.Proofs.YtjgmkbldclangaaGreatDoor.Fd
open Go.RowKit Go.Sort

theorem grown_refl (w : World) (r : Option Nat) : w.grownBy w r := ⟨rfl, rfl, rfl, Nat.le_refl _, fun _ _ _ => rfl⟩
theorem grown_drewN (w : World) (q : Nat) (r : Option Nat) : w.grownBy (w.drewN q) r := ⟨rfl, rfl, rfl, Nat.le_refl _, fun _ _ _ => rfl⟩
theorem grown_below {w w1 w2 : World} {r : Option Nat} (h : w.grownBy w1 r) (hb : Below w1.heap.size w1 w2) : w.grownBy w2 r :=
  ⟨hb.os.trans h.os, hb.tape.trans h.tape, hb.output.trans h.output, Nat.le_trans h.size hb.size, fun k hk hr => (hb.block k (Nat.lt_of_lt_of_le hk h.size)).trans (h.block k hk hr)⟩
theorem grown_trans {w w1 w2 : World} {r : Option Nat} (h : w.grownBy w1 r) (h2 : w1.grownBy w2 r) : w.grownBy w2 r :=
  ⟨h2.os.trans h.os, h2.tape.trans h.tape, h2.output.trans h.output, Nat.le_trans h.size h2.size, fun k hk hr => (h2.block k (Nat.lt_of_lt_of_le hk h.size) hr).trans (h.block k hk hr)⟩
theorem grown_set (w : World) (b o : Nat) (v : Value) : w.grownBy (w.setCell ⟨b, o, none⟩ v) (some b) :=
  ⟨rfl, rfl, rfl, by simp [World.setCell], fun k _ hk => Below.heap_setCell _ _ _ _ (fun e => hk (by simp [e]))⟩
theorem below_of_grown {B b : Nat} {w w1 : World} (h : w.grownBy w1 (some b)) (hB : B ≤ b) (hw : B ≤ w.heap.size) : Below B w w1 :=
  ⟨h.os, h.tape, h.output, h.size, fun k hk => h.block k (by omega) (by simp; omega)⟩

theorem RowAt.below {w w' : World} {g : Nat} {T : TypeId} {C : Array Value} {B : Nat} (h : RowAt w g T C) (hb : Below B w w') (hg : g < B) : RowAt w' g T C := (hb.block g hg).trans h

/-- The reader in block rb: the text, and the first byte not yet read. -/
def RdAt (w : World) (rb : Nat) (s : ByteArray) (at_ : Nat) : Prop := RowAt w rb 152 #[.string s, .int .i64 at_]

theorem index_fits : ∀ (l : List UInt8), 0 ≤ Lib.index l [13, 10] → Lib.index l [13, 10] + 2 ≤ l.length
  | [], h => by simp [Lib.index] at h
  | b :: l, h => by
    unfold Lib.index at h ⊢
    by_cases hp : List.isPrefixOf [13, 10] (b :: l) = true
    · rw [if_pos hp]
      cases l with
      | nil => simp [List.isPrefixOf] at hp
      | cons c l => simp only [List.length_cons]; omega
    · rw [if_neg hp] at h ⊢
      by_cases hi : (Lib.index l [13, 10] == -1) = true
      · rw [if_pos hi] at h; omega
      · rw [if_neg hi] at h ⊢
        have hge : -1 ≤ Lib.index l [13, 10] := by
          clear h hi hp
          induction l with
          | nil => simp [Lib.index]
          | cons c l ih => unfold Lib.index; split <;> (try split) <;> omega
        have hne : Lib.index l [13, 10] ≠ -1 := by simpa using hi
        have := index_fits l (by omega)
        simp only [List.length_cons]
        omega

set_option maxHeartbeats 400000 in
theorem clone60 (s : ByteArray) (w : World) (hs : s.size ≤ 2097152) : Calls Tryz.prog 90 #[.string s] w fun e w' => e = .returned (.string s) ∧ Below w.heap.size w w' := by
  go_enter Tryz.func90, Tryz.ntmps90
  go_wp2_with fail
  refine (Tryz.fdstringslite_Clone s w (by omega)).mono ?_
  rintro e w1 ⟨rfl, b1⟩
  go_wp2
  go_ret
  exact ⟨rfl, b1⟩

/-- A line at the front: its bytes, or the code. -/
def lineM (l : List UInt8) : Int ⊕ List UInt8 :=
  if 0 ≤ Lib.index l [13, 10] then .inr (l.take (Lib.index l [13, 10]).toNat) else if 300 < l.length then .inl 2 else .inl 1

theorem str_of (t : ByteArray) (l : List UInt8) (h : t.data.toList = l) : t = ⟨l.toArray⟩ := by
  apply ByteArray.ext
  rw [← h]

set_option maxHeartbeats 1000000 in
theorem line_inl (s : ByteArray) (at_ rb : Nat) (c : Int) (w : World) (hs : s.size ≤ 2097152) (ha : at_ ≤ s.size) (hr : Ready w) (h : RdAt w rb s at_) (hl : lineM (s.data.toList.drop at_) = .inl c) :
    Calls Tryz.prog 109 #[.pointer (some ⟨rb, 0, none⟩)] w fun e w' => e = gaveUp c ∧ Below w.heap.size w w' := by
  have c0 := h.cell 0
  have c1 := h.cell 1
  simp at c0 c1
  have hai : (at_ : Int) ≤ (s.size : Int) := by omega
  obtain ⟨m, hm⟩ := hr.mx
  have ht : (s.extract at_ s.size).data.toList = s.data.toList.drop at_ := Lib.extract_to_end s at_
  have hsz : (s.extract at_ s.size).size = s.size - at_ := by rw [Lib.size_eq, ht, List.length_drop, ← Lib.size_eq]
  have HC : Hid (∀ q, Calls Tryz.prog 113 #[.string (s.extract at_ s.size), .string ⟨#[13, 10]⟩] (w.drewN q) fun e w' => e = .returned (.int .i64 (Lib.index (s.data.toList.drop at_) [13, 10])) ∧ w' = w.drewN q) := fun q => by
    have := Tryz.fdstrings_Index (s.extract at_ s.size) ⟨#[13, 10]⟩ m (w.drewN q) (by omega) hm
    rw [ht] at this
    exact this
  have HZ : Hid ((s.data.toList.drop at_).length = s.size - at_) := by unfold Hid; rw [List.length_drop, ← Lib.size_eq]
  unfold lineM at hl
  rw [HZ.out] at hl
  have H2 : Hid _ := hl
  clear hl ht hr hm
  generalize Lib.index (s.data.toList.drop at_) [13, 10] = n at *
  have hn : n < 0 := by
    by_cases hn : 0 ≤ n
    · have := H2.out
      rw [if_pos hn] at this
      cases this
    · omega
  have hd : decide (n < 0) = true := by simpa using hn
  have H3 := H2.out
  rw [if_neg (by omega)] at H3
  by_cases hb : 300 < s.size - at_
  · rw [if_pos hb] at H3
    injection H3 with H3
    have hbi : (300 : Int) < ((s.size - at_ : Nat) : Int) := by omega
    subst H3
    clear H2 HZ
    go_enter Tryz.func109, Tryz.ntmps109
    go_wp2
    go_quiet ((fail))
    go_wp2_with fail
    refine (HC.out _).mono ?_
    rintro e w1 ⟨rfl, rfl⟩
    go_wp2_with fail
    refine (giveUp_any 2 _).mono ?_
    rintro e w2 ⟨rfl, rfl⟩
    unfold gaveUp
    go_wp2
    exact ⟨rfl, rfl, below_drewN (Below.refl _ _) _⟩
  · rw [if_neg hb] at H3
    injection H3 with H3
    have hbi : ¬ (300 : Int) < ((s.size - at_ : Nat) : Int) := by omega
    subst H3
    clear H2 HZ
    go_enter Tryz.func109, Tryz.ntmps109
    go_wp2
    go_quiet ((fail))
    go_wp2_with fail
    refine (HC.out _).mono ?_
    rintro e w1 ⟨rfl, rfl⟩
    go_wp2_with fail
    refine (giveUp_any 1 _).mono ?_
    rintro e w2 ⟨rfl, rfl⟩
    unfold gaveUp
    go_wp2
    exact ⟨rfl, rfl, below_drewN (Below.refl _ _) _⟩

set_option maxHeartbeats 1000000 in
theorem line_inr (s : ByteArray) (at_ rb : Nat) (l : List UInt8) (w : World) (hs : s.size ≤ 2097152) (ha : at_ ≤ s.size) (hr : Ready w) (h : RdAt w rb s at_) (hl : lineM (s.data.toList.drop at_) = .inr l) :
    at_ + l.length + 2 ≤ s.size ∧ Calls Tryz.prog 109 #[.pointer (some ⟨rb, 0, none⟩)] w fun e w' => e = .returned (.string ⟨l.toArray⟩) ∧ RdAt w' rb s (at_ + l.length + 2) ∧ w.grownBy w' (some rb) := by
  have c0 := h.cell 0
  have c1 := h.cell 1
  simp at c0 c1
  have fz := h.frozen 1
  have hai : (at_ : Int) ≤ (s.size : Int) := by omega
  obtain ⟨m, hm⟩ := hr.mx
  have ht : (s.extract at_ s.size).data.toList = s.data.toList.drop at_ := Lib.extract_to_end s at_
  have hsz : (s.extract at_ s.size).size = s.size - at_ := by rw [Lib.size_eq, ht, List.length_drop, ← Lib.size_eq]
  have HC : Hid (∀ q, Calls Tryz.prog 113 #[.string (s.extract at_ s.size), .string ⟨#[13, 10]⟩] (w.drewN q) fun e w' => e = .returned (.int .i64 (Lib.index (s.data.toList.drop at_) [13, 10])) ∧ w' = w.drewN q) := fun q => by
    have := Tryz.fdstrings_Index (s.extract at_ s.size) ⟨#[13, 10]⟩ m (w.drewN q) (by omega) hm
    rw [ht] at this
    exact this
  have hlen : (s.data.toList.drop at_).length = s.size - at_ := by rw [List.length_drop, ← Lib.size_eq]
  have hn : 0 ≤ Lib.index (s.data.toList.drop at_) [13, 10] := by
    unfold lineM at hl
    by_cases hn : 0 ≤ Lib.index (s.data.toList.drop at_) [13, 10]
    · exact hn
    · rw [if_neg hn] at hl; split at hl <;> cases hl
  have hfit := index_fits _ hn
  rw [hlen] at hfit
  unfold lineM at hl
  rw [if_pos hn] at hl
  injection hl with hl
  generalize Lib.index (s.data.toList.drop at_) [13, 10] = n at *
  obtain ⟨k, rfl⟩ := Int.eq_ofNat_of_zero_le hn
  rw [Int.toNat_natCast] at hl
  have hll : l.length = k := by rw [← hl, List.length_take, hlen]; omega
  have HE : Hid (((s.extract at_ s.size).extract 0 k) = ⟨l.toArray⟩) := str_of _ _ (by rw [Lib.extract_data, ht, ← hl]; simp)
  rw [hll]
  refine ⟨by omega, ?_⟩
  have hd : decide ((k : Int) < 0) = false := by simp
  have hr1 : ∀ q, RdAt ((w.drewN q).setCell ⟨rb, 1, none⟩ (.int .i64 ((at_ : Int) + ((k : Int) + 2)))) rb s (at_ + k + 2) := fun q => by
    have := RowAt.set (w := w.drewN q) h 1 (.int .i64 ((at_ : Int) + ((k : Int) + 2)))
    unfold RdAt
    rw [show ((at_ + k + 2 : Nat) : Int) = (at_ : Int) + ((k : Int) + 2) from by omega]
    simpa using this
  have HR1 : Hid (∀ q, RdAt ((w.drewN q).setCell ⟨rb, 1, none⟩ (.int .i64 ((at_ : Int) + ((k : Int) + 2)))) rb s (at_ + k + 2)) := hr1
  have hlt := h.lt
  have hkz : (k : Int) ≤ ((s.size - at_ : Nat) : Int) := by omega
  clear hr1 hl hll hlen hr hm ht
  go_enter Tryz.func109, Tryz.ntmps109
  go_wp2
  go_quiet ((fail))
  go_wp2_with fail
  refine (HC.out _).mono ?_
  rintro e w1 ⟨rfl, rfl⟩
  go_wp2_with fail
  rw [HE.out]
  refine (clone60 ⟨l.toArray⟩ _ (by rw [← HE.out]; simp; omega)).mono ?_
  rintro e w2 ⟨rfl, b2⟩
  have hsz2 : ∀ q, ((w.drewN q).setCell ⟨rb, 1, none⟩ (.int .i64 ((at_ : Int) + ((k : Int) + 2)))).heap.size = w.heap.size := fun q => by simp [World.setCell]
  have r2 := RowAt.below (HR1.out nq) b2 (by rw [hsz2]; exact hlt)
  have g2 := grown_below (grown_trans (grown_drewN w nq (some rb)) (grown_set (w.drewN nq) rb 1 (.int .i64 ((at_ : Int) + ((k : Int) + 2))))) b2
  clear b2
  go_wp2
  go_ret
  exact ⟨rfl, r2, g2⟩
end Go.Proofs.YtjgmkbldclangaaGreatDoor.Fd
