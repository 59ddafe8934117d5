/- The reader's words at this dump. -/
import Derived.Test.YtjgmkbldclangaaGreatDoorFB
import Derived.Lib.SmallJoins
namespace Go.Proofs.YtjgmkbldclangaaGreatDoor.Fd
open Go.RowKit Go.Sort Go.Lib

def gapR (r : Nat) : Bool := decide (r = 32) || decide (r = 9)

theorem isGap_pays (w : World) : PredAt Tryz.prog 108 #[] encR gapR w := fun W r _ => by
  unfold FnGives
  by_cases h1 : r = 32 <;> by_cases h2 : r = 9
  all_goals
    have z1 : ((r : Int) = 32) ↔ r = 32 := by omega
    have z2 : ((r : Int) = 9) ↔ r = 9 := by omega
    go_enter Tryz.func108, Tryz.ntmps108
    go_wp2
    all_goals first | (exfalso; omega) | (go_ret; exact ⟨by simp [gapR, h1, h2] <;> omega, 0, rfl⟩)

theorem isGap_enters : ∀ args w, (callFunc 108 args).run Tryz.prog w = .ok (.enter 108 args) w := enters_of Tryz.func108 (by kernel_rfl) rfl

theorem fields94 (s : ByteArray) (w : World) (hs : s.size ≤ 2097152) :
    Calls Tryz.prog 107 #[.string s, .func (.func 108) #[] #[]] w fun e w' => ∃ A, e = .returned (.slice (some ⟨A, 0, none⟩) (Lib.goFieldsP gapR s).length (Lib.goFieldsP gapR s).length) ∧ w.heap.size ≤ A ∧
      w'.ownsRow w.heap.size 9 1 (.slice (some ⟨A, 0, none⟩) (Lib.goFieldsP gapR s).length (Lib.goFieldsP gapR s).length) (Lib.goFieldsP gapR s).length ((Lib.goFieldsP gapR s).map Value.string) ∧ Below w.heap.size w w' :=
  Tryz.fdstrings_FieldsFunc 108 #[] isGap_enters gapR s w (by omega) (isGap_pays w)

/-- The words of a line, and how many bytes they took; or the code. -/
def wordsM (l : List UInt8) : Int ⊕ (List (List UInt8) × Nat) :=
  if 300 < Lib.indexByte l 10 then .inl 2
  else if Lib.indexByte l 10 < 0 then (if 300 < l.length then .inl 2 else .inl 1)
  else if okArgs (Lib.goFieldsP gapR ⟨(Lib.trimSuffix (l.take (Lib.indexByte l 10).toNat) [13]).toArray⟩) then
    .inr ((Lib.goFieldsP gapR ⟨(Lib.trimSuffix (l.take (Lib.indexByte l 10).toNat) [13]).toArray⟩).map fun t => t.data.toList, (Lib.indexByte l 10).toNat + 1)
  else .inl 2

set_option maxHeartbeats 1000000 in
theorem words_bad (s : ByteArray) (at_ rb : Nat) (w : World) (_hs : s.size ≤ 2097152) (ha : at_ ≤ s.size) (h : RdAt w rb s at_) (hl : 300 < Lib.indexByte (s.data.toList.drop at_) 10) :
    Calls Tryz.prog 102 #[.pointer (some ⟨rb, 0, none⟩)] w fun e w' => e = gaveUp 2 ∧ Below w.heap.size w w' := by
  have c0 := h.cell 0
  have c1 := h.cell 1
  simp at c0 c1
  have hai : (at_ : Int) ≤ (s.size : Int) := by omega
  have ht : (s.extract at_ s.size).data.toList = s.data.toList.drop at_ := Lib.extract_to_end s at_
  have HC : Hid (∀ q, Calls Tryz.prog 105 #[.string (s.extract at_ s.size), .int .u8 10] (w.drewN q) fun e w' => e = .returned (.int .i64 (Lib.indexByte (s.data.toList.drop at_) 10)) ∧ w' = w.drewN q) := fun q => by
    have := Tryz.fdstrings_IndexByte (s.extract at_ s.size) 10 (w.drewN q)
    rw [ht] at this
    exact this
  clear ht
  generalize Lib.indexByte (s.data.toList.drop at_) 10 = n at *
  go_enter Tryz.func102, Tryz.ntmps102
  go_wp2
  go_quiet ((fail))
  go_wp2_with fail
  refine (HC.out _).mono ?_
  rintro e w1 ⟨rfl, rfl⟩
  go_wp2_with fail
  refine (giveUp_any 2 _).mono ?_
  rintro e w2 ⟨rfl, rfl⟩
  unfold gaveUp
  go_wp2
  exact ⟨rfl, rfl, below_drewN (Below.refl _ _) _⟩

set_option maxHeartbeats 1000000 in
theorem words_open (s : ByteArray) (at_ rb : Nat) (w : World) (_hs : s.size ≤ 2097152) (ha : at_ ≤ s.size) (h : RdAt w rb s at_) (hl : Lib.indexByte (s.data.toList.drop at_) 10 < 0) :
    Calls Tryz.prog 102 #[.pointer (some ⟨rb, 0, none⟩)] w fun e w' => e = gaveUp (if 300 < s.size - at_ then 2 else 1) ∧ Below w.heap.size w w' := by
  have c0 := h.cell 0
  have c1 := h.cell 1
  simp at c0 c1
  have hai : (at_ : Int) ≤ (s.size : Int) := by omega
  have ht : (s.extract at_ s.size).data.toList = s.data.toList.drop at_ := Lib.extract_to_end s at_
  have hsz : (s.extract at_ s.size).size = s.size - at_ := by rw [Lib.size_eq, ht, List.length_drop, ← Lib.size_eq]
  have HC : Hid (∀ q, Calls Tryz.prog 105 #[.string (s.extract at_ s.size), .int .u8 10] (w.drewN q) fun e w' => e = .returned (.int .i64 (Lib.indexByte (s.data.toList.drop at_) 10)) ∧ w' = w.drewN q) := fun q => by
    have := Tryz.fdstrings_IndexByte (s.extract at_ s.size) 10 (w.drewN q)
    rw [ht] at this
    exact this
  clear ht
  generalize Lib.indexByte (s.data.toList.drop at_) 10 = n at *
  have hd : decide (n < 0) = true := by simpa using hl
  by_cases hb : 300 < s.size - at_
  · rw [if_pos hb]
    have hbi : (300 : Int) < ((s.size - at_ : Nat) : Int) := by omega
    go_enter Tryz.func102, Tryz.ntmps102
    go_wp2
    go_quiet ((fail))
    go_wp2_with fail
    refine (HC.out _).mono ?_
    rintro e w1 ⟨rfl, rfl⟩
    go_wp2_with fail
    refine (giveUp_any 2 _).mono ?_
    rintro e w2 ⟨rfl, rfl⟩
    unfold gaveUp
    go_wp2
    exact ⟨rfl, rfl, below_drewN (Below.refl _ _) _⟩
  · rw [if_neg hb]
    have hbi : ¬ (300 : Int) < ((s.size - at_ : Nat) : Int) := by omega
    go_enter Tryz.func102, Tryz.ntmps102
    go_wp2
    go_quiet ((fail))
    go_wp2_with fail
    refine (HC.out _).mono ?_
    rintro e w1 ⟨rfl, rfl⟩
    go_wp2_with fail
    refine (giveUp_any 1 _).mono ?_
    rintro e w2 ⟨rfl, rfl⟩
    unfold gaveUp
    go_wp2
    exact ⟨rfl, rfl, below_drewN (Below.refl _ _) _⟩

theorem trimSuffix_le (l p : List UInt8) : (Lib.trimSuffix l p).length ≤ l.length := by
  unfold Lib.trimSuffix
  split
  · simp
  · exact Nat.le_refl _

theorem strsIn_own {w : World} {B A n c : Nat} {ws : List ByteArray} (h : w.ownsRow B 9 1 (.slice (some ⟨A, 0, none⟩) n c) n (ws.map Value.string)) (hn : ws.length = n) (hf : ∀ x ∈ ws, x.size ≤ 300) : StrsIn w (some ⟨A, 0, none⟩) A 0 n ws where
  len := hn
  addr := fun _ => rfl
  low := fun _ => (h.lt A rfl).2
  cell := fun i hi => by
    have := h.cells rfl i (.string (ws.getD i ByteArray.empty)) (by rw [List.getElem?_map, List.getD_eq_getElem?_getD, List.getElem?_eq_getElem (by omega)]; rfl)
    rw [Addr.add] at this
    cases i with
    | zero => simpa using this
    | succ i => simpa using this
  fit := fun i hi => by
    have hi2 : i < ws.length := by omega
    have := hf ws[i] (List.getElem_mem hi2)
    rw [List.getD_eq_getElem?_getD, List.getElem?_eq_getElem hi2]
    exact Nat.le_trans this (by omega)

theorem strVals_own (ws : List ByteArray) : strVals (ws.map fun t => t.data.toList) = ws.map Value.string := by
  unfold strVals
  rw [List.map_map]
  rfl

set_option maxHeartbeats 1000000 in
theorem words_line (s : ByteArray) (at_ rb n : Nat) (w : World) (hs : s.size ≤ 2097152) (ha : at_ ≤ s.size) (h : RdAt w rb s at_) (hl : Lib.indexByte (s.data.toList.drop at_) 10 = n) (hn : n ≤ 300) (hfit : at_ + n + 1 ≤ s.size) (ws : List ByteArray) (hw : Lib.goFieldsP gapR ⟨(Lib.trimSuffix ((s.data.toList.drop at_).take n) [13]).toArray⟩ = ws) (hwl : ws.length ≤ n) (hwf : ∀ x ∈ ws, x.size ≤ 300) :
    Calls Tryz.prog 102 #[.pointer (some ⟨rb, 0, none⟩)] w fun e w' => ArgsEnd w rb s at_ (if okArgs ws then .inr (ws.map fun t => t.data.toList, n + 1) else .inl 2) e w' := by
  have c0 := h.cell 0
  have c1 := h.cell 1
  simp at c0 c1
  have hai : (at_ : Int) ≤ (s.size : Int) := by omega
  have ht : (s.extract at_ s.size).data.toList = s.data.toList.drop at_ := Lib.extract_to_end s at_
  have hsz : (s.extract at_ s.size).size = s.size - at_ := by rw [Lib.size_eq, ht, List.length_drop, ← Lib.size_eq]
  have HC : Hid (∀ q, Calls Tryz.prog 105 #[.string (s.extract at_ s.size), .int .u8 10] (w.drewN q) fun e w' => e = .returned (.int .i64 n) ∧ w' = w.drewN q) := fun q => by
    have := Tryz.fdstrings_IndexByte (s.extract at_ s.size) 10 (w.drewN q)
    rw [ht] at this
    rw [← hl]
    exact this
  have hd : ((s.extract at_ s.size).extract 0 n).data.toList = (s.data.toList.drop at_).take n := by rw [Lib.extract_data, ht]; simp
  have hdn : ((s.data.toList.drop at_).take n).length ≤ 300 := by rw [List.length_take]; omega
  have HT : Hid (∀ q, Calls Tryz.prog 106 #[.string ((s.extract at_ s.size).extract 0 n), .string ⟨#[13]⟩] (w.drewN q) fun e w' => e = .returned (.string ⟨(Lib.trimSuffix ((s.data.toList.drop at_).take n) [13]).toArray⟩) ∧ w' = w.drewN q) := fun q => by
    have := Tryz.fdstrings_TrimSuffix ((s.extract at_ s.size).extract 0 n) ⟨#[13]⟩ (w.drewN q) (by rw [Lib.size_eq, hd]; omega)
    rw [hd] at this
    exact this
  have htl : (⟨(Lib.trimSuffix ((s.data.toList.drop at_).take n) [13]).toArray⟩ : ByteArray).size ≤ 300 := by
    rw [size_mk]; have := trimSuffix_le ((s.data.toList.drop at_).take n) [13]; omega
  have HW : Hid (Lib.goFieldsP gapR ⟨(Lib.trimSuffix ((s.data.toList.drop at_).take n) [13]).toArray⟩ = ws) := hw
  clear hw ht hd hdn hl
  generalize (⟨(Lib.trimSuffix ((s.data.toList.drop at_).take n) [13]).toArray⟩ : ByteArray) = t at *
  have hlt := RowAt.lt h
  cases hok : okArgs ws with
  | false =>
    have HA : Hid (∀ A B w3, World.ownsRow w3 B 9 1 (.slice (some ⟨A, 0, none⟩) ws.length ws.length) ws.length (ws.map Value.string) → Calls Tryz.prog 92 #[.slice (some ⟨A, 0, none⟩) ws.length ws.length] w3 fun e w' => e = .returned (.bool false) ∧ w' = w3) := by
      intro A B w3 hown
      rw [← hok]; exact args48 (some ⟨A, 0, none⟩) A 0 ws.length ws.length ws w3 (strsIn_own hown rfl hwf) (by omega)
    have HG : Hid ((if (false : Bool) = true then Sum.inr (ws.map fun t => t.data.toList, n + 1) else Sum.inl 2 : Int ⊕ (List (List UInt8) × Nat)) = .inl 2) := rfl
    rw [HG.out]
    clear hok
    go_enter Tryz.func102, Tryz.ntmps102
    go_wp2
    go_quiet ((fail))
    go_wp2_with fail
    refine (HC.out _).mono ?_
    rintro e w1 ⟨rfl, rfl⟩
    go_wp2_with fail
    refine (HT.out _).mono ?_
    rintro e w1 ⟨rfl, rfl⟩
    go_wp2_with fail
    refine (clone60 t _ (by omega)).mono ?_
    rintro e w2 ⟨rfl, b2⟩
    go_wp2_with fail
    refine (fields94 t w2 (by omega)).mono ?_
    rw [HW.out]
    rintro e w3 ⟨A, rfl, hA, hown, b3⟩
    have r3 : RdAt w3 rb s at_ := RowAt.below (RowAt.below (w := w.drewN _) h b2 hlt) b3 (by have := b2.size; simp at this; omega)
    have g3 : w.grownBy w3 (some rb) := grown_below (grown_below (grown_drewN w _ _) b2) b3
    go_wp2_with fail
    refine (HA.out A _ w3 hown).mono ?_
    rintro e w4 ⟨rfl, rfl⟩
    go_wp2_with fail
    refine (giveUp_any 2 _).mono ?_
    rintro e w5 ⟨rfl, rfl⟩
    unfold gaveUp
    go_wp2
    exact ⟨rfl, rfl, g3⟩
  | true =>
    have HA : Hid (∀ A B w3, World.ownsRow w3 B 9 1 (.slice (some ⟨A, 0, none⟩) ws.length ws.length) ws.length (ws.map Value.string) → Calls Tryz.prog 92 #[.slice (some ⟨A, 0, none⟩) ws.length ws.length] w3 fun e w' => e = .returned (.bool true) ∧ w' = w3) := by
      intro A B w3 hown
      rw [← hok]; exact args48 (some ⟨A, 0, none⟩) A 0 ws.length ws.length ws w3 (strsIn_own hown rfl hwf) (by omega)
    have HG : Hid ((if (true : Bool) = true then Sum.inr (ws.map fun t => t.data.toList, n + 1) else Sum.inl 2 : Int ⊕ (List (List UInt8) × Nat)) = .inr (ws.map fun t => t.data.toList, n + 1)) := rfl
    rw [HG.out]
    clear hok
    go_enter Tryz.func102, Tryz.ntmps102
    go_wp2
    go_quiet ((fail))
    go_wp2_with fail
    refine (HC.out _).mono ?_
    rintro e w1 ⟨rfl, rfl⟩
    go_wp2_with fail
    refine (HT.out _).mono ?_
    rintro e w1 ⟨rfl, rfl⟩
    go_wp2_with fail
    refine (clone60 t _ (by omega)).mono ?_
    rintro e w2 ⟨rfl, b2⟩
    go_wp2_with fail
    refine (fields94 t w2 (by omega)).mono ?_
    rw [HW.out]
    rintro e w3 ⟨A, rfl, hA, hown, b3⟩
    have r3 : RdAt w3 rb s at_ := RowAt.below (RowAt.below (w := w.drewN _) h b2 hlt) b3 (by have := b2.size; simp at this; omega)
    have g3 : w.grownBy w3 (some rb) := grown_below (grown_below (grown_drewN w _ _) b2) b3
    have d0 := r3.cell 0
    have d1 := r3.cell 1
    simp at d0 d1
    have fz := r3.frozen 1
    have r4 : RdAt (w3.setCell ⟨rb, 1, none⟩ (.int .i64 ((at_ : Int) + ((n : Int) + 1)))) rb s (at_ + (n + 1)) := by
      have := RowAt.set r3 1 (.int .i64 ((at_ : Int) + ((n : Int) + 1)))
      unfold RdAt
      rw [show ((at_ + (n + 1) : Nat) : Int) = (at_ : Int) + ((n : Int) + 1) from by omega]
      simpa using this
    have g4 := grown_trans g3 (grown_set w3 rb 1 (.int .i64 ((at_ : Int) + ((n : Int) + 1))))
    have HO : Hid (World.ownsRow (w3.setCell ⟨rb, 1, none⟩ (.int .i64 ((at_ : Int) + ((n : Int) + 1)))) w.heap.size 9 1 (.slice (some ⟨A, 0, none⟩) ws.length ws.length) (ws.map fun t => t.data.toList).length (strVals (ws.map fun t => t.data.toList))) := by
      have hs2 : w.heap.size ≤ w2.heap.size := by have := b2.size; simpa using this
      unfold Hid
      rw [strVals_own, List.length_map]
      exact ownsRow_setCell_below (Joins.ownsRow_le hown hs2) (by exact hlt) _
    go_wp2_with fail
    refine (HA.out A _ w3 hown).mono ?_
    rintro e w4 ⟨rfl, rfl⟩
    clear HA hown
    go_wp2
    go_ret
    exact ⟨_, rfl, HO.out, r4, by omega, g4⟩
end Go.Proofs.YtjgmkbldclangaaGreatDoor.Fd
