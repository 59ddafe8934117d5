/- The reader's some and marked at this dump. -/
import Derived.Test.YtcgeafdakaeicaaDoorLine
namespace Go.Proofs.YtcgeafdakaeicaaDoor
open Go.RowKit Go.Sort

def someM (l : List UInt8) (n : Nat) : Int ⊕ List UInt8 :=
  if l.length < n + 2 then .inl 1 else if (l.drop n).take 2 = [13, 10] then .inr (l.take n) else .inl 2

set_option maxHeartbeats 1000000 in
theorem some_inl (s : ByteArray) (at_ rb n : Nat) (c : Int) (w : World) (_hs : s.size ≤ 1048576) (ha : at_ ≤ s.size) (hn : n ≤ 1048576) (h : RdAt w rb s at_) (hl : someM (s.data.toList.drop at_) n = .inl c) :
    Calls Tryd.prog 80 #[.pointer (some ⟨rb, 0, none⟩), .int .i64 n] w fun e w' => e = gaveUp c ∧ Below w.heap.size w w' := by
  have c0 := h.cell 0
  have c1 := h.cell 1
  simp at c0 c1
  have hai : (at_ : Int) ≤ (s.size : Int) := by omega
  have ht : (s.extract at_ s.size).data.toList = s.data.toList.drop at_ := Lib.extract_to_end s at_
  have hsz : (s.extract at_ s.size).size = s.size - at_ := by rw [Lib.size_eq, ht, List.length_drop, ← Lib.size_eq]
  have HZ : Hid ((s.data.toList.drop at_).length = s.size - at_) := by unfold Hid; rw [List.length_drop, ← Lib.size_eq]
  unfold someM at hl
  rw [HZ.out] at hl
  by_cases hb : s.size - at_ < n + 2
  · rw [if_pos hb] at hl
    injection hl with hl
    subst hl
    have hbi : ((s.size - at_ : Nat) : Int) < (n : Int) + 2 := by omega
    clear ht HZ
    go_enter Tryd.func80, Tryd.ntmps80
    go_wp2
    go_quiet ((fail))
    go_wp2_with fail
    refine (giveUp_any 1 _).mono ?_
    rintro e w2 ⟨rfl, rfl⟩
    unfold gaveUp
    go_wp2
    exact ⟨rfl, rfl, below_drewN (Below.refl _ _) _⟩
  · rw [if_neg hb] at hl
    by_cases he : ((s.data.toList.drop at_).drop n).take 2 = [13, 10]
    · rw [if_pos he] at hl; cases hl
    · rw [if_neg he] at hl
      injection hl with hl
      subst hl
      have hbi : ¬ ((s.size - at_ : Nat) : Int) < (n : Int) + 2 := by omega
      have hb2 : (n : Int) + 2 ≤ ((s.size - at_ : Nat) : Int) := by omega
      have hne : (((s.extract at_ s.size).extract n (n + 2)).toList == [13, 10]) = false := by
        have e1 : ((s.extract at_ s.size).extract n (n + 2)).toList = ((s.data.toList.drop at_).drop n).take 2 := by
          rw [ByteArray.toList_eq, Lib.extract_data, ht]
          congr 1
          omega
        rw [e1]
        simpa using he
      clear ht HZ he
      go_enter Tryd.func80, Tryd.ntmps80
      go_wp2
      go_quiet ((fail))
      go_wp2_with fail
      refine (giveUp_any 2 _).mono ?_
      rintro e w2 ⟨rfl, rfl⟩
      unfold gaveUp
      go_wp2
      exact ⟨rfl, rfl, below_drewN (Below.refl _ _) _⟩

set_option maxHeartbeats 1000000 in
theorem some_inr (s : ByteArray) (at_ rb n : Nat) (l : List UInt8) (w : World) (hs : s.size ≤ 1048576) (ha : at_ ≤ s.size) (hn : n ≤ 1048576) (h : RdAt w rb s at_) (hl : someM (s.data.toList.drop at_) n = .inr l) :
    at_ + n + 2 ≤ s.size ∧ l.length = n ∧ Calls Tryd.prog 80 #[.pointer (some ⟨rb, 0, none⟩), .int .i64 n] w fun e w' => e = .returned (.string ⟨l.toArray⟩) ∧ RdAt w' rb s (at_ + n + 2) ∧ w.grownBy w' (some rb) := by
  have c0 := h.cell 0
  have c1 := h.cell 1
  simp at c0 c1
  have fz := h.frozen 1
  have hlt := h.lt
  have hai : (at_ : Int) ≤ (s.size : Int) := by omega
  have ht : (s.extract at_ s.size).data.toList = s.data.toList.drop at_ := Lib.extract_to_end s at_
  have hsz : (s.extract at_ s.size).size = s.size - at_ := by rw [Lib.size_eq, ht, List.length_drop, ← Lib.size_eq]
  have hlen : (s.data.toList.drop at_).length = s.size - at_ := by rw [List.length_drop, ← Lib.size_eq]
  unfold someM at hl
  rw [hlen] at hl
  by_cases hb : s.size - at_ < n + 2
  · rw [if_pos hb] at hl; cases hl
  rw [if_neg hb] at hl
  by_cases he : ((s.data.toList.drop at_).drop n).take 2 = [13, 10]
  · rw [if_pos he] at hl
    injection hl with hl
    have hll : l.length = n := by rw [← hl, List.length_take, hlen]; omega
    refine ⟨by omega, hll, ?_⟩
    have HE : Hid (((s.extract at_ s.size).extract 0 n) = ⟨l.toArray⟩) := str_of _ _ (by rw [Lib.extract_data, ht, ← hl]; simp)
    have hbi : ¬ ((s.size - at_ : Nat) : Int) < (n : Int) + 2 := by omega
    have hb2 : (n : Int) + 2 ≤ ((s.size - at_ : Nat) : Int) := by omega
    have hne : (((s.extract at_ s.size).extract n (n + 2)).toList == [13, 10]) = true := by
      have e1 : ((s.extract at_ s.size).extract n (n + 2)).toList = ((s.data.toList.drop at_).drop n).take 2 := by
        rw [ByteArray.toList_eq, Lib.extract_data, ht]
        congr 1
        omega
      rw [e1]
      simpa using he
    have HR1 : Hid (∀ q, RdAt ((w.drewN q).setCell ⟨rb, 1, none⟩ (.int .i64 ((at_ : Int) + ((n : Int) + 2)))) rb s (at_ + n + 2)) := fun q => by
      have := RowAt.set (w := w.drewN q) h 1 (.int .i64 ((at_ : Int) + ((n : Int) + 2)))
      unfold RdAt
      rw [show ((at_ + n + 2 : Nat) : Int) = (at_ : Int) + ((n : Int) + 2) from by omega]
      simpa using this
    clear ht hlen he hl hll
    go_enter Tryd.func80, Tryd.ntmps80
    go_wp2
    go_quiet ((fail))
    go_wp2_with fail
    rw [HE.out]
    refine (clone60 ⟨l.toArray⟩ _ (by rw [← HE.out]; simp; omega)).mono ?_
    rintro e w2 ⟨rfl, b2⟩
    have hsz2 : ∀ q, ((w.drewN q).setCell ⟨rb, 1, none⟩ (.int .i64 ((at_ : Int) + ((n : Int) + 2)))).heap.size = w.heap.size := fun q => by simp [World.setCell]
    have r2 := RowAt.below (HR1.out nq) b2 (by rw [hsz2]; exact hlt)
    have g2 := grown_below (grown_trans (grown_drewN w nq (some rb)) (grown_set (w.drewN nq) rb 1 (.int .i64 ((at_ : Int) + ((n : Int) + 2))))) b2
    clear b2
    go_wp2
    go_ret
    exact ⟨rfl, r2, g2⟩
  · rw [if_neg he] at hl; cases hl

/-- A line of a mark and a count: the count, and how many bytes it took. -/
def markedM (l : List UInt8) (mark : UInt8) (most : Int) : Int ⊕ (Nat × Nat) :=
  match lineM l with
  | .inl c => .inl c
  | .inr [] => .inl 2
  | .inr (b :: r) => if b = mark then (match countM r most with | some n => .inr (n, r.length + 3) | none => .inl 2) else .inl 2
end Go.Proofs.YtcgeafdakaeicaaDoor
