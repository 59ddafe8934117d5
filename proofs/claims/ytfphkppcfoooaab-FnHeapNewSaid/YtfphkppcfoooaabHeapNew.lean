/- FnHeapNew: the calls on a new heap, and the law. -/
import Derived.Test.YtfphkppcfoooaabGaps
import Derived.Test.YtfphkppcfoooaabSlices
namespace Go.Proofs.Ytfphkppcfoooaab
open Go.RowKit

theorem ret_int {a b : Int} (h : a = b) : Ending.returned (.int .i64 a) = .returned (.int .i64 b) := by rw [h]

theorem room1 (x y : Int) (w : World) (h0 : 0 ≤ x) (h1 : x ≤ 1000000) (h2 : 0 ≤ y) (h3 : y ≤ 1000000) : Calls Try.prog 35 #[.int .i64 x, .int .i64 y] w fun e w' => e = .returned (.int .i64 (x + y)) ∧ w' = w := by
  go_enter Try.func35, Try.ntmps35
  go_wp2
  go_ret
  exact ⟨rfl, rfl⟩

theorem gap1 (y : Int) (w : World) (h2 : 0 ≤ y) : Calls Try.prog 40 #[.int .i64 0, .int .i64 y] w fun e w' => e = .returned (.int .i64 (0 + y)) ∧ w' = w := by
  go_enter Try.func40, Try.ntmps40
  go_wp2
  all_goals
    go_ret
    exact ⟨ret_int (by omega), rfl⟩

set_option maxHeartbeats 2000000 in
set_option maxRecDepth 100000 in
theorem over0 (f : Nat) (s : ByteArray) (w : World) (hn : s.size ≤ 3000) (hc : cleanM (byteAt s) (fun _ => false) s.size = true) (hf : f = 35 ∨ f = 40) :
    Calls Try.prog 34 #[.agg #[.string s, .slice none 0 0], .func (.func f) #[] #[]] w fun e w' => e = .returned (.int .i64 s.size) ∧ Below w.heap.size w w' := by
  have HF : Hid (∀ w : World, 0 < s.size → Calls Try.prog f #[.int .i64 0, .int .i64 s.size] w fun e w' => e = .returned (.int .i64 (0 + s.size)) ∧ w' = w) := fun w _ => by
    rcases hf with rfl | rfl
    · exact room1 0 s.size w (by omega) (by omega) (by omega) (by omega)
    · exact gap1 s.size w (by omega)
  have HC : Hid (cleanM (byteAt s) (fun _ => false) s.size = true) := hc
  clear hc
  go_enter Try.func34, Try.ntmps34
  go_wp2_with fail
  have hb0 : Below w.heap.size w (w.alloc (.cells #[.string s, .slice none 0 0] 26)) := (Below.refl _ w).alloc (Nat.le_refl _) _
  have hs0 : (w.alloc (.cells #[.string s, .slice none 0 0] 26)).heap.size = w.heap.size + 1 := by simp
  generalize w.alloc (.cells #[.string s, .slice none 0 0] 26) = w1 at *
  refine (opened0 s w1 hn).mono ?_
  rintro e w2 ⟨g, rfl, ha, b2⟩
  rw [HC.out]
  have bb2 := hb0.trans (b2.mono (by omega))
  have s2 := b2.size
  go_wp2_with fail
  refine (gaps0 g s.size _ _ w2 ha hn).mono ?_
  rintro e w3 ⟨v, rfl, hone, b3⟩
  have bb3 := bb2.trans (b3.mono (by omega))
  have s3 := b3.size
  rcases hone with ⟨hz, rfl⟩ | ⟨hpos, A, c, D, rfl, hA, hc1, hrow, hD0, hD1⟩
  · go_wp2
    refine wp_loop_rounds 1 ?_
    rw [rounds_succ]
    go_wp2
    go_ret
    exact ⟨by rw [hz]; rfl, bb3⟩
  · have r0 := (hrow.cell 0).trans hD0
    have r1 := (hrow.cell 1).trans hD1
    clear hrow hD0 hD1
    have hb4 : Below w.heap.size w (w3.alloc (.cells #[.int .i64 0, .int .i64 (s.size : Int)] 87)) := bb3.alloc (by omega) _
    have HB4 : Hid (Below w.heap.size w (w3.alloc (.cells #[.int .i64 0, .int .i64 (s.size : Int)] 87))) := hb4
    clear hb4
    rcases hf with rfl | rfl
    all_goals
      go_wp2
      refine wp_loop_rounds 2 ?_
      rw [rounds_succ]
      go_wp2_with fail
      refine (HF.out _ hpos).mono ?_
      rintro e w4 ⟨rfl, rfl⟩
      go_wp2
      rw [rounds_succ]
      go_wp2
      go_ret
      exact ⟨by simp, HB4.out⟩

theorem clean_zero (n : Nat) : cleanM (byteAt (dataZ n)) (fun _ => false) n = true := by
  refine cleanM_true fun j hj => .inr ?_
  show ((List.range n).map fun _ => (0 : UInt8)).getD j 0 = 0
  rw [List.getD_eq_getElem?_getD, List.getElem?_map, List.getElem?_range hj]
  rfl

set_option maxHeartbeats 1000000 in
theorem heapOk0 (n : Nat) (w : World) (hn : n ≤ 3000) :
    Calls Try.prog 13 #[.agg #[.string (dataZ n), .slice none 0 0]] w fun e w' => e = .returned (.bool true) ∧ Below w.heap.size w w' := by
  have HC : Hid (cleanM (byteAt (dataZ n)) (fun _ => false) (dataZ n).size = true) := by unfold Hid; rw [dataZ_size]; exact clean_zero n
  have hz := dataZ_size n
  go_enter Try.func13, Try.ntmps13
  go_wp2_with fail
  refine (opened0 (dataZ n) _ (by omega)).mono ?_
  rintro e w2 ⟨g, rfl, ha, b2⟩
  rw [HC.out]
  have b := ((Below.refl w.heap.size w).alloc (Nat.le_refl _) (.cells #[.string (dataZ n), .slice none 0 0] 26)).trans (b2.mono (by simp))
  clear ha HC hz
  go_wp2
  go_ret
  exact ⟨rfl, b⟩

set_option maxHeartbeats 1000000 in
theorem room0 (n : Nat) (w : World) (hn : n ≤ 3000) :
    Calls Try.prog 14 #[.agg #[.string (dataZ n), .slice none 0 0]] w fun e w' => e = .returned (.int .i64 n) ∧ Below w.heap.size w w' := by
  have HC : Hid (cleanM (byteAt (dataZ n)) (fun _ => false) (dataZ n).size = true) := by unfold Hid; rw [dataZ_size]; exact clean_zero n
  have HO : Hid (∀ w, Calls Try.prog 34 #[.agg #[.string (dataZ n), .slice none 0 0], .func (.func 35) #[] #[]] w fun e w' => e = .returned (.int .i64 n) ∧ Below w.heap.size w w') := fun w => by
    have := over0 35 (dataZ n) w (by rw [dataZ_size]; exact hn) HC.out (.inl rfl)
    rwa [dataZ_size] at this
  clear HC
  go_enter Try.func14, Try.ntmps14
  go_wp2_with fail
  refine (HO.out _).mono ?_
  rintro e w2 ⟨rfl, b2⟩
  have b := ((Below.refl w.heap.size w).alloc (Nat.le_refl _) (.cells #[.string (dataZ n), .slice none 0 0] 26)).trans (b2.mono (by simp))
  go_wp2
  go_ret
  exact ⟨rfl, b⟩

set_option maxHeartbeats 1000000 in
theorem gap0 (n : Nat) (w : World) (hn : n ≤ 3000) :
    Calls Try.prog 18 #[.agg #[.string (dataZ n), .slice none 0 0]] w fun e w' => e = .returned (.int .i64 n) ∧ Below w.heap.size w w' := by
  have HC : Hid (cleanM (byteAt (dataZ n)) (fun _ => false) (dataZ n).size = true) := by unfold Hid; rw [dataZ_size]; exact clean_zero n
  have HO : Hid (∀ w, Calls Try.prog 34 #[.agg #[.string (dataZ n), .slice none 0 0], .func (.func 40) #[] #[]] w fun e w' => e = .returned (.int .i64 n) ∧ Below w.heap.size w w') := fun w => by
    have := over0 40 (dataZ n) w (by rw [dataZ_size]; exact hn) HC.out (.inr rfl)
    rwa [dataZ_size] at this
  clear HC
  go_enter Try.func18, Try.ntmps18
  go_wp2_with fail
  refine (HO.out _).mono ?_
  rintro e w2 ⟨rfl, b2⟩
  have b := ((Below.refl w.heap.size w).alloc (Nat.le_refl _) (.cells #[.string (dataZ n), .slice none 0 0] 26)).trans (b2.mono (by simp))
  go_wp2
  go_ret
  exact ⟨rfl, b⟩

set_option maxHeartbeats 1000000 in
theorem drawNew (a : Option Addr) (n c : Nat) (w : World) (hn : n ≤ 9223372036854775807) (hb : BytesIn w a n w.heap.size) :
    Calls Try.prog 19 #[.slice a n c] w fun e w' => ∃ z : Int, e = .returned (.int .i64 z) ∧ Below w.heap.size w w' := by
  go_enter Try.func19, Try.ntmps19
  go_wp2_with fail
  refine (open_any a n c w hn hb).mono ?_
  rintro e w1 ⟨rfl, r1, b1⟩
  have hz : w.heap.size ≤ w1.heap.size := b1.size
  go_wp2_with fail
  refine (off_any w.heap.size a n c 0 3000 w1 r1 (by omega) (by omega) (by omega)).mono ?_
  rintro e w2 ⟨k, rfl, k0, k1, r2, g2⟩
  go_wp2
  go_ret
  exact ⟨k, rfl, b1.trans (below_of_grown g2 (Nat.le_refl _) hz)⟩

/-- A struct of two cells that was stored: what stands there. -/
theorem stored2 {w : World} {g : Nat} {T : TypeId} {x y : Value} (h : RowAt w g T #[x, y]) : w.cell? ⟨g, 0, none⟩ = some x ∧ w.cell? ⟨g, 1, none⟩ = some y := by
  have a := h.cell 0
  have b := h.cell 1
  simp at a b
  exact ⟨a, b⟩

set_option maxHeartbeats 4000000 in
set_option maxRecDepth 100000 in
theorem heapNew_walk (a : Option Addr) (n c : Nat) (w : World) (hn : n ≤ 9223372036854775807) (hb : BytesIn w a n w.heap.size) :
    Calls Try.prog 5 #[.slice a n c] w fun e w' => e = .returned (.bool true) ∧ Below w.heap.size w w' := by
  by_cases hbig : 1048576 < n
  · have hd : decide (1048576 < n) = true := decide_eq_true hbig
    go_enter Try.func5, Try.ntmps5
    go_wp2_with fail
    refine (big_any a n c w hn).mono ?_
    rintro e w1 ⟨rfl, rfl⟩
    rw [hd]
    go_wp2
    go_ret
    exact ⟨rfl, Below.refl _ _⟩
  · have hd : decide (1048576 < n) = false := decide_eq_false hbig
    go_enter Try.func5, Try.ntmps5
    go_wp2_with fail
    refine (big_any a n c w hn).mono ?_
    rintro e w1 ⟨rfl, rfl⟩
    rw [hd]
    go_wp2_with fail
    refine (drawNew a n c w1 hn hb).mono ?_
    rintro e w2 ⟨z, rfl, b2⟩
    have s2 := b2.size
    go_wp2_with fail
    refine (implNew z w2).mono ?_
    rintro e w3 ⟨rfl, b3⟩
    have s3 := b3.size
    have bb3 := b2.trans (b3.mono s2)
    by_cases hz : 0 ≤ z ∧ z ≤ 3000
    · obtain ⟨k, hk⟩ : ∃ k : Nat, z = k := ⟨z.toNat, by omega⟩
      subst hk
      have hm : newM (k : Int) = (dataZ k, true) := by unfold newM; rw [if_pos hz]; rfl
      have HS := specNew (k : Int)
      rw [hm] at HS ⊢
      have hk3 : k ≤ 3000 := by omega
      clear hm hz
      have HS' : Hid (∀ w, Calls Try.prog 21 #[.int .i64 k] w fun e w' => e = .returned (.tuple #[.agg #[.string (dataZ k), .slice none 0 0], .bool true]) ∧ Below w.heap.size w w') := HS
      clear HS
      go_wp2_with fail
      have ba : Below w3.heap.size w3 (w3.alloc (.cells #[.string (dataZ k), .slice none 0 0] 26)) := (Below.refl _ w3).alloc (Nat.le_refl _) _
      have r4 := RowAt.new w3 26 #[.string (dataZ k), .slice none 0 0]
      have l4 := r4.lt
      generalize hg4 : w3.heap.size = g4 at *
      generalize w3.alloc (.cells #[.string (dataZ k), .slice none 0 0] 26) = w4 at *
      have bb4 := bb3.trans (ba.mono (by omega))
      refine (HS'.out w4).mono ?_
      rintro e w5 ⟨rfl, b5⟩
      have s5 := b5.size
      have bb5 := bb4.trans (b5.mono (by omega))
      have r5 := r4.below b5 l4
      obtain ⟨c0, c1⟩ := stored2 r5
      have lt5 := r5.lt
      have R5 : Hid (RowAt w5 g4 26 #[.string (dataZ k), .slice none 0 0]) := r5
      clear r5 r4 ba
      go_wp2_with fail
      have ba6 : Below w5.heap.size w5 (w5.alloc (.cells #[.string (dataZ k), .slice none 0 0] 26)) := (Below.refl _ w5).alloc (Nat.le_refl _) _
      generalize w5.alloc (.cells #[.string (dataZ k), .slice none 0 0] 26) = w6 at *
      have bb6 := bb5.trans (ba6.mono (by omega))
      have s6 := ba6.size
      have r6 := R5.out.below ba6 lt5
      refine (heapOk0 k w6 hk3).mono ?_
      rintro e w7 ⟨rfl, b7⟩
      have s7 := b7.size
      have bb7 := bb6.trans (b7.mono (by omega))
      have r7 := r6.below b7 (by omega)
      clear c0 c1
      obtain ⟨c0, c1⟩ := stored2 r7
      go_wp2_with fail
      refine (room0 k w7 hk3).mono ?_
      rintro e w8 ⟨rfl, b8⟩
      have s8 := b8.size
      have bb8 := bb7.trans (b8.mono (by omega))
      have r8 := r7.below b8 (by omega)
      clear c0 c1
      obtain ⟨c0, c1⟩ := stored2 r8
      go_wp2_with fail
      refine (gap0 k w8 hk3).mono ?_
      rintro e w9 ⟨rfl, b9⟩
      have s9 := b9.size
      have bb9 := bb8.trans (b9.mono (by omega))
      have r9 := r8.below b9 (by omega)
      clear c0 c1
      obtain ⟨c0, c1⟩ := stored2 r9
      clear r9 r8 r7 r6 R5
      go_wp2
      go_ret
      exact ⟨rfl, bb9⟩
    · have hm : newM z = (⟨#[]⟩, false) := by unfold newM; rw [if_neg hz]
      have HS := specNew z
      rw [hm] at HS ⊢
      clear hm hz
      have HS' : Hid (∀ w, Calls Try.prog 21 #[.int .i64 z] w fun e w' => e = .returned (.tuple #[.agg #[.string ⟨#[]⟩, .slice none 0 0], .bool false]) ∧ Below w.heap.size w w') := HS
      clear HS
      go_wp2_with fail
      have ba : Below w3.heap.size w3 (w3.alloc (.cells #[.string ⟨#[]⟩, .slice none 0 0] 26)) := (Below.refl _ w3).alloc (Nat.le_refl _) _
      have r4 := RowAt.new w3 26 #[.string ⟨#[]⟩, .slice none 0 0]
      have l4 := r4.lt
      generalize hg4 : w3.heap.size = g4 at *
      generalize w3.alloc (.cells #[.string ⟨#[]⟩, .slice none 0 0] 26) = w4 at *
      have bb4 := bb3.trans (ba.mono (by omega))
      refine (HS'.out w4).mono ?_
      rintro e w5 ⟨rfl, b5⟩
      have bb5 := bb4.trans (b5.mono (by omega))
      have r5 := r4.below b5 l4
      obtain ⟨c0, c1⟩ := stored2 r5
      have lt5 := r5.lt
      have HB : Hid (Below w1.heap.size w1 (w5.alloc (.cells #[.string ⟨#[]⟩, .slice none 0 0] 26))) := bb5.alloc (by have := bb5.size; omega) _
      clear r5 r4 ba
      go_wp2
      go_ret
      exact ⟨rfl, HB.out⟩
end Go.Proofs.Ytfphkppcfoooaab
