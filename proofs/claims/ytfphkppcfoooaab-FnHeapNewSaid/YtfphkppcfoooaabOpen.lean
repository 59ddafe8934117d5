/- Opening a heap without cells. -/
import Derived.Test.YtfphkppcfoooaabHN
import Derived.Lib.BufferWrite
namespace Go.Proofs.Ytfphkppcfoooaab
open Go.RowKit

theorem ret_bool {a b : Bool} (h : a = b) : Ending.returned (.bool a) = .returned (.bool b) := by rw [h]

def cleanM (d : Nat → UInt8) (t : Nat → Bool) (n : Nat) : Bool := (List.range n).all fun i => t i || d i == 0

theorem cleanM_true {d : Nat → UInt8} {t : Nat → Bool} {n : Nat} (h : ∀ j, j < n → t j = true ∨ d j = 0) : cleanM d t n = true := by
  unfold cleanM
  rw [List.all_eq_true]
  intro x hx
  rcases h x (by simpa using hx) with h | h <;> simp [h]

theorem cleanM_false {d : Nat → UInt8} {t : Nat → Bool} {n k : Nat} (hk : k < n) (h1 : t k = false) (h2 : d k ≠ 0) : cleanM d t n = false := by
  rw [Bool.eq_false_iff]
  intro h
  unfold cleanM at h
  rw [List.all_eq_true] at h
  have := h k (by simpa using hk)
  simp [h1, h2] at this

set_option maxHeartbeats 1000000 in
set_option maxRecDepth 100000 in
theorem clean_any (g n : Nat) (d : Nat → UInt8) (t : Nat → Bool) (cs : Value) (w : World) (h : Arena w g d t n cs) (hn : n ≤ 3000) :
    Calls Try.prog 49 #[.pointer (some ⟨g, 0, none⟩)] w fun e w' => e = .returned (.bool (cleanM d t n)) ∧ w' = w := by
  obtain ⟨C, hr, hsz, hd, ht, hs, hc⟩ := h.row
  have cs := (hr.cell 6000).trans hs
  have HD : Hid (∀ i, i < 3000 → w.cell? ⟨g, i, none⟩ = some (.int .u8 (d i).toNat)) := fun i hi => (hr.cell i).trans (hd i hi)
  have HT : Hid (∀ i, i < 3000 → w.cell? ⟨g, 3000 + i, none⟩ = some (.bool (t i))) := fun i hi => (hr.cell (3000 + i)).trans (ht i hi)
  clear hr hd ht hs hc h
  go_enter Try.func49, Try.ntmps49
  go_wp2
  go_loop [3, 8] (fun _ i => ∃ k : Nat, k ≤ n ∧ i = .int .i64 k ∧ Hid (∀ j, j < k → t j = true ∨ d j = 0)) (fun _ i => n - (intOf i).toNat)
  case atStart => exact ⟨0, by omega, rfl, fun j hj => by omega⟩
  case round =>
    obtain ⟨k, hk, rfl, hj⟩ := hrel
    by_cases hlt : k < n
    · have ct := HT.out k (by omega)
      have cd := HD.out k (by omega)
      have hki : (k : Int) < 3000 := by omega
      cases htk : t k with
      | true =>
        rw [htk] at ct
        go_wp2
        go_round
        · exact ⟨k + 1, by omega, by go_num, fun j hj2 => by
            rcases Nat.lt_succ_iff_lt_or_eq.1 hj2 with h | h
            · exact hj.out j h
            · subst h; exact .inl htk⟩
        · simp [intOf]; omega
      | false =>
        rw [htk] at ct
        by_cases hz : d k = 0
        · rw [hz] at cd
          go_wp2
          go_round
          · exact ⟨k + 1, by omega, by go_num, fun j hj2 => by
              rcases Nat.lt_succ_iff_lt_or_eq.1 hj2 with h | h
              · exact hj.out j h
              · subst h; exact .inr hz⟩
          · simp [intOf]; omega
        · have HE : Hid (cleanM d t n = false) := cleanM_false hlt htk hz
          have hne : (((d k).toNat : Int) == 0) = false := by
            rw [beq_eq_false_iff_ne]
            intro e
            exact hz (UInt8.toNat_inj.mp (by simpa using e))
          go_wp2
          go_ret
          exact ⟨ret_bool HE.out.symm, rfl⟩
    · have hkn : k = n := by omega
      have HE : Hid (cleanM d t n = true) := cleanM_true (by subst hkn; exact hj.out)
      go_wp2
      go_ret
      exact ⟨ret_bool HE.out.symm, rfl⟩

/-- The bytes of a text, and 0 behind it. -/
def byteAt (s : ByteArray) (i : Nat) : UInt8 := s.data.toList.getD i 0

theorem Arena.copied {w' : World} {g n : Nat} {s : ByteArray} {t : Nat → Bool} {cs : Value} {C : Array Value} (hsz : C.size = 6002) (hd : ∀ i, i < 3000 → C[i]? = some (.int .u8 0))
    (ht : ∀ i, i < 3000 → C[3000 + i]? = some (.bool (t i))) (hs : C[6000]? = some (.int .i64 n)) (hc : C[6001]? = some cs) (hn : s.size ≤ 3000)
    (hw : RowAt w' g 66 (C.toList.take 0 ++ Lib.byteCells s.data.toList ++ C.toList.drop (0 + s.size)).toArray) : Arena w' g (byteAt s) t n cs := by
  have hlen : (Lib.byteCells s.data.toList).length = s.size := by rw [Lib.byteCells_length, ← Lib.size_eq]
  have hget : ∀ i, (C.toList.take 0 ++ Lib.byteCells s.data.toList ++ C.toList.drop (0 + s.size)).toArray[i]? = if i < s.size then (Lib.byteCells s.data.toList)[i]? else C[i]? := fun i => by
    rw [List.take_zero, List.nil_append, Nat.zero_add, List.getElem?_toArray]
    by_cases h : i < s.size
    · rw [if_pos h, List.getElem?_append_left (by rw [hlen]; exact h)]
    · rw [if_neg h, List.getElem?_append_right (by rw [hlen]; omega), hlen, List.getElem?_drop, Array.getElem?_toList]
      congr 1; omega
  refine ⟨_, hw, ?_, fun i hi => ?_, fun i hi => ?_, ?_, ?_⟩
  · rw [List.size_toArray, List.take_zero, List.nil_append, List.length_append, hlen, List.length_drop, Array.length_toList, hsz]; omega
  · rw [hget i]
    by_cases h : i < s.size
    · have hl : i < s.data.toList.length := by rw [← Lib.size_eq]; exact h
      rw [if_pos h, Lib.byteCells, List.getElem?_map, byteAt, List.getD_eq_getElem?_getD, List.getElem?_eq_getElem hl]
      rfl
    · have hl : s.data.toList.length ≤ i := by rw [← Lib.size_eq]; omega
      rw [if_neg h, hd i hi, byteAt, List.getD_eq_getElem?_getD, List.getElem?_eq_none hl]
      rfl
  · rw [hget, if_neg (by omega), ht i hi]
  · rw [hget, if_neg (by omega), hs]
  · rw [hget, if_neg (by omega), hc]

theorem info5s : (Try.prog.info? 5).map (·.size) = some 1 := by kernel_rfl

set_option maxHeartbeats 1000000 in
set_option maxRecDepth 100000 in
theorem opened0 (s : ByteArray) (w : World) (hn : s.size ≤ 3000) :
    Calls Try.prog 26 #[.agg #[.string s, .slice none 0 0]] w fun e w' => ∃ g, e = .returned (.tuple #[.pointer (some ⟨g, 0, none⟩), .bool (cleanM (byteAt s) (fun _ => false) s.size)]) ∧ Arena w' g (byteAt s) (fun _ => false) s.size (.slice none 0 0) ∧ Below w.heap.size w w' := by
  have hni : ¬ (3000 : Int) < (s.size : Int) := by omega
  go_enter Try.func26, Try.ntmps26
  go_wp2
  have hb0 : Below w.heap.size w (w.alloc (.cells #[.string s, .slice none 0 0] 26)) := (Below.refl _ w).alloc (Nat.le_refl _) _
  have hn0 := RowAt.new w 26 #[.string s, .slice none 0 0]
  have hs0 : (w.alloc (.cells #[.string s, .slice none 0 0] 26)).heap.size = w.heap.size + 1 := by simp
  generalize w.alloc (.cells #[.string s, .slice none 0 0] 26) = w1 at *
  have ha : Arena (w1.alloc (.cells (Try.zeroCells66.setIfInBounds 6000 (.int .i64 (s.size : Int))) 66)) (w.heap.size + 1) (fun _ => 0) (fun _ => false) s.size (.slice none 0 0) := by
    have := Arena.new w1 s.size
    rwa [hs0] at this
  have hb1 : Below w1.heap.size w1 (w1.alloc (.cells (Try.zeroCells66.setIfInBounds 6000 (.int .i64 (s.size : Int))) 66)) := (Below.refl _ w1).alloc (Nat.le_refl _) _
  generalize w1.alloc (.cells (Try.zeroCells66.setIfInBounds 6000 (.int .i64 (s.size : Int))) 66) = w2 at *
  have hbb : Below w.heap.size w w2 := hb0.trans (hb1.mono (by omega))
  have hn2 := hn0.below hb1 (by omega)
  have c0 := hn2.cell 0
  have c1 := hn2.cell 1
  simp at c0 c1
  obtain ⟨C, hr, hsz, hd, ht, hs, hc⟩ := ha.row
  generalize hG : w.heap.size + 1 = G at *
  have hcp : ∀ ty, (Builtin.copy_ #[22, 9] ty #[.slice (some ⟨G, 0, none⟩) 3000 3000, .string s]).run Try.prog w2.drew = .ok (goInt s.size) (w2.drew.setRow G (C.toList.take 0 ++ Lib.byteCells s.data.toList ++ C.toList.drop (0 + s.size)).toArray) := fun ty =>
    Lib.run_copy_row_string w2.drew 22 9 ty 5 G 0 3000 3000 s C 66 Try.underlying22 info5s hr hn (by omega)
  have hr3 : RowAt (w2.drew.setRow G (C.toList.take 0 ++ Lib.byteCells s.data.toList ++ C.toList.drop (0 + s.size)).toArray) G 66 (C.toList.take 0 ++ Lib.byteCells s.data.toList ++ C.toList.drop (0 + s.size)).toArray :=
    setRow_heap w2.drew G C _ 66 _ hr
  have ha3 := Arena.copied hsz hd ht hs hc hn hr3
  have hg3 : w2.grownBy (w2.drew.setRow G (C.toList.take 0 ++ Lib.byteCells s.data.toList ++ C.toList.drop (0 + s.size)).toArray) (some G) :=
    ⟨rfl, rfl, rfl, by simp [World.setRow], fun k _ hk => by rw [setRow_other _ _ _ _ (fun e => hk (by rw [e]))]; rfl⟩
  have HA3 : Hid (Arena _ _ _ _ _ _) := ha3
  clear ha hr hsz hd ht hs hc hr3 ha3
  generalize w2.drew.setRow G (C.toList.take 0 ++ Lib.byteCells s.data.toList ++ C.toList.drop (0 + s.size)).toArray = w3 at *
  have hbx : Below w.heap.size w w3 := hbb.trans (below_of_grown hg3 (by omega) (by have := hbb.size; omega))
  have hn3 : RowAt w3 w.heap.size 26 #[.string s, .slice none 0 0] := (hg3.block w.heap.size hn2.lt (by simp; omega)).trans hn2
  have HB : Hid (Below w.heap.size w w3) := hbx
  clear hbx hbb hb0 hb1
  go_region
  clear c0 c1 hn2 hcp
  have c0 := hn3.cell 0
  have c1 := hn3.cell 1
  simp at c0 c1
  clear hn3
  go_wp2
  refine wp_loop_rounds 1 ?_
  rw [rounds_succ]
  go_wp2_with fail
  refine (clean_any G s.size _ _ _ w3 HA3.out hn).mono ?_
  rintro e w4 ⟨rfl, rfl⟩
  go_wp2
  go_ret2
  exact ⟨G, rfl, HA3.out, HB.out⟩
end Go.Proofs.Ytfphkppcfoooaab
