/- The reply's reader: wordsOf, node at a leaf. -/
import Derived.Test.YtcgeafdakaeicaaDoorOwn3
import Derived.Test.YtcgeafdakaeicaaDoorRpI
namespace Go.Proofs.YtcgeafdakaeicaaDoor
open Go.RowKit Go.Sort
open Rp (Nd nd0 plainB numB fieldsB)

set_option maxHeartbeats 400000 in
theorem wordsOf_yes (s : ByteArray) (w : World) (hs : s.size ≤ 1048576) (h : plainB s = true) :
    Calls Tryd.prog 78 #[.string s] w fun e w' => e = .returned (.string s) ∧ Below w.heap.size w w' := by
  have HC := Rp.words_any s w (by omega)
  rw [h] at HC
  have H : Hid (Calls Tryd.prog 55 #[.string s] w fun e w' => e = .returned (.bool true) ∧ Below w.heap.size w w') := HC
  clear HC h
  go_enter Tryd.func78, Tryd.ntmps78
  go_wp2_with fail
  refine H.out.mono ?_
  rintro e w1 ⟨rfl, b1⟩
  go_wp2
  go_ret
  exact ⟨rfl, b1⟩

set_option maxHeartbeats 400000 in
theorem wordsOf_no (s : ByteArray) (w : World) (hs : s.size ≤ 1048576) (h : plainB s = false) :
    Calls Tryd.prog 78 #[.string s] w fun e w' => e = gaveUp 2 ∧ Below w.heap.size w w' := by
  have HC := Rp.words_any s w (by omega)
  rw [h] at HC
  have H : Hid (Calls Tryd.prog 55 #[.string s] w fun e w' => e = .returned (.bool false) ∧ Below w.heap.size w w') := HC
  clear HC h
  go_enter Tryd.func78, Tryd.ntmps78
  go_wp2_with fail
  refine H.out.mono ?_
  rintro e w1 ⟨rfl, b1⟩
  go_wp2_with fail
  refine (giveUp_any 2 w1).mono ?_
  rintro e w2 ⟨rfl, rfl⟩
  unfold gaveUp
  go_wp2
  exact ⟨rfl, rfl, b1⟩

abbrev z4 : Array Value := #[.int .i64 0, .int .i64 0, .string ⟨#[]⟩, .slice none 0 0]
abbrev res4 (w : World) (v0 v1 v2 v3 : Value) (b : Nat) : World := (((w.setCell ⟨b, 0, none⟩ v0).setCell ⟨b, 1, none⟩ v1).setCell ⟨b, 2, none⟩ v2).setCell ⟨b, 3, none⟩ v3

theorem res4_row {w : World} {b : Nat} {C : Array Value} (h : RowAt w b 44 C) (hC : C.size = 4) (v0 v1 v2 v3 : Value) : RowAt (res4 w v0 v1 v2 v3 b) b 44 #[v0, v1, v2, v3] := by
  have := (((h.set 0 v0).set 1 v1).set 2 v2).set 3 v3
  obtain ⟨a, b', c, d, rfl⟩ : ∃ a b c d, C = #[a, b, c, d] := by
    rcases C with ⟨l⟩
    match l, hC with
    | [a, b, c, d], _ => exact ⟨a, b, c, d, rfl⟩
  simpa using this
theorem res4_block (w : World) (v0 v1 v2 v3 : Value) (b k : Nat) (h : k ≠ b) : (res4 w v0 v1 v2 v3 b).heap[k]? = w.heap[k]? := by
  unfold res4
  rw [Below.heap_setCell _ _ _ _ (by simpa using h), Below.heap_setCell _ _ _ _ (by simpa using h), Below.heap_setCell _ _ _ _ (by simpa using h), Below.heap_setCell _ _ _ _ (by simpa using h)]
theorem res4_size (w : World) (v0 v1 v2 v3 : Value) (b : Nat) : (res4 w v0 v1 v2 v3 b).heap.size = w.heap.size := by simp [res4, World.setCell]
theorem res4_below {B : Nat} {w w1 : World} (h : Below B w w1) (v0 v1 v2 v3 : Value) (b : Nat) (hb : B ≤ b) : Below B w (res4 w1 v0 v1 v2 v3 b) :=
  (((h.setCell hb _).setCell hb _).setCell hb _).setCell hb _

theorem ready_alloc {w : World} (hr : Ready w) (o : Obj) : Ready (w.alloc o) := hr.below ((Below.refl 6 w).alloc hr.six o)

set_option maxHeartbeats 400000 in
theorem node_plus (p : Value) (s : ByteArray) (a : Int) (w : World) (hs : s.size ≤ 1048576) (h : plainB s = true) :
    Calls Tryd.prog 60 #[p, .int .u8 43, .string s, .int .i64 a] w fun e w' => e = .returned (.agg #[.int .i64 1, .int .i64 0, .string s, .slice none 0 0]) ∧ Below w.heap.size w w' := by
  have H : Hid (Calls Tryd.prog 78 #[.string s] (w.alloc (.cells z4 44)) fun e w' => e = .returned (.string s) ∧ Below (w.alloc (.cells z4 44)).heap.size (w.alloc (.cells z4 44)) w') := wordsOf_yes s _ hs h
  have HZ : Hid (RowAt (w.alloc (.cells z4 44)) w.heap.size 44 z4) := RowAt.new w 44 z4
  have HB : Hid (Below w.heap.size w (w.alloc (.cells z4 44))) := (Below.refl _ w).alloc (Nat.le_refl _) _
  clear h
  go_enter Tryd.func60, Tryd.ntmps60
  go_wp2_with fail
  refine H.out.mono ?_
  rintro e w1 ⟨rfl, b1⟩
  have hz : RowAt w1 w.heap.size 44 z4 := RowAt.below HZ.out b1 (by simp)
  have b2 : Below w.heap.size w w1 := HB.out.trans (b1.mono (by simp))
  have c0 := hz.cell 0
  have c1 := hz.cell 1
  have c2 := hz.cell 2
  have c3 := hz.cell 3
  have f0 := hz.frozen 0
  have f1 := hz.frozen 1
  have f2 := hz.frozen 2
  have f3 := hz.frozen 3
  simp at c0 c1 c2 c3
  clear b1 HZ HB hz
  go_wp2
  exact bodyPost_ret (v := .agg #[.int .i64 1, .int .i64 0, .string s, .slice none 0 0]) (by simp [results, Tryd.results60, go_sem, c0, c1, c2, c3]) rfl ⟨rfl, res4_below b2 _ _ _ _ _ (Nat.le_refl _)⟩

set_option maxHeartbeats 400000 in
theorem node_plus_no (p : Value) (s : ByteArray) (a : Int) (w : World) (hs : s.size ≤ 1048576) (h : plainB s = false) :
    Calls Tryd.prog 60 #[p, .int .u8 43, .string s, .int .i64 a] w fun e w' => e = gaveUp 2 ∧ Below w.heap.size w w' := by
  have H : Hid (Calls Tryd.prog 78 #[.string s] (w.alloc (.cells z4 44)) fun e w' => e = gaveUp 2 ∧ Below (w.alloc (.cells z4 44)).heap.size (w.alloc (.cells z4 44)) w') := wordsOf_no s _ hs h
  have HB : Hid (Below w.heap.size w (w.alloc (.cells z4 44))) := (Below.refl _ w).alloc (Nat.le_refl _) _
  clear h
  go_enter Tryd.func60, Tryd.ntmps60
  go_wp2_with fail
  refine H.out.mono ?_
  rintro e w1 ⟨rfl, b1⟩
  have b2 : Below w.heap.size w w1 := HB.out.trans (b1.mono (by simp))
  clear b1 HB
  unfold gaveUp
  go_wp2
  exact ⟨rfl, rfl, b2⟩

set_option maxHeartbeats 400000 in
theorem node_minus (p : Value) (s : ByteArray) (a : Int) (w : World) (hs : s.size ≤ 1048576) (h : plainB s = true) :
    Calls Tryd.prog 60 #[p, .int .u8 45, .string s, .int .i64 a] w fun e w' => e = .returned (.agg #[.int .i64 2, .int .i64 0, .string s, .slice none 0 0]) ∧ Below w.heap.size w w' := by
  have H : Hid (Calls Tryd.prog 78 #[.string s] (w.alloc (.cells z4 44)) fun e w' => e = .returned (.string s) ∧ Below (w.alloc (.cells z4 44)).heap.size (w.alloc (.cells z4 44)) w') := wordsOf_yes s _ hs h
  have HZ : Hid (RowAt (w.alloc (.cells z4 44)) w.heap.size 44 z4) := RowAt.new w 44 z4
  have HB : Hid (Below w.heap.size w (w.alloc (.cells z4 44))) := (Below.refl _ w).alloc (Nat.le_refl _) _
  clear h
  go_enter Tryd.func60, Tryd.ntmps60
  go_wp2_with fail
  refine H.out.mono ?_
  rintro e w1 ⟨rfl, b1⟩
  have hz : RowAt w1 w.heap.size 44 z4 := RowAt.below HZ.out b1 (by simp)
  have b2 : Below w.heap.size w w1 := HB.out.trans (b1.mono (by simp))
  have c0 := hz.cell 0
  have c1 := hz.cell 1
  have c2 := hz.cell 2
  have c3 := hz.cell 3
  have f0 := hz.frozen 0
  have f1 := hz.frozen 1
  have f2 := hz.frozen 2
  have f3 := hz.frozen 3
  simp at c0 c1 c2 c3
  clear b1 HZ HB hz
  go_wp2
  exact bodyPost_ret (v := .agg #[.int .i64 2, .int .i64 0, .string s, .slice none 0 0]) (by simp [results, Tryd.results60, go_sem, c0, c1, c2, c3]) rfl ⟨rfl, res4_below b2 _ _ _ _ _ (Nat.le_refl _)⟩

set_option maxHeartbeats 400000 in
theorem node_minus_no (p : Value) (s : ByteArray) (a : Int) (w : World) (hs : s.size ≤ 1048576) (h : plainB s = false) :
    Calls Tryd.prog 60 #[p, .int .u8 45, .string s, .int .i64 a] w fun e w' => e = gaveUp 2 ∧ Below w.heap.size w w' := by
  have H : Hid (Calls Tryd.prog 78 #[.string s] (w.alloc (.cells z4 44)) fun e w' => e = gaveUp 2 ∧ Below (w.alloc (.cells z4 44)).heap.size (w.alloc (.cells z4 44)) w') := wordsOf_no s _ hs h
  have HB : Hid (Below w.heap.size w (w.alloc (.cells z4 44))) := (Below.refl _ w).alloc (Nat.le_refl _) _
  clear h
  go_enter Tryd.func60, Tryd.ntmps60
  go_wp2_with fail
  refine H.out.mono ?_
  rintro e w1 ⟨rfl, b1⟩
  have b2 : Below w.heap.size w w1 := HB.out.trans (b1.mono (by simp))
  clear b1 HB
  unfold gaveUp
  go_wp2
  exact ⟨rfl, rfl, b2⟩

set_option maxHeartbeats 400000 in
theorem node_int (p : Value) (s : ByteArray) (v : Int) (a : Int) (w : World) (hs : s.size ≤ 1048576) (hr : Ready w) (h : decM s.data.toList = some v) :
    Calls Tryd.prog 60 #[p, .int .u8 58, .string s, .int .i64 a] w fun e w' => e = .returned (.agg #[.int .i64 3, .int .i64 v, .string ⟨#[]⟩, .slice none 0 0]) ∧ Below w.heap.size w w' := by
  have H : Hid (Calls Tryd.prog 79 #[.string s] (w.alloc (.cells z4 44)) fun e w' => e = .returned (.int .i64 v) ∧ Below (w.alloc (.cells z4 44)).heap.size (w.alloc (.cells z4 44)) w') := numberOf_some s v _ hs (ready_alloc hr _) h
  have HZ : Hid (RowAt (w.alloc (.cells z4 44)) w.heap.size 44 z4) := RowAt.new w 44 z4
  have HB : Hid (Below w.heap.size w (w.alloc (.cells z4 44))) := (Below.refl _ w).alloc (Nat.le_refl _) _
  clear h
  go_enter Tryd.func60, Tryd.ntmps60
  go_wp2_with fail
  refine H.out.mono ?_
  rintro e w1 ⟨rfl, b1⟩
  have hz : RowAt w1 w.heap.size 44 z4 := RowAt.below HZ.out b1 (by simp)
  have b2 : Below w.heap.size w w1 := HB.out.trans (b1.mono (by simp))
  have c0 := hz.cell 0
  have c1 := hz.cell 1
  have c2 := hz.cell 2
  have c3 := hz.cell 3
  have f0 := hz.frozen 0
  have f1 := hz.frozen 1
  have f2 := hz.frozen 2
  have f3 := hz.frozen 3
  simp at c0 c1 c2 c3
  clear b1 HZ HB hz
  go_wp2
  exact bodyPost_ret (v := .agg #[.int .i64 3, .int .i64 v, .string ⟨#[]⟩, .slice none 0 0]) (by simp [results, Tryd.results60, go_sem, c0, c1, c2, c3]) rfl ⟨rfl, res4_below b2 _ _ _ _ _ (Nat.le_refl _)⟩

set_option maxHeartbeats 400000 in
theorem node_int_no (p : Value) (s : ByteArray) (a : Int) (w : World) (hs : s.size ≤ 1048576) (hr : Ready w) (h : decM s.data.toList = none) :
    Calls Tryd.prog 60 #[p, .int .u8 58, .string s, .int .i64 a] w fun e w' => e = gaveUp 2 ∧ Below w.heap.size w w' := by
  have H : Hid (Calls Tryd.prog 79 #[.string s] (w.alloc (.cells z4 44)) fun e w' => e = gaveUp 2 ∧ Below (w.alloc (.cells z4 44)).heap.size (w.alloc (.cells z4 44)) w') := numberOf_none s _ hs (ready_alloc hr _) h
  have HB : Hid (Below w.heap.size w (w.alloc (.cells z4 44))) := (Below.refl _ w).alloc (Nat.le_refl _) _
  clear h
  go_enter Tryd.func60, Tryd.ntmps60
  go_wp2_with fail
  refine H.out.mono ?_
  rintro e w1 ⟨rfl, b1⟩
  have b2 : Below w.heap.size w w1 := HB.out.trans (b1.mono (by simp))
  clear b1 HB
  unfold gaveUp
  go_wp2
  exact ⟨rfl, rfl, b2⟩

set_option maxHeartbeats 400000 in
theorem node_null (p : Value) (a : Int) (w : World) :
    Calls Tryd.prog 60 #[p, .int .u8 36, .string ⟨#[45, 49]⟩, .int .i64 a] w fun e w' => e = .returned (.agg #[.int .i64 5, .int .i64 0, .string ⟨#[]⟩, .slice none 0 0]) ∧ Below w.heap.size w w' := by
  go_enter Tryd.func60, Tryd.ntmps60
  go_wp2
  exact bodyPost_ret (v := .agg #[.int .i64 5, .int .i64 0, .string ⟨#[]⟩, .slice none 0 0]) (by simp [results, Tryd.results60, go_sem]) rfl ⟨rfl, (Below.refl _ w).alloc (Nat.le_refl _) _⟩

set_option maxHeartbeats 400000 in
theorem node_else (p : Value) (m : Nat) (s : ByteArray) (a : Int) (w : World) (h1 : m ≠ 43) (h2 : m ≠ 45) (h3 : m ≠ 58) (h4 : m ≠ 36) (h5 : m ≠ 42) :
    Calls Tryd.prog 60 #[p, .int .u8 m, .string s, .int .i64 a] w fun e w' => e = gaveUp 2 ∧ Below w.heap.size w w' := by
  have e1 : ((m : Int) == 43) = false := by simp; omega
  have e2 : ((m : Int) == 45) = false := by simp; omega
  have e3 : ((m : Int) == 58) = false := by simp; omega
  have e4 : ((m : Int) == 36) = false := by simp; omega
  have e5 : ((m : Int) == 42) = false := by simp; omega
  have HB : Hid (Below w.heap.size w (w.alloc (.cells z4 44))) := (Below.refl _ w).alloc (Nat.le_refl _) _
  generalize (m : Int) = mi at *
  clear h1 h2 h3 h4 h5
  go_enter Tryd.func60, Tryd.ntmps60
  go_wp2_with fail
  refine (giveUp_any 2 _).mono ?_
  rintro e w2 ⟨rfl, rfl⟩
  unfold gaveUp
  go_wp2
  exact ⟨rfl, rfl, HB.out⟩

end Go.Proofs.YtcgeafdakaeicaaDoor
