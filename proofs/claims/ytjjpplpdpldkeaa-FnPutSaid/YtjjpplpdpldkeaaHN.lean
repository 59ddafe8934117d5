/- The arena of a new heap, and the two HeapNew. -/
import Derived.Test.YtjjpplpdpldkeaaRows
import Derived.WalkKit
import Derived.WalkSpells
import Derived.WalkLawsBesides
import Derived.Deep.QuietTactic
import Derived.BigQuiet
import Derived.Lib.QuietBelow
import Derived.Lib.Builder
import Derived.OpenShut
namespace Go.Proofs.Ytjjpplpdpldkeaa
open Go.RowKit

def RowAt (w : World) (g : Nat) (T : TypeId) (C : Array Value) : Prop := w.heap[g]? = some (.cells C T (0, 0))
theorem RowAt.cell {w : World} {g : Nat} {T : TypeId} {C : Array Value} (h : RowAt w g T C) (j : Nat) : w.cell? ⟨g, j, none⟩ = C[j]? := Lib.cell_of_heap h j
theorem RowAt.frozen {w : World} {g : Nat} {T : TypeId} {C : Array Value} (h : RowAt w g T C) (j : Nat) : w.frozen? ⟨g, j, none⟩ = false := Lib.frozen_of_heap h j
theorem RowAt.lt {w : World} {g : Nat} {T : TypeId} {C : Array Value} (h : RowAt w g T C) : g < w.heap.size := (Array.getElem?_eq_some_iff.1 h).1
theorem RowAt.below {w w' : World} {g : Nat} {T : TypeId} {C : Array Value} {B : Nat} (h : RowAt w g T C) (hb : Below B w w') (hg : g < B) : RowAt w' g T C := (hb.block g hg).trans h
theorem RowAt.set {w : World} {g : Nat} {T : TypeId} {C : Array Value} (h : RowAt w g T C) (j : Nat) (v : Value) : RowAt (w.setCell ⟨g, j, none⟩ v) g T (C.setIfInBounds j v) := by
  unfold RowAt at h ⊢
  simp only [World.setCell, Array.getElem?_modify, h]
  simp
theorem RowAt.new (w : World) (T : TypeId) (C : Array Value) : RowAt (w.alloc (.cells C T)) w.heap.size T C := by
  unfold RowAt World.alloc
  simp

theorem grown_refl (w : World) (r : Option Nat) : w.grownBy w r := ⟨rfl, rfl, rfl, Nat.le_refl _, fun _ _ _ => rfl⟩
theorem grown_drewN (w : World) (q : Nat) (r : Option Nat) : w.grownBy (w.drewN q) r := ⟨rfl, rfl, rfl, Nat.le_refl _, fun _ _ _ => rfl⟩
theorem grown_below {w w1 w2 : World} {r : Option Nat} (h : w.grownBy w1 r) (hb : Below w1.heap.size w1 w2) : w.grownBy w2 r :=
  ⟨hb.os.trans h.os, hb.tape.trans h.tape, hb.output.trans h.output, Nat.le_trans h.size hb.size, fun k hk hr => (hb.block k (Nat.lt_of_lt_of_le hk h.size)).trans (h.block k hk hr)⟩
theorem grown_trans {w w1 w2 : World} {r : Option Nat} (h : w.grownBy w1 r) (h2 : w1.grownBy w2 r) : w.grownBy w2 r :=
  ⟨h2.os.trans h.os, h2.tape.trans h.tape, h2.output.trans h.output, Nat.le_trans h.size h2.size, fun k hk hr => (h2.block k (Nat.lt_of_lt_of_le hk h.size) hr).trans (h.block k hk hr)⟩
theorem grown_set (w : World) (b o : Nat) (v : Value) : w.grownBy (w.setCell ⟨b, o, none⟩ v) (some b) :=
  ⟨rfl, rfl, rfl, by simp [World.setCell], fun k _ hk => Below.heap_setCell _ _ _ _ (fun e => hk (by simp [e]))⟩
theorem below_of_grown {B b : Nat} {w w1 : World} (h : w.grownBy w1 (some b)) (hB : B ≤ b) (hw : B ≤ w.heap.size) : Below B w w1 :=
  ⟨h.os, h.tape, h.output, h.size, fun k hk => h.block k (by omega) (by simp; omega)⟩

set_option maxHeartbeats 400000 in
theorem l1In_any (n a b : Int) (w : World) :
    Calls Try.prog 30 #[.int .i64 n, .int .i64 a, .int .i64 b] w fun e w' => e = .returned (.bool (decide (a ≤ n ∧ n ≤ b))) ∧ w' = w := by
  by_cases h1 : a ≤ n
  · by_cases h2 : n ≤ b
    all_goals
      go_enter Try.func30, Try.ntmps30
      go_wp2
      go_ret
      exact ⟨by simp [h1, h2], rfl⟩
  · go_enter Try.func30, Try.ntmps30
    go_wp2
    go_ret
    exact ⟨by simp; omega, rfl⟩

def zerosOf (N : Nat) : List Value := List.replicate N (.int .u8 0) ++ (List.replicate N (.bool false) ++ [.int .i64 0, .slice none 0 0])
def zc56 : Array Value := (zerosOf 3000).toArray
theorem zeroV56 (w : World) : (zeroValue 64).run Try.prog w = .ok (.agg zc56) w := by kernel_rfl
theorem zero56 : zc56.toList = zerosOf 3000 := rfl

theorem zero56_get (i : Nat) : zc56[i]? = (zerosOf 3000)[i]? := by rw [← zero56, Array.getElem?_toList]

theorem zerosOf_data (N i : Nat) (h : i < N) : (zerosOf N)[i]? = some (.int .u8 0) := by
  unfold zerosOf
  rw [List.getElem?_append_left (by rw [List.length_replicate]; exact h), List.getElem?_replicate, if_pos h]
theorem zerosOf_taken (N i : Nat) (h : i < N) : (zerosOf N)[N + i]? = some (.bool false) := by
  unfold zerosOf
  rw [List.getElem?_append_right (by rw [List.length_replicate]; omega), List.length_replicate, Nat.add_sub_cancel_left, List.getElem?_append_left (by rw [List.length_replicate]; exact h), List.getElem?_replicate, if_pos h]
theorem zerosOf_end (N i : Nat) : (zerosOf N)[N + (N + i)]? = ([.int .i64 0, .slice none 0 0] : List Value)[i]? := by
  unfold zerosOf
  rw [List.getElem?_append_right (by rw [List.length_replicate]; omega), List.length_replicate, Nat.add_sub_cancel_left, List.getElem?_append_right (by rw [List.length_replicate]; omega), List.length_replicate, Nat.add_sub_cancel_left]
theorem zerosOf_len (N : Nat) : (zerosOf N).length = N + (N + 2) := by
  unfold zerosOf
  rw [List.length_append, List.length_append, List.length_replicate, List.length_replicate]; rfl
theorem zeros_data (i : Nat) (h : i < 3000) : (zerosOf 3000)[i]? = some (.int .u8 0) := zerosOf_data 3000 i h
theorem zeros_taken (i : Nat) (h : i < 3000) : (zerosOf 3000)[3000 + i]? = some (.bool false) := zerosOf_taken 3000 i h
theorem zeros_cells : (zerosOf 3000)[6001]? = some (.slice none 0 0) := zerosOf_end 3000 1
theorem zeros_len : zc56.size = 6002 := by
  rw [← Array.length_toList, zero56, zerosOf_len]

/-- An arena at block g: its bytes, which of them are taken, how many there are, its cells. -/
structure Arena (w : World) (g : Nat) (d : Nat → UInt8) (t : Nat → Bool) (n : Nat) (cs : Value) : Prop where
  row : ∃ C : Array Value, RowAt w g 64 C ∧ C.size = 6002 ∧ (∀ i, i < 3000 → C[i]? = some (.int .u8 (d i).toNat)) ∧ (∀ i, i < 3000 → C[3000 + i]? = some (.bool (t i))) ∧ C[6000]? = some (.int .i64 n) ∧ C[6001]? = some cs

theorem Arena.new (w : World) (n : Nat) : Arena (w.alloc (.cells (zc56.setIfInBounds 6000 (.int .i64 n)) 64)) w.heap.size (fun _ => 0) (fun _ => false) n (.slice none 0 0) := by
  refine ⟨_, RowAt.new w 64 _, by rw [Array.size_setIfInBounds, zeros_len], fun i hi => ?_, fun i hi => ?_, ?_, ?_⟩
  · rw [Array.getElem?_setIfInBounds_ne (by omega), zero56_get, zeros_data i hi]; rfl
  · rw [Array.getElem?_setIfInBounds_ne (by omega), zero56_get, zeros_taken i hi]
  · rw [Array.getElem?_setIfInBounds_self_of_lt (by rw [zeros_len]; omega)]
  · rw [Array.getElem?_setIfInBounds_ne (by omega), zero56_get, zeros_cells]

set_option maxHeartbeats 1000000 in
theorem heap_none (g n : Nat) (d : Nat → UInt8) (t : Nat → Bool) (w : World) (h : Arena w g d t n (.slice none 0 0)) (hn : n ≤ 3000) :
    Calls Try.prog 28 #[.pointer (some ⟨g, 0, none⟩)] w fun e w' => e = .returned (.agg #[.string ⟨((List.range n).map d).toArray⟩, .slice none 0 0]) ∧ Below w.heap.size w w' := by
  obtain ⟨C, hr, hsz, hd, ht, hs, hc⟩ := h.row
  have hlt := hr.lt
  have cs := (hr.cell 6000).trans hs
  have cc := (hr.cell 6001).trans hc
  go_enter Try.func28, Try.ntmps28
  go_wp2
  refine wp_loop_rounds 1 ?_
  rw [rounds_succ]
  go_wp2
  have hb : Below w.heap.size w (w.alloc (.cells #[.string ⟨#[]⟩, .slice none 0 0] 26)) := (Below.refl _ w).alloc (Nat.le_refl _) _
  have hr1 := hr.below hb hlt
  have hn1 := RowAt.new w 26 #[.string ⟨#[]⟩, .slice none 0 0]
  generalize w.alloc (.cells #[.string ⟨#[]⟩, .slice none 0 0] 26) = w1 at *
  clear cs cc
  have cs := (hr1.cell 6000).trans hs
  have d0 := hn1.cell 0
  have d1 := hn1.cell 1
  simp at d0 d1
  have f0 := hn1.frozen 0
  have f1 := hn1.frozen 1
  have hcv : (convert 22 9 (.slice (some ⟨g, 0, none⟩) n 3000)).run Try.prog w1.drew = .ok (.string ⟨((List.range n).map d).toArray⟩) w1.drew := by
    have := run_convert_bytes_back (P := Try.prog) w1.drew 22 9 5 ⟨g, 0, none⟩ 3000 ((List.range n).map d) Try.underlying22 Try.underlying5 Try.underlying9 ?_
    · simpa using this
    · intro j hj
      have hj' : j < n := by simpa using hj
      rw [show w1.drew.cell? _ = w1.cell? _ from rfl]
      have := (hr1.cell j).trans (hd j (by omega))
      rw [Addr.add_lit, Nat.zero_add]
      simpa using this
  have HR1 : Hid (RowAt w1 g 64 C) := hr1
  have HN1 : Hid (RowAt w1 w.heap.size 26 #[.string ⟨#[]⟩, .slice none 0 0]) := hn1
  have hni : (n : Int) ≤ 3000 := by omega
  clear hr1 hn1 hr hd ht hs hc h
  have hb2 : Below w.heap.size w ((w1.setCell ⟨w.heap.size, 0, none⟩ (.string ⟨((List.range n).map d).toArray⟩)).setCell ⟨w.heap.size, 1, none⟩ (.slice none 0 0)) :=
    (hb.setCell (p := ⟨w.heap.size, 0, none⟩) (Nat.le_refl _) _).setCell (p := ⟨w.heap.size, 1, none⟩) (Nat.le_refl _) _
  have hr2 : RowAt ((w1.setCell ⟨w.heap.size, 0, none⟩ (.string ⟨((List.range n).map d).toArray⟩)).setCell ⟨w.heap.size, 1, none⟩ (.slice none 0 0)) w.heap.size 26 #[.string ⟨((List.range n).map d).toArray⟩, .slice none 0 0] := by
    have := (HN1.out.set 0 (.string ⟨((List.range n).map d).toArray⟩)).set 1 (.slice none 0 0)
    simpa using this
  have e0 := hr2.cell 0
  have e1 := hr2.cell 1
  simp at e0 e1
  go_region
  go_wp2
  refine bodyPost_ret (v := .agg #[.string ⟨((List.range n).map d).toArray⟩, .slice none 0 0]) (by simp [results, Try.results28, go_sem, e0, e1]) rfl ⟨rfl, hb2.drew⟩

def dataZ (n : Nat) : ByteArray := ⟨((List.range n).map fun _ => (0 : UInt8)).toArray⟩

theorem dataZ_size (n : Nat) : (dataZ n).size = n := by
  show (((List.range n).map fun _ => (0 : UInt8)).toArray).size = n
  simp

/-- What a new heap is: its bytes, and whether there is one. -/
def newM (n : Int) : ByteArray × Bool := if 0 ≤ n ∧ n ≤ 3000 then (dataZ n.toNat, true) else (⟨#[]⟩, false)

theorem info5 : (Try.prog.info? 5).map (fun i => (i.zero, i.size, i.bytes)) = some (some (.int .u8 0), 1, 1) := by kernel_rfl

theorem make_bytes (n : Nat) (hn : n ≤ 1048576) : ∃ C : Array Value, (∀ j, j < n → C[j]? = some (.int .u8 0)) ∧ ∀ w, (Instr.makeSlice 22 (.int .i64 n) (.int .i64 n)).run Try.prog w = .ok (.slice (some ⟨w.heap.size, 0, none⟩) n n) (w.alloc (.cells C 5)) := by
  obtain ⟨i0, hi, hz0, hz1, hz2⟩ := info_parts info5
  refine ⟨madeCells #[.int .u8 0] n, fun j hj => ?_, fun w => ?_⟩
  · rw [← Array.getElem?_toList, toList_madeCells_one, List.getElem?_replicate, if_pos hj]
  · have := run_make (P := Try.prog) w 22 5 i0 _ Try.underlying22 hi hz0 .i64 .i64 n n (by omega) (by omega) (by rw [hz2]; omega) (by omega)
    rw [hz1] at this
    simpa [Value.cells] using this

set_option maxHeartbeats 1000000 in
set_option maxRecDepth 100000 in
theorem specNew (n : Int) (w : World) :
    Calls Try.prog 40 #[.int .i64 n] w fun e w' => e = .returned (.tuple #[.agg #[.string (newM n).1, .slice none 0 0], .bool (newM n).2]) ∧ Below w.heap.size w w' := by
  by_cases h : 0 ≤ n ∧ n ≤ 3000
  · obtain ⟨k, hk⟩ : ∃ k : Nat, n = k := ⟨n.toNat, by omega⟩
    subst hk
    have hm : newM (k : Int) = (dataZ k, true) := by unfold newM; rw [if_pos h]; rfl
    rw [hm]
    have d0 : decide (0 ≤ (k : Int) ∧ (k : Int) ≤ 3000) = true := decide_eq_true h
    obtain ⟨C, hC, hmk⟩ := make_bytes k (by omega)
    have hcv : ∀ w : World, (convert 22 9 (.slice (some ⟨w.heap.size, 0, none⟩) k k)).run Try.prog (w.alloc (.cells C 5)) = .ok (.string (dataZ k)) (w.alloc (.cells C 5)) := fun w => by
      have := run_convert_bytes_back (P := Try.prog) (w.alloc (.cells C 5)) 22 9 5 ⟨w.heap.size, 0, none⟩ k ((List.range k).map fun _ => 0) Try.underlying22 Try.underlying5 Try.underlying9 ?_
      · simpa [dataZ] using this
      · intro j hj
        have hj' : j < k := by simpa using hj
        rw [Addr.add_lit, Nat.zero_add, (RowAt.new w 5 C).cell j, hC j hj']
        simp
    have HC : Hid (∀ j, j < k → C[j]? = some (.int .u8 0)) := hC
    clear hC
    go_enter Try.func40, Try.ntmps40
    go_wp2_with fail
    refine (l1In_any k 0 3000 _).mono ?_
    rintro e w1 ⟨rfl, rfl⟩
    rw [d0]
    have hb0 : Below w.heap.size w (w.alloc (.cells #[.string ⟨#[]⟩, .slice none 0 0] 26)) := (Below.refl _ w).alloc (Nat.le_refl _) _
    have hn0 := RowAt.new w 26 #[.string ⟨#[]⟩, .slice none 0 0]
    have hs0 : w.heap.size < (w.alloc (.cells #[.string ⟨#[]⟩, .slice none 0 0] 26)).heap.size := by simp
    generalize w.alloc (.cells #[.string ⟨#[]⟩, .slice none 0 0] 26) = w1 at *
    have hb1 : Below w1.heap.size w1 (w1.alloc (.cells C 5)) := (Below.refl _ w1).alloc (Nat.le_refl _) _
    have hn3 := hn0.below hb1 hs0
    have hm1 := hmk w1
    have hc1 := hcv w1
    clear hmk hcv
    generalize w1.alloc (.cells C 5) = w3 at *
    have HB : Hid (Below w.heap.size w w3) := hb0.trans (hb1.mono (by omega))
    have c0 := hn3.cell 0
    have c1 := hn3.cell 1
    simp at c0 c1
    have f0 := hn3.frozen 0
    have f1 := hn3.frozen 1
    have hr4 : RowAt ((w3.setCell ⟨w.heap.size, 0, none⟩ (.string (dataZ k))).setCell ⟨w.heap.size, 1, none⟩ (.slice none 0 0)) w.heap.size 26 #[.string (dataZ k), .slice none 0 0] := by
      have := (hn3.set 0 (.string (dataZ k))).set 1 (.slice none 0 0)
      simpa using this
    have e0 := hr4.cell 0
    have e1 := hr4.cell 1
    simp at e0 e1
    clear hn3 hr4 hn0
    go_wp2
    exact bodyPost_ret (v := .tuple #[.agg #[.string (dataZ k), .slice none 0 0], .bool true]) (by simp [results, Try.results40, go_sem, e0, e1]) rfl ⟨rfl, (HB.out.setCell (p := ⟨w.heap.size, 0, none⟩) (Nat.le_refl _) _).setCell (p := ⟨w.heap.size, 1, none⟩) (Nat.le_refl _) _⟩
  · have hm : newM n = (⟨#[]⟩, false) := by unfold newM; rw [if_neg h]
    rw [hm]
    have d0 : decide (0 ≤ n ∧ n ≤ 3000) = false := decide_eq_false h
    go_enter Try.func40, Try.ntmps40
    go_wp2_with fail
    refine (l1In_any n 0 3000 _).mono ?_
    rintro e w1 ⟨rfl, rfl⟩
    rw [d0]
    go_wp2
    exact bodyPost_ret (v := .tuple #[.agg #[.string ⟨#[]⟩, .slice none 0 0], .bool false]) (by simp [results, Try.results40, go_sem]) rfl ⟨rfl, (Below.refl _ w).alloc (Nat.le_refl _) _⟩
end Go.Proofs.Ytjjpplpdpldkeaa
