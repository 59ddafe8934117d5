/- laws.toStringS at this dump: a new row that reads as the same strings. -/
import Derived.Test.YtfphkppcfoooaagDoorDec
namespace Go.Proofs.YtfphkppcfoooaagDoor
open Go.RowKit

theorem info9 : (Tryd.prog.info? 9).map (fun i => (i.zero, i.size, i.bytes)) = some (some (.string ⟨#[]⟩), 1, 16) := by kernel_rfl

theorem make_strs (n : Nat) (hn : n ≤ 1048576) : ∃ C : Array Value, C.size = n ∧ ∀ w, (Instr.makeSlice 33 (.int .i64 n) (.int .i64 n)).run Tryd.prog w = .ok (.slice (some ⟨w.heap.size, 0, none⟩) n n) (w.alloc (.cells C 9)) := by
  obtain ⟨i0, hi, hz0, hz1, hz2⟩ := info_parts info9
  refine ⟨madeCells (Value.string ⟨#[]⟩).cells (n * i0.size), by rw [size_madeCells, hz1, Nat.mul_one], fun w => ?_⟩
  have := run_make (P := Tryd.prog) w 33 9 i0 _ Tryd.underlying33 hi hz0 .i64 .i64 n n (by omega) (by omega) (by rw [hz2]; omega) (by omega)
  simpa using this

/-- The row g holds the cells C. -/
def RowAt (w : World) (g : Nat) (T : TypeId) (C : Array Value) : Prop := w.heap[g]? = some (.cells C T (0, 0))

theorem RowAt.cell {w : World} {g : Nat} {T : TypeId} {C : Array Value} (h : RowAt w g T C) (j : Nat) : w.cell? ⟨g, j, none⟩ = C[j]? := Lib.cell_of_heap h j
theorem RowAt.frozen {w : World} {g : Nat} {T : TypeId} {C : Array Value} (h : RowAt w g T C) (j : Nat) : w.frozen? ⟨g, j, none⟩ = false := Lib.frozen_of_heap h j
theorem RowAt.set {w : World} {g : Nat} {T : TypeId} {C : Array Value} (h : RowAt w g T C) (j : Nat) (v : Value) : RowAt (w.setCell ⟨g, j, none⟩ v) g T (C.setIfInBounds j v) := by
  unfold RowAt at *
  simp [World.setCell, Array.getElem?_modify, h]
theorem RowAt.lt {w : World} {g : Nat} {T : TypeId} {C : Array Value} (h : RowAt w g T C) : g < w.heap.size := (Array.getElem?_eq_some_iff.1 h).1
theorem RowAt.new (w : World) (T : TypeId) (C : Array Value) : RowAt (w.alloc (.cells C T)) w.heap.size T C := by
  show (w.heap.push (.cells C T (0, 0)))[w.heap.size]? = _
  simp

set_option maxHeartbeats 1000000 in
theorem copy_any (a : Option Addr) (b off n c : Nat) (ss : List ByteArray) (w : World) (h : StrsIn w a b off n ss) (hn : n ≤ 1048576) :
    Calls Tryd.prog 19 #[.slice a n c] w fun e w' => e = .returned (.slice (some ⟨w.heap.size, 0, none⟩) n n) ∧ StrsIn w' (some ⟨w.heap.size, 0, none⟩) w.heap.size 0 n ss ∧ Below w.heap.size w w' ∧ w.heap.size < w'.heap.size := by
  obtain ⟨C, hC, hmk⟩ := make_strs n hn
  have HC : Hid (C.size = n) := hC
  clear hC
  go_enter Tryd.func19, Tryd.ntmps19
  go_wp2
  go_loopw [4] (fun i wr => ∃ (k : Nat) (D : Array Value), k ≤ n ∧ i = .int .i64 k ∧ D.size = n ∧ RowAt wr w.heap.size 9 D ∧ (∀ j, j < k → D[j]? = some (.string (ss.getD j ByteArray.empty))) ∧ Below w.heap.size w wr) (fun i _ => n - (intOf i).toNat)
  case atStart => exact ⟨0, C, by omega, rfl, HC.out, RowAt.new _ _ _, fun j hj => by omega, (Below.refl _ _).alloc (Nat.le_refl _) _⟩
  case round =>
    obtain ⟨k, D, hk, rfl, hD, hrow, hpre, bk⟩ := hrel
    have HP : Hid (∀ j, j < k → D[j]? = some (.string (ss.getD j ByteArray.empty))) := hpre
    have HD : Hid (D.size = n) := hD
    clear hpre hmk
    by_cases hlt : k < n
    · obtain rfl := h.addr (by omega)
      have hlow := h.low (by omega)
      have hc : wr.cell? ⟨b, off + k, none⟩ = some (.string (ss.getD k ByteArray.empty)) := (bk.cell (p := ⟨b, off + k, none⟩) hlow).trans (h.cell k hlt)
      have hg : wr.cell? ⟨w.heap.size, k, none⟩ = some (D[k]'(by omega)) := by rw [hrow.cell k]; simp [hD, hlt]
      have hfz := hrow.frozen k
      have HR : Hid (RowAt (wr.setCell ⟨w.heap.size, k, none⟩ (.string (ss.getD k ByteArray.empty))) w.heap.size 9 (D.setIfInBounds k (.string (ss.getD k ByteArray.empty)))) := hrow.set k _
      generalize hs : ss.getD k ByteArray.empty = s at *
      have Hs : Hid (ss.getD k ByteArray.empty = s) := hs
      generalize hDk : D[k]'(by omega) = old at *
      clear hs hDk hD hrow
      go_wp2
      go_roundw
      case rel =>
        refine ⟨k + 1, _, by omega, by go_num, ?_, HR.out, ?_, bk.setCell (p := ⟨w.heap.size, k, none⟩) (Nat.le_refl _) _⟩
        · rw [Array.size_setIfInBounds]; exact HD.out
        · intro j hj
          rw [Array.getElem?_setIfInBounds]
          by_cases hjk : k = j
          · subst hjk
            rw [if_pos rfl, if_pos (by rw [HD.out]; exact hlt), Hs.out]
          · rw [if_neg hjk]
            exact HP.out j (by omega)
      case measure => simp [intOf]; omega
    · obtain rfl : k = n := by omega
      go_wp2
      go_ret
      refine ⟨rfl, ⟨h.len, fun _ => rfl, fun _ => hrow.lt, fun i hi => ?_, h.fit⟩, bk, hrow.lt⟩
      rw [Nat.zero_add, hrow.cell i]
      exact HP.out i hi

set_option maxHeartbeats 1000000 in
/-- The law's walk: true; nothing that was there has turned. -/
theorem law_walk (a : Option Addr) (b off n c : Nat) (ss : List ByteArray) (w : World) (h : StrsIn w a b off n ss) (hn : n ≤ 9223372036854775807) (ht : Tab w) (hw : 0 < w.heap.size) :
    Calls Tryd.prog 5 #[.slice a n c] w fun e w' => e = .returned (.bool true) ∧ Below w.heap.size w w' := by
  go_enter Tryd.func5, Tryd.ntmps5
  go_wp2_with fail
  refine (sz_any a b off n c ss 1048576 w h hn (by omega) (by omega)).mono ?_
  rintro e w0 ⟨⟨r, rfl, hr⟩, rfl⟩
  by_cases hneg : r < 0
  · go_wp2
    go_ret
    exact ⟨rfl, Below.refl _ _⟩
  · have hn2 : n ≤ 1048576 := by omega
    clear hr
    go_wp2_with fail
    refine (copy_any a b off n c ss w0 h hn2).mono ?_
    rintro e w1 ⟨rfl, g1, b1, s1⟩
    go_wp2_with fail
    refine (specText _ _ _ _ _ ss w1 g1 hn2).mono ?_
    rintro e w2 ⟨rfl, b2⟩
    have b02 := b1.trans (b2.mono (Nat.le_of_lt s1))
    have s2 := b2.size
    have h2 := strs_below h b02
    go_wp2_with fail
    refine (copy_any a b off n c ss w2 h2 hn2).mono ?_
    rintro e w3 ⟨rfl, g3, b3, s3⟩
    have b03 := b02.trans (b3.mono (by omega))
    go_wp2_with fail
    refine (implText _ _ _ _ _ ss w3 g3 hn2 (ht.below b03 hw) (by omega)).mono ?_
    rintro e w4 ⟨rfl, b4⟩
    have b04 := b03.trans (b4.mono (by omega))
    have s4 := b4.size
    have h4 := strs_below h b04
    have g4 := strs_below g3 b4
    go_wp2_with fail
    refine (copy_any a b off n c ss w4 h4 hn2).mono ?_
    rintro e w5 ⟨rfl, g5, b5, s5⟩
    have g45 := strs_below g4 b5
    go_wp2_with fail
    refine (eq_any _ _ _ _ _ _ _ _ _ ss w5 g45 g5 hn2).mono ?_
    rintro e w6 ⟨rfl, q, rfl⟩
    go_wp2
    go_ret
    exact ⟨rfl, below_drewN (b04.trans (b5.mono (by omega))) q⟩
end Go.Proofs.YtfphkppcfoooaagDoor
