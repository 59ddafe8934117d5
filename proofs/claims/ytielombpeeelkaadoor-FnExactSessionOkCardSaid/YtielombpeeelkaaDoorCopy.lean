/- laws.toStringS at this dump: a new row that reads as the same strings. -/
import Derived.Test.YtielombpeeelkaaDoorDec
namespace Go.Proofs.YtielombpeeelkaaDoor
open Go.RowKit

theorem info9 : (Tryd.prog.info? 9).map (fun i => (i.zero, i.size, i.bytes)) = some (some (.string ⟨#[]⟩), 1, 16) := by kernel_rfl

theorem make_strs (n : Nat) (hn : n ≤ 2097152) : ∃ C : Array Value, C.size = n ∧ ∀ w, (Instr.makeSlice 30 (.int .i64 n) (.int .i64 n)).run Tryd.prog w = .ok (.slice (some ⟨w.heap.size, 0, none⟩) n n) (w.alloc (.cells C 9)) := by
  obtain ⟨i0, hi, hz0, hz1, hz2⟩ := info_parts info9
  refine ⟨madeCells (Value.string ⟨#[]⟩).cells (n * i0.size), by rw [size_madeCells, hz1, Nat.mul_one], fun w => ?_⟩
  have := run_make (P := Tryd.prog) w 30 9 i0 _ Tryd.underlying30 hi hz0 .i64 .i64 n n (by omega) (by omega) (by rw [hz2]; omega) (by omega)
  simpa using this

/-- The row g holds the cells C. -/
def RowAt (w : World) (g : Nat) (T : TypeId) (C : Array Value) : Prop := w.heap[g]? = some (.cells C T (0, 0))

theorem RowAt.cell {w : World} {g : Nat} {T : TypeId} {C : Array Value} (h : RowAt w g T C) (j : Nat) : w.cell? ⟨g, j, none⟩ = C[j]? := Lib.cell_of_heap h j
theorem RowAt.frozen {w : World} {g : Nat} {T : TypeId} {C : Array Value} (h : RowAt w g T C) (j : Nat) : w.frozen? ⟨g, j, none⟩ = false := Lib.frozen_of_heap h j
theorem RowAt.set {w : World} {g : Nat} {T : TypeId} {C : Array Value} (h : RowAt w g T C) (j : Nat) (v : Value) : RowAt (w.setCell ⟨g, j, none⟩ v) g T (C.setIfInBounds j v) := by
  unfold RowAt at *
  simp [World.setCell, Array.getElem?_modify, h]
theorem RowAt.lt {w : World} {g : Nat} {T : TypeId} {C : Array Value} (h : RowAt w g T C) : g < w.heap.size := (Array.getElem?_eq_some_iff.1 h).1
theorem RowAt.new (w : World) (T : TypeId) (C : Array Value) : RowAt (w.alloc (.cells C T)) w.heap.size T C := by
  show (w.heap.push (.cells C T (0, 0)))[w.heap.size]? = _
  simp

set_option maxHeartbeats 1000000 in
theorem copy_any (a : Option Addr) (b off n c : Nat) (ss : List ByteArray) (w : World) (h : StrsIn w a b off n ss) (hn : n ≤ 2097152) :
    Calls Tryd.prog 58 #[.slice a n c] w fun e w' => e = .returned (.slice (some ⟨w.heap.size, 0, none⟩) n n) ∧ StrsIn w' (some ⟨w.heap.size, 0, none⟩) w.heap.size 0 n ss ∧ Below w.heap.size w w' ∧ w.heap.size < w'.heap.size := by
  obtain ⟨C, hC, hmk⟩ := make_strs n hn
  have HC : Hid (C.size = n) := hC
  clear hC
  go_enter Tryd.func58, Tryd.ntmps58
  go_wp2
  go_loopw [4] (fun i wr => ∃ (k : Nat) (D : Array Value), k ≤ n ∧ i = .int .i64 k ∧ D.size = n ∧ RowAt wr w.heap.size 9 D ∧ (∀ j, j < k → D[j]? = some (.string (ss.getD j ByteArray.empty))) ∧ Below w.heap.size w wr) (fun i _ => n - (intOf i).toNat)
  case atStart => exact ⟨0, C, by omega, rfl, HC.out, RowAt.new _ _ _, fun j hj => by omega, (Below.refl _ _).alloc (Nat.le_refl _) _⟩
  case round =>
    obtain ⟨k, D, hk, rfl, hD, hrow, hpre, bk⟩ := hrel
    have HP : Hid (∀ j, j < k → D[j]? = some (.string (ss.getD j ByteArray.empty))) := hpre
    have HD : Hid (D.size = n) := hD
    clear hpre hmk
    by_cases hlt : k < n
    · obtain rfl := h.addr (by omega)
      have hlow := h.low (by omega)
      have hc : wr.cell? ⟨b, off + k, none⟩ = some (.string (ss.getD k ByteArray.empty)) := (bk.cell (p := ⟨b, off + k, none⟩) hlow).trans (h.cell k hlt)
      have hg : wr.cell? ⟨w.heap.size, k, none⟩ = some (D[k]'(by omega)) := by rw [hrow.cell k]; simp [hD, hlt]
      have hfz := hrow.frozen k
      have HR : Hid (RowAt (wr.setCell ⟨w.heap.size, k, none⟩ (.string (ss.getD k ByteArray.empty))) w.heap.size 9 (D.setIfInBounds k (.string (ss.getD k ByteArray.empty)))) := hrow.set k _
      generalize hs : ss.getD k ByteArray.empty = s at *
      have Hs : Hid (ss.getD k ByteArray.empty = s) := hs
      generalize hDk : D[k]'(by omega) = old at *
      clear hs hDk hD hrow
      go_wp2
      go_roundw
      case rel =>
        refine ⟨k + 1, _, by omega, by go_num, ?_, HR.out, ?_, bk.setCell (p := ⟨w.heap.size, k, none⟩) (Nat.le_refl _) _⟩
        · rw [Array.size_setIfInBounds]; exact HD.out
        · intro j hj
          rw [Array.getElem?_setIfInBounds]
          by_cases hjk : k = j
          · subst hjk
            rw [if_pos rfl, if_pos (by rw [HD.out]; exact hlt), Hs.out]
          · rw [if_neg hjk]
            exact HP.out j (by omega)
      case measure => simp [intOf]; omega
    · obtain rfl : k = n := by omega
      go_wp2
      go_ret
      refine ⟨rfl, ⟨h.len, fun _ => rfl, fun _ => hrow.lt, fun i hi => ?_, h.fit⟩, bk, hrow.lt⟩
      rw [Nat.zero_add, hrow.cell i]
      exact HP.out i hi

end Go.Proofs.YtielombpeeelkaaDoor
