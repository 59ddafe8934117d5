/- laws.toStringS at this dump: a new row that reads as the same strings. -/
import Derived.Test.YtcgeafdakaeicaaDoorDec
namespace Go.Proofs.YtcgeafdakaeicaaDoor
open Go.RowKit

theorem info9 : (Tryd.prog.info? 9).map (fun i => (i.zero, i.size, i.bytes)) = some (some (.string ⟨#[]⟩), 1, 16) := by kernel_rfl

theorem make_strs (n : Nat) (hn : n ≤ 1048576) : ∃ C : Array Value, C.size = n ∧ ∀ w, (Instr.makeSlice 67 (.int .i64 n) (.int .i64 n)).run Tryd.prog w = .ok (.slice (some ⟨w.heap.size, 0, none⟩) n n) (w.alloc (.cells C 9)) := by
  obtain ⟨i0, hi, hz0, hz1, hz2⟩ := info_parts info9
  refine ⟨madeCells (Value.string ⟨#[]⟩).cells (n * i0.size), by rw [size_madeCells, hz1, Nat.mul_one], fun w => ?_⟩
  have := run_make (P := Tryd.prog) w 67 9 i0 _ Tryd.underlying67 hi hz0 .i64 .i64 n n (by omega) (by omega) (by rw [hz2]; omega) (by omega)
  simpa using this

/-- The row g holds the cells C. -/
def RowAt (w : World) (g : Nat) (T : TypeId) (C : Array Value) : Prop := w.heap[g]? = some (.cells C T (0, 0))

theorem RowAt.cell {w : World} {g : Nat} {T : TypeId} {C : Array Value} (h : RowAt w g T C) (j : Nat) : w.cell? ⟨g, j, none⟩ = C[j]? := Lib.cell_of_heap h j
theorem RowAt.frozen {w : World} {g : Nat} {T : TypeId} {C : Array Value} (h : RowAt w g T C) (j : Nat) : w.frozen? ⟨g, j, none⟩ = false := Lib.frozen_of_heap h j
theorem RowAt.set {w : World} {g : Nat} {T : TypeId} {C : Array Value} (h : RowAt w g T C) (j : Nat) (v : Value) : RowAt (w.setCell ⟨g, j, none⟩ v) g T (C.setIfInBounds j v) := by
  unfold RowAt at *
  simp [World.setCell, Array.getElem?_modify, h]
theorem RowAt.lt {w : World} {g : Nat} {T : TypeId} {C : Array Value} (h : RowAt w g T C) : g < w.heap.size := (Array.getElem?_eq_some_iff.1 h).1
theorem RowAt.new (w : World) (T : TypeId) (C : Array Value) : RowAt (w.alloc (.cells C T)) w.heap.size T C := by
  show (w.heap.push (.cells C T (0, 0)))[w.heap.size]? = _
  simp

end Go.Proofs.YtcgeafdakaeicaaDoor
