/- Cells of a heap in memory: copies of them, and whether two rows are one. -/
import Derived.Test.YtjjpplpdpldkeaaHMath
import Derived.Lib.SmallJoins
namespace Go.Proofs.Ytjjpplpdpldkeaa
open Go.RowKit Go.Sort

theorem ret_bool {a b : Bool} (h : a = b) : Ending.returned (.bool a) = .returned (.bool b) := by rw [h]
theorem ret_int {a b : Int} (h : a = b) : Ending.returned (.int .i64 a) = .returned (.int .i64 b) := by rw [h]

/-- The four cells of a cell. -/
structure ClAt (w : World) (b o : Nat) (x : Cl) : Prop where
  c0 : w.cell? ⟨b, o, none⟩ = some (.int .i64 x.pos)
  c1 : w.cell? ⟨b, o + 1, none⟩ = some (.int .i64 x.len)
  c2 : w.cell? ⟨b, o + 2, none⟩ = some (.int .i64 x.gen)
  c3 : w.cell? ⟨b, o + 3, none⟩ = some (.bool x.live)

structure CellsIn (w : World) (a : Option Addr) (b off n : Nat) (L : List Cl) : Prop where
  len : L.length = n
  addr : 0 < n → a = some ⟨b, off, none⟩
  low : 0 < n → b < w.heap.size
  cell : ∀ i, i < n → ClAt w b (off + i * 4) (L.getD i cl0)

theorem cl_below {w w' : World} {b o B : Nat} {x : Cl} (h : ClAt w b o x) (hl : b < B) (hb : Below B w w') : ClAt w' b o x :=
  ⟨(hb.cell (p := ⟨b, o, none⟩) hl).trans h.c0, (hb.cell (p := ⟨b, o + 1, none⟩) hl).trans h.c1, (hb.cell (p := ⟨b, o + 2, none⟩) hl).trans h.c2, (hb.cell (p := ⟨b, o + 3, none⟩) hl).trans h.c3⟩

theorem cells_below {w w' : World} {a : Option Addr} {b off n : Nat} {L : List Cl} (h : CellsIn w a b off n L) (hb : Below w.heap.size w w') : CellsIn w' a b off n L :=
  ⟨h.len, h.addr, fun h0 => by have := h.low h0; have := hb.size; omega, fun i hi => cl_below (h.cell i hi) (h.low (by omega)) hb⟩

abbrev clV (x : Cl) : Array Value := #[.int .i64 x.pos, .int .i64 x.len, .int .i64 x.gen, .bool x.live]

theorem info62 : (Try.prog.info? 35).map (fun i => (i.zero, i.size, i.bytes)) = some (some (.agg #[.int .i64 0, .int .i64 0, .int .i64 0, .bool false]), 4, 32) := by kernel_rfl

theorem make_cells (n : Nat) (hn : n ≤ 1048576) : ∃ C : Array Value, C.size = n * 4 ∧ ∀ w, (Instr.makeSlice 24 (.int .i64 n) (.int .i64 n)).run Try.prog w = .ok (.slice (some ⟨w.heap.size, 0, none⟩) n n) (w.alloc (.cells C 35)) := by
  obtain ⟨i0, hi, hz0, hz1, hz2⟩ := info_parts info62
  refine ⟨madeCells (Value.agg #[.int .i64 0, .int .i64 0, .int .i64 0, .bool false]).cells (n * i0.size), by rw [size_madeCells, hz1], fun w => ?_⟩
  have := run_make (P := Try.prog) w 24 35 i0 _ Try.underlying24 hi hz0 .i64 .i64 n n (by omega) (by omega) (by rw [hz2]; omega) (by omega)
  simpa using this

abbrev put4 (w : World) (g o : Nat) (v0 v1 v2 v3 : Value) : World := (((w.setCell ⟨g, o, none⟩ v0).setCell ⟨g, o + 1, none⟩ v1).setCell ⟨g, o + 2, none⟩ v2).setCell ⟨g, o + 3, none⟩ v3

theorem put4_other (w : World) (g o : Nat) (v0 v1 v2 v3 : Value) (j : Nat) (h : j < o ∨ o + 3 < j) : (put4 w g o v0 v1 v2 v3).cell? ⟨g, j, none⟩ = w.cell? ⟨g, j, none⟩ := by
  have e : ∀ (w : World) (t : Nat) (v : Value), t ≠ j → (w.setCell ⟨g, t, none⟩ v).cell? ⟨g, j, none⟩ = w.cell? ⟨g, j, none⟩ := fun w t v ht => World.cell?_setCell_other w _ _ _ (fun e => ht (congrArg Addr.off e))
  unfold put4
  rw [e _ _ _ (by omega), e _ _ _ (by omega), e _ _ _ (by omega), e _ _ _ (by omega)]

theorem put4_row {w : World} {g o : Nat} {T : TypeId} {D : Array Value} (h : RowAt w g T D) (hD : o + 3 < D.size) (v0 v1 v2 v3 : Value) :
    ∃ D', D'.size = D.size ∧ RowAt (put4 w g o v0 v1 v2 v3) g T D' ∧ D'[o]? = some v0 ∧ D'[o + 1]? = some v1 ∧ D'[o + 2]? = some v2 ∧ D'[o + 3]? = some v3 := by
  refine ⟨_, ?_, (((h.set o v0).set (o + 1) v1).set (o + 2) v2).set (o + 3) v3, ?_, ?_, ?_, ?_⟩
  · simp
  all_goals
    simp only [Array.getElem?_setIfInBounds, Array.size_setIfInBounds]
    simp
    omega


def Pre (w : World) (g : Nat) (L : List Cl) (k : Nat) : Prop := ∀ i, i < k → ClAt w g (i * 4) (L.getD i cl0)

theorem pre_put {w : World} {g k : Nat} {D : Array Value} {L : List Cl} {x : Cl} (hrow : RowAt w g 35 D) (hD : k * 4 + 3 < D.size) (hpre : Pre w g L k) (hx : L.getD k cl0 = x) :
    Pre (put4 w g (k * 4) (.int .i64 x.pos) (.int .i64 x.len) (.int .i64 x.gen) (.bool x.live)) g L (k + 1) := by
  intro i hik
  by_cases hki : i = k
  · subst hki
    rw [hx]
    obtain ⟨D', _, hr, e0, e1, e2, e3⟩ := put4_row hrow hD (.int .i64 x.pos) (.int .i64 x.len) (.int .i64 x.gen) (.bool x.live)
    exact ⟨(hr.cell _).trans e0, (hr.cell _).trans e1, (hr.cell _).trans e2, (hr.cell _).trans e3⟩
  · have a3 := hpre i (by omega)
    exact ⟨(put4_other _ _ _ _ _ _ _ _ (by omega)).trans a3.c0, (put4_other _ _ _ _ _ _ _ _ (by omega)).trans a3.c1, (put4_other _ _ _ _ _ _ _ _ (by omega)).trans a3.c2, (put4_other _ _ _ _ _ _ _ _ (by omega)).trans a3.c3⟩

theorem pre_below {w w' : World} {g : Nat} {L : List Cl} {k : Nat} (h : Pre w g L k) (hl : g < w.heap.size) (hb : Below w.heap.size w w') : Pre w' g L k := fun i hi => cl_below (h i hi) hl hb

end Go.Proofs.Ytjjpplpdpldkeaa
