/- What the reading of a heap that came in gives. -/
import Derived.Test.YtapdoechmnjaeaaGreatDoorHp1
import Derived.ProofKit
import Derived.Lib.SmallJoins
import Derived.OpenShut
import Derived.ChangeOld
import Derived.Deep.Slices
namespace Go.Proofs.YtapdoechmnjaeaaGreatDoor.Hp
open Go.ChangeShapes Go.WideShapes Go.ChangeAt Go.RowKit Go.Deep
theorem own : ownKnob Tryz.prog.godebug = none := by kernel_rfl
theorem laidOut : laidOutB Tryz.prog = true := by kernel_rfl
theorem cells2 : Tryz.prog.cellsOf 2 = 1 := by kernel_rfl
theorem cells4 : Tryz.prog.cellsOf 4 = 1 := by kernel_rfl
theorem cells9 : Tryz.prog.cellsOf 9 = 1 := by kernel_rfl
theorem cells32 : Tryz.prog.cellsOf 51 = 2 := by kernel_rfl
theorem cells83 : Tryz.prog.cellsOf 161 = 4 := by kernel_rfl

set_option maxHeartbeats 1000000 in
set_option maxRecDepth 100000 in
theorem cells_of_open {H : Type} {enc : TypeId × Value → H} {W : World} {fuel : Nat} {v : Value} {y : DataW H × List MemPlace}
    (hf : DataW.trod enc Tryz.prog W 0 (fun _ => true) true fuel 49 [v] = some y) :
    ∃ a b off n c L, v = .slice a n c ∧ CellsIn W a b off n L ∧ n ≤ 9223372036854775807 ∧ ∀ i, i < n → Fit (L.getD i cl0) := by
  rcases open_slice Tryz.underlying49 hf with ⟨hcs, _⟩ | ⟨x, l, c, m, n, D, Pl, hcs, _, hl, hm, hmm, _, hx⟩
  · simp at hcs
    exact ⟨none, 0, 0, 0, 0, [], hcs, ⟨rfl, fun h => by omega, fun h => by omega, fun i hi => by omega⟩, by omega, fun i hi => by omega⟩
  · simp at hcs
    simp only [if_true] at hmm
    rw [hmm] at hx
    have hm' : c ≤ 9223372036854775807 := by simpa [maxLen] using hm
    by_cases h0 : l = 0
    · subst h0
      exact ⟨some x, 0, 0, 0, c, [], hcs, ⟨rfl, fun h => by omega, fun h => by omega, fun i hi => by omega⟩, by omega, fun i hi => by omega⟩
    · obtain ⟨xb, xo, spot⟩ := x
      rw [cells83] at hx
      have hspot : spot = none := by
        obtain ⟨cs', h1, _⟩ := hx 0 (by omega)
        obtain ⟨_, h2, h3⟩ := World.cells?_some h1
        have := h3 0 (by omega)
        rw [List.getElem?_eq_getElem (by omega)] at this
        simpa [Addr.add] using World.cell?_spot this
      subst hspot
      have each : ∀ i, i < l → ∃ y : Cl, ClAt W xb (xo + i * 4) y ∧ Fit y := fun i hi => by
        obtain ⟨cs', h1, h2⟩ := hx i (by omega)
        obtain ⟨_, h3, h4⟩ := World.cells?_some h1
        obtain ⟨y0, y1, y2, y3, q, _, _, t0, t1, t2, t3⟩ := Go.Joins.trod_struct4 Tryz.underlying161 h2
        match cs', h3, h4, t0, t1, t2, t3 with
        | [v0, v1, v2, v3], _, h4, t0, t1, t2, t3 =>
          simp only [cells2, cells4] at t0 t1 t2 t3
          obtain ⟨n0, e0, _, f0⟩ := DataW.trod_int Tryz.underlying2 t0
          obtain ⟨n1, e1, _, f1⟩ := DataW.trod_int Tryz.underlying2 t1
          obtain ⟨n2, e2, _, f2⟩ := DataW.trod_int Tryz.underlying2 t2
          obtain ⟨n3, e3, _⟩ := DataW.trod_bool Tryz.underlying4 t3
          simp at e0 e1 e2 e3
          subst e0 e1 e2 e3
          have g : ∀ j, j < 4 → W.cell? ⟨xb, xo + i * 4 + j, none⟩ = [Value.int .i64 n0, .int .i64 n1, .int .i64 n2, .bool n3][j]? := fun j hj => by
            rw [← h4 j hj, Addr.add_lit, Addr.add_lit]
          refine ⟨⟨n0, n1, n2, n3⟩, ⟨g 0 (by omega), g 1 (by omega), g 2 (by omega), g 3 (by omega)⟩, ?_⟩
          exact ⟨bounds_i64 f0, bounds_i64 f1, bounds_i64 f2⟩
      obtain ⟨f, hfm⟩ := @choose_lt Cl ⟨cl0⟩ l _ each
      have hget : ∀ i, i < l → ((List.range l).map fun i => f i).getD i cl0 = f i := fun i hi => by
        simp [List.getD, hi]
      refine ⟨some ⟨xb, xo, none⟩, xb, xo, l, c, (List.range l).map fun i => f i, hcs, ⟨by simp, fun _ => rfl, fun _ => block_lt_of_cell (hfm 0 (by omega)).1.c0, fun i hi => ?_⟩, by omega, fun i hi => ?_⟩
      · rw [hget i hi]
        exact (hfm i hi).1
      · rw [hget i hi]
        exact (hfm i hi).2

set_option maxHeartbeats 1000000 in
set_option maxRecDepth 100000 in
/-- A heap that came in: its bytes, its cells. -/
theorem heap_of_open {H : Type} {enc : TypeId × Value → H} {W : World} {r : Reach} {b0 : Nat} {v : Value} {d : DataW H} {p : List MemPlace}
    (hv : Value.okWide Tryz.prog W r b0 51 v) (h : DataW.Trod enc Tryz.prog W 0 (fun _ => true) true 51 v d p) :
    ∃ s a b off n c L, v = .agg #[.string s, .slice a n c] ∧ CellsIn W a b off n L ∧ s.size ≤ 9223372036854775807 ∧ n ≤ 9223372036854775807 ∧ ∀ i, i < n → Fit (L.getD i cl0) := by
  obtain ⟨v0, v1, y0, y1, m, rfl, _, _, t0, t1⟩ := Go.Joins.open_agg2 Tryz.underlying51 (by kernel_rfl) cells32 hv h
  obtain ⟨s, e0, _, hs⟩ := DataW.trod_string Tryz.underlying9 t0
  obtain ⟨a, b, off, n, c, L, rfl, hc, hn, hfit⟩ := cells_of_open t1
  simp at e0
  subst e0
  exact ⟨s, a, b, off, n, c, L, rfl, hc, by simpa [maxLen] using hs, hn, hfit⟩
end Go.Proofs.YtapdoechmnjaeaaGreatDoor.Hp
