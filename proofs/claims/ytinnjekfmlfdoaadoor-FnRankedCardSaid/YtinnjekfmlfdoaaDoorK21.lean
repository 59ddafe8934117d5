/- The rows of Ranked: what the tables hold, and the reading of ranks. -/
import Derived.Test.YtinnjekfmlfdoaaDoorK20
import Derived.ProofKit
import Derived.SevenTiedAt
import Derived.OpenShut
import Derived.ChangeOld
import Derived.ChangeMaps5
import Derived.LaidMore
import Derived.LaidSub
import Derived.ChangeSame
import Derived.HandedShaped
import Derived.Lib.LaidTab
import Derived.Shelf.Vars
import Derived.Deep.Slices
import Derived.Lib.SmallJoins
namespace Go.Proofs.YtinnjekfmlfdoaaDoor
open Go.ChangeShapes Go.WideShapes Go.ChangeAt Go.WideMaps Go.WideElems Go.RowKit Go.Deep

theorem own : ownKnob Tryd.prog.godebug = none := by kernel_rfl
theorem laidOut : laidOutB Tryd.prog = true := by kernel_rfl
theorem cells2 : Tryd.prog.cellsOf 2 = 1 := by kernel_rfl
theorem cells9 : Tryd.prog.cellsOf 9 = 1 := by kernel_rfl
theorem cells49 : Tryd.prog.cellsOf 49 = 2 := by kernel_rfl
theorem gPow1 : Tryd.prog.globalNamed "internal/strconv.uint64pow10" = some 1 := by kernel_rfl
theorem gPowType : (Tryd.prog.globals[1]?).map (·.type) = some 102 := by kernel_rfl

def laidR : List (String × DataW Unit) := Rows.fnExactRankedRow.laid

set_option maxRecDepth 100000 in
theorem tab_of_laidR {W : World} (h : laidMetH Tryd.prog laidR W) : Tab W := by
  have h1 := h.filter (fun x => x.1 == "internal/strconv.uint64pow10")
  have e : laidR.filter (fun x => x.1 == "internal/strconv.uint64pow10") = [("internal/strconv.uint64pow10", Lib.tabData .u64 Lib.pow10Tab)] := by kernel_rfl
  rw [e, MakeChecks.laidMetH_plain _ _ _ (by kernel_rfl)] at h1
  exact Lib.tabIs_of_head gPow1 gPowType Tryd.underlying102 Tryd.underlying84 (by kernel_rfl) (by kernel_rfl) h1

theorem two_of_tab {W : World} (h : Tab W) : 2 ≤ W.heap.size := by
  have hlt : 1 < W.heap.size := block_lt_of_cell (h.cell gPow1 0 (by decide))
  omega

theorem door_met (os : Os) (args : Array Value) : laidMetH Tryd.prog laidR ((World.doorLaid Tryd.prog 4001 os).forCall (fun _ _ => 0) ⟨#[], args, []⟩).memory :=
  laidMetH_of_parts3 (fuel := 8) (laidMet_of_run' 8 (by kernel_rfl) (by kernel_rfl)) (by kernel_rfl) (by kernel_rfl)

set_option maxHeartbeats 1000000 in
set_option maxRecDepth 100000 in
theorem ranks_of_open {H : Type} {enc : TypeId × Value → H} {W : World} {v : Value} {d : DataW H} {p : List MemPlace}
    (h : DataW.Trod enc Tryd.prog W 0 (fun _ => true) true 31 v d p) (hv : ∃ a n c, v = .slice a n c) :
    ∃ a b off n c L, v = .slice a n c ∧ RanksIn W a b off n L ∧ n ≤ 9223372036854775807 ∧ FitL L ∧ ∀ i, i < n → (L.getD i rk0).m.size ≤ 9223372036854775807 := by
  obtain ⟨a0, n0, c0, rfl⟩ := hv
  obtain ⟨fuel, hf⟩ := h
  rcases open_slice Tryd.underlying31 hf with ⟨hcs, _⟩ | ⟨x, l, c, m, n, D, Pl, hcs, _, hl, hm, hmm, _, hx⟩
  · simp [Value.cells] at hcs
    obtain ⟨rfl, rfl, rfl⟩ := hcs
    exact ⟨none, 0, 0, 0, 0, [], rfl, ⟨rfl, fun h => by omega, fun h => by omega, fun i hi => by omega⟩, by omega, (fun x hx => by simp at hx), (fun i hi => by omega)⟩
  · simp [Value.cells] at hcs
    obtain ⟨rfl, rfl, rfl⟩ := hcs
    simp only [if_true] at hmm
    rw [hmm] at hx
    have hm' : c0 ≤ 9223372036854775807 := by simpa [maxLen] using hm
    by_cases h0 : n0 = 0
    · subst h0
      exact ⟨some x, 0, 0, 0, c0, [], rfl, ⟨rfl, fun h => by omega, fun h => by omega, fun i hi => by omega⟩, by omega, (fun x hx => by simp at hx), (fun i hi => by omega)⟩
    · obtain ⟨xb, xo, spot⟩ := x
      rw [cells49] at hx
      have hspot : spot = none := by
        obtain ⟨cs', h1, _⟩ := hx 0 (by omega)
        obtain ⟨_, h2, h3⟩ := World.cells?_some h1
        have := h3 0 (by omega)
        rw [List.getElem?_eq_getElem (by omega)] at this
        simpa [Addr.add] using World.cell?_spot this
      subst hspot
      have each : ∀ i, i < n0 → ∃ y : Rk, RkAt W xb (xo + i * 2) y ∧ fitS y.s ∧ y.m.size ≤ 9223372036854775807 := fun i hi => by
        obtain ⟨cs', h1, h2⟩ := hx i (by omega)
        obtain ⟨_, h3, h4⟩ := World.cells?_some h1
        obtain ⟨y0, y1, q, _, _, t0, t1⟩ := Go.ChangeShapes.trod_struct2 Tryd.underlying49 h2
        match cs', h3, h4, t0, t1 with
        | [v0, v1], _, h4, t0, t1 =>
          simp only [cells9, cells2] at t0 t1
          obtain ⟨s0, e0, _, hs0⟩ := DataW.trod_string Tryd.underlying9 t0
          obtain ⟨n1, e1, _, f1⟩ := DataW.trod_int Tryd.underlying2 t1
          simp at e0 e1
          subst e0 e1
          have g : ∀ j, j < 2 → W.cell? ⟨xb, xo + i * 2 + j, none⟩ = [Value.string s0, .int .i64 n1][j]? := fun j hj => by
            rw [← h4 j hj, Addr.add_lit, Addr.add_lit]
          refine ⟨⟨s0, n1⟩, ⟨g 0 (by omega), g 1 (by omega)⟩, bounds_i64 f1, by simpa [maxLen] using hs0⟩
      obtain ⟨f, hfm⟩ := @choose_lt Rk ⟨rk0⟩ n0 _ each
      have hget : ∀ i, i < n0 → ((List.range n0).map fun i => f i).getD i rk0 = f i := fun i hi => by
        simp [List.getD, hi]
      refine ⟨some ⟨xb, xo, none⟩, xb, xo, n0, c0, (List.range n0).map fun i => f i, rfl, ⟨by simp, fun _ => rfl, fun _ => block_lt_of_cell (hfm 0 (by omega)).1.c0, fun i hi => ?_⟩, by omega, fun y hy => ?_, fun i hi => ?_⟩
      · rw [hget i hi]
        exact (hfm i hi).1
      · obtain ⟨i, hi, rfl⟩ := List.mem_map.1 hy
        exact (hfm i (List.mem_range.1 hi)).2.1
      · rw [hget i hi]
        exact (hfm i hi).2.2
end Go.Proofs.YtinnjekfmlfdoaaDoor
