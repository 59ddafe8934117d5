/- The rows of the laws that draw replies: what the tables and errors of the library hold, and the reading of a slice of bytes. -/
import Derived.Test.YtcgeafdakaeicaaDoorDrR
import Derived.Test.YtcgeafdakaeicaaDoorTie
import Derived.Test.YtcgeafdakaeicaaDoorCards
import Derived.ProofKit
import Derived.SevenTiedAt
import Derived.OpenShut
import Derived.ChangeOld
import Derived.LaidMore
import Derived.HandedShaped
import Derived.Lib.LaidTab
import Derived.Shelf.Vars
import Derived.Stop.LaidTwo
import Derived.Stop.ErrReads
import Derived.Deep.Slices
import Derived.Lib.SmallJoins
namespace Go.Proofs.YtcgeafdakaeicaaDoor.Lw
open Go.ChangeShapes Go.WideShapes Go.ChangeAt Go.WideMaps Go.WideElems Go.RowKit Go.Deep

theorem own : ownKnob Tryd.prog.godebug = none := by kernel_rfl
theorem laidOut : laidOutB Tryd.prog = true := by kernel_rfl
theorem cells9 : Tryd.prog.cellsOf 9 = 1 := by kernel_rfl
theorem cells143 : Tryd.prog.cellsOf 143 = 1 := by kernel_rfl
theorem gPowType : (Tryd.prog.globals[0]?).map (·.type) = some 118 := by kernel_rfl
theorem gSynType : (Tryd.prog.globals[4]?).map (·.type) = some 98 := by kernel_rfl
theorem gRngType : (Tryd.prog.globals[5]?).map (·.type) = some 98 := by kernel_rfl
theorem starName : "*" ++ "errors.errorString" = "*errors.errorString" := by decide

theorem row141 (u : TypeId) (h : Tryd.prog.typeName? 3 u = some "*errors.errorString") : u = 141 :=
  typeName_ptr_named (nm := "errors.errorString") (by rw [starName]; kernel_rfl) (by kernel_rfl) (by decide) u (by rw [starName]; exact h)

def laidR : List (String × DataW Unit) := Rows.fnReadRepliesRow.laid

set_option maxRecDepth 100000 in
theorem tab_of_laidR {W : World} (h : laidMetH Tryd.prog laidR W) : Tab W := by
  have h1 := h.filter (fun x => x.1 == "internal/strconv.uint64pow10")
  have e : laidR.filter (fun x => x.1 == "internal/strconv.uint64pow10") = [("internal/strconv.uint64pow10", Lib.tabData .u64 Lib.pow10Tab)] := by kernel_rfl
  rw [e, MakeChecks.laidMetH_plain _ _ _ (by kernel_rfl)] at h1
  exact Lib.tabIs_of_head gPow gPowType Tryd.underlying118 Tryd.underlying107 (by kernel_rfl) (by kernel_rfl) h1

set_option maxRecDepth 100000 in
theorem errs_of_laidR {W : World} (h : laidMetH Tryd.prog laidR W) :
    (∃ tp p, W.var? Tryd.prog "strconv.ErrRange" = some #[.iface tp p]) ∧ (∃ tp p, W.var? Tryd.prog "strconv.ErrSyntax" = some #[.iface tp p]) := by
  have h1 := h.filter (fun x => x.1 == "strconv.ErrRange" || x.1 == "strconv.ErrSyntax")
  have e : laidR.filter (fun x => x.1 == "strconv.ErrRange" || x.1 == "strconv.ErrSyntax") = [("strconv.ErrRange", Rows.laid_strconv_ErrRange), ("strconv.ErrSyntax", Rows.laid_strconv_ErrSyntax)] := by kernel_rfl
  rw [e, MakeChecks.laidMetH_plain _ _ _ (by kernel_rfl)] at h1
  obtain ⟨a0, a1, s0, s1, c0, c1, t0, t1, hv0, hv1, _⟩ := laid_sentinels2 h1 gRng gRngType gSyn gSynType Tryd.underlying98 row141 Tryd.underlying141 Tryd.underlying143 rfl rfl Tryd.underlying9 cells143 cells9
  exact ⟨⟨_, _, hv0⟩, ⟨_, _, hv1⟩⟩

set_option maxRecDepth 100000 in
theorem ready_of {W : World} (h : laidMetH Tryd.prog laidR W) (hsh : W.ShapedOpen Tryd.prog) : Ready W := by
  obtain ⟨hr, hsy⟩ := errs_of_laidR h
  obtain ⟨tp, p, hv⟩ := hr
  have hc := World.var?_cell gRng hv 0
  simp at hc
  have h5 : 5 < W.heap.size := block_lt_of_cell hc
  exact ⟨tab_of_laidR h, cell_of_shapedOpen_int (g := 1) (t := 3) (zero := #[.int .i64 0]) hsh (by decide +kernel) (by kernel_rfl) rfl (by kernel_rfl) (by kernel_rfl) Tryd.underlying3, hsy, ⟨tp, p, hv⟩, by omega⟩

theorem door_met5 (os : Os) (args : Array Value) : laidMetH Tryd.prog laidR ((World.doorLaid Tryd.prog 4001 os).forCall (fun _ _ => 0) ⟨#[], args, []⟩).memory :=
  laidMetH_of_parts3 (fuel := 8) (laidMet_of_run' 8 (by kernel_rfl) (by kernel_rfl)) (by kernel_rfl) (by kernel_rfl)

theorem cells5 : Tryd.prog.cellsOf 5 = 1 := by kernel_rfl

/-- What the reading of a slice of bytes gives. -/
theorem bytes_of_open {H : Type} {enc : TypeId × Value → H} {W : World} {a : Option Addr} {n c : Nat} {d : DataW H} {p : List MemPlace}
    (h : DataW.Trod enc Tryd.prog W 0 (fun _ => true) true 22 (.slice a n c) d p) :
    BytesIn W a n W.heap.size ∧ n ≤ 9223372036854775807 := by
  obtain ⟨fuel, hf⟩ := h
  rcases open_ints Tryd.underlying22 Tryd.underlying5 cells5 hf with ⟨hcs, _⟩ | ⟨x, l, c, zs, hcs, _, hl, hm, hz, _, hcell, hw⟩
  · simp [Value.cells] at hcs
    obtain ⟨rfl, rfl, rfl⟩ := hcs
    exact ⟨⟨fun h => by omega⟩, by omega⟩
  · simp [Value.cells] at hcs
    obtain ⟨rfl, rfl, rfl⟩ := hcs
    simp only [if_true] at hz
    have hm' : c ≤ 9223372036854775807 := by simpa [maxLen] using hm
    refine ⟨⟨fun h0 => ?_⟩, by omega⟩
    obtain ⟨xb, xo, spot⟩ := x
    have hspot : spot = none := by simpa [Addr.add] using World.cell?_spot (hcell 0 (by omega))
    subst hspot
    have hc : ∀ i, i < n → W.cell? ⟨xb, xo + i, none⟩ = some (.int .u8 (zs.getD i 0)) := fun i hi => by
      rw [← hcell i (by omega), Addr.add_lit]
    refine ⟨xb, xo, rfl, block_lt_of_cell (hc 0 (by omega)), fun i hi => ?_⟩
    have hmem : zs.getD i 0 ∈ zs := by
      rw [List.getD_eq_getElem?_getD, List.getElem?_eq_getElem (by omega)]
      exact List.getElem_mem _
    obtain ⟨b0, b1⟩ := bounds_u8 (hw _ hmem)
    exact ⟨(zs.getD i 0).toNat, by omega, by rw [hc i hi, Int.toNat_of_nonneg b0]⟩

end Go.Proofs.YtcgeafdakaeicaaDoor.Lw
