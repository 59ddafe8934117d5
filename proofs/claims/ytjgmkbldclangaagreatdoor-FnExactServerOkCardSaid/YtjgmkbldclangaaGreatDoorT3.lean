/- What the tables and errors of the library hold. -/
import Derived.Test.YtjgmkbldclangaaGreatDoorT2
import Derived.Test.YtjgmkbldclangaaGreatDoorTie
import Derived.Test.YtjgmkbldclangaaGreatDoorCards
import Derived.ProofKit
import Derived.SevenTiedAt
import Derived.OpenShut
import Derived.ChangeOld
import Derived.LaidMore
import Derived.HandedShaped
import Derived.Lib.LaidTab
import Derived.Shelf.Vars
import Derived.Stop.LaidTwo
import Derived.Stop.ErrReads
import Derived.Deep.Slices
import Derived.Lib.SmallJoins
namespace Go.Proofs.YtjgmkbldclangaaGreatDoor.Fd
open Go.ChangeShapes Go.WideShapes Go.ChangeAt Go.WideMaps Go.WideElems Go.RowKit Go.Deep

theorem own : ownKnob Tryz.prog.godebug = none := by kernel_rfl
theorem laidOut : laidOutB Tryz.prog = true := by kernel_rfl
theorem cells9 : Tryz.prog.cellsOf 9 = 1 := by kernel_rfl
theorem cells127 : Tryz.prog.cellsOf 205 = 1 := by kernel_rfl
theorem gPowType : (Tryz.prog.globals[3]?).map (·.type) = some 199 := by kernel_rfl
theorem gSynType : (Tryz.prog.globals[1]?).map (·.type) = some 174 := by kernel_rfl
theorem gRngType : (Tryz.prog.globals[2]?).map (·.type) = some 174 := by kernel_rfl
theorem starName : "*" ++ "errors.errorString" = "*errors.errorString" := by decide

theorem row125 (u : TypeId) (h : Tryz.prog.typeName? 3 u = some "*errors.errorString") : u = 203 :=
  typeName_ptr_named (nm := "errors.errorString") (by rw [starName]; kernel_rfl) (by kernel_rfl) (by decide) u (by rw [starName]; exact h)

def laidR : List (String × DataW Unit) := Rows.fnExactServerOkRow.laid

set_option maxRecDepth 100000 in
theorem tab_of_laidR {W : World} (h : laidMetH Tryz.prog laidR W) : Tab W := by
  have h1 := h.filter (fun x => x.1 == "internal/strconv.uint64pow10")
  have e : laidR.filter (fun x => x.1 == "internal/strconv.uint64pow10") = [("internal/strconv.uint64pow10", Lib.tabData .u64 Lib.pow10Tab)] := by kernel_rfl
  rw [e, MakeChecks.laidMetH_plain _ _ _ (by kernel_rfl)] at h1
  exact Lib.tabIs_of_head gPow gPowType Tryz.underlying199 Tryz.underlying183 (by kernel_rfl) (by kernel_rfl) h1

set_option maxRecDepth 100000 in
theorem errs_of_laidR {W : World} (h : laidMetH Tryz.prog laidR W) :
    (∃ tp p, W.var? Tryz.prog "strconv.ErrRange" = some #[.iface tp p]) ∧ (∃ tp p, W.var? Tryz.prog "strconv.ErrSyntax" = some #[.iface tp p]) := by
  have h1 := h.filter (fun x => x.1 == "strconv.ErrRange" || x.1 == "strconv.ErrSyntax")
  have e : laidR.filter (fun x => x.1 == "strconv.ErrRange" || x.1 == "strconv.ErrSyntax") = [("strconv.ErrRange", Rows.laid_strconv_ErrRange), ("strconv.ErrSyntax", Rows.laid_strconv_ErrSyntax)] := by kernel_rfl
  rw [e, MakeChecks.laidMetH_plain _ _ _ (by kernel_rfl)] at h1
  obtain ⟨a0, a1, s0, s1, c0, c1, t0, t1, hv0, hv1, _⟩ := laid_sentinels2 h1 gRng gRngType gSyn gSynType Tryz.underlying174 row125 Tryz.underlying203 Tryz.underlying205 rfl rfl Tryz.underlying9 cells127 cells9
  exact ⟨⟨_, _, hv0⟩, ⟨_, _, hv1⟩⟩

theorem gTab : Tryz.prog.globalNamed "math/bits.deBruijn64tab" = some 5 := by kernel_rfl
theorem gTabType : (Tryz.prog.globals[5]?).map (·.type) = some 208 := by kernel_rfl

set_option maxRecDepth 100000 in
theorem six_of_laid {W : World} (h : laidMetH Tryz.prog laidR W) : 6 ≤ W.heap.size := by
  have h1 := h.filter (fun x => x.1 == "math/bits.deBruijn64tab")
  have e : laidR.filter (fun x => x.1 == "math/bits.deBruijn64tab") = [("math/bits.deBruijn64tab", Lib.tabData .u8 [0, 1, 56, 2, 57, 49, 28, 3, 61, 58, 42, 50, 38, 29, 17, 4, 62, 47, 59, 36, 45, 43, 51, 22, 53, 39, 33, 30, 24, 18, 12, 5, 63, 55, 48, 27, 60, 41, 37, 16, 46, 35, 44, 21, 52, 32, 23, 11, 54, 26, 40, 15, 34, 20, 31, 10, 25, 14, 19, 9, 13, 8, 7, 6])] := by kernel_rfl
  rw [e, MakeChecks.laidMetH_plain _ _ _ (by kernel_rfl)] at h1
  have ht := Lib.tabIs_of_head gTab gTabType Tryz.underlying208 Tryz.underlying5 (by kernel_rfl) (by kernel_rfl) h1
  have hlt : 5 < W.heap.size := block_lt_of_cell (ht.cell gTab 0 (by decide))
  omega

set_option maxRecDepth 100000 in
theorem ready_of {W : World} (h : laidMetH Tryz.prog laidR W) (hsh : W.ShapedOpen Tryz.prog) : Ready W := by
  obtain ⟨hr, hsy⟩ := errs_of_laidR h
  exact ⟨tab_of_laidR h, cell_of_shapedOpen_int (g := 0) (t := 3) (zero := #[.int .i64 0]) hsh (by decide +kernel) (by kernel_rfl) rfl (by kernel_rfl) (by kernel_rfl) Tryz.underlying3, hsy, hr, six_of_laid h⟩

theorem door_met5 (os : Os) (args : Array Value) : laidMetH Tryz.prog laidR ((World.doorLaid Tryz.prog 4001 os).forCall (fun _ _ => 0) ⟨#[], args, []⟩).memory :=
  laidMetH_of_parts3 (fuel := 8) (laidMet_of_run' 8 (by kernel_rfl) (by kernel_rfl)) (by kernel_rfl) (by kernel_rfl)

end Go.Proofs.YtjgmkbldclangaaGreatDoor.Fd
