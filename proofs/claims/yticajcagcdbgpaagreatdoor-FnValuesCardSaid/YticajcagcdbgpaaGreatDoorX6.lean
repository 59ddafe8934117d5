/- The specification's ReadValue at every text, as the program's. -/
import Derived.Test.YticajcagcdbgpaaGreatDoorX3
import Derived.Test.YticajcagcdbgpaaGreatDoorX5
namespace Go.Proofs.YticajcagcdbgpaaGreatDoor
open Go.RowKit Go.Sort
open Kk (Rk rk0 texL texR decS scoreB rightB ranksB OwnR flatR encR)

theorem specRead_any (s : ByteArray) (w : World) (hs : s.size ≤ 1048576) : Calls Tryz.prog 13 #[.string s] w (ValEnd w (readI s.data.toList)) := by
  rw [← read_same]
  cases hl : s.data.toList with
  | nil =>
    have h0 : s.size = 0 := by rw [Lib.size_eq, hl]; rfl
    exact specV_empty s w h0
  | cons b l =>
    show Calls Tryz.prog 13 #[.string s] w (ValEnd w (readS1 b (textsM l)))
    by_cases b1 : b = 49
    · subst b1; exact specV_text s l w hs hl
    by_cases b2 : b = 50
    · subst b2; exact specV_items s l w hs hl
    by_cases b3 : b = 51
    · subst b3; exact specV_pairs s l w hs hl
    by_cases b4 : b = 52
    · subst b4; exact specV_ranks s l w hs hl
    · exact specV_else s l w hs b hl (fun h => b1 (by apply UInt8.toNat_inj.1; rw [h]; rfl)) (fun h => b2 (by apply UInt8.toNat_inj.1; rw [h]; rfl)) (fun h => b3 (by apply UInt8.toNat_inj.1; rw [h]; rfl)) (fun h => b4 (by apply UInt8.toNat_inj.1; rw [h]; rfl))
end Go.Proofs.YticajcagcdbgpaaGreatDoor
