/- laws.big. -/
import Derived.Test.YticajcagcdbgpaaGreatDoorD1
namespace Go.Proofs.YticajcagcdbgpaaGreatDoor
open Go.RowKit

theorem big_any (a : Option Addr) (n c : Nat) (w : World) :
    Calls Tryz.prog 4 #[.slice a n c] w fun e w' => e = .returned (.bool (decide ((1048576 : Int) < (n : Int)))) ∧ w' = w := by
  go_enter Tryz.func4, Tryz.ntmps4
  go_wp2
  go_ret
  exact ⟨rfl, rfl⟩
end Go.Proofs.YticajcagcdbgpaaGreatDoor
