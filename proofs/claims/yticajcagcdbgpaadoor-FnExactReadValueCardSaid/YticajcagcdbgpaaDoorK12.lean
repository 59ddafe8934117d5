/- szRank, toRank, eqRank. -/
import Derived.Test.YticajcagcdbgpaaDoorK11
namespace Go.Proofs.YticajcagcdbgpaaDoor.Kk
open Go.RowKit Go.Sort

set_option maxHeartbeats 1000000 in
theorem eqRank_any (x : Rk) (w : World) : Calls Tryd.prog 31 #[rkV x, rkV x] w fun e w' => e = .returned (.bool true) ∧ Below w.heap.size w w' := by
  obtain ⟨xm, xs⟩ := x
  go_enter Tryd.func31, Tryd.ntmps31
  go_wp2
  go_ret
  exact ⟨rfl, ((Below.refl _ w).alloc (Nat.le_refl _) _).alloc (by simp) _⟩
end Go.Proofs.YticajcagcdbgpaaDoor.Kk
