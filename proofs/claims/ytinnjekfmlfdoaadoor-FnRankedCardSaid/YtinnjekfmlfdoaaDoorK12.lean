/- szRank, toRank, eqRank. -/
import Derived.Test.YtinnjekfmlfdoaaDoorK11
namespace Go.Proofs.YtinnjekfmlfdoaaDoor
open Go.RowKit Go.Sort

set_option maxHeartbeats 1000000 in
theorem szRank_any (x : Rk) (left : Int) (w : World) (h0 : 0 ≤ left) (h1 : left ≤ 1048576) (hs : x.m.size ≤ 9223372036854775807) :
    Calls Tryd.prog 22 #[rkV x, .int .i64 left] w fun e w' => (∃ r : Int, e = .returned (.int .i64 r) ∧ (r < 0 ∨ r = left - x.m.size)) ∧ Below w.heap.size w w' := by
  obtain ⟨xm, xs⟩ := x
  dsimp only at hs ⊢
  have b0 : Below w.heap.size w (w.alloc (.cells #[.string xm, .int .i64 xs] 49)) := (Below.refl _ w).alloc (Nat.le_refl _) _
  by_cases hneg : left - (xm.size : Int) < 0
  · go_enter Tryd.func22, Tryd.ntmps22
    go_wp2
    go_ret
    exact ⟨⟨-1, rfl, .inl (by omega)⟩, b0⟩
  · go_enter Tryd.func22, Tryd.ntmps22
    go_wp2
    go_ret
    exact ⟨⟨_, rfl, .inr rfl⟩, b0⟩

set_option maxHeartbeats 1000000 in
theorem toRank_any (x : Rk) (w : World) : Calls Tryd.prog 23 #[rkV x] w fun e w' => e = .returned (rkV x) ∧ Below w.heap.size w w' := by
  obtain ⟨xm, xs⟩ := x
  go_enter Tryd.func23, Tryd.ntmps23
  go_wp2
  exact bodyPost_ret (v := rkV ⟨xm, xs⟩) (by simp [results, Tryd.results23, go_sem]) rfl ⟨rfl, Go.Joins.below_alloc3 _ _ _ _⟩

set_option maxHeartbeats 1000000 in
theorem eqRank_any (x : Rk) (w : World) : Calls Tryd.prog 24 #[rkV x, rkV x] w fun e w' => e = .returned (.bool true) ∧ Below w.heap.size w w' := by
  obtain ⟨xm, xs⟩ := x
  go_enter Tryd.func24, Tryd.ntmps24
  go_wp2
  go_ret
  exact ⟨rfl, ((Below.refl _ w).alloc (Nat.le_refl _) _).alloc (by simp) _⟩
end Go.Proofs.YtinnjekfmlfdoaaDoor
