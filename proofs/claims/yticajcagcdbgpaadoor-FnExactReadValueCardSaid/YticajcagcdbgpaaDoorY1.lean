/- Equal lists of texts, of pairs. -/
import Derived.Test.YticajcagcdbgpaaDoorV5
import Derived.Test.YticajcagcdbgpaaDoorK19
namespace Go.Proofs.YticajcagcdbgpaaDoor
open Go.RowKit Go.Sort
open Kk (Rk rk0 texL texR decS scoreB rightB ranksB OwnR flatR encR markB)

set_option maxHeartbeats 1000000 in
/-- eqStringS at two slices that read as the same strings. -/
theorem eqS_any (a a' : Option Addr) (b off b' off' n c c' : Nat) (ss : List ByteArray) (w : World) (h : StrsIn w a b off n ss) (h' : StrsIn w a' b' off' n ss) (hn : n ≤ 1048577) :
    Calls Tryd.prog 14 #[.slice a n c, .slice a' n c'] w fun e w' => e = .returned (.bool true) ∧ Below w.heap.size w w' := by
  go_enter Tryd.func14, Tryd.ntmps14
  go_wp2
  go_loopw [5] (fun i wr => ∃ (k q : Nat), k ≤ n ∧ i = .int .i64 k ∧ wr = w.drewN q) (fun i _ => n - (intOf i).toNat)
  case atStart => exact ⟨0, 0, by omega, rfl, rfl⟩
  case round =>
    obtain ⟨k, q, hk, rfl, rfl⟩ := hrel
    by_cases hlt : k < n
    · obtain rfl := h.addr (by omega)
      obtain rfl := h'.addr (by omega)
      have hc := h.cell k hlt
      have hc' := h'.cell k hlt
      generalize ss.getD k ByteArray.empty = s at *
      go_wp2
      go_quiet ((fail))
      go_wp2
      go_roundw
      case rel => exact ⟨k + 1, _, by omega, by go_num, rfl⟩
      case measure => simp [intOf]; omega
    · go_wp2
      go_ret
      exact ⟨rfl, below_drewN (Below.refl _ _) q⟩

theorem eqPair_any (x : Pr) (w : World) : Calls Tryd.prog 30 #[prV x, prV x] w fun e w' => e = .returned (.bool true) ∧ Below w.heap.size w w' := by
  obtain ⟨xm, xs⟩ := x
  go_enter Tryd.func30, Tryd.ntmps30
  go_wp2
  go_ret
  exact ⟨rfl, ((Below.refl _ w).alloc (Nat.le_refl _) _).alloc (by simp) _⟩

set_option maxHeartbeats 1000000 in
theorem eqP_any (a a' : Option Addr) (b b' n c c' : Nat) (L : List Pr) (w : World) (h : PairsIn w a b n L) (h' : PairsIn w a' b' n L) (hn : n ≤ 1048577) :
    Calls Tryd.prog 15 #[.slice a n c, .slice a' n c'] w fun e w' => e = .returned (.bool true) ∧ Below w.heap.size w w' := by
  have H : Hid (PairsIn w a b n L) := h
  have H' : Hid (PairsIn w a' b' n L) := h'
  clear h h'
  go_enter Tryd.func15, Tryd.ntmps15
  go_wp2
  go_loopw [5] (fun i wr => ∃ (k : Nat), k ≤ n ∧ i = .int .i64 k ∧ Below w.heap.size w wr) (fun i _ => n - (intOf i).toNat)
  case atStart => exact ⟨0, by omega, rfl, Below.refl _ _⟩
  case round =>
    obtain ⟨k, hk, rfl, bk⟩ := hrel
    have sk := bk.size
    by_cases hlt : k < n
    · have HW := H.out.below bk
      have HW' := H'.out.below bk
      have c0 := HW.c0 k hlt
      have c1 := HW.c1 k hlt
      have d0 := HW'.c0 k hlt
      have d1 := HW'.c1 k hlt
      obtain rfl := HW.addr (by omega)
      obtain rfl := HW'.addr (by omega)
      generalize L.getD k (bz, bz) = x at *
      have cE : ∀ d os, Calls Tryd.prog 30 #[prV x, prV x] (grow (redrawn wr d) os) fun e w'' => e = .returned (.bool true) ∧ ∃ p : Regrown, w'' = grow (redrawn wr p.d) p.os := fun d os => Calls.regrown_of (eqPair_any x _)
      obtain ⟨m, s⟩ := x
      dsimp only at c0 c1 d0 d1
      clear HW HW'
      have kc0 := cell_regrown c0
      have kc1 := cell_regrown c1
      have kd0 := cell_regrown d0
      have kd1 := cell_regrown d1
      go_wp2
      refine wp_region_quiet_below (by kernel_rfl) (by kernel_rfl) ?_
      repeat (quiet_step (first | exact cE _ _))
      refine wpQuiet_nil ?_
      intro _ hw'
      obtain ⟨⟨dq, osq⟩, hw''⟩ := hw'
      subst hw''
      have bq := below_regrown wr dq osq
      generalize grow (redrawn wr dq) osq = wq at *
      go_wp2
      go_roundw
      case rel => exact ⟨k + 1, by omega, by go_num, bk.trans (bq.mono sk)⟩
      case measure => simp [intOf]; omega
    · go_wp2
      go_ret
      exact ⟨rfl, bk⟩
end Go.Proofs.YticajcagcdbgpaaDoor
