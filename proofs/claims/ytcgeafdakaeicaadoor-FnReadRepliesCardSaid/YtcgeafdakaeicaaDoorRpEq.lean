/- eqInt64S, eqResp, eqRespS at two readings of the same replies: true. -/
import Derived.Test.YtcgeafdakaeicaaDoorRpSmall
namespace Go.Proofs.YtcgeafdakaeicaaDoor.Rp
open Go.RowKit Go.Sort

set_option maxHeartbeats 400000 in
theorem eqInts (a a' : Option Addr) (b off b' off' n c c' : Nat) (zs : List Int) (w : World) (h : IntsIn w a b off n zs) (h' : IntsIn w a' b' off' n zs) (hn : n ≤ 1048576) :
    Calls Tryd.prog 71 #[.slice a n c, .slice a' n c'] w fun e w' => e = .returned (.bool true) ∧ Below w.heap.size w w' := by
  go_enter Tryd.func71, Tryd.ntmps71
  go_wp2
  go_loopw [5] (fun i wr => ∃ (k q : Nat), k ≤ n ∧ i = .int .i64 k ∧ wr = w.drewN q) (fun i _ => n - (intOf i).toNat)
  case atStart => exact ⟨0, 0, by omega, rfl, rfl⟩
  case round =>
    obtain ⟨k, q, hk, rfl, rfl⟩ := hrel
    by_cases hlt : k < n
    · obtain rfl := h.addr (by omega)
      obtain rfl := h'.addr (by omega)
      have hc := h.cell k hlt
      have hc' := h'.cell k hlt
      generalize zs.getD k 0 = s at *
      go_wp2
      go_quiet ((fail))
      go_wp2
      go_roundw
      case rel => exact ⟨k + 1, _, by omega, by go_num, rfl⟩
      case measure => simp [intOf]; omega
    · go_wp2
      go_ret
      exact ⟨rfl, below_drewN (Below.refl _ _) q⟩

set_option maxHeartbeats 1000000 in
theorem eqNode (x : Nd) (a a' : Option Addr) (b off b' off' c c' : Nat) (w : World) (h : IntsIn w a b off x.kids.length x.kids) (h' : IntsIn w a' b' off' x.kids.length x.kids) (hn : x.kids.length ≤ 1048576) :
    Calls Tryd.prog 45 #[.agg #[.int .i64 x.kind, .int .i64 x.num, .string x.s, .slice a x.kids.length c], .agg #[.int .i64 x.kind, .int .i64 x.num, .string x.s, .slice a' x.kids.length c']] w fun e w' => e = .returned (.bool true) ∧ Below w.heap.size w w' := by
  have bw : ∀ o o', Below w.heap.size w ((w.alloc o).alloc o') := fun o o' => ((Below.refl _ _).alloc (Nat.le_refl _) _).alloc (by simp) _
  go_enter Tryd.func45, Tryd.ntmps45
  go_wp2_with fail
  refine (eqInts a a' b off b' off' _ c c' x.kids _ (ints_below h (bw _ _)) (ints_below h' (bw _ _)) hn).mono ?_
  rintro e w1 ⟨rfl, b1⟩
  go_wp2
  go_ret
  exact ⟨rfl, (bw _ _).trans (b1.mono (by simp; omega))⟩

set_option maxHeartbeats 1000000 in
theorem eqResps (a a' : Option Addr) (b off b' off' n c c' : Nat) (L : List Nd) (w : World) (h : RespsIn w a b off n L) (h' : RespsIn w a' b' off' n L) (hn : n ≤ 1048576) (hk : ∀ i, i < n → (L.getD i nd0).kids.length ≤ 1048576) :
    Calls Tryd.prog 19 #[.slice a n c, .slice a' n c'] w fun e w' => e = .returned (.bool true) ∧ Below w.heap.size w w' := by
  go_enter Tryd.func19, Tryd.ntmps19
  go_wp2
  go_loopw [5] (fun i wr => ∃ (k : Nat), k ≤ n ∧ i = .int .i64 k ∧ Below w.heap.size w wr) (fun i _ => n - (intOf i).toNat)
  case atStart => exact ⟨0, by omega, rfl, Below.refl _ _⟩
  case round =>
    obtain ⟨k, hkn, rfl, bk⟩ := hrel
    by_cases hlt : k < n
    · obtain rfl := h.addr (by omega)
      obtain rfl := h'.addr (by omega)
      obtain ⟨ak, bk1, ok, ck, hnd⟩ := h.node k hlt
      obtain ⟨ak', bk1', ok', ck', hnd'⟩ := h'.node k hlt
      have hm := nd_below hnd (h.low (by omega)) bk
      have hm' := nd_below hnd' (h'.low (by omega)) bk
      have hkk := hk k hlt
      generalize L.getD k nd0 = x at *
      have c0 := cell_regrown hm.c0
      have c1 := cell_regrown hm.c1
      have c2 := cell_regrown hm.c2
      have c3 := cell_regrown hm.c3
      have d0 := cell_regrown hm'.c0
      have d1 := cell_regrown hm'.c1
      have d2 := cell_regrown hm'.c2
      have d3 := cell_regrown hm'.c3
      have cE : ∀ d os, Calls Tryd.prog 45 #[.agg #[.int .i64 x.kind, .int .i64 x.num, .string x.s, .slice ak x.kids.length ck], .agg #[.int .i64 x.kind, .int .i64 x.num, .string x.s, .slice ak' x.kids.length ck']] (grow (redrawn wr d) os) fun e w'' => e = .returned (.bool true) ∧ ∃ p : Regrown, w'' = grow (redrawn wr p.d) p.os := fun d os =>
        Calls.regrown_of (eqNode x ak ak' bk1 ok bk1' ok' ck ck' _ (ints_below hm.ints (below_regrown wr d os)) (ints_below hm'.ints (below_regrown wr d os)) hkk)
      clear hm hm' hnd hnd'
      go_wp2
      refine wp_region_quiet_below (by kernel_rfl) (by kernel_rfl) ?_
      repeat (quiet_step (first | exact cE _ _))
      refine wpQuiet_nil ?_
      intro _ hw'
      obtain ⟨⟨dq, osq⟩, hw''⟩ := hw'
      subst hw''
      have bq := below_regrown wr dq osq
      generalize grow (redrawn wr dq) osq = wq at *
      go_wp2
      go_roundw
      case rel => exact ⟨k + 1, by omega, by go_num, bk.trans (bq.mono bk.size)⟩
      case measure => simp [intOf]; omega
    · go_wp2
      go_ret
      exact ⟨rfl, bk⟩
end Go.Proofs.YtcgeafdakaeicaaDoor.Rp
