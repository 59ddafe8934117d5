/- sameResp at two readings of the same replies: true; the world has but drawn. -/
import Derived.Test.YtcgeafdakaeicaaDoorRpSmall
namespace Go.Proofs.YtcgeafdakaeicaaDoor
open Go.RowKit Go.Sort
open Rp (Nd nd0 plainB numB fieldsB)

set_option maxHeartbeats 400000 in
theorem sameInts_any (a a' : Option Addr) (b off b' off' n c c' : Nat) (zs : List Int) (w : World) (h : Rp.IntsIn w a b off n zs) (h' : Rp.IntsIn w a' b' off' n zs) (hn : n ≤ 1048576) :
    Calls Tryd.prog 36 #[.slice a n c, .slice a' n c'] w fun e w' => e = .returned (.bool true) ∧ ∃ q, w' = w.drewN q := by
  go_enter Tryd.func36, Tryd.ntmps36
  go_wp2
  go_loopw [5] (fun i wr => ∃ (k q : Nat), k ≤ n ∧ i = .int .i64 k ∧ wr = w.drewN q) (fun i _ => n - (intOf i).toNat)
  case atStart => exact ⟨0, 0, by omega, rfl, rfl⟩
  case round =>
    obtain ⟨k, q, hk, rfl, rfl⟩ := hrel
    by_cases hlt : k < n
    · obtain rfl := h.addr (by omega)
      obtain rfl := h'.addr (by omega)
      have hc := h.cell k hlt
      have hc' := h'.cell k hlt
      generalize zs.getD k 0 = s at *
      go_wp2
      go_quiet ((fail))
      go_wp2
      go_roundw
      case rel => exact ⟨k + 1, _, by omega, by go_num, rfl⟩
      case measure => simp [intOf]; omega
    · go_wp2
      go_ret
      exact ⟨rfl, q, rfl⟩

theorem ints_drewN {w : World} {a : Option Addr} {b off n q : Nat} {zs : List Int} (h : Rp.IntsIn w a b off n zs) : Rp.IntsIn (w.drewN q) a b off n zs := ⟨h.len, h.addr, h.low, h.cell⟩

set_option maxHeartbeats 4000000 in
set_option maxRecDepth 100000 in
theorem sameResp_any (a a' : Option Addr) (b off b' off' n c c' : Nat) (L : List Nd) (w : World) (h : Rp.RespsIn w a b off n L) (h' : Rp.RespsIn w a' b' off' n L) (hn : n ≤ 1048576) (hk : ∀ i, i < n → (L.getD i nd0).kids.length ≤ 1048576) :
    Calls Tryd.prog 14 #[.slice a n c, .slice a' n c'] w fun e w' => e = .returned (.bool true) ∧ ∃ q, w' = w.drewN q := by
  go_enter Tryd.func14, Tryd.ntmps14
  go_wp2
  go_loopw [5] (fun i wr => ∃ (k q : Nat), k ≤ n ∧ i = .int .i64 k ∧ wr = w.drewN q) (fun i _ => n - (intOf i).toNat)
  case atStart => exact ⟨0, 0, by omega, rfl, rfl⟩
  case round =>
    obtain ⟨k, q, hkn, rfl, hwq⟩ := hrel
    have HW : Hid (wr = w.drewN q) := hwq
    have bk : Below w.heap.size w wr := by rw [hwq]; exact below_drewN (Below.refl _ _) q
    clear hwq
    by_cases hlt : k < n
    · obtain rfl := h.addr (by omega)
      obtain rfl := h'.addr (by omega)
      obtain ⟨ak, bk1, ok, ck, hnd⟩ := h.node k hlt
      obtain ⟨ak', bk1', ok', ck', hnd'⟩ := h'.node k hlt
      have hm := Rp.nd_below hnd (h.low (by omega)) bk
      have hm' := Rp.nd_below hnd' (h'.low (by omega)) bk
      have hkk := hk k hlt
      generalize L.getD k nd0 = x at *
      have c0 := hm.c0
      have c1 := hm.c1
      have c2 := hm.c2
      have c3 := hm.c3
      have d0 := hm'.c0
      have d1 := hm'.c1
      have d2 := hm'.c2
      have d3 := hm'.c3
      have HC : ∀ m, Calls Tryd.prog 36 #[.slice ak x.kids.length ck, .slice ak' x.kids.length ck'] (wr.drewN m) fun e w' => e = .returned (.bool true) ∧ ∃ p, w' = (wr.drewN m).drewN p := fun m => sameInts_any ak ak' bk1 ok bk1' ok' _ ck ck' x.kids _ (ints_drewN hm.ints) (ints_drewN hm'.ints) hkk
      clear hm hm' hnd hnd' bk hk
      generalize x.kids.length = m at *
      generalize x.kind = x0 at *
      generalize x.num = x1 at *
      generalize x.s = x2 at *
      go_wp2
      go_quiet ((exact Calls.quiet_of (HC _)))
      go_wp2
      go_roundw
      case rel => exact ⟨k + 1, _, by omega, by go_num, by rw [HW.out, World.drewN_drewN]⟩
      case measure => simp [intOf]; omega
    · clear bk
      go_wp2
      go_ret
      exact ⟨rfl, q, HW.out⟩
end Go.Proofs.YtcgeafdakaeicaaDoor
