/- laws.eqKeyS: keys that read alike. -/
import Derived.Test.YtjgmkbldclangaaGreatDoorG2
import Derived.Test.YtjgmkbldclangaaGreatDoorY4
import Derived.Lib.QuietBelow
namespace Go.Proofs.YtjgmkbldclangaaGreatDoor
open Go.RowKit Go.Sort
open Kk (Rk rk0 texL texR decS scoreB rightB ranksB OwnR flatR encR markB RanksIn)

set_option maxHeartbeats 2000000 in
set_option maxRecDepth 100000 in
theorem eqKey_any (k : Ke) (vi vp vr vi' vp' vr' : Value) (w : World) (h : VAt w k.val vi vp vr) (h' : VAt w k.val vi' vp' vr') (ho : One k.val) :
    Calls Tryz.prog 36 #[kvV ⟨k, vi, vp, vr⟩, kvV ⟨k, vi', vp', vr'⟩] w fun e w' => e = .returned (.bool true) ∧ Below w.heap.size w w' := by
  have HE : Hid (∀ W, Below w.heap.size w W → Calls Tryz.prog 53 #[vlV k.val.kind k.val.text vi vp vr, vlV k.val.kind k.val.text vi' vp' vr'] W fun e w' => e = .returned (.bool true) ∧ Below W.heap.size W w') := fun W hb => eqV_any k.val vi vp vr vi' vp' vr' W (h.below hb) (h'.below hb) ho.ni ho.np ho.nr
  clear h h' ho
  obtain ⟨nm, ⟨kd, t, _, _, _⟩, d⟩ := k
  dsimp only at HE
  obtain ⟨wa, hwa⟩ : ∃ wa, (w.alloc (.cells (kC nm kd t vi vp vr d) 68)).alloc (.cells (kC nm kd t vi' vp' vr' d) 68) = wa := ⟨_, rfl⟩
  have HA : Hid (RowAt wa w.heap.size 68 (kC nm kd t vi vp vr d) ∧ RowAt wa (w.heap.size + 1) 68 (kC nm kd t vi' vp' vr' d) ∧ Below w.heap.size w wa) := by
    subst hwa
    have e1 : (w.alloc (.cells (kC nm kd t vi vp vr d) 68)).heap.size = w.heap.size + 1 := by simp
    refine ⟨RowAt.below (RowAt.new w 68 _) ((Below.refl _ _).alloc (Nat.le_refl _) _) (by simp), ?_, ((Below.refl _ w).alloc (Nat.le_refl _) _).alloc (by simp) _⟩
    rw [← e1]
    exact RowAt.new _ 68 _
  have HWA : Hid ((w.alloc (.cells (kC nm kd t vi vp vr d) 68)).alloc (.cells (kC nm kd t vi' vp' vr' d) 68) = wa) := hwa
  clear hwa
  go_enter Tryz.func36, Tryz.ntmps36
  go_wp2_with fail
  rw [HWA.out]
  obtain ⟨r1, r2, b0⟩ := HA.out
  refine (HE.out wa b0).mono ?_
  rintro e w1 ⟨rfl, b1⟩
  obtain ⟨_, _, _, _, _, _, y6⟩ := row7 (RowAt.below r1 b1 r1.lt)
  obtain ⟨_, _, _, _, _, _, z6⟩ := row7 (RowAt.below r2 b1 r2.lt)
  have bb1 := b0.trans (b1.mono b0.size)
  clear r1 r2 b0 b1 HWA HA
  go_wp2
  go_ret
  exact ⟨rfl, bb1⟩

/-- Each value's rows, as they read. -/
structure DbRd (w : World) (a : Option Addr) (b n : Nat) (L : List KV) : Prop where
  ks : KsIn w a b n L
  val : ∀ i, i < n → VAt w (L.getD i kv0).key.val (L.getD i kv0).vi (L.getD i kv0).vp (L.getD i kv0).vr
theorem DbRd.below {w w' : World} {a : Option Addr} {b n : Nat} {L : List KV} (h : DbRd w a b n L) (hb : Below w.heap.size w w') : DbRd w' a b n L :=
  ⟨h.ks.below hb, fun i hi => (h.val i hi).below hb⟩
theorem DbAt.rd {w : World} {a : Option Addr} {b n : Nat} {L : List KV} (h : DbAt w a b n L) (hs : Small L) : DbRd w a b n L :=
  ⟨h.ks, fun i hi => by obtain ⟨B, hB⟩ := h.val i hi; exact hB.at (hs i (by rw [h.ks.len]; exact hi)).1.one.items⟩

set_option maxHeartbeats 2000000 in
set_option maxRecDepth 100000 in
theorem eqKeys_any (a a' : Option Addr) (b b' n c c' : Nat) (L L' : List KV) (w : World) (h : DbRd w a b n L) (h' : DbRd w a' b' n L') (hs : Small L) (he : ∀ i, i < n → (L'.getD i kv0).key = (L.getD i kv0).key) (hn : n ≤ 1048577) :
    Calls Tryz.prog 19 #[.slice a n c, .slice a' n c'] w fun e w' => e = .returned (.bool true) ∧ Below w.heap.size w w' := by
  have H : Hid (DbRd w a b n L) := h
  have H' : Hid (DbRd w a' b' n L') := h'
  have HS : Hid (∀ i, i < n → One (L.getD i kv0).key.val) := fun i hi => (hs i (by rw [h.ks.len]; exact hi)).1.one
  have HE : Hid (∀ i, i < n → (L'.getD i kv0).key = (L.getD i kv0).key) := he
  clear h h' hs he
  go_enter Tryz.func19, Tryz.ntmps19
  go_wp2
  go_loopw [5] (fun i wr => ∃ (k : Nat), k ≤ n ∧ i = .int .i64 k ∧ Below w.heap.size w wr) (fun i _ => n - (intOf i).toNat)
  case atStart => exact ⟨0, by omega, rfl, Below.refl _ _⟩
  case round =>
    obtain ⟨k, hk, rfl, bk⟩ := hrel
    have sk := bk.size
    by_cases hlt : k < n
    · have HW := H.out.below bk
      have HW' := H'.out.below bk
      have hx := HW.ks.cell k hlt
      have hy := HW'.ks.cell k hlt
      have vx := HW.val k hlt
      have vy := HW'.val k hlt
      have hon := HS.out k hlt
      have hke := HE.out k hlt
      obtain rfl := HW.ks.addr (by omega)
      obtain rfl := HW'.ks.addr (by omega)
      generalize L.getD k kv0 = x at *
      generalize L'.getD k kv0 = y at *
      obtain ⟨kx, vi, vp, vr⟩ := x
      obtain ⟨ky, vi', vp', vr'⟩ := y
      dsimp only at hke
      subst hke
      have cE : ∀ d os, Calls Tryz.prog 36 #[kvV ⟨ky, vi, vp, vr⟩, kvV ⟨ky, vi', vp', vr'⟩] (grow (redrawn wr d) os) fun e w'' => e = .returned (.bool true) ∧ ∃ p : Regrown, w'' = grow (redrawn wr p.d) p.os := fun d os => Calls.regrown_of (eqKey_any ky vi vp vr vi' vp' vr' _ (vx.below (below_regrown wr d os)) (vy.below (below_regrown wr d os)) hon)
      clear HW HW' vx vy hon
      obtain ⟨nm, ⟨kd, t, _, _, _⟩, d⟩ := ky
      obtain ⟨c0, c1, c2, c3, c4, c5, c6⟩ := hx
      obtain ⟨e0, e1, e2, e3, e4, e5, e6⟩ := hy
      dsimp only at c0 c1 c2 c3 c4 c5 c6 e0 e1 e2 e3 e4 e5 e6 cE
      have kc0 := cell_regrown c0
      have kc1 := cell_regrown c1
      have kc2 := cell_regrown c2
      have kc3 := cell_regrown c3
      have kc4 := cell_regrown c4
      have kc5 := cell_regrown c5
      have kc6 := cell_regrown c6
      have ke0 := cell_regrown e0
      have ke1 := cell_regrown e1
      have ke2 := cell_regrown e2
      have ke3 := cell_regrown e3
      have ke4 := cell_regrown e4
      have ke5 := cell_regrown e5
      have ke6 := cell_regrown e6
      clear c0 c1 c2 c3 c4 c5 c6 e0 e1 e2 e3 e4 e5 e6
      have hk0 : (0 : Int) ≤ (k : Int) := by omega
      have hkn : (k : Int) < (n : Int) := by omega
      go_wp2
      refine wp_region_quiet_below (by kernel_rfl) (by kernel_rfl) ?_
      repeat (first | go_big_quiet_skip | quiet_step (first | with_reducible exact cE _ _))
      refine wpQuiet_nil ?_
      intro _ hw'
      obtain ⟨⟨dq, osq⟩, hw''⟩ := hw'
      subst hw''
      have bq := below_regrown wr dq osq
      generalize grow (redrawn wr dq) osq = wq at *
      clear kc0 kc1 kc2 kc3 kc4 kc5 kc6 ke0 ke1 ke2 ke3 ke4 ke5 ke6 cE
      go_wp2
      go_roundw
      case rel => exact ⟨k + 1, by omega, by go_num, bk.trans (bq.mono sk)⟩
      case measure => simp [intOf]; omega
    · go_wp2
      go_ret
      exact ⟨rfl, bk⟩
end Go.Proofs.YtjgmkbldclangaaGreatDoor
