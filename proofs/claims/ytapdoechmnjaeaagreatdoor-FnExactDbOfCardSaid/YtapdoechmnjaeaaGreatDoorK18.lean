/- impl.Ranked at every argument; szRankS, toRankS, eqRankS. -/
import Derived.Test.YtapdoechmnjaeaaGreatDoorKb
namespace Go.Proofs.YtapdoechmnjaeaaGreatDoor.Kk
open Go.RowKit Go.Sort

def PreR (D : Array Value) (L : List Rk) (k : Nat) : Prop := ∀ i, i < k → D[i * 2]? = some (.string (L.getD i rk0).m) ∧ D[i * 2 + 1]? = some (.int .i64 (L.getD i rk0).s)

theorem pre_put {D : Array Value} {L : List Rk} {k : Nat} {m : ByteArray} {s : Int} (h : PreR D L k) (hD : k * 2 + 1 < D.size) (hx : L.getD k rk0 = ⟨m, s⟩) : PreR ((D.setIfInBounds (k * 2) (.string m)).setIfInBounds (k * 2 + 1) (.int .i64 s)) L (k + 1) := fun i hi => by
  by_cases e : i = k
  · subst e
    rw [hx]
    refine ⟨?_, ?_⟩
    · rw [Array.getElem?_setIfInBounds_ne (by omega), Array.getElem?_setIfInBounds_self_of_lt (by omega)]
    · rw [Array.getElem?_setIfInBounds_self_of_lt (by rw [Array.size_setIfInBounds]; omega)]
  · obtain ⟨h0, h1⟩ := h i (by omega)
    refine ⟨?_, ?_⟩
    · rw [Array.getElem?_setIfInBounds_ne (by omega), Array.getElem?_setIfInBounds_ne (by omega)]; exact h0
    · rw [Array.getElem?_setIfInBounds_ne (by omega), Array.getElem?_setIfInBounds_ne (by omega)]; exact h1

theorem pre_flat {D : Array Value} {L : List Rk} (h : PreR D L L.length) : D.toList.take (L.length * 2) = flatR L := by
  apply List.ext_getElem?
  intro j
  by_cases hj : j < L.length * 2
  · rw [List.getElem?_take, if_pos hj, Array.getElem?_toList]
    have hi : j / 2 < L.length := by omega
    obtain ⟨f0, f1⟩ := flatR_at L (j / 2) hi
    obtain ⟨h0, h1⟩ := h (j / 2) hi
    rcases Nat.mod_two_eq_zero_or_one j with hm | hm
    · rw [show j / 2 * 2 = j by omega] at f0 h0
      rw [f0, h0]
    · rw [show j / 2 * 2 + 1 = j by omega] at f1 h1
      rw [f1, h1]
  · rw [List.getElem?_take, if_neg hj, List.getElem?_eq_none (by rw [flatR_len]; omega)]

theorem row_owns {w : World} {g cap B : Nat} {D : Array Value} {L : List Rk} (h : RowAt w g 143 D) (hD : D.size = cap * 2) (hp : PreR D L L.length) (hc : L.length ≤ cap) (hm : cap ≤ maxLen) (hB : B ≤ g) : OwnR w B (.slice (some ⟨g, 0, none⟩) L.length cap) L :=
  ⟨by rw [flatR_len], .inr ⟨g, cap, D, rfl, hB, h, hc, hm, hD, pre_flat hp⟩⟩

theorem ownR_nil (w : World) (B : Nat) : OwnR w B (.slice none 0 0) [] := ⟨rfl, .inl ⟨rfl, rfl⟩⟩

theorem ownR_in {w : World} {B A cap : Nat} {L : List Rk} (h : OwnR w B (.slice (some ⟨A, 0, none⟩) L.length cap) L) : RanksIn w (some ⟨A, 0, none⟩) A 0 L.length L :=
  ⟨rfl, fun _ => rfl, fun _ => (h.lt A rfl).2, fun i hi => by rw [Nat.zero_add]; exact ownR_at h i hi⟩

theorem ownR_any {w : World} {B : Nat} {v : Value} {L : List Rk} (h : OwnR w B v L) : ∃ a A c, v = .slice a L.length c ∧ RanksIn w a A 0 L.length L := by
  rcases Joins.ownsRow_forms h with ⟨h1, h2⟩ | ⟨A, c, rfl⟩
  · obtain rfl : L = [] := List.length_eq_zero_iff.mp h2
    exact ⟨none, 0, 0, h1, ⟨rfl, fun h => by simp at h, fun h => by simp at h, fun i hi => by simp at hi⟩⟩
  · exact ⟨_, A, c, rfl, ownR_in h⟩

set_option maxHeartbeats 1000000 in
theorem eqRankS_any (a a' : Option Addr) (b off b' off' n c c' : Nat) (L : List Rk) (w : World) (h : RanksIn w a b off n L) (h' : RanksIn w a' b' off' n L) (hn : n ≤ 1048577) :
    Calls Tryz.prog 115 #[.slice a n c, .slice a' n c'] w fun e w' => e = .returned (.bool true) ∧ Below w.heap.size w w' := by
  have H : Hid (RanksIn w a b off n L) := h
  have H' : Hid (RanksIn w a' b' off' n L) := h'
  clear h h'
  go_enter Tryz.func115, Tryz.ntmps115
  go_wp2
  go_loopw [5] (fun i wr => ∃ (k : Nat), k ≤ n ∧ i = .int .i64 k ∧ Below w.heap.size w wr) (fun i _ => n - (intOf i).toNat)
  case atStart => exact ⟨0, by omega, rfl, Below.refl _ _⟩
  case round =>
    obtain ⟨k, hk, rfl, bk⟩ := hrel
    have sk := bk.size
    by_cases hlt : k < n
    · have HW := H.out.below bk
      have HW' := H'.out.below bk
      have hx := HW.cell k hlt
      have hx' := HW'.cell k hlt
      obtain rfl := HW.addr (by omega)
      obtain rfl := HW'.addr (by omega)
      have c0 := hx.c0
      have c1 := hx.c1
      have d0 := hx'.c0
      have d1 := hx'.c1
      generalize L.getD k rk0 = x at *
      have cE : ∀ d os, Calls Tryz.prog 137 #[rkV x, rkV x] (grow (redrawn wr d) os) fun e w'' => e = .returned (.bool true) ∧ ∃ p : Regrown, w'' = grow (redrawn wr p.d) p.os := fun d os => Calls.regrown_of (eqRank_any x _)
      obtain ⟨m, s⟩ := x
      dsimp only at c0 c1 d0 d1
      clear HW HW' hx hx'
      have kc0 := cell_regrown c0
      have kc1 := cell_regrown c1
      have kd0 := cell_regrown d0
      have kd1 := cell_regrown d1
      go_wp2
      refine wp_region_quiet_below (by kernel_rfl) (by kernel_rfl) ?_
      repeat (quiet_step (first | exact cE _ _))
      refine wpQuiet_nil ?_
      intro _ hw'
      obtain ⟨⟨dq, osq⟩, hw''⟩ := hw'
      subst hw''
      have bq := below_regrown wr dq osq
      generalize grow (redrawn wr dq) osq = wq at *
      go_wp2
      go_roundw
      case rel => exact ⟨k + 1, by omega, by go_num, bk.trans (bq.mono sk)⟩
      case measure => simp [intOf]; omega
    · go_wp2
      go_ret
      exact ⟨rfl, bk⟩
end Go.Proofs.YtapdoechmnjaeaaGreatDoor.Kk
