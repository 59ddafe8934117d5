/- The drawing of arguments out of bytes: it returns, and writes into nothing but its own reader. -/
import Derived.Test.YtcgeafdakaeicaaDoorLine
namespace Go.Proofs.YtcgeafdakaeicaaDoor
open Go.RowKit

structure BytesIn (w : World) (a : Option Addr) (n : Nat) (B : Nat) : Prop where
  cell : 0 < n → ∃ b o, a = some ⟨b, o, none⟩ ∧ b < B ∧ ∀ i, i < n → ∃ x : Nat, x < 256 ∧ w.cell? ⟨b, o + i, none⟩ = some (.int .u8 x)

theorem BytesIn.below {w w' : World} {a : Option Addr} {n B : Nat} (h : BytesIn w a n B) (hb : Below B w w') : BytesIn w' a n B :=
  ⟨fun hn => by
    obtain ⟨b, o, ha, hB, hc⟩ := h.cell hn
    exact ⟨b, o, ha, hB, fun i hi => by
      obtain ⟨x, hx, hw⟩ := hc i hi
      exact ⟨x, hx, (hb.cell (p := ⟨b, o + i, none⟩) hB).trans hw⟩⟩⟩

/-- A reader of bytes, at block rb: all that is below it is left alone. -/
structure Rd (w : World) (rb : Nat) (a : Option Addr) (n c : Nat) : Prop where
  row : ∃ p : Nat, p ≤ n ∧ RowAt w rb 91 #[.slice a n c, .int .i64 p]
  fit : n ≤ 9223372036854775807
  bytes : BytesIn w a n rb

theorem Rd.below {w w' : World} {rb : Nat} {a : Option Addr} {n c B : Nat} (h : Rd w rb a n c) (hb : Below B w w') (hB : rb < B) : Rd w' rb a n c := by
  obtain ⟨p, hp, hr⟩ := h.row
  exact ⟨⟨p, hp, hr.below hb hB⟩, h.fit, h.bytes.below (hb.mono (by omega))⟩

def NumEnd (lo hi : Int) (w : World) (rb : Nat) (a : Option Addr) (n c : Nat) (e : Ending) (w' : World) : Prop :=
  ∃ k : Int, e = .returned (.int .i64 k) ∧ lo ≤ k ∧ k ≤ hi ∧ Rd w' rb a n c ∧ w.grownBy w' (some rb)

set_option maxHeartbeats 1000000 in
theorem next_any (rb : Nat) (a : Option Addr) (n c : Nat) (w : World) (h : Rd w rb a n c) :
    Calls Tryd.prog 63 #[.pointer (some ⟨rb, 0, none⟩)] w (NumEnd 0 255 w rb a n c) := by
  obtain ⟨p, hp, hr⟩ := h.row
  have hfit := h.fit
  have c0 := hr.cell 0
  have c1 := hr.cell 1
  simp at c0 c1
  by_cases hpn : p = n
  · have hd : decide ((n : Int) ≤ (p : Int)) = true := by simp; omega
    have HR : Hid (Rd w rb a n c) := h
    clear hr h
    subst hpn
    go_enter Tryd.func63, Tryd.ntmps63
    go_wp2
    go_quiet ((fail))
    go_wp2
    go_ret
    refine ⟨0, rfl, by omega, by omega, HR.out.below (B := rb + 1) (below_drewN (Below.refl _ _) _) (by omega), grown_drewN _ _ _⟩
  · have hlt : p < n := by omega
    have hd : decide ((n : Int) ≤ (p : Int)) = false := by simp; omega
    obtain ⟨b, o, ha, hB, hc⟩ := h.bytes.cell (by omega)
    obtain ⟨x, hx, hcx⟩ := hc p hlt
    have hneb : b ≠ rb := by omega
    have fz := hr.frozen 1
    have HR : Hid (RowAt w rb 91 #[.slice a n c, .int .i64 p]) := hr
    have HB : Hid (Rd w rb a n c) := h
    clear hr h hc
    subst ha
    go_enter Tryd.func63, Tryd.ntmps63
    go_wp2
    go_quiet ((fail))
    go_wp2
    have hr2 : RowAt ((w.drewN nq).setCell ⟨rb, 1, none⟩ (Value.int IntKind.i64 (↑p + 1))) rb 91 #[.slice (some ⟨b, o, none⟩) n c, .int .i64 (p + 1)] := by
      have := (HR.out.below (B := rb + 1) (below_drewN (Below.refl _ w) nq) (by omega)).set 1 (Value.int IntKind.i64 (↑p + 1))
      simpa using this
    have hg2 : w.grownBy ((w.drewN nq).setCell ⟨rb, 1, none⟩ (Value.int IntKind.i64 (↑p + 1))) (some rb) := grown_trans (grown_drewN w nq _) (grown_set _ rb 1 _)
    have hb2 : Below rb w ((w.drewN nq).setCell ⟨rb, 1, none⟩ (Value.int IntKind.i64 (↑p + 1))) := (below_drewN (Below.refl _ w) nq).setCell (p := ⟨rb, 1, none⟩) (Nat.le_refl _) _
    generalize (w.drewN nq).setCell ⟨rb, 1, none⟩ (Value.int IntKind.i64 (↑p + 1)) = w2 at *
    have d0 := hr2.cell 0
    have d1 := hr2.cell 1
    simp at d0 d1
    have dx := (hb2.cell (p := ⟨b, o + p, none⟩) hB).trans hcx
    have HX : Hid (RowAt w2 rb 91 #[.slice (some ⟨b, o, none⟩) n c, .int .i64 (p + 1)]) := hr2
    clear hr2 c0 c1 hcx fz
    go_quiet ((fail))
    go_wp2
    go_ret
    refine ⟨x, rfl, by omega, by omega, ⟨⟨p + 1, by omega, ?_⟩, HB.out.fit, ?_⟩, grown_trans hg2 (grown_drewN _ _ _)⟩
    · exact HX.out.below (B := rb + 1) (below_drewN (Below.refl _ _) _) (by omega)
    · exact HB.out.bytes.below (below_drewN hb2 _)

/-- A draw of several: at most so much. -/
theorem NumEnd.trans {lo hi : Int} {w w1 w' : World} {rb : Nat} {a : Option Addr} {n c : Nat} {e : Ending} (hb : w.grownBy w1 (some rb)) (h : NumEnd lo hi w1 rb a n c e w') : NumEnd lo hi w rb a n c e w' := by
  obtain ⟨k, h1, h2, h3, h4, h5⟩ := h
  exact ⟨k, h1, h2, h3, h4, grown_trans hb h5⟩

set_option maxHeartbeats 1000000 in
theorem below_any (rb : Nat) (a : Option Addr) (n c : Nat) (m : Int) (w : World) (h : Rd w rb a n c) (hm : 1 < m) (hm2 : m ≤ 65536) :
    Calls Tryd.prog 40 #[.pointer (some ⟨rb, 0, none⟩), .int .i64 m] w (NumEnd 0 (m - 1) w rb a n c) := by
  by_cases h256 : m ≤ 256
  · go_enter Tryd.func40, Tryd.ntmps40
    go_wp2_with fail
    refine (next_any rb a n c w h).mono ?_
    rintro e w1 ⟨k, rfl, k0, k1, r1, b1⟩
    have e1 : Int.tmod k m = k % m := Int.tmod_eq_emod_of_nonneg k0
    have e2 := Int.emod_nonneg k (b := m) (by omega)
    have e3 := Int.emod_lt_of_pos k (b := m) (by omega)
    go_wp2
    go_ret
    exact ⟨_, rfl, by omega, by omega, r1, b1⟩
  · go_enter Tryd.func40, Tryd.ntmps40
    go_wp2_with fail
    refine (next_any rb a n c w h).mono ?_
    rintro e w1 ⟨k, rfl, k0, k1, r1, b1⟩
    go_wp2_with fail
    refine (next_any rb a n c w1 r1).mono ?_
    rintro e w2 ⟨j, rfl, j0, j1, r2, b2⟩
    have e2 := Int.emod_nonneg (k * 256 + j) (b := m) (by omega)
    have e3 := Int.emod_lt_of_pos (k * 256 + j) (b := m) (by omega)
    go_wp2
    go_ret
    exact ⟨_, rfl, by omega, by omega, r2, grown_trans b1 b2⟩

theorem open_any (a : Option Addr) (n c : Nat) (w : World) (hn : n ≤ 9223372036854775807) (hb : BytesIn w a n w.heap.size) :
    Calls Tryd.prog 37 #[.slice a n c] w fun e w' => e = .returned (.pointer (some ⟨w.heap.size, 0, none⟩)) ∧ Rd w' w.heap.size a n c ∧ Below w.heap.size w w' := by
  go_enter Tryd.func37, Tryd.ntmps37
  go_wp2
  go_ret
  have hb0 : Below w.heap.size w (w.alloc (.cells #[Value.slice a n c, Value.int IntKind.i64 0] 91)) := (Below.refl _ w).alloc (Nat.le_refl _) _
  exact ⟨rfl, ⟨⟨0, by omega, RowAt.new w 91 _⟩, hn, hb.below hb0⟩, hb0⟩
theorem below_one (rb : Nat) (w : World) : Calls Tryd.prog 40 #[.pointer (some ⟨rb, 0, none⟩), .int .i64 1] w fun e w' => e = .returned (.int .i64 0) ∧ w' = w := by
  go_enter Tryd.func40, Tryd.ntmps40
  go_wp2
  go_ret
  exact ⟨rfl, rfl⟩

/-- One of so many. -/
theorem pick_any (rb : Nat) (a : Option Addr) (n c k : Nat) (w : World) (h : Rd w rb a n c) (h0 : 0 < k) (hk : k ≤ 65536) :
    Calls Tryd.prog 40 #[.pointer (some ⟨rb, 0, none⟩), .int .i64 k] w fun e w' => ∃ j : Nat, e = .returned (.int .i64 j) ∧ j < k ∧ Rd w' rb a n c ∧ w.grownBy w' (some rb) := by
  by_cases h1 : k = 1
  · subst h1
    exact (below_one rb w).mono fun e w' ⟨he, hw⟩ => ⟨0, by rw [he]; rfl, by omega, by rw [hw]; exact h, by rw [hw]; exact grown_refl _ _⟩
  · exact (below_any rb a n c k w h (by omega) (by omega)).mono fun e w' ⟨z, he, z0, z1, hr, hg⟩ => ⟨z.toNat, by rw [he, Int.toNat_of_nonneg z0], by omega, hr, hg⟩
end Go.Proofs.YtcgeafdakaeicaaDoor
