/- A text that is hurt, now and then. -/
import Derived.Test.YtielombpeeelkaaDoorDrawB
import Derived.Deep.RegionWith
import Derived.Deep.Cut
import Derived.Deep.RegionHeld3
namespace Go.Proofs.YtielombpeeelkaaDoor
open Go.RowKit Go.Sort

/-- How the hurting of a text ends: some text, not much longer. -/
def HurtEnd (w : World) (rb : Nat) (a : Option Addr) (n c m : Nat) (e : Ending) (w' : World) : Prop :=
  ∃ s : ByteArray, e = .returned (.string s) ∧ s.size ≤ m ∧ Rd w' rb a n c ∧ w.grownBy w' (some rb)

set_option maxHeartbeats 4000000 in
set_option maxRecDepth 100000 in
theorem hurt_any (rb : Nat) (a : Option Addr) (n c : Nat) (s : ByteArray) (w : World) (h : Rd w rb a n c) (hrb : rb < w.heap.size) (hs : s.size ≤ 60000) :
    Calls Tryd.prog 25 #[.pointer (some ⟨rb, 0, none⟩), .string s] w (HurtEnd w rb a n c (s.size + 20)) := by
  go_enter Tryd.func25, Tryd.ntmps25
  go_wp2_with fail
  refine (below_any rb a n c 6 w h (by omega) (by omega)).mono ?_
  rintro e w1 ⟨k, rfl, k0, k1, r1, g1⟩
  have b1 := grown_lt hrb g1
  have hk : k = 0 ∨ k = 1 ∨ k = 2 ∨ k = 3 ∨ k = 4 ∨ k = 5 := by omega
  clear k0 k1
  rcases hk with rfl | rfl | rfl | rfl | rfl | rfl
  · go_wp2
    go_ret
    exact ⟨s, rfl, by omega, r1, g1⟩
  · have HP := pick_any rb a n c (s.size + 1) w1 r1 (by omega) (by omega)
    have e1 : ((s.size + 1 : Nat) : Int) = (s.size : Int) + 1 := by omega
    rw [e1] at HP
    go_wp2_with fail
    refine HP.mono ?_
    clear HP e1
    rintro e w2 ⟨j, rfl, hj, r2, g2⟩
    have j0 : (0 : Int) ≤ (j : Int) := by omega
    have j1 : (j : Int) ≤ (s.size : Int) := by omega
    go_wp2
    go_ret
    exact ⟨_, rfl, by simp; omega, r2, grown_trans g1 g2⟩
  · by_cases h0 : s.size = 0
    · have hd : ¬ (0 : Int) < (s.size : Int) := by omega
      go_wp2
      go_ret
      exact ⟨s, rfl, by omega, r1, g1⟩
    · have hd : (0 : Int) < (s.size : Int) := by omega
      go_wp2_with fail
      refine (pick_any rb a n c s.size w1 r1 (by omega) (by omega)).mono ?_
      rintro e w2 ⟨j, rfl, hj, r2, g2'⟩
      have g2 := grown_trans g1 g2'
      have b2 := grown_lt b1 g2'
      have j0 : (0 : Int) ≤ (j : Int) := by omega
      have j1 : (j : Int) < (s.size : Int) := by omega
      have j2 : (j : Int) ≤ (s.size : Int) := by omega
      have j3 : (j : Int) + 1 ≤ (s.size : Int) := by omega
      have j4 : (0 : Int) ≤ (j : Int) + 1 := by omega
      have hm1 : min j s.size = j := by omega
      have hj1 : j + 1 ≤ s.size := by omega
      have hj2 : j ≤ s.size := by omega
      have hwj : IntKind.i64.wrap ((j : Int) + 1) = (j : Int) + 1 := by rw [IntKind.wrap_i64]; omega
      have hsm : SmallC #[.string ⟨#[48]⟩, .string ⟨#[49]⟩, .string ⟨#[10]⟩, .string ⟨#[13]⟩, .string ⟨#[42]⟩, .string ⟨#[36]⟩] := small_of [⟨#[48]⟩, ⟨#[49]⟩, ⟨#[10]⟩, ⟨#[13]⟩, ⟨#[42]⟩, ⟨#[36]⟩] (by decide)
      have HA : Hid (Calls Tryd.prog 21 #[.pointer (some ⟨rb, 0, none⟩), .int .i64 6] w2.drew fun e w3 => ∃ (z : Nat) (t : ByteArray), e = .returned (.int .i64 z) ∧ z < 6 ∧ t.size ≤ 20 ∧ (w3.alloc (.cells #[.string ⟨#[48]⟩, .string ⟨#[49]⟩, .string ⟨#[10]⟩, .string ⟨#[13]⟩, .string ⟨#[42]⟩, .string ⟨#[36]⟩] 9)).cell? ⟨w3.heap.size, z, none⟩ = some (.string t) ∧ Rd (w3.alloc (.cells #[.string ⟨#[48]⟩, .string ⟨#[49]⟩, .string ⟨#[10]⟩, .string ⟨#[13]⟩, .string ⟨#[42]⟩, .string ⟨#[36]⟩] 9)) rb a n c ∧ w.grownBy (w3.alloc (.cells #[.string ⟨#[48]⟩, .string ⟨#[49]⟩, .string ⟨#[10]⟩, .string ⟨#[13]⟩, .string ⟨#[42]⟩, .string ⟨#[36]⟩] 9)) (some rb)) := by
        have rA : Rd w2.drew rb a n c := r2.below (B := rb + 1) (Below.refl _ w2).drew (by omega)
        have gA : w2.grownBy w2.drew (some rb) := ⟨rfl, rfl, rfl, Nat.le_refl _, fun _ _ _ => rfl⟩
        refine (pick_any rb a n c 6 w2.drew rA (by omega) (by omega)).mono ?_
        rintro e w3 ⟨z, rfl, hz, r3, g3⟩
        have bb : Below w3.heap.size w3 (w3.alloc (.cells #[.string ⟨#[48]⟩, .string ⟨#[49]⟩, .string ⟨#[10]⟩, .string ⟨#[13]⟩, .string ⟨#[42]⟩, .string ⟨#[36]⟩] 9)) := (Below.refl _ w3).alloc (Nat.le_refl _) _
        obtain ⟨t, hc, ht⟩ := pick_cell (RowAt.new w3 9 #[.string ⟨#[48]⟩, .string ⟨#[49]⟩, .string ⟨#[10]⟩, .string ⟨#[13]⟩, .string ⟨#[42]⟩, .string ⟨#[36]⟩]) hsm z (by simpa using hz)
        exact ⟨z, t, rfl, hz, ht, hc, r3.below bb (grown_lt (w := w2.drew) b2 g3), grown_below (grown_trans g2 (grown_trans gA g3)) bb⟩
      have HB : Hid (Calls Tryd.prog 21 #[.pointer (some ⟨rb, 0, none⟩), .int .i64 6] (w2.drew.alloc (.cells #[.string ⟨#[48]⟩, .string ⟨#[49]⟩, .string ⟨#[10]⟩, .string ⟨#[13]⟩, .string ⟨#[42]⟩, .string ⟨#[36]⟩] 9)) fun e w3 => ∃ (z : Nat) (t : ByteArray), e = .returned (.int .i64 z) ∧ z < 6 ∧ t.size ≤ 20 ∧ w3.cell? ⟨w2.heap.size, z, none⟩ = some (.string t) ∧ Rd w3 rb a n c ∧ w.grownBy w3 (some rb)) := by
        have hlB := RowAt.new w2.drew 9 #[.string ⟨#[48]⟩, .string ⟨#[49]⟩, .string ⟨#[10]⟩, .string ⟨#[13]⟩, .string ⟨#[42]⟩, .string ⟨#[36]⟩]
        have bB : Below w2.heap.size w2 (w2.drew.alloc (.cells #[.string ⟨#[48]⟩, .string ⟨#[49]⟩, .string ⟨#[10]⟩, .string ⟨#[13]⟩, .string ⟨#[42]⟩, .string ⟨#[36]⟩] 9)) := (Below.refl _ w2).drew.alloc (Nat.le_refl _) _
        refine (pick_any rb a n c 6 _ (r2.below bB b2) (by omega) (by omega)).mono ?_
        rintro e w3 ⟨z, rfl, hz, r3, g3⟩
        obtain ⟨t, hc, ht⟩ := pick_cell (row_read hlB g3 (by show w2.heap.size ≠ rb; omega)) hsm z (by simpa using hz)
        exact ⟨z, t, rfl, hz, ht, hc, r3, grown_trans (grown_below g2 bB) g3⟩
      clear hsm r2 g2' r1 g1
      go_upto_region 7 with fail
      go_region_with (go_at_call 21
                      first
                      | refine HA.out.mono ?_
                      | refine HB.out.mono ?_
                      rintro e w3 ⟨z, t, rfl, hz, ht, hc, r4, g4⟩
                      have z0 : (0 : Int) ≤ (z : Int) := by omega
                      have z1 : (z : Int) < 6 := by omega
                      have hc1 : ¬ 9223372036854775807 < j + t.size := by omega
                      have hc2 : ¬ 9223372036854775807 < j + t.size + (s.size - (j + 1)) := by omega)
      all_goals
        go_wp2
        go_ret
        exact ⟨_, rfl, by simp only [ByteArray.size_append, ByteArray.size_extract]; omega, r4, g4⟩
  · go_wp2_with fail
    refine (bytes_any rb a n c w1 r1 b1).mono ?_
    rintro e w2 ⟨t, rfl, hz, r2, g2⟩
    go_wp2
    go_ret
    exact ⟨_, rfl, by rw [ByteArray.size_append]; omega, r2, grown_trans g1 g2⟩
  · go_wp2
    go_ret
    exact ⟨s, rfl, by omega, r1, g1⟩
  · go_wp2
    go_ret
    exact ⟨s, rfl, by omega, r1, g1⟩
end Go.Proofs.YtielombpeeelkaaDoor
