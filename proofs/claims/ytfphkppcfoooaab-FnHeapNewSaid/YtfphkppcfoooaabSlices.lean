/- PROVED: FnSlices returns true at every list of bytes, and leaves it as it was. No condition. -/
import Derived.Test.YtfphkppcfoooaabDraw
namespace Go.Proofs.Ytfphkppcfoooaab
open Go.RowKit

set_option maxHeartbeats 400000 in
theorem big_any (a : Option Addr) (n c : Nat) (w : World) (hn : n ≤ 9223372036854775807) :
    Calls Try.prog 7 #[.slice a n c] w fun e w' => e = .returned (.bool (decide (1048576 < n))) ∧ w' = w := by
  by_cases h : 1048576 < n
  all_goals
    go_enter Try.func7, Try.ntmps7
    go_wp2
    go_ret
    exact ⟨by simp [h] <;> omega, rfl⟩

def DrawnEnd (w : World) (e : Ending) (w' : World) : Prop :=
  ∃ x y z : Int, e = .returned (.tuple #[.int .i64 x, .int .i64 y, .int .i64 z]) ∧ -9223372036854775808 ≤ x ∧ x ≤ 9223372036854775807 ∧ -9223372036854775808 ≤ y ∧ y ≤ 9223372036854775807 ∧ -9223372036854775808 ≤ z ∧ z ≤ 9223372036854775807 ∧ Below w.heap.size w w'

set_option maxHeartbeats 1000000 in
theorem drawSlice (a : Option Addr) (n c : Nat) (w : World) (hn : n ≤ 9223372036854775807) (hb : BytesIn w a n w.heap.size) :
    Calls Try.prog 22 #[.slice a n c] w (DrawnEnd w) := by
  go_enter Try.func22, Try.ntmps22
  go_wp2_with fail
  refine (open_any a n c w hn hb).mono ?_
  rintro e w1 ⟨rfl, r1, b1⟩
  have hz : w.heap.size ≤ w1.heap.size := b1.size
  go_wp2_with fail
  refine (below_any w.heap.size a n c 8 w1 r1 (by omega) (by omega)).mono ?_
  rintro e w2 ⟨k, rfl, k0, k1, r2, g2⟩
  go_wp2_with fail
  refine (once_any w.heap.size a n c 12 w2 r2 (by omega) (by omega)).mono ?_
  rintro e w3 ⟨b, rfl, r3, g3⟩
  have g13 := grown_trans g2 g3
  cases b with
  | true =>
    go_wp2_with fail
    refine (off_any w.heap.size a n c _ _ w3 r3 (by omega) (by omega) (by omega)).mono ?_
    rintro e w4 ⟨k4, rfl, k40, k41, r4, g4⟩
    go_wp2_with fail
    refine (off_any w.heap.size a n c _ _ w4 r4 (by omega) (by omega) (by omega)).mono ?_
    rintro e w5 ⟨k5, rfl, k50, k51, r5, g5⟩
    have g := grown_trans g13 (grown_trans g4 g5)
    go_wp2
    go_ret3
    exact ⟨_, _, _, rfl, by omega, by omega, by omega, by omega, by omega, by omega, b1.trans (below_of_grown g (Nat.le_refl _) hz)⟩
  | false =>
    go_wp2_with fail
    refine (below_any w.heap.size a n c 20 w3 r3 (by omega) (by omega)).mono ?_
    rintro e w4 ⟨k4, rfl, k40, k41, r4, g4⟩
    go_wp2_with fail
    refine (below_any w.heap.size a n c 20 w4 r4 (by omega) (by omega)).mono ?_
    rintro e w5 ⟨k5, rfl, k50, k51, r5, g5⟩
    have g := grown_trans g13 (grown_trans g4 g5)
    go_wp2
    go_ret3
    exact ⟨_, _, _, rfl, by omega, by omega, by omega, by omega, by omega, by omega, b1.trans (below_of_grown g (Nat.le_refl _) hz)⟩

/-- Is place i between the two ends? -/
def inS (n f t i : Int) : Prop := ((f ≤ i ∧ 0 ≤ f) ∨ (f + n ≤ i ∧ f < 0)) ∧ ((i ≤ t ∧ 0 ≤ t) ∨ (i ≤ t + n ∧ t < 0))

theorem inS_slice (n f t i : Int) (hn : 0 ≤ n) (hn2 : n ≤ 20) (hf : -100 ≤ f) (hf2 : f ≤ 100) (ht : -100 ≤ t) (ht2 : t ≤ 100) (hi : 0 ≤ i) (hi2 : i < n) :
    inS n f t i ↔ (sliceM n f t).1 ≤ i ∧ i < (sliceM n f t).2 := by
  unfold sliceM
  rw [if_neg (by simp [inNum]; omega)]
  unfold inS firstM lastM front
  repeat' split
  all_goals first | omega | (simp; omega)

theorem slice_ends (n f t : Int) (hn : 0 ≤ n) (hn2 : n ≤ 20) (hf : -100 ≤ f) (hf2 : f ≤ 100) (ht : -100 ≤ t) (ht2 : t ≤ 100) :
    0 ≤ (sliceM n f t).1 ∧ (sliceM n f t).1 ≤ (sliceM n f t).2 ∧ (sliceM n f t).2 ≤ n := by
  unfold sliceM
  rw [if_neg (by simp [inNum]; omega)]
  unfold firstM lastM front
  repeat' split
  all_goals first | omega | (simp; omega)

set_option maxHeartbeats 4000000 in
set_option maxRecDepth 100000 in
theorem slices_walk (a : Option Addr) (n c : Nat) (w : World) (hn : n ≤ 9223372036854775807) (hb : BytesIn w a n w.heap.size) :
    Calls Try.prog 6 #[.slice a n c] w fun e w' => e = .returned (.bool true) ∧ Below w.heap.size w w' := by
  by_cases hbig : 1048576 < n
  · have hd : decide (1048576 < n) = true := decide_eq_true hbig
    go_enter Try.func6, Try.ntmps6
    go_wp2_with fail
    refine (big_any a n c w hn).mono ?_
    rintro e w1 ⟨rfl, rfl⟩
    rw [hd]
    go_wp2
    go_ret
    exact ⟨rfl, Below.refl _ _⟩
  · have hd : decide (1048576 < n) = false := decide_eq_false hbig
    go_enter Try.func6, Try.ntmps6
    go_wp2_with fail
    refine (big_any a n c w hn).mono ?_
    rintro e w1 ⟨rfl, rfl⟩
    rw [hd]
    go_wp2_with fail
    refine (drawSlice a n c w1 hn hb).mono ?_
    rintro e w2 ⟨x, y, z, rfl, x0, x1, y0, y1, z0, z1, b2⟩
    go_wp2_with fail
    refine (implSlice x y z w2).mono ?_
    rintro e w3 ⟨rfl, rfl⟩
    have HS : Hid (∀ i, 0 ≤ x → x ≤ 20 → -100 ≤ y → y ≤ 100 → -100 ≤ z → z ≤ 100 → 0 ≤ i → i < x → (inS x y z i ↔ (sliceM x y z).1 ≤ i ∧ i < (sliceM x y z).2)) := fun i h1 h2 h3 h4 h5 h6 h7 h8 => inS_slice x y z i h1 h2 h3 h4 h5 h6 h7 h8
    have HT : Hid (0 ≤ x → x ≤ 20 → -100 ≤ y → y ≤ 100 → -100 ≤ z → z ≤ 100 → 0 ≤ (sliceM x y z).1 ∧ (sliceM x y z).1 ≤ (sliceM x y z).2 ∧ (sliceM x y z).2 ≤ x) := fun h1 h2 h3 h4 h5 h6 => slice_ends x y z h1 h2 h3 h4 h5 h6
    have HC := specSlice x y z w3
    generalize (sliceM x y z).1 = p at *
    generalize (sliceM x y z).2 = q at *
    go_wp2_with fail
    refine HC.mono ?_
    rintro e w4 ⟨rfl, rfl⟩
    clear HC
    by_cases hin : 0 ≤ x ∧ x ≤ 20 ∧ -100 ≤ y ∧ y ≤ 100 ∧ -100 ≤ z ∧ z ≤ 100
    · obtain ⟨h1, h2, h3, h4, h5, h6⟩ := hin
      obtain ⟨p0, pq, qx⟩ := HT.out h1 h2 h3 h4 h5 h6
      have HU : Hid (∀ i, 0 ≤ i → i < x → (inS x y z i ↔ p ≤ i ∧ i < q)) := fun i hi hi2 => HS.out i h1 h2 h3 h4 h5 h6 hi hi2
      clear HT HS
      have d1 : decide (x < 0) = false := by simp; omega
      have d2 : decide (20 < x) = false := by simp; omega
      have d3 : decide (y < -100) = false := by simp; omega
      have d4 : decide (100 < y) = false := by simp; omega
      have d5 : decide (z < -100) = false := by simp; omega
      have d6 : decide (100 < z) = false := by simp; omega
      go_wp2
      go_loop [10, 11] (fun i _ => ∃ k : Nat, (k : Int) ≤ x ∧ i = .int .i64 k) (fun i _ => x.toNat - (intOf i).toNat)
      case atStart => exact ⟨0, by omega, rfl⟩
      case round =>
        obtain ⟨k, hk, rfl⟩ := hrel
        by_cases hlt : (k : Int) < x
        · have HV : Hid ((((y ≤ (k : Int) ∧ 0 ≤ y) ∨ (y + x ≤ k ∧ y < 0)) ∧ (((k : Int) ≤ z ∧ 0 ≤ z) ∨ ((k : Int) ≤ z + x ∧ z < 0))) ↔ (p ≤ k ∧ (k : Int) < q)) := HU.out k (by omega) hlt
          by_cases kq : (k : Int) < q <;> by_cases hz : z < 0
          all_goals
            go_wp2
            all_goals first
              | (exfalso; have := HV.out; omega)
              | (go_round
                 · exact ⟨k + 1, by omega, by go_num⟩
                 · simp [intOf]; omega)
        · have e1 : decide (0 ≤ p) = true := by simp; omega
          go_wp2
          go_ret
          exact ⟨rfl, b2⟩
    · clear HS HT
      go_wp2
      all_goals first | (exfalso; omega) | (go_ret; exact ⟨rfl, b2⟩)
end Go.Proofs.Ytfphkppcfoooaab
