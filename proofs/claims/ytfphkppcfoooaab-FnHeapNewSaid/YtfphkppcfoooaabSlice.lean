/- The two SliceOf at every argument. -/
import Derived.Test.YtfphkppcfoooaabRows
import Derived.WalkKit
import Derived.WalkSpells
import Derived.WalkLawsBesides
import Derived.Deep.QuietTactic
import Derived.BigQuiet
import Derived.Lib.QuietBelow
namespace Go.Proofs.Ytfphkppcfoooaab
open Go.RowKit

def inNum (n : Int) : Bool := decide (-1000000000000000000 ≤ n ∧ n ≤ 1000000000000000000)

def front (n p : Int) : Int := if p < 0 then n + p else p

def firstM (n f : Int) : Int := if front n f < 0 then 0 else front n f
def lastM (n t : Int) : Int := if front n t < n - 1 then front n t else n - 1

/-- The places of a slice: the first, and the one behind the last. -/
def sliceM (n f t : Int) : Int × Int :=
  if n < 0 ∨ inNum n = false ∨ inNum f = false ∨ inNum t = false then (0, 0)
  else if lastM n t < firstM n f then (0, 0) else (firstM n f, lastM n t + 1)

theorem inNum_true {n : Int} (h : inNum n = true) : -1000000000000000000 ≤ n ∧ n ≤ 1000000000000000000 := of_decide_eq_true h

set_option maxHeartbeats 400000 in
theorem numberOk_any (n : Int) (w : World) :
    Calls Try.prog 45 #[.int .i64 n] w fun e w' => e = .returned (.bool (inNum n)) ∧ w' = w := by
  by_cases h1 : -1000000000000000000 ≤ n
  · by_cases h2 : n ≤ 1000000000000000000
    all_goals
      have hd1 : decide (-1000000000000000000 ≤ n) = true := decide_eq_true h1
      go_enter Try.func45, Try.ntmps45
      go_wp2
      go_ret
      exact ⟨by simp [inNum, h1, h2], rfl⟩
  · have hd1 : decide (-1000000000000000000 ≤ n) = false := decide_eq_false h1
    go_enter Try.func45, Try.ntmps45
    go_wp2
    go_ret
    exact ⟨by simp [inNum]; omega, rfl⟩

set_option maxHeartbeats 400000 in
theorem l1In_any (n a b : Int) (w : World) :
    Calls Try.prog 42 #[.int .i64 n, .int .i64 a, .int .i64 b] w fun e w' => e = .returned (.bool (decide (a ≤ n ∧ n ≤ b))) ∧ w' = w := by
  by_cases h1 : a ≤ n
  · by_cases h2 : n ≤ b
    all_goals
      go_enter Try.func42, Try.ntmps42
      go_wp2
      go_ret
      exact ⟨by simp [h1, h2], rfl⟩
  · go_enter Try.func42, Try.ntmps42
    go_wp2
    go_ret
    exact ⟨by simp; omega, rfl⟩

set_option maxHeartbeats 400000 in
theorem front_any (n p : Int) (w : World) (hn : 0 ≤ n) (hn2 : n ≤ 1000000000000000000) (hp : -1000000000000000000 ≤ p) (hp2 : p ≤ 1000000000000000000) :
    Calls Try.prog 46 #[.int .i64 n, .int .i64 p] w fun e w' => e = .returned (.int .i64 (front n p)) ∧ w' = w := by
  by_cases h1 : p < 0
  · go_enter Try.func46, Try.ntmps46
    go_wp2
    go_ret
    exact ⟨by simp [front, h1], rfl⟩
  · go_enter Try.func46, Try.ntmps46
    go_wp2
    go_ret
    exact ⟨by simp [front]; omega, rfl⟩

theorem ret2 {a b : Int} {c : Int × Int} (h : a = c.1) (h2 : b = c.2) : Ending.returned (.tuple #[.int .i64 a, .int .i64 b]) = .returned (.tuple #[.int .i64 c.1, .int .i64 c.2]) := by rw [h, h2]
theorem ret_pair {a b : Int × Int} (h : a = b) : Ending.returned (.tuple #[.int .i64 a.1, .int .i64 a.2]) = .returned (.tuple #[.int .i64 b.1, .int .i64 b.2]) := by rw [h]

set_option maxHeartbeats 1000000 in
theorem implSlice (n f t : Int) (w : World) :
    Calls Try.prog 23 #[.int .i64 n, .int .i64 f, .int .i64 t] w fun e w' => e = .returned (.tuple #[.int .i64 (sliceM n f t).1, .int .i64 (sliceM n f t).2]) ∧ w' = w := by
  by_cases h0 : n < 0
  · have HE : Hid (sliceM n f t = (0, 0)) := by unfold Hid sliceM; rw [if_pos (.inl h0)]
    go_enter Try.func23, Try.ntmps23
    go_wp2
    go_ret2
    exact ⟨by rw [HE.out]; rfl, rfl⟩
  · have hd0 : decide (n < 0) = false := decide_eq_false h0
    cases h1 : inNum n with
    | false =>
      have HE : Hid (sliceM n f t = (0, 0)) := by unfold Hid sliceM; rw [if_pos (.inr (.inl h1))]
      go_enter Try.func23, Try.ntmps23
      go_wp2_with fail
      refine (numberOk_any n w).mono ?_
      rintro e w1 ⟨rfl, rfl⟩
      rw [h1]
      go_wp2
      go_ret2
      exact ⟨by rw [HE.out]; rfl, rfl⟩
    | true => cases h2 : inNum f with
      | false =>
        have HE : Hid (sliceM n f t = (0, 0)) := by unfold Hid sliceM; rw [if_pos (.inr (.inr (.inl h2)))]
        go_enter Try.func23, Try.ntmps23
        go_wp2_with fail
        refine (numberOk_any n w).mono ?_
        rintro e w1 ⟨rfl, rfl⟩
        rw [h1]
        go_wp2_with fail
        refine (numberOk_any f w1).mono ?_
        rintro e w2 ⟨rfl, rfl⟩
        rw [h2]
        go_wp2
        go_ret2
        exact ⟨by rw [HE.out]; rfl, rfl⟩
      | true => cases h3 : inNum t with
        | false =>
          have HE : Hid (sliceM n f t = (0, 0)) := by unfold Hid sliceM; rw [if_pos (.inr (.inr (.inr h3)))]
          go_enter Try.func23, Try.ntmps23
          go_wp2_with fail
          refine (numberOk_any n w).mono ?_
          rintro e w1 ⟨rfl, rfl⟩
          rw [h1]
          go_wp2_with fail
          refine (numberOk_any f w1).mono ?_
          rintro e w2 ⟨rfl, rfl⟩
          rw [h2]
          go_wp2_with fail
          refine (numberOk_any t w2).mono ?_
          rintro e w2 ⟨rfl, rfl⟩
          rw [h3]
          go_wp2
          go_ret2
          exact ⟨by rw [HE.out]; rfl, rfl⟩
        | true =>
          obtain ⟨n1, n2⟩ := inNum_true h1
          obtain ⟨f1, f2⟩ := inNum_true h2
          obtain ⟨t1, t2⟩ := inNum_true h3
          have HE : Hid (sliceM n f t = if lastM n t < firstM n f then (0, 0) else (firstM n f, lastM n t + 1)) := by
            unfold Hid sliceM; rw [if_neg (by simp [h0, h1, h2, h3])]
          obtain ⟨a, ha⟩ : ∃ a, a = front n f := ⟨_, rfl⟩
          obtain ⟨b, hb⟩ : ∃ b, b = front n t := ⟨_, rfl⟩
          have a1 : -1000000000000000000 ≤ a ∧ a ≤ 2000000000000000000 := by subst ha; unfold front; split <;> omega
          have b1 : -1000000000000000000 ≤ b ∧ b ≤ 2000000000000000000 := by subst hb; unfold front; split <;> omega
          have FE : Hid (firstM n f = if a < 0 then 0 else a) := by unfold Hid firstM; rw [ha]
          have LE : Hid (lastM n t = if b < n - 1 then b else n - 1) := by unfold Hid lastM; rw [hb]
          have HA : Hid (front n f = a) := ha.symm
          have HB : Hid (front n t = b) := hb.symm
          clear ha hb
          go_enter Try.func23, Try.ntmps23
          go_wp2_with fail
          refine (numberOk_any n w).mono ?_
          rintro e w1 ⟨rfl, rfl⟩
          rw [h1]
          go_wp2_with fail
          refine (numberOk_any f w1).mono ?_
          rintro e w2 ⟨rfl, rfl⟩
          rw [h2]
          go_wp2_with fail
          refine (numberOk_any t w2).mono ?_
          rintro e w2 ⟨rfl, rfl⟩
          rw [h3]
          go_wp2_with fail
          refine (front_any n f _ (by omega) n2 f1 f2).mono ?_
          rintro e w2 ⟨rfl, rfl⟩
          rw [HA.out]
          go_wp2_with fail
          all_goals
            refine (front_any n t _ (by omega) n2 t1 t2).mono ?_
            rintro e w2 ⟨rfl, rfl⟩
            rw [HB.out]
            go_wp2
            all_goals
              go_ret2
              refine ⟨ret2 ?_ ?_, rfl⟩
              all_goals
                rw [HE.out, FE.out, LE.out]
                repeat' split
                all_goals first | rfl | omega

set_option maxHeartbeats 1000000 in
theorem specSlice (n f t : Int) (w : World) :
    Calls Try.prog 24 #[.int .i64 n, .int .i64 f, .int .i64 t] w fun e w' => e = .returned (.tuple #[.int .i64 (sliceM n f t).1, .int .i64 (sliceM n f t).2]) ∧ w' = w := by
  have E1 : Hid (inNum f = decide (-1000000000000000000 ≤ f ∧ f ≤ 1000000000000000000)) := rfl
  have E2 : Hid (inNum t = decide (-1000000000000000000 ≤ t ∧ t ≤ 1000000000000000000)) := rfl
  by_cases h1 : 0 ≤ n ∧ n ≤ 1000000000000000000
  · have hd1 : decide (0 ≤ n ∧ n ≤ 1000000000000000000) = true := decide_eq_true h1
    have hn : inNum n = true := decide_eq_true (by omega)
    cases h2 : inNum f with
    | false =>
      have HE : Hid (sliceM n f t = (0, 0)) := by unfold Hid sliceM; rw [if_pos (.inr (.inr (.inl h2)))]
      rw [E1.out] at h2
      go_enter Try.func24, Try.ntmps24
      go_wp2_with fail
      refine (l1In_any n _ _ w).mono ?_
      rintro e w1 ⟨rfl, rfl⟩
      rw [hd1]
      go_wp2_with fail
      refine (l1In_any f _ _ w1).mono ?_
      rintro e w1 ⟨rfl, rfl⟩
      rw [h2]
      go_wp2
      go_ret2
      exact ⟨by rw [HE.out]; rfl, rfl⟩
    | true => cases h3 : inNum t with
      | false =>
        have HE : Hid (sliceM n f t = (0, 0)) := by unfold Hid sliceM; rw [if_pos (.inr (.inr (.inr h3)))]
        rw [E1.out] at h2
        rw [E2.out] at h3
        go_enter Try.func24, Try.ntmps24
        go_wp2_with fail
        refine (l1In_any n _ _ w).mono ?_
        rintro e w1 ⟨rfl, rfl⟩
        rw [hd1]
        go_wp2_with fail
        refine (l1In_any f _ _ w1).mono ?_
        rintro e w1 ⟨rfl, rfl⟩
        rw [h2]
        go_wp2_with fail
        refine (l1In_any t _ _ w1).mono ?_
        rintro e w1 ⟨rfl, rfl⟩
        rw [h3]
        go_wp2
        go_ret2
        exact ⟨by rw [HE.out]; rfl, rfl⟩
      | true =>
        obtain ⟨f1, f2⟩ := inNum_true h2
        obtain ⟨t1, t2⟩ := inNum_true h3
        have HE : Hid (sliceM n f t = if lastM n t < firstM n f then (0, 0) else (firstM n f, lastM n t + 1)) := by
          unfold Hid sliceM; rw [if_neg (by simp [hn, h2, h3]; omega)]
        rw [E1.out] at h2
        rw [E2.out] at h3
        have FE : Hid (firstM n f = if (if f < 0 then n + f else f) < 0 then 0 else if f < 0 then n + f else f) := rfl
        have LE : Hid (lastM n t = if (if t < 0 then n + t else t) < n - 1 then (if t < 0 then n + t else t) else n - 1) := rfl
        go_enter Try.func24, Try.ntmps24
        go_wp2_with fail
        refine (l1In_any n _ _ w).mono ?_
        rintro e w1 ⟨rfl, rfl⟩
        rw [hd1]
        go_wp2_with fail
        refine (l1In_any f _ _ w1).mono ?_
        rintro e w1 ⟨rfl, rfl⟩
        rw [h2]
        go_wp2_with fail
        refine (l1In_any t _ _ w1).mono ?_
        rintro e w1 ⟨rfl, rfl⟩
        rw [h3]
        go_wp2
        all_goals
          go_ret2
          refine ⟨ret2 ?_ ?_, rfl⟩
          all_goals
            rw [HE.out, FE.out, LE.out]
            repeat' split
            all_goals first | rfl | omega
  · have hd1 : decide (0 ≤ n ∧ n ≤ 1000000000000000000) = false := decide_eq_false h1
    have HE : Hid (sliceM n f t = (0, 0)) := by
      unfold Hid sliceM
      rw [if_pos (by
        by_cases h : n < 0
        · exact .inl h
        · exact .inr (.inl (decide_eq_false (by omega))))]
    go_enter Try.func24, Try.ntmps24
    go_wp2_with fail
    refine (l1In_any n _ _ w).mono ?_
    rintro e w1 ⟨rfl, rfl⟩
    rw [hd1]
    go_wp2
    go_ret2
    exact ⟨by rw [HE.out]; rfl, rfl⟩
end Go.Proofs.Ytfphkppcfoooaab
