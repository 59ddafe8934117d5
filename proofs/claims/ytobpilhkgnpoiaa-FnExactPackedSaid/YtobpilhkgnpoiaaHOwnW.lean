/- Cells that a slice owns are marked and held: walked. -/
import Derived.Test.YtobpilhkgnpoiaaHOwn
namespace Go.Proofs.Ytobpilhkgnpoiaa
open Go.RowKit Go.Sort

theorem owns_at {w : World} {B n cap A k j : Nat} {xs : List Value} {v : Value} (h : w.ownsRow B 64 4 (.slice (some ⟨A, 0, none⟩) n cap) n xs) (e : xs[k * 4 + j]? = some v) : w.cell? ⟨A, k * 4 + j, none⟩ = some v := by
  have := h.cells rfl (k * 4 + j) _ e
  rwa [Addr.add_lit, Nat.zero_add] at this

theorem grown_own {w w1 : World} {A : Nat} {u : Value} {j : Nat} (h : w.grownBy w1 (some A)) : w.grownBy (w1.setCell ⟨A, j, none⟩ u) (some A) := grown_set1 h

theorem mod_same (K : Nat) : decide ((K + 3) % 3 = 0) = (((K : Int) + 1 + 1 + 1) % 3 == 0) := by
  rw [Bool.eq_iff_iff, decide_eq_true_iff, beq_iff_eq]
  omega

set_option maxHeartbeats 4000000 in
set_option maxRecDepth 100000 in
theorem mark_any (A n cap B k0 : Nat) (L : List Cl) (w : World) (h : w.ownsRow B 64 4 (.slice (some ⟨A, 0, none⟩) n cap) n (flatC L)) (hn : n ≤ 1048576) (hk0 : k0 ≤ 100000000) :
    Calls Try.prog 37 #[.slice (some ⟨A, 0, none⟩) n cap, .int .i64 k0] w fun e w' => e = .returned (.int .i64 (k0 + 4 * n : Nat)) ∧ w'.ownsRow B 64 4 (.slice (some ⟨A, 0, none⟩) n cap) n (flatC (marks k0 n)) ∧ w.grownBy w' (some A) := by
  have hl : L.length = n := by
    have := h.1
    rw [flatC_len] at this
    omega
  have HL : Hid (L.length = n) := hl
  clear hl
  go_enter Try.func37, Try.ntmps37
  go_wp2
  go_loopw [1, 5] (fun kv i wr => ∃ m : Nat, m ≤ n ∧ i = .int .i64 m ∧ kv = .int .i64 (k0 + 4 * m : Nat) ∧ wr.ownsRow B 64 4 (.slice (some ⟨A, 0, none⟩) n cap) n (flatC (half k0 m L)) ∧ w.grownBy wr (some A)) (fun _ i _ => n - (intOf i).toNat)
  case atStart => exact ⟨0, by omega, rfl, rfl, h, grown_refl _ _⟩
  case round =>
    obtain ⟨m, hm, rfl, rfl, hown, gr⟩ := hrel
    by_cases hlt : m < n
    · have HN : Hid (half k0 (m + 1) L = (half k0 m L).set m ⟨(k0 + 4 * m : Nat), (k0 + 4 * m + 1 : Nat), (k0 + 4 * m + 2 : Nat), decide ((k0 + 4 * m + 3) % 3 = 0)⟩) := half_next k0 m L (by rw [HL.out]; exact hlt)
      have hhl : (half k0 m L).length = n := (half_len k0 m L (by rw [HL.out]; exact hm)).trans HL.out
      generalize hK : k0 + 4 * m = K at *
      have hKb : K ≤ 105000000 := by omega
      generalize half k0 m L = M at *
      have q0 := flatC_at M m 0 (by omega) (by omega)
      have q1 := flatC_at M m 1 (by omega) (by omega)
      have q2 := flatC_at M m 2 (by omega) (by omega)
      have q3 := flatC_at M m 3 (by omega) (by omega)
      simp only [Nat.add_zero] at q0
      generalize M.getD m cl0 = y at *
      have o1 := owns_set (j := m * 4) (u := .int .i64 (K : Nat)) hown
      have o2 := owns_set (j := m * 4 + 1) (u := .int .i64 ((K : Int) + 1)) o1
      have o3 := owns_set (j := m * 4 + 2) (u := .int .i64 ((K : Int) + 1 + 1)) o2
      have o4 := owns_set (j := m * 4 + 3) (u := .bool (((K : Int) + 1 + 1 + 1) % 3 == 0)) o3
      have t0 : wr.cell? ⟨A, m * 4, none⟩ = some (.int .i64 y.pos) := owns_at (k := m) (j := 0) hown q0
      have f0 := owns_frozen hown (m * 4)
      have t1 : (wr.setCell ⟨A, m * 4, none⟩ (.int .i64 (K : Nat))).cell? ⟨A, m * 4 + 1, none⟩ = some (.int .i64 y.len) := owns_at (k := m) (j := 1) o1 (by rw [List.getElem?_set_ne (by omega)]; exact q1)
      have f1 := owns_frozen o1 (m * 4 + 1)
      have t2 := owns_at (k := m) (j := 2) (v := .int .i64 y.gen) o2 (by rw [List.getElem?_set_ne (by omega), List.getElem?_set_ne (by omega)]; exact q2)
      have f2 := owns_frozen o2 (m * 4 + 2)
      have t3 := owns_at (k := m) (j := 3) (v := .bool y.live) o3 (by rw [List.getElem?_set_ne (by omega), List.getElem?_set_ne (by omega), List.getElem?_set_ne (by omega)]; exact q3)
      have f3 := owns_frozen o3 (m * 4 + 3)
      have HO : Hid ((((((wr.setCell ⟨A, m * 4, none⟩ (.int .i64 (K : Nat))).setCell ⟨A, m * 4 + 1, none⟩ (.int .i64 ((K : Int) + 1))).setCell ⟨A, m * 4 + 2, none⟩ (.int .i64 ((K : Int) + 1 + 1))).setCell ⟨A, m * 4 + 3, none⟩ (.bool (((K : Int) + 1 + 1 + 1) % 3 == 0)))).ownsRow B 64 4 (.slice (some ⟨A, 0, none⟩) n cap) n (flatC (half k0 (m + 1) L))) := by
        unfold Hid
        rw [HN.out, ← flatC_set M m _ (by omega)]
        simp only
        rw [mod_same]
        exact o4
      have HG : Hid (w.grownBy ((((wr.setCell ⟨A, m * 4, none⟩ (.int .i64 (K : Nat))).setCell ⟨A, m * 4 + 1, none⟩ (.int .i64 ((K : Int) + 1))).setCell ⟨A, m * 4 + 2, none⟩ (.int .i64 ((K : Int) + 1 + 1))).setCell ⟨A, m * 4 + 3, none⟩ (.bool (((K : Int) + 1 + 1 + 1) % 3 == 0))) (some A)) := grown_set1 (grown_set1 (grown_set1 (grown_set1 gr)))
      have HK : Hid (k0 + 4 * m = K) := hK
      clear o1 o2 o3 o4 q0 q1 q2 q3 hown gr hK hhl
      go_wp2
      go_roundw
      case rel => exact ⟨m + 1, by omega, by go_num, congrArg (Value.int .i64) (by have := HK.out; omega), HO.out, HG.out⟩
      case measure => simp [intOf]; omega
    · obtain rfl : m = n := by omega
      have HE : Hid (half k0 m L = marks k0 m) := by
        unfold Hid half
        rw [List.drop_eq_nil_of_le (by rw [HL.out]; exact Nat.le_refl _), List.append_nil]
      go_wp2
      go_ret
      exact ⟨rfl, by rw [← HE.out]; exact hown, gr⟩

set_option maxHeartbeats 4000000 in
set_option maxRecDepth 100000 in
theorem held_any (A n cap B k0 : Nat) (w : World) (h : w.ownsRow B 64 4 (.slice (some ⟨A, 0, none⟩) n cap) n (flatC (marks k0 n))) (hn : n ≤ 1048576) (hk0 : k0 ≤ 100000000) :
    Calls Try.prog 38 #[.slice (some ⟨A, 0, none⟩) n cap, .int .i64 k0] w fun e w' => e = .returned (.int .i64 (k0 + 4 * n : Nat)) ∧ w' = w := by
  have HM : Hid (∀ m, m < n → ClAt w A (m * 4) ⟨(k0 + 4 * m : Nat), (k0 + 4 * m + 1 : Nat), (k0 + 4 * m + 2 : Nat), decide ((k0 + 4 * m + 3) % 3 = 0)⟩) := fun m hm => by
    have := (owns_cellsIn h).cell m hm
    rwa [marks_at n k0 m hm, Nat.zero_add] at this
  clear h
  go_enter Try.func38, Try.ntmps38
  go_wp2
  go_loop [1, 5] (fun kv i => ∃ m : Nat, m ≤ n ∧ i = .int .i64 m ∧ kv = .int .i64 (k0 + 4 * m : Nat)) (fun _ i => n - (intOf i).toNat)
  case atStart => exact ⟨0, by omega, rfl, rfl⟩
  case round =>
    obtain ⟨m, hm, rfl, rfl⟩ := hrel
    by_cases hlt : m < n
    · have hx := HM.out m hlt
      have HK : Hid (k0 + 4 * (m + 1) = k0 + 4 * m + 4) := by unfold Hid; omega
      generalize hK : k0 + 4 * m = K at *
      have hKb : K ≤ 105000000 := by omega
      have c0 : w.cell? ⟨A, m * 4, none⟩ = some (.int .i64 (K : Nat)) := hx.c0
      have c1 : w.cell? ⟨A, m * 4 + 1, none⟩ = some (.int .i64 ((K : Int) + 1)) := hx.c1
      have c2 : w.cell? ⟨A, m * 4 + 2, none⟩ = some (.int .i64 ((K : Int) + 1 + 1)) := hx.c2.trans (by congr 2)
      have c3 : w.cell? ⟨A, m * 4 + 3, none⟩ = some (.bool (((K : Int) + 1 + 1 + 1) % 3 == 0)) := hx.c3.trans (by rw [← mod_same])
      clear hx hK
      go_wp2
      go_round
      · exact ⟨m + 1, by omega, by go_num, congrArg (Value.int .i64) (by have := HK.out; omega)⟩
      · simp [intOf]; omega
    · obtain rfl : m = n := by omega
      go_wp2
      go_ret
      exact ⟨rfl, rfl⟩
end Go.Proofs.Ytobpilhkgnpoiaa
