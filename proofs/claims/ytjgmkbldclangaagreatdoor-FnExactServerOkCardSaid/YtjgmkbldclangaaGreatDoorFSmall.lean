/- Contracts of the small helpers over a slice of strings that came in: szStringS, l2Args, argsOk, eqStringS. -/
import Derived.Test.YtjgmkbldclangaaGreatDoorRows
import Derived.WalkKit
import Derived.WalkSpells
import Derived.WalkLawsBesides
import Derived.Deep.QuietTactic
import Derived.BigQuiet
namespace Go.Proofs.YtjgmkbldclangaaGreatDoor.Fd
open Go.RowKit

/-- A slice value reads as the strings ss in the world w: as many elements, each cell at its place; each string no longer than the greatest int. -/
structure StrsIn (w : World) (a : Option Addr) (b off n : Nat) (ss : List ByteArray) : Prop where
  len : ss.length = n
  addr : 0 < n → a = some ⟨b, off, none⟩
  low : 0 < n → b < w.heap.size
  cell : ∀ i, i < n → w.cell? ⟨b, off + i, none⟩ = some (.string (ss.getD i ByteArray.empty))
  fit : ∀ i, i < n → (ss.getD i ByteArray.empty).size ≤ 9223372036854775807

theorem ret_bool {a b : Bool} (h : a = b) : Ending.returned (.bool a) = .returned (.bool b) := by rw [h]
theorem ret_str {a b : ByteArray} (h : a = b) : Ending.returned (.string a) = .returned (.string b) := by rw [h]

def tot (ss : List ByteArray) : Nat := (ss.map ByteArray.size).sum

theorem tot_take_succ (ss : List ByteArray) (k : Nat) (h : k < ss.length) : tot (ss.take (k + 1)) = tot (ss.take k) + (ss.getD k ByteArray.empty).size := by
  unfold tot
  rw [List.take_succ_eq_append_getElem h, List.map_append, List.sum_append, List.getD_eq_getElem?_getD, List.getElem?_eq_getElem h]
  simp only [List.map_cons, List.map_nil, List.sum_cons, List.sum_nil, Option.getD_some, Nat.add_zero]

set_option maxHeartbeats 400000 in
/-- szStringS at the bound that the laws give it: below nought, or what is left, and then the lengths are told. -/
theorem sz_any (a : Option Addr) (b off n c : Nat) (ss : List ByteArray) (left : Int) (w : World) (h : StrsIn w a b off n ss) (hn : n ≤ 9223372036854775807) (h0 : 0 ≤ left) (h1 : left ≤ 2097152) :
    Calls Tryz.prog 55 #[.slice a n c, .int .i64 left] w fun e w' => (∃ r : Int, e = .returned (.int .i64 r) ∧ (r < 0 ∨ ((n : Int) + tot ss + r = left))) ∧ w' = w := by
  by_cases hneg : left - (n : Int) < 0
  · go_enter Tryz.func55, Tryz.ntmps55
    go_wp2
    go_ret
    exact ⟨⟨-1, rfl, .inl (by omega)⟩, rfl⟩
  · go_enter Tryz.func55, Tryz.ntmps55
    go_wp2
    go_loop [1, 5] (fun q i => ∃ (k : Nat) (l : Int), k ≤ n ∧ i = .int .i64 k ∧ q = .int .i64 l ∧ 0 ≤ l ∧ l ≤ left ∧ (n : Int) + tot (ss.take k) + l = left) (fun _ i => n - (intOf i).toNat)
    case atStart => exact ⟨0, left - n, by omega, rfl, rfl, by omega, by omega, by simp [tot]; omega⟩
    case round =>
      obtain ⟨k, l, hk, rfl, rfl, hl0, hl1, hl⟩ := hrel
      by_cases hlt : k < n
      · obtain rfl := h.addr (by omega)
        have hc := h.cell k hlt
        have hf := h.fit k hlt
        have ht := tot_take_succ ss k (by rw [h.len]; exact hlt)
        have HL : Hid (((n : Int) + tot (ss.take k) + l = left) ∧ tot (ss.take (k + 1)) = tot (ss.take k) + (ss.getD k ByteArray.empty).size) := ⟨hl, ht⟩
        clear hl ht
        generalize ss.getD k ByteArray.empty = s at *
        go_wp2
        · go_ret
          exact ⟨⟨-1, rfl, .inl (by omega)⟩, rfl⟩
        · go_round
          case rel => 
            obtain ⟨hl, ht⟩ := HL.out
            exact ⟨k + 1, l - s.size, by omega, by go_num, by go_num, by omega, by omega, by rw [ht]; omega⟩
          case measure => simp [intOf]; omega
      · go_wp2
        go_ret
        have : k = n := by omega
        subst this
        exact ⟨⟨l, rfl, .inr (by rw [List.take_of_length_le (by rw [h.len]; exact Nat.le_refl _)] at hl; exact hl)⟩, rfl⟩

def okArgs (ss : List ByteArray) : Bool := decide (ss.length ≤ 16) && ss.all fun s => decide (s.size ≤ 200)

theorem all_take_succ (ss : List ByteArray) (p : ByteArray → Bool) (k : Nat) (h : k < ss.length) : (ss.take (k + 1)).all p = ((ss.take k).all p && p (ss.getD k ByteArray.empty)) := by
  rw [List.take_succ_eq_append_getElem h, List.all_append, List.getD_eq_getElem?_getD, List.getElem?_eq_getElem h]
  simp

theorem all_false_of_take (ss : List ByteArray) (p : ByteArray → Bool) (k : Nat) (h : (ss.take k).all p = false) : ss.all p = false := by
  rw [← List.take_append_drop k ss, List.all_append, h, Bool.false_and]

set_option maxHeartbeats 400000 in
theorem args46 (a : Option Addr) (b off n c : Nat) (ss : List ByteArray) (w : World) (h : StrsIn w a b off n ss) (hn : n ≤ 2097152) :
    Calls Tryz.prog 24 #[.slice a n c] w fun e w' => e = .returned (.bool (okArgs ss)) ∧ w' = w := by
  go_enter Tryz.func24, Tryz.ntmps24
  go_wp2
  go_loop [3] (fun i => ∃ (k : Nat), k ≤ n ∧ i = .int .i64 k ∧ ((ss.take k).all fun s => decide (s.size ≤ 200)) = true) (fun i => n - (intOf i).toNat)
  case atStart => exact ⟨0, by omega, rfl, by simp⟩
  case round =>
    obtain ⟨k, hk, rfl, hall⟩ := hrel
    by_cases hlt : k < n
    · obtain rfl := h.addr (by omega)
      have hc := h.cell k hlt
      have hf := h.fit k hlt
      have HA : Hid (((ss.take (k + 1)).all fun s => decide (s.size ≤ 200)) = (true && decide ((ss.getD k ByteArray.empty).size ≤ 200))) := by
        unfold Hid; rw [all_take_succ ss _ k (by rw [h.len]; exact hlt), hall]
      clear hall
      generalize ss.getD k ByteArray.empty = s at *
      go_wp2
      · go_ret
        have hbig : 200 < (s.size : Int) := by assumption
        have e1 := all_false_of_take ss _ (k + 1) (HA.out.trans (by simp; omega))
        exact ⟨ret_bool (by rw [okArgs, e1, Bool.and_false]), rfl⟩
      · go_round
        case rel => exact ⟨k + 1, by omega, by go_num, HA.out.trans (by simp; omega)⟩
        case measure => simp [intOf]; omega
    · have HA : Hid ((ss.take k).all (fun s => decide (s.size ≤ 200)) = true) := hall
      clear hall
      go_wp2
      go_ret
      have : k = n := by omega
      subst this
      have e1 := HA.out
      rw [List.take_of_length_le (by rw [h.len]; exact Nat.le_refl _)] at e1
      have hl := h.len
      refine ⟨ret_bool ?_, rfl⟩
      rw [okArgs, e1, Bool.and_true, Bool.eq_iff_iff]
      simp
      omega

set_option maxHeartbeats 400000 in
theorem bulks76 (a : Option Addr) (b off n c : Nat) (ss : List ByteArray) (w : World) (h : StrsIn w a b off n ss) (hn : n ≤ 2097152) :
    Calls Tryz.prog 95 #[.slice a n c] w fun e w' => e = .returned (.bool (ss.all fun s => decide (s.size ≤ 200))) ∧ w' = w := by
  go_enter Tryz.func95, Tryz.ntmps95
  go_wp2
  go_loop [4, 7] (fun _ i => ∃ (k : Nat), k ≤ n ∧ i = .int .i64 k ∧ ((ss.take k).all fun s => decide (s.size ≤ 200)) = true) (fun _ i => n - (intOf i).toNat)
  case atStart => exact ⟨0, by omega, rfl, by simp⟩
  case round =>
    obtain ⟨k, hk, rfl, hall⟩ := hrel
    by_cases hlt : k < n
    · obtain rfl := h.addr (by omega)
      have hc := h.cell k hlt
      have hf := h.fit k hlt
      have HA : Hid (((ss.take (k + 1)).all fun s => decide (s.size ≤ 200)) = (true && decide ((ss.getD k ByteArray.empty).size ≤ 200))) := by
        unfold Hid; rw [all_take_succ ss _ k (by rw [h.len]; exact hlt), hall]
      clear hall
      generalize ss.getD k ByteArray.empty = s at *
      go_wp2
      · go_ret
        have hbig : 200 < (s.size : Int) := by assumption
        have e1 := all_false_of_take ss _ (k + 1) (HA.out.trans (by simp; omega))
        exact ⟨ret_bool e1.symm, rfl⟩
      · go_round
        case rel => exact ⟨k + 1, by omega, by go_num, HA.out.trans (by simp; omega)⟩
        case measure => simp [intOf]; omega
    · have HA : Hid ((ss.take k).all (fun s => decide (s.size ≤ 200)) = true) := hall
      clear hall
      go_wp2
      go_ret
      have : k = n := by omega
      subst this
      have e1 := HA.out
      rw [List.take_of_length_le (by rw [h.len]; exact Nat.le_refl _)] at e1
      exact ⟨ret_bool e1.symm, rfl⟩

set_option maxHeartbeats 400000 in
theorem args48 (a : Option Addr) (b off n c : Nat) (ss : List ByteArray) (w : World) (h : StrsIn w a b off n ss) (hn : n ≤ 2097152) :
    Calls Tryz.prog 92 #[.slice a n c] w fun e w' => e = .returned (.bool (okArgs ss)) ∧ w' = w := by
  have hl := h.len
  by_cases h16 : (n : Int) ≤ 16
  · have hd : decide ((n : Int) ≤ 16) = true := decide_eq_true h16
    have HE : Hid (okArgs ss = ss.all fun s => decide (s.size ≤ 200)) := by
      unfold Hid; rw [okArgs, decide_eq_true (by omega), Bool.true_and]
    go_enter Tryz.func92, Tryz.ntmps92
    go_wp2_with fail
    refine (bulks76 a b off n c ss w h hn).mono ?_
    rintro e w1 ⟨rfl, rfl⟩
    rw [← HE.out]
    go_wp2
    go_ret
    exact ⟨rfl, rfl⟩
  · have hd : decide ((n : Int) ≤ 16) = false := decide_eq_false h16
    have HE : Hid (okArgs ss = false) := by
      unfold Hid; rw [okArgs, decide_eq_false (by omega), Bool.false_and]
    go_enter Tryz.func92, Tryz.ntmps92
    go_wp2
    go_ret
    exact ⟨ret_bool HE.out.symm, rfl⟩

set_option maxHeartbeats 400000 in
/-- eqStringS at two slices that read as the same strings: true; the world has but drawn. -/
theorem eq_any (a a' : Option Addr) (b off b' off' n c c' : Nat) (ss : List ByteArray) (w : World) (h : StrsIn w a b off n ss) (h' : StrsIn w a' b' off' n ss) (hn : n ≤ 2097152) :
    Calls Tryz.prog 74 #[.slice a n c, .slice a' n c'] w fun e w' => e = .returned (.bool true) ∧ ∃ q, w' = w.drewN q := by
  go_enter Tryz.func74, Tryz.ntmps74
  go_wp2
  go_loopw [5] (fun i wr => ∃ (k q : Nat), k ≤ n ∧ i = .int .i64 k ∧ wr = w.drewN q) (fun i _ => n - (intOf i).toNat)
  case atStart => exact ⟨0, 0, by omega, rfl, rfl⟩
  case round =>
    obtain ⟨k, q, hk, rfl, rfl⟩ := hrel
    by_cases hlt : k < n
    · obtain rfl := h.addr (by omega)
      obtain rfl := h'.addr (by omega)
      have hc := h.cell k hlt
      have hc' := h'.cell k hlt
      generalize ss.getD k ByteArray.empty = s at *
      go_wp2
      go_quiet ((fail))
      go_wp2
      go_roundw
      case rel => exact ⟨k + 1, _, by omega, by go_num, rfl⟩
      case measure => simp [intOf]; omega
    · go_wp2
      go_ret
      exact ⟨rfl, q, rfl⟩
end Go.Proofs.YtjgmkbldclangaaGreatDoor.Fd
