/- Marks: numbers and texts written into an answer's own memory, and found there again. -/
import Derived.Test.YtcgeafdakaeicaaDoorSqE
import Derived.Laws.IdiomStrings
import Derived.Lib.QuietBelow
namespace Go.Proofs.YtcgeafdakaeicaaDoor
open Go.RowKit Go.Sort
open Rp (Nd nd0 plainB numB fieldsB)

def markB (k : Nat) : ByteArray := ⟨(109 :: Lib.decDigits k).toArray⟩

def Digs (n k : Nat) (acc : List UInt8) : Prop := (if k = 0 then [] else Lib.decDigits k) ++ acc = Lib.decDigits n ∧ (acc.length : Int) ≤ (n : Int) - k

set_option maxHeartbeats 1000000 in
set_option maxRecDepth 100000 in
theorem mark_any (n : Nat) (w : World) (h0 : 0 < n) (hn : n ≤ 2000000000) :
    Calls Tryd.prog 46 #[.int .i64 n] w fun e w' => e = .returned (.string (markB n)) ∧ Below w.heap.size w w' := by
  have hneg : decide ((n : Int) ≤ 0) = false := by simp; omega
  go_enter Tryd.func46, Tryd.ntmps46
  go_wp2
  go_loopw [0, 3] (fun m s wr => ∃ (k : Nat) (acc : List UInt8), k ≤ n ∧ m = .int .i64 k ∧ s = .string ⟨acc.toArray⟩ ∧ Hid (Digs n k acc) ∧ Below w.heap.size w wr) (fun m _ _ => (intOf m).toNat)
  case atStart => exact ⟨n, [], by omega, rfl, rfl, ⟨by rw [if_neg (by omega)]; simp, by simp⟩, Below.refl _ _⟩
  case round =>
    obtain ⟨k, acc, hk, rfl, rfl, hd, bk⟩ := hrel
    have sk := bk.size
    have hal := hd.out.2
    by_cases hlt : 0 < k
    · have hcv := conv_one wr (48 + (k : Int) % 10) (by omega) (by omega)
      have HD : Hid (Digs n (k / 10) ([UInt8.ofNat (48 + k % 10)] ++ acc)) := by
        obtain ⟨h1, h2⟩ := hd.out
        rw [if_neg (by omega)] at h1
        refine ⟨?_, by simp; omega⟩
        rw [← h1]
        by_cases h10 : k < 10
        · rw [if_pos (by omega), dec_last k h10, show k % 10 = k from by omega]; rfl
        · rw [if_neg (by omega), dec_step k (by omega)]; simp
      clear hd
      have n1 : acc.length ≤ 2000000000 := by omega
      go_wp2
      go_roundw
      case rel =>
        refine ⟨k / 10, [UInt8.ofNat (48 + k % 10)] ++ acc, by omega, by go_num, ?_, HD, bk.alloc sk _⟩
        exact congrArg Value.string (by rw [show (48 + UInt8.ofNat (k % 10)) = UInt8.ofNat (48 + k % 10) from by simp]; exact ByteArray.mk_append_mk [UInt8.ofNat (48 + k % 10)] acc)
      case measure => simp [intOf]; omega
    · have HE : Hid (acc = Lib.decDigits n) := by
        have := hd.out.1
        rw [if_pos (by omega)] at this
        exact this
      have n1 : acc.length ≤ 2000000000 := by omega
      clear hd
      go_wp2
      go_ret
      refine ⟨ret_str ?_, bk⟩
      unfold markB
      rw [← HE.out]
      exact ByteArray.mk_append_mk [109] acc


def numsFrom (s0 n : Nat) : List Int := (List.range n).map fun i => ((s0 + i : Nat) : Int)
theorem nums_len (s0 n : Nat) : (numsFrom s0 n).length = n := by simp [numsFrom]
theorem nums_get (s0 n i : Nat) (h : i < n) : (intVals (numsFrom s0 n))[i]? = some (.int .i64 ((s0 + i : Nat) : Int)) := by
  simp [intVals, numsFrom, List.getElem?_range h]

theorem ret_int {a b : Int} (h : a = b) : Ending.returned (.int .i64 a) = .returned (.int .i64 b) := by rw [h]

set_option maxHeartbeats 1000000 in
theorem markInts (B : Nat) (v : Value) (n : Nat) (xs : List Value) (s0 : Nat) (w : World) (h : w.ownsRow B 2 1 v n xs) (hn : n ≤ 1000000) (hs0 : s0 ≤ 1000000000) :
    Calls Tryd.prog 47 #[v, .int .i64 s0] w fun e w' => e = .returned (.int .i64 ((s0 + n : Nat) : Int)) ∧ w'.ownsRow B 2 1 v n (intVals (numsFrom s0 n)) ∧ w.grownBy w' (Value.ownBlock v) := by
  obtain ⟨hxl, ⟨rfl, rfl⟩ | ⟨g, cap, cur, rfl, hg, hh, hcap, hmax, hcs, htk⟩⟩ := h
  · go_enter Tryd.func47, Tryd.ntmps47
    go_wp2
    refine wp_loop_rounds 1 ?_
    rw [rounds_succ]
    go_wp2
    go_ret
    exact ⟨rfl, World.ownsRow_nil _ _ _ _, grown_refl _ _⟩
  · have hr0 : RowAt w g 2 cur := hh
    have hlt0 := hr0.lt
    have HM : Hid (cap ≤ maxLen) := hmax
    clear hh htk hxl hmax
    go_enter Tryd.func47, Tryd.ntmps47
    go_wp2
    go_loopw [1, 5] (fun m i wr => ∃ (k : Nat) (D : Array Value), k ≤ n ∧ i = .int .i64 k ∧ m = .int .i64 ((s0 : Int) + k) ∧ D.size = cap * 1 ∧ RowAt wr g 2 D ∧ Hid (∀ j, j < k → D[j]? = some (.int .i64 ((s0 : Int) + j))) ∧ w.grownBy wr (some g)) (fun _ i _ => n - (intOf i).toNat)
    case atStart => exact ⟨0, cur, by omega, rfl, by simp, hcs, hr0, fun j hj => by omega, grown_refl _ _⟩
    case round =>
      obtain ⟨k, D, hk, rfl, rfl, hD, hrow, hpre, gk⟩ := hrel
      have sk := gk.size
      by_cases hlt : k < n
      · have hg1 : wr.cell? ⟨g, k, none⟩ = some (D[k]'(by omega)) := by rw [hrow.cell k]; simp
        have hfz := hrow.frozen k
        have HR : Hid (RowAt (wr.setCell ⟨g, k, none⟩ (.int .i64 ((s0 : Int) + k))) g 2 (D.setIfInBounds k (.int .i64 ((s0 : Int) + k)))) := hrow.set k _
        have HG : Hid (w.grownBy (wr.setCell ⟨g, k, none⟩ (.int .i64 ((s0 : Int) + k))) (some g)) := grown_trans gk (grown_set _ g k _)
        have HD : Hid (D.size = cap * 1) := hD
        generalize hDk : D[k]'(by omega) = old at *
        clear hDk hD hrow gk
        go_wp2
        go_roundw
        case rel =>
          refine ⟨k + 1, _, by omega, by go_num, by go_num, ?_, HR.out, ?_, HG.out⟩
          · rw [Array.size_setIfInBounds]; exact HD.out
          · intro j hj
            by_cases hjk : k = j
            · subst hjk
              rw [Array.getElem?_setIfInBounds_self_of_lt (by rw [HD.out]; omega)]
            · rw [Array.getElem?_setIfInBounds_ne hjk]
              exact hpre.out j (by omega)
        case measure => simp [intOf]; omega
      · obtain rfl : k = n := by omega
        have HO : Hid (wr.ownsRow B 2 1 (.slice (some ⟨g, 0, none⟩) k cap) k (intVals (numsFrom s0 k))) := by
          refine ⟨by simp [intVals, numsFrom], .inr ⟨g, cap, D, rfl, hg, hrow, hcap, HM.out, hD, ?_⟩⟩
          apply List.ext_getElem?
          intro i
          by_cases hi : i < k
          · rw [nums_get s0 k i hi, Nat.mul_one, List.getElem?_take_of_lt hi, Array.getElem?_toList, hpre.out i hi, Int.natCast_add]
          · rw [List.getElem?_eq_none (by simp; omega), List.getElem?_eq_none (by simp [intVals, numsFrom]; omega)]
        clear hrow hpre hD
        go_wp2
        go_ret
        exact ⟨ret_int (by omega), HO.out, gk⟩

set_option maxHeartbeats 1000000 in
theorem heldInts (a : Option Addr) (b n c : Nat) (s0 : Nat) (w : World) (h : Rp.IntsIn w a b 0 n (numsFrom s0 n)) (hn : n ≤ 1000000) (hs0 : s0 ≤ 1000000000) :
    Calls Tryd.prog 48 #[.slice a n c, .int .i64 s0] w fun e w' => e = .returned (.int .i64 ((s0 + n : Nat) : Int)) ∧ w' = w := by
  have HCell : Hid (∀ j, j < n → w.cell? ⟨b, j, none⟩ = some (.int .i64 ((s0 : Int) + j))) := fun j hj => by
    have := h.cell j hj
    rw [Nat.zero_add] at this
    rw [this, List.getD_eq_getElem?_getD]
    simp [numsFrom, List.getElem?_range hj]
  have HA : Hid (0 < n → a = some ⟨b, 0, none⟩) := h.addr
  clear h
  go_enter Tryd.func48, Tryd.ntmps48
  go_wp2
  go_loop [1, 5] (fun m i => ∃ (k : Nat), k ≤ n ∧ i = .int .i64 k ∧ m = .int .i64 ((s0 : Int) + k)) (fun _ i => n - (intOf i).toNat)
  case atStart => exact ⟨0, by omega, rfl, by simp⟩
  case round =>
    obtain ⟨k, hk, rfl, rfl⟩ := hrel
    by_cases hlt : k < n
    · obtain rfl := HA.out (by omega)
      have kc := HCell.out k hlt
      go_wp2
      go_round
      case rel => exact ⟨k + 1, by omega, by go_num, by go_num⟩
      case measure => simp [intOf]; omega
    · obtain rfl : k = n := by omega
      go_wp2
      go_ret
      exact ⟨ret_int (by omega), rfl⟩
end Go.Proofs.YtcgeafdakaeicaaDoor
