/- Marks in texts: written into an answer's own memory, and found there again; marks of nothing. -/
import Derived.Test.YticajcagcdbgpaaDoorV5
import Derived.Test.YticajcagcdbgpaaDoorK19
namespace Go.Proofs.YticajcagcdbgpaaDoor
open Go.RowKit Go.Sort
open Kk (Rk rk0 texL texR decS scoreB rightB ranksB OwnR flatR encR markB)

theorem markS_nil (a : Option Addr) (c : Nat) (m : Int) (w : World) : Calls Tryd.prog 17 #[.slice a (0 : Nat) c, .int .i64 m] w fun e w' => e = .returned (.int .i64 m) ∧ w' = w := by
  go_enter Tryd.func17, Tryd.ntmps17
  go_wp2
  refine wp_loop_rounds 1 ?_
  rw [rounds_succ]
  go_wp2
  go_ret
  exact ⟨rfl, rfl⟩

theorem markP_nil (a : Option Addr) (c : Nat) (m : Int) (w : World) : Calls Tryd.prog 18 #[.slice a (0 : Nat) c, .int .i64 m] w fun e w' => e = .returned (.int .i64 m) ∧ w' = w := by
  go_enter Tryd.func18, Tryd.ntmps18
  go_wp2
  refine wp_loop_rounds 1 ?_
  rw [rounds_succ]
  go_wp2
  go_ret
  exact ⟨rfl, rfl⟩

theorem markR_nil (a : Option Addr) (c : Nat) (m : Int) (w : World) : Calls Tryd.prog 19 #[.slice a (0 : Nat) c, .int .i64 m] w fun e w' => e = .returned (.int .i64 m) ∧ w' = w := by
  go_enter Tryd.func19, Tryd.ntmps19
  go_wp2
  refine wp_loop_rounds 1 ?_
  rw [rounds_succ]
  go_wp2
  go_ret
  exact ⟨rfl, rfl⟩

theorem heldS_nil (a : Option Addr) (c : Nat) (m : Int) (w : World) : Calls Tryd.prog 20 #[.slice a (0 : Nat) c, .int .i64 m] w fun e w' => e = .returned (.int .i64 m) ∧ w' = w := by
  go_enter Tryd.func20, Tryd.ntmps20
  go_wp2
  refine wp_loop_rounds 1 ?_
  rw [rounds_succ]
  go_wp2
  go_ret
  exact ⟨rfl, rfl⟩

theorem heldP_nil (a : Option Addr) (c : Nat) (m : Int) (w : World) : Calls Tryd.prog 21 #[.slice a (0 : Nat) c, .int .i64 m] w fun e w' => e = .returned (.int .i64 m) ∧ w' = w := by
  go_enter Tryd.func21, Tryd.ntmps21
  go_wp2
  refine wp_loop_rounds 1 ?_
  rw [rounds_succ]
  go_wp2
  go_ret
  exact ⟨rfl, rfl⟩

theorem heldR_nil (a : Option Addr) (c : Nat) (m : Int) (w : World) : Calls Tryd.prog 22 #[.slice a (0 : Nat) c, .int .i64 m] w fun e w' => e = .returned (.int .i64 m) ∧ w' = w := by
  go_enter Tryd.func22, Tryd.ntmps22
  go_wp2
  refine wp_loop_rounds 1 ?_
  rw [rounds_succ]
  go_wp2
  go_ret
  exact ⟨rfl, rfl⟩

theorem ret_int {a b : Int} (h : a = b) : Ending.returned (.int .i64 a) = .returned (.int .i64 b) := by rw [h]

/-- The marks of texts, from 1 on. -/
def smarks (n : Nat) : List ByteArray := (List.range n).map fun i => markB (1 + i)
theorem smarks_len (n : Nat) : (smarks n).length = n := by simp [smarks]
theorem smarks_at (n i : Nat) (h : i < n) : (smarks n).getD i ByteArray.empty = markB (1 + i) := by
  unfold smarks
  rw [List.getD_eq_getElem?_getD, List.getElem?_map, List.getElem?_range h]
  rfl

set_option maxHeartbeats 2000000 in
set_option maxRecDepth 100000 in
theorem markS_any (B : Nat) (v : Value) (L : List ByteArray) (w : World) (h : OwnS w B v L) (hn : L.length ≤ 1000000) :
    Calls Tryd.prog 17 #[v, .int .i64 1] w fun e w' => e = .returned (.int .i64 (1 + L.length : Nat)) ∧ OwnS w' B v (smarks L.length) ∧ w.grownBy w' (Value.ownBlock v) := by
  generalize hnl : L.length = n at *
  obtain ⟨hxl, ⟨rfl, h0⟩ | ⟨g, cap, cur, rfl, hg, hh, hcap, hmax, hcs, htk⟩⟩ := h
  · obtain rfl : n = 0 := by omega
    refine (markS_nil none 0 1 w).mono ?_
    rintro e w' ⟨rfl, rfl⟩
    exact ⟨rfl, ownS_nil _ _, grown_refl _ _⟩
  · rw [hnl] at hcap ⊢
    have hr0 : RowAt w g 9 cur := hh
    have hlt0 := hr0.lt
    have HM : Hid (cap ≤ maxLen) := hmax
    clear hh htk hxl hmax hnl
    go_enter Tryd.func17, Tryd.ntmps17
    go_wp2
    go_loopw [1, 5] (fun m i wr => ∃ (k : Nat) (D : Array Value), k ≤ n ∧ i = .int .i64 k ∧ m = .int .i64 ((1 : Int) + (k : Int)) ∧ D.size = cap * 1 ∧ RowAt wr g 9 D ∧ Hid (∀ j, j < k → D[j]? = some (.string (markB (1 + j)))) ∧ w.grownBy wr (some g)) (fun _ i _ => n - (intOf i).toNat)
    case atStart => exact ⟨0, cur, by omega, rfl, (by simp), hcs, hr0, fun j hj => by omega, grown_refl _ _⟩
    case round =>
      obtain ⟨k, D, hk, rfl, rfl, hD, hrow, hpre, gk⟩ := hrel
      have sk := gk.size
      by_cases hlt : k < n
      · have hkm : ((1 : Int) + (k : Int)) = ((1 + k : Nat) : Int) := by omega
        have HC : Hid (Calls Tryd.prog 32 #[.int .i64 ((1 : Int) + (k : Int))] wr fun e w' => e = .returned (.string (markB (1 + k))) ∧ Below wr.heap.size wr w') := by
          unfold Hid; rw [hkm]; exact Kk.mark_any (1 + k) wr (by omega) (by omega)
        clear hkm
        go_wp2_with fail
        refine HC.out.mono ?_
        rintro e w1 ⟨rfl, b1⟩
        have hrow1 := hrow.below b1 (hrow.lt)
        have hg1 : w1.cell? ⟨g, k, none⟩ = some (D[k]'(by omega)) := by rw [hrow1.cell k]; simp
        have hfz := hrow1.frozen k
        have HR : Hid (RowAt (w1.setCell ⟨g, k, none⟩ (.string (markB (1 + k)))) g 9 (D.setIfInBounds k (.string (markB (1 + k))))) := hrow1.set k _
        have HG : Hid (w.grownBy (w1.setCell ⟨g, k, none⟩ (.string (markB (1 + k)))) (some g)) := grown_trans (grown_below gk b1) (grown_set _ g k _)
        have HD : Hid (D.size = cap * 1) := hD
        generalize hDk : D[k]'(by omega) = old at *
        clear hDk hD hrow hrow1 HC b1 gk
        go_wp2
        go_roundw
        case rel =>
          refine ⟨k + 1, _, by omega, by go_num, by go_num, ?_, HR.out, ?_, HG.out⟩
          · rw [Array.size_setIfInBounds]; exact HD.out
          · intro j hj
            by_cases hjk : k = j
            · subst hjk
              rw [Array.getElem?_setIfInBounds_self_of_lt (by rw [HD.out]; omega)]
            · rw [Array.getElem?_setIfInBounds_ne hjk]
              exact hpre.out j (by omega)
        case measure => simp [intOf]; omega
      · obtain rfl : k = n := by omega
        have HO : Hid (OwnS wr B (.slice (some ⟨g, 0, none⟩) k cap) (smarks k)) := by
          unfold Hid OwnS
          rw [smarks_len]
          refine ⟨by simp [smarks, strV], .inr ⟨g, cap, D, rfl, hg, hrow, hcap, HM.out, hD, ?_⟩⟩
          apply List.ext_getElem?
          intro i
          by_cases hi : i < k
          · rw [Nat.mul_one, List.getElem?_take_of_lt hi, Array.getElem?_toList, hpre.out i hi]
            simp [strV, smarks, hi]
          · rw [List.getElem?_eq_none (by simp; omega), List.getElem?_eq_none (by simp [smarks, strV]; omega)]
        clear hrow hpre hD
        go_wp2
        go_ret
        exact ⟨ret_int (by omega), HO.out, gk⟩

set_option maxHeartbeats 2000000 in
set_option maxRecDepth 100000 in
theorem heldS_any (a : Option Addr) (g n cap : Nat) (w : World) (h : StrsIn w a g 0 n (smarks n)) (hn : n ≤ 1000000) :
    Calls Tryd.prog 20 #[.slice a n cap, .int .i64 1] w fun e w' => e = .returned (.int .i64 (1 + n : Nat)) ∧ Below w.heap.size w w' := by
  have H : Hid (StrsIn w a g 0 n (smarks n)) := h
  clear h
  go_enter Tryd.func20, Tryd.ntmps20
  go_wp2
  go_loopw [1, 5] (fun m i wr => ∃ (k : Nat), k ≤ n ∧ i = .int .i64 k ∧ m = .int .i64 ((1 : Int) + (k : Int)) ∧ Below w.heap.size w wr) (fun _ i _ => n - (intOf i).toNat)
  case atStart => exact ⟨0, by omega, rfl, (by simp), Below.refl _ _⟩
  case round =>
    obtain ⟨k, hk, rfl, rfl, bk⟩ := hrel
    have sk := bk.size
    by_cases hlt : k < n
    · have hkm : ((1 : Int) + (k : Int)) = ((1 + k : Nat) : Int) := by omega
      have cD : ∀ d os, Calls Tryd.prog 32 #[.int .i64 ((1 : Int) + (k : Int))] (grow (redrawn wr d) os) fun e w'' => e = .returned (.string (markB (1 + k))) ∧ ∃ p : Regrown, w'' = grow (redrawn wr p.d) p.os := fun d os => by
        rw [hkm]; exact Calls.regrown_of (Kk.mark_any (1 + k) _ (by omega) (by omega))
      obtain rfl := H.out.addr (by omega)
      have hc := H.out.cell k hlt
      rw [Nat.zero_add, smarks_at n k hlt] at hc
      have kc := cell_regrown ((bk.cell (p := ⟨g, k, none⟩) (H.out.low (by omega))).trans hc)
      generalize markB (1 + k) = mk at *
      clear hkm hc
      go_wp2
      refine wp_region_quiet_below (by kernel_rfl) (by kernel_rfl) ?_
      repeat (quiet_step (first | exact cD _ _))
      refine wpQuiet_nil ?_
      intro _ hw'
      obtain ⟨⟨dq, osq⟩, hw''⟩ := hw'
      subst hw''
      have bq := below_regrown wr dq osq
      generalize grow (redrawn wr dq) osq = wq at *
      go_wp2
      go_roundw
      case rel => exact ⟨k + 1, by omega, by go_num, by go_num, bk.trans (bq.mono bk.size)⟩
      case measure => simp [intOf]; omega
    · obtain rfl : k = n := by omega
      go_wp2
      go_ret
      exact ⟨ret_int (by omega), bk⟩
end Go.Proofs.YticajcagcdbgpaaDoor
