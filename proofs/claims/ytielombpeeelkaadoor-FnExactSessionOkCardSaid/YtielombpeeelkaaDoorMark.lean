/- Marks: texts written into an answer's own memory, and found there again. -/
import Derived.Test.YtielombpeeelkaaDoorSpStar
namespace Go.Proofs.YtielombpeeelkaaDoor
open Go.RowKit Go.Sort

theorem ret_int {a b : Int} (h : a = b) : Ending.returned (.int .i64 a) = .returned (.int .i64 b) := by rw [h]

def markB (k : Nat) : ByteArray := ⟨(109 :: Lib.decDigits k).toArray⟩

def Digs (n k : Nat) (acc : List UInt8) : Prop := (if k = 0 then [] else Lib.decDigits k) ++ acc = Lib.decDigits n ∧ (acc.length : Int) ≤ (n : Int) - k

set_option maxHeartbeats 1000000 in
set_option maxRecDepth 100000 in
theorem mark_any (n : Nat) (w : World) (h0 : 0 < n) (hn : n ≤ 2000000000) :
    Calls Tryd.prog 56 #[.int .i64 n] w fun e w' => e = .returned (.string (markB n)) ∧ Below w.heap.size w w' := by
  have hneg : decide ((n : Int) ≤ 0) = false := by simp; omega
  go_enter Tryd.func56, Tryd.ntmps56
  go_wp2
  go_loopw [0, 3] (fun m s wr => ∃ (k : Nat) (acc : List UInt8), k ≤ n ∧ m = .int .i64 k ∧ s = .string ⟨acc.toArray⟩ ∧ Hid (Digs n k acc) ∧ Below w.heap.size w wr) (fun m _ _ => (intOf m).toNat)
  case atStart => exact ⟨n, [], by omega, rfl, rfl, ⟨by rw [if_neg (by omega)]; simp, by simp⟩, Below.refl _ _⟩
  case round =>
    obtain ⟨k, acc, hk, rfl, rfl, hd, bk⟩ := hrel
    have sk := bk.size
    have hal := hd.out.2
    by_cases hlt : 0 < k
    · have hcv := conv_one wr (48 + (k : Int) % 10) (by omega) (by omega)
      have HD : Hid (Digs n (k / 10) ([UInt8.ofNat (48 + k % 10)] ++ acc)) := by
        obtain ⟨h1, h2⟩ := hd.out
        rw [if_neg (by omega)] at h1
        refine ⟨?_, by simp; omega⟩
        rw [← h1]
        by_cases h10 : k < 10
        · rw [if_pos (by omega), dec_last k h10, show k % 10 = k from by omega]; rfl
        · rw [if_neg (by omega), dec_step k (by omega)]; simp
      clear hd
      have n1 : acc.length ≤ 2000000000 := by omega
      go_wp2
      go_roundw
      case rel =>
        refine ⟨k / 10, [UInt8.ofNat (48 + k % 10)] ++ acc, by omega, by go_num, ?_, HD, bk.alloc sk _⟩
        exact congrArg Value.string (by rw [show (48 + UInt8.ofNat (k % 10)) = UInt8.ofNat (48 + k % 10) from by simp]; exact ByteArray.mk_append_mk [UInt8.ofNat (48 + k % 10)] acc)
      case measure => simp [intOf]; omega
    · have HE : Hid (acc = Lib.decDigits n) := by
        have := hd.out.1
        rw [if_pos (by omega)] at this
        exact this
      have n1 : acc.length ≤ 2000000000 := by omega
      clear hd
      go_wp2
      go_ret
      refine ⟨ret_str ?_, bk⟩
      unfold markB
      rw [← HE.out]
      exact ByteArray.mk_append_mk [109] acc

/-- The marks from s0 on. -/
def marks (s0 n : Nat) : List Value := (List.range n).map fun i => .string (markB (s0 + i))

theorem marks_get (s0 n i : Nat) (h : i < n) : (marks s0 n)[i]? = some (.string (markB (s0 + i))) := by
  unfold marks
  rw [List.getElem?_map, List.getElem?_range h]
  rfl

set_option maxHeartbeats 2000000 in
set_option maxRecDepth 100000 in
theorem markS_any (s0 B : Nat) (v : Value) (n : Nat) (xs : List Value) (w : World) (h : w.ownsRow B 9 1 v n xs) (hn : n ≤ 1000000) (hs0 : 1 ≤ s0) (hs1 : s0 ≤ 1000000000) :
    Calls Tryd.prog 33 #[v, .int .i64 s0] w fun e w' => e = .returned (.int .i64 ((s0 : Int) + n)) ∧ w'.ownsRow B 9 1 v n (marks s0 n) ∧ w.grownBy w' (Value.ownBlock v) := by
  obtain ⟨hxl, ⟨rfl, rfl⟩ | ⟨g, cap, cur, rfl, hg, hh, hcap, hmax, hcs, htk⟩⟩ := h
  · go_enter Tryd.func33, Tryd.ntmps33
    go_wp2
    refine wp_loop_rounds 1 ?_
    rw [rounds_succ]
    go_wp2
    go_ret
    exact ⟨ret_int (by simp), World.ownsRow_nil _ _ _ _, grown_refl _ _⟩
  · have hr0 : RowAt w g 9 cur := hh
    have hlt0 := hr0.lt
    have HM : Hid (cap ≤ maxLen) := hmax
    clear hh htk hxl hmax
    go_enter Tryd.func33, Tryd.ntmps33
    go_wp2
    go_loopw [1, 5] (fun m i wr => ∃ (k : Nat) (D : Array Value), k ≤ n ∧ i = .int .i64 k ∧ m = .int .i64 ((s0 : Int) + (k : Int)) ∧ D.size = cap * 1 ∧ RowAt wr g 9 D ∧ Hid (∀ j, j < k → D[j]? = some (.string (markB (s0 + j)))) ∧ w.grownBy wr (some g)) (fun _ i _ => n - (intOf i).toNat)
    case atStart => exact ⟨0, cur, by omega, rfl, (by simp), hcs, hr0, fun j hj => by omega, grown_refl _ _⟩
    case round =>
      obtain ⟨k, D, hk, rfl, rfl, hD, hrow, hpre, gk⟩ := hrel
      have sk := gk.size
      by_cases hlt : k < n
      · have hkm : ((s0 : Int) + (k : Int)) = ((s0 + k : Nat) : Int) := by omega
        have HC : Hid (Calls Tryd.prog 56 #[.int .i64 ((s0 : Int) + (k : Int))] wr fun e w' => e = .returned (.string (markB (s0 + k))) ∧ Below wr.heap.size wr w') := by
          unfold Hid; rw [hkm]; exact mark_any (s0 + k) wr (by omega) (by omega)
        clear hkm
        go_wp2_with fail
        refine HC.out.mono ?_
        rintro e w1 ⟨rfl, b1⟩
        have hrow1 := hrow.below b1 (hrow.lt)
        have hg1 : w1.cell? ⟨g, k, none⟩ = some (D[k]'(by omega)) := by rw [hrow1.cell k]; simp
        have hfz := hrow1.frozen k
        have HR : Hid (RowAt (w1.setCell ⟨g, k, none⟩ (.string (markB (s0 + k)))) g 9 (D.setIfInBounds k (.string (markB (s0 + k))))) := hrow1.set k _
        have HG : Hid (w.grownBy (w1.setCell ⟨g, k, none⟩ (.string (markB (s0 + k)))) (some g)) := grown_trans (grown_below gk b1) (grown_set _ g k _)
        have HD : Hid (D.size = cap * 1) := hD
        generalize hDk : D[k]'(by omega) = old at *
        clear hDk hD hrow hrow1 HC b1 gk
        go_wp2
        go_roundw
        case rel =>
          refine ⟨k + 1, _, by omega, by go_num, by go_num, ?_, HR.out, ?_, HG.out⟩
          · rw [Array.size_setIfInBounds]; exact HD.out
          · intro j hj
            by_cases hjk : k = j
            · subst hjk
              rw [Array.getElem?_setIfInBounds_self_of_lt (by rw [HD.out]; omega)]
            · rw [Array.getElem?_setIfInBounds_ne hjk]
              exact hpre.out j (by omega)
        case measure => simp [intOf]; omega
      · obtain rfl : k = n := by omega
        have HO : Hid (wr.ownsRow B 9 1 (.slice (some ⟨g, 0, none⟩) k cap) k (marks s0 k)) := by
          refine ⟨by simp [marks], .inr ⟨g, cap, D, rfl, hg, hrow, hcap, HM.out, hD, ?_⟩⟩
          apply List.ext_getElem?
          intro i
          by_cases hi : i < k
          · rw [marks_get s0 k i hi, Nat.mul_one, List.getElem?_take_of_lt hi, Array.getElem?_toList]
            exact hpre.out i hi
          · rw [List.getElem?_eq_none (by simp; omega), List.getElem?_eq_none (by simp [marks]; omega)]
        clear hrow hpre hD
        go_wp2
        go_ret
        exact ⟨ret_int (by omega), HO.out, gk⟩

set_option maxHeartbeats 2000000 in
set_option maxRecDepth 100000 in
theorem heldS_any (s0 B : Nat) (v : Value) (n : Nat) (w : World) (h : w.ownsRow B 9 1 v n (marks s0 n)) (hn : n ≤ 1000000) (hs0 : 1 ≤ s0) (hs1 : s0 ≤ 1000000000) :
    Calls Tryd.prog 34 #[v, .int .i64 s0] w fun e w' => e = .returned (.int .i64 ((s0 : Int) + n)) ∧ Below w.heap.size w w' := by
  obtain ⟨hxl, ⟨rfl, rfl⟩ | ⟨g, cap, cur, rfl, hg, hh, hcap, hmax, hcs, htk⟩⟩ := h
  · go_enter Tryd.func34, Tryd.ntmps34
    go_wp2
    refine wp_loop_rounds 1 ?_
    rw [rounds_succ]
    go_wp2
    go_ret
    exact ⟨ret_int (by simp), Below.refl _ _⟩
  · have hr0 : RowAt w g 9 cur := hh
    have hlt0 := hr0.lt
    have HCell : Hid (∀ j, j < n → w.cell? ⟨g, j, none⟩ = some (.string (markB (s0 + j)))) := fun j hj => by
      rw [hr0.cell j]
      have := congrArg (fun l => l[j]?) htk
      rw [marks_get s0 n j hj, Nat.mul_one, List.getElem?_take_of_lt hj, Array.getElem?_toList] at this
      exact this
    have hmx : cap ≤ 9223372036854775807 := by simpa [maxLen] using hmax
    clear hh htk hxl hmax hr0 hcs
    go_enter Tryd.func34, Tryd.ntmps34
    go_wp2
    go_loopw [1, 5] (fun m i wr => ∃ (k : Nat), k ≤ n ∧ i = .int .i64 k ∧ m = .int .i64 ((s0 : Int) + (k : Int)) ∧ Below w.heap.size w wr) (fun _ i _ => n - (intOf i).toNat)
    case atStart => exact ⟨0, by omega, rfl, (by simp), Below.refl _ _⟩
    case round =>
      obtain ⟨k, hk, rfl, rfl, bk⟩ := hrel
      have sk := bk.size
      by_cases hlt : k < n
      · have hkm : ((s0 : Int) + (k : Int)) = ((s0 + k : Nat) : Int) := by omega
        have cD : ∀ d os, Calls Tryd.prog 56 #[.int .i64 ((s0 : Int) + (k : Int))] (grow (redrawn wr d) os) fun e w'' => e = .returned (.string (markB (s0 + k))) ∧ ∃ p : Regrown, w'' = grow (redrawn wr p.d) p.os := fun d os => by
          rw [hkm]; exact Calls.regrown_of (mark_any (s0 + k) _ (by omega) (by omega))
        have kc := cell_regrown ((bk.cell (p := ⟨g, k, none⟩) hlt0).trans (HCell.out k hlt))
        generalize markB (s0 + k) = mk at *
        clear hkm
        go_wp2
        refine wp_region_quiet_below (by kernel_rfl) (by kernel_rfl) ?_
        repeat (quiet_step (first | exact cD _ _))
        refine wpQuiet_nil ?_
        intro _ hw'
        obtain ⟨⟨dq, osq⟩, hw''⟩ := hw'
        subst hw''
        have bq := below_regrown wr dq osq
        generalize grow (redrawn wr dq) osq = wq at *
        go_wp2
        go_roundw
        case rel => exact ⟨k + 1, by omega, by go_num, by go_num, bk.trans (bq.mono bk.size)⟩
        case measure => simp [intOf]; omega
      · obtain rfl : k = n := by omega
        go_wp2
        go_ret
        exact ⟨ret_int (by omega), bk⟩

theorem markedM_codes {l : List UInt8} {mark : UInt8} {most c : Int} (h : markedM l mark most = .inl c) : c = 1 ∨ c = 2 := by
  unfold markedM at h
  split at h
  · rename_i hm
    injection h with h
    subst h
    exact lineM_codes hm
  · injection h with h; omega
  · split at h
    · split at h
      · cases h
      · injection h with h; omega
    · injection h with h; omega

theorem bulksM_codes : ∀ (n : Nat) (l : List UInt8) (c : Int), bulksM n l = .inl c → c = 1 ∨ c = 2
  | 0, l, c, h => by rw [bulksM] at h; cases h
  | n + 1, l, c, h => by
    rw [bulksM] at h
    split at h
    · rename_i hm
      injection h with h
      subst h
      exact markedM_codes hm
    · split at h
      · rename_i hm
        injection h with h
        subst h
        exact someM_codes hm
      · split at h
        · rename_i hm
          injection h with h
          subst h
          exact bulksM_codes n _ _ hm
        · cases h

theorem requestM_codes {l : List UInt8} {c : Int} (h : requestM l = .inl c) : c = 1 ∨ c = 2 := by
  unfold requestM at h
  split at h
  · injection h with h; omega
  · split at h
    · unfold bulksAllM at h
      split at h
      · rename_i hm
        injection h with h
        subst h
        exact markedM_codes hm
      · split at h
        · rename_i hm
          injection h with h
          subst h
          exact bulksM_codes _ _ _ hm
        · cases h
    · unfold lineWords at h
      split at h
      · injection h with h; omega
      · split at h
        · injection h with h; split at h <;> omega
        · split at h
          · cases h
          · injection h with h; omega

theorem readReq (s : ByteArray) (w : World) (hs : s.size ≤ 2097152) (hr : Ready w) : Calls Tryd.prog 11 #[.string s] w (ReqEnd w (requestM s.data.toList)) := by
  cases hm : requestM s.data.toList with
  | inl c => exact readReq_gave s c (by have := requestM_codes hm; omega) w hs hr hm
  | inr q =>
    obtain ⟨ts, u⟩ := q
    exact readReq_done s ts u w hs hr hm
end Go.Proofs.YtielombpeeelkaaDoor
