/- Marks: ranks written into an answer's own memory, and found there again. Equal lists of texts, of pairs. Marks in texts: written into an answer's own memory, and found there again; marks of nothing. Marks in pairs: written into an answer's own memory, and found there again. -/
import Derived.Test.YtapdoechmnjaeaaGreatDoorK18
import Derived.Laws.IdiomStrings
import Derived.Lib.QuietBelow
import Derived.Test.YtapdoechmnjaeaaGreatDoorVb
namespace Go.Proofs.YtapdoechmnjaeaaGreatDoor.Kk
open Go.RowKit Go.Sort

theorem ret_str {a b : ByteArray} (h : a = b) : Ending.returned (.string a) = .returned (.string b) := by rw [h]
theorem dec_step (n : Nat) (h : 10 ≤ n) : Lib.decDigits n = Lib.decDigits (n / 10) ++ [UInt8.ofNat (48 + n % 10)] := by
  rw [Lib.decDigits, dif_neg (by omega)]
theorem dec_last (k : Nat) (h : k < 10) : Lib.decDigits k = [UInt8.ofNat (48 + k)] := Lib.decDigits_one h

theorem conv_one (w : World) (z : Int) (h0 : 0 ≤ z) (h1 : z < 256) :
    (convert 22 9 (.slice (some ⟨w.heap.size, 0, none⟩) 1 1)).run Tryz.prog (w.alloc (.cells #[.int .u8 z] 5)) = .ok (.string ⟨[UInt8.ofNat z.toNat].toArray⟩) (w.alloc (.cells #[.int .u8 z] 5)) := by
  refine run_convert_bytes_back _ 22 9 5 ⟨w.heap.size, 0, none⟩ 1 [UInt8.ofNat z.toNat] Tryz.underlying22 Tryz.underlying5 Tryz.underlying9 ?_
  intro j hj
  obtain rfl : j = 0 := by simpa using hj
  have e : ((UInt8.ofNat z.toNat).toNat : Int) = z := by
    rw [UInt8.toNat_ofNat']
    omega
  simp only [List.getElem_cons_zero, e]
  exact cell_one_new w (.int .u8 z) 5 0 _ rfl

def markB (k : Nat) : ByteArray := ⟨(109 :: Lib.decDigits k).toArray⟩

def Digs (n k : Nat) (acc : List UInt8) : Prop := (if k = 0 then [] else Lib.decDigits k) ++ acc = Lib.decDigits n ∧ (acc.length : Int) ≤ (n : Int) - k

set_option maxHeartbeats 1000000 in
set_option maxRecDepth 100000 in
theorem mark_any (n : Nat) (w : World) (h0 : 0 < n) (hn : n ≤ 2000000000) :
    Calls Tryz.prog 56 #[.int .i64 n] w fun e w' => e = .returned (.string (markB n)) ∧ Below w.heap.size w w' := by
  have hneg : decide ((n : Int) ≤ 0) = false := by simp; omega
  go_enter Tryz.func56, Tryz.ntmps56
  go_wp2
  go_loopw [0, 3] (fun m s wr => ∃ (k : Nat) (acc : List UInt8), k ≤ n ∧ m = .int .i64 k ∧ s = .string ⟨acc.toArray⟩ ∧ Hid (Digs n k acc) ∧ Below w.heap.size w wr) (fun m _ _ => (intOf m).toNat)
  case atStart => exact ⟨n, [], by omega, rfl, rfl, ⟨by rw [if_neg (by omega)]; simp, by simp⟩, Below.refl _ _⟩
  case round =>
    obtain ⟨k, acc, hk, rfl, rfl, hd, bk⟩ := hrel
    have sk := bk.size
    have hal := hd.out.2
    by_cases hlt : 0 < k
    · have hcv := conv_one wr (48 + (k : Int) % 10) (by omega) (by omega)
      have HD : Hid (Digs n (k / 10) ([UInt8.ofNat (48 + k % 10)] ++ acc)) := by
        obtain ⟨h1, h2⟩ := hd.out
        rw [if_neg (by omega)] at h1
        refine ⟨?_, by simp; omega⟩
        rw [← h1]
        by_cases h10 : k < 10
        · rw [if_pos (by omega), dec_last k h10, show k % 10 = k from by omega]; rfl
        · rw [if_neg (by omega), dec_step k (by omega)]; simp
      clear hd
      have n1 : acc.length ≤ 2000000000 := by omega
      go_wp2
      go_roundw
      case rel =>
        refine ⟨k / 10, [UInt8.ofNat (48 + k % 10)] ++ acc, by omega, by go_num, ?_, HD, bk.alloc sk _⟩
        exact congrArg Value.string (by rw [show (48 + UInt8.ofNat (k % 10)) = UInt8.ofNat (48 + k % 10) from by simp]; exact ByteArray.mk_append_mk [UInt8.ofNat (48 + k % 10)] acc)
      case measure => simp [intOf]; omega
    · have HE : Hid (acc = Lib.decDigits n) := by
        have := hd.out.1
        rw [if_pos (by omega)] at this
        exact this
      have n1 : acc.length ≤ 2000000000 := by omega
      clear hd
      go_wp2
      go_ret
      refine ⟨ret_str ?_, bk⟩
      unfold markB
      rw [← HE.out]
      exact ByteArray.mk_append_mk [109] acc

/-- The marks from s0 on. -/
def mrk (s0 i : Nat) : Rk := ⟨markB (s0 + 2 * i), ((s0 + 2 * i + 1 : Nat) : Int)⟩
def marks (s0 n : Nat) : List Rk := (List.range n).map (mrk s0)
theorem marks_len (s0 n : Nat) : (marks s0 n).length = n := by simp [marks]
theorem marks_at (s0 n i : Nat) (h : i < n) : (marks s0 n).getD i rk0 = mrk s0 i := by
  unfold marks
  rw [List.getD_eq_getElem?_getD, List.getElem?_map, List.getElem?_range h]
  rfl

theorem grown_refl (w : World) (r : Option Nat) : w.grownBy w r := ⟨rfl, rfl, rfl, Nat.le_refl _, fun _ _ _ => rfl⟩
theorem grown_below {w w1 w2 : World} {r : Option Nat} (h : w.grownBy w1 r) (hb : Below w1.heap.size w1 w2) : w.grownBy w2 r :=
  ⟨hb.os.trans h.os, hb.tape.trans h.tape, hb.output.trans h.output, Nat.le_trans h.size hb.size, fun k hk hne => (hb.block k (by have := h.size; omega)).trans (h.block k hk hne)⟩
theorem grown_trans {w w1 w2 : World} {r : Option Nat} (h : w.grownBy w1 r) (h2 : w1.grownBy w2 r) : w.grownBy w2 r :=
  ⟨h2.os.trans h.os, h2.tape.trans h.tape, h2.output.trans h.output, Nat.le_trans h.size h2.size, fun k hk hne => (h2.block k (by have := h.size; omega) hne).trans (h.block k hk hne)⟩
theorem grown_set (w : World) (b o : Nat) (v : Value) : w.grownBy (w.setCell ⟨b, o, none⟩ v) (some b) :=
  ⟨rfl, rfl, rfl, by simp [World.setCell], fun k _ hk => Below.heap_setCell _ _ _ _ (fun e => hk (by simp [e]))⟩

set_option maxHeartbeats 4000000 in
set_option maxRecDepth 100000 in
theorem markS_any (B : Nat) (v : Value) (L : List Rk) (w : World) (h : OwnR w B v L) (hn : L.length ≤ 1048577) :
    Calls Tryz.prog 59 #[v, .int .i64 1] w fun e w' => e = .returned (.int .i64 (1 + 2 * L.length : Nat)) ∧ OwnR w' B v (marks 1 L.length) ∧ w.grownBy w' (Value.ownBlock v) := by
  generalize hnl : L.length = n at *
  obtain ⟨hxl, ⟨rfl, h0⟩ | ⟨g, cap, cur, rfl, hg, hh, hcap, hmax, hcs, htk⟩⟩ := h
  · obtain rfl : n = 0 := by omega
    clear hnl h0 hxl
    go_enter Tryz.func59, Tryz.ntmps59
    go_wp2
    refine wp_loop_rounds 1 ?_
    rw [rounds_succ]
    go_wp2
    go_ret
    exact ⟨rfl, ownR_nil _ _, grown_refl _ _⟩
  · rw [hnl] at hcap ⊢
    have hr0 : RowAt w g 143 cur := hh
    have hlt0 := hr0.lt
    have HM : Hid (cap ≤ maxLen) := hmax
    clear hh htk hxl hmax hnl
    go_enter Tryz.func59, Tryz.ntmps59
    go_wp2
    go_loopw [1, 5] (fun m i wr => ∃ (k : Nat) (D : Array Value), k ≤ n ∧ i = .int .i64 k ∧ m = .int .i64 (1 + 2 * k : Nat) ∧ D.size = cap * 2 ∧ RowAt wr g 143 D ∧ Hid (PreR D (marks 1 n) k) ∧ w.grownBy wr (some g)) (fun _ i _ => n - (intOf i).toNat)
    case atStart => exact ⟨0, cur, by omega, rfl, rfl, hcs, hr0, fun j hj => by omega, grown_refl _ _⟩
    case round =>
      obtain ⟨k, D, hk, rfl, rfl, hD, hrow, hpre, gk⟩ := hrel
      have sk := gk.size
      by_cases hlt : k < n
      · have HX : Hid ((marks 1 n).getD k rk0 = ⟨markB (1 + 2 * k), ((1 + 2 * k + 1 : Nat) : Int)⟩) := marks_at 1 n k hlt
        have cM := mark_any (1 + 2 * k) wr (by omega) (by omega)
        have HK : Hid (1 + 2 * (k + 1) = 1 + 2 * k + 2) := by unfold Hid; omega
        generalize hK : 1 + 2 * k = K at *
        have hKb : K ≤ 105000000 := by omega
        go_wp2_with fail
        refine cM.mono ?_
        rintro e w1 ⟨rfl, b1⟩
        have hrow1 := hrow.below b1 hrow.lt
        have HD : Hid (D.size = cap * 2) := hD
        have hD2 : k * 2 + 1 < D.size := by rw [hD]; omega
        have t0 : w1.cell? ⟨g, k * 2, none⟩ = some (D[k * 2]'(by omega)) := by rw [hrow1.cell]; simp
        have f0 := hrow1.frozen (k * 2)
        have hrow2 := hrow1.set (k * 2) (.string (markB K))
        have t1 : (w1.setCell ⟨g, k * 2, none⟩ (.string (markB K))).cell? ⟨g, k * 2 + 1, none⟩ = some (D[k * 2 + 1]'(by omega)) := by rw [hrow2.cell, Array.getElem?_setIfInBounds_ne (by omega)]; simp
        have f1 := hrow2.frozen (k * 2 + 1)
        have HR : Hid (RowAt _ g 143 _) := hrow2.set (k * 2 + 1) (.int .i64 ((K : Int) + 1))
        have HP : Hid (PreR _ (marks 1 n) (k + 1)) := pre_put hpre.out hD2 (s := (K : Int) + 1) (by rw [HX.out]; rfl)
        have HG : Hid _ := grown_trans (grown_trans (grown_below gk b1) (grown_set w1 g (k * 2) (.string (markB K)))) (grown_set _ g (k * 2 + 1) (.int .i64 ((K : Int) + 1)))
        generalize D[k * 2]'(by omega) = y0 at *
        generalize D[k * 2 + 1]'(by omega) = y1 at *
        have HKK : Hid (1 + 2 * k = K) := hK
        clear hK hD hrow hrow1 hrow2 hpre cM b1 gk HX
        generalize markB K = mk at *
        go_wp2
        go_roundw
        case rel => exact ⟨k + 1, _, by omega, by go_num, congrArg (Value.int .i64) (by have := HKK.out; omega), by rw [Array.size_setIfInBounds, Array.size_setIfInBounds, HD.out], HR.out, HP, HG.out⟩
        case measure => simp [intOf]; omega
      · obtain rfl : k = n := by omega
        have HO : Hid (OwnR wr B (.slice (some ⟨g, 0, none⟩) k cap) (marks 1 k)) := by
          have := row_owns (B := B) hrow hD (by rw [marks_len]; exact hpre.out) (by rw [marks_len]; exact hcap) HM.out hg
          rw [marks_len] at this
          exact this
        clear hrow hpre hD
        go_wp2
        go_ret
        exact ⟨rfl, HO.out, gk⟩

set_option maxHeartbeats 4000000 in
set_option maxRecDepth 100000 in
theorem heldS_any (B : Nat) (v : Value) (n : Nat) (w : World) (h : OwnR w B v (marks 1 n)) (hn : n ≤ 1048577) :
    Calls Tryz.prog 62 #[v, .int .i64 1] w fun e w' => e = .returned (.int .i64 (1 + 2 * n : Nat)) ∧ Below w.heap.size w w' := by
  obtain ⟨a, A, c, rfl, hin⟩ := ownR_any h
  rw [marks_len] at hin ⊢
  have H : Hid (RanksIn w a A 0 n (marks 1 n)) := hin
  clear h hin
  go_enter Tryz.func62, Tryz.ntmps62
  go_wp2
  go_loopw [1, 5] (fun m i wr => ∃ (k : Nat), k ≤ n ∧ i = .int .i64 k ∧ m = .int .i64 (1 + 2 * k : Nat) ∧ Below w.heap.size w wr) (fun _ i _ => n - (intOf i).toNat)
  case atStart => exact ⟨0, by omega, rfl, rfl, Below.refl _ _⟩
  case round =>
    obtain ⟨k, hk, rfl, rfl, bk⟩ := hrel
    have sk := bk.size
    by_cases hlt : k < n
    · have HW := H.out.below bk
      have hx := HW.cell k hlt
      obtain rfl := HW.addr (by omega)
      rw [marks_at 1 n k hlt, Nat.zero_add] at hx
      have cM : ∀ d os, Calls Tryz.prog 56 #[.int .i64 (1 + 2 * k : Nat)] (grow (redrawn wr d) os) fun e w'' => e = .returned (.string (markB (1 + 2 * k))) ∧ ∃ p : Regrown, w'' = grow (redrawn wr p.d) p.os := fun d os => Calls.regrown_of (mark_any (1 + 2 * k) _ (by omega) (by omega))
      have HK : Hid (1 + 2 * (k + 1) = 1 + 2 * k + 2) := by unfold Hid; omega
      generalize hK : 1 + 2 * k = K at *
      have hKb : K ≤ 105000000 := by omega
      have c0 : wr.cell? ⟨A, k * 2, none⟩ = some (.string (markB K)) := by have := hx.c0; unfold mrk at this; rwa [hK] at this
      have c1 : wr.cell? ⟨A, k * 2 + 1, none⟩ = some (.int .i64 ((K : Int) + 1)) := by have := hx.c1; unfold mrk at this; rw [hK] at this; exact this
      have hlow := HW.low (by omega)
      have HKK : Hid (1 + 2 * k = K) := hK
      clear hx HW hK
      have kc0 := cell_regrown c0
      generalize markB K = mk at *
      have hbm : ∀ wq, Below wr.heap.size wr wq → wq.cell? ⟨A, k * 2 + 1, none⟩ = some (.int .i64 ((K : Int) + 1)) := fun wq hb => (hb.cell (p := ⟨A, k * 2 + 1, none⟩) hlow).trans c1
      clear c0 c1
      go_wp2
      refine wp_region_quiet_below (by kernel_rfl) (by kernel_rfl) ?_
      repeat (quiet_step (first | exact cM _ _))
      refine wpQuiet_nil ?_
      intro _ hw'
      obtain ⟨⟨dq, osq⟩, hw''⟩ := hw'
      subst hw''
      have bq := below_regrown wr dq osq
      have c1 := hbm _ bq
      generalize grow (redrawn wr dq) osq = wq at *
      clear kc0 cM hbm
      go_wp2
      go_roundw
      case rel => exact ⟨k + 1, by omega, by go_num, congrArg (Value.int .i64) (by have := HKK.out; omega), bk.trans (bq.mono sk)⟩
      case measure => simp [intOf]; omega
    · obtain rfl : k = n := by omega
      go_wp2
      go_ret
      exact ⟨rfl, bk⟩
end Go.Proofs.YtapdoechmnjaeaaGreatDoor.Kk

namespace Go.Proofs.YtapdoechmnjaeaaGreatDoor
open Go.RowKit Go.Sort
open Kk (Rk rk0 texL texR decS scoreB rightB ranksB OwnR flatR encR markB)

set_option maxHeartbeats 1000000 in
/-- eqStringS at two slices that read as the same strings. -/
theorem eqS_any (a a' : Option Addr) (b off b' off' n c c' : Nat) (ss : List ByteArray) (w : World) (h : StrsIn w a b off n ss) (h' : StrsIn w a' b' off' n ss) (hn : n ≤ 1048577) :
    Calls Tryz.prog 113 #[.slice a n c, .slice a' n c'] w fun e w' => e = .returned (.bool true) ∧ Below w.heap.size w w' := by
  go_enter Tryz.func113, Tryz.ntmps113
  go_wp2
  go_loopw [5] (fun i wr => ∃ (k q : Nat), k ≤ n ∧ i = .int .i64 k ∧ wr = w.drewN q) (fun i _ => n - (intOf i).toNat)
  case atStart => exact ⟨0, 0, by omega, rfl, rfl⟩
  case round =>
    obtain ⟨k, q, hk, rfl, rfl⟩ := hrel
    by_cases hlt : k < n
    · obtain rfl := h.addr (by omega)
      obtain rfl := h'.addr (by omega)
      have hc := h.cell k hlt
      have hc' := h'.cell k hlt
      generalize ss.getD k ByteArray.empty = s at *
      go_wp2
      go_quiet ((fail))
      go_wp2
      go_roundw
      case rel => exact ⟨k + 1, _, by omega, by go_num, rfl⟩
      case measure => simp [intOf]; omega
    · go_wp2
      go_ret
      exact ⟨rfl, below_drewN (Below.refl _ _) q⟩

theorem eqPair_any (x : Pr) (w : World) : Calls Tryz.prog 136 #[prV x, prV x] w fun e w' => e = .returned (.bool true) ∧ Below w.heap.size w w' := by
  obtain ⟨xm, xs⟩ := x
  go_enter Tryz.func136, Tryz.ntmps136
  go_wp2
  go_ret
  exact ⟨rfl, ((Below.refl _ w).alloc (Nat.le_refl _) _).alloc (by simp) _⟩

set_option maxHeartbeats 1000000 in
theorem eqP_any (a a' : Option Addr) (b b' n c c' : Nat) (L : List Pr) (w : World) (h : PairsIn w a b n L) (h' : PairsIn w a' b' n L) (hn : n ≤ 1048577) :
    Calls Tryz.prog 114 #[.slice a n c, .slice a' n c'] w fun e w' => e = .returned (.bool true) ∧ Below w.heap.size w w' := by
  have H : Hid (PairsIn w a b n L) := h
  have H' : Hid (PairsIn w a' b' n L) := h'
  clear h h'
  go_enter Tryz.func114, Tryz.ntmps114
  go_wp2
  go_loopw [5] (fun i wr => ∃ (k : Nat), k ≤ n ∧ i = .int .i64 k ∧ Below w.heap.size w wr) (fun i _ => n - (intOf i).toNat)
  case atStart => exact ⟨0, by omega, rfl, Below.refl _ _⟩
  case round =>
    obtain ⟨k, hk, rfl, bk⟩ := hrel
    have sk := bk.size
    by_cases hlt : k < n
    · have HW := H.out.below bk
      have HW' := H'.out.below bk
      have c0 := HW.c0 k hlt
      have c1 := HW.c1 k hlt
      have d0 := HW'.c0 k hlt
      have d1 := HW'.c1 k hlt
      obtain rfl := HW.addr (by omega)
      obtain rfl := HW'.addr (by omega)
      generalize L.getD k (bz, bz) = x at *
      have cE : ∀ d os, Calls Tryz.prog 136 #[prV x, prV x] (grow (redrawn wr d) os) fun e w'' => e = .returned (.bool true) ∧ ∃ p : Regrown, w'' = grow (redrawn wr p.d) p.os := fun d os => Calls.regrown_of (eqPair_any x _)
      obtain ⟨m, s⟩ := x
      dsimp only at c0 c1 d0 d1
      clear HW HW'
      have kc0 := cell_regrown c0
      have kc1 := cell_regrown c1
      have kd0 := cell_regrown d0
      have kd1 := cell_regrown d1
      go_wp2
      refine wp_region_quiet_below (by kernel_rfl) (by kernel_rfl) ?_
      repeat (quiet_step (first | exact cE _ _))
      refine wpQuiet_nil ?_
      intro _ hw'
      obtain ⟨⟨dq, osq⟩, hw''⟩ := hw'
      subst hw''
      have bq := below_regrown wr dq osq
      generalize grow (redrawn wr dq) osq = wq at *
      go_wp2
      go_roundw
      case rel => exact ⟨k + 1, by omega, by go_num, bk.trans (bq.mono sk)⟩
      case measure => simp [intOf]; omega
    · go_wp2
      go_ret
      exact ⟨rfl, bk⟩
end Go.Proofs.YtapdoechmnjaeaaGreatDoor

namespace Go.Proofs.YtapdoechmnjaeaaGreatDoor
open Go.RowKit Go.Sort
open Kk (Rk rk0 texL texR decS scoreB rightB ranksB OwnR flatR encR markB)

theorem markS_nil (a : Option Addr) (c : Nat) (m : Int) (w : World) : Calls Tryz.prog 57 #[.slice a (0 : Nat) c, .int .i64 m] w fun e w' => e = .returned (.int .i64 m) ∧ w' = w := by
  go_enter Tryz.func57, Tryz.ntmps57
  go_wp2
  refine wp_loop_rounds 1 ?_
  rw [rounds_succ]
  go_wp2
  go_ret
  exact ⟨rfl, rfl⟩

theorem markP_nil (a : Option Addr) (c : Nat) (m : Int) (w : World) : Calls Tryz.prog 58 #[.slice a (0 : Nat) c, .int .i64 m] w fun e w' => e = .returned (.int .i64 m) ∧ w' = w := by
  go_enter Tryz.func58, Tryz.ntmps58
  go_wp2
  refine wp_loop_rounds 1 ?_
  rw [rounds_succ]
  go_wp2
  go_ret
  exact ⟨rfl, rfl⟩

theorem markR_nil (a : Option Addr) (c : Nat) (m : Int) (w : World) : Calls Tryz.prog 59 #[.slice a (0 : Nat) c, .int .i64 m] w fun e w' => e = .returned (.int .i64 m) ∧ w' = w := by
  go_enter Tryz.func59, Tryz.ntmps59
  go_wp2
  refine wp_loop_rounds 1 ?_
  rw [rounds_succ]
  go_wp2
  go_ret
  exact ⟨rfl, rfl⟩

theorem heldS_nil (a : Option Addr) (c : Nat) (m : Int) (w : World) : Calls Tryz.prog 60 #[.slice a (0 : Nat) c, .int .i64 m] w fun e w' => e = .returned (.int .i64 m) ∧ w' = w := by
  go_enter Tryz.func60, Tryz.ntmps60
  go_wp2
  refine wp_loop_rounds 1 ?_
  rw [rounds_succ]
  go_wp2
  go_ret
  exact ⟨rfl, rfl⟩

theorem heldP_nil (a : Option Addr) (c : Nat) (m : Int) (w : World) : Calls Tryz.prog 61 #[.slice a (0 : Nat) c, .int .i64 m] w fun e w' => e = .returned (.int .i64 m) ∧ w' = w := by
  go_enter Tryz.func61, Tryz.ntmps61
  go_wp2
  refine wp_loop_rounds 1 ?_
  rw [rounds_succ]
  go_wp2
  go_ret
  exact ⟨rfl, rfl⟩

theorem heldR_nil (a : Option Addr) (c : Nat) (m : Int) (w : World) : Calls Tryz.prog 62 #[.slice a (0 : Nat) c, .int .i64 m] w fun e w' => e = .returned (.int .i64 m) ∧ w' = w := by
  go_enter Tryz.func62, Tryz.ntmps62
  go_wp2
  refine wp_loop_rounds 1 ?_
  rw [rounds_succ]
  go_wp2
  go_ret
  exact ⟨rfl, rfl⟩

theorem ret_int {a b : Int} (h : a = b) : Ending.returned (.int .i64 a) = .returned (.int .i64 b) := by rw [h]

/-- The marks of texts, from 1 on. -/
def smarks (n : Nat) : List ByteArray := (List.range n).map fun i => markB (1 + i)
theorem smarks_len (n : Nat) : (smarks n).length = n := by simp [smarks]
theorem smarks_at (n i : Nat) (h : i < n) : (smarks n).getD i ByteArray.empty = markB (1 + i) := by
  unfold smarks
  rw [List.getD_eq_getElem?_getD, List.getElem?_map, List.getElem?_range h]
  rfl

set_option maxHeartbeats 2000000 in
set_option maxRecDepth 100000 in
theorem markS_any (B : Nat) (v : Value) (L : List ByteArray) (w : World) (h : OwnS w B v L) (hn : L.length ≤ 1000000) :
    Calls Tryz.prog 57 #[v, .int .i64 1] w fun e w' => e = .returned (.int .i64 (1 + L.length : Nat)) ∧ OwnS w' B v (smarks L.length) ∧ w.grownBy w' (Value.ownBlock v) := by
  generalize hnl : L.length = n at *
  obtain ⟨hxl, ⟨rfl, h0⟩ | ⟨g, cap, cur, rfl, hg, hh, hcap, hmax, hcs, htk⟩⟩ := h
  · obtain rfl : n = 0 := by omega
    refine (markS_nil none 0 1 w).mono ?_
    rintro e w' ⟨rfl, rfl⟩
    exact ⟨rfl, ownS_nil _ _, grown_refl _ _⟩
  · rw [hnl] at hcap ⊢
    have hr0 : RowAt w g 9 cur := hh
    have hlt0 := hr0.lt
    have HM : Hid (cap ≤ maxLen) := hmax
    clear hh htk hxl hmax hnl
    go_enter Tryz.func57, Tryz.ntmps57
    go_wp2
    go_loopw [1, 5] (fun m i wr => ∃ (k : Nat) (D : Array Value), k ≤ n ∧ i = .int .i64 k ∧ m = .int .i64 ((1 : Int) + (k : Int)) ∧ D.size = cap * 1 ∧ RowAt wr g 9 D ∧ Hid (∀ j, j < k → D[j]? = some (.string (markB (1 + j)))) ∧ w.grownBy wr (some g)) (fun _ i _ => n - (intOf i).toNat)
    case atStart => exact ⟨0, cur, by omega, rfl, (by simp), hcs, hr0, fun j hj => by omega, grown_refl _ _⟩
    case round =>
      obtain ⟨k, D, hk, rfl, rfl, hD, hrow, hpre, gk⟩ := hrel
      have sk := gk.size
      by_cases hlt : k < n
      · have hkm : ((1 : Int) + (k : Int)) = ((1 + k : Nat) : Int) := by omega
        have HC : Hid (Calls Tryz.prog 56 #[.int .i64 ((1 : Int) + (k : Int))] wr fun e w' => e = .returned (.string (markB (1 + k))) ∧ Below wr.heap.size wr w') := by
          unfold Hid; rw [hkm]; exact Kk.mark_any (1 + k) wr (by omega) (by omega)
        clear hkm
        go_wp2_with fail
        refine HC.out.mono ?_
        rintro e w1 ⟨rfl, b1⟩
        have hrow1 := hrow.below b1 (hrow.lt)
        have hg1 : w1.cell? ⟨g, k, none⟩ = some (D[k]'(by omega)) := by rw [hrow1.cell k]; simp
        have hfz := hrow1.frozen k
        have HR : Hid (RowAt (w1.setCell ⟨g, k, none⟩ (.string (markB (1 + k)))) g 9 (D.setIfInBounds k (.string (markB (1 + k))))) := hrow1.set k _
        have HG : Hid (w.grownBy (w1.setCell ⟨g, k, none⟩ (.string (markB (1 + k)))) (some g)) := grown_trans (grown_below gk b1) (grown_set _ g k _)
        have HD : Hid (D.size = cap * 1) := hD
        generalize hDk : D[k]'(by omega) = old at *
        clear hDk hD hrow hrow1 HC b1 gk
        go_wp2
        go_roundw
        case rel =>
          refine ⟨k + 1, _, by omega, by go_num, by go_num, ?_, HR.out, ?_, HG.out⟩
          · rw [Array.size_setIfInBounds]; exact HD.out
          · intro j hj
            by_cases hjk : k = j
            · subst hjk
              rw [Array.getElem?_setIfInBounds_self_of_lt (by rw [HD.out]; omega)]
            · rw [Array.getElem?_setIfInBounds_ne hjk]
              exact hpre.out j (by omega)
        case measure => simp [intOf]; omega
      · obtain rfl : k = n := by omega
        have HO : Hid (OwnS wr B (.slice (some ⟨g, 0, none⟩) k cap) (smarks k)) := by
          unfold Hid OwnS
          rw [smarks_len]
          refine ⟨by simp [smarks, strV], .inr ⟨g, cap, D, rfl, hg, hrow, hcap, HM.out, hD, ?_⟩⟩
          apply List.ext_getElem?
          intro i
          by_cases hi : i < k
          · rw [Nat.mul_one, List.getElem?_take_of_lt hi, Array.getElem?_toList, hpre.out i hi]
            simp [strV, smarks, hi]
          · rw [List.getElem?_eq_none (by simp; omega), List.getElem?_eq_none (by simp [smarks, strV]; omega)]
        clear hrow hpre hD
        go_wp2
        go_ret
        exact ⟨ret_int (by omega), HO.out, gk⟩

set_option maxHeartbeats 2000000 in
set_option maxRecDepth 100000 in
theorem heldS_any (a : Option Addr) (g n cap : Nat) (w : World) (h : StrsIn w a g 0 n (smarks n)) (hn : n ≤ 1000000) :
    Calls Tryz.prog 60 #[.slice a n cap, .int .i64 1] w fun e w' => e = .returned (.int .i64 (1 + n : Nat)) ∧ Below w.heap.size w w' := by
  have H : Hid (StrsIn w a g 0 n (smarks n)) := h
  clear h
  go_enter Tryz.func60, Tryz.ntmps60
  go_wp2
  go_loopw [1, 5] (fun m i wr => ∃ (k : Nat), k ≤ n ∧ i = .int .i64 k ∧ m = .int .i64 ((1 : Int) + (k : Int)) ∧ Below w.heap.size w wr) (fun _ i _ => n - (intOf i).toNat)
  case atStart => exact ⟨0, by omega, rfl, (by simp), Below.refl _ _⟩
  case round =>
    obtain ⟨k, hk, rfl, rfl, bk⟩ := hrel
    have sk := bk.size
    by_cases hlt : k < n
    · have hkm : ((1 : Int) + (k : Int)) = ((1 + k : Nat) : Int) := by omega
      have cD : ∀ d os, Calls Tryz.prog 56 #[.int .i64 ((1 : Int) + (k : Int))] (grow (redrawn wr d) os) fun e w'' => e = .returned (.string (markB (1 + k))) ∧ ∃ p : Regrown, w'' = grow (redrawn wr p.d) p.os := fun d os => by
        rw [hkm]; exact Calls.regrown_of (Kk.mark_any (1 + k) _ (by omega) (by omega))
      obtain rfl := H.out.addr (by omega)
      have hc := H.out.cell k hlt
      rw [Nat.zero_add, smarks_at n k hlt] at hc
      have kc := cell_regrown ((bk.cell (p := ⟨g, k, none⟩) (H.out.low (by omega))).trans hc)
      generalize markB (1 + k) = mk at *
      clear hkm hc
      go_wp2
      refine wp_region_quiet_below (by kernel_rfl) (by kernel_rfl) ?_
      repeat (quiet_step (first | exact cD _ _))
      refine wpQuiet_nil ?_
      intro _ hw'
      obtain ⟨⟨dq, osq⟩, hw''⟩ := hw'
      subst hw''
      have bq := below_regrown wr dq osq
      generalize grow (redrawn wr dq) osq = wq at *
      go_wp2
      go_roundw
      case rel => exact ⟨k + 1, by omega, by go_num, by go_num, bk.trans (bq.mono bk.size)⟩
      case measure => simp [intOf]; omega
    · obtain rfl : k = n := by omega
      go_wp2
      go_ret
      exact ⟨ret_int (by omega), bk⟩
end Go.Proofs.YtapdoechmnjaeaaGreatDoor

namespace Go.Proofs.YtapdoechmnjaeaaGreatDoor
open Go.RowKit Go.Sort
open Kk (Rk rk0 texL texR decS scoreB rightB ranksB OwnR flatR encR markB)

def PreP (D : Array Value) (L : List Pr) (k : Nat) : Prop := ∀ i, i < k → D[i * 2]? = some (.string (L.getD i (bz, bz)).1) ∧ D[i * 2 + 1]? = some (.string (L.getD i (bz, bz)).2)

theorem preP_put {D : Array Value} {L : List Pr} {k : Nat} {m s : ByteArray} (h : PreP D L k) (hD : k * 2 + 1 < D.size) (hx : L.getD k (bz, bz) = (m, s)) : PreP ((D.setIfInBounds (k * 2) (.string m)).setIfInBounds (k * 2 + 1) (.string s)) L (k + 1) := fun i hi => by
  by_cases e : i = k
  · subst e
    rw [hx]
    refine ⟨?_, ?_⟩
    · rw [Array.getElem?_setIfInBounds_ne (by omega), Array.getElem?_setIfInBounds_self_of_lt (by omega)]
    · rw [Array.getElem?_setIfInBounds_self_of_lt (by rw [Array.size_setIfInBounds]; omega)]
  · obtain ⟨h0, h1⟩ := h i (by omega)
    refine ⟨?_, ?_⟩
    · rw [Array.getElem?_setIfInBounds_ne (by omega), Array.getElem?_setIfInBounds_ne (by omega)]; exact h0
    · rw [Array.getElem?_setIfInBounds_ne (by omega), Array.getElem?_setIfInBounds_ne (by omega)]; exact h1

theorem flatPV_len : ∀ ps : List Pr, (flatPV ps).length = ps.length * 2
  | [] => rfl
  | p :: ps => by
    have e : flatPV (p :: ps) = .string p.1 :: .string p.2 :: flatPV ps := rfl
    rw [e, List.length_cons, List.length_cons, flatPV_len ps, List.length_cons]
    omega

theorem preP_flat {D : Array Value} {L : List Pr} (h : PreP D L L.length) : D.toList.take (L.length * 2) = flatPV L := by
  apply List.ext_getElem?
  intro j
  by_cases hj : j < L.length * 2
  · rw [List.getElem?_take, if_pos hj, Array.getElem?_toList]
    have hi : j / 2 < L.length := by omega
    obtain ⟨f0, f1⟩ := flatPV_at L (j / 2) hi
    obtain ⟨h0, h1⟩ := h (j / 2) hi
    rcases Nat.mod_two_eq_zero_or_one j with hm | hm
    · rw [show j / 2 * 2 = j by omega] at f0 h0
      rw [f0, h0]
    · rw [show j / 2 * 2 + 1 = j by omega] at f1 h1
      rw [f1, h1]
  · rw [List.getElem?_take, if_neg hj, List.getElem?_eq_none (by rw [flatPV_len]; omega)]

theorem rowP_owns {w : World} {g cap B : Nat} {D : Array Value} {L : List Pr} (h : RowAt w g 139 D) (hD : D.size = cap * 2) (hp : PreP D L L.length) (hc : L.length ≤ cap) (hm : cap ≤ maxLen) (hB : B ≤ g) : OwnP w B (.slice (some ⟨g, 0, none⟩) L.length cap) L :=
  ⟨by rw [flatPV_len], .inr ⟨g, cap, D, rfl, hB, h, hc, hm, hD, preP_flat hp⟩⟩

/-- The marks of pairs, from 1 on. -/
def pmark (i : Nat) : Pr := (markB (1 + 2 * i), markB (1 + 2 * i + 1))
def pmarks (n : Nat) : List Pr := (List.range n).map pmark
theorem pmarks_len (n : Nat) : (pmarks n).length = n := by simp [pmarks]
theorem pmarks_at (n i : Nat) (h : i < n) : (pmarks n).getD i (bz, bz) = pmark i := by
  unfold pmarks
  rw [List.getD_eq_getElem?_getD, List.getElem?_map, List.getElem?_range h]
  rfl

set_option maxHeartbeats 4000000 in
set_option maxRecDepth 100000 in
theorem markP_any (B : Nat) (v : Value) (L : List Pr) (w : World) (h : OwnP w B v L) (hn : L.length ≤ 1048577) :
    Calls Tryz.prog 58 #[v, .int .i64 1] w fun e w' => e = .returned (.int .i64 (1 + 2 * L.length : Nat)) ∧ OwnP w' B v (pmarks L.length) ∧ w.grownBy w' (Value.ownBlock v) := by
  generalize hnl : L.length = n at *
  obtain ⟨hxl, ⟨rfl, h0⟩ | ⟨g, cap, cur, rfl, hg, hh, hcap, hmax, hcs, htk⟩⟩ := h
  · obtain rfl : n = 0 := by omega
    refine (markP_nil none 0 1 w).mono ?_
    rintro e w' ⟨rfl, rfl⟩
    exact ⟨rfl, ownP_nil _ _, grown_refl _ _⟩
  · rw [hnl] at hcap ⊢
    have hr0 : RowAt w g 139 cur := hh
    have hlt0 := hr0.lt
    have HM : Hid (cap ≤ maxLen) := hmax
    clear hh htk hxl hmax hnl
    go_enter Tryz.func58, Tryz.ntmps58
    go_wp2
    go_loopw [1, 5] (fun m i wr => ∃ (k : Nat) (D : Array Value), k ≤ n ∧ i = .int .i64 k ∧ m = .int .i64 (1 + 2 * k : Nat) ∧ D.size = cap * 2 ∧ RowAt wr g 139 D ∧ Hid (PreP D (pmarks n) k) ∧ w.grownBy wr (some g)) (fun _ i _ => n - (intOf i).toNat)
    case atStart => exact ⟨0, cur, by omega, rfl, rfl, hcs, hr0, fun j hj => by omega, grown_refl _ _⟩
    case round =>
      obtain ⟨k, D, hk, rfl, rfl, hD, hrow, hpre, gk⟩ := hrel
      have sk := gk.size
      by_cases hlt : k < n
      · have HX : Hid ((pmarks n).getD k (bz, bz) = (markB (1 + 2 * k), markB (1 + 2 * k + 1))) := pmarks_at n k hlt
        have cM := Kk.mark_any (1 + 2 * k) wr (by omega) (by omega)
        have cN : Hid (∀ W, Calls Tryz.prog 56 #[.int .i64 ((1 + 2 * k + 1 : Nat) : Int)] W fun e w' => e = .returned (.string (markB (1 + 2 * k + 1))) ∧ Below W.heap.size W w') := fun W => Kk.mark_any (1 + 2 * k + 1) W (by omega) (by omega)
        have hkn : k ≤ 1048577 := by omega
        generalize hK : 1 + 2 * k = K at *
        have hKb : K ≤ 105000000 := by omega
        have cN2 : Hid (∀ W, Calls Tryz.prog 56 #[.int .i64 ((K : Int) + 1)] W fun e w' => e = .returned (.string (markB (K + 1))) ∧ Below W.heap.size W w') := cN.out
        go_wp2_with fail
        refine cM.mono ?_
        rintro e w1 ⟨rfl, b1⟩
        have hrow1 := hrow.below b1 hrow.lt
        have HD : Hid (D.size = cap * 2) := hD
        have hD2 : k * 2 + 1 < D.size := by rw [hD]; omega
        have t0 : w1.cell? ⟨g, k * 2, none⟩ = some (D[k * 2]'(by omega)) := by rw [hrow1.cell]; simp
        have f0 := hrow1.frozen (k * 2)
        have HR2 : Hid (RowAt (w1.setCell ⟨g, k * 2, none⟩ (.string (markB K))) g 139 (D.setIfInBounds (k * 2) (.string (markB K)))) := hrow1.set (k * 2) (.string (markB K))
        have HG2 : Hid (w.grownBy (w1.setCell ⟨g, k * 2, none⟩ (.string (markB K))) (some g)) := grown_trans (grown_below gk b1) (grown_set w1 g (k * 2) (.string (markB K)))
        have HP : Hid (PreP ((D.setIfInBounds (k * 2) (.string (markB K))).setIfInBounds (k * 2 + 1) (.string (markB (K + 1)))) (pmarks n) (k + 1)) := preP_put hpre.out hD2 HX.out
        have HT : Hid ((D.setIfInBounds (k * 2) (.string (markB K)))[k * 2 + 1]? = some (D[k * 2 + 1]'(by omega))) := by unfold Hid; rw [Array.getElem?_setIfInBounds_ne (by omega)]; simp
        generalize D[k * 2]'(by omega) = y0 at *
        generalize D[k * 2 + 1]'(by omega) = y1 at *
        have HKK : Hid (1 + 2 * k = K) := hK
        clear hK hD hrow hrow1 hpre cM b1 gk HX cN
        generalize markB K = mk at *
        go_wp2_with fail
        refine (cN2.out _).mono ?_
        rintro e w2 ⟨rfl, b2⟩
        have hrow2 := HR2.out.below b2 HR2.out.lt
        have t1 : w2.cell? ⟨g, k * 2 + 1, none⟩ = some y1 := (hrow2.cell (k * 2 + 1)).trans HT.out
        have f1 := hrow2.frozen (k * 2 + 1)
        have HR : Hid (RowAt (w2.setCell ⟨g, k * 2 + 1, none⟩ (.string (markB (K + 1)))) g 139 _) := hrow2.set (k * 2 + 1) (.string (markB (K + 1)))
        have HG : Hid (w.grownBy (w2.setCell ⟨g, k * 2 + 1, none⟩ (.string (markB (K + 1)))) (some g)) := grown_trans (grown_below HG2.out b2) (grown_set _ g (k * 2 + 1) (.string (markB (K + 1))))
        clear hrow2 b2 HR2 HG2 cN2 t0 f0
        generalize markB (K + 1) = mk2 at *
        go_wp2
        go_roundw
        case rel => exact ⟨k + 1, _, by omega, by go_num, congrArg (Value.int .i64) (by have := HKK.out; omega), by rw [Array.size_setIfInBounds, Array.size_setIfInBounds, HD.out], HR.out, HP, HG.out⟩
        case measure => simp [intOf]; omega
      · obtain rfl : k = n := by omega
        have HO : Hid (OwnP wr B (.slice (some ⟨g, 0, none⟩) k cap) (pmarks k)) := by
          have := rowP_owns (B := B) hrow hD (by rw [pmarks_len]; exact hpre.out) (by rw [pmarks_len]; exact hcap) HM.out hg
          rw [pmarks_len] at this
          exact this
        clear hrow hpre hD
        go_wp2
        go_ret
        exact ⟨rfl, HO.out, gk⟩

set_option maxHeartbeats 4000000 in
set_option maxRecDepth 100000 in
theorem heldP_any (a : Option Addr) (A n c : Nat) (w : World) (h : PairsIn w a A n (pmarks n)) (hn : n ≤ 1048577) :
    Calls Tryz.prog 61 #[.slice a n c, .int .i64 1] w fun e w' => e = .returned (.int .i64 (1 + 2 * n : Nat)) ∧ Below w.heap.size w w' := by
  have H : Hid (PairsIn w a A n (pmarks n)) := h
  clear h
  go_enter Tryz.func61, Tryz.ntmps61
  go_wp2
  go_loopw [1, 5] (fun m i wr => ∃ (k : Nat), k ≤ n ∧ i = .int .i64 k ∧ m = .int .i64 (1 + 2 * k : Nat) ∧ Below w.heap.size w wr) (fun _ i _ => n - (intOf i).toNat)
  case atStart => exact ⟨0, by omega, rfl, rfl, Below.refl _ _⟩
  case round =>
    obtain ⟨k, hk, rfl, rfl, bk⟩ := hrel
    have sk := bk.size
    by_cases hlt : k < n
    · have HW := H.out.below bk
      obtain rfl := HW.addr (by omega)
      have c0 := HW.c0 k hlt
      have c1 := HW.c1 k hlt
      rw [pmarks_at n k hlt] at c0 c1
      have cM : ∀ d os, Calls Tryz.prog 56 #[.int .i64 (1 + 2 * k : Nat)] (grow (redrawn wr d) os) fun e w'' => e = .returned (.string (markB (1 + 2 * k))) ∧ ∃ p : Regrown, w'' = grow (redrawn wr p.d) p.os := fun d os => Calls.regrown_of (Kk.mark_any (1 + 2 * k) _ (by omega) (by omega))
      have cN : ∀ W, Calls Tryz.prog 56 #[.int .i64 (1 + 2 * k + 1 : Nat)] W fun e w'' => e = .returned (.string (markB (1 + 2 * k + 1))) ∧ Below W.heap.size W w'' := fun W => Kk.mark_any (1 + 2 * k + 1) W (by omega) (by omega)
      unfold pmark at c0 c1
      generalize hK : 1 + 2 * k = K at *
      have hKb : K ≤ 105000000 := by omega
      have hlow := HW.low (by omega)
      have HKK : Hid (1 + 2 * k = K) := hK
      clear HW hK
      dsimp only at c0 c1
      have kc0 := cell_regrown c0
      generalize markB K = mk at *
      generalize markB (K + 1) = mk2 at *
      have hbm : ∀ wq, Below wr.heap.size wr wq → wq.cell? ⟨A, k * 2 + 1, none⟩ = some (.string mk2) := fun wq hb => (hb.cell (p := ⟨A, k * 2 + 1, none⟩) hlow).trans c1
      clear c0 c1
      go_wp2
      refine wp_region_quiet_below (by kernel_rfl) (by kernel_rfl) ?_
      repeat (quiet_step (first | exact cM _ _))
      refine wpQuiet_nil ?_
      intro _ hw'
      obtain ⟨⟨dq, osq⟩, hw''⟩ := hw'
      subst hw''
      have bq := below_regrown wr dq osq
      have c1 := hbm _ bq
      have bkq := bk.trans (bq.mono sk)
      have skq := bkq.size
      generalize grow (redrawn wr dq) osq = wq at *
      have cN2 : ∀ d os, Calls Tryz.prog 56 #[.int .i64 ((K : Int) + 1)] (grow (redrawn wq d) os) fun e w'' => e = .returned (.string mk2) ∧ ∃ p : Regrown, w'' = grow (redrawn wq p.d) p.os := fun d os => Calls.regrown_of (cN _)
      have kc1 := cell_regrown c1
      clear kc0 cM hbm cN bq
      go_wp2
      refine wp_region_quiet_below (by kernel_rfl) (by kernel_rfl) ?_
      repeat (quiet_step (first | exact cN2 _ _))
      refine wpQuiet_nil ?_
      intro _ hw'
      obtain ⟨⟨dp, osp⟩, hw''⟩ := hw'
      subst hw''
      have bp := below_regrown wq dp osp
      generalize grow (redrawn wq dp) osp = wp at *
      clear kc1 cN2
      go_wp2
      go_roundw
      case rel => exact ⟨k + 1, by omega, by go_num, congrArg (Value.int .i64) (by have := HKK.out; omega), bkq.trans (bp.mono skq)⟩
      case measure => simp [intOf]; omega
    · obtain rfl : k = n := by omega
      go_wp2
      go_ret
      exact ⟨rfl, bk⟩
end Go.Proofs.YtapdoechmnjaeaaGreatDoor
