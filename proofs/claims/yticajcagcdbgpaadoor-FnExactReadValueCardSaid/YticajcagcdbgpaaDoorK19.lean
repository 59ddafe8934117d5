/- Marks: ranks written into an answer's own memory, and found there again. -/
import Derived.Test.YticajcagcdbgpaaDoorK18
import Derived.Laws.IdiomStrings
import Derived.Lib.QuietBelow
namespace Go.Proofs.YticajcagcdbgpaaDoor.Kk
open Go.RowKit Go.Sort

theorem ret_str {a b : ByteArray} (h : a = b) : Ending.returned (.string a) = .returned (.string b) := by rw [h]
theorem dec_step (n : Nat) (h : 10 ≤ n) : Lib.decDigits n = Lib.decDigits (n / 10) ++ [UInt8.ofNat (48 + n % 10)] := by
  rw [Lib.decDigits, dif_neg (by omega)]
theorem dec_last (k : Nat) (h : k < 10) : Lib.decDigits k = [UInt8.ofNat (48 + k)] := Lib.decDigits_one h

theorem conv_one (w : World) (z : Int) (h0 : 0 ≤ z) (h1 : z < 256) :
    (convert 55 9 (.slice (some ⟨w.heap.size, 0, none⟩) 1 1)).run Tryd.prog (w.alloc (.cells #[.int .u8 z] 5)) = .ok (.string ⟨[UInt8.ofNat z.toNat].toArray⟩) (w.alloc (.cells #[.int .u8 z] 5)) := by
  refine run_convert_bytes_back _ 55 9 5 ⟨w.heap.size, 0, none⟩ 1 [UInt8.ofNat z.toNat] Tryd.underlying55 Tryd.underlying5 Tryd.underlying9 ?_
  intro j hj
  obtain rfl : j = 0 := by simpa using hj
  have e : ((UInt8.ofNat z.toNat).toNat : Int) = z := by
    rw [UInt8.toNat_ofNat']
    omega
  simp only [List.getElem_cons_zero, e]
  exact cell_one_new w (.int .u8 z) 5 0 _ rfl

def markB (k : Nat) : ByteArray := ⟨(109 :: Lib.decDigits k).toArray⟩

def Digs (n k : Nat) (acc : List UInt8) : Prop := (if k = 0 then [] else Lib.decDigits k) ++ acc = Lib.decDigits n ∧ (acc.length : Int) ≤ (n : Int) - k

set_option maxHeartbeats 1000000 in
set_option maxRecDepth 100000 in
theorem mark_any (n : Nat) (w : World) (h0 : 0 < n) (hn : n ≤ 2000000000) :
    Calls Tryd.prog 32 #[.int .i64 n] w fun e w' => e = .returned (.string (markB n)) ∧ Below w.heap.size w w' := by
  have hneg : decide ((n : Int) ≤ 0) = false := by simp; omega
  go_enter Tryd.func32, Tryd.ntmps32
  go_wp2
  go_loopw [0, 3] (fun m s wr => ∃ (k : Nat) (acc : List UInt8), k ≤ n ∧ m = .int .i64 k ∧ s = .string ⟨acc.toArray⟩ ∧ Hid (Digs n k acc) ∧ Below w.heap.size w wr) (fun m _ _ => (intOf m).toNat)
  case atStart => exact ⟨n, [], by omega, rfl, rfl, ⟨by rw [if_neg (by omega)]; simp, by simp⟩, Below.refl _ _⟩
  case round =>
    obtain ⟨k, acc, hk, rfl, rfl, hd, bk⟩ := hrel
    have sk := bk.size
    have hal := hd.out.2
    by_cases hlt : 0 < k
    · have hcv := conv_one wr (48 + (k : Int) % 10) (by omega) (by omega)
      have HD : Hid (Digs n (k / 10) ([UInt8.ofNat (48 + k % 10)] ++ acc)) := by
        obtain ⟨h1, h2⟩ := hd.out
        rw [if_neg (by omega)] at h1
        refine ⟨?_, by simp; omega⟩
        rw [← h1]
        by_cases h10 : k < 10
        · rw [if_pos (by omega), dec_last k h10, show k % 10 = k from by omega]; rfl
        · rw [if_neg (by omega), dec_step k (by omega)]; simp
      clear hd
      have n1 : acc.length ≤ 2000000000 := by omega
      go_wp2
      go_roundw
      case rel =>
        refine ⟨k / 10, [UInt8.ofNat (48 + k % 10)] ++ acc, by omega, by go_num, ?_, HD, bk.alloc sk _⟩
        exact congrArg Value.string (by rw [show (48 + UInt8.ofNat (k % 10)) = UInt8.ofNat (48 + k % 10) from by simp]; exact ByteArray.mk_append_mk [UInt8.ofNat (48 + k % 10)] acc)
      case measure => simp [intOf]; omega
    · have HE : Hid (acc = Lib.decDigits n) := by
        have := hd.out.1
        rw [if_pos (by omega)] at this
        exact this
      have n1 : acc.length ≤ 2000000000 := by omega
      clear hd
      go_wp2
      go_ret
      refine ⟨ret_str ?_, bk⟩
      unfold markB
      rw [← HE.out]
      exact ByteArray.mk_append_mk [109] acc

/-- The marks from s0 on. -/
def mrk (s0 i : Nat) : Rk := ⟨markB (s0 + 2 * i), ((s0 + 2 * i + 1 : Nat) : Int)⟩
def marks (s0 n : Nat) : List Rk := (List.range n).map (mrk s0)
theorem marks_len (s0 n : Nat) : (marks s0 n).length = n := by simp [marks]
theorem marks_at (s0 n i : Nat) (h : i < n) : (marks s0 n).getD i rk0 = mrk s0 i := by
  unfold marks
  rw [List.getD_eq_getElem?_getD, List.getElem?_map, List.getElem?_range h]
  rfl

theorem grown_refl (w : World) (r : Option Nat) : w.grownBy w r := ⟨rfl, rfl, rfl, Nat.le_refl _, fun _ _ _ => rfl⟩
theorem grown_below {w w1 w2 : World} {r : Option Nat} (h : w.grownBy w1 r) (hb : Below w1.heap.size w1 w2) : w.grownBy w2 r :=
  ⟨hb.os.trans h.os, hb.tape.trans h.tape, hb.output.trans h.output, Nat.le_trans h.size hb.size, fun k hk hne => (hb.block k (by have := h.size; omega)).trans (h.block k hk hne)⟩
theorem grown_trans {w w1 w2 : World} {r : Option Nat} (h : w.grownBy w1 r) (h2 : w1.grownBy w2 r) : w.grownBy w2 r :=
  ⟨h2.os.trans h.os, h2.tape.trans h.tape, h2.output.trans h.output, Nat.le_trans h.size h2.size, fun k hk hne => (h2.block k (by have := h.size; omega) hne).trans (h.block k hk hne)⟩
theorem grown_set (w : World) (b o : Nat) (v : Value) : w.grownBy (w.setCell ⟨b, o, none⟩ v) (some b) :=
  ⟨rfl, rfl, rfl, by simp [World.setCell], fun k _ hk => Below.heap_setCell _ _ _ _ (fun e => hk (by simp [e]))⟩

set_option maxHeartbeats 4000000 in
set_option maxRecDepth 100000 in
theorem markS_any (B : Nat) (v : Value) (L : List Rk) (w : World) (h : OwnR w B v L) (hn : L.length ≤ 1048577) :
    Calls Tryd.prog 19 #[v, .int .i64 1] w fun e w' => e = .returned (.int .i64 (1 + 2 * L.length : Nat)) ∧ OwnR w' B v (marks 1 L.length) ∧ w.grownBy w' (Value.ownBlock v) := by
  generalize hnl : L.length = n at *
  obtain ⟨hxl, ⟨rfl, h0⟩ | ⟨g, cap, cur, rfl, hg, hh, hcap, hmax, hcs, htk⟩⟩ := h
  · obtain rfl : n = 0 := by omega
    clear hnl h0 hxl
    go_enter Tryd.func19, Tryd.ntmps19
    go_wp2
    refine wp_loop_rounds 1 ?_
    rw [rounds_succ]
    go_wp2
    go_ret
    exact ⟨rfl, ownR_nil _ _, grown_refl _ _⟩
  · rw [hnl] at hcap ⊢
    have hr0 : RowAt w g 37 cur := hh
    have hlt0 := hr0.lt
    have HM : Hid (cap ≤ maxLen) := hmax
    clear hh htk hxl hmax hnl
    go_enter Tryd.func19, Tryd.ntmps19
    go_wp2
    go_loopw [1, 5] (fun m i wr => ∃ (k : Nat) (D : Array Value), k ≤ n ∧ i = .int .i64 k ∧ m = .int .i64 (1 + 2 * k : Nat) ∧ D.size = cap * 2 ∧ RowAt wr g 37 D ∧ Hid (PreR D (marks 1 n) k) ∧ w.grownBy wr (some g)) (fun _ i _ => n - (intOf i).toNat)
    case atStart => exact ⟨0, cur, by omega, rfl, rfl, hcs, hr0, fun j hj => by omega, grown_refl _ _⟩
    case round =>
      obtain ⟨k, D, hk, rfl, rfl, hD, hrow, hpre, gk⟩ := hrel
      have sk := gk.size
      by_cases hlt : k < n
      · have HX : Hid ((marks 1 n).getD k rk0 = ⟨markB (1 + 2 * k), ((1 + 2 * k + 1 : Nat) : Int)⟩) := marks_at 1 n k hlt
        have cM := mark_any (1 + 2 * k) wr (by omega) (by omega)
        have HK : Hid (1 + 2 * (k + 1) = 1 + 2 * k + 2) := by unfold Hid; omega
        generalize hK : 1 + 2 * k = K at *
        have hKb : K ≤ 105000000 := by omega
        go_wp2_with fail
        refine cM.mono ?_
        rintro e w1 ⟨rfl, b1⟩
        have hrow1 := hrow.below b1 hrow.lt
        have HD : Hid (D.size = cap * 2) := hD
        have hD2 : k * 2 + 1 < D.size := by rw [hD]; omega
        have t0 : w1.cell? ⟨g, k * 2, none⟩ = some (D[k * 2]'(by omega)) := by rw [hrow1.cell]; simp
        have f0 := hrow1.frozen (k * 2)
        have hrow2 := hrow1.set (k * 2) (.string (markB K))
        have t1 : (w1.setCell ⟨g, k * 2, none⟩ (.string (markB K))).cell? ⟨g, k * 2 + 1, none⟩ = some (D[k * 2 + 1]'(by omega)) := by rw [hrow2.cell, Array.getElem?_setIfInBounds_ne (by omega)]; simp
        have f1 := hrow2.frozen (k * 2 + 1)
        have HR : Hid (RowAt _ g 37 _) := hrow2.set (k * 2 + 1) (.int .i64 ((K : Int) + 1))
        have HP : Hid (PreR _ (marks 1 n) (k + 1)) := pre_put hpre.out hD2 (s := (K : Int) + 1) (by rw [HX.out]; rfl)
        have HG : Hid _ := grown_trans (grown_trans (grown_below gk b1) (grown_set w1 g (k * 2) (.string (markB K)))) (grown_set _ g (k * 2 + 1) (.int .i64 ((K : Int) + 1)))
        generalize D[k * 2]'(by omega) = y0 at *
        generalize D[k * 2 + 1]'(by omega) = y1 at *
        have HKK : Hid (1 + 2 * k = K) := hK
        clear hK hD hrow hrow1 hrow2 hpre cM b1 gk HX
        generalize markB K = mk at *
        go_wp2
        go_roundw
        case rel => exact ⟨k + 1, _, by omega, by go_num, congrArg (Value.int .i64) (by have := HKK.out; omega), by rw [Array.size_setIfInBounds, Array.size_setIfInBounds, HD.out], HR.out, HP, HG.out⟩
        case measure => simp [intOf]; omega
      · obtain rfl : k = n := by omega
        have HO : Hid (OwnR wr B (.slice (some ⟨g, 0, none⟩) k cap) (marks 1 k)) := by
          have := row_owns (B := B) hrow hD (by rw [marks_len]; exact hpre.out) (by rw [marks_len]; exact hcap) HM.out hg
          rw [marks_len] at this
          exact this
        clear hrow hpre hD
        go_wp2
        go_ret
        exact ⟨rfl, HO.out, gk⟩

set_option maxHeartbeats 4000000 in
set_option maxRecDepth 100000 in
theorem heldS_any (B : Nat) (v : Value) (n : Nat) (w : World) (h : OwnR w B v (marks 1 n)) (hn : n ≤ 1048577) :
    Calls Tryd.prog 22 #[v, .int .i64 1] w fun e w' => e = .returned (.int .i64 (1 + 2 * n : Nat)) ∧ Below w.heap.size w w' := by
  obtain ⟨a, A, c, rfl, hin⟩ := ownR_any h
  rw [marks_len] at hin ⊢
  have H : Hid (RanksIn w a A 0 n (marks 1 n)) := hin
  clear h hin
  go_enter Tryd.func22, Tryd.ntmps22
  go_wp2
  go_loopw [1, 5] (fun m i wr => ∃ (k : Nat), k ≤ n ∧ i = .int .i64 k ∧ m = .int .i64 (1 + 2 * k : Nat) ∧ Below w.heap.size w wr) (fun _ i _ => n - (intOf i).toNat)
  case atStart => exact ⟨0, by omega, rfl, rfl, Below.refl _ _⟩
  case round =>
    obtain ⟨k, hk, rfl, rfl, bk⟩ := hrel
    have sk := bk.size
    by_cases hlt : k < n
    · have HW := H.out.below bk
      have hx := HW.cell k hlt
      obtain rfl := HW.addr (by omega)
      rw [marks_at 1 n k hlt, Nat.zero_add] at hx
      have cM : ∀ d os, Calls Tryd.prog 32 #[.int .i64 (1 + 2 * k : Nat)] (grow (redrawn wr d) os) fun e w'' => e = .returned (.string (markB (1 + 2 * k))) ∧ ∃ p : Regrown, w'' = grow (redrawn wr p.d) p.os := fun d os => Calls.regrown_of (mark_any (1 + 2 * k) _ (by omega) (by omega))
      have HK : Hid (1 + 2 * (k + 1) = 1 + 2 * k + 2) := by unfold Hid; omega
      generalize hK : 1 + 2 * k = K at *
      have hKb : K ≤ 105000000 := by omega
      have c0 : wr.cell? ⟨A, k * 2, none⟩ = some (.string (markB K)) := by have := hx.c0; unfold mrk at this; rwa [hK] at this
      have c1 : wr.cell? ⟨A, k * 2 + 1, none⟩ = some (.int .i64 ((K : Int) + 1)) := by have := hx.c1; unfold mrk at this; rw [hK] at this; exact this
      have hlow := HW.low (by omega)
      have HKK : Hid (1 + 2 * k = K) := hK
      clear hx HW hK
      have kc0 := cell_regrown c0
      generalize markB K = mk at *
      have hbm : ∀ wq, Below wr.heap.size wr wq → wq.cell? ⟨A, k * 2 + 1, none⟩ = some (.int .i64 ((K : Int) + 1)) := fun wq hb => (hb.cell (p := ⟨A, k * 2 + 1, none⟩) hlow).trans c1
      clear c0 c1
      go_wp2
      refine wp_region_quiet_below (by kernel_rfl) (by kernel_rfl) ?_
      repeat (quiet_step (first | exact cM _ _))
      refine wpQuiet_nil ?_
      intro _ hw'
      obtain ⟨⟨dq, osq⟩, hw''⟩ := hw'
      subst hw''
      have bq := below_regrown wr dq osq
      have c1 := hbm _ bq
      generalize grow (redrawn wr dq) osq = wq at *
      clear kc0 cM hbm
      go_wp2
      go_roundw
      case rel => exact ⟨k + 1, by omega, by go_num, congrArg (Value.int .i64) (by have := HKK.out; omega), bk.trans (bq.mono sk)⟩
      case measure => simp [intOf]; omega
    · obtain rfl : k = n := by omega
      go_wp2
      go_ret
      exact ⟨rfl, bk⟩
end Go.Proofs.YticajcagcdbgpaaDoor.Kk
