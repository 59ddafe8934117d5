/- spec.l1Dec at this dump: the decimal numeral; and spec.RequestText. -/
import Derived.Test.YtielombpeeelkaaDoorWrite
import Derived.Laws.IdiomStrings
import Derived.Lib.QuietBelow
namespace Go.Proofs.YtielombpeeelkaaDoor
open Go.RowKit Go.Sort

theorem dec_step (n : Nat) (h : 10 ≤ n) : Lib.decDigits n = Lib.decDigits (n / 10) ++ [UInt8.ofNat (48 + n % 10)] := by
  rw [Lib.decDigits, dif_neg (by omega)]

theorem conv_one (w : World) (z : Int) (h0 : 0 ≤ z) (h1 : z < 256) :
    (convert 22 9 (.slice (some ⟨w.heap.size, 0, none⟩) 1 1)).run Tryd.prog (w.alloc (.cells #[.int .u8 z] 5)) = .ok (.string ⟨[UInt8.ofNat z.toNat].toArray⟩) (w.alloc (.cells #[.int .u8 z] 5)) := by
  refine run_convert_bytes_back _ 22 9 5 ⟨w.heap.size, 0, none⟩ 1 [UInt8.ofNat z.toNat] Tryd.underlying22 Tryd.underlying5 Tryd.underlying9 ?_
  intro j hj
  obtain rfl : j = 0 := by simpa using hj
  have e : ((UInt8.ofNat z.toNat).toNat : Int) = z := by
    rw [UInt8.toNat_ofNat']
    omega
  simp only [List.getElem_cons_zero, e]
  exact cell_one_new w (.int .u8 z) 5 0 _ rfl

theorem dec_last (k : Nat) (h : k < 10) : Lib.decDigits k = [UInt8.ofNat (48 + k)] := Lib.decDigits_one h

set_option maxHeartbeats 1000000 in
set_option maxRecDepth 100000 in
theorem dec_any (n : Nat) (w : World) (hn : n ≤ 9223372036854775807) :
    Calls Tryd.prog 41 #[.int .i64 n] w fun e w' => e = .returned (.string ⟨(Lib.decDigits n).toArray⟩) ∧ Below w.heap.size w w' := by
  have hneg : decide ((n : Int) < 0) = false := by simp
  go_enter Tryd.func41, Tryd.ntmps41
  go_wp2
  go_loopw [0, 3] (fun m s wr => ∃ (k : Nat) (acc : List UInt8), k ≤ n ∧ m = .int .i64 k ∧ s = .string ⟨acc.toArray⟩ ∧ Lib.decDigits k ++ acc = Lib.decDigits n ∧ 2 * acc.length + k ≤ n ∧ Below w.heap.size w wr) (fun m _ _ => (intOf m).toNat)
  case atStart => exact ⟨n, [], by omega, rfl, rfl, by simp, by simp, Below.refl _ _⟩
  case round =>
    obtain ⟨k, acc, hk, rfl, rfl, hacc, hal, bk⟩ := hrel
    have HA : Hid (Lib.decDigits k ++ acc = Lib.decDigits n) := hacc
    clear hacc
    have sk := bk.size
    by_cases hlt : 10 ≤ k
    · have hcv := conv_one wr (48 + (k : Int) % 10) (by omega) (by omega)
      go_wp2
      go_roundw
      case rel => 
        refine ⟨k / 10, [UInt8.ofNat (48 + k % 10)] ++ acc, by omega, by go_num, ?_, ?_, by simp; omega, bk.alloc sk _⟩
        · exact congrArg Value.string (by rw [show (48 + UInt8.ofNat (k % 10)) = UInt8.ofNat (48 + k % 10) from by simp]; exact ByteArray.mk_append_mk [UInt8.ofNat (48 + k % 10)] acc)
        · rw [← HA.out, dec_step k hlt]; simp
      case measure => simp [intOf]; omega
    · have hcv := conv_one wr (48 + (k : Int)) (by omega) (by omega)
      go_wp2
      go_ret
      refine ⟨ret_str ?_, bk.alloc sk _⟩
      rw [show (48 + UInt8.ofNat k) = UInt8.ofNat (48 + k) from by simp, ← HA.out, dec_last k (by omega)]
      exact ByteArray.mk_append_mk [UInt8.ofNat (48 + k)] acc

set_option maxHeartbeats 1000000 in
theorem specText (a : Option Addr) (b off n c : Nat) (ss : List ByteArray) (w : World) (h : StrsIn w a b off n ss) (hn : n ≤ 2097152) :
    Calls Tryd.prog 22 #[.slice a n c] w fun e w' => e = .returned (.string ⟨(reqText ss).toArray⟩) ∧ Below w.heap.size w w' := by
  cases hok : okArgs ss with
  | false =>
    have Hk : Hid (okArgs ss = false) := hok
    clear hok
    go_enter Tryd.func22, Tryd.ntmps22
    go_wp2_with fail
    refine (args46 a b off n c ss w h hn).mono ?_
    rintro e w1 ⟨rfl, rfl⟩
    rw [Hk.out]
    go_wp2
    go_ret
    exact ⟨ret_str (by rw [reqText, Hk.out]; rfl), Below.refl _ _⟩
  | true =>
    have Hk : Hid (okArgs ss = true) := hok
    clear hok
    have hl := h.len
    have h16 : n ≤ 16 := by
      have := Hk.out
      simp [okArgs] at this
      omega
    have hall : Hid ((ss.all fun s => decide (s.size ≤ 200)) = true) := by
      have := Hk.out
      rw [okArgs, Bool.and_eq_true] at this
      exact this.2
    have hd := dec_len_le n hn
    have hdz := size_mk (Lib.decDigits n)
    have HZ : Hid ((⟨(Lib.decDigits n).toArray⟩ : ByteArray).size = (Lib.decDigits n).length) := hdz
    clear hdz
    go_enter Tryd.func22, Tryd.ntmps22
    go_wp2_with fail
    refine (args46 a b off n c ss w h hn).mono ?_
    rintro e w1 ⟨rfl, rfl⟩
    rw [Hk.out]
    go_wp2_with fail
    refine (dec_any n _ (by omega)).mono ?_
    rintro e w2 ⟨rfl, b2⟩
    have s2 := b2.size
    generalize hD : Lib.decDigits n = D at *
    have HD : Hid (Lib.decDigits n = D) := hD
    clear hD
    go_wp2_with fail
    have e0 : (⟨#[42]⟩ ++ ⟨D.toArray⟩ ++ ⟨#[13, 10]⟩ : ByteArray) = ⟨(headText n).toArray⟩ := by
      rw [headText, HD.out]
      rw [show (⟨#[42]⟩ : ByteArray) = ⟨[42].toArray⟩ from rfl, show (⟨#[13, 10]⟩ : ByteArray) = ⟨crlf.toArray⟩ from rfl, ByteArray.mk_append_mk, ByteArray.mk_append_mk]
    have hh : (headText n).length ≤ 30 := by rw [headText, HD.out]; simp [crlf]; omega
    have HE : Hid ((⟨#[42]⟩ ++ ⟨D.toArray⟩ ++ ⟨#[13, 10]⟩ : ByteArray) = ⟨(headText n).toArray⟩) := e0
    clear e0
    go_loopw [3, 4] (fun q i wr => ∃ (k : Nat), k ≤ n ∧ i = .int .i64 k ∧ q = .string ⟨(headText n ++ bodyText (ss.take k)).toArray⟩ ∧ Below w1.heap.size w1 wr) (fun _ i _ => n - (intOf i).toNat)
    case atStart => exact ⟨0, by omega, rfl, congrArg Value.string (by rw [HE.out]; simp [bodyText]), b2⟩
    case round =>
      obtain ⟨k, hk, rfl, rfl, bk⟩ := hrel
      have sk := bk.size
      have hbl := bodyText_len ss k hall.out
      by_cases hlt : k < n
      · obtain rfl := h.addr (by omega)
        have hlow := h.low (by omega)
        have hc : wr.cell? ⟨b, off + k, none⟩ = some (.string (ss.getD k ByteArray.empty)) := (bk.cell (p := ⟨b, off + k, none⟩) hlow).trans (h.cell k hlt)
        have hs2 : (ss.getD k ByteArray.empty).size ≤ 200 := by
          have h1 := hall.out
          rw [List.all_eq_true] at h1
          have := h1 ss[k] (List.getElem_mem (by omega))
          rw [List.getD_eq_getElem?_getD, List.getElem?_eq_getElem (by omega)]
          simpa using this
        have HB : Hid (_ = _) := bodyText_take_succ ss k (by omega)
        generalize ss.getD k ByteArray.empty = s at *
        have hds := dec_len_le s.size (by omega)
        have hal : (headText n ++ bodyText (ss.take k)).length ≤ 100000 := by rw [List.length_append]; omega
        generalize hA : headText n ++ bodyText (ss.take k) = acc at *
        have HA : Hid (headText n ++ bodyText (ss.take k) = acc) := hA
        clear hA hbl hh
        have cD : ∀ d os, Calls Tryd.prog 41 #[.int .i64 s.size] (grow (redrawn wr d) os) fun e w'' => e = .returned (.string ⟨(Lib.decDigits s.size).toArray⟩) ∧ ∃ p : Regrown, w'' = grow (redrawn wr p.d) p.os := fun d os => Calls.regrown_of (dec_any s.size _ (by omega))
        have HS : Hid (bulkText s = [36] ++ Lib.decDigits s.size ++ crlf ++ s.data.toList ++ crlf) := rfl
        generalize Lib.decDigits s.size = E at *
        have kc := cell_regrown hc
        have n1 : ¬ 9223372036854775807 < acc.length + 1 := by omega
        have n2 : ¬ 9223372036854775807 < acc.length + 1 + E.length := by omega
        have n3 : ¬ 9223372036854775807 < acc.length + 1 + E.length + 2 := by omega
        have n4 : ¬ 9223372036854775807 < acc.length + 1 + E.length + 2 + s.size := by omega
        have n5 : ¬ 9223372036854775807 < acc.length + 1 + E.length + 2 + s.size + 2 := by omega
        go_wp2
        refine wp_region_quiet_below (by kernel_rfl) (by kernel_rfl) ?_
        repeat (quiet_step (first | exact cD _ _))
        refine wpQuiet_nil ?_
        intro _ hw'
        obtain ⟨⟨dq, osq⟩, hw''⟩ := hw'
        subst hw''
        have bq := below_regrown wr dq osq
        generalize grow (redrawn wr dq) osq = wq at *
        go_wp2
        go_roundw
        case rel =>
          refine ⟨k + 1, by omega, by go_num, congrArg Value.string ?_, bk.trans (bq.mono sk)⟩
          rw [HB.out, HS.out, ← List.append_assoc (headText n), HA.out]
          rw [show (⟨#[36]⟩ : ByteArray) = ⟨[36].toArray⟩ from rfl, show (⟨#[13, 10]⟩ : ByteArray) = ⟨crlf.toArray⟩ from rfl, show s = ⟨s.data.toList.toArray⟩ from by simp]
          simp only [ByteArray.mk_append_mk]
          simp [List.append_assoc]
        case measure => simp [intOf]; omega
      · obtain rfl : k = n := by omega
        have hfin : headText k ++ bodyText (ss.take k) = reqText ss := by rw [reqText, if_pos Hk.out, hl, List.take_of_length_le (by omega)]
        have HF : Hid (_ = _) := hfin
        clear hfin
        go_wp2
        go_ret
        exact ⟨ret_str (by rw [HF.out]), bk⟩
end Go.Proofs.YtielombpeeelkaaDoor
