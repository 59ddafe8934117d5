/- spec.l1Dec at this dump: the decimal numeral; and spec.RequestText. -/
import Derived.Test.YtcgeafdakaeicaaDoorWrite
import Derived.Laws.IdiomStrings
import Derived.Lib.QuietBelow
namespace Go.Proofs.YtcgeafdakaeicaaDoor
open Go.RowKit Go.Sort

theorem dec_step (n : Nat) (h : 10 ≤ n) : Lib.decDigits n = Lib.decDigits (n / 10) ++ [UInt8.ofNat (48 + n % 10)] := by
  rw [Lib.decDigits, dif_neg (by omega)]

theorem conv_one (w : World) (z : Int) (h0 : 0 ≤ z) (h1 : z < 256) :
    (convert 22 9 (.slice (some ⟨w.heap.size, 0, none⟩) 1 1)).run Tryd.prog (w.alloc (.cells #[.int .u8 z] 5)) = .ok (.string ⟨[UInt8.ofNat z.toNat].toArray⟩) (w.alloc (.cells #[.int .u8 z] 5)) := by
  refine run_convert_bytes_back _ 22 9 5 ⟨w.heap.size, 0, none⟩ 1 [UInt8.ofNat z.toNat] Tryd.underlying22 Tryd.underlying5 Tryd.underlying9 ?_
  intro j hj
  obtain rfl : j = 0 := by simpa using hj
  have e : ((UInt8.ofNat z.toNat).toNat : Int) = z := by
    rw [UInt8.toNat_ofNat']
    omega
  simp only [List.getElem_cons_zero, e]
  exact cell_one_new w (.int .u8 z) 5 0 _ rfl

theorem dec_last (k : Nat) (h : k < 10) : Lib.decDigits k = [UInt8.ofNat (48 + k)] := Lib.decDigits_one h

set_option maxHeartbeats 1000000 in
set_option maxRecDepth 100000 in
theorem dec_any (n : Nat) (w : World) (hn : n ≤ 9223372036854775807) :
    Calls Tryd.prog 54 #[.int .i64 n] w fun e w' => e = .returned (.string ⟨(Lib.decDigits n).toArray⟩) ∧ Below w.heap.size w w' := by
  have hneg : decide ((n : Int) < 0) = false := by simp
  go_enter Tryd.func54, Tryd.ntmps54
  go_wp2
  go_loopw [0, 3] (fun m s wr => ∃ (k : Nat) (acc : List UInt8), k ≤ n ∧ m = .int .i64 k ∧ s = .string ⟨acc.toArray⟩ ∧ Lib.decDigits k ++ acc = Lib.decDigits n ∧ 2 * acc.length + k ≤ n ∧ Below w.heap.size w wr) (fun m _ _ => (intOf m).toNat)
  case atStart => exact ⟨n, [], by omega, rfl, rfl, by simp, by simp, Below.refl _ _⟩
  case round =>
    obtain ⟨k, acc, hk, rfl, rfl, hacc, hal, bk⟩ := hrel
    have HA : Hid (Lib.decDigits k ++ acc = Lib.decDigits n) := hacc
    clear hacc
    have sk := bk.size
    by_cases hlt : 10 ≤ k
    · have hcv := conv_one wr (48 + (k : Int) % 10) (by omega) (by omega)
      go_wp2
      go_roundw
      case rel => 
        refine ⟨k / 10, [UInt8.ofNat (48 + k % 10)] ++ acc, by omega, by go_num, ?_, ?_, by simp; omega, bk.alloc sk _⟩
        · exact congrArg Value.string (by rw [show (48 + UInt8.ofNat (k % 10)) = UInt8.ofNat (48 + k % 10) from by simp]; exact ByteArray.mk_append_mk [UInt8.ofNat (48 + k % 10)] acc)
        · rw [← HA.out, dec_step k hlt]; simp
      case measure => simp [intOf]; omega
    · have hcv := conv_one wr (48 + (k : Int)) (by omega) (by omega)
      go_wp2
      go_ret
      refine ⟨ret_str ?_, bk.alloc sk _⟩
      rw [show (48 + UInt8.ofNat k) = UInt8.ofNat (48 + k) from by simp, ← HA.out, dec_last k (by omega)]
      exact ByteArray.mk_append_mk [UInt8.ofNat (48 + k)] acc

end Go.Proofs.YtcgeafdakaeicaaDoor
