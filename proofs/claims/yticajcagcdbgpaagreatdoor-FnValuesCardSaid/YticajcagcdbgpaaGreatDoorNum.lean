/- impl.decimal. -/
import Derived.Test.YticajcagcdbgpaaGreatDoorBase
import Derived.Test.YticajcagcdbgpaaGreatDoorShelf
import Derived.Laws.IdiomStrings
import Derived.Lib.QuietBelow
namespace Go.Proofs.YticajcagcdbgpaaGreatDoor
open Go.RowKit Go.Sort

/-- What the readers lean on in memory: the table of powers, MaxLen some number, the two errors of strconv. -/
structure Ready (w : World) : Prop where
  tab : Tab w
  syn : ∃ tp p, w.var? Tryz.prog "strconv.ErrSyntax" = some #[.iface tp p]
  rng : ∃ tp p, w.var? Tryz.prog "strconv.ErrRange" = some #[.iface tp p]
  six : 6 ≤ w.heap.size

theorem gSyn : Tryz.prog.globalNamed "strconv.ErrSyntax" = some 0 := by kernel_rfl
theorem gRng : Tryz.prog.globalNamed "strconv.ErrRange" = some 1 := by kernel_rfl

theorem Ready.below {w w' : World} (h : Ready w) (hb : Below 6 w w') : Ready w' := by
  obtain ⟨t1, p1, h1⟩ := h.syn
  obtain ⟨t2, p2, h2⟩ := h.rng
  exact ⟨h.tab.below hb (by omega), ⟨t1, p1, var?_below hb gSyn (by omega) h1⟩, ⟨t2, p2, var?_below hb gRng (by omega) h2⟩, by have := h.six; have := hb.size; omega⟩

def inNum (n : Int) : Bool := decide (-1000000000000000000 ≤ n ∧ n ≤ 1000000000000000000)

/-- The number that the bytes are in decimal. -/
def decM (l : List UInt8) : Option Int :=
  match Lib.parseIntB 64 l with
  | .ok v => if inNum v = true ∧ Lib.itoa v = l then some v else none
  | _ => none

set_option maxHeartbeats 400000 in
theorem numberOk_any (n : Int) (w : World) :
    Calls Tryz.prog 49 #[.int .i64 n] w fun e w' => e = .returned (.bool (inNum n)) ∧ w' = w := by
  by_cases h : -1000000000000000000 ≤ n
  · go_enter Tryz.func49, Tryz.ntmps49
    go_wp2
    go_ret
    exact ⟨ret_bool (by simp [inNum, h]), rfl⟩
  · have hd : decide (-1000000000000000000 ≤ n) = false := by simpa using h
    go_enter Tryz.func49, Tryz.ntmps49
    go_wp2
    go_ret
    exact ⟨ret_bool (by simp [inNum]; omega), rfl⟩

theorem parseInt_range (l : List UInt8) (v : Int) (h : Lib.parseIntB 64 l = .ok v) : -9223372036854775808 ≤ v ∧ v ≤ 9223372036854775807 := by
  have e63 : (2 : Nat) ^ (64 - 1) = 9223372036854775808 := by decide
  unfold Lib.parseIntB at h
  cases l with
  | nil => cases h
  | cons c r =>
    simp only at h
    split at h
    · cases h
    · cases h
    · rename_i u _
      rw [e63] at h
      split at h
      · cases h
      · split at h
        · cases h
        · injection h with h
          subst h
          split <;> omega

theorem bytesW_below (w : World) (s : ByteArray) : Below w.heap.size w (Lib.bytesWorld w 5 s) := ⟨rfl, rfl, rfl, by rw [Lib.bytesWorld_size]; omega, fun k hk => Lib.bytesWorld_at_old w 5 s k hk⟩

set_option maxHeartbeats 1000000 in
theorem decimal_any (s : ByteArray) (w : World) (hs : s.size ≤ 1048576) (hr : Ready w) :
    Calls Tryz.prog 47 #[.string s] w fun e w' => e = .returned (.tuple #[.int .i64 ((decM s.data.toList).getD 0), .bool (decM s.data.toList).isSome]) ∧ Below w.heap.size w w' := by
  have h6 := hr.six
  cases hp : Lib.parseIntB 64 s.data.toList with
  | ok v =>
    obtain ⟨v0, v1⟩ := parseInt_range _ _ hp
    have HC : Hid (Calls Tryz.prog 48 #[.string s, .int .i64 10, .int .i64 64] w fun e w' => e = .returned (.tuple #[.int .i64 v, .nilIface]) ∧ (w' = w ∨ ∃ t, w' = Lib.bytesWorld w 5 t)) := Tryz.strconv_ParseInt_10_at64_ok s (by omega) v hp w
    have HD : Hid (decM s.data.toList = if inNum v = true ∧ Lib.itoa v = s.data.toList then some v else none) := by
      unfold Hid decM
      rw [hp]
    clear hp
    go_enter Tryz.func47, Tryz.ntmps47
    go_wp2_with fail
    refine HC.out.mono ?_
    rintro e w1 ⟨rfl, hw1⟩
    have b1 : Below w.heap.size w w1 := by
      rcases hw1 with rfl | ⟨t, rfl⟩
      · exact Below.refl _ _
      · exact bytesW_below w t
    clear hw1 HC
    have hr1 := hr.below (b1.mono h6)
    go_wp2_with fail
    refine (numberOk_any v w1).mono ?_
    rintro e w2 ⟨rfl, hw2⟩
    have hw3 := hw2.symm
    subst hw3
    cases hin : inNum v with
    | false =>
      have HN : Hid (decM s.data.toList = none) := by unfold Hid; rw [HD.out, hin]; simp
      clear hin
      go_wp2
      go_ret2
      exact ⟨by rw [HN.out]; rfl, b1⟩
    | true =>
      have HN : Hid (decM s.data.toList = if Lib.itoa v = s.data.toList then some v else none) := by unfold Hid; rw [HD.out, hin]; simp
      clear hin HD
      have htab := hr1.tab
      go_wp2_with fail
      refine (Tryz.strconv_FormatInt_10 v v0 v1 _ htab).mono ?_
      rintro e w3 ⟨rfl, k1, os1, rfl⟩
      have b2 := below_grow w1.heap.size w1 (Nat.le_refl _) k1 os1
      generalize grow (w1.drewN k1) os1 = w3 at *
      have b02 := b1.trans (b2.mono b1.size)
      clear b2 b1 hr1 htab
      generalize Lib.itoa v = D at *
      by_cases hD : D = s.data.toList
      · have hb : (D == s.toList) = true := by simp [hD, ByteArray.toList_eq]
        have HV : Hid (decM s.data.toList = some v) := by unfold Hid; rw [HN.out, if_pos hD]
        clear hD HN
        go_wp2
        go_ret2
        exact ⟨by rw [HV.out]; rfl, b02⟩
      · have hb : (D == s.toList) = false := by simp [hD, ByteArray.toList_eq]
        have HV : Hid (decM s.data.toList = none) := by unfold Hid; rw [HN.out, if_neg hD]
        clear hD HN
        go_wp2
        go_ret2
        exact ⟨by rw [HV.out]; rfl, b02⟩
  | «syntax» =>
    obtain ⟨tp, pv, hv⟩ := hr.syn
    have HC : Hid (Calls Tryz.prog 48 #[.string s, .int .i64 10, .int .i64 64] w fun e w' => ∃ N, e = .returned (.tuple #[.int .i64 (0), .iface 95 (.pointer (some ⟨N, 0, none⟩))]) ∧ w.heap.size ≤ N ∧ w'.heap[N]? = some (.cells #[.string ⟨#[80, 97, 114, 115, 101, 73, 110, 116]⟩, .string s, .iface tp pv] 106 (0, 0)) ∧ Below w.heap.size w w') := Tryz.strconv_ParseInt_10_at64_syntax_var s (by omega) hp tp pv w hv
    have HV : Hid (decM s.data.toList = none) := by unfold Hid decM; rw [hp]
    clear hp hv
    go_enter Tryz.func47, Tryz.ntmps47
    go_wp2_with fail
    refine HC.out.mono ?_
    rintro e w1 ⟨N, rfl, _, _, b1⟩
    go_wp2
    go_ret2
    exact ⟨by rw [HV.out]; rfl, b1⟩
  | range =>
    obtain ⟨tp, pv, hv⟩ := hr.rng
    have HC : Hid (Calls Tryz.prog 48 #[.string s, .int .i64 10, .int .i64 64] w fun e w' => ∃ N, e = .returned (.tuple #[.int .i64 (Lib.intSat 64 s.data.toList), .iface 95 (.pointer (some ⟨N, 0, none⟩))]) ∧ w.heap.size ≤ N ∧ w'.heap[N]? = some (.cells #[.string ⟨#[80, 97, 114, 115, 101, 73, 110, 116]⟩, .string s, .iface tp pv] 106 (0, 0)) ∧ Below w.heap.size w w') := Tryz.strconv_ParseInt_10_at64_range_var s (by omega) hp tp pv w hv
    have HV : Hid (decM s.data.toList = none) := by unfold Hid decM; rw [hp]
    clear hp hv
    generalize Lib.intSat 64 s.data.toList = iv at *
    go_enter Tryz.func47, Tryz.ntmps47
    go_wp2_with fail
    refine HC.out.mono ?_
    rintro e w1 ⟨N, rfl, _, _, b1⟩
    go_wp2
    go_ret2
    exact ⟨by rw [HV.out]; rfl, b1⟩

theorem dec_step (n : Nat) (h : 10 ≤ n) : Lib.decDigits n = Lib.decDigits (n / 10) ++ [UInt8.ofNat (48 + n % 10)] := by
  rw [Lib.decDigits, dif_neg (by omega)]

theorem conv_one (w : World) (z : Int) (h0 : 0 ≤ z) (h1 : z < 256) :
    (convert 22 9 (.slice (some ⟨w.heap.size, 0, none⟩) 1 1)).run Tryz.prog (w.alloc (.cells #[.int .u8 z] 5)) = .ok (.string ⟨[UInt8.ofNat z.toNat].toArray⟩) (w.alloc (.cells #[.int .u8 z] 5)) := by
  refine run_convert_bytes_back _ 22 9 5 ⟨w.heap.size, 0, none⟩ 1 [UInt8.ofNat z.toNat] Tryz.underlying22 Tryz.underlying5 Tryz.underlying9 ?_
  intro j hj
  obtain rfl : j = 0 := by simpa using hj
  have e : ((UInt8.ofNat z.toNat).toNat : Int) = z := by
    rw [UInt8.toNat_ofNat']
    omega
  simp only [List.getElem_cons_zero, e]
  exact cell_one_new w (.int .u8 z) 5 0 _ rfl

theorem dec_last (k : Nat) (h : k < 10) : Lib.decDigits k = [UInt8.ofNat (48 + k)] := Lib.decDigits_one h

set_option maxHeartbeats 1000000 in
set_option maxRecDepth 100000 in
theorem dec_any (n : Nat) (w : World) (hn : n ≤ 9223372036854775807) :
    Calls Tryz.prog 21 #[.int .i64 n] w fun e w' => e = .returned (.string ⟨(Lib.decDigits n).toArray⟩) ∧ Below w.heap.size w w' := by
  have hneg : decide ((n : Int) < 0) = false := by simp
  go_enter Tryz.func21, Tryz.ntmps21
  go_wp2
  go_loopw [0, 3] (fun m s wr => ∃ (k : Nat) (acc : List UInt8), k ≤ n ∧ m = .int .i64 k ∧ s = .string ⟨acc.toArray⟩ ∧ Lib.decDigits k ++ acc = Lib.decDigits n ∧ 2 * acc.length + k ≤ n ∧ Below w.heap.size w wr) (fun m _ _ => (intOf m).toNat)
  case atStart => exact ⟨n, [], by omega, rfl, rfl, by simp, by simp, Below.refl _ _⟩
  case round =>
    obtain ⟨k, acc, hk, rfl, rfl, hacc, hal, bk⟩ := hrel
    have HA : Hid (Lib.decDigits k ++ acc = Lib.decDigits n) := hacc
    clear hacc
    have sk := bk.size
    by_cases hlt : 10 ≤ k
    · have hcv := conv_one wr (48 + (k : Int) % 10) (by omega) (by omega)
      go_wp2
      go_roundw
      case rel => 
        refine ⟨k / 10, [UInt8.ofNat (48 + k % 10)] ++ acc, by omega, by go_num, ?_, ?_, by simp; omega, bk.alloc sk _⟩
        · exact congrArg Value.string (by rw [show (48 + UInt8.ofNat (k % 10)) = UInt8.ofNat (48 + k % 10) from by simp]; exact ByteArray.mk_append_mk [UInt8.ofNat (48 + k % 10)] acc)
        · rw [← HA.out, dec_step k hlt]; simp
      case measure => simp [intOf]; omega
    · have hcv := conv_one wr (48 + (k : Int)) (by omega) (by omega)
      go_wp2
      go_ret
      refine ⟨ret_str ?_, bk.alloc sk _⟩
      rw [show (48 + UInt8.ofNat k) = UInt8.ofNat (48 + k) from by simp, ← HA.out, dec_last k (by omega)]
      exact ByteArray.mk_append_mk [UInt8.ofNat (48 + k)] acc

set_option maxHeartbeats 400000 in
theorem clone60 (s : ByteArray) (w : World) (hs : s.size ≤ 1048576) : Calls Tryz.prog 35 #[.string s] w fun e w' => e = .returned (.string s) ∧ Below w.heap.size w w' := by
  go_enter Tryz.func35, Tryz.ntmps35
  go_wp2_with fail
  refine (Tryz.stringslite_Clone s w (by omega)).mono ?_
  rintro e w1 ⟨rfl, b1⟩
  go_wp2
  go_ret
  exact ⟨rfl, b1⟩
end Go.Proofs.YticajcagcdbgpaaGreatDoor
