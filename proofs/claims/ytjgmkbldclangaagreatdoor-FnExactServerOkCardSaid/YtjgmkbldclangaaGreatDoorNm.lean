/- impl.decimal. Plain mathematics of reading a number. -/
import Derived.Test.YtjgmkbldclangaaGreatDoorBs
import Derived.Laws.IdiomStrings
import Derived.Lib.QuietBelow
import Derived.Lib.ParseIntBCases
namespace Go.Proofs.YtjgmkbldclangaaGreatDoor
open Go.RowKit Go.Sort

/-- What the readers lean on in memory: the table of powers, MaxLen some number, the two errors of strconv. -/
structure Ready (w : World) : Prop where
  tab : Tab w
  syn : ∃ tp p, w.var? Tryz.prog "strconv.ErrSyntax" = some #[.iface tp p]
  rng : ∃ tp p, w.var? Tryz.prog "strconv.ErrRange" = some #[.iface tp p]
  six : 6 ≤ w.heap.size

theorem gSyn : Tryz.prog.globalNamed "strconv.ErrSyntax" = some 1 := by kernel_rfl
theorem gRng : Tryz.prog.globalNamed "strconv.ErrRange" = some 2 := by kernel_rfl

theorem Ready.below {w w' : World} (h : Ready w) (hb : Below 6 w w') : Ready w' := by
  obtain ⟨t1, p1, h1⟩ := h.syn
  obtain ⟨t2, p2, h2⟩ := h.rng
  exact ⟨h.tab.below hb (by omega), ⟨t1, p1, var?_below hb gSyn (by omega) h1⟩, ⟨t2, p2, var?_below hb gRng (by omega) h2⟩, by have := h.six; have := hb.size; omega⟩

def inNum (n : Int) : Bool := decide (-1000000000000000000 ≤ n ∧ n ≤ 1000000000000000000)

/-- The number that the bytes are in decimal. -/
def decM (l : List UInt8) : Option Int :=
  match Lib.parseIntB 64 l with
  | .ok v => if inNum v = true ∧ Lib.itoa v = l then some v else none
  | _ => none

set_option maxHeartbeats 400000 in
theorem numberOk_any (n : Int) (w : World) :
    Calls Tryz.prog 123 #[.int .i64 n] w fun e w' => e = .returned (.bool (inNum n)) ∧ w' = w := by
  by_cases h : -1000000000000000000 ≤ n
  · go_enter Tryz.func123, Tryz.ntmps123
    go_wp2
    go_ret
    exact ⟨ret_bool (by simp [inNum, h]), rfl⟩
  · have hd : decide (-1000000000000000000 ≤ n) = false := by simpa using h
    go_enter Tryz.func123, Tryz.ntmps123
    go_wp2
    go_ret
    exact ⟨ret_bool (by simp [inNum]; omega), rfl⟩

theorem parseInt_range (l : List UInt8) (v : Int) (h : Lib.parseIntB 64 l = .ok v) : -9223372036854775808 ≤ v ∧ v ≤ 9223372036854775807 := by
  have e63 : (2 : Nat) ^ (64 - 1) = 9223372036854775808 := by decide
  unfold Lib.parseIntB at h
  cases l with
  | nil => cases h
  | cons c r =>
    simp only at h
    split at h
    · cases h
    · cases h
    · rename_i u _
      rw [e63] at h
      split at h
      · cases h
      · split at h
        · cases h
        · injection h with h
          subst h
          split <;> omega

theorem bytesW_below (w : World) (s : ByteArray) : Below w.heap.size w (Lib.bytesWorld w 5 s) := ⟨rfl, rfl, rfl, by rw [Lib.bytesWorld_size]; omega, fun k hk => Lib.bytesWorld_at_old w 5 s k hk⟩

set_option maxHeartbeats 1000000 in
theorem decimal_any (s : ByteArray) (w : World) (hs : s.size ≤ 1048576) (hr : Ready w) :
    Calls Tryz.prog 118 #[.string s] w fun e w' => e = .returned (.tuple #[.int .i64 ((decM s.data.toList).getD 0), .bool (decM s.data.toList).isSome]) ∧ Below w.heap.size w w' := by
  have h6 := hr.six
  cases hp : Lib.parseIntB 64 s.data.toList with
  | ok v =>
    obtain ⟨v0, v1⟩ := parseInt_range _ _ hp
    have HC : Hid (Calls Tryz.prog 122 #[.string s, .int .i64 10, .int .i64 64] w fun e w' => e = .returned (.tuple #[.int .i64 v, .nilIface]) ∧ (w' = w ∨ ∃ t, w' = Lib.bytesWorld w 5 t)) := Tryz.strconv_ParseInt_10_at64_ok s (by omega) v hp w
    have HD : Hid (decM s.data.toList = if inNum v = true ∧ Lib.itoa v = s.data.toList then some v else none) := by
      unfold Hid decM
      rw [hp]
    clear hp
    go_enter Tryz.func118, Tryz.ntmps118
    go_wp2_with fail
    refine HC.out.mono ?_
    rintro e w1 ⟨rfl, hw1⟩
    have b1 : Below w.heap.size w w1 := by
      rcases hw1 with rfl | ⟨t, rfl⟩
      · exact Below.refl _ _
      · exact bytesW_below w t
    clear hw1 HC
    have hr1 := hr.below (b1.mono h6)
    go_wp2_with fail
    refine (numberOk_any v w1).mono ?_
    rintro e w2 ⟨rfl, hw2⟩
    have hw3 := hw2.symm
    subst hw3
    cases hin : inNum v with
    | false =>
      have HN : Hid (decM s.data.toList = none) := by unfold Hid; rw [HD.out, hin]; simp
      clear hin
      go_wp2
      go_ret2
      exact ⟨by rw [HN.out]; rfl, b1⟩
    | true =>
      have HN : Hid (decM s.data.toList = if Lib.itoa v = s.data.toList then some v else none) := by unfold Hid; rw [HD.out, hin]; simp
      clear hin HD
      have htab := hr1.tab
      go_wp2_with fail
      refine (Tryz.strconv_FormatInt_10 v v0 v1 _ htab).mono ?_
      rintro e w3 ⟨rfl, k1, os1, rfl⟩
      have b2 := below_grow w1.heap.size w1 (Nat.le_refl _) k1 os1
      generalize grow (w1.drewN k1) os1 = w3 at *
      have b02 := b1.trans (b2.mono b1.size)
      clear b2 b1 hr1 htab
      generalize Lib.itoa v = D at *
      by_cases hD : D = s.data.toList
      · have hb : (D == s.toList) = true := by simp [hD, ByteArray.toList_eq]
        have HV : Hid (decM s.data.toList = some v) := by unfold Hid; rw [HN.out, if_pos hD]
        clear hD HN
        go_wp2
        go_ret2
        exact ⟨by rw [HV.out]; rfl, b02⟩
      · have hb : (D == s.toList) = false := by simp [hD, ByteArray.toList_eq]
        have HV : Hid (decM s.data.toList = none) := by unfold Hid; rw [HN.out, if_neg hD]
        clear hD HN
        go_wp2
        go_ret2
        exact ⟨by rw [HV.out]; rfl, b02⟩
  | «syntax» =>
    obtain ⟨tp, pv, hv⟩ := hr.syn
    have HC : Hid (Calls Tryz.prog 122 #[.string s, .int .i64 10, .int .i64 64] w fun e w' => ∃ N, e = .returned (.tuple #[.int .i64 (0), .iface 186 (.pointer (some ⟨N, 0, none⟩))]) ∧ w.heap.size ≤ N ∧ w'.heap[N]? = some (.cells #[.string ⟨#[80, 97, 114, 115, 101, 73, 110, 116]⟩, .string s, .iface tp pv] 196 (0, 0)) ∧ Below w.heap.size w w') := Tryz.strconv_ParseInt_10_at64_syntax_var s (by omega) hp tp pv w hv
    have HV : Hid (decM s.data.toList = none) := by unfold Hid decM; rw [hp]
    clear hp hv
    go_enter Tryz.func118, Tryz.ntmps118
    go_wp2_with fail
    refine HC.out.mono ?_
    rintro e w1 ⟨N, rfl, _, _, b1⟩
    go_wp2
    go_ret2
    exact ⟨by rw [HV.out]; rfl, b1⟩
  | range =>
    obtain ⟨tp, pv, hv⟩ := hr.rng
    have HC : Hid (Calls Tryz.prog 122 #[.string s, .int .i64 10, .int .i64 64] w fun e w' => ∃ N, e = .returned (.tuple #[.int .i64 (Lib.intSat 64 s.data.toList), .iface 186 (.pointer (some ⟨N, 0, none⟩))]) ∧ w.heap.size ≤ N ∧ w'.heap[N]? = some (.cells #[.string ⟨#[80, 97, 114, 115, 101, 73, 110, 116]⟩, .string s, .iface tp pv] 196 (0, 0)) ∧ Below w.heap.size w w') := Tryz.strconv_ParseInt_10_at64_range_var s (by omega) hp tp pv w hv
    have HV : Hid (decM s.data.toList = none) := by unfold Hid decM; rw [hp]
    clear hp hv
    generalize Lib.intSat 64 s.data.toList = iv at *
    go_enter Tryz.func118, Tryz.ntmps118
    go_wp2_with fail
    refine HC.out.mono ?_
    rintro e w1 ⟨N, rfl, _, _, b1⟩
    go_wp2
    go_ret2
    exact ⟨by rw [HV.out]; rfl, b1⟩

theorem dec_step (n : Nat) (h : 10 ≤ n) : Lib.decDigits n = Lib.decDigits (n / 10) ++ [UInt8.ofNat (48 + n % 10)] := by
  rw [Lib.decDigits, dif_neg (by omega)]

theorem conv_one (w : World) (z : Int) (h0 : 0 ≤ z) (h1 : z < 256) :
    (convert 155 9 (.slice (some ⟨w.heap.size, 0, none⟩) 1 1)).run Tryz.prog (w.alloc (.cells #[.int .u8 z] 5)) = .ok (.string ⟨[UInt8.ofNat z.toNat].toArray⟩) (w.alloc (.cells #[.int .u8 z] 5)) := by
  refine run_convert_bytes_back _ 155 9 5 ⟨w.heap.size, 0, none⟩ 1 [UInt8.ofNat z.toNat] Tryz.underlying155 Tryz.underlying5 Tryz.underlying9 ?_
  intro j hj
  obtain rfl : j = 0 := by simpa using hj
  have e : ((UInt8.ofNat z.toNat).toNat : Int) = z := by
    rw [UInt8.toNat_ofNat']
    omega
  simp only [List.getElem_cons_zero, e]
  exact cell_one_new w (.int .u8 z) 5 0 _ rfl

theorem dec_last (k : Nat) (h : k < 10) : Lib.decDigits k = [UInt8.ofNat (48 + k)] := Lib.decDigits_one h

set_option maxHeartbeats 400000 in
theorem clone60 (s : ByteArray) (w : World) (hs : s.size ≤ 1048576) : Calls Tryz.prog 90 #[.string s] w fun e w' => e = .returned (.string s) ∧ Below w.heap.size w w' := by
  go_enter Tryz.func90, Tryz.ntmps90
  go_wp2_with fail
  refine (Tryz.stringslite_Clone s w (by omega)).mono ?_
  rintro e w1 ⟨rfl, b1⟩
  go_wp2
  go_ret
  exact ⟨rfl, b1⟩
end Go.Proofs.YtjgmkbldclangaaGreatDoor

namespace Go.Proofs.YtjgmkbldclangaaGreatDoor
open Go.RowKit Go.Sort

/-- The digits' number, as the specification reads it. -/
def digI : Nat → List UInt8 → Option Nat
  | acc, [] => some acc
  | acc, c :: r => if c.toNat < 48 ∨ 57 < c.toNat ∨ 100000000000000000 < acc then none else digI (acc * 10 + (c.toNat - 48)) r

def negI (l : List UInt8) : Bool := decide (1 < l.length) && decide (l.head? = some 45)
def bodyI (l : List UInt8) : List UInt8 := if negI l then l.tail else l

/-- The specification's reading of a number: what it answers. -/
def intI (l : List UInt8) : Int × Bool :=
  if (bodyI l).length < 1 ∨ 19 < (bodyI l).length ∨ ((bodyI l).head? = some 48 ∧ (1 < (bodyI l).length ∨ negI l = true)) then (0, false)
  else match digI 0 (bodyI l) with
    | none => (0, false)
    | some n => (if negI l then -(n : Int) else n, inNum (if negI l then -(n : Int) else n))

theorem dig_step (n : Nat) (h : 10 ≤ n) : Lib.decDigits n = Lib.decDigits (n / 10) ++ [UInt8.ofNat (48 + n % 10)] := by
  rw [Lib.decDigits, dif_neg (by omega)]

theorem dig_byte (c : UInt8) (h : ¬ c.toNat < 48) (h2 : ¬ 57 < c.toNat) : UInt8.ofNat (48 + (c.toNat - 48)) = c := by
  have : 48 + (c.toNat - 48) = c.toNat := by omega
  rw [this]; simp

theorem digI_to : ∀ (l : List UInt8) (acc n : Nat), 1 ≤ acc → digI acc l = some n → Lib.decDigits acc ++ l = Lib.decDigits n
  | [], acc, n, _, h => by simp only [digI] at h; injection h with h; subst h; simp
  | c :: r, acc, n, ha, h => by
    simp only [digI] at h
    split at h
    · cases h
    · rename_i hc
      have hd := dig_step (acc * 10 + (c.toNat - 48)) (by omega)
      have e1 : (acc * 10 + (c.toNat - 48)) / 10 = acc := by omega
      have e2 : (acc * 10 + (c.toNat - 48)) % 10 = c.toNat - 48 := by omega
      rw [e1, e2, dig_byte c (by omega) (by omega)] at hd
      rw [← digI_to r _ n (by omega) h, hd]
      simp

theorem digI_body (l : List UInt8) (n : Nat) (hl : l ≠ []) (h0 : l.head? = some 48 → l.length ≤ 1) (h : digI 0 l = some n) : l = Lib.decDigits n := by
  match l, hl, h0, h with
  | c :: r, _, h0, h =>
    simp only [digI] at h
    split at h
    · cases h
    · rename_i hc
      by_cases e : c.toNat = 48
      · have : c = 48 := UInt8.toNat_inj.mp (by rw [e]; rfl)
        subst this
        have hr : r = [] := by
          have := h0 rfl
          simpa using this
        subst hr
        simp only [digI] at h
        injection h with h
        subst h
        exact (Lib.decDigits_one (i := 0) (by omega)).symm
      · have hd : Lib.decDigits (0 * 10 + (c.toNat - 48)) = [c] := by
          rw [Lib.decDigits_one (by omega)]
          rw [Nat.zero_mul, Nat.zero_add, dig_byte c (by omega) (by omega)]
        rw [← digI_to r _ n (by omega) h, hd]
        simp

theorem digI_snoc : ∀ (l : List UInt8) (c : UInt8) (acc : Nat), digI acc (l ++ [c]) = (digI acc l).bind fun m => digI m [c]
  | [], c, acc => by simp [digI]
  | b :: l, c, acc => by
    simp only [List.cons_append, digI]
    split
    · rfl
    · rw [digI_snoc l c]; rfl

theorem ofNat_dig (k : Nat) (h : k < 10) : (UInt8.ofNat (48 + k)).toNat = 48 + k := by
  simp; omega

theorem digI_of (n : Nat) (h : n ≤ 1000000000000000000) : digI 0 (Lib.decDigits n) = some n := by
  induction n using Nat.strongRecOn with
  | _ n ih =>
    by_cases h10 : n < 10
    · rw [Lib.decDigits_one h10]
      simp only [digI]
      rw [ofNat_dig n h10, if_neg (by omega)]
      congr 1; omega
    · rw [dig_step n (by omega), digI_snoc, ih (n / 10) (by omega) (by omega)]
      simp only [Option.bind, digI]
      rw [ofNat_dig _ (by omega), if_neg (by omega)]
      congr 1; omega

theorem dec_ne (n : Nat) : Lib.decDigits n ≠ [] := by
  by_cases h10 : n < 10
  · rw [Lib.decDigits_one h10]; simp
  · rw [dig_step n (by omega)]; simp

theorem dec_head (n : Nat) (h : 1 ≤ n) : ∃ c r, Lib.decDigits n = c :: r ∧ 49 ≤ c.toNat ∧ c.toNat ≤ 57 := by
  induction n using Nat.strongRecOn with
  | _ n ih =>
    by_cases h10 : n < 10
    · exact ⟨_, _, Lib.decDigits_one h10, by rw [ofNat_dig n h10]; omega, by rw [ofNat_dig n h10]; omega⟩
    · obtain ⟨c, r, e, h1, h2⟩ := ih (n / 10) (by omega) (by omega)
      exact ⟨c, r ++ [UInt8.ofNat (48 + n % 10)], by rw [dig_step n (by omega), e]; rfl, h1, h2⟩

theorem dec_head' (n : Nat) : ∃ c r, Lib.decDigits n = c :: r ∧ 48 ≤ c.toNat ∧ c.toNat ≤ 57 := by
  by_cases h : 1 ≤ n
  · obtain ⟨c, r, e, h1, h2⟩ := dec_head n h
    exact ⟨c, r, e, by omega, h2⟩
  · have : n = 0 := by omega
    subst this
    exact ⟨48, [], Lib.decDigits_one (by omega), by decide, by decide⟩

theorem dec_len : ∀ (k n : Nat), n < 10 ^ (k + 1) → (Lib.decDigits n).length ≤ k + 1
  | 0, n, h => by rw [Lib.decDigits_one (by simpa using h)]; simp
  | k + 1, n, h => by
    by_cases h10 : n < 10
    · rw [Lib.decDigits_one h10]; simp
    · rw [dig_step n (by omega)]
      have := dec_len k (n / 10) (by rw [Nat.pow_succ] at h; omega)
      simp; omega

theorem puM_snoc (M : Nat) : ∀ (l : List UInt8) (c : UInt8) (acc m : Nat), Lib.parseUintM M acc l = .ok m → Lib.parseUintM M acc (l ++ [c]) = Lib.parseUintM M m [c]
  | [], c, acc, m, h => by simp only [Lib.parseUintM] at h; injection h with h; subst h; rfl
  | b :: l, c, acc, m, h => by
    simp only [Lib.parseUintM] at h
    simp only [List.cons_append]
    rw [Lib.parseUintM]
    split at h
    · rename_i h1
      rw [if_pos h1]
      split at h
      · cases h
      · rename_i h2
        rw [if_neg h2]
        split at h
        · cases h
        · rename_i h3
          rw [if_neg h3]
          exact puM_snoc M l c _ m h
    · cases h

theorem puM_of (n : Nat) (h : n ≤ 1000000000000000000) : Lib.parseUintM 18446744073709551615 0 (Lib.decDigits n) = .ok n := by
  induction n using Nat.strongRecOn with
  | _ n ih =>
    by_cases h10 : n < 10
    · rw [Lib.decDigits_one h10]
      simp only [Lib.parseUintM]
      rw [ofNat_dig n h10, if_pos (by omega), if_neg (by omega), if_neg (by omega)]
      congr 1; omega
    · rw [dig_step n (by omega), puM_snoc _ _ _ _ _ (ih (n / 10) (by omega) (by omega))]
      simp only [Lib.parseUintM]
      rw [ofNat_dig _ (by omega), if_pos (by omega), if_neg (by omega), if_neg (by omega)]
      congr 1; omega

theorem puB_of (n : Nat) (h : n ≤ 1000000000000000000) : Lib.parseUintB 64 (Lib.decDigits n) = .ok n := by
  unfold Lib.parseUintB
  rw [if_neg (dec_ne n)]
  exact puM_of n h

theorem piB_itoa (v : Int) (h : inNum v = true) : Lib.parseIntB 64 (Lib.itoa v) = .ok v := by
  have hv : -1000000000000000000 ≤ v ∧ v ≤ 1000000000000000000 := of_decide_eq_true h
  unfold Lib.itoa
  by_cases hn : v < 0
  · rw [if_pos hn, Lib.parseIntB_minus, puB_of _ (by omega)]
    simp only [Lib.signedC]
    rw [if_neg (by have : (2:Nat) ^ (64 - 1) = 9223372036854775808 := by decide
                   omega)]
    congr 1; omega
  · rw [if_neg hn]
    obtain ⟨c, r, e, h1, h2⟩ := dec_head' v.toNat
    have hp := puB_of v.toNat (by omega)
    rw [e] at hp ⊢
    rw [Lib.parseIntB_plain 64 c r (by omega) (by omega), hp]
    simp only [Lib.signlessC]
    rw [if_neg (by have : (2:Nat) ^ (64 - 1) = 9223372036854775808 := by decide
                   omega)]
    congr 1; omega

theorem decM_itoa (v : Int) (h : inNum v = true) : decM (Lib.itoa v) = some v := by
  unfold decM
  rw [piB_itoa v h]
  simp [h]

theorem intI_itoa (v : Int) (h : inNum v = true) : intI (Lib.itoa v) = (v, true) := by
  have hv : -1000000000000000000 ≤ v ∧ v ≤ 1000000000000000000 := of_decide_eq_true h
  by_cases hn : v < 0
  · have e : Lib.itoa v = 45 :: Lib.decDigits v.natAbs := by unfold Lib.itoa; rw [if_pos hn]
    obtain ⟨c, r, e2, h1, h2⟩ := dec_head v.natAbs (by omega)
    have hl := dec_len 18 v.natAbs (by omega)
    have hneg : negI (Lib.itoa v) = true := by rw [e, e2]; simp [negI]
    have hb : bodyI (Lib.itoa v) = Lib.decDigits v.natAbs := by unfold bodyI; rw [if_pos hneg, e]; rfl
    unfold intI
    rw [hb, hneg, digI_of v.natAbs (by omega)]
    have hc : c ≠ 48 := fun hc => by subst hc; revert h1; decide
    rw [if_neg (by rw [e2] at hl ⊢; simp [hc] at hl ⊢; omega)]
    have : -(v.natAbs : Int) = v := by omega
    simp [this, h]
  · have e : Lib.itoa v = Lib.decDigits v.toNat := by unfold Lib.itoa; rw [if_neg hn]
    obtain ⟨c, r, e2, h1, h2⟩ := dec_head' v.toNat
    have hl := dec_len 18 v.toNat (by omega)
    have hc : c ≠ 45 := fun hc => by subst hc; revert h1; decide
    have hneg : negI (Lib.itoa v) = false := by rw [e, e2]; simp [negI, hc]
    have hb : bodyI (Lib.itoa v) = Lib.decDigits v.toNat := by unfold bodyI; rw [hneg, e]; rfl
    unfold intI
    rw [hb, hneg, digI_of v.toNat (by omega)]
    have h0 : (Lib.decDigits v.toNat).head? = some 48 → (Lib.decDigits v.toNat).length ≤ 1 := fun h48 => by
      by_cases hz : 1 ≤ v.toNat
      · obtain ⟨c', r', e3, h3, _⟩ := dec_head v.toNat hz
        rw [e3] at h48
        simp at h48
        subst h48
        exfalso; revert h3; decide
      · have : v.toNat = 0 := by omega
        rw [this, Lib.decDigits_one (by omega)]; simp
    have hne : (Lib.decDigits v.toNat).length ≥ 1 := by rw [e2]; simp
    rw [if_neg (by
      rintro (h | h | ⟨h, h' | h'⟩)
      · omega
      · omega
      · have := h0 h; omega
      · cases h')]
    have : (v.toNat : Int) = v := by omega
    simp [this, h]

theorem intI_to (l : List UInt8) (h : (intI l).2 = true) : inNum (intI l).1 = true ∧ Lib.itoa (intI l).1 = l := by
  unfold intI at h ⊢
  split at h
  · cases h
  · rename_i hc
    rw [if_neg hc]
    cases hd : digI 0 (bodyI l) with
    | none => rw [hd] at h; cases h
    | some n =>
      rw [hd] at h
      refine ⟨h, ?_⟩
      have hin : inNum (if negI l = true then -(n : Int) else n) = true := h
      have hb : bodyI l = Lib.decDigits n := digI_body (bodyI l) n (fun e => hc (by rw [e]; simp)) (fun e => by
        rcases Nat.lt_or_ge 1 (bodyI l).length with h1 | h1
        · exact absurd (Or.inr (Or.inr ⟨e, Or.inl h1⟩)) hc
        · omega) hd
      show Lib.itoa (if negI l = true then -(n : Int) else n) = l
      cases hneg : negI l with
      | true =>
        have hl : l = 45 :: bodyI l := by
          unfold bodyI
          rw [hneg]
          unfold negI at hneg
          simp at hneg
          obtain ⟨_, h45⟩ := hneg
          match l, h45 with
          | c :: r, h45 => simp at h45; subst h45; rfl
        have hn0 : 1 ≤ n := by
          rcases Nat.eq_zero_or_pos n with e | e
          · subst e
            exfalso
            rw [Lib.decDigits_one (by omega)] at hb
            exact hc (Or.inr (Or.inr ⟨by rw [hb]; rfl, Or.inr hneg⟩))
          · exact e
        rw [if_pos rfl]
        unfold Lib.itoa
        rw [if_pos (by omega), hl, hb]
        congr 1
        simp
      | false =>
        have hl : bodyI l = l := by unfold bodyI; rw [hneg]; rfl
        rw [if_neg (by simp)]
        unfold Lib.itoa
        rw [if_neg (by omega), ← hl, hb]
        congr 1

/-- The program and the specification read the same numbers. -/
theorem decM_intI (l : List UInt8) : decM l = if (intI l).2 then some (intI l).1 else none := by
  by_cases h : (intI l).2 = true
  · obtain ⟨h1, h2⟩ := intI_to l h
    rw [if_pos h]
    have := decM_itoa _ h1
    rwa [h2] at this
  · rw [if_neg h]
    cases hd : decM l with
    | none => rfl
    | some v =>
      exfalso
      unfold decM at hd
      split at hd
      · split at hd
        · rename_i hx
          injection hd with hd
          subst hd
          apply h
          rw [← hx.2, intI_itoa _ hx.1]
        · cases hd
      · cases hd
end Go.Proofs.YtjgmkbldclangaaGreatDoor
