/- impl.decimal, numberOf, countOf at this dump. -/
import Derived.Test.YtjgmkbldclangaaGreatDoorFW
import Derived.Test.YtjgmkbldclangaaGreatDoorFShelf2
import Derived.Test.YtjgmkbldclangaaGreatDoorFAtt
namespace Go.Proofs.YtjgmkbldclangaaGreatDoor.Fd
open Go.RowKit Go.Sort

/-- What the readers lean on in memory: the table of powers, MaxLen some number, the two errors of strconv. -/
structure Ready (w : World) : Prop where
  tab : Tab w
  mx : ∃ m, w.cell? ⟨0, 0, none⟩ = some (.int .i64 m)
  syn : ∃ tp p, w.var? Tryz.prog "strconv.ErrSyntax" = some #[.iface tp p]
  rng : ∃ tp p, w.var? Tryz.prog "strconv.ErrRange" = some #[.iface tp p]
  six : 6 ≤ w.heap.size

theorem gSyn : Tryz.prog.globalNamed "strconv.ErrSyntax" = some 1 := by kernel_rfl
theorem gRng : Tryz.prog.globalNamed "strconv.ErrRange" = some 2 := by kernel_rfl

theorem Ready.below {w w' : World} (h : Ready w) (hb : Below 6 w w') : Ready w' := by
  obtain ⟨m, hm⟩ := h.mx
  obtain ⟨t1, p1, h1⟩ := h.syn
  obtain ⟨t2, p2, h2⟩ := h.rng
  exact ⟨h.tab.below hb (by omega), ⟨m, (hb.cell (p := ⟨0, 0, none⟩) (by show 0 < 6; omega)).trans hm⟩, ⟨t1, p1, var?_below hb gSyn (by omega) h1⟩, ⟨t2, p2, var?_below hb gRng (by omega) h2⟩, by have := h.six; have := hb.size; omega⟩

def inNum (n : Int) : Bool := decide (-1000000000000000000 ≤ n ∧ n ≤ 1000000000000000000)

/-- The number that the bytes are in decimal. -/
def decM (l : List UInt8) : Option Int :=
  match Lib.parseIntB 64 l with
  | .ok v => if inNum v = true ∧ Lib.itoa v = l then some v else none
  | _ => none

set_option maxHeartbeats 400000 in
theorem numberOk_any (n : Int) (w : World) :
    Calls Tryz.prog 123 #[.int .i64 n] w fun e w' => e = .returned (.bool (inNum n)) ∧ w' = w := by
  by_cases h : -1000000000000000000 ≤ n
  · go_enter Tryz.func123, Tryz.ntmps123
    go_wp2
    go_ret
    exact ⟨ret_bool (by simp [inNum, h]), rfl⟩
  · have hd : decide (-1000000000000000000 ≤ n) = false := by simpa using h
    go_enter Tryz.func123, Tryz.ntmps123
    go_wp2
    go_ret
    exact ⟨ret_bool (by simp [inNum]; omega), rfl⟩

theorem parseInt_range (l : List UInt8) (v : Int) (h : Lib.parseIntB 64 l = .ok v) : -9223372036854775808 ≤ v ∧ v ≤ 9223372036854775807 := by
  have e63 : (2 : Nat) ^ (64 - 1) = 9223372036854775808 := by decide
  unfold Lib.parseIntB at h
  cases l with
  | nil => cases h
  | cons c r =>
    simp only at h
    split at h
    · cases h
    · cases h
    · rename_i u _
      rw [e63] at h
      split at h
      · cases h
      · split at h
        · cases h
        · injection h with h
          subst h
          split <;> omega

theorem bytesW_below (w : World) (s : ByteArray) : Below w.heap.size w (Lib.bytesWorld w 5 s) := ⟨rfl, rfl, rfl, by rw [Lib.bytesWorld_size]; omega, fun k hk => Lib.bytesWorld_at_old w 5 s k hk⟩

set_option maxHeartbeats 1000000 in
theorem decimal_any (s : ByteArray) (w : World) (hs : s.size ≤ 2097152) (hr : Ready w) :
    Calls Tryz.prog 118 #[.string s] w fun e w' => e = .returned (.tuple #[.int .i64 ((decM s.data.toList).getD 0), .bool (decM s.data.toList).isSome]) ∧ Below w.heap.size w w' := by
  have h6 := hr.six
  cases hp : Lib.parseIntB 64 s.data.toList with
  | ok v =>
    obtain ⟨v0, v1⟩ := parseInt_range _ _ hp
    have HC : Hid (Calls Tryz.prog 122 #[.string s, .int .i64 10, .int .i64 64] w fun e w' => e = .returned (.tuple #[.int .i64 v, .nilIface]) ∧ (w' = w ∨ ∃ t, w' = Lib.bytesWorld w 5 t)) := Tryz.fdstrconv_ParseInt_10_at64_ok s (by omega) v hp w
    have HD : Hid (decM s.data.toList = if inNum v = true ∧ Lib.itoa v = s.data.toList then some v else none) := by
      unfold Hid decM
      rw [hp]
    clear hp
    go_enter Tryz.func118, Tryz.ntmps118
    go_wp2_with fail
    refine HC.out.mono ?_
    rintro e w1 ⟨rfl, hw1⟩
    have b1 : Below w.heap.size w w1 := by
      rcases hw1 with rfl | ⟨t, rfl⟩
      · exact Below.refl _ _
      · exact bytesW_below w t
    clear hw1 HC
    have hr1 := hr.below (b1.mono h6)
    go_wp2_with fail
    refine (numberOk_any v w1).mono ?_
    rintro e w2 ⟨rfl, hw2⟩
    have hw3 := hw2.symm
    subst hw3
    cases hin : inNum v with
    | false =>
      have HN : Hid (decM s.data.toList = none) := by unfold Hid; rw [HD.out, hin]; simp
      clear hin
      go_wp2
      go_ret2
      exact ⟨by rw [HN.out]; rfl, b1⟩
    | true =>
      have HN : Hid (decM s.data.toList = if Lib.itoa v = s.data.toList then some v else none) := by unfold Hid; rw [HD.out, hin]; simp
      clear hin HD
      have htab := hr1.tab
      go_wp2_with fail
      refine (Tryz.fdstrconv_FormatInt_10 v v0 v1 _ htab).mono ?_
      rintro e w3 ⟨rfl, k1, os1, rfl⟩
      have b2 := below_grow w1.heap.size w1 (Nat.le_refl _) k1 os1
      generalize grow (w1.drewN k1) os1 = w3 at *
      have b02 := b1.trans (b2.mono b1.size)
      clear b2 b1 hr1 htab
      generalize Lib.itoa v = D at *
      by_cases hD : D = s.data.toList
      · have hb : (D == s.toList) = true := by simp [hD, ByteArray.toList_eq]
        have HV : Hid (decM s.data.toList = some v) := by unfold Hid; rw [HN.out, if_pos hD]
        clear hD HN
        go_wp2
        go_ret2
        exact ⟨by rw [HV.out]; rfl, b02⟩
      · have hb : (D == s.toList) = false := by simp [hD, ByteArray.toList_eq]
        have HV : Hid (decM s.data.toList = none) := by unfold Hid; rw [HN.out, if_neg hD]
        clear hD HN
        go_wp2
        go_ret2
        exact ⟨by rw [HV.out]; rfl, b02⟩
  | «syntax» =>
    obtain ⟨tp, pv, hv⟩ := hr.syn
    have HC : Hid (Calls Tryz.prog 122 #[.string s, .int .i64 10, .int .i64 64] w fun e w' => ∃ N, e = .returned (.tuple #[.int .i64 (0), .iface 186 (.pointer (some ⟨N, 0, none⟩))]) ∧ w.heap.size ≤ N ∧ w'.heap[N]? = some (.cells #[.string ⟨#[80, 97, 114, 115, 101, 73, 110, 116]⟩, .string s, .iface tp pv] 196 (0, 0)) ∧ Below w.heap.size w w') := Tryz.fdstrconv_ParseInt_10_at64_syntax_var s (by omega) hp tp pv w hv
    have HV : Hid (decM s.data.toList = none) := by unfold Hid decM; rw [hp]
    clear hp hv
    go_enter Tryz.func118, Tryz.ntmps118
    go_wp2_with fail
    refine HC.out.mono ?_
    rintro e w1 ⟨N, rfl, _, _, b1⟩
    go_wp2
    go_ret2
    exact ⟨by rw [HV.out]; rfl, b1⟩
  | range =>
    obtain ⟨tp, pv, hv⟩ := hr.rng
    have HC : Hid (Calls Tryz.prog 122 #[.string s, .int .i64 10, .int .i64 64] w fun e w' => ∃ N, e = .returned (.tuple #[.int .i64 (Lib.intSat 64 s.data.toList), .iface 186 (.pointer (some ⟨N, 0, none⟩))]) ∧ w.heap.size ≤ N ∧ w'.heap[N]? = some (.cells #[.string ⟨#[80, 97, 114, 115, 101, 73, 110, 116]⟩, .string s, .iface tp pv] 196 (0, 0)) ∧ Below w.heap.size w w') := Tryz.fdstrconv_ParseInt_10_at64_range_var s (by omega) hp tp pv w hv
    have HV : Hid (decM s.data.toList = none) := by unfold Hid decM; rw [hp]
    clear hp hv
    generalize Lib.intSat 64 s.data.toList = iv at *
    go_enter Tryz.func118, Tryz.ntmps118
    go_wp2_with fail
    refine HC.out.mono ?_
    rintro e w1 ⟨N, rfl, _, _, b1⟩
    go_wp2
    go_ret2
    exact ⟨by rw [HV.out]; rfl, b1⟩

set_option maxHeartbeats 400000 in
theorem numberOf_some (s : ByteArray) (v : Int) (w : World) (hs : s.size ≤ 2097152) (hr : Ready w) (h : decM s.data.toList = some v) :
    Calls Tryz.prog 114 #[.string s] w fun e w' => e = .returned (.int .i64 v) ∧ Below w.heap.size w w' := by
  have HC := decimal_any s w hs hr
  rw [h] at HC
  have H : Hid (Calls Tryz.prog 118 #[.string s] w fun e w' => e = .returned (.tuple #[.int .i64 v, .bool true]) ∧ Below w.heap.size w w') := HC
  clear HC h
  go_enter Tryz.func114, Tryz.ntmps114
  go_wp2_with fail
  refine H.out.mono ?_
  rintro e w1 ⟨rfl, b1⟩
  go_wp2
  go_ret
  exact ⟨rfl, b1⟩

set_option maxHeartbeats 400000 in
theorem numberOf_none (s : ByteArray) (w : World) (hs : s.size ≤ 2097152) (hr : Ready w) (h : decM s.data.toList = none) :
    Calls Tryz.prog 114 #[.string s] w fun e w' => e = gaveUp 2 ∧ Below w.heap.size w w' := by
  have HC := decimal_any s w hs hr
  rw [h] at HC
  have H : Hid (Calls Tryz.prog 118 #[.string s] w fun e w' => e = .returned (.tuple #[.int .i64 0, .bool false]) ∧ Below w.heap.size w w') := HC
  clear HC h
  go_enter Tryz.func114, Tryz.ntmps114
  go_wp2_with fail
  refine H.out.mono ?_
  rintro e w1 ⟨rfl, b1⟩
  go_wp2_with fail
  refine (giveUp_any 2 w1).mono ?_
  rintro e w2 ⟨rfl, rfl⟩
  unfold gaveUp
  go_wp2
  exact ⟨rfl, rfl, b1⟩

/-- The number 0 .. most that the bytes are. -/
def countM (l : List UInt8) (most : Int) : Option Nat := (decM l).bind fun n => if 0 ≤ n ∧ n ≤ most then some n.toNat else none

set_option maxHeartbeats 400000 in
theorem countOf_some (s : ByteArray) (most : Int) (k : Nat) (w : World) (hs : s.size ≤ 2097152) (hr : Ready w) (h : countM s.data.toList most = some k) :
    Calls Tryz.prog 110 #[.string s, .int .i64 most] w fun e w' => e = .returned (.int .i64 k) ∧ Below w.heap.size w w' := by
  obtain ⟨v, hv, hk⟩ : ∃ v, decM s.data.toList = some v ∧ (if 0 ≤ v ∧ v ≤ most then some v.toNat else none) = some k := Option.bind_eq_some_iff.1 h
  have hb : 0 ≤ v ∧ v ≤ most := by
    by_cases hb : 0 ≤ v ∧ v ≤ most
    · exact hb
    · rw [if_neg hb] at hk; cases hk
  rw [if_pos hb] at hk
  have hvk : v = k := by injection hk with hk; omega
  subst hvk
  obtain ⟨hb0, hb1⟩ := hb
  have hd : decide ((k : Int) < 0) = false := by simp
  have H : Hid (_) := numberOf_some s k w hs hr hv
  clear hv hk h
  go_enter Tryz.func110, Tryz.ntmps110
  go_wp2_with fail
  refine (show Calls Tryz.prog 114 #[.string s] w fun e w' => e = .returned (.int .i64 k) ∧ Below w.heap.size w w' from H).mono ?_
  rintro e w1 ⟨rfl, b1⟩
  go_wp2
  go_ret
  exact ⟨rfl, b1⟩

set_option maxHeartbeats 400000 in
theorem countOf_none (s : ByteArray) (most : Int) (w : World) (hs : s.size ≤ 2097152) (hr : Ready w) (h : countM s.data.toList most = none) :
    Calls Tryz.prog 110 #[.string s, .int .i64 most] w fun e w' => e = gaveUp 2 ∧ Below w.heap.size w w' := by
  cases hv : decM s.data.toList with
  | none =>
    have H : Hid (Calls Tryz.prog 114 #[.string s] w fun e w' => e = gaveUp 2 ∧ Below w.heap.size w w') := numberOf_none s w hs hr hv
    clear hv h
    go_enter Tryz.func110, Tryz.ntmps110
    go_wp2_with fail
    refine H.out.mono ?_
    rintro e w1 ⟨rfl, b1⟩
    unfold gaveUp
    go_wp2
    exact ⟨rfl, rfl, b1⟩
  | some v =>
    have hb : ¬ (0 ≤ v ∧ v ≤ most) := by
      intro hb
      rw [countM, hv, Option.bind_some, if_pos hb] at h
      cases h
    have H : Hid (Calls Tryz.prog 114 #[.string s] w fun e w' => e = .returned (.int .i64 v) ∧ Below w.heap.size w w') := numberOf_some s v w hs hr hv
    clear hv h
    by_cases h0 : v < 0
    · clear hb
      go_enter Tryz.func110, Tryz.ntmps110
      go_wp2_with fail
      refine H.out.mono ?_
      rintro e w1 ⟨rfl, b1⟩
      go_wp2_with fail
      refine (giveUp_any 2 w1).mono ?_
      rintro e w2 ⟨rfl, rfl⟩
      unfold gaveUp
      go_wp2
      exact ⟨rfl, rfl, b1⟩
    · have hd : decide (v < 0) = false := by simpa using h0
      have h2 : most < v := by omega
      clear hb
      go_enter Tryz.func110, Tryz.ntmps110
      go_wp2_with fail
      refine H.out.mono ?_
      rintro e w1 ⟨rfl, b1⟩
      go_wp2_with fail
      refine (giveUp_any 2 w1).mono ?_
      rintro e w2 ⟨rfl, rfl⟩
      unfold gaveUp
      go_wp2
      exact ⟨rfl, rfl, b1⟩
end Go.Proofs.YtjgmkbldclangaaGreatDoor.Fd
