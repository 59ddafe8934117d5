/- The program's looks: wordsOk, numberOk, nodeOk, areKids, deepest. -/
import Derived.Test.YtcgeafdakaeicaaDoorRpSpecOk
import Derived.Lib.ConvBytes
namespace Go.Proofs.YtcgeafdakaeicaaDoor.Rp
open Go.RowKit Go.Sort

set_option maxHeartbeats 400000 in
theorem number_any (n : Int) (w : World) :
    Calls Tryd.prog 56 #[.int .i64 n] w fun e w' => e = .returned (.bool (numB n)) ∧ w' = w := by
  by_cases h : -1000000000000000000 ≤ n
  · go_enter Tryd.func56, Tryd.ntmps56
    go_wp2
    go_ret
    exact ⟨ret_bool (by simp [numB, inB, h]), rfl⟩
  · have hd : decide (-1000000000000000000 ≤ n) = false := by simpa using h
    go_enter Tryd.func56, Tryd.ntmps56
    go_wp2
    go_ret
    exact ⟨ret_bool (by simp [numB, inB]; omega), rfl⟩

theorem getD_byte (s : ByteArray) (k : Nat) (h : k < s.size) : s.data.toList.getD k 0 = s[k] := by
  rw [List.getD_eq_getElem?_getD, List.getElem?_eq_getElem (by simpa using h)]
  simp
  rfl

set_option maxHeartbeats 400000 in
theorem isPlain_any (y : UInt8) (w : World) :
    Calls Tryd.prog 75 #[.int .u8 y.toNat] w fun e w' => e = .returned (.bool (byteOk y)) ∧ w' = w := by
  by_cases h1 : 32 ≤ y.toNat
  · have hd : decide ((32 : Int) ≤ (y.toNat : Int)) = true := by simp; omega
    go_enter Tryd.func75, Tryd.ntmps75
    go_wp2
    go_ret
    exact ⟨ret_bool (by unfold byteOk; rw [Bool.eq_iff_iff]; simp; omega), rfl⟩
  · have hd : decide ((32 : Int) ≤ (y.toNat : Int)) = false := by simp; omega
    go_enter Tryd.func75, Tryd.ntmps75
    go_wp2
    go_ret
    exact ⟨ret_bool (by unfold byteOk; symm; simp; omega), rfl⟩

set_option maxHeartbeats 400000 in
theorem words_any (s : ByteArray) (w : World) (hs : s.size ≤ 9223372036854775807) :
    Calls Tryd.prog 55 #[.string s] w fun e w' => e = .returned (.bool (plainB s)) ∧ Below w.heap.size w w' := by
  by_cases h200 : (200 : Int) < s.size
  · go_enter Tryd.func55, Tryd.ntmps55
    go_wp2
    go_ret
    exact ⟨ret_bool (by rw [plainB, decide_eq_false (by omega), Bool.false_and]), Below.refl _ _⟩
  have hcv := Lib.run_convert_string_bytes (P := Tryd.prog) w 9 22 5 s Tryd.underlying9 Tryd.underlying22 Tryd.underlying5
  have bb : Below w.heap.size w (Lib.bytesWorld w 5 s) := ⟨rfl, rfl, rfl, by rw [Lib.bytesWorld_size]; omega, fun k hk => Lib.bytesWorld_at_old w 5 s k hk⟩
  have hcell := fun j hj => Lib.bytesWorld_cell w 5 s j hj
  generalize Lib.bytesWorld w 5 s = wb at *
  generalize grownCap w s.size 0 5 = cp at *
  go_enter Tryd.func55, Tryd.ntmps55
  go_wp2
  go_loop [4, 11] (fun _ i => ∃ k : Nat, k ≤ s.size ∧ i = .int .i64 k ∧ (s.data.toList.take k).all byteOk = true) (fun _ i => s.size - (intOf i).toNat)
  case atStart => exact ⟨0, by omega, rfl, by simp⟩
  case round =>
    obtain ⟨k, hk, rfl, hall⟩ := hrel
    clear hcv
    by_cases hlt : k < s.size
    · have HA : Hid ((s.data.toList.take (k + 1)).all byteOk = byteOk s[k]) := by unfold Hid; rw [all_snoc s k hlt, hall, Bool.true_and]
      have hc := hcell k hlt
      rw [getD_byte s k hlt] at hc
      clear hall hcell
      generalize s[k] = y at *
      have HP : Hid (∀ w, Calls Tryd.prog 75 #[.int .u8 y.toNat] w fun e w' => e = .returned (.bool (byteOk y)) ∧ w' = w) := fun w => isPlain_any y w
      cases hb : byteOk y with
      | false =>
        rw [hb] at HP HA
        go_wp2_with fail
        refine (HP.out _).mono ?_
        rintro e w1 ⟨rfl, rfl⟩
        go_wp2
        go_ret
        have e1 := all_false_of_take _ _ HA.out
        exact ⟨ret_bool (by rw [plainB, e1, Bool.and_false]), bb⟩
      | true =>
        rw [hb] at HP HA
        go_wp2_with fail
        refine (HP.out _).mono ?_
        rintro e w1 ⟨rfl, hw1⟩
        have hw2 := hw1.symm
        clear hw1
        subst hw2
        go_wp2
        go_round
        case rel => exact ⟨k + 1, by omega, by go_num, HA.out⟩
        case measure => simp [intOf] <;> omega
    · have HA : Hid ((s.data.toList.take k).all byteOk = true) := hall
      clear hall hcell
      go_wp2
      go_ret
      have e1 := HA.out
      rw [List.take_of_length_le (by simp; omega)] at e1
      exact ⟨ret_bool (by rw [plainB, e1, Bool.and_true, decide_eq_true (by omega)]), bb⟩

set_option maxHeartbeats 2000000 in
set_option maxRecDepth 100000 in
theorem node_any (x : Nd) (ak : Option Addr) (ck : Nat) (w : World) (hs : x.s.size ≤ 9223372036854775807) (_hk : x.kids.length ≤ 1048576) :
    Calls Tryd.prog 26 #[.agg #[.int .i64 x.kind, .int .i64 x.num, .string x.s, .slice ak x.kids.length ck]] w fun e w' => e = .returned (.bool (fieldsB x)) ∧ Below w.heap.size w w' := by
  go_enter Tryd.func26, Tryd.ntmps26
  go_wp2
  go_quiet ((fail))
  have bq : Below w.heap.size w ((w.alloc (.cells #[.int .i64 x.kind, .int .i64 x.num, .string x.s, .slice ak x.kids.length ck] 44)).drewN nq) := below_drewN ((Below.refl _ _).alloc (Nat.le_refl _) _) nq
  have hsq := bq.size
  by_cases k1 : x.kind = 1
  · have e1 : (x.kind == 1) = true := by simp [k1]
    have HK : Hid (fieldsB x = _) := fields_text x (.inl k1)
    clear k1
    by_cases hN : x.num = 0
    · have ehN : (x.num == 0) = true := by simp [hN]
      have GhN : Hid (x.num = 0) := hN
      clear hN
      by_cases hL : x.kids.length = 0
      · have ehL : ((x.kids.length : Int) == 0) = true := by rw [len0]; simp [hL]
        have GhL : Hid (x.kids.length = 0) := hL
        clear hL
        go_wp2_with fail
        refine (words_any x.s _ hs).mono ?_
        rintro e w1 ⟨rfl, b1⟩
        have b01 := bq.trans (b1.mono hsq)
        go_wp2
        go_ret
        exact ⟨ret_bool (by rw [HK.out]; simp [GhN.out, GhL.out]), b01⟩
      · have ehL : ((x.kids.length : Int) == 0) = false := by rw [len0]; simp [hL]
        have GhL : Hid (¬ x.kids.length = 0) := hL
        clear hL
        go_wp2
        go_ret
        exact ⟨ret_bool (by rw [HK.out]; simp [GhN.out, GhL.out]), bq⟩
    · have ehN : (x.num == 0) = false := by simp [hN]
      have GhN : Hid (¬ x.num = 0) := hN
      clear hN
      go_wp2
      go_ret
      exact ⟨ret_bool (by rw [HK.out]; simp [GhN.out]), bq⟩
  have e1 : (x.kind == 1) = false := by simp [k1]
  by_cases k2 : x.kind = 2
  · have e2 : (x.kind == 2) = true := by simp [k2]
    have HK : Hid (fieldsB x = _) := fields_text x (.inr k2)
    clear k2
    by_cases hN : x.num = 0
    · have ehN : (x.num == 0) = true := by simp [hN]
      have GhN : Hid (x.num = 0) := hN
      clear hN
      by_cases hL : x.kids.length = 0
      · have ehL : ((x.kids.length : Int) == 0) = true := by rw [len0]; simp [hL]
        have GhL : Hid (x.kids.length = 0) := hL
        clear hL
        go_wp2_with fail
        refine (words_any x.s _ hs).mono ?_
        rintro e w1 ⟨rfl, b1⟩
        have b01 := bq.trans (b1.mono hsq)
        go_wp2
        go_ret
        exact ⟨ret_bool (by rw [HK.out]; simp [GhN.out, GhL.out]), b01⟩
      · have ehL : ((x.kids.length : Int) == 0) = false := by rw [len0]; simp [hL]
        have GhL : Hid (¬ x.kids.length = 0) := hL
        clear hL
        go_wp2
        go_ret
        exact ⟨ret_bool (by rw [HK.out]; simp [GhN.out, GhL.out]), bq⟩
    · have ehN : (x.num == 0) = false := by simp [hN]
      have GhN : Hid (¬ x.num = 0) := hN
      clear hN
      go_wp2
      go_ret
      exact ⟨ret_bool (by rw [HK.out]; simp [GhN.out]), bq⟩
  have e2 : (x.kind == 2) = false := by simp [k2]
  by_cases k3 : x.kind = 3
  · have e3 : (x.kind == 3) = true := by simp [k3]
    have HK : Hid (fieldsB x = _) := fields_int x k3
    clear k3
    by_cases hS : x.s.size = 0
    · have ehS : x.s.toList.isEmpty = true := by rw [emp]; simp [hS]
      have GhS : Hid (x.s.size = 0) := hS
      clear hS
      by_cases hL : x.kids.length = 0
      · have ehL : ((x.kids.length : Int) == 0) = true := by rw [len0]; simp [hL]
        have GhL : Hid (x.kids.length = 0) := hL
        clear hL
        go_wp2_with fail
        refine (number_any x.num _).mono ?_
        rintro e w1 ⟨rfl, hw1⟩
        have hw2 := hw1.symm
        subst hw2
        go_wp2
        go_ret
        exact ⟨ret_bool (by rw [HK.out]; simp [GhS.out, GhL.out]), bq⟩
      · have ehL : ((x.kids.length : Int) == 0) = false := by rw [len0]; simp [hL]
        have GhL : Hid (¬ x.kids.length = 0) := hL
        clear hL
        go_wp2
        go_ret
        exact ⟨ret_bool (by rw [HK.out]; simp [GhS.out, GhL.out]), bq⟩
    · have ehS : x.s.toList.isEmpty = false := by rw [emp]; simp [hS]
      have GhS : Hid (¬ x.s.size = 0) := hS
      clear hS
      go_wp2
      go_ret
      exact ⟨ret_bool (by rw [HK.out]; simp [GhS.out]), bq⟩
  have e3 : (x.kind == 3) = false := by simp [k3]
  by_cases k4 : x.kind = 4
  · have e4 : (x.kind == 4) = true := by simp [k4]
    have HK : Hid (fieldsB x = _) := fields_bulk x k4
    clear k4
    by_cases hN : x.num = 0
    · have ehN : (x.num == 0) = true := by simp [hN]
      have GhN : Hid (x.num = 0) := hN
      clear hN
      by_cases hL : x.kids.length = 0
      · have ehL : ((x.kids.length : Int) == 0) = true := by rw [len0]; simp [hL]
        have GhL : Hid (x.kids.length = 0) := hL
        clear hL
        go_wp2
        go_ret
        exact ⟨ret_bool (by rw [HK.out]; simp [GhN.out, GhL.out, le200]), bq⟩
      · have ehL : ((x.kids.length : Int) == 0) = false := by rw [len0]; simp [hL]
        have GhL : Hid (¬ x.kids.length = 0) := hL
        clear hL
        go_wp2
        go_ret
        exact ⟨ret_bool (by rw [HK.out]; simp [GhN.out, GhL.out]), bq⟩
    · have ehN : (x.num == 0) = false := by simp [hN]
      have GhN : Hid (¬ x.num = 0) := hN
      clear hN
      go_wp2
      go_ret
      exact ⟨ret_bool (by rw [HK.out]; simp [GhN.out]), bq⟩
  have e4 : (x.kind == 4) = false := by simp [k4]
  by_cases k5 : x.kind = 5
  · have e5 : (x.kind == 5) = true := by simp [k5]
    have HK : Hid (fieldsB x = _) := fields_null x k5
    clear k5
    by_cases hN : x.num = 0
    · have ehN : (x.num == 0) = true := by simp [hN]
      have GhN : Hid (x.num = 0) := hN
      clear hN
      by_cases hS : x.s.size = 0
      · have ehS : x.s.toList.isEmpty = true := by rw [emp]; simp [hS]
        have GhS : Hid (x.s.size = 0) := hS
        clear hS
        go_wp2
        go_ret
        exact ⟨ret_bool (by rw [HK.out]; simp [GhN.out, GhS.out, len0]), bq⟩
      · have ehS : x.s.toList.isEmpty = false := by rw [emp]; simp [hS]
        have GhS : Hid (¬ x.s.size = 0) := hS
        clear hS
        go_wp2
        go_ret
        exact ⟨ret_bool (by rw [HK.out]; simp [GhN.out, GhS.out]), bq⟩
    · have ehN : (x.num == 0) = false := by simp [hN]
      have GhN : Hid (¬ x.num = 0) := hN
      clear hN
      go_wp2
      go_ret
      exact ⟨ret_bool (by rw [HK.out]; simp [GhN.out]), bq⟩
  have e5 : (x.kind == 5) = false := by simp [k5]
  by_cases k6 : x.kind = 6
  · have e6 : (x.kind == 6) = true := by simp [k6]
    have HK : Hid (fieldsB x = _) := fields_array x k6
    clear k6
    by_cases hN : x.num = 0
    · have ehN : (x.num == 0) = true := by simp [hN]
      have GhN : Hid (x.num = 0) := hN
      clear hN
      go_wp2
      go_ret
      exact ⟨ret_bool (by rw [HK.out]; simp [GhN.out, emp]), bq⟩
    · have ehN : (x.num == 0) = false := by simp [hN]
      have GhN : Hid (¬ x.num = 0) := hN
      clear hN
      go_wp2
      go_ret
      exact ⟨ret_bool (by rw [HK.out]; simp [GhN.out]), bq⟩
  have e6 : (x.kind == 6) = false := by simp [k6]
  have HK : Hid (fieldsB x = _) := fields_else x k1 k2 k3 k4 k5 k6
  clear k1 k2 k3 k4 k5 k6
  go_wp2
  go_ret
  exact ⟨ret_bool (by rw [HK.out]), bq⟩
end Go.Proofs.YtcgeafdakaeicaaDoor.Rp
