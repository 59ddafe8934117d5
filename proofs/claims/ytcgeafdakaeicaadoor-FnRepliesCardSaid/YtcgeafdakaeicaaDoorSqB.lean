/- The specification's item at a line that is no array's. -/
import Derived.Test.YtcgeafdakaeicaaDoorSqA
import Derived.Test.YtcgeafdakaeicaaDoorRpSpec
namespace Go.Proofs.YtcgeafdakaeicaaDoor
open Go.RowKit Go.Sort
open Rp (Nd nd0 plainB numB fieldsB)

/-- What the line gave. -/
abbrev LineC (V : Value) (s : ByteArray) (at2 rb : Nat) (w : World) (t : ByteArray) : Prop := Calls Tryd.prog 65 #[.pointer (some ⟨rb, 0, none⟩)] w fun e w' => e = .returned (.string t) ∧ S4 V w' rb s at2 0 ∧ w.grownBy w' (some rb)

theorem line_facts (b : UInt8) (r : List UInt8) : ∃ t : ByteArray, t = ⟨(b :: r).toArray⟩ ∧ t.toList.isEmpty = false ∧ (t.toList == []) = false ∧ (∀ hx, t[0]'hx = b) ∧ t.extract 1 t.size = ⟨r.toArray⟩ ∧ t.size = r.length + 1 :=
  ⟨_, rfl, by rw [ByteArray.toList_eq]; rfl, by rw [ByteArray.toList_eq]; rfl, fun _ => rfl, str_of _ _ (by rw [Lib.extract_data]; simp [ByteArray.size]), by simp [ByteArray.size]⟩

set_option maxHeartbeats 2000000 in
theorem item_plus (deep : Int) (hdp : deep ≤ 4) (V : Value) (s : ByteArray) (at2 rb : Nat) (w : World) (b : UInt8) (r : List UInt8) (hl : r.length ≤ 1048576) (iv : Int) (ok : Bool) (hint : intI r = (iv, ok)) (hline : LineC V s at2 rb w ⟨(b :: r).toArray⟩) (hb : b.toNat = 43) (hpl : plainB ⟨r.toArray⟩ = true) (z : Int) (F : World → Prop)
    (hadd : ∀ w1, S4 V w1 rb s at2 0 → w.grownBy w1 (some rb) → Calls Tryd.prog 67 #[.pointer (some ⟨rb, 0, none⟩), .agg #[.int .i64 1, .int .i64 0, .string ⟨r.toArray⟩, .slice none 0 0]] w1 fun e w' => e = .returned (.int .i64 z) ∧ F w') :
    Calls Tryd.prog 42 #[.pointer (some ⟨rb, 0, none⟩), .int .i64 deep] w fun e w' => e = .returned (.int .i64 z) ∧ F w' := by
  have HA : Hid (∀ w1, S4 V w1 rb s at2 0 → w.grownBy w1 (some rb) → Calls Tryd.prog 67 #[.pointer (some ⟨rb, 0, none⟩), .agg #[.int .i64 1, .int .i64 0, .string ⟨r.toArray⟩, .slice none 0 0]] w1 fun e w' => e = .returned (.int .i64 z) ∧ F w') := hadd
  have e43 : ((b.toNat : Int) == 43) = true := by rw [hb]; rfl
  have e45 : ((b.toNat : Int) == 45) = false := by rw [hb]; rfl
  have e58 : ((b.toNat : Int) == 58) = false := by rw [hb]; rfl
  have e36 : ((b.toNat : Int) == 36) = false := by rw [hb]; rfl
  have e42 : ((b.toNat : Int) == 42) = false := by rw [hb]; rfl
  clear hb
  clear hadd
  obtain ⟨t, ht, he, he2, h00, HX, hz⟩ := line_facts b r
  rw [← ht] at hline
  have HC : Hid (LineC V s at2 rb w t) := hline
  have HI : Hid (∀ w, Calls Tryd.prog 66 #[.string ⟨r.toArray⟩] w fun e w' => e = .returned (.tuple #[.int .i64 iv, .bool ok]) ∧ w' = w) := fun w => by
    have := l1Int_any ⟨r.toArray⟩ w (by rw [size_mk]; exact hl)
    rw [show (⟨r.toArray⟩ : ByteArray).data.toList = r from rfl, hint] at this
    exact this
  have HP : Hid (∀ w, Calls Tryd.prog 29 #[.string ⟨r.toArray⟩] w fun e w' => e = .returned (.bool (plainB ⟨r.toArray⟩)) ∧ w' = w) := fun w => Rp.plain_any ⟨r.toArray⟩ w (by rw [size_mk]; omega)
  have hb256 : b.toNat < 256 := b.toNat_lt
  have hz0 : (0 : Int) < (t.size : Int) := by omega
  have hz1 : (1 : Int) ≤ (t.size : Int) := by omega
  have hz2 : 0 < t.size := by omega
  have hts : t.size ≤ 1048577 := by omega
  have HX2 : Hid (t.extract 1 t.size = ⟨r.toArray⟩) := HX
  clear hline HX hz ht hint
  go_enter Tryd.func42, Tryd.ntmps42
  go_wp2_with fail
  refine HC.out.mono ?_
  rintro e w1 ⟨rfl, r1, g1⟩
  have c2 := RowAt.cell r1 2
  have f2 := RowAt.frozen r1 2
  simp at c2
  have R1 : Hid (S4 V w1 rb s at2 0) := r1
  clear r1
  go_wp2_with fail
  rw [HX2.out]
  refine (HI.out w1).mono ?_
  rintro e w2 ⟨rfl, hw⟩
  have hw2 := hw.symm
  subst hw2
  clear hw HX2
  go_wp2_with (first | (go_at_call 29; refine (HP.out w1).mono ?_; rintro e w2 ⟨rfl, hw⟩; have hw2 := hw.symm; subst hw2; clear hw) | (go_at_call 30; refine (l1In_any iv _ _ w1).mono ?_; rintro e w2 ⟨rfl, hw⟩; have hw2 := hw.symm; subst hw2; clear hw))
  refine (HA.out w1 R1.out g1).mono ?_
  rintro e w3 ⟨rfl, hF⟩
  go_wp2
  go_ret
  exact ⟨rfl, hF⟩

set_option maxHeartbeats 2000000 in
theorem item_plus_no (deep : Int) (hdp : deep ≤ 4) (V : Value) (s : ByteArray) (at2 rb : Nat) (w : World) (b : UInt8) (r : List UInt8) (hl : r.length ≤ 1048576) (iv : Int) (ok : Bool) (hint : intI r = (iv, ok)) (hline : LineC V s at2 rb w ⟨(b :: r).toArray⟩) (hb : b.toNat = 43) (hpl : plainB ⟨r.toArray⟩ = false) :
    Calls Tryd.prog 42 #[.pointer (some ⟨rb, 0, none⟩), .int .i64 deep] w fun e w' => e = .returned (.int .i64 0) ∧ ∃ w1, S4 V w1 rb s at2 0 ∧ w.grownBy w1 (some rb) ∧ w' = w1.setCell ⟨rb, 2, none⟩ (.int .i64 2) := by
  have e43 : ((b.toNat : Int) == 43) = true := by rw [hb]; rfl
  have e45 : ((b.toNat : Int) == 45) = false := by rw [hb]; rfl
  have e58 : ((b.toNat : Int) == 58) = false := by rw [hb]; rfl
  have e36 : ((b.toNat : Int) == 36) = false := by rw [hb]; rfl
  have e42 : ((b.toNat : Int) == 42) = false := by rw [hb]; rfl
  clear hb
  obtain ⟨t, ht, he, he2, h00, HX, hz⟩ := line_facts b r
  rw [← ht] at hline
  have HC : Hid (LineC V s at2 rb w t) := hline
  have HI : Hid (∀ w, Calls Tryd.prog 66 #[.string ⟨r.toArray⟩] w fun e w' => e = .returned (.tuple #[.int .i64 iv, .bool ok]) ∧ w' = w) := fun w => by
    have := l1Int_any ⟨r.toArray⟩ w (by rw [size_mk]; exact hl)
    rw [show (⟨r.toArray⟩ : ByteArray).data.toList = r from rfl, hint] at this
    exact this
  have HP : Hid (∀ w, Calls Tryd.prog 29 #[.string ⟨r.toArray⟩] w fun e w' => e = .returned (.bool (plainB ⟨r.toArray⟩)) ∧ w' = w) := fun w => Rp.plain_any ⟨r.toArray⟩ w (by rw [size_mk]; omega)
  have hb256 : b.toNat < 256 := b.toNat_lt
  have hz0 : (0 : Int) < (t.size : Int) := by omega
  have hz1 : (1 : Int) ≤ (t.size : Int) := by omega
  have hz2 : 0 < t.size := by omega
  have hts : t.size ≤ 1048577 := by omega
  have HX2 : Hid (t.extract 1 t.size = ⟨r.toArray⟩) := HX
  clear hline HX hz ht hint
  go_enter Tryd.func42, Tryd.ntmps42
  go_wp2_with fail
  refine HC.out.mono ?_
  rintro e w1 ⟨rfl, r1, g1⟩
  have c2 := RowAt.cell r1 2
  have f2 := RowAt.frozen r1 2
  simp at c2
  have R1 : Hid (S4 V w1 rb s at2 0) := r1
  clear r1
  go_wp2_with fail
  rw [HX2.out]
  refine (HI.out w1).mono ?_
  rintro e w2 ⟨rfl, hw⟩
  have hw2 := hw.symm
  subst hw2
  clear hw HX2
  go_wp2_with (first | (go_at_call 29; refine (HP.out w1).mono ?_; rintro e w2 ⟨rfl, hw⟩; have hw2 := hw.symm; subst hw2; clear hw) | (go_at_call 30; refine (l1In_any iv _ _ w1).mono ?_; rintro e w2 ⟨rfl, hw⟩; have hw2 := hw.symm; subst hw2; clear hw))
  go_ret
  exact ⟨rfl, w1, R1.out, g1, rfl⟩

set_option maxHeartbeats 2000000 in
theorem item_minus (deep : Int) (hdp : deep ≤ 4) (V : Value) (s : ByteArray) (at2 rb : Nat) (w : World) (b : UInt8) (r : List UInt8) (hl : r.length ≤ 1048576) (iv : Int) (ok : Bool) (hint : intI r = (iv, ok)) (hline : LineC V s at2 rb w ⟨(b :: r).toArray⟩) (hb : b.toNat = 45) (hpl : plainB ⟨r.toArray⟩ = true) (z : Int) (F : World → Prop)
    (hadd : ∀ w1, S4 V w1 rb s at2 0 → w.grownBy w1 (some rb) → Calls Tryd.prog 67 #[.pointer (some ⟨rb, 0, none⟩), .agg #[.int .i64 2, .int .i64 0, .string ⟨r.toArray⟩, .slice none 0 0]] w1 fun e w' => e = .returned (.int .i64 z) ∧ F w') :
    Calls Tryd.prog 42 #[.pointer (some ⟨rb, 0, none⟩), .int .i64 deep] w fun e w' => e = .returned (.int .i64 z) ∧ F w' := by
  have HA : Hid (∀ w1, S4 V w1 rb s at2 0 → w.grownBy w1 (some rb) → Calls Tryd.prog 67 #[.pointer (some ⟨rb, 0, none⟩), .agg #[.int .i64 2, .int .i64 0, .string ⟨r.toArray⟩, .slice none 0 0]] w1 fun e w' => e = .returned (.int .i64 z) ∧ F w') := hadd
  have e43 : ((b.toNat : Int) == 43) = false := by rw [hb]; rfl
  have e45 : ((b.toNat : Int) == 45) = true := by rw [hb]; rfl
  have e58 : ((b.toNat : Int) == 58) = false := by rw [hb]; rfl
  have e36 : ((b.toNat : Int) == 36) = false := by rw [hb]; rfl
  have e42 : ((b.toNat : Int) == 42) = false := by rw [hb]; rfl
  clear hb
  clear hadd
  obtain ⟨t, ht, he, he2, h00, HX, hz⟩ := line_facts b r
  rw [← ht] at hline
  have HC : Hid (LineC V s at2 rb w t) := hline
  have HI : Hid (∀ w, Calls Tryd.prog 66 #[.string ⟨r.toArray⟩] w fun e w' => e = .returned (.tuple #[.int .i64 iv, .bool ok]) ∧ w' = w) := fun w => by
    have := l1Int_any ⟨r.toArray⟩ w (by rw [size_mk]; exact hl)
    rw [show (⟨r.toArray⟩ : ByteArray).data.toList = r from rfl, hint] at this
    exact this
  have HP : Hid (∀ w, Calls Tryd.prog 29 #[.string ⟨r.toArray⟩] w fun e w' => e = .returned (.bool (plainB ⟨r.toArray⟩)) ∧ w' = w) := fun w => Rp.plain_any ⟨r.toArray⟩ w (by rw [size_mk]; omega)
  have hb256 : b.toNat < 256 := b.toNat_lt
  have hz0 : (0 : Int) < (t.size : Int) := by omega
  have hz1 : (1 : Int) ≤ (t.size : Int) := by omega
  have hz2 : 0 < t.size := by omega
  have hts : t.size ≤ 1048577 := by omega
  have HX2 : Hid (t.extract 1 t.size = ⟨r.toArray⟩) := HX
  clear hline HX hz ht hint
  go_enter Tryd.func42, Tryd.ntmps42
  go_wp2_with fail
  refine HC.out.mono ?_
  rintro e w1 ⟨rfl, r1, g1⟩
  have c2 := RowAt.cell r1 2
  have f2 := RowAt.frozen r1 2
  simp at c2
  have R1 : Hid (S4 V w1 rb s at2 0) := r1
  clear r1
  go_wp2_with fail
  rw [HX2.out]
  refine (HI.out w1).mono ?_
  rintro e w2 ⟨rfl, hw⟩
  have hw2 := hw.symm
  subst hw2
  clear hw HX2
  go_wp2_with (first | (go_at_call 29; refine (HP.out w1).mono ?_; rintro e w2 ⟨rfl, hw⟩; have hw2 := hw.symm; subst hw2; clear hw) | (go_at_call 30; refine (l1In_any iv _ _ w1).mono ?_; rintro e w2 ⟨rfl, hw⟩; have hw2 := hw.symm; subst hw2; clear hw))
  refine (HA.out w1 R1.out g1).mono ?_
  rintro e w3 ⟨rfl, hF⟩
  go_wp2
  go_ret
  exact ⟨rfl, hF⟩

set_option maxHeartbeats 2000000 in
theorem item_minus_no (deep : Int) (hdp : deep ≤ 4) (V : Value) (s : ByteArray) (at2 rb : Nat) (w : World) (b : UInt8) (r : List UInt8) (hl : r.length ≤ 1048576) (iv : Int) (ok : Bool) (hint : intI r = (iv, ok)) (hline : LineC V s at2 rb w ⟨(b :: r).toArray⟩) (hb : b.toNat = 45) (hpl : plainB ⟨r.toArray⟩ = false) :
    Calls Tryd.prog 42 #[.pointer (some ⟨rb, 0, none⟩), .int .i64 deep] w fun e w' => e = .returned (.int .i64 0) ∧ ∃ w1, S4 V w1 rb s at2 0 ∧ w.grownBy w1 (some rb) ∧ w' = w1.setCell ⟨rb, 2, none⟩ (.int .i64 2) := by
  have e43 : ((b.toNat : Int) == 43) = false := by rw [hb]; rfl
  have e45 : ((b.toNat : Int) == 45) = true := by rw [hb]; rfl
  have e58 : ((b.toNat : Int) == 58) = false := by rw [hb]; rfl
  have e36 : ((b.toNat : Int) == 36) = false := by rw [hb]; rfl
  have e42 : ((b.toNat : Int) == 42) = false := by rw [hb]; rfl
  clear hb
  obtain ⟨t, ht, he, he2, h00, HX, hz⟩ := line_facts b r
  rw [← ht] at hline
  have HC : Hid (LineC V s at2 rb w t) := hline
  have HI : Hid (∀ w, Calls Tryd.prog 66 #[.string ⟨r.toArray⟩] w fun e w' => e = .returned (.tuple #[.int .i64 iv, .bool ok]) ∧ w' = w) := fun w => by
    have := l1Int_any ⟨r.toArray⟩ w (by rw [size_mk]; exact hl)
    rw [show (⟨r.toArray⟩ : ByteArray).data.toList = r from rfl, hint] at this
    exact this
  have HP : Hid (∀ w, Calls Tryd.prog 29 #[.string ⟨r.toArray⟩] w fun e w' => e = .returned (.bool (plainB ⟨r.toArray⟩)) ∧ w' = w) := fun w => Rp.plain_any ⟨r.toArray⟩ w (by rw [size_mk]; omega)
  have hb256 : b.toNat < 256 := b.toNat_lt
  have hz0 : (0 : Int) < (t.size : Int) := by omega
  have hz1 : (1 : Int) ≤ (t.size : Int) := by omega
  have hz2 : 0 < t.size := by omega
  have hts : t.size ≤ 1048577 := by omega
  have HX2 : Hid (t.extract 1 t.size = ⟨r.toArray⟩) := HX
  clear hline HX hz ht hint
  go_enter Tryd.func42, Tryd.ntmps42
  go_wp2_with fail
  refine HC.out.mono ?_
  rintro e w1 ⟨rfl, r1, g1⟩
  have c2 := RowAt.cell r1 2
  have f2 := RowAt.frozen r1 2
  simp at c2
  have R1 : Hid (S4 V w1 rb s at2 0) := r1
  clear r1
  go_wp2_with fail
  rw [HX2.out]
  refine (HI.out w1).mono ?_
  rintro e w2 ⟨rfl, hw⟩
  have hw2 := hw.symm
  subst hw2
  clear hw HX2
  go_wp2_with (first | (go_at_call 29; refine (HP.out w1).mono ?_; rintro e w2 ⟨rfl, hw⟩; have hw2 := hw.symm; subst hw2; clear hw) | (go_at_call 30; refine (l1In_any iv _ _ w1).mono ?_; rintro e w2 ⟨rfl, hw⟩; have hw2 := hw.symm; subst hw2; clear hw))
  go_ret
  exact ⟨rfl, w1, R1.out, g1, rfl⟩

set_option maxHeartbeats 2000000 in
theorem item_int (deep : Int) (hdp : deep ≤ 4) (V : Value) (s : ByteArray) (at2 rb : Nat) (w : World) (b : UInt8) (r : List UInt8) (hl : r.length ≤ 1048576) (iv : Int) (ok : Bool) (hint : intI r = (iv, ok)) (hline : LineC V s at2 rb w ⟨(b :: r).toArray⟩) (hb : b.toNat = 58) (hok : ok = true) (z : Int) (F : World → Prop)
    (hadd : ∀ w1, S4 V w1 rb s at2 0 → w.grownBy w1 (some rb) → Calls Tryd.prog 67 #[.pointer (some ⟨rb, 0, none⟩), .agg #[.int .i64 3, .int .i64 iv, .string ⟨#[]⟩, .slice none 0 0]] w1 fun e w' => e = .returned (.int .i64 z) ∧ F w') :
    Calls Tryd.prog 42 #[.pointer (some ⟨rb, 0, none⟩), .int .i64 deep] w fun e w' => e = .returned (.int .i64 z) ∧ F w' := by
  have HA : Hid (∀ w1, S4 V w1 rb s at2 0 → w.grownBy w1 (some rb) → Calls Tryd.prog 67 #[.pointer (some ⟨rb, 0, none⟩), .agg #[.int .i64 3, .int .i64 iv, .string ⟨#[]⟩, .slice none 0 0]] w1 fun e w' => e = .returned (.int .i64 z) ∧ F w') := hadd
  have e43 : ((b.toNat : Int) == 43) = false := by rw [hb]; rfl
  have e45 : ((b.toNat : Int) == 45) = false := by rw [hb]; rfl
  have e58 : ((b.toNat : Int) == 58) = true := by rw [hb]; rfl
  have e36 : ((b.toNat : Int) == 36) = false := by rw [hb]; rfl
  have e42 : ((b.toNat : Int) == 42) = false := by rw [hb]; rfl
  clear hb
  clear hadd
  obtain ⟨t, ht, he, he2, h00, HX, hz⟩ := line_facts b r
  rw [← ht] at hline
  have HC : Hid (LineC V s at2 rb w t) := hline
  have HI : Hid (∀ w, Calls Tryd.prog 66 #[.string ⟨r.toArray⟩] w fun e w' => e = .returned (.tuple #[.int .i64 iv, .bool ok]) ∧ w' = w) := fun w => by
    have := l1Int_any ⟨r.toArray⟩ w (by rw [size_mk]; exact hl)
    rw [show (⟨r.toArray⟩ : ByteArray).data.toList = r from rfl, hint] at this
    exact this
  have HP : Hid (∀ w, Calls Tryd.prog 29 #[.string ⟨r.toArray⟩] w fun e w' => e = .returned (.bool (plainB ⟨r.toArray⟩)) ∧ w' = w) := fun w => Rp.plain_any ⟨r.toArray⟩ w (by rw [size_mk]; omega)
  have hb256 : b.toNat < 256 := b.toNat_lt
  have hz0 : (0 : Int) < (t.size : Int) := by omega
  have hz1 : (1 : Int) ≤ (t.size : Int) := by omega
  have hz2 : 0 < t.size := by omega
  have hts : t.size ≤ 1048577 := by omega
  have HX2 : Hid (t.extract 1 t.size = ⟨r.toArray⟩) := HX
  clear hline HX hz ht hint
  go_enter Tryd.func42, Tryd.ntmps42
  go_wp2_with fail
  refine HC.out.mono ?_
  rintro e w1 ⟨rfl, r1, g1⟩
  have c2 := RowAt.cell r1 2
  have f2 := RowAt.frozen r1 2
  simp at c2
  have R1 : Hid (S4 V w1 rb s at2 0) := r1
  clear r1
  go_wp2_with fail
  rw [HX2.out]
  refine (HI.out w1).mono ?_
  rintro e w2 ⟨rfl, hw⟩
  have hw2 := hw.symm
  subst hw2
  clear hw HX2
  go_wp2_with (first | (go_at_call 29; refine (HP.out w1).mono ?_; rintro e w2 ⟨rfl, hw⟩; have hw2 := hw.symm; subst hw2; clear hw) | (go_at_call 30; refine (l1In_any iv _ _ w1).mono ?_; rintro e w2 ⟨rfl, hw⟩; have hw2 := hw.symm; subst hw2; clear hw))
  refine (HA.out w1 R1.out g1).mono ?_
  rintro e w3 ⟨rfl, hF⟩
  go_wp2
  go_ret
  exact ⟨rfl, hF⟩

set_option maxHeartbeats 2000000 in
theorem item_int_no (deep : Int) (hdp : deep ≤ 4) (V : Value) (s : ByteArray) (at2 rb : Nat) (w : World) (b : UInt8) (r : List UInt8) (hl : r.length ≤ 1048576) (iv : Int) (ok : Bool) (hint : intI r = (iv, ok)) (hline : LineC V s at2 rb w ⟨(b :: r).toArray⟩) (hb : b.toNat = 58) (hok : ok = false) :
    Calls Tryd.prog 42 #[.pointer (some ⟨rb, 0, none⟩), .int .i64 deep] w fun e w' => e = .returned (.int .i64 0) ∧ ∃ w1, S4 V w1 rb s at2 0 ∧ w.grownBy w1 (some rb) ∧ w' = w1.setCell ⟨rb, 2, none⟩ (.int .i64 2) := by
  have e43 : ((b.toNat : Int) == 43) = false := by rw [hb]; rfl
  have e45 : ((b.toNat : Int) == 45) = false := by rw [hb]; rfl
  have e58 : ((b.toNat : Int) == 58) = true := by rw [hb]; rfl
  have e36 : ((b.toNat : Int) == 36) = false := by rw [hb]; rfl
  have e42 : ((b.toNat : Int) == 42) = false := by rw [hb]; rfl
  clear hb
  obtain ⟨t, ht, he, he2, h00, HX, hz⟩ := line_facts b r
  rw [← ht] at hline
  have HC : Hid (LineC V s at2 rb w t) := hline
  have HI : Hid (∀ w, Calls Tryd.prog 66 #[.string ⟨r.toArray⟩] w fun e w' => e = .returned (.tuple #[.int .i64 iv, .bool ok]) ∧ w' = w) := fun w => by
    have := l1Int_any ⟨r.toArray⟩ w (by rw [size_mk]; exact hl)
    rw [show (⟨r.toArray⟩ : ByteArray).data.toList = r from rfl, hint] at this
    exact this
  have HP : Hid (∀ w, Calls Tryd.prog 29 #[.string ⟨r.toArray⟩] w fun e w' => e = .returned (.bool (plainB ⟨r.toArray⟩)) ∧ w' = w) := fun w => Rp.plain_any ⟨r.toArray⟩ w (by rw [size_mk]; omega)
  have hb256 : b.toNat < 256 := b.toNat_lt
  have hz0 : (0 : Int) < (t.size : Int) := by omega
  have hz1 : (1 : Int) ≤ (t.size : Int) := by omega
  have hz2 : 0 < t.size := by omega
  have hts : t.size ≤ 1048577 := by omega
  have HX2 : Hid (t.extract 1 t.size = ⟨r.toArray⟩) := HX
  clear hline HX hz ht hint
  go_enter Tryd.func42, Tryd.ntmps42
  go_wp2_with fail
  refine HC.out.mono ?_
  rintro e w1 ⟨rfl, r1, g1⟩
  have c2 := RowAt.cell r1 2
  have f2 := RowAt.frozen r1 2
  simp at c2
  have R1 : Hid (S4 V w1 rb s at2 0) := r1
  clear r1
  go_wp2_with fail
  rw [HX2.out]
  refine (HI.out w1).mono ?_
  rintro e w2 ⟨rfl, hw⟩
  have hw2 := hw.symm
  subst hw2
  clear hw HX2
  go_wp2_with (first | (go_at_call 29; refine (HP.out w1).mono ?_; rintro e w2 ⟨rfl, hw⟩; have hw2 := hw.symm; subst hw2; clear hw) | (go_at_call 30; refine (l1In_any iv _ _ w1).mono ?_; rintro e w2 ⟨rfl, hw⟩; have hw2 := hw.symm; subst hw2; clear hw))
  go_ret
  exact ⟨rfl, w1, R1.out, g1, rfl⟩

set_option maxHeartbeats 2000000 in
theorem item_null (deep : Int) (hdp : deep ≤ 4) (V : Value) (s : ByteArray) (at2 rb : Nat) (w : World) (b : UInt8) (r : List UInt8) (hl : r.length ≤ 1048576) (iv : Int) (ok : Bool) (hint : intI r = (iv, ok)) (hline : LineC V s at2 rb w ⟨(b :: r).toArray⟩) (hb : b.toNat = 36) (hok : ok = true) (hiv : (iv == -1) = true) (z : Int) (F : World → Prop)
    (hadd : ∀ w1, S4 V w1 rb s at2 0 → w.grownBy w1 (some rb) → Calls Tryd.prog 67 #[.pointer (some ⟨rb, 0, none⟩), .agg #[.int .i64 5, .int .i64 0, .string ⟨#[]⟩, .slice none 0 0]] w1 fun e w' => e = .returned (.int .i64 z) ∧ F w') :
    Calls Tryd.prog 42 #[.pointer (some ⟨rb, 0, none⟩), .int .i64 deep] w fun e w' => e = .returned (.int .i64 z) ∧ F w' := by
  have HA : Hid (∀ w1, S4 V w1 rb s at2 0 → w.grownBy w1 (some rb) → Calls Tryd.prog 67 #[.pointer (some ⟨rb, 0, none⟩), .agg #[.int .i64 5, .int .i64 0, .string ⟨#[]⟩, .slice none 0 0]] w1 fun e w' => e = .returned (.int .i64 z) ∧ F w') := hadd
  have e43 : ((b.toNat : Int) == 43) = false := by rw [hb]; rfl
  have e45 : ((b.toNat : Int) == 45) = false := by rw [hb]; rfl
  have e58 : ((b.toNat : Int) == 58) = false := by rw [hb]; rfl
  have e36 : ((b.toNat : Int) == 36) = true := by rw [hb]; rfl
  have e42 : ((b.toNat : Int) == 42) = false := by rw [hb]; rfl
  clear hb
  clear hadd
  obtain ⟨t, ht, he, he2, h00, HX, hz⟩ := line_facts b r
  rw [← ht] at hline
  have HC : Hid (LineC V s at2 rb w t) := hline
  have HI : Hid (∀ w, Calls Tryd.prog 66 #[.string ⟨r.toArray⟩] w fun e w' => e = .returned (.tuple #[.int .i64 iv, .bool ok]) ∧ w' = w) := fun w => by
    have := l1Int_any ⟨r.toArray⟩ w (by rw [size_mk]; exact hl)
    rw [show (⟨r.toArray⟩ : ByteArray).data.toList = r from rfl, hint] at this
    exact this
  have HP : Hid (∀ w, Calls Tryd.prog 29 #[.string ⟨r.toArray⟩] w fun e w' => e = .returned (.bool (plainB ⟨r.toArray⟩)) ∧ w' = w) := fun w => Rp.plain_any ⟨r.toArray⟩ w (by rw [size_mk]; omega)
  have hb256 : b.toNat < 256 := b.toNat_lt
  have hz0 : (0 : Int) < (t.size : Int) := by omega
  have hz1 : (1 : Int) ≤ (t.size : Int) := by omega
  have hz2 : 0 < t.size := by omega
  have hts : t.size ≤ 1048577 := by omega
  have HX2 : Hid (t.extract 1 t.size = ⟨r.toArray⟩) := HX
  clear hline HX hz ht hint
  go_enter Tryd.func42, Tryd.ntmps42
  go_wp2_with fail
  refine HC.out.mono ?_
  rintro e w1 ⟨rfl, r1, g1⟩
  have c2 := RowAt.cell r1 2
  have f2 := RowAt.frozen r1 2
  simp at c2
  have R1 : Hid (S4 V w1 rb s at2 0) := r1
  clear r1
  go_wp2_with fail
  rw [HX2.out]
  refine (HI.out w1).mono ?_
  rintro e w2 ⟨rfl, hw⟩
  have hw2 := hw.symm
  subst hw2
  clear hw HX2
  go_wp2_with (first | (go_at_call 29; refine (HP.out w1).mono ?_; rintro e w2 ⟨rfl, hw⟩; have hw2 := hw.symm; subst hw2; clear hw) | (go_at_call 30; refine (l1In_any iv _ _ w1).mono ?_; rintro e w2 ⟨rfl, hw⟩; have hw2 := hw.symm; subst hw2; clear hw))
  refine (HA.out w1 R1.out g1).mono ?_
  rintro e w3 ⟨rfl, hF⟩
  go_wp2
  go_ret
  exact ⟨rfl, hF⟩

set_option maxHeartbeats 2000000 in
theorem item_bulk_no1 (deep : Int) (hdp : deep ≤ 4) (V : Value) (s : ByteArray) (at2 rb : Nat) (w : World) (b : UInt8) (r : List UInt8) (hl : r.length ≤ 1048576) (iv : Int) (ok : Bool) (hint : intI r = (iv, ok)) (hline : LineC V s at2 rb w ⟨(b :: r).toArray⟩) (hb : b.toNat = 36) (hok : ok = false) :
    Calls Tryd.prog 42 #[.pointer (some ⟨rb, 0, none⟩), .int .i64 deep] w fun e w' => e = .returned (.int .i64 0) ∧ ∃ w1, S4 V w1 rb s at2 0 ∧ w.grownBy w1 (some rb) ∧ w' = w1.setCell ⟨rb, 2, none⟩ (.int .i64 2) := by
  have e43 : ((b.toNat : Int) == 43) = false := by rw [hb]; rfl
  have e45 : ((b.toNat : Int) == 45) = false := by rw [hb]; rfl
  have e58 : ((b.toNat : Int) == 58) = false := by rw [hb]; rfl
  have e36 : ((b.toNat : Int) == 36) = true := by rw [hb]; rfl
  have e42 : ((b.toNat : Int) == 42) = false := by rw [hb]; rfl
  clear hb
  obtain ⟨t, ht, he, he2, h00, HX, hz⟩ := line_facts b r
  rw [← ht] at hline
  have HC : Hid (LineC V s at2 rb w t) := hline
  have HI : Hid (∀ w, Calls Tryd.prog 66 #[.string ⟨r.toArray⟩] w fun e w' => e = .returned (.tuple #[.int .i64 iv, .bool ok]) ∧ w' = w) := fun w => by
    have := l1Int_any ⟨r.toArray⟩ w (by rw [size_mk]; exact hl)
    rw [show (⟨r.toArray⟩ : ByteArray).data.toList = r from rfl, hint] at this
    exact this
  have HP : Hid (∀ w, Calls Tryd.prog 29 #[.string ⟨r.toArray⟩] w fun e w' => e = .returned (.bool (plainB ⟨r.toArray⟩)) ∧ w' = w) := fun w => Rp.plain_any ⟨r.toArray⟩ w (by rw [size_mk]; omega)
  have hb256 : b.toNat < 256 := b.toNat_lt
  have hz0 : (0 : Int) < (t.size : Int) := by omega
  have hz1 : (1 : Int) ≤ (t.size : Int) := by omega
  have hz2 : 0 < t.size := by omega
  have hts : t.size ≤ 1048577 := by omega
  have HX2 : Hid (t.extract 1 t.size = ⟨r.toArray⟩) := HX
  clear hline HX hz ht hint
  go_enter Tryd.func42, Tryd.ntmps42
  go_wp2_with fail
  refine HC.out.mono ?_
  rintro e w1 ⟨rfl, r1, g1⟩
  have c2 := RowAt.cell r1 2
  have f2 := RowAt.frozen r1 2
  simp at c2
  have R1 : Hid (S4 V w1 rb s at2 0) := r1
  clear r1
  go_wp2_with fail
  rw [HX2.out]
  refine (HI.out w1).mono ?_
  rintro e w2 ⟨rfl, hw⟩
  have hw2 := hw.symm
  subst hw2
  clear hw HX2
  go_wp2_with (first | (go_at_call 29; refine (HP.out w1).mono ?_; rintro e w2 ⟨rfl, hw⟩; have hw2 := hw.symm; subst hw2; clear hw) | (go_at_call 30; refine (l1In_any iv _ _ w1).mono ?_; rintro e w2 ⟨rfl, hw⟩; have hw2 := hw.symm; subst hw2; clear hw))
  go_ret
  exact ⟨rfl, w1, R1.out, g1, rfl⟩

set_option maxHeartbeats 2000000 in
theorem item_bulk_no2 (deep : Int) (hdp : deep ≤ 4) (V : Value) (s : ByteArray) (at2 rb : Nat) (w : World) (b : UInt8) (r : List UInt8) (hl : r.length ≤ 1048576) (iv : Int) (ok : Bool) (hint : intI r = (iv, ok)) (hline : LineC V s at2 rb w ⟨(b :: r).toArray⟩) (hb : b.toNat = 36) (hok : ok = true) (hiv : (iv == -1) = false) (hin : decide (0 ≤ iv ∧ iv ≤ 200) = false) :
    Calls Tryd.prog 42 #[.pointer (some ⟨rb, 0, none⟩), .int .i64 deep] w fun e w' => e = .returned (.int .i64 0) ∧ ∃ w1, S4 V w1 rb s at2 0 ∧ w.grownBy w1 (some rb) ∧ w' = w1.setCell ⟨rb, 2, none⟩ (.int .i64 2) := by
  have e43 : ((b.toNat : Int) == 43) = false := by rw [hb]; rfl
  have e45 : ((b.toNat : Int) == 45) = false := by rw [hb]; rfl
  have e58 : ((b.toNat : Int) == 58) = false := by rw [hb]; rfl
  have e36 : ((b.toNat : Int) == 36) = true := by rw [hb]; rfl
  have e42 : ((b.toNat : Int) == 42) = false := by rw [hb]; rfl
  clear hb
  obtain ⟨t, ht, he, he2, h00, HX, hz⟩ := line_facts b r
  rw [← ht] at hline
  have HC : Hid (LineC V s at2 rb w t) := hline
  have HI : Hid (∀ w, Calls Tryd.prog 66 #[.string ⟨r.toArray⟩] w fun e w' => e = .returned (.tuple #[.int .i64 iv, .bool ok]) ∧ w' = w) := fun w => by
    have := l1Int_any ⟨r.toArray⟩ w (by rw [size_mk]; exact hl)
    rw [show (⟨r.toArray⟩ : ByteArray).data.toList = r from rfl, hint] at this
    exact this
  have HP : Hid (∀ w, Calls Tryd.prog 29 #[.string ⟨r.toArray⟩] w fun e w' => e = .returned (.bool (plainB ⟨r.toArray⟩)) ∧ w' = w) := fun w => Rp.plain_any ⟨r.toArray⟩ w (by rw [size_mk]; omega)
  have hb256 : b.toNat < 256 := b.toNat_lt
  have hz0 : (0 : Int) < (t.size : Int) := by omega
  have hz1 : (1 : Int) ≤ (t.size : Int) := by omega
  have hz2 : 0 < t.size := by omega
  have hts : t.size ≤ 1048577 := by omega
  have HX2 : Hid (t.extract 1 t.size = ⟨r.toArray⟩) := HX
  clear hline HX hz ht hint
  go_enter Tryd.func42, Tryd.ntmps42
  go_wp2_with fail
  refine HC.out.mono ?_
  rintro e w1 ⟨rfl, r1, g1⟩
  have c2 := RowAt.cell r1 2
  have f2 := RowAt.frozen r1 2
  simp at c2
  have R1 : Hid (S4 V w1 rb s at2 0) := r1
  clear r1
  go_wp2_with fail
  rw [HX2.out]
  refine (HI.out w1).mono ?_
  rintro e w2 ⟨rfl, hw⟩
  have hw2 := hw.symm
  subst hw2
  clear hw HX2
  go_wp2_with (first | (go_at_call 29; refine (HP.out w1).mono ?_; rintro e w2 ⟨rfl, hw⟩; have hw2 := hw.symm; subst hw2; clear hw) | (go_at_call 30; refine (l1In_any iv _ _ w1).mono ?_; rintro e w2 ⟨rfl, hw⟩; have hw2 := hw.symm; subst hw2; clear hw))
  go_ret
  exact ⟨rfl, w1, R1.out, g1, rfl⟩

set_option maxHeartbeats 2000000 in
theorem item_array_no1 (deep : Int) (hdp : deep ≤ 4) (V : Value) (s : ByteArray) (at2 rb : Nat) (w : World) (b : UInt8) (r : List UInt8) (hl : r.length ≤ 1048576) (iv : Int) (ok : Bool) (hint : intI r = (iv, ok)) (hline : LineC V s at2 rb w ⟨(b :: r).toArray⟩) (hb : b.toNat = 42) (hok : ok = false) :
    Calls Tryd.prog 42 #[.pointer (some ⟨rb, 0, none⟩), .int .i64 deep] w fun e w' => e = .returned (.int .i64 0) ∧ ∃ w1, S4 V w1 rb s at2 0 ∧ w.grownBy w1 (some rb) ∧ w' = w1.setCell ⟨rb, 2, none⟩ (.int .i64 2) := by
  have e43 : ((b.toNat : Int) == 43) = false := by rw [hb]; rfl
  have e45 : ((b.toNat : Int) == 45) = false := by rw [hb]; rfl
  have e58 : ((b.toNat : Int) == 58) = false := by rw [hb]; rfl
  have e36 : ((b.toNat : Int) == 36) = false := by rw [hb]; rfl
  have e42 : ((b.toNat : Int) == 42) = true := by rw [hb]; rfl
  clear hb
  obtain ⟨t, ht, he, he2, h00, HX, hz⟩ := line_facts b r
  rw [← ht] at hline
  have HC : Hid (LineC V s at2 rb w t) := hline
  have HI : Hid (∀ w, Calls Tryd.prog 66 #[.string ⟨r.toArray⟩] w fun e w' => e = .returned (.tuple #[.int .i64 iv, .bool ok]) ∧ w' = w) := fun w => by
    have := l1Int_any ⟨r.toArray⟩ w (by rw [size_mk]; exact hl)
    rw [show (⟨r.toArray⟩ : ByteArray).data.toList = r from rfl, hint] at this
    exact this
  have HP : Hid (∀ w, Calls Tryd.prog 29 #[.string ⟨r.toArray⟩] w fun e w' => e = .returned (.bool (plainB ⟨r.toArray⟩)) ∧ w' = w) := fun w => Rp.plain_any ⟨r.toArray⟩ w (by rw [size_mk]; omega)
  have hb256 : b.toNat < 256 := b.toNat_lt
  have hz0 : (0 : Int) < (t.size : Int) := by omega
  have hz1 : (1 : Int) ≤ (t.size : Int) := by omega
  have hz2 : 0 < t.size := by omega
  have hts : t.size ≤ 1048577 := by omega
  have HX2 : Hid (t.extract 1 t.size = ⟨r.toArray⟩) := HX
  clear hline HX hz ht hint
  go_enter Tryd.func42, Tryd.ntmps42
  go_wp2_with fail
  refine HC.out.mono ?_
  rintro e w1 ⟨rfl, r1, g1⟩
  have c2 := RowAt.cell r1 2
  have f2 := RowAt.frozen r1 2
  simp at c2
  have R1 : Hid (S4 V w1 rb s at2 0) := r1
  clear r1
  go_wp2_with fail
  rw [HX2.out]
  refine (HI.out w1).mono ?_
  rintro e w2 ⟨rfl, hw⟩
  have hw2 := hw.symm
  subst hw2
  clear hw HX2
  go_wp2_with (first | (go_at_call 29; refine (HP.out w1).mono ?_; rintro e w2 ⟨rfl, hw⟩; have hw2 := hw.symm; subst hw2; clear hw) | (go_at_call 30; refine (l1In_any iv _ _ w1).mono ?_; rintro e w2 ⟨rfl, hw⟩; have hw2 := hw.symm; subst hw2; clear hw))
  go_ret
  exact ⟨rfl, w1, R1.out, g1, rfl⟩

set_option maxHeartbeats 2000000 in
theorem item_array_no2 (deep : Int) (hdp : deep ≤ 4) (V : Value) (s : ByteArray) (at2 rb : Nat) (w : World) (b : UInt8) (r : List UInt8) (hl : r.length ≤ 1048576) (iv : Int) (ok : Bool) (hint : intI r = (iv, ok)) (hline : LineC V s at2 rb w ⟨(b :: r).toArray⟩) (hb : b.toNat = 42) (hok : ok = true) (hin : decide (0 ≤ iv ∧ iv ≤ 1000) = false) :
    Calls Tryd.prog 42 #[.pointer (some ⟨rb, 0, none⟩), .int .i64 deep] w fun e w' => e = .returned (.int .i64 0) ∧ ∃ w1, S4 V w1 rb s at2 0 ∧ w.grownBy w1 (some rb) ∧ w' = w1.setCell ⟨rb, 2, none⟩ (.int .i64 2) := by
  have e43 : ((b.toNat : Int) == 43) = false := by rw [hb]; rfl
  have e45 : ((b.toNat : Int) == 45) = false := by rw [hb]; rfl
  have e58 : ((b.toNat : Int) == 58) = false := by rw [hb]; rfl
  have e36 : ((b.toNat : Int) == 36) = false := by rw [hb]; rfl
  have e42 : ((b.toNat : Int) == 42) = true := by rw [hb]; rfl
  clear hb
  obtain ⟨t, ht, he, he2, h00, HX, hz⟩ := line_facts b r
  rw [← ht] at hline
  have HC : Hid (LineC V s at2 rb w t) := hline
  have HI : Hid (∀ w, Calls Tryd.prog 66 #[.string ⟨r.toArray⟩] w fun e w' => e = .returned (.tuple #[.int .i64 iv, .bool ok]) ∧ w' = w) := fun w => by
    have := l1Int_any ⟨r.toArray⟩ w (by rw [size_mk]; exact hl)
    rw [show (⟨r.toArray⟩ : ByteArray).data.toList = r from rfl, hint] at this
    exact this
  have HP : Hid (∀ w, Calls Tryd.prog 29 #[.string ⟨r.toArray⟩] w fun e w' => e = .returned (.bool (plainB ⟨r.toArray⟩)) ∧ w' = w) := fun w => Rp.plain_any ⟨r.toArray⟩ w (by rw [size_mk]; omega)
  have hb256 : b.toNat < 256 := b.toNat_lt
  have hz0 : (0 : Int) < (t.size : Int) := by omega
  have hz1 : (1 : Int) ≤ (t.size : Int) := by omega
  have hz2 : 0 < t.size := by omega
  have hts : t.size ≤ 1048577 := by omega
  have HX2 : Hid (t.extract 1 t.size = ⟨r.toArray⟩) := HX
  clear hline HX hz ht hint
  go_enter Tryd.func42, Tryd.ntmps42
  go_wp2_with fail
  refine HC.out.mono ?_
  rintro e w1 ⟨rfl, r1, g1⟩
  have c2 := RowAt.cell r1 2
  have f2 := RowAt.frozen r1 2
  simp at c2
  have R1 : Hid (S4 V w1 rb s at2 0) := r1
  clear r1
  go_wp2_with fail
  rw [HX2.out]
  refine (HI.out w1).mono ?_
  rintro e w2 ⟨rfl, hw⟩
  have hw2 := hw.symm
  subst hw2
  clear hw HX2
  go_wp2_with (first | (go_at_call 29; refine (HP.out w1).mono ?_; rintro e w2 ⟨rfl, hw⟩; have hw2 := hw.symm; subst hw2; clear hw) | (go_at_call 30; refine (l1In_any iv _ _ w1).mono ?_; rintro e w2 ⟨rfl, hw⟩; have hw2 := hw.symm; subst hw2; clear hw))
  go_ret
  exact ⟨rfl, w1, R1.out, g1, rfl⟩

set_option maxHeartbeats 2000000 in
theorem item_else (deep : Int) (hdp : deep ≤ 4) (V : Value) (s : ByteArray) (at2 rb : Nat) (w : World) (b : UInt8) (r : List UInt8) (hl : r.length ≤ 1048576) (iv : Int) (ok : Bool) (hint : intI r = (iv, ok)) (hline : LineC V s at2 rb w ⟨(b :: r).toArray⟩) (h1 : b.toNat ≠ 43) (h2 : b.toNat ≠ 45) (h3 : b.toNat ≠ 58) (h4 : b.toNat ≠ 36) (h5 : b.toNat ≠ 42)  :
    Calls Tryd.prog 42 #[.pointer (some ⟨rb, 0, none⟩), .int .i64 deep] w fun e w' => e = .returned (.int .i64 0) ∧ ∃ w1, S4 V w1 rb s at2 0 ∧ w.grownBy w1 (some rb) ∧ w' = w1.setCell ⟨rb, 2, none⟩ (.int .i64 2) := by
  have e43 : ((b.toNat : Int) == 43) = false := by simp; omega
  have e45 : ((b.toNat : Int) == 45) = false := by simp; omega
  have e58 : ((b.toNat : Int) == 58) = false := by simp; omega
  have e36 : ((b.toNat : Int) == 36) = false := by simp; omega
  have e42 : ((b.toNat : Int) == 42) = false := by simp; omega
  clear h1 h2 h3 h4 h5
  obtain ⟨t, ht, he, he2, h00, HX, hz⟩ := line_facts b r
  rw [← ht] at hline
  have HC : Hid (LineC V s at2 rb w t) := hline
  have HI : Hid (∀ w, Calls Tryd.prog 66 #[.string ⟨r.toArray⟩] w fun e w' => e = .returned (.tuple #[.int .i64 iv, .bool ok]) ∧ w' = w) := fun w => by
    have := l1Int_any ⟨r.toArray⟩ w (by rw [size_mk]; exact hl)
    rw [show (⟨r.toArray⟩ : ByteArray).data.toList = r from rfl, hint] at this
    exact this
  have HP : Hid (∀ w, Calls Tryd.prog 29 #[.string ⟨r.toArray⟩] w fun e w' => e = .returned (.bool (plainB ⟨r.toArray⟩)) ∧ w' = w) := fun w => Rp.plain_any ⟨r.toArray⟩ w (by rw [size_mk]; omega)
  have hb256 : b.toNat < 256 := b.toNat_lt
  have hz0 : (0 : Int) < (t.size : Int) := by omega
  have hz1 : (1 : Int) ≤ (t.size : Int) := by omega
  have hz2 : 0 < t.size := by omega
  have hts : t.size ≤ 1048577 := by omega
  have HX2 : Hid (t.extract 1 t.size = ⟨r.toArray⟩) := HX
  clear hline HX hz ht hint
  go_enter Tryd.func42, Tryd.ntmps42
  go_wp2_with fail
  refine HC.out.mono ?_
  rintro e w1 ⟨rfl, r1, g1⟩
  have c2 := RowAt.cell r1 2
  have f2 := RowAt.frozen r1 2
  simp at c2
  have R1 : Hid (S4 V w1 rb s at2 0) := r1
  clear r1
  go_wp2_with fail
  rw [HX2.out]
  refine (HI.out w1).mono ?_
  rintro e w2 ⟨rfl, hw⟩
  have hw2 := hw.symm
  subst hw2
  clear hw HX2
  go_wp2_with (first | (go_at_call 29; refine (HP.out w1).mono ?_; rintro e w2 ⟨rfl, hw⟩; have hw2 := hw.symm; subst hw2; clear hw) | (go_at_call 30; refine (l1In_any iv _ _ w1).mono ?_; rintro e w2 ⟨rfl, hw⟩; have hw2 := hw.symm; subst hw2; clear hw))
  go_ret
  exact ⟨rfl, w1, R1.out, g1, rfl⟩

set_option maxHeartbeats 2000000 in
theorem item_bulk (deep : Int) (hdp : deep ≤ 4) (V : Value) (s : ByteArray) (at2 rb : Nat) (w : World) (b : UInt8) (r : List UInt8) (hl : r.length ≤ 1048576) (iv : Int) (ok : Bool) (hint : intI r = (iv, ok)) (hline : LineC V s at2 rb w ⟨(b :: r).toArray⟩) (hb : b.toNat = 36) (hok : ok = true) (hiv : (iv == -1) = false) (hin : decide (0 ≤ iv ∧ iv ≤ 200) = true) (z : Int) (G : ByteArray → World → Prop) (F : World → Prop)
    (hbulk : ∀ w1, S4 V w1 rb s at2 0 → w.grownBy w1 (some rb) → Calls Tryd.prog 68 #[.pointer (some ⟨rb, 0, none⟩), .int .i64 iv] w1 fun e w' => ∃ tt, e = .returned (.string tt) ∧ G tt w')
    (hadd : ∀ tt w2, G tt w2 → Calls Tryd.prog 67 #[.pointer (some ⟨rb, 0, none⟩), .agg #[.int .i64 4, .int .i64 0, .string tt, .slice none 0 0]] w2 fun e w' => e = .returned (.int .i64 z) ∧ F w') :
    Calls Tryd.prog 42 #[.pointer (some ⟨rb, 0, none⟩), .int .i64 deep] w fun e w' => e = .returned (.int .i64 z) ∧ F w' := by
  have HB : Hid (∀ w1, S4 V w1 rb s at2 0 → w.grownBy w1 (some rb) → Calls Tryd.prog 68 #[.pointer (some ⟨rb, 0, none⟩), .int .i64 iv] w1 fun e w' => ∃ tt, e = .returned (.string tt) ∧ G tt w') := hbulk
  have HA : Hid (∀ tt w2, G tt w2 → Calls Tryd.prog 67 #[.pointer (some ⟨rb, 0, none⟩), .agg #[.int .i64 4, .int .i64 0, .string tt, .slice none 0 0]] w2 fun e w' => e = .returned (.int .i64 z) ∧ F w') := hadd
  have e43 : ((b.toNat : Int) == 43) = false := by rw [hb]; rfl
  have e45 : ((b.toNat : Int) == 45) = false := by rw [hb]; rfl
  have e58 : ((b.toNat : Int) == 58) = false := by rw [hb]; rfl
  have e36 : ((b.toNat : Int) == 36) = true := by rw [hb]; rfl
  have e42 : ((b.toNat : Int) == 42) = false := by rw [hb]; rfl
  clear hb
  clear hadd hbulk
  obtain ⟨t, ht, he, he2, h00, HX, hz⟩ := line_facts b r
  rw [← ht] at hline
  have HC : Hid (LineC V s at2 rb w t) := hline
  have HI : Hid (∀ w, Calls Tryd.prog 66 #[.string ⟨r.toArray⟩] w fun e w' => e = .returned (.tuple #[.int .i64 iv, .bool ok]) ∧ w' = w) := fun w => by
    have := l1Int_any ⟨r.toArray⟩ w (by rw [size_mk]; exact hl)
    rw [show (⟨r.toArray⟩ : ByteArray).data.toList = r from rfl, hint] at this
    exact this
  have HP : Hid (∀ w, Calls Tryd.prog 29 #[.string ⟨r.toArray⟩] w fun e w' => e = .returned (.bool (plainB ⟨r.toArray⟩)) ∧ w' = w) := fun w => Rp.plain_any ⟨r.toArray⟩ w (by rw [size_mk]; omega)
  have hb256 : b.toNat < 256 := b.toNat_lt
  have hz0 : (0 : Int) < (t.size : Int) := by omega
  have hz1 : (1 : Int) ≤ (t.size : Int) := by omega
  have hz2 : 0 < t.size := by omega
  have hts : t.size ≤ 1048577 := by omega
  have HX2 : Hid (t.extract 1 t.size = ⟨r.toArray⟩) := HX
  clear hline HX hz ht hint
  go_enter Tryd.func42, Tryd.ntmps42
  go_wp2_with fail
  refine HC.out.mono ?_
  rintro e w1 ⟨rfl, r1, g1⟩
  have c2 := RowAt.cell r1 2
  have f2 := RowAt.frozen r1 2
  simp at c2
  have R1 : Hid (S4 V w1 rb s at2 0) := r1
  clear r1
  go_wp2_with fail
  rw [HX2.out]
  refine (HI.out w1).mono ?_
  rintro e w2 ⟨rfl, hw⟩
  have hw2 := hw.symm
  subst hw2
  clear hw HX2
  go_wp2_with (first | (go_at_call 29; refine (HP.out w1).mono ?_; rintro e w2 ⟨rfl, hw⟩; have hw2 := hw.symm; subst hw2; clear hw) | (go_at_call 30; refine (l1In_any iv _ _ w1).mono ?_; rintro e w2 ⟨rfl, hw⟩; have hw2 := hw.symm; subst hw2; clear hw))
  refine (HB.out w1 R1.out g1).mono ?_
  rintro e w2 ⟨tt, rfl, hG⟩
  go_wp2_with fail
  refine (HA.out tt w2 hG).mono ?_
  rintro e w3 ⟨rfl, hF⟩
  go_wp2
  go_ret
  exact ⟨rfl, hF⟩
end Go.Proofs.YtcgeafdakaeicaaDoor
