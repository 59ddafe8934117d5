/- The small functions of the script's escapes: isPlain, l10Hex, l10Digit, escape, hexByte, firstEscape. -/
import Derived.Test.YtdabpbnmfccogaaMath
import Derived.Test.YtdabpbnmfccogaaShelf
import Derived.WalkKit
import Derived.WalkSpells
import Derived.WalkLawsBesides
import Derived.Deep.QuietTactic
import Derived.BigQuiet
import Derived.Below
import Derived.Laws.IdiomStrings
import Derived.Maps.AppendAt
namespace Go.Proofs.Ytdabpbnmfccogaa
open Go.RowKit

theorem ret_bool {a b : Bool} (h : a = b) : Ending.returned (.bool a) = .returned (.bool b) := by rw [h]
theorem ret_str {a b : ByteArray} (h : a = b) : Ending.returned (.string a) = .returned (.string b) := by rw [h]
theorem ret_int {k : IntKind} {a b : Int} (h : a = b) : Ending.returned (.int k a) = .returned (.int k b) := by rw [h]

set_option maxHeartbeats 400000 in
theorem isPlain_any (b : Nat) (w : World) (hb : b < 256) :
    Calls Try.prog 22 #[.int .u8 b] w fun e w' => e = .returned (.bool (plainB b)) ∧ w' = w := by
  by_cases h1 : 32 ≤ b
  · have hd : decide ((32 : Int) ≤ (b : Int)) = true := by simp; omega
    go_enter Try.func22, Try.ntmps22
    go_wp2
    go_ret
    exact ⟨ret_bool (by unfold plainB; rw [Bool.eq_iff_iff]; simp; omega), rfl⟩
  · have hd : decide ((32 : Int) ≤ (b : Int)) = false := by simp; omega
    go_enter Try.func22, Try.ntmps22
    go_wp2
    go_ret
    exact ⟨ret_bool (by unfold plainB; symm; simp; omega), rfl⟩

/-- The table as the program has it. -/
abbrev hexS : ByteArray := { data := #[48, 49, 50, 51, 52, 53, 54, 55, 56, 57, 97, 98, 99, 100, 101, 102] }
theorem hexS_get (k : Nat) (h : k < hexS.size) : hexS[k]'h = hexC k := by
  have : ∀ k : Fin 16, hexS[k.val]'k.isLt = hexC k.val := by decide
  exact this ⟨k, h⟩

theorem dig_found {c k : Nat} (hk : k < 16) (h : (hexC k).toNat = c) : digN c = k := by rw [← h]; exact hexC_lt k hk
theorem dig_none {c : Nat} (hc : c < 256) (h : ∀ j, j < 16 → (hexC j).toNat ≠ c) : digN c = -1 := by
  have : ∀ c : Fin 256, (∀ j : Fin 16, (hexC j.val).toNat ≠ c.val) → digN c.val = -1 := by decide +kernel
  exact this ⟨c, hc⟩ fun j => h j.val j.isLt
theorem dig_index {c : Nat} (hc : c < 256) : Lib.indexByte hexS.data.toList c.toUInt8 = digN c := by
  have : ∀ c : Fin 256, Lib.indexByte hexS.data.toList c.val.toUInt8 = digN c.val := by decide +kernel
  exact this ⟨c, hc⟩

set_option maxHeartbeats 400000 in
theorem digit_any (c : Nat) (w : World) (hc : c < 256) :
    Calls Try.prog 21 #[.int .u8 c] w fun e w' => e = .returned (.int .i64 (digN c)) ∧ w' = w := by
  go_enter Try.func21, Try.ntmps21
  go_wp2
  go_loop [3] (fun i => ∃ k : Nat, k ≤ 16 ∧ i = .int .i64 k ∧ ∀ j, j < k → (hexC j).toNat ≠ c) (fun i => 16 - (intOf i).toNat)
  case atStart => exact ⟨0, by omega, rfl, fun j hj => absurd hj (by omega)⟩
  case round =>
    obtain ⟨k, hk, rfl, hall⟩ := hrel
    by_cases hlt : k < 16
    · by_cases he : (hexC k).toNat = c
      · have HD : Hid (digN c = k) := dig_found hlt he
        have he2 : ((hexS[k]'hlt).toNat : Int) = (c : Int) := by rw [hexS_get k hlt, he]
        have he3 : (((hexS[k]'hlt).toNat : Int) == (c : Int)) = true := by rw [he2]; simp
        clear he he2
        go_wp2
        go_ret
        exact ⟨ret_int HD.out.symm, rfl⟩
      · have he3 : (((hexS[k]'hlt).toNat : Int) == (c : Int)) = false := by rw [hexS_get k hlt]; simp; omega
        go_wp2
        go_round
        case rel => exact ⟨k + 1, by omega, by go_num, fun j hj => by
          by_cases hjk : j = k
          · subst hjk; exact he
          · exact hall j (by omega)⟩
        case measure => simp [intOf]; omega
    · obtain rfl : k = 16 := by omega
      have HD : Hid (digN c = -1) := dig_none hc hall
      go_wp2
      go_ret
      exact ⟨ret_int HD.out.symm, rfl⟩

theorem conv_one (w : World) (x : UInt8) :
    (convert 22 9 (.slice (some ⟨w.heap.size, 0, none⟩) 1 1)).run Try.prog (w.alloc (.cells #[.int .u8 x.toNat] 5)) = .ok (.string ⟨[x].toArray⟩) (w.alloc (.cells #[.int .u8 x.toNat] 5)) := by
  refine run_convert_bytes_back _ 22 9 5 ⟨w.heap.size, 0, none⟩ 1 [x] Try.underlying22 Try.underlying5 Try.underlying9 ?_
  intro j hj
  obtain rfl : j = 0 := by simpa using hj
  simp only [List.getElem_cons_zero]
  exact cell_one_new w (.int .u8 x.toNat) 5 0 _ rfl

set_option maxHeartbeats 400000 in
theorem hex_any (n : Nat) (w : World) (hn : n < 16) :
    Calls Try.prog 18 #[.int .u8 n] w fun e w' => e = .returned (.string ⟨[hexC n].toArray⟩) ∧ Below w.heap.size w w' := by
  have hcv := conv_one w (hexS[n]'hn)
  go_enter Try.func18, Try.ntmps18
  go_wp2
  go_ret
  exact ⟨ret_str (by rw [← hexS_get n hn]), (Below.refl _ _).alloc (Nat.le_refl _) _⟩

theorem or_hex (x y : Int) (h0 : 0 ≤ x) (h1 : x < 16) (h2 : 0 ≤ y) (h3 : y < 16) : bits BinOp.or IntKind.i64 (x * 16) y % 256 = 16 * x + y := by
  have : ∀ a b : Fin 16, bits BinOp.or IntKind.i64 (((a.val : Nat) : Int) * 16) ((b.val : Nat) : Int) % 256 = 16 * ((a.val : Nat) : Int) + ((b.val : Nat) : Int) := by decide +kernel
  obtain ⟨a, rfl⟩ := Int.eq_ofNat_of_zero_le h0
  obtain ⟨b, rfl⟩ := Int.eq_ofNat_of_zero_le h2
  exact this ⟨a, by omega⟩ ⟨b, by omega⟩

theorem ret_tup {a b : Int} (h : a = b) : Ending.returned (.tuple #[.int .u8 a, .int .i64 4]) = .returned (.tuple #[.int .u8 b, .int .i64 4]) := by rw [h]

set_option maxHeartbeats 400000 in
theorem hexByte_any (a b : Nat) (w : World) (ha : a < 256) (hb : b < 256) :
    Calls Try.prog 24 #[.int .u8 a, .int .u8 b] w fun e w' => e = .returned (if digN a < 0 ∨ digN b < 0 then .tuple #[.int .u8 0, .int .i64 0] else .tuple #[.int .u8 (16 * digN a + digN b), .int .i64 4]) ∧ w' = w := by
  have e1 : Lib.indexByte hexS.data.toList (a : Int).toNat.toUInt8 = digN a := dig_index ha
  have e2 : Lib.indexByte hexS.data.toList (b : Int).toNat.toUInt8 = digN b := dig_index hb
  have l1 := digN_lt a
  have l2 := digN_lt b
  have c1 := Try.strings_IndexByte hexS (a : Int)
  have c2 := Try.strings_IndexByte hexS (b : Int)
  rw [e1] at c1
  rw [e2] at c2
  clear e1 e2
  generalize digN a = x at *
  generalize digN b = y at *
  by_cases hx : x < 0
  · rw [if_pos (.inl hx)]
    go_enter Try.func24, Try.ntmps24
    go_wp2_with fail
    refine (c1 _).mono ?_
    rintro e w1 ⟨rfl, rfl⟩
    go_wp2_with fail
    refine (c2 _).mono ?_
    rintro e w2 ⟨rfl, rfl⟩
    go_wp2
    go_ret2
    exact ⟨rfl, rfl⟩
  · by_cases hy : y < 0
    · rw [if_pos (.inr hy)]
      go_enter Try.func24, Try.ntmps24
      go_wp2_with fail
      refine (c1 _).mono ?_
      rintro e w1 ⟨rfl, rfl⟩
      go_wp2_with fail
      refine (c2 _).mono ?_
      rintro e w2 ⟨rfl, rfl⟩
      go_wp2
      go_ret2
      exact ⟨rfl, rfl⟩
    · rw [if_neg (by omega)]
      go_enter Try.func24, Try.ntmps24
      go_wp2_with fail
      refine (c1 _).mono ?_
      rintro e w1 ⟨rfl, rfl⟩
      go_wp2_with fail
      refine (c2 _).mono ?_
      rintro e w2 ⟨rfl, rfl⟩
      have hor : bits BinOp.or IntKind.i64 (x * 16) y % 256 = 16 * x + y := or_hex x y (by omega) (by omega) (by omega) (by omega)
      have HO : Hid (bits BinOp.or IntKind.i64 (x * 16) y % 256 = 16 * x + y) := hor
      clear hor
      go_wp2
      go_ret2
      exact ⟨ret_tup HO.out, rfl⟩

/-- The row g holds the cells C. -/
def RowAt (w : World) (g : Nat) (T : TypeId) (C : Array Value) : Prop := w.heap[g]? = some (.cells C T (0, 0))

theorem RowAt.cell {w : World} {g : Nat} {T : TypeId} {C : Array Value} (h : RowAt w g T C) (j : Nat) : w.cell? ⟨g, j, none⟩ = C[j]? := Lib.cell_of_heap h j
theorem RowAt.frozen {w : World} {g : Nat} {T : TypeId} {C : Array Value} (h : RowAt w g T C) (j : Nat) : w.frozen? ⟨g, j, none⟩ = false := Lib.frozen_of_heap h j
theorem RowAt.set {w : World} {g : Nat} {T : TypeId} {C : Array Value} (h : RowAt w g T C) (j : Nat) (v : Value) : RowAt (w.setCell ⟨g, j, none⟩ v) g T (C.setIfInBounds j v) := by
  unfold RowAt at *
  simp [World.setCell, Array.getElem?_modify, h]
theorem RowAt.lt {w : World} {g : Nat} {T : TypeId} {C : Array Value} (h : RowAt w g T C) : g < w.heap.size := (Array.getElem?_eq_some_iff.1 h).1
theorem RowAt.new (w : World) (T : TypeId) (C : Array Value) : RowAt (w.alloc (.cells C T)) w.heap.size T C := by
  show (w.heap.push (.cells C T (0, 0)))[w.heap.size]? = _
  simp

/-- A new row of bytes. -/
theorem own_new (w : World) (xs : List UInt8) (hx : xs.length ≤ maxLen) : (w.alloc (.cells (Lib.byteCells xs).toArray 5)).ownsRow w.heap.size 5 1 (.slice (some ⟨w.heap.size, 0, none⟩) xs.length xs.length) xs.length (Lib.byteCells xs) := by
  refine ⟨by simp [Lib.byteCells], .inr ⟨w.heap.size, xs.length, (Lib.byteCells xs).toArray, rfl, Nat.le_refl _, RowAt.new w 5 _, Nat.le_refl _, hx, by simp [Lib.byteCells], ?_⟩⟩
  show (Lib.byteCells xs).toArray.toList.take (xs.length * 1) = _
  rw [List.take_of_length_le (by simp [Lib.byteCells])]

/-- What escape gives back: a row of its own. -/
def EscEnd (b : Nat) (w : World) (e : Ending) (w' : World) : Prop :=
  ∃ A c, e = .returned (.slice (some ⟨A, 0, none⟩) (esc1 (UInt8.ofNat b)).length c) ∧ w'.ownsRow w.heap.size 5 1 (.slice (some ⟨A, 0, none⟩) (esc1 (UInt8.ofNat b)).length c) (esc1 (UInt8.ofNat b)).length (Lib.byteCells (esc1 (UInt8.ofNat b))) ∧ Below w.heap.size w w'

theorem esc_end {b : Nat} {w : World} (xs : List UInt8) (h : esc1 (UInt8.ofNat b) = xs) (hl : xs.length ≤ 4) : EscEnd b w (.returned (.slice (some ⟨w.heap.size, 0, none⟩) xs.length xs.length)) (w.alloc (.cells (Lib.byteCells xs).toArray 5)) := by
  refine ⟨w.heap.size, xs.length, by rw [h], ?_, (Below.refl _ _).alloc (Nat.le_refl _) _⟩
  rw [h]
  exact own_new w xs (by unfold maxLen; omega)

theorem esc_end_drew {b : Nat} {w w' : World} {e : Ending} (h : EscEnd b w e w') : EscEnd b w e w'.drew := by
  obtain ⟨A, c, h1, h2, h3⟩ := h
  refine ⟨A, c, h1, h2.kept (row := none) ⟨rfl, rfl, rfl, Nat.le_refl _, fun _ _ _ => rfl⟩ (.inr fun e => by cases e), ?_⟩
  exact h3.trans ⟨rfl, rfl, rfl, Nat.le_refl _, fun _ _ => rfl⟩

theorem div16 {b : Nat} (h : b < 256) : b / 16 < hexS.size := by show _ < 16; omega
theorem mod16 (b : Nat) : b % 16 < hexS.size := by show _ < 16; omega

theorem nat_of {b : Nat} (hb : b < 256) : (UInt8.ofNat b).toNat = b := by rw [UInt8.toNat_ofNat']; omega

set_option maxHeartbeats 400000 in
theorem escape_any (b : Nat) (w : World) (hb : b < 256) : Calls Try.prog 16 #[.int .u8 b] w (EscEnd b w) := by
  have hn := nat_of hb
  by_cases h92 : b = 92
  · subst h92
    go_enter Try.func16, Try.ntmps16
    go_wp2
    go_ret
    exact esc_end [92, 92] (by decide) (by decide)
  by_cases h13 : b = 13
  · subst h13
    go_enter Try.func16, Try.ntmps16
    go_wp2
    go_ret
    exact esc_end [92, 114] (by decide) (by decide)
  by_cases h10 : b = 10
  · subst h10
    go_enter Try.func16, Try.ntmps16
    go_wp2
    go_ret
    exact esc_end [92, 110] (by decide) (by decide)
  by_cases h : b < 32 ∨ 126 < b
  · have hp : plainB b = false := by unfold plainB; simp; omega
    have i1 : 0 ≤ (b : Int) / 16 := by omega
    have i2 : (b : Int) / 16 < 16 := by omega
    have i3 : ((b : Int) / 16).toNat = b / 16 := by omega
    have i4 : 0 ≤ (b : Int) % 16 := by omega
    have i5 : (b : Int) % 16 < 16 := by omega
    have i6 : ((b : Int) % 16).toNat = b % 16 := by omega
    have HE : Hid (esc1 (UInt8.ofNat b) = [92, 120, hexC (b / 16), hexC (b % 16)]) := by
      unfold Hid esc1
      rw [hn, if_neg h13, if_neg h10, if_neg h92, if_pos h]
    have HX : Hid (hexS[b / 16]'(div16 hb) = hexC (b / 16)) := hexS_get _ _
    have HY : Hid (hexS[b % 16]'(mod16 b) = hexC (b % 16)) := hexS_get _ _
    clear hn
    go_enter Try.func16, Try.ntmps16
    go_wp2_with (go_at_call 22; refine (isPlain_any b _ hb).mono ?_; rintro e w1 ⟨rfl, rfl⟩; rw [hp])
    go_region
    go_wp2
    go_ret
    refine esc_end_drew ?_
    have := esc_end (w := w1) [92, 120, hexC (b / 16), hexC (b % 16)] HE.out (by simp)
    rw [← HX.out, ← HY.out] at this
    exact this
  · have hp : plainB b = true := by unfold plainB; simp; omega
    have HE : Hid (esc1 (UInt8.ofNat b) = [UInt8.ofNat b]) := by
      unfold Hid esc1
      rw [hn, if_neg h13, if_neg h10, if_neg h92, if_neg h]
    have HN : Hid ((UInt8.ofNat b).toNat = b) := hn
    clear hn
    go_enter Try.func16, Try.ntmps16
    go_wp2_with (go_at_call 22; refine (isPlain_any b _ hb).mono ?_; rintro e w1 ⟨rfl, rfl⟩; rw [hp])
    go_ret
    have := esc_end (w := w1) [UInt8.ofNat b] HE.out (by simp)
    rw [show Lib.byteCells [UInt8.ofNat b] = [.int .u8 ((UInt8.ofNat b).toNat : Int)] from rfl, HN.out] at this
    exact this

theorem has2 {s : ByteArray} {a b : UInt8} : Lib.hasPrefix s.data.toList [a, b] = true ↔ ∃ r, s.data.toList = a :: b :: r := by
  unfold Lib.hasPrefix
  rw [List.isPrefixOf_iff_prefix]
  constructor
  · rintro ⟨r, h⟩; exact ⟨r, h.symm⟩
  · rintro ⟨r, h⟩; exact ⟨r, h.symm⟩

/-- firstEscape's answer. -/
def FstEnd (l : List UInt8) (w : World) (e : Ending) (w' : World) : Prop :=
  e = .returned (.tuple #[.int .u8 (fst l).1.toNat, .int .i64 (fst l).2]) ∧ ∃ k, w' = w.drewN k

theorem fst_end {l : List UInt8} {w : World} {x n : Int} {b : UInt8} {k : Nat} (h : fst l = (b, k)) (hx : x = b.toNat) (hn : n = k) (q : Nat) : FstEnd l w (.returned (.tuple #[.int .u8 x, .int .i64 n])) (w.drewN q) := by
  refine ⟨by rw [h, hx, hn], q, rfl⟩

theorem toNat_of_hex {x y : Int} (h0 : 0 ≤ x) (h1 : x < 16) (h2 : 0 ≤ y) (h3 : y < 16) : (16 * x + y : Int) = ((UInt8.ofNat (16 * x + y).toNat).toNat : Int) := by
  rw [UInt8.toNat_ofNat']
  omega

set_option maxHeartbeats 1000000 in
theorem first_plain (s : ByteArray) (w : World) (hs : 0 < s.size) (h92 : (s[0]'hs).toNat ≠ 92) : Calls Try.prog 17 #[.string s] w (FstEnd s.data.toList w) := by
  have HF : Hid (fst s.data.toList = (s[0]'hs, 1)) := by
    unfold Hid
    have hl : 0 < s.data.toList.length := by rw [← Lib.size_eq]; exact hs
    rw [show s.data.toList = s.data.toList[0] :: s.data.toList.drop 1 from by rw [← List.drop_eq_getElem_cons hl]; rfl]
    show (if (s[0]'hs).toNat ≠ 92 then _ else _) = _
    rw [if_pos h92]
    rfl
  have d1 : (((s[0]'hs).toNat : Int) == 92) = false := by simp; omega
  go_enter Try.func17, Try.ntmps17
  go_wp2
  go_ret2
  exact fst_end (q := 0) HF.out rfl rfl 

set_option maxHeartbeats 1000000 in
theorem first_a (s : ByteArray) (w : World) (hs : 0 < s.size) (h92 : (s[0]'hs).toNat = 92) (p1 : Lib.hasPrefix s.data.toList [92, 92] = true) (hf : fst s.data.toList = (92, 2)) : Calls Try.prog 17 #[.string s] w (FstEnd s.data.toList w) := by
  have d1 : (((s[0]'hs).toNat : Int) == 92) = true := by simp; omega
  have HF : Hid (fst s.data.toList = (92, 2)) := hf
  have c1 := Try.strings_HasPrefix s { data := #[92, 92] }
  simp only [p1] at c1
  clear hf p1
  go_enter Try.func17, Try.ntmps17
  go_wp2_with fail
  refine (c1 _).mono ?_
  rintro e w1 ⟨rfl, rfl⟩
  go_wp2
  go_ret2
  exact fst_end (q := 0) HF.out rfl rfl

set_option maxHeartbeats 1000000 in
theorem first_b (s : ByteArray) (w : World) (hs : 0 < s.size) (h92 : (s[0]'hs).toNat = 92) (p1 : Lib.hasPrefix s.data.toList [92, 92] = false) (p2 : Lib.hasPrefix s.data.toList [92, 114] = true) (hf : fst s.data.toList = (13, 2)) : Calls Try.prog 17 #[.string s] w (FstEnd s.data.toList w) := by
  have d1 : (((s[0]'hs).toNat : Int) == 92) = true := by simp; omega
  have HF : Hid (fst s.data.toList = (13, 2)) := hf
  have c1 := Try.strings_HasPrefix s { data := #[92, 92] }
  simp only [p1] at c1
  have c2 := Try.strings_HasPrefix s { data := #[92, 114] }
  simp only [p2] at c2
  clear hf p1 p2
  go_enter Try.func17, Try.ntmps17
  go_wp2_with fail
  refine (c1 _).mono ?_
  rintro e w1 ⟨rfl, rfl⟩
  go_wp2_with fail
  refine (c2 _).mono ?_
  rintro e w2 ⟨rfl, rfl⟩
  go_wp2
  go_ret2
  exact fst_end (q := 0) HF.out rfl rfl

set_option maxHeartbeats 1000000 in
theorem first_c (s : ByteArray) (w : World) (hs : 0 < s.size) (h92 : (s[0]'hs).toNat = 92) (p1 : Lib.hasPrefix s.data.toList [92, 92] = false) (p2 : Lib.hasPrefix s.data.toList [92, 114] = false) (p3 : Lib.hasPrefix s.data.toList [92, 110] = true) (hf : fst s.data.toList = (10, 2)) : Calls Try.prog 17 #[.string s] w (FstEnd s.data.toList w) := by
  have d1 : (((s[0]'hs).toNat : Int) == 92) = true := by simp; omega
  have HF : Hid (fst s.data.toList = (10, 2)) := hf
  have c1 := Try.strings_HasPrefix s { data := #[92, 92] }
  simp only [p1] at c1
  have c2 := Try.strings_HasPrefix s { data := #[92, 114] }
  simp only [p2] at c2
  have c3 := Try.strings_HasPrefix s { data := #[92, 110] }
  simp only [p3] at c3
  clear hf p1 p2 p3
  go_enter Try.func17, Try.ntmps17
  go_wp2_with fail
  refine (c1 _).mono ?_
  rintro e w1 ⟨rfl, rfl⟩
  go_wp2_with fail
  refine (c2 _).mono ?_
  rintro e w2 ⟨rfl, rfl⟩
  go_wp2_with fail
  refine (c3 _).mono ?_
  rintro e w3 ⟨rfl, rfl⟩
  go_wp2
  go_ret2
  exact fst_end (q := 0) HF.out rfl rfl

set_option maxHeartbeats 1000000 in
theorem first_d (s : ByteArray) (w : World) (hs : 0 < s.size) (h92 : (s[0]'hs).toNat = 92) (p1 : Lib.hasPrefix s.data.toList [92, 92] = false) (p2 : Lib.hasPrefix s.data.toList [92, 114] = false) (p3 : Lib.hasPrefix s.data.toList [92, 110] = false) (p4 : Lib.hasPrefix s.data.toList [92, 120] = false) (hf : fst s.data.toList = (0, 0)) : Calls Try.prog 17 #[.string s] w (FstEnd s.data.toList w) := by
  have d1 : (((s[0]'hs).toNat : Int) == 92) = true := by simp; omega
  have HF : Hid (fst s.data.toList = (0, 0)) := hf
  have c1 := Try.strings_HasPrefix s { data := #[92, 92] }
  simp only [p1] at c1
  have c2 := Try.strings_HasPrefix s { data := #[92, 114] }
  simp only [p2] at c2
  have c3 := Try.strings_HasPrefix s { data := #[92, 110] }
  simp only [p3] at c3
  have c4 := Try.strings_HasPrefix s { data := #[92, 120] }
  simp only [p4] at c4
  clear hf p1 p2 p3 p4
  go_enter Try.func17, Try.ntmps17
  go_wp2_with fail
  refine (c1 _).mono ?_
  rintro e w1 ⟨rfl, rfl⟩
  go_wp2_with fail
  refine (c2 _).mono ?_
  rintro e w2 ⟨rfl, rfl⟩
  go_wp2_with fail
  refine (c3 _).mono ?_
  rintro e w3 ⟨rfl, rfl⟩
  go_wp2_with fail
  refine (c4 _).mono ?_
  rintro e w4 ⟨rfl, rfl⟩
  go_wp2
  go_ret2
  exact fst_end (q := 0) HF.out rfl rfl

set_option maxHeartbeats 1000000 in
theorem first_e (s : ByteArray) (w : World) (hs : 0 < s.size) (h92 : (s[0]'hs).toNat = 92) (p1 : Lib.hasPrefix s.data.toList [92, 92] = false) (p2 : Lib.hasPrefix s.data.toList [92, 114] = false) (p3 : Lib.hasPrefix s.data.toList [92, 110] = false) (p4 : Lib.hasPrefix s.data.toList [92, 120] = true) (h4 : s.size < 4) (hf : fst s.data.toList = (0, 0)) : Calls Try.prog 17 #[.string s] w (FstEnd s.data.toList w) := by
  have d1 : (((s[0]'hs).toNat : Int) == 92) = true := by simp; omega
  have HF : Hid (fst s.data.toList = (0, 0)) := hf
  have c1 := Try.strings_HasPrefix s { data := #[92, 92] }
  simp only [p1] at c1
  have c2 := Try.strings_HasPrefix s { data := #[92, 114] }
  simp only [p2] at c2
  have c3 := Try.strings_HasPrefix s { data := #[92, 110] }
  simp only [p3] at c3
  have c4 := Try.strings_HasPrefix s { data := #[92, 120] }
  simp only [p4] at c4
  clear hf p1 p2 p3 p4
  go_enter Try.func17, Try.ntmps17
  go_wp2_with fail
  refine (c1 _).mono ?_
  rintro e w1 ⟨rfl, rfl⟩
  go_wp2_with fail
  refine (c2 _).mono ?_
  rintro e w2 ⟨rfl, rfl⟩
  go_wp2_with fail
  refine (c3 _).mono ?_
  rintro e w3 ⟨rfl, rfl⟩
  go_wp2_with fail
  refine (c4 _).mono ?_
  rintro e w4 ⟨rfl, rfl⟩
  go_wp2
  go_ret2
  exact fst_end (q := 0) HF.out rfl rfl

set_option maxHeartbeats 1000000 in
theorem first_f (s : ByteArray) (w : World) (hs : 0 < s.size) (h92 : (s[0]'hs).toNat = 92) (p1 : Lib.hasPrefix s.data.toList [92, 92] = false) (p2 : Lib.hasPrefix s.data.toList [92, 114] = false) (p3 : Lib.hasPrefix s.data.toList [92, 110] = false) (p4 : Lib.hasPrefix s.data.toList [92, 120] = true) (h4 : 4 ≤ s.size) (hf : fst s.data.toList = (if digN (s[2]'(by omega)).toNat < 0 ∨ digN (s[3]'(by omega)).toNat < 0 then (0, 0) else (UInt8.ofNat (16 * digN (s[2]'(by omega)).toNat + digN (s[3]'(by omega)).toNat).toNat, 4))) : Calls Try.prog 17 #[.string s] w (FstEnd s.data.toList w) := by
  have d1 : (((s[0]'hs).toNat : Int) == 92) = true := by simp; omega
  have HF : Hid (fst s.data.toList = (if digN (s[2]'(by omega)).toNat < 0 ∨ digN (s[3]'(by omega)).toNat < 0 then (0, 0) else (UInt8.ofNat (16 * digN (s[2]'(by omega)).toNat + digN (s[3]'(by omega)).toNat).toNat, 4))) := hf
  have c1 := Try.strings_HasPrefix s { data := #[92, 92] }
  simp only [p1] at c1
  have c2 := Try.strings_HasPrefix s { data := #[92, 114] }
  simp only [p2] at c2
  have c3 := Try.strings_HasPrefix s { data := #[92, 110] }
  simp only [p3] at c3
  have c4 := Try.strings_HasPrefix s { data := #[92, 120] }
  simp only [p4] at c4
  clear hf p1 p2 p3 p4
  have hx := (s[2]'(by omega)).toNat_lt
  have hy := (s[3]'(by omega)).toNat_lt
  have cH : ∀ w, Calls Try.prog 24 #[.int .u8 (s[2]'(by omega)).toNat, .int .u8 (s[3]'(by omega)).toNat] w _ := fun w => hexByte_any (s[2]'(by omega)).toNat (s[3]'(by omega)).toNat w hx hy
  have i2 : (2 : Int) < (s.size : Int) := by omega
  have i3 : (3 : Int) < (s.size : Int) := by omega
  have hdx := digN_lt (s[2]'(by omega)).toNat
  have hdy := digN_lt (s[3]'(by omega)).toNat
  by_cases hd : digN (s[2]'(by omega)).toNat < 0 ∨ digN (s[3]'(by omega)).toNat < 0
  · rw [if_pos hd] at HF
    simp only [if_pos hd] at cH
    go_enter Try.func17, Try.ntmps17
    go_wp2_with fail
    refine (c1 _).mono ?_
    rintro e w1 ⟨rfl, rfl⟩
    go_wp2_with fail
    refine (c2 _).mono ?_
    rintro e w2 ⟨rfl, rfl⟩
    go_wp2_with fail
    refine (c3 _).mono ?_
    rintro e w3 ⟨rfl, rfl⟩
    go_wp2_with fail
    refine (c4 _).mono ?_
    rintro e w4 ⟨rfl, rfl⟩
    go_wp2_with fail
    go_quiet ((go_at_call 24; exact Calls.quiet_of_same (cH _)))
    go_wp2
    go_ret2
    exact fst_end HF.out rfl rfl _
  · rw [if_neg hd] at HF
    simp only [if_neg hd] at cH
    go_enter Try.func17, Try.ntmps17
    go_wp2_with fail
    refine (c1 _).mono ?_
    rintro e w1 ⟨rfl, rfl⟩
    go_wp2_with fail
    refine (c2 _).mono ?_
    rintro e w2 ⟨rfl, rfl⟩
    go_wp2_with fail
    refine (c3 _).mono ?_
    rintro e w3 ⟨rfl, rfl⟩
    go_wp2_with fail
    refine (c4 _).mono ?_
    rintro e w4 ⟨rfl, rfl⟩
    go_wp2_with fail
    go_quiet ((go_at_call 24; exact Calls.quiet_of_same (cH _)))
    go_wp2
    go_ret2
    exact fst_end HF.out (toNat_of_hex (by omega) hdx (by omega) hdy) rfl _
end Go.Proofs.Ytdabpbnmfccogaa
