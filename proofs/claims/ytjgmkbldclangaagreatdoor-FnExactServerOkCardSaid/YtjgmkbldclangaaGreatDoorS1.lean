/- Ranks and pairs that came in: how much they hold; their copies. -/
import Derived.Test.YtjgmkbldclangaaGreatDoorG8
import Derived.Test.YtjgmkbldclangaaGreatDoorG3
import Derived.Lib.SmallJoins
namespace Go.Proofs.YtjgmkbldclangaaGreatDoor
open Go.RowKit Go.Sort
open Kk (Rk rk0 rkV RanksIn OwnR PreR FitL)

set_option maxHeartbeats 1000000 in
theorem szRank_any (x : Rk) (left : Int) (w : World) (h0 : 0 ≤ left) (h1 : left ≤ 1048576) (hs : x.m.size ≤ 9223372036854775807) :
    Calls Tryz.prog 79 #[rkV x, .int .i64 left] w fun e w' => (∃ r : Int, e = .returned (.int .i64 r) ∧ (r < 0 ∨ r ≤ left)) ∧ Below w.heap.size w w' := by
  obtain ⟨xm, xs⟩ := x
  dsimp only at hs ⊢
  have b0 : Below w.heap.size w (w.alloc (.cells #[.string xm, .int .i64 xs] 134)) := (Below.refl _ w).alloc (Nat.le_refl _) _
  by_cases hneg : left - (xm.size : Int) < 0
  · go_enter Tryz.func79, Tryz.ntmps79
    go_wp2
    go_ret
    exact ⟨⟨-1, rfl, .inl (by omega)⟩, b0⟩
  · go_enter Tryz.func79, Tryz.ntmps79
    go_wp2
    go_ret
    exact ⟨⟨_, rfl, .inr (by omega)⟩, b0⟩

set_option maxHeartbeats 1000000 in
theorem toRank_any (x : Rk) (w : World) : Calls Tryz.prog 81 #[rkV x] w fun e w' => e = .returned (rkV x) ∧ Below w.heap.size w w' := by
  obtain ⟨xm, xs⟩ := x
  go_enter Tryz.func81, Tryz.ntmps81
  go_wp2
  exact bodyPost_ret (v := rkV ⟨xm, xs⟩) (by simp [results, Tryz.results81, go_sem]) rfl ⟨rfl, Go.Joins.below_alloc3 _ _ _ _⟩

set_option maxHeartbeats 1000000 in
theorem szPair_any (x y : ByteArray) (left : Int) (w : World) (h0 : 0 ≤ left) (h1 : left ≤ 1048576) (hx : x.size ≤ 9223372036854775807) (hy : y.size ≤ 9223372036854775807) :
    Calls Tryz.prog 78 #[.agg #[.string x, .string y], .int .i64 left] w fun e w' => (∃ r : Int, e = .returned (.int .i64 r) ∧ (r < 0 ∨ r ≤ left)) ∧ Below w.heap.size w w' := by
  have b0 : Below w.heap.size w (w.alloc (.cells #[.string x, .string y] 132)) := (Below.refl _ w).alloc (Nat.le_refl _) _
  by_cases hneg : left - (x.size : Int) < 0
  · go_enter Tryz.func78, Tryz.ntmps78
    go_wp2
    go_ret
    exact ⟨⟨-1, rfl, .inl (by omega)⟩, b0⟩
  · obtain ⟨l2, hl2⟩ : ∃ l2 : Int, left - (x.size : Int) = l2 := ⟨_, rfl⟩
    have g0 : decide (left - (x.size : Int) < 0) = false := decide_eq_false hneg
    by_cases hneg2 : left - (x.size : Int) - (y.size : Int) < 0
    · go_enter Tryz.func78, Tryz.ntmps78
      go_wp2
      go_ret
      exact ⟨⟨-1, rfl, .inl (by omega)⟩, b0⟩
    · go_enter Tryz.func78, Tryz.ntmps78
      go_wp2
      go_ret
      exact ⟨⟨_, rfl, .inr (by omega)⟩, b0⟩

set_option maxHeartbeats 1000000 in
theorem toPair_any (x y : ByteArray) (w : World) : Calls Tryz.prog 80 #[.agg #[.string x, .string y]] w fun e w' => e = .returned (.agg #[.string x, .string y]) ∧ Below w.heap.size w w' := by
  go_enter Tryz.func80, Tryz.ntmps80
  go_wp2
  exact bodyPost_ret (v := .agg #[.string x, .string y]) (by simp [results, Tryz.results80, go_sem]) rfl ⟨rfl, Go.Joins.below_alloc3 _ _ _ _⟩

/-- Pairs that came in. -/
structure PrsIn (w : World) (a : Option Addr) (b off n : Nat) (ps : List Pr) : Prop where
  len : ps.length = n
  addr : 0 < n → a = some ⟨b, off, none⟩
  low : 0 < n → b < w.heap.size
  c0 : ∀ i, i < n → w.cell? ⟨b, off + i * 2, none⟩ = some (.string (ps.getD i (bz, bz)).1)
  c1 : ∀ i, i < n → w.cell? ⟨b, off + i * 2 + 1, none⟩ = some (.string (ps.getD i (bz, bz)).2)
theorem PrsIn.below {w w' : World} {a : Option Addr} {b off n : Nat} {ps : List Pr} (h : PrsIn w a b off n ps) (hb : Below w.heap.size w w') : PrsIn w' a b off n ps :=
  ⟨h.len, h.addr, fun h0 => by have := h.low h0; have := hb.size; omega, fun i hi => (hb.cell (p := ⟨b, off + i * 2, none⟩) (h.low (by omega))).trans (h.c0 i hi), fun i hi => (hb.cell (p := ⟨b, off + i * 2 + 1, none⟩) (h.low (by omega))).trans (h.c1 i hi)⟩

set_option maxHeartbeats 1000000 in
theorem szRankS_any (a : Option Addr) (b off n c : Nat) (L : List Rk) (left : Int) (w : World) (h : RanksIn w a b off n L) (hn : n ≤ 9223372036854775807) (hs : ∀ i, i < n → (L.getD i rk0).m.size ≤ 9223372036854775807) (h0 : 0 ≤ left) (h1 : left ≤ 1048576) :
    Calls Tryz.prog 57 #[.slice a n c, .int .i64 left] w fun e w' => (∃ r : Int, e = .returned (.int .i64 r) ∧ (r < 0 ∨ (r ≤ left ∧ n ≤ 1048576))) ∧ Below w.heap.size w w' := by
  have H : Hid (RanksIn w a b off n L) := h
  have HS : Hid (∀ i, i < n → (L.getD i rk0).m.size ≤ 9223372036854775807) := hs
  clear h hs
  by_cases hneg : left - (n : Int) < 0
  · go_enter Tryz.func57, Tryz.ntmps57
    go_wp2
    go_ret
    exact ⟨⟨-1, rfl, .inl (by omega)⟩, Below.refl _ _⟩
  · go_enter Tryz.func57, Tryz.ntmps57
    go_wp2
    go_loopw [1, 5] (fun q i wr => ∃ (k : Nat) (l : Int), k ≤ n ∧ i = .int .i64 k ∧ q = .int .i64 l ∧ 0 ≤ l ∧ l ≤ left ∧ Below w.heap.size w wr) (fun _ i _ => n - (intOf i).toNat)
    case atStart => exact ⟨0, left - n, by omega, rfl, rfl, by omega, by omega, Below.refl _ _⟩
    case round =>
      obtain ⟨k, l, hk, rfl, rfl, hl0, hl1, bk⟩ := hrel
      have sk := bk.size
      by_cases hlt : k < n
      · have HW := H.out.below bk
        have hx := HW.cell k hlt
        obtain rfl := HW.addr (by omega)
        have hz := HS.out k hlt
        generalize L.getD k rk0 = x at *
        obtain ⟨m, s⟩ := x
        have c0 := hx.c0
        have c1 := hx.c1
        dsimp only at c0 c1
        clear hx
        have cS := szRank_any ⟨m, s⟩ l wr hl0 (by omega) hz
        clear HW
        go_wp2_with fail
        refine cS.mono ?_
        rintro e w1 ⟨⟨r, rfl, hr⟩, b1⟩
        clear cS
        have b2 := bk.trans (b1.mono sk)
        by_cases hr0 : r < 0
        · go_wp2
          go_ret
          exact ⟨⟨-1, rfl, .inl (by omega)⟩, b2⟩
        · have hr1 : r ≤ left := by rcases hr with hr | hr <;> omega
          clear hr
          go_wp2
          go_roundw
          case rel => exact ⟨k + 1, r, by omega, by go_num, rfl, by omega, by omega, b2⟩
          case measure => simp [intOf]; omega
      · go_wp2
        go_ret
        exact ⟨⟨l, rfl, .inr ⟨by omega, by omega⟩⟩, bk⟩

set_option maxHeartbeats 1000000 in
theorem szPairS_any (a : Option Addr) (b off n c : Nat) (L : List Pr) (left : Int) (w : World) (h : PrsIn w a b off n L) (hn : n ≤ 9223372036854775807) (hs : ∀ i, i < n → (L.getD i (bz, bz)).1.size ≤ 9223372036854775807 ∧ (L.getD i (bz, bz)).2.size ≤ 9223372036854775807) (h0 : 0 ≤ left) (h1 : left ≤ 1048576) :
    Calls Tryz.prog 56 #[.slice a n c, .int .i64 left] w fun e w' => (∃ r : Int, e = .returned (.int .i64 r) ∧ (r < 0 ∨ (r ≤ left ∧ n ≤ 1048576))) ∧ Below w.heap.size w w' := by
  have H : Hid (PrsIn w a b off n L) := h
  have HS : Hid (∀ i, i < n → (L.getD i (bz, bz)).1.size ≤ 9223372036854775807 ∧ (L.getD i (bz, bz)).2.size ≤ 9223372036854775807) := hs
  clear h hs
  by_cases hneg : left - (n : Int) < 0
  · go_enter Tryz.func56, Tryz.ntmps56
    go_wp2
    go_ret
    exact ⟨⟨-1, rfl, .inl (by omega)⟩, Below.refl _ _⟩
  · go_enter Tryz.func56, Tryz.ntmps56
    go_wp2
    go_loopw [1, 5] (fun q i wr => ∃ (k : Nat) (l : Int), k ≤ n ∧ i = .int .i64 k ∧ q = .int .i64 l ∧ 0 ≤ l ∧ l ≤ left ∧ Below w.heap.size w wr) (fun _ i _ => n - (intOf i).toNat)
    case atStart => exact ⟨0, left - n, by omega, rfl, rfl, by omega, by omega, Below.refl _ _⟩
    case round =>
      obtain ⟨k, l, hk, rfl, rfl, hl0, hl1, bk⟩ := hrel
      have sk := bk.size
      by_cases hlt : k < n
      · have HW := H.out.below bk
        have c0 := HW.c0 k hlt
        have c1 := HW.c1 k hlt
        obtain rfl := HW.addr (by omega)
        have hz := HS.out k hlt
        generalize L.getD k (bz, bz) = x at *
        obtain ⟨m, s⟩ := x
        dsimp only at c0 c1 hz
        have cS := szPair_any m s l wr hl0 (by omega) hz.1 hz.2
        clear HW
        go_wp2_with fail
        refine cS.mono ?_
        rintro e w1 ⟨⟨r, rfl, hr⟩, b1⟩
        clear cS
        have b2 := bk.trans (b1.mono sk)
        by_cases hr0 : r < 0
        · go_wp2
          go_ret
          exact ⟨⟨-1, rfl, .inl (by omega)⟩, b2⟩
        · have hr1 : r ≤ left := by rcases hr with hr | hr <;> omega
          clear hr
          go_wp2
          go_roundw
          case rel => exact ⟨k + 1, r, by omega, by go_num, rfl, by omega, by omega, b2⟩
          case measure => simp [intOf]; omega
      · go_wp2
        go_ret
        exact ⟨⟨l, rfl, .inr ⟨by omega, by omega⟩⟩, bk⟩

theorem make_ranks (n : Nat) (hn : n ≤ 1048576) : ∃ C : Array Value, C.size = n * 2 ∧ ∀ w, (Instr.makeSlice 64 (.int .i64 n) (.int .i64 n)).run Tryz.prog w = .ok (.slice (some ⟨w.heap.size, 0, none⟩) n n) (w.alloc (.cells C 106)) := by
  obtain ⟨i0, hi, hz0, hz1, hz2⟩ := info_parts Kk.info30
  refine ⟨madeCells (Value.agg #[.string ⟨#[]⟩, .int .i64 0]).cells (n * i0.size), by rw [size_madeCells, hz1], fun w => ?_⟩
  have := run_make (P := Tryz.prog) w 64 106 i0 _ Tryz.underlying64 hi hz0 .i64 .i64 n n (by omega) (by omega) (by rw [hz2]; omega) (by omega)
  simpa using this

theorem make_pairs (n : Nat) (hn : n ≤ 1048576) : ∃ C : Array Value, C.size = n * 2 ∧ ∀ w, (Instr.makeSlice 63 (.int .i64 n) (.int .i64 n)).run Tryz.prog w = .ok (.slice (some ⟨w.heap.size, 0, none⟩) n n) (w.alloc (.cells C 104)) := by
  obtain ⟨i0, hi, hz0, hz1, hz2⟩ := info_parts info33
  refine ⟨madeCells (Value.agg #[.string ⟨#[]⟩, .string ⟨#[]⟩]).cells (n * i0.size), by rw [size_madeCells, hz1], fun w => ?_⟩
  have := run_make (P := Tryz.prog) w 63 104 i0 _ Tryz.underlying63 hi hz0 .i64 .i64 n n (by omega) (by omega) (by rw [hz2]; omega) (by omega)
  simpa using this

set_option maxHeartbeats 1000000 in
theorem toRankS_any (a : Option Addr) (b off n c : Nat) (L : List Rk) (w : World) (h : RanksIn w a b off n L) (hn : n ≤ 1048576) :
    Calls Tryz.prog 66 #[.slice a n c] w fun e w' => e = .returned (.slice (some ⟨w.heap.size, 0, none⟩) n n) ∧ OwnR w' w.heap.size (.slice (some ⟨w.heap.size, 0, none⟩) n n) L ∧ Below w.heap.size w w' ∧ w.heap.size < w'.heap.size := by
  obtain ⟨C, hC, hmk⟩ := make_ranks n hn
  have HC : Hid (C.size = n * 2) := hC
  have H : Hid (RanksIn w a b off n L) := h
  have HL : Hid (L.length = n) := h.len
  clear hC h
  go_enter Tryz.func66, Tryz.ntmps66
  go_wp2
  go_loopw [4] (fun i wr => ∃ (k : Nat) (D : Array Value), k ≤ n ∧ i = .int .i64 k ∧ D.size = n * 2 ∧ RowAt wr w.heap.size 106 D ∧ Hid (PreR D L k) ∧ Below w.heap.size w wr) (fun i _ => n - (intOf i).toNat)
  case atStart => exact ⟨0, C, by omega, rfl, HC.out, RowAt.new _ _ _, fun j hj => by omega, (Below.refl _ _).alloc (Nat.le_refl _) _⟩
  case round =>
    obtain ⟨k, D, hkn, rfl, hD, hrow, hpre, bk⟩ := hrel
    have HD : Hid (D.size = n * 2) := hD
    have sk := bk.size
    clear hD hmk
    by_cases hlt : k < n
    · have HW := H.out.below bk
      have hx := HW.cell k hlt
      obtain rfl := HW.addr (by omega)
      generalize hx' : L.getD k rk0 = x at *
      have HX : Hid (L.getD k rk0 = x) := hx'
      obtain ⟨m, s⟩ := x
      have c0 := hx.c0
      have c1 := hx.c1
      dsimp only at c0 c1
      clear hx' hx
      have cT := toRank_any ⟨m, s⟩ wr
      clear HW
      go_wp2_with fail
      refine cT.mono ?_
      rintro e w1 ⟨rfl, b1⟩
      clear cT
      have hrow1 := RowAt.below hrow b1 hrow.lt
      have hD2 : k * 2 + 1 < D.size := by rw [HD.out]; omega
      have t0 : w1.cell? ⟨w.heap.size, k * 2, none⟩ = some (D[k * 2]'(by omega)) := by rw [hrow1.cell]; simp
      have t1 : w1.cell? ⟨w.heap.size, k * 2 + 1, none⟩ = some (D[k * 2 + 1]'(by omega)) := by rw [hrow1.cell]; simp
      have f0 := hrow1.frozen (k * 2)
      have f1 := hrow1.frozen (k * 2 + 1)
      have HP : Hid _ := Kk.pre_put hpre.out hD2 HX.out
      have HR : Hid _ := (hrow1.set (k * 2) (.string m)).set (k * 2 + 1) (.int .i64 s)
      generalize D[k * 2]'(by omega) = y0 at *
      generalize D[k * 2 + 1]'(by omega) = y1 at *
      have b01 := bk.trans (b1.mono sk)
      clear c0 c1 hrow1 hrow hpre b1
      go_wp2
      go_roundw
      case rel => exact ⟨k + 1, _, by omega, by go_num, by rw [Array.size_setIfInBounds, Array.size_setIfInBounds, HD.out], HR.out, HP, (b01.setCell (Nat.le_refl _) _).setCell (Nat.le_refl _) _⟩
      case measure => simp [intOf]; omega
    · obtain rfl : k = n := by omega
      have hl := HL.out
      have HO : Hid (OwnR wr w.heap.size (.slice (some ⟨w.heap.size, 0, none⟩) k k) L) := by
        have := Kk.row_owns (B := w.heap.size) hrow HD.out (by rw [HL.out]; exact hpre.out) (by omega) (by unfold maxLen; omega) (Nat.le_refl _)
        rw [HL.out] at this
        exact this
      have hlt2 := hrow.lt
      clear hrow hpre hl
      go_wp2
      go_ret
      exact ⟨rfl, HO.out, bk, hlt2⟩

set_option maxHeartbeats 1000000 in
theorem toPairS_any (a : Option Addr) (b off n c : Nat) (L : List Pr) (w : World) (h : PrsIn w a b off n L) (hn : n ≤ 1048576) :
    Calls Tryz.prog 65 #[.slice a n c] w fun e w' => e = .returned (.slice (some ⟨w.heap.size, 0, none⟩) n n) ∧ OwnP w' w.heap.size (.slice (some ⟨w.heap.size, 0, none⟩) n n) L ∧ Below w.heap.size w w' ∧ w.heap.size < w'.heap.size := by
  obtain ⟨C, hC, hmk⟩ := make_pairs n hn
  have HC : Hid (C.size = n * 2) := hC
  have H : Hid (PrsIn w a b off n L) := h
  have HL : Hid (L.length = n) := h.len
  clear hC h
  go_enter Tryz.func65, Tryz.ntmps65
  go_wp2
  go_loopw [4] (fun i wr => ∃ (k : Nat) (D : Array Value), k ≤ n ∧ i = .int .i64 k ∧ D.size = n * 2 ∧ RowAt wr w.heap.size 104 D ∧ Hid (PreP D L k) ∧ Below w.heap.size w wr) (fun i _ => n - (intOf i).toNat)
  case atStart => exact ⟨0, C, by omega, rfl, HC.out, RowAt.new _ _ _, fun j hj => by omega, (Below.refl _ _).alloc (Nat.le_refl _) _⟩
  case round =>
    obtain ⟨k, D, hkn, rfl, hD, hrow, hpre, bk⟩ := hrel
    have HD : Hid (D.size = n * 2) := hD
    have sk := bk.size
    clear hD hmk
    by_cases hlt : k < n
    · have HW := H.out.below bk
      have c0 := HW.c0 k hlt
      have c1 := HW.c1 k hlt
      obtain rfl := HW.addr (by omega)
      generalize hx' : L.getD k (bz, bz) = x at *
      have HX : Hid (L.getD k (bz, bz) = x) := hx'
      obtain ⟨m, s⟩ := x
      dsimp only at c0 c1
      clear hx'
      have cT := toPair_any m s wr
      clear HW
      go_wp2_with fail
      refine cT.mono ?_
      rintro e w1 ⟨rfl, b1⟩
      clear cT
      have hrow1 := RowAt.below hrow b1 hrow.lt
      have hD2 : k * 2 + 1 < D.size := by rw [HD.out]; omega
      have t0 : w1.cell? ⟨w.heap.size, k * 2, none⟩ = some (D[k * 2]'(by omega)) := by rw [hrow1.cell]; simp
      have t1 : w1.cell? ⟨w.heap.size, k * 2 + 1, none⟩ = some (D[k * 2 + 1]'(by omega)) := by rw [hrow1.cell]; simp
      have f0 := hrow1.frozen (k * 2)
      have f1 := hrow1.frozen (k * 2 + 1)
      have HP : Hid _ := preP_put hpre.out hD2 HX.out
      have HR : Hid _ := (hrow1.set (k * 2) (.string m)).set (k * 2 + 1) (.string s)
      generalize D[k * 2]'(by omega) = y0 at *
      generalize D[k * 2 + 1]'(by omega) = y1 at *
      have b01 := bk.trans (b1.mono sk)
      clear c0 c1 hrow1 hrow hpre b1
      go_wp2
      go_roundw
      case rel => exact ⟨k + 1, _, by omega, by go_num, by rw [Array.size_setIfInBounds, Array.size_setIfInBounds, HD.out], HR.out, HP, (b01.setCell (Nat.le_refl _) _).setCell (Nat.le_refl _) _⟩
      case measure => simp [intOf]; omega
    · obtain rfl : k = n := by omega
      have hl := HL.out
      have HO : Hid (OwnP wr w.heap.size (.slice (some ⟨w.heap.size, 0, none⟩) k k) L) := by
        have := rowP_owns (B := w.heap.size) hrow HD.out (by rw [HL.out]; exact hpre.out) (by omega) (by unfold maxLen; omega) (Nat.le_refl _)
        rw [HL.out] at this
        exact this
      have hlt2 := hrow.lt
      clear hrow hpre hl
      go_wp2
      go_ret
      exact ⟨rfl, HO.out, bk, hlt2⟩
end Go.Proofs.YtjgmkbldclangaaGreatDoor
