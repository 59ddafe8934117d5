/- impl.Ranked at every argument; szRankS, toRankS, eqRankS. -/
import Derived.Test.YtinnjekfmlfdoaaDoorK17
namespace Go.Proofs.YtinnjekfmlfdoaaDoor
open Go.RowKit Go.Sort

set_option maxHeartbeats 1000000 in
theorem implRanked (a : Option Addr) (b off n c : Nat) (L : List Rk) (m : ByteArray) (s : Int) (w : World) (h : RanksIn w a b off n L) (hn : n ≤ 1048576) (hf : FitL L) (hfs : fitS s) (ht : Tab w) (hw10 : 2 ≤ w.heap.size) :
    Calls Tryd.prog 7 #[.slice a n c, .string m, .int .i64 s] w (RankedEnd w (insR (without L m) ⟨m, s⟩) (rankedB L m s)) := by
  by_cases h0 : n = 0
  · have hL : L = [] := List.length_eq_zero_iff.mp (by rw [h.len]; exact h0)
    exact impl_core a b off n c L m s w h hn hf hfs ht hw10 (by rw [hL]; rfl) (.inl h0)
  · have hr := right_pos (L := L) (by rw [h.len]; omega)
    cases hb : ranksB L with
    | true => exact impl_core a b off n c L m s w h hn hf hfs ht hw10 hb (.inr ⟨h0, hr.trans hb⟩)
    | false =>
      have HE : Hid (rankedB L m s = false) := by unfold Hid rankedB; rw [hb, Bool.false_and]
      have cR := right_any a b off n c L w h (by omega) hf ht hw10
      rw [hr, hb] at cR
      have hd0 : decide ((0 : Int) < (n : Int)) = true := by simp; omega
      have hd1 : decide (0 < n) = true := by simp; omega
      generalize insR (without L m) ⟨m, s⟩ = I
      generalize hrb : rankedB L m s = rb at *
      obtain rfl : rb = false := HE.out
      clear hr hb hrb HE h hf hfs ht h0
      go_enter Tryd.func7, Tryd.ntmps7
      go_wp2_with fail
      refine cR.mono ?_
      rintro e w1 ⟨rfl, b1⟩
      go_wp2
      go_ret2
      exact end_false b1

def sizeR (L : List Rk) : Nat := (L.map fun x => x.m.size).sum
theorem sizeR_next (L : List Rk) (k : Nat) (h : k < L.length) : sizeR (L.take (k + 1)) = sizeR (L.take k) + (L.getD k rk0).m.size := by
  unfold sizeR
  rw [List.take_succ_eq_append_getElem h, List.map_append, List.sum_append, List.getD_eq_getElem?_getD, List.getElem?_eq_getElem h]
  simp

set_option maxHeartbeats 1000000 in
/-- szRankS: below nought, or what is left. -/
theorem sz_any (a : Option Addr) (b off n c : Nat) (L : List Rk) (w : World) (h : RanksIn w a b off n L) (hn : n ≤ 9223372036854775807) (hs : ∀ i, i < n → (L.getD i rk0).m.size ≤ 9223372036854775807) :
    Calls Tryd.prog 9 #[.slice a n c, .int .i64 1048576] w fun e w' => (∃ r : Int, e = .returned (.int .i64 r) ∧ (r < 0 ∨ n ≤ 1048576)) ∧ Below w.heap.size w w' := by
  have H : Hid (RanksIn w a b off n L) := h
  have HS : Hid (∀ i, i < n → (L.getD i rk0).m.size ≤ 9223372036854775807) := hs
  clear h hs
  by_cases hneg : (1048576 : Int) - (n : Int) < 0
  · go_enter Tryd.func9, Tryd.ntmps9
    go_wp2
    go_ret
    exact ⟨⟨-1, rfl, .inl (by omega)⟩, Below.refl _ _⟩
  · go_enter Tryd.func9, Tryd.ntmps9
    go_wp2
    go_loopw [1, 5] (fun q i wr => ∃ (k : Nat) (l : Int), k ≤ n ∧ i = .int .i64 k ∧ q = .int .i64 l ∧ 0 ≤ l ∧ l ≤ 1048576 ∧ Below w.heap.size w wr) (fun _ i _ => n - (intOf i).toNat)
    case atStart => exact ⟨0, 1048576 - n, by omega, rfl, rfl, by omega, by omega, Below.refl _ _⟩
    case round =>
      obtain ⟨k, l, hk, rfl, rfl, hl0, hl1, bk⟩ := hrel
      have sk := bk.size
      by_cases hlt : k < n
      · have HW := H.out.below bk
        have hx := HW.cell k hlt
        obtain rfl := HW.addr (by omega)
        have c0 := hx.c0
        have c1 := hx.c1
        have hz := HS.out k hlt
        generalize L.getD k rk0 = x at *
        have cS := szRank_any x l wr hl0 hl1 hz
        obtain ⟨m, s⟩ := x
        dsimp only at c0 c1
        clear HW hx
        go_wp2_with fail
        refine cS.mono ?_
        rintro e w1 ⟨⟨r, rfl, hr⟩, b1⟩
        clear cS
        have b2 := bk.trans (b1.mono sk)
        by_cases hr0 : r < 0
        · go_wp2
          go_ret
          exact ⟨⟨-1, rfl, .inl (by omega)⟩, b2⟩
        · have hr1 : r ≤ 1048576 := by rcases hr with hr | hr <;> omega
          clear hr
          go_wp2
          go_roundw
          case rel => exact ⟨k + 1, r, by omega, by go_num, rfl, by omega, by omega, b2⟩
          case measure => simp [intOf]; omega
      · go_wp2
        go_ret
        exact ⟨⟨l, rfl, .inr (by omega)⟩, bk⟩

theorem make_ranks (n : Nat) (hn : n ≤ 1048576) : ∃ C : Array Value, C.size = n * 2 ∧ ∀ w, (Instr.makeSlice 24 (.int .i64 n) (.int .i64 n)).run Tryd.prog w = .ok (.slice (some ⟨w.heap.size, 0, none⟩) n n) (w.alloc (.cells C 30)) := by
  obtain ⟨i0, hi, hz0, hz1, hz2⟩ := info_parts info30
  refine ⟨madeCells (Value.agg #[.string ⟨#[]⟩, .int .i64 0]).cells (n * i0.size), by rw [size_madeCells, hz1], fun w => ?_⟩
  have := run_make (P := Tryd.prog) w 24 30 i0 _ Tryd.underlying24 hi hz0 .i64 .i64 n n (by omega) (by omega) (by rw [hz2]; omega) (by omega)
  simpa using this

def PreR (D : Array Value) (L : List Rk) (k : Nat) : Prop := ∀ i, i < k → D[i * 2]? = some (.string (L.getD i rk0).m) ∧ D[i * 2 + 1]? = some (.int .i64 (L.getD i rk0).s)

theorem pre_put {D : Array Value} {L : List Rk} {k : Nat} {m : ByteArray} {s : Int} (h : PreR D L k) (hD : k * 2 + 1 < D.size) (hx : L.getD k rk0 = ⟨m, s⟩) : PreR ((D.setIfInBounds (k * 2) (.string m)).setIfInBounds (k * 2 + 1) (.int .i64 s)) L (k + 1) := fun i hi => by
  by_cases e : i = k
  · subst e
    rw [hx]
    refine ⟨?_, ?_⟩
    · rw [Array.getElem?_setIfInBounds_ne (by omega), Array.getElem?_setIfInBounds_self_of_lt (by omega)]
    · rw [Array.getElem?_setIfInBounds_self_of_lt (by rw [Array.size_setIfInBounds]; omega)]
  · obtain ⟨h0, h1⟩ := h i (by omega)
    refine ⟨?_, ?_⟩
    · rw [Array.getElem?_setIfInBounds_ne (by omega), Array.getElem?_setIfInBounds_ne (by omega)]; exact h0
    · rw [Array.getElem?_setIfInBounds_ne (by omega), Array.getElem?_setIfInBounds_ne (by omega)]; exact h1

theorem pre_flat {D : Array Value} {L : List Rk} (h : PreR D L L.length) : D.toList.take (L.length * 2) = flatR L := by
  apply List.ext_getElem?
  intro j
  by_cases hj : j < L.length * 2
  · rw [List.getElem?_take, if_pos hj, Array.getElem?_toList]
    have hi : j / 2 < L.length := by omega
    obtain ⟨f0, f1⟩ := flatR_at L (j / 2) hi
    obtain ⟨h0, h1⟩ := h (j / 2) hi
    rcases Nat.mod_two_eq_zero_or_one j with hm | hm
    · rw [show j / 2 * 2 = j by omega] at f0 h0
      rw [f0, h0]
    · rw [show j / 2 * 2 + 1 = j by omega] at f1 h1
      rw [f1, h1]
  · rw [List.getElem?_take, if_neg hj, List.getElem?_eq_none (by rw [flatR_len]; omega)]

theorem row_owns {w : World} {g cap B : Nat} {D : Array Value} {L : List Rk} (h : RowAt w g 30 D) (hD : D.size = cap * 2) (hp : PreR D L L.length) (hc : L.length ≤ cap) (hm : cap ≤ maxLen) (hB : B ≤ g) : OwnR w B (.slice (some ⟨g, 0, none⟩) L.length cap) L :=
  ⟨by rw [flatR_len], .inr ⟨g, cap, D, rfl, hB, h, hc, hm, hD, pre_flat hp⟩⟩

set_option maxHeartbeats 1000000 in
theorem toRankS_any (a : Option Addr) (b off n c : Nat) (L : List Rk) (w : World) (h : RanksIn w a b off n L) (hn : n ≤ 1048576) :
    Calls Tryd.prog 10 #[.slice a n c] w fun e w' => e = .returned (.slice (some ⟨w.heap.size, 0, none⟩) n n) ∧ OwnR w' w.heap.size (.slice (some ⟨w.heap.size, 0, none⟩) n n) L ∧ Below w.heap.size w w' ∧ w.heap.size < w'.heap.size := by
  obtain ⟨C, hC, hmk⟩ := make_ranks n hn
  have HC : Hid (C.size = n * 2) := hC
  have H : Hid (RanksIn w a b off n L) := h
  have HL : Hid (L.length = n) := h.len
  clear hC h
  go_enter Tryd.func10, Tryd.ntmps10
  go_wp2
  go_loopw [4] (fun i wr => ∃ (k : Nat) (D : Array Value), k ≤ n ∧ i = .int .i64 k ∧ D.size = n * 2 ∧ RowAt wr w.heap.size 30 D ∧ Hid (PreR D L k) ∧ Below w.heap.size w wr) (fun i _ => n - (intOf i).toNat)
  case atStart => exact ⟨0, C, by omega, rfl, HC.out, RowAt.new _ _ _, fun j hj => by omega, (Below.refl _ _).alloc (Nat.le_refl _) _⟩
  case round =>
    obtain ⟨k, D, hkn, rfl, hD, hrow, hpre, bk⟩ := hrel
    have HD : Hid (D.size = n * 2) := hD
    have sk := bk.size
    clear hD hmk
    by_cases hlt : k < n
    · have HW := H.out.below bk
      have hx := HW.cell k hlt
      obtain rfl := HW.addr (by omega)
      have c0 := hx.c0
      have c1 := hx.c1
      generalize hx' : L.getD k rk0 = x at *
      have HX : Hid (L.getD k rk0 = x) := hx'
      have cT := toRank_any x wr
      obtain ⟨m, s⟩ := x
      dsimp only at c0 c1
      clear hx' HW hx
      go_wp2_with fail
      refine cT.mono ?_
      rintro e w1 ⟨rfl, b1⟩
      clear cT
      have hrow1 := hrow.below b1 hrow.lt
      have hD2 : k * 2 + 1 < D.size := by rw [HD.out]; omega
      have t0 : w1.cell? ⟨w.heap.size, k * 2, none⟩ = some (D[k * 2]'(by omega)) := by rw [hrow1.cell]; simp
      have t1 : w1.cell? ⟨w.heap.size, k * 2 + 1, none⟩ = some (D[k * 2 + 1]'(by omega)) := by rw [hrow1.cell]; simp
      have f0 := hrow1.frozen (k * 2)
      have f1 := hrow1.frozen (k * 2 + 1)
      have HP : Hid _ := pre_put hpre.out hD2 HX.out
      have HR : Hid _ := (hrow1.set (k * 2) (.string m)).set (k * 2 + 1) (.int .i64 s)
      generalize D[k * 2]'(by omega) = y0 at *
      generalize D[k * 2 + 1]'(by omega) = y1 at *
      have b01 := bk.trans (b1.mono sk)
      clear c0 c1 hrow1 hrow hpre b1
      go_wp2
      go_roundw
      case rel => exact ⟨k + 1, _, by omega, by go_num, by rw [Array.size_setIfInBounds, Array.size_setIfInBounds, HD.out], HR.out, HP, (b01.setCell (Nat.le_refl _) _).setCell (Nat.le_refl _) _⟩
      case measure => simp [intOf]; omega
    · obtain rfl : k = n := by omega
      have hl := HL.out
      have HO : Hid (OwnR wr w.heap.size (.slice (some ⟨w.heap.size, 0, none⟩) k k) L) := by
        have := row_owns (B := w.heap.size) hrow HD.out (by rw [HL.out]; exact hpre.out) (by omega) (by unfold maxLen; omega) (Nat.le_refl _)
        rw [HL.out] at this
        exact this
      have hlt2 := hrow.lt
      clear hrow hpre hl
      go_wp2
      go_ret
      exact ⟨rfl, HO.out, bk, hlt2⟩

theorem ownR_any {w : World} {B : Nat} {v : Value} {L : List Rk} (h : OwnR w B v L) : ∃ a A c, v = .slice a L.length c ∧ RanksIn w a A 0 L.length L := by
  rcases Joins.ownsRow_forms h with ⟨h1, h2⟩ | ⟨A, c, rfl⟩
  · obtain rfl : L = [] := List.length_eq_zero_iff.mp h2
    exact ⟨none, 0, 0, h1, ⟨rfl, fun h => by simp at h, fun h => by simp at h, fun i hi => by simp at hi⟩⟩
  · exact ⟨_, A, c, rfl, ownR_in h⟩

set_option maxHeartbeats 1000000 in
theorem eqRankS_any (a a' : Option Addr) (b off b' off' n c c' : Nat) (L : List Rk) (w : World) (h : RanksIn w a b off n L) (h' : RanksIn w a' b' off' n L) (hn : n ≤ 1048577) :
    Calls Tryd.prog 11 #[.slice a n c, .slice a' n c'] w fun e w' => e = .returned (.bool true) ∧ Below w.heap.size w w' := by
  have H : Hid (RanksIn w a b off n L) := h
  have H' : Hid (RanksIn w a' b' off' n L) := h'
  clear h h'
  go_enter Tryd.func11, Tryd.ntmps11
  go_wp2
  go_loopw [5] (fun i wr => ∃ (k : Nat), k ≤ n ∧ i = .int .i64 k ∧ Below w.heap.size w wr) (fun i _ => n - (intOf i).toNat)
  case atStart => exact ⟨0, by omega, rfl, Below.refl _ _⟩
  case round =>
    obtain ⟨k, hk, rfl, bk⟩ := hrel
    have sk := bk.size
    by_cases hlt : k < n
    · have HW := H.out.below bk
      have HW' := H'.out.below bk
      have hx := HW.cell k hlt
      have hx' := HW'.cell k hlt
      obtain rfl := HW.addr (by omega)
      obtain rfl := HW'.addr (by omega)
      have c0 := hx.c0
      have c1 := hx.c1
      have d0 := hx'.c0
      have d1 := hx'.c1
      generalize L.getD k rk0 = x at *
      have cE : ∀ d os, Calls Tryd.prog 24 #[rkV x, rkV x] (grow (redrawn wr d) os) fun e w'' => e = .returned (.bool true) ∧ ∃ p : Regrown, w'' = grow (redrawn wr p.d) p.os := fun d os => Calls.regrown_of (eqRank_any x _)
      obtain ⟨m, s⟩ := x
      dsimp only at c0 c1 d0 d1
      clear HW HW' hx hx'
      have kc0 := cell_regrown c0
      have kc1 := cell_regrown c1
      have kd0 := cell_regrown d0
      have kd1 := cell_regrown d1
      go_wp2
      refine wp_region_quiet_below (by kernel_rfl) (by kernel_rfl) ?_
      repeat (quiet_step (first | exact cE _ _))
      refine wpQuiet_nil ?_
      intro _ hw'
      obtain ⟨⟨dq, osq⟩, hw''⟩ := hw'
      subst hw''
      have bq := below_regrown wr dq osq
      generalize grow (redrawn wr dq) osq = wq at *
      go_wp2
      go_roundw
      case rel => exact ⟨k + 1, by omega, by go_num, bk.trans (bq.mono sk)⟩
      case measure => simp [intOf]; omega
    · go_wp2
      go_ret
      exact ⟨rfl, bk⟩
end Go.Proofs.YtinnjekfmlfdoaaDoor
