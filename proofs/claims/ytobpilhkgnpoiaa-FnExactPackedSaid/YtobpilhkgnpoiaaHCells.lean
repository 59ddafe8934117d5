/- Cells of a heap in memory: copies of them, and whether two rows are one. -/
import Derived.Test.YtobpilhkgnpoiaaHMath
import Derived.Lib.SmallJoins
namespace Go.Proofs.Ytobpilhkgnpoiaa
open Go.RowKit Go.Sort

theorem ret_bool {a b : Bool} (h : a = b) : Ending.returned (.bool a) = .returned (.bool b) := by rw [h]
theorem ret_int {a b : Int} (h : a = b) : Ending.returned (.int .i64 a) = .returned (.int .i64 b) := by rw [h]

/-- The four cells of a cell. -/
structure ClAt (w : World) (b o : Nat) (x : Cl) : Prop where
  c0 : w.cell? ⟨b, o, none⟩ = some (.int .i64 x.pos)
  c1 : w.cell? ⟨b, o + 1, none⟩ = some (.int .i64 x.len)
  c2 : w.cell? ⟨b, o + 2, none⟩ = some (.int .i64 x.gen)
  c3 : w.cell? ⟨b, o + 3, none⟩ = some (.bool x.live)

structure CellsIn (w : World) (a : Option Addr) (b off n : Nat) (L : List Cl) : Prop where
  len : L.length = n
  addr : 0 < n → a = some ⟨b, off, none⟩
  low : 0 < n → b < w.heap.size
  cell : ∀ i, i < n → ClAt w b (off + i * 4) (L.getD i cl0)

theorem cl_below {w w' : World} {b o B : Nat} {x : Cl} (h : ClAt w b o x) (hl : b < B) (hb : Below B w w') : ClAt w' b o x :=
  ⟨(hb.cell (p := ⟨b, o, none⟩) hl).trans h.c0, (hb.cell (p := ⟨b, o + 1, none⟩) hl).trans h.c1, (hb.cell (p := ⟨b, o + 2, none⟩) hl).trans h.c2, (hb.cell (p := ⟨b, o + 3, none⟩) hl).trans h.c3⟩

theorem cells_below {w w' : World} {a : Option Addr} {b off n : Nat} {L : List Cl} (h : CellsIn w a b off n L) (hb : Below w.heap.size w w') : CellsIn w' a b off n L :=
  ⟨h.len, h.addr, fun h0 => by have := h.low h0; have := hb.size; omega, fun i hi => cl_below (h.cell i hi) (h.low (by omega)) hb⟩

abbrev clV (x : Cl) : Array Value := #[.int .i64 x.pos, .int .i64 x.len, .int .i64 x.gen, .bool x.live]

set_option maxHeartbeats 400000 in
theorem szHeap_any (s : ByteArray) (a : Option Addr) (n c : Nat) (w : World) (hs : s.size ≤ 9223372036854775807) (hn : n ≤ 9223372036854775807) :
    Calls Try.prog 16 #[.agg #[.string s, .slice a n c], .int .i64 1048576] w fun e w' => (∃ r : Int, e = .returned (.int .i64 r) ∧ (r < 0 ∨ (r = 1048576 - s.size - n))) ∧ Below w.heap.size w w' := by
  have hsz : ∀ (left : Int) (w : World), 0 ≤ left → left ≤ 1048576 → Calls Try.prog 39 #[.slice a n c, .int .i64 left] w fun e w' => e = .returned (.int .i64 (if left - n < 0 then -1 else left - n)) ∧ w' = w := fun left w h0 h1 => by
    by_cases hneg : left - (n : Int) < 0
    · rw [if_pos hneg]
      go_enter Try.func39, Try.ntmps39
      go_wp2
      go_ret
      exact ⟨rfl, rfl⟩
    · rw [if_neg hneg]
      go_enter Try.func39, Try.ntmps39
      go_wp2
      go_ret
      exact ⟨rfl, rfl⟩
  have HS : Hid _ := hsz
  clear hsz
  by_cases hneg : (1048576 : Int) - (s.size : Int) < 0
  · go_enter Try.func16, Try.ntmps16
    go_wp2
    go_ret
    exact ⟨⟨-1, rfl, .inl (by omega)⟩, (Below.refl _ _).alloc (Nat.le_refl _) _⟩
  · by_cases hn2 : (1048576 : Int) - (s.size : Int) - n < 0
    · go_enter Try.func16, Try.ntmps16
      go_wp2_with fail
      refine (HS.out _ _ (by omega) (by omega)).mono ?_
      rintro e w1 ⟨rfl, rfl⟩
      rw [if_pos hn2]
      go_wp2
      go_ret
      exact ⟨⟨-1, rfl, .inl (by omega)⟩, (Below.refl _ _).alloc (Nat.le_refl _) _⟩
    · go_enter Try.func16, Try.ntmps16
      go_wp2_with fail
      refine (HS.out _ _ (by omega) (by omega)).mono ?_
      rintro e w1 ⟨rfl, rfl⟩
      rw [if_neg (by omega)]
      go_wp2
      go_ret
      exact ⟨⟨1048576 - s.size - n, rfl, .inr rfl⟩, (Below.refl _ _).alloc (Nat.le_refl _) _⟩

set_option maxHeartbeats 1000000 in
theorem toCell_any (x : Cl) (w : World) :
    Calls Try.prog 54 #[.agg (clV x)] w fun e w' => e = .returned (.agg (clV x)) ∧ Below w.heap.size w w' := by
  go_enter Try.func54, Try.ntmps54
  go_wp2
  exact bodyPost_ret (v := .agg (clV x)) (by simp [results, Try.results54, go_sem]) rfl ⟨rfl, Go.Joins.below_alloc3 _ _ _ _⟩

theorem info62 : (Try.prog.info? 64).map (fun i => (i.zero, i.size, i.bytes)) = some (some (.agg #[.int .i64 0, .int .i64 0, .int .i64 0, .bool false]), 4, 32) := by kernel_rfl

theorem make_cells (n : Nat) (hn : n ≤ 1048576) : ∃ C : Array Value, C.size = n * 4 ∧ ∀ w, (Instr.makeSlice 22 (.int .i64 n) (.int .i64 n)).run Try.prog w = .ok (.slice (some ⟨w.heap.size, 0, none⟩) n n) (w.alloc (.cells C 64)) := by
  obtain ⟨i0, hi, hz0, hz1, hz2⟩ := info_parts info62
  refine ⟨madeCells (Value.agg #[.int .i64 0, .int .i64 0, .int .i64 0, .bool false]).cells (n * i0.size), by rw [size_madeCells, hz1], fun w => ?_⟩
  have := run_make (P := Try.prog) w 22 64 i0 _ Try.underlying22 hi hz0 .i64 .i64 n n (by omega) (by omega) (by rw [hz2]; omega) (by omega)
  simpa using this

abbrev put4 (w : World) (g o : Nat) (v0 v1 v2 v3 : Value) : World := (((w.setCell ⟨g, o, none⟩ v0).setCell ⟨g, o + 1, none⟩ v1).setCell ⟨g, o + 2, none⟩ v2).setCell ⟨g, o + 3, none⟩ v3

theorem put4_other (w : World) (g o : Nat) (v0 v1 v2 v3 : Value) (j : Nat) (h : j < o ∨ o + 3 < j) : (put4 w g o v0 v1 v2 v3).cell? ⟨g, j, none⟩ = w.cell? ⟨g, j, none⟩ := by
  have e : ∀ (w : World) (t : Nat) (v : Value), t ≠ j → (w.setCell ⟨g, t, none⟩ v).cell? ⟨g, j, none⟩ = w.cell? ⟨g, j, none⟩ := fun w t v ht => World.cell?_setCell_other w _ _ _ (fun e => ht (congrArg Addr.off e))
  unfold put4
  rw [e _ _ _ (by omega), e _ _ _ (by omega), e _ _ _ (by omega), e _ _ _ (by omega)]

theorem put4_row {w : World} {g o : Nat} {T : TypeId} {D : Array Value} (h : RowAt w g T D) (hD : o + 3 < D.size) (v0 v1 v2 v3 : Value) :
    ∃ D', D'.size = D.size ∧ RowAt (put4 w g o v0 v1 v2 v3) g T D' ∧ D'[o]? = some v0 ∧ D'[o + 1]? = some v1 ∧ D'[o + 2]? = some v2 ∧ D'[o + 3]? = some v3 := by
  refine ⟨_, ?_, (((h.set o v0).set (o + 1) v1).set (o + 2) v2).set (o + 3) v3, ?_, ?_, ?_, ?_⟩
  · simp
  all_goals
    simp only [Array.getElem?_setIfInBounds, Array.size_setIfInBounds]
    simp
    omega


def Pre (w : World) (g : Nat) (L : List Cl) (k : Nat) : Prop := ∀ i, i < k → ClAt w g (i * 4) (L.getD i cl0)

theorem pre_put {w : World} {g k : Nat} {D : Array Value} {L : List Cl} {x : Cl} (hrow : RowAt w g 64 D) (hD : k * 4 + 3 < D.size) (hpre : Pre w g L k) (hx : L.getD k cl0 = x) :
    Pre (put4 w g (k * 4) (.int .i64 x.pos) (.int .i64 x.len) (.int .i64 x.gen) (.bool x.live)) g L (k + 1) := by
  intro i hik
  by_cases hki : i = k
  · subst hki
    rw [hx]
    obtain ⟨D', _, hr, e0, e1, e2, e3⟩ := put4_row hrow hD (.int .i64 x.pos) (.int .i64 x.len) (.int .i64 x.gen) (.bool x.live)
    exact ⟨(hr.cell _).trans e0, (hr.cell _).trans e1, (hr.cell _).trans e2, (hr.cell _).trans e3⟩
  · have a3 := hpre i (by omega)
    exact ⟨(put4_other _ _ _ _ _ _ _ _ (by omega)).trans a3.c0, (put4_other _ _ _ _ _ _ _ _ (by omega)).trans a3.c1, (put4_other _ _ _ _ _ _ _ _ (by omega)).trans a3.c2, (put4_other _ _ _ _ _ _ _ _ (by omega)).trans a3.c3⟩

theorem pre_below {w w' : World} {g : Nat} {L : List Cl} {k : Nat} (h : Pre w g L k) (hl : g < w.heap.size) (hb : Below w.heap.size w w') : Pre w' g L k := fun i hi => cl_below (h i hi) hl hb

set_option maxHeartbeats 1000000 in
theorem toCells_any (a : Option Addr) (b off n c : Nat) (L : List Cl) (w : World) (h : CellsIn w a b off n L) (hn : n ≤ 1048576) :
    Calls Try.prog 41 #[.slice a n c] w fun e w' => e = .returned (.slice (some ⟨w.heap.size, 0, none⟩) n n) ∧ CellsIn w' (some ⟨w.heap.size, 0, none⟩) w.heap.size 0 n L ∧ Below w.heap.size w w' ∧ w.heap.size < w'.heap.size := by
  obtain ⟨C, hC, hmk⟩ := make_cells n hn
  have HC : Hid (C.size = n * 4) := hC
  clear hC
  go_enter Try.func41, Try.ntmps41
  go_wp2
  go_loopw [4] (fun i wr => ∃ (k : Nat) (D : Array Value), k ≤ n ∧ i = .int .i64 k ∧ D.size = n * 4 ∧ RowAt wr w.heap.size 64 D ∧ Pre wr w.heap.size L k ∧ Below w.heap.size w wr) (fun i _ => n - (intOf i).toNat)
  case atStart => exact ⟨0, C, by omega, rfl, HC.out, RowAt.new _ _ _, fun j hj => by omega, (Below.refl _ _).alloc (Nat.le_refl _) _⟩
  case round =>
    obtain ⟨k, D, hkn, rfl, hD, hrow, hpre, bk⟩ := hrel
    have HD : Hid (D.size = n * 4) := hD
    clear hD hmk
    by_cases hlt : k < n
    · obtain rfl := h.addr (by omega)
      have hlow := h.low (by omega)
      have hnd := cl_below (h.cell k hlt) hlow bk
      have c0 := hnd.c0
      have c1 := hnd.c1
      have c2 := hnd.c2
      have c3 := hnd.c3
      clear hnd
      generalize hx : L.getD k cl0 = x at *
      have HX : Hid (L.getD k cl0 = x) := hx
      clear hx
      go_wp2_with fail
      refine (toCell_any x wr).mono ?_
      rintro e w1 ⟨rfl, b1⟩
      have hrow1 := hrow.below b1 hrow.lt
      have hgl := hrow.lt
      have hD4 : k * 4 + 3 < D.size := by rw [HD.out]; omega
      have t0 : w1.cell? ⟨w.heap.size, k * 4, none⟩ = some (D[k * 4]'(by omega)) := by rw [hrow1.cell]; simp
      have t1 : w1.cell? ⟨w.heap.size, k * 4 + 1, none⟩ = some (D[k * 4 + 1]'(by omega)) := by rw [hrow1.cell]; simp
      have t2 : w1.cell? ⟨w.heap.size, k * 4 + 2, none⟩ = some (D[k * 4 + 2]'(by omega)) := by rw [hrow1.cell]; simp
      have t3 : w1.cell? ⟨w.heap.size, k * 4 + 3, none⟩ = some (D[k * 4 + 3]'(by omega)) := by rw [hrow1.cell]; simp
      have f0 := hrow1.frozen (k * 4)
      have f1 := hrow1.frozen (k * 4 + 1)
      have f2 := hrow1.frozen (k * 4 + 2)
      have f3 := hrow1.frozen (k * 4 + 3)
      generalize D[k * 4]'(by omega) = y0 at *
      generalize D[k * 4 + 1]'(by omega) = y1 at *
      generalize D[k * 4 + 2]'(by omega) = y2 at *
      generalize D[k * 4 + 3]'(by omega) = y3 at *
      clear c0 c1 c2 c3
      have HPre : Hid (Pre _ _ _ _) := pre_put hrow1 hD4 (pre_below hpre hgl b1) HX.out
      obtain ⟨D', hD', hr', _⟩ := put4_row hrow1 hD4 (.int .i64 x.pos) (.int .i64 x.len) (.int .i64 x.gen) (.bool x.live)
      have HR : Hid (RowAt _ _ _ D') := hr'
      have HS : Hid (D'.size = D.size) := hD'
      clear hr' hD' hrow1 hrow hpre
      have b01 := bk.trans (b1.mono bk.size)
      clear b1
      go_wp2
      go_roundw
      case rel => exact ⟨k + 1, D', by omega, by go_num, by rw [HS.out, HD.out], HR.out, HPre.out, ((((b01.setCell (Nat.le_refl _) _).setCell (Nat.le_refl _) _).setCell (Nat.le_refl _) _).setCell (Nat.le_refl _) _)⟩
      case measure => simp [intOf]; omega
    · obtain rfl : k = n := by omega
      go_wp2
      go_ret
      exact ⟨rfl, ⟨h.len, fun _ => rfl, fun _ => hrow.lt, fun i hi => by rw [Nat.zero_add]; exact hpre i hi⟩, bk, hrow.lt⟩

set_option maxHeartbeats 1000000 in
theorem toHeap_any (s : ByteArray) (a : Option Addr) (b off n c : Nat) (L : List Cl) (w : World) (h : CellsIn w a b off n L) (hn : n ≤ 1048576) :
    Calls Try.prog 18 #[.agg #[.string s, .slice a n c]] w fun e w' => ∃ g, e = .returned (.agg #[.string s, .slice (some ⟨g, 0, none⟩) n n]) ∧ CellsIn w' (some ⟨g, 0, none⟩) g 0 n L ∧ Below w.heap.size w w' ∧ g < w'.heap.size := by
  go_enter Try.func18, Try.ntmps18
  go_wp2_with fail
  have bw : Below w.heap.size w (((w.alloc (.cells #[.string s, .slice a n c] 32)).alloc (.cells #[.string ⟨#[]⟩, .slice none 0 0] 24)).alloc (.cells #[.string s, .slice none 0 0] 24)) := Go.Joins.below_alloc3 _ _ _ _
  have r2 := RowAt.new ((w.alloc (.cells #[.string s, .slice a n c] 32)).alloc (.cells #[.string ⟨#[]⟩, .slice none 0 0] 24)) 24 #[.string s, .slice none 0 0]
  have r1 := (RowAt.new (w.alloc (.cells #[.string s, .slice a n c] 32)) 24 #[.string ⟨#[]⟩, .slice none 0 0]).below ((Below.refl _ _).alloc (Nat.le_refl _) (.cells #[.string s, .slice none 0 0] 24)) (by simp)
  simp only [World.size_alloc] at r1 r2
  have hc := cells_below h bw
  have hsz : (((w.alloc (.cells #[.string s, .slice a n c] 32)).alloc (.cells #[.string ⟨#[]⟩, .slice none 0 0] 24)).alloc (.cells #[.string s, .slice none 0 0] 24)).heap.size = w.heap.size + 1 + 1 + 1 := by simp
  generalize (((w.alloc (.cells #[.string s, .slice a n c] 32)).alloc (.cells #[.string ⟨#[]⟩, .slice none 0 0] 24)).alloc (.cells #[.string s, .slice none 0 0] 24)) = W at *
  refine (toCells_any a b off n c L W hc hn).mono ?_
  rintro e w1 ⟨rfl, g1, b1, s1⟩
  rw [hsz] at g1 b1 s1 ⊢
  have q1 := r1.below b1 (by omega)
  have q2 := r2.below b1 (by omega)
  have a0 := q1.cell 0
  have a1 := q1.cell 1
  have d0 := q2.cell 0
  have d1 := q2.cell 1
  have f0 := q1.frozen 0
  have f1 := q1.frozen 1
  have e1 := q2.frozen 1
  simp at a0 a1 d0 d1
  have b0 := bw.trans (b1.mono (by omega))
  have HG : Hid (CellsIn w1 (some ⟨w.heap.size + 1 + 1 + 1, 0, none⟩) (w.heap.size + 1 + 1 + 1) 0 n L) := g1
  clear r1 r2 q1 q2 hsz b1 g1 hc
  go_wp2
  have hset : ∀ (w : World) (g : Nat) (p : Addr) (v : Value), p.block ≠ g → CellsIn w (some ⟨g, 0, none⟩) g 0 n L → CellsIn (w.setCell p v) (some ⟨g, 0, none⟩) g 0 n L := fun w g p v hp h => by
    refine ⟨h.len, h.addr, fun h0 => by simpa [World.setCell] using h.low h0, fun i hi => ?_⟩
    have hx := h.cell i hi
    have hb : ∀ j, (w.setCell p v).cell? ⟨g, j, none⟩ = w.cell? ⟨g, j, none⟩ := fun j => World.cell?_of_block (w := w) (Below.heap_setCell _ _ _ _ (fun e => hp e.symm))
    exact ⟨(hb _).trans hx.c0, (hb _).trans hx.c1, (hb _).trans hx.c2, (hb _).trans hx.c3⟩
  refine bodyPost_ret (v := .agg #[.string s, .slice (some ⟨w.heap.size + 1 + 1 + 1, 0, none⟩) n n]) (by simp [results, Try.results18, go_sem, a0, a1]) rfl ⟨w.heap.size + 1 + 1 + 1, rfl, ?_, ?_, by simpa [World.setCell] using s1⟩
  · exact hset _ _ _ _ (by simp) (hset _ _ _ _ (by simp) (hset _ _ _ _ (by simp) HG.out))
  · exact ((b0.setCell (by simp; omega) _).setCell (by simp) _).setCell (by simp) _

set_option maxHeartbeats 1000000 in
theorem eqCell_any (x : Cl) (w : World) :
    Calls Try.prog 53 #[.agg (clV x), .agg (clV x)] w fun e w' => e = .returned (.bool true) ∧ Below w.heap.size w w' := by
  go_enter Try.func53, Try.ntmps53
  go_wp2
  go_ret
  exact ⟨rfl, Go.Joins.below_alloc2 _ _ _⟩

set_option maxHeartbeats 1000000 in
theorem eqCells_any (a a' : Option Addr) (b off b' off' n c c' : Nat) (L : List Cl) (w : World) (h : CellsIn w a b off n L) (h' : CellsIn w a' b' off' n L) (hn : n ≤ 1048576) :
    Calls Try.prog 36 #[.slice a n c, .slice a' n c'] w fun e w' => e = .returned (.bool true) ∧ Below w.heap.size w w' := by
  go_enter Try.func36, Try.ntmps36
  go_wp2
  go_loopw [5] (fun i wr => ∃ (k : Nat), k ≤ n ∧ i = .int .i64 k ∧ Below w.heap.size w wr) (fun i _ => n - (intOf i).toNat)
  case atStart => exact ⟨0, by omega, rfl, Below.refl _ _⟩
  case round =>
    obtain ⟨k, hk, rfl, bk⟩ := hrel
    by_cases hlt : k < n
    · obtain rfl := h.addr (by omega)
      obtain rfl := h'.addr (by omega)
      have hm := cl_below (h.cell k hlt) (h.low (by omega)) bk
      have hm' := cl_below (h'.cell k hlt) (h'.low (by omega)) bk
      generalize L.getD k cl0 = x at *
      have c0 := cell_regrown hm.c0
      have c1 := cell_regrown hm.c1
      have c2 := cell_regrown hm.c2
      have c3 := cell_regrown hm.c3
      have d0 := cell_regrown hm'.c0
      have d1 := cell_regrown hm'.c1
      have d2 := cell_regrown hm'.c2
      have d3 := cell_regrown hm'.c3
      have cE : ∀ d os, Calls Try.prog 53 #[.agg #[.int .i64 x.pos, .int .i64 x.len, .int .i64 x.gen, .bool x.live], .agg #[.int .i64 x.pos, .int .i64 x.len, .int .i64 x.gen, .bool x.live]] (grow (redrawn wr d) os) fun e w'' => e = .returned (.bool true) ∧ ∃ p : Regrown, w'' = grow (redrawn wr p.d) p.os := fun d os =>
        Calls.regrown_of (eqCell_any x _)
      clear hm hm'
      go_wp2
      refine wp_region_quiet_below (by kernel_rfl) (by kernel_rfl) ?_
      repeat (quiet_step (first | exact cE _ _))
      refine wpQuiet_nil ?_
      intro _ hw'
      obtain ⟨⟨dq, osq⟩, hw''⟩ := hw'
      subst hw''
      have bq := below_regrown wr dq osq
      generalize grow (redrawn wr dq) osq = wq at *
      go_wp2
      go_roundw
      case rel => exact ⟨k + 1, by omega, by go_num, bk.trans (bq.mono bk.size)⟩
      case measure => simp [intOf]; omega
    · go_wp2
      go_ret
      exact ⟨rfl, bk⟩

set_option maxHeartbeats 1000000 in
theorem eqHeap_any (s : ByteArray) (a a' : Option Addr) (b off b' off' n c c' : Nat) (L : List Cl) (w : World) (h : CellsIn w a b off n L) (h' : CellsIn w a' b' off' n L) (hn : n ≤ 1048576) :
    Calls Try.prog 13 #[.agg #[.string s, .slice a n c], .agg #[.string s, .slice a' n c']] w fun e w' => e = .returned (.bool true) ∧ Below w.heap.size w w' := by
  have bw : Below w.heap.size w ((w.alloc (.cells #[.string s, .slice a n c] 24)).alloc (.cells #[.string s, .slice a' n c'] 24)) := Go.Joins.below_alloc2 _ _ _
  have h1 := cells_below h bw
  have h1' := cells_below h' bw
  have HC : Hid (Calls Try.prog 36 #[.slice a n c, .slice a' n c'] ((w.alloc (.cells #[.string s, .slice a n c] 24)).alloc (.cells #[.string s, .slice a' n c'] 24)) _) := eqCells_any a a' b off b' off' n c c' L _ h1 h1' hn
  clear h1 h1'
  go_enter Try.func13, Try.ntmps13
  go_wp2_with fail
  refine HC.out.mono ?_
  rintro e w1 ⟨rfl, b1⟩
  have bb := bw.trans (b1.mono (by simp; omega))
  clear bw
  go_wp2
  go_ret
  exact ⟨rfl, bb⟩
end Go.Proofs.Ytobpilhkgnpoiaa
