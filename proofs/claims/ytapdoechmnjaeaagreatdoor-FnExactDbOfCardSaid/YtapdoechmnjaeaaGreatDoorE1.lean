/- Entries: read where they lie, told apart from nothing, copied into memory of their own, held against each other, marked; how much they hold. -/
import Derived.Test.YtapdoechmnjaeaaGreatDoorHp5
import Derived.Test.YtapdoechmnjaeaaGreatDoorY5
namespace Go.Proofs.YtapdoechmnjaeaaGreatDoor
open Go.RowKit Go.Sort
open Kk (markB)
open Hp (refV put4 put4_row put4_other two_at)

structure En where
  name : ByteArray
  rc : Int
  rg : Int
  due : Int
def en0 : En := ⟨bz, 0, 0, 0⟩

abbrev enV (x : En) : Value := .agg #[.string x.name, .int .i64 x.rc, .int .i64 x.rg, .int .i64 x.due]
abbrev enC (x : En) : Array Value := #[.string x.name, .int .i64 x.rc, .int .i64 x.rg, .int .i64 x.due]

structure EnAt (w : World) (b o : Nat) (x : En) : Prop where
  c0 : w.cell? ⟨b, o, none⟩ = some (.string x.name)
  c1 : w.cell? ⟨b, o + 1, none⟩ = some (.int .i64 x.rc)
  c2 : w.cell? ⟨b, o + 2, none⟩ = some (.int .i64 x.rg)
  c3 : w.cell? ⟨b, o + 3, none⟩ = some (.int .i64 x.due)
structure EntsIn (w : World) (a : Option Addr) (b off n : Nat) (L : List En) : Prop where
  len : L.length = n
  addr : 0 < n → a = some ⟨b, off, none⟩
  low : 0 < n → b < w.heap.size
  cell : ∀ i, i < n → EnAt w b (off + i * 4) (L.getD i en0)

theorem en_below {w w' : World} {b o B : Nat} {x : En} (h : EnAt w b o x) (hl : b < B) (hb : Below B w w') : EnAt w' b o x :=
  ⟨(hb.cell (p := ⟨b, o, none⟩) hl).trans h.c0, (hb.cell (p := ⟨b, o + 1, none⟩) hl).trans h.c1, (hb.cell (p := ⟨b, o + 2, none⟩) hl).trans h.c2, (hb.cell (p := ⟨b, o + 3, none⟩) hl).trans h.c3⟩
theorem EntsIn.below {w w' : World} {a : Option Addr} {b off n : Nat} {L : List En} (h : EntsIn w a b off n L) (hb : Below w.heap.size w w') : EntsIn w' a b off n L :=
  ⟨h.len, h.addr, fun h0 => by have := h.low h0; have := hb.size; omega, fun i hi => en_below (h.cell i hi) (h.low (by omega)) hb⟩

theorem row4 {w : World} {g : Nat} {T : TypeId} {x y z u : Value} (h : RowAt w g T #[x, y, z, u]) : w.cell? ⟨g, 0, none⟩ = some x ∧ w.cell? ⟨g, 1, none⟩ = some y ∧ w.cell? ⟨g, 2, none⟩ = some z ∧ w.cell? ⟨g, 3, none⟩ = some u := by
  have a := h.cell 0
  have b := h.cell 1
  have c := h.cell 2
  have d := h.cell 3
  simp at a b c d
  exact ⟨a, b, c, d⟩

set_option maxHeartbeats 1000000 in
theorem toRef_any (rc rg : Int) (w : World) :
    Calls Tryz.prog 88 #[refV rc rg] w fun e w' => e = .returned (refV rc rg) ∧ Below w.heap.size w w' := by
  go_enter Tryz.func88, Tryz.ntmps88
  go_wp2
  exact bodyPost_ret (v := refV rc rg) (by simp [results, Tryz.results88, go_sem]) rfl ⟨rfl, Go.Joins.below_alloc3 _ _ _ _⟩

set_option maxHeartbeats 1000000 in
theorem toEntry_any (x : En) (w : World) :
    Calls Tryz.prog 51 #[enV x] w fun e w' => e = .returned (enV x) ∧ Below w.heap.size w w' := by
  obtain ⟨nm, rc, rg, due⟩ := x
  go_enter Tryz.func51, Tryz.ntmps51
  go_wp2_with fail
  have bw : Below w.heap.size w (((w.alloc (.cells #[.string nm, .int .i64 rc, .int .i64 rg, .int .i64 due] 103)).alloc (.cells #[.string ⟨#[]⟩, .int .i64 0, .int .i64 0, .int .i64 0] 39)).alloc (.cells #[.string nm, .int .i64 0, .int .i64 0, .int .i64 0] 39)) := Go.Joins.below_alloc3 _ _ _ _
  have r2 := RowAt.new ((w.alloc (.cells #[.string nm, .int .i64 rc, .int .i64 rg, .int .i64 due] 103)).alloc (.cells #[.string ⟨#[]⟩, .int .i64 0, .int .i64 0, .int .i64 0] 39)) 39 #[.string nm, .int .i64 0, .int .i64 0, .int .i64 0]
  have r1 := (RowAt.new (w.alloc (.cells #[.string nm, .int .i64 rc, .int .i64 rg, .int .i64 due] 103)) 39 #[.string ⟨#[]⟩, .int .i64 0, .int .i64 0, .int .i64 0]).below ((Below.refl _ _).alloc (Nat.le_refl _) (.cells #[.string nm, .int .i64 0, .int .i64 0, .int .i64 0] 39)) (by simp)
  have r0 := ((RowAt.new w 103 #[.string nm, .int .i64 rc, .int .i64 rg, .int .i64 due]).below ((Below.refl _ _).alloc (Nat.le_refl _) (.cells #[.string ⟨#[]⟩, .int .i64 0, .int .i64 0, .int .i64 0] 39)) (by simp)).below ((Below.refl _ _).alloc (Nat.le_refl _) (.cells #[.string nm, .int .i64 0, .int .i64 0, .int .i64 0] 39)) (by simp; omega)
  simp only [World.size_alloc] at r1 r2
  generalize (((w.alloc (.cells #[.string nm, .int .i64 rc, .int .i64 rg, .int .i64 due] 103)).alloc (.cells #[.string ⟨#[]⟩, .int .i64 0, .int .i64 0, .int .i64 0] 39)).alloc (.cells #[.string nm, .int .i64 0, .int .i64 0, .int .i64 0] 39)) = W at *
  have l0 := r0.lt
  have l1 := r1.lt
  have l2 := r2.lt
  refine (toRef_any rc rg W).mono ?_
  rintro e w1 ⟨rfl, b1⟩
  have q0 := r0.below b1 l0
  have q1 := r1.below b1 l1
  have q2 := r2.below b1 l2
  obtain ⟨_, _, _, a3⟩ := row4 q0
  obtain ⟨d0, d1, d2, d3⟩ := row4 q1
  obtain ⟨e0, e1, e2, e3⟩ := row4 q2
  have f0 := q1.frozen 0
  have f1 := q1.frozen 1
  have f2 := q1.frozen 2
  have f3 := q1.frozen 3
  have g1 := q2.frozen 1
  have g2 := q2.frozen 2
  have g3 := q2.frozen 3
  have b0 := bw.trans (b1.mono bw.size)
  have s1 := b0.size
  clear r0 r1 r2 q0 q1 q2 b1 bw
  go_wp2
  refine bodyPost_ret (v := enV ⟨nm, rc, rg, due⟩) (by simp [results, Tryz.results51, go_sem, d0, d1, d2, d3]) rfl ⟨rfl, ?_⟩
  exact ((((((b0.setCell (by dsimp only; omega) _).setCell (by dsimp only; omega) _).setCell (by dsimp only; omega) _).setCell (by dsimp only; omega) _).setCell (by dsimp only; omega) _).setCell (by dsimp only; omega) _).setCell (by dsimp only; omega) _

theorem info39 : (Tryz.prog.info? 39).map (fun i => (i.zero, i.size, i.bytes)) = some (some (.agg #[.string ⟨#[]⟩, .int .i64 0, .int .i64 0, .int .i64 0]), 4, 40) := by kernel_rfl

theorem make_ents (n : Nat) (hn : n ≤ 1048576) : ∃ C : Array Value, C.size = n * 4 ∧ ∀ w, (Instr.makeSlice 27 (.int .i64 n) (.int .i64 n)).run Tryz.prog w = .ok (.slice (some ⟨w.heap.size, 0, none⟩) n n) (w.alloc (.cells C 39)) := by
  obtain ⟨i0, hi, hz0, hz1, hz2⟩ := info_parts info39
  refine ⟨madeCells (Value.agg #[.string ⟨#[]⟩, .int .i64 0, .int .i64 0, .int .i64 0]).cells (n * i0.size), by rw [size_madeCells, hz1], fun w => ?_⟩
  have := run_make (P := Tryz.prog) w 27 39 i0 _ Tryz.underlying27 hi hz0 .i64 .i64 n n (by omega) (by omega) (by rw [hz2]; omega) (by omega)
  simpa using this

def PreE (w : World) (g : Nat) (L : List En) (k : Nat) : Prop := ∀ i, i < k → EnAt w g (i * 4) (L.getD i en0)

theorem preE_put {w : World} {g k : Nat} {D : Array Value} {L : List En} {x : En} (hrow : RowAt w g 39 D) (hD : k * 4 + 3 < D.size) (hpre : PreE w g L k) (hx : L.getD k en0 = x) :
    PreE (put4 w g (k * 4) (.string x.name) (.int .i64 x.rc) (.int .i64 x.rg) (.int .i64 x.due)) g L (k + 1) := by
  intro i hik
  by_cases hki : i = k
  · subst hki
    rw [hx]
    obtain ⟨D', _, hr, e0, e1, e2, e3⟩ := put4_row hrow hD (.string x.name) (.int .i64 x.rc) (.int .i64 x.rg) (.int .i64 x.due)
    exact ⟨(hr.cell _).trans e0, (hr.cell _).trans e1, (hr.cell _).trans e2, (hr.cell _).trans e3⟩
  · have a3 := hpre i (by omega)
    exact ⟨(put4_other _ _ _ _ _ _ _ _ (by omega)).trans a3.c0, (put4_other _ _ _ _ _ _ _ _ (by omega)).trans a3.c1, (put4_other _ _ _ _ _ _ _ _ (by omega)).trans a3.c2, (put4_other _ _ _ _ _ _ _ _ (by omega)).trans a3.c3⟩

theorem preE_below {w w' : World} {g : Nat} {L : List En} {k : Nat} (h : PreE w g L k) (hl : g < w.heap.size) (hb : Below w.heap.size w w') : PreE w' g L k := fun i hi => en_below (h i hi) hl hb

/-- Entries in a row of their own. -/
def RowE (w : World) (g n : Nat) (L : List En) : Prop := ∃ D : Array Value, D.size = n * 4 ∧ RowAt w g 39 D ∧ EntsIn w (some ⟨g, 0, none⟩) g 0 n L

set_option maxHeartbeats 1000000 in
theorem toEntries_any (a : Option Addr) (b off n c : Nat) (L : List En) (w : World) (h : EntsIn w a b off n L) (hn : n ≤ 1048576) :
    Calls Tryz.prog 16 #[.slice a n c] w fun e w' => e = .returned (.slice (some ⟨w.heap.size, 0, none⟩) n n) ∧ RowE w' w.heap.size n L ∧ Below w.heap.size w w' ∧ w.heap.size < w'.heap.size := by
  obtain ⟨C, hC, hmk⟩ := make_ents n hn
  have HC : Hid (C.size = n * 4) := hC
  clear hC
  go_enter Tryz.func16, Tryz.ntmps16
  go_wp2
  go_loopw [4] (fun i wr => ∃ (k : Nat) (D : Array Value), k ≤ n ∧ i = .int .i64 k ∧ D.size = n * 4 ∧ RowAt wr w.heap.size 39 D ∧ PreE wr w.heap.size L k ∧ Below w.heap.size w wr) (fun i _ => n - (intOf i).toNat)
  case atStart => exact ⟨0, C, by omega, rfl, HC.out, RowAt.new _ _ _, fun j hj => by omega, (Below.refl _ _).alloc (Nat.le_refl _) _⟩
  case round =>
    obtain ⟨k, D, hkn, rfl, hD, hrow, hpre, bk⟩ := hrel
    have HD : Hid (D.size = n * 4) := hD
    clear hD hmk
    by_cases hlt : k < n
    · obtain rfl := h.addr (by omega)
      have hlow := h.low (by omega)
      have hnd := en_below (h.cell k hlt) hlow bk
      have c0 := hnd.c0
      have c1 := hnd.c1
      have c2 := hnd.c2
      have c3 := hnd.c3
      clear hnd
      generalize hx : L.getD k en0 = x at *
      have HX : Hid (L.getD k en0 = x) := hx
      clear hx
      go_wp2_with fail
      refine (toEntry_any x wr).mono ?_
      rintro e w1 ⟨rfl, b1⟩
      have hrow1 := hrow.below b1 hrow.lt
      have hgl := hrow.lt
      have hD4 : k * 4 + 3 < D.size := by rw [HD.out]; omega
      have t0 : w1.cell? ⟨w.heap.size, k * 4, none⟩ = some (D[k * 4]'(by omega)) := by rw [hrow1.cell]; simp
      have t1 : w1.cell? ⟨w.heap.size, k * 4 + 1, none⟩ = some (D[k * 4 + 1]'(by omega)) := by rw [hrow1.cell]; simp
      have t2 : w1.cell? ⟨w.heap.size, k * 4 + 2, none⟩ = some (D[k * 4 + 2]'(by omega)) := by rw [hrow1.cell]; simp
      have t3 : w1.cell? ⟨w.heap.size, k * 4 + 3, none⟩ = some (D[k * 4 + 3]'(by omega)) := by rw [hrow1.cell]; simp
      have f0 := hrow1.frozen (k * 4)
      have f1 := hrow1.frozen (k * 4 + 1)
      have f2 := hrow1.frozen (k * 4 + 2)
      have f3 := hrow1.frozen (k * 4 + 3)
      generalize D[k * 4]'(by omega) = y0 at *
      generalize D[k * 4 + 1]'(by omega) = y1 at *
      generalize D[k * 4 + 2]'(by omega) = y2 at *
      generalize D[k * 4 + 3]'(by omega) = y3 at *
      clear c0 c1 c2 c3
      have HPre : Hid (PreE _ _ _ _) := preE_put hrow1 hD4 (preE_below hpre hgl b1) HX.out
      obtain ⟨D', hD', hr', _⟩ := put4_row hrow1 hD4 (.string x.name) (.int .i64 x.rc) (.int .i64 x.rg) (.int .i64 x.due)
      have HR : Hid (RowAt _ _ _ D') := hr'
      have HS : Hid (D'.size = D.size) := hD'
      clear hr' hD' hrow1 hrow hpre
      have b01 := bk.trans (b1.mono bk.size)
      clear b1
      go_wp2
      go_roundw
      case rel => exact ⟨k + 1, D', by omega, by go_num, by rw [HS.out, HD.out], HR.out, HPre.out, ((((b01.setCell (Nat.le_refl _) _).setCell (Nat.le_refl _) _).setCell (Nat.le_refl _) _).setCell (Nat.le_refl _) _)⟩
      case measure => simp [intOf]; omega
    · obtain rfl : k = n := by omega
      go_wp2
      go_ret
      exact ⟨rfl, ⟨D, HD.out, hrow, ⟨h.len, fun _ => rfl, fun _ => hrow.lt, fun i hi => by rw [Nat.zero_add]; exact hpre i hi⟩⟩, bk, hrow.lt⟩

theorem RowE.below {w w' : World} {g n : Nat} {L : List En} (h : RowE w g n L) (hb : Below w.heap.size w w') : RowE w' g n L := by
  obtain ⟨D, h1, h2, h3⟩ := h
  exact ⟨D, h1, h2.below hb h2.lt, h3.below hb⟩

set_option maxHeartbeats 1000000 in
theorem szEntry_any (x : En) (l : Int) (w : World) (hx : x.name.size ≤ 9223372036854775807) (h0 : 0 ≤ l) (h1 : l ≤ 1048576) :
    Calls Tryz.prog 49 #[enV x, .int .i64 l] w fun e w' => ∃ r : Int, e = .returned (.int .i64 r) ∧ (r < 0 ∨ (0 ≤ r ∧ r ≤ l ∧ x.name.size ≤ 1048576)) ∧ Below w.heap.size w w' := by
  obtain ⟨nm, rc, rg, due⟩ := x
  dsimp only at hx
  by_cases h : l - nm.size < 0
  · go_enter Tryz.func49, Tryz.ntmps49
    go_wp2
    go_ret
    exact ⟨-1, rfl, .inl (by omega), (Below.refl _ _).alloc (Nat.le_refl _) _⟩
  · go_enter Tryz.func49, Tryz.ntmps49
    go_wp2
    go_ret
    exact ⟨_, rfl, .inr ⟨by omega, by omega, by show nm.size ≤ _; omega⟩, (Below.refl _ _).alloc (Nat.le_refl _) _⟩

set_option maxHeartbeats 1000000 in
theorem szEntries_any (a : Option Addr) (b off n c : Nat) (L : List En) (l : Int) (w : World) (h : EntsIn w a b off n L) (hn : n ≤ 9223372036854775807) (hz : ∀ i, i < n → (L.getD i en0).name.size ≤ 9223372036854775807) (h0 : 0 ≤ l) (h1 : l ≤ 1048576) :
    Calls Tryz.prog 14 #[.slice a n c, .int .i64 l] w fun e w' => ∃ r : Int, e = .returned (.int .i64 r) ∧ (r < 0 ∨ (n ≤ 1048576 ∧ ∀ i, i < n → (L.getD i en0).name.size ≤ 1048576)) ∧ Below w.heap.size w w' := by
  by_cases hb : l - n < 0
  · go_enter Tryz.func14, Tryz.ntmps14
    go_wp2
    go_ret
    exact ⟨-1, rfl, .inl (by omega), Below.refl _ _⟩
  · have hn2 : n ≤ 1048576 := by omega
    have HI : Hid (EntsIn w a b off n L) := h
    have HZ : Hid (∀ i, i < n → (L.getD i en0).name.size ≤ 9223372036854775807) := hz
    clear h hz
    go_enter Tryz.func14, Tryz.ntmps14
    go_wp2
    go_loopw [1, 5] (fun m i wr => ∃ (k : Nat) (r : Int), k ≤ n ∧ i = .int .i64 k ∧ m = .int .i64 r ∧ 0 ≤ r ∧ r ≤ 1048576 ∧ Hid (∀ i, i < k → (L.getD i en0).name.size ≤ 1048576) ∧ Below w.heap.size w wr) (fun _ i _ => n - (intOf i).toNat)
    case atStart => exact ⟨0, l - n, by omega, rfl, rfl, by omega, by omega, fun i hi => by omega, Below.refl _ _⟩
    case round =>
      obtain ⟨k, r, hk, rfl, rfl, hr0, hr1, hall, bk⟩ := hrel
      have sk := bk.size
      by_cases hlt : k < n
      · have HW := HI.out.below bk
        have hx := HW.cell k hlt
        obtain rfl := HW.addr (by omega)
        have hzk := HZ.out k hlt
        have HALL : Hid ((L.getD k en0).name.size ≤ 1048576 → ∀ i, i < k + 1 → (L.getD i en0).name.size ≤ 1048576) := fun hc i hi => by
          by_cases e : i = k
          · subst e; exact hc
          · exact hall.out i (by omega)
        clear HW hall
        generalize L.getD k en0 = x at *
        have c0 := hx.c0
        have c1 := hx.c1
        have c2 := hx.c2
        have c3 := hx.c3
        have HC : Hid (Calls Tryz.prog 49 #[enV x, .int .i64 r] wr fun e w' => ∃ r' : Int, e = .returned (.int .i64 r') ∧ (r' < 0 ∨ (0 ≤ r' ∧ r' ≤ r ∧ x.name.size ≤ 1048576)) ∧ Below wr.heap.size wr w') := szEntry_any x r wr hzk hr0 hr1
        clear hx hzk
        go_wp2_with fail
        refine HC.out.mono ?_
        rintro e w1 ⟨r', rfl, hr, b1⟩
        have b01 := bk.trans (b1.mono sk)
        rcases hr with hr | ⟨hra, hrb, hrc⟩
        · clear HC c0 c1 c2 c3
          go_wp2
          go_ret
          exact ⟨-1, rfl, .inl (by omega), b01⟩
        · have HA2 : Hid (∀ i, i < k + 1 → (L.getD i en0).name.size ≤ 1048576) := HALL.out hrc
          clear HC c0 c1 c2 c3 HALL hrc
          go_wp2
          go_roundw
          case rel => exact ⟨k + 1, r', by omega, by go_num, rfl, hra, by omega, HA2, b01⟩
          case measure => simp [intOf]; omega
      · obtain rfl : k = n := by omega
        go_wp2
        go_ret
        exact ⟨r, rfl, .inr ⟨hn2, hall.out⟩, bk⟩

theorem eqRef_any (rc rg : Int) (w : World) : Calls Tryz.prog 91 #[refV rc rg, refV rc rg] w fun e w' => e = .returned (.bool true) ∧ Below w.heap.size w w' := Hp.eqRefV rc rg w

set_option maxHeartbeats 1000000 in
theorem eqEntry_any (x : En) (w : World) : Calls Tryz.prog 54 #[enV x, enV x] w fun e w' => e = .returned (.bool true) ∧ Below w.heap.size w w' := by
  obtain ⟨nm, rc, rg, due⟩ := x
  have bw : Below w.heap.size w ((w.alloc (.cells #[.string nm, .int .i64 rc, .int .i64 rg, .int .i64 due] 39)).alloc (.cells #[.string nm, .int .i64 rc, .int .i64 rg, .int .i64 due] 39)) := Go.Joins.below_alloc2 _ _ _
  have r1 := (RowAt.new w 39 #[.string nm, .int .i64 rc, .int .i64 rg, .int .i64 due]).below ((Below.refl _ _).alloc (Nat.le_refl _) (.cells #[.string nm, .int .i64 rc, .int .i64 rg, .int .i64 due] 39)) (by simp)
  have r2 := RowAt.new (w.alloc (.cells #[.string nm, .int .i64 rc, .int .i64 rg, .int .i64 due] 39)) 39 #[.string nm, .int .i64 rc, .int .i64 rg, .int .i64 due]
  simp only [World.size_alloc] at r2
  have HE : Hid (∀ W, Calls Tryz.prog 91 #[refV rc rg, refV rc rg] W fun e w' => e = .returned (.bool true) ∧ Below W.heap.size W w') := fun W => eqRef_any rc rg W
  go_enter Tryz.func54, Tryz.ntmps54
  go_wp2_with fail
  generalize (w.alloc (.cells #[.string nm, .int .i64 rc, .int .i64 rg, .int .i64 due] 39)).alloc (.cells #[.string nm, .int .i64 rc, .int .i64 rg, .int .i64 due] 39) = W at *
  refine (HE.out W).mono ?_
  rintro e w1 ⟨rfl, b1⟩
  have q1 := r1.below b1 r1.lt
  have q2 := r2.below b1 r2.lt
  obtain ⟨_, _, _, a3⟩ := row4 q1
  obtain ⟨_, _, _, d3⟩ := row4 q2
  have bb := bw.trans (b1.mono bw.size)
  clear r1 r2 q1 q2 b1 bw
  go_wp2
  go_ret
  exact ⟨rfl, bb⟩

set_option maxHeartbeats 1000000 in
theorem eqEntries_any (a a' : Option Addr) (b off b' off' n c c' : Nat) (L : List En) (w : World) (h : EntsIn w a b off n L) (h' : EntsIn w a' b' off' n L) (hn : n ≤ 1048576) :
    Calls Tryz.prog 19 #[.slice a n c, .slice a' n c'] w fun e w' => e = .returned (.bool true) ∧ Below w.heap.size w w' := by
  have H : Hid (EntsIn w a b off n L) := h
  have H' : Hid (EntsIn w a' b' off' n L) := h'
  clear h h'
  go_enter Tryz.func19, Tryz.ntmps19
  go_wp2
  go_loopw [5] (fun i wr => ∃ (k : Nat), k ≤ n ∧ i = .int .i64 k ∧ Below w.heap.size w wr) (fun i _ => n - (intOf i).toNat)
  case atStart => exact ⟨0, by omega, rfl, Below.refl _ _⟩
  case round =>
    obtain ⟨k, hk, rfl, bk⟩ := hrel
    have sk := bk.size
    by_cases hlt : k < n
    · have HW := H.out.below bk
      have HW' := H'.out.below bk
      have hx := HW.cell k hlt
      have hy := HW'.cell k hlt
      obtain rfl := HW.addr (by omega)
      obtain rfl := HW'.addr (by omega)
      generalize L.getD k en0 = x at *
      have cE : ∀ d os, Calls Tryz.prog 54 #[enV x, enV x] (grow (redrawn wr d) os) fun e w'' => e = .returned (.bool true) ∧ ∃ p : Regrown, w'' = grow (redrawn wr p.d) p.os := fun d os => Calls.regrown_of (eqEntry_any x _)
      obtain ⟨nm, rc, rg, due⟩ := x
      have kc0 := cell_regrown hx.c0
      have kc1 := cell_regrown hx.c1
      have kc2 := cell_regrown hx.c2
      have kc3 := cell_regrown hx.c3
      have kd0 := cell_regrown hy.c0
      have kd1 := cell_regrown hy.c1
      have kd2 := cell_regrown hy.c2
      have kd3 := cell_regrown hy.c3
      dsimp only at kc0 kc1 kc2 kc3 kd0 kd1 kd2 kd3
      clear HW HW' hx hy
      go_wp2
      refine wp_region_quiet_below (by kernel_rfl) (by kernel_rfl) ?_
      repeat (quiet_step (first | exact cE _ _))
      refine wpQuiet_nil ?_
      intro _ hw'
      obtain ⟨⟨dq, osq⟩, hw''⟩ := hw'
      subst hw''
      have bq := below_regrown wr dq osq
      generalize grow (redrawn wr dq) osq = wq at *
      go_wp2
      go_roundw
      case rel => exact ⟨k + 1, by omega, by go_num, bk.trans (bq.mono sk)⟩
      case measure => simp [intOf]; omega
    · go_wp2
      go_ret
      exact ⟨rfl, bk⟩

set_option maxHeartbeats 4000000 in
set_option maxRecDepth 100000 in
/-- Entries in a row of their own are marked: nothing but that row is turned. -/
theorem markEntries_any (g n k0 : Nat) (w : World) (D0 : Array Value) (hD0 : D0.size = n * 4) (h : RowAt w g 39 D0) (hn : n ≤ 1048576) (hk1 : 1 ≤ k0) (hk0 : k0 ≤ 100000000) :
    Calls Tryz.prog 21 #[.slice (some ⟨g, 0, none⟩) n n, .int .i64 k0] w fun e w' => e = .returned (.int .i64 (k0 + 4 * n : Nat)) ∧ w.grownBy w' (some g) := by
  have HD0 : Hid (D0.size = n * 4) := hD0
  clear hD0
  go_enter Tryz.func21, Tryz.ntmps21
  go_wp2
  go_loopw [1, 5] (fun kv i wr => ∃ (m : Nat) (D : Array Value), m ≤ n ∧ i = .int .i64 m ∧ kv = .int .i64 (k0 + 4 * m : Nat) ∧ Hid (D.size = n * 4) ∧ RowAt wr g 39 D ∧ w.grownBy wr (some g)) (fun _ i _ => n - (intOf i).toNat)
  case atStart => exact ⟨0, D0, by omega, rfl, rfl, HD0, h, grown_refl _ _⟩
  case round =>
    obtain ⟨m, D, hm, rfl, rfl, hD, hrow, gr⟩ := hrel
    by_cases hlt : m < n
    · have cM := Kk.mark_any (k0 + 4 * m) wr (by omega) (by omega)
      generalize hK : k0 + 4 * m = K at *
      have hKb : K ≤ 105000000 := by omega
      go_wp2_with fail
      refine cM.mono ?_
      rintro e w1 ⟨rfl, b1⟩
      have hrow1 := hrow.below b1 hrow.lt
      have hD4 : m * 4 + 3 < D.size := by rw [hD.out]; omega
      have t0 : w1.cell? ⟨g, m * 4, none⟩ = some (D[m * 4]'(by omega)) := by rw [hrow1.cell]; simp
      have f0 := hrow1.frozen (m * 4)
      have r1 := hrow1.set (m * 4) (.string (markB K))
      have t1 : (w1.setCell ⟨g, m * 4, none⟩ (.string (markB K))).cell? ⟨g, m * 4 + 1, none⟩ = some (D[m * 4 + 1]'(by omega)) := by rw [r1.cell, Array.getElem?_setIfInBounds_ne (by omega)]; simp
      have f1 := r1.frozen (m * 4 + 1)
      have r2 := r1.set (m * 4 + 1) (.int .i64 ((K : Int) + 1))
      have t2 : ((w1.setCell ⟨g, m * 4, none⟩ (.string (markB K))).setCell ⟨g, m * 4 + 1, none⟩ (.int .i64 ((K : Int) + 1))).cell? ⟨g, m * 4 + 2, none⟩ = some (D[m * 4 + 2]'(by omega)) := by rw [r2.cell, Array.getElem?_setIfInBounds_ne (by omega), Array.getElem?_setIfInBounds_ne (by omega)]; simp
      have f2 := r2.frozen (m * 4 + 2)
      have r3 := r2.set (m * 4 + 2) (.int .i64 ((K : Int) + 1 + 1))
      have t3 : (((w1.setCell ⟨g, m * 4, none⟩ (.string (markB K))).setCell ⟨g, m * 4 + 1, none⟩ (.int .i64 ((K : Int) + 1))).setCell ⟨g, m * 4 + 2, none⟩ (.int .i64 ((K : Int) + 1 + 1))).cell? ⟨g, m * 4 + 3, none⟩ = some (D[m * 4 + 3]'(by omega)) := by rw [r3.cell, Array.getElem?_setIfInBounds_ne (by omega), Array.getElem?_setIfInBounds_ne (by omega), Array.getElem?_setIfInBounds_ne (by omega)]; simp
      have f3 := r3.frozen (m * 4 + 3)
      have HR : Hid (RowAt _ g 39 _) := r3.set (m * 4 + 3) (.int .i64 ((K : Int) + 1 + 1 + 1))
      have HG : Hid _ := grown_trans (grown_trans (grown_trans (grown_trans (grown_below gr b1) (grown_set w1 g (m * 4) (.string (markB K)))) (grown_set _ g (m * 4 + 1) (.int .i64 ((K : Int) + 1)))) (grown_set _ g (m * 4 + 2) (.int .i64 ((K : Int) + 1 + 1)))) (grown_set _ g (m * 4 + 3) (.int .i64 ((K : Int) + 1 + 1 + 1)))
      generalize D[m * 4]'(by omega) = y0 at *
      generalize D[m * 4 + 1]'(by omega) = y1 at *
      generalize D[m * 4 + 2]'(by omega) = y2 at *
      generalize D[m * 4 + 3]'(by omega) = y3 at *
      have HKK : Hid (k0 + 4 * m = K) := hK
      clear hK hrow hrow1 r1 r2 r3 cM b1 gr
      generalize markB K = mk at *
      go_wp2
      go_roundw
      case rel => exact ⟨m + 1, _, by omega, by go_num, congrArg (Value.int .i64) (by have := HKK.out; omega), (show _ = _ by simp only [Array.size_setIfInBounds]; exact hD.out), HR.out, HG.out⟩
      case measure => simp [intOf]; omega
    · obtain rfl : m = n := by omega
      go_wp2
      go_ret
      exact ⟨rfl, gr⟩
end Go.Proofs.YtapdoechmnjaeaaGreatDoor
