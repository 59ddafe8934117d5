/- Lists of keys that came in: how much they hold; their copies. -/
import Derived.Test.YtjgmkbldclangaaGreatDoorSA
namespace Go.Proofs.YtjgmkbldclangaaGreatDoor
open Go.RowKit Go.Sort
open Kk (Rk rk0 rkV RanksIn OwnR PreR FitL)

/-- Keys that came in: they lie anywhere. -/
structure KeysIn (w : World) (a : Option Addr) (b off n : Nat) (L : List KV) : Prop where
  len : L.length = n
  addr : 0 < n → a = some ⟨b, off, none⟩
  low : 0 < n → b < w.heap.size
  cell : ∀ i, i < n → KeAt w b (off + i * 7) (L.getD i kv0)
  val : ∀ i, i < n → VIn w (L.getD i kv0).key.val (L.getD i kv0).vi (L.getD i kv0).vp (L.getD i kv0).vr
theorem KeysIn.below {w w' : World} {a : Option Addr} {b off n : Nat} {L : List KV} (h : KeysIn w a b off n L) (hb : Below w.heap.size w w') : KeysIn w' a b off n L :=
  ⟨h.len, h.addr, fun h0 => by have := h.low h0; have := hb.size; omega, fun i hi => ke_below (h.cell i hi) (h.low (by omega)) hb, fun i hi => (h.val i hi).below hb⟩

set_option maxHeartbeats 2000000 in
set_option maxRecDepth 100000 in
theorem szKeyS_any (a : Option Addr) (b off n c : Nat) (L : List KV) (left : Int) (w : World) (h : KeysIn w a b off n L) (hn : n ≤ 9223372036854775807) (hs : ∀ i, i < n → KLen (L.getD i kv0).key) (h0 : 0 ≤ left) (h1 : left ≤ 1048576) :
    Calls Tryz.prog 9 #[.slice a n c, .int .i64 left] w fun e w' => (∃ r : Int, e = .returned (.int .i64 r) ∧ (r < 0 ∨ (r ≤ left ∧ n ≤ 1048576 ∧ ∀ i, i < n → KGood (L.getD i kv0).key))) ∧ Below w.heap.size w w' := by
  have H : Hid (KeysIn w a b off n L) := h
  have HS : Hid (∀ i, i < n → KLen (L.getD i kv0).key) := hs
  clear h hs
  by_cases hneg : left - (n : Int) < 0
  · go_enter Tryz.func9, Tryz.ntmps9
    go_wp2
    go_ret
    exact ⟨⟨-1, rfl, .inl (by omega)⟩, Below.refl _ _⟩
  · go_enter Tryz.func9, Tryz.ntmps9
    go_wp2
    go_loopw [1, 5] (fun q i wr => ∃ (k : Nat) (l : Int), k ≤ n ∧ i = .int .i64 k ∧ q = .int .i64 l ∧ 0 ≤ l ∧ l ≤ left ∧ Hid (∀ i, i < k → KGood (L.getD i kv0).key) ∧ Below w.heap.size w wr) (fun _ i _ => n - (intOf i).toNat)
    case atStart => exact ⟨0, left - n, by omega, rfl, rfl, by omega, by omega, (fun i hi => by omega), Below.refl _ _⟩
    case round =>
      obtain ⟨k, l, hk, rfl, rfl, hl0, hl1, hgd, bk⟩ := hrel
      have sk := bk.size
      by_cases hlt : k < n
      · have HW := H.out.below bk
        have hc := HW.cell k hlt
        have hv := HW.val k hlt
        obtain rfl := HW.addr (by omega)
        have cS := szKey_any (L.getD k kv0) l wr hv (HS.out k hlt) hl0 (by omega)
        have HN : Hid (KGood (L.getD k kv0).key → ∀ i, i < k + 1 → KGood (L.getD i kv0).key) := fun h i hi => by
          by_cases e : i = k
          · subst e; exact h
          · exact hgd.out i (by omega)
        generalize L.getD k kv0 = x at *
        clear HW hv hgd
        generalize KGood x.key = GK at *
        obtain ⟨⟨nm, ⟨kd, t, _, _, _⟩, d⟩, vi, vp, vr⟩ := x
        obtain ⟨c0, c1, c2, c3, c4, c5, c6⟩ := hc
        dsimp only at c0 c1 c2 c3 c4 c5 c6
        go_wp2_with fail
        refine cS.mono ?_
        rintro e w1 ⟨⟨r, rfl, hr⟩, b1⟩
        have HR : Hid (r < 0 ∨ (r ≤ l ∧ GK)) := hr
        clear cS hr c0 c1 c2 c3 c4 c5 c6
        have b2 := bk.trans (b1.mono sk)
        by_cases hr0 : r < 0
        · go_wp2
          go_ret
          exact ⟨⟨-1, rfl, .inl (by omega)⟩, b2⟩
        · have hr1 := HR.out.resolve_left hr0
          have hr2 : r ≤ left := by have := hr1.1; omega
          have HN2 : Hid (∀ i, i < k + 1 → KGood (L.getD i kv0).key) := HN.out hr1.2
          clear hr1 HR HN
          go_wp2
          go_roundw
          case rel => exact ⟨k + 1, r, by omega, by go_num, rfl, by omega, by omega, HN2, b2⟩
          case measure => simp [intOf]; omega
      · obtain rfl : k = n := by omega
        go_wp2
        go_ret
        exact ⟨⟨l, rfl, .inr ⟨by omega, by omega, hgd.out⟩⟩, bk⟩

theorem make_keys (n : Nat) (hn : n ≤ 1048576) : ∃ C : Array Value, C.size = n * 7 ∧ ∀ w, (Instr.makeSlice 28 (.int .i64 n) (.int .i64 n)).run Tryz.prog w = .ok (.slice (some ⟨w.heap.size, 0, none⟩) n n) (w.alloc (.cells C 68)) := by
  obtain ⟨i0, hi, hz0, hz1, hz2⟩ := info_parts info47
  refine ⟨madeCells (Value.agg #[.string ⟨#[]⟩, .int .i64 0, .string ⟨#[]⟩, .slice none 0 0, .slice none 0 0, .slice none 0 0, .int .i64 0]).cells (n * i0.size), by rw [size_madeCells, hz1], fun w => ?_⟩
  have := run_make (P := Tryz.prog) w 28 68 i0 _ Tryz.underlying28 hi hz0 .i64 .i64 n n (by omega) (by omega) (by rw [hz2]; omega) (by omega)
  simpa using this

def PreKs (D : Array Value) (A : List KV) : Prop := ∀ i, i < A.length → ∀ j, j < 7 → D[i * 7 + j]? = (kvC (A.getD i kv0))[j]?

theorem preKs_put {D : Array Value} {A : List KV} {k : Nat} (y : KV) (hk : A.length = k) (h : PreKs D A) (hD : k * 7 + 6 < D.size) : PreKs (((((((D.setIfInBounds (k * 7) (.string y.key.name)).setIfInBounds (k * 7 + 1) (.int .i64 y.key.val.kind)).setIfInBounds (k * 7 + 2) (.string y.key.val.text)).setIfInBounds (k * 7 + 3) (y.vi)).setIfInBounds (k * 7 + 4) (y.vp)).setIfInBounds (k * 7 + 5) (y.vr)).setIfInBounds (k * 7 + 6) (.int .i64 y.key.due)) (A ++ [y]) := by
  intro i hi j hj
  rw [List.length_append, hk] at hi
  simp only [List.length_cons, List.length_nil] at hi
  by_cases e : i = k
  · subst e
    rw [show (A ++ [y]).getD i kv0 = y by rw [List.getD_eq_getElem?_getD, ← hk]; simp]
    have h7 : j = 0 ∨ j = 1 ∨ j = 2 ∨ j = 3 ∨ j = 4 ∨ j = 5 ∨ j = 6 := by omega
    rcases h7 with rfl | rfl | rfl | rfl | rfl | rfl | rfl
    · rw [show i * 7 + 0 = i * 7 from rfl, Array.getElem?_setIfInBounds_ne (by omega), Array.getElem?_setIfInBounds_ne (by omega), Array.getElem?_setIfInBounds_ne (by omega), Array.getElem?_setIfInBounds_ne (by omega), Array.getElem?_setIfInBounds_ne (by omega), Array.getElem?_setIfInBounds_ne (by omega), Array.getElem?_setIfInBounds_self_of_lt (by first | omega | (simp only [Array.size_setIfInBounds]; omega))]
      rfl
    · rw [Array.getElem?_setIfInBounds_ne (by omega), Array.getElem?_setIfInBounds_ne (by omega), Array.getElem?_setIfInBounds_ne (by omega), Array.getElem?_setIfInBounds_ne (by omega), Array.getElem?_setIfInBounds_ne (by omega), Array.getElem?_setIfInBounds_self_of_lt (by first | omega | (simp only [Array.size_setIfInBounds]; omega))]
      rfl
    · rw [Array.getElem?_setIfInBounds_ne (by omega), Array.getElem?_setIfInBounds_ne (by omega), Array.getElem?_setIfInBounds_ne (by omega), Array.getElem?_setIfInBounds_ne (by omega), Array.getElem?_setIfInBounds_self_of_lt (by first | omega | (simp only [Array.size_setIfInBounds]; omega))]
      rfl
    · rw [Array.getElem?_setIfInBounds_ne (by omega), Array.getElem?_setIfInBounds_ne (by omega), Array.getElem?_setIfInBounds_ne (by omega), Array.getElem?_setIfInBounds_self_of_lt (by first | omega | (simp only [Array.size_setIfInBounds]; omega))]
      rfl
    · rw [Array.getElem?_setIfInBounds_ne (by omega), Array.getElem?_setIfInBounds_ne (by omega), Array.getElem?_setIfInBounds_self_of_lt (by first | omega | (simp only [Array.size_setIfInBounds]; omega))]
      rfl
    · rw [Array.getElem?_setIfInBounds_ne (by omega), Array.getElem?_setIfInBounds_self_of_lt (by first | omega | (simp only [Array.size_setIfInBounds]; omega))]
      rfl
    · rw [Array.getElem?_setIfInBounds_self_of_lt (by first | omega | (simp only [Array.size_setIfInBounds]; omega))]
      rfl
  · rw [show (A ++ [y]).getD i kv0 = A.getD i kv0 by rw [List.getD_eq_getElem?_getD, List.getD_eq_getElem?_getD, List.getElem?_append_left (by omega)]]
    rw [Array.getElem?_setIfInBounds_ne (by omega), Array.getElem?_setIfInBounds_ne (by omega), Array.getElem?_setIfInBounds_ne (by omega), Array.getElem?_setIfInBounds_ne (by omega), Array.getElem?_setIfInBounds_ne (by omega), Array.getElem?_setIfInBounds_ne (by omega), Array.getElem?_setIfInBounds_ne (by omega)]
    exact h i (by omega) j hj

/-- Copies whose memory lies from B on. -/
structure DbU (w : World) (B : Nat) (a : Option Addr) (b n : Nat) (L : List KV) : Prop where
  ks : KsIn w a b n L
  lo : B ≤ b
  val : ∀ i, i < n → VOwn w B (L.getD i kv0).key.val (L.getD i kv0).vi (L.getD i kv0).vp (L.getD i kv0).vr
theorem DbU.at {w : World} {B : Nat} {a : Option Addr} {b n : Nat} {L : List KV} (h : DbU w B a b n L) : DbAt w a b n L := ⟨h.ks, fun i hi => ⟨B, h.val i hi⟩⟩
theorem ke_set {w : World} {b o : Nat} {x : KV} (h : KeAt w b o x) {q : Addr} (hq : q.block ≠ b) (v : Value) : KeAt (w.setCell q v) b o x := by
  have e : ∀ p : Addr, p.block = b → (w.setCell q v).cell? p = w.cell? p := fun p hp => World.cell?_of_block (Below.heap_setCell _ _ _ _ (by rw [hp]; exact fun e => hq e.symm))
  exact ⟨(e _ rfl).trans h.c0, (e _ rfl).trans h.c1, (e _ rfl).trans h.c2, (e _ rfl).trans h.c3, (e _ rfl).trans h.c4, (e _ rfl).trans h.c5, (e _ rfl).trans h.c6⟩
theorem DbU.set {w : World} {B : Nat} {a : Option Addr} {b n : Nat} {L : List KV} (h : DbU w B a b n L) {q : Addr} (hq : q.block < B) (v : Value) : DbU (w.setCell q v) B a b n L :=
  ⟨⟨h.ks.len, h.ks.addr, fun h0 => by simpa [World.setCell] using h.ks.low h0, fun i hi => ke_set (h.ks.cell i hi) (by have := h.lo; omega) v⟩, h.lo, fun i hi => vown_set (h.val i hi) hq v⟩
theorem DbU.below {w w' : World} {B : Nat} {a : Option Addr} {b n : Nat} {L : List KV} (h : DbU w B a b n L) (hb : Below w.heap.size w w') : DbU w' B a b n L :=
  ⟨h.ks.below hb, h.lo, fun i hi => (h.val i hi).below hb⟩
theorem DbU.le {w : World} {B B' : Nat} {a : Option Addr} {b n : Nat} {L : List KV} (h : DbU w B a b n L) (hB : B' ≤ B) : DbU w B' a b n L :=
  ⟨h.ks, Nat.le_trans hB h.lo, fun i hi => vown_le (h.val i hi) hB⟩

theorem vown_set7 {w : World} {B g o : Nat} {v : Vl} {vi vp vr : Value} (h : VOwn w B v vi vp vr) (hg : g < B) (a b c d e f x : Value) : VOwn (World.setCell (World.setCell (World.setCell (World.setCell (World.setCell (World.setCell (World.setCell w ⟨g, o, none⟩ a) ⟨g, o + 1, none⟩ b) ⟨g, o + 2, none⟩ c) ⟨g, o + 3, none⟩ d) ⟨g, o + 4, none⟩ e) ⟨g, o + 5, none⟩ f) ⟨g, o + 6, none⟩ x) B v vi vp vr :=
  (vown_set (vown_set (vown_set (vown_set (vown_set (vown_set (vown_set h (by exact hg) a) (by exact hg) b) (by exact hg) c) (by exact hg) d) (by exact hg) e) (by exact hg) f) (by exact hg) x)

set_option maxHeartbeats 4000000 in
set_option maxRecDepth 100000 in
theorem toKeyS_any (a : Option Addr) (b off n c : Nat) (L : List KV) (w : World) (h : KeysIn w a b off n L) (hn : n ≤ 1048576) (hg : ∀ i, i < n → KGood (L.getD i kv0).key) :
    Calls Tryz.prog 14 #[.slice a n c] w fun e w' => ∃ A : List KV, e = .returned (.slice (some ⟨w.heap.size, 0, none⟩) n n) ∧ DbU w' w.heap.size (some ⟨w.heap.size, 0, none⟩) w.heap.size n A ∧ (∀ i, i < n → (A.getD i kv0).key = (L.getD i kv0).key) ∧ Below w.heap.size w w' := by
  obtain ⟨C, hC, hmk⟩ := make_keys n hn
  have HC : Hid (C.size = n * 7) := hC
  have H : Hid (KeysIn w a b off n L) := h
  have HG : Hid (∀ i, i < n → KGood (L.getD i kv0).key) := hg
  clear hC h hg
  go_enter Tryz.func14, Tryz.ntmps14
  go_wp2
  go_loopw [4] (fun i wr => ∃ (k : Nat) (D : Array Value) (A : List KV), k ≤ n ∧ i = .int .i64 k ∧ Hid (D.size = n * 7) ∧ Hid (A.length = k) ∧ RowAt wr w.heap.size 68 D ∧ Hid (PreKs D A) ∧ Hid (∀ i, i < k → (A.getD i kv0).key = (L.getD i kv0).key) ∧ Hid (∀ i, i < k → VOwn wr (w.heap.size + 1) (A.getD i kv0).key.val (A.getD i kv0).vi (A.getD i kv0).vp (A.getD i kv0).vr) ∧ Below w.heap.size w wr) (fun i _ => n - (intOf i).toNat)
  case atStart => exact ⟨0, C, [], by omega, rfl, HC, rfl, RowAt.new _ _ _, (fun i hi => by simp at hi), (fun i hi => by omega), (fun i hi => by omega), (Below.refl _ _).alloc (Nat.le_refl _) _⟩
  case round =>
    obtain ⟨k, D, A, hkn, rfl, HD, HAl, hrow, hpre, hkey, hown, bk⟩ := hrel
    have sk := bk.size
    clear hmk
    by_cases hlt : k < n
    · have HW := H.out.below bk
      have hc := HW.cell k hlt
      have cT := toKey_any (L.getD k kv0) wr (HW.val k hlt) (HG.out k hlt).val
      obtain rfl := HW.addr (by omega)
      have hrl := hrow.lt
      have HKL : Hid (∀ y : KV, y.key = (L.getD k kv0).key → ∀ i, i < k + 1 → ((A ++ [y]).getD i kv0).key = (L.getD i kv0).key) := fun y hy i hi => by
        by_cases e : i = k
        · subst e
          rw [show (A ++ [y]).getD i kv0 = y by rw [List.getD_eq_getElem?_getD, ← HAl.out]; simp]
          exact hy
        · rw [show (A ++ [y]).getD i kv0 = A.getD i kv0 by rw [List.getD_eq_getElem?_getD, List.getD_eq_getElem?_getD, List.getElem?_append_left (by rw [HAl.out]; omega)]]
          exact hkey.out i (by omega)
      clear HW
      generalize L.getD k kv0 = x at *
      obtain ⟨⟨nm, vl, d⟩, vi, vp, vr⟩ := x
      obtain ⟨c0, c1, c2, c3, c4, c5, c6⟩ := hc
      dsimp only at c0 c1 c2 c3 c4 c5 c6
      have cT2 : Calls Tryz.prog 26 #[.agg #[.string nm, .int .i64 vl.kind, .string vl.text, vi, vp, vr, .int .i64 d]] wr fun e w' => ∃ xi xp xr, e = .returned (.agg #[.string nm, .int .i64 vl.kind, .string vl.text, xi, xp, xr, .int .i64 d]) ∧ VOwn w' wr.heap.size vl xi xp xr ∧ Below wr.heap.size wr w' := cT
      clear cT
      have HKD : Hid (∀ xi xp xr, kvC ⟨⟨nm, vl, d⟩, xi, xp, xr⟩ = [.string nm, .int .i64 vl.kind, .string vl.text, xi, xp, xr, .int .i64 d]) := fun _ _ _ => rfl
      have HPUT : Hid (∀ xi xp xr, PreKs (((((((D.setIfInBounds (k * 7) (.string nm)).setIfInBounds (k * 7 + 1) (.int .i64 vl.kind)).setIfInBounds (k * 7 + 2) (.string vl.text)).setIfInBounds (k * 7 + 3) (xi)).setIfInBounds (k * 7 + 4) (xp)).setIfInBounds (k * 7 + 5) (xr)).setIfInBounds (k * 7 + 6) (.int .i64 d)) (A ++ [⟨⟨nm, vl, d⟩, xi, xp, xr⟩])) := fun xi xp xr => preKs_put ⟨⟨nm, vl, d⟩, xi, xp, xr⟩ HAl.out hpre.out (by rw [HD.out]; omega)
      generalize hkd : vl.kind = kd at *
      generalize htx : vl.text = t at *
      clear hkd htx HKD hpre
      go_wp2_with fail
      refine cT2.mono ?_
      rintro e w1 ⟨xi, xp, xr, rfl, own1, b1⟩
      clear cT2 c0 c1 c2 c3 c4 c5 c6
      obtain ⟨pa, pc, ei⟩ := owns_form own1.items
      obtain ⟨qa, qc, ep⟩ := owns_form own1.pairs
      obtain ⟨sa, sc, er⟩ := owns_form own1.ranks
      subst ei ep er
      have own2 : VOwn w1 (w.heap.size + 1) vl (.slice pa vl.items.length pc) (.slice qa vl.pairs.length qc) (.slice sa vl.ranks.length sc) := vown_le own1 (by omega)
      have hown2 : ∀ i, i < k → VOwn w1 (w.heap.size + 1) (A.getD i kv0).key.val (A.getD i kv0).vi (A.getD i kv0).vp (A.getD i kv0).vr := fun i hi => (hown.out i hi).below b1
      generalize vl.items.length = ni at *
      generalize vl.pairs.length = np at *
      generalize vl.ranks.length = nr at *
      have hrow1 := RowAt.below hrow b1 hrl
      have hD2 : k * 7 + 6 < D.size := by rw [HD.out]; omega
      have t0 : w1.cell? ⟨w.heap.size, k * 7, none⟩ = some (D[k * 7]'(by omega)) := by rw [hrow1.cell]; simp
      have f0 := hrow1.frozen (k * 7)
      have t1 : w1.cell? ⟨w.heap.size, k * 7 + 1, none⟩ = some (D[k * 7 + 1]'(by omega)) := by rw [hrow1.cell]; simp
      have f1 := hrow1.frozen (k * 7 + 1)
      have t2 : w1.cell? ⟨w.heap.size, k * 7 + 2, none⟩ = some (D[k * 7 + 2]'(by omega)) := by rw [hrow1.cell]; simp
      have f2 := hrow1.frozen (k * 7 + 2)
      have t3 : w1.cell? ⟨w.heap.size, k * 7 + 3, none⟩ = some (D[k * 7 + 3]'(by omega)) := by rw [hrow1.cell]; simp
      have f3 := hrow1.frozen (k * 7 + 3)
      have t4 : w1.cell? ⟨w.heap.size, k * 7 + 4, none⟩ = some (D[k * 7 + 4]'(by omega)) := by rw [hrow1.cell]; simp
      have f4 := hrow1.frozen (k * 7 + 4)
      have t5 : w1.cell? ⟨w.heap.size, k * 7 + 5, none⟩ = some (D[k * 7 + 5]'(by omega)) := by rw [hrow1.cell]; simp
      have f5 := hrow1.frozen (k * 7 + 5)
      have t6 : w1.cell? ⟨w.heap.size, k * 7 + 6, none⟩ = some (D[k * 7 + 6]'(by omega)) := by rw [hrow1.cell]; simp
      have f6 := hrow1.frozen (k * 7 + 6)
      have HR : Hid _ := (RowAt.set (RowAt.set (RowAt.set (RowAt.set (RowAt.set (RowAt.set (RowAt.set hrow1 (k * 7) (.string nm)) (k * 7 + 1) (.int .i64 kd)) (k * 7 + 2) (.string t)) (k * 7 + 3) (.slice pa ni pc)) (k * 7 + 4) (.slice qa np qc)) (k * 7 + 5) (.slice sa nr sc)) (k * 7 + 6) (.int .i64 d))
      have HOW : Hid (∀ i, i < k + 1 → VOwn (World.setCell (World.setCell (World.setCell (World.setCell (World.setCell (World.setCell (World.setCell w1 ⟨w.heap.size, k * 7, none⟩ (.string nm)) ⟨w.heap.size, k * 7 + 1, none⟩ (.int .i64 kd)) ⟨w.heap.size, k * 7 + 2, none⟩ (.string t)) ⟨w.heap.size, k * 7 + 3, none⟩ (.slice pa ni pc)) ⟨w.heap.size, k * 7 + 4, none⟩ (.slice qa np qc)) ⟨w.heap.size, k * 7 + 5, none⟩ (.slice sa nr sc)) ⟨w.heap.size, k * 7 + 6, none⟩ (.int .i64 d)) (w.heap.size + 1) ((A ++ [(⟨⟨nm, vl, d⟩, .slice pa ni pc, .slice qa np qc, .slice sa nr sc⟩ : KV)]).getD i kv0).key.val ((A ++ [(⟨⟨nm, vl, d⟩, .slice pa ni pc, .slice qa np qc, .slice sa nr sc⟩ : KV)]).getD i kv0).vi ((A ++ [(⟨⟨nm, vl, d⟩, .slice pa ni pc, .slice qa np qc, .slice sa nr sc⟩ : KV)]).getD i kv0).vp ((A ++ [(⟨⟨nm, vl, d⟩, .slice pa ni pc, .slice qa np qc, .slice sa nr sc⟩ : KV)]).getD i kv0).vr) := fun i hi => by
        by_cases e : i = k
        · rw [e, show (A ++ [(⟨⟨nm, vl, d⟩, .slice pa ni pc, .slice qa np qc, .slice sa nr sc⟩ : KV)]).getD k kv0 = ⟨⟨nm, vl, d⟩, .slice pa ni pc, .slice qa np qc, .slice sa nr sc⟩ by rw [List.getD_eq_getElem?_getD, ← HAl.out]; simp]
          exact vown_set7 own2 (by omega) _ _ _ _ _ _ _
        · rw [show (A ++ [(⟨⟨nm, vl, d⟩, .slice pa ni pc, .slice qa np qc, .slice sa nr sc⟩ : KV)]).getD i kv0 = A.getD i kv0 by rw [List.getD_eq_getElem?_getD, List.getD_eq_getElem?_getD, List.getElem?_append_left (by rw [HAl.out]; omega)]]
          exact vown_set7 (hown2 i (by omega)) (by omega) _ _ _ _ _ _ _
      have HPU : Hid _ := HPUT.out (.slice pa ni pc) (.slice qa np qc) (.slice sa nr sc)
      have HKE : Hid _ := HKL.out ⟨⟨nm, vl, d⟩, .slice pa ni pc, .slice qa np qc, .slice sa nr sc⟩ rfl
      generalize D[k * 7]'(by omega) = u0 at *
      generalize D[k * 7 + 1]'(by omega) = u1 at *
      generalize D[k * 7 + 2]'(by omega) = u2 at *
      generalize D[k * 7 + 3]'(by omega) = u3 at *
      generalize D[k * 7 + 4]'(by omega) = u4 at *
      generalize D[k * 7 + 5]'(by omega) = u5 at *
      generalize D[k * 7 + 6]'(by omega) = u6 at *
      have b01 := bk.trans (b1.mono sk)
      clear hrow1 hrow b1 own1 own2 hown hown2 HPUT HKL hkey
      go_wp2
      go_roundw
      case rel => exact ⟨k + 1, _, _, by omega, by go_num, (by unfold Hid; simp only [Array.size_setIfInBounds]; exact HD.out), (by unfold Hid; rw [List.length_append, HAl.out]; rfl), HR.out, HPU, HKE, HOW, (Below.setCell (Below.setCell (Below.setCell (Below.setCell (Below.setCell (Below.setCell (Below.setCell b01 (Nat.le_refl _) _) (Nat.le_refl _) _) (Nat.le_refl _) _) (Nat.le_refl _) _) (Nat.le_refl _) _) (Nat.le_refl _) _) (Nat.le_refl _) _)⟩
      case measure => simp [intOf]; omega
    · obtain rfl : k = n := by omega
      have HO : Hid (DbU wr w.heap.size (some ⟨w.heap.size, 0, none⟩) w.heap.size k A) := ⟨⟨HAl.out, fun _ => rfl, fun _ => hrow.lt, fun i hi => by
        have e : ∀ j, j < 7 → wr.cell? ⟨w.heap.size, i * 7 + j, none⟩ = (kvC (A.getD i kv0))[j]? := fun j hj => (hrow.cell _).trans (hpre.out i (by rw [HAl.out]; exact hi) j hj)
        exact ⟨e 0 (by omega), e 1 (by omega), e 2 (by omega), e 3 (by omega), e 4 (by omega), e 5 (by omega), e 6 (by omega)⟩⟩, Nat.le_refl _, fun i hi => vown_le (hown.out i hi) (by omega)⟩
      have HK2 : Hid (∀ i, i < k → (A.getD i kv0).key = (L.getD i kv0).key) := hkey
      clear hrow hpre hkey hown HAl HD
      go_wp2
      go_ret
      exact ⟨A, rfl, HO.out, HK2.out, bk⟩
end Go.Proofs.YtjgmkbldclangaaGreatDoor
