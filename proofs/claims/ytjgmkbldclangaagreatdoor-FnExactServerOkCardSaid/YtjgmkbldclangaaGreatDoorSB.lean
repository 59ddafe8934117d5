/- A client that came in: how much it holds; its copy; held against another. Lists of clients that came in: how much they hold; their copies; held against each other. -/
import Derived.Test.YtjgmkbldclangaaGreatDoorS5
import Derived.Test.YtjgmkbldclangaaGreatDoorFSe4
import Derived.Lib.QuietBelow
namespace Go.Proofs.YtjgmkbldclangaaGreatDoor
open Go.RowKit Go.Sort
open _root_.Go.Proofs.YtjgmkbldclangaaGreatDoor.Fd (ListsB ListsU SmallQ sessV sessB)

structure Cl where
  id : Int
  rest : ByteArray
  multi : Bool
  Q : List (List ByteArray)
  dirty : Bool
  dead : Bool
structure CV where
  cl : Cl
  q : Value
def cl0 : Cl := ⟨0, bz, false, [], false, false⟩
def cv0 : CV := ⟨cl0, nilS⟩
abbrev cvV (x : CV) : Value := .agg #[.int .i64 x.cl.id, .string x.cl.rest, .bool x.cl.multi, x.q, .bool x.cl.dirty, .bool x.cl.dead]
def cvC (x : CV) : List Value := [.int .i64 x.cl.id, .string x.cl.rest, .bool x.cl.multi, x.q, .bool x.cl.dirty, .bool x.cl.dead]

theorem at6 {W : World} {g : Nat} {T : TypeId} {a b c d e f : Value} (q : RowAt W g T #[a, b, c, d, e, f]) : W.cell? ⟨g, 0, none⟩ = some a ∧ W.cell? ⟨g, 1, none⟩ = some b ∧ W.cell? ⟨g, 2, none⟩ = some c ∧ W.cell? ⟨g, 3, none⟩ = some d ∧ W.cell? ⟨g, 4, none⟩ = some e ∧ W.cell? ⟨g, 5, none⟩ = some f :=
  ⟨q.cell 0, q.cell 1, q.cell 2, q.cell 3, q.cell 4, q.cell 5⟩

structure ClLen (c : Cl) : Prop where
  rest : c.rest.size ≤ 9223372036854775807
  len : c.Q.length ≤ 9223372036854775807
  each : ∀ ss ∈ c.Q, ss.length ≤ 9223372036854775807
structure ClGood (c : Cl) : Prop where
  rest : c.rest.size ≤ 1048576
  small : SmallQ c.Q

set_option maxHeartbeats 2000000 in
set_option maxRecDepth 100000 in
theorem szClient_any (x : CV) (left : Int) (w : World) (h : ListsB w x.q x.cl.Q) (hl : ClLen x.cl) (h0 : 0 ≤ left) (h1 : left ≤ 1048576) :
    Calls Tryz.prog 22 #[cvV x, .int .i64 left] w fun e w' => (∃ r : Int, e = .returned (.int .i64 r) ∧ (r < 0 ∨ (r ≤ left ∧ ClGood x.cl))) ∧ Below w.heap.size w w' := by
  have HV : Hid (∀ W, Below w.heap.size w W → Calls Tryz.prog 39 #[sessV x.cl.rest x.cl.multi x.q x.cl.dirty x.cl.dead, .int .i64 left] W fun e w' => (∃ r : Int, e = .returned (.int .i64 r) ∧ (r < 0 ∨ (r ≤ left ∧ x.cl.rest.size ≤ 1048576 ∧ SmallQ x.cl.Q))) ∧ Below W.heap.size W w') := fun W hb => Fd.szSess_any _ _ _ _ _ _ left h0 h1 W hl.rest (h.below hb) hl.len hl.each
  have HG : Hid ((x.cl.rest.size ≤ 1048576 ∧ SmallQ x.cl.Q) → ClGood x.cl) := fun a => ⟨a.1, a.2⟩
  obtain ⟨a, c, hq⟩ := h.val
  clear h hl
  generalize ClGood x.cl = GOOD at *
  generalize (x.cl.rest.size ≤ 1048576 ∧ SmallQ x.cl.Q) = SG at *
  obtain ⟨⟨id, t, multi, Q, dirty, dead⟩, q⟩ := x
  dsimp only at *
  subst hq
  generalize Q.length = n at *
  have b0 : Below w.heap.size w (w.alloc (.cells #[.int .i64 id, .string t, .bool multi, .slice a n c, .bool dirty, .bool dead] 62)) := (Below.refl _ w).alloc (Nat.le_refl _) _
  obtain ⟨wa, hwa⟩ : ∃ wa, w.alloc (.cells #[.int .i64 id, .string t, .bool multi, .slice a n c, .bool dirty, .bool dead] 62) = wa := ⟨_, rfl⟩
  have HWA : Hid (w.alloc (.cells #[.int .i64 id, .string t, .bool multi, .slice a n c, .bool dirty, .bool dead] 62) = wa) := hwa
  rw [hwa] at b0
  have HVc := HV.out wa b0
  clear hwa HV
  go_enter Tryz.func22, Tryz.ntmps22
  go_wp2_with fail
  rw [HWA.out]
  refine HVc.mono ?_
  rintro e w1 ⟨⟨r, rfl, hr⟩, b1⟩
  have HR : Hid (r < 0 ∨ (r ≤ left ∧ SG)) := hr
  have bb := b0.trans (b1.mono b0.size)
  clear hr HVc
  by_cases hx : r < 0
  · have hxd : decide (r < 0) = true := decide_eq_true hx
    go_wp2
    go_ret
    exact ⟨⟨-1, rfl, .inl (by omega)⟩, bb⟩
  · have hxd : decide (r < 0) = false := decide_eq_false hx
    have hz := HR.out.resolve_left hx
    have HZ : Hid (r ≤ left ∧ GOOD) := ⟨hz.1, HG.out hz.2⟩
    clear hz HR
    go_wp2
    go_ret
    exact ⟨⟨r, rfl, .inr HZ.out⟩, bb⟩

set_option maxHeartbeats 4000000 in
set_option maxRecDepth 100000 in
theorem toClient_any (x : CV) (w : World) (h : ListsB w x.q x.cl.Q) (hg : SmallQ x.cl.Q) :
    Calls Tryz.prog 27 #[cvV x] w fun e w' => ∃ y, e = .returned (cvV ⟨x.cl, y⟩) ∧ ListsU w.heap.size w' y x.cl.Q ∧ Below w.heap.size w w' := by
  have HV : Hid (∀ W, Below w.heap.size w W → Calls Tryz.prog 45 #[sessV x.cl.rest x.cl.multi x.q x.cl.dirty x.cl.dead] W fun e w' => ∃ y, e = .returned (sessV x.cl.rest x.cl.multi y x.cl.dirty x.cl.dead) ∧ ListsU W.heap.size w' y x.cl.Q ∧ Below W.heap.size W w') := fun W hb => Fd.toSess_any _ _ _ _ _ _ W (h.below hb) hg
  obtain ⟨a, c, hq⟩ := h.val
  clear h hg
  obtain ⟨⟨id, t, multi, Q, dirty, dead⟩, q⟩ := x
  dsimp only at *
  subst hq
  go_enter Tryz.func27, Tryz.ntmps27
  go_wp2_with fail
  have bw : Below w.heap.size w (((w.alloc (.cells #[.int .i64 id, .string t, .bool multi, .slice a Q.length c, .bool dirty, .bool dead] 62)).alloc (.cells #[.int .i64 0, .string ⟨#[]⟩, .bool false, .slice none 0 0, .bool false, .bool false] 43)).alloc (.cells #[.int .i64 id, .string ⟨#[]⟩, .bool false, .slice none 0 0, .bool false, .bool false] 43)) := Go.Joins.below_alloc3 _ _ _ _
  obtain ⟨r0, r1, r2, hsz⟩ := three_new w #[.int .i64 id, .string t, .bool multi, .slice a Q.length c, .bool dirty, .bool dead] #[.int .i64 0, .string ⟨#[]⟩, .bool false, .slice none 0 0, .bool false, .bool false] #[.int .i64 id, .string ⟨#[]⟩, .bool false, .slice none 0 0, .bool false, .bool false] 62 43 43
  generalize (((w.alloc (.cells #[.int .i64 id, .string t, .bool multi, .slice a Q.length c, .bool dirty, .bool dead] 62)).alloc (.cells #[.int .i64 0, .string ⟨#[]⟩, .bool false, .slice none 0 0, .bool false, .bool false] 43)).alloc (.cells #[.int .i64 id, .string ⟨#[]⟩, .bool false, .slice none 0 0, .bool false, .bool false] 43)) = W at *
  refine (HV.out W bw).mono ?_
  rintro e w1 ⟨y, rfl, own1, b1⟩
  have q1 := RowAt.below r1 b1 (by omega)
  have q2 := RowAt.below r2 b1 (by omega)
  have bb1 : Below w.heap.size w w1 := bw.trans (b1.mono (by omega))
  obtain ⟨pa, pc, ei⟩ := own1.val
  subst ei
  have HOWN : Hid (ListsU (w.heap.size + 1 + 1 + 1) w1 (.slice pa Q.length pc) Q) := own1.le (by omega)
  clear r0 r1 r2 b1 bw hsz own1
  generalize hn : Q.length = n at *
  clear hn
  obtain ⟨z0, z1, z2, z3, z4, z5⟩ := at6 q2
  obtain ⟨x0, x1, x2, x3, x4, x5⟩ := at6 q1
  have z1f := q2.frozen 1
  have z2f := q2.frozen 2
  have z3f := q2.frozen 3
  have z4f := q2.frozen 4
  have z5f := q2.frozen 5
  have x0f := q1.frozen 0
  have x1f := q1.frozen 1
  have x2f := q1.frozen 2
  have x3f := q1.frozen 3
  have x4f := q1.frozen 4
  have x5f := q1.frozen 5
  clear q1 q2
  go_wp2
  refine bodyPost_ret (v := .agg #[.int .i64 id, .string t, .bool multi, .slice pa n pc, .bool dirty, .bool dead]) (by simp [results, Tryz.results27, go_sem, x0, x1, x2, x3, x4, x5]) rfl ⟨_, rfl, ?_, ?_⟩
  · refine ListsU.le (B := w.heap.size + 1 + 1 + 1) ?_ (by omega)
    repeat refine ListsU.set ?_ (by first | omega | (simp only; omega)) _
    exact HOWN.out
  · repeat refine Below.setCell ?_ (by first | omega | (simp only; omega)) _
    exact bb1

set_option maxHeartbeats 2000000 in
set_option maxRecDepth 100000 in
theorem eqClient_any (c : Cl) (q q' : Value) (w : World) (h : ListsB w q c.Q) (h' : ListsB w q' c.Q) (hs : SmallQ c.Q) :
    Calls Tryz.prog 37 #[cvV ⟨c, q⟩, cvV ⟨c, q'⟩] w fun e w' => e = .returned (.bool true) ∧ Below w.heap.size w w' := by
  have HE : Hid (∀ W, Below w.heap.size w W → Calls Tryz.prog 54 #[sessV c.rest c.multi q c.dirty c.dead, sessV c.rest c.multi q' c.dirty c.dead] W fun e w' => e = .returned (.bool true) ∧ Below W.heap.size W w') := fun W hb => Fd.eqSess_any _ _ _ _ _ _ _ W (h.below hb) (h'.below hb) hs
  clear h h' hs
  obtain ⟨id, t, multi, Q, dirty, dead⟩ := c
  dsimp only at HE
  have b0 : Below w.heap.size w ((w.alloc (.cells #[.int .i64 id, .string t, .bool multi, q, .bool dirty, .bool dead] 43)).alloc (.cells #[.int .i64 id, .string t, .bool multi, q', .bool dirty, .bool dead] 43)) := ((Below.refl _ w).alloc (Nat.le_refl _) _).alloc (by simp) _
  obtain ⟨wa, hwa⟩ : ∃ wa, (w.alloc (.cells #[.int .i64 id, .string t, .bool multi, q, .bool dirty, .bool dead] 43)).alloc (.cells #[.int .i64 id, .string t, .bool multi, q', .bool dirty, .bool dead] 43) = wa := ⟨_, rfl⟩
  have HWA : Hid ((w.alloc (.cells #[.int .i64 id, .string t, .bool multi, q, .bool dirty, .bool dead] 43)).alloc (.cells #[.int .i64 id, .string t, .bool multi, q', .bool dirty, .bool dead] 43) = wa) := hwa
  rw [hwa] at b0
  clear hwa
  have HEc := HE.out wa b0
  go_enter Tryz.func37, Tryz.ntmps37
  go_wp2_with fail
  rw [HWA.out]
  refine HEc.mono ?_
  rintro e w1 ⟨rfl, b1⟩
  have bb1 := b0.trans (b1.mono b0.size)
  clear b0 b1 HWA HEc HE
  go_wp2
  go_ret
  exact ⟨rfl, bb1⟩
end Go.Proofs.YtjgmkbldclangaaGreatDoor

namespace Go.Proofs.YtjgmkbldclangaaGreatDoor
open Go.RowKit Go.Sort
open _root_.Go.Proofs.YtjgmkbldclangaaGreatDoor.Fd (ListsB ListsU SmallQ sessV sessB)

structure ClAt (w : World) (b o : Nat) (x : CV) : Prop where
  c0 : w.cell? ⟨b, o, none⟩ = some (.int .i64 x.cl.id)
  c1 : w.cell? ⟨b, o + 1, none⟩ = some (.string x.cl.rest)
  c2 : w.cell? ⟨b, o + 2, none⟩ = some (.bool x.cl.multi)
  c3 : w.cell? ⟨b, o + 3, none⟩ = some x.q
  c4 : w.cell? ⟨b, o + 4, none⟩ = some (.bool x.cl.dirty)
  c5 : w.cell? ⟨b, o + 5, none⟩ = some (.bool x.cl.dead)
theorem cl_below {w w' : World} {b o B : Nat} {x : CV} (h : ClAt w b o x) (hl : b < B) (hb : Below B w w') : ClAt w' b o x :=
  ⟨(hb.cell (p := ⟨b, o, none⟩) hl).trans h.c0, (hb.cell (p := ⟨b, o + 1, none⟩) hl).trans h.c1, (hb.cell (p := ⟨b, o + 2, none⟩) hl).trans h.c2, (hb.cell (p := ⟨b, o + 3, none⟩) hl).trans h.c3, (hb.cell (p := ⟨b, o + 4, none⟩) hl).trans h.c4, (hb.cell (p := ⟨b, o + 5, none⟩) hl).trans h.c5⟩
theorem cl_set {w : World} {b o : Nat} {x : CV} (h : ClAt w b o x) {q : Addr} (hq : q.block ≠ b) (v : Value) : ClAt (w.setCell q v) b o x := by
  have e : ∀ p : Addr, p.block = b → (w.setCell q v).cell? p = w.cell? p := fun p hp => World.cell?_of_block (Below.heap_setCell _ _ _ _ (by rw [hp]; exact fun e => hq e.symm))
  exact ⟨(e _ rfl).trans h.c0, (e _ rfl).trans h.c1, (e _ rfl).trans h.c2, (e _ rfl).trans h.c3, (e _ rfl).trans h.c4, (e _ rfl).trans h.c5⟩

/-- Clients that are read, wherever they lie. -/
structure ClsIn (w : World) (a : Option Addr) (b off n : Nat) (L : List CV) : Prop where
  len : L.length = n
  addr : 0 < n → a = some ⟨b, off, none⟩
  low : 0 < n → b < w.heap.size
  cell : ∀ i, i < n → ClAt w b (off + i * 6) (L.getD i cv0)
  val : ∀ i, i < n → ListsB w (L.getD i cv0).q (L.getD i cv0).cl.Q
theorem ClsIn.below {w w' : World} {a : Option Addr} {b off n : Nat} {L : List CV} (h : ClsIn w a b off n L) (hb : Below w.heap.size w w') : ClsIn w' a b off n L :=
  ⟨h.len, h.addr, fun h0 => by have := h.low h0; have := hb.size; omega, fun i hi => cl_below (h.cell i hi) (h.low (by omega)) hb, fun i hi => (h.val i hi).below hb⟩

set_option maxHeartbeats 2000000 in
set_option maxRecDepth 100000 in
theorem szClientS_any (a : Option Addr) (b off n c : Nat) (L : List CV) (left : Int) (w : World) (h : ClsIn w a b off n L) (hn : n ≤ 9223372036854775807) (hs : ∀ i, i < n → ClLen (L.getD i cv0).cl) (h0 : 0 ≤ left) (h1 : left ≤ 1048576) :
    Calls Tryz.prog 10 #[.slice a n c, .int .i64 left] w fun e w' => (∃ r : Int, e = .returned (.int .i64 r) ∧ (r < 0 ∨ (r ≤ left ∧ n ≤ 1048576 ∧ ∀ i, i < n → ClGood (L.getD i cv0).cl))) ∧ Below w.heap.size w w' := by
  have H : Hid (ClsIn w a b off n L) := h
  have HS : Hid (∀ i, i < n → ClLen (L.getD i cv0).cl) := hs
  clear h hs
  by_cases hneg : left - (n : Int) < 0
  · go_enter Tryz.func10, Tryz.ntmps10
    go_wp2
    go_ret
    exact ⟨⟨-1, rfl, .inl (by omega)⟩, Below.refl _ _⟩
  · go_enter Tryz.func10, Tryz.ntmps10
    go_wp2
    go_loopw [1, 5] (fun q i wr => ∃ (k : Nat) (l : Int), k ≤ n ∧ i = .int .i64 k ∧ q = .int .i64 l ∧ 0 ≤ l ∧ l ≤ left ∧ Hid (∀ i, i < k → ClGood (L.getD i cv0).cl) ∧ Below w.heap.size w wr) (fun _ i _ => n - (intOf i).toNat)
    case atStart => exact ⟨0, left - n, by omega, rfl, rfl, by omega, by omega, (fun i hi => by omega), Below.refl _ _⟩
    case round =>
      obtain ⟨k, l, hk, rfl, rfl, hl0, hl1, hgd, bk⟩ := hrel
      have sk := bk.size
      by_cases hlt : k < n
      · have HW := H.out.below bk
        have hc := HW.cell k hlt
        have hv := HW.val k hlt
        obtain rfl := HW.addr (by omega)
        have cS := szClient_any (L.getD k cv0) l wr hv (HS.out k hlt) hl0 (by omega)
        have HN : Hid (ClGood (L.getD k cv0).cl → ∀ i, i < k + 1 → ClGood (L.getD i cv0).cl) := fun h i hi => by
          by_cases e : i = k
          · subst e; exact h
          · exact hgd.out i (by omega)
        generalize L.getD k cv0 = x at *
        clear HW hv hgd
        generalize ClGood x.cl = GK at *
        obtain ⟨⟨id, t, multi, Q, dirty, dead⟩, q⟩ := x
        obtain ⟨c0, c1, c2, c3, c4, c5⟩ := hc
        dsimp only at c0 c1 c2 c3 c4 c5
        go_wp2_with fail
        refine cS.mono ?_
        rintro e w1 ⟨⟨r, rfl, hr⟩, b1⟩
        have HR : Hid (r < 0 ∨ (r ≤ l ∧ GK)) := hr
        clear cS hr c0 c1 c2 c3 c4 c5
        have b2 := bk.trans (b1.mono sk)
        by_cases hr0 : r < 0
        · go_wp2
          go_ret
          exact ⟨⟨-1, rfl, .inl (by omega)⟩, b2⟩
        · have hr1 := HR.out.resolve_left hr0
          have hr2 : r ≤ left := by have := hr1.1; omega
          have HN2 : Hid (∀ i, i < k + 1 → ClGood (L.getD i cv0).cl) := HN.out hr1.2
          clear hr1 HR HN
          go_wp2
          go_roundw
          case rel => exact ⟨k + 1, r, by omega, by go_num, rfl, by omega, by omega, HN2, b2⟩
          case measure => simp [intOf]; omega
      · obtain rfl : k = n := by omega
        go_wp2
        go_ret
        exact ⟨⟨l, rfl, .inr ⟨by omega, by omega, hgd.out⟩⟩, bk⟩

theorem info43 : (Tryz.prog.info? 43).map (fun i => (i.zero, i.size, i.bytes)) = some (some (.agg #[.int .i64 0, .string ⟨#[]⟩, .bool false, .slice none 0 0, .bool false, .bool false]), 6, 64) := by kernel_rfl
theorem make_clients (n : Nat) (hn : n ≤ 1048576) : ∃ C : Array Value, C.size = n * 6 ∧ ∀ w, (Instr.makeSlice 29 (.int .i64 n) (.int .i64 n)).run Tryz.prog w = .ok (.slice (some ⟨w.heap.size, 0, none⟩) n n) (w.alloc (.cells C 43)) := by
  obtain ⟨i0, hi, hz0, hz1, hz2⟩ := info_parts info43
  refine ⟨madeCells (Value.agg #[.int .i64 0, .string ⟨#[]⟩, .bool false, .slice none 0 0, .bool false, .bool false]).cells (n * i0.size), by rw [size_madeCells, hz1], fun w => ?_⟩
  have := run_make (P := Tryz.prog) w 29 43 i0 _ Tryz.underlying29 hi hz0 .i64 .i64 n n (by omega) (by omega) (by rw [hz2]; omega) (by omega)
  simpa using this

def PreCs (D : Array Value) (A : List CV) : Prop := ∀ i, i < A.length → ∀ j, j < 6 → D[i * 6 + j]? = (cvC (A.getD i cv0))[j]?

theorem preCs_put {D : Array Value} {A : List CV} {k : Nat} (y : CV) (hk : A.length = k) (h : PreCs D A) (hD : k * 6 + 5 < D.size) : PreCs ((((((D.setIfInBounds (k * 6) (.int .i64 y.cl.id)).setIfInBounds (k * 6 + 1) (.string y.cl.rest)).setIfInBounds (k * 6 + 2) (.bool y.cl.multi)).setIfInBounds (k * 6 + 3) (y.q)).setIfInBounds (k * 6 + 4) (.bool y.cl.dirty)).setIfInBounds (k * 6 + 5) (.bool y.cl.dead)) (A ++ [y]) := by
  intro i hi j hj
  rw [List.length_append, hk] at hi
  simp only [List.length_cons, List.length_nil] at hi
  by_cases e : i = k
  · subst e
    rw [show (A ++ [y]).getD i cv0 = y by rw [List.getD_eq_getElem?_getD, ← hk]; simp]
    have h7 : j = 0 ∨ j = 1 ∨ j = 2 ∨ j = 3 ∨ j = 4 ∨ j = 5 := by omega
    rcases h7 with rfl | rfl | rfl | rfl | rfl | rfl
    · rw [show i * 6 + 0 = i * 6 from rfl, Array.getElem?_setIfInBounds_ne (by omega), Array.getElem?_setIfInBounds_ne (by omega), Array.getElem?_setIfInBounds_ne (by omega), Array.getElem?_setIfInBounds_ne (by omega), Array.getElem?_setIfInBounds_ne (by omega), Array.getElem?_setIfInBounds_self_of_lt (by first | omega | (simp only [Array.size_setIfInBounds]; omega))]
      rfl
    · rw [Array.getElem?_setIfInBounds_ne (by omega), Array.getElem?_setIfInBounds_ne (by omega), Array.getElem?_setIfInBounds_ne (by omega), Array.getElem?_setIfInBounds_ne (by omega), Array.getElem?_setIfInBounds_self_of_lt (by first | omega | (simp only [Array.size_setIfInBounds]; omega))]
      rfl
    · rw [Array.getElem?_setIfInBounds_ne (by omega), Array.getElem?_setIfInBounds_ne (by omega), Array.getElem?_setIfInBounds_ne (by omega), Array.getElem?_setIfInBounds_self_of_lt (by first | omega | (simp only [Array.size_setIfInBounds]; omega))]
      rfl
    · rw [Array.getElem?_setIfInBounds_ne (by omega), Array.getElem?_setIfInBounds_ne (by omega), Array.getElem?_setIfInBounds_self_of_lt (by first | omega | (simp only [Array.size_setIfInBounds]; omega))]
      rfl
    · rw [Array.getElem?_setIfInBounds_ne (by omega), Array.getElem?_setIfInBounds_self_of_lt (by first | omega | (simp only [Array.size_setIfInBounds]; omega))]
      rfl
    · rw [Array.getElem?_setIfInBounds_self_of_lt (by first | omega | (simp only [Array.size_setIfInBounds]; omega))]
      rfl
  · rw [show (A ++ [y]).getD i cv0 = A.getD i cv0 by rw [List.getD_eq_getElem?_getD, List.getD_eq_getElem?_getD, List.getElem?_append_left (by omega)]]
    rw [Array.getElem?_setIfInBounds_ne (by omega), Array.getElem?_setIfInBounds_ne (by omega), Array.getElem?_setIfInBounds_ne (by omega), Array.getElem?_setIfInBounds_ne (by omega), Array.getElem?_setIfInBounds_ne (by omega), Array.getElem?_setIfInBounds_ne (by omega)]
    exact h i (by omega) j hj

/-- Copies whose memory lies from B on. -/
structure ClsU (w : World) (B : Nat) (a : Option Addr) (b n : Nat) (L : List CV) : Prop where
  len : L.length = n
  addr : 0 < n → a = some ⟨b, 0, none⟩
  low : 0 < n → b < w.heap.size
  cell : ∀ i, i < n → ClAt w b (i * 6) (L.getD i cv0)
  lo : B ≤ b
  val : ∀ i, i < n → ListsU B w (L.getD i cv0).q (L.getD i cv0).cl.Q
theorem ClsU.in {w : World} {B : Nat} {a : Option Addr} {b n : Nat} {L : List CV} (h : ClsU w B a b n L) : ClsIn w a b 0 n L :=
  ⟨h.len, h.addr, h.low, fun i hi => by rw [Nat.zero_add]; exact h.cell i hi, fun i hi => (h.val i hi).lists⟩
theorem ClsU.set {w : World} {B : Nat} {a : Option Addr} {b n : Nat} {L : List CV} (h : ClsU w B a b n L) {q : Addr} (hq : q.block < B) (v : Value) : ClsU (w.setCell q v) B a b n L :=
  ⟨h.len, h.addr, fun h0 => by simpa [World.setCell] using h.low h0, fun i hi => cl_set (h.cell i hi) (by have := h.lo; omega) v, h.lo, fun i hi => (h.val i hi).set hq v⟩
theorem ClsU.below {w w' : World} {B : Nat} {a : Option Addr} {b n : Nat} {L : List CV} (h : ClsU w B a b n L) (hb : Below w.heap.size w w') : ClsU w' B a b n L :=
  ⟨h.len, h.addr, fun h0 => by have := h.low h0; have := hb.size; omega, fun i hi => cl_below (h.cell i hi) (h.low (by omega)) hb, h.lo, fun i hi => (h.val i hi).below hb⟩
theorem ClsU.le {w : World} {B B' : Nat} {a : Option Addr} {b n : Nat} {L : List CV} (h : ClsU w B a b n L) (hB : B' ≤ B) : ClsU w B' a b n L :=
  ⟨h.len, h.addr, h.low, h.cell, Nat.le_trans hB h.lo, fun i hi => (h.val i hi).le hB⟩

theorem listsU_set6 {w : World} {B g o : Nat} {v : Value} {Q : List (List ByteArray)} (h : ListsU B w v Q) (hg : g < B) (a b c d e x : Value) : ListsU B (World.setCell (World.setCell (World.setCell (World.setCell (World.setCell (World.setCell w ⟨g, o, none⟩ a) ⟨g, o + 1, none⟩ b) ⟨g, o + 2, none⟩ c) ⟨g, o + 3, none⟩ d) ⟨g, o + 4, none⟩ e) ⟨g, o + 5, none⟩ x) v Q :=
  (ListsU.set (ListsU.set (ListsU.set (ListsU.set (ListsU.set (ListsU.set h (by exact hg) a) (by exact hg) b) (by exact hg) c) (by exact hg) d) (by exact hg) e) (by exact hg) x)

set_option maxHeartbeats 4000000 in
set_option maxRecDepth 100000 in
theorem toClientS_any (a : Option Addr) (b off n c : Nat) (L : List CV) (w : World) (h : ClsIn w a b off n L) (hn : n ≤ 1048576) (hg : ∀ i, i < n → ClGood (L.getD i cv0).cl) :
    Calls Tryz.prog 15 #[.slice a n c] w fun e w' => ∃ A : List CV, e = .returned (.slice (some ⟨w.heap.size, 0, none⟩) n n) ∧ ClsU w' w.heap.size (some ⟨w.heap.size, 0, none⟩) w.heap.size n A ∧ (∀ i, i < n → (A.getD i cv0).cl = (L.getD i cv0).cl) ∧ Below w.heap.size w w' := by
  obtain ⟨C, hC, hmk⟩ := make_clients n hn
  have HC : Hid (C.size = n * 6) := hC
  have H : Hid (ClsIn w a b off n L) := h
  have HG : Hid (∀ i, i < n → ClGood (L.getD i cv0).cl) := hg
  clear hC h hg
  go_enter Tryz.func15, Tryz.ntmps15
  go_wp2
  go_loopw [4] (fun i wr => ∃ (k : Nat) (D : Array Value) (A : List CV), k ≤ n ∧ i = .int .i64 k ∧ Hid (D.size = n * 6) ∧ Hid (A.length = k) ∧ RowAt wr w.heap.size 43 D ∧ Hid (PreCs D A) ∧ Hid (∀ i, i < k → (A.getD i cv0).cl = (L.getD i cv0).cl) ∧ Hid (∀ i, i < k → ListsU (w.heap.size + 1) wr (A.getD i cv0).q (A.getD i cv0).cl.Q) ∧ Below w.heap.size w wr) (fun i _ => n - (intOf i).toNat)
  case atStart => exact ⟨0, C, [], by omega, rfl, HC, rfl, RowAt.new _ _ _, (fun i hi => by simp at hi), (fun i hi => by omega), (fun i hi => by omega), (Below.refl _ _).alloc (Nat.le_refl _) _⟩
  case round =>
    obtain ⟨k, D, A, hkn, rfl, HD, HAl, hrow, hpre, hkey, hown, bk⟩ := hrel
    have sk := bk.size
    clear hmk
    by_cases hlt : k < n
    · have HW := H.out.below bk
      have hc := HW.cell k hlt
      have cT := toClient_any (L.getD k cv0) wr (HW.val k hlt) (HG.out k hlt).small
      obtain rfl := HW.addr (by omega)
      have hrl := hrow.lt
      have HKL : Hid (∀ y : CV, y.cl = (L.getD k cv0).cl → ∀ i, i < k + 1 → ((A ++ [y]).getD i cv0).cl = (L.getD i cv0).cl) := fun y hy i hi => by
        by_cases e : i = k
        · subst e
          rw [show (A ++ [y]).getD i cv0 = y by rw [List.getD_eq_getElem?_getD, ← HAl.out]; simp]
          exact hy
        · rw [show (A ++ [y]).getD i cv0 = A.getD i cv0 by rw [List.getD_eq_getElem?_getD, List.getD_eq_getElem?_getD, List.getElem?_append_left (by rw [HAl.out]; omega)]]
          exact hkey.out i (by omega)
      clear HW
      generalize L.getD k cv0 = x at *
      obtain ⟨⟨id, t, multi, Q, dirty, dead⟩, q⟩ := x
      obtain ⟨c0, c1, c2, c3, c4, c5⟩ := hc
      dsimp only at c0 c1 c2 c3 c4 c5
      have cT2 : Calls Tryz.prog 27 #[.agg #[.int .i64 id, .string t, .bool multi, q, .bool dirty, .bool dead]] wr fun e w' => ∃ y, e = .returned (.agg #[.int .i64 id, .string t, .bool multi, y, .bool dirty, .bool dead]) ∧ ListsU wr.heap.size w' y Q ∧ Below wr.heap.size wr w' := cT
      clear cT
      have HPUT : Hid (∀ y, PreCs ((((((D.setIfInBounds (k * 6) (.int .i64 id)).setIfInBounds (k * 6 + 1) (.string t)).setIfInBounds (k * 6 + 2) (.bool multi)).setIfInBounds (k * 6 + 3) (y)).setIfInBounds (k * 6 + 4) (.bool dirty)).setIfInBounds (k * 6 + 5) (.bool dead)) (A ++ [⟨⟨id, t, multi, Q, dirty, dead⟩, y⟩])) := fun y => preCs_put ⟨⟨id, t, multi, Q, dirty, dead⟩, y⟩ HAl.out hpre.out (by rw [HD.out]; omega)
      clear hpre
      go_wp2_with fail
      refine cT2.mono ?_
      rintro e w1 ⟨y, rfl, own1, b1⟩
      clear cT2 c0 c1 c2 c3 c4 c5
      obtain ⟨pa, pc, ei⟩ := own1.val
      subst ei
      have own2 : ListsU (w.heap.size + 1) w1 (.slice pa Q.length pc) Q := own1.le (by omega)
      have hown2 : ∀ i, i < k → ListsU (w.heap.size + 1) w1 (A.getD i cv0).q (A.getD i cv0).cl.Q := fun i hi => (hown.out i hi).below b1
      generalize hn1 : Q.length = n1 at *
      clear hn1
      have hrow1 := RowAt.below hrow b1 hrl
      have hD2 : k * 6 + 5 < D.size := by rw [HD.out]; omega
      have t0 : w1.cell? ⟨w.heap.size, k * 6, none⟩ = some (D[k * 6]'(by omega)) := by rw [hrow1.cell]; simp
      have f0 := hrow1.frozen (k * 6)
      have t1 : w1.cell? ⟨w.heap.size, k * 6 + 1, none⟩ = some (D[k * 6 + 1]'(by omega)) := by rw [hrow1.cell]; simp
      have f1 := hrow1.frozen (k * 6 + 1)
      have t2 : w1.cell? ⟨w.heap.size, k * 6 + 2, none⟩ = some (D[k * 6 + 2]'(by omega)) := by rw [hrow1.cell]; simp
      have f2 := hrow1.frozen (k * 6 + 2)
      have t3 : w1.cell? ⟨w.heap.size, k * 6 + 3, none⟩ = some (D[k * 6 + 3]'(by omega)) := by rw [hrow1.cell]; simp
      have f3 := hrow1.frozen (k * 6 + 3)
      have t4 : w1.cell? ⟨w.heap.size, k * 6 + 4, none⟩ = some (D[k * 6 + 4]'(by omega)) := by rw [hrow1.cell]; simp
      have f4 := hrow1.frozen (k * 6 + 4)
      have t5 : w1.cell? ⟨w.heap.size, k * 6 + 5, none⟩ = some (D[k * 6 + 5]'(by omega)) := by rw [hrow1.cell]; simp
      have f5 := hrow1.frozen (k * 6 + 5)
      have HR : Hid _ := (RowAt.set (RowAt.set (RowAt.set (RowAt.set (RowAt.set (RowAt.set hrow1 (k * 6) (.int .i64 id)) (k * 6 + 1) (.string t)) (k * 6 + 2) (.bool multi)) (k * 6 + 3) (.slice pa n1 pc)) (k * 6 + 4) (.bool dirty)) (k * 6 + 5) (.bool dead))
      have HOW : Hid (∀ i, i < k + 1 → ListsU (w.heap.size + 1) (World.setCell (World.setCell (World.setCell (World.setCell (World.setCell (World.setCell w1 ⟨w.heap.size, k * 6, none⟩ (.int .i64 id)) ⟨w.heap.size, k * 6 + 1, none⟩ (.string t)) ⟨w.heap.size, k * 6 + 2, none⟩ (.bool multi)) ⟨w.heap.size, k * 6 + 3, none⟩ (.slice pa n1 pc)) ⟨w.heap.size, k * 6 + 4, none⟩ (.bool dirty)) ⟨w.heap.size, k * 6 + 5, none⟩ (.bool dead)) ((A ++ [(⟨⟨id, t, multi, Q, dirty, dead⟩, .slice pa n1 pc⟩ : CV)]).getD i cv0).q ((A ++ [(⟨⟨id, t, multi, Q, dirty, dead⟩, .slice pa n1 pc⟩ : CV)]).getD i cv0).cl.Q) := fun i hi => by
        by_cases e : i = k
        · rw [e, show (A ++ [(⟨⟨id, t, multi, Q, dirty, dead⟩, .slice pa n1 pc⟩ : CV)]).getD k cv0 = (⟨⟨id, t, multi, Q, dirty, dead⟩, .slice pa n1 pc⟩ : CV) by rw [List.getD_eq_getElem?_getD, ← HAl.out]; simp]
          exact listsU_set6 own2 (by omega) _ _ _ _ _ _
        · rw [show (A ++ [(⟨⟨id, t, multi, Q, dirty, dead⟩, .slice pa n1 pc⟩ : CV)]).getD i cv0 = A.getD i cv0 by rw [List.getD_eq_getElem?_getD, List.getD_eq_getElem?_getD, List.getElem?_append_left (by rw [HAl.out]; omega)]]
          exact listsU_set6 (hown2 i (by omega)) (by omega) _ _ _ _ _ _
      have HPU : Hid _ := HPUT.out (.slice pa n1 pc)
      have HKE : Hid _ := HKL.out (⟨⟨id, t, multi, Q, dirty, dead⟩, .slice pa n1 pc⟩ : CV) rfl
      generalize D[k * 6]'(by omega) = u0 at *
      generalize D[k * 6 + 1]'(by omega) = u1 at *
      generalize D[k * 6 + 2]'(by omega) = u2 at *
      generalize D[k * 6 + 3]'(by omega) = u3 at *
      generalize D[k * 6 + 4]'(by omega) = u4 at *
      generalize D[k * 6 + 5]'(by omega) = u5 at *
      have b01 := bk.trans (b1.mono sk)
      clear hrow1 hrow b1 own1 own2 hown hown2 HPUT HKL hkey
      go_wp2
      go_roundw
      case rel => exact ⟨k + 1, _, _, by omega, by go_num, (by unfold Hid; simp only [Array.size_setIfInBounds]; exact HD.out), (by unfold Hid; rw [List.length_append, HAl.out]; rfl), HR.out, HPU, HKE, HOW, (Below.setCell (Below.setCell (Below.setCell (Below.setCell (Below.setCell (Below.setCell b01 (Nat.le_refl _) _) (Nat.le_refl _) _) (Nat.le_refl _) _) (Nat.le_refl _) _) (Nat.le_refl _) _) (Nat.le_refl _) _)⟩
      case measure => simp [intOf]; omega
    · obtain rfl : k = n := by omega
      have HO : Hid (ClsU wr w.heap.size (some ⟨w.heap.size, 0, none⟩) w.heap.size k A) := ⟨HAl.out, fun _ => rfl, fun _ => hrow.lt, fun i hi => by
        have e : ∀ j, j < 6 → wr.cell? ⟨w.heap.size, i * 6 + j, none⟩ = (cvC (A.getD i cv0))[j]? := fun j hj => (hrow.cell _).trans (hpre.out i (by rw [HAl.out]; exact hi) j hj)
        exact ⟨e 0 (by omega), e 1 (by omega), e 2 (by omega), e 3 (by omega), e 4 (by omega), e 5 (by omega)⟩, Nat.le_refl _, fun i hi => (hown.out i hi).le (by omega)⟩
      have HK2 : Hid (∀ i, i < k → (A.getD i cv0).cl = (L.getD i cv0).cl) := hkey
      clear hrow hpre hkey hown HAl HD
      go_wp2
      go_ret
      exact ⟨A, rfl, HO.out, HK2.out, bk⟩

set_option maxHeartbeats 2000000 in
set_option maxRecDepth 100000 in
theorem eqClientS_any (a a' : Option Addr) (b off b' off' n c c' : Nat) (L L' : List CV) (w : World) (h : ClsIn w a b off n L) (h' : ClsIn w a' b' off' n L') (hs : ∀ i, i < n → SmallQ (L.getD i cv0).cl.Q) (he : ∀ i, i < n → (L'.getD i cv0).cl = (L.getD i cv0).cl) (hn : n ≤ 1048577) :
    Calls Tryz.prog 20 #[.slice a n c, .slice a' n c'] w fun e w' => e = .returned (.bool true) ∧ Below w.heap.size w w' := by
  have H : Hid (ClsIn w a b off n L) := h
  have H' : Hid (ClsIn w a' b' off' n L') := h'
  have HS : Hid (∀ i, i < n → SmallQ (L.getD i cv0).cl.Q) := hs
  have HE : Hid (∀ i, i < n → (L'.getD i cv0).cl = (L.getD i cv0).cl) := he
  clear h h' hs he
  go_enter Tryz.func20, Tryz.ntmps20
  go_wp2
  go_loopw [5] (fun i wr => ∃ (k : Nat), k ≤ n ∧ i = .int .i64 k ∧ Below w.heap.size w wr) (fun i _ => n - (intOf i).toNat)
  case atStart => exact ⟨0, by omega, rfl, Below.refl _ _⟩
  case round =>
    obtain ⟨k, hk, rfl, bk⟩ := hrel
    have sk := bk.size
    by_cases hlt : k < n
    · have HW := H.out.below bk
      have HW' := H'.out.below bk
      have hx := HW.cell k hlt
      have hy := HW'.cell k hlt
      have vx := HW.val k hlt
      have vy := HW'.val k hlt
      have hon := HS.out k hlt
      have hke := HE.out k hlt
      obtain rfl := HW.addr (by omega)
      obtain rfl := HW'.addr (by omega)
      generalize L.getD k cv0 = x at *
      generalize L'.getD k cv0 = y at *
      obtain ⟨kx, q⟩ := x
      obtain ⟨ky, q'⟩ := y
      dsimp only at hke
      subst hke
      have cE : ∀ d os, Calls Tryz.prog 37 #[cvV ⟨ky, q⟩, cvV ⟨ky, q'⟩] (grow (redrawn wr d) os) fun e w'' => e = .returned (.bool true) ∧ ∃ p : Regrown, w'' = grow (redrawn wr p.d) p.os := fun d os => Calls.regrown_of (eqClient_any ky q q' _ (vx.below (below_regrown wr d os)) (vy.below (below_regrown wr d os)) hon)
      clear HW HW' vx vy hon
      obtain ⟨id, t, multi, Q, dirty, dead⟩ := ky
      obtain ⟨c0, c1, c2, c3, c4, c5⟩ := hx
      obtain ⟨e0, e1, e2, e3, e4, e5⟩ := hy
      dsimp only at c0 c1 c2 c3 c4 c5 e0 e1 e2 e3 e4 e5 cE
      have kc0 := cell_regrown c0
      have kc1 := cell_regrown c1
      have kc2 := cell_regrown c2
      have kc3 := cell_regrown c3
      have kc4 := cell_regrown c4
      have kc5 := cell_regrown c5
      have ke0 := cell_regrown e0
      have ke1 := cell_regrown e1
      have ke2 := cell_regrown e2
      have ke3 := cell_regrown e3
      have ke4 := cell_regrown e4
      have ke5 := cell_regrown e5
      clear c0 c1 c2 c3 c4 c5 e0 e1 e2 e3 e4 e5
      have hk0 : (0 : Int) ≤ (k : Int) := by omega
      have hkn : (k : Int) < (n : Int) := by omega
      go_wp2
      refine wp_region_quiet_below (by kernel_rfl) (by kernel_rfl) ?_
      repeat (first | go_big_quiet_skip | quiet_step (first | with_reducible exact cE _ _))
      refine wpQuiet_nil ?_
      intro _ hw'
      obtain ⟨⟨dq, osq⟩, hw''⟩ := hw'
      subst hw''
      have bq := below_regrown wr dq osq
      generalize grow (redrawn wr dq) osq = wq at *
      clear kc0 kc1 kc2 kc3 kc4 kc5 ke0 ke1 ke2 ke3 ke4 ke5 cE
      go_wp2
      go_roundw
      case rel => exact ⟨k + 1, by omega, by go_num, bk.trans (bq.mono sk)⟩
      case measure => simp [intOf]; omega
    · go_wp2
      go_ret
      exact ⟨rfl, bk⟩
end Go.Proofs.YtjgmkbldclangaaGreatDoor
