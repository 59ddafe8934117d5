/- Keys in memory: a row of keys, the values in rows of their own, one key's rows newer than those of the keys before it. -/
import Derived.Test.YtjgmkbldclangaaGreatDoorAa
import Derived.Test.YtjgmkbldclangaaGreatDoorY4
namespace Go.Proofs.YtjgmkbldclangaaGreatDoor
open Go.RowKit Go.Sort
open Kk (Rk rk0 texL texR decS scoreB rightB ranksB OwnR flatR encR markB RanksIn)

structure Ke where
  name : ByteArray
  val : Vl
  due : Int
structure KV where
  key : Ke
  vi : Value
  vp : Value
  vr : Value
def ke0 : Ke := ⟨bz, vl0, 0⟩
def kv0 : KV := ⟨ke0, nilS, nilS, nilS⟩

abbrev kvV (x : KV) : Value := .agg #[.string x.key.name, .int .i64 x.key.val.kind, .string x.key.val.text, x.vi, x.vp, x.vr, .int .i64 x.key.due]
def kvC (x : KV) : List Value := [.string x.key.name, .int .i64 x.key.val.kind, .string x.key.val.text, x.vi, x.vp, x.vr, .int .i64 x.key.due]
def flatK (L : List KV) : List Value := L.flatMap kvC
abbrev OwnK (w : World) (B : Nat) (v : Value) (L : List KV) : Prop := w.ownsRow B 68 7 v L.length (flatK L)

theorem flatK_app (L M : List KV) : flatK (L ++ M) = flatK L ++ flatK M := List.flatMap_append
theorem flatK_cons (x : KV) (L : List KV) : flatK (x :: L) = kvC x ++ flatK L := rfl
theorem flatK_len : ∀ L : List KV, (flatK L).length = L.length * 7
  | [] => rfl
  | x :: L => by rw [flatK_cons, List.length_append, flatK_len L, List.length_cons]; simp [kvC]; omega
theorem flatK_at : ∀ (L : List KV) (i j : Nat), i < L.length → j < 7 → (flatK L)[i * 7 + j]? = (kvC (L.getD i kv0))[j]?
  | [], i, j, h, _ => by simp at h
  | x :: L, 0, j, _, hj => by
    rw [flatK_cons, List.getElem?_append_left (by simp [kvC]; omega)]
    simp
  | x :: L, i + 1, j, h, hj => by
    rw [flatK_cons, List.getElem?_append_right (by simp [kvC]; omega)]
    have := flatK_at L i j (by simpa using h) hj
    rw [show (i + 1) * 7 + j - (kvC x).length = i * 7 + j from by simp [kvC]; omega, this]
    simp

theorem ownK_nil (w : World) (B : Nat) : OwnK w B (.slice none 0 0) [] := World.ownsRow_nil _ _ _ _
theorem info47 : (Tryz.prog.info? 68).map (fun i => (i.zero, i.size, i.bytes)) = some (some (.agg #[.string ⟨#[]⟩, .int .i64 0, .string ⟨#[]⟩, .slice none 0 0, .slice none 0 0, .slice none 0 0, .int .i64 0]), 7, 120) := by kernel_rfl

theorem app_key {w : World} {B : Nat} {V : Value} {L : List KV} (k : Ke) (a1 a2 a3 : Option Addr) (n1 c1 n2 c2 n3 c3 : Nat) (h : OwnK w B V L) (hn : L.length ≤ 1048576) (hB : B ≤ w.heap.size) :
    ∃ v' w', (Builtin.append_ #[28, 28] 28 #[V, .slice (some ⟨w.heap.size, 0, none⟩) 1 1]).run Tryz.prog (w.alloc (.cells #[.string k.name, .int .i64 k.val.kind, .string k.val.text, .slice a1 n1 c1, .slice a2 n2 c2, .slice a3 n3 c3, .int .i64 k.due] 68)) = .ok v' w' ∧ OwnK w' B v' (L ++ [⟨k, .slice a1 n1 c1, .slice a2 n2 c2, .slice a3 n3 c3⟩]) ∧ Below B w w' ∧ w.grownBy w' V.ownBlock := by
  obtain ⟨i0, hi, hz0, hz1, hz2⟩ := info_parts info47
  have hbl : Below w.heap.size w (w.alloc (.cells #[.string k.name, .int .i64 k.val.kind, .string k.val.text, .slice a1 n1 c1, .slice a2 n2 c2, .slice a3 n3 c3, .int .i64 k.due] 68)) := (Below.refl _ w).alloc (Nat.le_refl _) _
  have oA := owns_below h hbl
  obtain ⟨v', w', hrun, hown, hg, _, hblk⟩ := run_append_own_at (P := Tryz.prog) (w.alloc (.cells #[.string k.name, .int .i64 k.val.kind, .string k.val.text, .slice a1 n1 c1, .slice a2 n2 c2, .slice a3 n3 c3, .int .i64 k.due] 68)) B 28 28 68 i0 _ 7 120 Tryz.underlying28 hi hz0 hz1 hz2 rfl (by decide) V L.length (flatK L) oA ⟨w.heap.size, 0, none⟩ 1 1 [.string k.name, .int .i64 k.val.kind, .string k.val.text, .slice a1 n1 c1, .slice a2 n2 c2, .slice a3 n3 c3, .int .i64 k.due] rfl (fun j u hj => by
    rw [Addr.add_lit, Nat.zero_add]
    exact ((RowAt.new w 68 #[.string k.name, .int .i64 k.val.kind, .string k.val.text, .slice a1 n1 c1, .slice a2 n2 c2, .slice a3 n3 c3, .int .i64 k.due]).cell j).trans (by simpa using hj)) (fun u hu => by simp at hu; rcases hu with rfl | rfl | rfl | rfl | rfl | rfl | rfl <;> rfl) (by unfold maxLen; omega) (by omega) (by simp; omega)
  refine ⟨v', w', hrun, ?_, below_own (Below.refl _ w) hB h hg, ?_⟩
  · unfold OwnK
    rw [List.length_append, flatK_app]
    exact hown
  · have hs : (w.alloc (.cells #[.string k.name, .int .i64 k.val.kind, .string k.val.text, .slice a1 n1 c1, .slice a2 n2 c2, .slice a3 n3 c3, .int .i64 k.due] 68)).heap.size = w.heap.size + 1 := by simp
    have h2 := hg.size
    exact ⟨hg.os, hg.tape, hg.output, by omega, fun k hk hr => (hg.block k (by omega) hr).trans (Below.heap_alloc _ _ _ (by omega))⟩

/-- The cells of one key. -/
structure KeAt (w : World) (b o : Nat) (x : KV) : Prop where
  c0 : w.cell? ⟨b, o, none⟩ = some (.string x.key.name)
  c1 : w.cell? ⟨b, o + 1, none⟩ = some (.int .i64 x.key.val.kind)
  c2 : w.cell? ⟨b, o + 2, none⟩ = some (.string x.key.val.text)
  c3 : w.cell? ⟨b, o + 3, none⟩ = some x.vi
  c4 : w.cell? ⟨b, o + 4, none⟩ = some x.vp
  c5 : w.cell? ⟨b, o + 5, none⟩ = some x.vr
  c6 : w.cell? ⟨b, o + 6, none⟩ = some (.int .i64 x.key.due)
structure KsIn (w : World) (a : Option Addr) (b n : Nat) (L : List KV) : Prop where
  len : L.length = n
  addr : 0 < n → a = some ⟨b, 0, none⟩
  low : 0 < n → b < w.heap.size
  cell : ∀ i, i < n → KeAt w b (i * 7) (L.getD i kv0)

theorem ke_below {w w' : World} {b o B : Nat} {x : KV} (h : KeAt w b o x) (hl : b < B) (hb : Below B w w') : KeAt w' b o x :=
  ⟨(hb.cell (p := ⟨b, o, none⟩) hl).trans h.c0, (hb.cell (p := ⟨b, o + 1, none⟩) hl).trans h.c1, (hb.cell (p := ⟨b, o + 2, none⟩) hl).trans h.c2, (hb.cell (p := ⟨b, o + 3, none⟩) hl).trans h.c3, (hb.cell (p := ⟨b, o + 4, none⟩) hl).trans h.c4, (hb.cell (p := ⟨b, o + 5, none⟩) hl).trans h.c5, (hb.cell (p := ⟨b, o + 6, none⟩) hl).trans h.c6⟩
theorem KsIn.below {w w' : World} {a : Option Addr} {b n : Nat} {L : List KV} (h : KsIn w a b n L) (hb : Below w.heap.size w w') : KsIn w' a b n L :=
  ⟨h.len, h.addr, fun h0 => by have := h.low h0; have := hb.size; omega, fun i hi => ke_below (h.cell i hi) (h.low (by omega)) hb⟩

theorem ownK_in {w : World} {B : Nat} {v : Value} {L : List KV} (h : OwnK w B v L) : ∃ a A c, v = .slice a L.length c ∧ KsIn w a A L.length L := by
  obtain ⟨hxl, ⟨rfl, h0⟩ | ⟨g, cap, cur, rfl, hg, hh, hcap, hmax, hcs, htk⟩⟩ := h
  · rw [h0]
    exact ⟨none, 0, 0, rfl, ⟨h0, fun h => by omega, fun h => by omega, fun i hi => by omega⟩⟩
  · refine ⟨some ⟨g, 0, none⟩, g, cap, rfl, ⟨rfl, fun _ => rfl, fun _ => (Array.getElem?_eq_some_iff.1 hh).1, fun i hi => ?_⟩⟩
    have hr : RowAt w g 68 cur := hh
    have e : ∀ j, j < 7 → w.cell? ⟨g, i * 7 + j, none⟩ = (kvC (L.getD i kv0))[j]? := fun j hj => by
      rw [hr.cell, ← flatK_at L i j hi hj, ← htk, List.getElem?_take, if_pos (by omega), Array.getElem?_toList]
    exact ⟨e 0 (by omega), e 1 (by omega), e 2 (by omega), e 3 (by omega), e 4 (by omega), e 5 (by omega), e 6 (by omega)⟩

/-- Rows of values, one key's behind the other's. -/
structure Rising (w : World) (B : Nat) (L : List KV) (N : Nat) (β : Nat → Nat) : Prop where
  low : ∀ i, i ≤ L.length → B ≤ β i
  mono : ∀ i j, i ≤ j → j ≤ L.length → β i ≤ β j
  top : β L.length ≤ N
  own : ∀ i, i < L.length → VOwn w (β i) (L.getD i kv0).key.val (L.getD i kv0).vi (L.getD i kv0).vp (L.getD i kv0).vr
  lt1 : ∀ i, i < L.length → ∀ g, (L.getD i kv0).vi.ownBlock = some g → g < β (i + 1)
  lt2 : ∀ i, i < L.length → ∀ g, (L.getD i kv0).vp.ownBlock = some g → g < β (i + 1)
  lt3 : ∀ i, i < L.length → ∀ g, (L.getD i kv0).vr.ownBlock = some g → g < β (i + 1)

theorem rising_nil (w : World) (B N : Nat) (h : B ≤ N) : Rising w B [] N (fun _ => B) :=
  ⟨fun _ _ => Nat.le_refl _, fun _ _ _ _ => Nat.le_refl _, h, fun i hi => by simp at hi, fun i hi => by simp at hi, fun i hi => by simp at hi, fun i hi => by simp at hi⟩

theorem row_type {w : World} {p T T' : Nat} {C C' : Array Value} (h : RowAt w p T C) (h' : RowAt w p T' C') : T = T' := by
  have : some (Obj.cells C T (0, 0)) = some (Obj.cells C' T' (0, 0)) := h.symm.trans h'
  simp at this
  exact this.2

theorem own_type {w : World} {B : Nat} {e : TypeId} {size n : Nat} {v : Value} {xs : List Value} (h : w.ownsRow B e size v n xs) {g : Nat} (hg : v.ownBlock = some g) : ∃ C, RowAt w g e C := by
  obtain ⟨_, ⟨rfl, _⟩ | ⟨g', cap, cur, rfl, _, hh, _⟩⟩ := h
  · cases hg
  · have e : g' = g := by simpa [Value.ownBlock] using hg
    subst e
    exact ⟨cur, hh⟩

theorem vown_le {w : World} {B B' : Nat} {v : Vl} {vi vp vr : Value} (h : VOwn w B v vi vp vr) (hB : B' ≤ B) : VOwn w B' v vi vp vr :=
  ⟨Go.Joins.ownsRow_le h.items hB, Go.Joins.ownsRow_le h.pairs hB, Go.Joins.ownsRow_le h.ranks hB⟩

/-- A value's rows stand where no row but one of another type is turned. -/
theorem vown_kept {w w' : World} {B : Nat} {v : Vl} {vi vp vr : Value} (h : VOwn w B v vi vp vr) (hk : ∀ g e C, e ≠ 68 → RowAt w g e C → w'.heap[g]? = w.heap[g]?) : VOwn w' B v vi vp vr := by
  refine ⟨owns_block h.items fun g hg => ?_, owns_block h.pairs fun g hg => ?_, owns_block h.ranks fun g hg => ?_⟩
  · obtain ⟨C, hC⟩ := own_type h.items hg
    exact hk g 9 C (by decide) hC
  · obtain ⟨C, hC⟩ := own_type h.pairs hg
    exact hk g 104 C (by decide) hC
  · obtain ⟨C, hC⟩ := own_type h.ranks hg
    exact hk g 106 C (by decide) hC

theorem Rising.kept {w w' : World} {B N : Nat} {L : List KV} {β : Nat → Nat} (h : Rising w B L N β) (hk : ∀ g e C, e ≠ 68 → RowAt w g e C → w'.heap[g]? = w.heap[g]?) : Rising w' B L N β :=
  ⟨h.low, h.mono, h.top, fun i hi => vown_kept (h.own i hi) hk, h.lt1, h.lt2, h.lt3⟩

theorem Rising.below {w w' : World} {B N : Nat} {L : List KV} {β : Nat → Nat} (h : Rising w B L N β) (hb : Below w.heap.size w w') : Rising w' B L N β :=
  h.kept fun g _ _ _ hg => hb.block g hg.lt

theorem Rising.up {w : World} {B N N' : Nat} {L : List KV} {β : Nat → Nat} (h : Rising w B L N β) (hN : N ≤ N') : Rising w B L N' β :=
  ⟨h.low, h.mono, Nat.le_trans h.top hN, h.own, h.lt1, h.lt2, h.lt3⟩

/-- What an append to the row of keys turns is a row of keys. -/
theorem kept_of_grown {w w' : World} {B : Nat} {V : Value} {L : List KV} (ho : OwnK w B V L) (hg : w.grownBy w' V.ownBlock) : ∀ g e C, e ≠ 68 → RowAt w g e C → w'.heap[g]? = w.heap[g]? := fun g e C he hC => by
  refine hg.block g hC.lt fun ee => ?_
  obtain ⟨D, hD⟩ := own_type ho ee.symm
  exact he (row_type hC hD)

theorem Rising.snoc {w : World} {B N N' : Nat} {L : List KV} {β : Nat → Nat} {y : KV} (h : Rising w B L N β) (hy : VOwn w N y.key.val y.vi y.vp y.vr) (hN : N ≤ N') (hu : ∀ g, y.vi.ownBlock = some g ∨ y.vp.ownBlock = some g ∨ y.vr.ownBlock = some g → g < N') :
    Rising w B (L ++ [y]) N' (fun i => if i ≤ L.length then β i else N') := by
  have hl : (L ++ [y]).length = L.length + 1 := by simp
  have ht := h.top
  have g1 : ∀ i, i < L.length → (L ++ [y]).getD i kv0 = L.getD i kv0 := fun i hi => by rw [List.getD_eq_getElem?_getD, List.getD_eq_getElem?_getD, List.getElem?_append_left hi]
  have g2 : (L ++ [y]).getD L.length kv0 = y := by simp
  refine ⟨fun i hi => ?_, fun i j hij hj => ?_, ?_, fun i hi => ?_, fun i hi g hg => ?_, fun i hi g hg => ?_, fun i hi g hg => ?_⟩
  · split
    · exact h.low i ‹_›
    · have := h.low L.length (Nat.le_refl _); omega
  · rw [hl] at hj
    split <;> split
    · exact h.mono i j hij ‹_›
    · have := h.mono i L.length ‹_› (Nat.le_refl _); omega
    · omega
    · exact Nat.le_refl _
  · rw [hl]; rw [if_neg (by omega)]; exact Nat.le_refl _
  · rw [hl] at hi
    by_cases e : i = L.length
    · subst e
      rw [g2, if_pos (Nat.le_refl _)]
      exact vown_le hy ht
    · rw [g1 i (by omega), if_pos (by omega)]
      exact h.own i (by omega)
  · rw [hl] at hi
    by_cases e : i = L.length
    · subst e
      rw [g2] at hg
      rw [if_neg (by omega)]
      exact hu g (.inl hg)
    · rw [g1 i (by omega)] at hg
      rw [if_pos (by omega)]
      exact h.lt1 i (by omega) g hg
  · rw [hl] at hi
    by_cases e : i = L.length
    · subst e
      rw [g2] at hg
      rw [if_neg (by omega)]
      exact hu g (.inr (.inl hg))
    · rw [g1 i (by omega)] at hg
      rw [if_pos (by omega)]
      exact h.lt2 i (by omega) g hg
  · rw [hl] at hi
    by_cases e : i = L.length
    · subst e
      rw [g2] at hg
      rw [if_neg (by omega)]
      exact hu g (.inr (.inr hg))
    · rw [g1 i (by omega)] at hg
      rw [if_pos (by omega)]
      exact h.lt3 i (by omega) g hg

/-- Keys that a slice owns, values and all. -/
structure DbOwn (w : World) (B : Nat) (v : Value) (L : List KV) : Prop where
  row : OwnK w B v L
  vals : ∃ β, Rising w B L w.heap.size β

theorem dbown_nil (w : World) (B : Nat) (h : B ≤ w.heap.size) : DbOwn w B (.slice none 0 0) [] := ⟨ownK_nil _ _, _, rising_nil _ _ _ h⟩

theorem DbOwn.below {w w' : World} {B : Nat} {v : Value} {L : List KV} (h : DbOwn w B v L) (hb : Below w.heap.size w w') : DbOwn w' B v L := by
  obtain ⟨β, hr⟩ := h.vals
  exact ⟨owns_below h.row hb, β, (hr.below hb).up hb.size⟩

/-- Keys as they read: the cells, and each value's rows. -/
structure DbAt (w : World) (a : Option Addr) (b n : Nat) (L : List KV) : Prop where
  ks : KsIn w a b n L
  val : ∀ i, i < n → ∃ B, VOwn w B (L.getD i kv0).key.val (L.getD i kv0).vi (L.getD i kv0).vp (L.getD i kv0).vr

theorem DbAt.below {w w' : World} {a : Option Addr} {b n : Nat} {L : List KV} (h : DbAt w a b n L) (hb : Below w.heap.size w w') : DbAt w' a b n L :=
  ⟨h.ks.below hb, fun i hi => by obtain ⟨B, hB⟩ := h.val i hi; exact ⟨B, hB.below hb⟩⟩

theorem DbOwn.at {w : World} {B : Nat} {v : Value} {L : List KV} (h : DbOwn w B v L) : ∃ a A c, v = .slice a L.length c ∧ DbAt w a A L.length L := by
  obtain ⟨a, A, c, e, hk⟩ := ownK_in h.row
  obtain ⟨β, hr⟩ := h.vals
  exact ⟨a, A, c, e, hk, fun i hi => ⟨_, hr.own i hi⟩⟩

structure One (v : Vl) : Prop where
  ni : v.items.length ≤ 1048576
  np : v.pairs.length ≤ 1048576
  nr : v.ranks.length ≤ 1048576
  items : ∀ t ∈ v.items, t.size ≤ 1048576

/-- What is known of a value that was read: it is small. -/
structure KSm (v : Vl) : Prop where
  fit : VFit v
  np : v.pairs.length ≤ 1048576
  nums : Kk.FitL v.ranks
  one : One v

end Go.Proofs.YtjgmkbldclangaaGreatDoor
