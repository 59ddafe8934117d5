/- Contracts of the helpers over slices of int64 and of replies that came in. -/
import Derived.Test.YtcgeafdakaeicaaDoorRows
import Derived.Test.YtcgeafdakaeicaaDoorRpMath
import Derived.WalkKit
import Derived.WalkSpells
import Derived.WalkLawsBesides
import Derived.Deep.QuietTactic
import Derived.BigQuiet
import Derived.Lib.QuietBelow
import Derived.Lib.Builder
namespace Go.Proofs.YtcgeafdakaeicaaDoor.Rp
open Go.RowKit

theorem ret_bool {a b : Bool} (h : a = b) : Ending.returned (.bool a) = .returned (.bool b) := by rw [h]
theorem ret_int {a b : Int} (h : a = b) : Ending.returned (.int .i64 a) = .returned (.int .i64 b) := by rw [h]

structure IntsIn (w : World) (a : Option Addr) (b off n : Nat) (zs : List Int) : Prop where
  len : zs.length = n
  addr : 0 < n → a = some ⟨b, off, none⟩
  low : 0 < n → b < w.heap.size
  cell : ∀ i, i < n → w.cell? ⟨b, off + i, none⟩ = some (.int .i64 (zs.getD i 0))

/-- The four cells of a node, and its kids' row. -/
structure NdAt (w : World) (b o : Nat) (x : Nd) (ak : Option Addr) (bk ok ck : Nat) : Prop where
  c0 : w.cell? ⟨b, o, none⟩ = some (.int .i64 x.kind)
  c1 : w.cell? ⟨b, o + 1, none⟩ = some (.int .i64 x.num)
  c2 : w.cell? ⟨b, o + 2, none⟩ = some (.string x.s)
  c3 : w.cell? ⟨b, o + 3, none⟩ = some (.slice ak x.kids.length ck)
  ints : IntsIn w ak bk ok x.kids.length x.kids

structure RespsIn (w : World) (a : Option Addr) (b off n : Nat) (L : List Nd) : Prop where
  len : L.length = n
  addr : 0 < n → a = some ⟨b, off, none⟩
  low : 0 < n → b < w.heap.size
  node : ∀ i, i < n → ∃ ak bk ok ck, NdAt w b (off + i * 4) (L.getD i nd0) ak bk ok ck
  fit : ∀ i, i < n → (L.getD i nd0).s.size ≤ 9223372036854775807 ∧ (L.getD i nd0).kids.length ≤ 9223372036854775807

theorem ints_below {w w' : World} {a : Option Addr} {b off n : Nat} {zs : List Int} (h : IntsIn w a b off n zs) (hb : Below w.heap.size w w') : IntsIn w' a b off n zs :=
  ⟨h.len, h.addr, fun h0 => by have := h.low h0; have := hb.size; omega, fun i hi => (hb.cell (p := ⟨b, off + i, none⟩) (h.low (by omega))).trans (h.cell i hi)⟩

theorem nd_below {w w' : World} {b o : Nat} {x : Nd} {ak : Option Addr} {bk ok ck : Nat} (h : NdAt w b o x ak bk ok ck) (hl : b < w.heap.size) (hb : Below w.heap.size w w') : NdAt w' b o x ak bk ok ck :=
  ⟨(hb.cell (p := ⟨b, o, none⟩) hl).trans h.c0, (hb.cell (p := ⟨b, o + 1, none⟩) hl).trans h.c1, (hb.cell (p := ⟨b, o + 2, none⟩) hl).trans h.c2, (hb.cell (p := ⟨b, o + 3, none⟩) hl).trans h.c3, ints_below h.ints hb⟩

theorem resps_below {w w' : World} {a : Option Addr} {b off n : Nat} {L : List Nd} (h : RespsIn w a b off n L) (hb : Below w.heap.size w w') : RespsIn w' a b off n L :=
  ⟨h.len, h.addr, fun h0 => by have := h.low h0; have := hb.size; omega, fun i hi => by
    obtain ⟨ak, bk, ok, ck, hn⟩ := h.node i hi
    exact ⟨ak, bk, ok, ck, nd_below hn (h.low (by omega)) hb⟩, h.fit⟩

def cost (x : Nd) : Nat := x.s.size + x.kids.length
def tot (L : List Nd) : Nat := (L.map cost).sum

theorem tot_take_succ (L : List Nd) (k : Nat) (h : k < L.length) : tot (L.take (k + 1)) = tot (L.take k) + cost (L.getD k nd0) := by
  unfold tot
  rw [List.take_succ_eq_append_getElem h, List.map_append, List.sum_append, List.getD_eq_getElem?_getD, List.getElem?_eq_getElem h]
  simp only [List.map_cons, List.map_nil, List.sum_cons, List.sum_nil, Option.getD_some, Nat.add_zero]

set_option maxHeartbeats 400000 in
theorem szInts (a : Option Addr) (n c : Nat) (left : Int) (w : World) (hn : n ≤ 9223372036854775807) (h0 : 0 ≤ left) (h1 : left ≤ 1048576) :
    Calls Tryd.prog 69 #[.slice a n c, .int .i64 left] w fun e w' => e = .returned (.int .i64 (if left - n < 0 then -1 else left - n)) ∧ w' = w := by
  by_cases hneg : left - (n : Int) < 0
  · rw [if_pos hneg]
    go_enter Tryd.func69, Tryd.ntmps69
    go_wp2
    go_ret
    exact ⟨rfl, rfl⟩
  · rw [if_neg hneg]
    go_enter Tryd.func69, Tryd.ntmps69
    go_wp2
    go_ret
    exact ⟨rfl, rfl⟩

set_option maxHeartbeats 400000 in
theorem szNode (k m : Int) (s : ByteArray) (a : Option Addr) (n c : Nat) (left : Int) (w : World) (hs : s.size ≤ 9223372036854775807) (hn : n ≤ 9223372036854775807) (h0 : 0 ≤ left) (h1 : left ≤ 1048576) :
    Calls Tryd.prog 43 #[.agg #[.int .i64 k, .int .i64 m, .string s, .slice a n c], .int .i64 left] w fun e w' => (∃ r : Int, e = .returned (.int .i64 r) ∧ (r < 0 ∨ (r = left - s.size - n ∧ r ≤ left))) ∧ Below w.heap.size w w' := by
  by_cases hneg : left - (s.size : Int) < 0
  · go_enter Tryd.func43, Tryd.ntmps43
    go_wp2
    go_ret
    exact ⟨⟨-1, rfl, .inl (by omega)⟩, (Below.refl _ _).alloc (Nat.le_refl _) _⟩
  · go_enter Tryd.func43, Tryd.ntmps43
    go_wp2_with fail
    refine (szInts a n c _ _ hn (by omega) (by omega)).mono ?_
    rintro e w1 ⟨rfl, rfl⟩
    by_cases h2 : left - (s.size : Int) - n < 0
    · rw [if_pos h2]
      go_wp2
      go_ret
      exact ⟨⟨-1, rfl, .inl (by omega)⟩, (Below.refl _ _).alloc (Nat.le_refl _) _⟩
    · rw [if_neg h2]
      go_wp2
      go_ret
      exact ⟨⟨_, rfl, .inr ⟨rfl, by omega⟩⟩, (Below.refl _ _).alloc (Nat.le_refl _) _⟩

set_option maxHeartbeats 1000000 in
theorem szResps (a : Option Addr) (b off n c : Nat) (L : List Nd) (left : Int) (w : World) (h : RespsIn w a b off n L) (hn : n ≤ 9223372036854775807) (h0 : 0 ≤ left) (h1 : left ≤ 1048576) :
    Calls Tryd.prog 17 #[.slice a n c, .int .i64 left] w fun e w' => (∃ r : Int, e = .returned (.int .i64 r) ∧ (r < 0 ∨ ((n : Int) + tot L + r = left))) ∧ Below w.heap.size w w' := by
  by_cases hneg : left - (n : Int) < 0
  · go_enter Tryd.func17, Tryd.ntmps17
    go_wp2
    go_ret
    exact ⟨⟨-1, rfl, .inl (by omega)⟩, Below.refl _ _⟩
  · go_enter Tryd.func17, Tryd.ntmps17
    go_wp2
    go_loopw [1, 5] (fun q i wr => ∃ (k : Nat) (l : Int), k ≤ n ∧ i = .int .i64 k ∧ q = .int .i64 l ∧ 0 ≤ l ∧ l ≤ left ∧ (n : Int) + tot (L.take k) + l = left ∧ Below w.heap.size w wr) (fun _ i _ => n - (intOf i).toNat)
    case atStart => exact ⟨0, left - n, by omega, rfl, rfl, by omega, by omega, by simp [tot]; omega, Below.refl _ _⟩
    case round =>
      obtain ⟨k, l, hk, rfl, rfl, hl0, hl1, hl, bk⟩ := hrel
      by_cases hlt : k < n
      · obtain rfl := h.addr (by omega)
        have hlow := h.low (by omega)
        obtain ⟨ak, bk', ok, ck, hnd⟩ := h.node k hlt
        obtain ⟨hf1, hf2⟩ := h.fit k hlt
        have hnd' := nd_below hnd hlow bk
        have c0 := hnd'.c0
        have c1 := hnd'.c1
        have c2 := hnd'.c2
        have c3 := hnd'.c3
        have HT : Hid (_ = _) := tot_take_succ L k (by rw [h.len]; exact hlt)
        have HL : Hid (_ = _) := hl
        clear hl hnd hnd'
        have HC : Hid (cost (L.getD k nd0) = (L.getD k nd0).s.size + (L.getD k nd0).kids.length) := rfl
        generalize L.getD k nd0 = x at *
        go_wp2_with fail
        refine (szNode x.kind x.num x.s ak x.kids.length ck l wr hf1 hf2 hl0 (by omega)).mono ?_
        rintro e w1 ⟨⟨r, rfl, hr⟩, b1⟩
        have b01 := bk.trans (b1.mono bk.size)
        by_cases hrn : r < 0
        · go_wp2
          go_ret
          exact ⟨⟨-1, rfl, .inl (by omega)⟩, b01⟩
        · have HR : Hid (r = l - x.s.size - x.kids.length ∧ r ≤ l) := hr.resolve_left hrn
          clear hr c0 c1 c2 c3
          go_wp2
          go_roundw
          case rel =>
            obtain ⟨r1, r2⟩ := HR.out
            refine ⟨k + 1, r, by omega, by go_num, rfl, by omega, by omega, ?_, b01⟩
            have e1 := HL.out
            rw [HT.out, HC.out, r1]
            omega
          case measure => simp [intOf]; omega
      · go_wp2
        go_ret
        have : k = n := by omega
        subst this
        exact ⟨⟨l, rfl, .inr (by rw [List.take_of_length_le (by rw [h.len]; exact Nat.le_refl _)] at hl; exact hl)⟩, bk⟩

theorem ints_set {w : World} {a : Option Addr} {b off n : Nat} {zs : List Int} (h : IntsIn w a b off n zs) {p : Addr} (hp : p.block ≠ b) (v : Value) : IntsIn (w.setCell p v) a b off n zs :=
  ⟨h.len, h.addr, fun h0 => by have := h.low h0; simpa [World.setCell] using this, fun i hi => by
    rw [World.cell?_of_block (w := w) (Below.heap_setCell w p v b (Ne.symm hp))]
    exact h.cell i hi⟩

/-! ### Copies -/

/-- The row g holds the cells C. -/
def RowAt (w : World) (g : Nat) (T : TypeId) (C : Array Value) : Prop := w.heap[g]? = some (.cells C T (0, 0))

theorem RowAt.cell {w : World} {g : Nat} {T : TypeId} {C : Array Value} (h : RowAt w g T C) (j : Nat) : w.cell? ⟨g, j, none⟩ = C[j]? := Lib.cell_of_heap h j
theorem RowAt.frozen {w : World} {g : Nat} {T : TypeId} {C : Array Value} (h : RowAt w g T C) (j : Nat) : w.frozen? ⟨g, j, none⟩ = false := Lib.frozen_of_heap h j
theorem RowAt.set {w : World} {g : Nat} {T : TypeId} {C : Array Value} (h : RowAt w g T C) (j : Nat) (v : Value) : RowAt (w.setCell ⟨g, j, none⟩ v) g T (C.setIfInBounds j v) := by
  unfold RowAt at *
  simp [World.setCell, Array.getElem?_modify, h]
theorem RowAt.lt {w : World} {g : Nat} {T : TypeId} {C : Array Value} (h : RowAt w g T C) : g < w.heap.size := (Array.getElem?_eq_some_iff.1 h).1
theorem RowAt.new (w : World) (T : TypeId) (C : Array Value) : RowAt (w.alloc (.cells C T)) w.heap.size T C := by
  show (w.heap.push (.cells C T (0, 0)))[w.heap.size]? = _
  simp
theorem RowAt.below {w w' : World} {g : Nat} {T : TypeId} {C : Array Value} {B : Nat} (h : RowAt w g T C) (hb : Below B w w') (hg : g < B) : RowAt w' g T C := (hb.block g hg).trans h

theorem info2 : (Tryd.prog.info? 2).map (fun i => (i.zero, i.size, i.bytes)) = some (some (.int .i64 0), 1, 8) := by kernel_rfl

theorem make_ints (n : Nat) (hn : n ≤ 1048576) : ∃ C : Array Value, C.size = n ∧ ∀ w, (Instr.makeSlice 42 (.int .i64 n) (.int .i64 n)).run Tryd.prog w = .ok (.slice (some ⟨w.heap.size, 0, none⟩) n n) (w.alloc (.cells C 2)) := by
  obtain ⟨i0, hi, hz0, hz1, hz2⟩ := info_parts info2
  refine ⟨madeCells (Value.int .i64 0).cells (n * i0.size), by rw [size_madeCells, hz1, Nat.mul_one], fun w => ?_⟩
  have := run_make (P := Tryd.prog) w 42 2 i0 _ Tryd.underlying42 hi hz0 .i64 .i64 n n (by omega) (by omega) (by rw [hz2]; omega) (by omega)
  simpa using this

set_option maxHeartbeats 1000000 in
theorem copyInts (a : Option Addr) (b off n c : Nat) (zs : List Int) (w : World) (h : IntsIn w a b off n zs) (hn : n ≤ 1048576) :
    Calls Tryd.prog 70 #[.slice a n c] w fun e w' => e = .returned (.slice (some ⟨w.heap.size, 0, none⟩) n n) ∧ IntsIn w' (some ⟨w.heap.size, 0, none⟩) w.heap.size 0 n zs ∧ Below w.heap.size w w' ∧ w.heap.size < w'.heap.size := by
  obtain ⟨C, hC, hmk⟩ := make_ints n hn
  have HC : Hid (C.size = n) := hC
  clear hC
  go_enter Tryd.func70, Tryd.ntmps70
  go_wp2
  go_loopw [4] (fun i wr => ∃ (k : Nat) (D : Array Value), k ≤ n ∧ i = .int .i64 k ∧ D.size = n ∧ RowAt wr w.heap.size 2 D ∧ (∀ j, j < k → D[j]? = some (.int .i64 (zs.getD j 0))) ∧ Below w.heap.size w wr) (fun i _ => n - (intOf i).toNat)
  case atStart => exact ⟨0, C, by omega, rfl, HC.out, RowAt.new _ _ _, fun j hj => by omega, (Below.refl _ _).alloc (Nat.le_refl _) _⟩
  case round =>
    obtain ⟨k, D, hk, rfl, hD, hrow, hpre, bk⟩ := hrel
    have HP : Hid (∀ j, j < k → D[j]? = some (.int .i64 (zs.getD j 0))) := hpre
    have HD : Hid (D.size = n) := hD
    clear hpre hmk
    by_cases hlt : k < n
    · obtain rfl := h.addr (by omega)
      have hlow := h.low (by omega)
      have hc : wr.cell? ⟨b, off + k, none⟩ = some (.int .i64 (zs.getD k 0)) := (bk.cell (p := ⟨b, off + k, none⟩) hlow).trans (h.cell k hlt)
      have hg : wr.cell? ⟨w.heap.size, k, none⟩ = some (D[k]'(by omega)) := by rw [hrow.cell k]; simp [hD, hlt]
      have hfz := hrow.frozen k
      have HR : Hid (RowAt (wr.setCell ⟨w.heap.size, k, none⟩ (.int .i64 (zs.getD k 0))) w.heap.size 2 (D.setIfInBounds k (.int .i64 (zs.getD k 0)))) := hrow.set k _
      generalize hs : zs.getD k 0 = s at *
      have Hs : Hid (zs.getD k 0 = s) := hs
      generalize hDk : D[k]'(by omega) = old at *
      clear hs hDk hD hrow
      go_wp2
      go_roundw
      case rel =>
        refine ⟨k + 1, _, by omega, by go_num, ?_, HR.out, ?_, bk.setCell (p := ⟨w.heap.size, k, none⟩) (Nat.le_refl _) _⟩
        · rw [Array.size_setIfInBounds]; exact HD.out
        · intro j hj
          rw [Array.getElem?_setIfInBounds]
          by_cases hjk : k = j
          · subst hjk
            rw [if_pos rfl, if_pos (by rw [HD.out]; exact hlt), Hs.out]
          · rw [if_neg hjk]
            exact HP.out j (by omega)
      case measure => simp [intOf]; omega
    · obtain rfl : k = n := by omega
      go_wp2
      go_ret
      refine ⟨rfl, ⟨h.len, fun _ => rfl, fun _ => hrow.lt, fun i hi => ?_⟩, bk, hrow.lt⟩
      rw [Nat.zero_add, hrow.cell i]
      exact HP.out i hi

set_option maxHeartbeats 1000000 in
/-- toResp: the same node, its kids in a new row. -/
theorem copyNode (x : Nd) (ak : Option Addr) (bk ok ck : Nat) (w : World) (h : IntsIn w ak bk ok x.kids.length x.kids) (hn : x.kids.length ≤ 1048576) :
    Calls Tryd.prog 44 #[.agg #[.int .i64 x.kind, .int .i64 x.num, .string x.s, .slice ak x.kids.length ck]] w fun e w' => ∃ g, e = .returned (.agg #[.int .i64 x.kind, .int .i64 x.num, .string x.s, .slice (some ⟨g, 0, none⟩) x.kids.length x.kids.length]) ∧ w.heap.size ≤ g ∧ IntsIn w' (some ⟨g, 0, none⟩) g 0 x.kids.length x.kids ∧ Below w.heap.size w w' ∧ g < w'.heap.size := by
  go_enter Tryd.func44, Tryd.ntmps44
  go_wp2_with fail
  have bw : Below w.heap.size w (((w.alloc (.cells #[.int .i64 x.kind, .int .i64 x.num, .string x.s, .slice ak x.kids.length ck] 75)).alloc (.cells #[.int .i64 0, .int .i64 0, .string ⟨#[]⟩, .slice none 0 0] 44)).alloc (.cells #[.int .i64 x.kind, .int .i64 x.num, .string x.s, .slice none 0 0] 44)) :=
    (((Below.refl _ _).alloc (Nat.le_refl _) _).alloc (by simp) _).alloc (by simp; omega) _
  have r2 := RowAt.new ((w.alloc (.cells #[.int .i64 x.kind, .int .i64 x.num, .string x.s, .slice ak x.kids.length ck] 75)).alloc (.cells #[.int .i64 0, .int .i64 0, .string ⟨#[]⟩, .slice none 0 0] 44)) 44 #[.int .i64 x.kind, .int .i64 x.num, .string x.s, .slice none 0 0]
  have r1 := (RowAt.new (w.alloc (.cells #[.int .i64 x.kind, .int .i64 x.num, .string x.s, .slice ak x.kids.length ck] 75)) 44 #[.int .i64 0, .int .i64 0, .string ⟨#[]⟩, .slice none 0 0]).below ((Below.refl _ _).alloc (Nat.le_refl _) (.cells #[.int .i64 x.kind, .int .i64 x.num, .string x.s, .slice none 0 0] 44)) (by simp)
  simp only [World.size_alloc] at r1 r2
  refine (copyInts ak bk ok x.kids.length ck x.kids _ (ints_below h bw) hn).mono ?_
  have hsz : (((w.alloc (.cells #[.int .i64 x.kind, .int .i64 x.num, .string x.s, .slice ak x.kids.length ck] 75)).alloc (.cells #[.int .i64 0, .int .i64 0, .string ⟨#[]⟩, .slice none 0 0] 44)).alloc (.cells #[.int .i64 x.kind, .int .i64 x.num, .string x.s, .slice none 0 0] 44)).heap.size = w.heap.size + 1 + 1 + 1 := by simp
  generalize (((w.alloc (.cells #[.int .i64 x.kind, .int .i64 x.num, .string x.s, .slice ak x.kids.length ck] 75)).alloc (.cells #[.int .i64 0, .int .i64 0, .string ⟨#[]⟩, .slice none 0 0] 44)).alloc (.cells #[.int .i64 x.kind, .int .i64 x.num, .string x.s, .slice none 0 0] 44)) = W at *
  rintro e w1 ⟨rfl, g1, b1, s1⟩
  rw [hsz] at g1 b1 s1 ⊢
  have q1 := r1.below b1 (by omega)
  have q2 := r2.below b1 (by omega)
  have a0 := q1.cell 0
  have a1 := q1.cell 1
  have a2 := q1.cell 2
  have a3 := q1.cell 3
  have d0 := q2.cell 0
  have d1 := q2.cell 1
  have d2 := q2.cell 2
  have d3 := q2.cell 3
  have f0 := q1.frozen 0
  have f1 := q1.frozen 1
  have f2 := q1.frozen 2
  have f3 := q1.frozen 3
  have e3 := q2.frozen 3
  simp at a0 a1 a2 a3 d0 d1 d2 d3
  have b0 := bw.trans (b1.mono (by omega))
  clear r1 r2 q1 q2 hsz b1
  go_wp2
  refine bodyPost_ret (v := .agg #[.int .i64 x.kind, .int .i64 x.num, .string x.s, .slice (some ⟨w.heap.size + 1 + 1 + 1, 0, none⟩) x.kids.length x.kids.length]) (by simp [results, Tryd.results44, go_sem, a0, a1, a2, a3]) rfl ⟨w.heap.size + 1 + 1 + 1, rfl, by omega, ?_, ?_, by simpa [World.setCell] using s1⟩
  · exact ints_set (ints_set (ints_set (ints_set (ints_set g1 (by simp) _) (by simp) _) (by simp) _) (by simp) _) (by simp) _
  · exact ((((b0.setCell (by simp; omega) _).setCell (by simp) _).setCell (by simp) _).setCell (by simp) _).setCell (by simp) _

theorem info33 : (Tryd.prog.info? 44).map (fun i => (i.zero, i.size, i.bytes)) = some (some (.agg #[.int .i64 0, .int .i64 0, .string ⟨#[]⟩, .slice none 0 0]), 4, 56) := by kernel_rfl

theorem make_resps (n : Nat) (hn : n ≤ 1048576) : ∃ C : Array Value, C.size = n * 4 ∧ ∀ w, (Instr.makeSlice 24 (.int .i64 n) (.int .i64 n)).run Tryd.prog w = .ok (.slice (some ⟨w.heap.size, 0, none⟩) n n) (w.alloc (.cells C 44)) := by
  obtain ⟨i0, hi, hz0, hz1, hz2⟩ := info_parts info33
  refine ⟨madeCells (Value.agg #[.int .i64 0, .int .i64 0, .string ⟨#[]⟩, .slice none 0 0]).cells (n * i0.size), by rw [size_madeCells, hz1], fun w => ?_⟩
  have := run_make (P := Tryd.prog) w 24 44 i0 _ Tryd.underlying24 hi hz0 .i64 .i64 n n (by omega) (by omega) (by rw [hz2]; omega) (by omega)
  simpa using this

/-- The first k nodes of the new row (block g) are there. -/
def Pre (w : World) (g : Nat) (L : List Nd) (k : Nat) : Prop := ∀ i, i < k → ∃ gk, g < gk ∧ gk < w.heap.size ∧ NdAt w g (i * 4) (L.getD i nd0) (some ⟨gk, 0, none⟩) gk 0 (L.getD i nd0).kids.length

abbrev put4 (w : World) (g o : Nat) (v0 v1 v2 v3 : Value) : World := (((w.setCell ⟨g, o, none⟩ v0).setCell ⟨g, o + 1, none⟩ v1).setCell ⟨g, o + 2, none⟩ v2).setCell ⟨g, o + 3, none⟩ v3

theorem put4_other (w : World) (g o : Nat) (v0 v1 v2 v3 : Value) (j : Nat) (h : j < o ∨ o + 3 < j) : (put4 w g o v0 v1 v2 v3).cell? ⟨g, j, none⟩ = w.cell? ⟨g, j, none⟩ := by
  have e : ∀ (w : World) (t : Nat) (v : Value), t ≠ j → (w.setCell ⟨g, t, none⟩ v).cell? ⟨g, j, none⟩ = w.cell? ⟨g, j, none⟩ := fun w t v ht => World.cell?_setCell_other w _ _ _ (fun e => ht (congrArg Addr.off e))
  unfold put4
  rw [e _ _ _ (by omega), e _ _ _ (by omega), e _ _ _ (by omega), e _ _ _ (by omega)]

theorem put4_row {w : World} {g o : Nat} {T : TypeId} {D : Array Value} (h : RowAt w g T D) (hD : o + 3 < D.size) (v0 v1 v2 v3 : Value) :
    ∃ D', D'.size = D.size ∧ RowAt (put4 w g o v0 v1 v2 v3) g T D' ∧ D'[o]? = some v0 ∧ D'[o + 1]? = some v1 ∧ D'[o + 2]? = some v2 ∧ D'[o + 3]? = some v3 := by
  refine ⟨_, ?_, (((h.set o v0).set (o + 1) v1).set (o + 2) v2).set (o + 3) v3, ?_, ?_, ?_, ?_⟩
  · simp
  all_goals
    simp only [Array.getElem?_setIfInBounds, Array.size_setIfInBounds]
    simp
    omega

theorem ints_put4 {w : World} {g o : Nat} {v0 v1 v2 v3 : Value} {a : Option Addr} {b off n : Nat} {zs : List Int} (h : IntsIn w a b off n zs) (hg : g ≠ b) : IntsIn (put4 w g o v0 v1 v2 v3) a b off n zs :=
  ints_set (ints_set (ints_set (ints_set h hg _) hg _) hg _) hg _

theorem size_put4 (w : World) (g o : Nat) (v0 v1 v2 v3 : Value) : (put4 w g o v0 v1 v2 v3).heap.size = w.heap.size := by simp [World.setCell]

theorem pre_below {w w' : World} {g : Nat} {L : List Nd} {k : Nat} (h : Pre w g L k) (hb : Below w.heap.size w w') : Pre w' g L k := fun i hi => by
  obtain ⟨gk, h1, h2, h3⟩ := h i hi
  exact ⟨gk, h1, by have := hb.size; omega, nd_below h3 (by omega) hb⟩

theorem pre_put {w : World} {g k gk : Nat} {T : TypeId} {D : Array Value} {L : List Nd} {x : Nd} (hrow : RowAt w g T D) (hD : k * 4 + 3 < D.size) (hpre : Pre w g L k) (hx : L.getD k nd0 = x) (h1 : g < gk) (h2 : gk < w.heap.size)
    (hi : IntsIn w (some ⟨gk, 0, none⟩) gk 0 x.kids.length x.kids) :
    Pre (put4 w g (k * 4) (.int .i64 x.kind) (.int .i64 x.num) (.string x.s) (.slice (some ⟨gk, 0, none⟩) x.kids.length x.kids.length)) g L (k + 1) := by
  intro i hik
  by_cases hki : i = k
  · subst hki
    rw [hx]
    obtain ⟨D', _, hr, e0, e1, e2, e3⟩ := put4_row hrow hD (.int .i64 x.kind) (.int .i64 x.num) (.string x.s) (.slice (some ⟨gk, 0, none⟩) x.kids.length x.kids.length)
    exact ⟨gk, h1, by rw [size_put4]; exact h2, (hr.cell _).trans e0, (hr.cell _).trans e1, (hr.cell _).trans e2, (hr.cell _).trans e3, ints_put4 hi (by omega)⟩
  · obtain ⟨gi, a1, a2, a3⟩ := hpre i (by omega)
    exact ⟨gi, a1, by rw [size_put4]; exact a2, (put4_other _ _ _ _ _ _ _ _ (by omega)).trans a3.c0, (put4_other _ _ _ _ _ _ _ _ (by omega)).trans a3.c1, (put4_other _ _ _ _ _ _ _ _ (by omega)).trans a3.c2, (put4_other _ _ _ _ _ _ _ _ (by omega)).trans a3.c3, ints_put4 a3.ints (by omega)⟩

set_option maxHeartbeats 1000000 in
theorem copyResps (a : Option Addr) (b off n c : Nat) (L : List Nd) (w : World) (h : RespsIn w a b off n L) (hn : n ≤ 1048576) (hk : ∀ i, i < n → (L.getD i nd0).kids.length ≤ 1048576) :
    Calls Tryd.prog 18 #[.slice a n c] w fun e w' => e = .returned (.slice (some ⟨w.heap.size, 0, none⟩) n n) ∧ RespsIn w' (some ⟨w.heap.size, 0, none⟩) w.heap.size 0 n L ∧ Below w.heap.size w w' ∧ w.heap.size < w'.heap.size := by
  obtain ⟨C, hC, hmk⟩ := make_resps n hn
  have HC : Hid (C.size = n * 4) := hC
  clear hC
  go_enter Tryd.func18, Tryd.ntmps18
  go_wp2
  go_loopw [4] (fun i wr => ∃ (k : Nat) (D : Array Value), k ≤ n ∧ i = .int .i64 k ∧ D.size = n * 4 ∧ RowAt wr w.heap.size 44 D ∧ Pre wr w.heap.size L k ∧ Below w.heap.size w wr) (fun i _ => n - (intOf i).toNat)
  case atStart => exact ⟨0, C, by omega, rfl, HC.out, RowAt.new _ _ _, fun j hj => by omega, (Below.refl _ _).alloc (Nat.le_refl _) _⟩
  case round =>
    obtain ⟨k, D, hkn, rfl, hD, hrow, hpre, bk⟩ := hrel
    have HD : Hid (D.size = n * 4) := hD
    clear hD hmk
    by_cases hlt : k < n
    · obtain rfl := h.addr (by omega)
      have hlow := h.low (by omega)
      obtain ⟨ak, bk', ok, ck, hnd⟩ := h.node k hlt
      have hnd' := nd_below hnd hlow bk
      have c0 := hnd'.c0
      have c1 := hnd'.c1
      have c2 := hnd'.c2
      have c3 := hnd'.c3
      have hkk := hk k hlt
      have hints := hnd'.ints
      clear hnd hnd'
      generalize hx : L.getD k nd0 = x at *
      have HX : Hid (L.getD k nd0 = x) := hx
      clear hx
      go_wp2_with fail
      refine (copyNode x ak bk' ok ck wr hints hkk).mono ?_
      rintro e w1 ⟨g, rfl, hg, g1, b1, hg2⟩
      have hrow1 := hrow.below b1 hrow.lt
      have hgl := hrow.lt
      have hD4 : k * 4 + 3 < D.size := by rw [HD.out]; omega
      have t0 : w1.cell? ⟨w.heap.size, k * 4, none⟩ = some (D[k * 4]'(by omega)) := by rw [hrow1.cell]; simp
      have t1 : w1.cell? ⟨w.heap.size, k * 4 + 1, none⟩ = some (D[k * 4 + 1]'(by omega)) := by rw [hrow1.cell]; simp
      have t2 : w1.cell? ⟨w.heap.size, k * 4 + 2, none⟩ = some (D[k * 4 + 2]'(by omega)) := by rw [hrow1.cell]; simp
      have t3 : w1.cell? ⟨w.heap.size, k * 4 + 3, none⟩ = some (D[k * 4 + 3]'(by omega)) := by rw [hrow1.cell]; simp
      have f0 := hrow1.frozen (k * 4)
      have f1 := hrow1.frozen (k * 4 + 1)
      have f2 := hrow1.frozen (k * 4 + 2)
      have f3 := hrow1.frozen (k * 4 + 3)
      generalize D[k * 4]'(by omega) = y0 at *
      generalize D[k * 4 + 1]'(by omega) = y1 at *
      generalize D[k * 4 + 2]'(by omega) = y2 at *
      generalize D[k * 4 + 3]'(by omega) = y3 at *
      clear c0 c1 c2 c3
      have s1 := b1.size
      have HPre : Hid (Pre _ _ _ _) := pre_put hrow1 hD4 (pre_below hpre b1) HX.out (by omega) (by omega) g1
      obtain ⟨D', hD', hr', _⟩ := put4_row hrow1 hD4 (.int .i64 x.kind) (.int .i64 x.num) (.string x.s) (.slice (some ⟨g, 0, none⟩) x.kids.length x.kids.length)
      have HR : Hid (RowAt _ _ _ D') := hr'
      have HS : Hid (D'.size = D.size) := hD'
      clear hr' hD' hrow1 hrow hpre g1 hints
      have b01 := bk.trans (b1.mono bk.size)
      clear b1
      go_wp2
      go_roundw
      case rel => exact ⟨k + 1, D', by omega, by go_num, by rw [HS.out, HD.out], HR.out, HPre.out, ((((b01.setCell (Nat.le_refl _) _).setCell (Nat.le_refl _) _).setCell (Nat.le_refl _) _).setCell (Nat.le_refl _) _)⟩
      case measure => simp [intOf]; omega
    · obtain rfl : k = n := by omega
      go_wp2
      go_ret
      refine ⟨rfl, ⟨h.len, fun _ => rfl, fun _ => hrow.lt, fun i hi => ?_, h.fit⟩, bk, hrow.lt⟩
      obtain ⟨gk, _, _, hnd⟩ := hpre i hi
      exact ⟨_, _, _, _, by rw [Nat.zero_add]; exact hnd⟩
end Go.Proofs.YtcgeafdakaeicaaDoor.Rp
