/- Heaps whose cells a slice owns: copied, held against each other, marked, held. -/
import Derived.Test.YtobpilhkgnpoiaaHPutJ
namespace Go.Proofs.Ytobpilhkgnpoiaa
open Go.RowKit Go.Sort

theorem row_owns {w : World} {g n : Nat} {D : Array Value} {L : List Cl} (h : RowAt w g 64 D) (hD : D.size = n * 4) (hp : Pre w g L n) (hl : L.length = n) (hn : n ≤ 1048576) : w.ownsRow g 64 4 (.slice (some ⟨g, 0, none⟩) n n) n (flatC L) := by
  refine ⟨by rw [flatC_len, hl], .inr ⟨g, n, D, rfl, Nat.le_refl _, h, Nat.le_refl _, by unfold maxLen; omega, hD, ?_⟩⟩
  apply List.ext_getElem?
  intro j
  by_cases hj : j < n * 4
  · rw [List.getElem?_take, if_pos hj, Array.getElem?_toList]
    have hk : j / 4 < n := by omega
    have hc := hp (j / 4) hk
    have e : j = j / 4 * 4 + j % 4 := by omega
    have hf := flatC_at L (j / 4) (j % 4) (by omega) (by omega)
    rw [← e] at hf
    rw [hf, ← h.cell j]
    have h4 : j % 4 = 0 ∨ j % 4 = 1 ∨ j % 4 = 2 ∨ j % 4 = 3 := by omega
    generalize L.getD (j / 4) cl0 = y at *
    rcases h4 with h4 | h4 | h4 | h4
    · rw [h4] at e ⊢
      rw [show j = j / 4 * 4 from by omega]
      exact hc.c0
    · rw [h4] at e ⊢
      conv => lhs; rw [e]
      exact hc.c1
    · rw [h4] at e ⊢
      conv => lhs; rw [e]
      exact hc.c2
    · rw [h4] at e ⊢
      conv => lhs; rw [e]
      exact hc.c3
  · rw [List.getElem?_take, if_neg hj, List.getElem?_eq_none (by rw [flatC_len, hl]; omega)]

set_option maxHeartbeats 1000000 in
theorem toCellsO_any (a : Option Addr) (b off n c : Nat) (L : List Cl) (w : World) (h : CellsIn w a b off n L) (hn : n ≤ 1048576) :
    Calls Try.prog 41 #[.slice a n c] w fun e w' => e = .returned (.slice (some ⟨w.heap.size, 0, none⟩) n n) ∧ w'.ownsRow w.heap.size 64 4 (.slice (some ⟨w.heap.size, 0, none⟩) n n) n (flatC L) ∧ Below w.heap.size w w' ∧ w.heap.size < w'.heap.size := by
  obtain ⟨C, hC, hmk⟩ := make_cells n hn
  have HC : Hid (C.size = n * 4) := hC
  clear hC
  go_enter Try.func41, Try.ntmps41
  go_wp2
  go_loopw [4] (fun i wr => ∃ (k : Nat) (D : Array Value), k ≤ n ∧ i = .int .i64 k ∧ D.size = n * 4 ∧ RowAt wr w.heap.size 64 D ∧ Pre wr w.heap.size L k ∧ Below w.heap.size w wr) (fun i _ => n - (intOf i).toNat)
  case atStart => exact ⟨0, C, by omega, rfl, HC.out, RowAt.new _ _ _, fun j hj => by omega, (Below.refl _ _).alloc (Nat.le_refl _) _⟩
  case round =>
    obtain ⟨k, D, hkn, rfl, hD, hrow, hpre, bk⟩ := hrel
    have HD : Hid (D.size = n * 4) := hD
    clear hD hmk
    by_cases hlt : k < n
    · obtain rfl := h.addr (by omega)
      have hlow := h.low (by omega)
      have hnd := cl_below (h.cell k hlt) hlow bk
      have c0 := hnd.c0
      have c1 := hnd.c1
      have c2 := hnd.c2
      have c3 := hnd.c3
      clear hnd
      generalize hx : L.getD k cl0 = x at *
      have HX : Hid (L.getD k cl0 = x) := hx
      clear hx
      go_wp2_with fail
      refine (toCell_any x wr).mono ?_
      rintro e w1 ⟨rfl, b1⟩
      have hrow1 := hrow.below b1 hrow.lt
      have hgl := hrow.lt
      have hD4 : k * 4 + 3 < D.size := by rw [HD.out]; omega
      have t0 : w1.cell? ⟨w.heap.size, k * 4, none⟩ = some (D[k * 4]'(by omega)) := by rw [hrow1.cell]; simp
      have t1 : w1.cell? ⟨w.heap.size, k * 4 + 1, none⟩ = some (D[k * 4 + 1]'(by omega)) := by rw [hrow1.cell]; simp
      have t2 : w1.cell? ⟨w.heap.size, k * 4 + 2, none⟩ = some (D[k * 4 + 2]'(by omega)) := by rw [hrow1.cell]; simp
      have t3 : w1.cell? ⟨w.heap.size, k * 4 + 3, none⟩ = some (D[k * 4 + 3]'(by omega)) := by rw [hrow1.cell]; simp
      have f0 := hrow1.frozen (k * 4)
      have f1 := hrow1.frozen (k * 4 + 1)
      have f2 := hrow1.frozen (k * 4 + 2)
      have f3 := hrow1.frozen (k * 4 + 3)
      generalize D[k * 4]'(by omega) = y0 at *
      generalize D[k * 4 + 1]'(by omega) = y1 at *
      generalize D[k * 4 + 2]'(by omega) = y2 at *
      generalize D[k * 4 + 3]'(by omega) = y3 at *
      clear c0 c1 c2 c3
      have HPre : Hid (Pre _ _ _ _) := pre_put hrow1 hD4 (pre_below hpre hgl b1) HX.out
      obtain ⟨D', hD', hr', _⟩ := put4_row hrow1 hD4 (.int .i64 x.pos) (.int .i64 x.len) (.int .i64 x.gen) (.bool x.live)
      have HR : Hid (RowAt _ _ _ D') := hr'
      have HS : Hid (D'.size = D.size) := hD'
      clear hr' hD' hrow1 hrow hpre
      have b01 := bk.trans (b1.mono bk.size)
      clear b1
      go_wp2
      go_roundw
      case rel => exact ⟨k + 1, D', by omega, by go_num, by rw [HS.out, HD.out], HR.out, HPre.out, ((((b01.setCell (Nat.le_refl _) _).setCell (Nat.le_refl _) _).setCell (Nat.le_refl _) _).setCell (Nat.le_refl _) _)⟩
      case measure => simp [intOf]; omega
    · obtain rfl : k = n := by omega
      go_wp2
      go_ret
      exact ⟨rfl, row_owns hrow HD.out hpre h.len hn, bk, hrow.lt⟩

set_option maxHeartbeats 1000000 in
theorem toHeapO_any (s : ByteArray) (a : Option Addr) (b off n c : Nat) (L : List Cl) (w : World) (h : CellsIn w a b off n L) (hn : n ≤ 1048576) :
    Calls Try.prog 18 #[.agg #[.string s, .slice a n c]] w fun e w' => ∃ g, e = .returned (.agg #[.string s, .slice (some ⟨g, 0, none⟩) n n]) ∧ w'.ownsRow w.heap.size 64 4 (.slice (some ⟨g, 0, none⟩) n n) n (flatC L) ∧ Below w.heap.size w w' := by
  go_enter Try.func18, Try.ntmps18
  go_wp2_with fail
  have bw : Below w.heap.size w (((w.alloc (.cells #[.string s, .slice a n c] 32)).alloc (.cells #[.string ⟨#[]⟩, .slice none 0 0] 24)).alloc (.cells #[.string s, .slice none 0 0] 24)) := Go.Joins.below_alloc3 _ _ _ _
  have r2 := RowAt.new ((w.alloc (.cells #[.string s, .slice a n c] 32)).alloc (.cells #[.string ⟨#[]⟩, .slice none 0 0] 24)) 24 #[.string s, .slice none 0 0]
  have r1 := (RowAt.new (w.alloc (.cells #[.string s, .slice a n c] 32)) 24 #[.string ⟨#[]⟩, .slice none 0 0]).below ((Below.refl _ _).alloc (Nat.le_refl _) (.cells #[.string s, .slice none 0 0] 24)) (by simp)
  simp only [World.size_alloc] at r1 r2
  have hc := cells_below h bw
  have hsz : (((w.alloc (.cells #[.string s, .slice a n c] 32)).alloc (.cells #[.string ⟨#[]⟩, .slice none 0 0] 24)).alloc (.cells #[.string s, .slice none 0 0] 24)).heap.size = w.heap.size + 1 + 1 + 1 := by simp
  generalize (((w.alloc (.cells #[.string s, .slice a n c] 32)).alloc (.cells #[.string ⟨#[]⟩, .slice none 0 0] 24)).alloc (.cells #[.string s, .slice none 0 0] 24)) = W at *
  refine (toCellsO_any a b off n c L W hc hn).mono ?_
  rintro e w1 ⟨rfl, g1, b1, s1⟩
  rw [hsz] at g1 b1 s1 ⊢
  have q1 := r1.below b1 (by omega)
  have q2 := r2.below b1 (by omega)
  have a0 := q1.cell 0
  have a1 := q1.cell 1
  have d0 := q2.cell 0
  have d1 := q2.cell 1
  have f0 := q1.frozen 0
  have f1 := q1.frozen 1
  have e1 := q2.frozen 1
  simp at a0 a1 d0 d1
  have b0 := bw.trans (b1.mono (by omega))
  have HG : Hid (w1.ownsRow (w.heap.size + 1 + 1 + 1) 64 4 (.slice (some ⟨w.heap.size + 1 + 1 + 1, 0, none⟩) n n) n (flatC L)) := g1
  clear r1 r2 q1 q2 hsz b1 g1 hc
  go_wp2
  refine bodyPost_ret (v := .agg #[.string s, .slice (some ⟨w.heap.size + 1 + 1 + 1, 0, none⟩) n n]) (by simp [results, Try.results18, go_sem, a0, a1]) rfl ⟨w.heap.size + 1 + 1 + 1, rfl, ?_, ?_⟩
  · exact Go.Joins.ownsRow_le (ownsRow_setCell_below (ownsRow_setCell_below (ownsRow_setCell_below HG.out (by simp only; omega) _) (by simp only; omega) _) (by simp only; omega) _) (by omega)
  · exact ((b0.setCell (by simp; omega) _).setCell (by simp) _).setCell (by simp) _

theorem owns_in {w : World} {B n : Nat} {v : Value} {M : List Cl} (h : w.ownsRow B 64 4 v n (flatC M)) : ∃ a A cap, v = .slice a n cap ∧ CellsIn w a A 0 n M := by
  have hl : M.length = n := by
    have := h.1
    rw [flatC_len] at this
    omega
  rcases Go.Joins.ownsRow_forms h with ⟨rfl, rfl⟩ | ⟨A, cap, rfl⟩
  · have : M = [] := List.eq_nil_of_length_eq_zero hl
    subst this
    exact ⟨none, 0, 0, rfl, cellsIn_none⟩
  · exact ⟨_, A, cap, rfl, owns_cellsIn h⟩

theorem eqHeapV (D : ByteArray) (v v' : Value) (B B' n : Nat) (M : List Cl) (w : World) (h : w.ownsRow B 64 4 v n (flatC M)) (h' : w.ownsRow B' 64 4 v' n (flatC M)) (hn : n ≤ 1048576) :
    Calls Try.prog 13 #[.agg #[.string D, v], .agg #[.string D, v']] w fun e w' => e = .returned (.bool true) ∧ Below w.heap.size w w' := by
  obtain ⟨a, A, cap, rfl, hc⟩ := owns_in h
  obtain ⟨a', A', cap', rfl, hc'⟩ := owns_in h'
  exact eqHeap_any D a a' A 0 A' 0 n cap cap' M w hc hc' hn

theorem eqRefV (rc rg : Int) (w : World) : Calls Try.prog 26 #[refV rc rg, refV rc rg] w fun e w' => e = .returned (.bool true) ∧ Below w.heap.size w w' := by
  go_enter Try.func26, Try.ntmps26
  go_wp2
  go_ret
  exact ⟨rfl, Go.Joins.below_alloc2 _ _ _⟩

theorem mark0 (w : World) : Calls Try.prog 37 #[.slice none 0 0, .int .i64 1] w fun e w' => e = .returned (.int .i64 1) ∧ w' = w := by
  go_enter Try.func37, Try.ntmps37
  go_wp2
  refine wp_loop_rounds 1 ?_
  rw [rounds_succ]
  go_wp2
  go_ret
  exact ⟨rfl, rfl⟩

theorem held0 (w : World) : Calls Try.prog 38 #[.slice none 0 0, .int .i64 1] w fun e w' => e = .returned (.int .i64 1) ∧ w' = w := by
  go_enter Try.func38, Try.ntmps38
  go_wp2
  refine wp_loop_rounds 1 ?_
  rw [rounds_succ]
  go_wp2
  go_ret
  exact ⟨rfl, rfl⟩

set_option maxHeartbeats 1000000 in
theorem markHeapV (D : ByteArray) (v : Value) (B n : Nat) (M : List Cl) (w : World) (h : w.ownsRow B 64 4 v n (flatC M)) (hn : n ≤ 1048576) :
    Calls Try.prog 14 #[.agg #[.string D, v], .int .i64 1] w fun e w' => e = .returned (.int .i64 (1 + 4 * n : Nat)) ∧ w'.ownsRow B 64 4 v n (flatC (marks 1 n)) ∧ w.grownBy w' v.ownBlock := by
  rcases Go.Joins.ownsRow_forms h with ⟨rfl, rfl⟩ | ⟨A, cap, rfl⟩
  · go_enter Try.func14, Try.ntmps14
    go_wp2_with fail
    refine (mark0 _).mono ?_
    rintro e w1 ⟨rfl, rfl⟩
    go_wp2
    go_ret
    exact ⟨rfl, World.ownsRow_nil _ _ _ _, grown_below (grown_refl w _) ((Below.refl _ w).alloc (Nat.le_refl _) _)⟩
  · have h1 := h.alloc (.cells #[.string D, .slice (some ⟨A, 0, none⟩) n cap] 24)
    have hm := mark_any A n cap B 1 M _ h1 hn (by omega)
    have HM : Hid (Calls Try.prog 37 #[.slice (some ⟨A, 0, none⟩) n cap, .int .i64 (1 : Nat)] (w.alloc (.cells #[.string D, .slice (some ⟨A, 0, none⟩) n cap] 24)) _) := hm
    clear hm h1 h
    go_enter Try.func14, Try.ntmps14
    go_wp2_with fail
    refine HM.out.mono ?_
    clear HM
    rintro e w1 ⟨rfl, o1, g1⟩
    go_wp2
    go_ret
    exact ⟨rfl, o1, ⟨g1.os, g1.tape, g1.output, by have := g1.size; simp at this; omega, fun j hj hne => (g1.block j (by simp; omega) hne).trans (Below.heap_alloc _ _ _ hj)⟩⟩

set_option maxHeartbeats 1000000 in
theorem heldHeapV (D : ByteArray) (v : Value) (B n : Nat) (w : World) (h : w.ownsRow B 64 4 v n (flatC (marks 1 n))) (hn : n ≤ 1048576) :
    Calls Try.prog 15 #[.agg #[.string D, v], .int .i64 1] w fun e w' => e = .returned (.int .i64 (1 + 4 * n : Nat)) ∧ Below w.heap.size w w' := by
  rcases Go.Joins.ownsRow_forms h with ⟨rfl, rfl⟩ | ⟨A, cap, rfl⟩
  · go_enter Try.func15, Try.ntmps15
    go_wp2_with fail
    refine (held0 _).mono ?_
    rintro e w1 ⟨rfl, rfl⟩
    go_wp2
    go_ret
    exact ⟨rfl, (Below.refl _ w).alloc (Nat.le_refl _) _⟩
  · have h1 := h.alloc (.cells #[.string D, .slice (some ⟨A, 0, none⟩) n cap] 24)
    have hm := held_any A n cap B 1 _ h1 hn (by omega)
    have HM : Hid (Calls Try.prog 38 #[.slice (some ⟨A, 0, none⟩) n cap, .int .i64 (1 : Nat)] (w.alloc (.cells #[.string D, .slice (some ⟨A, 0, none⟩) n cap] 24)) _) := hm
    clear hm h1 h
    go_enter Try.func15, Try.ntmps15
    go_wp2_with fail
    refine HM.out.mono ?_
    clear HM
    rintro e w1 ⟨rfl, rfl⟩
    go_wp2
    go_ret
    exact ⟨rfl, (Below.refl _ w).alloc (Nat.le_refl _) _⟩

theorem kept_row {w w' : World} {B n p : Nat} {T : TypeId} {C : Array Value} {v : Value} {xs : List Value} (h : RowAt w p T C) (ho : w.ownsRow B 64 4 v n xs) (g : w.grownBy w' v.ownBlock) (hT : T ≠ 64) : RowAt w' p T C :=
  (g.block p h.lt (own_ne ho h hT)).trans h

theorem kept_cells {w w' : World} {a : Option Addr} {b off n : Nat} {L : List Cl} {r : Option Nat} (h : CellsIn w a b off n L) (g : w.grownBy w' r) (hr : ∀ y, r = some y → 0 < n → b < y) : CellsIn w' a b off n L := by
  refine ⟨h.len, h.addr, fun h0 => Nat.lt_of_lt_of_le (h.low h0) g.size, fun i hi => ?_⟩
  have hb : ∀ j, w'.cell? ⟨b, j, none⟩ = w.cell? ⟨b, j, none⟩ := fun j => World.cell?_of_block (w := w) (g.block b (h.low (by omega)) (fun e => by have := hr b e.symm (by omega); omega))
  have hx := h.cell i hi
  exact ⟨(hb _).trans hx.c0, (hb _).trans hx.c1, (hb _).trans hx.c2, (hb _).trans hx.c3⟩

theorem own_apart {w0 w1 : World} {B0 B1 e e' s s' n n' : Nat} {v0 v1 : Value} {xs xs' : List Value} (h0 : w0.ownsRow B0 e s v0 n xs) (h1 : w1.ownsRow B1 e' s' v1 n' xs') (h : w0.heap.size ≤ B1) : v0.ownBlock = none ∨ v0.ownBlock ≠ v1.ownBlock := by
  cases hv : v0.ownBlock with
  | none => exact .inl rfl
  | some y =>
    refine .inr fun e => ?_
    have := (h0.lt y hv).2
    have := (h1.lt y e.symm).1
    omega

theorem put_len {s x : ByteArray} {L : List Cl} : (putL s L x).length ≤ 41 := by
  unfold putL
  split
  · rename_i h
    have hh : heapB s L = true := by
      unfold putOk at h
      rw [Bool.and_eq_true, Bool.and_eq_true, Bool.and_eq_true] at h
      exact h.1.1.1
    have := (heap_small hh).2
    unfold putCells roomC
    rw [List.length_set]
    split
    · simp; omega
    · omega
  · simp
end Go.Proofs.Ytobpilhkgnpoiaa
