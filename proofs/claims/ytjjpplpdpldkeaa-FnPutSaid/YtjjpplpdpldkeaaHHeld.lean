/- Heaps whose cells a slice owns: copied, held against each other, marked, held. -/
import Derived.Test.YtjjpplpdpldkeaaHPutJ
namespace Go.Proofs.Ytjjpplpdpldkeaa
open Go.RowKit Go.Sort

theorem row_owns {w : World} {g n : Nat} {D : Array Value} {L : List Cl} (h : RowAt w g 35 D) (hD : D.size = n * 4) (hp : Pre w g L n) (hl : L.length = n) (hn : n ≤ 1048576) : w.ownsRow g 35 4 (.slice (some ⟨g, 0, none⟩) n n) n (flatC L) := by
  refine ⟨by rw [flatC_len, hl], .inr ⟨g, n, D, rfl, Nat.le_refl _, h, Nat.le_refl _, by unfold maxLen; omega, hD, ?_⟩⟩
  apply List.ext_getElem?
  intro j
  by_cases hj : j < n * 4
  · rw [List.getElem?_take, if_pos hj, Array.getElem?_toList]
    have hk : j / 4 < n := by omega
    have hc := hp (j / 4) hk
    have e : j = j / 4 * 4 + j % 4 := by omega
    have hf := flatC_at L (j / 4) (j % 4) (by omega) (by omega)
    rw [← e] at hf
    rw [hf, ← h.cell j]
    have h4 : j % 4 = 0 ∨ j % 4 = 1 ∨ j % 4 = 2 ∨ j % 4 = 3 := by omega
    generalize L.getD (j / 4) cl0 = y at *
    rcases h4 with h4 | h4 | h4 | h4
    · rw [h4] at e ⊢
      rw [show j = j / 4 * 4 from by omega]
      exact hc.c0
    · rw [h4] at e ⊢
      conv => lhs; rw [e]
      exact hc.c1
    · rw [h4] at e ⊢
      conv => lhs; rw [e]
      exact hc.c2
    · rw [h4] at e ⊢
      conv => lhs; rw [e]
      exact hc.c3
  · rw [List.getElem?_take, if_neg hj, List.getElem?_eq_none (by rw [flatC_len, hl]; omega)]

theorem owns_in {w : World} {B n : Nat} {v : Value} {M : List Cl} (h : w.ownsRow B 35 4 v n (flatC M)) : ∃ a A cap, v = .slice a n cap ∧ CellsIn w a A 0 n M := by
  have hl : M.length = n := by
    have := h.1
    rw [flatC_len] at this
    omega
  rcases Go.Joins.ownsRow_forms h with ⟨rfl, rfl⟩ | ⟨A, cap, rfl⟩
  · have : M = [] := List.eq_nil_of_length_eq_zero hl
    subst this
    exact ⟨none, 0, 0, rfl, cellsIn_none⟩
  · exact ⟨_, A, cap, rfl, owns_cellsIn h⟩

theorem kept_row {w w' : World} {B n p : Nat} {T : TypeId} {C : Array Value} {v : Value} {xs : List Value} (h : RowAt w p T C) (ho : w.ownsRow B 35 4 v n xs) (g : w.grownBy w' v.ownBlock) (hT : T ≠ 35) : RowAt w' p T C :=
  (g.block p h.lt (own_ne ho h hT)).trans h

theorem kept_cells {w w' : World} {a : Option Addr} {b off n : Nat} {L : List Cl} {r : Option Nat} (h : CellsIn w a b off n L) (g : w.grownBy w' r) (hr : ∀ y, r = some y → 0 < n → b < y) : CellsIn w' a b off n L := by
  refine ⟨h.len, h.addr, fun h0 => Nat.lt_of_lt_of_le (h.low h0) g.size, fun i hi => ?_⟩
  have hb : ∀ j, w'.cell? ⟨b, j, none⟩ = w.cell? ⟨b, j, none⟩ := fun j => World.cell?_of_block (w := w) (g.block b (h.low (by omega)) (fun e => by have := hr b e.symm (by omega); omega))
  have hx := h.cell i hi
  exact ⟨(hb _).trans hx.c0, (hb _).trans hx.c1, (hb _).trans hx.c2, (hb _).trans hx.c3⟩

theorem own_apart {w0 w1 : World} {B0 B1 e e' s s' n n' : Nat} {v0 v1 : Value} {xs xs' : List Value} (h0 : w0.ownsRow B0 e s v0 n xs) (h1 : w1.ownsRow B1 e' s' v1 n' xs') (h : w0.heap.size ≤ B1) : v0.ownBlock = none ∨ v0.ownBlock ≠ v1.ownBlock := by
  cases hv : v0.ownBlock with
  | none => exact .inl rfl
  | some y =>
    refine .inr fun e => ?_
    have := (h0.lt y hv).2
    have := (h1.lt y e.symm).1
    omega

theorem put_len {s x : ByteArray} {L : List Cl} : (putL s L x).length ≤ 41 := by
  unfold putL
  split
  · rename_i h
    have hh : heapB s L = true := by
      unfold putOk at h
      rw [Bool.and_eq_true, Bool.and_eq_true, Bool.and_eq_true] at h
      exact h.1.1.1
    have := (heap_small hh).2
    unfold putCells roomC
    rw [List.length_set]
    split
    · simp; omega
    · omega
  · simp
end Go.Proofs.Ytjjpplpdpldkeaa
