/- Cells that a slice owns: copied, marked, held. -/
import Derived.Test.YtjjpplpdpldkeaaHGapW
namespace Go.Proofs.Ytjjpplpdpldkeaa
open Go.RowKit Go.Sort

def flatC (L : List Cl) : List Value := L.flatMap fun x => (clV x).toList

theorem flatC_len : ∀ L : List Cl, (flatC L).length = L.length * 4
  | [] => rfl
  | x :: r => by
    have := flatC_len r
    simp only [flatC, List.flatMap_cons, List.length_append, List.length_cons, List.length_nil] at this ⊢
    omega

theorem flatC_app (G H : List Cl) : flatC (G ++ H) = flatC G ++ flatC H := by
  unfold flatC
  rw [List.flatMap_append]

theorem split_at (L : List Cl) (k : Nat) (h : k < L.length) : L = L.take k ++ (L.getD k cl0 :: L.drop (k + 1)) := by
  rw [List.getD_eq_getElem?_getD, List.getElem?_eq_getElem h]
  simp

theorem flatC_at (L : List Cl) (k j : Nat) (h : k < L.length) (hj : j < 4) : (flatC L)[k * 4 + j]? = (clV (L.getD k cl0))[j]? := by
  have e := split_at L k h
  have hl : (flatC (L.take k)).length = k * 4 := by rw [flatC_len, List.length_take]; omega
  generalize L.getD k cl0 = x at *
  rw [e, flatC_app, List.getElem?_append_right (by rw [hl]; omega), hl, show k * 4 + j - k * 4 = j from by omega]
  show ((clV x).toList ++ flatC (L.drop (k + 1)))[j]? = _
  rw [List.getElem?_append_left (by simp; omega), Array.getElem?_toList]

/-- One cell of the row put anew. -/
def putC (L : List Cl) (k : Nat) (x : Cl) : List Cl := L.set k x

theorem flatC_set (L : List Cl) (k : Nat) (x : Cl) (h : k < L.length) : ((((flatC L).set (k * 4) (.int .i64 x.pos)).set (k * 4 + 1) (.int .i64 x.len)).set (k * 4 + 2) (.int .i64 x.gen)).set (k * 4 + 3) (.bool x.live) = flatC (L.set k x) := by
  have e := split_at L k h
  have hl : (flatC (L.take k)).length = k * 4 := by rw [flatC_len, List.length_take]; omega
  have e2 : L.set k x = L.take k ++ (x :: L.drop (k + 1)) := by
    rw [List.set_eq_take_append_cons_drop, if_pos h]
  generalize L.getD k cl0 = y at *
  rw [e2, flatC_app]
  conv => lhs; rw [e, flatC_app]
  have s : ∀ (A B : List Value) (j : Nat) (v : Value), A.length = k * 4 → (A ++ B).set (k * 4 + j) v = A ++ B.set j v := fun A B j v hA => by
    rw [List.set_append_right _ _ (by omega), hA, show k * 4 + j - k * 4 = j from by omega]
  have s0 : (flatC (L.take k) ++ flatC (y :: L.drop (k + 1))).set (k * 4) (.int .i64 x.pos) = _ := s (flatC (L.take k)) (flatC (y :: L.drop (k + 1))) 0 (.int .i64 x.pos) hl
  rw [s0, s _ _ 1 _ hl, s _ _ 2 _ hl, s _ _ 3 _ hl]
  rfl

theorem owns_cellsIn {w : World} {B n cap A : Nat} {L : List Cl} (h : w.ownsRow B 35 4 (.slice (some ⟨A, 0, none⟩) n cap) n (flatC L)) : CellsIn w (some ⟨A, 0, none⟩) A 0 n L := by
  have hl : L.length = n := by
    have := h.1
    rw [flatC_len] at this
    omega
  refine ⟨hl, fun _ => rfl, fun _ => (h.lt A rfl).2, fun i hi => ?_⟩
  have g : ∀ j, j < 4 → w.cell? ⟨A, 0 + i * 4 + j, none⟩ = (clV (L.getD i cl0))[j]? := fun j hj => by
    have e := flatC_at L i j (by omega) hj
    have hs : j < (clV (L.getD i cl0)).size := hj
    rw [Array.getElem?_eq_getElem hs] at e ⊢
    have := h.cells rfl (i * 4 + j) _ e
    rw [Addr.add_lit, Nat.zero_add] at this
    rw [Nat.zero_add]
    exact this
  exact ⟨g 0 (by omega), g 1 (by omega), g 2 (by omega), g 3 (by omega)⟩

theorem cellsIn_none {w : World} {a : Option Addr} {A : Nat} : CellsIn w a A 0 0 [] := ⟨rfl, fun h => by omega, fun h => by omega, fun i hi => by omega⟩

/-- What is marked into n cells, from k on. -/
def marks (k : Nat) : Nat → List Cl
  | 0 => []
  | n + 1 => ⟨(k : Int), (k + 1 : Nat), (k + 2 : Nat), decide ((k + 3) % 3 = 0)⟩ :: marks (k + 4) n

theorem marks_len : ∀ (n k : Nat), (marks k n).length = n
  | 0, _ => rfl
  | n + 1, k => by rw [marks, List.length_cons, marks_len n]

theorem marks_at : ∀ (n k i : Nat), i < n → (marks k n).getD i cl0 = ⟨(k + 4 * i : Nat), (k + 4 * i + 1 : Nat), (k + 4 * i + 2 : Nat), decide ((k + 4 * i + 3) % 3 = 0)⟩
  | 0, _, _, h => by omega
  | n + 1, k, 0, _ => rfl
  | n + 1, k, i + 1, h => by
    rw [marks, List.getD_cons_succ, marks_at n (k + 4) i (by omega), show k + 4 + 4 * i = k + 4 * (i + 1) from by omega]

/-- The row while it is marked: i cells are. -/
def half (k i : Nat) (L : List Cl) : List Cl := marks k i ++ L.drop i

theorem marks_next : ∀ (i k : Nat), marks k (i + 1) = marks k i ++ [⟨(k + 4 * i : Nat), (k + 4 * i + 1 : Nat), (k + 4 * i + 2 : Nat), decide ((k + 4 * i + 3) % 3 = 0)⟩]
  | 0, k => rfl
  | i + 1, k => by
    rw [marks, marks_next i (k + 4), show k + 4 + 4 * i = k + 4 * (i + 1) from by omega]
    rfl

theorem half_next (k i : Nat) (L : List Cl) (h : i < L.length) : half k (i + 1) L = (half k i L).set i ⟨(k + 4 * i : Nat), (k + 4 * i + 1 : Nat), (k + 4 * i + 2 : Nat), decide ((k + 4 * i + 3) % 3 = 0)⟩ := by
  unfold half
  rw [marks_next, List.set_append_right _ _ (by rw [marks_len]; omega), marks_len, Nat.sub_self, List.drop_eq_getElem_cons h, List.append_assoc]
  rfl

theorem half_len (k i : Nat) (L : List Cl) (h : i ≤ L.length) : (half k i L).length = L.length := by
  unfold half
  rw [List.length_append, marks_len, List.length_drop]
  omega
end Go.Proofs.Ytjjpplpdpldkeaa
