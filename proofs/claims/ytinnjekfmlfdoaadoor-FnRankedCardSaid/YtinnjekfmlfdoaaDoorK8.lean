/- Ranks with another score for a member, in the specification's words. -/
import Derived.Test.YtinnjekfmlfdoaaDoorK7
namespace Go.Proofs.YtinnjekfmlfdoaaDoor
open Go.RowKit Go.Sort

theorem OwnR.below {w w' : World} {B : Nat} {v : Value} {L : List Rk} (h : OwnR w B v L) (hb : Below w.heap.size w w') : OwnR w' B v L := by
  obtain ⟨h1, ⟨e1, e2⟩ | ⟨g, cap, cur, e1, h2, h3, h4⟩⟩ := h
  · exact ⟨h1, .inl ⟨e1, e2⟩⟩
  · exact ⟨h1, .inr ⟨g, cap, cur, e1, h2, (hb.block g (RowAt.lt (T := 30) (C := cur) h3)).trans h3, h4⟩⟩

theorem flatR_at (L : List Rk) (i : Nat) (h : i < L.length) : (flatR L)[i * 2]? = some (.string (L.getD i rk0).m) ∧ (flatR L)[i * 2 + 1]? = some (.int .i64 (L.getD i rk0).s) := by
  induction L generalizing i with
  | nil => simp at h
  | cons x l ih =>
    cases i with
    | zero => exact ⟨rfl, rfl⟩
    | succ i =>
      have := ih i (by simpa using h)
      have e : flatR (x :: l) = .string x.m :: .int .i64 x.s :: flatR l := rfl
      have e2 : (i + 1) * 2 = i * 2 + 1 + 1 := by omega
      rw [e, e2]
      simpa using this

theorem ownR_at {w : World} {B A cap : Nat} {L : List Rk} (h : OwnR w B (.slice (some ⟨A, 0, none⟩) L.length cap) L) (i : Nat) (hi : i < L.length) : RkAt w A (i * 2) (L.getD i rk0) := by
  obtain ⟨f0, f1⟩ := flatR_at L i hi
  have c0 := h.cells rfl _ _ f0
  have c1 := h.cells rfl _ _ f1
  rw [Addr.add_lit, Nat.zero_add] at c0 c1
  exact ⟨c0, c1⟩

/-- Where x belongs. -/
def posR (M : List Rk) (x : Rk) : Nat := (M.takeWhile fun y => aheadB y x).length
def insR (M : List Rk) (x : Rk) : List Rk := M.take (posR M x) ++ ([x] ++ M.drop (posR M x))

theorem pos_at (M : List Rk) (x : Rk) (k : Nat) (hk : k ≤ M.length) (h : ∀ j, j < k → aheadB (M.getD j rk0) x = true) (he : k = M.length ∨ aheadB (M.getD k rk0) x = false) : posR M x = k := by
  unfold posR
  induction M generalizing k with
  | nil => simp at hk; subst hk; rfl
  | cons y l ih =>
    cases k with
    | zero =>
      rcases he with he | he
      · simp at he
      · have he' : aheadB y x = false := he
        rw [List.takeWhile_cons, he']; rfl
    | succ k =>
      have h0 : aheadB y x = true := h 0 (by omega)
      rw [List.takeWhile_cons, h0]
      have := ih k (by simpa using hk) (fun j hj => h (j + 1) (by omega)) (by
        rcases he with he | he
        · left; simpa using he
        · right; exact he)
      simp only [if_true, List.length_cons, this]
end Go.Proofs.YtinnjekfmlfdoaaDoor
