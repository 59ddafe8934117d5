/- A list of lists that owns its memory: the outer row, and a row of its own for each of its lists. -/
import Derived.Test.YtielombpeeelkaaDoorMark
import Derived.Test.YtielombpeeelkaaDoorRqLaw
import Derived.Test.YtielombpeeelkaaDoorFedMath
import Derived.Lib.SmallJoins
namespace Go.Proofs.YtielombpeeelkaaDoor
open Go.RowKit Go.Sort

theorem info30 : (Tryd.prog.info? 30).map (fun i => (i.zero, i.size, i.bytes)) = some (some (.slice none 0 0), 1, 24) := by kernel_rfl

/-- The rows' blocks rise: no two are one. -/
def Rise (x y : Value) : Prop := ∀ a b, x.ownBlock = some a → y.ownBlock = some b → a < b

structure Own2 (W : World) (B : Nat) (v : Value) (xs : List Value) (rows : List (List Value)) : Prop where
  outer : W.ownsRow B 30 1 v rows.length xs
  inner : ∀ (i : Nat) (r : List Value), rows[i]? = some r → ∃ x, xs[i]? = some x ∧ W.ownsRow B 9 1 x r.length r
  up : xs.Pairwise Rise

theorem own_kept {w w' : World} {B n : Nat} {T : TypeId} {v : Value} {xs : List Value} (h : w.ownsRow B T 1 v n xs) (hb : Below w.heap.size w w') : w'.ownsRow B T 1 v n xs :=
  h.kept (row := some w.heap.size) ⟨hb.os, hb.tape, hb.output, hb.size, fun k hk _ => hb.block k hk⟩ (.inr fun e => by have := (h.lt w.heap.size e).2; omega)

theorem Own2.below {W W' : World} {B : Nat} {v : Value} {xs : List Value} {rows : List (List Value)} (h : Own2 W B v xs rows) (hb : Below W.heap.size W W') : Own2 W' B v xs rows :=
  ⟨own_kept h.outer hb, fun i r hr => by obtain ⟨x, h1, h2⟩ := h.inner i r hr; exact ⟨x, h1, own_kept h2 hb⟩, h.up⟩

theorem Own2.drewN {W : World} {B : Nat} {v : Value} {xs : List Value} {rows : List (List Value)} (h : Own2 W B v xs rows) (q : Nat) : Own2 (W.drewN q) B v xs rows := ⟨h.outer, h.inner, h.up⟩

theorem Own2.base {W : World} {B B' : Nat} {v : Value} {xs : List Value} {rows : List (List Value)} (h : Own2 W B v xs rows) (hB : B' ≤ B) : Own2 W B' v xs rows :=
  ⟨Joins.ownsRow_le h.outer hB, fun i r hr => by obtain ⟨x, h1, h2⟩ := h.inner i r hr; exact ⟨x, h1, Joins.ownsRow_le h2 hB⟩, h.up⟩

/-- The type that a row's block bears. -/
theorem own_type {W : World} {B n g : Nat} {T : TypeId} {v : Value} {xs : List Value} (h : W.ownsRow B T 1 v n xs) (hg : v.ownBlock = some g) : ∃ C, W.heap[g]? = some (.cells C T (0, 0)) := by
  obtain ⟨_, ⟨rfl, _⟩ | ⟨g', cap, cur, rfl, _, hh, _⟩⟩ := h
  · simp [Value.ownBlock] at hg
  · have : g' = g := by simpa [Value.ownBlock] using hg
    subst this
    exact ⟨cur, hh⟩

theorem own_apart {W : World} {B B' n n' : Nat} {v v' : Value} {xs xs' : List Value} (h : W.ownsRow B 30 1 v n xs) (h' : W.ownsRow B' 9 1 v' n' xs') {g : Nat} (hg : v.ownBlock = some g) : v'.ownBlock ≠ some g := fun e => by
  obtain ⟨C, h1⟩ := own_type h hg
  obtain ⟨C', h2⟩ := own_type h' e
  rw [h1] at h2
  cases h2

theorem Own2.nil (W : World) (B : Nat) : Own2 W B (.slice none 0 0) [] [] := ⟨World.ownsRow_nil _ _ _ _, fun i r hr => by simp at hr, List.Pairwise.nil⟩

theorem Own2.none (w : World) (B : Nat) (hB : B ≤ w.heap.size) : Own2 (w.alloc (.cells #[] 30)) B (.slice (some ⟨w.heap.size, 0, none⟩) 0 0) [] [] :=
  ⟨⟨rfl, .inr ⟨w.heap.size, 0, #[], rfl, hB, RowAt.new w 30 #[], by simp, by unfold maxLen; omega, by simp, by simp⟩⟩, fun i r hr => by simp at hr, List.Pairwise.nil⟩

theorem Own2.blocks {W : World} {B : Nat} {v : Value} {xs : List Value} {rows : List (List Value)} (h : Own2 W B v xs rows) : ∀ x ∈ xs, ∀ a, x.ownBlock = some a → B ≤ a ∧ a < W.heap.size := fun x hx a ha => by
  obtain ⟨i, hi⟩ := List.getElem?_of_mem hx
  have hl : xs.length = rows.length := by
    have := h.outer.1
    omega
  have hil : i < xs.length := (List.getElem?_eq_some_iff.1 hi).1
  obtain ⟨y, h1, h2⟩ := h.inner i rows[i] (List.getElem?_eq_getElem (by omega))
  rw [hi] at h1
  cases h1
  exact h2.lt a ha

/-- A row more. -/
theorem Own2.more {W W' : World} {B M : Nat} {v v' x : Value} {xs : List Value} {rows : List (List Value)} {r : List Value} (h : Own2 W B v xs rows) (hx : W.ownsRow M 9 1 x r.length r) (hM : ∀ y ∈ xs, ∀ a, y.ownBlock = some a → a < M) (hBM : B ≤ M)
    (ho : W'.ownsRow B 30 1 v' (rows.length + 1) (xs ++ [x])) (hk : ∀ k, k < W.heap.size → some k ≠ v.ownBlock → W'.heap[k]? = W.heap[k]?) (hos : W'.os = W.os) (htp : W'.tape = W.tape) (hou : W'.output = W.output) (hsz : W.heap.size ≤ W'.heap.size) :
    Own2 W' B v' (xs ++ [x]) (rows ++ [r]) := by
  have hl : xs.length = rows.length := by have := h.outer.1; omega
  have kp : ∀ {y : Value} {n : Nat} {ys : List Value} {B' : Nat}, W.ownsRow B' 9 1 y n ys → W'.ownsRow B' 9 1 y n ys := fun {y n ys B'} hy =>
    hy.kept (row := v.ownBlock) ⟨hos, htp, hou, hsz, fun k hk' hne => hk k hk' hne⟩ (by
      cases hv : v.ownBlock with
      | none =>
        by_cases hyn : y.ownBlock = Option.none
        · exact .inl hyn
        · exact .inr hyn
      | some g => exact .inr (own_apart h.outer hy hv))
  refine ⟨by rw [List.length_append, List.length_singleton]; exact ho, fun i s hs => ?_, ?_⟩
  · by_cases hi : i < rows.length
    · rw [List.getElem?_append_left hi] at hs
      obtain ⟨y, h1, h2⟩ := h.inner i s hs
      exact ⟨y, by rw [List.getElem?_append_left (by omega)]; exact h1, kp h2⟩
    · have hi2 : i = rows.length := by
        have := (List.getElem?_eq_some_iff.1 hs).1
        rw [List.length_append, List.length_singleton] at this
        omega
      subst hi2
      rw [List.getElem?_append_right (Nat.le_refl _), Nat.sub_self] at hs
      cases hs
      exact ⟨x, by rw [← hl, List.getElem?_append_right (Nat.le_refl _), Nat.sub_self]; rfl, kp (Joins.ownsRow_le hx hBM)⟩
  · rw [List.pairwise_append]
    refine ⟨h.up, List.pairwise_singleton _ _, fun y hy z hz => ?_⟩
    rw [List.mem_singleton] at hz
    subst hz
    intro a b ha hb
    have h1 := hM y hy a ha
    have h2 := (hx.lt b hb).1
    omega
end Go.Proofs.YtielombpeeelkaaDoor
