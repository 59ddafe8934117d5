/- Nodes that a slice owns, each with its kids' row; what a reader's call leaves of memory. -/
import Derived.Test.YtcgeafdakaeicaaDoorLn
import Derived.Test.YtcgeafdakaeicaaDoorRrMath
import Derived.Test.YtcgeafdakaeicaaDoorRpSmall
import Derived.Maps.AppendAt
import Derived.Lib.SmallJoins
namespace Go.Proofs.YtcgeafdakaeicaaDoor
open Go.RowKit Go.Sort
open Rp (Nd nd0 plainB numB fieldsB)

abbrev Nv := Nd × Value

def flatN (P : List Nv) : List Value := P.flatMap fun p => [.int .i64 p.1.kind, .int .i64 p.1.num, .string p.1.s, p.2]
def intVals (ks : List Int) : List Value := ks.map fun k => .int .i64 k

theorem flatN_app (P Q : List Nv) : flatN (P ++ Q) = flatN P ++ flatN Q := by simp [flatN]
theorem flatN_len : ∀ P : List Nv, (flatN P).length = P.length * 4
  | [] => rfl
  | p :: P => by
    show ([_, _, _, _] ++ flatN P).length = _
    rw [List.length_append, flatN_len P]; simp; omega

def Apart (K : Value) (P : List Nv) : Prop := ∀ p ∈ P, ∀ k, p.2.ownBlock = some k → K.ownBlock ≠ some k

structure OwnN (w : World) (B : Nat) (V : Value) (P : List Nv) : Prop where
  row : w.ownsRow B 44 4 V P.length (flatN P)
  kids : ∀ p ∈ P, w.ownsRow B 2 1 p.2 p.1.kids.length (intVals p.1.kids)
  apart : P.Pairwise fun p q => ∀ k, p.2.ownBlock = some k → q.2.ownBlock ≠ some k

/-- Blocks that were there stay, but the reader's and the nodes' own. -/
structure Fr (w w' : World) (rb : Nat) (V : Value) : Prop where
  os : w'.os = w.os
  tape : w'.tape = w.tape
  output : w'.output = w.output
  size : w.heap.size ≤ w'.heap.size
  block : ∀ k, k < w.heap.size → k ≠ rb → V.ownBlock ≠ some k → w'.heap[k]? = w.heap[k]?

def Nw (w : World) (V V' : Value) : Prop := ∀ k, V'.ownBlock = some k → V.ownBlock = some k ∨ w.heap.size ≤ k
def NewQ (w : World) (Q : List Nv) : Prop := ∀ p ∈ Q, ∀ k, p.2.ownBlock = some k → w.heap.size ≤ k

theorem Nw.refl (w : World) (V : Value) : Nw w V V := fun _ h => .inl h
theorem Nw.trans {w w1 : World} {V V1 V2 : Value} (h : Nw w V V1) (h2 : Nw w1 V1 V2) (hs : w.heap.size ≤ w1.heap.size) : Nw w V V2 := fun k hk => by
  rcases h2 k hk with e | e
  · exact h k e
  · exact .inr (by omega)

theorem Fr.refl (w : World) (rb : Nat) (V : Value) : Fr w w rb V := ⟨rfl, rfl, rfl, Nat.le_refl _, fun _ _ _ _ => rfl⟩
theorem Fr.trans {w w1 w2 : World} {rb : Nat} {V V1 : Value} (h : Fr w w1 rb V) (h2 : Fr w1 w2 rb V1) (hn : Nw w V V1) : Fr w w2 rb V :=
  ⟨h2.os.trans h.os, h2.tape.trans h.tape, h2.output.trans h.output, Nat.le_trans h.size h2.size, fun k hk hr hv =>
    (h2.block k (by have := h.size; omega) hr (fun e => by
      rcases hn k e with e' | e'
      · exact hv e'
      · omega)).trans (h.block k hk hr hv)⟩
theorem Fr.of_grown {w w' : World} {rb : Nat} (V : Value) (h : w.grownBy w' (some rb)) : Fr w w' rb V :=
  ⟨h.os, h.tape, h.output, h.size, fun k hk hr _ => h.block k hk (by simpa using hr)⟩
theorem Fr.of_own {w w' : World} (rb : Nat) {V : Value} (h : w.grownBy w' V.ownBlock) : Fr w w' rb V :=
  ⟨h.os, h.tape, h.output, h.size, fun k hk _ hv => h.block k hk (fun e => hv e.symm)⟩
theorem Fr.of_below {w w' : World} (rb : Nat) (V : Value) (h : Below w.heap.size w w') : Fr w w' rb V :=
  ⟨h.os, h.tape, h.output, h.size, fun k hk _ _ => h.block k hk⟩
theorem Fr.low {w w' : World} {rb B : Nat} {V : Value} (h : Fr w w' rb V) (hB : B ≤ w.heap.size) (hr : B ≤ rb) (hV : ∀ k, V.ownBlock = some k → B ≤ k) : Below B w w' :=
  ⟨h.os, h.tape, h.output, h.size, fun k hk => h.block k (by omega) (by omega) (fun e => by have := hV k e; omega)⟩

theorem owns_block {w w' : World} {B : Nat} {e : TypeId} {size n : Nat} {v : Value} {xs : List Value} (h : w.ownsRow B e size v n xs) (hb : ∀ g, v.ownBlock = some g → w'.heap[g]? = w.heap[g]?) : w'.ownsRow B e size v n xs := by
  rcases h with ⟨h1, h2 | ⟨g, cap, cur, rfl, q1, q2, q3⟩⟩
  · exact ⟨h1, .inl h2⟩
  · exact ⟨h1, .inr ⟨g, cap, cur, rfl, q1, (hb g rfl).trans q2, q3⟩⟩

theorem own_type {w : World} {B : Nat} {e : TypeId} {size n : Nat} {v : Value} {xs : List Value} (h : w.ownsRow B e size v n xs) {g : Nat} (hg : v.ownBlock = some g) : ∃ c fz, w.heap[g]? = some (.cells c e fz) := by
  rcases h with ⟨h1, ⟨rfl, _⟩ | ⟨g', cap, cur, rfl, q1, q2, q3⟩⟩
  · simp [Value.ownBlock] at hg
  · simp [Value.ownBlock] at hg
    subst hg
    exact ⟨cur, (0, 0), q2⟩

theorem own_lt {w : World} {B : Nat} {e : TypeId} {size n : Nat} {v : Value} {xs : List Value} (h : w.ownsRow B e size v n xs) {g : Nat} (hg : v.ownBlock = some g) : B ≤ g ∧ g < w.heap.size := h.lt g hg

theorem own_other {w : World} {B B' : Nat} {e e' : TypeId} {size size' n n' : Nat} {v v' : Value} {xs xs' : List Value} (h : w.ownsRow B e size v n xs) (h' : w.ownsRow B' e' size' v' n' xs') (he : e ≠ e') {g : Nat} (hg : v.ownBlock = some g) : v'.ownBlock ≠ some g := fun hg' => by
  obtain ⟨c, fz, h1⟩ := own_type h hg
  obtain ⟨c', fz', h2⟩ := own_type h' hg'
  rw [h1] at h2
  injection h2 with h2
  injection h2 with _ h2
  exact he h2

theorem own_row {w : World} {B : Nat} {e T : TypeId} {size n rb : Nat} {v : Value} {xs : List Value} {C : Array Value} (h : w.ownsRow B e size v n xs) (hr : RowAt w rb T C) (he : e ≠ T) {g : Nat} (hg : v.ownBlock = some g) : g ≠ rb := fun hgr => by
  obtain ⟨c, fz, h1⟩ := own_type h hg
  subst hgr
  have h2 : w.heap[g]? = _ := hr
  rw [h1] at h2
  injection h2 with h2
  injection h2 with _ h2
  exact he h2

/-- Kids' rows stay under a reader's call. -/
theorem kid_fr {w w' : World} {rb B B' : Nat} {V : Value} {T : TypeId} {C : Array Value} {P : List Nv} {v : Value} {n : Nat} {xs : List Value} (hf : Fr w w' rb V) (hr : RowAt w rb T C) (hT : (2 : TypeId) ≠ T) (hV : OwnN w B' V P) (h : w.ownsRow B 2 1 v n xs) : w'.ownsRow B 2 1 v n xs :=
  owns_block h fun g hg => hf.block g (own_lt h hg).2 (own_row h hr hT hg) (own_other h hV.row (by decide) hg)

theorem OwnN.le {w : World} {B B' : Nat} {V : Value} {P : List Nv} (h : OwnN w B V P) (hB : B' ≤ B) : OwnN w B' V P :=
  ⟨Joins.ownsRow_le h.row hB, fun p hp => Joins.ownsRow_le (h.kids p hp) hB, h.apart⟩

/-- The nodes stay where neither their row nor a kids' row is touched. -/
theorem OwnN.of_block {w w' : World} {B : Nat} {V : Value} {P : List Nv} (h : OwnN w B V P) (hV : ∀ g, V.ownBlock = some g → w'.heap[g]? = w.heap[g]?) (hk : ∀ p ∈ P, ∀ g, p.2.ownBlock = some g → w'.heap[g]? = w.heap[g]?) : OwnN w' B V P :=
  ⟨owns_block h.row hV, fun p hp => owns_block (h.kids p hp) (hk p hp), h.apart⟩

theorem OwnN.below {w w' : World} {B B' : Nat} {V : Value} {P : List Nv} (h : OwnN w B V P) (hb : Below B' w w') (hw : w.heap.size ≤ B') : OwnN w' B V P :=
  h.of_block (fun g hg => hb.block g (by have := (own_lt h.row hg).2; omega)) (fun p hp g hg => hb.block g (by have := (own_lt (h.kids p hp) hg).2; omega))

theorem OwnN.grown {w w' : World} {rb B : Nat} {V : Value} {T : TypeId} {C : Array Value} {P : List Nv} (h : OwnN w B V P) (hr : RowAt w rb T C) (h1 : (2 : TypeId) ≠ T) (h2 : (44 : TypeId) ≠ T) (hg : w.grownBy w' (some rb)) : OwnN w' B V P :=
  h.of_block (fun g hg' => hg.block g (own_lt h.row hg').2 (by simpa using own_row h.row hr h2 hg')) (fun p hp g hg' => hg.block g (own_lt (h.kids p hp) hg').2 (by simpa using own_row (h.kids p hp) hr h1 hg'))

/-- One node more at the end: the row grew, the kids' rows are as they were. -/
theorem OwnN.snoc {w w' : World} {B : Nat} {V V' : Value} {P : List Nv} {x : Nd} {K : Value} (h : OwnN w B V P) (hk : w.ownsRow B 2 1 K x.kids.length (intVals x.kids)) (ha : Apart K P) (ho : w'.ownsRow B 44 4 V' (P.length + 1) (flatN P ++ [.int .i64 x.kind, .int .i64 x.num, .string x.s, K])) (hg : w.grownBy w' V.ownBlock) : OwnN w' B V' (P ++ [(x, K)]) := by
  refine ⟨?_, ?_, ?_⟩
  · rw [flatN_app, List.length_append]; exact ho
  · intro p hp
    have go : ∀ {v : Value} {n : Nat} {xs : List Value}, w.ownsRow B 2 1 v n xs → w'.ownsRow B 2 1 v n xs := fun hv => owns_block hv fun g hg' => hg.block g (own_lt hv hg').2 (fun e => own_other hv h.row (by decide) hg' e.symm)
    rcases List.mem_append.1 hp with hp | hp
    · exact go (h.kids p hp)
    · simp at hp; subst hp; exact go hk
  · refine List.pairwise_append.2 ⟨h.apart, by simp, ?_⟩
    intro p hp q hq k hk'
    simp at hq; subst hq
    exact ha p hp k hk'

theorem ready_fr {w w' : World} {rb B : Nat} {V : Value} {P : List Nv} (hr : Ready w) (hf : Fr w w' rb V) (hrb : 6 ≤ rb) (hB : 6 ≤ B) (hV : OwnN w B V P) : Ready w' :=
  hr.below (hf.low hr.six hrb (fun k hk => by have := (own_lt hV.row hk).1; omega))

/-- A slice's value is a slice of its length. -/
theorem own_form {w : World} {B : Nat} {e : TypeId} {size n : Nat} {v : Value} {xs : List Value} (h : w.ownsRow B e size v n xs) : ∃ a c, v = .slice a n c := by
  rcases Joins.ownsRow_forms h with ⟨h1, h2⟩ | ⟨A, c, rfl⟩
  · exact ⟨none, 0, by rw [h2, h1]⟩
  · exact ⟨some ⟨A, 0, none⟩, c, rfl⟩
end Go.Proofs.YtcgeafdakaeicaaDoor
