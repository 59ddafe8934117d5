/- The heap that is being drawn: what is known of it at each step. -/
import Derived.Test.YtjjpplpdpldkeaaDraw
import Derived.Test.YtjjpplpdpldkeaaHHeld
import Derived.Lib.SmallJoins
import Derived.Lib.OwnKind
namespace Go.Proofs.Ytjjpplpdpldkeaa
open Go.RowKit Go.Sort

/-- A row of references. -/
def flatR (rs : List (Int × Int)) : List Value := rs.flatMap fun p => [.int .i64 p.1, .int .i64 p.2]

theorem flatR_len : ∀ rs : List (Int × Int), (flatR rs).length = rs.length * 2
  | [] => rfl
  | p :: r => by
    have := flatR_len r
    unfold flatR at this ⊢
    rw [List.flatMap_cons, List.length_append, this]
    simp
    omega

theorem flatR_app (rs : List (Int × Int)) (p : Int × Int) : flatR (rs ++ [p]) = flatR rs ++ [.int .i64 p.1, .int .i64 p.2] := by
  unfold flatR
  simp

theorem flatR_at : ∀ (rs : List (Int × Int)) (j : Nat), j < rs.length → (flatR rs)[j * 2]? = some (.int .i64 (rs.getD j (0, 0)).1) ∧ (flatR rs)[j * 2 + 1]? = some (.int .i64 (rs.getD j (0, 0)).2)
  | [], j, h => by simp at h
  | p :: r, 0, _ => ⟨rfl, rfl⟩
  | p :: r, j + 1, h => by
    have := flatR_at r j (by simpa using h)
    have e : flatR (p :: r) = .int .i64 p.1 :: .int .i64 p.2 :: flatR r := rfl
    rw [e, List.getD_cons_succ, show (j + 1) * 2 = j * 2 + 1 + 1 from by omega]
    exact this

def refC (rs : List (Int × Int)) (j : Nat) : Int := (rs.getD j (0, 0)).1
def refG (rs : List (Int × Int)) (j : Nat) : Int := (rs.getD j (0, 0)).2

theorem ref_at {w : World} {B A cap n : Nat} {rs : List (Int × Int)} (h : w.ownsRow B 30 2 (.slice (some ⟨A, 0, none⟩) n cap) n (flatR rs)) {j : Nat} (hj : j < rs.length) :
    w.cell? ⟨A, j * 2, none⟩ = some (.int .i64 (refC rs j)) ∧ w.cell? ⟨A, j * 2 + 1, none⟩ = some (.int .i64 (refG rs j)) := by
  obtain ⟨h1, h2⟩ := flatR_at rs j hj
  have a := h.cells rfl _ _ h1
  have b := h.cells rfl _ _ h2
  rw [Addr.add_lit, Nat.zero_add] at a b
  exact ⟨a, b⟩

/-- What lies in the world while a heap is drawn: the answer's room, the heap, the references, the reader. -/
structure St (w0 : World) (rb : Nat) (ra : Option Addr) (rn rc B H : Nat) (s : ByteArray) (L : List Cl) (v : Value) (rs : List (Int × Int)) (vr : Value) (W : World) : Prop where
  base : rb < B ∧ w0.heap.size = B
  res : RowAt W B 26 #[.string ⟨#[]⟩, .slice none 0 0]
  top : B < H
  row : RowAt W H 26 #[.string s, v]
  own : W.ownsRow B 35 4 v L.length (flatC L)
  ref : W.ownsRow B 30 2 vr rs.length (flatR rs)
  rd : Rd W rb ra rn rc
  grown : w0.grownBy W (some rb)

/-- All that is known lies below. -/
structure Low (rb B H : Nat) (v vr : Value) (Z : Nat) : Prop where
  r : rb < Z
  b : B < Z
  h : H < Z
  v : ∀ y, v.ownBlock = some y → y < Z
  vr : ∀ y, vr.ownBlock = some y → y < Z

section
variable {w0 : World} {rb : Nat} {ra : Option Addr} {rn rc B H Z : Nat} {s : ByteArray} {L : List Cl} {v : Value} {rs : List (Int × Int)} {vr : Value} {W W' : World}

theorem St.low (h : St w0 rb ra rn rc B H s L v rs vr W) : Low rb B H v vr W.heap.size :=
  ⟨by have := h.base; have := h.res.lt; omega, h.res.lt, h.row.lt, fun y hy => (h.own.lt y hy).2, fun y hy => (h.ref.lt y hy).2⟩

theorem St.below (h : St w0 rb ra rn rc B H s L v rs vr W) (hb : Below W.heap.size W W') : St w0 rb ra rn rc B H s L v rs vr W' :=
  ⟨h.base, h.res.below hb h.res.lt, h.top, h.row.below hb h.row.lt, owns_below h.own hb, owns_below h.ref hb, h.rd.below hb h.low.r, grown_below h.grown hb⟩

theorem St.alloc (h : St w0 rb ra rn rc B H s L v rs vr W) (o : Obj) : St w0 rb ra rn rc B H s L v rs vr (W.alloc o) := h.below ((Below.refl _ W).alloc (Nat.le_refl _) o)

theorem St.drew (h : St w0 rb ra rn rc B H s L v rs vr W) : St w0 rb ra rn rc B H s L v rs vr W.drew := h.below (Below.refl _ W).drew

theorem St.read (h : St w0 rb ra rn rc B H s L v rs vr W) (hr : Rd W' rb ra rn rc) (hg : W.grownBy W' (some rb)) : St w0 rb ra rn rc B H s L v rs vr W' := by
  have hb := h.base
  have ht := h.top
  refine ⟨h.base, (hg.block B h.res.lt (by simp; omega)).trans h.res, h.top, (hg.block H h.row.lt (by simp; omega)).trans h.row, h.own.kept hg (.inr fun e => ?_), h.ref.kept hg (.inr fun e => ?_), hr, grown_trans h.grown hg⟩
  · have := (h.own.lt rb e).1; omega
  · have := (h.ref.lt rb e).1; omega

theorem St.set (h : St w0 rb ra rn rc B H s L v rs vr W) (hl : Low rb B H v vr Z) {q j : Nat} (hq : Z ≤ q) (u : Value) : St w0 rb ra rn rc B H s L v rs vr (W.setCell ⟨q, j, none⟩ u) := by
  have h1 := hl.r
  have h2 := hl.b
  have h3 := hl.h
  have e1 : ∀ k, k < Z → (W.setCell ⟨q, j, none⟩ u).heap[k]? = W.heap[k]? := fun k hk => Below.heap_setCell _ _ _ _ (by simp only; omega)
  refine ⟨h.base, (e1 B h2).trans h.res, h.top, (e1 H h3).trans h.row, ownsRow_setCell_other h.own (fun e => by have := hl.v _ e; simp only at this; omega) _, ownsRow_setCell_other h.ref (fun e => by have := hl.vr _ e; simp only at this; omega) _, ?_, ?_⟩
  · exact h.rd.below ((Below.refl Z W).setCell (p := ⟨q, j, none⟩) hq u) h1
  · refine ⟨h.grown.os, h.grown.tape, h.grown.output, ?_, fun k hk hr => ?_⟩
    · have := h.grown.size
      simpa [World.setCell] using this
    · exact (e1 k (by have := h.base; omega)).trans (h.grown.block k hk hr)

/-- Another heap in its place. -/
theorem St.swap (h : St w0 rb ra rn rc B H s L v rs vr W) {s' : ByteArray} {L' : List Cl} {v' : Value} (ho : W.ownsRow B 35 4 v' L'.length (flatC L')) : St w0 rb ra rn rc B H s' L' v' rs vr ((W.setCell ⟨H, 0, none⟩ (.string s')).setCell ⟨H, 1, none⟩ v') := by
  have hb := h.base
  have ht := h.top
  have n1 := own_ne ho h.row (by decide)
  have n2 := own_ne h.ref h.row (by decide)
  have e1 : ∀ k, k ≠ H → ((W.setCell ⟨H, 0, none⟩ (.string s')).setCell ⟨H, 1, none⟩ v').heap[k]? = W.heap[k]? := fun k hk => (Below.heap_setCell _ _ _ _ (by simp only; omega)).trans (Below.heap_setCell _ _ _ _ (by simp only; omega))
  refine ⟨h.base, (e1 B (by omega)).trans h.res, h.top, ?_, ownsRow_setCell_other (ownsRow_setCell_other ho (fun e => n1 e.symm) _) (fun e => n1 e.symm) _, ownsRow_setCell_other (ownsRow_setCell_other h.ref (fun e => n2 e.symm) _) (fun e => n2 e.symm) _, ?_, ?_⟩
  · have := (h.row.set 0 (.string s')).set 1 v'
    simpa using this
  · exact h.rd.below (((Below.refl H W).setCell (p := ⟨H, 0, none⟩) (Nat.le_refl _) (.string s')).setCell (p := ⟨H, 1, none⟩) (Nat.le_refl _) v') (by omega)
  · refine ⟨h.grown.os, h.grown.tape, h.grown.output, ?_, fun k hk hr => ?_⟩
    · have := h.grown.size
      simpa [World.setCell] using this
    · exact (e1 k (by omega)).trans (h.grown.block k hk hr)

/-- Other references in their place. -/
theorem St.refs (h : St w0 rb ra rn rc B H s L v rs vr W) {rs' : List (Int × Int)} {vr' : Value} (ho : W'.ownsRow B 30 2 vr' rs'.length (flatR rs')) (hg : W.grownBy W' vr.ownBlock) : St w0 rb ra rn rc B H s L v rs' vr' W' := by
  have hb := h.base
  have ht := h.top
  have n1 := own_ne h.ref h.row (by decide)
  have n3 := own_ne h.ref h.res (by decide)
  have hne : v.ownBlock = none ∨ v.ownBlock ≠ vr.ownBlock := by
    cases hv : v.ownBlock with
    | none => exact .inl rfl
    | some y =>
      right
      intro e
      obtain ⟨c1, f1, h1⟩ := Go.Lib.ownsRow_kind h.own y hv
      obtain ⟨c2, f2, h2⟩ := Go.Lib.ownsRow_kind h.ref y e.symm
      rw [h1] at h2
      cases h2
  have hlow : ∀ y, vr.ownBlock = some y → B ≤ y := fun y hy => (h.ref.lt y hy).1
  have bw : Below B W W' := ⟨hg.os, hg.tape, hg.output, hg.size, fun k hk => hg.block k (by have := h.res.lt; omega) (fun e => by have := hlow k e.symm; omega)⟩
  exact ⟨h.base, (hg.block B h.res.lt n3).trans h.res, h.top, (hg.block H h.row.lt n1).trans h.row, h.own.kept hg hne, ho, h.rd.below bw hb.1, ⟨hg.os.trans h.grown.os, hg.tape.trans h.grown.tape, hg.output.trans h.grown.output, Nat.le_trans h.grown.size hg.size, fun k hk hr => (bw.block k (by omega)).trans (h.grown.block k hk hr)⟩⟩

end

theorem RowAt.more {w : World} {g : Nat} {T : TypeId} {C : Array Value} (h : RowAt w g T C) (o : Obj) : RowAt (w.alloc o) g T C := h.below ((Below.refl _ w).alloc (Nat.le_refl _) o) h.lt
theorem RowAt.first {w : World} {g : Nat} {T : TypeId} {C : Array Value} (h : g = w.heap.size) : RowAt (w.alloc (.cells C T)) g T C := by subst h; exact RowAt.new w T C
theorem RowAt.drew {w : World} {g : Nat} {T : TypeId} {C : Array Value} (h : RowAt w g T C) : RowAt w.drew g T C := h
theorem RowAt.skip {w : World} {g q : Nat} {T : TypeId} {C : Array Value} {x y : Value} (h : RowAt w g T C) (hq : g ≠ q) : RowAt ((w.setCell ⟨q, 0, none⟩ x).setCell ⟨q, 1, none⟩ y) g T C :=
  ((Below.heap_setCell _ _ _ _ (by simp only; omega)).trans (Below.heap_setCell _ _ _ _ (by simp only; omega))).trans h
theorem RowAt.both {w : World} {g : Nat} {T : TypeId} {a b x y : Value} (h : RowAt w g T #[a, b]) : RowAt ((w.setCell ⟨g, 0, none⟩ x).setCell ⟨g, 1, none⟩ y) g T #[x, y] := by
  have := (h.set 0 x).set 1 y
  simpa using this
theorem own_past {W : World} {B q n : Nat} {v x y : Value} {xs : List Value} {C : Array Value} (h : W.ownsRow B 35 4 v n xs) (hr : RowAt W q 26 C) : ((W.setCell ⟨q, 0, none⟩ x).setCell ⟨q, 1, none⟩ y).ownsRow B 35 4 v n xs := by
  have n1 := own_ne h hr (by decide)
  exact ownsRow_setCell_other (ownsRow_setCell_other h (fun e => n1 e.symm) _) (fun e => n1 e.symm) _
theorem own_past30 {W : World} {B q n : Nat} {v x y : Value} {xs : List Value} {C : Array Value} (h : W.ownsRow B 35 4 v n xs) (hr : RowAt W q 30 C) : ((W.setCell ⟨q, 0, none⟩ x).setCell ⟨q, 1, none⟩ y).ownsRow B 35 4 v n xs := by
  have n1 := own_ne h hr (by decide)
  exact ownsRow_setCell_other (ownsRow_setCell_other h (fun e => n1 e.symm) _) (fun e => n1 e.symm) _
theorem row_read {W W' : World} {rb q : Nat} {T : TypeId} {C : Array Value} (h : RowAt W q T C) (g : W.grownBy W' (some rb)) (hq : q ≠ rb) : RowAt W' q T C := (g.block q h.lt (fun e => hq (Option.some.inj e))).trans h
theorem row_ne {W : World} {q r : Nat} {C D : Array Value} (h : RowAt W q 26 C) (h' : RowAt W r 30 D) : q ≠ r := fun e => by
  subst e
  unfold RowAt at h h'
  rw [h] at h'
  cases h'

/-- The answer, stored into its room. -/
theorem St.final {w0 : World} {rb : Nat} {ra : Option Addr} {rn rc B H : Nat} {s : ByteArray} {L : List Cl} {v : Value} {rs : List (Int × Int)} {vr : Value} {W : World} (h : St w0 rb ra rn rc B H s L v rs vr W) :
    RowAt ((W.setCell ⟨B, 0, none⟩ (.string s)).setCell ⟨B, 1, none⟩ v) B 26 #[.string s, v] ∧ ((W.setCell ⟨B, 0, none⟩ (.string s)).setCell ⟨B, 1, none⟩ v).ownsRow B 35 4 v L.length (flatC L) ∧ ((W.setCell ⟨B, 0, none⟩ (.string s)).setCell ⟨B, 1, none⟩ v).ownsRow B 30 2 vr rs.length (flatR rs) ∧ Rd ((W.setCell ⟨B, 0, none⟩ (.string s)).setCell ⟨B, 1, none⟩ v) rb ra rn rc ∧ w0.grownBy ((W.setCell ⟨B, 0, none⟩ (.string s)).setCell ⟨B, 1, none⟩ v) (some rb) := by
  have hb := h.base
  have n2 := own_ne h.ref h.res (by decide)
  refine ⟨h.res.both, own_past h.own h.res, ownsRow_setCell_other (ownsRow_setCell_other h.ref (fun e => n2 e.symm) _) (fun e => n2 e.symm) _, ?_, ?_⟩
  · exact h.rd.below (((Below.refl B W).setCell (p := ⟨B, 0, none⟩) (Nat.le_refl _) (.string s)).setCell (p := ⟨B, 1, none⟩) (Nat.le_refl _) v) hb.1
  · refine ⟨h.grown.os, h.grown.tape, h.grown.output, ?_, fun k hk hr => ?_⟩
    · have := h.grown.size
      simpa [World.setCell] using this
    · exact ((Below.heap_setCell _ _ _ _ (by simp only; omega)).trans (Below.heap_setCell _ _ _ _ (by simp only; omega))).trans (h.grown.block k hk hr)

/-- The first cell, moved somewhere. -/
def awayC (L : List Cl) (k : Int) : List Cl := L.set 0 ⟨k, (L.getD 0 cl0).len, (L.getD 0 cl0).gen, (L.getD 0 cl0).live⟩

theorem flatC_away : ∀ (L : List Cl) (k : Int), 0 < L.length → (flatC L).set 0 (.int .i64 k) = flatC (awayC L k)
  | [], _, h => by simp at h
  | _ :: _, _, _ => rfl

theorem St.away {w0 : World} {rb : Nat} {ra : Option Addr} {rn rc B H A cap : Nat} {s : ByteArray} {L : List Cl} {rs : List (Int × Int)} {vr : Value} {W : World} (h : St w0 rb ra rn rc B H s L (.slice (some ⟨A, 0, none⟩) L.length cap) rs vr W) (k : Int) (h0 : 0 < L.length) :
    St w0 rb ra rn rc B H s (awayC L k) (.slice (some ⟨A, 0, none⟩) L.length cap) rs vr (W.setCell ⟨A, 0, none⟩ (.int .i64 k)) := by
  have hb := h.base
  have hA := (h.own.lt A rfl).1
  have n1 := own_ne h.own h.res (by decide)
  have n2 := own_ne h.own h.row (by decide)
  have hl : (awayC L k).length = L.length := by unfold awayC; rw [List.length_set]
  have n3 : vr.ownBlock ≠ some A := fun e => by
    obtain ⟨c1, f1, h1⟩ := Go.Lib.ownsRow_kind h.own A rfl
    obtain ⟨c2, f2, h2⟩ := Go.Lib.ownsRow_kind h.ref A e
    rw [h1] at h2
    cases h2
  have e1 : ∀ j, j ≠ A → (W.setCell ⟨A, 0, none⟩ (.int .i64 k)).heap[j]? = W.heap[j]? := fun j hj => Below.heap_setCell _ _ _ _ (by simp only; omega)
  refine ⟨hb, (e1 B (fun e => n1 (by rw [e]; rfl))).trans h.res, h.top, (e1 H (fun e => n2 (by rw [e]; rfl))).trans h.row, ?_, ownsRow_setCell_other h.ref n3 _, ?_, ?_⟩
  · have := h.own.stored 0 (.int .i64 k)
    rw [hl, ← flatC_away L k h0]
    exact this.1
  · exact h.rd.below ((Below.refl A W).setCell (p := ⟨A, 0, none⟩) (Nat.le_refl _) _) (by omega)
  · refine ⟨h.grown.os, h.grown.tape, h.grown.output, ?_, fun j hj hr => ?_⟩
    · have := h.grown.size
      simpa [World.setCell] using this
    · exact (e1 j (by omega)).trans (h.grown.block j hj hr)
end Go.Proofs.Ytjjpplpdpldkeaa
