/- What lies in the world while spec's value() draws. -/
import Derived.Test.YticajcagcdbgpaaGreatDoorD2
import Derived.Test.YticajcagcdbgpaaGreatDoorX2
import Derived.Test.YticajcagcdbgpaaGreatDoorA3
namespace Go.Proofs.YticajcagcdbgpaaGreatDoor
open Go.RowKit Go.Sort
open Kk (Rk rk0 texL texR decS scoreB rightB ranksB OwnR flatR encR FitL)

theorem grown_low {w W W' : World} {r : Option Nat} (h : w.grownBy W r) (hb : Below w.heap.size W W') : w.grownBy W' r :=
  ⟨hb.os.trans h.os, hb.tape.trans h.tape, hb.output.trans h.output, Nat.le_trans h.size hb.size, fun k hk hne => (hb.block k hk).trans (h.block k hk hne)⟩

theorem own_grown {w w' : World} {B rb : Nat} {e : TypeId} {size n : Nat} {v : Value} {xs : List Value} (h : w.ownsRow B e size v n xs) (g : w.grownBy w' (some rb)) (hB : rb < B) : w'.ownsRow B e size v n xs :=
  World.ownsRow.kept h g (by
    cases hv : v.ownBlock with
    | none => exact .inl rfl
    | some x => exact .inr fun e => by have := (own_lt h hv).1; have := Option.some.inj e; omega)

/-- The drawn value in its own row, the reader, the result's row. -/
structure Dv (w : World) (rb : Nat) (a : Option Addr) (n c G : Nat) (v : Vl) (vi vp vr : Value) (W : World) : Prop where
  rd : Rd W rb a n c
  gr : w.grownBy W (some rb)
  res : RowAt W w.heap.size 28 z5
  row : RowAt W G 28 (vC v.kind v.text vi vp vr)
  own : VOwn W (w.heap.size + 1) v vi vp vr
  low : w.heap.size < G
  rb : rb < w.heap.size

theorem Dv.grow {w : World} {rb : Nat} {a : Option Addr} {n c G : Nat} {v : Vl} {vi vp vr : Value} {W W' : World} (h : Dv w rb a n c G v vi vp vr W) (r : Rd W' rb a n c) (g : W.grownBy W' (some rb)) : Dv w rb a n c G v vi vp vr W' := by
  have h1 := h.low
  have h2 := h.rb
  exact ⟨r, grown_trans h.gr g, row_read h.res g (by omega), row_read h.row g (by omega), ⟨own_grown h.own.items g (by omega), own_grown h.own.pairs g (by omega), own_grown h.own.ranks g (by omega)⟩, h1, h2⟩

theorem Dv.alloc {w : World} {rb : Nat} {a : Option Addr} {n c G : Nat} {v : Vl} {vi vp vr : Value} {W W' : World} (h : Dv w rb a n c G v vi vp vr W) (hb : Below W.heap.size W W') : Dv w rb a n c G v vi vp vr W' := by
  have h1 := h.low
  have h2 := h.rb
  have h3 := h.gr.size
  exact ⟨h.rd.below hb (by omega), grown_below h.gr hb, RowAt.below h.res hb h.res.lt, RowAt.below h.row hb h.row.lt, h.own.below hb, h1, h2⟩

/-- A store into the value's own row leaves what the parts own. -/
theorem own_set {W : World} {B G j : Nat} {e : TypeId} {size n : Nat} {v u : Value} {xs : List Value} {C : Array Value} (h : W.ownsRow B e size v n xs) (hr : RowAt W G 28 C) (he : e ≠ 28) : (W.setCell ⟨G, j, none⟩ u).ownsRow B e size v n xs := by
  refine owns_block h fun g hg => ?_
  refine Below.heap_setCell _ _ _ _ fun e2 => ?_
  obtain ⟨D, hD⟩ := own_type h hg
  have e3 : g = G := e2
  rw [e3, hr] at hD
  injection hD with hD
  injection hD with _ hD
  exact he hD.symm

theorem Dv.store {w : World} {rb : Nat} {a : Option Addr} {n c G : Nat} {v v' : Vl} {vi vp vr vi' vp' vr' : Value} {W : World} (j : Nat) (u : Value) (h : Dv w rb a n c G v vi vp vr W) (hc : (vC v.kind v.text vi vp vr).setIfInBounds j u = vC v'.kind v'.text vi' vp' vr') (ho : VOwn W (w.heap.size + 1) v' vi' vp' vr') : Dv w rb a n c G v' vi' vp' vr' (W.setCell ⟨G, j, none⟩ u) := by
  have h1 := h.low
  have h2 := h.rb
  have h3 := h.gr.size
  have hb : Below G W (W.setCell ⟨G, j, none⟩ u) := (Below.refl G W).setCell (p := ⟨G, j, none⟩) (Nat.le_refl _) u
  refine ⟨h.rd.below hb (by omega), grown_low h.gr (hb.mono (by omega)), RowAt.below h.res hb h1, ?_, ⟨own_set ho.items h.row (by decide), own_set ho.pairs h.row (by decide), own_set ho.ranks h.row (by decide)⟩, h1, h2⟩
  rw [← hc]
  exact h.row.set j u

/-- The same where the stored slice has been appended to, above the row. -/
theorem Dv.put {w : World} {rb : Nat} {a : Option Addr} {n c G : Nat} {v v' : Vl} {vi vp vr vi' vp' vr' : Value} {W W' : World} (j : Nat) (u : Value) (h : Dv w rb a n c G v vi vp vr W) (hb0 : Below (G + 1) W W') (hc : (vC v.kind v.text vi vp vr).setIfInBounds j u = vC v'.kind v'.text vi' vp' vr') (ho : VOwn W' (w.heap.size + 1) v' vi' vp' vr') : Dv w rb a n c G v' vi' vp' vr' (W'.setCell ⟨G, j, none⟩ u) := by
  have h1 := h.low
  have h2 := h.rb
  have h3 := h.gr.size
  have hr : RowAt W' G 28 (vC v.kind v.text vi vp vr) := RowAt.below h.row hb0 (by omega)
  have hb : Below G W' (W'.setCell ⟨G, j, none⟩ u) := (Below.refl G W').setCell (p := ⟨G, j, none⟩) (Nat.le_refl _) u
  refine ⟨(h.rd.below hb0 (by omega)).below hb (by omega), grown_low (grown_low h.gr (hb0.mono (by omega))) (hb.mono (by omega)), RowAt.below (RowAt.below h.res hb0 (by omega)) hb h1, ?_, ⟨own_set ho.items hr (by decide), own_set ho.pairs hr (by decide), own_set ho.ranks hr (by decide)⟩, h1, h2⟩
  rw [← hc]
  exact hr.set j u

theorem app_str {w : World} {B : Nat} {V : Value} {ts : List ByteArray} (x : ByteArray) (h : OwnS w B V ts) (hn : ts.length ≤ 1048576) (hB : B ≤ w.heap.size) :
    ∃ xa m cc w', (Builtin.append_ #[24, 24] 24 #[V, .slice (some ⟨w.heap.size, 0, none⟩) 1 1]).run Tryz.prog (w.alloc (.cells #[.string x] 9)) = .ok (.slice xa m cc) w' ∧ OwnS w' B (.slice xa m cc) (ts ++ [x]) ∧ Below B w w' := by
  obtain ⟨i0, hi, hz0, hz1, hz2⟩ := info_parts info9
  have hbl : Below w.heap.size w (w.alloc (.cells #[.string x] 9)) := (Below.refl _ w).alloc (Nat.le_refl _) _
  have oA := owns_below h hbl
  obtain ⟨v', w', hrun, hown, hg, _, hblk⟩ := run_append_own_at (P := Tryz.prog) (w.alloc (.cells #[.string x] 9)) B 24 24 9 i0 _ 1 16 Tryz.underlying24 hi hz0 hz1 hz2 rfl (by decide) V ts.length (strV ts) oA ⟨w.heap.size, 0, none⟩ 1 1 [.string x] rfl (fun j u hj => by
    rw [Addr.add_lit, Nat.zero_add]
    exact ((RowAt.new w 9 #[.string x]).cell j).trans (by simpa using hj)) (fun u hu => by simp at hu; subst hu; rfl) (by unfold maxLen; omega) (by omega) (by simp; omega)
  obtain ⟨xa, cc, hv⟩ := owns_form hown
  subst hv
  refine ⟨xa, _, cc, w', hrun, ?_, below_own (Below.refl _ w) hB h hg⟩
  unfold OwnS
  rw [List.length_append, strV_app]
  exact hown

theorem app_prs {w : World} {B : Nat} {V : Value} {ps : List Pr} (x y : ByteArray) (h : OwnP w B V ps) (hn : ps.length ≤ 1048576) (hB : B ≤ w.heap.size) :
    ∃ xa m cc w', (Builtin.append_ #[25, 25] 25 #[V, .slice (some ⟨w.heap.size, 0, none⟩) 1 1]).run Tryz.prog (w.alloc (.cells #[.string x, .string y] 52)) = .ok (.slice xa m cc) w' ∧ OwnP w' B (.slice xa m cc) (ps ++ [(x, y)]) ∧ Below B w w' := by
  obtain ⟨v', w', hrun, ho, hb⟩ := app_pair x y 25 Tryz.underlying25 h hn hB
  obtain ⟨xa, cc, hv⟩ := owns_form ho
  subst hv
  exact ⟨xa, _, cc, w', hrun, ho, hb⟩

structure Small (v : Vl) : Prop where
  text : v.text.size ≤ 20
  ni : v.items.length ≤ 4
  np : v.pairs.length ≤ 4
  nr : v.ranks.length ≤ 7
  fit : FitL v.ranks
  items : ∀ t ∈ v.items, t.size ≤ 20

/-- How value() ends. -/
def DrawV (w : World) (rb : Nat) (a : Option Addr) (n c : Nat) (e : Ending) (w' : World) : Prop :=
  ∃ v vi vp vr, e = .returned (vlV v.kind v.text vi vp vr) ∧ VOwn w' w.heap.size v vi vp vr ∧ Small v ∧ Rd w' rb a n c ∧ w.grownBy w' (some rb)

theorem Dv.done {w : World} {rb : Nat} {a : Option Addr} {n c G : Nat} {v : Vl} {vi vp vr : Value} {W : World} (h : Dv w rb a n c G v vi vp vr W) (hs : Small v) (v0 v1 v2 v3 v4 : Value) : DrawV w rb a n c (.returned (vlV v.kind v.text vi vp vr)) (res5 W v0 v1 v2 v3 v4 w.heap.size) := by
  have hb : Below w.heap.size W (res5 W v0 v1 v2 v3 v4 w.heap.size) := res5_below (Below.refl _ W) _ _ _ _ _ _ (Nat.le_refl _)
  have hk := fun k (hk : k ≠ w.heap.size) => res5_block W v0 v1 v2 v3 v4 w.heap.size k hk
  exact ⟨v, vi, vp, vr, rfl, ⟨own_up (owns_block h.own.items fun g hg => hk g (by have := (own_lt h.own.items hg).1; omega)) (by omega), own_up (owns_block h.own.pairs fun g hg => hk g (by have := (own_lt h.own.pairs hg).1; omega)) (by omega), own_up (owns_block h.own.ranks fun g hg => hk g (by have := (own_lt h.own.ranks hg).1; omega)) (by omega)⟩, hs, h.rd.below hb h.rb, grown_low h.gr hb⟩

theorem pick4 (rb : Nat) (a : Option Addr) (n c : Nat) (w : World) (h : Rd w rb a n c) :
    Calls Tryz.prog 29 #[.pointer (some ⟨rb, 0, none⟩), .int .i64 4] w fun e w' => (e = .returned (.int .i64 0) ∨ e = .returned (.int .i64 1) ∨ e = .returned (.int .i64 2) ∨ e = .returned (.int .i64 3)) ∧ Rd w' rb a n c ∧ w.grownBy w' (some rb) :=
  (pick_any rb a n c 4 w h (by omega) (by omega)).mono fun e w' ⟨j, he, hj, r, g⟩ => ⟨by
    match j, hj, he with
    | 0, _, he => exact .inl he
    | 1, _, he => exact .inr (.inl he)
    | 2, _, he => exact .inr (.inr (.inl he))
    | 3, _, he => exact .inr (.inr (.inr he)), r, g⟩

end Go.Proofs.YticajcagcdbgpaaGreatDoor
