/- A value's equality, its marks, its marks found again. -/
import Derived.Test.YtjgmkbldclangaaGreatDoorYa
import Derived.Test.YtjgmkbldclangaaGreatDoorWa
namespace Go.Proofs.YtjgmkbldclangaaGreatDoor
open Go.RowKit Go.Sort
open Kk (Rk rk0 texL texR decS scoreB rightB ranksB OwnR flatR encR markB RanksIn)

/-- A value in memory, as it reads. -/
structure VAt (w : World) (v : Vl) (vi vp vr : Value) : Prop where
  items : ∃ a A c, vi = .slice a v.items.length c ∧ StrsIn w a A 0 v.items.length v.items
  pairs : ∃ a A c, vp = .slice a v.pairs.length c ∧ PairsIn w a A v.pairs.length v.pairs
  ranks : ∃ a A c, vr = .slice a v.ranks.length c ∧ RanksIn w a A 0 v.ranks.length v.ranks

theorem VAt.below {w w' : World} {v : Vl} {vi vp vr : Value} (h : VAt w v vi vp vr) (hb : Below w.heap.size w w') : VAt w' v vi vp vr := by
  obtain ⟨⟨a1, A1, c1, e1, h1⟩, ⟨a2, A2, c2, e2, h2⟩, ⟨a3, A3, c3, e3, h3⟩⟩ := h
  exact ⟨⟨a1, A1, c1, e1, strs_below h1 hb⟩, ⟨a2, A2, c2, e2, h2.below hb⟩, ⟨a3, A3, c3, e3, h3.below hb⟩⟩

theorem VOwn.at {w : World} {B : Nat} {v : Vl} {vi vp vr : Value} (h : VOwn w B v vi vp vr) (hz : ∀ t ∈ v.items, t.size ≤ 1048576) : VAt w v vi vp vr := by
  obtain ⟨a1, A1, c1, e1, h1, _, _⟩ := ownS_in h.items hz
  exact ⟨⟨a1, A1, c1, e1, h1⟩, ownP_in h.pairs, Kk.ownR_any h.ranks⟩

set_option maxHeartbeats 4000000 in
set_option maxRecDepth 100000 in
theorem eqV_any (v : Vl) (vi vp vr vi' vp' vr' : Value) (w : World) (h : VAt w v vi vp vr) (h' : VAt w v vi' vp' vr') (n1 : v.items.length ≤ 1048576) (n2 : v.pairs.length ≤ 1048576) (n3 : v.ranks.length ≤ 1048576) :
    Calls Tryz.prog 53 #[vlV v.kind v.text vi vp vr, vlV v.kind v.text vi' vp' vr'] w fun e w' => e = .returned (.bool true) ∧ Below w.heap.size w w' := by
  obtain ⟨⟨a1, A1, c1, e1, h1⟩, ⟨a2, A2, c2, e2, h2⟩, ⟨a3, A3, c3, e3, h3⟩⟩ := h
  obtain ⟨⟨x1, X1, d1, f1, g1⟩, ⟨x2, X2, d2, f2, g2⟩, ⟨x3, X3, d3, f3, g3⟩⟩ := h'
  have H1 : Hid (∀ W, Below w.heap.size w W → Calls Tryz.prog 74 #[.slice a1 v.items.length c1, .slice x1 v.items.length d1] W fun e w' => e = .returned (.bool true) ∧ Below W.heap.size W w') := fun W hb => eqS_any a1 x1 A1 0 X1 0 _ c1 d1 v.items W (strs_below h1 hb) (strs_below g1 hb) (by omega)
  have H2 : Hid (∀ W, Below w.heap.size w W → Calls Tryz.prog 75 #[.slice a2 v.pairs.length c2, .slice x2 v.pairs.length d2] W fun e w' => e = .returned (.bool true) ∧ Below W.heap.size W w') := fun W hb => eqP_any a2 x2 A2 X2 _ c2 d2 v.pairs W (h2.below hb) (g2.below hb) (by omega)
  have H3 : Hid (∀ W, Below w.heap.size w W → Calls Tryz.prog 76 #[.slice a3 v.ranks.length c3, .slice x3 v.ranks.length d3] W fun e w' => e = .returned (.bool true) ∧ Below W.heap.size W w') := fun W hb => Kk.eqRankS_any a3 x3 A3 0 X3 0 _ c3 d3 v.ranks W (h3.below hb) (g3.below hb) (by omega)
  clear h1 h2 h3 g1 g2 g3
  subst e1 e2 e3 f1 f2 f3
  generalize v.items.length = ni at *
  generalize v.pairs.length = np at *
  generalize v.ranks.length = nr at *
  generalize v.kind = k at *
  generalize v.text = t at *
  obtain ⟨wa, hwa⟩ : ∃ wa, (w.alloc (.cells (vC k t (.slice a1 ni c1) (.slice a2 np c2) (.slice a3 nr c3)) 66)).alloc (.cells (vC k t (.slice x1 ni d1) (.slice x2 np d2) (.slice x3 nr d3)) 66) = wa := ⟨_, rfl⟩
  have HA : Hid (RowAt wa w.heap.size 66 (vC k t (.slice a1 ni c1) (.slice a2 np c2) (.slice a3 nr c3)) ∧ RowAt wa (w.heap.size + 1) 66 (vC k t (.slice x1 ni d1) (.slice x2 np d2) (.slice x3 nr d3)) ∧ Below w.heap.size w wa) := by
    subst hwa
    have e1 : (w.alloc (.cells (vC k t (.slice a1 ni c1) (.slice a2 np c2) (.slice a3 nr c3)) 66)).heap.size = w.heap.size + 1 := by simp
    refine ⟨RowAt.below (RowAt.new w 66 _) ((Below.refl _ _).alloc (Nat.le_refl _) _) (by simp), ?_, ((Below.refl _ w).alloc (Nat.le_refl _) _).alloc (by simp) _⟩
    rw [← e1]
    exact RowAt.new _ 66 _
  have HWA : Hid ((w.alloc (.cells (vC k t (.slice a1 ni c1) (.slice a2 np c2) (.slice a3 nr c3)) 66)).alloc (.cells (vC k t (.slice x1 ni d1) (.slice x2 np d2) (.slice x3 nr d3)) 66) = wa) := hwa
  clear hwa
  go_enter Tryz.func53, Tryz.ntmps53
  go_wp2_with fail
  rw [HWA.out]
  obtain ⟨r1, r2, b0⟩ := HA.out
  refine (H1.out wa b0).mono ?_
  rintro e w1 ⟨rfl, b1⟩
  have q1 := RowAt.below r1 b1 r1.lt
  have q2 := RowAt.below r2 b1 r2.lt
  have bb1 := b0.trans (b1.mono b0.size)
  obtain ⟨_, _, _, y3, y4⟩ := row5 q1
  obtain ⟨_, _, _, z3, z4⟩ := row5 q2
  clear r1 r2 b0 b1 HWA HA
  go_wp2_with fail
  refine (H2.out w1 bb1).mono ?_
  rintro e w2 ⟨rfl, b2⟩
  have p1 := RowAt.below q1 b2 q1.lt
  have p2 := RowAt.below q2 b2 q2.lt
  have bb2 := bb1.trans (b2.mono bb1.size)
  clear y3 y4 z3 z4
  obtain ⟨_, _, _, _, y4⟩ := row5 p1
  obtain ⟨_, _, _, _, z4⟩ := row5 p2
  clear q1 q2 b2
  go_wp2_with fail
  refine (H3.out w2 bb2).mono ?_
  rintro e w3 ⟨rfl, b3⟩
  have bb3 := bb2.trans (b3.mono bb2.size)
  go_wp2
  go_ret
  exact ⟨rfl, bb3⟩

end Go.Proofs.YtjgmkbldclangaaGreatDoor

