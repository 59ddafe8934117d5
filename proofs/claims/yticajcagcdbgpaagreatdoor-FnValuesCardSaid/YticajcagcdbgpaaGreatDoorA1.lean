/- impl.contentOf, impl.holdsOnly. -/
import Derived.Test.YticajcagcdbgpaaGreatDoorV6
import Derived.Test.YticajcagcdbgpaaGreatDoorW4
namespace Go.Proofs.YticajcagcdbgpaaGreatDoor
open Go.RowKit Go.Sort
open Kk (Rk rk0 texL texR decS scoreB rightB ranksB OwnR flatR encR)

set_option maxHeartbeats 2000000 in
set_option maxRecDepth 100000 in
theorem contentOf_text (t : ByteArray) (a1 a2 a3 : Option Addr) (ni c1 np c2 nr c3 : Nat) (w : World) : Calls Tryz.prog 16 #[vlV 1 t (.slice a1 ni c1) (.slice a2 np c2) (.slice a3 nr c3)] w fun e w' => e = .returned (.iface 71 (.string t)) ∧ Below w.heap.size w w' := by
  go_enter Tryz.func16, Tryz.ntmps16
  go_wp2
  go_ret
  exact ⟨rfl, (Below.refl _ w).alloc (Nat.le_refl _) _⟩

set_option maxHeartbeats 2000000 in
set_option maxRecDepth 100000 in
theorem contentOf_items (t : ByteArray) (a1 a2 a3 : Option Addr) (ni c1 np c2 nr c3 : Nat) (w : World) : Calls Tryz.prog 16 #[vlV 2 t (.slice a1 ni c1) (.slice a2 np c2) (.slice a3 nr c3)] w fun e w' => e = .returned (.iface 72 (.slice a1 ni c1)) ∧ Below w.heap.size w w' := by
  go_enter Tryz.func16, Tryz.ntmps16
  go_wp2
  go_ret
  exact ⟨rfl, (Below.refl _ w).alloc (Nat.le_refl _) _⟩

set_option maxHeartbeats 2000000 in
set_option maxRecDepth 100000 in
theorem contentOf_pairs (t : ByteArray) (a1 a2 a3 : Option Addr) (ni c1 np c2 nr c3 : Nat) (w : World) : Calls Tryz.prog 16 #[vlV 3 t (.slice a1 ni c1) (.slice a2 np c2) (.slice a3 nr c3)] w fun e w' => e = .returned (.iface 73 (.slice a2 np c2)) ∧ Below w.heap.size w w' := by
  go_enter Tryz.func16, Tryz.ntmps16
  go_wp2
  go_ret
  exact ⟨rfl, (Below.refl _ w).alloc (Nat.le_refl _) _⟩

set_option maxHeartbeats 2000000 in
set_option maxRecDepth 100000 in
theorem contentOf_ranks (t : ByteArray) (a1 a2 a3 : Option Addr) (ni c1 np c2 nr c3 : Nat) (w : World) : Calls Tryz.prog 16 #[vlV 4 t (.slice a1 ni c1) (.slice a2 np c2) (.slice a3 nr c3)] w fun e w' => e = .returned (.iface 74 (.slice a3 nr c3)) ∧ Below w.heap.size w w' := by
  go_enter Tryz.func16, Tryz.ntmps16
  go_wp2
  go_ret
  exact ⟨rfl, (Below.refl _ w).alloc (Nat.le_refl _) _⟩

set_option maxHeartbeats 2000000 in
set_option maxRecDepth 100000 in
theorem contentOf_else (k : Int) (t : ByteArray) (a1 a2 a3 : Option Addr) (ni c1 np c2 nr c3 : Nat) (w : World) (k1 : (k == 1) = false) (k2 : (k == 2) = false) (k3 : (k == 3) = false) (k4 : (k == 4) = false) : Calls Tryz.prog 16 #[vlV k t (.slice a1 ni c1) (.slice a2 np c2) (.slice a3 nr c3)] w fun e w' => e = .returned .nilIface ∧ Below w.heap.size w w' := by
  go_enter Tryz.func16, Tryz.ntmps16
  go_wp2
  go_ret
  exact ⟨rfl, (Below.refl _ w).alloc (Nat.le_refl _) _⟩

def alone (x y : Nat × Nat × Nat × Nat) : Bool := decide (x.1 = y.1) && (decide (x.2.1 = y.2.1) && (decide (x.2.2.1 = y.2.2.1) && decide (x.2.2.2 = y.2.2.2)))

set_option maxHeartbeats 4000000 in
set_option maxRecDepth 100000 in
theorem holds_gen (k : Int) (t : ByteArray) (a1 a2 a3 : Option Addr) (ni c1 np c2 nr c3 : Nat) (C : Value) (k' : Int) (t' : ByteArray) (b1 b2 b3 : Option Addr) (mi d1 mp d2 mr d3 : Nat) (w : World)
    (hC : ∀ W, Calls Tryz.prog 19 #[C] W fun e w' => e = .returned (vlV k' t' (.slice b1 mi d1) (.slice b2 mp d2) (.slice b3 mr d3)) ∧ Below W.heap.size W w') :
    Calls Tryz.prog 22 #[vlV k t (.slice a1 ni c1) (.slice a2 np c2) (.slice a3 nr c3), C] w fun e w' => e = .returned (.bool (alone (t.size, ni, np, nr) (t'.size, mi, mp, mr))) ∧ Below w.heap.size w w' := by
  have HC : Hid (∀ W, Calls Tryz.prog 19 #[C] W fun e w' => e = .returned (vlV k' t' (.slice b1 mi d1) (.slice b2 mp d2) (.slice b3 mr d3)) ∧ Below W.heap.size W w') := hC
  have H0 : Hid (RowAt (w.alloc (.cells (vC k t (.slice a1 ni c1) (.slice a2 np c2) (.slice a3 nr c3)) 28)) w.heap.size 28 (vC k t (.slice a1 ni c1) (.slice a2 np c2) (.slice a3 nr c3)) ∧ Below w.heap.size w (w.alloc (.cells (vC k t (.slice a1 ni c1) (.slice a2 np c2) (.slice a3 nr c3)) 28))) := ⟨RowAt.new w 28 _, (Below.refl _ w).alloc (Nat.le_refl _) _⟩
  have hlt : w.heap.size < (w.alloc (.cells (vC k t (.slice a1 ni c1) (.slice a2 np c2) (.slice a3 nr c3)) 28)).heap.size := by simp
  clear hC
  by_cases g0 : t.size = t'.size
  · have i0 : ((t.size : Int) == (t'.size : Int)) = true := by simp; omega
    by_cases g1 : ni = mi
    · have i1 : ((ni : Int) == (mi : Int)) = true := by simp; omega
      by_cases g2 : np = mp
      · have i2 : ((np : Int) == (mp : Int)) = true := by simp; omega
        obtain ⟨o, ho⟩ : ∃ o, decide (nr = mr) = o := ⟨_, rfl⟩
        have HO : Hid (alone (t.size, ni, np, nr) (t'.size, mi, mp, mr) = o) := by unfold Hid alone; simp [g0, g1, g2, ho]
        have i3 : ((nr : Int) == (mr : Int)) = o := by rw [← ho, Bool.eq_iff_iff]; simp; omega
        rw [HO.out]
        clear g0 g1 g2 ho
        go_enter Tryz.func22, Tryz.ntmps22
        go_wp2_with fail
        refine (HC.out _).mono ?_
        rintro e w1 ⟨rfl, hb1⟩
        have r1 := RowAt.below H0.out.1 hb1 hlt
        have bb1 := H0.out.2.trans (hb1.mono H0.out.2.size)
        have r2 : RowAt (w1.alloc (.cells (vC k' t' (.slice b1 mi d1) (.slice b2 mp d2) (.slice b3 mr d3)) 28)) w.heap.size 28 (vC k t (.slice a1 ni c1) (.slice a2 np c2) (.slice a3 nr c3)) := RowAt.below r1 ((Below.refl _ w1).alloc (Nat.le_refl _) _) r1.lt
        obtain ⟨e0, e1, e2, e3, e4⟩ := row5 r2
        have bb2 : Below w.heap.size w (w1.alloc (.cells (vC k' t' (.slice b1 mi d1) (.slice b2 mp d2) (.slice b3 mr d3)) 28)) := bb1.alloc bb1.size _
        clear r1 hb1 r2 bb1 H0
        go_wp2
        go_ret
        exact ⟨rfl, bb2⟩
      · have i2 : ((np : Int) == (mp : Int)) = false := by simp; omega
        have HO : Hid (alone (t.size, ni, np, nr) (t'.size, mi, mp, mr) = false) := by unfold Hid alone; simp [g0, g1, g2]
        rw [HO.out]
        clear g0 g1 g2
        go_enter Tryz.func22, Tryz.ntmps22
        go_wp2_with fail
        refine (HC.out _).mono ?_
        rintro e w1 ⟨rfl, hb1⟩
        have r1 := RowAt.below H0.out.1 hb1 hlt
        have bb1 := H0.out.2.trans (hb1.mono H0.out.2.size)
        have r2 : RowAt (w1.alloc (.cells (vC k' t' (.slice b1 mi d1) (.slice b2 mp d2) (.slice b3 mr d3)) 28)) w.heap.size 28 (vC k t (.slice a1 ni c1) (.slice a2 np c2) (.slice a3 nr c3)) := RowAt.below r1 ((Below.refl _ w1).alloc (Nat.le_refl _) _) r1.lt
        obtain ⟨e0, e1, e2, e3, e4⟩ := row5 r2
        have bb2 : Below w.heap.size w (w1.alloc (.cells (vC k' t' (.slice b1 mi d1) (.slice b2 mp d2) (.slice b3 mr d3)) 28)) := bb1.alloc bb1.size _
        clear r1 hb1 r2 bb1 H0
        go_wp2
        go_ret
        exact ⟨rfl, bb2⟩
    · have i1 : ((ni : Int) == (mi : Int)) = false := by simp; omega
      have HO : Hid (alone (t.size, ni, np, nr) (t'.size, mi, mp, mr) = false) := by unfold Hid alone; simp [g0, g1]
      rw [HO.out]
      clear g0 g1
      go_enter Tryz.func22, Tryz.ntmps22
      go_wp2_with fail
      refine (HC.out _).mono ?_
      rintro e w1 ⟨rfl, hb1⟩
      have r1 := RowAt.below H0.out.1 hb1 hlt
      have bb1 := H0.out.2.trans (hb1.mono H0.out.2.size)
      have r2 : RowAt (w1.alloc (.cells (vC k' t' (.slice b1 mi d1) (.slice b2 mp d2) (.slice b3 mr d3)) 28)) w.heap.size 28 (vC k t (.slice a1 ni c1) (.slice a2 np c2) (.slice a3 nr c3)) := RowAt.below r1 ((Below.refl _ w1).alloc (Nat.le_refl _) _) r1.lt
      obtain ⟨e0, e1, e2, e3, e4⟩ := row5 r2
      have bb2 : Below w.heap.size w (w1.alloc (.cells (vC k' t' (.slice b1 mi d1) (.slice b2 mp d2) (.slice b3 mr d3)) 28)) := bb1.alloc bb1.size _
      clear r1 hb1 r2 bb1 H0
      go_wp2
      go_ret
      exact ⟨rfl, bb2⟩
  · have i0 : ((t.size : Int) == (t'.size : Int)) = false := by simp; omega
    have HO : Hid (alone (t.size, ni, np, nr) (t'.size, mi, mp, mr) = false) := by unfold Hid alone; simp [g0]
    rw [HO.out]
    clear g0
    go_enter Tryz.func22, Tryz.ntmps22
    go_wp2_with fail
    refine (HC.out _).mono ?_
    rintro e w1 ⟨rfl, hb1⟩
    have r1 := RowAt.below H0.out.1 hb1 hlt
    have bb1 := H0.out.2.trans (hb1.mono H0.out.2.size)
    have r2 : RowAt (w1.alloc (.cells (vC k' t' (.slice b1 mi d1) (.slice b2 mp d2) (.slice b3 mr d3)) 28)) w.heap.size 28 (vC k t (.slice a1 ni c1) (.slice a2 np c2) (.slice a3 nr c3)) := RowAt.below r1 ((Below.refl _ w1).alloc (Nat.le_refl _) _) r1.lt
    obtain ⟨e0, e1, e2, e3, e4⟩ := row5 r2
    have bb2 : Below w.heap.size w (w1.alloc (.cells (vC k' t' (.slice b1 mi d1) (.slice b2 mp d2) (.slice b3 mr d3)) 28)) := bb1.alloc bb1.size _
    clear r1 hb1 r2 bb1 H0
    go_wp2
    go_ret
    exact ⟨rfl, bb2⟩

end Go.Proofs.YticajcagcdbgpaaGreatDoor
