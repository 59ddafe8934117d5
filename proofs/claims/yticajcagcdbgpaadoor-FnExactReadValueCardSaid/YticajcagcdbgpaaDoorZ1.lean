/- FnExactReadValue: the law's walk. -/
import Derived.Test.YticajcagcdbgpaaDoorX6
import Derived.Test.YticajcagcdbgpaaDoorY5
namespace Go.Proofs.YticajcagcdbgpaaDoor
open Go.RowKit Go.Sort
open Kk (Rk rk0 texL texR decS scoreB rightB ranksB OwnR flatR encR markB RanksIn)

def ResAt (w : World) (v : Vl) (k : Int) (t : ByteArray) (ni np nr : Nat) (o : Bool) (e : Ending) (w' : World) : Prop := ∃ a1 c1 a2 c2 a3 c3, e = .returned (.tuple #[vlV k t (.slice a1 ni c1) (.slice a2 np c2) (.slice a3 nr c3), .bool o]) ∧ VOwn w' w.heap.size v (.slice a1 ni c1) (.slice a2 np c2) (.slice a3 nr c3) ∧ Below w.heap.size w w'

theorem ValEnd.res {w : World} {r : Vl × Bool} {e : Ending} {w' : World} (h : ValEnd w r e w') : ResAt w r.1 r.1.kind r.1.text r.1.items.length r.1.pairs.length r.1.ranks.length r.2 e w' := by
  obtain ⟨vi, vp, vr, he, h1, h2, h3, hb⟩ := h
  obtain ⟨a1, c1, e1⟩ := owns_form h1
  obtain ⟨a2, c2, e2⟩ := owns_form h2
  obtain ⟨a3, c3, e3⟩ := owns_form h3
  subst e1 e2 e3
  exact ⟨a1, c1, a2, c2, a3, c3, he, ⟨h1, h2, h3⟩, hb⟩

theorem VOwn.keep {w w' : World} {B B' : Nat} {v : Vl} {vi vp vr : Value} (h : VOwn w B v vi vp vr) (hw : w.heap.size ≤ B') (hb : ∀ k, k < B' → w'.heap[k]? = w.heap[k]?) : VOwn w' B v vi vp vr :=
  ⟨owns_block h.items fun g hg => hb g (by have := (own_lt h.items hg).2; omega), owns_block h.pairs fun g hg => hb g (by have := (own_lt h.pairs hg).2; omega), owns_block h.ranks fun g hg => hb g (by have := (own_lt h.ranks hg).2; omega)⟩

set_option maxHeartbeats 4000000 in
set_option maxRecDepth 100000 in
theorem readValue_walk (s : ByteArray) (w : World) (hs : s.size ≤ 9223372036854775807) (hr : Ready w) :
    Calls Tryd.prog 3 #[.string s] w fun e w' => e = .returned (.bool true) ∧ Below w.heap.size w w' := by
  by_cases hbig : 1048576 < s.size
  · have hbi : (1048576 : Int) < (s.size : Int) := by omega
    go_enter Tryd.func3, Tryd.ntmps3
    go_wp2
    go_ret
    exact ⟨rfl, Below.refl _ _⟩
  · have hbi : ¬ (1048576 : Int) < (s.size : Int) := by omega
    have hs2 : s.size ≤ 1048576 := by omega
    have hsix := hr.six
    have hone := readI_one s.data.toList
    have HSP : Hid (∀ w, Calls Tryd.prog 4 #[.string s] w (ResAt w (readI s.data.toList).1 (readI s.data.toList).1.kind (readI s.data.toList).1.text (readI s.data.toList).1.items.length (readI s.data.toList).1.pairs.length (readI s.data.toList).1.ranks.length (readI s.data.toList).2)) := fun w => (specRead_any s w hs2).mono fun _ _ h => h.res
    have HIM : Hid (∀ w, Ready w → Calls Tryd.prog 5 #[.string s] w (ResAt w (readI s.data.toList).1 (readI s.data.toList).1.kind (readI s.data.toList).1.text (readI s.data.toList).1.items.length (readI s.data.toList).1.pairs.length (readI s.data.toList).1.ranks.length (readI s.data.toList).2)) := fun w hr => (readV_any s w hs2 hr).mono fun _ _ h => h.res
    generalize (readI s.data.toList).2 = ro at *
    generalize (readI s.data.toList).1 = v at *
    have HON : Hid (One v) := hone
    clear hone
    obtain ⟨q, hq⟩ : ∃ q : Nat, lastM v = q := ⟨_, rfl⟩
    have HEQ : Hid (∀ a1 c1 a2 c2 a3 c3 x1 d1 x2 d2 x3 d3 B B' W, VOwn W B v (.slice a1 v.items.length c1) (.slice a2 v.pairs.length c2) (.slice a3 v.ranks.length c3) → VOwn W B' v (.slice x1 v.items.length d1) (.slice x2 v.pairs.length d2) (.slice x3 v.ranks.length d3) → Calls Tryd.prog 6 #[vlV v.kind v.text (.slice a1 v.items.length c1) (.slice a2 v.pairs.length c2) (.slice a3 v.ranks.length c3), vlV v.kind v.text (.slice x1 v.items.length d1) (.slice x2 v.pairs.length d2) (.slice x3 v.ranks.length d3)] W fun e w' => e = .returned (.bool true) ∧ Below W.heap.size W w') :=
      fun a1 c1 a2 c2 a3 c3 x1 d1 x2 d2 x3 d3 B B' W h h' => eqV_any v _ _ _ _ _ _ W (h.at HON.out.items) (h'.at HON.out.items) HON.out.ni HON.out.np HON.out.nr
    have HMK : Hid (∀ a1 c1 a2 c2 a3 c3 B N W0 W, VOwn W0 B v (.slice a1 v.items.length c1) (.slice a2 v.pairs.length c2) (.slice a3 v.ranks.length c3) → W0.heap.size = N → VOwn W B v (.slice a1 v.items.length c1) (.slice a2 v.pairs.length c2) (.slice a3 v.ranks.length c3) → B ≤ W.heap.size → Calls Tryd.prog 7 #[vlV v.kind v.text (.slice a1 v.items.length c1) (.slice a2 v.pairs.length c2) (.slice a3 v.ranks.length c3), .int .i64 1] W fun e w' => e = .returned (.int .i64 (q : Nat)) ∧ VAt w' (marked v) (.slice a1 v.items.length c1) (.slice a2 v.pairs.length c2) (.slice a3 v.ranks.length c3) ∧ Below B W w' ∧ RowsOn N W w') :=
      fun a1 c1 a2 c2 a3 c3 B N W0 W h0 hN h hB => by rw [← hq]; exact markV_any v _ _ _ B W h hB HON.out N (fun g hg => by have := (own_lt h0.items hg).2; omega) (fun g hg => by have := (own_lt h0.pairs hg).2; omega) (fun g hg => by have := (own_lt h0.ranks hg).2; omega)
    have HHD : Hid (∀ a1 c1 a2 c2 a3 c3 W, VAt W (marked v) (.slice a1 v.items.length c1) (.slice a2 v.pairs.length c2) (.slice a3 v.ranks.length c3) → Calls Tryd.prog 8 #[vlV v.kind v.text (.slice a1 v.items.length c1) (.slice a2 v.pairs.length c2) (.slice a3 v.ranks.length c3), .int .i64 1] W fun e w' => e = .returned (.int .i64 (q : Nat)) ∧ Below W.heap.size W w') :=
      fun a1 c1 a2 c2 a3 c3 W h => by rw [← hq]; exact heldV_any v _ _ _ W h HON.out
    clear hq HON
    generalize v.items.length = ni at *
    generalize v.pairs.length = np at *
    generalize v.ranks.length = nr at *
    generalize v.kind = k at *
    generalize v.text = t at *
    go_enter Tryd.func3, Tryd.ntmps3
    go_wp2_with fail
    refine (HSP.out w).mono ?_
    rintro e w1 ⟨a1, c1, a2, c2, a3, c3, rfl, o1, b1⟩
    have s1 := b1.size
    obtain ⟨A1, hA1⟩ : ∃ A1, w1.alloc (.cells (vC k t (.slice a1 ni c1) (.slice a2 np c2) (.slice a3 nr c3)) 26) = A1 := ⟨_, rfl⟩
    have HA1 : Hid (w1.alloc (.cells (vC k t (.slice a1 ni c1) (.slice a2 np c2) (.slice a3 nr c3)) 26) = A1) := hA1
    have ra : RowAt A1 w1.heap.size 26 (vC k t (.slice a1 ni c1) (.slice a2 np c2) (.slice a3 nr c3)) := by rw [← hA1]; exact RowAt.new w1 26 _
    have zA1 : A1.heap.size = w1.heap.size + 1 := by rw [← hA1]; simp
    have ba : Below w1.heap.size w1 A1 := by rw [← hA1]; exact (Below.refl _ w1).alloc (Nat.le_refl _) _
    have bbA := b1.trans (ba.mono s1)
    have RA : Hid (Ready A1) := hr.below (bbA.mono hsix)
    have O1 : Hid (VOwn A1 w.heap.size v (.slice a1 ni c1) (.slice a2 np c2) (.slice a3 nr c3)) := o1.below ba
    have RW : Hid (RowAt A1 w1.heap.size 26 (vC k t (.slice a1 ni c1) (.slice a2 np c2) (.slice a3 nr c3))) := ra
    clear o1 hA1 ra
    go_wp2_with fail
    rw [HA1.out]
    refine (HIM.out A1 RA.out).mono ?_
    rintro e w2 ⟨x1, d1, x2, d2, x3, d3, rfl, o2, b2⟩
    have s2 := b2.size
    have bb2 := bbA.trans (b2.mono (by omega))
    obtain ⟨A2, hA2⟩ : ∃ A2, w2.alloc (.cells (vC k t (.slice x1 ni d1) (.slice x2 np d2) (.slice x3 nr d3)) 26) = A2 := ⟨_, rfl⟩
    have HA2 : Hid (w2.alloc (.cells (vC k t (.slice x1 ni d1) (.slice x2 np d2) (.slice x3 nr d3)) 26) = A2) := hA2
    have zA2 : A2.heap.size = w2.heap.size + 1 := by rw [← hA2]; simp
    have bx : Below w2.heap.size w2 A2 := by rw [← hA2]; exact (Below.refl _ w2).alloc (Nat.le_refl _) _
    have bbX := bb2.trans (bx.mono (by omega))
    have rx : RowAt A2 w2.heap.size 26 (vC k t (.slice x1 ni d1) (.slice x2 np d2) (.slice x3 nr d3)) := by rw [← hA2]; exact RowAt.new w2 26 _
    have ra2 : RowAt w2 w1.heap.size 26 (vC k t (.slice a1 ni c1) (.slice a2 np c2) (.slice a3 nr c3)) := RowAt.below RW.out b2 (by omega)
    have ra3 : RowAt A2 w1.heap.size 26 (vC k t (.slice a1 ni c1) (.slice a2 np c2) (.slice a3 nr c3)) := RowAt.below ra2 bx (by omega)
    obtain ⟨k0, k1, k2, k3, k4⟩ := row5 ra3
    rw [← hA2] at k0 k1 k2 k3 k4
    have E2 : Hid (Calls Tryd.prog 6 #[vlV k t (.slice x1 ni d1) (.slice x2 np d2) (.slice x3 nr d3), vlV k t (.slice a1 ni c1) (.slice a2 np c2) (.slice a3 nr c3)] A2 fun e w' => e = .returned (.bool true) ∧ Below A2.heap.size A2 w') := HEQ.out _ _ _ _ _ _ _ _ _ _ _ _ _ _ A2 (o2.below bx) ((O1.out.below b2).below bx)
    have O2 : Hid (VOwn w2 A1.heap.size v (.slice x1 ni d1) (.slice x2 np d2) (.slice x3 nr d3)) := o2
    have BX : Hid (Below w2.heap.size w2 A2) := bx
    have RX : Hid (RowAt A2 w2.heap.size 26 (vC k t (.slice x1 ni d1) (.slice x2 np d2) (.slice x3 nr d3)) ∧ RowAt A2 w1.heap.size 26 (vC k t (.slice a1 ni c1) (.slice a2 np c2) (.slice a3 nr c3))) := ⟨rx, ra3⟩
    clear o2 hA2 rx ra2 ra3
    go_wp2_with fail
    rw [HA2.out]
    refine E2.out.mono ?_
    rintro e w3 ⟨rfl, b3⟩
    have s3 := b3.size
    have bb3 := bbX.trans (b3.mono (by omega))
    have rx3 := RowAt.below RX.out.1 b3 (by omega)
    have ra3 := RowAt.below RX.out.2 b3 (by omega)
    have HM : Hid (Calls Tryd.prog 7 #[vlV k t (.slice x1 ni d1) (.slice x2 np d2) (.slice x3 nr d3), .int .i64 1] w3 fun e w' => e = .returned (.int .i64 (q : Nat)) ∧ VAt w' (marked v) (.slice x1 ni d1) (.slice x2 np d2) (.slice x3 nr d3) ∧ Below A1.heap.size w3 w' ∧ RowsOn w2.heap.size w3 w') := HMK.out _ _ _ _ _ _ A1.heap.size w2.heap.size w2 w3 O2.out rfl ((O2.out.below BX.out).below b3) (by omega)
    clear E2 k0 k1 k2 k3 k4
    obtain ⟨k0, k1, k2, k3, k4⟩ := row5 rx3
    have R3 : Hid (RowAt w3 w2.heap.size 26 (vC k t (.slice x1 ni d1) (.slice x2 np d2) (.slice x3 nr d3)) ∧ RowAt w3 w1.heap.size 26 (vC k t (.slice a1 ni c1) (.slice a2 np c2) (.slice a3 nr c3))) := ⟨rx3, ra3⟩
    clear rx3 ra3
    go_wp2_with fail
    refine HM.out.mono ?_
    rintro e w4 ⟨rfl, o4, b4, ron⟩
    have s4 := b4.size
    have bb4 := bb3.trans (b4.mono (by omega))
    have rx4 := ron _ _ _ (Nat.le_refl _) R3.out.1
    have ra4 := RowAt.below R3.out.2 b4 (by omega)
    have HH : Hid (Calls Tryd.prog 8 #[vlV k t (.slice x1 ni d1) (.slice x2 np d2) (.slice x3 nr d3), .int .i64 1] w4 fun e w' => e = .returned (.int .i64 (q : Nat)) ∧ Below w4.heap.size w4 w') := HHD.out _ _ _ _ _ _ w4 o4
    have O4 : Hid (VAt w4 (marked v) (.slice x1 ni d1) (.slice x2 np d2) (.slice x3 nr d3)) := o4
    have K1 : Hid (VOwn w4 w.heap.size v (.slice a1 ni c1) (.slice a2 np c2) (.slice a3 nr c3)) := O1.out.keep (Nat.le_refl _) (fun k hk => (b4.block k hk).trans ((b3.block k (by omega)).trans ((BX.out.block k (by omega)).trans (b2.block k hk))))
    clear o4 HM ron k0 k1 k2 k3 k4 R3
    obtain ⟨k0, k1, k2, k3, k4⟩ := row5 rx4
    have R4 : Hid (RowAt w4 w2.heap.size 26 (vC k t (.slice x1 ni d1) (.slice x2 np d2) (.slice x3 nr d3)) ∧ RowAt w4 w1.heap.size 26 (vC k t (.slice a1 ni c1) (.slice a2 np c2) (.slice a3 nr c3))) := ⟨rx4, ra4⟩
    have l4x := rx4.lt
    have l4a := ra4.lt
    clear rx4 ra4
    go_wp2_with fail
    refine HH.out.mono ?_
    rintro e w5 ⟨rfl, b5⟩
    have s5 := b5.size
    have bb5 := bb4.trans (b5.mono (by omega))
    have R5 : Hid (Ready w5) := hr.below (bb5.mono hsix)
    have hge : decide (((q : Nat) : Int) < 0) = false := by simp
    clear HH k0 k1 k2 k3 k4
    go_wp2_with fail
    refine (HIM.out w5 R5.out).mono ?_
    rintro e w6 ⟨y1, f1, y2, f2, y3, f3, rfl, o3, b6⟩
    have s6 := b6.size
    have bb6 := bb5.trans (b6.mono (by omega))
    have b46 : Below w4.heap.size w4 w6 := b5.trans (b6.mono s5)
    obtain ⟨A3, hA3⟩ : ∃ A3, w6.alloc (.cells (vC k t (.slice y1 ni f1) (.slice y2 np f2) (.slice y3 nr f3)) 26) = A3 := ⟨_, rfl⟩
    have HA3 : Hid (w6.alloc (.cells (vC k t (.slice y1 ni f1) (.slice y2 np f2) (.slice y3 nr f3)) 26) = A3) := hA3
    have by' : Below w6.heap.size w6 A3 := by rw [← hA3]; exact (Below.refl _ w6).alloc (Nat.le_refl _) _
    have b4A : Below w4.heap.size w4 A3 := b46.trans (by'.mono (by omega))
    have bbA3 := bb6.trans (by'.mono (by omega))
    have sA3 := by'.size
    have ra6 := RowAt.below R4.out.2 b4A l4a
    have rx6 := RowAt.below R4.out.1 b4A l4x
    obtain ⟨k0, k1, k2, k3, k4⟩ := row5 ra6
    rw [← hA3] at k0 k1 k2 k3 k4
    have E6 : Hid (Calls Tryd.prog 6 #[vlV k t (.slice y1 ni f1) (.slice y2 np f2) (.slice y3 nr f3), vlV k t (.slice a1 ni c1) (.slice a2 np c2) (.slice a3 nr c3)] A3 fun e w' => e = .returned (.bool true) ∧ Below A3.heap.size A3 w') := HEQ.out _ _ _ _ _ _ _ _ _ _ _ _ _ _ A3 (o3.below by') (K1.out.below b4A)
    have RX6 : Hid (RowAt A3 w2.heap.size 26 (vC k t (.slice x1 ni d1) (.slice x2 np d2) (.slice x3 nr d3))) := rx6
    have l6 := rx6.lt
    clear o3 hA3 ra6 rx6
    go_wp2_with fail
    rw [HA3.out]
    refine E6.out.mono ?_
    rintro e w7 ⟨rfl, b7⟩
    have s7 := b7.size
    have bb7 := bbA3.trans (b7.mono (by omega))
    have b47 : Below w4.heap.size w4 w7 := b4A.trans (b7.mono (by omega))
    have rx7 := RowAt.below RX6.out b7 l6
    have HH : Hid (Calls Tryd.prog 8 #[vlV k t (.slice x1 ni d1) (.slice x2 np d2) (.slice x3 nr d3), .int .i64 1] w7 fun e w' => e = .returned (.int .i64 (q : Nat)) ∧ Below w7.heap.size w7 w') := HHD.out _ _ _ _ _ _ w7 (O4.out.below b47)
    clear E6 k0 k1 k2 k3 k4
    obtain ⟨k0, k1, k2, k3, k4⟩ := row5 rx7
    clear rx7
    go_wp2_with fail
    refine HH.out.mono ?_
    rintro e w8 ⟨rfl, b8⟩
    have bb8 := bb7.trans (b8.mono (by omega))
    clear k0 k1 k2 k3 k4
    go_wp2
    go_ret
    exact ⟨rfl, bb8⟩
end Go.Proofs.YticajcagcdbgpaaDoor
