/- rankList's right: one rank or more, and right ones. -/
import Derived.Test.YticajcagcdbgpaaGreatDoorK13
namespace Go.Proofs.YticajcagcdbgpaaGreatDoor.Kk
open Go.RowKit Go.Sort

theorem all_and {n : Nat} (p q : Nat → Bool) : ((List.range n).all fun i => p i && q i) = ((List.range n).all p && (List.range n).all q) := by
  rw [Bool.eq_iff_iff, Bool.and_eq_true, List.all_eq_true, List.all_eq_true, List.all_eq_true]
  constructor
  · intro h
    exact ⟨fun x hx => ((Bool.and_eq_true _ _).mp (h x hx)).1, fun x hx => ((Bool.and_eq_true _ _).mp (h x hx)).2⟩
  · rintro ⟨h1, h2⟩ x hx
    exact (Bool.and_eq_true _ _).mpr ⟨h1 x hx, h2 x hx⟩

def rightB (L : List Rk) : Bool := decide (1 ≤ L.length) && ranksB L

theorem right_eq (L : List Rk) : rightB L = ((decide (1 ≤ L.length) && decide (L.length ≤ 20)) && ((List.range L.length).all (buAt L) && ((List.range L.length).all (scAt L) && ((List.range L.length).all (riAt L) && (List.range L.length).all (frAt L))))) := by
  unfold rightB ranksB
  have e : (List.range L.length).all (okAt L) = ((List.range L.length).all (buAt L) && ((List.range L.length).all (scAt L) && ((List.range L.length).all (riAt L) && (List.range L.length).all (frAt L)))) := by
    show ((List.range L.length).all fun i => buAt L i && (scAt L i && (riAt L i && frAt L i))) = _
    rw [all_and (buAt L), all_and (scAt L), all_and (riAt L)]
  rw [e, Bool.and_assoc]

set_option maxHeartbeats 4000000 in
set_option maxRecDepth 100000 in
theorem right_any (a : Option Addr) (b off n c : Nat) (L : List Rk) (w : World) (h : RanksIn w a b off n L) (hn : n ≤ 1048577) (hf : FitL L) (ht : Tab w) (hw10 : 3 ≤ w.heap.size) :
    Calls Tryz.prog 105 #[.slice a n c] w fun e w' => e = .returned (.bool (rightB L)) ∧ Below w.heap.size w w' := by
  have HR : Hid (rightB L = ((decide (1 ≤ n) && decide (n ≤ 20)) && ((List.range n).all (buAt L) && ((List.range n).all (scAt L) && ((List.range n).all (riAt L) && (List.range n).all (frAt L)))))) := by
    have := right_eq L
    rw [h.len] at this
    exact this
  have cC := fun w => count_any n w
  have cT := texts_any a b off n c L w h hn hf ht hw10
  have hsb := short_bu hf
  rw [h.len] at hsb
  have HL : Hid ((List.range (texL L).length).all (shortAt (texL L)) = (List.range n).all (buAt L)) := hsb
  have htl := texL_len L
  rw [h.len] at htl
  have HTL : Hid ((texL L).length = 2 * n) := htl
  clear hsb htl
  have H : Hid (RanksIn w a b off n L) := h
  clear h hf ht
  generalize hb1 : (decide (1 ≤ n) && decide (n ≤ 20)) = b1 at *
  have HB1 : Hid ((decide (1 ≤ n) && decide (n ≤ 20)) = b1) := hb1
  clear hb1
  cases b1 with
  | false =>
    have HE : Hid (rightB L = false) := by unfold Hid; rw [HR.out, Bool.false_and]
    clear HR cT
    go_enter Tryz.func105, Tryz.ntmps105
    go_wp2_with fail
    refine (cC _).mono ?_
    rintro e w1 ⟨rfl, rfl⟩
    go_wp2
    go_ret
    exact ⟨ret_bool HE.out.symm, Below.refl _ _⟩
  | true =>
    have hn20 : n ≤ 20 := by
      have := HB1.out
      simp at this
      exact this.2
    have HR2 : Hid (rightB L = ((List.range n).all (buAt L) && ((List.range n).all (scAt L) && ((List.range n).all (riAt L) && (List.range n).all (frAt L))))) := by unfold Hid; rw [HR.out, Bool.true_and]
    clear HR HB1
    go_enter Tryz.func105, Tryz.ntmps105
    go_wp2_with fail
    refine (cC _).mono ?_
    rintro e w0 ⟨rfl, hw0⟩
    have hw1 := hw0.symm
    clear hw0
    subst hw1
    go_wp2_with fail
    refine cT.mono ?_
    rintro e w2 ⟨v, rfl, hown, b2⟩
    have z2 := b2.size
    obtain ⟨av, cv, hv⟩ : ∃ av cv, v = .slice av (texL L).length cv := by
      rcases Joins.ownsRow_forms hown with ⟨h1, h2⟩ | ⟨A, c, h1⟩
      · exact ⟨none, 0, by rw [h2, h1]⟩
      · exact ⟨_, _, h1⟩
    obtain ⟨A, hA⟩ : ∃ A, 0 < (texL L).length → av = some ⟨A, 0, none⟩ := by
      rcases Joins.ownsRow_forms hown with ⟨h1, h2⟩ | ⟨A, c, h1⟩
      · exact ⟨0, fun h => by omega⟩
      · rw [hv] at h1; injection h1 with h1; exact ⟨A, fun _ => h1⟩
    have hcells : ∀ i, i < (texL L).length → w2.cell? ⟨A, i, none⟩ = some (.string ((texL L).getD i ByteArray.empty)) := fun i hi => by
      have e := hA (by omega)
      subst hv
      subst e
      have := hown.cells rfl i (.string ((texL L).getD i ByteArray.empty)) (by
        rw [List.getD_eq_getElem?_getD, List.getElem?_eq_getElem hi]
        simp [strV, hi])
      rwa [Addr.add_lit, Nat.zero_add] at this
    have htl : (texL L).length ≤ 40 := by have := HTL.out; omega
    have cB := bulks_any av A (texL L).length cv (texL L) w2 hA hcells (by omega)
    rw [HL.out] at cB
    subst hv
    clear hown hcells hA cT HTL
    generalize (texL L).length = tl at *
    go_wp2_with fail
    refine cB.mono ?_
    rintro e w3 ⟨rfl, hw3⟩
    have hw4 := hw3.symm
    clear hw3
    subst hw4
    clear cB HL
    have H2 := H.out.below b2
    have cS := scores_any a b off n c L w2 H2 hn
    generalize hb2 : (List.range n).all (buAt L) = c2 at *
    clear hb2
    cases c2 with
    | false =>
      have HE : Hid (rightB L = false) := by unfold Hid; rw [HR2.out, Bool.false_and]
      clear HR2 cS H2
      go_wp2
      go_ret
      exact ⟨ret_bool HE.out.symm, b2⟩
    | true =>
      have HR3 : Hid (rightB L = ((List.range n).all (scAt L) && ((List.range n).all (riAt L) && (List.range n).all (frAt L)))) := by unfold Hid; rw [HR2.out, Bool.true_and]
      clear HR2
      go_wp2_with fail
      refine cS.mono ?_
      rintro e w4 ⟨rfl, b4'⟩
      have b4 := b2.trans (b4'.mono z2)
      have z4 := b4.size
      clear cS b4' H2
      have H4 := H.out.below b4
      have cR := rises_any a b off n c L w4 H4 hn
      generalize hb2 : (List.range n).all (scAt L) = c2 at *
      clear hb2
      cases c2 with
      | false =>
        have HE : Hid (rightB L = false) := by unfold Hid; rw [HR3.out, Bool.false_and]
        clear HR3 cR H4
        go_wp2
        go_ret
        exact ⟨ret_bool HE.out.symm, b4⟩
      | true =>
        have HR4 : Hid (rightB L = ((List.range n).all (riAt L) && (List.range n).all (frAt L))) := by unfold Hid; rw [HR3.out, Bool.true_and]
        clear HR3
        go_wp2_with fail
        refine cR.mono ?_
        rintro e w5 ⟨rfl, b5'⟩
        have b5 := b4.trans (b5'.mono z4)
        have z5 := b5.size
        clear cR b5' H4
        have H5 := H.out.below b5
        have cD := differ_any a b off n c L w5 H5 hn
        generalize hb2 : (List.range n).all (riAt L) = c2 at *
        clear hb2
        cases c2 with
        | false =>
          have HE : Hid (rightB L = false) := by unfold Hid; rw [HR4.out, Bool.false_and]
          clear HR4 cD H5
          go_wp2
          go_ret
          exact ⟨ret_bool HE.out.symm, b5⟩
        | true =>
          have HE : Hid (rightB L = (List.range n).all (frAt L)) := by unfold Hid; rw [HR4.out, Bool.true_and]
          clear HR4
          go_wp2_with fail
          refine cD.mono ?_
          rintro e w6 ⟨rfl, b6'⟩
          have b6 := b5.trans (b6'.mono z5)
          clear cD b6' H5
          generalize (List.range n).all (frAt L) = rr at *
          go_wp2
          go_ret
          exact ⟨ret_bool HE.out.symm, b6⟩
end Go.Proofs.YticajcagcdbgpaaGreatDoor.Kk
