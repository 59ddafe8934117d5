/- The specification's ValueOk. -/
import Derived.Test.YticajcagcdbgpaaGreatDoorW1
import Derived.Test.YticajcagcdbgpaaGreatDoorV6
namespace Go.Proofs.YticajcagcdbgpaaGreatDoor
open Go.RowKit Go.Sort
open Kk (Rk rk0 texL texR decS scoreB rightB ranksB OwnR flatR encR)

def none3 (v : Vl) : Nat := v.items.length + v.pairs.length + v.ranks.length
def vokB (v : Vl) : Bool :=
  if v.kind = 1 then shortB v.text && decide (none3 v = 0)
  else if v.kind = 2 then decide (v.text.size = 0) && (decide (none3 v = v.items.length) && itemsB v.items)
  else if v.kind = 3 then decide (v.text.size = 0) && (decide (none3 v = v.pairs.length) && pairsB v.pairs)
  else if v.kind = 4 then decide (v.text.size = 0) && (decide (none3 v = v.ranks.length) && (decide (0 < none3 v) && ranksB v.ranks))
  else false

/-- A value in memory: its parts in rows of their own. -/
structure VOwn (w : World) (B : Nat) (v : Vl) (vi vp vr : Value) : Prop where
  items : OwnS w B vi v.items
  pairs : OwnP w B vp v.pairs
  ranks : OwnR w B vr v.ranks

theorem VOwn.below {w w' : World} {B : Nat} {v : Vl} {vi vp vr : Value} (h : VOwn w B v vi vp vr) (hb : Below w.heap.size w w') : VOwn w' B v vi vp vr :=
  ⟨owns_below h.items hb, owns_below h.pairs hb, owns_below h.ranks hb⟩

structure VFit (v : Vl) : Prop where
  text : v.text.size ≤ 1048576
  items : v.items.length ≤ 524288
  pairs : v.pairs.length ≤ 524288
  ranks : v.ranks.length ≤ 524288

theorem l4Texts_own {w : World} {B : Nat} {v : Value} {T : List ByteArray} (h : OwnS w B v T) (hn : T.length ≤ 524288) : Calls Tryz.prog 23 #[v] w fun e w' => e = .returned (.bool (itemsB T)) ∧ w' = w := by
  obtain ⟨a, A, c, rfl, h2, _, _, h5⟩ := ownS_cells h
  exact l4Texts_any a A T.length c T w rfl (fun hp => (h2 hp).1) h5 (by omega)

theorem l4Pairs_own {w : World} {B : Nat} {v : Value} {ps : List Pr} (h : OwnP w B v ps) (hn : ps.length ≤ 524288) : Calls Tryz.prog 24 #[v] w fun e w' => e = .returned (.bool (pairsB ps)) ∧ Below w.heap.size w w' := by
  obtain ⟨a, A, c, rfl, hin⟩ := ownP_in h
  exact (l4Pairs_any a A ps.length c ps w hin (by omega)).mono fun e w' ⟨he, q, hq⟩ => ⟨he, by rw [hq]; exact below_drewN (Below.refl _ _) q⟩

theorem l4Ranks_own {w : World} {B : Nat} {v : Value} {rs : List Rk} (h : OwnR w B v rs) (hn : rs.length ≤ 524288) : Calls Tryz.prog 25 #[v] w fun e w' => e = .returned (.bool (ranksB rs)) ∧ Below w.heap.size w w' := by
  obtain ⟨a, A, c, hv, hin⟩ := Kk.ownR_any h
  subst hv
  exact Kk.ranks_any a A 0 rs.length c rs w hin (by omega)

set_option maxHeartbeats 4000000 in
set_option maxRecDepth 100000 in
theorem specOk_any (v : Vl) (vi vp vr : Value) (B : Nat) (w : World) (h : VOwn w B v vi vp vr) (hf : VFit v) :
    Calls Tryz.prog 10 #[vlV v.kind v.text vi vp vr] w fun e w' => e = .returned (.bool (vokB v)) ∧ Below w.heap.size w w' := by
  obtain ⟨k, t, is, ps, rs⟩ := v
  obtain ⟨f1, f2, f3, f4⟩ := hf
  dsimp only at f1 f2 f3 f4
  obtain ⟨ai, ci, hvi⟩ := owns_form h.items
  obtain ⟨ap, cp, hvp⟩ := owns_form h.pairs
  obtain ⟨ar, cr, hvr⟩ := owns_form h.ranks
  dsimp only at hvi hvp hvr
  have HB : Hid (∀ o, Below w.heap.size w (w.alloc o)) := fun o => (Below.refl _ w).alloc (Nat.le_refl _) _
  have HI : Hid (∀ o, Calls Tryz.prog 23 #[vi] (w.alloc o) fun e w' => e = .returned (.bool (itemsB is)) ∧ w' = w.alloc o) := fun o => l4Texts_own (h.below (HB.out o)).items f2
  have HP : Hid (∀ o, Calls Tryz.prog 24 #[vp] (w.alloc o) fun e w' => e = .returned (.bool (pairsB ps)) ∧ Below (w.alloc o).heap.size (w.alloc o) w') := fun o => l4Pairs_own (h.below (HB.out o)).pairs f3
  have HR : Hid (∀ o, Calls Tryz.prog 25 #[vr] (w.alloc o) fun e w' => e = .returned (.bool (ranksB rs)) ∧ Below (w.alloc o).heap.size (w.alloc o) w') := fun o => l4Ranks_own (h.below (HB.out o)).ranks f4
  have HN : Hid (none3 ⟨k, t, is, ps, rs⟩ = is.length + ps.length + rs.length) := rfl
  obtain ⟨O, hO⟩ : ∃ O, vokB ⟨k, t, is, ps, rs⟩ = O := ⟨_, rfl⟩
  have HO : Hid (vokB ⟨k, t, is, ps, rs⟩ = O) := hO
  rw [hO]
  show Calls Tryz.prog 10 #[vlV k t vi vp vr] w _
  clear h hO
  generalize hni : is.length = ni at *
  generalize hnp : ps.length = np at *
  generalize hnr : rs.length = nr at *
  have HNI : Hid (is.length = ni) := hni
  have HNP : Hid (ps.length = np) := hnp
  have HNR : Hid (rs.length = nr) := hnr
  subst hvi hvp hvr
  clear hni hnp hnr
  by_cases k1 : k = 1
  · subst k1
    have HO1 : Hid ((decide (t.size ≤ 200) && decide (ni + np + nr = 0)) = O) := by
      unfold Hid
      rw [← HO.out]
      show _ = (shortB t && decide (none3 _ = 0))
      rw [HN.out]; rfl
    clear HO HI HP HR HN
    by_cases hs : t.size ≤ 200
    · have g1 : (t.size : Int) ≤ 200 := by omega
      have HO2 : Hid (((ni : Int) + np + nr == 0) = O) := by
        unfold Hid
        rw [← HO1.out, decide_eq_true hs, Bool.true_and, Bool.eq_iff_iff]
        simp
        omega
      clear HO1 hs
      go_enter Tryz.func10, Tryz.ntmps10
      go_wp2
      go_ret
      exact ⟨ret_bool HO2.out, HB.out _⟩
    · have g1 : ¬ (t.size : Int) ≤ 200 := by omega
      have HO2 : Hid (false = O) := by unfold Hid; rw [← HO1.out, decide_eq_false hs, Bool.false_and]
      clear HO1 hs
      go_enter Tryz.func10, Tryz.ntmps10
      go_wp2
      go_ret
      exact ⟨ret_bool HO2.out, HB.out _⟩
  have b1 : (k == 1) = false := by simpa using k1
  by_cases k2 : k = 2
  · subst k2
    have HO1 : Hid ((decide (t.size = 0) && (decide (ni + np + nr = ni) && itemsB is)) = O) := by
      unfold Hid
      rw [← HO.out]
      show _ = (decide (t.size = 0) && (decide (none3 _ = is.length) && itemsB is))
      rw [HN.out, HNI.out]
    clear HO HP HR HN k1 b1
    by_cases hs : t.size = 0
    · have he := empty_yes hs
      by_cases hn : ni + np + nr = ni
      · have g2 : ((ni : Int) + np + nr == ni) = true := by simp; omega
        have HO2 : Hid (itemsB is = O) := by unfold Hid; rw [← HO1.out, decide_eq_true hs, decide_eq_true hn]; rfl
        clear HO1 hs hn
        go_enter Tryz.func10, Tryz.ntmps10
        go_wp2_with fail
        refine (HI.out _).mono ?_
        rintro e w1 ⟨rfl, rfl⟩
        rw [HO2.out]
        go_wp2
        go_ret
        exact ⟨rfl, HB.out _⟩
      · have g2 : ((ni : Int) + np + nr == ni) = false := by simp; omega
        have HO2 : Hid (false = O) := by unfold Hid; rw [← HO1.out, decide_eq_false hn, Bool.false_and, Bool.and_false]
        clear HO1 hs hn
        go_enter Tryz.func10, Tryz.ntmps10
        go_wp2
        go_ret
        exact ⟨ret_bool HO2.out, HB.out _⟩
    · have he := empty_no (s := t) (by omega)
      have HO2 : Hid (false = O) := by unfold Hid; rw [← HO1.out, decide_eq_false hs, Bool.false_and]
      clear HO1 hs
      go_enter Tryz.func10, Tryz.ntmps10
      go_wp2
      go_ret
      exact ⟨ret_bool HO2.out, HB.out _⟩
  have b2 : (k == 2) = false := by simpa using k2
  by_cases k3 : k = 3
  · subst k3
    have HO1 : Hid ((decide (t.size = 0) && (decide (ni + np + nr = np) && pairsB ps)) = O) := by
      unfold Hid
      rw [← HO.out]
      show _ = (decide (t.size = 0) && (decide (none3 _ = ps.length) && pairsB ps))
      rw [HN.out, HNP.out]
    clear HO HI HR HN k1 k2 b1 b2
    by_cases hs : t.size = 0
    · have he := empty_yes hs
      by_cases hn : ni + np + nr = np
      · have g2 : ((ni : Int) + np + nr == np) = true := by simp; omega
        have HO2 : Hid (pairsB ps = O) := by unfold Hid; rw [← HO1.out, decide_eq_true hs, decide_eq_true hn]; rfl
        clear HO1 hs hn
        go_enter Tryz.func10, Tryz.ntmps10
        go_wp2_with fail
        refine (HP.out _).mono ?_
        rintro e w1 ⟨rfl, hb1⟩
        have hb2 := (HB.out _).trans (hb1.mono (by simp))
        rw [HO2.out]
        clear hb1
        go_wp2
        go_ret
        exact ⟨rfl, hb2⟩
      · have g2 : ((ni : Int) + np + nr == np) = false := by simp; omega
        have HO2 : Hid (false = O) := by unfold Hid; rw [← HO1.out, decide_eq_false hn, Bool.false_and, Bool.and_false]
        clear HO1 hs hn
        go_enter Tryz.func10, Tryz.ntmps10
        go_wp2
        go_ret
        exact ⟨ret_bool HO2.out, HB.out _⟩
    · have he := empty_no (s := t) (by omega)
      have HO2 : Hid (false = O) := by unfold Hid; rw [← HO1.out, decide_eq_false hs, Bool.false_and]
      clear HO1 hs
      go_enter Tryz.func10, Tryz.ntmps10
      go_wp2
      go_ret
      exact ⟨ret_bool HO2.out, HB.out _⟩
  have b3 : (k == 3) = false := by simpa using k3
  by_cases k4 : k = 4
  · subst k4
    have HO1 : Hid ((decide (t.size = 0) && (decide (ni + np + nr = nr) && (decide (0 < ni + np + nr) && ranksB rs))) = O) := by
      unfold Hid
      rw [← HO.out]
      show _ = (decide (t.size = 0) && (decide (none3 _ = rs.length) && (decide (0 < none3 _) && ranksB rs)))
      rw [HN.out, HNR.out]
    clear HO HI HP HN k1 k2 k3 b1 b2 b3
    by_cases hs : t.size = 0
    · have he := empty_yes hs
      by_cases hn : ni + np + nr = nr
      · have g2 : ((ni : Int) + np + nr == nr) = true := by simp; omega
        by_cases hp : 0 < ni + np + nr
        · have g3 : (0 : Int) < (ni : Int) + np + nr := by omega
          have HO2 : Hid (ranksB rs = O) := by unfold Hid; rw [← HO1.out, decide_eq_true hs, decide_eq_true hn, decide_eq_true hp]; rfl
          clear HO1 hs hn hp
          go_enter Tryz.func10, Tryz.ntmps10
          go_wp2_with fail
          refine (HR.out _).mono ?_
          rintro e w1 ⟨rfl, hb1⟩
          have hb2 := (HB.out _).trans (hb1.mono (by simp))
          rw [HO2.out]
          clear hb1
          go_wp2
          go_ret
          exact ⟨rfl, hb2⟩
        · have g3 : ¬ (0 : Int) < (ni : Int) + np + nr := by omega
          have HO2 : Hid (false = O) := by unfold Hid; rw [← HO1.out, decide_eq_false hp, Bool.false_and, Bool.and_false, Bool.and_false]
          clear HO1 hs hn hp
          go_enter Tryz.func10, Tryz.ntmps10
          go_wp2
          go_ret
          exact ⟨ret_bool HO2.out, HB.out _⟩
      · have g2 : ((ni : Int) + np + nr == nr) = false := by simp; omega
        have HO2 : Hid (false = O) := by unfold Hid; rw [← HO1.out, decide_eq_false hn, Bool.false_and, Bool.and_false]
        clear HO1 hs hn
        go_enter Tryz.func10, Tryz.ntmps10
        go_wp2
        go_ret
        exact ⟨ret_bool HO2.out, HB.out _⟩
    · have he := empty_no (s := t) (by omega)
      have HO2 : Hid (false = O) := by unfold Hid; rw [← HO1.out, decide_eq_false hs, Bool.false_and]
      clear HO1 hs
      go_enter Tryz.func10, Tryz.ntmps10
      go_wp2
      go_ret
      exact ⟨ret_bool HO2.out, HB.out _⟩
  · have b4 : (k == 4) = false := by simpa using k4
    have HO2 : Hid (false = O) := by
      unfold Hid
      rw [← HO.out]
      unfold vokB
      rw [if_neg k1, if_neg k2, if_neg k3, if_neg k4]
    clear HO HI HP HR HN k1 k2 k3 k4
    go_enter Tryz.func10, Tryz.ntmps10
    go_wp2
    go_ret
    exact ⟨ret_bool HO2.out, HB.out _⟩
end Go.Proofs.YticajcagcdbgpaaGreatDoor
