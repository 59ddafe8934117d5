/- impl.ValueBytes at every value. -/
import Derived.Test.YticajcagcdbgpaaGreatDoorA3
namespace Go.Proofs.YticajcagcdbgpaaGreatDoor
open Go.RowKit Go.Sort
open Kk (Rk rk0 texL texR decS scoreB rightB ranksB OwnR flatR encR)

set_option maxHeartbeats 2000000 in
set_option maxRecDepth 100000 in
theorem bytes_no (k : Int) (t : ByteArray) (a1 a2 a3 : Option Addr) (ni c1 np c2 nr c3 : Nat) (w : World)
    (hO : ∀ W, Below w.heap.size w W → Calls Tryz.prog 9 #[vlV k t (.slice a1 ni c1) (.slice a2 np c2) (.slice a3 nr c3)] W fun e w' => e = .returned (.bool false) ∧ Below W.heap.size W w') :
    Calls Tryz.prog 6 #[vlV k t (.slice a1 ni c1) (.slice a2 np c2) (.slice a3 nr c3)] w fun e w' => e = .returned (.string ⟨#[]⟩) ∧ Below w.heap.size w w' := by
  have HO : Hid (∀ W, Below w.heap.size w W → Calls Tryz.prog 9 #[vlV k t (.slice a1 ni c1) (.slice a2 np c2) (.slice a3 nr c3)] W fun e w' => e = .returned (.bool false) ∧ Below W.heap.size W w') := hO
  have HB : Hid (Below w.heap.size w (w.alloc (.cells (vC k t (.slice a1 ni c1) (.slice a2 np c2) (.slice a3 nr c3)) 28))) := (Below.refl _ w).alloc (Nat.le_refl _) _
  clear hO
  go_enter Tryz.func6, Tryz.ntmps6
  go_wp2_with fail
  refine (HO.out _ HB.out).mono ?_
  rintro e w1 ⟨rfl, hb1⟩
  have bb1 := HB.out.trans (hb1.mono HB.out.size)
  clear hb1
  go_wp2
  go_ret
  exact ⟨rfl, bb1⟩

theorem implBytes_any (v : Vl) (vi vp vr : Value) (B : Nat) (w : World) (h : VOwn w B v vi vp vr) (hf : VFit v) (hp2 : v.pairs.length ≤ 500000) (hfl : Kk.FitL v.ranks) (hR : Ready w) :
    Calls Tryz.prog 6 #[vlV v.kind v.text vi vp vr] w fun e w' => e = .returned (.string ⟨(vbytes v).toArray⟩) ∧ Below w.heap.size w w' := by
  have h6 := hR.six
  have hO : ∀ W, Below w.heap.size w W → Calls Tryz.prog 9 #[vlV v.kind v.text vi vp vr] W fun e w' => e = .returned (.bool (vokB v)) ∧ Below W.heap.size W w' := fun W hb => implOk_any v vi vp vr B W (h.below hb) hf hp2 hfl (hR.below (hb.mono h6))
  obtain ⟨a1, c1, e1⟩ := owns_form h.items
  obtain ⟨a2, c2, e2⟩ := owns_form h.pairs
  obtain ⟨a3, c3, e3⟩ := owns_form h.ranks
  cases hv : vokB v with
  | false =>
    rw [hv] at hO
    have e : vbytes v = [] := by unfold vbytes; rw [hv]; rfl
    rw [e]
    subst e1 e2 e3
    exact bytes_no v.kind v.text a1 a2 a3 _ c1 _ c2 _ c3 w hO
  | true =>
    rw [hv] at hO
    have hsm := small_of_ok hv
    have hvb : vbytes v = UInt8.ofNat (48 + v.kind.toNat) :: (if v.kind = 1 then oneT v.text else encT (vtexts v)) := by unfold vbytes; rw [hv]; rfl
    obtain ⟨k, t, is, ps, rs⟩ := v
    obtain ⟨_, st, ni, np, nr, s1, s2, s3⟩ := hsm
    obtain ⟨oi, op, or⟩ := h
    dsimp only at hO st ni np nr s1 s2 s3 oi op or hfl e1 e2 e3 hp2 hvb
    have nil0 : ∀ {α : Type} (l : List α), l.length = 0 → l = [] := fun l h => List.eq_nil_of_length_eq_zero h
    rw [hvb]
    show Calls Tryz.prog 6 #[vlV k t vi vp vr] w _
    have h := hv
    unfold vokB none3 at h
    dsimp only at h
    subst e1 e2 e3
    split at h
    · rename_i hk
      subst hk
      simp only [Bool.and_eq_true, decide_eq_true_iff] at h
      have := bytes_text t a1 a2 a3 is.length c1 ps.length c2 rs.length c3 [t] w (fun x hx => by simp at hx; subst hx; exact st) (by simp) hO (fun W hb => by
        have ho : OwnS (W.alloc (.cells #[.string t] 9)) W.heap.size (.slice (some ⟨W.heap.size, 0, none⟩) 1 1) [t] := ⟨rfl, .inr ⟨W.heap.size, 1, #[.string t], rfl, Nat.le_refl _, RowAt.new W 9 #[.string t], by simp, by unfold maxLen; omega, by simp, by simp [strV]⟩⟩
        have hT : Calls Tryz.prog 92 #[.string t] W fun e w' => e = .returned (.slice (some ⟨W.heap.size, 0, none⟩) 1 1) ∧ w' = W.alloc (.cells #[.string t] 9) := by
          go_enter Tryz.func92, Tryz.ntmps92
          go_wp2
          go_ret
          exact ⟨rfl, rfl⟩
        exact hT.mono fun e w' ⟨he, hw⟩ => ⟨_, W.heap.size, he, by rw [hw]; exact ho, by rw [hw]; exact (Below.refl _ W).alloc (Nat.le_refl _) _⟩)
      refine this.mono fun e w' ⟨he, hb⟩ => ⟨?_, hb⟩
      rw [he, if_pos rfl]
      exact ret_str (by simp [encT])
    · rename_i n1
      rw [if_neg n1]
      split at h
      · rename_i hk
        subst hk
        simp only [Bool.and_eq_true, decide_eq_true_iff] at h
        have h2 := nil0 ps (by omega)
        have h3 := nil0 rs (by omega)
        have := bytes_items t a1 a2 a3 is.length c1 ps.length c2 rs.length c3 is w s1 (by omega) hO (fun W hb => by
          have hT : Calls Tryz.prog 95 #[.slice a1 is.length c1] W fun e w' => e = .returned (.slice a1 is.length c1) ∧ w' = W := by
            go_enter Tryz.func95, Tryz.ntmps95
            go_wp2
            go_ret
            exact ⟨rfl, rfl⟩
          exact hT.mono fun e w' ⟨he, hw⟩ => ⟨_, B, he, by rw [hw]; exact owns_below oi hb, by rw [hw]; exact Below.refl _ _⟩)
        refine this.mono fun e w' ⟨he, hb⟩ => ⟨?_, hb⟩
        rw [he, h2, h3]
        exact ret_str (by simp [vtexts, flatP, texL])
      · rename_i n2
        split at h
        · rename_i hk
          subst hk
          simp only [Bool.and_eq_true, decide_eq_true_iff] at h
          have h2 := nil0 is (by omega)
          have h3 := nil0 rs (by omega)
          have := bytes_pairs t a1 a2 a3 is.length c1 ps.length c2 rs.length c3 (flatP ps) w (flatP_short s2) (by rw [flatP_len]; omega) hO (fun W hb => by
            obtain ⟨a, A, c, hvv, hin⟩ := ownP_in (owns_below op hb)
            rw [hvv]
            exact (pair_texts a A ps.length c ps W hin (by omega)).mono fun e w' ⟨v', he, ho', hb'⟩ => ⟨v', _, he, ho', hb'⟩)
          refine this.mono fun e w' ⟨he, hb⟩ => ⟨?_, hb⟩
          rw [he, h2, h3]
          exact ret_str (by simp [vtexts, texL])
        · rename_i n3
          split at h
          · rename_i hk
            subst hk
            simp only [Bool.and_eq_true, decide_eq_true_iff] at h
            have h2 := nil0 is (by omega)
            have h3 := nil0 ps (by omega)
            have := bytes_ranks t a1 a2 a3 is.length c1 ps.length c2 rs.length c3 (texL rs) w (texL_short s3) (by rw [Kk.texL_len]; omega) hO (fun W hb => by
              obtain ⟨a, A, c, hvv, hin⟩ := Kk.ownR_any (owns_below or hb)
              rw [hvv]
              have hRW := hR.below (hb.mono h6)
              have := hRW.six
              exact (Kk.texts_any a A 0 rs.length c rs W hin (by omega) hfl hRW.tab (by omega)).mono fun e w' ⟨v', he, ho', hb'⟩ => ⟨v', _, he, ho', hb'⟩)
            refine this.mono fun e w' ⟨he, hb⟩ => ⟨?_, hb⟩
            rw [he, h2, h3]
            exact ret_str (by simp [vtexts, flatP])
          · cases h
end Go.Proofs.YticajcagcdbgpaaGreatDoor
