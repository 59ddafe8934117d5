/- PROVED: FnExactGap returns true at every heap: impl.Gap answers as the specification, and changes nothing. No condition. -/
import Derived.Test.YtgmodckdgjjahaaHSpecD
import Derived.Test.YtgmodckdgjjahaaHWalk
import Derived.Test.YtgmodckdgjjahaaHRow
namespace Go.Proofs.Ytgmodckdgjjahaa
open Go.RowKit Go.Sort

set_option maxHeartbeats 4000000 in
set_option maxRecDepth 100000 in
theorem walk6 (s : ByteArray) (a : Option Addr) (b off n c : Nat) (L : List Cl) (w : World) (h : CellsIn w a b off n L) (hs : s.size ≤ 9223372036854775807) (hn : n ≤ 9223372036854775807) (hf : ∀ i, i < n → Fit (L.getD i cl0)) :
    Calls Try.prog 6 #[.agg #[.string s, .slice a n c]] w fun e w' => e = .returned (.bool true) ∧ Below w.heap.size w w' := by
  have hb0 : Below w.heap.size w (w.alloc (.cells #[.string s, .slice a n c] 32)) := (Below.refl _ w).alloc (Nat.le_refl _) _
  have hr0 := RowAt.new w 32 #[.string s, .slice a n c]
  have h0 := cells_below h hb0
  have l0 := hr0.lt
  obtain ⟨c0, c1⟩ := two_cells hr0
  go_enter Try.func6, Try.ntmps6
  go_wp2_with fail
  generalize w.alloc (.cells #[.string s, .slice a n c] 32) = w1 at *
  refine (szHeap_any s a n c w1 hs hn).mono ?_
  rintro e w2 ⟨⟨r, rfl, hr⟩, b2⟩
  have bb2 := hb0.trans (b2.mono (by omega))
  have r2 := hr0.below b2 (by omega)
  have h2 := cells_below h0 b2
  clear c0 c1
  obtain ⟨c0, c1⟩ := two_cells r2
  have s2 := b2.size
  by_cases hneg : r < 0
  · clear hr
    go_wp2
    go_ret
    exact ⟨rfl, bb2⟩
  · have hsn : s.size ≤ 1048576 ∧ n ≤ 1048576 := by omega
    obtain ⟨hsz, hnz⟩ := hsn
    clear hr
    go_wp2_with fail
    refine (toHeap_any s a b off n c L w2 h2 hnz).mono ?_
    rintro e w3 ⟨g1, rfl, hg1, b3, l3⟩
    have s3 := b3.size
    have bb3 := bb2.trans (b3.mono (by omega))
    go_wp2_with fail
    refine (specGap_any s _ g1 0 n n L w3 hg1 hsz hnz hf).mono ?_
    rintro e w4 ⟨rfl, b4⟩
    have s4 := b4.size
    have bb4 := bb3.trans (b4.mono (by omega))
    have h4 := cells_below (cells_below h2 b3) b4
    clear c0 c1
    obtain ⟨c0, c1⟩ := two_cells ((r2.below b3 (by omega)).below b4 (by omega))
    go_wp2_with fail
    refine (toHeap_any s a b off n c L w4 h4 hnz).mono ?_
    rintro e w5 ⟨g2, rfl, hg2, b5, l5⟩
    have s5 := b5.size
    have bb5 := bb4.trans (b5.mono (by omega))
    have r5 := ((r2.below b3 (by omega)).below b4 (by omega)).below b5 (by omega)
    have h5 := cells_below h4 b5
    have ba : Below w5.heap.size w5 (w5.alloc (.cells #[.string s, .slice (some ⟨g2, 0, none⟩) n n] 24)) := (Below.refl _ w5).alloc (Nat.le_refl _) _
    have rg := RowAt.new w5 24 #[.string s, .slice (some ⟨g2, 0, none⟩) n n]
    have lg := rg.lt
    clear c0 c1
    obtain ⟨k0, k1⟩ := two_cells rg
    have r6 := r5.below ba (by omega)
    have h6 := cells_below h5 ba
    have hg6 := cells_below hg2 ba
    have s6 := ba.size
    have bb6 := bb5.trans (ba.mono (by omega))
    go_wp2_with fail
    generalize hG : w5.heap.size = G at *
    generalize w5.alloc (.cells #[.string s, .slice (some ⟨g2, 0, none⟩) n n] 24) = w6 at *
    refine (implGap_any s _ g2 0 n n L w6 hg6 hsz hnz hf).mono ?_
    rintro e w7 ⟨rfl, b7⟩
    rw [gap_one]
    have s7 := b7.size
    have bb7 := bb6.trans (b7.mono (by omega))
    have r7 := r6.below b7 (by omega)
    have rg7 := rg.below b7 (by omega)
    have h7 := cells_below h6 b7
    have hg7 := cells_below hg6 b7
    clear k0 k1
    obtain ⟨c0, c1⟩ := two_cells r7
    obtain ⟨k0, k1⟩ := two_cells rg7
    generalize gapB s L = hb
    have hne : decide (hb ≠ hb) = false := by simp
    go_wp2_with fail
    have bd : Below w7.heap.size w7 w7.drew := below_drewN w7 1
    have hd := cells_below h7 bd
    go_region_with (first
      | (go_at_call 16; refine (toHeap_any s a b off n c L _ hd hnz).mono ?_; rintro e w8 ⟨g3, rfl, hg3, b8, l8⟩; have b78 : Below w7.heap.size w7 w8 := bd.trans b8; have bb8 := bb7.trans (b78.mono (by omega)); have k2 := (two_cells (rg7.below b78 (by omega))).1; have k3 := (two_cells (rg7.below b78 (by omega))).2; have hg8 := cells_below hg7 b78)
      | (go_at_call 11; refine (eqHeap_any s _ _ g2 0 g3 0 n n n L _ hg8 hg3 hnz).mono ?_; rintro e w9 ⟨rfl, b9⟩; have bb9 := bb8.trans (b9.mono (by have := b78.size; omega))))
    all_goals
      go_wp2
      go_ret
      exact ⟨rfl, bb9⟩

open Go.ChangeShapes Go.WideShapes Go.ChangeAt

set_option maxRecDepth 100000 in
theorem lifted6 (os : Os) (started : os.Started) (H : Type) (enc : TypeId × Value → H) :
    ReturnsInHanded {} Try.checked os 6 .any (Rows.fnExactGapSpec.pre6 enc Try.prog Try.f6 Rows.fnExactGapRow.domain false) (Rows.fnExactGapSpec.post enc Try.prog Try.f6 false true false false) := by
  refine returnsInHanded_of_change (C := Try.checked) own started (by kernel_rfl) Try.func6
    (ChangeSpec.witness6 (enc := enc) (C := Try.checked) false ⟨#[], #[.agg #[.string ⟨#[]⟩, .slice none 0 0]], []⟩ 8 (by kernel_rfl) (by kernel_rfl) (by kernel_rfl) (by kernel_rfl)) ?_
  intro W base args ds gs before hval0 hW _ _
  have hval : ∀ (j : Nat) t v, Try.f6.params[j]? = some t → args[j]? = some v → Value.okWide Try.prog W .any base t v := hval0
  have hW' := hW
  obtain ⟨p, q, hA0, hV, rfl, hfz, hnd⟩ := hW
  have hA : DataW.TrodAll enc Try.prog W 0 (fun _ => true) true Try.f6.params.toList args.toList ds p := hA0
  rw [Try.params6] at hA hval
  obtain ⟨v0, d0, rfl, rfl, h0⟩ := trodAll_one hA
  obtain ⟨rfl, rfl⟩ := trodVars_none hV
  have k0 := h0
  have lt0 : ∀ x ∈ p, x.block < W.heap.size := by obtain ⟨m, hm⟩ := k0; exact DataW.trod_lt m _ _ _ hm
  obtain ⟨s, a, b, off, n, c, L, rfl, hc, hs, hn, hfit⟩ := heap_of_open (hval 0 32 v0 rfl rfl) h0
  clear hA0 hval0
  refine (walk6 s a b off n c L W hc hs hn hfit).mono fun e W' ⟨he, bel⟩ => ?_
  subst he
  exact ⟨_, rfl, _, _, _, [], _, [], hW', trodAll_mk1 (shut_bool Try.underlying4 _), trodAll_mk1 (Below.trod laidOut (by kernel_rfl) (of_decide_eq_true (by kernel_rfl)) k0 bel lt0), rfl, bel.frame _, fun h => by cases h⟩

theorem gap_holds : Rows.FnExactGapSaid :=
  OpenClaim.holds_of_wide 6 Try.f6 rfl rfl rfl rfl rfl rfl rfl ⟨rfl, rfl, rfl, rfl, rfl⟩ rfl rfl rfl rfl rfl (by kernel_rfl) Try.func6 (by kernel_rfl)
    (of_decide_eq_true (by kernel_rfl)) (by unfold Func.isWrapper; first | (rw [if_pos (by decide +kernel)]; kernel_rfl) | (rw [if_neg (by decide +kernel)]; exact ⟨rfl, rfl⟩))
    (fun os started H enc _ => lifted6 os started H enc)
#print axioms gap_holds
end Go.Proofs.Ytgmodckdgjjahaa
