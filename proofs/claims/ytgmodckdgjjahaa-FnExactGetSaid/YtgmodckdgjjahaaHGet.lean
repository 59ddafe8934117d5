/- PROVED: FnExactGet returns true at every heap and reference: impl.Get answers as the specification, and changes nothing. No condition. -/
import Derived.Test.YtgmodckdgjjahaaHGetJ
import Derived.Test.YtgmodckdgjjahaaHRow
import Derived.Deep.RegionWith
import Derived.Deep.DeepCutAuto
namespace Go.Proofs.Ytgmodckdgjjahaa
open Go.RowKit Go.Sort

set_option maxHeartbeats 1000000 in
theorem toRef_any (rc rg : Int) (w : World) :
    Calls Try.prog 26 #[refV rc rg] w fun e w' => e = .returned (refV rc rg) ∧ Below w.heap.size w w' := by
  go_enter Try.func26, Try.ntmps26
  go_wp2
  exact bodyPost_ret (v := refV rc rg) (by simp [results, Try.results26, go_sem]) rfl ⟨rfl, Go.Joins.below_alloc3 _ _ _ _⟩

set_option maxHeartbeats 4000000 in
set_option maxRecDepth 100000 in
theorem walk8 (s : ByteArray) (a : Option Addr) (b off n c : Nat) (L : List Cl) (rc rg : Int) (w : World) (h : CellsIn w a b off n L) (hs : s.size ≤ 9223372036854775807) (hn : n ≤ 9223372036854775807) (hf : ∀ i, i < n → Fit (L.getD i cl0)) :
    Calls Try.prog 8 #[.agg #[.string s, .slice a n c], refV rc rg] w fun e w' => e = .returned (.bool true) ∧ Below w.heap.size w w' := by
  have hb0 : Below w.heap.size w ((w.alloc (.cells #[.string s, .slice a n c] 32)).alloc (.cells #[.int .i64 rc, .int .i64 rg] 44)) := Go.Joins.below_alloc2 _ _ _
  have hr0 := (RowAt.new w 32 #[.string s, .slice a n c]).below ((Below.refl _ _).alloc (Nat.le_refl _) (.cells #[.int .i64 rc, .int .i64 rg] 44)) (by simp)
  have hr1 := RowAt.new (w.alloc (.cells #[.string s, .slice a n c] 32)) 44 #[.int .i64 rc, .int .i64 rg]
  simp only [World.size_alloc] at hr1
  have h0 := cells_below h hb0
  have l0 := hr0.lt
  have l1 := hr1.lt
  obtain ⟨c0, c1⟩ := two_at hr0
  go_enter Try.func8, Try.ntmps8
  go_wp2_with fail
  generalize (w.alloc (.cells #[.string s, .slice a n c] 32)).alloc (.cells #[.int .i64 rc, .int .i64 rg] 44) = w1 at *
  refine (szHeap_any s a n c w1 hs hn).mono ?_
  rintro e w2 ⟨⟨r, rfl, hr⟩, b2⟩
  have bb2 := hb0.trans (b2.mono (by omega))
  have r2 := hr0.below b2 (by omega)
  have r2' := hr1.below b2 (by omega)
  have h2 := cells_below h0 b2
  clear c0 c1
  obtain ⟨c0, c1⟩ := two_at r2
  have s2 := b2.size
  by_cases hneg : r < 0
  · clear hr
    go_wp2
    go_ret
    exact ⟨rfl, bb2⟩
  · have hsn : s.size ≤ 1048576 ∧ n ≤ 1048576 := by omega
    obtain ⟨hsz, hnz⟩ := hsn
    clear hr
    generalize hG1 : (getB s L rc rg).1 = G1 at *
    generalize hG2 : (getB s L rc rg).2 = G2 at *
    have SG : Hid (∀ (g : Nat) (w : World), CellsIn w (some ⟨g, 0, none⟩) g 0 n L → Calls Try.prog 25 #[.agg #[.string s, .slice (some ⟨g, 0, none⟩) n n], refV rc rg] w fun e w' => e = .returned (.tuple #[.string G1, .bool G2]) ∧ Below w.heap.size w w') := fun g w hc => by
      have := specGet_any s _ g 0 n n L rc rg w hc hsz hnz hf
      rwa [hG1, hG2] at this
    have IG : Hid (∀ (g : Nat) (w : World), CellsIn w (some ⟨g, 0, none⟩) g 0 n L → Calls Try.prog 27 #[.agg #[.string s, .slice (some ⟨g, 0, none⟩) n n], refV rc rg] w fun e w' => e = .returned (.tuple #[.string G1, .bool G2]) ∧ Below w.heap.size w w') := fun g w hc => by
      have := implGet_any s _ g 0 n n L rc rg w hc hf
      rwa [hG1, hG2] at this
    clear hG1 hG2
    obtain ⟨d0, d1⟩ := two_at r2'
    go_upto_region 5 with fail
    go_cut [6, 7] (fun x y wx => x = .string G1 ∧ y = .bool G2 ∧ Below w2.heap.size w2 wx)
    case first =>
      have bd : Below w2.heap.size w2 w2.drew := below_drewN w2 1
      have hd := cells_below h2 bd
      go_region_with (first
        | (go_at_call 16; refine (toHeap_any s a b off n c L _ hd hnz).mono ?_; rintro e w3 ⟨g1, rfl, hg1, b3, l3⟩; have b23 : Below w2.heap.size w2 w3 := bd.trans b3; have s23 := b23.size; have k2 := (two_at (r2'.below b23 (by omega))).1; have k3 := (two_at (r2'.below b23 (by omega))).2)
        | (go_at_call 26; refine (toRef_any rc rg _).mono ?_; rintro e w3a ⟨rfl, b3a⟩; have hg1a := cells_below hg1 b3a; have b2a := b23.trans (b3a.mono s23))
        | (go_at_call 25; refine (SG.out g1 _ hg1a).mono ?_; rintro e w4 ⟨rfl, b4⟩; have b24 := b2a.trans (b4.mono b2a.size)))
      all_goals
        go_wp2_with fail
        go_meet
        case rel => exact ⟨rfl, rfl, b24⟩
    case rest =>
      obtain ⟨rfl, rfl, b4⟩ := hcut
      have s4 := b4.size
      have bb4 := bb2.trans (b4.mono (by omega))
      have h4 := cells_below h2 b4
      have r4 := r2.below b4 (by omega)
      have r4' := r2'.below b4 (by omega)
      clear c0 c1 d0 d1
      obtain ⟨c0, c1⟩ := two_at r4
      go_wp2_with fail
      refine (toHeap_any s a b off n c L wc h4 hnz).mono ?_
      rintro e w5 ⟨g2, rfl, hg2, b5, l5⟩
      have s5 := b5.size
      have bb5 := bb4.trans (b5.mono (by omega))
      have r5 := r4.below b5 (by omega)
      have r5' := r4'.below b5 (by omega)
      have h5 := cells_below h4 b5
      have ba : Below w5.heap.size w5 (w5.alloc (.cells #[.string s, .slice (some ⟨g2, 0, none⟩) n n] 24)) := (Below.refl _ w5).alloc (Nat.le_refl _) _
      have rg0 := RowAt.new w5 24 #[.string s, .slice (some ⟨g2, 0, none⟩) n n]
      have lg := rg0.lt
      clear c0 c1
      obtain ⟨k0, k1⟩ := two_at rg0
      have r6 := r5.below ba (by omega)
      have r6' := r5'.below ba (by omega)
      have h6 := cells_below h5 ba
      have hg6 := cells_below hg2 ba
      have s6 := ba.size
      have bb6 := bb5.trans (ba.mono (by omega))
      obtain ⟨d0, d1⟩ := two_at r6'
      go_wp2_with fail
      generalize hG : w5.heap.size = G at *
      generalize w5.alloc (.cells #[.string s, .slice (some ⟨g2, 0, none⟩) n n] 24) = w6 at *
      go_upto_region 7 with fail
      go_cut [9, 10] (fun x y wx => x = .string G1 ∧ y = .bool G2 ∧ Below w6.heap.size w6 wx)
      case first =>
        have bd : Below w6.heap.size w6 w6.drew := below_drewN w6 1
        have hgd := cells_below hg6 bd
        go_region_with (first
          | (go_at_call 26; refine (toRef_any rc rg _).mono ?_; rintro e w6a ⟨rfl, b6a⟩; have b66 : Below w6.heap.size w6 w6a := bd.trans b6a; have s66 := b66.size; have hg6a := cells_below hg6 b66; have k2 := (two_at (rg0.below b66 (by omega))).1; have k3 := (two_at (rg0.below b66 (by omega))).2)
          | (go_at_call 27; refine (IG.out g2 _ hg6a).mono ?_; rintro e w7 ⟨rfl, b7⟩; have b67 := b66.trans (b7.mono s66)))
        all_goals
          go_wp2_with fail
          go_meet
          case rel => exact ⟨rfl, rfl, b67⟩
      case rest =>
        obtain ⟨rfl, rfl, b7⟩ := hcut
        have s7 := b7.size
        have bb7 := bb6.trans (b7.mono (by omega))
        have r7 := r6.below b7 (by omega)
        have rg7 := rg0.below b7 (by omega)
        have h7 := cells_below h6 b7
        have hg7 := cells_below hg6 b7
        clear k0 k1 d0 d1
        obtain ⟨c0, c1⟩ := two_at r7
        obtain ⟨k0, k1⟩ := two_at rg7
        have hne : decide (G2 ≠ G2) = false := by simp
        have hne1 : decide (G1 ≠ G1) = false := by simp
        go_wp2_with fail
        have bd : Below wc.heap.size wc wc.drew := below_drewN wc 1
        have hd := cells_below h7 bd
        go_region_with (first
          | (go_at_call 16; refine (toHeap_any s a b off n c L _ hd hnz).mono ?_; rintro e w8 ⟨g3, rfl, hg3, b8, l8⟩; have b78 : Below wc.heap.size wc w8 := bd.trans b8; have bb8 := bb7.trans (b78.mono (by omega)); have k2 := (two_at (rg7.below b78 (by omega))).1; have k3 := (two_at (rg7.below b78 (by omega))).2; have hg8 := cells_below hg7 b78)
          | (go_at_call 11; refine (eqHeap_any s _ _ g2 0 g3 0 n n n L _ hg8 hg3 hnz).mono ?_; rintro e w9 ⟨rfl, b9⟩; have bb9 := bb8.trans (b9.mono (by have := b78.size; omega))))
        all_goals
          go_wp2
          go_ret
          exact ⟨rfl, bb9⟩

open Go.ChangeShapes Go.WideShapes Go.ChangeAt

theorem cells44 : Try.prog.cellsOf 44 = 2 := by kernel_rfl

theorem ref_of_open {H : Type} {enc : TypeId × Value → H} {W : World} {r : Reach} {b0 : Nat} {v : Value} {d : DataW H} {p : List MemPlace}
    (hv : Value.okWide Try.prog W r b0 44 v) (h : DataW.Trod enc Try.prog W 0 (fun _ => true) true 44 v d p) : ∃ rc rg, v = refV rc rg := by
  obtain ⟨v0, v1, y0, y1, m, rfl, _, _, t0, t1⟩ := Go.Joins.open_agg2 Try.underlying44 (by kernel_rfl) cells44 hv h
  obtain ⟨n0, e0, _⟩ := DataW.trod_int Try.underlying2 t0
  obtain ⟨n1, e1, _⟩ := DataW.trod_int Try.underlying2 t1
  simp at e0 e1
  subst e0 e1
  exact ⟨n0, n1, rfl⟩

set_option maxRecDepth 100000 in
theorem lifted8 (os : Os) (started : os.Started) (H : Type) (enc : TypeId × Value → H) :
    ReturnsInHanded {} Try.checked os 8 .any (Rows.fnExactGetSpec.pre6 enc Try.prog Try.f8 Rows.fnExactGetRow.domain false) (Rows.fnExactGetSpec.post enc Try.prog Try.f8 false true false false) := by
  refine returnsInHanded_of_change (C := Try.checked) own started (by kernel_rfl) Try.func8
    (ChangeSpec.witness6 (enc := enc) (C := Try.checked) false ⟨#[], #[.agg #[.string ⟨#[]⟩, .slice none 0 0], .agg #[.int .i64 0, .int .i64 0]], []⟩ 8 (by kernel_rfl) (by kernel_rfl) (by kernel_rfl) (by kernel_rfl)) ?_
  intro W base args ds gs before hval0 hW _ _
  have hval : ∀ (j : Nat) t v, Try.f8.params[j]? = some t → args[j]? = some v → Value.okWide Try.prog W .any base t v := hval0
  have hW' := hW
  obtain ⟨p, q, hA0, hV, rfl, hfz, hnd⟩ := hW
  have hA : DataW.TrodAll enc Try.prog W 0 (fun _ => true) true Try.f8.params.toList args.toList ds p := hA0
  rw [Try.params8] at hA hval
  obtain ⟨v0, vs0, d0, ds0, p0, q0, hargs, rfl, rfl, h0, r0⟩ := trodAll_cons hA
  obtain ⟨v1, vs1, d1, ds1, p1, q1, hargs1, rfl, rfl, h1, r1⟩ := trodAll_cons r0
  obtain ⟨rfl, rfl, rfl⟩ := trodAll_nil r1
  obtain rfl : args = #[v0, v1] := by cases args; simp_all
  obtain ⟨rfl, rfl⟩ := trodVars_none hV
  have k0 := h0
  have k1 := h1
  have lt0 : ∀ x ∈ p0, x.block < W.heap.size := by obtain ⟨m, hm⟩ := k0; exact DataW.trod_lt m _ _ _ hm
  have lt1 : ∀ x ∈ p1, x.block < W.heap.size := by obtain ⟨m, hm⟩ := k1; exact DataW.trod_lt m _ _ _ hm
  obtain ⟨s, a, b, off, n, c, L, rfl, hc, hs, hn, hfit⟩ := heap_of_open (hval 0 32 v0 rfl rfl) h0
  obtain ⟨rc, rg, rfl⟩ := ref_of_open (hval 1 44 v1 rfl rfl) h1
  clear hA0 hval0
  refine (walk8 s a b off n c L rc rg W hc hs hn hfit).mono fun e W' ⟨he, bel⟩ => ?_
  subst he
  exact ⟨_, rfl, _, _, _, [], _, [], hW', trodAll_mk1 (shut_bool Try.underlying4 _), trodAll_mk2 (Below.trod laidOut (by kernel_rfl) (of_decide_eq_true (by kernel_rfl)) k0 bel lt0) (Below.trod laidOut (by kernel_rfl) (of_decide_eq_true (by kernel_rfl)) k1 bel lt1), rfl, bel.frame _, fun h => by cases h⟩

theorem get_holds : Rows.FnExactGetSaid :=
  OpenClaim.holds_of_wide 8 Try.f8 rfl rfl rfl rfl rfl rfl rfl ⟨rfl, rfl, rfl, rfl, rfl⟩ rfl rfl rfl rfl rfl (by kernel_rfl) Try.func8 (by kernel_rfl)
    (of_decide_eq_true (by kernel_rfl)) (by unfold Func.isWrapper; first | (rw [if_pos (by decide +kernel)]; kernel_rfl) | (rw [if_neg (by decide +kernel)]; exact ⟨rfl, rfl⟩))
    (fun os started H enc _ => lifted8 os started H enc)
#print axioms get_holds
end Go.Proofs.Ytgmodckdgjjahaa
