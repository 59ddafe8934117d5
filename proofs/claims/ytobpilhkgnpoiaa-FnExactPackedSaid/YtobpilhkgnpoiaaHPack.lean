/- PROVED: FnExactPacked returns true at every heap: impl.Packed answers as the specification, changes nothing of its argument, and its answer owns its memory. No condition. -/
import Derived.Test.YtobpilhkgnpoiaaHPackS
import Derived.Test.YtobpilhkgnpoiaaHPackJ
import Derived.Test.YtobpilhkgnpoiaaHHeld
import Derived.Test.YtobpilhkgnpoiaaHRow
import Derived.Deep.RegionWith
import Derived.Deep.DeepCutAuto
namespace Go.Proofs.Ytobpilhkgnpoiaa
open Go.RowKit Go.Sort

theorem row_next {w w' : World} {p : Nat} {T : TypeId} {C : Array Value} (h : RowAt w p T C) (hb : Below w.heap.size w w') : RowAt w' p T C := h.below hb h.lt

theorem pack_len {s : ByteArray} {L : List Cl} : (packL s L).length ≤ 41 := by
  unfold packL
  split
  · rename_i h
    have := (heap_small h).2
    rw [pk_len s L _ (Nat.le_refl _)]
    omega
  · simp

set_option maxHeartbeats 4000000 in
set_option maxRecDepth 100000 in
theorem walk10 (s : ByteArray) (a : Option Addr) (b off n c : Nat) (L : List Cl) (w : World) (h : CellsIn w a b off n L) (hs : s.size ≤ 9223372036854775807) (hn : n ≤ 9223372036854775807) (hf : ∀ i, i < n → Fit (L.getD i cl0)) :
    Calls Try.prog 10 #[.agg #[.string s, .slice a n c]] w fun e w' => e = .returned (.bool true) ∧ Below w.heap.size w w' := by
  have hb0 : Below w.heap.size w (w.alloc (.cells #[.string s, .slice a n c] 32)) := (Below.refl _ w).alloc (Nat.le_refl _) _
  have hr0 := RowAt.new w 32 #[.string s, .slice a n c]
  have h0 := cells_below h hb0
  have l0 := hr0.lt
  obtain ⟨c0, c1⟩ := two_at hr0
  go_enter Try.func10, Try.ntmps10
  go_wp2_with fail
  generalize w.alloc (.cells #[.string s, .slice a n c] 32) = w1 at *
  refine (szHeap_any s a n c w1 hs hn).mono ?_
  rintro e w2 ⟨⟨r, rfl, hr⟩, b2⟩
  have bb2 := hb0.trans (b2.mono (by omega))
  have r2 := hr0.below b2 (by omega)
  have h2 := cells_below h0 b2
  clear c0 c1
  obtain ⟨c0, c1⟩ := two_at r2
  have s2 := b2.size
  by_cases hneg : r < 0
  · clear hr
    go_wp2
    go_ret
    exact ⟨rfl, bb2⟩
  · have hsn : s.size ≤ 1048576 ∧ n ≤ 1048576 := by omega
    obtain ⟨hsz, hnz⟩ := hsn
    clear hr hr0 h0 b2 hb0
    have hml : (packL s L).length ≤ 41 := pack_len
    have SP : Hid (∀ (g B : Nat) (w : World), w.ownsRow B 64 4 (.slice (some ⟨g, 0, none⟩) n n) n (flatC L) → Calls Try.prog 32 #[.agg #[.string s, .slice (some ⟨g, 0, none⟩) n n]] w (HeapEnd w (packD s L) (packL s L) (heapB s L))) := fun g B w ho => specPacked_any s g 0 n n L w (owns_cellsIn ho) hsz hnz hf
    have IP : Hid (∀ (g B : Nat) (w : World), w.ownsRow B 64 4 (.slice (some ⟨g, 0, none⟩) n n) n (flatC L) → Calls Try.prog 33 #[.agg #[.string s, .slice (some ⟨g, 0, none⟩) n n]] w (HeapEnd w (packD s L) (packL s L) (heapB s L))) := fun g B w ho => implPacked_any s _ g 0 n n L w (owns_cellsIn ho) hf
    unfold HeapEnd at SP IP
    generalize packD s L = DD at *
    generalize packL s L = M at *
    generalize heapB s L = OK at *
    have hmz : M.length ≤ 1048576 := by omega
    -- the specification's answer
    go_wp2_with fail
    refine (toHeapO_any s a b off n c L w2 h2 hnz).mono ?_
    rintro e w3 ⟨g1, rfl, o3, b3⟩
    have s3 := b3.size
    have bb3 := bb2.trans (b3.mono bb2.size)
    go_wp2_with fail
    refine (SP.out g1 _ w3 o3).mono ?_
    rintro e w4 ⟨v0, rfl, o4, b4⟩
    have s4 := b4.size
    have bb4 := bb3.trans (b4.mono bb3.size)
    have r4 := (r2.below b3 (by omega)).below b4 (by omega)
    have h4 := cells_below (cells_below h2 b3) b4
    obtain ⟨a0, A0, cap0, rfl, _⟩ := form_any o4
    have bA : Below w4.heap.size w4 (w4.alloc (.cells #[.string DD, .slice a0 M.length cap0] 24)) := (Below.refl _ w4).alloc (Nat.le_refl _) _
    have q6 := RowAt.new w4 24 #[.string DD, .slice a0 M.length cap0]
    have r5 := r4.below bA (by omega)
    have h5 := cells_below h4 bA
    have o5 := owns_below o4 bA
    have bb5 := bb4.trans (bA.mono bb4.size)
    have s5 := bA.size
    clear c0 c1 r4 h4 o4 o3
    obtain ⟨c0, c1⟩ := two_at r5
    go_wp2_with fail
    generalize hB6 : w4.heap.size = B6 at *
    generalize w4.alloc (.cells #[.string DD, .slice a0 M.length cap0] 24) = w5 at *
    -- the program's answer
    refine (toHeapO_any s a b off n c L w5 h5 hnz).mono ?_
    rintro e w6 ⟨g2, rfl, o6, b6⟩
    have s6 := b6.size
    have bb6 := bb5.trans (b6.mono bb5.size)
    have bX : Below w6.heap.size w6 (w6.alloc (.cells #[.string s, .slice (some ⟨g2, 0, none⟩) n n] 24)) := (Below.refl _ w6).alloc (Nat.le_refl _) _
    have q9 := RowAt.new w6 24 #[.string s, .slice (some ⟨g2, 0, none⟩) n n]
    have o7 := owns_below o6 bX
    have z7 := owns_below (owns_below o5 b6) bX
    have q6b := row_next (row_next q6 b6) bX
    have r7 := row_next (row_next r5 b6) bX
    have h7 := cells_below (cells_below h5 b6) bX
    have bb7 := bb6.trans (bX.mono bb6.size)
    have s7 := bX.size
    have apZY := own_apart o5 o6 (Nat.le_refl _)
    clear c0 c1 o5 o6 q6 r5 h5
    obtain ⟨k0, k1⟩ := two_at q9
    go_wp2_with fail
    generalize hB9 : w6.heap.size = B9 at *
    generalize w6.alloc (.cells #[.string s, .slice (some ⟨g2, 0, none⟩) n n] 24) = w7 at *
    refine (IP.out g2 _ w7 o7).mono ?_
    rintro e w8 ⟨v1, rfl, o8, b8⟩
    have s8 := b8.size
    have bb8 := bb7.trans (b8.mono bb7.size)
    obtain ⟨a1, A1, cap1, rfl, _⟩ := form_any o8
    have bG : Below w8.heap.size w8 (w8.alloc (.cells #[.string DD, .slice a1 M.length cap1] 24)) := (Below.refl _ w8).alloc (Nat.le_refl _) _
    have qA := RowAt.new w8 24 #[.string DD, .slice a1 M.length cap1]
    have y9 := owns_below (owns_below o7 b8) bG
    have z9 := owns_below (owns_below z7 b8) bG
    have g9 := owns_below o8 bG
    have q9b := row_next (row_next q9 b8) bG
    have q6c := row_next (row_next q6b b8) bG
    have r9 := row_next (row_next r7 b8) bG
    have h9 := cells_below (cells_below h7 b8) bG
    have bb9 := bb8.trans (bG.mono bb8.size)
    have s9 := bG.size
    have apGY : Value.ownBlock (.slice a1 M.length cap1) ≠ Value.ownBlock (.slice (some ⟨g2, 0, none⟩) n n) := by
      rcases own_apart o7 o8 (Nat.le_refl _) with h | h
      · cases h
      · exact h.symm
    have apZG := own_apart z7 o8 (Nat.le_refl _)
    clear k0 k1 o7 z7 o8 q9 q6b r7 h7
    obtain ⟨k0, k1⟩ := two_at qA
    obtain ⟨k2, k3⟩ := two_at q6c
    go_wp2_with fail
    generalize hBA : w8.heap.size = BA at *
    generalize w8.alloc (.cells #[.string DD, .slice a1 M.length cap1] 24) = w9 at *
    refine (eqHeapV DD _ _ _ _ M.length M w9 g9 z9 hmz).mono ?_
    rintro e w11 ⟨rfl, b911⟩
    have s11 := b911.size
    have bbB := bb9.trans (b911.mono bb9.size)
    have yB := owns_below y9 b911
    have zB := owns_below z9 b911
    have gB := owns_below g9 b911
    have t9 := row_next q9b b911
    have t6 := row_next q6c b911
    have tA := row_next qA b911
    have rB := row_next r9 b911
    have hB := cells_below h9 b911
    clear k0 k1 k2 k3 y9 z9 g9 q9b q6c qA r9 h9
    have hne : decide (OK ≠ OK) = false := by simp
    have hne2 : (OK != OK) = false := by simp
    obtain ⟨k0, k1⟩ := two_at t9
    obtain ⟨c0, c1⟩ := two_at rB
    go_upto_region 10 with fail
    go_cut [45] (fun v wx => v = .bool false ∧ Below w11.heap.size w11 wx)
    case first =>
      have bd : Below w11.heap.size w11 w11.drew := below_drewN w11 1
      have hd := cells_below hB bd
      go_region_with (first
        | (go_at_call 18; refine (toHeapO_any s a b off n c L _ hd hnz).mono ?_; rintro e w12 ⟨g3, rfl, o12, b12⟩; have b112 : Below w11.heap.size w11 w12 := bd.trans b12; have s112 := b112.size; have k2 := (two_at (row_next t9 b112)).1; have k3 := (two_at (row_next t9 b112)).2; have y12 := owns_below yB b112)
        | (go_at_call 13; refine (eqHeapV s _ _ _ _ n L _ y12 o12 hnz).mono ?_; rintro e w13 ⟨rfl, b13⟩; have b113 := b112.trans (b13.mono s112)))
      all_goals
        go_wp2_with fail
        go_meet
        case rel => exact ⟨rfl, b113⟩
    case rest =>
      obtain ⟨rfl, bC⟩ := hcut
      have bbC := bbB.trans (bC.mono bbB.size)
      have yC := owns_below yB bC
      have zC := owns_below zB bC
      have gC := owns_below gB bC
      have u9 := row_next t9 bC
      have u6 := row_next t6 bC
      have uA := row_next tA bC
      have rC := row_next rB bC
      have hC := cells_below hB bC
      clear k0 k1 c0 c1
      obtain ⟨k0, k1⟩ := two_at u9
      go_wp2_with fail
      -- the copy that was handed in is marked: nothing of the answer is there
      refine (markHeapV s _ _ n L wc yC hnz).mono ?_
      rintro e wD ⟨rfl, yD, gD⟩
      have zD := zC.kept gD apZY
      have gvD := gC.kept gD (.inr apGY)
      have v6 := kept_row u6 yC gD (by decide)
      have vA := kept_row uA yC gD (by decide)
      have rD := kept_row rC yC gD (by decide)
      have hD := kept_cells hC gD (fun y hy h0 => by have := (yC.lt y hy).1; have := h.low h0; have := bb5.size; omega)
      have bbD : Below w.heap.size w wD := below_grown bbC gD (fun y hy => by have := (yC.lt y hy).1; have := bb5.size; omega) bbC.size
      clear k0 k1 yD yC zC gC u6 uA rC hC gD u9
      obtain ⟨k0, k1⟩ := two_at vA
      obtain ⟨k2, k3⟩ := two_at v6
      have hk1 : ¬ ((1 + 4 * n : Nat) : Int) < 0 := by omega
      generalize hQ : ((1 + 4 * n : Nat) : Int) = Q1 at *
      have dk1 : decide (Q1 < 0) = false := decide_eq_false hk1
      clear hQ
      go_wp2_with fail
      refine (eqHeapV DD _ _ _ _ M.length M wD gvD zD hmz).mono ?_
      rintro e wF ⟨rfl, bDF⟩
      have bbF := bbD.trans (bDF.mono bbD.size)
      have zF := owns_below zD bDF
      have gF := owns_below gvD bDF
      have x6 := row_next v6 bDF
      have xA := row_next vA bDF
      have rF := row_next rD bDF
      have hF := cells_below hD bDF
      clear k0 k1 k2 k3 zD gvD v6 vA rD hD
      obtain ⟨k0, k1⟩ := two_at xA
      go_wp2_with fail
      -- the answer is marked, and held
      refine (markHeapV DD _ _ M.length M wF gF hmz).mono ?_
      rintro e wG ⟨rfl, gG, grG⟩
      have hk2 : ¬ ((1 + 4 * M.length : Nat) : Int) < 0 := by omega
      have HQ : Hid (∃ Q2 : Int, ((1 + 4 * M.length : Nat) : Int) = Q2) := ⟨_, rfl⟩
      obtain ⟨Q2, hQ2⟩ := HQ.out
      have HQ2 : Hid (((1 + 4 * M.length : Nat) : Int) = Q2) := hQ2
      rw [hQ2] at hk2 ⊢
      have dk2 : decide (Q2 < 0) = false := decide_eq_false hk2
      have dk3 : (Q2 != Q2) = false := by simp
      clear hQ2 HQ
      have zG := zF.kept grG apZG
      have y6 := kept_row x6 gF grG (by decide)
      have yA := kept_row xA gF grG (by decide)
      have rG := kept_row rF gF grG (by decide)
      have hG := kept_cells hF grG (fun y hy h0 => by have := (gF.lt y hy).1; have := h.low h0; have := bb7.size; omega)
      have bbG : Below w.heap.size w wG := below_grown bbF grG (fun y hy => by have := (gF.lt y hy).1; have := bb7.size; omega) bbF.size
      clear k0 k1 zF gF x6 xA rF hF grG
      obtain ⟨k0, k1⟩ := two_at yA
      go_wp2_with fail
      refine (heldHeapV DD _ _ M.length wG gG hmz).mono ?_
      rintro e wH ⟨rfl, bH⟩
      have bbH := bbG.trans (bH.mono bbG.size)
      have zH := owns_below zG bH
      have gH := owns_below gG bH
      have i6 := row_next y6 bH
      have iA := row_next yA bH
      have rH := row_next rG bH
      have hH := cells_below hG bH
      clear k0 k1 zG gG y6 yA rG hG
      obtain ⟨c0, c1⟩ := two_at rH
      rw [HQ2.out]
      go_wp2_with fail
      -- another call
      refine (toHeapO_any s a b off n c L wH hH hnz).mono ?_
      rintro e wI ⟨g4, rfl, oI, bI⟩
      have bbI := bbH.trans (bI.mono bbH.size)
      go_wp2_with fail
      refine (IP.out g4 _ wI oI).mono ?_
      rintro e wJ ⟨v2, rfl, oJ, bJ⟩
      have bHJ := bI.trans (bJ.mono bI.size)
      have bbJ := bbH.trans (bHJ.mono bbH.size)
      obtain ⟨a2, A2, cap2, rfl, _⟩ := form_any oJ
      have bK : Below wJ.heap.size wJ (wJ.alloc (.cells #[.string DD, .slice a2 M.length cap2] 24)) := (Below.refl _ wJ).alloc (Nat.le_refl _) _
      have jA := RowAt.new wJ 24 #[.string DD, .slice a2 M.length cap2]
      have zK := owns_below (owns_below zH bHJ) bK
      have gK := owns_below (owns_below gH bHJ) bK
      have oK := owns_below oJ bK
      have j6 := row_next (row_next i6 bHJ) bK
      have jG := row_next (row_next iA bHJ) bK
      have bbK := bbJ.trans (bK.mono bbJ.size)
      clear c0 c1 zH gH oI oJ i6 iA rH hH
      obtain ⟨k0, k1⟩ := two_at jA
      obtain ⟨k2, k3⟩ := two_at j6
      go_wp2_with fail
      generalize hBJ : wJ.heap.size = BJ at *
      generalize wJ.alloc (.cells #[.string DD, .slice a2 M.length cap2] 24) = wK at *
      refine (eqHeapV DD _ _ _ _ M.length M wK oK zK hmz).mono ?_
      rintro e wM ⟨rfl, bKM⟩
      have bbM := bbK.trans (bKM.mono bbK.size)
      have gM := owns_below gK bKM
      have pA := row_next jG bKM
      clear k0 k1 k2 k3
      obtain ⟨k0, k1⟩ := two_at pA
      go_wp2_with fail
      refine (heldHeapV DD _ _ M.length wM gM hmz).mono ?_
      rintro e wN ⟨rfl, bN⟩
      have bbN := bbM.trans (bN.mono bbM.size)
      rw [HQ2.out]
      clear k0 k1
      go_wp2
      go_ret
      exact ⟨rfl, bbN⟩

open Go.ChangeShapes Go.WideShapes Go.ChangeAt

set_option maxRecDepth 100000 in
theorem lifted10 (os : Os) (started : os.Started) (H : Type) (enc : TypeId × Value → H) :
    ReturnsInHanded {} Try.checked os 10 .any (Rows.fnExactPackedSpec.pre6 enc Try.prog Try.f10 Rows.fnExactPackedRow.domain false) (Rows.fnExactPackedSpec.post enc Try.prog Try.f10 false true false false) := by
  refine returnsInHanded_of_change (C := Try.checked) own started (by kernel_rfl) Try.func10
    (ChangeSpec.witness6 (enc := enc) (C := Try.checked) false ⟨#[], #[.agg #[.string ⟨#[]⟩, .slice none 0 0]], []⟩ 8 (by kernel_rfl) (by kernel_rfl) (by kernel_rfl) (by kernel_rfl)) ?_
  intro W base args ds gs before hval0 hW _ _
  have hval : ∀ (j : Nat) t v, Try.f10.params[j]? = some t → args[j]? = some v → Value.okWide Try.prog W .any base t v := hval0
  have hW' := hW
  obtain ⟨p, q, hA0, hV, rfl, hfz, hnd⟩ := hW
  have hA : DataW.TrodAll enc Try.prog W 0 (fun _ => true) true Try.f10.params.toList args.toList ds p := hA0
  rw [Try.params10] at hA hval
  obtain ⟨v0, d0, rfl, rfl, h0⟩ := trodAll_one hA
  obtain ⟨rfl, rfl⟩ := trodVars_none hV
  have k0 := h0
  have lt0 : ∀ x ∈ p, x.block < W.heap.size := by obtain ⟨m, hm⟩ := k0; exact DataW.trod_lt m _ _ _ hm
  obtain ⟨s, a, b, off, n, c, L, rfl, hc, hs, hn, hfit⟩ := heap_of_open (hval 0 32 v0 rfl rfl) h0
  clear hA0 hval0
  refine (walk10 s a b off n c L W hc hs hn hfit).mono fun e W' ⟨he, bel⟩ => ?_
  subst he
  exact ⟨_, rfl, _, _, _, [], _, [], hW', trodAll_mk1 (shut_bool Try.underlying4 _), trodAll_mk1 (Below.trod laidOut (by kernel_rfl) (of_decide_eq_true (by kernel_rfl)) k0 bel lt0), rfl, bel.frame _, fun h => by cases h⟩

theorem packed_holds : Rows.FnExactPackedSaid :=
  OpenClaim.holds_of_wide 10 Try.f10 rfl rfl rfl rfl rfl rfl rfl ⟨rfl, rfl, rfl, rfl, rfl⟩ rfl rfl rfl rfl rfl (by kernel_rfl) Try.func10 (by kernel_rfl)
    (of_decide_eq_true (by kernel_rfl)) (by unfold Func.isWrapper; first | (rw [if_pos (by decide +kernel)]; kernel_rfl) | (rw [if_neg (by decide +kernel)]; exact ⟨rfl, rfl⟩))
    (fun os started H enc _ => lifted10 os started H enc)
#print axioms packed_holds
end Go.Proofs.Ytobpilhkgnpoiaa
