/- FnExactDrop, walked: whatever heap and reference it is given, it returns true. -/
import Derived.Test.YtobpilhkgnpoiaaHDropS
import Derived.Test.YtobpilhkgnpoiaaHDropI
import Derived.Test.YtobpilhkgnpoiaaHCallR
import Derived.Test.YtobpilhkgnpoiaaHRow
import Derived.Deep.RegionWith
import Derived.Deep.DeepCutAuto
namespace Go.Proofs.Ytobpilhkgnpoiaa
open Go.RowKit Go.Sort

theorem row_next {w w' : World} {p : Nat} {T : TypeId} {C : Array Value} (h : RowAt w p T C) (hb : Below w.heap.size w w') : RowAt w' p T C := h.below hb h.lt

set_option maxHeartbeats 1000000 in
theorem toRef_any (rc rg : Int) (w : World) :
    Calls Try.prog 28 #[refV rc rg] w fun e w' => e = .returned (refV rc rg) ∧ Below w.heap.size w w' := by
  go_enter Try.func28, Try.ntmps28
  go_wp2
  exact bodyPost_ret (v := refV rc rg) (by simp [results, Try.results28, go_sem]) rfl ⟨rfl, Go.Joins.below_alloc3 _ _ _ _⟩

theorem drop_len {s : ByteArray} {L : List Cl} {rc rg : Int} : (dropL s L rc rg).length ≤ 41 := by
  unfold dropL
  split
  · rename_i h
    have hh : heapB s L = true := by
      unfold dropOk at h
      rw [Bool.and_eq_true] at h
      exact h.1
    have := (heap_small hh).2
    rw [List.length_set]
    omega
  · simp

set_option maxHeartbeats 4000000 in
set_option maxRecDepth 100000 in
theorem walk9 (s : ByteArray) (a : Option Addr) (b off n c : Nat) (L : List Cl) (rc rg : Int) (w : World) (h : CellsIn w a b off n L) (hs : s.size ≤ 9223372036854775807) (hn : n ≤ 9223372036854775807) (hf : ∀ i, i < n → Fit (L.getD i cl0)) :
    Calls Try.prog 9 #[.agg #[.string s, .slice a n c], refV rc rg] w fun e w' => e = .returned (.bool true) ∧ Below w.heap.size w w' := by
  have hb0 : Below w.heap.size w ((w.alloc (.cells #[.string s, .slice a n c] 32)).alloc (.cells #[.int .i64 rc, .int .i64 rg] 44)) := Go.Joins.below_alloc2 _ _ _
  have hr0 := (RowAt.new w 32 #[.string s, .slice a n c]).below ((Below.refl _ _).alloc (Nat.le_refl _) (.cells #[.int .i64 rc, .int .i64 rg] 44)) (by simp)
  have hr1 := RowAt.new (w.alloc (.cells #[.string s, .slice a n c] 32)) 44 #[.int .i64 rc, .int .i64 rg]
  simp only [World.size_alloc] at hr1
  have h0 := cells_below h hb0
  have l0 := hr0.lt
  have l1 := hr1.lt
  obtain ⟨c0, c1⟩ := two_at hr0
  go_enter Try.func9, Try.ntmps9
  go_wp2_with fail
  generalize (w.alloc (.cells #[.string s, .slice a n c] 32)).alloc (.cells #[.int .i64 rc, .int .i64 rg] 44) = w1 at *
  refine (szHeap_any s a n c w1 hs hn).mono ?_
  rintro e w2 ⟨⟨r, rfl, hr⟩, b2⟩
  have bb2 := hb0.trans (b2.mono (by omega))
  have r2 := hr0.below b2 (by omega)
  have r2' := hr1.below b2 (by omega)
  have h2 := cells_below h0 b2
  clear c0 c1
  obtain ⟨c0, c1⟩ := two_at r2
  have s2 := b2.size
  by_cases hneg : r < 0
  · clear hr
    go_wp2
    go_ret
    exact ⟨rfl, bb2⟩
  · have hsn : s.size ≤ 1048576 ∧ n ≤ 1048576 := by omega
    obtain ⟨hsz0, hnz⟩ := hsn
    clear hr hr0 h0 b2 hb0
    have hml : (dropL s L rc rg).length ≤ 41 := drop_len
    have SP : Hid (∀ (g B : Nat) (w : World), w.ownsRow B 64 4 (.slice (some ⟨g, 0, none⟩) n n) n (flatC L) → Calls Try.prog 30 #[.agg #[.string s, .slice (some ⟨g, 0, none⟩) n n], refV rc rg] w (HeapEnd w (dropD s L rc rg) (dropL s L rc rg) (dropOk s L rc rg))) := fun g B w ho => specDrop_any s g 0 n n L rc rg w (owns_cellsIn ho) hsz0 hnz hf
    have IP : Hid (∀ (g B : Nat) (w : World), w.ownsRow B 64 4 (.slice (some ⟨g, 0, none⟩) n n) n (flatC L) → Calls Try.prog 31 #[.agg #[.string s, .slice (some ⟨g, 0, none⟩) n n], refV rc rg] w (HeapEnd w (dropD s L rc rg) (dropL s L rc rg) (dropOk s L rc rg))) := fun g B w ho => implDrop_any s _ g 0 n n L rc rg w (owns_cellsIn ho) hf
    unfold HeapEnd at SP IP
    generalize dropD s L rc rg = DD at *
    generalize dropL s L rc rg = M at *
    generalize dropOk s L rc rg = OK at *
    have hmz : M.length ≤ 1048576 := by omega
    obtain ⟨d0, d1⟩ := two_at r2'
    have lw0 := r2.lt
    have lw1 := r2'.lt
    go_upto_region 5 with fail
    go_cut [6, 7] (fun x y wx => ∃ Z a1 cap1, x = .pointer (some ⟨Z, 0, none⟩) ∧ y = .bool OK ∧ w2.heap.size ≤ Z ∧ RowAt wx Z 24 #[.string DD, .slice a1 M.length cap1] ∧ wx.ownsRow w2.heap.size 64 4 (.slice a1 M.length cap1) M.length (flatC M) ∧ Below w2.heap.size w2 wx)
    case first =>
      clear IP
      refine wp_region_inv_at (fun a0 l a' W => l.size = 11 ∧ ∃ g1 Z a1 cap1 x0 x1 x2 x3 x4 x5 x6 x7 x8 x10, a' = { tmps := ((((((((((a0.tmps.setIfInBounds 22 (sd l 0 (.agg #[.string s, .slice a n c]) x0)).setIfInBounds 23 (sd l 1 (.agg #[.string s, .slice (some ⟨g1, 0, none⟩) n n]) x1)).setIfInBounds 24 (sd l 2 (.agg #[.int .i64 rc, .int .i64 rg]) x2)).setIfInBounds 25 (sd l 3 (.agg #[.int .i64 rc, .int .i64 rg]) x3)).setIfInBounds 26 (sd l 4 (.tuple #[.agg #[.string DD, .slice a1 M.length cap1], .bool OK]) x4)).setIfInBounds 21 (sd l 5 (.tuple #[.agg #[.string DD, .slice a1 M.length cap1], .bool OK]) x5)).setIfInBounds 27 (sd l 6 (.agg #[.string DD, .slice a1 M.length cap1]) x6)).setIfInBounds 28 (sd l 7 (.bool OK) x7)).setIfInBounds 6 (sd l 8 (.pointer (some ⟨Z, 0, none⟩)) x8)).setIfInBounds 7 (sd l 10 (.bool OK) x10)), defers := a0.defers } ∧ CallF w2 n L M DD 1 4 8 9 l g1 Z a1 cap1 W) (by kernel_rfl) ?h0 ?hstep (by kernel_rfl) ?hdone
      case h0 =>
        refine ⟨rfl, 0, 0, none, 0, ?yw20, ?yw21, ?yw22, ?yw23, ?yw24, ?yw25, ?yw26, ?yw27, ?yw28, ?yw210, ?eqw2, ⟨(Below.refl _ w2).drew, ?_, ?_, ?_, ?_, ?_, ?_, ?_, ?_⟩⟩
        case eqw2 => simp only [List.setIfInBounds_toArray, List.set_cons_zero, List.set_cons_succ, sd_rep]; rfl
        all_goals (intro h; cases h)
      case hstep =>
        rintro l a' W i ⟨hsz, g1, Z, a1, cap1, x0, x1, x2, x3, x4, x5, x6, x7, x8, x10, rfl, F⟩ hi
        simp only [List.setIfInBounds_toArray, List.set_cons_zero, List.set_cons_succ]
        obtain ⟨hlt, hoff, hdep⟩ := ready_mem hi
        have hio := off_of hoff
        have c0' := (F.below.cell (p := ⟨w.heap.size, 0, none⟩) lw0).trans c0
        have c1' := (F.below.cell (p := ⟨w.heap.size, 1, none⟩) lw0).trans c1
        have d0' := (F.below.cell (p := ⟨w.heap.size + 1, 0, none⟩) lw1).trans d0
        have d1' := (F.below.cell (p := ⟨w.heap.size + 1, 1, none⟩) lw1).trans d1
        have hin : i < 11 := hlt
        clear hi hlt
        have hcase : i = 0 ∨ i = 1 ∨ i = 2 ∨ i = 3 ∨ i = 4 ∨ i = 5 ∨ i = 6 ∨ i = 7 ∨ i = 8 ∨ i = 9 ∨ i = 10 := by omega
        clear hin
        rcases hcase with rfl | rfl | rfl | rfl | rfl | rfl | rfl | rfl | rfl | rfl | rfl
        · -- 0
          clear hdep hoff
          refine wpOp_step rfl (fun K hK => ?_)
          go_simp
          refine hK _ _ ⟨by simp [hsz], g1, Z, a1, cap1, x0, x1, x2, x3, x4, x5, x6, x7, x8, x10, ?_, F.plain 0 (by decide) (by decide) (by decide) (by decide) (by decide) (by decide)⟩
          simp only [sd_self (show 0 < l.size by omega), sd_ne (show 0 ≠ 1 by decide), sd_ne (show 0 ≠ 2 by decide), sd_ne (show 0 ≠ 3 by decide), sd_ne (show 0 ≠ 4 by decide), sd_ne (show 0 ≠ 5 by decide), sd_ne (show 0 ≠ 6 by decide), sd_ne (show 0 ≠ 7 by decide), sd_ne (show 0 ≠ 8 by decide), sd_ne (show 0 ≠ 10 by decide)] <;> rfl
        · -- 1
          have d0 : l.getD 0 false = true := by have := hdep; simp [Region.binds] at this; simp [this]
          clear hdep hoff
          refine wpOp_step rfl (fun K hK => ?_)
          simp only [sd_on d0]
          go_simp
          refine (toHeapO_any s a b off n c L W (cells_below h2 F.below) hnz).mono ?_
          rintro e W1 ⟨g', rfl, o1, b1⟩
          refine hK _ _ ⟨by simp [hsz], g', Z, a1, cap1, x0, x1, x2, x3, x4, x5, x6, x7, x8, x10, ?_, F.copied b1 o1 (by decide) (by decide) (by decide) (by decide) (by decide)⟩
          simp only [sd_self (show 1 < l.size by omega), sd_ne (show 1 ≠ 0 by decide), sd_ne (show 1 ≠ 2 by decide), sd_ne (show 1 ≠ 3 by decide), sd_ne (show 1 ≠ 4 by decide), sd_ne (show 1 ≠ 5 by decide), sd_ne (show 1 ≠ 6 by decide), sd_ne (show 1 ≠ 7 by decide), sd_ne (show 1 ≠ 8 by decide), sd_ne (show 1 ≠ 10 by decide), sd_on d0] <;> rfl
        · -- 2
          clear hdep hoff
          refine wpOp_step rfl (fun K hK => ?_)
          go_simp
          refine hK _ _ ⟨by simp [hsz], g1, Z, a1, cap1, x0, x1, x2, x3, x4, x5, x6, x7, x8, x10, ?_, F.plain 2 (by decide) (by decide) (by decide) (by decide) (by decide) (by decide)⟩
          simp only [sd_self (show 2 < l.size by omega), sd_ne (show 2 ≠ 0 by decide), sd_ne (show 2 ≠ 1 by decide), sd_ne (show 2 ≠ 3 by decide), sd_ne (show 2 ≠ 4 by decide), sd_ne (show 2 ≠ 5 by decide), sd_ne (show 2 ≠ 6 by decide), sd_ne (show 2 ≠ 7 by decide), sd_ne (show 2 ≠ 8 by decide), sd_ne (show 2 ≠ 10 by decide)] <;> rfl
        · -- 3
          have d2 : l.getD 2 false = true := by have := hdep; simp [Region.binds] at this; simp [this]
          clear hdep hoff
          refine wpOp_step rfl (fun K hK => ?_)
          simp only [sd_on d2]
          go_simp
          refine (toRef_any rc rg W).mono ?_
          rintro e W1 ⟨rfl, b1⟩
          refine hK _ _ ⟨by simp [hsz], g1, Z, a1, cap1, x0, x1, x2, x3, x4, x5, x6, x7, x8, x10, ?_, (F.more b1).plain 3 (by decide) (by decide) (by decide) (by decide) (by decide) (by decide)⟩
          simp only [sd_self (show 3 < l.size by omega), sd_ne (show 3 ≠ 0 by decide), sd_ne (show 3 ≠ 1 by decide), sd_ne (show 3 ≠ 2 by decide), sd_ne (show 3 ≠ 4 by decide), sd_ne (show 3 ≠ 5 by decide), sd_ne (show 3 ≠ 6 by decide), sd_ne (show 3 ≠ 7 by decide), sd_ne (show 3 ≠ 8 by decide), sd_ne (show 3 ≠ 10 by decide), sd_on d2] <;> rfl
        · -- 4
          obtain ⟨d1, d3⟩ : l.getD 1 false = true ∧ l.getD 3 false = true := by have := hdep; simp [Region.binds] at this; simp [this]
          clear hdep hoff
          refine wpOp_step rfl (fun K hK => ?_)
          simp only [sd_on d1, sd_on d3]
          go_simp
          refine (SP.out g1 _ W (F.c d1)).mono ?_
          rintro e W1 ⟨v1, rfl, o1, b1⟩
          obtain ⟨a', A', cap', rfl, _⟩ := form_any o1
          refine hK _ _ ⟨by simp [hsz], g1, Z, a', cap', x0, x1, x2, x3, x4, x5, x6, x7, x8, x10, ?_, F.told b1 o1 hio (by omega) (by decide) (by decide) (by decide)⟩
          have hl5 := F.off1 hio
          have hl6 := F.off2 hio
          simp only [sd_self (show 4 < l.size by omega), sd_ne (show 4 ≠ 0 by decide), sd_ne (show 4 ≠ 1 by decide), sd_ne (show 4 ≠ 2 by decide), sd_ne (show 4 ≠ 3 by decide), sd_ne (show 4 ≠ 5 by decide), sd_ne (show 4 ≠ 6 by decide), sd_ne (show 4 ≠ 7 by decide), sd_ne (show 4 ≠ 8 by decide), sd_ne (show 4 ≠ 10 by decide), sd_on d1, sd_on d3, sd_off hl5, sd_off hl6] <;> rfl
        · -- 5
          have d4 : l.getD 4 false = true := by have := hdep; simp [Region.binds] at this; simp [this]
          clear hdep hoff
          refine wpOp_step rfl (fun K hK => ?_)
          simp only [sd_on d4]
          go_simp
          refine hK _ _ ⟨by simp [hsz], g1, Z, a1, cap1, x0, x1, x2, x3, x4, x5, x6, x7, x8, x10, ?_, F.moved 5 d4 (by decide) (by decide) (by decide) (by decide)⟩
          simp only [sd_self (show 5 < l.size by omega), sd_ne (show 5 ≠ 0 by decide), sd_ne (show 5 ≠ 1 by decide), sd_ne (show 5 ≠ 2 by decide), sd_ne (show 5 ≠ 3 by decide), sd_ne (show 5 ≠ 4 by decide), sd_ne (show 5 ≠ 6 by decide), sd_ne (show 5 ≠ 7 by decide), sd_ne (show 5 ≠ 8 by decide), sd_ne (show 5 ≠ 10 by decide), sd_on d4] <;> rfl
        · -- 6
          have d5 : l.getD 5 false = true := by have := hdep; simp [Region.binds] at this; simp [this]
          clear hdep hoff
          refine wpOp_step rfl (fun K hK => ?_)
          simp only [sd_on d5]
          go_simp
          refine hK _ _ ⟨by simp [hsz], g1, Z, a1, cap1, x0, x1, x2, x3, x4, x5, x6, x7, x8, x10, ?_, F.moved 6 (F.o1 d5) (by decide) (by decide) (by decide) (by decide)⟩
          simp only [sd_self (show 6 < l.size by omega), sd_ne (show 6 ≠ 0 by decide), sd_ne (show 6 ≠ 1 by decide), sd_ne (show 6 ≠ 2 by decide), sd_ne (show 6 ≠ 3 by decide), sd_ne (show 6 ≠ 4 by decide), sd_ne (show 6 ≠ 5 by decide), sd_ne (show 6 ≠ 7 by decide), sd_ne (show 6 ≠ 8 by decide), sd_ne (show 6 ≠ 10 by decide), sd_on d5] <;> rfl
        · -- 7
          have d5 : l.getD 5 false = true := by have := hdep; simp [Region.binds] at this; simp [this]
          clear hdep hoff
          refine wpOp_step rfl (fun K hK => ?_)
          simp only [sd_on d5]
          go_simp
          refine hK _ _ ⟨by simp [hsz], g1, Z, a1, cap1, x0, x1, x2, x3, x4, x5, x6, x7, x8, x10, ?_, F.plain 7 (by decide) (by decide) (by decide) (by decide) (by decide) (by decide)⟩
          simp only [sd_self (show 7 < l.size by omega), sd_ne (show 7 ≠ 0 by decide), sd_ne (show 7 ≠ 1 by decide), sd_ne (show 7 ≠ 2 by decide), sd_ne (show 7 ≠ 3 by decide), sd_ne (show 7 ≠ 4 by decide), sd_ne (show 7 ≠ 5 by decide), sd_ne (show 7 ≠ 6 by decide), sd_ne (show 7 ≠ 8 by decide), sd_ne (show 7 ≠ 10 by decide), sd_on d5] <;> rfl
        · -- 8
          clear hdep hoff
          refine wpOp_step rfl (fun K hK => ?_)
          go_simp
          refine hK _ _ ⟨by simp [hsz], g1, W.heap.size, a1, cap1, x0, x1, x2, x3, x4, x5, x6, x7, x8, x10, ?_, F.room hio (by decide) (by decide) (by decide) (by decide) (by decide)⟩
          simp only [sd_self (show 8 < l.size by omega), sd_ne (show 8 ≠ 0 by decide), sd_ne (show 8 ≠ 1 by decide), sd_ne (show 8 ≠ 2 by decide), sd_ne (show 8 ≠ 3 by decide), sd_ne (show 8 ≠ 4 by decide), sd_ne (show 8 ≠ 5 by decide), sd_ne (show 8 ≠ 6 by decide), sd_ne (show 8 ≠ 7 by decide), sd_ne (show 8 ≠ 10 by decide)] <;> rfl
        · -- 9
          obtain ⟨d6, d8, d4⟩ : l.getD 6 false = true ∧ l.getD 8 false = true ∧ l.getD 4 false = true := by have := hdep; simp [Region.binds] at this; simp [this]
          clear hdep hoff
          refine wpOp_step rfl (fun K hK => ?_)
          simp only [sd_on d6, sd_on d8]
          obtain ⟨hz, hZ⟩ := F.z d8 hio
          have hz0 := (two_at hz).1
          have hz1 := (two_at hz).2
          have fz0 := hz.frozen 0
          have fz1 := hz.frozen 1
          go_simp
          refine hK _ _ ⟨by simp [hsz], g1, Z, a1, cap1, x0, x1, x2, x3, x4, x5, x6, x7, x8, x10, ?_, F.stored d4 d8 hio (by omega) (by decide) (by decide) (by decide)⟩
          simp only [sd_ne (show 9 ≠ 0 by decide), sd_ne (show 9 ≠ 1 by decide), sd_ne (show 9 ≠ 2 by decide), sd_ne (show 9 ≠ 3 by decide), sd_ne (show 9 ≠ 4 by decide), sd_ne (show 9 ≠ 5 by decide), sd_ne (show 9 ≠ 6 by decide), sd_ne (show 9 ≠ 7 by decide), sd_ne (show 9 ≠ 8 by decide), sd_ne (show 9 ≠ 10 by decide), sd_on d6, sd_on d8] <;> rfl
        · -- 10
          have d7 : l.getD 7 false = true := by have := hdep; simp [Region.binds] at this; simp [this]
          clear hdep hoff
          refine wpOp_step rfl (fun K hK => ?_)
          simp only [sd_on d7]
          go_simp
          refine hK _ _ ⟨by simp [hsz], g1, Z, a1, cap1, x0, x1, x2, x3, x4, x5, x6, x7, x8, x10, ?_, F.plain 10 (by decide) (by decide) (by decide) (by decide) (by decide) (by decide)⟩
          simp only [sd_self (show 10 < l.size by omega), sd_ne (show 10 ≠ 0 by decide), sd_ne (show 10 ≠ 1 by decide), sd_ne (show 10 ≠ 2 by decide), sd_ne (show 10 ≠ 3 by decide), sd_ne (show 10 ≠ 4 by decide), sd_ne (show 10 ≠ 5 by decide), sd_ne (show 10 ≠ 6 by decide), sd_ne (show 10 ≠ 7 by decide), sd_ne (show 10 ≠ 8 by decide), sd_on d7] <;> rfl
      case hdone =>
        rintro l a' W ⟨hsz, g1, Z, a1, cap1, x0, x1, x2, x3, x4, x5, x6, x7, x8, x10, rfl, F⟩ hall0
        have hall : ∀ j, j < 11 → l.getD j false = true := fun j hj => on_of (hall0 j hj) (by omega)
        simp only [List.setIfInBounds_toArray, List.set_cons_zero, List.set_cons_succ, sd_on (hall 0 (by omega)), sd_on (hall 1 (by omega)), sd_on (hall 2 (by omega)), sd_on (hall 3 (by omega)), sd_on (hall 4 (by omega)), sd_on (hall 5 (by omega)), sd_on (hall 6 (by omega)), sd_on (hall 7 (by omega)), sd_on (hall 8 (by omega)), sd_on (hall 10 (by omega))]
        have hst := F.st (hall 9 (by omega))
        have hown := F.r (hall 4 (by omega))
        have hbl := F.below
        clear F hall hall0 hsz
        go_wp2_with fail
        go_meet
        case rel => exact ⟨Z, a1, cap1, rfl, rfl, hst.2, hst.1, hown, hbl⟩
    case rest =>
      obtain ⟨B6, a0, cap0, rfl, rfl, hB6, q6, o5, b4⟩ := hcut
      have bb5 := bb2.trans (b4.mono bb2.size)
      have r5 := row_next r2 b4
      have r5' := row_next r2' b4
      have h5 := cells_below h2 b4
      clear c0 c1 d0 d1 r2 r2' h2 b4
      generalize wc = w5 at *
      obtain ⟨c0, c1⟩ := two_at r5
      go_wp2_with fail
      -- the program's answer
      refine (toHeapO_any s a b off n c L w5 h5 hnz).mono ?_
      rintro e w6 ⟨g2, rfl, o6, b6⟩
      have s6 := b6.size
      have bb6 := bb5.trans (b6.mono bb5.size)
      have bX : Below w6.heap.size w6 (w6.alloc (.cells #[.string s, .slice (some ⟨g2, 0, none⟩) n n] 24)) := (Below.refl _ w6).alloc (Nat.le_refl _) _
      have q9 := RowAt.new w6 24 #[.string s, .slice (some ⟨g2, 0, none⟩) n n]
      have o7 := owns_below o6 bX
      have z7 := owns_below (owns_below o5 b6) bX
      have q6b := row_next (row_next q6 b6) bX
      have r7 := row_next (row_next r5 b6) bX
      have r7' := row_next (row_next r5' b6) bX
      have h7 := cells_below (cells_below h5 b6) bX
      have bb7 := bb6.trans (bX.mono bb6.size)
      have apZY := own_apart o5 o6 (Nat.le_refl _)
      clear c0 c1 o5 o6 q6 r5 r5' h5
      obtain ⟨k0, k1⟩ := two_at q9
      obtain ⟨d0, d1⟩ := two_at r7'
      have lw9 := q9.lt
      have lw1' := r7'.lt
      go_wp2_with fail
      generalize hB9 : w6.heap.size = B9 at *
      generalize w6.alloc (.cells #[.string s, .slice (some ⟨g2, 0, none⟩) n n] 24) = w7 at *
      clear lw1
      have lw1 := lw1'
      go_cut [9, 10] (fun x y wx => ∃ Z a1 cap1, x = .pointer (some ⟨Z, 0, none⟩) ∧ y = .bool OK ∧ w7.heap.size ≤ Z ∧ RowAt wx Z 24 #[.string DD, .slice a1 M.length cap1] ∧ wx.ownsRow w7.heap.size 64 4 (.slice a1 M.length cap1) M.length (flatC M) ∧ Below w7.heap.size w7 wx)
      case first =>
        clear SP
        refine wp_region_inv_at (fun a0 l a' W => l.size = 10 ∧ ∃ g1 Z a1 cap1 x0 x1 x2 x3 x4 x5 x6 x7 x9, a' = { tmps := (((((((((a0.tmps.setIfInBounds 32 (sd l 0 (.agg #[.string s, .slice (some ⟨g2, 0, none⟩) n n]) x0)).setIfInBounds 33 (sd l 1 (.agg #[.int .i64 rc, .int .i64 rg]) x1)).setIfInBounds 34 (sd l 2 (.agg #[.int .i64 rc, .int .i64 rg]) x2)).setIfInBounds 35 (sd l 3 (.tuple #[.agg #[.string DD, .slice a1 M.length cap1], .bool OK]) x3)).setIfInBounds 31 (sd l 4 (.tuple #[.agg #[.string DD, .slice a1 M.length cap1], .bool OK]) x4)).setIfInBounds 36 (sd l 5 (.agg #[.string DD, .slice a1 M.length cap1]) x5)).setIfInBounds 37 (sd l 6 (.bool OK) x6)).setIfInBounds 9 (sd l 7 (.pointer (some ⟨Z, 0, none⟩)) x7)).setIfInBounds 10 (sd l 9 (.bool OK) x9)), defers := a0.defers } ∧ CallF w7 n L M DD 99 3 7 8 l g1 Z a1 cap1 W) (by kernel_rfl) ?h0 ?hstep (by kernel_rfl) ?hdone
        case h0 =>
          refine ⟨rfl, 0, 0, none, 0, ?yw70, ?yw71, ?yw72, ?yw73, ?yw74, ?yw75, ?yw76, ?yw77, ?yw79, ?eqw7, ⟨(Below.refl _ w7).drew, ?_, ?_, ?_, ?_, ?_, ?_, ?_, ?_⟩⟩
          case eqw7 => simp only [List.setIfInBounds_toArray, List.set_cons_zero, List.set_cons_succ, sd_rep]; rfl
          all_goals (intro h; cases h)
        case hstep =>
          rintro l a' W i ⟨hsz, g1, Z, a1, cap1, x0, x1, x2, x3, x4, x5, x6, x7, x9, rfl, F⟩ hi
          simp only [List.setIfInBounds_toArray, List.set_cons_zero, List.set_cons_succ]
          obtain ⟨hlt, hoff, hdep⟩ := ready_mem hi
          have hio := off_of hoff
          have k0' := (F.below.cell (p := ⟨B9, 0, none⟩) lw9).trans k0
          have k1' := (F.below.cell (p := ⟨B9, 1, none⟩) lw9).trans k1
          have d0' := (F.below.cell (p := ⟨w.heap.size + 1, 0, none⟩) lw1).trans d0
          have d1' := (F.below.cell (p := ⟨w.heap.size + 1, 1, none⟩) lw1).trans d1
          have hin : i < 10 := hlt
          clear hi hlt
          have hcase : i = 0 ∨ i = 1 ∨ i = 2 ∨ i = 3 ∨ i = 4 ∨ i = 5 ∨ i = 6 ∨ i = 7 ∨ i = 8 ∨ i = 9 := by omega
          clear hin
          rcases hcase with rfl | rfl | rfl | rfl | rfl | rfl | rfl | rfl | rfl | rfl
          · -- 0
            clear hdep hoff
            refine wpOp_step rfl (fun K hK => ?_)
            go_simp
            refine hK _ _ ⟨by simp [hsz], g1, Z, a1, cap1, x0, x1, x2, x3, x4, x5, x6, x7, x9, ?_, F.plain 0 (by decide) (by decide) (by decide) (by decide) (by decide) (by decide)⟩
            simp only [sd_self (show 0 < l.size by omega), sd_ne (show 0 ≠ 1 by decide), sd_ne (show 0 ≠ 2 by decide), sd_ne (show 0 ≠ 3 by decide), sd_ne (show 0 ≠ 4 by decide), sd_ne (show 0 ≠ 5 by decide), sd_ne (show 0 ≠ 6 by decide), sd_ne (show 0 ≠ 7 by decide), sd_ne (show 0 ≠ 9 by decide)] <;> rfl
          · -- 1
            clear hdep hoff
            refine wpOp_step rfl (fun K hK => ?_)
            go_simp
            refine hK _ _ ⟨by simp [hsz], g1, Z, a1, cap1, x0, x1, x2, x3, x4, x5, x6, x7, x9, ?_, F.plain 1 (by decide) (by decide) (by decide) (by decide) (by decide) (by decide)⟩
            simp only [sd_self (show 1 < l.size by omega), sd_ne (show 1 ≠ 0 by decide), sd_ne (show 1 ≠ 2 by decide), sd_ne (show 1 ≠ 3 by decide), sd_ne (show 1 ≠ 4 by decide), sd_ne (show 1 ≠ 5 by decide), sd_ne (show 1 ≠ 6 by decide), sd_ne (show 1 ≠ 7 by decide), sd_ne (show 1 ≠ 9 by decide)] <;> rfl
          · -- 2
            have d1 : l.getD 1 false = true := by have := hdep; simp [Region.binds] at this; simp [this]
            clear hdep hoff
            refine wpOp_step rfl (fun K hK => ?_)
            simp only [sd_on d1]
            go_simp
            refine (toRef_any rc rg W).mono ?_
            rintro e W1 ⟨rfl, b1⟩
            refine hK _ _ ⟨by simp [hsz], g1, Z, a1, cap1, x0, x1, x2, x3, x4, x5, x6, x7, x9, ?_, (F.more b1).plain 2 (by decide) (by decide) (by decide) (by decide) (by decide) (by decide)⟩
            simp only [sd_self (show 2 < l.size by omega), sd_ne (show 2 ≠ 0 by decide), sd_ne (show 2 ≠ 1 by decide), sd_ne (show 2 ≠ 3 by decide), sd_ne (show 2 ≠ 4 by decide), sd_ne (show 2 ≠ 5 by decide), sd_ne (show 2 ≠ 6 by decide), sd_ne (show 2 ≠ 7 by decide), sd_ne (show 2 ≠ 9 by decide), sd_on d1] <;> rfl
          · -- 3
            obtain ⟨d0, d2⟩ : l.getD 0 false = true ∧ l.getD 2 false = true := by have := hdep; simp [Region.binds] at this; simp [this]
            clear hdep hoff
            refine wpOp_step rfl (fun K hK => ?_)
            simp only [sd_on d0, sd_on d2]
            go_simp
            refine (IP.out g2 _ W (owns_below o7 F.below)).mono ?_
            rintro e W1 ⟨v1, rfl, o1, b1⟩
            obtain ⟨a', A', cap', rfl, _⟩ := form_any o1
            refine hK _ _ ⟨by simp [hsz], g1, Z, a', cap', x0, x1, x2, x3, x4, x5, x6, x7, x9, ?_, F.told b1 o1 hio (by omega) (by decide) (by decide) (by decide)⟩
            have hl5 := F.off1 hio
            have hl6 := F.off2 hio
            simp only [sd_self (show 3 < l.size by omega), sd_ne (show 3 ≠ 0 by decide), sd_ne (show 3 ≠ 1 by decide), sd_ne (show 3 ≠ 2 by decide), sd_ne (show 3 ≠ 4 by decide), sd_ne (show 3 ≠ 5 by decide), sd_ne (show 3 ≠ 6 by decide), sd_ne (show 3 ≠ 7 by decide), sd_ne (show 3 ≠ 9 by decide), sd_on d0, sd_on d2, sd_off hl5, sd_off hl6] <;> rfl
          · -- 4
            have d3 : l.getD 3 false = true := by have := hdep; simp [Region.binds] at this; simp [this]
            clear hdep hoff
            refine wpOp_step rfl (fun K hK => ?_)
            simp only [sd_on d3]
            go_simp
            refine hK _ _ ⟨by simp [hsz], g1, Z, a1, cap1, x0, x1, x2, x3, x4, x5, x6, x7, x9, ?_, F.moved 4 d3 (by decide) (by decide) (by decide) (by decide)⟩
            simp only [sd_self (show 4 < l.size by omega), sd_ne (show 4 ≠ 0 by decide), sd_ne (show 4 ≠ 1 by decide), sd_ne (show 4 ≠ 2 by decide), sd_ne (show 4 ≠ 3 by decide), sd_ne (show 4 ≠ 5 by decide), sd_ne (show 4 ≠ 6 by decide), sd_ne (show 4 ≠ 7 by decide), sd_ne (show 4 ≠ 9 by decide), sd_on d3] <;> rfl
          · -- 5
            have d4 : l.getD 4 false = true := by have := hdep; simp [Region.binds] at this; simp [this]
            clear hdep hoff
            refine wpOp_step rfl (fun K hK => ?_)
            simp only [sd_on d4]
            go_simp
            refine hK _ _ ⟨by simp [hsz], g1, Z, a1, cap1, x0, x1, x2, x3, x4, x5, x6, x7, x9, ?_, F.moved 5 (F.o1 d4) (by decide) (by decide) (by decide) (by decide)⟩
            simp only [sd_self (show 5 < l.size by omega), sd_ne (show 5 ≠ 0 by decide), sd_ne (show 5 ≠ 1 by decide), sd_ne (show 5 ≠ 2 by decide), sd_ne (show 5 ≠ 3 by decide), sd_ne (show 5 ≠ 4 by decide), sd_ne (show 5 ≠ 6 by decide), sd_ne (show 5 ≠ 7 by decide), sd_ne (show 5 ≠ 9 by decide), sd_on d4] <;> rfl
          · -- 6
            have d4 : l.getD 4 false = true := by have := hdep; simp [Region.binds] at this; simp [this]
            clear hdep hoff
            refine wpOp_step rfl (fun K hK => ?_)
            simp only [sd_on d4]
            go_simp
            refine hK _ _ ⟨by simp [hsz], g1, Z, a1, cap1, x0, x1, x2, x3, x4, x5, x6, x7, x9, ?_, F.plain 6 (by decide) (by decide) (by decide) (by decide) (by decide) (by decide)⟩
            simp only [sd_self (show 6 < l.size by omega), sd_ne (show 6 ≠ 0 by decide), sd_ne (show 6 ≠ 1 by decide), sd_ne (show 6 ≠ 2 by decide), sd_ne (show 6 ≠ 3 by decide), sd_ne (show 6 ≠ 4 by decide), sd_ne (show 6 ≠ 5 by decide), sd_ne (show 6 ≠ 7 by decide), sd_ne (show 6 ≠ 9 by decide), sd_on d4] <;> rfl
          · -- 7
            clear hdep hoff
            refine wpOp_step rfl (fun K hK => ?_)
            go_simp
            refine hK _ _ ⟨by simp [hsz], g1, W.heap.size, a1, cap1, x0, x1, x2, x3, x4, x5, x6, x7, x9, ?_, F.room hio (by decide) (by decide) (by decide) (by decide) (by decide)⟩
            simp only [sd_self (show 7 < l.size by omega), sd_ne (show 7 ≠ 0 by decide), sd_ne (show 7 ≠ 1 by decide), sd_ne (show 7 ≠ 2 by decide), sd_ne (show 7 ≠ 3 by decide), sd_ne (show 7 ≠ 4 by decide), sd_ne (show 7 ≠ 5 by decide), sd_ne (show 7 ≠ 6 by decide), sd_ne (show 7 ≠ 9 by decide)] <;> rfl
          · -- 8
            obtain ⟨d5, d7, d3⟩ : l.getD 5 false = true ∧ l.getD 7 false = true ∧ l.getD 3 false = true := by have := hdep; simp [Region.binds] at this; simp [this]
            clear hdep hoff
            refine wpOp_step rfl (fun K hK => ?_)
            simp only [sd_on d5, sd_on d7]
            obtain ⟨hz, hZ⟩ := F.z d7 hio
            have hz0 := (two_at hz).1
            have hz1 := (two_at hz).2
            have fz0 := hz.frozen 0
            have fz1 := hz.frozen 1
            go_simp
            refine hK _ _ ⟨by simp [hsz], g1, Z, a1, cap1, x0, x1, x2, x3, x4, x5, x6, x7, x9, ?_, F.stored d3 d7 hio (by omega) (by decide) (by decide) (by decide)⟩
            simp only [sd_ne (show 8 ≠ 0 by decide), sd_ne (show 8 ≠ 1 by decide), sd_ne (show 8 ≠ 2 by decide), sd_ne (show 8 ≠ 3 by decide), sd_ne (show 8 ≠ 4 by decide), sd_ne (show 8 ≠ 5 by decide), sd_ne (show 8 ≠ 6 by decide), sd_ne (show 8 ≠ 7 by decide), sd_ne (show 8 ≠ 9 by decide), sd_on d5, sd_on d7] <;> rfl
          · -- 9
            have d6 : l.getD 6 false = true := by have := hdep; simp [Region.binds] at this; simp [this]
            clear hdep hoff
            refine wpOp_step rfl (fun K hK => ?_)
            simp only [sd_on d6]
            go_simp
            refine hK _ _ ⟨by simp [hsz], g1, Z, a1, cap1, x0, x1, x2, x3, x4, x5, x6, x7, x9, ?_, F.plain 9 (by decide) (by decide) (by decide) (by decide) (by decide) (by decide)⟩
            simp only [sd_self (show 9 < l.size by omega), sd_ne (show 9 ≠ 0 by decide), sd_ne (show 9 ≠ 1 by decide), sd_ne (show 9 ≠ 2 by decide), sd_ne (show 9 ≠ 3 by decide), sd_ne (show 9 ≠ 4 by decide), sd_ne (show 9 ≠ 5 by decide), sd_ne (show 9 ≠ 6 by decide), sd_ne (show 9 ≠ 7 by decide), sd_on d6] <;> rfl
        case hdone =>
          rintro l a' W ⟨hsz, g1, Z, a1, cap1, x0, x1, x2, x3, x4, x5, x6, x7, x9, rfl, F⟩ hall0
          have hall : ∀ j, j < 10 → l.getD j false = true := fun j hj => on_of (hall0 j hj) (by omega)
          simp only [List.setIfInBounds_toArray, List.set_cons_zero, List.set_cons_succ, sd_on (hall 0 (by omega)), sd_on (hall 1 (by omega)), sd_on (hall 2 (by omega)), sd_on (hall 3 (by omega)), sd_on (hall 4 (by omega)), sd_on (hall 5 (by omega)), sd_on (hall 6 (by omega)), sd_on (hall 7 (by omega)), sd_on (hall 9 (by omega))]
          have hst := F.st (hall 8 (by omega))
          have hown := F.r (hall 3 (by omega))
          have hbl := F.below
          clear F hall hall0 hsz
          go_wp2_with fail
          go_meet
          case rel => exact ⟨Z, a1, cap1, rfl, rfl, hst.2, hst.1, hown, hbl⟩
      case rest =>
        obtain ⟨BA, a1, cap1, rfl, rfl, hBA, qA, g9, b8⟩ := hcut
        have bb9 := bb7.trans (b8.mono bb7.size)
        have y9 := owns_below o7 b8
        have z9 := owns_below z7 b8
        have q9b := row_next q9 b8
        have q6c := row_next q6b b8
        have r9 := row_next r7 b8
        have r9' := row_next r7' b8
        have h9 := cells_below h7 b8
        have apGY : Value.ownBlock (.slice a1 M.length cap1) ≠ Value.ownBlock (.slice (some ⟨g2, 0, none⟩) n n) := by
          rcases own_apart o7 g9 (Nat.le_refl _) with h | h
          · cases h
          · exact h.symm
        have apZG := own_apart z7 g9 (Nat.le_refl _)
        clear k0 k1 d0 d1 o7 z7 q9 q6b r7 r7' h7 b8
        generalize wc = w9 at *
        obtain ⟨k0, k1⟩ := two_at qA
        obtain ⟨k2, k3⟩ := two_at q6c
        have hne : decide (OK ≠ OK) = false := by simp
        have hne2 : (OK != OK) = false := by simp
        go_wp2_with fail
        refine (eqHeapV DD _ _ _ _ M.length M w9 g9 z9 hmz).mono ?_
        rintro e w11 ⟨rfl, b911⟩
        have s11 := b911.size
        have bbB := bb9.trans (b911.mono bb9.size)
        have yB := owns_below y9 b911
        have zB := owns_below z9 b911
        have gB := owns_below g9 b911
        have t9 := row_next q9b b911
        have t6 := row_next q6c b911
        have tA := row_next qA b911
        have rB := row_next r9 b911
        have rB' := row_next r9' b911
        have hB := cells_below h9 b911
        clear k0 k1 k2 k3 y9 z9 g9 q9b q6c qA r9 r9' h9
        obtain ⟨k0, k1⟩ := two_at t9
        obtain ⟨c0, c1⟩ := two_at rB
        go_upto_region 10 with fail
        go_cut [51] (fun v wx => v = .bool false ∧ Below w11.heap.size w11 wx)
        case first =>
          have bd : Below w11.heap.size w11 w11.drew := below_drewN w11 1
          have hd := cells_below hB bd
          go_region_with (first
            | (go_at_call 18; refine (toHeapO_any s a b off n c L _ hd hnz).mono ?_; rintro e w12 ⟨g3, rfl, o12, b12⟩; have b112 : Below w11.heap.size w11 w12 := bd.trans b12; have s112 := b112.size; have k2 := (two_at (row_next t9 b112)).1; have k3 := (two_at (row_next t9 b112)).2; have y12 := owns_below yB b112)
            | (go_at_call 13; refine (eqHeapV s _ _ _ _ n L _ y12 o12 hnz).mono ?_; rintro e w13 ⟨rfl, b13⟩; have b113 := b112.trans (b13.mono s112)))
          all_goals
            go_wp2_with fail
            go_meet
            case rel => exact ⟨rfl, b113⟩
        case rest =>
          obtain ⟨rfl, bC⟩ := hcut
          have bbC := bbB.trans (bC.mono bbB.size)
          have yC := owns_below yB bC
          have zC := owns_below zB bC
          have gC := owns_below gB bC
          have u9 := row_next t9 bC
          have u6 := row_next t6 bC
          have uA := row_next tA bC
          have rC := row_next rB bC
          have rC' := row_next rB' bC
          have hC := cells_below hB bC
          clear k0 k1 c0 c1
          obtain ⟨k0, k1⟩ := two_at u9
          go_wp2_with fail
          -- the copy that was handed in is marked: nothing of the answer is there
          refine (markHeapV s _ _ n L wc yC hnz).mono ?_
          rintro e wD ⟨rfl, yD, gD⟩
          have zD := zC.kept gD apZY
          have gvD := gC.kept gD (.inr apGY)
          have v6 := kept_row u6 yC gD (by decide)
          have vA := kept_row uA yC gD (by decide)
          have rD := kept_row rC yC gD (by decide)
          have rD' := kept_row rC' yC gD (by decide)
          have hD := kept_cells hC gD (fun y hy h0 => by have := (yC.lt y hy).1; have := h.low h0; have := bb5.size; omega)
          have bbD : Below w.heap.size w wD := below_grown bbC gD (fun y hy => by have := (yC.lt y hy).1; have := bb5.size; omega) bbC.size
          clear k0 k1 yD yC zC gC u6 uA rC rC' hC gD u9
          obtain ⟨k0, k1⟩ := two_at vA
          obtain ⟨k2, k3⟩ := two_at v6
          have hk1 : ¬ ((1 + 4 * n : Nat) : Int) < 0 := by omega
          generalize hQ : ((1 + 4 * n : Nat) : Int) = Q1 at *
          have dk1 : decide (Q1 < 0) = false := decide_eq_false hk1
          clear hQ
          go_wp2_with fail
          refine (eqHeapV DD _ _ _ _ M.length M wD gvD zD hmz).mono ?_
          rintro e wF ⟨rfl, bDF⟩
          have bbF := bbD.trans (bDF.mono bbD.size)
          have zF := owns_below zD bDF
          have gF := owns_below gvD bDF
          have x6 := row_next v6 bDF
          have xA := row_next vA bDF
          have rF := row_next rD bDF
          have rF' := row_next rD' bDF
          have hF := cells_below hD bDF
          clear k0 k1 k2 k3 zD gvD v6 vA rD rD' hD
          obtain ⟨k0, k1⟩ := two_at xA
          go_wp2_with fail
          -- the answer is marked, and held
          refine (markHeapV DD _ _ M.length M wF gF hmz).mono ?_
          rintro e wG ⟨rfl, gG, grG⟩
          have hk2 : ¬ ((1 + 4 * M.length : Nat) : Int) < 0 := by omega
          have HQ : Hid (∃ Q2 : Int, ((1 + 4 * M.length : Nat) : Int) = Q2) := ⟨_, rfl⟩
          obtain ⟨Q2, hQ2⟩ := HQ.out
          have HQ2 : Hid (((1 + 4 * M.length : Nat) : Int) = Q2) := hQ2
          rw [hQ2] at hk2 ⊢
          have dk2 : decide (Q2 < 0) = false := decide_eq_false hk2
          have dk3 : (Q2 != Q2) = false := by simp
          clear hQ2 HQ
          have zG := zF.kept grG apZG
          have y6 := kept_row x6 gF grG (by decide)
          have yA := kept_row xA gF grG (by decide)
          have rG := kept_row rF gF grG (by decide)
          have rG' := kept_row rF' gF grG (by decide)
          have hG := kept_cells hF grG (fun y hy h0 => by have := (gF.lt y hy).1; have := h.low h0; have := bb7.size; omega)
          have bbG : Below w.heap.size w wG := below_grown bbF grG (fun y hy => by have := (gF.lt y hy).1; have := bb7.size; omega) bbF.size
          clear k0 k1 zF gF x6 xA rF rF' hF grG
          obtain ⟨k0, k1⟩ := two_at yA
          go_wp2_with fail
          refine (heldHeapV DD _ _ M.length wG gG hmz).mono ?_
          rintro e wH ⟨rfl, bH⟩
          have bbH := bbG.trans (bH.mono bbG.size)
          have zH := owns_below zG bH
          have gH := owns_below gG bH
          have i6 := row_next y6 bH
          have iA := row_next yA bH
          have rH := row_next rG bH
          have rH' := row_next rG' bH
          have hH := cells_below hG bH
          clear k0 k1 zG gG y6 yA rG rG' hG
          obtain ⟨c0, c1⟩ := two_at rH
          obtain ⟨d0, d1⟩ := two_at rH'
          clear lw0 lw1
          have lw0 := rH.lt
          have lw1 := rH'.lt
          rw [HQ2.out]
          go_upto_region 24 with fail
          -- another call
          go_cut [14, 15] (fun x y wx => ∃ Z a1 cap1, x = .pointer (some ⟨Z, 0, none⟩) ∧ y = .bool OK ∧ wH.heap.size ≤ Z ∧ RowAt wx Z 24 #[.string DD, .slice a1 M.length cap1] ∧ wx.ownsRow wH.heap.size 64 4 (.slice a1 M.length cap1) M.length (flatC M) ∧ Below wH.heap.size wH wx)
          case first =>
            clear SP
            refine wp_region_inv_at (fun a0 l a' W => l.size = 11 ∧ ∃ g1 Z a1 cap1 x0 x1 x2 x3 x4 x5 x6 x7 x8 x10, a' = { tmps := ((((((((((a0.tmps.setIfInBounds 80 (sd l 0 (.agg #[.string s, .slice a n c]) x0)).setIfInBounds 81 (sd l 1 (.agg #[.string s, .slice (some ⟨g1, 0, none⟩) n n]) x1)).setIfInBounds 82 (sd l 2 (.agg #[.int .i64 rc, .int .i64 rg]) x2)).setIfInBounds 83 (sd l 3 (.agg #[.int .i64 rc, .int .i64 rg]) x3)).setIfInBounds 84 (sd l 4 (.tuple #[.agg #[.string DD, .slice a1 M.length cap1], .bool OK]) x4)).setIfInBounds 79 (sd l 5 (.tuple #[.agg #[.string DD, .slice a1 M.length cap1], .bool OK]) x5)).setIfInBounds 85 (sd l 6 (.agg #[.string DD, .slice a1 M.length cap1]) x6)).setIfInBounds 86 (sd l 7 (.bool OK) x7)).setIfInBounds 14 (sd l 8 (.pointer (some ⟨Z, 0, none⟩)) x8)).setIfInBounds 15 (sd l 10 (.bool OK) x10)), defers := a0.defers } ∧ CallF wH n L M DD 1 4 8 9 l g1 Z a1 cap1 W) (by kernel_rfl) ?h0 ?hstep (by kernel_rfl) ?hdone
            case h0 =>
              refine ⟨rfl, 0, 0, none, 0, ?ywH0, ?ywH1, ?ywH2, ?ywH3, ?ywH4, ?ywH5, ?ywH6, ?ywH7, ?ywH8, ?ywH10, ?eqwH, ⟨(Below.refl _ wH).drew, ?_, ?_, ?_, ?_, ?_, ?_, ?_, ?_⟩⟩
              case eqwH => simp only [List.setIfInBounds_toArray, List.set_cons_zero, List.set_cons_succ, sd_rep]; rfl
              all_goals (intro h; cases h)
            case hstep =>
              rintro l a' W i ⟨hsz, g1, Z, a1, cap1, x0, x1, x2, x3, x4, x5, x6, x7, x8, x10, rfl, F⟩ hi
              simp only [List.setIfInBounds_toArray, List.set_cons_zero, List.set_cons_succ]
              obtain ⟨hlt, hoff, hdep⟩ := ready_mem hi
              have hio := off_of hoff
              have c0' := (F.below.cell (p := ⟨w.heap.size, 0, none⟩) lw0).trans c0
              have c1' := (F.below.cell (p := ⟨w.heap.size, 1, none⟩) lw0).trans c1
              have d0' := (F.below.cell (p := ⟨w.heap.size + 1, 0, none⟩) lw1).trans d0
              have d1' := (F.below.cell (p := ⟨w.heap.size + 1, 1, none⟩) lw1).trans d1
              have hin : i < 11 := hlt
              clear hi hlt
              have hcase : i = 0 ∨ i = 1 ∨ i = 2 ∨ i = 3 ∨ i = 4 ∨ i = 5 ∨ i = 6 ∨ i = 7 ∨ i = 8 ∨ i = 9 ∨ i = 10 := by omega
              clear hin
              rcases hcase with rfl | rfl | rfl | rfl | rfl | rfl | rfl | rfl | rfl | rfl | rfl
              · -- 0
                clear hdep hoff
                refine wpOp_step rfl (fun K hK => ?_)
                go_simp
                refine hK _ _ ⟨by simp [hsz], g1, Z, a1, cap1, x0, x1, x2, x3, x4, x5, x6, x7, x8, x10, ?_, F.plain 0 (by decide) (by decide) (by decide) (by decide) (by decide) (by decide)⟩
                simp only [sd_self (show 0 < l.size by omega), sd_ne (show 0 ≠ 1 by decide), sd_ne (show 0 ≠ 2 by decide), sd_ne (show 0 ≠ 3 by decide), sd_ne (show 0 ≠ 4 by decide), sd_ne (show 0 ≠ 5 by decide), sd_ne (show 0 ≠ 6 by decide), sd_ne (show 0 ≠ 7 by decide), sd_ne (show 0 ≠ 8 by decide), sd_ne (show 0 ≠ 10 by decide)] <;> rfl
              · -- 1
                have d0 : l.getD 0 false = true := by have := hdep; simp [Region.binds] at this; simp [this]
                clear hdep hoff
                refine wpOp_step rfl (fun K hK => ?_)
                simp only [sd_on d0]
                go_simp
                refine (toHeapO_any s a b off n c L W (cells_below hH F.below) hnz).mono ?_
                rintro e W1 ⟨g', rfl, o1, b1⟩
                refine hK _ _ ⟨by simp [hsz], g', Z, a1, cap1, x0, x1, x2, x3, x4, x5, x6, x7, x8, x10, ?_, F.copied b1 o1 (by decide) (by decide) (by decide) (by decide) (by decide)⟩
                simp only [sd_self (show 1 < l.size by omega), sd_ne (show 1 ≠ 0 by decide), sd_ne (show 1 ≠ 2 by decide), sd_ne (show 1 ≠ 3 by decide), sd_ne (show 1 ≠ 4 by decide), sd_ne (show 1 ≠ 5 by decide), sd_ne (show 1 ≠ 6 by decide), sd_ne (show 1 ≠ 7 by decide), sd_ne (show 1 ≠ 8 by decide), sd_ne (show 1 ≠ 10 by decide), sd_on d0] <;> rfl
              · -- 2
                clear hdep hoff
                refine wpOp_step rfl (fun K hK => ?_)
                go_simp
                refine hK _ _ ⟨by simp [hsz], g1, Z, a1, cap1, x0, x1, x2, x3, x4, x5, x6, x7, x8, x10, ?_, F.plain 2 (by decide) (by decide) (by decide) (by decide) (by decide) (by decide)⟩
                simp only [sd_self (show 2 < l.size by omega), sd_ne (show 2 ≠ 0 by decide), sd_ne (show 2 ≠ 1 by decide), sd_ne (show 2 ≠ 3 by decide), sd_ne (show 2 ≠ 4 by decide), sd_ne (show 2 ≠ 5 by decide), sd_ne (show 2 ≠ 6 by decide), sd_ne (show 2 ≠ 7 by decide), sd_ne (show 2 ≠ 8 by decide), sd_ne (show 2 ≠ 10 by decide)] <;> rfl
              · -- 3
                have d2 : l.getD 2 false = true := by have := hdep; simp [Region.binds] at this; simp [this]
                clear hdep hoff
                refine wpOp_step rfl (fun K hK => ?_)
                simp only [sd_on d2]
                go_simp
                refine (toRef_any rc rg W).mono ?_
                rintro e W1 ⟨rfl, b1⟩
                refine hK _ _ ⟨by simp [hsz], g1, Z, a1, cap1, x0, x1, x2, x3, x4, x5, x6, x7, x8, x10, ?_, (F.more b1).plain 3 (by decide) (by decide) (by decide) (by decide) (by decide) (by decide)⟩
                simp only [sd_self (show 3 < l.size by omega), sd_ne (show 3 ≠ 0 by decide), sd_ne (show 3 ≠ 1 by decide), sd_ne (show 3 ≠ 2 by decide), sd_ne (show 3 ≠ 4 by decide), sd_ne (show 3 ≠ 5 by decide), sd_ne (show 3 ≠ 6 by decide), sd_ne (show 3 ≠ 7 by decide), sd_ne (show 3 ≠ 8 by decide), sd_ne (show 3 ≠ 10 by decide), sd_on d2] <;> rfl
              · -- 4
                obtain ⟨d1, d3⟩ : l.getD 1 false = true ∧ l.getD 3 false = true := by have := hdep; simp [Region.binds] at this; simp [this]
                clear hdep hoff
                refine wpOp_step rfl (fun K hK => ?_)
                simp only [sd_on d1, sd_on d3]
                go_simp
                refine (IP.out g1 _ W (F.c d1)).mono ?_
                rintro e W1 ⟨v1, rfl, o1, b1⟩
                obtain ⟨a', A', cap', rfl, _⟩ := form_any o1
                refine hK _ _ ⟨by simp [hsz], g1, Z, a', cap', x0, x1, x2, x3, x4, x5, x6, x7, x8, x10, ?_, F.told b1 o1 hio (by omega) (by decide) (by decide) (by decide)⟩
                have hl5 := F.off1 hio
                have hl6 := F.off2 hio
                simp only [sd_self (show 4 < l.size by omega), sd_ne (show 4 ≠ 0 by decide), sd_ne (show 4 ≠ 1 by decide), sd_ne (show 4 ≠ 2 by decide), sd_ne (show 4 ≠ 3 by decide), sd_ne (show 4 ≠ 5 by decide), sd_ne (show 4 ≠ 6 by decide), sd_ne (show 4 ≠ 7 by decide), sd_ne (show 4 ≠ 8 by decide), sd_ne (show 4 ≠ 10 by decide), sd_on d1, sd_on d3, sd_off hl5, sd_off hl6] <;> rfl
              · -- 5
                have d4 : l.getD 4 false = true := by have := hdep; simp [Region.binds] at this; simp [this]
                clear hdep hoff
                refine wpOp_step rfl (fun K hK => ?_)
                simp only [sd_on d4]
                go_simp
                refine hK _ _ ⟨by simp [hsz], g1, Z, a1, cap1, x0, x1, x2, x3, x4, x5, x6, x7, x8, x10, ?_, F.moved 5 d4 (by decide) (by decide) (by decide) (by decide)⟩
                simp only [sd_self (show 5 < l.size by omega), sd_ne (show 5 ≠ 0 by decide), sd_ne (show 5 ≠ 1 by decide), sd_ne (show 5 ≠ 2 by decide), sd_ne (show 5 ≠ 3 by decide), sd_ne (show 5 ≠ 4 by decide), sd_ne (show 5 ≠ 6 by decide), sd_ne (show 5 ≠ 7 by decide), sd_ne (show 5 ≠ 8 by decide), sd_ne (show 5 ≠ 10 by decide), sd_on d4] <;> rfl
              · -- 6
                have d5 : l.getD 5 false = true := by have := hdep; simp [Region.binds] at this; simp [this]
                clear hdep hoff
                refine wpOp_step rfl (fun K hK => ?_)
                simp only [sd_on d5]
                go_simp
                refine hK _ _ ⟨by simp [hsz], g1, Z, a1, cap1, x0, x1, x2, x3, x4, x5, x6, x7, x8, x10, ?_, F.moved 6 (F.o1 d5) (by decide) (by decide) (by decide) (by decide)⟩
                simp only [sd_self (show 6 < l.size by omega), sd_ne (show 6 ≠ 0 by decide), sd_ne (show 6 ≠ 1 by decide), sd_ne (show 6 ≠ 2 by decide), sd_ne (show 6 ≠ 3 by decide), sd_ne (show 6 ≠ 4 by decide), sd_ne (show 6 ≠ 5 by decide), sd_ne (show 6 ≠ 7 by decide), sd_ne (show 6 ≠ 8 by decide), sd_ne (show 6 ≠ 10 by decide), sd_on d5] <;> rfl
              · -- 7
                have d5 : l.getD 5 false = true := by have := hdep; simp [Region.binds] at this; simp [this]
                clear hdep hoff
                refine wpOp_step rfl (fun K hK => ?_)
                simp only [sd_on d5]
                go_simp
                refine hK _ _ ⟨by simp [hsz], g1, Z, a1, cap1, x0, x1, x2, x3, x4, x5, x6, x7, x8, x10, ?_, F.plain 7 (by decide) (by decide) (by decide) (by decide) (by decide) (by decide)⟩
                simp only [sd_self (show 7 < l.size by omega), sd_ne (show 7 ≠ 0 by decide), sd_ne (show 7 ≠ 1 by decide), sd_ne (show 7 ≠ 2 by decide), sd_ne (show 7 ≠ 3 by decide), sd_ne (show 7 ≠ 4 by decide), sd_ne (show 7 ≠ 5 by decide), sd_ne (show 7 ≠ 6 by decide), sd_ne (show 7 ≠ 8 by decide), sd_ne (show 7 ≠ 10 by decide), sd_on d5] <;> rfl
              · -- 8
                clear hdep hoff
                refine wpOp_step rfl (fun K hK => ?_)
                go_simp
                refine hK _ _ ⟨by simp [hsz], g1, W.heap.size, a1, cap1, x0, x1, x2, x3, x4, x5, x6, x7, x8, x10, ?_, F.room hio (by decide) (by decide) (by decide) (by decide) (by decide)⟩
                simp only [sd_self (show 8 < l.size by omega), sd_ne (show 8 ≠ 0 by decide), sd_ne (show 8 ≠ 1 by decide), sd_ne (show 8 ≠ 2 by decide), sd_ne (show 8 ≠ 3 by decide), sd_ne (show 8 ≠ 4 by decide), sd_ne (show 8 ≠ 5 by decide), sd_ne (show 8 ≠ 6 by decide), sd_ne (show 8 ≠ 7 by decide), sd_ne (show 8 ≠ 10 by decide)] <;> rfl
              · -- 9
                obtain ⟨d6, d8, d4⟩ : l.getD 6 false = true ∧ l.getD 8 false = true ∧ l.getD 4 false = true := by have := hdep; simp [Region.binds] at this; simp [this]
                clear hdep hoff
                refine wpOp_step rfl (fun K hK => ?_)
                simp only [sd_on d6, sd_on d8]
                obtain ⟨hz, hZ⟩ := F.z d8 hio
                have hz0 := (two_at hz).1
                have hz1 := (two_at hz).2
                have fz0 := hz.frozen 0
                have fz1 := hz.frozen 1
                go_simp
                refine hK _ _ ⟨by simp [hsz], g1, Z, a1, cap1, x0, x1, x2, x3, x4, x5, x6, x7, x8, x10, ?_, F.stored d4 d8 hio (by omega) (by decide) (by decide) (by decide)⟩
                simp only [sd_ne (show 9 ≠ 0 by decide), sd_ne (show 9 ≠ 1 by decide), sd_ne (show 9 ≠ 2 by decide), sd_ne (show 9 ≠ 3 by decide), sd_ne (show 9 ≠ 4 by decide), sd_ne (show 9 ≠ 5 by decide), sd_ne (show 9 ≠ 6 by decide), sd_ne (show 9 ≠ 7 by decide), sd_ne (show 9 ≠ 8 by decide), sd_ne (show 9 ≠ 10 by decide), sd_on d6, sd_on d8] <;> rfl
              · -- 10
                have d7 : l.getD 7 false = true := by have := hdep; simp [Region.binds] at this; simp [this]
                clear hdep hoff
                refine wpOp_step rfl (fun K hK => ?_)
                simp only [sd_on d7]
                go_simp
                refine hK _ _ ⟨by simp [hsz], g1, Z, a1, cap1, x0, x1, x2, x3, x4, x5, x6, x7, x8, x10, ?_, F.plain 10 (by decide) (by decide) (by decide) (by decide) (by decide) (by decide)⟩
                simp only [sd_self (show 10 < l.size by omega), sd_ne (show 10 ≠ 0 by decide), sd_ne (show 10 ≠ 1 by decide), sd_ne (show 10 ≠ 2 by decide), sd_ne (show 10 ≠ 3 by decide), sd_ne (show 10 ≠ 4 by decide), sd_ne (show 10 ≠ 5 by decide), sd_ne (show 10 ≠ 6 by decide), sd_ne (show 10 ≠ 7 by decide), sd_ne (show 10 ≠ 8 by decide), sd_on d7] <;> rfl
            case hdone =>
              rintro l a' W ⟨hsz, g1, Z, a1, cap1, x0, x1, x2, x3, x4, x5, x6, x7, x8, x10, rfl, F⟩ hall0
              have hall : ∀ j, j < 11 → l.getD j false = true := fun j hj => on_of (hall0 j hj) (by omega)
              simp only [List.setIfInBounds_toArray, List.set_cons_zero, List.set_cons_succ, sd_on (hall 0 (by omega)), sd_on (hall 1 (by omega)), sd_on (hall 2 (by omega)), sd_on (hall 3 (by omega)), sd_on (hall 4 (by omega)), sd_on (hall 5 (by omega)), sd_on (hall 6 (by omega)), sd_on (hall 7 (by omega)), sd_on (hall 8 (by omega)), sd_on (hall 10 (by omega))]
              have hst := F.st (hall 9 (by omega))
              have hown := F.r (hall 4 (by omega))
              have hbl := F.below
              clear F hall hall0 hsz
              go_wp2_with fail
              go_meet
              case rel => exact ⟨Z, a1, cap1, rfl, rfl, hst.2, hst.1, hown, hbl⟩
          case rest =>
            obtain ⟨BJ, a2, cap2, rfl, rfl, hBJ, jA, oK, bHK⟩ := hcut
            have bbK := bbH.trans (bHK.mono bbH.size)
            have zK := owns_below zH bHK
            have gK := owns_below gH bHK
            have j6 := row_next i6 bHK
            have jG := row_next iA bHK
            clear c0 c1 d0 d1 zH gH i6 iA rH rH' hH
            generalize wc = wK at *
            obtain ⟨k0, k1⟩ := two_at jA
            obtain ⟨k2, k3⟩ := two_at j6
            go_wp2_with fail
            refine (eqHeapV DD _ _ _ _ M.length M wK oK zK hmz).mono ?_
            rintro e wM ⟨rfl, bKM⟩
            have bbM := bbK.trans (bKM.mono bbK.size)
            have gM := owns_below gK bKM
            have pA := row_next jG bKM
            clear k0 k1 k2 k3
            obtain ⟨k0, k1⟩ := two_at pA
            go_wp2_with fail
            refine (heldHeapV DD _ _ M.length wM gM hmz).mono ?_
            rintro e wN ⟨rfl, bN⟩
            have bbN := bbM.trans (bN.mono bbM.size)
            rw [HQ2.out]
            clear k0 k1
            go_wp2
            go_ret
            exact ⟨rfl, bbN⟩
end Go.Proofs.Ytobpilhkgnpoiaa
