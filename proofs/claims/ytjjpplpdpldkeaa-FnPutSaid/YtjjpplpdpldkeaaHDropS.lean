/- The specification's Drop. -/
import Derived.Test.YtjjpplpdpldkeaaHDropR
import Derived.Deep.CutBlock
import Derived.Deep.RegionLaw
import Derived.Deep.RegionHeldLaw
namespace Go.Proofs.Ytjjpplpdpldkeaa
open Go.RowKit Go.Sort

set_option maxHeartbeats 8000000 in
set_option maxRecDepth 100000 in
theorem specDrop_any (s : ByteArray) (b off n c : Nat) (L : List Cl) (rc rg : Int) (w : World) (h : CellsIn w (some ⟨b, off, none⟩) b off n L) (hs : s.size ≤ 1048576) (hn : n ≤ 1048576) (hf : ∀ i, i < n → Fit (L.getD i cl0)) :
    Calls Try.prog 17 #[.agg #[.string s, .slice (some ⟨b, off, none⟩) n c], refV rc rg] w (HeapEnd w (dropD s L rc rg) (dropL s L rc rg) (dropOk s L rc rg)) := by
  have hl := h.len
  have bw : Below w.heap.size w (((w.alloc (.cells #[.string s, .slice (some ⟨b, off, none⟩) n c] 26)).alloc (.cells #[.int .i64 rc, .int .i64 rg] 30)).alloc (.cells #[.string ⟨#[]⟩, .slice none 0 0] 26)) := Go.Joins.below_alloc3 _ _ _ _
  have r0 := ((RowAt.new w 26 #[.string s, .slice (some ⟨b, off, none⟩) n c]).below ((Below.refl _ _).alloc (Nat.le_refl _) (.cells #[.int .i64 rc, .int .i64 rg] 30)) (by simp)).below ((Below.refl _ _).alloc (Nat.le_refl _) (.cells #[.string ⟨#[]⟩, .slice none 0 0] 26)) (by simp; omega)
  have r1 := (RowAt.new (w.alloc (.cells #[.string s, .slice (some ⟨b, off, none⟩) n c] 26)) 30 #[.int .i64 rc, .int .i64 rg]).below ((Below.refl _ _).alloc (Nat.le_refl _) (.cells #[.string ⟨#[]⟩, .slice none 0 0] 26)) (by simp)
  have r2 := RowAt.new ((w.alloc (.cells #[.string s, .slice (some ⟨b, off, none⟩) n c] 26)).alloc (.cells #[.int .i64 rc, .int .i64 rg] 30)) 26 #[.string ⟨#[]⟩, .slice none 0 0]
  simp only [World.size_alloc] at r1 r2
  have h2 := cells_below h bw
  have l0 := r0.lt
  have l1 := r1.lt
  have l2 := r2.lt
  go_enter Try.func17, Try.ntmps17
  go_wp2_with fail
  generalize ((w.alloc (.cells #[.string s, .slice (some ⟨b, off, none⟩) n c] 26)).alloc (.cells #[.int .i64 rc, .int .i64 rg] 30)).alloc (.cells #[.string ⟨#[]⟩, .slice none 0 0] 26) = w1 at *
  refine (specOk_any s (some ⟨b, off, none⟩) b off n c L w1 h2 hs hn hf).mono ?_
  rintro e w2 ⟨rfl, b2⟩
  have bb := bw.trans (b2.mono bw.size)
  have q0 := r0.below b2 l0
  have q1 := r1.below b2 l1
  have q2 := r2.below b2 l2
  have s2 := b2.size
  have h3 := cells_below h2 b2
  clear r0 r1 r2 h2 bw b2
  cases hr : heapB s L with
  | false =>
    have HR : Hid (dropOk s L rc rg = false) := by unfold Hid dropOk; rw [hr]; rfl
    have u2 := row_ret (D := .string ⟨#[]⟩) (v := .slice none 0 0) q2 rfl
    obtain ⟨e0, e1⟩ := two_at q2
    obtain ⟨g0, g1⟩ := two_at u2
    have f0 := q2.frozen 0
    have f1 := q2.frozen 1
    clear hr hl q0 q1 q2 u2 h3
    go_wp2
    exact bodyPost_ret (v := .tuple #[.agg #[.string ⟨#[]⟩, .slice none 0 0], .bool false]) (by simp [results, Try.results17, go_sem, g0, g1]) rfl (by rw [HR.out, (drop_no HR.out).1, (drop_no HR.out).2]; exact heap_no ((bb.setCell (by simp; omega) _).setCell (by simp; omega) _))
  | true =>
    have HH : Hid (heapB s L = true) := hr
    clear hr
    obtain ⟨e0, e1⟩ := two_at q0
    obtain ⟨f0, f1⟩ := two_at q1
    go_wp2_with fail
    refine (l3Is_any s (some ⟨b, off, none⟩) b off n c L rc rg w2 h3 hn).mono ?_
    rintro e w3 ⟨rfl, b3⟩
    have bb3 := bb.trans (b3.mono bb.size)
    have h4 := cells_below h3 b3
    have s3 := b3.size
    have p0 := q0.below b3 (by omega)
    have p1 := q1.below b3 (by omega)
    have p2 := q2.below b3 (by omega)
    clear q0 q1 q2 e0 e1 f0 f1 b3 bb h3
    obtain ⟨e0, e1⟩ := two_at p0
    obtain ⟨f0, f1⟩ := two_at p1
    cases hi : isB L rc rg with
    | false =>
      have HR : Hid (dropOk s L rc rg = false) := by unfold Hid dropOk; rw [hi, Bool.and_false]
      have u2 := row_ret (D := .string ⟨#[]⟩) (v := .slice none 0 0) p2 rfl
      obtain ⟨e2, e3⟩ := two_at p2
      obtain ⟨g0, g1⟩ := two_at u2
      have f2 := p2.frozen 0
      have f3 := p2.frozen 1
      clear hi hl p0 p1 p2 u2 h4
      go_wp2
      exact bodyPost_ret (v := .tuple #[.agg #[.string ⟨#[]⟩, .slice none 0 0], .bool false]) (by simp [results, Try.results17, go_sem, g0, g1]) rfl (by rw [HR.out, (drop_no HR.out).1, (drop_no HR.out).2]; exact heap_no ((bb3.setCell (by simp; omega) _).setCell (by simp; omega) _))
    | true =>
      obtain ⟨k, rfl, hk, hlv, hgen⟩ := is_in hi
      have HOK : Hid (dropOk s L k rg = true) := by unfold Hid dropOk; rw [HH.out, hi]; rfl
      have HD : Hid (dropD s L k rg = putData s (L.getD k cl0).pos.toNat (dataZ (L.getD k cl0).len.toNat)) := by unfold Hid dropD; rw [if_pos HOK.out, Int.toNat_natCast]
      have HM : Hid (dropL s L k rg = L.set k ⟨0, 0, (L.getD k cl0).gen, false⟩) := by unfold Hid dropL; rw [if_pos HOK.out, Int.toNat_natCast]
      obtain ⟨hs3, hL⟩ := heap_small HH.out
      obtain ⟨g1, g2, g3, g4, g5⟩ := spec_facts (heap_cells HH.out k hk)
      rw [hl] at hk
      have hx := h4.cell k hk
      have c0 := hx.c0
      have c1 := hx.c1
      have c2 := hx.c2
      have c3 := hx.c3
      generalize L.getD k cl0 = x at *
      obtain ⟨P, hP⟩ : ∃ P : Nat, x.pos = P := ⟨_, (Int.toNat_of_nonneg g1).symm⟩
      obtain ⟨W, hW⟩ : ∃ W : Nat, x.len = W := ⟨_, (Int.toNat_of_nonneg g2).symm⟩
      rw [hP] at c0 g1 g3 g4 HD
      rw [hW] at c1 g2 g3 g5 HD
      rw [Int.toNat_natCast, Int.toNat_natCast] at HD
      clear hi hx hP hW hlv hgen
      go_upto_region 4 with fail
      have bc : Below w3.heap.size w3 (w3.alloc (.cells #[.int .i64 P, .int .i64 W, .int .i64 x.gen, .bool x.live] 35)) := (Below.refl _ w3).alloc (Nat.le_refl _) _
      have i0 := p0.below bc p0.lt
      have i1 := p1.below bc p1.lt
      have i2 := p2.below bc p2.lt
      have h5 := cells_below h4 bc
      have rc4 := RowAt.new w3 35 #[.int .i64 P, .int .i64 W, .int .i64 x.gen, .bool x.live]
      have bb4 := bb3.trans (bc.mono bb3.size)
      have s4 := bc.size
      have hq3 : w.heap.size + 3 ≤ w3.heap.size := by omega
      generalize hQ : w3.heap.size = q3 at *
      clear c0 c1 c2 c3 e0 e1 f0 f1 p0 p1 p2 h4 bb3
      generalize w3.alloc (.cells #[.int .i64 P, .int .i64 W, .int .i64 x.gen, .bool x.live] 35) = w4 at *
      obtain ⟨e0, e1⟩ := two_at i0
      have c0 : w4.cell? ⟨q3, 0, none⟩ = some (.int .i64 P) := rc4.cell 0
      have c1 : w4.cell? ⟨q3, 1, none⟩ = some (.int .i64 W) := rc4.cell 1
      go_cut [7] (fun o wx => ∃ q A cap, o = .pointer (some ⟨q, 0, none⟩) ∧ w4.heap.size ≤ q ∧ RowAt wx q 26 #[.string (putData s P (dataZ W)), .slice (some ⟨A, 0, none⟩) n cap] ∧ wx.ownsRow w4.heap.size 35 4 (.slice (some ⟨A, 0, none⟩) n cap) n (flatC L) ∧ Below w4.heap.size w4 wx)
      case first =>
        clear HOK HD HM
        obtain ⟨Cz, hCz, hmk⟩ := make_bytes W (by omega)
        have hPn : (P : Int) ≤ (s.size : Int) := by omega
        have hPx : (P : Int) + (W : Int) ≤ (s.size : Int) := by omega
        have hP0 : (0 : Int) ≤ (P : Int) + (W : Int) := by omega
        have hm1 : min P s.size = P := by omega
        have hwr : IntKind.i64.wrap ((P : Int) + (W : Int)) = (P : Int) + (W : Int) := wrap_small (by omega) (by omega)
        have htn : ((P : Int) + (W : Int)).toNat = P + W := by omega
        have hc1 : ¬ 9223372036854775807 < P + W := by omega
        have hc2 : ¬ 9223372036854775807 < P + W + (s.size - (P + W)) := by omega
        have hdz : (dataZ W).size = W := dataZ_size W
        have hz1 : ¬ 9223372036854775807 < P + (dataZ W).size := by omega
        have hz2 : ¬ 9223372036854775807 < P + (dataZ W).size + (s.size - (P + W)) := by omega
        have hDD : s.extract 0 P ++ dataZ W ++ s.extract (P + W) s.size = putData s P (dataZ W) := by unfold putData; rw [hdz]
        have HDD : Hid (s.extract 0 P ++ dataZ W ++ s.extract (P + W) s.size = putData s P (dataZ W)) := hDD
        have hn40 : n ≤ 40 := by omega
        clear hDD hdz
        have l0' := i0.lt
        have l3' := rc4.lt
        refine wp_region_inv (fun l a W' => l.size = 26 ∧ ∃ M B Z A cap, a = dropAct s w.heap.size q3 b off n c k P W rg x.gen x.live l M B Z A cap ∧ DropF w4 n W L (s.extract 0 P ++ dataZ W ++ s.extract (P + W) s.size) l M B Z A cap W') (by kernel_rfl) ?h0 ?hstep (by kernel_rfl) ?hdone
        case h0 =>
          refine ⟨rfl, 0, 0, 0, 0, 0, rfl, ⟨(Below.refl _ w4).drew, ?_, ?_, ?_, ?_, ?_, ?_, ?_, ?_⟩⟩ <;> (intro h; cases h)
        case hstep =>
          rintro l a W' i ⟨hsz, M, B, Z, A, cap, rfl, F⟩ hi
          obtain ⟨hlt, hoff, hdep⟩ := ready_mem hi
          have hio := off_of hoff
          have e0' := (F.below.cell (p := ⟨w.heap.size, 0, none⟩) l0').trans e0
          have e1' := (F.below.cell (p := ⟨w.heap.size, 1, none⟩) l0').trans e1
          have c0' := (F.below.cell (p := ⟨q3, 0, none⟩) l3').trans c0
          have c1' := (F.below.cell (p := ⟨q3, 1, none⟩) l3').trans c1
          have hi26 : i < 26 := hlt
          clear hi hlt
          have hcase : i = 0 ∨ i = 1 ∨ i = 2 ∨ i = 3 ∨ i = 4 ∨ i = 5 ∨ i = 6 ∨ i = 7 ∨ i = 8 ∨ i = 9 ∨ i = 10 ∨ i = 11 ∨ i = 12 ∨ i = 13 ∨ i = 14 ∨ i = 15 ∨ i = 16 ∨ i = 17 ∨ i = 18 ∨ i = 19 ∨ i = 20 ∨ i = 21 ∨ i = 22 ∨ i = 23 ∨ i = 24 ∨ i = 25 := by omega
          clear hi26
          rcases hcase with rfl | rfl | rfl | rfl | rfl | rfl | rfl | rfl | rfl | rfl | rfl | rfl | rfl | rfl | rfl | rfl | rfl | rfl | rfl | rfl | rfl | rfl | rfl | rfl | rfl | rfl
          · -- 0
            clear hdep hoff
            refine wpOp_step rfl (fun K hK => ?_)
            simp only [dropAct]
            go_simp
            refine hK _ _ ⟨by simp [hsz], M, B, Z, A, cap, ?_, F.plain 0 (by decide) (by decide) (by decide) (by decide) (by decide) (by decide)⟩
            simp only [dropAct, sl_self (show 0 < l.size by omega)]
            simp only [sl_ne (show 0 ≠ 1 by decide), sl_ne (show 0 ≠ 2 by decide), sl_ne (show 0 ≠ 3 by decide), sl_ne (show 0 ≠ 4 by decide), sl_ne (show 0 ≠ 5 by decide), sl_ne (show 0 ≠ 6 by decide), sl_ne (show 0 ≠ 7 by decide), sl_ne (show 0 ≠ 8 by decide), sl_ne (show 0 ≠ 9 by decide), sl_ne (show 0 ≠ 10 by decide), sl_ne (show 0 ≠ 11 by decide), sl_ne (show 0 ≠ 12 by decide), sl_ne (show 0 ≠ 13 by decide), sl_ne (show 0 ≠ 14 by decide), sl_ne (show 0 ≠ 15 by decide), sl_ne (show 0 ≠ 16 by decide), sl_ne (show 0 ≠ 17 by decide), sl_ne (show 0 ≠ 18 by decide), sl_ne (show 0 ≠ 19 by decide), sl_ne (show 0 ≠ 20 by decide), sl_ne (show 0 ≠ 21 by decide), sl_ne (show 0 ≠ 22 by decide), sl_ne (show 0 ≠ 23 by decide), sl_ne (show 0 ≠ 24 by decide)]
          · -- 1
            have d0 : l.getD 0 false = true := by simpa [Region.binds] using hdep
            clear hdep hoff
            refine wpOp_step rfl (fun K hK => ?_)
            simp only [dropAct, sl_on d0]
            go_simp
            refine hK _ _ ⟨by simp [hsz], M, B, Z, A, cap, ?_, F.plain 1 (by decide) (by decide) (by decide) (by decide) (by decide) (by decide)⟩
            simp only [dropAct, sl_self (show 1 < l.size by omega)]
            simp only [sl_ne (show 1 ≠ 0 by decide), sl_ne (show 1 ≠ 2 by decide), sl_ne (show 1 ≠ 3 by decide), sl_ne (show 1 ≠ 4 by decide), sl_ne (show 1 ≠ 5 by decide), sl_ne (show 1 ≠ 6 by decide), sl_ne (show 1 ≠ 7 by decide), sl_ne (show 1 ≠ 8 by decide), sl_ne (show 1 ≠ 9 by decide), sl_ne (show 1 ≠ 10 by decide), sl_ne (show 1 ≠ 11 by decide), sl_ne (show 1 ≠ 12 by decide), sl_ne (show 1 ≠ 13 by decide), sl_ne (show 1 ≠ 14 by decide), sl_ne (show 1 ≠ 15 by decide), sl_ne (show 1 ≠ 16 by decide), sl_ne (show 1 ≠ 17 by decide), sl_ne (show 1 ≠ 18 by decide), sl_ne (show 1 ≠ 19 by decide), sl_ne (show 1 ≠ 20 by decide), sl_ne (show 1 ≠ 21 by decide), sl_ne (show 1 ≠ 22 by decide), sl_ne (show 1 ≠ 23 by decide), sl_ne (show 1 ≠ 24 by decide), sl_on d0]
          · -- 2
            clear hdep hoff
            refine wpOp_step rfl (fun K hK => ?_)
            simp only [dropAct]
            go_simp
            refine hK _ _ ⟨by simp [hsz], M, B, Z, A, cap, ?_, F.plain 2 (by decide) (by decide) (by decide) (by decide) (by decide) (by decide)⟩
            simp only [dropAct, sl_self (show 2 < l.size by omega)]
            simp only [sl_ne (show 2 ≠ 0 by decide), sl_ne (show 2 ≠ 1 by decide), sl_ne (show 2 ≠ 3 by decide), sl_ne (show 2 ≠ 4 by decide), sl_ne (show 2 ≠ 5 by decide), sl_ne (show 2 ≠ 6 by decide), sl_ne (show 2 ≠ 7 by decide), sl_ne (show 2 ≠ 8 by decide), sl_ne (show 2 ≠ 9 by decide), sl_ne (show 2 ≠ 10 by decide), sl_ne (show 2 ≠ 11 by decide), sl_ne (show 2 ≠ 12 by decide), sl_ne (show 2 ≠ 13 by decide), sl_ne (show 2 ≠ 14 by decide), sl_ne (show 2 ≠ 15 by decide), sl_ne (show 2 ≠ 16 by decide), sl_ne (show 2 ≠ 17 by decide), sl_ne (show 2 ≠ 18 by decide), sl_ne (show 2 ≠ 19 by decide), sl_ne (show 2 ≠ 20 by decide), sl_ne (show 2 ≠ 21 by decide), sl_ne (show 2 ≠ 22 by decide), sl_ne (show 2 ≠ 23 by decide), sl_ne (show 2 ≠ 24 by decide)]
          · -- 3
            have d2 : l.getD 2 false = true := by simpa [Region.binds] using hdep
            clear hdep hoff
            refine wpOp_step rfl (fun K hK => ?_)
            simp only [dropAct, sl_on d2]
            go_simp
            refine hK _ _ ⟨by simp [hsz], M, B, Z, A, cap, ?_, F.plain 3 (by decide) (by decide) (by decide) (by decide) (by decide) (by decide)⟩
            simp only [dropAct, sl_self (show 3 < l.size by omega)]
            simp only [sl_ne (show 3 ≠ 0 by decide), sl_ne (show 3 ≠ 1 by decide), sl_ne (show 3 ≠ 2 by decide), sl_ne (show 3 ≠ 4 by decide), sl_ne (show 3 ≠ 5 by decide), sl_ne (show 3 ≠ 6 by decide), sl_ne (show 3 ≠ 7 by decide), sl_ne (show 3 ≠ 8 by decide), sl_ne (show 3 ≠ 9 by decide), sl_ne (show 3 ≠ 10 by decide), sl_ne (show 3 ≠ 11 by decide), sl_ne (show 3 ≠ 12 by decide), sl_ne (show 3 ≠ 13 by decide), sl_ne (show 3 ≠ 14 by decide), sl_ne (show 3 ≠ 15 by decide), sl_ne (show 3 ≠ 16 by decide), sl_ne (show 3 ≠ 17 by decide), sl_ne (show 3 ≠ 18 by decide), sl_ne (show 3 ≠ 19 by decide), sl_ne (show 3 ≠ 20 by decide), sl_ne (show 3 ≠ 21 by decide), sl_ne (show 3 ≠ 22 by decide), sl_ne (show 3 ≠ 23 by decide), sl_ne (show 3 ≠ 24 by decide), sl_on d2]
          · -- 4
            obtain ⟨d1, d3⟩ : l.getD 1 false = true ∧ l.getD 3 false = true := by simpa [Region.binds] using hdep
            clear hdep hoff
            refine wpOp_step rfl (fun K hK => ?_)
            simp only [dropAct, sl_on d1, sl_on d3]
            go_simp
            refine hK _ _ ⟨by simp [hsz], M, B, Z, A, cap, ?_, F.plain 4 (by decide) (by decide) (by decide) (by decide) (by decide) (by decide)⟩
            simp only [dropAct, sl_self (show 4 < l.size by omega)]
            simp only [sl_ne (show 4 ≠ 0 by decide), sl_ne (show 4 ≠ 1 by decide), sl_ne (show 4 ≠ 2 by decide), sl_ne (show 4 ≠ 3 by decide), sl_ne (show 4 ≠ 5 by decide), sl_ne (show 4 ≠ 6 by decide), sl_ne (show 4 ≠ 7 by decide), sl_ne (show 4 ≠ 8 by decide), sl_ne (show 4 ≠ 9 by decide), sl_ne (show 4 ≠ 10 by decide), sl_ne (show 4 ≠ 11 by decide), sl_ne (show 4 ≠ 12 by decide), sl_ne (show 4 ≠ 13 by decide), sl_ne (show 4 ≠ 14 by decide), sl_ne (show 4 ≠ 15 by decide), sl_ne (show 4 ≠ 16 by decide), sl_ne (show 4 ≠ 17 by decide), sl_ne (show 4 ≠ 18 by decide), sl_ne (show 4 ≠ 19 by decide), sl_ne (show 4 ≠ 20 by decide), sl_ne (show 4 ≠ 21 by decide), sl_ne (show 4 ≠ 22 by decide), sl_ne (show 4 ≠ 23 by decide), sl_ne (show 4 ≠ 24 by decide), sl_on d1, sl_on d3]
          · -- 5
            clear hdep hoff
            refine wpOp_step rfl (fun K hK => ?_)
            simp only [dropAct]
            go_simp
            refine hK _ _ ⟨by simp [hsz], M, B, Z, A, cap, ?_, F.plain 5 (by decide) (by decide) (by decide) (by decide) (by decide) (by decide)⟩
            simp only [dropAct, sl_self (show 5 < l.size by omega)]
            simp only [sl_ne (show 5 ≠ 0 by decide), sl_ne (show 5 ≠ 1 by decide), sl_ne (show 5 ≠ 2 by decide), sl_ne (show 5 ≠ 3 by decide), sl_ne (show 5 ≠ 4 by decide), sl_ne (show 5 ≠ 6 by decide), sl_ne (show 5 ≠ 7 by decide), sl_ne (show 5 ≠ 8 by decide), sl_ne (show 5 ≠ 9 by decide), sl_ne (show 5 ≠ 10 by decide), sl_ne (show 5 ≠ 11 by decide), sl_ne (show 5 ≠ 12 by decide), sl_ne (show 5 ≠ 13 by decide), sl_ne (show 5 ≠ 14 by decide), sl_ne (show 5 ≠ 15 by decide), sl_ne (show 5 ≠ 16 by decide), sl_ne (show 5 ≠ 17 by decide), sl_ne (show 5 ≠ 18 by decide), sl_ne (show 5 ≠ 19 by decide), sl_ne (show 5 ≠ 20 by decide), sl_ne (show 5 ≠ 21 by decide), sl_ne (show 5 ≠ 22 by decide), sl_ne (show 5 ≠ 23 by decide), sl_ne (show 5 ≠ 24 by decide)]
          · -- 6
            have d5 : l.getD 5 false = true := by simpa [Region.binds] using hdep
            clear hdep hoff
            refine wpOp_step rfl (fun K hK => ?_)
            simp only [dropAct, sl_on d5]
            go_simp
            refine hK _ _ ⟨by simp [hsz], M, B, Z, A, cap, ?_, F.plain 6 (by decide) (by decide) (by decide) (by decide) (by decide) (by decide)⟩
            simp only [dropAct, sl_self (show 6 < l.size by omega)]
            simp only [sl_ne (show 6 ≠ 0 by decide), sl_ne (show 6 ≠ 1 by decide), sl_ne (show 6 ≠ 2 by decide), sl_ne (show 6 ≠ 3 by decide), sl_ne (show 6 ≠ 4 by decide), sl_ne (show 6 ≠ 5 by decide), sl_ne (show 6 ≠ 7 by decide), sl_ne (show 6 ≠ 8 by decide), sl_ne (show 6 ≠ 9 by decide), sl_ne (show 6 ≠ 10 by decide), sl_ne (show 6 ≠ 11 by decide), sl_ne (show 6 ≠ 12 by decide), sl_ne (show 6 ≠ 13 by decide), sl_ne (show 6 ≠ 14 by decide), sl_ne (show 6 ≠ 15 by decide), sl_ne (show 6 ≠ 16 by decide), sl_ne (show 6 ≠ 17 by decide), sl_ne (show 6 ≠ 18 by decide), sl_ne (show 6 ≠ 19 by decide), sl_ne (show 6 ≠ 20 by decide), sl_ne (show 6 ≠ 21 by decide), sl_ne (show 6 ≠ 22 by decide), sl_ne (show 6 ≠ 23 by decide), sl_ne (show 6 ≠ 24 by decide), sl_on d5]
          · -- 7
            have d6 : l.getD 6 false = true := by simpa [Region.binds] using hdep
            clear hdep hoff
            have hmk' := hmk W'
            refine wpOp_step rfl (fun K hK => ?_)
            simp only [dropAct, sl_on d6]
            go_simp
            refine hK _ _ ⟨by simp [hsz], W'.heap.size, B, Z, A, cap, ?_, F.made hCz⟩
            simp only [dropAct, sl_self (show 7 < l.size by omega)]
            simp only [sl_ne (show 7 ≠ 0 by decide), sl_ne (show 7 ≠ 1 by decide), sl_ne (show 7 ≠ 2 by decide), sl_ne (show 7 ≠ 3 by decide), sl_ne (show 7 ≠ 4 by decide), sl_ne (show 7 ≠ 5 by decide), sl_ne (show 7 ≠ 6 by decide), sl_ne (show 7 ≠ 8 by decide), sl_ne (show 7 ≠ 9 by decide), sl_ne (show 7 ≠ 10 by decide), sl_ne (show 7 ≠ 11 by decide), sl_ne (show 7 ≠ 12 by decide), sl_ne (show 7 ≠ 13 by decide), sl_ne (show 7 ≠ 14 by decide), sl_ne (show 7 ≠ 15 by decide), sl_ne (show 7 ≠ 16 by decide), sl_ne (show 7 ≠ 17 by decide), sl_ne (show 7 ≠ 18 by decide), sl_ne (show 7 ≠ 19 by decide), sl_ne (show 7 ≠ 20 by decide), sl_ne (show 7 ≠ 21 by decide), sl_ne (show 7 ≠ 22 by decide), sl_ne (show 7 ≠ 23 by decide), sl_ne (show 7 ≠ 24 by decide), sl_on d6]
          · -- 8
            have d7 : l.getD 7 false = true := by simpa [Region.binds] using hdep
            clear hdep hoff
            obtain ⟨C, hrC, hC0⟩ := F.m d7
            have hcv : (convert 22 9 (.slice (some ⟨M, 0, none⟩) W W)).run Try.prog W' = .ok (.string (dataZ W)) W' := by
              have := run_convert_bytes_back (P := Try.prog) W' 22 9 5 ⟨M, 0, none⟩ W ((List.range W).map fun _ => 0) Try.underlying22 Try.underlying5 Try.underlying9 ?_
              · simpa [dataZ] using this
              · intro j hj
                have hj' : j < W := by simpa using hj
                rw [Addr.add_lit, Nat.zero_add]
                simpa using (hrC.cell j).trans (hC0 j hj')
            refine wpOp_step rfl (fun K hK => ?_)
            simp only [dropAct, sl_on d7]
            go_simp
            refine hK _ _ ⟨by simp [hsz], M, B, Z, A, cap, ?_, F.plain 8 (by decide) (by decide) (by decide) (by decide) (by decide) (by decide)⟩
            simp only [dropAct, sl_self (show 8 < l.size by omega)]
            simp only [sl_ne (show 8 ≠ 0 by decide), sl_ne (show 8 ≠ 1 by decide), sl_ne (show 8 ≠ 2 by decide), sl_ne (show 8 ≠ 3 by decide), sl_ne (show 8 ≠ 4 by decide), sl_ne (show 8 ≠ 5 by decide), sl_ne (show 8 ≠ 6 by decide), sl_ne (show 8 ≠ 7 by decide), sl_ne (show 8 ≠ 9 by decide), sl_ne (show 8 ≠ 10 by decide), sl_ne (show 8 ≠ 11 by decide), sl_ne (show 8 ≠ 12 by decide), sl_ne (show 8 ≠ 13 by decide), sl_ne (show 8 ≠ 14 by decide), sl_ne (show 8 ≠ 15 by decide), sl_ne (show 8 ≠ 16 by decide), sl_ne (show 8 ≠ 17 by decide), sl_ne (show 8 ≠ 18 by decide), sl_ne (show 8 ≠ 19 by decide), sl_ne (show 8 ≠ 20 by decide), sl_ne (show 8 ≠ 21 by decide), sl_ne (show 8 ≠ 22 by decide), sl_ne (show 8 ≠ 23 by decide), sl_ne (show 8 ≠ 24 by decide), sl_on d7]
          · -- 9
            obtain ⟨d4, d8⟩ : l.getD 4 false = true ∧ l.getD 8 false = true := by simpa [Region.binds] using hdep
            clear hdep hoff
            refine wpOp_step rfl (fun K hK => ?_)
            simp only [dropAct, sl_on d4, sl_on d8]
            go_simp
            refine hK _ _ ⟨by simp [hsz], M, B, Z, A, cap, ?_, F.plain 9 (by decide) (by decide) (by decide) (by decide) (by decide) (by decide)⟩
            simp only [dropAct, sl_self (show 9 < l.size by omega)]
            simp only [sl_ne (show 9 ≠ 0 by decide), sl_ne (show 9 ≠ 1 by decide), sl_ne (show 9 ≠ 2 by decide), sl_ne (show 9 ≠ 3 by decide), sl_ne (show 9 ≠ 4 by decide), sl_ne (show 9 ≠ 5 by decide), sl_ne (show 9 ≠ 6 by decide), sl_ne (show 9 ≠ 7 by decide), sl_ne (show 9 ≠ 8 by decide), sl_ne (show 9 ≠ 10 by decide), sl_ne (show 9 ≠ 11 by decide), sl_ne (show 9 ≠ 12 by decide), sl_ne (show 9 ≠ 13 by decide), sl_ne (show 9 ≠ 14 by decide), sl_ne (show 9 ≠ 15 by decide), sl_ne (show 9 ≠ 16 by decide), sl_ne (show 9 ≠ 17 by decide), sl_ne (show 9 ≠ 18 by decide), sl_ne (show 9 ≠ 19 by decide), sl_ne (show 9 ≠ 20 by decide), sl_ne (show 9 ≠ 21 by decide), sl_ne (show 9 ≠ 22 by decide), sl_ne (show 9 ≠ 23 by decide), sl_ne (show 9 ≠ 24 by decide), sl_on d4, sl_on d8]
          · -- 10
            clear hdep hoff
            refine wpOp_step rfl (fun K hK => ?_)
            simp only [dropAct]
            go_simp
            refine hK _ _ ⟨by simp [hsz], M, B, Z, A, cap, ?_, F.plain 10 (by decide) (by decide) (by decide) (by decide) (by decide) (by decide)⟩
            simp only [dropAct, sl_self (show 10 < l.size by omega)]
            simp only [sl_ne (show 10 ≠ 0 by decide), sl_ne (show 10 ≠ 1 by decide), sl_ne (show 10 ≠ 2 by decide), sl_ne (show 10 ≠ 3 by decide), sl_ne (show 10 ≠ 4 by decide), sl_ne (show 10 ≠ 5 by decide), sl_ne (show 10 ≠ 6 by decide), sl_ne (show 10 ≠ 7 by decide), sl_ne (show 10 ≠ 8 by decide), sl_ne (show 10 ≠ 9 by decide), sl_ne (show 10 ≠ 11 by decide), sl_ne (show 10 ≠ 12 by decide), sl_ne (show 10 ≠ 13 by decide), sl_ne (show 10 ≠ 14 by decide), sl_ne (show 10 ≠ 15 by decide), sl_ne (show 10 ≠ 16 by decide), sl_ne (show 10 ≠ 17 by decide), sl_ne (show 10 ≠ 18 by decide), sl_ne (show 10 ≠ 19 by decide), sl_ne (show 10 ≠ 20 by decide), sl_ne (show 10 ≠ 21 by decide), sl_ne (show 10 ≠ 22 by decide), sl_ne (show 10 ≠ 23 by decide), sl_ne (show 10 ≠ 24 by decide)]
          · -- 11
            have d10 : l.getD 10 false = true := by simpa [Region.binds] using hdep
            clear hdep hoff
            refine wpOp_step rfl (fun K hK => ?_)
            simp only [dropAct, sl_on d10]
            go_simp
            refine hK _ _ ⟨by simp [hsz], M, B, Z, A, cap, ?_, F.plain 11 (by decide) (by decide) (by decide) (by decide) (by decide) (by decide)⟩
            simp only [dropAct, sl_self (show 11 < l.size by omega)]
            simp only [sl_ne (show 11 ≠ 0 by decide), sl_ne (show 11 ≠ 1 by decide), sl_ne (show 11 ≠ 2 by decide), sl_ne (show 11 ≠ 3 by decide), sl_ne (show 11 ≠ 4 by decide), sl_ne (show 11 ≠ 5 by decide), sl_ne (show 11 ≠ 6 by decide), sl_ne (show 11 ≠ 7 by decide), sl_ne (show 11 ≠ 8 by decide), sl_ne (show 11 ≠ 9 by decide), sl_ne (show 11 ≠ 10 by decide), sl_ne (show 11 ≠ 12 by decide), sl_ne (show 11 ≠ 13 by decide), sl_ne (show 11 ≠ 14 by decide), sl_ne (show 11 ≠ 15 by decide), sl_ne (show 11 ≠ 16 by decide), sl_ne (show 11 ≠ 17 by decide), sl_ne (show 11 ≠ 18 by decide), sl_ne (show 11 ≠ 19 by decide), sl_ne (show 11 ≠ 20 by decide), sl_ne (show 11 ≠ 21 by decide), sl_ne (show 11 ≠ 22 by decide), sl_ne (show 11 ≠ 23 by decide), sl_ne (show 11 ≠ 24 by decide), sl_on d10]
          · -- 12
            clear hdep hoff
            refine wpOp_step rfl (fun K hK => ?_)
            simp only [dropAct]
            go_simp
            refine hK _ _ ⟨by simp [hsz], M, B, Z, A, cap, ?_, F.plain 12 (by decide) (by decide) (by decide) (by decide) (by decide) (by decide)⟩
            simp only [dropAct, sl_self (show 12 < l.size by omega)]
            simp only [sl_ne (show 12 ≠ 0 by decide), sl_ne (show 12 ≠ 1 by decide), sl_ne (show 12 ≠ 2 by decide), sl_ne (show 12 ≠ 3 by decide), sl_ne (show 12 ≠ 4 by decide), sl_ne (show 12 ≠ 5 by decide), sl_ne (show 12 ≠ 6 by decide), sl_ne (show 12 ≠ 7 by decide), sl_ne (show 12 ≠ 8 by decide), sl_ne (show 12 ≠ 9 by decide), sl_ne (show 12 ≠ 10 by decide), sl_ne (show 12 ≠ 11 by decide), sl_ne (show 12 ≠ 13 by decide), sl_ne (show 12 ≠ 14 by decide), sl_ne (show 12 ≠ 15 by decide), sl_ne (show 12 ≠ 16 by decide), sl_ne (show 12 ≠ 17 by decide), sl_ne (show 12 ≠ 18 by decide), sl_ne (show 12 ≠ 19 by decide), sl_ne (show 12 ≠ 20 by decide), sl_ne (show 12 ≠ 21 by decide), sl_ne (show 12 ≠ 22 by decide), sl_ne (show 12 ≠ 23 by decide), sl_ne (show 12 ≠ 24 by decide)]
          · -- 13
            have d12 : l.getD 12 false = true := by simpa [Region.binds] using hdep
            clear hdep hoff
            refine wpOp_step rfl (fun K hK => ?_)
            simp only [dropAct, sl_on d12]
            go_simp
            refine hK _ _ ⟨by simp [hsz], M, B, Z, A, cap, ?_, F.plain 13 (by decide) (by decide) (by decide) (by decide) (by decide) (by decide)⟩
            simp only [dropAct, sl_self (show 13 < l.size by omega)]
            simp only [sl_ne (show 13 ≠ 0 by decide), sl_ne (show 13 ≠ 1 by decide), sl_ne (show 13 ≠ 2 by decide), sl_ne (show 13 ≠ 3 by decide), sl_ne (show 13 ≠ 4 by decide), sl_ne (show 13 ≠ 5 by decide), sl_ne (show 13 ≠ 6 by decide), sl_ne (show 13 ≠ 7 by decide), sl_ne (show 13 ≠ 8 by decide), sl_ne (show 13 ≠ 9 by decide), sl_ne (show 13 ≠ 10 by decide), sl_ne (show 13 ≠ 11 by decide), sl_ne (show 13 ≠ 12 by decide), sl_ne (show 13 ≠ 14 by decide), sl_ne (show 13 ≠ 15 by decide), sl_ne (show 13 ≠ 16 by decide), sl_ne (show 13 ≠ 17 by decide), sl_ne (show 13 ≠ 18 by decide), sl_ne (show 13 ≠ 19 by decide), sl_ne (show 13 ≠ 20 by decide), sl_ne (show 13 ≠ 21 by decide), sl_ne (show 13 ≠ 22 by decide), sl_ne (show 13 ≠ 23 by decide), sl_ne (show 13 ≠ 24 by decide), sl_on d12]
          · -- 14
            clear hdep hoff
            refine wpOp_step rfl (fun K hK => ?_)
            simp only [dropAct]
            go_simp
            refine hK _ _ ⟨by simp [hsz], M, B, Z, A, cap, ?_, F.plain 14 (by decide) (by decide) (by decide) (by decide) (by decide) (by decide)⟩
            simp only [dropAct, sl_self (show 14 < l.size by omega)]
            simp only [sl_ne (show 14 ≠ 0 by decide), sl_ne (show 14 ≠ 1 by decide), sl_ne (show 14 ≠ 2 by decide), sl_ne (show 14 ≠ 3 by decide), sl_ne (show 14 ≠ 4 by decide), sl_ne (show 14 ≠ 5 by decide), sl_ne (show 14 ≠ 6 by decide), sl_ne (show 14 ≠ 7 by decide), sl_ne (show 14 ≠ 8 by decide), sl_ne (show 14 ≠ 9 by decide), sl_ne (show 14 ≠ 10 by decide), sl_ne (show 14 ≠ 11 by decide), sl_ne (show 14 ≠ 12 by decide), sl_ne (show 14 ≠ 13 by decide), sl_ne (show 14 ≠ 15 by decide), sl_ne (show 14 ≠ 16 by decide), sl_ne (show 14 ≠ 17 by decide), sl_ne (show 14 ≠ 18 by decide), sl_ne (show 14 ≠ 19 by decide), sl_ne (show 14 ≠ 20 by decide), sl_ne (show 14 ≠ 21 by decide), sl_ne (show 14 ≠ 22 by decide), sl_ne (show 14 ≠ 23 by decide), sl_ne (show 14 ≠ 24 by decide)]
          · -- 15
            have d14 : l.getD 14 false = true := by simpa [Region.binds] using hdep
            clear hdep hoff
            refine wpOp_step rfl (fun K hK => ?_)
            simp only [dropAct, sl_on d14]
            go_simp
            refine hK _ _ ⟨by simp [hsz], M, B, Z, A, cap, ?_, F.plain 15 (by decide) (by decide) (by decide) (by decide) (by decide) (by decide)⟩
            simp only [dropAct, sl_self (show 15 < l.size by omega)]
            simp only [sl_ne (show 15 ≠ 0 by decide), sl_ne (show 15 ≠ 1 by decide), sl_ne (show 15 ≠ 2 by decide), sl_ne (show 15 ≠ 3 by decide), sl_ne (show 15 ≠ 4 by decide), sl_ne (show 15 ≠ 5 by decide), sl_ne (show 15 ≠ 6 by decide), sl_ne (show 15 ≠ 7 by decide), sl_ne (show 15 ≠ 8 by decide), sl_ne (show 15 ≠ 9 by decide), sl_ne (show 15 ≠ 10 by decide), sl_ne (show 15 ≠ 11 by decide), sl_ne (show 15 ≠ 12 by decide), sl_ne (show 15 ≠ 13 by decide), sl_ne (show 15 ≠ 14 by decide), sl_ne (show 15 ≠ 16 by decide), sl_ne (show 15 ≠ 17 by decide), sl_ne (show 15 ≠ 18 by decide), sl_ne (show 15 ≠ 19 by decide), sl_ne (show 15 ≠ 20 by decide), sl_ne (show 15 ≠ 21 by decide), sl_ne (show 15 ≠ 22 by decide), sl_ne (show 15 ≠ 23 by decide), sl_ne (show 15 ≠ 24 by decide), sl_on d14]
          · -- 16
            obtain ⟨d13, d15⟩ : l.getD 13 false = true ∧ l.getD 15 false = true := by simpa [Region.binds] using hdep
            clear hdep hoff
            refine wpOp_step rfl (fun K hK => ?_)
            simp only [dropAct, sl_on d13, sl_on d15]
            go_simp
            refine hK _ _ ⟨by simp [hsz], M, B, Z, A, cap, ?_, F.plain 16 (by decide) (by decide) (by decide) (by decide) (by decide) (by decide)⟩
            simp only [dropAct, sl_self (show 16 < l.size by omega)]
            simp only [sl_ne (show 16 ≠ 0 by decide), sl_ne (show 16 ≠ 1 by decide), sl_ne (show 16 ≠ 2 by decide), sl_ne (show 16 ≠ 3 by decide), sl_ne (show 16 ≠ 4 by decide), sl_ne (show 16 ≠ 5 by decide), sl_ne (show 16 ≠ 6 by decide), sl_ne (show 16 ≠ 7 by decide), sl_ne (show 16 ≠ 8 by decide), sl_ne (show 16 ≠ 9 by decide), sl_ne (show 16 ≠ 10 by decide), sl_ne (show 16 ≠ 11 by decide), sl_ne (show 16 ≠ 12 by decide), sl_ne (show 16 ≠ 13 by decide), sl_ne (show 16 ≠ 14 by decide), sl_ne (show 16 ≠ 15 by decide), sl_ne (show 16 ≠ 17 by decide), sl_ne (show 16 ≠ 18 by decide), sl_ne (show 16 ≠ 19 by decide), sl_ne (show 16 ≠ 20 by decide), sl_ne (show 16 ≠ 21 by decide), sl_ne (show 16 ≠ 22 by decide), sl_ne (show 16 ≠ 23 by decide), sl_ne (show 16 ≠ 24 by decide), sl_on d13, sl_on d15]
          · -- 17
            obtain ⟨d11, d16⟩ : l.getD 11 false = true ∧ l.getD 16 false = true := by simpa [Region.binds] using hdep
            clear hdep hoff
            refine wpOp_step rfl (fun K hK => ?_)
            simp only [dropAct, sl_on d11, sl_on d16]
            go_simp
            refine hK _ _ ⟨by simp [hsz], M, B, Z, A, cap, ?_, F.plain 17 (by decide) (by decide) (by decide) (by decide) (by decide) (by decide)⟩
            simp only [dropAct, sl_self (show 17 < l.size by omega)]
            simp only [sl_ne (show 17 ≠ 0 by decide), sl_ne (show 17 ≠ 1 by decide), sl_ne (show 17 ≠ 2 by decide), sl_ne (show 17 ≠ 3 by decide), sl_ne (show 17 ≠ 4 by decide), sl_ne (show 17 ≠ 5 by decide), sl_ne (show 17 ≠ 6 by decide), sl_ne (show 17 ≠ 7 by decide), sl_ne (show 17 ≠ 8 by decide), sl_ne (show 17 ≠ 9 by decide), sl_ne (show 17 ≠ 10 by decide), sl_ne (show 17 ≠ 11 by decide), sl_ne (show 17 ≠ 12 by decide), sl_ne (show 17 ≠ 13 by decide), sl_ne (show 17 ≠ 14 by decide), sl_ne (show 17 ≠ 15 by decide), sl_ne (show 17 ≠ 16 by decide), sl_ne (show 17 ≠ 18 by decide), sl_ne (show 17 ≠ 19 by decide), sl_ne (show 17 ≠ 20 by decide), sl_ne (show 17 ≠ 21 by decide), sl_ne (show 17 ≠ 22 by decide), sl_ne (show 17 ≠ 23 by decide), sl_ne (show 17 ≠ 24 by decide), sl_on d11, sl_on d16]
          · -- 18
            obtain ⟨d9, d17⟩ : l.getD 9 false = true ∧ l.getD 17 false = true := by simpa [Region.binds] using hdep
            clear hdep hoff
            refine wpOp_step rfl (fun K hK => ?_)
            simp only [dropAct, sl_on d9, sl_on d17]
            go_simp
            refine hK _ _ ⟨by simp [hsz], M, B, Z, A, cap, ?_, F.plain 18 (by decide) (by decide) (by decide) (by decide) (by decide) (by decide)⟩
            simp only [dropAct, sl_self (show 18 < l.size by omega)]
            simp only [sl_ne (show 18 ≠ 0 by decide), sl_ne (show 18 ≠ 1 by decide), sl_ne (show 18 ≠ 2 by decide), sl_ne (show 18 ≠ 3 by decide), sl_ne (show 18 ≠ 4 by decide), sl_ne (show 18 ≠ 5 by decide), sl_ne (show 18 ≠ 6 by decide), sl_ne (show 18 ≠ 7 by decide), sl_ne (show 18 ≠ 8 by decide), sl_ne (show 18 ≠ 9 by decide), sl_ne (show 18 ≠ 10 by decide), sl_ne (show 18 ≠ 11 by decide), sl_ne (show 18 ≠ 12 by decide), sl_ne (show 18 ≠ 13 by decide), sl_ne (show 18 ≠ 14 by decide), sl_ne (show 18 ≠ 15 by decide), sl_ne (show 18 ≠ 16 by decide), sl_ne (show 18 ≠ 17 by decide), sl_ne (show 18 ≠ 19 by decide), sl_ne (show 18 ≠ 20 by decide), sl_ne (show 18 ≠ 21 by decide), sl_ne (show 18 ≠ 22 by decide), sl_ne (show 18 ≠ 23 by decide), sl_ne (show 18 ≠ 24 by decide), sl_on d9, sl_on d17]
          · -- 19
            clear hdep hoff
            refine wpOp_step rfl (fun K hK => ?_)
            simp only [dropAct]
            go_simp
            refine hK _ _ ⟨by simp [hsz], M, W'.heap.size, Z, A, cap, ?_, F.built⟩
            simp only [dropAct, sl_self (show 19 < l.size by omega)]
            simp only [sl_ne (show 19 ≠ 0 by decide), sl_ne (show 19 ≠ 1 by decide), sl_ne (show 19 ≠ 2 by decide), sl_ne (show 19 ≠ 3 by decide), sl_ne (show 19 ≠ 4 by decide), sl_ne (show 19 ≠ 5 by decide), sl_ne (show 19 ≠ 6 by decide), sl_ne (show 19 ≠ 7 by decide), sl_ne (show 19 ≠ 8 by decide), sl_ne (show 19 ≠ 9 by decide), sl_ne (show 19 ≠ 10 by decide), sl_ne (show 19 ≠ 11 by decide), sl_ne (show 19 ≠ 12 by decide), sl_ne (show 19 ≠ 13 by decide), sl_ne (show 19 ≠ 14 by decide), sl_ne (show 19 ≠ 15 by decide), sl_ne (show 19 ≠ 16 by decide), sl_ne (show 19 ≠ 17 by decide), sl_ne (show 19 ≠ 18 by decide), sl_ne (show 19 ≠ 20 by decide), sl_ne (show 19 ≠ 21 by decide), sl_ne (show 19 ≠ 22 by decide), sl_ne (show 19 ≠ 23 by decide), sl_ne (show 19 ≠ 24 by decide)]
          · -- 20
            clear hdep hoff
            refine wpOp_step rfl (fun K hK => ?_)
            simp only [dropAct]
            go_simp
            refine hK _ _ ⟨by simp [hsz], M, B, Z, A, cap, ?_, F.plain 20 (by decide) (by decide) (by decide) (by decide) (by decide) (by decide)⟩
            simp only [dropAct, sl_self (show 20 < l.size by omega)]
            simp only [sl_ne (show 20 ≠ 0 by decide), sl_ne (show 20 ≠ 1 by decide), sl_ne (show 20 ≠ 2 by decide), sl_ne (show 20 ≠ 3 by decide), sl_ne (show 20 ≠ 4 by decide), sl_ne (show 20 ≠ 5 by decide), sl_ne (show 20 ≠ 6 by decide), sl_ne (show 20 ≠ 7 by decide), sl_ne (show 20 ≠ 8 by decide), sl_ne (show 20 ≠ 9 by decide), sl_ne (show 20 ≠ 10 by decide), sl_ne (show 20 ≠ 11 by decide), sl_ne (show 20 ≠ 12 by decide), sl_ne (show 20 ≠ 13 by decide), sl_ne (show 20 ≠ 14 by decide), sl_ne (show 20 ≠ 15 by decide), sl_ne (show 20 ≠ 16 by decide), sl_ne (show 20 ≠ 17 by decide), sl_ne (show 20 ≠ 18 by decide), sl_ne (show 20 ≠ 19 by decide), sl_ne (show 20 ≠ 21 by decide), sl_ne (show 20 ≠ 22 by decide), sl_ne (show 20 ≠ 23 by decide), sl_ne (show 20 ≠ 24 by decide)]
          · -- 21
            have d20 : l.getD 20 false = true := by simpa [Region.binds] using hdep
            clear hdep hoff
            refine wpOp_step rfl (fun K hK => ?_)
            simp only [dropAct, sl_on d20]
            go_simp
            refine hK _ _ ⟨by simp [hsz], M, B, Z, A, cap, ?_, F.plain 21 (by decide) (by decide) (by decide) (by decide) (by decide) (by decide)⟩
            simp only [dropAct, sl_self (show 21 < l.size by omega)]
            simp only [sl_ne (show 21 ≠ 0 by decide), sl_ne (show 21 ≠ 1 by decide), sl_ne (show 21 ≠ 2 by decide), sl_ne (show 21 ≠ 3 by decide), sl_ne (show 21 ≠ 4 by decide), sl_ne (show 21 ≠ 5 by decide), sl_ne (show 21 ≠ 6 by decide), sl_ne (show 21 ≠ 7 by decide), sl_ne (show 21 ≠ 8 by decide), sl_ne (show 21 ≠ 9 by decide), sl_ne (show 21 ≠ 10 by decide), sl_ne (show 21 ≠ 11 by decide), sl_ne (show 21 ≠ 12 by decide), sl_ne (show 21 ≠ 13 by decide), sl_ne (show 21 ≠ 14 by decide), sl_ne (show 21 ≠ 15 by decide), sl_ne (show 21 ≠ 16 by decide), sl_ne (show 21 ≠ 17 by decide), sl_ne (show 21 ≠ 18 by decide), sl_ne (show 21 ≠ 19 by decide), sl_ne (show 21 ≠ 20 by decide), sl_ne (show 21 ≠ 22 by decide), sl_ne (show 21 ≠ 23 by decide), sl_ne (show 21 ≠ 24 by decide), sl_on d20]
          · -- 22
            obtain ⟨d19, d21⟩ : l.getD 19 false = true ∧ l.getD 21 false = true := by simpa [Region.binds] using hdep
            clear hdep hoff
            have h5' := cells_below h5 F.below
            have hB := F.b d19 hio
            obtain ⟨A', cap', w5, hrun, hown, hgr⟩ := append_cells (W := W') (B0 := B) (B := w4.heap.size) (c := c) h5' hB.1 hB.2 F.below.size hn40
            have h23 := F.off23 hio
            refine wpOp_step rfl (fun K hK => ?_)
            refine step_append_run (v := .slice (some ⟨B, 0, none⟩) 0 0) (y := .slice (some ⟨b, off, none⟩) n c) rfl (.tmp 43) (.tmp 45) 24 rfl ?hs ?hx hrun ?hk
            case hs => simp [dropAct, Act.eval, sl_on d19]
            case hx => simp [dropAct, Act.eval, sl_on d21]
            refine hK _ _ ⟨by simp [hsz], M, B, Z, A', cap', ?_, F.app hio (by omega) hB hown hgr⟩
            change Act.put _ (some 46) _ = _
            simp only [dropAct, Act.put, List.setIfInBounds_toArray, List.set_cons_zero, List.set_cons_succ, sl_on d19, sl_on d21, sl_self (show 22 < l.size by omega)]
            simp only [sl_ne (show 22 ≠ 0 by decide), sl_ne (show 22 ≠ 1 by decide), sl_ne (show 22 ≠ 2 by decide), sl_ne (show 22 ≠ 3 by decide), sl_ne (show 22 ≠ 4 by decide), sl_ne (show 22 ≠ 5 by decide), sl_ne (show 22 ≠ 6 by decide), sl_ne (show 22 ≠ 7 by decide), sl_ne (show 22 ≠ 8 by decide), sl_ne (show 22 ≠ 9 by decide), sl_ne (show 22 ≠ 10 by decide), sl_ne (show 22 ≠ 11 by decide), sl_ne (show 22 ≠ 12 by decide), sl_ne (show 22 ≠ 13 by decide), sl_ne (show 22 ≠ 14 by decide), sl_ne (show 22 ≠ 15 by decide), sl_ne (show 22 ≠ 16 by decide), sl_ne (show 22 ≠ 17 by decide), sl_ne (show 22 ≠ 18 by decide), sl_ne (show 22 ≠ 19 by decide), sl_ne (show 22 ≠ 20 by decide), sl_ne (show 22 ≠ 21 by decide), sl_ne (show 22 ≠ 23 by decide), sl_ne (show 22 ≠ 24 by decide), sl_on d19, sl_on d21, sl_off h23]
          · -- 23
            obtain ⟨d18, d22⟩ : l.getD 18 false = true ∧ l.getD 22 false = true := by simpa [Region.binds] using hdep
            clear hdep hoff
            refine wpOp_step rfl (fun K hK => ?_)
            simp only [dropAct, sl_on d18, sl_on d22]
            go_simp
            refine hK _ _ ⟨by simp [hsz], M, B, Z, A, cap, ?_, F.laid d22⟩
            simp only [dropAct, sl_self (show 23 < l.size by omega)]
            simp only [sl_ne (show 23 ≠ 0 by decide), sl_ne (show 23 ≠ 1 by decide), sl_ne (show 23 ≠ 2 by decide), sl_ne (show 23 ≠ 3 by decide), sl_ne (show 23 ≠ 4 by decide), sl_ne (show 23 ≠ 5 by decide), sl_ne (show 23 ≠ 6 by decide), sl_ne (show 23 ≠ 7 by decide), sl_ne (show 23 ≠ 8 by decide), sl_ne (show 23 ≠ 9 by decide), sl_ne (show 23 ≠ 10 by decide), sl_ne (show 23 ≠ 11 by decide), sl_ne (show 23 ≠ 12 by decide), sl_ne (show 23 ≠ 13 by decide), sl_ne (show 23 ≠ 14 by decide), sl_ne (show 23 ≠ 15 by decide), sl_ne (show 23 ≠ 16 by decide), sl_ne (show 23 ≠ 17 by decide), sl_ne (show 23 ≠ 18 by decide), sl_ne (show 23 ≠ 19 by decide), sl_ne (show 23 ≠ 20 by decide), sl_ne (show 23 ≠ 21 by decide), sl_ne (show 23 ≠ 22 by decide), sl_ne (show 23 ≠ 24 by decide), sl_on d18, sl_on d22]
          · -- 24
            clear hdep hoff
            refine wpOp_step rfl (fun K hK => ?_)
            simp only [dropAct]
            go_simp
            refine hK _ _ ⟨by simp [hsz], M, B, W'.heap.size, A, cap, ?_, F.room hio⟩
            simp only [dropAct, sl_self (show 24 < l.size by omega)]
            simp only [sl_ne (show 24 ≠ 0 by decide), sl_ne (show 24 ≠ 1 by decide), sl_ne (show 24 ≠ 2 by decide), sl_ne (show 24 ≠ 3 by decide), sl_ne (show 24 ≠ 4 by decide), sl_ne (show 24 ≠ 5 by decide), sl_ne (show 24 ≠ 6 by decide), sl_ne (show 24 ≠ 7 by decide), sl_ne (show 24 ≠ 8 by decide), sl_ne (show 24 ≠ 9 by decide), sl_ne (show 24 ≠ 10 by decide), sl_ne (show 24 ≠ 11 by decide), sl_ne (show 24 ≠ 12 by decide), sl_ne (show 24 ≠ 13 by decide), sl_ne (show 24 ≠ 14 by decide), sl_ne (show 24 ≠ 15 by decide), sl_ne (show 24 ≠ 16 by decide), sl_ne (show 24 ≠ 17 by decide), sl_ne (show 24 ≠ 18 by decide), sl_ne (show 24 ≠ 19 by decide), sl_ne (show 24 ≠ 20 by decide), sl_ne (show 24 ≠ 21 by decide), sl_ne (show 24 ≠ 22 by decide), sl_ne (show 24 ≠ 23 by decide)]
          · -- 25
            obtain ⟨d24, d23, d22⟩ : l.getD 24 false = true ∧ l.getD 23 false = true ∧ l.getD 22 false = true := by have := hdep; simp [Region.binds] at this; simp [this]
            clear hdep hoff
            obtain ⟨hz, hZ⟩ := F.z d24 hio
            have hz0 := (two_at hz).1
            have hz1 := (two_at hz).2
            have fz0 := hz.frozen 0
            have fz1 := hz.frozen 1
            refine wpOp_step rfl (fun K hK => ?_)
            simp only [dropAct, sl_on d23, sl_on d24]
            go_simp
            refine hK _ _ ⟨by simp [hsz], M, B, Z, A, cap, ?_, F.stored d22 d23 d24 hio (by omega)⟩
            simp only [dropAct]
            simp only [sl_ne (show 25 ≠ 0 by decide), sl_ne (show 25 ≠ 1 by decide), sl_ne (show 25 ≠ 2 by decide), sl_ne (show 25 ≠ 3 by decide), sl_ne (show 25 ≠ 4 by decide), sl_ne (show 25 ≠ 5 by decide), sl_ne (show 25 ≠ 6 by decide), sl_ne (show 25 ≠ 7 by decide), sl_ne (show 25 ≠ 8 by decide), sl_ne (show 25 ≠ 9 by decide), sl_ne (show 25 ≠ 10 by decide), sl_ne (show 25 ≠ 11 by decide), sl_ne (show 25 ≠ 12 by decide), sl_ne (show 25 ≠ 13 by decide), sl_ne (show 25 ≠ 14 by decide), sl_ne (show 25 ≠ 15 by decide), sl_ne (show 25 ≠ 16 by decide), sl_ne (show 25 ≠ 17 by decide), sl_ne (show 25 ≠ 18 by decide), sl_ne (show 25 ≠ 19 by decide), sl_ne (show 25 ≠ 20 by decide), sl_ne (show 25 ≠ 21 by decide), sl_ne (show 25 ≠ 22 by decide), sl_ne (show 25 ≠ 23 by decide), sl_ne (show 25 ≠ 24 by decide), sl_on d23, sl_on d24]
        case hdone =>
          rintro l a W' ⟨hsz, M, B, Z, A, cap, rfl, F⟩ hall0
          have hall : ∀ j, j < 26 → l.getD j false = true := fun j hj => on_of (hall0 j hj) (by omega)
          have d22 := hall 22 (by omega)
          have d25 := hall 25 (by omega)
          simp only [dropAct, sl_on (hall 0 (by omega)), sl_on (hall 1 (by omega)), sl_on (hall 2 (by omega)), sl_on (hall 3 (by omega)), sl_on (hall 4 (by omega)), sl_on (hall 5 (by omega)), sl_on (hall 6 (by omega)), sl_on (hall 7 (by omega)), sl_on (hall 8 (by omega)), sl_on (hall 9 (by omega)), sl_on (hall 10 (by omega)), sl_on (hall 11 (by omega)), sl_on (hall 12 (by omega)), sl_on (hall 13 (by omega)), sl_on (hall 14 (by omega)), sl_on (hall 15 (by omega)), sl_on (hall 16 (by omega)), sl_on (hall 17 (by omega)), sl_on (hall 18 (by omega)), sl_on (hall 19 (by omega)), sl_on (hall 20 (by omega)), sl_on (hall 21 (by omega)), sl_on (hall 22 (by omega)), sl_on (hall 23 (by omega)), sl_on (hall 24 (by omega))]
          have hst := F.st d25
          have hown := F.a d22
          have hbl := F.below
          rw [HDD.out] at hst
          clear F hall hall0 hsz d22 d25
          go_wp2_with fail
          go_meet
          case rel => exact ⟨Z, A, cap, rfl, hst.2, hst.1, hown, hbl⟩
      case rest =>
        obtain ⟨q, A, cap, rfl, hq, hrow, hown, hb9⟩ := hcut
        have bbA := bb4.trans (hb9.mono bb4.size)
        have m1 := i1.below hb9 i1.lt
        have m2 := i2.below hb9 i2.lt
        have m3 := rc4.below hb9 rc4.lt
        have hkr : k < L.length := by omega
        have hA := (hown.lt A rfl).1
        obtain ⟨f0, f1⟩ := two_at m1
        obtain ⟨k0, k1⟩ := two_at hrow
        have cg : wc.cell? ⟨q3, 2, none⟩ = some (.int .i64 x.gen) := m3.cell 2
        generalize hye : L.getD k cl0 = y at *
        have q0 := flatC_at L k 0 hkr (by omega)
        have q1 := flatC_at L k 1 hkr (by omega)
        have q2 := flatC_at L k 2 hkr (by omega)
        have q3' := flatC_at L k 3 hkr (by omega)
        rw [hye] at q0 q1 q2 q3'
        simp only [Nat.add_zero] at q0
        have t0 : wc.cell? ⟨A, k * 4, none⟩ = some (.int .i64 y.pos) := owns_at (k := k) (j := 0) hown q0
        have t1 : wc.cell? ⟨A, k * 4 + 1, none⟩ = some (.int .i64 y.len) := owns_at (k := k) (j := 1) hown q1
        have t2 : wc.cell? ⟨A, k * 4 + 2, none⟩ = some (.int .i64 y.gen) := owns_at (k := k) (j := 2) hown q2
        have t3 : wc.cell? ⟨A, k * 4 + 3, none⟩ = some (.bool y.live) := owns_at (k := k) (j := 3) hown q3'
        have z0 := owns_frozen hown (k * 4)
        have z1 := owns_frozen hown (k * 4 + 1)
        have z2 := owns_frozen hown (k * 4 + 2)
        have z3 := owns_frozen hown (k * 4 + 3)
        clear q0 q1 q2 q3' hye i0 i1 i2 rc4 e0 e1 c0 c1 h5 bb4 bc
        go_upto_region 6 with fail
        have neq : q ≠ A := fun e => own_ne hown hrow (by decide) (by rw [e]; rfl)
        have ne2 : w.heap.size + 1 + 1 ≠ A := by omega
        have pb : ∀ j, j ≠ A → (put4 wc A (k * 4) (.int .i64 0) (.int .i64 0) (.int .i64 x.gen) (.bool false)).heap[j]? = wc.heap[j]? := fun j hj =>
          (Below.heap_setCell _ _ _ _ (by simpa using hj)).trans ((Below.heap_setCell _ _ _ _ (by simpa using hj)).trans ((Below.heap_setCell _ _ _ _ (by simpa using hj)).trans (Below.heap_setCell _ _ _ _ (by simpa using hj))))
        have hr6 : RowAt (put4 wc A (k * 4) (.int .i64 0) (.int .i64 0) (.int .i64 x.gen) (.bool false)) q 26 #[.string (putData s P (dataZ W)), .slice (some ⟨A, 0, none⟩) n cap] := (pb q neq).trans hrow
        have i2' : RowAt (put4 wc A (k * 4) (.int .i64 0) (.int .i64 0) (.int .i64 x.gen) (.bool false)) (w.heap.size + 1 + 1) 26 #[.string ⟨#[]⟩, .slice none 0 0] := (pb _ ne2).trans m2
        have o6 : (put4 wc A (k * 4) (.int .i64 0) (.int .i64 0) (.int .i64 x.gen) (.bool false)).ownsRow w4.heap.size 35 4 (.slice (some ⟨A, 0, none⟩) n cap) n (flatC (L.set k ⟨0, 0, x.gen, false⟩)) := by
          rw [← flatC_set L k _ hkr]
          exact owns_set (owns_set (owns_set (owns_set hown)))
        have bb6 : Below w.heap.size w (put4 wc A (k * 4) (.int .i64 0) (.int .i64 0) (.int .i64 x.gen) (.bool false)) := (((bbA.setCell (p := ⟨A, k * 4, none⟩) (by simp only; omega) _).setCell (p := ⟨A, k * 4 + 1, none⟩) (by simp only; omega) _).setCell (p := ⟨A, k * 4 + 2, none⟩) (by simp only; omega) _).setCell (p := ⟨A, k * 4 + 3, none⟩) (by simp only; omega) _
        clear t0 t1 t2 t3 z0 z1 z2 z3 k0 k1 f0 f1 cg hrow hown m1 m2 m3 bbA pb
        unfold put4 at hr6 i2' o6 bb6
        generalize (((wc.setCell ⟨A, k * 4, none⟩ (.int .i64 0)).setCell ⟨A, k * 4 + 1, none⟩ (.int .i64 0)).setCell ⟨A, k * 4 + 2, none⟩ (.int .i64 x.gen)).setCell ⟨A, k * 4 + 3, none⟩ (.bool false) = w6 at *
        have u2 := row_ret (D := .string (putData s P (dataZ W))) (v := .slice (some ⟨A, 0, none⟩) n cap) i2' rfl
        obtain ⟨k0, k1⟩ := two_at hr6
        obtain ⟨e2, e3⟩ := two_at i2'
        obtain ⟨g0, g1'⟩ := two_at u2
        have f2 := i2'.frozen 0
        have f3 := i2'.frozen 1
        have o8 := Go.Joins.ownsRow_le (ownsRow_setCell_below (ownsRow_setCell_below o6 (a := ⟨w.heap.size + 1 + 1, 0, none⟩) (by simp only; omega) (.string (putData s P (dataZ W)))) (a := ⟨w.heap.size + 1 + 1, 1, none⟩) (by simp only; omega) (.slice (some ⟨A, 0, none⟩) n cap)) (base' := w.heap.size) (by omega)
        clear u2 i2' hr6 o6
        go_wp2
        exact bodyPost_ret (v := .tuple #[.agg #[.string (putData s P (dataZ W)), .slice (some ⟨A, 0, none⟩) n cap], .bool true]) (by simp [results, Try.results17, go_sem, g0, g1']) rfl (by rw [HOK.out, HD.out, HM.out]; exact ⟨_, rfl, by rw [List.length_set, hl]; exact o8, (bb6.setCell (by simp; omega) _).setCell (by simp; omega) _⟩)
end Go.Proofs.Ytjjpplpdpldkeaa
