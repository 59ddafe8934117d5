/- FnExactServerOk: the law's walk. -/
import Derived.Test.YtjgmkbldclangaaGreatDoorT1
import Derived.Deep.RegionWith
namespace Go.Proofs.YtjgmkbldclangaaGreatDoor
open Go.RowKit Go.Sort
open _root_.Go.Proofs.YtjgmkbldclangaaGreatDoor.Fd (ListsB ListsU SmallQ sessV sessB)

set_option maxHeartbeats 4000000 in
set_option maxRecDepth 100000 in
theorem server_walk (a1 a2 : Option Addr) (n1 n2 c1 c2 : Nat) (now : Int) (L : List KV) (C : List CV) (w : World) (hr : Fd.Ready w) (h : SvIn w a1 n1 a2 n2 L C) (hl : SvLen n1 n2 L C) (hf : ∀ i, i < n1 → Kk.FitL (L.getD i kv0).key.val.ranks) :
    Calls Tryz.prog 3 #[.agg #[.slice a1 n1 c1, .int .i64 now, .slice a2 n2 c2]] w fun e w' => e = .returned (.bool true) ∧ Below w.heap.size w w' := by
  have HB : Hid (SvIn w a1 n1 a2 n2 L C) := h
  have HL : Hid (SvLen n1 n2 L C) := hl
  have HF : Hid (∀ i, i < n1 → Kk.FitL (L.getD i kv0).key.val.ranks) := hf
  have HRW : Hid (Fd.Ready w) := hr
  have hsix := hr.six
  clear h hf hr hl
  have b0 : Below w.heap.size w (w.alloc (.cells #[.slice a1 n1 c1, .int .i64 now, .slice a2 n2 c2] 25)) := (Below.refl _ w).alloc (Nat.le_refl _) _
  have q0 := RowAt.new w 25 #[.slice a1 n1 c1, .int .i64 now, .slice a2 n2 c2]
  have HB1 : Hid (SvIn (w.alloc (.cells #[.slice a1 n1 c1, .int .i64 now, .slice a2 n2 c2] 25)) a1 n1 a2 n2 L C) := HB.out.below b0
  obtain ⟨e0, e1, e2⟩ := at3 q0
  have l0 := q0.lt
  go_enter Tryz.func3, Tryz.ntmps3
  go_wp2_with fail
  generalize w.alloc (.cells #[.slice a1 n1 c1, .int .i64 now, .slice a2 n2 c2] 25) = w1 at *
  refine (szServer_any a1 a2 n1 n2 c1 c2 now L C w1 HB1.out HL.out).mono ?_
  rintro e w2 ⟨⟨r, rfl, hr⟩, b2⟩
  have HR : Hid (r < 0 ∨ SvGood n1 n2 L C) := hr
  have s2 := b2.size
  have bb2 := b0.trans (b2.mono (by omega))
  have q2 := RowAt.below q0 b2 (by omega)
  have HB2 : Hid (SvIn w2 a1 n1 a2 n2 L C) := HB1.out.below b2
  clear e0 e1 e2 hr b2
  obtain ⟨e0, e1, e2⟩ := at3 q2
  by_cases hneg : r < 0
  · have hd : decide (r < 0) = true := decide_eq_true hneg
    go_wp2
    go_ret
    exact ⟨rfl, bb2⟩
  · have hd : decide (r < 0) = false := decide_eq_false hneg
    have HG : Hid (SvGood n1 n2 L C) := HR.out.resolve_left hneg
    clear HR
    have hn1 : n1 ≤ 1048576 := HG.out.len1
    have hn2 : n2 ≤ 1048576 := HG.out.len2
    go_wp2_with fail
    refine (toServer_any a1 a2 n1 n2 c1 c2 now L C w2 HB2.out HG.out).mono ?_
    rintro e w3 ⟨x1, x2, A, D, rfl, g3, b3⟩
    have G3 : Hid (SvCopy w3 x1 x2 n1 n2 A D L C) := g3
    have s3 := b3.size
    have bb3 := bb2.trans (b3.mono (by omega))
    have q3 := RowAt.below q2 b3 (by omega)
    have HB3 : Hid (SvIn w3 a1 n1 a2 n2 L C) := HB2.out.below b3
    clear e0 e1 e2 b3 g3
    go_wp2_with fail
    refine (specServer_any _ _ x1 x2 0 n1 n2 n1 n2 A D now w3 G3.out.db (small_copy G3.out HG.out HF.out) (by omega) G3.out.cls (good_copy G3.out HG.out) (by omega)).mono ?_
    rintro e w4 ⟨rfl, b4⟩
    have s4 := b4.size
    have bb4 := bb3.trans (b4.mono (by omega))
    have q4 := RowAt.below q3 b4 (by omega)
    have HB4 : Hid (SvIn w4 a1 n1 a2 n2 L C) := HB3.out.below b4
    obtain ⟨e0, e1, e2⟩ := at3 q4
    clear b4
    have HSE : Hid (∀ W b3 b4 A' D', SvCopy W b3 b4 n1 n2 A' D' L C → serverB A' now D' = serverB A now D) := fun W b3 b4 A' D' h' => server_copy now h' G3.out
    generalize hsb : serverB A now D = sb at *
    clear hsb G3
    go_wp2_with fail
    refine (toServer_any a1 a2 n1 n2 c1 c2 now L C w4 HB4.out HG.out).mono ?_
    rintro e w5 ⟨p1, p2, A2, D2, rfl, g5, b5⟩
    have s5 := b5.size
    have bb5 := bb4.trans (b5.mono (by omega))
    have q5 := RowAt.below q4 b5 (by omega)
    have ba : Below w5.heap.size w5 (w5.alloc (.cells #[.slice (some ⟨p1, 0, none⟩) n1 n1, .int .i64 now, .slice (some ⟨p2, 0, none⟩) n2 n2] 31)) := (Below.refl _ w5).alloc (Nat.le_refl _) _
    have rg := RowAt.new w5 31 #[.slice (some ⟨p1, 0, none⟩) n1 n1, .int .i64 now, .slice (some ⟨p2, 0, none⟩) n2 n2]
    have lg := rg.lt
    have q6 := RowAt.below q5 ba (by omega)
    have HB6 : Hid (SvIn (w5.alloc (.cells #[.slice (some ⟨p1, 0, none⟩) n1 n1, .int .i64 now, .slice (some ⟨p2, 0, none⟩) n2 n2] 31)) a1 n1 a2 n2 L C) := (HB4.out.below b5).below ba
    have G6 : Hid (SvCopy (w5.alloc (.cells #[.slice (some ⟨p1, 0, none⟩) n1 n1, .int .i64 now, .slice (some ⟨p2, 0, none⟩) n2 n2] 31)) p1 p2 n1 n2 A2 D2 L C) := g5.below ba
    have s6 := ba.size
    have bb6 := bb5.trans (ba.mono (by omega))
    have R6 : Hid (Fd.Ready (w5.alloc (.cells #[.slice (some ⟨p1, 0, none⟩) n1 n1, .int .i64 now, .slice (some ⟨p2, 0, none⟩) n2 n2] 31))) := HRW.out.below (bb6.mono hsix)
    have HSB : Hid (serverB A2 now D2 = sb) := HSE.out _ _ _ _ _ g5
    clear e0 e1 e2 HSE
    obtain ⟨k0, k1, k2⟩ := at3 rg
    go_wp2_with fail
    generalize hG : w5.heap.size = G at *
    generalize w5.alloc (.cells #[.slice (some ⟨p1, 0, none⟩) n1 n1, .int .i64 now, .slice (some ⟨p2, 0, none⟩) n2 n2] 31) = w6 at *
    refine (implServer_any _ _ p1 p2 0 n1 n2 n1 n2 A2 D2 now w6 G6.out.db (small_copy G6.out HG.out HF.out) (by omega) G6.out.cls (good_copy G6.out HG.out) (by omega) R6.out).mono ?_
    rintro e w7 ⟨rfl, b7⟩
    rw [HSB.out]
    have s7 := b7.size
    have bb7 := bb6.trans (b7.mono (by omega))
    have q7 := RowAt.below q6 b7 (by omega)
    have rg7 := RowAt.below rg b7 (by omega)
    have HB7 : Hid (SvIn w7 a1 n1 a2 n2 L C) := HB6.out.below b7
    have G7 : Hid (SvCopy w7 p1 p2 n1 n2 A2 D2 L C) := G6.out.below b7
    clear k0 k1 k2
    obtain ⟨e0, e1, e2⟩ := at3 q7
    obtain ⟨k0, k1, k2⟩ := at3 rg7
    clear b7 b5 ba q0 q2 q3 q4 q5 q6 rg g5 HB6 G6 HB4 HB3 HB2 HB1 HB R6 bb2 bb3 bb4 bb5 bb6
    have hne : decide (sb ≠ sb) = false := by simp
    go_wp2_with fail
    have bd : Below w7.heap.size w7 w7.drew := below_drewN (Below.refl _ _) 1
    have HBd : Hid (SvIn w7.drew a1 n1 a2 n2 L C) := HB7.out.below bd
    go_region_with (first
      | (go_at_call 6; refine (toServer_any a1 a2 n1 n2 c1 c2 now L C _ HBd.out HG.out).mono ?_; rintro e w8 ⟨r1, r2, A3, D3, rfl, g8, b8⟩; have b78 : Below w7.heap.size w7 w8 := bd.trans b8; have bb8 := bb7.trans (b78.mono (by omega)); obtain ⟨m0, m1, m2⟩ := at3 (RowAt.below rg7 b78 (by omega)); have G8 : Hid (SvCopy w8 p1 p2 n1 n2 A2 D2 L C) := G7.out.below b78; have H8 : Hid (SvCopy w8 r1 r2 n1 n2 A3 D3 L C) := g8)
      | (go_at_call 8; refine (eqServer_any p1 p2 r1 r2 n1 n2 now A2 A3 L D2 D3 C _ G8.out H8.out HG.out HF.out).mono ?_; rintro e w9 ⟨rfl, b9⟩; have bb9 := bb8.trans (b9.mono (by have := b78.size; omega))))
    all_goals
      go_wp2
      go_ret
      exact ⟨rfl, bb9⟩
end Go.Proofs.YtjgmkbldclangaaGreatDoor
