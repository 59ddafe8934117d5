/- byScore leaves a world that has only grown (what slices.SortFunc's law asks of it). -/
import Derived.Test.YtinnjekfmlfdoaaDoorK4
import Derived.Sort.Grow
namespace Go.Proofs.YtinnjekfmlfdoaaDoor
open Go.RowKit Go.Sort

/-- Draws and new blocks. -/
def Grown (w w' : World) : Prop := ∃ q os, w' = grow (w.drewN q) os
theorem Grown.refl (w : World) : Grown w w := ⟨0, #[], by rw [grow_empty]; rfl⟩
theorem Grown.alloc {w w' : World} (h : Grown w w') (o : Obj) : Grown w (w'.alloc o) := by
  obtain ⟨q, os, rfl⟩ := h
  exact ⟨q, os.push o, by unfold grow World.alloc; simp only [Array.append_push]⟩
theorem Grown.drewN {w w' : World} (h : Grown w w') (n : Nat) : Grown w (w'.drewN n) := by
  obtain ⟨q, os, rfl⟩ := h
  exact ⟨q + n, os, by rw [← World.drewN_drewN]; rfl⟩

set_option maxHeartbeats 2000000 in
set_option maxRecDepth 100000 in
theorem byScore_grown (x y : Rk) (w : World) :
    Calls Tryd.prog 19 #[rkV x, rkV y] w fun e w' => e = .returned (.int .i64 (cmpR x y)) ∧ Grown w w' := by
  obtain ⟨xm, xs⟩ := x
  obtain ⟨ym, ys⟩ := y
  have HE : Hid (cmpR ⟨xm, xs⟩ ⟨ym, ys⟩ = if cmpI xs ys = 0 then Lib.compareBytes xm.data.toList ym.data.toList else cmpI xs ys) := rfl
  generalize cmpR ⟨xm, xs⟩ ⟨ym, ys⟩ = z at *
  have b0 : Below w.heap.size w ((w.alloc (.cells #[.string xm, .int .i64 xs] 30)).alloc (.cells #[.string ym, .int .i64 ys] 30)) := ((Below.refl _ w).alloc (Nat.le_refl _) _).alloc (by simp) _
  go_enter Tryd.func19, Tryd.ntmps19
  have r0 := (RowAt.new w 30 #[.string xm, .int .i64 xs]).below ((Below.refl _ _).alloc (Nat.le_refl _) (.cells #[.string ym, .int .i64 ys] 30)) (by simp)
  have r1 := RowAt.new (w.alloc (.cells #[.string xm, .int .i64 xs] 30)) 30 #[.string ym, .int .i64 ys]
  simp only [World.size_alloc] at r1
  have gw : Grown w ((w.alloc (.cells #[.string xm, .int .i64 xs] 30)).alloc (.cells #[.string ym, .int .i64 ys] 30)) := ((Grown.refl w).alloc _).alloc _
  have e0 := r0.cell 0
  have e1 := r0.cell 1
  have d0 := r1.cell 0
  have d1 := r1.cell 1
  simp only [List.getElem?_toArray, List.getElem?_cons_zero, List.getElem?_cons_succ] at e0 e1 d0 d1
  go_wp2_with fail
  generalize (w.alloc (.cells #[.string xm, .int .i64 xs] 30)).alloc (.cells #[.string ym, .int .i64 ys] 30) = W at *
  clear r0 r1
  generalize hc1 : cmpI xs ys = c1 at *
  have HC1 : Hid (cmpI xs ys = c1) := hc1
  generalize hc2 : Lib.compareBytes xm.data.toList ym.data.toList = c2 at *
  have HC2 : Hid (Lib.compareBytes xm.data.toList ym.data.toList = c2) := hc2
  clear hc1 hc2
  have HX : Hid (∀ W, Calls Tryd.prog 38 #[.int .i64 xs, .int .i64 ys] W fun e w' => e = .returned (.int .i64 c1) ∧ w' = W) := fun W => by
    have := cmpI_any xs ys W
    rwa [HC1.out] at this
  have HY : Hid (∀ W, Calls Tryd.prog 39 #[.string xm, .string ym] W fun e w' => e = .returned (.int .i64 c2) ∧ w' = W) := fun W => by
    have := cmpS_any xm ym W
    rwa [HC2.out] at this
  have HO : Hid (∀ g W, W.cell? ⟨g, 0, none⟩ = some (.int .i64 c1) → W.cell? ⟨g, 1, none⟩ = some (.int .i64 c2) → Calls Tryd.prog 37 #[.slice (some ⟨g, 0, none⟩) 2 2] W fun e w' => e = .returned (.int .i64 z) ∧ w' = W) := fun g W h0 h1 => by
    have := or_any c1 c2 g W h0 h1
    rwa [← HE.out] at this
  have kp : Hid (∀ o, (W.drew.alloc o).cell? ⟨w.heap.size, 0, none⟩ = some (.string xm) ∧ (W.drew.alloc o).cell? ⟨w.heap.size, 1, none⟩ = some (.int .i64 xs) ∧ (W.drew.alloc o).cell? ⟨w.heap.size + 1, 0, none⟩ = some (.string ym) ∧ (W.drew.alloc o).cell? ⟨w.heap.size + 1, 1, none⟩ = some (.int .i64 ys)) := fun o => ⟨kept e0, kept e1, kept d0, kept d1⟩
  go_region_held3 (fun W' => W'.cell? ⟨w.heap.size, 0, none⟩ = some (.string xm) ∧ W'.cell? ⟨w.heap.size, 1, none⟩ = some (.int .i64 xs) ∧ W'.cell? ⟨w.heap.size + 1, 0, none⟩ = some (.string ym) ∧ W'.cell? ⟨w.heap.size + 1, 1, none⟩ = some (.int .i64 ys))
    (first
      | exact ⟨e0, e1, d0, d1⟩
      | exact kp.out _)
    (first
      | (go_at_call 38
         refine (HX.out _).mono ?_
         rintro e w' ⟨rfl, rfl⟩)
      | (go_at_call 39
         refine (HY.out _).mono ?_
         rintro e w' ⟨rfl, rfl⟩)
      | (go_at_call 37
         refine (HO.out _ _ ((RowAt.new _ _ _).cell 0) ((RowAt.new _ _ _).cell 1)).mono ?_
         rintro e w' ⟨rfl, rfl⟩))
  all_goals
    go_wp2
    go_ret
    exact ⟨rfl, (gw.drewN 1).alloc _⟩


end Go.Proofs.YtinnjekfmlfdoaaDoor
