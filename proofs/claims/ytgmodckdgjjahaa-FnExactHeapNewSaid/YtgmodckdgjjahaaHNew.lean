/- PROVED: FnExactHeapNew returns true at every number: impl.HeapNew answers as the specification, and its answer owns its memory. No condition. -/
import Derived.Test.YtgmodckdgjjahaaHN
import Derived.ProofKit
import Derived.Lib.SmallJoins
namespace Go.Proofs.Ytgmodckdgjjahaa
open Go.ChangeShapes Go.WideShapes Go.ChangeAt Go.RowKit

theorem eqCells0 (w : World) : Calls Try.prog 30 #[.slice none 0 0, .slice none 0 0] w fun e w' => e = .returned (.bool true) ∧ w' = w := by
  go_enter Try.func30, Try.ntmps30
  go_wp2
  refine wp_loop_rounds 1 ?_
  rw [rounds_succ]
  go_wp2
  go_ret
  exact ⟨rfl, rfl⟩

theorem markCells0 (m : Int) (w : World) : Calls Try.prog 31 #[.slice none 0 0, .int .i64 m] w fun e w' => e = .returned (.int .i64 m) ∧ w' = w := by
  go_enter Try.func31, Try.ntmps31
  go_wp2
  refine wp_loop_rounds 1 ?_
  rw [rounds_succ]
  go_wp2
  go_ret
  exact ⟨rfl, rfl⟩

theorem heldCells0 (m : Int) (w : World) : Calls Try.prog 32 #[.slice none 0 0, .int .i64 m] w fun e w' => e = .returned (.int .i64 m) ∧ w' = w := by
  go_enter Try.func32, Try.ntmps32
  go_wp2
  refine wp_loop_rounds 1 ?_
  rw [rounds_succ]
  go_wp2
  go_ret
  exact ⟨rfl, rfl⟩

set_option maxHeartbeats 400000 in
theorem eqHeap0 (s : ByteArray) (w : World) : Calls Try.prog 11 #[.agg #[.string s, .slice none 0 0], .agg #[.string s, .slice none 0 0]] w fun e w' => e = .returned (.bool true) ∧ Below w.heap.size w w' := by
  go_enter Try.func11, Try.ntmps11
  go_wp2_with fail
  refine (eqCells0 _).mono ?_
  rintro e w1 ⟨rfl, rfl⟩
  go_wp2
  go_ret
  exact ⟨rfl, Go.Joins.below_alloc2 _ _ _⟩

set_option maxHeartbeats 400000 in
theorem markHeap0 (s : ByteArray) (m : Int) (w : World) : Calls Try.prog 12 #[.agg #[.string s, .slice none 0 0], .int .i64 m] w fun e w' => e = .returned (.int .i64 m) ∧ Below w.heap.size w w' := by
  go_enter Try.func12, Try.ntmps12
  go_wp2_with fail
  refine (markCells0 m _).mono ?_
  rintro e w1 ⟨rfl, rfl⟩
  go_wp2
  go_ret
  exact ⟨rfl, (Below.refl _ _).alloc (Nat.le_refl _) _⟩

set_option maxHeartbeats 400000 in
theorem heldHeap0 (s : ByteArray) (w : World) : Calls Try.prog 13 #[.agg #[.string s, .slice none 0 0], .int .i64 1] w fun e w' => e = .returned (.int .i64 1) ∧ Below w.heap.size w w' := by
  go_enter Try.func13, Try.ntmps13
  go_wp2_with fail
  refine (heldCells0 1 _).mono ?_
  rintro e w1 ⟨rfl, rfl⟩
  go_wp2
  go_ret
  exact ⟨rfl, (Below.refl _ _).alloc (Nat.le_refl _) _⟩

/-- A struct of two cells that was stored: what stands there. -/
theorem stored2 {w : World} {g : Nat} {T : TypeId} {x y : Value} (h : RowAt w g T #[x, y]) : w.cell? ⟨g, 0, none⟩ = some x ∧ w.cell? ⟨g, 1, none⟩ = some y := by
  have a := h.cell 0
  have b := h.cell 1
  simp at a b
  exact ⟨a, b⟩

set_option maxHeartbeats 4000000 in
set_option maxRecDepth 100000 in
theorem walk (n : Int) (w : World) : Calls Try.prog 3 #[.int .i64 n] w fun e w' => e = .returned (.bool true) ∧ Below w.heap.size w w' := by
  have HS := fun w => specNew n w
  have HI := fun w => implNew n w
  generalize (newM n).1 = s at *
  generalize (newM n).2 = b at *
  go_enter Try.func3, Try.ntmps3
  go_wp2_with fail
  refine (HS w).mono ?_
  rintro e w1 ⟨rfl, b1⟩
  go_wp2_with fail
  have ba1 : Below w1.heap.size w1 (w1.alloc (.cells #[.string s, .slice none 0 0] 24)) := (Below.refl _ w1).alloc (Nat.le_refl _) _
  have r3 := RowAt.new w1 24 #[.string s, .slice none 0 0]
  have l3 := r3.lt
  generalize hg3 : w1.heap.size = g3 at *
  generalize w1.alloc (.cells #[.string s, .slice none 0 0] 24) = w2 at *
  have bb2 : Below w.heap.size w w2 := b1.trans (ba1.mono (by have := b1.size; omega))
  have s2 := bb2.size
  refine (HI w2).mono ?_
  rintro e w3 ⟨rfl, b3⟩
  have s3 := b3.size
  have bb3 := bb2.trans (b3.mono s2)
  have r3 := r3.below b3 l3
  have lt3 : g3 < w3.heap.size := by omega
  obtain ⟨c30, c31⟩ := stored2 r3
  have R3 : Hid (RowAt w3 g3 24 #[.string s, .slice none 0 0]) := r3
  clear r3
  go_wp2_with fail
  clear c30 c31
  have ba4 : Below w3.heap.size w3 (w3.alloc (.cells #[.string s, .slice none 0 0] 24)) := (Below.refl _ w3).alloc (Nat.le_refl _) _
  have r5 := RowAt.new w3 24 #[.string s, .slice none 0 0]
  have l5 := r5.lt
  have r3 := R3.out.below ba4 (by omega)
  generalize hg5 : w3.heap.size = g5 at *
  generalize w3.alloc (.cells #[.string s, .slice none 0 0] 24) = w4 at *
  have bb4 := bb3.trans (ba4.mono (by omega))
  have s4 := ba4.size
  refine (eqHeap0 s w4).mono ?_
  rintro e w5 ⟨rfl, b5⟩
  have s5 := b5.size
  have bb5 := bb4.trans (b5.mono (by omega))
  obtain ⟨c50, c51⟩ := stored2 (r5.below b5 l5)
  go_wp2_with fail
  refine (markHeap0 s 1 w5).mono ?_
  rintro e w6 ⟨rfl, b6⟩
  have s6 := b6.size
  have bb6 := bb5.trans (b6.mono (by omega))
  clear c50 c51
  obtain ⟨c50, c51⟩ := stored2 ((r5.below b5 l5).below b6 (by omega))
  go_wp2_with fail
  refine (heldHeap0 s w6).mono ?_
  rintro e w7 ⟨rfl, b7⟩
  have s7 := b7.size
  have bb7 := bb6.trans (b7.mono (by omega))
  clear c50 c51
  go_wp2_with fail
  refine (HI w7).mono ?_
  rintro e w8 ⟨rfl, b8⟩
  have s8 := b8.size
  have bb8 := bb7.trans (b8.mono (by omega))
  have r58 := (((r5.below b5 l5).below b6 (by omega)).below b7 (by omega)).below b8 (by omega)
  have r38 := ((((r3.below b5 (by omega))).below b6 (by omega)).below b7 (by omega)).below b8 (by omega)
  obtain ⟨c30, c31⟩ := stored2 r38
  have lt38 := r38.lt
  have R5 : Hid (RowAt w8 g5 24 #[.string s, .slice none 0 0]) := r58
  clear r58 r38 r3 r5 R3
  go_wp2_with fail
  clear c30 c31
  have ba9 : Below w8.heap.size w8 (w8.alloc (.cells #[.string s, .slice none 0 0] 24)) := (Below.refl _ w8).alloc (Nat.le_refl _) _
  have r59 := R5.out.below ba9 (by omega)
  have s9 := ba9.size
  generalize w8.alloc (.cells #[.string s, .slice none 0 0] 24) = w9 at *
  have bb9 := bb8.trans (ba9.mono (by omega))
  refine (eqHeap0 s w9).mono ?_
  rintro e wa ⟨rfl, ba⟩
  have sa := ba.size
  have bba := bb9.trans (ba.mono (by omega))
  obtain ⟨c50, c51⟩ := stored2 (r59.below ba (by omega))
  go_wp2_with fail
  refine (heldHeap0 s wa).mono ?_
  rintro e wb ⟨rfl, bb⟩
  have bbb := bba.trans (bb.mono (by omega))
  clear c50 c51
  go_wp2
  go_ret
  exact ⟨rfl, bbb⟩

theorem own : ownKnob Try.prog.godebug = none := by kernel_rfl

set_option maxRecDepth 100000 in
theorem lifted (os : Os) (started : os.Started) (H : Type) (enc : TypeId × Value → H) :
    ReturnsInHanded {} Try.checked os 3 .any (Rows.fnExactHeapNewSpec.pre6 enc Try.prog Try.f3 Rows.fnExactHeapNewRow.domain false) (Rows.fnExactHeapNewSpec.post enc Try.prog Try.f3 false true false false) := by
  refine returnsInHanded_of_change (C := Try.checked) own started (by kernel_rfl) Try.func3
    (ChangeSpec.witness6 (enc := enc) (C := Try.checked) false ⟨#[], #[.int .i64 0], []⟩ 8 (by kernel_rfl) (by kernel_rfl) (by kernel_rfl) (by kernel_rfl)) ?_
  intro W base args ds gs before hval0 hW _ _
  have hval : ∀ (j : Nat) t v, Try.f3.params[j]? = some t → args[j]? = some v → Value.okWide Try.prog W .any base t v := hval0
  have hW' := hW
  obtain ⟨p, q, hA0, hV, rfl, hfz, hnd⟩ := hW
  have hA : DataW.TrodAll enc Try.prog W 0 (fun _ => true) true Try.f3.params.toList args.toList ds p := hA0
  rw [Try.params3] at hA hval
  obtain ⟨v0, vs0, d0, ds0, p0, q0, hargs, rfl, rfl, h0, r0⟩ := trodAll_cons hA
  obtain ⟨rfl, rfl, rfl⟩ := trodAll_nil r0
  obtain rfl : args = #[v0] := by cases args; simp_all
  obtain ⟨rfl, rfl⟩ := trodVars_none hV
  obtain ⟨a0, rfl, rfl, rfl, w0⟩ := open_int Try.underlying2 (hval 0 2 v0 rfl rfl) h0
  clear hA0 hval0
  simp only [List.append_nil] at hW'
  refine (walk a0 W).mono fun e W' ⟨he, bel⟩ => ?_
  subst he
  exact ⟨_, rfl, _, _, _, [], _, [], hW', trodAll_mk1 (shut_bool Try.underlying4 _), trodAll_mk1 (shut_int Try.underlying2 w0), rfl, bel.frame _, fun h => by cases h⟩

theorem heapNew_holds : Rows.FnExactHeapNewSaid :=
  OpenClaim.holds_of_wide 3 Try.f3 rfl rfl rfl rfl rfl rfl rfl ⟨rfl, rfl, rfl, rfl, rfl⟩ rfl rfl rfl rfl rfl (by kernel_rfl) Try.func3 (by kernel_rfl)
    (of_decide_eq_true (by kernel_rfl)) (by unfold Func.isWrapper; first | (rw [if_pos (by decide +kernel)]; kernel_rfl) | (rw [if_neg (by decide +kernel)]; exact ⟨rfl, rfl⟩))
    (fun os started H enc _ => lifted os started H enc)
#print axioms heapNew_holds
end Go.Proofs.Ytgmodckdgjjahaa
