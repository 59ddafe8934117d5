/- impl.ReadValue. -/
import Derived.Test.YticajcagcdbgpaaGreatDoorV7
namespace Go.Proofs.YticajcagcdbgpaaGreatDoor
open Go.RowKit Go.Sort
open Kk (Rk rk0 texL texR decS scoreB rightB ranksB OwnR flatR encR)

/-- How a reading of a value ends: the value, in memory of its own, and whether it is one. -/
def ValEnd (w : World) (r : Vl × Bool) (e : Ending) (w' : World) : Prop :=
  ∃ vi vp vr, e = .returned (.tuple #[vlV r.1.kind r.1.text vi vp vr, .bool r.2]) ∧ OwnS w' w.heap.size vi r.1.items ∧ OwnP w' w.heap.size vp r.1.pairs ∧ OwnR w' w.heap.size vr r.1.ranks ∧ Below w.heap.size w w'

theorem val_zero {w w' : World} (hb : Below w.heap.size w w') : ValEnd w (vl0, false) (.returned (.tuple #[vlV 0 ⟨#[]⟩ nilS nilS nilS, .bool false])) w' :=
  ⟨nilS, nilS, nilS, rfl, ownS_nil _ _, ownP_nil _ _, Kk.ownR_nil _ _, hb⟩

set_option maxHeartbeats 2000000 in
set_option maxRecDepth 100000 in
theorem readV_empty (s : ByteArray) (w : World) (h : s.size = 0) : Calls Tryz.prog 7 #[.string s] w (ValEnd w (vl0, false)) := by
  have he := empty_yes h
  go_enter Tryz.func7, Tryz.ntmps7
  go_wp2
  exact bodyPost_ret (v := .tuple #[vlV 0 ⟨#[]⟩ nilS nilS nilS, .bool false]) (by simp [results, Tryz.results7, go_sem]) rfl (val_zero ((Below.refl _ w).alloc (Nat.le_refl _) _))

set_option maxHeartbeats 2000000 in
set_option maxRecDepth 100000 in
theorem readV_bad (s r : ByteArray) (w : World) (h : 0 < s.size) (hs : s.size ≤ 1048576) (hr : s.extract 1 s.size = r) (hm : ∀ W, Calls Tryz.prog 17 #[.string r] W fun e w' => e = .returned (.tuple #[nilS, .bool false]) ∧ Below W.heap.size W w') :
    Calls Tryz.prog 7 #[.string s] w (ValEnd w (vl0, false)) := by
  have he := empty_no h
  have h1 : (1 : Int) ≤ (s.size : Int) := by omega
  have HM : Hid (∀ W, Calls Tryz.prog 17 #[.string r] W fun e w' => e = .returned (.tuple #[nilS, .bool false]) ∧ Below W.heap.size W w') := hm
  have HX : Hid (s.extract 1 s.size = r) := hr
  have HZ : Hid (RowAt (w.alloc (.cells z5 28)) w.heap.size 28 z5) := RowAt.new w 28 z5
  have HB : Hid (Below w.heap.size w (w.alloc (.cells z5 28))) := (Below.refl _ w).alloc (Nat.le_refl _) _
  clear hm hr
  go_enter Tryz.func7, Tryz.ntmps7
  go_wp2_with fail
  rw [HX.out]
  refine (HM.out _).mono ?_
  rintro e w1 ⟨rfl, b1⟩
  have b2 : Below w.heap.size w w1 := HB.out.trans (b1.mono (by simp))
  have hz : RowAt w1 w.heap.size 28 z5 := RowAt.below HZ.out b1 (by simp)
  have c0 := hz.cell 0
  have c1 := hz.cell 1
  have c2 := hz.cell 2
  have c3 := hz.cell 3
  have c4 := hz.cell 4
  have f0 := hz.frozen 0
  have f1 := hz.frozen 1
  have f2 := hz.frozen 2
  have f3 := hz.frozen 3
  have f4 := hz.frozen 4
  simp at c0 c1 c2 c3 c4
  clear b1 HZ HB hz
  go_wp2
  exact bodyPost_ret (v := .tuple #[vlV 0 ⟨#[]⟩ nilS nilS nilS, .bool false]) (by simp [results, Tryz.results7, go_sem, c0, c1, c2, c3, c4]) rfl (val_zero (res5_below b2 _ _ _ _ _ _ (Nat.le_refl _)))
end Go.Proofs.YticajcagcdbgpaaGreatDoor
