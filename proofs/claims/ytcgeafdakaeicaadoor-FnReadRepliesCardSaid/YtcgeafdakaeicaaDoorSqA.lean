/- The specification's add. -/
import Derived.Test.YtcgeafdakaeicaaDoorRrG
import Derived.Test.YtcgeafdakaeicaaDoorS4
namespace Go.Proofs.YtcgeafdakaeicaaDoor
open Go.RowKit Go.Sort
open Rp (Nd nd0 plainB numB fieldsB)

def addC (c : Int) (n : Nat) : Int := if c = 0 ∧ 1000 < n then 2 else c

def AddEnd (w : World) (rb : Nat) (s : ByteArray) (at_ B : Nat) (c : Int) (V : Value) (P : List Nv) (x : Nd) (K : Value) (e : Ending) (w' : World) : Prop :=
  ∃ V', e = .returned (.int .i64 P.length) ∧ S4 V' w' rb s at_ (addC c (P.length + 1)) ∧ OwnN w' B V' (P ++ [(x, K)]) ∧ Fr w w' rb V ∧ Nw w V V'

set_option maxHeartbeats 4000000 in
set_option maxRecDepth 100000 in
theorem spAdd (s : ByteArray) (at_ rb B : Nat) (c : Int) (V : Value) (P : List Nv) (x : Nd) (K : Value) (w : World) (h : S4 V w rb s at_ c) (hBw : B ≤ w.heap.size) (ho : OwnN w B V P) (hk : w.ownsRow B 2 1 K x.kids.length (intVals x.kids)) (ha : Apart K P) (hn : P.length ≤ 2000) :
    Calls Tryd.prog 67 #[.pointer (some ⟨rb, 0, none⟩), .agg (nodeC x K)] w fun e w' => AddEnd w rb s at_ B c V P x K e w' := by
  obtain ⟨ka, kc, hK⟩ := own_form hk
  obtain ⟨va, vc, hV⟩ := own_form ho.row
  obtain ⟨N, hN⟩ : ∃ N, P.length = N := ⟨_, rfl⟩
  have hlt : rb < w.heap.size := RowAt.lt h
  have hbl : Below w.heap.size w (w.alloc (.cells (nodeC x K) 44)).drew := below_drewN ((Below.refl _ w).alloc (Nat.le_refl _) _) 1
  obtain ⟨v', w5, hrun0, o5, keep5, q1, q2, q3, q4, n5⟩ := app_node (w := (w.alloc (.cells (nodeC x K) 44)).drew) (x := x) (ho.below hbl (Nat.le_refl _)) (owns_block (w' := (w.alloc (.cells (nodeC x K) 44)).drew) hk (fun g hg => hbl.block g (own_lt hk hg).2)) ha (by omega) (by have := hbl.size; omega)
  have hsz : (w.alloc (.cells (nodeC x K) 44)).heap.size = w.heap.size + 1 := by simp
  have r0 : S4 V (w.alloc (.cells (nodeC x K) 44)).drew rb s at_ c := RowAt.below h hbl hlt
  have r5 : S4 V w5 rb s at_ c := (keep5 rb (by show rb < (w.alloc (.cells (nodeC x K) 44)).heap.size; omega) (fun e => own_row ho.row h (by decide) e rfl)).trans r0
  have r6 : S4 v' (w5.setCell ⟨rb, 3, none⟩ v') rb s at_ c := by
    have := RowAt.set r5 3 v'
    simpa [S4] using this
  have g6 := grown_set w5 rb 3 v'
  have o6 : OwnN (w5.setCell ⟨rb, 3, none⟩ v') B v' (P ++ [(x, K)]) := o5.grown r5 (by decide) (by decide) g6
  have f6 : Fr w (w5.setCell ⟨rb, 3, none⟩ v') rb V := by
    have f5 : Fr (w.alloc (.cells (nodeC x K) 44)).drew w5 rb V := ⟨q1, q2, q3, q4, fun j hj _ hv => keep5 j hj hv⟩
    exact (Fr.of_below rb V hbl).trans (f5.trans (Fr.of_grown V g6) (Nw.refl _ _)) (Nw.refl _ _)
  have n6 : Nw w V v' := fun k hk => by
    rcases n5 k hk with e | e
    · exact .inl e
    · exact .inr (by have : (w.alloc (.cells (nodeC x K) 44)).heap.size ≤ k := e; omega)
  have HE : Hid (AddEnd w rb s at_ B c V P x K (.returned (.int .i64 N)) (if addC c (N + 1) = c then w5.setCell ⟨rb, 3, none⟩ v' else (w5.setCell ⟨rb, 3, none⟩ v').setCell ⟨rb, 2, none⟩ (.int .i64 2))) := by
    unfold Hid AddEnd
    rw [hN]
    by_cases hc : addC c (N + 1) = c
    · rw [if_pos hc, hc]
      exact ⟨v', rfl, r6, o6, f6, n6⟩
    · rw [if_neg hc]
      have h2 : addC c (N + 1) = 2 := by
        unfold addC at hc ⊢
        by_cases hcc : c = 0 ∧ 1000 < N + 1
        · rw [if_pos hcc]
        · rw [if_neg hcc] at hc; exact absurd rfl hc
      rw [h2]
      have g7 := grown_set (w5.setCell ⟨rb, 3, none⟩ v') rb 2 (.int .i64 2)
      exact ⟨v', rfl, r6.setCode, o6.grown r6 (by decide) (by decide) g7, f6.trans (Fr.of_grown V g7) (Nw.refl _ _), n6⟩
  obtain ⟨a5, cc5, hv5⟩ := own_form o5.row
  rw [List.length_append, hN] at hv5
  rw [hN] at hV
  subst hK hV hv5
  have hrun : (Builtin.append_ #[24, 24] 24 #[.slice va N vc, .slice (some ⟨w.heap.size + 1, 0, none⟩) 1 1]).run Tryd.prog (((w.alloc (.cells (nodeC x (.slice ka x.kids.length kc)) 44)).alloc (.cells (nodeC x (.slice ka x.kids.length kc)) 44)).drew) = .ok (.slice a5 (N + 1) cc5) w5 := by
    rw [← hsz]
    exact hrun0
  have c3 := RowAt.cell h 3
  have c2 := RowAt.cell r5 2
  have k3 := RowAt.cell r5 3
  have kf3 := RowAt.frozen r5 3
  have kf2 := RowAt.frozen r5 2
  simp at c3 c2 k3
  have hA : (w.alloc (.cells (nodeC x (.slice ka x.kids.length kc)) 44)).cell? ⟨rb, 3, none⟩ = some (.slice va N vc) := (((Below.refl w.heap.size w).alloc (Nat.le_refl _) _).cell (p := ⟨rb, 3, none⟩) hlt).trans c3
  have hA2 : ((w.alloc (.cells (nodeC x (.slice ka x.kids.length kc)) 44)).alloc (.cells (nodeC x (.slice ka x.kids.length kc)) 44)).cell? ⟨rb, 3, none⟩ = some (.slice va N vc) := ((Joins.below_alloc2 w _ _).cell (p := ⟨rb, 3, none⟩) hlt).trans c3
  have hN2 : N ≤ 2000 := by omega
  clear h ho hk ha hbl hrun0 o5 keep5 q1 q2 q3 q4 n5 r0 r5 r6 g6 o6 f6 n6 hN hn c3
  by_cases hc0 : c = 0
  · subst hc0
    by_cases h1000 : 1000 < N + 1
    · have he : addC 0 (N + 1) = 2 := if_pos ⟨rfl, h1000⟩
      rw [he, if_neg (by decide)] at HE
      have hcond : (1000 : Int) < (N : Int) + 1 := by omega
      clear he h1000
      go_enter Tryd.func67, Tryd.ntmps67
      go_wp2_with fail
      go_region_law (first
        | refine step_append_run rfl (.tmp 9) (.tmp 11) 24 rfl (by simp [Act.eval]) (by simp [Act.eval]) hrun ?_)
      all_goals
        go_wp2
        go_ret
        exact HE.out
    · have he : addC 0 (N + 1) = 0 := if_neg (fun e => h1000 e.2)
      rw [he, if_pos rfl] at HE
      have hcond : ¬ (1000 : Int) < (N : Int) + 1 := by omega
      clear he h1000
      go_enter Tryd.func67, Tryd.ntmps67
      go_wp2_with fail
      go_region_law (first
        | refine step_append_run rfl (.tmp 9) (.tmp 11) 24 rfl (by simp [Act.eval]) (by simp [Act.eval]) hrun ?_)
      all_goals
        go_wp2
        go_ret
        exact HE.out
  · have he : addC c (N + 1) = c := if_neg (fun e => hc0 e.1)
    rw [he, if_pos rfl] at HE
    have hcz : (c == 0) = false := by simpa using hc0
    clear he
    go_enter Tryd.func67, Tryd.ntmps67
    go_wp2_with fail
    go_region_law (first
      | refine step_append_run rfl (.tmp 9) (.tmp 11) 24 rfl (by simp [Act.eval]) (by simp [Act.eval]) hrun ?_)
    all_goals
      go_wp2
      go_ret
      exact HE.out
end Go.Proofs.YtcgeafdakaeicaaDoor
