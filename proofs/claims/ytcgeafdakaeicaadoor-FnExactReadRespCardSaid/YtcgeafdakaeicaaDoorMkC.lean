/- Marks found again in a slice of nodes. -/
import Derived.Test.YtcgeafdakaeicaaDoorMkB
namespace Go.Proofs.YtcgeafdakaeicaaDoor
open Go.RowKit Go.Sort
open Rp (Nd nd0 plainB numB fieldsB)

theorem mkAll_get : ∀ (P : List Nv) (k j : Nat) (h : j < P.length), (mkAll k P)[j]? = some (mkN (endK k (P.take j)) P[j])
  | [], _, j, h => by simp at h
  | p :: P, k, 0, _ => rfl
  | p :: P, k, j + 1, h => by
    have h' : j < P.length := by simpa using h
    simp only [mkAll, List.getElem?_cons_succ, List.take_succ_cons, endK, List.getElem_cons_succ]
    exact mkAll_get P (stepK k p) j h'

set_option maxHeartbeats 4000000 in
set_option maxRecDepth 100000 in
theorem heldResps (B : Nat) (V : Value) (P : List Nv) (w : World) (h : OwnN w B V (mkAll 1 P)) (hn : P.length ≤ 1000) (hk : ∀ p ∈ P, p.1.kids.length ≤ 1000) :
    Calls Tryd.prog 21 #[V, .int .i64 1] w fun e w' => e = .returned (.int .i64 (endK 1 P : Nat)) ∧ Below w.heap.size w w' := by
  have hrow := h.row
  rw [mkAll_len] at hrow
  rcases Joins.ownsRow_forms hrow with ⟨rfl, h0⟩ | ⟨g, c, rfl⟩
  · obtain rfl : P = [] := List.eq_nil_of_length_eq_zero h0
    clear h hk h0 hn hrow
    go_enter Tryd.func21, Tryd.ntmps21
    go_wp2
    refine wp_loop_rounds 1 ?_
    rw [rounds_succ]
    go_wp2
    go_ret
    exact ⟨rfl, Below.refl _ _⟩
  · obtain ⟨n, hnl⟩ : ∃ n, P.length = n := ⟨_, rfl⟩
    have HL : Hid (P.length = n) := hnl
    have HK : Hid (∀ p ∈ P, p.1.kids.length ≤ 1000) := hk
    rw [hnl] at h hn hrow ⊢
    have hlt0 : g < w.heap.size := (own_lt hrow rfl).2
    have HN : Hid (∀ j, (hj : j < P.length) → ∃ ka bk kc, w.cell? ⟨g, j * 4, none⟩ = some (.int .i64 (endK 1 (P.take j) : Nat)) ∧ w.cell? ⟨g, j * 4 + 1, none⟩ = some (.int .i64 ((endK 1 (P.take j) : Nat) + 1)) ∧ w.cell? ⟨g, j * 4 + 2, none⟩ = some (.string (markB (endK 1 (P.take j) + 2))) ∧ w.cell? ⟨g, j * 4 + 3, none⟩ = some (.slice ka P[j].1.kids.length kc) ∧ Rp.IntsIn w ka bk 0 P[j].1.kids.length (numsFrom (endK 1 (P.take j) + 3) P[j].1.kids.length)) := fun j hj => by
      have hj2 : j < (mkAll 1 P).length := by rw [mkAll_len]; exact hj
      have hg := mkAll_get P 1 j hj
      rw [List.getElem?_eq_getElem hj2] at hg
      injection hg with hg
      obtain ⟨f0, f1, f2, f3⟩ := flatN_at (mkAll 1 P) j hj2
      have hkid := h.kids _ (List.getElem_mem hj2)
      rw [hg] at f0 f1 f2 f3 hkid
      obtain ⟨ka, bk, kc, hK, hI⟩ := ints_of_own hkid
      have hl : (mkN (endK 1 (P.take j)) P[j]).1.kids.length = P[j].1.kids.length := nums_len _ _
      rw [hl] at hK hI
      refine ⟨ka, bk, kc, own_cells hrow rfl _ _ f0, own_cells hrow rfl _ _ f1, own_cells hrow rfl _ _ f2, ?_, hI⟩
      rw [← hK]
      exact own_cells hrow rfl _ _ f3
    clear h hk hnl hrow
    go_enter Tryd.func21, Tryd.ntmps21
    go_wp2
    go_loopw [1, 5] (fun m i wr => ∃ (j : Nat), j ≤ n ∧ i = .int .i64 j ∧ m = .int .i64 (endK 1 (P.take j) : Nat) ∧ Below w.heap.size w wr) (fun _ i _ => n - (intOf i).toNat)
    case atStart => exact ⟨0, by omega, rfl, by simp [endK], Below.refl _ _⟩
    case round =>
      obtain ⟨j, hj, rfl, rfl, bk⟩ := hrel
      have sk := bk.size
      by_cases hlt : j < n
      · have hjP : j < P.length := by rw [HL.out]; exact hlt
        obtain ⟨_, ht⟩ := split_at P j hjP
        obtain ⟨_, hs2⟩ := mkAll_snoc (P.take j) 1 P[j]
        have hkj := HK.out P[j] (List.getElem_mem hjP)
        obtain ⟨hk1, hk2⟩ := endK_le (P.take j) 1 1000 (fun p hp => HK.out p (List.mem_of_mem_take hp))
        have hkb : endK 1 (P.take j) ≤ 1100000 := by
          have : (P.take j).length ≤ 1000 := by rw [List.length_take]; omega
          have : (P.take j).length * (3 + 1000) ≤ 1000 * (3 + 1000) := Nat.mul_le_mul_right _ this
          omega
        have HE : Hid (endK 1 (P.take (j + 1)) = endK 1 (P.take j) + 3 + P[j].1.kids.length) := by unfold Hid; rw [ht]; exact hs2
        obtain ⟨ka, bb, kc, q0, q1, q2, q3, q4⟩ := HN.out j hjP
        clear hs2 ht
        generalize endK 1 (P.take j) = k at *
        obtain ⟨m, hm⟩ : ∃ m, P[j].1.kids.length = m := ⟨_, rfl⟩
        rw [hm] at hkj HE q3 q4
        clear hm
        have c0 := (bk.cell (p := ⟨g, j * 4, none⟩) hlt0).trans q0
        have c1 := (bk.cell (p := ⟨g, j * 4 + 1, none⟩) hlt0).trans q1
        have c2 := (bk.cell (p := ⟨g, j * 4 + 2, none⟩) hlt0).trans q2
        have cD : ∀ d os, Calls Tryd.prog 46 #[.int .i64 ((k : Int) + 1 + 1)] (grow (redrawn wr d) os) fun e w'' => e = .returned (.string (markB (k + 2))) ∧ ∃ p : Regrown, w'' = grow (redrawn wr p.d) p.os := fun d os => by
          rw [show (k : Int) + 1 + 1 = ((k + 2 : Nat) : Int) from by omega]
          exact Calls.regrown_of (mark_any (k + 2) _ (by omega) (by omega))
        have kcl := cell_regrown c2
        have Q3 : Hid (w.cell? ⟨g, j * 4 + 3, none⟩ = some (.slice ka m kc)) := q3
        have Q4 : Hid (Rp.IntsIn w ka bb 0 m (numsFrom (k + 3) m)) := q4
        generalize markB (k + 2) = mk at *
        clear q0 q1 q2 q3 q4 c2
        go_wp2
        refine wp_region_quiet_below (by kernel_rfl) (by kernel_rfl) ?_
        repeat (quiet_step (first | exact cD _ _))
        refine wpQuiet_nil ?_
        intro _ hw'
        obtain ⟨⟨dq, osq⟩, hw''⟩ := hw'
        subst hw''
        have bq := below_regrown wr dq osq
        generalize grow (redrawn wr dq) osq = wq at *
        have bq2 : Below w.heap.size w wq := bk.trans (bq.mono bk.size)
        have c3 := (bq2.cell (p := ⟨g, j * 4 + 3, none⟩) hlt0).trans Q3.out
        have hH := heldInts ka bb m kc (k + 3) wq (Rp.ints_below Q4.out bq2) (by omega) (by omega)
        rw [show ((k + 3 : Nat) : Int) = (k : Int) + 1 + 1 + 1 from by omega] at hH
        have HH : Hid (Calls Tryd.prog 48 #[.slice ka m kc, .int .i64 ((k : Int) + 1 + 1 + 1)] wq fun e w' => e = .returned (.int .i64 ((k + 3 + m : Nat) : Int)) ∧ w' = wq) := hH
        have hneg : decide (((k + 3 + m : Nat) : Int) < 0) = false := by simp; omega
        clear hH cD kcl
        go_wp2_with fail
        refine HH.out.mono ?_
        rintro e w6 ⟨rfl, hw⟩
        have hw2 := hw.symm
        subst hw2
        clear hw
        go_wp2
        go_roundw
        case rel => exact ⟨j + 1, by omega, by go_num, by rw [HE.out]; go_num, bq2⟩
        case measure => simp [intOf]; omega
      · obtain rfl : j = n := by omega
        have HE : Hid (P.take j = P) := by unfold Hid; rw [← HL.out]; exact List.take_length
        rw [HE.out]
        go_wp2
        go_ret
        exact ⟨rfl, bk⟩
end Go.Proofs.YtcgeafdakaeicaaDoor
