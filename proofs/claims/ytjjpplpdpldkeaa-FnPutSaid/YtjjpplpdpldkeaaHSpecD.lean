/- The specification's gaps, walked. -/
import Derived.Test.YtjjpplpdpldkeaaHSpecC
namespace Go.Proofs.Ytjjpplpdpldkeaa
open Go.RowKit Go.Sort

theorem gapStep_eq {want A B : Int} {e k : Nat} {x y : Int} (h1 : A < 0 → want ≤ (k : Int) → x = e) (h2 : (0 ≤ A ∨ (k : Int) < want) → x = A) (h3 : y = max B (k : Int)) : gapStep want (A, B) (e, k) = (x, y) := by
  unfold gapStep
  rw [h3]
  congr 1
  show (if A < 0 ∧ want ≤ (k : Int) then (e : Int) else A) = x
  split
  · rename_i h; exact (h1 h.1 h.2).symm
  · exact (h2 (by omega)).symm

set_option maxHeartbeats 40000000 in
set_option maxRecDepth 100000 in
theorem l3Gap_any (s : ByteArray) (a : Option Addr) (b off n c : Nat) (L : List Cl) (want : Int) (w : World) (h : CellsIn w a b off n L) (hw0 : 0 ≤ want) (hw1 : want ≤ 1048576) (hr : heapB s L = true) :
    Calls Try.prog 29 #[.agg #[.string s, .slice a n c], .int .i64 want] w fun e w' => e = .returned (.tuple #[.int .i64 (gapFold want s.size (liveC [] L) 0 (-1, 0)).1, .int .i64 (gapFold want s.size (liveC [] L) 0 (-1, 0)).2]) ∧ Below w.heap.size w w' := by
  have hl := h.len
  obtain ⟨hs3, hn4⟩ := heap_small hr
  have hn40 : n ≤ 40 := by omega
  have HSp : Hid (∀ y, y < n → specCellB s.size (clOf L y) = true) := fun y hy => heap_cells hr y (by omega)
  have HAh : Hid (Ahead s.size (liveC [] L) 0) := by
    obtain ⟨t, _, hR⟩ := heap_right hr
    exact hR.ahead
  have HLv : Hid (liveC [] L = (stI L n).map (clOf L)) := by unfold Hid; rw [live_all, hl]
  have HF : Hid (∃ F, gapFold want s.size (liveC [] L) 0 (-1, 0) = F) := ⟨_, rfl⟩
  obtain ⟨F, hF⟩ := HF.out
  rw [hF]
  have HF0 : Hid (F = gapFold want s.size ((stI L n).map (clOf L)) 0 (-1, 0)) := by unfold Hid; rw [← hF, HLv.out]
  have HAh0 : Hid (Ahead s.size ((stI L n).map (clOf L)) 0) := by unfold Hid; rw [← HLv.out]; exact HAh.out
  clear hF HF HAh HLv hr hn4 hl
  have hb0 : Below w.heap.size w (w.alloc (.cells #[.string s, .slice a n c] 26)) := (Below.refl _ w).alloc (Nat.le_refl _) _
  have hr0 := RowAt.new w 26 #[.string s, .slice a n c]
  have h0 := cells_below h hb0
  have hlt0 := hr0.lt
  go_enter Try.func29, Try.ntmps29
  go_wp2_with fail
  generalize w.alloc (.cells #[.string s, .slice a n c] 26) = w1 at *
  refine (live_any s a b off n c L w1 h0 hn40).mono ?_
  rintro e w5 ⟨A, cap, rfl, ho, b5⟩
  have hr5 := hr0.below b5 hlt0
  have bw5 : Below w.heap.size w w5 := hb0.trans (b5.mono (by omega))
  have hc5 := cells_below h0 b5
  obtain ⟨hS1, hS2⟩ := st_bound L n
  have HS2 : Hid (∀ y ∈ stI L n, y < n) := hS2
  generalize stI L n = S at *
  have HCell : Hid (∀ m, m < S.length → w5.cell? ⟨A, m, none⟩ = some (.int .i64 (S.getD m 0 : Nat))) := fun m hm => by
    have := ho.cells rfl m (.int .i64 (S.getD m 0 : Nat)) (by unfold ints; rw [List.getElem?_map, List.getD_eq_getElem?_getD, List.getElem?_eq_getElem hm]; rfl)
    rw [Addr.add_lit, Nat.zero_add] at this
    exact this
  have e0 := hr5.cell 0
  have e1 := hr5.cell 1
  simp at e0 e1
  have HBq : Hid (∀ q, Below w.heap.size w (w5.drewN q)) := fun q => bw5.trans ((below_drewN w5 q).mono (by have := bw5.size; omega))
  clear hS2 ho h0 hr0 hb0 b5 hr5
  go_wp2_with fail
  go_loopw [6, 7, 8, 10, 11] (fun en at_ best i _ wr' => ∃ (m q e : Nat) (X Y : Int), m ≤ S.length + 1 ∧ i = .int .i64 m ∧ en = .int .i64 e ∧ at_ = .int .i64 X ∧ best = .int .i64 Y ∧ e ≤ 3000 ∧ -1 ≤ X ∧ X ≤ 3000 ∧ 0 ≤ Y ∧ Y ≤ 3000 ∧ wr' = w5.drewN q ∧ Hid (m ≤ S.length → F = gapFold want s.size ((S.map (clOf L)).drop m) e (X, Y) ∧ Ahead s.size ((S.map (clOf L)).drop m) e) ∧ Hid (m = S.length + 1 → F = (X, Y))) (fun _ _ _ i _ _ => S.length + 1 - (intOf i).toNat)
  case atStart => exact ⟨0, 0, 0, -1, 0, by omega, rfl, rfl, rfl, rfl, by omega, by omega, by omega, by omega, by omega, rfl, fun _ => ⟨HF0.out, HAh0.out⟩, fun h => by omega⟩
  case round =>
    obtain ⟨m, q, e, X, Y, hm, rfl, rfl, rfl, rfl, he, hX0, hX1, hY0, hY1, rfl, hsw, hend⟩ := hrel
    clear HF0 HAh0
    by_cases hml : m ≤ S.length
    · obtain ⟨hsw1, hah⟩ := hsw.out hml
      by_cases hlt : m < S.length
      · have hyk : S.getD m 0 < n := HS2.out _ (by rw [List.getD_eq_getElem?_getD, List.getElem?_eq_getElem hlt]; exact List.getElem_mem hlt)
        have cy := HCell.out m hlt
        have hx := hc5.cell (S.getD m 0) hyk
        obtain rfl := h.addr (by omega)
        have d0 := hx.c0
        have d1 := hx.c1
        have hxe : L.getD (S.getD m 0) cl0 = clOf L (S.getD m 0) := rfl
        rw [hxe] at d0 d1
        rw [map_step _ _ _ hlt] at hsw1 hah
        obtain ⟨g1, g2, g3, g4⟩ := hah.facts
        have hah' := hah.next
        rw [gapFold_cons] at hsw1
        generalize S.getD m 0 = y at *
        obtain ⟨P, hP⟩ : ∃ P : Nat, (clOf L y).pos = P := ⟨_, (Int.toNat_of_nonneg g1).symm⟩
        obtain ⟨W, hW⟩ : ∃ W : Nat, (clOf L y).len = W := ⟨_, (Int.toNat_of_nonneg (by omega)).symm⟩
        rw [hP] at d0 g1 g3 g4 hsw1 hah'
        rw [hW] at d1 g2 g4 hsw1 hah'
        rw [show ((P : Int) + (W : Int)).toNat = P + W from by omega] at hsw1 hah'
        rw [Int.toNat_natCast] at hsw1
        have HSW : Hid (F = gapFold want s.size ((S.map (clOf L)).drop (m + 1)) (P + W) (gapStep want (X, Y) (e, P - e))) := hsw1
        have HAh : Hid (Ahead s.size ((S.map (clOf L)).drop (m + 1)) (P + W)) := hah'
        have heP : e ≤ P := by omega
        clear hx hxe hsw hend hsw1 hah hah' hP hW
        have hdd : decide ((m : Int) ≤ (S.length : Int)) = true := by simp; omega
        have hdl : decide ((m : Int) < (S.length : Int)) = true := by simp; omega
        by_cases hXn : X < 0
        · by_cases hwa : want ≤ (P : Int) - (e : Int)
          · go_wp2
            go_quiet ((fail))
            go_wp2
            all_goals
              go_quiet ((fail))
              go_wp2
              go_roundw
              case rel => exact ⟨m + 1, _, P + W, _, _, by omega, by go_num, by go_num, rfl, rfl, by omega, by omega, by omega, by omega, by omega, rfl, fun _ => ⟨HSW.out.trans (congrArg (gapFold want s.size _ _) (gapStep_eq (by omega) (by omega) (by omega))), HAh.out⟩, fun h => by omega⟩
              case measure => simp [intOf]; omega
          · go_wp2
            go_quiet ((fail))
            go_wp2
            all_goals
              go_quiet ((fail))
              go_wp2
              go_roundw
              case rel => exact ⟨m + 1, _, P + W, _, _, by omega, by go_num, by go_num, rfl, rfl, by omega, by omega, by omega, by omega, by omega, rfl, fun _ => ⟨HSW.out.trans (congrArg (gapFold want s.size _ _) (gapStep_eq (by omega) (by omega) (by omega))), HAh.out⟩, fun h => by omega⟩
              case measure => simp [intOf]; omega
        · go_wp2
          go_quiet ((fail))
          go_wp2
          all_goals
            go_quiet ((fail))
            go_wp2
            go_roundw
            case rel => exact ⟨m + 1, _, P + W, _, _, by omega, by go_num, by go_num, rfl, rfl, by omega, by omega, by omega, by omega, by omega, rfl, fun _ => ⟨HSW.out.trans (congrArg (gapFold want s.size _ _) (gapStep_eq (by omega) (by omega) (by omega))), HAh.out⟩, fun h => by omega⟩
            case measure => simp [intOf]; omega
      · have hmS : m = S.length := by omega
        have hle := hah.1
        have HSW : Hid (F = gapStep want (X, Y) (e, s.size - e)) := by
          unfold Hid
          rw [hsw1, List.drop_eq_nil_of_le (by simp; omega), gapFold_nil]
        clear hsw hend hsw1 hah
        have hdd : decide ((m : Int) ≤ (S.length : Int)) = true := by simp; omega
        have hdl : decide ((m : Int) < (S.length : Int)) = false := by simp; omega
        clear hmS
        by_cases hXn : X < 0
        · by_cases hwa : want ≤ (s.size : Int) - (e : Int)
          · go_wp2
            all_goals
              go_roundw
              case rel => exact ⟨m + 1, q, e, _, _, by omega, by go_num, rfl, rfl, rfl, by omega, by omega, by omega, by omega, by omega, rfl, fun h => by omega, fun _ => HSW.out.trans (gapStep_eq (by omega) (by omega) (by omega))⟩
              case measure => simp [intOf]; omega
          · go_wp2
            all_goals
              go_roundw
              case rel => exact ⟨m + 1, q, e, _, _, by omega, by go_num, rfl, rfl, rfl, by omega, by omega, by omega, by omega, by omega, rfl, fun h => by omega, fun _ => HSW.out.trans (gapStep_eq (by omega) (by omega) (by omega))⟩
              case measure => simp [intOf]; omega
        · go_wp2
          all_goals
            go_roundw
            case rel => exact ⟨m + 1, q, e, _, _, by omega, by go_num, rfl, rfl, rfl, by omega, by omega, by omega, by omega, by omega, rfl, fun h => by omega, fun _ => HSW.out.trans (gapStep_eq (by omega) (by omega) (by omega))⟩
            case measure => simp [intOf]; omega
    · have HE : Hid (F = (X, Y)) := hend.out (by omega)
      have hdd : decide ((m : Int) ≤ (S.length : Int)) = false := by simp; omega
      clear hsw hend
      go_wp2
      go_ret2
      exact ⟨by rw [HE.out]; rfl, HBq.out q⟩

def gapB (s : ByteArray) (L : List Cl) : Int := if heapB s L = true then (gapFold 0 s.size (liveC [] L) 0 (-1, 0)).2 else -1

theorem gap_one (s : ByteArray) (L : List Cl) : overB (fun x y => max x y) s L = gapB s L := by
  unfold overB gapB
  by_cases h : heapB s L = true
  · rw [if_pos h, if_pos h]
    obtain ⟨t, ho, hr⟩ := heap_right h
    unfold gapsOf gapFold
    rw [ho, gapFold_best]
    exact hr.gap
  · rw [if_neg h, if_neg h]

end Go.Proofs.Ytjjpplpdpldkeaa
