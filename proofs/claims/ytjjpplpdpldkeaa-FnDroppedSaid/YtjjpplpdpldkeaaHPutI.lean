/- The program's gap and cell for what is put. -/
import Derived.Test.YtjjpplpdpldkeaaHPutM
namespace Go.Proofs.Ytjjpplpdpldkeaa
open Go.RowKit Go.Sort

theorem first_drop (want : Nat) (G : List (Nat × Nat)) (k : Nat) (h : k < G.length) : firstG want (G.drop k) = if want ≤ (G.getD k (0, 0)).2 then ((G.getD k (0, 0)).1 : Int) else firstG want (G.drop (k + 1)) := by
  rw [List.drop_eq_getElem_cons h, firstG, List.getD_eq_getElem?_getD, List.getElem?_eq_getElem h]
  rfl

def gapI (want : Nat) (G : List (Nat × Nat)) : Int := if 0 ≤ firstG want G then firstG want G else 0
def gapO (want : Nat) (G : List (Nat × Nat)) : Bool := decide (0 ≤ firstG want G)
def freeI (L : List Cl) : Int := if freeAt L = 40 then 0 else (freeAt L : Int)
def freeO (L : List Cl) : Bool := decide (freeAt L ≠ 40)

theorem ret_at {a b : Int} {p q : Bool} (h1 : a = b) (h2 : p = q) : Ending.returned (.tuple #[.int .i64 a, .bool p]) = .returned (.tuple #[.int .i64 b, .bool q]) := by rw [h1, h2]

set_option maxHeartbeats 4000000 in
set_option maxRecDepth 100000 in
theorem gapFor_any (g n want : Nat) (d : Nat → UInt8) (t : Nat → Bool) (cs : Value) (w : World) (h : Arena w g d t n cs) (hn : n ≤ 3000) (_ : want ≤ 1048576) :
    Calls Try.prog 26 #[.pointer (some ⟨g, 0, none⟩), .int .i64 want] w fun e w' => e = .returned (.tuple #[.int .i64 (gapI want (scanM t n).1), .bool (gapO want (scanM t n).1)]) ∧ Below w.heap.size w w' := by
  have HBd : Hid (∀ x ∈ (scanM t n).1, x.1 ≤ n ∧ x.2 ≤ n) := scan_bound t n
  have hlen := (scan_shape t n).2
  have hga := gaps_any g n d t cs w h hn
  generalize (scanM t n).1 = G at *
  have HGA : Hid (Calls Try.prog 45 #[.pointer (some ⟨g, 0, none⟩)] w _) := hga
  clear hga
  go_enter Try.func26, Try.ntmps26
  go_wp2_with fail
  refine HGA.out.mono ?_
  clear HGA
  rintro e w2 ⟨v, rfl, hown, b2⟩
  obtain ⟨a, A, cap, rfl, hA⟩ := form_any hown
  have HC : Hid (∀ k, k < G.length → w2.cell? ⟨A, k * 2, none⟩ = some (.int .i64 ((G.getD k (0, 0)).1 : Nat)) ∧ w2.cell? ⟨A, k * 2 + 1, none⟩ = some (.int .i64 ((G.getD k (0, 0)).2 : Nat)) ∧ A < w2.heap.size) := fun k hk => by
    obtain rfl := hA (by omega)
    have h1 := hown.cells rfl (k * 2) _ (flatG_at G k hk).1
    have h2 := hown.cells rfl (k * 2 + 1) _ (flatG_at G k hk).2
    rw [Addr.add_lit, Nat.zero_add] at h1 h2
    exact ⟨h1, h2, (hown.lt A rfl).2⟩
  clear hown
  go_wp2
  go_loopw [7, 11] (fun _ i wr => ∃ k : Nat, k ≤ G.length ∧ i = .int .i64 k ∧ Hid (firstG want G = firstG want (G.drop k)) ∧ Below w2.heap.size w2 wr) (fun _ i _ => G.length - (intOf i).toNat)
  case atStart => exact ⟨0, by omega, rfl, (by unfold Hid; rw [List.drop_zero]), Below.refl _ _⟩
  case round =>
    obtain ⟨k, hk, rfl, hfd, bk⟩ := hrel
    by_cases hlt : k < G.length
    · obtain rfl := hA (by omega)
      obtain ⟨c0', c1', hAl⟩ := HC.out k hlt
      have c0 := (bk.cell (p := ⟨A, k * 2, none⟩) hAl).trans c0'
      have c1 := (bk.cell (p := ⟨A, k * 2 + 1, none⟩) hAl).trans c1'
      clear c0' c1'
      have hbd := HBd.out (G.getD k (0, 0)) (by rw [List.getD_eq_getElem?_getD, List.getElem?_eq_getElem hlt]; exact List.getElem_mem hlt)
      have HS := first_drop want G k hlt
      rw [← hfd.out] at HS
      generalize G.getD k (0, 0) = y at *
      obtain ⟨y1, y2⟩ := y
      simp only at c0 c1 hbd HS
      by_cases hyes : want ≤ y2
      · rw [if_pos hyes] at HS
        have HF : Hid (firstG want G = (y1 : Int)) := HS
        have hwi : (want : Int) ≤ (y2 : Int) := by omega
        clear HS hfd
        go_wp2
        go_ret2
        exact ⟨ret_at (by unfold gapI; rw [HF.out, if_pos (by omega)]) (by unfold gapO; rw [HF.out]; exact (decide_eq_true (by omega)).symm), b2.trans ((bk.alloc bk.size _).mono b2.size)⟩
      · rw [if_neg hyes] at HS
        have HF : Hid (firstG want G = firstG want (G.drop (k + 1))) := HS
        have hwi : ¬ (want : Int) ≤ (y2 : Int) := by omega
        clear HS hfd
        go_wp2
        go_roundw
        case rel => exact ⟨k + 1, by omega, by go_num, HF, bk.alloc bk.size _⟩
        case measure => simp [intOf]; omega
    · have HF : Hid (firstG want G = -1) := by
        unfold Hid
        rw [hfd.out, List.drop_eq_nil_of_le (by omega)]
        rfl
      clear hfd
      go_wp2
      go_ret2
      exact ⟨ret_at (by unfold gapI; rw [HF.out, if_neg (by omega)]) (by unfold gapO; rw [HF.out]; exact (decide_eq_false (by omega)).symm), b2.trans (bk.mono b2.size)⟩

set_option maxHeartbeats 4000000 in
set_option maxRecDepth 100000 in
theorem freeCell_any (g n : Nat) (d : Nat → UInt8) (t : Nat → Bool) (L : List Cl) (w : World) (h : OpenC w g d t n L) (hL : L.length ≤ 40) (hf : ∀ i, i < L.length → Fit (L.getD i cl0)) :
    Calls Try.prog 27 #[.pointer (some ⟨g, 0, none⟩)] w fun e w' => e = .returned (.tuple #[.int .i64 (freeI L), .bool (freeO L)]) ∧ (freeAt L ≠ 40 → OpenC w' g d t n (roomC L)) ∧ Below g w w' := by
  obtain ⟨i0, hi, hz0, hz1, hz2⟩ := info_parts info76
  have HOp : Hid (OpenC w g d t n L) := h
  obtain ⟨cs, ps, ha, ho, hpl, hpc, hpn⟩ := h
  have hglt := ha.lt
  obtain ⟨a, A, cap, rfl, hA⟩ := form_any ho
  have cc := ha.cells
  have HA : Hid (∀ k, k < L.length → w.cell? ⟨A, k, none⟩ = some (.pointer (some ⟨ps.getD k 0, 0, none⟩))) := fun k hk => by
    obtain rfl := hA (by omega)
    have := ho.cells rfl k (ptrV (ps.getD k 0)) (by rw [List.getElem?_map, List.getD_eq_getElem?_getD, List.getElem?_eq_getElem (by omega)]; rfl)
    rw [Addr.add_lit, Nat.zero_add] at this
    exact this
  have HPC : Hid (∀ i, i < L.length → g < ps.getD i 0 ∧ RowAt w (ps.getD i 0) 35 (clV (L.getD i cl0))) := hpc
  have HFit : Hid (∀ i, i < L.length → Fit (L.getD i cl0)) := hf
  clear hpc hf
  go_enter Try.func27, Try.ntmps27
  go_wp2
  go_loop [4, 5, 11] (fun _ _ i => ∃ k : Nat, k ≤ L.length ∧ i = .int .i64 k ∧ Hid (∀ i, i < k → ¬ ((L.getD i cl0).live = false ∧ (L.getD i cl0).gen < 1000000000))) (fun _ _ i => L.length - (intOf i).toNat)
  case atStart => exact ⟨0, by omega, rfl, fun i hi => by omega⟩
  case round =>
    obtain ⟨k, hk, rfl, hno⟩ := hrel
    by_cases hlt : k < L.length
    · obtain rfl := hA (by omega)
      have cp := HA.out k hlt
      have hx := (HPC.out k hlt).2
      have hfit := HFit.out k hlt
      have c2 : w.cell? ⟨ps.getD k 0, 2, none⟩ = some (.int .i64 (L.getD k cl0).gen) := hx.cell 2
      have c3 : w.cell? ⟨ps.getD k 0, 3, none⟩ = some (.bool (L.getD k cl0).live) := hx.cell 3
      have HY : Hid ((L.getD k cl0).live = false ∧ (L.getD k cl0).gen < 1000000000 → freeAt L = k) := free_step L k hlt hno.out
      have HN : Hid (¬ ((L.getD k cl0).live = false ∧ (L.getD k cl0).gen < 1000000000) → ∀ i, i < k + 1 → ¬ ((L.getD i cl0).live = false ∧ (L.getD i cl0).gen < 1000000000)) := fun hn i hi2 => by
        rcases Nat.lt_succ_iff_lt_or_eq.1 hi2 with h | h
        · exact hno.out i h
        · rw [h]; exact hn
      generalize L.getD k cl0 = x at *
      generalize ps.getD k 0 = p at *
      clear hx hno
      cases hlv : x.live with
      | true =>
        rw [hlv] at c3
        have HN2 := HN.out (fun h => by rw [hlv] at h; cases h.1)
        have HN3 : Hid _ := HN2
        clear HN HN2 HY
        go_wp2
        go_round
        · exact ⟨k + 1, by omega, by go_num, HN3.out⟩
        · simp [intOf]; omega
      | false =>
        rw [hlv] at c3
        by_cases hgen : x.gen < 1000000000
        · have HE : Hid (freeAt L = k) := HY.out ⟨hlv, hgen⟩
          have dg : decide (x.gen < 1000000000) = true := decide_eq_true hgen
          clear HN HY
          go_wp2
          go_ret2
          refine ⟨ret_at ?_ ?_, fun _ => ?_, Below.refl _ _⟩
          · unfold freeI; rw [HE.out, if_neg (by omega)]
          · unfold freeO; rw [HE.out]; exact (decide_eq_true (by omega)).symm
          · unfold roomC
            rw [HE.out, if_neg (by omega)]
            exact HOp.out
        · have HN2 := HN.out (fun h => hgen h.2)
          have HN3 : Hid _ := HN2
          have dg : decide (x.gen < 1000000000) = false := decide_eq_false hgen
          clear HN HN2 HY
          go_wp2
          go_round
          · exact ⟨k + 1, by omega, by go_num, HN3.out⟩
          · simp [intOf]; omega
    · obtain rfl : k = L.length := by omega
      have HE : Hid (freeAt L = L.length) := free_none L hno.out
      clear hno
      by_cases h40 : L.length = 40
      · have HE2 : Hid (freeAt L = 40) := HE.out.trans h40
        have e40 : ((L.length : Int) == 40) = true := by simp; omega
        clear h40
        go_wp2
        go_ret2
        refine ⟨ret_at ?_ ?_, fun h => absurd HE2.out h, Below.refl _ _⟩
        · unfold freeI; rw [if_pos HE2.out]
        · unfold freeO; rw [HE2.out]; rfl
      · have e40 : ((L.length : Int) == 40) = false := by simp; omega
        have HADD : Hid (∀ w' cs', Arena w' g d t n cs' → w'.ownsRow (g + 1) 59 1 cs' (L.length + 1) (ps.map ptrV ++ [.pointer (some ⟨w.heap.size, 0, none⟩)]) → (∀ j, j < w.heap.size + 1 → j ≠ g → some j ≠ Value.ownBlock (.slice a L.length cap) → w'.heap[j]? = (w.alloc (.cells (clV cl0) 35)).heap[j]?) → OpenC w' g d t n (L ++ [cl0])) :=
          fun w' cs' h1 h2 h3 => openC_add ha ho hpl HPC.out hpn h1 h2 h3
        have hb1 : Below w.heap.size w (w.alloc (.cells (clV cl0) 35)) := (Below.refl _ w).alloc (Nat.le_refl _) _
        have ho1 := ho.alloc (.cells (clV cl0) 35)
        have ha1 := ha.below hb1 hglt
        have c1 := ha1.cells
        generalize ps.map ptrV = xs at *
        go_wp2_with (at_builtin; refine wpList_append_own _ rfl _ _ 62 rfl (g + 1) 59 i0 _ 1 8 Try.underlying62 hi hz0 hz1 hz2 rfl (by decide) _ _ _ rfl (ho1.alloc _) ⟨w.heap.size + 1, 0, none⟩ 1 1 [.pointer (some ⟨w.heap.size, 0, none⟩)] rfl rfl ?c1 ?c2 ?c3 ?c4 ?c5 ?_)
        case c2 => rfl
        case c3 => unfold maxLen; omega
        case c4 => omega
        case c5 => omega
        intro v0' w5 hown' hgrow _
        obtain ⟨A', cap', hv'⟩ := Go.Joins.ownsRow_form hown' (by omega)
        subst hv'
        have hgrow1 : ((w.alloc (.cells (clV cl0) 35)).alloc (.cells #[.pointer (some ⟨w.heap.size, 0, none⟩)] 59)).grownBy w5 (Value.ownBlock (.slice a L.length cap)) := hgrow
        have hsz5 : w.heap.size + 2 ≤ w5.heap.size := by have := hgrow1.size; simp at this; omega
        have hblk : ∀ j, j < w.heap.size + 1 → some j ≠ Value.ownBlock (.slice a L.length cap) → w5.heap[j]? = (w.alloc (.cells (clV cl0) 35)).heap[j]? := fun j hj hne => by
          rw [hgrow1.block j (by simp; omega) hne]
          exact Below.heap_alloc _ _ _ (by simp; omega)
        have hcsg : some g ≠ Value.ownBlock (.slice a L.length cap) := fun e => by have := (ho.lt g e.symm).1; omega
        have ha5 : Arena w5 g d t n (.slice a L.length cap) := by
          obtain ⟨C, hr, hrest⟩ := ha1.row
          exact ⟨C, (hblk g (by omega) hcsg).trans hr, hrest⟩
        have hb5 : Below g w w5 := ⟨hgrow1.os, hgrow1.tape, hgrow1.output, by omega, fun j hj => (hblk j (by omega) (fun e => by have := (ho.lt j e.symm).1; omega)).trans (Below.heap_alloc _ _ _ (by omega))⟩
        have cc5 := ha5.cells
        have fz5 := ha5.frozen 6001
        have HA6 : Hid (Arena (w5.setCell ⟨g, 6001, none⟩ (.slice (some ⟨A', 0, none⟩) (L.length + 1) cap')) g d t n (.slice (some ⟨A', 0, none⟩) (L.length + 1) cap')) := ha5.setCells
        have HO6 : Hid ((w5.setCell ⟨g, 6001, none⟩ (.slice (some ⟨A', 0, none⟩) (L.length + 1) cap')).ownsRow (g + 1) 59 1 (.slice (some ⟨A', 0, none⟩) (L.length + 1) cap') (L.length + 1) (xs ++ [.pointer (some ⟨w.heap.size, 0, none⟩)])) := ownsRow_setCell_below hown' (by simp) _
        have HB6 : Hid (Below g w (w5.setCell ⟨g, 6001, none⟩ (.slice (some ⟨A', 0, none⟩) (L.length + 1) cap'))) := hb5.setCell (p := ⟨g, 6001, none⟩) (Nat.le_refl _) _
        have HK6 : Hid (∀ j, j < w.heap.size + 1 → j ≠ g → some j ≠ Value.ownBlock (.slice a L.length cap) → (w5.setCell ⟨g, 6001, none⟩ (.slice (some ⟨A', 0, none⟩) (L.length + 1) cap')).heap[j]? = (w.alloc (.cells (clV cl0) 35)).heap[j]?) := fun j hj hjg hjo =>
          (Below.heap_setCell _ _ _ _ (by simpa using hjg)).trans (hblk j hj hjo)
        have c6 := HA6.out.cells
        clear hown' hgrow hgrow1 hblk ha5 hb5 hcsg ha ha1 ho ho1 c1 cc
        go_wp2
        go_ret2
        refine ⟨ret_at ?_ ?_, fun _ => ?_, HB6.out⟩
        · unfold freeI; rw [HE.out, if_neg h40]
        · unfold freeO; rw [HE.out]; exact (decide_eq_true h40).symm
        · unfold roomC
          rw [HE.out, if_pos rfl]
          exact HADD.out _ _ HA6.out HO6.out HK6.out
end Go.Proofs.Ytjjpplpdpldkeaa
