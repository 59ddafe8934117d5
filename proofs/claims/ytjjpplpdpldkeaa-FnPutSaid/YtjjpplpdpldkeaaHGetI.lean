/- The program's Get. -/
import Derived.Test.YtjjpplpdpldkeaaHOpenC
import Derived.Test.YtjjpplpdpldkeaaHGetT
namespace Go.Proofs.Ytjjpplpdpldkeaa
open Go.RowKit Go.Sort

def placeP (L : List Cl) (ps : List Nat) (rc : Int) : Option Addr := if 0 ≤ rc ∧ rc < (L.length : Int) then some ⟨ps.getD rc.toNat 0, 0, none⟩ else none

set_option maxHeartbeats 2000000 in
set_option maxRecDepth 100000 in
theorem cellOf_any (g n : Nat) (d : Nat → UInt8) (t : Nat → Bool) (L : List Cl) (cs : Value) (ps : List Nat) (rc rg : Int) (w : World) (ha : Arena w g d t n cs) (ho : w.ownsRow (g + 1) 59 1 cs L.length (ps.map ptrV)) (hpl : ps.length = L.length)
    (hpc : ∀ i, i < L.length → g < ps.getD i 0 ∧ RowAt w (ps.getD i 0) 35 (clV (L.getD i cl0))) (hL : L.length ≤ 40) :
    Calls Try.prog 34 #[.pointer (some ⟨g, 0, none⟩), refV rc rg] w fun e w' => e = .returned (.tuple #[.pointer (placeP L ps rc), .bool (isB L rc rg)]) ∧ Below w.heap.size w w' := by
  have bw : Below w.heap.size w (w.alloc (.cells #[.int .i64 rc, .int .i64 rg] 30)) := (Below.refl _ w).alloc (Nat.le_refl _) _
  have r1 := RowAt.new w 30 #[.int .i64 rc, .int .i64 rg]
  have ha1 := ha.below bw ha.lt
  have ho1 := owns_below ho bw
  have hpc1 : Hid (∀ i, i < L.length → RowAt (w.alloc (.cells #[.int .i64 rc, .int .i64 rg] 30)) (ps.getD i 0) 35 (clV (L.getD i cl0))) := fun i hi => (hpc i hi).2.below bw (hpc i hi).2.lt
  obtain ⟨f0, f1⟩ := two_at r1
  have cc := ha1.cells
  by_cases hin : 0 ≤ rc ∧ rc < (L.length : Int)
  · obtain ⟨k, rfl⟩ : ∃ k : Nat, rc = k := ⟨rc.toNat, by omega⟩
    have hk : k < L.length := by omega
    have HP : Hid (placeP L ps k = some ⟨ps.getD k 0, 0, none⟩) := by unfold Hid placeP; rw [if_pos hin, Int.toNat_natCast]
    have HR : Hid (isB L k rg = ((L.getD k cl0).live && ((L.getD k cl0).gen == rg))) := by
      unfold Hid isB
      rw [decide_eq_true hin, Bool.true_and, Int.toNat_natCast]
    obtain ⟨A, cap, rfl⟩ := Go.Joins.ownsRow_form ho (by omega)
    have cp : (w.alloc (.cells #[.int .i64 k, .int .i64 rg] 30)).cell? ⟨A, k, none⟩ = some (.pointer (some ⟨ps.getD k 0, 0, none⟩)) := by
      have := ho1.cells rfl k (ptrV (ps.getD k 0)) (by rw [List.getElem?_map, List.getD_eq_getElem?_getD, List.getElem?_eq_getElem (by omega)]; rfl)
      rw [Addr.add_lit, Nat.zero_add] at this
      exact this
    have hx := hpc1.out k hk
    have c2 : (w.alloc (.cells #[.int .i64 k, .int .i64 rg] 30)).cell? ⟨ps.getD k 0, 2, none⟩ = some (.int .i64 (L.getD k cl0).gen) := hx.cell 2
    have c3 : (w.alloc (.cells #[.int .i64 k, .int .i64 rg] 30)).cell? ⟨ps.getD k 0, 3, none⟩ = some (.bool (L.getD k cl0).live) := hx.cell 3
    generalize L.getD k cl0 = x at *
    generalize ps.getD k 0 = p at *
    generalize L.length = m at *
    clear hx hpc1 hpc ha ha1 ho ho1 r1 hin
    have d1 : decide ((k : Int) < 0) = false := decide_eq_false (by omega)
    have d2 : decide ((m : Int) ≤ (k : Int)) = false := decide_eq_false (by omega)
    cases hlv : x.live with
    | false =>
      rw [hlv] at c3 HR
      rw [Bool.false_and] at HR
      go_enter Try.func34, Try.ntmps34
      go_wp2
      generalize w.alloc (.cells #[.int .i64 k, .int .i64 rg] 30) = w1 at *
      go_quiet ((fail))
      go_wp2
      go_quiet ((fail))
      go_wp2
      go_quiet ((fail))
      go_wp2
      go_ret2
      exact ⟨by rw [HP.out, HR.out]; rfl, bw.trans ⟨rfl, rfl, rfl, Nat.le_refl _, fun _ _ => rfl⟩⟩
    | true =>
      rw [hlv] at c3 HR
      rw [Bool.true_and] at HR
      go_enter Try.func34, Try.ntmps34
      go_wp2
      generalize w.alloc (.cells #[.int .i64 k, .int .i64 rg] 30) = w1 at *
      go_quiet ((fail))
      go_wp2
      go_quiet ((fail))
      go_wp2
      go_quiet ((fail))
      go_wp2
      go_ret2
      exact ⟨by rw [HP.out, HR.out]; rfl, bw.trans ⟨rfl, rfl, rfl, Nat.le_refl _, fun _ _ => rfl⟩⟩
  · have HP : Hid (placeP L ps rc = none) := by unfold Hid placeP; rw [if_neg hin]
    have HR : Hid (isB L rc rg = false) := by
      unfold Hid isB
      rw [decide_eq_false hin, Bool.false_and]
    rcases Go.Joins.ownsRow_forms ho with ⟨rfl, hm0⟩ | ⟨A, cap, rfl⟩
    · by_cases h0 : rc < 0
      · have d1 : decide (rc < 0) = true := decide_eq_true h0
        clear hpc1 hpc ha ha1 ho ho1 r1 hin hm0
        go_enter Try.func34, Try.ntmps34
        go_wp2
        generalize w.alloc (.cells #[.int .i64 rc, .int .i64 rg] 30) = w1 at *
        go_quiet ((fail))
        go_wp2
        go_ret2
        exact ⟨by rw [HP.out, HR.out]; rfl, bw.trans ⟨rfl, rfl, rfl, Nat.le_refl _, fun _ _ => rfl⟩⟩
      · have d1 : decide (rc < 0) = false := decide_eq_false h0
        have d2 : decide (0 ≤ rc) = true := decide_eq_true (by omega)
        clear hpc1 hpc ha ha1 ho ho1 r1 hin hm0
        go_enter Try.func34, Try.ntmps34
        go_wp2
        generalize w.alloc (.cells #[.int .i64 rc, .int .i64 rg] 30) = w1 at *
        go_quiet ((fail))
        go_wp2
        go_ret2
        exact ⟨by rw [HP.out, HR.out]; rfl, bw.trans ⟨rfl, rfl, rfl, Nat.le_refl _, fun _ _ => rfl⟩⟩
    · by_cases h0 : rc < 0
      · have d1 : decide (rc < 0) = true := decide_eq_true h0
        clear hpc1 hpc ha ha1 ho ho1 r1 hin
        go_enter Try.func34, Try.ntmps34
        go_wp2
        generalize w.alloc (.cells #[.int .i64 rc, .int .i64 rg] 30) = w1 at *
        go_quiet ((fail))
        go_wp2
        go_ret2
        exact ⟨by rw [HP.out, HR.out]; rfl, bw.trans ⟨rfl, rfl, rfl, Nat.le_refl _, fun _ _ => rfl⟩⟩
      · have d1 : decide (rc < 0) = false := decide_eq_false h0
        have d2 : decide ((L.length : Int) ≤ rc) = true := decide_eq_true (by omega)
        clear hpc1 hpc ha ha1 ho ho1 r1 hin
        go_enter Try.func34, Try.ntmps34
        go_wp2
        generalize w.alloc (.cells #[.int .i64 rc, .int .i64 rg] 30) = w1 at *
        go_quiet ((fail))
        go_wp2
        go_ret2
        exact ⟨by rw [HP.out, HR.out]; rfl, bw.trans ⟨rfl, rfl, rfl, Nat.le_refl _, fun _ _ => rfl⟩⟩

set_option maxHeartbeats 2000000 in
set_option maxRecDepth 100000 in
theorem bytesOf_any (g p P W : Nat) (w : World) (hPW : P + W ≤ 3000) (hW : 1 ≤ W) (c0 : w.cell? ⟨p, 0, none⟩ = some (.int .i64 P)) (c1 : w.cell? ⟨p, 1, none⟩ = some (.int .i64 W)) :
    Calls Try.prog 35 #[.pointer (some ⟨g, 0, none⟩), .pointer (some ⟨p, 0, none⟩)] w fun e w' => e = .returned (.slice (some ⟨g, P, none⟩) W (3000 - P)) ∧ ∃ q, w' = w.drewN q := by
  have p1 : (P : Int) + (W : Int) ≤ 3000 := by omega
  have p2 : (P : Int) ≤ (P : Int) + (W : Int) := by omega
  have p3 : (0 : Int) ≤ (P : Int) := by omega
  have p4 : (0 : Int) ≤ (P : Int) + (W : Int) := by omega
  go_enter Try.func35, Try.ntmps35
  go_wp2
  go_region
  all_goals first
    | (exfalso; omega)
    | (go_wp2; go_ret; exact ⟨congrArg (fun z => Ending.returned (.slice (some ⟨g, P, none⟩) z (3000 - P))) (show P + W - P = W by omega), 1, rfl⟩)

/-- How an opening ends, at any heap: with its cells. -/
def OpenAllC (w : World) (s : ByteArray) (L : List Cl) (e : Ending) (w' : World) : Prop :=
  ∃ p : Option Addr, e = .returned (.tuple #[.pointer p, .bool (heapB s L)]) ∧
    (heapB s L = true → ∃ g t, p = some ⟨g, 0, none⟩ ∧ openM s.size L (fun _ => false) = some t ∧ OpenC w' g (byteAt s) t s.size L ∧ w.heap.size ≤ g) ∧ Below w.heap.size w w'

set_option maxHeartbeats 1000000 in
theorem openedC_all (s : ByteArray) (a : Option Addr) (b off n c : Nat) (L : List Cl) (w : World) (h : CellsIn w a b off n L) (hf : ∀ i, i < n → Fit (L.getD i cl0)) :
    Calls Try.prog 25 #[.agg #[.string s, .slice a n c]] w (OpenAllC w s L) := by
  have hl := h.len
  by_cases hr : s.size ≤ 3000 ∧ n ≤ 40
  · have HR : heapB s L = implB (byteAt s) s.size L := by
      unfold heapB
      rw [decide_eq_true (by omega), Bool.true_and]
    unfold OpenAllC
    rw [HR]
    exact openedC_any s a b off n c L w h hr.1 hr.2 hf
  · have HR : Hid (heapB s L = false) := by
      unfold Hid heapB
      rw [decide_eq_false (by omega), Bool.false_and]
    have hb : Below w.heap.size w (w.alloc (.cells #[.string s, .slice a n c] 26)) := (Below.refl _ w).alloc (Nat.le_refl _) _
    by_cases h1 : (3000 : Int) < (s.size : Int)
    · go_enter Try.func25, Try.ntmps25
      go_wp2
      go_ret2
      exact ⟨none, by rw [HR.out]; rfl, (fun h => by rw [HR.out] at h; cases h), hb⟩
    · have h2 : (40 : Int) < (n : Int) := by omega
      go_enter Try.func25, Try.ntmps25
      go_wp2
      go_ret2
      exact ⟨none, by rw [HR.out]; rfl, (fun h => by rw [HR.out] at h; cases h), hb⟩

theorem Arena.data {w : World} {g n : Nat} {d : Nat → UInt8} {t : Nat → Bool} {cs : Value} (h : Arena w g d t n cs) (i : Nat) (hi : i < 3000) : w.cell? ⟨g, i, none⟩ = some (.int .u8 (d i).toNat) := by
  obtain ⟨C, hr, _, h1, _⟩ := h.row
  exact (hr.cell _).trans (h1 i hi)

theorem extract_range (s : ByteArray) (P W : Nat) (h : P + W ≤ s.size) : (⟨((List.range W).map fun i => byteAt s (P + i)).toArray⟩ : ByteArray) = s.extract P (P + W) := by
  apply ByteArray.ext
  apply Array.ext'
  show (List.range W).map (fun i => byteAt s (P + i)) = _
  rw [ByteArray.data_extract, Array.toList_extract]
  apply List.ext_getElem?
  intro i
  rw [List.getElem?_map]
  by_cases hi : i < W
  · rw [List.getElem?_range hi]
    show some (byteAt s (P + i)) = _
    unfold byteAt
    have hl : P + i < s.data.toList.length := by rw [Array.length_toList]; exact Nat.lt_of_lt_of_le (by omega) h
    rw [List.getD_eq_getElem?_getD, List.getElem?_eq_getElem hl, List.extract_eq_take_drop, List.getElem?_take, if_pos (by omega), List.getElem?_drop, List.getElem?_eq_getElem hl]
    rfl
  · rw [List.getElem?_eq_none (by simp; omega)]
    rw [List.extract_eq_take_drop, List.getElem?_take, if_neg (by omega)]
    rfl
end Go.Proofs.Ytjjpplpdpldkeaa
