/- The specification's Get. The specification's Get, whole. The program's Get. The program's Get, whole. Heaps whose cells a slice owns: copied, held against each other, marked, held. -/
import Derived.Test.YtapdoechmnjaeaaGreatDoorHp4
import Derived.Test.YtapdoechmnjaeaaGreatDoorHOpenC
import Derived.Test.YtapdoechmnjaeaaGreatDoorHp2
namespace Go.Proofs.YtapdoechmnjaeaaGreatDoor.Hp
open Go.RowKit Go.Sort
/-- Does a reference lead to a live cell? -/
def isB (L : List Cl) (rc rg : Int) : Bool := decide (0 ≤ rc ∧ rc < (L.length : Int)) && ((L.getD rc.toNat cl0).live && ((L.getD rc.toNat cl0).gen == rg))

abbrev refV (rc rg : Int) : Value := .agg #[.int .i64 rc, .int .i64 rg]

theorem two_at {w : World} {g : Nat} {T : TypeId} {x y : Value} (h : RowAt w g T #[x, y]) : w.cell? ⟨g, 0, none⟩ = some x ∧ w.cell? ⟨g, 1, none⟩ = some y := by
  have a := h.cell 0
  have b := h.cell 1
  simp at a b
  exact ⟨a, b⟩

theorem in_same {n a b : Int} {r : Bool} (hr : decide (a ≤ n ∧ n ≤ b) = r) (w : World) : Calls Tryz.prog 77 #[.int .i64 n, .int .i64 a, .int .i64 b] w fun e w' => e = .returned (.bool r) ∧ w' = w :=
  (l1In_any n a b w).mono fun _ _ ⟨h1, h2⟩ => ⟨by rw [h1, hr], h2⟩

set_option maxHeartbeats 2000000 in
set_option maxRecDepth 100000 in
theorem l3Is_any (s : ByteArray) (a : Option Addr) (b off n c : Nat) (L : List Cl) (rc rg : Int) (w : World) (h : CellsIn w a b off n L) (hn : n ≤ 1048576) :
    Calls Tryz.prog 74 #[.agg #[.string s, .slice a n c], refV rc rg] w fun e w' => e = .returned (.bool (isB L rc rg)) ∧ Below w.heap.size w w' := by
  have hl := h.len
  have bw : Below w.heap.size w ((w.alloc (.cells #[.string s, .slice a n c] 26)).alloc (.cells #[.int .i64 rc, .int .i64 rg] 37)) := Go.Joins.below_alloc2 _ _ _
  have r1 := (RowAt.new w 26 #[.string s, .slice a n c]).below ((Below.refl _ _).alloc (Nat.le_refl _) (.cells #[.int .i64 rc, .int .i64 rg] 37)) (by simp)
  have r2 := RowAt.new (w.alloc (.cells #[.string s, .slice a n c] 26)) 37 #[.int .i64 rc, .int .i64 rg]
  simp only [World.size_alloc] at r2
  have h2 := cells_below h bw
  obtain ⟨e0', e1'⟩ := two_at r1
  obtain ⟨f0', f1'⟩ := two_at r2
  clear r1 r2
  go_enter Tryz.func74, Tryz.ntmps74
  go_wp2_with fail
  generalize (w.alloc (.cells #[.string s, .slice a n c] 26)).alloc (.cells #[.int .i64 rc, .int .i64 rg] 37) = w1 at *
  have e1 := e1'
  have f0 := f0'
  have f1 := f1'
  clear e0' e1' f0' f1'
  by_cases hin : 0 ≤ rc ∧ rc < (n : Int)
  · obtain ⟨k, rfl⟩ : ∃ k : Nat, rc = k := ⟨rc.toNat, by omega⟩
    have hk : k < n := by omega
    obtain rfl := h.addr (by omega)
    have hx := h2.cell k hk
    have HR : Hid (isB L k rg = ((L.getD k cl0).live && ((L.getD k cl0).gen == rg))) := by
      unfold Hid isB
      rw [hl, decide_eq_true hin, Bool.true_and, Int.toNat_natCast]
    have cI := in_same (n := (k : Int)) (a := 0) (b := (n : Int) - 1) (r := true) (decide_eq_true (by omega))
    have c2 := hx.c2
    generalize hX : L.getD k cl0 = x at *
    clear hl
    cases hlv : x.live with
    | false =>
      have c3 := hx.c3
      rw [hlv] at c3
      rw [hlv] at HR
      clear hx hX hlv
      go_quiet ((exact Calls.quiet_of_same (cI _)))
      go_wp2
      go_ret
      exact ⟨ret_bool HR.out.symm, bw.trans ((below_drewN _ _).mono bw.size)⟩
    | true =>
      have c3 := hx.c3
      rw [hlv] at c3
      rw [hlv] at HR
      rw [Bool.true_and] at HR
      clear hx hX hlv
      go_quiet ((exact Calls.quiet_of_same (cI _)))
      go_wp2
      go_ret
      exact ⟨ret_bool HR.out.symm, bw.trans ((below_drewN _ _).mono bw.size)⟩
  · have HR : Hid (isB L rc rg = false) := by
      unfold Hid isB
      rw [hl, decide_eq_false hin, Bool.false_and]
    have cI := in_same (n := rc) (a := 0) (b := (n : Int) - 1) (r := false) (decide_eq_false (by omega))
    clear hl
    go_quiet ((exact Calls.quiet_of_same (cI _)))
    go_wp2
    go_ret
    exact ⟨ret_bool HR.out.symm, bw.trans ((below_drewN _ _).mono bw.size)⟩
end Go.Proofs.YtapdoechmnjaeaaGreatDoor.Hp

namespace Go.Proofs.YtapdoechmnjaeaaGreatDoor.Hp
open Go.RowKit Go.Sort
/-- What is got. -/
def getB (s : ByteArray) (L : List Cl) (rc rg : Int) : ByteArray × Bool :=
  if heapB s L = true ∧ isB L rc rg = true then (s.extract (L.getD rc.toNat cl0).pos.toNat ((L.getD rc.toNat cl0).pos.toNat + (L.getD rc.toNat cl0).len.toNat), true) else (⟨#[]⟩, false)

theorem is_in {L : List Cl} {rc rg : Int} (h : isB L rc rg = true) : ∃ k : Nat, rc = k ∧ k < L.length ∧ (L.getD k cl0).live = true ∧ (L.getD k cl0).gen = rg := by
  unfold isB at h
  rw [Bool.and_eq_true, Bool.and_eq_true] at h
  have h1 := of_decide_eq_true h.1
  refine ⟨rc.toNat, by omega, by omega, h.2.1, by simpa using h.2.2⟩

set_option maxHeartbeats 2000000 in
set_option maxRecDepth 100000 in
theorem specGet_any (s : ByteArray) (a : Option Addr) (b off n c : Nat) (L : List Cl) (rc rg : Int) (w : World) (h : CellsIn w a b off n L) (hs : s.size ≤ 1048576) (hn : n ≤ 1048576) (hf : ∀ i, i < n → Fit (L.getD i cl0)) :
    Calls Tryz.prog 35 #[.agg #[.string s, .slice a n c], refV rc rg] w fun e w' => e = .returned (.tuple #[.string (getB s L rc rg).1, .bool (getB s L rc rg).2]) ∧ Below w.heap.size w w' := by
  have hl := h.len
  have bw : Below w.heap.size w ((w.alloc (.cells #[.string s, .slice a n c] 26)).alloc (.cells #[.int .i64 rc, .int .i64 rg] 37)) := Go.Joins.below_alloc2 _ _ _
  have r1 := (RowAt.new w 26 #[.string s, .slice a n c]).below ((Below.refl _ _).alloc (Nat.le_refl _) (.cells #[.int .i64 rc, .int .i64 rg] 37)) (by simp)
  have r2 := RowAt.new (w.alloc (.cells #[.string s, .slice a n c] 26)) 37 #[.int .i64 rc, .int .i64 rg]
  simp only [World.size_alloc] at r2
  have h2 := cells_below h bw
  go_enter Tryz.func35, Tryz.ntmps35
  go_wp2_with fail
  generalize (w.alloc (.cells #[.string s, .slice a n c] 26)).alloc (.cells #[.int .i64 rc, .int .i64 rg] 37) = w1 at *
  have l1 := r1.lt
  have l2 := r2.lt
  refine (specOk_any s a b off n c L w1 h2 hs hn hf).mono ?_
  rintro e w2 ⟨rfl, b2⟩
  have bb := bw.trans (b2.mono bw.size)
  have h3 := cells_below h2 b2
  have q1 := r1.below b2 l1
  have q2 := r2.below b2 l2
  clear r1 r2 h2 bw b2
  obtain ⟨e0, e1⟩ := two_at q1
  obtain ⟨f0, f1⟩ := two_at q2
  cases hr : heapB s L with
  | false =>
    have HR : Hid (getB s L rc rg = (⟨#[]⟩, false)) := by unfold Hid getB; rw [hr]; simp
    clear hr hl q1 q2
    go_wp2
    go_ret2
    exact ⟨by rw [HR.out]; rfl, bb⟩
  | true =>
    have HH : Hid (heapB s L = true) := hr
    clear hr
    go_wp2_with fail
    refine (l3Is_any s a b off n c L rc rg w2 h3 hn).mono ?_
    rintro e w3 ⟨rfl, b3⟩
    have bb3 := bb.trans (b3.mono bb.size)
    have h4 := cells_below h3 b3
    have l3 := q1.lt
    have l4 := q2.lt
    have q1' := q1.below b3 l3
    have q2' := q2.below b3 l4
    clear q1 q2 e0 e1 f0 f1 b3 bb h3 l3 l4
    obtain ⟨e0, e1⟩ := two_at q1'
    obtain ⟨f0, f1⟩ := two_at q2'
    cases hi : isB L rc rg with
    | false =>
      have HR : Hid (getB s L rc rg = (⟨#[]⟩, false)) := by unfold Hid getB; rw [hi]; simp
      clear hi hl q1' q2'
      go_wp2
      go_ret2
      exact ⟨by rw [HR.out]; rfl, bb3⟩
    | true =>
      obtain ⟨k, rfl, hk, hlv, hgen⟩ := is_in hi
      have HR : Hid (getB s L k rg = (s.extract (L.getD k cl0).pos.toNat ((L.getD k cl0).pos.toNat + (L.getD k cl0).len.toNat), true)) := by
        unfold Hid getB
        rw [if_pos ⟨HH.out, hi⟩, Int.toNat_natCast]
      obtain ⟨hs3, _⟩ := heap_small HH.out
      obtain ⟨g1, g2, g3, g4, g5⟩ := spec_facts (heap_cells HH.out k hk)
      rw [hl] at hk
      obtain rfl := h.addr (by omega)
      have hx := h4.cell k hk
      have c0 := hx.c0
      have c1 := hx.c1
      have c2 := hx.c2
      have c3 := hx.c3
      generalize L.getD k cl0 = x at *
      obtain ⟨P, hP⟩ : ∃ P : Nat, x.pos = P := ⟨_, (Int.toNat_of_nonneg g1).symm⟩
      obtain ⟨W, hW⟩ : ∃ W : Nat, x.len = W := ⟨_, (Int.toNat_of_nonneg g2).symm⟩
      rw [hP] at c0 g1 g3 g4 HR
      rw [hW] at c1 g2 g3 g5 HR
      rw [Int.toNat_natCast, Int.toNat_natCast] at HR
      have bb4 : Below w.heap.size w (w3.alloc (.cells #[.int .i64 P, .int .i64 W, .int .i64 x.gen, .bool x.live] 131)) := bb3.alloc bb3.size _
      obtain ⟨e2, _⟩ := two_at (q1'.below ((Below.refl _ w3).alloc (Nat.le_refl _) (.cells #[.int .i64 P, .int .i64 W, .int .i64 x.gen, .bool x.live] 131)) q1'.lt)
      clear hi hl hx hP hW hlv hgen q1' q2'
      go_wp2
      go_ret2
      exact ⟨by rw [HR.out]; rfl, bb4⟩
end Go.Proofs.YtapdoechmnjaeaaGreatDoor.Hp

namespace Go.Proofs.YtapdoechmnjaeaaGreatDoor.Hp
open Go.RowKit Go.Sort
def placeP (L : List Cl) (ps : List Nat) (rc : Int) : Option Addr := if 0 ≤ rc ∧ rc < (L.length : Int) then some ⟨ps.getD rc.toNat 0, 0, none⟩ else none

set_option maxHeartbeats 2000000 in
set_option maxRecDepth 100000 in
theorem cellOf_any (g n : Nat) (d : Nat → UInt8) (t : Nat → Bool) (L : List Cl) (cs : Value) (ps : List Nat) (rc rg : Int) (w : World) (ha : Arena w g d t n cs) (ho : w.ownsRow (g + 1) 85 1 cs L.length (ps.map ptrV)) (hpl : ps.length = L.length)
    (hpc : ∀ i, i < L.length → g < ps.getD i 0 ∧ RowAt w (ps.getD i 0) 131 (clV (L.getD i cl0))) (hL : L.length ≤ 40) :
    Calls Tryz.prog 40 #[.pointer (some ⟨g, 0, none⟩), refV rc rg] w fun e w' => e = .returned (.tuple #[.pointer (placeP L ps rc), .bool (isB L rc rg)]) ∧ Below w.heap.size w w' := by
  have bw : Below w.heap.size w (w.alloc (.cells #[.int .i64 rc, .int .i64 rg] 37)) := (Below.refl _ w).alloc (Nat.le_refl _) _
  have r1 := RowAt.new w 37 #[.int .i64 rc, .int .i64 rg]
  have ha1 := ha.below bw ha.lt
  have ho1 := owns_below ho bw
  have hpc1 : Hid (∀ i, i < L.length → RowAt (w.alloc (.cells #[.int .i64 rc, .int .i64 rg] 37)) (ps.getD i 0) 131 (clV (L.getD i cl0))) := fun i hi => (hpc i hi).2.below bw (hpc i hi).2.lt
  obtain ⟨f0, f1⟩ := two_at r1
  have cc := ha1.cells
  by_cases hin : 0 ≤ rc ∧ rc < (L.length : Int)
  · obtain ⟨k, rfl⟩ : ∃ k : Nat, rc = k := ⟨rc.toNat, by omega⟩
    have hk : k < L.length := by omega
    have HP : Hid (placeP L ps k = some ⟨ps.getD k 0, 0, none⟩) := by unfold Hid placeP; rw [if_pos hin, Int.toNat_natCast]
    have HR : Hid (isB L k rg = ((L.getD k cl0).live && ((L.getD k cl0).gen == rg))) := by
      unfold Hid isB
      rw [decide_eq_true hin, Bool.true_and, Int.toNat_natCast]
    obtain ⟨A, cap, rfl⟩ := Go.Joins.ownsRow_form ho (by omega)
    have cp : (w.alloc (.cells #[.int .i64 k, .int .i64 rg] 37)).cell? ⟨A, k, none⟩ = some (.pointer (some ⟨ps.getD k 0, 0, none⟩)) := by
      have := ho1.cells rfl k (ptrV (ps.getD k 0)) (by rw [List.getElem?_map, List.getD_eq_getElem?_getD, List.getElem?_eq_getElem (by omega)]; rfl)
      rw [Addr.add_lit, Nat.zero_add] at this
      exact this
    have hx := hpc1.out k hk
    have c2 : (w.alloc (.cells #[.int .i64 k, .int .i64 rg] 37)).cell? ⟨ps.getD k 0, 2, none⟩ = some (.int .i64 (L.getD k cl0).gen) := hx.cell 2
    have c3 : (w.alloc (.cells #[.int .i64 k, .int .i64 rg] 37)).cell? ⟨ps.getD k 0, 3, none⟩ = some (.bool (L.getD k cl0).live) := hx.cell 3
    generalize L.getD k cl0 = x at *
    generalize ps.getD k 0 = p at *
    generalize L.length = m at *
    clear hx hpc1 hpc ha ha1 ho ho1 r1 hin
    have d1 : decide ((k : Int) < 0) = false := decide_eq_false (by omega)
    have d2 : decide ((m : Int) ≤ (k : Int)) = false := decide_eq_false (by omega)
    cases hlv : x.live with
    | false =>
      rw [hlv] at c3 HR
      rw [Bool.false_and] at HR
      go_enter Tryz.func40, Tryz.ntmps40
      go_wp2
      generalize w.alloc (.cells #[.int .i64 k, .int .i64 rg] 37) = w1 at *
      go_quiet ((fail))
      go_wp2
      go_quiet ((fail))
      go_wp2
      go_quiet ((fail))
      go_wp2
      go_ret2
      exact ⟨by rw [HP.out, HR.out]; rfl, bw.trans ⟨rfl, rfl, rfl, Nat.le_refl _, fun _ _ => rfl⟩⟩
    | true =>
      rw [hlv] at c3 HR
      rw [Bool.true_and] at HR
      go_enter Tryz.func40, Tryz.ntmps40
      go_wp2
      generalize w.alloc (.cells #[.int .i64 k, .int .i64 rg] 37) = w1 at *
      go_quiet ((fail))
      go_wp2
      go_quiet ((fail))
      go_wp2
      go_quiet ((fail))
      go_wp2
      go_ret2
      exact ⟨by rw [HP.out, HR.out]; rfl, bw.trans ⟨rfl, rfl, rfl, Nat.le_refl _, fun _ _ => rfl⟩⟩
  · have HP : Hid (placeP L ps rc = none) := by unfold Hid placeP; rw [if_neg hin]
    have HR : Hid (isB L rc rg = false) := by
      unfold Hid isB
      rw [decide_eq_false hin, Bool.false_and]
    rcases Go.Joins.ownsRow_forms ho with ⟨rfl, hm0⟩ | ⟨A, cap, rfl⟩
    · by_cases h0 : rc < 0
      · have d1 : decide (rc < 0) = true := decide_eq_true h0
        clear hpc1 hpc ha ha1 ho ho1 r1 hin hm0
        go_enter Tryz.func40, Tryz.ntmps40
        go_wp2
        generalize w.alloc (.cells #[.int .i64 rc, .int .i64 rg] 37) = w1 at *
        go_quiet ((fail))
        go_wp2
        go_ret2
        exact ⟨by rw [HP.out, HR.out]; rfl, bw.trans ⟨rfl, rfl, rfl, Nat.le_refl _, fun _ _ => rfl⟩⟩
      · have d1 : decide (rc < 0) = false := decide_eq_false h0
        have d2 : decide (0 ≤ rc) = true := decide_eq_true (by omega)
        clear hpc1 hpc ha ha1 ho ho1 r1 hin hm0
        go_enter Tryz.func40, Tryz.ntmps40
        go_wp2
        generalize w.alloc (.cells #[.int .i64 rc, .int .i64 rg] 37) = w1 at *
        go_quiet ((fail))
        go_wp2
        go_ret2
        exact ⟨by rw [HP.out, HR.out]; rfl, bw.trans ⟨rfl, rfl, rfl, Nat.le_refl _, fun _ _ => rfl⟩⟩
    · by_cases h0 : rc < 0
      · have d1 : decide (rc < 0) = true := decide_eq_true h0
        clear hpc1 hpc ha ha1 ho ho1 r1 hin
        go_enter Tryz.func40, Tryz.ntmps40
        go_wp2
        generalize w.alloc (.cells #[.int .i64 rc, .int .i64 rg] 37) = w1 at *
        go_quiet ((fail))
        go_wp2
        go_ret2
        exact ⟨by rw [HP.out, HR.out]; rfl, bw.trans ⟨rfl, rfl, rfl, Nat.le_refl _, fun _ _ => rfl⟩⟩
      · have d1 : decide (rc < 0) = false := decide_eq_false h0
        have d2 : decide ((L.length : Int) ≤ rc) = true := decide_eq_true (by omega)
        clear hpc1 hpc ha ha1 ho ho1 r1 hin
        go_enter Tryz.func40, Tryz.ntmps40
        go_wp2
        generalize w.alloc (.cells #[.int .i64 rc, .int .i64 rg] 37) = w1 at *
        go_quiet ((fail))
        go_wp2
        go_ret2
        exact ⟨by rw [HP.out, HR.out]; rfl, bw.trans ⟨rfl, rfl, rfl, Nat.le_refl _, fun _ _ => rfl⟩⟩

set_option maxHeartbeats 2000000 in
set_option maxRecDepth 100000 in
theorem bytesOf_any (g p P W : Nat) (w : World) (hPW : P + W ≤ 3000) (hW : 1 ≤ W) (c0 : w.cell? ⟨p, 0, none⟩ = some (.int .i64 P)) (c1 : w.cell? ⟨p, 1, none⟩ = some (.int .i64 W)) :
    Calls Tryz.prog 41 #[.pointer (some ⟨g, 0, none⟩), .pointer (some ⟨p, 0, none⟩)] w fun e w' => e = .returned (.slice (some ⟨g, P, none⟩) W (3000 - P)) ∧ ∃ q, w' = w.drewN q := by
  have p1 : (P : Int) + (W : Int) ≤ 3000 := by omega
  have p2 : (P : Int) ≤ (P : Int) + (W : Int) := by omega
  have p3 : (0 : Int) ≤ (P : Int) := by omega
  have p4 : (0 : Int) ≤ (P : Int) + (W : Int) := by omega
  go_enter Tryz.func41, Tryz.ntmps41
  go_wp2
  go_region
  all_goals first
    | (exfalso; omega)
    | (go_wp2; go_ret; exact ⟨congrArg (fun z => Ending.returned (.slice (some ⟨g, P, none⟩) z (3000 - P))) (show P + W - P = W by omega), 1, rfl⟩)

/-- How an opening ends, at any heap: with its cells. -/
def OpenAllC (w : World) (s : ByteArray) (L : List Cl) (e : Ending) (w' : World) : Prop :=
  ∃ p : Option Addr, e = .returned (.tuple #[.pointer p, .bool (heapB s L)]) ∧
    (heapB s L = true → ∃ g t, p = some ⟨g, 0, none⟩ ∧ openM s.size L (fun _ => false) = some t ∧ OpenC w' g (byteAt s) t s.size L ∧ w.heap.size ≤ g) ∧ Below w.heap.size w w'

set_option maxHeartbeats 1000000 in
theorem openedC_all (s : ByteArray) (a : Option Addr) (b off n c : Nat) (L : List Cl) (w : World) (h : CellsIn w a b off n L) (hf : ∀ i, i < n → Fit (L.getD i cl0)) :
    Calls Tryz.prog 39 #[.agg #[.string s, .slice a n c]] w (OpenAllC w s L) := by
  have hl := h.len
  by_cases hr : s.size ≤ 3000 ∧ n ≤ 40
  · have HR : heapB s L = implB (byteAt s) s.size L := by
      unfold heapB
      rw [decide_eq_true (by omega), Bool.true_and]
    unfold OpenAllC
    rw [HR]
    exact openedC_any s a b off n c L w h hr.1 hr.2 hf
  · have HR : Hid (heapB s L = false) := by
      unfold Hid heapB
      rw [decide_eq_false (by omega), Bool.false_and]
    have hb : Below w.heap.size w (w.alloc (.cells #[.string s, .slice a n c] 26)) := (Below.refl _ w).alloc (Nat.le_refl _) _
    by_cases h1 : (3000 : Int) < (s.size : Int)
    · go_enter Tryz.func39, Tryz.ntmps39
      go_wp2
      go_ret2
      exact ⟨none, by rw [HR.out]; rfl, (fun h => by rw [HR.out] at h; cases h), hb⟩
    · have h2 : (40 : Int) < (n : Int) := by omega
      go_enter Tryz.func39, Tryz.ntmps39
      go_wp2
      go_ret2
      exact ⟨none, by rw [HR.out]; rfl, (fun h => by rw [HR.out] at h; cases h), hb⟩

theorem Arena.data {w : World} {g n : Nat} {d : Nat → UInt8} {t : Nat → Bool} {cs : Value} (h : Arena w g d t n cs) (i : Nat) (hi : i < 3000) : w.cell? ⟨g, i, none⟩ = some (.int .u8 (d i).toNat) := by
  obtain ⟨C, hr, _, h1, _⟩ := h.row
  exact (hr.cell _).trans (h1 i hi)

theorem extract_range (s : ByteArray) (P W : Nat) (h : P + W ≤ s.size) : (⟨((List.range W).map fun i => byteAt s (P + i)).toArray⟩ : ByteArray) = s.extract P (P + W) := by
  apply ByteArray.ext
  apply Array.ext'
  show (List.range W).map (fun i => byteAt s (P + i)) = _
  rw [ByteArray.data_extract, Array.toList_extract]
  apply List.ext_getElem?
  intro i
  rw [List.getElem?_map]
  by_cases hi : i < W
  · rw [List.getElem?_range hi]
    show some (byteAt s (P + i)) = _
    unfold byteAt
    have hl : P + i < s.data.toList.length := by rw [Array.length_toList]; exact Nat.lt_of_lt_of_le (by omega) h
    rw [List.getD_eq_getElem?_getD, List.getElem?_eq_getElem hl, List.extract_eq_take_drop, List.getElem?_take, if_pos (by omega), List.getElem?_drop, List.getElem?_eq_getElem hl]
    rfl
  · rw [List.getElem?_eq_none (by simp; omega)]
    rw [List.extract_eq_take_drop, List.getElem?_take, if_neg (by omega)]
    rfl
end Go.Proofs.YtapdoechmnjaeaaGreatDoor.Hp

namespace Go.Proofs.YtapdoechmnjaeaaGreatDoor.Hp
open Go.RowKit Go.Sort
theorem live_len {n : Nat} {x : Cl} (h : specCellB n x = true) (hl : x.live = true) : 1 ≤ x.len := by
  unfold specCellB at h
  rw [hl] at h
  simp at h
  omega

set_option maxHeartbeats 2000000 in
set_option maxRecDepth 100000 in
theorem implGet_any (s : ByteArray) (a : Option Addr) (b off n c : Nat) (L : List Cl) (rc rg : Int) (w : World) (h : CellsIn w a b off n L) (hf : ∀ i, i < n → Fit (L.getD i cl0)) :
    Calls Tryz.prog 10 #[.agg #[.string s, .slice a n c], refV rc rg] w fun e w' => e = .returned (.tuple #[.string (getB s L rc rg).1, .bool (getB s L rc rg).2]) ∧ Below w.heap.size w w' := by
  have bw : Below w.heap.size w ((w.alloc (.cells #[.string s, .slice a n c] 26)).alloc (.cells #[.int .i64 rc, .int .i64 rg] 37)) := Go.Joins.below_alloc2 _ _ _
  have r2 := RowAt.new (w.alloc (.cells #[.string s, .slice a n c] 26)) 37 #[.int .i64 rc, .int .i64 rg]
  simp only [World.size_alloc] at r2
  have h2 := cells_below h bw
  have l2 := r2.lt
  go_enter Tryz.func10, Tryz.ntmps10
  go_wp2_with fail
  generalize (w.alloc (.cells #[.string s, .slice a n c] 26)).alloc (.cells #[.int .i64 rc, .int .i64 rg] 37) = w1 at *
  refine (openedC_all s a b off n c L w1 h2 hf).mono ?_
  rintro e w2 ⟨p, rfl, hop, b2⟩
  have bb := bw.trans (b2.mono bw.size)
  have q2 := r2.below b2 l2
  clear r2 h2 bw b2
  obtain ⟨f0, f1⟩ := two_at q2
  cases hr : heapB s L with
  | false =>
    have HR : Hid (getB s L rc rg = (⟨#[]⟩, false)) := by unfold Hid getB; rw [hr]; simp
    clear hr q2 hop
    go_wp2
    go_ret2
    exact ⟨by rw [HR.out]; rfl, bb⟩
  | true =>
    have HH : Hid (heapB s L = true) := hr
    obtain ⟨g, t, rfl, _, ⟨cs, ps, ha, ho, hpl, hpc, hpn⟩, hg⟩ := hop hr
    obtain ⟨hs3, hL⟩ := heap_small hr
    clear hr hop
    go_wp2_with fail
    refine (cellOf_any g s.size (byteAt s) t L cs ps rc rg w2 ha ho hpl hpc hL).mono ?_
    rintro e w3 ⟨rfl, b3⟩
    have bb3 := bb.trans (b3.mono bb.size)
    have ha3 := ha.below b3 ha.lt
    cases hi : isB L rc rg with
    | false =>
      have HR : Hid (getB s L rc rg = (⟨#[]⟩, false)) := by unfold Hid getB; rw [hi]; simp
      clear hi q2 ha ho hpc ha3 b3 f0 f1
      go_wp2
      go_ret2
      exact ⟨by rw [HR.out]; rfl, bb3⟩
    | true =>
      obtain ⟨k, rfl, hk, hlv, hgen⟩ := is_in hi
      have HR : Hid (getB s L k rg = (s.extract (L.getD k cl0).pos.toNat ((L.getD k cl0).pos.toNat + (L.getD k cl0).len.toNat), true)) := by
        unfold Hid getB
        rw [if_pos ⟨HH.out, hi⟩, Int.toNat_natCast]
      have HP : placeP L ps k = some ⟨ps.getD k 0, 0, none⟩ := by unfold placeP; rw [if_pos (by omega), Int.toNat_natCast]
      rw [HP]
      have hx := (hpc k hk).2.below b3 (hpc k hk).2.lt
      have hok := spec_facts (heap_cells HH.out k hk)
      have hlen := live_len (heap_cells HH.out k hk) hlv
      have c0 : w3.cell? ⟨ps.getD k 0, 0, none⟩ = some (.int .i64 (L.getD k cl0).pos) := hx.cell 0
      have c1 : w3.cell? ⟨ps.getD k 0, 1, none⟩ = some (.int .i64 (L.getD k cl0).len) := hx.cell 1
      generalize L.getD k cl0 = x at *
      generalize ps.getD k 0 = q at *
      obtain ⟨g1, g2, g3, g4, g5⟩ := hok
      obtain ⟨P, hP⟩ : ∃ P : Nat, x.pos = P := ⟨_, (Int.toNat_of_nonneg g1).symm⟩
      obtain ⟨W, hW⟩ : ∃ W : Nat, x.len = W := ⟨_, (Int.toNat_of_nonneg g2).symm⟩
      rw [hP] at c0 g1 g3 g4 HR
      rw [hW] at c1 g2 g3 g5 HR hlen
      rw [Int.toNat_natCast, Int.toNat_natCast] at HR
      have hcv : ∀ m, (convert 22 9 (.slice (some ⟨g, P, none⟩) W (3000 - P))).run Tryz.prog (w3.drewN m) = .ok (.string (s.extract P (P + W))) (w3.drewN m) := fun m => by
        have := run_convert_bytes_back (P := Tryz.prog) (w3.drewN m) 22 9 5 ⟨g, P, none⟩ (3000 - P) ((List.range W).map fun i => byteAt s (P + i)) Tryz.underlying22 Tryz.underlying5 Tryz.underlying9 ?_
        · rw [extract_range s P W (by omega)] at this
          simpa using this
        · intro j hj
          have hj' : j < W := by simpa using hj
          rw [show (w3.drewN m).cell? _ = w3.cell? _ from rfl]
          have := ha3.data (P + j) (by omega)
          rw [Addr.add_lit]
          simpa using this
      have HB := bytesOf_any g q P W w3 (by omega) (by omega) c0 c1
      clear hi q2 ha ho hpc ha3 b3 f0 f1 c0 c1 hx HP hP hW hlv hgen
      go_wp2_with fail
      refine HB.mono ?_
      rintro e w4 ⟨rfl, m, rfl⟩
      have hc1 := hcv m
      clear hcv HB
      go_wp2
      go_ret2
      exact ⟨by rw [HR.out]; rfl, bb3.trans ⟨rfl, rfl, rfl, Nat.le_refl _, fun _ _ => rfl⟩⟩
end Go.Proofs.YtapdoechmnjaeaaGreatDoor.Hp

namespace Go.Proofs.YtapdoechmnjaeaaGreatDoor.Hp
open Go.RowKit Go.Sort
theorem row_owns {w : World} {g n : Nat} {D : Array Value} {L : List Cl} (h : RowAt w g 131 D) (hD : D.size = n * 4) (hp : Pre w g L n) (hl : L.length = n) (hn : n ≤ 1048576) : w.ownsRow g 131 4 (.slice (some ⟨g, 0, none⟩) n n) n (flatC L) := by
  refine ⟨by rw [flatC_len, hl], .inr ⟨g, n, D, rfl, Nat.le_refl _, h, Nat.le_refl _, by unfold maxLen; omega, hD, ?_⟩⟩
  apply List.ext_getElem?
  intro j
  by_cases hj : j < n * 4
  · rw [List.getElem?_take, if_pos hj, Array.getElem?_toList]
    have hk : j / 4 < n := by omega
    have hc := hp (j / 4) hk
    have e : j = j / 4 * 4 + j % 4 := by omega
    have hf := flatC_at L (j / 4) (j % 4) (by omega) (by omega)
    rw [← e] at hf
    rw [hf, ← h.cell j]
    have h4 : j % 4 = 0 ∨ j % 4 = 1 ∨ j % 4 = 2 ∨ j % 4 = 3 := by omega
    generalize L.getD (j / 4) cl0 = y at *
    rcases h4 with h4 | h4 | h4 | h4
    · rw [h4] at e ⊢
      rw [show j = j / 4 * 4 from by omega]
      exact hc.c0
    · rw [h4] at e ⊢
      conv => lhs; rw [e]
      exact hc.c1
    · rw [h4] at e ⊢
      conv => lhs; rw [e]
      exact hc.c2
    · rw [h4] at e ⊢
      conv => lhs; rw [e]
      exact hc.c3
  · rw [List.getElem?_take, if_neg hj, List.getElem?_eq_none (by rw [flatC_len, hl]; omega)]

set_option maxHeartbeats 1000000 in
theorem toCellsO_any (a : Option Addr) (b off n c : Nat) (L : List Cl) (w : World) (h : CellsIn w a b off n L) (hn : n ≤ 1048576) :
    Calls Tryz.prog 50 #[.slice a n c] w fun e w' => e = .returned (.slice (some ⟨w.heap.size, 0, none⟩) n n) ∧ w'.ownsRow w.heap.size 131 4 (.slice (some ⟨w.heap.size, 0, none⟩) n n) n (flatC L) ∧ Below w.heap.size w w' ∧ w.heap.size < w'.heap.size := by
  obtain ⟨C, hC, hmk⟩ := make_cells n hn
  have HC : Hid (C.size = n * 4) := hC
  clear hC
  go_enter Tryz.func50, Tryz.ntmps50
  go_wp2
  go_loopw [4] (fun i wr => ∃ (k : Nat) (D : Array Value), k ≤ n ∧ i = .int .i64 k ∧ D.size = n * 4 ∧ RowAt wr w.heap.size 131 D ∧ Pre wr w.heap.size L k ∧ Below w.heap.size w wr) (fun i _ => n - (intOf i).toNat)
  case atStart => exact ⟨0, C, by omega, rfl, HC.out, RowAt.new _ _ _, fun j hj => by omega, (Below.refl _ _).alloc (Nat.le_refl _) _⟩
  case round =>
    obtain ⟨k, D, hkn, rfl, hD, hrow, hpre, bk⟩ := hrel
    have HD : Hid (D.size = n * 4) := hD
    clear hD hmk
    by_cases hlt : k < n
    · obtain rfl := h.addr (by omega)
      have hlow := h.low (by omega)
      have hnd := cl_below (h.cell k hlt) hlow bk
      have c0 := hnd.c0
      have c1 := hnd.c1
      have c2 := hnd.c2
      have c3 := hnd.c3
      clear hnd
      generalize hx : L.getD k cl0 = x at *
      have HX : Hid (L.getD k cl0 = x) := hx
      clear hx
      go_wp2_with fail
      refine (toCell_any x wr).mono ?_
      rintro e w1 ⟨rfl, b1⟩
      have hrow1 := hrow.below b1 hrow.lt
      have hgl := hrow.lt
      have hD4 : k * 4 + 3 < D.size := by rw [HD.out]; omega
      have t0 : w1.cell? ⟨w.heap.size, k * 4, none⟩ = some (D[k * 4]'(by omega)) := by rw [hrow1.cell]; simp
      have t1 : w1.cell? ⟨w.heap.size, k * 4 + 1, none⟩ = some (D[k * 4 + 1]'(by omega)) := by rw [hrow1.cell]; simp
      have t2 : w1.cell? ⟨w.heap.size, k * 4 + 2, none⟩ = some (D[k * 4 + 2]'(by omega)) := by rw [hrow1.cell]; simp
      have t3 : w1.cell? ⟨w.heap.size, k * 4 + 3, none⟩ = some (D[k * 4 + 3]'(by omega)) := by rw [hrow1.cell]; simp
      have f0 := hrow1.frozen (k * 4)
      have f1 := hrow1.frozen (k * 4 + 1)
      have f2 := hrow1.frozen (k * 4 + 2)
      have f3 := hrow1.frozen (k * 4 + 3)
      generalize D[k * 4]'(by omega) = y0 at *
      generalize D[k * 4 + 1]'(by omega) = y1 at *
      generalize D[k * 4 + 2]'(by omega) = y2 at *
      generalize D[k * 4 + 3]'(by omega) = y3 at *
      clear c0 c1 c2 c3
      have HPre : Hid (Pre _ _ _ _) := pre_put hrow1 hD4 (pre_below hpre hgl b1) HX.out
      obtain ⟨D', hD', hr', _⟩ := put4_row hrow1 hD4 (.int .i64 x.pos) (.int .i64 x.len) (.int .i64 x.gen) (.bool x.live)
      have HR : Hid (RowAt _ _ _ D') := hr'
      have HS : Hid (D'.size = D.size) := hD'
      clear hr' hD' hrow1 hrow hpre
      have b01 := bk.trans (b1.mono bk.size)
      clear b1
      go_wp2
      go_roundw
      case rel => exact ⟨k + 1, D', by omega, by go_num, by rw [HS.out, HD.out], HR.out, HPre.out, ((((b01.setCell (Nat.le_refl _) _).setCell (Nat.le_refl _) _).setCell (Nat.le_refl _) _).setCell (Nat.le_refl _) _)⟩
      case measure => simp [intOf]; omega
    · obtain rfl : k = n := by omega
      go_wp2
      go_ret
      exact ⟨rfl, row_owns hrow HD.out hpre h.len hn, bk, hrow.lt⟩

set_option maxHeartbeats 1000000 in
theorem toHeapO_any (s : ByteArray) (a : Option Addr) (b off n c : Nat) (L : List Cl) (w : World) (h : CellsIn w a b off n L) (hn : n ≤ 1048576) :
    Calls Tryz.prog 15 #[.agg #[.string s, .slice a n c]] w fun e w' => ∃ g, e = .returned (.agg #[.string s, .slice (some ⟨g, 0, none⟩) n n]) ∧ w'.ownsRow w.heap.size 131 4 (.slice (some ⟨g, 0, none⟩) n n) n (flatC L) ∧ Below w.heap.size w w' := by
  go_enter Tryz.func15, Tryz.ntmps15
  go_wp2_with fail
  have bw : Below w.heap.size w (((w.alloc (.cells #[.string s, .slice a n c] 51)).alloc (.cells #[.string ⟨#[]⟩, .slice none 0 0] 26)).alloc (.cells #[.string s, .slice none 0 0] 26)) := Go.Joins.below_alloc3 _ _ _ _
  have r2 := RowAt.new ((w.alloc (.cells #[.string s, .slice a n c] 51)).alloc (.cells #[.string ⟨#[]⟩, .slice none 0 0] 26)) 26 #[.string s, .slice none 0 0]
  have r1 := (RowAt.new (w.alloc (.cells #[.string s, .slice a n c] 51)) 26 #[.string ⟨#[]⟩, .slice none 0 0]).below ((Below.refl _ _).alloc (Nat.le_refl _) (.cells #[.string s, .slice none 0 0] 26)) (by simp)
  simp only [World.size_alloc] at r1 r2
  have hc := cells_below h bw
  have hsz : (((w.alloc (.cells #[.string s, .slice a n c] 51)).alloc (.cells #[.string ⟨#[]⟩, .slice none 0 0] 26)).alloc (.cells #[.string s, .slice none 0 0] 26)).heap.size = w.heap.size + 1 + 1 + 1 := by simp
  generalize (((w.alloc (.cells #[.string s, .slice a n c] 51)).alloc (.cells #[.string ⟨#[]⟩, .slice none 0 0] 26)).alloc (.cells #[.string s, .slice none 0 0] 26)) = W at *
  refine (toCellsO_any a b off n c L W hc hn).mono ?_
  rintro e w1 ⟨rfl, g1, b1, s1⟩
  rw [hsz] at g1 b1 s1 ⊢
  have q1 := r1.below b1 (by omega)
  have q2 := r2.below b1 (by omega)
  have a0 := q1.cell 0
  have a1 := q1.cell 1
  have d0 := q2.cell 0
  have d1 := q2.cell 1
  have f0 := q1.frozen 0
  have f1 := q1.frozen 1
  have e1 := q2.frozen 1
  simp at a0 a1 d0 d1
  have b0 := bw.trans (b1.mono (by omega))
  have HG : Hid (w1.ownsRow (w.heap.size + 1 + 1 + 1) 131 4 (.slice (some ⟨w.heap.size + 1 + 1 + 1, 0, none⟩) n n) n (flatC L)) := g1
  clear r1 r2 q1 q2 hsz b1 g1 hc
  go_wp2
  refine bodyPost_ret (v := .agg #[.string s, .slice (some ⟨w.heap.size + 1 + 1 + 1, 0, none⟩) n n]) (by simp [results, Tryz.results15, go_sem, a0, a1]) rfl ⟨w.heap.size + 1 + 1 + 1, rfl, ?_, ?_⟩
  · exact Go.Joins.ownsRow_le (ownsRow_setCell_below (ownsRow_setCell_below (ownsRow_setCell_below HG.out (by simp only; omega) _) (by simp only; omega) _) (by simp only; omega) _) (by omega)
  · exact ((b0.setCell (by simp; omega) _).setCell (by simp) _).setCell (by simp) _

theorem owns_in {w : World} {B n : Nat} {v : Value} {M : List Cl} (h : w.ownsRow B 131 4 v n (flatC M)) : ∃ a A cap, v = .slice a n cap ∧ CellsIn w a A 0 n M := by
  have hl : M.length = n := by
    have := h.1
    rw [flatC_len] at this
    omega
  rcases Go.Joins.ownsRow_forms h with ⟨rfl, rfl⟩ | ⟨A, cap, rfl⟩
  · have : M = [] := List.eq_nil_of_length_eq_zero hl
    subst this
    exact ⟨none, 0, 0, rfl, cellsIn_none⟩
  · exact ⟨_, A, cap, rfl, owns_cellsIn h⟩

theorem eqHeapV (D : ByteArray) (v v' : Value) (B B' n : Nat) (M : List Cl) (w : World) (h : w.ownsRow B 131 4 v n (flatC M)) (h' : w.ownsRow B' 131 4 v' n (flatC M)) (hn : n ≤ 1048576) :
    Calls Tryz.prog 18 #[.agg #[.string D, v], .agg #[.string D, v']] w fun e w' => e = .returned (.bool true) ∧ Below w.heap.size w w' := by
  obtain ⟨a, A, cap, rfl, hc⟩ := owns_in h
  obtain ⟨a', A', cap', rfl, hc'⟩ := owns_in h'
  exact eqHeap_any D a a' A 0 A' 0 n cap cap' M w hc hc' hn

theorem eqRefV (rc rg : Int) (w : World) : Calls Tryz.prog 91 #[refV rc rg, refV rc rg] w fun e w' => e = .returned (.bool true) ∧ Below w.heap.size w w' := by
  go_enter Tryz.func91, Tryz.ntmps91
  go_wp2
  go_ret
  exact ⟨rfl, Go.Joins.below_alloc2 _ _ _⟩

theorem mark0 (w : World) : Calls Tryz.prog 55 #[.slice none 0 0, .int .i64 1] w fun e w' => e = .returned (.int .i64 1) ∧ w' = w := by
  go_enter Tryz.func55, Tryz.ntmps55
  go_wp2
  refine wp_loop_rounds 1 ?_
  rw [rounds_succ]
  go_wp2
  go_ret
  exact ⟨rfl, rfl⟩

set_option maxHeartbeats 1000000 in
theorem markHeapV (D : ByteArray) (v : Value) (B n : Nat) (M : List Cl) (w : World) (h : w.ownsRow B 131 4 v n (flatC M)) (hn : n ≤ 1048576) :
    Calls Tryz.prog 20 #[.agg #[.string D, v], .int .i64 1] w fun e w' => e = .returned (.int .i64 (1 + 4 * n : Nat)) ∧ w'.ownsRow B 131 4 v n (flatC (marks 1 n)) ∧ w.grownBy w' v.ownBlock := by
  rcases Go.Joins.ownsRow_forms h with ⟨rfl, rfl⟩ | ⟨A, cap, rfl⟩
  · go_enter Tryz.func20, Tryz.ntmps20
    go_wp2_with fail
    refine (mark0 _).mono ?_
    rintro e w1 ⟨rfl, rfl⟩
    go_wp2
    go_ret
    exact ⟨rfl, World.ownsRow_nil _ _ _ _, grown_below (grown_refl w _) ((Below.refl _ w).alloc (Nat.le_refl _) _)⟩
  · have h1 := h.alloc (.cells #[.string D, .slice (some ⟨A, 0, none⟩) n cap] 26)
    have hm := mark_any A n cap B 1 M _ h1 hn (by omega)
    have HM : Hid (Calls Tryz.prog 55 #[.slice (some ⟨A, 0, none⟩) n cap, .int .i64 (1 : Nat)] (w.alloc (.cells #[.string D, .slice (some ⟨A, 0, none⟩) n cap] 26)) _) := hm
    clear hm h1 h
    go_enter Tryz.func20, Tryz.ntmps20
    go_wp2_with fail
    refine HM.out.mono ?_
    clear HM
    rintro e w1 ⟨rfl, o1, g1⟩
    go_wp2
    go_ret
    exact ⟨rfl, o1, ⟨g1.os, g1.tape, g1.output, by have := g1.size; simp at this; omega, fun j hj hne => (g1.block j (by simp; omega) hne).trans (Below.heap_alloc _ _ _ hj)⟩⟩

theorem kept_row {w w' : World} {B n p : Nat} {T : TypeId} {C : Array Value} {v : Value} {xs : List Value} (h : RowAt w p T C) (ho : w.ownsRow B 131 4 v n xs) (g : w.grownBy w' v.ownBlock) (hT : T ≠ 131) : RowAt w' p T C :=
  (g.block p h.lt (own_ne ho h hT)).trans h

theorem kept_cells {w w' : World} {a : Option Addr} {b off n : Nat} {L : List Cl} {r : Option Nat} (h : CellsIn w a b off n L) (g : w.grownBy w' r) (hr : ∀ y, r = some y → 0 < n → b < y) : CellsIn w' a b off n L := by
  refine ⟨h.len, h.addr, fun h0 => Nat.lt_of_lt_of_le (h.low h0) g.size, fun i hi => ?_⟩
  have hb : ∀ j, w'.cell? ⟨b, j, none⟩ = w.cell? ⟨b, j, none⟩ := fun j => World.cell?_of_block (w := w) (g.block b (h.low (by omega)) (fun e => by have := hr b e.symm (by omega); omega))
  have hx := h.cell i hi
  exact ⟨(hb _).trans hx.c0, (hb _).trans hx.c1, (hb _).trans hx.c2, (hb _).trans hx.c3⟩

theorem own_apart {w0 w1 : World} {B0 B1 e e' s s' n n' : Nat} {v0 v1 : Value} {xs xs' : List Value} (h0 : w0.ownsRow B0 e s v0 n xs) (h1 : w1.ownsRow B1 e' s' v1 n' xs') (h : w0.heap.size ≤ B1) : v0.ownBlock = none ∨ v0.ownBlock ≠ v1.ownBlock := by
  cases hv : v0.ownBlock with
  | none => exact .inl rfl
  | some y =>
    refine .inr fun e => ?_
    have := (h0.lt y hv).2
    have := (h1.lt y e.symm).1
    omega

end Go.Proofs.YtapdoechmnjaeaaGreatDoor.Hp
