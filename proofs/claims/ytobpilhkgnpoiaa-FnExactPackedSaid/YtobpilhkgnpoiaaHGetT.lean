/- The specification's Get, whole. -/
import Derived.Test.YtobpilhkgnpoiaaHGetS
namespace Go.Proofs.Ytobpilhkgnpoiaa
open Go.RowKit Go.Sort

/-- What is got. -/
def getB (s : ByteArray) (L : List Cl) (rc rg : Int) : ByteArray × Bool :=
  if heapB s L = true ∧ isB L rc rg = true then (s.extract (L.getD rc.toNat cl0).pos.toNat ((L.getD rc.toNat cl0).pos.toNat + (L.getD rc.toNat cl0).len.toNat), true) else (⟨#[]⟩, false)

theorem is_in {L : List Cl} {rc rg : Int} (h : isB L rc rg = true) : ∃ k : Nat, rc = k ∧ k < L.length ∧ (L.getD k cl0).live = true ∧ (L.getD k cl0).gen = rg := by
  unfold isB at h
  rw [Bool.and_eq_true, Bool.and_eq_true] at h
  have h1 := of_decide_eq_true h.1
  refine ⟨rc.toNat, by omega, by omega, h.2.1, by simpa using h.2.2⟩

set_option maxHeartbeats 2000000 in
set_option maxRecDepth 100000 in
theorem specGet_any (s : ByteArray) (a : Option Addr) (b off n c : Nat) (L : List Cl) (rc rg : Int) (w : World) (h : CellsIn w a b off n L) (hs : s.size ≤ 1048576) (hn : n ≤ 1048576) (hf : ∀ i, i < n → Fit (L.getD i cl0)) :
    Calls Try.prog 27 #[.agg #[.string s, .slice a n c], refV rc rg] w fun e w' => e = .returned (.tuple #[.string (getB s L rc rg).1, .bool (getB s L rc rg).2]) ∧ Below w.heap.size w w' := by
  have hl := h.len
  have bw : Below w.heap.size w ((w.alloc (.cells #[.string s, .slice a n c] 24)).alloc (.cells #[.int .i64 rc, .int .i64 rg] 39)) := Go.Joins.below_alloc2 _ _ _
  have r1 := (RowAt.new w 24 #[.string s, .slice a n c]).below ((Below.refl _ _).alloc (Nat.le_refl _) (.cells #[.int .i64 rc, .int .i64 rg] 39)) (by simp)
  have r2 := RowAt.new (w.alloc (.cells #[.string s, .slice a n c] 24)) 39 #[.int .i64 rc, .int .i64 rg]
  simp only [World.size_alloc] at r2
  have h2 := cells_below h bw
  go_enter Try.func27, Try.ntmps27
  go_wp2_with fail
  generalize (w.alloc (.cells #[.string s, .slice a n c] 24)).alloc (.cells #[.int .i64 rc, .int .i64 rg] 39) = w1 at *
  have l1 := r1.lt
  have l2 := r2.lt
  refine (specOk_any s a b off n c L w1 h2 hs hn hf).mono ?_
  rintro e w2 ⟨rfl, b2⟩
  have bb := bw.trans (b2.mono bw.size)
  have h3 := cells_below h2 b2
  have q1 := r1.below b2 l1
  have q2 := r2.below b2 l2
  clear r1 r2 h2 bw b2
  obtain ⟨e0, e1⟩ := two_at q1
  obtain ⟨f0, f1⟩ := two_at q2
  cases hr : heapB s L with
  | false =>
    have HR : Hid (getB s L rc rg = (⟨#[]⟩, false)) := by unfold Hid getB; rw [hr]; simp
    clear hr hl q1 q2
    go_wp2
    go_ret2
    exact ⟨by rw [HR.out]; rfl, bb⟩
  | true =>
    have HH : Hid (heapB s L = true) := hr
    clear hr
    go_wp2_with fail
    refine (l3Is_any s a b off n c L rc rg w2 h3 hn).mono ?_
    rintro e w3 ⟨rfl, b3⟩
    have bb3 := bb.trans (b3.mono bb.size)
    have h4 := cells_below h3 b3
    have l3 := q1.lt
    have l4 := q2.lt
    have q1' := q1.below b3 l3
    have q2' := q2.below b3 l4
    clear q1 q2 e0 e1 f0 f1 b3 bb h3 l3 l4
    obtain ⟨e0, e1⟩ := two_at q1'
    obtain ⟨f0, f1⟩ := two_at q2'
    cases hi : isB L rc rg with
    | false =>
      have HR : Hid (getB s L rc rg = (⟨#[]⟩, false)) := by unfold Hid getB; rw [hi]; simp
      clear hi hl q1' q2'
      go_wp2
      go_ret2
      exact ⟨by rw [HR.out]; rfl, bb3⟩
    | true =>
      obtain ⟨k, rfl, hk, hlv, hgen⟩ := is_in hi
      have HR : Hid (getB s L k rg = (s.extract (L.getD k cl0).pos.toNat ((L.getD k cl0).pos.toNat + (L.getD k cl0).len.toNat), true)) := by
        unfold Hid getB
        rw [if_pos ⟨HH.out, hi⟩, Int.toNat_natCast]
      obtain ⟨hs3, _⟩ := heap_small HH.out
      obtain ⟨g1, g2, g3, g4, g5⟩ := spec_facts (heap_cells HH.out k hk)
      rw [hl] at hk
      obtain rfl := h.addr (by omega)
      have hx := h4.cell k hk
      have c0 := hx.c0
      have c1 := hx.c1
      have c2 := hx.c2
      have c3 := hx.c3
      generalize L.getD k cl0 = x at *
      obtain ⟨P, hP⟩ : ∃ P : Nat, x.pos = P := ⟨_, (Int.toNat_of_nonneg g1).symm⟩
      obtain ⟨W, hW⟩ : ∃ W : Nat, x.len = W := ⟨_, (Int.toNat_of_nonneg g2).symm⟩
      rw [hP] at c0 g1 g3 g4 HR
      rw [hW] at c1 g2 g3 g5 HR
      rw [Int.toNat_natCast, Int.toNat_natCast] at HR
      have bb4 : Below w.heap.size w (w3.alloc (.cells #[.int .i64 P, .int .i64 W, .int .i64 x.gen, .bool x.live] 64)) := bb3.alloc bb3.size _
      obtain ⟨e2, _⟩ := two_at (q1'.below ((Below.refl _ w3).alloc (Nat.le_refl _) (.cells #[.int .i64 P, .int .i64 W, .int .i64 x.gen, .bool x.live] 64)) q1'.lt)
      clear hi hl hx hP hW hlv hgen q1' q2'
      go_wp2
      go_ret2
      exact ⟨by rw [HR.out]; rfl, bb4⟩
end Go.Proofs.Ytobpilhkgnpoiaa
