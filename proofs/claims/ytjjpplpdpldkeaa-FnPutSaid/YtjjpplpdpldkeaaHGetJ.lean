/- The program's Get, whole. -/
import Derived.Test.YtjjpplpdpldkeaaHGetI
namespace Go.Proofs.Ytjjpplpdpldkeaa
open Go.RowKit Go.Sort

theorem live_len {n : Nat} {x : Cl} (h : specCellB n x = true) (hl : x.live = true) : 1 ≤ x.len := by
  unfold specCellB at h
  rw [hl] at h
  simp at h
  omega

set_option maxHeartbeats 2000000 in
set_option maxRecDepth 100000 in
theorem implGet_any (s : ByteArray) (a : Option Addr) (b off n c : Nat) (L : List Cl) (rc rg : Int) (w : World) (h : CellsIn w a b off n L) (hf : ∀ i, i < n → Fit (L.getD i cl0)) :
    Calls Try.prog 12 #[.agg #[.string s, .slice a n c], refV rc rg] w fun e w' => e = .returned (.tuple #[.string (getB s L rc rg).1, .bool (getB s L rc rg).2]) ∧ Below w.heap.size w w' := by
  have bw : Below w.heap.size w ((w.alloc (.cells #[.string s, .slice a n c] 26)).alloc (.cells #[.int .i64 rc, .int .i64 rg] 30)) := Go.Joins.below_alloc2 _ _ _
  have r2 := RowAt.new (w.alloc (.cells #[.string s, .slice a n c] 26)) 30 #[.int .i64 rc, .int .i64 rg]
  simp only [World.size_alloc] at r2
  have h2 := cells_below h bw
  have l2 := r2.lt
  go_enter Try.func12, Try.ntmps12
  go_wp2_with fail
  generalize (w.alloc (.cells #[.string s, .slice a n c] 26)).alloc (.cells #[.int .i64 rc, .int .i64 rg] 30) = w1 at *
  refine (openedC_all s a b off n c L w1 h2 hf).mono ?_
  rintro e w2 ⟨p, rfl, hop, b2⟩
  have bb := bw.trans (b2.mono bw.size)
  have q2 := r2.below b2 l2
  clear r2 h2 bw b2
  obtain ⟨f0, f1⟩ := two_at q2
  cases hr : heapB s L with
  | false =>
    have HR : Hid (getB s L rc rg = (⟨#[]⟩, false)) := by unfold Hid getB; rw [hr]; simp
    clear hr q2 hop
    go_wp2
    go_ret2
    exact ⟨by rw [HR.out]; rfl, bb⟩
  | true =>
    have HH : Hid (heapB s L = true) := hr
    obtain ⟨g, t, rfl, _, ⟨cs, ps, ha, ho, hpl, hpc, hpn⟩, hg⟩ := hop hr
    obtain ⟨hs3, hL⟩ := heap_small hr
    clear hr hop
    go_wp2_with fail
    refine (cellOf_any g s.size (byteAt s) t L cs ps rc rg w2 ha ho hpl hpc hL).mono ?_
    rintro e w3 ⟨rfl, b3⟩
    have bb3 := bb.trans (b3.mono bb.size)
    have ha3 := ha.below b3 ha.lt
    cases hi : isB L rc rg with
    | false =>
      have HR : Hid (getB s L rc rg = (⟨#[]⟩, false)) := by unfold Hid getB; rw [hi]; simp
      clear hi q2 ha ho hpc ha3 b3 f0 f1
      go_wp2
      go_ret2
      exact ⟨by rw [HR.out]; rfl, bb3⟩
    | true =>
      obtain ⟨k, rfl, hk, hlv, hgen⟩ := is_in hi
      have HR : Hid (getB s L k rg = (s.extract (L.getD k cl0).pos.toNat ((L.getD k cl0).pos.toNat + (L.getD k cl0).len.toNat), true)) := by
        unfold Hid getB
        rw [if_pos ⟨HH.out, hi⟩, Int.toNat_natCast]
      have HP : placeP L ps k = some ⟨ps.getD k 0, 0, none⟩ := by unfold placeP; rw [if_pos (by omega), Int.toNat_natCast]
      rw [HP]
      have hx := (hpc k hk).2.below b3 (hpc k hk).2.lt
      have hok := spec_facts (heap_cells HH.out k hk)
      have hlen := live_len (heap_cells HH.out k hk) hlv
      have c0 : w3.cell? ⟨ps.getD k 0, 0, none⟩ = some (.int .i64 (L.getD k cl0).pos) := hx.cell 0
      have c1 : w3.cell? ⟨ps.getD k 0, 1, none⟩ = some (.int .i64 (L.getD k cl0).len) := hx.cell 1
      generalize L.getD k cl0 = x at *
      generalize ps.getD k 0 = q at *
      obtain ⟨g1, g2, g3, g4, g5⟩ := hok
      obtain ⟨P, hP⟩ : ∃ P : Nat, x.pos = P := ⟨_, (Int.toNat_of_nonneg g1).symm⟩
      obtain ⟨W, hW⟩ : ∃ W : Nat, x.len = W := ⟨_, (Int.toNat_of_nonneg g2).symm⟩
      rw [hP] at c0 g1 g3 g4 HR
      rw [hW] at c1 g2 g3 g5 HR hlen
      rw [Int.toNat_natCast, Int.toNat_natCast] at HR
      have hcv : ∀ m, (convert 22 9 (.slice (some ⟨g, P, none⟩) W (3000 - P))).run Try.prog (w3.drewN m) = .ok (.string (s.extract P (P + W))) (w3.drewN m) := fun m => by
        have := run_convert_bytes_back (P := Try.prog) (w3.drewN m) 22 9 5 ⟨g, P, none⟩ (3000 - P) ((List.range W).map fun i => byteAt s (P + i)) Try.underlying22 Try.underlying5 Try.underlying9 ?_
        · rw [extract_range s P W (by omega)] at this
          simpa using this
        · intro j hj
          have hj' : j < W := by simpa using hj
          rw [show (w3.drewN m).cell? _ = w3.cell? _ from rfl]
          have := ha3.data (P + j) (by omega)
          rw [Addr.add_lit]
          simpa using this
      have HB := bytesOf_any g q P W w3 (by omega) (by omega) c0 c1
      clear hi q2 ha ho hpc ha3 b3 f0 f1 c0 c1 hx HP hP hW hlv hgen
      go_wp2_with fail
      refine HB.mono ?_
      rintro e w4 ⟨rfl, m, rfl⟩
      have hc1 := hcv m
      clear hcv HB
      go_wp2
      go_ret2
      exact ⟨by rw [HR.out]; rfl, bb3.trans ⟨rfl, rfl, rfl, Nat.le_refl _, fun _ _ => rfl⟩⟩
end Go.Proofs.Ytjjpplpdpldkeaa
