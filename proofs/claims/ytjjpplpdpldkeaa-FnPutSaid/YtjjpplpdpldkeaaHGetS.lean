/- The specification's Get. -/
import Derived.Test.YtjjpplpdpldkeaaHSpecD
namespace Go.Proofs.Ytjjpplpdpldkeaa
open Go.RowKit Go.Sort

/-- Does a reference lead to a live cell? -/
def isB (L : List Cl) (rc rg : Int) : Bool := decide (0 ≤ rc ∧ rc < (L.length : Int)) && ((L.getD rc.toNat cl0).live && ((L.getD rc.toNat cl0).gen == rg))

abbrev refV (rc rg : Int) : Value := .agg #[.int .i64 rc, .int .i64 rg]

theorem two_at {w : World} {g : Nat} {T : TypeId} {x y : Value} (h : RowAt w g T #[x, y]) : w.cell? ⟨g, 0, none⟩ = some x ∧ w.cell? ⟨g, 1, none⟩ = some y := by
  have a := h.cell 0
  have b := h.cell 1
  simp at a b
  exact ⟨a, b⟩

theorem in_same {n a b : Int} {r : Bool} (hr : decide (a ≤ n ∧ n ≤ b) = r) (w : World) : Calls Try.prog 30 #[.int .i64 n, .int .i64 a, .int .i64 b] w fun e w' => e = .returned (.bool r) ∧ w' = w :=
  (l1In_any n a b w).mono fun _ _ ⟨h1, h2⟩ => ⟨by rw [h1, hr], h2⟩

set_option maxHeartbeats 2000000 in
set_option maxRecDepth 100000 in
theorem l3Is_any (s : ByteArray) (a : Option Addr) (b off n c : Nat) (L : List Cl) (rc rg : Int) (w : World) (h : CellsIn w a b off n L) (hn : n ≤ 1048576) :
    Calls Try.prog 38 #[.agg #[.string s, .slice a n c], refV rc rg] w fun e w' => e = .returned (.bool (isB L rc rg)) ∧ Below w.heap.size w w' := by
  have hl := h.len
  have bw : Below w.heap.size w ((w.alloc (.cells #[.string s, .slice a n c] 26)).alloc (.cells #[.int .i64 rc, .int .i64 rg] 30)) := Go.Joins.below_alloc2 _ _ _
  have r1 := (RowAt.new w 26 #[.string s, .slice a n c]).below ((Below.refl _ _).alloc (Nat.le_refl _) (.cells #[.int .i64 rc, .int .i64 rg] 30)) (by simp)
  have r2 := RowAt.new (w.alloc (.cells #[.string s, .slice a n c] 26)) 30 #[.int .i64 rc, .int .i64 rg]
  simp only [World.size_alloc] at r2
  have h2 := cells_below h bw
  obtain ⟨e0', e1'⟩ := two_at r1
  obtain ⟨f0', f1'⟩ := two_at r2
  clear r1 r2
  go_enter Try.func38, Try.ntmps38
  go_wp2_with fail
  generalize (w.alloc (.cells #[.string s, .slice a n c] 26)).alloc (.cells #[.int .i64 rc, .int .i64 rg] 30) = w1 at *
  have e1 := e1'
  have f0 := f0'
  have f1 := f1'
  clear e0' e1' f0' f1'
  by_cases hin : 0 ≤ rc ∧ rc < (n : Int)
  · obtain ⟨k, rfl⟩ : ∃ k : Nat, rc = k := ⟨rc.toNat, by omega⟩
    have hk : k < n := by omega
    obtain rfl := h.addr (by omega)
    have hx := h2.cell k hk
    have HR : Hid (isB L k rg = ((L.getD k cl0).live && ((L.getD k cl0).gen == rg))) := by
      unfold Hid isB
      rw [hl, decide_eq_true hin, Bool.true_and, Int.toNat_natCast]
    have cI := in_same (n := (k : Int)) (a := 0) (b := (n : Int) - 1) (r := true) (decide_eq_true (by omega))
    have c2 := hx.c2
    generalize hX : L.getD k cl0 = x at *
    clear hl
    cases hlv : x.live with
    | false =>
      have c3 := hx.c3
      rw [hlv] at c3
      rw [hlv] at HR
      clear hx hX hlv
      go_quiet ((exact Calls.quiet_of_same (cI _)))
      go_wp2
      go_ret
      exact ⟨ret_bool HR.out.symm, bw.trans ((below_drewN _ _).mono bw.size)⟩
    | true =>
      have c3 := hx.c3
      rw [hlv] at c3
      rw [hlv] at HR
      rw [Bool.true_and] at HR
      clear hx hX hlv
      go_quiet ((exact Calls.quiet_of_same (cI _)))
      go_wp2
      go_ret
      exact ⟨ret_bool HR.out.symm, bw.trans ((below_drewN _ _).mono bw.size)⟩
  · have HR : Hid (isB L rc rg = false) := by
      unfold Hid isB
      rw [hl, decide_eq_false hin, Bool.false_and]
    have cI := in_same (n := rc) (a := 0) (b := (n : Int) - 1) (r := false) (decide_eq_false (by omega))
    clear hl
    go_quiet ((exact Calls.quiet_of_same (cI _)))
    go_wp2
    go_ret
    exact ⟨ret_bool HR.out.symm, bw.trans ((below_drewN _ _).mono bw.size)⟩
end Go.Proofs.Ytjjpplpdpldkeaa
