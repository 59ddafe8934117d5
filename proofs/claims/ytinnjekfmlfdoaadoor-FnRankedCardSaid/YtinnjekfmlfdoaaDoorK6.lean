/- slices.SortFunc by byScore, at ranks. -/
import Derived.Test.YtinnjekfmlfdoaaDoorK5
import Derived.Test.YtinnjekfmlfdoaaDoorSort
namespace Go.Proofs.YtinnjekfmlfdoaaDoor
open Go.RowKit Go.Sort Go.Shelf Go.Lib

theorem less_irrefl : ∀ a : List UInt8, Op.bytesLess a a = false
  | [] => rfl
  | a :: x => by unfold Op.bytesLess; rw [less_irrefl x]; simp
theorem less_eq (a b : List UInt8) : Op.bytesLess a b = decide (a < b) := bytesLess_eq a b

theorem lt_cmpR (x y : Rk) : ltOf cmpR x y = aheadB x y := cmpR_less x y

theorem swoR : SWO (ltOf cmpR) where
  irrefl x := by rw [lt_cmpR]; unfold aheadB; rw [less_irrefl]; simp
  trans x y z h1 h2 := by
    rw [lt_cmpR] at *
    unfold aheadB at *
    simp only [Bool.or_eq_true, Bool.and_eq_true, decide_eq_true_eq, less_eq] at *
    rcases h1 with h1 | ⟨h1, h1'⟩ <;> rcases h2 with h2 | ⟨h2, h2'⟩
    · exact .inl (by omega)
    · exact .inl (by omega)
    · exact .inl (by omega)
    · exact .inr ⟨by omega, List.lt_trans h1' h2'⟩
  ntrans x y z h1 h2 := by
    rw [lt_cmpR] at *
    unfold aheadB at *
    simp only [Bool.or_eq_false_iff, Bool.and_eq_false_imp, decide_eq_false_iff_not, decide_eq_true_eq, less_eq] at *
    refine ⟨by omega, fun e => ?_⟩
    have e1 : x.s = y.s := by omega
    have e2 : y.s = z.s := by omega
    exact fun h => absurd h (by
      have a1 := List.not_lt.1 (h1.2 e1)
      have a2 := List.not_lt.1 (h2.2 e2)
      exact List.not_lt.2 (List.le_trans a2 a1))

def encR (x : Rk) : List Value := [.string x.m, .int .i64 x.s]

theorem byScore_enters : ∀ args w, (callFunc 19 args).run Tryd.prog w = .ok (.enter 19 args) w := enters_of Tryd.func19 (by kernel_rfl) rfl

set_option maxHeartbeats 1000000 in
theorem sort_any [Inhabited Rk] (blk off cap : Nat) (d : Array Rk) (w : World) (hH : HoldsK encR 2 w blk off d) (hblk : blk < w.heap.size) (hsz : d.size < 4611686018427387904) :
    Calls Tryd.prog 18 #[.slice (some ⟨blk, off, none⟩) d.size cap, .func (.func 19) #[] #[]] w fun e w' => e = .returned (.tuple #[]) ∧ ∃ d' n os, PermIn 0 d.size d d' ∧ SortedIn (ltOf cmpR) 0 d.size d' ∧ w' = sortWorldK encR 2 w blk off n d' os := by
  have hcmp : CmpLays Tryd.prog 19 #[] encR 2 cmpR blk off d.size w := fun m os dk _ x y => byScore_grown x y _
  have hlim : Lib.bitLen d.size < 4611686018427387904 := Nat.lt_of_le_of_lt (Lib.bitLen_le d.size 62 (by omega) (by omega)) (by omega)
  have hp := AnyQ.pdqsortCmpFunc_all Tryd.pdqL 2 Tryd.isAgg30 Tryd.sizeOf30 encR cmpR 19 #[] swoR blk off cap d w byScore_enters hcmp ⟨fun _ => rfl, fun x v hv => by simp [encR] at hv; rcases hv with rfl | rfl <;> rfl, hH, hblk⟩ (d.size + 1) 0 d.size (Lib.bitLen d.size) d w (by omega) rfl (SWK.start hH) (Nat.zero_le _) (Nat.le_refl _) hsz hlim (Or.inl rfl)
  change Calls Tryd.prog 35 _ _ _ at hp
  have hl : Calls Tryd.prog 36 #[.int .u64 (d.size : Int)] w fun e w' => e = .returned (.int .i64 (Lib.bitLen d.size : Nat)) ∧ w' = w := by
    have h := Tryd.bits_Len (d.size : Int) w (by omega) (by omega)
    rwa [Int.toNat_natCast] at h
  have wr : IntKind.u64.wrap (d.size : Int) = d.size := by simp [IntKind.wrap, IntKind.bits, IntKind.signed]; omega
  have hq := pdq_sorts (ltOf cmpR) swoR d 0 d.size (Lib.bitLen d.size) true true (Nat.zero_le _) (Nat.le_refl _) (Or.inl rfl)
  have HQ : Hid _ := hq
  clear hH hcmp hq
  go_enter Tryd.func18, Tryd.ntmps18
  go_wp2_with (first | (go_at_call 36; refine hl.mono ?_; rintro e w' ⟨rfl, rfl⟩) | (go_at_call 35; refine hp.mono ?_; rintro e w' ⟨rfl, n, os, rfl⟩))
  go_end0
  exact ⟨rfl, _, n, os, HQ.out.1, HQ.out.2, rfl⟩
end Go.Proofs.YtinnjekfmlfdoaaDoor
