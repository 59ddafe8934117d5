/- What FnRanked asks, of no program. -/
import Derived.Test.YtinnjekfmlfdoaaDoorR3
namespace Go.Proofs.YtinnjekfmlfdoaaDoor
open Go.RowKit Go.Sort

/-- How two ranks are held against each other. -/
def eqB (x y : Rk) : Bool := x.m.toList == y.m.toList && x.s == y.s

theorem eqB_refl (x : Rk) : eqB x x = true := by unfold eqB; simp

def anyB (I : List Rk) (y : Rk) (k : Nat) : Bool := (List.range k).any fun j => eqB (I.getD j rk0) y
theorem anyB_zero (I : List Rk) (y : Rk) : anyB I y 0 = false := rfl
theorem anyB_next (I : List Rk) (y : Rk) (k : Nat) : anyB I y (k + 1) = (anyB I y k || eqB (I.getD k rk0) y) := by
  unfold anyB
  rw [List.range_succ, List.any_append]
  simp
theorem anyB_mem {I : List Rk} {y : Rk} (h : y ∈ I) : anyB I y I.length = true := by
  obtain ⟨i, hi, rfl⟩ := List.getElem_of_mem h
  unfold anyB
  rw [List.any_eq_true]
  refine ⟨i, List.mem_range.2 hi, ?_⟩
  rw [List.getD_eq_getElem?_getD, List.getElem?_eq_getElem hi, Option.getD_some]
  exact eqB_refl _

theorem ins_has (M : List Rk) (x : Rk) : x ∈ insR M x := (ins_perm M x).symm.subset (by simp)
theorem ins_old {M : List Rk} {x y : Rk} (h : y ∈ M) : y ∈ insR M x := (ins_perm M x).symm.subset (by simp [h])

theorem old_there {L : List Rk} {m : ByteArray} {x y : Rk} (h : y ∈ L) : y.m = m ∨ y ∈ insR (without L m) x := by
  by_cases e : y.m = m
  · exact .inl e
  · exact .inr (ins_old (List.mem_filter.2 ⟨h, by simpa using e⟩))

theorem without_ins (L : List Rk) (m : ByteArray) (s : Int) : without (insR (without L m) ⟨m, s⟩) m = without L m := by
  have hM : ∀ y ∈ without L m, y.m ≠ m := fun y hy => by simpa using (List.mem_filter.1 hy).2
  generalize without L m = M at *
  induction M with
  | nil => rw [ins_nil]; simp [without]
  | cons z l ih =>
    have hz : z.m ≠ m := hM z (by simp)
    have hl : without l m = l := List.filter_eq_self.2 fun y hy => by simpa using hM y (by simp [hy])
    rw [ins_cons]
    split
    · show (z :: insR l ⟨m, s⟩).filter _ = _
      rw [List.filter_cons, if_pos (by simpa using hz)]
      exact congrArg (z :: ·) (ih fun y hy => hM y (by simp [hy]))
    · show ((⟨m, s⟩ : Rk) :: z :: l).filter _ = _
      rw [List.filter_cons, if_neg (by simp), List.filter_cons, if_pos (by simpa using hz)]
      exact congrArg (z :: ·) hl

theorem again_same (L : List Rk) (m : ByteArray) (s : Int) : insR (without (insR (without L m) ⟨m, s⟩) m) ⟨m, s⟩ = insR (without L m) ⟨m, s⟩ := by rw [without_ins]

theorem again_ok {L : List Rk} {m : ByteArray} {s : Int} (h : rankedB L m s = true) : rankedB (insR (without L m) ⟨m, s⟩) m s = true := by
  unfold rankedB at *
  rw [Bool.and_eq_true] at h
  rw [again_same, h.2]
  rfl

theorem ok_rise {L : List Rk} {m : ByteArray} {s : Int} (h : rankedB L m s = true) (k : Nat) (h0 : 0 < k) (hk : k < (insR (without L m) ⟨m, s⟩).length) : aheadB ((insR (without L m) ⟨m, s⟩).getD (k - 1) rk0) ((insR (without L m) ⟨m, s⟩).getD k rk0) = true := by
  unfold rankedB at h
  rw [Bool.and_eq_true] at h
  exact rises_all (ranks_rise h.2) (k - 1) k (by omega) hk

theorem ahead_two {x y : Rk} (h : aheadB x y = true) : x.s < y.s ∨ x.s = y.s ∧ Op.bytesLess x.m.toList y.m.toList = true := by
  unfold aheadB at h
  simpa using h
end Go.Proofs.YtinnjekfmlfdoaaDoor
