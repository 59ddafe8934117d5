/- What is sorted is what is put where it belongs: of no program's memory. -/
import Derived.Test.YtinnjekfmlfdoaaDoorK14
namespace Go.Proofs.YtinnjekfmlfdoaaDoor
open Go.RowKit Go.Sort

/-- Not behind. -/
def leR (x y : Rk) : Prop := aheadB y x = false

theorem ahead_asymm {x y : Rk} (h : aheadB x y = true) : leR x y := by
  unfold leR
  cases h2 : aheadB y x with
  | false => rfl
  | true =>
    have h3 := swoR.trans x y x (by rw [lt_cmpR]; exact h) (by rw [lt_cmpR]; exact h2)
    rw [swoR.irrefl x] at h3
    exact absurd h3 (by simp)

theorem ahead_trans {x y z : Rk} (h1 : aheadB x y = true) (h2 : aheadB y z = true) : aheadB x z = true := by
  have := swoR.trans x y z (by rw [lt_cmpR]; exact h1) (by rw [lt_cmpR]; exact h2)
  rwa [lt_cmpR] at this

theorem leR_trans {x y z : Rk} (h1 : leR x y) (h2 : leR y z) : leR x z := by
  have := swoR.ntrans z y x (by rw [lt_cmpR]; exact h2) (by rw [lt_cmpR]; exact h1)
  rwa [lt_cmpR] at this

theorem leR_antisymm {x y : Rk} (h1 : leR x y) (h2 : leR y x) : x = y := by
  unfold leR aheadB at *
  simp only [Bool.or_eq_false_iff, Bool.and_eq_false_imp, decide_eq_false_iff_not, decide_eq_true_eq, less_eq] at *
  have hs : x.s = y.s := by omega
  have hm : x.m.toList = y.m.toList := List.le_antisymm (List.not_lt.1 (h1.2 hs.symm)) (List.not_lt.1 (h2.2 hs))
  rw [ByteArray.toList_eq, ByteArray.toList_eq] at hm
  obtain ⟨xm, xs⟩ := x
  obtain ⟨ym, ys⟩ := y
  simp only at hs hm
  subst hs
  have : xm = ym := by
    apply ByteArray.ext
    exact Array.toList_inj.mp hm
  rw [this]

theorem ins_nil (x : Rk) : insR [] x = [x] := rfl
theorem ins_cons (y : Rk) (l : List Rk) (x : Rk) : insR (y :: l) x = if aheadB y x = true then y :: insR l x else x :: y :: l := by
  unfold insR posR
  cases h : aheadB y x with
  | false => rw [List.takeWhile_cons, h]; rfl
  | true => rw [List.takeWhile_cons, h]; simp

theorem ins_mem {M : List Rk} {x y : Rk} (h : y ∈ insR M x) : y = x ∨ y ∈ M := by
  induction M with
  | nil => rw [ins_nil] at h; simpa using h
  | cons z l ih =>
    rw [ins_cons] at h
    split at h
    · rcases List.mem_cons.1 h with rfl | h
      · right; simp
      · rcases ih h with rfl | h
        · left; rfl
        · right; simp [h]
    · rcases List.mem_cons.1 h with rfl | h
      · left; rfl
      · right; exact h

theorem ins_perm (M : List Rk) (x : Rk) : (insR M x).Perm (x :: M) := by
  induction M with
  | nil => rw [ins_nil]
  | cons z l ih =>
    rw [ins_cons]
    split
    · exact (ih.cons z).trans (List.Perm.swap x z l)
    · exact List.Perm.refl _

theorem ins_sorted {M : List Rk} (x : Rk) (h : M.Pairwise leR) : (insR M x).Pairwise leR := by
  induction M with
  | nil => rw [ins_nil]; simp
  | cons z l ih =>
    rw [ins_cons]
    have hz := List.pairwise_cons.1 h
    split
    · next ha =>
      refine List.pairwise_cons.2 ⟨fun y hy => ?_, ih hz.2⟩
      rcases ins_mem hy with rfl | hy
      · exact ahead_asymm ha
      · exact hz.1 y hy
    · next ha =>
      have hxz : leR x z := by unfold leR; simpa using ha
      refine List.pairwise_cons.2 ⟨fun y hy => ?_, h⟩
      rcases List.mem_cons.1 hy with rfl | hy
      · exact hxz
      · exact leR_trans hxz (hz.1 y hy)

theorem rises_all {L : List Rk} (h : (List.range L.length).all (riAt L) = true) (i j : Nat) (hij : i < j) (hj : j < L.length) : aheadB (L.getD i rk0) (L.getD j rk0) = true := by
  have h1 : ∀ k, 0 < k → k < L.length → aheadB (L.getD (k - 1) rk0) (L.getD k rk0) = true := fun k h0 hk => by
    have := List.all_eq_true.1 h k (List.mem_range.2 hk)
    unfold riAt at this
    rw [decide_eq_false (by omega), Bool.false_or] at this
    exact this
  induction j with
  | zero => omega
  | succ j ih =>
    have e := h1 (j + 1) (by omega) hj
    rw [Nat.add_sub_cancel] at e
    by_cases hi : i = j
    · subst hi; exact e
    · exact ahead_trans (ih (by omega) (by omega)) e

theorem ranks_rise {L : List Rk} (h : ranksB L = true) : (List.range L.length).all (riAt L) = true := by
  unfold ranksB at h
  rw [Bool.and_eq_true] at h
  have h2 := List.all_eq_true.1 h.2
  exact List.all_eq_true.2 fun k hk => by
    have := h2 k hk
    unfold okAt at this
    simp only [Bool.and_eq_true] at this
    exact this.2.2.1

theorem ranks_sorted {L : List Rk} (h : ranksB L = true) : L.Pairwise leR := by
  rw [List.pairwise_iff_getElem]
  intro i j hi hj hij
  have := rises_all (ranks_rise h) i j hij hj
  rw [List.getD_eq_getElem?_getD, List.getElem?_eq_getElem hi, List.getD_eq_getElem?_getD, List.getElem?_eq_getElem hj] at this
  exact ahead_asymm this

theorem without_sorted {L : List Rk} {m : ByteArray} (h : L.Pairwise leR) : (without L m).Pairwise leR := h.sublist List.filter_sublist

/-- A sorted one of the same ranks is the one with x put where it belongs. -/
theorem sorted_is [Inhabited Rk] {M : List Rk} {x : Rk} {d d' : Array Rk} (hd : d.toList = x :: M) (hM : M.Pairwise leR) (hp : PermIn 0 d.size d d') (hs : SortedIn (ltOf cmpR) 0 d.size d') : d'.toList = insR M x := by
  have e1 : (d'.extract 0 d.size).toList = d'.toList := by rw [← hp.1, Array.extract_size]
  have e2 : (d.extract 0 d.size).toList = d.toList := by rw [Array.extract_size]
  have hperm : d'.toList.Perm (insR M x) := by
    have := hp.2.2
    rw [e1, e2, hd] at this
    exact this.trans (ins_perm M x).symm
  refine List.Perm.eq_of_pairwise (le := leR) (fun a b _ _ h1 h2 => leR_antisymm h1 h2) ?_ (ins_sorted x hM) hperm
  rw [List.pairwise_iff_getElem]
  intro i j hi hj hij
  have hi' : i < d'.size := by simpa using hi
  have hj' : j < d'.size := by simpa using hj
  have := hs i j (Nat.zero_le _) hij (by rw [← hp.1]; exact hj')
  rw [lt_cmpR, getElem!_pos d' i hi', getElem!_pos d' j hj'] at this
  simpa [leR] using this
end Go.Proofs.YtinnjekfmlfdoaaDoor
