/- The specification's request. -/
import Derived.Test.YtielombpeeelkaaDoorSpWords
namespace Go.Proofs.YtielombpeeelkaaDoor
open Go.RowKit Go.Sort

theorem ReqEnd.cases {w : World} {m : Int ⊕ (List (List UInt8) × Nat)} {e : Ending} {w' : World} (h : ReqEnd w m e w') : ∃ a b c, e = .returned (.tuple #[a, b, c]) := by
  match m, h with
  | .inl c, ⟨he, _⟩ => exact ⟨_, _, _, he⟩
  | .inr (ts, u), ⟨v, he, _⟩ => exact ⟨_, _, _, he⟩

theorem empty_no {s : ByteArray} (h : 0 < s.size) : s.toList.isEmpty = false := by
  rw [ByteArray.toList_eq]
  rw [Lib.size_eq] at h
  cases hd : s.data.toList with
  | nil => rw [hd] at h; cases h
  | cons b r => rfl

theorem empty_yes {s : ByteArray} (h : s.size = 0) : s.toList.isEmpty = true := by
  rw [ByteArray.toList_eq]
  rw [Lib.size_eq] at h
  cases hd : s.data.toList with
  | nil => rfl
  | cons b r => rw [hd] at h; cases h

theorem first_of {s : ByteArray} {b : UInt8} {r : List UInt8} (hd : s.data.toList = b :: r) (h : 0 < s.size) : s[0]'h = b := by
  have h1 := sget s 0 h
  rw [hd] at h1
  simp at h1
  exact h1.symm

set_option maxHeartbeats 4000000 in
set_option maxRecDepth 100000 in
theorem spReq_plain (s : ByteArray) (w : World) (hs : s.size ≤ 2097152) (h42 : ∀ h : 0 < s.size, ¬ (s[0]'h).toNat = 42) :
    Calls Tryd.prog 28 #[.string s] w (ReqEnd w (requestM s.data.toList)) := by
  by_cases h0 : s.size = 0
  · have HM : Hid (requestM s.data.toList = .inl 1) := by
      have : s.data.toList = [] := List.eq_nil_of_length_eq_zero (by rw [← Lib.size_eq]; exact h0)
      unfold Hid; rw [this]; rfl
    have he := empty_yes h0
    clear h42
    go_enter Tryd.func28, Tryd.ntmps28
    go_wp2
    go_ret3
    rw [HM.out]
    exact ⟨rfl, Below.refl _ _⟩
  · have hbi : ¬ ((s[0]'(by omega)).toNat : Int) = 42 := by have := h42 (by omega); omega
    have HM : Hid (requestM s.data.toList = lineWords s.data.toList) := by
      have hl : 0 < s.data.toList.length := by rw [← Lib.size_eq]; omega
      unfold Hid requestM
      match hd : s.data.toList, hl with
      | b :: r, _ =>
        show (if b = 42 then _ else _) = _
        rw [if_neg]
        intro e
        exact h42 (by omega) (by rw [first_of hd (by omega), e]; rfl)
    have he := empty_no (s := s) (by omega)
    clear h42
    go_enter Tryd.func28, Tryd.ntmps28
    go_wp2_with fail
    refine (spWords s w hs).mono ?_
    intro e w1 h1
    rw [← HM.out] at h1
    have H1 : Hid (ReqEnd w (requestM s.data.toList) e w1) := h1
    obtain ⟨x, y, z, rfl⟩ := h1.cases
    clear h1
    go_wp2
    go_ret3
    exact H1.out

theorem line_star {l line : List UInt8} (h : lineM l = .inr line) (h0 : l[0]? = some 42) : ∃ r, line = 42 :: r := by
  match l, h0 with
  | b :: l', h0 =>
    simp at h0
    subst h0
    unfold lineM at h
    split at h
    · rename_i hi
      injection h with h
      have hne : Lib.index (42 :: l') [13, 10] ≠ 0 := by
        have := index_skip (42 :: l') 0 (by simp) (by simp)
        rw [List.drop_zero] at this
        rw [this]
        split
        · omega
        · have := Lib.index_ge ((42 :: l' : List UInt8).drop (0 + 1)) [13, 10]; omega
      obtain ⟨k, hk⟩ : ∃ k, (Lib.index (42 :: l') [13, 10]).toNat = k + 1 := ⟨(Lib.index (42 :: l') [13, 10]).toNat - 1, by omega⟩
      rw [hk] at h
      exact ⟨l'.take k, by rw [← h]; rfl⟩
    · split at h <;> cases h

theorem lineM_codes {l : List UInt8} {c : Int} (h : lineM l = .inl c) : c = 1 ∨ c = 2 := by
  unfold lineM at h
  split at h
  · cases h
  · split at h <;> (injection h with h; omega)

theorem someM_codes {l : List UInt8} {n : Nat} {c : Int} (h : someM l n = .inl c) : c = 1 ∨ c = 2 := by
  unfold someM at h
  split at h
  · injection h with h; omega
  · split at h
    · cases h
    · injection h with h; omega

theorem count_of (r : List UInt8) (most : Int) : countM r most = if (intI r).2 = true ∧ 0 ≤ (intI r).1 ∧ (intI r).1 ≤ most then some (intI r).1.toNat else none := by
  unfold countM
  rw [decM_intI]
  by_cases h : (intI r).2 = true
  · rw [if_pos h]
    show (if _ then _ else _) = _
    by_cases h2 : 0 ≤ (intI r).1 ∧ (intI r).1 ≤ most
    · rw [if_pos h2, if_pos ⟨h, h2⟩]
    · rw [if_neg h2, if_neg (fun x => h2 x.2)]
  · rw [if_neg h, if_neg (fun x => h x.1)]
    rfl

theorem marked_line {l r : List UInt8} {mark : UInt8} {most : Int} (h : lineM l = .inr (mark :: r)) : markedM l mark most = match countM r most with | some n => .inr (n, r.length + 3) | none => .inl 2 := by
  unfold markedM
  rw [h]
  cases hcm : countM r most <;> simp [hcm]
end Go.Proofs.YtielombpeeelkaaDoor
