/- The requests of some bytes; in two pieces they are the same. -/
import Derived.Test.YtielombpeeelkaaDoorRqMath
namespace Go.Proofs.YtielombpeeelkaaDoor
open Go.RowKit Go.Sort

theorem index_cons (b : UInt8) (l : List UInt8) : Lib.index (b :: l) [13, 10] = if ([13, 10] : List UInt8).isPrefixOf (b :: l) = true then 0 else if Lib.index l [13, 10] = -1 then -1 else Lib.index l [13, 10] + 1 := by
  conv => lhs; unfold Lib.index
  simp only [beq_iff_eq]

theorem prefix_app {b : UInt8} {l : List UInt8} (r : List UInt8) (h : 1 ≤ l.length) : ([13, 10] : List UInt8).isPrefixOf (b :: (l ++ r)) = ([13, 10] : List UInt8).isPrefixOf (b :: l) := by
  match l, h with
  | c :: l', _ => simp [List.isPrefixOf]

theorem index_app : ∀ (l r : List UInt8), 0 ≤ Lib.index l [13, 10] → Lib.index (l ++ r) [13, 10] = Lib.index l [13, 10]
  | [], r, h => by simp [Lib.index] at h
  | b :: l, r, h => by
    have hf := index_fits (b :: l) h
    have hlen : 1 ≤ l.length := by rw [List.length_cons] at hf; omega
    rw [List.cons_append, index_cons, index_cons b l, prefix_app r hlen]
    rw [index_cons] at h
    by_cases hp : ([13, 10] : List UInt8).isPrefixOf (b :: l) = true
    · rw [if_pos hp, if_pos hp]
    · rw [if_neg hp] at h
      rw [if_neg hp, if_neg hp]
      have h0 : 0 ≤ Lib.index l [13, 10] := by
        have := Lib.index_ge l [13, 10]
        by_cases hx : Lib.index l [13, 10] = -1
        · rw [if_pos hx] at h; omega
        · omega
      rw [index_app l r h0]

theorem index_past : ∀ (l r : List UInt8), Lib.index l [13, 10] = -1 → 0 ≤ Lib.index (l ++ r) [13, 10] → (l.length : Int) ≤ Lib.index (l ++ r) [13, 10] + 1
  | [], r, _, h => by simp at h ⊢; omega
  | b :: l, r, h1, h2 => by
    by_cases hlen : 1 ≤ l.length
    · rw [List.cons_append, index_cons, prefix_app r hlen] at h2 ⊢
      rw [index_cons] at h1
      by_cases hp : ([13, 10] : List UInt8).isPrefixOf (b :: l) = true
      · rw [if_pos hp] at h1; omega
      · rw [if_neg hp] at h1 h2 ⊢
        have hl : Lib.index l [13, 10] = -1 := by
          have := Lib.index_ge l [13, 10]
          by_cases hx : Lib.index l [13, 10] = -1
          · exact hx
          · rw [if_neg hx] at h1; omega
        have h0 : 0 ≤ Lib.index (l ++ r) [13, 10] := by
          have := Lib.index_ge (l ++ r) [13, 10]
          by_cases hx : Lib.index (l ++ r) [13, 10] = -1
          · rw [if_pos hx] at h2; omega
          · omega
        have := index_past l r hl h0
        rw [if_neg (by omega), List.length_cons]
        omega
    · rw [List.length_cons]
      omega

theorem ib_cons (b c : UInt8) (l : List UInt8) : Lib.indexByte (b :: l) c = if b = c then 0 else if Lib.indexByte l c = -1 then -1 else Lib.indexByte l c + 1 := by
  conv => lhs; unfold Lib.indexByte
  simp only [beq_iff_eq]

theorem ib_app : ∀ (l r : List UInt8) (c : UInt8), 0 ≤ Lib.indexByte l c → Lib.indexByte (l ++ r) c = Lib.indexByte l c
  | [], r, c, h => by simp [Lib.indexByte] at h
  | b :: l, r, c, h => by
    rw [List.cons_append, ib_cons, ib_cons b c l]
    rw [ib_cons] at h
    by_cases hb : b = c
    · rw [if_pos hb, if_pos hb]
    · rw [if_neg hb] at h
      rw [if_neg hb, if_neg hb]
      have h0 : 0 ≤ Lib.indexByte l c := by
        have := Lib.indexByte_ge l c
        by_cases hx : Lib.indexByte l c = -1
        · rw [if_pos hx] at h; omega
        · omega
      rw [ib_app l r c h0]

theorem ib_past : ∀ (l r : List UInt8) (c : UInt8), Lib.indexByte l c = -1 → 0 ≤ Lib.indexByte (l ++ r) c → (l.length : Int) ≤ Lib.indexByte (l ++ r) c
  | [], r, c, _, h => by simpa using h
  | b :: l, r, c, h1, h2 => by
    rw [List.cons_append, ib_cons] at h2 ⊢
    rw [ib_cons] at h1
    by_cases hb : b = c
    · rw [if_pos hb] at h1; omega
    · rw [if_neg hb] at h1 h2 ⊢
      have hl : Lib.indexByte l c = -1 := by
        have := Lib.indexByte_ge l c
        by_cases hx : Lib.indexByte l c = -1
        · exact hx
        · rw [if_neg hx] at h1; omega
      have h0 : 0 ≤ Lib.indexByte (l ++ r) c := by
        have := Lib.indexByte_ge (l ++ r) c
        by_cases hx : Lib.indexByte (l ++ r) c = -1
        · rw [if_pos hx] at h2; omega
        · omega
      have := ib_past l r c hl h0
      rw [if_neg (by omega), List.length_cons]
      omega

theorem line_app {l p : List UInt8} (r : List UInt8) (h : lineM l = .inr p) : lineM (l ++ r) = .inr p := by
  unfold lineM at h ⊢
  split at h
  · rename_i hi
    have hf := index_fits l hi
    rw [index_app l r hi, if_pos hi]
    injection h with h
    rw [← h, List.take_append_of_le_length (by omega)]
  · split at h <;> cases h

theorem line_long {l : List UInt8} (r : List UInt8) (h : lineM l = .inl 2) : lineM (l ++ r) = .inl 2 ∨ ∃ p, lineM (l ++ r) = .inr p ∧ 300 ≤ p.length := by
  unfold lineM at h ⊢
  split at h
  · cases h
  · rename_i hi
    split at h
    · rename_i hlen
      have h1 : Lib.index l [13, 10] = -1 := by have := Lib.index_ge l [13, 10]; omega
      by_cases h2 : 0 ≤ Lib.index (l ++ r) [13, 10]
      · have := index_past l r h1 h2
        have hf := index_fits (l ++ r) h2
        rw [if_pos h2]
        exact .inr ⟨_, rfl, by rw [List.length_take]; omega⟩
      · rw [if_neg h2, if_pos (by rw [List.length_append]; omega)]
        exact .inl rfl
    · injection h with h; omega

theorem count_len {r : List UInt8} {most : Int} {n : Nat} (h : countM r most = some n) (hm : most ≤ 2097152) : r.length ≤ 20 := by
  obtain ⟨v, hv, hk⟩ : ∃ v, decM r = some v ∧ (if 0 ≤ v ∧ v ≤ most then some v.toNat else none) = some n := Option.bind_eq_some_iff.1 h
  split at hk
  · rename_i hb
    unfold decM at hv
    split at hv
    · split at hv
      · rename_i hx
        injection hv with hv
        subst hv
        rw [← hx.2]
        unfold Lib.itoa
        rw [if_neg (by omega)]
        exact dec_len_le _ (by omega)
      · cases hv
    · cases hv
  · cases hk

theorem marked_app {l : List UInt8} {mark : UInt8} {most : Int} {n u : Nat} (r : List UInt8) (h : markedM l mark most = .inr (n, u)) : markedM (l ++ r) mark most = .inr (n, u) := by
  unfold markedM at h ⊢
  cases hl : lineM l with
  | inl c => rw [hl] at h; cases h
  | inr p => rw [line_app r hl]; rw [hl] at h; exact h

theorem marked_bad {l : List UInt8} {mark : UInt8} {most : Int} (r : List UInt8) (hm : most ≤ 2097152) (h : markedM l mark most = .inl 2) : markedM (l ++ r) mark most = .inl 2 := by
  unfold markedM at h ⊢
  cases hl : lineM l with
  | inr p => rw [line_app r hl]; rw [hl] at h; exact h
  | inl c =>
    rw [hl] at h
    have hc : c = 2 := by injection h
    subst hc
    rcases line_long r hl with h2 | ⟨p, h2, hp⟩
    · rw [h2]
    · rw [h2]
      match p, hp with
      | b :: q, hp =>
        simp only
        split
        · have : countM q most = none := by
            cases hq : countM q most with
            | none => rfl
            | some n =>
              have := count_len hq hm
              rw [List.length_cons] at hp
              omega
          rw [this]
        · rfl

theorem some_app {l t : List UInt8} {n : Nat} (r : List UInt8) (h : someM l n = .inr t) : someM (l ++ r) n = .inr t := by
  obtain ⟨_, hf⟩ := some_fits h
  unfold someM at h ⊢
  rw [if_neg (by omega)] at h
  rw [if_neg (by rw [List.length_append]; omega), List.drop_append_of_le_length (by omega), List.take_append_of_le_length (by rw [List.length_drop]; omega), List.take_append_of_le_length (by omega)]
  exact h

theorem some_bad {l : List UInt8} {n : Nat} (r : List UInt8) (h : someM l n = .inl 2) : someM (l ++ r) n = .inl 2 := by
  unfold someM at h ⊢
  split at h
  · injection h with h; omega
  · rename_i hl
    rw [if_neg (by rw [List.length_append]; omega), List.drop_append_of_le_length (by omega), List.take_append_of_le_length (by rw [List.length_drop]; omega)]
    split at h
    · cases h
    · rename_i hx
      rw [if_neg hx]

theorem bulks_app : ∀ (n : Nat) (l r : List UInt8) (ts : List (List UInt8)) (v : Nat), bulksM n l = .inr (ts, v) → bulksM n (l ++ r) = .inr (ts, v)
  | 0, l, r, ts, v, h => by rw [bulksM] at h ⊢; exact h
  | n + 1, l, r, ts, v, h => by
    rw [bulksM] at h ⊢
    cases hm : markedM l 36 200 with
    | inl c => rw [hm] at h; cases h
    | inr q =>
      obtain ⟨m, u⟩ := q
      rw [hm] at h
      rw [marked_app r hm]
      simp only at h ⊢
      have hu := (marked_fits hm).2
      cases hs : someM (l.drop u) m with
      | inl c => rw [hs] at h; cases h
      | inr t =>
        have hf := (some_fits hs).2
        rw [List.length_drop] at hf
        rw [hs] at h
        rw [List.drop_append_of_le_length hu, some_app r hs, List.drop_append_of_le_length (by omega)]
        simp only at h ⊢
        cases hb : bulksM n (l.drop (u + m + 2)) with
        | inl c => rw [hb] at h; cases h
        | inr q =>
          obtain ⟨ts', v'⟩ := q
          rw [hb] at h
          rw [bulks_app n _ r ts' v' hb]
          exact h

theorem bulks_bad : ∀ (n : Nat) (l r : List UInt8), bulksM n l = .inl 2 → bulksM n (l ++ r) = .inl 2
  | 0, l, r, h => by rw [bulksM] at h; cases h
  | n + 1, l, r, h => by
    rw [bulksM] at h ⊢
    cases hm : markedM l 36 200 with
    | inl c =>
      rw [hm] at h
      have hc : c = 2 := by injection h
      subst hc
      rw [marked_bad r (by omega) hm]
    | inr q =>
      obtain ⟨m, u⟩ := q
      rw [hm] at h
      rw [marked_app r hm]
      simp only at h ⊢
      have hu := (marked_fits hm).2
      rw [List.drop_append_of_le_length hu]
      cases hs : someM (l.drop u) m with
      | inl c =>
        rw [hs] at h
        have hc : c = 2 := by injection h
        subst hc
        rw [some_bad r hs]
      | inr t =>
        have hf := (some_fits hs).2
        rw [List.length_drop] at hf
        rw [hs] at h
        rw [some_app r hs, List.drop_append_of_le_length (by omega)]
        simp only at h ⊢
        cases hb : bulksM n (l.drop (u + m + 2)) with
        | inl c =>
          rw [hb] at h
          have hc : c = 2 := by injection h
          subst hc
          rw [bulks_bad n _ r hb]
        | inr q =>
          obtain ⟨ts', v'⟩ := q
          rw [hb] at h
          cases h

/-- What is read is read so whatever comes behind it. -/
theorem request_app {l : List UInt8} {ts : List (List UInt8)} {u : Nat} (r : List UInt8) (h : requestM l = .inr (ts, u)) : requestM (l ++ r) = .inr (ts, u) := by
  match l, h with
  | [], h => cases h
  | b :: l, h =>
    rw [List.cons_append]
    unfold requestM at h ⊢
    simp only at h ⊢
    by_cases hb : b = 42
    · rw [if_pos hb] at h ⊢
      unfold bulksAllM at h ⊢
      rw [← List.cons_append]
      cases hm : markedM (b :: l) 42 16 with
      | inl c => rw [hm] at h; cases h
      | inr q =>
        obtain ⟨n, v⟩ := q
        rw [hm] at h
        rw [marked_app r hm]
        simp only at h ⊢
        rw [List.drop_append_of_le_length (marked_fits hm).2]
        cases hbk : bulksM n ((b :: l).drop v) with
        | inl c => rw [hbk] at h; cases h
        | inr q =>
          obtain ⟨ts', v'⟩ := q
          rw [hbk] at h
          rw [bulks_app n _ r ts' v' hbk]
          exact h
    · rw [if_neg hb] at h ⊢
      unfold lineWords at h ⊢
      split at h
      · cases h
      · split at h
        · cases h
        · rename_i h1 h2
          have hf := indexByte_fits (b :: l) 10 (by omega)
          rw [← List.cons_append, ib_app (b :: l) r 10 (by omega), if_neg h1, if_neg h2, List.take_append_of_le_length (by omega)]
          exact h

/-- What is wrong stays wrong whatever comes behind it. -/
theorem request_bad {l : List UInt8} (r : List UInt8) (h : requestM l = .inl 2) : requestM (l ++ r) = .inl 2 := by
  match l, h with
  | [], h => cases h
  | b :: l, h =>
    rw [List.cons_append]
    unfold requestM at h ⊢
    simp only at h ⊢
    by_cases hb : b = 42
    · rw [if_pos hb] at h ⊢
      unfold bulksAllM at h ⊢
      rw [← List.cons_append]
      cases hm : markedM (b :: l) 42 16 with
      | inl c =>
        rw [hm] at h
        have hc : c = 2 := by injection h
        subst hc
        rw [marked_bad r (by omega) hm]
      | inr q =>
        obtain ⟨n, v⟩ := q
        rw [hm] at h
        rw [marked_app r hm]
        simp only at h ⊢
        rw [List.drop_append_of_le_length (marked_fits hm).2]
        cases hbk : bulksM n ((b :: l).drop v) with
        | inl c =>
          rw [hbk] at h
          have hc : c = 2 := by injection h
          subst hc
          rw [bulks_bad n _ r hbk]
        | inr q =>
          obtain ⟨ts', v'⟩ := q
          rw [hbk] at h
          cases h
    · rw [if_neg hb] at h ⊢
      unfold lineWords at h ⊢
      rw [← List.cons_append]
      split at h
      · rename_i h1
        rw [ib_app (b :: l) r 10 (by omega), if_pos h1]
      · rename_i h1
        split at h
        · rename_i h2
          have hlen : 300 < (b :: l).length := by
            by_cases hx : 300 < (b :: l).length
            · exact hx
            · rw [if_neg hx] at h; injection h with h; omega
          have h3 : Lib.indexByte (b :: l) 10 = -1 := by have := Lib.indexByte_ge (b :: l) 10; omega
          by_cases h4 : 0 ≤ Lib.indexByte (b :: l ++ r) 10
          · have := ib_past (b :: l) r 10 h3 h4
            rw [if_pos (by omega)]
          · rw [if_neg (by omega), if_pos (by omega), if_pos (by rw [List.length_append]; omega)]
        · rename_i h2
          have hf := indexByte_fits (b :: l) 10 (by omega)
          rw [ib_app (b :: l) r 10 (by omega), if_neg h1, if_neg h2, List.take_append_of_le_length (by omega)]
          split at h
          · cases h
          · rename_i h3
            rw [if_neg h3]

abbrev Reqs := List (List (List UInt8)) × List UInt8 × Bool

def putReq (ts : List (List UInt8)) (q : Reqs) : Reqs := (if ts = [] then q.1 else ts :: q.1, q.2)

def fedF : Nat → List UInt8 → Reqs
  | 0, l => ([], l, true)
  | k + 1, l => match requestM l with
    | .inl c => if c = 2 then ([], [], false) else ([], l, true)
    | .inr (ts, u) => putReq ts (fedF k (l.drop u))

theorem fedF_more : ∀ (k j : Nat) (l : List UInt8), l.length < k → l.length < j → fedF k l = fedF j l
  | 0, _, _, h, _ => by omega
  | _, 0, _, _, h => by omega
  | k + 1, j + 1, l, h1, h2 => by
    rw [fedF, fedF]
    cases hm : requestM l with
    | inl c => rfl
    | inr q =>
      obtain ⟨ts, u⟩ := q
      obtain ⟨_, _, hu, hl⟩ := request_fits hm
      simp only
      rw [fedF_more k j (l.drop u) (by rw [List.length_drop]; omega) (by rw [List.length_drop]; omega)]

/-- The requests of some bytes, what is left, and whether nothing was wrong. -/
def fedM (l : List UInt8) : Reqs := fedF (l.length + 1) l

theorem fed_step {l : List UInt8} {ts : List (List UInt8)} {u : Nat} (h : requestM l = .inr (ts, u)) : fedM l = putReq ts (fedM (l.drop u)) := by
  obtain ⟨_, _, hu, hl⟩ := request_fits h
  unfold fedM
  rw [fedF, h]
  simp only
  rw [fedF_more l.length ((l.drop u).length + 1) (l.drop u) (by rw [List.length_drop]; omega) (by omega)]

theorem fed_bad {l : List UInt8} (h : requestM l = .inl 2) : fedM l = ([], [], false) := by
  unfold fedM
  rw [fedF, h]
  rfl

theorem fed_more {l : List UInt8} {c : Int} (h : requestM l = .inl c) (hc : c ≠ 2) : fedM l = ([], l, true) := by
  unfold fedM
  rw [fedF, h]
  simp [hc]

def addReqs (acc : List (List (List UInt8))) (q : Reqs) : Reqs := (acc ++ q.1, q.2)

theorem add_put (acc : List (List (List UInt8))) (ts : List (List UInt8)) (q : Reqs) : addReqs acc (putReq ts q) = addReqs (acc ++ if ts = [] then [] else [ts]) q := by
  unfold addReqs putReq
  by_cases h : ts = []
  · simp [h]
  · simp [h]

theorem add_nil (q : Reqs) : addReqs [] q = q := rfl

theorem put_as (ts : List (List UInt8)) (q : Reqs) : putReq ts q = addReqs (if ts = [] then [] else [ts]) q := by
  have := add_put [] ts q
  rwa [add_nil, List.nil_append] at this

theorem add_add (a b : List (List (List UInt8))) (q : Reqs) : addReqs a (addReqs b q) = addReqs (a ++ b) q := by
  unfold addReqs; simp

/-- How a reading of what comes ends: with what is left more is wanted, or something was wrong. -/
theorem fed_ends (l : List UInt8) : ((fedM l).2.2 = true ∧ ∃ c, requestM (fedM l).2.1 = .inl c ∧ c ≠ 2) ∨ ((fedM l).2.2 = false ∧ (fedM l).2.1 = []) := by
  induction hn : l.length using Nat.strongRecOn generalizing l with
  | _ n ih =>
    cases hm : requestM l with
    | inl c =>
      by_cases hc : c = 2
      · subst hc; rw [fed_bad hm]; exact .inr ⟨rfl, rfl⟩
      · rw [fed_more hm hc]; exact .inl ⟨rfl, c, hm, hc⟩
    | inr q =>
      obtain ⟨ts, u⟩ := q
      obtain ⟨_, _, hu, hl⟩ := request_fits hm
      rw [fed_step hm]
      exact ih (l.drop u).length (by rw [List.length_drop]; omega) (l.drop u) rfl

theorem fed_len (l : List UInt8) : (fedM l).2.1.length ≤ l.length := by
  induction hn : l.length using Nat.strongRecOn generalizing l with
  | _ n ih =>
    cases hm : requestM l with
    | inl c =>
      by_cases hc : c = 2
      · subst hc; rw [fed_bad hm]; simp
      · rw [fed_more hm hc]; show l.length ≤ n; omega
    | inr q =>
      obtain ⟨ts, u⟩ := q
      obtain ⟨_, _, hu, hl⟩ := request_fits hm
      rw [fed_step hm]
      have := ih (l.drop u).length (by rw [List.length_drop]; omega) (l.drop u) rfl
      rw [List.length_drop] at this
      show (fedM (l.drop u)).2.1.length ≤ n
      omega

theorem fed_reqs (l : List UInt8) : (fedM l).1.length ≤ l.length ∧ ∀ ts ∈ (fedM l).1, ts ≠ [] ∧ ts.length ≤ 16 ∧ ∀ t ∈ ts, t.length ≤ 200 := by
  induction hn : l.length using Nat.strongRecOn generalizing l with
  | _ n ih =>
    cases hm : requestM l with
    | inl c =>
      by_cases hc : c = 2
      · subst hc; rw [fed_bad hm]; exact ⟨by simp, fun ts h => by cases h⟩
      · rw [fed_more hm hc]; exact ⟨by simp, fun ts h => by cases h⟩
    | inr q =>
      obtain ⟨ts, u⟩ := q
      obtain ⟨h16, h200, hu, hl⟩ := request_fits hm
      rw [fed_step hm]
      obtain ⟨i1, i2⟩ := ih (l.drop u).length (by rw [List.length_drop]; omega) (l.drop u) rfl
      rw [List.length_drop] at i1
      unfold putReq
      by_cases ht : ts = []
      · simp only [ht, if_true]
        exact ⟨by omega, i2⟩
      · simp only [ht, if_false]
        refine ⟨(by rw [List.length_cons]; omega), fun x hx => ?_⟩
        rcases List.mem_cons.1 hx with rfl | hx
        · exact ⟨ht, h16, h200⟩
        · exact i2 x hx

/-- In two pieces they are the same requests. -/
theorem fed_two (r l : List UInt8) : ((fedM l).2.2 = true → fedM (l ++ r) = addReqs (fedM l).1 (fedM ((fedM l).2.1 ++ r))) ∧ ((fedM l).2.2 = false → fedM (l ++ r) = fedM l) := by
  induction hn : l.length using Nat.strongRecOn generalizing l with
  | _ n ih =>
    cases hm : requestM l with
    | inl c =>
      by_cases hc : c = 2
      · subst hc
        rw [fed_bad hm, fed_bad (request_bad r hm)]
        exact ⟨(fun h => by cases h), fun _ => rfl⟩
      · rw [fed_more hm hc]
        exact ⟨fun _ => rfl, fun h => by cases h⟩
    | inr q =>
      obtain ⟨ts, u⟩ := q
      obtain ⟨_, _, hu, hl⟩ := request_fits hm
      obtain ⟨i1, i2⟩ := ih (l.drop u).length (by rw [List.length_drop]; omega) (l.drop u) rfl
      rw [fed_step (request_app r hm), List.drop_append_of_le_length hl, fed_step hm]
      refine ⟨fun h => ?_, fun h => ?_⟩
      · rw [i1 h]
        unfold putReq addReqs
        by_cases ht : ts = []
        · simp [ht]
        · simp [ht]
      · rw [i2 h]
end Go.Proofs.YtielombpeeelkaaDoor
