/- Numbers and searches, as the specification reads them and as the program does. -/
import Derived.Test.YtjgmkbldclangaaGreatDoorFR
import Derived.Lib.ParseIntBCases
namespace Go.Proofs.YtjgmkbldclangaaGreatDoor.Fd
open Go.Lib

/-- The digits' number, as the specification reads it. -/
def digI : Nat → List UInt8 → Option Nat
  | acc, [] => some acc
  | acc, c :: r => if c.toNat < 48 ∨ 57 < c.toNat ∨ 100000000000000000 < acc then none else digI (acc * 10 + (c.toNat - 48)) r

def negI (l : List UInt8) : Bool := decide (1 < l.length) && decide (l.head? = some 45)
def bodyI (l : List UInt8) : List UInt8 := if negI l then l.tail else l

/-- The specification's reading of a number: what it answers. -/
def intI (l : List UInt8) : Int × Bool :=
  if (bodyI l).length < 1 ∨ 19 < (bodyI l).length ∨ ((bodyI l).head? = some 48 ∧ (1 < (bodyI l).length ∨ negI l = true)) then (0, false)
  else match digI 0 (bodyI l) with
    | none => (0, false)
    | some n => (if negI l then -(n : Int) else n, inNum (if negI l then -(n : Int) else n))

theorem dig_step (n : Nat) (h : 10 ≤ n) : Lib.decDigits n = Lib.decDigits (n / 10) ++ [UInt8.ofNat (48 + n % 10)] := by
  rw [Lib.decDigits, dif_neg (by omega)]

theorem dig_byte (c : UInt8) (h : ¬ c.toNat < 48) (h2 : ¬ 57 < c.toNat) : UInt8.ofNat (48 + (c.toNat - 48)) = c := by
  have : 48 + (c.toNat - 48) = c.toNat := by omega
  rw [this]; simp

theorem digI_to : ∀ (l : List UInt8) (acc n : Nat), 1 ≤ acc → digI acc l = some n → Lib.decDigits acc ++ l = Lib.decDigits n
  | [], acc, n, _, h => by simp only [digI] at h; injection h with h; subst h; simp
  | c :: r, acc, n, ha, h => by
    simp only [digI] at h
    split at h
    · cases h
    · rename_i hc
      have hd := dig_step (acc * 10 + (c.toNat - 48)) (by omega)
      have e1 : (acc * 10 + (c.toNat - 48)) / 10 = acc := by omega
      have e2 : (acc * 10 + (c.toNat - 48)) % 10 = c.toNat - 48 := by omega
      rw [e1, e2, dig_byte c (by omega) (by omega)] at hd
      rw [← digI_to r _ n (by omega) h, hd]
      simp

theorem digI_body (l : List UInt8) (n : Nat) (hl : l ≠ []) (h0 : l.head? = some 48 → l.length ≤ 1) (h : digI 0 l = some n) : l = Lib.decDigits n := by
  match l, hl, h0, h with
  | c :: r, _, h0, h =>
    simp only [digI] at h
    split at h
    · cases h
    · rename_i hc
      by_cases e : c.toNat = 48
      · have : c = 48 := UInt8.toNat_inj.mp (by rw [e]; rfl)
        subst this
        have hr : r = [] := by
          have := h0 rfl
          simpa using this
        subst hr
        simp only [digI] at h
        injection h with h
        subst h
        exact (Lib.decDigits_one (i := 0) (by omega)).symm
      · have hd : Lib.decDigits (0 * 10 + (c.toNat - 48)) = [c] := by
          rw [Lib.decDigits_one (by omega)]
          rw [Nat.zero_mul, Nat.zero_add, dig_byte c (by omega) (by omega)]
        rw [← digI_to r _ n (by omega) h, hd]
        simp

theorem digI_snoc : ∀ (l : List UInt8) (c : UInt8) (acc : Nat), digI acc (l ++ [c]) = (digI acc l).bind fun m => digI m [c]
  | [], c, acc => by simp [digI]
  | b :: l, c, acc => by
    simp only [List.cons_append, digI]
    split
    · rfl
    · rw [digI_snoc l c]; rfl

theorem ofNat_dig (k : Nat) (h : k < 10) : (UInt8.ofNat (48 + k)).toNat = 48 + k := by
  simp; omega

theorem digI_of (n : Nat) (h : n ≤ 1000000000000000000) : digI 0 (Lib.decDigits n) = some n := by
  induction n using Nat.strongRecOn with
  | _ n ih =>
    by_cases h10 : n < 10
    · rw [Lib.decDigits_one h10]
      simp only [digI]
      rw [ofNat_dig n h10, if_neg (by omega)]
      congr 1; omega
    · rw [dig_step n (by omega), digI_snoc, ih (n / 10) (by omega) (by omega)]
      simp only [Option.bind, digI]
      rw [ofNat_dig _ (by omega), if_neg (by omega)]
      congr 1; omega

theorem dec_ne (n : Nat) : Lib.decDigits n ≠ [] := by
  by_cases h10 : n < 10
  · rw [Lib.decDigits_one h10]; simp
  · rw [dig_step n (by omega)]; simp

theorem dec_head (n : Nat) (h : 1 ≤ n) : ∃ c r, Lib.decDigits n = c :: r ∧ 49 ≤ c.toNat ∧ c.toNat ≤ 57 := by
  induction n using Nat.strongRecOn with
  | _ n ih =>
    by_cases h10 : n < 10
    · exact ⟨_, _, Lib.decDigits_one h10, by rw [ofNat_dig n h10]; omega, by rw [ofNat_dig n h10]; omega⟩
    · obtain ⟨c, r, e, h1, h2⟩ := ih (n / 10) (by omega) (by omega)
      exact ⟨c, r ++ [UInt8.ofNat (48 + n % 10)], by rw [dig_step n (by omega), e]; rfl, h1, h2⟩

theorem dec_head' (n : Nat) : ∃ c r, Lib.decDigits n = c :: r ∧ 48 ≤ c.toNat ∧ c.toNat ≤ 57 := by
  by_cases h : 1 ≤ n
  · obtain ⟨c, r, e, h1, h2⟩ := dec_head n h
    exact ⟨c, r, e, by omega, h2⟩
  · have : n = 0 := by omega
    subst this
    exact ⟨48, [], Lib.decDigits_one (by omega), by decide, by decide⟩

theorem dec_len : ∀ (k n : Nat), n < 10 ^ (k + 1) → (Lib.decDigits n).length ≤ k + 1
  | 0, n, h => by rw [Lib.decDigits_one (by simpa using h)]; simp
  | k + 1, n, h => by
    by_cases h10 : n < 10
    · rw [Lib.decDigits_one h10]; simp
    · rw [dig_step n (by omega)]
      have := dec_len k (n / 10) (by rw [Nat.pow_succ] at h; omega)
      simp; omega

theorem puM_snoc (M : Nat) : ∀ (l : List UInt8) (c : UInt8) (acc m : Nat), Lib.parseUintM M acc l = .ok m → Lib.parseUintM M acc (l ++ [c]) = Lib.parseUintM M m [c]
  | [], c, acc, m, h => by simp only [Lib.parseUintM] at h; injection h with h; subst h; rfl
  | b :: l, c, acc, m, h => by
    simp only [Lib.parseUintM] at h
    simp only [List.cons_append]
    rw [Lib.parseUintM]
    split at h
    · rename_i h1
      rw [if_pos h1]
      split at h
      · cases h
      · rename_i h2
        rw [if_neg h2]
        split at h
        · cases h
        · rename_i h3
          rw [if_neg h3]
          exact puM_snoc M l c _ m h
    · cases h

theorem puM_of (n : Nat) (h : n ≤ 1000000000000000000) : Lib.parseUintM 18446744073709551615 0 (Lib.decDigits n) = .ok n := by
  induction n using Nat.strongRecOn with
  | _ n ih =>
    by_cases h10 : n < 10
    · rw [Lib.decDigits_one h10]
      simp only [Lib.parseUintM]
      rw [ofNat_dig n h10, if_pos (by omega), if_neg (by omega), if_neg (by omega)]
      congr 1; omega
    · rw [dig_step n (by omega), puM_snoc _ _ _ _ _ (ih (n / 10) (by omega) (by omega))]
      simp only [Lib.parseUintM]
      rw [ofNat_dig _ (by omega), if_pos (by omega), if_neg (by omega), if_neg (by omega)]
      congr 1; omega

theorem puB_of (n : Nat) (h : n ≤ 1000000000000000000) : Lib.parseUintB 64 (Lib.decDigits n) = .ok n := by
  unfold Lib.parseUintB
  rw [if_neg (dec_ne n)]
  exact puM_of n h

theorem piB_itoa (v : Int) (h : inNum v = true) : Lib.parseIntB 64 (Lib.itoa v) = .ok v := by
  have hv : -1000000000000000000 ≤ v ∧ v ≤ 1000000000000000000 := of_decide_eq_true h
  unfold Lib.itoa
  by_cases hn : v < 0
  · rw [if_pos hn, Lib.parseIntB_minus, puB_of _ (by omega)]
    simp only [Lib.signedC]
    rw [if_neg (by have : (2:Nat) ^ (64 - 1) = 9223372036854775808 := by decide
                   omega)]
    congr 1; omega
  · rw [if_neg hn]
    obtain ⟨c, r, e, h1, h2⟩ := dec_head' v.toNat
    have hp := puB_of v.toNat (by omega)
    rw [e] at hp ⊢
    rw [Lib.parseIntB_plain 64 c r (by omega) (by omega), hp]
    simp only [Lib.signlessC]
    rw [if_neg (by have : (2:Nat) ^ (64 - 1) = 9223372036854775808 := by decide
                   omega)]
    congr 1; omega

theorem decM_itoa (v : Int) (h : inNum v = true) : decM (Lib.itoa v) = some v := by
  unfold decM
  rw [piB_itoa v h]
  simp [h]

theorem intI_itoa (v : Int) (h : inNum v = true) : intI (Lib.itoa v) = (v, true) := by
  have hv : -1000000000000000000 ≤ v ∧ v ≤ 1000000000000000000 := of_decide_eq_true h
  by_cases hn : v < 0
  · have e : Lib.itoa v = 45 :: Lib.decDigits v.natAbs := by unfold Lib.itoa; rw [if_pos hn]
    obtain ⟨c, r, e2, h1, h2⟩ := dec_head v.natAbs (by omega)
    have hl := dec_len 18 v.natAbs (by omega)
    have hneg : negI (Lib.itoa v) = true := by rw [e, e2]; simp [negI]
    have hb : bodyI (Lib.itoa v) = Lib.decDigits v.natAbs := by unfold bodyI; rw [if_pos hneg, e]; rfl
    unfold intI
    rw [hb, hneg, digI_of v.natAbs (by omega)]
    have hc : c ≠ 48 := fun hc => by subst hc; revert h1; decide
    rw [if_neg (by rw [e2] at hl ⊢; simp [hc] at hl ⊢; omega)]
    have : -(v.natAbs : Int) = v := by omega
    simp [this, h]
  · have e : Lib.itoa v = Lib.decDigits v.toNat := by unfold Lib.itoa; rw [if_neg hn]
    obtain ⟨c, r, e2, h1, h2⟩ := dec_head' v.toNat
    have hl := dec_len 18 v.toNat (by omega)
    have hc : c ≠ 45 := fun hc => by subst hc; revert h1; decide
    have hneg : negI (Lib.itoa v) = false := by rw [e, e2]; simp [negI, hc]
    have hb : bodyI (Lib.itoa v) = Lib.decDigits v.toNat := by unfold bodyI; rw [hneg, e]; rfl
    unfold intI
    rw [hb, hneg, digI_of v.toNat (by omega)]
    have h0 : (Lib.decDigits v.toNat).head? = some 48 → (Lib.decDigits v.toNat).length ≤ 1 := fun h48 => by
      by_cases hz : 1 ≤ v.toNat
      · obtain ⟨c', r', e3, h3, _⟩ := dec_head v.toNat hz
        rw [e3] at h48
        simp at h48
        subst h48
        exfalso; revert h3; decide
      · have : v.toNat = 0 := by omega
        rw [this, Lib.decDigits_one (by omega)]; simp
    have hne : (Lib.decDigits v.toNat).length ≥ 1 := by rw [e2]; simp
    rw [if_neg (by
      rintro (h | h | ⟨h, h' | h'⟩)
      · omega
      · omega
      · have := h0 h; omega
      · cases h')]
    have : (v.toNat : Int) = v := by omega
    simp [this, h]

theorem intI_to (l : List UInt8) (h : (intI l).2 = true) : inNum (intI l).1 = true ∧ Lib.itoa (intI l).1 = l := by
  unfold intI at h ⊢
  split at h
  · cases h
  · rename_i hc
    rw [if_neg hc]
    cases hd : digI 0 (bodyI l) with
    | none => rw [hd] at h; cases h
    | some n =>
      rw [hd] at h
      refine ⟨h, ?_⟩
      have hin : inNum (if negI l = true then -(n : Int) else n) = true := h
      have hb : bodyI l = Lib.decDigits n := digI_body (bodyI l) n (fun e => hc (by rw [e]; simp)) (fun e => by
        rcases Nat.lt_or_ge 1 (bodyI l).length with h1 | h1
        · exact absurd (Or.inr (Or.inr ⟨e, Or.inl h1⟩)) hc
        · omega) hd
      show Lib.itoa (if negI l = true then -(n : Int) else n) = l
      cases hneg : negI l with
      | true =>
        have hl : l = 45 :: bodyI l := by
          unfold bodyI
          rw [hneg]
          unfold negI at hneg
          simp at hneg
          obtain ⟨_, h45⟩ := hneg
          match l, h45 with
          | c :: r, h45 => simp at h45; subst h45; rfl
        have hn0 : 1 ≤ n := by
          rcases Nat.eq_zero_or_pos n with e | e
          · subst e
            exfalso
            rw [Lib.decDigits_one (by omega)] at hb
            exact hc (Or.inr (Or.inr ⟨by rw [hb]; rfl, Or.inr hneg⟩))
          · exact e
        rw [if_pos rfl]
        unfold Lib.itoa
        rw [if_pos (by omega), hl, hb]
        congr 1
        simp
      | false =>
        have hl : bodyI l = l := by unfold bodyI; rw [hneg]; rfl
        rw [if_neg (by simp)]
        unfold Lib.itoa
        rw [if_neg (by omega), ← hl, hb]
        congr 1

/-- The program and the specification read the same numbers. -/
theorem decM_intI (l : List UInt8) : decM l = if (intI l).2 then some (intI l).1 else none := by
  by_cases h : (intI l).2 = true
  · obtain ⟨h1, h2⟩ := intI_to l h
    rw [if_pos h]
    have := decM_itoa _ h1
    rwa [h2] at this
  · rw [if_neg h]
    cases hd : decM l with
    | none => rfl
    | some v =>
      exfalso
      unfold decM at hd
      split at hd
      · split at hd
        · rename_i hx
          injection hd with hd
          subst hd
          apply h
          rw [← hx.2, intI_itoa _ hx.1]
        · cases hd
      · cases hd

/-- A search from a later place. -/
theorem index_skip (l : List UInt8) (i : Nat) (hi : i < l.length) (h : ¬ (l[i]? = some 13 ∧ l[i + 1]? = some 10)) :
    Lib.index (l.drop i) [13, 10] = if Lib.index (l.drop (i + 1)) [13, 10] = -1 then -1 else Lib.index (l.drop (i + 1)) [13, 10] + 1 := by
  rw [List.drop_eq_getElem_cons hi]
  conv => lhs; unfold Lib.index
  have hp : ([13, 10] : List UInt8).isPrefixOf (l[i] :: l.drop (i + 1)) = false := by
    rw [List.getElem?_eq_getElem hi] at h
    match hd : l.drop (i + 1) with
    | [] => simp [List.isPrefixOf]
    | c :: r =>
      have : l[i + 1]? = some c := by
        have := congrArg (fun x => x[0]?) hd
        simpa using this
      rw [this] at h
      simp [List.isPrefixOf] at h ⊢
      intro h1
      exact fun h2 => h h1.symm h2.symm
  rw [hp]
  simp

theorem index_here (l : List UInt8) (i : Nat) (h : l[i]? = some 13) (h2 : l[i + 1]? = some 10) : Lib.index (l.drop i) [13, 10] = 0 := by
  have hi : i < l.length := by
    rcases Nat.lt_or_ge i l.length with h' | h'
    · exact h'
    · rw [List.getElem?_eq_none h'] at h; cases h
  have hi2 : i + 1 < l.length := by
    rcases Nat.lt_or_ge (i + 1) l.length with h' | h'
    · exact h'
    · rw [List.getElem?_eq_none h'] at h2; cases h2
  rw [List.drop_eq_getElem_cons hi, List.drop_eq_getElem_cons hi2]
  rw [List.getElem?_eq_getElem hi] at h
  rw [List.getElem?_eq_getElem hi2] at h2
  injection h with h
  injection h2 with h2
  rw [h, h2]
  unfold Lib.index
  simp [List.isPrefixOf]

theorem index_end (l : List UInt8) (i : Nat) (h : l.length ≤ i + 1) : Lib.index (l.drop i) [13, 10] = -1 := by
  match hd : l.drop i with
  | [] => rfl
  | [c] => simp [Lib.index, List.isPrefixOf]
  | a :: b :: r =>
    have := congrArg List.length hd
    simp at this
    omega

theorem ib_skip (l : List UInt8) (i : Nat) (c : UInt8) (hi : i < l.length) (h : l[i] ≠ c) :
    Lib.indexByte (l.drop i) c = if Lib.indexByte (l.drop (i + 1)) c = -1 then -1 else Lib.indexByte (l.drop (i + 1)) c + 1 := by
  rw [List.drop_eq_getElem_cons hi]
  conv => lhs; unfold Lib.indexByte
  simp [h]

theorem ib_here (l : List UInt8) (i : Nat) (c : UInt8) (hi : i < l.length) (h : l[i] = c) : Lib.indexByte (l.drop i) c = 0 := by
  rw [List.drop_eq_getElem_cons hi]
  unfold Lib.indexByte
  simp [h]

theorem ib_end (l : List UInt8) (i : Nat) (c : UInt8) (h : l.length ≤ i) : Lib.indexByte (l.drop i) c = -1 := by
  rw [List.drop_eq_nil_of_le h]; rfl

/-- How far a search has come. -/
def FarB (l : List UInt8) (c : UInt8) (i : Nat) : Prop := Lib.indexByte l c = if Lib.indexByte (l.drop i) c = -1 then -1 else Lib.indexByte (l.drop i) c + i

theorem FarB.zero (l : List UInt8) (c : UInt8) : FarB l c 0 := by
  unfold FarB; simp

theorem FarB.next {l : List UInt8} {c : UInt8} {i : Nat} (h : FarB l c i) (hi : i < l.length) (hc : l[i] ≠ c) : FarB l c (i + 1) := by
  unfold FarB at h ⊢
  rw [h, ib_skip l i c hi hc]
  have := Lib.indexByte_ge (l.drop (i + 1)) c
  split <;> split <;> first | omega | (split <;> omega)

theorem FarB.here {l : List UInt8} {c : UInt8} {i : Nat} (h : FarB l c i) (hi : i < l.length) (hc : l[i] = c) : Lib.indexByte l c = i := by
  unfold FarB at h
  rw [h, ib_here l i c hi hc]; simp

theorem FarB.end {l : List UInt8} {c : UInt8} {i : Nat} (h : FarB l c i) (hi : l.length ≤ i) : Lib.indexByte l c = -1 := by
  unfold FarB at h
  rw [h, ib_end l i c hi]; simp

theorem words_gap (cur l : List UInt8) (i : Nat) (hi : i < l.length) (h : isGapB l[i] = true) :
    wordsOf cur (l.drop i) = (if cur = [] then [] else [cur]) ++ wordsOf [] (l.drop (i + 1)) := by
  rw [List.drop_eq_getElem_cons hi, wordsOf, if_pos h]
  split <;> simp

theorem words_on (cur l : List UInt8) (i : Nat) (hi : i < l.length) (h : isGapB l[i] = false) :
    wordsOf cur (l.drop i) = wordsOf (cur ++ [l[i]]) (l.drop (i + 1)) := by
  rw [List.drop_eq_getElem_cons hi, wordsOf, if_neg (by simp [h])]

theorem words_end (cur l : List UInt8) (i : Nat) (hi : l.length ≤ i) : wordsOf cur (l.drop i) = if cur = [] then [] else [cur] := by
  rw [List.drop_eq_nil_of_le hi, wordsOf]
/-- The same for a line's end. -/
def FarL (l : List UInt8) (a i : Nat) : Prop := Lib.index (l.drop a) [13, 10] = if Lib.index (l.drop i) [13, 10] = -1 then -1 else Lib.index (l.drop i) [13, 10] + (i - a : Nat)

theorem FarL.zero (l : List UInt8) (a : Nat) : FarL l a a := by
  unfold FarL; simp

theorem FarL.next {l : List UInt8} {a i : Nat} (h : FarL l a i) (ha : a ≤ i) (hi : i < l.length) (hc : ¬ (l[i]? = some 13 ∧ l[i + 1]? = some 10)) : FarL l a (i + 1) := by
  unfold FarL at h ⊢
  rw [h, index_skip l i hi hc]
  have := Lib.index_ge (l.drop (i + 1)) [13, 10]
  split <;> split <;> first | omega | (split <;> omega)

theorem FarL.here {l : List UInt8} {a i : Nat} (h : FarL l a i) (h1 : l[i]? = some 13) (h2 : l[i + 1]? = some 10) : Lib.index (l.drop a) [13, 10] = (i - a : Nat) := by
  unfold FarL at h
  rw [h, index_here l i h1 h2]; simp

theorem FarL.end {l : List UInt8} {a i : Nat} (h : FarL l a i) (hi : l.length ≤ i + 1) : Lib.index (l.drop a) [13, 10] = -1 := by
  unfold FarL at h
  rw [h, index_end l i hi]; simp

theorem trim_one (l : List UInt8) (n : Nat) (hn : n ≤ l.length) :
    Lib.trimSuffix (l.take n) [13] = if 0 < n ∧ l[n - 1]? = some 13 then l.take (n - 1) else l.take n := by
  unfold Lib.trimSuffix Lib.hasSuffix
  match n, hn with
  | 0, _ => simp
  | k + 1, hn =>
    have hk : k < l.length := by omega
    have ht : l.take (k + 1) = l.take k ++ [l[k]] := by rw [List.take_add_one, List.getElem?_eq_getElem hk]; rfl
    by_cases h13 : l[k] = 13
    · rw [if_pos (by rw [ht, h13]; simp), if_pos ⟨by omega, by simp [List.getElem?_eq_getElem hk, h13]⟩]
      simp [List.take_take]
      omega
    · rw [if_neg, if_neg]
      · rw [Nat.add_sub_cancel, List.getElem?_eq_getElem hk]; simp [h13]
      · intro h
        rw [List.isSuffixOf_iff_suffix, ht] at h
        obtain ⟨t, h⟩ := h
        have := (List.append_inj' h rfl).2
        simp at this
        exact h13 this.symm
end Go.Proofs.YtjgmkbldclangaaGreatDoor.Fd
