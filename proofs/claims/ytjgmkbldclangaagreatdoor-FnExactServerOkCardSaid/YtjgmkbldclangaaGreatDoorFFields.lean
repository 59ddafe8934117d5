/- Words between gaps: what the runes say and what the bytes say. -/
import Derived.Test.YtjgmkbldclangaaGreatDoorFWords
import Derived.Lib.MapLaws
namespace Go.Proofs.YtjgmkbldclangaaGreatDoor.Fd
open Go.RowKit Go.Lib

def isGapB (b : UInt8) : Bool := b == 32 || b == 9

def wordsOf (cur : List UInt8) : List UInt8 → List (List UInt8)
  | [] => if cur = [] then [] else [cur]
  | b :: l => if isGapB b then (if cur = [] then wordsOf [] l else cur :: wordsOf [] l) else wordsOf (cur ++ [b]) l

theorem wordsOf_high : ∀ (xs : List UInt8) (cur rest : List UInt8), (∀ x ∈ xs, isGapB x = false) → wordsOf cur (xs ++ rest) = wordsOf (cur ++ xs) rest
  | [], cur, rest, _ => by simp
  | x :: xs, cur, rest, h => by
    rw [List.cons_append, wordsOf, h x (by simp), if_neg (by simp), wordsOf_high xs _ rest (fun y hy => h y (by simp [hy]))]
    simp

theorem get!_at (s : ByteArray) (i : Nat) (h : i < s.size) : s.get! i = s.data.toList[i]'(by rw [← size_eq]; exact h) := by
  have : s.get! i = s.data[i]! := rfl
  rw [this, getElem!_pos s.data i h]
  simp

theorem gap_high (x : UInt8) (h : 128 ≤ x.toNat) : isGapB x = false := by
  unfold isGapB
  rw [Bool.or_eq_false_iff]
  constructor <;> (rw [beq_eq_false_iff_ne]; intro e; subst e; revert h; decide)

theorem gapR_low (x : UInt8) : gapR x.toNat = isGapB x := by
  unfold gapR isGapB
  rw [Bool.eq_iff_iff]
  simp only [Bool.or_eq_true, decide_eq_true_eq, beq_iff_eq, ← UInt8.toNat_inj]
  exact Iff.rfl

theorem gapR_high (r : Nat) (h : 128 ≤ r) : gapR r = false := by
  unfold gapR
  rw [Bool.or_eq_false_iff]
  constructor <;> (rw [decide_eq_false_iff_not]; omega)

/-- A rune that begins with a high byte: no gap, and none of its bytes is one. -/
theorem decode_high (s : ByteArray) (pos : Nat) (hp : pos < s.size) (hb : 128 ≤ (s.get! pos).toNat) :
    gapR (Utf8.decode s pos).1 = false ∧ pos + (Utf8.decode s pos).2 ≤ s.size ∧ ∀ x ∈ (s.data.toList.drop pos).take (Utf8.decode s pos).2, isGapB x = false := by
  have hle := decodeN_le_n' (s.size - pos) (s.get! pos).toNat (s.get! (pos + 1)).toNat (s.get! (pos + 2)).toNat (s.get! (pos + 3)).toNat (by omega)
  have hsh := decodeN_shape (s.size - pos) (s.get! pos).toNat (s.get! (pos + 1)).toNat (s.get! (pos + 2)).toNat (s.get! (pos + 3)).toNat
  rw [← decode_at] at hle hsh
  refine ⟨?_, by omega, ?_⟩
  · rcases hsh with h | h | h | h | h
    · omega
    · rw [h.2.2.2.2]; exact gapR_high _ h.2.2.2.1
    · rw [h.2.2.2.2.2.2]; exact gapR_high _ (by omega)
    · rw [h.2.2.2.2.2.2.2]; exact gapR_high _ (by omega)
    · rw [h]; exact gapR_high _ (by omega)
  · intro x hx
    obtain ⟨j, hj, rfl⟩ := List.getElem_of_mem hx
    rw [List.length_take, List.length_drop, ← size_eq] at hj
    rw [List.getElem_take, List.getElem_drop, ← get!_at s (pos + j) (by omega)]
    apply gap_high
    rcases hsh with h | h | h | h | h
    · omega
    · rw [h.2.2.2.2] at hj
      obtain rfl | rfl : j = 0 ∨ j = 1 := by simp only at hj; omega
      · exact hb
      · omega
    · rw [h.2.2.2.2.2.2] at hj
      obtain rfl | rfl | rfl : j = 0 ∨ j = 1 ∨ j = 2 := by simp only at hj; omega
      · exact hb
      · omega
      · omega
    · rw [h.2.2.2.2.2.2.2] at hj
      obtain rfl | rfl | rfl | rfl : j = 0 ∨ j = 1 ∨ j = 2 ∨ j = 3 := by simp only at hj; omega
      · exact hb
      · omega
      · omega
      · omega
    · rw [h] at hj
      obtain rfl : j = 0 := by simp only at hj; omega
      exact hb

theorem decode_low (s : ByteArray) (pos : Nat) (hb : ¬ 128 ≤ (s.get! pos).toNat) : Utf8.decode s pos = ((s.get! pos).toNat, 1) := by
  rw [decode_at]
  unfold decodeN
  rw [if_pos (by omega)]

theorem spans_words (s : ByteArray) : ∀ (f pos : Nat) (st : Option Nat) (acc : List (Nat × Nat)), s.size ≤ pos + f → pos ≤ s.size → (∀ a, st = some a → a < pos) →
    (closeSpans s (spansFromP gapR s f pos st acc)).map (fun p => pieceU s.data.toList p.1 p.2) = acc.map (fun p => pieceU s.data.toList p.1 p.2) ++ wordsOf (openPiece s.data.toList st pos) (s.data.toList.drop pos) := by
  have hend : ∀ (f pos : Nat) (st : Option Nat) (acc : List (Nat × Nat)), ¬ pos < s.size → pos ≤ s.size → (∀ a, st = some a → a < pos) →
    (closeSpans s (spansFromP gapR s f pos st acc)).map (fun p => pieceU s.data.toList p.1 p.2) = acc.map (fun p => pieceU s.data.toList p.1 p.2) ++ wordsOf (openPiece s.data.toList st pos) (s.data.toList.drop pos) := by
    intro f pos st acc h hp hst
    obtain rfl : pos = s.size := by omega
    have hd : s.data.toList.drop s.size = [] := List.drop_eq_nil_of_le (by rw [← size_eq]; exact Nat.le_refl _)
    rw [hd, spansFromP_end gapR s f _ st acc h]
    cases st with
    | none => simp [closeSpans, openPiece, wordsOf]
    | some a =>
      have := pieceU_ne s.data.toList a s.size (hst a rfl) (by rw [← size_eq]; exact Nat.le_refl _)
      simp [closeSpans, openPiece, this, wordsOf]
  intro f
  induction f with
  | zero => intro pos st acc h hp hst; exact hend 0 pos st acc (by omega) hp hst
  | succ f ih =>
    intro pos st acc h hp hst
    by_cases hlt : pos < s.size
    · have hlt' : pos < s.data.toList.length := by rw [← size_eq]; exact hlt
      simp only [spansFromP, if_pos hlt]
      by_cases hb : 128 ≤ (s.get! pos).toNat
      · obtain ⟨hg, hk, hx⟩ := decode_high s pos hlt hb
        have hw := width_pos s pos
        rw [hg]
        simp only [Bool.false_eq_true, if_false]
        generalize (Utf8.decode s pos).2 = k at *
        have hsplit : s.data.toList.drop pos = (s.data.toList.drop pos).take k ++ s.data.toList.drop (pos + k) := by
          rw [← List.drop_drop, List.take_append_drop]
        rw [hsplit, wordsOf_high _ _ _ hx]
        cases st with
        | none =>
          simp only
          rw [ih (pos + k) (some pos) acc (by omega) hk (fun a h => by cases h; omega)]
          simp only [openPiece, pieceU, List.nil_append, Nat.add_sub_cancel_left]
        | some a =>
          simp only
          rw [ih (pos + k) (some a) acc (by omega) hk (fun b h => by cases h; have := hst a rfl; omega)]
          simp only [openPiece]
          rw [pieceU_grow _ _ _ _ (Nat.le_of_lt (hst a rfl))]
      · rw [decode_low s pos hb, gapR_low, get!_at s pos hlt]
        have hcons : s.data.toList.drop pos = s.data.toList[pos] :: s.data.toList.drop (pos + 1) := (List.drop_eq_getElem_cons hlt')
        rw [hcons, wordsOf]
        cases hg : isGapB s.data.toList[pos] with
        | true =>
          simp only [if_true]
          cases st with
          | none =>
            simp only
            rw [ih (pos + 1) none acc (by omega) (by omega) (fun a h => by cases h)]
            simp [openPiece]
          | some a =>
            have hpn := pieceU_ne s.data.toList a pos (hst a rfl) (by rw [← size_eq]; omega)
            simp only
            rw [ih (pos + 1) none (acc ++ [(a, pos)]) (by omega) (by omega) (fun a h => by cases h)]
            simp [openPiece, hpn]
        | false =>
          simp only [Bool.false_eq_true, if_false]
          cases st with
          | none =>
            simp only
            rw [ih (pos + 1) (some pos) acc (by omega) (by omega) (fun a h => by cases h; omega)]
            simp only [openPiece, pieceU, List.nil_append, Nat.add_sub_cancel_left]
            rw [hcons]
            rfl
          | some a =>
            simp only
            rw [ih (pos + 1) (some a) acc (by omega) (by omega) (fun b h => by cases h; have := hst a rfl; omega)]
            simp only [openPiece]
            rw [← pieceU_grow _ _ _ 1 (Nat.le_of_lt (hst a rfl)), hcons]
            rfl
    · exact hend _ pos st acc hlt hp hst

theorem fields_words (s : ByteArray) : (Lib.goFieldsP gapR s).map (fun t => t.data.toList) = wordsOf [] s.data.toList := by
  have := spans_words s s.size 0 none [] (by omega) (by omega) (fun a h => by cases h)
  simp only [List.map_nil, List.nil_append, openPiece, List.drop_zero] at this
  rw [← this]
  unfold goFieldsP spansOfP
  rw [List.map_map]
  apply List.map_congr_left
  intro p _
  show (s.extract p.1 p.2).data.toList = _
  rw [extract_data, pieceU]

theorem wordsOf_bound : ∀ (l cur : List UInt8), (wordsOf cur l).length ≤ l.length + 1 ∧ (cur = [] → (wordsOf cur l).length ≤ l.length) ∧ ∀ x ∈ wordsOf cur l, x.length ≤ cur.length + l.length
  | [], cur => by
    unfold wordsOf
    by_cases h : cur = []
    · simp [h]
    · simp [h]
  | b :: l, cur => by
    obtain ⟨h1, h2, h3⟩ := wordsOf_bound l []
    obtain ⟨k1, k2, k3⟩ := wordsOf_bound l (cur ++ [b])
    have h2 := h2 rfl
    unfold wordsOf
    split
    · split
      · rename_i hc
        refine ⟨by simp; omega, fun _ => by simp; omega, fun x hx => ?_⟩
        have := h3 x hx
        simp at this ⊢
        omega
      · rename_i hc
        refine ⟨by simp; omega, fun h => absurd h hc, fun x hx => ?_⟩
        rcases List.mem_cons.1 hx with rfl | hx
        · simp
        · have := h3 x hx
          simp at this ⊢
          omega
    · refine ⟨by simp; omega, fun h => by simp; omega, fun x hx => ?_⟩
      have := k3 x hx
      simp at this ⊢
      omega
end Go.Proofs.YtjgmkbldclangaaGreatDoor.Fd
