/- Plain mathematics of a reply's text: the same by the specification's walk and by the program's, and no longer than 300 bytes a node. -/
import Derived.Test.YtcgeafdakaeicaaDoorDec
import Derived.Test.YtcgeafdakaeicaaDoorRpSpecOk
namespace Go.Proofs.YtcgeafdakaeicaaDoor.Rp
open Go.RowKit

def ownText (x : Nd) : List UInt8 :=
  if x.kind = 1 then [43] ++ x.s.data.toList ++ crlf
  else if x.kind = 2 then [45] ++ x.s.data.toList ++ crlf
  else if x.kind = 3 then [58] ++ Lib.itoa x.num ++ crlf
  else if x.kind = 4 then bulkText x.s
  else if x.kind = 5 then [36, 45, 49, 13, 10]
  else headText x.kids.length

def textF (L : List Nd) : Nat → Nat → List UInt8
  | 0, _ => []
  | f + 1, n => ownText (L.getD n nd0) ++ (kidsOf L n).flatMap fun k => if 0 ≤ k ∧ k < (n : Int) then textF L f k.toNat else []
def text (L : List Nd) (n : Nat) : List UInt8 := textF L (n + 1) n

theorem flatMap_congr' {α β : Type} (l : List α) (f g : α → List β) (h : ∀ k ∈ l, f k = g k) : l.flatMap f = l.flatMap g := by
  induction l with
  | nil => rfl
  | cons k l ih =>
    simp only [List.flatMap_cons]
    rw [h k (by simp), ih (fun k hk => h k (by simp [hk]))]

theorem textF_eq (L : List Nd) : ∀ (n f : Nat), n < f → textF L f n = text L n := by
  intro n
  induction n using Nat.strongRecOn with
  | _ n ih =>
    intro f hf
    obtain ⟨g, rfl⟩ : ∃ g, f = g + 1 := ⟨f - 1, by omega⟩
    show ownText _ ++ (kidsOf L n).flatMap _ = ownText _ ++ (kidsOf L n).flatMap _
    rw [flatMap_congr' _ _ (fun k => if 0 ≤ k ∧ k < (n : Int) then textF L n k.toNat else [])]
    intro k _
    by_cases hk : 0 ≤ k ∧ k < (n : Int)
    · simp only [if_pos hk]
      rw [ih k.toNat (by omega) g (by omega), ih k.toNat (by omega) n (by omega)]
    · simp only [if_neg hk]

theorem text_eq (L : List Nd) (n : Nat) (hr : ∀ k ∈ kidsOf L n, 0 ≤ k ∧ k < (n : Int)) : text L n = ownText (L.getD n nd0) ++ (kidsOf L n).flatMap fun k => text L k.toNat := by
  show ownText _ ++ (kidsOf L n).flatMap _ = _
  rw [flatMap_congr' _ _ (fun k => text L k.toNat)]
  intro k hk
  have := hr k hk
  simp only [if_pos this]
  exact textF_eq L k.toNat n (by omega)

theorem nDigits_le : ∀ (k u : Nat), 1 ≤ k → u < 10 ^ k → Lib.nDigits u ≤ k
  | 0, u, h, _ => by omega
  | 1, u, _, h => by rw [Lib.nDigits_small (by simpa using h)]; omega
  | k + 2, u, _, h => by
    by_cases h10 : u < 10
    · rw [Lib.nDigits_small h10]; omega
    · rw [Lib.nDigits_big h10]
      have := nDigits_le (k + 1) (u / 10) (by omega) (by rw [Nat.pow_succ] at h; omega)
      omega

theorem itoa_len (n : Int) (h : numB n = true) : (Lib.itoa n).length ≤ 20 := by
  simp only [numB, inB, decide_eq_true_eq] at h
  have h19 : (10 : Nat) ^ 19 = 10000000000000000000 := by decide
  unfold Lib.itoa
  split
  · rw [List.length_cons, Lib.decDigits_length]
    have := nDigits_le 19 n.natAbs (by omega) (by rw [h19]; omega)
    omega
  · rw [Lib.decDigits_length]
    have := nDigits_le 19 n.toNat (by omega) (by rw [h19]; omega)
    omega

theorem own_len (x : Nd) (h : fieldsB x = true) (hk : x.kids.length ≤ 1048576) : (ownText x).length ≤ 300 := by
  have hb : x.s.data.toList.length = x.s.size := by simp
  unfold ownText
  by_cases k1 : x.kind = 1
  · rw [if_pos k1]
    rw [fields_text x (.inl k1)] at h
    simp [plainB] at h
    simp [crlf]
    omega
  rw [if_neg k1]
  by_cases k2 : x.kind = 2
  · rw [if_pos k2]
    rw [fields_text x (.inr k2)] at h
    simp [plainB] at h
    simp [crlf]
    omega
  rw [if_neg k2]
  by_cases k3 : x.kind = 3
  · rw [if_pos k3]
    rw [fields_int x k3] at h
    simp only [Bool.and_eq_true] at h
    have := itoa_len x.num h.1.1
    simp [crlf]
    omega
  rw [if_neg k3]
  by_cases k4 : x.kind = 4
  · rw [if_pos k4]
    rw [fields_bulk x k4] at h
    simp at h
    exact bulkText_len x.s h.1.2
  rw [if_neg k4]
  by_cases k5 : x.kind = 5
  · rw [if_pos k5]
    simp
  rw [if_neg k5]
  have := dec_len_le x.kids.length hk
  simp [headText, crlf]
  omega

theorem flat_reverse (g : Int → List UInt8) : ∀ ks : List Int, (ks.reverse.flatMap g).length = (ks.flatMap g).length
  | [] => rfl
  | k :: ks => by
    rw [List.reverse_cons, List.flatMap_append, List.flatMap_cons, List.length_append, List.length_append, flat_reverse g ks]
    simp
    omega

theorem tw_sum (T : Nat → Int) (hle : ∀ m, T m ≤ m) (g : Int → List UInt8) : ∀ (ks : List Int) (a : Int), 0 ≤ tw T ks a → (∀ k ∈ ks, 0 ≤ k → k ≤ a → 0 ≤ T k.toNat → ((g k).length : Int) ≤ 300 * (k + 1 - T k.toNat)) →
    ((ks.flatMap g).length : Int) ≤ 300 * (a + 1 - tw T ks a) := by
  intro ks
  induction ks with
  | nil => intro a h _; simp [tw]
  | cons k ks ih =>
    intro a h hg
    simp only [tw] at h ⊢
    by_cases h0 : a < 0 ∨ k ≠ a
    · rw [if_pos h0] at h; omega
    · rw [if_neg h0] at h ⊢
      by_cases h1 : T a.toNat < 0
      · rw [if_pos h1] at h; omega
      · rw [if_neg h1] at h ⊢
        obtain rfl : k = a := by omega
        have hl := hle k.toNat
        have e1 := hg k (by simp) (by omega) (by omega) (by omega)
        have e2 := ih (T k.toNat - 1) h (fun j hj a1 a2 a3 => hg j (by simp [hj]) a1 (by omega) a3)
        rw [List.flatMap_cons, List.length_append]
        omega

theorem text_len (L : List Nd) (N : Nat) (hF : ∀ i, i < N → fieldsB (L.getD i nd0) = true ∧ (L.getD i nd0).kids.length ≤ 1048576 ∧ 0 ≤ tree L i) : ∀ n : Nat, n < N → ((text L n).length : Int) ≤ 300 * ((n : Int) + 1 - tree L n) := by
  intro n
  induction n using Nat.strongRecOn with
  | _ n ih =>
    intro hn
    obtain ⟨f1, f2, f3⟩ := hF n hn
    have ht := tree_eq L n
    have f3' := f3
    rw [ht] at f3'
    have hr := tw_range (tree L) (tree_le L) _ _ f3'
    rw [text_eq L n (fun k hk => by have := hr k (by simpa using hk); omega), List.length_append]
    have ho := own_len _ f1 f2
    have hs := tw_sum (tree L) (tree_le L) (fun k => text L k.toNat) (kidsOf L n).reverse ((n : Int) - 1) f3' (fun k hk a1 a2 a3 => by
      have := ih k.toNat (by omega) (by omega)
      rw [Int.toNat_of_nonneg a1] at this
      exact this)
    rw [flat_reverse, ← ht] at hs
    omega
end Go.Proofs.YtcgeafdakaeicaaDoor.Rp
