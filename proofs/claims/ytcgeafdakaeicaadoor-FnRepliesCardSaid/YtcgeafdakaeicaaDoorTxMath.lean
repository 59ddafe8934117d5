/- Plain mathematics: the text of the nodes that were read is the bytes that were used. -/
import Derived.Test.YtcgeafdakaeicaaDoorRrMath
import Derived.Test.YtcgeafdakaeicaaDoorRpTMath
namespace Go.Proofs.YtcgeafdakaeicaaDoor
open Go.Lib
open Rp (Nd nd0 plainB numB fieldsB)

theorem index_at : ∀ (l : List UInt8), 0 ≤ Lib.index l [13, 10] → l = l.take (Lib.index l [13, 10]).toNat ++ [13, 10] ++ l.drop ((Lib.index l [13, 10]).toNat + 2)
  | [], h => by simp [Lib.index] at h
  | b :: l, h => by
    unfold Lib.index at h ⊢
    by_cases hp : List.isPrefixOf [13, 10] (b :: l) = true
    · rw [if_pos hp]
      cases l with
      | nil => simp [List.isPrefixOf] at hp
      | cons c l =>
        simp [List.isPrefixOf] at hp
        obtain ⟨rfl, rfl⟩ := hp
        simp
    · rw [if_neg hp] at h ⊢
      by_cases hi : (Lib.index l [13, 10] == -1) = true
      · rw [if_pos hi] at h; omega
      · rw [if_neg hi] at h ⊢
        have hge : -1 ≤ Lib.index l [13, 10] := by
          clear h hi hp
          induction l with
          | nil => simp [Lib.index]
          | cons c l ih => unfold Lib.index; split <;> (try split) <;> omega
        have hne : Lib.index l [13, 10] ≠ -1 := by simpa using hi
        have ih := index_at l (by omega)
        obtain ⟨k, hk⟩ := Int.eq_ofNat_of_zero_le (show 0 ≤ Lib.index l [13, 10] by omega)
        rw [hk] at ih ⊢
        rw [show ((k : Int) + 1).toNat = k + 1 from by omega]
        simp only [Int.toNat_natCast] at ih
        rw [List.take_succ_cons, show k + 1 + 2 = (k + 2) + 1 from by omega, List.drop_succ_cons, List.cons_append, List.cons_append, ← ih]

theorem line_split {l t : List UInt8} (h : lineM l = .inr t) : l = t ++ [13, 10] ++ l.drop (t.length + 2) := by
  unfold lineM at h
  split at h
  · rename_i hi
    injection h with h
    have hs := index_at l hi
    have hf := index_fits l hi
    have hl : t.length = (Lib.index l [13, 10]).toNat := by rw [← h, List.length_take]; omega
    rw [hl, ← h]
    exact hs
  · split at h <;> cases h

theorem some_split {l t : List UInt8} {n : Nat} (h : someM l n = .inr t) : t.length = n ∧ l = t ++ [13, 10] ++ l.drop (n + 2) := by
  unfold someM at h
  split at h
  · cases h
  · split at h
    · rename_i hlen hc
      injection h with h
      subst h
      refine ⟨by rw [List.length_take]; omega, ?_⟩
      rw [← hc, ← List.drop_drop, List.append_assoc, List.take_append_drop, List.take_append_drop]
    · cases h

theorem dec_itoa {l : List UInt8} {v : Int} (h : decM l = some v) : Lib.itoa v = l := by
  unfold decM at h
  split at h
  · split at h
    · rename_i hin
      injection h with h
      subst h
      exact hin.2
    · cases h
  · cases h

theorem count_itoa {l : List UInt8} {most : Int} {n : Nat} (h : countM l most = some n) : Lib.itoa (n : Int) = l := by
  unfold countM at h
  obtain ⟨v, hv, hk⟩ := Option.bind_eq_some_iff.1 h
  split at hk
  · injection hk with hk
    rw [← hk, show ((v.toNat : Nat) : Int) = v from by omega]
    exact dec_itoa hv
  · cases hk
end Go.Proofs.YtcgeafdakaeicaaDoor
