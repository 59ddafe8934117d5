/- impl.Ranked at every argument; szRankS, toRankS, eqRankS. -/
import Derived.Test.YticajcagcdbgpaaGreatDoorK14
namespace Go.Proofs.YticajcagcdbgpaaGreatDoor.Kk
open Go.RowKit Go.Sort

def PreR (D : Array Value) (L : List Rk) (k : Nat) : Prop := ∀ i, i < k → D[i * 2]? = some (.string (L.getD i rk0).m) ∧ D[i * 2 + 1]? = some (.int .i64 (L.getD i rk0).s)

theorem pre_put {D : Array Value} {L : List Rk} {k : Nat} {m : ByteArray} {s : Int} (h : PreR D L k) (hD : k * 2 + 1 < D.size) (hx : L.getD k rk0 = ⟨m, s⟩) : PreR ((D.setIfInBounds (k * 2) (.string m)).setIfInBounds (k * 2 + 1) (.int .i64 s)) L (k + 1) := fun i hi => by
  by_cases e : i = k
  · subst e
    rw [hx]
    refine ⟨?_, ?_⟩
    · rw [Array.getElem?_setIfInBounds_ne (by omega), Array.getElem?_setIfInBounds_self_of_lt (by omega)]
    · rw [Array.getElem?_setIfInBounds_self_of_lt (by rw [Array.size_setIfInBounds]; omega)]
  · obtain ⟨h0, h1⟩ := h i (by omega)
    refine ⟨?_, ?_⟩
    · rw [Array.getElem?_setIfInBounds_ne (by omega), Array.getElem?_setIfInBounds_ne (by omega)]; exact h0
    · rw [Array.getElem?_setIfInBounds_ne (by omega), Array.getElem?_setIfInBounds_ne (by omega)]; exact h1

theorem pre_flat {D : Array Value} {L : List Rk} (h : PreR D L L.length) : D.toList.take (L.length * 2) = flatR L := by
  apply List.ext_getElem?
  intro j
  by_cases hj : j < L.length * 2
  · rw [List.getElem?_take, if_pos hj, Array.getElem?_toList]
    have hi : j / 2 < L.length := by omega
    obtain ⟨f0, f1⟩ := flatR_at L (j / 2) hi
    obtain ⟨h0, h1⟩ := h (j / 2) hi
    rcases Nat.mod_two_eq_zero_or_one j with hm | hm
    · rw [show j / 2 * 2 = j by omega] at f0 h0
      rw [f0, h0]
    · rw [show j / 2 * 2 + 1 = j by omega] at f1 h1
      rw [f1, h1]
  · rw [List.getElem?_take, if_neg hj, List.getElem?_eq_none (by rw [flatR_len]; omega)]

theorem row_owns {w : World} {g cap B : Nat} {D : Array Value} {L : List Rk} (h : RowAt w g 54 D) (hD : D.size = cap * 2) (hp : PreR D L L.length) (hc : L.length ≤ cap) (hm : cap ≤ maxLen) (hB : B ≤ g) : OwnR w B (.slice (some ⟨g, 0, none⟩) L.length cap) L :=
  ⟨by rw [flatR_len], .inr ⟨g, cap, D, rfl, hB, h, hc, hm, hD, pre_flat hp⟩⟩

theorem ownR_nil (w : World) (B : Nat) : OwnR w B (.slice none 0 0) [] := ⟨rfl, .inl ⟨rfl, rfl⟩⟩

theorem ownR_in {w : World} {B A cap : Nat} {L : List Rk} (h : OwnR w B (.slice (some ⟨A, 0, none⟩) L.length cap) L) : RanksIn w (some ⟨A, 0, none⟩) A 0 L.length L :=
  ⟨rfl, fun _ => rfl, fun _ => (h.lt A rfl).2, fun i hi => by rw [Nat.zero_add]; exact ownR_at h i hi⟩

theorem ownR_any {w : World} {B : Nat} {v : Value} {L : List Rk} (h : OwnR w B v L) : ∃ a A c, v = .slice a L.length c ∧ RanksIn w a A 0 L.length L := by
  rcases Joins.ownsRow_forms h with ⟨h1, h2⟩ | ⟨A, c, rfl⟩
  · obtain rfl : L = [] := List.length_eq_zero_iff.mp h2
    exact ⟨none, 0, 0, h1, ⟨rfl, fun h => by simp at h, fun h => by simp at h, fun i hi => by simp at hi⟩⟩
  · exact ⟨_, A, c, rfl, ownR_in h⟩

end Go.Proofs.YticajcagcdbgpaaGreatDoor.Kk
