/- What the specification's ReadValue makes of texts, and when it is taken: mathematics. -/
import Derived.Test.YticajcagcdbgpaaGreatDoorW5
import Derived.Test.YticajcagcdbgpaaGreatDoorV10
import Derived.Test.YticajcagcdbgpaaGreatDoorSpInt
namespace Go.Proofs.YticajcagcdbgpaaGreatDoor
open Go.RowKit Go.Sort
open Kk (Rk rk0 texL texR decS scoreB rightB ranksB OwnR flatR encR)

theorem spec_vok (b : UInt8) (ts : List ByteArray) : vokB (specV b ts) = specOkB b ts := by
  unfold specV specOkB
  by_cases b1 : b = 49
  · rw [if_pos b1, if_pos b1]
    simp [vokB, none3]
  rw [if_neg b1, if_neg b1]
  by_cases b2 : b = 50
  · rw [if_pos b2, if_pos b2]
    simp [vokB, none3, bz]
    intro _
    rfl
  rw [if_neg b2, if_neg b2]
  by_cases b3 : b = 51
  · rw [if_pos b3, if_pos b3]
    simp [vokB, none3, bz]
    intro _
    rfl
  rw [if_neg b3, if_neg b3]
  by_cases b4 : b = 52
  · rw [if_pos b4, if_pos b4]
    unfold rightB
    simp [vokB, none3, bz]
    rw [decide_eq_true (show ({ data := #[] } : ByteArray) = ByteArray.empty from rfl), Bool.true_and]
    rfl
  · rw [if_neg b4, if_neg b4]
    have n1 : b.toNat ≠ 49 := fun h => b1 (by apply UInt8.toNat_inj.1; rw [h]; rfl)
    have n2 : b.toNat ≠ 50 := fun h => b2 (by apply UInt8.toNat_inj.1; rw [h]; rfl)
    have n3 : b.toNat ≠ 51 := fun h => b3 (by apply UInt8.toNat_inj.1; rw [h]; rfl)
    have n4 : b.toNat ≠ 52 := fun h => b4 (by apply UInt8.toNat_inj.1; rw [h]; rfl)
    unfold vokB
    dsimp only
    rw [if_neg (by omega), if_neg (by omega), if_neg (by omega), if_neg (by omega)]

theorem spec_bytes (b : UInt8) (ts : List ByteArray) (h : specOkB b ts = true) : vbytes (specV b ts) = b :: encT (specTx b ts) := by
  have hv := spec_vok b ts
  rw [h] at hv
  unfold vbytes
  rw [hv, if_pos rfl]
  unfold specOkB at h
  unfold specV specTx vtexts
  by_cases b1 : b = 49
  · rw [if_pos b1, if_pos b1, b1]
    simp [encT]
  rw [if_neg b1, if_neg b1]
  by_cases b2 : b = 50
  · rw [if_pos b2, if_pos b2, b2]
    simp [flatP, texL]
  rw [if_neg b2, if_neg b2]
  by_cases b3 : b = 51
  · rw [if_pos b3, if_pos b3, b3]
    simp [texL]
  rw [if_neg b3, if_neg b3]
  by_cases b4 : b = 52
  · rw [if_pos b4, b4]
    simp [flatP]
  · rw [if_neg b1, if_neg b2, if_neg b3, if_neg b4] at h
    cases h

theorem spec_taken (b : UInt8) (l : List UInt8) (ts : List ByteArray) (r : List UInt8) (hl : l = encT ts ++ r) : (vbytes (specV b ts) = b :: l) ↔ (specOkB b ts = true ∧ encT (specTx b ts) = encT ts ++ r) := by
  constructor
  · intro h
    by_cases ho : specOkB b ts = true
    · rw [spec_bytes b ts ho, hl] at h
      injection h with _ h
      exact ⟨ho, h⟩
    · have hv := spec_vok b ts
      have ho2 : specOkB b ts = false := by simpa using ho
      rw [ho2] at hv
      unfold vbytes at h
      rw [hv] at h
      cases h
  · rintro ⟨ho, h⟩
    rw [spec_bytes b ts ho, h, hl]

theorem get_of {s : ByteArray} {i : Nat} {a : UInt8} {rest : List UInt8} (h : s.data.toList.drop i = a :: rest) : ∀ hx, s[i]'hx = a := by
  intro hx
  obtain ⟨⟨d⟩⟩ := s
  have hi : i < d.length := by
    have := congrArg List.length h
    simp at this
    omega
  have e : d[i]? = some a := by
    have := congrArg (fun l => l[0]?) h
    simpa using this
  have e2 := List.getElem?_eq_some_iff.1 e
  obtain ⟨_, e3⟩ := e2
  exact e3
end Go.Proofs.YticajcagcdbgpaaGreatDoor
