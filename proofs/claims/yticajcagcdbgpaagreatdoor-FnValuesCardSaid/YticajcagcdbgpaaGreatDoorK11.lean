/- bulksOk: texts that are short enough. -/
import Derived.Test.YticajcagcdbgpaaGreatDoorK8
namespace Go.Proofs.YticajcagcdbgpaaGreatDoor.Kk
open Go.RowKit Go.Sort

def shortAt (T : List ByteArray) (i : Nat) : Bool := decide ((T.getD i ByteArray.empty).size ≤ 200)

set_option maxHeartbeats 1000000 in
set_option maxRecDepth 100000 in
theorem bulks_any (a : Option Addr) (A n c : Nat) (T : List ByteArray) (w : World) (ha : 0 < n → a = some ⟨A, 0, none⟩) (hc : ∀ i, i < n → w.cell? ⟨A, i, none⟩ = some (.string (T.getD i ByteArray.empty))) (hn : n ≤ 1048577) :
    Calls Tryz.prog 93 #[.slice a n c] w fun e w' => e = .returned (.bool ((List.range n).all (shortAt T))) ∧ w' = w := by
  have HA : Hid (0 < n → a = some ⟨A, 0, none⟩) := ha
  have HC : Hid (∀ i, i < n → w.cell? ⟨A, i, none⟩ = some (.string (T.getD i ByteArray.empty))) := hc
  clear ha hc
  go_enter Tryz.func93, Tryz.ntmps93
  go_wp2
  go_loopw [7] (fun i wr => ∃ (k : Nat), k ≤ n ∧ i = .int .i64 k ∧ Hid (∀ j, j < k → shortAt T j = true) ∧ wr = w) (fun i _ => n - (intOf i).toNat)
  case atStart => exact ⟨0, by omega, rfl, fun j hj => by omega, rfl⟩
  case round =>
    obtain ⟨k, hk, rfl, hp, rfl⟩ := hrel
    by_cases hlt : k < n
    · have c0 := HC.out k hlt
      obtain rfl := HA.out (by omega)
      have HS : Hid (shortAt T k = decide ((T.getD k ByteArray.empty).size ≤ 200)) := rfl
      generalize T.getD k ByteArray.empty = t at *
      by_cases hsz : t.size ≤ 200
      · have gsz : ¬ (200 : Int) < (t.size : Int) := by omega
        have HP2 : Hid (∀ j, j < k + 1 → shortAt T j = true) := fun j hj => by
          by_cases e : j = k
          · subst e; rw [HS.out, decide_eq_true hsz]
          · exact hp.out j (by omega)
        clear hp HS
        go_wp2
        go_roundw
        case rel => exact ⟨k + 1, by omega, by go_num, HP2, trivial⟩
        case measure => simp [intOf]; omega
      · have gsz : (200 : Int) < (t.size : Int) := by omega
        have HF : Hid ((List.range n).all (shortAt T) = false) := all_no hlt (by rw [HS.out, decide_eq_false hsz])
        clear hp HS
        go_wp2
        go_ret
        exact ⟨ret_bool HF.out.symm, rfl⟩
    · obtain rfl : k = n := by omega
      have HT : Hid ((List.range k).all (shortAt T) = true) := all_yes hp.out
      clear hp
      go_wp2
      go_ret
      exact ⟨ret_bool HT.out.symm, rfl⟩
end Go.Proofs.YticajcagcdbgpaaGreatDoor.Kk
