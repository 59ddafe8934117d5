/- The specification's ValueBytes: the parts. -/
import Derived.Test.YticajcagcdbgpaaGreatDoorW2
namespace Go.Proofs.YticajcagcdbgpaaGreatDoor
open Go.RowKit Go.Sort
open Kk (Rk rk0 texL texR decS scoreB rightB ranksB OwnR flatR encR)

theorem nDigits_le : ∀ (k u : Nat), 1 ≤ k → u < 10 ^ k → Lib.nDigits u ≤ k
  | 0, u, h, _ => by omega
  | 1, u, _, h => by rw [Lib.nDigits_small (by simpa using h)]; omega
  | k + 2, u, _, h => by
    by_cases h10 : u < 10
    · rw [Lib.nDigits_small h10]; omega
    · rw [Lib.nDigits_big h10]
      have := nDigits_le (k + 1) (u / 10) (by omega) (by rw [Nat.pow_succ] at h; omega)
      omega

set_option maxHeartbeats 1000000 in
set_option maxRecDepth 100000 in
theorem dec_int (z : Int) (w : World) (h0 : -1000000000000000000 ≤ z) (h1 : z ≤ 1000000000000000000) :
    Calls Tryz.prog 21 #[.int .i64 z] w fun e w' => e = .returned (.string ⟨(Lib.itoa z).toArray⟩) ∧ Below w.heap.size w w' := by
  by_cases hz : z < 0
  · have e1 : -z = ((-z).toNat : Int) := by omega
    have hl : (Lib.decDigits (-z).toNat).length ≤ 20 := by
      rw [Lib.decDigits_length]
      have h19 : (10 : Nat) ^ 19 = 10000000000000000000 := by decide
      have := nDigits_le 19 (-z).toNat (by omega) (by rw [h19]; omega)
      omega
    have HI : Hid (Lib.itoa z = 45 :: Lib.decDigits (-z).toNat) := by
      unfold Hid Lib.itoa
      rw [if_pos hz, show z.natAbs = (-z).toNat from by omega]
    have HC : Hid (Calls Tryz.prog 21 #[.int .i64 ((-z).toNat : Int)] w fun e w' => e = .returned (.string ⟨(Lib.decDigits (-z).toNat).toArray⟩) ∧ Below w.heap.size w w') := dec_any (-z).toNat w (by omega)
    rw [← e1] at HC
    generalize Lib.decDigits (-z).toNat = D at *
    clear e1
    go_enter Tryz.func21, Tryz.ntmps21
    go_wp2_with fail
    refine HC.out.mono ?_
    rintro e w1 ⟨rfl, b1⟩
    go_wp2
    go_ret
    refine ⟨ret_str ?_, b1⟩
    rw [HI.out]
    exact ByteArray.mk_append_mk [45] D
  · have e1 : z = (z.toNat : Int) := by omega
    have := dec_any z.toNat w (by omega)
    rw [← e1] at this
    have e2 : Lib.itoa z = Lib.decDigits z.toNat := by unfold Lib.itoa; rw [if_neg hz]
    rw [e2]
    exact this

def twoS (t : ByteArray) : ByteArray := ⟨(oneT t).toArray⟩
theorem twoS_size (t : ByteArray) : (twoS t).size = t.size + 2 := by
  unfold twoS
  rw [size_mk]
  simp [oneT, twoT]

/-- What is small in a right value. -/
structure VSm (v : Vl) : Prop where
  kind : 1 ≤ v.kind ∧ v.kind ≤ 4
  text : v.text.size ≤ 200
  ni : v.items.length ≤ 20
  np : v.pairs.length ≤ 20
  nr : v.ranks.length ≤ 20
  items : ∀ t ∈ v.items, t.size ≤ 200
  pairs : ∀ p ∈ v.pairs, p.1.size ≤ 200 ∧ p.2.size ≤ 200
  ranks : ∀ r ∈ v.ranks, r.m.size ≤ 200 ∧ -1000000000000000000 ≤ r.s ∧ r.s ≤ 1000000000000000000

theorem items_small {ts : List ByteArray} (h : itemsB ts = true) : ts.length ≤ 20 ∧ ∀ t ∈ ts, t.size ≤ 200 := by
  unfold itemsB countB at h
  simp only [Bool.and_eq_true, decide_eq_true_iff, List.all_eq_true] at h
  exact ⟨h.1.2, fun t ht => of_decide_eq_true (h.2 t ht)⟩

theorem pairs_small {ps : List Pr} (h : pairsB ps = true) : ps.length ≤ 20 ∧ ∀ p ∈ ps, p.1.size ≤ 200 ∧ p.2.size ≤ 200 := by
  unfold pairsB countB at h
  rw [flat_short] at h
  simp only [Bool.and_eq_true, decide_eq_true_iff, List.all_eq_true] at h
  exact ⟨h.1.2, fun p hp => ⟨of_decide_eq_true (h.2.1 p hp).1, of_decide_eq_true (h.2.1 p hp).2⟩⟩

theorem ranks_small {rs : List Rk} (h : ranksB rs = true) : rs.length ≤ 20 ∧ ∀ r ∈ rs, r.m.size ≤ 200 ∧ -1000000000000000000 ≤ r.s ∧ r.s ≤ 1000000000000000000 := by
  unfold ranksB at h
  simp only [Bool.and_eq_true, decide_eq_true_iff, List.all_eq_true, List.mem_range] at h
  refine ⟨h.1, fun r hr => ?_⟩
  obtain ⟨i, hi, rfl⟩ := List.getElem_of_mem hr
  have := h.2 i hi
  unfold Kk.okAt at this
  simp only [Bool.and_eq_true] at this
  have h1 := this.1
  have h2 := this.2.1
  unfold Kk.buAt at h1
  unfold Kk.scAt scoreB at h2
  rw [List.getD_eq_getElem?_getD, List.getElem?_eq_getElem hi] at h1 h2
  simp only [Bool.and_eq_true, decide_eq_true_iff, Option.getD_some] at h1 h2
  exact ⟨h1, h2.1, h2.2⟩

theorem small_of_ok {v : Vl} (h : vokB v = true) : VSm v := by
  obtain ⟨k, t, is, ps, rs⟩ := v
  have nil0 : ∀ {α : Type} (l : List α), l.length = 0 → l = [] := fun l h => List.eq_nil_of_length_eq_zero h
  unfold vokB none3 at h
  dsimp only at h
  split at h
  · rename_i hk
    simp only [Bool.and_eq_true, decide_eq_true_iff] at h
    have h1 := nil0 is (by omega)
    have h2 := nil0 ps (by omega)
    have h3 := nil0 rs (by omega)
    subst h1 h2 h3
    exact ⟨by dsimp only; omega, of_decide_eq_true h.1, by simp, by simp, by simp, by simp, by simp, by simp⟩
  · split at h
    · rename_i hk
      simp only [Bool.and_eq_true, decide_eq_true_iff] at h
      have h2 := nil0 ps (by omega)
      have h3 := nil0 rs (by omega)
      subst h2 h3
      obtain ⟨q1, q2⟩ := items_small h.2.2
      exact ⟨by dsimp only; omega, by dsimp only; omega, q1, by simp, by simp, q2, by simp, by simp⟩
    · split at h
      · rename_i hk
        simp only [Bool.and_eq_true, decide_eq_true_iff] at h
        have h2 := nil0 is (by omega)
        have h3 := nil0 rs (by omega)
        subst h2 h3
        obtain ⟨q1, q2⟩ := pairs_small h.2.2
        exact ⟨by dsimp only; omega, by dsimp only; omega, by simp, q1, by simp, by simp, q2, by simp⟩
      · split at h
        · rename_i hk
          simp only [Bool.and_eq_true, decide_eq_true_iff] at h
          have h2 := nil0 is (by omega)
          have h3 := nil0 ps (by omega)
          subst h2 h3
          obtain ⟨q1, q2⟩ := ranks_small h.2.2.2
          exact ⟨by dsimp only; omega, by dsimp only; omega, by simp, by simp, q1, by simp, by simp, q2⟩
        · cases h

def vtexts (v : Vl) : List ByteArray := v.items ++ (flatP v.pairs ++ texL v.ranks)
def vbytes (v : Vl) : List UInt8 := if vokB v then UInt8.ofNat (48 + v.kind.toNat) :: (if v.kind = 1 then oneT v.text else encT (vtexts v)) else []

theorem str_app (l m : List UInt8) : (⟨l.toArray⟩ : ByteArray) ++ ⟨m.toArray⟩ = ⟨(l ++ m).toArray⟩ := ByteArray.mk_append_mk l m

theorem encT_take (ts : List ByteArray) (k : Nat) (h : k < ts.length) : encT (ts.take (k + 1)) = encT (ts.take k) ++ oneT (ts.getD k ByteArray.empty) := by
  rw [List.take_succ_eq_append_getElem h, encT_app, List.getD_eq_getElem?_getD, List.getElem?_eq_getElem h]
  simp [encT]

theorem encT_len (ts : List ByteArray) (h : ∀ t ∈ ts, t.size ≤ 200) : (encT ts).length ≤ 202 * ts.length := by
  induction ts with
  | nil => simp [encT]
  | cons t ts ih =>
    rw [encT_cons, List.length_append, List.length_cons]
    have h1 := ih (fun x hx => h x (by simp [hx]))
    have h2 := h t (by simp)
    have h3 := twoS_size t
    unfold twoS at h3
    rw [size_mk] at h3
    omega

theorem l4TwoS (t : ByteArray) (W : World) (ht : t.size ≤ 200) : Calls Tryz.prog 20 #[.string t] W fun e w' => e = .returned (.string (twoS t)) ∧ Below W.heap.size W w' := l4Two_any t W (by omega)
end Go.Proofs.YticajcagcdbgpaaGreatDoor
