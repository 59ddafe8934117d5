/- A right value comes back from its bytes; what is read has just its bytes: mathematics. -/
import Derived.Test.YtapdoechmnjaeaaGreatDoorXa
namespace Go.Proofs.YtapdoechmnjaeaaGreatDoor
open Go.RowKit Go.Sort
open Kk (Rk rk0 texL texR decS scoreB rightB ranksB OwnR flatR encR)

theorem bz_of {t : ByteArray} (h : t.size = 0) : t = bz := by
  obtain ⟨⟨d⟩⟩ := t
  have : d = [] := List.eq_nil_of_length_eq_zero (show d.length = 0 from h)
  rw [this]
  rfl

theorem up_flat : ∀ ps : List Pr, pairUp (flatP ps) = ps
  | [] => rfl
  | p :: ps => by
    have e : flatP (p :: ps) = p.1 :: p.2 :: flatP ps := rfl
    rw [e, pairUp, up_flat ps]

theorem dec_texL : ∀ rs : List Rk, (∀ r ∈ rs, -1000000000000000000 ≤ r.s ∧ r.s ≤ 1000000000000000000) → rankDec (texL rs) = some rs
  | [], _ => rfl
  | r :: rs, h => by
    have e : texL (r :: rs) = r.m :: decS r.s :: texL rs := rfl
    have hd : decM (decS r.s).data.toList = some r.s := by
      have h1 := h r (by simp)
      have : inNum r.s = true := by unfold inNum; simp; exact h1
      exact decM_itoa _ this
    rw [e]
    simp only [rankDec, hd, dec_texL rs (fun x hx => h x (by simp [hx]))]
    rfl

theorem flatP_small {ps : List Pr} (h : ∀ p ∈ ps, p.1.size ≤ 200 ∧ p.2.size ≤ 200) : ∀ t ∈ flatP ps, t.size ≤ 65535 := fun t ht => by have := flatP_short h t ht; omega
theorem texL_small {rs : List Rk} (h : ∀ r ∈ rs, r.m.size ≤ 200 ∧ -1000000000000000000 ≤ r.s ∧ r.s ≤ 1000000000000000000) : ∀ t ∈ texL rs, t.size ≤ 65535 := fun t ht => by have := texL_short h t ht; omega

theorem enc_all (ts : List ByteArray) (h : ∀ t ∈ ts, t.size ≤ 65535) : textsM (encT ts) = some (ts, []) := by
  have := enc_read ts [] h (by simp)
  rwa [List.append_nil] at this

theorem back_right (v : Vl) (h : vokB v = true) : readI (vbytes v) = (v, true) := by
  have hsm := small_of_ok h
  obtain ⟨k, t, is, ps, rs⟩ := v
  obtain ⟨_, _, _, _, _, s1, s2, s3⟩ := hsm
  dsimp only at s1 s2 s3
  have nil0 : ∀ {α : Type} (l : List α), l.length = 0 → l = [] := fun l h => List.eq_nil_of_length_eq_zero h
  have hv := h
  unfold vokB none3 at h
  dsimp only at h
  unfold vbytes
  rw [hv, if_pos rfl]
  dsimp only
  split at h
  · rename_i hk
    simp only [Bool.and_eq_true, decide_eq_true_iff] at h
    have h1 := nil0 is (by omega)
    have h2 := nil0 ps (by omega)
    have h3 := nil0 rs (by omega)
    subst h1 h2 h3 hk
    rw [if_pos rfl]
    have hz : t.size ≤ 200 := of_decide_eq_true h.1
    show readI1 49 (textsM (oneT t)) = _
    have e : oneT t = encT [t] := by simp [encT]
    rw [e, enc_all [t] (fun x hx => by simp at hx; subst hx; omega)]
    show readC 49 [t] = _
    unfold readC
    rw [if_pos rfl]
    show (if shortB t = true then _ else _) = _
    rw [if_pos h.1]
  · rename_i n1
    rw [if_neg n1]
    split at h
    · rename_i hk
      simp only [Bool.and_eq_true, decide_eq_true_iff] at h
      have h2 := nil0 ps (by omega)
      have h3 := nil0 rs (by omega)
      have ht := bz_of h.1
      subst h2 h3 hk ht
      show readI1 50 (textsM (encT (vtexts _))) = _
      have e : vtexts ⟨2, bz, is, [], []⟩ = is := by simp [vtexts, flatP, texL]
      rw [e, enc_all is (fun x hx => by have := s1 x hx; omega)]
      show readC 50 is = _
      unfold readC
      rw [if_neg (by decide), if_pos rfl, if_pos h.2.2]
    · rename_i n2
      split at h
      · rename_i hk
        simp only [Bool.and_eq_true, decide_eq_true_iff] at h
        have h2 := nil0 is (by omega)
        have h3 := nil0 rs (by omega)
        have ht := bz_of h.1
        subst h2 h3 hk ht
        show readI1 51 (textsM (encT (vtexts _))) = _
        have e : vtexts ⟨3, bz, [], ps, []⟩ = flatP ps := by simp [vtexts, texL]
        rw [e, enc_all _ (flatP_small s2)]
        show readC 51 (flatP ps) = _
        unfold readC
        rw [if_neg (by decide), if_neg (by decide), if_pos rfl, up_flat, if_pos ⟨by rw [flatP_len]; omega, h.2.2⟩]
      · rename_i n3
        split at h
        · rename_i hk
          simp only [Bool.and_eq_true, decide_eq_true_iff] at h
          have h2 := nil0 is (by omega)
          have h3 := nil0 ps (by omega)
          have ht := bz_of h.1
          subst h2 h3 hk ht
          show readI1 52 (textsM (encT (vtexts _))) = _
          have e : vtexts ⟨4, bz, [], [], rs⟩ = texL rs := by simp [vtexts, flatP]
          rw [e, enc_all _ (texL_small s3)]
          show readC 52 (texL rs) = _
          unfold readC
          rw [if_neg (by decide), if_neg (by decide), if_neg (by decide), if_pos rfl, dec_texL rs (fun r hr => (s3 r hr).2)]
          have hr : rightB rs = true := by
            unfold rightB
            have hp : 1 ≤ rs.length := Nat.succ_le_of_lt (by have := h.2.2.1; simpa using this)
            rw [decide_eq_true hp, h.2.2.2]
            rfl
          show (if rightB rs = true then _ else _) = _
          rw [if_pos hr]
        · cases h

theorem back_wrong (v : Vl) (h : vokB v = false) : readI (vbytes v) = (vl0, false) := by
  unfold vbytes
  rw [h]
  rfl

theorem back_ok (v : Vl) : (readI (vbytes v)).2 = vokB v := by
  cases h : vokB v with
  | true => rw [back_right v h]
  | false => rw [back_wrong v h]

theorem read_bytes (l : List UInt8) (h : (readI l).2 = true) : vbytes (readI l).1 = l := by
  rw [← read_same] at h ⊢
  cases l with
  | nil => cases h
  | cons b l =>
    have e : readS (b :: l) = readS1 b (textsM l) := rfl
    rw [e] at h ⊢
    cases hm : textsM l with
    | none => rw [hm] at h; cases h
    | some q =>
      obtain ⟨ts, r⟩ := q
      rw [hm] at h
      have e2 : readS1 b (some (ts, r)) = if specOkB b ts = true ∧ encT (specTx b ts) = encT ts ++ r then (specV b ts, true) else (vl0, false) := rfl
      rw [e2] at h ⊢
      obtain ⟨hl, _, _⟩ := textsM_enc l.length l ts r (Nat.le_refl _) hm
      by_cases hc : specOkB b ts = true ∧ encT (specTx b ts) = encT ts ++ r
      · rw [if_pos hc]
        exact (spec_taken b l ts r hl).2 hc
      · rw [if_neg hc] at h
        cases h
end Go.Proofs.YtapdoechmnjaeaaGreatDoor
