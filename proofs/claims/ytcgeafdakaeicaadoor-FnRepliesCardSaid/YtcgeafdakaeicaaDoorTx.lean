/- Plain mathematics: the text of the nodes that were read is the bytes that were used. Plain mathematics: the text of the nodes that were read is the bytes that were used, whole. -/
import Derived.Test.YtcgeafdakaeicaaDoorRrMath
import Derived.Test.YtcgeafdakaeicaaDoorRpT
namespace Go.Proofs.YtcgeafdakaeicaaDoor
open Go.Lib
open Rp (Nd nd0 plainB numB fieldsB)

theorem index_at : ∀ (l : List UInt8), 0 ≤ Lib.index l [13, 10] → l = l.take (Lib.index l [13, 10]).toNat ++ [13, 10] ++ l.drop ((Lib.index l [13, 10]).toNat + 2)
  | [], h => by simp [Lib.index] at h
  | b :: l, h => by
    unfold Lib.index at h ⊢
    by_cases hp : List.isPrefixOf [13, 10] (b :: l) = true
    · rw [if_pos hp]
      cases l with
      | nil => simp [List.isPrefixOf] at hp
      | cons c l =>
        simp [List.isPrefixOf] at hp
        obtain ⟨rfl, rfl⟩ := hp
        simp
    · rw [if_neg hp] at h ⊢
      by_cases hi : (Lib.index l [13, 10] == -1) = true
      · rw [if_pos hi] at h; omega
      · rw [if_neg hi] at h ⊢
        have hge : -1 ≤ Lib.index l [13, 10] := by
          clear h hi hp
          induction l with
          | nil => simp [Lib.index]
          | cons c l ih => unfold Lib.index; split <;> (try split) <;> omega
        have hne : Lib.index l [13, 10] ≠ -1 := by simpa using hi
        have ih := index_at l (by omega)
        obtain ⟨k, hk⟩ := Int.eq_ofNat_of_zero_le (show 0 ≤ Lib.index l [13, 10] by omega)
        rw [hk] at ih ⊢
        rw [show ((k : Int) + 1).toNat = k + 1 from by omega]
        simp only [Int.toNat_natCast] at ih
        rw [List.take_succ_cons, show k + 1 + 2 = (k + 2) + 1 from by omega, List.drop_succ_cons, List.cons_append, List.cons_append, ← ih]

theorem line_split {l t : List UInt8} (h : lineM l = .inr t) : l = t ++ [13, 10] ++ l.drop (t.length + 2) := by
  unfold lineM at h
  split at h
  · rename_i hi
    injection h with h
    have hs := index_at l hi
    have hf := index_fits l hi
    have hl : t.length = (Lib.index l [13, 10]).toNat := by rw [← h, List.length_take]; omega
    rw [hl, ← h]
    exact hs
  · split at h <;> cases h

theorem some_split {l t : List UInt8} {n : Nat} (h : someM l n = .inr t) : t.length = n ∧ l = t ++ [13, 10] ++ l.drop (n + 2) := by
  unfold someM at h
  split at h
  · cases h
  · split at h
    · rename_i hlen hc
      injection h with h
      subst h
      refine ⟨by rw [List.length_take]; omega, ?_⟩
      rw [← hc, ← List.drop_drop, List.append_assoc, List.take_append_drop, List.take_append_drop]
    · cases h

theorem dec_itoa {l : List UInt8} {v : Int} (h : decM l = some v) : Lib.itoa v = l := by
  unfold decM at h
  split at h
  · split at h
    · rename_i hin
      injection h with h
      subst h
      exact hin.2
    · cases h
  · cases h

theorem count_itoa {l : List UInt8} {most : Int} {n : Nat} (h : countM l most = some n) : Lib.itoa (n : Int) = l := by
  unfold countM at h
  obtain ⟨v, hv, hk⟩ := Option.bind_eq_some_iff.1 h
  split at hk
  · injection hk with hk
    rw [← hk, show ((v.toNat : Nat) : Int) = v from by omega]
    exact dec_itoa hv
  · cases hk
end Go.Proofs.YtcgeafdakaeicaaDoor

namespace Go.Proofs.YtcgeafdakaeicaaDoor
open Go.Lib
open Rp (Nd nd0 plainB numB fieldsB)

def TextOne (i : Nat) (ns : List Nd) (l : List UInt8) (u : Nat) : Prop := 1 ≤ ns.length ∧ u ≤ l.length ∧ ∀ (A rest : List Nd), A.length = i → Rp.text (A ++ (ns ++ rest)) (i + ns.length - 1) = l.take u
def TextMany (i : Nat) (ms : List Nd) (ks : List Int) (l : List UInt8) (v : Nat) : Prop := v ≤ l.length ∧ (∀ k ∈ ks, (i : Int) ≤ k ∧ k < ((i + ms.length : Nat) : Int)) ∧ ∀ (A rest : List Nd), A.length = i → ks.flatMap (fun k => Rp.text (A ++ (ms ++ rest)) k.toNat) = l.take v

theorem take_two (l : List UInt8) (u v : Nat) : l.take u ++ (l.drop u).take v = l.take (u + v) := by
  rw [List.take_add]

theorem text_many {f : List UInt8 → Nat → Rep} (hf : ∀ l i ns u, f l i = .inr (ns, u) → TextOne i ns l u) : ∀ (n : Nat) (l : List UInt8) (i : Nat) (ms : List Nd) (ks : List Int) (v : Nat), kidsM f n l i = .inr (ms, ks, v) → TextMany i ms ks l v
  | 0, l, i, ms, ks, v, h => by
    simp only [kidsM] at h
    injection h with h
    injection h with h1 h2
    injection h2 with h2 h3
    subst h1 h2 h3
    exact ⟨by omega, by simp, fun A rest _ => by simp⟩
  | n + 1, l, i, ms, ks, v, h => by
    cases hq : f l i with
    | inl c => rw [kidsM_inl hq] at h; cases h
    | inr q =>
      obtain ⟨ns, u⟩ := q
      rw [kidsM_inr hq] at h
      cases hk : kidsM f n (l.drop u) (i + ns.length) with
      | inl c => rw [hk] at h; cases h
      | inr q =>
        obtain ⟨ms', ks', v'⟩ := q
        rw [hk] at h
        simp only [preK] at h
        injection h with h
        injection h with h1 h2
        injection h2 with h2 h3
        subst h1 h2 h3
        obtain ⟨a1, a2, a3⟩ := hf _ _ _ _ hq
        obtain ⟨b1, b2, b3⟩ := text_many hf n _ _ _ _ _ hk
        rw [List.length_drop] at b1
        refine ⟨by omega, ?_, fun A rest hA => ?_⟩
        · intro k hk'
          rw [List.singleton_append] at hk'
          rw [List.length_append]
          rcases List.mem_cons.1 hk' with rfl | hk'
          · omega
          · have := b2 k hk'
            omega
        · rw [List.singleton_append, List.flatMap_cons]
          have e1 := a3 A (ms' ++ rest) hA
          have e2 := b3 (A ++ ns) rest (by rw [List.length_append, hA])
          rw [show A ++ ((ns ++ ms') ++ rest) = A ++ (ns ++ (ms' ++ rest)) from by simp]
          rw [show (((i + ns.length : Nat) : Int) - 1).toNat = i + ns.length - 1 from by omega, e1]
          rw [show A ++ (ns ++ (ms' ++ rest)) = (A ++ ns) ++ (ms' ++ rest) from by simp, e2, take_two]

theorem kids_len {f : List UInt8 → Nat → Rep} : ∀ (n : Nat) (l : List UInt8) (i : Nat) (ms : List Nd) (ks : List Int) (v : Nat), kidsM f n l i = .inr (ms, ks, v) → ks.length = n
  | 0, l, i, ms, ks, v, h => by
    simp only [kidsM] at h
    injection h with h
    injection h with h1 h2
    injection h2 with h2 h3
    subst h2
    rfl
  | n + 1, l, i, ms, ks, v, h => by
    cases hq : f l i with
    | inl c => rw [kidsM_inl hq] at h; cases h
    | inr q =>
      obtain ⟨ns, u⟩ := q
      rw [kidsM_inr hq] at h
      cases hk : kidsM f n (l.drop u) (i + ns.length) with
      | inl c => rw [hk] at h; cases h
      | inr q =>
        obtain ⟨ms', ks', v'⟩ := q
        rw [hk] at h
        simp only [preK] at h
        injection h with h
        injection h with h1 h2
        injection h2 with h2 h3
        subst h2
        simp [kids_len n _ _ _ _ _ hk]

theorem itoa_nat (n : Nat) : Lib.itoa (n : Int) = Lib.decDigits n := by
  unfold Lib.itoa
  rw [if_neg (by omega)]
  simp

theorem line_take {l t : List UInt8} (h : lineM l = .inr t) : l.take (t.length + 2) = t ++ [13, 10] ∧ t.length + 2 ≤ l.length := by
  have hs := line_split h
  have hl := congrArg List.length hs
  rw [List.length_append, List.length_append] at hl
  simp at hl
  refine ⟨?_, by omega⟩
  conv => lhs; rw [hs]
  rw [show t.length + 2 = (t ++ [13, 10]).length from by simp, List.take_left]

theorem text_leaf (A rest : List Nd) (x : Nd) (i : Nat) (hA : A.length = i) (hk : x.kids = []) : Rp.text (A ++ ([x] ++ rest)) (i + [x].length - 1) = Rp.ownText x := by
  have hg : (A ++ ([x] ++ rest)).getD i nd0 = x := by
    rw [List.getD_eq_getElem?_getD, List.getElem?_append_right (by omega), hA, Nat.sub_self]; rfl
  have hK : Rp.kidsOf (A ++ ([x] ++ rest)) i = [] := by unfold Rp.kidsOf; rw [hg, hk]
  rw [show i + [x].length - 1 = i from by simp, Rp.text_eq _ _ (by rw [hK]; simp), hK, hg]
  simp

theorem reply_text : ∀ (d : Nat) (l : List UInt8) (i : Nat) (ns : List Nd) (u : Nat), replyM d l i = .inr (ns, u) → TextOne i ns l u := by
  intro d
  induction d with
  | zero =>
    intro l i ns u h
    rw [replyM_eq] at h
    split at h <;> cases h
  | succ d ih =>
    intro l i ns u h
    cases hl : lineM l with
    | inl c => rw [reply_inl hl] at h; cases h
    | inr t =>
      cases t with
      | nil => rw [reply_nil hl] at h; cases h
      | cons b r =>
        rw [reply_node hl] at h
        obtain ⟨lt1, lt2⟩ := line_take hl
        have e3 : (b :: r).length + 2 = r.length + 3 := by simp
        rw [e3] at lt1 lt2
        cases hn : nodeM (replyM d) b r (l.drop (r.length + 3)) i with
        | inl c => rw [hn] at h; cases h
        | inr q =>
          obtain ⟨ms, x, v⟩ := q
          rw [hn] at h
          have h' : (if i + ms.length = 1000 then (.inl 2 : Rep) else .inr (ms ++ [x], r.length + 3 + v)) = .inr (ns, u) := h
          by_cases h1 : i + ms.length = 1000
          · rw [if_pos h1] at h'; cases h'
          · rw [if_neg h1] at h'
            injection h' with h'
            injection h' with h2 h3
            subst h2 h3
            have leaf : ms = [] → x.kids = [] → v ≤ (l.drop (r.length + 3)).length → Rp.ownText x = (b :: r) ++ [13, 10] ++ (l.drop (r.length + 3)).take v → TextOne i (ms ++ [x]) l (r.length + 3 + v) := fun e1 e2 e3 e4 => by
              subst e1
              rw [List.length_drop] at e3
              refine ⟨by simp, by omega, fun A rest hA => ?_⟩
              rw [List.nil_append, text_leaf A rest x i hA e2, e4, ← lt1, take_two]
            unfold nodeM at hn
            split at hn
            · rename_i hb
              split at hn
              · cases hn
                exact leaf rfl rfl (by omega) (by simp [Rp.ownText, crlf, hb])
              · cases hn
            split at hn
            · rename_i hb
              split at hn
              · cases hn
                exact leaf rfl rfl (by omega) (by simp [Rp.ownText, crlf, hb])
              · cases hn
            split at hn
            · rename_i hb
              split at hn
              · rename_i v' hv
                cases hn
                exact leaf rfl rfl (by omega) (by simp [Rp.ownText, crlf, hb, dec_itoa hv])
              · cases hn
            split at hn
            · rename_i hb
              split at hn
              · rename_i hr
                cases hn
                exact leaf rfl rfl (by omega) (by simp [Rp.ownText, hb, hr])
              · split at hn
                · cases hn
                · rename_i n hc
                  split at hn
                  · cases hn
                  · rename_i t ht
                    obtain ⟨q1, q2⟩ := some_split ht
                    have q3 := congrArg List.length q2
                    rw [List.length_append, List.length_append] at q3
                    simp at q3
                    have hi := count_itoa hc
                    rw [itoa_nat] at hi
                    cases hn
                    refine leaf rfl rfl (by rw [List.length_drop]; omega) ?_
                    have ht2 : (l.drop (r.length + 3)).take (n + 2) = t ++ [13, 10] := by
                      conv => lhs; rw [q2]
                      rw [show n + 2 = (t ++ [13, 10]).length from by simp [q1], List.take_left]
                    rw [ht2]
                    simp [Rp.ownText, bulkText, crlf, hb, ByteArray.size, q1, hi]
            split at hn
            · rename_i hb
              split at hn
              · cases hn
              · rename_i n hc
                split at hn
                · cases hn
                · rename_i ms' ks v' hk
                  have hi := count_itoa hc
                  rw [itoa_nat] at hi
                  have hkl := kids_len n _ _ _ _ _ hk
                  obtain ⟨b1, b2, b3⟩ := text_many ih n _ _ _ _ _ hk
                  cases hn
                  rw [List.length_drop] at b1
                  refine ⟨by simp, by omega, fun A rest hA => ?_⟩
                  obtain ⟨x, hx⟩ : ∃ x : Nd, x = ⟨6, 0, ⟨#[]⟩, ks⟩ := ⟨_, rfl⟩
                  rw [← hx]
                  have hg : (A ++ ((ms ++ [x]) ++ rest)).getD (i + ms.length) nd0 = x := by
                    rw [List.getD_eq_getElem?_getD, List.getElem?_append_right (by omega), show i + ms.length - A.length = ms.length from by omega, List.append_assoc, List.getElem?_append_right (by omega), Nat.sub_self]; rfl
                  have hK : Rp.kidsOf (A ++ ((ms ++ [x]) ++ rest)) (i + ms.length) = ks := by unfold Rp.kidsOf; rw [hg, hx]
                  rw [show i + (ms ++ [x]).length - 1 = i + ms.length from by simp]
                  rw [Rp.text_eq _ _ (by rw [hK]; intro k hk'; have := b2 k hk'; omega), hK, hg]
                  have e := b3 A ([x] ++ rest) hA
                  rw [show A ++ ((ms ++ [x]) ++ rest) = A ++ (ms ++ ([x] ++ rest)) from by simp, e]
                  rw [show Rp.ownText x = (b :: r) ++ [13, 10] from by rw [hx]; simp [Rp.ownText, headText, crlf, hb, hkl, hi], ← lt1, take_two]
            · cases hn
end Go.Proofs.YtcgeafdakaeicaaDoor
