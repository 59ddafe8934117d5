/- Plain mathematics: a line that was written is read back; cut anywhere, more is wanted. -/
import Derived.Test.YtcgeafdakaeicaaDoorTxRead
namespace Go.Proofs.YtcgeafdakaeicaaDoor.Bk
open Go.Lib
open Rp (Nd nd0 plainB numB fieldsB)

theorem dec_digits : ∀ (n : Nat), ∀ x ∈ Lib.decDigits n, x ≠ 13 := by
  intro n
  induction n using Nat.strongRecOn with
  | _ n ih =>
    intro x hx
    by_cases h10 : n < 10
    · rw [Lib.decDigits_one h10] at hx
      simp only [List.mem_singleton] at hx
      intro e
      have h2 := ofNat_dig n h10
      rw [← hx, e] at h2
      have h3 : (13 : UInt8).toNat = 13 := rfl
      omega
    · rw [dig_step n (by omega)] at hx
      rcases List.mem_append.1 hx with hx | hx
      · exact ih (n / 10) (by omega) x hx
      · simp only [List.mem_singleton] at hx
        intro e
        have h2 := ofNat_dig (n % 10) (by omega)
        rw [← hx, e] at h2
        have h3 : (13 : UInt8).toNat = 13 := rfl
        omega

theorem itoa_digits (v : Int) : ∀ x ∈ Lib.itoa v, x ≠ 13 := by
  intro x hx
  unfold Lib.itoa at hx
  split at hx
  · rcases List.mem_cons.1 hx with rfl | hx
    · decide
    · exact dec_digits _ x hx
  · exact dec_digits _ x hx

theorem index_line : ∀ (p rest : List UInt8), (∀ x ∈ p, x ≠ 13) → Lib.index (p ++ 13 :: 10 :: rest) [13, 10] = p.length
  | [], rest, _ => by
    show Lib.index (13 :: 10 :: rest) [13, 10] = 0
    unfold Lib.index
    simp [List.isPrefixOf]
  | b :: p, rest, h => by
    have hb : b ≠ 13 := h b (by simp)
    have ih := index_line p rest (fun x hx => h x (by simp [hx]))
    rw [List.cons_append]
    unfold Lib.index
    have hp : ([13, 10] : List UInt8).isPrefixOf (b :: (p ++ 13 :: 10 :: rest)) = false := by
      simp [List.isPrefixOf]
      intro e
      exact absurd e.symm hb
    rw [hp, ih]
    simp

theorem index_none : ∀ (p : List UInt8), (∀ x ∈ p, x ≠ 13) → ∀ q, q = [] ∨ q = [13] → Lib.index (p ++ q) [13, 10] = -1
  | [], _, q, hq => by
    rcases hq with rfl | rfl
    · rfl
    · simp [Lib.index, List.isPrefixOf]
  | b :: p, h, q, hq => by
    have hb : b ≠ 13 := h b (by simp)
    have ih := index_none p (fun x hx => h x (by simp [hx])) q hq
    rw [List.cons_append]
    unfold Lib.index
    have hp : ([13, 10] : List UInt8).isPrefixOf (b :: (p ++ q)) = false := by
      simp [List.isPrefixOf]
      intro e
      exact absurd e.symm hb
    rw [hp, ih]
    simp

theorem line_whole (p rest : List UInt8) (h : ∀ x ∈ p, x ≠ 13) : lineM (p ++ crlf ++ rest) = .inr p := by
  have e : p ++ crlf ++ rest = p ++ 13 :: 10 :: rest := by simp [crlf]
  rw [e]
  unfold lineM
  rw [index_line p rest h, if_pos (by omega)]
  simp

theorem line_cut (p rest : List UInt8) (h : ∀ x ∈ p, x ≠ 13) (k : Nat) (hk : k < p.length + 2) (hl : p.length ≤ 290) : lineM ((p ++ crlf ++ rest).take k) = .inl 1 := by
  have e : (p ++ crlf ++ rest).take k = p.take k ++ (if k = p.length + 1 then [13] else []) := by
    by_cases h1 : k ≤ p.length
    · rw [if_neg (by omega), List.append_assoc, List.take_append_of_le_length h1, List.append_nil]
    · have hk1 : k = p.length + 1 := by omega
      subst hk1
      have e0 : p.take (p.length + 1) = p := List.take_of_length_le (by omega)
      rw [if_pos rfl, List.append_assoc, List.take_length_add_append, e0]
      simp [crlf]
  have hm : ∀ x ∈ p.take k, x ≠ 13 := fun x hx => h x (List.mem_of_mem_take hx)
  have hi : Lib.index (p.take k ++ (if k = p.length + 1 then [13] else [])) [13, 10] = -1 := index_none _ hm _ (by split <;> simp)
  have hlen : (p.take k ++ (if k = p.length + 1 then [13] else [])).length ≤ 300 := by
    rw [List.length_append, List.length_take]
    split <;> simp <;> omega
  unfold lineM
  rw [e, hi, if_neg (by omega), if_neg (by omega)]

theorem count_dec (n : Nat) (most : Int) (h : (n : Int) ≤ most) (hn : n ≤ 1048576) : countM (Lib.decDigits n) most = some n := by
  have e := decM_itoa (n : Int) (decide_eq_true (by omega))
  rw [itoa_nat] at e
  unfold countM
  rw [e]
  show (if _ then _ else _) = _
  rw [if_pos ⟨by omega, h⟩]
  simp

theorem some_whole (t rest : List UInt8) : someM (t ++ crlf ++ rest) t.length = .inr t := by
  unfold someM
  rw [if_neg (by simp [crlf])]
  have e : (List.drop t.length (t ++ crlf ++ rest)).take 2 = [13, 10] := by simp [crlf]
  rw [if_pos e]
  simp

theorem some_cut (t rest : List UInt8) (k : Nat) (h : k < t.length + 2) : someM ((t ++ crlf ++ rest).take k) t.length = .inl 1 := by
  unfold someM
  rw [if_pos (by rw [List.length_take]; omega)]

theorem take_past (p q : List UInt8) (k : Nat) (h : p.length ≤ k) : (p ++ q).take k = p ++ q.take (k - p.length) := by
  rw [List.take_append, List.take_of_length_le h]

/-- A line is read whole: its node comes of what stands behind it. -/
theorem reply_line (d i : Nat) (b : UInt8) (r Y : List UInt8) (h : ∀ x ∈ b :: r, x ≠ 13) : replyM (d + 1) ((b :: r) ++ crlf ++ Y) i = endM i (r.length + 3) (nodeM (replyM d) b r Y i) := by
  rw [reply_node (line_whole (b :: r) Y h)]
  have e : ((b :: r) ++ crlf ++ Y).drop (r.length + 3) = Y := by
    rw [show r.length + 3 = ((b :: r) ++ crlf).length from by simp [crlf], List.drop_left]
  rw [e]

/-- Cut within its line, more is wanted; cut behind it, its node is cut. -/
theorem reply_cut (d i : Nat) (b : UInt8) (r Y : List UInt8) (k : Nat) (h : ∀ x ∈ b :: r, x ≠ 13) (hl : r.length ≤ 280) (hn : ∀ j, j + (r.length + 3) = k → nodeM (replyM d) b r (Y.take j) i = .inl 1) : replyM (d + 1) (((b :: r) ++ crlf ++ Y).take k) i = .inl 1 := by
  by_cases hk : k < r.length + 3
  · exact reply_inl (line_cut (b :: r) Y h k (by simp; omega) (by simp; omega))
  · have hp : ((b :: r) ++ crlf).length = r.length + 3 := by simp [crlf]
    rw [take_past _ _ k (by omega), hp, reply_line d i b r _ h, hn _ (by omega)]
    rfl

/-- A right node that has no kids: its own text is a line and what belongs to it. -/
structure LeafLine (x : Nd) (b : UInt8) (r Y : List UInt8) : Prop where
  text : Rp.ownText x = (b :: r) ++ crlf ++ Y
  plain : ∀ z ∈ b :: r, z ≠ 13
  len : r.length ≤ 280
  read : ∀ (f : List UInt8 → Nat → Rep) (rest : List UInt8) (i : Nat), nodeM f b r (Y ++ rest) i = .inr ([], x, Y.length)
  cut : ∀ (f : List UInt8 → Nat → Rep) (rest : List UInt8) (i k : Nat), k < Y.length → nodeM f b r ((Y ++ rest).take k) i = .inl 1

theorem kids_none {x : Nd} (h : x.kids.length = 0) : x.kids = [] := List.eq_nil_of_length_eq_zero h

theorem str_none {s : ByteArray} (h : s.size = 0) : s = ⟨#[]⟩ := by
  have : s.data.toList = [] := List.eq_nil_of_length_eq_zero (by rw [← Lib.size_eq]; exact h)
  exact str_of s [] this

theorem plain_no13 {s : ByteArray} (h : plainB s = true) : s.size ≤ 200 ∧ ∀ z ∈ s.data.toList, z ≠ 13 := by
  unfold plainB at h
  rw [Bool.and_eq_true, decide_eq_true_iff, List.all_eq_true] at h
  refine ⟨h.1, fun z hz e => ?_⟩
  have := h.2 z hz
  subst e
  revert this
  decide

theorem leaf_line (x : Nd) (hf : fieldsB x = true) (h6 : x.kind ≠ 6) : x.kids = [] ∧ ∃ b r Y, LeafLine x b r Y := by
  obtain ⟨kind, num, s, kids⟩ := x
  have hsz : s.data.toList.length = s.size := (Lib.size_eq s).symm
  have hss : (⟨s.data.toList.toArray⟩ : ByteArray) = s := (str_of s _ rfl).symm
  by_cases k1 : kind = 1
  · subst k1
    rw [Rp.fields_text _ (.inl rfl)] at hf
    simp only [Bool.and_eq_true, decide_eq_true_iff] at hf
    obtain ⟨⟨h1, h2⟩, h3⟩ := hf
    have hk := List.eq_nil_of_length_eq_zero h3
    subst h1 hk
    obtain ⟨q1, q2⟩ := plain_no13 h2
    refine ⟨rfl, 43, s.data.toList, [], ?_, ?_, by omega, ?_, ?_⟩
    · simp [Rp.ownText]
    · intro z hz
      rcases List.mem_cons.1 hz with rfl | hz
      · decide
      · exact q2 z hz
    · intro f rest i
      unfold nodeM
      rw [if_pos rfl, hss, if_pos h2]
      rfl
    · intro f rest i k hk
      simp at hk
  by_cases k2 : kind = 2
  · subst k2
    rw [Rp.fields_text _ (.inr rfl)] at hf
    simp only [Bool.and_eq_true, decide_eq_true_iff] at hf
    obtain ⟨⟨h1, h2⟩, h3⟩ := hf
    have hk := List.eq_nil_of_length_eq_zero h3
    subst h1 hk
    obtain ⟨q1, q2⟩ := plain_no13 h2
    refine ⟨rfl, 45, s.data.toList, [], ?_, ?_, by omega, ?_, ?_⟩
    · simp [Rp.ownText]
    · intro z hz
      rcases List.mem_cons.1 hz with rfl | hz
      · decide
      · exact q2 z hz
    · intro f rest i
      unfold nodeM
      rw [if_neg (by decide), if_pos rfl, hss, if_pos h2]
      rfl
    · intro f rest i k hk
      simp at hk
  by_cases k3 : kind = 3
  · subst k3
    rw [Rp.fields_int _ rfl] at hf
    simp only [Bool.and_eq_true, decide_eq_true_iff] at hf
    obtain ⟨⟨h1, h2⟩, h3⟩ := hf
    have hk := List.eq_nil_of_length_eq_zero h3
    have hs0 := str_none h2
    subst hk hs0
    have hd := decM_itoa num (by simpa [inNum, numB, Rp.inB] using h1)
    have hl := Rp.itoa_len num h1
    refine ⟨rfl, 58, Lib.itoa num, [], ?_, ?_, by omega, ?_, ?_⟩
    · simp [Rp.ownText]
    · intro z hz
      rcases List.mem_cons.1 hz with rfl | hz
      · decide
      · exact itoa_digits num z hz
    · intro f rest i
      unfold nodeM
      rw [if_neg (by decide), if_neg (by decide), if_pos rfl, hd]
      rfl
    · intro f rest i k hk
      simp at hk
  by_cases k4 : kind = 4
  · subst k4
    rw [Rp.fields_bulk _ rfl] at hf
    simp only [Bool.and_eq_true, decide_eq_true_iff] at hf
    obtain ⟨⟨h1, h2⟩, h3⟩ := hf
    have hk := List.eq_nil_of_length_eq_zero h3
    subst h1 hk
    have h2' : s.size ≤ 200 := h2
    have hc := count_dec s.size 200 (by omega) (by omega)
    have hl := dec_len_le s.size (by omega)
    have hne : Lib.decDigits s.size ≠ [45, 49] := by
      obtain ⟨c, r, e1, e2, _⟩ := dec_head' s.size
      rw [e1]
      intro e
      injection e with e _
      subst e
      revert e2
      decide
    refine ⟨rfl, 36, Lib.decDigits s.size, s.data.toList ++ crlf, ?_, ?_, by omega, ?_, ?_⟩
    · simp [Rp.ownText, bulkText]
    · intro z hz
      rcases List.mem_cons.1 hz with rfl | hz
      · decide
      · exact dec_digits _ z hz
    · intro f rest i
      have hw := some_whole s.data.toList rest
      rw [hsz] at hw
      unfold nodeM
      rw [if_neg (by decide), if_neg (by decide), if_neg (by decide), if_pos rfl, if_neg hne, hc]
      simp only
      rw [hw]
      simp [hss, crlf, hsz]
    · intro f rest i k hk
      have hw := some_cut s.data.toList rest k (by simpa [crlf] using hk)
      rw [hsz] at hw
      unfold nodeM
      rw [if_neg (by decide), if_neg (by decide), if_neg (by decide), if_pos rfl, if_neg hne, hc]
      simp only
      rw [hw]
  by_cases k5 : kind = 5
  · subst k5
    rw [Rp.fields_null _ rfl] at hf
    simp only [Bool.and_eq_true, decide_eq_true_iff] at hf
    obtain ⟨⟨h1, h2⟩, h3⟩ := hf
    have hk := List.eq_nil_of_length_eq_zero h3
    have hs0 := str_none h2
    subst h1 hk hs0
    refine ⟨rfl, 36, [45, 49], [], ?_, ?_, by simp, ?_, ?_⟩
    · simp [Rp.ownText, crlf]
    · decide
    · intro f rest i
      unfold nodeM
      rw [if_neg (by decide), if_neg (by decide), if_neg (by decide), if_pos rfl, if_pos rfl]
      rfl
    · intro f rest i k hk
      simp at hk
  · exact absurd hf (by rw [Rp.fields_else _ k1 k2 k3 k4 k5 h6]; decide)
end Go.Proofs.YtcgeafdakaeicaaDoor.Bk
