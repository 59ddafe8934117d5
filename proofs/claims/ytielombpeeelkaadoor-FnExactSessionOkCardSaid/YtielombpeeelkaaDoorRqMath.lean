/- What is written is read back; cut anywhere, more is wanted. -/
import Derived.Test.YtielombpeeelkaaDoorRqLaw
namespace Go.Proofs.YtielombpeeelkaaDoor
open Go.RowKit Go.Sort

theorem dec_digits : ∀ (n : Nat), ∀ x ∈ Lib.decDigits n, x ≠ 13 := by
  intro n
  induction n using Nat.strongRecOn with
  | _ n ih =>
    intro x hx
    by_cases h10 : n < 10
    · rw [Lib.decDigits_one h10] at hx
      simp only [List.mem_singleton] at hx
      intro e
      have h2 := ofNat_dig n h10
      rw [← hx, e] at h2
      have h3 : (13 : UInt8).toNat = 13 := rfl
      omega
    · rw [dig_step n (by omega)] at hx
      rcases List.mem_append.1 hx with hx | hx
      · exact ih (n / 10) (by omega) x hx
      · simp only [List.mem_singleton] at hx
        intro e
        have h2 := ofNat_dig (n % 10) (by omega)
        rw [← hx, e] at h2
        have h3 : (13 : UInt8).toNat = 13 := rfl
        omega

theorem index_line : ∀ (p rest : List UInt8), (∀ x ∈ p, x ≠ 13) → Lib.index (p ++ 13 :: 10 :: rest) [13, 10] = p.length
  | [], rest, _ => by
    show Lib.index (13 :: 10 :: rest) [13, 10] = 0
    unfold Lib.index
    simp [List.isPrefixOf]
  | b :: p, rest, h => by
    have hb : b ≠ 13 := h b (by simp)
    have ih := index_line p rest (fun x hx => h x (by simp [hx]))
    rw [List.cons_append]
    unfold Lib.index
    have hp : ([13, 10] : List UInt8).isPrefixOf (b :: (p ++ 13 :: 10 :: rest)) = false := by
      simp [List.isPrefixOf]
      intro e
      exact absurd e.symm hb
    rw [hp, ih]
    simp

theorem index_none : ∀ (p : List UInt8), (∀ x ∈ p, x ≠ 13) → ∀ q, q = [] ∨ q = [13] → Lib.index (p ++ q) [13, 10] = -1
  | [], _, q, hq => by
    rcases hq with rfl | rfl
    · rfl
    · simp [Lib.index, List.isPrefixOf]
  | b :: p, h, q, hq => by
    have hb : b ≠ 13 := h b (by simp)
    have ih := index_none p (fun x hx => h x (by simp [hx])) q hq
    rw [List.cons_append]
    unfold Lib.index
    have hp : ([13, 10] : List UInt8).isPrefixOf (b :: (p ++ q)) = false := by
      simp [List.isPrefixOf]
      intro e
      exact absurd e.symm hb
    rw [hp, ih]
    simp

theorem line_whole (p rest : List UInt8) (h : ∀ x ∈ p, x ≠ 13) : lineM (p ++ crlf ++ rest) = .inr p := by
  have e : p ++ crlf ++ rest = p ++ 13 :: 10 :: rest := by simp [crlf]
  rw [e]
  unfold lineM
  rw [index_line p rest h, if_pos (by omega)]
  simp

theorem line_cut (p rest : List UInt8) (h : ∀ x ∈ p, x ≠ 13) (k : Nat) (hk : k < p.length + 2) (hl : p.length ≤ 200) : lineM ((p ++ crlf ++ rest).take k) = .inl 1 := by
  have e : (p ++ crlf ++ rest).take k = p.take k ++ (if k = p.length + 1 then [13] else []) := by
    by_cases h1 : k ≤ p.length
    · rw [if_neg (by omega), List.append_assoc, List.take_append_of_le_length h1, List.append_nil]
    · have hk1 : k = p.length + 1 := by omega
      subst hk1
      have e0 : p.take (p.length + 1) = p := List.take_of_length_le (by omega)
      rw [if_pos rfl, List.append_assoc, List.take_length_add_append, e0]
      simp [crlf]
  have hm : ∀ x ∈ p.take k, x ≠ 13 := fun x hx => h x (List.mem_of_mem_take hx)
  have hi : Lib.index (p.take k ++ (if k = p.length + 1 then [13] else [])) [13, 10] = -1 := index_none _ hm _ (by split <;> simp)
  have hlen : (p.take k ++ (if k = p.length + 1 then [13] else [])).length ≤ 300 := by
    rw [List.length_append, List.length_take]
    split <;> simp <;> omega
  unfold lineM
  rw [e, hi, if_neg (by omega), if_neg (by omega)]

theorem dec_le20 (n : Nat) (h : n ≤ 2097152) : (Lib.decDigits n).length ≤ 20 := dec_len_le n h

theorem count_dec (n : Nat) (most : Int) (h : (n : Int) ≤ most) (hn : n ≤ 2097152) : countM (Lib.decDigits n) most = some n := by
  have e := decM_itoa (n : Int) (decide_eq_true (by omega))
  rw [Lib.itoa_nonneg] at e
  unfold countM
  rw [e]
  show (if _ then _ else _) = _
  rw [if_pos ⟨by omega, h⟩]
  simp

theorem marked_whole (mark : UInt8) (n : Nat) (most : Int) (rest : List UInt8) (hm : mark ≠ 13) (h : (n : Int) ≤ most) (hn : n ≤ 2097152) :
    markedM ([mark] ++ Lib.decDigits n ++ crlf ++ rest) mark most = .inr (n, (Lib.decDigits n).length + 3) := by
  have hl := line_whole ([mark] ++ Lib.decDigits n) rest (fun x hx => by
    rcases List.mem_append.1 hx with hx | hx
    · simp at hx; rw [hx]; exact hm
    · exact dec_digits n x hx)
  have e : [mark] ++ Lib.decDigits n = mark :: Lib.decDigits n := rfl
  unfold markedM
  rw [hl, e]
  show (if mark = mark then _ else _) = _
  rw [if_pos rfl, count_dec n most h hn]

theorem marked_cut (mark : UInt8) (n : Nat) (most : Int) (rest : List UInt8) (k : Nat) (hm : mark ≠ 13) (hn : n ≤ 2097152) (hk : k < (Lib.decDigits n).length + 3) :
    markedM (([mark] ++ Lib.decDigits n ++ crlf ++ rest).take k) mark most = .inl 1 := by
  have hd := dec_le20 n hn
  have hl := line_cut ([mark] ++ Lib.decDigits n) rest (fun x hx => by
    rcases List.mem_append.1 hx with hx | hx
    · simp at hx; rw [hx]; exact hm
    · exact dec_digits n x hx) k (by simp; omega) (by simp; omega)
  unfold markedM
  rw [hl]

theorem some_whole (t rest : List UInt8) : someM (t ++ crlf ++ rest) t.length = .inr t := by
  unfold someM
  rw [if_neg (by simp [crlf])]
  have e : (List.drop t.length (t ++ crlf ++ rest)).take 2 = [13, 10] := by simp [crlf]
  rw [if_pos e]
  simp

theorem some_cut (t rest : List UInt8) (k : Nat) (h : k < t.length + 2) : someM ((t ++ crlf ++ rest).take k) t.length = .inl 1 := by
  unfold someM
  rw [if_pos (by rw [List.length_take]; omega)]

theorem take_past (p q : List UInt8) (k : Nat) (h : p.length ≤ k) : (p ++ q).take k = p ++ q.take (k - p.length) := by
  rw [List.take_append, List.take_of_length_le h]

theorem body_cons (s : ByteArray) (ss : List ByteArray) : bodyText (s :: ss) = bulkText s ++ bodyText ss := rfl

theorem bulk_read (s : ByteArray) (rest : List UInt8) (k : Nat) (h : s.size ≤ 200) :
    bulksM (k + 1) (bulkText s ++ rest) = match bulksM k rest with | .inl c => .inl c | .inr (ts, v) => .inr (s.data.toList :: ts, (bulkText s).length + v) := by
  have hsz : s.data.toList.length = s.size := (Lib.size_eq s).symm
  have e1 : bulkText s ++ rest = [36] ++ Lib.decDigits s.size ++ crlf ++ (s.data.toList ++ crlf ++ rest) := by simp [bulkText]
  have e2 : (bulkText s ++ rest).drop ((Lib.decDigits s.size).length + 3) = s.data.toList ++ crlf ++ rest := by
    rw [e1, List.drop_append_of_le_length (by simp [crlf])]
    rw [List.drop_eq_nil_of_le (by simp [crlf]), List.nil_append]
  have e3 : (bulkText s ++ rest).drop ((Lib.decDigits s.size).length + 3 + s.size + 2) = rest := by
    have : (bulkText s).length = (Lib.decDigits s.size).length + 3 + s.size + 2 := by simp [bulkText, crlf]; omega
    rw [← this]
    simp
  have hm := marked_whole 36 s.size 200 (s.data.toList ++ crlf ++ rest) (by decide) (by omega) (by omega)
  rw [← e1] at hm
  have hs := some_whole s.data.toList rest
  rw [hsz] at hs
  rw [bulksM, hm]
  simp only
  rw [e2, hs]
  simp only
  rw [e3]
  have hlen : (bulkText s).length = (Lib.decDigits s.size).length + 3 + s.size + 2 := by simp [bulkText, crlf]; omega
  cases bulksM k rest with
  | inl c => rfl
  | inr q =>
    obtain ⟨ts, v⟩ := q
    simp only
    rw [hlen]

theorem bulk_cut (s : ByteArray) (rest : List UInt8) (k j : Nat) (h : s.size ≤ 200) (hj : j < (bulkText s).length) : bulksM (k + 1) ((bulkText s ++ rest).take j) = .inl 1 := by
  have hsz : s.data.toList.length = s.size := (Lib.size_eq s).symm
  have e1 : bulkText s ++ rest = [36] ++ Lib.decDigits s.size ++ crlf ++ (s.data.toList ++ crlf ++ rest) := by simp [bulkText]
  have hlen : (bulkText s).length = (Lib.decDigits s.size).length + 3 + s.size + 2 := by simp [bulkText, crlf]; omega
  rw [bulksM, e1]
  by_cases hk : j < (Lib.decDigits s.size).length + 3
  · rw [marked_cut 36 s.size 200 _ j (by decide) (by omega) hk]
  · have hp : ([36] ++ Lib.decDigits s.size ++ crlf).length = (Lib.decDigits s.size).length + 3 := by simp [crlf]
    rw [take_past _ _ j (by rw [hp]; omega), marked_whole 36 s.size 200 _ (by decide) (by omega) (by omega)]
    simp only
    have e2 : (([36] : List UInt8) ++ Lib.decDigits s.size ++ crlf ++ (s.data.toList ++ crlf ++ rest).take (j - ([36] ++ Lib.decDigits s.size ++ crlf).length)).drop ((Lib.decDigits s.size).length + 3) = (s.data.toList ++ crlf ++ rest).take (j - ([36] ++ Lib.decDigits s.size ++ crlf).length) := by
      rw [← hp]; simp
    have hc := some_cut s.data.toList rest (j - ([36] ++ Lib.decDigits s.size ++ crlf).length) (by rw [hp, hsz]; omega)
    rw [hsz] at hc
    rw [e2, hc]

theorem body_read : ∀ (ss : List ByteArray) (rest : List UInt8), (∀ s ∈ ss, s.size ≤ 200) → bulksM ss.length (bodyText ss ++ rest) = .inr (ss.map (fun s => s.data.toList), (bodyText ss).length)
  | [], rest, _ => by simp [bulksM, bodyText]
  | s :: ss, rest, h => by
    have ih := body_read ss rest (fun x hx => h x (by simp [hx]))
    rw [body_cons, List.append_assoc, List.length_cons, bulk_read s _ _ (h s (by simp)), ih]
    simp

theorem body_cut : ∀ (ss : List ByteArray) (rest : List UInt8) (j : Nat), (∀ s ∈ ss, s.size ≤ 200) → j < (bodyText ss).length → bulksM ss.length ((bodyText ss ++ rest).take j) = .inl 1
  | [], rest, j, _, hj => by simp [bodyText] at hj
  | s :: ss, rest, j, h, hj => by
    rw [body_cons, List.length_append] at hj
    rw [body_cons, List.append_assoc, List.length_cons]
    by_cases hk : j < (bulkText s).length
    · exact bulk_cut s _ _ j (h s (by simp)) hk
    · rw [take_past _ _ j (by omega), bulk_read s _ _ (h s (by simp)), body_cut ss rest _ (fun x hx => h x (by simp [hx])) (by omega)]

theorem okArgs_mem {ss : List ByteArray} (h : okArgs ss = true) : ss.length ≤ 16 ∧ ∀ s ∈ ss, s.size ≤ 200 := by
  unfold okArgs at h
  rw [Bool.and_eq_true, decide_eq_true_iff, List.all_eq_true] at h
  exact ⟨h.1, fun s hs => of_decide_eq_true (h.2 s hs)⟩

theorem req_ok {ss : List ByteArray} (h : okArgs ss = true) : reqText ss = headText ss.length ++ bodyText ss := by
  unfold reqText; rw [if_pos h]

theorem req_no {ss : List ByteArray} (h : ¬ okArgs ss = true) : reqText ss = [] := by
  unfold reqText; rw [if_neg h]

theorem head_len (n : Nat) : (headText n).length = (Lib.decDigits n).length + 3 := by simp [headText, crlf]

theorem request_star (l : List UInt8) : requestM (42 :: l) = bulksAllM (42 :: l) := by
  unfold requestM; simp

/-- A request comes back from its text, whatever stands behind it. -/
theorem request_back (ss : List ByteArray) (rest : List UInt8) (h : okArgs ss = true) : requestM (reqText ss ++ rest) = .inr (ss.map (fun s => s.data.toList), (reqText ss).length) := by
  obtain ⟨h16, h200⟩ := okArgs_mem h
  rw [req_ok h]
  have e : headText ss.length ++ bodyText ss ++ rest = 42 :: (Lib.decDigits ss.length ++ crlf ++ (bodyText ss ++ rest)) := by simp [headText]
  have e2 : (42 :: (Lib.decDigits ss.length ++ crlf ++ (bodyText ss ++ rest)) : List UInt8) = [42] ++ Lib.decDigits ss.length ++ crlf ++ (bodyText ss ++ rest) := by simp
  have hp : ([42] ++ Lib.decDigits ss.length ++ crlf).length = (Lib.decDigits ss.length).length + 3 := by simp [crlf]
  rw [e, request_star, e2]
  unfold bulksAllM
  rw [marked_whole 42 ss.length 16 _ (by decide) (by omega) (by omega)]
  simp only
  have e3 : (([42] : List UInt8) ++ Lib.decDigits ss.length ++ crlf ++ (bodyText ss ++ rest)).drop ((Lib.decDigits ss.length).length + 3) = bodyText ss ++ rest := by
    rw [← hp]; simp
  rw [e3, body_read ss rest h200]
  simp only [List.length_append]
  rw [head_len]

/-- Cut anywhere, more is wanted. -/
theorem request_cut (ss : List ByteArray) (rest : List UInt8) (j : Nat) (h : okArgs ss = true) (hj : j < (reqText ss).length) : requestM ((reqText ss ++ rest).take j) = .inl 1 := by
  obtain ⟨h16, h200⟩ := okArgs_mem h
  rw [req_ok h] at hj ⊢
  rw [List.length_append, head_len] at hj
  cases j with
  | zero => rfl
  | succ j =>
    have e : headText ss.length ++ bodyText ss ++ rest = 42 :: (Lib.decDigits ss.length ++ crlf ++ (bodyText ss ++ rest)) := by simp [headText]
    have e2 : (42 :: (Lib.decDigits ss.length ++ crlf ++ (bodyText ss ++ rest)) : List UInt8) = [42] ++ Lib.decDigits ss.length ++ crlf ++ (bodyText ss ++ rest) := by simp
    have hp : ([42] ++ Lib.decDigits ss.length ++ crlf).length = (Lib.decDigits ss.length).length + 3 := by simp [crlf]
    rw [e, List.take_succ_cons, request_star, ← List.take_succ_cons, e2]
    unfold bulksAllM
    by_cases hk : j + 1 < (Lib.decDigits ss.length).length + 3
    · rw [marked_cut 42 ss.length 16 _ (j + 1) (by decide) (by omega) hk]
    · rw [take_past _ _ (j + 1) (by rw [hp]; omega), marked_whole 42 ss.length 16 _ (by decide) (by omega) (by omega)]
      simp only
      have e3 : (([42] : List UInt8) ++ Lib.decDigits ss.length ++ crlf ++ (bodyText ss ++ rest).take (j + 1 - ([42] ++ Lib.decDigits ss.length ++ crlf).length)).drop ((Lib.decDigits ss.length).length + 3) = (bodyText ss ++ rest).take (j + 1 - ([42] ++ Lib.decDigits ss.length ++ crlf).length) := by
        rw [← hp]; simp
      rw [e3, body_cut ss rest _ h200 (by rw [hp]; omega)]

theorem line_fits {l p : List UInt8} (h : lineM l = .inr p) : p.length + 2 ≤ l.length := by
  unfold lineM at h
  split at h
  · rename_i hi
    have := index_fits l hi
    injection h with h
    rw [← h, List.length_take]
    omega
  · split at h <;> cases h

theorem marked_fits {l : List UInt8} {mark : UInt8} {most : Int} {n u : Nat} (h : markedM l mark most = .inr (n, u)) : 3 ≤ u ∧ u ≤ l.length := by
  unfold markedM at h
  split at h
  · cases h
  · cases h
  · rename_i b r hl
    have hf := line_fits hl
    split at h
    · split at h
      · injection h with h
        injection h with h1 h2
        rw [List.length_cons] at hf
        omega
      · cases h
    · cases h

theorem some_fits {l t : List UInt8} {n : Nat} (h : someM l n = .inr t) : t.length = n ∧ n + 2 ≤ l.length := by
  unfold someM at h
  split at h
  · cases h
  · split at h
    · injection h with h
      rw [← h, List.length_take]
      omega
    · cases h

theorem bulks_fits : ∀ (n : Nat) (l : List UInt8) (ts : List (List UInt8)) (v : Nat), bulksM n l = .inr (ts, v) → v ≤ l.length ∧ ∀ t ∈ ts, t.length ≤ 200
  | 0, l, ts, v, h => by
    rw [bulksM] at h
    injection h with h
    injection h with h1 h2
    subst h1
    exact ⟨by omega, fun t ht => by cases ht⟩
  | n + 1, l, ts, v, h => by
    rw [bulksM] at h
    split at h
    · cases h
    · rename_i m u hm
      split at h
      · cases h
      · rename_i t hsm
        split at h
        · cases h
        · rename_i ts' v' hb
          injection h with h
          injection h with h1 h2
          subst h1
          obtain ⟨ih1, ih2⟩ := bulks_fits n _ _ _ hb
          obtain ⟨f1, f2⟩ := some_fits hsm
          have hc := marked_count hm
          have hu := marked_fits hm
          rw [List.length_drop] at ih1 f2
          refine ⟨by omega, fun x hx => ?_⟩
          rcases List.mem_cons.1 hx with rfl | hx
          · omega
          · exact ih2 x hx

/-- What is read: its arguments may stand in a request; it uses some bytes, and no more than there are. -/
theorem request_fits {l : List UInt8} {ts : List (List UInt8)} {u : Nat} (h : requestM l = .inr (ts, u)) : ts.length ≤ 16 ∧ (∀ t ∈ ts, t.length ≤ 200) ∧ 0 < u ∧ u ≤ l.length := by
  have h16 := (requestM_args h).1
  refine ⟨h16, ?_⟩
  unfold requestM at h
  split at h
  · cases h
  · split at h
    · unfold bulksAllM at h
      split at h
      · cases h
      · rename_i n v hm
        split at h
        · cases h
        · rename_i ts' v' hb
          injection h with h
          injection h with h1 h2
          subst h1
          obtain ⟨ih1, ih2⟩ := bulks_fits _ _ _ _ hb
          have hu := marked_fits hm
          rw [List.length_drop] at ih1
          exact ⟨ih2, by omega, by omega⟩
    · unfold lineWords at h
      split at h
      · cases h
      · split at h
        · cases h
        · split at h
          · rename_i hok
            injection h with h
            injection h with h1 h2
            subst h1
            unfold okArgsL at hok
            rw [Bool.and_eq_true, decide_eq_true_iff, List.all_eq_true] at hok
            rename_i b r _ _ hneg
            have := indexByte_fits (b :: r) 10 (by omega)
            exact ⟨fun t ht => of_decide_eq_true (hok.2 t ht), by omega, by omega⟩
          · cases h

theorem req_len (ss : List ByteArray) : (reqText ss).length ≤ 5000 := by
  by_cases h : okArgs ss = true
  · obtain ⟨h16, h200⟩ := okArgs_mem h
    rw [req_ok h, List.length_append, head_len]
    have hb := bodyText_len ss ss.length (List.all_eq_true.2 fun s hs => decide_eq_true (h200 s hs))
    rw [List.take_of_length_le (Nat.le_refl _)] at hb
    have := dec_le20 ss.length (by omega)
    omega
  · rw [req_no h]; simp

theorem ok_of_fits {ts : List (List UInt8)} (h : ts.length ≤ 16) (h2 : ∀ t ∈ ts, t.length ≤ 200) : okArgs (ts.map fun t => (⟨t.toArray⟩ : ByteArray)) = true := by
  unfold okArgs
  rw [Bool.and_eq_true, decide_eq_true_iff, List.all_eq_true]
  refine ⟨by simpa using h, fun s hs => ?_⟩
  obtain ⟨t, ht, rfl⟩ := List.mem_map.1 hs
  have := h2 t ht
  exact decide_eq_true (by show t.toArray.size ≤ 200; simpa using this)

theorem req_some {ss : List ByteArray} (h : reqText ss ≠ []) : okArgs ss = true := by
  by_cases hk : okArgs ss = true
  · exact hk
  · exact absurd (req_no hk) h
end Go.Proofs.YtielombpeeelkaaDoor
