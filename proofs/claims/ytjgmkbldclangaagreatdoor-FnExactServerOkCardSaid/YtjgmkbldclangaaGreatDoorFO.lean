/- What is written is read back; cut anywhere, more is wanted. The requests of some bytes; in two pieces they are the same. A list of lists that owns its memory: the outer row, and a row of its own for each of its lists. spec.Fed at this dump. -/
import Derived.Test.YtjgmkbldclangaaGreatDoorFP
import Derived.Lib.SmallJoins
namespace Go.Proofs.YtjgmkbldclangaaGreatDoor.Fd
open Go.RowKit Go.Sort

theorem dec_digits : ∀ (n : Nat), ∀ x ∈ Lib.decDigits n, x ≠ 13 := by
  intro n
  induction n using Nat.strongRecOn with
  | _ n ih =>
    intro x hx
    by_cases h10 : n < 10
    · rw [Lib.decDigits_one h10] at hx
      simp only [List.mem_singleton] at hx
      intro e
      have h2 := ofNat_dig n h10
      rw [← hx, e] at h2
      have h3 : (13 : UInt8).toNat = 13 := rfl
      omega
    · rw [dig_step n (by omega)] at hx
      rcases List.mem_append.1 hx with hx | hx
      · exact ih (n / 10) (by omega) x hx
      · simp only [List.mem_singleton] at hx
        intro e
        have h2 := ofNat_dig (n % 10) (by omega)
        rw [← hx, e] at h2
        have h3 : (13 : UInt8).toNat = 13 := rfl
        omega

theorem index_line : ∀ (p rest : List UInt8), (∀ x ∈ p, x ≠ 13) → Lib.index (p ++ 13 :: 10 :: rest) [13, 10] = p.length
  | [], rest, _ => by
    show Lib.index (13 :: 10 :: rest) [13, 10] = 0
    unfold Lib.index
    simp [List.isPrefixOf]
  | b :: p, rest, h => by
    have hb : b ≠ 13 := h b (by simp)
    have ih := index_line p rest (fun x hx => h x (by simp [hx]))
    rw [List.cons_append]
    unfold Lib.index
    have hp : ([13, 10] : List UInt8).isPrefixOf (b :: (p ++ 13 :: 10 :: rest)) = false := by
      simp [List.isPrefixOf]
      intro e
      exact absurd e.symm hb
    rw [hp, ih]
    simp

theorem index_none : ∀ (p : List UInt8), (∀ x ∈ p, x ≠ 13) → ∀ q, q = [] ∨ q = [13] → Lib.index (p ++ q) [13, 10] = -1
  | [], _, q, hq => by
    rcases hq with rfl | rfl
    · rfl
    · simp [Lib.index, List.isPrefixOf]
  | b :: p, h, q, hq => by
    have hb : b ≠ 13 := h b (by simp)
    have ih := index_none p (fun x hx => h x (by simp [hx])) q hq
    rw [List.cons_append]
    unfold Lib.index
    have hp : ([13, 10] : List UInt8).isPrefixOf (b :: (p ++ q)) = false := by
      simp [List.isPrefixOf]
      intro e
      exact absurd e.symm hb
    rw [hp, ih]
    simp

theorem line_whole (p rest : List UInt8) (h : ∀ x ∈ p, x ≠ 13) : lineM (p ++ crlf ++ rest) = .inr p := by
  have e : p ++ crlf ++ rest = p ++ 13 :: 10 :: rest := by simp [crlf]
  rw [e]
  unfold lineM
  rw [index_line p rest h, if_pos (by omega)]
  simp

theorem line_cut (p rest : List UInt8) (h : ∀ x ∈ p, x ≠ 13) (k : Nat) (hk : k < p.length + 2) (hl : p.length ≤ 200) : lineM ((p ++ crlf ++ rest).take k) = .inl 1 := by
  have e : (p ++ crlf ++ rest).take k = p.take k ++ (if k = p.length + 1 then [13] else []) := by
    by_cases h1 : k ≤ p.length
    · rw [if_neg (by omega), List.append_assoc, List.take_append_of_le_length h1, List.append_nil]
    · have hk1 : k = p.length + 1 := by omega
      subst hk1
      have e0 : p.take (p.length + 1) = p := List.take_of_length_le (by omega)
      rw [if_pos rfl, List.append_assoc, List.take_length_add_append, e0]
      simp [crlf]
  have hm : ∀ x ∈ p.take k, x ≠ 13 := fun x hx => h x (List.mem_of_mem_take hx)
  have hi : Lib.index (p.take k ++ (if k = p.length + 1 then [13] else [])) [13, 10] = -1 := index_none _ hm _ (by split <;> simp)
  have hlen : (p.take k ++ (if k = p.length + 1 then [13] else [])).length ≤ 300 := by
    rw [List.length_append, List.length_take]
    split <;> simp <;> omega
  unfold lineM
  rw [e, hi, if_neg (by omega), if_neg (by omega)]

theorem dec_le20 (n : Nat) (h : n ≤ 2097152) : (Lib.decDigits n).length ≤ 20 := dec_len_le n h

theorem count_dec (n : Nat) (most : Int) (h : (n : Int) ≤ most) (hn : n ≤ 2097152) : countM (Lib.decDigits n) most = some n := by
  have e := decM_itoa (n : Int) (decide_eq_true (by omega))
  rw [Lib.itoa_nonneg] at e
  unfold countM
  rw [e]
  show (if _ then _ else _) = _
  rw [if_pos ⟨by omega, h⟩]
  simp

theorem marked_whole (mark : UInt8) (n : Nat) (most : Int) (rest : List UInt8) (hm : mark ≠ 13) (h : (n : Int) ≤ most) (hn : n ≤ 2097152) :
    markedM ([mark] ++ Lib.decDigits n ++ crlf ++ rest) mark most = .inr (n, (Lib.decDigits n).length + 3) := by
  have hl := line_whole ([mark] ++ Lib.decDigits n) rest (fun x hx => by
    rcases List.mem_append.1 hx with hx | hx
    · simp at hx; rw [hx]; exact hm
    · exact dec_digits n x hx)
  have e : [mark] ++ Lib.decDigits n = mark :: Lib.decDigits n := rfl
  unfold markedM
  rw [hl, e]
  show (if mark = mark then _ else _) = _
  rw [if_pos rfl, count_dec n most h hn]

theorem marked_cut (mark : UInt8) (n : Nat) (most : Int) (rest : List UInt8) (k : Nat) (hm : mark ≠ 13) (hn : n ≤ 2097152) (hk : k < (Lib.decDigits n).length + 3) :
    markedM (([mark] ++ Lib.decDigits n ++ crlf ++ rest).take k) mark most = .inl 1 := by
  have hd := dec_le20 n hn
  have hl := line_cut ([mark] ++ Lib.decDigits n) rest (fun x hx => by
    rcases List.mem_append.1 hx with hx | hx
    · simp at hx; rw [hx]; exact hm
    · exact dec_digits n x hx) k (by simp; omega) (by simp; omega)
  unfold markedM
  rw [hl]

theorem some_whole (t rest : List UInt8) : someM (t ++ crlf ++ rest) t.length = .inr t := by
  unfold someM
  rw [if_neg (by simp [crlf])]
  have e : (List.drop t.length (t ++ crlf ++ rest)).take 2 = [13, 10] := by simp [crlf]
  rw [if_pos e]
  simp

theorem some_cut (t rest : List UInt8) (k : Nat) (h : k < t.length + 2) : someM ((t ++ crlf ++ rest).take k) t.length = .inl 1 := by
  unfold someM
  rw [if_pos (by rw [List.length_take]; omega)]

theorem take_past (p q : List UInt8) (k : Nat) (h : p.length ≤ k) : (p ++ q).take k = p ++ q.take (k - p.length) := by
  rw [List.take_append, List.take_of_length_le h]

theorem body_cons (s : ByteArray) (ss : List ByteArray) : bodyText (s :: ss) = bulkText s ++ bodyText ss := rfl

theorem bulk_read (s : ByteArray) (rest : List UInt8) (k : Nat) (h : s.size ≤ 200) :
    bulksM (k + 1) (bulkText s ++ rest) = match bulksM k rest with | .inl c => .inl c | .inr (ts, v) => .inr (s.data.toList :: ts, (bulkText s).length + v) := by
  have hsz : s.data.toList.length = s.size := (Lib.size_eq s).symm
  have e1 : bulkText s ++ rest = [36] ++ Lib.decDigits s.size ++ crlf ++ (s.data.toList ++ crlf ++ rest) := by simp [bulkText]
  have e2 : (bulkText s ++ rest).drop ((Lib.decDigits s.size).length + 3) = s.data.toList ++ crlf ++ rest := by
    rw [e1, List.drop_append_of_le_length (by simp [crlf])]
    rw [List.drop_eq_nil_of_le (by simp [crlf]), List.nil_append]
  have e3 : (bulkText s ++ rest).drop ((Lib.decDigits s.size).length + 3 + s.size + 2) = rest := by
    have : (bulkText s).length = (Lib.decDigits s.size).length + 3 + s.size + 2 := by simp [bulkText, crlf]; omega
    rw [← this]
    simp
  have hm := marked_whole 36 s.size 200 (s.data.toList ++ crlf ++ rest) (by decide) (by omega) (by omega)
  rw [← e1] at hm
  have hs := some_whole s.data.toList rest
  rw [hsz] at hs
  rw [bulksM, hm]
  simp only
  rw [e2, hs]
  simp only
  rw [e3]
  have hlen : (bulkText s).length = (Lib.decDigits s.size).length + 3 + s.size + 2 := by simp [bulkText, crlf]; omega
  cases bulksM k rest with
  | inl c => rfl
  | inr q =>
    obtain ⟨ts, v⟩ := q
    simp only
    rw [hlen]

theorem bulk_cut (s : ByteArray) (rest : List UInt8) (k j : Nat) (h : s.size ≤ 200) (hj : j < (bulkText s).length) : bulksM (k + 1) ((bulkText s ++ rest).take j) = .inl 1 := by
  have hsz : s.data.toList.length = s.size := (Lib.size_eq s).symm
  have e1 : bulkText s ++ rest = [36] ++ Lib.decDigits s.size ++ crlf ++ (s.data.toList ++ crlf ++ rest) := by simp [bulkText]
  have hlen : (bulkText s).length = (Lib.decDigits s.size).length + 3 + s.size + 2 := by simp [bulkText, crlf]; omega
  rw [bulksM, e1]
  by_cases hk : j < (Lib.decDigits s.size).length + 3
  · rw [marked_cut 36 s.size 200 _ j (by decide) (by omega) hk]
  · have hp : ([36] ++ Lib.decDigits s.size ++ crlf).length = (Lib.decDigits s.size).length + 3 := by simp [crlf]
    rw [take_past _ _ j (by rw [hp]; omega), marked_whole 36 s.size 200 _ (by decide) (by omega) (by omega)]
    simp only
    have e2 : (([36] : List UInt8) ++ Lib.decDigits s.size ++ crlf ++ (s.data.toList ++ crlf ++ rest).take (j - ([36] ++ Lib.decDigits s.size ++ crlf).length)).drop ((Lib.decDigits s.size).length + 3) = (s.data.toList ++ crlf ++ rest).take (j - ([36] ++ Lib.decDigits s.size ++ crlf).length) := by
      rw [← hp]; simp
    have hc := some_cut s.data.toList rest (j - ([36] ++ Lib.decDigits s.size ++ crlf).length) (by rw [hp, hsz]; omega)
    rw [hsz] at hc
    rw [e2, hc]

theorem body_read : ∀ (ss : List ByteArray) (rest : List UInt8), (∀ s ∈ ss, s.size ≤ 200) → bulksM ss.length (bodyText ss ++ rest) = .inr (ss.map (fun s => s.data.toList), (bodyText ss).length)
  | [], rest, _ => by simp [bulksM, bodyText]
  | s :: ss, rest, h => by
    have ih := body_read ss rest (fun x hx => h x (by simp [hx]))
    rw [body_cons, List.append_assoc, List.length_cons, bulk_read s _ _ (h s (by simp)), ih]
    simp

theorem body_cut : ∀ (ss : List ByteArray) (rest : List UInt8) (j : Nat), (∀ s ∈ ss, s.size ≤ 200) → j < (bodyText ss).length → bulksM ss.length ((bodyText ss ++ rest).take j) = .inl 1
  | [], rest, j, _, hj => by simp [bodyText] at hj
  | s :: ss, rest, j, h, hj => by
    rw [body_cons, List.length_append] at hj
    rw [body_cons, List.append_assoc, List.length_cons]
    by_cases hk : j < (bulkText s).length
    · exact bulk_cut s _ _ j (h s (by simp)) hk
    · rw [take_past _ _ j (by omega), bulk_read s _ _ (h s (by simp)), body_cut ss rest _ (fun x hx => h x (by simp [hx])) (by omega)]

theorem okArgs_mem {ss : List ByteArray} (h : okArgs ss = true) : ss.length ≤ 16 ∧ ∀ s ∈ ss, s.size ≤ 200 := by
  unfold okArgs at h
  rw [Bool.and_eq_true, decide_eq_true_iff, List.all_eq_true] at h
  exact ⟨h.1, fun s hs => of_decide_eq_true (h.2 s hs)⟩

theorem req_ok {ss : List ByteArray} (h : okArgs ss = true) : reqText ss = headText ss.length ++ bodyText ss := by
  unfold reqText; rw [if_pos h]

theorem req_no {ss : List ByteArray} (h : ¬ okArgs ss = true) : reqText ss = [] := by
  unfold reqText; rw [if_neg h]

theorem head_len (n : Nat) : (headText n).length = (Lib.decDigits n).length + 3 := by simp [headText, crlf]

theorem request_star (l : List UInt8) : requestM (42 :: l) = bulksAllM (42 :: l) := by
  unfold requestM; simp

/-- A request comes back from its text, whatever stands behind it. -/
theorem request_back (ss : List ByteArray) (rest : List UInt8) (h : okArgs ss = true) : requestM (reqText ss ++ rest) = .inr (ss.map (fun s => s.data.toList), (reqText ss).length) := by
  obtain ⟨h16, h200⟩ := okArgs_mem h
  rw [req_ok h]
  have e : headText ss.length ++ bodyText ss ++ rest = 42 :: (Lib.decDigits ss.length ++ crlf ++ (bodyText ss ++ rest)) := by simp [headText]
  have e2 : (42 :: (Lib.decDigits ss.length ++ crlf ++ (bodyText ss ++ rest)) : List UInt8) = [42] ++ Lib.decDigits ss.length ++ crlf ++ (bodyText ss ++ rest) := by simp
  have hp : ([42] ++ Lib.decDigits ss.length ++ crlf).length = (Lib.decDigits ss.length).length + 3 := by simp [crlf]
  rw [e, request_star, e2]
  unfold bulksAllM
  rw [marked_whole 42 ss.length 16 _ (by decide) (by omega) (by omega)]
  simp only
  have e3 : (([42] : List UInt8) ++ Lib.decDigits ss.length ++ crlf ++ (bodyText ss ++ rest)).drop ((Lib.decDigits ss.length).length + 3) = bodyText ss ++ rest := by
    rw [← hp]; simp
  rw [e3, body_read ss rest h200]
  simp only [List.length_append]
  rw [head_len]

/-- Cut anywhere, more is wanted. -/
theorem request_cut (ss : List ByteArray) (rest : List UInt8) (j : Nat) (h : okArgs ss = true) (hj : j < (reqText ss).length) : requestM ((reqText ss ++ rest).take j) = .inl 1 := by
  obtain ⟨h16, h200⟩ := okArgs_mem h
  rw [req_ok h] at hj ⊢
  rw [List.length_append, head_len] at hj
  cases j with
  | zero => rfl
  | succ j =>
    have e : headText ss.length ++ bodyText ss ++ rest = 42 :: (Lib.decDigits ss.length ++ crlf ++ (bodyText ss ++ rest)) := by simp [headText]
    have e2 : (42 :: (Lib.decDigits ss.length ++ crlf ++ (bodyText ss ++ rest)) : List UInt8) = [42] ++ Lib.decDigits ss.length ++ crlf ++ (bodyText ss ++ rest) := by simp
    have hp : ([42] ++ Lib.decDigits ss.length ++ crlf).length = (Lib.decDigits ss.length).length + 3 := by simp [crlf]
    rw [e, List.take_succ_cons, request_star, ← List.take_succ_cons, e2]
    unfold bulksAllM
    by_cases hk : j + 1 < (Lib.decDigits ss.length).length + 3
    · rw [marked_cut 42 ss.length 16 _ (j + 1) (by decide) (by omega) hk]
    · rw [take_past _ _ (j + 1) (by rw [hp]; omega), marked_whole 42 ss.length 16 _ (by decide) (by omega) (by omega)]
      simp only
      have e3 : (([42] : List UInt8) ++ Lib.decDigits ss.length ++ crlf ++ (bodyText ss ++ rest).take (j + 1 - ([42] ++ Lib.decDigits ss.length ++ crlf).length)).drop ((Lib.decDigits ss.length).length + 3) = (bodyText ss ++ rest).take (j + 1 - ([42] ++ Lib.decDigits ss.length ++ crlf).length) := by
        rw [← hp]; simp
      rw [e3, body_cut ss rest _ h200 (by rw [hp]; omega)]

theorem line_fits {l p : List UInt8} (h : lineM l = .inr p) : p.length + 2 ≤ l.length := by
  unfold lineM at h
  split at h
  · rename_i hi
    have := index_fits l hi
    injection h with h
    rw [← h, List.length_take]
    omega
  · split at h <;> cases h

theorem marked_fits {l : List UInt8} {mark : UInt8} {most : Int} {n u : Nat} (h : markedM l mark most = .inr (n, u)) : 3 ≤ u ∧ u ≤ l.length := by
  unfold markedM at h
  split at h
  · cases h
  · cases h
  · rename_i b r hl
    have hf := line_fits hl
    split at h
    · split at h
      · injection h with h
        injection h with h1 h2
        rw [List.length_cons] at hf
        omega
      · cases h
    · cases h

theorem some_fits {l t : List UInt8} {n : Nat} (h : someM l n = .inr t) : t.length = n ∧ n + 2 ≤ l.length := by
  unfold someM at h
  split at h
  · cases h
  · split at h
    · injection h with h
      rw [← h, List.length_take]
      omega
    · cases h

theorem bulks_fits : ∀ (n : Nat) (l : List UInt8) (ts : List (List UInt8)) (v : Nat), bulksM n l = .inr (ts, v) → v ≤ l.length ∧ ∀ t ∈ ts, t.length ≤ 200
  | 0, l, ts, v, h => by
    rw [bulksM] at h
    injection h with h
    injection h with h1 h2
    subst h1
    exact ⟨by omega, fun t ht => by cases ht⟩
  | n + 1, l, ts, v, h => by
    rw [bulksM] at h
    split at h
    · cases h
    · rename_i m u hm
      split at h
      · cases h
      · rename_i t hsm
        split at h
        · cases h
        · rename_i ts' v' hb
          injection h with h
          injection h with h1 h2
          subst h1
          obtain ⟨ih1, ih2⟩ := bulks_fits n _ _ _ hb
          obtain ⟨f1, f2⟩ := some_fits hsm
          have hc := marked_count hm
          have hu := marked_fits hm
          rw [List.length_drop] at ih1 f2
          refine ⟨by omega, fun x hx => ?_⟩
          rcases List.mem_cons.1 hx with rfl | hx
          · omega
          · exact ih2 x hx

/-- What is read: its arguments may stand in a request; it uses some bytes, and no more than there are. -/
theorem request_fits {l : List UInt8} {ts : List (List UInt8)} {u : Nat} (h : requestM l = .inr (ts, u)) : ts.length ≤ 16 ∧ (∀ t ∈ ts, t.length ≤ 200) ∧ 0 < u ∧ u ≤ l.length := by
  have h16 := (requestM_args h).1
  refine ⟨h16, ?_⟩
  unfold requestM at h
  split at h
  · cases h
  · split at h
    · unfold bulksAllM at h
      split at h
      · cases h
      · rename_i n v hm
        split at h
        · cases h
        · rename_i ts' v' hb
          injection h with h
          injection h with h1 h2
          subst h1
          obtain ⟨ih1, ih2⟩ := bulks_fits _ _ _ _ hb
          have hu := marked_fits hm
          rw [List.length_drop] at ih1
          exact ⟨ih2, by omega, by omega⟩
    · unfold lineWords at h
      split at h
      · cases h
      · split at h
        · cases h
        · split at h
          · rename_i hok
            injection h with h
            injection h with h1 h2
            subst h1
            unfold okArgsL at hok
            rw [Bool.and_eq_true, decide_eq_true_iff, List.all_eq_true] at hok
            rename_i b r _ _ hneg
            have := indexByte_fits (b :: r) 10 (by omega)
            exact ⟨fun t ht => of_decide_eq_true (hok.2 t ht), by omega, by omega⟩
          · cases h

theorem req_len (ss : List ByteArray) : (reqText ss).length ≤ 5000 := by
  by_cases h : okArgs ss = true
  · obtain ⟨h16, h200⟩ := okArgs_mem h
    rw [req_ok h, List.length_append, head_len]
    have hb := bodyText_len ss ss.length (List.all_eq_true.2 fun s hs => decide_eq_true (h200 s hs))
    rw [List.take_of_length_le (Nat.le_refl _)] at hb
    have := dec_le20 ss.length (by omega)
    omega
  · rw [req_no h]; simp

theorem ok_of_fits {ts : List (List UInt8)} (h : ts.length ≤ 16) (h2 : ∀ t ∈ ts, t.length ≤ 200) : okArgs (ts.map fun t => (⟨t.toArray⟩ : ByteArray)) = true := by
  unfold okArgs
  rw [Bool.and_eq_true, decide_eq_true_iff, List.all_eq_true]
  refine ⟨by simpa using h, fun s hs => ?_⟩
  obtain ⟨t, ht, rfl⟩ := List.mem_map.1 hs
  have := h2 t ht
  exact decide_eq_true (by show t.toArray.size ≤ 200; simpa using this)

theorem req_some {ss : List ByteArray} (h : reqText ss ≠ []) : okArgs ss = true := by
  by_cases hk : okArgs ss = true
  · exact hk
  · exact absurd (req_no hk) h
end Go.Proofs.YtjgmkbldclangaaGreatDoor.Fd

namespace Go.Proofs.YtjgmkbldclangaaGreatDoor.Fd
open Go.RowKit Go.Sort

theorem index_cons (b : UInt8) (l : List UInt8) : Lib.index (b :: l) [13, 10] = if ([13, 10] : List UInt8).isPrefixOf (b :: l) = true then 0 else if Lib.index l [13, 10] = -1 then -1 else Lib.index l [13, 10] + 1 := by
  conv => lhs; unfold Lib.index
  simp only [beq_iff_eq]

theorem prefix_app {b : UInt8} {l : List UInt8} (r : List UInt8) (h : 1 ≤ l.length) : ([13, 10] : List UInt8).isPrefixOf (b :: (l ++ r)) = ([13, 10] : List UInt8).isPrefixOf (b :: l) := by
  match l, h with
  | c :: l', _ => simp [List.isPrefixOf]

theorem index_app : ∀ (l r : List UInt8), 0 ≤ Lib.index l [13, 10] → Lib.index (l ++ r) [13, 10] = Lib.index l [13, 10]
  | [], r, h => by simp [Lib.index] at h
  | b :: l, r, h => by
    have hf := index_fits (b :: l) h
    have hlen : 1 ≤ l.length := by rw [List.length_cons] at hf; omega
    rw [List.cons_append, index_cons, index_cons b l, prefix_app r hlen]
    rw [index_cons] at h
    by_cases hp : ([13, 10] : List UInt8).isPrefixOf (b :: l) = true
    · rw [if_pos hp, if_pos hp]
    · rw [if_neg hp] at h
      rw [if_neg hp, if_neg hp]
      have h0 : 0 ≤ Lib.index l [13, 10] := by
        have := Lib.index_ge l [13, 10]
        by_cases hx : Lib.index l [13, 10] = -1
        · rw [if_pos hx] at h; omega
        · omega
      rw [index_app l r h0]

theorem index_past : ∀ (l r : List UInt8), Lib.index l [13, 10] = -1 → 0 ≤ Lib.index (l ++ r) [13, 10] → (l.length : Int) ≤ Lib.index (l ++ r) [13, 10] + 1
  | [], r, _, h => by simp at h ⊢; omega
  | b :: l, r, h1, h2 => by
    by_cases hlen : 1 ≤ l.length
    · rw [List.cons_append, index_cons, prefix_app r hlen] at h2 ⊢
      rw [index_cons] at h1
      by_cases hp : ([13, 10] : List UInt8).isPrefixOf (b :: l) = true
      · rw [if_pos hp] at h1; omega
      · rw [if_neg hp] at h1 h2 ⊢
        have hl : Lib.index l [13, 10] = -1 := by
          have := Lib.index_ge l [13, 10]
          by_cases hx : Lib.index l [13, 10] = -1
          · exact hx
          · rw [if_neg hx] at h1; omega
        have h0 : 0 ≤ Lib.index (l ++ r) [13, 10] := by
          have := Lib.index_ge (l ++ r) [13, 10]
          by_cases hx : Lib.index (l ++ r) [13, 10] = -1
          · rw [if_pos hx] at h2; omega
          · omega
        have := index_past l r hl h0
        rw [if_neg (by omega), List.length_cons]
        omega
    · rw [List.length_cons]
      omega

theorem ib_cons (b c : UInt8) (l : List UInt8) : Lib.indexByte (b :: l) c = if b = c then 0 else if Lib.indexByte l c = -1 then -1 else Lib.indexByte l c + 1 := by
  conv => lhs; unfold Lib.indexByte
  simp only [beq_iff_eq]

theorem ib_app : ∀ (l r : List UInt8) (c : UInt8), 0 ≤ Lib.indexByte l c → Lib.indexByte (l ++ r) c = Lib.indexByte l c
  | [], r, c, h => by simp [Lib.indexByte] at h
  | b :: l, r, c, h => by
    rw [List.cons_append, ib_cons, ib_cons b c l]
    rw [ib_cons] at h
    by_cases hb : b = c
    · rw [if_pos hb, if_pos hb]
    · rw [if_neg hb] at h
      rw [if_neg hb, if_neg hb]
      have h0 : 0 ≤ Lib.indexByte l c := by
        have := Lib.indexByte_ge l c
        by_cases hx : Lib.indexByte l c = -1
        · rw [if_pos hx] at h; omega
        · omega
      rw [ib_app l r c h0]

theorem ib_past : ∀ (l r : List UInt8) (c : UInt8), Lib.indexByte l c = -1 → 0 ≤ Lib.indexByte (l ++ r) c → (l.length : Int) ≤ Lib.indexByte (l ++ r) c
  | [], r, c, _, h => by simpa using h
  | b :: l, r, c, h1, h2 => by
    rw [List.cons_append, ib_cons] at h2 ⊢
    rw [ib_cons] at h1
    by_cases hb : b = c
    · rw [if_pos hb] at h1; omega
    · rw [if_neg hb] at h1 h2 ⊢
      have hl : Lib.indexByte l c = -1 := by
        have := Lib.indexByte_ge l c
        by_cases hx : Lib.indexByte l c = -1
        · exact hx
        · rw [if_neg hx] at h1; omega
      have h0 : 0 ≤ Lib.indexByte (l ++ r) c := by
        have := Lib.indexByte_ge (l ++ r) c
        by_cases hx : Lib.indexByte (l ++ r) c = -1
        · rw [if_pos hx] at h2; omega
        · omega
      have := ib_past l r c hl h0
      rw [if_neg (by omega), List.length_cons]
      omega

theorem line_app {l p : List UInt8} (r : List UInt8) (h : lineM l = .inr p) : lineM (l ++ r) = .inr p := by
  unfold lineM at h ⊢
  split at h
  · rename_i hi
    have hf := index_fits l hi
    rw [index_app l r hi, if_pos hi]
    injection h with h
    rw [← h, List.take_append_of_le_length (by omega)]
  · split at h <;> cases h

theorem line_long {l : List UInt8} (r : List UInt8) (h : lineM l = .inl 2) : lineM (l ++ r) = .inl 2 ∨ ∃ p, lineM (l ++ r) = .inr p ∧ 300 ≤ p.length := by
  unfold lineM at h ⊢
  split at h
  · cases h
  · rename_i hi
    split at h
    · rename_i hlen
      have h1 : Lib.index l [13, 10] = -1 := by have := Lib.index_ge l [13, 10]; omega
      by_cases h2 : 0 ≤ Lib.index (l ++ r) [13, 10]
      · have := index_past l r h1 h2
        have hf := index_fits (l ++ r) h2
        rw [if_pos h2]
        exact .inr ⟨_, rfl, by rw [List.length_take]; omega⟩
      · rw [if_neg h2, if_pos (by rw [List.length_append]; omega)]
        exact .inl rfl
    · injection h with h; omega

theorem count_len {r : List UInt8} {most : Int} {n : Nat} (h : countM r most = some n) (hm : most ≤ 2097152) : r.length ≤ 20 := by
  obtain ⟨v, hv, hk⟩ : ∃ v, decM r = some v ∧ (if 0 ≤ v ∧ v ≤ most then some v.toNat else none) = some n := Option.bind_eq_some_iff.1 h
  split at hk
  · rename_i hb
    unfold decM at hv
    split at hv
    · split at hv
      · rename_i hx
        injection hv with hv
        subst hv
        rw [← hx.2]
        unfold Lib.itoa
        rw [if_neg (by omega)]
        exact dec_len_le _ (by omega)
      · cases hv
    · cases hv
  · cases hk

theorem marked_app {l : List UInt8} {mark : UInt8} {most : Int} {n u : Nat} (r : List UInt8) (h : markedM l mark most = .inr (n, u)) : markedM (l ++ r) mark most = .inr (n, u) := by
  unfold markedM at h ⊢
  cases hl : lineM l with
  | inl c => rw [hl] at h; cases h
  | inr p => rw [line_app r hl]; rw [hl] at h; exact h

theorem marked_bad {l : List UInt8} {mark : UInt8} {most : Int} (r : List UInt8) (hm : most ≤ 2097152) (h : markedM l mark most = .inl 2) : markedM (l ++ r) mark most = .inl 2 := by
  unfold markedM at h ⊢
  cases hl : lineM l with
  | inr p => rw [line_app r hl]; rw [hl] at h; exact h
  | inl c =>
    rw [hl] at h
    have hc : c = 2 := by injection h
    subst hc
    rcases line_long r hl with h2 | ⟨p, h2, hp⟩
    · rw [h2]
    · rw [h2]
      match p, hp with
      | b :: q, hp =>
        simp only
        split
        · have : countM q most = none := by
            cases hq : countM q most with
            | none => rfl
            | some n =>
              have := count_len hq hm
              rw [List.length_cons] at hp
              omega
          rw [this]
        · rfl

theorem some_app {l t : List UInt8} {n : Nat} (r : List UInt8) (h : someM l n = .inr t) : someM (l ++ r) n = .inr t := by
  obtain ⟨_, hf⟩ := some_fits h
  unfold someM at h ⊢
  rw [if_neg (by omega)] at h
  rw [if_neg (by rw [List.length_append]; omega), List.drop_append_of_le_length (by omega), List.take_append_of_le_length (by rw [List.length_drop]; omega), List.take_append_of_le_length (by omega)]
  exact h

theorem some_bad {l : List UInt8} {n : Nat} (r : List UInt8) (h : someM l n = .inl 2) : someM (l ++ r) n = .inl 2 := by
  unfold someM at h ⊢
  split at h
  · injection h with h; omega
  · rename_i hl
    rw [if_neg (by rw [List.length_append]; omega), List.drop_append_of_le_length (by omega), List.take_append_of_le_length (by rw [List.length_drop]; omega)]
    split at h
    · cases h
    · rename_i hx
      rw [if_neg hx]

theorem bulks_app : ∀ (n : Nat) (l r : List UInt8) (ts : List (List UInt8)) (v : Nat), bulksM n l = .inr (ts, v) → bulksM n (l ++ r) = .inr (ts, v)
  | 0, l, r, ts, v, h => by rw [bulksM] at h ⊢; exact h
  | n + 1, l, r, ts, v, h => by
    rw [bulksM] at h ⊢
    cases hm : markedM l 36 200 with
    | inl c => rw [hm] at h; cases h
    | inr q =>
      obtain ⟨m, u⟩ := q
      rw [hm] at h
      rw [marked_app r hm]
      simp only at h ⊢
      have hu := (marked_fits hm).2
      cases hs : someM (l.drop u) m with
      | inl c => rw [hs] at h; cases h
      | inr t =>
        have hf := (some_fits hs).2
        rw [List.length_drop] at hf
        rw [hs] at h
        rw [List.drop_append_of_le_length hu, some_app r hs, List.drop_append_of_le_length (by omega)]
        simp only at h ⊢
        cases hb : bulksM n (l.drop (u + m + 2)) with
        | inl c => rw [hb] at h; cases h
        | inr q =>
          obtain ⟨ts', v'⟩ := q
          rw [hb] at h
          rw [bulks_app n _ r ts' v' hb]
          exact h

theorem bulks_bad : ∀ (n : Nat) (l r : List UInt8), bulksM n l = .inl 2 → bulksM n (l ++ r) = .inl 2
  | 0, l, r, h => by rw [bulksM] at h; cases h
  | n + 1, l, r, h => by
    rw [bulksM] at h ⊢
    cases hm : markedM l 36 200 with
    | inl c =>
      rw [hm] at h
      have hc : c = 2 := by injection h
      subst hc
      rw [marked_bad r (by omega) hm]
    | inr q =>
      obtain ⟨m, u⟩ := q
      rw [hm] at h
      rw [marked_app r hm]
      simp only at h ⊢
      have hu := (marked_fits hm).2
      rw [List.drop_append_of_le_length hu]
      cases hs : someM (l.drop u) m with
      | inl c =>
        rw [hs] at h
        have hc : c = 2 := by injection h
        subst hc
        rw [some_bad r hs]
      | inr t =>
        have hf := (some_fits hs).2
        rw [List.length_drop] at hf
        rw [hs] at h
        rw [some_app r hs, List.drop_append_of_le_length (by omega)]
        simp only at h ⊢
        cases hb : bulksM n (l.drop (u + m + 2)) with
        | inl c =>
          rw [hb] at h
          have hc : c = 2 := by injection h
          subst hc
          rw [bulks_bad n _ r hb]
        | inr q =>
          obtain ⟨ts', v'⟩ := q
          rw [hb] at h
          cases h

/-- What is read is read so whatever comes behind it. -/
theorem request_app {l : List UInt8} {ts : List (List UInt8)} {u : Nat} (r : List UInt8) (h : requestM l = .inr (ts, u)) : requestM (l ++ r) = .inr (ts, u) := by
  match l, h with
  | [], h => cases h
  | b :: l, h =>
    rw [List.cons_append]
    unfold requestM at h ⊢
    simp only at h ⊢
    by_cases hb : b = 42
    · rw [if_pos hb] at h ⊢
      unfold bulksAllM at h ⊢
      rw [← List.cons_append]
      cases hm : markedM (b :: l) 42 16 with
      | inl c => rw [hm] at h; cases h
      | inr q =>
        obtain ⟨n, v⟩ := q
        rw [hm] at h
        rw [marked_app r hm]
        simp only at h ⊢
        rw [List.drop_append_of_le_length (marked_fits hm).2]
        cases hbk : bulksM n ((b :: l).drop v) with
        | inl c => rw [hbk] at h; cases h
        | inr q =>
          obtain ⟨ts', v'⟩ := q
          rw [hbk] at h
          rw [bulks_app n _ r ts' v' hbk]
          exact h
    · rw [if_neg hb] at h ⊢
      unfold lineWords at h ⊢
      split at h
      · cases h
      · split at h
        · cases h
        · rename_i h1 h2
          have hf := indexByte_fits (b :: l) 10 (by omega)
          rw [← List.cons_append, ib_app (b :: l) r 10 (by omega), if_neg h1, if_neg h2, List.take_append_of_le_length (by omega)]
          exact h

/-- What is wrong stays wrong whatever comes behind it. -/
theorem request_bad {l : List UInt8} (r : List UInt8) (h : requestM l = .inl 2) : requestM (l ++ r) = .inl 2 := by
  match l, h with
  | [], h => cases h
  | b :: l, h =>
    rw [List.cons_append]
    unfold requestM at h ⊢
    simp only at h ⊢
    by_cases hb : b = 42
    · rw [if_pos hb] at h ⊢
      unfold bulksAllM at h ⊢
      rw [← List.cons_append]
      cases hm : markedM (b :: l) 42 16 with
      | inl c =>
        rw [hm] at h
        have hc : c = 2 := by injection h
        subst hc
        rw [marked_bad r (by omega) hm]
      | inr q =>
        obtain ⟨n, v⟩ := q
        rw [hm] at h
        rw [marked_app r hm]
        simp only at h ⊢
        rw [List.drop_append_of_le_length (marked_fits hm).2]
        cases hbk : bulksM n ((b :: l).drop v) with
        | inl c =>
          rw [hbk] at h
          have hc : c = 2 := by injection h
          subst hc
          rw [bulks_bad n _ r hbk]
        | inr q =>
          obtain ⟨ts', v'⟩ := q
          rw [hbk] at h
          cases h
    · rw [if_neg hb] at h ⊢
      unfold lineWords at h ⊢
      rw [← List.cons_append]
      split at h
      · rename_i h1
        rw [ib_app (b :: l) r 10 (by omega), if_pos h1]
      · rename_i h1
        split at h
        · rename_i h2
          have hlen : 300 < (b :: l).length := by
            by_cases hx : 300 < (b :: l).length
            · exact hx
            · rw [if_neg hx] at h; injection h with h; omega
          have h3 : Lib.indexByte (b :: l) 10 = -1 := by have := Lib.indexByte_ge (b :: l) 10; omega
          by_cases h4 : 0 ≤ Lib.indexByte (b :: l ++ r) 10
          · have := ib_past (b :: l) r 10 h3 h4
            rw [if_pos (by omega)]
          · rw [if_neg (by omega), if_pos (by omega), if_pos (by rw [List.length_append]; omega)]
        · rename_i h2
          have hf := indexByte_fits (b :: l) 10 (by omega)
          rw [ib_app (b :: l) r 10 (by omega), if_neg h1, if_neg h2, List.take_append_of_le_length (by omega)]
          split at h
          · cases h
          · rename_i h3
            rw [if_neg h3]

abbrev Reqs := List (List (List UInt8)) × List UInt8 × Bool

def putReq (ts : List (List UInt8)) (q : Reqs) : Reqs := (if ts = [] then q.1 else ts :: q.1, q.2)

def fedF : Nat → List UInt8 → Reqs
  | 0, l => ([], l, true)
  | k + 1, l => match requestM l with
    | .inl c => if c = 2 then ([], [], false) else ([], l, true)
    | .inr (ts, u) => putReq ts (fedF k (l.drop u))

theorem fedF_more : ∀ (k j : Nat) (l : List UInt8), l.length < k → l.length < j → fedF k l = fedF j l
  | 0, _, _, h, _ => by omega
  | _, 0, _, _, h => by omega
  | k + 1, j + 1, l, h1, h2 => by
    rw [fedF, fedF]
    cases hm : requestM l with
    | inl c => rfl
    | inr q =>
      obtain ⟨ts, u⟩ := q
      obtain ⟨_, _, hu, hl⟩ := request_fits hm
      simp only
      rw [fedF_more k j (l.drop u) (by rw [List.length_drop]; omega) (by rw [List.length_drop]; omega)]

/-- The requests of some bytes, what is left, and whether nothing was wrong. -/
def fedM (l : List UInt8) : Reqs := fedF (l.length + 1) l

theorem fed_step {l : List UInt8} {ts : List (List UInt8)} {u : Nat} (h : requestM l = .inr (ts, u)) : fedM l = putReq ts (fedM (l.drop u)) := by
  obtain ⟨_, _, hu, hl⟩ := request_fits h
  unfold fedM
  rw [fedF, h]
  simp only
  rw [fedF_more l.length ((l.drop u).length + 1) (l.drop u) (by rw [List.length_drop]; omega) (by omega)]

theorem fed_bad {l : List UInt8} (h : requestM l = .inl 2) : fedM l = ([], [], false) := by
  unfold fedM
  rw [fedF, h]
  rfl

theorem fed_more {l : List UInt8} {c : Int} (h : requestM l = .inl c) (hc : c ≠ 2) : fedM l = ([], l, true) := by
  unfold fedM
  rw [fedF, h]
  simp [hc]

def addReqs (acc : List (List (List UInt8))) (q : Reqs) : Reqs := (acc ++ q.1, q.2)

theorem add_put (acc : List (List (List UInt8))) (ts : List (List UInt8)) (q : Reqs) : addReqs acc (putReq ts q) = addReqs (acc ++ if ts = [] then [] else [ts]) q := by
  unfold addReqs putReq
  by_cases h : ts = []
  · simp [h]
  · simp [h]

theorem add_nil (q : Reqs) : addReqs [] q = q := rfl

theorem put_as (ts : List (List UInt8)) (q : Reqs) : putReq ts q = addReqs (if ts = [] then [] else [ts]) q := by
  have := add_put [] ts q
  rwa [add_nil, List.nil_append] at this

theorem add_add (a b : List (List (List UInt8))) (q : Reqs) : addReqs a (addReqs b q) = addReqs (a ++ b) q := by
  unfold addReqs; simp

/-- How a reading of what comes ends: with what is left more is wanted, or something was wrong. -/
theorem fed_ends (l : List UInt8) : ((fedM l).2.2 = true ∧ ∃ c, requestM (fedM l).2.1 = .inl c ∧ c ≠ 2) ∨ ((fedM l).2.2 = false ∧ (fedM l).2.1 = []) := by
  induction hn : l.length using Nat.strongRecOn generalizing l with
  | _ n ih =>
    cases hm : requestM l with
    | inl c =>
      by_cases hc : c = 2
      · subst hc; rw [fed_bad hm]; exact .inr ⟨rfl, rfl⟩
      · rw [fed_more hm hc]; exact .inl ⟨rfl, c, hm, hc⟩
    | inr q =>
      obtain ⟨ts, u⟩ := q
      obtain ⟨_, _, hu, hl⟩ := request_fits hm
      rw [fed_step hm]
      exact ih (l.drop u).length (by rw [List.length_drop]; omega) (l.drop u) rfl

theorem fed_len (l : List UInt8) : (fedM l).2.1.length ≤ l.length := by
  induction hn : l.length using Nat.strongRecOn generalizing l with
  | _ n ih =>
    cases hm : requestM l with
    | inl c =>
      by_cases hc : c = 2
      · subst hc; rw [fed_bad hm]; simp
      · rw [fed_more hm hc]; show l.length ≤ n; omega
    | inr q =>
      obtain ⟨ts, u⟩ := q
      obtain ⟨_, _, hu, hl⟩ := request_fits hm
      rw [fed_step hm]
      have := ih (l.drop u).length (by rw [List.length_drop]; omega) (l.drop u) rfl
      rw [List.length_drop] at this
      show (fedM (l.drop u)).2.1.length ≤ n
      omega

theorem fed_reqs (l : List UInt8) : (fedM l).1.length ≤ l.length ∧ ∀ ts ∈ (fedM l).1, ts ≠ [] ∧ ts.length ≤ 16 ∧ ∀ t ∈ ts, t.length ≤ 200 := by
  induction hn : l.length using Nat.strongRecOn generalizing l with
  | _ n ih =>
    cases hm : requestM l with
    | inl c =>
      by_cases hc : c = 2
      · subst hc; rw [fed_bad hm]; exact ⟨by simp, fun ts h => by cases h⟩
      · rw [fed_more hm hc]; exact ⟨by simp, fun ts h => by cases h⟩
    | inr q =>
      obtain ⟨ts, u⟩ := q
      obtain ⟨h16, h200, hu, hl⟩ := request_fits hm
      rw [fed_step hm]
      obtain ⟨i1, i2⟩ := ih (l.drop u).length (by rw [List.length_drop]; omega) (l.drop u) rfl
      rw [List.length_drop] at i1
      unfold putReq
      by_cases ht : ts = []
      · simp only [ht, if_true]
        exact ⟨by omega, i2⟩
      · simp only [ht, if_false]
        refine ⟨(by rw [List.length_cons]; omega), fun x hx => ?_⟩
        rcases List.mem_cons.1 hx with rfl | hx
        · exact ⟨ht, h16, h200⟩
        · exact i2 x hx

/-- In two pieces they are the same requests. -/
theorem fed_two (r l : List UInt8) : ((fedM l).2.2 = true → fedM (l ++ r) = addReqs (fedM l).1 (fedM ((fedM l).2.1 ++ r))) ∧ ((fedM l).2.2 = false → fedM (l ++ r) = fedM l) := by
  induction hn : l.length using Nat.strongRecOn generalizing l with
  | _ n ih =>
    cases hm : requestM l with
    | inl c =>
      by_cases hc : c = 2
      · subst hc
        rw [fed_bad hm, fed_bad (request_bad r hm)]
        exact ⟨(fun h => by cases h), fun _ => rfl⟩
      · rw [fed_more hm hc]
        exact ⟨fun _ => rfl, fun h => by cases h⟩
    | inr q =>
      obtain ⟨ts, u⟩ := q
      obtain ⟨_, _, hu, hl⟩ := request_fits hm
      obtain ⟨i1, i2⟩ := ih (l.drop u).length (by rw [List.length_drop]; omega) (l.drop u) rfl
      rw [fed_step (request_app r hm), List.drop_append_of_le_length hl, fed_step hm]
      refine ⟨fun h => ?_, fun h => ?_⟩
      · rw [i1 h]
        unfold putReq addReqs
        by_cases ht : ts = []
        · simp [ht]
        · simp [ht]
      · rw [i2 h]
end Go.Proofs.YtjgmkbldclangaaGreatDoor.Fd

namespace Go.Proofs.YtjgmkbldclangaaGreatDoor.Fd
open Go.RowKit Go.Sort

theorem info30 : (Tryz.prog.info? 52).map (fun i => (i.zero, i.size, i.bytes)) = some (some (.slice none 0 0), 1, 24) := by kernel_rfl

/-- The rows' blocks rise: no two are one. -/
def Rise (x y : Value) : Prop := ∀ a b, x.ownBlock = some a → y.ownBlock = some b → a < b

structure Own2 (W : World) (B : Nat) (v : Value) (xs : List Value) (rows : List (List Value)) : Prop where
  outer : W.ownsRow B 52 1 v rows.length xs
  inner : ∀ (i : Nat) (r : List Value), rows[i]? = some r → ∃ x, xs[i]? = some x ∧ W.ownsRow B 9 1 x r.length r
  up : xs.Pairwise Rise

theorem own_kept {w w' : World} {B n : Nat} {T : TypeId} {v : Value} {xs : List Value} (h : w.ownsRow B T 1 v n xs) (hb : Below w.heap.size w w') : w'.ownsRow B T 1 v n xs :=
  h.kept (row := some w.heap.size) ⟨hb.os, hb.tape, hb.output, hb.size, fun k hk _ => hb.block k hk⟩ (.inr fun e => by have := (h.lt w.heap.size e).2; omega)

theorem Own2.below {W W' : World} {B : Nat} {v : Value} {xs : List Value} {rows : List (List Value)} (h : Own2 W B v xs rows) (hb : Below W.heap.size W W') : Own2 W' B v xs rows :=
  ⟨own_kept h.outer hb, fun i r hr => by obtain ⟨x, h1, h2⟩ := h.inner i r hr; exact ⟨x, h1, own_kept h2 hb⟩, h.up⟩

theorem Own2.drewN {W : World} {B : Nat} {v : Value} {xs : List Value} {rows : List (List Value)} (h : Own2 W B v xs rows) (q : Nat) : Own2 (W.drewN q) B v xs rows := ⟨h.outer, h.inner, h.up⟩

theorem Own2.base {W : World} {B B' : Nat} {v : Value} {xs : List Value} {rows : List (List Value)} (h : Own2 W B v xs rows) (hB : B' ≤ B) : Own2 W B' v xs rows :=
  ⟨Joins.ownsRow_le h.outer hB, fun i r hr => by obtain ⟨x, h1, h2⟩ := h.inner i r hr; exact ⟨x, h1, Joins.ownsRow_le h2 hB⟩, h.up⟩

/-- The type that a row's block bears. -/
theorem own_type {W : World} {B n g : Nat} {T : TypeId} {v : Value} {xs : List Value} (h : W.ownsRow B T 1 v n xs) (hg : v.ownBlock = some g) : ∃ C, W.heap[g]? = some (.cells C T (0, 0)) := by
  obtain ⟨_, ⟨rfl, _⟩ | ⟨g', cap, cur, rfl, _, hh, _⟩⟩ := h
  · simp [Value.ownBlock] at hg
  · have : g' = g := by simpa [Value.ownBlock] using hg
    subst this
    exact ⟨cur, hh⟩

theorem own_apart {W : World} {B B' n n' : Nat} {v v' : Value} {xs xs' : List Value} (h : W.ownsRow B 52 1 v n xs) (h' : W.ownsRow B' 9 1 v' n' xs') {g : Nat} (hg : v.ownBlock = some g) : v'.ownBlock ≠ some g := fun e => by
  obtain ⟨C, h1⟩ := own_type h hg
  obtain ⟨C', h2⟩ := own_type h' e
  rw [h1] at h2
  cases h2

theorem Own2.nil (W : World) (B : Nat) : Own2 W B (.slice none 0 0) [] [] := ⟨World.ownsRow_nil _ _ _ _, fun i r hr => by simp at hr, List.Pairwise.nil⟩

theorem Own2.none (w : World) (B : Nat) (hB : B ≤ w.heap.size) : Own2 (w.alloc (.cells #[] 52)) B (.slice (some ⟨w.heap.size, 0, none⟩) 0 0) [] [] :=
  ⟨⟨rfl, .inr ⟨w.heap.size, 0, #[], rfl, hB, RowAt.new w 52 #[], by simp, by unfold maxLen; omega, by simp, by simp⟩⟩, fun i r hr => by simp at hr, List.Pairwise.nil⟩

theorem Own2.blocks {W : World} {B : Nat} {v : Value} {xs : List Value} {rows : List (List Value)} (h : Own2 W B v xs rows) : ∀ x ∈ xs, ∀ a, x.ownBlock = some a → B ≤ a ∧ a < W.heap.size := fun x hx a ha => by
  obtain ⟨i, hi⟩ := List.getElem?_of_mem hx
  have hl : xs.length = rows.length := by
    have := h.outer.1
    omega
  have hil : i < xs.length := (List.getElem?_eq_some_iff.1 hi).1
  obtain ⟨y, h1, h2⟩ := h.inner i rows[i] (List.getElem?_eq_getElem (by omega))
  rw [hi] at h1
  cases h1
  exact h2.lt a ha

/-- A row more. -/
theorem Own2.more {W W' : World} {B M : Nat} {v v' x : Value} {xs : List Value} {rows : List (List Value)} {r : List Value} (h : Own2 W B v xs rows) (hx : W.ownsRow M 9 1 x r.length r) (hM : ∀ y ∈ xs, ∀ a, y.ownBlock = some a → a < M) (hBM : B ≤ M)
    (ho : W'.ownsRow B 52 1 v' (rows.length + 1) (xs ++ [x])) (hk : ∀ k, k < W.heap.size → some k ≠ v.ownBlock → W'.heap[k]? = W.heap[k]?) (hos : W'.os = W.os) (htp : W'.tape = W.tape) (hou : W'.output = W.output) (hsz : W.heap.size ≤ W'.heap.size) :
    Own2 W' B v' (xs ++ [x]) (rows ++ [r]) := by
  have hl : xs.length = rows.length := by have := h.outer.1; omega
  have kp : ∀ {y : Value} {n : Nat} {ys : List Value} {B' : Nat}, W.ownsRow B' 9 1 y n ys → W'.ownsRow B' 9 1 y n ys := fun {y n ys B'} hy =>
    hy.kept (row := v.ownBlock) ⟨hos, htp, hou, hsz, fun k hk' hne => hk k hk' hne⟩ (by
      cases hv : v.ownBlock with
      | none =>
        by_cases hyn : y.ownBlock = Option.none
        · exact .inl hyn
        · exact .inr hyn
      | some g => exact .inr (own_apart h.outer hy hv))
  refine ⟨by rw [List.length_append, List.length_singleton]; exact ho, fun i s hs => ?_, ?_⟩
  · by_cases hi : i < rows.length
    · rw [List.getElem?_append_left hi] at hs
      obtain ⟨y, h1, h2⟩ := h.inner i s hs
      exact ⟨y, by rw [List.getElem?_append_left (by omega)]; exact h1, kp h2⟩
    · have hi2 : i = rows.length := by
        have := (List.getElem?_eq_some_iff.1 hs).1
        rw [List.length_append, List.length_singleton] at this
        omega
      subst hi2
      rw [List.getElem?_append_right (Nat.le_refl _), Nat.sub_self] at hs
      cases hs
      exact ⟨x, by rw [← hl, List.getElem?_append_right (Nat.le_refl _), Nat.sub_self]; rfl, kp (Joins.ownsRow_le hx hBM)⟩
  · rw [List.pairwise_append]
    refine ⟨h.up, List.pairwise_singleton _ _, fun y hy z hz => ?_⟩
    rw [List.mem_singleton] at hz
    subst hz
    intro a b ha hb
    have h1 := hM y hy a ha
    have h2 := (hx.lt b hb).1
    omega
end Go.Proofs.YtjgmkbldclangaaGreatDoor.Fd

namespace Go.Proofs.YtjgmkbldclangaaGreatDoor.Fd
open Go.RowKit Go.Sort

def rowsOf (L : List (List (List UInt8))) : List (List Value) := L.map strVals

theorem rowsOf_len (L : List (List (List UInt8))) : (rowsOf L).length = L.length := by unfold rowsOf; rw [List.length_map]
theorem rowsOf_snoc (L : List (List (List UInt8))) (ts : List (List UInt8)) : rowsOf (L ++ [ts]) = rowsOf L ++ [strVals ts] := by unfold rowsOf; rw [List.map_append]; rfl
theorem strVals_len (ts : List (List UInt8)) : (strVals ts).length = ts.length := by unfold strVals; rw [List.length_map]

/-- How a reading of what came ends. -/
def FedEnd (w : World) (m : Reqs) (e : Ending) (w' : World) : Prop :=
  ∃ v xs, e = .returned (.tuple #[v, .string ⟨m.2.1.toArray⟩, .bool m.2.2]) ∧ Own2 w' w.heap.size v xs (rowsOf m.1) ∧ Below w.heap.size w w'

def strLen : Value → Nat
  | .string s => s.size
  | _ => 0

theorem slice_any {w : World} {B n : Nat} {v : Value} {xs : List Value} {T : TypeId} (h : w.ownsRow B T 1 v n xs) : ∃ a c, v = .slice a n c := by
  rcases Joins.ownsRow_forms h with ⟨rfl, rfl⟩ | ⟨A, c, rfl⟩
  · exact ⟨none, 0, rfl⟩
  · exact ⟨some ⟨A, 0, none⟩, c, rfl⟩

theorem drop_str (t : ByteArray) (u : Nat) (_hu : u ≤ t.size) : (t.extract u t.size).data.toList = t.data.toList.drop u := by
  rw [Lib.extract_data, List.take_of_length_le]
  rw [List.length_drop, Lib.size_eq]
  omega

set_option maxHeartbeats 4000000 in
set_option maxRecDepth 100000 in
theorem specFed (a b : ByteArray) (w : World) (hs : a.size + b.size ≤ 2097152) :
    Calls Tryz.prog 25 #[.string a, .string b] w (FedEnd w (fedM (a.data.toList ++ b.data.toList))) := by
  obtain ⟨i0, hi, hz0, hz1, hz2⟩ := info_parts info30
  have hd : (a ++ b).data.toList = a.data.toList ++ b.data.toList := by simp
  have hsz : (a ++ b).size = a.size + b.size := ByteArray.size_append
  rw [← hd]
  obtain ⟨l, hl⟩ : ∃ l, (a ++ b).data.toList = l := ⟨_, rfl⟩
  rw [hl]
  have HL : Hid ((a ++ b).data.toList = l) := hl
  clear hl hd
  have HO : Hid _ := Own2.none w w.heap.size (Nat.le_refl _)
  have HB : Hid (Below w.heap.size w (w.alloc (.cells #[] 52))) := (Below.refl _ w).alloc (Nat.le_refl _) _
  go_enter Tryz.func25, Tryz.ntmps25
  go_wp2_with fail
  generalize a ++ b = t0 at *
  have hs0 : t0.size ≤ 2097152 := by omega
  clear hsz hs
  go_loopw [7, 8] (fun sv ov wr => ∃ (t : ByteArray) (acc : List (List (List UInt8))) (xs : List Value), sv = .string t ∧ acc.length + t.size ≤ t0.size ∧ Own2 wr w.heap.size ov xs (rowsOf acc) ∧ Hid (fedM l = addReqs acc (fedM t.data.toList)) ∧ Below w.heap.size w wr) (fun sv _ _ => strLen sv)
  case atStart => exact ⟨t0, [], [], rfl, by simp, HO.out, by unfold Hid; rw [HL.out, add_nil], HB.out⟩
  case round =>
    obtain ⟨t, acc, xs, rfl, hlen, ho, hf, bk⟩ := hrel
    have sk := bk.size
    have HSP := spReq t wr (by omega)
    clear HO HB HL
    cases hm : requestM t.data.toList with
    | inl c =>
      rw [hm] at HSP
      have HSP' : Hid (Calls Tryz.prog 43 #[.string t] wr fun e w' => e = .returned (.tuple #[.slice none 0 0, .int .i64 0, .int .i64 c]) ∧ Below wr.heap.size wr w') := HSP
      obtain ⟨o1, o2, hov⟩ := slice_any ho.outer
      subst hov
      rcases requestM_codes hm with rfl | rfl
      · have HF : Hid (fedM l = (acc, t.data.toList, true)) := by
          unfold Hid
          rw [hf.out, fed_more hm (by omega)]
          simp [addReqs]
        clear HSP hm hf
        go_wp2_with fail
        refine HSP'.out.mono ?_
        rintro e w1 ⟨rfl, b1⟩
        have H2 : Hid _ := ho.below b1
        have bb := bk.trans (b1.mono sk)
        clear ho b1 HSP'
        go_wp2
        go_ret3
        show FedEnd w (fedM l) _ _
        rw [HF.out]
        exact ⟨_, xs, rfl, H2.out, bb⟩
      · have HF : Hid (fedM l = (acc, [], false)) := by
          unfold Hid
          rw [hf.out, fed_bad hm]
          simp [addReqs]
        clear HSP hm hf
        go_wp2_with fail
        refine HSP'.out.mono ?_
        rintro e w1 ⟨rfl, b1⟩
        have H2 : Hid _ := ho.below b1
        have bb := bk.trans (b1.mono sk)
        clear ho b1 HSP'
        go_wp2
        go_ret3
        show FedEnd w (fedM l) _ _
        rw [HF.out]
        exact ⟨_, xs, rfl, H2.out, bb⟩
    | inr p =>
      obtain ⟨ts, u⟩ := p
      rw [hm] at HSP
      obtain ⟨h16, _, hu0, hu1⟩ := request_fits hm
      rw [← Lib.size_eq] at hu1
      have HSP' : Hid (Calls Tryz.prog 43 #[.string t] wr fun e w' => ∃ v, e = .returned (.tuple #[v, .int .i64 u, .int .i64 0]) ∧ w'.ownsRow wr.heap.size 9 1 v ts.length (strVals ts) ∧ Below wr.heap.size wr w') := HSP
      have HF : Hid (fedM l = addReqs (acc ++ if ts = [] then [] else [ts]) (fedM (t.extract u t.size).data.toList)) := by
        unfold Hid
        rw [hf.out, fed_step hm, add_put, drop_str t u hu1]
      have HX : Hid (∀ y ∈ xs, ∀ a, y.ownBlock = some a → a < wr.heap.size) := fun y hy a ha => (ho.blocks y hy a ha).2
      have hui : (u : Int) ≤ (t.size : Int) := by omega
      have hsz1 : (t.extract u t.size).size = t.size - u := by simp
      clear HSP hm hf
      go_wp2_with fail
      refine HSP'.out.mono ?_
      rintro e w1 ⟨v1, rfl, o1, b1⟩
      obtain ⟨a1, c1, rfl⟩ := slice_any o1
      have H2 := ho.below b1
      have bb := bk.trans (b1.mono sk)
      have s1 := bb.size
      clear ho b1 HSP'
      by_cases ht : ts = []
      · subst ht
        have HF' : Hid (fedM l = addReqs acc (fedM (t.extract u t.size).data.toList)) := by
          have := HF.out
          rwa [if_pos rfl, List.append_nil] at this
        have HH : Hid _ := H2
        clear HF H2 o1
        go_wp2
        go_roundw
        case rel => exact ⟨_, acc, xs, rfl, by rw [hsz1]; omega, HH.out, HF', bb⟩
        case measure => simp [strLen]; omega
      · have HF' : Hid (fedM l = addReqs (acc ++ [ts]) (fedM (t.extract u t.size).data.toList)) := by
          have := HF.out
          rwa [if_neg ht] at this
        have hpos : 0 < ts.length := List.length_pos_iff.2 ht
        have hdp : (0 : Int) < (ts.length : Int) := by omega
        have hrl : (rowsOf acc).length ≤ 2097152 := by rw [rowsOf_len]; omega
        clear HF ht
        go_wp2_with (at_builtin; refine wpList_append_own _ rfl _ _ 39 rfl w.heap.size 52 i0 _ 1 24 Tryz.underlying39 hi hz0 hz1 hz2 rfl (by decide) _ _ _ rfl (H2.outer.alloc _) ⟨w1.heap.size, 0, none⟩ 1 1 [.slice a1 ts.length c1] rfl rfl ?c1 ?c2 ?c3 ?c4 ?c5 ?_)
        case c1 => exact cell_one_new _ _ _
        case c2 => intro y hy; simp at hy; subst hy; rfl
        case c3 => unfold maxLen; omega
        case c4 => omega
        case c5 => simp; omega
        intro v' w5 hown' hgrow _
        have hold : ∀ k, k < w1.heap.size → some k ≠ Value.ownBlock u8 → w5.heap[k]? = w1.heap[k]? := fun k hk hne => by
          rw [hgrow.block k (by simp; omega) hne]
          exact Below.heap_alloc _ _ _ hk
        have hsz5 : w1.heap.size ≤ w5.heap.size := by have := hgrow.size; simp at this; omega
        have H5 : Hid (Own2 w5 w.heap.size v' (xs ++ [.slice a1 ts.length c1]) (rowsOf (acc ++ [ts]))) := by
          unfold Hid
          rw [rowsOf_snoc]
          exact H2.more (by rw [strVals_len]; exact o1) HX.out sk hown' hold hgrow.os hgrow.tape hgrow.output hsz5
        have B5 : Hid (Below w.heap.size w w5) := ⟨hgrow.os.trans bb.os, hgrow.tape.trans bb.tape, hgrow.output.trans bb.output, by omega, fun k hk => (hold k (by omega) (fun e => by have := (H2.outer.lt k e.symm).1; omega)).trans (bb.block k hk)⟩
        obtain ⟨a5, c5, hv5⟩ := slice_any H5.out.outer
        subst hv5
        clear hown' hgrow hold H2 o1 HX
        go_wp2
        go_roundw
        case rel => exact ⟨_, acc ++ [ts], _, rfl, by rw [hsz1, List.length_append, List.length_singleton]; omega, H5.out, HF', B5.out⟩
        case measure => simp [strLen]; omega
end Go.Proofs.YtjgmkbldclangaaGreatDoor.Fd
