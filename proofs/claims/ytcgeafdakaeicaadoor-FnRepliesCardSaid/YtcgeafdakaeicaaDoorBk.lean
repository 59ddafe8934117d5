/- Plain mathematics: a line that was written is read back; cut anywhere, more is wanted. Plain mathematics: a right reply comes back from its text, whatever stands behind it; cut anywhere, more is wanted. -/
import Derived.Test.YtcgeafdakaeicaaDoorTx
namespace Go.Proofs.YtcgeafdakaeicaaDoor.Bk
open Go.Lib
open Rp (Nd nd0 plainB numB fieldsB)

theorem dec_digits : ∀ (n : Nat), ∀ x ∈ Lib.decDigits n, x ≠ 13 := by
  intro n
  induction n using Nat.strongRecOn with
  | _ n ih =>
    intro x hx
    by_cases h10 : n < 10
    · rw [Lib.decDigits_one h10] at hx
      simp only [List.mem_singleton] at hx
      intro e
      have h2 := ofNat_dig n h10
      rw [← hx, e] at h2
      have h3 : (13 : UInt8).toNat = 13 := rfl
      omega
    · rw [dig_step n (by omega)] at hx
      rcases List.mem_append.1 hx with hx | hx
      · exact ih (n / 10) (by omega) x hx
      · simp only [List.mem_singleton] at hx
        intro e
        have h2 := ofNat_dig (n % 10) (by omega)
        rw [← hx, e] at h2
        have h3 : (13 : UInt8).toNat = 13 := rfl
        omega

theorem itoa_digits (v : Int) : ∀ x ∈ Lib.itoa v, x ≠ 13 := by
  intro x hx
  unfold Lib.itoa at hx
  split at hx
  · rcases List.mem_cons.1 hx with rfl | hx
    · decide
    · exact dec_digits _ x hx
  · exact dec_digits _ x hx

theorem index_line : ∀ (p rest : List UInt8), (∀ x ∈ p, x ≠ 13) → Lib.index (p ++ 13 :: 10 :: rest) [13, 10] = p.length
  | [], rest, _ => by
    show Lib.index (13 :: 10 :: rest) [13, 10] = 0
    unfold Lib.index
    simp [List.isPrefixOf]
  | b :: p, rest, h => by
    have hb : b ≠ 13 := h b (by simp)
    have ih := index_line p rest (fun x hx => h x (by simp [hx]))
    rw [List.cons_append]
    unfold Lib.index
    have hp : ([13, 10] : List UInt8).isPrefixOf (b :: (p ++ 13 :: 10 :: rest)) = false := by
      simp [List.isPrefixOf]
      intro e
      exact absurd e.symm hb
    rw [hp, ih]
    simp

theorem index_none : ∀ (p : List UInt8), (∀ x ∈ p, x ≠ 13) → ∀ q, q = [] ∨ q = [13] → Lib.index (p ++ q) [13, 10] = -1
  | [], _, q, hq => by
    rcases hq with rfl | rfl
    · rfl
    · simp [Lib.index, List.isPrefixOf]
  | b :: p, h, q, hq => by
    have hb : b ≠ 13 := h b (by simp)
    have ih := index_none p (fun x hx => h x (by simp [hx])) q hq
    rw [List.cons_append]
    unfold Lib.index
    have hp : ([13, 10] : List UInt8).isPrefixOf (b :: (p ++ q)) = false := by
      simp [List.isPrefixOf]
      intro e
      exact absurd e.symm hb
    rw [hp, ih]
    simp

theorem line_whole (p rest : List UInt8) (h : ∀ x ∈ p, x ≠ 13) : lineM (p ++ crlf ++ rest) = .inr p := by
  have e : p ++ crlf ++ rest = p ++ 13 :: 10 :: rest := by simp [crlf]
  rw [e]
  unfold lineM
  rw [index_line p rest h, if_pos (by omega)]
  simp

theorem line_cut (p rest : List UInt8) (h : ∀ x ∈ p, x ≠ 13) (k : Nat) (hk : k < p.length + 2) (hl : p.length ≤ 290) : lineM ((p ++ crlf ++ rest).take k) = .inl 1 := by
  have e : (p ++ crlf ++ rest).take k = p.take k ++ (if k = p.length + 1 then [13] else []) := by
    by_cases h1 : k ≤ p.length
    · rw [if_neg (by omega), List.append_assoc, List.take_append_of_le_length h1, List.append_nil]
    · have hk1 : k = p.length + 1 := by omega
      subst hk1
      have e0 : p.take (p.length + 1) = p := List.take_of_length_le (by omega)
      rw [if_pos rfl, List.append_assoc, List.take_length_add_append, e0]
      simp [crlf]
  have hm : ∀ x ∈ p.take k, x ≠ 13 := fun x hx => h x (List.mem_of_mem_take hx)
  have hi : Lib.index (p.take k ++ (if k = p.length + 1 then [13] else [])) [13, 10] = -1 := index_none _ hm _ (by split <;> simp)
  have hlen : (p.take k ++ (if k = p.length + 1 then [13] else [])).length ≤ 300 := by
    rw [List.length_append, List.length_take]
    split <;> simp <;> omega
  unfold lineM
  rw [e, hi, if_neg (by omega), if_neg (by omega)]

theorem count_dec (n : Nat) (most : Int) (h : (n : Int) ≤ most) (hn : n ≤ 1048576) : countM (Lib.decDigits n) most = some n := by
  have e := decM_itoa (n : Int) (decide_eq_true (by omega))
  rw [itoa_nat] at e
  unfold countM
  rw [e]
  show (if _ then _ else _) = _
  rw [if_pos ⟨by omega, h⟩]
  simp

theorem some_whole (t rest : List UInt8) : someM (t ++ crlf ++ rest) t.length = .inr t := by
  unfold someM
  rw [if_neg (by simp [crlf])]
  have e : (List.drop t.length (t ++ crlf ++ rest)).take 2 = [13, 10] := by simp [crlf]
  rw [if_pos e]
  simp

theorem some_cut (t rest : List UInt8) (k : Nat) (h : k < t.length + 2) : someM ((t ++ crlf ++ rest).take k) t.length = .inl 1 := by
  unfold someM
  rw [if_pos (by rw [List.length_take]; omega)]

theorem take_past (p q : List UInt8) (k : Nat) (h : p.length ≤ k) : (p ++ q).take k = p ++ q.take (k - p.length) := by
  rw [List.take_append, List.take_of_length_le h]

/-- A line is read whole: its node comes of what stands behind it. -/
theorem reply_line (d i : Nat) (b : UInt8) (r Y : List UInt8) (h : ∀ x ∈ b :: r, x ≠ 13) : replyM (d + 1) ((b :: r) ++ crlf ++ Y) i = endM i (r.length + 3) (nodeM (replyM d) b r Y i) := by
  rw [reply_node (line_whole (b :: r) Y h)]
  have e : ((b :: r) ++ crlf ++ Y).drop (r.length + 3) = Y := by
    rw [show r.length + 3 = ((b :: r) ++ crlf).length from by simp [crlf], List.drop_left]
  rw [e]

/-- Cut within its line, more is wanted; cut behind it, its node is cut. -/
theorem reply_cut (d i : Nat) (b : UInt8) (r Y : List UInt8) (k : Nat) (h : ∀ x ∈ b :: r, x ≠ 13) (hl : r.length ≤ 280) (hn : ∀ j, j + (r.length + 3) = k → nodeM (replyM d) b r (Y.take j) i = .inl 1) : replyM (d + 1) (((b :: r) ++ crlf ++ Y).take k) i = .inl 1 := by
  by_cases hk : k < r.length + 3
  · exact reply_inl (line_cut (b :: r) Y h k (by simp; omega) (by simp; omega))
  · have hp : ((b :: r) ++ crlf).length = r.length + 3 := by simp [crlf]
    rw [take_past _ _ k (by omega), hp, reply_line d i b r _ h, hn _ (by omega)]
    rfl

/-- A right node that has no kids: its own text is a line and what belongs to it. -/
structure LeafLine (x : Nd) (b : UInt8) (r Y : List UInt8) : Prop where
  text : Rp.ownText x = (b :: r) ++ crlf ++ Y
  plain : ∀ z ∈ b :: r, z ≠ 13
  len : r.length ≤ 280
  read : ∀ (f : List UInt8 → Nat → Rep) (rest : List UInt8) (i : Nat), nodeM f b r (Y ++ rest) i = .inr ([], x, Y.length)
  cut : ∀ (f : List UInt8 → Nat → Rep) (rest : List UInt8) (i k : Nat), k < Y.length → nodeM f b r ((Y ++ rest).take k) i = .inl 1

theorem kids_none {x : Nd} (h : x.kids.length = 0) : x.kids = [] := List.eq_nil_of_length_eq_zero h

theorem str_none {s : ByteArray} (h : s.size = 0) : s = ⟨#[]⟩ := by
  have : s.data.toList = [] := List.eq_nil_of_length_eq_zero (by rw [← Lib.size_eq]; exact h)
  exact str_of s [] this

theorem plain_no13 {s : ByteArray} (h : plainB s = true) : s.size ≤ 200 ∧ ∀ z ∈ s.data.toList, z ≠ 13 := by
  unfold plainB at h
  rw [Bool.and_eq_true, decide_eq_true_iff, List.all_eq_true] at h
  refine ⟨h.1, fun z hz e => ?_⟩
  have := h.2 z hz
  subst e
  revert this
  decide

theorem leaf_line (x : Nd) (hf : fieldsB x = true) (h6 : x.kind ≠ 6) : x.kids = [] ∧ ∃ b r Y, LeafLine x b r Y := by
  obtain ⟨kind, num, s, kids⟩ := x
  have hsz : s.data.toList.length = s.size := (Lib.size_eq s).symm
  have hss : (⟨s.data.toList.toArray⟩ : ByteArray) = s := (str_of s _ rfl).symm
  by_cases k1 : kind = 1
  · subst k1
    rw [Rp.fields_text _ (.inl rfl)] at hf
    simp only [Bool.and_eq_true, decide_eq_true_iff] at hf
    obtain ⟨⟨h1, h2⟩, h3⟩ := hf
    have hk := List.eq_nil_of_length_eq_zero h3
    subst h1 hk
    obtain ⟨q1, q2⟩ := plain_no13 h2
    refine ⟨rfl, 43, s.data.toList, [], ?_, ?_, by omega, ?_, ?_⟩
    · simp [Rp.ownText]
    · intro z hz
      rcases List.mem_cons.1 hz with rfl | hz
      · decide
      · exact q2 z hz
    · intro f rest i
      unfold nodeM
      rw [if_pos rfl, hss, if_pos h2]
      rfl
    · intro f rest i k hk
      simp at hk
  by_cases k2 : kind = 2
  · subst k2
    rw [Rp.fields_text _ (.inr rfl)] at hf
    simp only [Bool.and_eq_true, decide_eq_true_iff] at hf
    obtain ⟨⟨h1, h2⟩, h3⟩ := hf
    have hk := List.eq_nil_of_length_eq_zero h3
    subst h1 hk
    obtain ⟨q1, q2⟩ := plain_no13 h2
    refine ⟨rfl, 45, s.data.toList, [], ?_, ?_, by omega, ?_, ?_⟩
    · simp [Rp.ownText]
    · intro z hz
      rcases List.mem_cons.1 hz with rfl | hz
      · decide
      · exact q2 z hz
    · intro f rest i
      unfold nodeM
      rw [if_neg (by decide), if_pos rfl, hss, if_pos h2]
      rfl
    · intro f rest i k hk
      simp at hk
  by_cases k3 : kind = 3
  · subst k3
    rw [Rp.fields_int _ rfl] at hf
    simp only [Bool.and_eq_true, decide_eq_true_iff] at hf
    obtain ⟨⟨h1, h2⟩, h3⟩ := hf
    have hk := List.eq_nil_of_length_eq_zero h3
    have hs0 := str_none h2
    subst hk hs0
    have hd := decM_itoa num (by simpa [inNum, numB, Rp.inB] using h1)
    have hl := Rp.itoa_len num h1
    refine ⟨rfl, 58, Lib.itoa num, [], ?_, ?_, by omega, ?_, ?_⟩
    · simp [Rp.ownText]
    · intro z hz
      rcases List.mem_cons.1 hz with rfl | hz
      · decide
      · exact itoa_digits num z hz
    · intro f rest i
      unfold nodeM
      rw [if_neg (by decide), if_neg (by decide), if_pos rfl, hd]
      rfl
    · intro f rest i k hk
      simp at hk
  by_cases k4 : kind = 4
  · subst k4
    rw [Rp.fields_bulk _ rfl] at hf
    simp only [Bool.and_eq_true, decide_eq_true_iff] at hf
    obtain ⟨⟨h1, h2⟩, h3⟩ := hf
    have hk := List.eq_nil_of_length_eq_zero h3
    subst h1 hk
    have h2' : s.size ≤ 200 := h2
    have hc := count_dec s.size 200 (by omega) (by omega)
    have hl := dec_len_le s.size (by omega)
    have hne : Lib.decDigits s.size ≠ [45, 49] := by
      obtain ⟨c, r, e1, e2, _⟩ := dec_head' s.size
      rw [e1]
      intro e
      injection e with e _
      subst e
      revert e2
      decide
    refine ⟨rfl, 36, Lib.decDigits s.size, s.data.toList ++ crlf, ?_, ?_, by omega, ?_, ?_⟩
    · simp [Rp.ownText, bulkText]
    · intro z hz
      rcases List.mem_cons.1 hz with rfl | hz
      · decide
      · exact dec_digits _ z hz
    · intro f rest i
      have hw := some_whole s.data.toList rest
      rw [hsz] at hw
      unfold nodeM
      rw [if_neg (by decide), if_neg (by decide), if_neg (by decide), if_pos rfl, if_neg hne, hc]
      simp only
      rw [hw]
      simp [hss, crlf, hsz]
    · intro f rest i k hk
      have hw := some_cut s.data.toList rest k (by simpa [crlf] using hk)
      rw [hsz] at hw
      unfold nodeM
      rw [if_neg (by decide), if_neg (by decide), if_neg (by decide), if_pos rfl, if_neg hne, hc]
      simp only
      rw [hw]
  by_cases k5 : kind = 5
  · subst k5
    rw [Rp.fields_null _ rfl] at hf
    simp only [Bool.and_eq_true, decide_eq_true_iff] at hf
    obtain ⟨⟨h1, h2⟩, h3⟩ := hf
    have hk := List.eq_nil_of_length_eq_zero h3
    have hs0 := str_none h2
    subst h1 hk hs0
    refine ⟨rfl, 36, [45, 49], [], ?_, ?_, by simp, ?_, ?_⟩
    · simp [Rp.ownText, crlf]
    · decide
    · intro f rest i
      unfold nodeM
      rw [if_neg (by decide), if_neg (by decide), if_neg (by decide), if_pos rfl, if_pos rfl]
      rfl
    · intro f rest i k hk
      simp at hk
  · exact absurd hf (by rw [Rp.fields_else _ k1 k2 k3 k4 k5 h6]; decide)
end Go.Proofs.YtcgeafdakaeicaaDoor.Bk

namespace Go.Proofs.YtcgeafdakaeicaaDoor.Bk
open Go.Lib
open Rp (Nd nd0 plainB numB fieldsB)

/-- The kids' trees stand one behind the other. -/
def Chain (L : List Nd) : Int → List Int → Int → Prop
  | f, [], e => f = e
  | f, k :: ks, e => 0 ≤ f ∧ f ≤ k ∧ Rp.tree L k.toNat = f ∧ Chain L (k + 1) ks e

theorem chain_snoc (L : List Nd) : ∀ (ks : List Int) (f e k : Int), Chain L f ks e → 0 ≤ e → e ≤ k → Rp.tree L k.toNat = e → Chain L f (ks ++ [k]) (k + 1)
  | [], f, e, k, h, h0, h1, h2 => by
    have h' : f = e := h
    subst h'
    exact ⟨h0, h1, h2, rfl⟩
  | j :: ks, f, e, k, h, h0, h1, h2 => by
    obtain ⟨a, b, c, g⟩ := h
    exact ⟨a, b, c, chain_snoc L ks (j + 1) e k g h0 h1 h2⟩

theorem chain_le (L : List Nd) : ∀ (ks : List Int) (f e : Int), Chain L f ks e → f ≤ e ∧ ∀ k ∈ ks, 0 ≤ k ∧ k + 1 ≤ e ∧ 0 ≤ Rp.tree L k.toNat
  | [], f, e, h => by
    have h' : f = e := h
    exact ⟨by omega, fun k hk => by cases hk⟩
  | j :: ks, f, e, h => by
    obtain ⟨a, b, c, g⟩ := h
    obtain ⟨i1, i2⟩ := chain_le L ks (j + 1) e g
    refine ⟨by omega, fun k hk => ?_⟩
    rcases List.mem_cons.1 hk with rfl | hk
    · exact ⟨by omega, by omega, by omega⟩
    · exact i2 k hk

theorem chain_tw (L : List Nd) : ∀ (rs : List Int) (a : Int), 0 ≤ Rp.tw (Rp.tree L) rs a → Chain L (Rp.tw (Rp.tree L) rs a) rs.reverse (a + 1)
  | [], a, _ => rfl
  | x :: rs, a, h => by
    have hle := Rp.tree_le L
    simp only [Rp.tw] at h ⊢
    by_cases h0 : a < 0 ∨ x ≠ a
    · rw [if_pos h0] at h; omega
    · rw [if_neg h0] at h ⊢
      by_cases h1 : Rp.tree L a.toNat < 0
      · rw [if_pos h1] at h; omega
      · rw [if_neg h1] at h ⊢
        obtain rfl : x = a := by omega
        have ih := chain_tw L rs (Rp.tree L x.toNat - 1) h
        rw [List.reverse_cons]
        have hx := hle x.toNat
        exact chain_snoc L rs.reverse _ _ x ih (by omega) (by omega) (by omega)

def seg (L : List Nd) (a b : Nat) : List Nd := (L.drop a).take (b - a)

theorem seg_app (L : List Nd) (a b c : Nat) (h1 : a ≤ b) (h2 : b ≤ c) : seg L a b ++ seg L b c = seg L a c := by
  unfold seg
  rw [show c - a = (b - a) + (c - b) from by omega, List.take_add, List.drop_drop, show a + (b - a) = b from by omega]

theorem seg_len (L : List Nd) (a b : Nat) (h1 : a ≤ b) (h2 : b ≤ L.length) : (seg L a b).length = b - a := by
  unfold seg
  rw [List.length_take, List.length_drop]
  omega

theorem seg_one (L : List Nd) (m : Nat) (h : m < L.length) : seg L m (m + 1) = [L.getD m nd0] := by
  unfold seg
  rw [show m + 1 - m = 1 from by omega, List.drop_eq_getElem_cons h, List.getD_eq_getElem?_getD, List.getElem?_eq_getElem h]
  rfl

structure Good (L : List Nd) (d m : Nat) : Prop where
  read : ∀ rest, replyM d (Rp.text L m ++ rest) (Rp.tree L m).toNat = .inr (seg L (Rp.tree L m).toNat (m + 1), (Rp.text L m).length)
  cut : ∀ rest k, k < (Rp.text L m).length → replyM d ((Rp.text L m ++ rest).take k) (Rp.tree L m).toNat = .inl 1

def kidsText (L : List Nd) (ks : List Int) : List UInt8 := ks.flatMap fun k => Rp.text L k.toNat

theorem kids_read (L : List Nd) (d : Nat) : ∀ (ks : List Int) (f e : Int), 0 ≤ f → Chain L f ks e → e ≤ L.length → (∀ k ∈ ks, Good L d k.toNat) → ∀ rest, kidsM (replyM d) ks.length (kidsText L ks ++ rest) f.toNat = .inr (seg L f.toNat e.toNat, ks, (kidsText L ks).length)
  | [], f, e, _, h, he, _, rest => by
    have h' : f = e := h
    subst h'
    simp [kidsM, kidsText, seg]
  | k :: ks, f, e, hf, h, he, hg, rest => by
    obtain ⟨a, b, c, g⟩ := h
    obtain ⟨i1, i2⟩ := chain_le L ks (k + 1) e g
    have ih := kids_read L d ks (k + 1) e (by omega) g he (fun j hj => hg j (by simp [hj])) rest
    have hr := (hg k (by simp)).read (kidsText L ks ++ rest)
    rw [c] at hr
    have ht : kidsText L (k :: ks) = Rp.text L k.toNat ++ kidsText L ks := rfl
    have hl := seg_len L f.toNat (k.toNat + 1) (by omega) (by omega)
    have e1 : f.toNat + (k.toNat + 1 - f.toNat) = (k + 1).toNat := by omega
    have e2 : (((k + 1).toNat : Nat) : Int) - 1 = k := by omega
    rw [ht, List.append_assoc, List.length_cons, kidsM_inr hr, List.drop_left, hl, e1, ih, e2]
    simp only [preK]
    rw [show k.toNat + 1 = (k + 1).toNat from by omega, seg_app L _ _ _ (by omega) (by omega), List.length_append]
    rfl

theorem kids_cut (L : List Nd) (d : Nat) : ∀ (ks : List Int) (f e : Int), 0 ≤ f → Chain L f ks e → e ≤ L.length → (∀ k ∈ ks, Good L d k.toNat) → ∀ rest j, j < (kidsText L ks).length → kidsM (replyM d) ks.length ((kidsText L ks ++ rest).take j) f.toNat = .inl 1
  | [], f, e, _, h, he, _, rest, j, hj => by simp [kidsText] at hj
  | k :: ks, f, e, hf, h, he, hg, rest, j, hj => by
    obtain ⟨a, b, c, g⟩ := h
    have ht : kidsText L (k :: ks) = Rp.text L k.toNat ++ kidsText L ks := rfl
    rw [ht, List.length_append] at hj
    rw [ht, List.append_assoc, List.length_cons]
    by_cases hk : j < (Rp.text L k.toNat).length
    · have hc := (hg k (by simp)).cut (kidsText L ks ++ rest) j hk
      rw [c] at hc
      rw [kidsM_inl hc]
    · obtain ⟨i1, i2⟩ := chain_le L ks (k + 1) e g
      have ih := kids_cut L d ks (k + 1) e (by omega) g he (fun j hj => hg j (by simp [hj])) rest (j - (Rp.text L k.toNat).length) (by omega)
      have hr := (hg k (by simp)).read ((kidsText L ks ++ rest).take (j - (Rp.text L k.toNat).length))
      rw [c] at hr
      have hl := seg_len L f.toNat (k.toNat + 1) (by omega) (by omega)
      have e1 : f.toNat + (k.toNat + 1 - f.toNat) = (k + 1).toNat := by omega
      rw [take_past _ _ j (by omega), kidsM_inr hr, List.drop_left, hl, e1, ih]
      rfl

theorem reply_back (L : List Nd) (hN : L.length ≤ 1000) (hF : ∀ m, m < L.length → fieldsB (L.getD m nd0) = true ∧ Rp.rangeB m (L.getD m nd0) = true) : ∀ (d m : Nat), m < L.length → 0 ≤ Rp.tree L m → Rp.deep L m ≤ d → Good L d m := by
  intro d
  induction d with
  | zero =>
    intro m _ _ hd
    have := (Rp.deep_bound L m).1
    omega
  | succ d ih =>
    intro m hm ht hd
    obtain ⟨hf, hr⟩ := hF m hm
    have hrange : ∀ k ∈ Rp.kidsOf L m, 0 ≤ k ∧ k < (m : Int) := fun k hk => by
      unfold Rp.rangeB at hr
      have := List.all_eq_true.1 hr k hk
      simp only [Rp.inB, decide_eq_true_iff] at this
      omega
    have htx := Rp.text_eq L m hrange
    have hte := Rp.tree_eq L m
    by_cases h6 : (L.getD m nd0).kind = 6
    · have hq : L.getD m nd0 = ⟨6, 0, ⟨#[]⟩, Rp.kidsOf L m⟩ := by
        unfold Rp.kidsOf
        generalize L.getD m nd0 = x at *
        obtain ⟨kind, num, s, kids⟩ := x
        have h6' : kind = 6 := h6
        subst h6'
        rw [Rp.fields_array _ rfl] at hf
        simp only [Bool.and_eq_true, decide_eq_true_iff] at hf
        obtain ⟨f1, f2⟩ := hf
        have f3 := str_none f2
        subst f1 f3
        rfl
      have ht' := ht
      rw [hte] at ht'
      have hch := chain_tw L _ _ ht'
      rw [← hte, List.reverse_reverse, show (m : Int) - 1 + 1 = (m : Int) from by omega] at hch
      obtain ⟨c1, c2⟩ := chain_le L _ _ _ hch
      have hgood : ∀ k ∈ Rp.kidsOf L m, Good L d k.toNat := fun k hk => by
        have h1 := hrange k hk
        have h2 := Rp.deep_kid L m k hk h1.1 h1.2
        exact ih k.toNat (by omega) (c2 k hk).2.2 (by omega)
      obtain ⟨ks, hks⟩ : ∃ ks, Rp.kidsOf L m = ks := ⟨_, rfl⟩
      rw [hks] at hq hch hgood htx c2
      have hkl : ks.length ≤ m := by
        have aux : ∀ (ks : List Int) (f e : Int), Chain L f ks e → (ks.length : Int) ≤ e - f := by
          intro ks
          induction ks with
          | nil => intro f e h; have h' : f = e := h; simp; omega
          | cons k ks ih2 =>
            intro f e h
            obtain ⟨a, b, c, g⟩ := h
            have := ih2 _ _ g
            rw [List.length_cons]; omega
        have := aux ks _ _ hch
        omega
      have hown : Rp.ownText (L.getD m nd0) = (42 :: Lib.decDigits ks.length) ++ crlf := by
        rw [hq]; simp [Rp.ownText, headText]
      have hT : Rp.text L m = (42 :: Lib.decDigits ks.length) ++ crlf ++ kidsText L ks := by rw [htx, hown]; rfl
      have hno : ∀ z ∈ (42 :: Lib.decDigits ks.length : List UInt8), z ≠ 13 := fun z hz => by
        rcases List.mem_cons.1 hz with rfl | hz
        · decide
        · exact dec_digits _ z hz
      have hdl := dec_len_le ks.length (by omega)
      have hcnt := count_dec ks.length 1000 (by omega) (by omega)
      have hnode : ∀ (f : List UInt8 → Nat → Rep) (Y : List UInt8) (i : Nat), nodeM f 42 (Lib.decDigits ks.length) Y i = match kidsM f ks.length Y i with
          | .inl c => .inl c
          | .inr (ms, ks, v) => .inr (ms, ⟨6, 0, ⟨#[]⟩, ks⟩, v) := fun f Y i => by
        unfold nodeM
        rw [if_neg (by decide), if_neg (by decide), if_neg (by decide), if_neg (by decide), if_pos rfl, hcnt]
        rfl
      have hsg := seg_len L (Rp.tree L m).toNat m (by omega) (by omega)
      refine ⟨fun rest => ?_, fun rest k hk => ?_⟩
      · rw [hT, List.append_assoc, reply_line d _ 42 _ _ hno, hnode, kids_read L d ks _ _ ht hch (by omega) hgood rest]
        simp only [endM, Int.toNat_natCast]
        rw [hsg, if_neg (by omega), ← hq, ← seg_one L m hm, seg_app L _ _ _ (by omega) (by omega)]
        simp [crlf]
        omega
      · rw [hT, List.append_assoc]
        rw [hT] at hk
        refine reply_cut d _ 42 _ _ k hno (by omega) fun j hj => ?_
        rw [hnode, kids_cut L d ks _ _ ht hch (by omega) hgood rest j (by simp [crlf] at hk; omega)]
    · obtain ⟨hk0, b, r, Y, hl⟩ := leaf_line _ hf h6
      have hk1 : Rp.kidsOf L m = [] := hk0
      have htm : Rp.tree L m = m := by rw [hte, hk1]; simp [Rp.tw]
      have hT : Rp.text L m = (b :: r) ++ crlf ++ Y := by rw [htx, hk1, hl.text]; simp
      rw [hk1] at htx
      refine ⟨fun rest => ?_, fun rest k hk => ?_⟩
      · rw [hT, List.append_assoc, reply_line d _ b r _ hl.plain, hl.read, htm]
        simp only [endM, Int.toNat_natCast]
        rw [if_neg (by simp; omega), seg_one L m hm]
        simp [crlf]
        omega
      · rw [hT, List.append_assoc]
        rw [hT] at hk
        refine reply_cut d _ b r _ k hl.plain hl.len fun j hj => ?_
        exact hl.cut _ rest _ j (by simp [crlf] at hk; omega)

/-- A right reply comes back from its text, whatever stands behind it; cut anywhere, more is wanted. -/
theorem right_back (L : List Nd) (h : Rp.specB L = true) : (∀ rest, replyM 4 (Rp.text L (L.length - 1) ++ rest) 0 = .inr (L, (Rp.text L (L.length - 1)).length)) ∧ (∀ k, k < (Rp.text L (L.length - 1)).length → replyM 4 ((Rp.text L (L.length - 1)).take k) 0 = .inl 1) := by
  unfold Rp.specB at h
  simp only [Bool.and_eq_true, decide_eq_true_iff] at h
  obtain ⟨⟨⟨h1, h2⟩, h3⟩, h4, h5⟩ := h
  have hF := fun m hm => (Rp.nodesB_iff L L 0 rfl).1 h3 m (Nat.zero_le _) hm
  have g := reply_back L h2 hF 4 (L.length - 1) (by omega) (by omega) h5
  have e : seg L 0 (L.length - 1 + 1) = L := by
    unfold seg
    rw [List.drop_zero, List.take_of_length_le (by omega)]
  refine ⟨fun rest => ?_, fun k hk => ?_⟩
  · have := g.read rest
    rw [h4] at this
    rw [show (0 : Nat) = (0 : Int).toNat from rfl, this, show (0 : Int).toNat = 0 from rfl, e]
  · have := g.cut [] k hk
    rw [h4, List.append_nil] at this
    exact this

/-- A right reply's text is not empty, and not long. -/
theorem right_len (L : List Nd) (h : Rp.specB L = true) : 0 < (Rp.text L (L.length - 1)).length := by
  have := (right_back L h).1 []
  by_cases h0 : (Rp.text L (L.length - 1)).length = 0
  · rw [List.eq_nil_of_length_eq_zero h0] at this
    simp [replyM_eq, lineM, Lib.index] at this
  · omega
end Go.Proofs.YtcgeafdakaeicaaDoor.Bk
