/- Plain mathematics: a right reply comes back from its text, whatever stands behind it; cut anywhere, more is wanted. -/
import Derived.Test.YtcgeafdakaeicaaDoorBkMath
namespace Go.Proofs.YtcgeafdakaeicaaDoor.Bk
open Go.Lib
open Rp (Nd nd0 plainB numB fieldsB)

/-- The kids' trees stand one behind the other. -/
def Chain (L : List Nd) : Int → List Int → Int → Prop
  | f, [], e => f = e
  | f, k :: ks, e => 0 ≤ f ∧ f ≤ k ∧ Rp.tree L k.toNat = f ∧ Chain L (k + 1) ks e

theorem chain_snoc (L : List Nd) : ∀ (ks : List Int) (f e k : Int), Chain L f ks e → 0 ≤ e → e ≤ k → Rp.tree L k.toNat = e → Chain L f (ks ++ [k]) (k + 1)
  | [], f, e, k, h, h0, h1, h2 => by
    have h' : f = e := h
    subst h'
    exact ⟨h0, h1, h2, rfl⟩
  | j :: ks, f, e, k, h, h0, h1, h2 => by
    obtain ⟨a, b, c, g⟩ := h
    exact ⟨a, b, c, chain_snoc L ks (j + 1) e k g h0 h1 h2⟩

theorem chain_le (L : List Nd) : ∀ (ks : List Int) (f e : Int), Chain L f ks e → f ≤ e ∧ ∀ k ∈ ks, 0 ≤ k ∧ k + 1 ≤ e ∧ 0 ≤ Rp.tree L k.toNat
  | [], f, e, h => by
    have h' : f = e := h
    exact ⟨by omega, fun k hk => by cases hk⟩
  | j :: ks, f, e, h => by
    obtain ⟨a, b, c, g⟩ := h
    obtain ⟨i1, i2⟩ := chain_le L ks (j + 1) e g
    refine ⟨by omega, fun k hk => ?_⟩
    rcases List.mem_cons.1 hk with rfl | hk
    · exact ⟨by omega, by omega, by omega⟩
    · exact i2 k hk

theorem chain_tw (L : List Nd) : ∀ (rs : List Int) (a : Int), 0 ≤ Rp.tw (Rp.tree L) rs a → Chain L (Rp.tw (Rp.tree L) rs a) rs.reverse (a + 1)
  | [], a, _ => rfl
  | x :: rs, a, h => by
    have hle := Rp.tree_le L
    simp only [Rp.tw] at h ⊢
    by_cases h0 : a < 0 ∨ x ≠ a
    · rw [if_pos h0] at h; omega
    · rw [if_neg h0] at h ⊢
      by_cases h1 : Rp.tree L a.toNat < 0
      · rw [if_pos h1] at h; omega
      · rw [if_neg h1] at h ⊢
        obtain rfl : x = a := by omega
        have ih := chain_tw L rs (Rp.tree L x.toNat - 1) h
        rw [List.reverse_cons]
        have hx := hle x.toNat
        exact chain_snoc L rs.reverse _ _ x ih (by omega) (by omega) (by omega)

def seg (L : List Nd) (a b : Nat) : List Nd := (L.drop a).take (b - a)

theorem seg_app (L : List Nd) (a b c : Nat) (h1 : a ≤ b) (h2 : b ≤ c) : seg L a b ++ seg L b c = seg L a c := by
  unfold seg
  rw [show c - a = (b - a) + (c - b) from by omega, List.take_add, List.drop_drop, show a + (b - a) = b from by omega]

theorem seg_len (L : List Nd) (a b : Nat) (h1 : a ≤ b) (h2 : b ≤ L.length) : (seg L a b).length = b - a := by
  unfold seg
  rw [List.length_take, List.length_drop]
  omega

theorem seg_one (L : List Nd) (m : Nat) (h : m < L.length) : seg L m (m + 1) = [L.getD m nd0] := by
  unfold seg
  rw [show m + 1 - m = 1 from by omega, List.drop_eq_getElem_cons h, List.getD_eq_getElem?_getD, List.getElem?_eq_getElem h]
  rfl

structure Good (L : List Nd) (d m : Nat) : Prop where
  read : ∀ rest, replyM d (Rp.text L m ++ rest) (Rp.tree L m).toNat = .inr (seg L (Rp.tree L m).toNat (m + 1), (Rp.text L m).length)
  cut : ∀ rest k, k < (Rp.text L m).length → replyM d ((Rp.text L m ++ rest).take k) (Rp.tree L m).toNat = .inl 1

def kidsText (L : List Nd) (ks : List Int) : List UInt8 := ks.flatMap fun k => Rp.text L k.toNat

theorem kids_read (L : List Nd) (d : Nat) : ∀ (ks : List Int) (f e : Int), 0 ≤ f → Chain L f ks e → e ≤ L.length → (∀ k ∈ ks, Good L d k.toNat) → ∀ rest, kidsM (replyM d) ks.length (kidsText L ks ++ rest) f.toNat = .inr (seg L f.toNat e.toNat, ks, (kidsText L ks).length)
  | [], f, e, _, h, he, _, rest => by
    have h' : f = e := h
    subst h'
    simp [kidsM, kidsText, seg]
  | k :: ks, f, e, hf, h, he, hg, rest => by
    obtain ⟨a, b, c, g⟩ := h
    obtain ⟨i1, i2⟩ := chain_le L ks (k + 1) e g
    have ih := kids_read L d ks (k + 1) e (by omega) g he (fun j hj => hg j (by simp [hj])) rest
    have hr := (hg k (by simp)).read (kidsText L ks ++ rest)
    rw [c] at hr
    have ht : kidsText L (k :: ks) = Rp.text L k.toNat ++ kidsText L ks := rfl
    have hl := seg_len L f.toNat (k.toNat + 1) (by omega) (by omega)
    have e1 : f.toNat + (k.toNat + 1 - f.toNat) = (k + 1).toNat := by omega
    have e2 : (((k + 1).toNat : Nat) : Int) - 1 = k := by omega
    rw [ht, List.append_assoc, List.length_cons, kidsM_inr hr, List.drop_left, hl, e1, ih, e2]
    simp only [preK]
    rw [show k.toNat + 1 = (k + 1).toNat from by omega, seg_app L _ _ _ (by omega) (by omega), List.length_append]
    rfl

theorem kids_cut (L : List Nd) (d : Nat) : ∀ (ks : List Int) (f e : Int), 0 ≤ f → Chain L f ks e → e ≤ L.length → (∀ k ∈ ks, Good L d k.toNat) → ∀ rest j, j < (kidsText L ks).length → kidsM (replyM d) ks.length ((kidsText L ks ++ rest).take j) f.toNat = .inl 1
  | [], f, e, _, h, he, _, rest, j, hj => by simp [kidsText] at hj
  | k :: ks, f, e, hf, h, he, hg, rest, j, hj => by
    obtain ⟨a, b, c, g⟩ := h
    have ht : kidsText L (k :: ks) = Rp.text L k.toNat ++ kidsText L ks := rfl
    rw [ht, List.length_append] at hj
    rw [ht, List.append_assoc, List.length_cons]
    by_cases hk : j < (Rp.text L k.toNat).length
    · have hc := (hg k (by simp)).cut (kidsText L ks ++ rest) j hk
      rw [c] at hc
      rw [kidsM_inl hc]
    · obtain ⟨i1, i2⟩ := chain_le L ks (k + 1) e g
      have ih := kids_cut L d ks (k + 1) e (by omega) g he (fun j hj => hg j (by simp [hj])) rest (j - (Rp.text L k.toNat).length) (by omega)
      have hr := (hg k (by simp)).read ((kidsText L ks ++ rest).take (j - (Rp.text L k.toNat).length))
      rw [c] at hr
      have hl := seg_len L f.toNat (k.toNat + 1) (by omega) (by omega)
      have e1 : f.toNat + (k.toNat + 1 - f.toNat) = (k + 1).toNat := by omega
      rw [take_past _ _ j (by omega), kidsM_inr hr, List.drop_left, hl, e1, ih]
      rfl

theorem reply_back (L : List Nd) (hN : L.length ≤ 1000) (hF : ∀ m, m < L.length → fieldsB (L.getD m nd0) = true ∧ Rp.rangeB m (L.getD m nd0) = true) : ∀ (d m : Nat), m < L.length → 0 ≤ Rp.tree L m → Rp.deep L m ≤ d → Good L d m := by
  intro d
  induction d with
  | zero =>
    intro m _ _ hd
    have := (Rp.deep_bound L m).1
    omega
  | succ d ih =>
    intro m hm ht hd
    obtain ⟨hf, hr⟩ := hF m hm
    have hrange : ∀ k ∈ Rp.kidsOf L m, 0 ≤ k ∧ k < (m : Int) := fun k hk => by
      unfold Rp.rangeB at hr
      have := List.all_eq_true.1 hr k hk
      simp only [Rp.inB, decide_eq_true_iff] at this
      omega
    have htx := Rp.text_eq L m hrange
    have hte := Rp.tree_eq L m
    by_cases h6 : (L.getD m nd0).kind = 6
    · have hq : L.getD m nd0 = ⟨6, 0, ⟨#[]⟩, Rp.kidsOf L m⟩ := by
        unfold Rp.kidsOf
        generalize L.getD m nd0 = x at *
        obtain ⟨kind, num, s, kids⟩ := x
        have h6' : kind = 6 := h6
        subst h6'
        rw [Rp.fields_array _ rfl] at hf
        simp only [Bool.and_eq_true, decide_eq_true_iff] at hf
        obtain ⟨f1, f2⟩ := hf
        have f3 := str_none f2
        subst f1 f3
        rfl
      have ht' := ht
      rw [hte] at ht'
      have hch := chain_tw L _ _ ht'
      rw [← hte, List.reverse_reverse, show (m : Int) - 1 + 1 = (m : Int) from by omega] at hch
      obtain ⟨c1, c2⟩ := chain_le L _ _ _ hch
      have hgood : ∀ k ∈ Rp.kidsOf L m, Good L d k.toNat := fun k hk => by
        have h1 := hrange k hk
        have h2 := Rp.deep_kid L m k hk h1.1 h1.2
        exact ih k.toNat (by omega) (c2 k hk).2.2 (by omega)
      obtain ⟨ks, hks⟩ : ∃ ks, Rp.kidsOf L m = ks := ⟨_, rfl⟩
      rw [hks] at hq hch hgood htx c2
      have hkl : ks.length ≤ m := by
        have aux : ∀ (ks : List Int) (f e : Int), Chain L f ks e → (ks.length : Int) ≤ e - f := by
          intro ks
          induction ks with
          | nil => intro f e h; have h' : f = e := h; simp; omega
          | cons k ks ih2 =>
            intro f e h
            obtain ⟨a, b, c, g⟩ := h
            have := ih2 _ _ g
            rw [List.length_cons]; omega
        have := aux ks _ _ hch
        omega
      have hown : Rp.ownText (L.getD m nd0) = (42 :: Lib.decDigits ks.length) ++ crlf := by
        rw [hq]; simp [Rp.ownText, headText]
      have hT : Rp.text L m = (42 :: Lib.decDigits ks.length) ++ crlf ++ kidsText L ks := by rw [htx, hown]; rfl
      have hno : ∀ z ∈ (42 :: Lib.decDigits ks.length : List UInt8), z ≠ 13 := fun z hz => by
        rcases List.mem_cons.1 hz with rfl | hz
        · decide
        · exact dec_digits _ z hz
      have hdl := dec_len_le ks.length (by omega)
      have hcnt := count_dec ks.length 1000 (by omega) (by omega)
      have hnode : ∀ (f : List UInt8 → Nat → Rep) (Y : List UInt8) (i : Nat), nodeM f 42 (Lib.decDigits ks.length) Y i = match kidsM f ks.length Y i with
          | .inl c => .inl c
          | .inr (ms, ks, v) => .inr (ms, ⟨6, 0, ⟨#[]⟩, ks⟩, v) := fun f Y i => by
        unfold nodeM
        rw [if_neg (by decide), if_neg (by decide), if_neg (by decide), if_neg (by decide), if_pos rfl, hcnt]
        rfl
      have hsg := seg_len L (Rp.tree L m).toNat m (by omega) (by omega)
      refine ⟨fun rest => ?_, fun rest k hk => ?_⟩
      · rw [hT, List.append_assoc, reply_line d _ 42 _ _ hno, hnode, kids_read L d ks _ _ ht hch (by omega) hgood rest]
        simp only [endM, Int.toNat_natCast]
        rw [hsg, if_neg (by omega), ← hq, ← seg_one L m hm, seg_app L _ _ _ (by omega) (by omega)]
        simp [crlf]
        omega
      · rw [hT, List.append_assoc]
        rw [hT] at hk
        refine reply_cut d _ 42 _ _ k hno (by omega) fun j hj => ?_
        rw [hnode, kids_cut L d ks _ _ ht hch (by omega) hgood rest j (by simp [crlf] at hk; omega)]
    · obtain ⟨hk0, b, r, Y, hl⟩ := leaf_line _ hf h6
      have hk1 : Rp.kidsOf L m = [] := hk0
      have htm : Rp.tree L m = m := by rw [hte, hk1]; simp [Rp.tw]
      have hT : Rp.text L m = (b :: r) ++ crlf ++ Y := by rw [htx, hk1, hl.text]; simp
      rw [hk1] at htx
      refine ⟨fun rest => ?_, fun rest k hk => ?_⟩
      · rw [hT, List.append_assoc, reply_line d _ b r _ hl.plain, hl.read, htm]
        simp only [endM, Int.toNat_natCast]
        rw [if_neg (by simp; omega), seg_one L m hm]
        simp [crlf]
        omega
      · rw [hT, List.append_assoc]
        rw [hT] at hk
        refine reply_cut d _ b r _ k hl.plain hl.len fun j hj => ?_
        exact hl.cut _ rest _ j (by simp [crlf] at hk; omega)

/-- A right reply comes back from its text, whatever stands behind it; cut anywhere, more is wanted. -/
theorem right_back (L : List Nd) (h : Rp.specB L = true) : (∀ rest, replyM 4 (Rp.text L (L.length - 1) ++ rest) 0 = .inr (L, (Rp.text L (L.length - 1)).length)) ∧ (∀ k, k < (Rp.text L (L.length - 1)).length → replyM 4 ((Rp.text L (L.length - 1)).take k) 0 = .inl 1) := by
  unfold Rp.specB at h
  simp only [Bool.and_eq_true, decide_eq_true_iff] at h
  obtain ⟨⟨⟨h1, h2⟩, h3⟩, h4, h5⟩ := h
  have hF := fun m hm => (Rp.nodesB_iff L L 0 rfl).1 h3 m (Nat.zero_le _) hm
  have g := reply_back L h2 hF 4 (L.length - 1) (by omega) (by omega) h5
  have e : seg L 0 (L.length - 1 + 1) = L := by
    unfold seg
    rw [List.drop_zero, List.take_of_length_le (by omega)]
  refine ⟨fun rest => ?_, fun k hk => ?_⟩
  · have := g.read rest
    rw [h4] at this
    rw [show (0 : Nat) = (0 : Int).toNat from rfl, this, show (0 : Int).toNat = 0 from rfl, e]
  · have := g.cut [] k hk
    rw [h4, List.append_nil] at this
    exact this

/-- A right reply's text is not empty, and not long. -/
theorem right_len (L : List Nd) (h : Rp.specB L = true) : 0 < (Rp.text L (L.length - 1)).length := by
  have := (right_back L h).1 []
  by_cases h0 : (Rp.text L (L.length - 1)).length = 0
  · rw [List.eq_nil_of_length_eq_zero h0] at this
    simp [replyM_eq, lineM, Lib.index] at this
  · omega
end Go.Proofs.YtcgeafdakaeicaaDoor.Bk
