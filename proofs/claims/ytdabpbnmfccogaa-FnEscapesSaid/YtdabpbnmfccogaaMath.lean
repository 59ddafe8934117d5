/- Escaping and what comes back, of no program. -/
import Derived.Test.YtdabpbnmfccogaaRows
namespace Go.Proofs.Ytdabpbnmfccogaa

/-- The sixteen digits. -/
def hexT : List UInt8 := [48, 49, 50, 51, 52, 53, 54, 55, 56, 57, 97, 98, 99, 100, 101, 102]
def hexC (n : Nat) : UInt8 := hexT.getD n 0
/-- A digit's value, or -1. -/
def digN (c : Nat) : Int := if 48 ≤ c ∧ c ≤ 57 then (c : Int) - 48 else if 97 ≤ c ∧ c ≤ 102 then (c : Int) - 87 else -1

def plainB (n : Nat) : Bool := decide (32 ≤ n ∧ n ≤ 126)

def esc1 (b : UInt8) : List UInt8 :=
  if b.toNat = 13 then [92, 114] else if b.toNat = 10 then [92, 110] else if b.toNat = 92 then [92, 92]
  else if b.toNat < 32 ∨ 126 < b.toNat then [92, 120, hexC (b.toNat / 16), hexC (b.toNat % 16)] else [b]

def escL (l : List UInt8) : List UInt8 := (l.map esc1).flatten

theorem esc1_len (b : UInt8) : 1 ≤ (esc1 b).length ∧ (esc1 b).length ≤ 4 := by
  unfold esc1
  split
  · simp
  split
  · simp
  split
  · simp
  split <;> simp

theorem escL_take_succ (l : List UInt8) (k : Nat) (h : k < l.length) : escL (l.take (k + 1)) = escL (l.take k) ++ esc1 (l[k]'h) := by
  unfold escL
  rw [List.take_succ_eq_append_getElem h, List.map_append, List.flatten_append]
  simp

theorem escL_cons (b : UInt8) (l : List UInt8) : escL (b :: l) = esc1 b ++ escL l := rfl

theorem escL_len (l : List UInt8) : (escL l).length ≤ 4 * l.length := by
  induction l with
  | nil => simp [escL]
  | cons b l ih => rw [escL_cons, List.length_append]; have := esc1_len b; simp; omega

theorem escL_take_len (l : List UInt8) (k : Nat) : (escL (l.take k)).length ≤ 4 * l.length := by
  have h1 := escL_len (l.take k)
  have h2 : (l.take k).length ≤ l.length := by simp; omega
  omega

/-- The byte that is meant first, and how many bytes say so; none: 0. -/
def fst (l : List UInt8) : UInt8 × Nat :=
  match l with
  | [] => (0, 0)
  | b :: r =>
    if b.toNat ≠ 92 then (b, 1) else
    match r with
    | [] => (0, 0)
    | c :: r =>
      if c.toNat = 92 then (92, 2) else if c.toNat = 114 then (13, 2) else if c.toNat = 110 then (10, 2)
      else if c.toNat = 120 then
        match r with
        | h :: g :: _ => if digN h.toNat < 0 ∨ digN g.toNat < 0 then (0, 0) else (UInt8.ofNat (16 * digN h.toNat + digN g.toNat).toNat, 4)
        | _ => (0, 0)
      else (0, 0)

theorem fst_le (l : List UInt8) : (fst l).2 ≤ l.length := by
  unfold fst
  split
  · simp
  split
  · simp
  split
  · simp
  split
  · simp
  split
  · simp
  split
  · simp
  split
  · split
    · split <;> simp
    · simp
  · simp

/-- What s is read as: behind acc, what is meant one by one. -/
def parseF : Nat → List UInt8 → List UInt8 → Option (List UInt8)
  | 0, acc, _ => some acc
  | n + 1, acc, l => if l = [] then some acc else if (fst l).2 = 0 then none else parseF n (acc ++ [(fst l).1]) (l.drop (fst l).2)
theorem parseF_more : ∀ (n m : Nat) (acc l : List UInt8), l.length < n → l.length < m → parseF n acc l = parseF m acc l
  | 0, _, _, _, h, _ => by omega
  | _, 0, _, _, _, h => by omega
  | n + 1, m + 1, acc, l, h, h2 => by
    by_cases h0 : l = []
    · simp only [parseF, if_pos h0]
    by_cases h1 : (fst l).2 = 0
    · simp only [parseF, if_neg h0, if_pos h1]
    have hp : 0 < l.length := List.length_pos_iff.mpr h0
    simp only [parseF, if_neg h0, if_neg h1]
    exact parseF_more n m _ _ (by rw [List.length_drop]; omega) (by rw [List.length_drop]; omega)
def parse (acc l : List UInt8) : Option (List UInt8) := parseF (l.length + 1) acc l

theorem parse_nil (acc : List UInt8) : parse acc [] = some acc := rfl
theorem parse_none {acc l : List UInt8} (h : l ≠ []) (h2 : (fst l).2 = 0) : parse acc l = none := by
  unfold parse parseF
  rw [if_neg h, if_pos h2]
theorem parse_step {acc l : List UInt8} (h : l ≠ []) (h2 : (fst l).2 ≠ 0) : parse acc l = parse (acc ++ [(fst l).1]) (l.drop (fst l).2) := by
  have hp : 0 < l.length := List.length_pos_iff.mpr h
  unfold parse
  rw [show parseF (l.length + 1) acc l = parseF l.length (acc ++ [(fst l).1]) (l.drop (fst l).2) by rw [parseF, if_neg h, if_neg h2]]
  exact parseF_more _ _ _ _ (by rw [List.length_drop]; omega) (by omega)

/-- The text whose escape l is. -/
def unesc (l : List UInt8) : List UInt8 × Bool :=
  match parse [] l with
  | none => ([], false)
  | some t => if escL t = l then (t, true) else ([], false)

theorem hexC_lt (n : Nat) (h : n < 16) : digN (hexC n).toNat = n := by
  have : ∀ k : Fin 16, digN (hexC k.val).toNat = k.val := by decide
  exact this ⟨n, h⟩

theorem digN_lt (c : Nat) : digN c < 16 := by
  unfold digN
  split
  · omega
  split <;> omega

theorem hexC_plain (n : Nat) (h : n < 16) : 48 ≤ (hexC n).toNat ∧ (hexC n).toNat ≤ 102 ∧ (hexC n).toNat ≠ 92 := by
  have : ∀ k : Fin 16, 48 ≤ (hexC k.val).toNat ∧ (hexC k.val).toNat ≤ 102 ∧ (hexC k.val).toNat ≠ 92 := by decide
  exact this ⟨n, h⟩

theorem ofNat_toNat (b : UInt8) : UInt8.ofNat b.toNat = b := by simp

/-- The escape of a byte is read as it. -/
theorem fst_esc (b : UInt8) (r : List UInt8) : fst (esc1 b ++ r) = (b, (esc1 b).length) := by
  have hb := b.toNat_lt
  unfold esc1
  split
  · next h => rw [← ofNat_toNat b, h]; rfl
  split
  · next h => rw [← ofNat_toNat b, h]; rfl
  split
  · next h => rw [← ofNat_toNat b, h]; rfl
  split
  · next h1 h2 h3 h4 =>
    have e1 := hexC_lt (b.toNat / 16) (by omega)
    have e2 := hexC_lt (b.toNat % 16) (by omega)
    show (if digN (hexC (b.toNat / 16)).toNat < 0 ∨ digN (hexC (b.toNat % 16)).toNat < 0 then ((0 : UInt8), 0) else (UInt8.ofNat (16 * digN (hexC (b.toNat / 16)).toNat + digN (hexC (b.toNat % 16)).toNat).toNat, 4)) = _
    rw [e1, e2, if_neg (by omega)]
    have e3 : (16 * ((b.toNat / 16 : Nat) : Int) + ((b.toNat % 16 : Nat) : Int)).toNat = b.toNat := by omega
    rw [e3, ofNat_toNat]
    rfl
  · next h1 h2 h3 h4 =>
    show (if b.toNat ≠ 92 then (b, 1) else _) = _
    rw [if_pos h3]
    rfl

theorem parse_esc (t : List UInt8) : ∀ acc, parse acc (escL t) = some (acc ++ t) := by
  induction t with
  | nil => intro acc; rw [show escL [] = [] from rfl, parse_nil]; simp
  | cons b t ih =>
    intro acc
    have hl := esc1_len b
    have hf := fst_esc b (escL t)
    rw [escL_cons, parse_step (by intro h; have := congrArg List.length h; rw [List.length_append] at this; simp only [List.length_nil] at this; omega) (by rw [hf]; show (esc1 b).length ≠ 0; omega), hf]
    simp only []
    rw [List.drop_left' rfl, ih]
    simp

theorem unesc_esc (t : List UInt8) : unesc (escL t) = (t, true) := by
  unfold unesc
  rw [parse_esc]
  simp

theorem unesc_back {l t : List UInt8} (h : unesc l = (t, true)) : escL t = l := by
  unfold unesc at h
  split at h
  · cases h
  · split at h
    · injection h with h1 h2
      subst h1; assumption
    · cases h

theorem esc1_plain (b : UInt8) : ∀ x, x ∈ esc1 b → 32 ≤ x.toNat ∧ x.toNat ≤ 126 := by
  intro x hx
  have hb := b.toNat_lt
  unfold esc1 at hx
  split at hx
  · simp at hx; rcases hx with rfl | rfl <;> decide
  split at hx
  · simp at hx; rcases hx with rfl | rfl <;> decide
  split at hx
  · simp at hx; subst hx; decide
  split at hx
  · simp at hx
    have h1 := hexC_plain (b.toNat / 16) (by omega)
    have h2 := hexC_plain (b.toNat % 16) (by omega)
    rcases hx with rfl | rfl | rfl | rfl
    · decide
    · decide
    · omega
    · omega
  · simp at hx
    subst hx
    omega

theorem escL_plain (l : List UInt8) : ∀ x, x ∈ escL l → 32 ≤ x.toNat ∧ x.toNat ≤ 126 := by
  intro x hx
  unfold escL at hx
  rw [List.mem_flatten] at hx
  obtain ⟨y, hy, hxy⟩ := hx
  rw [List.mem_map] at hy
  obtain ⟨b, _, rfl⟩ := hy
  exact esc1_plain b x hxy

theorem parse_len (l : List UInt8) : ∀ acc t, parse acc l = some t → t.length ≤ acc.length + l.length := by
  suffices H : ∀ n (l : List UInt8), l.length ≤ n → ∀ acc t, parse acc l = some t → t.length ≤ acc.length + l.length from H l.length l (Nat.le_refl _)
  intro n
  induction n with
  | zero =>
    intro l hl acc t h
    obtain rfl : l = [] := List.length_eq_zero_iff.mp (by omega)
    rw [parse_nil] at h; injection h with h; subst h; simp
  | succ n ih =>
    intro l hl acc t h
    by_cases h0 : l = []
    · subst h0; rw [parse_nil] at h; injection h with h; subst h; simp
    by_cases h2 : (fst l).2 = 0
    · rw [parse_none h0 h2] at h; cases h
    have hp : 0 < l.length := List.length_pos_iff.mpr h0
    rw [parse_step h0 h2] at h
    have := ih _ (by rw [List.length_drop]; omega) _ _ h
    rw [List.length_append, List.length_drop] at this
    simp at this
    omega
end Go.Proofs.Ytdabpbnmfccogaa
