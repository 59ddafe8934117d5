/- Plain mathematics of right replies: the specification's look (a tree walked from its root) and the program's look (the trees that no later node has claimed, kept in order) come to the same. No Go text. -/
import Derived.Below
namespace Go.Proofs.YtcgeafdakaeicaaDoor.Rp

structure Nd where
  kind : Int
  num : Int
  s : ByteArray
  kids : List Int

def nd0 : Nd := ⟨0, 0, ByteArray.empty, []⟩

def byteOk (b : UInt8) : Bool := decide (32 ≤ b.toNat ∧ b.toNat ≤ 126)
def plainB (s : ByteArray) : Bool := decide (s.size ≤ 200) && s.data.toList.all byteOk
def inB (n low high : Int) : Bool := decide (low ≤ n ∧ n ≤ high)
def numB (n : Int) : Bool := inB n (-1000000000000000000) 1000000000000000000

def fieldsB (x : Nd) : Bool :=
  if x.kind = 1 ∨ x.kind = 2 then decide (x.num = 0) && plainB x.s && decide (x.kids.length = 0)
  else if x.kind = 3 then numB x.num && decide (x.s.size = 0) && decide (x.kids.length = 0)
  else if x.kind = 4 then decide (x.num = 0) && decide (x.s.size ≤ 200) && decide (x.kids.length = 0)
  else if x.kind = 5 then decide (x.num = 0) && decide (x.s.size = 0) && decide (x.kids.length = 0)
  else if x.kind = 6 then decide (x.num = 0) && decide (x.s.size = 0)
  else false

def rangeB (i : Nat) (x : Nd) : Bool := x.kids.all fun k => inB k 0 ((i : Int) - 1)

def kidsOf (L : List Nd) (n : Nat) : List Int := (L.getD n nd0).kids

/-- The specification's walk over the kids from the last to the first: 'T' tells a kid's first node. -/
def tw (T : Nat → Int) : List Int → Int → Int
  | [], a => a + 1
  | k :: ks, a => if a < 0 ∨ k ≠ a then -1 else if T a.toNat < 0 then -1 else tw T ks (T a.toNat - 1)

def treeF (L : List Nd) : Nat → Nat → Int
  | 0, _ => -1
  | f + 1, n => tw (treeF L f) (kidsOf L n).reverse ((n : Int) - 1)
def tree (L : List Nd) (n : Nat) : Int := treeF L (n + 1) n

def deepF (L : List Nd) : Nat → Nat → Int
  | 0, _ => 0
  | f + 1, n => (kidsOf L n).foldl (fun d k => max d (if 0 ≤ k ∧ k < (n : Int) then deepF L f k.toNat else 0)) 0 + 1
def deep (L : List Nd) (n : Nat) : Int := deepF L (n + 1) n

theorem tw_le (T : Nat → Int) (hT : ∀ m, T m ≤ m) : ∀ (ks : List Int) (a : Int), -1 ≤ a → tw T ks a ≤ a + 1 := by
  intro ks
  induction ks with
  | nil => intro a _; simp [tw]
  | cons k ks ih =>
    intro a ha
    simp only [tw]
    split
    · omega
    · split
      · omega
      · have h1 := hT a.toNat
        have h2 := ih (T a.toNat - 1) (by omega)
        omega

theorem treeF_le (L : List Nd) : ∀ (f n : Nat), treeF L f n ≤ n := by
  intro f
  induction f with
  | zero => intro n; simp only [treeF]; omega
  | succ f ih =>
    intro n
    simp only [treeF]
    have := tw_le (treeF L f) ih (kidsOf L n).reverse ((n : Int) - 1) (by omega)
    omega

theorem tw_congr (T T' : Nat → Int) (n : Nat) (hT : ∀ m, m < n → T m = T' m) (hle : ∀ m, T m ≤ m) : ∀ (ks : List Int) (a : Int), a < n → tw T ks a = tw T' ks a := by
  intro ks
  induction ks with
  | nil => intro a _; rfl
  | cons k ks ih =>
    intro a ha
    simp only [tw]
    by_cases h0 : a < 0 ∨ k ≠ a
    · rw [if_pos h0, if_pos h0]
    · have e := hT a.toNat (by omega)
      have h1 := hle a.toNat
      rw [if_neg h0, if_neg h0, ← e]
      split
      · rfl
      · exact ih _ (by omega)

theorem treeF_eq (L : List Nd) : ∀ (n f : Nat), n < f → treeF L f n = tree L n := by
  intro n
  induction n using Nat.strongRecOn with
  | _ n ih =>
    intro f hf
    obtain ⟨g, rfl⟩ : ∃ g, f = g + 1 := ⟨f - 1, by omega⟩
    show tw (treeF L g) _ _ = tw (treeF L n) _ _
    refine tw_congr _ _ n (fun m hm => ?_) (treeF_le L g) _ _ (by omega)
    rw [ih m hm g (by omega), ih m hm n hm]

theorem tree_le (L : List Nd) (n : Nat) : tree L n ≤ n := treeF_le L _ n

theorem tree_eq (L : List Nd) (n : Nat) : tree L n = tw (tree L) (kidsOf L n).reverse ((n : Int) - 1) := by
  show tw (treeF L n) _ _ = _
  exact tw_congr _ _ n (fun m hm => treeF_eq L m n hm) (treeF_le L n) _ _ (by omega)

theorem fold_congr {α : Type} (g h : Int → α → Int) (l : List α) (hl : ∀ d, ∀ k ∈ l, g d k = h d k) : ∀ d, l.foldl g d = l.foldl h d := by
  induction l with
  | nil => intro d; rfl
  | cons k l ih =>
    intro d
    simp only [List.foldl_cons]
    rw [hl d k (by simp), ih (fun d k hk => hl d k (by simp [hk]))]

theorem deepF_eq (L : List Nd) : ∀ (n f : Nat), n < f → deepF L f n = deep L n := by
  intro n
  induction n using Nat.strongRecOn with
  | _ n ih =>
    intro f hf
    obtain ⟨g, rfl⟩ : ∃ g, f = g + 1 := ⟨f - 1, by omega⟩
    show (kidsOf L n).foldl _ 0 + 1 = (kidsOf L n).foldl _ 0 + 1
    rw [fold_congr _ (fun d k => max d (if 0 ≤ k ∧ k < (n : Int) then deepF L n k.toNat else 0))]
    intro d k _
    by_cases hk : 0 ≤ k ∧ k < (n : Int)
    · simp only [if_pos hk]
      rw [ih k.toNat (by omega) g (by omega), ih k.toNat (by omega) n (by omega)]
    · simp only [if_neg hk]

theorem deep_eq (L : List Nd) (n : Nat) : deep L n = (kidsOf L n).foldl (fun d k => max d (if 0 ≤ k ∧ k < (n : Int) then deep L k.toNat else 0)) 0 + 1 := by
  show (kidsOf L n).foldl _ 0 + 1 = _
  rw [fold_congr _ (fun d k => max d (if 0 ≤ k ∧ k < (n : Int) then deep L k.toNat else 0))]
  intro d k _
  by_cases hk : 0 ≤ k ∧ k < (n : Int)
  · simp only [if_pos hk]
    rw [deepF_eq L k.toNat n (by omega)]
  · simp only [if_neg hk]

theorem fold_max_le {α : Type} (g : α → Int) (l : List α) : ∀ d, d ≤ l.foldl (fun d k => max d (g k)) d := by
  induction l with
  | nil => intro d; exact Int.le_refl _
  | cons k l ih => intro d; simp only [List.foldl_cons]; have := ih (max d (g k)); omega

theorem fold_max_mem {α : Type} (g : α → Int) (l : List α) : ∀ d, ∀ k ∈ l, g k ≤ l.foldl (fun d k => max d (g k)) d := by
  induction l with
  | nil => intro d k hk; cases hk
  | cons x l ih =>
    intro d k hk
    simp only [List.foldl_cons]
    rcases List.mem_cons.1 hk with rfl | hk
    · have := fold_max_le g l (max d (g k)); omega
    · exact ih _ k hk

theorem fold_max_bound {α : Type} (g : α → Int) (B : Int) (l : List α) (hl : ∀ k ∈ l, g k ≤ B) : ∀ d, d ≤ B → l.foldl (fun d k => max d (g k)) d ≤ B := by
  induction l with
  | nil => intro d hd; exact hd
  | cons x l ih =>
    intro d hd
    simp only [List.foldl_cons]
    exact ih (fun k hk => hl k (by simp [hk])) _ (by have := hl x (by simp); omega)

theorem deep_bound (L : List Nd) (n : Nat) : 1 ≤ deep L n ∧ deep L n ≤ (n : Int) + 1 := by
  induction n using Nat.strongRecOn with
  | _ n ih =>
    rw [deep_eq]
    have h1 := fold_max_le (fun k => if 0 ≤ k ∧ k < (n : Int) then deep L k.toNat else 0) (kidsOf L n) 0
    have h2 := fold_max_bound (fun k => if 0 ≤ k ∧ k < (n : Int) then deep L k.toNat else 0) n (kidsOf L n) (fun k _ => by
      by_cases hk : 0 ≤ k ∧ k < (n : Int)
      · simp only [if_pos hk]
        have := (ih k.toNat (by omega)).2
        omega
      · simp only [if_neg hk]; omega) 0 (by omega)
    omega

theorem deep_kid (L : List Nd) (n : Nat) (k : Int) (hk : k ∈ kidsOf L n) (h0 : 0 ≤ k) (h1 : k < n) : deep L k.toNat + 1 ≤ deep L n := by
  rw [deep_eq L n]
  have := fold_max_mem (fun k => if 0 ≤ k ∧ k < (n : Int) then deep L k.toNat else 0) (kidsOf L n) 0 k hk
  simp only [if_pos (⟨h0, h1⟩ : 0 ≤ k ∧ k < (n : Int))] at this
  omega

/-! ### What a walk that ends well has met -/

theorem tw_range (T : Nat → Int) (hle : ∀ m, T m ≤ m) : ∀ (ks : List Int) (a : Int), 0 ≤ tw T ks a → ∀ k ∈ ks, 0 ≤ k ∧ k ≤ a := by
  intro ks
  induction ks with
  | nil => intro a _ k hk; cases hk
  | cons x ks ih =>
    intro a h k hk
    simp only [tw] at h
    by_cases h0 : a < 0 ∨ x ≠ a
    · rw [if_pos h0] at h; omega
    · rw [if_neg h0] at h
      by_cases h1 : T a.toNat < 0
      · rw [if_pos h1] at h; omega
      · rw [if_neg h1] at h
        have := hle a.toNat
        rcases List.mem_cons.1 hk with rfl | hk
        · omega
        · have := ih _ h k hk; omega

theorem tw_cover (T : Nat → Int) (hle : ∀ m, T m ≤ m) : ∀ (ks : List Int) (a : Int), 0 ≤ tw T ks a → ∀ m : Nat, tw T ks a ≤ m → (m : Int) ≤ a → ∃ k ∈ ks, T k.toNat ≤ m ∧ (m : Int) ≤ k ∧ tw T ks a ≤ T k.toNat ∧ 0 ≤ k ∧ k ≤ a := by
  intro ks
  induction ks with
  | nil => intro a _ m h1 h2; simp only [tw] at h1; omega
  | cons x ks ih =>
    intro a h m h1 h2
    simp only [tw] at h h1 ⊢
    by_cases h0 : a < 0 ∨ x ≠ a
    · rw [if_pos h0] at h; omega
    · rw [if_neg h0] at h h1 ⊢
      by_cases hf : T a.toNat < 0
      · rw [if_pos hf] at h; omega
      · rw [if_neg hf] at h h1 ⊢
        obtain rfl : x = a := by omega
        have hl := hle x.toNat
        have hw := tw_le T hle ks (T x.toNat - 1) (by omega)
        by_cases hm : T x.toNat ≤ m
        · exact ⟨x, by simp, hm, h2, by omega, by omega, by omega⟩
        · obtain ⟨k, hk, a1, a2, a3, a4, a5⟩ := ih (T x.toNat - 1) h m h1 (by omega)
          exact ⟨k, by simp [hk], a1, a2, a3, a4, by omega⟩

theorem tree_cover (L : List Nd) : ∀ (n : Nat), 0 ≤ tree L n → ∀ m : Nat, tree L n ≤ m → m ≤ n → tree L n ≤ tree L m ∧ deep L m ≤ deep L n := by
  intro n
  induction n using Nat.strongRecOn with
  | _ n ih =>
    intro h m h1 h2
    by_cases hmn : m = n
    · subst hmn; omega
    · have he := tree_eq L n
      rw [he] at h h1
      obtain ⟨k, hk, a1, a2, a3, a4, a5⟩ := tw_cover (tree L) (tree_le L) _ _ h m h1 (by omega)
      have hkm := ih k.toNat (by omega) (by omega) m a1 (by omega)
      have hd := deep_kid L n k (by simpa using hk) a4 (by omega)
      rw [← he] at a3
      omega

/-! ### The program's look: the trees not yet claimed -/

def stepB (i : Nat) (x : Nd) (ts : List (Int × Int)) : Option (List (Int × Int)) :=
  if fieldsB x = false then none
  else if (ts.length : Int) - x.kids.length < 0 then none
  else if (ts.drop (ts.length - x.kids.length)).map Prod.fst ≠ x.kids then none
  else if 1 + (ts.drop (ts.length - x.kids.length)).foldl (fun d t => max d t.2) 0 > 4 then none
  else some (ts.take (ts.length - x.kids.length) ++ [((i : Int), 1 + (ts.drop (ts.length - x.kids.length)).foldl (fun d t => max d t.2) 0)])

def runB : List Nd → Nat → List (Int × Int) → Bool
  | [], _, ts => decide (ts.length = 1)
  | x :: xs, i, ts => match stepB i x ts with
    | none => false
    | some ts' => runB xs (i + 1) ts'

def implB (L : List Nd) : Bool := decide (1 ≤ L.length ∧ L.length ≤ 1000) && runB L 0 []

def nodesB : List Nd → Nat → Bool
  | [], _ => true
  | x :: xs, i => fieldsB x && rangeB i x && nodesB xs (i + 1)

def specB (L : List Nd) : Bool := decide (1 ≤ L.length ∧ L.length ≤ 1000) && nodesB L 0 && decide (tree L (L.length - 1) = 0 ∧ deep L (L.length - 1) ≤ 4)

/-- The trees (the last one first) that cover just the nodes below i. -/
def Ch (L : List Nd) : List (Int × Int) → Int → Prop
  | [], i => i = 0
  | (r, d) :: rest, i => r = i - 1 ∧ 0 ≤ r ∧ 0 ≤ tree L r.toNat ∧ d = deep L r.toNat ∧ Ch L rest (tree L r.toNat)

theorem Ch.nonneg {L : List Nd} : ∀ {ts : List (Int × Int)} {i : Int}, Ch L ts i → 0 ≤ i
  | [], i, h => by simp only [Ch] at h; omega
  | (r, d) :: rest, i, h => by simp only [Ch] at h; omega

/-- The kids (the last one first) are the last trees' roots: then the walk ends well, and what is left covers just the nodes below its end; else it ends at -1. -/
theorem match_walk (L : List Nd) : ∀ (kr : List Int) (rts : List (Int × Int)) (i : Int), Ch L rts i →
    ((kr.length ≤ rts.length ∧ (rts.take kr.length).map Prod.fst = kr) → Ch L (rts.drop kr.length) (tw (tree L) kr (i - 1))) ∧
    (¬ (kr.length ≤ rts.length ∧ (rts.take kr.length).map Prod.fst = kr) → tw (tree L) kr (i - 1) = -1) := by
  intro kr
  induction kr with
  | nil => intro rts i h; simp [tw]; exact h
  | cons k ks ih =>
    intro rts i h
    cases rts with
    | nil =>
      simp only [Ch] at h
      subst h
      simp [tw]
    | cons t rest =>
      obtain ⟨r, d⟩ := t
      simp only [Ch] at h
      obtain ⟨h1, h2, h3, h4, h5⟩ := h
      simp only [tw, List.length_cons, List.take_succ_cons, List.map_cons, List.drop_succ_cons, List.cons.injEq, Nat.add_le_add_iff_right]
      by_cases hk : k = i - 1
      · have e0 : ¬ (i - 1 < 0 ∨ k ≠ i - 1) := by omega
        rw [if_neg e0]
        have er : r.toNat = (i - 1).toNat := by rw [h1]
        rw [er] at h3 h5
        rw [if_neg (by omega)]
        obtain ⟨ia, ib⟩ := ih rest _ h5
        refine ⟨fun hm => ia ⟨hm.1, hm.2.2⟩, fun hm => ib (fun hm' => hm ⟨hm'.1, by omega, hm'.2⟩)⟩
      · refine ⟨fun hm => absurd hm.2.1 (by omega), fun _ => ?_⟩
        rw [if_pos (by omega)]

theorem fold_kids (L : List Nd) (n : Nat) : ∀ (ts : List (Int × Int)) (ks : List Int) (d0 : Int), ts.map Prod.fst = ks → (∀ t ∈ ts, t.2 = deep L t.1.toNat) → (∀ k ∈ ks, 0 ≤ k ∧ k < (n : Int)) →
    ts.foldl (fun d t => max d t.2) d0 = ks.foldl (fun d k => max d (if 0 ≤ k ∧ k < (n : Int) then deep L k.toNat else 0)) d0 := by
  intro ts
  induction ts with
  | nil => intro ks d0 h _ _; simp at h; subst h; rfl
  | cons t ts ih =>
    intro ks d0 h hd hr
    cases ks with
    | nil => simp at h
    | cons k ks =>
      simp only [List.map_cons, List.cons.injEq] at h
      obtain ⟨h1, h2⟩ := h
      simp only [List.foldl_cons]
      rw [if_pos (hr k (by simp)), hd t (by simp), h1]
      exact ih ks _ h2 (fun t ht => hd t (by simp [ht])) (fun k hk => hr k (by simp [hk]))

theorem Ch.deeps {L : List Nd} : ∀ {ts : List (Int × Int)} {i : Int}, Ch L ts i → ∀ t ∈ ts, t.2 = deep L t.1.toNat
  | [], i, _, t, ht => by cases ht
  | (r, d) :: rest, i, h, t, ht => by
    simp only [Ch] at h
    rcases List.mem_cons.1 ht with rfl | ht
    · exact h.2.2.2.1
    · exact Ch.deeps h.2.2.2.2 t ht

theorem runB_iff (L : List Nd) : ∀ (xs : List Nd) (i : Nat) (ts : List (Int × Int)), L.drop i = xs → i + xs.length = L.length → 1 ≤ L.length → Ch L ts.reverse i →
    (runB xs i ts = true ↔ (∀ m : Nat, i ≤ m → m < L.length → fieldsB (L.getD m nd0) = true ∧ 0 ≤ tree L m ∧ deep L m ≤ 4) ∧ tree L (L.length - 1) = 0) := by
  intro xs
  induction xs with
  | nil =>
    intro i ts _ hlen h1 hch
    simp only [List.length_nil, Nat.add_zero] at hlen
    subst hlen
    simp only [runB, decide_eq_true_eq]
    cases hr : ts.reverse with
    | nil =>
      rw [hr] at hch
      simp only [Ch] at hch
      omega
    | cons t rest =>
      obtain ⟨r, d⟩ := t
      rw [hr] at hch
      simp only [Ch] at hch
      obtain ⟨e1, e2, e3, e4, e5⟩ := hch
      have er : r.toNat = L.length - 1 := by omega
      rw [er] at e5
      have hl : ts.length = rest.length + 1 := by rw [← List.length_reverse, hr]; rfl
      constructor
      · intro h
        have : rest = [] := List.length_eq_zero_iff.1 (by omega)
        subst this
        exact ⟨fun m hm hm2 => by omega, e5⟩
      · intro ⟨_, h0⟩
        cases rest with
        | nil => simpa using hl
        | cons t2 rest2 =>
          obtain ⟨r2, d2⟩ := t2
          simp only [Ch] at e5
          omega
  | cons x xs ih =>
    intro i ts hdrop hlen h1 hch
    have hi : i < L.length := by simp at hlen; omega
    have hx : L.getD i nd0 = x := by
      rw [List.getD_eq_getElem?_getD, List.getElem?_eq_getElem hi]
      have := List.drop_eq_getElem_cons hi
      rw [hdrop] at this
      simp only [List.cons.injEq] at this
      simp [this.1]
    have hdrop' : L.drop (i + 1) = xs := by
      have := List.drop_eq_getElem_cons hi
      rw [hdrop] at this
      simp only [List.cons.injEq] at this
      exact this.2.symm
    have hkids : kidsOf L i = x.kids := by unfold kidsOf; rw [hx]
    obtain ⟨mA, mB⟩ := match_walk L x.kids.reverse ts.reverse i hch
    have htree : tree L i = tw (tree L) x.kids.reverse ((i : Int) - 1) := by rw [tree_eq, hkids]
    rw [← htree] at mA mB
    simp only [List.length_reverse] at mA mB
    have hmatch : (x.kids.length ≤ ts.length ∧ (ts.reverse.take x.kids.length).map Prod.fst = x.kids.reverse) ↔ (x.kids.length ≤ ts.length ∧ (ts.drop (ts.length - x.kids.length)).map Prod.fst = x.kids) := by
      rw [List.take_reverse, List.map_reverse]
      constructor
      · intro ⟨a, b⟩; exact ⟨a, List.reverse_inj.1 b⟩
      · intro ⟨a, b⟩; exact ⟨a, by rw [b]⟩
    have bad : (∀ m : Nat, i ≤ m → m < L.length → fieldsB (L.getD m nd0) = true ∧ 0 ≤ tree L m ∧ deep L m ≤ 4) → fieldsB x = true ∧ 0 ≤ tree L i ∧ deep L i ≤ 4 := fun h => by
      have := h i (Nat.le_refl _) hi
      rwa [hx] at this
    simp only [runB, stepB]
    by_cases hf : fieldsB x = false
    · rw [if_pos hf]
      simp only [Bool.false_eq_true, false_iff]
      intro ⟨h, _⟩
      have := (bad h).1
      rw [hf] at this
      cases this
    rw [if_neg hf]
    by_cases hn : (ts.length : Int) - x.kids.length < 0
    · rw [if_pos hn]
      simp only [Bool.false_eq_true, false_iff]
      intro ⟨h, _⟩
      have := (bad h).2.1
      rw [mB (fun hm => by omega)] at this
      omega
    rw [if_neg hn]
    by_cases hk : (ts.drop (ts.length - x.kids.length)).map Prod.fst ≠ x.kids
    · rw [if_pos hk]
      simp only [Bool.false_eq_true, false_iff]
      intro ⟨h, _⟩
      have := (bad h).2.1
      rw [mB (fun hm => hk (hmatch.1 hm).2)] at this
      omega
    rw [if_neg hk]
    have hk' := Decidable.not_not.1 hk
    have hch' := mA (hmatch.2 ⟨by omega, hk'⟩)
    have ht0 := hch'.nonneg
    have hr : ∀ k ∈ x.kids, 0 ≤ k ∧ k < (i : Int) := fun k hkm => by
      rw [htree] at ht0
      have := tw_range (tree L) (tree_le L) _ _ ht0 k (by simpa using hkm)
      omega
    have hdeep : 1 + (ts.drop (ts.length - x.kids.length)).foldl (fun d t => max d t.2) 0 = deep L i := by
      rw [deep_eq, hkids, fold_kids L i _ x.kids 0 hk' (fun t ht => hch.deeps t (by simpa using List.mem_of_mem_drop ht)) hr]
      omega
    rw [hdeep]
    by_cases hd : deep L i > 4
    · rw [if_pos hd]
      simp only [Bool.false_eq_true, false_iff]
      intro ⟨h, _⟩
      have := (bad h).2.2
      omega
    rw [if_neg hd]
    have hnew : Ch L (ts.take (ts.length - x.kids.length) ++ [((i : Int), deep L i)]).reverse ((i + 1 : Nat) : Int) := by
      rw [List.reverse_append]
      simp only [List.reverse_cons, List.reverse_nil, List.nil_append, List.cons_append, Ch]
      refine ⟨by omega, by omega, by simpa using ht0, by simp, ?_⟩
      rw [List.drop_reverse] at hch'
      simpa using hch'
    have hrec := ih (i + 1) _ hdrop' (by simp at hlen; omega) h1 hnew
    show runB xs (i + 1) _ = true ↔ _
    rw [hrec]
    constructor
    · intro ⟨h, h0⟩
      refine ⟨fun m hm hm2 => ?_, h0⟩
      by_cases hmi : m = i
      · subst hmi
        rw [hx]
        exact ⟨by simpa using hf, ht0, by omega⟩
      · exact h m (by omega) hm2
    · intro ⟨h, h0⟩
      exact ⟨fun m hm hm2 => h m (by omega) hm2, h0⟩

theorem nodesB_iff (L : List Nd) : ∀ (xs : List Nd) (i : Nat), L.drop i = xs → (nodesB xs i = true ↔ ∀ m : Nat, i ≤ m → m < L.length → fieldsB (L.getD m nd0) = true ∧ rangeB m (L.getD m nd0) = true) := by
  intro xs
  induction xs with
  | nil =>
    intro i h
    simp only [nodesB, true_iff]
    intro m hm hm2
    have := List.drop_eq_nil_iff.1 h
    omega
  | cons x xs ih =>
    intro i h
    have hi : i < L.length := by
      rcases Nat.lt_or_ge i L.length with h' | h'
      · exact h'
      · rw [List.drop_eq_nil_of_le h'] at h; cases h
    have hc := List.drop_eq_getElem_cons hi
    rw [h] at hc
    simp only [List.cons.injEq] at hc
    have hx : L.getD i nd0 = x := by rw [List.getD_eq_getElem?_getD, List.getElem?_eq_getElem hi]; simp [hc.1]
    simp only [nodesB, Bool.and_eq_true, ih (i + 1) hc.2.symm]
    constructor
    · intro ⟨h1, h2⟩ m hm hm2
      by_cases hmi : m = i
      · subst hmi; rw [hx]; exact h1
      · exact h2 m (by omega) hm2
    · intro h2
      have := h2 i (Nat.le_refl _) hi
      rw [hx] at this
      exact ⟨this, fun m hm hm2 => h2 m (by omega) hm2⟩

/-- The two looks say the same. -/
theorem same_look (L : List Nd) : implB L = specB L := by
  unfold implB specB
  by_cases hl : 1 ≤ L.length ∧ L.length ≤ 1000
  · rw [decide_eq_true hl, Bool.true_and, Bool.true_and, Bool.eq_iff_iff]
    rw [runB_iff L L 0 [] rfl (by omega) hl.1 (by simp [Ch]), Bool.and_eq_true, nodesB_iff L L 0 rfl, decide_eq_true_eq]
    constructor
    · intro ⟨h, h0⟩
      refine ⟨fun m hm hm2 => ⟨(h m hm hm2).1, ?_⟩, h0, (h (L.length - 1) (by omega) (by omega)).2.2⟩
      have ht := (h m hm hm2).2.1
      rw [tree_eq] at ht
      have hr := tw_range (tree L) (tree_le L) _ _ ht
      unfold rangeB
      rw [List.all_eq_true]
      intro k hk
      have := hr k (by simpa [kidsOf] using hk)
      simp only [inB, decide_eq_true_eq]
      omega
    · intro ⟨h, h0, h4⟩
      refine ⟨fun m hm hm2 => ⟨(h m hm hm2).1, ?_⟩, h0⟩
      have := tree_cover L (L.length - 1) (by omega) m (by omega) (by omega)
      omega
  · rw [decide_eq_false hl, Bool.false_and, Bool.false_and, Bool.false_and]
end Go.Proofs.YtcgeafdakaeicaaDoor.Rp
