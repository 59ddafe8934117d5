/- Gaps of a heap: the program's look over the bytes and the specification's over the cells are one. -/
import Derived.Test.YtjjpplpdpldkeaaHMath
namespace Go.Proofs.Ytjjpplpdpldkeaa

def bump : List (Nat × Nat) → List (Nat × Nat)
  | [] => []
  | [x] => [(x.1, x.2 + 1)]
  | x :: y :: r => x :: bump (y :: r)

theorem bump_last : ∀ (G : List (Nat × Nat)) (a k : Nat), bump (G ++ [(a, k)]) = G ++ [(a, k + 1)]
  | [], _, _ => rfl
  | [x], a, k => rfl
  | x :: y :: r, a, k => by
    have := bump_last (y :: r) a k
    simp only [List.cons_append] at this ⊢
    rw [bump, this]

def stepG (i : Nat) (b : Bool) (s : List (Nat × Nat) × Bool) : List (Nat × Nat) × Bool :=
  if b then (s.1, false) else if s.2 then (bump s.1, true) else (s.1 ++ [(i, 1)], true)

def scanM (t : Nat → Bool) : Nat → List (Nat × Nat) × Bool
  | 0 => ([], false)
  | k + 1 => stepG k (t k) (scanM t k)

theorem scan_free {t : Nat → Bool} {e : Nat} {G : List (Nat × Nat)} (h : scanM t e = (G, false)) : ∀ k, (∀ i, e ≤ i → i < e + (k + 1) → t i = false) → scanM t (e + (k + 1)) = (G ++ [(e, k + 1)], true)
  | 0, hf => by
    rw [show e + (0 + 1) = e + 1 from rfl, scanM, h, hf e (Nat.le_refl _) (by omega)]
    rfl
  | k + 1, hf => by
    have ih := scan_free h k (fun i h1 h2 => hf i h1 (by omega))
    rw [show e + (k + 1 + 1) = (e + (k + 1)) + 1 from rfl, scanM, ih, hf (e + (k + 1)) (by omega) (by omega)]
    simp [stepG, bump_last]

theorem scan_taken {t : Nat → Bool} {e : Nat} {G : List (Nat × Nat)} {b : Bool} (h : scanM t e = (G, b)) : ∀ k, (∀ i, e ≤ i → i < e + (k + 1) → t i = true) → scanM t (e + (k + 1)) = (G, false)
  | 0, hf => by
    rw [show e + (0 + 1) = e + 1 from rfl, scanM, h, hf e (Nat.le_refl _) (by omega)]
    rfl
  | k + 1, hf => by
    have ih := scan_taken h k (fun i h1 h2 => hf i h1 (by omega))
    rw [show e + (k + 1 + 1) = (e + (k + 1)) + 1 from rfl, scanM, ih, hf (e + (k + 1)) (by omega) (by omega)]
    rfl

/-- Between the cells, from e on: where it begins and how many bytes it has, perhaps none. -/
def gapsAll (n : Nat) : List Cl → Nat → List (Nat × Nat)
  | [], e => [(e, n - e)]
  | c :: r, e => (e, c.pos.toNat - e) :: gapsAll n r (c.pos + c.len).toNat

def nz (l : List (Nat × Nat)) : List (Nat × Nat) := l.filter fun g => g.2 != 0

theorem nz_cons (e k : Nat) (l : List (Nat × Nat)) : nz ((e, k) :: l) = (if k = 0 then [] else [(e, k)]) ++ nz l := by
  unfold nz
  by_cases h : k = 0
  · rw [List.filter_cons_of_neg (by simp [h]), if_pos h, List.nil_append]
  · rw [List.filter_cons_of_pos (by simp [h]), if_neg h]
    rfl

theorem scan_gap {t : Nat → Bool} {e k : Nat} {G : List (Nat × Nat)} (h : scanM t e = (G, false)) (hf : ∀ i, e ≤ i → i < e + k → t i = false) : ∃ b, scanM t (e + k) = (G ++ (if k = 0 then [] else [(e, k)]), b) := by
  cases k with
  | zero => exact ⟨false, by rw [if_pos rfl, List.append_nil]; exact h⟩
  | succ k => exact ⟨true, by rw [if_neg (by omega)]; exact scan_free h k hf⟩

theorem scan_sweep (n : Nat) (t : Nat → Bool) : ∀ (S : List Cl) (e : Nat) (G : List (Nat × Nat)), (∀ c ∈ S, Ok n c) → Sorted S → S.Pairwise Disj → (∀ c ∈ S, (e : Int) ≤ c.pos) → e ≤ n → (∀ i, e ≤ i → t i = S.any fun c => covers c i) →
    scanM t e = (G, false) → (scanM t n).1 = G ++ nz (gapsAll n S e)
  | [], e, G, _, _, _, _, he, ht, hs => by
    obtain ⟨b, hb⟩ := scan_gap (k := n - e) hs (fun i h1 _ => by rw [ht i h1]; rfl)
    rw [show e + (n - e) = n from by omega] at hb
    rw [hb, gapsAll, nz_cons]
    simp [nz]
  | c :: r, e, G, hok, hso, hd, hp, he, ht, hs => by
    obtain ⟨hl, h1, h2, h3⟩ := hok c (by simp)
    rw [Sorted, List.pairwise_cons] at hso
    rw [List.pairwise_cons] at hd
    have hpc := hp c (by simp)
    have hr : ∀ x ∈ r, (((c.pos + c.len).toNat : Nat) : Int) ≤ x.pos := fun x hx => by
      have hx2 := hso.1 x hx
      obtain ⟨_, q1, q2, q3⟩ := hok x (by simp [hx])
      rcases hd.1 x hx with h | h <;> omega
    have hcov : ∀ i : Nat, (∀ x ∈ r, ¬ (x.pos ≤ i)) → (r.any fun x => covers x i) = false := fun i hi => by
      rw [Bool.eq_false_iff]
      intro h
      obtain ⟨x, hx, hxi⟩ := List.any_eq_true.1 h
      have := (covers_iff x i (hok x (by simp [hx])).1).1 hxi
      exact hi x hx this.1
    obtain ⟨b, hb⟩ := scan_gap (k := c.pos.toNat - e) hs (fun i h4 h5 => by
      rw [ht i h4, List.any_cons, hcov i (fun x hx hxi => by have := hr x hx; omega), Bool.or_false, Bool.eq_false_iff]
      intro h
      have := (covers_iff c i hl).1 h
      omega)
    rw [show e + (c.pos.toNat - e) = c.pos.toNat from by omega] at hb
    have hk := scan_taken hb (c.len.toNat - 1) (fun i h4 h5 => by
      rw [ht i (by omega), List.any_cons, (covers_iff c i hl).2 (by omega), Bool.true_or])
    rw [show c.pos.toNat + (c.len.toNat - 1 + 1) = (c.pos + c.len).toNat from by omega] at hk
    have ih := scan_sweep n t r (c.pos + c.len).toNat _ (fun x hx => hok x (by simp [hx])) hso.2 hd.2 hr (by omega) (fun i hi => by
      rw [ht i (by omega), List.any_cons]
      have : covers c i = false := by
        rw [Bool.eq_false_iff]
        intro h
        have := (covers_iff c i hl).1 h
        omega
      rw [this, Bool.false_or]) hk
    rw [ih, gapsAll, nz_cons, List.append_assoc]

def sumG (l : List (Nat × Nat)) : Int := l.foldl (fun a g => a + (g.2 : Int)) 0
def maxG (l : List (Nat × Nat)) : Int := l.foldl (fun a g => max a (g.2 : Int)) 0

theorem foldl_nz (f : Int → Int → Int) (P : Int → Prop) (h0 : ∀ a, P a → f a 0 = a) (hP : ∀ a (k : Nat), P a → P (f a k)) : ∀ (l : List (Nat × Nat)) (a : Int), P a → (nz l).foldl (fun a g => f a (g.2 : Int)) a = l.foldl (fun a g => f a (g.2 : Int)) a
  | [], a, _ => rfl
  | g :: r, a, ha => by
    obtain ⟨e, k⟩ := g
    rw [nz_cons, List.foldl_cons]
    by_cases hk : k = 0
    · subst hk
      rw [if_pos rfl, List.nil_append, foldl_nz f P h0 hP r a ha]
      show _ = List.foldl _ (f a 0) r
      rw [h0 a ha]
    · rw [if_neg hk, List.singleton_append, List.foldl_cons]
      exact foldl_nz f P h0 hP r _ (hP a k ha)

theorem sum_nz (l : List (Nat × Nat)) : sumG (nz l) = sumG l := foldl_nz (fun a k => a + k) (fun _ => True) (fun a _ => by simp) (fun _ _ _ => trivial) l 0 trivial
theorem max_nz (l : List (Nat × Nat)) : maxG (nz l) = maxG l := foldl_nz (fun a k => max a k) (fun a => 0 ≤ a) (fun _ h => Int.max_eq_left h) (fun _ _ h => Int.le_trans h (Int.le_max_left _ _)) l 0 (Int.le_refl 0)

def lens (S : List Cl) : Int := (S.map (·.len)).sum

theorem sum_all (n : Nat) : ∀ (S : List Cl) (e : Nat) (a : Int), (∀ c ∈ S, Ok n c) → Sorted S → S.Pairwise Disj → (∀ c ∈ S, (e : Int) ≤ c.pos) → e ≤ n → (gapsAll n S e).foldl (fun a g => a + (g.2 : Int)) a = a + n - e - lens S
  | [], e, a, _, _, _, _, he => by
    simp [gapsAll, lens]
    omega
  | c :: r, e, a, hok, hso, hd, hp, he => by
    obtain ⟨hl, h1, h2, h3⟩ := hok c (by simp)
    rw [Sorted, List.pairwise_cons] at hso
    rw [List.pairwise_cons] at hd
    have hpc := hp c (by simp)
    have hr : ∀ x ∈ r, (((c.pos + c.len).toNat : Nat) : Int) ≤ x.pos := fun x hx => by
      have hx2 := hso.1 x hx
      obtain ⟨_, q1, q2, q3⟩ := hok x (by simp [hx])
      rcases hd.1 x hx with h | h <;> omega
    rw [gapsAll, List.foldl_cons, sum_all n r _ _ (fun x hx => hok x (by simp [hx])) hso.2 hd.2 hr (by omega)]
    simp only [lens, List.map_cons, List.sum_cons]
    omega

theorem sum_perm {a b : List Int} (h : a.Perm b) : a.sum = b.sum := by
  induction h with
  | nil => rfl
  | cons x _ ih => rw [List.sum_cons, List.sum_cons, ih]
  | swap x y l => simp only [List.sum_cons]; omega
  | trans _ _ ih1 ih2 => exact ih1.trans ih2

theorem lens_live (n : Nat) : ∀ L : List Cl, L.all (admitB n) = true → lens (L.filter (·.live)) = lens L
  | [], _ => rfl
  | c :: r, h => by
    rw [List.all_cons, Bool.and_eq_true] at h
    have ih := lens_live n r h.2
    cases hl : c.live with
    | true =>
      rw [List.filter_cons_of_pos hl]
      simp only [lens, List.map_cons, List.sum_cons] at ih ⊢
      rw [ih]
    | false =>
      rw [List.filter_cons_of_neg (by simp [hl])]
      have : c.len = 0 := by
        have h1 := h.1
        unfold admitB at h1
        rw [hl] at h1
        simp at h1
        omega
      simp only [lens, List.map_cons, List.sum_cons] at ih ⊢
      rw [ih, this]
      omega

/-- What a right heap gives: the sorted live cells, and the bytes that are taken. -/
structure Right (n : Nat) (L : List Cl) (t : Nat → Bool) : Prop where
  ok : ∀ c ∈ liveC [] L, Ok n c
  sorted : Sorted (liveC [] L)
  disj : (liveC [] L).Pairwise Disj
  all : L.all (admitB n) = true
  taken : ∀ i, t i = (liveC [] L).any fun c => covers c i

theorem right_of_open {n : Nat} {L : List Cl} {t : Nat → Bool} (h : openM n L (fun _ => false) = some t) : Right n L t := by
  obtain ⟨a1, a2, _, a4⟩ := (open_iff n L _ t).1 h
  have hP := liveC_perm L []
  rw [List.nil_append] at hP
  refine ⟨fun c hc => ?_, liveC_sorted L [] List.Pairwise.nil, (hP.pairwise_iff (fun h => Disj.symm h)).2 a2, a1, fun i => ?_⟩
  · have hm := hP.mem_iff.1 hc
    exact admit_ok (List.all_eq_true.1 a1 c (List.mem_filter.1 hm).1) (List.mem_filter.1 hm).2
  · rw [a4]
    show (false || _) = _
    rw [Bool.false_or, Bool.eq_iff_iff, List.any_eq_true, List.any_eq_true]
    exact ⟨fun ⟨x, hx, h⟩ => ⟨x, hP.mem_iff.2 hx, h⟩, fun ⟨x, hx, h⟩ => ⟨x, hP.mem_iff.1 hx, h⟩⟩

theorem Right.low {n : Nat} {L : List Cl} {t : Nat → Bool} (h : Right n L t) : ∀ c ∈ liveC [] L, ((0 : Nat) : Int) ≤ c.pos := fun c hc => (h.ok c hc).2.2.1

theorem Right.scan {n : Nat} {L : List Cl} {t : Nat → Bool} (h : Right n L t) : (scanM t n).1 = nz (gapsAll n (liveC [] L) 0) := by
  have := scan_sweep n t (liveC [] L) 0 [] h.ok h.sorted h.disj h.low (by omega) (fun i _ => h.taken i) rfl
  rwa [List.nil_append] at this

theorem Right.room {n : Nat} {L : List Cl} {t : Nat → Bool} (h : Right n L t) : sumG (scanM t n).1 = n - lens L := by
  rw [h.scan, sum_nz]
  have := sum_all n (liveC [] L) 0 0 h.ok h.sorted h.disj h.low (by omega)
  unfold sumG
  rw [this]
  have hP := liveC_perm L []
  rw [List.nil_append] at hP
  have : lens (liveC [] L) = lens L := by
    rw [← lens_live n L h.all]
    exact sum_perm (hP.map _)
  rw [this]
  simp

theorem Right.gap {n : Nat} {L : List Cl} {t : Nat → Bool} (h : Right n L t) : maxG (scanM t n).1 = maxG (gapsAll n (liveC [] L) 0) := by
  rw [h.scan, max_nz]
end Go.Proofs.Ytjjpplpdpldkeaa
