/- What a put leaves: of no program, for the drawn laws of the arena. -/
import Derived.Test.YtjjpplpdpldkeaaHLawA
namespace Go.Proofs.Ytjjpplpdpldkeaa
open Go.RowKit Go.Sort

/-! ### Bytes -/

theorem byte_get {s : ByteArray} {i : Nat} (h : i < s.size) : byteAt s i = s[i] := by
  unfold byteAt
  have hl : i < s.data.toList.length := by rw [Array.length_toList]; exact h
  rw [List.getD_eq_getElem?_getD, List.getElem?_eq_getElem hl]
  rfl

theorem ext_bytes {s x : ByteArray} (hs : s.size = x.size) (h : ∀ i, i < s.size → byteAt s i = byteAt x i) : s = x := by
  apply ByteArray.ext
  apply Array.ext'
  rw [bytes_list s, bytes_list x, hs]
  apply List.map_congr_left
  intro i hi
  exact h i (by rw [hs]; exact List.mem_range.1 hi)

theorem byte_extract {s : ByteArray} {P Q i : Nat} (hQ : Q ≤ s.size) (h : i < Q - P) : byteAt (s.extract P Q) i = byteAt s (P + i) := by
  have hz : (s.extract P Q).size = Q - P := by rw [ByteArray.size_extract]; omega
  rw [byte_get (by rw [hz]; exact h), byte_get (show P + i < s.size by omega), ByteArray.getElem_extract]

theorem byte_left {s x : ByteArray} {i : Nat} (h : i < s.size) : byteAt (s ++ x) i = byteAt s i := by
  rw [byte_get h, byte_get (by rw [ByteArray.size_append]; omega), ByteArray.getElem_append_left h]

theorem byte_right {s x : ByteArray} {i : Nat} (h : s.size ≤ i) (h2 : i - s.size < x.size) : byteAt (s ++ x) i = byteAt x (i - s.size) := by
  rw [byte_get h2, byte_get (by rw [ByteArray.size_append]; omega), ByteArray.getElem_append_right h]

theorem cut_same {s x : ByteArray} {P Q W : Nat} (h1 : P + W ≤ s.size) (h2 : Q + W ≤ x.size) (h : ∀ j, j < W → byteAt s (P + j) = byteAt x (Q + j)) : s.extract P (P + W) = x.extract Q (Q + W) := by
  have z1 : (s.extract P (P + W)).size = W := by rw [ByteArray.size_extract]; omega
  have z2 : (x.extract Q (Q + W)).size = W := by rw [ByteArray.size_extract]; omega
  refine ext_bytes (by rw [z1, z2]) (fun i hi => ?_)
  rw [z1] at hi
  rw [byte_extract h1 (by omega), byte_extract h2 (by omega)]
  exact h i hi

theorem cut_is {s x : ByteArray} {P : Nat} (h1 : P + x.size ≤ s.size) (h : ∀ j, j < x.size → byteAt s (P + j) = byteAt x j) : s.extract P (P + x.size) = x := by
  have z1 : (s.extract P (P + x.size)).size = x.size := by rw [ByteArray.size_extract]; omega
  refine ext_bytes z1 (fun i hi => ?_)
  rw [z1] at hi
  rw [byte_extract h1 (by omega)]
  exact h i hi

/-! ### What is got -/

theorem get_at {s : ByteArray} {L : List Cl} {k : Nat} (h : RightX s L) (hk : k < L.length) (hl : (L.getD k cl0).live = true) :
    getB s L k (L.getD k cl0).gen = (s.extract (L.getD k cl0).pos.toNat ((L.getD k cl0).pos.toNat + (L.getD k cl0).len.toNat), true) := by
  have hi : isB L k (L.getD k cl0).gen = true := by
    unfold isB
    rw [Bool.and_eq_true, Bool.and_eq_true]
    exact ⟨decide_eq_true (by omega), by simpa using hl, by simp⟩
  unfold getB
  rw [if_pos ⟨(heap_iff s L).2 h, hi⟩]
  simp

theorem get_none {s : ByteArray} {L : List Cl} {rc rg : Int} (h : isB L rc rg = false) : getB s L rc rg = (⟨#[]⟩, false) := by
  unfold getB
  rw [if_neg (by rw [h]; simp)]

theorem is_dead {L : List Cl} {k : Nat} {rg : Int} (h : (L.getD k cl0).live = false ∨ (L.getD k cl0).gen ≠ rg) : isB L k rg = false := by
  unfold isB
  rw [Bool.eq_false_iff]
  intro hx
  rw [Bool.and_eq_true, Bool.and_eq_true] at hx
  obtain ⟨_, h1, h2⟩ := hx
  simp at h1 h2
  rcases h with h | h
  · rw [List.getD_eq_getElem?_getD] at h; rw [h] at h1; cases h1
  · rw [List.getD_eq_getElem?_getD] at h; exact h h2

/-- Two right heaps give the same at a place whose cell is as live, of the same Gen, as long, and has the same bytes. -/
theorem get_same {s x : ByteArray} {L M : List Cl} {k : Nat} {rg : Int} (h1 : RightX s L) (h2 : RightX x M) (hk : k < L.length) (hk2 : k < M.length)
    (hl : (M.getD k cl0).live = (L.getD k cl0).live) (hg : (M.getD k cl0).gen = (L.getD k cl0).gen) (hn : (M.getD k cl0).len = (L.getD k cl0).len)
    (hb : (L.getD k cl0).live = true → ∀ j, j < (L.getD k cl0).len.toNat → byteAt s ((L.getD k cl0).pos.toNat + j) = byteAt x ((M.getD k cl0).pos.toNat + j)) :
    getB s L k rg = getB x M k rg := by
  by_cases hlive : (L.getD k cl0).live = true
  · by_cases hgen : (L.getD k cl0).gen = rg
    · subst hgen
      have e2 := get_at h2 hk2 (by rw [hl]; exact hlive)
      rw [hg] at e2
      rw [get_at h1 hk hlive, e2, hn]
      obtain ⟨_, a1, a2, a3⟩ := h1.ok hk hlive
      obtain ⟨_, b1, b2, b3⟩ := h2.ok hk2 (by rw [hl]; exact hlive)
      rw [hn] at b1 b3
      rw [cut_same (by omega) (by omega) (hb hlive)]
    · rw [get_none (is_dead (.inr hgen)), get_none (is_dead (.inr (by rw [hg]; exact hgen)))]
  · have hlive' : (L.getD k cl0).live = false := by simpa using hlive
    rw [get_none (is_dead (.inl hlive')), get_none (is_dead (.inl (by rw [hl]; exact hlive')))]

/-! ### Gaps -/

theorem le_max (l : List (Nat × Nat)) : ∀ a : Int, (∀ g ∈ l, (g.2 : Int) ≤ l.foldl (fun a g => max a (g.2 : Int)) a) ∧ a ≤ l.foldl (fun a g => max a (g.2 : Int)) a := by
  induction l with
  | nil => intro a; exact ⟨fun g hg => by simp at hg, Int.le_refl _⟩
  | cons y r ih =>
    intro a
    rw [List.foldl_cons]
    obtain ⟨h1, h2⟩ := ih (max a (y.2 : Int))
    refine ⟨fun g hg => ?_, Int.le_trans (Int.le_max_left _ _) h2⟩
    rcases List.mem_cons.1 hg with rfl | hg
    · exact Int.le_trans (Int.le_max_right _ _) h2
    · exact h1 g hg

theorem max_lt (w : Int) (l : List (Nat × Nat)) : ∀ a : Int, a < w → (∀ g ∈ l, (g.2 : Int) < w) → l.foldl (fun a g => max a (g.2 : Int)) a < w := by
  induction l with
  | nil => intro a h _; exact h
  | cons y r ih =>
    intro a h hg
    rw [List.foldl_cons]
    have := hg y (by simp)
    exact ih _ (by omega) (fun g h => hg g (by simp [h]))

theorem max_le_sum (l : List (Nat × Nat)) : ∀ a b : Int, a ≤ b → 0 ≤ a → l.foldl (fun a g => max a (g.2 : Int)) a ≤ l.foldl (fun a g => a + (g.2 : Int)) b := by
  induction l with
  | nil => intro a b h _; exact h
  | cons y r ih =>
    intro a b h h0
    rw [List.foldl_cons, List.foldl_cons]
    exact ih _ _ (by omega) (by omega)

theorem first_no (want : Nat) : ∀ l : List (Nat × Nat), firstG want l < 0 → ∀ g ∈ l, g.2 < want
  | [], _, g, hg => by simp at hg
  | y :: r, h, g, hg => by
    rw [firstG] at h
    split at h
    · omega
    · rename_i hw
      rcases List.mem_cons.1 hg with rfl | hg
      · omega
      · exact first_no want r h g hg

theorem first_yes (want : Nat) : ∀ l : List (Nat × Nat), 0 ≤ firstG want l → ∃ g ∈ l, want ≤ g.2 ∧ firstG want l = g.1
  | [], h => by simp [firstG] at h
  | y :: r, h => by
    rw [firstG] at h ⊢
    split
    · rename_i hw
      exact ⟨y, by simp, hw, rfl⟩
    · rename_i hw
      rw [if_neg hw] at h
      obtain ⟨g, h1, h2, h3⟩ := first_yes want r h
      exact ⟨g, by simp [h1], h2, h3⟩

/-- Every byte of a gap is free. -/
theorem scan_all_free (t : Nat → Bool) : ∀ k, (∀ g ∈ (scanM t k).1, ∀ i, g.1 ≤ i → i < g.1 + g.2 → t i = false) ∧ ((scanM t k).2 = true → ∃ G a l, (scanM t k).1 = G ++ [(a, l)] ∧ a + l = k)
  | 0 => ⟨fun x hx => by simp [scanM] at hx, fun h => by simp [scanM] at h⟩
  | k + 1 => by
    obtain ⟨h1, h2⟩ := scan_all_free t k
    refine ⟨?_, (scan_room t (k + 1)).2⟩
    rw [scanM, stepG]
    split
    · exact h1
    · rename_i hb
      have hb' : t k = false := by simpa using hb
      split
      · rename_i h
        obtain ⟨G, a, l, e, hl⟩ := h2 h
        rw [e] at h1
        rw [e, bump_last]
        intro g hg i hi1 hi2
        rcases List.mem_append.1 hg with h | h
        · exact h1 g (by simp [h]) i hi1 hi2
        · simp at h
          subst h
          simp only at hi1 hi2
          by_cases hik : i < k
          · exact h1 (a, l) (by simp) i hi1 (by simp only; omega)
          · rw [show i = k by omega]; exact hb'
      · intro g hg i hi1 hi2
        rcases List.mem_append.1 hg with h | h
        · exact h1 g h i hi1 hi2
        · simp at h
          subst h
          simp only at hi1 hi2
          rw [show i = k by omega]; exact hb'

theorem scan_run (t : Nat → Bool) (P : Nat) : ∀ j, (∀ i, P ≤ i → i < P + (j + 1) → t i = false) → ∃ G a l, scanM t (P + (j + 1)) = (G ++ [(a, l)], true) ∧ a + l = P + (j + 1) ∧ a ≤ P
  | 0, h => by
    have hP := h P (Nat.le_refl _) (by omega)
    rw [show P + (0 + 1) = P + 1 from rfl, scanM, stepG, hP]
    cases hb : (scanM t P).2 with
    | true =>
      obtain ⟨G, a, l, e, hl⟩ := (scan_room t P).2 hb
      refine ⟨G, a, l + 1, ?_, by omega, by omega⟩
      rw [e, bump_last]
      rfl
    | false => exact ⟨_, P, 1, rfl, rfl, Nat.le_refl _⟩
  | j + 1, h => by
    obtain ⟨G, a, l, e, h1, h2⟩ := scan_run t P j (fun i hi1 hi2 => h i hi1 (by omega))
    have hP := h (P + (j + 1)) (by omega) (by omega)
    refine ⟨G, a, l + 1, ?_, by omega, h2⟩
    rw [show P + (j + 1 + 1) = (P + (j + 1)) + 1 from rfl, scanM, e, stepG, hP]
    show (bump (G ++ [(a, l)]), true) = _
    rw [bump_last]

theorem scan_keep (t : Nat → Bool) (W k : Nat) : ∀ d, (∃ g ∈ (scanM t k).1, W ≤ g.2) → ∃ g ∈ (scanM t (k + d)).1, W ≤ g.2
  | 0, h => h
  | d + 1, h => by
    obtain ⟨g, hg, hw⟩ := scan_keep t W k d h
    rw [show k + (d + 1) = (k + d) + 1 from rfl, scanM, stepG]
    split
    · exact ⟨g, hg, hw⟩
    · split
      · rename_i hb
        obtain ⟨G, a, l, e, hl⟩ := (scan_room t (k + d)).2 hb
        rw [e] at hg
        show ∃ g ∈ bump (scanM t (k + d)).1, W ≤ g.2
        rw [e, bump_last]
        rcases List.mem_append.1 hg with h | h
        · exact ⟨g, by simp [h], hw⟩
        · simp at h
          subst h
          exact ⟨(a, l + 1), by simp, by simp only at hw ⊢; omega⟩
      · exact ⟨g, by simp [hg], hw⟩

/-- So many free bytes in a row: there is a gap of so many. -/
theorem scan_found {t : Nat → Bool} {P W n : Nat} (hW : 1 ≤ W) (hn : P + W ≤ n) (h : ∀ i, P ≤ i → i < P + W → t i = false) : ∃ g ∈ (scanM t n).1, W ≤ g.2 := by
  obtain ⟨G, a, l, e, h1, h2⟩ := scan_run t P (W - 1) (fun i hi1 hi2 => h i hi1 (by omega))
  rw [show P + (W - 1 + 1) = P + W by omega] at e h1
  have := scan_keep t W (P + W) (n - (P + W)) ⟨(a, l), by rw [e]; simp, by simp only; omega⟩
  rwa [show P + W + (n - (P + W)) = n by omega] at this

theorem taken_no {n : Nat} {L : List Cl} {t : Nat → Bool} (h : Right n L t) (i : Nat) : t i = false ↔ ∀ k, k < L.length → covers (L.getD k cl0) i = false := by
  rw [h.taken i, ← any_cover L i]
  have hP := liveC_perm L []
  rw [List.nil_append] at hP
  have e : ((liveC [] L).any fun c => covers c i) = ((L.filter (·.live)).any fun c => covers c i) := by
    rw [Bool.eq_iff_iff, List.any_eq_true, List.any_eq_true]
    exact ⟨fun ⟨x, hx, h⟩ => ⟨x, hP.mem_iff.1 hx, h⟩, fun ⟨x, hx, h⟩ => ⟨x, hP.mem_iff.2 hx, h⟩⟩
  rw [e]

theorem gap_val {s : ByteArray} {L : List Cl} (h : heapB s L = true) : ∃ t, Right s.size L t ∧ overB (fun x y => max x y) s L = maxG (scanM t s.size).1 ∧ overB (fun x y => x + y) s L = sumG (scanM t s.size).1 := by
  obtain ⟨t, ho, hr⟩ := heap_right h
  refine ⟨t, hr, ?_, ?_⟩ <;> (unfold overB gapsOf; rw [if_pos h, ho]; rfl)

theorem gap_le_room {s : ByteArray} {L : List Cl} (h : heapB s L = true) : overB (fun x y => max x y) s L ≤ overB (fun x y => x + y) s L := by
  obtain ⟨t, _, h1, h2⟩ := gap_val h
  rw [h1, h2]
  exact max_le_sum _ 0 0 (Int.le_refl _) (Int.le_refl _)

/-- Where nothing is put that is right and some, and cells are to be had: no gap is so great. -/
theorem put_why {s : ByteArray} {L : List Cl} {x : ByteArray} (h : heapB s L = true) (hL : L.length < 40) (hx : x.size ≠ 0) (hp : putOk s L x = false) : overB (fun x y => max x y) s L < x.size := by
  obtain ⟨t, hr, h1, _⟩ := gap_val h
  rw [h1]
  have hf : freeAt L ≠ 40 := by have := free_le L; omega
  have hneg : (gapFold x.size s.size (liveC [] L) 0 (-1, 0)).1 < 0 := by
    unfold putOk at hp
    rw [h, decide_eq_true hx, decide_eq_true hf] at hp
    simp at hp
    omega
  rw [put_at hr (by omega)] at hneg
  exact max_lt _ _ 0 (by omega) (fun g hg => by have := first_no _ _ hneg g hg; omega)

/-! ### What is put -/

structure PutX (s : ByteArray) (L : List Cl) (x : ByteArray) (P k : Nat) (M : List Cl) (g : Int) : Prop where
  right : RightX s L
  room : P + x.size ≤ s.size
  some : 1 ≤ x.size
  clear : ∀ i, i < L.length → ∀ p, P ≤ p → p < P + x.size → covers (L.getD i cl0) p = false
  klt : k < M.length
  dead : (L.getD k cl0).live = false
  now : M.getD k cl0 = ⟨P, x.size, g + 1, true⟩
  gen : (L.getD k cl0).gen = g
  low : 0 ≤ g ∧ g < 1000000000
  rest : ∀ i, i ≠ k → M.getD i cl0 = L.getD i cl0
  back : ∀ i, i < M.length → i ≠ k → i < L.length
  more : L.length ≤ M.length
  few : M.length ≤ 40

theorem free_is : ∀ L : List Cl, freeAt L < L.length → (L.getD (freeAt L) cl0).live = false ∧ (L.getD (freeAt L) cl0).gen < 1000000000
  | [], h => by simp at h
  | c :: r, h => by
    rw [freeAt] at h ⊢
    split
    · rename_i hc
      exact hc
    · rename_i hc
      rw [if_neg hc] at h
      rw [List.getD_cons_succ]
      exact free_is r (by simp at h; omega)

theorem put_x {s : ByteArray} {L : List Cl} {x : ByteArray} (h : putOk s L x = true) : PutX s L x (putPos s L x) (freeAt L) (putCells L (putPos s L x) x.size) ((roomC L).getD (freeAt L) cl0).gen := by
  unfold putOk at h
  rw [Bool.and_eq_true, Bool.and_eq_true, Bool.and_eq_true] at h
  obtain ⟨⟨⟨h1, h2⟩, h3⟩, h4⟩ := h
  have h2 := of_decide_eq_true h2
  have h3 := of_decide_eq_true h3
  have h4 := of_decide_eq_true h4
  have hX := (heap_iff s L).1 h1
  obtain ⟨t, _, hr⟩ := heap_right h1
  rw [put_at hr (by omega)] at h3
  obtain ⟨g, hg, hw, he⟩ := first_yes _ _ h3
  have hP : putPos s L x = g.1 := by
    unfold putPos
    rw [put_at hr (by omega), he]
    rfl
  have hroom := (scan_room t s.size).1 g hg
  have hle := free_le L
  have hlen : (putCells L (putPos s L x) x.size).length = (roomC L).length := by unfold putCells; rw [List.length_set]
  have hrl := room_len L
  have hnow : (putCells L (putPos s L x) x.size).getD (freeAt L) cl0 = ⟨(putPos s L x : Nat), (x.size : Nat), ((roomC L).getD (freeAt L) cl0).gen + 1, true⟩ := by
    unfold putCells
    rw [getD_set _ hrl, if_pos rfl]
  have hrest : ∀ i, i ≠ freeAt L → (putCells L (putPos s L x) x.size).getD i cl0 = L.getD i cl0 := fun i hi => by
    unfold putCells
    rw [getD_set _ hrl, if_neg hi]
    unfold roomC
    split
    · rename_i hf
      rw [List.getD_eq_getElem?_getD, List.getD_eq_getElem?_getD]
      by_cases hil : i < L.length
      · rw [List.getElem?_append_left hil]
      · rw [List.getElem?_eq_none (by simp; omega), List.getElem?_eq_none (by omega)]
    · rfl
  by_cases hf : freeAt L = L.length
  · have hrc : roomC L = L ++ [cl0] := if_pos hf
    have hz : (roomC L).getD (freeAt L) cl0 = cl0 := by
      rw [hrc, hf, List.getD_eq_getElem?_getD, List.getElem?_append_right (Nat.le_refl _), Nat.sub_self]
      rfl
    have hz2 : L.getD (freeAt L) cl0 = cl0 := by
      rw [hf, List.getD_eq_getElem?_getD, List.getElem?_eq_none (Nat.le_refl _)]
      rfl
    have hl2 : (roomC L).length = L.length + 1 := by rw [hrc]; simp
    refine ⟨hX, by rw [hP]; omega, by omega, ?_, by rw [hlen]; exact hrl, by rw [hz2]; rfl, hnow, by rw [hz, hz2], by rw [hz]; decide, hrest, ?_, by rw [hlen, hl2]; omega, ?_⟩
    · intro i hi p hp1 hp2
      rw [hP] at hp1 hp2
      exact (taken_no hr p).1 ((scan_all_free t s.size).1 g hg p hp1 (by omega)) i hi
    · intro i hi hne
      rw [hlen, hl2] at hi
      omega
    · rw [hlen, hl2]
      have := hX.few
      omega
  · have hrc : roomC L = L := if_neg hf
    have hfl : freeAt L < L.length := by omega
    obtain ⟨d1, d2⟩ := free_is L hfl
    have hadm := hX.adm _ hfl
    unfold admitB at hadm
    rw [Bool.and_eq_true] at hadm
    have hg1 := of_decide_eq_true hadm.1
    refine ⟨hX, by rw [hP]; omega, by omega, ?_, by rw [hlen]; exact hrl, d1, hnow, by rw [hrc], by rw [hrc]; omega, hrest, ?_, by rw [hlen, hrc]; omega, ?_⟩
    · intro i hi p hp1 hp2
      rw [hP] at hp1 hp2
      exact (taken_no hr p).1 ((scan_all_free t s.size).1 g hg p hp1 (by omega)) i hi
    · intro i hi _
      rw [hlen, hrc] at hi
      exact hi
    · rw [hlen, hrc]
      exact hX.few

theorem PutX.right' {s : ByteArray} {L : List Cl} {x : ByteArray} {P k : Nat} {M : List Cl} {g : Int} (h : PutX s L x P k M g) : RightX (putData s P x) M := by
  have hsz := size_put h.room
  have hk : covers (M.getD k cl0) = fun p => decide (P ≤ p ∧ p < P + x.size) := by
    rw [h.now]
    funext p
    unfold covers
    rw [Bool.eq_iff_iff]
    simp
    omega
  have hdis : ∀ i, i < L.length → (L.getD i cl0).live = true → Disj (L.getD i cl0) ⟨P, x.size, g + 1, true⟩ := fun i hi hl => by
    obtain ⟨_, a1, a2, a3⟩ := h.right.ok hi hl
    have hc := h.clear i hi
    unfold Disj
    simp only
    have hs := h.some
    by_cases h1 : (L.getD i cl0).pos + (L.getD i cl0).len ≤ P
    · exact .inl h1
    · right
      by_cases h2 : (P : Int) + x.size ≤ (L.getD i cl0).pos
      · exact h2
      · exfalso
        have := hc (max P (L.getD i cl0).pos.toNat) (by omega) (by omega)
        rw [Bool.eq_false_iff] at this
        exact this ((covers_iff _ _ hl).2 (by omega))
  refine ⟨by rw [hsz]; exact h.right.small, h.few, fun i hi => ?_, fun i j hi hj hij li lj => ?_, fun p hp hc => ?_⟩
  · rw [hsz]
    by_cases hik : i = k
    · rw [hik, h.now]
      have := h.low
      have := h.room
      have := h.some
      unfold admitB
      simp
      omega
    · rw [h.rest i hik]
      exact h.right.adm i (h.back i hi hik)
  · by_cases hik : i = k
    · by_cases hjk : j = k
      · omega
      · rw [hik, h.now, h.rest j hjk]
        rw [h.rest j hjk] at lj
        exact (hdis j (h.back j hj hjk) lj).symm
    · rw [h.rest i hik] at li ⊢
      by_cases hjk : j = k
      · rw [hjk, h.now]
        exact hdis i (h.back i hi hik) li
      · rw [h.rest j hjk] at lj ⊢
        exact h.right.apart i j (h.back i hi hik) (h.back j hj hjk) hij li lj
  · rw [hsz] at hp
    rw [byte_put h.room p hp]
    have := hc k h.klt
    rw [hk] at this
    have := of_decide_eq_false this
    rw [if_neg this]
    refine h.right.clean p hp (fun i hi => ?_)
    by_cases hik : i = k
    · subst hik
      unfold covers
      rw [h.dead]
      rfl
    · have := hc i (by have := h.more; omega)
      rwa [h.rest i hik] at this

theorem PutX.got {s : ByteArray} {L : List Cl} {x : ByteArray} {P k : Nat} {M : List Cl} {g : Int} (h : PutX s L x P k M g) : getB (putData s P x) M k (g + 1) = (x, true) := by
  have := get_at h.right' h.klt (by rw [h.now])
  rw [h.now] at this
  simp only at this
  rw [this]
  congr 1
  have hz := size_put h.room
  refine cut_is (by rw [hz]; simpa using h.room) (fun j hj => ?_)
  have := h.room
  simp only [Int.toNat_natCast]
  rw [byte_put h.room _ (by omega), if_pos (by omega), show P + j - P = j by omega]

theorem PutX.was {s : ByteArray} {L : List Cl} {x : ByteArray} {P k : Nat} {M : List Cl} {g : Int} (h : PutX s L x P k M g) (rg : Int) : getB s L k rg = (⟨#[]⟩, false) := get_none (is_dead (.inl h.dead))

theorem PutX.else {s : ByteArray} {L : List Cl} {x : ByteArray} {P k : Nat} {M : List Cl} {g : Int} (h : PutX s L x P k M g) {i : Nat} (hi : i < L.length) (hik : i ≠ k) (rg : Int) : getB s L i rg = getB (putData s P x) M i rg := by
  have e := h.rest i hik
  refine get_same h.right h.right' hi (by have := h.more; omega) (by rw [e]) (by rw [e]) (by rw [e]) (fun hl j hj => ?_)
  rw [e]
  obtain ⟨_, a1, a2, a3⟩ := h.right.ok hi hl
  rw [byte_put h.room _ (by omega), if_neg]
  intro hp
  have := h.clear i hi _ hp.1 hp.2
  rw [Bool.eq_false_iff] at this
  exact this ((covers_iff _ _ hl).2 (by omega))

theorem lens_set (L : List Cl) (y : Cl) : ∀ k, k < L.length → lens (L.set k y) = lens L - (L.getD k cl0).len + y.len := by
  induction L with
  | nil => intro k h; simp at h
  | cons c r ih =>
    intro k h
    cases k with
    | zero => simp [lens]; omega
    | succ k =>
      have := ih k (by simpa using h)
      simp only [lens, List.set_cons_succ, List.map_cons, List.sum_cons, List.getD_cons_succ] at this ⊢
      omega

theorem dead_len {s : ByteArray} {L : List Cl} (h : RightX s L) {k : Nat} (hk : k < L.length) (hl : (L.getD k cl0).live = false) : (L.getD k cl0).len = 0 := by
  have := h.adm k hk
  unfold admitB at this
  rw [hl] at this
  simp at this
  have e : (L.getD k cl0) = (L[k]?.getD cl0) := List.getD_eq_getElem?_getD
  rw [e]
  omega

theorem put_room {s : ByteArray} {L : List Cl} {x : ByteArray} (h : putOk s L x = true) : lens (putCells L (putPos s L x) x.size) = lens L + x.size := by
  have hX := put_x h
  have hrl := room_len L
  unfold putCells
  rw [lens_set _ _ _ hrl]
  have hle := free_le L
  by_cases hf : freeAt L = L.length
  · have hrc : roomC L = L ++ [cl0] := if_pos hf
    have hz : (roomC L).getD (freeAt L) cl0 = cl0 := by
      rw [hrc, hf, List.getD_eq_getElem?_getD, List.getElem?_append_right (Nat.le_refl _), Nat.sub_self]
      rfl
    rw [hz, hrc]
    simp [lens, cl0]
  · have hrc : roomC L = L := if_neg hf
    rw [hrc, dead_len hX.right (by omega) hX.dead]
    simp

theorem room_of {s : ByteArray} {L : List Cl} (h : RightX s L) : overB (fun x y => x + y) s L = s.size - lens L := by
  rw [room_one]
  unfold roomB
  rw [if_pos ((heap_iff s L).2 h)]

/-- What a put leaves, all at once. -/
structure PutLaw (s : ByteArray) (L : List Cl) (x : ByteArray) : Prop where
  got : getB (putD s L x) (putL s L x) (putRc s L x) (putRg s L x) = (x, true)
  right : heapB (putD s L x) (putL s L x) = true
  room : overB (fun x y => x + y) (putD s L x) (putL s L x) = overB (fun x y => x + y) s L - x.size
  was : (getB s L (putRc s L x) (putRg s L x)).2 = false
  rest : ∀ i : Nat, i < L.length → (getB s L i (L.getD i cl0).gen).2 = true → getB (putD s L x) (putL s L x) i (L.getD i cl0).gen = getB s L i (L.getD i cl0).gen

theorem put_law {s : ByteArray} {L : List Cl} {x : ByteArray} (h : putOk s L x = true) : PutLaw s L x := by
  have hX := put_x h
  have eD : putD s L x = putData s (putPos s L x) x := by unfold putD; rw [if_pos h]
  have eL : putL s L x = putCells L (putPos s L x) x.size := by unfold putL; rw [if_pos h]
  have eC : putRc s L x = (freeAt L : Nat) := by unfold putRc; rw [if_pos h]
  have eG : putRg s L x = ((roomC L).getD (freeAt L) cl0).gen + 1 := by unfold putRg; rw [if_pos h]
  refine ⟨?_, ?_, ?_, ?_, ?_⟩
  · rw [eD, eL, eC, eG]; exact hX.got
  · rw [eD, eL]; exact (heap_iff _ _).2 hX.right'
  · rw [eD, eL, room_of hX.right', room_of hX.right, size_put hX.room, put_room h]
    omega
  · rw [eC, hX.was]
  · intro i hi hg
    rw [eD, eL]
    by_cases hik : i = freeAt L
    · rw [hik, hX.was] at hg
      cases hg
    · exact (hX.else hi hik _).symm
end Go.Proofs.Ytjjpplpdpldkeaa
