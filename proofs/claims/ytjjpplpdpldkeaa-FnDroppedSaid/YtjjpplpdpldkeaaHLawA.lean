/- A right heap, told by the places of its cells; what dropping leaves. Of no program: for the drawn laws of the arena. -/
import Derived.Test.YtjjpplpdpldkeaaHDropM
namespace Go.Proofs.Ytjjpplpdpldkeaa
open Go.RowKit Go.Sort

/-- What is right of a heap, by the places of its cells. -/
structure RightX (s : ByteArray) (L : List Cl) : Prop where
  small : s.size ≤ 3000
  few : L.length ≤ 40
  adm : ∀ i, i < L.length → admitB s.size (L.getD i cl0) = true
  apart : ∀ i j, i < L.length → j < L.length → i ≠ j → (L.getD i cl0).live = true → (L.getD j cl0).live = true → Disj (L.getD i cl0) (L.getD j cl0)
  clean : ∀ p, p < s.size → (∀ i, i < L.length → covers (L.getD i cl0) p = false) → byteAt s p = 0

theorem getD_get {L : List Cl} {i : Nat} (h : i < L.length) : L.getD i cl0 = L[i] := by
  rw [List.getD_eq_getElem?_getD, List.getElem?_eq_getElem h]
  rfl

theorem any_cover (L : List Cl) (p : Nat) : ((L.filter (·.live)).any fun c => covers c p) = false ↔ ∀ i, i < L.length → covers (L.getD i cl0) p = false := by
  constructor
  · intro h i hi
    rw [getD_get hi]
    rw [Bool.eq_false_iff]
    intro hc
    have hl : L[i].live = true := by
      unfold covers at hc
      rw [Bool.and_eq_true] at hc
      exact hc.1
    have : ((L.filter (·.live)).any fun c => covers c p) = true := List.any_eq_true.2 ⟨L[i], List.mem_filter.2 ⟨List.getElem_mem hi, hl⟩, hc⟩
    rw [h] at this
    cases this
  · intro h
    rw [Bool.eq_false_iff]
    intro ht
    obtain ⟨c, hc, hcp⟩ := List.any_eq_true.1 ht
    obtain ⟨i, hi, rfl⟩ := List.getElem_of_mem (List.mem_filter.1 hc).1
    have := h i hi
    rw [getD_get hi, hcp] at this
    cases this

theorem heap_iff (s : ByteArray) (L : List Cl) : heapB s L = true ↔ RightX s L := by
  unfold heapB
  rw [Bool.and_eq_true, decide_eq_true_iff]
  constructor
  · rintro ⟨⟨h1, h2⟩, h3⟩
    unfold implB at h3
    cases ho : openM s.size L (fun _ => false) with
    | none => rw [ho] at h3; cases h3
    | some t =>
      rw [ho] at h3
      obtain ⟨a1, a2, _, a4⟩ := (open_iff s.size L _ t).1 ho
      refine ⟨h1, h2, fun i hi => ?_, ?_, fun p hp hc => ?_⟩
      · rw [getD_get hi]
        exact List.all_eq_true.1 a1 _ (List.getElem_mem hi)
      · rw [List.pairwise_filter, List.pairwise_iff_getElem] at a2
        intro i j hi hj hij li lj
        rw [getD_get hi] at li ⊢
        rw [getD_get hj] at lj ⊢
        rcases Nat.lt_or_gt_of_ne hij with h | h
        · exact a2 i j hi hj h li lj
        · exact (a2 j i hj hi h lj li).symm
      · have h3' : cleanM (byteAt s) t s.size = true := h3
        unfold cleanM at h3'
        have := List.all_eq_true.1 h3' p (List.mem_range.2 hp)
        rw [a4] at this
        have hn := (any_cover L p).2 hc
        simp only [hn, Bool.or_false, Bool.false_or] at this
        simpa using this
  · intro h
    refine ⟨⟨h.small, h.few⟩, ?_⟩
    have ho := (open_iff s.size L (fun _ => false) (fun i => false || (L.filter (·.live)).any fun c => covers c i)).2 ⟨?_, ?_, fun _ _ _ _ => rfl, rfl⟩
    · unfold implB
      rw [ho]
      show cleanM (byteAt s) _ s.size = true
      unfold cleanM
      rw [List.all_eq_true]
      intro p hp
      rw [List.mem_range] at hp
      cases hc : (L.filter (·.live)).any fun c => covers c p with
      | true => simp [hc]
      | false =>
        have := h.clean p hp ((any_cover L p).1 hc)
        simp [this]
    · rw [List.all_eq_true]
      intro c hc
      obtain ⟨i, hi, rfl⟩ := List.getElem_of_mem hc
      have := h.adm i hi
      rwa [getD_get hi] at this
    · rw [List.pairwise_filter, List.pairwise_iff_getElem]
      intro i j hi hj hij li lj
      have := h.apart i j hi hj (by omega) (by rw [getD_get hi]; exact li) (by rw [getD_get hj]; exact lj)
      rwa [getD_get hi, getD_get hj] at this

theorem RightX.ok {s : ByteArray} {L : List Cl} (h : RightX s L) {i : Nat} (hi : i < L.length) (hl : (L.getD i cl0).live = true) : Ok s.size (L.getD i cl0) := admit_ok (h.adm i hi) hl

theorem getD_set {L : List Cl} {k : Nat} (x : Cl) (hk : k < L.length) (i : Nat) : (L.set k x).getD i cl0 = if i = k then x else L.getD i cl0 := by
  by_cases h : i = k
  · rw [if_pos h, h, List.getD_eq_getElem?_getD, List.getElem?_set_self hk]
    rfl
  · rw [if_neg h, List.getD_eq_getElem?_getD, List.getD_eq_getElem?_getD, List.getElem?_set_ne (fun e => h e.symm)]

theorem byte_zero (n i : Nat) : byteAt (dataZ n) i = 0 := by
  unfold byteAt dataZ
  rw [List.getD_eq_getElem?_getD]
  show (((List.range n).map fun _ => (0 : UInt8))[i]?).getD 0 = 0
  rw [List.getElem?_map]
  cases (List.range n)[i]? <;> rfl

/-- The bytes behind a put (or, with bytes 0, a drop). -/
theorem byte_put {s x : ByteArray} {p : Nat} (h : p + x.size ≤ s.size) (i : Nat) (hi : i < s.size) : byteAt (putData s p x) i = if p ≤ i ∧ i < p + x.size then byteAt x (i - p) else byteAt s i := by
  rw [← put_data s p x h]
  unfold dataOf
  conv => lhs; unfold byteAt
  rw [List.getD_eq_getElem?_getD]
  show (((List.range s.size).map (dPut s p x))[i]?).getD 0 = _
  rw [List.getElem?_map, List.getElem?_range hi]
  rfl

theorem size_put {s x : ByteArray} {p : Nat} (h : p + x.size ≤ s.size) : (putData s p x).size = s.size := by
  unfold putData
  rw [ByteArray.size_append, ByteArray.size_append, ByteArray.size_extract, ByteArray.size_extract]
  omega

/-- A cell that is dropped, of a right heap. -/
structure DropX (s : ByteArray) (L : List Cl) (k P W : Nat) : Prop where
  right : RightX s L
  lt : k < L.length
  live : (L.getD k cl0).live = true
  pos : (L.getD k cl0).pos = P
  len : (L.getD k cl0).len = W
  some : 1 ≤ W
  room : P + W ≤ s.size

theorem drop_at {s : ByteArray} {L : List Cl} {k : Nat} (h : RightX s L) (hk : k < L.length) (hl : (L.getD k cl0).live = true) : ∃ P W, DropX s L k P W := by
  obtain ⟨_, h1, h2, h3⟩ := h.ok hk hl
  exact ⟨(L.getD k cl0).pos.toNat, (L.getD k cl0).len.toNat, h, hk, hl, by omega, by omega, by omega, by omega⟩

/-- What is left is right. -/
theorem DropX.right' {s : ByteArray} {L : List Cl} {k P W : Nat} (h : DropX s L k P W) : RightX (putData s P (dataZ W)) (L.set k ⟨0, 0, (L.getD k cl0).gen, false⟩) := by
  have hz : (dataZ W).size = W := dataZ_size W
  have hp : P + (dataZ W).size ≤ s.size := by rw [hz]; exact h.room
  have hsz := size_put hp
  have hl : (L.set k ⟨0, 0, (L.getD k cl0).gen, false⟩).length = L.length := List.length_set
  have hg := h.right.adm k h.lt
  refine ⟨by rw [hsz]; exact h.right.small, by rw [hl]; exact h.right.few, fun i hi => ?_, fun i j hi hj hij li lj => ?_, fun p hpp hc => ?_⟩
  · rw [hl] at hi
    rw [hsz, getD_set _ h.lt]
    split
    · unfold admitB at hg ⊢
      rw [Bool.and_eq_true] at hg ⊢
      exact ⟨hg.1, by simp⟩
    · exact h.right.adm i hi
  · rw [hl] at hi hj
    rw [getD_set _ h.lt] at li lj ⊢
    rw [getD_set _ h.lt]
    split at li
    · cases li
    · split at lj
      · cases lj
      · rename_i hik hjk
        rw [if_neg hik, if_neg hjk]
        exact h.right.apart i j hi hj hij li lj
  · rw [hsz] at hpp
    rw [byte_put hp p hpp, hz]
    split
    · exact byte_zero _ _
    · rename_i hno
      refine h.right.clean p hpp (fun i hi => ?_)
      by_cases hik : i = k
      · subst hik
        rw [Bool.eq_false_iff]
        intro hc2
        have := (covers_iff _ p h.live).1 hc2
        rw [h.pos, h.len] at this
        omega
      · have := hc i (by rw [hl]; exact hi)
        rwa [getD_set _ h.lt, if_neg hik] at this
end Go.Proofs.Ytjjpplpdpldkeaa
