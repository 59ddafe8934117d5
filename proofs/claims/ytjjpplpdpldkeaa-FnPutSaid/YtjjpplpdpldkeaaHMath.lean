/- Heaps: what the program looks at and what the specification does are one. -/
import Derived.Test.YtjjpplpdpldkeaaHN
namespace Go.Proofs.Ytjjpplpdpldkeaa

structure Cl where
  pos : Int
  len : Int
  gen : Int
  live : Bool

def cl0 : Cl := ⟨0, 0, 0, false⟩

def admitB (n : Nat) (c : Cl) : Bool :=
  decide (1 ≤ c.gen ∧ c.gen ≤ 1000000000) && (if c.live then decide (1 ≤ c.len ∧ 0 ≤ c.pos ∧ c.pos ≤ n - c.len) else decide (c.pos = 0 ∧ c.len = 0))

def specCellB (n : Nat) (c : Cl) : Bool :=
  decide (1 ≤ c.gen ∧ c.gen ≤ 1000000000) && decide (0 ≤ c.pos ∧ c.pos ≤ 3000) && decide (0 ≤ c.len ∧ c.len ≤ 3000) &&
    !(c.live && decide (c.len = 0 ∨ (n : Int) < c.pos + c.len)) && !(!c.live && decide (c.pos ≠ 0 ∨ c.len ≠ 0))

theorem cell_same (n : Nat) (hn : n ≤ 3000) (c : Cl) : admitB n c = specCellB n c := by
  unfold admitB specCellB
  rw [Bool.eq_iff_iff]
  cases hl : c.live <;> simp <;> omega

/-- Does the cell have that byte? -/
def covers (c : Cl) (i : Nat) : Bool := c.live && decide (c.pos ≤ i ∧ (i : Int) < c.pos + c.len)

def free (t : Nat → Bool) (c : Cl) : Bool := (List.range c.len.toNat).all fun k => !t (c.pos.toNat + k)

def takes (t : Nat → Bool) (c : Cl) : Nat → Bool := fun i => t i || covers c i

def openM (n : Nat) : List Cl → (Nat → Bool) → Option (Nat → Bool)
  | [], t => some t
  | c :: r, t => if admitB n c = true ∧ (c.live = true → free t c = true) then openM n r (takes t c) else none

def byteAt (s : ByteArray) (i : Nat) : UInt8 := s.data.toList.getD i 0

def cleanM (d : Nat → UInt8) (t : Nat → Bool) (n : Nat) : Bool := (List.range n).all fun i => t i || d i == 0

def implB (d : Nat → UInt8) (n : Nat) (L : List Cl) : Bool := match openM n L (fun _ => false) with | none => false | some t => cleanM d t n

def insC (c : Cl) : List Cl → List Cl
  | [] => [c]
  | x :: r => if x.pos < c.pos then x :: insC c r else c :: x :: r

def liveC : List Cl → List Cl → List Cl
  | S, [] => S
  | S, c :: r => if c.live then liveC (insC c S) r else liveC S r

def zerosB (d : Nat → UInt8) (e k : Nat) : Bool := (List.range (k - e)).all fun j => d (e + j) == 0

def sweepB (d : Nat → UInt8) (n : Nat) : List Cl → Nat → Bool
  | [], e => decide (e ≤ n) && zerosB d e n
  | c :: r, e => decide ((e : Int) ≤ c.pos) && zerosB d e c.pos.toNat && sweepB d n r (c.pos + c.len).toNat

def specB (d : Nat → UInt8) (n : Nat) (L : List Cl) : Bool := L.all (specCellB n) && sweepB d n (liveC [] L) 0

/-! ### One and the other -/

def Ok (n : Nat) (c : Cl) : Prop := c.live = true ∧ 1 ≤ c.len ∧ 0 ≤ c.pos ∧ c.pos + c.len ≤ n

def Disj (a b : Cl) : Prop := a.pos + a.len ≤ b.pos ∨ b.pos + b.len ≤ a.pos

theorem Disj.symm {a b : Cl} (h : Disj a b) : Disj b a := h.elim .inr .inl

theorem insC_perm (c : Cl) : ∀ S : List Cl, (insC c S).Perm (c :: S)
  | [] => .refl _
  | x :: r => by
    rw [insC]
    split
    · exact ((insC_perm c r).cons x).trans (.swap c x r)
    · exact .refl _

theorem liveC_perm : ∀ (L S : List Cl), (liveC S L).Perm (S ++ L.filter (·.live))
  | [], S => by rw [liveC]; simp
  | c :: r, S => by
    rw [liveC]
    split
    · rename_i h
      refine (liveC_perm r _).trans ?_
      rw [List.filter_cons_of_pos h]
      exact ((insC_perm c S).append_right _).trans (List.perm_middle.symm)
    · rename_i h
      refine (liveC_perm r _).trans ?_
      rw [List.filter_cons_of_neg h]

def Sorted (S : List Cl) : Prop := S.Pairwise fun a b => a.pos ≤ b.pos

theorem insC_sorted (c : Cl) : ∀ S : List Cl, Sorted S → Sorted (insC c S)
  | [], _ => by rw [insC]; exact List.pairwise_singleton _ _
  | x :: r, h => by
    unfold Sorted at h
    rw [List.pairwise_cons] at h
    rw [insC]
    split
    · rename_i hx
      refine List.pairwise_cons.2 ⟨fun y hy => ?_, insC_sorted c r h.2⟩
      rcases List.mem_cons.1 ((insC_perm c r).mem_iff.1 hy) with rfl | hy
      · omega
      · exact h.1 y hy
    · rename_i hx
      refine List.pairwise_cons.2 ⟨fun y hy => ?_, List.pairwise_cons.2 h⟩
      rcases List.mem_cons.1 hy with rfl | hy
      · omega
      · have := h.1 y hy; omega

theorem liveC_sorted : ∀ (L S : List Cl), Sorted S → Sorted (liveC S L)
  | [], S, h => by rw [liveC]; exact h
  | c :: r, S, h => by
    rw [liveC]
    split
    · exact liveC_sorted r _ (insC_sorted c S h)
    · exact liveC_sorted r S h

theorem zeros_iff (d : Nat → UInt8) (e k : Nat) : zerosB d e k = true ↔ ∀ i, e ≤ i → i < k → d i = 0 := by
  unfold zerosB
  rw [List.all_eq_true]
  constructor
  · intro h i h1 h2
    have := h (i - e) (by rw [List.mem_range]; omega)
    rw [show e + (i - e) = i from by omega] at this
    simpa using this
  · intro h j hj
    rw [List.mem_range] at hj
    simpa using h (e + j) (by omega) (by omega)

theorem covers_iff (c : Cl) (i : Nat) (h : c.live = true) : covers c i = true ↔ c.pos ≤ i ∧ (i : Int) < c.pos + c.len := by
  unfold covers
  rw [h]
  simp

theorem sweep_iff (d : Nat → UInt8) (n : Nat) : ∀ (S : List Cl) (e : Nat), (∀ c ∈ S, Ok n c) → Sorted S → e ≤ n →
    (sweepB d n S e = true ↔ (S.Pairwise Disj ∧ (∀ c ∈ S, (e : Int) ≤ c.pos) ∧ ∀ i, e ≤ i → i < n → (∀ c ∈ S, covers c i = false) → d i = 0))
  | [], e, _, _, he => by
    rw [sweepB, Bool.and_eq_true, zeros_iff]
    simp [he]
  | c :: r, e, hok, hs, he => by
    have hc := hok c (by simp)
    obtain ⟨hl, h1, h2, h3⟩ := hc
    rw [Sorted, List.pairwise_cons] at hs
    have ih := sweep_iff d n r (c.pos + c.len).toNat (fun x hx => hok x (by simp [hx])) hs.2 (by omega)
    rw [sweepB, Bool.and_eq_true, Bool.and_eq_true, zeros_iff, ih, decide_eq_true_iff, List.pairwise_cons]
    constructor
    · rintro ⟨⟨a1, a2⟩, a3, a4, a5⟩
      refine ⟨⟨fun x hx => .inl ?_, a3⟩, ?_, ?_⟩
      · have := a4 x hx; omega
      · intro x hx
        rcases List.mem_cons.1 hx with rfl | hx
        · exact a1
        · have := a4 x hx; omega
      · intro i hi1 hi2 hcov
        by_cases hb : i < c.pos.toNat
        · exact a2 i hi1 hb
        · by_cases hb2 : (c.pos + c.len).toNat ≤ i
          · exact a5 i hb2 hi2 (fun x hx => hcov x (by simp [hx]))
          · exfalso
            have := hcov c (by simp)
            rw [Bool.eq_false_iff] at this
            exact this ((covers_iff c i hl).2 (by omega))
    · rintro ⟨⟨b1, b2⟩, b3, b4⟩
      have hr : ∀ x ∈ r, (((c.pos + c.len).toNat : Nat) : Int) ≤ x.pos := fun x hx => by
        have hx1 := hok x (by simp [hx])
        have hx2 := hs.1 x hx
        obtain ⟨_, q1, q2, q3⟩ := hx1
        rcases b1 x hx with h | h <;> omega
      refine ⟨⟨b3 c (by simp), ?_⟩, b2, hr, ?_⟩
      · intro i hi1 hi2
        refine b4 i hi1 (by omega) (fun x hx => ?_)
        rw [Bool.eq_false_iff]
        rcases List.mem_cons.1 hx with rfl | hx
        · intro h; have := (covers_iff _ i hl).1 h; omega
        · intro h
          have := (covers_iff x i (hok x (by simp [hx])).1).1 h
          have := hr x hx
          omega
      · intro i hi1 hi2 hcov
        refine b4 i (by have := b3 c (by simp); omega) hi2 (fun x hx => ?_)
        rcases List.mem_cons.1 hx with rfl | hx
        · rw [Bool.eq_false_iff]
          intro h; have := (covers_iff _ i hl).1 h; omega
        · exact hcov x hx

theorem free_iff (t : Nat → Bool) (c : Cl) (h0 : 0 ≤ c.pos) (hl : c.live = true) : free t c = true ↔ ∀ i, covers c i = true → t i = false := by
  unfold free
  rw [List.all_eq_true]
  constructor
  · intro h i hi
    rw [covers_iff c i hl] at hi
    have := h (i - c.pos.toNat) (by rw [List.mem_range]; omega)
    rw [show c.pos.toNat + (i - c.pos.toNat) = i from by omega] at this
    simpa using this
  · intro h k hk
    rw [List.mem_range] at hk
    have := h (c.pos.toNat + k) ((covers_iff c _ hl).2 (by omega))
    simpa using this

theorem admit_ok {n : Nat} {c : Cl} (h : admitB n c = true) (hl : c.live = true) : Ok n c := by
  unfold admitB at h
  rw [hl] at h
  simp at h
  exact ⟨hl, by omega, by omega, by omega⟩

/-- What is taken at the end, and when there is one. -/
theorem open_iff (n : Nat) : ∀ (L : List Cl) (t t' : Nat → Bool),
    (openM n L t = some t' ↔ (L.all (admitB n) = true ∧ (L.filter (·.live)).Pairwise Disj ∧ (∀ c ∈ L.filter (·.live), ∀ i, covers c i = true → t i = false) ∧ t' = fun i => t i || (L.filter (·.live)).any fun c => covers c i))
  | [], t, t' => by
    rw [openM]
    simp
    exact ⟨fun h => h ▸ rfl, fun h => h ▸ rfl⟩
  | c :: r, t, t' => by
    rw [openM]
    by_cases ha : admitB n c = true ∧ (c.live = true → free t c = true)
    · rw [if_pos ha, open_iff n r (takes t c) t']
      cases hl : c.live with
      | false =>
        have e1 : takes t c = t := by funext i; simp [takes, covers, hl]
        rw [List.filter_cons_of_neg (by simp [hl]), e1, List.all_cons, ha.1, Bool.true_and]
      | true =>
        have hok := admit_ok ha.1 hl
        have hfr := (free_iff t c hok.2.2.1 hl).1 (ha.2 hl)
        rw [List.filter_cons_of_pos hl, List.all_cons, ha.1, Bool.true_and, List.pairwise_cons]
        constructor
        · rintro ⟨a1, a2, a3, a4⟩
          refine ⟨a1, ⟨fun x hx => ?_, a2⟩, ?_, ?_⟩
          · have hxl : x.live = true := (List.mem_filter.1 hx).2
            have hxo := admit_ok (List.all_eq_true.1 a1 x (List.mem_filter.1 hx).1) hxl
            obtain ⟨_, p1, p2, p3⟩ := hok
            obtain ⟨_, q1, q2, q3⟩ := hxo
            by_cases hd : Disj c x
            · exact hd
            · exfalso
              unfold Disj at hd
              have hi : covers x (max c.pos x.pos).toNat = true := (covers_iff x _ hxl).2 (by omega)
              have := a3 x hx _ hi
              unfold takes at this
              rw [Bool.or_eq_false_iff] at this
              have hc2 : covers c (max c.pos x.pos).toNat = true := (covers_iff c _ hl).2 (by omega)
              rw [hc2] at this
              cases this.2
          · intro x hx i hi
            rcases List.mem_cons.1 hx with rfl | hx
            · exact hfr i hi
            · have := a3 x hx i hi
              unfold takes at this
              rw [Bool.or_eq_false_iff] at this
              exact this.1
          · rw [a4]
            funext i
            simp [takes, Bool.or_assoc]
        · rintro ⟨a1, ⟨a2, a2'⟩, a3, a4⟩
          refine ⟨a1, a2', ?_, ?_⟩
          · intro x hx i hi
            have hxl : x.live = true := (List.mem_filter.1 hx).2
            unfold takes
            rw [Bool.or_eq_false_iff]
            refine ⟨a3 x (by simp [hx]) i hi, ?_⟩
            rw [Bool.eq_false_iff]
            intro hc2
            rw [covers_iff x i hxl] at hi
            rw [covers_iff c i hl] at hc2
            rcases a2 x hx with h | h <;> omega
          · rw [a4]
            funext i
            simp [takes, Bool.or_assoc]
    · rw [if_neg ha]
      constructor
      · intro h; cases h
      · rintro ⟨a1, a2, a3, a4⟩
        exfalso
        rw [List.all_cons, Bool.and_eq_true] at a1
        refine ha ⟨a1.1, fun hl => ?_⟩
        have hok := admit_ok a1.1 hl
        refine (free_iff t c hok.2.2.1 hl).2 (fun i hi => a3 c ?_ i hi)
        rw [List.filter_cons_of_pos hl]
        simp

theorem impl_spec (d : Nat → UInt8) (n : Nat) (hn : n ≤ 3000) (L : List Cl) : implB d n L = specB d n L := by
  have hall : L.all (specCellB n) = L.all (admitB n) := by
    congr 1
    funext c
    exact (cell_same n hn c).symm
  unfold specB
  rw [hall, Bool.eq_iff_iff, Bool.and_eq_true]
  have hP := liveC_perm L []
  rw [List.nil_append] at hP
  constructor
  · intro h
    unfold implB at h
    cases ho : openM n L (fun _ => false) with
    | none => rw [ho] at h; cases h
    | some t =>
      rw [ho] at h
      obtain ⟨a1, a2, _, a4⟩ := (open_iff n L _ t).1 ho
      refine ⟨a1, (sweep_iff d n _ 0 ?_ (liveC_sorted L [] List.Pairwise.nil) (by omega)).2 ⟨?_, ?_, ?_⟩⟩
      · intro c hc
        have hm := hP.mem_iff.1 hc
        exact admit_ok (List.all_eq_true.1 a1 c (List.mem_filter.1 hm).1) (List.mem_filter.1 hm).2
      · exact (hP.pairwise_iff (fun h => Disj.symm h)).2 a2
      · intro c hc
        have hm := hP.mem_iff.1 hc
        have := admit_ok (List.all_eq_true.1 a1 c (List.mem_filter.1 hm).1) (List.mem_filter.1 hm).2
        exact this.2.2.1
      · intro i _ hi hcov
        unfold cleanM at h
        have := List.all_eq_true.1 h i (List.mem_range.2 hi)
        rw [a4] at this
        have hno : ((L.filter (·.live)).any fun c => covers c i) = false := by
          rw [Bool.eq_false_iff]
          intro h'
          obtain ⟨c, hc, hci⟩ := List.any_eq_true.1 h'
          rw [hcov c (hP.mem_iff.2 hc)] at hci
          cases hci
        simp [hno] at this
        exact this
  · rintro ⟨a1, h⟩
    have hokS : ∀ c ∈ liveC [] L, Ok n c := fun c hc => by
      have hm := hP.mem_iff.1 hc
      exact admit_ok (List.all_eq_true.1 a1 c (List.mem_filter.1 hm).1) (List.mem_filter.1 hm).2
    obtain ⟨b1, b2, b3⟩ := (sweep_iff d n _ 0 hokS (liveC_sorted L [] List.Pairwise.nil) (by omega)).1 h
    have ho := (open_iff n L (fun _ => false) (fun i => false || (L.filter (·.live)).any fun c => covers c i)).2 ⟨a1, (hP.pairwise_iff (fun h => Disj.symm h)).1 b1, fun _ _ _ _ => rfl, rfl⟩
    unfold implB
    rw [ho]
    show cleanM d _ n = true
    unfold cleanM
    rw [List.all_eq_true]
    intro i hi
    rw [List.mem_range] at hi
    cases hc : (L.filter (·.live)).any fun c => covers c i with
    | true =>
      show ((false || (L.filter (·.live)).any fun c => covers c i) || (d i == 0)) = true
      rw [hc]
      rfl
    | false =>
      have := b3 i (by omega) hi (fun c hcS => by
        rw [Bool.eq_false_iff]
        intro h'
        have h2 : ((L.filter (·.live)).any fun c => covers c i) = true := List.any_eq_true.2 ⟨c, hP.mem_iff.1 hcS, h'⟩
        rw [hc] at h2
        cases h2)
      show ((false || (L.filter (·.live)).any fun c => covers c i) || (d i == 0)) = true
      rw [hc, this]
      rfl
end Go.Proofs.Ytjjpplpdpldkeaa
