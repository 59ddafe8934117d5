/- Plain mathematics of reading a reply: what is read, and that it is right. -/
import Derived.Test.YtcgeafdakaeicaaDoorRdMath
import Derived.Test.YtcgeafdakaeicaaDoorRpMath
namespace Go.Proofs.YtcgeafdakaeicaaDoor
open Go.Lib
open Rp (Nd nd0 plainB numB fieldsB)

abbrev Rep := Int ⊕ (List Nd × Nat)
abbrev KidsR := Int ⊕ (List Nd × List Int × Nat)
abbrev NodeR := Int ⊕ (List Nd × Nd × Nat)

def kidsM (f : List UInt8 → Nat → Rep) : Nat → List UInt8 → Nat → KidsR
  | 0, _, _ => .inr ([], [], 0)
  | n + 1, l, i => match f l i with
    | .inl c => .inl c
    | .inr (ns, u) => match kidsM f n (l.drop u) (i + ns.length) with
      | .inl c => .inl c
      | .inr (ms, ks, v) => .inr (ns ++ ms, (((i + ns.length : Nat) : Int) - 1) :: ks, u + v)

/-- A line's node: its mark b, what stands behind it r, what comes behind the line l. -/
def nodeM (f : List UInt8 → Nat → Rep) (b : UInt8) (r l : List UInt8) (i : Nat) : NodeR :=
  if b = 43 then (if plainB ⟨r.toArray⟩ then .inr ([], ⟨1, 0, ⟨r.toArray⟩, []⟩, 0) else .inl 2)
  else if b = 45 then (if plainB ⟨r.toArray⟩ then .inr ([], ⟨2, 0, ⟨r.toArray⟩, []⟩, 0) else .inl 2)
  else if b = 58 then (match decM r with
    | some v => .inr ([], ⟨3, v, ⟨#[]⟩, []⟩, 0)
    | none => .inl 2)
  else if b = 36 then (if r = [45, 49] then .inr ([], ⟨5, 0, ⟨#[]⟩, []⟩, 0) else match countM r 200 with
    | none => .inl 2
    | some n => match someM l n with
      | .inl c => .inl c
      | .inr t => .inr ([], ⟨4, 0, ⟨t.toArray⟩, []⟩, n + 2))
  else if b = 42 then (match countM r 1000 with
    | none => .inl 2
    | some n => match kidsM f n l i with
      | .inl c => .inl c
      | .inr (ms, ks, v) => .inr (ms, ⟨6, 0, ⟨#[]⟩, ks⟩, v))
  else .inl 2

def replyM : Nat → List UInt8 → Nat → Rep
  | d, l, i => match lineM l with
    | .inl c => .inl c
    | .inr [] => .inl 2
    | .inr (b :: r) => match d with
      | 0 => .inl 2
      | d + 1 => match nodeM (replyM d) b r (l.drop (r.length + 3)) i with
        | .inl c => .inl c
        | .inr (ms, x, v) => if i + ms.length = 1000 then .inl 2 else .inr (ms ++ [x], r.length + 3 + v)

theorem replyM_eq (d : Nat) (l : List UInt8) (i : Nat) : replyM d l i = match lineM l with
    | .inl c => .inl c
    | .inr [] => .inl 2
    | .inr (b :: r) => match d with
      | 0 => .inl 2
      | d + 1 => match nodeM (replyM d) b r (l.drop (r.length + 3)) i with
        | .inl c => .inl c
        | .inr (ms, x, v) => if i + ms.length = 1000 then .inl 2 else .inr (ms ++ [x], r.length + 3 + v) := by
  rw [replyM.eq_def]

theorem reply_inl {d i : Nat} {l : List UInt8} {c : Int} (h : lineM l = .inl c) : replyM d l i = .inl c := by rw [replyM_eq, h]
theorem reply_nil {d i : Nat} {l : List UInt8} (h : lineM l = .inr []) : replyM d l i = .inl 2 := by rw [replyM_eq, h]
theorem reply_deep {i : Nat} {l r : List UInt8} {b : UInt8} (h : lineM l = .inr (b :: r)) : replyM 0 l i = .inl 2 := by rw [replyM_eq, h]
def endM (i k : Nat) : NodeR → Rep
  | .inl c => .inl c
  | .inr (ms, x, v) => if i + ms.length = 1000 then .inl 2 else .inr (ms ++ [x], k + v)
theorem reply_node {d i : Nat} {l r : List UInt8} {b : UInt8} (h : lineM l = .inr (b :: r)) : replyM (d + 1) l i = endM i (r.length + 3) (nodeM (replyM d) b r (l.drop (r.length + 3)) i) := by
  rw [replyM_eq, h]
  cases hn : nodeM (replyM d) b r (l.drop (r.length + 3)) i with
  | inl c => simp only [hn, endM]
  | inr q => obtain ⟨ms, x, v⟩ := q; simp only [hn, endM]

/-- Reading so many kids in the program's order: those read so far ahead. -/
def preK (ns : List Nd) (ks : List Int) (u : Nat) : KidsR → KidsR
  | .inl c => .inl c
  | .inr (ms, js, v) => .inr (ns ++ ms, ks ++ js, u + v)

theorem kidsM_inl {f : List UInt8 → Nat → Rep} {n i : Nat} {l : List UInt8} {c : Int} (h : f l i = .inl c) : kidsM f (n + 1) l i = .inl c := by
  simp only [kidsM, h]
theorem kidsM_inr {f : List UInt8 → Nat → Rep} {n i u : Nat} {l : List UInt8} {ns : List Nd} (h : f l i = .inr (ns, u)) :
    kidsM f (n + 1) l i = preK ns [((i + ns.length : Nat) : Int) - 1] u (kidsM f n (l.drop u) (i + ns.length)) := by
  simp only [kidsM, h]
  cases kidsM f n (l.drop u) (i + ns.length) with
  | inl c => rfl
  | inr q => obtain ⟨ms, ks, v⟩ := q; rfl
theorem preK_preK (ns ms : List Nd) (ks js : List Int) (u v : Nat) (r : KidsR) : preK ns ks u (preK ms js v r) = preK (ns ++ ms) (ks ++ js) (u + v) r := by
  cases r with
  | inl c => rfl
  | inr q => obtain ⟨a, b, c⟩ := q; simp only [preK, List.append_assoc, Nat.add_assoc]
theorem preK_nil (r : KidsR) : preK [] [] 0 r = r := by
  cases r with
  | inl c => rfl
  | inr q => obtain ⟨a, b, c⟩ := q; simp [preK]

/-! ### What is read is right -/

theorem dec_num {l : List UInt8} {v : Int} (h : decM l = some v) : numB v = true := by
  unfold decM at h
  split at h
  · split at h
    · rename_i hin
      injection h with h
      subst h
      simp_all [inNum, numB, Rp.inB]
    · cases h
  · cases h

theorem count_le {l : List UInt8} {most : Int} {n : Nat} (h : countM l most = some n) : (n : Int) ≤ most := by
  unfold countM at h
  obtain ⟨v, _, hk⟩ := Option.bind_eq_some_iff.1 h
  split at hk
  · injection hk with hk; omega
  · cases hk

/-- One more tree over the ones that are there. -/
def RunOne (d i : Nat) (ns : List Nd) : Prop := 1 ≤ ns.length ∧ ∀ (ts : List (Int × Int)) (rest : List Nd), ∃ t : Int, t ≤ d ∧ 1 ≤ t ∧ Rp.runB (ns ++ rest) i ts = Rp.runB rest (i + ns.length) (ts ++ [(((i + ns.length : Nat) : Int) - 1, t)])
def RunMany (d i : Nat) (ns : List Nd) (ks : List Int) : Prop := ∀ (ts : List (Int × Int)) (rest : List Nd), ∃ tt : List (Int × Int), tt.map Prod.fst = ks ∧ (∀ t ∈ tt, t.2 ≤ d) ∧ Rp.runB (ns ++ rest) i ts = Rp.runB rest (i + ns.length) (ts ++ tt)

theorem run_many {f : List UInt8 → Nat → Rep} {d : Nat} (hf : ∀ l i ns u, f l i = .inr (ns, u) → RunOne d i ns) : ∀ (n : Nat) (l : List UInt8) (i : Nat) (ms : List Nd) (ks : List Int) (v : Nat), kidsM f n l i = .inr (ms, ks, v) → RunMany d i ms ks ∧ ks.length = n
  | 0, l, i, ms, ks, v, h => by
    simp only [kidsM] at h
    injection h with h
    injection h with h1 h2
    injection h2 with h2 h3
    subst h1 h2
    exact ⟨fun ts rest => ⟨[], rfl, by simp, by simp⟩, rfl⟩
  | n + 1, l, i, ms, ks, v, h => by
    cases hq : f l i with
    | inl c => rw [kidsM_inl hq] at h; cases h
    | inr q =>
      obtain ⟨ns, u⟩ := q
      rw [kidsM_inr hq] at h
      cases hk : kidsM f n (l.drop u) (i + ns.length) with
      | inl c => rw [hk] at h; cases h
      | inr q =>
        obtain ⟨ms', ks', v'⟩ := q
        rw [hk] at h
        simp only [preK] at h
        injection h with h
        injection h with h1 h2
        injection h2 with h2 h3
        subst h1 h2
        obtain ⟨hm, hl⟩ := run_many hf n _ _ _ _ _ hk
        refine ⟨fun ts rest => ?_, by simp [hl]⟩
        obtain ⟨t, t1, t2, t3⟩ := (hf _ _ _ _ hq).2 ts (ms' ++ rest)
        obtain ⟨tt, a1, a2, a3⟩ := hm (ts ++ [(((i + ns.length : Nat) : Int) - 1, t)]) rest
        refine ⟨(((i + ns.length : Nat) : Int) - 1, t) :: tt, by simp [a1], ?_, ?_⟩
        · intro x hx
          rcases List.mem_cons.1 hx with rfl | hx
          · exact t1
          · exact a2 x hx
        · rw [List.append_assoc, t3, a3, List.length_append, Nat.add_assoc]
          simp

theorem max_bound (tt : List (Int × Int)) (d : Nat) (h : ∀ t ∈ tt, t.2 ≤ d) : 0 ≤ tt.foldl (fun d t => max d t.2) (0 : Int) ∧ tt.foldl (fun d t => max d t.2) (0 : Int) ≤ d :=
  ⟨Rp.fold_max_le _ tt 0, Rp.fold_max_bound _ d tt h 0 (by omega)⟩

theorem step_one (i d : Nat) (hd : d ≤ 3) (x : Nd) (ts tt : List (Int × Int)) (hx : fieldsB x = true) (h1 : tt.map Prod.fst = x.kids) (h2 : ∀ t ∈ tt, t.2 ≤ d) :
    ∃ t : Int, t ≤ d + 1 ∧ 1 ≤ t ∧ Rp.stepB i x (ts ++ tt) = some (ts ++ [((i : Int), t)]) := by
  have hl : tt.length = x.kids.length := by rw [← h1]; simp
  obtain ⟨m1, m2⟩ := max_bound tt d h2
  refine ⟨1 + tt.foldl (fun d t => max d t.2) (0 : Int), by omega, by omega, ?_⟩
  unfold Rp.stepB
  have e0 : (ts ++ tt).length - x.kids.length = ts.length := by simp; omega
  rw [e0, List.drop_left, List.take_left]
  rw [if_neg (by simp [hx]), if_neg (by simp; omega), if_neg (by simp [h1]), if_neg (by omega)]

theorem reply_run : ∀ (d : Nat), d ≤ 4 → ∀ (l : List UInt8) (i : Nat) (ns : List Nd) (u : Nat), replyM d l i = .inr (ns, u) → RunOne d i ns ∧ i + ns.length ≤ i + ns.length
  | 0, _, l, i, ns, u, h => by
    rw [replyM_eq] at h
    split at h <;> cases h
  | d + 1, hd, l, i, ns, u, h => by
    refine ⟨?_, Nat.le_refl _⟩
    rw [replyM_eq] at h
    split at h
    · cases h
    · cases h
    · rename_i b r hline
      simp only at h
      split at h
      · cases h
      · rename_i ms x v hnode
        split at h
        · cases h
        · injection h with h
          injection h with h1 h2
          subst h1
          have key : fieldsB x = true ∧ RunMany d i ms x.kids := by
            have leaf : x.kids = [] → ms = [] → RunMany d i ms x.kids := fun e1 e2 => by
              rw [e1, e2]
              exact fun ts rest => ⟨[], rfl, by simp, by simp⟩
            unfold nodeM at hnode
            split at hnode
            · split at hnode
              · rename_i hp
                injection hnode with hnode; injection hnode with q1 q2; injection q2 with q2 q3
                subst q1 q2
                exact ⟨by simp [fieldsB, hp], leaf rfl rfl⟩
              · cases hnode
            split at hnode
            · split at hnode
              · rename_i hp
                injection hnode with hnode; injection hnode with q1 q2; injection q2 with q2 q3
                subst q1 q2
                exact ⟨by simp [fieldsB, hp], leaf rfl rfl⟩
              · cases hnode
            split at hnode
            · split at hnode
              · rename_i w hp
                injection hnode with hnode; injection hnode with q1 q2; injection q2 with q2 q3
                subst q1 q2
                exact ⟨by simp [fieldsB, dec_num hp]; rfl, leaf rfl rfl⟩
              · cases hnode
            split at hnode
            · split at hnode
              · injection hnode with hnode; injection hnode with q1 q2; injection q2 with q2 q3
                subst q1 q2
                exact ⟨by simp [fieldsB]; rfl, leaf rfl rfl⟩
              · split at hnode
                · cases hnode
                · rename_i n hc
                  split at hnode
                  · cases hnode
                  · rename_i t ht
                    injection hnode with hnode; injection hnode with q1 q2; injection q2 with q2 q3
                    subst q1 q2
                    have h200 := count_le hc
                    have hlen : t.length ≤ 200 := by
                      unfold someM at ht
                      split at ht
                      · cases ht
                      · split at ht
                        · injection ht with ht
                          subst ht
                          rw [List.length_take]; omega
                        · cases ht
                    exact ⟨by simp [fieldsB, ByteArray.size, hlen], leaf rfl rfl⟩
            split at hnode
            · split at hnode
              · cases hnode
              · rename_i n hc
                split at hnode
                · cases hnode
                · rename_i ms' ks v' hk
                  injection hnode with hnode; injection hnode with q1 q2; injection q2 with q2 q3
                  subst q1 q2
                  exact ⟨by simp [fieldsB]; rfl, (run_many (fun l i ns u h => (reply_run d (by omega) l i ns u h).1) n _ _ _ _ _ hk).1⟩
            · cases hnode
          refine ⟨by simp, fun ts rest => ?_⟩
          obtain ⟨tt, a1, a2, a3⟩ := key.2 ts ([x] ++ rest)
          obtain ⟨t, t1, t2, t3⟩ := step_one (i + ms.length) d (by omega) x ts tt key.1 a1 a2
          refine ⟨t, by omega, t2, ?_⟩
          rw [List.append_assoc, a3]
          simp only [List.singleton_append, Rp.runB, t3, List.length_append, List.length_singleton]
          rw [show ((i + (ms.length + 1) : Nat) : Int) - 1 = ((i + ms.length : Nat) : Int) from by omega, Nat.add_assoc]

theorem kids_top {f : List UInt8 → Nat → Rep} (hf : ∀ l i ns u, i ≤ 1000 → f l i = .inr (ns, u) → i + ns.length ≤ 1000) : ∀ (n : Nat) (l : List UInt8) (i : Nat) (ms : List Nd) (ks : List Int) (v : Nat), i ≤ 1000 → kidsM f n l i = .inr (ms, ks, v) → i + ms.length ≤ 1000
  | 0, l, i, ms, ks, v, hi, h => by
    simp only [kidsM] at h
    injection h with h
    injection h with h1 h2
    subst h1
    simpa using hi
  | n + 1, l, i, ms, ks, v, hi, h => by
    cases hq : f l i with
    | inl c => rw [kidsM_inl hq] at h; cases h
    | inr q =>
      obtain ⟨ns, u⟩ := q
      rw [kidsM_inr hq] at h
      cases hk : kidsM f n (l.drop u) (i + ns.length) with
      | inl c => rw [hk] at h; cases h
      | inr q =>
        obtain ⟨ms', ks', v'⟩ := q
        rw [hk] at h
        simp only [preK] at h
        injection h with h
        injection h with h1 h2
        subst h1
        have := kids_top hf n _ _ _ _ _ (hf _ _ _ _ hi hq) hk
        rw [List.length_append]; omega

theorem node_top {f : List UInt8 → Nat → Rep} (hf : ∀ l i ns u, i ≤ 1000 → f l i = .inr (ns, u) → i + ns.length ≤ 1000) {b : UInt8} {r l : List UInt8} {i : Nat} {ms : List Nd} {x : Nd} {v : Nat} (hi : i ≤ 1000) (h : nodeM f b r l i = .inr (ms, x, v)) : i + ms.length ≤ 1000 := by
  unfold nodeM at h
  repeat' (split at h)
  all_goals first
    | (cases h; done)
    | skip
  all_goals first
    | (cases h; simpa using hi)
    | (cases h; rename_i hk; exact kids_top hf _ _ _ _ _ _ hi hk)

theorem reply_top : ∀ (d : Nat) (l : List UInt8) (i : Nat) (ns : List Nd) (u : Nat), i ≤ 1000 → replyM d l i = .inr (ns, u) → i + ns.length ≤ 1000
  | 0, l, i, ns, u, _, h => by
    rw [replyM_eq] at h
    split at h <;> cases h
  | d + 1, l, i, ns, u, hi, h => by
    rw [replyM_eq] at h
    split at h
    · cases h
    · cases h
    · simp only at h
      split at h
      · cases h
      · rename_i ms x v hnode
        split at h
        · cases h
        · injection h with h
          injection h with h1 h2
          subst h1
          have := node_top (fun l i ns u hi h => reply_top d l i ns u hi h) hi hnode
          rw [List.length_append, List.length_singleton]
          omega

/-- A reply that was read is right. -/
theorem reply_right (l : List UInt8) (ns : List Nd) (u : Nat) (h : replyM 4 l 0 = .inr (ns, u)) : Rp.specB ns = true ∧ 1 ≤ ns.length ∧ ns.length ≤ 1000 := by
  have ht := reply_top 4 l 0 ns u (by omega) h
  obtain ⟨h1, h2⟩ := (reply_run 4 (by omega) l 0 ns u h).1
  obtain ⟨t, t1, t2, t3⟩ := h2 [] []
  refine ⟨?_, h1, by omega⟩
  rw [← Rp.same_look]
  unfold Rp.implB
  rw [List.append_nil] at t3
  rw [t3]
  simp [Rp.runB]
  omega
end Go.Proofs.YtcgeafdakaeicaaDoor
