/- FnExactReadRequest: the law's walk. -/
import Derived.Test.YtielombpeeelkaaDoorMark
namespace Go.Proofs.YtielombpeeelkaaDoor
open Go.RowKit Go.Sort

theorem someM_len {l t : List UInt8} {n : Nat} (h : someM l n = .inr t) : t.length ≤ l.length := by
  unfold someM at h
  split at h
  · cases h
  · split at h
    · injection h with h; subst h; rw [List.length_take]; omega
    · cases h

theorem bulksM_args : ∀ (n : Nat) (l : List UInt8) (ts : List (List UInt8)) (v : Nat), bulksM n l = .inr (ts, v) → ts.length = n ∧ ∀ t ∈ ts, t.length ≤ l.length
  | 0, l, ts, v, h => by
    rw [bulksM] at h
    injection h with h
    injection h with h1 h2
    subst h1
    exact ⟨rfl, fun t ht => by cases ht⟩
  | n + 1, l, ts, v, h => by
    rw [bulksM] at h
    split at h
    · cases h
    · split at h
      · cases h
      · rename_i hsm
        split at h
        · cases h
        · rename_i hb
          injection h with h
          injection h with h1 h2
          subst h1
          obtain ⟨ih1, ih2⟩ := bulksM_args n _ _ _ hb
          refine ⟨by simp [ih1], fun t ht => ?_⟩
          rcases List.mem_cons.1 ht with rfl | ht
          · have := someM_len hsm
            rw [List.length_drop] at this
            omega
          · have := ih2 t ht
            rw [List.length_drop] at this
            omega

theorem requestM_args {l : List UInt8} {ts : List (List UInt8)} {u : Nat} (h : requestM l = .inr (ts, u)) : ts.length ≤ 16 ∧ ∀ t ∈ ts, t.length ≤ l.length + 200 := by
  unfold requestM at h
  split at h
  · cases h
  · split at h
    · unfold bulksAllM at h
      split at h
      · cases h
      · rename_i hm
        split at h
        · cases h
        · rename_i hb
          injection h with h
          injection h with h1 h2
          subst h1
          obtain ⟨h1, h2⟩ := bulksM_args _ _ _ _ hb
          have := marked_count hm
          refine ⟨by omega, fun t ht => ?_⟩
          have := h2 t ht
          rw [List.length_drop] at this
          omega
    · unfold lineWords at h
      split at h
      · cases h
      · split at h
        · cases h
        · split at h
          · rename_i hok
            injection h with h
            injection h with h1 h2
            subst h1
            unfold okArgsL at hok
            rw [Bool.and_eq_true, decide_eq_true_iff, List.all_eq_true] at hok
            exact ⟨hok.1, fun t ht => by have := of_decide_eq_true (hok.2 t ht); omega⟩
          · cases h

/-- What is answered, by the reading. -/
def resOf : Int ⊕ (List (List UInt8) × Nat) → List ByteArray × Int × Int
  | .inl c => ([], 0, c)
  | .inr (ts, u) => (ts.map fun t => ⟨t.toArray⟩, u, 0)

theorem ReqEnd.own {w : World} {m : Int ⊕ (List (List UInt8) × Nat)} {e : Ending} {w' : World} (h : ReqEnd w m e w') :
    ∃ v, e = .returned (.tuple #[v, .int .i64 (resOf m).2.1, .int .i64 (resOf m).2.2]) ∧ w'.ownsRow w.heap.size 9 1 v (resOf m).1.length ((resOf m).1.map Value.string) ∧ Below w.heap.size w w' := by
  match m, h with
  | .inl c, ⟨he, hb⟩ => exact ⟨_, he, World.ownsRow_nil _ _ _ _, hb⟩
  | .inr (ts, u), ⟨v, he, ho, hb⟩ =>
    refine ⟨v, he, ?_, hb⟩
    show w'.ownsRow w.heap.size 9 1 v (ts.map fun t => (⟨t.toArray⟩ : ByteArray)).length ((ts.map fun t => (⟨t.toArray⟩ : ByteArray)).map Value.string)
    rw [List.length_map, List.map_map]
    exact ho

theorem resOf_small (l : List UInt8) (hl : l.length ≤ 2097152) : (resOf (requestM l)).1.length ≤ 16 ∧ ∀ x ∈ (resOf (requestM l)).1, x.size ≤ 9000000 := by
  cases hm : requestM l with
  | inl c => exact ⟨by simp [resOf], fun x hx => by simp [resOf] at hx⟩
  | inr q =>
    obtain ⟨ts, u⟩ := q
    obtain ⟨h1, h2⟩ := requestM_args hm
    refine ⟨by simpa [resOf] using h1, fun x hx => ?_⟩
    obtain ⟨t, ht, rfl⟩ := List.mem_map.1 hx
    have := h2 t ht
    show t.toArray.size ≤ _
    rw [List.size_toArray]
    omega

theorem strsIn_any {w : World} {B n : Nat} {v : Value} {ws : List ByteArray} (h : w.ownsRow B 9 1 v n (ws.map Value.string)) (hn : ws.length = n) (hf : ∀ x ∈ ws, x.size ≤ 9000000) :
    ∃ a b off c, v = .slice a n c ∧ StrsIn w a b off n ws := by
  rcases Joins.ownsRow_forms h with ⟨rfl, rfl⟩ | ⟨A, c, rfl⟩
  · exact ⟨none, 0, 0, 0, rfl, ⟨hn, fun h => by omega, fun h => by omega, fun i hi => by omega, fun i hi => by omega⟩⟩
  · refine ⟨some ⟨A, 0, none⟩, A, 0, c, rfl, ⟨hn, fun _ => rfl, fun _ => (h.lt A rfl).2, fun i hi => ?_, fun i hi => ?_⟩⟩
    · have := h.cells rfl i (.string (ws.getD i ByteArray.empty)) (by rw [List.getElem?_map, List.getD_eq_getElem?_getD, List.getElem?_eq_getElem (by omega)]; rfl)
      rwa [Addr.add_lit] at this
    · have hi2 : i < ws.length := by omega
      have := hf ws[i] (List.getElem_mem hi2)
      rw [List.getD_eq_getElem?_getD, List.getElem?_eq_getElem hi2]
      exact Nat.le_trans this (by omega)

theorem own_below {w w' : World} {B n : Nat} {v : Value} {xs : List Value} (h : w.ownsRow B 9 1 v n xs) (hb : Below w.heap.size w w') : w'.ownsRow B 9 1 v n xs :=
  h.kept (row := some w.heap.size) ⟨hb.os, hb.tape, hb.output, hb.size, fun k hk _ => hb.block k hk⟩ (.inr fun e => by have := (h.lt w.heap.size e).2; omega)

theorem own_drew {w : World} {B n q : Nat} {v : Value} {xs : List Value} (h : w.ownsRow B 9 1 v n xs) : (w.drewN q).ownsRow B 9 1 v n xs := h

theorem grown_own {w w' : World} {B : Nat} {v : Value} {n : Nat} {xs : List Value} (h : w.ownsRow B 9 1 v n xs) (hg : w.grownBy w' (Value.ownBlock v)) (hB : B ≤ w.heap.size) : Below B w w' :=
  ⟨hg.os, hg.tape, hg.output, hg.size, fun k hk => hg.block k (by omega) (fun e => by have := (h.lt k e.symm).1; omega)⟩

end Go.Proofs.YtielombpeeelkaaDoor
