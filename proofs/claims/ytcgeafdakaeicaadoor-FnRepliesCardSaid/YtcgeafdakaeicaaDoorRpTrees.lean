/- areKids and deepest over the trees not yet claimed. -/
import Derived.Test.YtcgeafdakaeicaaDoorRpImpl
namespace Go.Proofs.YtcgeafdakaeicaaDoor.Rp
open Go.RowKit Go.Sort

structure TreesIn (w : World) (a : Option Addr) (b off n : Nat) (ts : List (Int × Int)) : Prop where
  len : ts.length = n
  addr : 0 < n → a = some ⟨b, off, none⟩
  low : 0 < n → b < w.heap.size
  c0 : ∀ i, i < n → w.cell? ⟨b, off + i * 2, none⟩ = some (.int .i64 (ts.getD i (0, 0)).1)
  c1 : ∀ i, i < n → w.cell? ⟨b, off + i * 2 + 1, none⟩ = some (.int .i64 (ts.getD i (0, 0)).2)

theorem trees_below {w w' : World} {a : Option Addr} {b off n : Nat} {ts : List (Int × Int)} (h : TreesIn w a b off n ts) (hb : Below w.heap.size w w') : TreesIn w' a b off n ts :=
  ⟨h.len, h.addr, fun h0 => by have := h.low h0; have := hb.size; omega, fun i hi => (hb.cell (p := ⟨b, off + i * 2, none⟩) (h.low (by omega))).trans (h.c0 i hi), fun i hi => (hb.cell (p := ⟨b, off + i * 2 + 1, none⟩) (h.low (by omega))).trans (h.c1 i hi)⟩

theorem kids_snoc (ts : List (Int × Int)) (ks : List Int) (k : Nat) (h1 : k < ts.length) (h2 : k < ks.length) : ((ts.take (k + 1)).map Prod.fst = ks.take (k + 1)) ↔ ((ts.take k).map Prod.fst = ks.take k ∧ (ts.getD k (0, 0)).1 = ks.getD k 0) := by
  rw [List.take_succ_eq_append_getElem h1, List.take_succ_eq_append_getElem h2, List.map_append, List.getD_eq_getElem?_getD, List.getElem?_eq_getElem h1, List.getD_eq_getElem?_getD, List.getElem?_eq_getElem h2]
  constructor
  · intro h
    have hl : ((ts.take k).map Prod.fst).length = (ks.take k).length := by simp; omega
    have := List.append_inj h hl
    simpa using this
  · intro ⟨a, b⟩
    rw [a]
    show ks.take k ++ [ts[k].1] = ks.take k ++ [ks[k]]
    rw [show ts[k].1 = ks[k] from by simpa using b]

theorem kids_prefix (ts : List (Int × Int)) (ks : List Int) (k : Nat) (h : ¬ (ts.take k).map Prod.fst = ks.take k) : ¬ ts.map Prod.fst = ks := by
  intro e
  apply h
  rw [← e, List.map_take]

set_option maxHeartbeats 1000000 in
theorem areKids_any (a : Option Addr) (b off n c : Nat) (ts : List (Int × Int)) (a' : Option Addr) (b' off' c' : Nat) (ks : List Int) (w : World) (h : TreesIn w a b off n ts) (h' : IntsIn w a' b' off' n ks) (hn : n ≤ 1048576) :
    Calls Tryd.prog 27 #[.slice a n c, .slice a' n c'] w fun e w' => e = .returned (.bool (decide (ts.map Prod.fst = ks))) ∧ Below w.heap.size w w' := by
  go_enter Tryd.func27, Tryd.ntmps27
  go_wp2
  go_loopw [5, 6, 9] (fun _ _ i wr => ∃ k : Nat, k ≤ n ∧ i = .int .i64 k ∧ (ts.take k).map Prod.fst = ks.take k ∧ Below w.heap.size w wr) (fun _ _ i _ => n - (intOf i).toNat)
  case atStart => exact ⟨0, by omega, rfl, by simp, Below.refl _ _⟩
  case round =>
    obtain ⟨k, hk, rfl, heq, bk⟩ := hrel
    have HE : Hid (_ = _) := heq
    clear heq
    by_cases hlt : k < n
    · obtain rfl := h.addr (by omega)
      obtain rfl := h'.addr (by omega)
      have c0 := (trees_below h bk).c0 k hlt
      have c1 := (trees_below h bk).c1 k hlt
      have hc' := (ints_below h' bk).cell k hlt
      have hlow' := (ints_below h' bk).low (by omega)
      have HS : Hid (_ ↔ _) := kids_snoc ts ks k (by rw [h.len]; exact hlt) (by rw [h'.len]; exact hlt)
      generalize ts.getD k (0, 0) = t at *
      generalize ks.getD k 0 = y at *
      by_cases hy : t.1 = y
      · have hb : (t.1 != y) = false := by simp [hy]
        have HY : Hid (t.1 = y) := hy
        clear hy
        go_wp2
        go_quiet ((fail))
        go_wp2
        go_roundw
        case rel => exact ⟨k + 1, by omega, by go_num, HS.out.2 ⟨HE.out, HY.out⟩, below_drewN (bk.alloc bk.size _) nq⟩
        case measure => simp [intOf] <;> omega
      · have hb : (t.1 != y) = true := by simp [hy]
        have HY : Hid (¬ t.1 = y) := hy
        clear hy
        go_wp2
        go_quiet ((fail))
        go_wp2
        go_ret
        exact ⟨ret_bool (decide_eq_false (kids_prefix ts ks (k + 1) (fun hh => HY.out (HS.out.1 hh).2))).symm, below_drewN (bk.alloc bk.size _) nq⟩
    · obtain rfl : k = n := by omega
      have e1 := HE.out
      rw [List.take_of_length_le (by rw [h.len]; exact Nat.le_refl _), List.take_of_length_le (by rw [h'.len]; exact Nat.le_refl _)] at e1
      have H1 : Hid (_ = _) := e1
      clear e1
      go_wp2
      go_ret
      exact ⟨ret_bool (decide_eq_true H1.out).symm, bk⟩

def maxOf (ts : List (Int × Int)) : Int := ts.foldl (fun d t => max d t.2) 0

theorem max_snoc (ts : List (Int × Int)) (k : Nat) (h : k < ts.length) : maxOf (ts.take (k + 1)) = max (maxOf (ts.take k)) (ts.getD k (0, 0)).2 := by
  unfold maxOf
  rw [List.take_succ_eq_append_getElem h, List.foldl_append, List.getD_eq_getElem?_getD, List.getElem?_eq_getElem h]
  rfl

set_option maxHeartbeats 1000000 in
theorem deepest_any (a : Option Addr) (b off n c : Nat) (ts : List (Int × Int)) (w : World) (h : TreesIn w a b off n ts) (hn : n ≤ 1048576) :
    Calls Tryd.prog 28 #[.slice a n c] w fun e w' => e = .returned (.int .i64 (maxOf ts)) ∧ Below w.heap.size w w' := by
  go_enter Tryd.func28, Tryd.ntmps28
  go_wp2
  go_loopw [3, 5, 8] (fun d _ i wr => ∃ (k : Nat) (z : Int), k ≤ n ∧ i = .int .i64 k ∧ d = .int .i64 z ∧ z = maxOf (ts.take k) ∧ Below w.heap.size w wr) (fun _ _ i _ => n - (intOf i).toNat)
  case atStart => exact ⟨0, 0, by omega, rfl, rfl, rfl, Below.refl _ _⟩
  case round =>
    obtain ⟨k, z, hk, rfl, rfl, hz, bk⟩ := hrel
    have HZ : Hid (_ = _) := hz
    clear hz
    by_cases hlt : k < n
    · obtain rfl := h.addr (by omega)
      have c0 := (trees_below h bk).c0 k hlt
      have c1 := (trees_below h bk).c1 k hlt
      have HS : Hid (_ = _) := max_snoc ts k (by rw [h.len]; exact hlt)
      generalize ts.getD k (0, 0) = t at *
      go_wp2
      go_roundw
      case rel =>
        refine ⟨k + 1, if z < t.2 then t.2 else z, by omega, by go_num, rfl, ?_, bk.alloc bk.size _⟩
        rw [HS.out, ← HZ.out]
        split <;> omega
      case measure => simp [intOf] <;> omega
    · obtain rfl : k = n := by omega
      have e1 := HZ.out
      rw [List.take_of_length_le (by rw [h.len]; exact Nat.le_refl _)] at e1
      have H1 : Hid (_ = _) := e1
      clear e1
      go_wp2
      go_ret
      exact ⟨ret_int H1.out, bk⟩
end Go.Proofs.YtcgeafdakaeicaaDoor.Rp
