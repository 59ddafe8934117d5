/- The program's looks: wordsOk, numberOk, nodeOk, areKids, deepest. areKids and deepest over the trees not yet claimed. impl.RespOk. -/
import Derived.Test.YtcgeafdakaeicaaDoorRpSpecOk
import Derived.Lib.ConvBytes
namespace Go.Proofs.YtcgeafdakaeicaaDoor.Rp
open Go.RowKit Go.Sort

set_option maxHeartbeats 400000 in
theorem number_any (n : Int) (w : World) :
    Calls Tryd.prog 56 #[.int .i64 n] w fun e w' => e = .returned (.bool (numB n)) ∧ w' = w := by
  by_cases h : -1000000000000000000 ≤ n
  · go_enter Tryd.func56, Tryd.ntmps56
    go_wp2
    go_ret
    exact ⟨ret_bool (by simp [numB, inB, h]), rfl⟩
  · have hd : decide (-1000000000000000000 ≤ n) = false := by simpa using h
    go_enter Tryd.func56, Tryd.ntmps56
    go_wp2
    go_ret
    exact ⟨ret_bool (by simp [numB, inB]; omega), rfl⟩

theorem getD_byte (s : ByteArray) (k : Nat) (h : k < s.size) : s.data.toList.getD k 0 = s[k] := by
  rw [List.getD_eq_getElem?_getD, List.getElem?_eq_getElem (by simpa using h)]
  simp
  rfl

set_option maxHeartbeats 400000 in
theorem isPlain_any (y : UInt8) (w : World) :
    Calls Tryd.prog 75 #[.int .u8 y.toNat] w fun e w' => e = .returned (.bool (byteOk y)) ∧ w' = w := by
  by_cases h1 : 32 ≤ y.toNat
  · have hd : decide ((32 : Int) ≤ (y.toNat : Int)) = true := by simp; omega
    go_enter Tryd.func75, Tryd.ntmps75
    go_wp2
    go_ret
    exact ⟨ret_bool (by unfold byteOk; rw [Bool.eq_iff_iff]; simp; omega), rfl⟩
  · have hd : decide ((32 : Int) ≤ (y.toNat : Int)) = false := by simp; omega
    go_enter Tryd.func75, Tryd.ntmps75
    go_wp2
    go_ret
    exact ⟨ret_bool (by unfold byteOk; symm; simp; omega), rfl⟩

set_option maxHeartbeats 400000 in
theorem words_any (s : ByteArray) (w : World) (hs : s.size ≤ 9223372036854775807) :
    Calls Tryd.prog 55 #[.string s] w fun e w' => e = .returned (.bool (plainB s)) ∧ Below w.heap.size w w' := by
  by_cases h200 : (200 : Int) < s.size
  · go_enter Tryd.func55, Tryd.ntmps55
    go_wp2
    go_ret
    exact ⟨ret_bool (by rw [plainB, decide_eq_false (by omega), Bool.false_and]), Below.refl _ _⟩
  have hcv := Lib.run_convert_string_bytes (P := Tryd.prog) w 9 22 5 s Tryd.underlying9 Tryd.underlying22 Tryd.underlying5
  have bb : Below w.heap.size w (Lib.bytesWorld w 5 s) := ⟨rfl, rfl, rfl, by rw [Lib.bytesWorld_size]; omega, fun k hk => Lib.bytesWorld_at_old w 5 s k hk⟩
  have hcell := fun j hj => Lib.bytesWorld_cell w 5 s j hj
  generalize Lib.bytesWorld w 5 s = wb at *
  generalize grownCap w s.size 0 5 = cp at *
  go_enter Tryd.func55, Tryd.ntmps55
  go_wp2
  go_loop [4, 11] (fun _ i => ∃ k : Nat, k ≤ s.size ∧ i = .int .i64 k ∧ (s.data.toList.take k).all byteOk = true) (fun _ i => s.size - (intOf i).toNat)
  case atStart => exact ⟨0, by omega, rfl, by simp⟩
  case round =>
    obtain ⟨k, hk, rfl, hall⟩ := hrel
    clear hcv
    by_cases hlt : k < s.size
    · have HA : Hid ((s.data.toList.take (k + 1)).all byteOk = byteOk s[k]) := by unfold Hid; rw [all_snoc s k hlt, hall, Bool.true_and]
      have hc := hcell k hlt
      rw [getD_byte s k hlt] at hc
      clear hall hcell
      generalize s[k] = y at *
      have HP : Hid (∀ w, Calls Tryd.prog 75 #[.int .u8 y.toNat] w fun e w' => e = .returned (.bool (byteOk y)) ∧ w' = w) := fun w => isPlain_any y w
      cases hb : byteOk y with
      | false =>
        rw [hb] at HP HA
        go_wp2_with fail
        refine (HP.out _).mono ?_
        rintro e w1 ⟨rfl, rfl⟩
        go_wp2
        go_ret
        have e1 := all_false_of_take _ _ HA.out
        exact ⟨ret_bool (by rw [plainB, e1, Bool.and_false]), bb⟩
      | true =>
        rw [hb] at HP HA
        go_wp2_with fail
        refine (HP.out _).mono ?_
        rintro e w1 ⟨rfl, hw1⟩
        have hw2 := hw1.symm
        clear hw1
        subst hw2
        go_wp2
        go_round
        case rel => exact ⟨k + 1, by omega, by go_num, HA.out⟩
        case measure => simp [intOf] <;> omega
    · have HA : Hid ((s.data.toList.take k).all byteOk = true) := hall
      clear hall hcell
      go_wp2
      go_ret
      have e1 := HA.out
      rw [List.take_of_length_le (by simp; omega)] at e1
      exact ⟨ret_bool (by rw [plainB, e1, Bool.and_true, decide_eq_true (by omega)]), bb⟩

set_option maxHeartbeats 2000000 in
set_option maxRecDepth 100000 in
theorem node_any (x : Nd) (ak : Option Addr) (ck : Nat) (w : World) (hs : x.s.size ≤ 9223372036854775807) (_hk : x.kids.length ≤ 1048576) :
    Calls Tryd.prog 26 #[.agg #[.int .i64 x.kind, .int .i64 x.num, .string x.s, .slice ak x.kids.length ck]] w fun e w' => e = .returned (.bool (fieldsB x)) ∧ Below w.heap.size w w' := by
  go_enter Tryd.func26, Tryd.ntmps26
  go_wp2
  go_quiet ((fail))
  have bq : Below w.heap.size w ((w.alloc (.cells #[.int .i64 x.kind, .int .i64 x.num, .string x.s, .slice ak x.kids.length ck] 44)).drewN nq) := below_drewN ((Below.refl _ _).alloc (Nat.le_refl _) _) nq
  have hsq := bq.size
  by_cases k1 : x.kind = 1
  · have e1 : (x.kind == 1) = true := by simp [k1]
    have HK : Hid (fieldsB x = _) := fields_text x (.inl k1)
    clear k1
    by_cases hN : x.num = 0
    · have ehN : (x.num == 0) = true := by simp [hN]
      have GhN : Hid (x.num = 0) := hN
      clear hN
      by_cases hL : x.kids.length = 0
      · have ehL : ((x.kids.length : Int) == 0) = true := by rw [len0]; simp [hL]
        have GhL : Hid (x.kids.length = 0) := hL
        clear hL
        go_wp2_with fail
        refine (words_any x.s _ hs).mono ?_
        rintro e w1 ⟨rfl, b1⟩
        have b01 := bq.trans (b1.mono hsq)
        go_wp2
        go_ret
        exact ⟨ret_bool (by rw [HK.out]; simp [GhN.out, GhL.out]), b01⟩
      · have ehL : ((x.kids.length : Int) == 0) = false := by rw [len0]; simp [hL]
        have GhL : Hid (¬ x.kids.length = 0) := hL
        clear hL
        go_wp2
        go_ret
        exact ⟨ret_bool (by rw [HK.out]; simp [GhN.out, GhL.out]), bq⟩
    · have ehN : (x.num == 0) = false := by simp [hN]
      have GhN : Hid (¬ x.num = 0) := hN
      clear hN
      go_wp2
      go_ret
      exact ⟨ret_bool (by rw [HK.out]; simp [GhN.out]), bq⟩
  have e1 : (x.kind == 1) = false := by simp [k1]
  by_cases k2 : x.kind = 2
  · have e2 : (x.kind == 2) = true := by simp [k2]
    have HK : Hid (fieldsB x = _) := fields_text x (.inr k2)
    clear k2
    by_cases hN : x.num = 0
    · have ehN : (x.num == 0) = true := by simp [hN]
      have GhN : Hid (x.num = 0) := hN
      clear hN
      by_cases hL : x.kids.length = 0
      · have ehL : ((x.kids.length : Int) == 0) = true := by rw [len0]; simp [hL]
        have GhL : Hid (x.kids.length = 0) := hL
        clear hL
        go_wp2_with fail
        refine (words_any x.s _ hs).mono ?_
        rintro e w1 ⟨rfl, b1⟩
        have b01 := bq.trans (b1.mono hsq)
        go_wp2
        go_ret
        exact ⟨ret_bool (by rw [HK.out]; simp [GhN.out, GhL.out]), b01⟩
      · have ehL : ((x.kids.length : Int) == 0) = false := by rw [len0]; simp [hL]
        have GhL : Hid (¬ x.kids.length = 0) := hL
        clear hL
        go_wp2
        go_ret
        exact ⟨ret_bool (by rw [HK.out]; simp [GhN.out, GhL.out]), bq⟩
    · have ehN : (x.num == 0) = false := by simp [hN]
      have GhN : Hid (¬ x.num = 0) := hN
      clear hN
      go_wp2
      go_ret
      exact ⟨ret_bool (by rw [HK.out]; simp [GhN.out]), bq⟩
  have e2 : (x.kind == 2) = false := by simp [k2]
  by_cases k3 : x.kind = 3
  · have e3 : (x.kind == 3) = true := by simp [k3]
    have HK : Hid (fieldsB x = _) := fields_int x k3
    clear k3
    by_cases hS : x.s.size = 0
    · have ehS : x.s.toList.isEmpty = true := by rw [emp]; simp [hS]
      have GhS : Hid (x.s.size = 0) := hS
      clear hS
      by_cases hL : x.kids.length = 0
      · have ehL : ((x.kids.length : Int) == 0) = true := by rw [len0]; simp [hL]
        have GhL : Hid (x.kids.length = 0) := hL
        clear hL
        go_wp2_with fail
        refine (number_any x.num _).mono ?_
        rintro e w1 ⟨rfl, hw1⟩
        have hw2 := hw1.symm
        subst hw2
        go_wp2
        go_ret
        exact ⟨ret_bool (by rw [HK.out]; simp [GhS.out, GhL.out]), bq⟩
      · have ehL : ((x.kids.length : Int) == 0) = false := by rw [len0]; simp [hL]
        have GhL : Hid (¬ x.kids.length = 0) := hL
        clear hL
        go_wp2
        go_ret
        exact ⟨ret_bool (by rw [HK.out]; simp [GhS.out, GhL.out]), bq⟩
    · have ehS : x.s.toList.isEmpty = false := by rw [emp]; simp [hS]
      have GhS : Hid (¬ x.s.size = 0) := hS
      clear hS
      go_wp2
      go_ret
      exact ⟨ret_bool (by rw [HK.out]; simp [GhS.out]), bq⟩
  have e3 : (x.kind == 3) = false := by simp [k3]
  by_cases k4 : x.kind = 4
  · have e4 : (x.kind == 4) = true := by simp [k4]
    have HK : Hid (fieldsB x = _) := fields_bulk x k4
    clear k4
    by_cases hN : x.num = 0
    · have ehN : (x.num == 0) = true := by simp [hN]
      have GhN : Hid (x.num = 0) := hN
      clear hN
      by_cases hL : x.kids.length = 0
      · have ehL : ((x.kids.length : Int) == 0) = true := by rw [len0]; simp [hL]
        have GhL : Hid (x.kids.length = 0) := hL
        clear hL
        go_wp2
        go_ret
        exact ⟨ret_bool (by rw [HK.out]; simp [GhN.out, GhL.out, le200]), bq⟩
      · have ehL : ((x.kids.length : Int) == 0) = false := by rw [len0]; simp [hL]
        have GhL : Hid (¬ x.kids.length = 0) := hL
        clear hL
        go_wp2
        go_ret
        exact ⟨ret_bool (by rw [HK.out]; simp [GhN.out, GhL.out]), bq⟩
    · have ehN : (x.num == 0) = false := by simp [hN]
      have GhN : Hid (¬ x.num = 0) := hN
      clear hN
      go_wp2
      go_ret
      exact ⟨ret_bool (by rw [HK.out]; simp [GhN.out]), bq⟩
  have e4 : (x.kind == 4) = false := by simp [k4]
  by_cases k5 : x.kind = 5
  · have e5 : (x.kind == 5) = true := by simp [k5]
    have HK : Hid (fieldsB x = _) := fields_null x k5
    clear k5
    by_cases hN : x.num = 0
    · have ehN : (x.num == 0) = true := by simp [hN]
      have GhN : Hid (x.num = 0) := hN
      clear hN
      by_cases hS : x.s.size = 0
      · have ehS : x.s.toList.isEmpty = true := by rw [emp]; simp [hS]
        have GhS : Hid (x.s.size = 0) := hS
        clear hS
        go_wp2
        go_ret
        exact ⟨ret_bool (by rw [HK.out]; simp [GhN.out, GhS.out, len0]), bq⟩
      · have ehS : x.s.toList.isEmpty = false := by rw [emp]; simp [hS]
        have GhS : Hid (¬ x.s.size = 0) := hS
        clear hS
        go_wp2
        go_ret
        exact ⟨ret_bool (by rw [HK.out]; simp [GhN.out, GhS.out]), bq⟩
    · have ehN : (x.num == 0) = false := by simp [hN]
      have GhN : Hid (¬ x.num = 0) := hN
      clear hN
      go_wp2
      go_ret
      exact ⟨ret_bool (by rw [HK.out]; simp [GhN.out]), bq⟩
  have e5 : (x.kind == 5) = false := by simp [k5]
  by_cases k6 : x.kind = 6
  · have e6 : (x.kind == 6) = true := by simp [k6]
    have HK : Hid (fieldsB x = _) := fields_array x k6
    clear k6
    by_cases hN : x.num = 0
    · have ehN : (x.num == 0) = true := by simp [hN]
      have GhN : Hid (x.num = 0) := hN
      clear hN
      go_wp2
      go_ret
      exact ⟨ret_bool (by rw [HK.out]; simp [GhN.out, emp]), bq⟩
    · have ehN : (x.num == 0) = false := by simp [hN]
      have GhN : Hid (¬ x.num = 0) := hN
      clear hN
      go_wp2
      go_ret
      exact ⟨ret_bool (by rw [HK.out]; simp [GhN.out]), bq⟩
  have e6 : (x.kind == 6) = false := by simp [k6]
  have HK : Hid (fieldsB x = _) := fields_else x k1 k2 k3 k4 k5 k6
  clear k1 k2 k3 k4 k5 k6
  go_wp2
  go_ret
  exact ⟨ret_bool (by rw [HK.out]), bq⟩
end Go.Proofs.YtcgeafdakaeicaaDoor.Rp

namespace Go.Proofs.YtcgeafdakaeicaaDoor.Rp
open Go.RowKit Go.Sort

structure TreesIn (w : World) (a : Option Addr) (b off n : Nat) (ts : List (Int × Int)) : Prop where
  len : ts.length = n
  addr : 0 < n → a = some ⟨b, off, none⟩
  low : 0 < n → b < w.heap.size
  c0 : ∀ i, i < n → w.cell? ⟨b, off + i * 2, none⟩ = some (.int .i64 (ts.getD i (0, 0)).1)
  c1 : ∀ i, i < n → w.cell? ⟨b, off + i * 2 + 1, none⟩ = some (.int .i64 (ts.getD i (0, 0)).2)

theorem trees_below {w w' : World} {a : Option Addr} {b off n : Nat} {ts : List (Int × Int)} (h : TreesIn w a b off n ts) (hb : Below w.heap.size w w') : TreesIn w' a b off n ts :=
  ⟨h.len, h.addr, fun h0 => by have := h.low h0; have := hb.size; omega, fun i hi => (hb.cell (p := ⟨b, off + i * 2, none⟩) (h.low (by omega))).trans (h.c0 i hi), fun i hi => (hb.cell (p := ⟨b, off + i * 2 + 1, none⟩) (h.low (by omega))).trans (h.c1 i hi)⟩

theorem kids_snoc (ts : List (Int × Int)) (ks : List Int) (k : Nat) (h1 : k < ts.length) (h2 : k < ks.length) : ((ts.take (k + 1)).map Prod.fst = ks.take (k + 1)) ↔ ((ts.take k).map Prod.fst = ks.take k ∧ (ts.getD k (0, 0)).1 = ks.getD k 0) := by
  rw [List.take_succ_eq_append_getElem h1, List.take_succ_eq_append_getElem h2, List.map_append, List.getD_eq_getElem?_getD, List.getElem?_eq_getElem h1, List.getD_eq_getElem?_getD, List.getElem?_eq_getElem h2]
  constructor
  · intro h
    have hl : ((ts.take k).map Prod.fst).length = (ks.take k).length := by simp; omega
    have := List.append_inj h hl
    simpa using this
  · intro ⟨a, b⟩
    rw [a]
    show ks.take k ++ [ts[k].1] = ks.take k ++ [ks[k]]
    rw [show ts[k].1 = ks[k] from by simpa using b]

theorem kids_prefix (ts : List (Int × Int)) (ks : List Int) (k : Nat) (h : ¬ (ts.take k).map Prod.fst = ks.take k) : ¬ ts.map Prod.fst = ks := by
  intro e
  apply h
  rw [← e, List.map_take]

set_option maxHeartbeats 1000000 in
theorem areKids_any (a : Option Addr) (b off n c : Nat) (ts : List (Int × Int)) (a' : Option Addr) (b' off' c' : Nat) (ks : List Int) (w : World) (h : TreesIn w a b off n ts) (h' : IntsIn w a' b' off' n ks) (hn : n ≤ 1048576) :
    Calls Tryd.prog 27 #[.slice a n c, .slice a' n c'] w fun e w' => e = .returned (.bool (decide (ts.map Prod.fst = ks))) ∧ Below w.heap.size w w' := by
  go_enter Tryd.func27, Tryd.ntmps27
  go_wp2
  go_loopw [5, 6, 9] (fun _ _ i wr => ∃ k : Nat, k ≤ n ∧ i = .int .i64 k ∧ (ts.take k).map Prod.fst = ks.take k ∧ Below w.heap.size w wr) (fun _ _ i _ => n - (intOf i).toNat)
  case atStart => exact ⟨0, by omega, rfl, by simp, Below.refl _ _⟩
  case round =>
    obtain ⟨k, hk, rfl, heq, bk⟩ := hrel
    have HE : Hid (_ = _) := heq
    clear heq
    by_cases hlt : k < n
    · obtain rfl := h.addr (by omega)
      obtain rfl := h'.addr (by omega)
      have c0 := (trees_below h bk).c0 k hlt
      have c1 := (trees_below h bk).c1 k hlt
      have hc' := (ints_below h' bk).cell k hlt
      have hlow' := (ints_below h' bk).low (by omega)
      have HS : Hid (_ ↔ _) := kids_snoc ts ks k (by rw [h.len]; exact hlt) (by rw [h'.len]; exact hlt)
      generalize ts.getD k (0, 0) = t at *
      generalize ks.getD k 0 = y at *
      by_cases hy : t.1 = y
      · have hb : (t.1 != y) = false := by simp [hy]
        have HY : Hid (t.1 = y) := hy
        clear hy
        go_wp2
        go_quiet ((fail))
        go_wp2
        go_roundw
        case rel => exact ⟨k + 1, by omega, by go_num, HS.out.2 ⟨HE.out, HY.out⟩, below_drewN (bk.alloc bk.size _) nq⟩
        case measure => simp [intOf] <;> omega
      · have hb : (t.1 != y) = true := by simp [hy]
        have HY : Hid (¬ t.1 = y) := hy
        clear hy
        go_wp2
        go_quiet ((fail))
        go_wp2
        go_ret
        exact ⟨ret_bool (decide_eq_false (kids_prefix ts ks (k + 1) (fun hh => HY.out (HS.out.1 hh).2))).symm, below_drewN (bk.alloc bk.size _) nq⟩
    · obtain rfl : k = n := by omega
      have e1 := HE.out
      rw [List.take_of_length_le (by rw [h.len]; exact Nat.le_refl _), List.take_of_length_le (by rw [h'.len]; exact Nat.le_refl _)] at e1
      have H1 : Hid (_ = _) := e1
      clear e1
      go_wp2
      go_ret
      exact ⟨ret_bool (decide_eq_true H1.out).symm, bk⟩

def maxOf (ts : List (Int × Int)) : Int := ts.foldl (fun d t => max d t.2) 0

theorem max_snoc (ts : List (Int × Int)) (k : Nat) (h : k < ts.length) : maxOf (ts.take (k + 1)) = max (maxOf (ts.take k)) (ts.getD k (0, 0)).2 := by
  unfold maxOf
  rw [List.take_succ_eq_append_getElem h, List.foldl_append, List.getD_eq_getElem?_getD, List.getElem?_eq_getElem h]
  rfl

set_option maxHeartbeats 1000000 in
theorem deepest_any (a : Option Addr) (b off n c : Nat) (ts : List (Int × Int)) (w : World) (h : TreesIn w a b off n ts) (hn : n ≤ 1048576) :
    Calls Tryd.prog 28 #[.slice a n c] w fun e w' => e = .returned (.int .i64 (maxOf ts)) ∧ Below w.heap.size w w' := by
  go_enter Tryd.func28, Tryd.ntmps28
  go_wp2
  go_loopw [3, 5, 8] (fun d _ i wr => ∃ (k : Nat) (z : Int), k ≤ n ∧ i = .int .i64 k ∧ d = .int .i64 z ∧ z = maxOf (ts.take k) ∧ Below w.heap.size w wr) (fun _ _ i _ => n - (intOf i).toNat)
  case atStart => exact ⟨0, 0, by omega, rfl, rfl, rfl, Below.refl _ _⟩
  case round =>
    obtain ⟨k, z, hk, rfl, rfl, hz, bk⟩ := hrel
    have HZ : Hid (_ = _) := hz
    clear hz
    by_cases hlt : k < n
    · obtain rfl := h.addr (by omega)
      have c0 := (trees_below h bk).c0 k hlt
      have c1 := (trees_below h bk).c1 k hlt
      have HS : Hid (_ = _) := max_snoc ts k (by rw [h.len]; exact hlt)
      generalize ts.getD k (0, 0) = t at *
      go_wp2
      go_roundw
      case rel =>
        refine ⟨k + 1, if z < t.2 then t.2 else z, by omega, by go_num, rfl, ?_, bk.alloc bk.size _⟩
        rw [HS.out, ← HZ.out]
        split <;> omega
      case measure => simp [intOf] <;> omega
    · obtain rfl : k = n := by omega
      have e1 := HZ.out
      rw [List.take_of_length_le (by rw [h.len]; exact Nat.le_refl _)] at e1
      have H1 : Hid (_ = _) := e1
      clear e1
      go_wp2
      go_ret
      exact ⟨ret_int H1.out, bk⟩
end Go.Proofs.YtcgeafdakaeicaaDoor.Rp

namespace Go.Proofs.YtcgeafdakaeicaaDoor.Rp
open Go.RowKit Go.Sort

def tcells (ts : List (Int × Int)) : List Value := ts.flatMap fun t => [.int .i64 t.1, .int .i64 t.2]

theorem tcells_length (ts : List (Int × Int)) : (tcells ts).length = ts.length * 2 := by
  induction ts with
  | nil => rfl
  | cons t ts ih => simp [tcells] at ih ⊢; omega

theorem tcells_at (ts : List (Int × Int)) : ∀ i, i < ts.length → (tcells ts)[i * 2]? = some (.int .i64 (ts.getD i (0, 0)).1) ∧ (tcells ts)[i * 2 + 1]? = some (.int .i64 (ts.getD i (0, 0)).2) := by
  induction ts with
  | nil => intro i hi; simp at hi
  | cons t ts ih =>
    intro i hi
    have e : tcells (t :: ts) = .int .i64 t.1 :: .int .i64 t.2 :: tcells ts := rfl
    rw [e]
    cases i with
    | zero => simp
    | succ i =>
      have := ih i (by simp at hi; omega)
      rw [show (i + 1) * 2 = i * 2 + 1 + 1 from by omega]
      simpa using this

theorem tcells_append (a b : List (Int × Int)) : tcells (a ++ b) = tcells a ++ tcells b := by simp [tcells]

/-- The owned row read as trees, from place f on. -/
theorem trees_of_owns {w : World} {base g cap : Nat} {ts : List (Int × Int)} (h : w.ownsRow base 52 2 (.slice (some ⟨g, 0, none⟩) ts.length cap) ts.length (tcells ts)) (f : Nat) (hf : f ≤ ts.length) (c : Nat) (hc : c = f * 2) :
    TreesIn w (some ⟨g, c, none⟩) g c (ts.length - f) (ts.drop f) := by
  subst hc
  obtain ⟨_, h2⟩ := h
  rcases h2 with ⟨h0, _⟩ | ⟨g', cap', cur, hv, hb, hg, hn, hcap, hsz, htake⟩
  · cases h0
  · cases hv
    have hcell : ∀ j v, (tcells ts)[j]? = some v → w.cell? ⟨g, j, none⟩ = some v := by
      intro j v hj
      rw [Lib.cell_of_heap hg]
      rw [← htake, List.getElem?_take] at hj
      split at hj
      · simpa using hj
      · cases hj
    have hget : ∀ i, i < ts.length - f → (ts.drop f).getD i (0, 0) = ts.getD (f + i) (0, 0) := fun i hi => by simp [List.getD]
    refine ⟨by simp, fun _ => rfl, fun _ => (Array.getElem?_eq_some_iff.1 hg).1, fun i hi => ?_, fun i hi => ?_⟩
    · rw [hget i hi, show f * 2 + i * 2 = (f + i) * 2 from by omega]
      exact hcell _ _ (tcells_at ts (f + i) (by omega)).1
    · rw [hget i hi, show f * 2 + i * 2 + 1 = (f + i) * 2 + 1 from by omega]
      exact hcell _ _ (tcells_at ts (f + i) (by omega)).2

/-- The first f trees are owned by the value cut there. -/
theorem owns_take {w : World} {base g cap : Nat} {ts : List (Int × Int)} (h : w.ownsRow base 52 2 (.slice (some ⟨g, 0, none⟩) ts.length cap) ts.length (tcells ts)) (f : Nat) (hf : f ≤ ts.length) :
    w.ownsRow base 52 2 (.slice (some ⟨g, 0, none⟩) f cap) f (tcells (ts.take f)) := by
  obtain ⟨_, h2⟩ := h
  rcases h2 with ⟨h0, _⟩ | ⟨g', cap', cur, hv, hb, hg, hn, hcap, hsz, htake⟩
  · cases h0
  · cases hv
    have e : tcells ts = tcells (ts.take f) ++ tcells (ts.drop f) := by rw [← tcells_append, List.take_append_drop]
    have hl : (tcells (ts.take f)).length = f * 2 := by rw [tcells_length, List.length_take, Nat.min_eq_left hf]
    refine ⟨hl, .inr ⟨g, cap, cur, rfl, hb, hg, by omega, hcap, hsz, ?_⟩⟩
    have h3 : (cur.toList.take (ts.length * 2)).take (f * 2) = (tcells ts).take (f * 2) := by rw [htake]
    rw [List.take_take, Nat.min_eq_left (by omega)] at h3
    rw [h3, e, ← hl, List.take_left]

theorem run_neg (x : Nd) (xs : List Nd) (k : Nat) (ts : List (Int × Int)) (hL : (ts.length : Int) - x.kids.length < 0) : runB (x :: xs) k ts = false := by
  simp only [runB, stepB]
  by_cases hF : fieldsB x = false
  · rw [if_pos hF]
  · rw [if_neg hF, if_pos hL]

theorem run_fields (x : Nd) (xs : List Nd) (k : Nat) (ts : List (Int × Int)) (hF : fieldsB x = false) : runB (x :: xs) k ts = false := by
  simp only [runB, stepB]
  rw [if_pos hF]

theorem run_kids (x : Nd) (xs : List Nd) (k f : Nat) (ts : List (Int × Int)) (hF : fieldsB x = true) (hL : ts.length = f + x.kids.length) (hK : ¬ (ts.drop f).map Prod.fst = x.kids) : runB (x :: xs) k ts = false := by
  have e : ts.length - x.kids.length = f := by omega
  simp only [runB, stepB, e]
  rw [if_neg (by rw [hF]; simp), if_neg (by omega), if_pos hK]

theorem run_deep (x : Nd) (xs : List Nd) (k f : Nat) (ts : List (Int × Int)) (hF : fieldsB x = true) (hL : ts.length = f + x.kids.length) (hK : (ts.drop f).map Prod.fst = x.kids) (hd : 4 < 1 + maxOf (ts.drop f)) : runB (x :: xs) k ts = false := by
  have e : ts.length - x.kids.length = f := by omega
  unfold maxOf at hd
  simp only [runB, stepB, e]
  rw [if_neg (by rw [hF]; simp), if_neg (by omega), if_neg (by rw [hK]; simp), if_pos hd]

theorem run_step (x : Nd) (xs : List Nd) (k f : Nat) (ts : List (Int × Int)) (hF : fieldsB x = true) (hL : ts.length = f + x.kids.length) (hK : (ts.drop f).map Prod.fst = x.kids) (hd : ¬ 4 < 1 + maxOf (ts.drop f)) :
    runB (x :: xs) k ts = runB xs (k + 1) (ts.take f ++ [((k : Int), 1 + maxOf (ts.drop f))]) := by
  have e : ts.length - x.kids.length = f := by omega
  unfold maxOf at hd ⊢
  simp only [runB, stepB, e]
  rw [if_neg (by rw [hF]; simp), if_neg (by omega), if_neg (by rw [hK]; simp), if_neg hd]

theorem maxOf_bound (ts : List (Int × Int)) (h : ∀ t ∈ ts, t.2 ≤ 4) : 0 ≤ maxOf ts ∧ maxOf ts ≤ 4 :=
  ⟨fold_max_le (fun t : Int × Int => t.2) ts 0, fold_max_bound (fun t : Int × Int => t.2) 4 ts h 0 (by omega)⟩

theorem info43 : (Tryd.prog.info? 52).map (fun i => (i.zero, i.size, i.bytes)) = some (some (.agg #[.int .i64 0, .int .i64 0]), 2, 16) := by kernel_rfl

set_option maxHeartbeats 2000000 in
set_option maxRecDepth 100000 in
theorem implOk_any (a : Option Addr) (b off n c : Nat) (L : List Nd) (w : World) (h : RespsIn w a b off n L) (hk : ∀ i, i < n → (L.getD i nd0).kids.length ≤ 1048576) (h1 : 1 ≤ n) (h2 : n ≤ 1000) :
    Calls Tryd.prog 11 #[.slice a n c] w fun e w' => e = .returned (.bool (implB L)) ∧ Below w.heap.size w w' := by
  obtain ⟨i0, hi, hz0, hz1, hz2⟩ := info_parts info43
  have hd : ((n : Int) == 0) = false := by simp; omega
  have hd2 : decide ((1000 : Int) < n) = false := by simp; omega
  have HI : Hid (implB L = runB L 0 []) := by unfold Hid; rw [implB, h.len, decide_eq_true ⟨h1, h2⟩, Bool.true_and]
  go_enter Tryd.func11, Tryd.ntmps11
  go_wp2_with fail
  go_loopw [3, 18] (fun tr i wr => ∃ (k : Nat) (ts : List (Int × Int)), k ≤ n ∧ i = .int .i64 k ∧ wr.ownsRow w.heap.size 52 2 tr ts.length (tcells ts) ∧ ts.length ≤ k ∧ runB L 0 [] = runB (L.drop k) k ts ∧ (∀ t ∈ ts, t.2 ≤ 4) ∧ Below w.heap.size w wr) (fun _ i _ => n - (intOf i).toNat)
  case atStart => exact ⟨0, [], by omega, rfl, World.ownsRow_nil _ _ _ _, by simp, rfl, (fun t ht => by cases ht), Below.refl _ _⟩
  case round =>
    obtain ⟨k, ts, hkn, rfl, hown, htk, hrun, h4, bk⟩ := hrel
    have HR : Hid (_ = _) := hrun
    have H4 : Hid (∀ t ∈ ts, t.2 ≤ 4) := h4
    clear hrun h4
    by_cases hlt : k < n
    · obtain rfl := h.addr (by omega)
      obtain ⟨ak, bk1, ok, ck, hnd⟩ := h.node k hlt
      have hm := nd_below hnd (h.low (by omega)) bk
      have c0 := hm.c0
      have c1 := hm.c1
      have c2 := hm.c2
      have c3 := hm.c3
      have hints := hm.ints
      have hkk := hk k hlt
      have hf1 := (h.fit k hlt).1
      have HX : Hid (L.drop k = L.getD k nd0 :: L.drop (k + 1)) := by
        unfold Hid
        rw [List.drop_eq_getElem_cons (by rw [h.len]; exact hlt), List.getD_eq_getElem?_getD, List.getElem?_eq_getElem (by rw [h.len]; exact hlt)]
        rfl
      clear hnd hm
      generalize L.getD k nd0 = x at *
      have bA : Below wr.heap.size wr (wr.alloc (.cells #[.int .i64 x.kind, .int .i64 x.num, .string x.s, .slice ak x.kids.length ck] 44)) := (Below.refl _ _).alloc (Nat.le_refl _) _
      rcases hown.2 with ⟨rfl, hts0⟩ | ⟨g, cap, cur, rfl, hbg, _, hcl, _⟩
      · obtain rfl : ts = [] := List.length_eq_zero_iff.1 hts0
        go_wp2_with fail
        refine (node_any x ak ck _ hf1 hkk).mono ?_
        rintro e w1 ⟨rfl, b1⟩
        have r1 := (RowAt.new wr 44 #[.int .i64 x.kind, .int .i64 x.num, .string x.s, .slice ak x.kids.length ck]).below b1 (by simp)
        have b01 := bA.trans (b1.mono bA.size)
        have d3 := r1.cell 3
        simp at d3
        have hints1 := ints_below hints b01
        have s1 : wr.heap.size < w1.heap.size := r1.lt
        have b02 := bk.trans (b01.mono bk.size)
        have sk := bk.size
        clear c0 c1 c2 c3 hints hown bA b1
        cases hfb : fieldsB x with
        | false =>
          have HF : Hid (fieldsB x = false) := hfb
          clear hfb
          go_wp2
          go_ret
          exact ⟨ret_bool (by rw [HI.out, HR.out, HX.out, run_fields _ _ _ _ HF.out]), b02⟩
        | true =>
          have HF : Hid (fieldsB x = true) := hfb
          clear hfb
          by_cases hkl : x.kids.length = 0
          · have HK0 : Hid (x.kids = []) := List.length_eq_zero_iff.1 hkl
            clear r1
            rw [hkl] at d3 hints1 ⊢
            have hT : TreesIn w1 none 0 0 0 [] := ⟨rfl, fun h => by omega, fun h => by omega, fun i hi => by omega, fun i hi => by omega⟩
            have k3 := cell_regrown d3
            have cK : ∀ d os, Calls Tryd.prog 27 #[.slice none 0 0, .slice ak 0 ck] (grow (redrawn w1 d) os) fun e w'' => e = .returned (.bool true) ∧ ∃ p : Regrown, w'' = grow (redrawn w1 p.d) p.os := fun d os => by
              have := areKids_any none 0 0 0 0 [] ak bk1 ok ck x.kids _ (trees_below hT (below_regrown w1 d os)) (ints_below hints1 (below_regrown w1 d os)) (by omega)
              rw [HK0.out] at this
              exact Calls.regrown_of this
            clear hkl
            go_wp2
            refine wp_region_quiet_below (by kernel_rfl) (by kernel_rfl) ?_
            repeat (quiet_step (first | exact cK _ _))
            refine wpQuiet_nil ?_
            intro _ hw'
            obtain ⟨⟨dq, osq⟩, hw''⟩ := hw'
            subst hw''
            have bq := below_regrown w1 dq osq
            have hT2 := trees_below hT bq
            have sq := bq.size
            generalize grow (redrawn w1 dq) osq = wq at *
            have b03 := b02.trans (bq.mono (by omega))
            clear cK k3 d3 hints1 hT bq b01
            go_wp2_with fail
            refine (deepest_any none 0 0 0 0 [] wq hT2 (by omega)).mono ?_
            rintro e w3 ⟨rfl, b3⟩
            have b04 := b03.trans (b3.mono (by omega))
            have s3 := b3.size
            rw [show maxOf [] = 0 from rfl]
            have H5 : Hid (_ = _) := run_step x (L.drop (k + 1)) k 0 [] HF.out (by rw [HK0.out]; rfl) (by rw [HK0.out]; rfl) (by decide)
            clear hT2 b3 b03
            go_wp2_with (at_builtin; refine wpList_append_own _ rfl _ _ 47 rfl w.heap.size 52 i0 _ 2 16 Tryd.underlying47 hi hz0 hz1 hz2 rfl (by decide) _ _ _ rfl (World.ownsRow_nil _ _ _ _) ⟨w3.heap.size, 0, none⟩ 1 1 [.int .i64 k, .int .i64 1] rfl rfl ?c1 ?c2 ?c3 ?c4 ?c5 ?_)
            case c1 => exact cell_two_new _ _ _ _
            case c2 => intro u hu; simp at hu; rcases hu with rfl | rfl <;> rfl
            case c3 => unfold maxLen; omega
            case c4 => omega
            case c5 => simp; omega
            intro v' w5 hown' hgrow _
            have b05 := (b04.alloc (by omega) _).grown hgrow (by simp; omega) (fun q hq => by simp [Value.ownBlock] at hq)
            have HO : Hid (w5.ownsRow w.heap.size 52 2 v' [((k : Int), (1 : Int))].length (tcells [((k : Int), (1 : Int))])) := hown'
            clear hown' hgrow b04
            go_wp2
            go_roundw
            case rel =>
              refine ⟨k + 1, [((k : Int), (1 : Int))], by omega, by go_num, HO.out, by simp, by rw [HR.out, HX.out, H5.out]; rfl, ?_, b05⟩
              intro t ht
              simp at ht; subst ht; show (1 : Int) ≤ 4; omega
            case measure => simp [intOf] <;> omega
          · have hneg : 0 < x.kids.length := by omega
            have HN : Hid (runB (x :: L.drop (k + 1)) k [] = false) := run_neg _ _ _ _ (by simp; omega)
            clear hkl
            go_wp2
            go_quiet ((fail))
            go_wp2
            go_ret
            exact ⟨ret_bool (by rw [HI.out, HR.out, HX.out, HN.out]), below_drewN b02 nq⟩
      have HC : Hid (ts.length ≤ cap) := hcl
      clear hcl
      go_wp2_with fail
      refine (node_any x ak ck _ hf1 hkk).mono ?_
      rintro e w1 ⟨rfl, b1⟩
      have r1 := (RowAt.new wr 44 #[.int .i64 x.kind, .int .i64 x.num, .string x.s, .slice ak x.kids.length ck]).below b1 (by simp)
      have b01 := bA.trans (b1.mono bA.size)
      have hown1 := hown.kept (row := none) ⟨b01.os, b01.tape, b01.output, b01.size, fun j hj _ => b01.block j hj⟩ (.inr (by simp [Value.ownBlock]))
      have d3 := r1.cell 3
      simp at d3
      have hints1 := ints_below hints b01
      have s1 : wr.heap.size < w1.heap.size := r1.lt
      have b02 := bk.trans (b01.mono bk.size)
      clear c0 c1 c2 c3 hints hown bA b1
      cases hfb : fieldsB x with
      | false =>
        have HF : Hid (fieldsB x = false) := hfb
        clear hfb
        go_wp2
        go_ret
        exact ⟨ret_bool (by rw [HI.out, HR.out, HX.out, run_fields _ _ _ _ HF.out]), b02⟩
      | true =>
        have HF : Hid (fieldsB x = true) := hfb
        clear hfb
        by_cases hneg : (ts.length : Int) - x.kids.length < 0
        · have HN : Hid (runB (x :: L.drop (k + 1)) k ts = false) := run_neg _ _ _ _ hneg
          go_wp2
          go_quiet ((fail))
          go_wp2
          go_ret
          exact ⟨ret_bool (by rw [HI.out, HR.out, HX.out, HN.out]), below_drewN b02 nq⟩
        · obtain ⟨f, hf⟩ : ∃ f, ts.length = f + x.kids.length := ⟨ts.length - x.kids.length, by omega⟩
          have HL : Hid (ts.length = f + x.kids.length) := hf
          rw [hf] at HC
          have hT := trees_of_owns hown1 f (by omega) (f * 2) rfl
          have hO := owns_take hown1 f (by omega)
          rw [hf] at hT htk ⊢
          rw [show f + x.kids.length - f = x.kids.length from by omega] at hT
          clear hown1 hf hneg
          have hfd : decide ((f : Int) < 0) = false := by simp
          have k3 := cell_regrown d3
          have hfi : (f : Int) ≤ (f : Int) + x.kids.length := by omega
          have hcapl : f + x.kids.length ≤ cap := by
            rcases hO.2 with ⟨h0, _⟩ | ⟨g', cap', cur', hv, _, _, hn', _⟩
            · cases h0
            · cases hv; have := HC.out; omega
          have hfc : (f : Int) ≤ (cap : Int) := by omega
          obtain ⟨av, hav, hT⟩ : ∃ av, (if cap = f then some ⟨g, 0, none⟩ else some ⟨g, f * 2, none⟩ : Option Addr) = av ∧ TreesIn w1 av g (f * 2) x.kids.length (ts.drop f) :=
            ⟨_, rfl, hT.len, fun h0 => by rw [if_neg (by omega)], hT.low, hT.c0, hT.c1⟩
          obtain ⟨bb, hbb⟩ : ∃ bb, decide ((ts.drop f).map Prod.fst = x.kids) = bb := ⟨_, rfl⟩
          have cK : ∀ d os, Calls Tryd.prog 27 #[.slice av x.kids.length (cap - f), .slice ak x.kids.length ck] (grow (redrawn w1 d) os) fun e w'' => e = .returned (.bool bb) ∧ ∃ p : Regrown, w'' = grow (redrawn w1 p.d) p.os := fun d os => by
            rw [← hbb]
            exact Calls.regrown_of (areKids_any av g (f * 2) x.kids.length (cap - f) (ts.drop f) ak bk1 ok ck x.kids _ (trees_below hT (below_regrown w1 d os)) (ints_below hints1 (below_regrown w1 d os)) hkk)
          have HBB : Hid (decide ((ts.drop f).map Prod.fst = x.kids) = bb) := hbb
          clear hbb
          go_wp2
          refine wp_region_quiet_below (by kernel_rfl) (by kernel_rfl) ?_
          repeat (quiet_step (first | exact cK _ _))
          refine wpQuiet_nil ?_
          intro _ hw'
          obtain ⟨⟨dq, osq⟩, hw''⟩ := hw'
          subst hw''
          have bq := below_regrown w1 dq osq
          have r2 := r1.below bq r1.lt
          have hT2 := trees_below hT bq
          have hO2 := hO.kept (row := none) ⟨bq.os, bq.tape, bq.output, bq.size, fun j hj _ => bq.block j hj⟩ (.inr (by simp [Value.ownBlock]))
          have sq := bq.size
          generalize grow (redrawn w1 dq) osq = wq at *
          have b03 := b02.trans (bq.mono (by have := bk.size; omega))
          clear cK k3 d3 hints1 hO hT r1 bq b01
          cases bb with
          | true =>
            have HKs : Hid ((ts.drop f).map Prod.fst = x.kids) := (of_decide_eq_true HBB.out : (ts.drop f).map Prod.fst = x.kids)
            go_wp2_with fail
            refine (deepest_any av g (f * 2) x.kids.length (cap - f) (ts.drop f) wq hT2 hkk).mono ?_
            rintro e w3 ⟨rfl, b3⟩
            have hO3 := hO2.kept (row := none) ⟨b3.os, b3.tape, b3.output, b3.size, fun j hj _ => b3.block j hj⟩ (.inr (by simp [Value.ownBlock]))
            have hdb := maxOf_bound (ts.drop f) (fun t ht => H4.out t (List.mem_of_mem_drop ht))
            have s3 := b3.size
            have b04 := b03.trans (b3.mono (by have := bk.size; omega))
            have sk := bk.size
            have HDp : Hid (4 < 1 + maxOf (ts.drop f) → runB (x :: L.drop (k + 1)) k ts = false) := fun hh => run_deep x _ k f ts HF.out HL.out HKs.out hh
            have HSt : Hid (¬ 4 < 1 + maxOf (ts.drop f) → runB (x :: L.drop (k + 1)) k ts = runB (L.drop (k + 1)) (k + 1) (ts.take f ++ [((k : Int), 1 + maxOf (ts.drop f))])) := fun hh => run_step x _ k f ts HF.out HL.out HKs.out hh
            generalize maxOf (ts.drop f) = d at *
            obtain ⟨hd0, hd4'⟩ := hdb
            clear hT2 hO2 r2 b3 b03
            by_cases hd4 : 4 < 1 + d
            · have H5 : Hid (_ = _) := HDp.out hd4
              go_wp2
              go_ret
              exact ⟨ret_bool (by rw [HI.out, HR.out, HX.out, H5.out]), b04⟩
            · have H5 : Hid (_ = _) := HSt.out hd4
              go_wp2_with (at_builtin; refine wpList_append_own _ rfl _ _ 47 rfl w.heap.size 52 i0 _ 2 16 Tryd.underlying47 hi hz0 hz1 hz2 rfl (by decide) _ _ _ rfl (hO3.alloc _) ⟨w3.heap.size, 0, none⟩ 1 1 [.int .i64 k, .int .i64 (1 + d)] rfl rfl ?c1 ?c2 ?c3 ?c4 ?c5 ?_)
              case c1 => exact cell_two_new _ _ _ _
              case c2 => intro u hu; simp at hu; rcases hu with rfl | rfl <;> rfl
              case c3 => unfold maxLen; omega
              case c4 => omega
              case c5 => simp; omega
              intro v' w5 hown' hgrow _
              have b05 := (b04.alloc (by omega) _).grown hgrow (by simp; omega) (fun q hq => by simp [Value.ownBlock] at hq; omega)
              have HO : Hid (w5.ownsRow w.heap.size 52 2 v' (ts.take f ++ [((k : Int), 1 + d)]).length (tcells (ts.take f ++ [((k : Int), 1 + d)]))) := by
                unfold Hid
                rw [tcells_append, List.length_append, List.length_take, HL.out, Nat.min_eq_left (by omega)]
                exact hown'
              clear hown' hgrow hO3 b04
              go_wp2
              go_roundw
              case rel =>
                refine ⟨k + 1, ts.take f ++ [((k : Int), 1 + d)], by omega, by go_num, HO.out, by rw [List.length_append, List.length_take]; simp; omega, by rw [HR.out, HX.out, H5.out], ?_, b05⟩
                intro t ht
                rcases List.mem_append.1 ht with ht | ht
                · exact H4.out t (List.mem_of_mem_take ht)
                · simp at ht; subst ht; show 1 + d ≤ 4; omega
              case measure => simp [intOf] <;> omega
          | false =>
            have HKs : Hid (¬ (ts.drop f).map Prod.fst = x.kids) := (of_decide_eq_false HBB.out : ¬ (ts.drop f).map Prod.fst = x.kids)
            go_wp2
            go_ret
            exact ⟨ret_bool (by rw [HI.out, HR.out, HX.out, run_kids x _ k f ts HF.out HL.out HKs.out]), b03⟩
    · obtain rfl : k = n := by omega
      have HE : Hid (runB (L.drop k) k ts = decide (ts.length = 1)) := by
        unfold Hid
        rw [List.drop_eq_nil_of_le (by rw [h.len]; exact Nat.le_refl _)]
        rfl
      rcases hown.2 with ⟨rfl, hts0⟩ | ⟨g, cap, cur, rfl, _⟩
      · have HZ : Hid (ts.length = 0) := hts0
        clear hts0 hown
        go_wp2
        go_ret
        exact ⟨ret_bool (by rw [HI.out, HR.out, HE.out, HZ.out]; rfl), bk⟩
      · clear hown
        go_wp2
        go_ret
        exact ⟨ret_bool (by rw [HI.out, HR.out, HE.out, Bool.eq_iff_iff]; simp; omega), bk⟩
end Go.Proofs.YtcgeafdakaeicaaDoor.Rp
