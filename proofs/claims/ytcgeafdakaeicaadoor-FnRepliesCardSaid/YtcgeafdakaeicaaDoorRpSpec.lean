/- The specification's looks: l1In, l1Plain, l1Tree, l1Deep. -/
import Derived.Test.YtcgeafdakaeicaaDoorRpSmall
namespace Go.Proofs.YtcgeafdakaeicaaDoor.Rp
open Go.RowKit Go.Sort

set_option maxHeartbeats 400000 in
theorem in_any (n low high : Int) (w : World) :
    Calls Tryd.prog 30 #[.int .i64 n, .int .i64 low, .int .i64 high] w fun e w' => e = .returned (.bool (inB n low high)) ∧ w' = w := by
  by_cases h : low ≤ n
  · go_enter Tryd.func30, Tryd.ntmps30
    go_wp2
    go_ret
    exact ⟨ret_bool (by simp [inB, h]), rfl⟩
  · have hd : decide (low ≤ n) = false := by simpa using h
    go_enter Tryd.func30, Tryd.ntmps30
    go_wp2
    go_ret
    exact ⟨ret_bool (by simp [inB]; omega), rfl⟩

theorem all_snoc (s : ByteArray) (k : Nat) (h : k < s.size) : (s.data.toList.take (k + 1)).all byteOk = ((s.data.toList.take k).all byteOk && byteOk s[k]) := by
  rw [List.take_succ_eq_append_getElem (by simpa using h), List.all_append]
  simp
  rfl

theorem all_false_of_take (l : List UInt8) (k : Nat) (h : (l.take k).all byteOk = false) : l.all byteOk = false := by
  rw [← List.take_append_drop k l, List.all_append, h, Bool.false_and]

set_option maxHeartbeats 400000 in
theorem plain_any (s : ByteArray) (w : World) (hs : s.size ≤ 9223372036854775807) :
    Calls Tryd.prog 29 #[.string s] w fun e w' => e = .returned (.bool (plainB s)) ∧ w' = w := by
  go_enter Tryd.func29, Tryd.ntmps29
  go_wp2
  go_loop [3] (fun i => ∃ k : Nat, k ≤ s.size ∧ i = .int .i64 k ∧ (s.data.toList.take k).all byteOk = true) (fun i => s.size - (intOf i).toNat)
  case atStart => exact ⟨0, by omega, rfl, by simp⟩
  case round =>
    obtain ⟨k, hk, rfl, hall⟩ := hrel
    by_cases hlt : k < s.size
    · have HA : Hid ((s.data.toList.take (k + 1)).all byteOk = byteOk s[k]) := by unfold Hid; rw [all_snoc s k hlt, hall, Bool.true_and]
      clear hall
      by_cases h1 : (s[k].toNat : Int) < 32
      · go_wp2
        go_ret
        have e1 := all_false_of_take _ _ (HA.out.trans (by simp [byteOk]; omega))
        exact ⟨ret_bool (by rw [plainB, e1, Bool.and_false]), rfl⟩
      · have hd : decide ((s[k].toNat : Int) < 32) = false := by simpa using h1
        by_cases h2 : 126 < (s[k].toNat : Int)
        · go_wp2
          go_ret
          have e1 := all_false_of_take _ _ (HA.out.trans (by simp [byteOk]; omega))
          exact ⟨ret_bool (by rw [plainB, e1, Bool.and_false]), rfl⟩
        · go_wp2
          go_round
          case rel => exact ⟨k + 1, by omega, by go_num, HA.out.trans (by simp [byteOk]; omega)⟩
          case measure => simp [intOf]; omega
    · have HA : Hid ((s.data.toList.take k).all byteOk = true) := hall
      clear hall
      go_wp2
      go_ret
      have e1 := HA.out
      rw [List.take_of_length_le (by simp; omega)] at e1
      exact ⟨ret_bool (by rw [plainB, e1, Bool.and_true, Bool.eq_iff_iff]; simp; omega), rfl⟩

theorem take_rev (K : List Int) (j : Nat) (h : j < K.length) : (K.take (j + 1)).reverse = K.getD j 0 :: (K.take j).reverse := by
  rw [List.take_succ_eq_append_getElem h, List.reverse_append, List.getD_eq_getElem?_getD, List.getElem?_eq_getElem h]
  rfl

theorem tw_hit (T : Nat → Int) (y : Int) (p : Nat) (ks : List Int) (h : y = p) : tw T (y :: ks) p = if T p < 0 then -1 else tw T ks (T p - 1) := by
  subst h
  simp only [tw, Int.toNat_natCast]
  rw [if_neg (by omega)]

set_option maxHeartbeats 1000000 in
theorem tree_any (a : Option Addr) (b off n c : Nat) (L : List Nd) (w : World) (h : RespsIn w a b off n L) (hn : n ≤ 1048576) (hk : ∀ i, i < n → (L.getD i nd0).kids.length ≤ 1048576) :
    ∀ m : Nat, m < n → Calls Tryd.prog 31 #[.slice a n c, .int .i64 m] w fun e w' => e = .returned (.int .i64 (tree L m)) ∧ w' = w := by
  intro m
  induction m using Nat.strongRecOn with
  | _ m ih =>
    intro hm
    have IH : Hid (∀ q : Nat, q < m → Calls Tryd.prog 31 #[.slice a n c, .int .i64 q] w fun e w' => e = .returned (.int .i64 (tree L q)) ∧ w' = w) := fun q hq => ih q hq (by omega)
    clear ih
    obtain rfl := h.addr (by omega)
    obtain ⟨ak, bk, ok, ck, hnd⟩ := h.node m hm
    have hkm := hk m hm
    have c3 := hnd.c3
    have hints := hnd.ints
    have HT : Hid (tree L m = tw (tree L) (kidsOf L m).reverse ((m : Int) - 1)) := tree_eq L m
    have HK : Hid (kidsOf L m = (L.getD m nd0).kids) := rfl
    clear hnd
    generalize (L.getD m nd0).kids = K at *
    rw [HK.out] at HT
    go_enter Tryd.func31, Tryd.ntmps31
    go_wp2
    go_loop [5, 6] (fun t i => ∃ z q : Int, t = .int .i64 z ∧ i = .int .i64 q ∧ -1 ≤ q ∧ q < K.length ∧ -1 ≤ z ∧ z < m ∧ tree L m = tw (tree L) (K.take (q + 1).toNat).reverse z) (fun _ i => (intOf i + 1).toNat)
    case atStart => exact ⟨(m : Int) - 1, (K.length : Int) - 1, rfl, rfl, by omega, by omega, by omega, by omega, by rw [HT.out, List.take_of_length_le (by omega)]⟩
    case round =>
      obtain ⟨z, q, rfl, rfl, hq0, hq1, hz0, hz1, hrel⟩ := hrel
      have HR : Hid (_ = _) := hrel
      clear hrel
      by_cases h0 : 0 ≤ q
      · obtain ⟨j, rfl⟩ := Int.eq_ofNat_of_zero_le h0
        obtain rfl := hints.addr (by omega)
        have hc := hints.cell j (by omega)
        have HS : Hid (_ = _) := take_rev K j (by omega)
        generalize K.getD j 0 = y at *
        have e1 : ((j : Int) + 1).toNat = j + 1 := by omega
        rw [e1] at HR
        clear e1
        by_cases hz : z < 0
        · go_wp2
          go_ret
          refine ⟨ret_int ?_, rfl⟩
          rw [HR.out, HS.out]
          simp [tw, hz]
        · by_cases hy : y = z
          · have hb : (y != z) = false := by simp [hy]
            have HY : Hid (y = z) := hy
            clear hy
            obtain ⟨p, rfl⟩ := Int.eq_ofNat_of_zero_le (show 0 ≤ z by omega)
            have hzd : decide ((p : Int) < 0) = false := by simp
            have htl := tree_le L p
            go_wp2_with fail
            refine (IH.out p (by omega)).mono ?_
            rintro e w1 ⟨rfl, hw1⟩
            have hw2 := hw1.symm
            subst hw2
            have HF : Hid (_ = _) := tw_hit (tree L) y p (K.take j).reverse HY.out
            generalize tree L p = f at *
            by_cases hf : f < 0
            · go_wp2
              go_ret
              refine ⟨ret_int ?_, rfl⟩
              rw [HR.out, HS.out, HF.out, if_pos hf]
            · go_wp2
              go_round
              case rel =>
                refine ⟨f - 1, (j : Int) - 1, by go_num, by go_num, by omega, by omega, by omega, by omega, ?_⟩
                rw [HR.out, HS.out, HF.out, if_neg (by omega), show ((j : Int) - 1 + 1).toNat = j from by omega]
              case measure => simp [intOf] <;> omega
          · have hb : (y != z) = true := by simp [hy]
            have hzd : decide (z < 0) = false := by simpa using hz
            go_wp2
            go_ret
            refine ⟨ret_int ?_, rfl⟩
            rw [HR.out, HS.out]
            simp [tw, hy]
      · obtain rfl : q = -1 := by omega
        go_wp2
        go_ret
        refine ⟨ret_int ?_, rfl⟩
        rw [HR.out]
        simp [tw]

theorem fold_snoc (L : List Nd) (n : Nat) (K : List Int) (j : Nat) (h : j < K.length) (h0 : 0 ≤ K.getD j 0 ∧ K.getD j 0 < (n : Int)) :
    (K.take (j + 1)).foldl (fun d k => max d (if 0 ≤ k ∧ k < (n : Int) then deep L k.toNat else 0)) 0 = max ((K.take j).foldl (fun d k => max d (if 0 ≤ k ∧ k < (n : Int) then deep L k.toNat else 0)) 0) (deep L (K.getD j 0).toNat) := by
  have e : K.getD j 0 = K[j] := by rw [List.getD_eq_getElem?_getD, List.getElem?_eq_getElem h]; rfl
  rw [List.take_succ_eq_append_getElem h, List.foldl_append]
  simp only [List.foldl_cons, List.foldl_nil]
  rw [e] at h0 ⊢
  rw [if_pos h0]

theorem fold_bound (L : List Nd) (n : Nat) (K : List Int) : 0 ≤ K.foldl (fun d k => max d (if 0 ≤ k ∧ k < (n : Int) then deep L k.toNat else 0)) 0 ∧ K.foldl (fun d k => max d (if 0 ≤ k ∧ k < (n : Int) then deep L k.toNat else 0)) 0 ≤ n := by
  refine ⟨fold_max_le (fun k => if 0 ≤ k ∧ k < (n : Int) then deep L k.toNat else 0) K 0, fold_max_bound (fun k => if 0 ≤ k ∧ k < (n : Int) then deep L k.toNat else 0) n K (fun k _ => ?_) 0 (by omega)⟩
  by_cases hk : 0 ≤ k ∧ k < (n : Int)
  · simp only [if_pos hk]
    have := (deep_bound L k.toNat).2
    omega
  · simp only [if_neg hk]; omega

set_option maxHeartbeats 1000000 in
theorem deep_any (a : Option Addr) (b off n c : Nat) (L : List Nd) (w : World) (h : RespsIn w a b off n L) (hn : n ≤ 1048576) (hk : ∀ i, i < n → (L.getD i nd0).kids.length ≤ 1048576) (hr : ∀ i, i < n → rangeB i (L.getD i nd0) = true) :
    ∀ m : Nat, m < n → Calls Tryd.prog 32 #[.slice a n c, .int .i64 m] w fun e w' => e = .returned (.int .i64 (deep L m)) ∧ w' = w := by
  intro m
  induction m using Nat.strongRecOn with
  | _ m ih =>
    intro hm
    have IH : Hid (∀ q : Nat, q < m → Calls Tryd.prog 32 #[.slice a n c, .int .i64 q] w fun e w' => e = .returned (.int .i64 (deep L q)) ∧ w' = w) := fun q hq => ih q hq (by omega)
    clear ih
    obtain rfl := h.addr (by omega)
    obtain ⟨ak, bk, ok, ck, hnd⟩ := h.node m hm
    have hkm := hk m hm
    have c3 := hnd.c3
    have hints := hnd.ints
    have HT : Hid (deep L m = (kidsOf L m).foldl (fun d k => max d (if 0 ≤ k ∧ k < (m : Int) then deep L k.toNat else 0)) 0 + 1) := deep_eq L m
    have HK : Hid (kidsOf L m = (L.getD m nd0).kids) := rfl
    have HR : Hid (∀ k ∈ (L.getD m nd0).kids, 0 ≤ k ∧ k < (m : Int)) := fun k hk => by
      have := hr m hm
      rw [rangeB, List.all_eq_true] at this
      have := this k hk
      simp [inB] at this
      omega
    clear hnd hr
    generalize (L.getD m nd0).kids = K at *
    rw [HK.out] at HT
    go_enter Tryd.func32, Tryd.ntmps32
    go_wp2
    go_loop [5, 6] (fun t i => ∃ (j : Nat) (d : Int), t = .int .i64 d ∧ i = .int .i64 j ∧ j ≤ K.length ∧ 0 ≤ d ∧ d ≤ m ∧ d = (K.take j).foldl (fun d k => max d (if 0 ≤ k ∧ k < (m : Int) then deep L k.toNat else 0)) 0) (fun _ i => K.length - (intOf i).toNat)
    case atStart => exact ⟨0, 0, rfl, rfl, by omega, by omega, by omega, by simp⟩
    case round =>
      obtain ⟨j, d, rfl, rfl, hj, hd0, hd1, hd⟩ := hrel
      have HD : Hid (_ = _) := hd
      clear hd
      by_cases hlt : j < K.length
      · obtain rfl := hints.addr (by omega)
        have hc := hints.cell j (by omega)
        have hy : 0 ≤ K.getD j 0 ∧ K.getD j 0 < (m : Int) := HR.out _ (by rw [List.getD_eq_getElem?_getD, List.getElem?_eq_getElem hlt]; exact List.getElem_mem _)
        have HS : Hid (_ = _) := fold_snoc L m K j hlt hy
        generalize K.getD j 0 = y at *
        obtain ⟨hy0, hy1⟩ := hy
        obtain ⟨p, rfl⟩ := Int.eq_ofNat_of_zero_le hy0
        have hdb := deep_bound L p
        go_wp2_with fail
        refine (IH.out p (by omega)).mono ?_
        rintro e w1 ⟨rfl, hw1⟩
        have hw2 := hw1.symm
        subst hw2
        rw [Int.toNat_natCast] at HS
        generalize deep L p = f at *
        go_wp2
        go_round
        case rel =>
          refine ⟨j + 1, if d < f then f else d, rfl, by go_num, by omega, by split <;> omega, by split <;> omega, ?_⟩
          rw [HS.out, ← HD.out]
          split <;> omega
        case measure => simp [intOf] <;> omega
      · obtain rfl : j = K.length := by omega
        go_wp2
        go_ret
        refine ⟨ret_int ?_, rfl⟩
        rw [HT.out, HD.out, List.take_length]
end Go.Proofs.YtcgeafdakaeicaaDoor.Rp
