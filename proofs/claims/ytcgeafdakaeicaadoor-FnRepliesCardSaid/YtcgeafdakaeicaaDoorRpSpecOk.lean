/- spec.RespOk. -/
import Derived.Test.YtcgeafdakaeicaaDoorRpSpec
import Derived.Deep.DeepCutAuto
import Derived.Deep.CutBlock
namespace Go.Proofs.YtcgeafdakaeicaaDoor.Rp
open Go.RowKit Go.Sort

theorem fields_text (x : Nd) (h : x.kind = 1 ∨ x.kind = 2) : fieldsB x = (decide (x.num = 0) && plainB x.s && decide (x.kids.length = 0)) := by
  unfold fieldsB; rw [if_pos h]
theorem fields_int (x : Nd) (h : x.kind = 3) : fieldsB x = (numB x.num && decide (x.s.size = 0) && decide (x.kids.length = 0)) := by
  unfold fieldsB; rw [if_neg (by omega), if_pos h]
theorem fields_bulk (x : Nd) (h : x.kind = 4) : fieldsB x = (decide (x.num = 0) && decide (x.s.size ≤ 200) && decide (x.kids.length = 0)) := by
  unfold fieldsB; rw [if_neg (by omega), if_neg (by omega), if_pos h]
theorem fields_null (x : Nd) (h : x.kind = 5) : fieldsB x = (decide (x.num = 0) && decide (x.s.size = 0) && decide (x.kids.length = 0)) := by
  unfold fieldsB; rw [if_neg (by omega), if_neg (by omega), if_neg (by omega), if_pos h]
theorem fields_array (x : Nd) (h : x.kind = 6) : fieldsB x = (decide (x.num = 0) && decide (x.s.size = 0)) := by
  unfold fieldsB; rw [if_neg (by omega), if_neg (by omega), if_neg (by omega), if_neg (by omega), if_pos h]
theorem fields_else (x : Nd) (h1 : x.kind ≠ 1) (h2 : x.kind ≠ 2) (h3 : x.kind ≠ 3) (h4 : x.kind ≠ 4) (h5 : x.kind ≠ 5) (h6 : x.kind ≠ 6) : fieldsB x = false := by
  unfold fieldsB; rw [if_neg (by omega), if_neg h3, if_neg h4, if_neg h5, if_neg h6]

theorem emp (s : ByteArray) : (s.toList.isEmpty) = decide (s.size = 0) := by
  rw [Bool.eq_iff_iff]
  simp [ByteArray.toList_eq]
  exact ⟨fun h => ByteArray.ext h, fun h => by rw [h]; rfl⟩
theorem len0 (n : Nat) : ((n : Int) == 0) = decide (n = 0) := by
  rw [Bool.eq_iff_iff]
  simp
theorem le200 (n : Nat) : decide ((n : Int) ≤ 200) = decide (n ≤ 200) := by
  rw [Bool.eq_iff_iff]
  simp
  omega

theorem spec_false (L : List Nd) (k : Nat) (hk : k < L.length) (h : (fieldsB (L.getD k nd0) && rangeB k (L.getD k nd0)) = false) : specB L = false := by
  have : nodesB L 0 = false := by
    rw [Bool.eq_false_iff]
    intro hn
    have := (nodesB_iff L L 0 rfl).1 hn k (by omega) hk
    rw [this.1, this.2] at h
    cases h
  rw [specB, this, Bool.and_false, Bool.false_and]

theorem spec_true (L : List Nd) (n : Nat) (hl : L.length = n) (h1 : 1 ≤ n) (h2 : n ≤ 1000) (h : ∀ m, m < n → fieldsB (L.getD m nd0) = true ∧ rangeB m (L.getD m nd0) = true) : specB L = decide (tree L (n - 1) = 0 ∧ deep L (n - 1) ≤ 4) := by
  have hn : nodesB L 0 = true := (nodesB_iff L L 0 rfl).2 fun m _ hm => h m (by omega)
  rw [specB, hn, hl, decide_eq_true ⟨h1, h2⟩, Bool.true_and, Bool.true_and]

theorem range_snoc (x : Nd) (j : Nat) (z : Int) (h : j < x.kids.length) (o : Bool) : (o && (x.kids.take (j + 1)).all fun y => inB y 0 z) = ((o && (x.kids.take j).all fun y => inB y 0 z) && inB (x.kids.getD j 0) 0 z) := by
  rw [List.take_succ_eq_append_getElem h, List.all_append, List.getD_eq_getElem?_getD, List.getElem?_eq_getElem h]
  simp [Bool.and_assoc]

set_option maxHeartbeats 2000000 in
set_option maxRecDepth 100000 in
theorem specOk_any (a : Option Addr) (b off n c : Nat) (L : List Nd) (w : World) (h : RespsIn w a b off n L) (hn : n ≤ 1048576) (hk : ∀ i, i < n → (L.getD i nd0).kids.length ≤ 1048576) (h1 : 1 ≤ n) (h2 : n ≤ 1000) :
    Calls Tryd.prog 12 #[.slice a n c] w fun e w' => e = .returned (.bool (specB L)) ∧ Below w.heap.size w w' := by
  have hd : decide ((n : Int) < 1) = false := by simp; omega
  have hd2 : decide ((1000 : Int) < n) = false := by simp; omega
  go_enter Tryd.func12, Tryd.ntmps12
  go_wp2_with fail
  go_loopw [3] (fun i wr => ∃ k : Nat, k ≤ n ∧ i = .int .i64 k ∧ (∀ m, m < k → fieldsB (L.getD m nd0) = true ∧ rangeB m (L.getD m nd0) = true) ∧ Below w.heap.size w wr) (fun i _ => n - (intOf i).toNat)
  case atStart => exact ⟨0, by omega, rfl, fun m hm => by omega, Below.refl _ _⟩
  case round =>
    obtain ⟨k, hkn, rfl, hpre, bk⟩ := hrel
    by_cases hlt : k < n
    · obtain rfl := h.addr (by omega)
      obtain ⟨ak, bk1, ok, ck, hnd⟩ := h.node k hlt
      have hm := nd_below hnd (h.low (by omega)) bk
      have c0 := hm.c0
      have c1 := hm.c1
      have c2 := hm.c2
      have c3 := hm.c3
      have hints := hm.ints
      have hkk := hk k hlt
      have hf1 := (h.fit k hlt).1
      have HPre : Hid (∀ m, m < k → fieldsB (L.getD m nd0) = true ∧ rangeB m (L.getD m nd0) = true) := hpre
      clear hnd hm hpre
      generalize hx : L.getD k nd0 = x at *
      have HX : Hid (L.getD k nd0 = x) := hx
      clear hx
      go_upto_block 2 with fail
      go_cut [5] (fun o wc => o = .bool (fieldsB x) ∧ wc = wr.alloc (.cells #[.int .i64 x.kind, .int .i64 x.num, .string x.s, .slice ak x.kids.length ck] 44))
      case first =>
        by_cases k1 : x.kind = 1
        · have e1 : (x.kind == 1) = true := by simp [k1]
          have HK : Hid (fieldsB x = _) := fields_text x (.inl k1)
          clear k1
          by_cases hN : x.num = 0
          · have eN : (x.num == 0) = true := by simp [hN]
            have HN : Hid (x.num = 0) := hN
            clear hN
            go_wp2_with fail
            refine (plain_any x.s _ hf1).mono ?_
            rintro e w1 ⟨rfl, hw1⟩
            have hw2 := hw1.symm
            subst hw2
            cases hp : plainB x.s with
            | false =>
              have HP : Hid (plainB x.s = false) := hp
              clear hp
              go_wp2_with fail
              go_meet
              case rel => exact ⟨congrArg Value.bool (by rw [HK.out]; simp [HN.out, HP.out]), rfl⟩
            | true =>
              have HP : Hid (plainB x.s = true) := hp
              clear hp
              go_wp2_with fail
              go_meet
              case rel => exact ⟨congrArg Value.bool (by rw [HK.out]; simp [HN.out, HP.out, len0]), rfl⟩
          · have eN : (x.num == 0) = false := by simp [hN]
            have HN : Hid (¬ x.num = 0) := hN
            clear hN
            go_wp2_with fail
            go_meet
            case rel => exact ⟨congrArg Value.bool (by rw [HK.out]; simp [HN.out]), rfl⟩
        have e1 : (x.kind == 1) = false := by simp [k1]
        by_cases k2 : x.kind = 2
        · have e2 : (x.kind == 2) = true := by simp [k2]
          have HK : Hid (fieldsB x = _) := fields_text x (.inr k2)
          clear k2
          by_cases hN : x.num = 0
          · have eN : (x.num == 0) = true := by simp [hN]
            have HN : Hid (x.num = 0) := hN
            clear hN
            go_wp2_with fail
            refine (plain_any x.s _ hf1).mono ?_
            rintro e w1 ⟨rfl, hw1⟩
            have hw2 := hw1.symm
            subst hw2
            cases hp : plainB x.s with
            | false =>
              have HP : Hid (plainB x.s = false) := hp
              clear hp
              go_wp2_with fail
              go_meet
              case rel => exact ⟨congrArg Value.bool (by rw [HK.out]; simp [HN.out, HP.out]), rfl⟩
            | true =>
              have HP : Hid (plainB x.s = true) := hp
              clear hp
              go_wp2_with fail
              go_meet
              case rel => exact ⟨congrArg Value.bool (by rw [HK.out]; simp [HN.out, HP.out, len0]), rfl⟩
          · have eN : (x.num == 0) = false := by simp [hN]
            have HN : Hid (¬ x.num = 0) := hN
            clear hN
            go_wp2_with fail
            go_meet
            case rel => exact ⟨congrArg Value.bool (by rw [HK.out]; simp [HN.out]), rfl⟩
        have e2 : (x.kind == 2) = false := by simp [k2]
        by_cases k3 : x.kind = 3
        · have e3 : (x.kind == 3) = true := by simp [k3]
          have HK : Hid (fieldsB x = _) := fields_int x k3
          clear k3
          go_wp2_with fail
          refine (in_any x.num (-1000000000000000000) 1000000000000000000 _).mono ?_
          rintro e w1 ⟨rfl, hw1⟩
          have hw2 := hw1.symm
          subst hw2
          cases hp : inB x.num (-1000000000000000000) 1000000000000000000 with
          | false =>
            have HP : Hid (inB x.num (-1000000000000000000) 1000000000000000000 = false) := hp
            clear hp
            go_wp2_with fail
            go_meet
            case rel => exact ⟨congrArg Value.bool (by rw [HK.out]; simp [HP.out, numB]), rfl⟩
          | true =>
            have HP : Hid (inB x.num (-1000000000000000000) 1000000000000000000 = true) := hp
            clear hp
            by_cases hS : x.s.size = 0
            · have eS : x.s.toList.isEmpty = true := by rw [emp]; simp [hS]
              have HS : Hid (x.s.size = 0) := hS
              clear hS
              go_wp2_with fail
              go_meet
              case rel => exact ⟨congrArg Value.bool (by rw [HK.out]; simp [HP.out, numB, HS.out, len0]), rfl⟩
            · have eS : x.s.toList.isEmpty = false := by rw [emp]; simp [hS]
              have HS : Hid (¬ x.s.size = 0) := hS
              clear hS
              go_wp2_with fail
              go_meet
              case rel => exact ⟨congrArg Value.bool (by rw [HK.out]; simp [HP.out, numB, HS.out]), rfl⟩
        have e3 : (x.kind == 3) = false := by simp [k3]
        by_cases k4 : x.kind = 4
        · have e4 : (x.kind == 4) = true := by simp [k4]
          have HK : Hid (fieldsB x = _) := fields_bulk x k4
          clear k4
          by_cases hN : x.num = 0
          · have eN : (x.num == 0) = true := by simp [hN]
            have HN : Hid (x.num = 0) := hN
            clear hN
            by_cases hS : x.s.size ≤ 200
            · have eS : decide ((x.s.size : Int) ≤ 200) = true := by rw [le200]; simp [hS]
              have HS : Hid (x.s.size ≤ 200) := hS
              clear hS
              go_wp2_with fail
              go_meet
              case rel => exact ⟨congrArg Value.bool (by rw [HK.out]; simp [HN.out, HS.out, len0]), rfl⟩
            · have eS : decide ((x.s.size : Int) ≤ 200) = false := by rw [le200]; simp; omega
              have HS : Hid (¬ x.s.size ≤ 200) := hS
              clear hS
              go_wp2_with fail
              go_meet
              case rel => exact ⟨congrArg Value.bool (by rw [HK.out]; simp [HN.out, HS.out]), rfl⟩
          · have eN : (x.num == 0) = false := by simp [hN]
            have HN : Hid (¬ x.num = 0) := hN
            clear hN
            go_wp2_with fail
            go_meet
            case rel => exact ⟨congrArg Value.bool (by rw [HK.out]; simp [HN.out]), rfl⟩
        have e4 : (x.kind == 4) = false := by simp [k4]
        by_cases k5 : x.kind = 5
        · have e5 : (x.kind == 5) = true := by simp [k5]
          have HK : Hid (fieldsB x = _) := fields_null x k5
          clear k5
          by_cases hN : x.num = 0
          · have eN : (x.num == 0) = true := by simp [hN]
            have HN : Hid (x.num = 0) := hN
            clear hN
            by_cases hS : x.s.size = 0
            · have eS : x.s.toList.isEmpty = true := by rw [emp]; simp [hS]
              have HS : Hid (x.s.size = 0) := hS
              clear hS
              go_wp2_with fail
              go_meet
              case rel => exact ⟨congrArg Value.bool (by rw [HK.out]; simp [HN.out, HS.out, len0]), rfl⟩
            · have eS : x.s.toList.isEmpty = false := by rw [emp]; simp [hS]
              have HS : Hid (¬ x.s.size = 0) := hS
              clear hS
              go_wp2_with fail
              go_meet
              case rel => exact ⟨congrArg Value.bool (by rw [HK.out]; simp [HN.out, HS.out]), rfl⟩
          · have eN : (x.num == 0) = false := by simp [hN]
            have HN : Hid (¬ x.num = 0) := hN
            clear hN
            go_wp2_with fail
            go_meet
            case rel => exact ⟨congrArg Value.bool (by rw [HK.out]; simp [HN.out]), rfl⟩
        have e5 : (x.kind == 5) = false := by simp [k5]
        by_cases k6 : x.kind = 6
        · have e6 : (x.kind == 6) = true := by simp [k6]
          have HK : Hid (fieldsB x = _) := fields_array x k6
          clear k6
          by_cases hN : x.num = 0
          · have eN : (x.num == 0) = true := by simp [hN]
            have HN : Hid (x.num = 0) := hN
            clear hN
            go_wp2_with fail
            go_meet
            case rel => exact ⟨congrArg Value.bool (by rw [HK.out]; simp [HN.out, emp]), rfl⟩
          · have eN : (x.num == 0) = false := by simp [hN]
            have HN : Hid (¬ x.num = 0) := hN
            clear hN
            go_wp2_with fail
            go_meet
            case rel => exact ⟨congrArg Value.bool (by rw [HK.out]; simp [HN.out]), rfl⟩
        have e6 : (x.kind == 6) = false := by simp [k6]
        have HK : Hid (fieldsB x = _) := fields_else x k1 k2 k3 k4 k5 k6
        clear k1 k2 k3 k4 k5 k6
        go_wp2_with fail
        go_meet
        case rel => exact ⟨congrArg Value.bool (by rw [HK.out]), rfl⟩
      case rest =>
        obtain ⟨rfl, rfl⟩ := hcut
        clear c0 c1 c2 c3
        go_wp2_with fail
        go_loop [5, 6] (fun o q => ∃ j : Nat, j ≤ x.kids.length ∧ q = .int .i64 j ∧ o = .bool (fieldsB x && (x.kids.take j).all fun y => inB y 0 ((k : Int) - 1))) (fun _ q => x.kids.length - (intOf q).toNat)
        case atStart => exact ⟨0, by omega, rfl, by simp⟩
        case round =>
          obtain ⟨j, hj, rfl, rfl⟩ := hrel
          by_cases hjl : j < x.kids.length
          · obtain rfl := hints.addr (by omega)
            have hc := hints.cell j hjl
            have hbl := hints.low (by omega)
            have HA : Hid (_ = _) := range_snoc x j ((k : Int) - 1) hjl (fieldsB x)
            generalize x.kids.getD j 0 = y at *
            generalize ho : (fieldsB x && (x.kids.take j).all fun y => inB y 0 ((k : Int) - 1)) = o at *
            have HO : Hid (_ = o) := ho
            clear ho
            cases o with
            | false =>
              go_wp2
              go_round
              case rel => exact ⟨j + 1, by omega, by go_num, congrArg Value.bool (by rw [HA.out, Bool.false_and])⟩
              case measure => simp [intOf] <;> omega
            | true =>
              go_wp2_with fail
              refine (in_any y 0 ((k : Int) - 1) _).mono ?_
              rintro e w1 ⟨rfl, hw1⟩
              have hw2 := hw1.symm
              subst hw2
              go_wp2
              go_round
              case rel => exact ⟨j + 1, by omega, by go_num, congrArg Value.bool (by rw [HA.out, Bool.true_and])⟩
              case measure => simp [intOf] <;> omega
          · obtain rfl : j = x.kids.length := by omega
            rw [List.take_length]
            generalize ho : (fieldsB x && x.kids.all fun y => inB y 0 ((k : Int) - 1)) = o at *
            have HO : Hid ((fieldsB x && rangeB k x) = o) := ho
            clear ho
            cases o with
            | false =>
              go_wp2
              go_ret
              exact ⟨ret_bool (spec_false L k (by rw [h.len]; exact hlt) (by rw [HX.out]; exact HO.out)).symm, bk.alloc bk.size _⟩
            | true =>
              go_wp2
              go_roundw
              case rel =>
                refine ⟨k + 1, by omega, by go_num, ?_, bk.alloc bk.size _⟩
                intro m hm
                by_cases hmk : m = k
                · subst hmk
                  rw [HX.out]
                  have := HO.out
                  rw [Bool.and_eq_true] at this
                  exact this
                · exact HPre.out m (by omega)
              case measure => simp [intOf] <;> omega
    · obtain rfl : k = n := by omega
      have HS : Hid (_ = _) := spec_true L k h.len h1 h2 hpre
      have h' := resps_below h bk
      have e1 : ((k : Int) - 1) = ((k - 1 : Nat) : Int) := by omega
      have hr : ∀ i, i < k → rangeB i (L.getD i nd0) = true := fun i hi => (hpre i hi).2
      clear hpre
      have HT : Hid (Calls Tryd.prog 31 #[.slice a k c, .int .i64 ((k - 1 : Nat) : Int)] wr fun e w' => e = .returned (.int .i64 (tree L (k - 1))) ∧ w' = wr) := tree_any a b off k c L wr h' hn hk (k - 1) (by omega)
      have HD : Hid (Calls Tryd.prog 32 #[.slice a k c, .int .i64 ((k - 1 : Nat) : Int)] wr fun e w' => e = .returned (.int .i64 (deep L (k - 1))) ∧ w' = wr) := deep_any a b off k c L wr h' hn hk hr (k - 1) (by omega)
      clear hr hk
      rw [← e1] at HT HD
      have HE : Hid (_ = _) := e1
      clear e1
      go_wp2_with fail
      refine HT.out.mono ?_
      rintro e w1 ⟨rfl, hw1⟩
      have hw2 := hw1.symm
      subst hw2
      generalize tree L (k - 1) = t at *
      by_cases ht : t = 0
      · have et : (t == 0) = true := by simp [ht]
        have HZ : Hid (t = 0) := ht
        clear ht
        go_wp2_with fail
        refine HD.out.mono ?_
        rintro e w1 ⟨rfl, hw1⟩
        have hw2 := hw1.symm
        subst hw2
        go_wp2
        go_ret
        exact ⟨ret_bool (by rw [HS.out]; simp [HZ.out]), bk⟩
      · have et : (t == 0) = false := by simp [ht]
        have HZ : Hid (¬ t = 0) := ht
        clear ht
        go_wp2
        go_ret
        exact ⟨ret_bool (by rw [HS.out]; simp [HZ.out]), bk⟩
end Go.Proofs.YtcgeafdakaeicaaDoor.Rp
