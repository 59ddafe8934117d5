/- SessionOk whole: the specification's and the program's. -/
import Derived.Test.YtjgmkbldclangaaGreatDoorFSe2
namespace Go.Proofs.YtjgmkbldclangaaGreatDoor.Fd
open Go.RowKit Go.Sort

theorem five_at {W : World} {g : Nat} {T : TypeId} {a b c d e : Value} (h : RowAt W g T #[a, b, c, d, e]) : W.cell? ⟨g, 0, none⟩ = some a ∧ W.cell? ⟨g, 1, none⟩ = some b ∧ W.cell? ⟨g, 2, none⟩ = some c ∧ W.cell? ⟨g, 3, none⟩ = some d ∧ W.cell? ⟨g, 4, none⟩ = some e :=
  ⟨h.cell 0, h.cell 1, h.cell 2, h.cell 3, h.cell 4⟩

set_option maxHeartbeats 4000000 in
set_option maxRecDepth 100000 in
theorem implSess (t : ByteArray) (multi : Bool) (v : Value) (Q : List (List ByteArray)) (dirty dead : Bool) (w : World) (hr : Ready w) (ht : t.size ≤ 1048576) (h : ListsB w v Q) (hS : SmallQ Q) :
    Calls Tryz.prog 52 #[sessV t multi v dirty dead] w fun e w' => e = .returned (.bool (sessB t multi Q dirty dead)) ∧ Below w.heap.size w w' := by
  have HB : Hid (ListsB w v Q) := h
  have HS : Hid (SmallQ Q) := hS
  have HR : Hid (Ready w) := hr
  have hsix := hr.six
  have hQn := hS.1
  obtain ⟨a, c, hv⟩ := h.val
  subst hv
  clear h hS hr
  have HE : Hid (sessB t multi Q dirty dead = (restB t && (queueB Q && ((multi || (decide (Q.length = 0) && !dirty)) && (!dead || (decide (t.size = 0) && !multi)))))) := by
    unfold Hid sessB headB restB queueB
    cases decide (t.size ≤ 5000) <;> cases decide (Q.length ≤ 16) <;> cases (multi || (decide (Q.length = 0) && !dirty)) <;> cases (!dead || (decide (t.size = 0) && !multi)) <;> cases Q.all reqB <;> cases feedB t <;> rfl
  have b0 : Below w.heap.size w (w.alloc (.cells #[.string t, .bool multi, .slice a Q.length c, .bool dirty, .bool dead] 41)) := (Below.refl _ w).alloc (Nat.le_refl _) _
  have q0 := RowAt.new w 41 #[.string t, .bool multi, .slice a Q.length c, .bool dirty, .bool dead]
  have HB1 : Hid (ListsB (w.alloc (.cells #[.string t, .bool multi, .slice a Q.length c, .bool dirty, .bool dead] 41)) (.slice a Q.length c) Q) := HB.out.below b0
  have HR1 : Hid (Ready (w.alloc (.cells #[.string t, .bool multi, .slice a Q.length c, .bool dirty, .bool dead] 41))) := HR.out.below (b0.mono hsix)
  obtain ⟨e0, e1, e2, e3, e4⟩ := five_at q0
  go_enter Tryz.func52, Tryz.ntmps52
  go_upto_region 1 with fail
  generalize w.alloc (.cells #[.string t, .bool multi, .slice a Q.length c, .bool dirty, .bool dead] 41) = w1 at *
  go_cut [3] (fun x wx => x = .bool (decide (Q.length = 0) && !dirty) ∧ wx = w1)
  case first =>
    by_cases h0 : Q.length = 0
    · have h1 : ((Q.length : Int) == 0) = true := by rw [h0]; rfl
      have h2 : (Q.length : Int) = 0 := by omega
      cases dirty
      all_goals
        go_wp2_with fail
        go_meet
        case rel => exact ⟨by simp [h0], rfl⟩
    · have h1 : ((Q.length : Int) == 0) = false := beq_eq_false_iff_ne.2 (by omega)
      have h2 : ¬ (Q.length : Int) = 0 := by omega
      go_wp2_with fail
      go_meet
      case rel => exact ⟨by rw [decide_eq_false h0]; rfl, rfl⟩
  case rest =>
    obtain ⟨rfl, rfl⟩ := hcut
    generalize (decide (Q.length = 0) && !dirty) = idle at *
    go_upto_region 2 with fail
    go_cut [4] (fun x wx => x = .bool (decide (t.size = 0) && !multi) ∧ wx = wc)
    case first =>
      by_cases h0 : t.size = 0
      · have he := empty_yes h0
        cases multi
        all_goals
          go_wp2_with fail
          go_meet
          case rel => exact ⟨by simp [h0], rfl⟩
      · have he := empty_no (s := t) (by omega)
        go_wp2_with fail
        go_meet
        case rel => exact ⟨by rw [decide_eq_false h0]; rfl, rfl⟩
    case rest =>
      obtain ⟨rfl, rfl⟩ := hcut
      generalize (decide (t.size = 0) && !multi) = silent at *
      have HRS := rest_any t wc HR1.out ht
      go_wp2_with fail
      refine HRS.mono ?_
      rintro e w2 ⟨rfl, b2⟩
      have q2 := q0.below b2 q0.lt
      have bb2 := b0.trans (b2.mono (by have := q0.lt; omega))
      have HQ2 := queue_any (.slice a Q.length c) Q w2 (HB1.out.below b2) HS.out
      obtain ⟨f0, f1, f2, f3, f4⟩ := five_at q2
      clear HRS b2 q0 q2 e0 e1 e2 e3 e4 HB1 HR1 HB HR
      cases hrb : restB t with
      | false =>
        clear HQ2
        go_wp2
        go_ret
        exact ⟨ret_bool (by rw [HE.out, hrb]; rfl), bb2⟩
      | true =>
        go_wp2_with fail
        refine HQ2.mono ?_
        rintro e w3 ⟨rfl, rfl⟩
        clear HQ2
        cases hqb : queueB Q with
        | false =>
          go_wp2
          go_ret
          exact ⟨ret_bool (by rw [HE.out, hrb, hqb]; rfl), bb2⟩
        | true =>
          have HE2 : Hid (sessB t multi Q dirty dead = ((multi || idle) && (!dead || silent))) := by
            unfold Hid
            rw [HE.out, hrb, hqb]
            rfl
          clear HE hrb hqb
          cases multi <;> cases idle <;> cases dead <;> cases silent
          all_goals
            go_wp2
            go_ret
            exact ⟨ret_bool (by rw [HE2.out]; rfl), bb2⟩

set_option maxHeartbeats 8000000 in
set_option maxRecDepth 100000 in
theorem specSess (t : ByteArray) (multi : Bool) (v : Value) (Q : List (List ByteArray)) (dirty dead : Bool) (w : World) (ht : t.size ≤ 1048576) (h : ListsB w v Q) (hS : SmallQ Q) :
    Calls Tryz.prog 13 #[sessV t multi v dirty dead] w fun e w' => e = .returned (.bool (sessB t multi Q dirty dead)) ∧ Below w.heap.size w w' := by
  have HB : Hid (ListsB w v Q) := h
  have HS : Hid (SmallQ Q) := hS
  have hQn := hS.1
  obtain ⟨a, c, hv⟩ := h.val
  subst hv
  clear h hS
  have HE : Hid (sessB t multi Q dirty dead = (headB t multi Q.length dirty dead && (Q.all reqB && feedB t))) := rfl
  have b0 : Below w.heap.size w (w.alloc (.cells #[.string t, .bool multi, .slice a Q.length c, .bool dirty, .bool dead] 41)) := (Below.refl _ w).alloc (Nat.le_refl _) _
  have q0 := RowAt.new w 41 #[.string t, .bool multi, .slice a Q.length c, .bool dirty, .bool dead]
  have HB1 : Hid (ListsB (w.alloc (.cells #[.string t, .bool multi, .slice a Q.length c, .bool dirty, .bool dead] 41)) (.slice a Q.length c) Q) := HB.out.below b0
  obtain ⟨e0, e1, e2, e3, e4⟩ := five_at q0
  go_enter Tryz.func13, Tryz.ntmps13
  go_upto_region 1 with fail
  generalize w.alloc (.cells #[.string t, .bool multi, .slice a Q.length c, .bool dirty, .bool dead] 41) = w1 at *
  go_cut [44] (fun x wx => x = .bool (!(headB t multi Q.length dirty dead)) ∧ wx = w1)
  case first =>
    by_cases h5 : t.size ≤ 5000
    · have g5 : ¬ (5000 : Int) < (t.size : Int) := by omega
      by_cases h16 : Q.length ≤ 16
      · have g16 : ¬ (16 : Int) < (Q.length : Int) := by omega
        have HH : Hid (headB t multi Q.length dirty dead = ((multi || (decide (Q.length = 0) && !dirty)) && (!dead || (decide (t.size = 0) && !multi)))) := by
          unfold Hid headB
          rw [decide_eq_true h5, decide_eq_true h16, Bool.true_and, Bool.true_and]
        clear h5 h16
        by_cases h0 : Q.length = 0
        · have g0 : decide ((0 : Int) < (Q.length : Int)) = false := decide_eq_false (by omega)
          have g1 : decide (0 < Q.length) = false := decide_eq_false (by omega)
          rw [decide_eq_true h0] at HH
          clear h0
          by_cases ht0 : t.size = 0
          · have he := empty_yes ht0
            rw [decide_eq_true ht0] at HH
            clear ht0
            cases multi <;> cases dirty <;> cases dead
            all_goals
              go_wp2_with fail
              go_meet
              case rel => exact ⟨by rw [HH.out]; rfl, rfl⟩
          · have he := empty_no (s := t) (by omega)
            rw [decide_eq_false ht0] at HH
            clear ht0
            cases multi <;> cases dirty <;> cases dead
            all_goals
              go_wp2_with fail
              go_meet
              case rel => exact ⟨by rw [HH.out]; rfl, rfl⟩
        · have g0 : decide ((0 : Int) < (Q.length : Int)) = true := decide_eq_true (by omega)
          have g1 : decide (0 < Q.length) = true := decide_eq_true (by omega)
          rw [decide_eq_false h0] at HH
          clear h0
          by_cases ht0 : t.size = 0
          · have he := empty_yes ht0
            rw [decide_eq_true ht0] at HH
            clear ht0
            cases multi <;> cases dead
            all_goals
              go_wp2_with fail
              go_meet
              case rel => exact ⟨by rw [HH.out]; rfl, rfl⟩
          · have he := empty_no (s := t) (by omega)
            rw [decide_eq_false ht0] at HH
            clear ht0
            cases multi <;> cases dead
            all_goals
              go_wp2_with fail
              go_meet
              case rel => exact ⟨by rw [HH.out]; rfl, rfl⟩
      · have g16 : (16 : Int) < (Q.length : Int) := by omega
        have HH : Hid (headB t multi Q.length dirty dead = false) := by unfold Hid headB; rw [decide_eq_false h16]; simp
        clear h5 h16
        go_wp2_with fail
        go_meet
        case rel => exact ⟨by rw [HH.out]; rfl, rfl⟩
    · have g5 : (5000 : Int) < (t.size : Int) := by omega
      have HH : Hid (headB t multi Q.length dirty dead = false) := by unfold Hid headB; rw [decide_eq_false h5]; simp
      clear h5
      go_wp2_with fail
      go_meet
      case rel => exact ⟨by rw [HH.out]; rfl, rfl⟩
  case rest =>
    obtain ⟨rfl, rfl⟩ := hcut
    generalize hnn : (!(headB t multi Q.length dirty dead)) = nn
    cases nn with
    | true =>
      have hh : headB t multi Q.length dirty dead = false := by simpa using hnn
      clear hnn
      go_wp2
      go_ret
      exact ⟨ret_bool (by rw [HE.out, hh]; rfl), b0⟩
    | false =>
      have hh : headB t multi Q.length dirty dead = true := by simpa using hnn
      clear hnn
      have HE2 : Hid (sessB t multi Q dirty dead = (Q.all reqB && feedB t)) := by unfold Hid; rw [HE.out, hh]; rfl
      have hlow := q0.lt
      clear HE hh
      go_wp2_with fail
      go_loopw [3] (fun i wr => ∃ (k : Nat), k ≤ Q.length ∧ i = .int .i64 k ∧ Hid ((Q.take k).all reqB = true) ∧ wr = wc) (fun i _ => Q.length - (intOf i).toNat)
      case atStart => exact ⟨0, by omega, rfl, by unfold Hid; simp, rfl⟩
      case round =>
        obtain ⟨k, hk, rfl, hp, rfl⟩ := hrel
        by_cases hlt : k < Q.length
        · obtain ⟨A, o, cap, p, b, off, kk, ea, _, hc, hs⟩ := HB1.out.at_ k hlt
          cases ea
          have HA := args46 p b off (Q[k]).length kk Q[k] wr hs (by have := HS.out.2 _ (List.getElem_mem hlt); omega)
          have HST : Hid _ := all_step Q k hlt hp.out
          have HNO : Hid (reqB Q[k] = false → Q.all reqB = false) := fun hf => by
            rw [List.all_eq_false]
            exact ⟨Q[k], List.getElem_mem hlt, by rw [hf]; simp⟩
          have HRQ : Hid (reqB Q[k] = (decide (1 ≤ (Q[k]).length) && okArgs Q[k])) := rfl
          clear hs hp
          by_cases h1 : (Q[k]).length < 1
          · have g1 : ((Q[k]).length : Int) < 1 := by omega
            have HN2 : Hid (Q.all reqB = false) := HNO.out (by rw [HRQ.out, decide_eq_false (by omega)]; rfl)
            clear HA HST HNO HRQ h1
            generalize (Q[k]).length = m at *
            go_wp2
            go_ret
            exact ⟨ret_bool (by rw [HE2.out, HN2.out]; rfl), b0⟩
          · have g1 : ¬ ((Q[k]).length : Int) < 1 := by omega
            have HR2 : Hid (reqB Q[k] = okArgs Q[k]) := by unfold Hid; rw [HRQ.out, decide_eq_true (by omega), Bool.true_and]
            clear HRQ h1
            generalize (Q[k]).length = m at *
            go_wp2_with fail
            refine HA.mono ?_
            rintro e w2 ⟨rfl, rfl⟩
            cases hok : okArgs Q[k] with
            | true =>
              have HST2 : Hid ((Q.take (k + 1)).all reqB = true) := HST.out.trans (HR2.out.trans hok)
              clear HA HST HNO HR2 hok
              go_wp2
              go_roundw
              case rel =>
                exact ⟨k + 1, by omega, by go_num, HST2, trivial⟩
              case measure => simp [intOf]; omega
            | false =>
              have HN2 : Hid (Q.all reqB = false) := HNO.out (HR2.out.trans hok)
              clear HA HST HNO HR2 hok
              go_wp2
              go_ret
              exact ⟨ret_bool (by rw [HE2.out, HN2.out]; rfl), b0⟩
        · obtain rfl : k = Q.length := by omega
          have HA : Hid (Q.all reqB = true) := by
            have := hp.out
            rwa [List.take_of_length_le (Nat.le_refl _)] at this
          have HE3 : Hid (sessB t multi Q dirty dead = feedB t) := by unfold Hid; rw [HE2.out, HA.out]; rfl
          have HSF := specFed ⟨#[]⟩ t wr (by show 0 + t.size ≤ _; omega)
          have el : (⟨#[]⟩ : ByteArray).data.toList ++ t.data.toList = t.data.toList := by simp
          rw [el] at HSF
          unfold FedEnd at HSF
          have HFB : Hid (feedB t = ((fedM t.data.toList).2.2 && (decide ((fedM t.data.toList).1.length = 0) && decide ((⟨(fedM t.data.toList).2.1.toArray⟩ : ByteArray) = t)))) := rfl
          have hLn : (fedM t.data.toList).1.length ≤ 2097152 := by
            have := (fed_reqs t.data.toList).1
            rw [← Lib.size_eq] at this
            omega
          generalize (⟨(fedM t.data.toList).2.1.toArray⟩ : ByteArray) = left at *
          generalize (fedM t.data.toList).2.2 = ok at *
          generalize (fedM t.data.toList).1 = L at *
          clear el hp HE2 HA
          go_wp2_with fail
          refine HSF.mono ?_
          rintro e w2 ⟨v2, xs, rfl, o2, b2⟩
          have q2 := q0.below b2 q0.lt
          have bb2 := b0.trans (b2.mono (by omega))
          obtain ⟨f0, f1, f2, f3, f4⟩ := five_at q2
          obtain ⟨p2, c2, hv2⟩ := slice_any o2.outer
          rw [rowsOf_len] at hv2
          subst hv2
          clear HSF o2 b2 q2 q0 e0 e1 e2 e3 e4 HB1
          by_cases hL : L.length = 0
          · have hL1 : ((L.length : Int) == 0) = true := by rw [hL]; rfl
            have hL2 : (L.length : Int) = 0 := by omega
            cases ok with
            | false =>
              have HZ : Hid (feedB t = false) := by unfold Hid; rw [HFB.out]; rfl
              clear HFB
              go_wp2
              go_ret
              exact ⟨ret_bool (by rw [HE3.out, HZ.out]), bb2⟩
            | true =>
              by_cases hlt2 : left = t
              · have HZ : Hid (feedB t = true) := by unfold Hid; rw [HFB.out, decide_eq_true hL, decide_eq_true hlt2]; rfl
                clear HFB
                subst hlt2
                go_wp2
                go_ret
                exact ⟨ret_bool (by rw [HE3.out, HZ.out]), bb2⟩
              · have hne := str_ne hlt2
                have HZ : Hid (feedB t = false) := by unfold Hid; rw [HFB.out, decide_eq_true hL, decide_eq_false hlt2]; rfl
                clear HFB
                go_wp2
                go_ret
                exact ⟨ret_bool (by rw [HE3.out, HZ.out]), bb2⟩
          · have hL1 : ((L.length : Int) == 0) = false := beq_eq_false_iff_ne.2 (by omega)
            have hL2 : ¬ (L.length : Int) = 0 := by omega
            have HZ : Hid (feedB t = false) := by unfold Hid; rw [HFB.out, decide_eq_false hL]; cases ok <;> rfl
            clear HFB
            go_wp2
            go_ret
            exact ⟨ret_bool (by rw [HE3.out, HZ.out]), bb2⟩
end Go.Proofs.YtjgmkbldclangaaGreatDoor.Fd
