/- SessionOk, the specification's and the program's. -/
import Derived.Test.YtjgmkbldclangaaGreatDoorFSe1
import Derived.Deep.Cut
namespace Go.Proofs.YtjgmkbldclangaaGreatDoor.Fd
open Go.RowKit Go.Sort

/-- Fed says no request of it, and leaves it whole. -/
def feedB (t : ByteArray) : Bool := (fedM t.data.toList).2.2 && (decide ((fedM t.data.toList).1.length = 0) && decide ((⟨(fedM t.data.toList).2.1.toArray⟩ : ByteArray) = t))
def reqB (ss : List ByteArray) : Bool := decide (1 ≤ ss.length) && okArgs ss
def headB (t : ByteArray) (multi : Bool) (n : Nat) (dirty dead : Bool) : Bool := decide (t.size ≤ 5000) && (decide (n ≤ 16) && ((multi || (decide (n = 0) && !dirty)) && (!dead || (decide (t.size = 0) && !multi))))
def sessB (t : ByteArray) (multi : Bool) (Q : List (List ByteArray)) (dirty dead : Bool) : Bool := headB t multi Q.length dirty dead && (Q.all reqB && feedB t)

abbrev sessV (t : ByteArray) (multi : Bool) (v : Value) (dirty dead : Bool) : Value := .agg #[.string t, .bool multi, v, .bool dirty, .bool dead]

set_option maxHeartbeats 1000000 in
theorem wrong_any (a : Option Addr) (b off n c : Nat) (ss : List ByteArray) (w : World) (h : StrsIn w a b off n ss) (hn : n ≤ 1048576) :
    Calls Tryz.prog 86 #[.slice a n c] w fun e w' => e = .returned (.bool (!reqB ss)) ∧ w' = w := by
  have hl := h.len
  by_cases h0 : n = 0
  · have HR : Hid (reqB ss = false) := by unfold Hid reqB; rw [decide_eq_false (by omega), Bool.false_and]
    subst h0
    go_enter Tryz.func86, Tryz.ntmps86
    go_wp2
    go_ret
    exact ⟨by rw [HR.out]; rfl, rfl⟩
  · have HR : Hid (reqB ss = okArgs ss) := by unfold Hid reqB; rw [decide_eq_true (by omega), Bool.true_and]
    have hd : ((n : Int) == 0) = false := by simp; omega
    have hd2 : ¬ (n : Int) = 0 := by omega
    have HA := args48 a b off n c ss w h (by omega)
    go_enter Tryz.func86, Tryz.ntmps86
    go_wp2_with fail
    refine HA.mono ?_
    rintro e w1 ⟨rfl, rfl⟩
    go_wp2
    go_ret
    exact ⟨ret_bool (by rw [HR.out]), rfl⟩

theorem wrong_enters : ∀ args w, (callFunc 86 args).run Tryz.prog w = .ok (.enter 86 args) w := enters_of Tryz.func86 (by kernel_rfl) rfl

theorem all_step (Q : List (List ByteArray)) (k : Nat) (h : k < Q.length) (hp : (Q.take k).all reqB = true) : (Q.take (k + 1)).all reqB = reqB Q[k] := by
  rw [List.take_succ_eq_append_getElem h, List.all_append, hp]
  simp

set_option maxHeartbeats 2000000 in
set_option maxRecDepth 100000 in
theorem index_any (v : Value) (Q : List (List ByteArray)) (w : World) (h : ListsB w v Q) (hS : SmallQ Q) :
    Calls Tryz.prog 91 #[v, .func (.func 86) #[] #[]] w fun e w' => (∃ r : Int, e = .returned (.int .i64 r) ∧ decide (0 ≤ r) = !(Q.all reqB)) ∧ w' = w := by
  have HB : Hid (ListsB w v Q) := h
  have HS : Hid (SmallQ Q) := hS
  have hQn := hS.1
  obtain ⟨a, c, hv⟩ := h.val
  subst hv
  clear h hS
  go_enter Tryz.func91, Tryz.ntmps91
  go_wp2
  go_loopw [8] (fun i wr => ∃ (k : Nat), k ≤ Q.length ∧ i = .int .i64 k ∧ Hid ((Q.take k).all reqB = true) ∧ wr = w) (fun i _ => Q.length - (intOf i).toNat)
  case atStart => exact ⟨0, by omega, rfl, by unfold Hid; simp, rfl⟩
  case round =>
    obtain ⟨k, hk, rfl, hp, rfl⟩ := hrel
    by_cases hlt : k < Q.length
    · obtain ⟨A, o, cap, p, b, off, kk, e1, _, hc, hs⟩ := HB.out.at_ k hlt
      cases e1
      have HW := wrong_any p b off (Q[k]).length kk Q[k] wr hs (HS.out.2 _ (List.getElem_mem hlt))
      have HST : Hid _ := all_step Q k hlt hp.out
      have HNO : Hid (reqB Q[k] = false → Q.all reqB = false) := fun hf => by
        rw [List.all_eq_false]
        exact ⟨Q[k], List.getElem_mem hlt, by rw [hf]; simp⟩
      have hent := wrong_enters
      clear hs hp
      go_wp2_with fail
      refine HW.mono ?_
      rintro e w1 ⟨rfl, rfl⟩
      cases hq : reqB Q[k] with
      | true =>
        have HST2 : Hid ((Q.take (k + 1)).all reqB = true) := HST.out.trans hq
        clear HW HST HNO hq
        go_wp2
        go_roundw
        case rel => exact ⟨k + 1, by omega, by go_num, HST2, trivial⟩
        case measure => simp [intOf]; omega
      | false =>
        have HN2 : Hid (Q.all reqB = false) := HNO.out hq
        clear HW HST HNO hq
        go_wp2
        go_ret
        exact ⟨⟨k, rfl, by rw [HN2.out]; simp⟩, rfl⟩
    · obtain rfl : k = Q.length := by omega
      have HA : Hid (Q.all reqB = true) := by
        have := hp.out
        rwa [List.take_of_length_le (Nat.le_refl _)] at this
      clear hp
      go_wp2
      go_ret
      exact ⟨⟨-1, rfl, by rw [HA.out]; rfl⟩, rfl⟩

set_option maxHeartbeats 1000000 in
theorem contains_any (v : Value) (Q : List (List ByteArray)) (w : World) (h : ListsB w v Q) (hS : SmallQ Q) :
    Calls Tryz.prog 85 #[v, .func (.func 86) #[] #[]] w fun e w' => e = .returned (.bool (!(Q.all reqB))) ∧ w' = w := by
  have HI := index_any v Q w h hS
  obtain ⟨a, c, hv⟩ := h.val
  subst hv
  go_enter Tryz.func85, Tryz.ntmps85
  go_wp2_with fail
  refine HI.mono ?_
  rintro e w1 ⟨⟨r, rfl, hr⟩, rfl⟩
  have HR : Hid (decide (0 ≤ r) = !(Q.all reqB)) := hr
  clear HI hr
  go_wp2
  go_ret
  exact ⟨ret_bool HR.out, rfl⟩

def queueB (Q : List (List ByteArray)) : Bool := decide (Q.length ≤ 16) && Q.all reqB

set_option maxHeartbeats 1000000 in
theorem queue_any (v : Value) (Q : List (List ByteArray)) (w : World) (h : ListsB w v Q) (hS : SmallQ Q) :
    Calls Tryz.prog 73 #[v] w fun e w' => e = .returned (.bool (queueB Q)) ∧ w' = w := by
  have HC := contains_any v Q w h hS
  have hQn := hS.1
  obtain ⟨a, c, hv⟩ := h.val
  subst hv
  by_cases h16 : Q.length ≤ 16
  · have HQ : Hid (queueB Q = Q.all reqB) := by unfold Hid queueB; rw [decide_eq_true h16, Bool.true_and]
    have hd : (Q.length : Int) ≤ 16 := by omega
    go_enter Tryz.func73, Tryz.ntmps73
    go_wp2_with fail
    refine HC.mono ?_
    rintro e w1 ⟨rfl, rfl⟩
    clear HC
    go_wp2
    go_ret
    exact ⟨ret_bool (by rw [HQ.out]), rfl⟩
  · have HQ : Hid (queueB Q = false) := by unfold Hid queueB; rw [decide_eq_false h16, Bool.false_and]
    have hd : ¬ (Q.length : Int) ≤ 16 := by omega
    clear HC
    go_enter Tryz.func73, Tryz.ntmps73
    go_wp2
    go_ret
    exact ⟨ret_bool HQ.out.symm, rfl⟩

theorem str_ne {a b : ByteArray} (h : ¬ a = b) : (a.toList == b.toList) = false := by
  rw [beq_eq_false_iff_ne, ByteArray.toList_eq, ByteArray.toList_eq]
  intro e
  exact h (ByteArray.ext (Array.toList_inj.1 e))

def restB (t : ByteArray) : Bool := decide (t.size ≤ 5000) && feedB t

set_option maxHeartbeats 1000000 in
theorem rest_any (t : ByteArray) (w : World) (hr : Ready w) (ht : t.size ≤ 1048576) :
    Calls Tryz.prog 72 #[.string t] w fun e w' => e = .returned (.bool (restB t)) ∧ Below w.heap.size w w' := by
  by_cases h5 : t.size ≤ 5000
  · have hd : ¬ (5000 : Int) < (t.size : Int) := by omega
    have HI := implFed t ⟨#[]⟩ w hr (by show t.size + 0 ≤ _; omega)
    have el : t.data.toList ++ (⟨#[]⟩ : ByteArray).data.toList = t.data.toList := by simp
    rw [el] at HI
    unfold FedEnd at HI
    have HB : Hid (restB t = ((fedM t.data.toList).2.2 && (decide ((fedM t.data.toList).1.length = 0) && decide ((⟨(fedM t.data.toList).2.1.toArray⟩ : ByteArray) = t)))) := by
      unfold Hid restB feedB
      rw [decide_eq_true h5, Bool.true_and]
    have hLn : (fedM t.data.toList).1.length ≤ 2097152 := by
      have := (fed_reqs t.data.toList).1
      rw [← Lib.size_eq] at this
      omega
    generalize (⟨(fedM t.data.toList).2.1.toArray⟩ : ByteArray) = left at *
    generalize (fedM t.data.toList).2.2 = ok at *
    generalize (fedM t.data.toList).1 = L at *
    clear el
    go_enter Tryz.func72, Tryz.ntmps72
    go_wp2_with fail
    refine HI.mono ?_
    rintro e w1 ⟨v, xs, rfl, o1, b1⟩
    obtain ⟨p, c, hv⟩ := slice_any o1.outer
    rw [rowsOf_len] at hv
    subst hv
    clear HI o1
    cases ok with
    | false =>
      go_wp2
      go_ret
      exact ⟨ret_bool (by rw [HB.out]; rfl), b1⟩
    | true =>
      by_cases hL : L.length = 0
      · have hL1 : ((L.length : Int) == 0) = true := by simp [hL]
        have hL2 : (L.length : Int) = 0 := by omega
        by_cases hlt : left = t
        · have HB2 : Hid (restB t = true) := by unfold Hid; rw [HB.out, decide_eq_true hL, decide_eq_true hlt]; rfl
          clear HB
          subst hlt
          go_wp2
          go_ret
          exact ⟨ret_bool HB2.out.symm, b1⟩
        · have hlt2 := str_ne hlt
          have HB2 : Hid (restB t = false) := by unfold Hid; rw [HB.out, decide_eq_true hL, decide_eq_false hlt]; rfl
          clear HB
          go_wp2
          go_ret
          exact ⟨ret_bool (by rw [HB2.out]), b1⟩
      · have hL1 : ((L.length : Int) == 0) = false := beq_eq_false_iff_ne.2 (by omega)
        have hL2 : ¬ (L.length : Int) = 0 := by omega
        have HB2 : Hid (restB t = false) := by unfold Hid; rw [HB.out, decide_eq_false hL]; rfl
        clear HB
        go_wp2
        go_ret
        exact ⟨ret_bool HB2.out.symm, b1⟩
  · have hd : (5000 : Int) < (t.size : Int) := by omega
    have HB : Hid (restB t = false) := by unfold Hid restB; rw [decide_eq_false h5, Bool.false_and]
    go_enter Tryz.func72, Tryz.ntmps72
    go_wp2
    go_ret
    exact ⟨ret_bool HB.out.symm, Below.refl _ _⟩
end Go.Proofs.YtjgmkbldclangaaGreatDoor.Fd
