/- Marks: numbers and texts written into an answer's own memory, and found there again. Marks in a slice of nodes. -/
import Derived.Test.YtcgeafdakaeicaaDoorSqE
import Derived.Laws.IdiomStrings
import Derived.Lib.QuietBelow
namespace Go.Proofs.YtcgeafdakaeicaaDoor
open Go.RowKit Go.Sort
open Rp (Nd nd0 plainB numB fieldsB)

def markB (k : Nat) : ByteArray := ⟨(109 :: Lib.decDigits k).toArray⟩

def Digs (n k : Nat) (acc : List UInt8) : Prop := (if k = 0 then [] else Lib.decDigits k) ++ acc = Lib.decDigits n ∧ (acc.length : Int) ≤ (n : Int) - k

set_option maxHeartbeats 1000000 in
set_option maxRecDepth 100000 in
theorem mark_any (n : Nat) (w : World) (h0 : 0 < n) (hn : n ≤ 2000000000) :
    Calls Tryd.prog 46 #[.int .i64 n] w fun e w' => e = .returned (.string (markB n)) ∧ Below w.heap.size w w' := by
  have hneg : decide ((n : Int) ≤ 0) = false := by simp; omega
  go_enter Tryd.func46, Tryd.ntmps46
  go_wp2
  go_loopw [0, 3] (fun m s wr => ∃ (k : Nat) (acc : List UInt8), k ≤ n ∧ m = .int .i64 k ∧ s = .string ⟨acc.toArray⟩ ∧ Hid (Digs n k acc) ∧ Below w.heap.size w wr) (fun m _ _ => (intOf m).toNat)
  case atStart => exact ⟨n, [], by omega, rfl, rfl, ⟨by rw [if_neg (by omega)]; simp, by simp⟩, Below.refl _ _⟩
  case round =>
    obtain ⟨k, acc, hk, rfl, rfl, hd, bk⟩ := hrel
    have sk := bk.size
    have hal := hd.out.2
    by_cases hlt : 0 < k
    · have hcv := conv_one wr (48 + (k : Int) % 10) (by omega) (by omega)
      have HD : Hid (Digs n (k / 10) ([UInt8.ofNat (48 + k % 10)] ++ acc)) := by
        obtain ⟨h1, h2⟩ := hd.out
        rw [if_neg (by omega)] at h1
        refine ⟨?_, by simp; omega⟩
        rw [← h1]
        by_cases h10 : k < 10
        · rw [if_pos (by omega), dec_last k h10, show k % 10 = k from by omega]; rfl
        · rw [if_neg (by omega), dec_step k (by omega)]; simp
      clear hd
      have n1 : acc.length ≤ 2000000000 := by omega
      go_wp2
      go_roundw
      case rel =>
        refine ⟨k / 10, [UInt8.ofNat (48 + k % 10)] ++ acc, by omega, by go_num, ?_, HD, bk.alloc sk _⟩
        exact congrArg Value.string (by rw [show (48 + UInt8.ofNat (k % 10)) = UInt8.ofNat (48 + k % 10) from by simp]; exact ByteArray.mk_append_mk [UInt8.ofNat (48 + k % 10)] acc)
      case measure => simp [intOf]; omega
    · have HE : Hid (acc = Lib.decDigits n) := by
        have := hd.out.1
        rw [if_pos (by omega)] at this
        exact this
      have n1 : acc.length ≤ 2000000000 := by omega
      clear hd
      go_wp2
      go_ret
      refine ⟨ret_str ?_, bk⟩
      unfold markB
      rw [← HE.out]
      exact ByteArray.mk_append_mk [109] acc


def numsFrom (s0 n : Nat) : List Int := (List.range n).map fun i => ((s0 + i : Nat) : Int)
theorem nums_len (s0 n : Nat) : (numsFrom s0 n).length = n := by simp [numsFrom]
theorem nums_get (s0 n i : Nat) (h : i < n) : (intVals (numsFrom s0 n))[i]? = some (.int .i64 ((s0 + i : Nat) : Int)) := by
  simp [intVals, numsFrom, List.getElem?_range h]

theorem ret_int {a b : Int} (h : a = b) : Ending.returned (.int .i64 a) = .returned (.int .i64 b) := by rw [h]

set_option maxHeartbeats 1000000 in
theorem markInts (B : Nat) (v : Value) (n : Nat) (xs : List Value) (s0 : Nat) (w : World) (h : w.ownsRow B 2 1 v n xs) (hn : n ≤ 1000000) (hs0 : s0 ≤ 1000000000) :
    Calls Tryd.prog 47 #[v, .int .i64 s0] w fun e w' => e = .returned (.int .i64 ((s0 + n : Nat) : Int)) ∧ w'.ownsRow B 2 1 v n (intVals (numsFrom s0 n)) ∧ w.grownBy w' (Value.ownBlock v) := by
  obtain ⟨hxl, ⟨rfl, rfl⟩ | ⟨g, cap, cur, rfl, hg, hh, hcap, hmax, hcs, htk⟩⟩ := h
  · go_enter Tryd.func47, Tryd.ntmps47
    go_wp2
    refine wp_loop_rounds 1 ?_
    rw [rounds_succ]
    go_wp2
    go_ret
    exact ⟨rfl, World.ownsRow_nil _ _ _ _, grown_refl _ _⟩
  · have hr0 : RowAt w g 2 cur := hh
    have hlt0 := hr0.lt
    have HM : Hid (cap ≤ maxLen) := hmax
    clear hh htk hxl hmax
    go_enter Tryd.func47, Tryd.ntmps47
    go_wp2
    go_loopw [1, 5] (fun m i wr => ∃ (k : Nat) (D : Array Value), k ≤ n ∧ i = .int .i64 k ∧ m = .int .i64 ((s0 : Int) + k) ∧ D.size = cap * 1 ∧ RowAt wr g 2 D ∧ Hid (∀ j, j < k → D[j]? = some (.int .i64 ((s0 : Int) + j))) ∧ w.grownBy wr (some g)) (fun _ i _ => n - (intOf i).toNat)
    case atStart => exact ⟨0, cur, by omega, rfl, by simp, hcs, hr0, fun j hj => by omega, grown_refl _ _⟩
    case round =>
      obtain ⟨k, D, hk, rfl, rfl, hD, hrow, hpre, gk⟩ := hrel
      have sk := gk.size
      by_cases hlt : k < n
      · have hg1 : wr.cell? ⟨g, k, none⟩ = some (D[k]'(by omega)) := by rw [hrow.cell k]; simp
        have hfz := hrow.frozen k
        have HR : Hid (RowAt (wr.setCell ⟨g, k, none⟩ (.int .i64 ((s0 : Int) + k))) g 2 (D.setIfInBounds k (.int .i64 ((s0 : Int) + k)))) := hrow.set k _
        have HG : Hid (w.grownBy (wr.setCell ⟨g, k, none⟩ (.int .i64 ((s0 : Int) + k))) (some g)) := grown_trans gk (grown_set _ g k _)
        have HD : Hid (D.size = cap * 1) := hD
        generalize hDk : D[k]'(by omega) = old at *
        clear hDk hD hrow gk
        go_wp2
        go_roundw
        case rel =>
          refine ⟨k + 1, _, by omega, by go_num, by go_num, ?_, HR.out, ?_, HG.out⟩
          · rw [Array.size_setIfInBounds]; exact HD.out
          · intro j hj
            by_cases hjk : k = j
            · subst hjk
              rw [Array.getElem?_setIfInBounds_self_of_lt (by rw [HD.out]; omega)]
            · rw [Array.getElem?_setIfInBounds_ne hjk]
              exact hpre.out j (by omega)
        case measure => simp [intOf]; omega
      · obtain rfl : k = n := by omega
        have HO : Hid (wr.ownsRow B 2 1 (.slice (some ⟨g, 0, none⟩) k cap) k (intVals (numsFrom s0 k))) := by
          refine ⟨by simp [intVals, numsFrom], .inr ⟨g, cap, D, rfl, hg, hrow, hcap, HM.out, hD, ?_⟩⟩
          apply List.ext_getElem?
          intro i
          by_cases hi : i < k
          · rw [nums_get s0 k i hi, Nat.mul_one, List.getElem?_take_of_lt hi, Array.getElem?_toList, hpre.out i hi, Int.natCast_add]
          · rw [List.getElem?_eq_none (by simp; omega), List.getElem?_eq_none (by simp [intVals, numsFrom]; omega)]
        clear hrow hpre hD
        go_wp2
        go_ret
        exact ⟨ret_int (by omega), HO.out, gk⟩

set_option maxHeartbeats 1000000 in
theorem heldInts (a : Option Addr) (b n c : Nat) (s0 : Nat) (w : World) (h : Rp.IntsIn w a b 0 n (numsFrom s0 n)) (hn : n ≤ 1000000) (hs0 : s0 ≤ 1000000000) :
    Calls Tryd.prog 48 #[.slice a n c, .int .i64 s0] w fun e w' => e = .returned (.int .i64 ((s0 + n : Nat) : Int)) ∧ w' = w := by
  have HCell : Hid (∀ j, j < n → w.cell? ⟨b, j, none⟩ = some (.int .i64 ((s0 : Int) + j))) := fun j hj => by
    have := h.cell j hj
    rw [Nat.zero_add] at this
    rw [this, List.getD_eq_getElem?_getD]
    simp [numsFrom, List.getElem?_range hj]
  have HA : Hid (0 < n → a = some ⟨b, 0, none⟩) := h.addr
  clear h
  go_enter Tryd.func48, Tryd.ntmps48
  go_wp2
  go_loop [1, 5] (fun m i => ∃ (k : Nat), k ≤ n ∧ i = .int .i64 k ∧ m = .int .i64 ((s0 : Int) + k)) (fun _ i => n - (intOf i).toNat)
  case atStart => exact ⟨0, by omega, rfl, by simp⟩
  case round =>
    obtain ⟨k, hk, rfl, rfl⟩ := hrel
    by_cases hlt : k < n
    · obtain rfl := HA.out (by omega)
      have kc := HCell.out k hlt
      go_wp2
      go_round
      case rel => exact ⟨k + 1, by omega, by go_num, by go_num⟩
      case measure => simp [intOf]; omega
    · obtain rfl : k = n := by omega
      go_wp2
      go_ret
      exact ⟨ret_int (by omega), rfl⟩
end Go.Proofs.YtcgeafdakaeicaaDoor

namespace Go.Proofs.YtcgeafdakaeicaaDoor
open Go.RowKit Go.Sort
open Rp (Nd nd0 plainB numB fieldsB)

def mkN (k : Nat) (p : Nv) : Nv := (⟨(k : Int), (k : Int) + 1, markB (k + 2), numsFrom (k + 3) p.1.kids.length⟩, p.2)
def stepK (k : Nat) (p : Nv) : Nat := k + 3 + p.1.kids.length
def mkAll : Nat → List Nv → List Nv
  | _, [] => []
  | k, p :: P => mkN k p :: mkAll (stepK k p) P
def endK : Nat → List Nv → Nat
  | k, [] => k
  | k, p :: P => endK (stepK k p) P

theorem mkAll_len : ∀ (P : List Nv) (k : Nat), (mkAll k P).length = P.length
  | [], _ => rfl
  | p :: P, k => by simp [mkAll, mkAll_len P]
theorem mkAll_snoc : ∀ (P : List Nv) (k : Nat) (p : Nv), mkAll k (P ++ [p]) = mkAll k P ++ [mkN (endK k P) p] ∧ endK k (P ++ [p]) = stepK (endK k P) p
  | [], k, p => ⟨rfl, rfl⟩
  | q :: P, k, p => by
    obtain ⟨h1, h2⟩ := mkAll_snoc P (stepK k q) p
    exact ⟨by simp [mkAll, h1, endK], by simp [endK, h2]⟩
theorem endK_le : ∀ (P : List Nv) (k M : Nat), (∀ p ∈ P, p.1.kids.length ≤ M) → k ≤ endK k P ∧ endK k P ≤ k + P.length * (3 + M)
  | [], k, M, _ => by simp [endK]
  | p :: P, k, M, h => by
    have h1 := h p (by simp)
    obtain ⟨h2, h3⟩ := endK_le P (stepK k p) M (fun q hq => h q (by simp [hq]))
    simp only [endK, List.length_cons, Nat.add_mul]
    unfold stepK at h2 h3 ⊢
    omega

theorem row_set {w : World} {B n g c j : Nat} {v : Value} {xs : List Value} (h : w.ownsRow B 44 4 (.slice (some ⟨g, 0, none⟩) n c) n xs) : (w.setCell ⟨g, j, none⟩ v).ownsRow B 44 4 (.slice (some ⟨g, 0, none⟩) n c) n (xs.set j v) := by
  obtain ⟨h1, ⟨h2, _⟩ | ⟨g', cap, cur, hv, q1, q2, q3, q4, q5, q6⟩⟩ := h
  · cases h2
  · injection hv with hv1 hv2 hv3
    injection hv1 with hv1
    injection hv1 with hv1
    subst hv1 hv3
    have hr : RowAt w g 44 cur := q2
    refine ⟨by simpa using h1, .inr ⟨g, c, cur.setIfInBounds j v, rfl, q1, hr.set j v, q3, q4, by simpa using q5, ?_⟩⟩
    rw [Array.toList_setIfInBounds, List.take_set, q6]

theorem flat_mid (X R : List Nv) (p : Nv) : flatN (X ++ p :: R) = flatN X ++ ([.int .i64 p.1.kind, .int .i64 p.1.num, .string p.1.s, p.2] ++ flatN R) := by
  simp [flatN]

theorem set_mid (X : List Value) (a b c d v : Value) (R : List Value) (m : Nat) (hm : X.length = m) :
    (X ++ ([a, b, c, d] ++ R)).set m v = X ++ ([v, b, c, d] ++ R) ∧ (X ++ ([a, b, c, d] ++ R)).set (m + 1) v = X ++ ([a, v, c, d] ++ R) ∧ (X ++ ([a, b, c, d] ++ R)).set (m + 2) v = X ++ ([a, b, v, d] ++ R) := by
  subst hm
  refine ⟨?_, ?_, ?_⟩
  · rw [List.set_append_right _ _ (Nat.le_refl _), Nat.sub_self]; rfl
  · rw [List.set_append_right _ _ (by omega), show X.length + 1 - X.length = 1 from by omega]; rfl
  · rw [List.set_append_right _ _ (by omega), show X.length + 2 - X.length = 2 from by omega]; rfl

/-- A node's own cells set: its kids' row is as it was. -/
theorem own_setN {w : World} {B n g c : Nat} {X R : List Nv} {p : Nv} (h : OwnN w B (.slice (some ⟨g, 0, none⟩) n c) (X ++ p :: R)) (x' : Nd) (hk : x'.kids = p.1.kids) (j : Nat) (v : Value) (hn : (X ++ p :: R).length = n) (hf : (flatN (X ++ p :: R)).set j v = flatN (X ++ (x', p.2) :: R)) :
    OwnN (w.setCell ⟨g, j, none⟩ v) B (.slice (some ⟨g, 0, none⟩) n c) (X ++ (x', p.2) :: R) := by
  have hrow := h.row
  rw [hn] at hrow
  refine ⟨?_, ?_, ?_⟩
  · have := row_set (j := j) (v := v) hrow
    rw [hf] at this
    have e : (X ++ (x', p.2) :: R).length = n := by rw [← hn]; simp
    rw [e]; exact this
  · intro q hq
    have go : ∀ {u : Value} {m : Nat} {xs : List Value}, w.ownsRow B 2 1 u m xs → (w.setCell ⟨g, j, none⟩ v).ownsRow B 2 1 u m xs := fun hu => owns_block hu fun b hb => Below.heap_setCell _ _ _ _ (fun e => by
      have := own_other hu hrow (by decide) hb
      simp at e
      subst e
      exact this rfl)
    rcases List.mem_append.1 hq with hq | hq
    · exact go (h.kids q (by simp [hq]))
    · rcases List.mem_cons.1 hq with rfl | hq
      · show (w.setCell ⟨g, j, none⟩ v).ownsRow B 2 1 p.2 x'.kids.length (intVals x'.kids)
        rw [hk]
        exact go (h.kids p (by simp))
      · exact go (h.kids q (by simp [hq]))
  · have hp := h.apart
    rw [List.pairwise_append] at hp ⊢
    obtain ⟨p1, p2, p3⟩ := hp
    rw [List.pairwise_cons] at p2 ⊢
    refine ⟨p1, ⟨p2.1, p2.2⟩, fun a ha b hb => ?_⟩
    rcases List.mem_cons.1 hb with rfl | hb
    · exact p3 a ha p (by simp)
    · exact p3 a ha b (by simp [hb])

/-- A node's kids' row written anew. -/
theorem own_setK {w w' : World} {B : Nat} {V : Value} {X R : List Nv} {p : Nv} {ks : List Int} (h : OwnN w B V (X ++ p :: R)) (hk : w'.ownsRow B 2 1 p.2 ks.length (intVals ks)) (hg : w.grownBy w' p.2.ownBlock) :
    OwnN w' B V (X ++ (⟨p.1.kind, p.1.num, p.1.s, ks⟩, p.2) :: R) := by
  have hp := h.apart
  rw [List.pairwise_append] at hp
  obtain ⟨p1, p2, p3⟩ := hp
  rw [List.pairwise_cons] at p2
  have hpk := h.kids p (by simp)
  have other : ∀ {q : Nv}, w.ownsRow B 2 1 q.2 q.1.kids.length (intVals q.1.kids) → (∀ k, q.2.ownBlock = some k → p.2.ownBlock ≠ some k) → w'.ownsRow B 2 1 q.2 q.1.kids.length (intVals q.1.kids) := fun hq hne => owns_block hq fun b hb => hg.block b (own_lt hq hb).2 (fun e => hne b hb e.symm)
  refine ⟨?_, ?_, ?_⟩
  · have e : flatN (X ++ (⟨p.1.kind, p.1.num, p.1.s, ks⟩, p.2) :: R) = flatN (X ++ p :: R) := by rw [flat_mid, flat_mid]
    have e2 : (X ++ ((⟨p.1.kind, p.1.num, p.1.s, ks⟩ : Nd), p.2) :: R).length = (X ++ p :: R).length := by simp
    rw [e, e2]
    exact owns_block h.row fun b hb => hg.block b (own_lt h.row hb).2 (fun e => own_other h.row hpk (by decide) hb e.symm)
  · intro q hq
    rcases List.mem_append.1 hq with hq | hq
    · exact other (h.kids q (by simp [hq])) (fun k hk' => p3 q hq p (by simp) k hk')
    · rcases List.mem_cons.1 hq with rfl | hq
      · exact hk
      · exact other (h.kids q (by simp [hq])) (fun k hk' e => p2.1 q hq k e hk')
  · rw [List.pairwise_append]
    rw [List.pairwise_cons]
    refine ⟨p1, ⟨p2.1, p2.2⟩, fun a ha b hb => ?_⟩
    rcases List.mem_cons.1 hb with rfl | hb
    · exact p3 a ha p (by simp)
    · exact p3 a ha b (by simp [hb])

theorem split_at (P : List Nv) (i : Nat) (h : i < P.length) : P.drop i = P[i] :: P.drop (i + 1) ∧ P.take (i + 1) = P.take i ++ [P[i]] := by
  refine ⟨?_, ?_⟩
  · rw [← List.getElem_cons_drop h]
  · rw [List.take_succ_eq_append_getElem h]

set_option maxHeartbeats 4000000 in
set_option maxRecDepth 100000 in
theorem markResps (B : Nat) (V : Value) (P : List Nv) (w : World) (h : OwnN w B V P) (hBw : B ≤ w.heap.size) (hn : P.length ≤ 1000) (hk : ∀ p ∈ P, p.1.kids.length ≤ 1000) :
    Calls Tryd.prog 20 #[V, .int .i64 1] w fun e w' => e = .returned (.int .i64 (endK 1 P : Nat)) ∧ OwnN w' B V (mkAll 1 P) ∧ Below B w w' := by
  rcases Joins.ownsRow_forms h.row with ⟨rfl, h0⟩ | ⟨g, c, rfl⟩
  · obtain rfl : P = [] := List.eq_nil_of_length_eq_zero h0
    have HO : Hid _ := h
    clear h hk h0 hn
    go_enter Tryd.func20, Tryd.ntmps20
    go_wp2
    refine wp_loop_rounds 1 ?_
    rw [rounds_succ]
    go_wp2
    go_ret
    exact ⟨rfl, HO.out, Below.refl _ _⟩
  · obtain ⟨n, hnl⟩ : ∃ n, P.length = n := ⟨_, rfl⟩
    have HL : Hid (P.length = n) := hnl
    have HK : Hid (∀ p ∈ P, p.1.kids.length ≤ 1000) := hk
    rw [hnl] at h hn ⊢
    have H0 : Hid (OwnN w B (.slice (some ⟨g, 0, none⟩) n c) (mkAll 1 (P.take 0) ++ P.drop 0)) := by unfold Hid; simpa [mkAll] using h
    have hg : B ≤ g := (own_lt h.row rfl).1
    clear h hk hnl
    go_enter Tryd.func20, Tryd.ntmps20
    go_wp2
    go_loopw [1, 5] (fun m i wr => ∃ (j : Nat), j ≤ n ∧ i = .int .i64 j ∧ m = .int .i64 (endK 1 (P.take j) : Nat) ∧ OwnN wr B (.slice (some ⟨g, 0, none⟩) n c) (mkAll 1 (P.take j) ++ P.drop j) ∧ Below B w wr) (fun _ i _ => n - (intOf i).toNat)
    case atStart => exact ⟨0, by omega, rfl, by simp [endK], H0.out, Below.refl _ _⟩
    case round =>
      obtain ⟨j, hj, rfl, rfl, ho, bk⟩ := hrel
      clear H0
      have sk := bk.size
      by_cases hlt : j < n
      · have hjP : j < P.length := by rw [HL.out]; exact hlt
        obtain ⟨hd, ht⟩ := split_at P j hjP
        obtain ⟨hs1, hs2⟩ := mkAll_snoc (P.take j) 1 P[j]
        have hkj := HK.out P[j] (List.getElem_mem hjP)
        obtain ⟨hk1, hk2⟩ := endK_le (P.take j) 1 1000 (fun p hp => HK.out p (List.mem_of_mem_take hp))
        have hXl : (mkAll 1 (P.take j)).length = j := by rw [mkAll_len, List.length_take]; omega
        have hlen : (mkAll 1 (P.take j) ++ P.drop j).length = n := by rw [List.length_append, hXl, List.length_drop, HL.out]; omega
        have hkb : endK 1 (P.take j) ≤ 1100000 := by
          have : (P.take j).length ≤ 1000 := by rw [List.length_take]; omega
          have : (P.take j).length * (3 + 1000) ≤ 1000 * (3 + 1000) := Nat.mul_le_mul_right _ this
          omega
        rw [hd] at ho hlen
        have HT : Hid (mkAll 1 (P.take (j + 1)) = mkAll 1 (P.take j) ++ [mkN (endK 1 (P.take j)) P[j]]) := by unfold Hid; rw [ht]; exact hs1
        have HE : Hid (endK 1 (P.take (j + 1)) = stepK (endK 1 (P.take j)) P[j]) := by unfold Hid; rw [ht]; exact hs2
        clear hs1 hs2 hd ht
        generalize mkAll 1 (P.take j) = X at *
        generalize endK 1 (P.take j) = k at *
        generalize P[j] = p at *
        obtain ⟨R, hR⟩ : ∃ R, P.drop (j + 1) = R := ⟨_, rfl⟩
        rw [hR] at ho hlen
        have HRR : Hid (P.drop (j + 1) = R) := hR
        clear hR
        obtain ⟨⟨pk, pn, ps, pks⟩, pv⟩ := p
        dsimp only at hkj
        have hfl : (flatN X).length = j * 4 := by rw [flatN_len, hXl]
        have o1 := own_setN ho ⟨k, pn, ps, pks⟩ rfl (j * 4) (.int .i64 k) hlen (by rw [flat_mid, flat_mid]; exact (set_mid _ _ _ _ _ _ _ _ hfl).1)
        have o2 := own_setN o1 ⟨k, (k : Int) + 1, ps, pks⟩ rfl (j * 4 + 1) (.int .i64 ((k : Int) + 1)) (by rw [← hlen]; simp) (by rw [flat_mid, flat_mid]; exact (set_mid _ _ _ _ _ _ _ _ hfl).2.1)
        have cell : ∀ {W : World} {Y : List Nv}, OwnN W B (.slice (some ⟨g, 0, none⟩) n c) Y → Y.length = n → ∃ D, RowAt W g 44 D ∧ n * 4 ≤ D.size ∧ ∀ i u, (flatN Y)[i]? = some u → W.cell? ⟨g, i, none⟩ = some u := fun ho hl => by
          have hr := ho.row
          rw [hl] at hr
          obtain ⟨_, ⟨e, _⟩ | ⟨g', cap, cur, e, q1, q2, q3, q4, q5, q6⟩⟩ := hr
          · cases e
          · injection e with e1 e2 e3
            injection e1 with e1
            injection e1 with e1
            subst e1
            refine ⟨cur, q2, by rw [q5]; exact Nat.mul_le_mul_right _ q3, fun i u hu => own_cells ho.row rfl i u hu⟩
        obtain ⟨D0, r0, z0, f0⟩ := cell ho hlen
        have a0 := f0 (j * 4) _ (by rw [flat_mid, List.getElem?_append_right (by omega), hfl, Nat.sub_self]; rfl)
        have y0 := r0.frozen (j * 4)
        obtain ⟨D1, r1, z1, f1⟩ := cell o1 (by rw [← hlen]; simp)
        have a1 := f1 (j * 4 + 1) _ (by rw [flat_mid, List.getElem?_append_right (by omega), hfl, show j * 4 + 1 - j * 4 = 1 from by omega]; rfl)
        have y1 := r1.frozen (j * 4 + 1)
        have HC := mark_any (k + 2) ((wr.setCell ⟨g, j * 4, none⟩ (.int .i64 k)).setCell ⟨g, j * 4 + 1, none⟩ (.int .i64 ((k : Int) + 1))) (by omega) (by omega)
        have bk2 : Below B w ((wr.setCell ⟨g, j * 4, none⟩ (.int .i64 k)).setCell ⟨g, j * 4 + 1, none⟩ (.int .i64 ((k : Int) + 1))) := (bk.setCell hg _).setCell hg _
        rw [show ((k + 2 : Nat) : Int) = (k : Int) + 1 + 1 from by omega] at HC
        obtain ⟨W2, hW2⟩ : ∃ W2, (wr.setCell ⟨g, j * 4, none⟩ (.int .i64 k)).setCell ⟨g, j * 4 + 1, none⟩ (.int .i64 ((k : Int) + 1)) = W2 := ⟨_, rfl⟩
        rw [hW2] at o2 HC bk2
        have AFT : Hid (∀ w1, Below W2.heap.size W2 w1 → ∃ ka kc, pv = .slice ka pks.length kc ∧ OwnN (w1.setCell ⟨g, j * 4 + 2, none⟩ (.string (markB (k + 2)))) B (.slice (some ⟨g, 0, none⟩) n c) (X ++ ((⟨k, (k : Int) + 1, markB (k + 2), pks⟩ : Nd), pv) :: R) ∧ w1.cell? ⟨g, j * 4 + 2, none⟩ = some (.string ps) ∧ w1.frozen? ⟨g, j * 4 + 2, none⟩ = false ∧ (w1.setCell ⟨g, j * 4 + 2, none⟩ (.string (markB (k + 2)))).cell? ⟨g, j * 4 + 3, none⟩ = some pv) := fun w1 b1 => by
          have o3 := o2.below b1 (Nat.le_refl _)
          have o4 := own_setN o3 ⟨k, (k : Int) + 1, markB (k + 2), pks⟩ rfl (j * 4 + 2) (.string (markB (k + 2))) (by rw [← hlen]; simp) (by rw [flat_mid, flat_mid]; exact (set_mid _ _ _ _ _ _ _ _ hfl).2.2)
          obtain ⟨ka, kc, hf⟩ := own_form (o4.kids ((⟨k, (k : Int) + 1, markB (k + 2), pks⟩ : Nd), pv) (by simp))
          obtain ⟨D3, r3, z3, f3⟩ := cell o3 (by rw [← hlen]; simp)
          obtain ⟨D4, r4, z4', f4⟩ := cell o4 (by rw [← hlen]; simp)
          refine ⟨ka, kc, hf, o4, ?_, r3.frozen _, ?_⟩
          · exact f3 (j * 4 + 2) _ (by rw [flat_mid, List.getElem?_append_right (by omega), hfl, show j * 4 + 2 - j * 4 = 2 from by omega]; rfl)
          · exact f4 (j * 4 + 3) _ (by rw [flat_mid, List.getElem?_append_right (by omega), hfl, show j * 4 + 3 - j * 4 = 3 from by omega]; rfl)
        have HC' : Hid (Calls Tryd.prog 46 #[.int .i64 ((k : Int) + 1 + 1)] W2 fun e w' => e = .returned (.string (markB (k + 2))) ∧ Below W2.heap.size W2 w') := HC
        clear o1 o2 ho r0 r1 f0 f1 cell bk HC
        go_wp2_with fail
        refine HC'.out.mono ?_
        rintro e w1 ⟨rfl, b1⟩
        obtain ⟨ka, kc, rfl, o4, a2, y2, a3⟩ := AFT.out w1 b1
        have bk3 : Below B w (w1.setCell ⟨g, j * 4 + 2, none⟩ (.string (markB (k + 2)))) := (bk2.trans (b1.mono (by have := bk2.size; omega))).setCell hg _
        have hM := markInts B _ _ _ (k + 3) (w1.setCell ⟨g, j * 4 + 2, none⟩ (.string (markB (k + 2)))) (o4.kids ((⟨k, (k : Int) + 1, markB (k + 2), pks⟩ : Nd), .slice ka pks.length kc) (by simp)) (by show pks.length ≤ _; omega) (by omega)
        rw [show ((k + 3 : Nat) : Int) = (k : Int) + 1 + 1 + 1 from by omega] at hM
        have HM : Hid (Calls Tryd.prog 47 #[.slice ka pks.length kc, .int .i64 ((k : Int) + 1 + 1 + 1)] (w1.setCell ⟨g, j * 4 + 2, none⟩ (.string (markB (k + 2)))) fun e w' => e = .returned (.int .i64 ((k + 3 + pks.length : Nat) : Int)) ∧ OwnN w' B (.slice (some ⟨g, 0, none⟩) n c) (X ++ mkN k ((⟨pk, pn, ps, pks⟩ : Nd), .slice ka pks.length kc) :: R) ∧ Below B w w') := hM.mono fun e w' ⟨he, hk5, hg5⟩ => by
          refine ⟨he, own_setK (ks := numsFrom (k + 3) pks.length) o4 (by rw [nums_len]; exact hk5) hg5, ?_⟩
          have hk4 := o4.kids ((⟨k, (k : Int) + 1, markB (k + 2), pks⟩ : Nd), .slice ka pks.length kc) (by simp)
          exact bk3.trans ⟨hg5.os, hg5.tape, hg5.output, hg5.size, fun b hb => hg5.block b (by have := bk3.size; omega) (fun e => by have := (own_lt hk4 e.symm).1; omega)⟩
        clear o4 hM b1 AFT HC'
        generalize markB (k + 2) = mb at *
        go_wp2_with fail
        refine HM.out.mono ?_
        rintro e w5 ⟨rfl, o5, b5⟩
        have OR : Hid (∀ {Z : List Nv}, Z = X ++ mkN k ((⟨pk, pn, ps, pks⟩ : Nd), .slice ka pks.length kc) :: R → OwnN w5 B (.slice (some ⟨g, 0, none⟩) n c) Z) := fun h => by rw [h]; exact o5
        clear o5
        go_wp2
        go_roundw
        case rel =>
          refine ⟨j + 1, by omega, by go_num, ?_, ?_, b5⟩
          · rw [HE.out]; unfold stepK; go_num
          · rw [HT.out, List.append_assoc, HRR.out]; exact OR.out rfl
        case measure => simp [intOf]; omega
      · obtain rfl : j = n := by omega
        have HE : Hid (P.take j = P ∧ P.drop j = []) := by
          unfold Hid
          rw [← HL.out]
          exact ⟨List.take_length, List.drop_length⟩
        rw [HE.out.1, HE.out.2, List.append_nil] at ho
        have HO : Hid _ := ho
        rw [HE.out.1]
        clear ho
        go_wp2
        go_ret
        exact ⟨rfl, HO.out, bk⟩
end Go.Proofs.YtcgeafdakaeicaaDoor
