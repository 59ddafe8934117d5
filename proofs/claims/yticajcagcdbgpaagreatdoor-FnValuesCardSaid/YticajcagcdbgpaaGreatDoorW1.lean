/- The specification's l4Two, l4Texts, l4Pairs. -/
import Derived.Test.YticajcagcdbgpaaGreatDoorV5
namespace Go.Proofs.YticajcagcdbgpaaGreatDoor
open Go.RowKit Go.Sort
open Kk (Rk rk0 texL texR decS scoreB rightB ranksB OwnR flatR encR)

theorem conv_two (w : World) (z y : Int) (h0 : 0 ≤ z) (h1 : z < 256) (h2 : 0 ≤ y) (h3 : y < 256) :
    (convert 22 9 (.slice (some ⟨w.heap.size, 0, none⟩) 2 2)).run Tryz.prog (w.alloc (.cells #[.int .u8 z, .int .u8 y] 5)) = .ok (.string ⟨[UInt8.ofNat z.toNat, UInt8.ofNat y.toNat].toArray⟩) (w.alloc (.cells #[.int .u8 z, .int .u8 y] 5)) := by
  refine run_convert_bytes_back _ 22 9 5 ⟨w.heap.size, 0, none⟩ 2 [UInt8.ofNat z.toNat, UInt8.ofNat y.toNat] Tryz.underlying22 Tryz.underlying5 Tryz.underlying9 ?_
  intro j hj
  have hr := RowAt.new w 5 #[.int .u8 z, .int .u8 y]
  rw [Addr.add_lit, Nat.zero_add]
  match j, hj with
  | 0, _ => rw [hr.cell 0]; simp; omega
  | 1, _ => rw [hr.cell 1]; simp; omega

theorem ofNat_mod (n : Nat) : UInt8.ofNat (n % 256) = UInt8.ofNat n := by
  apply UInt8.toNat_inj.1
  rw [UInt8.toNat_ofNat', UInt8.toNat_ofNat']
  omega

theorem two_text (t : ByteArray) : (⟨[UInt8.ofNat (t.size / 256), UInt8.ofNat t.size].toArray⟩ : ByteArray) ++ t = ⟨(oneT t).toArray⟩ := by
  apply ByteArray.ext
  simp [oneT, twoT, ByteArray.data_append]

set_option maxHeartbeats 1000000 in
theorem l4Two_any (t : ByteArray) (w : World) (ht : t.size ≤ 1048576) : Calls Tryz.prog 20 #[.string t] w fun e w' => e = .returned (.string ⟨(oneT t).toArray⟩) ∧ Below w.heap.size w w' := by
  have HE := two_text t
  have hcv := conv_two w ((t.size : Int) / 256 % 256) ((t.size : Int) % 256) (by omega) (by omega) (by omega) (by omega)
  have hb : ∀ o, Below w.heap.size w (w.alloc o) := fun o => (Below.refl _ w).alloc (Nat.le_refl _) _
  go_enter Tryz.func20, Tryz.ntmps20
  go_wp2
  go_ret
  refine ⟨ret_str ?_, hb _⟩
  rw [← HE, ofNat_mod, ofNat_mod]

set_option maxHeartbeats 2000000 in
theorem l4Texts_any (a : Option Addr) (A n c : Nat) (T : List ByteArray) (w : World) (hl : T.length = n) (ha : 0 < n → a = some ⟨A, 0, none⟩) (hc : ∀ i, i < n → w.cell? ⟨A, i, none⟩ = some (.string (T.getD i ByteArray.empty))) (hn : n ≤ 1048577) :
    Calls Tryz.prog 23 #[.slice a n c] w fun e w' => e = .returned (.bool (itemsB T)) ∧ w' = w := by
  have HA : Hid (0 < n → a = some ⟨A, 0, none⟩) := ha
  have HC : Hid (∀ i, i < n → w.cell? ⟨A, i, none⟩ = some (.string (T.getD i ByteArray.empty))) := hc
  have HE : Hid (itemsB T = (countB n && (List.range n).all (Kk.shortAt T))) := by unfold Hid itemsB; rw [← hl, short_all]
  have HCB : Hid (countB n = (decide (1 ≤ n) && decide (n ≤ 20))) := rfl
  clear ha hc hl
  go_enter Tryz.func23, Tryz.ntmps23
  go_wp2
  go_loopw [3] (fun i wr => ∃ (k : Nat), k ≤ n ∧ i = .int .i64 k ∧ Hid (∀ j, j < k → Kk.shortAt T j = true) ∧ wr = w) (fun i _ => n - (intOf i).toNat)
  case atStart => exact ⟨0, by omega, rfl, fun j hj => by omega, rfl⟩
  case round =>
    obtain ⟨k, hk, rfl, hp, rfl⟩ := hrel
    by_cases hlt : k < n
    · have c0 := HC.out k hlt
      obtain rfl := HA.out (by omega)
      have HS : Hid (Kk.shortAt T k = decide ((T.getD k ByteArray.empty).size ≤ 200)) := rfl
      generalize T.getD k ByteArray.empty = t at *
      by_cases hsz : t.size ≤ 200
      · have gsz : ¬ (200 : Int) < (t.size : Int) := by omega
        have HP2 : Hid (∀ j, j < k + 1 → Kk.shortAt T j = true) := fun j hj => by
          by_cases e : j = k
          · subst e; rw [HS.out, decide_eq_true hsz]
          · exact hp.out j (by omega)
        clear hp HS
        go_wp2
        go_roundw
        case rel => exact ⟨k + 1, by omega, by go_num, HP2, trivial⟩
        case measure => simp [intOf]; omega
      · have gsz : (200 : Int) < (t.size : Int) := by omega
        have HF : Hid (itemsB T = false) := by unfold Hid; rw [HE.out, Kk.all_no hlt (by rw [HS.out, decide_eq_false hsz]), Bool.and_false]
        clear hp HS
        go_wp2
        go_ret
        exact ⟨ret_bool HF.out.symm, rfl⟩
    · obtain rfl : k = n := by omega
      have HT : Hid (itemsB T = (decide (1 ≤ k) && decide (k ≤ 20))) := by unfold Hid; rw [HE.out, Kk.all_yes hp.out, Bool.and_true, HCB.out]
      clear hp HC HA HE HCB
      by_cases h1 : 1 ≤ k
      · have g1 : (1 : Int) ≤ (k : Int) := by omega
        have HT2 : Hid (itemsB T = decide ((k : Int) ≤ 20)) := by unfold Hid; rw [HT.out, decide_eq_true h1, Bool.true_and]; simp; omega
        clear HT h1
        go_wp2
        go_ret
        exact ⟨ret_bool HT2.out.symm, rfl⟩
      · have g1 : ¬ (1 : Int) ≤ (k : Int) := by omega
        have HT2 : Hid (itemsB T = false) := by unfold Hid; rw [HT.out, decide_eq_false h1, Bool.false_and]
        clear HT h1
        go_wp2
        go_ret
        exact ⟨ret_bool HT2.out.symm, rfl⟩

def shP (ps : List Pr) (i : Nat) : Bool := decide ((ps.getD i (bz, bz)).1.size ≤ 200) && decide ((ps.getD i (bz, bz)).2.size ≤ 200)
def okP (ps : List Pr) (i : Nat) : Bool := shP ps i && riP ps i

theorem flat_short : ∀ (ps : List Pr), (flatP ps).all shortB = ps.all fun p => shortB p.1 && shortB p.2
  | [] => rfl
  | p :: ps => by
    have e : flatP (p :: ps) = p.1 :: p.2 :: flatP ps := rfl
    rw [e, List.all_cons, List.all_cons, List.all_cons, flat_short ps, Bool.and_assoc]

theorem pairsB_eq (ps : List Pr) : pairsB ps = (countB ps.length && (List.range ps.length).all (okP ps)) := by
  unfold pairsB
  rw [risePB_eq, flat_short, ← Kk.range_all ps (bz, bz) (fun p => shortB p.1 && shortB p.2)]
  congr 1
  exact (Kk.all_and (n := ps.length) (fun i => shortB (ps.getD i (bz, bz)).1 && shortB (ps.getD i (bz, bz)).2) (riP ps)).symm

set_option maxHeartbeats 4000000 in
set_option maxRecDepth 100000 in
theorem l4Pairs_any (a : Option Addr) (b n c : Nat) (ps : List Pr) (w : World) (h : PairsIn w a b n ps) (hn : n ≤ 1048577) :
    Calls Tryz.prog 24 #[.slice a n c] w fun e w' => e = .returned (.bool (pairsB ps)) ∧ ∃ q, w' = w.drewN q := by
  have H : Hid (PairsIn w a b n ps) := h
  have HE : Hid (pairsB ps = (countB n && (List.range n).all (okP ps))) := by unfold Hid; rw [pairsB_eq, h.len]
  have HCB : Hid (countB n = (decide (1 ≤ n) && decide (n ≤ 20))) := rfl
  clear h
  go_enter Tryz.func24, Tryz.ntmps24
  go_wp2
  go_loopw [3] (fun i wr => ∃ (k q : Nat), k ≤ n ∧ i = .int .i64 k ∧ Hid (∀ j, j < k → okP ps j = true) ∧ wr = w.drewN q) (fun i _ => n - (intOf i).toNat)
  case atStart => exact ⟨0, 0, by omega, rfl, fun j hj => by omega, rfl⟩
  case round =>
    obtain ⟨k, q, hk, rfl, hp, hwq⟩ := hrel
    have HW : Hid (wr = w.drewN q) := hwq
    have HD := H.out.below (show Below w.heap.size w wr by rw [hwq]; exact below_drewN (Below.refl _ _) q)
    clear hwq
    by_cases hlt : k < n
    · have d0 := HD.c0 k hlt
      have d1 := HD.c1 k hlt
      obtain rfl := HD.addr (by omega)
      have HOK : Hid (okP ps k = ((decide ((ps.getD k (bz, bz)).1.size ≤ 200) && decide ((ps.getD k (bz, bz)).2.size ≤ 200)) && riP ps k)) := rfl
      have HNO : Hid (okP ps k = false → pairsB ps = false) := fun hf => by rw [HE.out, Kk.all_no hlt hf, Bool.and_false]
      have HP3 : Hid (okP ps k = true → ∀ j, j < k + 1 → okP ps j = true) := fun ho j hj => by
        by_cases e : j = k
        · subst e; exact ho
        · exact hp.out j (by omega)
      have HRI : Hid (riP ps k = (decide (k = 0) || Op.bytesLess (ps.getD (k - 1) (bz, bz)).1.toList (ps.getD k (bz, bz)).1.toList)) := rfl
      have hk0 : (0 : Int) ≤ (k : Int) := by omega
      have hkn : (k : Int) < (n : Int) := by omega
      have c0 := fun h : 0 < k => HD.c0 (k - 1) (by omega)
      generalize ps.getD (k - 1) (bz, bz) = x at *
      generalize ps.getD k (bz, bz) = y at *
      obtain ⟨xm, xs⟩ := x
      obtain ⟨ym, ys⟩ := y
      dsimp only at d0 d1 c0
      clear HD hp
      by_cases h1 : ym.size ≤ 200
      · have g1 : decide ((200 : Int) < (ym.size : Int)) = false := decide_eq_false (by omega)
        have g1' : decide (200 < ym.size) = false := decide_eq_false (by omega)
        by_cases h2 : ys.size ≤ 200
        · have g2 : decide ((200 : Int) < (ys.size : Int)) = false := decide_eq_false (by omega)
          have g2' : decide (200 < ys.size) = false := decide_eq_false (by omega)
          have HOK2 : Hid (okP ps k = riP ps k) := by unfold Hid; rw [HOK.out]; show (decide (ym.size ≤ 200) && decide (ys.size ≤ 200) && _) = _; rw [decide_eq_true h1, decide_eq_true h2]; rfl
          clear HOK h1 h2
          by_cases hk1 : k = 0
          · have g3 : decide ((0 : Int) < (k : Int)) = false := decide_eq_false (by omega)
            have g3' : decide (0 < k) = false := decide_eq_false (by omega)
            have HY : Hid (∀ j, j < k + 1 → okP ps j = true) := HP3.out (by rw [HOK2.out, HRI.out, decide_eq_true hk1]; rfl)
            clear HOK2 HRI HNO HP3 c0 hk1
            go_wp2
            go_quiet ((fail))
            go_wp2
            go_roundw
            case rel => exact ⟨k + 1, _, by omega, by go_num, HY, by rw [HW.out, World.drewN_drewN]⟩
            case measure => simp [intOf]; omega
          · have g3 : decide ((0 : Int) < (k : Int)) = true := decide_eq_true (by omega)
            have g3' : decide (0 < k) = true := decide_eq_true (by omega)
            have c0' := c0 (by omega)
            have hk3 : (0 : Int) ≤ (k : Int) - 1 := by omega
            have hk4 : (k : Int) - 1 < (n : Int) := by omega
            have htn : ((k : Int) - 1).toNat = k - 1 := by omega
            have hw : IntKind.i64.wrap ((k : Int) - 1) = (k : Int) - 1 := Kk.wrap_small (by omega) (by omega)
            have HRI2 : Hid (riP ps k = Op.bytesLess xm.toList ym.toList) := by unfold Hid; rw [HRI.out, decide_eq_false hk1]; rfl
            clear HRI c0 hk1
            cases hlss : Op.bytesLess xm.toList ym.toList with
            | true =>
              have HY : Hid (∀ j, j < k + 1 → okP ps j = true) := HP3.out (by rw [HOK2.out, HRI2.out, hlss])
              clear HOK2 HRI2 HNO HP3
              go_wp2
              go_quiet ((fail))
              go_wp2
              go_roundw
              case rel => exact ⟨k + 1, _, by omega, by go_num, HY, by rw [HW.out, World.drewN_drewN]⟩
              case measure => simp [intOf]; omega
            | false =>
              have HY : Hid (pairsB ps = false) := HNO.out (by rw [HOK2.out, HRI2.out, hlss])
              clear HOK2 HRI2 HNO HP3
              go_wp2
              go_quiet ((fail))
              go_wp2
              go_ret
              exact ⟨ret_bool HY.out.symm, _, by rw [HW.out, World.drewN_drewN]⟩
        · have g2 : decide ((200 : Int) < (ys.size : Int)) = true := decide_eq_true (by omega)
          have g2' : decide (200 < ys.size) = true := decide_eq_true (by omega)
          have HY : Hid (pairsB ps = false) := HNO.out (by rw [HOK.out]; show (decide (ym.size ≤ 200) && decide (ys.size ≤ 200) && _) = _; rw [decide_eq_false h2, Bool.and_false]; rfl)
          clear HOK HRI HNO HP3 c0 h1 h2
          go_wp2
          go_quiet ((fail))
          go_wp2
          go_ret
          exact ⟨ret_bool HY.out.symm, _, by rw [HW.out, World.drewN_drewN]⟩
      · have g1 : decide ((200 : Int) < (ym.size : Int)) = true := decide_eq_true (by omega)
        have g1' : decide (200 < ym.size) = true := decide_eq_true (by omega)
        have HY : Hid (pairsB ps = false) := HNO.out (by rw [HOK.out]; show (decide (ym.size ≤ 200) && _ && _) = _; rw [decide_eq_false h1]; rfl)
        clear HOK HRI HNO HP3 c0 h1
        go_wp2
        go_quiet ((fail))
        go_wp2
        go_ret
        exact ⟨ret_bool HY.out.symm, _, by rw [HW.out, World.drewN_drewN]⟩
    · obtain rfl : k = n := by omega
      have HT : Hid (pairsB ps = (decide (1 ≤ k) && decide (k ≤ 20))) := by unfold Hid; rw [HE.out, Kk.all_yes hp.out, Bool.and_true, HCB.out]
      clear hp H HE HCB HD
      by_cases h1 : 1 ≤ k
      · have g1 : (1 : Int) ≤ (k : Int) := by omega
        have HT2 : Hid (pairsB ps = decide ((k : Int) ≤ 20)) := by unfold Hid; rw [HT.out, decide_eq_true h1, Bool.true_and]; simp; omega
        clear HT h1
        go_wp2
        go_ret
        exact ⟨ret_bool HT2.out.symm, q, HW.out⟩
      · have g1 : ¬ (1 : Int) ≤ (k : Int) := by omega
        have HT2 : Hid (pairsB ps = false) := by unfold Hid; rw [HT.out, decide_eq_false h1, Bool.false_and]
        clear HT h1
        go_wp2
        go_ret
        exact ⟨ret_bool HT2.out.symm, q, HW.out⟩
end Go.Proofs.YticajcagcdbgpaaGreatDoor
