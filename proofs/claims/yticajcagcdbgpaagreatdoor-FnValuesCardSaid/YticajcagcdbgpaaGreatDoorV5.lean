/- Whether pairs rise by their names; whether they are right. -/
import Derived.Test.YticajcagcdbgpaaGreatDoorV4
namespace Go.Proofs.YticajcagcdbgpaaGreatDoor
open Go.RowKit Go.Sort
open Kk (Rk rk0 texL texR decS scoreB rightB ranksB OwnR flatR encR)

def cmpP (x y : Pr) : Int := Lib.compareBytes x.1.data.toList y.1.data.toList
abbrev prV (x : Pr) : Value := .agg #[.string x.1, .string x.2]

set_option maxHeartbeats 1000000 in
theorem byName_any (x y : Pr) (w : World) : Calls Tryz.prog 100 #[prV x, prV y] w fun e w' => e = .returned (.int .i64 (cmpP x y)) ∧ Below w.heap.size w w' := by
  obtain ⟨x1, x2⟩ := x
  obtain ⟨y1, y2⟩ := y
  have HC : Hid (∀ W, Calls Tryz.prog 101 #[.string x1, .string y1] W fun e w' => e = .returned (.int .i64 (cmpP (x1, x2) (y1, y2))) ∧ w' = W) := fun W => Kk.cmpS_any x1 y1 W
  generalize cmpP (x1, x2) (y1, y2) = z at *
  have hb : Below w.heap.size w ((w.alloc (.cells #[.string x1, .string x2] 52)).alloc (.cells #[.string y1, .string y2] 52)) := ((Below.refl _ _).alloc (Nat.le_refl _) _).alloc (by simp) _
  go_enter Tryz.func100, Tryz.ntmps100
  go_wp2_with fail
  refine (HC.out _).mono ?_
  rintro e w1 ⟨rfl, rfl⟩
  go_wp2
  go_ret
  exact ⟨rfl, hb⟩

def riP (ps : List Pr) (i : Nat) : Bool := decide (i = 0) || Op.bytesLess (ps.getD (i - 1) (bz, bz)).1.toList (ps.getD i (bz, bz)).1.toList
theorem risePB_eq (ps : List Pr) : risePB ps = (List.range ps.length).all (riP ps) := rfl

theorem cmpP_less (x y : Pr) : decide (cmpP x y < 0) = Op.bytesLess x.1.toList y.1.toList := by
  unfold cmpP
  rw [Kk.cmp_less, ByteArray.toList_eq, ByteArray.toList_eq]

set_option maxHeartbeats 2000000 in
set_option maxRecDepth 100000 in
theorem risesP_any (a : Option Addr) (b n c : Nat) (ps : List Pr) (w : World) (h : PairsIn w a b n ps) (hn : n ≤ 1048577) :
    Calls Tryz.prog 99 #[.slice a n c, .func (.func 100) #[] #[]] w fun e w' => e = .returned (.bool ((List.range n).all (riP ps))) ∧ Below w.heap.size w w' := by
  have H : Hid (PairsIn w a b n ps) := h
  clear h
  go_enter Tryz.func99, Tryz.ntmps99
  go_wp2
  go_loopw [5] (fun i wr => ∃ (k : Nat), 1 ≤ k ∧ (k ≤ n ∨ k = 1) ∧ i = .int .i64 k ∧ Hid (∀ j, j < k → riP ps j = true) ∧ Below w.heap.size w wr) (fun i _ => n - (intOf i).toNat)
  case atStart => exact ⟨1, by omega, .inr rfl, rfl, (fun j hj => by cases (by omega : j = 0); rfl), Below.refl _ _⟩
  case round =>
    obtain ⟨k, hk1, hk, rfl, hp, bk⟩ := hrel
    by_cases hlt : k < n
    · have HW := H.out.below bk
      have c0 := HW.c0 (k - 1) (by omega)
      have c1 := HW.c1 (k - 1) (by omega)
      have d0 := HW.c0 k hlt
      have d1 := HW.c1 k hlt
      obtain rfl := HW.addr (by omega)
      have HS : Hid (riP ps k = decide (cmpP (ps.getD (k - 1) (bz, bz)) (ps.getD k (bz, bz)) < 0)) := by
        unfold Hid
        rw [cmpP_less]
        unfold riP
        rw [decide_eq_false (by omega)]
        rfl
      generalize ps.getD (k - 1) (bz, bz) = x at *
      generalize ps.getD k (bz, bz) = y at *
      have HC : Hid (∀ W, Calls Tryz.prog 100 #[prV x, prV y] W fun e w' => e = .returned (.int .i64 (cmpP x y)) ∧ Below W.heap.size W w') := fun W => byName_any x y W
      generalize cmpP x y = z at *
      obtain ⟨xm, xs⟩ := x
      obtain ⟨ym, ys⟩ := y
      have sk := bk.size
      have hb := HW.low (by omega)
      clear HW
      dsimp only at c0 c1 d0 d1
      have hk2 : (1 : Int) ≤ (k : Int) := by omega
      have hk3 : (0 : Int) ≤ (k : Int) - 1 := by omega
      have hk4 : (k : Int) - 1 < (n : Int) := by omega
      have hk0 : (0 : Int) ≤ (k : Int) := by omega
      have hkn : (k : Int) < (n : Int) := by omega
      have htn : ((k : Int) - 1).toNat = k - 1 := by omega
      have hw : IntKind.i64.wrap ((k : Int) - 1) = (k : Int) - 1 := Kk.wrap_small (by omega) (by omega)
      go_upto_region 4 with fail
      go_region_held3 (fun W => W.cell? ⟨b, (k - 1) * 2, none⟩ = some (.string xm) ∧ W.cell? ⟨b, (k - 1) * 2 + 1, none⟩ = some (.string xs) ∧ W.cell? ⟨b, k * 2, none⟩ = some (.string ym) ∧ W.cell? ⟨b, k * 2 + 1, none⟩ = some (.string ys))
        (first
          | exact ⟨c0, c1, d0, d1⟩
          | exact ⟨(b1.cell (p := ⟨b, _, none⟩) hb).trans c0, (b1.cell (p := ⟨b, _, none⟩) hb).trans c1, (b1.cell (p := ⟨b, _, none⟩) hb).trans d0, (b1.cell (p := ⟨b, _, none⟩) hb).trans d1⟩)
        (first
          | (go_at_call 100
             refine (HC.out _).mono ?_
             rintro e w1 ⟨rfl, b1⟩))
      have b2 : Below w.heap.size w w1 := bk.trans ((Below.trans (below_drewN (Below.refl _ wr) 1) b1).mono sk)
      clear b1 htn hw hk3 hk4 c0 c1 d0 d1 HC hk0
      by_cases hz : z < 0
      · have hd : decide (0 ≤ z) = false := decide_eq_false (by omega)
        have HP2 : Hid (∀ j, j < k + 1 → riP ps j = true) := fun j hj => by
          by_cases e : j = k
          · subst e; rw [HS.out, decide_eq_true hz]
          · exact hp.out j (by omega)
        clear hp HS
        go_wp2
        go_roundw
        case rel => exact ⟨k + 1, by omega, .inl (by omega), by go_num, HP2, b2⟩
        case measure => simp [intOf]; omega
      · have hd : decide (0 ≤ z) = true := decide_eq_true (by omega)
        have HF : Hid ((List.range n).all (riP ps) = false) := Kk.all_no hlt (by rw [HS.out, decide_eq_false hz])
        clear hp HS
        go_wp2
        go_ret
        exact ⟨ret_bool HF.out.symm, b2⟩
    · have HT : Hid ((List.range n).all (riP ps) = true) := Kk.all_yes fun j hj => hp.out j (by omega)
      clear hp
      go_wp2
      go_ret
      exact ⟨ret_bool HT.out.symm, bk⟩

set_option maxHeartbeats 2000000 in
theorem pairs_right (a : Option Addr) (b n c : Nat) (ps : List Pr) (w : World) (h : PairsIn w a b n ps) (hn : n ≤ 500000) :
    Calls Tryz.prog 97 #[.slice a n c] w fun e w' => e = .returned (.bool (pairsB ps)) ∧ Below w.heap.size w w' := by
  have hlen := h.len
  have HC : Hid (Calls Tryz.prog 96 #[.int .i64 n] w fun e w' => e = .returned (.bool (countB n)) ∧ w' = w) := Kk.count_any n w
  have HE : Hid (pairsB ps = (countB n && ((flatP ps).all shortB && (List.range n).all (riP ps)))) := by
    unfold Hid pairsB
    rw [risePB_eq, hlen]
  have HT : Hid (Calls Tryz.prog 98 #[.slice a n c] w fun e w' => ∃ v, e = .returned v ∧ OwnS w' w.heap.size v (flatP ps) ∧ Below w.heap.size w w') := pair_texts a b n c ps w h (by omega)
  have hfl := flatP_len ps
  have HB : Hid (∀ v W, OwnS W w.heap.size v (flatP ps) → Calls Tryz.prog 93 #[v] W fun e w' => e = .returned (.bool ((flatP ps).all shortB)) ∧ w' = W) := fun v W ho => bulks_own ho (by rw [hfl, hlen]; omega)
  have HR : Hid (∀ W, Below w.heap.size w W → Calls Tryz.prog 99 #[.slice a n c, .func (.func 100) #[] #[]] W fun e w' => e = .returned (.bool ((List.range n).all (riP ps))) ∧ Below W.heap.size W w') := fun W hb => risesP_any a b n c ps W (h.below hb) (by omega)
  clear h hfl hlen
  generalize (List.range n).all (riP ps) = o3 at *
  generalize countB n = o1 at *
  generalize (flatP ps).all shortB = o2 at *
  cases o1 with
  | false =>
    have HE2 : Hid (pairsB ps = false) := by unfold Hid; rw [HE.out]; rfl
    go_enter Tryz.func97, Tryz.ntmps97
    go_wp2_with fail
    refine HC.out.mono ?_
    rintro e w1 ⟨rfl, rfl⟩
    go_wp2
    go_ret
    exact ⟨ret_bool HE2.out.symm, Below.refl _ _⟩
  | true =>
    cases o2 with
    | false =>
      have HE2 : Hid (pairsB ps = false) := by unfold Hid; rw [HE.out]; rfl
      go_enter Tryz.func97, Tryz.ntmps97
      go_wp2_with fail
      refine HC.out.mono ?_
      rintro e w1 ⟨rfl, hw⟩
      have hw2 := hw.symm
      subst hw2
      clear hw
      go_wp2_with fail
      refine HT.out.mono ?_
      rintro e w2 ⟨v, rfl, o, b2⟩
      have HB2 : Hid (Calls Tryz.prog 93 #[v] w2 fun e w' => e = .returned (.bool false) ∧ w' = w2) := HB.out v w2 o
      clear o
      go_wp2_with fail
      refine HB2.out.mono ?_
      rintro e w3 ⟨rfl, rfl⟩
      go_wp2
      go_ret
      exact ⟨ret_bool HE2.out.symm, b2⟩
    | true =>
      have HE2 : Hid (pairsB ps = o3) := by unfold Hid; rw [HE.out]; rfl
      go_enter Tryz.func97, Tryz.ntmps97
      go_wp2_with fail
      refine HC.out.mono ?_
      rintro e w1 ⟨rfl, hw⟩
      have hw2 := hw.symm
      subst hw2
      clear hw
      go_wp2_with fail
      refine HT.out.mono ?_
      rintro e w2 ⟨v, rfl, o, b2⟩
      have HB2 : Hid (Calls Tryz.prog 93 #[v] w2 fun e w' => e = .returned (.bool true) ∧ w' = w2) := HB.out v w2 o
      clear o
      go_wp2_with fail
      refine HB2.out.mono ?_
      rintro e w3 ⟨rfl, hw⟩
      have hw2 := hw.symm
      subst hw2
      clear hw
      go_wp2_with fail
      refine (HR.out w2 b2).mono ?_
      rintro e w4 ⟨rfl, b4⟩
      have b04 := b2.trans (b4.mono b2.size)
      go_wp2
      go_ret
      exact ⟨ret_bool HE2.out.symm, b04⟩
end Go.Proofs.YticajcagcdbgpaaGreatDoor
