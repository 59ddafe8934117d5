/- byScore, and whether ranks rise by it. -/
import Derived.Test.YticajcagcdbgpaaGreatDoorK2
import Derived.Lib.Bytealg
import Derived.Deep.Cut
import Derived.Deep.RegionWith
import Derived.Deep.RegionHeld3
import Derived.Lib.QuietBelow
namespace Go.Proofs.YticajcagcdbgpaaGreatDoor.Kk
open Go.RowKit Go.Sort

theorem cmp_less : ∀ a b : List UInt8, decide (Lib.compareBytes a b < 0) = Op.bytesLess a b
  | [], [] => rfl
  | [], _ :: _ => rfl
  | _ :: _, [] => rfl
  | a :: x, b :: y => by
    unfold Lib.compareBytes Op.bytesLess
    by_cases h1 : a < b
    · rw [if_pos h1, decide_eq_true h1]; rfl
    · rw [if_neg h1, decide_eq_false h1]
      by_cases h2 : b < a
      · have h3 : (a == b) = false := by
          rw [beq_eq_false_iff_ne]
          rintro rfl
          exact h1 h2
        rw [if_pos h2, h3]; rfl
      · have h3 : a = b := by
          apply UInt8.toNat_inj.1
          have h4 : ¬ a.toNat < b.toNat := fun h => h1 (UInt8.lt_iff_toNat_lt.2 h)
          have h5 : ¬ b.toNat < a.toNat := fun h => h2 (UInt8.lt_iff_toNat_lt.2 h)
          omega
        subst h3
        rw [if_neg h2, cmp_less x y]
        simp

theorem cmp_zero : ∀ a b : List UInt8, Lib.compareBytes a b = 0 ↔ a = b
  | [], [] => by simp [Lib.compareBytes]
  | [], _ :: _ => by simp [Lib.compareBytes]
  | _ :: _, [] => by simp [Lib.compareBytes]
  | a :: x, b :: y => by
    unfold Lib.compareBytes
    by_cases h1 : a < b
    · rw [if_pos h1]
      constructor
      · intro h; exact absurd h (by decide)
      · intro h
        obtain ⟨rfl, _⟩ := List.cons.inj h
        exact absurd h1 (by simp)
    · rw [if_neg h1]
      by_cases h2 : b < a
      · rw [if_pos h2]
        constructor
        · intro h; exact absurd h (by decide)
        · intro h
          obtain ⟨rfl, _⟩ := List.cons.inj h
          exact absurd h2 h1
      · have h3 : a = b := by
          apply UInt8.toNat_inj.1
          have h4 : ¬ a.toNat < b.toNat := fun h => h1 (UInt8.lt_iff_toNat_lt.2 h)
          have h5 : ¬ b.toNat < a.toNat := fun h => h2 (UInt8.lt_iff_toNat_lt.2 h)
          omega
        subst h3
        rw [if_neg h2, cmp_zero x y]
        simp

def cmpI (x y : Int) : Int := if x < y then -1 else if y < x then 1 else 0
/-- How byScore tells two ranks apart. -/
def cmpR (x y : Rk) : Int := if cmpI x.s y.s = 0 then Lib.compareBytes x.m.data.toList y.m.data.toList else cmpI x.s y.s

theorem cmpR_less (x y : Rk) : decide (cmpR x y < 0) = aheadB x y := by
  unfold cmpR cmpI aheadB
  by_cases h1 : x.s < y.s
  · rw [if_pos h1, decide_eq_true h1]; rfl
  · rw [if_neg h1, decide_eq_false h1]
    by_cases h2 : y.s < x.s
    · rw [if_pos h2, decide_eq_false (by omega : ¬ x.s = y.s)]; rfl
    · rw [if_neg h2, decide_eq_true (by omega : x.s = y.s)]
      rw [ByteArray.toList_eq, ByteArray.toList_eq, ← cmp_less]
      simp

theorem nan_any (x : Int) (w : World) : Calls Tryz.prog 115 #[.int .i64 x] w fun e w' => e = .returned (.bool false) ∧ w' = w := by
  go_enter Tryz.func115, Tryz.ntmps115
  go_wp2
  go_ret
  exact ⟨ret_bool (by simp), rfl⟩

set_option maxHeartbeats 1000000 in
theorem cmpI_any (x y : Int) (w : World) : Calls Tryz.prog 112 #[.int .i64 x, .int .i64 y] w fun e w' => e = .returned (.int .i64 (cmpI x y)) ∧ w' = w := by
  by_cases h1 : x < y
  · have HE : Hid (cmpI x y = -1) := by unfold Hid cmpI; rw [if_pos h1]
    generalize cmpI x y = z at *
    go_enter Tryz.func112, Tryz.ntmps112
    go_wp2_with (go_at_call 115; refine (nan_any _ _).mono ?_; rintro e w' ⟨rfl, rfl⟩)
    go_ret
    exact ⟨ret_int HE.out.symm, rfl⟩
  · by_cases h2 : y < x
    · have HE : Hid (cmpI x y = 1) := by unfold Hid cmpI; rw [if_neg h1, if_pos h2]
      generalize cmpI x y = z at *
      go_enter Tryz.func112, Tryz.ntmps112
      go_wp2_with (go_at_call 115; refine (nan_any _ _).mono ?_; rintro e w' ⟨rfl, rfl⟩)
      go_ret
      exact ⟨ret_int HE.out.symm, rfl⟩
    · have HE : Hid (cmpI x y = 0) := by unfold Hid cmpI; rw [if_neg h1, if_neg h2]
      generalize cmpI x y = z at *
      go_enter Tryz.func112, Tryz.ntmps112
      go_wp2_with (go_at_call 115; refine (nan_any _ _).mono ?_; rintro e w' ⟨rfl, rfl⟩)
      go_ret
      exact ⟨ret_int HE.out.symm, rfl⟩

set_option maxHeartbeats 1000000 in
set_option maxRecDepth 100000 in
theorem cmpB_any (a b : ByteArray) (w : World) : Calls Tryz.prog 102 #[.string a, .string b] w fun e w' => e = .returned (.int .i64 (Lib.compareBytes a.data.toList b.data.toList)) ∧ w' = w := by
  go_enter Tryz.func102, Tryz.ntmps102
  go_wp2
  rw [run_callFunc_extern Tryz.func103 (by kernel_rfl) (by kernel_rfl) (by kernel_rfl) (e := Extern.BytealgCompare.compare) (by kernel_rfl), Lib.run_compareString]
  simp only [Result.andThen]
  rw [Oper.upon_value]
  go_wp2
  go_ret
  exact ⟨rfl, rfl⟩

theorem cmpS_any (a b : ByteArray) (w : World) : Calls Tryz.prog 101 #[.string a, .string b] w fun e w' => e = .returned (.int .i64 (Lib.compareBytes a.data.toList b.data.toList)) ∧ w' = w := by
  go_enter Tryz.func101, Tryz.ntmps101
  go_wp2_with (go_at_call 102; refine (cmpB_any _ _ _).mono ?_; rintro e w' ⟨rfl, rfl⟩)
  go_ret
  exact ⟨rfl, rfl⟩

set_option maxHeartbeats 1000000 in
theorem or_any (x y : Int) (g : Nat) (w : World) (h0 : w.cell? ⟨g, 0, none⟩ = some (.int .i64 x)) (h1 : w.cell? ⟨g, 1, none⟩ = some (.int .i64 y)) :
    Calls Tryz.prog 111 #[.slice (some ⟨g, 0, none⟩) 2 2] w fun e w' => e = .returned (.int .i64 (if x = 0 then y else x)) ∧ w' = w := by
  have HE : Hid (∀ z, (x = 0 → z = y) → (x ≠ 0 → z = x) → z = (if x = 0 then y else x)) := fun z a b => by
    by_cases h : x = 0
    · rw [if_pos h]; exact a h
    · rw [if_neg h]; exact b h
  generalize (if x = 0 then y else x) = z at *
  go_enter Tryz.func111, Tryz.ntmps111
  go_wp2
  go_loopw [8] (fun i wr => ∃ (k : Nat), k ≤ 2 ∧ i = .int .i64 k ∧ Hid ((1 ≤ k → x = 0) ∧ (2 ≤ k → y = 0)) ∧ wr = w) (fun i _ => 2 - (intOf i).toNat)
  case atStart => exact ⟨0, by omega, rfl, ⟨fun h => by omega, fun h => by omega⟩, rfl⟩
  case round =>
    obtain ⟨k, hk, rfl, hp, rfl⟩ := hrel
    obtain rfl | rfl | rfl : k = 0 ∨ k = 1 ∨ k = 2 := by omega
    · by_cases hx : x = 0
      · subst hx
        clear hp
        go_wp2
        go_roundw
        case rel => exact ⟨0 + 1, by omega, by go_num, ⟨fun _ => trivial, fun h => by omega⟩, trivial⟩
        case measure => simp [intOf]
      · have hne : (x != 0) = true := by simpa using hx
        have HZ : Hid (x = z) := HE.out x (fun h => absurd h hx) (fun _ => rfl)
        clear hp HE
        go_wp2
        go_ret
        exact ⟨ret_int HZ.out, rfl⟩
    · have hx : x = 0 := hp.out.1 (by omega)
      by_cases hy : y = 0
      · have HP : Hid ((1 ≤ 1 + 1 → x = 0) ∧ (2 ≤ 1 + 1 → y = 0)) := ⟨fun _ => hx, fun h => hy⟩
        subst hy
        clear hp hx
        go_wp2
        go_roundw
        case rel => exact ⟨1 + 1, by omega, by go_num, ⟨HP.out.1, fun _ => trivial⟩, trivial⟩
        case measure => simp [intOf]
      · have hne : (y != 0) = true := by simpa using hy
        have HZ : Hid (y = z) := HE.out y (fun _ => rfl) (fun h => absurd hx h)
        clear hp HE hx
        go_wp2
        go_ret
        exact ⟨ret_int HZ.out, rfl⟩
    · have HZ : Hid (0 = z) := HE.out 0 (fun _ => (hp.out.2 (by omega)).symm) (fun h => absurd (hp.out.1 (by omega)) h)
      clear hp HE
      go_wp2
      go_ret
      exact ⟨ret_int HZ.out, rfl⟩


theorem wrap_small {n : Int} (h1 : -9223372036854775808 ≤ n) (h2 : n ≤ 9223372036854775807) : IntKind.i64.wrap n = n := by
  simp [IntKind.wrap, IntKind.signed, IntKind.bits]
  omega

theorem kept {W : World} {a : Addr} {v : Value} {o : Obj} (h : W.cell? a = some v) : (W.drew.alloc o).cell? a = some v :=
  (World.cell?_alloc_some W.drew a o (by show (W.cell? a).isSome = true; rw [h]; rfl)).trans h

set_option maxHeartbeats 2000000 in
set_option maxRecDepth 100000 in
theorem byScore_any (x y : Rk) (w : World) :
    Calls Tryz.prog 109 #[rkV x, rkV y] w fun e w' => e = .returned (.int .i64 (cmpR x y)) ∧ Below w.heap.size w w' := by
  obtain ⟨xm, xs⟩ := x
  obtain ⟨ym, ys⟩ := y
  have HE : Hid (cmpR ⟨xm, xs⟩ ⟨ym, ys⟩ = if cmpI xs ys = 0 then Lib.compareBytes xm.data.toList ym.data.toList else cmpI xs ys) := rfl
  generalize cmpR ⟨xm, xs⟩ ⟨ym, ys⟩ = z at *
  have b0 : Below w.heap.size w ((w.alloc (.cells #[.string xm, .int .i64 xs] 54)).alloc (.cells #[.string ym, .int .i64 ys] 54)) := ((Below.refl _ w).alloc (Nat.le_refl _) _).alloc (by simp) _
  go_enter Tryz.func109, Tryz.ntmps109
  have r0 := (RowAt.new w 54 #[.string xm, .int .i64 xs]).below ((Below.refl _ _).alloc (Nat.le_refl _) (.cells #[.string ym, .int .i64 ys] 54)) (by simp)
  have r1 := RowAt.new (w.alloc (.cells #[.string xm, .int .i64 xs] 54)) 54 #[.string ym, .int .i64 ys]
  simp only [World.size_alloc] at r1
  have s0 := b0.size
  have e0 := r0.cell 0
  have e1 := r0.cell 1
  have d0 := r1.cell 0
  have d1 := r1.cell 1
  simp only [List.getElem?_toArray, List.getElem?_cons_zero, List.getElem?_cons_succ] at e0 e1 d0 d1
  go_wp2_with fail
  generalize (w.alloc (.cells #[.string xm, .int .i64 xs] 54)).alloc (.cells #[.string ym, .int .i64 ys] 54) = W at *
  clear r0 r1
  generalize hc1 : cmpI xs ys = c1 at *
  have HC1 : Hid (cmpI xs ys = c1) := hc1
  generalize hc2 : Lib.compareBytes xm.data.toList ym.data.toList = c2 at *
  have HC2 : Hid (Lib.compareBytes xm.data.toList ym.data.toList = c2) := hc2
  clear hc1 hc2
  have HX : Hid (∀ W, Calls Tryz.prog 112 #[.int .i64 xs, .int .i64 ys] W fun e w' => e = .returned (.int .i64 c1) ∧ w' = W) := fun W => by
    have := cmpI_any xs ys W
    rwa [HC1.out] at this
  have HY : Hid (∀ W, Calls Tryz.prog 101 #[.string xm, .string ym] W fun e w' => e = .returned (.int .i64 c2) ∧ w' = W) := fun W => by
    have := cmpS_any xm ym W
    rwa [HC2.out] at this
  have HO : Hid (∀ g W, W.cell? ⟨g, 0, none⟩ = some (.int .i64 c1) → W.cell? ⟨g, 1, none⟩ = some (.int .i64 c2) → Calls Tryz.prog 111 #[.slice (some ⟨g, 0, none⟩) 2 2] W fun e w' => e = .returned (.int .i64 z) ∧ w' = W) := fun g W h0 h1 => by
    have := or_any c1 c2 g W h0 h1
    rwa [← HE.out] at this
  have kp : Hid (∀ o, (W.drew.alloc o).cell? ⟨w.heap.size, 0, none⟩ = some (.string xm) ∧ (W.drew.alloc o).cell? ⟨w.heap.size, 1, none⟩ = some (.int .i64 xs) ∧ (W.drew.alloc o).cell? ⟨w.heap.size + 1, 0, none⟩ = some (.string ym) ∧ (W.drew.alloc o).cell? ⟨w.heap.size + 1, 1, none⟩ = some (.int .i64 ys)) := fun o => ⟨kept e0, kept e1, kept d0, kept d1⟩
  go_region_held3 (fun W' => W'.cell? ⟨w.heap.size, 0, none⟩ = some (.string xm) ∧ W'.cell? ⟨w.heap.size, 1, none⟩ = some (.int .i64 xs) ∧ W'.cell? ⟨w.heap.size + 1, 0, none⟩ = some (.string ym) ∧ W'.cell? ⟨w.heap.size + 1, 1, none⟩ = some (.int .i64 ys))
    (first
      | exact ⟨e0, e1, d0, d1⟩
      | exact kp.out _)
    (first
      | (go_at_call 112
         refine (HX.out _).mono ?_
         rintro e w' ⟨rfl, rfl⟩)
      | (go_at_call 101
         refine (HY.out _).mono ?_
         rintro e w' ⟨rfl, rfl⟩)
      | (go_at_call 111
         refine (HO.out _ _ ((RowAt.new _ _ _).cell 0) ((RowAt.new _ _ _).cell 1)).mono ?_
         rintro e w' ⟨rfl, rfl⟩))
  all_goals
    go_wp2
    go_ret
    exact ⟨rfl, (below_drewN b0 1).alloc s0 _⟩

set_option maxHeartbeats 2000000 in
set_option maxRecDepth 100000 in
theorem rises_any (a : Option Addr) (b off n c : Nat) (L : List Rk) (w : World) (h : RanksIn w a b off n L) (hn : n ≤ 1048577) :
    Calls Tryz.prog 108 #[.slice a n c, .func (.func 109) #[] #[]] w fun e w' => e = .returned (.bool ((List.range n).all (riAt L))) ∧ Below w.heap.size w w' := by
  have H : Hid (RanksIn w a b off n L) := h
  clear h
  go_enter Tryz.func108, Tryz.ntmps108
  go_wp2
  go_loopw [5] (fun i wr => ∃ (k : Nat), 1 ≤ k ∧ (k ≤ n ∨ k = 1) ∧ i = .int .i64 k ∧ Hid (∀ j, j < k → riAt L j = true) ∧ Below w.heap.size w wr) (fun i _ => n - (intOf i).toNat)
  case atStart => exact ⟨1, by omega, .inr rfl, rfl, (fun j hj => by cases (by omega : j = 0); rfl), Below.refl _ _⟩
  case round =>
    obtain ⟨k, hk1, hk, rfl, hp, bk⟩ := hrel
    by_cases hlt : k < n
    · have HW := H.out.below bk
      have hx := HW.cell (k - 1) (by omega)
      have hy := HW.cell k hlt
      obtain rfl := HW.addr (by omega)
      have HS : Hid (riAt L k = decide (cmpR (L.getD (k - 1) rk0) (L.getD k rk0) < 0)) := by
        unfold Hid
        rw [cmpR_less]
        unfold riAt
        rw [decide_eq_false (by omega)]
        rfl
      have c0 := hx.c0
      have c1 := hx.c1
      have d0 := hy.c0
      have d1 := hy.c1
      generalize L.getD (k - 1) rk0 = x at *
      generalize L.getD k rk0 = y at *
      have HC : Hid (∀ W, Calls Tryz.prog 109 #[rkV x, rkV y] W fun e w' => e = .returned (.int .i64 (cmpR x y)) ∧ Below W.heap.size W w') := fun W => byScore_any x y W
      generalize cmpR x y = z at *
      obtain ⟨xm, xs⟩ := x
      obtain ⟨ym, ys⟩ := y
      have sk := bk.size
      have hb := HW.low (by omega)
      clear HW hx hy
      dsimp only at c0 c1 d0 d1
      have hk2 : (1 : Int) ≤ (k : Int) := by omega
      have hk3 : (0 : Int) ≤ (k : Int) - 1 := by omega
      have hk4 : (k : Int) - 1 < (n : Int) := by omega
      have hk0 : (0 : Int) ≤ (k : Int) := by omega
      have hkn : (k : Int) < (n : Int) := by omega
      have htn : ((k : Int) - 1).toNat = k - 1 := by omega
      have hw : IntKind.i64.wrap ((k : Int) - 1) = (k : Int) - 1 := wrap_small (by omega) (by omega)
      go_upto_region 4 with fail
      go_region_held3 (fun W => W.cell? ⟨b, off + (k - 1) * 2, none⟩ = some (.string xm) ∧ W.cell? ⟨b, off + (k - 1) * 2 + 1, none⟩ = some (.int .i64 xs) ∧ W.cell? ⟨b, off + k * 2, none⟩ = some (.string ym) ∧ W.cell? ⟨b, off + k * 2 + 1, none⟩ = some (.int .i64 ys))
        (first
          | exact ⟨c0, c1, d0, d1⟩
          | exact ⟨(b1.cell (p := ⟨b, _, none⟩) hb).trans c0, (b1.cell (p := ⟨b, _, none⟩) hb).trans c1, (b1.cell (p := ⟨b, _, none⟩) hb).trans d0, (b1.cell (p := ⟨b, _, none⟩) hb).trans d1⟩)
        (first
          | (go_at_call 109
             refine (HC.out _).mono ?_
             rintro e w1 ⟨rfl, b1⟩))
      have b2 : Below w.heap.size w w1 := bk.trans ((Below.trans (below_drewN (Below.refl _ wr) 1) b1).mono sk)
      clear b1 htn hw hk3 hk4 c0 c1 d0 d1 HC hk0
      by_cases hz : z < 0
      · have hd : decide (0 ≤ z) = false := decide_eq_false (by omega)
        have HP2 : Hid (∀ j, j < k + 1 → riAt L j = true) := fun j hj => by
          by_cases e : j = k
          · subst e; rw [HS.out, decide_eq_true hz]
          · exact hp.out j (by omega)
        clear hp HS
        go_wp2
        go_roundw
        case rel => exact ⟨k + 1, by omega, .inl (by omega), by go_num, HP2, b2⟩
        case measure => simp [intOf]; omega
      · have hd : decide (0 ≤ z) = true := decide_eq_true (by omega)
        have HF : Hid ((List.range n).all (riAt L) = false) := all_no hlt (by rw [HS.out, decide_eq_false hz])
        clear hp HS
        go_wp2
        go_ret
        exact ⟨ret_bool HF.out.symm, b2⟩
    · have HT : Hid ((List.range n).all (riAt L) = true) := all_yes fun j hj => hp.out j (by omega)
      clear hp
      go_wp2
      go_ret
      exact ⟨ret_bool HT.out.symm, bk⟩
end Go.Proofs.YticajcagcdbgpaaGreatDoor.Kk
