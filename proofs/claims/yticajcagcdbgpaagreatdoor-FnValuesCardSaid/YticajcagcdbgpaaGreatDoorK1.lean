/- Ranks in memory; what comes ahead of what. -/
import Derived.Test.YticajcagcdbgpaaGreatDoorRows
import Derived.WalkKit
import Derived.WalkSpells
import Derived.WalkLawsBesides
import Derived.Deep.QuietTactic
import Derived.BigQuiet
import Derived.Lib.SmallJoins
namespace Go.Proofs.YticajcagcdbgpaaGreatDoor.Kk
open Go.RowKit Go.Sort

theorem ret_bool {a b : Bool} (h : a = b) : Ending.returned (.bool a) = .returned (.bool b) := by rw [h]
theorem ret_int {a b : Int} (h : a = b) : Ending.returned (.int .i64 a) = .returned (.int .i64 b) := by rw [h]

/-- A member and its score. -/
structure Rk where
  m : ByteArray
  s : Int
def rk0 : Rk := ⟨ByteArray.empty, 0⟩
abbrev rkV (x : Rk) : Value := .agg #[.string x.m, .int .i64 x.s]

theorem in_any (n low high : Int) (w : World) :
    Calls Tryz.prog 38 #[.int .i64 n, .int .i64 low, .int .i64 high] w fun e w' => e = .returned (.bool (decide (low ≤ n) && decide (n ≤ high))) ∧ w' = w := by
  by_cases h1 : low ≤ n
  · rw [decide_eq_true h1, Bool.true_and]
    go_enter Tryz.func38, Tryz.ntmps38
    go_wp2
    go_ret
    exact ⟨rfl, rfl⟩
  · rw [decide_eq_false h1, Bool.false_and]
    go_enter Tryz.func38, Tryz.ntmps38
    go_wp2
    go_ret
    exact ⟨rfl, rfl⟩

theorem number_any (n : Int) (w : World) :
    Calls Tryz.prog 49 #[.int .i64 n] w fun e w' => e = .returned (.bool (decide (-1000000000000000000 ≤ n) && decide (n ≤ 1000000000000000000))) ∧ w' = w := by
  by_cases h1 : (-1000000000000000000 : Int) ≤ n
  · rw [decide_eq_true h1, Bool.true_and]
    go_enter Tryz.func49, Tryz.ntmps49
    go_wp2
    go_ret
    exact ⟨rfl, rfl⟩
  · rw [decide_eq_false h1, Bool.false_and]
    go_enter Tryz.func49, Tryz.ntmps49
    go_wp2
    go_ret
    exact ⟨rfl, rfl⟩

theorem count_any (n : Nat) (w : World) :
    Calls Tryz.prog 96 #[.int .i64 n] w fun e w' => e = .returned (.bool (decide (1 ≤ n) && decide (n ≤ 20))) ∧ w' = w := by
  by_cases h1 : 1 ≤ n
  · have h2 : (1 : Int) ≤ n := by omega
    rw [decide_eq_true h1, Bool.true_and]
    go_enter Tryz.func96, Tryz.ntmps96
    go_wp2
    go_ret
    exact ⟨ret_bool (by simp; omega), rfl⟩
  · have h2 : ¬ (1 : Int) ≤ n := by omega
    rw [decide_eq_false h1, Bool.false_and]
    go_enter Tryz.func96, Tryz.ntmps96
    go_wp2
    go_ret
    exact ⟨rfl, rfl⟩

/-- By their scores, then by their members. -/
def aheadB (x y : Rk) : Bool := decide (x.s < y.s) || (decide (x.s = y.s) && Op.bytesLess x.m.toList y.m.toList)

set_option maxHeartbeats 1000000 in
theorem ahead_any (x y : Rk) (w : World) :
    Calls Tryz.prog 39 #[rkV x, rkV y] w fun e w' => e = .returned (.bool (aheadB x y)) ∧ Below w.heap.size w w' := by
  have HB : Hid (∀ a b : Array Value, Below w.heap.size w ((w.alloc (.cells a 54)).alloc (.cells b 54))) := fun a b => ((Below.refl _ w).alloc (Nat.le_refl _) _).alloc (by simp) _
  obtain ⟨xm, xs⟩ := x
  obtain ⟨ym, ys⟩ := y
  by_cases h1 : xs < ys
  · have HE : Hid (aheadB ⟨xm, xs⟩ ⟨ym, ys⟩ = true) := by unfold Hid aheadB; rw [decide_eq_true h1]; rfl
    go_enter Tryz.func39, Tryz.ntmps39
    go_wp2
    go_ret
    exact ⟨ret_bool HE.out.symm, HB.out _ _⟩
  · by_cases h2 : xs = ys
    · subst h2
      have HE : Hid (aheadB ⟨xm, xs⟩ ⟨ym, xs⟩ = Op.bytesLess xm.toList ym.toList) := by unfold Hid aheadB; rw [decide_eq_false h1, decide_eq_true rfl]; rfl
      clear h1
      go_enter Tryz.func39, Tryz.ntmps39
      go_wp2
      go_ret
      exact ⟨ret_bool HE.out.symm, HB.out _ _⟩
    · have HE : Hid (aheadB ⟨xm, xs⟩ ⟨ym, ys⟩ = false) := by unfold Hid aheadB; rw [decide_eq_false h1, decide_eq_false h2]; rfl
      have h3 : (xs == ys) = false := beq_eq_false_iff_ne.2 h2
      go_enter Tryz.func39, Tryz.ntmps39
      go_wp2
      go_ret
      exact ⟨ret_bool HE.out.symm, HB.out _ _⟩

/-- The two cells of a rank. -/
structure RkAt (w : World) (b o : Nat) (x : Rk) : Prop where
  c0 : w.cell? ⟨b, o, none⟩ = some (.string x.m)
  c1 : w.cell? ⟨b, o + 1, none⟩ = some (.int .i64 x.s)

structure RanksIn (w : World) (a : Option Addr) (b off n : Nat) (L : List Rk) : Prop where
  len : L.length = n
  addr : 0 < n → a = some ⟨b, off, none⟩
  low : 0 < n → b < w.heap.size
  cell : ∀ i, i < n → RkAt w b (off + i * 2) (L.getD i rk0)

theorem rk_below {w w' : World} {b o B : Nat} {x : Rk} (h : RkAt w b o x) (hl : b < B) (hb : Below B w w') : RkAt w' b o x :=
  ⟨(hb.cell (p := ⟨b, o, none⟩) hl).trans h.c0, (hb.cell (p := ⟨b, o + 1, none⟩) hl).trans h.c1⟩

theorem RanksIn.below {w w' : World} {a : Option Addr} {b off n : Nat} {L : List Rk} (h : RanksIn w a b off n L) (hb : Below w.heap.size w w') : RanksIn w' a b off n L :=
  ⟨h.len, h.addr, fun h0 => by have := h.low h0; have := hb.size; omega, fun i hi => rk_below (h.cell i hi) (h.low (by omega)) hb⟩

theorem all_yes {n : Nat} {P : Nat → Bool} (h : ∀ j, j < n → P j = true) : (List.range n).all P = true := by
  rw [List.all_eq_true]
  exact fun j hj => h j (List.mem_range.1 hj)
theorem all_no {n k : Nat} {P : Nat → Bool} (hk : k < n) (h : P k = false) : (List.range n).all P = false := by
  rw [List.all_eq_false]
  exact ⟨k, List.mem_range.2 hk, by rw [h]; simp⟩

def scoreB (x : Rk) : Bool := decide (-1000000000000000000 ≤ x.s) && decide (x.s ≤ 1000000000000000000)
/-- What is asked at each place: the member's length, the score, the order, that the member is new. -/
def buAt (L : List Rk) (i : Nat) : Bool := decide ((L.getD i rk0).m.size ≤ 200)
def scAt (L : List Rk) (i : Nat) : Bool := scoreB (L.getD i rk0)
def riAt (L : List Rk) (i : Nat) : Bool := decide (i = 0) || aheadB (L.getD (i - 1) rk0) (L.getD i rk0)
def frAt (L : List Rk) (i : Nat) : Bool := !((List.range i).any fun k => decide ((L.getD k rk0).m = (L.getD i rk0).m))

set_option maxHeartbeats 1000000 in
set_option maxRecDepth 100000 in
theorem scores_any (a : Option Addr) (b off n c : Nat) (L : List Rk) (w : World) (h : RanksIn w a b off n L) (hn : n ≤ 1048577) :
    Calls Tryz.prog 107 #[.slice a n c] w fun e w' => e = .returned (.bool ((List.range n).all (scAt L))) ∧ Below w.heap.size w w' := by
  have H : Hid (RanksIn w a b off n L) := h
  clear h
  go_enter Tryz.func107, Tryz.ntmps107
  go_wp2
  go_loopw [7] (fun i wr => ∃ (k : Nat), k ≤ n ∧ i = .int .i64 k ∧ Hid (∀ j, j < k → scAt L j = true) ∧ Below w.heap.size w wr) (fun i _ => n - (intOf i).toNat)
  case atStart => exact ⟨0, by omega, rfl, fun j hj => by omega, Below.refl _ _⟩
  case round =>
    obtain ⟨k, hk, rfl, hp, bk⟩ := hrel
    by_cases hlt : k < n
    · have HW := H.out.below bk
      have hx := HW.cell k hlt
      obtain rfl := HW.addr (by omega)
      have c0 := hx.c0
      have c1 := hx.c1
      have HS : Hid (scAt L k = scoreB (L.getD k rk0)) := rfl
      generalize L.getD k rk0 = x at *
      obtain ⟨m, s⟩ := x
      have HN := fun W => number_any s W
      have sk := bk.size
      have b1 : Below w.heap.size w (wr.alloc (.cells #[.string m, .int .i64 s] 54)) := bk.alloc sk _
      clear HW hx
      dsimp only at c0 c1
      go_wp2_with fail
      refine (HN _).mono ?_
      rintro e w1 ⟨rfl, rfl⟩
      clear HN
      have HS2 : Hid (scAt L k = (decide (-1000000000000000000 ≤ s) && decide (s ≤ 1000000000000000000))) := HS.out
      clear HS
      generalize (decide (-1000000000000000000 ≤ s) && decide (s ≤ 1000000000000000000)) = ok at *
      cases ok with
      | true =>
        have HP2 : Hid (∀ j, j < k + 1 → scAt L j = true) := fun j hj => by
          by_cases e : j = k
          · subst e; exact HS2.out
          · exact hp.out j (by omega)
        clear hp
        go_wp2
        go_roundw
        case rel => exact ⟨k + 1, by omega, by go_num, HP2, b1⟩
        case measure => simp [intOf]; omega
      | false =>
        have HF : Hid ((List.range n).all (scAt L) = false) := all_no hlt HS2.out
        clear hp
        go_wp2
        go_ret
        exact ⟨ret_bool HF.out.symm, b1⟩
    · obtain rfl : k = n := by omega
      have HT : Hid ((List.range k).all (scAt L) = true) := all_yes hp.out
      clear hp
      go_wp2
      go_ret
      exact ⟨ret_bool HT.out.symm, bk⟩
end Go.Proofs.YticajcagcdbgpaaGreatDoor.Kk
