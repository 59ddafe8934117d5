/- A read value's marks. -/
import Derived.Test.YtapdoechmnjaeaaGreatDoorY4
import Derived.Test.YtapdoechmnjaeaaGreatDoorVc
namespace Go.Proofs.YtapdoechmnjaeaaGreatDoor
open Go.RowKit Go.Sort
open Kk (Rk rk0 texL texR decS scoreB rightB ranksB OwnR flatR encR markB RanksIn mrk marks marks_at marks_len mark_any)

/-- A value of one kind, and small. -/
structure One (v : Vl) : Prop where
  ni : v.items.length ≤ 1000
  np : v.pairs.length ≤ 1000
  nr : v.ranks.length ≤ 1000
  items : ∀ t ∈ v.items, t.size ≤ 1048576
  one : (v.pairs = [] ∧ v.ranks = []) ∨ (v.items = [] ∧ v.ranks = []) ∨ (v.items = [] ∧ v.pairs = [])

theorem one_zero : One vl0 := ⟨by simp [vl0], by simp [vl0], by simp [vl0], by simp [vl0], .inl ⟨rfl, rfl⟩⟩

theorem readC_one (b : UInt8) (ts : List ByteArray) : One (readC b ts).1 := by
  unfold readC
  by_cases b1 : b = 49
  · rw [if_pos b1]
    match ts with
    | [] => exact one_zero
    | [t] =>
      show One (if shortB t = true then _ else _ : Vl × Bool).1
      by_cases h : shortB t = true
      · rw [if_pos h]; exact ⟨by simp, by simp, by simp, by simp, .inl ⟨rfl, rfl⟩⟩
      · rw [if_neg h]; exact one_zero
    | _ :: _ :: _ => exact one_zero
  rw [if_neg b1]
  by_cases b2 : b = 50
  · rw [if_pos b2]
    by_cases h : itemsB ts = true
    · rw [if_pos h]
      obtain ⟨q1, q2⟩ := items_small h
      exact ⟨by show ts.length ≤ _; omega, by simp, by simp, fun t ht => by have := q2 t ht; omega, .inl ⟨rfl, rfl⟩⟩
    · rw [if_neg h]; exact one_zero
  rw [if_neg b2]
  by_cases b3 : b = 51
  · rw [if_pos b3]
    by_cases h : ts.length % 2 = 0 ∧ pairsB (pairUp ts) = true
    · rw [if_pos h]
      obtain ⟨q1, q2⟩ := pairs_small h.2
      exact ⟨by simp, by show (pairUp ts).length ≤ _; omega, by simp, by simp, .inr (.inl ⟨rfl, rfl⟩)⟩
    · rw [if_neg h]; exact one_zero
  rw [if_neg b3]
  by_cases b4 : b = 52
  · rw [if_pos b4]
    cases hd : rankDec ts with
    | none => exact one_zero
    | some rs =>
      show One (if rightB rs = true then _ else _ : Vl × Bool).1
      by_cases h : rightB rs = true
      · rw [if_pos h]
        have h2 : ranksB rs = true := by
          unfold rightB at h
          simp only [Bool.and_eq_true] at h
          exact h.2
        obtain ⟨q1, q2⟩ := ranks_small h2
        exact ⟨by simp, by simp, by show rs.length ≤ _; omega, by simp, .inr (.inr ⟨rfl, rfl⟩)⟩
      · rw [if_neg h]; exact one_zero
  · rw [if_neg b4]; exact one_zero

theorem readI_one (l : List UInt8) : One (readI l).1 := by
  cases l with
  | nil => exact one_zero
  | cons b l =>
    show One (readI1 b (textsM l)).1
    cases hm : textsM l with
    | none => exact one_zero
    | some q =>
      obtain ⟨ts, r⟩ := q
      cases r with
      | nil => exact readC_one b ts
      | cons x r => exact one_zero

/-- The value with its marks. -/
def marked (v : Vl) : Vl := ⟨v.kind, v.text, smarks v.items.length, pmarks v.pairs.length, Kk.marks 1 v.ranks.length⟩
def lastM (v : Vl) : Nat := 1 + v.items.length + 2 * v.pairs.length + 2 * v.ranks.length

theorem markB_size (k : Nat) (h : k ≤ 1048576) : (markB k).size ≤ 1048576 := by
  unfold markB
  rw [size_mk, List.length_cons]
  have := dec_len_le k h
  omega

theorem smarks_fit (n : Nat) (hn : n ≤ 1000) : ∀ t ∈ smarks n, t.size ≤ 1048576 := by
  intro t ht
  unfold smarks at ht
  obtain ⟨i, hi, rfl⟩ := List.mem_map.1 ht
  have := List.mem_range.1 hi
  exact markB_size _ (by omega)

theorem strs_nil (w : World) (a : Option Addr) : StrsIn w a 0 0 0 [] := ⟨rfl, fun h => by omega, fun h => by omega, fun i h => by omega, fun i h => by omega⟩
theorem pairs_nil (w : World) (a : Option Addr) : PairsIn w a 0 0 [] := ⟨rfl, fun h => by omega, fun h => by omega, fun i h => by omega, fun i h => by omega⟩
theorem ranks_nil (w : World) (a : Option Addr) : RanksIn w a 0 0 0 [] := ⟨rfl, fun h => by omega, fun h => by omega, fun i h => by omega⟩

theorem grown_keeps {W W' : World} {o : Option Nat} {g : Nat} {T : TypeId} {C : Array Value} (hg : W.grownBy W' o) (hr : RowAt W g T C) (hne : o ≠ some g) : RowAt W' g T C := (hg.block g hr.lt (fun e => hne e.symm)).trans hr

theorem below_grown2 {B : Nat} {w W W' : World} {o : Option Nat} (hb : Below B w W) (hB : B ≤ W.heap.size) (hg : W.grownBy W' o) (ho : ∀ g, o = some g → B ≤ g) : Below B w W' := hb.grown hg hB ho

/-- Rows from a place on stand. -/
def RowsOn (N : Nat) (w W : World) : Prop := ∀ g T C, N ≤ g → RowAt w g T C → RowAt W g T C

set_option maxHeartbeats 4000000 in
set_option maxRecDepth 100000 in
theorem heldRin (a : Option Addr) (A n c : Nat) (w : World) (hin : RanksIn w a A 0 n (marks 1 n)) (hn : n ≤ 1048577) :
    Calls Tryz.prog 62 #[.slice a n c, .int .i64 1] w fun e w' => e = .returned (.int .i64 (1 + 2 * n : Nat)) ∧ Below w.heap.size w w' := by
  have H : Hid (RanksIn w a A 0 n (marks 1 n)) := hin
  clear hin
  go_enter Tryz.func62, Tryz.ntmps62
  go_wp2
  go_loopw [1, 5] (fun m i wr => ∃ (k : Nat), k ≤ n ∧ i = .int .i64 k ∧ m = .int .i64 (1 + 2 * k : Nat) ∧ Below w.heap.size w wr) (fun _ i _ => n - (intOf i).toNat)
  case atStart => exact ⟨0, by omega, rfl, rfl, Below.refl _ _⟩
  case round =>
    obtain ⟨k, hk, rfl, rfl, bk⟩ := hrel
    have sk := bk.size
    by_cases hlt : k < n
    · have HW := H.out.below bk
      have hx := HW.cell k hlt
      obtain rfl := HW.addr (by omega)
      rw [marks_at 1 n k hlt, Nat.zero_add] at hx
      have cM : ∀ d os, Calls Tryz.prog 56 #[.int .i64 (1 + 2 * k : Nat)] (grow (redrawn wr d) os) fun e w'' => e = .returned (.string (markB (1 + 2 * k))) ∧ ∃ p : Regrown, w'' = grow (redrawn wr p.d) p.os := fun d os => Calls.regrown_of (mark_any (1 + 2 * k) _ (by omega) (by omega))
      have HK : Hid (1 + 2 * (k + 1) = 1 + 2 * k + 2) := by unfold Hid; omega
      generalize hK : 1 + 2 * k = K at *
      have hKb : K ≤ 105000000 := by omega
      have c0 : wr.cell? ⟨A, k * 2, none⟩ = some (.string (markB K)) := by have := hx.c0; unfold mrk at this; rwa [hK] at this
      have c1 : wr.cell? ⟨A, k * 2 + 1, none⟩ = some (.int .i64 ((K : Int) + 1)) := by have := hx.c1; unfold mrk at this; rw [hK] at this; exact this
      have hlow := HW.low (by omega)
      have HKK : Hid (1 + 2 * k = K) := hK
      clear hx HW hK
      have kc0 := cell_regrown c0
      generalize markB K = mk at *
      have hbm : ∀ wq, Below wr.heap.size wr wq → wq.cell? ⟨A, k * 2 + 1, none⟩ = some (.int .i64 ((K : Int) + 1)) := fun wq hb => (hb.cell (p := ⟨A, k * 2 + 1, none⟩) hlow).trans c1
      clear c0 c1
      go_wp2
      refine wp_region_quiet_below (by kernel_rfl) (by kernel_rfl) ?_
      repeat (quiet_step (first | exact cM _ _))
      refine wpQuiet_nil ?_
      intro _ hw'
      obtain ⟨⟨dq, osq⟩, hw''⟩ := hw'
      subst hw''
      have bq := below_regrown wr dq osq
      have c1 := hbm _ bq
      generalize grow (redrawn wr dq) osq = wq at *
      clear kc0 cM hbm
      go_wp2
      go_roundw
      case rel => exact ⟨k + 1, by omega, by go_num, congrArg (Value.int .i64) (by have := HKK.out; omega), bk.trans (bq.mono sk)⟩
      case measure => simp [intOf]; omega
    · obtain rfl : k = n := by omega
      go_wp2
      go_ret
      exact ⟨rfl, bk⟩

end Go.Proofs.YtapdoechmnjaeaaGreatDoor

