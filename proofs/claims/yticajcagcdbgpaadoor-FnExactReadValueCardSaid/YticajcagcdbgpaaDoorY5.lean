/- A read value's marks. -/
import Derived.Test.YticajcagcdbgpaaDoorY4
import Derived.Test.YticajcagcdbgpaaDoorV10
namespace Go.Proofs.YticajcagcdbgpaaDoor
open Go.RowKit Go.Sort
open Kk (Rk rk0 texL texR decS scoreB rightB ranksB OwnR flatR encR markB RanksIn mrk marks marks_at marks_len mark_any)

/-- A value of one kind, and small. -/
structure One (v : Vl) : Prop where
  ni : v.items.length ≤ 1000
  np : v.pairs.length ≤ 1000
  nr : v.ranks.length ≤ 1000
  items : ∀ t ∈ v.items, t.size ≤ 1048576
  one : (v.pairs = [] ∧ v.ranks = []) ∨ (v.items = [] ∧ v.ranks = []) ∨ (v.items = [] ∧ v.pairs = [])

theorem one_zero : One vl0 := ⟨by simp [vl0], by simp [vl0], by simp [vl0], by simp [vl0], .inl ⟨rfl, rfl⟩⟩

theorem readC_one (b : UInt8) (ts : List ByteArray) : One (readC b ts).1 := by
  unfold readC
  by_cases b1 : b = 49
  · rw [if_pos b1]
    match ts with
    | [] => exact one_zero
    | [t] =>
      show One (if shortB t = true then _ else _ : Vl × Bool).1
      by_cases h : shortB t = true
      · rw [if_pos h]; exact ⟨by simp, by simp, by simp, by simp, .inl ⟨rfl, rfl⟩⟩
      · rw [if_neg h]; exact one_zero
    | _ :: _ :: _ => exact one_zero
  rw [if_neg b1]
  by_cases b2 : b = 50
  · rw [if_pos b2]
    by_cases h : itemsB ts = true
    · rw [if_pos h]
      obtain ⟨q1, q2⟩ := items_small h
      exact ⟨by show ts.length ≤ _; omega, by simp, by simp, fun t ht => by have := q2 t ht; omega, .inl ⟨rfl, rfl⟩⟩
    · rw [if_neg h]; exact one_zero
  rw [if_neg b2]
  by_cases b3 : b = 51
  · rw [if_pos b3]
    by_cases h : ts.length % 2 = 0 ∧ pairsB (pairUp ts) = true
    · rw [if_pos h]
      obtain ⟨q1, q2⟩ := pairs_small h.2
      exact ⟨by simp, by show (pairUp ts).length ≤ _; omega, by simp, by simp, .inr (.inl ⟨rfl, rfl⟩)⟩
    · rw [if_neg h]; exact one_zero
  rw [if_neg b3]
  by_cases b4 : b = 52
  · rw [if_pos b4]
    cases hd : rankDec ts with
    | none => exact one_zero
    | some rs =>
      show One (if rightB rs = true then _ else _ : Vl × Bool).1
      by_cases h : rightB rs = true
      · rw [if_pos h]
        have h2 : ranksB rs = true := by
          unfold rightB at h
          simp only [Bool.and_eq_true] at h
          exact h.2
        obtain ⟨q1, q2⟩ := ranks_small h2
        exact ⟨by simp, by simp, by show rs.length ≤ _; omega, by simp, .inr (.inr ⟨rfl, rfl⟩)⟩
      · rw [if_neg h]; exact one_zero
  · rw [if_neg b4]; exact one_zero

theorem readI_one (l : List UInt8) : One (readI l).1 := by
  cases l with
  | nil => exact one_zero
  | cons b l =>
    show One (readI1 b (textsM l)).1
    cases hm : textsM l with
    | none => exact one_zero
    | some q =>
      obtain ⟨ts, r⟩ := q
      cases r with
      | nil => exact readC_one b ts
      | cons x r => exact one_zero

/-- The value with its marks. -/
def marked (v : Vl) : Vl := ⟨v.kind, v.text, smarks v.items.length, pmarks v.pairs.length, Kk.marks 1 v.ranks.length⟩
def lastM (v : Vl) : Nat := 1 + v.items.length + 2 * v.pairs.length + 2 * v.ranks.length

theorem markB_size (k : Nat) (h : k ≤ 1048576) : (markB k).size ≤ 1048576 := by
  unfold markB
  rw [size_mk, List.length_cons]
  have := dec_len_le k h
  omega

theorem smarks_fit (n : Nat) (hn : n ≤ 1000) : ∀ t ∈ smarks n, t.size ≤ 1048576 := by
  intro t ht
  unfold smarks at ht
  obtain ⟨i, hi, rfl⟩ := List.mem_map.1 ht
  have := List.mem_range.1 hi
  exact markB_size _ (by omega)

theorem strs_nil (w : World) (a : Option Addr) : StrsIn w a 0 0 0 [] := ⟨rfl, fun h => by omega, fun h => by omega, fun i h => by omega, fun i h => by omega⟩
theorem pairs_nil (w : World) (a : Option Addr) : PairsIn w a 0 0 [] := ⟨rfl, fun h => by omega, fun h => by omega, fun i h => by omega, fun i h => by omega⟩
theorem ranks_nil (w : World) (a : Option Addr) : RanksIn w a 0 0 0 [] := ⟨rfl, fun h => by omega, fun h => by omega, fun i h => by omega⟩

theorem grown_keeps {W W' : World} {o : Option Nat} {g : Nat} {T : TypeId} {C : Array Value} (hg : W.grownBy W' o) (hr : RowAt W g T C) (hne : o ≠ some g) : RowAt W' g T C := (hg.block g hr.lt (fun e => hne e.symm)).trans hr

theorem below_grown2 {B : Nat} {w W W' : World} {o : Option Nat} (hb : Below B w W) (hB : B ≤ W.heap.size) (hg : W.grownBy W' o) (ho : ∀ g, o = some g → B ≤ g) : Below B w W' := hb.grown hg hB ho

/-- Rows from a place on stand. -/
def RowsOn (N : Nat) (w W : World) : Prop := ∀ g T C, N ≤ g → RowAt w g T C → RowAt W g T C

theorem markV_any (v : Vl) (vi vp vr : Value) (B : Nat) (w : World) (h : VOwn w B v vi vp vr) (hB : B ≤ w.heap.size) (h1 : One v) (N : Nat) (u1 : ∀ g, vi.ownBlock = some g → g < N) (u2 : ∀ g, vp.ownBlock = some g → g < N) (u3 : ∀ g, vr.ownBlock = some g → g < N) :
    Calls Tryd.prog 7 #[vlV v.kind v.text vi vp vr, .int .i64 1] w fun e w' => e = .returned (.int .i64 (lastM v : Nat)) ∧ VAt w' (marked v) vi vp vr ∧ Below B w w' ∧ RowsOn N w w' := by
  obtain ⟨n1, n2, n3, hz, hone⟩ := h1
  obtain ⟨a1, c1, e1⟩ := owns_form h.items
  obtain ⟨a2, c2, e2⟩ := owns_form h.pairs
  obtain ⟨a3, c3, e3⟩ := owns_form h.ranks
  have hb0 : ∀ o, Below w.heap.size w (w.alloc o) := fun o => (Below.refl _ w).alloc (Nat.le_refl _) _
  have hl1 : ∀ g, vi.ownBlock = some g → B ≤ g ∧ g < w.heap.size := fun g hg => own_lt h.items hg
  have hl2 : ∀ g, vp.ownBlock = some g → B ≤ g ∧ g < w.heap.size := fun g hg => own_lt h.pairs hg
  have hl3 : ∀ g, vr.ownBlock = some g → B ≤ g ∧ g < w.heap.size := fun g hg => own_lt h.ranks hg
  obtain ⟨S0, hS0⟩ : ∃ S0 : World → Prop, S0 = fun W => VOwn W B v vi vp vr ∧ Below B w W ∧ RowsOn N w W := ⟨_, rfl⟩
  obtain ⟨S1, hS1⟩ : ∃ S1 : World → Prop, S1 = fun W => VAt W (marked v) vi vp vr ∧ Below B w W ∧ RowsOn N w W := ⟨_, rfl⟩
  have hz0 : ∀ o, S0 (w.alloc o) := fun o => by rw [hS0]; exact ⟨h.below (hb0 o), (hb0 o).mono hB, fun g T C _ hr => RowAt.below hr (hb0 o) hr.lt⟩
  have hszB : ∀ W, Below B w W → B ≤ W.heap.size := fun W hb => Nat.le_trans hB hb.size
  rcases hone with ⟨p0, r0⟩ | ⟨i0, r0⟩ | ⟨i0, p0⟩
  · have hw := markV_walk v.kind v.text a1 a2 a3 v.items.length c1 0 c2 0 c3 w ((1 + v.items.length : Nat) : Int) ((1 + v.items.length : Nat) : Int) ((1 + v.items.length : Nat) : Int) S0 S1 S1 S1 (hz0 _)
      (fun W hs hr => by
        rw [hS0] at hs
        have hm := markS_any B vi v.items W hs.1.items (by omega)
        rw [e1] at hm
        refine hm.mono fun e w' ⟨he, ho, hg⟩ => ⟨he, ?_, grown_keeps hg hr (fun e => by rw [← e1] at e; have := (hl1 _ e).2; omega)⟩
        rw [hS1]
        refine ⟨⟨?_, ?_, ?_⟩, below_grown2 hs.2.1 (hszB _ hs.2.1) hg (fun g hg' => by rw [← e1] at hg'; exact (hl1 g hg').1), fun g T C hN hr => grown_keeps hg (hs.2.2 g T C hN hr) (fun e => by rw [← e1] at e; have := u1 _ e; omega)⟩
        · obtain ⟨a, A, c, q1, q2, _, _⟩ := ownS_in ho (smarks_fit _ n1)
          exact ⟨a, A, c, by rw [e1]; exact q1, q2⟩
        · rw [p0] at e2
          exact ⟨a2, 0, c2, by rw [e2]; simp [marked, p0, pmarks], by simp only [marked, p0]; exact pairs_nil _ _⟩
        · rw [r0] at e3
          exact ⟨a3, 0, c3, by rw [e3]; simp [marked, r0, Kk.marks], by simp only [marked, r0]; exact ranks_nil _ _⟩)
      (fun W hs hr => (markP_nil a2 c2 _ W).mono fun e w' ⟨he, hw⟩ => ⟨he, by rw [hw]; exact hs, by rw [hw]; exact hr⟩)
      (fun W hs hr => (markR_nil a3 c3 _ W).mono fun e w' ⟨he, hw⟩ => ⟨he, by rw [hw]; exact hs, by rw [hw]; exact hr⟩)
    rw [e1, e2, e3, p0, r0]
    refine hw.mono fun e w' ⟨he, hs⟩ => ⟨?_, ?_⟩
    · rw [he]; unfold lastM; rw [p0, r0]; simp
    · rw [hS1] at hs
      rw [e1, e2, e3, p0, r0] at hs
      exact hs
  · have hw := markV_walk v.kind v.text a1 a2 a3 0 c1 v.pairs.length c2 0 c3 w 1 ((1 + 2 * v.pairs.length : Nat) : Int) ((1 + 2 * v.pairs.length : Nat) : Int) S0 S0 S1 S1 (hz0 _)
      (fun W hs hr => (markS_nil a1 c1 _ W).mono fun e w' ⟨he, hw⟩ => ⟨he, by rw [hw]; exact hs, by rw [hw]; exact hr⟩)
      (fun W hs hr => by
        rw [hS0] at hs
        have hm := markP_any B vp v.pairs W hs.1.pairs (by omega)
        rw [e2] at hm
        refine hm.mono fun e w' ⟨he, ho, hg⟩ => ⟨he, ?_, grown_keeps hg hr (fun e => by rw [← e2] at e; have := (hl2 _ e).2; omega)⟩
        rw [hS1]
        refine ⟨⟨?_, ?_, ?_⟩, below_grown2 hs.2.1 (hszB _ hs.2.1) hg (fun g hg' => by rw [← e2] at hg'; exact (hl2 g hg').1), fun g T C hN hr => grown_keeps hg (hs.2.2 g T C hN hr) (fun e => by rw [← e2] at e; have := u2 _ e; omega)⟩
        · rw [i0] at e1
          exact ⟨a1, 0, c1, by rw [e1]; simp [marked, i0, smarks], by simp only [marked, i0]; exact strs_nil _ _⟩
        · obtain ⟨a, A, c, q1, q2⟩ := ownP_in ho
          exact ⟨a, A, c, by rw [e2]; exact q1, q2⟩
        · rw [r0] at e3
          exact ⟨a3, 0, c3, by rw [e3]; simp [marked, r0, Kk.marks], by simp only [marked, r0]; exact ranks_nil _ _⟩)
      (fun W hs hr => (markR_nil a3 c3 _ W).mono fun e w' ⟨he, hw⟩ => ⟨he, by rw [hw]; exact hs, by rw [hw]; exact hr⟩)
    rw [e1, e2, e3, i0, r0]
    refine hw.mono fun e w' ⟨he, hs⟩ => ⟨?_, ?_⟩
    · rw [he]; unfold lastM; rw [i0, r0]; simp
    · rw [hS1] at hs
      rw [e1, e2, e3, i0, r0] at hs
      exact hs
  · have hw := markV_walk v.kind v.text a1 a2 a3 0 c1 0 c2 v.ranks.length c3 w 1 1 ((1 + 2 * v.ranks.length : Nat) : Int) S0 S0 S0 S1 (hz0 _)
      (fun W hs hr => (markS_nil a1 c1 _ W).mono fun e w' ⟨he, hw⟩ => ⟨he, by rw [hw]; exact hs, by rw [hw]; exact hr⟩)
      (fun W hs hr => (markP_nil a2 c2 _ W).mono fun e w' ⟨he, hw⟩ => ⟨he, by rw [hw]; exact hs, by rw [hw]; exact hr⟩)
      (fun W hs hr => by
        rw [hS0] at hs
        have hm := Kk.markS_any B vr v.ranks W hs.1.ranks (by omega)
        rw [e3] at hm
        refine hm.mono fun e w' ⟨he, ho, hg⟩ => ⟨he, ?_, grown_keeps hg hr (fun e => by rw [← e3] at e; have := (hl3 _ e).2; omega)⟩
        rw [hS1]
        refine ⟨⟨?_, ?_, ?_⟩, below_grown2 hs.2.1 (hszB _ hs.2.1) hg (fun g hg' => by rw [← e3] at hg'; exact (hl3 g hg').1), fun g T C hN hr => grown_keeps hg (hs.2.2 g T C hN hr) (fun e => by rw [← e3] at e; have := u3 _ e; omega)⟩
        · rw [i0] at e1
          exact ⟨a1, 0, c1, by rw [e1]; simp [marked, i0, smarks], by simp only [marked, i0]; exact strs_nil _ _⟩
        · rw [p0] at e2
          exact ⟨a2, 0, c2, by rw [e2]; simp [marked, p0, pmarks], by simp only [marked, p0]; exact pairs_nil _ _⟩
        · obtain ⟨a, A, c, q1, q2⟩ := Kk.ownR_any ho
          exact ⟨a, A, c, by rw [e3]; exact q1, q2⟩)
    rw [e1, e2, e3, i0, p0]
    refine hw.mono fun e w' ⟨he, hs⟩ => ⟨?_, ?_⟩
    · rw [he]; unfold lastM; rw [i0, p0]; simp
    · rw [hS1] at hs
      rw [e1, e2, e3, i0, p0] at hs
      exact hs

set_option maxHeartbeats 4000000 in
set_option maxRecDepth 100000 in
theorem heldRin (a : Option Addr) (A n c : Nat) (w : World) (hin : RanksIn w a A 0 n (marks 1 n)) (hn : n ≤ 1048577) :
    Calls Tryd.prog 22 #[.slice a n c, .int .i64 1] w fun e w' => e = .returned (.int .i64 (1 + 2 * n : Nat)) ∧ Below w.heap.size w w' := by
  have H : Hid (RanksIn w a A 0 n (marks 1 n)) := hin
  clear hin
  go_enter Tryd.func22, Tryd.ntmps22
  go_wp2
  go_loopw [1, 5] (fun m i wr => ∃ (k : Nat), k ≤ n ∧ i = .int .i64 k ∧ m = .int .i64 (1 + 2 * k : Nat) ∧ Below w.heap.size w wr) (fun _ i _ => n - (intOf i).toNat)
  case atStart => exact ⟨0, by omega, rfl, rfl, Below.refl _ _⟩
  case round =>
    obtain ⟨k, hk, rfl, rfl, bk⟩ := hrel
    have sk := bk.size
    by_cases hlt : k < n
    · have HW := H.out.below bk
      have hx := HW.cell k hlt
      obtain rfl := HW.addr (by omega)
      rw [marks_at 1 n k hlt, Nat.zero_add] at hx
      have cM : ∀ d os, Calls Tryd.prog 32 #[.int .i64 (1 + 2 * k : Nat)] (grow (redrawn wr d) os) fun e w'' => e = .returned (.string (markB (1 + 2 * k))) ∧ ∃ p : Regrown, w'' = grow (redrawn wr p.d) p.os := fun d os => Calls.regrown_of (mark_any (1 + 2 * k) _ (by omega) (by omega))
      have HK : Hid (1 + 2 * (k + 1) = 1 + 2 * k + 2) := by unfold Hid; omega
      generalize hK : 1 + 2 * k = K at *
      have hKb : K ≤ 105000000 := by omega
      have c0 : wr.cell? ⟨A, k * 2, none⟩ = some (.string (markB K)) := by have := hx.c0; unfold mrk at this; rwa [hK] at this
      have c1 : wr.cell? ⟨A, k * 2 + 1, none⟩ = some (.int .i64 ((K : Int) + 1)) := by have := hx.c1; unfold mrk at this; rw [hK] at this; exact this
      have hlow := HW.low (by omega)
      have HKK : Hid (1 + 2 * k = K) := hK
      clear hx HW hK
      have kc0 := cell_regrown c0
      generalize markB K = mk at *
      have hbm : ∀ wq, Below wr.heap.size wr wq → wq.cell? ⟨A, k * 2 + 1, none⟩ = some (.int .i64 ((K : Int) + 1)) := fun wq hb => (hb.cell (p := ⟨A, k * 2 + 1, none⟩) hlow).trans c1
      clear c0 c1
      go_wp2
      refine wp_region_quiet_below (by kernel_rfl) (by kernel_rfl) ?_
      repeat (quiet_step (first | exact cM _ _))
      refine wpQuiet_nil ?_
      intro _ hw'
      obtain ⟨⟨dq, osq⟩, hw''⟩ := hw'
      subst hw''
      have bq := below_regrown wr dq osq
      have c1 := hbm _ bq
      generalize grow (redrawn wr dq) osq = wq at *
      clear kc0 cM hbm
      go_wp2
      go_roundw
      case rel => exact ⟨k + 1, by omega, by go_num, congrArg (Value.int .i64) (by have := HKK.out; omega), bk.trans (bq.mono sk)⟩
      case measure => simp [intOf]; omega
    · obtain rfl : k = n := by omega
      go_wp2
      go_ret
      exact ⟨rfl, bk⟩

theorem heldV_any (v : Vl) (vi vp vr : Value) (w : World) (h : VAt w (marked v) vi vp vr) (h1 : One v) :
    Calls Tryd.prog 8 #[vlV v.kind v.text vi vp vr, .int .i64 1] w fun e w' => e = .returned (.int .i64 (lastM v : Nat)) ∧ Below w.heap.size w w' := by
  obtain ⟨n1, n2, n3, hz, hone⟩ := h1
  obtain ⟨⟨a1, A1, c1, e1, q1⟩, ⟨a2, A2, c2, e2, q2⟩, ⟨a3, A3, c3, e3, q3⟩⟩ := h
  have l1 : (marked v).items.length = v.items.length := smarks_len _
  have l2 : (marked v).pairs.length = v.pairs.length := pmarks_len _
  have l3 : (marked v).ranks.length = v.ranks.length := Kk.marks_len _ _
  rw [l1] at e1 q1
  rw [l2] at e2 q2
  rw [l3] at e3 q3
  rw [e1, e2, e3]
  rcases hone with ⟨p0, r0⟩ | ⟨i0, r0⟩ | ⟨i0, p0⟩
  · have hw := heldV_walk v.kind v.text a1 a2 a3 v.items.length c1 0 c2 0 c3 w ((1 + v.items.length : Nat) : Int) ((1 + v.items.length : Nat) : Int) ((1 + v.items.length : Nat) : Int) (by omega) (by omega) (by omega)
      (fun W hb => heldS_any a1 A1 v.items.length c1 W (strs_below q1 hb) (by omega))
      (fun W hb => (heldP_nil a2 c2 _ W).mono fun e w' ⟨he, hw⟩ => ⟨he, by rw [hw]; exact Below.refl _ _⟩)
      (fun W hb => (heldR_nil a3 c3 _ W).mono fun e w' ⟨he, hw⟩ => ⟨he, by rw [hw]; exact Below.refl _ _⟩)
    unfold lastM
    rw [p0, r0]
    exact hw
  · have hw := heldV_walk v.kind v.text a1 a2 a3 0 c1 v.pairs.length c2 0 c3 w 1 ((1 + 2 * v.pairs.length : Nat) : Int) ((1 + 2 * v.pairs.length : Nat) : Int) (by omega) (by omega) (by omega)
      (fun W hb => (heldS_nil a1 c1 _ W).mono fun e w' ⟨he, hw⟩ => ⟨he, by rw [hw]; exact Below.refl _ _⟩)
      (fun W hb => heldP_any a2 A2 v.pairs.length c2 W (q2.below hb) (by omega))
      (fun W hb => (heldR_nil a3 c3 _ W).mono fun e w' ⟨he, hw⟩ => ⟨he, by rw [hw]; exact Below.refl _ _⟩)
    unfold lastM
    rw [i0, r0]
    exact hw
  · have hw := heldV_walk v.kind v.text a1 a2 a3 0 c1 0 c2 v.ranks.length c3 w 1 1 ((1 + 2 * v.ranks.length : Nat) : Int) (by omega) (by omega) (by omega)
      (fun W hb => (heldS_nil a1 c1 _ W).mono fun e w' ⟨he, hw⟩ => ⟨he, by rw [hw]; exact Below.refl _ _⟩)
      (fun W hb => (heldP_nil a2 c2 _ W).mono fun e w' ⟨he, hw⟩ => ⟨he, by rw [hw]; exact Below.refl _ _⟩)
      (fun W hb => heldRin a3 A3 v.ranks.length c3 W (q3.below hb) (by omega))
    unfold lastM
    rw [i0, p0]
    exact hw
end Go.Proofs.YticajcagcdbgpaaDoor
