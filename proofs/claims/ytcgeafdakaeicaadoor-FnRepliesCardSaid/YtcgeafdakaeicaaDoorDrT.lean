/- Numbers and short texts that are drawn. -/
import Derived.Test.YtcgeafdakaeicaaDoorDraw
import Derived.OpenShut
namespace Go.Proofs.YtcgeafdakaeicaaDoor
open Go.RowKit

def StrEnd (w : World) (rb : Nat) (a : Option Addr) (n c : Nat) (e : Ending) (w' : World) : Prop :=
  ∃ s : ByteArray, e = .returned (.string s) ∧ s.size ≤ 20 ∧ Rd w' rb a n c ∧ w.grownBy w' (some rb)

theorem row_read {W W' : World} {rb q : Nat} {T : TypeId} {C : Array Value} (h : RowAt W q T C) (g : W.grownBy W' (some rb)) (hq : q ≠ rb) : RowAt W' q T C := (g.block q h.lt (fun e => hq (Option.some.inj e))).trans h

def SmallC (C : Array Value) : Prop := ∀ j, j < C.size → ∃ s : ByteArray, C[j]? = some (.string s) ∧ s.size ≤ 20

def smallL (l : List ByteArray) : Bool := l.all fun s => decide (s.size ≤ 20)

theorem small_of (l : List ByteArray) (h : smallL l = true) : SmallC (l.map Value.string).toArray := fun j hj => by
  have hj' : j < l.length := by simpa using hj
  refine ⟨l[j], ?_, ?_⟩
  · simp [hj']
  · exact of_decide_eq_true (List.all_eq_true.1 h _ (List.getElem_mem hj'))

theorem pick_cell {w : World} {B : Nat} {C : Array Value} (h : RowAt w B 9 C) (hC : SmallC C) (j : Nat) (hj : j < C.size) : ∃ s : ByteArray, w.cell? ⟨B, j, none⟩ = some (.string s) ∧ s.size ≤ 20 := by
  obtain ⟨s, h1, h2⟩ := hC j hj
  exact ⟨s, (h.cell j).trans h1, h2⟩


set_option maxHeartbeats 1000000 in
theorem text_any (rb : Nat) (a : Option Addr) (n c : Nat) (w : World) (h : Rd w rb a n c) (hrb : rb < w.heap.size) :
    Calls Tryd.prog 62 #[.pointer (some ⟨rb, 0, none⟩)] w (StrEnd w rb a n c) := by
  have hl := RowAt.new w 9 #[.string ⟨#[97]⟩, .string ⟨#[98]⟩, .string ⟨#[]⟩, .string ⟨#[49, 48]⟩, .string ⟨#[97, 98, 99]⟩, .string ⟨#[120, 32, 121]⟩, .string ⟨#[45, 55]⟩, .string ⟨#[13, 10]⟩]
  have hb : Below w.heap.size w (w.alloc (.cells #[.string ⟨#[97]⟩, .string ⟨#[98]⟩, .string ⟨#[]⟩, .string ⟨#[49, 48]⟩, .string ⟨#[97, 98, 99]⟩, .string ⟨#[120, 32, 121]⟩, .string ⟨#[45, 55]⟩, .string ⟨#[13, 10]⟩] 9)) := (Below.refl _ w).alloc (Nat.le_refl _) _
  have hs : SmallC #[.string ⟨#[97]⟩, .string ⟨#[98]⟩, .string ⟨#[]⟩, .string ⟨#[49, 48]⟩, .string ⟨#[97, 98, 99]⟩, .string ⟨#[120, 32, 121]⟩, .string ⟨#[45, 55]⟩, .string ⟨#[13, 10]⟩] := small_of [⟨#[97]⟩, ⟨#[98]⟩, ⟨#[]⟩, ⟨#[49, 48]⟩, ⟨#[97, 98, 99]⟩, ⟨#[120, 32, 121]⟩, ⟨#[45, 55]⟩, ⟨#[13, 10]⟩] (by decide)
  go_enter Tryd.func62, Tryd.ntmps62
  go_wp2_with fail
  generalize w.alloc (.cells #[.string ⟨#[97]⟩, .string ⟨#[98]⟩, .string ⟨#[]⟩, .string ⟨#[49, 48]⟩, .string ⟨#[97, 98, 99]⟩, .string ⟨#[120, 32, 121]⟩, .string ⟨#[45, 55]⟩, .string ⟨#[13, 10]⟩] 9) = w1 at *
  refine (pick_any rb a n c 8 w1 (h.below hb hrb) (by omega) (by omega)).mono ?_
  rintro e w2 ⟨j, rfl, hj, r2, g2⟩
  have gg := grown_trans (grown_below (grown_refl w _) hb) g2
  obtain ⟨s, hc, hz⟩ := pick_cell (row_read hl g2 (by omega)) hs j (by simpa using hj)
  have j0 : (0 : Int) ≤ (j : Int) := by omega
  have j1 : (j : Int) < 8 := by omega
  clear hl hb hs g2
  go_wp2
  go_ret
  exact ⟨s, rfl, hz, r2, gg⟩


theorem grown_lt {w w' : World} {rb k : Nat} (h : k < w.heap.size) (g : w.grownBy w' (some rb)) : k < w'.heap.size := by have := g.size; omega

theorem grown_keep {w w' : World} {rb : Nat} (g : w.grownBy w' (some rb)) {B : Nat} (h : B ≤ rb) (hB : B ≤ w.heap.size) : Below B w w' :=
  ⟨g.os, g.tape, g.output, g.size, fun k hk => g.block k (by omega) fun e => by have := Option.some.inj e; omega⟩

set_option maxHeartbeats 1000000 in
theorem once_any (rb : Nat) (a : Option Addr) (n c k : Nat) (w : World) (h : Rd w rb a n c) (h0 : 0 < k) (hk : k ≤ 65536) :
    Calls Tryd.prog 39 #[.pointer (some ⟨rb, 0, none⟩), .int .i64 k] w fun e w' => ∃ b : Bool, e = .returned (.bool b) ∧ Rd w' rb a n c ∧ w.grownBy w' (some rb) := by
  go_enter Tryd.func39, Tryd.ntmps39
  go_wp2_with fail
  refine (pick_any rb a n c k w h h0 hk).mono ?_
  rintro e w1 ⟨j, rfl, hj, r1, g1⟩
  go_wp2
  go_ret
  exact ⟨_, rfl, r1, g1⟩

/-- A word: eight bytes. -/
theorem or_range (x y : Int) : 0 ≤ bits BinOp.or IntKind.u64 x y ∧ bits BinOp.or IntKind.u64 x y ≤ 18446744073709551615 :=
  bounds_u64 (wf_bits BinOp.or IntKind.u64 x y)

set_option maxHeartbeats 1000000 in
theorem word_any (rb : Nat) (a : Option Addr) (n c : Nat) (w : World) (h : Rd w rb a n c) :
    Calls Tryd.prog 83 #[.pointer (some ⟨rb, 0, none⟩)] w fun e w' => ∃ x : Int, e = .returned (.int .u64 x) ∧ 0 ≤ x ∧ x ≤ 18446744073709551615 ∧ Rd w' rb a n c ∧ w.grownBy w' (some rb) := by
  go_enter Tryd.func83, Tryd.ntmps83
  go_wp2
  go_loopw [3, 4] (fun v i wr => ∃ (k : Nat) (x : Int), k ≤ 8 ∧ i = .int .i64 k ∧ v = .int .u64 x ∧ 0 ≤ x ∧ x ≤ 18446744073709551615 ∧ Rd wr rb a n c ∧ w.grownBy wr (some rb)) (fun _ i _ => 8 - (intOf i).toNat)
  case atStart => exact ⟨0, 0, by omega, rfl, rfl, by omega, by omega, h, grown_refl _ _⟩
  case round =>
    obtain ⟨k, x, hk, rfl, rfl, x0, x1, rd, gr⟩ := hrel
    by_cases hlt : k < 8
    · go_wp2_with fail
      refine (next_any rb a n c wr rd).mono ?_
      rintro e w1 ⟨y, rfl, y0, y1, r1, g1⟩
      have hor := or_range (IntKind.u64.wrap (x * 256)) y
      go_wp2
      go_roundw
      case rel => exact ⟨k + 1, _, by omega, by go_num, rfl, hor.1, hor.2, r1, grown_trans gr g1⟩
      case measure => simp [intOf]; omega
    · go_wp2
      go_ret
      exact ⟨x, rfl, x0, x1, rd, gr⟩

set_option maxHeartbeats 1000000 in
theorem near_anyN (rb : Nat) (a : Option Addr) (n c : Nat) (w : World) (h : Rd w rb a n c) :
    Calls Tryd.prog 61 #[.pointer (some ⟨rb, 0, none⟩), .int .i64 (-1000000000000000000), .int .i64 1000000000000000000] w fun e w' => ∃ x : Int, e = .returned (.int .i64 x) ∧ Rd w' rb a n c ∧ w.grownBy w' (some rb) := by
  go_enter Tryd.func61, Tryd.ntmps61
  go_wp2_with fail
  refine (pick_any rb a n c 8 w h (by omega) (by omega)).mono ?_
  rintro e w1 ⟨j, rfl, hj, r1, g1⟩
  by_cases j0 : j = 0
  · subst j0
    go_wp2
    go_ret
    exact ⟨-1000000000000000000, rfl, r1, g1⟩
  by_cases j1 : j = 1
  · subst j1
    go_wp2
    go_ret
    exact ⟨1000000000000000000, rfl, r1, g1⟩
  have d0 : ((j : Int) == 0) = false := by simp; omega
  have d1 : ((j : Int) == 1) = false := by simp; omega
  go_wp2_with fail
  refine (word_any rb a n c w1 r1).mono ?_
  rintro e w2 ⟨x, rfl, x0, x1, r2, g2⟩
  have gg := grown_trans g1 g2
  clear g2
  go_wp2
  go_ret
  exact ⟨_, rfl, r2, gg⟩

set_option maxHeartbeats 1000000 in
theorem near_anyK (rb : Nat) (a : Option Addr) (n c : Nat) (w : World) (h : Rd w rb a n c) :
    Calls Tryd.prog 61 #[.pointer (some ⟨rb, 0, none⟩), .int .i64 1, .int .i64 6] w fun e w' => ∃ x : Int, e = .returned (.int .i64 x) ∧ Rd w' rb a n c ∧ w.grownBy w' (some rb) := by
  go_enter Tryd.func61, Tryd.ntmps61
  go_wp2_with fail
  refine (pick_any rb a n c 8 w h (by omega) (by omega)).mono ?_
  rintro e w1 ⟨j, rfl, hj, r1, g1⟩
  by_cases j0 : j = 0
  · subst j0
    go_wp2
    go_ret
    exact ⟨1, rfl, r1, g1⟩
  by_cases j1 : j = 1
  · subst j1
    go_wp2
    go_ret
    exact ⟨6, rfl, r1, g1⟩
  have d0 : ((j : Int) == 0) = false := by simp; omega
  have d1 : ((j : Int) == 1) = false := by simp; omega
  go_wp2_with fail
  refine (word_any rb a n c w1 r1).mono ?_
  rintro e w2 ⟨x, rfl, x0, x1, r2, g2⟩
  have gg := grown_trans g1 g2
  clear g2
  go_wp2
  go_ret
  exact ⟨_, rfl, r2, gg⟩

set_option maxHeartbeats 1000000 in
theorem near_anyZ (rb : Nat) (a : Option Addr) (n c : Nat) (w : World) (h : Rd w rb a n c) :
    Calls Tryd.prog 61 #[.pointer (some ⟨rb, 0, none⟩), .int .i64 0, .int .i64 3] w fun e w' => ∃ x : Int, e = .returned (.int .i64 x) ∧ Rd w' rb a n c ∧ w.grownBy w' (some rb) := by
  go_enter Tryd.func61, Tryd.ntmps61
  go_wp2_with fail
  refine (pick_any rb a n c 8 w h (by omega) (by omega)).mono ?_
  rintro e w1 ⟨j, rfl, hj, r1, g1⟩
  by_cases j0 : j = 0
  · subst j0
    go_wp2
    go_ret
    exact ⟨0, rfl, r1, g1⟩
  by_cases j1 : j = 1
  · subst j1
    go_wp2
    go_ret
    exact ⟨3, rfl, r1, g1⟩
  have d0 : ((j : Int) == 0) = false := by simp; omega
  have d1 : ((j : Int) == 1) = false := by simp; omega
  go_wp2_with fail
  refine (word_any rb a n c w1 r1).mono ?_
  rintro e w2 ⟨x, rfl, x0, x1, r2, g2⟩
  have gg := grown_trans g1 g2
  clear g2
  go_wp2
  go_ret
  exact ⟨_, rfl, r2, gg⟩

def IntsC (C : Array Value) : Prop := ∀ j, j < C.size → ∃ x : Int, C[j]? = some (.int .i64 x)

theorem offs_okK : IntsC #[.int .i64 0, .int .i64 7, .int .i64 (-9223372036854775808), .int .i64 9223372036854775807] := fun j hj => by
  have hj' : j < 4 := hj
  match j, hj' with
  | 0, _ => exact ⟨0, rfl⟩
  | 1, _ => exact ⟨7, rfl⟩
  | 2, _ => exact ⟨-9223372036854775808, rfl⟩
  | 3, _ => exact ⟨9223372036854775807, rfl⟩

set_option maxHeartbeats 1000000 in
theorem off_anyK (rb : Nat) (a : Option Addr) (n c : Nat) (w : World) (h : Rd w rb a n c) (hrb : rb < w.heap.size) :
    Calls Tryd.prog 49 #[.pointer (some ⟨rb, 0, none⟩), .int .i64 1, .int .i64 6] w fun e w' => ∃ x : Int, e = .returned (.int .i64 x) ∧ Rd w' rb a n c ∧ w.grownBy w' (some rb) := by
  go_enter Tryd.func49, Tryd.ntmps49
  go_wp2_with fail
  refine (once_any rb a n c 24 w h (by omega) (by omega)).mono ?_
  rintro e w1 ⟨b, rfl, r1, g1⟩
  have b1 := grown_lt hrb g1
  cases b with
  | false =>
    go_wp2_with fail
    refine (near_anyK rb a n c w1 r1).mono ?_
    rintro e w2 ⟨x, rfl, r2, g2⟩
    have gg := grown_trans g1 g2
    go_wp2
    go_ret
    exact ⟨x, rfl, r2, gg⟩
  | true =>
    have hl := RowAt.new w1 2 #[.int .i64 0, .int .i64 7, .int .i64 (-9223372036854775808), .int .i64 9223372036854775807]
    have hb : Below w1.heap.size w1 (w1.alloc (.cells #[.int .i64 0, .int .i64 7, .int .i64 (-9223372036854775808), .int .i64 9223372036854775807] 2)) := (Below.refl _ w1).alloc (Nat.le_refl _) _
    go_wp2_with fail
    generalize w1.alloc (.cells #[.int .i64 0, .int .i64 7, .int .i64 (-9223372036854775808), .int .i64 9223372036854775807] 2) = w2 at *
    refine (pick_any rb a n c 4 w2 (r1.below hb b1) (by omega) (by omega)).mono ?_
    rintro e w3 ⟨j, rfl, hj, r3, g3⟩
    have gg := grown_trans (grown_below g1 hb) g3
    obtain ⟨x, hx⟩ := offs_okK j hj
    have hc : w3.cell? ⟨w1.heap.size, j, none⟩ = some (.int .i64 x) := ((row_read hl g3 (by omega)).cell j).trans hx
    have j0 : (0 : Int) ≤ (j : Int) := by omega
    have j1 : (j : Int) < 4 := by omega
    clear hl hb g3 hx
    go_wp2
    go_ret
    exact ⟨x, rfl, r3, gg⟩
theorem offs_okZ : IntsC #[.int .i64 (-1), .int .i64 4, .int .i64 (-9223372036854775808), .int .i64 9223372036854775807] := fun j hj => by
  have hj' : j < 4 := hj
  match j, hj' with
  | 0, _ => exact ⟨-1, rfl⟩
  | 1, _ => exact ⟨4, rfl⟩
  | 2, _ => exact ⟨-9223372036854775808, rfl⟩
  | 3, _ => exact ⟨9223372036854775807, rfl⟩

set_option maxHeartbeats 1000000 in
theorem off_anyZ (rb : Nat) (a : Option Addr) (n c : Nat) (w : World) (h : Rd w rb a n c) (hrb : rb < w.heap.size) :
    Calls Tryd.prog 49 #[.pointer (some ⟨rb, 0, none⟩), .int .i64 0, .int .i64 3] w fun e w' => ∃ x : Int, e = .returned (.int .i64 x) ∧ Rd w' rb a n c ∧ w.grownBy w' (some rb) := by
  go_enter Tryd.func49, Tryd.ntmps49
  go_wp2_with fail
  refine (once_any rb a n c 24 w h (by omega) (by omega)).mono ?_
  rintro e w1 ⟨b, rfl, r1, g1⟩
  have b1 := grown_lt hrb g1
  cases b with
  | false =>
    go_wp2_with fail
    refine (near_anyZ rb a n c w1 r1).mono ?_
    rintro e w2 ⟨x, rfl, r2, g2⟩
    have gg := grown_trans g1 g2
    go_wp2
    go_ret
    exact ⟨x, rfl, r2, gg⟩
  | true =>
    have hl := RowAt.new w1 2 #[.int .i64 (-1), .int .i64 4, .int .i64 (-9223372036854775808), .int .i64 9223372036854775807]
    have hb : Below w1.heap.size w1 (w1.alloc (.cells #[.int .i64 (-1), .int .i64 4, .int .i64 (-9223372036854775808), .int .i64 9223372036854775807] 2)) := (Below.refl _ w1).alloc (Nat.le_refl _) _
    go_wp2_with fail
    generalize w1.alloc (.cells #[.int .i64 (-1), .int .i64 4, .int .i64 (-9223372036854775808), .int .i64 9223372036854775807] 2) = w2 at *
    refine (pick_any rb a n c 4 w2 (r1.below hb b1) (by omega) (by omega)).mono ?_
    rintro e w3 ⟨j, rfl, hj, r3, g3⟩
    have gg := grown_trans (grown_below g1 hb) g3
    obtain ⟨x, hx⟩ := offs_okZ j hj
    have hc : w3.cell? ⟨w1.heap.size, j, none⟩ = some (.int .i64 x) := ((row_read hl g3 (by omega)).cell j).trans hx
    have j0 : (0 : Int) ≤ (j : Int) := by omega
    have j1 : (j : Int) < 4 := by omega
    clear hl hb g3 hx
    go_wp2
    go_ret
    exact ⟨x, rfl, r3, gg⟩
end Go.Proofs.YtcgeafdakaeicaaDoor
