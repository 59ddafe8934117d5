/- The drawing of ranks out of bytes: the reader. -/
import Derived.Test.YtinnjekfmlfdoaaDoorK20
import Derived.OpenShut
namespace Go.Proofs.YtinnjekfmlfdoaaDoor
open Go.RowKit

theorem grown_drewN (w : World) (q : Nat) (r : Option Nat) : w.grownBy (w.drewN q) r := ⟨rfl, rfl, rfl, Nat.le_refl _, fun _ _ _ => rfl⟩

structure BytesIn (w : World) (a : Option Addr) (n : Nat) (B : Nat) : Prop where
  cell : 0 < n → ∃ b o, a = some ⟨b, o, none⟩ ∧ b < B ∧ ∀ i, i < n → ∃ x : Nat, x < 256 ∧ w.cell? ⟨b, o + i, none⟩ = some (.int .u8 x)

theorem BytesIn.below {w w' : World} {a : Option Addr} {n B : Nat} (h : BytesIn w a n B) (hb : Below B w w') : BytesIn w' a n B :=
  ⟨fun hn => by
    obtain ⟨b, o, ha, hB, hc⟩ := h.cell hn
    exact ⟨b, o, ha, hB, fun i hi => by
      obtain ⟨x, hx, hw⟩ := hc i hi
      exact ⟨x, hx, (hb.cell (p := ⟨b, o + i, none⟩) hB).trans hw⟩⟩⟩

/-- A reader of bytes, at block rb: all that is below it is left alone. -/
structure Rd (w : World) (rb : Nat) (a : Option Addr) (n c : Nat) : Prop where
  row : ∃ p : Nat, p ≤ n ∧ RowAt w rb 54 #[.slice a n c, .int .i64 p]
  fit : n ≤ 9223372036854775807
  bytes : BytesIn w a n rb

theorem Rd.below {w w' : World} {rb : Nat} {a : Option Addr} {n c B : Nat} (h : Rd w rb a n c) (hb : Below B w w') (hB : rb < B) : Rd w' rb a n c := by
  obtain ⟨p, hp, hr⟩ := h.row
  exact ⟨⟨p, hp, hr.below hb hB⟩, h.fit, h.bytes.below (hb.mono (by omega))⟩

def NumEnd (lo hi : Int) (w : World) (rb : Nat) (a : Option Addr) (n c : Nat) (e : Ending) (w' : World) : Prop :=
  ∃ k : Int, e = .returned (.int .i64 k) ∧ lo ≤ k ∧ k ≤ hi ∧ Rd w' rb a n c ∧ w.grownBy w' (some rb)

set_option maxHeartbeats 1000000 in
theorem next_any (rb : Nat) (a : Option Addr) (n c : Nat) (w : World) (h : Rd w rb a n c) :
    Calls Tryd.prog 28 #[.pointer (some ⟨rb, 0, none⟩)] w (NumEnd 0 255 w rb a n c) := by
  obtain ⟨p, hp, hr⟩ := h.row
  have hfit := h.fit
  have c0 := hr.cell 0
  have c1 := hr.cell 1
  simp at c0 c1
  by_cases hpn : p = n
  · have hd : decide ((n : Int) ≤ (p : Int)) = true := by simp; omega
    have HR : Hid (Rd w rb a n c) := h
    clear hr h
    subst hpn
    go_enter Tryd.func28, Tryd.ntmps28
    go_wp2
    go_quiet ((fail))
    go_wp2
    go_ret
    refine ⟨0, rfl, by omega, by omega, HR.out.below (B := rb + 1) (below_drewN (Below.refl _ _) _) (by omega), grown_drewN _ _ _⟩
  · have hlt : p < n := by omega
    have hd : decide ((n : Int) ≤ (p : Int)) = false := by simp; omega
    obtain ⟨b, o, ha, hB, hc⟩ := h.bytes.cell (by omega)
    obtain ⟨x, hx, hcx⟩ := hc p hlt
    have hneb : b ≠ rb := by omega
    have fz := hr.frozen 1
    have HR : Hid (RowAt w rb 54 #[.slice a n c, .int .i64 p]) := hr
    have HB : Hid (Rd w rb a n c) := h
    clear hr h hc
    subst ha
    go_enter Tryd.func28, Tryd.ntmps28
    go_wp2
    go_quiet ((fail))
    go_wp2
    have hr2 : RowAt ((w.drewN nq).setCell ⟨rb, 1, none⟩ (Value.int IntKind.i64 (↑p + 1))) rb 54 #[.slice (some ⟨b, o, none⟩) n c, .int .i64 (p + 1)] := by
      have := (HR.out.below (B := rb + 1) (below_drewN (Below.refl _ w) nq) (by omega)).set 1 (Value.int IntKind.i64 (↑p + 1))
      simpa using this
    have hg2 : w.grownBy ((w.drewN nq).setCell ⟨rb, 1, none⟩ (Value.int IntKind.i64 (↑p + 1))) (some rb) := grown_trans (grown_drewN w nq _) (grown_set _ rb 1 _)
    have hb2 : Below rb w ((w.drewN nq).setCell ⟨rb, 1, none⟩ (Value.int IntKind.i64 (↑p + 1))) := (below_drewN (Below.refl _ w) nq).setCell (p := ⟨rb, 1, none⟩) (Nat.le_refl _) _
    generalize (w.drewN nq).setCell ⟨rb, 1, none⟩ (Value.int IntKind.i64 (↑p + 1)) = w2 at *
    have d0 := hr2.cell 0
    have d1 := hr2.cell 1
    simp at d0 d1
    have dx := (hb2.cell (p := ⟨b, o + p, none⟩) hB).trans hcx
    have HX : Hid (RowAt w2 rb 54 #[.slice (some ⟨b, o, none⟩) n c, .int .i64 (p + 1)]) := hr2
    clear hr2 c0 c1 hcx fz
    go_quiet ((fail))
    go_wp2
    go_ret
    refine ⟨x, rfl, by omega, by omega, ⟨⟨p + 1, by omega, ?_⟩, HB.out.fit, ?_⟩, grown_trans hg2 (grown_drewN _ _ _)⟩
    · exact HX.out.below (B := rb + 1) (below_drewN (Below.refl _ _) _) (by omega)
    · exact HB.out.bytes.below (below_drewN hb2 _)

/-- A draw of several: at most so much. -/
theorem NumEnd.trans {lo hi : Int} {w w1 w' : World} {rb : Nat} {a : Option Addr} {n c : Nat} {e : Ending} (hb : w.grownBy w1 (some rb)) (h : NumEnd lo hi w1 rb a n c e w') : NumEnd lo hi w rb a n c e w' := by
  obtain ⟨k, h1, h2, h3, h4, h5⟩ := h
  exact ⟨k, h1, h2, h3, h4, grown_trans hb h5⟩

set_option maxHeartbeats 1000000 in
theorem below_any (rb : Nat) (a : Option Addr) (n c : Nat) (m : Int) (w : World) (h : Rd w rb a n c) (hm : 1 < m) (hm2 : m ≤ 65536) :
    Calls Tryd.prog 16 #[.pointer (some ⟨rb, 0, none⟩), .int .i64 m] w (NumEnd 0 (m - 1) w rb a n c) := by
  by_cases h256 : m ≤ 256
  · go_enter Tryd.func16, Tryd.ntmps16
    go_wp2_with fail
    refine (next_any rb a n c w h).mono ?_
    rintro e w1 ⟨k, rfl, k0, k1, r1, b1⟩
    have e1 : Int.tmod k m = k % m := Int.tmod_eq_emod_of_nonneg k0
    have e2 := Int.emod_nonneg k (b := m) (by omega)
    have e3 := Int.emod_lt_of_pos k (b := m) (by omega)
    go_wp2
    go_ret
    exact ⟨_, rfl, by omega, by omega, r1, b1⟩
  · go_enter Tryd.func16, Tryd.ntmps16
    go_wp2_with fail
    refine (next_any rb a n c w h).mono ?_
    rintro e w1 ⟨k, rfl, k0, k1, r1, b1⟩
    go_wp2_with fail
    refine (next_any rb a n c w1 r1).mono ?_
    rintro e w2 ⟨j, rfl, j0, j1, r2, b2⟩
    have e2 := Int.emod_nonneg (k * 256 + j) (b := m) (by omega)
    have e3 := Int.emod_lt_of_pos (k * 256 + j) (b := m) (by omega)
    go_wp2
    go_ret
    exact ⟨_, rfl, by omega, by omega, r2, grown_trans b1 b2⟩

theorem open_any (a : Option Addr) (n c : Nat) (w : World) (hn : n ≤ 9223372036854775807) (hb : BytesIn w a n w.heap.size) :
    Calls Tryd.prog 14 #[.slice a n c] w fun e w' => e = .returned (.pointer (some ⟨w.heap.size, 0, none⟩)) ∧ Rd w' w.heap.size a n c ∧ Below w.heap.size w w' := by
  go_enter Tryd.func14, Tryd.ntmps14
  go_wp2
  go_ret
  have hb0 : Below w.heap.size w (w.alloc (.cells #[Value.slice a n c, Value.int IntKind.i64 0] 54)) := (Below.refl _ w).alloc (Nat.le_refl _) _
  exact ⟨rfl, ⟨⟨0, by omega, RowAt.new w 54 _⟩, hn, hb.below hb0⟩, hb0⟩
theorem below_one (rb : Nat) (w : World) : Calls Tryd.prog 16 #[.pointer (some ⟨rb, 0, none⟩), .int .i64 1] w fun e w' => e = .returned (.int .i64 0) ∧ w' = w := by
  go_enter Tryd.func16, Tryd.ntmps16
  go_wp2
  go_ret
  exact ⟨rfl, rfl⟩

/-- One of so many. -/
theorem pick_any (rb : Nat) (a : Option Addr) (n c k : Nat) (w : World) (h : Rd w rb a n c) (h0 : 0 < k) (hk : k ≤ 65536) :
    Calls Tryd.prog 16 #[.pointer (some ⟨rb, 0, none⟩), .int .i64 k] w fun e w' => ∃ j : Nat, e = .returned (.int .i64 j) ∧ j < k ∧ Rd w' rb a n c ∧ w.grownBy w' (some rb) := by
  by_cases h1 : k = 1
  · subst h1
    exact (below_one rb w).mono fun e w' ⟨he, hw⟩ => ⟨0, by rw [he]; rfl, by omega, by rw [hw]; exact h, by rw [hw]; exact grown_refl _ _⟩
  · exact (below_any rb a n c k w h (by omega) (by omega)).mono fun e w' ⟨z, he, z0, z1, hr, hg⟩ => ⟨z.toNat, by rw [he, Int.toNat_of_nonneg z0], by omega, hr, hg⟩
theorem row_read {W W' : World} {rb q : Nat} {T : TypeId} {C : Array Value} (h : RowAt W q T C) (g : W.grownBy W' (some rb)) (hq : q ≠ rb) : RowAt W' q T C := (g.block q h.lt (fun e => hq (Option.some.inj e))).trans h

def SmallC (C : Array Value) : Prop := ∀ j, j < C.size → ∃ s : ByteArray, C[j]? = some (.string s) ∧ s.size ≤ 20

def smallL (l : List ByteArray) : Bool := l.all fun s => decide (s.size ≤ 20)

theorem small_of (l : List ByteArray) (h : smallL l = true) : SmallC (l.map Value.string).toArray := fun j hj => by
  have hj' : j < l.length := by simpa using hj
  refine ⟨l[j], ?_, ?_⟩
  · simp [hj']
  · exact of_decide_eq_true (List.all_eq_true.1 h _ (List.getElem_mem hj'))

theorem pick_cell {w : World} {B : Nat} {C : Array Value} (h : RowAt w B 9 C) (hC : SmallC C) (j : Nat) (hj : j < C.size) : ∃ s : ByteArray, w.cell? ⟨B, j, none⟩ = some (.string s) ∧ s.size ≤ 20 := by
  obtain ⟨s, h1, h2⟩ := hC j hj
  exact ⟨s, (h.cell j).trans h1, h2⟩


theorem grown_lt {w w' : World} {rb k : Nat} (h : k < w.heap.size) (g : w.grownBy w' (some rb)) : k < w'.heap.size := by have := g.size; omega

theorem grown_keep {w w' : World} {rb : Nat} (g : w.grownBy w' (some rb)) {B : Nat} (h : B ≤ rb) (hB : B ≤ w.heap.size) : Below B w w' :=
  ⟨g.os, g.tape, g.output, g.size, fun k hk => g.block k (by omega) fun e => by have := Option.some.inj e; omega⟩

set_option maxHeartbeats 1000000 in
theorem once_any (rb : Nat) (a : Option Addr) (n c k : Nat) (w : World) (h : Rd w rb a n c) (h0 : 0 < k) (hk : k ≤ 65536) :
    Calls Tryd.prog 26 #[.pointer (some ⟨rb, 0, none⟩), .int .i64 k] w fun e w' => ∃ b : Bool, e = .returned (.bool b) ∧ Rd w' rb a n c ∧ w.grownBy w' (some rb) := by
  go_enter Tryd.func26, Tryd.ntmps26
  go_wp2_with fail
  refine (pick_any rb a n c k w h h0 hk).mono ?_
  rintro e w1 ⟨j, rfl, hj, r1, g1⟩
  go_wp2
  go_ret
  exact ⟨_, rfl, r1, g1⟩

/-- A word: eight bytes. -/
theorem or_range (x y : Int) : 0 ≤ bits BinOp.or IntKind.u64 x y ∧ bits BinOp.or IntKind.u64 x y ≤ 18446744073709551615 :=
  bounds_u64 (wf_bits BinOp.or IntKind.u64 x y)

set_option maxHeartbeats 1000000 in
theorem word_any (rb : Nat) (a : Option Addr) (n c : Nat) (w : World) (h : Rd w rb a n c) :
    Calls Tryd.prog 59 #[.pointer (some ⟨rb, 0, none⟩)] w fun e w' => ∃ x : Int, e = .returned (.int .u64 x) ∧ 0 ≤ x ∧ x ≤ 18446744073709551615 ∧ Rd w' rb a n c ∧ w.grownBy w' (some rb) := by
  go_enter Tryd.func59, Tryd.ntmps59
  go_wp2
  go_loopw [3, 4] (fun v i wr => ∃ (k : Nat) (x : Int), k ≤ 8 ∧ i = .int .i64 k ∧ v = .int .u64 x ∧ 0 ≤ x ∧ x ≤ 18446744073709551615 ∧ Rd wr rb a n c ∧ w.grownBy wr (some rb)) (fun _ i _ => 8 - (intOf i).toNat)
  case atStart => exact ⟨0, 0, by omega, rfl, rfl, by omega, by omega, h, grown_refl _ _⟩
  case round =>
    obtain ⟨k, x, hk, rfl, rfl, x0, x1, rd, gr⟩ := hrel
    by_cases hlt : k < 8
    · go_wp2_with fail
      refine (next_any rb a n c wr rd).mono ?_
      rintro e w1 ⟨y, rfl, y0, y1, r1, g1⟩
      have hor := or_range (IntKind.u64.wrap (x * 256)) y
      go_wp2
      go_roundw
      case rel => exact ⟨k + 1, _, by omega, by go_num, rfl, hor.1, hor.2, r1, grown_trans gr g1⟩
      case measure => simp [intOf]; omega
    · go_wp2
      go_ret
      exact ⟨x, rfl, x0, x1, rd, gr⟩

set_option maxHeartbeats 1000000 in
theorem near_any (rb : Nat) (a : Option Addr) (n c : Nat) (w : World) (h : Rd w rb a n c) :
    Calls Tryd.prog 43 #[.pointer (some ⟨rb, 0, none⟩), .int .i64 (-3), .int .i64 3] w fun e w' => ∃ x : Int, e = .returned (.int .i64 x) ∧ fitS x ∧ Rd w' rb a n c ∧ w.grownBy w' (some rb) := by
  go_enter Tryd.func43, Tryd.ntmps43
  go_wp2_with fail
  refine (pick_any rb a n c 8 w h (by omega) (by omega)).mono ?_
  rintro e w1 ⟨j, rfl, hj, r1, g1⟩
  by_cases j0 : j = 0
  · subst j0
    go_wp2
    go_ret
    exact ⟨-3, rfl, ⟨by omega, by omega⟩, r1, g1⟩
  by_cases j1 : j = 1
  · subst j1
    go_wp2
    go_ret
    exact ⟨3, rfl, ⟨by omega, by omega⟩, r1, g1⟩
  have d0 : ((j : Int) == 0) = false := by simp; omega
  have d1 : ((j : Int) == 1) = false := by simp; omega
  go_wp2_with fail
  refine (word_any rb a n c w1 r1).mono ?_
  rintro e w2 ⟨x, rfl, x0, x1, r2, g2⟩
  have gg := grown_trans g1 g2
  clear g2
  go_wp2
  go_ret
  exact ⟨_, rfl, ⟨by omega, by omega⟩, r2, gg⟩

def IntsC (C : Array Value) : Prop := ∀ j, j < C.size → ∃ x : Int, C[j]? = some (.int .i64 x) ∧ fitS x

theorem offs_ok : IntsC #[.int .i64 (-4), .int .i64 4, .int .i64 (-9223372036854775808), .int .i64 9223372036854775807] := fun j hj => by
  have hj' : j < 4 := hj
  match j, hj' with
  | 0, _ => exact ⟨-4, rfl, by unfold fitS; omega⟩
  | 1, _ => exact ⟨4, rfl, by unfold fitS; omega⟩
  | 2, _ => exact ⟨-9223372036854775808, rfl, by unfold fitS; omega⟩
  | 3, _ => exact ⟨9223372036854775807, rfl, by unfold fitS; omega⟩

set_option maxHeartbeats 1000000 in
theorem off_any (rb : Nat) (a : Option Addr) (n c : Nat) (w : World) (h : Rd w rb a n c) (hrb : rb < w.heap.size) :
    Calls Tryd.prog 27 #[.pointer (some ⟨rb, 0, none⟩), .int .i64 (-3), .int .i64 3] w fun e w' => ∃ x : Int, e = .returned (.int .i64 x) ∧ fitS x ∧ Rd w' rb a n c ∧ w.grownBy w' (some rb) := by
  go_enter Tryd.func27, Tryd.ntmps27
  go_wp2_with fail
  refine (once_any rb a n c 24 w h (by omega) (by omega)).mono ?_
  rintro e w1 ⟨b, rfl, r1, g1⟩
  have b1 := grown_lt hrb g1
  cases b with
  | false =>
    go_wp2_with fail
    refine (near_any rb a n c w1 r1).mono ?_
    rintro e w2 ⟨x, rfl, hx, r2, g2⟩
    have gg := grown_trans g1 g2
    go_wp2
    go_ret
    exact ⟨x, rfl, hx, r2, gg⟩
  | true =>
    have hl := RowAt.new w1 2 #[.int .i64 (-4), .int .i64 4, .int .i64 (-9223372036854775808), .int .i64 9223372036854775807]
    have hb : Below w1.heap.size w1 (w1.alloc (.cells #[.int .i64 (-4), .int .i64 4, .int .i64 (-9223372036854775808), .int .i64 9223372036854775807] 2)) := (Below.refl _ w1).alloc (Nat.le_refl _) _
    go_wp2_with fail
    generalize w1.alloc (.cells #[.int .i64 (-4), .int .i64 4, .int .i64 (-9223372036854775808), .int .i64 9223372036854775807] 2) = w2 at *
    refine (pick_any rb a n c 4 w2 (r1.below hb b1) (by omega) (by omega)).mono ?_
    rintro e w3 ⟨j, rfl, hj, r3, g3⟩
    have gg := grown_trans (grown_below g1 hb) g3
    obtain ⟨x, hx, hfx⟩ := offs_ok j hj
    have hc : w3.cell? ⟨w1.heap.size, j, none⟩ = some (.int .i64 x) := ((row_read hl g3 (by omega)).cell j).trans hx
    have j0 : (0 : Int) ≤ (j : Int) := by omega
    have j1 : (j : Int) < 4 := by omega
    clear hl hb g3 hx
    go_wp2
    go_ret
    exact ⟨x, rfl, hfx, r3, gg⟩
end Go.Proofs.YtinnjekfmlfdoaaDoor
