/- The drawing of arguments out of bytes: the reader, short texts, a text that is hurt. -/
import Derived.Test.YticajcagcdbgpaaGreatDoorBase
import Derived.Test.YticajcagcdbgpaaGreatDoorNum
import Derived.Test.YticajcagcdbgpaaGreatDoorRdMath
import Derived.OpenShut
import Derived.Lib.SmallJoins
import Derived.Laws.IdiomStrings
import Derived.Deep.RegionWith
import Derived.Deep.Cut
namespace Go.Proofs.YticajcagcdbgpaaGreatDoor
open Go.RowKit Go.Sort

theorem info5 : (Tryz.prog.info? 5).map (fun i => (i.zero, i.size, i.bytes)) = some (some (.int .u8 0), 1, 1) := by kernel_rfl

structure BytesIn (w : World) (a : Option Addr) (n : Nat) (B : Nat) : Prop where
  cell : 0 < n → ∃ b o, a = some ⟨b, o, none⟩ ∧ b < B ∧ ∀ i, i < n → ∃ x : Nat, x < 256 ∧ w.cell? ⟨b, o + i, none⟩ = some (.int .u8 x)

theorem BytesIn.below {w w' : World} {a : Option Addr} {n B : Nat} (h : BytesIn w a n B) (hb : Below B w w') : BytesIn w' a n B :=
  ⟨fun hn => by
    obtain ⟨b, o, ha, hB, hc⟩ := h.cell hn
    exact ⟨b, o, ha, hB, fun i hi => by
      obtain ⟨x, hx, hw⟩ := hc i hi
      exact ⟨x, hx, (hb.cell (p := ⟨b, o + i, none⟩) hB).trans hw⟩⟩⟩

/-- A reader of bytes, at block rb: all that is below it is left alone. -/
structure Rd (w : World) (rb : Nat) (a : Option Addr) (n c : Nat) : Prop where
  row : ∃ p : Nat, p ≤ n ∧ RowAt w rb 64 #[.slice a n c, .int .i64 p]
  fit : n ≤ 9223372036854775807
  bytes : BytesIn w a n rb

theorem Rd.below {w w' : World} {rb : Nat} {a : Option Addr} {n c B : Nat} (h : Rd w rb a n c) (hb : Below B w w') (hB : rb < B) : Rd w' rb a n c := by
  obtain ⟨p, hp, hr⟩ := h.row
  exact ⟨⟨p, hp, hr.below hb hB⟩, h.fit, h.bytes.below (hb.mono (by omega))⟩

def NumEnd (lo hi : Int) (w : World) (rb : Nat) (a : Option Addr) (n c : Nat) (e : Ending) (w' : World) : Prop :=
  ∃ k : Int, e = .returned (.int .i64 k) ∧ lo ≤ k ∧ k ≤ hi ∧ Rd w' rb a n c ∧ w.grownBy w' (some rb)

set_option maxHeartbeats 1000000 in
theorem next_any (rb : Nat) (a : Option Addr) (n c : Nat) (w : World) (h : Rd w rb a n c) :
    Calls Tryz.prog 41 #[.pointer (some ⟨rb, 0, none⟩)] w (NumEnd 0 255 w rb a n c) := by
  obtain ⟨p, hp, hr⟩ := h.row
  have hfit := h.fit
  have c0 := hr.cell 0
  have c1 := hr.cell 1
  simp at c0 c1
  by_cases hpn : p = n
  · have hd : decide ((n : Int) ≤ (p : Int)) = true := by simp; omega
    have HR : Hid (Rd w rb a n c) := h
    clear hr h
    subst hpn
    go_enter Tryz.func41, Tryz.ntmps41
    go_wp2
    go_quiet ((fail))
    go_wp2
    go_ret
    refine ⟨0, rfl, by omega, by omega, HR.out.below (B := rb + 1) (below_drewN (Below.refl _ _) _) (by omega), grown_drewN _ _ _⟩
  · have hlt : p < n := by omega
    have hd : decide ((n : Int) ≤ (p : Int)) = false := by simp; omega
    obtain ⟨b, o, ha, hB, hc⟩ := h.bytes.cell (by omega)
    obtain ⟨x, hx, hcx⟩ := hc p hlt
    have hneb : b ≠ rb := by omega
    have fz := hr.frozen 1
    have HR : Hid (RowAt w rb 64 #[.slice a n c, .int .i64 p]) := hr
    have HB : Hid (Rd w rb a n c) := h
    clear hr h hc
    subst ha
    go_enter Tryz.func41, Tryz.ntmps41
    go_wp2
    go_quiet ((fail))
    go_wp2
    have hr2 : RowAt ((w.drewN nq).setCell ⟨rb, 1, none⟩ (Value.int IntKind.i64 (↑p + 1))) rb 64 #[.slice (some ⟨b, o, none⟩) n c, .int .i64 (p + 1)] := by
      have := (HR.out.below (B := rb + 1) (below_drewN (Below.refl _ w) nq) (by omega)).set 1 (Value.int IntKind.i64 (↑p + 1))
      simpa using this
    have hg2 : w.grownBy ((w.drewN nq).setCell ⟨rb, 1, none⟩ (Value.int IntKind.i64 (↑p + 1))) (some rb) := grown_trans (grown_drewN w nq _) (grown_set _ rb 1 _)
    have hb2 : Below rb w ((w.drewN nq).setCell ⟨rb, 1, none⟩ (Value.int IntKind.i64 (↑p + 1))) := (below_drewN (Below.refl _ w) nq).setCell (p := ⟨rb, 1, none⟩) (Nat.le_refl _) _
    generalize (w.drewN nq).setCell ⟨rb, 1, none⟩ (Value.int IntKind.i64 (↑p + 1)) = w2 at *
    have d0 := hr2.cell 0
    have d1 := hr2.cell 1
    simp at d0 d1
    have dx := (hb2.cell (p := ⟨b, o + p, none⟩) hB).trans hcx
    have HX : Hid (RowAt w2 rb 64 #[.slice (some ⟨b, o, none⟩) n c, .int .i64 (p + 1)]) := hr2
    clear hr2 c0 c1 hcx fz
    go_quiet ((fail))
    go_wp2
    go_ret
    refine ⟨x, rfl, by omega, by omega, ⟨⟨p + 1, by omega, ?_⟩, HB.out.fit, ?_⟩, grown_trans hg2 (grown_drewN _ _ _)⟩
    · exact HX.out.below (B := rb + 1) (below_drewN (Below.refl _ _) _) (by omega)
    · exact HB.out.bytes.below (below_drewN hb2 _)

/-- A draw of several: at most so much. -/
theorem NumEnd.trans {lo hi : Int} {w w1 w' : World} {rb : Nat} {a : Option Addr} {n c : Nat} {e : Ending} (hb : w.grownBy w1 (some rb)) (h : NumEnd lo hi w1 rb a n c e w') : NumEnd lo hi w rb a n c e w' := by
  obtain ⟨k, h1, h2, h3, h4, h5⟩ := h
  exact ⟨k, h1, h2, h3, h4, grown_trans hb h5⟩

set_option maxHeartbeats 1000000 in
theorem below_any (rb : Nat) (a : Option Addr) (n c : Nat) (m : Int) (w : World) (h : Rd w rb a n c) (hm : 1 < m) (hm2 : m ≤ 65536) :
    Calls Tryz.prog 29 #[.pointer (some ⟨rb, 0, none⟩), .int .i64 m] w (NumEnd 0 (m - 1) w rb a n c) := by
  by_cases h256 : m ≤ 256
  · go_enter Tryz.func29, Tryz.ntmps29
    go_wp2_with fail
    refine (next_any rb a n c w h).mono ?_
    rintro e w1 ⟨k, rfl, k0, k1, r1, b1⟩
    have e1 : Int.tmod k m = k % m := Int.tmod_eq_emod_of_nonneg k0
    have e2 := Int.emod_nonneg k (b := m) (by omega)
    have e3 := Int.emod_lt_of_pos k (b := m) (by omega)
    go_wp2
    go_ret
    exact ⟨_, rfl, by omega, by omega, r1, b1⟩
  · go_enter Tryz.func29, Tryz.ntmps29
    go_wp2_with fail
    refine (next_any rb a n c w h).mono ?_
    rintro e w1 ⟨k, rfl, k0, k1, r1, b1⟩
    go_wp2_with fail
    refine (next_any rb a n c w1 r1).mono ?_
    rintro e w2 ⟨j, rfl, j0, j1, r2, b2⟩
    have e2 := Int.emod_nonneg (k * 256 + j) (b := m) (by omega)
    have e3 := Int.emod_lt_of_pos (k * 256 + j) (b := m) (by omega)
    go_wp2
    go_ret
    exact ⟨_, rfl, by omega, by omega, r2, grown_trans b1 b2⟩

theorem open_any (a : Option Addr) (n c : Nat) (w : World) (hn : n ≤ 9223372036854775807) (hb : BytesIn w a n w.heap.size) :
    Calls Tryz.prog 14 #[.slice a n c] w fun e w' => e = .returned (.pointer (some ⟨w.heap.size, 0, none⟩)) ∧ Rd w' w.heap.size a n c ∧ Below w.heap.size w w' := by
  go_enter Tryz.func14, Tryz.ntmps14
  go_wp2
  go_ret
  have hb0 : Below w.heap.size w (w.alloc (.cells #[Value.slice a n c, Value.int IntKind.i64 0] 64)) := (Below.refl _ w).alloc (Nat.le_refl _) _
  exact ⟨rfl, ⟨⟨0, by omega, RowAt.new w 64 _⟩, hn, hb.below hb0⟩, hb0⟩
theorem below_one (rb : Nat) (w : World) : Calls Tryz.prog 29 #[.pointer (some ⟨rb, 0, none⟩), .int .i64 1] w fun e w' => e = .returned (.int .i64 0) ∧ w' = w := by
  go_enter Tryz.func29, Tryz.ntmps29
  go_wp2
  go_ret
  exact ⟨rfl, rfl⟩

/-- One of so many. -/
theorem pick_any (rb : Nat) (a : Option Addr) (n c k : Nat) (w : World) (h : Rd w rb a n c) (h0 : 0 < k) (hk : k ≤ 65536) :
    Calls Tryz.prog 29 #[.pointer (some ⟨rb, 0, none⟩), .int .i64 k] w fun e w' => ∃ j : Nat, e = .returned (.int .i64 j) ∧ j < k ∧ Rd w' rb a n c ∧ w.grownBy w' (some rb) := by
  by_cases h1 : k = 1
  · subst h1
    exact (below_one rb w).mono fun e w' ⟨he, hw⟩ => ⟨0, by rw [he]; rfl, by omega, by rw [hw]; exact h, by rw [hw]; exact grown_refl _ _⟩
  · exact (below_any rb a n c k w h (by omega) (by omega)).mono fun e w' ⟨z, he, z0, z1, hr, hg⟩ => ⟨z.toNat, by rw [he, Int.toNat_of_nonneg z0], by omega, hr, hg⟩
def StrEnd (w : World) (rb : Nat) (a : Option Addr) (n c : Nat) (e : Ending) (w' : World) : Prop :=
  ∃ s : ByteArray, e = .returned (.string s) ∧ s.size ≤ 20 ∧ Rd w' rb a n c ∧ w.grownBy w' (some rb)

theorem row_read {W W' : World} {rb q : Nat} {T : TypeId} {C : Array Value} (h : RowAt W q T C) (g : W.grownBy W' (some rb)) (hq : q ≠ rb) : RowAt W' q T C := (g.block q h.lt (fun e => hq (Option.some.inj e))).trans h

def SmallC (C : Array Value) : Prop := ∀ j, j < C.size → ∃ s : ByteArray, C[j]? = some (.string s) ∧ s.size ≤ 20

def smallL (l : List ByteArray) : Bool := l.all fun s => decide (s.size ≤ 20)

theorem small_of (l : List ByteArray) (h : smallL l = true) : SmallC (l.map Value.string).toArray := fun j hj => by
  have hj' : j < l.length := by simpa using hj
  refine ⟨l[j], ?_, ?_⟩
  · simp [hj']
  · exact of_decide_eq_true (List.all_eq_true.1 h _ (List.getElem_mem hj'))

theorem pick_cell {w : World} {B : Nat} {C : Array Value} (h : RowAt w B 9 C) (hC : SmallC C) (j : Nat) (hj : j < C.size) : ∃ s : ByteArray, w.cell? ⟨B, j, none⟩ = some (.string s) ∧ s.size ≤ 20 := by
  obtain ⟨s, h1, h2⟩ := hC j hj
  exact ⟨s, (h.cell j).trans h1, h2⟩


set_option maxHeartbeats 1000000 in
theorem text_any (rb : Nat) (a : Option Addr) (n c : Nat) (w : World) (h : Rd w rb a n c) (hrb : rb < w.heap.size) :
    Calls Tryz.prog 30 #[.pointer (some ⟨rb, 0, none⟩)] w (StrEnd w rb a n c) := by
  have hl := RowAt.new w 9 #[.string ⟨#[97]⟩, .string ⟨#[98]⟩, .string ⟨#[]⟩, .string ⟨#[49, 48]⟩, .string ⟨#[97, 98, 99]⟩, .string ⟨#[120, 32, 121]⟩, .string ⟨#[45, 55]⟩, .string ⟨#[13, 10]⟩]
  have hb : Below w.heap.size w (w.alloc (.cells #[.string ⟨#[97]⟩, .string ⟨#[98]⟩, .string ⟨#[]⟩, .string ⟨#[49, 48]⟩, .string ⟨#[97, 98, 99]⟩, .string ⟨#[120, 32, 121]⟩, .string ⟨#[45, 55]⟩, .string ⟨#[13, 10]⟩] 9)) := (Below.refl _ w).alloc (Nat.le_refl _) _
  have hs : SmallC #[.string ⟨#[97]⟩, .string ⟨#[98]⟩, .string ⟨#[]⟩, .string ⟨#[49, 48]⟩, .string ⟨#[97, 98, 99]⟩, .string ⟨#[120, 32, 121]⟩, .string ⟨#[45, 55]⟩, .string ⟨#[13, 10]⟩] := small_of [⟨#[97]⟩, ⟨#[98]⟩, ⟨#[]⟩, ⟨#[49, 48]⟩, ⟨#[97, 98, 99]⟩, ⟨#[120, 32, 121]⟩, ⟨#[45, 55]⟩, ⟨#[13, 10]⟩] (by decide)
  go_enter Tryz.func30, Tryz.ntmps30
  go_wp2_with fail
  generalize w.alloc (.cells #[.string ⟨#[97]⟩, .string ⟨#[98]⟩, .string ⟨#[]⟩, .string ⟨#[49, 48]⟩, .string ⟨#[97, 98, 99]⟩, .string ⟨#[120, 32, 121]⟩, .string ⟨#[45, 55]⟩, .string ⟨#[13, 10]⟩] 9) = w1 at *
  refine (pick_any rb a n c 8 w1 (h.below hb hrb) (by omega) (by omega)).mono ?_
  rintro e w2 ⟨j, rfl, hj, r2, g2⟩
  have gg := grown_trans (grown_below (grown_refl w _) hb) g2
  obtain ⟨s, hc, hz⟩ := pick_cell (row_read hl g2 (by omega)) hs j (by simpa using hj)
  have j0 : (0 : Int) ≤ (j : Int) := by omega
  have j1 : (j : Int) < 8 := by omega
  clear hl hb hs g2
  go_wp2
  go_ret
  exact ⟨s, rfl, hz, r2, gg⟩


theorem grown_lt {w w' : World} {rb k : Nat} (h : k < w.heap.size) (g : w.grownBy w' (some rb)) : k < w'.heap.size := by have := g.size; omega

theorem grown_keep {w w' : World} {rb : Nat} (g : w.grownBy w' (some rb)) {B : Nat} (h : B ≤ rb) (hB : B ≤ w.heap.size) : Below B w w' :=
  ⟨g.os, g.tape, g.output, g.size, fun k hk => g.block k (by omega) fun e => by have := Option.some.inj e; omega⟩

set_option maxHeartbeats 1000000 in
theorem once_any (rb : Nat) (a : Option Addr) (n c k : Nat) (w : World) (h : Rd w rb a n c) (h0 : 0 < k) (hk : k ≤ 65536) :
    Calls Tryz.prog 31 #[.pointer (some ⟨rb, 0, none⟩), .int .i64 k] w fun e w' => ∃ b : Bool, e = .returned (.bool b) ∧ Rd w' rb a n c ∧ w.grownBy w' (some rb) := by
  go_enter Tryz.func31, Tryz.ntmps31
  go_wp2_with fail
  refine (pick_any rb a n c k w h h0 hk).mono ?_
  rintro e w1 ⟨j, rfl, hj, r1, g1⟩
  go_wp2
  go_ret
  exact ⟨_, rfl, r1, g1⟩

/-- A word: eight bytes. -/
theorem or_range (x y : Int) : 0 ≤ bits BinOp.or IntKind.u64 x y ∧ bits BinOp.or IntKind.u64 x y ≤ 18446744073709551615 :=
  bounds_u64 (wf_bits BinOp.or IntKind.u64 x y)

set_option maxHeartbeats 1000000 in
theorem word_any (rb : Nat) (a : Option Addr) (n c : Nat) (w : World) (h : Rd w rb a n c) :
    Calls Tryz.prog 46 #[.pointer (some ⟨rb, 0, none⟩)] w fun e w' => ∃ x : Int, e = .returned (.int .u64 x) ∧ 0 ≤ x ∧ x ≤ 18446744073709551615 ∧ Rd w' rb a n c ∧ w.grownBy w' (some rb) := by
  go_enter Tryz.func46, Tryz.ntmps46
  go_wp2
  go_loopw [3, 4] (fun v i wr => ∃ (k : Nat) (x : Int), k ≤ 8 ∧ i = .int .i64 k ∧ v = .int .u64 x ∧ 0 ≤ x ∧ x ≤ 18446744073709551615 ∧ Rd wr rb a n c ∧ w.grownBy wr (some rb)) (fun _ i _ => 8 - (intOf i).toNat)
  case atStart => exact ⟨0, 0, by omega, rfl, rfl, by omega, by omega, h, grown_refl _ _⟩
  case round =>
    obtain ⟨k, x, hk, rfl, rfl, x0, x1, rd, gr⟩ := hrel
    by_cases hlt : k < 8
    · go_wp2_with fail
      refine (next_any rb a n c wr rd).mono ?_
      rintro e w1 ⟨y, rfl, y0, y1, r1, g1⟩
      have hor := or_range (IntKind.u64.wrap (x * 256)) y
      go_wp2
      go_roundw
      case rel => exact ⟨k + 1, _, by omega, by go_num, rfl, hor.1, hor.2, r1, grown_trans gr g1⟩
      case measure => simp [intOf]; omega
    · go_wp2
      go_ret
      exact ⟨x, rfl, x0, x1, rd, gr⟩

theorem bytes_none (w : World) : (w.alloc (.cells #[] 5)).ownsRow w.heap.size 5 1 (.slice (some ⟨w.heap.size, 0, none⟩) 0 0) 0 (Lib.byteCells []) :=
  ⟨rfl, .inr ⟨w.heap.size, 0, #[], rfl, Nat.le_refl _, RowAt.new w 5 #[], by omega, by unfold maxLen; omega, by simp, by simp [Lib.byteCells]⟩⟩

theorem conv_own {w : World} {B A cap : Nat} {xs : List UInt8} (h : w.ownsRow B 5 1 (.slice (some ⟨A, 0, none⟩) xs.length cap) xs.length (Lib.byteCells xs)) :
    (convert 22 9 (.slice (some ⟨A, 0, none⟩) xs.length cap)).run Tryz.prog w = .ok (.string ⟨xs.toArray⟩) w := by
  refine run_convert_bytes_back _ 22 9 5 ⟨A, 0, none⟩ cap xs Tryz.underlying22 Tryz.underlying5 Tryz.underlying9 ?_
  intro j hj
  exact h.cells rfl j _ (by simp [Lib.byteCells, hj])

set_option maxHeartbeats 4000000 in
set_option maxRecDepth 100000 in
theorem bytes_any (rb : Nat) (a : Option Addr) (n c : Nat) (w : World) (h : Rd w rb a n c) (hrb : rb < w.heap.size) :
    Calls Tryz.prog 40 #[.pointer (some ⟨rb, 0, none⟩), .int .i64 2] w (StrEnd w rb a n c) := by
  obtain ⟨i0, hi, hz0, hz1, hz2⟩ := info_parts info5
  have hb : Below w.heap.size w (w.alloc (.cells #[] 5)) := (Below.refl _ w).alloc (Nat.le_refl _) _
  have ho := bytes_none w
  go_enter Tryz.func40, Tryz.ntmps40
  go_wp2_with fail
  generalize w.alloc (.cells #[] 5) = w1 at *
  refine (pick_any rb a n c 3 w1 (h.below hb hrb) (by omega) (by omega)).mono ?_
  rintro e w2 ⟨k, rfl, hk, r2, g2'⟩
  have g2 := grown_trans (grown_below (grown_refl w _) hb) g2'
  have o2 := ho.kept g2' (.inr fun e => by have := (ho.lt rb e).1; omega)
  clear ho hb g2' h
  go_wp2_with fail
  go_loopw [5, 6] (fun tr i wr => ∃ (j A cap : Nat) (xs : List UInt8), j + xs.length ≤ 2 ∧ i = .int .i64 j ∧ tr = .slice (some ⟨A, 0, none⟩) xs.length cap ∧ wr.ownsRow w.heap.size 5 1 tr xs.length (Lib.byteCells xs) ∧ Rd wr rb a n c ∧ w.grownBy wr (some rb)) (fun _ i _ => (intOf i).toNat)
  case atStart => exact ⟨k, w.heap.size, 0, [], by simp; omega, rfl, rfl, o2, r2, g2⟩
  case round =>
    obtain ⟨j, A, cap, xs, hj, rfl, rfl, hown, rd, gr⟩ := hrel
    clear o2 r2 g2
    have hbr := grown_lt hrb gr
    by_cases h0 : 0 < j
    · have hd : (0 : Int) < (j : Int) := by omega
      go_wp2_with fail
      refine (pick_any rb a n c 256 wr rd (by omega) (by omega)).mono ?_
      rintro e w3 ⟨z, rfl, hz, r3, g3⟩
      have hown3 := hown.kept g3 (.inr fun e => by have := (hown.lt rb e).1; omega)
      have g03 := grown_trans gr g3
      have sz3 := g03.size
      have hb3 := grown_lt hrb g03
      have hA : w.heap.size ≤ A := (hown.lt A rfl).1
      have hlen : xs.length ≤ 2 := by omega
      go_wp2_with (at_builtin; refine wpList_append_own _ rfl _ _ 22 rfl w.heap.size 5 i0 _ 1 1 Tryz.underlying22 hi hz0 hz1 hz2 rfl (by decide) _ _ _ rfl (hown3.alloc _) ⟨w3.heap.size, 0, none⟩ 1 1 [.int .u8 z] rfl rfl ?c1 ?c2 ?c3 ?c4 ?c5 ?_)
      case c1 => exact cell_one_new _ _ _
      case c2 => intro y hy; simp at hy; subst hy; rfl
      case c3 => unfold maxLen; omega
      case c4 => omega
      case c5 => simp; omega
      intro v' w5 hown' hgrow _
      have hold : ∀ k, k < w3.heap.size → k ≠ A → w5.heap[k]? = w3.heap[k]? := fun k hk hne => by
        rw [hgrow.block k (by simp; omega) (fun e => hne (Option.some.inj e))]
        exact Below.heap_alloc _ _ _ hk
      have g05 : w.grownBy w5 (some rb) := ⟨hgrow.os.trans g03.os, hgrow.tape.trans g03.tape, hgrow.output.trans g03.output, by have := hgrow.size; simp at this; omega, fun k hk hne => (hold k (by omega) (by omega)).trans (g03.block k hk hne)⟩
      have g35 : Below rb w3 w5 := ⟨hgrow.os, hgrow.tape, hgrow.output, by have := hgrow.size; simp at this; omega, fun k hk => hold k (by omega) (by omega)⟩
      have r5 : Rd w5 rb a n c := by
        obtain ⟨p, hp, hr⟩ := r3.row
        exact ⟨⟨p, hp, (hold rb hb3 (by omega)).trans hr⟩, r3.fit, r3.bytes.below g35⟩
      have hez : ((UInt8.ofNat z).toNat : Int) = (z : Int) := by
        rw [UInt8.toNat_ofNat']
        omega
      have HO : Hid (w5.ownsRow w.heap.size 5 1 v' (xs ++ [UInt8.ofNat z]).length (Lib.byteCells (xs ++ [UInt8.ofNat z]))) := by
        unfold Hid
        rw [List.length_append, Lib.byteCells_append]
        have e : Lib.byteCells [UInt8.ofNat z] = [.int .u8 (z : Int)] := by show [Value.int .u8 ((UInt8.ofNat z).toNat : Int)] = _; rw [hez]
        rw [e]
        exact hown'
      obtain ⟨A', cap', rfl⟩ := Go.Joins.ownsRow_form HO.out (by simp)
      clear hown' hgrow hown3 hold
      go_wp2
      go_roundw
      case rel => exact ⟨j - 1, A', cap', xs ++ [UInt8.ofNat z], by simp; omega, by go_num, rfl, HO.out, r5, g05⟩
      case measure => simp [intOf]; omega
    · obtain rfl : j = 0 := by omega
      have hcv := conv_own hown
      have hlen : xs.length ≤ 2 := by omega
      go_wp2
      go_ret
      exact ⟨_, rfl, by show xs.toArray.size ≤ 20; simp; omega, rd, gr⟩

/-- How the hurting of a text ends: some text, not much longer. -/
def HurtEnd (w : World) (rb : Nat) (a : Option Addr) (n c m : Nat) (e : Ending) (w' : World) : Prop :=
  ∃ s : ByteArray, e = .returned (.string s) ∧ s.size ≤ m ∧ Rd w' rb a n c ∧ w.grownBy w' (some rb)

set_option maxHeartbeats 4000000 in
set_option maxRecDepth 100000 in
theorem hurt_any (rb : Nat) (a : Option Addr) (n c : Nat) (s : ByteArray) (w : World) (h : Rd w rb a n c) (hrb : rb < w.heap.size) (hs : s.size ≤ 60000) :
    Calls Tryz.prog 27 #[.pointer (some ⟨rb, 0, none⟩), .string s] w (HurtEnd w rb a n c (s.size + 20)) := by
  go_enter Tryz.func27, Tryz.ntmps27
  go_wp2_with fail
  refine (below_any rb a n c 6 w h (by omega) (by omega)).mono ?_
  rintro e w1 ⟨k, rfl, k0, k1, r1, g1⟩
  have b1 := grown_lt hrb g1
  have hk : k = 0 ∨ k = 1 ∨ k = 2 ∨ k = 3 ∨ k = 4 ∨ k = 5 := by omega
  clear k0 k1
  rcases hk with rfl | rfl | rfl | rfl | rfl | rfl
  · go_wp2
    go_ret
    exact ⟨s, rfl, by omega, r1, g1⟩
  · have HP := pick_any rb a n c (s.size + 1) w1 r1 (by omega) (by omega)
    have e1 : ((s.size + 1 : Nat) : Int) = (s.size : Int) + 1 := by omega
    rw [e1] at HP
    go_wp2_with fail
    refine HP.mono ?_
    clear HP e1
    rintro e w2 ⟨j, rfl, hj, r2, g2⟩
    have j0 : (0 : Int) ≤ (j : Int) := by omega
    have j1 : (j : Int) ≤ (s.size : Int) := by omega
    go_wp2
    go_ret
    exact ⟨_, rfl, by simp; omega, r2, grown_trans g1 g2⟩
  · by_cases h0 : s.size = 0
    · have hd : ¬ (0 : Int) < (s.size : Int) := by omega
      go_wp2
      go_ret
      exact ⟨s, rfl, by omega, r1, g1⟩
    · have hd : (0 : Int) < (s.size : Int) := by omega
      go_wp2_with fail
      refine (pick_any rb a n c s.size w1 r1 (by omega) (by omega)).mono ?_
      rintro e w2 ⟨j, rfl, hj, r2, g2'⟩
      have g2 := grown_trans g1 g2'
      have b2 := grown_lt b1 g2'
      have j0 : (0 : Int) ≤ (j : Int) := by omega
      have j1 : (j : Int) < (s.size : Int) := by omega
      have j2 : (j : Int) ≤ (s.size : Int) := by omega
      have j3 : (j : Int) + 1 ≤ (s.size : Int) := by omega
      have j4 : (0 : Int) ≤ (j : Int) + 1 := by omega
      have hm1 : min j s.size = j := by omega
      have hj1 : j + 1 ≤ s.size := by omega
      have hj2 : j ≤ s.size := by omega
      have hwj : IntKind.i64.wrap ((j : Int) + 1) = (j : Int) + 1 := by rw [IntKind.wrap_i64]; omega
      have hsm : SmallC #[.string ⟨#[48]⟩, .string ⟨#[49]⟩, .string ⟨#[10]⟩, .string ⟨#[13]⟩, .string ⟨#[42]⟩, .string ⟨#[36]⟩] := small_of [⟨#[48]⟩, ⟨#[49]⟩, ⟨#[10]⟩, ⟨#[13]⟩, ⟨#[42]⟩, ⟨#[36]⟩] (by decide)
      have HA : Hid (Calls Tryz.prog 29 #[.pointer (some ⟨rb, 0, none⟩), .int .i64 6] w2.drew fun e w3 => ∃ (z : Nat) (t : ByteArray), e = .returned (.int .i64 z) ∧ z < 6 ∧ t.size ≤ 20 ∧ (w3.alloc (.cells #[.string ⟨#[48]⟩, .string ⟨#[49]⟩, .string ⟨#[10]⟩, .string ⟨#[13]⟩, .string ⟨#[42]⟩, .string ⟨#[36]⟩] 9)).cell? ⟨w3.heap.size, z, none⟩ = some (.string t) ∧ Rd (w3.alloc (.cells #[.string ⟨#[48]⟩, .string ⟨#[49]⟩, .string ⟨#[10]⟩, .string ⟨#[13]⟩, .string ⟨#[42]⟩, .string ⟨#[36]⟩] 9)) rb a n c ∧ w.grownBy (w3.alloc (.cells #[.string ⟨#[48]⟩, .string ⟨#[49]⟩, .string ⟨#[10]⟩, .string ⟨#[13]⟩, .string ⟨#[42]⟩, .string ⟨#[36]⟩] 9)) (some rb)) := by
        have rA : Rd w2.drew rb a n c := r2.below (B := rb + 1) (Below.refl _ w2).drew (by omega)
        have gA : w2.grownBy w2.drew (some rb) := ⟨rfl, rfl, rfl, Nat.le_refl _, fun _ _ _ => rfl⟩
        refine (pick_any rb a n c 6 w2.drew rA (by omega) (by omega)).mono ?_
        rintro e w3 ⟨z, rfl, hz, r3, g3⟩
        have bb : Below w3.heap.size w3 (w3.alloc (.cells #[.string ⟨#[48]⟩, .string ⟨#[49]⟩, .string ⟨#[10]⟩, .string ⟨#[13]⟩, .string ⟨#[42]⟩, .string ⟨#[36]⟩] 9)) := (Below.refl _ w3).alloc (Nat.le_refl _) _
        obtain ⟨t, hc, ht⟩ := pick_cell (RowAt.new w3 9 #[.string ⟨#[48]⟩, .string ⟨#[49]⟩, .string ⟨#[10]⟩, .string ⟨#[13]⟩, .string ⟨#[42]⟩, .string ⟨#[36]⟩]) hsm z (by simpa using hz)
        exact ⟨z, t, rfl, hz, ht, hc, r3.below bb (grown_lt (w := w2.drew) b2 g3), grown_below (grown_trans g2 (grown_trans gA g3)) bb⟩
      have HB : Hid (Calls Tryz.prog 29 #[.pointer (some ⟨rb, 0, none⟩), .int .i64 6] (w2.drew.alloc (.cells #[.string ⟨#[48]⟩, .string ⟨#[49]⟩, .string ⟨#[10]⟩, .string ⟨#[13]⟩, .string ⟨#[42]⟩, .string ⟨#[36]⟩] 9)) fun e w3 => ∃ (z : Nat) (t : ByteArray), e = .returned (.int .i64 z) ∧ z < 6 ∧ t.size ≤ 20 ∧ w3.cell? ⟨w2.heap.size, z, none⟩ = some (.string t) ∧ Rd w3 rb a n c ∧ w.grownBy w3 (some rb)) := by
        have hlB := RowAt.new w2.drew 9 #[.string ⟨#[48]⟩, .string ⟨#[49]⟩, .string ⟨#[10]⟩, .string ⟨#[13]⟩, .string ⟨#[42]⟩, .string ⟨#[36]⟩]
        have bB : Below w2.heap.size w2 (w2.drew.alloc (.cells #[.string ⟨#[48]⟩, .string ⟨#[49]⟩, .string ⟨#[10]⟩, .string ⟨#[13]⟩, .string ⟨#[42]⟩, .string ⟨#[36]⟩] 9)) := (Below.refl _ w2).drew.alloc (Nat.le_refl _) _
        refine (pick_any rb a n c 6 _ (r2.below bB b2) (by omega) (by omega)).mono ?_
        rintro e w3 ⟨z, rfl, hz, r3, g3⟩
        obtain ⟨t, hc, ht⟩ := pick_cell (row_read hlB g3 (by show w2.heap.size ≠ rb; omega)) hsm z (by simpa using hz)
        exact ⟨z, t, rfl, hz, ht, hc, r3, grown_trans (grown_below g2 bB) g3⟩
      clear hsm r2 g2' r1 g1
      go_upto_region 7 with fail
      go_region_with (go_at_call 29
                      first
                      | refine HA.out.mono ?_
                      | refine HB.out.mono ?_
                      rintro e w3 ⟨z, t, rfl, hz, ht, hc, r4, g4⟩
                      have z0 : (0 : Int) ≤ (z : Int) := by omega
                      have z1 : (z : Int) < 6 := by omega
                      have hc1 : ¬ 9223372036854775807 < j + t.size := by omega
                      have hc2 : ¬ 9223372036854775807 < j + t.size + (s.size - (j + 1)) := by omega)
      all_goals
        go_wp2
        go_ret
        exact ⟨_, rfl, by simp only [ByteArray.size_append, ByteArray.size_extract]; omega, r4, g4⟩
  · go_wp2_with fail
    refine (bytes_any rb a n c w1 r1 b1).mono ?_
    rintro e w2 ⟨t, rfl, hz, r2, g2⟩
    go_wp2
    go_ret
    exact ⟨_, rfl, by rw [ByteArray.size_append]; omega, r2, grown_trans g1 g2⟩
  · go_wp2
    go_ret
    exact ⟨s, rfl, by omega, r1, g1⟩
  · go_wp2
    go_ret
    exact ⟨s, rfl, by omega, r1, g1⟩
end Go.Proofs.YticajcagcdbgpaaGreatDoor
