/- spec.DrawEscaped and spec.DrawUnescaped: some text, and the bytes are as they were. -/
import Derived.Test.YtdabpbnmfccogaaDraw
namespace Go.Proofs.Ytdabpbnmfccogaa
open Go.RowKit Go.Sort

set_option maxHeartbeats 1000000 in
theorem once_any (rb : Nat) (a : Option Addr) (n c : Nat) (w : World) (h : Rd w rb a n c) :
    Calls Try.prog 19 #[.pointer (some ⟨rb, 0, none⟩), .int .i64 3] w fun e w' => ∃ b : Bool, e = .returned (.bool b) ∧ Rd w' rb a n c ∧ w.grownBy w' (some rb) := by
  go_enter Try.func19, Try.ntmps19
  go_wp2_with fail
  refine (pick_any rb a n c 3 w h (by omega) (by omega)).mono ?_
  rintro e w1 ⟨j, rfl, hj, r1, g1⟩
  go_wp2
  go_ret
  exact ⟨_, rfl, r1, g1⟩

/-- A drawn text. -/
def TextEnd (w : World) (e : Ending) (w' : World) : Prop := ∃ s : ByteArray, e = .returned (.string s) ∧ s.size ≤ 200 ∧ Below w.heap.size w w'

theorem below_grown {w w' : World} {rb : Nat} (g : w.grownBy w' (some rb)) {B : Nat} (h : B ≤ rb) (hB : B ≤ w.heap.size) : Below B w w' :=
  ⟨g.os, g.tape, g.output, g.size, fun k hk => g.block k (by omega) fun e => by have := Option.some.inj e; omega⟩

set_option maxHeartbeats 1000000 in
theorem drawE_any (a : Option Addr) (n c : Nat) (w : World) (hn : n ≤ 9223372036854775807) (hb : BytesIn w a n w.heap.size) :
    Calls Try.prog 7 #[.slice a n c] w (TextEnd w) := by
  go_enter Try.func7, Try.ntmps7
  go_wp2_with fail
  refine (open_any a n c w hn hb).mono ?_
  rintro e w1 ⟨rfl, r1, b1⟩
  have l1 : w.heap.size < w1.heap.size := by obtain ⟨p, _, hr⟩ := r1.row; exact hr.lt
  go_wp2_with fail
  refine (text_any w.heap.size a n c w1 r1 l1).mono ?_
  rintro e w2 ⟨s1, rfl, z1, r2, g2⟩
  have l2 := grown_lt l1 g2
  go_wp2_with fail
  refine (bytes_any 6 (by omega) w.heap.size a n c w2 r2 l2).mono ?_
  rintro e w3 ⟨s2, rfl, z2, r3, g3⟩
  have bb := (b1.trans (below_grown g2 (Nat.le_refl _) (by omega))).trans (below_grown g3 (Nat.le_refl _) (by omega))
  go_wp2
  go_ret
  exact ⟨_, rfl, by rw [ByteArray.size_append]; omega, bb⟩

set_option maxHeartbeats 4000000 in
theorem drawU_any (a : Option Addr) (n c : Nat) (w : World) (hn : n ≤ 9223372036854775807) (hb : BytesIn w a n w.heap.size) :
    Calls Try.prog 11 #[.slice a n c] w (TextEnd w) := by
  go_enter Try.func11, Try.ntmps11
  go_wp2_with fail
  refine (open_any a n c w hn hb).mono ?_
  rintro e w1 ⟨rfl, r1, b1⟩
  have l1 : w.heap.size < w1.heap.size := by obtain ⟨p, _, hr⟩ := r1.row; exact hr.lt
  go_wp2_with fail
  refine (text_any w.heap.size a n c w1 r1 l1).mono ?_
  rintro e w2 ⟨s1, rfl, z1, r2, g2⟩
  have l2 := grown_lt l1 g2
  go_wp2_with fail
  refine (bytes_any 4 (by omega) w.heap.size a n c w2 r2 l2).mono ?_
  rintro e w3 ⟨s2, rfl, z2, r3, g3⟩
  have l3 := grown_lt l2 g3
  have bb := (b1.trans (below_grown g2 (Nat.le_refl _) (by omega))).trans (below_grown g3 (Nat.le_refl _) (by omega))
  have hz : (s1 ++ s2).size ≤ 40 := by rw [ByteArray.size_append]; omega
  have hz2 := ByteArray.size_append (a := s1) (b := s2)
  have cE := specEscaped (s1 ++ s2) w3 (by omega)
  have hel := escL_len (s1 ++ s2).data.toList
  rw [← Lib.size_eq] at hel
  have hes : (⟨(escL (s1 ++ s2).data.toList).toArray⟩ : ByteArray).size ≤ 160 := by show (escL (s1 ++ s2).data.toList).toArray.size ≤ 160; simp only [List.size_toArray]; omega
  generalize (⟨(escL (s1 ++ s2).data.toList).toArray⟩ : ByteArray) = s3 at *
  clear g2 g3 hel hz2
  go_wp2_with fail
  refine cE.mono ?_
  rintro e w4 ⟨rfl, b4⟩
  have r4 := r3.below b4 l3
  have s4 := b4.size
  have bb4 := bb.trans (b4.mono (by omega))
  clear cE b4
  go_wp2_with fail
  refine (once_any w.heap.size a n c w4 r4).mono ?_
  rintro e w5 ⟨b, rfl, r5, g5⟩
  have l5 : w.heap.size < w5.heap.size := by have := g5.size; omega
  have bb5 := bb4.trans (below_grown g5 (Nat.le_refl _) (by omega))
  clear g5
  cases b with
  | false =>
    go_wp2
    go_ret
    exact ⟨_, rfl, by omega, bb5⟩
  | true =>
    have hl := RowAt.new w5 9 #[.string ⟨#[92]⟩, .string ⟨#[92, 120]⟩, .string ⟨#[92, 120, 52]⟩, .string ⟨#[92, 120, 52, 49]⟩, .string ⟨#[92, 113]⟩, .string ⟨#[92, 88, 48, 48]⟩, .string ⟨#[92, 120, 48, 65]⟩, .string ⟨#[92, 120, 48, 97]⟩, .string ⟨#[92, 120, 102, 102]⟩]
    have hb6 : Below w5.heap.size w5 (w5.alloc (.cells #[.string ⟨#[92]⟩, .string ⟨#[92, 120]⟩, .string ⟨#[92, 120, 52]⟩, .string ⟨#[92, 120, 52, 49]⟩, .string ⟨#[92, 113]⟩, .string ⟨#[92, 88, 48, 48]⟩, .string ⟨#[92, 120, 48, 65]⟩, .string ⟨#[92, 120, 48, 97]⟩, .string ⟨#[92, 120, 102, 102]⟩] 9)) := (Below.refl _ w5).alloc (Nat.le_refl _) _
    have hs : SmallC #[.string ⟨#[92]⟩, .string ⟨#[92, 120]⟩, .string ⟨#[92, 120, 52]⟩, .string ⟨#[92, 120, 52, 49]⟩, .string ⟨#[92, 113]⟩, .string ⟨#[92, 88, 48, 48]⟩, .string ⟨#[92, 120, 48, 65]⟩, .string ⟨#[92, 120, 48, 97]⟩, .string ⟨#[92, 120, 102, 102]⟩] := small_of [⟨#[92]⟩, ⟨#[92, 120]⟩, ⟨#[92, 120, 52]⟩, ⟨#[92, 120, 52, 49]⟩, ⟨#[92, 113]⟩, ⟨#[92, 88, 48, 48]⟩, ⟨#[92, 120, 48, 65]⟩, ⟨#[92, 120, 48, 97]⟩, ⟨#[92, 120, 102, 102]⟩] (by decide)
    go_wp2_with fail
    generalize w5.alloc (.cells #[.string ⟨#[92]⟩, .string ⟨#[92, 120]⟩, .string ⟨#[92, 120, 52]⟩, .string ⟨#[92, 120, 52, 49]⟩, .string ⟨#[92, 113]⟩, .string ⟨#[92, 88, 48, 48]⟩, .string ⟨#[92, 120, 48, 65]⟩, .string ⟨#[92, 120, 48, 97]⟩, .string ⟨#[92, 120, 102, 102]⟩] 9) = w6 at *
    have s6 := hb6.size
    refine (pick_any w.heap.size a n c 9 w6 (r5.below hb6 l5) (by omega) (by omega)).mono ?_
    rintro e w7 ⟨j, rfl, hj, r7, g7⟩
    obtain ⟨x, hc, hzx⟩ := pick_cell (row_read hl g7 (by omega)) hs j (by simpa using hj)
    have j0 : (0 : Int) ≤ (j : Int) := by omega
    have j1 : (j : Int) < 9 := by omega
    have bb7 := (bb5.trans (hb6.mono (by omega))).trans (below_grown g7 (Nat.le_refl _) (by omega))
    clear hl hb6 hs g7
    go_wp2
    go_ret
    exact ⟨_, rfl, by rw [ByteArray.size_append]; omega, bb7⟩
end Go.Proofs.Ytdabpbnmfccogaa
