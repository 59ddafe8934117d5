/- Short texts that are drawn. -/
import Derived.Test.YtielombpeeelkaaDoorDraw
namespace Go.Proofs.YtielombpeeelkaaDoor
open Go.RowKit

def StrEnd (w : World) (rb : Nat) (a : Option Addr) (n c : Nat) (e : Ending) (w' : World) : Prop :=
  ∃ s : ByteArray, e = .returned (.string s) ∧ s.size ≤ 20 ∧ Rd w' rb a n c ∧ w.grownBy w' (some rb)

theorem row_read {W W' : World} {rb q : Nat} {T : TypeId} {C : Array Value} (h : RowAt W q T C) (g : W.grownBy W' (some rb)) (hq : q ≠ rb) : RowAt W' q T C := (g.block q h.lt (fun e => hq (Option.some.inj e))).trans h

def SmallC (C : Array Value) : Prop := ∀ j, j < C.size → ∃ s : ByteArray, C[j]? = some (.string s) ∧ s.size ≤ 20

def smallL (l : List ByteArray) : Bool := l.all fun s => decide (s.size ≤ 20)

theorem small_of (l : List ByteArray) (h : smallL l = true) : SmallC (l.map Value.string).toArray := fun j hj => by
  have hj' : j < l.length := by simpa using hj
  refine ⟨l[j], ?_, ?_⟩
  · simp [hj']
  · exact of_decide_eq_true (List.all_eq_true.1 h _ (List.getElem_mem hj'))

theorem pick_cell {w : World} {B : Nat} {C : Array Value} (h : RowAt w B 9 C) (hC : SmallC C) (j : Nat) (hj : j < C.size) : ∃ s : ByteArray, w.cell? ⟨B, j, none⟩ = some (.string s) ∧ s.size ≤ 20 := by
  obtain ⟨s, h1, h2⟩ := hC j hj
  exact ⟨s, (h.cell j).trans h1, h2⟩


set_option maxHeartbeats 1000000 in
theorem text_any (rb : Nat) (a : Option Addr) (n c : Nat) (w : World) (h : Rd w rb a n c) (hrb : rb < w.heap.size) :
    Calls Tryd.prog 43 #[.pointer (some ⟨rb, 0, none⟩)] w (StrEnd w rb a n c) := by
  have hl := RowAt.new w 9 #[.string ⟨#[97]⟩, .string ⟨#[98]⟩, .string ⟨#[]⟩, .string ⟨#[49, 48]⟩, .string ⟨#[97, 98, 99]⟩, .string ⟨#[120, 32, 121]⟩, .string ⟨#[45, 55]⟩, .string ⟨#[13, 10]⟩]
  have hb : Below w.heap.size w (w.alloc (.cells #[.string ⟨#[97]⟩, .string ⟨#[98]⟩, .string ⟨#[]⟩, .string ⟨#[49, 48]⟩, .string ⟨#[97, 98, 99]⟩, .string ⟨#[120, 32, 121]⟩, .string ⟨#[45, 55]⟩, .string ⟨#[13, 10]⟩] 9)) := (Below.refl _ w).alloc (Nat.le_refl _) _
  have hs : SmallC #[.string ⟨#[97]⟩, .string ⟨#[98]⟩, .string ⟨#[]⟩, .string ⟨#[49, 48]⟩, .string ⟨#[97, 98, 99]⟩, .string ⟨#[120, 32, 121]⟩, .string ⟨#[45, 55]⟩, .string ⟨#[13, 10]⟩] := small_of [⟨#[97]⟩, ⟨#[98]⟩, ⟨#[]⟩, ⟨#[49, 48]⟩, ⟨#[97, 98, 99]⟩, ⟨#[120, 32, 121]⟩, ⟨#[45, 55]⟩, ⟨#[13, 10]⟩] (by decide)
  go_enter Tryd.func43, Tryd.ntmps43
  go_wp2_with fail
  generalize w.alloc (.cells #[.string ⟨#[97]⟩, .string ⟨#[98]⟩, .string ⟨#[]⟩, .string ⟨#[49, 48]⟩, .string ⟨#[97, 98, 99]⟩, .string ⟨#[120, 32, 121]⟩, .string ⟨#[45, 55]⟩, .string ⟨#[13, 10]⟩] 9) = w1 at *
  refine (pick_any rb a n c 8 w1 (h.below hb hrb) (by omega) (by omega)).mono ?_
  rintro e w2 ⟨j, rfl, hj, r2, g2⟩
  have gg := grown_trans (grown_below (grown_refl w _) hb) g2
  obtain ⟨s, hc, hz⟩ := pick_cell (row_read hl g2 (by omega)) hs j (by simpa using hj)
  have j0 : (0 : Int) ≤ (j : Int) := by omega
  have j1 : (j : Int) < 8 := by omega
  clear hl hb hs g2
  go_wp2
  go_ret
  exact ⟨s, rfl, hz, r2, gg⟩

set_option maxHeartbeats 1000000 in
theorem key_any (rb : Nat) (a : Option Addr) (n c : Nat) (w : World) (h : Rd w rb a n c) (hrb : rb < w.heap.size) :
    Calls Tryd.prog 42 #[.pointer (some ⟨rb, 0, none⟩)] w (StrEnd w rb a n c) := by
  have hl := RowAt.new w 9 #[.string ⟨#[107]⟩, .string ⟨#[108]⟩, .string ⟨#[104]⟩, .string ⟨#[122]⟩, .string ⟨#[107]⟩]
  have hb : Below w.heap.size w (w.alloc (.cells #[.string ⟨#[107]⟩, .string ⟨#[108]⟩, .string ⟨#[104]⟩, .string ⟨#[122]⟩, .string ⟨#[107]⟩] 9)) := (Below.refl _ w).alloc (Nat.le_refl _) _
  have hs : SmallC #[.string ⟨#[107]⟩, .string ⟨#[108]⟩, .string ⟨#[104]⟩, .string ⟨#[122]⟩, .string ⟨#[107]⟩] := small_of [⟨#[107]⟩, ⟨#[108]⟩, ⟨#[104]⟩, ⟨#[122]⟩, ⟨#[107]⟩] (by decide)
  go_enter Tryd.func42, Tryd.ntmps42
  go_wp2_with fail
  generalize w.alloc (.cells #[.string ⟨#[107]⟩, .string ⟨#[108]⟩, .string ⟨#[104]⟩, .string ⟨#[122]⟩, .string ⟨#[107]⟩] 9) = w1 at *
  refine (pick_any rb a n c 5 w1 (h.below hb hrb) (by omega) (by omega)).mono ?_
  rintro e w2 ⟨j, rfl, hj, r2, g2⟩
  have gg := grown_trans (grown_below (grown_refl w _) hb) g2
  obtain ⟨s, hc, hz⟩ := pick_cell (row_read hl g2 (by omega)) hs j (by simpa using hj)
  have j0 : (0 : Int) ≤ (j : Int) := by omega
  have j1 : (j : Int) < 5 := by omega
  clear hl hb hs g2
  go_wp2
  go_ret
  exact ⟨s, rfl, hz, r2, gg⟩

set_option maxHeartbeats 1000000 in
theorem num_any (rb : Nat) (a : Option Addr) (n c : Nat) (w : World) (h : Rd w rb a n c) (hrb : rb < w.heap.size) :
    Calls Tryd.prog 44 #[.pointer (some ⟨rb, 0, none⟩)] w (StrEnd w rb a n c) := by
  have hl := RowAt.new w 9 #[.string ⟨#[48]⟩, .string ⟨#[49]⟩, .string ⟨#[45, 49]⟩, .string ⟨#[53]⟩, .string ⟨#[50]⟩, .string ⟨#[49, 48, 48]⟩, .string ⟨#[120]⟩]
  have hb : Below w.heap.size w (w.alloc (.cells #[.string ⟨#[48]⟩, .string ⟨#[49]⟩, .string ⟨#[45, 49]⟩, .string ⟨#[53]⟩, .string ⟨#[50]⟩, .string ⟨#[49, 48, 48]⟩, .string ⟨#[120]⟩] 9)) := (Below.refl _ w).alloc (Nat.le_refl _) _
  have hs : SmallC #[.string ⟨#[48]⟩, .string ⟨#[49]⟩, .string ⟨#[45, 49]⟩, .string ⟨#[53]⟩, .string ⟨#[50]⟩, .string ⟨#[49, 48, 48]⟩, .string ⟨#[120]⟩] := small_of [⟨#[48]⟩, ⟨#[49]⟩, ⟨#[45, 49]⟩, ⟨#[53]⟩, ⟨#[50]⟩, ⟨#[49, 48, 48]⟩, ⟨#[120]⟩] (by decide)
  go_enter Tryd.func44, Tryd.ntmps44
  go_wp2_with fail
  generalize w.alloc (.cells #[.string ⟨#[48]⟩, .string ⟨#[49]⟩, .string ⟨#[45, 49]⟩, .string ⟨#[53]⟩, .string ⟨#[50]⟩, .string ⟨#[49, 48, 48]⟩, .string ⟨#[120]⟩] 9) = w1 at *
  refine (pick_any rb a n c 7 w1 (h.below hb hrb) (by omega) (by omega)).mono ?_
  rintro e w2 ⟨j, rfl, hj, r2, g2⟩
  have gg := grown_trans (grown_below (grown_refl w _) hb) g2
  obtain ⟨s, hc, hz⟩ := pick_cell (row_read hl g2 (by omega)) hs j (by simpa using hj)
  have j0 : (0 : Int) ≤ (j : Int) := by omega
  have j1 : (j : Int) < 7 := by omega
  clear hl hb hs g2
  go_wp2
  go_ret
  exact ⟨s, rfl, hz, r2, gg⟩

end Go.Proofs.YtielombpeeelkaaDoor
