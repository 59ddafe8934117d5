/- The arguments of a command, drawn. -/
import Derived.Test.YtielombpeeelkaaDoorDrawT
namespace Go.Proofs.YtielombpeeelkaaDoor
open Go.RowKit

/-- How the drawing of arguments ends: some texts, in memory of their own. -/
def ListEnd (w : World) (rb : Nat) (a : Option Addr) (n c : Nat) (e : Ending) (w' : World) : Prop :=
  ∃ (x : Option Addr) (B off cap : Nat) (ss : List ByteArray), e = .returned (.slice x ss.length cap) ∧ StrsIn w' x B off ss.length ss ∧ ss.length ≤ 6 ∧ Rd w' rb a n c ∧ w.grownBy w' (some rb)

theorem strs_new (w : World) (ss : List ByteArray) (h : ∀ s ∈ ss, s.size ≤ 20) : StrsIn (w.alloc (.cells (ss.map Value.string).toArray 9)) (some ⟨w.heap.size, 0, none⟩) w.heap.size 0 ss.length ss := by
  have hr := RowAt.new w 9 (ss.map Value.string).toArray
  refine ⟨rfl, fun _ => rfl, fun _ => hr.lt, fun i hi => ?_, fun i hi => ?_⟩
  · rw [Nat.zero_add, hr.cell i, List.getD_eq_getElem?_getD, List.getElem?_eq_getElem hi]
    simp [hi]
  · have := h ss[i] (List.getElem_mem hi)
    rw [List.getD_eq_getElem?_getD, List.getElem?_eq_getElem hi]
    show ss[i].size ≤ _
    omega

theorem small_cons {s : ByteArray} {ss : List ByteArray} (h : s.size ≤ 20) (h2 : ∀ x ∈ ss, x.size ≤ 20) : ∀ x ∈ s :: ss, x.size ≤ 20 := fun x hx => by
  rcases List.mem_cons.1 hx with rfl | hx
  · exact h
  · exact h2 x hx
theorem small_nil : ∀ x ∈ ([] : List ByteArray), x.size ≤ 20 := fun x hx => by cases hx

theorem list_end {w wk : World} {rb : Nat} {a : Option Addr} {n c : Nat} (ss : List ByteArray) (hs : ∀ s ∈ ss, s.size ≤ 20) (hl : ss.length ≤ 6) (r : Rd wk rb a n c) (hrb : rb < wk.heap.size) (g : w.grownBy wk (some rb)) :
    ListEnd w rb a n c (.returned (.slice (some ⟨wk.heap.size, 0, none⟩) ss.length ss.length)) (wk.alloc (.cells (ss.map Value.string).toArray 9)) := by
  have hb : Below wk.heap.size wk (wk.alloc (.cells (ss.map Value.string).toArray 9)) := (Below.refl _ wk).alloc (Nat.le_refl _) _
  exact ⟨_, _, _, _, ss, rfl, strs_new wk ss hs, hl, r.below hb hrb, grown_below g hb⟩

theorem grown_lt {w w' : World} {rb k : Nat} (h : k < w.heap.size) (g : w.grownBy w' (some rb)) : k < w'.heap.size := by have := g.size; omega

set_option maxHeartbeats 8000000 in
set_option maxRecDepth 100000 in
theorem args_any (rb : Nat) (a : Option Addr) (n c : Nat) (w : World) (h : Rd w rb a n c) (hrb : rb < w.heap.size) :
    Calls Tryd.prog 23 #[.pointer (some ⟨rb, 0, none⟩)] w (ListEnd w rb a n c) := by
  go_enter Tryd.func23, Tryd.ntmps23
  go_wp2_with fail
  refine (key_any rb a n c w h hrb).mono ?_
  rintro e w1 ⟨s1, rfl, z1, r1, g1⟩
  have b1 := grown_lt hrb g1
  go_wp2_with fail
  refine (text_any rb a n c w1 r1 b1).mono ?_
  rintro e w2 ⟨s2, rfl, z2, r2, g2'⟩
  have g2 := grown_trans g1 g2'
  have b2 := grown_lt b1 g2'
  have hl := RowAt.new w2 9 #[.string ⟨#[102]⟩, .string ⟨#[103]⟩, .string ⟨#[104]⟩]
  have hb : Below w2.heap.size w2 (w2.alloc (.cells #[.string ⟨#[102]⟩, .string ⟨#[103]⟩, .string ⟨#[104]⟩] 9)) := (Below.refl _ w2).alloc (Nat.le_refl _) _
  have hs : SmallC #[.string ⟨#[102]⟩, .string ⟨#[103]⟩, .string ⟨#[104]⟩] := small_of [⟨#[102]⟩, ⟨#[103]⟩, ⟨#[104]⟩] (by decide)
  go_wp2_with fail
  generalize w2.alloc (.cells #[.string ⟨#[102]⟩, .string ⟨#[103]⟩, .string ⟨#[104]⟩] 9) = w3 at *
  refine (pick_any rb a n c 3 w3 (r2.below hb b2) (by omega) (by omega)).mono ?_
  rintro e w4 ⟨j, rfl, hj, r4, g4'⟩
  have g4 := grown_trans (grown_below g2 hb) g4'
  have b4 := grown_lt hrb g4
  obtain ⟨s3, hc, z3⟩ := pick_cell (row_read hl g4' (by omega)) hs j (by simpa using hj)
  have j0 : (0 : Int) ≤ (j : Int) := by omega
  have j1 : (j : Int) < 3 := by omega
  clear hl hb hs g4' g2 g2' g1 r1 r2 b1 b2 h
  go_wp2_with fail
  refine (below_any rb a n c 40 w4 r4 (by omega) (by omega)).mono ?_
  rintro e w5 ⟨k, rfl, k0, k1, r5, g5'⟩
  have g5 := grown_trans g4 g5'
  have b5 := grown_lt hrb g5
  clear hc j0 j1 hj g5' g4 r4 b4
  have hk : k = 0 ∨ k = 1 ∨ k = 2 ∨ k = 3 ∨ k = 4 ∨ k = 5 ∨ k = 6 ∨ k = 7 ∨ k = 8 ∨ k = 9 ∨ k = 10 ∨ k = 11 ∨ k = 12 ∨ k = 13 ∨ k = 14 ∨ k = 15 ∨ k = 16 ∨ k = 17 ∨ k = 18 ∨ k = 19 ∨ k = 20 ∨ k = 21 ∨ k = 22 ∨ k = 23 ∨ k = 24 ∨ k = 25 ∨ k = 26 ∨ k = 27 ∨ k = 28 ∨ k = 29 ∨ k = 30 ∨ k = 31 ∨ k = 32 ∨ k = 33 ∨ k = 34 ∨ k = 35 ∨ k = 36 ∨ k = 37 ∨ k = 38 ∨ k = 39 := by omega
  clear k0 k1
  rcases hk with rfl | rfl | rfl | rfl | rfl | rfl | rfl | rfl | rfl | rfl | rfl | rfl | rfl | rfl | rfl | rfl | rfl | rfl | rfl | rfl | rfl | rfl | rfl | rfl | rfl | rfl | rfl | rfl | rfl | rfl | rfl | rfl | rfl | rfl | rfl | rfl | rfl | rfl | rfl | rfl
  · go_wp2
    go_ret
    exact list_end [⟨#[80, 73, 78, 71]⟩] (small_cons (by decide) small_nil) (by simp) r5 b5 g5
  · go_wp2
    go_ret
    exact list_end [⟨#[83, 69, 84]⟩, s1, s2] (small_cons (by decide) (small_cons z1 (small_cons z2 small_nil))) (by simp) r5 b5 g5
  · go_wp2
    go_ret
    exact list_end [⟨#[83, 69, 84]⟩, s1, s2] (small_cons (by decide) (small_cons z1 (small_cons z2 small_nil))) (by simp) r5 b5 g5
  · go_wp2
    go_ret
    exact list_end [⟨#[83, 69, 84]⟩, s1, s2] (small_cons (by decide) (small_cons z1 (small_cons z2 small_nil))) (by simp) r5 b5 g5
  · go_wp2_with fail
    refine (num_any rb a n c w5 r5 b5).mono ?_
    rintro e w6 ⟨s6, rfl, z6, r6, g6'⟩
    have g6 := grown_trans g5 g6'
    have b6 := grown_lt b5 g6'
    go_wp2
    go_ret
    exact list_end [⟨#[83, 69, 84]⟩, s1, s2, ⟨#[69, 88]⟩, s6] (small_cons (by decide) (small_cons z1 (small_cons z2 (small_cons (by decide) (small_cons z6 small_nil))))) (by simp) r6 b6 g6
  · go_wp2
    go_ret
    exact list_end [⟨#[71, 69, 84]⟩, s1] (small_cons (by decide) (small_cons z1 small_nil)) (by simp) r5 b5 g5
  · go_wp2
    go_ret
    exact list_end [⟨#[71, 69, 84]⟩, s1] (small_cons (by decide) (small_cons z1 small_nil)) (by simp) r5 b5 g5
  · go_wp2_with fail
    refine (num_any rb a n c w5 r5 b5).mono ?_
    rintro e w6 ⟨s6, rfl, z6, r6, g6'⟩
    have g6 := grown_trans g5 g6'
    have b6 := grown_lt b5 g6'
    go_wp2
    go_ret
    exact list_end [⟨#[73, 78, 67, 82, 66, 89]⟩, s1, s6] (small_cons (by decide) (small_cons z1 (small_cons z6 small_nil))) (by simp) r6 b6 g6
  · go_wp2
    go_ret
    exact list_end [⟨#[65, 80, 80, 69, 78, 68]⟩, s1, s2] (small_cons (by decide) (small_cons z1 (small_cons z2 small_nil))) (by simp) r5 b5 g5
  · go_wp2_with fail
    refine (key_any rb a n c w5 r5 b5).mono ?_
    rintro e w6 ⟨s6, rfl, z6, r6, g6'⟩
    have g6 := grown_trans g5 g6'
    have b6 := grown_lt b5 g6'
    go_wp2
    go_ret
    exact list_end [⟨#[68, 69, 76]⟩, s1, s6] (small_cons (by decide) (small_cons z1 (small_cons z6 small_nil))) (by simp) r6 b6 g6
  · go_wp2
    go_ret
    exact list_end [⟨#[69, 88, 73, 83, 84, 83]⟩, s1, ⟨#[108]⟩] (small_cons (by decide) (small_cons z1 (small_cons (by decide) small_nil))) (by simp) r5 b5 g5
  · go_wp2
    go_ret
    exact list_end [⟨#[83, 84, 82, 76, 69, 78]⟩, s1] (small_cons (by decide) (small_cons z1 small_nil)) (by simp) r5 b5 g5
  · go_wp2_with fail
    refine (num_any rb a n c w5 r5 b5).mono ?_
    rintro e w6 ⟨s6, rfl, z6, r6, g6'⟩
    have g6 := grown_trans g5 g6'
    have b6 := grown_lt b5 g6'
    go_wp2_with fail
    refine (num_any rb a n c w6 r6 b6).mono ?_
    rintro e w7 ⟨s7, rfl, z7, r7, g7'⟩
    have g7 := grown_trans g6 g7'
    have b7 := grown_lt b6 g7'
    go_wp2
    go_ret
    exact list_end [⟨#[71, 69, 84, 82, 65, 78, 71, 69]⟩, s1, s6, s7] (small_cons (by decide) (small_cons z1 (small_cons z6 (small_cons z7 small_nil)))) (by simp) r7 b7 g7
  · go_wp2
    go_ret
    exact list_end [⟨#[84, 89, 80, 69]⟩, s1] (small_cons (by decide) (small_cons z1 small_nil)) (by simp) r5 b5 g5
  · go_wp2_with fail
    refine (num_any rb a n c w5 r5 b5).mono ?_
    rintro e w6 ⟨s6, rfl, z6, r6, g6'⟩
    have g6 := grown_trans g5 g6'
    have b6 := grown_lt b5 g6'
    go_wp2
    go_ret
    exact list_end [⟨#[69, 88, 80, 73, 82, 69]⟩, s1, s6] (small_cons (by decide) (small_cons z1 (small_cons z6 small_nil))) (by simp) r6 b6 g6
  · go_wp2
    go_ret
    exact list_end [⟨#[84, 84, 76]⟩, s1] (small_cons (by decide) (small_cons z1 small_nil)) (by simp) r5 b5 g5
  · have hl := RowAt.new w5 9 #[.string ⟨#[76, 80, 85, 83, 72]⟩, .string ⟨#[82, 80, 85, 83, 72]⟩, .string ⟨#[114, 112, 117, 115, 104]⟩]
    have hb : Below w5.heap.size w5 (w5.alloc (.cells #[.string ⟨#[76, 80, 85, 83, 72]⟩, .string ⟨#[82, 80, 85, 83, 72]⟩, .string ⟨#[114, 112, 117, 115, 104]⟩] 9)) := (Below.refl _ w5).alloc (Nat.le_refl _) _
    have hs : SmallC #[.string ⟨#[76, 80, 85, 83, 72]⟩, .string ⟨#[82, 80, 85, 83, 72]⟩, .string ⟨#[114, 112, 117, 115, 104]⟩] := small_of [⟨#[76, 80, 85, 83, 72]⟩, ⟨#[82, 80, 85, 83, 72]⟩, ⟨#[114, 112, 117, 115, 104]⟩] (by decide)
    go_wp2_with fail
    generalize w5.alloc (.cells #[.string ⟨#[76, 80, 85, 83, 72]⟩, .string ⟨#[82, 80, 85, 83, 72]⟩, .string ⟨#[114, 112, 117, 115, 104]⟩] 9) = w6 at *
    refine (pick_any rb a n c 3 w6 (r5.below hb b5) (by omega) (by omega)).mono ?_
    rintro e w7 ⟨j, rfl, hj, r7, g7'⟩
    have g7 := grown_trans (grown_below g5 hb) g7'
    have b7 := grown_lt hrb g7
    obtain ⟨s7, hc, z7⟩ := pick_cell (row_read hl g7' (by omega)) hs j (by simpa using hj)
    have j0 : (0 : Int) ≤ (j : Int) := by omega
    have j1 : (j : Int) < 3 := by omega
    clear hl hb hs g7'
    go_wp2
    go_ret
    exact list_end [s7, ⟨#[108]⟩, s2, s3] (small_cons z7 (small_cons (by decide) (small_cons z2 (small_cons z3 small_nil)))) (by simp) r7 b7 g7
  · have hl := RowAt.new w5 9 #[.string ⟨#[76, 80, 85, 83, 72]⟩, .string ⟨#[82, 80, 85, 83, 72]⟩, .string ⟨#[114, 112, 117, 115, 104]⟩]
    have hb : Below w5.heap.size w5 (w5.alloc (.cells #[.string ⟨#[76, 80, 85, 83, 72]⟩, .string ⟨#[82, 80, 85, 83, 72]⟩, .string ⟨#[114, 112, 117, 115, 104]⟩] 9)) := (Below.refl _ w5).alloc (Nat.le_refl _) _
    have hs : SmallC #[.string ⟨#[76, 80, 85, 83, 72]⟩, .string ⟨#[82, 80, 85, 83, 72]⟩, .string ⟨#[114, 112, 117, 115, 104]⟩] := small_of [⟨#[76, 80, 85, 83, 72]⟩, ⟨#[82, 80, 85, 83, 72]⟩, ⟨#[114, 112, 117, 115, 104]⟩] (by decide)
    go_wp2_with fail
    generalize w5.alloc (.cells #[.string ⟨#[76, 80, 85, 83, 72]⟩, .string ⟨#[82, 80, 85, 83, 72]⟩, .string ⟨#[114, 112, 117, 115, 104]⟩] 9) = w6 at *
    refine (pick_any rb a n c 3 w6 (r5.below hb b5) (by omega) (by omega)).mono ?_
    rintro e w7 ⟨j, rfl, hj, r7, g7'⟩
    have g7 := grown_trans (grown_below g5 hb) g7'
    have b7 := grown_lt hrb g7
    obtain ⟨s7, hc, z7⟩ := pick_cell (row_read hl g7' (by omega)) hs j (by simpa using hj)
    have j0 : (0 : Int) ≤ (j : Int) := by omega
    have j1 : (j : Int) < 3 := by omega
    clear hl hb hs g7'
    go_wp2
    go_ret
    exact list_end [s7, ⟨#[108]⟩, s2, s3] (small_cons z7 (small_cons (by decide) (small_cons z2 (small_cons z3 small_nil)))) (by simp) r7 b7 g7
  · have hl := RowAt.new w5 9 #[.string ⟨#[76, 80, 85, 83, 72]⟩, .string ⟨#[82, 80, 85, 83, 72]⟩, .string ⟨#[114, 112, 117, 115, 104]⟩]
    have hb : Below w5.heap.size w5 (w5.alloc (.cells #[.string ⟨#[76, 80, 85, 83, 72]⟩, .string ⟨#[82, 80, 85, 83, 72]⟩, .string ⟨#[114, 112, 117, 115, 104]⟩] 9)) := (Below.refl _ w5).alloc (Nat.le_refl _) _
    have hs : SmallC #[.string ⟨#[76, 80, 85, 83, 72]⟩, .string ⟨#[82, 80, 85, 83, 72]⟩, .string ⟨#[114, 112, 117, 115, 104]⟩] := small_of [⟨#[76, 80, 85, 83, 72]⟩, ⟨#[82, 80, 85, 83, 72]⟩, ⟨#[114, 112, 117, 115, 104]⟩] (by decide)
    go_wp2_with fail
    generalize w5.alloc (.cells #[.string ⟨#[76, 80, 85, 83, 72]⟩, .string ⟨#[82, 80, 85, 83, 72]⟩, .string ⟨#[114, 112, 117, 115, 104]⟩] 9) = w6 at *
    refine (pick_any rb a n c 3 w6 (r5.below hb b5) (by omega) (by omega)).mono ?_
    rintro e w7 ⟨j, rfl, hj, r7, g7'⟩
    have g7 := grown_trans (grown_below g5 hb) g7'
    have b7 := grown_lt hrb g7
    obtain ⟨s7, hc, z7⟩ := pick_cell (row_read hl g7' (by omega)) hs j (by simpa using hj)
    have j0 : (0 : Int) ≤ (j : Int) := by omega
    have j1 : (j : Int) < 3 := by omega
    clear hl hb hs g7'
    go_wp2
    go_ret
    exact list_end [s7, ⟨#[108]⟩, s2, s3] (small_cons z7 (small_cons (by decide) (small_cons z2 (small_cons z3 small_nil)))) (by simp) r7 b7 g7
  · have hl := RowAt.new w5 9 #[.string ⟨#[76, 80, 79, 80]⟩, .string ⟨#[82, 80, 79, 80]⟩, .string ⟨#[76, 76, 69, 78]⟩]
    have hb : Below w5.heap.size w5 (w5.alloc (.cells #[.string ⟨#[76, 80, 79, 80]⟩, .string ⟨#[82, 80, 79, 80]⟩, .string ⟨#[76, 76, 69, 78]⟩] 9)) := (Below.refl _ w5).alloc (Nat.le_refl _) _
    have hs : SmallC #[.string ⟨#[76, 80, 79, 80]⟩, .string ⟨#[82, 80, 79, 80]⟩, .string ⟨#[76, 76, 69, 78]⟩] := small_of [⟨#[76, 80, 79, 80]⟩, ⟨#[82, 80, 79, 80]⟩, ⟨#[76, 76, 69, 78]⟩] (by decide)
    go_wp2_with fail
    generalize w5.alloc (.cells #[.string ⟨#[76, 80, 79, 80]⟩, .string ⟨#[82, 80, 79, 80]⟩, .string ⟨#[76, 76, 69, 78]⟩] 9) = w6 at *
    refine (pick_any rb a n c 3 w6 (r5.below hb b5) (by omega) (by omega)).mono ?_
    rintro e w7 ⟨j, rfl, hj, r7, g7'⟩
    have g7 := grown_trans (grown_below g5 hb) g7'
    have b7 := grown_lt hrb g7
    obtain ⟨s7, hc, z7⟩ := pick_cell (row_read hl g7' (by omega)) hs j (by simpa using hj)
    have j0 : (0 : Int) ≤ (j : Int) := by omega
    have j1 : (j : Int) < 3 := by omega
    clear hl hb hs g7'
    go_wp2
    go_ret
    exact list_end [s7, ⟨#[108]⟩] (small_cons z7 (small_cons (by decide) small_nil)) (by simp) r7 b7 g7
  · have hl := RowAt.new w5 9 #[.string ⟨#[76, 80, 79, 80]⟩, .string ⟨#[82, 80, 79, 80]⟩, .string ⟨#[76, 76, 69, 78]⟩]
    have hb : Below w5.heap.size w5 (w5.alloc (.cells #[.string ⟨#[76, 80, 79, 80]⟩, .string ⟨#[82, 80, 79, 80]⟩, .string ⟨#[76, 76, 69, 78]⟩] 9)) := (Below.refl _ w5).alloc (Nat.le_refl _) _
    have hs : SmallC #[.string ⟨#[76, 80, 79, 80]⟩, .string ⟨#[82, 80, 79, 80]⟩, .string ⟨#[76, 76, 69, 78]⟩] := small_of [⟨#[76, 80, 79, 80]⟩, ⟨#[82, 80, 79, 80]⟩, ⟨#[76, 76, 69, 78]⟩] (by decide)
    go_wp2_with fail
    generalize w5.alloc (.cells #[.string ⟨#[76, 80, 79, 80]⟩, .string ⟨#[82, 80, 79, 80]⟩, .string ⟨#[76, 76, 69, 78]⟩] 9) = w6 at *
    refine (pick_any rb a n c 3 w6 (r5.below hb b5) (by omega) (by omega)).mono ?_
    rintro e w7 ⟨j, rfl, hj, r7, g7'⟩
    have g7 := grown_trans (grown_below g5 hb) g7'
    have b7 := grown_lt hrb g7
    obtain ⟨s7, hc, z7⟩ := pick_cell (row_read hl g7' (by omega)) hs j (by simpa using hj)
    have j0 : (0 : Int) ≤ (j : Int) := by omega
    have j1 : (j : Int) < 3 := by omega
    clear hl hb hs g7'
    go_wp2
    go_ret
    exact list_end [s7, ⟨#[108]⟩] (small_cons z7 (small_cons (by decide) small_nil)) (by simp) r7 b7 g7
  · go_wp2_with fail
    refine (num_any rb a n c w5 r5 b5).mono ?_
    rintro e w6 ⟨s6, rfl, z6, r6, g6'⟩
    have g6 := grown_trans g5 g6'
    have b6 := grown_lt b5 g6'
    go_wp2_with fail
    refine (num_any rb a n c w6 r6 b6).mono ?_
    rintro e w7 ⟨s7, rfl, z7, r7, g7'⟩
    have g7 := grown_trans g6 g7'
    have b7 := grown_lt b6 g7'
    go_wp2
    go_ret
    exact list_end [⟨#[76, 82, 65, 78, 71, 69]⟩, ⟨#[108]⟩, s6, s7] (small_cons (by decide) (small_cons (by decide) (small_cons z6 (small_cons z7 small_nil)))) (by simp) r7 b7 g7
  · go_wp2_with fail
    refine (num_any rb a n c w5 r5 b5).mono ?_
    rintro e w6 ⟨s6, rfl, z6, r6, g6'⟩
    have g6 := grown_trans g5 g6'
    have b6 := grown_lt b5 g6'
    go_wp2_with fail
    refine (num_any rb a n c w6 r6 b6).mono ?_
    rintro e w7 ⟨s7, rfl, z7, r7, g7'⟩
    have g7 := grown_trans g6 g7'
    have b7 := grown_lt b6 g7'
    go_wp2
    go_ret
    exact list_end [⟨#[76, 82, 65, 78, 71, 69]⟩, ⟨#[108]⟩, s6, s7] (small_cons (by decide) (small_cons (by decide) (small_cons z6 (small_cons z7 small_nil)))) (by simp) r7 b7 g7
  · go_wp2
    go_ret
    exact list_end [⟨#[72, 83, 69, 84]⟩, ⟨#[104]⟩, s3, s2, ⟨#[103]⟩, ⟨#[49]⟩] (small_cons (by decide) (small_cons (by decide) (small_cons z3 (small_cons z2 (small_cons (by decide) (small_cons (by decide) small_nil)))))) (by simp) r5 b5 g5
  · go_wp2
    go_ret
    exact list_end [⟨#[72, 83, 69, 84]⟩, ⟨#[104]⟩, s3, s2, ⟨#[103]⟩, ⟨#[49]⟩] (small_cons (by decide) (small_cons (by decide) (small_cons z3 (small_cons z2 (small_cons (by decide) (small_cons (by decide) small_nil)))))) (by simp) r5 b5 g5
  · go_wp2
    go_ret
    exact list_end [⟨#[72, 71, 69, 84]⟩, ⟨#[104]⟩, s3] (small_cons (by decide) (small_cons (by decide) (small_cons z3 small_nil))) (by simp) r5 b5 g5
  · go_wp2
    go_ret
    exact list_end [⟨#[72, 68, 69, 76]⟩, ⟨#[104]⟩, s3, ⟨#[102]⟩] (small_cons (by decide) (small_cons (by decide) (small_cons z3 (small_cons (by decide) small_nil)))) (by simp) r5 b5 g5
  · have hl := RowAt.new w5 9 #[.string ⟨#[72, 76, 69, 78]⟩, .string ⟨#[72, 71, 69, 84, 65, 76, 76]⟩, .string ⟨#[90, 67, 65, 82, 68]⟩]
    have hb : Below w5.heap.size w5 (w5.alloc (.cells #[.string ⟨#[72, 76, 69, 78]⟩, .string ⟨#[72, 71, 69, 84, 65, 76, 76]⟩, .string ⟨#[90, 67, 65, 82, 68]⟩] 9)) := (Below.refl _ w5).alloc (Nat.le_refl _) _
    have hs : SmallC #[.string ⟨#[72, 76, 69, 78]⟩, .string ⟨#[72, 71, 69, 84, 65, 76, 76]⟩, .string ⟨#[90, 67, 65, 82, 68]⟩] := small_of [⟨#[72, 76, 69, 78]⟩, ⟨#[72, 71, 69, 84, 65, 76, 76]⟩, ⟨#[90, 67, 65, 82, 68]⟩] (by decide)
    go_wp2_with fail
    generalize w5.alloc (.cells #[.string ⟨#[72, 76, 69, 78]⟩, .string ⟨#[72, 71, 69, 84, 65, 76, 76]⟩, .string ⟨#[90, 67, 65, 82, 68]⟩] 9) = w6 at *
    refine (pick_any rb a n c 3 w6 (r5.below hb b5) (by omega) (by omega)).mono ?_
    rintro e w7 ⟨j, rfl, hj, r7, g7'⟩
    have g7 := grown_trans (grown_below g5 hb) g7'
    have b7 := grown_lt hrb g7
    obtain ⟨s7, hc, z7⟩ := pick_cell (row_read hl g7' (by omega)) hs j (by simpa using hj)
    have j0 : (0 : Int) ≤ (j : Int) := by omega
    have j1 : (j : Int) < 3 := by omega
    clear hl hb hs g7'
    go_wp2
    go_ret
    exact list_end [s7, ⟨#[104]⟩] (small_cons z7 (small_cons (by decide) small_nil)) (by simp) r7 b7 g7
  · go_wp2_with fail
    refine (num_any rb a n c w5 r5 b5).mono ?_
    rintro e w6 ⟨s6, rfl, z6, r6, g6'⟩
    have g6 := grown_trans g5 g6'
    have b6 := grown_lt b5 g6'
    go_wp2
    go_ret
    exact list_end [⟨#[90, 65, 68, 68]⟩, ⟨#[122]⟩, s6, s3, ⟨#[51]⟩, ⟨#[109]⟩] (small_cons (by decide) (small_cons (by decide) (small_cons z6 (small_cons z3 (small_cons (by decide) (small_cons (by decide) small_nil)))))) (by simp) r6 b6 g6
  · go_wp2_with fail
    refine (num_any rb a n c w5 r5 b5).mono ?_
    rintro e w6 ⟨s6, rfl, z6, r6, g6'⟩
    have g6 := grown_trans g5 g6'
    have b6 := grown_lt b5 g6'
    go_wp2
    go_ret
    exact list_end [⟨#[90, 65, 68, 68]⟩, ⟨#[122]⟩, s6, s3, ⟨#[51]⟩, ⟨#[109]⟩] (small_cons (by decide) (small_cons (by decide) (small_cons z6 (small_cons z3 (small_cons (by decide) (small_cons (by decide) small_nil)))))) (by simp) r6 b6 g6
  · go_wp2_with fail
    refine (num_any rb a n c w5 r5 b5).mono ?_
    rintro e w6 ⟨s6, rfl, z6, r6, g6'⟩
    have g6 := grown_trans g5 g6'
    have b6 := grown_lt b5 g6'
    go_wp2
    go_ret
    exact list_end [⟨#[90, 65, 68, 68]⟩, ⟨#[122]⟩, s6, s3, ⟨#[51]⟩, ⟨#[109]⟩] (small_cons (by decide) (small_cons (by decide) (small_cons z6 (small_cons z3 (small_cons (by decide) (small_cons (by decide) small_nil)))))) (by simp) r6 b6 g6
  · go_wp2_with fail
    refine (num_any rb a n c w5 r5 b5).mono ?_
    rintro e w6 ⟨s6, rfl, z6, r6, g6'⟩
    have g6 := grown_trans g5 g6'
    have b6 := grown_lt b5 g6'
    go_wp2_with fail
    refine (num_any rb a n c w6 r6 b6).mono ?_
    rintro e w7 ⟨s7, rfl, z7, r7, g7'⟩
    have g7 := grown_trans g6 g7'
    have b7 := grown_lt b6 g7'
    go_wp2
    go_ret
    exact list_end [⟨#[90, 82, 65, 78, 71, 69]⟩, ⟨#[122]⟩, s6, s7] (small_cons (by decide) (small_cons (by decide) (small_cons z6 (small_cons z7 small_nil)))) (by simp) r7 b7 g7
  · have hl := RowAt.new w5 9 #[.string ⟨#[90, 83, 67, 79, 82, 69]⟩, .string ⟨#[90, 82, 65, 78, 75]⟩, .string ⟨#[90, 82, 69, 77]⟩]
    have hb : Below w5.heap.size w5 (w5.alloc (.cells #[.string ⟨#[90, 83, 67, 79, 82, 69]⟩, .string ⟨#[90, 82, 65, 78, 75]⟩, .string ⟨#[90, 82, 69, 77]⟩] 9)) := (Below.refl _ w5).alloc (Nat.le_refl _) _
    have hs : SmallC #[.string ⟨#[90, 83, 67, 79, 82, 69]⟩, .string ⟨#[90, 82, 65, 78, 75]⟩, .string ⟨#[90, 82, 69, 77]⟩] := small_of [⟨#[90, 83, 67, 79, 82, 69]⟩, ⟨#[90, 82, 65, 78, 75]⟩, ⟨#[90, 82, 69, 77]⟩] (by decide)
    go_wp2_with fail
    generalize w5.alloc (.cells #[.string ⟨#[90, 83, 67, 79, 82, 69]⟩, .string ⟨#[90, 82, 65, 78, 75]⟩, .string ⟨#[90, 82, 69, 77]⟩] 9) = w6 at *
    refine (pick_any rb a n c 3 w6 (r5.below hb b5) (by omega) (by omega)).mono ?_
    rintro e w7 ⟨j, rfl, hj, r7, g7'⟩
    have g7 := grown_trans (grown_below g5 hb) g7'
    have b7 := grown_lt hrb g7
    obtain ⟨s7, hc, z7⟩ := pick_cell (row_read hl g7' (by omega)) hs j (by simpa using hj)
    have j0 : (0 : Int) ≤ (j : Int) := by omega
    have j1 : (j : Int) < 3 := by omega
    clear hl hb hs g7'
    go_wp2
    go_ret
    exact list_end [s7, ⟨#[122]⟩, s3] (small_cons z7 (small_cons (by decide) (small_cons z3 small_nil))) (by simp) r7 b7 g7
  · have hl := RowAt.new w5 9 #[.string ⟨#[68, 66, 83, 73, 90, 69]⟩, .string ⟨#[75, 69, 89, 83]⟩, .string ⟨#[70, 76, 85, 83, 72, 65, 76, 76]⟩, .string ⟨#[80, 69, 82, 83, 73, 83, 84]⟩]
    have hb : Below w5.heap.size w5 (w5.alloc (.cells #[.string ⟨#[68, 66, 83, 73, 90, 69]⟩, .string ⟨#[75, 69, 89, 83]⟩, .string ⟨#[70, 76, 85, 83, 72, 65, 76, 76]⟩, .string ⟨#[80, 69, 82, 83, 73, 83, 84]⟩] 9)) := (Below.refl _ w5).alloc (Nat.le_refl _) _
    have hs : SmallC #[.string ⟨#[68, 66, 83, 73, 90, 69]⟩, .string ⟨#[75, 69, 89, 83]⟩, .string ⟨#[70, 76, 85, 83, 72, 65, 76, 76]⟩, .string ⟨#[80, 69, 82, 83, 73, 83, 84]⟩] := small_of [⟨#[68, 66, 83, 73, 90, 69]⟩, ⟨#[75, 69, 89, 83]⟩, ⟨#[70, 76, 85, 83, 72, 65, 76, 76]⟩, ⟨#[80, 69, 82, 83, 73, 83, 84]⟩] (by decide)
    go_wp2_with fail
    generalize w5.alloc (.cells #[.string ⟨#[68, 66, 83, 73, 90, 69]⟩, .string ⟨#[75, 69, 89, 83]⟩, .string ⟨#[70, 76, 85, 83, 72, 65, 76, 76]⟩, .string ⟨#[80, 69, 82, 83, 73, 83, 84]⟩] 9) = w6 at *
    refine (pick_any rb a n c 4 w6 (r5.below hb b5) (by omega) (by omega)).mono ?_
    rintro e w7 ⟨j, rfl, hj, r7, g7'⟩
    have g7 := grown_trans (grown_below g5 hb) g7'
    have b7 := grown_lt hrb g7
    obtain ⟨s7, hc, z7⟩ := pick_cell (row_read hl g7' (by omega)) hs j (by simpa using hj)
    have j0 : (0 : Int) ≤ (j : Int) := by omega
    have j1 : (j : Int) < 4 := by omega
    clear hl hb hs g7'
    go_wp2
    go_ret
    exact list_end [s7] (small_cons z7 small_nil) (by simp) r7 b7 g7
  · go_wp2
    go_ret
    exact list_end [⟨#[80, 69, 82, 83, 73, 83, 84]⟩, s1] (small_cons (by decide) (small_cons z1 small_nil)) (by simp) r5 b5 g5
  · go_wp2
    go_ret
    exact list_end [⟨#[83, 69, 84, 78, 88]⟩, s1, s2] (small_cons (by decide) (small_cons z1 (small_cons z2 small_nil))) (by simp) r5 b5 g5
  · go_wp2
    go_ret
    exact list_end [⟨#[69, 67, 72, 79]⟩, s2] (small_cons (by decide) (small_cons z2 small_nil)) (by simp) r5 b5 g5
  · have hl := RowAt.new w5 9 #[.string ⟨#[71, 69, 84]⟩, .string ⟨#[70, 76, 89]⟩, .string ⟨#[76, 80, 85, 83, 72]⟩, .string ⟨#[72, 83, 69, 84]⟩, .string ⟨#[]⟩]
    have hb : Below w5.heap.size w5 (w5.alloc (.cells #[.string ⟨#[71, 69, 84]⟩, .string ⟨#[70, 76, 89]⟩, .string ⟨#[76, 80, 85, 83, 72]⟩, .string ⟨#[72, 83, 69, 84]⟩, .string ⟨#[]⟩] 9)) := (Below.refl _ w5).alloc (Nat.le_refl _) _
    have hs : SmallC #[.string ⟨#[71, 69, 84]⟩, .string ⟨#[70, 76, 89]⟩, .string ⟨#[76, 80, 85, 83, 72]⟩, .string ⟨#[72, 83, 69, 84]⟩, .string ⟨#[]⟩] := small_of [⟨#[71, 69, 84]⟩, ⟨#[70, 76, 89]⟩, ⟨#[76, 80, 85, 83, 72]⟩, ⟨#[72, 83, 69, 84]⟩, ⟨#[]⟩] (by decide)
    go_wp2_with fail
    generalize w5.alloc (.cells #[.string ⟨#[71, 69, 84]⟩, .string ⟨#[70, 76, 89]⟩, .string ⟨#[76, 80, 85, 83, 72]⟩, .string ⟨#[72, 83, 69, 84]⟩, .string ⟨#[]⟩] 9) = w6 at *
    refine (pick_any rb a n c 5 w6 (r5.below hb b5) (by omega) (by omega)).mono ?_
    rintro e w7 ⟨j, rfl, hj, r7, g7'⟩
    have g7 := grown_trans (grown_below g5 hb) g7'
    have b7 := grown_lt hrb g7
    obtain ⟨s7, hc, z7⟩ := pick_cell (row_read hl g7' (by omega)) hs j (by simpa using hj)
    have j0 : (0 : Int) ≤ (j : Int) := by omega
    have j1 : (j : Int) < 5 := by omega
    clear hl hb hs g7'
    go_wp2
    go_ret
    exact list_end [s7] (small_cons z7 small_nil) (by simp) r7 b7 g7
  · go_wp2
    go_ret
    exact list_end [⟨#[71, 69, 84]⟩, ⟨#[122]⟩] (small_cons (by decide) (small_cons (by decide) small_nil)) (by simp) r5 b5 g5
  · go_wp2
    go_ret
    exact list_end [⟨#[71, 69, 84]⟩, ⟨#[122]⟩] (small_cons (by decide) (small_cons (by decide) small_nil)) (by simp) r5 b5 g5
end Go.Proofs.YtielombpeeelkaaDoor
