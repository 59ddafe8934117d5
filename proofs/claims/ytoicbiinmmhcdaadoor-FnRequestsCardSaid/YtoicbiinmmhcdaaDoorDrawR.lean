/- What ReadRequest is tried at, drawn; and requests. -/
import Derived.Test.YtoicbiinmmhcdaaDoorDrawH
import Derived.Test.YtoicbiinmmhcdaaDoorRqMath
namespace Go.Proofs.YtoicbiinmmhcdaaDoor
open Go.RowKit Go.Sort

set_option maxHeartbeats 1000000 in
theorem drawReq (ra : Option Addr) (rn rc : Nat) (w : World) (hn : rn ≤ 9223372036854775807) (hb : BytesIn w ra rn w.heap.size) :
    Calls Tryd.prog 6 #[.slice ra rn rc] w fun e w' => ∃ (x : Option Addr) (B off cap : Nat) (ss : List ByteArray), e = .returned (.slice x ss.length cap) ∧ StrsIn w' x B off ss.length ss ∧ ss.length ≤ 6 ∧ Below w.heap.size w w' := by
  go_enter Tryd.func6, Tryd.ntmps6
  go_wp2_with fail
  refine (open_any ra rn rc w hn hb).mono ?_
  rintro e w1 ⟨rfl, r1, b1⟩
  have s1 : w.heap.size < w1.heap.size := by
    obtain ⟨p, _, hr⟩ := r1.row
    exact hr.lt
  go_wp2_with fail
  refine (args_any w.heap.size ra rn rc w1 r1 s1).mono ?_
  rintro e w2 ⟨x, B, off, cap, ss, rfl, hs, hl, r2, g2⟩
  go_wp2
  go_ret
  exact ⟨x, B, off, cap, ss, rfl, hs, hl, b1.trans (below_of_grown g2 (Nat.le_refl _) (by omega))⟩

/-- The reader in the world that the drawing has come to. -/
structure Now (w : World) (rb : Nat) (a : Option Addr) (n c : Nat) (W : World) : Prop where
  rd : Rd W rb a n c
  lt : rb < W.heap.size
  gr : w.grownBy W (some rb)

theorem Now.alloc {w : World} {rb : Nat} {a : Option Addr} {n c : Nat} {W : World} (h : Now w rb a n c W) (o : Obj) : Now w rb a n c (W.alloc o) :=
  have hb : Below W.heap.size W (W.alloc o) := (Below.refl _ W).alloc (Nat.le_refl _) _
  ⟨h.rd.below hb h.lt, Nat.lt_of_lt_of_le h.lt hb.size, grown_below h.gr hb⟩

theorem Now.next {w : World} {rb : Nat} {a : Option Addr} {n c : Nat} {W W' : World} (h : Now w rb a n c W) (r : Rd W' rb a n c) (g : W.grownBy W' (some rb)) : Now w rb a n c W' :=
  ⟨r, grown_lt h.lt g, grown_trans h.gr g⟩

def Keeps (rb : Nat) (W W' : World) : Prop := ∀ q C, q ≠ rb → RowAt W q 9 C → RowAt W' q 9 C

theorem keeps_of {rb : Nat} {W W' : World} (g : W.grownBy W' (some rb)) : Keeps rb W W' := fun _ _ hq h => row_read h g hq

/-- A short text of a row that was laid. -/
def textAt (l : List ByteArray) (z : Nat) : ByteArray := l.getD z ByteArray.empty

theorem textAt_small {l : List ByteArray} (h : smallL l = true) (z : Nat) : (textAt l z).size ≤ 20 := by
  unfold textAt
  rw [List.getD_eq_getElem?_getD]
  rcases Nat.lt_or_ge z l.length with hz | hz
  · rw [List.getElem?_eq_getElem hz]
    exact of_decide_eq_true (List.all_eq_true.1 h _ (List.getElem_mem hz))
  · rw [List.getElem?_eq_none hz]
    exact Nat.zero_le _

theorem cell_text {W : World} {q : Nat} {l : List ByteArray} (h : RowAt W q 9 (l.map Value.string).toArray) (z : Nat) (hz : z < l.length) : W.cell? ⟨q, z, none⟩ = some (.string (textAt l z)) := by
  rw [h.cell z]
  unfold textAt
  rw [List.getD_eq_getElem?_getD, List.getElem?_eq_getElem hz]
  simp [hz]

set_option maxHeartbeats 8000000 in
set_option maxRecDepth 100000 in
theorem drawRead (ra : Option Addr) (rn rc : Nat) (w0 : World) (hn : rn ≤ 9223372036854775807) (hb : BytesIn w0 ra rn w0.heap.size) :
    Calls Tryd.prog 11 #[.slice ra rn rc] w0 fun e w' => ∃ s : ByteArray, e = .returned (.string s) ∧ s.size ≤ 6000 ∧ Below w0.heap.size w0 w' := by
  go_enter Tryd.func11, Tryd.ntmps11
  go_wp2_with fail
  refine (open_any ra rn rc w0 hn hb).mono ?_
  rintro e w ⟨rfl, r0, b0⟩
  have s0 : w0.heap.size < w.heap.size := by
    obtain ⟨p, _, hr⟩ := r0.row
    exact hr.lt
  generalize hE : w0.heap.size = rb at *
  have fin : Hid (∀ W, w.grownBy W (some rb) → Below w0.heap.size w0 W) := fun W g => by
    rw [hE]
    exact b0.trans (below_of_grown g (Nat.le_refl _) (by omega))
  clear hE
  go_wp2_with fail
  refine (below_any rb ra rn rc 8 w r0 (by omega) (by omega)).mono ?_
  rintro e w1 ⟨k, rfl, k0, k1, r1, g1⟩
  have n1 : Now w rb ra rn rc w1 := ⟨r1, grown_lt s0 g1, g1⟩
  clear r1 g1 r0 s0
  have hk : k = 1 ∨ k = 2 ∨ (¬ k = 1 ∧ ¬ k = 2) := by omega
  rcases hk with rfl | rfl | ⟨hk1, hk2⟩
  · have hl := RowAt.new w1 9 #[.string ⟨#[]⟩, .string ⟨#[42]⟩, .string ⟨#[42, 48, 13, 10]⟩, .string ⟨#[42, 49, 55, 13, 10]⟩, .string ⟨#[42, 49, 13, 10, 58, 49, 13, 10]⟩, .string ⟨#[42, 49, 13, 10, 36, 50, 48, 49, 13, 10]⟩, .string ⟨#[42, 120, 13, 10]⟩, .string ⟨#[42, 45, 49, 13, 10]⟩]
    have hs : SmallC #[.string ⟨#[]⟩, .string ⟨#[42]⟩, .string ⟨#[42, 48, 13, 10]⟩, .string ⟨#[42, 49, 55, 13, 10]⟩, .string ⟨#[42, 49, 13, 10, 58, 49, 13, 10]⟩, .string ⟨#[42, 49, 13, 10, 36, 50, 48, 49, 13, 10]⟩, .string ⟨#[42, 120, 13, 10]⟩, .string ⟨#[42, 45, 49, 13, 10]⟩] := small_of [⟨#[]⟩, ⟨#[42]⟩, ⟨#[42, 48, 13, 10]⟩, ⟨#[42, 49, 55, 13, 10]⟩, ⟨#[42, 49, 13, 10, 58, 49, 13, 10]⟩, ⟨#[42, 49, 13, 10, 36, 50, 48, 49, 13, 10]⟩, ⟨#[42, 120, 13, 10]⟩, ⟨#[42, 45, 49, 13, 10]⟩] (by decide)
    have na := n1.alloc (.cells #[.string ⟨#[]⟩, .string ⟨#[42]⟩, .string ⟨#[42, 48, 13, 10]⟩, .string ⟨#[42, 49, 55, 13, 10]⟩, .string ⟨#[42, 49, 13, 10, 58, 49, 13, 10]⟩, .string ⟨#[42, 49, 13, 10, 36, 50, 48, 49, 13, 10]⟩, .string ⟨#[42, 120, 13, 10]⟩, .string ⟨#[42, 45, 49, 13, 10]⟩] 9)
    have hlt := n1.lt
    go_wp2_with fail
    generalize w1.alloc (.cells #[.string ⟨#[]⟩, .string ⟨#[42]⟩, .string ⟨#[42, 48, 13, 10]⟩, .string ⟨#[42, 49, 55, 13, 10]⟩, .string ⟨#[42, 49, 13, 10, 58, 49, 13, 10]⟩, .string ⟨#[42, 49, 13, 10, 36, 50, 48, 49, 13, 10]⟩, .string ⟨#[42, 120, 13, 10]⟩, .string ⟨#[42, 45, 49, 13, 10]⟩] 9) = w2 at *
    refine (pick_any rb ra rn rc 8 w2 na.rd (by omega) (by omega)).mono ?_
    rintro e w3 ⟨j, rfl, hj, r3, g3⟩
    obtain ⟨s, hc, hz⟩ := pick_cell (row_read hl g3 (by omega)) hs j (by simpa using hj)
    have j0 : (0 : Int) ≤ (j : Int) := by omega
    have j1 : (j : Int) < 8 := by omega
    clear hl hs
    go_wp2
    go_ret
    exact ⟨s, rfl, by omega, fin.out _ (na.next r3 g3).gr⟩
  · have hlt := n1.lt
    have nD : Now w rb ra rn rc w1.drew := n1.next (n1.rd.below (B := rb + 1) (Below.refl _ w1).drew (by omega)) ⟨rfl, rfl, rfl, Nat.le_refl _, fun _ _ _ => rfl⟩
    have CB : Hid (∀ W, Now w rb ra rn rc W → Calls Tryd.prog 25 #[.pointer (some ⟨rb, 0, none⟩), .int .i64 4] W fun e W' => ∃ (z : Nat) (u : ByteArray), e = .returned (.int .i64 z) ∧ z < 4 ∧ u.size ≤ 20 ∧ Hid (∀ V q, RowAt V q 9 #[.string ⟨#[10]⟩, .string ⟨#[13, 10]⟩, .string ⟨#[]⟩, .string ⟨#[13]⟩] → V.cell? ⟨q, z, none⟩ = some (.string u)) ∧ Now w rb ra rn rc W' ∧ Hid (Keeps rb W W')) := fun W hW =>
      (pick_any rb ra rn rc 4 W hW.rd (by omega) (by omega)).mono fun e W' ⟨z, he, hz, r, g⟩ => ⟨z, textAt [⟨#[10]⟩, ⟨#[13, 10]⟩, ⟨#[]⟩, ⟨#[13]⟩] z, he, hz, textAt_small (by decide) z, fun V q h => cell_text (l := [⟨#[10]⟩, ⟨#[13, 10]⟩, ⟨#[]⟩, ⟨#[13]⟩]) h z hz, hW.next r g, keeps_of g⟩
    have CT : Hid (∀ W, Now w rb ra rn rc W → Calls Tryd.prog 26 #[.pointer (some ⟨rb, 0, none⟩)] W fun e W' => ∃ (t : ByteArray), e = .returned (.string t) ∧ t.size ≤ 20 ∧ Now w rb ra rn rc W' ∧ Hid (Keeps rb W W')) := fun W hW =>
      (text_any rb ra rn rc W hW.rd hW.lt).mono fun e W' ⟨t, he, ht, r, g⟩ => ⟨t, he, ht, hW.next r g, keeps_of g⟩
    have q1 : Hid (RowAt (w1.drew.alloc (.cells #[.string ⟨#[10]⟩, .string ⟨#[13, 10]⟩, .string ⟨#[]⟩, .string ⟨#[13]⟩] 9)) w1.heap.size 9 #[.string ⟨#[10]⟩, .string ⟨#[13, 10]⟩, .string ⟨#[]⟩, .string ⟨#[13]⟩]) := RowAt.new w1.drew 9 #[.string ⟨#[10]⟩, .string ⟨#[13, 10]⟩, .string ⟨#[]⟩, .string ⟨#[13]⟩]
    clear hn hb b0
    go_upto_region 6 with fail
    go_region_with (first
      | (go_at_call 25
         refine (CB.out _ (by first | exact nD | exact nD.alloc _)).mono ?_
         rintro e w3 ⟨z, u, rfl, hz, hu, hcq, n3, k3⟩
         have z0 : (0 : Int) ≤ (z : Int) := by omega
         have z1 : (z : Int) < 4 := by omega
         have hc1 : ¬ 9223372036854775807 < 8 + u.size := by omega
         have l3 := n3.lt
         have hA := hcq.out _ _ (RowAt.new w3 9 #[.string ⟨#[10]⟩, .string ⟨#[13, 10]⟩, .string ⟨#[]⟩, .string ⟨#[13]⟩])
         try have hq : Hid (RowAt w3 w1.heap.size 9 #[.string ⟨#[10]⟩, .string ⟨#[13, 10]⟩, .string ⟨#[]⟩, .string ⟨#[13]⟩]) := k3.out _ _ (by omega) q1.out
         try have hB := hcq.out _ _ hq.out)
      | (go_at_call 26
         refine (CT.out _ (by first | exact n3 | exact n3.alloc _)).mono ?_
         rintro e w4 ⟨t, rfl, ht, n4, k4⟩
         have hc2 : ¬ 9223372036854775807 < 8 + u.size + t.size := by omega
         have hC := hcq.out _ _ (RowAt.new w4 9 #[.string ⟨#[10]⟩, .string ⟨#[13, 10]⟩, .string ⟨#[]⟩, .string ⟨#[13]⟩])
         try have hD := hcq.out _ _ (k4.out _ _ (by omega) (RowAt.new w3 9 #[.string ⟨#[10]⟩, .string ⟨#[13, 10]⟩, .string ⟨#[]⟩, .string ⟨#[13]⟩]))
         try have hE := hcq.out _ _ (k4.out _ _ (by omega) hq.out)))
    all_goals
      go_wp2
      go_ret
      exact ⟨_, rfl, by simp only [ByteArray.size_append]; show 8 + u.size + t.size ≤ 6000; omega, fin.out _ (by first | exact n4.gr | exact (n4.alloc _).gr)⟩
  · have d1 : (k == 1) = false := by simpa using hk1
    have d2 : (k == 2) = false := by simpa using hk2
    clear hk1 hk2
    go_wp2_with fail
    refine (args_any rb ra rn rc w1 n1.rd n1.lt).mono ?_
    rintro e w2 ⟨x, B, off, cap, ss, rfl, hs, hl, r2, g2⟩
    have n2 := n1.next r2 g2
    go_wp2_with fail
    refine (specText x B off ss.length cap ss w2 hs (by omega)).mono ?_
    rintro e w3 ⟨rfl, b3⟩
    have n3 : Now w rb ra rn rc w3 := ⟨n2.rd.below b3 n2.lt, Nat.lt_of_lt_of_le n2.lt b3.size, grown_below n2.gr b3⟩
    have hlen := req_len ss
    have hsz : (⟨(reqText ss).toArray⟩ : ByteArray).size ≤ 5000 := by rw [size_mk]; exact hlen
    generalize (⟨(reqText ss).toArray⟩ : ByteArray) = v at *
    go_wp2_with fail
    refine (hurt_any rb ra rn rc v w3 n3.rd n3.lt (by omega)).mono ?_
    rintro e w4 ⟨s, rfl, hss, r4, g4⟩
    have n4 := n3.next r4 g4
    have q4 := RowAt.new w4 9 #[.string ⟨#[]⟩, .string ⟨#[]⟩, .string ⟨#[42, 49, 13, 10]⟩, .string ⟨#[80, 73, 78, 71, 10]⟩]
    have hsm : SmallC #[.string ⟨#[]⟩, .string ⟨#[]⟩, .string ⟨#[42, 49, 13, 10]⟩, .string ⟨#[80, 73, 78, 71, 10]⟩] := small_of [⟨#[]⟩, ⟨#[]⟩, ⟨#[42, 49, 13, 10]⟩, ⟨#[80, 73, 78, 71, 10]⟩] (by decide)
    have n5 := n4.alloc (.cells #[.string ⟨#[]⟩, .string ⟨#[]⟩, .string ⟨#[42, 49, 13, 10]⟩, .string ⟨#[80, 73, 78, 71, 10]⟩] 9)
    have l4 := n4.lt
    go_wp2_with fail
    generalize w4.alloc (.cells #[.string ⟨#[]⟩, .string ⟨#[]⟩, .string ⟨#[42, 49, 13, 10]⟩, .string ⟨#[80, 73, 78, 71, 10]⟩] 9) = w5 at *
    refine (pick_any rb ra rn rc 4 w5 n5.rd (by omega) (by omega)).mono ?_
    rintro e w6 ⟨z, rfl, hz, r6, g6⟩
    obtain ⟨u, hc, hu⟩ := pick_cell (row_read q4 g6 (by omega)) hsm z (by simpa using hz)
    have z0 : (0 : Int) ≤ (z : Int) := by omega
    have z1 : (z : Int) < 4 := by omega
    clear q4 hsm
    go_wp2
    go_ret
    exact ⟨_, rfl, by rw [ByteArray.size_append]; omega, fin.out _ (n5.next r6 g6).gr⟩
end Go.Proofs.YtoicbiinmmhcdaaDoor
