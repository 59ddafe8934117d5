/- What ReadResp is tried at, drawn. -/
import Derived.Test.YtcgeafdakaeicaaDoorRpl
import Derived.Test.YtcgeafdakaeicaaDoorRpRespText
namespace Go.Proofs.YtcgeafdakaeicaaDoor
open Go.RowKit Go.Sort
open Rp (Nd nd0 plainB numB fieldsB)

/-- The reader in the world that the drawing has come to. -/
structure Now (w : World) (rb : Nat) (a : Option Addr) (n c : Nat) (W : World) : Prop where
  rd : Rd W rb a n c
  lt : rb < W.heap.size
  gr : w.grownBy W (some rb)

theorem Now.alloc {w : World} {rb : Nat} {a : Option Addr} {n c : Nat} {W : World} (h : Now w rb a n c W) (o : Obj) : Now w rb a n c (W.alloc o) :=
  have hb : Below W.heap.size W (W.alloc o) := (Below.refl _ W).alloc (Nat.le_refl _) _
  ⟨h.rd.below hb h.lt, Nat.lt_of_lt_of_le h.lt hb.size, grown_below h.gr hb⟩

theorem Now.next {w : World} {rb : Nat} {a : Option Addr} {n c : Nat} {W W' : World} (h : Now w rb a n c W) (r : Rd W' rb a n c) (g : W.grownBy W' (some rb)) : Now w rb a n c W' :=
  ⟨r, grown_lt h.lt g, grown_trans h.gr g⟩

theorem small_kids {L : List Nd} (h : ∀ x ∈ L, Sm x) : ∀ i, i < L.length → (L.getD i nd0).kids.length ≤ 1048576 := fun i hi => by
  have := h (L.getD i nd0) (by rw [List.getD_eq_getElem?_getD, List.getElem?_eq_getElem hi]; simp)
  unfold Sm at this
  omega

theorem resp_len (L : List Nd) (h : ∀ x ∈ L, Sm x) (hl : L.length ≤ 40) : (Rp.respText L).length ≤ 12000 := by
  unfold Rp.respText
  by_cases hs : Rp.specB L = true
  · rw [if_pos hs]
    have h1 : 1 ≤ L.length := by
      have h1 := hs
      simp only [Rp.specB, Bool.and_eq_true, decide_eq_true_eq] at h1
      exact h1.1.1.1
    have := (Rp.right_of L L.length rfl hs (small_kids h)).small (L.length - 1) (by omega)
    omega
  · rw [if_neg hs]; simp

/-- What a drawn reply's nodes are, as the functions that take them want it. -/
theorem drawn_in {w w1 : World} {rb : Nat} {ra : Option Addr} {rn rc B : Nat} {V1 : Value} {Q : List Nv} (h : Dn w rb ra rn rc B nilV [] w1 V1 Q) : ∃ a b c, V1 = .slice a (Q.map Prod.fst).length c ∧ Rp.RespsIn w1 a b 0 (Q.map Prod.fst).length (Q.map Prod.fst) ∧ ∀ x ∈ Q.map Prod.fst, Sm x := by
  have hs : ∀ x ∈ Q.map Prod.fst, Sm x := fun x hx => by
    obtain ⟨p, hp, rfl⟩ := List.mem_map.1 hx
    exact h.small p hp
  obtain ⟨a, b, c, h1, h2⟩ := resps_of_own h.own rfl (by simpa using hs)
  simp only [List.nil_append] at h1 h2
  exact ⟨a, b, c, h1, h2, hs⟩

set_option maxHeartbeats 8000000 in
set_option maxRecDepth 100000 in
theorem drawRead (ra : Option Addr) (rn rc : Nat) (w0 : World) (hn : rn ≤ 9223372036854775807) (hb : BytesIn w0 ra rn w0.heap.size) :
    Calls Tryd.prog 15 #[.slice ra rn rc] w0 fun e w' => ∃ s : ByteArray, e = .returned (.string s) ∧ s.size ≤ 20000 ∧ Below w0.heap.size w0 w' := by
  go_enter Tryd.func15, Tryd.ntmps15
  go_wp2_with fail
  refine (open_any ra rn rc w0 hn hb).mono ?_
  rintro e w ⟨rfl, r0, b0⟩
  have s0 : w0.heap.size < w.heap.size := by
    obtain ⟨p, _, hr⟩ := r0.row
    exact hr.lt
  generalize hE : w0.heap.size = rb at *
  have fin : Hid (∀ W, w.grownBy W (some rb) → Below w0.heap.size w0 W) := fun W g => by
    rw [hE]
    exact b0.trans (below_of_grown g (Nat.le_refl _) (by omega))
  clear hE
  have HR := reply_d3 rb ra rn rc (rb + 1) nilV [] w r0 (by omega) (by omega) ⟨World.ownsRow_nil _ _ _ _, by simp, List.Pairwise.nil⟩ (by simp)
  go_wp2_with fail
  refine HR.mono ?_
  rintro e w1 ⟨V1, Q, rfl, d1, q1, q2⟩
  have n1 : Now w rb ra rn rc w1 := ⟨d1.rd, d1.lt, grown_nil d1.fr⟩
  obtain ⟨a1, b1, c1, rfl, hin, hsm⟩ := drawn_in d1
  have hL : (Q.map Prod.fst).length ≤ 40 := by simpa using q2
  generalize Q.map Prod.fst = L at *
  have hlen := resp_len L hsm hL
  have hkk := small_kids hsm
  have HT : Hid (Calls Tryd.prog 10 #[.slice a1 L.length c1] w1 fun e w' => e = .returned (.string ⟨(Rp.respText L).toArray⟩) ∧ Below w1.heap.size w1 w') := Rp.specText9 _ _ _ _ _ L w1 hin (by omega) hkk (Rp.spec_all _ _ _ _ _ L w1 hin (by omega) hkk)
  have hsz : (⟨(Rp.respText L).toArray⟩ : ByteArray).size ≤ 12000 := by rw [size_mk]; exact hlen
  generalize (⟨(Rp.respText L).toArray⟩ : ByteArray) = v at *
  clear HR d1 hin hsm hkk hlen q1 q2 r0 b0
  go_wp2_with fail
  refine HT.out.mono ?_
  rintro e w2 ⟨rfl, b2⟩
  have n2 : Now w rb ra rn rc w2 := ⟨n1.rd.below b2 n1.lt, Nat.lt_of_lt_of_le n1.lt b2.size, grown_below n1.gr b2⟩
  clear HT b2 n1
  go_wp2_with fail
  refine (once_any rb ra rn rc 6 w2 n2.rd (by omega) (by omega)).mono ?_
  rintro e w3 ⟨b, rfl, r3, g3⟩
  have n3 := n2.next r3 g3
  clear r3 g3 n2
  cases b with
  | true =>
    have hl := RowAt.new w3 9 #[.string ⟨#[]⟩, .string ⟨#[43]⟩, .string ⟨#[36, 45, 49, 13, 10]⟩, .string ⟨#[36, 45, 50, 13, 10]⟩, .string ⟨#[42, 45, 49, 13, 10]⟩, .string ⟨#[36, 50, 48, 49, 13, 10]⟩, .string ⟨#[58, 48, 49, 13, 10]⟩, .string ⟨#[36, 49, 13, 10, 97, 98]⟩, .string ⟨#[63, 120, 13, 10]⟩, .string ⟨#[42, 50, 13, 10, 58, 49, 13, 10]⟩]
    have hs : SmallC #[.string ⟨#[]⟩, .string ⟨#[43]⟩, .string ⟨#[36, 45, 49, 13, 10]⟩, .string ⟨#[36, 45, 50, 13, 10]⟩, .string ⟨#[42, 45, 49, 13, 10]⟩, .string ⟨#[36, 50, 48, 49, 13, 10]⟩, .string ⟨#[58, 48, 49, 13, 10]⟩, .string ⟨#[36, 49, 13, 10, 97, 98]⟩, .string ⟨#[63, 120, 13, 10]⟩, .string ⟨#[42, 50, 13, 10, 58, 49, 13, 10]⟩] := small_of [⟨#[]⟩, ⟨#[43]⟩, ⟨#[36, 45, 49, 13, 10]⟩, ⟨#[36, 45, 50, 13, 10]⟩, ⟨#[42, 45, 49, 13, 10]⟩, ⟨#[36, 50, 48, 49, 13, 10]⟩, ⟨#[58, 48, 49, 13, 10]⟩, ⟨#[36, 49, 13, 10, 97, 98]⟩, ⟨#[63, 120, 13, 10]⟩, ⟨#[42, 50, 13, 10, 58, 49, 13, 10]⟩] (by decide)
    have na := n3.alloc (.cells #[.string ⟨#[]⟩, .string ⟨#[43]⟩, .string ⟨#[36, 45, 49, 13, 10]⟩, .string ⟨#[36, 45, 50, 13, 10]⟩, .string ⟨#[42, 45, 49, 13, 10]⟩, .string ⟨#[36, 50, 48, 49, 13, 10]⟩, .string ⟨#[58, 48, 49, 13, 10]⟩, .string ⟨#[36, 49, 13, 10, 97, 98]⟩, .string ⟨#[63, 120, 13, 10]⟩, .string ⟨#[42, 50, 13, 10, 58, 49, 13, 10]⟩] 9)
    have hlt := n3.lt
    go_wp2_with fail
    generalize w3.alloc (.cells #[.string ⟨#[]⟩, .string ⟨#[43]⟩, .string ⟨#[36, 45, 49, 13, 10]⟩, .string ⟨#[36, 45, 50, 13, 10]⟩, .string ⟨#[42, 45, 49, 13, 10]⟩, .string ⟨#[36, 50, 48, 49, 13, 10]⟩, .string ⟨#[58, 48, 49, 13, 10]⟩, .string ⟨#[36, 49, 13, 10, 97, 98]⟩, .string ⟨#[63, 120, 13, 10]⟩, .string ⟨#[42, 50, 13, 10, 58, 49, 13, 10]⟩] 9) = w4 at *
    refine (pick_any rb ra rn rc 10 w4 na.rd (by omega) (by omega)).mono ?_
    rintro e w5 ⟨j, rfl, hj, r5, g5⟩
    obtain ⟨s, hc, hz⟩ := pick_cell (row_read hl g5 (by omega)) hs j (by simpa using hj)
    have j0 : (0 : Int) ≤ (j : Int) := by omega
    have j1 : (j : Int) < 10 := by omega
    clear hl hs
    go_wp2
    go_ret
    exact ⟨s, rfl, by omega, fin.out _ (na.next r5 g5).gr⟩
  | false =>
    go_wp2_with fail
    refine (hurt_any rb ra rn rc v w3 n3.rd n3.lt (by omega)).mono ?_
    rintro e w4 ⟨s, rfl, hss, r4, g4⟩
    have n4 := n3.next r4 g4
    have q4 := RowAt.new w4 9 #[.string ⟨#[]⟩, .string ⟨#[]⟩, .string ⟨#[116, 97, 105, 108]⟩, .string ⟨#[43, 79, 75, 13, 10]⟩]
    have hsm : SmallC #[.string ⟨#[]⟩, .string ⟨#[]⟩, .string ⟨#[116, 97, 105, 108]⟩, .string ⟨#[43, 79, 75, 13, 10]⟩] := small_of [⟨#[]⟩, ⟨#[]⟩, ⟨#[116, 97, 105, 108]⟩, ⟨#[43, 79, 75, 13, 10]⟩] (by decide)
    have n5 := n4.alloc (.cells #[.string ⟨#[]⟩, .string ⟨#[]⟩, .string ⟨#[116, 97, 105, 108]⟩, .string ⟨#[43, 79, 75, 13, 10]⟩] 9)
    have l4 := n4.lt
    go_wp2_with fail
    generalize w4.alloc (.cells #[.string ⟨#[]⟩, .string ⟨#[]⟩, .string ⟨#[116, 97, 105, 108]⟩, .string ⟨#[43, 79, 75, 13, 10]⟩] 9) = w5 at *
    refine (pick_any rb ra rn rc 4 w5 n5.rd (by omega) (by omega)).mono ?_
    rintro e w6 ⟨z, rfl, hz, r6, g6⟩
    obtain ⟨u, hc, hu⟩ := pick_cell (row_read q4 g6 (by omega)) hsm z (by simpa using hz)
    have z0 : (0 : Int) ≤ (z : Int) := by omega
    have z1 : (z : Int) < 4 := by omega
    clear q4 hsm
    go_wp2
    go_ret
    exact ⟨_, rfl, by rw [ByteArray.size_append]; omega, fin.out _ (n5.next r6 g6).gr⟩
end Go.Proofs.YtcgeafdakaeicaaDoor
