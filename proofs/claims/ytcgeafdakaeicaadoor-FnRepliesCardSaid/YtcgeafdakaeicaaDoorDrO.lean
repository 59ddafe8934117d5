/- What RespText is tried at, drawn. -/
import Derived.Test.YtcgeafdakaeicaaDoorDrR
import Derived.Test.YtcgeafdakaeicaaDoorMkB
namespace Go.Proofs.YtcgeafdakaeicaaDoor
open Go.RowKit Go.Sort
open Rp (Nd nd0 plainB numB fieldsB)

/-- How the drawing of a reply ends: some nodes, in memory of their own. -/
def NodesEnd (w : World) (e : Ending) (w' : World) : Prop :=
  ∃ V P, e = .returned V ∧ OwnN w' w.heap.size V P ∧ (∀ p ∈ P, Sm p.1) ∧ P.length ≤ 40 ∧ Below w.heap.size w w'

/-- A cell of a node that a slice owns: it is there, and may be set. -/
theorem own_at {W : World} {B n g c : Nat} {Y : List Nv} (ho : OwnN W B (.slice (some ⟨g, 0, none⟩) n c) Y) (hl : Y.length = n) : (∀ i, W.frozen? ⟨g, i, none⟩ = false) ∧ ∀ i u, (flatN Y)[i]? = some u → W.cell? ⟨g, i, none⟩ = some u := by
  have hr := ho.row
  rw [hl] at hr
  obtain ⟨_, ⟨e, _⟩ | ⟨g', cap, cur, e, q1, q2, q3, q4, q5, q6⟩⟩ := hr
  · cases e
  · injection e with e1 e2 e3
    injection e1 with e1
    injection e1 with e1
    subst e1
    have hrow : RowAt W g 44 cur := q2
    exact ⟨fun i => hrow.frozen i, fun i u hu => own_cells ho.row rfl i u hu⟩

/-- The reader and what lies below it, in the world that the drawing has come to. -/
structure Nw3 (w0 : World) (rb : Nat) (a : Option Addr) (n c : Nat) (W : World) : Prop where
  rd : Rd W rb a n c
  lt : rb < W.heap.size
  bel : Below rb w0 W

theorem Nw3.next {w0 : World} {rb : Nat} {a : Option Addr} {n c : Nat} {W W' : World} (h : Nw3 w0 rb a n c W) (r : Rd W' rb a n c) (g : W.grownBy W' (some rb)) : Nw3 w0 rb a n c W' :=
  ⟨r, grown_lt h.lt g, h.bel.trans (below_of_grown g (Nat.le_refl _) (Nat.le_of_lt h.lt))⟩

theorem Nw3.set {w0 : World} {rb g : Nat} {a : Option Addr} {n c : Nat} {W : World} (h : Nw3 w0 rb a n c W) (hg : rb < g) (j : Nat) (v : Value) : Nw3 w0 rb a n c (W.setCell ⟨g, j, none⟩ v) := by
  have bb : Below g W (W.setCell ⟨g, j, none⟩ v) := (Below.refl _ W).setCell (p := ⟨g, j, none⟩) (Nat.le_refl _) _
  exact ⟨h.rd.below bb hg, Nat.lt_of_lt_of_le h.lt bb.size, h.bel.setCell (p := ⟨g, j, none⟩) (Nat.le_of_lt hg) _⟩

theorem Nw3.own {w0 : World} {rb : Nat} {a : Option Addr} {n c : Nat} {W W' : World} {B : Nat} {V : Value} {P : List Nv} (h : Nw3 w0 rb a n c W) (o : OwnN W B V P) (g : W.grownBy W' (some rb)) : OwnN W' B V P := by
  obtain ⟨p, _, hr⟩ := h.rd.row
  exact o.grown hr (by decide) (by decide) g

set_option maxHeartbeats 8000000 in
set_option maxRecDepth 100000 in
theorem drawOk (ra : Option Addr) (rn rc : Nat) (w0 : World) (hn : rn ≤ 9223372036854775807) (hb : BytesIn w0 ra rn w0.heap.size) :
    Calls Tryd.prog 22 #[.slice ra rn rc] w0 (NodesEnd w0) := by
  go_enter Tryd.func22, Tryd.ntmps22
  go_wp2_with fail
  refine (open_any ra rn rc w0 hn hb).mono ?_
  rintro e w ⟨rfl, r0, b0⟩
  have s0 : w0.heap.size < w.heap.size := by
    obtain ⟨p, _, hr⟩ := r0.row
    exact hr.lt
  obtain ⟨rb, hE⟩ : ∃ rb, w0.heap.size = rb := ⟨_, rfl⟩
  rw [hE] at r0 b0 s0 ⊢
  have FIN : Hid (∀ V P W, OwnN W (rb + 1) V P → (∀ p ∈ P, Sm p.1) → P.length ≤ 40 → Below rb w0 W → NodesEnd w0 (.returned V) W) := fun V P W o hs hl bb => by
    refine ⟨V, P, rfl, o.le (by omega), hs, hl, ?_⟩
    rw [hE]; exact bb
  clear hE
  have HR := reply_d3 rb ra rn rc (rb + 1) nilV [] w r0 (by omega) (by omega) ⟨World.ownsRow_nil _ _ _ _, by simp, List.Pairwise.nil⟩ (by simp)
  go_wp2_with fail
  refine HR.mono ?_
  rintro e w1 ⟨V1, P, rfl, d1, q1, q2⟩
  have o1 : OwnN w1 (rb + 1) V1 P := by simpa using d1.own
  have n1 : Nw3 w0 rb ra rn rc w1 := ⟨d1.rd, d1.lt, b0.trans (below_of_grown (grown_nil d1.fr) (Nat.le_refl _) (by omega))⟩
  have HS : Hid (∀ p ∈ P, Sm p.1) := d1.small
  have hform := Joins.ownsRow_forms o1.row
  obtain ⟨n, hnl⟩ : ∃ n, P.length = n := ⟨_, rfl⟩
  rw [hnl] at hform
  rcases hform with ⟨_, h0⟩ | ⟨g, c, rfl⟩
  · omega
  have O1 : Hid (OwnN w1 (rb + 1) (.slice (some ⟨g, 0, none⟩) n c) P) := o1
  have HL : Hid (P.length = n) := hnl
  have hg : rb < g := (own_lt o1.row rfl).1
  have hn1 : 1 ≤ n := by omega
  have hn40 : n ≤ 40 := by omega
  clear HR d1 o1 hnl b0 r0
  go_wp2_with fail
  refine (once_any rb ra rn rc 8 w1 n1.rd (by omega) (by omega)).mono ?_
  rintro e w2 ⟨b, rfl, r2, g2⟩
  have n2 := n1.next r2 g2
  have O2 : Hid (OwnN w2 (rb + 1) (.slice (some ⟨g, 0, none⟩) n c) P) := n1.own O1.out g2
  clear n1 O1 g2 r2
  cases b with
  | false =>
    go_wp2
    go_ret
    exact FIN.out _ P _ O2.out HS.out (by rw [HL.out]; exact hn40) n2.bel
  | true =>
    go_wp2_with fail
    refine (pick_any rb ra rn rc n w2 n2.rd (by omega) (by omega)).mono ?_
    rintro e w3 ⟨i, rfl, hi, r3, g3⟩
    have n3 := n2.next r3 g3
    have O3 : Hid (OwnN w3 (rb + 1) (.slice (some ⟨g, 0, none⟩) n c) P) := n2.own O2.out g3
    have i0 : (0 : Int) ≤ (i : Int) := by omega
    have i1 : (i : Int) < (n : Int) := by omega
    clear n2 O2 g3 r3
    go_wp2_with fail
    refine (off_anyK rb ra rn rc w3 n3.rd n3.lt).mono ?_
    rintro e w4 ⟨x, rfl, r4, g4⟩
    have n4 := n3.next r4 g4
    have O4 := n3.own O3.out g4
    have hiP : i < P.length := by rw [HL.out]; exact hi
    obtain ⟨X, R, p, hXl, hP⟩ : ∃ X R p, X.length = i ∧ P = X ++ p :: R := ⟨P.take i, P.drop (i + 1), P[i], by rw [List.length_take]; omega, by rw [List.getElem_cons_drop hiP, List.take_append_drop]⟩
    have hlen : (X ++ p :: R).length = n := by rw [← hP]; exact HL.out
    have HS2 : Hid (∀ q ∈ X ++ p :: R, Sm q.1) := by unfold Hid; rw [← hP]; exact HS.out
    rw [hP] at O4
    obtain ⟨⟨pk, pn, ps, pks⟩, pv⟩ := p
    have hfl : (flatN X).length = i * 4 := by rw [flatN_len, hXl]
    have O5 : Hid (OwnN (w4.setCell ⟨g, i * 4, none⟩ (.int .i64 x)) (rb + 1) (.slice (some ⟨g, 0, none⟩) n c) (X ++ ((⟨x, pn, ps, pks⟩ : Nd), pv) :: R)) := own_setN O4 ⟨x, pn, ps, pks⟩ rfl (i * 4) (.int .i64 x) hlen (by rw [flat_mid, flat_mid]; exact (set_mid _ _ _ _ _ _ _ _ hfl).1)
    obtain ⟨f4, k4⟩ := own_at O4 hlen
    have a4 := k4 (i * 4) _ (by rw [flat_mid, List.getElem?_append_right (by omega), hfl, Nat.sub_self]; rfl)
    have y4 := f4 (i * 4)
    have n5 := n4.set hg (i * 4) (.int .i64 x)
    have HLN : Hid (∀ y : Nd, (X ++ (y, pv) :: R).length = n) := fun y => by rw [← hlen]; simp
    have HFL : Hid ((flatN X).length = i * 4) := hfl
    have HSA : Hid (∀ z, ∀ q ∈ X ++ ((⟨x, z, ps, pks⟩ : Nd), pv) :: R, Sm q.1) := fun z q hq => by
      rcases List.mem_append.1 hq with hq | hq
      · exact HS2.out q (by simp [hq])
      · rcases List.mem_cons.1 hq with rfl | hq
        · exact HS2.out (⟨pk, pn, ps, pks⟩, pv) (by simp)
        · exact HS2.out q (by simp [hq])
    clear O4 f4 k4 n4 g4 r4 n3 O3 hP hXl hfl hlen HS2 hiP
    go_wp2_with fail
    generalize w4.setCell ⟨g, i * 4, none⟩ (.int .i64 x) = w5 at *
    refine (off_anyZ rb ra rn rc w5 n5.rd n5.lt).mono ?_
    rintro e w6 ⟨z, rfl, r6, g6⟩
    have n6 := n5.next r6 g6
    have O6 := n5.own O5.out g6
    have O7 : Hid (OwnN (w6.setCell ⟨g, i * 4 + 1, none⟩ (.int .i64 z)) (rb + 1) (.slice (some ⟨g, 0, none⟩) n c) (X ++ ((⟨x, z, ps, pks⟩ : Nd), pv) :: R)) := own_setN O6 ⟨x, z, ps, pks⟩ rfl (i * 4 + 1) (.int .i64 z) (HLN.out _) (by rw [flat_mid, flat_mid]; exact (set_mid _ _ _ _ _ _ _ _ HFL.out).2.1)
    obtain ⟨f6, k6⟩ := own_at O6 (HLN.out _)
    have a6 := k6 (i * 4 + 1) _ (by rw [flat_mid, List.getElem?_append_right (by rw [HFL.out]; omega), HFL.out, show i * 4 + 1 - i * 4 = 1 from by omega]; rfl)
    have y6 := f6 (i * 4 + 1)
    have n7 := n6.set hg (i * 4 + 1) (.int .i64 z)
    clear O6 f6 k6 n6 g6 r6 n5 O5
    go_wp2
    go_ret
    exact FIN.out _ _ _ O7.out (HSA.out z) (by rw [HLN.out]; exact hn40) n7.bel

theorem drawText (ra : Option Addr) (rn rc : Nat) (w0 : World) (hn : rn ≤ 9223372036854775807) (hb : BytesIn w0 ra rn w0.heap.size) :
    Calls Tryd.prog 8 #[.slice ra rn rc] w0 (NodesEnd w0) := by
  go_enter Tryd.func8, Tryd.ntmps8
  go_wp2_with fail
  refine (drawOk ra rn rc w0 hn hb).mono ?_
  rintro e w1 ⟨V, P, rfl, h⟩
  go_wp2
  go_ret
  exact ⟨V, P, rfl, h⟩
end Go.Proofs.YtcgeafdakaeicaaDoor
