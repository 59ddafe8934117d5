/- What RespText is tried at, drawn. FnReplies: the law's walk. -/
import Derived.Test.YtcgeafdakaeicaaDoorDrR
import Derived.Test.YtcgeafdakaeicaaDoorMk
import Derived.Test.YtcgeafdakaeicaaDoorLwA
import Derived.Test.YtcgeafdakaeicaaDoorBk
namespace Go.Proofs.YtcgeafdakaeicaaDoor
open Go.RowKit Go.Sort
open Rp (Nd nd0 plainB numB fieldsB)

/-- How the drawing of a reply ends: some nodes, in memory of their own. -/
def NodesEnd (w : World) (e : Ending) (w' : World) : Prop :=
  ∃ V P, e = .returned V ∧ OwnN w' w.heap.size V P ∧ (∀ p ∈ P, Sm p.1) ∧ P.length ≤ 40 ∧ Below w.heap.size w w'

/-- A cell of a node that a slice owns: it is there, and may be set. -/
theorem own_at {W : World} {B n g c : Nat} {Y : List Nv} (ho : OwnN W B (.slice (some ⟨g, 0, none⟩) n c) Y) (hl : Y.length = n) : (∀ i, W.frozen? ⟨g, i, none⟩ = false) ∧ ∀ i u, (flatN Y)[i]? = some u → W.cell? ⟨g, i, none⟩ = some u := by
  have hr := ho.row
  rw [hl] at hr
  obtain ⟨_, ⟨e, _⟩ | ⟨g', cap, cur, e, q1, q2, q3, q4, q5, q6⟩⟩ := hr
  · cases e
  · injection e with e1 e2 e3
    injection e1 with e1
    injection e1 with e1
    subst e1
    have hrow : RowAt W g 44 cur := q2
    exact ⟨fun i => hrow.frozen i, fun i u hu => own_cells ho.row rfl i u hu⟩

/-- The reader and what lies below it, in the world that the drawing has come to. -/
structure Nw3 (w0 : World) (rb : Nat) (a : Option Addr) (n c : Nat) (W : World) : Prop where
  rd : Rd W rb a n c
  lt : rb < W.heap.size
  bel : Below rb w0 W

theorem Nw3.next {w0 : World} {rb : Nat} {a : Option Addr} {n c : Nat} {W W' : World} (h : Nw3 w0 rb a n c W) (r : Rd W' rb a n c) (g : W.grownBy W' (some rb)) : Nw3 w0 rb a n c W' :=
  ⟨r, grown_lt h.lt g, h.bel.trans (below_of_grown g (Nat.le_refl _) (Nat.le_of_lt h.lt))⟩

theorem Nw3.set {w0 : World} {rb g : Nat} {a : Option Addr} {n c : Nat} {W : World} (h : Nw3 w0 rb a n c W) (hg : rb < g) (j : Nat) (v : Value) : Nw3 w0 rb a n c (W.setCell ⟨g, j, none⟩ v) := by
  have bb : Below g W (W.setCell ⟨g, j, none⟩ v) := (Below.refl _ W).setCell (p := ⟨g, j, none⟩) (Nat.le_refl _) _
  exact ⟨h.rd.below bb hg, Nat.lt_of_lt_of_le h.lt bb.size, h.bel.setCell (p := ⟨g, j, none⟩) (Nat.le_of_lt hg) _⟩

theorem Nw3.own {w0 : World} {rb : Nat} {a : Option Addr} {n c : Nat} {W W' : World} {B : Nat} {V : Value} {P : List Nv} (h : Nw3 w0 rb a n c W) (o : OwnN W B V P) (g : W.grownBy W' (some rb)) : OwnN W' B V P := by
  obtain ⟨p, _, hr⟩ := h.rd.row
  exact o.grown hr (by decide) (by decide) g

set_option maxHeartbeats 8000000 in
set_option maxRecDepth 100000 in
theorem drawOk (ra : Option Addr) (rn rc : Nat) (w0 : World) (hn : rn ≤ 9223372036854775807) (hb : BytesIn w0 ra rn w0.heap.size) :
    Calls Tryd.prog 22 #[.slice ra rn rc] w0 (NodesEnd w0) := by
  go_enter Tryd.func22, Tryd.ntmps22
  go_wp2_with fail
  refine (open_any ra rn rc w0 hn hb).mono ?_
  rintro e w ⟨rfl, r0, b0⟩
  have s0 : w0.heap.size < w.heap.size := by
    obtain ⟨p, _, hr⟩ := r0.row
    exact hr.lt
  obtain ⟨rb, hE⟩ : ∃ rb, w0.heap.size = rb := ⟨_, rfl⟩
  rw [hE] at r0 b0 s0 ⊢
  have FIN : Hid (∀ V P W, OwnN W (rb + 1) V P → (∀ p ∈ P, Sm p.1) → P.length ≤ 40 → Below rb w0 W → NodesEnd w0 (.returned V) W) := fun V P W o hs hl bb => by
    refine ⟨V, P, rfl, o.le (by omega), hs, hl, ?_⟩
    rw [hE]; exact bb
  clear hE
  have HR := reply_d3 rb ra rn rc (rb + 1) nilV [] w r0 (by omega) (by omega) ⟨World.ownsRow_nil _ _ _ _, by simp, List.Pairwise.nil⟩ (by simp)
  go_wp2_with fail
  refine HR.mono ?_
  rintro e w1 ⟨V1, P, rfl, d1, q1, q2⟩
  have o1 : OwnN w1 (rb + 1) V1 P := by simpa using d1.own
  have n1 : Nw3 w0 rb ra rn rc w1 := ⟨d1.rd, d1.lt, b0.trans (below_of_grown (grown_nil d1.fr) (Nat.le_refl _) (by omega))⟩
  have HS : Hid (∀ p ∈ P, Sm p.1) := d1.small
  have hform := Joins.ownsRow_forms o1.row
  obtain ⟨n, hnl⟩ : ∃ n, P.length = n := ⟨_, rfl⟩
  rw [hnl] at hform
  rcases hform with ⟨_, h0⟩ | ⟨g, c, rfl⟩
  · omega
  have O1 : Hid (OwnN w1 (rb + 1) (.slice (some ⟨g, 0, none⟩) n c) P) := o1
  have HL : Hid (P.length = n) := hnl
  have hg : rb < g := (own_lt o1.row rfl).1
  have hn1 : 1 ≤ n := by omega
  have hn40 : n ≤ 40 := by omega
  clear HR d1 o1 hnl b0 r0
  go_wp2_with fail
  refine (once_any rb ra rn rc 8 w1 n1.rd (by omega) (by omega)).mono ?_
  rintro e w2 ⟨b, rfl, r2, g2⟩
  have n2 := n1.next r2 g2
  have O2 : Hid (OwnN w2 (rb + 1) (.slice (some ⟨g, 0, none⟩) n c) P) := n1.own O1.out g2
  clear n1 O1 g2 r2
  cases b with
  | false =>
    go_wp2
    go_ret
    exact FIN.out _ P _ O2.out HS.out (by rw [HL.out]; exact hn40) n2.bel
  | true =>
    go_wp2_with fail
    refine (pick_any rb ra rn rc n w2 n2.rd (by omega) (by omega)).mono ?_
    rintro e w3 ⟨i, rfl, hi, r3, g3⟩
    have n3 := n2.next r3 g3
    have O3 : Hid (OwnN w3 (rb + 1) (.slice (some ⟨g, 0, none⟩) n c) P) := n2.own O2.out g3
    have i0 : (0 : Int) ≤ (i : Int) := by omega
    have i1 : (i : Int) < (n : Int) := by omega
    clear n2 O2 g3 r3
    go_wp2_with fail
    refine (off_anyK rb ra rn rc w3 n3.rd n3.lt).mono ?_
    rintro e w4 ⟨x, rfl, r4, g4⟩
    have n4 := n3.next r4 g4
    have O4 := n3.own O3.out g4
    have hiP : i < P.length := by rw [HL.out]; exact hi
    obtain ⟨X, R, p, hXl, hP⟩ : ∃ X R p, X.length = i ∧ P = X ++ p :: R := ⟨P.take i, P.drop (i + 1), P[i], by rw [List.length_take]; omega, by rw [List.getElem_cons_drop hiP, List.take_append_drop]⟩
    have hlen : (X ++ p :: R).length = n := by rw [← hP]; exact HL.out
    have HS2 : Hid (∀ q ∈ X ++ p :: R, Sm q.1) := by unfold Hid; rw [← hP]; exact HS.out
    rw [hP] at O4
    obtain ⟨⟨pk, pn, ps, pks⟩, pv⟩ := p
    have hfl : (flatN X).length = i * 4 := by rw [flatN_len, hXl]
    have O5 : Hid (OwnN (w4.setCell ⟨g, i * 4, none⟩ (.int .i64 x)) (rb + 1) (.slice (some ⟨g, 0, none⟩) n c) (X ++ ((⟨x, pn, ps, pks⟩ : Nd), pv) :: R)) := own_setN O4 ⟨x, pn, ps, pks⟩ rfl (i * 4) (.int .i64 x) hlen (by rw [flat_mid, flat_mid]; exact (set_mid _ _ _ _ _ _ _ _ hfl).1)
    obtain ⟨f4, k4⟩ := own_at O4 hlen
    have a4 := k4 (i * 4) _ (by rw [flat_mid, List.getElem?_append_right (by omega), hfl, Nat.sub_self]; rfl)
    have y4 := f4 (i * 4)
    have n5 := n4.set hg (i * 4) (.int .i64 x)
    have HLN : Hid (∀ y : Nd, (X ++ (y, pv) :: R).length = n) := fun y => by rw [← hlen]; simp
    have HFL : Hid ((flatN X).length = i * 4) := hfl
    have HSA : Hid (∀ z, ∀ q ∈ X ++ ((⟨x, z, ps, pks⟩ : Nd), pv) :: R, Sm q.1) := fun z q hq => by
      rcases List.mem_append.1 hq with hq | hq
      · exact HS2.out q (by simp [hq])
      · rcases List.mem_cons.1 hq with rfl | hq
        · exact HS2.out (⟨pk, pn, ps, pks⟩, pv) (by simp)
        · exact HS2.out q (by simp [hq])
    clear O4 f4 k4 n4 g4 r4 n3 O3 hP hXl hfl hlen HS2 hiP
    go_wp2_with fail
    generalize w4.setCell ⟨g, i * 4, none⟩ (.int .i64 x) = w5 at *
    refine (off_anyZ rb ra rn rc w5 n5.rd n5.lt).mono ?_
    rintro e w6 ⟨z, rfl, r6, g6⟩
    have n6 := n5.next r6 g6
    have O6 := n5.own O5.out g6
    have O7 : Hid (OwnN (w6.setCell ⟨g, i * 4 + 1, none⟩ (.int .i64 z)) (rb + 1) (.slice (some ⟨g, 0, none⟩) n c) (X ++ ((⟨x, z, ps, pks⟩ : Nd), pv) :: R)) := own_setN O6 ⟨x, z, ps, pks⟩ rfl (i * 4 + 1) (.int .i64 z) (HLN.out _) (by rw [flat_mid, flat_mid]; exact (set_mid _ _ _ _ _ _ _ _ HFL.out).2.1)
    obtain ⟨f6, k6⟩ := own_at O6 (HLN.out _)
    have a6 := k6 (i * 4 + 1) _ (by rw [flat_mid, List.getElem?_append_right (by rw [HFL.out]; omega), HFL.out, show i * 4 + 1 - i * 4 = 1 from by omega]; rfl)
    have y6 := f6 (i * 4 + 1)
    have n7 := n6.set hg (i * 4 + 1) (.int .i64 z)
    clear O6 f6 k6 n6 g6 r6 n5 O5
    go_wp2
    go_ret
    exact FIN.out _ _ _ O7.out (HSA.out z) (by rw [HLN.out]; exact hn40) n7.bel

theorem drawText (ra : Option Addr) (rn rc : Nat) (w0 : World) (hn : rn ≤ 9223372036854775807) (hb : BytesIn w0 ra rn w0.heap.size) :
    Calls Tryd.prog 8 #[.slice ra rn rc] w0 (NodesEnd w0) := by
  go_enter Tryd.func8, Tryd.ntmps8
  go_wp2_with fail
  refine (drawOk ra rn rc w0 hn hb).mono ?_
  rintro e w1 ⟨V, P, rfl, h⟩
  go_wp2
  go_ret
  exact ⟨V, P, rfl, h⟩
end Go.Proofs.YtcgeafdakaeicaaDoor

namespace Go.Proofs.YtcgeafdakaeicaaDoor
open Go.RowKit Go.Sort
open Rp (Nd nd0 plainB numB fieldsB)
open Bk (right_back right_len)

theorem empty_no {s : ByteArray} (h : 0 < s.size) : s.toList.isEmpty = false := by
  rw [ByteArray.toList_eq]
  rw [Lib.size_eq] at h
  cases hd : s.data.toList with
  | nil => rw [hd] at h; cases h
  | cons b r => rfl

theorem empty_yes {s : ByteArray} (h : s.size = 0) : s.toList.isEmpty = true := by
  rw [ByteArray.toList_eq]
  rw [Lib.size_eq] at h
  cases hd : s.data.toList with
  | nil => rfl
  | cons b r => rw [hd] at h; cases h

theorem replies_no (ra : Option Addr) (rn rc : Nat) (w : World) (hbig : 1048576 < rn) :
    Calls Tryd.prog 3 #[.slice ra rn rc] w fun e w' => e = .returned (.bool true) ∧ Below w.heap.size w w' := by
  have hd : decide ((1048576 : Int) < (rn : Int)) = true := decide_eq_true (by omega)
  go_enter Tryd.func3, Tryd.ntmps3
  go_wp2_with fail
  refine (big_any ra rn rc w).mono ?_
  rintro e w1 ⟨rfl, rfl⟩
  rw [hd]
  go_wp2
  go_ret
  exact ⟨rfl, Below.refl _ _⟩

/-- What is asked of the nodes that were drawn, and of their text. -/
structure Wrote (L : List Nd) (t : ByteArray) (m : Nat) (o : Bool) : Prop where
  small : t.size ≤ 12000
  len : L.length = m
  pos : o = true → 0 < t.size
  nil : o = false → t.size = 0
  kids : ∀ i, i < m → (L.getD i nd0).kids.length ≤ 1048576
  impl : ∀ (a : Option Addr) (b c : Nat) (W : World), Rp.RespsIn W a b 0 m L → Ready W → Calls Tryd.prog 9 #[.slice a m c] W fun e w' => e = .returned (.string t) ∧ Below W.heap.size W w'
  spec : ∀ (a : Option Addr) (b c : Nat) (W : World), Rp.RespsIn W a b 0 m L → Calls Tryd.prog 10 #[.slice a m c] W fun e w' => e = .returned (.string t) ∧ Below W.heap.size W w'
  implOk : ∀ (a : Option Addr) (b c : Nat) (W : World), Rp.RespsIn W a b 0 m L → Calls Tryd.prog 11 #[.slice a m c] W fun e w' => e = .returned (.bool o) ∧ Below W.heap.size W w'
  specOk : ∀ (a : Option Addr) (b c : Nat) (W : World), Rp.RespsIn W a b 0 m L → Calls Tryd.prog 12 #[.slice a m c] W fun e w' => e = .returned (.bool o) ∧ Below W.heap.size W w'
  back : ∀ (W : World), Ready W → o = true → Calls Tryd.prog 13 #[.string (t ++ ⟨#[116, 97, 105, 108]⟩)] W fun e w' => ∃ a b c, e = .returned (.tuple #[.slice a m c, .int .i64 t.size, .int .i64 0]) ∧ Rp.RespsIn w' a b 0 m L ∧ Below W.heap.size W w'
  cut : ∀ (W : World) (k : Nat), Ready W → o = true → k < t.size → Calls Tryd.prog 13 #[.string (t.extract 0 k)] W fun e w' => e = .returned (.tuple #[.slice none 0 0, .int .i64 0, .int .i64 1]) ∧ Below W.heap.size W w'

theorem wrote_of (L : List Nd) (hsm : ∀ x ∈ L, Sm x) (hl : L.length ≤ 40) : Wrote L ⟨(Rp.respText L).toArray⟩ L.length (Rp.specB L) := by
  have hkk := small_kids hsm
  have hlen := resp_len L hsm hl
  have hio : ∀ (a : Option Addr) (b c : Nat) (W : World), Rp.RespsIn W a b 0 L.length L → Calls Tryd.prog 11 #[.slice a L.length c] W fun e w' => e = .returned (.bool (Rp.specB L)) ∧ Below W.heap.size W w' := fun a b c W h => by
    have := Rp.impl_all a b 0 L.length c L W h hkk
    rw [Rp.same_look] at this
    exact this
  have hso : ∀ (a : Option Addr) (b c : Nat) (W : World), Rp.RespsIn W a b 0 L.length L → Calls Tryd.prog 12 #[.slice a L.length c] W fun e w' => e = .returned (.bool (Rp.specB L)) ∧ Below W.heap.size W w' := fun a b c W h => Rp.spec_all a b 0 L.length c L W h (by omega) hkk
  have htext : Rp.specB L = true → Rp.respText L = Rp.text L (L.length - 1) := fun h => if_pos h
  refine ⟨by rw [size_mk]; exact hlen, rfl, fun h => by rw [size_mk, htext h]; exact right_len L h, fun h => by rw [size_mk, Rp.respText, if_neg (by rw [h]; decide)]; rfl, hkk, ?_, ?_, hio, hso, ?_, ?_⟩
  · exact fun a b c W h hr => Rp.implText11 a b 0 L.length c L W h hkk hr.tab (by have := hr.six; omega) (hio a b c W h)
  · exact fun a b c W h => Rp.specText9 a b 0 L.length c L W h (by omega) hkk (hso a b c W h)
  · intro W hr h
    have e : ((⟨(Rp.respText L).toArray⟩ : ByteArray) ++ ⟨#[116, 97, 105, 108]⟩).data.toList = Rp.text L (L.length - 1) ++ [116, 97, 105, 108] := by rw [← htext h]; simp
    have hrd := readResp_any ((⟨(Rp.respText L).toArray⟩ : ByteArray) ++ ⟨#[116, 97, 105, 108]⟩) W (by rw [ByteArray.size_append, size_mk]; show _ + 4 ≤ _; omega) hr
    rw [e, (right_back L h).1] at hrd
    refine hrd.mono ?_
    rintro e w' ⟨V, P, hP, rfl, ho, hb⟩
    obtain ⟨a, b, c, rfl, hi⟩ := resps_of_own ho hP hsm
    exact ⟨a, b, c, by rw [size_mk, htext h], hi, hb⟩
  · intro W k hr h hk
    rw [size_mk, htext h] at hk
    have e : ((⟨(Rp.respText L).toArray⟩ : ByteArray).extract 0 k).data.toList = (Rp.text L (L.length - 1)).take k := by
      rw [Lib.extract_data, htext h]
      simp
    have hrd := readResp_any ((⟨(Rp.respText L).toArray⟩ : ByteArray).extract 0 k) W (by rw [ByteArray.size_extract, size_mk]; omega) hr
    rw [e, (right_back L h).2 k hk] at hrd
    exact hrd

set_option maxHeartbeats 2000000 in
set_option maxRecDepth 100000 in
theorem replies_walk (ra : Option Addr) (rn rc : Nat) (w : World) (hn : rn ≤ 9223372036854775807) (hb : BytesIn w ra rn w.heap.size) (hr : Ready w) :
    Calls Tryd.prog 3 #[.slice ra rn rc] w fun e w' => e = .returned (.bool true) ∧ Below w.heap.size w w' := by
  by_cases hbig : 1048576 < rn
  · exact replies_no ra rn rc w hbig
  · have hd : decide ((1048576 : Int) < (rn : Int)) = false := decide_eq_false (by omega)
    have HR : Hid (Ready w) := hr
    have hsix := hr.six
    clear hr
    go_enter Tryd.func3, Tryd.ntmps3
    go_wp2_with fail
    refine (big_any ra rn rc w).mono ?_
    rintro e w0 ⟨rfl, rfl⟩
    rw [hd]
    clear hd
    go_wp2_with fail
    refine (drawText ra rn rc w0 hn hb).mono ?_
    rintro e w1 ⟨V, P, rfl, o1, hsm, hl, b1⟩
    have s1 := b1.size
    have R1 : Hid (Ready w1) := HR.out.below (b1.mono hsix)
    have hsmL : ∀ x ∈ P.map Prod.fst, Sm x := fun x hx => by
      obtain ⟨p, hp, rfl⟩ := List.mem_map.1 hx
      exact hsm p hp
    obtain ⟨x, B, cap, rfl, i1⟩ := resps_of_own o1 rfl hsmL
    have hlL : (P.map Prod.fst).length ≤ 40 := by simpa using hl
    have hW := wrote_of (P.map Prod.fst) hsmL hlL
    generalize P.map Prod.fst = L at *
    obtain ⟨t, ht⟩ : ∃ t : ByteArray, t = ⟨(Rp.respText L).toArray⟩ := ⟨_, rfl⟩
    obtain ⟨o, ho⟩ : ∃ o : Bool, o = Rp.specB L := ⟨_, rfl⟩
    obtain ⟨m, hm⟩ : ∃ m, L.length = m := ⟨_, rfl⟩
    rw [← ht, ← ho, hm] at hW
    rw [hm] at i1 hlL ⊢
    have HW : Hid (Wrote L t m o) := hW
    have hts := hW.small
    have I1 : Hid (Rp.RespsIn w1 x B 0 m L) := i1
    clear ht ho hm hW i1 hb HR hsm hsmL hl o1
    go_wp2_with fail
    refine (HW.out.impl x B cap w1 I1.out R1.out).mono ?_
    rintro e w2 ⟨rfl, b2⟩
    have s2 := b2.size
    have bb2 := b1.trans (b2.mono s1)
    have I2 : Hid (Rp.RespsIn w2 x B 0 m L) := Rp.resps_below I1.out b2
    have R2 : Hid (Ready w2) := R1.out.below (b2.mono (by omega))
    clear b2 b1 I1 R1
    go_wp2_with fail
    refine (HW.out.spec x B cap w2 I2.out).mono ?_
    rintro e w3 ⟨rfl, b3⟩
    have s3 := b3.size
    have bb3 := bb2.trans (b3.mono (by omega))
    have I3 : Hid (Rp.RespsIn w3 x B 0 m L) := Rp.resps_below I2.out b3
    have R3 : Hid (Ready w3) := R2.out.below (b3.mono (by omega))
    clear b3 bb2 I2 R2
    go_wp2_with fail
    refine (HW.out.implOk x B cap w3 I3.out).mono ?_
    rintro e w4 ⟨rfl, b4⟩
    have s4 := b4.size
    have bb4 := bb3.trans (b4.mono (by omega))
    have I4 : Hid (Rp.RespsIn w4 x B 0 m L) := Rp.resps_below I3.out b4
    have R4 : Hid (Ready w4) := R3.out.below (b4.mono (by omega))
    clear b4 bb3 I3 R3
    go_wp2_with fail
    refine (HW.out.specOk x B cap w4 I4.out).mono ?_
    rintro e w5 ⟨rfl, b5⟩
    have s5 := b5.size
    have bb5 := bb4.trans (b5.mono (by omega))
    have I5 : Hid (Rp.RespsIn w5 x B 0 m L) := Rp.resps_below I4.out b5
    have R5 : Hid (Ready w5) := R4.out.below (b5.mono (by omega))
    clear b5 bb4 I4 R4
    cases o with
    | false =>
      have h0 := HW.out.nil rfl
      have he := empty_yes h0
      go_wp2_with fail
      refine (HW.out.implOk x B cap w5 I5.out).mono ?_
      rintro e w6 ⟨rfl, b6⟩
      have bb6 := bb5.trans (b6.mono (by omega))
      go_wp2
      go_ret
      exact ⟨rfl, bb6⟩
    | true =>
      have hpos := HW.out.pos rfl
      have he := empty_no (s := t) hpos
      go_wp2_with fail
      refine (HW.out.implOk x B cap w5 I5.out).mono ?_
      rintro e w6 ⟨rfl, b6⟩
      have s6 := b6.size
      have bb6 := bb5.trans (b6.mono (by omega))
      have I6 : Hid (Rp.RespsIn w6 x B 0 m L) := Rp.resps_below I5.out b6
      have R6 : Hid (Ready w6) := R5.out.below (b6.mono (by omega))
      have hd2 : ¬ 9223372036854775807 < t.size + 4 := by omega
      clear b6 bb5 I5 R5
      go_wp2_with fail
      refine (HW.out.back w6 R6.out rfl).mono ?_
      rintro e w7 ⟨a7, B7, c7, rfl, i7, b7⟩
      have s7 := b7.size
      have bb7 := bb6.trans (b7.mono (by omega))
      have I7 : Hid (Rp.RespsIn w7 x B 0 m L) := Rp.resps_below I6.out b7
      have J7 : Hid (Rp.RespsIn w7 a7 B7 0 m L) := i7
      have R7 : Hid (Ready w7) := R6.out.below (b7.mono (by omega))
      have hrem : Int.tmod (rn : Int) (t.size : Int) = ((rn % t.size : Nat) : Int) := by
        rw [Int.tmod_eq_emod_of_nonneg (by omega)]; rfl
      have hk := Nat.mod_lt rn hpos
      generalize rn % t.size = k at *
      have k0 : (0 : Int) ≤ (k : Int) := by omega
      have k1 : (k : Int) ≤ (t.size : Int) := by omega
      have hz : ¬ (t.size : Int) = 0 := by omega
      clear b7 bb6 I6 R6 i7
      go_wp2_with fail
      refine (HW.out.cut w7 k R7.out rfl hk).mono ?_
      rintro e w8 ⟨rfl, b8⟩
      have bb8 := bb7.trans (b8.mono (by omega))
      have HX : Hid (Calls Tryd.prog 14 #[.slice a7 m c7, .slice x m cap] w8 fun e w' => e = .returned (.bool true) ∧ ∃ q, w' = w8.drewN q) := sameResp_any a7 x B7 0 B 0 m c7 cap L w8 (Rp.resps_below J7.out b8) (Rp.resps_below I7.out b8) (by omega) HW.out.kids
      clear b8 bb7 I7 J7 R7
      go_wp2_with fail
      refine HX.out.mono ?_
      rintro e w9 ⟨rfl, q, rfl⟩
      go_wp2
      go_ret
      exact ⟨rfl, below_drewN bb8 _⟩
end Go.Proofs.YtcgeafdakaeicaaDoor
