/- The reply's reader: reply, first half: the line, and the node laid. -/
import Derived.Test.YtcgeafdakaeicaaDoorRrD
import Derived.Deep.Cut
namespace Go.Proofs.YtcgeafdakaeicaaDoor
open Go.RowKit Go.Sort
open Rp (Nd nd0 plainB numB fieldsB)

structure NodeS (w : World) (rb : Nat) (s : ByteArray) (at_ B : Nat) (V : Value) (P : List Nv) (ms : List Nd) (x : Nd) (u : Nat) (wx : World) (V1 : Value) (Q : List Nv) (K : Value) : Prop where
  nodes : Q.map Prod.fst = ms
  rd : R3 V1 wx rb s (at_ + u)
  fit : at_ + u ≤ s.size
  own : OwnN wx B V1 (P ++ Q)
  kown : wx.ownsRow B 2 1 K x.kids.length (intVals x.kids)
  apart : Apart K (P ++ Q)
  new : NewQ w Q
  knew : ∀ k, K.ownBlock = some k → w.heap.size ≤ k
  fr : Fr w wx rb V
  nw : Nw w V V1

/-- A node that was read in W, a cell of its own put anywhere new. -/
theorem node_put {w W w2 : World} {rb : Nat} {s : ByteArray} {at_ B : Nat} {V V1 K : Value} {P Q : List Nv} {ms : List Nd} {x : Nd} {u : Nat} (hR : R3 V w rb s at_) (ho : OwnN w B V P) (hb : Below w.heap.size w W)
    (h : NodeS W rb s at_ B V P ms x u w2 V1 Q K) (bn : Nat) (wf : World) (h1 : w.heap.size ≤ bn) (h2 : bn < W.heap.size ∨ w2.heap.size ≤ bn) (q1 : wf.os = w2.os) (q2 : wf.tape = w2.tape) (q3 : wf.output = w2.output) (q4 : w2.heap.size ≤ wf.heap.size) (q5 : ∀ k, k < w2.heap.size → k ≠ bn → wf.heap[k]? = w2.heap[k]?) :
    NodeS w rb s at_ B V P ms x u wf V1 Q K := by
  have hs := hb.size
  have hs2 := h.fr.size
  have hrb := hR.lt
  have hV : ∀ k, V.ownBlock = some k → k < w.heap.size := fun k hk => (own_lt ho.row hk).2
  refine ⟨h.nodes, ?_, h.fit, ?_, ?_, h.apart, fun p hp k hk => by have := h.new p hp k hk; omega, fun k hk => by have := h.knew k hk; omega, ?_, ?_⟩
  · exact (q5 rb (by omega) (by omega)).trans h.rd
  · refine h.own.of_block (fun g hg => q5 g (own_lt h.own.row hg).2 ?_) (fun p hp g hg => q5 g (own_lt (h.own.kids p hp) hg).2 ?_)
    · have := (own_lt h.own.row hg).2
      rcases h.nw g hg with e | e
      · have := hV g e; omega
      · omega
    · have h3 := (own_lt (h.own.kids p hp) hg).2
      rcases List.mem_append.1 hp with hp | hp
      · have := (own_lt (ho.kids p hp) hg).2; omega
      · have := h.new p hp g hg; omega
  · refine owns_block h.kown fun g hg => q5 g (own_lt h.kown hg).2 ?_
    have := (own_lt h.kown hg).2
    have := h.knew g hg
    omega
  · have f := (Fr.of_below rb V hb).trans h.fr (Nw.refl _ _)
    exact ⟨q1.trans f.os, q2.trans f.tape, q3.trans f.output, by omega, fun k hk hr hv => (q5 k (by omega) (by omega)).trans (f.block k hk hr hv)⟩
  · intro k hk
    rcases h.nw k hk with e | e
    · exact .inl e
    · exact .inr (by omega)

/-- The walk to the line's end: a code. -/
theorem reply_line (d : Nat) (a : Int) (s : ByteArray) (at_ rb B : Nat) (V : Value) (P : List Nv) (w : World) (c : Int) (hs : s.size ≤ 1048576) (ha : at_ ≤ s.size) (hr : Ready w) (h : R3 V w rb s at_) (hl : lineM (s.data.toList.drop at_) = .inl c) :
    Calls Tryd.prog 35 #[.pointer (some ⟨rb, 0, none⟩), .int .i64 a] w (ReplyEnd w rb s at_ B V P (replyM d (s.data.toList.drop at_) P.length)) := by
  rw [reply_inl hl]
  have HC : Hid (Calls Tryd.prog 58 #[.pointer (some ⟨rb, 0, none⟩)] w fun e w' => e = gaveUp c ∧ Below w.heap.size w w') := line3_inl V s at_ rb c w hs ha hr h hl
  show Calls Tryd.prog 35 #[.pointer (some ⟨rb, 0, none⟩), .int .i64 a] w fun e w' => e = gaveUp c ∧ Fr w w' rb V
  clear hl
  go_enter Tryd.func35, Tryd.ntmps35
  go_wp2_with fail
  refine HC.out.mono ?_
  rintro e w1 ⟨rfl, b1⟩
  unfold gaveUp
  go_wp2
  exact ⟨rfl, rfl, Fr.of_below _ _ b1⟩

set_option maxHeartbeats 1000000 in
/-- An empty line. -/
theorem reply_empty (d : Nat) (a : Int) (s : ByteArray) (at_ rb B : Nat) (V : Value) (P : List Nv) (w : World) (hs : s.size ≤ 1048576) (ha : at_ ≤ s.size) (hr : Ready w) (h : R3 V w rb s at_) (hl : lineM (s.data.toList.drop at_) = .inr []) :
    Calls Tryd.prog 35 #[.pointer (some ⟨rb, 0, none⟩), .int .i64 a] w (ReplyEnd w rb s at_ B V P (replyM d (s.data.toList.drop at_) P.length)) := by
  rw [reply_nil hl]
  have HC : Hid (Calls Tryd.prog 58 #[.pointer (some ⟨rb, 0, none⟩)] w fun e w' => e = .returned (.string ⟨#[]⟩) ∧ R3 V w' rb s (at_ + 0 + 2) ∧ w.grownBy w' (some rb)) := (line3_inr V s at_ rb [] w hs ha hr h hl).2
  show Calls Tryd.prog 35 #[.pointer (some ⟨rb, 0, none⟩), .int .i64 a] w fun e w' => e = gaveUp 2 ∧ Fr w w' rb V
  clear hl
  go_enter Tryd.func35, Tryd.ntmps35
  go_wp2_with fail
  refine HC.out.mono ?_
  rintro e w1 ⟨rfl, r1, g1⟩
  go_wp2_with fail
  refine (giveUp_any 2 w1).mono ?_
  rintro e w2 ⟨rfl, rfl⟩
  unfold gaveUp
  go_wp2
  exact ⟨rfl, rfl, Fr.of_grown _ g1⟩

set_option maxHeartbeats 1000000 in
/-- Too deep. -/
theorem reply_four (s : ByteArray) (at_ rb B : Nat) (V : Value) (P : List Nv) (w : World) (b : UInt8) (r : List UInt8) (hs : s.size ≤ 1048576) (ha : at_ ≤ s.size) (hr : Ready w) (h : R3 V w rb s at_) (hl : lineM (s.data.toList.drop at_) = .inr (b :: r)) :
    Calls Tryd.prog 35 #[.pointer (some ⟨rb, 0, none⟩), .int .i64 4] w (ReplyEnd w rb s at_ B V P (replyM 0 (s.data.toList.drop at_) P.length)) := by
  rw [reply_deep hl]
  have HC : Hid (Calls Tryd.prog 58 #[.pointer (some ⟨rb, 0, none⟩)] w fun e w' => e = .returned (.string ⟨(b :: r).toArray⟩) ∧ R3 V w' rb s (at_ + (b :: r).length + 2) ∧ w.grownBy w' (some rb)) := (line3_inr V s at_ rb (b :: r) w hs ha hr h hl).2
  show Calls Tryd.prog 35 #[.pointer (some ⟨rb, 0, none⟩), .int .i64 4] w fun e w' => e = gaveUp 2 ∧ Fr w w' rb V
  have he : ((⟨(b :: r).toArray⟩ : ByteArray).toList == []) = false := by rw [ByteArray.toList_eq]; rfl
  have he2 : (⟨(b :: r).toArray⟩ : ByteArray).toList.isEmpty = false := by rw [ByteArray.toList_eq]; rfl
  clear hl
  go_enter Tryd.func35, Tryd.ntmps35
  go_wp2_with fail
  refine HC.out.mono ?_
  rintro e w1 ⟨rfl, r1, g1⟩
  go_wp2_with fail
  refine (giveUp_any 2 w1).mono ?_
  rintro e w2 ⟨rfl, rfl⟩
  unfold gaveUp
  go_wp2
  exact ⟨rfl, rfl, Fr.of_grown _ g1⟩
end Go.Proofs.YtcgeafdakaeicaaDoor
