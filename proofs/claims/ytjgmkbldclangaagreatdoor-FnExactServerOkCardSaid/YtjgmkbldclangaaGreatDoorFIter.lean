/- (*impl.feed).requests at this dump: the requests are told one by one to whatever takes them. -/
import Derived.Test.YtjgmkbldclangaaGreatDoorFO
import Derived.RangeFuncNested
import Derived.RangeFuncBound
import Derived.RangeFuncCalls
import Derived.RangeFuncLeaves
import Derived.Shelf.Abstract
import Derived.Shelf.RegionOpen
import Derived.WalkKit
import Derived.OwnWalkIn
import Derived.TacticsInMore
import Derived.LoopNIn
import Derived.LoopIn
import Derived.Maps.AppendAt
namespace Go.Proofs.YtjgmkbldclangaaGreatDoor.Fd
open Go.RowKit Go.Sort Go.Shelf
attribute [local go_sem] Oper.semAt_some

/-- What lies in the world while requests are told: the feed, the list in its box, its rows, the loop's record and its deferred calls. -/
structure InvF (w : World) (R : Loop) (t : ByteArray) (c : Int) (acc : List (List (List UInt8))) (v : Value) (xs : List Value) (W : World) : Prop where
  feed : RowAt W w.heap.size 146 #[.string t, .int .i64 c]
  box : RowAt W (w.heap.size + 1) 39 #[v]
  own : Own2 W (w.heap.size + 4) v xs (rowsOf acc)
  loop : W.heap[w.heap.size + 3]? = some (.loop R)
  defs : W.heap[w.heap.size + 2]? = some (.deferred (some []))
  low : Below w.heap.size w W

theorem InvF.size {w : World} {R : Loop} {t : ByteArray} {c : Int} {acc : List (List (List UInt8))} {v : Value} {xs : List Value} {W : World} (h : InvF w R t c acc v xs W) : w.heap.size + 4 ≤ W.heap.size := by
  have := (Array.getElem?_eq_some_iff.1 h.loop).1
  omega

theorem InvF.grow {w : World} {R : Loop} {t : ByteArray} {c : Int} {acc : List (List (List UInt8))} {v : Value} {xs : List Value} {W W' : World} (h : InvF w R t c acc v xs W) (b : Below W.heap.size W W') : InvF w R t c acc v xs W' := by
  have hs := h.size
  exact ⟨h.feed.below b h.feed.lt, h.box.below b h.box.lt, h.own.below b, (b.block _ (by omega)).trans h.loop, (b.block _ (by omega)).trans h.defs, h.low.trans (b.mono (by omega))⟩

theorem Own2.grown {W W' : World} {B g : Nat} {v : Value} {xs : List Value} {rows : List (List Value)} (h : Own2 W B v xs rows) (hg : W.grownBy W' (some g)) (hB : g < B) : Own2 W' B v xs rows :=
  ⟨h.outer.kept hg (.inr fun e => by have := (h.outer.lt g e).1; omega), fun i r hr => by
    obtain ⟨x, h1, h2⟩ := h.inner i r hr
    exact ⟨x, h1, h2.kept hg (.inr fun e => by have := (h2.lt g e).1; omega)⟩, h.up⟩

theorem InvF.text {w : World} {R : Loop} {t : ByteArray} {c : Int} {acc : List (List (List UInt8))} {v : Value} {xs : List Value} {W : World} (h : InvF w R t c acc v xs W) (t' : ByteArray) : InvF w R t' c acc v xs (W.setCell ⟨w.heap.size, 0, none⟩ (.string t')) := by
  refine ⟨?_, (Below.heap_setCell _ _ _ _ (by simp only; omega)).trans h.box, h.own.grown (grown_set W w.heap.size 0 _) (by omega), (Below.heap_setCell _ _ _ _ (by simp only; omega)).trans h.loop, (Below.heap_setCell _ _ _ _ (by simp only; omega)).trans h.defs, h.low.setCell (p := ⟨w.heap.size, 0, none⟩) (Nat.le_refl _) _⟩
  have := h.feed.set 0 (.string t')
  simpa using this

theorem InvF.code {w : World} {R : Loop} {t : ByteArray} {c : Int} {acc : List (List (List UInt8))} {v : Value} {xs : List Value} {W : World} (h : InvF w R t c acc v xs W) (c' : Int) : InvF w R t c' acc v xs (W.setCell ⟨w.heap.size, 1, none⟩ (.int .i64 c')) := by
  refine ⟨?_, (Below.heap_setCell _ _ _ _ (by simp only; omega)).trans h.box, h.own.grown (grown_set W w.heap.size 1 _) (by omega), (Below.heap_setCell _ _ _ _ (by simp only; omega)).trans h.loop, (Below.heap_setCell _ _ _ _ (by simp only; omega)).trans h.defs, h.low.setCell (p := ⟨w.heap.size, 1, none⟩) (Nat.le_refl _) _⟩
  have := h.feed.set 1 (.int .i64 c')
  simpa using this

def lenAt (W : World) (b : Nat) : Nat := match W.cell? ⟨b, 0, none⟩ with
  | some v => strLen v
  | none => 0

theorem lenAt_of {W : World} {b : Nat} {t : ByteArray} {x : Value} (h : RowAt W b 146 #[.string t, x]) : lenAt W b = t.size := by
  have := h.cell 0
  simp at this
  unfold lenAt
  rw [this]
  rfl

/-- How the telling ends. -/
def IterEnd (w : World) (R : Loop) (l : List UInt8) (W : World) : Prop :=
  ∃ t c acc v xs, InvF w R t c acc v xs W ∧ ((c = 2 ∧ fedM l = (acc, [], false)) ∨ (c = 1 ∧ fedM l = (acc, t.data.toList, true)))

/-- What is asked of the one that takes a request. -/
def Takes (w : World) (R : Loop) : Prop :=
  ∀ (t : ByteArray) (c : Int) (acc : List (List (List UInt8))) (v : Value) (xs : List Value) (ts : List (List UInt8)) (a1 : Option Addr) (c1 M : Nat) (W : World), InvF w R t c acc v xs W → W.ownsRow M 9 1 (.slice a1 ts.length c1) ts.length (strVals ts) → w.heap.size + 4 ≤ M → (∀ y ∈ xs, ∀ a, y.ownBlock = some a → a < M) → acc.length ≤ 2097152 →
    YieldAt Fence.wide 3 Tryz.prog (w.heap.size + 3) #[.slice a1 ts.length c1] W (fun e W' => e = .returned (.bool true) ∧ ∃ v' xs', InvF w R t c (acc ++ [ts]) v' xs' W')

set_option maxHeartbeats 4000000 in
set_option maxRecDepth 100000 in
theorem iter_in (w : World) (R : Loop) (t0 : ByteArray) (l : List UInt8) (W : World) (hr : Ready w) (hl : t0.data.toList = l) (hs : t0.size ≤ 2097152) (hT : Takes w R) (h0 : InvF w R t0 0 [] (.slice none 0 0) [] W) :
    CallsIn Fence.wide 4 Tryz.prog 89 #[.pointer (some ⟨w.heap.size, 0, none⟩), .func (.yield (w.heap.size + 3)) #[] #[]] W (fun e W' => (∃ v, e = .returned v) ∧ IterEnd w R l W') := by
  have HT : Hid (Takes w R) := hT
  have HR : Hid (Ready w) := hr
  have hsix := hr.six
  clear hT hr
  refine callsIn_of_wp Tryz.func89 rfl trivial ?_
  simp only [Tryz.ntmps89, List.size_toArray, List.length_cons, List.length_nil, Nat.reduceAdd, Nat.reduceSub, Array.replicate_succ, Array.replicate_zero, List.push_toArray, List.append_toArray, List.nil_append, List.cons_append]
  gi_wp2
  gi_loopw [4] (fun _ wr => ∃ (t : ByteArray) (c : Int) (acc : List (List (List UInt8))) (v : Value) (xs : List Value), InvF w R t c acc v xs wr ∧ acc.length + t.size ≤ t0.size ∧ Hid (fedM l = addReqs acc (fedM t.data.toList))) (fun _ wr => lenAt wr w.heap.size)
  case atStart => exact ⟨t0, 0, [], _, [], h0, by simp, by unfold Hid; rw [hl, add_nil]⟩
  case round =>
    obtain ⟨t, c, acc, v, xs, hI, hlen, hf⟩ := hrel
    clear h0 hl
    have c0 := hI.feed.cell 0
    have c1 := hI.feed.cell 1
    simp at c0 c1
    have HC := readReq t wr (by omega) (HR.out.below (hI.low.mono hsix))
    cases hm : requestM t.data.toList with
    | inl k =>
      rw [hm] at HC
      have HC' : Hid (Calls Tryz.prog 93 #[.string t] wr fun e w' => e = .returned (.tuple #[.slice none 0 0, .int .i64 0, .int .i64 k]) ∧ Below wr.heap.size wr w') := HC
      have hk := requestM_codes hm
      have hkz : (k != 0) = true := by simp; omega
      have HE : Hid ((k = 2 ∧ fedM l = (acc, [], false)) ∨ (k = 1 ∧ fedM l = (acc, t.data.toList, true))) := by
        unfold Hid
        rcases hk with rfl | rfl
        · right; rw [hf.out, fed_more hm (by omega)]; simp [addReqs]
        · left; rw [hf.out, fed_bad hm]; simp [addReqs]
      clear HC hm hk hf
      gi_wp2_with fail
      refine ⟨trivial, (callsIn_wide.2 HC'.out).mono ?_⟩
      rintro e w1 ⟨rfl, b1⟩
      have hI1 := hI.grow b1
      have d0 := hI1.feed.cell 0
      have d1 := hI1.feed.cell 1
      simp at d0 d1
      have f1 := hI1.feed.frozen 1
      have H2 : Hid _ := hI1.code k
      clear hI hI1 b1 HC' c0 c1
      gi_wp2
      exact bodyPost_ret (results_none rfl _ _ _) rfl ⟨⟨_, rfl⟩, _, _, _, _, _, H2.out, HE.out⟩
    | inr p =>
      obtain ⟨ts, u⟩ := p
      rw [hm] at HC
      obtain ⟨h16, _, hu0, hu1⟩ := request_fits hm
      rw [← Lib.size_eq] at hu1
      have HC' : Hid (Calls Tryz.prog 93 #[.string t] wr fun e w' => ∃ v, e = .returned (.tuple #[v, .int .i64 u, .int .i64 0]) ∧ w'.ownsRow wr.heap.size 9 1 v ts.length (strVals ts) ∧ Below wr.heap.size wr w') := HC
      have HF : Hid (fedM l = addReqs (acc ++ if ts = [] then [] else [ts]) (fedM (t.extract u t.size).data.toList)) := by
        unfold Hid
        rw [hf.out, fed_step hm, add_put, drop_str t u hu1]
      have HX : Hid (∀ y ∈ xs, ∀ a, y.ownBlock = some a → a < wr.heap.size) := fun y hy a ha => (hI.own.blocks y hy a ha).2
      have hui : (u : Int) ≤ (t.size : Int) := by omega
      have hsz1 : (t.extract u t.size).size = t.size - u := by simp
      have hsr := hI.size
      have LT : Hid (lenAt wr w.heap.size = t.size) := lenAt_of hI.feed
      clear HC hm hf
      gi_wp2_with fail
      refine ⟨trivial, (callsIn_wide.2 HC'.out).mono ?_⟩
      rintro e w1 ⟨v1, rfl, o1, b1⟩
      obtain ⟨a1, k1, rfl⟩ := slice_any o1
      have hI1 := hI.grow b1
      have d0 := hI1.feed.cell 0
      have d1 := hI1.feed.cell 1
      simp at d0 d1
      have f1 := hI1.feed.frozen 1
      have f0 := hI1.feed.frozen 0
      have HI1 : Hid _ := hI1
      clear hI hI1 b1 HC' c0 c1
      have H2 : Hid _ := (HI1.out.code 0).text (t.extract u t.size)
      have O2 : Hid _ := ownsRow_setCell_below (ownsRow_setCell_below o1 (a := ⟨w.heap.size, 1, none⟩) (by simp only; omega) (.int .i64 0)) (a := ⟨w.heap.size, 0, none⟩) (by simp only; omega) (.string (t.extract u t.size))
      have L1 := LT
      by_cases ht : ts = []
      · subst ht
        have HF' : Hid (fedM l = addReqs acc (fedM (t.extract u t.size).data.toList)) := by
          have := HF.out
          rwa [if_pos rfl, List.append_nil] at this
        have L2 : Hid _ := lenAt_of H2.out.feed
        clear HF o1 HI1 O2 HT
        gi_wp2_with fail
        refine ⟨fun _ h => (by cases h), ?_⟩
        gi_wp2
        go_roundw
        case rel => exact ⟨_, 0, acc, v, xs, H2.out, by rw [hsz1]; omega, HF'⟩
        case measure =>
          have e1 := L1.out
          have e2 := L2.out
          rw [e1, e2, hsz1]
          omega
      · have HF' : Hid (fedM l = addReqs (acc ++ [ts]) (fedM (t.extract u t.size).data.toList)) := by
          have := HF.out
          rwa [if_neg ht] at this
        have hpos : 0 < ts.length := List.length_pos_iff.2 ht
        have hdp : (0 : Int) < (ts.length : Int) := by omega
        obtain ⟨fn, tmps, assign, body, hy, hR⟩ := HT.out (t.extract u t.size) 0 acc v xs ts a1 k1 wr.heap.size _ H2.out O2.out hsr HX.out (by omega)
        clear HF ht o1 HI1 O2 HT H2 HX
        gi_wp2
        refine hR.mono ?_
        rintro e W3 ⟨rfl, v', xs', hI3⟩
        have L3 : Hid _ := lenAt_of hI3.feed
        have HI3 : Hid _ := hI3
        clear hI3 hy
        gi_wp2
        go_roundw
        case rel => exact ⟨_, 0, acc ++ [ts], v', xs', HI3.out, by rw [hsz1, List.length_append, List.length_singleton]; omega, HF'⟩
        case measure =>
          have e1 := L1.out
          have e2 := L3.out
          rw [e1, e2, hsz1]
          omega
end Go.Proofs.YtjgmkbldclangaaGreatDoor.Fd
