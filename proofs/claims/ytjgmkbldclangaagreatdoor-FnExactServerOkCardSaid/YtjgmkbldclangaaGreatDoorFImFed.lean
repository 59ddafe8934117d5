/- impl.Fed at this dump: the requests that are told are the list. -/
import Derived.Test.YtjgmkbldclangaaGreatDoorFIter
import Derived.Deep.RegionWith
import Derived.Deep.RegionHeld3
import Derived.Deep.Cut
namespace Go.Proofs.YtjgmkbldclangaaGreatDoor.Fd
open Go.RowKit Go.Sort Go.Shelf
attribute [local go_sem] Oper.semAt_some

theorem InvF.put {w : World} {R : Loop} {t : ByteArray} {c : Int} {acc : List (List (List UInt8))} {v : Value} {xs : List Value} {W : World} (h : InvF w R t c acc v xs W) (R' : Loop) : InvF w R' t c acc v xs (W.putObj (w.heap.size + 3) (.loop R')) := by
  have hs := h.size
  have hg := grownBy_putObj' W (w.heap.size + 3) (.loop R')
  exact ⟨(World.putObj_heap_other (by omega)).trans h.feed, (World.putObj_heap_other (by omega)).trans h.box, h.own.grown hg (by omega), World.putObj_heap_same (by omega), (World.putObj_heap_other (by omega)).trans h.defs, ⟨hg.os.trans h.low.os, hg.tape.trans h.low.tape, hg.output.trans h.low.output, by have := h.low.size; have := hg.size; omega, fun k hk => (World.putObj_heap_other (by omega)).trans (h.low.block k hk)⟩⟩

/-- What the body of a round is asked. -/
def Bodied (w : World) (R : Loop) (Rb : Loop) (a1f : Value → Act) : Prop :=
  ∀ (t : ByteArray) (c : Int) (acc : List (List (List UInt8))) (v : Value) (xs : List Value) (ts : List (List UInt8)) (a1 : Option Addr) (c1 M : Nat) (W : World), InvF w Rb t c acc v xs W → W.ownsRow M 9 1 (.slice a1 ts.length c1) ts.length (strVals ts) → w.heap.size + 4 ≤ M → (∀ y ∈ xs, ∀ a, y.ownBlock = some a → a < M) → acc.length ≤ 2097152 →
    R.body.wpIn (Fence.wide.inRound (w.heap.size + 3)) 3 Tryz.prog (fun e _ W' => e = .normal ∧ ∃ v' xs', InvF w Rb t c (acc ++ [ts]) v' xs' W') (a1f (.slice a1 ts.length c1)) W

theorem takes_of (w : World) (R : Loop) (a1f : Value → Act) (hst : R.state = .ready) (hpe : R.pending = none) (hps : R.params.size = 1)
    (hassign : ∀ (x : Value) (W : World) (K : Act → World → Prop), K (a1f x) W → R.assign.wpIn (Fence.wide.inRound (w.heap.size + 3)) 3 Tryz.prog (Exit.then K (fun _ _ _ => False)) { tmps := (R.params.zip #[x]).foldl (fun t (p, v) => t.setIfInBounds p v) R.tmps, defers := [] } W)
    (hbody : Bodied w R { R with state := .busy } a1f) : Takes w R := by
  intro t c acc v xs ts a1 c1 M W hI hx hM hX hacc
  refine ⟨R.fn, _, R.assign, R.body, run_yield (P := Tryz.prog) hI.loop (by simpa using hps.symm), roundIn_of_wpIn trivial (hassign _ W _ ⟨_, run_beginRound hI.loop hst, ?_⟩)⟩
  have hI2 := hI.put { R with state := .busy }
  have hx2 : (W.putObj (w.heap.size + 3) (.loop { R with state := .busy })).ownsRow M 9 1 (.slice a1 ts.length c1) ts.length (strVals ts) := hx.kept (grownBy_putObj' W (w.heap.size + 3) _) (.inr fun e => by have := (hx.lt _ e).1; omega)
  refine wpIn_mono (hbody t c acc v xs ts a1 c1 M _ hI2 hx2 hM hX hacc) ?_
  rintro e a3 W3 ⟨rfl, v', xs', hI3⟩
  have hr := run_endRound (P := Tryz.prog) none hI3.loop
  have hR : ({ { R with state := .busy } with state := if (none : Option Code).isNone then .ready else .done, pending := none } : Loop) = R := by
    cases R
    simp at hst hpe
    simp [hst, hpe]
  rw [hR] at hr
  exact ⟨_, _, hr, rfl, v', xs', hI3.put R⟩

theorem wp_calm {F : Fence} {n : Nat} {P : Program} {c : Code} {Q : Exit → Act → World → Prop} {a : Act} {w : World} (h : c.wpIn F n P (Exit.then (fun a' w' => Q .normal a' w') (fun _ _ _ => False)) a w) : c.wpIn F n P Q a w :=
  wpIn_mono h (fun e a' w' hq => by
    cases e with
    | normal => exact hq
    | _ => exact hq.elim)

/-- A range over a bound method, outermost: the loop's record is laid, and the method is called with the taker. -/
theorem range_bound {g : Operand} {ps : Array Tmp} {assign body : Code} {Q : Exit → Act → World → Prop} {a : Act} {w : World} (gf : Nat) (x : Value)
    (hg : a.eval g = .func (.func gf) #[x] #[]) (eg : ∀ args w, (callFunc gf args).run Tryz.prog w = .ok (.enter gf args) w)
    (h : ∀ (fn : FuncId) (R : Loop) (W1 : World), R = { state := .ready, pending := none, fn, tmps := a.tmps, params := ps, assign, body, defers := w.heap.size } → W1 = (w.alloc (.deferred (some []))).alloc (.loop R) →
      CallsIn Fence.wide 4 Tryz.prog gf #[x, .func (.yield (w.heap.size + 1)) #[] #[]] W1 (rangePost Fence.wide 5 Tryz.prog (w.heap.size + 1) Q { a with defers := { target := .collected w.heap.size, args := #[] } :: a.defers })) :
    (Code.rangeFunc g ps assign body).wpIn Fence.wide 5 Tryz.prog Q a w := by
  refine wpIn_rangeFunc ?_
  intro fn hfn
  obtain ⟨R, hR⟩ : ∃ R : Loop, R = { state := .ready, pending := none, fn, tmps := a.tmps, params := ps, assign, body, defers := w.heap.size } := ⟨_, rfl⟩
  obtain ⟨W1, hW1⟩ : ∃ W1, W1 = (w.alloc (.deferred (some []))).alloc (.loop R) := ⟨_, rfl⟩
  refine ⟨w.heap.size + 1, [{ target := .collected w.heap.size, args := #[] }], W1, { target := .fn (.func gf) #[], args := #[x, .func (.yield (w.heap.size + 1)) #[] #[]] }, W1, gf, #[x, .func (.yield (w.heap.size + 1)) #[] #[]], W1, ?_, ?_, ?_, ?_, fun _ => by omega, h fn R W1 hR hW1⟩
  · rw [hW1, hR]; exact run_enterLoop_outer _ _ _ _ _
  · simp only [resolve, hg]
    simp [go_sem]
  · intro f' hf'; trivial
  · simp [invoke, go_sem, eg]

set_option maxHeartbeats 4000000 in
set_option maxRecDepth 100000 in
theorem implFed (a b : ByteArray) (w : World) (hr : Ready w) (hs : a.size + b.size ≤ 2097152) :
    Calls Tryz.prog 84 #[.string a, .string b] w (FedEnd w (fedM (a.data.toList ++ b.data.toList))) := by
  obtain ⟨i0, hi, hz0, hz1, hz2⟩ := info_parts info30
  have hd : (a ++ b).data.toList = a.data.toList ++ b.data.toList := by simp
  have hsz : (a ++ b).size = a.size + b.size := ByteArray.size_append
  rw [← hd]
  obtain ⟨l, hl⟩ : ∃ l, (a ++ b).data.toList = l := ⟨_, rfl⟩
  rw [hl]
  have hs0 : (a ++ b).size ≤ 2097152 := by omega
  refine (callsIn_wide (n := 5)).1 ?_
  refine callsIn_of_wp_marks Tryz.func84 rfl trivial ?_
  simp only [Tryz.ntmps84, List.size_toArray, List.length_cons, List.length_nil, Nat.reduceAdd, Nat.reduceSub, Array.replicate_succ, Array.replicate_zero, List.push_toArray, List.append_toArray, List.nil_append, List.cons_append]
  gi_wp2
  generalize a ++ b = t0 at *
  have z0 : ((w.alloc (.cells #[.string t0, .int .i64 0] 146)).alloc (.cells #[.slice none 0 0] 39)).heap.size = w.heap.size + 2 := by simp
  have q0 : RowAt ((w.alloc (.cells #[.string t0, .int .i64 0] 146)).alloc (.cells #[.slice none 0 0] 39)) w.heap.size 146 #[.string t0, .int .i64 0] := RowAt.below (RowAt.new w 146 #[.string t0, .int .i64 0]) ((Below.refl _ _).alloc (Nat.le_refl _) _) (by simp)
  have q1 : RowAt ((w.alloc (.cells #[.string t0, .int .i64 0] 146)).alloc (.cells #[.slice none 0 0] 39)) (w.heap.size + 1) 39 #[.slice none 0 0] := by
    have := RowAt.new (w.alloc (.cells #[.string t0, .int .i64 0] 146)) 39 #[.slice none 0 0]
    simpa using this
  have bw : Below w.heap.size w ((w.alloc (.cells #[.string t0, .int .i64 0] 146)).alloc (.cells #[.slice none 0 0] 39)) := Joins.below_alloc2 _ _ _
  generalize (w.alloc (.cells #[.string t0, .int .i64 0] 146)).alloc (.cells #[.slice none 0 0] 39) = W0 at *
  refine range_bound 89 (.pointer (some ⟨w.heap.size, 0, none⟩)) rfl (enters_of Tryz.func89 (by kernel_rfl) rfl) ?_
  intro fn R W1 hR hW1
  rw [z0] at hR ⊢
  have h0 : InvF w R t0 0 [] (.slice none 0 0) [] W1 := by
    have b1 : Below W0.heap.size W0 W1 := by rw [hW1]; exact Joins.below_alloc2 _ _ _
    refine ⟨q0.below b1 q0.lt, q1.below b1 q1.lt, Own2.nil _ _, ?_, ?_, bw.trans (b1.mono (by omega))⟩
    · rw [hW1]
      have := World.alloc_heap_new (W0.alloc (.deferred (some []))) (.loop R)
      rwa [World.size_alloc, z0] at this
    · rw [hW1]
      have := (Below.heap_alloc (W0.alloc (.deferred (some []))) (.loop R) W0.heap.size (by simp)).trans (World.alloc_heap_new W0 (.deferred (some [])))
      rwa [z0] at this
  have hT : Takes w R := by
    refine takes_of w R ?_ (by rw [hR]) (by rw [hR]) (by rw [hR]; rfl) ?_ ?_
    · exact fun x => { tmps := #[.string a, .string b, undef, undef, .slice none 0 0, .string ⟨#[]⟩, .bool false, .pointer (some ⟨w.heap.size, 0, none⟩), .pointer (some ⟨w.heap.size + 1, 0, none⟩), x, .string a, .string b, .string t0, .agg #[.string t0, .int .i64 0], .pointer (some ⟨w.heap.size, 0, none⟩), .pointer (some ⟨w.heap.size, 0, none⟩), .func (.func 89) #[.pointer (some ⟨w.heap.size, 0, none⟩)] #[], x, undef, undef, undef, undef, undef, undef, undef, undef, undef, undef, undef, undef, undef, undef, undef, undef], defers := [] }
    · intro x W K hK
      subst hR
      gi_wp2
      exact hK
    · have hbd := congrArg Loop.body hR
      simp only at hbd
      unfold Bodied
      generalize ({ R with state := .busy } : Loop) = Rb
      rw [hbd]
      clear hbd hR hW1 h0
      intro t c acc v xs ts a1 c1 M W hI hx hM hX hacc
      have HI : Hid _ := hI
      have hsw := hI.size
      have e0 := hI.box.cell 0
      simp at e0
      obtain ⟨o1, o2, hov⟩ := slice_any hI.own.outer
      have hrl : (rowsOf acc).length ≤ 2097152 := by rw [rowsOf_len]; omega
      have HOut : W.ownsRow (w.heap.size + 4) 52 1 v (rowsOf acc).length xs := hI.own.outer
      have HHx : Hid (W.ownsRow M 9 1 (.slice a1 ts.length c1) ts.length (strVals ts)) := hx
      have HX : Hid (∀ y ∈ xs, ∀ a, y.ownBlock = some a → a < M) := hX
      clear hI hx hX
      subst hov
      gi_wp2_with (gi_at_builtin; refine wpListIn_append_own _ rfl _ _ 39 rfl (w.heap.size + 4) 52 i0 _ 1 24 Tryz.underlying39 hi hz0 hz1 hz2 rfl (by decide) _ _ _ rfl (HOut.alloc _) ⟨W.heap.size, 0, none⟩ 1 1 [.slice a1 ts.length c1] rfl rfl (cell_one_new _ _ _) (by intro y hy; simp at hy; subst hy; rfl) (by unfold maxLen; omega) (by omega) (by simp; omega) ?_; intro v' w5 hown' hgrow hnil; obtain ⟨g', cap', rfl⟩ := ownsRow_succ hown'
                   have hold : ∀ k, k < W.heap.size → some k ≠ Value.ownBlock (.slice o1 (rowsOf acc).length o2) → w5.heap[k]? = W.heap[k]? := fun k hk hne => by
                     rw [hgrow.block k (by simp; omega) hne]
                     exact Below.heap_alloc _ _ _ hk
                   have hnb : ∀ k, k < w.heap.size + 4 → some k ≠ Value.ownBlock (.slice o1 (rowsOf acc).length o2) := fun k hk e => by have := (HOut.lt k e.symm).1; omega
                   have bx : RowAt w5 (w.heap.size + 1) 39 #[.slice o1 (rowsOf acc).length o2] := (hold _ (by omega) (hnb _ (by omega))).trans HI.out.box
                   have bc := bx.cell 0
                   have bf := bx.frozen 0
                   simp at bc)
      have hsz5 : W.heap.size ≤ w5.heap.size := by have := hgrow.size; simp at this; omega
      have HN : Hid (InvF w Rb t c (acc ++ [ts]) (.slice (some ⟨g', 0, none⟩) ((rowsOf acc).length + 1) cap') (xs ++ [.slice a1 ts.length c1]) (w5.setCell ⟨w.heap.size + 1, 0, none⟩ (.slice (some ⟨g', 0, none⟩) ((rowsOf acc).length + 1) cap'))) := by
        have hI := HI.out
        have H5 : Own2 w5 (w.heap.size + 4) (.slice (some ⟨g', 0, none⟩) ((rowsOf acc).length + 1) cap') (xs ++ [.slice a1 ts.length c1]) (rowsOf (acc ++ [ts])) := by
          rw [rowsOf_snoc]
          exact hI.own.more (by rw [strVals_len]; exact HHx.out) HX.out hM hown' hold hgrow.os hgrow.tape hgrow.output hsz5
        refine ⟨(Below.heap_setCell _ _ _ _ (by simp only; omega)).trans ((hold _ (by omega) (hnb _ (by omega))).trans hI.feed), ?_, H5.grown (grown_set w5 (w.heap.size + 1) 0 _) (by omega), (Below.heap_setCell _ _ _ _ (by simp only; omega)).trans ((hold _ (by omega) (hnb _ (by omega))).trans hI.loop), (Below.heap_setCell _ _ _ _ (by simp only; omega)).trans ((hold _ (by omega) (hnb _ (by omega))).trans hI.defs), ?_⟩
        · have := bx.set 0 (.slice (some ⟨g', 0, none⟩) ((rowsOf acc).length + 1) cap')
          simpa using this
        · exact Below.setCell (p := ⟨w.heap.size + 1, 0, none⟩) ⟨hgrow.os.trans hI.low.os, hgrow.tape.trans hI.low.tape, hgrow.output.trans hI.low.output, by have := hI.low.size; omega, fun k hk => (hold k (by omega) (hnb k (by omega))).trans (hI.low.block k hk)⟩ (Nat.le_succ _) _
      exact ⟨_, _, HN.out⟩
  refine (iter_in w R t0 l W1 hr hl hs0 hT h0).mono ?_
  rintro e W2 ⟨⟨v, rfl⟩, t, c, acc, vl, xs, hI, hE⟩
  obtain ⟨Rx, hRx⟩ : ∃ Rx : Loop, Rx = { R with state := .exhausted } := ⟨_, rfl⟩
  have hI4 := hI.put Rx
  obtain ⟨W4, hW4⟩ : ∃ W4, W4 = W2.putObj (w.heap.size + 3) (.loop Rx) := ⟨_, rfl⟩
  have hpe : R.pending = none := by rw [hR]
  have hrun : (Instr.endLoop (w.heap.size + 3)).run Tryz.prog W2 = .ok R.pending W4 := by
    rw [hW4, hRx]
    exact run_endLoop (P := Tryz.prog) hI.loop (by rw [hR]; simp)
  rw [hpe] at hrun
  rw [← hW4] at hI4
  refine ⟨none, W4, hrun, ?_⟩
  clear hT h0 hrun hI hW4 hW1 hpe hRx hR
  have e0 := hI4.feed.cell 0
  have e1 := hI4.feed.cell 1
  have e2 := hI4.box.cell 0
  simp at e0 e1 e2
  have hK := hI4.defs
  have hOut : Hid (∀ W5, Below W4.heap.size W4 W5 → W5.heap[w.heap.size + 2]? = some (.deferred (some [])) ∧ Own2 (W5.putObj (w.heap.size + 2) (.deferred none)) w.heap.size vl xs (rowsOf acc) ∧ Below w.heap.size w (W5.putObj (w.heap.size + 2) (.deferred none))) := fun W5 b5 => by
    have hI5 := hI4.grow b5
    have hg := grownBy_putObj' W5 (w.heap.size + 2) (.deferred none)
    have hs5 := hI5.size
    exact ⟨hI5.defs, (hI5.own.grown hg (by omega)).base (by omega), ⟨hg.os.trans hI5.low.os, hg.tape.trans hI5.low.tape, hg.output.trans hI5.low.output, by have := hI5.low.size; have := hg.size; omega, fun k hk => (World.putObj_heap_other (by omega)).trans (hI5.low.block k hk)⟩⟩
  obtain ⟨o1, o2, hov⟩ := slice_any hI4.own.outer
  subst hov
  have HI4 : Hid _ := hI4
  clear hI4
  rcases hE with ⟨rfl, hF⟩ | ⟨rfl, hF⟩
  · have HF : Hid (fedM l = (acc, [], false)) := hF
    clear hF
    gi_wp2
    obtain ⟨k1, k2, k3⟩ := hOut.out W4 (Below.refl _ _)
    refine ⟨by simp, .inl ⟨_, _, rfl, run_takeDeferred k1, ?_⟩⟩
    refine ⟨.tuple #[.slice o1 (rowsOf acc).length o2, .string ⟨#[]⟩, .bool false], by simp [results, Tryz.results84, go_sem], ?_⟩
    show FedEnd w (fedM l) _ _
    rw [HF.out]
    exact ⟨_, xs, rfl, k2, k3⟩
  · have HF : Hid (fedM l = (acc, t.data.toList, true)) := hF
    have hts : t.size ≤ 2097152 := by
      have h1 := fed_len l
      rw [HF.out] at h1
      have h2 : t.data.toList.length ≤ l.length := h1
      rw [← Lib.size_eq, ← hl, ← Lib.size_eq] at h2
      omega
    clear hF
    gi_wp2_with fail
    refine wp_calm ?_
    refine wpIn_wide.2 ?_
    go_region_with (go_at_call 90
                    refine (clone60 t _ hts).mono ?_
                    rintro e w5 ⟨rfl, b5⟩
                    have b6 : Below W4.heap.size W4 w5 := ⟨b5.os, b5.tape, b5.output, b5.size, b5.block⟩
                    have e5 := (HI4.out.grow b6).box.cell 0
                    simp at e5)
    all_goals
      obtain ⟨k1, k2, k3⟩ := hOut.out w5 b6
      clear b5 hOut
      gi_wp2
      refine ⟨by simp, .inl ⟨_, _, rfl, run_takeDeferred k1, ?_⟩⟩
      refine ⟨.tuple #[.slice o1 (rowsOf acc).length o2, .string t, .bool true], by simp [results, Tryz.results84, go_sem], ?_⟩
      show FedEnd w (fedM l) _ _
      rw [HF.out]
      exact ⟨_, xs, rfl, k2, k3⟩
end Go.Proofs.YtjgmkbldclangaaGreatDoor.Fd
