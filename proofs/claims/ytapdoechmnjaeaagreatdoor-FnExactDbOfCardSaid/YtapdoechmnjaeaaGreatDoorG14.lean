/- PROVED: FnExactDbOf returns true for every heap and every list of entries, and leaves both as they were: impl.DbOf answers as the specification at all that the law's own bound lets through (beyond it the law itself says true), writes into no argument, and its answer owns its memory. Its conditions: the three tables of strconv and math/bits and the two errors of strconv that the row lists are laid as the program's text lays them (tied by the card). -/
import Derived.Test.YtapdoechmnjaeaaGreatDoorG13
import Derived.Test.YtapdoechmnjaeaaGreatDoorHRow
import Derived.Test.YtapdoechmnjaeaaGreatDoorTie
import Derived.Test.YtapdoechmnjaeaaGreatDoorCards
import Derived.ProofKit
import Derived.OpenShut
import Derived.ChangeOld
import Derived.LaidMore
import Derived.HandedShaped
import Derived.Lib.LaidTab
import Derived.Shelf.Vars
import Derived.Stop.LaidTwo
import Derived.Stop.ErrReads
import Derived.SevenTiedAt
import Derived.Deep.Strs
namespace Go.Proofs.YtapdoechmnjaeaaGreatDoor
open Go.ChangeShapes Go.WideShapes Go.ChangeAt Go.WideMaps Go.WideElems Go.RowKit Go.Deep
open Hp (Cl cl0 CellsIn Fit)

theorem own : ownKnob Tryz.prog.godebug = none := by kernel_rfl
theorem laidOut : laidOutB Tryz.prog = true := by kernel_rfl
theorem cells2 : Tryz.prog.cellsOf 2 = 1 := by kernel_rfl
theorem cells9 : Tryz.prog.cellsOf 9 = 1 := by kernel_rfl
theorem cells101 : Tryz.prog.cellsOf 101 = 2 := by kernel_rfl
theorem cells103 : Tryz.prog.cellsOf 103 = 4 := by kernel_rfl
theorem cells241 : Tryz.prog.cellsOf 241 = 1 := by kernel_rfl
theorem gPowType : (Tryz.prog.globals[3]?).map (·.type) = some 235 := by kernel_rfl
theorem gSynType : (Tryz.prog.globals[1]?).map (·.type) = some 213 := by kernel_rfl
theorem gRngType : (Tryz.prog.globals[2]?).map (·.type) = some 213 := by kernel_rfl
theorem starName : "*" ++ "errors.errorString" = "*errors.errorString" := by decide

theorem row239 (u : TypeId) (h : Tryz.prog.typeName? 3 u = some "*errors.errorString") : u = 239 :=
  typeName_ptr_named (nm := "errors.errorString") (by rw [starName]; kernel_rfl) (by kernel_rfl) (by decide) u (by rw [starName]; exact h)

def laid5 : List (String × DataW Unit) := Rows.fnExactDbOfRow.laid

set_option maxRecDepth 100000 in
theorem tab_of_laid5 {W : World} (h : laidMetH Tryz.prog laid5 W) : Tab W := by
  have h1 := h.filter (fun x => x.1 == "internal/strconv.uint64pow10")
  have e : laid5.filter (fun x => x.1 == "internal/strconv.uint64pow10") = [("internal/strconv.uint64pow10", Lib.tabData .u64 Lib.pow10Tab)] := by kernel_rfl
  rw [e, MakeChecks.laidMetH_plain _ _ _ (by kernel_rfl)] at h1
  exact Lib.tabIs_of_head gPow gPowType Tryz.underlying235 Tryz.underlying197 (by kernel_rfl) (by kernel_rfl) h1

set_option maxRecDepth 100000 in
theorem errs_of_laid5 {W : World} (h : laidMetH Tryz.prog laid5 W) :
    (∃ tp p, W.var? Tryz.prog "strconv.ErrRange" = some #[.iface tp p]) ∧ (∃ tp p, W.var? Tryz.prog "strconv.ErrSyntax" = some #[.iface tp p]) := by
  have h1 := h.filter (fun x => x.1 == "strconv.ErrRange" || x.1 == "strconv.ErrSyntax")
  have e : laid5.filter (fun x => x.1 == "strconv.ErrRange" || x.1 == "strconv.ErrSyntax") = [("strconv.ErrRange", Rows.laid_strconv_ErrRange), ("strconv.ErrSyntax", Rows.laid_strconv_ErrSyntax)] := by kernel_rfl
  rw [e, MakeChecks.laidMetH_plain _ _ _ (by kernel_rfl)] at h1
  obtain ⟨a0, a1, s0, s1, c0, c1, t0, t1, hv0, hv1, _⟩ := laid_sentinels2 h1 gRng gRngType gSyn gSynType Tryz.underlying213 row239 Tryz.underlying239 Tryz.underlying241 rfl rfl Tryz.underlying9 cells241 cells9
  exact ⟨⟨_, _, hv0⟩, ⟨_, _, hv1⟩⟩

set_option maxRecDepth 100000 in
theorem six_of {W : World} (hsh : W.ShapedOpen Tryz.prog) : 6 ≤ W.heap.size := by
  have h5 : (((begin Tryz.prog (fun _ _ => 0) default).world.heap[5]?).bind Obj.row?).isSome = true := by kernel_rfl
  obtain ⟨⟨zero, t⟩, hz⟩ := Option.isSome_iff_exists.1 h5
  obtain ⟨cs, hh, _, _⟩ := hsh.1 5 zero t (by decide +kernel) hz
  have := (Array.getElem?_eq_some_iff.1 hh).1
  omega

theorem ready_of {W : World} (h : laidMetH Tryz.prog laid5 W) (hsh : W.ShapedOpen Tryz.prog) : Ready W := by
  obtain ⟨hr, hsy⟩ := errs_of_laid5 h
  exact ⟨tab_of_laid5 h, hsy, hr, six_of hsh⟩

theorem door_met5 (os : Os) (args : Array Value) : laidMetH Tryz.prog laid5 ((World.doorLaid Tryz.prog 4001 os).forCall (fun _ _ => 0) ⟨#[], args, []⟩).memory :=
  laidMetH_of_parts3 (fuel := 8) (laidMet_of_run' 8 (by kernel_rfl) (by kernel_rfl)) (by kernel_rfl) (by kernel_rfl)

set_option maxHeartbeats 1000000 in
set_option maxRecDepth 100000 in
/-- Entries that came in. -/
theorem ents_of_open {H : Type} {enc : TypeId × Value → H} {W : World} {fuel : Nat} {v : Value} {y : DataW H × List MemPlace}
    (hf : DataW.trod enc Tryz.prog W 0 (fun _ => true) true fuel 52 [v] = some y) :
    ∃ a b off n c L, v = .slice a n c ∧ EntsIn W a b off n L ∧ n ≤ 9223372036854775807 ∧ ∀ i, i < n → (L.getD i en0).name.size ≤ 9223372036854775807 := by
  rcases open_slice Tryz.underlying52 hf with ⟨hcs, _⟩ | ⟨x, l, c, m, n, D, Pl, hcs, _, hl, hm, hmm, _, hx⟩
  · simp at hcs
    exact ⟨none, 0, 0, 0, 0, [], hcs, ⟨rfl, fun h => by omega, fun h => by omega, fun i hi => by omega⟩, by omega, fun i hi => by omega⟩
  · simp at hcs
    simp only [if_true] at hmm
    rw [hmm] at hx
    have hm' : c ≤ 9223372036854775807 := by simpa [maxLen] using hm
    by_cases h0 : l = 0
    · subst h0
      exact ⟨some x, 0, 0, 0, c, [], hcs, ⟨rfl, fun h => by omega, fun h => by omega, fun i hi => by omega⟩, by omega, fun i hi => by omega⟩
    · obtain ⟨xb, xo, spot⟩ := x
      rw [cells103] at hx
      have hspot : spot = none := by
        obtain ⟨cs', h1, _⟩ := hx 0 (by omega)
        obtain ⟨_, h2, h3⟩ := World.cells?_some h1
        have := h3 0 (by omega)
        rw [List.getElem?_eq_getElem (by omega)] at this
        simpa [Addr.add] using World.cell?_spot this
      subst hspot
      have each : ∀ i, i < l → ∃ y : En, EnAt W xb (xo + i * 4) y ∧ y.name.size ≤ 9223372036854775807 := fun i hi => by
        obtain ⟨cs', h1, h2⟩ := hx i (by omega)
        obtain ⟨_, h3, h4⟩ := World.cells?_some h1
        obtain ⟨y0, y1, y2, q, _, _, t0, t1, t2⟩ := trod_struct3 Tryz.underlying103 h2
        match cs', h3, h4, t0, t1, t2 with
        | [v0, v1, v2, v3], _, h4, t0, t1, t2 =>
          obtain ⟨z0, z1, q', _, _, u0, u1⟩ := trod_struct2 Tryz.underlying101 t1
          simp only [cells2, cells9, cells101] at t0 t2 u0 u1
          obtain ⟨s0, e0, _, f0⟩ := DataW.trod_string Tryz.underlying9 t0
          obtain ⟨n1, e1, _, _⟩ := DataW.trod_int Tryz.underlying2 u0
          obtain ⟨n2, e2, _, _⟩ := DataW.trod_int Tryz.underlying2 u1
          obtain ⟨n3, e3, _, _⟩ := DataW.trod_int Tryz.underlying2 t2
          simp at e0 e1 e2 e3
          subst e0 e1 e2 e3
          have g : ∀ j, j < 4 → W.cell? ⟨xb, xo + i * 4 + j, none⟩ = [Value.string s0, .int .i64 n1, .int .i64 n2, .int .i64 n3][j]? := fun j hj => by
            rw [← h4 j hj, Addr.add_lit, Addr.add_lit]
          exact ⟨⟨s0, n1, n2, n3⟩, ⟨g 0 (by omega), g 1 (by omega), g 2 (by omega), g 3 (by omega)⟩, by simpa [maxLen] using f0⟩
      obtain ⟨f, hfm⟩ := @choose_lt En ⟨en0⟩ l _ each
      have hget : ∀ i, i < l → ((List.range l).map fun i => f i).getD i en0 = f i := fun i hi => by
        simp [List.getD, hi]
      refine ⟨some ⟨xb, xo, none⟩, xb, xo, l, c, (List.range l).map fun i => f i, hcs, ⟨by simp, fun _ => rfl, fun _ => block_lt_of_cell (hfm 0 (by omega)).1.c0, fun i hi => ?_⟩, by omega, fun i hi => ?_⟩
      · rw [hget i hi]
        exact (hfm i hi).1
      · rw [hget i hi]
        exact (hfm i hi).2

set_option maxRecDepth 100000 in
theorem db_lifted (os : Os) (started : os.Started) (H : Type) (enc : TypeId × Value → H) :
    ReturnsInHanded {} Tryz.checked os 4 .any (fun w args => (Rows.fnExactDbOfSpec.pre enc Tryz.prog Tryz.f4 [] false w args ∧ laidMetH Tryz.prog laid5 w) ∧ sizedMet enc Tryz.prog Tryz.f4 (OpenSpec.ofChange Rows.fnExactDbOfSpec) false w args)
      (Rows.fnExactDbOfSpec.post enc Tryz.prog Tryz.f4 false true false false) := by
  refine returnsInHanded_of_calls (C := Tryz.checked) own started (by kernel_rfl)
    (ChangeSpec.witness_shaped (enc := enc) (C := Tryz.checked) (os := os) (X := fun w _ => laidMetH Tryz.prog laid5 w) false (World.doorLaid Tryz.prog 4001 os) #[.agg #[.string ⟨#[]⟩, .slice none 0 0], .slice none 0 0] 8 rfl (World.shaped_of_RefB (by kernel_rfl) (by kernel_rfl)) (by kernel_rfl) (by kernel_rfl) (by kernel_rfl) (door_met5 os _)) ?_
  intro w0 tape inp _ hsh _ hok hpre _
  obtain ⟨_, _, _, fn, hfn, _, _, _, _, hval0⟩ := hok
  obtain rfl : fn = Tryz.f4 := Option.some.inj (hfn.symm.trans Tryz.func4)
  obtain ⟨⟨⟨ds, gs, before, hw0, _⟩, hL0⟩, _⟩ := hpre
  have hW := DataW.Whole.of_heap (w' := w0.forCall tape inp) (by rfl) hw0
  have hL : laidMetH Tryz.prog laid5 (w0.forCall tape inp) := hL0.of_heap (by rfl)
  have hR := ready_of hL hsh
  generalize w0.forCall tape inp = W at *
  generalize w0.heap.size = base at *
  generalize inp.args = args at *
  have hval : ∀ (j : Nat) t v, Tryz.f4.params[j]? = some t → args[j]? = some v → Value.okWide Tryz.prog W .any base t v := hval0
  have hW' := hW
  obtain ⟨p, q, hA0, hV, rfl, hfz, hnd⟩ := hW
  have hA : DataW.TrodAll enc Tryz.prog W 0 (fun _ => true) true Tryz.f4.params.toList args.toList ds p := hA0
  rw [Tryz.params4] at hA hval
  obtain ⟨v0, vs0, d0, ds0, p0, q0, hargs, rfl, rfl, h0, r0⟩ := trodAll_cons hA
  obtain ⟨v1, vs1, d1, ds1, p1, q1, hargs1, rfl, rfl, h1, r1⟩ := trodAll_cons r0
  obtain ⟨rfl, rfl, rfl⟩ := trodAll_nil r1
  obtain rfl : args = #[v0, v1] := by cases args; simp_all
  obtain ⟨rfl, rfl⟩ := trodVars_none hV
  have k0 := h0
  have k1 := h1
  have lt0 : ∀ x ∈ p0, x.block < W.heap.size := by obtain ⟨m, hm⟩ := k0; exact DataW.trod_lt m _ _ _ hm
  have lt1 : ∀ x ∈ p1, x.block < W.heap.size := by obtain ⟨m, hm⟩ := k1; exact DataW.trod_lt m _ _ _ hm
  obtain ⟨s, a, b, off, n, c, L, rfl, hc, hs, hn, hfit⟩ := Hp.heap_of_open (hval 0 51 v0 rfl rfl) h0
  obtain ⟨fuel, hf1⟩ := h1
  have hf1' : DataW.trod enc Tryz.prog W 0 (fun _ => true) true fuel 52 [v1] = some (d1, p1) := by
    obtain ⟨x0, x1, x2, hv1⟩ := okWide_slice Tryz.underlying52 (hval 1 52 v1 rfl rfl)
    rw [hv1] at hf1 ⊢
    exact hf1
  obtain ⟨ea, eb, eo, m, ec, es, rfl, hents, hm, hz⟩ := ents_of_open hf1'
  clear hA0 hval0
  refine (dbOf_walk s a b off n c L ea eb eo m ec es W hc hs hn hfit hents hm hz hR).mono fun e W' ⟨he, bel⟩ => ?_
  subst he
  exact ChangeSpec.post_blind ⟨_, _, _, [], _, [], hW', trodAll_mk1 (shut_bool Tryz.underlying4 _), trodAll_mk2 (Below.trod laidOut (by kernel_rfl) (of_decide_eq_true (by kernel_rfl)) k0 bel lt0) (Below.trod laidOut (by kernel_rfl) (of_decide_eq_true (by kernel_rfl)) k1 bel lt1), rfl, bel.frame _, fun h => by cases h⟩

theorem db_row : Rows.FnExactDbOfSaid :=
  OpenClaim.holds_of_wide 4 Tryz.f4 rfl rfl rfl rfl rfl rfl rfl ⟨rfl, rfl, rfl, rfl, rfl⟩ rfl rfl rfl rfl rfl (by kernel_rfl) Tryz.func4 (by kernel_rfl)
    (of_decide_eq_true (by kernel_rfl)) (by unfold Func.isWrapper; first | (rw [if_pos (by decide +kernel)]; kernel_rfl) | (rw [if_neg (by decide +kernel)]; exact ⟨rfl, rfl⟩))
    (fun os started H enc _ => db_lifted os started H enc)

theorem dbOf_holds : Rows.FnExactDbOfCardSaid :=
  Claim7.holds_tied_plain_at .later [] [.data, .data, .data, .sentinel, .sentinel] true (true, "ba49408e46556a78683578e9d0a3b9ab32d9b13a4d62beb387077e1b26b7cc1d") true
    db_row (fun _ h => by cases h) (by kernel_rfl) (fun _ h => by cases h) fnExactDbOf_row_tie rfl ⟨rfl, rfl⟩ (by kernel_rfl) rfl
    (fun f fn hf hfn => by
      obtain rfl : f = 4 := Option.some.inj ((show Tryz.prog.funcNamed Rows.fnExactDbOfRow.func = some 4 by kernel_rfl).symm.trans hf) |>.symm
      obtain rfl : fn = Tryz.f4 := (Option.some.inj (Tryz.func4.symm.trans hfn)).symm
      exact ⟨by kernel_rfl, fun j t ht => by
        rw [Tryz.params4] at ht
        have hm : t ∈ [51, 52] := by simpa using Array.mem_of_getElem? ht
        have hall : ([51, 52].all fun u => !Tryz.prog.wantsStandIn u) = true := by kernel_rfl
        exact (show Tryz.prog.wantsStandIn t = false by simpa using List.all_eq_true.1 hall t hm)⟩)
    (by kernel_rfl)
#print axioms dbOf_holds
end Go.Proofs.YtapdoechmnjaeaaGreatDoor
