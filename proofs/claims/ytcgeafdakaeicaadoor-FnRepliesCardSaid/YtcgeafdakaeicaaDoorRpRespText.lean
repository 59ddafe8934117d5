/- PROVED: FnExactRespText returns true for every list of nodes, and leaves it as it was: impl.RespText answers as the specification at every argument of at most 1048576 nodes, bytes and kids together (beyond it the law itself says true). Its conditions: the three tables of strconv and math/bits that the row lists are laid as the program's text lays them (tied by the card). -/
import Derived.Test.YtcgeafdakaeicaaDoorRpEq
import Derived.Test.YtcgeafdakaeicaaDoorRpI
import Derived.Test.YtcgeafdakaeicaaDoorRpT
import Derived.Test.YtcgeafdakaeicaaDoorTie
import Derived.Test.YtcgeafdakaeicaaDoorCards
import Derived.ProofKit
import Derived.OpenShut
import Derived.ChangeOld
import Derived.LaidMore
import Derived.Deep.Slices
import Derived.Lib.SmallJoins
import Derived.Lib.LaidTab
import Derived.SevenTiedAt
namespace Go.Proofs.YtcgeafdakaeicaaDoor.Rp
open Go.ChangeShapes Go.WideShapes Go.ChangeAt Go.WideMaps Go.WideElems Go.RowKit Go.Deep

set_option maxHeartbeats 1000000 in
set_option maxRecDepth 100000 in
theorem spec_all (a : Option Addr) (b off n c : Nat) (L : List Nd) (w : World) (h : RespsIn w a b off n L) (hn : n ≤ 1048576) (hk : ∀ i, i < n → (L.getD i nd0).kids.length ≤ 1048576) :
    Calls Tryd.prog 12 #[.slice a n c] w fun e w' => e = .returned (.bool (specB L)) ∧ Below w.heap.size w w' := by
  by_cases h1 : 1 ≤ n ∧ n ≤ 1000
  · exact specOk_any a b off n c L w h hn hk h1.1 h1.2
  · have HE : Hid (specB L = false) := by
      unfold Hid
      rw [specB, h.len, decide_eq_false h1, Bool.false_and, Bool.false_and]
    by_cases h0 : (n : Int) < 1
    · go_enter Tryd.func12, Tryd.ntmps12
      go_wp2
      go_ret
      exact ⟨ret_bool HE.out.symm, Below.refl _ _⟩
    · have hd : decide ((n : Int) < 1) = false := by simp; omega
      have hd2 : (1000 : Int) < n := by omega
      go_enter Tryd.func12, Tryd.ntmps12
      go_wp2
      go_ret
      exact ⟨ret_bool HE.out.symm, Below.refl _ _⟩

set_option maxHeartbeats 1000000 in
set_option maxRecDepth 100000 in
theorem impl_all (a : Option Addr) (b off n c : Nat) (L : List Nd) (w : World) (h : RespsIn w a b off n L) (hk : ∀ i, i < n → (L.getD i nd0).kids.length ≤ 1048576) :
    Calls Tryd.prog 11 #[.slice a n c] w fun e w' => e = .returned (.bool (implB L)) ∧ Below w.heap.size w w' := by
  by_cases h1 : 1 ≤ n ∧ n ≤ 1000
  · exact implOk_any a b off n c L w h hk h1.1 h1.2
  · have HE : Hid (implB L = false) := by
      unfold Hid
      rw [implB, h.len, decide_eq_false h1, Bool.false_and]
    by_cases h0 : n = 0
    · have hd : ((n : Int) == 0) = true := by simp [h0]
      clear h0
      go_enter Tryd.func11, Tryd.ntmps11
      go_wp2
      go_ret
      exact ⟨ret_bool HE.out.symm, Below.refl _ _⟩
    · have hd : ((n : Int) == 0) = false := by simp [h0]
      have hd2 : (1000 : Int) < n := by omega
      clear h0
      go_enter Tryd.func11, Tryd.ntmps11
      go_wp2
      go_ret
      exact ⟨ret_bool HE.out.symm, Below.refl _ _⟩

theorem mem_le_sum : ∀ (l : List Nat) (x : Nat), x ∈ l → x ≤ l.sum
  | [], x, h => by cases h
  | y :: l, x, h => by
    rw [List.sum_cons]
    rcases List.mem_cons.1 h with rfl | h
    · omega
    · have := mem_le_sum l x h; omega

theorem tot_ge (L : List Nd) (i : Nat) (h : i < L.length) : cost (L.getD i nd0) ≤ tot L := by
  unfold tot
  rw [List.getD_eq_getElem?_getD, List.getElem?_eq_getElem h]
  exact mem_le_sum _ _ (List.mem_map.2 ⟨_, List.getElem_mem h, rfl⟩)


set_option maxHeartbeats 1000000 in
/-- The law's walk: true; nothing that was there has turned. -/
theorem law_walk (a : Option Addr) (b off n c : Nat) (L : List Nd) (w : World) (h : RespsIn w a b off n L) (hn : n ≤ 9223372036854775807) (ht : Tab w) (hw : 0 < w.heap.size) :
    Calls Tryd.prog 5 #[.slice a n c] w fun e w' => e = .returned (.bool true) ∧ Below w.heap.size w w' := by
  go_enter Tryd.func5, Tryd.ntmps5
  go_wp2_with fail
  refine (szResps a b off n c L 1048576 w h hn (by omega) (by omega)).mono ?_
  rintro e w0 ⟨⟨r, rfl, hr⟩, b0⟩
  by_cases hneg : r < 0
  · go_wp2
    go_ret
    exact ⟨rfl, b0⟩
  · have hr2 := hr.resolve_left hneg
    have hn2 : n ≤ 1048576 := by omega
    have hk : ∀ i, i < n → (L.getD i nd0).kids.length ≤ 1048576 := fun i hi => by
      have := tot_ge L i (by rw [h.len]; exact hi)
      unfold cost at this
      omega
    have h0 := resps_below h b0
    have s0 := b0.size
    have HS : Hid (implB L = specB L) := same_look L
    clear hr hr2
    go_wp2_with fail
    refine (copyResps a b off n c L w0 h0 hn2 hk).mono ?_
    rintro e w1 ⟨rfl, g1, b1, s1⟩
    have b01 := b0.trans (b1.mono s0)
    go_wp2_with fail
    refine (specText9 _ _ _ _ _ L w1 g1 hn2 hk (spec_all _ _ _ _ _ L w1 g1 hn2 hk)).mono ?_
    rintro e w2 ⟨rfl, b2⟩
    have b02 := b01.trans (b2.mono (by omega))
    have s2 := b2.size
    have h2 := resps_below h b02
    go_wp2_with fail
    refine (copyResps a b off n c L w2 h2 hn2 hk).mono ?_
    rintro e w3 ⟨rfl, g3, b3, s3⟩
    have b03 := b02.trans (b3.mono (by omega))
    have HI := impl_all _ _ _ _ n L w3 g3 hk
    rw [HS.out] at HI
    have HI' : Hid _ := HI
    clear HI
    go_wp2_with fail
    refine (implText11 _ _ _ _ _ L w3 g3 hk (ht.below b03 hw) (by omega) HI'.out).mono ?_
    rintro e w4 ⟨rfl, b4⟩
    have b04 := b03.trans (b4.mono (by omega))
    have s4 := b4.size
    have h4 := resps_below h b04
    have g4 := resps_below g3 b4
    generalize respText L = tx at *
    clear HI'
    go_wp2_with fail
    refine (copyResps a b off n c L w4 h4 hn2 hk).mono ?_
    rintro e w5 ⟨rfl, g5, b5, s5⟩
    have g45 := resps_below g4 b5
    have b05 := b04.trans (b5.mono (by omega))
    go_wp2_with fail
    refine (eqResps _ _ _ _ _ _ _ _ _ L w5 g45 g5 hn2 hk).mono ?_
    rintro e w6 ⟨rfl, b6⟩
    go_wp2
    go_ret
    exact ⟨rfl, b05.trans (b6.mono (by omega))⟩

set_option maxRecDepth 100000
theorem own : ownKnob Tryd.prog.godebug = none := by kernel_rfl
theorem laidOut : laidOutB Tryd.prog = true := by kernel_rfl
theorem cells2 : Tryd.prog.cellsOf 2 = 1 := by kernel_rfl
theorem cells9 : Tryd.prog.cellsOf 9 = 1 := by kernel_rfl
theorem cells48 : Tryd.prog.cellsOf 42 = 1 := by kernel_rfl
theorem cells50 : Tryd.prog.cellsOf 75 = 4 := by kernel_rfl

/-- What the reading of a slice of int64 gives. -/
theorem ints_of_open {H : Type} {enc : TypeId × Value → H} {W : World} {fuel : Nat} {cs : List Value} {y : DataW H × List MemPlace} {held : Bool}
    (hf : DataW.trod enc Tryd.prog W 0 (fun _ => true) held fuel 42 cs = some y) :
    ∃ (a : Option Addr) (b off c : Nat) (zs : List Int), cs = [.slice a zs.length c] ∧ IntsIn W a b off zs.length zs ∧ zs.length ≤ 9223372036854775807 := by
  rcases open_ints Tryd.underlying42 Tryd.underlying2 cells2 hf with ⟨hcs, _⟩ | ⟨x, l, c, zs, hcs, _, hl, hm, hz, _, hcell, _⟩
  · exact ⟨none, 0, 0, 0, [], hcs, ⟨rfl, fun h => by simp at h, fun h => by simp at h, fun i hi => by simp at hi⟩, by simp⟩
  · simp only [if_true] at hz
    have hm' : c ≤ 9223372036854775807 := by simpa [maxLen] using hm
    have hlen : (zs.take l).length = l := by simp; omega
    by_cases h0 : l = 0
    · subst h0
      exact ⟨some x, 0, 0, c, [], hcs, ⟨rfl, fun h => by simp at h, fun h => by simp at h, fun i hi => by simp at hi⟩, by simp⟩
    · obtain ⟨xb, xo, spot⟩ := x
      have hspot : spot = none := by simpa [Addr.add] using World.cell?_spot (hcell 0 (by omega))
      subst hspot
      have hc : ∀ i, i < l → W.cell? ⟨xb, xo + i, none⟩ = some (.int .i64 ((zs.take l).getD i 0)) := fun i hi => by
        rw [show (zs.take l).getD i 0 = zs.getD i 0 from by simp [List.getD, hi], ← hcell i (by omega), Addr.add_lit]
      refine ⟨some ⟨xb, xo, none⟩, xb, xo, c, zs.take l, by rw [hlen]; exact hcs, ?_, by omega⟩
      rw [hlen]
      exact ⟨hlen, fun _ => rfl, fun _ => block_lt_of_cell (hc 0 (by omega)), hc⟩

set_option maxHeartbeats 1000000 in
/-- What the reading of a slice of nodes gives the walk. -/
theorem resps_of_open {H : Type} {enc : TypeId × Value → H} {W : World} {a : Option Addr} {len cap : Nat} {d : DataW H} {p : List MemPlace}
    (h : DataW.Trod enc Tryd.prog W 0 (fun _ => true) true 32 (.slice a len cap) d p) :
    ∃ b off L, RespsIn W a b off len L ∧ len ≤ 9223372036854775807 := by
  obtain ⟨fuel, hf⟩ := h
  rcases open_slice Tryd.underlying32 hf with ⟨hcs, _⟩ | ⟨x, l, c, m, n, D, Pl, hcs, _, hl, hm, hmm, _, hx⟩
  · simp [Value.cells] at hcs
    obtain ⟨rfl, rfl, rfl⟩ := hcs
    exact ⟨0, 0, [], ⟨rfl, fun h => by omega, fun h => by omega, fun i hi => by omega, fun i hi => by omega⟩, by omega⟩
  · simp [Value.cells] at hcs
    obtain ⟨rfl, rfl, rfl⟩ := hcs
    simp only [if_true] at hmm
    rw [hmm] at hx
    have hm' : cap ≤ 9223372036854775807 := by simpa [maxLen] using hm
    by_cases h0 : len = 0
    · subst h0
      exact ⟨0, 0, [], ⟨rfl, fun h => by omega, fun h => by omega, fun i hi => by omega, fun i hi => by omega⟩, by omega⟩
    · obtain ⟨xb, xo, spot⟩ := x
      rw [cells50] at hx
      have hspot : spot = none := by
        obtain ⟨cs', h1, _⟩ := hx 0 (by omega)
        obtain ⟨_, h2, h3⟩ := World.cells?_some h1
        have := h3 0 (by omega)
        rw [List.getElem?_eq_getElem (by omega)] at this
        simpa [Addr.add] using World.cell?_spot this
      subst hspot
      have each : ∀ i, i < len → ∃ y : Nd × (Option Addr × Nat × Nat × Nat), NdAt W xb (xo + i * 4) y.1 y.2.1 y.2.2.1 y.2.2.2.1 y.2.2.2.2 ∧ y.1.s.size ≤ 9223372036854775807 ∧ y.1.kids.length ≤ 9223372036854775807 := fun i hi => by
        obtain ⟨cs', h1, h2⟩ := hx i (by omega)
        obtain ⟨_, h3, h4⟩ := World.cells?_some h1
        obtain ⟨y0, y1, y2, y3, q, _, _, t0, t1, t2, t3⟩ := Go.Joins.trod_struct4 Tryd.underlying75 h2
        match cs', h3, h4, t0, t1, t2, t3 with
        | [v0, v1, v2, v3], _, h4, t0, t1, t2, t3 =>
          simp only [cells2, cells9, cells48] at t0 t1 t2 t3
          obtain ⟨n0, e0, _, _⟩ := DataW.trod_int Tryd.underlying2 t0
          obtain ⟨n1, e1, _, _⟩ := DataW.trod_int Tryd.underlying2 t1
          obtain ⟨s2, e2, _, hs2⟩ := DataW.trod_string Tryd.underlying9 t2
          obtain ⟨ak, bk, ok, ck, zs, e3, hz, hzl⟩ := ints_of_open t3
          simp at e0 e1 e2 e3
          subst e0 e1 e2 e3
          have g : ∀ j, j < 4 → W.cell? ⟨xb, xo + i * 4 + j, none⟩ = [Value.int .i64 n0, .int .i64 n1, .string s2, .slice ak zs.length ck][j]? := fun j hj => by
            rw [← h4 j hj, Addr.add_lit, Addr.add_lit]
          refine ⟨(⟨n0, n1, s2, zs⟩, (ak, bk, ok, ck)), ⟨g 0 (by omega), g 1 (by omega), g 2 (by omega), g 3 (by omega), hz⟩, by simpa [maxLen] using hs2, hzl⟩
      obtain ⟨f, hfm⟩ := @choose_lt (Nd × (Option Addr × Nat × Nat × Nat)) ⟨(nd0, none, 0, 0, 0)⟩ len _ each
      have hget : ∀ i, i < len → ((List.range len).map fun i => (f i).1).getD i nd0 = (f i).1 := fun i hi => by
        simp [List.getD, hi]
      refine ⟨xb, xo, (List.range len).map fun i => (f i).1, ⟨by simp, fun _ => rfl, fun _ => block_lt_of_cell (hfm 0 (by omega)).1.c0, fun i hi => ?_, fun i hi => ?_⟩, by omega⟩
      · rw [hget i hi]
        exact ⟨_, _, _, _, (hfm i hi).1⟩
      · rw [hget i hi]
        exact (hfm i hi).2


theorem gPowType : (Tryd.prog.globals[0]?).map (·.type) = some 118 := by kernel_rfl

def laid3 : List (String × DataW Unit) := Rows.fnExactRespTextRow.laid

set_option maxRecDepth 100000 in
theorem tab_of_laid {W : World} (h : laidMetH Tryd.prog laid3 W) : Tab W := by
  have h1 := h.filter (fun x => x.1 == "internal/strconv.uint64pow10")
  have e : laid3.filter (fun x => x.1 == "internal/strconv.uint64pow10") = [("internal/strconv.uint64pow10", Lib.tabData .u64 Lib.pow10Tab)] := by kernel_rfl
  rw [e, MakeChecks.laidMetH_plain _ _ _ (by kernel_rfl)] at h1
  exact Lib.tabIs_of_head gPow gPowType Tryd.underlying118 Tryd.underlying107 (by kernel_rfl) (by kernel_rfl) h1

theorem door_met (os : Os) (args : Array Value) : laidMetH Tryd.prog laid3 ((World.doorLaid Tryd.prog 4001 os).forCall (fun _ _ => 0) ⟨#[], args, []⟩).memory :=
  laidMetH_of_parts3 (fuel := 8) (laidMet_of_run' 8 (by kernel_rfl) (by kernel_rfl)) (by kernel_rfl) (by kernel_rfl)

set_option maxRecDepth 100000 in
theorem lifted (os : Os) (started : os.Started) (H : Type) (enc : TypeId × Value → H) :
    ReturnsInHanded {} Tryd.checked os 5 .any (fun w args => (Rows.fnExactRespTextSpec.pre enc Tryd.prog Tryd.f5 [] false w args ∧ laidMetH Tryd.prog laid3 w) ∧ sizedMet enc Tryd.prog Tryd.f5 (OpenSpec.ofChange Rows.fnExactRespTextSpec) false w args)
      (Rows.fnExactRespTextSpec.post enc Tryd.prog Tryd.f5 false true false false) := by
  refine returnsInHanded_of_change_and (C := Tryd.checked) (X := fun w _ => laidMetH Tryd.prog laid3 w) (fun _ _ _ hh h => h.of_heap hh) own started (by kernel_rfl) Tryd.func5
    (ChangeSpec.witness_shaped (enc := enc) (C := Tryd.checked) (os := os) (X := fun w _ => laidMetH Tryd.prog laid3 w) false (World.doorLaid Tryd.prog 4001 os) #[.slice none 0 0] 8 rfl (World.shaped_of_RefB (by kernel_rfl) (by kernel_rfl)) (by kernel_rfl) (by kernel_rfl) (by kernel_rfl) (door_met os _)) ?_
  intro W base args ds gs before hval0 hW _ _ hL _
  have hval : ∀ (j : Nat) t v, Tryd.f5.params[j]? = some t → args[j]? = some v → Value.okWide Tryd.prog W .any base t v := hval0
  have hW' := hW
  obtain ⟨p, q, hA0, hV, rfl, hfz, hnd⟩ := hW
  have hA : DataW.TrodAll enc Tryd.prog W 0 (fun _ => true) true Tryd.f5.params.toList args.toList ds p := hA0
  rw [Tryd.params5] at hA hval
  obtain ⟨v0, d0, rfl, rfl, h0⟩ := trodAll_one hA
  obtain ⟨rfl, rfl⟩ := trodVars_none hV
  obtain ⟨a0, len0, cap0, rfl⟩ := okWide_slice Tryd.underlying32 (hval 0 32 v0 rfl rfl)
  have k0 := h0
  have lt0 : ∀ x ∈ p, x.block < W.heap.size := by obtain ⟨m, hm⟩ := k0; exact DataW.trod_lt m _ _ _ hm
  obtain ⟨b, off, L, hs, hn⟩ := resps_of_open h0
  have ht := tab_of_laid hL
  have hw : 0 < W.heap.size := block_lt_of_cell (ht.cell gPow 0 (by decide))
  clear hA0 hval0
  refine (law_walk a0 b off len0 cap0 L W hs hn ht hw).mono fun e W' ⟨he, bel⟩ => ?_
  subst he
  exact ⟨_, rfl, _, _, _, [], _, [], hW', trodAll_mk1 (shut_bool Tryd.underlying4 _), trodAll_mk1 (Below.trod laidOut (by kernel_rfl) (of_decide_eq_true (by kernel_rfl)) k0 bel lt0), rfl, bel.frame _, fun h => by cases h⟩

theorem row_holds : Rows.FnExactRespTextSaid :=
  OpenClaim.holds_of_wide 5 Tryd.f5 rfl rfl rfl rfl rfl rfl rfl ⟨rfl, rfl, rfl, rfl, rfl⟩ rfl rfl rfl rfl rfl (by kernel_rfl) Tryd.func5 (by kernel_rfl)
    (of_decide_eq_true (by kernel_rfl)) (by unfold Func.isWrapper; first | (rw [if_pos (by decide +kernel)]; kernel_rfl) | (rw [if_neg (by decide +kernel)]; exact ⟨rfl, rfl⟩))
    (fun os started H enc _ => lifted os started H enc)
end Go.Proofs.YtcgeafdakaeicaaDoor.Rp

namespace Go.Proofs.YtcgeafdakaeicaaDoor
theorem respText_holds : Rows.FnExactRespTextCardSaid :=
  Claim7.holds_tied_plain_at .later [] [.data, .data, .data] true (true, "fb9ea76a8ecfd95cc24ed1f98435c2631dce0985cebf3e3a420be162eacc6588") true
    Rp.row_holds (fun _ h => by cases h) (by kernel_rfl) (fun _ h => by cases h) fnExactRespText_row_tie rfl ⟨rfl, rfl⟩ (by kernel_rfl) rfl
    (fun f fn hf hfn => by
      obtain rfl : f = 5 := Option.some.inj ((show Tryd.prog.funcNamed Rows.fnExactRespTextRow.func = some 5 by kernel_rfl).symm.trans hf) |>.symm
      obtain rfl : fn = Tryd.f5 := (Option.some.inj (Tryd.func5.symm.trans hfn)).symm
      exact ⟨by kernel_rfl, fun j t ht => by
        rw [Tryd.params5] at ht
        have hm : t ∈ [32] := by simpa using Array.mem_of_getElem? ht
        have hall : ([32].all fun u => !Tryd.prog.wantsStandIn u) = true := by kernel_rfl
        exact (show Tryd.prog.wantsStandIn t = false by simpa using List.all_eq_true.1 hall t hm)⟩)
    (by kernel_rfl)
#print axioms respText_holds
end Go.Proofs.YtcgeafdakaeicaaDoor
