/- PROVED: FnExactSessionOk returns true for every session, and leaves it as it was: impl.SessionOk answers as the specification at every session of bulk at most 1048576 (beyond it the law itself says true), and changes nothing in it. Its conditions: the three tables of strconv and math/bits and the two errors of strconv that the row lists are laid as the program's text lays them (tied by the card). -/
import Derived.Test.YtielombpeeelkaaDoorSe5
import Derived.Test.YtielombpeeelkaaDoorFdRow
import Derived.Test.YtielombpeeelkaaDoorTie
import Derived.Test.YtielombpeeelkaaDoorCards
import Derived.SevenTiedAt
import Derived.Deep.Strs
namespace Go.Proofs.YtielombpeeelkaaDoor
open Go.ChangeShapes Go.WideShapes Go.ChangeAt Go.WideMaps Go.WideElems Go.RowKit Go.Deep

theorem cells4 : Tryd.prog.cellsOf 4 = 1 := by kernel_rfl
theorem cells26 : Tryd.prog.cellsOf 26 = 1 := by kernel_rfl
theorem cells30 : Tryd.prog.cellsOf 30 = 1 := by kernel_rfl
theorem cells37 : Tryd.prog.cellsOf 37 = 5 := by kernel_rfl

theorem array5 {α : Type} {cs : Array α} (h : cs.size = 5) : ∃ c0 c1 c2 c3 c4, cs = #[c0, c1, c2, c3, c4] := by
  obtain ⟨l⟩ := cs
  match l, h with
  | [c0, c1, c2, c3, c4], _ => exact ⟨c0, c1, c2, c3, c4, rfl⟩

theorem five_read {H : Type} {enc : TypeId × Value → H} {P : Program} {w : World} {base : Nat} {spare : Nat → Bool} {held : Bool} {t : TypeId} {f0 f1 f2 f3 f4 : Field} {fuel : Nat} {cs : List Value} {x : DataW H × List MemPlace} (ht : P.underlying t = some (.struct #[f0, f1, f2, f3, f4])) (h : DataW.trod enc P w base spare held fuel t cs = some x) :
    ∃ y0 y1 y2 y3 y4 n, DataW.trod enc P w base spare held n f0.type ((cs.drop f0.offset).take (P.cellsOf f0.type)) = some y0 ∧
      DataW.trod enc P w base spare held n f1.type ((cs.drop f1.offset).take (P.cellsOf f1.type)) = some y1 ∧ DataW.trod enc P w base spare held n f2.type ((cs.drop f2.offset).take (P.cellsOf f2.type)) = some y2 ∧
      DataW.trod enc P w base spare held n f3.type ((cs.drop f3.offset).take (P.cellsOf f3.type)) = some y3 ∧ DataW.trod enc P w base spare held n f4.type ((cs.drop f4.offset).take (P.cellsOf f4.type)) = some y4 := by
  obtain ⟨xs, n, _, rfl, hl, hlen, hf⟩ := DataW.trod_struct ht h
  match xs, hlen with
  | [y0, y1, y2, y3, y4], _ => exact ⟨y0, y1, y2, y3, y4, n, by simpa using hf 0 f0 rfl, by simpa using hf 1 f1 rfl, by simpa using hf 2 f2 rfl, by simpa using hf 3 f3 rfl, by simpa using hf 4 f4 rfl⟩

/-- A list of texts that is read. -/
theorem strs_of_read {H : Type} {enc : TypeId × Value → H} {W : World} {fuel : Nat} {v : Value} {y : DataW H × List MemPlace}
    (hf : DataW.trod enc Tryd.prog W 0 (fun _ => true) true fuel 30 [v] = some y) :
    ∃ p b off k, ∃ ss : List ByteArray, v = .slice p ss.length k ∧ StrsIn W p b off ss.length ss ∧ ss.length ≤ 9223372036854775807 := by
  rcases open_strs Tryd.underlying30 Tryd.underlying9 cells9 hf with ⟨hcs, _⟩ | ⟨a, l, c, m, Sx, hcs, _, hl, hm, hmm, _, hx⟩
  · simp at hcs
    exact ⟨none, 0, 0, 0, [], hcs, ⟨rfl, fun h => by simp at h, fun h => by simp at h, fun i hi => by simp at hi, fun i hi => by simp at hi⟩, by simp⟩
  · simp at hcs
    simp only [if_true] at hmm
    have hm' : c ≤ 9223372036854775807 := by simpa [maxLen] using hm
    have hlen : ((List.range l).map Sx).length = l := by simp
    have hget : ∀ i, i < l → ((List.range l).map Sx).getD i ByteArray.empty = Sx i := fun i hi => by simp [List.getD, hi]
    by_cases h0 : l = 0
    · subst h0
      exact ⟨some a, 0, 0, c, [], hcs, ⟨rfl, fun h => by simp at h, fun h => by simp at h, fun i hi => by simp at hi, fun i hi => by simp at hi⟩, by simp⟩
    · obtain ⟨ab, ao, spot⟩ := a
      have hspot : spot = none := by simpa [Addr.add] using World.cell?_spot (hx 0 (by omega)).1
      subst hspot
      have hc : ∀ i, i < l → W.cell? ⟨ab, ao + i, none⟩ = some (.string (Sx i)) := fun i hi => by
        rw [← (hx i (by omega)).1, Addr.add_lit]
      refine ⟨some ⟨ab, ao, none⟩, ab, ao, c, (List.range l).map Sx, by rw [hlen]; exact hcs, ⟨rfl, fun _ => rfl, fun _ => block_lt_of_cell (hc 0 (by omega)), fun i hi => ?_, fun i hi => ?_⟩, by rw [hlen]; omega⟩
      · rw [hlen] at hi
        rw [hget i hi]
        exact hc i hi
      · rw [hlen] at hi
        rw [hget i hi]
        simpa [maxLen] using (hx i (by omega)).2

/-- A list of lists of texts that is read. -/
theorem lists_of_read {H : Type} {enc : TypeId × Value → H} {W : World} {fuel : Nat} {v : Value} {y : DataW H × List MemPlace}
    (hf : DataW.trod enc Tryd.prog W 0 (fun _ => true) true fuel 26 [v] = some y) :
    ∃ Q : List (List ByteArray), ListsB W v Q ∧ Q.length ≤ 9223372036854775807 ∧ ∀ ss ∈ Q, ss.length ≤ 9223372036854775807 := by
  rcases open_slice1 Tryd.underlying26 cells30 hf with ⟨hcs, _⟩ | ⟨a, l, c, m, n, V, D, Pl, hcs, _, hl, hm, hmm, _, hx⟩
  · simp at hcs
    exact ⟨[], ⟨⟨none, 0, hcs⟩, fun i hi => by simp at hi⟩, by simp, fun ss h => by simp at h⟩
  · simp at hcs
    simp only [if_true] at hmm
    have hm' : c ≤ 9223372036854775807 := by simpa [maxLen] using hm
    by_cases h0 : l = 0
    · subst h0
      exact ⟨[], ⟨⟨some a, c, hcs⟩, fun i hi => by simp at hi⟩, by simp, fun ss h => by simp at h⟩
    · obtain ⟨ab, ao, spot⟩ := a
      have hspot : spot = none := by simpa [Addr.add] using World.cell?_spot (hx 0 (by omega)).1
      subst hspot
      obtain ⟨f, hfm⟩ := @choose_lt (List ByteArray) ⟨[]⟩ l (fun i ss => (∃ p b off k, V i = .slice p ss.length k ∧ StrsIn W p b off ss.length ss) ∧ ss.length ≤ 9223372036854775807) (fun i hi => by
        obtain ⟨p, b, off, k, ss, h1, h2, h3⟩ := strs_of_read (hx i (by omega)).2
        exact ⟨ss, ⟨p, b, off, k, h1, h2⟩, h3⟩)
      have hc : ∀ i, i < l → W.cell? ⟨ab, ao + i, none⟩ = some (V i) := fun i hi => by
        rw [← (hx i (by omega)).1, Addr.add_lit]
      have hlen : ((List.range l).map f).length = l := by simp
      refine ⟨(List.range l).map f, ⟨⟨some ⟨ab, ao, none⟩, c, by rw [hlen]; exact hcs⟩, fun i hi => ?_⟩, by rw [hlen]; omega, fun ss hss => ?_⟩
      · have hi' : i < l := by rw [hlen] at hi; exact hi
        obtain ⟨⟨p, b, off, k, h1, h2⟩, _⟩ := hfm i hi'
        have eg : ((List.range l).map f)[i] = f i := by simp
        rw [eg]
        exact ⟨ab, ao, c, p, b, off, k, by rw [hlen]; exact hcs, block_lt_of_cell (hc i hi'), by rw [hc i hi', h1], h2⟩
      · obtain ⟨i, hi, rfl⟩ := List.mem_map.1 hss
        exact (hfm i (List.mem_range.1 hi)).2

set_option maxHeartbeats 1000000 in
set_option maxRecDepth 100000 in
/-- A session that came in. -/
theorem sess_of_open {H : Type} {enc : TypeId × Value → H} {W : World} {r : Reach} {b0 : Nat} {v : Value} {d : DataW H} {p : List MemPlace}
    (hv : Value.okWide Tryd.prog W r b0 37 v) (h : DataW.Trod enc Tryd.prog W 0 (fun _ => true) true 37 v d p) :
    ∃ t multi q Q dirty dead, v = sessV t multi q dirty dead ∧ ListsB W q Q ∧ t.size ≤ 9223372036854775807 ∧ Q.length ≤ 9223372036854775807 ∧ ∀ ss ∈ Q, ss.length ≤ 9223372036854775807 := by
  obtain ⟨cs, rfl, hsz⟩ := okWide_struct Tryd.underlying37 hv
  obtain ⟨c0, c1, c2, c3, c4, rfl⟩ := array5 (hsz.trans cells37)
  obtain ⟨fuel, hf⟩ := h
  obtain ⟨y0, y1, y2, y3, y4, n, t0, t1, t2, t3, t4⟩ := five_read Tryd.underlying37 hf
  simp only [cells4, cells9, cells26, Value.cells] at t0 t1 t2 t3 t4
  obtain ⟨s, e0, _, hs⟩ := DataW.trod_string Tryd.underlying9 t0
  obtain ⟨m, e1, _⟩ := DataW.trod_bool Tryd.underlying4 t1
  obtain ⟨dy, e3, _⟩ := DataW.trod_bool Tryd.underlying4 t3
  obtain ⟨dd, e4, _⟩ := DataW.trod_bool Tryd.underlying4 t4
  simp at e0 e1 e3 e4 t2
  subst e0 e1 e3 e4
  obtain ⟨Q, hQ, hn, hq⟩ := lists_of_read t2
  exact ⟨s, m, c2, Q, dy, dd, rfl, hQ, by simpa [maxLen] using hs, hn, hq⟩

set_option maxRecDepth 100000 in
theorem sess_lifted (os : Os) (started : os.Started) (H : Type) (enc : TypeId × Value → H) :
    ReturnsInHanded {} Tryd.checked os 5 .any (fun w args => (Rows.fnExactSessionOkSpec.pre enc Tryd.prog Tryd.f5 [] false w args ∧ laidMetH Tryd.prog laidR w) ∧ sizedMet enc Tryd.prog Tryd.f5 (OpenSpec.ofChange Rows.fnExactSessionOkSpec) false w args)
      (Rows.fnExactSessionOkSpec.post enc Tryd.prog Tryd.f5 false true false false) := by
  refine returnsInHanded_of_calls (C := Tryd.checked) own started (by kernel_rfl)
    (ChangeSpec.witness_shaped (enc := enc) (C := Tryd.checked) (os := os) (X := fun w _ => laidMetH Tryd.prog laidR w) false (World.doorLaid Tryd.prog 4001 os) #[.agg #[.string ⟨#[]⟩, .bool false, .slice none 0 0, .bool false, .bool false]] 8 rfl (World.shaped_of_RefB (by kernel_rfl) (by kernel_rfl)) (by kernel_rfl) (by kernel_rfl) (by kernel_rfl) (door_met5 os _)) ?_
  intro w0 tape inp _ hsh _ hok hpre _
  obtain ⟨_, _, _, fn, hfn, _, _, _, _, hval0⟩ := hok
  obtain rfl : fn = Tryd.f5 := Option.some.inj (hfn.symm.trans Tryd.func5)
  obtain ⟨⟨⟨ds, gs, before, hw0, _⟩, hL0⟩, _⟩ := hpre
  have hW := DataW.Whole.of_heap (w' := w0.forCall tape inp) (by rfl) hw0
  have hL : laidMetH Tryd.prog laidR (w0.forCall tape inp) := hL0.of_heap (by rfl)
  have hR := ready_of hL hsh
  generalize w0.forCall tape inp = W at *
  generalize w0.heap.size = base at *
  generalize inp.args = args at *
  have hval : ∀ (j : Nat) t v, Tryd.f5.params[j]? = some t → args[j]? = some v → Value.okWide Tryd.prog W .any base t v := hval0
  have hW' := hW
  obtain ⟨p, q, hA0, hV, rfl, hfz, hnd⟩ := hW
  have hA : DataW.TrodAll enc Tryd.prog W 0 (fun _ => true) true Tryd.f5.params.toList args.toList ds p := hA0
  rw [Tryd.params5] at hA hval
  obtain ⟨v0, d0, rfl, rfl, h0⟩ := trodAll_one hA
  obtain ⟨rfl, rfl⟩ := trodVars_none hV
  have k0 := h0
  have lt0 : ∀ x ∈ p, x.block < W.heap.size := by obtain ⟨m, hm⟩ := k0; exact DataW.trod_lt m _ _ _ hm
  obtain ⟨t, multi, qv, Q, dirty, dead, rfl, hQ, hs, hn, hfit⟩ := sess_of_open (hval 0 37 v0 rfl rfl) h0
  clear hA0 hval0
  refine (sess_walk t multi qv Q dirty dead W hR hs hQ hn hfit).mono fun e W' ⟨he, bel⟩ => ?_
  subst he
  exact ChangeSpec.post_blind ⟨_, _, _, [], _, [], hW', trodAll_mk1 (shut_bool Tryd.underlying4 _), trodAll_mk1 (Below.trod laidOut (by kernel_rfl) (of_decide_eq_true (by kernel_rfl)) k0 bel lt0), rfl, bel.frame _, fun h => by cases h⟩

theorem sess_row : Rows.FnExactSessionOkSaid :=
  OpenClaim.holds_of_wide 5 Tryd.f5 rfl rfl rfl rfl rfl rfl rfl ⟨rfl, rfl, rfl, rfl, rfl⟩ rfl rfl rfl rfl rfl (by kernel_rfl) Tryd.func5 (by kernel_rfl)
    (of_decide_eq_true (by kernel_rfl)) (by unfold Func.isWrapper; first | (rw [if_pos (by decide +kernel)]; kernel_rfl) | (rw [if_neg (by decide +kernel)]; exact ⟨rfl, rfl⟩))
    (fun os started H enc _ => sess_lifted os started H enc)

theorem sess_holds : Rows.FnExactSessionOkCardSaid :=
  Claim7.holds_tied_plain_at .later [] [.data, .data, .data, .sentinel, .sentinel] true (true, "35d4cd7900c1dfa44228f81942d40e88780658936e449bf1f8777b4ac78dad27") true
    sess_row (fun _ h => by cases h) (by kernel_rfl) (fun _ h => by cases h) fnExactSessionOk_row_tie rfl ⟨rfl, rfl⟩ (by kernel_rfl) rfl
    (fun f fn hf hfn => by
      obtain rfl : f = 5 := Option.some.inj ((show Tryd.prog.funcNamed Rows.fnExactSessionOkRow.func = some 5 by kernel_rfl).symm.trans hf) |>.symm
      obtain rfl : fn = Tryd.f5 := (Option.some.inj (Tryd.func5.symm.trans hfn)).symm
      exact ⟨by kernel_rfl, fun j t ht => by
        rw [Tryd.params5] at ht
        have hm : t ∈ [37] := by simpa using Array.mem_of_getElem? ht
        have hall : ([37].all fun u => !Tryd.prog.wantsStandIn u) = true := by kernel_rfl
        exact (show Tryd.prog.wantsStandIn t = false by simpa using List.all_eq_true.1 hall t hm)⟩)
    (by kernel_rfl)
#print axioms sess_holds
end Go.Proofs.YtielombpeeelkaaDoor
