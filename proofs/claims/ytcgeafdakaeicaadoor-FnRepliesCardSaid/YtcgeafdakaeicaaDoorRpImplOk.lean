/- impl.RespOk. -/
import Derived.Test.YtcgeafdakaeicaaDoorRpTrees
namespace Go.Proofs.YtcgeafdakaeicaaDoor.Rp
open Go.RowKit Go.Sort

def tcells (ts : List (Int × Int)) : List Value := ts.flatMap fun t => [.int .i64 t.1, .int .i64 t.2]

theorem tcells_length (ts : List (Int × Int)) : (tcells ts).length = ts.length * 2 := by
  induction ts with
  | nil => rfl
  | cons t ts ih => simp [tcells] at ih ⊢; omega

theorem tcells_at (ts : List (Int × Int)) : ∀ i, i < ts.length → (tcells ts)[i * 2]? = some (.int .i64 (ts.getD i (0, 0)).1) ∧ (tcells ts)[i * 2 + 1]? = some (.int .i64 (ts.getD i (0, 0)).2) := by
  induction ts with
  | nil => intro i hi; simp at hi
  | cons t ts ih =>
    intro i hi
    have e : tcells (t :: ts) = .int .i64 t.1 :: .int .i64 t.2 :: tcells ts := rfl
    rw [e]
    cases i with
    | zero => simp
    | succ i =>
      have := ih i (by simp at hi; omega)
      rw [show (i + 1) * 2 = i * 2 + 1 + 1 from by omega]
      simpa using this

theorem tcells_append (a b : List (Int × Int)) : tcells (a ++ b) = tcells a ++ tcells b := by simp [tcells]

/-- The owned row read as trees, from place f on. -/
theorem trees_of_owns {w : World} {base g cap : Nat} {ts : List (Int × Int)} (h : w.ownsRow base 52 2 (.slice (some ⟨g, 0, none⟩) ts.length cap) ts.length (tcells ts)) (f : Nat) (hf : f ≤ ts.length) (c : Nat) (hc : c = f * 2) :
    TreesIn w (some ⟨g, c, none⟩) g c (ts.length - f) (ts.drop f) := by
  subst hc
  obtain ⟨_, h2⟩ := h
  rcases h2 with ⟨h0, _⟩ | ⟨g', cap', cur, hv, hb, hg, hn, hcap, hsz, htake⟩
  · cases h0
  · cases hv
    have hcell : ∀ j v, (tcells ts)[j]? = some v → w.cell? ⟨g, j, none⟩ = some v := by
      intro j v hj
      rw [Lib.cell_of_heap hg]
      rw [← htake, List.getElem?_take] at hj
      split at hj
      · simpa using hj
      · cases hj
    have hget : ∀ i, i < ts.length - f → (ts.drop f).getD i (0, 0) = ts.getD (f + i) (0, 0) := fun i hi => by simp [List.getD]
    refine ⟨by simp, fun _ => rfl, fun _ => (Array.getElem?_eq_some_iff.1 hg).1, fun i hi => ?_, fun i hi => ?_⟩
    · rw [hget i hi, show f * 2 + i * 2 = (f + i) * 2 from by omega]
      exact hcell _ _ (tcells_at ts (f + i) (by omega)).1
    · rw [hget i hi, show f * 2 + i * 2 + 1 = (f + i) * 2 + 1 from by omega]
      exact hcell _ _ (tcells_at ts (f + i) (by omega)).2

/-- The first f trees are owned by the value cut there. -/
theorem owns_take {w : World} {base g cap : Nat} {ts : List (Int × Int)} (h : w.ownsRow base 52 2 (.slice (some ⟨g, 0, none⟩) ts.length cap) ts.length (tcells ts)) (f : Nat) (hf : f ≤ ts.length) :
    w.ownsRow base 52 2 (.slice (some ⟨g, 0, none⟩) f cap) f (tcells (ts.take f)) := by
  obtain ⟨_, h2⟩ := h
  rcases h2 with ⟨h0, _⟩ | ⟨g', cap', cur, hv, hb, hg, hn, hcap, hsz, htake⟩
  · cases h0
  · cases hv
    have e : tcells ts = tcells (ts.take f) ++ tcells (ts.drop f) := by rw [← tcells_append, List.take_append_drop]
    have hl : (tcells (ts.take f)).length = f * 2 := by rw [tcells_length, List.length_take, Nat.min_eq_left hf]
    refine ⟨hl, .inr ⟨g, cap, cur, rfl, hb, hg, by omega, hcap, hsz, ?_⟩⟩
    have h3 : (cur.toList.take (ts.length * 2)).take (f * 2) = (tcells ts).take (f * 2) := by rw [htake]
    rw [List.take_take, Nat.min_eq_left (by omega)] at h3
    rw [h3, e, ← hl, List.take_left]

theorem run_neg (x : Nd) (xs : List Nd) (k : Nat) (ts : List (Int × Int)) (hL : (ts.length : Int) - x.kids.length < 0) : runB (x :: xs) k ts = false := by
  simp only [runB, stepB]
  by_cases hF : fieldsB x = false
  · rw [if_pos hF]
  · rw [if_neg hF, if_pos hL]

theorem run_fields (x : Nd) (xs : List Nd) (k : Nat) (ts : List (Int × Int)) (hF : fieldsB x = false) : runB (x :: xs) k ts = false := by
  simp only [runB, stepB]
  rw [if_pos hF]

theorem run_kids (x : Nd) (xs : List Nd) (k f : Nat) (ts : List (Int × Int)) (hF : fieldsB x = true) (hL : ts.length = f + x.kids.length) (hK : ¬ (ts.drop f).map Prod.fst = x.kids) : runB (x :: xs) k ts = false := by
  have e : ts.length - x.kids.length = f := by omega
  simp only [runB, stepB, e]
  rw [if_neg (by rw [hF]; simp), if_neg (by omega), if_pos hK]

theorem run_deep (x : Nd) (xs : List Nd) (k f : Nat) (ts : List (Int × Int)) (hF : fieldsB x = true) (hL : ts.length = f + x.kids.length) (hK : (ts.drop f).map Prod.fst = x.kids) (hd : 4 < 1 + maxOf (ts.drop f)) : runB (x :: xs) k ts = false := by
  have e : ts.length - x.kids.length = f := by omega
  unfold maxOf at hd
  simp only [runB, stepB, e]
  rw [if_neg (by rw [hF]; simp), if_neg (by omega), if_neg (by rw [hK]; simp), if_pos hd]

theorem run_step (x : Nd) (xs : List Nd) (k f : Nat) (ts : List (Int × Int)) (hF : fieldsB x = true) (hL : ts.length = f + x.kids.length) (hK : (ts.drop f).map Prod.fst = x.kids) (hd : ¬ 4 < 1 + maxOf (ts.drop f)) :
    runB (x :: xs) k ts = runB xs (k + 1) (ts.take f ++ [((k : Int), 1 + maxOf (ts.drop f))]) := by
  have e : ts.length - x.kids.length = f := by omega
  unfold maxOf at hd ⊢
  simp only [runB, stepB, e]
  rw [if_neg (by rw [hF]; simp), if_neg (by omega), if_neg (by rw [hK]; simp), if_neg hd]

theorem maxOf_bound (ts : List (Int × Int)) (h : ∀ t ∈ ts, t.2 ≤ 4) : 0 ≤ maxOf ts ∧ maxOf ts ≤ 4 :=
  ⟨fold_max_le (fun t : Int × Int => t.2) ts 0, fold_max_bound (fun t : Int × Int => t.2) 4 ts h 0 (by omega)⟩

theorem info43 : (Tryd.prog.info? 52).map (fun i => (i.zero, i.size, i.bytes)) = some (some (.agg #[.int .i64 0, .int .i64 0]), 2, 16) := by kernel_rfl

set_option maxHeartbeats 2000000 in
set_option maxRecDepth 100000 in
theorem implOk_any (a : Option Addr) (b off n c : Nat) (L : List Nd) (w : World) (h : RespsIn w a b off n L) (hk : ∀ i, i < n → (L.getD i nd0).kids.length ≤ 1048576) (h1 : 1 ≤ n) (h2 : n ≤ 1000) :
    Calls Tryd.prog 11 #[.slice a n c] w fun e w' => e = .returned (.bool (implB L)) ∧ Below w.heap.size w w' := by
  obtain ⟨i0, hi, hz0, hz1, hz2⟩ := info_parts info43
  have hd : ((n : Int) == 0) = false := by simp; omega
  have hd2 : decide ((1000 : Int) < n) = false := by simp; omega
  have HI : Hid (implB L = runB L 0 []) := by unfold Hid; rw [implB, h.len, decide_eq_true ⟨h1, h2⟩, Bool.true_and]
  go_enter Tryd.func11, Tryd.ntmps11
  go_wp2_with fail
  go_loopw [3, 18] (fun tr i wr => ∃ (k : Nat) (ts : List (Int × Int)), k ≤ n ∧ i = .int .i64 k ∧ wr.ownsRow w.heap.size 52 2 tr ts.length (tcells ts) ∧ ts.length ≤ k ∧ runB L 0 [] = runB (L.drop k) k ts ∧ (∀ t ∈ ts, t.2 ≤ 4) ∧ Below w.heap.size w wr) (fun _ i _ => n - (intOf i).toNat)
  case atStart => exact ⟨0, [], by omega, rfl, World.ownsRow_nil _ _ _ _, by simp, rfl, (fun t ht => by cases ht), Below.refl _ _⟩
  case round =>
    obtain ⟨k, ts, hkn, rfl, hown, htk, hrun, h4, bk⟩ := hrel
    have HR : Hid (_ = _) := hrun
    have H4 : Hid (∀ t ∈ ts, t.2 ≤ 4) := h4
    clear hrun h4
    by_cases hlt : k < n
    · obtain rfl := h.addr (by omega)
      obtain ⟨ak, bk1, ok, ck, hnd⟩ := h.node k hlt
      have hm := nd_below hnd (h.low (by omega)) bk
      have c0 := hm.c0
      have c1 := hm.c1
      have c2 := hm.c2
      have c3 := hm.c3
      have hints := hm.ints
      have hkk := hk k hlt
      have hf1 := (h.fit k hlt).1
      have HX : Hid (L.drop k = L.getD k nd0 :: L.drop (k + 1)) := by
        unfold Hid
        rw [List.drop_eq_getElem_cons (by rw [h.len]; exact hlt), List.getD_eq_getElem?_getD, List.getElem?_eq_getElem (by rw [h.len]; exact hlt)]
        rfl
      clear hnd hm
      generalize L.getD k nd0 = x at *
      have bA : Below wr.heap.size wr (wr.alloc (.cells #[.int .i64 x.kind, .int .i64 x.num, .string x.s, .slice ak x.kids.length ck] 44)) := (Below.refl _ _).alloc (Nat.le_refl _) _
      rcases hown.2 with ⟨rfl, hts0⟩ | ⟨g, cap, cur, rfl, hbg, _, hcl, _⟩
      · obtain rfl : ts = [] := List.length_eq_zero_iff.1 hts0
        go_wp2_with fail
        refine (node_any x ak ck _ hf1 hkk).mono ?_
        rintro e w1 ⟨rfl, b1⟩
        have r1 := (RowAt.new wr 44 #[.int .i64 x.kind, .int .i64 x.num, .string x.s, .slice ak x.kids.length ck]).below b1 (by simp)
        have b01 := bA.trans (b1.mono bA.size)
        have d3 := r1.cell 3
        simp at d3
        have hints1 := ints_below hints b01
        have s1 : wr.heap.size < w1.heap.size := r1.lt
        have b02 := bk.trans (b01.mono bk.size)
        have sk := bk.size
        clear c0 c1 c2 c3 hints hown bA b1
        cases hfb : fieldsB x with
        | false =>
          have HF : Hid (fieldsB x = false) := hfb
          clear hfb
          go_wp2
          go_ret
          exact ⟨ret_bool (by rw [HI.out, HR.out, HX.out, run_fields _ _ _ _ HF.out]), b02⟩
        | true =>
          have HF : Hid (fieldsB x = true) := hfb
          clear hfb
          by_cases hkl : x.kids.length = 0
          · have HK0 : Hid (x.kids = []) := List.length_eq_zero_iff.1 hkl
            clear r1
            rw [hkl] at d3 hints1 ⊢
            have hT : TreesIn w1 none 0 0 0 [] := ⟨rfl, fun h => by omega, fun h => by omega, fun i hi => by omega, fun i hi => by omega⟩
            have k3 := cell_regrown d3
            have cK : ∀ d os, Calls Tryd.prog 27 #[.slice none 0 0, .slice ak 0 ck] (grow (redrawn w1 d) os) fun e w'' => e = .returned (.bool true) ∧ ∃ p : Regrown, w'' = grow (redrawn w1 p.d) p.os := fun d os => by
              have := areKids_any none 0 0 0 0 [] ak bk1 ok ck x.kids _ (trees_below hT (below_regrown w1 d os)) (ints_below hints1 (below_regrown w1 d os)) (by omega)
              rw [HK0.out] at this
              exact Calls.regrown_of this
            clear hkl
            go_wp2
            refine wp_region_quiet_below (by kernel_rfl) (by kernel_rfl) ?_
            repeat (quiet_step (first | exact cK _ _))
            refine wpQuiet_nil ?_
            intro _ hw'
            obtain ⟨⟨dq, osq⟩, hw''⟩ := hw'
            subst hw''
            have bq := below_regrown w1 dq osq
            have hT2 := trees_below hT bq
            have sq := bq.size
            generalize grow (redrawn w1 dq) osq = wq at *
            have b03 := b02.trans (bq.mono (by omega))
            clear cK k3 d3 hints1 hT bq b01
            go_wp2_with fail
            refine (deepest_any none 0 0 0 0 [] wq hT2 (by omega)).mono ?_
            rintro e w3 ⟨rfl, b3⟩
            have b04 := b03.trans (b3.mono (by omega))
            have s3 := b3.size
            rw [show maxOf [] = 0 from rfl]
            have H5 : Hid (_ = _) := run_step x (L.drop (k + 1)) k 0 [] HF.out (by rw [HK0.out]; rfl) (by rw [HK0.out]; rfl) (by decide)
            clear hT2 b3 b03
            go_wp2_with (at_builtin; refine wpList_append_own _ rfl _ _ 47 rfl w.heap.size 52 i0 _ 2 16 Tryd.underlying47 hi hz0 hz1 hz2 rfl (by decide) _ _ _ rfl (World.ownsRow_nil _ _ _ _) ⟨w3.heap.size, 0, none⟩ 1 1 [.int .i64 k, .int .i64 1] rfl rfl ?c1 ?c2 ?c3 ?c4 ?c5 ?_)
            case c1 => exact cell_two_new _ _ _ _
            case c2 => intro u hu; simp at hu; rcases hu with rfl | rfl <;> rfl
            case c3 => unfold maxLen; omega
            case c4 => omega
            case c5 => simp; omega
            intro v' w5 hown' hgrow _
            have b05 := (b04.alloc (by omega) _).grown hgrow (by simp; omega) (fun q hq => by simp [Value.ownBlock] at hq)
            have HO : Hid (w5.ownsRow w.heap.size 52 2 v' [((k : Int), (1 : Int))].length (tcells [((k : Int), (1 : Int))])) := hown'
            clear hown' hgrow b04
            go_wp2
            go_roundw
            case rel =>
              refine ⟨k + 1, [((k : Int), (1 : Int))], by omega, by go_num, HO.out, by simp, by rw [HR.out, HX.out, H5.out]; rfl, ?_, b05⟩
              intro t ht
              simp at ht; subst ht; show (1 : Int) ≤ 4; omega
            case measure => simp [intOf] <;> omega
          · have hneg : 0 < x.kids.length := by omega
            have HN : Hid (runB (x :: L.drop (k + 1)) k [] = false) := run_neg _ _ _ _ (by simp; omega)
            clear hkl
            go_wp2
            go_quiet ((fail))
            go_wp2
            go_ret
            exact ⟨ret_bool (by rw [HI.out, HR.out, HX.out, HN.out]), below_drewN b02 nq⟩
      have HC : Hid (ts.length ≤ cap) := hcl
      clear hcl
      go_wp2_with fail
      refine (node_any x ak ck _ hf1 hkk).mono ?_
      rintro e w1 ⟨rfl, b1⟩
      have r1 := (RowAt.new wr 44 #[.int .i64 x.kind, .int .i64 x.num, .string x.s, .slice ak x.kids.length ck]).below b1 (by simp)
      have b01 := bA.trans (b1.mono bA.size)
      have hown1 := hown.kept (row := none) ⟨b01.os, b01.tape, b01.output, b01.size, fun j hj _ => b01.block j hj⟩ (.inr (by simp [Value.ownBlock]))
      have d3 := r1.cell 3
      simp at d3
      have hints1 := ints_below hints b01
      have s1 : wr.heap.size < w1.heap.size := r1.lt
      have b02 := bk.trans (b01.mono bk.size)
      clear c0 c1 c2 c3 hints hown bA b1
      cases hfb : fieldsB x with
      | false =>
        have HF : Hid (fieldsB x = false) := hfb
        clear hfb
        go_wp2
        go_ret
        exact ⟨ret_bool (by rw [HI.out, HR.out, HX.out, run_fields _ _ _ _ HF.out]), b02⟩
      | true =>
        have HF : Hid (fieldsB x = true) := hfb
        clear hfb
        by_cases hneg : (ts.length : Int) - x.kids.length < 0
        · have HN : Hid (runB (x :: L.drop (k + 1)) k ts = false) := run_neg _ _ _ _ hneg
          go_wp2
          go_quiet ((fail))
          go_wp2
          go_ret
          exact ⟨ret_bool (by rw [HI.out, HR.out, HX.out, HN.out]), below_drewN b02 nq⟩
        · obtain ⟨f, hf⟩ : ∃ f, ts.length = f + x.kids.length := ⟨ts.length - x.kids.length, by omega⟩
          have HL : Hid (ts.length = f + x.kids.length) := hf
          rw [hf] at HC
          have hT := trees_of_owns hown1 f (by omega) (f * 2) rfl
          have hO := owns_take hown1 f (by omega)
          rw [hf] at hT htk ⊢
          rw [show f + x.kids.length - f = x.kids.length from by omega] at hT
          clear hown1 hf hneg
          have hfd : decide ((f : Int) < 0) = false := by simp
          have k3 := cell_regrown d3
          have hfi : (f : Int) ≤ (f : Int) + x.kids.length := by omega
          have hcapl : f + x.kids.length ≤ cap := by
            rcases hO.2 with ⟨h0, _⟩ | ⟨g', cap', cur', hv, _, _, hn', _⟩
            · cases h0
            · cases hv; have := HC.out; omega
          have hfc : (f : Int) ≤ (cap : Int) := by omega
          obtain ⟨av, hav, hT⟩ : ∃ av, (if cap = f then some ⟨g, 0, none⟩ else some ⟨g, f * 2, none⟩ : Option Addr) = av ∧ TreesIn w1 av g (f * 2) x.kids.length (ts.drop f) :=
            ⟨_, rfl, hT.len, fun h0 => by rw [if_neg (by omega)], hT.low, hT.c0, hT.c1⟩
          obtain ⟨bb, hbb⟩ : ∃ bb, decide ((ts.drop f).map Prod.fst = x.kids) = bb := ⟨_, rfl⟩
          have cK : ∀ d os, Calls Tryd.prog 27 #[.slice av x.kids.length (cap - f), .slice ak x.kids.length ck] (grow (redrawn w1 d) os) fun e w'' => e = .returned (.bool bb) ∧ ∃ p : Regrown, w'' = grow (redrawn w1 p.d) p.os := fun d os => by
            rw [← hbb]
            exact Calls.regrown_of (areKids_any av g (f * 2) x.kids.length (cap - f) (ts.drop f) ak bk1 ok ck x.kids _ (trees_below hT (below_regrown w1 d os)) (ints_below hints1 (below_regrown w1 d os)) hkk)
          have HBB : Hid (decide ((ts.drop f).map Prod.fst = x.kids) = bb) := hbb
          clear hbb
          go_wp2
          refine wp_region_quiet_below (by kernel_rfl) (by kernel_rfl) ?_
          repeat (quiet_step (first | exact cK _ _))
          refine wpQuiet_nil ?_
          intro _ hw'
          obtain ⟨⟨dq, osq⟩, hw''⟩ := hw'
          subst hw''
          have bq := below_regrown w1 dq osq
          have r2 := r1.below bq r1.lt
          have hT2 := trees_below hT bq
          have hO2 := hO.kept (row := none) ⟨bq.os, bq.tape, bq.output, bq.size, fun j hj _ => bq.block j hj⟩ (.inr (by simp [Value.ownBlock]))
          have sq := bq.size
          generalize grow (redrawn w1 dq) osq = wq at *
          have b03 := b02.trans (bq.mono (by have := bk.size; omega))
          clear cK k3 d3 hints1 hO hT r1 bq b01
          cases bb with
          | true =>
            have HKs : Hid ((ts.drop f).map Prod.fst = x.kids) := (of_decide_eq_true HBB.out : (ts.drop f).map Prod.fst = x.kids)
            go_wp2_with fail
            refine (deepest_any av g (f * 2) x.kids.length (cap - f) (ts.drop f) wq hT2 hkk).mono ?_
            rintro e w3 ⟨rfl, b3⟩
            have hO3 := hO2.kept (row := none) ⟨b3.os, b3.tape, b3.output, b3.size, fun j hj _ => b3.block j hj⟩ (.inr (by simp [Value.ownBlock]))
            have hdb := maxOf_bound (ts.drop f) (fun t ht => H4.out t (List.mem_of_mem_drop ht))
            have s3 := b3.size
            have b04 := b03.trans (b3.mono (by have := bk.size; omega))
            have sk := bk.size
            have HDp : Hid (4 < 1 + maxOf (ts.drop f) → runB (x :: L.drop (k + 1)) k ts = false) := fun hh => run_deep x _ k f ts HF.out HL.out HKs.out hh
            have HSt : Hid (¬ 4 < 1 + maxOf (ts.drop f) → runB (x :: L.drop (k + 1)) k ts = runB (L.drop (k + 1)) (k + 1) (ts.take f ++ [((k : Int), 1 + maxOf (ts.drop f))])) := fun hh => run_step x _ k f ts HF.out HL.out HKs.out hh
            generalize maxOf (ts.drop f) = d at *
            obtain ⟨hd0, hd4'⟩ := hdb
            clear hT2 hO2 r2 b3 b03
            by_cases hd4 : 4 < 1 + d
            · have H5 : Hid (_ = _) := HDp.out hd4
              go_wp2
              go_ret
              exact ⟨ret_bool (by rw [HI.out, HR.out, HX.out, H5.out]), b04⟩
            · have H5 : Hid (_ = _) := HSt.out hd4
              go_wp2_with (at_builtin; refine wpList_append_own _ rfl _ _ 47 rfl w.heap.size 52 i0 _ 2 16 Tryd.underlying47 hi hz0 hz1 hz2 rfl (by decide) _ _ _ rfl (hO3.alloc _) ⟨w3.heap.size, 0, none⟩ 1 1 [.int .i64 k, .int .i64 (1 + d)] rfl rfl ?c1 ?c2 ?c3 ?c4 ?c5 ?_)
              case c1 => exact cell_two_new _ _ _ _
              case c2 => intro u hu; simp at hu; rcases hu with rfl | rfl <;> rfl
              case c3 => unfold maxLen; omega
              case c4 => omega
              case c5 => simp; omega
              intro v' w5 hown' hgrow _
              have b05 := (b04.alloc (by omega) _).grown hgrow (by simp; omega) (fun q hq => by simp [Value.ownBlock] at hq; omega)
              have HO : Hid (w5.ownsRow w.heap.size 52 2 v' (ts.take f ++ [((k : Int), 1 + d)]).length (tcells (ts.take f ++ [((k : Int), 1 + d)]))) := by
                unfold Hid
                rw [tcells_append, List.length_append, List.length_take, HL.out, Nat.min_eq_left (by omega)]
                exact hown'
              clear hown' hgrow hO3 b04
              go_wp2
              go_roundw
              case rel =>
                refine ⟨k + 1, ts.take f ++ [((k : Int), 1 + d)], by omega, by go_num, HO.out, by rw [List.length_append, List.length_take]; simp; omega, by rw [HR.out, HX.out, H5.out], ?_, b05⟩
                intro t ht
                rcases List.mem_append.1 ht with ht | ht
                · exact H4.out t (List.mem_of_mem_take ht)
                · simp at ht; subst ht; show 1 + d ≤ 4; omega
              case measure => simp [intOf] <;> omega
          | false =>
            have HKs : Hid (¬ (ts.drop f).map Prod.fst = x.kids) := (of_decide_eq_false HBB.out : ¬ (ts.drop f).map Prod.fst = x.kids)
            go_wp2
            go_ret
            exact ⟨ret_bool (by rw [HI.out, HR.out, HX.out, run_kids x _ k f ts HF.out HL.out HKs.out]), b03⟩
    · obtain rfl : k = n := by omega
      have HE : Hid (runB (L.drop k) k ts = decide (ts.length = 1)) := by
        unfold Hid
        rw [List.drop_eq_nil_of_le (by rw [h.len]; exact Nat.le_refl _)]
        rfl
      rcases hown.2 with ⟨rfl, hts0⟩ | ⟨g, cap, cur, rfl, _⟩
      · have HZ : Hid (ts.length = 0) := hts0
        clear hts0 hown
        go_wp2
        go_ret
        exact ⟨ret_bool (by rw [HI.out, HR.out, HE.out, HZ.out]; rfl), bk⟩
      · clear hown
        go_wp2
        go_ret
        exact ⟨ret_bool (by rw [HI.out, HR.out, HE.out, Bool.eq_iff_iff]; simp; omega), bk⟩
end Go.Proofs.YtcgeafdakaeicaaDoor.Rp
