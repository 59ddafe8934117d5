/- FnPut: the law, walked. -/
import Derived.Test.YtjjpplpdpldkeaaHDrawQ
import Derived.Test.YtjjpplpdpldkeaaHPackedW
import Derived.Deep.RegionHeld3
namespace Go.Proofs.Ytjjpplpdpldkeaa
open Go.RowKit Go.Sort

theorem room_small {s : ByteArray} {L : List Cl} (h : heapB s L = true) : 0 ≤ overB (fun x y => x + y) s L ∧ overB (fun x y => x + y) s L ≤ 3000 := by
  have hX := (heap_iff s L).1 h
  obtain ⟨t, _, hr⟩ := heap_right h
  have h1 := pkN_lens hr
  have h2 := pk_le hr (Nat.le_refl (liveS L).length)
  have h3 := hX.small
  rw [room_of hX]
  omega

set_option maxHeartbeats 8000000 in
set_option maxRecDepth 100000 in
theorem put_walk (ra : Option Addr) (rn rc : Nat) (w : World) (hn : rn ≤ 9223372036854775807) (hb : BytesIn w ra rn w.heap.size) :
    Calls Try.prog 3 #[.slice ra rn rc] w fun e w' => e = .returned (.bool true) ∧ Below w.heap.size w w' := by
  by_cases hbig : 1048576 < rn
  · have hd : decide (1048576 < rn) = true := decide_eq_true hbig
    go_enter Try.func3, Try.ntmps3
    go_wp2_with fail
    refine (big_any ra rn rc w hn).mono ?_
    rintro e w1 ⟨rfl, rfl⟩
    rw [hd]
    go_wp2
    go_ret
    exact ⟨rfl, Below.refl _ _⟩
  · have hd : decide (1048576 < rn) = false := decide_eq_false hbig
    go_enter Try.func3, Try.ntmps3
    go_wp2_with fail
    refine (big_any ra rn rc w hn).mono ?_
    rintro e w1 ⟨rfl, rfl⟩
    rw [hd]
    go_wp2_with fail
    refine (drawPut ra rn rc w1 hn hb).mono ?_
    rintro e w2 ⟨s, L, a, A, cap, x, rfl, hx, hc2, ⟨hs, hL, hf⟩, b2⟩
    have bA : Below w2.heap.size w2 (w2.alloc (.cells #[.string s, .slice a L.length cap] 26)) := (Below.refl _ w2).alloc (Nat.le_refl _) _
    have r3 := RowAt.new w2 26 #[.string s, .slice a L.length cap]
    have hc3 := cells_below hc2 bA
    have bb3 := below_next b2 bA
    have HIP : Hid (∀ W, CellsIn W a A 0 L.length L → Calls Try.prog 8 #[.agg #[.string s, .slice a L.length cap], .string x] W (PutEnd W s L x)) := fun W hc => implPut_any s x a A 0 L.length cap L W hc hf hx
    have HSP : Hid (∀ W, CellsIn W a A 0 L.length L → Calls Try.prog 9 #[.agg #[.string s, .slice a L.length cap], .string x] W (PutEnd W s L x)) := fun W hc => specPut_any s x a A 0 L.length cap L W hc (by omega) (by omega) hf hx
    have HSO : Hid (∀ W, CellsIn W a A 0 L.length L → Calls Try.prog 10 #[.agg #[.string s, .slice a L.length cap]] W fun e w' => e = .returned (.bool (heapB s L)) ∧ Below W.heap.size W w') := fun W hc => specOk_any s a A 0 L.length cap L W hc (by omega) (by omega) hf
    clear hb hbig hd hc2 b2 bA
    unfold PutEnd at HIP HSP
    obtain ⟨D, hD⟩ : ∃ D, putD s L x = D := ⟨_, rfl⟩
    obtain ⟨M, hM⟩ : ∃ M, putL s L x = M := ⟨_, rfl⟩
    obtain ⟨C, hC⟩ : ∃ C, putRc s L x = C := ⟨_, rfl⟩
    obtain ⟨E, hE⟩ : ∃ E, putRg s L x = E := ⟨_, rfl⟩
    obtain ⟨ok, hok⟩ : ∃ ok, putOk s L x = ok := ⟨_, rfl⟩
    obtain ⟨hp, hhp⟩ : ∃ hp, heapB s L = hp := ⟨_, rfl⟩
    rw [hD, hM, hC, hE, hok] at HIP HSP
    rw [hhp] at HSO
    have HD : Hid (putD s L x = D) := hD
    have HM : Hid (putL s L x = M) := hM
    have HC : Hid (putRc s L x = C) := hC
    have HE : Hid (putRg s L x = E) := hE
    have HO : Hid (putOk s L x = ok) := hok
    have HH : Hid (heapB s L = hp) := hhp
    clear hD hM hC hE hok hhp
    obtain ⟨x0, x1⟩ := two_at r3
    go_wp2_with fail
    generalize w2.heap.size = g3 at *
    generalize w2.alloc (.cells #[.string s, .slice a L.length cap] 26) = w3 at *
    refine (HIP.out w3 hc3).mono ?_
    rintro e w4 ⟨v4, rfl, o4, b4⟩
    obtain ⟨a1, A1, cap1, rfl, hd4⟩ := owned_cells o4
    have bA : Below w4.heap.size w4 ((w4.alloc (.cells #[.string D, .slice a1 M.length cap1] 26)).alloc (.cells #[.int .i64 C, .int .i64 E] 30)) := Go.Joins.below_alloc2 _ _ _
    have n5 := (RowAt.new w4 26 #[.string D, .slice a1 M.length cap1]).more (.cells #[.int .i64 C, .int .i64 E] 30)
    have f5 : RowAt ((w4.alloc (.cells #[.string D, .slice a1 M.length cap1] 26)).alloc (.cells #[.int .i64 C, .int .i64 E] 30)) (w4.heap.size + 1) 30 #[.int .i64 C, .int .i64 E] := RowAt.first (by simp)
    have r5 := row_next (row_next r3 b4) bA
    have hc5 := cells_below (cells_below hc3 b4) bA
    have hd5 := cells_below hd4 bA
    have bb5 := below_next (below_next bb3 b4) bA
    clear x0 x1 r3 hc3 bb3 o4 b4 hd4 bA
    obtain ⟨x0, x1⟩ := two_at r5
    go_wp2_with fail
    generalize w4.heap.size = g5 at *
    generalize (w4.alloc (.cells #[.string D, .slice a1 M.length cap1] 26)).alloc (.cells #[.int .i64 C, .int .i64 E] 30) = w5 at *
    refine (HSP.out w5 hc5).mono ?_
    rintro e w6 ⟨v6, rfl, o6, b6⟩
    obtain ⟨a2, A2, cap2, rfl, hd6⟩ := owned_cells o6
    have bA : Below w6.heap.size w6 ((w6.alloc (.cells #[.string D, .slice a2 M.length cap2] 26)).alloc (.cells #[.int .i64 C, .int .i64 E] 30)) := Go.Joins.below_alloc2 _ _ _
    have m7 := (RowAt.new w6 26 #[.string D, .slice a2 M.length cap2]).more (.cells #[.int .i64 C, .int .i64 E] 30)
    have k7 : RowAt ((w6.alloc (.cells #[.string D, .slice a2 M.length cap2] 26)).alloc (.cells #[.int .i64 C, .int .i64 E] 30)) (w6.heap.size + 1) 30 #[.int .i64 C, .int .i64 E] := RowAt.first (by simp)
    have r7 := row_next (row_next r5 b6) bA
    have n7 := row_next (row_next n5 b6) bA
    have f7 := row_next (row_next f5 b6) bA
    have hc7 := cells_below (cells_below hc5 b6) bA
    have hd7 := cells_below (cells_below hd5 b6) bA
    have bb7 := below_next (below_next bb5 b6) bA
    clear x0 x1 r5 n5 f5 hc5 hd5 bb5 o6 b6 hd6 bA
    obtain ⟨x0, x1⟩ := two_at r7
    obtain ⟨x2, x3⟩ := two_at n7
    obtain ⟨x4, x5⟩ := two_at f7
    go_wp2_with fail
    generalize w6.heap.size = g8 at *
    generalize (w6.alloc (.cells #[.string D, .slice a2 M.length cap2] 26)).alloc (.cells #[.int .i64 C, .int .i64 E] 30) = w7 at *
    refine (HSO.out w7 hc7).mono ?_
    rintro e w8 ⟨rfl, b8⟩
    have r8 := row_next r7 b8
    have n8 := row_next n7 b8
    have f8 := row_next f7 b8
    have m8 := row_next m7 b8
    have k8 := row_next k7 b8
    have hc8 := cells_below hc7 b8
    have hd8 := cells_below hd7 b8
    have bb8 := below_next bb7 b8
    clear x0 x1 x2 x3 x4 x5 r7 n7 f7 m7 k7 hc7 hd7 bb7 b8 HIP HSP HSO
    obtain ⟨x0, x1⟩ := two_at r8
    obtain ⟨x2, x3⟩ := two_at n8
    obtain ⟨x4, x5⟩ := two_at f8
    obtain ⟨x6, x7⟩ := two_at m8
    obtain ⟨x8, x9⟩ := two_at k8
    cases hp with
    | false =>
      go_wp2
      go_ret
      exact ⟨rfl, bb8⟩
    | true =>
      cases ok with
      | false =>
        obtain ⟨G, hG⟩ : ∃ G, overB (fun x y => max x y) s L = G := ⟨_, rfl⟩
        have HWhy : Hid (x.size ≠ 0 → G < x.size) := fun h0 => by
          have := put_why HH.out hL h0 HO.out
          rwa [hG] at this
        have CG : Hid (∀ W, CellsIn W a A 0 L.length L → Calls Try.prog 11 #[.agg #[.string s, .slice a L.length cap]] W fun e w' => e = .returned (.int .i64 G) ∧ Below W.heap.size W w') := fun W hc => by
          have := implGap_any s a A 0 L.length cap L W hc (by omega) (by omega) hf
          rwa [hG] at this
        clear hG HD HM HC HE HO HH r8 n8 f8 m8 k8 hd8
        go_wp2_with fail
        go_loop [11, 12] (fun l i => ∃ (m k : Nat), m ≤ k ∧ k ≤ L.length ∧ l = .int .i64 m ∧ i = .int .i64 k) (fun _ i => L.length - (intOf i).toNat)
        case atStart => exact ⟨0, 0, by omega, by omega, rfl, rfl⟩
        case round =>
          obtain ⟨m, k, hm, hk, rfl, rfl⟩ := hrel
          by_cases hlt : k < L.length
          · have ha := hc8.addr (by omega)
            subst ha
            have hy := hc8.cell k hlt
            have c3 := hy.c3
            rw [Nat.zero_add] at c3
            generalize (L.getD k cl0).live = lv at *
            clear hy
            have kL : (k : Int) < (L.length : Int) := by omega
            have mL : (m : Int) ≤ 40 := by omega
            have dk : decide ((k : Int) < (L.length : Int)) = true := decide_eq_true kL
            cases lv with
            | true =>
              go_wp2
              go_round
              · exact ⟨m + 1, k + 1, by omega, by omega, by go_num, by go_num⟩
              · simp [intOf]; omega
            | false =>
              go_wp2
              go_round
              · exact ⟨m, k + 1, by omega, by omega, rfl, by go_num⟩
              · simp [intOf]; omega
          · have dk : decide ((k : Int) < (L.length : Int)) = false := decide_eq_false (by omega)
            by_cases hx0 : x.size = 0
            · have hxb : x.toList.isEmpty = true := by rw [ByteArray.toList_eq, empty_of hx0]; rfl
              clear hx0
              go_wp2
              go_ret
              exact ⟨rfl, bb8⟩
            · have hxb := not_empty hx0
              have hGx := HWhy.out hx0
              have dG : decide (G < (x.size : Int)) = true := decide_eq_true hGx
              go_wp2_with fail
              refine (CG.out _ hc8).mono ?_
              rintro e w9 ⟨rfl, b9⟩
              have bb9 := below_next bb8 b9
              clear x0 x1 x2 x3 x4 x5 x6 x7 x8 x9 b9
              go_wp2
              go_ret
              exact ⟨rfl, bb9⟩
      | true =>
        obtain ⟨lgot, lright, lroom, lwas, lrest⟩ := put_law HO.out
        simp only [HD.out, HM.out, HC.out, HE.out] at lgot lright lroom lwas lrest
        have hfM := right_fit lright
        have hsM := heap_small lright
        have hRs := room_small HH.out
        have C12n : Hid (∀ W, CellsIn W a1 A1 0 M.length M → Calls Try.prog 12 #[.agg #[.string D, .slice a1 M.length cap1], refV C E] W fun e w' => e = .returned (.tuple #[.string x, .bool true]) ∧ Below W.heap.size W w') := fun W hc => by
          have := implGet_any D a1 A1 0 M.length cap1 M C E W hc hfM
          rwa [lgot] at this
        obtain ⟨T0, hT0⟩ : ∃ T0, (getB s L C E).1 = T0 := ⟨_, rfl⟩
        have C12h : Hid (∀ W, CellsIn W a A 0 L.length L → Calls Try.prog 12 #[.agg #[.string s, .slice a L.length cap], refV C E] W fun e w' => e = .returned (.tuple #[.string T0, .bool false]) ∧ Below W.heap.size W w') := fun W hc => by
          have := implGet_any s a A 0 L.length cap L C E W hc hf
          rwa [lwas, hT0] at this
        have CH : Hid (∀ W (i : Nat) (g : Int), CellsIn W a A 0 L.length L → Calls Try.prog 12 #[.agg #[.string s, .slice a L.length cap], refV i g] W fun e w' => e = .returned (.tuple #[.string (getB s L i g).1, .bool (getB s L i g).2]) ∧ Below W.heap.size W w') := fun W i g hc => implGet_any s a A 0 L.length cap L i g W hc hf
        have CN : Hid (∀ W (i : Nat) (g : Int), CellsIn W a1 A1 0 M.length M → Calls Try.prog 12 #[.agg #[.string D, .slice a1 M.length cap1], refV i g] W fun e w' => e = .returned (.tuple #[.string (getB D M i g).1, .bool (getB D M i g).2]) ∧ Below W.heap.size W w') := fun W i g hc => implGet_any D a1 A1 0 M.length cap1 M i g W hc hfM
        have HRe : Hid (∀ i : Nat, i < L.length → (getB s L i (L.getD i cl0).gen).2 = true → getB D M i (L.getD i cl0).gen = getB s L i (L.getD i cl0).gen) := lrest
        have C13 : Hid (∀ W, CellsIn W a1 A1 0 M.length M → Calls Try.prog 13 #[.agg #[.string D, .slice a1 M.length cap1]] W fun e w' => e = .returned (.bool true) ∧ Below W.heap.size W w') := fun W hc => by
          have := implOk_any D a1 A1 0 M.length cap1 M W hc (by omega) (by omega) hfM
          rwa [lright] at this
        obtain ⟨R, hR⟩ : ∃ R, overB (fun x y => x + y) s L = R := ⟨_, rfl⟩
        rw [hR] at hRs
        have C14n : Hid (∀ W, CellsIn W a1 A1 0 M.length M → Calls Try.prog 14 #[.agg #[.string D, .slice a1 M.length cap1]] W fun e w' => e = .returned (.int .i64 (R - x.size)) ∧ Below W.heap.size W w') := fun W hc => by
          have := implRoom_any D a1 A1 0 M.length cap1 M W hc (by omega) (by omega) hfM
          rwa [lroom, hR] at this
        have C14h : Hid (∀ W, CellsIn W a A 0 L.length L → Calls Try.prog 14 #[.agg #[.string s, .slice a L.length cap]] W fun e w' => e = .returned (.int .i64 R) ∧ Below W.heap.size W w') := fun W hc => by
          have := implRoom_any s a A 0 L.length cap L W hc (by omega) (by omega) hf
          rwa [hR] at this
        have kw : IntKind.i64.wrap (R - (x.size : Int)) = R - (x.size : Int) := wrap_small (by omega) (by omega)
        clear lgot lright lroom lwas lrest hR hT0 HD HM HC HE HO HH m8 k8
        go_wp2_with fail
        refine (C12n.out _ hd8).mono ?_
        rintro e w9 ⟨rfl, b9⟩
        have r9 := row_next r8 b9
        have n9 := row_next n8 b9
        have f9 := row_next f8 b9
        have hc9 := cells_below hc8 b9
        have hd9 := cells_below hd8 b9
        have bb9 := below_next bb8 b9
        clear x0 x1 x2 x3 x4 x5 x6 x7 x8 x9 b9 r8 n8 f8 hc8 hd8 bb8 C12n
        have kp : ∀ {W : World}, Below w9.heap.size w9 W → (W.cell? ⟨g3, 0, none⟩ = some (.string s) ∧ W.cell? ⟨g3, 1, none⟩ = some (.slice a L.length cap) ∧ W.cell? ⟨g5, 0, none⟩ = some (.string D) ∧ W.cell? ⟨g5, 1, none⟩ = some (.slice a1 M.length cap1)) := fun b => ⟨(two_at (row_next r9 b)).1, (two_at (row_next r9 b)).2, (two_at (row_next n9 b)).1, (two_at (row_next n9 b)).2⟩
        have bx : Below w9.heap.size w9 w9.drew := (Below.refl _ w9).drew
        go_upto_region 17 with fail
        go_cut [136] (fun v wx => v = .bool false ∧ Below w9.heap.size w9 wx)
        case first =>
          go_region_held3 (fun W => W.cell? ⟨g3, 0, none⟩ = some (.string s) ∧ W.cell? ⟨g3, 1, none⟩ = some (.slice a L.length cap) ∧ W.cell? ⟨g5, 0, none⟩ = some (.string D) ∧ W.cell? ⟨g5, 1, none⟩ = some (.slice a1 M.length cap1))
            (exact kp bx)
            (first
              | (go_at_call 13
                 refine (C13.out _ (cells_below hd9 bx)).mono ?_
                 rintro e wx ⟨rfl, b1⟩
                 have bx := below_next bx b1)
              | (go_at_call_of 14 (Value.slice a1 M.length cap1)
                 refine (C14n.out _ (cells_below hd9 bx)).mono ?_
                 rintro e wx ⟨rfl, b1⟩
                 have bx := below_next bx b1)
              | (go_at_call_of 14 (Value.slice a L.length cap)
                 refine (C14h.out _ (cells_below hc9 bx)).mono ?_
                 rintro e wx ⟨rfl, b1⟩
                 have bx := below_next bx b1))
          all_goals go_wp2_with fail
          all_goals go_meet
          all_goals exact ⟨rfl, bx⟩
        case rest =>
          obtain ⟨rfl, bc⟩ := hcut
          have r10 := row_next r9 bc
          have n10 := row_next n9 bc
          have f10 := row_next f9 bc
          have hc10 := cells_below hc9 bc
          have hd10 := cells_below hd9 bc
          have bb10 := below_next bb9 bc
          clear kp bx r9 n9 f9 hc9 hd9 bb9 bc C13 C14n C14h kw hRs
          obtain ⟨x0, x1⟩ := two_at r10
          obtain ⟨x2, x3⟩ := two_at f10
          go_wp2_with fail
          refine (C12h.out _ hc10).mono ?_
          rintro e w11 ⟨rfl, b11⟩
          have r11 := row_next r10 b11
          have n11 := row_next n10 b11
          have hc11 := cells_below hc10 b11
          have hd11 := cells_below hd10 b11
          have bb11 := below_next bb10 b11
          clear x0 x1 x2 x3 r10 n10 f10 hc10 hd10 bb10 b11 C12h
          go_wp2_with fail
          go_loopw [17, 18, 19, 20, 21, 22] (fun i _ _ _ _ _ wr => ∃ k : Nat, k ≤ L.length ∧ i = .int .i64 k ∧ Below w11.heap.size w11 wr) (fun i _ _ _ _ _ _ => L.length - (intOf i).toNat)
          case atStart => exact ⟨0, by omega, rfl, Below.refl _ _⟩
          case round =>
            obtain ⟨k, hk, rfl, bk⟩ := hrel
            have rk := row_next r11 bk
            have nk := row_next n11 bk
            have hck := cells_below hc11 bk
            have hdk := cells_below hd11 bk
            obtain ⟨x0, x1⟩ := two_at rk
            by_cases hlt : k < L.length
            · have ha := hck.addr (by omega)
              subst ha
              have hy := hck.cell k hlt
              have c2 := hy.c2
              rw [Nat.zero_add] at c2
              have HY := HRe.out k hlt
              generalize (L.getD k cl0).gen = gn at *
              have CHk : Hid (∀ W, CellsIn W (some ⟨A, 0, none⟩) A 0 L.length L → Calls Try.prog 12 #[.agg #[.string s, .slice (some ⟨A, 0, none⟩) L.length cap], refV k gn] W fun e w' => e = .returned (.tuple #[.string (getB s L k gn).1, .bool (getB s L k gn).2]) ∧ Below W.heap.size W w') := fun W hc => CH.out W k gn hc
              have CNk : Hid (∀ W, CellsIn W a1 A1 0 M.length M → Calls Try.prog 12 #[.agg #[.string D, .slice a1 M.length cap1], refV k gn] W fun e w' => e = .returned (.tuple #[.string (getB D M k gn).1, .bool (getB D M k gn).2]) ∧ Below W.heap.size W w') := fun W hc => CN.out W k gn hc
              generalize getB s L k gn = P1 at *
              generalize getB D M k gn = P2 at *
              have HYh : Hid (P1.2 = true → P2 = P1) := HY
              clear hy HY
              have kL : (k : Int) < (L.length : Int) := by omega
              have dk : decide ((k : Int) < (L.length : Int)) = true := decide_eq_true kL
              have bA : Below wr.heap.size wr (wr.alloc (.cells #[.int .i64 k, .int .i64 gn] 30)) := (Below.refl _ wr).alloc (Nat.le_refl _) _
              have f8 := RowAt.new wr 30 #[.int .i64 k, .int .i64 gn]
              have r8 := row_next rk bA
              have n8 := row_next nk bA
              have hc8 := cells_below hck bA
              have hd8 := cells_below hdk bA
              have b8 := below_next bk bA
              have x2 := (two_at r8).1
              have x3 := (two_at r8).2
              go_wp2_with fail
              clear x0 x1 x2 x3 c2
              generalize wr.heap.size = g9 at *
              generalize wr.alloc (.cells #[.int .i64 k, .int .i64 gn] 30) = w8 at *
              refine (CHk.out w8 hc8).mono ?_
              rintro e w12 ⟨rfl, b12⟩
              have f9 := row_next f8 b12
              have n9 := row_next n8 b12
              have hd9 := cells_below hd8 b12
              have bb12 := below_next b8 b12
              obtain ⟨x0, x1⟩ := two_at n9
              obtain ⟨y0, y1⟩ := two_at f9
              go_wp2_with fail
              refine (CNk.out w12 hd9).mono ?_
              rintro e w13 ⟨rfl, b13⟩
              have bb13 := below_next bb12 b13
              clear x0 x1 y0 y1 f9 n9 hd9 b12 b13 f8 n8 r8 hc8 hd8 b8 rk nk hck hdk bk bA CHk CNk
              obtain ⟨T, Y⟩ := P1
              cases Y with
              | true =>
                have e2 := HYh.out rfl
                subst e2
                clear HYh
                go_wp2
                refine ⟨⟨k + 1, by omega, by go_num, bb13⟩, by simp [intOf]; omega⟩
              | false =>
                clear HYh
                obtain ⟨T', Y'⟩ := P2
                go_wp2
                refine ⟨⟨k + 1, by omega, by go_num, bb13⟩, by simp [intOf]; omega⟩
            · have dk : decide ((k : Int) < (L.length : Int)) = false := decide_eq_false (by omega)
              go_wp2
              go_ret
              exact ⟨rfl, below_next bb11 bk⟩
end Go.Proofs.Ytjjpplpdpldkeaa
