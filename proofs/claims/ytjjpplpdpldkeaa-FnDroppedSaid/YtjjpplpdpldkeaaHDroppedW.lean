/- FnDropped: the law, walked. -/
import Derived.Test.YtjjpplpdpldkeaaHDrawR
import Derived.Test.YtjjpplpdpldkeaaHPutW
import Derived.Deep.RegionHeld3
namespace Go.Proofs.Ytjjpplpdpldkeaa
open Go.RowKit Go.Sort

theorem get_drop (s : ByteArray) (L : List Cl) (c g : Int) : (getB s L c g).2 = dropOk s L c g := by
  unfold getB dropOk
  cases heapB s L <;> cases isB L c g <;> rfl

theorem drop_heap {s : ByteArray} {L : List Cl} {c g : Int} (h : dropOk s L c g = true) : heapB s L = true := by
  unfold dropOk at h
  rw [Bool.and_eq_true] at h
  exact h.1

set_option maxHeartbeats 8000000 in
set_option maxRecDepth 100000 in
theorem dropped_walk (ra : Option Addr) (rn rc : Nat) (w : World) (hn : rn ≤ 9223372036854775807) (hb : BytesIn w ra rn w.heap.size) :
    Calls Try.prog 4 #[.slice ra rn rc] w fun e w' => e = .returned (.bool true) ∧ Below w.heap.size w w' := by
  by_cases hbig : 1048576 < rn
  · have hd : decide (1048576 < rn) = true := decide_eq_true hbig
    go_enter Try.func4, Try.ntmps4
    go_wp2_with fail
    refine (big_any ra rn rc w hn).mono ?_
    rintro e w1 ⟨rfl, rfl⟩
    rw [hd]
    go_wp2
    go_ret
    exact ⟨rfl, Below.refl _ _⟩
  · have hd : decide (1048576 < rn) = false := decide_eq_false hbig
    go_enter Try.func4, Try.ntmps4
    go_wp2_with fail
    refine (big_any ra rn rc w hn).mono ?_
    rintro e w1 ⟨rfl, rfl⟩
    rw [hd]
    go_wp2_with fail
    refine (drawDrop ra rn rc w1 hn hb).mono ?_
    rintro e w2 ⟨s, L, a, A, cap, c, g, rfl, hc2, ⟨hs, hL, hf⟩, b2⟩
    have bA : Below w2.heap.size w2 ((w2.alloc (.cells #[.string s, .slice a L.length cap] 26)).alloc (.cells #[.int .i64 c, .int .i64 g] 30)) := Go.Joins.below_alloc2 _ _ _
    have r3 := (RowAt.new w2 26 #[.string s, .slice a L.length cap]).more (.cells #[.int .i64 c, .int .i64 g] 30)
    have f3 : RowAt ((w2.alloc (.cells #[.string s, .slice a L.length cap] 26)).alloc (.cells #[.int .i64 c, .int .i64 g] 30)) (w2.heap.size + 1) 30 #[.int .i64 c, .int .i64 g] := RowAt.first (by simp)
    have hc3 := cells_below hc2 bA
    have bb3 := below_next b2 bA
    have HIP : Hid (∀ W, CellsIn W a A 0 L.length L → Calls Try.prog 16 #[.agg #[.string s, .slice a L.length cap], refV c g] W (HeapEnd W (dropD s L c g) (dropL s L c g) (dropOk s L c g))) := fun W hc => implDrop_any s a A 0 L.length cap L c g W hc hf
    have HSP : Hid (∀ W, CellsIn W a A 0 L.length L → Calls Try.prog 17 #[.agg #[.string s, .slice a L.length cap], refV c g] W (HeapEnd W (dropD s L c g) (dropL s L c g) (dropOk s L c g))) := fun W hc => specDropA s a A 0 cap L c g W hc (by omega) (by omega) hf
    obtain ⟨T, hT⟩ : ∃ T, (getB s L c g).1 = T := ⟨_, rfl⟩
    have HGH : Hid (∀ W, CellsIn W a A 0 L.length L → Calls Try.prog 12 #[.agg #[.string s, .slice a L.length cap], refV c g] W fun e w' => e = .returned (.tuple #[.string T, .bool (dropOk s L c g)]) ∧ Below W.heap.size W w') := fun W hc => by
      have := implGet_any s a A 0 L.length cap L c g W hc hf
      rwa [get_drop, hT] at this
    clear hb hbig hd hc2 b2 bA
    unfold HeapEnd at HIP HSP
    obtain ⟨D, hD⟩ : ∃ D, dropD s L c g = D := ⟨_, rfl⟩
    obtain ⟨M, hM⟩ : ∃ M, dropL s L c g = M := ⟨_, rfl⟩
    obtain ⟨ok, hok⟩ : ∃ ok, dropOk s L c g = ok := ⟨_, rfl⟩
    rw [hD, hM, hok] at HIP HSP
    rw [hok] at HGH
    have HT : Hid ((getB s L c g).1 = T) := hT
    have HD : Hid (dropD s L c g = D) := hD
    have HM : Hid (dropL s L c g = M) := hM
    have HO : Hid (dropOk s L c g = ok) := hok
    clear hD hM hok hT
    obtain ⟨x0, x1⟩ := two_at r3
    obtain ⟨x2, x3⟩ := two_at f3
    go_wp2_with fail
    generalize w2.heap.size = g3 at *
    generalize (w2.alloc (.cells #[.string s, .slice a L.length cap] 26)).alloc (.cells #[.int .i64 c, .int .i64 g] 30) = w3 at *
    refine (HIP.out w3 hc3).mono ?_
    rintro e w4 ⟨v4, rfl, o4, b4⟩
    obtain ⟨a1, A1, cap1, rfl, hd4⟩ := owned_cells o4
    have bA : Below w4.heap.size w4 (w4.alloc (.cells #[.string D, .slice a1 M.length cap1] 26)) := (Below.refl _ w4).alloc (Nat.le_refl _) _
    have n5 := RowAt.new w4 26 #[.string D, .slice a1 M.length cap1]
    have r5 := row_next (row_next r3 b4) bA
    have f5 := row_next (row_next f3 b4) bA
    have hc5 := cells_below (cells_below hc3 b4) bA
    have hd5 := cells_below hd4 bA
    have bb5 := below_next (below_next bb3 b4) bA
    clear x0 x1 x2 x3 r3 f3 hc3 bb3 o4 b4 hd4 bA
    obtain ⟨x0, x1⟩ := two_at r5
    obtain ⟨x2, x3⟩ := two_at f5
    go_wp2_with fail
    generalize w4.heap.size = g5 at *
    generalize w4.alloc (.cells #[.string D, .slice a1 M.length cap1] 26) = w5 at *
    refine (HSP.out w5 hc5).mono ?_
    rintro e w6 ⟨v6, rfl, o6, b6⟩
    obtain ⟨a2, A2, cap2, rfl, hd6⟩ := owned_cells o6
    have bA : Below w6.heap.size w6 (w6.alloc (.cells #[.string D, .slice a2 M.length cap2] 26)) := (Below.refl _ w6).alloc (Nat.le_refl _) _
    have m7 := RowAt.new w6 26 #[.string D, .slice a2 M.length cap2]
    have r7 := row_next (row_next r5 b6) bA
    have n7 := row_next (row_next n5 b6) bA
    have f7 := row_next (row_next f5 b6) bA
    have hc7 := cells_below (cells_below hc5 b6) bA
    have hd7 := cells_below (cells_below hd5 b6) bA
    have bb7 := below_next (below_next bb5 b6) bA
    clear x0 x1 x2 x3 r5 n5 f5 hc5 hd5 bb5 o6 b6 hd6 bA
    obtain ⟨x0, x1⟩ := two_at r7
    obtain ⟨x2, x3⟩ := two_at f7
    go_wp2_with fail
    generalize w6.heap.size = g8 at *
    generalize w6.alloc (.cells #[.string D, .slice a2 M.length cap2] 26) = w7 at *
    refine (HGH.out w7 hc7).mono ?_
    rintro e w8 ⟨rfl, b8⟩
    have r8 := row_next r7 b8
    have n8 := row_next n7 b8
    have f8 := row_next f7 b8
    have m8 := row_next m7 b8
    have hc8 := cells_below hc7 b8
    have hd8 := cells_below hd7 b8
    have bb8 := below_next bb7 b8
    clear x0 x1 x2 x3 r7 n7 f7 m7 hc7 hd7 bb7 b8 HIP HSP HGH
    obtain ⟨x0, x1⟩ := two_at r8
    obtain ⟨x2, x3⟩ := two_at n8
    obtain ⟨x4, x5⟩ := two_at f8
    obtain ⟨x6, x7⟩ := two_at m8
    cases ok with
    | false =>
      go_wp2
      go_ret
      exact ⟨rfl, bb8⟩
    | true =>
      obtain ⟨lstill, lfine, lstale, lother, lrest, lright, lroom⟩ := drop_law HO.out hL
      simp only [HD.out, HM.out, HT.out] at lstill lfine lstale lother lrest lright lroom
      have hfM := right_fit lright
      have hsM := heap_small lright
      obtain ⟨D2, hD2⟩ : ∃ D2, putD D M T = D2 := ⟨_, rfl⟩
      obtain ⟨M2, hM2⟩ : ∃ M2, putL D M T = M2 := ⟨_, rfl⟩
      obtain ⟨C2, hC2⟩ : ∃ C2, putRc D M T = C2 := ⟨_, rfl⟩
      obtain ⟨E2, hE2⟩ : ∃ E2, putRg D M T = E2 := ⟨_, rfl⟩
      have pright := (put_law lfine).right
      rw [hD2, hM2] at pright lstale
      rw [hC2, hE2] at lother
      have hfM2 := right_fit pright
      have hTs : T.size ≤ 3000 := by
        have h1 := (room_small lright).2
        have h2 := (room_small (drop_heap HO.out)).1
        rw [lroom] at h1
        omega
      obtain ⟨T1, hT1⟩ : ∃ T1, (getB D M c g).1 = T1 := ⟨_, rfl⟩
      obtain ⟨T2, hT2⟩ : ∃ T2, (getB D2 M2 c g).1 = T2 := ⟨_, rfl⟩
      have C12n : Hid (∀ W, CellsIn W a1 A1 0 M.length M → Calls Try.prog 12 #[.agg #[.string D, .slice a1 M.length cap1], refV c g] W fun e w' => e = .returned (.tuple #[.string T1, .bool false]) ∧ Below W.heap.size W w') := fun W hc => by
        have := implGet_any D a1 A1 0 M.length cap1 M c g W hc hfM
        rwa [lstill, hT1] at this
      have CPn : Hid (∀ W, CellsIn W a1 A1 0 M.length M → Calls Try.prog 8 #[.agg #[.string D, .slice a1 M.length cap1], .string T] W fun e w' => ∃ v, e = .returned (.tuple #[.agg #[.string D2, v], refV C2 E2, .bool true]) ∧ w'.ownsRow W.heap.size 35 4 v M2.length (flatC M2) ∧ Below W.heap.size W w') := fun W hc => by
        have := implPut_any D T a1 A1 0 M.length cap1 M W hc hfM (by omega)
        unfold PutEnd at this
        rwa [hD2, hM2, hC2, hE2, lfine] at this
      have C12m : Hid (∀ W (a : Option Addr) (A cap : Nat), CellsIn W a A 0 M2.length M2 → Calls Try.prog 12 #[.agg #[.string D2, .slice a M2.length cap], refV c g] W fun e w' => e = .returned (.tuple #[.string T2, .bool false]) ∧ Below W.heap.size W w') := fun W a A cap hc => by
        have := implGet_any D2 a A 0 M2.length cap M2 c g W hc hfM2
        rwa [lstale, hT2] at this
      have CH : Hid (∀ W (i : Nat) (g : Int), CellsIn W a A 0 L.length L → Calls Try.prog 12 #[.agg #[.string s, .slice a L.length cap], refV i g] W fun e w' => e = .returned (.tuple #[.string (getB s L i g).1, .bool (getB s L i g).2]) ∧ Below W.heap.size W w') := fun W i g hc => implGet_any s a A 0 L.length cap L i g W hc hf
      have CN : Hid (∀ W (i : Nat) (g : Int), CellsIn W a1 A1 0 M.length M → Calls Try.prog 12 #[.agg #[.string D, .slice a1 M.length cap1], refV i g] W fun e w' => e = .returned (.tuple #[.string (getB D M i g).1, .bool (getB D M i g).2]) ∧ Below W.heap.size W w') := fun W i g hc => implGet_any D a1 A1 0 M.length cap1 M i g W hc hfM
      have HRe : Hid (∀ i : Nat, i < L.length → ¬ ((i : Int) = c ∧ (L.getD i cl0).gen = g) → getB D M i (L.getD i cl0).gen = getB s L i (L.getD i cl0).gen) := lrest
      have HOt : Hid (¬ (C2 = c ∧ E2 = g)) := lother
      have C13 : Hid (∀ W, CellsIn W a1 A1 0 M.length M → Calls Try.prog 13 #[.agg #[.string D, .slice a1 M.length cap1]] W fun e w' => e = .returned (.bool true) ∧ Below W.heap.size W w') := fun W hc => by
        have := implOk_any D a1 A1 0 M.length cap1 M W hc (by omega) (by omega) hfM
        rwa [lright] at this
      obtain ⟨R, hR⟩ : ∃ R, overB (fun x y => x + y) s L = R := ⟨_, rfl⟩
      have hRs := room_small (drop_heap HO.out)
      rw [hR] at hRs
      have C14n : Hid (∀ W, CellsIn W a1 A1 0 M.length M → Calls Try.prog 14 #[.agg #[.string D, .slice a1 M.length cap1]] W fun e w' => e = .returned (.int .i64 (R + T.size)) ∧ Below W.heap.size W w') := fun W hc => by
        have := implRoom_any D a1 A1 0 M.length cap1 M W hc (by omega) (by omega) hfM
        rwa [lroom, hR] at this
      have C14h : Hid (∀ W, CellsIn W a A 0 L.length L → Calls Try.prog 14 #[.agg #[.string s, .slice a L.length cap]] W fun e w' => e = .returned (.int .i64 R) ∧ Below W.heap.size W w') := fun W hc => by
        have := implRoom_any s a A 0 L.length cap L W hc (by omega) (by omega) hf
        rwa [hR] at this
      have kw : IntKind.i64.wrap (R + (T.size : Int)) = R + (T.size : Int) := wrap_small (by omega) (by omega)
      clear lstill lfine lstale lother lrest lright lroom hR hT1 hT2 HD HM HT HO m8 hD2 hM2 hC2 hE2 pright hfM2
      go_wp2_with fail
      refine (C12n.out _ hd8).mono ?_
      rintro e w9 ⟨rfl, b9⟩
      have r9 := row_next r8 b9
      have n9 := row_next n8 b9
      have f9 := row_next f8 b9
      have hc9 := cells_below hc8 b9
      have hd9 := cells_below hd8 b9
      have bb9 := below_next bb8 b9
      clear x0 x1 x2 x3 x4 x5 x6 x7 b9 r8 n8 f8 hc8 hd8 bb8 C12n
      obtain ⟨x2, x3⟩ := two_at n9
      go_wp2_with fail
      refine (CPn.out _ hd9).mono ?_
      rintro e w10 ⟨v10, rfl, o10, b10⟩
      obtain ⟨a3, A3, cap3, rfl, he10⟩ := owned_cells o10
      have bA : Below w10.heap.size w10 ((w10.alloc (.cells #[.string D2, .slice a3 M2.length cap3] 26)).alloc (.cells #[.int .i64 C2, .int .i64 E2] 30)) := Go.Joins.below_alloc2 _ _ _
      have t11 := (RowAt.new w10 26 #[.string D2, .slice a3 M2.length cap3]).more (.cells #[.int .i64 C2, .int .i64 E2] 30)
      have k11 : RowAt ((w10.alloc (.cells #[.string D2, .slice a3 M2.length cap3] 26)).alloc (.cells #[.int .i64 C2, .int .i64 E2] 30)) (w10.heap.size + 1) 30 #[.int .i64 C2, .int .i64 E2] := RowAt.first (by simp)
      have r11 := row_next (row_next r9 b10) bA
      have n11 := row_next (row_next n9 b10) bA
      have f11 := row_next (row_next f9 b10) bA
      have hc11 := cells_below (cells_below hc9 b10) bA
      have hd11 := cells_below (cells_below hd9 b10) bA
      have he11 := cells_below he10 bA
      have bb11 := below_next (below_next bb9 b10) bA
      clear x2 x3 r9 n9 f9 hc9 hd9 bb9 o10 b10 he10 bA CPn
      obtain ⟨x4, x5⟩ := two_at f11
      go_wp2_with fail
      generalize w10.heap.size = g13 at *
      generalize (w10.alloc (.cells #[.string D2, .slice a3 M2.length cap3] 26)).alloc (.cells #[.int .i64 C2, .int .i64 E2] 30) = w11 at *
      refine (C12m.out w11 a3 A3 cap3 he11).mono ?_
      rintro e w12 ⟨rfl, b12⟩
      have r12 := row_next r11 b12
      have n12 := row_next n11 b12
      have f12 := row_next f11 b12
      have k12 := row_next k11 b12
      have hc12 := cells_below hc11 b12
      have hd12 := cells_below hd11 b12
      have bb12 := below_next bb11 b12
      clear x4 x5 r11 n11 f11 k11 t11 hc11 hd11 he11 bb11 b12 C12m
      go_wp2_with fail
      go_loopw [18, 19, 20, 21, 22, 23] (fun i _ _ _ _ _ wr => ∃ k : Nat, k ≤ L.length ∧ i = .int .i64 k ∧ Below w12.heap.size w12 wr) (fun i _ _ _ _ _ _ => L.length - (intOf i).toNat)
      case atStart => exact ⟨0, by omega, rfl, Below.refl _ _⟩
      case round =>
        obtain ⟨k, hk, rfl, bk⟩ := hrel
        have rk := row_next r12 bk
        have nk := row_next n12 bk
        have fk := row_next f12 bk
        have kk := row_next k12 bk
        have hck := cells_below hc12 bk
        have hdk := cells_below hd12 bk
        obtain ⟨x0, x1⟩ := two_at rk
        by_cases hlt : k < L.length
        · have ha := hck.addr (by omega)
          subst ha
          have hy := hck.cell k hlt
          have c2 := hy.c2
          rw [Nat.zero_add] at c2
          have HY := HRe.out k hlt
          generalize (L.getD k cl0).gen = gn at *
          have CHk : Hid (∀ W, CellsIn W (some ⟨A, 0, none⟩) A 0 L.length L → Calls Try.prog 12 #[.agg #[.string s, .slice (some ⟨A, 0, none⟩) L.length cap], refV k gn] W fun e w' => e = .returned (.tuple #[.string (getB s L k gn).1, .bool (getB s L k gn).2]) ∧ Below W.heap.size W w') := fun W hc => CH.out W k gn hc
          have CNk : Hid (∀ W, CellsIn W a1 A1 0 M.length M → Calls Try.prog 12 #[.agg #[.string D, .slice a1 M.length cap1], refV k gn] W fun e w' => e = .returned (.tuple #[.string (getB D M k gn).1, .bool (getB D M k gn).2]) ∧ Below W.heap.size W w') := fun W hc => CN.out W k gn hc
          generalize getB s L k gn = P1 at *
          generalize getB D M k gn = P2 at *
          have HYh : Hid (¬ ((k : Int) = c ∧ gn = g) → P2 = P1) := HY
          clear hy HY
          have kL : (k : Int) < (L.length : Int) := by omega
          have dk : decide ((k : Int) < (L.length : Int)) = true := decide_eq_true kL
          have bA : Below wr.heap.size wr (wr.alloc (.cells #[.int .i64 k, .int .i64 gn] 30)) := (Below.refl _ wr).alloc (Nat.le_refl _) _
          have p8 := RowAt.new wr 30 #[.int .i64 k, .int .i64 gn]
          have r8 := row_next rk bA
          have n8 := row_next nk bA
          have f8 := row_next fk bA
          have hc8 := cells_below hck bA
          have hd8 := cells_below hdk bA
          have b8 := below_next bk bA
          have x2 := (two_at r8).1
          have x3 := (two_at r8).2
          go_wp2_with fail
          clear x0 x1 x2 x3 c2
          generalize wr.heap.size = g9 at *
          generalize wr.alloc (.cells #[.int .i64 k, .int .i64 gn] 30) = w13 at *
          refine (CHk.out w13 hc8).mono ?_
          rintro e w14 ⟨rfl, b14⟩
          have p9 := row_next p8 b14
          have n9 := row_next n8 b14
          have f9 := row_next f8 b14
          have hd9 := cells_below hd8 b14
          have bb14 := below_next b8 b14
          obtain ⟨x0, x1⟩ := two_at n9
          obtain ⟨y0, y1⟩ := two_at p9
          go_wp2_with fail
          refine (CNk.out w14 hd9).mono ?_
          rintro e w15 ⟨rfl, b15⟩
          have p10 := row_next p9 b15
          have f10 := row_next f9 b15
          have bb15 := below_next bb14 b15
          clear x0 x1 y0 y1 p9 n9 f9 hd9 b14 b15 p8 n8 r8 f8 hc8 hd8 b8 rk nk fk kk hck hdk bk bA CHk CNk
          obtain ⟨y0, y1⟩ := two_at p10
          obtain ⟨y2, y3⟩ := two_at f10
          clear p10 f10
          by_cases hkc : (k : Int) = c
          · by_cases hgg : gn = g
            · subst hkc hgg
              clear HYh
              go_wp2
              refine ⟨⟨k + 1, by omega, by go_num, bb15⟩, by simp [intOf]; omega⟩
            · have e2 := HYh.out (fun h => hgg h.2)
              subst e2
              subst hkc
              obtain ⟨T', Y'⟩ := P2
              have dg : (gn == g) = false := by simpa using hgg
              clear HYh
              go_wp2
              refine ⟨⟨k + 1, by omega, by go_num, bb15⟩, by simp [intOf]; omega⟩
          · have e2 := HYh.out (fun h => hkc h.1)
            subst e2
            obtain ⟨T', Y'⟩ := P2
            have dc : ((k : Int) == c) = false := by simpa using hkc
            clear HYh
            go_wp2
            refine ⟨⟨k + 1, by omega, by go_num, bb15⟩, by simp [intOf]; omega⟩
        · have dk : decide ((k : Int) < (L.length : Int)) = false := decide_eq_false (by omega)
          have kp : ∀ {W : World}, Below wr.heap.size wr W → (W.cell? ⟨g3, 0, none⟩ = some (.string s) ∧ W.cell? ⟨g3, 1, none⟩ = some (.slice a L.length cap) ∧ W.cell? ⟨g5, 0, none⟩ = some (.string D) ∧ W.cell? ⟨g5, 1, none⟩ = some (.slice a1 M.length cap1) ∧ W.cell? ⟨g3 + 1, 0, none⟩ = some (.int .i64 c) ∧ W.cell? ⟨g3 + 1, 1, none⟩ = some (.int .i64 g) ∧ W.cell? ⟨g13 + 1, 0, none⟩ = some (.int .i64 C2) ∧ W.cell? ⟨g13 + 1, 1, none⟩ = some (.int .i64 E2)) := fun b => ⟨(two_at (row_next rk b)).1, (two_at (row_next rk b)).2, (two_at (row_next nk b)).1, (two_at (row_next nk b)).2, (two_at (row_next fk b)).1, (two_at (row_next fk b)).2, (two_at (row_next kk b)).1, (two_at (row_next kk b)).2⟩
          have bx : Below wr.heap.size wr wr.drew := (Below.refl _ wr).drew
          by_cases hCc : C2 = c
          · have hEg : ¬ E2 = g := fun h => HOt.out ⟨hCc, h⟩
            subst hCc
            have dg : (E2 == g) = false := by simpa using hEg
            clear HOt CH CN HRe
            go_upto_region 20 with fail
            go_region_held3 (fun W => W.cell? ⟨g3, 0, none⟩ = some (.string s) ∧ W.cell? ⟨g3, 1, none⟩ = some (.slice a L.length cap) ∧ W.cell? ⟨g5, 0, none⟩ = some (.string D) ∧ W.cell? ⟨g5, 1, none⟩ = some (.slice a1 M.length cap1) ∧ W.cell? ⟨g3 + 1, 0, none⟩ = some (.int .i64 C2) ∧ W.cell? ⟨g3 + 1, 1, none⟩ = some (.int .i64 g) ∧ W.cell? ⟨g13 + 1, 0, none⟩ = some (.int .i64 C2) ∧ W.cell? ⟨g13 + 1, 1, none⟩ = some (.int .i64 E2))
              (exact kp bx)
              (first
                | (go_at_call 13
                   refine (C13.out _ (cells_below hdk bx)).mono ?_
                   rintro e wx ⟨rfl, b1⟩
                   have bx := below_next bx b1)
                | (go_at_call_of 14 (Value.slice a1 M.length cap1)
                   refine (C14n.out _ (cells_below hdk bx)).mono ?_
                   rintro e wx ⟨rfl, b1⟩
                   have bx := below_next bx b1)
                | (go_at_call_of 14 (Value.slice a L.length cap)
                   refine (C14h.out _ (cells_below hck bx)).mono ?_
                   rintro e wx ⟨rfl, b1⟩
                   have bx := below_next bx b1))
            all_goals go_wp2
            all_goals go_ret
            all_goals exact ⟨rfl, below_next bb12 (below_next bk bx)⟩
          · have dc : (C2 == c) = false := by simpa using hCc
            clear HOt CH CN HRe
            go_upto_region 20 with fail
            go_region_held3 (fun W => W.cell? ⟨g3, 0, none⟩ = some (.string s) ∧ W.cell? ⟨g3, 1, none⟩ = some (.slice a L.length cap) ∧ W.cell? ⟨g5, 0, none⟩ = some (.string D) ∧ W.cell? ⟨g5, 1, none⟩ = some (.slice a1 M.length cap1) ∧ W.cell? ⟨g3 + 1, 0, none⟩ = some (.int .i64 c) ∧ W.cell? ⟨g3 + 1, 1, none⟩ = some (.int .i64 g) ∧ W.cell? ⟨g13 + 1, 0, none⟩ = some (.int .i64 C2) ∧ W.cell? ⟨g13 + 1, 1, none⟩ = some (.int .i64 E2))
              (exact kp bx)
              (first
                | (go_at_call 13
                   refine (C13.out _ (cells_below hdk bx)).mono ?_
                   rintro e wx ⟨rfl, b1⟩
                   have bx := below_next bx b1)
                | (go_at_call_of 14 (Value.slice a1 M.length cap1)
                   refine (C14n.out _ (cells_below hdk bx)).mono ?_
                   rintro e wx ⟨rfl, b1⟩
                   have bx := below_next bx b1)
                | (go_at_call_of 14 (Value.slice a L.length cap)
                   refine (C14h.out _ (cells_below hck bx)).mono ?_
                   rintro e wx ⟨rfl, b1⟩
                   have bx := below_next bx b1))
            all_goals go_wp2
            all_goals go_ret
            all_goals exact ⟨rfl, below_next bb12 (below_next bk bx)⟩
end Go.Proofs.Ytjjpplpdpldkeaa
