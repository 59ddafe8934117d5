/- FnPacked: the law, walked. -/
import Derived.Test.YtjjpplpdpldkeaaHDrawP
import Derived.Deep.RegionHeld3
namespace Go.Proofs.Ytjjpplpdpldkeaa
open Go.RowKit Go.Sort

theorem row_next {w w' : World} {p : Nat} {T : TypeId} {C : Array Value} (h : RowAt w p T C) (hb : Below w.heap.size w w') : RowAt w' p T C := h.below hb h.lt

theorem three_at {w : World} {g : Nat} {T : TypeId} {x y : Value} (h : RowAt w g T #[x, y]) : w.cell? ⟨g, 0, none⟩ = some x := (two_at h).1

set_option maxHeartbeats 8000000 in
set_option maxRecDepth 100000 in
theorem packed_walk (ra : Option Addr) (rn rc : Nat) (w : World) (hn : rn ≤ 9223372036854775807) (hb : BytesIn w ra rn w.heap.size) :
    Calls Try.prog 5 #[.slice ra rn rc] w fun e w' => e = .returned (.bool true) ∧ Below w.heap.size w w' := by
  by_cases hbig : 1048576 < rn
  · have hd : decide (1048576 < rn) = true := decide_eq_true hbig
    go_enter Try.func5, Try.ntmps5
    go_wp2_with fail
    refine (big_any ra rn rc w hn).mono ?_
    rintro e w1 ⟨rfl, rfl⟩
    rw [hd]
    go_wp2
    go_ret
    exact ⟨rfl, Below.refl _ _⟩
  · have hd : decide (1048576 < rn) = false := decide_eq_false hbig
    go_enter Try.func5, Try.ntmps5
    go_wp2_with fail
    refine (big_any ra rn rc w hn).mono ?_
    rintro e w1 ⟨rfl, rfl⟩
    rw [hd]
    go_wp2_with fail
    refine (drawPacked ra rn rc w1 hn hb).mono ?_
    rintro e w2 ⟨s, L, a, A, cap, rfl, hc2, ⟨hs, hL, hf⟩, b2⟩
    have bA : Below w2.heap.size w2 (w2.alloc (.cells #[.string s, .slice a L.length cap] 26)) := (Below.refl _ w2).alloc (Nat.le_refl _) _
    have r3 := RowAt.new w2 26 #[.string s, .slice a L.length cap]
    have hc3 := cells_below hc2 bA
    have bb3 := below_next b2 bA
    have HIP : Hid (∀ W, CellsIn W a A 0 L.length L → Calls Try.prog 19 #[.agg #[.string s, .slice a L.length cap]] W (HeapEnd W (packD s L) (packL s L) (heapB s L))) := fun W hc => implPacked_any s a A 0 L.length cap L W hc hf
    have HSP : Hid (∀ W, CellsIn W a A 0 L.length L → Calls Try.prog 20 #[.agg #[.string s, .slice a L.length cap]] W (HeapEnd W (packD s L) (packL s L) (heapB s L))) := fun W hc => specPacked_any s a A 0 L.length cap L W hc (by omega) (by omega) hf
    have HLaw : Hid (heapB s L = true → PackLaw s L) := fun h => pack_law h
    clear hb hbig hd hc2 b2 bA
    unfold HeapEnd at HIP HSP
    obtain ⟨D, hD⟩ : ∃ D, packD s L = D := ⟨_, rfl⟩
    obtain ⟨M, hM⟩ : ∃ M, packL s L = M := ⟨_, rfl⟩
    obtain ⟨ok, hok⟩ : ∃ ok, heapB s L = ok := ⟨_, rfl⟩
    rw [hD, hM, hok] at HIP HSP
    have HD : Hid (packD s L = D) := hD
    have HM : Hid (packL s L = M) := hM
    have HO : Hid (heapB s L = ok) := hok
    clear hD hM hok
    obtain ⟨x0, x1⟩ := two_at r3
    go_wp2_with fail
    generalize w2.heap.size = g3 at *
    generalize w2.alloc (.cells #[.string s, .slice a L.length cap] 26) = w3 at *
    refine (HIP.out w3 hc3).mono ?_
    rintro e w4 ⟨v4, rfl, o4, b4⟩
    obtain ⟨a1, A1, cap1, rfl, hd4⟩ := owned_cells o4
    have bA : Below w4.heap.size w4 (w4.alloc (.cells #[.string D, .slice a1 M.length cap1] 26)) := (Below.refl _ w4).alloc (Nat.le_refl _) _
    have n5 := RowAt.new w4 26 #[.string D, .slice a1 M.length cap1]
    have r5 := row_next (row_next r3 b4) bA
    have hc5 := cells_below (cells_below hc3 b4) bA
    have hd5 := cells_below hd4 bA
    have bb5 := below_next (below_next bb3 b4) bA
    clear x0 x1 r3 hc3 bb3 o4 b4 hd4 bA
    obtain ⟨x0, x1⟩ := two_at r5
    go_wp2_with fail
    generalize w4.heap.size = g4 at *
    generalize w4.alloc (.cells #[.string D, .slice a1 M.length cap1] 26) = w5 at *
    refine (HSP.out w5 hc5).mono ?_
    rintro e w6 ⟨v6, rfl, o6, b6⟩
    obtain ⟨a2, A2, cap2, rfl, hd6⟩ := owned_cells o6
    have bA : Below w6.heap.size w6 (w6.alloc (.cells #[.string D, .slice a2 M.length cap2] 26)) := (Below.refl _ w6).alloc (Nat.le_refl _) _
    have r7 := row_next (row_next r5 b6) bA
    have n7 := row_next (row_next n5 b6) bA
    have m7 := RowAt.new w6 26 #[.string D, .slice a2 M.length cap2]
    have hc7 := cells_below (cells_below hc5 b6) bA
    have hd7 := cells_below (cells_below hd5 b6) bA
    have bb7 := below_next (below_next bb5 b6) bA
    clear x0 x1 r5 n5 hc5 hd5 bb5 o6 b6 hd6 bA
    obtain ⟨x0, x1⟩ := two_at r7
    obtain ⟨y0, y1⟩ := two_at n7
    obtain ⟨z0, z1⟩ := two_at m7
    generalize hB7 : w6.heap.size = g6 at *
    cases ok with
    | false =>
      go_wp2
      go_ret
      exact ⟨rfl, bb7⟩
    | true =>
      obtain ⟨hMl, PLrest, PLr, PLroom, PLgap, PLagain, PLunder⟩ := HLaw.out HO.out
      simp only [HD.out, HM.out] at hMl PLrest PLr PLroom PLgap PLagain
      have hfM := right_fit PLr
      have hsM := (heap_small PLr).1
      have HML : Hid (M.length = L.length) := hMl
      have CH : Hid (∀ W (i : Nat) (g : Int), CellsIn W a A 0 L.length L → Calls Try.prog 12 #[.agg #[.string s, .slice a L.length cap], refV i g] W fun e w' => e = .returned (.tuple #[.string (getB s L i g).1, .bool (getB s L i g).2]) ∧ Below W.heap.size W w') := fun W i g hc => implGet_any s a A 0 L.length cap L i g W hc hf
      have CN : Hid (∀ W (i : Nat), i < L.length → CellsIn W a1 A1 0 M.length M → Calls Try.prog 12 #[.agg #[.string D, .slice a1 M.length cap1], refV i (L.getD i cl0).gen] W fun e w' => e = .returned (.tuple #[.string (getB s L i (L.getD i cl0).gen).1, .bool (getB s L i (L.getD i cl0).gen).2]) ∧ Below W.heap.size W w') := fun W i hi hc => by
        have := implGet_any D a1 A1 0 M.length cap1 M i (L.getD i cl0).gen W hc hfM
        rwa [PLrest i hi] at this
      have CP : Hid (∀ W, CellsIn W a1 A1 0 M.length M → Calls Try.prog 19 #[.agg #[.string D, .slice a1 M.length cap1]] W (HeapEnd W D (packL D M) true)) := fun W hc => by
        have := implPacked_any D a1 A1 0 M.length cap1 M W hc hfM
        rwa [PLagain, PLr] at this
      have C13 : Hid (∀ W, CellsIn W a1 A1 0 M.length M → Calls Try.prog 13 #[.agg #[.string D, .slice a1 M.length cap1]] W fun e w' => e = .returned (.bool true) ∧ Below W.heap.size W w') := fun W hc => by
        have := implOk_any D a1 A1 0 M.length cap1 M W hc (by omega) (by omega) hfM
        rwa [PLr] at this
      obtain ⟨R, hR⟩ : ∃ R, overB (fun x y => x + y) s L = R := ⟨_, rfl⟩
      obtain ⟨G, hG⟩ : ∃ G, overB (fun x y => max x y) s L = G := ⟨_, rfl⟩
      have C14n : Hid (∀ W, CellsIn W a1 A1 0 M.length M → Calls Try.prog 14 #[.agg #[.string D, .slice a1 M.length cap1]] W fun e w' => e = .returned (.int .i64 R) ∧ Below W.heap.size W w') := fun W hc => by
        have := implRoom_any D a1 A1 0 M.length cap1 M W hc (by omega) (by omega) hfM
        rwa [PLroom, hR] at this
      have C14h : Hid (∀ W, CellsIn W a A 0 L.length L → Calls Try.prog 14 #[.agg #[.string s, .slice a L.length cap]] W fun e w' => e = .returned (.int .i64 R) ∧ Below W.heap.size W w') := fun W hc => by
        have := implRoom_any s a A 0 L.length cap L W hc (by omega) (by omega) hf
        rwa [hR] at this
      have C11n : Hid (∀ W, CellsIn W a1 A1 0 M.length M → Calls Try.prog 11 #[.agg #[.string D, .slice a1 M.length cap1]] W fun e w' => e = .returned (.int .i64 R) ∧ Below W.heap.size W w') := fun W hc => by
        have := implGap_any D a1 A1 0 M.length cap1 M W hc (by omega) (by omega) hfM
        rwa [PLgap, PLroom, hR] at this
      have C11h : Hid (∀ W, CellsIn W a A 0 L.length L → Calls Try.prog 11 #[.agg #[.string s, .slice a L.length cap]] W fun e w' => e = .returned (.int .i64 G) ∧ Below W.heap.size W w') := fun W hc => by
        have := implGap_any s a A 0 L.length cap L W hc (by omega) (by omega) hf
        rwa [hG] at this
      have hGR : G ≤ R := by
        have := PLunder
        rwa [hR, hG] at this
      clear HIP HSP HLaw hR hG PLr HD HM HO hMl PLrest PLroom PLgap PLagain PLunder
      unfold HeapEnd at CP
      go_wp2_with fail
      generalize w6.alloc (.cells #[.string D, .slice a2 M.length cap2] 26) = w7 at *
      go_loopw [8, 9, 10, 11, 12, 13] (fun i _ _ _ _ _ wr => ∃ k : Nat, k ≤ L.length ∧ i = .int .i64 k ∧ Below w7.heap.size w7 wr) (fun i _ _ _ _ _ _ => L.length - (intOf i).toNat)
      case atStart => exact ⟨0, by omega, rfl, Below.refl _ _⟩
      case round =>
        obtain ⟨k, hk, rfl, bk⟩ := hrel
        clear x0 x1 y0 y1 z0 z1
        have rk := row_next r7 bk
        have nk := row_next n7 bk
        have hck := cells_below hc7 bk
        have hdk := cells_below hd7 bk
        obtain ⟨x0, x1⟩ := two_at rk
        obtain ⟨y0, y1⟩ := two_at nk
        by_cases hlt : k < L.length
        · have ha := hck.addr (by omega)
          subst ha
          have hy := hck.cell k hlt
          have c2 := hy.c2
          rw [Nat.zero_add] at c2
          have CHk := CH.out
          have CNk : Hid (∀ W, CellsIn W a1 A1 0 M.length M → Calls Try.prog 12 #[.agg #[.string D, .slice a1 M.length cap1], refV k (L.getD k cl0).gen] W fun e w' => e = .returned (.tuple #[.string (getB s L k (L.getD k cl0).gen).1, .bool (getB s L k (L.getD k cl0).gen).2]) ∧ Below W.heap.size W w') := fun W hc => CN.out W k hlt hc
          have CHk : Hid (∀ W, CellsIn W (some ⟨A, 0, none⟩) A 0 L.length L → Calls Try.prog 12 #[.agg #[.string s, .slice (some ⟨A, 0, none⟩) L.length cap], refV k (L.getD k cl0).gen] W fun e w' => e = .returned (.tuple #[.string (getB s L k (L.getD k cl0).gen).1, .bool (getB s L k (L.getD k cl0).gen).2]) ∧ Below W.heap.size W w') := fun W hc => CH.out W k _ hc
          generalize (L.getD k cl0).gen = gn at *
          generalize (getB s L k gn).1 = T at *
          generalize (getB s L k gn).2 = Y at *
          clear hy
          have kL : (k : Int) < (L.length : Int) := by omega
          have dk : decide ((k : Int) < (L.length : Int)) = true := decide_eq_true kL
          have bA : Below wr.heap.size wr (wr.alloc (.cells #[.int .i64 k, .int .i64 gn] 30)) := (Below.refl _ wr).alloc (Nat.le_refl _) _
          have f8 := RowAt.new wr 30 #[.int .i64 k, .int .i64 gn]
          have r8 := row_next rk bA
          have n8 := row_next nk bA
          have hc8 := cells_below hck bA
          have hd8 := cells_below hdk bA
          have b8 := below_next bk bA
          have x2 := (two_at r8).1
          have x3 := (two_at r8).2
          go_wp2_with fail
          clear x0 x1 y0 y1 x2 x3 c2
          generalize wr.heap.size = g9 at *
          generalize wr.alloc (.cells #[.int .i64 k, .int .i64 gn] 30) = w8 at *
          refine (CHk.out w8 hc8).mono ?_
          rintro e w9 ⟨rfl, b9⟩
          have f9 := row_next f8 b9
          have n9 := row_next n8 b9
          have hd9 := cells_below hd8 b9
          have bb9 := below_next b8 b9
          obtain ⟨x0, x1⟩ := two_at n9
          obtain ⟨y0, y1⟩ := two_at f9
          go_wp2_with fail
          refine (CNk.out w9 hd9).mono ?_
          rintro e w10 ⟨rfl, b10⟩
          have bb10 := below_next bb9 b10
          clear x0 x1 y0 y1 f9 n9 hd9 b9 b10 f8 n8 r8 hc8 hd8 b8 rk nk hck hdk bk bA CHk CNk
          go_wp2
          refine ⟨⟨k + 1, by omega, by go_num, bb10⟩, by simp [intOf]; omega⟩
        · have dk : decide ((k : Int) < (L.length : Int)) = false := decide_eq_false (by omega)
          generalize packL D M = M' at *
          go_wp2_with fail
          refine (CP.out _ hdk).mono ?_
          rintro e w9 ⟨v9, rfl, o9, b9⟩
          obtain ⟨a9, A9, cap9, rfl, _⟩ := owned_cells o9
          have bA : Below w9.heap.size w9 (w9.alloc (.cells #[.string D, .slice a9 M'.length cap9] 26)) := (Below.refl _ w9).alloc (Nat.le_refl _) _
          have z10 := RowAt.new w9 26 #[.string D, .slice a9 M'.length cap9]
          have r10 := row_next (row_next rk b9) bA
          have n10 := row_next (row_next nk b9) bA
          have hc10 := cells_below (cells_below hck b9) bA
          have hd10 := cells_below (cells_below hdk b9) bA
          have bb10 := below_next (below_next bb7 (below_next bk b9)) bA
          clear x0 x1 y0 y1 CP CH CN o9 b9 bA rk nk hck hdk bk r7 n7 m7 hc7 hd7 bb7
          go_upto_region 17 with fail
          generalize w9.heap.size = g14 at *
          generalize w9.alloc (.cells #[.string D, .slice a9 M'.length cap9] 26) = wS at *
          have kp : ∀ {W : World}, Below wS.heap.size wS W → (W.cell? ⟨g3, 0, none⟩ = some (.string s) ∧ W.cell? ⟨g3, 1, none⟩ = some (.slice a L.length cap) ∧ W.cell? ⟨g4, 0, none⟩ = some (.string D) ∧ W.cell? ⟨g4, 1, none⟩ = some (.slice a1 M.length cap1) ∧ W.cell? ⟨g14, 0, none⟩ = some (.string D)) := fun b => ⟨(two_at (row_next r10 b)).1, (two_at (row_next r10 b)).2, (two_at (row_next n10 b)).1, (two_at (row_next n10 b)).2, (two_at (row_next z10 b)).1⟩
          have bx : Below wS.heap.size wS wS.drew := (Below.refl _ wS).drew
          go_region_held3 (fun W => W.cell? ⟨g3, 0, none⟩ = some (.string s) ∧ W.cell? ⟨g3, 1, none⟩ = some (.slice a L.length cap) ∧ W.cell? ⟨g4, 0, none⟩ = some (.string D) ∧ W.cell? ⟨g4, 1, none⟩ = some (.slice a1 M.length cap1) ∧ W.cell? ⟨g14, 0, none⟩ = some (.string D))
            (exact kp bx)
            (first
              | (go_at_call 13
                 refine (C13.out _ (cells_below hd10 bx)).mono ?_
                 rintro e wx ⟨rfl, b1⟩
                 have bx := below_next bx b1)
              | (go_at_call_of 14 (Value.slice a1 M.length cap1)
                 refine (C14n.out _ (cells_below hd10 bx)).mono ?_
                 rintro e wx ⟨rfl, b1⟩
                 have bx := below_next bx b1)
              | (go_at_call_of 14 (Value.slice a L.length cap)
                 refine (C14h.out _ (cells_below hc10 bx)).mono ?_
                 rintro e wx ⟨rfl, b1⟩
                 have bx := below_next bx b1)
              | (go_at_call_of 11 (Value.slice a1 M.length cap1)
                 refine (C11n.out _ (cells_below hd10 bx)).mono ?_
                 rintro e wx ⟨rfl, b1⟩
                 have bx := below_next bx b1)
              | (go_at_call_of 11 (Value.slice a L.length cap)
                 refine (C11h.out _ (cells_below hc10 bx)).mono ?_
                 rintro e wx ⟨rfl, b1⟩
                 have bx := below_next bx b1))
          all_goals go_wp2
          all_goals go_ret
          all_goals exact ⟨rfl, below_next bb10 bx⟩
end Go.Proofs.Ytjjpplpdpldkeaa
