/- Values that came in: how much they hold; their copies. -/
import Derived.Test.YtjgmkbldclangaaGreatDoorS1
import Derived.Test.YtjgmkbldclangaaGreatDoorFW
namespace Go.Proofs.YtjgmkbldclangaaGreatDoor
open Go.RowKit Go.Sort
open Kk (Rk rk0 rkV RanksIn OwnR PreR FitL)

theorem strs_fd {w : World} {a : Option Addr} {b off n : Nat} {ss : List ByteArray} (h : StrsIn w a b off n ss) : Fd.StrsIn w a b off n ss := ⟨h.len, h.addr, h.low, h.cell, h.fit⟩

def PreS (D : Array Value) (L : List ByteArray) (k : Nat) : Prop := ∀ i, i < k → D[i]? = some (.string (L.getD i ByteArray.empty))
theorem preS_put {D : Array Value} {L : List ByteArray} {k : Nat} {s : ByteArray} (h : PreS D L k) (hD : k < D.size) (hx : L.getD k ByteArray.empty = s) : PreS (D.setIfInBounds k (.string s)) L (k + 1) := fun i hi => by
  by_cases e : i = k
  · subst e
    rw [hx, Array.getElem?_setIfInBounds_self_of_lt (by omega)]
  · rw [Array.getElem?_setIfInBounds_ne (by omega)]
    exact h i (by omega)
theorem preS_flat {D : Array Value} {L : List ByteArray} (h : PreS D L L.length) : D.toList.take (L.length * 1) = strV L := by
  apply List.ext_getElem?
  intro j
  unfold strV
  rw [Nat.mul_one, List.getElem?_map]
  by_cases hj : j < L.length
  · rw [List.getElem?_take, if_pos hj, Array.getElem?_toList, h j hj, List.getD_eq_getElem?_getD, List.getElem?_eq_getElem hj]
    rfl
  · rw [List.getElem?_take, if_neg hj, List.getElem?_eq_none (by omega)]
    rfl
theorem rowS_owns {w : World} {g cap B : Nat} {D : Array Value} {L : List ByteArray} (h : RowAt w g 9 D) (hD : D.size = cap) (hp : PreS D L L.length) (hc : L.length ≤ cap) (hm : cap ≤ maxLen) (hB : B ≤ g) : OwnS w B (.slice (some ⟨g, 0, none⟩) L.length cap) L :=
  ⟨by simp [strV], .inr ⟨g, cap, D, rfl, hB, h, hc, hm, by omega, preS_flat hp⟩⟩

theorem make_texts (n : Nat) (hn : n ≤ 1048576) : ∃ C : Array Value, C.size = n ∧ ∀ w, (Instr.makeSlice 52 (.int .i64 n) (.int .i64 n)).run Tryz.prog w = .ok (.slice (some ⟨w.heap.size, 0, none⟩) n n) (w.alloc (.cells C 9)) := by
  obtain ⟨i0, hi, hz0, hz1, hz2⟩ := info_parts info9
  refine ⟨madeCells (Value.string ⟨#[]⟩).cells (n * i0.size), by rw [size_madeCells, hz1, Nat.mul_one], fun w => ?_⟩
  have := run_make (P := Tryz.prog) w 52 9 i0 _ Tryz.underlying52 hi hz0 .i64 .i64 n n (by omega) (by omega) (by rw [hz2]; omega) (by omega)
  simpa using this

set_option maxHeartbeats 1000000 in
theorem toTexts_any (a : Option Addr) (b off n c : Nat) (L : List ByteArray) (w : World) (h : StrsIn w a b off n L) (hn : n ≤ 1048576) :
    Calls Tryz.prog 64 #[.slice a n c] w fun e w' => e = .returned (.slice (some ⟨w.heap.size, 0, none⟩) n n) ∧ OwnS w' w.heap.size (.slice (some ⟨w.heap.size, 0, none⟩) n n) L ∧ Below w.heap.size w w' ∧ w.heap.size < w'.heap.size := by
  obtain ⟨C, hC, hmk⟩ := make_texts n hn
  have HC : Hid (C.size = n) := hC
  have H : Hid (StrsIn w a b off n L) := h
  have HL : Hid (L.length = n) := h.len
  clear hC h
  go_enter Tryz.func64, Tryz.ntmps64
  go_wp2
  go_loopw [4] (fun i wr => ∃ (k : Nat) (D : Array Value), k ≤ n ∧ i = .int .i64 k ∧ D.size = n ∧ RowAt wr w.heap.size 9 D ∧ Hid (PreS D L k) ∧ Below w.heap.size w wr) (fun i _ => n - (intOf i).toNat)
  case atStart => exact ⟨0, C, by omega, rfl, HC.out, RowAt.new _ _ _, fun j hj => by omega, (Below.refl _ _).alloc (Nat.le_refl _) _⟩
  case round =>
    obtain ⟨k, D, hkn, rfl, hD, hrow, hpre, bk⟩ := hrel
    have HD : Hid (D.size = n) := hD
    have sk := bk.size
    clear hD hmk
    by_cases hlt : k < n
    · have HW := strs_below H.out bk
      have c0 := HW.cell k hlt
      obtain rfl := HW.addr (by omega)
      generalize hx' : L.getD k ByteArray.empty = m at *
      have HX : Hid (L.getD k ByteArray.empty = m) := hx'
      clear hx' HW
      have hD2 : k < D.size := by rw [HD.out]; omega
      have t0 : wr.cell? ⟨w.heap.size, k, none⟩ = some (D[k]'(by omega)) := by rw [hrow.cell]; simp
      have f0 := hrow.frozen k
      have HP : Hid _ := preS_put hpre.out hD2 HX.out
      have HR : Hid _ := hrow.set k (.string m)
      generalize D[k]'(by omega) = y0 at *
      clear hrow hpre
      go_wp2
      go_roundw
      case rel => exact ⟨k + 1, _, by omega, by go_num, by rw [Array.size_setIfInBounds, HD.out], HR.out, HP, bk.setCell (Nat.le_refl _) _⟩
      case measure => simp [intOf]; omega
    · obtain rfl : k = n := by omega
      have hl := HL.out
      have HO : Hid (OwnS wr w.heap.size (.slice (some ⟨w.heap.size, 0, none⟩) k k) L) := by
        have := rowS_owns (B := w.heap.size) hrow HD.out (by rw [HL.out]; exact hpre.out) (by omega) (by unfold maxLen; omega) (Nat.le_refl _)
        rw [HL.out] at this
        exact this
      have hlt2 := hrow.lt
      clear hrow hpre hl
      go_wp2
      go_ret
      exact ⟨rfl, HO.out, bk, hlt2⟩

/-- A value that came in: its three lists lie anywhere. -/
structure VIn (w : World) (v : Vl) (vi vp vr : Value) : Prop where
  items : ∃ a b off c, vi = .slice a v.items.length c ∧ StrsIn w a b off v.items.length v.items
  pairs : ∃ a b off c, vp = .slice a v.pairs.length c ∧ PrsIn w a b off v.pairs.length v.pairs
  ranks : ∃ a b off c, vr = .slice a v.ranks.length c ∧ RanksIn w a b off v.ranks.length v.ranks
theorem VIn.below {w w' : World} {v : Vl} {vi vp vr : Value} (h : VIn w v vi vp vr) (hb : Below w.heap.size w w') : VIn w' v vi vp vr := by
  obtain ⟨⟨a1, b1, o1, c1, e1, h1⟩, ⟨a2, b2, o2, c2, e2, h2⟩, ⟨a3, b3, o3, c3, e3, h3⟩⟩ := h
  exact ⟨⟨a1, b1, o1, c1, e1, strs_below h1 hb⟩, ⟨a2, b2, o2, c2, e2, h2.below hb⟩, ⟨a3, b3, o3, c3, e3, h3.below hb⟩⟩

/-- What a length in memory can be. -/
structure VLen (v : Vl) : Prop where
  text : v.text.size ≤ 9223372036854775807
  ni : v.items.length ≤ 9223372036854775807
  np : v.pairs.length ≤ 9223372036854775807
  nr : v.ranks.length ≤ 9223372036854775807
  pairs : ∀ i, i < v.pairs.length → (v.pairs.getD i (bz, bz)).1.size ≤ 9223372036854775807 ∧ (v.pairs.getD i (bz, bz)).2.size ≤ 9223372036854775807
  ranks : ∀ i, i < v.ranks.length → (v.ranks.getD i rk0).m.size ≤ 9223372036854775807

/-- What is told of a value by its bulk. -/
structure VGood (v : Vl) : Prop where
  fit : VFit v
  one : One v

theorem tot_mem : ∀ (T : List ByteArray) (t : ByteArray), t ∈ T → t.size ≤ Fd.tot T
  | x :: T, t, h => by
    have e : Fd.tot (x :: T) = x.size + Fd.tot T := by simp [Fd.tot]
    rw [e]
    rcases List.mem_cons.1 h with rfl | h
    · omega
    · have := tot_mem T t h; omega

theorem at5 {W : World} {g : Nat} {T : TypeId} {a b c d e : Value} (h : RowAt W g T #[a, b, c, d, e]) : W.cell? ⟨g, 0, none⟩ = some a ∧ W.cell? ⟨g, 1, none⟩ = some b ∧ W.cell? ⟨g, 2, none⟩ = some c ∧ W.cell? ⟨g, 3, none⟩ = some d ∧ W.cell? ⟨g, 4, none⟩ = some e :=
  ⟨h.cell 0, h.cell 1, h.cell 2, h.cell 3, h.cell 4⟩

abbrev lvC (k : Int) (t : ByteArray) (vi vp vr : Value) : Array Value := #[.int .i64 k, .string t, vi, vp, vr]

set_option maxHeartbeats 2000000 in
set_option maxRecDepth 100000 in
theorem szValue_any (v : Vl) (vi vp vr : Value) (left : Int) (w : World) (h : VIn w v vi vp vr) (hl : VLen v) (h0 : 0 ≤ left) (h1 : left ≤ 1048576) :
    Calls Tryz.prog 38 #[vlV v.kind v.text vi vp vr, .int .i64 left] w fun e w' => (∃ r : Int, e = .returned (.int .i64 r) ∧ (r < 0 ∨ (r ≤ left ∧ VGood v))) ∧ Below w.heap.size w w' := by
  obtain ⟨⟨a1, B1, o1, c1, e1, i1⟩, ⟨a2, B2, o2, c2, e2, i2⟩, ⟨a3, B3, o3, c3, e3, i3⟩⟩ := h
  obtain ⟨l1, l2, l3, l4, l5, l6⟩ := hl
  subst e1 e2 e3
  have HG : Hid (v.text.size ≤ 1048576 → v.items.length ≤ 1048576 → (∀ t ∈ v.items, t.size ≤ 1048576) → v.pairs.length ≤ 1048576 → v.ranks.length ≤ 1048576 → VGood v) := fun q1 q2 q3 q4 q5 => ⟨⟨q1, q2, q4, q5⟩, ⟨q2, q4, q5, q3⟩⟩
  have hw0 : Below w.heap.size w (w.alloc (.cells (lvC v.kind v.text (.slice a1 v.items.length c1) (.slice a2 v.pairs.length c2) (.slice a3 v.ranks.length c3)) 56)) := (Below.refl _ w).alloc (Nat.le_refl _) _
  have r0 := RowAt.new w 56 (lvC v.kind v.text (.slice a1 v.items.length c1) (.slice a2 v.pairs.length c2) (.slice a3 v.ranks.length c3))
  have hq : ∀ (l : Int) W, 0 ≤ l → l ≤ 1048576 → Below w.heap.size w W → Calls Tryz.prog 55 #[.slice a1 v.items.length c1, .int .i64 l] W fun e w' => (∃ r : Int, e = .returned (.int .i64 r) ∧ (r < 0 ∨ (r ≤ l ∧ v.items.length ≤ 1048576 ∧ ∀ t ∈ v.items, t.size ≤ 1048576))) ∧ w' = W := fun l W q0 q1 hb =>
    (Fd.sz_any a1 B1 o1 v.items.length c1 v.items l W (strs_fd (strs_below i1 hb)) l2 q0 (by omega)).mono fun e w' ⟨⟨r, he, hr⟩, hw⟩ => ⟨⟨r, he, by
      rcases hr with hr | hr
      · exact .inl hr
      · by_cases hr0 : r < 0
        · exact .inl hr0
        · refine .inr ⟨by omega, by omega, fun t ht => ?_⟩
          have := tot_mem v.items t ht
          omega⟩, hw⟩
  have HI : Hid _ := hq
  have HP : Hid (∀ (l : Int) W, 0 ≤ l → l ≤ 1048576 → Below w.heap.size w W → Calls Tryz.prog 56 #[.slice a2 v.pairs.length c2, .int .i64 l] W fun e w' => (∃ r : Int, e = .returned (.int .i64 r) ∧ (r < 0 ∨ (r ≤ l ∧ v.pairs.length ≤ 1048576))) ∧ Below W.heap.size W w') := fun l W q0 q1 hb => szPairS_any a2 B2 o2 _ c2 v.pairs l W (i2.below hb) l3 l5 q0 q1
  have HR : Hid (∀ (l : Int) W, 0 ≤ l → l ≤ 1048576 → Below w.heap.size w W → Calls Tryz.prog 57 #[.slice a3 v.ranks.length c3, .int .i64 l] W fun e w' => (∃ r : Int, e = .returned (.int .i64 r) ∧ (r < 0 ∨ (r ≤ l ∧ v.ranks.length ≤ 1048576))) ∧ Below W.heap.size W w') := fun l W q0 q1 hb => szRankS_any a3 B3 o3 _ c3 v.ranks l W (i3.below hb) l4 l6 q0 q1
  clear hq i1 i2 i3 l5 l6
  generalize VGood v = GOOD at *
  generalize (∀ t ∈ v.items, t.size ≤ 1048576) = TS at *
  generalize v.items.length = ni at *
  generalize v.pairs.length = np at *
  generalize v.ranks.length = nr at *
  generalize v.kind = k at *
  generalize v.text = t at *
  by_cases hneg : left - (t.size : Int) < 0
  · go_enter Tryz.func38, Tryz.ntmps38
    go_wp2
    go_ret
    exact ⟨⟨-1, rfl, .inl (by omega)⟩, hw0⟩
  · have hd0 : decide (left - (t.size : Int) < 0) = false := decide_eq_false hneg
    have hwr : IntKind.i64.wrap (left - (t.size : Int)) = left - (t.size : Int) := Kk.wrap_small (by omega) (by omega)
    obtain ⟨l, hl⟩ : ∃ l : Int, l = left - (t.size : Int) := ⟨_, rfl⟩
    have ht1 : t.size ≤ 1048576 := by omega
    have hl0 : 0 ≤ l := by omega
    have hl1 : l ≤ 1048576 := by omega
    have hll : l ≤ left := by omega
    have HL : Hid (l = left - (t.size : Int)) := hl
    obtain ⟨y0, y1, y2, y3, y4⟩ := at5 r0
    have rl := r0.lt
    clear hl
    obtain ⟨wa, hwa⟩ : ∃ wa, w.alloc (.cells (lvC k t (.slice a1 ni c1) (.slice a2 np c2) (.slice a3 nr c3)) 56) = wa := ⟨_, rfl⟩
    have HWA : Hid (w.alloc (.cells (lvC k t (.slice a1 ni c1) (.slice a2 np c2) (.slice a3 nr c3)) 56) = wa) := hwa
    rw [hwa] at hw0 r0 rl
    clear hwa y0 y1 y2 y3 y4
    go_enter Tryz.func38, Tryz.ntmps38
    go_wp2_with fail
    rw [HWA.out]
    have e0 := HL.out
    rw [← e0]
    clear e0
    refine (HI.out l wa hl0 hl1 hw0).mono ?_
    rintro e w1 ⟨⟨r1, rfl, hr1⟩, rfl⟩
    have HR1 : Hid (r1 < 0 ∨ (r1 ≤ l ∧ ni ≤ 1048576 ∧ TS)) := hr1
    obtain ⟨y0, y1, y2, y3, y4⟩ := at5 r0
    clear hr1
    by_cases hx1 : r1 < 0
    · have hxd : decide (r1 < 0) = true := decide_eq_true hx1
      go_wp2
      go_ret
      exact ⟨⟨-1, rfl, .inl (by omega)⟩, hw0⟩
    · have hxd : decide (r1 < 0) = false := decide_eq_false hx1
      have hz1 := HR1.out.resolve_left hx1
      have hz1a := hz1.1
      have HZ1 : Hid (ni ≤ 1048576 ∧ TS) := hz1.2
      clear hz1 HR1
      go_wp2_with fail
      refine (HP.out r1 w1 (by omega) (by omega) hw0).mono ?_
      rintro e w2 ⟨⟨r2, rfl, hr2⟩, b2⟩
      have HR2 : Hid (r2 < 0 ∨ (r2 ≤ r1 ∧ np ≤ 1048576)) := hr2
      have bb2 := hw0.trans (b2.mono hw0.size)
      have r02 := RowAt.below r0 b2 rl
      clear y0 y1 y2 y3 y4 hr2
      obtain ⟨y0, y1, y2, y3, y4⟩ := at5 r02
      by_cases hx2 : r2 < 0
      · have hxd2 : decide (r2 < 0) = true := decide_eq_true hx2
        go_wp2
        go_ret
        exact ⟨⟨-1, rfl, .inl (by omega)⟩, bb2⟩
      · have hxd2 : decide (r2 < 0) = false := decide_eq_false hx2
        have hz2 := HR2.out.resolve_left hx2
        have hz2a := hz2.1
        have HZ2 : Hid (np ≤ 1048576) := hz2.2
        clear hz2 HR2
        go_wp2_with fail
        refine (HR.out r2 w2 (by omega) (by omega) bb2).mono ?_
        rintro e w3 ⟨⟨r3, rfl, hr3⟩, b3⟩
        have HR3 : Hid (r3 < 0 ∨ (r3 ≤ r2 ∧ nr ≤ 1048576)) := hr3
        have bb3 := bb2.trans (b3.mono bb2.size)
        clear y0 y1 y2 y3 y4 hr3
        by_cases hx3 : r3 < 0
        · have hxd3 : decide (r3 < 0) = true := decide_eq_true hx3
          go_wp2
          go_ret
          exact ⟨⟨-1, rfl, .inl (by omega)⟩, bb3⟩
        · have hxd3 : decide (r3 < 0) = false := decide_eq_false hx3
          have hz3 := HR3.out.resolve_left hx3
          have HZ3 : Hid (r3 ≤ left ∧ GOOD) := ⟨by have := hz3.1; omega, HG.out ht1 HZ1.out.1 HZ1.out.2 HZ2.out hz3.2⟩
          clear hz3 HR3
          go_wp2
          go_ret
          exact ⟨⟨r3, rfl, .inr HZ3.out⟩, bb3⟩
end Go.Proofs.YtjgmkbldclangaaGreatDoor
