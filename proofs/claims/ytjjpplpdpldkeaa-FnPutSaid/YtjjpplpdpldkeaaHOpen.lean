/- The program opens a heap, and says whether it is right. -/
import Derived.Test.YtjjpplpdpldkeaaHImpl
namespace Go.Proofs.Ytjjpplpdpldkeaa
open Go.RowKit Go.Sort

theorem openM_stop (n : Nat) : ∀ (L : List Cl) (k : Nat) (t : Nat → Bool) (x : Cl) (r : List Cl), L.drop k = x :: r → okC n t x = false → openM n (L.drop k) t = none := fun L k t x r h hx => by
  rw [h, step_iff, hx]
  rfl

theorem drop_get {L : List Cl} {k : Nat} (h : k < L.length) : L.drop k = L.getD k cl0 :: L.drop (k + 1) := by
  rw [List.drop_eq_getElem_cons h, List.getD_eq_getElem?_getD, List.getElem?_eq_getElem h]
  rfl

/-- How the opening ends: the arena, when the heap is right. -/
def OpenEnd (w : World) (s : ByteArray) (L : List Cl) (e : Ending) (w' : World) : Prop :=
  ∃ p : Option Addr, e = .returned (.tuple #[.pointer p, .bool (implB (byteAt s) s.size L)]) ∧
    (implB (byteAt s) s.size L = true → ∃ g t, p = some ⟨g, 0, none⟩ ∧ openM s.size L (fun _ => false) = some t ∧ Opens w' g (byteAt s) t s.size L.length) ∧ Below w.heap.size w w'

set_option maxHeartbeats 4000000 in
set_option maxRecDepth 100000 in
theorem opened_any (s : ByteArray) (a : Option Addr) (b off n c : Nat) (L : List Cl) (w : World) (h : CellsIn w a b off n L) (hs : s.size ≤ 3000) (hn : n ≤ 40) (hf : ∀ i, i < n → Fit (L.getD i cl0)) :
    Calls Try.prog 25 #[.agg #[.string s, .slice a n c]] w (OpenEnd w s L) := by
  have hni : ¬ (3000 : Int) < (s.size : Int) := by omega
  have hnc : ¬ (40 : Int) < (n : Int) := by omega
  have hzv := zeroV56
  have hzs := zeros_len
  have hzn : ¬ zc56 = #[] := fun e => by rw [e] at hzs; cases hzs
  go_enter Try.func25, Try.ntmps25
  go_wp2
  have hb0 : Below w.heap.size w (w.alloc (.cells #[.string s, .slice a n c] 26)) := (Below.refl _ w).alloc (Nat.le_refl _) _
  have hn0 := RowAt.new w 26 #[.string s, .slice a n c]
  have hs0 : (w.alloc (.cells #[.string s, .slice a n c] 26)).heap.size = w.heap.size + 1 := by simp
  generalize w.alloc (.cells #[.string s, .slice a n c] 26) = w1 at *
  have ha : Arena (w1.alloc (.cells (zc56.setIfInBounds 6000 (.int .i64 (s.size : Int))) 64)) (w.heap.size + 1) (fun _ => 0) (fun _ => false) s.size (.slice none 0 0) := by
    have := Arena.new w1 s.size
    rwa [hs0] at this
  have hb1 : Below w1.heap.size w1 (w1.alloc (.cells (zc56.setIfInBounds 6000 (.int .i64 (s.size : Int))) 64)) := (Below.refl _ w1).alloc (Nat.le_refl _) _
  have hs2 : (w1.alloc (.cells (zc56.setIfInBounds 6000 (.int .i64 (s.size : Int))) 64)).heap.size = w.heap.size + 2 := by simp [hs0]
  generalize w1.alloc (.cells (zc56.setIfInBounds 6000 (.int .i64 (s.size : Int))) 64) = w2 at *
  have hbb : Below w.heap.size w w2 := hb0.trans (hb1.mono (by omega))
  have hn2 := hn0.below hb1 (by omega)
  have c0 := hn2.cell 0
  have c1 := hn2.cell 1
  simp at c0 c1
  obtain ⟨C, hr, hsz, hd, ht, hss, hc⟩ := ha.row
  generalize hG : w.heap.size + 1 = G at *
  have hcp : ∀ ty, (Builtin.copy_ #[22, 9] ty #[.slice (some ⟨G, 0, none⟩) 3000 3000, .string s]).run Try.prog w2.drew = .ok (goInt s.size) (w2.drew.setRow G (C.toList.take 0 ++ Lib.byteCells s.data.toList ++ C.toList.drop (0 + s.size)).toArray) := fun ty =>
    Lib.run_copy_row_string w2.drew 22 9 ty 5 G 0 3000 3000 s C 64 Try.underlying22 info5s hr hs (by omega)
  have hr3 : RowAt (w2.drew.setRow G (C.toList.take 0 ++ Lib.byteCells s.data.toList ++ C.toList.drop (0 + s.size)).toArray) G 64 (C.toList.take 0 ++ Lib.byteCells s.data.toList ++ C.toList.drop (0 + s.size)).toArray :=
    setRow_heap w2.drew G C _ 64 _ hr
  have ha3 := Arena.copied hsz hd ht hss hc hs hr3
  have hg3 : w2.grownBy (w2.drew.setRow G (C.toList.take 0 ++ Lib.byteCells s.data.toList ++ C.toList.drop (0 + s.size)).toArray) (some G) :=
    ⟨rfl, rfl, rfl, by simp [World.setRow], fun k _ hk => by rw [setRow_other _ _ _ _ (fun e => hk (by rw [e]))]; rfl⟩
  have HA3 : Hid (Arena (w2.drew.setRow G (C.toList.take 0 ++ Lib.byteCells s.data.toList ++ C.toList.drop (0 + s.size)).toArray) G (byteAt s) (fun _ => false) s.size (.slice none 0 0)) := ha3
  clear ha hr hsz hd ht hss hc hr3 ha3
  generalize w2.drew.setRow G (C.toList.take 0 ++ Lib.byteCells s.data.toList ++ C.toList.drop (0 + s.size)).toArray = w3 at *
  have hbx : Below w.heap.size w w3 := hbb.trans (below_of_grown hg3 (by omega) (by have := hbb.size; omega))
  have hn3 : RowAt w3 w.heap.size 26 #[.string s, .slice a n c] := (hg3.block w.heap.size hn2.lt (by simp; omega)).trans hn2
  have hs3 : w.heap.size + 2 ≤ w3.heap.size := by have := hg3.size; omega
  have HB : Hid (Below w.heap.size w w3) := hbx
  clear hbx hbb hb0 hb1
  go_region
  clear c0 c1 hn2 hcp
  have c0 := hn3.cell 0
  have c1 := hn3.cell 1
  simp at c0 c1
  have HO : Hid (openM s.size L (fun _ => false) = openM s.size (L.drop 0) (fun _ => false)) := by unfold Hid; rw [List.drop_zero]
  clear hn3
  go_wp2
  go_loopw [6, 32] (fun _ i wr => ∃ (k : Nat) (t : Nat → Bool), k ≤ n ∧ i = .int .i64 k ∧ Opens wr G (byteAt s) t s.size k ∧ Hid (openM s.size L (fun _ => false) = openM s.size (L.drop k) t) ∧ Below w.heap.size w wr) (fun _ i _ => n - (intOf i).toNat)
  case atStart => exact ⟨0, _, by omega, rfl, ⟨_, [], HA3.out, World.ownsRow_nil _ _ _ _⟩, HO, HB.out⟩
  case round =>
    obtain ⟨k, t, hk, rfl, hop, hst, bk⟩ := hrel
    clear HO HB HA3
    by_cases hlt : k < n
    · obtain rfl := h.addr (by omega)
      have hlow := h.low (by omega)
      have hnd := cl_below (h.cell k hlt) hlow bk
      have hfit := hf k hlt
      have hdr := drop_get (L := L) (k := k) (by rw [h.len]; exact hlt)
      have d0 := hnd.c0
      have d1 := hnd.c1
      have d2 := hnd.c2
      have d3 := hnd.c3
      clear hnd
      generalize L.getD k cl0 = x at *
      go_wp2_with fail
      have b4 : Below wr.heap.size wr (wr.alloc (.cells (clV x) 35)) := (Below.refl _ wr).alloc (Nat.le_refl _) _
      have hop4 : Opens (wr.alloc (.cells (clV x) 35)) G (byteAt s) t s.size k := by
        obtain ⟨cs, xs, h1, h2⟩ := hop
        exact ⟨cs, xs, h1.below b4 h1.lt, h2.alloc _⟩
      have bb4 : Below w.heap.size w (wr.alloc (.cells (clV x) 35)) := bk.trans (b4.mono bk.size)
      have hC := admit_any G s.size k (byteAt s) t x (wr.alloc (.cells (clV x) 35)) hop4 hs (by omega) hfit
      generalize wr.alloc (.cells (clV x) 35) = w4 at *
      refine hC.mono ?_
      rintro e w5 ⟨rfl, hop5, b5⟩
      have bb5 : Below w.heap.size w w5 := bb4.trans (b5.mono (by omega))
      clear hC hop4 hop
      cases hok : okC s.size t x with
      | false =>
        have HR : Hid (implB (byteAt s) s.size L = false) := by
          unfold Hid implB
          rw [hst.out, hdr, step_iff, hok]
          rfl
        clear hop5 hst hok
        go_wp2
        go_ret2
        exact ⟨none, by rw [HR.out]; rfl, (fun h => by rw [HR.out] at h; cases h), bb5⟩
      | true =>
        have HS : Hid (openM s.size L (fun _ => false) = openM s.size (L.drop (k + 1)) (takes t x)) := by
          unfold Hid
          rw [hst.out, hdr, step_iff, hok]
          rfl
        have HOp : Hid (Opens w5 G (byteAt s) (takes t x) s.size (k + 1)) := hop5 hok
        clear hop5 hst hok
        go_wp2
        go_roundw
        case rel => exact ⟨k + 1, _, by omega, by go_num, HOp.out, HS, bb5⟩
        case measure => simp [intOf]; omega
    · obtain rfl : k = n := by omega
      have hfin : openM s.size L (fun _ => false) = some t := by
        rw [hst.out, List.drop_eq_nil_of_le (by rw [h.len]; exact Nat.le_refl _)]
        rfl
      have HR : Hid (implB (byteAt s) s.size L = cleanM (byteAt s) t s.size) := by
        unfold Hid implB
        rw [hfin]
      have HOp : Hid (Opens wr G (byteAt s) t s.size L.length) := by unfold Hid; rw [h.len]; exact hop
      have HFin : Hid (openM s.size L (fun _ => false) = some t) := hfin
      obtain ⟨cs, xs, har, _⟩ := hop
      clear hst hfin
      go_wp2_with fail
      refine (clean_any G s.size (byteAt s) t cs wr har hs).mono ?_
      rintro e w6 ⟨rfl, rfl⟩
      rw [← HR.out]
      clear har
      go_wp2
      go_ret2
      exact ⟨some ⟨G, 0, none⟩, rfl, (fun _ => ⟨G, t, rfl, HFin.out, HOp.out⟩), bk⟩

theorem impl_no {d : Nat → UInt8} {n : Nat} {L : List Cl} (h : 3000 < n ∨ 40 < L.length) : (decide (n ≤ 3000 ∧ L.length ≤ 40) && implB d n L) = false := by
  rw [decide_eq_false (by omega), Bool.false_and]

/-- Is a heap right? -/
def heapB (s : ByteArray) (L : List Cl) : Bool := decide (s.size ≤ 3000 ∧ L.length ≤ 40) && implB (byteAt s) s.size L

set_option maxHeartbeats 1000000 in
theorem implOk_any (s : ByteArray) (a : Option Addr) (b off n c : Nat) (L : List Cl) (w : World) (h : CellsIn w a b off n L) (hs : s.size ≤ 1048576) (hn : n ≤ 1048576) (hf : ∀ i, i < n → Fit (L.getD i cl0)) :
    Calls Try.prog 13 #[.agg #[.string s, .slice a n c]] w fun e w' => e = .returned (.bool (heapB s L)) ∧ Below w.heap.size w w' := by
  have hb0 : Below w.heap.size w (w.alloc (.cells #[.string s, .slice a n c] 26)) := (Below.refl _ w).alloc (Nat.le_refl _) _
  have h0 := cells_below h hb0
  have hl := h.len
  by_cases hr : s.size ≤ 3000 ∧ n ≤ 40
  · have HR : Hid (heapB s L = implB (byteAt s) s.size L) := by
      unfold Hid heapB
      rw [decide_eq_true (by omega), Bool.true_and]
    have HC : Hid (Calls Try.prog 25 #[.agg #[.string s, .slice a n c]] (w.alloc (.cells #[.string s, .slice a n c] 26)) (OpenEnd (w.alloc (.cells #[.string s, .slice a n c] 26)) s L)) := opened_any s a b off n c L _ h0 hr.1 hr.2 hf
    clear h0
    go_enter Try.func13, Try.ntmps13
    go_wp2_with fail
    refine HC.out.mono ?_
    rintro e w1 ⟨p, rfl, _, b1⟩
    have bb := hb0.trans (b1.mono (by simp))
    rw [← HR.out]
    go_wp2
    go_ret
    exact ⟨rfl, bb⟩
  · have HR : Hid (heapB s L = false) := by
      unfold Hid heapB
      rw [decide_eq_false (by omega), Bool.false_and]
    have HC : Hid (∀ w, Calls Try.prog 25 #[.agg #[.string s, .slice a n c]] w fun e w' => e = .returned (.tuple #[.pointer none, .bool false]) ∧ Below w.heap.size w w') := fun w => by
      have hb : Below w.heap.size w (w.alloc (.cells #[.string s, .slice a n c] 26)) := (Below.refl _ w).alloc (Nat.le_refl _) _
      by_cases h1 : (3000 : Int) < (s.size : Int)
      · go_enter Try.func25, Try.ntmps25
        go_wp2
        go_ret2
        exact ⟨rfl, hb⟩
      · have h2 : (40 : Int) < (n : Int) := by omega
        go_enter Try.func25, Try.ntmps25
        go_wp2
        go_ret2
        exact ⟨rfl, hb⟩
    clear h0
    go_enter Try.func13, Try.ntmps13
    go_wp2_with fail
    refine (HC.out _).mono ?_
    rintro e w1 ⟨rfl, b1⟩
    have bb := hb0.trans (b1.mono (by simp))
    go_wp2
    go_ret
    exact ⟨ret_bool HR.out.symm, bb⟩
end Go.Proofs.Ytjjpplpdpldkeaa
