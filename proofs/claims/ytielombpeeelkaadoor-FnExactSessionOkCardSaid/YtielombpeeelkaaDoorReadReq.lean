/- ReadRequest at this dump. -/
import Derived.Test.YtielombpeeelkaaDoorRequest
import Derived.Test.YtielombpeeelkaaDoorAtt
namespace Go.Proofs.YtielombpeeelkaaDoor
open Go.RowKit Go.Sort Go.Lib

set_option maxHeartbeats 1000000 in
theorem clos_gave (s : ByteArray) (rb pb ab : Nat) (c : Int) (w : World) (hs : s.size ≤ 2097152) (hr : Ready w) (h : RdAt w rb s 0) (hrb : 6 ≤ rb) (hp : RowAt w pb 55 #[.pointer (some ⟨rb, 0, none⟩)]) (hm : requestM s.data.toList = .inl c) :
    Calls Tryd.prog 30 #[.pointer (some ⟨pb, 0, none⟩), .pointer (some ⟨ab, 0, none⟩)] w fun e w' => e = gaveUp c ∧ w.grownBy w' (some rb) := by
  have c0 := hp.cell 0
  simp at c0
  have HC := request_any s rb w hs hr h hrb
  rw [hm] at HC
  have HC' : Hid (Calls Tryd.prog 31 #[.pointer (some ⟨rb, 0, none⟩)] w fun e w' => e = gaveUp c ∧ w.grownBy w' (some rb)) := HC
  clear HC hm
  go_enter Tryd.func30, Tryd.ntmps30
  go_wp2_with fail
  refine HC'.out.mono ?_
  rintro e w1 ⟨rfl, g1⟩
  unfold gaveUp
  go_wp2
  exact ⟨rfl, rfl, g1⟩

set_option maxHeartbeats 1000000 in
theorem clos_done (s : ByteArray) (rb pb ab : Nat) (ts : List (List UInt8)) (u : Nat) (w : World) (hs : s.size ≤ 2097152) (hr : Ready w) (h : RdAt w rb s 0) (hrb : 6 ≤ rb) (hp : RowAt w pb 55 #[.pointer (some ⟨rb, 0, none⟩)]) (ha : RowAt w ab 30 #[.slice none 0 0]) (hab : ab ≠ rb) (hm : requestM s.data.toList = .inr (ts, u)) :
    Calls Tryd.prog 30 #[.pointer (some ⟨pb, 0, none⟩), .pointer (some ⟨ab, 0, none⟩)] w fun e w' => e = .returned (.tuple #[]) ∧ ∃ v w1, w' = w1.setCell ⟨ab, 0, none⟩ v ∧ w1.ownsRow w.heap.size 9 1 v ts.length (strVals ts) ∧ RdAt w1 rb s u ∧ u ≤ s.size ∧ w.grownBy w1 (some rb) := by
  have c0 := hp.cell 0
  simp at c0
  have HC := request_any s rb w hs hr h hrb
  rw [hm] at HC
  have HC' : Hid (Calls Tryd.prog 31 #[.pointer (some ⟨rb, 0, none⟩)] w fun e w' => ∃ v, e = .returned v ∧ w'.ownsRow w.heap.size 9 1 v ts.length (strVals ts) ∧ RdAt w' rb s (0 + u) ∧ 0 + u ≤ s.size ∧ w.grownBy w' (some rb)) := HC
  clear HC hm
  go_enter Tryd.func30, Tryd.ntmps30
  go_wp2_with fail
  refine HC'.out.mono ?_
  rintro e w1 ⟨v, rfl, ho, r1, hu, g1⟩
  have a1 : RowAt w1 ab 30 #[.slice none 0 0] := (g1.block ab ha.lt (by simpa using hab)).trans ha
  have ac := a1.cell 0
  have af := a1.frozen 0
  simp at ac
  have H2 : Hid (∃ v' w1', w1.setCell ⟨ab, 0, none⟩ v = w1'.setCell ⟨ab, 0, none⟩ v' ∧ w1'.ownsRow w.heap.size 9 1 v' ts.length (strVals ts) ∧ RdAt w1' rb s u ∧ u ≤ s.size ∧ w.grownBy w1' (some rb)) := ⟨v, w1, rfl, ho, by simpa using r1, by omega, g1⟩
  obtain ⟨a, n, cp, rfl⟩ : ∃ a n cp, v = .slice a n cp := by
    rcases Joins.ownsRow_forms ho with ⟨e, _⟩ | ⟨g, cap, e⟩
    · exact ⟨_, _, _, e⟩
    · exact ⟨_, _, _, e⟩
  clear ho r1 hu g1
  go_wp2
  go_end0
  exact ⟨rfl, H2.out⟩

theorem clos_enters (caps : Array Value) (_h : caps.size = 2) : ∀ w, (callFunc 30 caps).run Tryd.prog w = .ok (.enter 30 caps) w := fun w => enters_of Tryd.func30 (by kernel_rfl) rfl caps w

/-- How a reading of a request ends. -/
def ReqEnd (w : World) : Int ⊕ (List (List UInt8) × Nat) → Ending → World → Prop
  | .inl c, e, w' => e = .returned (.tuple #[.slice none 0 0, .int .i64 0, .int .i64 c]) ∧ Below w.heap.size w w'
  | .inr (ts, u), e, w' => ∃ v, e = .returned (.tuple #[v, .int .i64 u, .int .i64 0]) ∧ w'.ownsRow w.heap.size 9 1 v ts.length (strVals ts) ∧ Below w.heap.size w w'

/-- The world in which the reading is attempted. -/
abbrev W3 (w : World) (s : ByteArray) : World :=
  (((w.alloc (.cells #[.string s, .int .i64 0] 57)).alloc (.cells #[.pointer (some ⟨w.heap.size, 0, none⟩)] 55)).alloc (.cells #[.slice none 0 0] 30))
abbrev W4 (w : World) (s : ByteArray) : World := (W3 w s).alloc (.cells #[.int .i64 0] 2)

theorem W3_size (w : World) (s : ByteArray) : (W3 w s).heap.size = w.heap.size + 3 := by simp [W3]
theorem W4_size (w : World) (s : ByteArray) : (W4 w s).heap.size = w.heap.size + 4 := by simp [W4]
theorem W4_below (w : World) (s : ByteArray) : Below w.heap.size w (W4 w s) := (Joins.below_alloc3 w _ _ _).alloc (by simp; omega) _
theorem W4_rd (w : World) (s : ByteArray) : RdAt (W4 w s) w.heap.size s 0 :=
  RowAt.below (RowAt.new w 57 #[.string s, .int .i64 0]) (Joins.below_alloc3 _ _ _ _) (by simp)
theorem W4_ptr (w : World) (s : ByteArray) : RowAt (W4 w s) (w.heap.size + 1) 55 #[.pointer (some ⟨w.heap.size, 0, none⟩)] := by
  have := RowAt.new (w.alloc (.cells #[.string s, .int .i64 0] 57)) 55 #[.pointer (some ⟨w.heap.size, 0, none⟩)]
  have h2 := RowAt.below this (Joins.below_alloc2 _ (.cells #[.slice none 0 0] 30) (.cells #[.int .i64 0] 2)) (by simp)
  simpa using h2
theorem W4_args (w : World) (s : ByteArray) : RowAt (W4 w s) (w.heap.size + 1 + 1) 30 #[.slice none 0 0] := by
  have := RowAt.new ((w.alloc (.cells #[.string s, .int .i64 0] 57)).alloc (.cells #[.pointer (some ⟨w.heap.size, 0, none⟩)] 55)) 30 #[.slice none 0 0]
  have h2 := RowAt.below this (Joins.below_alloc1 _ (.cells #[.int .i64 0] 2)) (by simp)
  simpa using h2
theorem W4_code (w : World) (s : ByteArray) : RowAt (W4 w s) (W3 w s).heap.size 2 #[.int .i64 0] := RowAt.new (W3 w s) 2 #[.int .i64 0]

theorem code_kept {w w' : World} {rb k : Nat} (hk : RowAt w k 2 #[.int .i64 0]) (hne : k ≠ rb) (hg : w.grownBy w' (some rb)) : RowAt w' k 2 #[.int .i64 0] :=
  (hg.block k hk.lt (by simpa using hne)).trans hk

theorem att_gave (s : ByteArray) (c : Int) (w : World) (hs : s.size ≤ 2097152) (hr : Ready w) (hm : requestM s.data.toList = .inl c) :
    Calls Tryd.prog 29 #[.func (.func 30) #[] #[.pointer (some ⟨w.heap.size + 1, 0, none⟩), .pointer (some ⟨w.heap.size + 1 + 1, 0, none⟩)]] (W3 w s) fun e w' => e = .returned (.int .i64 c) ∧ Below w.heap.size w w' := by
  have hb4 := W4_below w s
  have h6 := hr.six
  have hsz := W3_size w s
  refine (attempt_gave 30 _ c (W3 w s) (fun w' => (W4 w s).grownBy w' (some w.heap.size)) (clos_enters _ rfl) ?_ ?_).mono ?_
  · intro w' hg
    have hk := code_kept (W4_code w s) (by omega) hg
    exact ⟨by simpa using hk.cell 0, hk.frozen 0⟩
  · exact clos_gave s w.heap.size (w.heap.size + 1) (w.heap.size + 1 + 1) c (W4 w s) hs (hr.below (hb4.mono h6)) (W4_rd w s) h6 (W4_ptr w s) hm
  · rintro e w' ⟨rfl, w1, hg, rfl⟩
    refine ⟨rfl, ?_⟩
    exact (hb4.trans (below_of_grown hg (Nat.le_refl _) (by rw [W4_size]; omega))).setCell (by rw [hsz]; simp) _

set_option maxHeartbeats 1000000 in
theorem readReq_gave (s : ByteArray) (c : Int) (hc : c ≠ 0) (w : World) (hs : s.size ≤ 2097152) (hr : Ready w) (hm : requestM s.data.toList = .inl c) :
    Calls Tryd.prog 11 #[.string s] w fun e w' => ReqEnd w (.inl c) e w' := by
  have hmf : ∀ (fn : Fn) (first cap : Array Value) (w : World), (Instr.makeFunc fn first cap).run Tryd.prog w = .ok (.func fn first cap) w := fun _ _ _ _ => rfl
  have hcz : (c != 0) = true := by simpa using hc
  have HM : Hid (requestM s.data.toList = .inl c) := hm
  clear hm
  go_enter Tryd.func11, Tryd.ntmps11
  go_wp2_with fail
  refine (att_gave s c w hs hr HM.out).mono ?_
  rintro e w1 ⟨rfl, b1⟩
  go_wp2
  go_ret3
  exact ⟨rfl, b1⟩

theorem att_done (s : ByteArray) (ts : List (List UInt8)) (u : Nat) (w : World) (hs : s.size ≤ 2097152) (hr : Ready w) (hm : requestM s.data.toList = .inr (ts, u)) :
    Calls Tryd.prog 29 #[.func (.func 30) #[] #[.pointer (some ⟨w.heap.size + 1, 0, none⟩), .pointer (some ⟨w.heap.size + 1 + 1, 0, none⟩)]] (W3 w s) fun e w' => e = .returned (.int .i64 0) ∧ ∃ v, RdAt w' w.heap.size s u ∧ RowAt w' (w.heap.size + 1) 55 #[.pointer (some ⟨w.heap.size, 0, none⟩)] ∧ RowAt w' (w.heap.size + 1 + 1) 30 #[v] ∧ w'.ownsRow w.heap.size 9 1 v ts.length (strVals ts) ∧ u ≤ s.size ∧ Below w.heap.size w w' := by
  have hb4 := W4_below w s
  have h6 := hr.six
  have hsz := W3_size w s
  have hsz4 := W4_size w s
  refine (attempt_done 30 _ (W3 w s) (fun w' => ∃ v w1, w' = w1.setCell ⟨w.heap.size + 1 + 1, 0, none⟩ v ∧ w1.ownsRow (W4 w s).heap.size 9 1 v ts.length (strVals ts) ∧ RdAt w1 w.heap.size s u ∧ u ≤ s.size ∧ (W4 w s).grownBy w1 (some w.heap.size)) (clos_enters _ rfl) ?_ ?_).mono ?_
  · rintro w' ⟨v, w1, rfl, _, _, _, hg⟩
    have hk := code_kept (W4_code w s) (by omega) hg
    have hk' : RowAt (w1.setCell ⟨w.heap.size + 1 + 1, 0, none⟩ v) (W3 w s).heap.size 2 #[.int .i64 0] := (Below.heap_setCell _ _ _ _ (by simp only; omega)).trans hk
    exact ⟨by simpa using hk'.cell 0, hk'.frozen 0⟩
  · exact clos_done s w.heap.size (w.heap.size + 1) (w.heap.size + 1 + 1) ts u (W4 w s) hs (hr.below (hb4.mono h6)) (W4_rd w s) h6 (W4_ptr w s) (W4_args w s) (by omega) hm
  · rintro e w' ⟨rfl, w1, ⟨v, w0, rfl, ho, hrd, hu, hg⟩, rfl⟩
    refine ⟨rfl, v, ?_, ?_, ?_, ?_, hu, ?_⟩
    · exact (Below.heap_setCell _ _ _ _ (by simp only; omega)).trans ((Below.heap_setCell _ _ _ _ (by simp only; omega)).trans hrd)
    · exact (Below.heap_setCell _ _ _ _ (by simp only; omega)).trans ((Below.heap_setCell _ _ _ _ (by simp only; omega)).trans ((hg.block _ (by rw [hsz4]; omega) (by simp)).trans (W4_ptr w s)))
    · have a0 : RowAt w0 (w.heap.size + 1 + 1) 30 #[.slice none 0 0] := (hg.block _ (by rw [hsz4]; omega) (by simp; omega)).trans (W4_args w s)
      have a1 : RowAt (w0.setCell ⟨w.heap.size + 1 + 1, 0, none⟩ v) (w.heap.size + 1 + 1) 30 #[v] := by simpa using a0.set 0 v
      exact (Below.heap_setCell _ _ _ _ (by simp only; omega)).trans a1
    · have o1 : w0.ownsRow (w.heap.size + 4) 9 1 v ts.length (strVals ts) := by rw [← hsz4]; exact ho
      exact Joins.ownsRow_le (ownsRow_setCell_below (ownsRow_setCell_below o1 (by simp only; omega) _) (by simp only; omega) _) (by omega)
    · exact ((hb4.trans (below_of_grown hg (Nat.le_refl _) (by rw [W4_size]; omega))).setCell (by simp only; omega) _).setCell (by rw [hsz]; simp) _

set_option maxHeartbeats 1000000 in
theorem readReq_done (s : ByteArray) (ts : List (List UInt8)) (u : Nat) (w : World) (hs : s.size ≤ 2097152) (hr : Ready w) (hm : requestM s.data.toList = .inr (ts, u)) :
    Calls Tryd.prog 11 #[.string s] w fun e w' => ReqEnd w (.inr (ts, u)) e w' := by
  have hmf : ∀ (fn : Fn) (first cap : Array Value) (w : World), (Instr.makeFunc fn first cap).run Tryd.prog w = .ok (.func fn first cap) w := fun _ _ _ _ => rfl
  have HM : Hid (requestM s.data.toList = .inr (ts, u)) := hm
  clear hm
  go_enter Tryd.func11, Tryd.ntmps11
  go_wp2_with fail
  refine (att_done s ts u w hs hr HM.out).mono ?_
  rintro e w1 ⟨rfl, v, hrd, hp, hv, ho, hu, b1⟩
  have c1 := hrd.cell 1
  have c2 := hp.cell 0
  have c3 := hv.cell 0
  simp at c1 c2 c3
  have H2 : Hid (w1.ownsRow w.heap.size 9 1 v ts.length (strVals ts)) := ho
  obtain ⟨a, n, cp, rfl⟩ : ∃ a n cp, v = .slice a n cp := by
    rcases Joins.ownsRow_forms ho with ⟨e, _⟩ | ⟨g, cap, e⟩
    · exact ⟨_, _, _, e⟩
    · exact ⟨_, _, _, e⟩
  clear ho
  go_wp2
  go_quiet ((fail))
  go_wp2
  go_ret3
  exact ⟨_, rfl, H2.out, below_drewN b1 _⟩
end Go.Proofs.YtielombpeeelkaaDoor
