/- The specification's Drop: the bytes and the copied cells, in whatever order Go makes them. -/
import Derived.Test.YtjjpplpdpldkeaaHDropM
import Derived.Test.YtjjpplpdpldkeaaHInv
namespace Go.Proofs.Ytjjpplpdpldkeaa
open Go.RowKit Go.Sort

theorem lt_on {l : Array Bool} {i : Nat} (h : l.getD i false = true) : i < l.size := by
  by_cases hi : i < l.size
  · exact hi
  · rw [Array.getD_eq_getD_getElem?, Array.getElem?_eq_none (by omega)] at h
    cases h

/-- So many bytes 0, in a row of their own. -/
def ZerosAt (w : World) (M W : Nat) : Prop := ∃ C : Array Value, RowAt w M 5 C ∧ ∀ j, j < W → C[j]? = some (.int .u8 0)

/-- What holds of the world, by what has come up. -/
structure DropF (w4 : World) (n W : Nat) (L : List Cl) (D : ByteArray) (l : Array Bool) (M B Z A cap : Nat) (w : World) : Prop where
  below : Below w4.heap.size w4 w
  m : l.getD 7 false = true → ZerosAt w M W
  b : l.getD 19 false = true → l.getD 22 false = false → RowAt w B 35 #[] ∧ w4.heap.size ≤ B
  a : l.getD 22 false = true → w.ownsRow w4.heap.size 35 4 (.slice (some ⟨A, 0, none⟩) n cap) n (flatC L)
  z : l.getD 24 false = true → l.getD 25 false = false → RowAt w Z 26 #[.string ⟨#[]⟩, .slice none 0 0] ∧ w4.heap.size ≤ Z
  st : l.getD 25 false = true → RowAt w Z 26 #[.string D, .slice (some ⟨A, 0, none⟩) n cap] ∧ w4.heap.size ≤ Z
  o23 : l.getD 23 false = true → l.getD 22 false = true
  o25 : l.getD 25 false = true → l.getD 23 false = true
  p25 : l.getD 25 false = true → l.getD 24 false = true

theorem DropF.plain {w4 : World} {n W : Nat} {L : List Cl} {D : ByteArray} {l : Array Bool} {M B Z A cap : Nat} {w : World} (h : DropF w4 n W L D l M B Z A cap w) (i : Nat) (h7 : i ≠ 7) (h19 : i ≠ 19) (h22 : i ≠ 22) (h23 : i ≠ 23) (h24 : i ≠ 24) (h25 : i ≠ 25) : DropF w4 n W L D (l.setIfInBounds i true) M B Z A cap w := by
  refine ⟨h.below, ?_, ?_, ?_, ?_, ?_, ?_, ?_, ?_⟩
  all_goals simp only [getD_set_ne h7, getD_set_ne h19, getD_set_ne h22, getD_set_ne h23, getD_set_ne h24, getD_set_ne h25]
  · exact h.m
  · exact h.b
  · exact h.a
  · exact h.z
  · exact h.st
  · exact h.o23
  · exact h.o25
  · exact h.p25

theorem ZerosAt.below {w w' : World} {M W : Nat} (h : ZerosAt w M W) (hb : Below w.heap.size w w') : ZerosAt w' M W := by
  obtain ⟨C, hr, hc⟩ := h
  exact ⟨C, hr.below hb hr.lt, hc⟩

/-- One more block. -/
theorem DropF.more {w4 : World} {n W : Nat} {L : List Cl} {D : ByteArray} {l : Array Bool} {M B Z A cap : Nat} {w : World} (h : DropF w4 n W L D l M B Z A cap w) (o : Obj) : DropF w4 n W L D l M B Z A cap (w.alloc o) := by
  have hb : Below w.heap.size w (w.alloc o) := (Below.refl _ w).alloc (Nat.le_refl _) _
  exact ⟨h.below.alloc h.below.size _, fun x => (h.m x).below hb, fun x y => ⟨(h.b x y).1.below hb (h.b x y).1.lt, (h.b x y).2⟩, fun x => owns_below (h.a x) hb, fun x y => ⟨(h.z x y).1.below hb (h.z x y).1.lt, (h.z x y).2⟩, fun x => ⟨(h.st x).1.below hb (h.st x).1.lt, (h.st x).2⟩, h.o23, h.o25, h.p25⟩

section
variable {w4 : World} {n W : Nat} {L : List Cl} {D : ByteArray} {l : Array Bool} {M B Z A cap : Nat} {w : World}

theorem DropF.made (h0 : DropF w4 n W L D l M B Z A cap w) {C : Array Value} (hC : ∀ j, j < W → C[j]? = some (.int .u8 0)) : DropF w4 n W L D (l.setIfInBounds 7 true) w.heap.size B Z A cap (w.alloc (.cells C 5)) := by
  have h := h0.more (.cells C 5)
  refine ⟨h.below, fun _ => ⟨C, RowAt.new _ _ _, hC⟩, ?_, ?_, ?_, ?_, ?_, ?_, ?_⟩
  all_goals simp only [getD_set_ne (show 7 ≠ 19 by decide), getD_set_ne (show 7 ≠ 22 by decide), getD_set_ne (show 7 ≠ 23 by decide), getD_set_ne (show 7 ≠ 24 by decide), getD_set_ne (show 7 ≠ 25 by decide)]
  · exact h.b
  · exact h.a
  · exact h.z
  · exact h.st
  · exact h.o23
  · exact h.o25
  · exact h.p25

theorem DropF.built (h0 : DropF w4 n W L D l M B Z A cap w) : DropF w4 n W L D (l.setIfInBounds 19 true) M w.heap.size Z A cap (w.alloc (.cells #[] 35)) := by
  have h := h0.more (.cells #[] 35)
  refine ⟨h.below, ?_, fun _ _ => ⟨RowAt.new _ _ _, h0.below.size⟩, ?_, ?_, ?_, ?_, ?_, ?_⟩
  all_goals simp only [getD_set_ne (show 19 ≠ 7 by decide), getD_set_ne (show 19 ≠ 22 by decide), getD_set_ne (show 19 ≠ 23 by decide), getD_set_ne (show 19 ≠ 24 by decide), getD_set_ne (show 19 ≠ 25 by decide)]
  · exact h.m
  · exact h.a
  · exact h.z
  · exact h.st
  · exact h.o23
  · exact h.o25
  · exact h.p25

theorem DropF.room (h0 : DropF w4 n W L D l M B Z A cap w) (ho : l.getD 24 false = false) : DropF w4 n W L D (l.setIfInBounds 24 true) M B w.heap.size A cap (w.alloc (.cells #[.string ⟨#[]⟩, .slice none 0 0] 26)) := by
  have h := h0.more (.cells #[.string ⟨#[]⟩, .slice none 0 0] 26)
  have h25 : l.getD 25 false = false := by
    cases hx : l.getD 25 false with
    | false => rfl
    | true => rw [h0.p25 hx] at ho; cases ho
  refine ⟨h.below, ?_, ?_, ?_, fun _ _ => ⟨RowAt.new _ _ _, h0.below.size⟩, ?_, ?_, ?_, ?_⟩
  all_goals simp only [getD_set_ne (show 24 ≠ 7 by decide), getD_set_ne (show 24 ≠ 19 by decide), getD_set_ne (show 24 ≠ 22 by decide), getD_set_ne (show 24 ≠ 23 by decide), getD_set_ne (show 24 ≠ 25 by decide)]
  · exact h.m
  · exact h.b
  · exact h.a
  · intro hx; rw [h25] at hx; cases hx
  · exact h.o23
  · exact h.o25
  · intro hx; rw [h25] at hx; cases hx

theorem DropF.off23 (h0 : DropF w4 n W L D l M B Z A cap w) (ho : l.getD 22 false = false) : l.getD 23 false = false := by
  cases hx : l.getD 23 false with
  | false => rfl
  | true => rw [h0.o23 hx] at ho; cases ho

theorem DropF.app (h : DropF w4 n W L D l M B Z A cap w) (ho : l.getD 22 false = false) (hl : 22 < l.size) {w' : World} {A' cap' : Nat} (hB : RowAt w B 35 #[] ∧ w4.heap.size ≤ B) (hown : w'.ownsRow w4.heap.size 35 4 (.slice (some ⟨A', 0, none⟩) n cap') n (flatC L)) (hg : w.grownBy w' (some B)) :
    DropF w4 n W L D (l.setIfInBounds 22 true) M B Z A' cap' w' := by
  have h23 := h.off23 ho
  have h25 : l.getD 25 false = false := by
    cases hx : l.getD 25 false with
    | false => rfl
    | true => rw [h.o25 hx] at h23; cases h23
  have hkeep : ∀ {p T : Nat} {C : Array Value}, RowAt w p T C → T ≠ 35 → RowAt w' p T C := fun {p T C} hr hT => (hg.block p hr.lt (fun e => hT (by have e := Option.some.inj e; subst e; exact row_type hr hB.1))).trans hr
  refine ⟨below_grown h.below hg (fun y hy => by have := Option.some.inj hy; omega) h.below.size, ?_, ?_, fun _ => hown, ?_, ?_, ?_, ?_, ?_⟩
  all_goals simp only [getD_set_ne (show 22 ≠ 7 by decide), getD_set_ne (show 22 ≠ 19 by decide), getD_set_self hl, getD_set_ne (show 22 ≠ 23 by decide), getD_set_ne (show 22 ≠ 24 by decide), getD_set_ne (show 22 ≠ 25 by decide)]
  · intro hx
    obtain ⟨C, hr, hc⟩ := h.m hx
    exact ⟨C, hkeep hr (by decide), hc⟩
  · intro _ hx; cases hx
  · intro hx hy
    exact ⟨hkeep (h.z hx hy).1 (by decide), (h.z hx hy).2⟩
  · intro hx; rw [h25] at hx; cases hx
  · intro _; trivial
  · exact h.o25
  · exact h.p25

theorem DropF.laid (h : DropF w4 n W L D l M B Z A cap w) (d22 : l.getD 22 false = true) : DropF w4 n W L D (l.setIfInBounds 23 true) M B Z A cap w := by
  refine ⟨h.below, ?_, ?_, ?_, ?_, ?_, ?_, ?_, ?_⟩
  all_goals simp only [getD_set_ne (show 23 ≠ 7 by decide), getD_set_ne (show 23 ≠ 19 by decide), getD_set_ne (show 23 ≠ 22 by decide), getD_set_ne (show 23 ≠ 24 by decide), getD_set_ne (show 23 ≠ 25 by decide)]
  · exact h.m
  · exact h.b
  · exact h.a
  · exact h.z
  · exact h.st
  · exact fun _ => d22
  · intro hx
    have := lt_on (h.o25 hx)
    exact getD_set_self this
  · exact h.p25

theorem DropF.stored (h : DropF w4 n W L D l M B Z A cap w) (d22 : l.getD 22 false = true) (d23 : l.getD 23 false = true) (d24 : l.getD 24 false = true) (ho : l.getD 25 false = false) (hl : 25 < l.size) :
    DropF w4 n W L D (l.setIfInBounds 25 true) M B Z A cap ((w.setCell ⟨Z, 0, none⟩ (.string D)).setCell ⟨Z, 1, none⟩ (.slice (some ⟨A, 0, none⟩) n cap)) := by
  obtain ⟨hz, hZ⟩ := h.z d24 ho
  have hne := own_ne (h.a d22) hz (by decide)
  have ho2 := ownsRow_setCell_other (ownsRow_setCell_other (h.a d22) (a := ⟨Z, 0, none⟩) (fun e => hne e.symm) (.string D)) (a := ⟨Z, 1, none⟩) (fun e => hne e.symm) (.slice (some ⟨A, 0, none⟩) n cap)
  refine ⟨(h.below.setCell (p := ⟨Z, 0, none⟩) hZ _).setCell (p := ⟨Z, 1, none⟩) hZ _, ?_, ?_, fun _ => ho2, ?_, fun _ => ⟨row_ret hz rfl, hZ⟩, ?_, ?_, ?_⟩
  · rw [getD_set_ne (show 25 ≠ 7 by decide)]
    intro hx
    obtain ⟨C, hr, hc⟩ := h.m hx
    have hMZ : M ≠ Z := fun e => by subst e; exact absurd (row_type hr hz) (by decide)
    exact ⟨C, (Below.heap_setCell _ _ _ _ (by simpa using hMZ)).trans ((Below.heap_setCell _ _ _ _ (by simpa using hMZ)).trans hr), hc⟩
  · rw [getD_set_ne (show 25 ≠ 22 by decide), d22]
    intro _ hx; cases hx
  · intro _ hx
    rw [getD_set_self hl] at hx
    cases hx
  · rw [getD_set_ne (show 25 ≠ 22 by decide)]; exact fun _ => d22
  · rw [getD_set_ne (show 25 ≠ 23 by decide)]; exact fun _ => d23
  · rw [getD_set_ne (show 25 ≠ 24 by decide)]; exact fun _ => d24
end

/-- The slots, by what has come up. -/
def dropAct (s : ByteArray) (ws q3 b off n c k P W : Nat) (rg gn : Int) (lv : Bool) (l : Array Bool) (M B Z A cap : Nat) : Act :=
  { tmps := #[.agg #[.string s, .slice (some ⟨b, off, none⟩) n c], refV k rg, .pointer (some ⟨ws, 0, none⟩), .pointer (some ⟨(ws + 1), 0, none⟩), .pointer (some ⟨(ws + 1 + 1), 0, none⟩), .bool false, .pointer (some ⟨q3, 0, none⟩), sl l 24 (.pointer (some ⟨Z, 0, none⟩)), .agg #[.string s, .slice (some ⟨b, off, none⟩) n c], .bool true, .bool false, .bool false, .agg #[.string s, .slice (some ⟨b, off, none⟩) n c], .agg #[.int .i64 k, .int .i64 rg], .bool true, .bool false, .bool false, undef, .pointer (some ⟨ws, 1, none⟩), .slice (some ⟨b, off, none⟩) n c, .pointer (some ⟨(ws + 1), 0, none⟩), .int .i64 k, .pointer (some ⟨b, off + k * 4, none⟩), .agg #[.int .i64 P, .int .i64 W, .int .i64 gn, .bool lv], sl l 0 (.pointer (some ⟨ws, 0, none⟩)), sl l 1 (.string s), sl l 2 (.pointer (some ⟨q3, 0, none⟩)), sl l 3 (.int .i64 (P : Int)), sl l 4 (.string (s.extract 0 P)), sl l 5 (.pointer (some ⟨q3, 1, none⟩)), sl l 6 (.int .i64 (W : Int)), sl l 7 (.slice (some ⟨M, 0, none⟩) W W), sl l 8 (.string (dataZ W)), sl l 9 (.string (s.extract 0 P ++ dataZ W)), sl l 10 (.pointer (some ⟨ws, 0, none⟩)), sl l 11 (.string s), sl l 12 (.pointer (some ⟨q3, 0, none⟩)), sl l 13 (.int .i64 (P : Int)), sl l 14 (.pointer (some ⟨q3, 1, none⟩)), sl l 15 (.int .i64 (W : Int)), sl l 16 (.int .i64 ((P : Int) + (W : Int))), sl l 17 (.string (s.extract (P + W) s.size)), sl l 18 (.string (s.extract 0 P ++ dataZ W ++ s.extract (P + W) s.size)), sl l 19 (.slice (some ⟨B, 0, none⟩) 0 0), sl l 20 (.pointer (some ⟨ws, 1, none⟩)), sl l 21 (.slice (some ⟨b, off, none⟩) n c), sl l 22 (.slice (some ⟨A, 0, none⟩) n cap), sl l 23 (.agg #[.string (s.extract 0 P ++ dataZ W ++ s.extract (P + W) s.size), .slice (some ⟨A, 0, none⟩) n cap]), undef, undef, undef, undef, undef, undef, undef, undef, undef], defers := [] }
end Go.Proofs.Ytjjpplpdpldkeaa
