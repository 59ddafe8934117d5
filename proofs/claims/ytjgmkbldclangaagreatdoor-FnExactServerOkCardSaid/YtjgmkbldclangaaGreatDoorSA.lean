/- A value's copy. Keys that came in: how much they hold; their copies. -/
import Derived.Test.YtjgmkbldclangaaGreatDoorS2
namespace Go.Proofs.YtjgmkbldclangaaGreatDoor
open Go.RowKit Go.Sort
open Kk (Rk rk0 rkV RanksIn OwnR PreR FitL)

theorem owns_set {w : World} {B : Nat} {e : TypeId} {size n : Nat} {v : Value} {xs : List Value} (h : w.ownsRow B e size v n xs) {q : Addr} (hq : q.block < B) (x : Value) : (w.setCell q x).ownsRow B e size v n xs :=
  owns_block h fun g hg => by
    have := (own_lt h hg).1
    exact Below.heap_setCell _ _ _ _ (by omega)

theorem vown_set {w : World} {B : Nat} {v : Vl} {vi vp vr : Value} (h : VOwn w B v vi vp vr) {q : Addr} (hq : q.block < B) (x : Value) : VOwn (w.setCell q x) B v vi vp vr :=
  ⟨owns_set h.items hq x, owns_set h.pairs hq x, owns_set h.ranks hq x⟩

/-- Three blocks that were made one behind the other. -/
theorem three_new (w : World) (C0 C1 C2 : Array Value) (T0 T1 T2 : TypeId) : RowAt (((w.alloc (.cells C0 T0)).alloc (.cells C1 T1)).alloc (.cells C2 T2)) w.heap.size T0 C0 ∧ RowAt (((w.alloc (.cells C0 T0)).alloc (.cells C1 T1)).alloc (.cells C2 T2)) (w.heap.size + 1) T1 C1 ∧ RowAt (((w.alloc (.cells C0 T0)).alloc (.cells C1 T1)).alloc (.cells C2 T2)) (w.heap.size + 1 + 1) T2 C2 ∧ (((w.alloc (.cells C0 T0)).alloc (.cells C1 T1)).alloc (.cells C2 T2)).heap.size = w.heap.size + 1 + 1 + 1 := by
  have r2 := RowAt.new ((w.alloc (.cells C0 T0)).alloc (.cells C1 T1)) T2 C2
  have r1 := RowAt.below (RowAt.new (w.alloc (.cells C0 T0)) T1 C1) ((Below.refl _ _).alloc (Nat.le_refl _) (.cells C2 T2)) (by simp)
  have r0 := RowAt.below (RowAt.below (RowAt.new w T0 C0) ((Below.refl _ _).alloc (Nat.le_refl _) (.cells C1 T1)) (by simp)) ((Below.refl _ _).alloc (Nat.le_refl _) (.cells C2 T2)) (by simp; omega)
  simp only [World.size_alloc] at r1 r2
  exact ⟨r0, r1, r2, by simp⟩

theorem row_set_ne {w : World} {g : Nat} {T : TypeId} {C : Array Value} (h : RowAt w g T C) {q : Addr} (hq : q.block ≠ g) (x : Value) : RowAt (w.setCell q x) g T C :=
  (Below.heap_setCell _ _ _ _ (fun e => hq e.symm)).trans h

set_option maxHeartbeats 4000000 in
set_option maxRecDepth 100000 in
theorem toValue_any (v : Vl) (vi vp vr : Value) (w : World) (h : VIn w v vi vp vr) (hg : VGood v) :
    Calls Tryz.prog 44 #[vlV v.kind v.text vi vp vr] w fun e w' => ∃ xi xp xr, e = .returned (vlV v.kind v.text xi xp xr) ∧ VOwn w' w.heap.size v xi xp xr ∧ Below w.heap.size w w' := by
  obtain ⟨⟨a1, B1, o1, c1, e1, i1⟩, ⟨a2, B2, o2, c2, e2, i2⟩, ⟨a3, B3, o3, c3, e3, i3⟩⟩ := h
  subst e1 e2 e3
  have HI : Hid (∀ W, Below w.heap.size w W → Calls Tryz.prog 64 #[.slice a1 v.items.length c1] W fun e w' => e = .returned (.slice (some ⟨W.heap.size, 0, none⟩) v.items.length v.items.length) ∧ OwnS w' W.heap.size (.slice (some ⟨W.heap.size, 0, none⟩) v.items.length v.items.length) v.items ∧ Below W.heap.size W w' ∧ W.heap.size < w'.heap.size) := fun W hb => toTexts_any a1 B1 o1 _ c1 v.items W (strs_below i1 hb) hg.one.ni
  have HP : Hid (∀ W, Below w.heap.size w W → Calls Tryz.prog 65 #[.slice a2 v.pairs.length c2] W fun e w' => e = .returned (.slice (some ⟨W.heap.size, 0, none⟩) v.pairs.length v.pairs.length) ∧ OwnP w' W.heap.size (.slice (some ⟨W.heap.size, 0, none⟩) v.pairs.length v.pairs.length) v.pairs ∧ Below W.heap.size W w' ∧ W.heap.size < w'.heap.size) := fun W hb => toPairS_any a2 B2 o2 _ c2 v.pairs W (i2.below hb) hg.one.np
  have HR : Hid (∀ W, Below w.heap.size w W → Calls Tryz.prog 66 #[.slice a3 v.ranks.length c3] W fun e w' => e = .returned (.slice (some ⟨W.heap.size, 0, none⟩) v.ranks.length v.ranks.length) ∧ OwnR w' W.heap.size (.slice (some ⟨W.heap.size, 0, none⟩) v.ranks.length v.ranks.length) v.ranks ∧ Below W.heap.size W w' ∧ W.heap.size < w'.heap.size) := fun W hb => toRankS_any a3 B3 o3 _ c3 v.ranks W (i3.below hb) hg.one.nr
  clear i1 i2 i3 hg
  obtain ⟨k, t, is, ps, rs⟩ := v
  dsimp only at *
  go_enter Tryz.func44, Tryz.ntmps44
  go_wp2_with fail
  have bw : Below w.heap.size w (((w.alloc (.cells #[.int .i64 k, .string t, .slice a1 is.length c1, .slice a2 ps.length c2, .slice a3 rs.length c3] 56)).alloc (.cells #[.int .i64 0, .string ⟨#[]⟩, .slice none 0 0, .slice none 0 0, .slice none 0 0] 66)).alloc (.cells #[.int .i64 k, .string t, .slice none 0 0, .slice none 0 0, .slice none 0 0] 66)) := Go.Joins.below_alloc3 _ _ _ _
  obtain ⟨r0, r1, r2, hsz⟩ := three_new w #[.int .i64 k, .string t, .slice a1 is.length c1, .slice a2 ps.length c2, .slice a3 rs.length c3] #[.int .i64 0, .string ⟨#[]⟩, .slice none 0 0, .slice none 0 0, .slice none 0 0] #[.int .i64 k, .string t, .slice none 0 0, .slice none 0 0, .slice none 0 0] 56 66 66
  generalize (((w.alloc (.cells #[.int .i64 k, .string t, .slice a1 is.length c1, .slice a2 ps.length c2, .slice a3 rs.length c3] 56)).alloc (.cells #[.int .i64 0, .string ⟨#[]⟩, .slice none 0 0, .slice none 0 0, .slice none 0 0] 66)).alloc (.cells #[.int .i64 k, .string t, .slice none 0 0, .slice none 0 0, .slice none 0 0] 66)) = W at *
  refine (HI.out W bw).mono ?_
  rintro e w1 ⟨rfl, own1, b1, s1⟩
  have q0 := RowAt.below r0 b1 (by omega)
  have q1 := RowAt.below r1 b1 (by omega)
  have q2 := RowAt.below r2 b1 (by omega)
  have bb1 : Below w.heap.size w w1 := bw.trans (b1.mono (by omega))
  clear r0 r1 r2 b1 bw
  generalize hg1 : W.heap.size = g1 at *
  have hlo : w.heap.size + 1 + 1 + 1 ≤ g1 := by omega
  clear hg1 hsz
  -- the first list is stored
  obtain ⟨wA, hA⟩ : ∃ wA, wA = w1.setCell ⟨w.heap.size + 1 + 1, 2, none⟩ (.slice (some ⟨g1, 0, none⟩) is.length is.length) := ⟨_, rfl⟩
  have p0 : RowAt wA w.heap.size 56 #[.int .i64 k, .string t, .slice a1 is.length c1, .slice a2 ps.length c2, .slice a3 rs.length c3] := by rw [hA]; exact row_set_ne q0 (by simp only; omega) _
  have p1 : RowAt wA (w.heap.size + 1) 66 #[.int .i64 0, .string ⟨#[]⟩, .slice none 0 0, .slice none 0 0, .slice none 0 0] := by rw [hA]; exact row_set_ne q1 (by simp only; omega) _
  have p2 : RowAt wA (w.heap.size + 1 + 1) 66 #[.int .i64 k, .string t, .slice (some ⟨g1, 0, none⟩) is.length is.length, .slice none 0 0, .slice none 0 0] := by rw [hA]; exact q2.set 2 _
  have ownA : OwnS wA g1 (.slice (some ⟨g1, 0, none⟩) is.length is.length) is := by rw [hA]; exact owns_set own1 (by simp only; omega) _
  have bA : Below w.heap.size w wA := by rw [hA]; exact bb1.setCell (by simp only; omega) _
  have sA : g1 < wA.heap.size := by rw [hA]; simpa [World.setCell] using s1
  obtain ⟨y0, y1, y2, y3, y4⟩ := at5 q0
  obtain ⟨z0, z1, z2, z3, z4⟩ := at5 q2
  have z2f := q2.frozen 2
  have HA : Hid (wA = w1.setCell ⟨w.heap.size + 1 + 1, 2, none⟩ (.slice (some ⟨g1, 0, none⟩) is.length is.length)) := hA
  have HA2 : Hid (RowAt wA w.heap.size 56 #[.int .i64 k, .string t, .slice a1 is.length c1, .slice a2 ps.length c2, .slice a3 rs.length c3]) := p0
  have y3A := (at5 p0).2.2.2.1
  rw [hA] at y3A
  clear hA q0 q1 q2 bb1 own1 s1
  go_wp2_with fail
  rw [← HA.out]
  clear y0 y1 y2 y3 y4 z0 z1 z2 z3 z4 z2f y3A HA HA2
  refine (HP.out wA bA).mono ?_
  rintro e w2 ⟨rfl, own2, b2, s2⟩
  have q0 := RowAt.below p0 b2 (by omega)
  have q1 := RowAt.below p1 b2 (by omega)
  have q2 := RowAt.below p2 b2 (by omega)
  have own1 := owns_below ownA b2
  have bb2 : Below w.heap.size w w2 := bA.trans (b2.mono (by omega))
  clear p0 p1 p2 b2 bA ownA
  generalize hg2 : wA.heap.size = g2 at *
  clear hg2
  obtain ⟨wB, hB⟩ : ∃ wB, wB = w2.setCell ⟨w.heap.size + 1 + 1, 3, none⟩ (.slice (some ⟨g2, 0, none⟩) ps.length ps.length) := ⟨_, rfl⟩
  have p0 : RowAt wB w.heap.size 56 #[.int .i64 k, .string t, .slice a1 is.length c1, .slice a2 ps.length c2, .slice a3 rs.length c3] := by rw [hB]; exact row_set_ne q0 (by simp only; omega) _
  have p1 : RowAt wB (w.heap.size + 1) 66 #[.int .i64 0, .string ⟨#[]⟩, .slice none 0 0, .slice none 0 0, .slice none 0 0] := by rw [hB]; exact row_set_ne q1 (by simp only; omega) _
  have p2 : RowAt wB (w.heap.size + 1 + 1) 66 #[.int .i64 k, .string t, .slice (some ⟨g1, 0, none⟩) is.length is.length, .slice (some ⟨g2, 0, none⟩) ps.length ps.length, .slice none 0 0] := by rw [hB]; exact q2.set 3 _
  have ownA : OwnS wB g1 (.slice (some ⟨g1, 0, none⟩) is.length is.length) is := by rw [hB]; exact owns_set own1 (by simp only; omega) _
  have ownB : OwnP wB g2 (.slice (some ⟨g2, 0, none⟩) ps.length ps.length) ps := by rw [hB]; exact owns_set own2 (by simp only; omega) _
  have bB : Below w.heap.size w wB := by rw [hB]; exact bb2.setCell (by simp only; omega) _
  have sB : g2 < wB.heap.size := by rw [hB]; simpa [World.setCell] using s2
  obtain ⟨y0, y1, y2, y3, y4⟩ := at5 q0
  obtain ⟨z0, z1, z2, z3, z4⟩ := at5 q2
  have z3f := q2.frozen 3
  have HB : Hid (wB = w2.setCell ⟨w.heap.size + 1 + 1, 3, none⟩ (.slice (some ⟨g2, 0, none⟩) ps.length ps.length)) := hB
  have y4B := (at5 p0).2.2.2.2
  rw [hB] at y4B
  clear hB q0 q1 q2 bb2 own1 own2 s2
  go_wp2_with fail
  rw [← HB.out]
  clear y0 y1 y2 y3 y4 z0 z1 z2 z3 z4 z3f y4B HB
  refine (HR.out wB bB).mono ?_
  rintro e w3 ⟨rfl, own3, b3, s3⟩
  have q1 := RowAt.below p1 b3 (by omega)
  have q2 := RowAt.below p2 b3 (by omega)
  have o1 := owns_below ownA b3
  have o2 := owns_below ownB b3
  have bb3 : Below w.heap.size w w3 := bB.trans (b3.mono (by omega))
  clear p0 p1 p2 b3 bB ownA ownB
  generalize hg3 : wB.heap.size = g3 at *
  clear hg3
  have HOWN : Hid (VOwn w3 (w.heap.size + 1 + 1 + 1) ⟨k, t, is, ps, rs⟩ (.slice (some ⟨g1, 0, none⟩) is.length is.length) (.slice (some ⟨g2, 0, none⟩) ps.length ps.length) (.slice (some ⟨g3, 0, none⟩) rs.length rs.length)) := ⟨Go.Joins.ownsRow_le o1 (by omega), Go.Joins.ownsRow_le o2 (by omega), Go.Joins.ownsRow_le own3 (by omega)⟩
  obtain ⟨z0, z1, z2, z3, z4⟩ := at5 q2
  obtain ⟨x0, x1, x2, x3, x4⟩ := at5 q1
  have z4f := q2.frozen 4
  have x0f := q1.frozen 0
  have x1f := q1.frozen 1
  have x2f := q1.frozen 2
  have x3f := q1.frozen 3
  have x4f := q1.frozen 4
  clear q1 q2 o1 o2 own3
  go_wp2
  refine bodyPost_ret (v := vlV k t (.slice (some ⟨g1, 0, none⟩) is.length is.length) (.slice (some ⟨g2, 0, none⟩) ps.length ps.length) (.slice (some ⟨g3, 0, none⟩) rs.length rs.length)) (by simp [results, Tryz.results44, go_sem, x0, x1, x2, x3, x4]) rfl ⟨_, _, _, rfl, ?_, ?_⟩
  · refine vown_le (B := w.heap.size + 1 + 1 + 1) ?_ (by omega)
    repeat refine vown_set ?_ (by first | omega | (simp only; omega)) _
    exact HOWN.out
  · repeat refine Below.setCell ?_ (by first | omega | (simp only; omega)) _
    exact bb3
end Go.Proofs.YtjgmkbldclangaaGreatDoor

namespace Go.Proofs.YtjgmkbldclangaaGreatDoor
open Go.RowKit Go.Sort
open Kk (Rk rk0 rkV RanksIn OwnR PreR FitL)

theorem at7 {W : World} {g : Nat} {T : TypeId} {a b c d e f h : Value} (q : RowAt W g T #[a, b, c, d, e, f, h]) : W.cell? ⟨g, 0, none⟩ = some a ∧ W.cell? ⟨g, 1, none⟩ = some b ∧ W.cell? ⟨g, 2, none⟩ = some c ∧ W.cell? ⟨g, 3, none⟩ = some d ∧ W.cell? ⟨g, 4, none⟩ = some e ∧ W.cell? ⟨g, 5, none⟩ = some f ∧ W.cell? ⟨g, 6, none⟩ = some h :=
  ⟨q.cell 0, q.cell 1, q.cell 2, q.cell 3, q.cell 4, q.cell 5, q.cell 6⟩

structure KLen (k : Ke) : Prop where
  name : k.name.size ≤ 9223372036854775807
  val : VLen k.val
structure KGood (k : Ke) : Prop where
  name : k.name.size ≤ 1048576
  val : VGood k.val

set_option maxHeartbeats 2000000 in
set_option maxRecDepth 100000 in
theorem szKey_any (x : KV) (left : Int) (w : World) (h : VIn w x.key.val x.vi x.vp x.vr) (hl : KLen x.key) (h0 : 0 ≤ left) (h1 : left ≤ 1048576) :
    Calls Tryz.prog 21 #[kvV x, .int .i64 left] w fun e w' => (∃ r : Int, e = .returned (.int .i64 r) ∧ (r < 0 ∨ (r ≤ left ∧ KGood x.key))) ∧ Below w.heap.size w w' := by
  have hln := hl.name
  have HV : Hid (∀ (l : Int) W, 0 ≤ l → l ≤ 1048576 → Below w.heap.size w W → Calls Tryz.prog 38 #[vlV x.key.val.kind x.key.val.text x.vi x.vp x.vr, .int .i64 l] W fun e w' => (∃ r : Int, e = .returned (.int .i64 r) ∧ (r < 0 ∨ (r ≤ l ∧ VGood x.key.val))) ∧ Below W.heap.size W w') := fun l W q0 q1 hb => szValue_any x.key.val x.vi x.vp x.vr l W (h.below hb) hl.val q0 q1
  have HG : Hid (x.key.name.size ≤ 1048576 → VGood x.key.val → KGood x.key) := fun a b => ⟨a, b⟩
  clear h hl
  generalize KGood x.key = GOOD at *
  generalize VGood x.key.val = VG at *
  obtain ⟨⟨nm, ⟨kd, t, _, _, _⟩, d⟩, vi, vp, vr⟩ := x
  dsimp only at *
  have b0 : Below w.heap.size w (w.alloc (.cells #[.string nm, .int .i64 kd, .string t, vi, vp, vr, .int .i64 d] 58)) := (Below.refl _ w).alloc (Nat.le_refl _) _
  by_cases hneg : left - (nm.size : Int) < 0
  · go_enter Tryz.func21, Tryz.ntmps21
    go_wp2
    go_ret
    exact ⟨⟨-1, rfl, .inl (by omega)⟩, b0⟩
  · have hd0 : decide (left - (nm.size : Int) < 0) = false := decide_eq_false hneg
    have HVc := HV.out (left - (nm.size : Int)) _ (by omega) (by omega) b0
    obtain ⟨wa, hwa⟩ : ∃ wa, w.alloc (.cells #[.string nm, .int .i64 kd, .string t, vi, vp, vr, .int .i64 d] 58) = wa := ⟨_, rfl⟩
    have HWA : Hid (w.alloc (.cells #[.string nm, .int .i64 kd, .string t, vi, vp, vr, .int .i64 d] 58) = wa) := hwa
    rw [hwa] at b0 HVc
    clear hwa HV
    go_enter Tryz.func21, Tryz.ntmps21
    go_wp2_with fail
    rw [HWA.out]
    refine HVc.mono ?_
    rintro e w1 ⟨⟨r, rfl, hr⟩, b1⟩
    have HR : Hid (r < 0 ∨ (r ≤ left - (nm.size : Int) ∧ VG)) := hr
    have bb := b0.trans (b1.mono b0.size)
    clear hr HVc
    by_cases hx : r < 0
    · have hxd : decide (r < 0) = true := decide_eq_true hx
      go_wp2
      go_ret
      exact ⟨⟨-1, rfl, .inl (by omega)⟩, bb⟩
    · have hxd : decide (r < 0) = false := decide_eq_false hx
      have hz := HR.out.resolve_left hx
      have HZ : Hid (r ≤ left ∧ GOOD) := ⟨by have := hz.1; omega, HG.out (by omega) hz.2⟩
      clear hz HR
      go_wp2
      go_ret
      exact ⟨⟨r, rfl, .inr HZ.out⟩, bb⟩

set_option maxHeartbeats 4000000 in
set_option maxRecDepth 100000 in
theorem toKey_any (x : KV) (w : World) (h : VIn w x.key.val x.vi x.vp x.vr) (hg : VGood x.key.val) :
    Calls Tryz.prog 26 #[kvV x] w fun e w' => ∃ xi xp xr, e = .returned (kvV ⟨x.key, xi, xp, xr⟩) ∧ VOwn w' w.heap.size x.key.val xi xp xr ∧ Below w.heap.size w w' := by
  have HV : Hid (∀ W, Below w.heap.size w W → Calls Tryz.prog 44 #[vlV x.key.val.kind x.key.val.text x.vi x.vp x.vr] W fun e w' => ∃ xi xp xr, e = .returned (vlV x.key.val.kind x.key.val.text xi xp xr) ∧ VOwn w' W.heap.size x.key.val xi xp xr ∧ Below W.heap.size W w') := fun W hb => toValue_any x.key.val x.vi x.vp x.vr W (h.below hb) hg
  clear h hg
  obtain ⟨⟨nm, vl, d⟩, vi, vp, vr⟩ := x
  dsimp only at *
  show Calls Tryz.prog 26 #[.agg #[.string nm, .int .i64 vl.kind, .string vl.text, vi, vp, vr, .int .i64 d]] w fun e w' => ∃ xi xp xr, e = .returned (.agg #[.string nm, .int .i64 vl.kind, .string vl.text, xi, xp, xr, .int .i64 d]) ∧ VOwn w' w.heap.size vl xi xp xr ∧ Below w.heap.size w w'
  generalize vl.kind = kd at *
  generalize vl.text = t at *
  go_enter Tryz.func26, Tryz.ntmps26
  go_wp2_with fail
  have bw : Below w.heap.size w (((w.alloc (.cells #[.string nm, .int .i64 kd, .string t, vi, vp, vr, .int .i64 d] 58)).alloc (.cells #[.string ⟨#[]⟩, .int .i64 0, .string ⟨#[]⟩, .slice none 0 0, .slice none 0 0, .slice none 0 0, .int .i64 0] 68)).alloc (.cells #[.string nm, .int .i64 0, .string ⟨#[]⟩, .slice none 0 0, .slice none 0 0, .slice none 0 0, .int .i64 0] 68)) := Go.Joins.below_alloc3 _ _ _ _
  obtain ⟨r0, r1, r2, hsz⟩ := three_new w #[.string nm, .int .i64 kd, .string t, vi, vp, vr, .int .i64 d] #[.string ⟨#[]⟩, .int .i64 0, .string ⟨#[]⟩, .slice none 0 0, .slice none 0 0, .slice none 0 0, .int .i64 0] #[.string nm, .int .i64 0, .string ⟨#[]⟩, .slice none 0 0, .slice none 0 0, .slice none 0 0, .int .i64 0] 58 68 68
  generalize (((w.alloc (.cells #[.string nm, .int .i64 kd, .string t, vi, vp, vr, .int .i64 d] 58)).alloc (.cells #[.string ⟨#[]⟩, .int .i64 0, .string ⟨#[]⟩, .slice none 0 0, .slice none 0 0, .slice none 0 0, .int .i64 0] 68)).alloc (.cells #[.string nm, .int .i64 0, .string ⟨#[]⟩, .slice none 0 0, .slice none 0 0, .slice none 0 0, .int .i64 0] 68)) = W at *
  refine (HV.out W bw).mono ?_
  rintro e w1 ⟨xi, xp, xr, rfl, own1, b1⟩
  have q0 := RowAt.below r0 b1 (by omega)
  have q1 := RowAt.below r1 b1 (by omega)
  have q2 := RowAt.below r2 b1 (by omega)
  have bb1 : Below w.heap.size w w1 := bw.trans (b1.mono (by omega))
  obtain ⟨pa, pc, ei⟩ := owns_form own1.items
  obtain ⟨qa, qc, ep⟩ := owns_form own1.pairs
  obtain ⟨sa, sc, er⟩ := owns_form own1.ranks
  subst ei ep er
  have HOWN : Hid (VOwn w1 (w.heap.size + 1 + 1 + 1) vl (.slice pa vl.items.length pc) (.slice qa vl.pairs.length qc) (.slice sa vl.ranks.length sc)) := vown_le own1 (by omega)
  clear r0 r1 r2 b1 bw hsz own1
  generalize vl.items.length = ni at *
  generalize vl.pairs.length = np at *
  generalize vl.ranks.length = nr at *
  obtain ⟨y0, y1, y2, y3, y4, y5, y6⟩ := at7 q0
  obtain ⟨z0, z1, z2, z3, z4, z5, z6⟩ := at7 q2
  obtain ⟨x0, x1, x2, x3, x4, x5, x6⟩ := at7 q1
  have z1f := q2.frozen 1
  have z2f := q2.frozen 2
  have z3f := q2.frozen 3
  have z4f := q2.frozen 4
  have z5f := q2.frozen 5
  have z6f := q2.frozen 6
  have x0f := q1.frozen 0
  have x1f := q1.frozen 1
  have x2f := q1.frozen 2
  have x3f := q1.frozen 3
  have x4f := q1.frozen 4
  have x5f := q1.frozen 5
  have x6f := q1.frozen 6
  clear q0 q1 q2
  go_wp2
  refine bodyPost_ret (v := .agg #[.string nm, .int .i64 kd, .string t, .slice pa ni pc, .slice qa np qc, .slice sa nr sc, .int .i64 d]) (by simp [results, Tryz.results26, go_sem, x0, x1, x2, x3, x4, x5, x6]) rfl ⟨_, _, _, rfl, ?_, ?_⟩
  · refine vown_le (B := w.heap.size + 1 + 1 + 1) ?_ (by omega)
    repeat refine vown_set ?_ (by first | omega | (simp only; omega)) _
    exact HOWN.out
  · repeat refine Below.setCell ?_ (by first | omega | (simp only; omega)) _
    exact bb1
end Go.Proofs.YtjgmkbldclangaaGreatDoor
