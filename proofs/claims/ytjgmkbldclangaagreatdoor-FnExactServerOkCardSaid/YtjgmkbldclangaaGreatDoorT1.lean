/- A server that came in: how much it holds; its copy; held against another. -/
import Derived.Test.YtjgmkbldclangaaGreatDoorS9
namespace Go.Proofs.YtjgmkbldclangaaGreatDoor
open Go.RowKit Go.Sort
open _root_.Go.Proofs.YtjgmkbldclangaaGreatDoor.Fd (ListsB ListsU SmallQ sessV sessB)

/-- A server that came in. -/
structure SvIn (w : World) (a1 : Option Addr) (n1 : Nat) (a2 : Option Addr) (n2 : Nat) (L : List KV) (C : List CV) : Prop where
  keys : ∃ b off, KeysIn w a1 b off n1 L
  cls : ∃ b off, ClsIn w a2 b off n2 C
theorem SvIn.below {w w' : World} {a1 a2 : Option Addr} {n1 n2 : Nat} {L : List KV} {C : List CV} (h : SvIn w a1 n1 a2 n2 L C) (hb : Below w.heap.size w w') : SvIn w' a1 n1 a2 n2 L C := by
  obtain ⟨⟨b, o, h1⟩, ⟨b', o', h2⟩⟩ := h
  exact ⟨⟨b, o, h1.below hb⟩, ⟨b', o', h2.below hb⟩⟩

structure SvLen (n1 n2 : Nat) (L : List KV) (C : List CV) : Prop where
  len1 : n1 ≤ 9223372036854775807
  len2 : n2 ≤ 9223372036854775807
  keys : ∀ i, i < n1 → KLen (L.getD i kv0).key
  cls : ∀ i, i < n2 → ClLen (C.getD i cv0).cl
structure SvGood (n1 n2 : Nat) (L : List KV) (C : List CV) : Prop where
  len1 : n1 ≤ 1048576
  len2 : n2 ≤ 1048576
  keys : ∀ i, i < n1 → KGood (L.getD i kv0).key
  cls : ∀ i, i < n2 → ClGood (C.getD i cv0).cl

set_option maxHeartbeats 2000000 in
set_option maxRecDepth 100000 in
theorem szServer_any (a1 a2 : Option Addr) (n1 n2 c1 c2 : Nat) (now : Int) (L : List KV) (C : List CV) (w : World) (h : SvIn w a1 n1 a2 n2 L C) (hl : SvLen n1 n2 L C) :
    Calls Tryz.prog 4 #[.agg #[.slice a1 n1 c1, .int .i64 now, .slice a2 n2 c2], .int .i64 1048576] w fun e w' => (∃ r : Int, e = .returned (.int .i64 r) ∧ (r < 0 ∨ SvGood n1 n2 L C)) ∧ Below w.heap.size w w' := by
  obtain ⟨⟨B1, o1, i1⟩, ⟨B2, o2, i2⟩⟩ := h
  have HK : Hid (∀ W, Below w.heap.size w W → Calls Tryz.prog 9 #[.slice a1 n1 c1, .int .i64 1048576] W fun e w' => (∃ r : Int, e = .returned (.int .i64 r) ∧ (r < 0 ∨ (r ≤ 1048576 ∧ n1 ≤ 1048576 ∧ ∀ i, i < n1 → KGood (L.getD i kv0).key))) ∧ Below W.heap.size W w') := fun W hb => szKeyS_any a1 B1 o1 n1 c1 L 1048576 W (i1.below hb) hl.len1 hl.keys (by omega) (by omega)
  have HC : Hid (∀ (l : Int) W, 0 ≤ l → l ≤ 1048576 → Below w.heap.size w W → Calls Tryz.prog 10 #[.slice a2 n2 c2, .int .i64 l] W fun e w' => (∃ r : Int, e = .returned (.int .i64 r) ∧ (r < 0 ∨ (r ≤ l ∧ n2 ≤ 1048576 ∧ ∀ i, i < n2 → ClGood (C.getD i cv0).cl))) ∧ Below W.heap.size W w') := fun l W q0 q1 hb => szClientS_any a2 B2 o2 n2 c2 C l W (i2.below hb) hl.len2 hl.cls q0 q1
  have HG : Hid ((n1 ≤ 1048576 ∧ ∀ i, i < n1 → KGood (L.getD i kv0).key) → (n2 ≤ 1048576 ∧ ∀ i, i < n2 → ClGood (C.getD i cv0).cl) → SvGood n1 n2 L C) := fun a b => ⟨a.1, b.1, a.2, b.2⟩
  clear i1 i2 hl
  generalize SvGood n1 n2 L C = GOOD at *
  generalize (n1 ≤ 1048576 ∧ ∀ i, i < n1 → KGood (L.getD i kv0).key) = G1 at *
  generalize (n2 ≤ 1048576 ∧ ∀ i, i < n2 → ClGood (C.getD i cv0).cl) = G2 at *
  have b0 : Below w.heap.size w (w.alloc (.cells #[.slice a1 n1 c1, .int .i64 now, .slice a2 n2 c2] 25)) := (Below.refl _ w).alloc (Nat.le_refl _) _
  have r0 := RowAt.new w 25 #[.slice a1 n1 c1, .int .i64 now, .slice a2 n2 c2]
  obtain ⟨wa, hwa⟩ : ∃ wa, w.alloc (.cells #[.slice a1 n1 c1, .int .i64 now, .slice a2 n2 c2] 25) = wa := ⟨_, rfl⟩
  have HWA : Hid (w.alloc (.cells #[.slice a1 n1 c1, .int .i64 now, .slice a2 n2 c2] 25) = wa) := hwa
  rw [hwa] at b0 r0
  clear hwa
  go_enter Tryz.func4, Tryz.ntmps4
  go_wp2_with fail
  rw [HWA.out]
  refine (HK.out wa b0).mono ?_
  rintro e w1 ⟨⟨r, rfl, hr⟩, b1⟩
  have HR : Hid (r < 0 ∨ (r ≤ 1048576 ∧ G1)) := hr
  have bb := b0.trans (b1.mono b0.size)
  obtain ⟨y0, y1, y2⟩ := at3 (RowAt.below r0 b1 r0.lt)
  clear hr HK
  by_cases hx : r < 0
  · have hxd : decide (r < 0) = true := decide_eq_true hx
    go_wp2
    go_ret
    exact ⟨⟨-1, rfl, .inl (by omega)⟩, bb⟩
  · have hxd : decide (r < 0) = false := decide_eq_false hx
    have hz := HR.out.resolve_left hx
    have hz1 := hz.1
    have HZ : Hid G1 := hz.2
    have hCc := HC.out r w1 (by omega) hz1 bb
    clear hz HR
    go_wp2_with fail
    refine hCc.mono ?_
    rintro e w2 ⟨⟨r2, rfl, hr2⟩, b2⟩
    have HR2 : Hid (r2 < 0 ∨ (r2 ≤ r ∧ G2)) := hr2
    have bb2 := bb.trans (b2.mono bb.size)
    clear hr2 hCc y0 y1 y2
    by_cases hx2 : r2 < 0
    · have hxd2 : decide (r2 < 0) = true := decide_eq_true hx2
      go_wp2
      go_ret
      exact ⟨⟨-1, rfl, .inl (by omega)⟩, bb2⟩
    · have hxd2 : decide (r2 < 0) = false := decide_eq_false hx2
      have HZ2 : Hid GOOD := HG.out HZ.out (HR2.out.resolve_left hx2).2
      clear HR2
      go_wp2
      go_ret
      exact ⟨⟨r2, rfl, .inr HZ2.out⟩, bb2⟩

/-- A server's copy. -/
structure SvCopy (w : World) (b1 b2 n1 n2 : Nat) (A : List KV) (D : List CV) (L : List KV) (C : List CV) : Prop where
  db : DbAt w (some ⟨b1, 0, none⟩) b1 n1 A
  cls : ClsIn w (some ⟨b2, 0, none⟩) b2 0 n2 D
  key : ∀ i, i < n1 → (A.getD i kv0).key = (L.getD i kv0).key
  cl : ∀ i, i < n2 → (D.getD i cv0).cl = (C.getD i cv0).cl
theorem SvCopy.below {w w' : World} {b1 b2 n1 n2 : Nat} {A L : List KV} {D C : List CV} (h : SvCopy w b1 b2 n1 n2 A D L C) (hb : Below w.heap.size w w') : SvCopy w' b1 b2 n1 n2 A D L C :=
  ⟨h.db.below hb, h.cls.below hb, h.key, h.cl⟩

set_option maxHeartbeats 4000000 in
set_option maxRecDepth 100000 in
theorem toServer_any (a1 a2 : Option Addr) (n1 n2 c1 c2 : Nat) (now : Int) (L : List KV) (C : List CV) (w : World) (h : SvIn w a1 n1 a2 n2 L C) (hg : SvGood n1 n2 L C) :
    Calls Tryz.prog 6 #[.agg #[.slice a1 n1 c1, .int .i64 now, .slice a2 n2 c2]] w fun e w' => ∃ b1 b2 A D, e = .returned (.agg #[.slice (some ⟨b1, 0, none⟩) n1 n1, .int .i64 now, .slice (some ⟨b2, 0, none⟩) n2 n2]) ∧ SvCopy w' b1 b2 n1 n2 A D L C ∧ Below w.heap.size w w' := by
  obtain ⟨⟨B1, o1, i1⟩, ⟨B2, o2, i2⟩⟩ := h
  have HK : Hid (∀ W, Below w.heap.size w W → Calls Tryz.prog 14 #[.slice a1 n1 c1] W fun e w' => ∃ A : List KV, e = .returned (.slice (some ⟨W.heap.size, 0, none⟩) n1 n1) ∧ DbU w' W.heap.size (some ⟨W.heap.size, 0, none⟩) W.heap.size n1 A ∧ (∀ i, i < n1 → (A.getD i kv0).key = (L.getD i kv0).key) ∧ Below W.heap.size W w') := fun W hb => toKeyS_any a1 B1 o1 n1 c1 L W (i1.below hb) hg.len1 hg.keys
  have HC : Hid (∀ W, Below w.heap.size w W → Calls Tryz.prog 15 #[.slice a2 n2 c2] W fun e w' => ∃ A : List CV, e = .returned (.slice (some ⟨W.heap.size, 0, none⟩) n2 n2) ∧ ClsU w' W.heap.size (some ⟨W.heap.size, 0, none⟩) W.heap.size n2 A ∧ (∀ i, i < n2 → (A.getD i cv0).cl = (C.getD i cv0).cl) ∧ Below W.heap.size W w') := fun W hb => toClientS_any a2 B2 o2 n2 c2 C W (i2.below hb) hg.len2 hg.cls
  clear i1 i2 hg
  go_enter Tryz.func6, Tryz.ntmps6
  go_wp2_with fail
  have bw : Below w.heap.size w (((w.alloc (.cells #[.slice a1 n1 c1, .int .i64 now, .slice a2 n2 c2] 25)).alloc (.cells #[.slice none 0 0, .int .i64 0, .slice none 0 0] 31)).alloc (.cells #[.slice none 0 0, .int .i64 0, .slice none 0 0] 31)) := Go.Joins.below_alloc3 _ _ _ _
  obtain ⟨r0, r1, r2, hsz⟩ := three_new w #[.slice a1 n1 c1, .int .i64 now, .slice a2 n2 c2] #[.slice none 0 0, .int .i64 0, .slice none 0 0] #[.slice none 0 0, .int .i64 0, .slice none 0 0] 25 31 31
  generalize (((w.alloc (.cells #[.slice a1 n1 c1, .int .i64 now, .slice a2 n2 c2] 25)).alloc (.cells #[.slice none 0 0, .int .i64 0, .slice none 0 0] 31)).alloc (.cells #[.slice none 0 0, .int .i64 0, .slice none 0 0] 31)) = W at *
  refine (HK.out W bw).mono ?_
  rintro e w1 ⟨A, rfl, own1, hkey, b1⟩
  have HKEY : Hid (∀ i, i < n1 → (A.getD i kv0).key = (L.getD i kv0).key) := hkey
  have q0 := RowAt.below r0 b1 (by omega)
  have q1 := RowAt.below r1 b1 (by omega)
  have q2 := RowAt.below r2 b1 (by omega)
  have s1 : W.heap.size ≤ w1.heap.size := b1.size
  have bb1 : Below w.heap.size w w1 := bw.trans (b1.mono (by omega))
  clear r0 r1 r2 b1 bw hkey
  generalize hg1 : W.heap.size = g1 at *
  have hlo : w.heap.size + 1 + 1 + 1 ≤ g1 := by omega
  clear hg1 hsz
  obtain ⟨wA, hA⟩ : ∃ wA, wA = (w1.setCell ⟨w.heap.size + 1 + 1, 0, none⟩ (.slice (some ⟨g1, 0, none⟩) n1 n1)).setCell ⟨w.heap.size + 1 + 1, 1, none⟩ (.int .i64 now) := ⟨_, rfl⟩
  have p0 : RowAt wA w.heap.size 25 #[.slice a1 n1 c1, .int .i64 now, .slice a2 n2 c2] := by rw [hA]; exact row_set_ne (row_set_ne q0 (by simp only; omega) _) (by simp only; omega) _
  have p1 : RowAt wA (w.heap.size + 1) 31 #[.slice none 0 0, .int .i64 0, .slice none 0 0] := by rw [hA]; exact row_set_ne (row_set_ne q1 (by simp only; omega) _) (by simp only; omega) _
  have p2 : RowAt wA (w.heap.size + 1 + 1) 31 #[.slice (some ⟨g1, 0, none⟩) n1 n1, .int .i64 now, .slice none 0 0] := by rw [hA]; exact (q2.set 0 _).set 1 _
  have ownA : DbU wA g1 (some ⟨g1, 0, none⟩) g1 n1 A := by rw [hA]; exact (own1.set (by simp only; omega) _).set (by simp only; omega) _
  have bA : Below w.heap.size w wA := by rw [hA]; exact (bb1.setCell (by simp only; omega) _).setCell (by simp only; omega) _
  have sA : g1 ≤ wA.heap.size := by rw [hA]; simpa [World.setCell] using s1
  obtain ⟨y0, y1, y2⟩ := at3 q0
  obtain ⟨z0, z1, z2⟩ := at3 q2
  have z0f := q2.frozen 0
  have z1f := q2.frozen 1
  have HA : Hid (wA = (w1.setCell ⟨w.heap.size + 1 + 1, 0, none⟩ (.slice (some ⟨g1, 0, none⟩) n1 n1)).setCell ⟨w.heap.size + 1 + 1, 1, none⟩ (.int .i64 now)) := hA
  have y2A := (at3 p0).2.2
  rw [hA] at y2A
  clear hA q0 q1 q2 bb1 own1 s1
  go_wp2_with fail
  rw [← HA.out]
  clear y0 y1 y2 z0 z1 z2 z0f z1f y2A HA
  refine (HC.out wA bA).mono ?_
  rintro e w2 ⟨D, rfl, own2, hcl, b2⟩
  have HCL : Hid (∀ i, i < n2 → (D.getD i cv0).cl = (C.getD i cv0).cl) := hcl
  have q1 := RowAt.below p1 b2 p1.lt
  have q2 := RowAt.below p2 b2 p2.lt
  have hl2 := p2.lt
  have HO1 : Hid (DbU w2 (w.heap.size + 1 + 1 + 1) (some ⟨g1, 0, none⟩) g1 n1 A) := (ownA.below b2).le (by omega)
  have bb2 : Below w.heap.size w w2 := bA.trans (b2.mono (by omega))
  clear p0 p1 p2 b2 bA ownA hcl
  generalize hg2 : wA.heap.size = g2 at *
  clear hg2
  have HO2 : Hid (ClsU w2 (w.heap.size + 1 + 1 + 1) (some ⟨g2, 0, none⟩) g2 n2 D) := own2.le (by omega)
  obtain ⟨z0, z1, z2⟩ := at3 q2
  obtain ⟨x0, x1, x2⟩ := at3 q1
  have z2f := q2.frozen 2
  have x0f := q1.frozen 0
  have x1f := q1.frozen 1
  have x2f := q1.frozen 2
  clear q1 q2 own2
  go_wp2
  refine bodyPost_ret (v := .agg #[.slice (some ⟨g1, 0, none⟩) n1 n1, .int .i64 now, .slice (some ⟨g2, 0, none⟩) n2 n2]) (by simp [results, Tryz.results6, go_sem, x0, x1, x2]) rfl ⟨_, _, _, _, rfl, ⟨DbU.at (B := w.heap.size + 1 + 1 + 1) ?_, ClsU.in (B := w.heap.size + 1 + 1 + 1) ?_, HKEY.out, HCL.out⟩, ?_⟩
  · repeat refine DbU.set ?_ (by first | omega | (simp only; omega)) _
    exact HO1.out
  · repeat refine ClsU.set ?_ (by first | omega | (simp only; omega)) _
    exact HO2.out
  · repeat refine Below.setCell ?_ (by first | omega | (simp only; omega)) _
    exact bb2

theorem small_copy {w : World} {b1 b2 n1 n2 : Nat} {A L : List KV} {D C : List CV} (h : SvCopy w b1 b2 n1 n2 A D L C) (hg : SvGood n1 n2 L C) (hf : ∀ i, i < n1 → Kk.FitL (L.getD i kv0).key.val.ranks) : Small A := fun i hi => by
  rw [h.db.ks.len] at hi
  rw [h.key i hi]
  have g := hg.keys i hi
  exact ⟨⟨g.val.fit, g.val.one.np, hf i hi, g.val.one⟩, g.name⟩

theorem good_copy {w : World} {b1 b2 n1 n2 : Nat} {A L : List KV} {D C : List CV} (h : SvCopy w b1 b2 n1 n2 A D L C) (hg : SvGood n1 n2 L C) : ∀ i, i < n2 → ClGood (D.getD i cv0).cl := fun i hi => by
  rw [h.cl i hi]
  exact hg.cls i hi

set_option maxHeartbeats 2000000 in
set_option maxRecDepth 100000 in
theorem eqServer_any (b1 b2 b3 b4 n1 n2 : Nat) (now : Int) (A A' L : List KV) (D D' C : List CV) (w : World) (h : SvCopy w b1 b2 n1 n2 A D L C) (h' : SvCopy w b3 b4 n1 n2 A' D' L C) (hg : SvGood n1 n2 L C) (hf : ∀ i, i < n1 → Kk.FitL (L.getD i kv0).key.val.ranks) :
    Calls Tryz.prog 8 #[.agg #[.slice (some ⟨b1, 0, none⟩) n1 n1, .int .i64 now, .slice (some ⟨b2, 0, none⟩) n2 n2], .agg #[.slice (some ⟨b3, 0, none⟩) n1 n1, .int .i64 now, .slice (some ⟨b4, 0, none⟩) n2 n2]] w fun e w' => e = .returned (.bool true) ∧ Below w.heap.size w w' := by
  have HK : Hid (∀ W, Below w.heap.size w W → Calls Tryz.prog 19 #[.slice (some ⟨b1, 0, none⟩) n1 n1, .slice (some ⟨b3, 0, none⟩) n1 n1] W fun e w' => e = .returned (.bool true) ∧ Below W.heap.size W w') := fun W hb => eqKeys_any _ _ b1 b3 n1 n1 n1 A A' W ((h.db.below hb).rd (small_copy h hg hf)) ((h'.db.below hb).rd (small_copy h' hg hf)) (small_copy h hg hf) (fun i hi => (h'.key i hi).trans (h.key i hi).symm) (by have := hg.len1; omega)
  have HC : Hid (∀ W, Below w.heap.size w W → Calls Tryz.prog 20 #[.slice (some ⟨b2, 0, none⟩) n2 n2, .slice (some ⟨b4, 0, none⟩) n2 n2] W fun e w' => e = .returned (.bool true) ∧ Below W.heap.size W w') := fun W hb => eqClientS_any _ _ b2 0 b4 0 n2 n2 n2 D D' W (h.cls.below hb) (h'.cls.below hb) (fun i hi => (good_copy h hg i hi).small) (fun i hi => (h'.cl i hi).trans (h.cl i hi).symm) (by have := hg.len2; omega)
  clear h h' hg hf
  have b0 : Below w.heap.size w ((w.alloc (.cells #[.slice (some ⟨b1, 0, none⟩) n1 n1, .int .i64 now, .slice (some ⟨b2, 0, none⟩) n2 n2] 31)).alloc (.cells #[.slice (some ⟨b3, 0, none⟩) n1 n1, .int .i64 now, .slice (some ⟨b4, 0, none⟩) n2 n2] 31)) := ((Below.refl _ w).alloc (Nat.le_refl _) _).alloc (by simp) _
  have r1 := RowAt.new (w.alloc (.cells #[.slice (some ⟨b1, 0, none⟩) n1 n1, .int .i64 now, .slice (some ⟨b2, 0, none⟩) n2 n2] 31)) 31 #[.slice (some ⟨b3, 0, none⟩) n1 n1, .int .i64 now, .slice (some ⟨b4, 0, none⟩) n2 n2]
  have r0 := RowAt.below (RowAt.new w 31 #[.slice (some ⟨b1, 0, none⟩) n1 n1, .int .i64 now, .slice (some ⟨b2, 0, none⟩) n2 n2]) ((Below.refl _ _).alloc (Nat.le_refl _) (.cells #[.slice (some ⟨b3, 0, none⟩) n1 n1, .int .i64 now, .slice (some ⟨b4, 0, none⟩) n2 n2] 31)) (by simp)
  simp only [World.size_alloc] at r1
  obtain ⟨wa, hwa⟩ : ∃ wa, (w.alloc (.cells #[.slice (some ⟨b1, 0, none⟩) n1 n1, .int .i64 now, .slice (some ⟨b2, 0, none⟩) n2 n2] 31)).alloc (.cells #[.slice (some ⟨b3, 0, none⟩) n1 n1, .int .i64 now, .slice (some ⟨b4, 0, none⟩) n2 n2] 31) = wa := ⟨_, rfl⟩
  have HWA : Hid ((w.alloc (.cells #[.slice (some ⟨b1, 0, none⟩) n1 n1, .int .i64 now, .slice (some ⟨b2, 0, none⟩) n2 n2] 31)).alloc (.cells #[.slice (some ⟨b3, 0, none⟩) n1 n1, .int .i64 now, .slice (some ⟨b4, 0, none⟩) n2 n2] 31) = wa) := hwa
  rw [hwa] at b0 r0 r1
  clear hwa
  go_enter Tryz.func8, Tryz.ntmps8
  go_wp2_with fail
  rw [HWA.out]
  refine (HK.out wa b0).mono ?_
  rintro e w1 ⟨rfl, b1'⟩
  have bb1 := b0.trans (b1'.mono b0.size)
  obtain ⟨y0, y1, y2⟩ := at3 (RowAt.below r0 b1' r0.lt)
  obtain ⟨z0, z1, z2⟩ := at3 (RowAt.below r1 b1' r1.lt)
  have HCc := HC.out w1 bb1
  clear r0 r1 HK HC
  go_wp2_with fail
  refine HCc.mono ?_
  rintro e w2 ⟨rfl, b2'⟩
  have bb2 := bb1.trans (b2'.mono bb1.size)
  clear y0 y1 y2 z0 z1 z2 HCc
  go_wp2
  go_ret
  exact ⟨rfl, bb2⟩

theorem map_copy {A L : List KV} {n : Nat} (h1 : A.length = n) (h2 : L.length = n) (h : ∀ i, i < n → (A.getD i kv0).key = (L.getD i kv0).key) : A.map KV.key = L.map KV.key := by
  apply List.ext_getElem (by simp [h1, h2])
  intro i hi hj
  rw [List.length_map] at hi hj
  have := h i (by omega)
  rw [List.getD_eq_getElem?_getD, List.getD_eq_getElem?_getD, List.getElem?_eq_getElem hi, List.getElem?_eq_getElem hj] at this
  simpa using this

theorem cls_copy {D C : List CV} {n : Nat} (h1 : D.length = n) (h2 : C.length = n) (h : ∀ i, i < n → (D.getD i cv0).cl = (C.getD i cv0).cl) : clsB D = clsB C := by
  unfold clsB
  rw [h1, h2]
  have e1 : (List.range n).all (riC D) = (List.range n).all (riC C) := by
    rw [Bool.eq_iff_iff, List.all_eq_true, List.all_eq_true]
    have : ∀ i, i < n → riC D i = riC C i := fun i hi => by unfold riC; rw [h i hi, h (i - 1) (by omega)]
    exact ⟨fun q i hi => by rw [← this i (List.mem_range.1 hi)]; exact q i hi, fun q i hi => by rw [this i (List.mem_range.1 hi)]; exact q i hi⟩
  have e2 : (List.range n).all (kyC D) = (List.range n).all (kyC C) := by
    rw [Bool.eq_iff_iff, List.all_eq_true, List.all_eq_true]
    have : ∀ i, i < n → kyC D i = kyC C i := fun i hi => by unfold kyC; rw [h i hi]
    exact ⟨fun q i hi => by rw [← this i (List.mem_range.1 hi)]; exact q i hi, fun q i hi => by rw [this i (List.mem_range.1 hi)]; exact q i hi⟩
  rw [e1, e2]

theorem server_copy {w w' : World} {b1 b2 b3 b4 n1 n2 : Nat} {A A' L : List KV} {D D' C : List CV} (now : Int) (h : SvCopy w b1 b2 n1 n2 A D L C) (h' : SvCopy w' b3 b4 n1 n2 A' D' L C) : serverB A now D = serverB A' now D' := by
  unfold serverB
  rw [map_copy h.db.ks.len h'.db.ks.len (fun i hi => (h.key i hi).trans (h'.key i hi).symm), cls_copy h.cls.len h'.cls.len (fun i hi => (h.cl i hi).trans (h'.cl i hi).symm)]
end Go.Proofs.YtjgmkbldclangaaGreatDoor
