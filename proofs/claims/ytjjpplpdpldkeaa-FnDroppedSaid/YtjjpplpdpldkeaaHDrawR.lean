/- The heap and a reference, drawn out of bytes: DrawGet, DrawDrop; the specification's Drop at any heap. -/
import Derived.Test.YtjjpplpdpldkeaaHDrawQ
import Derived.Deep.RegionHeld3
namespace Go.Proofs.Ytjjpplpdpldkeaa
open Go.RowKit Go.Sort

set_option maxHeartbeats 4000000 in
set_option maxRecDepth 100000 in
theorem specDrop_none (s : ByteArray) (a : Option Addr) (b off c : Nat) (rc rg : Int) (w : World) (h : CellsIn w a b off 0 []) (hs : s.size ≤ 1048576) :
    Calls Try.prog 17 #[.agg #[.string s, .slice a 0 c], refV rc rg] w (HeapEnd w (dropD s [] rc rg) (dropL s [] rc rg) (dropOk s [] rc rg)) := by
  have HI : Hid (isB [] rc rg = false) := by
    unfold Hid isB
    rw [decide_eq_false (by simp)]
    rfl
  have HR : Hid (dropOk s [] rc rg = false) := by unfold Hid dropOk; rw [HI.out, Bool.and_false]
  have bw : Below w.heap.size w (((w.alloc (.cells #[.string s, .slice a 0 c] 26)).alloc (.cells #[.int .i64 rc, .int .i64 rg] 30)).alloc (.cells #[.string ⟨#[]⟩, .slice none 0 0] 26)) := Go.Joins.below_alloc3 _ _ _ _
  have r0 := ((RowAt.new w 26 #[.string s, .slice a 0 c]).more (.cells #[.int .i64 rc, .int .i64 rg] 30)).more (.cells #[.string ⟨#[]⟩, .slice none 0 0] 26)
  have r1 := (RowAt.new (w.alloc (.cells #[.string s, .slice a 0 c] 26)) 30 #[.int .i64 rc, .int .i64 rg]).more (.cells #[.string ⟨#[]⟩, .slice none 0 0] 26)
  have r2 := RowAt.new ((w.alloc (.cells #[.string s, .slice a 0 c] 26)).alloc (.cells #[.int .i64 rc, .int .i64 rg] 30)) 26 #[.string ⟨#[]⟩, .slice none 0 0]
  simp only [World.size_alloc] at r1 r2
  have h2 := cells_below h bw
  go_enter Try.func17, Try.ntmps17
  go_wp2_with fail
  generalize ((w.alloc (.cells #[.string s, .slice a 0 c] 26)).alloc (.cells #[.int .i64 rc, .int .i64 rg] 30)).alloc (.cells #[.string ⟨#[]⟩, .slice none 0 0] 26) = w1 at *
  refine (specOk_any s a b off 0 c [] w1 h2 hs (by omega) (fun i hi => by omega)).mono ?_
  rintro e w2 ⟨rfl, b2⟩
  have bb := below_next bw b2
  have q0 := r0.below b2 r0.lt
  have q1 := r1.below b2 r1.lt
  have q2 := r2.below b2 r2.lt
  have h3 := cells_below h2 b2
  clear r0 r1 r2 h2 bw b2
  cases hr : heapB s [] with
  | false =>
    have u2 := row_ret (D := .string ⟨#[]⟩) (v := .slice none 0 0) q2 rfl
    obtain ⟨e0, e1⟩ := two_at q2
    obtain ⟨g0, g1⟩ := two_at u2
    have f0 := q2.frozen 0
    have f1 := q2.frozen 1
    clear hr q0 q1 q2 u2 h3
    go_wp2
    exact bodyPost_ret (v := .tuple #[.agg #[.string ⟨#[]⟩, .slice none 0 0], .bool false]) (by simp [results, Try.results17, go_sem, g0, g1]) rfl (by rw [HR.out, (drop_no HR.out).1, (drop_no HR.out).2]; exact heap_no ((bb.setCell (by simp; omega) _).setCell (by simp; omega) _))
  | true =>
    clear hr
    obtain ⟨e0, e1⟩ := two_at q0
    obtain ⟨f0, f1⟩ := two_at q1
    go_wp2_with fail
    refine (l3Is_any s a b off 0 c [] rc rg w2 h3 (by omega)).mono ?_
    rintro e w3 ⟨rfl, b3⟩
    rw [HI.out]
    have bb3 := below_next bb b3
    have p2 := q2.below b3 q2.lt
    have u2 := row_ret (D := .string ⟨#[]⟩) (v := .slice none 0 0) p2 rfl
    obtain ⟨e2, e3⟩ := two_at p2
    obtain ⟨g0, g1⟩ := two_at u2
    have f2 := p2.frozen 0
    have f3 := p2.frozen 1
    clear q0 q1 q2 e0 e1 f0 f1 b3 bb h3 p2 u2
    go_wp2
    exact bodyPost_ret (v := .tuple #[.agg #[.string ⟨#[]⟩, .slice none 0 0], .bool false]) (by simp [results, Try.results17, go_sem, g0, g1]) rfl (by rw [HR.out, (drop_no HR.out).1, (drop_no HR.out).2]; exact heap_no ((bb3.setCell (by simp; omega) _).setCell (by simp; omega) _))

theorem specDropA (s : ByteArray) (a : Option Addr) (b off c : Nat) (L : List Cl) (rc rg : Int) (w : World) (h : CellsIn w a b off L.length L) (hs : s.size ≤ 1048576) (hn : L.length ≤ 1048576) (hf : ∀ i, i < L.length → Fit (L.getD i cl0)) :
    Calls Try.prog 17 #[.agg #[.string s, .slice a L.length c], refV rc rg] w (HeapEnd w (dropD s L rc rg) (dropL s L rc rg) (dropOk s L rc rg)) := by
  by_cases h0 : 0 < L.length
  · have ha := h.addr h0
    subst ha
    exact specDrop_any s b off L.length c L rc rg w h hs hn hf
  · obtain rfl : L = [] := List.eq_nil_of_length_eq_zero (by omega)
    exact specDrop_none s a b off c rc rg w h hs

theorem grown_new {w W : World} {rb B : Nat} {x y : Value} (h : w.grownBy W (some rb)) (hB : w.heap.size ≤ B) : w.grownBy ((W.setCell ⟨B, 0, none⟩ x).setCell ⟨B, 1, none⟩ y) (some rb) :=
  ⟨h.os, h.tape, h.output, by have := h.size; simpa [World.setCell] using this, fun k hk hr => ((Below.heap_setCell _ _ _ _ (by simp only; omega)).trans (Below.heap_setCell _ _ _ _ (by simp only; omega))).trans (h.block k hk hr)⟩

theorem rd_past {W : World} {rb : Nat} {ra : Option Addr} {rn rc B : Nat} {x y : Value} (h : Rd W rb ra rn rc) (hB : rb < B) : Rd ((W.setCell ⟨B, 0, none⟩ x).setCell ⟨B, 1, none⟩ y) rb ra rn rc :=
  h.below (((Below.refl B W).setCell (p := ⟨B, 0, none⟩) (Nat.le_refl _) x).setCell (p := ⟨B, 1, none⟩) (Nat.le_refl _) y) hB

set_option maxHeartbeats 4000000 in
set_option maxRecDepth 100000 in
theorem ref_any (rb : Nat) (ra : Option Addr) (rn rc : Nat) (a2 : Option Addr) (c2 B : Nat) (rs : List (Int × Int)) (w : World) (h : Rd w rb ra rn rc) (hrb : rb < w.heap.size) (hrB : rb < B) (ho : w.ownsRow B 30 2 (.slice a2 rs.length c2) rs.length (flatR rs)) (hrs : rs.length ≤ 12) :
    Calls Try.prog 46 #[.pointer (some ⟨rb, 0, none⟩), .slice a2 rs.length c2] w fun e w' => ∃ c g : Int, e = .returned (refV c g) ∧ Rd w' rb ra rn rc ∧ w.grownBy w' (some rb) := by
  have bA : Below w.heap.size w (w.alloc (.cells #[.int .i64 0, .int .i64 0] 30)) := (Below.refl _ w).alloc (Nat.le_refl _) _
  have q1 := RowAt.new w 30 #[.int .i64 0, .int .i64 0]
  have rd1 := h.below bA hrb
  have o1 := ho.alloc (.cells #[.int .i64 0, .int .i64 0] 30)
  have g1 : w.grownBy (w.alloc (.cells #[.int .i64 0, .int .i64 0] 30)) (some rb) := grown_below (grown_refl w _) bA
  have far : ∀ {W : World} (c g : Int), Rd W rb ra rn rc → w.grownBy W (some rb) → Rd ((W.setCell ⟨w.heap.size, 0, none⟩ (.int .i64 c)).setCell ⟨w.heap.size, 1, none⟩ (.int .i64 g)) rb ra rn rc ∧ w.grownBy ((W.setCell ⟨w.heap.size, 0, none⟩ (.int .i64 c)).setCell ⟨w.heap.size, 1, none⟩ (.int .i64 g)) (some rb) := fun c g r g' => ⟨rd_past r hrb, grown_new g' (Nat.le_refl _)⟩
  go_enter Try.func46, Try.ntmps46
  go_upto_region 1 with fail
  generalize w.alloc (.cells #[.int .i64 0, .int .i64 0] 30) = w1 at *
  go_cut [12] (fun v wx => ∃ b, v = .bool b ∧ (b = true → 0 < rs.length) ∧ Rd wx rb ra rn rc ∧ w1.grownBy wx (some rb))
  case first =>
    by_cases h0 : rs.length = 0
    · have dr : decide ((0 : Int) < (rs.length : Int)) = false := decide_eq_false (by omega)
      go_wp2_with fail
      go_meet
      case rel => exact ⟨false, rfl, by simp, rd1, grown_refl _ _⟩
    · have dr : decide ((0 : Int) < (rs.length : Int)) = true := decide_eq_true (by omega)
      go_wp2_with fail
      refine (once_any rb ra rn rc 8 _ rd1 (by omega) (by omega)).mono ?_
      rintro e w2 ⟨b, rfl, r2, g2⟩
      go_wp2_with fail
      go_meet
      case rel => exact ⟨_, rfl, fun _ => by omega, r2, g2⟩
  case rest =>
    obtain ⟨b, rfl, hb, rd2, g2⟩ := hcut
    have q2 := row_read q1 g2 (by omega)
    have o2 := o1.kept g2 (.inr fun e => by have := (o1.lt rb e).1; omega)
    have gg2 := grown_trans g1 g2
    clear q1 rd1 o1 g1 g2
    cases b with
    | true =>
      have h0 := hb rfl
      obtain ⟨A2, c2', e2⟩ := Go.Joins.ownsRow_form o2 h0
      cases e2
      go_wp2_with fail
      refine (pick_any rb ra rn rc rs.length _ rd2 h0 (by omega)).mono ?_
      rintro e w3 ⟨jj, rfl, hjj, r3, g3⟩
      have q3 := row_read q2 g3 (by omega)
      have o3 := o2.kept g3 (.inr fun e => by have := (o2.lt rb e).1; omega)
      have gg3 := grown_trans gg2 g3
      obtain ⟨f0, f1⟩ := ref_at o3 hjj
      have j0 : (0 : Int) ≤ (jj : Int) := by omega
      have j1 : (jj : Int) < (rs.length : Int) := by omega
      obtain ⟨y0, y1⟩ := two_at q3
      have y2 := q3.frozen 0
      have y3 := q3.frozen 1
      obtain ⟨v0, v1⟩ := two_at (q3.both (x := .int .i64 (refC rs jj)) (y := .int .i64 (refG rs jj)))
      have HF : Hid _ := far (refC rs jj) (refG rs jj) r3 gg3
      clear q2 q3 o2 o3 far g3 r3 gg2 gg3 rd2
      go_wp2
      exact bodyPost_ret (v := refV (refC rs jj) (refG rs jj)) (by simp [results, Try.results46, go_sem, v0, v1]) rfl ⟨_, _, rfl, HF.out.1, HF.out.2⟩
    | false =>
      go_wp2_with fail
      refine (off_any rb ra rn rc 0 3 _ rd2 (by omega) (by omega) (by omega)).mono ?_
      rintro e w3 ⟨c, rfl, _, _, r3, g3⟩
      have q3 := row_read q2 g3 (by omega)
      have gg3 := grown_trans gg2 g3
      go_wp2_with fail
      refine (off_any rb ra rn rc 1 3 _ r3 (by omega) (by omega) (by omega)).mono ?_
      rintro e w4 ⟨g, rfl, _, _, r4, g4⟩
      have q4 := row_read q3 g4 (by omega)
      have gg4 := grown_trans gg3 g4
      obtain ⟨y0, y1⟩ := two_at q4
      have y2 := q4.frozen 0
      have y3 := q4.frozen 1
      obtain ⟨v0, v1⟩ := two_at (q4.both (x := .int .i64 c) (y := .int .i64 g))
      have HF : Hid _ := far c g r4 gg4
      clear q2 q3 q4 o2 far g3 r3 gg2 gg3 gg4 rd2 r4 g4
      go_wp2
      exact bodyPost_ret (v := refV c g) (by simp [results, Try.results46, go_sem, v0, v1]) rfl ⟨_, _, rfl, HF.out.1, HF.out.2⟩

set_option maxHeartbeats 4000000 in
set_option maxRecDepth 100000 in
theorem drawGet (ra : Option Addr) (rn rc : Nat) (w : World) (hn : rn ≤ 9223372036854775807) (hb : BytesIn w ra rn w.heap.size) :
    Calls Try.prog 37 #[.slice ra rn rc] w fun e w' => ∃ s L a A cap c g, e = .returned (.tuple #[.agg #[.string s, .slice a L.length cap], refV c g]) ∧ CellsIn w' a A 0 L.length L ∧ (0 < L.length → w.heap.size ≤ A) ∧ Drawn s L ∧ Below w.heap.size w w' := by
  have bw0 : Below w.heap.size w ((w.alloc (.cells #[.string ⟨#[]⟩, .slice none 0 0] 26)).alloc (.cells #[.int .i64 0, .int .i64 0] 30)) := Go.Joins.below_alloc2 _ _ _
  have q0 := (RowAt.new w 26 #[.string ⟨#[]⟩, .slice none 0 0]).more (.cells #[.int .i64 0, .int .i64 0] 30)
  have p0 : RowAt ((w.alloc (.cells #[.string ⟨#[]⟩, .slice none 0 0] 26)).alloc (.cells #[.int .i64 0, .int .i64 0] 30)) (w.heap.size + 1) 30 #[.int .i64 0, .int .i64 0] := RowAt.first (by simp)
  have hb1 : BytesIn ((w.alloc (.cells #[.string ⟨#[]⟩, .slice none 0 0] 26)).alloc (.cells #[.int .i64 0, .int .i64 0] 30)) ra rn ((w.alloc (.cells #[.string ⟨#[]⟩, .slice none 0 0] 26)).alloc (.cells #[.int .i64 0, .int .i64 0] 30)).heap.size := ⟨fun h0 => by
    obtain ⟨b, o, e1, e2, e3⟩ := (hb.below bw0).cell h0
    exact ⟨b, o, e1, by simp; omega, e3⟩⟩
  have s1 : w.heap.size + 1 < ((w.alloc (.cells #[.string ⟨#[]⟩, .slice none 0 0] 26)).alloc (.cells #[.int .i64 0, .int .i64 0] 30)).heap.size := by simp
  go_enter Try.func37, Try.ntmps37
  go_wp2_with fail
  generalize (w.alloc (.cells #[.string ⟨#[]⟩, .slice none 0 0] 26)).alloc (.cells #[.int .i64 0, .int .i64 0] 30) = w1 at *
  refine (open_any ra rn rc w1 hn hb1).mono ?_
  rintro e w2 ⟨rfl, r2, b2⟩
  have q2 := q0.below b2 q0.lt
  have p2 := p0.below b2 p0.lt
  have s2 : w1.heap.size < w2.heap.size := by
    obtain ⟨p, _, hr⟩ := r2.row
    exact hr.lt
  have HHD : Hid (Calls Try.prog 22 #[.pointer (some ⟨w1.heap.size, 0, none⟩)] w2 _) := heap_drawn w1.heap.size ra rn rc w2 r2 s2
  have bb2 := bw0.trans (b2.mono (by omega))
  clear hb hb1 bw0 q0 p0 r2
  go_wp2_with fail
  refine HHD.out.mono ?_
  clear HHD
  rintro e w3 ⟨s, L, v, rs, vr, rfl, ho, hr, hd, hrl, rd, g3⟩
  obtain ⟨a, A, cap, rfl, hc⟩ := owned_cells ho
  obtain ⟨a2, A2, c2, rfl, _⟩ := form_any hr
  have q3 := row_read q2 g3 (by omega)
  have p3 := row_read p2 g3 (by omega)
  have bb3 : Below w.heap.size w w3 := bb2.trans (below_of_grown g3 (by omega) (by omega))
  have hA : 0 < L.length → w1.heap.size + 1 ≤ A := fun h0 => by
    have ha := hc.addr h0
    subst ha
    have := (ho.lt A rfl).1
    omega
  have s3 := g3.size
  have bA : Below w3.heap.size w3 (w3.alloc (.cells #[.string s, .slice a L.length cap] 26)) := (Below.refl _ w3).alloc (Nat.le_refl _) _
  have q4 := q3.below bA q3.lt
  have p4 := p3.below bA p3.lt
  have x4 := RowAt.new w3 26 #[.string s, .slice a L.length cap]
  have hc4 := cells_below hc bA
  have hr4 := hr.alloc (.cells #[.string s, .slice a L.length cap] 26)
  have rd4 := rd.below bA (by omega)
  have bb4 := below_next bb3 bA
  have hG : w1.heap.size < w3.heap.size := by omega
  have s4 : w1.heap.size < (w3.alloc (.cells #[.string s, .slice a L.length cap] 26)).heap.size := by simp; omega
  clear ho hr rd g3 bb3 bb2 hc q3 q2 p3 p2 b2 s3 bA
  go_upto_region 3 with fail
  generalize w3.heap.size = G at *
  generalize w3.alloc (.cells #[.string s, .slice a L.length cap] 26) = w4 at *
  have kp : ∀ {W : World}, w4.grownBy W (some w1.heap.size) → (W.cell? ⟨G, 0, none⟩ = some (.string s) ∧ W.cell? ⟨G, 1, none⟩ = some (.slice a L.length cap)) := fun g => two_at (row_read x4 g (by omega))
  have gd : w4.grownBy w4.drew (some w1.heap.size) := ⟨rfl, rfl, rfl, Nat.le_refl _, fun _ _ _ => rfl⟩
  have hGB : G ≠ w.heap.size := by omega
  have hGB1 : G ≠ w.heap.size + 1 := by omega
  have rd4d : Rd w4.drew w1.heap.size ra rn rc := rd4.below (B := w4.heap.size) (Below.refl _ w4).drew s4
  have RF : Hid (∀ W, Rd W w1.heap.size ra rn rc → w1.heap.size < W.heap.size → W.ownsRow w2.heap.size 30 2 (.slice a2 rs.length c2) rs.length (flatR rs) → Calls Try.prog 46 #[.pointer (some ⟨w1.heap.size, 0, none⟩), .slice a2 rs.length c2] W fun e w' => ∃ c g : Int, e = .returned (refV c g) ∧ Rd w' w1.heap.size ra rn rc ∧ W.grownBy w' (some w1.heap.size)) := fun W h1 h2 h3 => ref_any w1.heap.size ra rn rc a2 c2 w2.heap.size rs W h1 h2 s2 h3 hrl
  go_region_held3 (fun W => W.cell? ⟨G, 0, none⟩ = some (.string s) ∧ W.cell? ⟨G, 1, none⟩ = some (.slice a L.length cap))
    (first
      | with_reducible exact kp gd
      | with_reducible exact kp g5
      | with_reducible exact two_at (x5.skip hGB)
      | with_reducible exact two_at ((x5.skip hGB).skip hGB1))
    (first
      | (go_at_call 46
         refine (RF.out _ rd4d s4 hr4.drew).mono ?_
         rintro e w5 ⟨c, g, rfl, r5, g5'⟩
         have g5 := grown_trans gd g5'
         have q5 := row_read q4 g5 (by omega)
         have p5 := row_read p4 g5 (by omega)
         have x5 := row_read x4 g5 (by omega)
         have u0 := (two_at q5).1
         have u1 := (two_at q5).2
         have u2 := q5.frozen 0
         have u3 := q5.frozen 1
         have u4 := (two_at p5).1
         have u5 := (two_at p5).2
         have u6 := p5.frozen 0
         have u7 := p5.frozen 1))
  all_goals
    have hc5 := cells_read hc4 g5 (fun h0 => by have := hA h0; omega)
    have bb5 : Below w.heap.size w w5 := bb4.trans (below_of_grown g5 (by omega) bb4.size)
    have q6 := (q5.both (x := .string s) (y := .slice a L.length cap)).skip (q := w.heap.size + 1) (x := .int .i64 c) (y := .int .i64 g) (by omega)
    have p6 := (p5.skip (q := w.heap.size) (x := .string s) (y := .slice a L.length cap) (by omega)).both (x := .int .i64 c) (y := .int .i64 g)
    obtain ⟨v0, v1⟩ := two_at q6
    obtain ⟨v2, v3⟩ := two_at p6
    have HB7 : Hid _ := (((bb5.setCell (p := ⟨w.heap.size, 0, none⟩) (Nat.le_refl _) (.string s)).setCell (p := ⟨w.heap.size, 1, none⟩) (Nat.le_refl _) (.slice a L.length cap)).setCell (p := ⟨w.heap.size + 1, 0, none⟩) (Nat.le_succ _) (.int .i64 c)).setCell (p := ⟨w.heap.size + 1, 1, none⟩) (Nat.le_succ _) (.int .i64 g)
    have HC7 : Hid _ := cells_past (q := w.heap.size + 1) (x := .int .i64 c) (y := .int .i64 g) (cells_past (q := w.heap.size) (x := .string s) (y := .slice a L.length cap) hc5 (fun h0 => by have := hA h0; omega)) (fun h0 => by have := hA h0; omega)
    clear hc5 bb5 q6 p6
    go_wp2
    exact bodyPost_ret (v := .tuple #[.agg #[.string s, .slice a L.length cap], refV c g]) (by simp [results, Try.results37, go_sem, v0, v1, v2, v3]) rfl ⟨s, L, a, A, cap, c, g, rfl, HC7.out, fun h0 => by have := hA h0; omega, hd, HB7.out⟩

set_option maxHeartbeats 4000000 in
set_option maxRecDepth 100000 in
theorem drawDrop (ra : Option Addr) (rn rc : Nat) (w : World) (hn : rn ≤ 9223372036854775807) (hb : BytesIn w ra rn w.heap.size) :
    Calls Try.prog 15 #[.slice ra rn rc] w fun e w' => ∃ s L a A cap c g, e = .returned (.tuple #[.agg #[.string s, .slice a L.length cap], refV c g]) ∧ CellsIn w' a A 0 L.length L ∧ Drawn s L ∧ Below w.heap.size w w' := by
  have bw0 : Below w.heap.size w ((w.alloc (.cells #[.string ⟨#[]⟩, .slice none 0 0] 26)).alloc (.cells #[.int .i64 0, .int .i64 0] 30)) := Go.Joins.below_alloc2 _ _ _
  have q0 := (RowAt.new w 26 #[.string ⟨#[]⟩, .slice none 0 0]).more (.cells #[.int .i64 0, .int .i64 0] 30)
  have p0 : RowAt ((w.alloc (.cells #[.string ⟨#[]⟩, .slice none 0 0] 26)).alloc (.cells #[.int .i64 0, .int .i64 0] 30)) (w.heap.size + 1) 30 #[.int .i64 0, .int .i64 0] := RowAt.first (by simp)
  have hb1 : BytesIn ((w.alloc (.cells #[.string ⟨#[]⟩, .slice none 0 0] 26)).alloc (.cells #[.int .i64 0, .int .i64 0] 30)) ra rn ((w.alloc (.cells #[.string ⟨#[]⟩, .slice none 0 0] 26)).alloc (.cells #[.int .i64 0, .int .i64 0] 30)).heap.size := ⟨fun h0 => by
    obtain ⟨b, o, e1, e2, e3⟩ := (hb.below bw0).cell h0
    exact ⟨b, o, e1, by simp; omega, e3⟩⟩
  have s1 : w.heap.size + 1 < ((w.alloc (.cells #[.string ⟨#[]⟩, .slice none 0 0] 26)).alloc (.cells #[.int .i64 0, .int .i64 0] 30)).heap.size := by simp
  go_enter Try.func15, Try.ntmps15
  go_wp2_with fail
  generalize (w.alloc (.cells #[.string ⟨#[]⟩, .slice none 0 0] 26)).alloc (.cells #[.int .i64 0, .int .i64 0] 30) = w1 at *
  refine (drawGet ra rn rc w1 hn hb1).mono ?_
  rintro e w5 ⟨s, L, a, A, cap, c, g, rfl, hc5, hA, hd, b5⟩
  have q5 := q0.below b5 q0.lt
  have p5 := p0.below b5 p0.lt
  have bb5 := bw0.trans (b5.mono (by omega))
  obtain ⟨u0, u1⟩ := two_at q5
  obtain ⟨u4, u5⟩ := two_at p5
  have u2 := q5.frozen 0
  have u3 := q5.frozen 1
  have u6 := p5.frozen 0
  have u7 := p5.frozen 1
  have q6 := (q5.both (x := .string s) (y := .slice a L.length cap)).skip (q := w.heap.size + 1) (x := .int .i64 c) (y := .int .i64 g) (by omega)
  have p6 := (p5.skip (q := w.heap.size) (x := .string s) (y := .slice a L.length cap) (by omega)).both (x := .int .i64 c) (y := .int .i64 g)
  obtain ⟨v0, v1⟩ := two_at q6
  obtain ⟨v2, v3⟩ := two_at p6
  have HB7 : Hid _ := (((bb5.setCell (p := ⟨w.heap.size, 0, none⟩) (Nat.le_refl _) (.string s)).setCell (p := ⟨w.heap.size, 1, none⟩) (Nat.le_refl _) (.slice a L.length cap)).setCell (p := ⟨w.heap.size + 1, 0, none⟩) (Nat.le_succ _) (.int .i64 c)).setCell (p := ⟨w.heap.size + 1, 1, none⟩) (Nat.le_succ _) (.int .i64 g)
  have HC7 : Hid _ := cells_past (q := w.heap.size + 1) (x := .int .i64 c) (y := .int .i64 g) (cells_past (q := w.heap.size) (x := .string s) (y := .slice a L.length cap) hc5 (fun h0 => by have := hA h0; omega)) (fun h0 => by have := hA h0; omega)
  clear hc5 bb5 q6 p6 q5 p5 b5 q0 p0 bw0 hb hb1
  go_wp2
  exact bodyPost_ret (v := .tuple #[.agg #[.string s, .slice a L.length cap], refV c g]) (by simp [results, Try.results15, go_sem, v0, v1, v2, v3]) rfl ⟨s, L, a, A, cap, c, g, rfl, HC7.out, hd, HB7.out⟩
end Go.Proofs.Ytjjpplpdpldkeaa
