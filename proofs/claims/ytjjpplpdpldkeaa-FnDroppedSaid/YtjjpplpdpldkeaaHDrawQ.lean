/- The heap and the text, drawn out of bytes: DrawPut. -/
import Derived.Test.YtjjpplpdpldkeaaHDrawP
import Derived.Deep.RegionHeld3
namespace Go.Proofs.Ytjjpplpdpldkeaa
open Go.RowKit Go.Sort

theorem cells_read {w w' : World} {a : Option Addr} {b off n rb : Nat} {L : List Cl} (h : CellsIn w a b off n L) (g : w.grownBy w' (some rb)) (hr : 0 < n → b ≠ rb) : CellsIn w' a b off n L := by
  refine ⟨h.len, h.addr, fun h0 => Nat.lt_of_lt_of_le (h.low h0) g.size, fun i hi => ?_⟩
  have hb : ∀ j, w'.cell? ⟨b, j, none⟩ = w.cell? ⟨b, j, none⟩ := fun j => World.cell?_of_block (w := w) (g.block b (h.low (by omega)) (fun e => hr (by omega) (Option.some.inj e)))
  have hx := h.cell i hi
  exact ⟨(hb _).trans hx.c0, (hb _).trans hx.c1, (hb _).trans hx.c2, (hb _).trans hx.c3⟩

set_option maxHeartbeats 4000000 in
set_option maxRecDepth 100000 in
theorem drawPut (ra : Option Addr) (rn rc : Nat) (w : World) (hn : rn ≤ 9223372036854775807) (hb : BytesIn w ra rn w.heap.size) :
    Calls Try.prog 7 #[.slice ra rn rc] w fun e w' => ∃ s L a A cap x, e = .returned (.tuple #[.agg #[.string s, .slice a L.length cap], .string x]) ∧ x.size ≤ 1048576 ∧ CellsIn w' a A 0 L.length L ∧ Drawn s L ∧ Below w.heap.size w w' := by
  have bw0 : Below w.heap.size w (w.alloc (.cells #[.string ⟨#[]⟩, .slice none 0 0] 26)) := (Below.refl _ w).alloc (Nat.le_refl _) _
  have q0 := RowAt.new w 26 #[.string ⟨#[]⟩, .slice none 0 0]
  have hb1 : BytesIn (w.alloc (.cells #[.string ⟨#[]⟩, .slice none 0 0] 26)) ra rn (w.alloc (.cells #[.string ⟨#[]⟩, .slice none 0 0] 26)).heap.size := ⟨fun h0 => by
    obtain ⟨b, o, e1, e2, e3⟩ := (hb.below bw0).cell h0
    exact ⟨b, o, e1, by simp; omega, e3⟩⟩
  have s1 : w.heap.size < (w.alloc (.cells #[.string ⟨#[]⟩, .slice none 0 0] 26)).heap.size := by simp
  go_enter Try.func7, Try.ntmps7
  go_wp2_with fail
  generalize w.alloc (.cells #[.string ⟨#[]⟩, .slice none 0 0] 26) = w1 at *
  refine (open_any ra rn rc w1 hn hb1).mono ?_
  rintro e w2 ⟨rfl, r2, b2⟩
  have q2 := q0.below b2 q0.lt
  have s2 : w1.heap.size < w2.heap.size := by
    obtain ⟨p, _, hr⟩ := r2.row
    exact hr.lt
  have HHD : Hid (Calls Try.prog 22 #[.pointer (some ⟨w1.heap.size, 0, none⟩)] w2 _) := heap_drawn w1.heap.size ra rn rc w2 r2 s2
  have bb2 := bw0.trans (b2.mono (by omega))
  clear hb hb1 bw0 q0 r2
  go_wp2_with fail
  refine HHD.out.mono ?_
  clear HHD
  rintro e w3 ⟨s, L, v, rs, vr, rfl, ho, hr, hd, hrl, rd, g3⟩
  obtain ⟨a, A, cap, rfl, hc⟩ := owned_cells ho
  have q3 : RowAt w3 w.heap.size 26 #[.string ⟨#[]⟩, .slice none 0 0] := (g3.block _ q2.lt (by simp; omega)).trans q2
  have bb3 : Below w.heap.size w w3 := bb2.trans (below_of_grown g3 (by omega) (by omega))
  have hA : 0 < L.length → w1.heap.size + 1 ≤ A := fun h0 => by
    have ha := hc.addr h0
    subst ha
    have := (ho.lt A rfl).1
    omega
  have s3 := g3.size
  have bA : Below w3.heap.size w3 (w3.alloc (.cells #[.string s, .slice a L.length cap] 26)) := (Below.refl _ w3).alloc (Nat.le_refl _) _
  have q4 := q3.below bA q3.lt
  have x4 := RowAt.new w3 26 #[.string s, .slice a L.length cap]
  have hc4 := cells_below hc bA
  have rd4 := rd.below bA (by omega)
  have bb4 := below_next bb3 bA
  have hG : w1.heap.size < w3.heap.size := by omega
  clear ho hr rd g3 bb3 bb2 hc q3 q2 b2 s3 bA
  go_wp2_with fail
  generalize w3.heap.size = G at *
  generalize w3.alloc (.cells #[.string s, .slice a L.length cap] 26) = w4 at *
  refine (once_any w1.heap.size ra rn rc 12 w4 rd4 (by omega) (by omega)).mono ?_
  rintro e w5 ⟨b, rfl, rd5, g5⟩
  have q5 := row_read q4 g5 (by omega)
  have x5 := row_read x4 g5 (by omega)
  have hc5 := cells_read hc4 g5 (fun h0 => by have := hA h0; omega)
  have bb5 : Below w.heap.size w w5 := bb4.trans (below_of_grown g5 (by omega) bb4.size)
  clear q4 x4 hc4 rd4 bb4 g5
  obtain ⟨y0, y1⟩ := two_at x5
  obtain ⟨z0, z1⟩ := two_at q5
  have z2 := q5.frozen 0
  have z3 := q5.frozen 1
  cases b with
  | true =>
    obtain ⟨g0, g1⟩ := two_at (q5.both (x := .string s) (y := .slice a L.length cap))
    have bb6 := (bb5.setCell (p := ⟨w.heap.size, 0, none⟩) (Nat.le_refl _) (.string s)).setCell (p := ⟨w.heap.size, 1, none⟩) (Nat.le_refl _) (.slice a L.length cap)
    have hc6 := cells_past (q := w.heap.size) (x := .string s) (y := .slice a L.length cap) hc5 (fun h0 => by have := hA h0; omega)
    have HB6 : Hid _ := bb6
    have HC6 : Hid _ := hc6
    clear bb6 hc6 hc5 bb5 x5 q5 rd5
    go_wp2
    exact bodyPost_ret (v := .tuple #[.agg #[.string s, .slice a L.length cap], .string ⟨#[]⟩]) (by simp [results, Try.results7, go_sem, g0, g1]) rfl ⟨s, L, a, A, cap, _, rfl, by decide, HC6.out, hd, HB6.out⟩
  | false =>
    have kp : ∀ {W : World}, w5.grownBy W (some w1.heap.size) → (W.cell? ⟨G, 0, none⟩ = some (.string s) ∧ W.cell? ⟨G, 1, none⟩ = some (.slice a L.length cap)) := fun g => two_at (row_read x5 g (by omega))
    have gd : w5.grownBy w5.drew (some w1.heap.size) := ⟨rfl, rfl, rfl, Nat.le_refl _, fun _ _ _ => rfl⟩
    have hGB : G ≠ w.heap.size := by omega
    go_upto_region 5 with fail
    go_region_held3 (fun W => W.cell? ⟨G, 0, none⟩ = some (.string s) ∧ W.cell? ⟨G, 1, none⟩ = some (.slice a L.length cap))
      (first
        | exact kp gd
        | exact kp g6
        | exact two_at ((row_read x5 g6 (by omega)).skip hGB))
      (first
        | (go_at_call 24
           refine (pick_any w1.heap.size ra rn rc 26 _ ?_ (by omega) (by omega)).mono ?_
           exact rd5.below (B := w5.heap.size) (Below.refl _ w5).drew (by obtain ⟨p, _, hr⟩ := rd5.row; exact hr.lt)
           rintro e w6 ⟨kk, rfl, hkk, r6, g6'⟩
           have g6 := grown_trans gd g6'
           have q6 := row_read q5 g6 (by omega)
           have u0 := (two_at q6).1
           have u1 := (two_at q6).2
           have u2 := q6.frozen 0
           have u3 := q6.frozen 1
           have k0 : (0 : Int) ≤ 1 + (kk : Int) := by omega
           have k1 : 1 + (kk : Int) ≤ 26 := by omega
           have kw : IntKind.i64.wrap (1 + (kk : Int)) = 1 + (kk : Int) := wrap_small (by omega) (by omega)))
    all_goals
      have hc6 := cells_read hc5 g6 (fun h0 => by have := hA h0; omega)
      have bb6 : Below w.heap.size w w6 := bb5.trans (below_of_grown g6 (by omega) bb5.size)
      obtain ⟨v0, v1⟩ := two_at (q6.both (x := .string s) (y := .slice a L.length cap))
      have HB7 : Hid _ := (bb6.setCell (p := ⟨w.heap.size, 0, none⟩) (Nat.le_refl _) (.string s)).setCell (p := ⟨w.heap.size, 1, none⟩) (Nat.le_refl _) (.slice a L.length cap)
      have HC7 : Hid _ := cells_past (q := w.heap.size) (x := .string s) (y := .slice a L.length cap) hc6 (fun h0 => by have := hA h0; omega)
      clear hc6 bb6
      go_wp2
      exact bodyPost_ret (v := .tuple #[.agg #[.string s, .slice a L.length cap], .string (ByteArray.extract _ 0 _)]) (by simp [results, Try.results7, go_sem, v0, v1]; rfl) rfl ⟨s, L, a, A, cap, _, rfl, extract_small _ _ (by decide), HC7.out, hd, HB7.out⟩
end Go.Proofs.Ytjjpplpdpldkeaa
