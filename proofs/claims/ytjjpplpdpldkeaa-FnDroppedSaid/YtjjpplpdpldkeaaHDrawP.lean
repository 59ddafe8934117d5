/- The heap, drawn out of bytes: DrawPacked; what the laws know of a heap. -/
import Derived.Test.YtjjpplpdpldkeaaHDrawn
import Derived.Test.YtjjpplpdpldkeaaHPackJ
namespace Go.Proofs.Ytjjpplpdpldkeaa
open Go.RowKit Go.Sort

set_option maxHeartbeats 1000000 in
theorem big_any (a : Option Addr) (n c : Nat) (w : World) (hn : n ≤ 9223372036854775807) :
    Calls Try.prog 6 #[.slice a n c] w fun e w' => e = .returned (.bool (decide (1048576 < n))) ∧ w' = w := by
  go_enter Try.func6, Try.ntmps6
  go_wp2
  go_ret
  exact ⟨ret_bool (by simp; omega), rfl⟩

theorem owned_cells {W : World} {B : Nat} {v : Value} {L : List Cl} (h : W.ownsRow B 35 4 v L.length (flatC L)) : ∃ a A cap, v = .slice a L.length cap ∧ CellsIn W a A 0 L.length L := by
  obtain ⟨a, A, cap, rfl, hc⟩ := owns_in h
  exact ⟨a, A, cap, rfl, hc⟩

theorem cells_past {W : World} {a : Option Addr} {b off n q : Nat} {L : List Cl} {x y : Value} (h : CellsIn W a b off n L) (hq : 0 < n → b ≠ q) : CellsIn ((W.setCell ⟨q, 0, none⟩ x).setCell ⟨q, 1, none⟩ y) a b off n L := by
  refine ⟨h.len, h.addr, fun h0 => by simpa [World.setCell] using h.low h0, fun i hi => ?_⟩
  have hx := h.cell i hi
  have hb := hq (by omega)
  have hbk : ∀ k, ((W.setCell ⟨q, 0, none⟩ x).setCell ⟨q, 1, none⟩ y).cell? ⟨b, k, none⟩ = W.cell? ⟨b, k, none⟩ := fun k => World.cell?_of_block (w := W) ((Below.heap_setCell _ _ _ _ (by simp only; omega)).trans (Below.heap_setCell _ _ _ _ (by simp only; omega)))
  exact ⟨(hbk _).trans hx.c0, (hbk _).trans hx.c1, (hbk _).trans hx.c2, (hbk _).trans hx.c3⟩

set_option maxHeartbeats 2000000 in
set_option maxRecDepth 100000 in
theorem drawPacked (ra : Option Addr) (rn rc : Nat) (w : World) (hn : rn ≤ 9223372036854775807) (hb : BytesIn w ra rn w.heap.size) :
    Calls Try.prog 18 #[.slice ra rn rc] w fun e w' => ∃ s L a A cap, e = .returned (.agg #[.string s, .slice a L.length cap]) ∧ CellsIn w' a A 0 L.length L ∧ Drawn s L ∧ Below w.heap.size w w' := by
  have bw0 : Below w.heap.size w (w.alloc (.cells #[.string ⟨#[]⟩, .slice none 0 0] 26)) := (Below.refl _ w).alloc (Nat.le_refl _) _
  have q0 := RowAt.new w 26 #[.string ⟨#[]⟩, .slice none 0 0]
  have hb1 : BytesIn (w.alloc (.cells #[.string ⟨#[]⟩, .slice none 0 0] 26)) ra rn (w.alloc (.cells #[.string ⟨#[]⟩, .slice none 0 0] 26)).heap.size := ⟨fun h0 => by
    obtain ⟨b, o, e1, e2, e3⟩ := (hb.below bw0).cell h0
    exact ⟨b, o, e1, by simp; omega, e3⟩⟩
  have s1 : w.heap.size < (w.alloc (.cells #[.string ⟨#[]⟩, .slice none 0 0] 26)).heap.size := by simp
  go_enter Try.func18, Try.ntmps18
  go_wp2_with fail
  generalize w.alloc (.cells #[.string ⟨#[]⟩, .slice none 0 0] 26) = w1 at *
  refine (open_any ra rn rc w1 hn hb1).mono ?_
  rintro e w2 ⟨rfl, r2, b2⟩
  have q2 := q0.below b2 q0.lt
  have s2 : w1.heap.size < w2.heap.size := by
    obtain ⟨p, _, hr⟩ := r2.row
    exact hr.lt
  have HHD : Hid (Calls Try.prog 22 #[.pointer (some ⟨w1.heap.size, 0, none⟩)] w2 _) := heap_drawn w1.heap.size ra rn rc w2 r2 s2
  have bb2 := bw0.trans (b2.mono (by omega))
  clear hb hb1 bw0 q0 r2
  go_wp2_with fail
  refine HHD.out.mono ?_
  clear HHD
  rintro e w3 ⟨s, L, v, rs, vr, rfl, ho, hr, hd, hrl, rd, g3⟩
  obtain ⟨a, A, cap, rfl, hc⟩ := owned_cells ho
  have q3 : RowAt w3 w.heap.size 26 #[.string ⟨#[]⟩, .slice none 0 0] := (g3.block _ q2.lt (by simp; omega)).trans q2
  have bb3 : Below w.heap.size w w3 := bb2.trans (below_of_grown g3 (by omega) (by omega))
  have hA : 0 < L.length → w.heap.size + 1 ≤ A := fun h0 => by
    have ha := hc.addr h0
    subst ha
    have := (ho.lt A rfl).1
    omega
  have l3 := q3.lt
  obtain ⟨z0, z1⟩ := two_at q3
  have z2 := q3.frozen 0
  have z3 := q3.frozen 1
  have x5 := (q3.both (x := .string s) (y := .slice a L.length cap)).more (.cells #[.string s, .slice a L.length cap] 26)
  obtain ⟨g0, g1⟩ := two_at x5
  have bb5 : Below w.heap.size w (((w3.setCell ⟨w.heap.size, 0, none⟩ (.string s)).setCell ⟨w.heap.size, 1, none⟩ (.slice a L.length cap)).alloc (.cells #[.string s, .slice a L.length cap] 26)) := ((bb3.setCell (p := ⟨w.heap.size, 0, none⟩) (Nat.le_refl _) _).setCell (p := ⟨w.heap.size, 1, none⟩) (Nat.le_refl _) _).alloc (by simp; omega) _
  have hc5 : CellsIn (((w3.setCell ⟨w.heap.size, 0, none⟩ (.string s)).setCell ⟨w.heap.size, 1, none⟩ (.slice a L.length cap)).alloc (.cells #[.string s, .slice a L.length cap] 26)) a A 0 L.length L := cells_below (cells_past hc (fun h0 => by have := hA h0; omega)) ((Below.refl _ _).alloc (Nat.le_refl _) _)
  have HB5 : Hid _ := bb5
  have HC5 : Hid _ := hc5
  clear ho hr rd g3 bb3 bb2 hc q3 q2 bb5 hc5 x5
  go_wp2
  exact bodyPost_ret (v := .agg #[.string s, .slice a L.length cap]) (by simp [results, Try.results18, go_sem, g0, g1]) rfl ⟨s, L, a, A, cap, rfl, HC5.out, hd, HB5.out⟩
end Go.Proofs.Ytjjpplpdpldkeaa
