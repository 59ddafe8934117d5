/- spec's DrawRanked: ranks, a member, a score. -/
import Derived.Test.YtinnjekfmlfdoaaDoorR2
namespace Go.Proofs.YtinnjekfmlfdoaaDoor
open Go.RowKit

def DrawEnd (w : World) (e : Ending) (w' : World) : Prop :=
  ∃ (v : Value) (M : List Rk) (x : ByteArray) (s : Int), e = .returned (.tuple #[v, .string x, .int .i64 s]) ∧ M.length ≤ 6 ∧ FitL M ∧ fitS s ∧ OwnR w' w.heap.size v M ∧ Below w.heap.size w w'

theorem own_keep {w w' : World} {B rb : Nat} {v : Value} {M : List Rk} (h : OwnR w B v M) (g : w.grownBy w' (some rb)) (hB : rb < B) : OwnR w' B v M :=
  World.ownsRow.kept h g (by
    cases e : v.ownBlock with
    | none => exact .inl rfl
    | some k => exact .inr fun e2 => by have := (h.lt k e).1; have := Option.some.inj e2; omega)

set_option maxHeartbeats 8000000 in
set_option maxRecDepth 100000 in
theorem drawR_any (a : Option Addr) (n c : Nat) (w : World) (hn : n ≤ 9223372036854775807) (hb : BytesIn w a n w.heap.size) :
    Calls Tryd.prog 6 #[.slice a n c] w (DrawEnd w) := by
  have hs4 : SmallC #[.string ⟨#[97]⟩, .string ⟨#[98]⟩, .string ⟨#[99]⟩, .string ⟨#[120]⟩] := small_of [⟨#[97]⟩, ⟨#[98]⟩, ⟨#[99]⟩, ⟨#[120]⟩] (by decide)
  go_enter Tryd.func6, Tryd.ntmps6
  go_wp2_with fail
  refine (open_any a n c w hn hb).mono ?_
  rintro e w0 ⟨rfl, r0, b0⟩
  have l0 : w.heap.size < w0.heap.size := by obtain ⟨p, _, hr⟩ := r0.row; exact hr.lt
  go_wp2_with fail
  refine (ranksD_any w.heap.size a n c w0 r0 l0).mono ?_
  rintro e wr ⟨v, M, rfl, hM, hfit, hown0, rd, gr⟩
  have HF : Hid (FitL M) := hfit
  clear hfit
  have sr := gr.size
  have hrw : w.heap.size < wr.heap.size := grown_lt l0 gr
  have hb0 : Below w.heap.size w wr := b0.trans (grown_keep gr (Nat.le_refl _) (by omega))
  generalize hrb : w.heap.size = rb at *
  have HRB : Hid (w.heap.size = rb) := hrb
  clear hrb b0 gr r0
  generalize hB : w0.heap.size = B at *
  clear hB
  have hrB : rb < B := l0
  have rD : Rd wr.drew rb a n c := rd.below (B := wr.heap.size) (below_drewN (Below.refl _ wr) 1) hrw
  have bA : Below wr.heap.size wr (wr.alloc (.cells #[.string ⟨#[97]⟩, .string ⟨#[98]⟩, .string ⟨#[99]⟩, .string ⟨#[120]⟩] 9)).drew := below_drewN ((Below.refl _ wr).alloc (Nat.le_refl _) _) 1
  have rA : Rd (wr.alloc (.cells #[.string ⟨#[97]⟩, .string ⟨#[98]⟩, .string ⟨#[99]⟩, .string ⟨#[120]⟩] 9)).drew rb a n c := rd.below bA hrw
  have rowA : RowAt (wr.alloc (.cells #[.string ⟨#[97]⟩, .string ⟨#[98]⟩, .string ⟨#[99]⟩, .string ⟨#[120]⟩] 9)).drew wr.heap.size 9 #[.string ⟨#[97]⟩, .string ⟨#[98]⟩, .string ⟨#[99]⟩, .string ⟨#[120]⟩] := RowAt.new wr 9 _
  have oD : OwnR wr.drew B v M := hown0
  have oA : OwnR (wr.alloc (.cells #[.string ⟨#[97]⟩, .string ⟨#[98]⟩, .string ⟨#[99]⟩, .string ⟨#[120]⟩] 9)).drew B v M := OwnR.below hown0 bA
  have gD : Below rb w wr.drew := below_drewN hb0 1
  have gA : Below rb w (wr.alloc (.cells #[.string ⟨#[97]⟩, .string ⟨#[98]⟩, .string ⟨#[99]⟩, .string ⟨#[120]⟩] 9)).drew := hb0.trans (bA.mono (by omega))
  have zD : rb < wr.drew.heap.size := hrw
  have zA : rb < (wr.alloc (.cells #[.string ⟨#[97]⟩, .string ⟨#[98]⟩, .string ⟨#[99]⟩, .string ⟨#[120]⟩] 9)).drew.heap.size := by have := bA.size; omega
  clear hown0 rd bA
  go_wp2_with fail
  go_region_with (first
    | (go_at_call_of 16 (Value.int IntKind.i64 4)
       refine (pick_any rb a n c 4 _ (by with_reducible first | exact rD | exact rA) (by omega) (by omega)).mono ?_
       rintro e w2 ⟨j, rfl, hj, r2, g2⟩
       have o2 : OwnR w2 B v M := by first | exact own_keep oD g2 hrB | exact own_keep oA g2 hrB
       have gw2 : Below rb w w2 := by first | exact gD.trans (grown_keep g2 (Nat.le_refl _) (by omega)) | exact gA.trans (grown_keep g2 (Nat.le_refl _) (by omega))
       have lt2 : rb < w2.heap.size := by first | exact grown_lt zD g2 | exact grown_lt zA g2
       have j0 : (0 : Int) ≤ (j : Int) := by omega
       have j1 : (j : Int) < 4 := by omega
       have b2a : Below w2.heap.size w2 (w2.alloc (.cells #[.string ⟨#[97]⟩, .string ⟨#[98]⟩, .string ⟨#[99]⟩, .string ⟨#[120]⟩] 9)) := (Below.refl _ w2).alloc (Nat.le_refl _) _
       have r2a : Rd (w2.alloc (.cells #[.string ⟨#[97]⟩, .string ⟨#[98]⟩, .string ⟨#[99]⟩, .string ⟨#[120]⟩] 9)) rb a n c := r2.below b2a lt2
       have o2a : OwnR (w2.alloc (.cells #[.string ⟨#[97]⟩, .string ⟨#[98]⟩, .string ⟨#[99]⟩, .string ⟨#[120]⟩] 9)) B v M := OwnR.below o2 b2a
       have g2a : Below rb w (w2.alloc (.cells #[.string ⟨#[97]⟩, .string ⟨#[98]⟩, .string ⟨#[99]⟩, .string ⟨#[120]⟩] 9)) := gw2.trans (b2a.mono (by omega))
       have lt2a : rb < (w2.alloc (.cells #[.string ⟨#[97]⟩, .string ⟨#[98]⟩, .string ⟨#[99]⟩, .string ⟨#[120]⟩] 9)).heap.size := by have := b2a.size; omega
       obtain ⟨x2, hx2, _⟩ := pick_cell (RowAt.new w2 9 #[.string ⟨#[97]⟩, .string ⟨#[98]⟩, .string ⟨#[99]⟩, .string ⟨#[120]⟩]) hs4 j hj
       first
         | (obtain ⟨x1, hx1, _⟩ := pick_cell (row_read rowA g2 (by omega)) hs4 j hj; clear g2)
         | clear g2)
    | (go_at_call_of 16 (Value.int IntKind.i64 9)
       refine (pick_any rb a n c 9 _ (by with_reducible first | exact r2 | exact r2a) (by omega) (by omega)).mono ?_
       rintro e w3 ⟨k, rfl, hk, r3, g3⟩
       have o3 : OwnR w3 B v M := by first | exact own_keep o2 g3 hrB | exact own_keep o2a g3 hrB
       have gw3 : Below rb w w3 := by first | exact gw2.trans (grown_keep g3 (Nat.le_refl _) (by omega)) | exact g2a.trans (grown_keep g3 (Nat.le_refl _) (by omega))
       have b3a : Below w3.heap.size w3 (w3.alloc (.cells #[.string ⟨#[97]⟩, .string ⟨#[98]⟩, .string ⟨#[99]⟩, .string ⟨#[120]⟩] 9)) := (Below.refl _ w3).alloc (Nat.le_refl _) _
       have o3a : OwnR (w3.alloc (.cells #[.string ⟨#[97]⟩, .string ⟨#[98]⟩, .string ⟨#[99]⟩, .string ⟨#[120]⟩] 9)) B v M := OwnR.below o3 b3a
       have lt3 : rb < w3.heap.size := by first | exact grown_lt lt2 g3 | exact grown_lt lt2a g3
       have g3a : Below rb w (w3.alloc (.cells #[.string ⟨#[97]⟩, .string ⟨#[98]⟩, .string ⟨#[99]⟩, .string ⟨#[120]⟩] 9)) := gw3.trans (b3a.mono (by omega))
       obtain ⟨x3, hx3, _⟩ := pick_cell (RowAt.new w3 9 #[.string ⟨#[97]⟩, .string ⟨#[98]⟩, .string ⟨#[99]⟩, .string ⟨#[120]⟩]) hs4 j hj
       have k9 : (k : Int) < 9 := by omega
       have kw : IntKind.i64.wrap ((k : Int) - 4) = (k : Int) - 4 := wrap_small (by omega) (by omega)
       first
         | (have hx13 := cell_grown hx1 g3 (by omega); clear g3)
         | (have hx23 := cell_grown hx2 g3 (by omega); clear g3)
         | clear g3))
  all_goals go_wp2
  all_goals go_ret3
  all_goals
    first
    | exact ⟨v, M, _, _, rfl, hM, HF.out, ⟨by omega, by omega⟩, by rw [HRB.out]; exact OwnR.wide o3 (by omega), by rw [HRB.out]; exact gw3⟩
    | exact ⟨v, M, _, _, rfl, hM, HF.out, ⟨by omega, by omega⟩, by rw [HRB.out]; exact OwnR.wide o3a (by omega), by rw [HRB.out]; exact g3a⟩
end Go.Proofs.YtinnjekfmlfdoaaDoor
