/- A few bytes that are drawn; a text that is hurt. -/
import Derived.Test.YtielombpeeelkaaDoorDrawA
import Derived.Lib.SmallJoins
import Derived.Laws.IdiomStrings
namespace Go.Proofs.YtielombpeeelkaaDoor
open Go.RowKit Go.Sort

theorem info5 : (Tryd.prog.info? 5).map (fun i => (i.zero, i.size, i.bytes)) = some (some (.int .u8 0), 1, 1) := by kernel_rfl

theorem bytes_none (w : World) : (w.alloc (.cells #[] 5)).ownsRow w.heap.size 5 1 (.slice (some ⟨w.heap.size, 0, none⟩) 0 0) 0 (Lib.byteCells []) :=
  ⟨rfl, .inr ⟨w.heap.size, 0, #[], rfl, Nat.le_refl _, RowAt.new w 5 #[], by omega, by unfold maxLen; omega, by simp, by simp [Lib.byteCells]⟩⟩

theorem conv_own {w : World} {B A cap : Nat} {xs : List UInt8} (h : w.ownsRow B 5 1 (.slice (some ⟨A, 0, none⟩) xs.length cap) xs.length (Lib.byteCells xs)) :
    (convert 22 9 (.slice (some ⟨A, 0, none⟩) xs.length cap)).run Tryd.prog w = .ok (.string ⟨xs.toArray⟩) w := by
  refine run_convert_bytes_back _ 22 9 5 ⟨A, 0, none⟩ cap xs Tryd.underlying22 Tryd.underlying5 Tryd.underlying9 ?_
  intro j hj
  exact h.cells rfl j _ (by simp [Lib.byteCells, hj])

set_option maxHeartbeats 4000000 in
set_option maxRecDepth 100000 in
theorem bytes_any (rb : Nat) (a : Option Addr) (n c : Nat) (w : World) (h : Rd w rb a n c) (hrb : rb < w.heap.size) :
    Calls Tryd.prog 45 #[.pointer (some ⟨rb, 0, none⟩), .int .i64 2] w (StrEnd w rb a n c) := by
  obtain ⟨i0, hi, hz0, hz1, hz2⟩ := info_parts info5
  have hb : Below w.heap.size w (w.alloc (.cells #[] 5)) := (Below.refl _ w).alloc (Nat.le_refl _) _
  have ho := bytes_none w
  go_enter Tryd.func45, Tryd.ntmps45
  go_wp2_with fail
  generalize w.alloc (.cells #[] 5) = w1 at *
  refine (pick_any rb a n c 3 w1 (h.below hb hrb) (by omega) (by omega)).mono ?_
  rintro e w2 ⟨k, rfl, hk, r2, g2'⟩
  have g2 := grown_trans (grown_below (grown_refl w _) hb) g2'
  have o2 := ho.kept g2' (.inr fun e => by have := (ho.lt rb e).1; omega)
  clear ho hb g2' h
  go_wp2_with fail
  go_loopw [5, 6] (fun tr i wr => ∃ (j A cap : Nat) (xs : List UInt8), j + xs.length ≤ 2 ∧ i = .int .i64 j ∧ tr = .slice (some ⟨A, 0, none⟩) xs.length cap ∧ wr.ownsRow w.heap.size 5 1 tr xs.length (Lib.byteCells xs) ∧ Rd wr rb a n c ∧ w.grownBy wr (some rb)) (fun _ i _ => (intOf i).toNat)
  case atStart => exact ⟨k, w.heap.size, 0, [], by simp; omega, rfl, rfl, o2, r2, g2⟩
  case round =>
    obtain ⟨j, A, cap, xs, hj, rfl, rfl, hown, rd, gr⟩ := hrel
    clear o2 r2 g2
    have hbr := grown_lt hrb gr
    by_cases h0 : 0 < j
    · have hd : (0 : Int) < (j : Int) := by omega
      go_wp2_with fail
      refine (pick_any rb a n c 256 wr rd (by omega) (by omega)).mono ?_
      rintro e w3 ⟨z, rfl, hz, r3, g3⟩
      have hown3 := hown.kept g3 (.inr fun e => by have := (hown.lt rb e).1; omega)
      have g03 := grown_trans gr g3
      have sz3 := g03.size
      have hb3 := grown_lt hrb g03
      have hA : w.heap.size ≤ A := (hown.lt A rfl).1
      have hlen : xs.length ≤ 2 := by omega
      go_wp2_with (at_builtin; refine wpList_append_own _ rfl _ _ 22 rfl w.heap.size 5 i0 _ 1 1 Tryd.underlying22 hi hz0 hz1 hz2 rfl (by decide) _ _ _ rfl (hown3.alloc _) ⟨w3.heap.size, 0, none⟩ 1 1 [.int .u8 z] rfl rfl ?c1 ?c2 ?c3 ?c4 ?c5 ?_)
      case c1 => exact cell_one_new _ _ _
      case c2 => intro y hy; simp at hy; subst hy; rfl
      case c3 => unfold maxLen; omega
      case c4 => omega
      case c5 => simp; omega
      intro v' w5 hown' hgrow _
      have hold : ∀ k, k < w3.heap.size → k ≠ A → w5.heap[k]? = w3.heap[k]? := fun k hk hne => by
        rw [hgrow.block k (by simp; omega) (fun e => hne (Option.some.inj e))]
        exact Below.heap_alloc _ _ _ hk
      have g05 : w.grownBy w5 (some rb) := ⟨hgrow.os.trans g03.os, hgrow.tape.trans g03.tape, hgrow.output.trans g03.output, by have := hgrow.size; simp at this; omega, fun k hk hne => (hold k (by omega) (by omega)).trans (g03.block k hk hne)⟩
      have g35 : Below rb w3 w5 := ⟨hgrow.os, hgrow.tape, hgrow.output, by have := hgrow.size; simp at this; omega, fun k hk => hold k (by omega) (by omega)⟩
      have r5 : Rd w5 rb a n c := by
        obtain ⟨p, hp, hr⟩ := r3.row
        exact ⟨⟨p, hp, (hold rb hb3 (by omega)).trans hr⟩, r3.fit, r3.bytes.below g35⟩
      have hez : ((UInt8.ofNat z).toNat : Int) = (z : Int) := by
        rw [UInt8.toNat_ofNat']
        omega
      have HO : Hid (w5.ownsRow w.heap.size 5 1 v' (xs ++ [UInt8.ofNat z]).length (Lib.byteCells (xs ++ [UInt8.ofNat z]))) := by
        unfold Hid
        rw [List.length_append, Lib.byteCells_append]
        have e : Lib.byteCells [UInt8.ofNat z] = [.int .u8 (z : Int)] := by show [Value.int .u8 ((UInt8.ofNat z).toNat : Int)] = _; rw [hez]
        rw [e]
        exact hown'
      obtain ⟨A', cap', rfl⟩ := Go.Joins.ownsRow_form HO.out (by simp)
      clear hown' hgrow hown3 hold
      go_wp2
      go_roundw
      case rel => exact ⟨j - 1, A', cap', xs ++ [UInt8.ofNat z], by simp; omega, by go_num, rfl, HO.out, r5, g05⟩
      case measure => simp [intOf]; omega
    · obtain rfl : j = 0 := by omega
      have hcv := conv_own hown
      have hlen : xs.length ≤ 2 := by omega
      go_wp2
      go_ret
      exact ⟨_, rfl, by show xs.toArray.size ≤ 20; simp; omega, rd, gr⟩
end Go.Proofs.YtielombpeeelkaaDoor
