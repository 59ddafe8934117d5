/- The reply's reader: node at a bulk. -/
import Derived.Test.YtcgeafdakaeicaaDoorRrA
import Derived.Deep.RegionWith
import Derived.RegionDies
namespace Go.Proofs.YtcgeafdakaeicaaDoor
open Go.RowKit Go.Sort
open Rp (Nd nd0 plainB numB fieldsB)

theorem R3.below {V : Value} {w w' : World} {rb : Nat} {s : ByteArray} {a B : Nat} (h : R3 V w rb s a) (hb : Below B w w') (hB : rb < B) : R3 V w' rb s a := RowAt.below h hb hB
theorem R3.lt {V : Value} {w : World} {rb : Nat} {s : ByteArray} {a : Nat} (h : R3 V w rb s a) : rb < w.heap.size := RowAt.lt h

set_option maxHeartbeats 1000000 in
theorem node_bulk_none (t : ByteArray) (a : Int) (rb : Nat) (w : World) (hs : t.size ≤ 1048576) (hr : Ready w) (ht : (t.toList == [45, 49]) = false) (hc : countM t.data.toList 200 = none) :
    Calls Tryd.prog 60 #[.pointer (some ⟨rb, 0, none⟩), .int .u8 36, .string t, .int .i64 a] w fun e w' => e = gaveUp 2 ∧ Below w.heap.size w w' := by
  have H : Hid (Calls Tryd.prog 81 #[.string t, .int .i64 200] (w.alloc (.cells z4 44)).drew fun e w' => e = gaveUp 2 ∧ Below (w.alloc (.cells z4 44)).drew.heap.size (w.alloc (.cells z4 44)).drew w') := countOf_none t 200 _ hs ((ready_alloc hr _).below (below_drewN (Below.refl _ _) 1)) hc
  have HB : Hid (Below w.heap.size w (w.alloc (.cells z4 44)).drew) := below_drewN ((Below.refl _ w).alloc (Nat.le_refl _) _) 1
  clear hc
  go_enter Tryd.func60, Tryd.ntmps60
  go_wp2_with fail
  go_region_dies
  all_goals
    go_wp2_with fail
    refine H.out.mono ?_
    rintro e w1 ⟨rfl, b1⟩
    have b2 : Below w.heap.size w w1 := HB.out.trans (b1.mono (by simp))
    unfold gaveUp
    go_wp2
    exact ⟨rfl, rfl, b2⟩

set_option maxHeartbeats 1000000 in
theorem node_bulk_inl (V : Value) (s : ByteArray) (at_ : Nat) (t : ByteArray) (n : Nat) (c a : Int) (rb : Nat) (w : World) (hss : s.size ≤ 1048576) (ha : at_ ≤ s.size) (hR : R3 V w rb s at_) (hs : t.size ≤ 1048576) (hr : Ready w) (ht : (t.toList == [45, 49]) = false) (hc : countM t.data.toList 200 = some n) (hm : someM (s.data.toList.drop at_) n = .inl c) :
    Calls Tryd.prog 60 #[.pointer (some ⟨rb, 0, none⟩), .int .u8 36, .string t, .int .i64 a] w fun e w' => e = gaveUp c ∧ Below w.heap.size w w' := by
  have hn := count_le hc
  have hrb := hR.lt
  have H : Hid (Calls Tryd.prog 81 #[.string t, .int .i64 200] (w.alloc (.cells z4 44)).drew fun e w' => e = .returned (.int .i64 n) ∧ Below (w.alloc (.cells z4 44)).drew.heap.size (w.alloc (.cells z4 44)).drew w') := countOf_some t 200 n _ hs ((ready_alloc hr _).below (below_drewN (Below.refl _ _) 1)) hc
  have HB : Hid (Below w.heap.size w (w.alloc (.cells z4 44)).drew) := below_drewN ((Below.refl _ w).alloc (Nat.le_refl _) _) 1
  have HM : Hid (someM (s.data.toList.drop at_) n = .inl c) := hm
  clear hc hm
  go_enter Tryd.func60, Tryd.ntmps60
  go_wp2_with fail
  go_region_dies
  all_goals
    go_wp2_with fail
    refine H.out.mono ?_
    rintro e w1 ⟨rfl, b1⟩
    have b2 : Below w.heap.size w w1 := HB.out.trans (b1.mono (by simp))
    go_wp2_with fail
    refine wpAny_ready (rs := [5]) (by kernel_rfl) (by simp) ?_
    refine AllReady.cons rfl (fun K hK => ?_) AllReady.nil
    go_simp
    go_wp2_with fail
    refine (some3_inl V s at_ rb n c _ hss ha (by omega) (hR.below b2 hrb) HM.out).mono ?_
    rintro e w2 ⟨rfl, b3⟩
    have b4 : Below w.heap.size w w2 := b2.trans (b3.mono b2.size)
    unfold gaveUp
    go_wp2
    exact ⟨rfl, rfl, b4⟩

set_option maxHeartbeats 2000000 in
theorem node_bulk_inr (V : Value) (s : ByteArray) (at_ : Nat) (t : ByteArray) (n : Nat) (l : List UInt8) (a : Int) (rb : Nat) (w : World) (hss : s.size ≤ 1048576) (ha : at_ ≤ s.size) (hR : R3 V w rb s at_) (hs : t.size ≤ 1048576) (hr : Ready w) (ht : (t.toList == [45, 49]) = false) (hc : countM t.data.toList 200 = some n) (hm : someM (s.data.toList.drop at_) n = .inr l) :
    Calls Tryd.prog 60 #[.pointer (some ⟨rb, 0, none⟩), .int .u8 36, .string t, .int .i64 a] w fun e w' => e = .returned (.agg #[.int .i64 4, .int .i64 0, .string ⟨l.toArray⟩, .slice none 0 0]) ∧ R3 V w' rb s (at_ + n + 2) ∧ w.grownBy w' (some rb) := by
  have hn := count_le hc
  have hrb := hR.lt
  have H : Hid (Calls Tryd.prog 81 #[.string t, .int .i64 200] (w.alloc (.cells z4 44)).drew fun e w' => e = .returned (.int .i64 n) ∧ Below (w.alloc (.cells z4 44)).drew.heap.size (w.alloc (.cells z4 44)).drew w') := countOf_some t 200 n _ hs ((ready_alloc hr _).below (below_drewN (Below.refl _ _) 1)) hc
  have HB : Hid (Below w.heap.size w (w.alloc (.cells z4 44)).drew) := below_drewN ((Below.refl _ w).alloc (Nat.le_refl _) _) 1
  have HZ : Hid (RowAt (w.alloc (.cells z4 44)).drew w.heap.size 44 z4) := RowAt.new w 44 z4
  have HM : Hid (someM (s.data.toList.drop at_) n = .inr l) := hm
  clear hc hm
  go_enter Tryd.func60, Tryd.ntmps60
  go_wp2_with fail
  go_region_with (first
    | (go_at_call 81; refine H.out.mono ?_; rintro e w1 ⟨rfl, b1⟩; have b2 : Below w.heap.size w w1 := HB.out.trans (b1.mono (by simp)); have z1 : RowAt w1 w.heap.size 44 z4 := RowAt.below HZ.out b1 (by simp))
    | (go_at_call 80; refine (some3_inr V s at_ rb n l _ hss ha (by omega) (hR.below b2 hrb) HM.out).2.2.mono ?_; rintro e w2 ⟨rfl, r2, g2⟩; have hz : RowAt w2 w.heap.size 44 z4 := (g2.block _ z1.lt (by simp; omega)).trans z1; have c0 := hz.cell 0; have c1 := hz.cell 1; have c2 := hz.cell 2; have c3 := hz.cell 3; have f0 := hz.frozen 0; have f1 := hz.frozen 1; have f2 := hz.frozen 2; have f3 := hz.frozen 3; simp at c0 c1 c2 c3))
  all_goals
    go_wp2
    have hb2 := b2.size
    refine bodyPost_ret (v := .agg #[.int .i64 4, .int .i64 0, .string ⟨l.toArray⟩, .slice none 0 0]) (by simp [results, Tryd.results60, go_sem, c0, c1, c2, c3]) rfl ⟨rfl, ?_, ?_⟩
    · exact (res4_block w2 _ _ _ _ w.heap.size rb (by omega)).trans r2
    · have g3 := g2.size
      exact ⟨g2.os.trans b2.os, g2.tape.trans b2.tape, g2.output.trans b2.output, by rw [show _ = _ from res4_size w2 _ _ _ _ w.heap.size]; omega, fun k hk hne => (res4_block w2 _ _ _ _ w.heap.size k (by omega)).trans ((g2.block k (by omega) hne).trans (b2.block k hk))⟩
end Go.Proofs.YtcgeafdakaeicaaDoor
