/- FnExactFed: the law's walk. -/
import Derived.Test.YtielombpeeelkaaDoorSS
namespace Go.Proofs.YtielombpeeelkaaDoor
open Go.RowKit Go.Sort

theorem own2_aside {W W' : World} {B M : Nat} {v : Value} {xs : List Value} {rows : List (List Value)} (h : Own2 W B v xs rows) (hM : ∀ g, v.ownBlock = some g → g < M) (hx : ∀ x ∈ xs, ∀ g, x.ownBlock = some g → g < M) (hb : Below M W W') : Own2 W' B v xs rows := by
  have kp : ∀ {T : TypeId} {y : Value} {n : Nat} {ys : List Value}, W.ownsRow B T 1 y n ys → (∀ g, y.ownBlock = some g → g < M) → W'.ownsRow B T 1 y n ys := fun {T y n ys} hy hlt => by
    obtain ⟨h1, ⟨e1, e2⟩ | ⟨g, cap, cur, e1, h2, h3, h4⟩⟩ := hy
    · exact ⟨h1, .inl ⟨e1, e2⟩⟩
    · exact ⟨h1, .inr ⟨g, cap, cur, e1, h2, (hb.block g (hlt g (by rw [e1]; rfl))).trans h3, h4⟩⟩
  refine ⟨kp h.outer hM, fun i r hr => ?_, h.up⟩
  obtain ⟨x, h1, h2⟩ := h.inner i r hr
  exact ⟨x, h1, kp h2 (hx x (List.mem_of_getElem? h1))⟩

set_option maxHeartbeats 4000000 in
set_option maxRecDepth 100000 in
theorem fed_walk (a b : ByteArray) (w : World) (ha : a.size ≤ 9223372036854775807) (hb : b.size ≤ 9223372036854775807) (hr : Ready w) :
    Calls Tryd.prog 4 #[.string a, .string b] w fun e w' => e = .returned (.bool true) ∧ Below w.heap.size w w' := by
  by_cases hbig : 1048576 < a.size
  · have hbi : (1048576 : Int) < (a.size : Int) := by omega
    go_enter Tryd.func4, Tryd.ntmps4
    go_wp2
    go_ret
    exact ⟨rfl, Below.refl _ _⟩
  · have hbi : ¬ (1048576 : Int) < (a.size : Int) := by omega
    by_cases hbig2 : 1048576 < b.size
    · have hbi2 : (1048576 : Int) < (b.size : Int) := by omega
      go_enter Tryd.func4, Tryd.ntmps4
      go_wp2
      go_ret
      exact ⟨rfl, Below.refl _ _⟩
    · have hbi2 : ¬ (1048576 : Int) < (b.size : Int) := by omega
      have hsix := hr.six
      have hs : a.size + b.size ≤ 2097152 := by omega
      obtain ⟨hL1, hL2⟩ := fed_reqs (a.data.toList ++ b.data.toList)
      have hLn : (fedM (a.data.toList ++ b.data.toList)).1.length ≤ 2097152 := by
        rw [List.length_append, ← Lib.size_eq, ← Lib.size_eq] at hL1
        omega
      have HS : Hid (SmallReqs (fedM (a.data.toList ++ b.data.toList)).1) := fun ts hts => (hL2 ts hts).2
      have HSP : Hid (∀ W, Calls Tryd.prog 9 #[.string a, .string b] W (FedEnd W (fedM (a.data.toList ++ b.data.toList)))) := fun W => specFed a b W hs
      have HIM : Hid (∀ W, Ready W → Calls Tryd.prog 8 #[.string a, .string b] W (FedEnd W (fedM (a.data.toList ++ b.data.toList)))) := fun W h => implFed a b W h hs
      have HRW : Hid (Ready w) := hr
      clear hL1 hL2 hr
      unfold FedEnd at HSP HIM
      generalize (fedM (a.data.toList ++ b.data.toList)).1 = L at *
      generalize (fedM (a.data.toList ++ b.data.toList)).2.2 = ok at *
      generalize (⟨(fedM (a.data.toList ++ b.data.toList)).2.1.toArray⟩ : ByteArray) = t at *
      go_enter Tryd.func4, Tryd.ntmps4
      go_wp2_with fail
      refine (HSP.out w).mono ?_
      rintro e w1 ⟨v1, xs1, rfl, o1, b1⟩
      have s1 := b1.size
      have R1 : Hid (Ready w1) := HRW.out.below (b1.mono hsix)
      have L1 : Hid (∀ g, v1.ownBlock = some g → g < w1.heap.size) := fun g hg => (o1.outer.lt g hg).2
      have L1' : Hid (∀ x ∈ xs1, ∀ g, x.ownBlock = some g → g < w1.heap.size) := fun x hx g hg => (o1.blocks x hx g hg).2
      go_wp2_with fail
      refine (HIM.out w1 R1.out).mono ?_
      rintro e w2 ⟨v2, xs2, rfl, o2, b2⟩
      have s2 := b2.size
      have bb2 := b1.trans (b2.mono s1)
      have o12 := o1.below b2
      have HEQ := eqSS_any v2 v1 xs2 xs1 L _ _ w2 o2 o12 HS.out (by omega)
      clear b1 b2 o1
      go_wp2_with fail
      refine HEQ.mono ?_
      rintro e w3 ⟨rfl, q3, rfl⟩
      have o2d := o2.drewN q3
      have o1d := o12.drewN q3
      have bd : Below w.heap.size w (w2.drewN q3) := below_drewN bb2 _
      have sd : (w2.drewN q3).heap.size = w2.heap.size := rfl
      clear HEQ o2 o12 bb2
      generalize w2.drewN q3 = w3 at *
      have HMK := markSS_any v2 xs2 L w1.heap.size w3 o2d HS.out (by omega) (by omega)
      have hst := start_pos L L.length
      have hge : decide ((startAt L L.length : Int) < 0) = false := decide_eq_false (by omega)
      go_wp2_with fail
      refine HMK.mono ?_
      rintro e w4 ⟨rfl, o4, b4⟩
      have s4 := b4.size
      have bb4 := bd.trans (b4.mono s1)
      have o14 := own2_aside o1d L1.out L1'.out b4
      have HHD := heldSS_any v2 xs2 L w1.heap.size w4 o4 HS.out (by omega)
      clear HMK b4 bd o1d o2d
      go_wp2_with fail
      refine HHD.mono ?_
      rintro e w5 ⟨rfl, b5⟩
      have s5 := b5.size
      have bb5 := bb4.trans (b5.mono (by omega))
      have o15 := o14.below b5
      have o25 := o4.below b5
      have R5 : Hid (Ready w5) := HRW.out.below (bb5.mono hsix)
      clear HHD b5 bb4 o14 o4
      go_wp2_with fail
      refine (HIM.out w5 R5.out).mono ?_
      rintro e w6 ⟨v3, xs3, rfl, o3, b6⟩
      have s6 := b6.size
      have bb6 := bb5.trans (b6.mono (by omega))
      have o16 := o15.below b6
      have o26 := o25.below b6
      have HEQ := eqSS_any v3 v1 xs3 xs1 L _ _ w6 o3 o16 HS.out (by omega)
      clear b6 bb5 o15 o25
      go_wp2_with fail
      refine HEQ.mono ?_
      rintro e w7 ⟨rfl, q7, rfl⟩
      have o27 := o26.drewN q7
      have bd7 : Below w.heap.size w (w6.drewN q7) := below_drewN bb6 _
      have sd7 : (w6.drewN q7).heap.size = w6.heap.size := rfl
      clear HEQ o3 o16 o26 bb6
      generalize w6.drewN q7 = w7 at *
      have HHD := heldSS_any v2 xs2 L w1.heap.size w7 o27 HS.out (by omega)
      go_wp2_with fail
      refine HHD.mono ?_
      rintro e w8 ⟨rfl, b8⟩
      have bb8 := bd7.trans (b8.mono (by omega))
      clear HHD b8
      go_wp2
      go_ret
      exact ⟨rfl, bb8⟩
end Go.Proofs.YtielombpeeelkaaDoor
