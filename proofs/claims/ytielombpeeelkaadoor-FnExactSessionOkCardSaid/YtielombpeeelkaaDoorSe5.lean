/- FnExactSessionOk: the law's walk. -/
import Derived.Test.YtielombpeeelkaaDoorSe4
namespace Go.Proofs.YtielombpeeelkaaDoor
open Go.RowKit Go.Sort

set_option maxHeartbeats 4000000 in
set_option maxRecDepth 100000 in
theorem sess_walk (t : ByteArray) (multi : Bool) (v : Value) (Q : List (List ByteArray)) (dirty dead : Bool) (w : World) (hr : Ready w) (ht : t.size ≤ 9223372036854775807) (h : ListsB w v Q) (hn : Q.length ≤ 9223372036854775807) (hfit : ∀ ss ∈ Q, ss.length ≤ 9223372036854775807) :
    Calls Tryd.prog 5 #[sessV t multi v dirty dead] w fun e w' => e = .returned (.bool true) ∧ Below w.heap.size w w' := by
  have HB : Hid (ListsB w v Q) := h
  have HF : Hid (∀ ss ∈ Q, ss.length ≤ 9223372036854775807) := hfit
  have HRW : Hid (Ready w) := hr
  have hsix := hr.six
  obtain ⟨a, c, hv⟩ := h.val
  subst hv
  clear h hfit hr
  have b0 : Below w.heap.size w (w.alloc (.cells #[.string t, .bool multi, .slice a Q.length c, .bool dirty, .bool dead] 37)) := (Below.refl _ w).alloc (Nat.le_refl _) _
  have q0 := RowAt.new w 37 #[.string t, .bool multi, .slice a Q.length c, .bool dirty, .bool dead]
  have HB1 : Hid (ListsB (w.alloc (.cells #[.string t, .bool multi, .slice a Q.length c, .bool dirty, .bool dead] 37)) (.slice a Q.length c) Q) := HB.out.below b0
  obtain ⟨e0, e1, e2, e3, e4⟩ := five_at q0
  have l0 := q0.lt
  go_enter Tryd.func5, Tryd.ntmps5
  go_wp2_with fail
  generalize w.alloc (.cells #[.string t, .bool multi, .slice a Q.length c, .bool dirty, .bool dead] 37) = w1 at *
  refine (szSess_any t multi _ Q dirty dead w1 ht HB1.out hn HF.out).mono ?_
  rintro e w2 ⟨⟨r, rfl, hr⟩, b2⟩
  have HR : Hid (r < 0 ∨ (t.size ≤ 1048576 ∧ SmallQ Q)) := hr
  have s2 := b2.size
  have bb2 := b0.trans (b2.mono (by omega))
  have q2 := q0.below b2 (by omega)
  have HB2 : Hid (ListsB w2 (.slice a Q.length c) Q) := HB1.out.below b2
  clear e0 e1 e2 e3 e4 hr b2
  obtain ⟨e0, e1, e2, e3, e4⟩ := five_at q2
  by_cases hneg : r < 0
  · have hd : decide (r < 0) = true := decide_eq_true hneg
    go_wp2
    go_ret
    exact ⟨rfl, bb2⟩
  · have hd : decide (r < 0) = false := decide_eq_false hneg
    have hT : t.size ≤ 1048576 := (HR.out.resolve_left hneg).1
    have HS : Hid (SmallQ Q) := (HR.out.resolve_left hneg).2
    clear HR
    go_wp2_with fail
    refine (toSess_any t multi _ Q dirty dead w2 HB2.out HS.out).mono ?_
    rintro e w3 ⟨x1, rfl, g3, b3⟩
    have G3 : Hid (ListsB w3 x1 Q) := g3
    obtain ⟨xa1, xc1, hx1⟩ := g3.val
    subst hx1
    have s3 := b3.size
    have bb3 := bb2.trans (b3.mono (by omega))
    have q3 := q2.below b3 (by omega)
    have HB3 : Hid (ListsB w3 (.slice a Q.length c) Q) := HB2.out.below b3
    clear e0 e1 e2 e3 e4 b3 g3
    go_wp2_with fail
    refine (specSess t multi _ Q dirty dead w3 hT G3.out HS.out).mono ?_
    rintro e w4 ⟨rfl, b4⟩
    have s4 := b4.size
    have bb4 := bb3.trans (b4.mono (by omega))
    have q4 := q3.below b4 (by omega)
    have HB4 : Hid (ListsB w4 (.slice a Q.length c) Q) := HB3.out.below b4
    obtain ⟨e0, e1, e2, e3, e4⟩ := five_at q4
    clear b4 G3
    generalize hsb : sessB t multi Q dirty dead = sb at *
    have HSB : Hid (sessB t multi Q dirty dead = sb) := hsb
    clear hsb
    go_wp2_with fail
    refine (toSess_any t multi _ Q dirty dead w4 HB4.out HS.out).mono ?_
    rintro e w5 ⟨x2, rfl, g5, b5⟩
    obtain ⟨xa2, xc2, hx2⟩ := g5.val
    subst hx2
    have s5 := b5.size
    have bb5 := bb4.trans (b5.mono (by omega))
    have q5 := q4.below b5 (by omega)
    have ba : Below w5.heap.size w5 (w5.alloc (.cells #[.string t, .bool multi, .slice xa2 Q.length xc2, .bool dirty, .bool dead] 40)) := (Below.refl _ w5).alloc (Nat.le_refl _) _
    have rg := RowAt.new w5 40 #[.string t, .bool multi, .slice xa2 Q.length xc2, .bool dirty, .bool dead]
    have lg := rg.lt
    have q6 := q5.below ba (by omega)
    have HB6 : Hid (ListsB (w5.alloc (.cells #[.string t, .bool multi, .slice xa2 Q.length xc2, .bool dirty, .bool dead] 40)) (.slice a Q.length c) Q) := (HB4.out.below b5).below ba
    have G6 : Hid (ListsB (w5.alloc (.cells #[.string t, .bool multi, .slice xa2 Q.length xc2, .bool dirty, .bool dead] 40)) (.slice xa2 Q.length xc2) Q) := g5.below ba
    have s6 := ba.size
    have bb6 := bb5.trans (ba.mono (by omega))
    have R6 : Hid (Ready (w5.alloc (.cells #[.string t, .bool multi, .slice xa2 Q.length xc2, .bool dirty, .bool dead] 40))) := HRW.out.below (bb6.mono hsix)
    clear e0 e1 e2 e3 e4
    obtain ⟨k0, k1, k2, k3, k4⟩ := five_at rg
    go_wp2_with fail
    generalize hG : w5.heap.size = G at *
    generalize w5.alloc (.cells #[.string t, .bool multi, .slice xa2 Q.length xc2, .bool dirty, .bool dead] 40) = w6 at *
    refine (implSess t multi _ Q dirty dead w6 R6.out hT G6.out HS.out).mono ?_
    rintro e w7 ⟨rfl, b7⟩
    rw [HSB.out]
    have s7 := b7.size
    have bb7 := bb6.trans (b7.mono (by omega))
    have q7 := q6.below b7 (by omega)
    have rg7 := rg.below b7 (by omega)
    have HB7 : Hid (ListsB w7 (.slice a Q.length c) Q) := HB6.out.below b7
    have G7 : Hid (ListsB w7 (.slice xa2 Q.length xc2) Q) := G6.out.below b7
    clear k0 k1 k2 k3 k4
    obtain ⟨e0, e1, e2, e3, e4⟩ := five_at q7
    obtain ⟨k0, k1, k2, k3, k4⟩ := five_at rg7
    clear b7 b5 ba q0 q2 q3 q4 q5 q6 rg g5 HB6 G6 HB4 HB3 HB2 HB1 HB R6 bb2 bb3 bb4 bb5 bb6
    have hne : decide (sb ≠ sb) = false := by simp
    go_wp2_with fail
    have bd : Below w7.heap.size w7 w7.drew := below_drewN (Below.refl _ _) 1
    have HBd : Hid (ListsB w7.drew (.slice a Q.length c) Q) := HB7.out.below bd
    go_region_with (first
      | (go_at_call 17; refine (toSess_any t multi _ Q dirty dead _ HBd.out HS.out).mono ?_; rintro e w8 ⟨x3, rfl, g8, b8⟩; obtain ⟨xa3, xc3, hx3⟩ := g8.val; subst hx3; have b78 : Below w7.heap.size w7 w8 := bd.trans b8; have bb8 := bb7.trans (b78.mono (by omega)); obtain ⟨m0, m1, m2, m3, m4⟩ := five_at (rg7.below b78 (by omega)); have G8 : Hid (ListsB w8 (.slice xa2 Q.length xc2) Q) := G7.out.below b78; have H8 : Hid (ListsB w8 (.slice xa3 Q.length xc3) Q) := g8)
      | (go_at_call 19; refine (eqSess_any t multi _ _ Q dirty dead _ G8.out H8.out HS.out).mono ?_; rintro e w9 ⟨rfl, b9⟩; have bb9 := bb8.trans (b9.mono (by have := b78.size; omega))))
    all_goals
      go_wp2
      go_ret
      exact ⟨rfl, bb9⟩
end Go.Proofs.YtielombpeeelkaaDoor
