/- FnExactRanked: the law's walk. -/
import Derived.Test.YtinnjekfmlfdoaaDoorK19
namespace Go.Proofs.YtinnjekfmlfdoaaDoor
open Go.RowKit Go.Sort

/-- An answer's ranks: all, or none. -/
def resL (I : List Rk) (ok : Bool) : List Rk := if ok = true then I else []

theorem end_res {w w' : World} {I : List Rk} {ok : Bool} {e : Ending} (h : RankedEnd w I ok e w') : ∃ v, e = .returned (.tuple #[v, .bool ok]) ∧ OwnR w' w.heap.size v (resL I ok) ∧ Below w.heap.size w w' := by
  obtain ⟨⟨v, he, ho⟩, hb⟩ := h
  exact ⟨v, he, ho, hb⟩

theorem eqV (v v' : Value) (B B' : Nat) (R : List Rk) (w : World) (h : OwnR w B v R) (h' : OwnR w B' v' R) (hn : R.length ≤ 1048577) : Calls Tryd.prog 11 #[v, v'] w fun e w' => e = .returned (.bool true) ∧ Below w.heap.size w w' := by
  obtain ⟨a, A, c, rfl, hin⟩ := ownR_any h
  obtain ⟨a', A', c', rfl, hin'⟩ := ownR_any h'
  exact eqRankS_any a a' A 0 A' 0 R.length c c' R w hin hin' hn

theorem own_apart {w0 w1 : World} {B0 B1 : Nat} {v0 v1 : Value} {L M : List Rk} (h0 : OwnR w0 B0 v0 L) (h1 : OwnR w1 B1 v1 M) (h : w0.heap.size ≤ B1) : v0.ownBlock = none ∨ v0.ownBlock ≠ v1.ownBlock := by
  cases e : v0.ownBlock with
  | none => exact .inl rfl
  | some k =>
    right
    intro e1
    have a0 := (h0.lt k e).2
    have a1 := (h1.lt k e1.symm).1
    omega

theorem own_apart2 {w0 w1 : World} {B0 B1 : Nat} {v0 v1 : Value} {L M : List Rk} (h0 : OwnR w0 B0 v0 L) (h1 : OwnR w1 B1 v1 M) (h : w0.heap.size ≤ B1) : v1.ownBlock = none ∨ v1.ownBlock ≠ v0.ownBlock := by
  cases e : v1.ownBlock with
  | none => exact .inl rfl
  | some k =>
    right
    intro e1
    have a0 := (h0.lt k e1.symm).2
    have a1 := (h1.lt k e).1
    omega

theorem own_in {w : World} {B A n cap : Nat} {L : List Rk} (h : OwnR w B (.slice (some ⟨A, 0, none⟩) n cap) L) (e : L.length = n) : RanksIn w (some ⟨A, 0, none⟩) A 0 n L := by
  subst e
  exact ownR_in h

theorem ranks_grown {w w' : World} {a : Option Addr} {b off n : Nat} {L : List Rk} (h : RanksIn w a b off n L) {B : Nat} (hb : Below B w w') (hB : 0 < n → b < B) : RanksIn w' a b off n L :=
  ⟨h.len, h.addr, fun h0 => by have := h.low h0; have := hb.size; omega, fun i hi => rk_below (h.cell i hi) (hB (by omega)) hb⟩

theorem resL_len {I : List Rk} {ok : Bool} (h : I.length ≤ 1048577) : (resL I ok).length ≤ 1048577 := by
  unfold resL
  split
  · exact h
  · simp

set_option maxHeartbeats 8000000 in
set_option maxRecDepth 100000 in
theorem walk4 (a : Option Addr) (b off n c : Nat) (L : List Rk) (m : ByteArray) (s : Int) (w : World) (h : RanksIn w a b off n L) (hn : n ≤ 9223372036854775807) (hs : ∀ i, i < n → (L.getD i rk0).m.size ≤ 9223372036854775807) (hf : FitL L) (hfs : fitS s) (ht : Tab w) (hw10 : 2 ≤ w.heap.size) :
    Calls Tryd.prog 4 #[.slice a n c, .string m, .int .i64 s] w fun e w' => e = .returned (.bool true) ∧ Below w.heap.size w w' := by
  by_cases hbig : (1048576 : Int) < (m.size : Int)
  · go_enter Tryd.func4, Tryd.ntmps4
    go_wp2
    go_ret
    exact ⟨rfl, Below.refl _ _⟩
  have cZ := sz_any a b off n c L w h hn hs
  have H : Hid (RanksIn w a b off n L) := h
  have HF : Hid (FitL L) := hf
  have HFS : Hid (fitS s) := hfs
  have HT : Hid (Tab w) := ht
  clear h hs hf hfs ht
  go_enter Tryd.func4, Tryd.ntmps4
  go_wp2_with fail
  refine cZ.mono ?_
  rintro e w0 ⟨⟨r, rfl, hr⟩, b0⟩
  clear cZ
  by_cases hr0 : r < 0
  · clear hr
    go_wp2
    go_ret
    exact ⟨rfl, b0⟩
  have hn2 : n ≤ 1048576 := by rcases hr with hr | hr <;> omega
  clear hr
  have z0 := b0.size
  have L0 : Hid (L.length = n) := H.out.len
  have HI : Hid ((insR (without L m) ⟨m, s⟩).length ≤ 1048577) := by
    unfold Hid
    rw [ins_len]
    have := without_len L m
    rw [L0.out] at this
    omega
  -- the specification's
  have R0 := ranks_grown H.out b0 (fun h0 => H.out.low h0)
  have c1 := toRankS_any a b off n c L w0 R0 hn2
  go_wp2_with fail
  refine c1.mono ?_
  rintro e w1 ⟨rfl, o1, b1, z1⟩
  clear c1
  have bb1 := b0.trans (b1.mono z0)
  have c2 := specRanked (some ⟨w0.heap.size, 0, none⟩) w0.heap.size 0 n n L m s w1 (own_in o1 L0.out) hn2
  generalize hIN : insR (without L m) ⟨m, s⟩ = I at *
  have HIN : Hid (insR (without L m) ⟨m, s⟩ = I) := hIN
  clear hIN
  generalize hok : rankedB L m s = ok at *
  have HOK : Hid (rankedB L m s = ok) := hok
  clear hok
  go_wp2_with fail
  refine c2.mono ?_
  intro e w2 he2
  obtain ⟨v2, rfl, o2, b2⟩ := end_res he2
  clear c2 he2 o1
  have z2 := b2.size
  have bb2 := bb1.trans (b2.mono (by omega))
  have hRl : Hid ((resL I ok).length ≤ 1048577) := resL_len HI.out
  have HTw : Hid (∀ W, Below w.heap.size w W → Tab W) := fun W hW => HT.out.below hW hw10
  have HRw : Hid (∀ W, Below w.heap.size w W → RanksIn W a b off n L) := fun W hW => ranks_grown H.out hW (fun h0 => H.out.low h0)
  have HIm : Hid (∀ (A : Nat) (W : World), OwnR W W.heap.size (.slice none 0 0) [] → RanksIn W (some ⟨A, 0, none⟩) A 0 n L → Below w.heap.size w W → Calls Tryd.prog 7 #[.slice (some ⟨A, 0, none⟩) n n, .string m, .int .i64 s] W (RankedEnd W I ok)) := fun A W _ hR hW => by
    have := implRanked (some ⟨A, 0, none⟩) A 0 n n L m s W hR hn2 HF.out HFS.out (HTw.out W hW) (by have := hW.size; omega)
    rw [HIN.out, HOK.out] at this
    exact this
  have hne : (ok != ok) = false := by simp
  clear H HF HFS HT HI HOK HIN R0
  generalize hR : resL I ok = R at *
  have hRR : Hid (resL I ok = R) := hR
  clear hR
  -- the program's
  have c3 := toRankS_any a b off n c L w2 (HRw.out _ bb2) hn2
  go_wp2_with fail
  refine c3.mono ?_
  rintro e w3 ⟨rfl, o3, b3, z3⟩
  clear c3
  have bb3 := bb2.trans (b3.mono (by omega))
  have o23 := OwnR.below o2 b3
  go_wp2_with fail
  refine (HIm.out _ w3 (ownR_nil _ _) (own_in o3 L0.out) bb3).mono ?_
  intro e w4 he4
  obtain ⟨v4, rfl, o4, b4⟩ := end_res he4
  rw [hRR.out] at o4
  clear he4
  have z4 := b4.size
  have bb4 := bb3.trans (b4.mono (by omega))
  have o24 := OwnR.below o23 b4
  have o34 := OwnR.below o3 b4
  have c5 := eqV v4 v2 _ _ R w4 o4 o24 hRl.out
  go_wp2_with fail
  refine c5.mono ?_
  rintro e w5 ⟨rfl, b5⟩
  clear c5
  have z5 := b5.size
  have bb5 := bb4.trans (b5.mono (by omega))
  have o25 := OwnR.below o24 b5
  have o35 := OwnR.below o34 b5
  have o45 := OwnR.below o4 b5
  have c6 := toRankS_any a b off n c L w5 (HRw.out _ bb5) hn2
  go_wp2_with fail
  refine c6.mono ?_
  rintro e w6 ⟨rfl, o6, b6, z6⟩
  clear c6
  have bb6 := bb5.trans (b6.mono (by omega))
  have o26 := OwnR.below o25 b6
  have o36 := OwnR.below o35 b6
  have o46 := OwnR.below o45 b6
  have c7 := eqV _ _ _ _ L w6 o36 o6 (by rw [L0.out]; omega)
  go_wp2_with fail
  refine c7.mono ?_
  rintro e w7 ⟨rfl, b7⟩
  clear c7 o6
  have z7 := b7.size
  have bb7 := bb6.trans (b7.mono (by omega))
  have o27 := OwnR.below o26 b7
  have o37 := OwnR.below o36 b7
  have o47 := OwnR.below o46 b7
  have hl0 := L0.out
  have c8 := markS_any _ _ L w7 o37 (by rw [L0.out]; omega)
  rw [L0.out] at c8
  go_wp2_with fail
  refine c8.mono ?_
  rintro e w8 ⟨rfl, _, g8⟩
  clear c8 hl0
  have b8 : Below w.heap.size w7 w8 := (own_below o37 g8 (by omega)).mono (by omega)
  have z8 := b8.size
  have bb8 := bb7.trans b8
  have o28 := o27.kept g8 (own_apart o2 o3 (Nat.le_refl _))
  have o48 := o47.kept g8 (own_apart2 o3 o4 (Nat.le_refl _))
  have c9 := eqV v4 v2 _ _ R w8 o48 o28 hRl.out
  generalize hK : 1 + 2 * n = K at *
  have HK : Hid (1 + 2 * n = K) := hK
  clear hK
  have hK0 : ¬ (K : Int) < 0 := by omega
  have hK1 : decide ((K : Int) < 0) = false := by simp
  go_wp2_with fail
  refine c9.mono ?_
  rintro e w9 ⟨rfl, b9⟩
  clear c9
  have z9 := b9.size
  have bb9 := bb8.trans (b9.mono (by omega))
  have o29 := OwnR.below o28 b9
  have o49 := OwnR.below o48 b9
  have c10 := markS_any _ _ R w9 o49 hRl.out
  go_wp2_with fail
  refine c10.mono ?_
  rintro e w10 ⟨rfl, m10, g10⟩
  clear c10
  have b10 : Below w.heap.size w9 w10 := (own_below o49 g10 (by omega)).mono (by omega)
  have z10 := b10.size
  have bb10 := bb9.trans b10
  have o210 := o29.kept g10 (own_apart o2 o4 (by omega))
  generalize hM : 1 + 2 * R.length = M at *
  have c11 := heldS_any _ v4 R.length w10 m10 hRl.out
  rw [hM] at c11
  have HM : Hid (1 + 2 * R.length = M) := hM
  clear hM
  have hM0 : ¬ (M : Int) < 0 := by omega
  have hM1 : decide ((M : Int) < 0) = false := by simp
  go_wp2_with fail
  refine c11.mono ?_
  rintro e w11 ⟨rfl, b11⟩
  clear c11
  have z11 := b11.size
  have bb11 := bb10.trans (b11.mono (by omega))
  have m11 := OwnR.below m10 b11
  have o211 := OwnR.below o210 b11
  have c12 := toRankS_any a b off n c L w11 (HRw.out _ bb11) hn2
  go_wp2_with fail
  refine c12.mono ?_
  rintro e w12 ⟨rfl, o12, b12, z12⟩
  clear c12
  have bb12 := bb11.trans (b12.mono (by omega))
  have m12 := OwnR.below m11 b12
  have o212 := OwnR.below o211 b12
  go_wp2_with fail
  refine (HIm.out _ w12 (ownR_nil _ _) (own_in o12 L0.out) bb12).mono ?_
  intro e w13 he13
  obtain ⟨v13, rfl, o13, b13⟩ := end_res he13
  rw [hRR.out] at o13
  clear he13
  have z13 := b13.size
  have bb13 := bb12.trans (b13.mono (by omega))
  have m13 := OwnR.below m12 b13
  have o213 := OwnR.below o212 b13
  have c14 := eqV v13 v2 _ _ R w13 o13 o213 hRl.out
  go_wp2_with fail
  refine c14.mono ?_
  rintro e w14 ⟨rfl, b14⟩
  clear c14
  have z14 := b14.size
  have bb14 := bb13.trans (b14.mono (by omega))
  have m14 := OwnR.below m13 b14
  have c15 := heldS_any _ v4 R.length w14 m14 hRl.out
  rw [HM.out] at c15
  go_wp2_with fail
  refine c15.mono ?_
  rintro e w15 ⟨rfl, b15⟩
  clear c15
  have bb15 := bb14.trans (b15.mono (by omega))
  go_wp2
  go_ret
  exact ⟨rfl, bb15⟩
end Go.Proofs.YtinnjekfmlfdoaaDoor
