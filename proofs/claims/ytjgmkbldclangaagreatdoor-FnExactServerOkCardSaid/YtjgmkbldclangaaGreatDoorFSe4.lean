/- A session that came in: szSession, toSession, eqSession. -/
import Derived.Test.YtjgmkbldclangaaGreatDoorFSe3
namespace Go.Proofs.YtjgmkbldclangaaGreatDoor.Fd
open Go.RowKit Go.Sort

/-- A list of lists of texts whose memory lies from B on. -/
structure ListsU (B : Nat) (W : World) (v : Value) (Q : List (List ByteArray)) : Prop where
  val : ∃ a c, v = .slice a Q.length c
  at_ : ∀ i (hi : i < Q.length), ∃ A o cap p b off k, v = .slice (some ⟨A, o, none⟩) Q.length cap ∧ A < W.heap.size ∧ W.cell? ⟨A, o + i, none⟩ = some (.slice p (Q[i]).length k) ∧ StrsIn W p b off (Q[i]).length Q[i] ∧ B ≤ A ∧ B ≤ b

theorem ListsU.lists {B : Nat} {W : World} {v : Value} {Q : List (List ByteArray)} (h : ListsU B W v Q) : ListsB W v Q :=
  ⟨h.val, fun i hi => by
    obtain ⟨A, o, cap, p, b, off, k, h1, h2, h3, h4, _, _⟩ := h.at_ i hi
    exact ⟨A, o, cap, p, b, off, k, h1, h2, h3, h4⟩⟩

theorem ListsU.le {B B' : Nat} {W : World} {v : Value} {Q : List (List ByteArray)} (h : ListsU B W v Q) (hB : B' ≤ B) : ListsU B' W v Q :=
  ⟨h.val, fun i hi => by
    obtain ⟨A, o, cap, p, b, off, k, h1, h2, h3, h4, h5, h6⟩ := h.at_ i hi
    exact ⟨A, o, cap, p, b, off, k, h1, h2, h3, h4, by omega, by omega⟩⟩
theorem ListsU.below {B : Nat} {W W' : World} {v : Value} {Q : List (List ByteArray)} (h : ListsU B W v Q) (hb : Below W.heap.size W W') : ListsU B W' v Q :=
  ⟨h.val, fun i hi => by
    obtain ⟨A, o, cap, p, b, off, k, h1, h2, h3, h4, h5, h6⟩ := h.at_ i hi
    exact ⟨A, o, cap, p, b, off, k, h1, Nat.lt_of_lt_of_le h2 hb.size, (hb.cell (p := ⟨A, o + i, none⟩) h2).trans h3, strs_below h4 hb, h5, h6⟩⟩

theorem ListsU.set {B : Nat} {W : World} {v : Value} {Q : List (List ByteArray)} (h : ListsU B W v Q) {q : Addr} (hq : q.block < B) (x : Value) : ListsU B (W.setCell q x) v Q :=
  ⟨h.val, fun i hi => by
    obtain ⟨A, o, cap, p, b, off, k, h1, h2, h3, h4, h5, h6⟩ := h.at_ i hi
    exact ⟨A, o, cap, p, b, off, k, h1, by simpa [World.setCell] using h2, (World.cell?_of_block (Below.heap_setCell _ _ _ _ (by simp only; omega))).trans h3,
      ⟨h4.len, h4.addr, fun h0 => by simpa [World.setCell] using h4.low h0, fun i hi => (World.cell?_of_block (Below.heap_setCell _ _ _ _ (by simp only; omega))).trans (h4.cell i hi), h4.fit⟩, h5, h6⟩⟩

set_option maxHeartbeats 2000000 in
set_option maxRecDepth 100000 in
theorem toSS_up (v : Value) (Q : List (List ByteArray)) (w : World) (h : ListsB w v Q) (hS : SmallQ Q) :
    Calls Tryz.prog 67 #[v] w fun e w' => ∃ x, e = .returned x ∧ ListsU w.heap.size w' x Q ∧ Below w.heap.size w w' := by
  obtain ⟨C, hC, hmk⟩ := make_lists Q.length hS.1
  have HB : Hid (ListsB w v Q) := h
  have HS : Hid (SmallQ Q) := hS
  have hQn := hS.1
  have HC : Hid (C.size = Q.length) := hC
  obtain ⟨a, c, hv⟩ := h.val
  subst hv
  clear h hS hC
  go_enter Tryz.func67, Tryz.ntmps67
  go_wp2
  go_loopw [4] (fun i wr => ∃ (k : Nat) (D : Array Value), k ≤ Q.length ∧ i = .int .i64 k ∧ Hid (D.size = Q.length) ∧ RowAt wr w.heap.size 52 D ∧ Hid (Copied wr w.heap.size D Q k) ∧ Below w.heap.size w wr) (fun i _ => Q.length - (intOf i).toNat)
  case atStart => exact ⟨0, C, by omega, rfl, HC, RowAt.new _ _ _, fun j hj hlt => by omega, (Below.refl _ _).alloc (Nat.le_refl _) _⟩
  case round =>
    obtain ⟨k, D, hk, rfl, hD, hrow, hcp, bk⟩ := hrel
    have sk := bk.size
    clear hmk
    by_cases hlt : k < Q.length
    · obtain ⟨A, o, cap, p, b, off, kk, e1, hA, hc, hs⟩ := HB.out.at_ k hlt
      cases e1
      have hl : (Q[k]).length ≤ 1048576 := HS.out.2 _ (List.getElem_mem hlt)
      have hcw : wr.cell? ⟨A, o + k, none⟩ = some (.slice p (Q[k]).length kk) := (bk.cell (p := ⟨A, o + k, none⟩) hA).trans hc
      have hsw : StrsIn wr p b off (Q[k]).length Q[k] := ⟨hs.len, hs.addr, fun h => by have := hs.low h; omega, fun i hi => (bk.cell (p := ⟨b, off + i, none⟩) (hs.low (by omega))).trans (hs.cell i hi), hs.fit⟩
      have HCP := copy_any p b off (Q[k]).length kk Q[k] wr hsw (by omega)
      have hrl := hrow.lt
      clear hc hs hsw
      go_wp2_with fail
      refine HCP.mono ?_
      rintro e w1 ⟨rfl, hs1, b1, hlt1⟩
      have hrow1 := hrow.below b1 hrl
      have hg : w1.cell? ⟨w.heap.size, k, none⟩ = some (D[k]'(by rw [hD.out]; exact hlt)) := by rw [hrow1.cell k]; simp [hD.out, hlt]
      have hfz := hrow1.frozen k
      have HR : Hid (RowAt (w1.setCell ⟨w.heap.size, k, none⟩ (.slice (some ⟨wr.heap.size, 0, none⟩) (Q[k]).length (Q[k]).length)) w.heap.size 52 (D.setIfInBounds k (.slice (some ⟨wr.heap.size, 0, none⟩) (Q[k]).length (Q[k]).length))) := hrow1.set k _
      have HK : Hid (Copied (w1.setCell ⟨w.heap.size, k, none⟩ (.slice (some ⟨wr.heap.size, 0, none⟩) (Q[k]).length (Q[k]).length)) w.heap.size (D.setIfInBounds k (.slice (some ⟨wr.heap.size, 0, none⟩) (Q[k]).length (Q[k]).length)) Q (k + 1)) := by
        have keep : ∀ {p : Option Addr} {b off n : Nat} {ss : List ByteArray}, StrsIn w1 p b off n ss → b ≠ w.heap.size → StrsIn (w1.setCell ⟨w.heap.size, k, none⟩ (.slice (some ⟨wr.heap.size, 0, none⟩) (Q[k]).length (Q[k]).length)) p b off n ss := fun {p b off n ss} h hne =>
          ⟨h.len, h.addr, fun h0 => by simpa [World.setCell] using h.low h0, fun i hi => (World.cell?_of_block (Below.heap_setCell _ _ _ _ (by simp only; exact hne))).trans (h.cell i hi), h.fit⟩
        intro j hj hjk
        by_cases hjk2 : k = j
        · subst hjk2
          exact ⟨_, _, _, _, by rw [Array.getElem?_setIfInBounds_self_of_lt (by rw [hD.out]; exact hlt)], keep hs1 (by omega), hrl⟩
        · obtain ⟨p', b', off', c', h1, h2, h3⟩ := hcp.out j hj (by omega)
          exact ⟨p', b', off', c', by rw [Array.getElem?_setIfInBounds_ne hjk2]; exact h1, keep (strs_below h2 b1) (by omega), h3⟩
      generalize hDk : D[k]'(by rw [hD.out]; exact hlt) = old at *
      have HD2 : Hid ((D.setIfInBounds k (.slice (some ⟨wr.heap.size, 0, none⟩) (Q[k]).length (Q[k]).length)).size = Q.length) := by
        unfold Hid; rw [Array.size_setIfInBounds]; exact hD.out
      have B2 : Hid _ := (bk.trans (b1.mono sk)).setCell (p := ⟨w.heap.size, k, none⟩) (Nat.le_refl _) (.slice (some ⟨wr.heap.size, 0, none⟩) (Q[k]).length (Q[k]).length)
      clear hDk hrow hrow1 HCP hcp hs1 b1 hcw
      generalize (Q[k]).length = m at *
      go_wp2
      go_roundw
      case rel => exact ⟨k + 1, _, by omega, by go_num, HD2, HR.out, HK, B2.out⟩
      case measure => simp [intOf]; omega
    · obtain rfl : k = Q.length := by omega
      have HX : Hid (ListsU w.heap.size wr (.slice (some ⟨w.heap.size, 0, none⟩) Q.length Q.length) Q) := by
        refine ⟨⟨_, _, rfl⟩, fun i hi => ?_⟩
        obtain ⟨p, b, off, c, h1, h2, h3⟩ := hcp.out i hi hi
        exact ⟨w.heap.size, 0, Q.length, p, b, off, c, rfl, hrow.lt, by rw [Nat.zero_add, hrow.cell i]; exact h1, h2, Nat.le_refl _, Nat.le_of_lt h3⟩
      clear hcp hD hrow
      go_wp2
      go_ret
      exact ⟨_, rfl, HX.out, bk⟩

set_option maxHeartbeats 2000000 in
set_option maxRecDepth 100000 in
theorem szSess_any (t : ByteArray) (multi : Bool) (v : Value) (Q : List (List ByteArray)) (dirty dead : Bool) (left : Int) (h0 : 0 ≤ left) (h1 : left ≤ 1048576) (w : World) (ht : t.size ≤ 9223372036854775807) (h : ListsB w v Q) (hn : Q.length ≤ 9223372036854775807) (hfit : ∀ ss ∈ Q, ss.length ≤ 9223372036854775807) :
    Calls Tryz.prog 39 #[sessV t multi v dirty dead, .int .i64 left] w fun e w' => (∃ r : Int, e = .returned (.int .i64 r) ∧ (r < 0 ∨ (r ≤ left ∧ t.size ≤ 1048576 ∧ SmallQ Q))) ∧ Below w.heap.size w w' := by
  have HB : Hid (ListsB w v Q) := h
  have HF : Hid (∀ ss ∈ Q, ss.length ≤ 9223372036854775807) := hfit
  obtain ⟨a, c, hv⟩ := h.val
  subst hv
  clear h hfit
  have b0 : Below w.heap.size w (w.alloc (.cells #[.string t, .bool multi, .slice a Q.length c, .bool dirty, .bool dead] 60)) := (Below.refl _ w).alloc (Nat.le_refl _) _
  have q0 := RowAt.new w 60 #[.string t, .bool multi, .slice a Q.length c, .bool dirty, .bool dead]
  have HB1 : Hid (ListsB (w.alloc (.cells #[.string t, .bool multi, .slice a Q.length c, .bool dirty, .bool dead] 60)) (.slice a Q.length c) Q) := HB.out.below b0
  obtain ⟨e0, e1, e2, e3, e4⟩ := five_at q0
  by_cases hneg : left - (t.size : Int) < 0
  · have hd : decide (left - (t.size : Int) < 0) = true := decide_eq_true hneg
    go_enter Tryz.func39, Tryz.ntmps39
    go_upto_region 1 with fail
    generalize w.alloc (.cells #[.string t, .bool multi, .slice a Q.length c, .bool dirty, .bool dead] 60) = w1 at *
    go_wp2
    go_ret
    exact ⟨⟨-1, rfl, .inl (by omega)⟩, b0⟩
  · have hd : decide (left - (t.size : Int) < 0) = false := decide_eq_false hneg
    go_enter Tryz.func39, Tryz.ntmps39
    go_upto_region 1 with fail
    generalize w.alloc (.cells #[.string t, .bool multi, .slice a Q.length c, .bool dirty, .bool dead] 60) = w1 at *
    have HSZ := szSS_any (.slice a Q.length c) Q (left - (t.size : Int)) w1 HB1.out hn HF.out (by omega) (by omega)
    go_wp2_with fail
    refine HSZ.mono ?_
    rintro e w2 ⟨⟨x, rfl, hx⟩, rfl⟩
    have HX : Hid (x < 0 ∨ (x ≤ left - (t.size : Int) ∧ SmallQ Q)) := hx
    clear HSZ hx
    by_cases hx0 : x < 0
    · have hxd : decide (x < 0) = true := decide_eq_true hx0
      go_wp2
      go_ret
      exact ⟨⟨-1, rfl, .inl (by omega)⟩, b0⟩
    · have hxd : decide (x < 0) = false := decide_eq_false hx0
      have HY : Hid (x ≤ left ∧ t.size ≤ 1048576 ∧ SmallQ Q) := ⟨by have := (HX.out.resolve_left hx0).1; omega, by omega, (HX.out.resolve_left hx0).2⟩
      go_wp2
      go_ret
      exact ⟨⟨x, rfl, .inr HY.out⟩, b0⟩

set_option maxHeartbeats 2000000 in
set_option maxRecDepth 100000 in
theorem toSess_any (t : ByteArray) (multi : Bool) (v : Value) (Q : List (List ByteArray)) (dirty dead : Bool) (w : World) (h : ListsB w v Q) (hS : SmallQ Q) :
    Calls Tryz.prog 45 #[sessV t multi v dirty dead] w fun e w' => ∃ x, e = .returned (sessV t multi x dirty dead) ∧ ListsU w.heap.size w' x Q ∧ Below w.heap.size w w' := by
  have HB : Hid (ListsB w v Q) := h
  have HS : Hid (SmallQ Q) := hS
  obtain ⟨a, c, hv⟩ := h.val
  subst hv
  clear h hS
  go_enter Tryz.func45, Tryz.ntmps45
  go_wp2_with fail
  have bw : Below w.heap.size w (((w.alloc (.cells #[.string t, .bool multi, .slice a Q.length c, .bool dirty, .bool dead] 60)).alloc (.cells #[.string ⟨#[]⟩, .bool false, .slice none 0 0, .bool false, .bool false] 41)).alloc (.cells #[.string t, .bool multi, .slice none 0 0, .bool false, .bool false] 41)) := Go.Joins.below_alloc3 _ _ _ _
  have r2 := RowAt.new ((w.alloc (.cells #[.string t, .bool multi, .slice a Q.length c, .bool dirty, .bool dead] 60)).alloc (.cells #[.string ⟨#[]⟩, .bool false, .slice none 0 0, .bool false, .bool false] 41)) 41 #[.string t, .bool multi, .slice none 0 0, .bool false, .bool false]
  have r1 := (RowAt.new (w.alloc (.cells #[.string t, .bool multi, .slice a Q.length c, .bool dirty, .bool dead] 60)) 41 #[.string ⟨#[]⟩, .bool false, .slice none 0 0, .bool false, .bool false]).below ((Below.refl _ _).alloc (Nat.le_refl _) (.cells #[.string t, .bool multi, .slice none 0 0, .bool false, .bool false] 41)) (by simp)
  have r0 := ((RowAt.new w 60 #[.string t, .bool multi, .slice a Q.length c, .bool dirty, .bool dead]).below ((Below.refl _ _).alloc (Nat.le_refl _) (.cells #[.string ⟨#[]⟩, .bool false, .slice none 0 0, .bool false, .bool false] 41)) (by simp)).below ((Below.refl _ _).alloc (Nat.le_refl _) (.cells #[.string t, .bool multi, .slice none 0 0, .bool false, .bool false] 41)) (by simp; omega)
  simp only [World.size_alloc] at r1 r2
  have HB1 : Hid (ListsB _ _ _) := HB.out.below bw
  have hsz : (((w.alloc (.cells #[.string t, .bool multi, .slice a Q.length c, .bool dirty, .bool dead] 60)).alloc (.cells #[.string ⟨#[]⟩, .bool false, .slice none 0 0, .bool false, .bool false] 41)).alloc (.cells #[.string t, .bool multi, .slice none 0 0, .bool false, .bool false] 41)).heap.size = w.heap.size + 1 + 1 + 1 := by simp
  generalize (((w.alloc (.cells #[.string t, .bool multi, .slice a Q.length c, .bool dirty, .bool dead] 60)).alloc (.cells #[.string ⟨#[]⟩, .bool false, .slice none 0 0, .bool false, .bool false] 41)).alloc (.cells #[.string t, .bool multi, .slice none 0 0, .bool false, .bool false] 41)) = W at *
  refine (toSS_up (.slice a Q.length c) Q W HB1.out HS.out).mono ?_
  rintro e w1 ⟨x, rfl, g1, b1⟩
  rw [hsz] at g1 b1
  obtain ⟨xa, xc, hxv⟩ := g1.val
  subst hxv
  have q0 := r0.below b1 (by omega)
  have q1 := r1.below b1 (by omega)
  have q2 := r2.below b1 (by omega)
  obtain ⟨a0, a1, a2, a3, a4⟩ := five_at q1
  obtain ⟨d0, d1, d2, d3, d4⟩ := five_at q2
  obtain ⟨e0, e1, e2, e3, e4⟩ := five_at q0
  have f0 := q1.frozen 0
  have f1 := q1.frozen 1
  have f2 := q1.frozen 2
  have f3 := q1.frozen 3
  have f4 := q1.frozen 4
  have i2 := q2.frozen 2
  have i3 := q2.frozen 3
  have i4 := q2.frozen 4
  have b0 := bw.trans (b1.mono (by omega))
  have HG : Hid (ListsU (w.heap.size + 1 + 1 + 1) w1 (.slice xa Q.length xc) Q) := g1
  clear r0 r1 r2 q0 q1 q2 hsz b1 g1 HB HB1 bw
  go_wp2
  refine bodyPost_ret (v := sessV t multi (.slice xa Q.length xc) dirty dead) (by simp [results, Tryz.results45, go_sem, a0, a1, a2, a3, a4]) rfl ⟨_, rfl, ?_, ?_⟩
  · refine ListsU.le (B := w.heap.size + 1 + 1 + 1) ?_ (by omega)
    repeat refine ListsU.set ?_ (by first | omega | (simp only; omega)) _
    exact HG.out
  · repeat refine Below.setCell ?_ (by first | omega | (simp only; omega)) _
    exact b0

set_option maxHeartbeats 2000000 in
set_option maxRecDepth 100000 in
theorem eqSess_any (t : ByteArray) (multi : Bool) (v1 v2 : Value) (Q : List (List ByteArray)) (dirty dead : Bool) (w : World) (h1 : ListsB w v1 Q) (h2 : ListsB w v2 Q) (hS : SmallQ Q) :
    Calls Tryz.prog 54 #[sessV t multi v1 dirty dead, sessV t multi v2 dirty dead] w fun e w' => e = .returned (.bool true) ∧ Below w.heap.size w w' := by
  have H1 : Hid (ListsB w v1 Q) := h1
  have H2 : Hid (ListsB w v2 Q) := h2
  have HS : Hid (SmallQ Q) := hS
  clear h1 h2 hS
  have hm : (multi != multi) = false := by simp
  have hd : (dirty != dirty) = false := by simp
  have hx : (dead != dead) = false := by simp
  have bw : Below w.heap.size w ((w.alloc (.cells #[.string t, .bool multi, v1, .bool dirty, .bool dead] 41)).alloc (.cells #[.string t, .bool multi, v2, .bool dirty, .bool dead] 41)) := ((Below.refl _ w).alloc (Nat.le_refl _) _).alloc (by simp) _
  have r1 := RowAt.new (w.alloc (.cells #[.string t, .bool multi, v1, .bool dirty, .bool dead] 41)) 41 #[.string t, .bool multi, v2, .bool dirty, .bool dead]
  have r0 := (RowAt.new w 41 #[.string t, .bool multi, v1, .bool dirty, .bool dead]).below ((Below.refl _ _).alloc (Nat.le_refl _) (.cells #[.string t, .bool multi, v2, .bool dirty, .bool dead] 41)) (by simp)
  simp only [World.size_alloc] at r1
  go_enter Tryz.func54, Tryz.ntmps54
  go_upto_region 1 with fail
  generalize ((w.alloc (.cells #[.string t, .bool multi, v1, .bool dirty, .bool dead] 41)).alloc (.cells #[.string t, .bool multi, v2, .bool dirty, .bool dead] 41)) = W at *
  obtain ⟨a0, a1, a2, a3, a4⟩ := five_at r0
  obtain ⟨d0, d1, d2, d3, d4⟩ := five_at r1
  have HQ := eqSB_any v1 v2 Q W (H1.out.below bw) (H2.out.below bw) HS.out
  go_wp2_with fail
  refine HQ.mono ?_
  rintro e w2 ⟨rfl, q, rfl⟩
  have bd : Below W.heap.size W (W.drewN q) := below_drewN (Below.refl _ _) q
  have bb := bw.trans (bd.mono bw.size)
  have l0 := r0.lt
  have l1 := r1.lt
  obtain ⟨a0, a1, a2, a3, a4⟩ := five_at (r0.below bd l0)
  obtain ⟨d0, d1, d2, d3, d4⟩ := five_at (r1.below bd l1)
  generalize W.drewN q = w2 at *
  clear HQ r0 r1
  go_wp2
  go_ret
  exact ⟨rfl, bb⟩
end Go.Proofs.YtjgmkbldclangaaGreatDoor.Fd
