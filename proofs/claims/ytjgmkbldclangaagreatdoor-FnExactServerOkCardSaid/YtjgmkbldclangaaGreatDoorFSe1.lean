/- Lists of texts that came in: szStringSS, toStringSS, eqStringSS at them. -/
import Derived.Test.YtjgmkbldclangaaGreatDoorFSS
namespace Go.Proofs.YtjgmkbldclangaaGreatDoor.Fd
open Go.RowKit Go.Sort

/-- A list of lists of texts that is read. -/
structure ListsB (W : World) (v : Value) (Q : List (List ByteArray)) : Prop where
  val : ∃ a c, v = .slice a Q.length c
  at_ : ∀ i (hi : i < Q.length), ∃ A o cap p b off k, v = .slice (some ⟨A, o, none⟩) Q.length cap ∧ A < W.heap.size ∧ W.cell? ⟨A, o + i, none⟩ = some (.slice p (Q[i]).length k) ∧ StrsIn W p b off (Q[i]).length Q[i]

theorem ListsB.below {W W' : World} {v : Value} {Q : List (List ByteArray)} (h : ListsB W v Q) (hb : Below W.heap.size W W') : ListsB W' v Q :=
  ⟨h.val, fun i hi => by
    obtain ⟨A, o, cap, p, b, off, k, h1, h2, h3, h4⟩ := h.at_ i hi
    exact ⟨A, o, cap, p, b, off, k, h1, Nat.lt_of_lt_of_le h2 hb.size, (hb.cell (p := ⟨A, o + i, none⟩) h2).trans h3, strs_below h4 hb⟩⟩

/-- How much the texts hold, as it is counted. -/
def SmallQ (Q : List (List ByteArray)) : Prop := Q.length ≤ 1048576 ∧ ∀ ss ∈ Q, ss.length ≤ 1048576

set_option maxHeartbeats 2000000 in
set_option maxRecDepth 100000 in
theorem szSS_any (v : Value) (Q : List (List ByteArray)) (left : Int) (w : World) (h : ListsB w v Q) (hn : Q.length ≤ 9223372036854775807) (hfit : ∀ ss ∈ Q, ss.length ≤ 9223372036854775807) (h0 : 0 ≤ left) (h1 : left ≤ 1048576) :
    Calls Tryz.prog 58 #[v, .int .i64 left] w fun e w' => (∃ r : Int, e = .returned (.int .i64 r) ∧ (r < 0 ∨ (r ≤ left ∧ SmallQ Q))) ∧ w' = w := by
  have HB : Hid (ListsB w v Q) := h
  have HF : Hid (∀ ss ∈ Q, ss.length ≤ 9223372036854775807) := hfit
  obtain ⟨a, c, hv⟩ := h.val
  subst hv
  clear h hfit
  by_cases hneg : left - (Q.length : Int) < 0
  · have hd : decide (left - (Q.length : Int) < 0) = true := decide_eq_true hneg
    go_enter Tryz.func58, Tryz.ntmps58
    go_wp2
    go_ret
    exact ⟨⟨-1, rfl, .inl (by omega)⟩, rfl⟩
  · have hd : decide (left - (Q.length : Int) < 0) = false := decide_eq_false hneg
    go_enter Tryz.func58, Tryz.ntmps58
    go_wp2
    go_loopw [1, 5] (fun m i wr => ∃ (k : Nat) (r : Int), k ≤ Q.length ∧ i = .int .i64 k ∧ m = .int .i64 r ∧ 0 ≤ r ∧ r ≤ left ∧ Hid (∀ j (hj : j < Q.length), j < k → (Q[j]).length ≤ 1048576) ∧ wr = w) (fun _ i _ => Q.length - (intOf i).toNat)
    case atStart => exact ⟨0, _, by omega, rfl, rfl, by omega, by omega, fun j hj hlt => by omega, rfl⟩
    case round =>
      obtain ⟨k, r, hk, rfl, rfl, hr0, hr1, hpre, rfl⟩ := hrel
      clear hd
      by_cases hlt : k < Q.length
      · obtain ⟨A, o, cap, p, b, off, kk, e1, _, hc, hs⟩ := HB.out.at_ k hlt
        cases e1
        have HSZ := sz_any p b off (Q[k]).length kk Q[k] r wr hs (HF.out _ (List.getElem_mem hlt)) hr0 (by omega)
        have HT : Hid (∀ x : Int, ((Q[k]).length : Int) + tot Q[k] + x = r → 0 ≤ x → (Q[k]).length ≤ 1048576 ∧ x ≤ left) := fun x hx h0 => by omega
        have HP : Hid ((Q[k]).length ≤ 1048576 → ∀ j (hj : j < Q.length), j < k + 1 → (Q[j]).length ≤ 1048576) := fun hl j hj hjk => by
          by_cases hjk2 : j = k
          · subst hjk2; exact hl
          · exact hpre.out j hj (by omega)
        clear hs hpre
        go_wp2_with fail
        refine HSZ.mono ?_
        rintro e w1 ⟨⟨x, rfl, hx⟩, rfl⟩
        by_cases hx0 : x < 0
        · have hxd : decide (x < 0) = true := decide_eq_true hx0
          clear HSZ hx
          go_wp2
          go_ret
          exact ⟨⟨-1, rfl, .inl (by omega)⟩, rfl⟩
        · have hxd : decide (x < 0) = false := decide_eq_false hx0
          have hx2 : ((Q[k]).length : Int) + tot Q[k] + x = r := by
            rcases hx with hx | hx
            · exact absurd hx hx0
            · exact hx
          have hb := HT.out x hx2 (by omega)
          have HP2 : Hid _ := HP.out hb.1
          have hb2 := hb.2
          clear HSZ hx hx2 HT HP hb
          go_wp2
          go_roundw
          case rel => exact ⟨k + 1, x, by omega, by go_num, rfl, by omega, by omega, HP2.out, trivial⟩
          case measure => simp [intOf]; omega
      · obtain rfl : k = Q.length := by omega
        have HQ : Hid (SmallQ Q) := ⟨by omega, fun ss hss => by
          obtain ⟨i, hi, rfl⟩ := List.getElem_of_mem hss
          exact hpre.out i hi hi⟩
        clear hpre
        go_wp2
        go_ret
        exact ⟨⟨r, rfl, .inr ⟨by omega, HQ.out⟩⟩, rfl⟩

theorem make_lists (n : Nat) (hn : n ≤ 1048576) : ∃ C : Array Value, C.size = n ∧ ∀ w, (Instr.makeSlice 39 (.int .i64 n) (.int .i64 n)).run Tryz.prog w = .ok (.slice (some ⟨w.heap.size, 0, none⟩) n n) (w.alloc (.cells C 52)) := by
  obtain ⟨i0, hi, hz0, hz1, hz2⟩ := info_parts info30
  refine ⟨madeCells (Value.slice none 0 0).cells (n * i0.size), by rw [size_madeCells, hz1, Nat.mul_one], fun w => ?_⟩
  have := run_make (P := Tryz.prog) w 39 52 i0 _ Tryz.underlying39 hi hz0 .i64 .i64 n n (by omega) (by omega) (by rw [hz2]; omega) (by omega)
  simpa using this

/-- The copies that have been made. -/
def Copied (W : World) (B : Nat) (D : Array Value) (Q : List (List ByteArray)) (k : Nat) : Prop :=
  ∀ j (hj : j < Q.length), j < k → ∃ p b off c, D[j]? = some (.slice p (Q[j]).length c) ∧ StrsIn W p b off (Q[j]).length Q[j] ∧ B < b

set_option maxHeartbeats 2000000 in
set_option maxRecDepth 100000 in
theorem toSS_any (v : Value) (Q : List (List ByteArray)) (w : World) (h : ListsB w v Q) (hS : SmallQ Q) :
    Calls Tryz.prog 67 #[v] w fun e w' => ∃ x, e = .returned x ∧ ListsB w' x Q ∧ Below w.heap.size w w' := by
  obtain ⟨C, hC, hmk⟩ := make_lists Q.length hS.1
  have HB : Hid (ListsB w v Q) := h
  have HS : Hid (SmallQ Q) := hS
  have hQn := hS.1
  have HC : Hid (C.size = Q.length) := hC
  obtain ⟨a, c, hv⟩ := h.val
  subst hv
  clear h hS hC
  go_enter Tryz.func67, Tryz.ntmps67
  go_wp2
  go_loopw [4] (fun i wr => ∃ (k : Nat) (D : Array Value), k ≤ Q.length ∧ i = .int .i64 k ∧ Hid (D.size = Q.length) ∧ RowAt wr w.heap.size 52 D ∧ Hid (Copied wr w.heap.size D Q k) ∧ Below w.heap.size w wr) (fun i _ => Q.length - (intOf i).toNat)
  case atStart => exact ⟨0, C, by omega, rfl, HC, RowAt.new _ _ _, fun j hj hlt => by omega, (Below.refl _ _).alloc (Nat.le_refl _) _⟩
  case round =>
    obtain ⟨k, D, hk, rfl, hD, hrow, hcp, bk⟩ := hrel
    have sk := bk.size
    clear hmk
    by_cases hlt : k < Q.length
    · obtain ⟨A, o, cap, p, b, off, kk, e1, hA, hc, hs⟩ := HB.out.at_ k hlt
      cases e1
      have hl : (Q[k]).length ≤ 1048576 := HS.out.2 _ (List.getElem_mem hlt)
      have hcw : wr.cell? ⟨A, o + k, none⟩ = some (.slice p (Q[k]).length kk) := (bk.cell (p := ⟨A, o + k, none⟩) hA).trans hc
      have hsw : StrsIn wr p b off (Q[k]).length Q[k] := ⟨hs.len, hs.addr, fun h => by have := hs.low h; omega, fun i hi => (bk.cell (p := ⟨b, off + i, none⟩) (hs.low (by omega))).trans (hs.cell i hi), hs.fit⟩
      have HCP := copy_any p b off (Q[k]).length kk Q[k] wr hsw (by omega)
      have hrl := hrow.lt
      clear hc hs hsw
      go_wp2_with fail
      refine HCP.mono ?_
      rintro e w1 ⟨rfl, hs1, b1, hlt1⟩
      have hrow1 := hrow.below b1 hrl
      have hg : w1.cell? ⟨w.heap.size, k, none⟩ = some (D[k]'(by rw [hD.out]; exact hlt)) := by rw [hrow1.cell k]; simp [hD.out, hlt]
      have hfz := hrow1.frozen k
      have HR : Hid (RowAt (w1.setCell ⟨w.heap.size, k, none⟩ (.slice (some ⟨wr.heap.size, 0, none⟩) (Q[k]).length (Q[k]).length)) w.heap.size 52 (D.setIfInBounds k (.slice (some ⟨wr.heap.size, 0, none⟩) (Q[k]).length (Q[k]).length))) := hrow1.set k _
      have HK : Hid (Copied (w1.setCell ⟨w.heap.size, k, none⟩ (.slice (some ⟨wr.heap.size, 0, none⟩) (Q[k]).length (Q[k]).length)) w.heap.size (D.setIfInBounds k (.slice (some ⟨wr.heap.size, 0, none⟩) (Q[k]).length (Q[k]).length)) Q (k + 1)) := by
        have keep : ∀ {p : Option Addr} {b off n : Nat} {ss : List ByteArray}, StrsIn w1 p b off n ss → b ≠ w.heap.size → StrsIn (w1.setCell ⟨w.heap.size, k, none⟩ (.slice (some ⟨wr.heap.size, 0, none⟩) (Q[k]).length (Q[k]).length)) p b off n ss := fun {p b off n ss} h hne =>
          ⟨h.len, h.addr, fun h0 => by simpa [World.setCell] using h.low h0, fun i hi => (World.cell?_of_block (Below.heap_setCell _ _ _ _ (by simp only; exact hne))).trans (h.cell i hi), h.fit⟩
        intro j hj hjk
        by_cases hjk2 : k = j
        · subst hjk2
          exact ⟨_, _, _, _, by rw [Array.getElem?_setIfInBounds_self_of_lt (by rw [hD.out]; exact hlt)], keep hs1 (by omega), hrl⟩
        · obtain ⟨p', b', off', c', h1, h2, h3⟩ := hcp.out j hj (by omega)
          exact ⟨p', b', off', c', by rw [Array.getElem?_setIfInBounds_ne hjk2]; exact h1, keep (strs_below h2 b1) (by omega), h3⟩
      generalize hDk : D[k]'(by rw [hD.out]; exact hlt) = old at *
      have HD2 : Hid ((D.setIfInBounds k (.slice (some ⟨wr.heap.size, 0, none⟩) (Q[k]).length (Q[k]).length)).size = Q.length) := by
        unfold Hid; rw [Array.size_setIfInBounds]; exact hD.out
      have B2 : Hid _ := (bk.trans (b1.mono sk)).setCell (p := ⟨w.heap.size, k, none⟩) (Nat.le_refl _) (.slice (some ⟨wr.heap.size, 0, none⟩) (Q[k]).length (Q[k]).length)
      clear hDk hrow hrow1 HCP hcp hs1 b1 hcw
      generalize (Q[k]).length = m at *
      go_wp2
      go_roundw
      case rel => exact ⟨k + 1, _, by omega, by go_num, HD2, HR.out, HK, B2.out⟩
      case measure => simp [intOf]; omega
    · obtain rfl : k = Q.length := by omega
      have HX : Hid (ListsB wr (.slice (some ⟨w.heap.size, 0, none⟩) Q.length Q.length) Q) := by
        refine ⟨⟨_, _, rfl⟩, fun i hi => ?_⟩
        obtain ⟨p, b, off, c, h1, h2, _⟩ := hcp.out i hi hi
        exact ⟨w.heap.size, 0, Q.length, p, b, off, c, rfl, hrow.lt, by rw [Nat.zero_add, hrow.cell i]; exact h1, h2⟩
      clear hcp hD hrow
      go_wp2
      go_ret
      exact ⟨_, rfl, HX.out, bk⟩

set_option maxHeartbeats 2000000 in
set_option maxRecDepth 100000 in
theorem eqSB_any (v1 v2 : Value) (Q : List (List ByteArray)) (w : World) (h1 : ListsB w v1 Q) (h2 : ListsB w v2 Q) (hS : SmallQ Q) :
    Calls Tryz.prog 77 #[v1, v2] w fun e w' => e = .returned (.bool true) ∧ ∃ q, w' = w.drewN q := by
  have HS : Hid (SmallQ Q) := hS
  have hQn := hS.1
  have H1 : Hid (ListsB w v1 Q) := h1
  have H2 : Hid (ListsB w v2 Q) := h2
  obtain ⟨a1, c1, hv1⟩ := h1.val
  obtain ⟨a2, c2, hv2⟩ := h2.val
  subst hv1 hv2
  clear h1 h2 hS
  go_enter Tryz.func77, Tryz.ntmps77
  go_wp2
  go_loopw [5] (fun i wr => ∃ (k q : Nat), k ≤ Q.length ∧ i = .int .i64 k ∧ wr = w.drewN q) (fun i _ => Q.length - (intOf i).toNat)
  case atStart => exact ⟨0, 0, by omega, rfl, rfl⟩
  case round =>
    obtain ⟨k, q, hk, rfl, hwq⟩ := hrel
    have HW : Hid (wr = w.drewN q) := hwq
    have dq : Below w.heap.size w wr := by rw [hwq]; exact below_drewN (Below.refl _ _) q
    have H1' := H1.out.below dq
    have H2' := H2.out.below dq
    clear hwq dq
    by_cases hlt : k < Q.length
    · obtain ⟨A, o, cap, p1, b1, f1, k1, hv1, _, hc1, hs1⟩ := H1'.at_ k hlt
      obtain ⟨A', o', cap', p2, b2, f2, k2, hv2, _, hc2, hs2⟩ := H2'.at_ k hlt
      cases hv1
      cases hv2
      have hl : (Q[k]).length ≤ 1048576 := HS.out.2 _ (List.getElem_mem hlt)
      have HC : ∀ n, Calls Tryz.prog 74 #[.slice p1 (Q[k]).length k1, .slice p2 (Q[k]).length k2] (wr.drewN n) fun e w' => e = .returned (.bool true) ∧ ∃ m, w' = (wr.drewN n).drewN m := fun n => eq_any p1 p2 b1 f1 b2 f2 _ k1 k2 Q[k] _ (strs_drewN hs1) (strs_drewN hs2) (by omega)
      clear hs1 hs2 H1' H2'
      generalize (Q[k]).length = m at *
      go_wp2
      go_quiet ((exact Calls.quiet_of (HC _)))
      go_wp2
      go_roundw
      case rel => exact ⟨k + 1, _, by omega, by go_num, by rw [HW.out, World.drewN_drewN]⟩
      case measure => simp [intOf]; omega
    · clear H1' H2'
      go_wp2
      go_ret
      exact ⟨rfl, q, HW.out⟩
end Go.Proofs.YtjgmkbldclangaaGreatDoor.Fd
