/- Gaps of a heap of which nothing is taken. -/
import Derived.Test.YtfphkppcfoooaabOpen
import Derived.Lib.SmallJoins
namespace Go.Proofs.Ytfphkppcfoooaab
open Go.RowKit

theorem info87 : (Try.prog.info? 87).map (fun i => (i.zero, i.size, i.bytes)) = some (some (.agg #[.int .i64 0, .int .i64 0]), 2, 16) := by kernel_rfl

/-- The list of gaps: none yet, or one from 0 on. -/
def OneGap (w : World) (B k : Nat) (v : Value) : Prop :=
  (k = 0 ∧ v = .slice none 0 0) ∨ (0 < k ∧ ∃ A c D, v = .slice (some ⟨A, 0, none⟩) 1 c ∧ B ≤ A ∧ 1 ≤ c ∧ RowAt w A 87 D ∧ D[0]? = some (.int .i64 0) ∧ D[1]? = some (.int .i64 k))

set_option maxHeartbeats 2000000 in
set_option maxRecDepth 100000 in
theorem gaps0 (g n : Nat) (d : Nat → UInt8) (cs : Value) (w : World) (h : Arena w g d (fun _ => false) n cs) (hn : n ≤ 3000) :
    Calls Try.prog 50 #[.pointer (some ⟨g, 0, none⟩)] w fun e w' => ∃ v, e = .returned v ∧ OneGap w' w.heap.size n v ∧ Below w.heap.size w w' := by
  obtain ⟨C, hr, hsz, hd, ht, hs, hc⟩ := h.row
  obtain ⟨i0, hi, hz0, hz1, hz2⟩ := info_parts info87
  have cs := (hr.cell 6000).trans hs
  have hlt := hr.lt
  have HT : Hid (∀ i, i < 3000 → w.cell? ⟨g, 3000 + i, none⟩ = some (.bool false)) := fun i hi => (hr.cell (3000 + i)).trans (ht i hi)
  clear hr hd ht hs hc h
  go_enter Try.func50, Try.ntmps50
  go_wp2
  go_loopw [3, 4, 5, 10] (fun l b _ i wr => ∃ k : Nat, k ≤ n ∧ i = .int .i64 k ∧ b = .bool (decide (0 < k)) ∧ OneGap wr w.heap.size k l ∧ Below w.heap.size w wr) (fun _ _ _ i _ => n - (intOf i).toNat)
  case atStart => exact ⟨0, by omega, rfl, rfl, .inl ⟨rfl, rfl⟩, Below.refl _ _⟩
  case round =>
    obtain ⟨k, hk, rfl, rfl, hone, bk⟩ := hrel
    have sk := bk.size
    by_cases hlt2 : k < n
    · have ct : wr.cell? ⟨g, 3000 + k, none⟩ = some (.bool false) := (bk.cell (p := ⟨g, 3000 + k, none⟩) hlt).trans (HT.out k (by omega))
      have hki : (k : Int) < 3000 := by omega
      rcases hone with ⟨rfl, rfl⟩ | ⟨hpos, A, c, D, rfl, hA, hc1, hrow, hD0, hD1⟩
      · have hd : decide (0 < 0) = false := by decide
        have ct0 : wr.cell? ⟨g, 3000, none⟩ = some (.bool false) := ct
        go_wp2_with (at_builtin; refine wpList_append_own _ rfl _ _ 84 rfl w.heap.size 87 i0 _ 2 16 Try.underlying84 hi hz0 hz1 hz2 rfl (by decide) _ _ _ rfl (World.ownsRow_nil _ _ _ _) ⟨wr.heap.size, 0, none⟩ 1 1 [.int .i64 0, .int .i64 0] rfl rfl ?c1 ?c2 ?c3 ?c4 ?c5 ?_)
        case c1 =>
          intro j u hj
          rw [Addr.add_lit, Nat.zero_add, (RowAt.new wr 87 _).cell j]
          simpa using hj
        case c2 => intro u hu; simp at hu; subst hu; rfl
        case c3 => unfold maxLen; omega
        case c4 => omega
        case c5 => simp; omega
        intro v' w5 hown' hgrow _
        obtain ⟨_, h0 | ⟨A, cap, cur, rfl, hA, hh, hcap, hmax, hcs, htk⟩⟩ := hown'
        · exfalso; omega
        · have hbA : Below w.heap.size w w5 := ⟨hgrow.os.trans bk.os, hgrow.tape.trans bk.tape, hgrow.output.trans bk.output, by have := hgrow.size; simp at this; omega, fun j hj => (hgrow.block j (by simp; omega) (by simp [Value.ownBlock])).trans ((Below.heap_alloc _ _ _ (by omega)).trans (bk.block j hj))⟩
          have hrow : RowAt w5 A 87 cur := hh
          have h2 : cur.toList.take 2 = [.int .i64 0, .int .i64 0] := htk
          have hD0 : cur[0]? = some (.int .i64 0) := by
            have := congrArg (fun l => l[0]?) h2
            simpa using this
          have hD1 : cur[1]? = some (.int .i64 0) := by
            have := congrArg (fun l => l[1]?) h2
            simpa using this
          have r0 := (hrow.cell 1).trans hD1
          have f0 := hrow.frozen 1
          have HR : Hid (RowAt w5 A 87 cur) := hrow
          have HB : Hid (Below w.heap.size w w5) := hbA
          have HZ : Hid (cur.size = cap * 2) := hcs
          clear hrow hh htk h2 hgrow hbA hcs
          go_wp2
          refine ⟨⟨1, by omega, by go_num, rfl, .inr ⟨by omega, A, cap, _, rfl, hA, hcap, HR.out.set 1 _, ?_, ?_⟩, HB.out.setCell (p := ⟨A, 1, none⟩) hA _⟩, by simp [intOf]; omega⟩
          · rw [Array.getElem?_setIfInBounds_ne (by omega)]; exact hD0
          · rw [Array.getElem?_setIfInBounds_self_of_lt (by have := HZ.out; omega)]; rfl
      · have hd : decide (0 < k) = true := decide_eq_true hpos
        have r0 := (hrow.cell 1).trans hD1
        have f0 := hrow.frozen 1
        have HR : Hid (RowAt wr A 87 D) := hrow
        have h1 : 1 < D.size := by
          rcases Nat.lt_or_ge 1 D.size with h | h
          · exact h
          · rw [Array.getElem?_eq_none h] at hD1; cases hD1
        clear hrow
        go_wp2
        refine ⟨⟨k + 1, by omega, by go_num, by rw [decide_eq_true (by omega)], .inr ⟨by omega, A, c, _, rfl, hA, hc1, HR.out.set 1 _, ?_, ?_⟩, bk.setCell (p := ⟨A, 1, none⟩) hA _⟩, by simp [intOf]; omega⟩
        · rw [Array.getElem?_setIfInBounds_ne (by omega)]; exact hD0
        · rw [Array.getElem?_setIfInBounds_self_of_lt h1]; rfl
    · obtain rfl : k = n := by omega
      go_wp2
      go_ret
      exact ⟨_, rfl, hone, bk⟩
end Go.Proofs.Ytfphkppcfoooaab
