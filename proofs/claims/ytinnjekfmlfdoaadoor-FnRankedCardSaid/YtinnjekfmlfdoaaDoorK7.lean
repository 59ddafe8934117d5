/- Ranks without a member. -/
import Derived.Test.YtinnjekfmlfdoaaDoorK6
import Derived.OwnWalk
namespace Go.Proofs.YtinnjekfmlfdoaaDoor
open Go.RowKit Go.Sort

theorem info30 : (Tryd.prog.info? 30).map (fun i => (i.zero, i.size, i.bytes)) = some (some (.agg #[.string ⟨#[]⟩, .int .i64 0]), 2, 24) := by kernel_rfl

/-- The ranks' cells. -/
def flatR (L : List Rk) : List Value := L.flatMap encR
theorem flatR_len (L : List Rk) : (flatR L).length = L.length * 2 := by
  unfold flatR
  induction L with
  | nil => rfl
  | cons x l ih => rw [List.flatMap_cons, List.length_append, ih, List.length_cons]; show 2 + l.length * 2 = _; omega
theorem flatR_app (L M : List Rk) : flatR (L ++ M) = flatR L ++ flatR M := List.flatMap_append

/-- A slice that owns its ranks. -/
abbrev OwnR (w : World) (B : Nat) (v : Value) (L : List Rk) : Prop := w.ownsRow B 30 2 v L.length (flatR L)

theorem ownR_none (w : World) (B : Nat) (hB : B ≤ w.heap.size) : OwnR (w.alloc (.cells #[] 30)) B (.slice (some ⟨w.heap.size, 0, none⟩) 0 0) [] :=
  ⟨rfl, .inr ⟨w.heap.size, 0, #[], rfl, hB, RowAt.new w 30 #[], by simp, by unfold maxLen; omega, by simp, by simp [flatR]⟩⟩

theorem ownR_form {w : World} {B : Nat} {v : Value} {L : List Rk} (h : OwnR w B v L) : ∃ a c, v = .slice a L.length c := by
  rcases Joins.ownsRow_forms h with ⟨h1, h2⟩ | ⟨A, c, rfl⟩
  · exact ⟨none, 0, by rw [h2, h1]⟩
  · exact ⟨some ⟨A, 0, none⟩, c, rfl⟩

theorem below_grown {B : Nat} {w w1 w2 : World} {r : Option Nat} (b : Below B w w1) (g : w1.grownBy w2 r) (hr : ∀ x, r = some x → B ≤ x) (hB : B ≤ w1.heap.size) : Below B w w2 :=
  ⟨g.os.trans b.os, g.tape.trans b.tape, g.output.trans b.output, Nat.le_trans b.size g.size, fun k hk => (g.block k (by omega) (fun e => by have := hr k e.symm; omega)).trans (b.block k hk)⟩

def without (L : List Rk) (m : ByteArray) : List Rk := L.filter fun x => decide (x.m ≠ m)
theorem without_next (L : List Rk) (m : ByteArray) (k : Nat) (h : k < L.length) : without (L.take (k + 1)) m = without (L.take k) m ++ (if (L.getD k rk0).m = m then [] else [L.getD k rk0]) := by
  unfold without
  rw [List.take_succ_eq_append_getElem h, List.filter_append, List.getD_eq_getElem?_getD, List.getElem?_eq_getElem h, Option.getD_some]
  by_cases he : (L[k]).m = m
  · rw [if_pos he]; simp [he]
  · rw [if_neg he]; simp [he]
theorem without_len (L : List Rk) (m : ByteArray) : (without L m).length ≤ L.length := List.length_filter_le _ _

set_option maxHeartbeats 2000000 in
set_option maxRecDepth 100000 in
theorem without_any (a : Option Addr) (b off n c : Nat) (L : List Rk) (m : ByteArray) (w : World) (h : RanksIn w a b off n L) (hn : n ≤ 1048577) :
    Calls Tryd.prog 40 #[.slice a n c, .string m] w fun e w' => ∃ A cc, e = .returned (.slice (some ⟨A, 0, none⟩) (without L m).length cc) ∧ OwnR w' w.heap.size (.slice (some ⟨A, 0, none⟩) (without L m).length cc) (without L m) ∧ Below w.heap.size w w' := by
  obtain ⟨i0, hi, hz0, hz1, hz2⟩ := info_parts info30
  have H : Hid (RanksIn w a b off n L) := h
  have HL : Hid (L.length = n) := h.len
  have HO : Hid _ := ownR_none w w.heap.size (Nat.le_refl _)
  have HB : Hid (Below w.heap.size w (w.alloc (.cells #[] 30))) := (Below.refl _ w).alloc (Nat.le_refl _) _
  clear h
  go_enter Tryd.func40, Tryd.ntmps40
  go_wp2
  go_loopw [5, 6] (fun v i wr => ∃ (k A cc : Nat), k ≤ n ∧ i = .int .i64 k ∧ v = .slice (some ⟨A, 0, none⟩) (without (L.take k) m).length cc ∧ OwnR wr w.heap.size (.slice (some ⟨A, 0, none⟩) (without (L.take k) m).length cc) (without (L.take k) m) ∧ Below w.heap.size w wr) (fun _ i _ => n - (intOf i).toNat)
  case atStart => exact ⟨0, _, _, by omega, rfl, rfl, HO.out, HB.out⟩
  case round =>
    obtain ⟨k, A, cc, hk, rfl, rfl, hown, bk⟩ := hrel
    clear HO HB
    by_cases hlt : k < n
    · have HW := H.out.below bk
      have hy := HW.cell k hlt
      obtain rfl := HW.addr (by omega)
      have d0 := hy.c0
      have d1 := hy.c1
      have HN : Hid (without (L.take (k + 1)) m = without (L.take k) m ++ (if (L.getD k rk0).m = m then [] else [L.getD k rk0])) := without_next L m k (by rw [HL.out]; exact hlt)
      have hwl : (without (L.take k) m).length ≤ k := Nat.le_trans (without_len _ _) (by rw [List.length_take]; omega)
      generalize L.getD k rk0 = y at *
      obtain ⟨ym, ys⟩ := y
      dsimp only at d0 d1
      have sk := bk.size
      clear HW hy
      by_cases he : ym = m
      · have HN2 : Hid (without (L.take (k + 1)) m = without (L.take k) m) := by unfold Hid; rw [HN.out, if_pos he, List.append_nil]
        have hd : (ym.toList == m.toList) = true := by rw [str_eq, decide_eq_true he]
        have HW2 : Hid _ := hown
        subst he
        clear HN hown hd
        go_wp2
        go_roundw
        case rel => exact ⟨k + 1, A, cc, by omega, by go_num, by rw [HN2.out], by rw [HN2.out]; exact HW2.out, bk⟩
        case measure => simp [intOf]; omega
      · have HN2 : Hid (without (L.take (k + 1)) m = without (L.take k) m ++ [⟨ym, ys⟩]) := by unfold Hid; rw [HN.out, if_neg he]
        have hd := str_ne he
        generalize without (L.take k) m = M at *
        clear HN he
        go_wp2_with (at_builtin; refine wpList_append_own _ rfl _ _ 24 rfl w.heap.size 30 i0 _ 2 24 Tryd.underlying24 hi hz0 hz1 hz2 rfl (by decide) _ _ _ rfl (hown.alloc _) ⟨wr.heap.size, 0, none⟩ 1 1 [.string ym, .int .i64 ys] rfl rfl ?c1 ?c2 ?c3 ?c4 ?c5 ?_)
        case c1 =>
          intro j u hj
          rw [Addr.add_lit, Nat.zero_add]
          exact ((RowAt.new wr 30 #[.string ym, .int .i64 ys]).cell j).trans (by simpa using hj)
        case c2 => exact fun u hu => by simp at hu; rcases hu with rfl | rfl <;> rfl
        case c3 => unfold maxLen; omega
        case c4 => omega
        case c5 => simp; omega
        intro v' w5 hown' hgrow _
        have b5 : Below w.heap.size w w5 := below_grown (bk.alloc (by omega) _) hgrow (fun x hx => (hown.lt x hx).1) (by simp; omega)
        have H5 : Hid (OwnR w5 w.heap.size v' (M ++ [⟨ym, ys⟩])) := by
          unfold Hid OwnR
          rw [flatR_app, List.length_append]
          exact hown'
        obtain ⟨A5, c5, hv⟩ : ∃ A cap, v' = .slice (some ⟨A, 0, none⟩) (M ++ [(⟨ym, ys⟩ : Rk)]).length cap := Go.Joins.ownsRow_form H5.out (by simp)
        subst hv
        clear hown' hgrow hown
        go_wp2
        go_roundw
        case rel => exact ⟨k + 1, A5, c5, by omega, by go_num, by rw [HN2.out], by rw [HN2.out]; exact H5.out, b5⟩
        case measure => simp [intOf]; omega
    · obtain rfl : k = n := by omega
      have HT : Hid (L.take k = L) := by unfold Hid; rw [← HL.out]; exact List.take_length
      rw [HT.out] at hown
      have HW2 : Hid _ := hown
      clear hown
      rw [HT.out]
      go_wp2
      go_ret
      exact ⟨A, cc, rfl, HW2.out, bk⟩
end Go.Proofs.YtinnjekfmlfdoaaDoor
