/- The program's gaps, walked. -/
import Derived.Test.YtjjpplpdpldkeaaHSpecA
import Derived.Test.YtjjpplpdpldkeaaHGaps
namespace Go.Proofs.Ytjjpplpdpldkeaa
open Go.RowKit Go.Sort

def flatG (G : List (Nat × Nat)) : List Value := G.flatMap fun x => [.int .i64 x.1, .int .i64 x.2]

theorem flatG_len : ∀ G : List (Nat × Nat), (flatG G).length = G.length * 2
  | [] => rfl
  | x :: r => by
    have := flatG_len r
    simp only [flatG, List.flatMap_cons, List.length_append, List.length_cons, List.length_nil] at this ⊢
    omega

theorem flatG_app (G H : List (Nat × Nat)) : flatG (G ++ H) = flatG G ++ flatG H := by
  unfold flatG
  rw [List.flatMap_append]

theorem flatG_last (G : List (Nat × Nat)) (a k : Nat) : (flatG (G ++ [(a, k)]))[G.length * 2 + 1]? = some (.int .i64 k) := by
  rw [flatG_app, List.getElem?_append_right (by rw [flatG_len]; omega), flatG_len]
  rw [show G.length * 2 + 1 - G.length * 2 = 1 from by omega]
  rfl

theorem flatG_set (G : List (Nat × Nat)) (a k m : Nat) : (flatG (G ++ [(a, k)])).set (G.length * 2 + 1) (.int .i64 m) = flatG (G ++ [(a, m)]) := by
  rw [flatG_app, flatG_app, List.set_append_right _ _ (by rw [flatG_len]; omega), flatG_len]
  rw [show G.length * 2 + 1 - G.length * 2 = 1 from by omega]
  rfl

theorem scan_shape (t : Nat → Bool) : ∀ k, ((scanM t k).2 = true → ∃ G a l, (scanM t k).1 = G ++ [(a, l)] ∧ l ≤ k) ∧ (scanM t k).1.length ≤ k
  | 0 => ⟨fun h => by simp [scanM] at h, by simp [scanM]⟩
  | k + 1 => by
    obtain ⟨h1, h2⟩ := scan_shape t k
    rw [scanM, stepG]
    split
    · exact ⟨fun h => (by simp at h), by show (scanM t k).1.length ≤ _; omega⟩
    · split
      · rename_i h
        obtain ⟨G, a, l, e, hl⟩ := h1 h
        rw [e, bump_last]
        rw [e] at h2
        simp at h2
        exact ⟨fun _ => ⟨G, a, l + 1, rfl, by omega⟩, by simp; omega⟩
      · exact ⟨fun _ => ⟨_, k, 1, rfl, by omega⟩, by simp; omega⟩

theorem owns_set {w : World} {B : Nat} {e : TypeId} {size n A cap j : Nat} {xs : List Value} {u : Value} (h : w.ownsRow B e size (.slice (some ⟨A, 0, none⟩) n cap) n xs) :
    (w.setCell ⟨A, j, none⟩ u).ownsRow B e size (.slice (some ⟨A, 0, none⟩) n cap) n (xs.set j u) := by
  obtain ⟨hl, h | ⟨g, c, cur, hv, hb, hg, h1, h2, h3, h4⟩⟩ := h
  · cases h.1
  · simp only [Value.slice.injEq, Option.some.injEq, Addr.mk.injEq] at hv
    obtain ⟨⟨rfl, _⟩, _, rfl⟩ := hv
    refine ⟨by rw [List.length_set]; exact hl, .inr ⟨A, cap, cur.setIfInBounds j u, rfl, hb, RowAt.set (w := w) (T := e) (C := cur) hg j u, h1, h2, by rw [Array.size_setIfInBounds]; exact h3, ?_⟩⟩
    rw [Array.toList_setIfInBounds, List.take_set, h4]

theorem owns_frozen {w : World} {B : Nat} {e : TypeId} {size n A cap : Nat} {xs : List Value} (h : w.ownsRow B e size (.slice (some ⟨A, 0, none⟩) n cap) n xs) (j : Nat) : w.frozen? ⟨A, j, none⟩ = false := by
  obtain ⟨hl, h | ⟨g, c, cur, hv, hb, hg, _⟩⟩ := h
  · cases h.1
  · simp only [Value.slice.injEq, Option.some.injEq, Addr.mk.injEq] at hv
    obtain ⟨⟨rfl, _⟩, _⟩ := hv
    exact RowAt.frozen (w := w) (T := e) (C := cur) hg j

theorem info89 : (Try.prog.info? 87).map (fun i => (i.zero, i.size, i.bytes)) = some (some (.agg #[.int .i64 0, .int .i64 0]), 2, 16) := by kernel_rfl

set_option maxHeartbeats 2000000 in
set_option maxRecDepth 100000 in
theorem gaps_any (g n : Nat) (d : Nat → UInt8) (t : Nat → Bool) (cs : Value) (w : World) (h : Arena w g d t n cs) (hn : n ≤ 3000) :
    Calls Try.prog 45 #[.pointer (some ⟨g, 0, none⟩)] w fun e w' => ∃ v, e = .returned v ∧ w'.ownsRow w.heap.size 87 2 v (scanM t n).1.length (flatG (scanM t n).1) ∧ Below w.heap.size w w' := by
  obtain ⟨i0, hi, hz0, hz1, hz2⟩ := info_parts info89
  have hsz := h.size
  go_enter Try.func45, Try.ntmps45
  go_wp2
  go_loopw [3, 4, 5, 10] (fun v ins _ i wr => ∃ (k : Nat), k ≤ n ∧ i = .int .i64 k ∧ ins = .bool (scanM t k).2 ∧ wr.ownsRow w.heap.size 87 2 v (scanM t k).1.length (flatG (scanM t k).1) ∧ Below w.heap.size w wr) (fun _ _ _ i _ => n - (intOf i).toNat)
  case atStart => exact ⟨0, by omega, rfl, rfl, World.ownsRow_nil _ _ _ _, Below.refl _ _⟩
  case round =>
    obtain ⟨k, hk, rfl, rfl, hown, bk⟩ := hrel
    have ha := h.below bk h.lt
    by_cases hlt : k < n
    · have ct := ha.taken k (by omega)
      have hki : (k : Int) < 3000 := by omega
      obtain ⟨sh1, sh2⟩ := scan_shape t k
      cases htk : t k with
      | true =>
        rw [htk] at ct
        have HS : Hid (scanM t (k + 1) = ((scanM t k).1, false)) := by unfold Hid; rw [scanM, htk]; rfl
        clear sh1 sh2 htk ha
        go_wp2
        go_roundw
        case rel => exact ⟨k + 1, by omega, by go_num, by rw [HS.out], by rw [HS.out]; exact hown, bk⟩
        case measure => simp [intOf]; omega
      | false =>
        rw [htk] at ct
        cases hin : (scanM t k).2 with
        | true =>
          obtain ⟨G, a, l, e, hl⟩ := sh1 hin
          have HS : Hid (scanM t (k + 1) = (G ++ [(a, l + 1)], true)) := by unfold Hid; rw [scanM, htk, stepG, hin, e, bump_last]; rfl
          rw [e] at hown sh2
          rw [List.length_append] at hown sh2
          simp only [List.length_cons, List.length_nil, Nat.zero_add] at hown sh2
          obtain ⟨A, cap, rfl⟩ := Go.Joins.ownsRow_form hown (by omega)
          have cl : wr.cell? ⟨A, G.length * 2 + 1, none⟩ = some (.int .i64 (l : Nat)) := by
            have := hown.cells rfl (G.length * 2 + 1) _ (flatG_last G a l)
            rw [Addr.add_lit, Nat.zero_add] at this
            exact this
          have fz := owns_frozen hown (G.length * 2 + 1)
          have HO : Hid ((wr.setCell ⟨A, G.length * 2 + 1, none⟩ (.int .i64 ((l : Int) + 1))).ownsRow w.heap.size 87 2 (.slice (some ⟨A, 0, none⟩) (G.length + 1) cap) (G.length + 1) (flatG (G ++ [(a, l + 1)]))) := by
            have := owns_set (j := G.length * 2 + 1) (u := .int .i64 (l + 1 : Nat)) hown
            rw [flatG_set] at this
            exact this
          have hAlt := hown.lt A rfl
          have HB : Hid (Below w.heap.size w (wr.setCell ⟨A, G.length * 2 + 1, none⟩ (.int .i64 ((l : Int) + 1)))) := bk.setCell hAlt.1 _
          clear hown htk hin sh1 e ha
          go_wp2
          go_roundw
          case rel => exact ⟨k + 1, by omega, by go_num, by rw [HS.out], by rw [HS.out, List.length_append]; exact HO.out, HB.out⟩
          case measure => simp [intOf]; omega
        | false =>
          have HS : Hid (scanM t (k + 1) = ((scanM t k).1 ++ [(k, 1)], true)) := by unfold Hid; rw [scanM, htk, stepG, hin]; rfl
          generalize (scanM t k).1 = G at *
          generalize (scanM t k).2 = ins at *
          subst hin
          have hbk := bk.size
          clear htk sh1 ha
          go_wp2_with (at_builtin; refine wpList_append_own _ rfl _ _ 84 rfl w.heap.size 87 i0 _ 2 16 Try.underlying84 hi hz0 hz1 hz2 rfl (by decide) _ _ _ rfl (hown.alloc _) ⟨wr.heap.size, 0, none⟩ 1 1 [.int .i64 k, .int .i64 0] rfl rfl ?c1 ?c2 ?c3 ?c4 ?c5 ?_)
          case c1 =>
            intro j u hj
            rw [Addr.add_lit, Nat.zero_add]
            exact ((RowAt.new wr 87 #[.int .i64 k, .int .i64 0]).cell j).trans (by simpa using hj)
          case c2 => exact fun u hu => by simp at hu; rcases hu with rfl | rfl <;> rfl
          case c3 => unfold maxLen; omega
          case c4 => omega
          case c5 => simp; omega
          intro v0' w5 hown' hgrow _
          obtain ⟨A, cap, hv'⟩ : ∃ A cap, v0' = .slice (some ⟨A, 0, none⟩) (G.length + 1) cap := Go.Joins.ownsRow_form hown' (by omega)
          subst hv'
          have b5 : Below w.heap.size w w5 := below_grown (bk.alloc (by omega) _) hgrow (fun x hx => (hown.lt x hx).1) (by simp; omega)
          have hown5 : w5.ownsRow w.heap.size 87 2 (.slice (some ⟨A, 0, none⟩) (G.length + 1) cap) (G.length + 1) (flatG (G ++ [(k, 0)])) := by
            rw [flatG_app]; exact hown'
          have cl : w5.cell? ⟨A, G.length * 2 + 1, none⟩ = some (.int .i64 0) := by
            have := hown5.cells rfl (G.length * 2 + 1) _ (flatG_last G k 0)
            rw [Addr.add_lit, Nat.zero_add] at this
            exact this
          have fz := owns_frozen hown5 (G.length * 2 + 1)
          have HO : Hid ((w5.setCell ⟨A, G.length * 2 + 1, none⟩ (.int .i64 1)).ownsRow w.heap.size 87 2 (.slice (some ⟨A, 0, none⟩) (G.length + 1) cap) (G.length + 1) (flatG (G ++ [(k, 1)]))) := by
            have := owns_set (j := G.length * 2 + 1) (u := .int .i64 (1 : Nat)) hown5
            rw [flatG_set] at this
            exact this
          have hAlt := hown5.lt A rfl
          have HB : Hid (Below w.heap.size w (w5.setCell ⟨A, G.length * 2 + 1, none⟩ (.int .i64 1))) := b5.setCell hAlt.1 _
          clear hown' hown5 hgrow b5 hown
          go_wp2
          go_roundw
          case rel => exact ⟨k + 1, by omega, by go_num, by rw [HS.out], by rw [HS.out, List.length_append]; exact HO.out, HB.out⟩
          case measure => simp [intOf]; omega
    · obtain rfl : k = n := by omega
      clear ha
      go_wp2
      go_ret
      exact ⟨_, rfl, hown, bk⟩
end Go.Proofs.Ytjjpplpdpldkeaa
