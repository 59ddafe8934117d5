/- A reply that is drawn at no depth: a leaf. -/
import Derived.Test.YtcgeafdakaeicaaDoorRply
namespace Go.Proofs.YtcgeafdakaeicaaDoor
open Go.RowKit Go.Sort
open Rp (Nd nd0 plainB numB fieldsB)

set_option maxHeartbeats 8000000 in
set_option maxRecDepth 100000 in
theorem reply_d0 : ReplyD 1 0 := by
  intro rb ra rn rc B V P w hr hB hBw ho hP
  obtain ⟨i0, hi, hz0, hz1, hz2⟩ := info_parts Rp.info33
  have H : Dn w rb ra rn rc B V P w V [] := Dn.start ho hr
  go_enter Tryd.func38, Tryd.ntmps38
  go_wp2_with fail
  refine (below_any rb ra rn rc 7 w hr (by omega) (by omega)).mono ?_
  rintro e w1 ⟨j, rfl, j0, j1, r1, g1⟩
  have H1 := H.grown r1 g1
  have s1 := g1.size
  have hj : j = 0 ∨ j = 1 ∨ j = 2 ∨ j = 3 ∨ j = 4 ∨ j = 5 ∨ j = 6 := by omega
  clear j0 j1 r1 g1 H ho hr
  rcases hj with rfl | rfl | rfl | rfl | rfl | rfl | rfl
  · have hl := RowAt.new w1 9 #[.string ⟨#[79, 75]⟩, .string ⟨#[]⟩, .string ⟨#[80, 79, 78, 71]⟩]
    have hs : SmallC #[.string ⟨#[79, 75]⟩, .string ⟨#[]⟩, .string ⟨#[80, 79, 78, 71]⟩] := small_of [⟨#[79, 75]⟩, ⟨#[]⟩, ⟨#[80, 79, 78, 71]⟩] (by decide)
    have H2 := H1.alloc (.cells #[.string ⟨#[79, 75]⟩, .string ⟨#[]⟩, .string ⟨#[80, 79, 78, 71]⟩] 9)
    have l1 := H1.lt
    go_wp2_with fail
    generalize w1.alloc (.cells #[.string ⟨#[79, 75]⟩, .string ⟨#[]⟩, .string ⟨#[80, 79, 78, 71]⟩] 9) = w2 at *
    refine (pick_any rb ra rn rc 3 w2 H2.rd (by omega) (by omega)).mono ?_
    rintro e w3 ⟨z, rfl, hz, r3, g3⟩
    have H3 := H2.grown r3 g3
    have sz3 := H3.fr.size
    obtain ⟨s, hc, hsz⟩ := pick_cell (row_read hl g3 (by omega)) hs z (by simpa using hz)
    have z0 : (0 : Int) ≤ (z : Int) := by omega
    have z1 : (z : Int) < 3 := by omega
    clear hl hs g3 r3
    go_wp2_with (at_builtin; refine wpList_append_own_at _ rfl _ _ 24 rfl B 44 i0 _ 4 56 Tryd.underlying24 hi hz0 hz1 hz2 rfl (by decide) _ _ _ rfl (H3.own.row.alloc _) ⟨w3.heap.size, 0, none⟩ 1 1 [.int .i64 1, .int .i64 0, .string s, .slice none 0 0] rfl rfl ?c1 ?c2 ?c3 ?c4 ?c5 ?_)
    case c1 => exact cell_four w3 ⟨1, 0, s, []⟩ (.slice none 0 0)
    case c2 => intro y hy; simp at hy; rcases hy with rfl | rfl | rfl | rfl <;> rfl
    case c3 => simp; unfold maxLen; omega
    case c4 => simp; omega
    case c5 => simp; omega
    intro v' w5 hown' hgrow _ hblk
    have hE : Hid (DrawnEnd w rb ra rn rc B V P 1 (.returned v') w5) := ⟨v', _, rfl, H3.put (x := ⟨1, 0, s, []⟩) hB hBw (small_leaf _ _ _ (by exact hsz)) (kids_nil _ _) (fun _ _ _ _ e => by simp [Value.ownBlock] at e) (fun k e => by simp [Value.ownBlock] at e) (by rw [List.append_nil]; exact hown') hgrow hblk, by simp, by simp⟩
    clear hown' hgrow hblk
    go_wp2
    go_ret
    exact hE.out
  · go_wp2_with (at_builtin; refine wpList_append_own_at _ rfl _ _ 24 rfl B 44 i0 _ 4 56 Tryd.underlying24 hi hz0 hz1 hz2 rfl (by decide) _ _ _ rfl (H1.own.row.alloc _) ⟨w1.heap.size, 0, none⟩ 1 1 [.int .i64 2, .int .i64 0, .string ⟨#[69, 82, 82]⟩, .slice none 0 0] rfl rfl ?c1 ?c2 ?c3 ?c4 ?c5 ?_)
    case c1 => exact cell_four w1 ⟨2, 0, ⟨#[69, 82, 82]⟩, []⟩ (.slice none 0 0)
    case c2 => intro y hy; simp at hy; rcases hy with rfl | rfl | rfl | rfl <;> rfl
    case c3 => simp; unfold maxLen; omega
    case c4 => simp; omega
    case c5 => simp; omega
    intro v' w5 hown' hgrow _ hblk
    have hE : Hid (DrawnEnd w rb ra rn rc B V P 1 (.returned v') w5) := ⟨v', _, rfl, H1.put (x := ⟨2, 0, ⟨#[69, 82, 82]⟩, []⟩) hB hBw (small_leaf _ _ _ (by decide)) (kids_nil _ _) (fun _ _ _ _ e => by simp [Value.ownBlock] at e) (fun k e => by simp [Value.ownBlock] at e) (by rw [List.append_nil]; exact hown') hgrow hblk, by simp, by simp⟩
    clear hown' hgrow hblk
    go_wp2
    go_ret
    exact hE.out
  · go_wp2_with fail
    refine (near_anyN rb ra rn rc w1 H1.rd).mono ?_
    rintro e w2 ⟨x, rfl, r2, g2⟩
    have H2 := H1.grown r2 g2
    have sz2 := H2.fr.size
    clear r2 g2
    go_wp2_with (at_builtin; refine wpList_append_own_at _ rfl _ _ 24 rfl B 44 i0 _ 4 56 Tryd.underlying24 hi hz0 hz1 hz2 rfl (by decide) _ _ _ rfl (H2.own.row.alloc _) ⟨w2.heap.size, 0, none⟩ 1 1 [.int .i64 3, .int .i64 x, .string ⟨#[]⟩, .slice none 0 0] rfl rfl ?c1 ?c2 ?c3 ?c4 ?c5 ?_)
    case c1 => exact cell_four w2 ⟨3, x, ⟨#[]⟩, []⟩ (.slice none 0 0)
    case c2 => intro y hy; simp at hy; rcases hy with rfl | rfl | rfl | rfl <;> rfl
    case c3 => simp; unfold maxLen; omega
    case c4 => simp; omega
    case c5 => simp; omega
    intro v' w5 hown' hgrow _ hblk
    have hE : Hid (DrawnEnd w rb ra rn rc B V P 1 (.returned v') w5) := ⟨v', _, rfl, H2.put (x := ⟨3, x, ⟨#[]⟩, []⟩) hB hBw (small_leaf _ _ _ (by decide)) (kids_nil _ _) (fun _ _ _ _ e => by simp [Value.ownBlock] at e) (fun k e => by simp [Value.ownBlock] at e) (by rw [List.append_nil]; exact hown') hgrow hblk, by simp, by simp⟩
    clear hown' hgrow hblk
    go_wp2
    go_ret
    exact hE.out
  · go_wp2_with (at_builtin; refine wpList_append_own_at _ rfl _ _ 24 rfl B 44 i0 _ 4 56 Tryd.underlying24 hi hz0 hz1 hz2 rfl (by decide) _ _ _ rfl (H1.own.row.alloc _) ⟨w1.heap.size, 0, none⟩ 1 1 [.int .i64 5, .int .i64 0, .string ⟨#[]⟩, .slice none 0 0] rfl rfl ?c1 ?c2 ?c3 ?c4 ?c5 ?_)
    case c1 => exact cell_four w1 ⟨5, 0, ⟨#[]⟩, []⟩ (.slice none 0 0)
    case c2 => intro y hy; simp at hy; rcases hy with rfl | rfl | rfl | rfl <;> rfl
    case c3 => simp; unfold maxLen; omega
    case c4 => simp; omega
    case c5 => simp; omega
    intro v' w5 hown' hgrow _ hblk
    have hE : Hid (DrawnEnd w rb ra rn rc B V P 1 (.returned v') w5) := ⟨v', _, rfl, H1.put (x := ⟨5, 0, ⟨#[]⟩, []⟩) hB hBw (small_leaf _ _ _ (by decide)) (kids_nil _ _) (fun _ _ _ _ e => by simp [Value.ownBlock] at e) (fun k e => by simp [Value.ownBlock] at e) (by rw [List.append_nil]; exact hown') hgrow hblk, by simp, by simp⟩
    clear hown' hgrow hblk
    go_wp2
    go_ret
    exact hE.out
  · go_wp2_with fail
    refine (text_any rb ra rn rc w1 H1.rd H1.lt).mono ?_
    rintro e w2 ⟨s, rfl, hsz, r2, g2⟩
    have H2 := H1.grown r2 g2
    have sz2 := H2.fr.size
    clear r2 g2
    go_wp2_with (at_builtin; refine wpList_append_own_at _ rfl _ _ 24 rfl B 44 i0 _ 4 56 Tryd.underlying24 hi hz0 hz1 hz2 rfl (by decide) _ _ _ rfl (H2.own.row.alloc _) ⟨w2.heap.size, 0, none⟩ 1 1 [.int .i64 4, .int .i64 0, .string s, .slice none 0 0] rfl rfl ?c1 ?c2 ?c3 ?c4 ?c5 ?_)
    case c1 => exact cell_four w2 ⟨4, 0, s, []⟩ (.slice none 0 0)
    case c2 => intro y hy; simp at hy; rcases hy with rfl | rfl | rfl | rfl <;> rfl
    case c3 => simp; unfold maxLen; omega
    case c4 => simp; omega
    case c5 => simp; omega
    intro v' w5 hown' hgrow _ hblk
    have hE : Hid (DrawnEnd w rb ra rn rc B V P 1 (.returned v') w5) := ⟨v', _, rfl, H2.put (x := ⟨4, 0, s, []⟩) hB hBw (small_leaf _ _ _ (by exact hsz)) (kids_nil _ _) (fun _ _ _ _ e => by simp [Value.ownBlock] at e) (fun k e => by simp [Value.ownBlock] at e) (by rw [List.append_nil]; exact hown') hgrow hblk, by simp, by simp⟩
    clear hown' hgrow hblk
    go_wp2
    go_ret
    exact hE.out
  · go_wp2_with fail
    refine (text_any rb ra rn rc w1 H1.rd H1.lt).mono ?_
    rintro e w2 ⟨s, rfl, hsz, r2, g2⟩
    have H2 := H1.grown r2 g2
    have sz2 := H2.fr.size
    clear r2 g2
    go_wp2_with (at_builtin; refine wpList_append_own_at _ rfl _ _ 24 rfl B 44 i0 _ 4 56 Tryd.underlying24 hi hz0 hz1 hz2 rfl (by decide) _ _ _ rfl (H2.own.row.alloc _) ⟨w2.heap.size, 0, none⟩ 1 1 [.int .i64 4, .int .i64 0, .string s, .slice none 0 0] rfl rfl ?c1 ?c2 ?c3 ?c4 ?c5 ?_)
    case c1 => exact cell_four w2 ⟨4, 0, s, []⟩ (.slice none 0 0)
    case c2 => intro y hy; simp at hy; rcases hy with rfl | rfl | rfl | rfl <;> rfl
    case c3 => simp; unfold maxLen; omega
    case c4 => simp; omega
    case c5 => simp; omega
    intro v' w5 hown' hgrow _ hblk
    have hE : Hid (DrawnEnd w rb ra rn rc B V P 1 (.returned v') w5) := ⟨v', _, rfl, H2.put (x := ⟨4, 0, s, []⟩) hB hBw (small_leaf _ _ _ (by exact hsz)) (kids_nil _ _) (fun _ _ _ _ e => by simp [Value.ownBlock] at e) (fun k e => by simp [Value.ownBlock] at e) (by rw [List.append_nil]; exact hown') hgrow hblk, by simp, by simp⟩
    clear hown' hgrow hblk
    go_wp2
    go_ret
    exact hE.out
  · go_wp2_with fail
    refine (text_any rb ra rn rc w1 H1.rd H1.lt).mono ?_
    rintro e w2 ⟨s, rfl, hsz, r2, g2⟩
    have H2 := H1.grown r2 g2
    have sz2 := H2.fr.size
    clear r2 g2
    go_wp2_with (at_builtin; refine wpList_append_own_at _ rfl _ _ 24 rfl B 44 i0 _ 4 56 Tryd.underlying24 hi hz0 hz1 hz2 rfl (by decide) _ _ _ rfl (H2.own.row.alloc _) ⟨w2.heap.size, 0, none⟩ 1 1 [.int .i64 4, .int .i64 0, .string s, .slice none 0 0] rfl rfl ?c1 ?c2 ?c3 ?c4 ?c5 ?_)
    case c1 => exact cell_four w2 ⟨4, 0, s, []⟩ (.slice none 0 0)
    case c2 => intro y hy; simp at hy; rcases hy with rfl | rfl | rfl | rfl <;> rfl
    case c3 => simp; unfold maxLen; omega
    case c4 => simp; omega
    case c5 => simp; omega
    intro v' w5 hown' hgrow _ hblk
    have hE : Hid (DrawnEnd w rb ra rn rc B V P 1 (.returned v') w5) := ⟨v', _, rfl, H2.put (x := ⟨4, 0, s, []⟩) hB hBw (small_leaf _ _ _ (by exact hsz)) (kids_nil _ _) (fun _ _ _ _ e => by simp [Value.ownBlock] at e) (fun k e => by simp [Value.ownBlock] at e) (by rw [List.append_nil]; exact hown') hgrow hblk, by simp, by simp⟩
    clear hown' hgrow hblk
    go_wp2
    go_ret
    exact hE.out
end Go.Proofs.YtcgeafdakaeicaaDoor
