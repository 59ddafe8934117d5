/- A reply that is drawn: its nodes behind those that are there. A reply that is drawn at no depth: a leaf. A reply that is drawn, whole. -/
import Derived.Test.YtcgeafdakaeicaaDoorDrTB
import Derived.Test.YtcgeafdakaeicaaDoorSqE
namespace Go.Proofs.YtcgeafdakaeicaaDoor
open Go.RowKit Go.Sort
open Rp (Nd nd0 plainB numB fieldsB)

/-- What lies in memory while a reply is drawn: the nodes Q behind those that were there (P). -/
structure Dn (w : World) (rb : Nat) (ra : Option Addr) (rn rc B : Nat) (V : Value) (P : List Nv) (w1 : World) (V1 : Value) (Q : List Nv) : Prop where
  own : OwnN w1 B V1 (P ++ Q)
  small : ∀ p ∈ Q, Sm p.1
  rd : Rd w1 rb ra rn rc
  new : NewQ w Q
  fr : Fr w w1 rb V
  nw : Nw w V V1

theorem Dn.start {w : World} {rb : Nat} {ra : Option Addr} {rn rc B : Nat} {V : Value} {P : List Nv} (h : OwnN w B V P) (r : Rd w rb ra rn rc) : Dn w rb ra rn rc B V P w V [] :=
  ⟨by rw [List.append_nil]; exact h, (fun p hp => absurd hp (by simp)), r, (fun p hp => absurd hp (by simp)), Fr.refl _ _ _, Nw.refl _ _⟩

theorem Dn.grown {w w1 w2 : World} {rb : Nat} {ra : Option Addr} {rn rc B : Nat} {V V1 : Value} {P Q : List Nv} (h : Dn w rb ra rn rc B V P w1 V1 Q) (r : Rd w2 rb ra rn rc) (g : w1.grownBy w2 (some rb)) : Dn w rb ra rn rc B V P w2 V1 Q := by
  obtain ⟨p, _, hr⟩ := h.rd.row
  exact ⟨h.own.grown hr (by decide) (by decide) g, h.small, r, h.new, h.fr.trans (Fr.of_grown V1 g) h.nw, h.nw⟩

theorem Dn.alloc {w w1 : World} {rb : Nat} {ra : Option Addr} {rn rc B : Nat} {V V1 : Value} {P Q : List Nv} (h : Dn w rb ra rn rc B V P w1 V1 Q) (o : Obj) : Dn w rb ra rn rc B V P (w1.alloc o) V1 Q := by
  obtain ⟨p, _, hr⟩ := h.rd.row
  have hb : Below w1.heap.size w1 (w1.alloc o) := (Below.refl _ w1).alloc (Nat.le_refl _) _
  exact ⟨h.own.below hb (Nat.le_refl _), h.small, h.rd.below hb hr.lt, h.new, h.fr.trans (Fr.of_below rb V1 hb) h.nw, h.nw⟩

theorem Dn.lt {w w1 : World} {rb : Nat} {ra : Option Addr} {rn rc B : Nat} {V V1 : Value} {P Q : List Nv} (h : Dn w rb ra rn rc B V P w1 V1 Q) : rb < w1.heap.size := by
  obtain ⟨p, _, hr⟩ := h.rd.row
  exact hr.lt

/-- One node more. -/
theorem Dn.put {w w1 w5 : World} {rb : Nat} {ra : Option Addr} {rn rc B : Nat} {V V1 v' K : Value} {P Q : List Nv} {x : Nd} {o : Obj} (h : Dn w rb ra rn rc B V P w1 V1 Q) (hB : rb < B) (hBw : B ≤ w.heap.size) (hx : Sm x) (hk : w1.ownsRow B 2 1 K x.kids.length (intVals x.kids)) (ha : Apart K (P ++ Q)) (hkn : ∀ k, K.ownBlock = some k → w.heap.size ≤ k)
    (ho : w5.ownsRow B 44 4 v' ((P ++ Q).length + 1) (flatN (P ++ Q) ++ [.int .i64 x.kind, .int .i64 x.num, .string x.s, K])) (hg : (w1.alloc o).grownBy w5 V1.ownBlock) (hb : v'.ownBlock = V1.ownBlock ∨ v'.ownBlock = some (w1.heap.size + 1)) : Dn w rb ra rn rc B V P w5 v' (Q ++ [(x, K)]) := by
  have hs : (w1.alloc o).heap.size = w1.heap.size + 1 := by simp
  have bA : Below w1.heap.size w1 (w1.alloc o) := (Below.refl _ w1).alloc (Nat.le_refl _) _
  have hsz := h.fr.size
  have hg5 := hg.size
  have hlt := h.lt
  have oA := h.own.below bA (Nat.le_refl _)
  have kA : (w1.alloc o).ownsRow B 2 1 K x.kids.length (intVals x.kids) := owns_block hk fun g hg' => bA.block g (own_lt hk hg').2
  have b5 : Below B w1 w5 := ⟨hg.os, hg.tape, hg.output, by omega, fun k hk' => (hg.block k (by omega) (fun e => by have := (own_lt h.own.row e.symm).1; omega)).trans (bA.block k (by omega))⟩
  refine ⟨?_, ?_, h.rd.below b5 hB, ?_, h.fr.trans ((Fr.of_below rb V1 bA).trans (Fr.of_own rb hg) (Nw.refl _ _)) h.nw, h.nw.trans ?_ hsz⟩
  · rw [← List.append_assoc]
    exact oA.snoc kA ha ho hg
  · intro p hp
    rcases List.mem_append.1 hp with hp | hp
    · exact h.small p hp
    · simp at hp; subst hp; exact hx
  · intro p hp k hk'
    rcases List.mem_append.1 hp with hp | hp
    · exact h.new p hp k hk'
    · simp at hp; subst hp; exact hkn k hk'
  · intro k hk'
    rcases hb with e | e
    · rw [e] at hk'; exact .inl hk'
    · rw [e] at hk'
      injection hk' with hk'
      exact .inr (by omega)

/-- The same while an array's kids are drawn. -/
structure Dk (w : World) (rb : Nat) (ra : Option Addr) (rn rc B : Nat) (V : Value) (P : List Nv) (w1 : World) (V1 : Value) (Q : List Nv) (K : Value) (ks : List Int) : Prop where
  dn : Dn w rb ra rn rc B V P w1 V1 Q
  kown : w1.ownsRow B 2 1 K ks.length (intVals ks)
  apart : Apart K (P ++ Q)
  knew : ∀ k, K.ownBlock = some k → w.heap.size ≤ k

def DrawnEnd (w : World) (rb : Nat) (ra : Option Addr) (rn rc B : Nat) (V : Value) (P : List Nv) (m : Nat) (e : Ending) (w' : World) : Prop :=
  ∃ V' Q, e = .returned V' ∧ Dn w rb ra rn rc B V P w' V' Q ∧ 1 ≤ Q.length ∧ Q.length ≤ m

theorem Dk.sub {w w1 w2 : World} {rb : Nat} {ra : Option Addr} {rn rc B : Nat} {V V1 V2 K : Value} {P Q Q2 : List Nv} {ks : List Int} (h : Dk w rb ra rn rc B V P w1 V1 Q K ks) (d : Dn w1 rb ra rn rc B V1 (P ++ Q) w2 V2 Q2) : Dk w rb ra rn rc B V P w2 V2 (Q ++ Q2) K ks := by
  obtain ⟨p, _, hr⟩ := h.dn.rd.row
  have hsz := h.dn.fr.size
  refine ⟨⟨?_, ?_, d.rd, ?_, h.dn.fr.trans d.fr h.dn.nw, h.dn.nw.trans d.nw hsz⟩, kid_fr d.fr hr (by decide) h.dn.own h.kown, ?_, h.knew⟩
  · rw [← List.append_assoc]; exact d.own
  · intro p hp
    rcases List.mem_append.1 hp with hp | hp
    · exact h.dn.small p hp
    · exact d.small p hp
  · intro p hp k hk
    rcases List.mem_append.1 hp with hp | hp
    · exact h.dn.new p hp k hk
    · have := d.new p hp k hk
      omega
  · intro p hp k hk e
    rw [← List.append_assoc] at hp
    rcases List.mem_append.1 hp with hp | hp
    · exact h.apart p hp k hk e
    · have := d.new p hp k hk
      have := (own_lt h.kown e).2
      omega

theorem Dk.push {w w2 w5 : World} {rb : Nat} {ra : Option Addr} {rn rc B : Nat} {V V2 K K' : Value} {P Q : List Nv} {ks : List Int} {z : Int} {o : Obj} (h : Dk w rb ra rn rc B V P w2 V2 Q K ks) (hB : rb < B)
    (ho : w5.ownsRow B 2 1 K' (ks.length + 1) (intVals ks ++ [.int .i64 z])) (hg : (w2.alloc o).grownBy w5 K.ownBlock) (hb : K'.ownBlock = K.ownBlock ∨ K'.ownBlock = some (w2.heap.size + 1)) : Dk w rb ra rn rc B V P w5 V2 Q K' (ks ++ [z]) := by
  have hs : (w2.alloc o).heap.size = w2.heap.size + 1 := by simp
  have keep : ∀ k, k < w2.heap.size → K.ownBlock ≠ some k → w5.heap[k]? = w2.heap[k]? := fun k hk hne => (hg.block k (by omega) (fun e => hne e.symm)).trans (Below.heap_alloc _ _ _ hk)
  have hsz := h.dn.fr.size
  have hg5 := hg.size
  have hlt := h.dn.lt
  have b5 : Below (rb + 1) w2 w5 := ⟨hg.os, hg.tape, hg.output, by omega, fun k hk' => keep k (by omega) (fun e => by have := (own_lt h.kown e).1; omega)⟩
  refine ⟨⟨?_, h.dn.small, h.dn.rd.below b5 (by omega), h.dn.new, ?_, h.dn.nw⟩, ?_, ?_, ?_⟩
  · exact h.dn.own.of_block (fun g hg' => keep g (own_lt h.dn.own.row hg').2 (own_other h.dn.own.row h.kown (by decide) hg')) (fun p hp g hg' => keep g (own_lt (h.dn.own.kids p hp) hg').2 (h.apart p hp g hg'))
  · exact ⟨hg.os.trans h.dn.fr.os, hg.tape.trans h.dn.fr.tape, hg.output.trans h.dn.fr.output, by omega, fun k hk hr hv => (keep k (by omega) (fun e => by have := h.knew k e; omega)).trans (h.dn.fr.block k hk hr hv)⟩
  · rw [List.length_append, intVals, List.map_append]; exact ho
  · intro p hp k hk e
    rcases hb with hb | hb
    · rw [hb] at e; exact h.apart p hp k hk e
    · rw [hb] at e
      injection e with e
      have := (own_lt (h.dn.own.kids p hp) hk).2
      omega
  · intro k hk
    rcases hb with hb | hb
    · rw [hb] at hk; exact h.knew k hk
    · rw [hb] at hk
      injection hk with hk
      omega

theorem cell_four (w : World) (x : Nd) (K : Value) : ∀ j u, [Value.int .i64 x.kind, .int .i64 x.num, .string x.s, K][j]? = some u → (w.alloc (.cells (nodeC x K) 44)).cell? ((⟨w.heap.size, 0, none⟩ : Addr).add j) = some u := fun j u hj => by
  rw [Addr.add_lit, Nat.zero_add]
  exact ((RowAt.new w 44 (nodeC x K)).cell j).trans (by simpa using hj)

theorem kids_nil (w : World) (B : Nat) : w.ownsRow B 2 1 (.slice none 0 0) ([] : List Int).length (intVals []) := World.ownsRow_nil _ _ _ _

def ReplyD (m : Nat) (deep : Int) : Prop := ∀ (rb : Nat) (ra : Option Addr) (rn rc B : Nat) (V : Value) (P : List Nv) (w : World), Rd w rb ra rn rc → rb < B → B ≤ w.heap.size → OwnN w B V P → (P.length : Int) + 100 * deep ≤ 1000 →
  Calls Tryd.prog 38 #[.pointer (some ⟨rb, 0, none⟩), .int .i64 deep, V] w (DrawnEnd w rb ra rn rc B V P m)

theorem small_leaf (k n : Int) (s : ByteArray) (h : s.size ≤ 20) : Sm ⟨k, n, s, []⟩ := ⟨Nat.le_trans h (by decide), by simp⟩

end Go.Proofs.YtcgeafdakaeicaaDoor

namespace Go.Proofs.YtcgeafdakaeicaaDoor
open Go.RowKit Go.Sort
open Rp (Nd nd0 plainB numB fieldsB)

set_option maxHeartbeats 8000000 in
set_option maxRecDepth 100000 in
theorem reply_d0 : ReplyD 1 0 := by
  intro rb ra rn rc B V P w hr hB hBw ho hP
  obtain ⟨i0, hi, hz0, hz1, hz2⟩ := info_parts Rp.info33
  have H : Dn w rb ra rn rc B V P w V [] := Dn.start ho hr
  go_enter Tryd.func38, Tryd.ntmps38
  go_wp2_with fail
  refine (below_any rb ra rn rc 7 w hr (by omega) (by omega)).mono ?_
  rintro e w1 ⟨j, rfl, j0, j1, r1, g1⟩
  have H1 := H.grown r1 g1
  have s1 := g1.size
  have hj : j = 0 ∨ j = 1 ∨ j = 2 ∨ j = 3 ∨ j = 4 ∨ j = 5 ∨ j = 6 := by omega
  clear j0 j1 r1 g1 H ho hr
  rcases hj with rfl | rfl | rfl | rfl | rfl | rfl | rfl
  · have hl := RowAt.new w1 9 #[.string ⟨#[79, 75]⟩, .string ⟨#[]⟩, .string ⟨#[80, 79, 78, 71]⟩]
    have hs : SmallC #[.string ⟨#[79, 75]⟩, .string ⟨#[]⟩, .string ⟨#[80, 79, 78, 71]⟩] := small_of [⟨#[79, 75]⟩, ⟨#[]⟩, ⟨#[80, 79, 78, 71]⟩] (by decide)
    have H2 := H1.alloc (.cells #[.string ⟨#[79, 75]⟩, .string ⟨#[]⟩, .string ⟨#[80, 79, 78, 71]⟩] 9)
    have l1 := H1.lt
    go_wp2_with fail
    generalize w1.alloc (.cells #[.string ⟨#[79, 75]⟩, .string ⟨#[]⟩, .string ⟨#[80, 79, 78, 71]⟩] 9) = w2 at *
    refine (pick_any rb ra rn rc 3 w2 H2.rd (by omega) (by omega)).mono ?_
    rintro e w3 ⟨z, rfl, hz, r3, g3⟩
    have H3 := H2.grown r3 g3
    have sz3 := H3.fr.size
    obtain ⟨s, hc, hsz⟩ := pick_cell (row_read hl g3 (by omega)) hs z (by simpa using hz)
    have z0 : (0 : Int) ≤ (z : Int) := by omega
    have z1 : (z : Int) < 3 := by omega
    clear hl hs g3 r3
    go_wp2_with (at_builtin; refine wpList_append_own_at _ rfl _ _ 24 rfl B 44 i0 _ 4 56 Tryd.underlying24 hi hz0 hz1 hz2 rfl (by decide) _ _ _ rfl (H3.own.row.alloc _) ⟨w3.heap.size, 0, none⟩ 1 1 [.int .i64 1, .int .i64 0, .string s, .slice none 0 0] rfl rfl ?c1 ?c2 ?c3 ?c4 ?c5 ?_)
    case c1 => exact cell_four w3 ⟨1, 0, s, []⟩ (.slice none 0 0)
    case c2 => intro y hy; simp at hy; rcases hy with rfl | rfl | rfl | rfl <;> rfl
    case c3 => simp; unfold maxLen; omega
    case c4 => simp; omega
    case c5 => simp; omega
    intro v' w5 hown' hgrow _ hblk
    have hE : Hid (DrawnEnd w rb ra rn rc B V P 1 (.returned v') w5) := ⟨v', _, rfl, H3.put (x := ⟨1, 0, s, []⟩) hB hBw (small_leaf _ _ _ (by exact hsz)) (kids_nil _ _) (fun _ _ _ _ e => by simp [Value.ownBlock] at e) (fun k e => by simp [Value.ownBlock] at e) (by rw [List.append_nil]; exact hown') hgrow hblk, by simp, by simp⟩
    clear hown' hgrow hblk
    go_wp2
    go_ret
    exact hE.out
  · go_wp2_with (at_builtin; refine wpList_append_own_at _ rfl _ _ 24 rfl B 44 i0 _ 4 56 Tryd.underlying24 hi hz0 hz1 hz2 rfl (by decide) _ _ _ rfl (H1.own.row.alloc _) ⟨w1.heap.size, 0, none⟩ 1 1 [.int .i64 2, .int .i64 0, .string ⟨#[69, 82, 82]⟩, .slice none 0 0] rfl rfl ?c1 ?c2 ?c3 ?c4 ?c5 ?_)
    case c1 => exact cell_four w1 ⟨2, 0, ⟨#[69, 82, 82]⟩, []⟩ (.slice none 0 0)
    case c2 => intro y hy; simp at hy; rcases hy with rfl | rfl | rfl | rfl <;> rfl
    case c3 => simp; unfold maxLen; omega
    case c4 => simp; omega
    case c5 => simp; omega
    intro v' w5 hown' hgrow _ hblk
    have hE : Hid (DrawnEnd w rb ra rn rc B V P 1 (.returned v') w5) := ⟨v', _, rfl, H1.put (x := ⟨2, 0, ⟨#[69, 82, 82]⟩, []⟩) hB hBw (small_leaf _ _ _ (by decide)) (kids_nil _ _) (fun _ _ _ _ e => by simp [Value.ownBlock] at e) (fun k e => by simp [Value.ownBlock] at e) (by rw [List.append_nil]; exact hown') hgrow hblk, by simp, by simp⟩
    clear hown' hgrow hblk
    go_wp2
    go_ret
    exact hE.out
  · go_wp2_with fail
    refine (near_anyN rb ra rn rc w1 H1.rd).mono ?_
    rintro e w2 ⟨x, rfl, r2, g2⟩
    have H2 := H1.grown r2 g2
    have sz2 := H2.fr.size
    clear r2 g2
    go_wp2_with (at_builtin; refine wpList_append_own_at _ rfl _ _ 24 rfl B 44 i0 _ 4 56 Tryd.underlying24 hi hz0 hz1 hz2 rfl (by decide) _ _ _ rfl (H2.own.row.alloc _) ⟨w2.heap.size, 0, none⟩ 1 1 [.int .i64 3, .int .i64 x, .string ⟨#[]⟩, .slice none 0 0] rfl rfl ?c1 ?c2 ?c3 ?c4 ?c5 ?_)
    case c1 => exact cell_four w2 ⟨3, x, ⟨#[]⟩, []⟩ (.slice none 0 0)
    case c2 => intro y hy; simp at hy; rcases hy with rfl | rfl | rfl | rfl <;> rfl
    case c3 => simp; unfold maxLen; omega
    case c4 => simp; omega
    case c5 => simp; omega
    intro v' w5 hown' hgrow _ hblk
    have hE : Hid (DrawnEnd w rb ra rn rc B V P 1 (.returned v') w5) := ⟨v', _, rfl, H2.put (x := ⟨3, x, ⟨#[]⟩, []⟩) hB hBw (small_leaf _ _ _ (by decide)) (kids_nil _ _) (fun _ _ _ _ e => by simp [Value.ownBlock] at e) (fun k e => by simp [Value.ownBlock] at e) (by rw [List.append_nil]; exact hown') hgrow hblk, by simp, by simp⟩
    clear hown' hgrow hblk
    go_wp2
    go_ret
    exact hE.out
  · go_wp2_with (at_builtin; refine wpList_append_own_at _ rfl _ _ 24 rfl B 44 i0 _ 4 56 Tryd.underlying24 hi hz0 hz1 hz2 rfl (by decide) _ _ _ rfl (H1.own.row.alloc _) ⟨w1.heap.size, 0, none⟩ 1 1 [.int .i64 5, .int .i64 0, .string ⟨#[]⟩, .slice none 0 0] rfl rfl ?c1 ?c2 ?c3 ?c4 ?c5 ?_)
    case c1 => exact cell_four w1 ⟨5, 0, ⟨#[]⟩, []⟩ (.slice none 0 0)
    case c2 => intro y hy; simp at hy; rcases hy with rfl | rfl | rfl | rfl <;> rfl
    case c3 => simp; unfold maxLen; omega
    case c4 => simp; omega
    case c5 => simp; omega
    intro v' w5 hown' hgrow _ hblk
    have hE : Hid (DrawnEnd w rb ra rn rc B V P 1 (.returned v') w5) := ⟨v', _, rfl, H1.put (x := ⟨5, 0, ⟨#[]⟩, []⟩) hB hBw (small_leaf _ _ _ (by decide)) (kids_nil _ _) (fun _ _ _ _ e => by simp [Value.ownBlock] at e) (fun k e => by simp [Value.ownBlock] at e) (by rw [List.append_nil]; exact hown') hgrow hblk, by simp, by simp⟩
    clear hown' hgrow hblk
    go_wp2
    go_ret
    exact hE.out
  · go_wp2_with fail
    refine (text_any rb ra rn rc w1 H1.rd H1.lt).mono ?_
    rintro e w2 ⟨s, rfl, hsz, r2, g2⟩
    have H2 := H1.grown r2 g2
    have sz2 := H2.fr.size
    clear r2 g2
    go_wp2_with (at_builtin; refine wpList_append_own_at _ rfl _ _ 24 rfl B 44 i0 _ 4 56 Tryd.underlying24 hi hz0 hz1 hz2 rfl (by decide) _ _ _ rfl (H2.own.row.alloc _) ⟨w2.heap.size, 0, none⟩ 1 1 [.int .i64 4, .int .i64 0, .string s, .slice none 0 0] rfl rfl ?c1 ?c2 ?c3 ?c4 ?c5 ?_)
    case c1 => exact cell_four w2 ⟨4, 0, s, []⟩ (.slice none 0 0)
    case c2 => intro y hy; simp at hy; rcases hy with rfl | rfl | rfl | rfl <;> rfl
    case c3 => simp; unfold maxLen; omega
    case c4 => simp; omega
    case c5 => simp; omega
    intro v' w5 hown' hgrow _ hblk
    have hE : Hid (DrawnEnd w rb ra rn rc B V P 1 (.returned v') w5) := ⟨v', _, rfl, H2.put (x := ⟨4, 0, s, []⟩) hB hBw (small_leaf _ _ _ (by exact hsz)) (kids_nil _ _) (fun _ _ _ _ e => by simp [Value.ownBlock] at e) (fun k e => by simp [Value.ownBlock] at e) (by rw [List.append_nil]; exact hown') hgrow hblk, by simp, by simp⟩
    clear hown' hgrow hblk
    go_wp2
    go_ret
    exact hE.out
  · go_wp2_with fail
    refine (text_any rb ra rn rc w1 H1.rd H1.lt).mono ?_
    rintro e w2 ⟨s, rfl, hsz, r2, g2⟩
    have H2 := H1.grown r2 g2
    have sz2 := H2.fr.size
    clear r2 g2
    go_wp2_with (at_builtin; refine wpList_append_own_at _ rfl _ _ 24 rfl B 44 i0 _ 4 56 Tryd.underlying24 hi hz0 hz1 hz2 rfl (by decide) _ _ _ rfl (H2.own.row.alloc _) ⟨w2.heap.size, 0, none⟩ 1 1 [.int .i64 4, .int .i64 0, .string s, .slice none 0 0] rfl rfl ?c1 ?c2 ?c3 ?c4 ?c5 ?_)
    case c1 => exact cell_four w2 ⟨4, 0, s, []⟩ (.slice none 0 0)
    case c2 => intro y hy; simp at hy; rcases hy with rfl | rfl | rfl | rfl <;> rfl
    case c3 => simp; unfold maxLen; omega
    case c4 => simp; omega
    case c5 => simp; omega
    intro v' w5 hown' hgrow _ hblk
    have hE : Hid (DrawnEnd w rb ra rn rc B V P 1 (.returned v') w5) := ⟨v', _, rfl, H2.put (x := ⟨4, 0, s, []⟩) hB hBw (small_leaf _ _ _ (by exact hsz)) (kids_nil _ _) (fun _ _ _ _ e => by simp [Value.ownBlock] at e) (fun k e => by simp [Value.ownBlock] at e) (by rw [List.append_nil]; exact hown') hgrow hblk, by simp, by simp⟩
    clear hown' hgrow hblk
    go_wp2
    go_ret
    exact hE.out
  · go_wp2_with fail
    refine (text_any rb ra rn rc w1 H1.rd H1.lt).mono ?_
    rintro e w2 ⟨s, rfl, hsz, r2, g2⟩
    have H2 := H1.grown r2 g2
    have sz2 := H2.fr.size
    clear r2 g2
    go_wp2_with (at_builtin; refine wpList_append_own_at _ rfl _ _ 24 rfl B 44 i0 _ 4 56 Tryd.underlying24 hi hz0 hz1 hz2 rfl (by decide) _ _ _ rfl (H2.own.row.alloc _) ⟨w2.heap.size, 0, none⟩ 1 1 [.int .i64 4, .int .i64 0, .string s, .slice none 0 0] rfl rfl ?c1 ?c2 ?c3 ?c4 ?c5 ?_)
    case c1 => exact cell_four w2 ⟨4, 0, s, []⟩ (.slice none 0 0)
    case c2 => intro y hy; simp at hy; rcases hy with rfl | rfl | rfl | rfl <;> rfl
    case c3 => simp; unfold maxLen; omega
    case c4 => simp; omega
    case c5 => simp; omega
    intro v' w5 hown' hgrow _ hblk
    have hE : Hid (DrawnEnd w rb ra rn rc B V P 1 (.returned v') w5) := ⟨v', _, rfl, H2.put (x := ⟨4, 0, s, []⟩) hB hBw (small_leaf _ _ _ (by exact hsz)) (kids_nil _ _) (fun _ _ _ _ e => by simp [Value.ownBlock] at e) (fun k e => by simp [Value.ownBlock] at e) (by rw [List.append_nil]; exact hown') hgrow hblk, by simp, by simp⟩
    clear hown' hgrow hblk
    go_wp2
    go_ret
    exact hE.out
end Go.Proofs.YtcgeafdakaeicaaDoor

namespace Go.Proofs.YtcgeafdakaeicaaDoor
open Go.RowKit Go.Sort
open Rp (Nd nd0 plainB numB fieldsB)

theorem bound_step (m1 j q q2 : Nat) (hj : 0 < j) (hj3 : j ≤ 3) (h : q ≤ m1 * (3 - j)) (h2 : q2 ≤ m1) : q + q2 ≤ m1 * (3 - (j - 1)) := by
  have : j = 1 ∨ j = 2 ∨ j = 3 := by omega
  rcases this with rfl | rfl | rfl <;> simp at h ⊢ <;> omega

theorem bound_any (m1 j q : Nat) (hm : m1 ≤ 13) (hj3 : j ≤ 3) (h : q ≤ m1 * (3 - j)) : q ≤ 39 ∧ q ≤ m1 * 3 := by
  have : j = 0 ∨ j = 1 ∨ j = 2 ∨ j = 3 := by omega
  rcases this with rfl | rfl | rfl | rfl <;> simp at h ⊢ <;> omega

set_option maxHeartbeats 8000000 in
set_option maxRecDepth 100000 in
theorem reply_ds (m m1 : Nat) (hm : m = m1 * 3 + 1) (hm1 : m1 ≤ 13) (deep deep1 : Int) (hd0 : 0 < deep) (hd3 : deep ≤ 3) (hd1 : deep - 1 = deep1) (hd : ReplyD m1 deep1) : ReplyD m deep := by
  have HD : Hid (ReplyD m1 deep1) := hd
  have hwr : IntKind.i64.wrap (deep - 1) = deep1 := by rw [IntKind.wrap_i64]; omega
  obtain ⟨j0, hi', hz0', hz1', hz2'⟩ := info_parts Rp.info2
  clear hd
  intro rb ra rn rc B V P w hr hB hBw ho hP
  obtain ⟨i0, hi, hz0, hz1, hz2⟩ := info_parts Rp.info33
  have H : Dn w rb ra rn rc B V P w V [] := Dn.start ho hr
  go_enter Tryd.func38, Tryd.ntmps38
  go_wp2_with fail
  refine (below_any rb ra rn rc 7 w hr (by omega) (by omega)).mono ?_
  rintro e w1 ⟨j, rfl, jl, jh, r1, g1⟩
  have H1 := H.grown r1 g1
  have s1 := g1.size
  have hj : j = 0 ∨ j = 1 ∨ j = 2 ∨ j = 3 ∨ j = 4 ∨ j = 5 ∨ j = 6 := by omega
  clear jl jh r1 g1 H ho hr
  rcases hj with rfl | rfl | rfl | rfl | rfl | rfl | rfl
  · have hl := RowAt.new w1 9 #[.string ⟨#[79, 75]⟩, .string ⟨#[]⟩, .string ⟨#[80, 79, 78, 71]⟩]
    have hs : SmallC #[.string ⟨#[79, 75]⟩, .string ⟨#[]⟩, .string ⟨#[80, 79, 78, 71]⟩] := small_of [⟨#[79, 75]⟩, ⟨#[]⟩, ⟨#[80, 79, 78, 71]⟩] (by decide)
    have H2 := H1.alloc (.cells #[.string ⟨#[79, 75]⟩, .string ⟨#[]⟩, .string ⟨#[80, 79, 78, 71]⟩] 9)
    have l1 := H1.lt
    go_wp2_with fail
    generalize w1.alloc (.cells #[.string ⟨#[79, 75]⟩, .string ⟨#[]⟩, .string ⟨#[80, 79, 78, 71]⟩] 9) = w2 at *
    refine (pick_any rb ra rn rc 3 w2 H2.rd (by omega) (by omega)).mono ?_
    rintro e w3 ⟨z, rfl, hz, r3, g3⟩
    have H3 := H2.grown r3 g3
    have sz3 := H3.fr.size
    obtain ⟨s, hc, hsz⟩ := pick_cell (row_read hl g3 (by omega)) hs z (by simpa using hz)
    have z0 : (0 : Int) ≤ (z : Int) := by omega
    have z1 : (z : Int) < 3 := by omega
    clear hl hs g3 r3
    go_wp2_with (at_builtin; refine wpList_append_own_at _ rfl _ _ 24 rfl B 44 i0 _ 4 56 Tryd.underlying24 hi hz0 hz1 hz2 rfl (by decide) _ _ _ rfl (H3.own.row.alloc _) ⟨w3.heap.size, 0, none⟩ 1 1 [.int .i64 1, .int .i64 0, .string s, .slice none 0 0] rfl rfl ?c1 ?c2 ?c3 ?c4 ?c5 ?_)
    case c1 => exact cell_four w3 ⟨1, 0, s, []⟩ (.slice none 0 0)
    case c2 => intro y hy; simp at hy; rcases hy with rfl | rfl | rfl | rfl <;> rfl
    case c3 => simp; unfold maxLen; omega
    case c4 => simp; omega
    case c5 => simp; omega
    intro v' w5 hown' hgrow _ hblk
    have hE : Hid (DrawnEnd w rb ra rn rc B V P m (.returned v') w5) := ⟨v', _, rfl, H3.put (x := ⟨1, 0, s, []⟩) hB hBw (small_leaf _ _ _ (by exact hsz)) (kids_nil _ _) (fun _ _ _ _ e => by simp [Value.ownBlock] at e) (fun k e => by simp [Value.ownBlock] at e) (by rw [List.append_nil]; exact hown') hgrow hblk, by simp, by simp; omega⟩
    clear hown' hgrow hblk
    go_wp2
    go_ret
    exact hE.out
  · go_wp2_with (at_builtin; refine wpList_append_own_at _ rfl _ _ 24 rfl B 44 i0 _ 4 56 Tryd.underlying24 hi hz0 hz1 hz2 rfl (by decide) _ _ _ rfl (H1.own.row.alloc _) ⟨w1.heap.size, 0, none⟩ 1 1 [.int .i64 2, .int .i64 0, .string ⟨#[69, 82, 82]⟩, .slice none 0 0] rfl rfl ?c1 ?c2 ?c3 ?c4 ?c5 ?_)
    case c1 => exact cell_four w1 ⟨2, 0, ⟨#[69, 82, 82]⟩, []⟩ (.slice none 0 0)
    case c2 => intro y hy; simp at hy; rcases hy with rfl | rfl | rfl | rfl <;> rfl
    case c3 => simp; unfold maxLen; omega
    case c4 => simp; omega
    case c5 => simp; omega
    intro v' w5 hown' hgrow _ hblk
    have hE : Hid (DrawnEnd w rb ra rn rc B V P m (.returned v') w5) := ⟨v', _, rfl, H1.put (x := ⟨2, 0, ⟨#[69, 82, 82]⟩, []⟩) hB hBw (small_leaf _ _ _ (by decide)) (kids_nil _ _) (fun _ _ _ _ e => by simp [Value.ownBlock] at e) (fun k e => by simp [Value.ownBlock] at e) (by rw [List.append_nil]; exact hown') hgrow hblk, by simp, by simp; omega⟩
    clear hown' hgrow hblk
    go_wp2
    go_ret
    exact hE.out
  · go_wp2_with fail
    refine (near_anyN rb ra rn rc w1 H1.rd).mono ?_
    rintro e w2 ⟨x, rfl, r2, g2⟩
    have H2 := H1.grown r2 g2
    have sz2 := H2.fr.size
    clear r2 g2
    go_wp2_with (at_builtin; refine wpList_append_own_at _ rfl _ _ 24 rfl B 44 i0 _ 4 56 Tryd.underlying24 hi hz0 hz1 hz2 rfl (by decide) _ _ _ rfl (H2.own.row.alloc _) ⟨w2.heap.size, 0, none⟩ 1 1 [.int .i64 3, .int .i64 x, .string ⟨#[]⟩, .slice none 0 0] rfl rfl ?c1 ?c2 ?c3 ?c4 ?c5 ?_)
    case c1 => exact cell_four w2 ⟨3, x, ⟨#[]⟩, []⟩ (.slice none 0 0)
    case c2 => intro y hy; simp at hy; rcases hy with rfl | rfl | rfl | rfl <;> rfl
    case c3 => simp; unfold maxLen; omega
    case c4 => simp; omega
    case c5 => simp; omega
    intro v' w5 hown' hgrow _ hblk
    have hE : Hid (DrawnEnd w rb ra rn rc B V P m (.returned v') w5) := ⟨v', _, rfl, H2.put (x := ⟨3, x, ⟨#[]⟩, []⟩) hB hBw (small_leaf _ _ _ (by decide)) (kids_nil _ _) (fun _ _ _ _ e => by simp [Value.ownBlock] at e) (fun k e => by simp [Value.ownBlock] at e) (by rw [List.append_nil]; exact hown') hgrow hblk, by simp, by simp; omega⟩
    clear hown' hgrow hblk
    go_wp2
    go_ret
    exact hE.out
  · go_wp2_with (at_builtin; refine wpList_append_own_at _ rfl _ _ 24 rfl B 44 i0 _ 4 56 Tryd.underlying24 hi hz0 hz1 hz2 rfl (by decide) _ _ _ rfl (H1.own.row.alloc _) ⟨w1.heap.size, 0, none⟩ 1 1 [.int .i64 5, .int .i64 0, .string ⟨#[]⟩, .slice none 0 0] rfl rfl ?c1 ?c2 ?c3 ?c4 ?c5 ?_)
    case c1 => exact cell_four w1 ⟨5, 0, ⟨#[]⟩, []⟩ (.slice none 0 0)
    case c2 => intro y hy; simp at hy; rcases hy with rfl | rfl | rfl | rfl <;> rfl
    case c3 => simp; unfold maxLen; omega
    case c4 => simp; omega
    case c5 => simp; omega
    intro v' w5 hown' hgrow _ hblk
    have hE : Hid (DrawnEnd w rb ra rn rc B V P m (.returned v') w5) := ⟨v', _, rfl, H1.put (x := ⟨5, 0, ⟨#[]⟩, []⟩) hB hBw (small_leaf _ _ _ (by decide)) (kids_nil _ _) (fun _ _ _ _ e => by simp [Value.ownBlock] at e) (fun k e => by simp [Value.ownBlock] at e) (by rw [List.append_nil]; exact hown') hgrow hblk, by simp, by simp; omega⟩
    clear hown' hgrow hblk
    go_wp2
    go_ret
    exact hE.out
  · have k0 : Dk w rb ra rn rc B V P (w1.alloc (.cells #[] 2)) V [] (.slice (some ⟨w1.heap.size, 0, none⟩) 0 0) [] := by
      have H2 := H1.alloc (.cells #[] 2)
      refine ⟨H2, ⟨rfl, .inr ⟨w1.heap.size, 0, #[], rfl, by omega, RowAt.new w1 2 #[], by simp, by unfold maxLen; omega, by simp, by simp [intVals]⟩⟩, ?_, ?_⟩
      · intro p hp k' hk' e
        simp [Value.ownBlock] at e
        have := (own_lt (H1.own.kids p hp) hk').2
        omega
      · intro k' e
        simp [Value.ownBlock] at e
        omega
    go_wp2_with fail
    generalize w1.alloc (.cells #[] 2) = w2 at *
    refine (pick_any rb ra rn rc 4 w2 k0.dn.rd (by omega) (by omega)).mono ?_
    rintro e w3 ⟨z, rfl, hz, r3, g3⟩
    have k3 : Hid (Dk w rb ra rn rc B V P w3 V [] (.slice (some ⟨w1.heap.size, 0, none⟩) 0 0) []) := by
      obtain ⟨p, _, hrow⟩ := k0.dn.rd.row
      exact ⟨k0.dn.grown r3 g3, owns_block k0.kown (fun g hg => g3.block g (own_lt k0.kown hg).2 (by simpa using own_row k0.kown hrow (by decide) hg)), k0.apart, k0.knew⟩
    clear k0 r3 g3 H1
    go_wp2_with fail
    go_loopw [2, 7, 8] (fun o K i wr => ∃ (j : Nat) (Q : List Nv) (ks : List Int), j ≤ 3 ∧ i = .int .i64 j ∧ Dk w rb ra rn rc B V P wr o Q K ks ∧ ks.length + j ≤ 3 ∧ Q.length ≤ m1 * (3 - j)) (fun _ _ i _ => (intOf i).toNat)
    case atStart => exact ⟨z, [], [], by omega, rfl, k3.out, by simp; omega, by simp⟩
    case round =>
      obtain ⟨j, Q, ks, hj, rfl, hk, hkl, hQ⟩ := hrel
      clear k3
      have szr := hk.dn.fr.size
      have hQ39 := bound_any m1 j Q.length hm1 hj hQ
      by_cases h0 : 0 < j
      · have hd : (0 : Int) < (j : Int) := by omega
        have HC := HD.out rb ra rn rc B u2 (P ++ Q) wr hk.dn.rd hB (by omega) hk.dn.own (by rw [List.length_append]; omega)
        have HC' : Hid (Calls Tryd.prog 38 #[.pointer (some ⟨rb, 0, none⟩), .int .i64 deep1, u2] wr (DrawnEnd wr rb ra rn rc B u2 (P ++ Q) m1)) := HC
        have HK : Hid _ := hk
        clear HC hk
        go_wp2_with fail
        refine HC'.out.mono ?_
        rintro e w4 ⟨V2, Q2, rfl, d2, q1, q2⟩
        have k4 := HK.out.sub d2
        obtain ⟨a2, c2, hV2⟩ := own_form d2.own.row
        obtain ⟨M, hM⟩ : ∃ M, ((P ++ Q) ++ Q2).length = M := ⟨_, rfl⟩
        rw [hM] at hV2
        have hMb : M ≤ 2000 ∧ 1 ≤ M := by rw [List.length_append, List.length_append] at hM; omega
        obtain ⟨hM1, hM2⟩ := hMb
        have HB : Hid ((Q ++ Q2).length ≤ m1 * (3 - (j - 1))) := by
          unfold Hid
          rw [List.length_append]
          exact bound_step m1 j Q.length Q2.length h0 hj hQ q2
        subst hV2
        have hkown := k4.kown
        have sz4 := k4.dn.fr.size
        clear d2 hM HC'
        go_wp2_with (at_builtin; refine wpList_append_own_at _ rfl _ _ 42 rfl B 2 j0 _ 1 8 Tryd.underlying42 hi' hz0' hz1' hz2' rfl (by decide) _ _ _ rfl (hkown.alloc _) ⟨w4.heap.size, 0, none⟩ 1 1 [.int .i64 ((M : Int) - 1)] rfl rfl ?c1 ?c2 ?c3 ?c4 ?c5 ?_)
        case c1 => exact cell_one_new _ _ _
        case c2 => intro y hy; simp at hy; subst hy; rfl
        case c3 => unfold maxLen; omega
        case c4 => omega
        case c5 => simp; omega
        intro v' w5 hown' hgrow _ hblk
        have k5 : Hid (Dk w rb ra rn rc B V P w5 _ (Q ++ Q2) v' (ks ++ [(M : Int) - 1])) := k4.push hB hown' hgrow hblk
        clear hown' hgrow hblk k4 hkown
        go_wp2
        go_roundw
        case rel => exact ⟨j - 1, Q ++ Q2, ks ++ [(M : Int) - 1], by omega, by go_num, k5.out, by rw [List.length_append, List.length_singleton]; omega, HB.out⟩
        case measure => simp [intOf] <;> omega
      · obtain rfl : j = 0 := by omega
        obtain ⟨ka, kc, hKf⟩ := own_form hk.kown
        have hko := hk.kown
        have hka := hk.apart
        have hkn := hk.knew
        have hdn := hk.dn
        clear hk
        subst hKf
        have hlen : (P ++ Q).length ≤ 2000 := by rw [List.length_append]; omega
        have hks : ks.length ≤ 3 := by omega
        go_wp2_with (at_builtin; refine wpList_append_own_at _ rfl _ _ 24 rfl B 44 i0 _ 4 56 Tryd.underlying24 hi hz0 hz1 hz2 rfl (by decide) _ _ _ rfl (hdn.own.row.alloc _) ⟨wr.heap.size, 0, none⟩ 1 1 [.int .i64 6, .int .i64 0, .string ⟨#[]⟩, .slice ka ks.length kc] rfl rfl ?d1 ?d2 ?d3 ?d4 ?d5 ?_)
        case d1 => exact cell_four wr ⟨6, 0, ⟨#[]⟩, ks⟩ (.slice ka ks.length kc)
        case d2 => intro y hy; simp at hy; rcases hy with rfl | rfl | rfl | rfl <;> rfl
        case d3 => unfold maxLen; omega
        case d4 => omega
        case d5 => simp; omega
        intro v' w5 hown' hgrow _ hblk
        have hE : Hid (DrawnEnd w rb ra rn rc B V P m (.returned v') w5) := ⟨v', _, rfl, hdn.put (x := ⟨6, 0, ⟨#[]⟩, ks⟩) hB hBw ⟨by show (0 : Nat) ≤ 200; omega, by show ks.length ≤ 1000; omega⟩ hko hka hkn (by rw [List.length_append]; exact hown') hgrow hblk, by simp, by rw [List.length_append, List.length_singleton]; omega⟩
        clear hown' hgrow hblk
        go_wp2
        go_ret
        exact hE.out
  · have k0 : Dk w rb ra rn rc B V P (w1.alloc (.cells #[] 2)) V [] (.slice (some ⟨w1.heap.size, 0, none⟩) 0 0) [] := by
      have H2 := H1.alloc (.cells #[] 2)
      refine ⟨H2, ⟨rfl, .inr ⟨w1.heap.size, 0, #[], rfl, by omega, RowAt.new w1 2 #[], by simp, by unfold maxLen; omega, by simp, by simp [intVals]⟩⟩, ?_, ?_⟩
      · intro p hp k' hk' e
        simp [Value.ownBlock] at e
        have := (own_lt (H1.own.kids p hp) hk').2
        omega
      · intro k' e
        simp [Value.ownBlock] at e
        omega
    go_wp2_with fail
    generalize w1.alloc (.cells #[] 2) = w2 at *
    refine (pick_any rb ra rn rc 4 w2 k0.dn.rd (by omega) (by omega)).mono ?_
    rintro e w3 ⟨z, rfl, hz, r3, g3⟩
    have k3 : Hid (Dk w rb ra rn rc B V P w3 V [] (.slice (some ⟨w1.heap.size, 0, none⟩) 0 0) []) := by
      obtain ⟨p, _, hrow⟩ := k0.dn.rd.row
      exact ⟨k0.dn.grown r3 g3, owns_block k0.kown (fun g hg => g3.block g (own_lt k0.kown hg).2 (by simpa using own_row k0.kown hrow (by decide) hg)), k0.apart, k0.knew⟩
    clear k0 r3 g3 H1
    go_wp2_with fail
    go_loopw [2, 7, 8] (fun o K i wr => ∃ (j : Nat) (Q : List Nv) (ks : List Int), j ≤ 3 ∧ i = .int .i64 j ∧ Dk w rb ra rn rc B V P wr o Q K ks ∧ ks.length + j ≤ 3 ∧ Q.length ≤ m1 * (3 - j)) (fun _ _ i _ => (intOf i).toNat)
    case atStart => exact ⟨z, [], [], by omega, rfl, k3.out, by simp; omega, by simp⟩
    case round =>
      obtain ⟨j, Q, ks, hj, rfl, hk, hkl, hQ⟩ := hrel
      clear k3
      have szr := hk.dn.fr.size
      have hQ39 := bound_any m1 j Q.length hm1 hj hQ
      by_cases h0 : 0 < j
      · have hd : (0 : Int) < (j : Int) := by omega
        have HC := HD.out rb ra rn rc B u2 (P ++ Q) wr hk.dn.rd hB (by omega) hk.dn.own (by rw [List.length_append]; omega)
        have HC' : Hid (Calls Tryd.prog 38 #[.pointer (some ⟨rb, 0, none⟩), .int .i64 deep1, u2] wr (DrawnEnd wr rb ra rn rc B u2 (P ++ Q) m1)) := HC
        have HK : Hid _ := hk
        clear HC hk
        go_wp2_with fail
        refine HC'.out.mono ?_
        rintro e w4 ⟨V2, Q2, rfl, d2, q1, q2⟩
        have k4 := HK.out.sub d2
        obtain ⟨a2, c2, hV2⟩ := own_form d2.own.row
        obtain ⟨M, hM⟩ : ∃ M, ((P ++ Q) ++ Q2).length = M := ⟨_, rfl⟩
        rw [hM] at hV2
        have hMb : M ≤ 2000 ∧ 1 ≤ M := by rw [List.length_append, List.length_append] at hM; omega
        obtain ⟨hM1, hM2⟩ := hMb
        have HB : Hid ((Q ++ Q2).length ≤ m1 * (3 - (j - 1))) := by
          unfold Hid
          rw [List.length_append]
          exact bound_step m1 j Q.length Q2.length h0 hj hQ q2
        subst hV2
        have hkown := k4.kown
        have sz4 := k4.dn.fr.size
        clear d2 hM HC'
        go_wp2_with (at_builtin; refine wpList_append_own_at _ rfl _ _ 42 rfl B 2 j0 _ 1 8 Tryd.underlying42 hi' hz0' hz1' hz2' rfl (by decide) _ _ _ rfl (hkown.alloc _) ⟨w4.heap.size, 0, none⟩ 1 1 [.int .i64 ((M : Int) - 1)] rfl rfl ?c1 ?c2 ?c3 ?c4 ?c5 ?_)
        case c1 => exact cell_one_new _ _ _
        case c2 => intro y hy; simp at hy; subst hy; rfl
        case c3 => unfold maxLen; omega
        case c4 => omega
        case c5 => simp; omega
        intro v' w5 hown' hgrow _ hblk
        have k5 : Hid (Dk w rb ra rn rc B V P w5 _ (Q ++ Q2) v' (ks ++ [(M : Int) - 1])) := k4.push hB hown' hgrow hblk
        clear hown' hgrow hblk k4 hkown
        go_wp2
        go_roundw
        case rel => exact ⟨j - 1, Q ++ Q2, ks ++ [(M : Int) - 1], by omega, by go_num, k5.out, by rw [List.length_append, List.length_singleton]; omega, HB.out⟩
        case measure => simp [intOf] <;> omega
      · obtain rfl : j = 0 := by omega
        obtain ⟨ka, kc, hKf⟩ := own_form hk.kown
        have hko := hk.kown
        have hka := hk.apart
        have hkn := hk.knew
        have hdn := hk.dn
        clear hk
        subst hKf
        have hlen : (P ++ Q).length ≤ 2000 := by rw [List.length_append]; omega
        have hks : ks.length ≤ 3 := by omega
        go_wp2_with (at_builtin; refine wpList_append_own_at _ rfl _ _ 24 rfl B 44 i0 _ 4 56 Tryd.underlying24 hi hz0 hz1 hz2 rfl (by decide) _ _ _ rfl (hdn.own.row.alloc _) ⟨wr.heap.size, 0, none⟩ 1 1 [.int .i64 6, .int .i64 0, .string ⟨#[]⟩, .slice ka ks.length kc] rfl rfl ?d1 ?d2 ?d3 ?d4 ?d5 ?_)
        case d1 => exact cell_four wr ⟨6, 0, ⟨#[]⟩, ks⟩ (.slice ka ks.length kc)
        case d2 => intro y hy; simp at hy; rcases hy with rfl | rfl | rfl | rfl <;> rfl
        case d3 => unfold maxLen; omega
        case d4 => omega
        case d5 => simp; omega
        intro v' w5 hown' hgrow _ hblk
        have hE : Hid (DrawnEnd w rb ra rn rc B V P m (.returned v') w5) := ⟨v', _, rfl, hdn.put (x := ⟨6, 0, ⟨#[]⟩, ks⟩) hB hBw ⟨by show (0 : Nat) ≤ 200; omega, by show ks.length ≤ 1000; omega⟩ hko hka hkn (by rw [List.length_append]; exact hown') hgrow hblk, by simp, by rw [List.length_append, List.length_singleton]; omega⟩
        clear hown' hgrow hblk
        go_wp2
        go_ret
        exact hE.out
  · go_wp2_with fail
    refine (text_any rb ra rn rc w1 H1.rd H1.lt).mono ?_
    rintro e w2 ⟨s, rfl, hsz, r2, g2⟩
    have H2 := H1.grown r2 g2
    have sz2 := H2.fr.size
    clear r2 g2
    go_wp2_with (at_builtin; refine wpList_append_own_at _ rfl _ _ 24 rfl B 44 i0 _ 4 56 Tryd.underlying24 hi hz0 hz1 hz2 rfl (by decide) _ _ _ rfl (H2.own.row.alloc _) ⟨w2.heap.size, 0, none⟩ 1 1 [.int .i64 4, .int .i64 0, .string s, .slice none 0 0] rfl rfl ?c1 ?c2 ?c3 ?c4 ?c5 ?_)
    case c1 => exact cell_four w2 ⟨4, 0, s, []⟩ (.slice none 0 0)
    case c2 => intro y hy; simp at hy; rcases hy with rfl | rfl | rfl | rfl <;> rfl
    case c3 => simp; unfold maxLen; omega
    case c4 => simp; omega
    case c5 => simp; omega
    intro v' w5 hown' hgrow _ hblk
    have hE : Hid (DrawnEnd w rb ra rn rc B V P m (.returned v') w5) := ⟨v', _, rfl, H2.put (x := ⟨4, 0, s, []⟩) hB hBw (small_leaf _ _ _ (by exact hsz)) (kids_nil _ _) (fun _ _ _ _ e => by simp [Value.ownBlock] at e) (fun k e => by simp [Value.ownBlock] at e) (by rw [List.append_nil]; exact hown') hgrow hblk, by simp, by simp; omega⟩
    clear hown' hgrow hblk
    go_wp2
    go_ret
    exact hE.out
theorem reply_d3 : ReplyD 40 3 :=
  reply_ds 40 13 rfl (by omega) 3 2 (by omega) (by omega) (by omega) (reply_ds 13 4 rfl (by omega) 2 1 (by omega) (by omega) (by omega) (reply_ds 4 1 rfl (by omega) 1 0 (by omega) (by omega) (by omega) reply_d0))
end Go.Proofs.YtcgeafdakaeicaaDoor
