/- reply at every depth; ReadResp. -/
import Derived.Test.YtcgeafdakaeicaaDoorRrG
import Derived.Test.YtcgeafdakaeicaaDoorAtt
namespace Go.Proofs.YtcgeafdakaeicaaDoor
open Go.RowKit Go.Sort Go.Lib
open Rp (Nd nd0 plainB numB fieldsB)

theorem node_s {W w2 : World} {rb : Nat} {s : ByteArray} {at_ B : Nat} {V : Value} {P : List Nv} {ms : List Nd} {x : Nd} {u : Nat} {e : Ending} (h : NodeEnd W rb s at_ B V P (.inr (ms, x, u)) e w2) :
    ∃ V1 Q ka kc, e = .returned (.agg (nodeC x (.slice ka x.kids.length kc))) ∧ NodeS W rb s at_ B V P ms x u w2 V1 Q (.slice ka x.kids.length kc) := by
  obtain ⟨V1, Q, K, hQ, he, h1, h2, h3, h4, h5, h6, h7, h8, h9⟩ := h
  obtain ⟨ka, kc, rfl⟩ := own_form h4
  exact ⟨V1, Q, ka, kc, he, hQ, h1, h2, h3, h4, h5, h7, h6, h8, h9⟩

theorem reply_zero : ReplyOk 0 4 := by
  intro s at_ rb B V P w hs ha hr h hrb hB hBw ho hP
  cases hl : lineM (s.data.toList.drop at_) with
  | inl c => exact reply_line 0 4 s at_ rb B V P w c hs ha hr h hl
  | inr l =>
    cases l with
    | nil => exact reply_empty 0 4 s at_ rb B V P w hs ha hr h hl
    | cons b r => exact reply_four s at_ rb B V P w b r hs ha hr h hl

theorem reply_succ (d : Nat) (a : Int) (ha3 : a ≤ 3) (a1 : Int) (ha1 : IntKind.i64.wrap (a + 1) = a1) (hd : ReplyOk d a1) : ReplyOk (d + 1) a := by
  intro s at_ rb B V P w hs ha hr h hrb hB hBw ho hP
  cases hl : lineM (s.data.toList.drop at_) with
  | inl c => exact reply_line (d + 1) a s at_ rb B V P w c hs ha hr h hl
  | inr l =>
    cases l with
    | nil => exact reply_empty (d + 1) a s at_ rb B V P w hs ha hr h hl
    | cons b r =>
      obtain ⟨hfit, hline⟩ := line3_inr V s at_ rb (b :: r) w hs ha hr h hl
      have hfit2 : at_ + (r.length + 1) + 2 ≤ s.size := hfit
      rw [reply_node hl, List.drop_drop]
      have hdr : at_ + (r.length + 3) = at_ + (b :: r).length + 2 := by rw [List.length_cons]; omega
      rw [hdr]
      have hnode : ∀ w1 W, R3 V w1 rb s (at_ + (b :: r).length + 2) → w.grownBy w1 (some rb) → Below w1.heap.size w1 W → Calls Tryd.prog 60 #[.pointer (some ⟨rb, 0, none⟩), .int .u8 b.toNat, .string ⟨r.toArray⟩, .int .i64 a] W fun e w' => NodeEnd W rb s (at_ + (b :: r).length + 2) B V P (nodeM (replyM d) b r (s.data.toList.drop (at_ + (b :: r).length + 2)) P.length) e w' := fun w1 W r1 g1 b1 => by
        have s1 := g1.size
        have s2 := b1.size
        have o1 : OwnN w1 B V P := ho.grown h (by decide) (by decide) g1
        have hr1 : Ready w1 := ready_fr hr (Fr.of_grown V g1) hrb hB ho
        exact node_any d a a1 ha1 hd b r s _ rb B V P W hs hfit (by rw [size_mk]; omega) (hr1.below (b1.mono hr1.six)) (r1.below b1 r1.lt) hrb hB (by omega) (o1.below b1 (Nat.le_refl _)) hP
      cases hn : nodeM (replyM d) b r (s.data.toList.drop (at_ + (b :: r).length + 2)) P.length with
      | inl c =>
        rw [hn] at hnode
        exact reply_gave a ha3 s at_ rb V w b r c (by omega) hline hnode
      | inr q =>
        obtain ⟨ms, x, v⟩ := q
        rw [hn] at hnode
        exact reply_put a ha3 s at_ rb B V P w b r ms x v (by omega) h.lt hBw (node_top (fun l i ns u hi h => reply_top d l i ns u hi h) hP hn) hline (fun w1 g1 => ho.grown h (by decide) (by decide) g1) (fun w1 W r1 g1 b1 => (hnode w1 W r1 g1 b1).mono fun e w2 he => node_s he)

theorem reply_all : ReplyOk 4 0 :=
  reply_succ 3 0 (by decide) 1 (by decide) (reply_succ 2 1 (by decide) 2 (by decide) (reply_succ 1 2 (by decide) 3 (by decide) (reply_succ 0 3 (by decide) 4 (by decide) reply_zero)))

theorem line_code {l : List UInt8} {c : Int} (h : lineM l = .inl c) : c ≠ 0 := by
  unfold lineM at h
  repeat' (split at h)
  all_goals first | (cases h; decide) | (cases h; done)
theorem some_code {l : List UInt8} {n : Nat} {c : Int} (h : someM l n = .inl c) : c ≠ 0 := by
  unfold someM at h
  repeat' (split at h)
  all_goals first | (cases h; decide) | (cases h; done)
theorem kids_code {f : List UInt8 → Nat → Rep} (hf : ∀ l i c, f l i = .inl c → c ≠ 0) : ∀ (n : Nat) (l : List UInt8) (i : Nat) (c : Int), kidsM f n l i = .inl c → c ≠ 0
  | 0, l, i, c, h => by cases h
  | n + 1, l, i, c, h => by
    cases hq : f l i with
    | inl c' => rw [kidsM_inl hq] at h; cases h; exact hf _ _ _ hq
    | inr q =>
      obtain ⟨ns, u⟩ := q
      rw [kidsM_inr hq] at h
      cases hk : kidsM f n (l.drop u) (i + ns.length) with
      | inl c' => rw [hk] at h; cases h; exact kids_code hf n _ _ _ hk
      | inr q => rw [hk] at h; obtain ⟨a, b, d⟩ := q; cases h
theorem node_code {f : List UInt8 → Nat → Rep} (hf : ∀ l i c, f l i = .inl c → c ≠ 0) {b : UInt8} {r l : List UInt8} {i : Nat} {c : Int} (h : nodeM f b r l i = .inl c) : c ≠ 0 := by
  unfold nodeM at h
  repeat' (split at h)
  all_goals first
    | (cases h; decide)
    | (cases h; rename_i hs; exact some_code hs)
    | (cases h; rename_i hs; exact kids_code hf _ _ _ _ hs)
    | (cases h; done)
theorem reply_code : ∀ (d : Nat) (l : List UInt8) (i : Nat) (c : Int), replyM d l i = .inl c → c ≠ 0 := by
  intro d
  induction d with
  | zero =>
    intro l i c h
    cases hl : lineM l with
    | inl c' => rw [reply_inl hl] at h; cases h; exact line_code hl
    | inr t =>
      cases t with
      | nil => rw [reply_nil hl] at h; cases h; decide
      | cons b r => rw [reply_deep hl] at h; cases h; decide
  | succ d ih =>
    intro l i c h
    cases hl : lineM l with
    | inl c' => rw [reply_inl hl] at h; cases h; exact line_code hl
    | inr t =>
      cases t with
      | nil => rw [reply_nil hl] at h; cases h; decide
      | cons b r =>
        rw [reply_node hl] at h
        cases hn : nodeM (replyM d) b r (l.drop (r.length + 3)) i with
        | inl c' => rw [hn] at h; cases h; exact node_code ih hn
        | inr q =>
          obtain ⟨ms, x, v⟩ := q
          rw [hn] at h
          have h' : (if i + ms.length = 1000 then (.inl 2 : Rep) else .inr (ms ++ [x], r.length + 3 + v)) = .inl c := h
          by_cases h1 : i + ms.length = 1000
          · rw [if_pos h1] at h'; cases h'; decide
          · rw [if_neg h1] at h'; cases h'

/-! ### ReadResp -/

abbrev nilV : Value := .slice none 0 0

theorem grown_nil {w w' : World} {rb : Nat} (h : Fr w w' rb nilV) : w.grownBy w' (some rb) :=
  ⟨h.os, h.tape, h.output, h.size, fun k hk hne => h.block k hk (fun e => hne (by rw [e])) (by simp [Value.ownBlock])⟩

set_option maxHeartbeats 1000000 in
theorem rclos_gave (s : ByteArray) (rb pb B : Nat) (c : Int) (w : World) (hs : s.size ≤ 1048576) (hr : Ready w) (h : R3 nilV w rb s 0) (hrb : 6 ≤ rb) (hB : 6 ≤ B) (hBw : B ≤ w.heap.size) (hp : RowAt w pb 55 #[.pointer (some ⟨rb, 0, none⟩)]) (hm : replyM 4 s.data.toList 0 = .inl c) :
    Calls Tryd.prog 34 #[.pointer (some ⟨pb, 0, none⟩)] w fun e w' => e = gaveUp c ∧ w.grownBy w' (some rb) := by
  have c0 := hp.cell 0
  simp at c0
  have HC := reply_all s 0 rb B nilV [] w hs (by omega) hr h hrb hB hBw ⟨World.ownsRow_nil _ _ _ _, by simp, List.Pairwise.nil⟩ (by simp)
  rw [List.drop_zero, List.length_nil, hm] at HC
  have HC' : Hid (Calls Tryd.prog 35 #[.pointer (some ⟨rb, 0, none⟩), .int .i64 0] w fun e w' => e = gaveUp c ∧ Fr w w' rb nilV) := HC
  clear HC hm
  go_enter Tryd.func34, Tryd.ntmps34
  go_wp2_with fail
  refine HC'.out.mono ?_
  rintro e w1 ⟨rfl, f1⟩
  have g1 := grown_nil f1
  clear f1
  unfold gaveUp
  go_wp2
  exact ⟨rfl, rfl, g1⟩

set_option maxHeartbeats 1000000 in
theorem rclos_done (s : ByteArray) (rb pb B : Nat) (ns : List Nd) (u : Nat) (w : World) (hs : s.size ≤ 1048576) (hr : Ready w) (h : R3 nilV w rb s 0) (hrb : 6 ≤ rb) (hB : 6 ≤ B) (hBw : B ≤ w.heap.size) (hp : RowAt w pb 55 #[.pointer (some ⟨rb, 0, none⟩)]) (hm : replyM 4 s.data.toList 0 = .inr (ns, u)) :
    Calls Tryd.prog 34 #[.pointer (some ⟨pb, 0, none⟩)] w fun e w' => e = .returned (.tuple #[]) ∧ ∃ V P, P.map Prod.fst = ns ∧ R3 V w' rb s u ∧ u ≤ s.size ∧ OwnN w' B V P ∧ w.grownBy w' (some rb) := by
  have c0 := hp.cell 0
  simp at c0
  have HC := reply_all s 0 rb B nilV [] w hs (by omega) hr h hrb hB hBw ⟨World.ownsRow_nil _ _ _ _, by simp, List.Pairwise.nil⟩ (by simp)
  rw [List.drop_zero, List.length_nil, hm] at HC
  have HC' : Hid (Calls Tryd.prog 35 #[.pointer (some ⟨rb, 0, none⟩), .int .i64 0] w fun e w' => ∃ V' Q, Q.map Prod.fst = ns ∧ e = .returned (.int .i64 (((([] : List Nv).length + ns.length : Nat) : Int) - 1)) ∧ R3 V' w' rb s (0 + u) ∧ 0 + u ≤ s.size ∧ OwnN w' B V' ([] ++ Q) ∧ NewQ w Q ∧ Fr w w' rb nilV ∧ Nw w nilV V') := HC
  clear HC hm
  go_enter Tryd.func34, Tryd.ntmps34
  go_wp2_with fail
  refine HC'.out.mono ?_
  rintro e w1 ⟨V', Q, hQ, rfl, r1, f1, o1, _, fr1, _⟩
  have H2 : Hid (∃ V P, P.map Prod.fst = ns ∧ R3 V w1 rb s u ∧ u ≤ s.size ∧ OwnN w1 B V P ∧ w.grownBy w1 (some rb)) := ⟨V', Q, hQ, by simpa using r1, by omega, by simpa using o1, grown_nil fr1⟩
  clear r1 f1 o1 fr1
  go_wp2
  go_end0
  exact ⟨rfl, H2.out⟩

theorem rclos_enters (caps : Array Value) (_h : caps.size = 1) : ∀ w, (callFunc 34 caps).run Tryd.prog w = .ok (.enter 34 caps) w := fun w => enters_of Tryd.func34 (by kernel_rfl) rfl caps w

def RespEnd (w : World) : Rep → Ending → World → Prop
  | .inl c, e, w' => e = .returned (.tuple #[.slice none 0 0, .int .i64 0, .int .i64 c]) ∧ Below w.heap.size w w'
  | .inr (ns, u), e, w' => ∃ V P, P.map Prod.fst = ns ∧ e = .returned (.tuple #[V, .int .i64 u, .int .i64 0]) ∧ OwnN w' w.heap.size V P ∧ Below w.heap.size w w'

abbrev X2 (w : World) (s : ByteArray) : World := (w.alloc (.cells #[.string s, .int .i64 0, .slice none 0 0] 59)).alloc (.cells #[.pointer (some ⟨w.heap.size, 0, none⟩)] 55)
abbrev X3 (w : World) (s : ByteArray) : World := (X2 w s).alloc (.cells #[.int .i64 0] 2)

theorem X2_size (w : World) (s : ByteArray) : (X2 w s).heap.size = w.heap.size + 2 := by simp [X2]
theorem X3_size (w : World) (s : ByteArray) : (X3 w s).heap.size = w.heap.size + 3 := by simp [X3]
theorem X3_below (w : World) (s : ByteArray) : Below w.heap.size w (X3 w s) := Joins.below_alloc3 w _ _ _
theorem X3_rd (w : World) (s : ByteArray) : R3 nilV (X3 w s) w.heap.size s 0 := RowAt.below (RowAt.new w 59 #[.string s, .int .i64 0, .slice none 0 0]) (Joins.below_alloc2 _ _ _) (by simp)
theorem X3_ptr (w : World) (s : ByteArray) : RowAt (X3 w s) (w.heap.size + 1) 55 #[.pointer (some ⟨w.heap.size, 0, none⟩)] := by
  have := RowAt.new (w.alloc (.cells #[.string s, .int .i64 0, .slice none 0 0] 59)) 55 #[.pointer (some ⟨w.heap.size, 0, none⟩)]
  have h2 := RowAt.below this (Joins.below_alloc1 _ (.cells #[.int .i64 0] 2)) (by simp)
  simpa using h2
theorem X3_code (w : World) (s : ByteArray) : RowAt (X3 w s) (X2 w s).heap.size 2 #[.int .i64 0] := RowAt.new (X2 w s) 2 #[.int .i64 0]

theorem rcode_kept {w w' : World} {rb k : Nat} (hk : RowAt w k 2 #[.int .i64 0]) (hne : k ≠ rb) (hg : w.grownBy w' (some rb)) : RowAt w' k 2 #[.int .i64 0] :=
  (hg.block k hk.lt (by simpa using hne)).trans hk

theorem ratt_gave (s : ByteArray) (c : Int) (w : World) (hs : s.size ≤ 1048576) (hr : Ready w) (hm : replyM 4 s.data.toList 0 = .inl c) :
    Calls Tryd.prog 33 #[.func (.func 34) #[] #[.pointer (some ⟨w.heap.size + 1, 0, none⟩)]] (X2 w s) fun e w' => e = .returned (.int .i64 c) ∧ Below w.heap.size w w' := by
  have hb4 := X3_below w s
  have h6 := hr.six
  have hsz := X2_size w s
  have hsz3 := X3_size w s
  refine (attempt_gave 34 _ c (X2 w s) (fun w' => (X3 w s).grownBy w' (some w.heap.size)) (rclos_enters _ rfl) ?_ ?_).mono ?_
  · intro w' hg
    have hk := rcode_kept (X3_code w s) (by omega) hg
    exact ⟨by simpa using hk.cell 0, hk.frozen 0⟩
  · exact rclos_gave s w.heap.size (w.heap.size + 1) (w.heap.size + 3) c (X3 w s) hs (hr.below (hb4.mono h6)) (X3_rd w s) h6 (by omega) (by omega) (X3_ptr w s) hm
  · rintro e w' ⟨rfl, w1, hg, rfl⟩
    refine ⟨rfl, ?_⟩
    exact (hb4.trans (below_of_grown hg (Nat.le_refl _) (by rw [hsz3]; omega))).setCell (by rw [hsz]; simp) _

set_option maxHeartbeats 1000000 in
theorem readResp_gave (s : ByteArray) (c : Int) (w : World) (hs : s.size ≤ 1048576) (hr : Ready w) (hm : replyM 4 s.data.toList 0 = .inl c) :
    Calls Tryd.prog 13 #[.string s] w fun e w' => RespEnd w (.inl c) e w' := by
  have hmf : ∀ (fn : Fn) (first cap : Array Value) (w : World), (Instr.makeFunc fn first cap).run Tryd.prog w = .ok (.func fn first cap) w := fun _ _ _ _ => rfl
  have hcz : (c != 0) = true := by simpa using reply_code 4 _ _ c hm
  have HM : Hid (replyM 4 s.data.toList 0 = .inl c) := hm
  clear hm
  go_enter Tryd.func13, Tryd.ntmps13
  go_wp2_with fail
  refine (ratt_gave s c w hs hr HM.out).mono ?_
  rintro e w1 ⟨rfl, b1⟩
  go_wp2
  go_ret3
  exact ⟨rfl, b1⟩

theorem ratt_done (s : ByteArray) (ns : List Nd) (u : Nat) (w : World) (hs : s.size ≤ 1048576) (hr : Ready w) (hm : replyM 4 s.data.toList 0 = .inr (ns, u)) :
    Calls Tryd.prog 33 #[.func (.func 34) #[] #[.pointer (some ⟨w.heap.size + 1, 0, none⟩)]] (X2 w s) fun e w' => e = .returned (.int .i64 0) ∧ ∃ V P, P.map Prod.fst = ns ∧ R3 V w' w.heap.size s u ∧ RowAt w' (w.heap.size + 1) 55 #[.pointer (some ⟨w.heap.size, 0, none⟩)] ∧ OwnN w' w.heap.size V P ∧ u ≤ s.size ∧ Below w.heap.size w w' := by
  have hb4 := X3_below w s
  have h6 := hr.six
  have hsz := X2_size w s
  have hsz3 := X3_size w s
  refine (attempt_done 34 _ (X2 w s) (fun w' => ∃ V P, P.map Prod.fst = ns ∧ R3 V w' w.heap.size s u ∧ u ≤ s.size ∧ OwnN w' (w.heap.size + 3) V P ∧ (X3 w s).grownBy w' (some w.heap.size)) (rclos_enters _ rfl) ?_ ?_).mono ?_
  · rintro w' ⟨V, P, _, _, _, _, hg⟩
    have hk := rcode_kept (X3_code w s) (by omega) hg
    exact ⟨by simpa using hk.cell 0, hk.frozen 0⟩
  · exact rclos_done s w.heap.size (w.heap.size + 1) (w.heap.size + 3) ns u (X3 w s) hs (hr.below (hb4.mono h6)) (X3_rd w s) h6 (by omega) (by omega) (X3_ptr w s) hm
  · rintro e w' ⟨rfl, w1, ⟨V, P, hP, hrd, hu, ho, hg⟩, rfl⟩
    have keep : ∀ k, k ≠ w.heap.size + 2 → (w1.setCell ⟨(X2 w s).heap.size, 0, none⟩ (.int .i64 0)).heap[k]? = w1.heap[k]? := fun k hk => Below.heap_setCell _ _ _ _ (by simp only; omega)
    refine ⟨rfl, V, P, hP, (keep _ (by omega)).trans hrd, (keep _ (by omega)).trans ((hg.block _ (by omega) (by simp)).trans (X3_ptr w s)), ?_, hu, ?_⟩
    · exact (ho.of_block (fun g hg' => keep g (by have := (own_lt ho.row hg').1; omega)) (fun p hp g hg' => keep g (by have := (own_lt (ho.kids p hp) hg').1; omega))).le (by omega)
    · exact (hb4.trans (below_of_grown hg (Nat.le_refl _) (by rw [hsz3]; omega))).setCell (by rw [hsz]; simp) _

set_option maxHeartbeats 1000000 in
theorem readResp_done (s : ByteArray) (ns : List Nd) (u : Nat) (w : World) (hs : s.size ≤ 1048576) (hr : Ready w) (hm : replyM 4 s.data.toList 0 = .inr (ns, u)) :
    Calls Tryd.prog 13 #[.string s] w fun e w' => RespEnd w (.inr (ns, u)) e w' := by
  have hmf : ∀ (fn : Fn) (first cap : Array Value) (w : World), (Instr.makeFunc fn first cap).run Tryd.prog w = .ok (.func fn first cap) w := fun _ _ _ _ => rfl
  have HM : Hid (replyM 4 s.data.toList 0 = .inr (ns, u)) := hm
  clear hm
  go_enter Tryd.func13, Tryd.ntmps13
  go_wp2_with fail
  refine (ratt_done s ns u w hs hr HM.out).mono ?_
  rintro e w1 ⟨rfl, V, P, hP, hrd, hp, ho, hu, b1⟩
  have c1 := hrd.cell 1
  have c3 := hrd.cell 2
  have c2 := hp.cell 0
  simp at c1 c2 c3
  have H2 : Hid (OwnN w1 w.heap.size V P) := ho
  obtain ⟨a, cp, hV⟩ := own_form ho.row
  subst hV
  clear ho
  go_wp2
  go_quiet ((fail))
  go_wp2
  go_ret3
  exact ⟨_, P, hP, rfl, H2.out.of_block (fun _ _ => rfl) (fun _ _ _ _ => rfl), below_drewN b1 _⟩

theorem readResp_any (s : ByteArray) (w : World) (hs : s.size ≤ 1048576) (hr : Ready w) :
    Calls Tryd.prog 13 #[.string s] w fun e w' => RespEnd w (replyM 4 s.data.toList 0) e w' := by
  cases hm : replyM 4 s.data.toList 0 with
  | inl c => exact readResp_gave s c w hs hr hm
  | inr q => obtain ⟨ns, u⟩ := q; exact readResp_done s ns u w hs hr hm
end Go.Proofs.YtcgeafdakaeicaaDoor
