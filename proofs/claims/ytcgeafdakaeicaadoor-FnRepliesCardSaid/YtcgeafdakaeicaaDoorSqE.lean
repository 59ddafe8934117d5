/- The specification's ReadResp. -/
import Derived.Test.YtcgeafdakaeicaaDoorSqD
import Derived.Test.YtcgeafdakaeicaaDoorRpSpecOk
namespace Go.Proofs.YtcgeafdakaeicaaDoor
open Go.RowKit Go.Sort
open Rp (Nd nd0 plainB numB fieldsB)

def Sm (x : Nd) : Prop := x.s.size ≤ 200 ∧ x.kids.length ≤ 1000

theorem kids_small {f : List UInt8 → Nat → Rep} (hf : ∀ l i ns u, f l i = .inr (ns, u) → ∀ x ∈ ns, Sm x) : ∀ (n : Nat) (l : List UInt8) (i : Nat) (ms : List Nd) (ks : List Int) (v : Nat), kidsM f n l i = .inr (ms, ks, v) → (∀ x ∈ ms, Sm x) ∧ ks.length = n
  | 0, l, i, ms, ks, v, h => by
    simp only [kidsM] at h
    injection h with h
    injection h with h1 h2
    injection h2 with h2 h3
    subst h1 h2
    simp
  | n + 1, l, i, ms, ks, v, h => by
    cases hq : f l i with
    | inl c => rw [kidsM_inl hq] at h; cases h
    | inr q =>
      obtain ⟨ns, u⟩ := q
      rw [kidsM_inr hq] at h
      cases hk : kidsM f n (l.drop u) (i + ns.length) with
      | inl c => rw [hk] at h; cases h
      | inr q =>
        obtain ⟨ms', ks', v'⟩ := q
        rw [hk] at h
        simp only [preK] at h
        injection h with h
        injection h with h1 h2
        injection h2 with h2 h3
        subst h1 h2
        obtain ⟨a1, a2⟩ := kids_small hf n _ _ _ _ _ hk
        refine ⟨fun x hx => ?_, by simp [a2]⟩
        rcases List.mem_append.1 hx with hx | hx
        · exact hf _ _ _ _ hq x hx
        · exact a1 x hx

theorem reply_small : ∀ (d : Nat), d ≤ 4 → ∀ (l : List UInt8) (i : Nat) (ns : List Nd) (u : Nat), replyM d l i = .inr (ns, u) → ∀ x ∈ ns, Sm x := by
  intro d
  induction d with
  | zero =>
    intro _ l i ns u h
    rw [replyM_eq] at h
    split at h <;> cases h
  | succ d ih =>
    intro hd l i ns u h
    cases hl : lineM l with
    | inl c => rw [reply_inl hl] at h; cases h
    | inr t =>
      cases t with
      | nil => rw [reply_nil hl] at h; cases h
      | cons b r =>
        rw [reply_node hl] at h
        cases hn : nodeM (replyM d) b r (l.drop (r.length + 3)) i with
        | inl c => rw [hn] at h; cases h
        | inr q =>
          obtain ⟨ms, x, v⟩ := q
          rw [hn] at h
          have h' : (if i + ms.length = 1000 then (.inl 2 : Rep) else .inr (ms ++ [x], r.length + 3 + v)) = .inr (ns, u) := h
          by_cases h1 : i + ms.length = 1000
          · rw [if_pos h1] at h'; cases h'
          · rw [if_neg h1] at h'
            injection h' with h'
            injection h' with h2 h3
            subst h2
            have key : (∀ y ∈ ms, Sm y) ∧ Sm x := by
              unfold nodeM at hn
              split at hn
              · split at hn
                · rename_i hp
                  cases hn
                  simp [plainB] at hp
                  exact ⟨by simp, by simpa [Sm] using hp.1⟩
                · cases hn
              split at hn
              · split at hn
                · rename_i hp
                  cases hn
                  simp [plainB] at hp
                  exact ⟨by simp, by simpa [Sm] using hp.1⟩
                · cases hn
              split at hn
              · split at hn
                · cases hn
                  exact ⟨by simp, by simp [Sm, ByteArray.size]⟩
                · cases hn
              split at hn
              · split at hn
                · cases hn
                  exact ⟨by simp, by simp [Sm, ByteArray.size]⟩
                · split at hn
                  · cases hn
                  · rename_i n hc
                    split at hn
                    · cases hn
                    · rename_i t ht
                      have h200 := count_le hc
                      have hlen : t.length ≤ 200 := by
                        unfold someM at ht
                        split at ht
                        · cases ht
                        · split at ht
                          · injection ht with ht
                            subst ht
                            rw [List.length_take]; omega
                          · cases ht
                      cases hn
                      exact ⟨by simp, by simp [Sm, ByteArray.size, hlen]⟩
              split at hn
              · split at hn
                · cases hn
                · rename_i n hc
                  split at hn
                  · cases hn
                  · rename_i ms' ks v' hk
                    have h1000 := count_le hc
                    cases hn
                    obtain ⟨a1, a2⟩ := kids_small (fun l i ns u h => ih (by omega) l i ns u h) n _ _ _ _ _ hk
                    exact ⟨a1, by simp [Sm, ByteArray.size]; omega⟩
              · cases hn
            intro y hy
            rcases List.mem_append.1 hy with hy | hy
            · exact key.1 y hy
            · simp at hy; subst hy; exact key.2

theorem flatN_at : ∀ (P : List Nv) (i : Nat) (h : i < P.length), (flatN P)[i * 4]? = some (.int .i64 (P[i]).1.kind) ∧ (flatN P)[i * 4 + 1]? = some (.int .i64 (P[i]).1.num) ∧ (flatN P)[i * 4 + 2]? = some (.string (P[i]).1.s) ∧ (flatN P)[i * 4 + 3]? = some (P[i]).2
  | [], i, h => by simp at h
  | p :: P, 0, _ => ⟨rfl, rfl, rfl, rfl⟩
  | p :: P, i + 1, h => by
    have h' : i < P.length := by simpa using h
    obtain ⟨a, b, c, d⟩ := flatN_at P i h'
    have e : flatN (p :: P) = [.int .i64 p.1.kind, .int .i64 p.1.num, .string p.1.s, p.2] ++ flatN P := rfl
    rw [e]
    refine ⟨?_, ?_, ?_, ?_⟩
    · rw [List.getElem?_append_right (by simp; omega)]; simpa [show (i + 1) * 4 - 4 = i * 4 from by omega] using a
    · rw [List.getElem?_append_right (by simp; omega)]; simpa [show (i + 1) * 4 + 1 - 4 = i * 4 + 1 from by omega] using b
    · rw [List.getElem?_append_right (by simp; omega)]; simpa [show (i + 1) * 4 + 2 - 4 = i * 4 + 2 from by omega] using c
    · rw [List.getElem?_append_right (by simp; omega)]; simpa [show (i + 1) * 4 + 3 - 4 = i * 4 + 3 from by omega] using d

theorem own_cells {w : World} {B : Nat} {e : TypeId} {size n : Nat} {v : Value} {xs : List Value} (h : w.ownsRow B e size v n xs) {g : Nat} (hg : v.ownBlock = some g) : ∀ j u, xs[j]? = some u → w.cell? ⟨g, j, none⟩ = some u := fun j u hj => by
  have := h.cells hg j u hj
  rwa [Addr.add_lit, Nat.zero_add] at this

theorem ints_of_own {w : World} {B : Nat} {K : Value} {ks : List Int} (h : w.ownsRow B 2 1 K ks.length (intVals ks)) : ∃ ak bk ck, K = .slice ak ks.length ck ∧ Rp.IntsIn w ak bk 0 ks.length ks := by
  rcases Joins.ownsRow_forms h with ⟨h1, h2⟩ | ⟨g, c, rfl⟩
  · exact ⟨none, 0, 0, by rw [h2, h1], rfl, fun h0 => by omega, fun h0 => by omega, fun i hi => by omega⟩
  · refine ⟨some ⟨g, 0, none⟩, g, c, rfl, rfl, fun _ => rfl, fun _ => (own_lt h rfl).2, fun i hi => ?_⟩
    rw [Nat.zero_add]
    exact own_cells h rfl i _ (by rw [intVals, List.getElem?_map, List.getElem?_eq_getElem hi, List.getD_eq_getElem?_getD, List.getElem?_eq_getElem hi]; rfl)

/-- Nodes that a slice owns, as they are read. -/
theorem resps_of_own {w : World} {B : Nat} {V : Value} {P : List Nv} {L : List Nd} (h : OwnN w B V P) (hL : P.map Prod.fst = L) (hs : ∀ x ∈ L, Sm x) : ∃ a b c, V = .slice a L.length c ∧ Rp.RespsIn w a b 0 L.length L := by
  have hlen : P.length = L.length := by rw [← hL]; simp
  have hget : ∀ i, (hi : i < P.length) → L.getD i nd0 = (P[i]).1 := fun i hi => by
    rw [← hL, List.getD_eq_getElem?_getD, List.getElem?_map, List.getElem?_eq_getElem hi]; rfl
  have hfit : ∀ i, i < L.length → (L.getD i nd0).s.size ≤ 9223372036854775807 ∧ (L.getD i nd0).kids.length ≤ 9223372036854775807 := fun i hi => by
    have := hs (L.getD i nd0) (by rw [List.getD_eq_getElem?_getD, List.getElem?_eq_getElem hi]; simp)
    unfold Sm at this
    omega
  have hrow := h.row
  rw [hlen] at hrow
  rcases Joins.ownsRow_forms hrow with ⟨h1, h2⟩ | ⟨g, c, rfl⟩
  · exact ⟨none, 0, 0, by rw [h2, h1], rfl, fun h0 => by omega, fun h0 => by omega, fun i hi => by omega, hfit⟩
  · refine ⟨some ⟨g, 0, none⟩, g, c, rfl, rfl, fun _ => rfl, fun _ => (own_lt hrow rfl).2, fun i hi => ?_, hfit⟩
    have hi' : i < P.length := by omega
    obtain ⟨f0, f1, f2, f3⟩ := flatN_at P i hi'
    obtain ⟨ak, bk, ck, hK, hI⟩ := ints_of_own (h.kids (P[i]) (List.getElem_mem hi'))
    rw [hget i hi', Nat.zero_add]
    refine ⟨ak, bk, 0, ck, own_cells hrow rfl _ _ f0, own_cells hrow rfl _ _ f1, own_cells hrow rfl _ _ f2, ?_, hI⟩
    rw [← hK]
    exact own_cells hrow rfl _ _ f3

abbrev Y1 (w : World) (s : ByteArray) : World := w.alloc (.cells #[.string s, .int .i64 0, .int .i64 0, .slice none 0 0] 72)
theorem Y1_rd (w : World) (s : ByteArray) : S4 nilV (Y1 w s) w.heap.size s 0 0 := RowAt.new w 72 #[.string s, .int .i64 0, .int .i64 0, .slice none 0 0]
theorem Y1_below (w : World) (s : ByteArray) : Below w.heap.size w (Y1 w s) := (Below.refl _ w).alloc (Nat.le_refl _) _

theorem item_top (s : ByteArray) (w : World) (hs : s.size ≤ 1048576) : Calls Tryd.prog 42 #[.pointer (some ⟨w.heap.size, 0, none⟩), .int .i64 1] (Y1 w s) (ItemEnd (Y1 w s) w.heap.size s 0 (w.heap.size + 1) nilV [] 4 (replyM 4 s.data.toList 0)) := by
  have := item_all s 0 w.heap.size (w.heap.size + 1) nilV [] (Y1 w s) hs (by omega) (Y1_rd w s) (by simp [Y1]) ⟨World.ownsRow_nil _ _ _ _, by simp, List.Pairwise.nil⟩ (by simp)
  rwa [List.drop_zero, List.length_nil] at this

set_option maxHeartbeats 1000000 in
theorem specRead_gave (s : ByteArray) (c : Int) (w : World) (hs : s.size ≤ 1048576) (hm : replyM 4 s.data.toList 0 = .inl c) :
    Calls Tryd.prog 16 #[.string s] w fun e w' => RespEnd w (.inl c) e w' := by
  have hcz : (c != 0) = true := by simpa using reply_code 4 _ _ c hm
  have HC := item_top s w hs
  rw [hm] at HC
  have HC' : Hid (Calls Tryd.prog 42 #[.pointer (some ⟨w.heap.size, 0, none⟩), .int .i64 1] (Y1 w s) fun e w' => ∃ z a' V' Q, e = .returned (.int .i64 z) ∧ S4 V' w' w.heap.size s a' c ∧ OwnN w' (w.heap.size + 1) V' ([] ++ Q) ∧ NewQ (Y1 w s) Q ∧ Fr (Y1 w s) w' w.heap.size nilV ∧ Nw (Y1 w s) nilV V' ∧ (([] : List Nv) ++ Q).length ≤ 1001 + 4) := HC
  clear HC hm
  go_enter Tryd.func16, Tryd.ntmps16
  go_wp2_with fail
  refine HC'.out.mono ?_
  rintro e w1 ⟨z, a', V', Q, rfl, r1, o1, _, f1, _, _⟩
  have b1 : Below w.heap.size w w1 := (Y1_below w s).trans (f1.low (by simp [Y1]) (Nat.le_refl _) (by simp [Value.ownBlock]))
  have c2 := RowAt.cell r1 2
  simp at c2
  clear r1 o1 f1
  go_wp2
  go_quiet ((fail))
  go_wp2
  go_ret3
  exact ⟨rfl, below_drewN b1 _⟩

set_option maxHeartbeats 1000000 in
theorem specRead_done (s : ByteArray) (ns : List Nd) (u : Nat) (w : World) (hs : s.size ≤ 1048576) (hm : replyM 4 s.data.toList 0 = .inr (ns, u)) :
    Calls Tryd.prog 16 #[.string s] w fun e w' => RespEnd w (.inr (ns, u)) e w' := by
  obtain ⟨hok, h1, h2⟩ := reply_right _ _ _ hm
  have hsm := reply_small 4 (by omega) _ _ _ _ hm
  have HC := item_top s w hs
  rw [hm] at HC
  have HC' : Hid (Calls Tryd.prog 42 #[.pointer (some ⟨w.heap.size, 0, none⟩), .int .i64 1] (Y1 w s) fun e w' => ∃ V' Q, Q.map Prod.fst = ns ∧ e = .returned (.int .i64 (((([] : List Nv).length + ns.length : Nat) : Int) - 1)) ∧ S4 V' w' w.heap.size s (0 + u) 0 ∧ 0 + u ≤ s.size ∧ OwnN w' (w.heap.size + 1) V' ([] ++ Q) ∧ NewQ (Y1 w s) Q ∧ Fr (Y1 w s) w' w.heap.size nilV ∧ Nw (Y1 w s) nilV V') := HC
  have HS : Hid (∀ x ∈ ns, Sm x) := hsm
  have HOK : Hid (Rp.specB ns = true) := hok
  clear HC hm hsm hok
  go_enter Tryd.func16, Tryd.ntmps16
  go_wp2_with fail
  refine HC'.out.mono ?_
  rintro e w1 ⟨V', Q, hQ, rfl, r1, _, o1, _, f1, _⟩
  have b1 : Below w.heap.size w w1 := (Y1_below w s).trans (f1.low (by simp [Y1]) (Nat.le_refl _) (by simp [Value.ownBlock]))
  have o2 : OwnN w1 (w.heap.size + 1) V' Q := by simpa using o1
  have r2 : S4 V' w1 w.heap.size s u 0 := by simpa using r1
  obtain ⟨ra, rbk, rc, hVf, hin⟩ := resps_of_own o2 hQ HS.out
  have hlt : w.heap.size < w1.heap.size := RowAt.lt r2
  subst hVf
  have hcall := Rp.specOk_any ra rbk 0 ns.length rc ns w1 hin (by omega) (fun i hi => by
    have := HS.out (ns.getD i nd0) (by rw [List.getD_eq_getElem?_getD, List.getElem?_eq_getElem hi]; simp)
    unfold Sm at this
    omega) h1 h2
  rw [HOK.out] at hcall
  have HK : Hid (Calls Tryd.prog 12 #[.slice ra ns.length rc] w1 fun e w' => e = .returned (.bool true) ∧ Below w1.heap.size w1 w') := hcall
  have c2 := RowAt.cell r2 2
  have c3 := RowAt.cell r2 3
  simp at c2 c3
  have R2 : Hid (S4 (.slice ra ns.length rc) w1 w.heap.size s u 0) := r2
  have O2 : Hid (OwnN w1 (w.heap.size + 1) (.slice ra ns.length rc) Q) := o2
  clear r1 o1 f1 r2 o2 hin hcall
  go_wp2_with fail
  refine HK.out.mono ?_
  rintro e w3 ⟨rfl, b3⟩
  have r3 : S4 (.slice ra ns.length rc) w3 w.heap.size s u 0 := RowAt.below R2.out b3 hlt
  have c4 := RowAt.cell r3 1
  have c5 := RowAt.cell r3 3
  simp at c4 c5
  have H3 : Hid (OwnN w3 w.heap.size (.slice ra ns.length rc) Q) := (O2.out.below b3 (Nat.le_refl _)).le (by omega)
  have b13 : Below w.heap.size w w3 := b1.trans (b3.mono (by omega))
  clear r3 b3
  go_wp2
  go_quiet ((fail))
  go_wp2
  go_ret3
  exact ⟨_, Q, hQ, rfl, H3.out.of_block (fun _ _ => rfl) (fun _ _ _ _ => rfl), below_drewN b13 _⟩

theorem specRead_any (s : ByteArray) (w : World) (hs : s.size ≤ 1048576) :
    Calls Tryd.prog 16 #[.string s] w fun e w' => RespEnd w (replyM 4 s.data.toList 0) e w' := by
  cases hm : replyM 4 s.data.toList 0 with
  | inl c => exact specRead_gave s c w hs hm
  | inr q => obtain ⟨ns, u⟩ := q; exact specRead_done s ns u w hs hm
end Go.Proofs.YtcgeafdakaeicaaDoor
