/- The reply's reader: node whole. -/
import Derived.Test.YtcgeafdakaeicaaDoorRrC
namespace Go.Proofs.YtcgeafdakaeicaaDoor
open Go.RowKit Go.Sort
open Rp (Nd nd0 plainB numB fieldsB)

def NodeEnd (w : World) (rb : Nat) (s : ByteArray) (at_ B : Nat) (V : Value) (P : List Nv) : NodeR → Ending → World → Prop
  | .inl c, e, w' => e = gaveUp c ∧ Fr w w' rb V
  | .inr (ms, x, u), e, w' => ∃ V' Q K, Q.map Prod.fst = ms ∧ e = .returned (.agg #[.int .i64 x.kind, .int .i64 x.num, .string x.s, K]) ∧ R3 V' w' rb s (at_ + u) ∧ at_ + u ≤ s.size ∧ OwnN w' B V' (P ++ Q) ∧ w'.ownsRow B 2 1 K x.kids.length (intVals x.kids) ∧ Apart K (P ++ Q) ∧ (∀ k, K.ownBlock = some k → w.heap.size ≤ k) ∧ NewQ w Q ∧ Fr w w' rb V ∧ Nw w V V'

theorem leaf_end {w w' : World} {rb : Nat} {s : ByteArray} {at_ B : Nat} {V : Value} {P : List Nv} {k m : Int} {t : ByteArray} {e : Ending} (ha : at_ ≤ s.size) (h : R3 V w rb s at_) (ho : OwnN w B V P) (he : e = .returned (.agg #[.int .i64 k, .int .i64 m, .string t, .slice none 0 0])) (hb : Below w.heap.size w w') :
    NodeEnd w rb s at_ B V P (.inr ([], ⟨k, m, t, []⟩, 0)) e w' :=
  ⟨V, [], .slice none 0 0, rfl, he, h.below hb h.lt, ha, by rw [List.append_nil]; exact ho.below hb (Nat.le_refl _), World.ownsRow_nil _ _ _ _, fun p hp k hk => by simp [Value.ownBlock], by simp [Value.ownBlock], fun p hp => by simp at hp, Fr.of_below _ _ hb, Nw.refl _ _⟩

theorem nil_apart (P : List Nv) : Apart (.slice none 0 0) P := fun p hp k hk => by simp [Value.ownBlock]

set_option maxHeartbeats 1000000 in
theorem node_array_none (p : Value) (t : ByteArray) (a : Int) (w : World) (hs : t.size ≤ 1048576) (hr : Ready w) (hc : countM t.data.toList 1000 = none) :
    Calls Tryd.prog 60 #[p, .int .u8 42, .string t, .int .i64 a] w fun e w' => e = gaveUp 2 ∧ Below w.heap.size w w' := by
  have H : Hid (Calls Tryd.prog 81 #[.string t, .int .i64 1000] (w.alloc (.cells z4 44)) fun e w' => e = gaveUp 2 ∧ Below (w.alloc (.cells z4 44)).heap.size (w.alloc (.cells z4 44)) w') := countOf_none t 1000 _ hs (ready_alloc hr _) hc
  have HB : Hid (Below w.heap.size w (w.alloc (.cells z4 44))) := (Below.refl _ w).alloc (Nat.le_refl _) _
  clear hc
  go_enter Tryd.func60, Tryd.ntmps60
  go_wp2_with fail
  refine H.out.mono ?_
  rintro e w1 ⟨rfl, b1⟩
  have b2 : Below w.heap.size w w1 := HB.out.trans (b1.mono (by simp))
  unfold gaveUp
  go_wp2
  exact ⟨rfl, rfl, b2⟩

set_option maxHeartbeats 2000000 in
theorem node_array (d : Nat) (a a1 : Int) (ha1 : IntKind.i64.wrap (a + 1) = a1) (hd : ReplyOk d a1) (t : ByteArray) (n : Nat) (s : ByteArray) (at_ rb B : Nat) (V : Value) (P : List Nv) (w : World) (hs : s.size ≤ 1048576) (ha : at_ ≤ s.size) (hts : t.size ≤ 1048576) (hr : Ready w) (h : R3 V w rb s at_) (hrb : 6 ≤ rb) (hB : 6 ≤ B) (hBw : B ≤ w.heap.size) (ho : OwnN w B V P) (hP : P.length ≤ 1000)
    (hc : countM t.data.toList 1000 = some n) (R : NodeR) (hR : R = match kidsM (replyM d) n (s.data.toList.drop at_) P.length with
      | .inl c => .inl c
      | .inr (ms, ks, v) => .inr (ms, ⟨6, 0, ⟨#[]⟩, ks⟩, v)) :
    Calls Tryd.prog 60 #[.pointer (some ⟨rb, 0, none⟩), .int .u8 42, .string t, .int .i64 a] w fun e w' => NodeEnd w rb s at_ B V P R e w' := by
  have hn := count_le hc
  have hlt := h.lt
  have H : Hid (Calls Tryd.prog 81 #[.string t, .int .i64 1000] (w.alloc (.cells z4 44)) fun e w' => e = .returned (.int .i64 n) ∧ Below (w.alloc (.cells z4 44)).heap.size (w.alloc (.cells z4 44)) w') := countOf_some t 1000 n _ hts (ready_alloc hr _) hc
  have HB : Hid (Below w.heap.size w (w.alloc (.cells z4 44))) := (Below.refl _ w).alloc (Nat.le_refl _) _
  have HZ : Hid (RowAt (w.alloc (.cells z4 44)) w.heap.size 44 z4) := RowAt.new w 44 z4
  have HO : Hid (OwnN w B V P) := ho
  have HD : Hid (ReplyOk d a1) := hd
  have HRR : Hid (R = _) := hR
  clear hc ho hd hR
  go_enter Tryd.func60, Tryd.ntmps60
  go_wp2_with fail
  refine H.out.mono ?_
  rintro e w2 ⟨rfl, b1⟩
  have b2 : Below w.heap.size w w2 := HB.out.trans (b1.mono (by simp))
  have z2 : RowAt w2 w.heap.size 44 z4 := RowAt.below HZ.out b1 (by simp)
  have hsz2 : w.heap.size + 1 ≤ w2.heap.size := by have := b1.size; simpa using this
  have r2 := h.below b2 hlt
  have o2 := HO.out.below b2 (Nat.le_refl _)
  have hVb : ∀ k, V.ownBlock = some k → k < w.heap.size := fun k hk => (own_lt HO.out.row hk).2
  have HC := kids_any d a1 HD.out n (by omega) s at_ rb B V P w2 hs ha (hr.below (b2.mono hr.six)) r2 hrb hB (by omega) o2 hP
  have H2 : Hid _ := HC
  have HV : Hid _ := hVb
  have HO2 : Hid _ := o2
  have HZ2 : Hid _ := z2
  have HB2 : Hid _ := b2
  clear HC hVb b1 HB HZ o2 z2 H b2 r2
  cases hk : kidsM (replyM d) n (s.data.toList.drop at_) P.length with
  | inl c =>
    rw [hk] at H2 HRR
    have HC' : Hid (Calls Tryd.prog 82 #[.pointer (some ⟨rb, 0, none⟩), .int .i64 n, .int .i64 a1] w2 fun e w' => e = gaveUp c ∧ Fr w2 w' rb V) := H2
    clear hk H2
    go_wp2_with fail
    refine HC'.out.mono ?_
    rintro e w3 ⟨rfl, f3⟩
    unfold gaveUp
    go_wp2
    refine ⟨rfl, ?_⟩
    rw [HRR.out]
    exact ⟨rfl, (Fr.of_below rb V HB2.out).trans f3 (Nw.refl _ _)⟩
  | inr q =>
    obtain ⟨ms, ks, v⟩ := q
    rw [hk] at H2 HRR
    have HC' : Hid (Calls Tryd.prog 82 #[.pointer (some ⟨rb, 0, none⟩), .int .i64 n, .int .i64 a1] w2 fun e w' => ∃ V' Q K, Q.map Prod.fst = ms ∧ e = .returned K ∧ R3 V' w' rb s (at_ + v) ∧ at_ + v ≤ s.size ∧ OwnN w' B V' (P ++ Q) ∧ w'.ownsRow B 2 1 K ks.length (intVals ks) ∧ Apart K (P ++ Q) ∧ (∀ k, K.ownBlock = some k → w2.heap.size ≤ k) ∧ NewQ w2 Q ∧ Fr w2 w' rb V ∧ Nw w2 V V') := H2
    clear hk H2
    go_wp2_with fail
    refine HC'.out.mono ?_
    rintro e w3 ⟨V3, Q, K, hQ, rfl, r3, fit3, o3, k3, ap3, kn3, nq3, fr3, nw3⟩
    have hz : RowAt w3 w.heap.size 44 z4 := (fr3.block _ (by omega) (by omega) (fun e => by have := HV.out _ e; omega)).trans HZ2.out
    have c0 := hz.cell 0
    have c1 := hz.cell 1
    have c2 := hz.cell 2
    have c3 := hz.cell 3
    have f0 := hz.frozen 0
    have f1 := hz.frozen 1
    have f2 := hz.frozen 2
    have f3 := hz.frozen 3
    simp at c0 c1 c2 c3
    obtain ⟨ka, kc, hKv⟩ := own_form k3
    subst hKv
    have HE : Hid (NodeEnd w rb s at_ B V P (.inr (ms, ⟨6, 0, ⟨#[]⟩, ks⟩, v)) (.returned (.agg #[.int .i64 6, .int .i64 0, .string ⟨#[]⟩, .slice ka ks.length kc])) (res4 w3 (.int .i64 6) (.int .i64 0) (.string ⟨#[]⟩) (.slice ka ks.length kc) w.heap.size)) := by
      have keep : ∀ k, k ≠ w.heap.size → (res4 w3 (.int .i64 6) (.int .i64 0) (.string ⟨#[]⟩) (.slice ka ks.length kc) w.heap.size).heap[k]? = w3.heap[k]? := fun k hk => res4_block w3 _ _ _ _ _ k hk
      have hkb : ∀ k, (Value.slice ka ks.length kc).ownBlock = some k → k ≠ w.heap.size := fun k hk => by have := kn3 k hk; omega
      refine ⟨V3, Q, _, hQ, rfl, ?_, fit3, ?_, ?_, ap3, fun k hk => by have := kn3 k hk; omega, fun p hp k hk => by have := nq3 p hp k hk; omega, ?_, fun k hk => ?_⟩
      · exact (keep rb (by omega)).trans r3
      · refine o3.of_block (fun g hg => keep g ?_) (fun p hp g hg => keep g ?_)
        · rcases nw3 g hg with e | e
          · have := HV.out g e; omega
          · omega
        · rcases List.mem_append.1 hp with hp | hp
          · have := (own_lt (HO.out.kids p hp) hg).2; omega
          · have := nq3 p hp g hg; omega
      · exact owns_block k3 fun g hg => keep g (hkb g hg)
      · have f := (Fr.of_below rb V HB2.out).trans fr3 (Nw.refl _ _)
        exact ⟨f.os, f.tape, f.output, by rw [res4_size]; exact f.size, fun k hk hr hv => (keep k (by omega)).trans (f.block k hk hr hv)⟩
      · rcases nw3 k hk with e | e
        · exact .inl e
        · exact .inr (by omega)
    clear r3 fit3 o3 k3 ap3 kn3 nq3 fr3 nw3 hz
    go_wp2
    refine bodyPost_ret (v := .agg #[.int .i64 6, .int .i64 0, .string ⟨#[]⟩, .slice ka ks.length kc]) (by simp [results, Tryd.results60, go_sem, c0, c1, c2, c3]) rfl ?_
    rw [HRR.out]
    exact HE.out

theorem byte_of {b : UInt8} {n : Nat} (h : b ≠ UInt8.ofNat n) : b.toNat ≠ n := fun e => h (by rw [← e]; simp)

theorem node_any (d : Nat) (a a1 : Int) (ha1 : IntKind.i64.wrap (a + 1) = a1) (hd : ReplyOk d a1) (b : UInt8) (r : List UInt8) (s : ByteArray) (at_ rb B : Nat) (V : Value) (P : List Nv) (w : World) (hs : s.size ≤ 1048576) (ha : at_ ≤ s.size) (hts : (⟨r.toArray⟩ : ByteArray).size ≤ 1048576) (hr : Ready w) (h : R3 V w rb s at_) (hrb : 6 ≤ rb) (hB : 6 ≤ B) (hBw : B ≤ w.heap.size) (ho : OwnN w B V P) (hP : P.length ≤ 1000) :
    Calls Tryd.prog 60 #[.pointer (some ⟨rb, 0, none⟩), .int .u8 b.toNat, .string ⟨r.toArray⟩, .int .i64 a] w fun e w' => NodeEnd w rb s at_ B V P (nodeM (replyM d) b r (s.data.toList.drop at_) P.length) e w' := by
  unfold nodeM
  by_cases h1 : b = 43
  · rw [if_pos h1]
    subst h1
    by_cases hp : plainB ⟨r.toArray⟩ = true
    · rw [if_pos hp]
      exact (node_plus _ _ a w hts hp).mono fun e w' ⟨he, hb⟩ => leaf_end ha h ho he hb
    · rw [if_neg hp]
      exact (node_plus_no _ _ a w hts (by simpa using hp)).mono fun e w' ⟨he, hb⟩ => ⟨he, Fr.of_below _ _ hb⟩
  rw [if_neg h1]
  by_cases h2 : b = 45
  · rw [if_pos h2]
    subst h2
    by_cases hp : plainB ⟨r.toArray⟩ = true
    · rw [if_pos hp]
      exact (node_minus _ _ a w hts hp).mono fun e w' ⟨he, hb⟩ => leaf_end ha h ho he hb
    · rw [if_neg hp]
      exact (node_minus_no _ _ a w hts (by simpa using hp)).mono fun e w' ⟨he, hb⟩ => ⟨he, Fr.of_below _ _ hb⟩
  rw [if_neg h2]
  by_cases h3 : b = 58
  · rw [if_pos h3]
    subst h3
    cases hv : decM r with
    | none => exact (node_int_no _ _ a w hts hr hv).mono fun e w' ⟨he, hb⟩ => ⟨he, Fr.of_below _ _ hb⟩
    | some v => exact (node_int _ _ v a w hts hr hv).mono fun e w' ⟨he, hb⟩ => leaf_end ha h ho he hb
  rw [if_neg h3]
  by_cases h4 : b = 36
  · rw [if_pos h4]
    subst h4
    by_cases hn : r = [45, 49]
    · rw [if_pos hn]
      subst hn
      exact (node_null _ a w).mono fun e w' ⟨he, hb⟩ => leaf_end ha h ho he hb
    · rw [if_neg hn]
      have ht : ((⟨r.toArray⟩ : ByteArray).toList == [45, 49]) = false := by rw [ByteArray.toList_eq]; simpa using hn
      cases hc : countM r 200 with
      | none => exact (node_bulk_none _ a rb w hts hr ht hc).mono fun e w' ⟨he, hb⟩ => ⟨he, Fr.of_below _ _ hb⟩
      | some n =>
        cases hm : someM (s.data.toList.drop at_) n with
        | inl c =>
          simp only [hm]
          exact (node_bulk_inl V s at_ _ n c a rb w hs ha h hts hr ht hc hm).mono fun e w' ⟨he, hb⟩ => ⟨he, Fr.of_below _ _ hb⟩
        | inr l =>
          simp only [hm]
          have hfit := (some3_inr V s at_ rb n l w hs ha (by have := count_le hc; omega) h hm).1
          exact (node_bulk_inr V s at_ _ n l a rb w hs ha h hts hr ht hc hm).mono fun e w' ⟨he, r1, g1⟩ =>
            ⟨V, [], .slice none 0 0, rfl, he, by rw [← Nat.add_assoc]; exact r1, by omega, by rw [List.append_nil]; exact ho.grown h (by decide) (by decide) g1, World.ownsRow_nil _ _ _ _, nil_apart _, by simp [Value.ownBlock], fun p hp => by simp at hp, Fr.of_grown _ g1, Nw.refl _ _⟩
  rw [if_neg h4]
  by_cases h5 : b = 42
  · rw [if_pos h5]
    subst h5
    cases hc : countM r 1000 with
    | none => exact (node_array_none _ _ a w hts hr hc).mono fun e w' ⟨he, hb⟩ => ⟨he, Fr.of_below _ _ hb⟩
    | some n => exact node_array d a a1 ha1 hd _ n s at_ rb B V P w hs ha hts hr h hrb hB hBw ho hP hc _ rfl
  rw [if_neg h5]
  exact (node_else _ b.toNat _ a w (byte_of h1) (byte_of h2) (byte_of h3) (byte_of h4) (byte_of h5)).mono fun e w' ⟨he, hb⟩ => ⟨he, Fr.of_below _ _ hb⟩
end Go.Proofs.YtcgeafdakaeicaaDoor
