/- impl.ReadValue, where its texts are whole. -/
import Derived.Test.YticajcagcdbgpaaGreatDoorV8
namespace Go.Proofs.YticajcagcdbgpaaGreatDoor
open Go.RowKit Go.Sort
open Kk (Rk rk0 texL texR decS scoreB rightB ranksB OwnR flatR encR)

def TextsOk (r : ByteArray) (ts : List ByteArray) : Prop := ∀ W, Calls Tryz.prog 17 #[.string r] W fun e w' => ∃ v, e = .returned (.tuple #[v, .bool true]) ∧ OwnS w' W.heap.size v ts ∧ Below W.heap.size W w'

theorem own_up {w : World} {B B' : Nat} {e : TypeId} {size n : Nat} {v : Value} {xs : List Value} (h : w.ownsRow B e size v n xs) (hB : B' ≤ B) : w.ownsRow B' e size v n xs := Joins.ownsRow_le h hB

set_option maxHeartbeats 2000000 in
set_option maxRecDepth 100000 in
theorem readV_no (s r : ByteArray) (b : UInt8) (ts : List ByteArray) (w : World) (h : 0 < s.size) (h0 : ∀ hx, s[0]'hx = b) (hr : s.extract 1 s.size = r) (hm : TextsOk r ts)
    (hc : ∀ v W, OwnS W (w.heap.size + 1) v ts → Below w.heap.size w W → w.heap.size < W.heap.size → Calls Tryz.prog 18 #[.int .u8 b.toNat, v] W fun e w' => ∃ u, e = .returned (.tuple #[u, .bool false]) ∧ Below W.heap.size W w') :
    Calls Tryz.prog 7 #[.string s] w (ValEnd w (vl0, false)) := by
  have he := empty_no h
  have h1 : (1 : Int) ≤ (s.size : Int) := by omega
  have h0i : (0 : Int) < (s.size : Int) := by omega
  have HM : Hid (TextsOk r ts) := hm
  have HX : Hid (s.extract 1 s.size = r) := hr
  have HZ : Hid (RowAt (w.alloc (.cells z5 28)) w.heap.size 28 z5) := RowAt.new w 28 z5
  have HB : Hid (Below w.heap.size w (w.alloc (.cells z5 28))) := (Below.refl _ w).alloc (Nat.le_refl _) _
  have hsz : (w.alloc (.cells z5 28)).heap.size = w.heap.size + 1 := by simp
  have hb256 : b.toNat < 256 := b.toNat_lt
  clear hm hr
  go_enter Tryz.func7, Tryz.ntmps7
  go_wp2_with fail
  rw [HX.out]
  refine (HM.out _).mono ?_
  rintro e w1 ⟨v, rfl, o1, b1⟩
  have b2 : Below w.heap.size w w1 := HB.out.trans (b1.mono (by simp))
  have hz1 : RowAt w1 w.heap.size 28 z5 := RowAt.below HZ.out b1 (by simp)
  have sz1 : w.heap.size < w1.heap.size := hz1.lt
  have hc2 := hc v w1 (own_up o1 (by simp)) b2 sz1
  obtain ⟨va, vc, hv⟩ := owns_form o1
  obtain ⟨n, hn⟩ : ∃ n, ts.length = n := ⟨_, rfl⟩
  rw [hn] at hv
  subst hv
  have HC2 : Hid (Calls Tryz.prog 18 #[.int .u8 b.toNat, .slice va n vc] w1 fun e w' => ∃ u, e = .returned (.tuple #[u, .bool false]) ∧ Below w1.heap.size w1 w') := hc2
  clear o1 b1 HZ HB hc hc2 HM
  go_wp2_with fail
  refine HC2.out.mono ?_
  rintro e w2 ⟨u, rfl, b3⟩
  have b02 := b2.trans (b3.mono (by omega))
  have hz : RowAt w2 w.heap.size 28 z5 := RowAt.below hz1 b3 sz1
  have c0 := hz.cell 0
  have c1 := hz.cell 1
  have c2 := hz.cell 2
  have c3 := hz.cell 3
  have c4 := hz.cell 4
  have f0 := hz.frozen 0
  have f1 := hz.frozen 1
  have f2 := hz.frozen 2
  have f3 := hz.frozen 3
  have f4 := hz.frozen 4
  simp at c0 c1 c2 c3 c4
  clear hz hz1 b3 b2
  go_wp2
  exact bodyPost_ret (v := .tuple #[vlV 0 ⟨#[]⟩ nilS nilS nilS, .bool false]) (by simp [results, Tryz.results7, go_sem, c0, c1, c2, c3, c4]) rfl (val_zero (res5_below b02 _ _ _ _ _ _ (Nat.le_refl _)))

set_option maxHeartbeats 2000000 in
set_option maxRecDepth 100000 in
theorem readV_text (s r : ByteArray) (b : UInt8) (ts : List ByteArray) (w : World) (h : 0 < s.size) (h0 : ∀ hx, s[0]'hx = b) (hr : s.extract 1 s.size = r) (hm : TextsOk r ts) (Q : Value → World → Prop) (res : Vl) (o : Bool)
    (hc : ∀ v W, OwnS W (w.heap.size + 1) v ts → Below w.heap.size w W → w.heap.size < W.heap.size → Calls Tryz.prog 18 #[.int .u8 b.toNat, v] W fun e w' => ∃ u, e = .returned (.tuple #[.iface 71 u, .bool true]) ∧ Q u w' ∧ Below W.heap.size W w')
    (hright : ∀ u W, Q u W → Below w.heap.size w W → Calls Tryz.prog 91 #[u] W fun e w' => e = .returned (.bool o) ∧ Q u w' ∧ Below W.heap.size W w')
    (hval : ∀ u W, Q u W → Calls Tryz.prog 19 #[.iface 71 u] W fun e w' => ∃ vi vp vr, e = .returned (vlV res.kind res.text vi vp vr) ∧ OwnS w' (w.heap.size + 1) vi res.items ∧ OwnP w' (w.heap.size + 1) vp res.pairs ∧ OwnR w' (w.heap.size + 1) vr res.ranks ∧ Below W.heap.size W w') :
    Calls Tryz.prog 7 #[.string s] w (ValEnd w (if o then (res, true) else (vl0, false))) := by
  have HRT : Hid (∀ u W, Q u W → Below w.heap.size w W → Calls Tryz.prog 91 #[u] W fun e w' => e = .returned (.bool o) ∧ Q u w' ∧ Below W.heap.size W w') := hright
  have HVL : Hid (∀ u W, Q u W → Calls Tryz.prog 19 #[.iface 71 u] W fun e w' => ∃ vi vp vr, e = .returned (vlV res.kind res.text vi vp vr) ∧ OwnS w' (w.heap.size + 1) vi res.items ∧ OwnP w' (w.heap.size + 1) vp res.pairs ∧ OwnR w' (w.heap.size + 1) vr res.ranks ∧ Below W.heap.size W w') := hval
  clear hright hval
  obtain ⟨R, hR⟩ : ∃ R, (if o then (res, true) else (vl0, false)) = R := ⟨_, rfl⟩
  have HRE : Hid ((if o then (res, true) else (vl0, false)) = R) := hR
  rw [hR]
  clear hR
  have he := empty_no h
  have h1 : (1 : Int) ≤ (s.size : Int) := by omega
  have h0i : (0 : Int) < (s.size : Int) := by omega
  have HM : Hid (TextsOk r ts) := hm
  have HX : Hid (s.extract 1 s.size = r) := hr
  have HZ : Hid (RowAt (w.alloc (.cells z5 28)) w.heap.size 28 z5) := RowAt.new w 28 z5
  have HB : Hid (Below w.heap.size w (w.alloc (.cells z5 28))) := (Below.refl _ w).alloc (Nat.le_refl _) _
  have hsz : (w.alloc (.cells z5 28)).heap.size = w.heap.size + 1 := by simp
  have hb256 : b.toNat < 256 := b.toNat_lt
  clear hm hr
  go_enter Tryz.func7, Tryz.ntmps7
  go_wp2_with fail
  rw [HX.out]
  refine (HM.out _).mono ?_
  rintro e w1 ⟨v, rfl, o1, b1⟩
  have b2 : Below w.heap.size w w1 := HB.out.trans (b1.mono (by simp))
  have hz1 : RowAt w1 w.heap.size 28 z5 := RowAt.below HZ.out b1 (by simp)
  have sz1 : w.heap.size < w1.heap.size := hz1.lt
  have hc2 := hc v w1 (own_up o1 (by simp)) b2 sz1
  obtain ⟨va, vc, hv⟩ := owns_form o1
  obtain ⟨n, hn⟩ : ∃ n, ts.length = n := ⟨_, rfl⟩
  rw [hn] at hv
  subst hv
  have HC2 : Hid (Calls Tryz.prog 18 #[.int .u8 b.toNat, .slice va n vc] w1 fun e w' => ∃ u, e = .returned (.tuple #[.iface 71 u, .bool true]) ∧ Q u w' ∧ Below w1.heap.size w1 w') := hc2
  clear o1 b1 HZ HB hc hc2 HM
  go_wp2_with fail
  refine HC2.out.mono ?_
  rintro e w2 ⟨u, rfl, q2, b3⟩
  have b02 := b2.trans (b3.mono (by omega))
  have hz2 : RowAt w2 w.heap.size 28 z5 := RowAt.below hz1 b3 sz1
  have sz2 := hz2.lt
  have HR2 : Hid (Calls Tryz.prog 91 #[u] w2 fun e w' => e = .returned (.bool o) ∧ Q u w' ∧ Below w2.heap.size w2 w') := HRT.out u w2 q2 b02
  clear hz1 b3 b2 q2 HRT
  go_wp2_with fail
  refine HR2.out.mono ?_
  rintro e w3 ⟨rfl, q3, b4⟩
  have b03 := b02.trans (b4.mono (by omega))
  have hz3 : RowAt w3 w.heap.size 28 z5 := RowAt.below hz2 b4 sz2
  have sz3 := hz3.lt
  clear hz2 b4 b02 HR2
  cases o with
  | false =>
    have HRE2 : Hid ((vl0, false) = R) := HRE.out
    have hz := hz3
    clear hz3 q3 HVL
    have c0 := hz.cell 0
    have c1 := hz.cell 1
    have c2 := hz.cell 2
    have c3 := hz.cell 3
    have c4 := hz.cell 4
    have f0 := hz.frozen 0
    have f1 := hz.frozen 1
    have f2 := hz.frozen 2
    have f3 := hz.frozen 3
    have f4 := hz.frozen 4
    simp at c0 c1 c2 c3 c4
    clear hz
    go_wp2
    exact bodyPost_ret (v := .tuple #[vlV 0 ⟨#[]⟩ nilS nilS nilS, .bool false]) (by simp [results, Tryz.results7, go_sem, c0, c1, c2, c3, c4]) rfl (by rw [← HRE2.out]; exact val_zero (res5_below b03 _ _ _ _ _ _ (Nat.le_refl _)))
  | true =>
    have HRE2 : Hid ((res, true) = R) := HRE.out
    have HV2 : Hid (Calls Tryz.prog 19 #[.iface 71 u] w3 fun e w' => ∃ vi vp vr, e = .returned (vlV res.kind res.text vi vp vr) ∧ OwnS w' (w.heap.size + 1) vi res.items ∧ OwnP w' (w.heap.size + 1) vp res.pairs ∧ OwnR w' (w.heap.size + 1) vr res.ranks ∧ Below w3.heap.size w3 w') := HVL.out u w3 q3
    clear q3 HVL
    go_wp2_with fail
    refine HV2.out.mono ?_
    rintro e w4 ⟨vi, vp, vr, rfl, oi, op, or, b5⟩
    have b04 := b03.trans (b5.mono (by omega))
    have hz : RowAt w4 w.heap.size 28 z5 := RowAt.below hz3 b5 sz3
    have c0 := hz.cell 0
    have c1 := hz.cell 1
    have c2 := hz.cell 2
    have c3 := hz.cell 3
    have c4 := hz.cell 4
    have f0 := hz.frozen 0
    have f1 := hz.frozen 1
    have f2 := hz.frozen 2
    have f3 := hz.frozen 3
    have f4 := hz.frozen 4
    simp at c0 c1 c2 c3 c4
    obtain ⟨ai, ci, hvi⟩ := owns_form oi
    obtain ⟨ap, cp, hvp⟩ := owns_form op
    obtain ⟨ar, cr, hvr⟩ := owns_form or
    have HE : Hid (∀ W, (∀ k, k ≠ w.heap.size → W.heap[k]? = w4.heap[k]?) → Below w.heap.size w W → ValEnd w (res, true) (.returned (.tuple #[vlV res.kind res.text vi vp vr, .bool true])) W) := fun W hk hb =>
      ⟨vi, vp, vr, rfl, own_up (owns_block oi fun g hg => hk g (by have := (own_lt oi hg).1; omega)) (by omega), own_up (owns_block op fun g hg => hk g (by have := (own_lt op hg).1; omega)) (by omega), own_up (owns_block or fun g hg => hk g (by have := (own_lt or hg).1; omega)) (by omega), hb⟩
    subst hvi hvp hvr
    clear hz hz3 b5 b03 oi op or HV2
    go_wp2
    exact bodyPost_ret (v := .tuple #[vlV res.kind res.text (.slice ai res.items.length ci) (.slice ap res.pairs.length cp) (.slice ar res.ranks.length cr), .bool true]) (by simp [results, Tryz.results7, go_sem, c0, c1, c2, c3, c4]) rfl (by rw [← HRE2.out]; exact HE.out _ (fun k hk => res5_block w4 _ _ _ _ _ _ k hk) (res5_below b04 _ _ _ _ _ _ (Nat.le_refl _)))

set_option maxHeartbeats 2000000 in
set_option maxRecDepth 100000 in
theorem readV_items (s r : ByteArray) (b : UInt8) (ts : List ByteArray) (w : World) (h : 0 < s.size) (h0 : ∀ hx, s[0]'hx = b) (hr : s.extract 1 s.size = r) (hm : TextsOk r ts) (Q : Value → World → Prop) (res : Vl) (o : Bool)
    (hc : ∀ v W, OwnS W (w.heap.size + 1) v ts → Below w.heap.size w W → w.heap.size < W.heap.size → Calls Tryz.prog 18 #[.int .u8 b.toNat, v] W fun e w' => ∃ u, e = .returned (.tuple #[.iface 72 u, .bool true]) ∧ Q u w' ∧ Below W.heap.size W w')
    (hright : ∀ u W, Q u W → Below w.heap.size w W → Calls Tryz.prog 94 #[u] W fun e w' => e = .returned (.bool o) ∧ Q u w' ∧ Below W.heap.size W w')
    (hval : ∀ u W, Q u W → Calls Tryz.prog 19 #[.iface 72 u] W fun e w' => ∃ vi vp vr, e = .returned (vlV res.kind res.text vi vp vr) ∧ OwnS w' (w.heap.size + 1) vi res.items ∧ OwnP w' (w.heap.size + 1) vp res.pairs ∧ OwnR w' (w.heap.size + 1) vr res.ranks ∧ Below W.heap.size W w') :
    Calls Tryz.prog 7 #[.string s] w (ValEnd w (if o then (res, true) else (vl0, false))) := by
  have HRT : Hid (∀ u W, Q u W → Below w.heap.size w W → Calls Tryz.prog 94 #[u] W fun e w' => e = .returned (.bool o) ∧ Q u w' ∧ Below W.heap.size W w') := hright
  have HVL : Hid (∀ u W, Q u W → Calls Tryz.prog 19 #[.iface 72 u] W fun e w' => ∃ vi vp vr, e = .returned (vlV res.kind res.text vi vp vr) ∧ OwnS w' (w.heap.size + 1) vi res.items ∧ OwnP w' (w.heap.size + 1) vp res.pairs ∧ OwnR w' (w.heap.size + 1) vr res.ranks ∧ Below W.heap.size W w') := hval
  clear hright hval
  obtain ⟨R, hR⟩ : ∃ R, (if o then (res, true) else (vl0, false)) = R := ⟨_, rfl⟩
  have HRE : Hid ((if o then (res, true) else (vl0, false)) = R) := hR
  rw [hR]
  clear hR
  have he := empty_no h
  have h1 : (1 : Int) ≤ (s.size : Int) := by omega
  have h0i : (0 : Int) < (s.size : Int) := by omega
  have HM : Hid (TextsOk r ts) := hm
  have HX : Hid (s.extract 1 s.size = r) := hr
  have HZ : Hid (RowAt (w.alloc (.cells z5 28)) w.heap.size 28 z5) := RowAt.new w 28 z5
  have HB : Hid (Below w.heap.size w (w.alloc (.cells z5 28))) := (Below.refl _ w).alloc (Nat.le_refl _) _
  have hsz : (w.alloc (.cells z5 28)).heap.size = w.heap.size + 1 := by simp
  have hb256 : b.toNat < 256 := b.toNat_lt
  clear hm hr
  go_enter Tryz.func7, Tryz.ntmps7
  go_wp2_with fail
  rw [HX.out]
  refine (HM.out _).mono ?_
  rintro e w1 ⟨v, rfl, o1, b1⟩
  have b2 : Below w.heap.size w w1 := HB.out.trans (b1.mono (by simp))
  have hz1 : RowAt w1 w.heap.size 28 z5 := RowAt.below HZ.out b1 (by simp)
  have sz1 : w.heap.size < w1.heap.size := hz1.lt
  have hc2 := hc v w1 (own_up o1 (by simp)) b2 sz1
  obtain ⟨va, vc, hv⟩ := owns_form o1
  obtain ⟨n, hn⟩ : ∃ n, ts.length = n := ⟨_, rfl⟩
  rw [hn] at hv
  subst hv
  have HC2 : Hid (Calls Tryz.prog 18 #[.int .u8 b.toNat, .slice va n vc] w1 fun e w' => ∃ u, e = .returned (.tuple #[.iface 72 u, .bool true]) ∧ Q u w' ∧ Below w1.heap.size w1 w') := hc2
  clear o1 b1 HZ HB hc hc2 HM
  go_wp2_with fail
  refine HC2.out.mono ?_
  rintro e w2 ⟨u, rfl, q2, b3⟩
  have b02 := b2.trans (b3.mono (by omega))
  have hz2 : RowAt w2 w.heap.size 28 z5 := RowAt.below hz1 b3 sz1
  have sz2 := hz2.lt
  have HR2 : Hid (Calls Tryz.prog 94 #[u] w2 fun e w' => e = .returned (.bool o) ∧ Q u w' ∧ Below w2.heap.size w2 w') := HRT.out u w2 q2 b02
  clear hz1 b3 b2 q2 HRT
  go_wp2_with fail
  refine HR2.out.mono ?_
  rintro e w3 ⟨rfl, q3, b4⟩
  have b03 := b02.trans (b4.mono (by omega))
  have hz3 : RowAt w3 w.heap.size 28 z5 := RowAt.below hz2 b4 sz2
  have sz3 := hz3.lt
  clear hz2 b4 b02 HR2
  cases o with
  | false =>
    have HRE2 : Hid ((vl0, false) = R) := HRE.out
    have hz := hz3
    clear hz3 q3 HVL
    have c0 := hz.cell 0
    have c1 := hz.cell 1
    have c2 := hz.cell 2
    have c3 := hz.cell 3
    have c4 := hz.cell 4
    have f0 := hz.frozen 0
    have f1 := hz.frozen 1
    have f2 := hz.frozen 2
    have f3 := hz.frozen 3
    have f4 := hz.frozen 4
    simp at c0 c1 c2 c3 c4
    clear hz
    go_wp2
    exact bodyPost_ret (v := .tuple #[vlV 0 ⟨#[]⟩ nilS nilS nilS, .bool false]) (by simp [results, Tryz.results7, go_sem, c0, c1, c2, c3, c4]) rfl (by rw [← HRE2.out]; exact val_zero (res5_below b03 _ _ _ _ _ _ (Nat.le_refl _)))
  | true =>
    have HRE2 : Hid ((res, true) = R) := HRE.out
    have HV2 : Hid (Calls Tryz.prog 19 #[.iface 72 u] w3 fun e w' => ∃ vi vp vr, e = .returned (vlV res.kind res.text vi vp vr) ∧ OwnS w' (w.heap.size + 1) vi res.items ∧ OwnP w' (w.heap.size + 1) vp res.pairs ∧ OwnR w' (w.heap.size + 1) vr res.ranks ∧ Below w3.heap.size w3 w') := HVL.out u w3 q3
    clear q3 HVL
    go_wp2_with fail
    refine HV2.out.mono ?_
    rintro e w4 ⟨vi, vp, vr, rfl, oi, op, or, b5⟩
    have b04 := b03.trans (b5.mono (by omega))
    have hz : RowAt w4 w.heap.size 28 z5 := RowAt.below hz3 b5 sz3
    have c0 := hz.cell 0
    have c1 := hz.cell 1
    have c2 := hz.cell 2
    have c3 := hz.cell 3
    have c4 := hz.cell 4
    have f0 := hz.frozen 0
    have f1 := hz.frozen 1
    have f2 := hz.frozen 2
    have f3 := hz.frozen 3
    have f4 := hz.frozen 4
    simp at c0 c1 c2 c3 c4
    obtain ⟨ai, ci, hvi⟩ := owns_form oi
    obtain ⟨ap, cp, hvp⟩ := owns_form op
    obtain ⟨ar, cr, hvr⟩ := owns_form or
    have HE : Hid (∀ W, (∀ k, k ≠ w.heap.size → W.heap[k]? = w4.heap[k]?) → Below w.heap.size w W → ValEnd w (res, true) (.returned (.tuple #[vlV res.kind res.text vi vp vr, .bool true])) W) := fun W hk hb =>
      ⟨vi, vp, vr, rfl, own_up (owns_block oi fun g hg => hk g (by have := (own_lt oi hg).1; omega)) (by omega), own_up (owns_block op fun g hg => hk g (by have := (own_lt op hg).1; omega)) (by omega), own_up (owns_block or fun g hg => hk g (by have := (own_lt or hg).1; omega)) (by omega), hb⟩
    subst hvi hvp hvr
    clear hz hz3 b5 b03 oi op or HV2
    go_wp2
    exact bodyPost_ret (v := .tuple #[vlV res.kind res.text (.slice ai res.items.length ci) (.slice ap res.pairs.length cp) (.slice ar res.ranks.length cr), .bool true]) (by simp [results, Tryz.results7, go_sem, c0, c1, c2, c3, c4]) rfl (by rw [← HRE2.out]; exact HE.out _ (fun k hk => res5_block w4 _ _ _ _ _ _ k hk) (res5_below b04 _ _ _ _ _ _ (Nat.le_refl _)))

set_option maxHeartbeats 2000000 in
set_option maxRecDepth 100000 in
theorem readV_pairs (s r : ByteArray) (b : UInt8) (ts : List ByteArray) (w : World) (h : 0 < s.size) (h0 : ∀ hx, s[0]'hx = b) (hr : s.extract 1 s.size = r) (hm : TextsOk r ts) (Q : Value → World → Prop) (res : Vl) (o : Bool)
    (hc : ∀ v W, OwnS W (w.heap.size + 1) v ts → Below w.heap.size w W → w.heap.size < W.heap.size → Calls Tryz.prog 18 #[.int .u8 b.toNat, v] W fun e w' => ∃ u, e = .returned (.tuple #[.iface 73 u, .bool true]) ∧ Q u w' ∧ Below W.heap.size W w')
    (hright : ∀ u W, Q u W → Below w.heap.size w W → Calls Tryz.prog 97 #[u] W fun e w' => e = .returned (.bool o) ∧ Q u w' ∧ Below W.heap.size W w')
    (hval : ∀ u W, Q u W → Calls Tryz.prog 19 #[.iface 73 u] W fun e w' => ∃ vi vp vr, e = .returned (vlV res.kind res.text vi vp vr) ∧ OwnS w' (w.heap.size + 1) vi res.items ∧ OwnP w' (w.heap.size + 1) vp res.pairs ∧ OwnR w' (w.heap.size + 1) vr res.ranks ∧ Below W.heap.size W w') :
    Calls Tryz.prog 7 #[.string s] w (ValEnd w (if o then (res, true) else (vl0, false))) := by
  have HRT : Hid (∀ u W, Q u W → Below w.heap.size w W → Calls Tryz.prog 97 #[u] W fun e w' => e = .returned (.bool o) ∧ Q u w' ∧ Below W.heap.size W w') := hright
  have HVL : Hid (∀ u W, Q u W → Calls Tryz.prog 19 #[.iface 73 u] W fun e w' => ∃ vi vp vr, e = .returned (vlV res.kind res.text vi vp vr) ∧ OwnS w' (w.heap.size + 1) vi res.items ∧ OwnP w' (w.heap.size + 1) vp res.pairs ∧ OwnR w' (w.heap.size + 1) vr res.ranks ∧ Below W.heap.size W w') := hval
  clear hright hval
  obtain ⟨R, hR⟩ : ∃ R, (if o then (res, true) else (vl0, false)) = R := ⟨_, rfl⟩
  have HRE : Hid ((if o then (res, true) else (vl0, false)) = R) := hR
  rw [hR]
  clear hR
  have he := empty_no h
  have h1 : (1 : Int) ≤ (s.size : Int) := by omega
  have h0i : (0 : Int) < (s.size : Int) := by omega
  have HM : Hid (TextsOk r ts) := hm
  have HX : Hid (s.extract 1 s.size = r) := hr
  have HZ : Hid (RowAt (w.alloc (.cells z5 28)) w.heap.size 28 z5) := RowAt.new w 28 z5
  have HB : Hid (Below w.heap.size w (w.alloc (.cells z5 28))) := (Below.refl _ w).alloc (Nat.le_refl _) _
  have hsz : (w.alloc (.cells z5 28)).heap.size = w.heap.size + 1 := by simp
  have hb256 : b.toNat < 256 := b.toNat_lt
  clear hm hr
  go_enter Tryz.func7, Tryz.ntmps7
  go_wp2_with fail
  rw [HX.out]
  refine (HM.out _).mono ?_
  rintro e w1 ⟨v, rfl, o1, b1⟩
  have b2 : Below w.heap.size w w1 := HB.out.trans (b1.mono (by simp))
  have hz1 : RowAt w1 w.heap.size 28 z5 := RowAt.below HZ.out b1 (by simp)
  have sz1 : w.heap.size < w1.heap.size := hz1.lt
  have hc2 := hc v w1 (own_up o1 (by simp)) b2 sz1
  obtain ⟨va, vc, hv⟩ := owns_form o1
  obtain ⟨n, hn⟩ : ∃ n, ts.length = n := ⟨_, rfl⟩
  rw [hn] at hv
  subst hv
  have HC2 : Hid (Calls Tryz.prog 18 #[.int .u8 b.toNat, .slice va n vc] w1 fun e w' => ∃ u, e = .returned (.tuple #[.iface 73 u, .bool true]) ∧ Q u w' ∧ Below w1.heap.size w1 w') := hc2
  clear o1 b1 HZ HB hc hc2 HM
  go_wp2_with fail
  refine HC2.out.mono ?_
  rintro e w2 ⟨u, rfl, q2, b3⟩
  have b02 := b2.trans (b3.mono (by omega))
  have hz2 : RowAt w2 w.heap.size 28 z5 := RowAt.below hz1 b3 sz1
  have sz2 := hz2.lt
  have HR2 : Hid (Calls Tryz.prog 97 #[u] w2 fun e w' => e = .returned (.bool o) ∧ Q u w' ∧ Below w2.heap.size w2 w') := HRT.out u w2 q2 b02
  clear hz1 b3 b2 q2 HRT
  go_wp2_with fail
  refine HR2.out.mono ?_
  rintro e w3 ⟨rfl, q3, b4⟩
  have b03 := b02.trans (b4.mono (by omega))
  have hz3 : RowAt w3 w.heap.size 28 z5 := RowAt.below hz2 b4 sz2
  have sz3 := hz3.lt
  clear hz2 b4 b02 HR2
  cases o with
  | false =>
    have HRE2 : Hid ((vl0, false) = R) := HRE.out
    have hz := hz3
    clear hz3 q3 HVL
    have c0 := hz.cell 0
    have c1 := hz.cell 1
    have c2 := hz.cell 2
    have c3 := hz.cell 3
    have c4 := hz.cell 4
    have f0 := hz.frozen 0
    have f1 := hz.frozen 1
    have f2 := hz.frozen 2
    have f3 := hz.frozen 3
    have f4 := hz.frozen 4
    simp at c0 c1 c2 c3 c4
    clear hz
    go_wp2
    exact bodyPost_ret (v := .tuple #[vlV 0 ⟨#[]⟩ nilS nilS nilS, .bool false]) (by simp [results, Tryz.results7, go_sem, c0, c1, c2, c3, c4]) rfl (by rw [← HRE2.out]; exact val_zero (res5_below b03 _ _ _ _ _ _ (Nat.le_refl _)))
  | true =>
    have HRE2 : Hid ((res, true) = R) := HRE.out
    have HV2 : Hid (Calls Tryz.prog 19 #[.iface 73 u] w3 fun e w' => ∃ vi vp vr, e = .returned (vlV res.kind res.text vi vp vr) ∧ OwnS w' (w.heap.size + 1) vi res.items ∧ OwnP w' (w.heap.size + 1) vp res.pairs ∧ OwnR w' (w.heap.size + 1) vr res.ranks ∧ Below w3.heap.size w3 w') := HVL.out u w3 q3
    clear q3 HVL
    go_wp2_with fail
    refine HV2.out.mono ?_
    rintro e w4 ⟨vi, vp, vr, rfl, oi, op, or, b5⟩
    have b04 := b03.trans (b5.mono (by omega))
    have hz : RowAt w4 w.heap.size 28 z5 := RowAt.below hz3 b5 sz3
    have c0 := hz.cell 0
    have c1 := hz.cell 1
    have c2 := hz.cell 2
    have c3 := hz.cell 3
    have c4 := hz.cell 4
    have f0 := hz.frozen 0
    have f1 := hz.frozen 1
    have f2 := hz.frozen 2
    have f3 := hz.frozen 3
    have f4 := hz.frozen 4
    simp at c0 c1 c2 c3 c4
    obtain ⟨ai, ci, hvi⟩ := owns_form oi
    obtain ⟨ap, cp, hvp⟩ := owns_form op
    obtain ⟨ar, cr, hvr⟩ := owns_form or
    have HE : Hid (∀ W, (∀ k, k ≠ w.heap.size → W.heap[k]? = w4.heap[k]?) → Below w.heap.size w W → ValEnd w (res, true) (.returned (.tuple #[vlV res.kind res.text vi vp vr, .bool true])) W) := fun W hk hb =>
      ⟨vi, vp, vr, rfl, own_up (owns_block oi fun g hg => hk g (by have := (own_lt oi hg).1; omega)) (by omega), own_up (owns_block op fun g hg => hk g (by have := (own_lt op hg).1; omega)) (by omega), own_up (owns_block or fun g hg => hk g (by have := (own_lt or hg).1; omega)) (by omega), hb⟩
    subst hvi hvp hvr
    clear hz hz3 b5 b03 oi op or HV2
    go_wp2
    exact bodyPost_ret (v := .tuple #[vlV res.kind res.text (.slice ai res.items.length ci) (.slice ap res.pairs.length cp) (.slice ar res.ranks.length cr), .bool true]) (by simp [results, Tryz.results7, go_sem, c0, c1, c2, c3, c4]) rfl (by rw [← HRE2.out]; exact HE.out _ (fun k hk => res5_block w4 _ _ _ _ _ _ k hk) (res5_below b04 _ _ _ _ _ _ (Nat.le_refl _)))

set_option maxHeartbeats 2000000 in
set_option maxRecDepth 100000 in
theorem readV_ranks (s r : ByteArray) (b : UInt8) (ts : List ByteArray) (w : World) (h : 0 < s.size) (h0 : ∀ hx, s[0]'hx = b) (hr : s.extract 1 s.size = r) (hm : TextsOk r ts) (Q : Value → World → Prop) (res : Vl) (o : Bool)
    (hc : ∀ v W, OwnS W (w.heap.size + 1) v ts → Below w.heap.size w W → w.heap.size < W.heap.size → Calls Tryz.prog 18 #[.int .u8 b.toNat, v] W fun e w' => ∃ u, e = .returned (.tuple #[.iface 74 u, .bool true]) ∧ Q u w' ∧ Below W.heap.size W w')
    (hright : ∀ u W, Q u W → Below w.heap.size w W → Calls Tryz.prog 105 #[u] W fun e w' => e = .returned (.bool o) ∧ Q u w' ∧ Below W.heap.size W w')
    (hval : ∀ u W, Q u W → Calls Tryz.prog 19 #[.iface 74 u] W fun e w' => ∃ vi vp vr, e = .returned (vlV res.kind res.text vi vp vr) ∧ OwnS w' (w.heap.size + 1) vi res.items ∧ OwnP w' (w.heap.size + 1) vp res.pairs ∧ OwnR w' (w.heap.size + 1) vr res.ranks ∧ Below W.heap.size W w') :
    Calls Tryz.prog 7 #[.string s] w (ValEnd w (if o then (res, true) else (vl0, false))) := by
  have HRT : Hid (∀ u W, Q u W → Below w.heap.size w W → Calls Tryz.prog 105 #[u] W fun e w' => e = .returned (.bool o) ∧ Q u w' ∧ Below W.heap.size W w') := hright
  have HVL : Hid (∀ u W, Q u W → Calls Tryz.prog 19 #[.iface 74 u] W fun e w' => ∃ vi vp vr, e = .returned (vlV res.kind res.text vi vp vr) ∧ OwnS w' (w.heap.size + 1) vi res.items ∧ OwnP w' (w.heap.size + 1) vp res.pairs ∧ OwnR w' (w.heap.size + 1) vr res.ranks ∧ Below W.heap.size W w') := hval
  clear hright hval
  obtain ⟨R, hR⟩ : ∃ R, (if o then (res, true) else (vl0, false)) = R := ⟨_, rfl⟩
  have HRE : Hid ((if o then (res, true) else (vl0, false)) = R) := hR
  rw [hR]
  clear hR
  have he := empty_no h
  have h1 : (1 : Int) ≤ (s.size : Int) := by omega
  have h0i : (0 : Int) < (s.size : Int) := by omega
  have HM : Hid (TextsOk r ts) := hm
  have HX : Hid (s.extract 1 s.size = r) := hr
  have HZ : Hid (RowAt (w.alloc (.cells z5 28)) w.heap.size 28 z5) := RowAt.new w 28 z5
  have HB : Hid (Below w.heap.size w (w.alloc (.cells z5 28))) := (Below.refl _ w).alloc (Nat.le_refl _) _
  have hsz : (w.alloc (.cells z5 28)).heap.size = w.heap.size + 1 := by simp
  have hb256 : b.toNat < 256 := b.toNat_lt
  clear hm hr
  go_enter Tryz.func7, Tryz.ntmps7
  go_wp2_with fail
  rw [HX.out]
  refine (HM.out _).mono ?_
  rintro e w1 ⟨v, rfl, o1, b1⟩
  have b2 : Below w.heap.size w w1 := HB.out.trans (b1.mono (by simp))
  have hz1 : RowAt w1 w.heap.size 28 z5 := RowAt.below HZ.out b1 (by simp)
  have sz1 : w.heap.size < w1.heap.size := hz1.lt
  have hc2 := hc v w1 (own_up o1 (by simp)) b2 sz1
  obtain ⟨va, vc, hv⟩ := owns_form o1
  obtain ⟨n, hn⟩ : ∃ n, ts.length = n := ⟨_, rfl⟩
  rw [hn] at hv
  subst hv
  have HC2 : Hid (Calls Tryz.prog 18 #[.int .u8 b.toNat, .slice va n vc] w1 fun e w' => ∃ u, e = .returned (.tuple #[.iface 74 u, .bool true]) ∧ Q u w' ∧ Below w1.heap.size w1 w') := hc2
  clear o1 b1 HZ HB hc hc2 HM
  go_wp2_with fail
  refine HC2.out.mono ?_
  rintro e w2 ⟨u, rfl, q2, b3⟩
  have b02 := b2.trans (b3.mono (by omega))
  have hz2 : RowAt w2 w.heap.size 28 z5 := RowAt.below hz1 b3 sz1
  have sz2 := hz2.lt
  have HR2 : Hid (Calls Tryz.prog 105 #[u] w2 fun e w' => e = .returned (.bool o) ∧ Q u w' ∧ Below w2.heap.size w2 w') := HRT.out u w2 q2 b02
  clear hz1 b3 b2 q2 HRT
  go_wp2_with fail
  refine HR2.out.mono ?_
  rintro e w3 ⟨rfl, q3, b4⟩
  have b03 := b02.trans (b4.mono (by omega))
  have hz3 : RowAt w3 w.heap.size 28 z5 := RowAt.below hz2 b4 sz2
  have sz3 := hz3.lt
  clear hz2 b4 b02 HR2
  cases o with
  | false =>
    have HRE2 : Hid ((vl0, false) = R) := HRE.out
    have hz := hz3
    clear hz3 q3 HVL
    have c0 := hz.cell 0
    have c1 := hz.cell 1
    have c2 := hz.cell 2
    have c3 := hz.cell 3
    have c4 := hz.cell 4
    have f0 := hz.frozen 0
    have f1 := hz.frozen 1
    have f2 := hz.frozen 2
    have f3 := hz.frozen 3
    have f4 := hz.frozen 4
    simp at c0 c1 c2 c3 c4
    clear hz
    go_wp2
    exact bodyPost_ret (v := .tuple #[vlV 0 ⟨#[]⟩ nilS nilS nilS, .bool false]) (by simp [results, Tryz.results7, go_sem, c0, c1, c2, c3, c4]) rfl (by rw [← HRE2.out]; exact val_zero (res5_below b03 _ _ _ _ _ _ (Nat.le_refl _)))
  | true =>
    have HRE2 : Hid ((res, true) = R) := HRE.out
    have HV2 : Hid (Calls Tryz.prog 19 #[.iface 74 u] w3 fun e w' => ∃ vi vp vr, e = .returned (vlV res.kind res.text vi vp vr) ∧ OwnS w' (w.heap.size + 1) vi res.items ∧ OwnP w' (w.heap.size + 1) vp res.pairs ∧ OwnR w' (w.heap.size + 1) vr res.ranks ∧ Below w3.heap.size w3 w') := HVL.out u w3 q3
    clear q3 HVL
    go_wp2_with fail
    refine HV2.out.mono ?_
    rintro e w4 ⟨vi, vp, vr, rfl, oi, op, or, b5⟩
    have b04 := b03.trans (b5.mono (by omega))
    have hz : RowAt w4 w.heap.size 28 z5 := RowAt.below hz3 b5 sz3
    have c0 := hz.cell 0
    have c1 := hz.cell 1
    have c2 := hz.cell 2
    have c3 := hz.cell 3
    have c4 := hz.cell 4
    have f0 := hz.frozen 0
    have f1 := hz.frozen 1
    have f2 := hz.frozen 2
    have f3 := hz.frozen 3
    have f4 := hz.frozen 4
    simp at c0 c1 c2 c3 c4
    obtain ⟨ai, ci, hvi⟩ := owns_form oi
    obtain ⟨ap, cp, hvp⟩ := owns_form op
    obtain ⟨ar, cr, hvr⟩ := owns_form or
    have HE : Hid (∀ W, (∀ k, k ≠ w.heap.size → W.heap[k]? = w4.heap[k]?) → Below w.heap.size w W → ValEnd w (res, true) (.returned (.tuple #[vlV res.kind res.text vi vp vr, .bool true])) W) := fun W hk hb =>
      ⟨vi, vp, vr, rfl, own_up (owns_block oi fun g hg => hk g (by have := (own_lt oi hg).1; omega)) (by omega), own_up (owns_block op fun g hg => hk g (by have := (own_lt op hg).1; omega)) (by omega), own_up (owns_block or fun g hg => hk g (by have := (own_lt or hg).1; omega)) (by omega), hb⟩
    subst hvi hvp hvr
    clear hz hz3 b5 b03 oi op or HV2
    go_wp2
    exact bodyPost_ret (v := .tuple #[vlV res.kind res.text (.slice ai res.items.length ci) (.slice ap res.pairs.length cp) (.slice ar res.ranks.length cr), .bool true]) (by simp [results, Tryz.results7, go_sem, c0, c1, c2, c3, c4]) rfl (by rw [← HRE2.out]; exact HE.out _ (fun k hk => res5_block w4 _ _ _ _ _ _ k hk) (res5_below b04 _ _ _ _ _ _ (Nat.le_refl _)))

end Go.Proofs.YticajcagcdbgpaaGreatDoor
