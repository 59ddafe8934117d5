/- impl.ValueBytes. -/
import Derived.Test.YticajcagcdbgpaaGreatDoorA2
import Derived.Test.YticajcagcdbgpaaGreatDoorW5
import Derived.Test.YticajcagcdbgpaaGreatDoorD1
import Derived.Lib.AppendStr
namespace Go.Proofs.YticajcagcdbgpaaGreatDoor
open Go.RowKit Go.Sort
open Kk (Rk rk0 texL texR decS scoreB rightB ranksB OwnR flatR encR)

/-- A row that a slice owns has its type. -/
theorem own_type {w : World} {B : Nat} {e : TypeId} {size n : Nat} {v : Value} {xs : List Value} (h : w.ownsRow B e size v n xs) {g : Nat} (hg : v.ownBlock = some g) : ∃ C, w.heap[g]? = some (.cells C e (0, 0)) := by
  obtain ⟨_, ⟨rfl, _⟩ | ⟨g', cap, cur, rfl, _, hh, _⟩⟩ := h
  · cases hg
  · obtain rfl : g' = g := Option.some.inj hg
    exact ⟨cur, hh⟩

/-- Texts stay where bytes are appended. -/
theorem texts_kept {w w' : World} {B B' n m : Nat} {v u : Value} {xs ys : List Value} (h : w.ownsRow B 9 1 v n xs) (hu : w.ownsRow B' 5 1 u m ys) (hg : w.grownBy w' u.ownBlock) : w'.ownsRow B 9 1 v n xs := by
  refine World.ownsRow.kept h hg ?_
  cases hv : v.ownBlock with
  | none => exact .inl rfl
  | some g =>
    refine .inr fun e => ?_
    obtain ⟨C, hC⟩ := own_type h hv
    obtain ⟨D, hD⟩ := own_type hu e.symm
    rw [hC] at hD
    injection hD with hD
    injection hD with _ hD
    exact absurd hD (by decide)

theorem twoT_cells (t : ByteArray) (h : t.size ≤ 200) : Lib.byteCells (twoT t) = [.int .u8 ((t.size : Int) / 256), .int .u8 (t.size : Int)] := by
  have e : Lib.byteCells (twoT t) = [.int .u8 ((UInt8.ofNat (t.size / 256)).toNat : Int), .int .u8 ((UInt8.ofNat t.size).toNat : Int)] := rfl
  rw [e, UInt8.toNat_ofNat', UInt8.toNat_ofNat']
  have h1 : ((t.size / 256 % 2 ^ 8 : Nat) : Int) = (t.size : Int) / 256 := by omega
  have h2 : ((t.size % 2 ^ 8 : Nat) : Int) = (t.size : Int) := by omega
  rw [h1, h2]

theorem enc_next (T : List ByteArray) (k : Nat) (h : k < T.length) : encT (T.take (k + 1)) = (encT (T.take k) ++ twoT (T.getD k ByteArray.empty)) ++ (T.getD k ByteArray.empty).data.toList := by
  rw [encT_take T k h]
  unfold oneT
  rw [List.append_assoc]

abbrev OwnB (w : World) (B : Nat) (v : Value) (l : List UInt8) : Prop := w.ownsRow B 5 1 v l.length (Lib.byteCells l)

set_option maxHeartbeats 8000000 in
set_option maxRecDepth 100000 in
theorem bytes_text (t : ByteArray) (a1 a2 a3 : Option Addr) (ni c1 np c2 nr c3 : Nat) (T : List ByteArray) (w : World) (hz : ∀ x ∈ T, x.size ≤ 200) (hn : T.length ≤ 40)
    (hO : ∀ W, Below w.heap.size w W → Calls Tryz.prog 9 #[vlV 1 t (.slice a1 ni c1) (.slice a2 np c2) (.slice a3 nr c3)] W fun e w' => e = .returned (.bool true) ∧ Below W.heap.size W w')
    (hT : ∀ W, Below w.heap.size w W → Calls Tryz.prog 92 #[(.string t)] W fun e w' => ∃ v B, e = .returned v ∧ OwnS w' B v T ∧ Below W.heap.size W w') :
    Calls Tryz.prog 6 #[vlV 1 t (.slice a1 ni c1) (.slice a2 np c2) (.slice a3 nr c3)] w fun e w' => e = .returned (.string ⟨(49 :: encT T).toArray⟩) ∧ Below w.heap.size w w' := by
  obtain ⟨i0, hi, hz0, hz1, hz2⟩ := info_parts info5
  have HC : Hid (∀ W, Calls Tryz.prog 16 #[vlV 1 t (.slice a1 ni c1) (.slice a2 np c2) (.slice a3 nr c3)] W fun e w' => e = .returned (.iface 71 (.string t)) ∧ Below W.heap.size W w') := fun W => contentOf_text t a1 a2 a3 ni c1 np c2 nr c3 W
  have HO : Hid (∀ W, Below w.heap.size w W → Calls Tryz.prog 9 #[vlV 1 t (.slice a1 ni c1) (.slice a2 np c2) (.slice a3 nr c3)] W fun e w' => e = .returned (.bool true) ∧ Below W.heap.size W w') := hO
  have HT : Hid (∀ W, Below w.heap.size w W → Calls Tryz.prog 92 #[(.string t)] W fun e w' => ∃ v B, e = .returned v ∧ OwnS w' B v T ∧ Below W.heap.size W w') := hT
  have HZ : Hid (∀ x ∈ T, x.size ≤ 200) := hz
  have H0 : Hid (RowAt (w.alloc (.cells (vC 1 t (.slice a1 ni c1) (.slice a2 np c2) (.slice a3 nr c3)) 28)) w.heap.size 28 (vC 1 t (.slice a1 ni c1) (.slice a2 np c2) (.slice a3 nr c3)) ∧ Below w.heap.size w (w.alloc (.cells (vC 1 t (.slice a1 ni c1) (.slice a2 np c2) (.slice a3 nr c3)) 28))) := ⟨RowAt.new w 28 _, (Below.refl _ w).alloc (Nat.le_refl _) _⟩
  have hlt : w.heap.size < (w.alloc (.cells (vC 1 t (.slice a1 ni c1) (.slice a2 np c2) (.slice a3 nr c3)) 28)).heap.size := by simp
  clear hO hT hz
  go_enter Tryz.func6, Tryz.ntmps6
  go_wp2_with fail
  refine (HO.out _ H0.out.2).mono ?_
  rintro e w1 ⟨rfl, hb1⟩
  have r1 := RowAt.below H0.out.1 hb1 hlt
  have bb1 := H0.out.2.trans (hb1.mono H0.out.2.size)
  obtain ⟨e0, e1, e2, e3, e4⟩ := row5 r1
  have bA : Below w1.heap.size w1 (w1.alloc (.cells #[.int .u8 49] 5)) := (Below.refl _ w1).alloc (Nat.le_refl _) _
  have rA := RowAt.below r1 bA r1.lt
  obtain ⟨g0, g1, g2, g3, g4⟩ := row5 rA
  have oA : Hid (OwnB (w1.alloc (.cells #[.int .u8 49] 5)) w.heap.size (.slice (some ⟨w1.heap.size, 0, none⟩) 1 1) [49]) := ⟨rfl, .inr ⟨w1.heap.size, 1, #[.int .u8 49], rfl, bb1.size, RowAt.new w1 5 _, by simp, by unfold maxLen; omega, by simp, by simp [Lib.byteCells]⟩⟩
  have bbA := bb1.trans (bA.mono bb1.size)
  have sA : w1.heap.size < (w1.alloc (.cells #[.int .u8 49] 5)).heap.size := by simp
  clear hb1 H0 r1 rA bA
  go_wp2_with fail
  generalize w1.alloc (.cells #[.int .u8 49] 5) = wA at *
  refine (HC.out _).mono ?_
  rintro e w2 ⟨rfl, hb2⟩
  have bb2 := bbA.trans (hb2.mono bbA.size)
  have o2 : Hid (OwnB w2 w.heap.size (.slice (some ⟨w1.heap.size, 0, none⟩) 1 1) [49]) := owns_below oA.out hb2
  clear e0 e1 e2 e3 e4 g0 g1 g2 g3 g4 hb2 oA
  go_wp2_with fail
  refine (HT.out _ bb2).mono ?_
  rintro e w3 ⟨vT, BT, rfl, oT, hb3⟩
  have bb3 := bb2.trans (hb3.mono bb2.size)
  have o3 : Hid (OwnB w3 w.heap.size (.slice (some ⟨w1.heap.size, 0, none⟩) 1 1) [49]) := owns_below o2.out hb3
  have OT : Hid (OwnS w3 BT vT T) := oT
  obtain ⟨aT, cT, hvT⟩ := owns_form oT
  obtain ⟨nT, hnT⟩ : ∃ nT, T.length = nT := ⟨_, rfl⟩
  have HNT : Hid (T.length = nT) := hnT
  rw [hnT] at hvT hn
  subst hvT
  clear o2 hb3 oT hnT
  go_wp2_with fail
  go_loopw [3, 18] (fun o i wr => ∃ (j : Nat) (l : List UInt8), j ≤ nT ∧ i = .int .i64 j ∧ l = 49 :: encT (T.take j) ∧ l.length ≤ 1 + 202 * j ∧ OwnB wr w.heap.size o l ∧ OwnS wr BT (.slice aT nT cT) T ∧ Below w.heap.size w wr) (fun _ i _ => nT - (intOf i).toNat)
  case atStart => exact ⟨0, [49], by omega, rfl, by simp [encT], by simp, o3.out, OT.out, bb3⟩
  case round =>
    obtain ⟨j, l, hj, rfl, hl, hll, oB, oT, bk⟩ := hrel
    have sk := bk.size
    clear o3 OT
    by_cases hjn : j < nT
    · have hji : (j : Int) < (nT : Int) := by omega
      obtain ⟨xa, xA, xc, hxv, hxa, _, _, hxc⟩ := ownS_cells oT
      injection hxv with hxv1 hxv2 hxv3
      clear hxv2 hxv3
      obtain ⟨hxa1, _, hxlt⟩ := hxa (by rw [HNT.out]; omega)
      have hc := hxc j (by rw [HNT.out]; exact hjn)
      rw [← hxv1] at hxa1
      clear hxv1
      subst hxa1
      obtain ⟨x, hx⟩ : ∃ x, T.getD j ByteArray.empty = x := ⟨_, rfl⟩
      rw [hx] at hc
      have hxs : x.size ≤ 200 := HZ.out x (by rw [← hx]; exact getD_mem T _ j (by rw [HNT.out]; exact hjn))
      have HL : Hid ((l ++ twoT x) ++ x.data.toList = 49 :: encT (T.take (j + 1))) := by
        unfold Hid
        rw [hl, enc_next T j (by rw [HNT.out]; exact hjn), hx]
        simp
      have HTC : Hid (Lib.byteCells (twoT x) = [.int .u8 ((x.size : Int) / 256), .int .u8 (x.size : Int)]) := twoT_cells x hxs
      have OB : Hid (OwnB wr w.heap.size u3 l) := oB
      have OTT : Hid (OwnS wr BT (.slice (some ⟨xA, 0, none⟩) nT cT) T) := oT
      have hl2 : l.length ≤ 10000 := by omega
      have h00 : (0 : Int) ≤ (j : Int) := by omega
      clear hl hxa hxc hx oT
      go_wp2_with (at_builtin; refine wpList_append_own _ rfl _ _ 22 rfl w.heap.size 5 i0 _ 1 1 Tryz.underlying22 hi hz0 hz1 hz2 rfl (by decide) _ _ _ rfl (oB.alloc _) ⟨wr.heap.size, 0, none⟩ 2 2 [.int .u8 ((x.size : Int) / 256), .int .u8 (x.size : Int)] rfl rfl ?c1 ?c2 ?c3 ?c4 ?c5 ?_)
      case c1 =>
        intro i u hi
        rw [Addr.add_lit, Nat.zero_add]
        exact ((RowAt.new wr 5 #[.int .u8 ((x.size : Int) / 256), .int .u8 (x.size : Int)]).cell i).trans (by simpa using hi)
      case c2 => intro y hy; simp at hy; rcases hy with rfl | rfl <;> rfl
      case c3 => unfold maxLen; omega
      case c4 => omega
      case c5 => simp; omega
      intro v' w5 hown' hgrow _
      have O5 : OwnB w5 w.heap.size v' (l ++ twoT x) := by
        unfold OwnB
        rw [List.length_append, Lib.byteCells_append, HTC.out]
        exact hown'
      have T5 : Hid (OwnS w5 BT (.slice (some ⟨xA, 0, none⟩) nT cT) T) := texts_kept (OTT.out.alloc _) (oB.alloc _) hgrow
      have b5 : Hid (Below w.heap.size w w5) := below_own bk sk oB hgrow
      have s5 := b5.out.size
      have hl3 : (l ++ twoT x).length = l.length + 2 := by rw [List.length_append]; rfl
      clear hown' hgrow oB OB OTT HTC
      go_wp2_with (at_builtin; refine Lib.wpList_append_own_string _ rfl _ _ 22 9 rfl w.heap.size 5 i0 Tryz.underlying22 Tryz.underlying9 hi hz0 hz1 hz2 _ _ _ rfl O5 x rfl ?c3 ?c4 ?c5 ?_)
      case c3 => unfold maxLen; omega
      case c4 => omega
      case c5 => omega
      intro v6 w6 hown6 hgrow6 _
      have O6 : Hid (OwnB w6 w.heap.size v6 ((l ++ twoT x) ++ x.data.toList)) := by
        unfold Hid OwnB
        have e1 : x.data.toList.length = x.size := (Lib.size_eq x).symm
        rw [List.length_append, Lib.byteCells_append, hl3, e1]
        exact hown6
      have T6 : Hid (OwnS w6 BT (.slice (some ⟨xA, 0, none⟩) nT cT) T) := texts_kept T5.out O5 hgrow6
      have b6 : Hid (Below w.heap.size w w6) := b5.out.grown hgrow6 s5 (fun g hg => (own_lt O5 hg).1)
      have e1 : x.data.toList.length = x.size := (Lib.size_eq x).symm
      clear hown6 hgrow6 O5 T5 b5 bk
      go_wp2
      go_roundw
      case rel => exact ⟨j + 1, (l ++ twoT x) ++ x.data.toList, by omega, by go_num, HL.out, by rw [List.length_append, hl3, e1]; omega, O6.out, T6.out, b6.out⟩
      case measure => simp [intOf]; omega
    · have hji : ¬ (j : Int) < (nT : Int) := by omega
      have HE : Hid (l = 49 :: encT T) := by
        unfold Hid
        rw [hl, List.take_of_length_le (by rw [HNT.out]; omega)]
      have hlp : 0 < l.length := by rw [hl]; simp
      obtain ⟨A', cap', ho'⟩ := Go.Joins.ownsRow_form oB hlp
      subst ho'
      have hcv := conv_own oB
      have hl2 : l.length ≤ 10000 := by omega
      clear hl oT oB
      go_wp2
      go_ret
      exact ⟨ret_str (by rw [HE.out]), bk⟩

set_option maxHeartbeats 8000000 in
set_option maxRecDepth 100000 in
theorem bytes_items (t : ByteArray) (a1 a2 a3 : Option Addr) (ni c1 np c2 nr c3 : Nat) (T : List ByteArray) (w : World) (hz : ∀ x ∈ T, x.size ≤ 200) (hn : T.length ≤ 40)
    (hO : ∀ W, Below w.heap.size w W → Calls Tryz.prog 9 #[vlV 2 t (.slice a1 ni c1) (.slice a2 np c2) (.slice a3 nr c3)] W fun e w' => e = .returned (.bool true) ∧ Below W.heap.size W w')
    (hT : ∀ W, Below w.heap.size w W → Calls Tryz.prog 95 #[(.slice a1 ni c1)] W fun e w' => ∃ v B, e = .returned v ∧ OwnS w' B v T ∧ Below W.heap.size W w') :
    Calls Tryz.prog 6 #[vlV 2 t (.slice a1 ni c1) (.slice a2 np c2) (.slice a3 nr c3)] w fun e w' => e = .returned (.string ⟨(50 :: encT T).toArray⟩) ∧ Below w.heap.size w w' := by
  obtain ⟨i0, hi, hz0, hz1, hz2⟩ := info_parts info5
  have HC : Hid (∀ W, Calls Tryz.prog 16 #[vlV 2 t (.slice a1 ni c1) (.slice a2 np c2) (.slice a3 nr c3)] W fun e w' => e = .returned (.iface 72 (.slice a1 ni c1)) ∧ Below W.heap.size W w') := fun W => contentOf_items t a1 a2 a3 ni c1 np c2 nr c3 W
  have HO : Hid (∀ W, Below w.heap.size w W → Calls Tryz.prog 9 #[vlV 2 t (.slice a1 ni c1) (.slice a2 np c2) (.slice a3 nr c3)] W fun e w' => e = .returned (.bool true) ∧ Below W.heap.size W w') := hO
  have HT : Hid (∀ W, Below w.heap.size w W → Calls Tryz.prog 95 #[(.slice a1 ni c1)] W fun e w' => ∃ v B, e = .returned v ∧ OwnS w' B v T ∧ Below W.heap.size W w') := hT
  have HZ : Hid (∀ x ∈ T, x.size ≤ 200) := hz
  have H0 : Hid (RowAt (w.alloc (.cells (vC 2 t (.slice a1 ni c1) (.slice a2 np c2) (.slice a3 nr c3)) 28)) w.heap.size 28 (vC 2 t (.slice a1 ni c1) (.slice a2 np c2) (.slice a3 nr c3)) ∧ Below w.heap.size w (w.alloc (.cells (vC 2 t (.slice a1 ni c1) (.slice a2 np c2) (.slice a3 nr c3)) 28))) := ⟨RowAt.new w 28 _, (Below.refl _ w).alloc (Nat.le_refl _) _⟩
  have hlt : w.heap.size < (w.alloc (.cells (vC 2 t (.slice a1 ni c1) (.slice a2 np c2) (.slice a3 nr c3)) 28)).heap.size := by simp
  clear hO hT hz
  go_enter Tryz.func6, Tryz.ntmps6
  go_wp2_with fail
  refine (HO.out _ H0.out.2).mono ?_
  rintro e w1 ⟨rfl, hb1⟩
  have r1 := RowAt.below H0.out.1 hb1 hlt
  have bb1 := H0.out.2.trans (hb1.mono H0.out.2.size)
  obtain ⟨e0, e1, e2, e3, e4⟩ := row5 r1
  have bA : Below w1.heap.size w1 (w1.alloc (.cells #[.int .u8 50] 5)) := (Below.refl _ w1).alloc (Nat.le_refl _) _
  have rA := RowAt.below r1 bA r1.lt
  obtain ⟨g0, g1, g2, g3, g4⟩ := row5 rA
  have oA : Hid (OwnB (w1.alloc (.cells #[.int .u8 50] 5)) w.heap.size (.slice (some ⟨w1.heap.size, 0, none⟩) 1 1) [50]) := ⟨rfl, .inr ⟨w1.heap.size, 1, #[.int .u8 50], rfl, bb1.size, RowAt.new w1 5 _, by simp, by unfold maxLen; omega, by simp, by simp [Lib.byteCells]⟩⟩
  have bbA := bb1.trans (bA.mono bb1.size)
  have sA : w1.heap.size < (w1.alloc (.cells #[.int .u8 50] 5)).heap.size := by simp
  clear hb1 H0 r1 rA bA
  go_wp2_with fail
  generalize w1.alloc (.cells #[.int .u8 50] 5) = wA at *
  refine (HC.out _).mono ?_
  rintro e w2 ⟨rfl, hb2⟩
  have bb2 := bbA.trans (hb2.mono bbA.size)
  have o2 : Hid (OwnB w2 w.heap.size (.slice (some ⟨w1.heap.size, 0, none⟩) 1 1) [50]) := owns_below oA.out hb2
  clear e0 e1 e2 e3 e4 g0 g1 g2 g3 g4 hb2 oA
  go_wp2_with fail
  refine (HT.out _ bb2).mono ?_
  rintro e w3 ⟨vT, BT, rfl, oT, hb3⟩
  have bb3 := bb2.trans (hb3.mono bb2.size)
  have o3 : Hid (OwnB w3 w.heap.size (.slice (some ⟨w1.heap.size, 0, none⟩) 1 1) [50]) := owns_below o2.out hb3
  have OT : Hid (OwnS w3 BT vT T) := oT
  obtain ⟨aT, cT, hvT⟩ := owns_form oT
  obtain ⟨nT, hnT⟩ : ∃ nT, T.length = nT := ⟨_, rfl⟩
  have HNT : Hid (T.length = nT) := hnT
  rw [hnT] at hvT hn
  subst hvT
  clear o2 hb3 oT hnT
  go_wp2_with fail
  go_loopw [3, 18] (fun o i wr => ∃ (j : Nat) (l : List UInt8), j ≤ nT ∧ i = .int .i64 j ∧ l = 50 :: encT (T.take j) ∧ l.length ≤ 1 + 202 * j ∧ OwnB wr w.heap.size o l ∧ OwnS wr BT (.slice aT nT cT) T ∧ Below w.heap.size w wr) (fun _ i _ => nT - (intOf i).toNat)
  case atStart => exact ⟨0, [50], by omega, rfl, by simp [encT], by simp, o3.out, OT.out, bb3⟩
  case round =>
    obtain ⟨j, l, hj, rfl, hl, hll, oB, oT, bk⟩ := hrel
    have sk := bk.size
    clear o3 OT
    by_cases hjn : j < nT
    · have hji : (j : Int) < (nT : Int) := by omega
      obtain ⟨xa, xA, xc, hxv, hxa, _, _, hxc⟩ := ownS_cells oT
      injection hxv with hxv1 hxv2 hxv3
      clear hxv2 hxv3
      obtain ⟨hxa1, _, hxlt⟩ := hxa (by rw [HNT.out]; omega)
      have hc := hxc j (by rw [HNT.out]; exact hjn)
      rw [← hxv1] at hxa1
      clear hxv1
      subst hxa1
      obtain ⟨x, hx⟩ : ∃ x, T.getD j ByteArray.empty = x := ⟨_, rfl⟩
      rw [hx] at hc
      have hxs : x.size ≤ 200 := HZ.out x (by rw [← hx]; exact getD_mem T _ j (by rw [HNT.out]; exact hjn))
      have HL : Hid ((l ++ twoT x) ++ x.data.toList = 50 :: encT (T.take (j + 1))) := by
        unfold Hid
        rw [hl, enc_next T j (by rw [HNT.out]; exact hjn), hx]
        simp
      have HTC : Hid (Lib.byteCells (twoT x) = [.int .u8 ((x.size : Int) / 256), .int .u8 (x.size : Int)]) := twoT_cells x hxs
      have OB : Hid (OwnB wr w.heap.size u3 l) := oB
      have OTT : Hid (OwnS wr BT (.slice (some ⟨xA, 0, none⟩) nT cT) T) := oT
      have hl2 : l.length ≤ 10000 := by omega
      have h00 : (0 : Int) ≤ (j : Int) := by omega
      clear hl hxa hxc hx oT
      go_wp2_with (at_builtin; refine wpList_append_own _ rfl _ _ 22 rfl w.heap.size 5 i0 _ 1 1 Tryz.underlying22 hi hz0 hz1 hz2 rfl (by decide) _ _ _ rfl (oB.alloc _) ⟨wr.heap.size, 0, none⟩ 2 2 [.int .u8 ((x.size : Int) / 256), .int .u8 (x.size : Int)] rfl rfl ?c1 ?c2 ?c3 ?c4 ?c5 ?_)
      case c1 =>
        intro i u hi
        rw [Addr.add_lit, Nat.zero_add]
        exact ((RowAt.new wr 5 #[.int .u8 ((x.size : Int) / 256), .int .u8 (x.size : Int)]).cell i).trans (by simpa using hi)
      case c2 => intro y hy; simp at hy; rcases hy with rfl | rfl <;> rfl
      case c3 => unfold maxLen; omega
      case c4 => omega
      case c5 => simp; omega
      intro v' w5 hown' hgrow _
      have O5 : OwnB w5 w.heap.size v' (l ++ twoT x) := by
        unfold OwnB
        rw [List.length_append, Lib.byteCells_append, HTC.out]
        exact hown'
      have T5 : Hid (OwnS w5 BT (.slice (some ⟨xA, 0, none⟩) nT cT) T) := texts_kept (OTT.out.alloc _) (oB.alloc _) hgrow
      have b5 : Hid (Below w.heap.size w w5) := below_own bk sk oB hgrow
      have s5 := b5.out.size
      have hl3 : (l ++ twoT x).length = l.length + 2 := by rw [List.length_append]; rfl
      clear hown' hgrow oB OB OTT HTC
      go_wp2_with (at_builtin; refine Lib.wpList_append_own_string _ rfl _ _ 22 9 rfl w.heap.size 5 i0 Tryz.underlying22 Tryz.underlying9 hi hz0 hz1 hz2 _ _ _ rfl O5 x rfl ?c3 ?c4 ?c5 ?_)
      case c3 => unfold maxLen; omega
      case c4 => omega
      case c5 => omega
      intro v6 w6 hown6 hgrow6 _
      have O6 : Hid (OwnB w6 w.heap.size v6 ((l ++ twoT x) ++ x.data.toList)) := by
        unfold Hid OwnB
        have e1 : x.data.toList.length = x.size := (Lib.size_eq x).symm
        rw [List.length_append, Lib.byteCells_append, hl3, e1]
        exact hown6
      have T6 : Hid (OwnS w6 BT (.slice (some ⟨xA, 0, none⟩) nT cT) T) := texts_kept T5.out O5 hgrow6
      have b6 : Hid (Below w.heap.size w w6) := b5.out.grown hgrow6 s5 (fun g hg => (own_lt O5 hg).1)
      have e1 : x.data.toList.length = x.size := (Lib.size_eq x).symm
      clear hown6 hgrow6 O5 T5 b5 bk
      go_wp2
      go_roundw
      case rel => exact ⟨j + 1, (l ++ twoT x) ++ x.data.toList, by omega, by go_num, HL.out, by rw [List.length_append, hl3, e1]; omega, O6.out, T6.out, b6.out⟩
      case measure => simp [intOf]; omega
    · have hji : ¬ (j : Int) < (nT : Int) := by omega
      have HE : Hid (l = 50 :: encT T) := by
        unfold Hid
        rw [hl, List.take_of_length_le (by rw [HNT.out]; omega)]
      have hlp : 0 < l.length := by rw [hl]; simp
      obtain ⟨A', cap', ho'⟩ := Go.Joins.ownsRow_form oB hlp
      subst ho'
      have hcv := conv_own oB
      have hl2 : l.length ≤ 10000 := by omega
      clear hl oT oB
      go_wp2
      go_ret
      exact ⟨ret_str (by rw [HE.out]), bk⟩

set_option maxHeartbeats 8000000 in
set_option maxRecDepth 100000 in
theorem bytes_pairs (t : ByteArray) (a1 a2 a3 : Option Addr) (ni c1 np c2 nr c3 : Nat) (T : List ByteArray) (w : World) (hz : ∀ x ∈ T, x.size ≤ 200) (hn : T.length ≤ 40)
    (hO : ∀ W, Below w.heap.size w W → Calls Tryz.prog 9 #[vlV 3 t (.slice a1 ni c1) (.slice a2 np c2) (.slice a3 nr c3)] W fun e w' => e = .returned (.bool true) ∧ Below W.heap.size W w')
    (hT : ∀ W, Below w.heap.size w W → Calls Tryz.prog 98 #[(.slice a2 np c2)] W fun e w' => ∃ v B, e = .returned v ∧ OwnS w' B v T ∧ Below W.heap.size W w') :
    Calls Tryz.prog 6 #[vlV 3 t (.slice a1 ni c1) (.slice a2 np c2) (.slice a3 nr c3)] w fun e w' => e = .returned (.string ⟨(51 :: encT T).toArray⟩) ∧ Below w.heap.size w w' := by
  obtain ⟨i0, hi, hz0, hz1, hz2⟩ := info_parts info5
  have HC : Hid (∀ W, Calls Tryz.prog 16 #[vlV 3 t (.slice a1 ni c1) (.slice a2 np c2) (.slice a3 nr c3)] W fun e w' => e = .returned (.iface 73 (.slice a2 np c2)) ∧ Below W.heap.size W w') := fun W => contentOf_pairs t a1 a2 a3 ni c1 np c2 nr c3 W
  have HO : Hid (∀ W, Below w.heap.size w W → Calls Tryz.prog 9 #[vlV 3 t (.slice a1 ni c1) (.slice a2 np c2) (.slice a3 nr c3)] W fun e w' => e = .returned (.bool true) ∧ Below W.heap.size W w') := hO
  have HT : Hid (∀ W, Below w.heap.size w W → Calls Tryz.prog 98 #[(.slice a2 np c2)] W fun e w' => ∃ v B, e = .returned v ∧ OwnS w' B v T ∧ Below W.heap.size W w') := hT
  have HZ : Hid (∀ x ∈ T, x.size ≤ 200) := hz
  have H0 : Hid (RowAt (w.alloc (.cells (vC 3 t (.slice a1 ni c1) (.slice a2 np c2) (.slice a3 nr c3)) 28)) w.heap.size 28 (vC 3 t (.slice a1 ni c1) (.slice a2 np c2) (.slice a3 nr c3)) ∧ Below w.heap.size w (w.alloc (.cells (vC 3 t (.slice a1 ni c1) (.slice a2 np c2) (.slice a3 nr c3)) 28))) := ⟨RowAt.new w 28 _, (Below.refl _ w).alloc (Nat.le_refl _) _⟩
  have hlt : w.heap.size < (w.alloc (.cells (vC 3 t (.slice a1 ni c1) (.slice a2 np c2) (.slice a3 nr c3)) 28)).heap.size := by simp
  clear hO hT hz
  go_enter Tryz.func6, Tryz.ntmps6
  go_wp2_with fail
  refine (HO.out _ H0.out.2).mono ?_
  rintro e w1 ⟨rfl, hb1⟩
  have r1 := RowAt.below H0.out.1 hb1 hlt
  have bb1 := H0.out.2.trans (hb1.mono H0.out.2.size)
  obtain ⟨e0, e1, e2, e3, e4⟩ := row5 r1
  have bA : Below w1.heap.size w1 (w1.alloc (.cells #[.int .u8 51] 5)) := (Below.refl _ w1).alloc (Nat.le_refl _) _
  have rA := RowAt.below r1 bA r1.lt
  obtain ⟨g0, g1, g2, g3, g4⟩ := row5 rA
  have oA : Hid (OwnB (w1.alloc (.cells #[.int .u8 51] 5)) w.heap.size (.slice (some ⟨w1.heap.size, 0, none⟩) 1 1) [51]) := ⟨rfl, .inr ⟨w1.heap.size, 1, #[.int .u8 51], rfl, bb1.size, RowAt.new w1 5 _, by simp, by unfold maxLen; omega, by simp, by simp [Lib.byteCells]⟩⟩
  have bbA := bb1.trans (bA.mono bb1.size)
  have sA : w1.heap.size < (w1.alloc (.cells #[.int .u8 51] 5)).heap.size := by simp
  clear hb1 H0 r1 rA bA
  go_wp2_with fail
  generalize w1.alloc (.cells #[.int .u8 51] 5) = wA at *
  refine (HC.out _).mono ?_
  rintro e w2 ⟨rfl, hb2⟩
  have bb2 := bbA.trans (hb2.mono bbA.size)
  have o2 : Hid (OwnB w2 w.heap.size (.slice (some ⟨w1.heap.size, 0, none⟩) 1 1) [51]) := owns_below oA.out hb2
  clear e0 e1 e2 e3 e4 g0 g1 g2 g3 g4 hb2 oA
  go_wp2_with fail
  refine (HT.out _ bb2).mono ?_
  rintro e w3 ⟨vT, BT, rfl, oT, hb3⟩
  have bb3 := bb2.trans (hb3.mono bb2.size)
  have o3 : Hid (OwnB w3 w.heap.size (.slice (some ⟨w1.heap.size, 0, none⟩) 1 1) [51]) := owns_below o2.out hb3
  have OT : Hid (OwnS w3 BT vT T) := oT
  obtain ⟨aT, cT, hvT⟩ := owns_form oT
  obtain ⟨nT, hnT⟩ : ∃ nT, T.length = nT := ⟨_, rfl⟩
  have HNT : Hid (T.length = nT) := hnT
  rw [hnT] at hvT hn
  subst hvT
  clear o2 hb3 oT hnT
  go_wp2_with fail
  go_loopw [3, 18] (fun o i wr => ∃ (j : Nat) (l : List UInt8), j ≤ nT ∧ i = .int .i64 j ∧ l = 51 :: encT (T.take j) ∧ l.length ≤ 1 + 202 * j ∧ OwnB wr w.heap.size o l ∧ OwnS wr BT (.slice aT nT cT) T ∧ Below w.heap.size w wr) (fun _ i _ => nT - (intOf i).toNat)
  case atStart => exact ⟨0, [51], by omega, rfl, by simp [encT], by simp, o3.out, OT.out, bb3⟩
  case round =>
    obtain ⟨j, l, hj, rfl, hl, hll, oB, oT, bk⟩ := hrel
    have sk := bk.size
    clear o3 OT
    by_cases hjn : j < nT
    · have hji : (j : Int) < (nT : Int) := by omega
      obtain ⟨xa, xA, xc, hxv, hxa, _, _, hxc⟩ := ownS_cells oT
      injection hxv with hxv1 hxv2 hxv3
      clear hxv2 hxv3
      obtain ⟨hxa1, _, hxlt⟩ := hxa (by rw [HNT.out]; omega)
      have hc := hxc j (by rw [HNT.out]; exact hjn)
      rw [← hxv1] at hxa1
      clear hxv1
      subst hxa1
      obtain ⟨x, hx⟩ : ∃ x, T.getD j ByteArray.empty = x := ⟨_, rfl⟩
      rw [hx] at hc
      have hxs : x.size ≤ 200 := HZ.out x (by rw [← hx]; exact getD_mem T _ j (by rw [HNT.out]; exact hjn))
      have HL : Hid ((l ++ twoT x) ++ x.data.toList = 51 :: encT (T.take (j + 1))) := by
        unfold Hid
        rw [hl, enc_next T j (by rw [HNT.out]; exact hjn), hx]
        simp
      have HTC : Hid (Lib.byteCells (twoT x) = [.int .u8 ((x.size : Int) / 256), .int .u8 (x.size : Int)]) := twoT_cells x hxs
      have OB : Hid (OwnB wr w.heap.size u3 l) := oB
      have OTT : Hid (OwnS wr BT (.slice (some ⟨xA, 0, none⟩) nT cT) T) := oT
      have hl2 : l.length ≤ 10000 := by omega
      have h00 : (0 : Int) ≤ (j : Int) := by omega
      clear hl hxa hxc hx oT
      go_wp2_with (at_builtin; refine wpList_append_own _ rfl _ _ 22 rfl w.heap.size 5 i0 _ 1 1 Tryz.underlying22 hi hz0 hz1 hz2 rfl (by decide) _ _ _ rfl (oB.alloc _) ⟨wr.heap.size, 0, none⟩ 2 2 [.int .u8 ((x.size : Int) / 256), .int .u8 (x.size : Int)] rfl rfl ?c1 ?c2 ?c3 ?c4 ?c5 ?_)
      case c1 =>
        intro i u hi
        rw [Addr.add_lit, Nat.zero_add]
        exact ((RowAt.new wr 5 #[.int .u8 ((x.size : Int) / 256), .int .u8 (x.size : Int)]).cell i).trans (by simpa using hi)
      case c2 => intro y hy; simp at hy; rcases hy with rfl | rfl <;> rfl
      case c3 => unfold maxLen; omega
      case c4 => omega
      case c5 => simp; omega
      intro v' w5 hown' hgrow _
      have O5 : OwnB w5 w.heap.size v' (l ++ twoT x) := by
        unfold OwnB
        rw [List.length_append, Lib.byteCells_append, HTC.out]
        exact hown'
      have T5 : Hid (OwnS w5 BT (.slice (some ⟨xA, 0, none⟩) nT cT) T) := texts_kept (OTT.out.alloc _) (oB.alloc _) hgrow
      have b5 : Hid (Below w.heap.size w w5) := below_own bk sk oB hgrow
      have s5 := b5.out.size
      have hl3 : (l ++ twoT x).length = l.length + 2 := by rw [List.length_append]; rfl
      clear hown' hgrow oB OB OTT HTC
      go_wp2_with (at_builtin; refine Lib.wpList_append_own_string _ rfl _ _ 22 9 rfl w.heap.size 5 i0 Tryz.underlying22 Tryz.underlying9 hi hz0 hz1 hz2 _ _ _ rfl O5 x rfl ?c3 ?c4 ?c5 ?_)
      case c3 => unfold maxLen; omega
      case c4 => omega
      case c5 => omega
      intro v6 w6 hown6 hgrow6 _
      have O6 : Hid (OwnB w6 w.heap.size v6 ((l ++ twoT x) ++ x.data.toList)) := by
        unfold Hid OwnB
        have e1 : x.data.toList.length = x.size := (Lib.size_eq x).symm
        rw [List.length_append, Lib.byteCells_append, hl3, e1]
        exact hown6
      have T6 : Hid (OwnS w6 BT (.slice (some ⟨xA, 0, none⟩) nT cT) T) := texts_kept T5.out O5 hgrow6
      have b6 : Hid (Below w.heap.size w w6) := b5.out.grown hgrow6 s5 (fun g hg => (own_lt O5 hg).1)
      have e1 : x.data.toList.length = x.size := (Lib.size_eq x).symm
      clear hown6 hgrow6 O5 T5 b5 bk
      go_wp2
      go_roundw
      case rel => exact ⟨j + 1, (l ++ twoT x) ++ x.data.toList, by omega, by go_num, HL.out, by rw [List.length_append, hl3, e1]; omega, O6.out, T6.out, b6.out⟩
      case measure => simp [intOf]; omega
    · have hji : ¬ (j : Int) < (nT : Int) := by omega
      have HE : Hid (l = 51 :: encT T) := by
        unfold Hid
        rw [hl, List.take_of_length_le (by rw [HNT.out]; omega)]
      have hlp : 0 < l.length := by rw [hl]; simp
      obtain ⟨A', cap', ho'⟩ := Go.Joins.ownsRow_form oB hlp
      subst ho'
      have hcv := conv_own oB
      have hl2 : l.length ≤ 10000 := by omega
      clear hl oT oB
      go_wp2
      go_ret
      exact ⟨ret_str (by rw [HE.out]), bk⟩

set_option maxHeartbeats 8000000 in
set_option maxRecDepth 100000 in
theorem bytes_ranks (t : ByteArray) (a1 a2 a3 : Option Addr) (ni c1 np c2 nr c3 : Nat) (T : List ByteArray) (w : World) (hz : ∀ x ∈ T, x.size ≤ 200) (hn : T.length ≤ 40)
    (hO : ∀ W, Below w.heap.size w W → Calls Tryz.prog 9 #[vlV 4 t (.slice a1 ni c1) (.slice a2 np c2) (.slice a3 nr c3)] W fun e w' => e = .returned (.bool true) ∧ Below W.heap.size W w')
    (hT : ∀ W, Below w.heap.size w W → Calls Tryz.prog 106 #[(.slice a3 nr c3)] W fun e w' => ∃ v B, e = .returned v ∧ OwnS w' B v T ∧ Below W.heap.size W w') :
    Calls Tryz.prog 6 #[vlV 4 t (.slice a1 ni c1) (.slice a2 np c2) (.slice a3 nr c3)] w fun e w' => e = .returned (.string ⟨(52 :: encT T).toArray⟩) ∧ Below w.heap.size w w' := by
  obtain ⟨i0, hi, hz0, hz1, hz2⟩ := info_parts info5
  have HC : Hid (∀ W, Calls Tryz.prog 16 #[vlV 4 t (.slice a1 ni c1) (.slice a2 np c2) (.slice a3 nr c3)] W fun e w' => e = .returned (.iface 74 (.slice a3 nr c3)) ∧ Below W.heap.size W w') := fun W => contentOf_ranks t a1 a2 a3 ni c1 np c2 nr c3 W
  have HO : Hid (∀ W, Below w.heap.size w W → Calls Tryz.prog 9 #[vlV 4 t (.slice a1 ni c1) (.slice a2 np c2) (.slice a3 nr c3)] W fun e w' => e = .returned (.bool true) ∧ Below W.heap.size W w') := hO
  have HT : Hid (∀ W, Below w.heap.size w W → Calls Tryz.prog 106 #[(.slice a3 nr c3)] W fun e w' => ∃ v B, e = .returned v ∧ OwnS w' B v T ∧ Below W.heap.size W w') := hT
  have HZ : Hid (∀ x ∈ T, x.size ≤ 200) := hz
  have H0 : Hid (RowAt (w.alloc (.cells (vC 4 t (.slice a1 ni c1) (.slice a2 np c2) (.slice a3 nr c3)) 28)) w.heap.size 28 (vC 4 t (.slice a1 ni c1) (.slice a2 np c2) (.slice a3 nr c3)) ∧ Below w.heap.size w (w.alloc (.cells (vC 4 t (.slice a1 ni c1) (.slice a2 np c2) (.slice a3 nr c3)) 28))) := ⟨RowAt.new w 28 _, (Below.refl _ w).alloc (Nat.le_refl _) _⟩
  have hlt : w.heap.size < (w.alloc (.cells (vC 4 t (.slice a1 ni c1) (.slice a2 np c2) (.slice a3 nr c3)) 28)).heap.size := by simp
  clear hO hT hz
  go_enter Tryz.func6, Tryz.ntmps6
  go_wp2_with fail
  refine (HO.out _ H0.out.2).mono ?_
  rintro e w1 ⟨rfl, hb1⟩
  have r1 := RowAt.below H0.out.1 hb1 hlt
  have bb1 := H0.out.2.trans (hb1.mono H0.out.2.size)
  obtain ⟨e0, e1, e2, e3, e4⟩ := row5 r1
  have bA : Below w1.heap.size w1 (w1.alloc (.cells #[.int .u8 52] 5)) := (Below.refl _ w1).alloc (Nat.le_refl _) _
  have rA := RowAt.below r1 bA r1.lt
  obtain ⟨g0, g1, g2, g3, g4⟩ := row5 rA
  have oA : Hid (OwnB (w1.alloc (.cells #[.int .u8 52] 5)) w.heap.size (.slice (some ⟨w1.heap.size, 0, none⟩) 1 1) [52]) := ⟨rfl, .inr ⟨w1.heap.size, 1, #[.int .u8 52], rfl, bb1.size, RowAt.new w1 5 _, by simp, by unfold maxLen; omega, by simp, by simp [Lib.byteCells]⟩⟩
  have bbA := bb1.trans (bA.mono bb1.size)
  have sA : w1.heap.size < (w1.alloc (.cells #[.int .u8 52] 5)).heap.size := by simp
  clear hb1 H0 r1 rA bA
  go_wp2_with fail
  generalize w1.alloc (.cells #[.int .u8 52] 5) = wA at *
  refine (HC.out _).mono ?_
  rintro e w2 ⟨rfl, hb2⟩
  have bb2 := bbA.trans (hb2.mono bbA.size)
  have o2 : Hid (OwnB w2 w.heap.size (.slice (some ⟨w1.heap.size, 0, none⟩) 1 1) [52]) := owns_below oA.out hb2
  clear e0 e1 e2 e3 e4 g0 g1 g2 g3 g4 hb2 oA
  go_wp2_with fail
  refine (HT.out _ bb2).mono ?_
  rintro e w3 ⟨vT, BT, rfl, oT, hb3⟩
  have bb3 := bb2.trans (hb3.mono bb2.size)
  have o3 : Hid (OwnB w3 w.heap.size (.slice (some ⟨w1.heap.size, 0, none⟩) 1 1) [52]) := owns_below o2.out hb3
  have OT : Hid (OwnS w3 BT vT T) := oT
  obtain ⟨aT, cT, hvT⟩ := owns_form oT
  obtain ⟨nT, hnT⟩ : ∃ nT, T.length = nT := ⟨_, rfl⟩
  have HNT : Hid (T.length = nT) := hnT
  rw [hnT] at hvT hn
  subst hvT
  clear o2 hb3 oT hnT
  go_wp2_with fail
  go_loopw [3, 18] (fun o i wr => ∃ (j : Nat) (l : List UInt8), j ≤ nT ∧ i = .int .i64 j ∧ l = 52 :: encT (T.take j) ∧ l.length ≤ 1 + 202 * j ∧ OwnB wr w.heap.size o l ∧ OwnS wr BT (.slice aT nT cT) T ∧ Below w.heap.size w wr) (fun _ i _ => nT - (intOf i).toNat)
  case atStart => exact ⟨0, [52], by omega, rfl, by simp [encT], by simp, o3.out, OT.out, bb3⟩
  case round =>
    obtain ⟨j, l, hj, rfl, hl, hll, oB, oT, bk⟩ := hrel
    have sk := bk.size
    clear o3 OT
    by_cases hjn : j < nT
    · have hji : (j : Int) < (nT : Int) := by omega
      obtain ⟨xa, xA, xc, hxv, hxa, _, _, hxc⟩ := ownS_cells oT
      injection hxv with hxv1 hxv2 hxv3
      clear hxv2 hxv3
      obtain ⟨hxa1, _, hxlt⟩ := hxa (by rw [HNT.out]; omega)
      have hc := hxc j (by rw [HNT.out]; exact hjn)
      rw [← hxv1] at hxa1
      clear hxv1
      subst hxa1
      obtain ⟨x, hx⟩ : ∃ x, T.getD j ByteArray.empty = x := ⟨_, rfl⟩
      rw [hx] at hc
      have hxs : x.size ≤ 200 := HZ.out x (by rw [← hx]; exact getD_mem T _ j (by rw [HNT.out]; exact hjn))
      have HL : Hid ((l ++ twoT x) ++ x.data.toList = 52 :: encT (T.take (j + 1))) := by
        unfold Hid
        rw [hl, enc_next T j (by rw [HNT.out]; exact hjn), hx]
        simp
      have HTC : Hid (Lib.byteCells (twoT x) = [.int .u8 ((x.size : Int) / 256), .int .u8 (x.size : Int)]) := twoT_cells x hxs
      have OB : Hid (OwnB wr w.heap.size u3 l) := oB
      have OTT : Hid (OwnS wr BT (.slice (some ⟨xA, 0, none⟩) nT cT) T) := oT
      have hl2 : l.length ≤ 10000 := by omega
      have h00 : (0 : Int) ≤ (j : Int) := by omega
      clear hl hxa hxc hx oT
      go_wp2_with (at_builtin; refine wpList_append_own _ rfl _ _ 22 rfl w.heap.size 5 i0 _ 1 1 Tryz.underlying22 hi hz0 hz1 hz2 rfl (by decide) _ _ _ rfl (oB.alloc _) ⟨wr.heap.size, 0, none⟩ 2 2 [.int .u8 ((x.size : Int) / 256), .int .u8 (x.size : Int)] rfl rfl ?c1 ?c2 ?c3 ?c4 ?c5 ?_)
      case c1 =>
        intro i u hi
        rw [Addr.add_lit, Nat.zero_add]
        exact ((RowAt.new wr 5 #[.int .u8 ((x.size : Int) / 256), .int .u8 (x.size : Int)]).cell i).trans (by simpa using hi)
      case c2 => intro y hy; simp at hy; rcases hy with rfl | rfl <;> rfl
      case c3 => unfold maxLen; omega
      case c4 => omega
      case c5 => simp; omega
      intro v' w5 hown' hgrow _
      have O5 : OwnB w5 w.heap.size v' (l ++ twoT x) := by
        unfold OwnB
        rw [List.length_append, Lib.byteCells_append, HTC.out]
        exact hown'
      have T5 : Hid (OwnS w5 BT (.slice (some ⟨xA, 0, none⟩) nT cT) T) := texts_kept (OTT.out.alloc _) (oB.alloc _) hgrow
      have b5 : Hid (Below w.heap.size w w5) := below_own bk sk oB hgrow
      have s5 := b5.out.size
      have hl3 : (l ++ twoT x).length = l.length + 2 := by rw [List.length_append]; rfl
      clear hown' hgrow oB OB OTT HTC
      go_wp2_with (at_builtin; refine Lib.wpList_append_own_string _ rfl _ _ 22 9 rfl w.heap.size 5 i0 Tryz.underlying22 Tryz.underlying9 hi hz0 hz1 hz2 _ _ _ rfl O5 x rfl ?c3 ?c4 ?c5 ?_)
      case c3 => unfold maxLen; omega
      case c4 => omega
      case c5 => omega
      intro v6 w6 hown6 hgrow6 _
      have O6 : Hid (OwnB w6 w.heap.size v6 ((l ++ twoT x) ++ x.data.toList)) := by
        unfold Hid OwnB
        have e1 : x.data.toList.length = x.size := (Lib.size_eq x).symm
        rw [List.length_append, Lib.byteCells_append, hl3, e1]
        exact hown6
      have T6 : Hid (OwnS w6 BT (.slice (some ⟨xA, 0, none⟩) nT cT) T) := texts_kept T5.out O5 hgrow6
      have b6 : Hid (Below w.heap.size w w6) := b5.out.grown hgrow6 s5 (fun g hg => (own_lt O5 hg).1)
      have e1 : x.data.toList.length = x.size := (Lib.size_eq x).symm
      clear hown6 hgrow6 O5 T5 b5 bk
      go_wp2
      go_roundw
      case rel => exact ⟨j + 1, (l ++ twoT x) ++ x.data.toList, by omega, by go_num, HL.out, by rw [List.length_append, hl3, e1]; omega, O6.out, T6.out, b6.out⟩
      case measure => simp [intOf]; omega
    · have hji : ¬ (j : Int) < (nT : Int) := by omega
      have HE : Hid (l = 52 :: encT T) := by
        unfold Hid
        rw [hl, List.take_of_length_le (by rw [HNT.out]; omega)]
      have hlp : 0 < l.length := by rw [hl]; simp
      obtain ⟨A', cap', ho'⟩ := Go.Joins.ownsRow_form oB hlp
      subst ho'
      have hcv := conv_own oB
      have hl2 : l.length ≤ 10000 := by omega
      clear hl oT oB
      go_wp2
      go_ret
      exact ⟨ret_str (by rw [HE.out]), bk⟩

end Go.Proofs.YticajcagcdbgpaaGreatDoor
