/- Whether texts, items and pairs are right: the program's look. -/
import Derived.Test.YticajcagcdbgpaaGreatDoorV3
import Derived.Deep.RegionHeld3
namespace Go.Proofs.YticajcagcdbgpaaGreatDoor
open Go.RowKit Go.Sort
open Kk (Rk rk0 texL texR decS scoreB rightB ranksB OwnR flatR encR)

theorem short_all (T : List ByteArray) : (List.range T.length).all (Kk.shortAt T) = T.all shortB := Kk.range_all T ByteArray.empty shortB

theorem ownS_cells {w : World} {B : Nat} {v : Value} {T : List ByteArray} (h : OwnS w B v T) : ∃ a A c, v = .slice a T.length c ∧ (0 < T.length → a = some ⟨A, 0, none⟩ ∧ B ≤ A ∧ A < w.heap.size) ∧ T.length ≤ c ∧ c ≤ 9223372036854775807 ∧ ∀ i, i < T.length → w.cell? ⟨A, i, none⟩ = some (.string (T.getD i ByteArray.empty)) := by
  obtain ⟨h1, ⟨h2, h3⟩ | ⟨g, cap, cur, rfl, q1, q2, q3, q4, q5⟩⟩ := h
  · refine ⟨none, 0, 0, by rw [h2, h3], fun h => by omega, by omega, by omega, fun i hi => by omega⟩
  · have h : OwnS w B (.slice (some ⟨g, 0, none⟩) T.length cap) T := ⟨h1, .inr ⟨g, cap, cur, rfl, q1, q2, q3, q4, q5⟩⟩
    refine ⟨some ⟨g, 0, none⟩, g, cap, rfl, fun _ => ⟨rfl, (own_lt h rfl).1, (own_lt h rfl).2⟩, q3, by simpa [maxLen] using q4, fun i hi => ?_⟩
    have := World.ownsRow.cells h rfl i (.string (T.getD i ByteArray.empty)) (by
      rw [List.getD_eq_getElem?_getD, List.getElem?_eq_getElem hi]
      simp [strV, hi])
    rwa [Addr.add_lit, Nat.zero_add] at this

theorem ownS_in {w : World} {B : Nat} {v : Value} {T : List ByteArray} (h : OwnS w B v T) (hz : ∀ t ∈ T, t.size ≤ 1048576) : ∃ a A c, v = .slice a T.length c ∧ StrsIn w a A 0 T.length T ∧ T.length ≤ c ∧ c ≤ 9223372036854775807 := by
  obtain ⟨a, A, c, h1, h2, h3, h4, h5⟩ := ownS_cells h
  refine ⟨a, A, c, h1, ⟨rfl, fun hp => (h2 hp).1, fun hp => (h2 hp).2.2, fun i hi => by rw [Nat.zero_add]; exact h5 i hi, fun i hi => ?_⟩, h3, h4⟩
  have := hz (T.getD i ByteArray.empty) (by rw [List.getD_eq_getElem?_getD, List.getElem?_eq_getElem hi]; simp)
  omega

/-- bulksOk at texts that a slice owns. -/
theorem bulks_own {w : World} {B : Nat} {v : Value} {T : List ByteArray} (h : OwnS w B v T) (hn : T.length ≤ 1048577) : Calls Tryz.prog 93 #[v] w fun e w' => e = .returned (.bool (T.all shortB)) ∧ w' = w := by
  obtain ⟨a, A, c, rfl, h2, _, _, h5⟩ := ownS_cells h
  have := Kk.bulks_any a A T.length c T w (fun hp => (h2 hp).1) h5 hn
  rw [short_all] at this
  exact this

theorem bare_right (t : ByteArray) (w : World) : Calls Tryz.prog 91 #[.string t] w fun e w' => e = .returned (.bool (shortB t)) ∧ Below w.heap.size w w' := by
  have ho : OwnS (w.alloc (.cells #[.string t] 9)) w.heap.size (.slice (some ⟨w.heap.size, 0, none⟩) 1 1) [t] := ⟨rfl, .inr ⟨w.heap.size, 1, #[.string t], rfl, Nat.le_refl _, RowAt.new w 9 #[.string t], by simp, by unfold maxLen; omega, by simp, by simp [strV]⟩⟩
  have hb : Below w.heap.size w (w.alloc (.cells #[.string t] 9)) := (Below.refl _ w).alloc (Nat.le_refl _) _
  have HC : Hid (Calls Tryz.prog 93 #[.slice (some ⟨w.heap.size, 0, none⟩) 1 1] (w.alloc (.cells #[.string t] 9)) fun e w' => e = .returned (.bool (shortB t)) ∧ w' = w.alloc (.cells #[.string t] 9)) := by
    have := bulks_own ho (by simp)
    have e : [t].all shortB = shortB t := by simp
    rw [e] at this
    exact this
  have HT : Hid (Calls Tryz.prog 92 #[.string t] w fun e w' => e = .returned (.slice (some ⟨w.heap.size, 0, none⟩) 1 1) ∧ w' = w.alloc (.cells #[.string t] 9)) := by
    unfold Hid
    go_enter Tryz.func92, Tryz.ntmps92
    go_wp2
    go_ret
    exact ⟨rfl, rfl⟩
  generalize shortB t = o at *
  clear ho
  go_enter Tryz.func91, Tryz.ntmps91
  go_wp2_with fail
  refine HT.out.mono ?_
  rintro e w1 ⟨rfl, rfl⟩
  go_wp2_with fail
  refine HC.out.mono ?_
  rintro e w2 ⟨rfl, rfl⟩
  go_wp2
  go_ret
  exact ⟨rfl, hb⟩

theorem items_right {w : World} {B : Nat} {v : Value} {T : List ByteArray} (h : OwnS w B v T) (hn : T.length ≤ 1048577) : Calls Tryz.prog 94 #[v] w fun e w' => e = .returned (.bool (itemsB T)) ∧ w' = w := by
  have HB : Hid (Calls Tryz.prog 93 #[v] w fun e w' => e = .returned (.bool (T.all shortB)) ∧ w' = w) := bulks_own h hn
  have HT : Hid (Calls Tryz.prog 95 #[v] w fun e w' => e = .returned v ∧ w' = w) := by
    unfold Hid
    go_enter Tryz.func95, Tryz.ntmps95
    go_wp2
    go_ret
    exact ⟨rfl, rfl⟩
  have HC : Hid (Calls Tryz.prog 96 #[.int .i64 T.length] w fun e w' => e = .returned (.bool (countB T.length)) ∧ w' = w) := Kk.count_any T.length w
  obtain ⟨a, c, hv⟩ := owns_form h
  have HE : Hid (itemsB T = (countB T.length && T.all shortB)) := rfl
  generalize T.all shortB = o2 at *
  generalize countB T.length = o1 at *
  generalize T.length = n at *
  subst hv
  clear h
  cases o1 with
  | false =>
    have HE2 : Hid (itemsB T = false) := by unfold Hid; rw [HE.out]; rfl
    go_enter Tryz.func94, Tryz.ntmps94
    go_wp2_with fail
    refine HC.out.mono ?_
    rintro e w1 ⟨rfl, rfl⟩
    go_wp2
    go_ret
    exact ⟨ret_bool HE2.out.symm, rfl⟩
  | true =>
    have HE2 : Hid (itemsB T = o2) := by unfold Hid; rw [HE.out]; rfl
    go_enter Tryz.func94, Tryz.ntmps94
    go_wp2_with fail
    refine HC.out.mono ?_
    rintro e w1 ⟨rfl, rfl⟩
    go_wp2_with fail
    refine HT.out.mono ?_
    rintro e w2 ⟨rfl, rfl⟩
    go_wp2_with fail
    refine HB.out.mono ?_
    rintro e w3 ⟨rfl, rfl⟩
    go_wp2
    go_ret
    exact ⟨ret_bool HE2.out.symm, rfl⟩

/-- Pairs in memory. -/
structure PairsIn (w : World) (a : Option Addr) (b n : Nat) (ps : List Pr) : Prop where
  len : ps.length = n
  addr : 0 < n → a = some ⟨b, 0, none⟩
  low : 0 < n → b < w.heap.size
  c0 : ∀ i, i < n → w.cell? ⟨b, i * 2, none⟩ = some (.string (ps.getD i (bz, bz)).1)
  c1 : ∀ i, i < n → w.cell? ⟨b, i * 2 + 1, none⟩ = some (.string (ps.getD i (bz, bz)).2)

theorem PairsIn.below {w w' : World} {a : Option Addr} {b n : Nat} {ps : List Pr} (h : PairsIn w a b n ps) (hb : Below w.heap.size w w') : PairsIn w' a b n ps :=
  ⟨h.len, h.addr, fun h0 => by have := h.low h0; have := hb.size; omega, fun i hi => (hb.cell (p := ⟨b, i * 2, none⟩) (h.low (by omega))).trans (h.c0 i hi), fun i hi => (hb.cell (p := ⟨b, i * 2 + 1, none⟩) (h.low (by omega))).trans (h.c1 i hi)⟩

theorem flatPV_at : ∀ (ps : List Pr) (i : Nat), i < ps.length → (flatPV ps)[i * 2]? = some (.string (ps.getD i (bz, bz)).1) ∧ (flatPV ps)[i * 2 + 1]? = some (.string (ps.getD i (bz, bz)).2)
  | [], i, h => by simp at h
  | p :: ps, 0, _ => ⟨rfl, rfl⟩
  | p :: ps, i + 1, h => by
    have ih := flatPV_at ps i (by simpa using h)
    have e : flatPV (p :: ps) = .string p.1 :: .string p.2 :: flatPV ps := rfl
    rw [e, show (i + 1) * 2 = i * 2 + 1 + 1 from by omega]
    simpa using ih

theorem ownP_in {w : World} {B : Nat} {v : Value} {ps : List Pr} (h : OwnP w B v ps) : ∃ a A c, v = .slice a ps.length c ∧ PairsIn w a A ps.length ps := by
  rcases Joins.ownsRow_forms h with ⟨h1, h2⟩ | ⟨A, c, hv⟩
  · exact ⟨none, 0, 0, by rw [h1, h2], ⟨rfl, fun h => by omega, fun h => by omega, fun i hi => by omega, fun i hi => by omega⟩⟩
  · subst hv
    refine ⟨some ⟨A, 0, none⟩, A, c, rfl, ⟨rfl, fun _ => rfl, fun _ => (own_lt h rfl).2, fun i hi => ?_, fun i hi => ?_⟩⟩
    · have := World.ownsRow.cells h rfl (i * 2) _ (flatPV_at ps i hi).1
      rwa [Addr.add_lit, Nat.zero_add] at this
    · have := World.ownsRow.cells h rfl (i * 2 + 1) _ (flatPV_at ps i hi).2
      rwa [Addr.add_lit, Nat.zero_add] at this

theorem flatP_next (ps : List Pr) (k : Nat) (h : k < ps.length) : flatP (ps.take (k + 1)) = flatP (ps.take k) ++ [(ps.getD k (bz, bz)).1, (ps.getD k (bz, bz)).2] := by
  unfold flatP
  rw [List.take_succ_eq_append_getElem h, List.flatMap_append, List.getD_eq_getElem?_getD, List.getElem?_eq_getElem h]
  simp

theorem flatP_len (ps : List Pr) : (flatP ps).length = 2 * ps.length := by
  induction ps with
  | nil => rfl
  | cons p ps ih =>
    have e : flatP (p :: ps) = p.1 :: p.2 :: flatP ps := rfl
    rw [e, List.length_cons, List.length_cons, ih, List.length_cons]
    omega

set_option maxHeartbeats 4000000 in
set_option maxRecDepth 100000 in
theorem pair_texts (a : Option Addr) (b n c : Nat) (ps : List Pr) (w : World) (h : PairsIn w a b n ps) (hn : n ≤ 1048577) :
    Calls Tryz.prog 98 #[.slice a n c] w fun e w' => ∃ v, e = .returned v ∧ OwnS w' w.heap.size v (flatP ps) ∧ Below w.heap.size w w' := by
  obtain ⟨i0, hi, hz0, hz1, hz2⟩ := info_parts info9
  have H : Hid (PairsIn w a b n ps) := h
  have HL : Hid (ps.length = n) := h.len
  clear h
  go_enter Tryz.func98, Tryz.ntmps98
  go_wp2
  go_loopw [3, 8] (fun v i wr => ∃ (k : Nat), k ≤ n ∧ i = .int .i64 k ∧ OwnS wr w.heap.size v (flatP (ps.take k)) ∧ Below w.heap.size w wr) (fun _ i _ => n - (intOf i).toNat)
  case atStart => exact ⟨0, by omega, rfl, ownS_nil _ _, Below.refl _ _⟩
  case round =>
    obtain ⟨k, hk, rfl, hown, bk⟩ := hrel
    have sk := bk.size
    by_cases hlt : k < n
    · have HW := H.out.below bk
      have d0 := HW.c0 k hlt
      have d1 := HW.c1 k hlt
      obtain rfl := HW.addr (by omega)
      have HN : Hid (flatP (ps.take (k + 1)) = flatP (ps.take k) ++ [(ps.getD k (bz, bz)).1, (ps.getD k (bz, bz)).2]) := flatP_next ps k (by rw [HL.out]; exact hlt)
      have htl : (flatP (ps.take k)).length ≤ 2097154 := by rw [flatP_len, List.length_take]; omega
      generalize ps.getD k (bz, bz) = y at *
      obtain ⟨p, q⟩ := y
      have HN2 : Hid (flatP (ps.take (k + 1)) = flatP (ps.take k) ++ [p, q]) := HN.out
      dsimp only at d0 d1
      generalize flatP (ps.take k) = T at *
      clear HW HN
      have b1 : Below w.heap.size w (wr.alloc (.cells #[.string p, .string q] 52)) := bk.alloc sk _
      have b01 : Below wr.heap.size wr (wr.alloc (.cells #[.string p, .string q] 52)) := (Below.refl _ wr).alloc (Nat.le_refl _) _
      have o1 : OwnS (wr.alloc (.cells #[.string p, .string q] 52)) w.heap.size u3 T := owns_below hown b01
      have s1 := b01.size
      go_wp2_with (at_builtin; refine wpList_append_own _ rfl _ _ 24 rfl w.heap.size 9 i0 _ 1 16 Tryz.underlying24 hi hz0 hz1 hz2 rfl (by decide) _ _ _ rfl (o1.alloc _) ⟨(wr.alloc (.cells #[.string p, .string q] 52)).heap.size, 0, none⟩ 2 2 [.string p, .string q] (by simp [Act.eval]) rfl ?c1 ?c2 ?c3 ?c4 ?c5 ?_)
      case c1 =>
        intro j u hj
        rw [Addr.add_lit, Nat.zero_add]
        exact ((RowAt.new (wr.alloc (.cells #[.string p, .string q] 52)) 9 #[.string p, .string q]).cell j).trans (by simpa using hj)
      case c2 => intro y hy; simp at hy; rcases hy with rfl | rfl <;> rfl
      case c3 => unfold maxLen; omega
      case c4 => omega
      case c5 => simp; omega
      intro v' w5 hown' hgrow _
      have b05 : Hid (Below w.heap.size w w5) := below_own b1 (by omega) o1 hgrow
      have O5 : Hid (OwnS w5 w.heap.size v' (T ++ [p, q])) := by
        unfold Hid OwnS
        rw [List.length_append, strV_app]
        exact hown'
      clear hown' hgrow o1 b1 bk hown b01
      go_wp2
      go_roundw
      case rel => exact ⟨k + 1, by omega, by go_num, by rw [HN2.out]; exact O5.out, b05.out⟩
      case measure => simp [intOf]; omega
    · obtain rfl : k = n := by omega
      have HE : Hid (ps.take k = ps) := by unfold Hid; rw [← HL.out]; exact List.take_length
      rw [HE.out] at hown
      have HO : Hid _ := hown
      clear hown
      go_wp2
      go_ret
      exact ⟨_, rfl, HO.out, bk⟩
end Go.Proofs.YticajcagcdbgpaaGreatDoor
