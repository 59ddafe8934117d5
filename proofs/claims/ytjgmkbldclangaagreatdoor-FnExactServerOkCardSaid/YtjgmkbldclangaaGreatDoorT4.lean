/- The reading of a server that came in. -/
import Derived.Test.YtjgmkbldclangaaGreatDoorT3
import Derived.Deep.Strs
namespace Go.Proofs.YtjgmkbldclangaaGreatDoor
open Go.ChangeShapes Go.WideShapes Go.ChangeAt Go.WideMaps Go.WideElems Go.RowKit Go.Deep
open _root_.Go.Proofs.YtjgmkbldclangaaGreatDoor.Fd (ListsB SmallQ)
open Kk (Rk rk0 RanksIn RkAt FitL fitS)

theorem cells2 : Tryz.prog.cellsOf 2 = 1 := by kernel_rfl
theorem cells4 : Tryz.prog.cellsOf 4 = 1 := by kernel_rfl
theorem cells22 : Tryz.prog.cellsOf 22 = 1 := by kernel_rfl
theorem cells23 : Tryz.prog.cellsOf 23 = 1 := by kernel_rfl
theorem cells39 : Tryz.prog.cellsOf 39 = 1 := by kernel_rfl
theorem cells52 : Tryz.prog.cellsOf 52 = 1 := by kernel_rfl
theorem cells53 : Tryz.prog.cellsOf 53 = 1 := by kernel_rfl
theorem cells54 : Tryz.prog.cellsOf 54 = 1 := by kernel_rfl
theorem cells56 : Tryz.prog.cellsOf 56 = 5 := by kernel_rfl
theorem cells58 : Tryz.prog.cellsOf 58 = 7 := by kernel_rfl
theorem cells60 : Tryz.prog.cellsOf 60 = 5 := by kernel_rfl
theorem cells62 : Tryz.prog.cellsOf 62 = 6 := by kernel_rfl
theorem cells25 : Tryz.prog.cellsOf 25 = 3 := by kernel_rfl
theorem cells132 : Tryz.prog.cellsOf 132 = 2 := by kernel_rfl
theorem cells134 : Tryz.prog.cellsOf 134 = 2 := by kernel_rfl

theorem five_read {H : Type} {enc : TypeId × Value → H} {P : Program} {w : World} {base : Nat} {spare : Nat → Bool} {held : Bool} {t : TypeId} {f0 f1 f2 f3 f4 : Field} {fuel : Nat} {cs : List Value} {x : DataW H × List MemPlace} (ht : P.underlying t = some (.struct #[f0, f1, f2, f3, f4])) (h : DataW.trod enc P w base spare held fuel t cs = some x) :
    ∃ y0 y1 y2 y3 y4 n, DataW.trod enc P w base spare held n f0.type ((cs.drop f0.offset).take (P.cellsOf f0.type)) = some y0 ∧
      DataW.trod enc P w base spare held n f1.type ((cs.drop f1.offset).take (P.cellsOf f1.type)) = some y1 ∧ DataW.trod enc P w base spare held n f2.type ((cs.drop f2.offset).take (P.cellsOf f2.type)) = some y2 ∧
      DataW.trod enc P w base spare held n f3.type ((cs.drop f3.offset).take (P.cellsOf f3.type)) = some y3 ∧ DataW.trod enc P w base spare held n f4.type ((cs.drop f4.offset).take (P.cellsOf f4.type)) = some y4 := by
  obtain ⟨xs, n, _, rfl, hl, hlen, hf⟩ := DataW.trod_struct ht h
  match xs, hlen with
  | [y0, y1, y2, y3, y4], _ => exact ⟨y0, y1, y2, y3, y4, n, by simpa using hf 0 f0 rfl, by simpa using hf 1 f1 rfl, by simpa using hf 2 f2 rfl, by simpa using hf 3 f3 rfl, by simpa using hf 4 f4 rfl⟩

theorem three_read {H : Type} {enc : TypeId × Value → H} {P : Program} {w : World} {base : Nat} {spare : Nat → Bool} {held : Bool} {t : TypeId} {f0 f1 f2 : Field} {fuel : Nat} {cs : List Value} {x : DataW H × List MemPlace} (ht : P.underlying t = some (.struct #[f0, f1, f2])) (h : DataW.trod enc P w base spare held fuel t cs = some x) :
    ∃ y0 y1 y2 n, DataW.trod enc P w base spare held n f0.type ((cs.drop f0.offset).take (P.cellsOf f0.type)) = some y0 ∧
      DataW.trod enc P w base spare held n f1.type ((cs.drop f1.offset).take (P.cellsOf f1.type)) = some y1 ∧ DataW.trod enc P w base spare held n f2.type ((cs.drop f2.offset).take (P.cellsOf f2.type)) = some y2 := by
  obtain ⟨xs, n, _, rfl, hl, hlen, hf⟩ := DataW.trod_struct ht h
  match xs, hlen with
  | [y0, y1, y2], _ => exact ⟨y0, y1, y2, n, by simpa using hf 0 f0 rfl, by simpa using hf 1 f1 rfl, by simpa using hf 2 f2 rfl⟩

theorem two_read {H : Type} {enc : TypeId × Value → H} {P : Program} {w : World} {base : Nat} {spare : Nat → Bool} {held : Bool} {t : TypeId} {f0 f1 : Field} {fuel : Nat} {cs : List Value} {x : DataW H × List MemPlace} (ht : P.underlying t = some (.struct #[f0, f1])) (h : DataW.trod enc P w base spare held fuel t cs = some x) :
    ∃ y0 y1 n, DataW.trod enc P w base spare held n f0.type ((cs.drop f0.offset).take (P.cellsOf f0.type)) = some y0 ∧
      DataW.trod enc P w base spare held n f1.type ((cs.drop f1.offset).take (P.cellsOf f1.type)) = some y1 := by
  obtain ⟨xs, n, _, rfl, hl, hlen, hf⟩ := DataW.trod_struct ht h
  match xs, hlen with
  | [y0, y1], _ => exact ⟨y0, y1, n, by simpa using hf 0 f0 rfl, by simpa using hf 1 f1 rfl⟩

/-- A slice of structs that is read: each element's cells, and its own reading. -/
theorem row_of_read {H : Type} {enc : TypeId × Value → H} {W : World} {t e : TypeId} {k fuel : Nat} {v : Value} {y : DataW H × List MemPlace} (ht : Tryz.prog.underlying t = some (.slice e)) (hc : Tryz.prog.cellsOf e = k) (hk : 0 < k)
    (hf : DataW.trod enc Tryz.prog W 0 (fun _ => true) true fuel t [v] = some y) :
    ∃ a b off n c, v = .slice a n c ∧ (0 < n → a = some ⟨b, off, none⟩) ∧ (0 < n → b < W.heap.size) ∧ n ≤ 9223372036854775807 ∧
      ∀ i, i < n → ∃ cs q z, cs.length = k ∧ (∀ j, j < k → W.cell? ⟨b, off + i * k + j, none⟩ = cs[j]?) ∧ DataW.trod enc Tryz.prog W 0 (fun _ => true) true q e cs = some z := by
  rcases open_slice ht hf with ⟨hcs, _⟩ | ⟨x, l, c, m, q, D, Pl, hcs, _, hl, hm, hmm, _, hx⟩
  · simp at hcs
    exact ⟨none, 0, 0, 0, 0, hcs, fun h => by omega, fun h => by omega, by omega, fun i hi => by omega⟩
  · simp at hcs
    simp only [if_true] at hmm
    rw [hmm] at hx
    have hm' : c ≤ 9223372036854775807 := by simpa [maxLen] using hm
    by_cases h0 : l = 0
    · subst h0
      exact ⟨some x, 0, 0, 0, c, hcs, fun h => by omega, fun h => by omega, by omega, fun i hi => by omega⟩
    · obtain ⟨xb, xo, spot⟩ := x
      rw [hc] at hx
      have hspot : spot = none := by
        obtain ⟨cs', h1, _⟩ := hx 0 (by omega)
        obtain ⟨_, h2, h3⟩ := World.cells?_some h1
        have := h3 0 (by omega)
        rw [List.getElem?_eq_getElem (by omega)] at this
        simpa [Addr.add] using World.cell?_spot this
      subst hspot
      have each : ∀ i, i < l → ∃ cs q z, cs.length = k ∧ (∀ j, j < k → W.cell? ⟨xb, xo + i * k + j, none⟩ = cs[j]?) ∧ DataW.trod enc Tryz.prog W 0 (fun _ => true) true q e cs = some z := fun i hi => by
        obtain ⟨cs', h1, h2⟩ := hx i (by omega)
        obtain ⟨_, h3, h4⟩ := World.cells?_some h1
        exact ⟨cs', q, _, h3, fun j hj => by rw [← h4 j hj, Addr.add_lit, Addr.add_lit], h2⟩
      refine ⟨some ⟨xb, xo, none⟩, xb, xo, l, c, hcs, fun _ => rfl, fun _ => ?_, by omega, each⟩
      obtain ⟨cs, _, _, h1, h2, _⟩ := each 0 (by omega)
      have := h2 0 hk
      rw [List.getElem?_eq_getElem (by omega)] at this
      exact block_lt_of_cell this

theorem getD_map {α : Type} (n : Nat) (f : Nat → α) (d : α) (i : Nat) (hi : i < n) : ((List.range n).map f).getD i d = f i := by
  simp [List.getD, hi]

set_option maxRecDepth 100000 in
theorem ranks_of_read {H : Type} {enc : TypeId × Value → H} {W : World} {fuel : Nat} {v : Value} {y : DataW H × List MemPlace}
    (hf : DataW.trod enc Tryz.prog W 0 (fun _ => true) true fuel 54 [v] = some y) :
    ∃ (L : List Rk), (∃ a b off c, v = .slice a L.length c ∧ RanksIn W a b off L.length L) ∧ L.length ≤ 9223372036854775807 ∧ FitL L ∧ ∀ i, i < L.length → (L.getD i rk0).m.size ≤ 9223372036854775807 := by
  obtain ⟨a, b, off, n, c, hv, ha, hb, hn, hx⟩ := row_of_read Tryz.underlying54 cells134 (by omega) hf
  have each : ∀ i, i < n → ∃ y : Rk, RkAt W b (off + i * 2) y ∧ fitS y.s ∧ y.m.size ≤ 9223372036854775807 := fun i hi => by
    obtain ⟨cs, q, z, h3, h4, h2⟩ := hx i hi
    obtain ⟨y0, y1, q, t0, t1⟩ := two_read Tryz.underlying134 h2
    match cs, h3, h4, t0, t1 with
    | [v0, v1], _, h4, t0, t1 =>
      simp only [Fd.cells9, cells2] at t0 t1
      obtain ⟨s0, e0, _, hs0⟩ := DataW.trod_string Tryz.underlying9 t0
      obtain ⟨n1, e1, _, f1⟩ := DataW.trod_int Tryz.underlying2 t1
      simp at e0 e1
      subst e0 e1
      exact ⟨⟨s0, n1⟩, ⟨h4 0 (by omega), h4 1 (by omega)⟩, bounds_i64 f1, by simpa [maxLen] using hs0⟩
  obtain ⟨f, hfm⟩ := @choose_lt Rk ⟨rk0⟩ n _ each
  have hlen : ((List.range n).map f).length = n := by simp
  refine ⟨(List.range n).map f, ⟨a, b, off, c, by rw [hlen]; exact hv, ⟨rfl, fun h => ha (by rw [hlen] at h; exact h), fun h => hb (by rw [hlen] at h; exact h), fun i hi => ?_⟩⟩, by rw [hlen]; exact hn, fun y hy => ?_, fun i hi => ?_⟩
  · rw [hlen] at hi
    rw [getD_map n f rk0 i hi]
    exact (hfm i hi).1
  · obtain ⟨i, hi, rfl⟩ := List.mem_map.1 hy
    exact (hfm i (List.mem_range.1 hi)).2.1
  · rw [hlen] at hi
    rw [getD_map n f rk0 i hi]
    exact (hfm i hi).2.2

set_option maxRecDepth 100000 in
theorem pairs_of_read {H : Type} {enc : TypeId × Value → H} {W : World} {fuel : Nat} {v : Value} {y : DataW H × List MemPlace}
    (hf : DataW.trod enc Tryz.prog W 0 (fun _ => true) true fuel 53 [v] = some y) :
    ∃ (L : List Pr), (∃ a b off c, v = .slice a L.length c ∧ PrsIn W a b off L.length L) ∧ L.length ≤ 9223372036854775807 ∧ ∀ i, i < L.length → (L.getD i (bz, bz)).1.size ≤ 9223372036854775807 ∧ (L.getD i (bz, bz)).2.size ≤ 9223372036854775807 := by
  obtain ⟨a, b, off, n, c, hv, ha, hb, hn, hx⟩ := row_of_read Tryz.underlying53 cells132 (by omega) hf
  have each : ∀ i, i < n → ∃ y : Pr, (W.cell? ⟨b, off + i * 2, none⟩ = some (.string y.1) ∧ W.cell? ⟨b, off + i * 2 + 1, none⟩ = some (.string y.2)) ∧ y.1.size ≤ 9223372036854775807 ∧ y.2.size ≤ 9223372036854775807 := fun i hi => by
    obtain ⟨cs, q, z, h3, h4, h2⟩ := hx i hi
    obtain ⟨y0, y1, q, t0, t1⟩ := two_read Tryz.underlying132 h2
    match cs, h3, h4, t0, t1 with
    | [v0, v1], _, h4, t0, t1 =>
      simp only [Fd.cells9] at t0 t1
      obtain ⟨s0, e0, _, hs0⟩ := DataW.trod_string Tryz.underlying9 t0
      obtain ⟨s1, e1, _, hs1⟩ := DataW.trod_string Tryz.underlying9 t1
      simp at e0 e1
      subst e0 e1
      exact ⟨(s0, s1), ⟨h4 0 (by omega), h4 1 (by omega)⟩, by simpa [maxLen] using hs0, by simpa [maxLen] using hs1⟩
  obtain ⟨f, hfm⟩ := @choose_lt Pr ⟨(bz, bz)⟩ n _ each
  have hlen : ((List.range n).map f).length = n := by simp
  refine ⟨(List.range n).map f, ⟨a, b, off, c, by rw [hlen]; exact hv, ⟨rfl, fun h => ha (by rw [hlen] at h; exact h), fun h => hb (by rw [hlen] at h; exact h), fun i hi => ?_, fun i hi => ?_⟩⟩, by rw [hlen]; exact hn, fun i hi => ?_⟩
  · rw [hlen] at hi
    rw [getD_map n f (bz, bz) i hi]
    exact (hfm i hi).1.1
  · rw [hlen] at hi
    rw [getD_map n f (bz, bz) i hi]
    exact (hfm i hi).1.2
  · rw [hlen] at hi
    rw [getD_map n f (bz, bz) i hi]
    exact (hfm i hi).2

/-- A list of texts that is read. -/
theorem strs_of_read {H : Type} {enc : TypeId × Value → H} {W : World} {fuel : Nat} {v : Value} {y : DataW H × List MemPlace}
    (hf : DataW.trod enc Tryz.prog W 0 (fun _ => true) true fuel 52 [v] = some y) :
    ∃ p b off k, ∃ ss : List ByteArray, v = .slice p ss.length k ∧ StrsIn W p b off ss.length ss ∧ ss.length ≤ 9223372036854775807 := by
  rcases open_strs Tryz.underlying52 Tryz.underlying9 Fd.cells9 hf with ⟨hcs, _⟩ | ⟨a, l, c, m, Sx, hcs, _, hl, hm, hmm, _, hx⟩
  · simp at hcs
    exact ⟨none, 0, 0, 0, [], hcs, ⟨rfl, fun h => by simp at h, fun h => by simp at h, fun i hi => by simp at hi, fun i hi => by simp at hi⟩, by simp⟩
  · simp at hcs
    simp only [if_true] at hmm
    have hm' : c ≤ 9223372036854775807 := by simpa [maxLen] using hm
    have hlen : ((List.range l).map Sx).length = l := by simp
    have hget : ∀ i, i < l → ((List.range l).map Sx).getD i ByteArray.empty = Sx i := fun i hi => by simp [List.getD, hi]
    by_cases h0 : l = 0
    · subst h0
      exact ⟨some a, 0, 0, c, [], hcs, ⟨rfl, fun h => by simp at h, fun h => by simp at h, fun i hi => by simp at hi, fun i hi => by simp at hi⟩, by simp⟩
    · obtain ⟨ab, ao, spot⟩ := a
      have hspot : spot = none := by simpa [Addr.add] using World.cell?_spot (hx 0 (by omega)).1
      subst hspot
      have hc : ∀ i, i < l → W.cell? ⟨ab, ao + i, none⟩ = some (.string (Sx i)) := fun i hi => by
        rw [← (hx i (by omega)).1, Addr.add_lit]
      refine ⟨some ⟨ab, ao, none⟩, ab, ao, c, (List.range l).map Sx, by rw [hlen]; exact hcs, ⟨rfl, fun _ => rfl, fun _ => block_lt_of_cell (hc 0 (by omega)), fun i hi => ?_, fun i hi => ?_⟩, by rw [hlen]; omega⟩
      · rw [hlen] at hi
        rw [hget i hi]
        exact hc i hi
      · rw [hlen] at hi
        rw [hget i hi]
        simpa [maxLen] using (hx i (by omega)).2

/-- A list of lists of texts that is read. -/
theorem lists_of_read {H : Type} {enc : TypeId × Value → H} {W : World} {fuel : Nat} {v : Value} {y : DataW H × List MemPlace}
    (hf : DataW.trod enc Tryz.prog W 0 (fun _ => true) true fuel 39 [v] = some y) :
    ∃ Q : List (List ByteArray), ListsB W v Q ∧ Q.length ≤ 9223372036854775807 ∧ ∀ ss ∈ Q, ss.length ≤ 9223372036854775807 := by
  rcases open_slice1 Tryz.underlying39 cells52 hf with ⟨hcs, _⟩ | ⟨a, l, c, m, n, V, D, Pl, hcs, _, hl, hm, hmm, _, hx⟩
  · simp at hcs
    exact ⟨[], ⟨⟨none, 0, hcs⟩, fun i hi => by simp at hi⟩, by simp, fun ss h => by simp at h⟩
  · simp at hcs
    simp only [if_true] at hmm
    have hm' : c ≤ 9223372036854775807 := by simpa [maxLen] using hm
    by_cases h0 : l = 0
    · subst h0
      exact ⟨[], ⟨⟨some a, c, hcs⟩, fun i hi => by simp at hi⟩, by simp, fun ss h => by simp at h⟩
    · obtain ⟨ab, ao, spot⟩ := a
      have hspot : spot = none := by simpa [Addr.add] using World.cell?_spot (hx 0 (by omega)).1
      subst hspot
      obtain ⟨f, hfm⟩ := @choose_lt (List ByteArray) ⟨[]⟩ l (fun i ss => (∃ p b off k, V i = .slice p ss.length k ∧ Fd.StrsIn W p b off ss.length ss) ∧ ss.length ≤ 9223372036854775807) (fun i hi => by
        obtain ⟨p, b, off, k, ss, h1, h2, h3⟩ := strs_of_read (hx i (by omega)).2
        exact ⟨ss, ⟨p, b, off, k, h1, strs_fd h2⟩, h3⟩)
      have hc : ∀ i, i < l → W.cell? ⟨ab, ao + i, none⟩ = some (V i) := fun i hi => by
        rw [← (hx i (by omega)).1, Addr.add_lit]
      have hlen : ((List.range l).map f).length = l := by simp
      refine ⟨(List.range l).map f, ⟨⟨some ⟨ab, ao, none⟩, c, by rw [hlen]; exact hcs⟩, fun i hi => ?_⟩, by rw [hlen]; omega, fun ss hss => ?_⟩
      · have hi' : i < l := by rw [hlen] at hi; exact hi
        obtain ⟨⟨p, b, off, k, h1, h2⟩, _⟩ := hfm i hi'
        have eg : ((List.range l).map f)[i] = f i := by simp
        rw [eg]
        exact ⟨ab, ao, c, p, b, off, k, by rw [hlen]; exact hcs, block_lt_of_cell (hc i hi'), by rw [hc i hi', h1], h2⟩
      · obtain ⟨i, hi, rfl⟩ := List.mem_map.1 hss
        exact (hfm i (List.mem_range.1 hi)).2

set_option maxRecDepth 100000 in
theorem value_of_read {H : Type} {enc : TypeId × Value → H} {W : World} {fuel : Nat} {c0 c1 c2 c3 c4 : Value} {y : DataW H × List MemPlace}
    (hf : DataW.trod enc Tryz.prog W 0 (fun _ => true) true fuel 56 [c0, c1, c2, c3, c4] = some y) :
    ∃ v : Vl, c0 = .int .i64 v.kind ∧ c1 = .string v.text ∧ VIn W v c2 c3 c4 ∧ VLen v ∧ FitL v.ranks := by
  obtain ⟨y0, y1, y2, y3, y4, n, t0, t1, t2, t3, t4⟩ := five_read Tryz.underlying56 hf
  simp only [cells2, Fd.cells9, cells52, cells53, cells54] at t0 t1 t2 t3 t4
  obtain ⟨k, e0, _, _⟩ := DataW.trod_int Tryz.underlying2 t0
  obtain ⟨s, e1, _, hs⟩ := DataW.trod_string Tryz.underlying9 t1
  simp at e0 e1 t2 t3 t4
  obtain ⟨a, b, off, c, is, h1, h2, h3⟩ := strs_of_read t2
  obtain ⟨ps, hp, hpn, hpl⟩ := pairs_of_read t3
  obtain ⟨rs, hr, hrn, hrf, hrl⟩ := ranks_of_read t4
  exact ⟨⟨k, s, is, ps, rs⟩, e0, e1, ⟨⟨a, b, off, c, h1, h2⟩, hp, hr⟩, ⟨by simpa [maxLen] using hs, h3, hpn, hrn, hpl, hrl⟩, hrf⟩

set_option maxRecDepth 100000 in
theorem keys_of_read {H : Type} {enc : TypeId × Value → H} {W : World} {fuel : Nat} {v : Value} {y : DataW H × List MemPlace}
    (hf : DataW.trod enc Tryz.prog W 0 (fun _ => true) true fuel 22 [v] = some y) :
    ∃ (a : Option Addr) (n c : Nat) (L : List KV), v = .slice a n c ∧ (∃ b off, KeysIn W a b off n L) ∧ n ≤ 9223372036854775807 ∧ (∀ i, i < n → KLen (L.getD i kv0).key) ∧ ∀ i, i < n → FitL (L.getD i kv0).key.val.ranks := by
  obtain ⟨a, b, off, n, c, hv, ha, hb, hn, hx⟩ := row_of_read Tryz.underlying22 cells58 (by omega) hf
  have each : ∀ i, i < n → ∃ y : KV, KeAt W b (off + i * 7) y ∧ VIn W y.key.val y.vi y.vp y.vr ∧ KLen y.key ∧ FitL y.key.val.ranks := fun i hi => by
    obtain ⟨cs, q, z, h3, h4, h2⟩ := hx i hi
    obtain ⟨y0, y1, y2, q, t0, t1, t2⟩ := three_read Tryz.underlying58 h2
    match cs, h3, h4, t0, t1, t2 with
    | [v0, v1, v2, v3, v4, v5, v6], _, h4, t0, t1, t2 =>
      simp only [Fd.cells9, cells2, cells56] at t0 t1 t2
      obtain ⟨s0, e0, _, hs0⟩ := DataW.trod_string Tryz.underlying9 t0
      obtain ⟨d, e2, _, _⟩ := DataW.trod_int Tryz.underlying2 t2
      simp at e0 e2 t1
      obtain ⟨vl, k0, k1, hin, hln, hft⟩ := value_of_read t1
      subst e0 e2 k0 k1
      exact ⟨⟨⟨s0, vl, d⟩, v3, v4, v5⟩, ⟨h4 0 (by omega), h4 1 (by omega), h4 2 (by omega), h4 3 (by omega), h4 4 (by omega), h4 5 (by omega), h4 6 (by omega)⟩, hin, ⟨by simpa [maxLen] using hs0, hln⟩, hft⟩
  obtain ⟨f, hfm⟩ := @choose_lt KV ⟨kv0⟩ n _ each
  have hlen : ((List.range n).map f).length = n := by simp
  refine ⟨a, n, c, (List.range n).map f, hv, ⟨b, off, hlen, ha, hb, fun i hi => ?_, fun i hi => ?_⟩, hn, fun i hi => ?_, fun i hi => ?_⟩
  · rw [getD_map n f kv0 i hi]; exact (hfm i hi).1
  · rw [getD_map n f kv0 i hi]; exact (hfm i hi).2.1
  · rw [getD_map n f kv0 i hi]; exact (hfm i hi).2.2.1
  · rw [getD_map n f kv0 i hi]; exact (hfm i hi).2.2.2

set_option maxRecDepth 100000 in
theorem clients_of_read {H : Type} {enc : TypeId × Value → H} {W : World} {fuel : Nat} {v : Value} {y : DataW H × List MemPlace}
    (hf : DataW.trod enc Tryz.prog W 0 (fun _ => true) true fuel 23 [v] = some y) :
    ∃ (a : Option Addr) (n c : Nat) (L : List CV), v = .slice a n c ∧ (∃ b off, ClsIn W a b off n L) ∧ n ≤ 9223372036854775807 ∧ ∀ i, i < n → ClLen (L.getD i cv0).cl := by
  obtain ⟨a, b, off, n, c, hv, ha, hb, hn, hx⟩ := row_of_read Tryz.underlying23 cells62 (by omega) hf
  have each : ∀ i, i < n → ∃ y : CV, ClAt W b (off + i * 6) y ∧ ListsB W y.q y.cl.Q ∧ ClLen y.cl := fun i hi => by
    obtain ⟨cs, q, z, h3, h4, h2⟩ := hx i hi
    obtain ⟨y0, y1, q, t0, t1⟩ := two_read Tryz.underlying62 h2
    match cs, h3, h4, t0, t1 with
    | [v0, v1, v2, v3, v4, v5], _, h4, t0, t1 =>
      simp only [cells2, cells60] at t0 t1
      obtain ⟨d, e0, _, _⟩ := DataW.trod_int Tryz.underlying2 t0
      simp at e0 t1
      obtain ⟨x0, x1, x2, x3, x4, m, u0, u1, u2, u3, u4⟩ := five_read Tryz.underlying60 t1
      simp only [cells4, Fd.cells9, cells39] at u0 u1 u2 u3 u4
      obtain ⟨s, f0, _, hs⟩ := DataW.trod_string Tryz.underlying9 u0
      obtain ⟨mu, f1, _⟩ := DataW.trod_bool Tryz.underlying4 u1
      obtain ⟨dy, f3, _⟩ := DataW.trod_bool Tryz.underlying4 u3
      obtain ⟨dd, f4, _⟩ := DataW.trod_bool Tryz.underlying4 u4
      simp at f0 f1 f3 f4 u2
      subst e0 f0 f1 f3 f4
      obtain ⟨Q, hQ, hn, hq⟩ := lists_of_read u2
      exact ⟨⟨⟨d, s, mu, Q, dy, dd⟩, v3⟩, ⟨h4 0 (by omega), h4 1 (by omega), h4 2 (by omega), h4 3 (by omega), h4 4 (by omega), h4 5 (by omega)⟩, hQ, ⟨by simpa [maxLen] using hs, hn, hq⟩⟩
  obtain ⟨f, hfm⟩ := @choose_lt CV ⟨cv0⟩ n _ each
  have hlen : ((List.range n).map f).length = n := by simp
  refine ⟨a, n, c, (List.range n).map f, hv, ⟨b, off, hlen, ha, hb, fun i hi => ?_, fun i hi => ?_⟩, hn, fun i hi => ?_⟩
  · rw [getD_map n f cv0 i hi]; exact (hfm i hi).1
  · rw [getD_map n f cv0 i hi]; exact (hfm i hi).2.1
  · rw [getD_map n f cv0 i hi]; exact (hfm i hi).2.2

theorem array3 {α : Type} {cs : Array α} (h : cs.size = 3) : ∃ c0 c1 c2, cs = #[c0, c1, c2] := by
  obtain ⟨l⟩ := cs
  match l, h with
  | [c0, c1, c2], _ => exact ⟨c0, c1, c2, rfl⟩

set_option maxHeartbeats 1000000 in
set_option maxRecDepth 100000 in
/-- A server that came in. -/
theorem server_of_open {H : Type} {enc : TypeId × Value → H} {W : World} {r : Reach} {b0 : Nat} {v : Value} {d : DataW H} {p : List MemPlace}
    (hv : Value.okWide Tryz.prog W r b0 25 v) (h : DataW.Trod enc Tryz.prog W 0 (fun _ => true) true 25 v d p) :
    ∃ a1 n1 c1 now a2 n2 c2 L C, v = .agg #[.slice a1 n1 c1, .int .i64 now, .slice a2 n2 c2] ∧ SvIn W a1 n1 a2 n2 L C ∧ SvLen n1 n2 L C ∧ ∀ i, i < n1 → FitL (L.getD i kv0).key.val.ranks := by
  obtain ⟨cs, rfl, hsz⟩ := okWide_struct Tryz.underlying25 hv
  obtain ⟨c0, c1, c2, rfl⟩ := array3 (hsz.trans cells25)
  obtain ⟨fuel, hf⟩ := h
  obtain ⟨y0, y1, y2, n, t0, t1, t2⟩ := three_read Tryz.underlying25 hf
  simp only [cells2, cells22, cells23, Value.cells] at t0 t1 t2
  obtain ⟨m, e1, _, _⟩ := DataW.trod_int Tryz.underlying2 t1
  simp at e1 t0 t2
  subst e1
  obtain ⟨a1, n1, k1, L, h1, h2, h3, h4, h5⟩ := keys_of_read t0
  obtain ⟨a2, n2, k2, C, g1, g2, g3, g4⟩ := clients_of_read t2
  subst h1 g1
  exact ⟨a1, n1, k1, m, a2, n2, k2, L, C, rfl, ⟨h2, g2⟩, ⟨h3, g3, h4, g4⟩, h5⟩
end Go.Proofs.YtjgmkbldclangaaGreatDoor
