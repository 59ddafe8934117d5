/- The program's Drop. -/
import Derived.Test.YtjjpplpdpldkeaaHDropM
import Derived.Lib.SliceRun
namespace Go.Proofs.Ytjjpplpdpldkeaa
open Go.RowKit Go.Sort

/-- Some cells of a row, put anew. -/
theorem setCells_row (g : Nat) (T : TypeId) : ∀ (vs : List Value) (o : Nat) (w : World) (C : Array Value), RowAt w g T C → o + vs.length ≤ C.size →
    ∃ C', C'.size = C.size ∧ RowAt (w.setCells g o vs) g T C' ∧ ∀ i, C'[i]? = if o ≤ i ∧ i < o + vs.length then vs[i - o]? else C[i]?
  | [], o, w, C, h, _ => ⟨C, rfl, h, fun i => by rw [if_neg (by rintro ⟨h1, h2⟩; rw [List.length_nil] at h2; omega)]⟩
  | v :: vs, o, w, C, h, hl => by
    simp only [List.length_cons] at hl ⊢
    obtain ⟨C', h1, h2, h3⟩ := setCells_row g T vs (o + 1) (w.setCell ⟨g, o, none⟩ v) (C.setIfInBounds o v) (h.set o v) (by rw [Array.size_setIfInBounds]; omega)
    refine ⟨C', by rw [h1, Array.size_setIfInBounds], h2, fun i => ?_⟩
    rw [h3 i]
    by_cases hio : i = o
    · subst hio
      rw [if_neg (by omega), if_pos (by omega), Nat.sub_self, Array.getElem?_setIfInBounds_self_of_lt (by omega)]
      rfl
    · by_cases hin : o + 1 ≤ i ∧ i < o + 1 + vs.length
      · rw [if_pos hin, if_pos (by omega), show i - o = (i - (o + 1)) + 1 from by omega, List.getElem?_cons_succ]
      · rw [if_neg hin, if_neg (by omega), Array.getElem?_setIfInBounds_ne (fun e => hio e.symm)]

theorem setCells_grown (g : Nat) : ∀ (vs : List Value) (o : Nat) (w : World), w.grownBy (w.setCells g o vs) (some g)
  | [], _, w => grown_refl w _
  | v :: vs, o, w => by
    have h := setCells_grown g vs (o + 1) (w.setCell ⟨g, o, none⟩ v)
    have hs : (w.setCell ⟨g, o, none⟩ v).heap.size = w.heap.size := by simp [World.setCell]
    exact ⟨h.os, h.tape, h.output, hs ▸ h.size, fun j hj hne => (h.block j (by rw [hs]; exact hj) hne).trans (Below.heap_setCell _ _ _ _ (fun e => hne (by rw [e])))⟩

theorem Arena.cleared {w : World} {g n P W : Nat} {s : ByteArray} {t : Nat → Bool} {cs : Value} (h : Arena w g (byteAt s) t n cs) (hn : P + W ≤ 3000) : Arena (w.setCells g P (List.replicate W (.int .u8 0))) g (dPut s P (dataZ W)) t n cs := by
  obtain ⟨C, hr, hsz, hd, ht, hs, hc⟩ := h.row
  obtain ⟨C', h1, h2, h3⟩ := setCells_row g 64 (List.replicate W (.int .u8 0)) P w C hr (by rw [List.length_replicate]; omega)
  rw [List.length_replicate] at h3
  refine ⟨C', h2, by rw [h1, hsz], fun i hi => ?_, fun i hi => ?_, ?_, ?_⟩
  · rw [h3 i]
    by_cases hin : P ≤ i ∧ i < P + W
    · rw [if_pos hin, List.getElem?_replicate, if_pos (by omega), dPut, if_pos (by rw [dataZ_size]; exact hin)]
      have : byteAt (dataZ W) (i - P) = 0 := by
        unfold byteAt dataZ
        rw [List.getD_eq_getElem?_getD]
        show (((List.range W).map fun _ => (0 : UInt8))[i - P]?).getD 0 = 0
        rw [List.getElem?_map, List.getElem?_range (by omega)]
        rfl
      rw [this]
      rfl
    · rw [if_neg hin, hd i hi, dPut, if_neg (by rw [dataZ_size]; exact hin)]
  · rw [h3, if_neg (by omega), ht i hi]
  · rw [h3, if_neg (by omega), hs]
  · rw [h3, if_neg (by omega), hc]

/-- A cell that is no more: its Gen stays. -/
abbrev goneCell (w : World) (q : Nat) : World := ((w.setCell ⟨q, 0, none⟩ (.int .i64 0)).setCell ⟨q, 1, none⟩ (.int .i64 0)).setCell ⟨q, 3, none⟩ (.bool false)

theorem goneCell_other (w : World) (q j : Nat) (h : j ≠ q) : (goneCell w q).heap[j]? = w.heap[j]? :=
  (Below.heap_setCell _ _ _ _ (by simpa using h)).trans ((Below.heap_setCell _ _ _ _ (by simpa using h)).trans (Below.heap_setCell _ _ _ _ (by simpa using h)))

theorem goneCell_row {w : World} {q : Nat} {y : Cl} (h : RowAt w q 35 (clV y)) : RowAt (goneCell w q) q 35 (clV ⟨0, 0, y.gen, false⟩) := by
  have := ((h.set 0 (.int .i64 0)).set 1 (.int .i64 0)).set 3 (.bool false)
  simpa using this

/-- An arena one of whose cells is another one then, and nothing else. -/
theorem openC_upd {w w' : World} {g n k : Nat} {d : Nat → UInt8} {t : Nat → Bool} {L : List Cl} {cs : Value} {ps : List Nat} (x : Cl) (ha : Arena w g d t n cs) (ho : w.ownsRow (g + 1) 59 1 cs L.length (ps.map ptrV)) (hpl : ps.length = L.length)
    (hpc : ∀ i, i < L.length → g < ps.getD i 0 ∧ RowAt w (ps.getD i 0) 35 (clV (L.getD i cl0))) (hpn : ps.Nodup) (hk : k < L.length) (hg : w.grownBy w' (some (ps.getD k 0))) (hx : RowAt w' (ps.getD k 0) 35 (clV x)) :
    Arena w' g d t n cs ∧ w'.ownsRow (g + 1) 59 1 cs L.length (ps.map ptrV) ∧ ∀ i, i < L.length → g < ps.getD i 0 ∧ RowAt w' (ps.getD i 0) 35 (clV ((L.set k x).getD i cl0)) := by
  obtain ⟨q1, q2⟩ := hpc k hk
  refine ⟨?_, ho.kept hg (.inr fun e => own_ne ho q2 (by decide) e.symm), fun i hi => ⟨(hpc i hi).1, ?_⟩⟩
  · obtain ⟨C, hr, hrest⟩ := ha.row
    exact ⟨C, (hg.block g hr.lt (fun e => by have := Option.some.inj e; omega)).trans hr, hrest⟩
  · by_cases hik : i = k
    · subst hik
      have e : (L.set i x).getD i cl0 = x := by
        rw [List.getD_eq_getElem?_getD, List.getElem?_set_self hk]
        rfl
      rw [e]
      exact hx
    · have e : (L.set k x).getD i cl0 = L.getD i cl0 := by
        rw [List.getD_eq_getElem?_getD, List.getD_eq_getElem?_getD, List.getElem?_set_ne (fun e => hik e.symm)]
      rw [e]
      refine (hg.block _ (hpc i hi).2.lt (fun h => hik ?_)).trans (hpc i hi).2
      have h := Option.some.inj h
      have hi' : i < ps.length := by omega
      have hk' : k < ps.length := by omega
      rw [List.getD_eq_getElem?_getD, List.getD_eq_getElem?_getD, List.getElem?_eq_getElem hi', List.getElem?_eq_getElem hk'] at h
      rcases Nat.lt_trichotomy i k with hl | hl | hl
      · exact absurd h (List.pairwise_iff_getElem.1 hpn i k hi' hk' hl)
      · exact hl
      · exact absurd h.symm (List.pairwise_iff_getElem.1 hpn k i hk' hi' hl)

theorem zero5 : ∀ w, (zeroValue 5).run Try.prog w = .ok (.int .u8 0) w := fun w => by
  obtain ⟨i0, hi, hz0, _, _⟩ := info_parts info5
  simp [zeroValue, typeInfo, hi, hz0]

set_option maxHeartbeats 4000000 in
set_option maxRecDepth 100000 in
theorem implDrop_any (s : ByteArray) (a : Option Addr) (b off n c : Nat) (L : List Cl) (rc rg : Int) (w : World) (h : CellsIn w a b off n L) (hf : ∀ i, i < n → Fit (L.getD i cl0)) :
    Calls Try.prog 16 #[.agg #[.string s, .slice a n c], refV rc rg] w (HeapEnd w (dropD s L rc rg) (dropL s L rc rg) (dropOk s L rc rg)) := by
  have bw : Below w.heap.size w (((w.alloc (.cells #[.string s, .slice a n c] 26)).alloc (.cells #[.int .i64 rc, .int .i64 rg] 30)).alloc (.cells #[.string ⟨#[]⟩, .slice none 0 0] 26)) := Go.Joins.below_alloc3 _ _ _ _
  have r1 := (RowAt.new (w.alloc (.cells #[.string s, .slice a n c] 26)) 30 #[.int .i64 rc, .int .i64 rg]).below ((Below.refl _ _).alloc (Nat.le_refl _) (.cells #[.string ⟨#[]⟩, .slice none 0 0] 26)) (by simp)
  have r2 := RowAt.new ((w.alloc (.cells #[.string s, .slice a n c] 26)).alloc (.cells #[.int .i64 rc, .int .i64 rg] 30)) 26 #[.string ⟨#[]⟩, .slice none 0 0]
  simp only [World.size_alloc] at r1 r2
  have h2 := cells_below h bw
  have l1 := r1.lt
  have l2 := r2.lt
  go_enter Try.func16, Try.ntmps16
  go_wp2_with fail
  generalize ((w.alloc (.cells #[.string s, .slice a n c] 26)).alloc (.cells #[.int .i64 rc, .int .i64 rg] 30)).alloc (.cells #[.string ⟨#[]⟩, .slice none 0 0] 26) = w1 at *
  refine (openedC_all s a b off n c L w1 h2 hf).mono ?_
  rintro e w2 ⟨p, rfl, hop, b2⟩
  have bb := bw.trans (b2.mono bw.size)
  have q1 := r1.below b2 l1
  have q2 := r2.below b2 l2
  have s2 := b2.size
  clear r1 r2 h2 bw b2
  obtain ⟨f0, f1⟩ := two_at q1
  cases hr : heapB s L with
  | false =>
    have HR : Hid (dropOk s L rc rg = false) := by unfold Hid dropOk; rw [hr]; rfl
    have u2 := row_ret (D := .string ⟨#[]⟩) (v := .slice none 0 0) q2 rfl
    obtain ⟨e0, e1⟩ := two_at q2
    obtain ⟨g0, g1⟩ := two_at u2
    have z0 := q2.frozen 0
    have z1 := q2.frozen 1
    clear hr q1 q2 u2 hop
    go_wp2
    exact bodyPost_ret (v := .tuple #[.agg #[.string ⟨#[]⟩, .slice none 0 0], .bool false]) (by simp [results, Try.results16, go_sem, g0, g1]) rfl (by rw [HR.out, (drop_no HR.out).1, (drop_no HR.out).2]; exact heap_no ((bb.setCell (by simp; omega) _).setCell (by simp; omega) _))
  | true =>
    have HH : Hid (heapB s L = true) := hr
    obtain ⟨g, t, rfl, _, ⟨cs, ps, ha, ho, hpl, hpc, hpn⟩, hg⟩ := hop hr
    obtain ⟨hs3, hL⟩ := heap_small hr
    clear hr hop
    go_wp2_with fail
    refine (cellOf_any g s.size (byteAt s) t L cs ps rc rg w2 ha ho hpl hpc hL).mono ?_
    rintro e w3 ⟨rfl, b3⟩
    have bb3 := bb.trans (b3.mono bb.size)
    have s3 := b3.size
    have ha3 := ha.below b3 ha.lt
    have ho3 := owns_below ho b3
    have hpc3 : ∀ i, i < L.length → g < ps.getD i 0 ∧ RowAt w3 (ps.getD i 0) 35 (clV (L.getD i cl0)) := fun i hi => ⟨(hpc i hi).1, (hpc i hi).2.below b3 (hpc i hi).2.lt⟩
    have p2 := q2.below b3 q2.lt
    clear q1 q2 f0 f1 ha ho hpc
    cases hi : isB L rc rg with
    | false =>
      have HR : Hid (dropOk s L rc rg = false) := by unfold Hid dropOk; rw [hi, Bool.and_false]
      have u2 := row_ret (D := .string ⟨#[]⟩) (v := .slice none 0 0) p2 rfl
      obtain ⟨e0, e1⟩ := two_at p2
      obtain ⟨g0, g1⟩ := two_at u2
      have z0 := p2.frozen 0
      have z1 := p2.frozen 1
      clear hi p2 u2 ha3 ho3 hpc3 b3
      go_wp2
      exact bodyPost_ret (v := .tuple #[.agg #[.string ⟨#[]⟩, .slice none 0 0], .bool false]) (by simp [results, Try.results16, go_sem, g0, g1]) rfl (by rw [HR.out, (drop_no HR.out).1, (drop_no HR.out).2]; exact heap_no ((bb3.setCell (by simp; omega) _).setCell (by simp; omega) _))
    | true =>
      obtain ⟨k, rfl, hk, hlv, hgen⟩ := is_in hi
      have HOK : Hid (dropOk s L k rg = true) := by unfold Hid dropOk; rw [HH.out, hi]; rfl
      have HD : Hid (dropD s L k rg = putData s (L.getD k cl0).pos.toNat (dataZ (L.getD k cl0).len.toNat)) := by unfold Hid dropD; rw [if_pos HOK.out, Int.toNat_natCast]
      have HM : Hid (dropL s L k rg = L.set k ⟨0, 0, (L.getD k cl0).gen, false⟩) := by unfold Hid dropL; rw [if_pos HOK.out, Int.toNat_natCast]
      have HP : placeP L ps k = some ⟨ps.getD k 0, 0, none⟩ := by unfold placeP; rw [if_pos (by omega), Int.toNat_natCast]
      obtain ⟨g1, g2, g3, g4, g5⟩ := spec_facts (heap_cells HH.out k hk)
      have hlen := live_len (heap_cells HH.out k hk) hlv
      have hx := (hpc3 k hk).2
      have hqg := (hpc3 k hk).1
      obtain ⟨q, hq⟩ : ∃ q, ps.getD k 0 = q := ⟨_, rfl⟩
      obtain ⟨y, hy⟩ : ∃ y, L.getD k cl0 = y := ⟨_, rfl⟩
      have HQ : Hid (ps.getD k 0 = q) := hq
      have HY : Hid (L.getD k cl0 = y) := hy
      rw [hq, hy] at hx
      rw [hq] at hqg HP
      rw [hy] at g1 g2 g3 g4 g5 hlen HD HM hlv hgen
      rw [HP]
      clear hq hy HP
      obtain ⟨P, hP⟩ : ∃ P : Nat, y.pos = P := ⟨_, (Int.toNat_of_nonneg g1).symm⟩
      obtain ⟨W, hW⟩ : ∃ W : Nat, y.len = W := ⟨_, (Int.toNat_of_nonneg g2).symm⟩
      have c0 : w3.cell? ⟨q, 0, none⟩ = some (.int .i64 P) := by rw [← hP]; exact hx.cell 0
      have c1 : w3.cell? ⟨q, 1, none⟩ = some (.int .i64 W) := by rw [← hW]; exact hx.cell 1
      rw [hP, hW] at g3
      rw [hW] at hlen
      rw [hP, hW, Int.toNat_natCast, Int.toNat_natCast] at HD
      have HB := bytesOf_any g q P W w3 (by omega) (by omega) c0 c1
      clear c0 c1 hP hW g1 g2 g4 g5 hlv hgen hi
      go_wp2_with fail
      refine HB.mono ?_
      rintro e w4 ⟨rfl, m, rfl⟩
      have bd : Below w3.heap.size w3 (w3.drewN m) := below_drewN w3 m
      have ha4 := ha3.below bd ha3.lt
      have ho4 := owns_below ho3 bd
      have hpc4 : ∀ i, i < L.length → g < ps.getD i 0 ∧ RowAt (w3.drewN m) (ps.getD i 0) 35 (clV (L.getD i cl0)) := fun i hi => ⟨(hpc3 i hi).1, (hpc3 i hi).2.below bd (hpc3 i hi).2.lt⟩
      have p4 := p2.below bd p2.lt
      have bb4 := bb3.trans (bd.mono bb3.size)
      have s4 := bd.size
      clear HB ha3 ho3 hpc3 p2 bd bb3
      generalize w3.drewN m = w4 at *
      obtain ⟨C, hrC, hszC, _⟩ := ha4.row
      have hcl : ∀ ty, (Builtin.clear_ #[22] ty #[.slice (some ⟨g, P, none⟩) W (3000 - P)]).run Try.prog w4 = .ok (.tuple #[]) (w4.setCells g P (List.replicate W (.int .u8 0))) := fun ty =>
        Lib.run_clear_slice w4 22 5 ty (.int .u8 0) Try.underlying22 zero5 rfl rfl g P W (3000 - P) (by omega) (fun j hj => by rw [hrC.cell, Array.getElem?_eq_getElem (by omega)]; rfl) (fun j hj => hrC.frozen _)
      have gr5 := setCells_grown g (List.replicate W (.int .u8 0)) P w4
      have ha5 := Arena.cleared (P := P) (W := W) ha4 (by omega)
      have ho5 := ho4.kept gr5 (.inr fun e => by have := (ho4.lt _ e).1; omega)
      have hpc5 : ∀ i, i < L.length → g < ps.getD i 0 ∧ RowAt (w4.setCells g P (List.replicate W (.int .u8 0))) (ps.getD i 0) 35 (clV (L.getD i cl0)) := fun i hi =>
        ⟨(hpc4 i hi).1, (gr5.block _ (hpc4 i hi).2.lt (fun e => by have := (hpc4 i hi).1; have := Option.some.inj e; omega)).trans (hpc4 i hi).2⟩
      have p5 : RowAt (w4.setCells g P (List.replicate W (.int .u8 0))) (w.heap.size + 1 + 1) 26 #[.string ⟨#[]⟩, .slice none 0 0] := (gr5.block _ p4.lt (fun e => by have := Option.some.inj e; omega)).trans p4
      have bb5 : Below w.heap.size w (w4.setCells g P (List.replicate W (.int .u8 0))) := below_grown bb4 gr5 (fun y hy => by have := Option.some.inj hy; omega) bb4.size
      have s5 := gr5.size
      clear hrC ha4 ho4 hpc4 p4 bb4 gr5
      generalize w4.setCells g P (List.replicate W (.int .u8 0)) = w5 at *
      have hx5 := (hpc5 k hk).2
      have hup := openC_upd (w' := goneCell w5 (ps.getD k 0)) ⟨0, 0, (L.getD k cl0).gen, false⟩ ha5 ho5 hpl hpc5 hpn hk ⟨rfl, rfl, rfl, by simp [World.setCell], fun j _ hj => goneCell_other _ _ _ (fun e => hj (by rw [e]))⟩ (goneCell_row hx5)
      rw [HQ.out, HY.out] at hup hx5
      have t0 : w5.cell? ⟨q, 0, none⟩ = some (.int .i64 y.pos) := hx5.cell 0
      have t1 : w5.cell? ⟨q, 1, none⟩ = some (.int .i64 y.len) := hx5.cell 1
      have t3 : w5.cell? ⟨q, 3, none⟩ = some (.bool y.live) := hx5.cell 3
      have z0 := hx5.frozen 0
      have z1 := hx5.frozen 1
      have z3 := hx5.frozen 3
      obtain ⟨ha6, ho6, hpc6⟩ := hup
      have hLs : (L.set k ⟨0, 0, y.gen, false⟩).length = L.length := List.length_set
      have p6 : RowAt (goneCell w5 q) (w.heap.size + 1 + 1) 26 #[.string ⟨#[]⟩, .slice none 0 0] := (goneCell_other _ _ _ (by omega)).trans p5
      have bb6 : Below w.heap.size w (goneCell w5 q) := ((bb5.setCell (p := ⟨q, 0, none⟩) (by simp only; omega) _).setCell (p := ⟨q, 1, none⟩) (by simp only; omega) _).setCell (p := ⟨q, 3, none⟩) (by simp only; omega) _
      have HA := heap_any g s.size (dPut s P (dataZ W)) t (L.set k ⟨0, 0, y.gen, false⟩) cs ps (goneCell w5 q) ha6 (by rw [hLs]; exact ho6) (by rw [hLs]; exact hpl) (fun i hi => (hpc6 i (by rw [← hLs]; exact hi)).2) (by rw [hLs]; exact hL) hs3
      have s6 : w5.heap.size ≤ (goneCell w5 q).heap.size := by simp [World.setCell]
      have HDD : Hid (dataOf (dPut s P (dataZ W)) s.size = putData s P (dataZ W)) := put_data s P (dataZ W) (by rw [dataZ_size]; omega)
      clear hx5 ha5 ho5 hpc5 p5 bb5 ha6 ho6 hpc6 hx
      unfold goneCell at *
      go_wp2_with fail
      refine HA.mono ?_
      clear HA t0 t1 t3 z0 z1 z3
      generalize ((w5.setCell ⟨q, 0, none⟩ (.int .i64 0)).setCell ⟨q, 1, none⟩ (.int .i64 0)).setCell ⟨q, 3, none⟩ (.bool false) = w6 at *
      rintro e w7 ⟨v, rfl, ho7, b7⟩
      rw [HDD.out]
      rw [hLs] at ho7
      obtain ⟨a7, A7, cap7, rfl, _⟩ := form_any ho7
      have p7 := p6.below b7 p6.lt
      have bb7 := bb6.trans (b7.mono bb6.size)
      have u2 := row_ret (D := .string (putData s P (dataZ W))) (v := .slice a7 L.length cap7) p7 rfl
      obtain ⟨e0, e1⟩ := two_at p7
      obtain ⟨k0, k1⟩ := two_at u2
      have z0 := p7.frozen 0
      have z1 := p7.frozen 1
      have l6 := p6.lt
      have o8 := Go.Joins.ownsRow_le (ownsRow_setCell_below (ownsRow_setCell_below ho7 (a := ⟨w.heap.size + 1 + 1, 0, none⟩) (by simp only; omega) (.string (putData s P (dataZ W)))) (a := ⟨w.heap.size + 1 + 1, 1, none⟩) (by simp only; omega) (.slice a7 L.length cap7)) (base' := w.heap.size) (by have := bb6.size; omega)
      clear u2 p7 p6 ho7
      go_wp2
      exact bodyPost_ret (v := .tuple #[.agg #[.string (putData s P (dataZ W)), .slice a7 L.length cap7], .bool true]) (by simp [results, Try.results16, go_sem, k0, k1]) rfl (by rw [HOK.out, HD.out, HM.out]; exact ⟨_, rfl, by rw [hLs]; exact o8, (bb7.setCell (by simp; omega) _).setCell (by simp; omega) _⟩)
end Go.Proofs.Ytjjpplpdpldkeaa
