/- The program opens a heap: its arena, with its cells as pointers. -/
import Derived.Test.YtapdoechmnjaeaaGreatDoorHp2
namespace Go.Proofs.YtapdoechmnjaeaaGreatDoor.Hp
open Go.RowKit Go.Sort
def ptrV (p : Nat) : Value := .pointer (some ⟨p, 0, none⟩)

/-- An arena with these cells: each in a place of its own. -/
def OpenC (w : World) (g : Nat) (d : Nat → UInt8) (t : Nat → Bool) (n : Nat) (L : List Cl) : Prop :=
  ∃ (cs : Value) (ps : List Nat), Arena w g d t n cs ∧ w.ownsRow (g + 1) 85 1 cs L.length (ps.map ptrV) ∧ ps.length = L.length ∧ (∀ i, i < L.length → g < ps.getD i 0 ∧ RowAt w (ps.getD i 0) 131 (clV (L.getD i cl0))) ∧ ps.Nodup

theorem take_next {L : List Cl} {k : Nat} (h : k < L.length) : L.take (k + 1) = L.take k ++ [L.getD k cl0] := by
  rw [List.take_succ_eq_append_getElem h, List.getD_eq_getElem?_getD, List.getElem?_eq_getElem h]
  rfl

theorem owns_below {w w' : World} {B : Nat} {e : TypeId} {size n : Nat} {v : Value} {xs : List Value} (h : w.ownsRow B e size v n xs) (hb : Below w.heap.size w w') : w'.ownsRow B e size v n xs :=
  h.kept (row := some w.heap.size) ⟨hb.os, hb.tape, hb.output, hb.size, fun j hj _ => hb.block j hj⟩ (.inr fun e => by have := (h.lt _ e).2; omega)

theorem OpenC.below {w w' : World} {g n : Nat} {d : Nat → UInt8} {t : Nat → Bool} {L : List Cl} (h : OpenC w g d t n L) (hb : Below w.heap.size w w') : OpenC w' g d t n L := by
  obtain ⟨cs, ps, h1, h2, h3, h4, h5⟩ := h
  exact ⟨cs, ps, h1.below hb h1.lt, owns_below h2 hb, h3, fun i hi => ⟨(h4 i hi).1, (h4 i hi).2.below hb (h4 i hi).2.lt⟩, h5⟩

theorem row_type {w : World} {p T T' : Nat} {C C' : Array Value} (h : RowAt w p T C) (h' : RowAt w p T' C') : T = T' := by
  have : some (Obj.cells C T (0, 0)) = some (Obj.cells C' T' (0, 0)) := h.symm.trans h'
  simp at this
  exact this.2

theorem own_ne {w : World} {B : Nat} {e T : TypeId} {size n p : Nat} {v : Value} {xs : List Value} {C : Array Value} (h : w.ownsRow B e size v n xs) (hr : RowAt w p T C) (hT : T ≠ e) : some p ≠ v.ownBlock := by
  intro he
  obtain ⟨_, h | ⟨g, cap, cur, rfl, _, hg, _⟩⟩ := h
  · rw [h.1] at he
    cases he
  · simp [Value.ownBlock] at he
    subst he
    exact hT (row_type hr hg)

theorem openC_add {w w' : World} {g n : Nat} {d : Nat → UInt8} {t t' : Nat → Bool} {M : List Cl} {x : Cl} {cs cs' : Value} {ps : List Nat} (ha : Arena w g d t n cs) (ho : w.ownsRow (g + 1) 85 1 cs M.length (ps.map ptrV)) (hpl : ps.length = M.length)
    (hpc : ∀ i, i < M.length → g < ps.getD i 0 ∧ RowAt w (ps.getD i 0) 131 (clV (M.getD i cl0))) (hpn : ps.Nodup)
    (h1 : Arena w' g d t' n cs') (h2 : w'.ownsRow (g + 1) 85 1 cs' (M.length + 1) (ps.map ptrV ++ [.pointer (some ⟨w.heap.size, 0, none⟩)]))
    (h3 : ∀ j, j < w.heap.size + 1 → j ≠ g → some j ≠ Value.ownBlock cs → w'.heap[j]? = (w.alloc (.cells (clV x) 131)).heap[j]?) : OpenC w' g d t' n (M ++ [x]) := by
  have hmem : ∀ p ∈ ps, p < w.heap.size := fun p hp => by
    obtain ⟨i, hi, rfl⟩ := List.getElem_of_mem hp
    have := (hpc i (by omega)).2.lt
    rwa [List.getD_eq_getElem?_getD, List.getElem?_eq_getElem hi] at this
  refine ⟨cs', ps ++ [w.heap.size], h1, ?_, by simp [hpl], fun i hi => ?_, ?_⟩
  · rw [List.map_append, List.length_append]
    exact h2
  · rw [List.length_append] at hi
    simp only [List.length_cons, List.length_nil, Nat.zero_add] at hi
    by_cases hlt : i < M.length
    · have e1 : (ps ++ [w.heap.size]).getD i 0 = ps.getD i 0 := by
        rw [List.getD_eq_getElem?_getD, List.getD_eq_getElem?_getD, List.getElem?_append_left (by omega)]
      have e2 : (M ++ [x]).getD i cl0 = M.getD i cl0 := by
        rw [List.getD_eq_getElem?_getD, List.getD_eq_getElem?_getD, List.getElem?_append_left hlt]
      rw [e1, e2]
      obtain ⟨q1, q2⟩ := hpc i hlt
      refine ⟨q1, ?_⟩
      have hlt2 := q2.lt
      exact (h3 _ (by omega) (by omega) (own_ne ho q2 (by decide))).trans ((Below.heap_alloc _ _ _ hlt2).trans q2)
    · have e : i = M.length := by omega
      subst e
      have e1 : (ps ++ [w.heap.size]).getD M.length 0 = w.heap.size := by
        rw [List.getD_eq_getElem?_getD, ← hpl, List.getElem?_concat_length]
        rfl
      have e2 : (M ++ [x]).getD M.length cl0 = x := by
        rw [List.getD_eq_getElem?_getD, List.getElem?_concat_length]
        rfl
      rw [e1, e2]
      have hg := ha.lt
      exact ⟨hg, (h3 _ (by omega) (by omega) (fun e => by have := (ho.lt _ e.symm).2; omega)).trans (RowAt.new w 131 (clV x))⟩
  · rw [List.nodup_append]
    refine ⟨hpn, by simp, fun a ha b hb => ?_⟩
    simp at hb
    have := hmem a ha
    omega

set_option maxHeartbeats 2000000 in
set_option maxRecDepth 100000 in
theorem admitC_any (g n : Nat) (d : Nat → UInt8) (t : Nat → Bool) (M : List Cl) (x : Cl) (w : World) (h : OpenC w g d t n M) (hn : n ≤ 3000) (hk : M.length ≤ 1000) (hx : Fit x) :
    Calls Tryz.prog 81 #[.pointer (some ⟨g, 0, none⟩), .agg (clV x)] w fun e w' => e = .returned (.bool (okC n t x)) ∧ (okC n t x = true → OpenC w' g d (takes t x) n (M ++ [x])) ∧ Below g w w' := by
  obtain ⟨cs, ps, ha, ho0, hpl, hpc, hpn⟩ := h
  have HP : Hid (∀ w' cs', Arena w' g d (takes t x) n cs' → w'.ownsRow (g + 1) 85 1 cs' (M.length + 1) (ps.map ptrV ++ [.pointer (some ⟨w.heap.size, 0, none⟩)]) → (∀ j, j < w.heap.size + 1 → j ≠ g → some j ≠ Value.ownBlock cs → w'.heap[j]? = (w.alloc (.cells (clV x) 131)).heap[j]?) → OpenC w' g d (takes t x) n (M ++ [x])) :=
    fun w' cs' h1 h2 h3 => openC_add ha ho0 hpl hpc hpn h1 h2 h3
  have ho : w.ownsRow (g + 1) 85 1 cs M.length (ps.map ptrV) := ho0
  clear ho0 hpl hpc hpn
  generalize hk0 : M.length = k at *
  generalize ps.map ptrV = xs at *
  obtain ⟨i0, hi, hz0, hz1, hz2⟩ := info_parts info76
  have hglt := ha.lt
  have hb1 : Below w.heap.size w (w.alloc (.cells (clV x) 131)) := (Below.refl _ w).alloc (Nat.le_refl _) _
  have hs1 : (w.alloc (.cells (clV x) 131)).heap.size = w.heap.size + 1 := by simp
  have ha1 := ha.below hb1 hglt
  have hc1 := cl_new w x
  have ho1 := ho.alloc (.cells (clV x) 131)
  by_cases hgen : 1 ≤ x.gen ∧ x.gen ≤ 1000000000
  · obtain ⟨g1, g2⟩ := hgen
    have d1 : ¬ x.gen < 1 := by omega
    have d2 : ¬ 1000000000 < x.gen := by omega
    have c0 := hc1.c0
    have c1 := hc1.c1
    have c2 := hc1.c2
    have c3 := hc1.c3
    have cc := ha1.cells
    have fz := ha1.frozen 6001
    go_enter Tryz.func81, Tryz.ntmps81
    go_wp2_with (at_builtin; refine wpList_append_own _ rfl _ _ 147 rfl (g + 1) 85 i0 _ 1 8 Tryz.underlying147 hi hz0 hz1 hz2 rfl (by decide) _ _ _ rfl (ho1.alloc _) ⟨w.heap.size + 1, 0, none⟩ 1 1 [.pointer (some ⟨w.heap.size, 0, none⟩)] rfl rfl ?c1 ?c2 ?c3 ?c4 ?c5 ?_)
    case c2 => rfl
    case c3 => unfold maxLen; omega
    case c4 => omega
    case c5 => omega
    intro v0' w5 hown' hgrow _
    obtain ⟨A, cap, hv'⟩ : ∃ A cap, v0' = .slice (some ⟨A, 0, none⟩) (k + 1) cap := by
      rcases Go.Joins.ownsRow_forms hown' with ⟨_, h0⟩ | h
      · omega
      · exact h
    subst hv'
    have hsz5 : w.heap.size + 2 ≤ w5.heap.size := by have := hgrow.size; simp at this; omega
    have hblk : ∀ j, j < w.heap.size + 1 → some j ≠ Value.ownBlock cs → w5.heap[j]? = (w.alloc (.cells (clV x) 131)).heap[j]? := fun j hj hne => by
      rw [hgrow.block j (by simp; omega) hne]
      exact Below.heap_alloc _ _ _ (by omega)
    have hcsg : some g ≠ Value.ownBlock cs := fun e => by have := (ho.lt g e.symm).1; omega
    have hcsw : some w.heap.size ≠ Value.ownBlock cs := fun e => by have := (ho.lt _ e.symm).2; omega
    have ha5 : Arena w5 g d t n cs := by
      obtain ⟨C, hr, hrest⟩ := ha1.row
      exact ⟨C, (hblk g (by omega) hcsg).trans hr, hrest⟩
    have hc5 : ClAt w5 w.heap.size 0 x := by
      have hb : ∀ j, w5.cell? ⟨w.heap.size, j, none⟩ = (w.alloc (.cells (clV x) 131)).cell? ⟨w.heap.size, j, none⟩ := fun j => World.cell?_of_block (w := w.alloc (.cells (clV x) 131)) (hblk w.heap.size (by omega) hcsw)
      exact ⟨(hb _).trans hc1.c0, (hb _).trans hc1.c1, (hb _).trans hc1.c2, (hb _).trans hc1.c3⟩
    have hb5 : Below g w w5 := ⟨hgrow.os, hgrow.tape, hgrow.output, by omega, fun j hj => (hblk j (by omega) (fun e => by have := (ho.lt j e.symm).1; omega)).trans (Below.heap_alloc _ _ _ (by omega))⟩
    have ha6 : Arena (w5.setCell ⟨g, 6001, none⟩ (.slice (some ⟨A, 0, none⟩) (k + 1) cap)) g d t n (.slice (some ⟨A, 0, none⟩) (k + 1) cap) := ha5.setCells
    have ho6 : (w5.setCell ⟨g, 6001, none⟩ (.slice (some ⟨A, 0, none⟩) (k + 1) cap)).ownsRow (g + 1) 85 1 (.slice (some ⟨A, 0, none⟩) (k + 1) cap) (k + 1) (xs ++ [.pointer (some ⟨w.heap.size, 0, none⟩)]) := ownsRow_setCell_below hown' (by simp) _
    have hb6 : Below g w (w5.setCell ⟨g, 6001, none⟩ (.slice (some ⟨A, 0, none⟩) (k + 1) cap)) := hb5.setCell (p := ⟨g, 6001, none⟩) (Nat.le_refl _) _
    have hc6 : ClAt (w5.setCell ⟨g, 6001, none⟩ (.slice (some ⟨A, 0, none⟩) (k + 1) cap)) w.heap.size 0 x := by
      have hb : ∀ j, (w5.setCell ⟨g, 6001, none⟩ (.slice (some ⟨A, 0, none⟩) (k + 1) cap)).cell? ⟨w.heap.size, j, none⟩ = w5.cell? ⟨w.heap.size, j, none⟩ := fun j => World.cell?_of_block (w := w5) (Below.heap_setCell _ _ _ _ (by simp; omega))
      exact ⟨(hb _).trans hc5.c0, (hb _).trans hc5.c1, (hb _).trans hc5.c2, (hb _).trans hc5.c3⟩
    have hsz6 : w.heap.size + 2 ≤ (w5.setCell ⟨g, 6001, none⟩ (.slice (some ⟨A, 0, none⟩) (k + 1) cap)).heap.size := by simpa [World.setCell] using hsz5
    clear c0 c1 c2 c3 cc fz
    have cc := ha5.cells
    have fz := ha5.frozen 6001
    have c0 := hc6.c0
    have c1 := hc6.c1
    have c2 := hc6.c2
    have c3 := hc6.c3
    have HA : Hid (Arena (w5.setCell ⟨g, 6001, none⟩ (.slice (some ⟨A, 0, none⟩) (k + 1) cap)) g d t n (.slice (some ⟨A, 0, none⟩) (k + 1) cap)) := ha6
    have HO : Hid ((w5.setCell ⟨g, 6001, none⟩ (.slice (some ⟨A, 0, none⟩) (k + 1) cap)).ownsRow (g + 1) 85 1 (.slice (some ⟨A, 0, none⟩) (k + 1) cap) (k + 1) (xs ++ [.pointer (some ⟨w.heap.size, 0, none⟩)])) := ho6
    have HB : Hid (Below g w (w5.setCell ⟨g, 6001, none⟩ (.slice (some ⟨A, 0, none⟩) (k + 1) cap))) := hb6
    have HK6 : Hid (∀ j, j < w.heap.size + 1 → j ≠ g → some j ≠ Value.ownBlock cs → (w5.setCell ⟨g, 6001, none⟩ (.slice (some ⟨A, 0, none⟩) (k + 1) cap)).heap[j]? = (w.alloc (.cells (clV x) 131)).heap[j]?) := fun j hj hjg hjo =>
      (Below.heap_setCell _ _ _ _ (by simpa using hjg)).trans (hblk j hj hjo)
    have HG : Hid (decide (1 ≤ x.gen ∧ x.gen ≤ 1000000000) = true) := decide_eq_true ⟨g1, g2⟩
    clear hown' hgrow hblk ha5 hc5 hb5 ha6 ho6 hb6 hc6 ha1 ho1 ha ho hc1 hb1 hcsg hcsw
    cases hlv : x.live with
    | false =>
      have HF : Hid (okC n t x = decide (x.pos = 0 ∧ x.len = 0)) := by
        unfold Hid okC admitB
        rw [HG.out, hlv]
        simp
      have HT : Hid (takes t x = t) := by
        unfold Hid
        funext i
        simp [takes, covers, hlv]
      rw [hlv] at c3
      by_cases hp0 : x.pos = 0
      · have dp : (x.pos == 0) = true := by simp [hp0]
        have HF2 : Hid (okC n t x = (x.len == 0)) := by
          unfold Hid
          rw [HF.out]
          by_cases hl0 : x.len = 0 <;> simp [hp0, hl0]
        clear hp0
        go_wp2
        go_ret
        exact ⟨ret_bool HF2.out.symm, fun _ => HP.out _ _ (by rw [HT.out]; exact HA.out) HO.out HK6.out, HB.out⟩
      · have dp : (x.pos == 0) = false := by simp [hp0]
        have HF2 : Hid (okC n t x = false) := by
          unfold Hid
          rw [HF.out]
          simp [hp0]
        go_wp2
        go_ret
        exact ⟨ret_bool HF2.out.symm, (fun h => by rw [HF2.out] at h; cases h), HB.out⟩
    | true =>
      rw [hlv] at c3
      have HF : Hid (okC n t x = (withinB n x && free t x)) := by
        unfold Hid okC admitB
        rw [HG.out, hlv]
        simp [withinB]
      go_wp2_with fail
      generalize w5.setCell ⟨g, 6001, none⟩ (.slice (some ⟨A, 0, none⟩) (k + 1) cap) = w6 at *
      have HW := within_any g n d t (.slice (some ⟨A, 0, none⟩) (k + 1) cap) x w6 HA.out hn hx
      simp only [clV, hlv] at HW
      refine HW.mono ?_
      clear HW
      rintro e w7 ⟨rfl, b7⟩
      have s7 := b7.size
      have HA7 : Hid (Arena w7 g d t n (.slice (some ⟨A, 0, none⟩) (k + 1) cap)) := HA.out.below b7 (by omega)
      have HO7 : Hid (w7.ownsRow (g + 1) 85 1 (.slice (some ⟨A, 0, none⟩) (k + 1) cap) (k + 1) (xs ++ [.pointer (some ⟨w.heap.size, 0, none⟩)])) :=
        HO.out.kept (row := some w6.heap.size) ⟨b7.os, b7.tape, b7.output, b7.size, fun j hj _ => b7.block j hj⟩ (.inr fun e => by have := (HO.out.lt _ e).2; omega)
      have HK7 : Hid (∀ j, j < w.heap.size + 1 → j ≠ g → some j ≠ Value.ownBlock cs → w7.heap[j]? = (w.alloc (.cells (clV x) 131)).heap[j]?) := fun j hj hjg hjo => (b7.block j (by omega)).trans (HK6.out j hj hjg hjo)
      have HB7 : Hid (Below g w w7) := HB.out.trans (b7.mono (by omega))
      have hc7 : ClAt w7 w.heap.size 0 x := cl_below ⟨c0, c1, c2, by rw [hlv]; exact c3⟩ (by omega) b7
      cases hwi : withinB n x with
      | false =>
        rw [hwi, Bool.false_and] at HF
        clear hc7 hwi
        go_wp2
        go_ret
        exact ⟨ret_bool HF.out.symm, (fun h => by rw [HF.out] at h; cases h), HB7.out⟩
      | true =>
        rw [hwi, Bool.true_and] at HF
        have hok : Ok n x := by
          have := of_decide_eq_true hwi
          exact ⟨hlv, by omega, by omega, by omega⟩
        clear c0 c1 c2 c3
        have c0 := hc7.c0
        have c1 := hc7.c1
        have c2 := hc7.c2
        have c3 := hc7.c3
        clear hc7 hwi
        go_wp2_with fail
        have HW := take_any g n d t (.slice (some ⟨A, 0, none⟩) (k + 1) cap) x w7 HA7.out hn hok
        simp only [clV, hlv] at HW
        refine HW.mono ?_
        clear HW
        rintro e w8 ⟨rfl, ha8, g8⟩
        have HA8 : Hid (free t x = true → Arena w8 g d (takes t x) n (.slice (some ⟨A, 0, none⟩) (k + 1) cap)) := ha8
        have HO8 : Hid (w8.ownsRow (g + 1) 85 1 (.slice (some ⟨A, 0, none⟩) (k + 1) cap) (k + 1) (xs ++ [.pointer (some ⟨w.heap.size, 0, none⟩)])) := HO7.out.kept g8 (.inr fun e => by have := (HO7.out.lt _ e).1; omega)
        have HK8 : Hid (∀ j, j < w.heap.size + 1 → j ≠ g → some j ≠ Value.ownBlock cs → w8.heap[j]? = (w.alloc (.cells (clV x) 131)).heap[j]?) := fun j hj hjg hjo => (g8.block j (by omega) (fun e => hjg (by simpa using e))).trans (HK7.out j hj hjg hjo)
        have HB8 : Hid (Below g w w8) := HB7.out.trans (below_of_grown g8 (Nat.le_refl _) (by omega))
        clear ha8 g8
        rw [← HF.out] at HA8 ⊢
        go_wp2
        go_ret
        exact ⟨rfl, fun h => HP.out _ _ (HA8.out h) HO8.out HK8.out, HB8.out⟩
  · have HF : Hid (okC n t x = false) := by
      unfold Hid okC admitB
      rw [decide_eq_false hgen, Bool.false_and, Bool.false_and]
    have hbg : Below g w (w.alloc (.cells (clV x) 131)) := hb1.mono (by omega)
    clear ha1 ho1 hc1 ha ho
    go_enter Tryz.func81, Tryz.ntmps81
    go_wp2
    all_goals first
      | (exfalso; omega)
      | (go_ret; exact ⟨ret_bool HF.out.symm, (fun h => by rw [HF.out] at h; cases h), hbg⟩)

/-- How the opening ends: the arena, when the heap is right. -/
def OpenEndC (w : World) (s : ByteArray) (L : List Cl) (e : Ending) (w' : World) : Prop :=
  ∃ p : Option Addr, e = .returned (.tuple #[.pointer p, .bool (implB (byteAt s) s.size L)]) ∧
    (implB (byteAt s) s.size L = true → ∃ g t, p = some ⟨g, 0, none⟩ ∧ openM s.size L (fun _ => false) = some t ∧ OpenC w' g (byteAt s) t s.size L ∧ w.heap.size ≤ g) ∧ Below w.heap.size w w'

set_option maxHeartbeats 4000000 in
set_option maxRecDepth 100000 in
theorem openedC_any (s : ByteArray) (a : Option Addr) (b off n c : Nat) (L : List Cl) (w : World) (h : CellsIn w a b off n L) (hs : s.size ≤ 3000) (hn : n ≤ 40) (hf : ∀ i, i < n → Fit (L.getD i cl0)) :
    Calls Tryz.prog 39 #[.agg #[.string s, .slice a n c]] w (OpenEndC w s L) := by
  have hni : ¬ (3000 : Int) < (s.size : Int) := by omega
  have hnc : ¬ (40 : Int) < (n : Int) := by omega
  have hzv := zeroV56
  have hzs := zeros_len
  have hzn : ¬ zc56 = #[] := fun e => by rw [e] at hzs; cases hzs
  go_enter Tryz.func39, Tryz.ntmps39
  go_wp2
  have hb0 : Below w.heap.size w (w.alloc (.cells #[.string s, .slice a n c] 26)) := (Below.refl _ w).alloc (Nat.le_refl _) _
  have hn0 := RowAt.new w 26 #[.string s, .slice a n c]
  have hs0 : (w.alloc (.cells #[.string s, .slice a n c] 26)).heap.size = w.heap.size + 1 := by simp
  generalize w.alloc (.cells #[.string s, .slice a n c] 26) = w1 at *
  have ha : Arena (w1.alloc (.cells (zc56.setIfInBounds 6000 (.int .i64 (s.size : Int))) 149)) (w.heap.size + 1) (fun _ => 0) (fun _ => false) s.size (.slice none 0 0) := by
    have := Arena.new w1 s.size
    rwa [hs0] at this
  have hb1 : Below w1.heap.size w1 (w1.alloc (.cells (zc56.setIfInBounds 6000 (.int .i64 (s.size : Int))) 149)) := (Below.refl _ w1).alloc (Nat.le_refl _) _
  have hs2 : (w1.alloc (.cells (zc56.setIfInBounds 6000 (.int .i64 (s.size : Int))) 149)).heap.size = w.heap.size + 2 := by simp [hs0]
  generalize w1.alloc (.cells (zc56.setIfInBounds 6000 (.int .i64 (s.size : Int))) 149) = w2 at *
  have hbb : Below w.heap.size w w2 := hb0.trans (hb1.mono (by omega))
  have hn2 := hn0.below hb1 (by omega)
  have c0 := hn2.cell 0
  have c1 := hn2.cell 1
  simp at c0 c1
  obtain ⟨C, hr, hsz, hd, ht, hss, hc⟩ := ha.row
  generalize hG : w.heap.size + 1 = G at *
  have hcp : ∀ ty, (Builtin.copy_ #[22, 9] ty #[.slice (some ⟨G, 0, none⟩) 3000 3000, .string s]).run Tryz.prog w2.drew = .ok (goInt s.size) (w2.drew.setRow G (C.toList.take 0 ++ Lib.byteCells s.data.toList ++ C.toList.drop (0 + s.size)).toArray) := fun ty =>
    Lib.run_copy_row_string w2.drew 22 9 ty 5 G 0 3000 3000 s C 149 Tryz.underlying22 info5s hr hs (by omega)
  have hr3 : RowAt (w2.drew.setRow G (C.toList.take 0 ++ Lib.byteCells s.data.toList ++ C.toList.drop (0 + s.size)).toArray) G 149 (C.toList.take 0 ++ Lib.byteCells s.data.toList ++ C.toList.drop (0 + s.size)).toArray :=
    setRow_heap w2.drew G C _ 149 _ hr
  have ha3 := Arena.copied hsz hd ht hss hc hs hr3
  have hg3 : w2.grownBy (w2.drew.setRow G (C.toList.take 0 ++ Lib.byteCells s.data.toList ++ C.toList.drop (0 + s.size)).toArray) (some G) :=
    ⟨rfl, rfl, rfl, by simp [World.setRow], fun k _ hk => by rw [setRow_other _ _ _ _ (fun e => hk (by rw [e]))]; rfl⟩
  have HA3 : Hid (Arena (w2.drew.setRow G (C.toList.take 0 ++ Lib.byteCells s.data.toList ++ C.toList.drop (0 + s.size)).toArray) G (byteAt s) (fun _ => false) s.size (.slice none 0 0)) := ha3
  clear ha hr hsz hd ht hss hc hr3 ha3
  generalize w2.drew.setRow G (C.toList.take 0 ++ Lib.byteCells s.data.toList ++ C.toList.drop (0 + s.size)).toArray = w3 at *
  have hbx : Below w.heap.size w w3 := hbb.trans (below_of_grown hg3 (by omega) (by have := hbb.size; omega))
  have hn3 : RowAt w3 w.heap.size 26 #[.string s, .slice a n c] := (hg3.block w.heap.size hn2.lt (by simp; omega)).trans hn2
  have hs3 : w.heap.size + 2 ≤ w3.heap.size := by have := hg3.size; omega
  have HB : Hid (Below w.heap.size w w3) := hbx
  clear hbx hbb hb0 hb1
  go_region
  clear c0 c1 hn2 hcp
  have c0 := hn3.cell 0
  have c1 := hn3.cell 1
  simp at c0 c1
  have HO : Hid (openM s.size L (fun _ => false) = openM s.size (L.drop 0) (fun _ => false)) := by unfold Hid; rw [List.drop_zero]
  clear hn3
  go_wp2
  go_loopw [6, 32] (fun _ i wr => ∃ (k : Nat) (t : Nat → Bool), k ≤ n ∧ i = .int .i64 k ∧ OpenC wr G (byteAt s) t s.size (L.take k) ∧ Hid (openM s.size L (fun _ => false) = openM s.size (L.drop k) t) ∧ Below w.heap.size w wr) (fun _ i _ => n - (intOf i).toNat)
  case atStart => exact ⟨0, _, by omega, rfl, ⟨_, [], HA3.out, World.ownsRow_nil _ _ _ _, rfl, fun i hi => by simp at hi, List.nodup_nil⟩, HO, HB.out⟩
  case round =>
    obtain ⟨k, t, hk, rfl, hop, hst, bk⟩ := hrel
    clear HO HB HA3
    by_cases hlt : k < n
    · obtain rfl := h.addr (by omega)
      have hlow := h.low (by omega)
      have hnd := cl_below (h.cell k hlt) hlow bk
      have hfit := hf k hlt
      have hdr := drop_get (L := L) (k := k) (by rw [h.len]; exact hlt)
      have d0 := hnd.c0
      have d1 := hnd.c1
      have d2 := hnd.c2
      have d3 := hnd.c3
      clear hnd
      have HTk : Hid (L.take (k + 1) = L.take k ++ [L.getD k cl0]) := take_next (by rw [h.len]; exact hlt)
      generalize L.getD k cl0 = x at *
      go_wp2_with fail
      have b4 : Below wr.heap.size wr (wr.alloc (.cells (clV x) 131)) := (Below.refl _ wr).alloc (Nat.le_refl _) _
      have hop4 : OpenC (wr.alloc (.cells (clV x) 131)) G (byteAt s) t s.size (L.take k) := hop.below b4
      have bb4 : Below w.heap.size w (wr.alloc (.cells (clV x) 131)) := bk.trans (b4.mono bk.size)
      have hC := admitC_any G s.size (byteAt s) t (L.take k) x (wr.alloc (.cells (clV x) 131)) hop4 hs (by rw [List.length_take]; omega) hfit
      generalize wr.alloc (.cells (clV x) 131) = w4 at *
      refine hC.mono ?_
      rintro e w5 ⟨rfl, hop5, b5⟩
      have bb5 : Below w.heap.size w w5 := bb4.trans (b5.mono (by omega))
      clear hC hop4 hop
      cases hok : okC s.size t x with
      | false =>
        have HR : Hid (implB (byteAt s) s.size L = false) := by
          unfold Hid implB
          rw [hst.out, hdr, step_iff, hok]
          rfl
        clear hop5 hst hok
        go_wp2
        go_ret2
        exact ⟨none, by rw [HR.out]; rfl, (fun h => by rw [HR.out] at h; cases h), bb5⟩
      | true =>
        have HS : Hid (openM s.size L (fun _ => false) = openM s.size (L.drop (k + 1)) (takes t x)) := by
          unfold Hid
          rw [hst.out, hdr, step_iff, hok]
          rfl
        have HOp : Hid (OpenC w5 G (byteAt s) (takes t x) s.size (L.take (k + 1))) := by unfold Hid; rw [HTk.out]; exact hop5 hok
        clear hop5 hst hok
        go_wp2
        go_roundw
        case rel => exact ⟨k + 1, _, by omega, by go_num, HOp.out, HS, bb5⟩
        case measure => simp [intOf]; omega
    · obtain rfl : k = n := by omega
      have hfin : openM s.size L (fun _ => false) = some t := by
        rw [hst.out, List.drop_eq_nil_of_le (by rw [h.len]; exact Nat.le_refl _)]
        rfl
      have HR : Hid (implB (byteAt s) s.size L = cleanM (byteAt s) t s.size) := by
        unfold Hid implB
        rw [hfin]
      have HOp : Hid (OpenC wr G (byteAt s) t s.size L) := by
        unfold Hid
        rw [show L = L.take k from by rw [← h.len, List.take_length]]
        exact hop
      have HFin : Hid (openM s.size L (fun _ => false) = some t) := hfin
      obtain ⟨cs, xs, har, _, _, _, _⟩ := hop
      clear hst hfin
      go_wp2_with fail
      refine (clean_any G s.size (byteAt s) t cs wr har hs).mono ?_
      rintro e w6 ⟨rfl, rfl⟩
      rw [← HR.out]
      clear har
      go_wp2
      go_ret2
      exact ⟨some ⟨G, 0, none⟩, rfl, (fun _ => ⟨G, t, rfl, HFin.out, HOp.out, by omega⟩), bk⟩


end Go.Proofs.YtapdoechmnjaeaaGreatDoor.Hp
