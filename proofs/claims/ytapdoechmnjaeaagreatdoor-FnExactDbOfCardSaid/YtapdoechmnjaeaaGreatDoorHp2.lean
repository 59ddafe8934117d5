/- The live cells by where they lie: the specification's list of places. What the specification's look at a heap needs: its range test, and the look as a function. Gaps of a heap: the program's look over the bytes and the specification's over the cells are one. The program's gaps, walked. Cells that a slice owns: copied, marked, held. Cells that a slice owns are marked and held: walked. The program's Room and Gap. -/
import Derived.Test.YtapdoechmnjaeaaGreatDoorHp1
namespace Go.Proofs.YtapdoechmnjaeaaGreatDoor.Hp
open Go.RowKit Go.Sort
def clOf (L : List Cl) (i : Nat) : Cl := L.getD i cl0

def insI (L : List Cl) (i : Nat) : List Nat → List Nat
  | [] => [i]
  | x :: r => if (clOf L x).pos < (clOf L i).pos then x :: insI L i r else i :: x :: r

def stI (L : List Cl) : Nat → List Nat
  | 0 => []
  | k + 1 => if (clOf L k).live then insI L k (stI L k) else stI L k

theorem ins_at (L : List Cl) (i : Nat) : ∀ (S : List Nat) (m : Nat), m ≤ S.length → (∀ j, j < m → (clOf L (S.getD j 0)).pos < (clOf L i).pos) → (m = S.length ∨ ¬ (clOf L (S.getD m 0)).pos < (clOf L i).pos) →
    insI L i S = S.take m ++ i :: S.drop m
  | [], m, hm, _, _ => by
    have : m = 0 := by simpa using hm
    subst this
    rfl
  | x :: r, 0, _, _, he => by
    rw [insI, if_neg (by rcases he with h | h; · cases h
                         · exact h)]
    rfl
  | x :: r, m + 1, hm, hl, he => by
    rw [insI, if_pos (show (clOf L x).pos < (clOf L i).pos from hl 0 (by omega)), ins_at L i r m (by simpa using hm) (fun j hj => hl (j + 1) (by omega)) (by simpa using he)]
    rfl

theorem ins_map (L : List Cl) (i : Nat) : ∀ S : List Nat, (insI L i S).map (clOf L) = insC (clOf L i) (S.map (clOf L))
  | [] => rfl
  | x :: r => by
    rw [insI, List.map_cons, insC]
    split
    · rw [List.map_cons, ins_map L i r]
    · rfl

theorem ins_len (L : List Cl) (i : Nat) : ∀ S : List Nat, (insI L i S).length = S.length + 1
  | [] => rfl
  | x :: r => by
    rw [insI]
    split
    · simp [ins_len L i r]
    · rfl

theorem ins_mem (L : List Cl) (i : Nat) : ∀ (S : List Nat) (y : Nat), y ∈ insI L i S → y = i ∨ y ∈ S
  | [], y, h => by simp [insI] at h; exact .inl h
  | x :: r, y, h => by
    rw [insI] at h
    split at h
    · rcases List.mem_cons.1 h with h | h
      · exact .inr (by simp [h])
      · rcases ins_mem L i r y h with h | h
        · exact .inl h
        · exact .inr (by simp [h])
    · rcases List.mem_cons.1 h with h | h
      · exact .inl h
      · exact .inr h

theorem st_bound (L : List Cl) : ∀ k, (stI L k).length ≤ k ∧ ∀ y ∈ stI L k, y < k
  | 0 => ⟨by simp [stI], fun y hy => by simp [stI] at hy⟩
  | k + 1 => by
    obtain ⟨h1, h2⟩ := st_bound L k
    rw [stI]
    split
    · refine ⟨by rw [ins_len]; omega, fun y hy => ?_⟩
      rcases ins_mem L k _ y hy with h | h
      · omega
      · have := h2 y h; omega
    · exact ⟨by omega, fun y hy => by have := h2 y hy; omega⟩

theorem st_live (L : List Cl) : ∀ k, k ≤ L.length → liveC [] L = liveC ((stI L k).map (clOf L)) (L.drop k)
  | 0, _ => by simp [stI]
  | k + 1, h => by
    rw [st_live L k (by omega), drop_get (L := L) (k := k) (by omega), liveC, stI]
    show (if (clOf L k).live then _ else _) = _
    split
    · rw [ins_map]; rfl
    · rfl

theorem live_all (L : List Cl) : liveC [] L = (stI L L.length).map (clOf L) := by
  rw [st_live L L.length (Nat.le_refl _), List.drop_length]
  rfl

def ints (S : List Nat) : List Value := S.map fun (x : Nat) => Value.int .i64 (x : Int)

theorem info3 : (Tryz.prog.info? 3).map (fun i => (i.zero, i.size, i.bytes)) = some (some (.int .i64 0), 1, 8) := by kernel_rfl

theorem owns_none3 (w : World) (B : Nat) (hB : B ≤ w.heap.size) : (w.alloc (.cells #[] 3)).ownsRow B 3 1 (.slice (some ⟨w.heap.size, 0, none⟩) 0 0) 0 (ints []) :=
  ⟨rfl, .inr ⟨w.heap.size, 0, #[], rfl, hB, RowAt.new w 3 #[], by omega, by unfold maxLen; omega, by simp, by simp [ints]⟩⟩

theorem below_drewN (w : World) (q : Nat) : Below w.heap.size w (w.drewN q) := ⟨rfl, rfl, rfl, Nat.le_refl _, fun _ _ => rfl⟩

theorem below_grown {B : Nat} {w w1 w2 : World} {r : Option Nat} (b : Below B w w1) (g : w1.grownBy w2 r) (hr : ∀ x, r = some x → B ≤ x) (hB : B ≤ w1.heap.size) : Below B w w2 :=
  ⟨g.os.trans b.os, g.tape.trans b.tape, g.output.trans b.output, Nat.le_trans b.size g.size, fun i hi => (g.block i (by omega) (fun e => by have := hr i e.symm; omega)).trans (b.block i hi)⟩

theorem ints_one (S : List Nat) : ∀ u ∈ ints S, u.oneCell' = true := fun u hu => by
  unfold ints at hu
  obtain ⟨x, _, rfl⟩ := List.mem_map.1 hu
  rfl

theorem take_cell {wr : World} {S : List Nat} {A : Nat} (h : ∀ m, m < S.length → wr.cell? ⟨A, m, none⟩ = some (.int .i64 (S.getD m 0 : Nat))) (m j : Nat) (u : Value) (hj : (ints (S.take m))[j]? = some u) : wr.cell? ((⟨A, 0, none⟩ : Addr).add j) = some u := by
  rw [Addr.add_lit, Nat.zero_add]
  unfold ints at hj
  rw [List.getElem?_map] at hj
  cases hx : (S.take m)[j]? with
  | none => rw [hx] at hj; cases hj
  | some x =>
    rw [hx] at hj
    injection hj with hj
    subst hj
    rw [List.getElem?_take] at hx
    split at hx
    · obtain ⟨hl, he⟩ := List.getElem?_eq_some_iff.1 hx
      rw [h j hl, List.getD_eq_getElem?_getD, hx]
      rfl
    · cases hx

theorem drop_cell {wr : World} {S : List Nat} {A : Nat} (h : ∀ m, m < S.length → wr.cell? ⟨A, m, none⟩ = some (.int .i64 (S.getD m 0 : Nat))) (m j : Nat) (u : Value) (hj : (ints (S.drop m))[j]? = some u) : wr.cell? ((⟨A, m, none⟩ : Addr).add j) = some u := by
  rw [Addr.add_lit]
  unfold ints at hj
  rw [List.getElem?_map, List.getElem?_drop] at hj
  cases hx : S[m + j]? with
  | none => rw [hx] at hj; cases hj
  | some x =>
    rw [hx] at hj
    injection hj with hj
    subst hj
    obtain ⟨hl, he⟩ := List.getElem?_eq_some_iff.1 hx
    rw [h (m + j) hl, List.getD_eq_getElem?_getD, hx]
    rfl

theorem cell_grown' {w w1 : World} {o : Obj} (g : w.grownBy w1 none) {A : Nat} {k : Nat} {v : Value} (h : w.cell? ((⟨A, 0, none⟩ : Addr).add k) = some v) (hA : A < w.heap.size) : (w1.alloc o).cell? ((⟨A, 0, none⟩ : Addr).add k) = some v := by
  have b : Below w.heap.size w (w1.alloc o) := (Below.mk g.os g.tape g.output g.size (fun i hi => g.block i hi (by simp))).alloc g.size o
  rw [Addr.add_lit] at h ⊢
  exact (World.cell?_of_block (b.block A hA)).trans h

set_option maxHeartbeats 4000000 in
set_option maxRecDepth 100000 in
theorem live_any (s : ByteArray) (a : Option Addr) (b off n c : Nat) (L : List Cl) (w : World) (h : CellsIn w a b off n L) (hn : n ≤ 40) :
    Calls Tryz.prog 75 #[.agg #[.string s, .slice a n c]] w fun e w' => ∃ A cap, e = .returned (.slice (some ⟨A, 0, none⟩) (stI L n).length cap) ∧ w'.ownsRow w.heap.size 3 1 (.slice (some ⟨A, 0, none⟩) (stI L n).length cap) (stI L n).length (ints (stI L n)) ∧ Below w.heap.size w w' := by
  obtain ⟨i0, hi, hz0, hz1, hz2⟩ := info_parts info3
  have hl := h.len
  have hb0 : Below w.heap.size w (w.alloc (.cells #[.string s, .slice a n c] 26)) := (Below.refl _ w).alloc (Nat.le_refl _) _
  have hr0 := RowAt.new w 26 #[.string s, .slice a n c]
  have hs0 : (w.alloc (.cells #[.string s, .slice a n c] 26)).heap.size = w.heap.size + 1 := by simp
  go_enter Tryz.func75, Tryz.ntmps75
  go_wp2
  generalize w.alloc (.cells #[.string s, .slice a n c] 26) = w1 at *
  have ho1 := owns_none3 w1 (w.heap.size + 1) (by omega)
  have hb1 : Below w1.heap.size w1 (w1.alloc (.cells #[] 3)) := (Below.refl _ w1).alloc (Nat.le_refl _) _
  have hr1 := hr0.below hb1 (by omega)
  have hbb : Below w.heap.size w (w1.alloc (.cells #[] 3)) := hb0.trans (hb1.mono (by omega))
  rw [hs0] at ho1
  try rw [hs0]
  generalize w1.alloc (.cells #[] 3) = w2 at *
  go_loopw [3, 4, 5, 6] (fun out i _ _ wr => ∃ (k A cap : Nat), k ≤ n ∧ i = .int .i64 k ∧ out = .slice (some ⟨A, 0, none⟩) (stI L k).length cap ∧ wr.ownsRow (w.heap.size + 1) 3 1 out (stI L k).length (ints (stI L k)) ∧ RowAt wr w.heap.size 26 #[.string s, .slice a n c] ∧ Below w.heap.size w wr) (fun _ i _ _ _ => n - (intOf i).toNat)
  case atStart => exact ⟨0, w.heap.size + 1, 0, by omega, rfl, rfl, ho1, hr1, hbb⟩
  case round =>
    obtain ⟨k, A, cap, hk, rfl, rfl, ho, hr, bk⟩ := hrel
    have e0 := hr.cell 0
    have e1 := hr.cell 1
    simp at e0 e1
    obtain ⟨hb1', hb2'⟩ := st_bound L k
    by_cases hlt : k < n
    · obtain rfl := h.addr (by omega)
      have hlow := h.low (by omega)
      have hx := cl_below (h.cell k hlt) hlow bk
      have d0 := hx.c0
      have d3 := hx.c3
      have hxe : L.getD k cl0 = clOf L k := rfl
      rw [hxe] at d0 d3
      cases hlv : (clOf L k).live with
      | false =>
        rw [hlv] at d3
        have HS : Hid (stI L (k + 1) = stI L k) := by unfold Hid; rw [stI, hlv]; rfl
        clear hx
        go_wp2
        go_roundw
        case rel => exact ⟨k + 1, A, cap, by omega, by go_num, by rw [HS.out], by rw [HS.out]; exact ho, hr, bk⟩
        case measure => simp [intOf]; omega
      | true =>
        rw [hlv] at d3
        have HS : Hid (stI L (k + 1) = insI L k (stI L k)) := by unfold Hid; rw [stI, hlv]; rfl
        generalize hST : stI L k = S at *
        have hcapm : S.length ≤ cap ∧ cap ≤ 9223372036854775807 := by
          obtain ⟨_, ⟨h0, _⟩ | ⟨g, cp, cur, hv, _, _, q1, q2, _⟩⟩ := ho
          · cases h0
          · injection hv with _ _ hv
            subst hv
            exact ⟨q1, by simpa [maxLen] using q2⟩
        obtain ⟨hcap1, hcap2⟩ := hcapm
        have HCell : Hid (∀ m, m < S.length → wr.cell? ⟨A, m, none⟩ = some (.int .i64 (S.getD m 0 : Nat))) := fun m hm => by
          have := ho.cells rfl m (.int .i64 (S.getD m 0 : Nat)) (by unfold ints; rw [List.getElem?_map, List.getD_eq_getElem?_getD, List.getElem?_eq_getElem hm]; rfl)
          rw [Addr.add_lit, Nat.zero_add] at this
          exact this
        have HPos : Hid (∀ y, y < n → wr.cell? ⟨b, off + y * 4, none⟩ = some (.int .i64 (clOf L y).pos)) := fun y hy => (cl_below (h.cell y hy) hlow bk).c0
        have HSb : Hid (∀ y ∈ S, y < k) := hb2'
        have hAlt := (ho.lt A rfl).2
        have hAge := (ho.lt A rfl).1
        clear hb2' hx hxe
        go_wp2
        go_loopw [5] (fun at_ wr' => ∃ m q : Nat, m ≤ S.length ∧ at_ = .int .i64 m ∧ wr' = wr.drewN q ∧ Hid (∀ j, j < m → (clOf L (S.getD j 0)).pos < (clOf L k).pos)) (fun at_ _ => S.length - (intOf at_).toNat)
        case atStart => exact ⟨0, 0, by omega, rfl, rfl, fun j hj => by omega⟩
        case round =>
          obtain ⟨m, q, hm, rfl, rfl, hlts⟩ := hrel
          by_cases hml : m < S.length
          · have cy := HCell.out m hml
            have hyk : S.getD m 0 < k := HSb.out _ (by rw [List.getD_eq_getElem?_getD, List.getElem?_eq_getElem hml]; exact List.getElem_mem hml)
            have dy := HPos.out (S.getD m 0) (by omega)
            have dm : decide ((m : Int) < (S.length : Int)) = true := by simp; omega
            have HIN : Hid (¬ (clOf L (S.getD m 0)).pos < (clOf L k).pos → insI L k S = S.take m ++ k :: S.drop m) := fun hn => ins_at L k S m hm hlts.out (.inr hn)
            have HNX : Hid ((clOf L (S.getD m 0)).pos < (clOf L k).pos → ∀ j, j < m + 1 → (clOf L (S.getD j 0)).pos < (clOf L k).pos) := fun hy j hj => by
              rcases Nat.lt_succ_iff_lt_or_eq.1 hj with h | h
              · exact hlts.out j h
              · subst h; exact hy
            generalize S.getD m 0 = y at *
            generalize (clOf L y).pos = py at *
            by_cases hpy : py < (clOf L k).pos
            · have HN : Hid _ := HNX.out hpy
              go_wp2
              go_quiet ((fail))
              go_wp2
              go_roundw
              case rel => exact ⟨m + 1, _, by omega, by go_num, rfl, HN⟩
              case measure => simp [intOf]; omega
            · have HI : Hid (insI L k S = S.take m ++ k :: S.drop m) := HIN.out hpy
              have hmc : m ≤ cap := by omega
              clear HIN HNX hlts
              go_wp2
              go_quiet ((fail))
              go_wp2_with (at_builtin; refine wpList_append_own _ rfl _ _ 132 rfl wr.heap.size 3 i0 _ 1 8 Tryz.underlying132 hi hz0 hz1 hz2 rfl (by decide) _ 0 (ints []) rfl (owns_none3 (wr.drewN (q + nq)) wr.heap.size (Nat.le_refl _)) ⟨A, 0, none⟩ m cap (ints (S.take m)) rfl (by first | (simp [ints]; done) | (simp [ints]; omega)) ?c1 (ints_one _) (by unfold maxLen; omega) (by omega) (by first | (simp; done) | (simp; omega)) ?_)
              case c1 => exact fun j u hj => cell_grown' (grown_drewN wr _ none) (take_cell HCell.out m j u hj) hAlt
              intro v1 w5 hown1 hgr1 hnil1
              obtain ⟨A1, cap1, rfl⟩ : ∃ A1 cap1, v1 = .slice (some ⟨A1, 0, none⟩) m cap1 := by
                rcases Go.Joins.ownsRow_forms hown1 with ⟨h0, _⟩ | h
                · exact absurd h0 hnil1
                · exact h
              have b1 : Below wr.heap.size wr w5 := below_grown ((below_drewN wr _).alloc (Nat.le_refl _) _) hgr1 (fun x hx => by simp [Value.ownBlock] at hx; omega) (by simp)
              clear hgr1 hnil1
              have HW5 : Hid (wr.heap.size ≤ w5.heap.size) := b1.size
              go_wp2_with (at_builtin; refine wpList_append_own _ rfl _ _ 132 rfl wr.heap.size 3 i0 _ 1 8 Tryz.underlying132 hi hz0 hz1 hz2 rfl (by decide) _ m (ints [] ++ ints (S.take m)) rfl (hown1.alloc _) ⟨w5.heap.size, 0, none⟩ 1 1 (ints [k]) rfl rfl ?c1 (ints_one _) (by unfold maxLen; omega) (by omega) (by have := HW5.out; simp; omega) ?_)
              case c1 => exact cell_one_new _ _ _
              intro v2 w6 hown2 hgr2 hnil2
              obtain ⟨A2, cap2, rfl⟩ : ∃ A2 cap2, v2 = .slice (some ⟨A2, 0, none⟩) (m + 1) cap2 := by
                rcases Go.Joins.ownsRow_forms hown2 with ⟨h0, _⟩ | h
                · exact absurd h0 (by simpa using hnil2)
                · exact h
              have b2 : Below wr.heap.size wr w6 := below_grown (b1.alloc HW5.out _) hgr2 (fun x hx => (hown1.lt x hx).1) (by have := HW5.out; simp; omega)
              clear hgr2 hnil2 hown1 b1
              have HW6 : Hid (wr.heap.size ≤ w6.heap.size) := b2.size
              go_wp2_with (at_builtin; refine wpList_append_own _ rfl _ _ 132 rfl wr.heap.size 3 i0 _ 1 8 Tryz.underlying132 hi hz0 hz1 hz2 rfl (by decide) _ (m + 1) (ints [] ++ ints (S.take m) ++ ints [k]) rfl hown2 ⟨A, m, none⟩ (S.length - m) (cap - m) (ints (S.drop m)) rfl (by simp [ints]) ?c1 (ints_one _) (by unfold maxLen; omega) (by omega) HW6.out ?_)
              case c1 =>
                intro j u hj
                have h := drop_cell HCell.out m j u hj
                rw [Addr.add_lit] at h ⊢
                exact (World.cell?_of_block (b2.block A hAlt)).trans h
              intro v3 w7 hown3 hgr3 hnil3
              obtain ⟨A3, cap3, rfl⟩ : ∃ A3 cap3, v3 = .slice (some ⟨A3, 0, none⟩) (m + 1 + (S.length - m)) cap3 := by
                rcases Go.Joins.ownsRow_forms hown3 with ⟨_, h0⟩ | h
                · omega
                · exact h
              have b3 : Below wr.heap.size wr w7 := below_grown b2 hgr3 (fun x hx => (hown2.lt x hx).1) HW6.out
              have bw : Below w.heap.size w w7 := bk.trans (b3.mono (by omega))
              have hr7 := hr.below b3 (by omega)
              have HO7 : Hid (w7.ownsRow (w.heap.size + 1) 3 1 (.slice (some ⟨A3, 0, none⟩) (stI L (k + 1)).length cap3) (stI L (k + 1)).length (ints (stI L (k + 1)))) := by
                unfold Hid
                have e : m + 1 + (S.length - m) = (stI L (k + 1)).length := by rw [HS.out, ins_len]; omega
                have e2 : ints [] ++ (ints (S.take m) ++ (ints [k] ++ ints (S.drop m))) = ints (stI L (k + 1)) := by rw [HS.out, HI.out]; simp [ints]
                rw [← e, ← e2]
                exact Go.Joins.ownsRow_le hown3 (by omega)
              have e : m + 1 + (S.length - m) = (stI L (k + 1)).length := by rw [HS.out, ins_len]; omega
              rw [e]
              clear hown3 hown2 hgr3 hnil3 b2 b3 e
              go_wp2
              go_roundw
              case rel => exact ⟨k + 1, A3, cap3, by omega, by go_num, rfl, HO7.out, hr7, bw⟩
              case measure => simp [intOf]; omega
          · have dm : decide ((m : Int) < (S.length : Int)) = false := by simp; omega
            have HI : Hid (insI L k S = S.take m ++ k :: S.drop m) := ins_at L k S m hm hlts.out (.inl (by omega))
            have hmc : m ≤ cap := by omega
            clear hlts
            by_cases hcm : cap = m
            · have HD : Hid (S.drop m = []) := by unfold Hid; apply List.drop_eq_nil_of_le; omega
              have hcm' : m = cap := hcm.symm
              clear hcm
              subst hcm'
              go_wp2
              go_quiet ((fail))
              go_wp2_with (at_builtin; refine wpList_append_own _ rfl _ _ 132 rfl wr.heap.size 3 i0 _ 1 8 Tryz.underlying132 hi hz0 hz1 hz2 rfl (by decide) _ 0 (ints []) rfl (owns_none3 (wr.drewN (q + nq)) wr.heap.size (Nat.le_refl _)) ⟨A, 0, none⟩ m m (ints (S.take m)) rfl (by first | (simp [ints]; done) | (simp [ints]; omega)) ?c1 (ints_one _) (by unfold maxLen; omega) (by omega) (by first | (simp; done) | (simp; omega)) ?_)
              case c1 => exact fun j u hj => cell_grown' (grown_drewN wr _ none) (take_cell HCell.out m j u hj) hAlt
              intro v1 w5 hown1 hgr1 hnil1
              obtain ⟨A1, cap1, rfl⟩ : ∃ A1 cap1, v1 = .slice (some ⟨A1, 0, none⟩) m cap1 := by
                rcases Go.Joins.ownsRow_forms hown1 with ⟨h0, _⟩ | h
                · exact absurd h0 hnil1
                · exact h
              have b1 : Below wr.heap.size wr w5 := below_grown ((below_drewN wr _).alloc (Nat.le_refl _) _) hgr1 (fun x hx => by simp [Value.ownBlock] at hx; omega) (by simp)
              clear hgr1 hnil1
              have HW5 : Hid (wr.heap.size ≤ w5.heap.size) := b1.size
              go_wp2_with (at_builtin; refine wpList_append_own _ rfl _ _ 132 rfl wr.heap.size 3 i0 _ 1 8 Tryz.underlying132 hi hz0 hz1 hz2 rfl (by decide) _ m (ints [] ++ ints (S.take m)) rfl (hown1.alloc _) ⟨w5.heap.size, 0, none⟩ 1 1 (ints [k]) rfl rfl ?c1 (ints_one _) (by unfold maxLen; omega) (by omega) (by have := HW5.out; simp; omega) ?_)
              case c1 => exact cell_one_new _ _ _
              intro v2 w6 hown2 hgr2 hnil2
              obtain ⟨A2, cap2, rfl⟩ : ∃ A2 cap2, v2 = .slice (some ⟨A2, 0, none⟩) (m + 1) cap2 := by
                rcases Go.Joins.ownsRow_forms hown2 with ⟨h0, _⟩ | h
                · exact absurd h0 (by simpa using hnil2)
                · exact h
              have b2 : Below wr.heap.size wr w6 := below_grown (b1.alloc HW5.out _) hgr2 (fun x hx => (hown1.lt x hx).1) (by have := HW5.out; simp; omega)
              clear hgr2 hnil2 hown1 b1
              have HW6 : Hid (wr.heap.size ≤ w6.heap.size) := b2.size
              go_wp2_with (at_builtin; refine wpList_append_own _ rfl _ _ 132 rfl wr.heap.size 3 i0 _ 1 8 Tryz.underlying132 hi hz0 hz1 hz2 rfl (by decide) _ (m + 1) (ints [] ++ ints (S.take m) ++ ints [k]) rfl hown2 _ _ _ (ints (S.drop m)) rfl (by rw [HD.out]; rfl) ?c1 (ints_one _) (by unfold maxLen; omega) (by omega) HW6.out ?_)
              case c1 =>
                intro j u hj
                rw [HD.out] at hj
                cases hj
              intro v3 w7 hown3 hgr3 hnil3
              obtain ⟨A3, cap3, rfl⟩ : ∃ A3 cap3, v3 = .slice (some ⟨A3, 0, none⟩) (m + 1) cap3 := by
                rcases Go.Joins.ownsRow_forms hown3 with ⟨_, h0⟩ | h
                · omega
                · exact h
              have b3 : Below wr.heap.size wr w7 := below_grown b2 hgr3 (fun x hx => (hown2.lt x hx).1) HW6.out
              have bw : Below w.heap.size w w7 := bk.trans (b3.mono (by omega))
              have hr7 := hr.below b3 (by omega)
              have HO7 : Hid (w7.ownsRow (w.heap.size + 1) 3 1 (.slice (some ⟨A3, 0, none⟩) (stI L (k + 1)).length cap3) (stI L (k + 1)).length (ints (stI L (k + 1)))) := by
                unfold Hid
                have e : m + 1 = (stI L (k + 1)).length := by rw [HS.out, ins_len]; omega
                have e2 : ints [] ++ (ints (S.take m) ++ (ints [k] ++ ints (S.drop m))) = ints (stI L (k + 1)) := by rw [HS.out, HI.out]; simp [ints]
                rw [← e, ← e2]
                exact Go.Joins.ownsRow_le hown3 (by omega)
              have e : m + 1 = (stI L (k + 1)).length := by rw [HS.out, ins_len]; omega
              rw [e]
              clear hown3 hown2 hgr3 hnil3 b2 b3 e
              go_wp2
              go_roundw
              case rel => exact ⟨k + 1, A3, cap3, by omega, by go_num, rfl, HO7.out, hr7, bw⟩
              case measure => simp [intOf]; omega
            · go_wp2
              go_quiet ((fail))
              go_wp2_with (at_builtin; refine wpList_append_own _ rfl _ _ 132 rfl wr.heap.size 3 i0 _ 1 8 Tryz.underlying132 hi hz0 hz1 hz2 rfl (by decide) _ 0 (ints []) rfl (owns_none3 (wr.drewN (q + nq)) wr.heap.size (Nat.le_refl _)) ⟨A, 0, none⟩ m cap (ints (S.take m)) rfl (by first | (simp [ints]; done) | (simp [ints]; omega)) ?c1 (ints_one _) (by unfold maxLen; omega) (by omega) (by first | (simp; done) | (simp; omega)) ?_)
              case c1 => exact fun j u hj => cell_grown' (grown_drewN wr _ none) (take_cell HCell.out m j u hj) hAlt
              intro v1 w5 hown1 hgr1 hnil1
              obtain ⟨A1, cap1, rfl⟩ : ∃ A1 cap1, v1 = .slice (some ⟨A1, 0, none⟩) m cap1 := by
                rcases Go.Joins.ownsRow_forms hown1 with ⟨h0, _⟩ | h
                · exact absurd h0 hnil1
                · exact h
              have b1 : Below wr.heap.size wr w5 := below_grown ((below_drewN wr _).alloc (Nat.le_refl _) _) hgr1 (fun x hx => by simp [Value.ownBlock] at hx; omega) (by simp)
              clear hgr1 hnil1
              have HW5 : Hid (wr.heap.size ≤ w5.heap.size) := b1.size
              go_wp2_with (at_builtin; refine wpList_append_own _ rfl _ _ 132 rfl wr.heap.size 3 i0 _ 1 8 Tryz.underlying132 hi hz0 hz1 hz2 rfl (by decide) _ m (ints [] ++ ints (S.take m)) rfl (hown1.alloc _) ⟨w5.heap.size, 0, none⟩ 1 1 (ints [k]) rfl rfl ?c1 (ints_one _) (by unfold maxLen; omega) (by omega) (by have := HW5.out; simp; omega) ?_)
              case c1 => exact cell_one_new _ _ _
              intro v2 w6 hown2 hgr2 hnil2
              obtain ⟨A2, cap2, rfl⟩ : ∃ A2 cap2, v2 = .slice (some ⟨A2, 0, none⟩) (m + 1) cap2 := by
                rcases Go.Joins.ownsRow_forms hown2 with ⟨h0, _⟩ | h
                · exact absurd h0 (by simpa using hnil2)
                · exact h
              have b2 : Below wr.heap.size wr w6 := below_grown (b1.alloc HW5.out _) hgr2 (fun x hx => (hown1.lt x hx).1) (by have := HW5.out; simp; omega)
              clear hgr2 hnil2 hown1 b1
              have HW6 : Hid (wr.heap.size ≤ w6.heap.size) := b2.size
              go_wp2_with (at_builtin; refine wpList_append_own _ rfl _ _ 132 rfl wr.heap.size 3 i0 _ 1 8 Tryz.underlying132 hi hz0 hz1 hz2 rfl (by decide) _ (m + 1) (ints [] ++ ints (S.take m) ++ ints [k]) rfl hown2 ⟨A, m, none⟩ (S.length - m) (cap - m) (ints (S.drop m)) rfl (by simp [ints]) ?c1 (ints_one _) (by unfold maxLen; omega) (by omega) HW6.out ?_)
              case c1 =>
                intro j u hj
                have h := drop_cell HCell.out m j u hj
                rw [Addr.add_lit] at h ⊢
                exact (World.cell?_of_block (b2.block A hAlt)).trans h
              intro v3 w7 hown3 hgr3 hnil3
              obtain ⟨A3, cap3, rfl⟩ : ∃ A3 cap3, v3 = .slice (some ⟨A3, 0, none⟩) (m + 1 + (S.length - m)) cap3 := by
                rcases Go.Joins.ownsRow_forms hown3 with ⟨_, h0⟩ | h
                · omega
                · exact h
              have b3 : Below wr.heap.size wr w7 := below_grown b2 hgr3 (fun x hx => (hown2.lt x hx).1) HW6.out
              have bw : Below w.heap.size w w7 := bk.trans (b3.mono (by omega))
              have hr7 := hr.below b3 (by omega)
              have HO7 : Hid (w7.ownsRow (w.heap.size + 1) 3 1 (.slice (some ⟨A3, 0, none⟩) (stI L (k + 1)).length cap3) (stI L (k + 1)).length (ints (stI L (k + 1)))) := by
                unfold Hid
                have e : m + 1 + (S.length - m) = (stI L (k + 1)).length := by rw [HS.out, ins_len]; omega
                have e2 : ints [] ++ (ints (S.take m) ++ (ints [k] ++ ints (S.drop m))) = ints (stI L (k + 1)) := by rw [HS.out, HI.out]; simp [ints]
                rw [← e, ← e2]
                exact Go.Joins.ownsRow_le hown3 (by omega)
              have e : m + 1 + (S.length - m) = (stI L (k + 1)).length := by rw [HS.out, ins_len]; omega
              rw [e]
              clear hown3 hown2 hgr3 hnil3 b2 b3 e
              go_wp2
              go_roundw
              case rel => exact ⟨k + 1, A3, cap3, by omega, by go_num, rfl, HO7.out, hr7, bw⟩
              case measure => simp [intOf]; omega
    · obtain rfl : k = n := by omega
      have HO : Hid (wr.ownsRow w.heap.size 3 1 (.slice (some ⟨A, 0, none⟩) (stI L k).length cap) (stI L k).length (ints (stI L k))) := Go.Joins.ownsRow_le ho (by omega)
      clear ho hr
      go_wp2
      go_ret
      exact ⟨_, _, rfl, HO.out, bk⟩
end Go.Proofs.YtapdoechmnjaeaaGreatDoor.Hp

namespace Go.Proofs.YtapdoechmnjaeaaGreatDoor.Hp
open Go.RowKit Go.Sort
theorem in_yes (n a b : Int) (w : World) (h : a ≤ n ∧ n ≤ b) : Calls Tryz.prog 77 #[.int .i64 n, .int .i64 a, .int .i64 b] w fun e w' => e = .returned (.bool true) ∧ w' = w := by
  obtain ⟨h1, h2⟩ := h
  go_enter Tryz.func77, Tryz.ntmps77
  go_wp2
  go_ret
  exact ⟨rfl, rfl⟩

theorem in_no (n a b : Int) (w : World) (h : ¬ (a ≤ n ∧ n ≤ b)) : Calls Tryz.prog 77 #[.int .i64 n, .int .i64 a, .int .i64 b] w fun e w' => e = .returned (.bool false) ∧ w' = w := by
  by_cases h1 : a ≤ n
  · have h2 : ¬ n ≤ b := by omega
    go_enter Tryz.func77, Tryz.ntmps77
    go_wp2
    go_ret
    exact ⟨rfl, rfl⟩
  · go_enter Tryz.func77, Tryz.ntmps77
    go_wp2
    go_ret
    exact ⟨rfl, rfl⟩

theorem heap_spec {s : ByteArray} {L : List Cl} (h1 : s.size ≤ 3000) (h2 : L.length ≤ 40) : heapB s L = specB (byteAt s) s.size L := by
  unfold heapB
  rw [decide_eq_true ⟨h1, h2⟩, Bool.true_and, impl_spec _ _ h1]

theorem spec_no {s : ByteArray} {L : List Cl} (h1 : s.size ≤ 3000) (h2 : L.length ≤ 40) {k : Nat} (hk : k < L.length) (h : specCellB s.size (L.getD k cl0) = false) : heapB s L = false := by
  rw [heap_spec h1 h2]
  unfold specB
  have : L.all (specCellB s.size) = false := by
    rw [List.all_eq_false]
    refine ⟨L.getD k cl0, ?_, by rw [h]; simp⟩
    rw [List.getD_eq_getElem?_getD, List.getElem?_eq_getElem hk]
    exact List.getElem_mem hk
  rw [this, Bool.false_and]

def AllTo (s : ByteArray) (L : List Cl) (k : Nat) : Prop := ∀ i, i < k → specCellB s.size (L.getD i cl0) = true

theorem allTo_next {s : ByteArray} {L : List Cl} {k : Nat} (h : AllTo s L k) (hk : specCellB s.size (L.getD k cl0) = true) : AllTo s L (k + 1) := fun i hi => by
  rcases Nat.lt_succ_iff_lt_or_eq.1 hi with h1 | h1
  · exact h i h1
  · rw [h1]; exact hk

theorem allTo_end {s : ByteArray} {L : List Cl} (h1 : s.size ≤ 3000) (h2 : L.length ≤ 40) (h : AllTo s L L.length) : heapB s L = sweepB (byteAt s) s.size ((stI L L.length).map (clOf L)) 0 := by
  rw [heap_spec h1 h2]
  unfold specB
  have : L.all (specCellB s.size) = true := by
    rw [List.all_eq_true]
    intro x hx
    obtain ⟨i, hi, rfl⟩ := List.getElem_of_mem hx
    have := h i hi
    rw [List.getD_eq_getElem?_getD, List.getElem?_eq_getElem hi] at this
    exact this
  rw [this, Bool.true_and, live_all]

end Go.Proofs.YtapdoechmnjaeaaGreatDoor.Hp

namespace Go.Proofs.YtapdoechmnjaeaaGreatDoor.Hp

def bump : List (Nat × Nat) → List (Nat × Nat)
  | [] => []
  | [x] => [(x.1, x.2 + 1)]
  | x :: y :: r => x :: bump (y :: r)

theorem bump_last : ∀ (G : List (Nat × Nat)) (a k : Nat), bump (G ++ [(a, k)]) = G ++ [(a, k + 1)]
  | [], _, _ => rfl
  | [x], a, k => rfl
  | x :: y :: r, a, k => by
    have := bump_last (y :: r) a k
    simp only [List.cons_append] at this ⊢
    rw [bump, this]

def stepG (i : Nat) (b : Bool) (s : List (Nat × Nat) × Bool) : List (Nat × Nat) × Bool :=
  if b then (s.1, false) else if s.2 then (bump s.1, true) else (s.1 ++ [(i, 1)], true)

def scanM (t : Nat → Bool) : Nat → List (Nat × Nat) × Bool
  | 0 => ([], false)
  | k + 1 => stepG k (t k) (scanM t k)

theorem scan_free {t : Nat → Bool} {e : Nat} {G : List (Nat × Nat)} (h : scanM t e = (G, false)) : ∀ k, (∀ i, e ≤ i → i < e + (k + 1) → t i = false) → scanM t (e + (k + 1)) = (G ++ [(e, k + 1)], true)
  | 0, hf => by
    rw [show e + (0 + 1) = e + 1 from rfl, scanM, h, hf e (Nat.le_refl _) (by omega)]
    rfl
  | k + 1, hf => by
    have ih := scan_free h k (fun i h1 h2 => hf i h1 (by omega))
    rw [show e + (k + 1 + 1) = (e + (k + 1)) + 1 from rfl, scanM, ih, hf (e + (k + 1)) (by omega) (by omega)]
    simp [stepG, bump_last]

theorem scan_taken {t : Nat → Bool} {e : Nat} {G : List (Nat × Nat)} {b : Bool} (h : scanM t e = (G, b)) : ∀ k, (∀ i, e ≤ i → i < e + (k + 1) → t i = true) → scanM t (e + (k + 1)) = (G, false)
  | 0, hf => by
    rw [show e + (0 + 1) = e + 1 from rfl, scanM, h, hf e (Nat.le_refl _) (by omega)]
    rfl
  | k + 1, hf => by
    have ih := scan_taken h k (fun i h1 h2 => hf i h1 (by omega))
    rw [show e + (k + 1 + 1) = (e + (k + 1)) + 1 from rfl, scanM, ih, hf (e + (k + 1)) (by omega) (by omega)]
    rfl

/-- Between the cells, from e on: where it begins and how many bytes it has, perhaps none. -/
def gapsAll (n : Nat) : List Cl → Nat → List (Nat × Nat)
  | [], e => [(e, n - e)]
  | c :: r, e => (e, c.pos.toNat - e) :: gapsAll n r (c.pos + c.len).toNat

def nz (l : List (Nat × Nat)) : List (Nat × Nat) := l.filter fun g => g.2 != 0

theorem nz_cons (e k : Nat) (l : List (Nat × Nat)) : nz ((e, k) :: l) = (if k = 0 then [] else [(e, k)]) ++ nz l := by
  unfold nz
  by_cases h : k = 0
  · rw [List.filter_cons_of_neg (by simp [h]), if_pos h, List.nil_append]
  · rw [List.filter_cons_of_pos (by simp [h]), if_neg h]
    rfl

theorem scan_gap {t : Nat → Bool} {e k : Nat} {G : List (Nat × Nat)} (h : scanM t e = (G, false)) (hf : ∀ i, e ≤ i → i < e + k → t i = false) : ∃ b, scanM t (e + k) = (G ++ (if k = 0 then [] else [(e, k)]), b) := by
  cases k with
  | zero => exact ⟨false, by rw [if_pos rfl, List.append_nil]; exact h⟩
  | succ k => exact ⟨true, by rw [if_neg (by omega)]; exact scan_free h k hf⟩

theorem scan_sweep (n : Nat) (t : Nat → Bool) : ∀ (S : List Cl) (e : Nat) (G : List (Nat × Nat)), (∀ c ∈ S, Ok n c) → Sorted S → S.Pairwise Disj → (∀ c ∈ S, (e : Int) ≤ c.pos) → e ≤ n → (∀ i, e ≤ i → t i = S.any fun c => covers c i) →
    scanM t e = (G, false) → (scanM t n).1 = G ++ nz (gapsAll n S e)
  | [], e, G, _, _, _, _, he, ht, hs => by
    obtain ⟨b, hb⟩ := scan_gap (k := n - e) hs (fun i h1 _ => by rw [ht i h1]; rfl)
    rw [show e + (n - e) = n from by omega] at hb
    rw [hb, gapsAll, nz_cons]
    simp [nz]
  | c :: r, e, G, hok, hso, hd, hp, he, ht, hs => by
    obtain ⟨hl, h1, h2, h3⟩ := hok c (by simp)
    rw [Sorted, List.pairwise_cons] at hso
    rw [List.pairwise_cons] at hd
    have hpc := hp c (by simp)
    have hr : ∀ x ∈ r, (((c.pos + c.len).toNat : Nat) : Int) ≤ x.pos := fun x hx => by
      have hx2 := hso.1 x hx
      obtain ⟨_, q1, q2, q3⟩ := hok x (by simp [hx])
      rcases hd.1 x hx with h | h <;> omega
    have hcov : ∀ i : Nat, (∀ x ∈ r, ¬ (x.pos ≤ i)) → (r.any fun x => covers x i) = false := fun i hi => by
      rw [Bool.eq_false_iff]
      intro h
      obtain ⟨x, hx, hxi⟩ := List.any_eq_true.1 h
      have := (covers_iff x i (hok x (by simp [hx])).1).1 hxi
      exact hi x hx this.1
    obtain ⟨b, hb⟩ := scan_gap (k := c.pos.toNat - e) hs (fun i h4 h5 => by
      rw [ht i h4, List.any_cons, hcov i (fun x hx hxi => by have := hr x hx; omega), Bool.or_false, Bool.eq_false_iff]
      intro h
      have := (covers_iff c i hl).1 h
      omega)
    rw [show e + (c.pos.toNat - e) = c.pos.toNat from by omega] at hb
    have hk := scan_taken hb (c.len.toNat - 1) (fun i h4 h5 => by
      rw [ht i (by omega), List.any_cons, (covers_iff c i hl).2 (by omega), Bool.true_or])
    rw [show c.pos.toNat + (c.len.toNat - 1 + 1) = (c.pos + c.len).toNat from by omega] at hk
    have ih := scan_sweep n t r (c.pos + c.len).toNat _ (fun x hx => hok x (by simp [hx])) hso.2 hd.2 hr (by omega) (fun i hi => by
      rw [ht i (by omega), List.any_cons]
      have : covers c i = false := by
        rw [Bool.eq_false_iff]
        intro h
        have := (covers_iff c i hl).1 h
        omega
      rw [this, Bool.false_or]) hk
    rw [ih, gapsAll, nz_cons, List.append_assoc]

def sumG (l : List (Nat × Nat)) : Int := l.foldl (fun a g => a + (g.2 : Int)) 0
def maxG (l : List (Nat × Nat)) : Int := l.foldl (fun a g => max a (g.2 : Int)) 0

theorem foldl_nz (f : Int → Int → Int) (P : Int → Prop) (h0 : ∀ a, P a → f a 0 = a) (hP : ∀ a (k : Nat), P a → P (f a k)) : ∀ (l : List (Nat × Nat)) (a : Int), P a → (nz l).foldl (fun a g => f a (g.2 : Int)) a = l.foldl (fun a g => f a (g.2 : Int)) a
  | [], a, _ => rfl
  | g :: r, a, ha => by
    obtain ⟨e, k⟩ := g
    rw [nz_cons, List.foldl_cons]
    by_cases hk : k = 0
    · subst hk
      rw [if_pos rfl, List.nil_append, foldl_nz f P h0 hP r a ha]
      show _ = List.foldl _ (f a 0) r
      rw [h0 a ha]
    · rw [if_neg hk, List.singleton_append, List.foldl_cons]
      exact foldl_nz f P h0 hP r _ (hP a k ha)

theorem sum_nz (l : List (Nat × Nat)) : sumG (nz l) = sumG l := foldl_nz (fun a k => a + k) (fun _ => True) (fun a _ => by simp) (fun _ _ _ => trivial) l 0 trivial
theorem max_nz (l : List (Nat × Nat)) : maxG (nz l) = maxG l := foldl_nz (fun a k => max a k) (fun a => 0 ≤ a) (fun _ h => Int.max_eq_left h) (fun _ _ h => Int.le_trans h (Int.le_max_left _ _)) l 0 (Int.le_refl 0)

def lens (S : List Cl) : Int := (S.map (·.len)).sum

theorem sum_all (n : Nat) : ∀ (S : List Cl) (e : Nat) (a : Int), (∀ c ∈ S, Ok n c) → Sorted S → S.Pairwise Disj → (∀ c ∈ S, (e : Int) ≤ c.pos) → e ≤ n → (gapsAll n S e).foldl (fun a g => a + (g.2 : Int)) a = a + n - e - lens S
  | [], e, a, _, _, _, _, he => by
    simp [gapsAll, lens]
    omega
  | c :: r, e, a, hok, hso, hd, hp, he => by
    obtain ⟨hl, h1, h2, h3⟩ := hok c (by simp)
    rw [Sorted, List.pairwise_cons] at hso
    rw [List.pairwise_cons] at hd
    have hpc := hp c (by simp)
    have hr : ∀ x ∈ r, (((c.pos + c.len).toNat : Nat) : Int) ≤ x.pos := fun x hx => by
      have hx2 := hso.1 x hx
      obtain ⟨_, q1, q2, q3⟩ := hok x (by simp [hx])
      rcases hd.1 x hx with h | h <;> omega
    rw [gapsAll, List.foldl_cons, sum_all n r _ _ (fun x hx => hok x (by simp [hx])) hso.2 hd.2 hr (by omega)]
    simp only [lens, List.map_cons, List.sum_cons]
    omega

theorem sum_perm {a b : List Int} (h : a.Perm b) : a.sum = b.sum := by
  induction h with
  | nil => rfl
  | cons x _ ih => rw [List.sum_cons, List.sum_cons, ih]
  | swap x y l => simp only [List.sum_cons]; omega
  | trans _ _ ih1 ih2 => exact ih1.trans ih2

theorem lens_live (n : Nat) : ∀ L : List Cl, L.all (admitB n) = true → lens (L.filter (·.live)) = lens L
  | [], _ => rfl
  | c :: r, h => by
    rw [List.all_cons, Bool.and_eq_true] at h
    have ih := lens_live n r h.2
    cases hl : c.live with
    | true =>
      rw [List.filter_cons_of_pos hl]
      simp only [lens, List.map_cons, List.sum_cons] at ih ⊢
      rw [ih]
    | false =>
      rw [List.filter_cons_of_neg (by simp [hl])]
      have : c.len = 0 := by
        have h1 := h.1
        unfold admitB at h1
        rw [hl] at h1
        simp at h1
        omega
      simp only [lens, List.map_cons, List.sum_cons] at ih ⊢
      rw [ih, this]
      omega

/-- What a right heap gives: the sorted live cells, and the bytes that are taken. -/
structure Right (n : Nat) (L : List Cl) (t : Nat → Bool) : Prop where
  ok : ∀ c ∈ liveC [] L, Ok n c
  sorted : Sorted (liveC [] L)
  disj : (liveC [] L).Pairwise Disj
  all : L.all (admitB n) = true
  taken : ∀ i, t i = (liveC [] L).any fun c => covers c i

theorem right_of_open {n : Nat} {L : List Cl} {t : Nat → Bool} (h : openM n L (fun _ => false) = some t) : Right n L t := by
  obtain ⟨a1, a2, _, a4⟩ := (open_iff n L _ t).1 h
  have hP := liveC_perm L []
  rw [List.nil_append] at hP
  refine ⟨fun c hc => ?_, liveC_sorted L [] List.Pairwise.nil, (hP.pairwise_iff (fun h => Disj.symm h)).2 a2, a1, fun i => ?_⟩
  · have hm := hP.mem_iff.1 hc
    exact admit_ok (List.all_eq_true.1 a1 c (List.mem_filter.1 hm).1) (List.mem_filter.1 hm).2
  · rw [a4]
    show (false || _) = _
    rw [Bool.false_or, Bool.eq_iff_iff, List.any_eq_true, List.any_eq_true]
    exact ⟨fun ⟨x, hx, h⟩ => ⟨x, hP.mem_iff.2 hx, h⟩, fun ⟨x, hx, h⟩ => ⟨x, hP.mem_iff.1 hx, h⟩⟩

theorem Right.low {n : Nat} {L : List Cl} {t : Nat → Bool} (h : Right n L t) : ∀ c ∈ liveC [] L, ((0 : Nat) : Int) ≤ c.pos := fun c hc => (h.ok c hc).2.2.1

theorem Right.scan {n : Nat} {L : List Cl} {t : Nat → Bool} (h : Right n L t) : (scanM t n).1 = nz (gapsAll n (liveC [] L) 0) := by
  have := scan_sweep n t (liveC [] L) 0 [] h.ok h.sorted h.disj h.low (by omega) (fun i _ => h.taken i) rfl
  rwa [List.nil_append] at this

theorem Right.room {n : Nat} {L : List Cl} {t : Nat → Bool} (h : Right n L t) : sumG (scanM t n).1 = n - lens L := by
  rw [h.scan, sum_nz]
  have := sum_all n (liveC [] L) 0 0 h.ok h.sorted h.disj h.low (by omega)
  unfold sumG
  rw [this]
  have hP := liveC_perm L []
  rw [List.nil_append] at hP
  have : lens (liveC [] L) = lens L := by
    rw [← lens_live n L h.all]
    exact sum_perm (hP.map _)
  rw [this]
  simp

theorem Right.gap {n : Nat} {L : List Cl} {t : Nat → Bool} (h : Right n L t) : maxG (scanM t n).1 = maxG (gapsAll n (liveC [] L) 0) := by
  rw [h.scan, max_nz]
end Go.Proofs.YtapdoechmnjaeaaGreatDoor.Hp

namespace Go.Proofs.YtapdoechmnjaeaaGreatDoor.Hp
open Go.RowKit Go.Sort
def flatG (G : List (Nat × Nat)) : List Value := G.flatMap fun x => [.int .i64 x.1, .int .i64 x.2]

theorem flatG_len : ∀ G : List (Nat × Nat), (flatG G).length = G.length * 2
  | [] => rfl
  | x :: r => by
    have := flatG_len r
    simp only [flatG, List.flatMap_cons, List.length_append, List.length_cons, List.length_nil] at this ⊢
    omega

theorem flatG_app (G H : List (Nat × Nat)) : flatG (G ++ H) = flatG G ++ flatG H := by
  unfold flatG
  rw [List.flatMap_append]

theorem flatG_last (G : List (Nat × Nat)) (a k : Nat) : (flatG (G ++ [(a, k)]))[G.length * 2 + 1]? = some (.int .i64 k) := by
  rw [flatG_app, List.getElem?_append_right (by rw [flatG_len]; omega), flatG_len]
  rw [show G.length * 2 + 1 - G.length * 2 = 1 from by omega]
  rfl

theorem flatG_set (G : List (Nat × Nat)) (a k m : Nat) : (flatG (G ++ [(a, k)])).set (G.length * 2 + 1) (.int .i64 m) = flatG (G ++ [(a, m)]) := by
  rw [flatG_app, flatG_app, List.set_append_right _ _ (by rw [flatG_len]; omega), flatG_len]
  rw [show G.length * 2 + 1 - G.length * 2 = 1 from by omega]
  rfl

theorem scan_shape (t : Nat → Bool) : ∀ k, ((scanM t k).2 = true → ∃ G a l, (scanM t k).1 = G ++ [(a, l)] ∧ l ≤ k) ∧ (scanM t k).1.length ≤ k
  | 0 => ⟨fun h => by simp [scanM] at h, by simp [scanM]⟩
  | k + 1 => by
    obtain ⟨h1, h2⟩ := scan_shape t k
    rw [scanM, stepG]
    split
    · exact ⟨fun h => (by simp at h), by show (scanM t k).1.length ≤ _; omega⟩
    · split
      · rename_i h
        obtain ⟨G, a, l, e, hl⟩ := h1 h
        rw [e, bump_last]
        rw [e] at h2
        simp at h2
        exact ⟨fun _ => ⟨G, a, l + 1, rfl, by omega⟩, by simp; omega⟩
      · exact ⟨fun _ => ⟨_, k, 1, rfl, by omega⟩, by simp; omega⟩

theorem owns_set {w : World} {B : Nat} {e : TypeId} {size n A cap j : Nat} {xs : List Value} {u : Value} (h : w.ownsRow B e size (.slice (some ⟨A, 0, none⟩) n cap) n xs) :
    (w.setCell ⟨A, j, none⟩ u).ownsRow B e size (.slice (some ⟨A, 0, none⟩) n cap) n (xs.set j u) := by
  obtain ⟨hl, h | ⟨g, c, cur, hv, hb, hg, h1, h2, h3, h4⟩⟩ := h
  · cases h.1
  · simp only [Value.slice.injEq, Option.some.injEq, Addr.mk.injEq] at hv
    obtain ⟨⟨rfl, _⟩, _, rfl⟩ := hv
    refine ⟨by rw [List.length_set]; exact hl, .inr ⟨A, cap, cur.setIfInBounds j u, rfl, hb, RowAt.set (w := w) (T := e) (C := cur) hg j u, h1, h2, by rw [Array.size_setIfInBounds]; exact h3, ?_⟩⟩
    rw [Array.toList_setIfInBounds, List.take_set, h4]

theorem owns_frozen {w : World} {B : Nat} {e : TypeId} {size n A cap : Nat} {xs : List Value} (h : w.ownsRow B e size (.slice (some ⟨A, 0, none⟩) n cap) n xs) (j : Nat) : w.frozen? ⟨A, j, none⟩ = false := by
  obtain ⟨hl, h | ⟨g, c, cur, hv, hb, hg, _⟩⟩ := h
  · cases h.1
  · simp only [Value.slice.injEq, Option.some.injEq, Addr.mk.injEq] at hv
    obtain ⟨⟨rfl, _⟩, _⟩ := hv
    exact RowAt.frozen (w := w) (T := e) (C := cur) hg j


end Go.Proofs.YtapdoechmnjaeaaGreatDoor.Hp

namespace Go.Proofs.YtapdoechmnjaeaaGreatDoor.Hp
open Go.RowKit Go.Sort
def flatC (L : List Cl) : List Value := L.flatMap fun x => (clV x).toList

theorem flatC_len : ∀ L : List Cl, (flatC L).length = L.length * 4
  | [] => rfl
  | x :: r => by
    have := flatC_len r
    simp only [flatC, List.flatMap_cons, List.length_append, List.length_cons, List.length_nil] at this ⊢
    omega

theorem flatC_app (G H : List Cl) : flatC (G ++ H) = flatC G ++ flatC H := by
  unfold flatC
  rw [List.flatMap_append]

theorem split_at (L : List Cl) (k : Nat) (h : k < L.length) : L = L.take k ++ (L.getD k cl0 :: L.drop (k + 1)) := by
  rw [List.getD_eq_getElem?_getD, List.getElem?_eq_getElem h]
  simp

theorem flatC_at (L : List Cl) (k j : Nat) (h : k < L.length) (hj : j < 4) : (flatC L)[k * 4 + j]? = (clV (L.getD k cl0))[j]? := by
  have e := split_at L k h
  have hl : (flatC (L.take k)).length = k * 4 := by rw [flatC_len, List.length_take]; omega
  generalize L.getD k cl0 = x at *
  rw [e, flatC_app, List.getElem?_append_right (by rw [hl]; omega), hl, show k * 4 + j - k * 4 = j from by omega]
  show ((clV x).toList ++ flatC (L.drop (k + 1)))[j]? = _
  rw [List.getElem?_append_left (by simp; omega), Array.getElem?_toList]

/-- One cell of the row put anew. -/
def putC (L : List Cl) (k : Nat) (x : Cl) : List Cl := L.set k x

theorem flatC_set (L : List Cl) (k : Nat) (x : Cl) (h : k < L.length) : ((((flatC L).set (k * 4) (.int .i64 x.pos)).set (k * 4 + 1) (.int .i64 x.len)).set (k * 4 + 2) (.int .i64 x.gen)).set (k * 4 + 3) (.bool x.live) = flatC (L.set k x) := by
  have e := split_at L k h
  have hl : (flatC (L.take k)).length = k * 4 := by rw [flatC_len, List.length_take]; omega
  have e2 : L.set k x = L.take k ++ (x :: L.drop (k + 1)) := by
    rw [List.set_eq_take_append_cons_drop, if_pos h]
  generalize L.getD k cl0 = y at *
  rw [e2, flatC_app]
  conv => lhs; rw [e, flatC_app]
  have s : ∀ (A B : List Value) (j : Nat) (v : Value), A.length = k * 4 → (A ++ B).set (k * 4 + j) v = A ++ B.set j v := fun A B j v hA => by
    rw [List.set_append_right _ _ (by omega), hA, show k * 4 + j - k * 4 = j from by omega]
  have s0 : (flatC (L.take k) ++ flatC (y :: L.drop (k + 1))).set (k * 4) (.int .i64 x.pos) = _ := s (flatC (L.take k)) (flatC (y :: L.drop (k + 1))) 0 (.int .i64 x.pos) hl
  rw [s0, s _ _ 1 _ hl, s _ _ 2 _ hl, s _ _ 3 _ hl]
  rfl

theorem owns_cellsIn {w : World} {B n cap A : Nat} {L : List Cl} (h : w.ownsRow B 131 4 (.slice (some ⟨A, 0, none⟩) n cap) n (flatC L)) : CellsIn w (some ⟨A, 0, none⟩) A 0 n L := by
  have hl : L.length = n := by
    have := h.1
    rw [flatC_len] at this
    omega
  refine ⟨hl, fun _ => rfl, fun _ => (h.lt A rfl).2, fun i hi => ?_⟩
  have g : ∀ j, j < 4 → w.cell? ⟨A, 0 + i * 4 + j, none⟩ = (clV (L.getD i cl0))[j]? := fun j hj => by
    have e := flatC_at L i j (by omega) hj
    have hs : j < (clV (L.getD i cl0)).size := hj
    rw [Array.getElem?_eq_getElem hs] at e ⊢
    have := h.cells rfl (i * 4 + j) _ e
    rw [Addr.add_lit, Nat.zero_add] at this
    rw [Nat.zero_add]
    exact this
  exact ⟨g 0 (by omega), g 1 (by omega), g 2 (by omega), g 3 (by omega)⟩

theorem cellsIn_none {w : World} {a : Option Addr} {A : Nat} : CellsIn w a A 0 0 [] := ⟨rfl, fun h => by omega, fun h => by omega, fun i hi => by omega⟩

/-- What is marked into n cells, from k on. -/
def marks (k : Nat) : Nat → List Cl
  | 0 => []
  | n + 1 => ⟨(k : Int), (k + 1 : Nat), (k + 2 : Nat), decide ((k + 3) % 3 = 0)⟩ :: marks (k + 4) n

theorem marks_len : ∀ (n k : Nat), (marks k n).length = n
  | 0, _ => rfl
  | n + 1, k => by rw [marks, List.length_cons, marks_len n]

theorem marks_at : ∀ (n k i : Nat), i < n → (marks k n).getD i cl0 = ⟨(k + 4 * i : Nat), (k + 4 * i + 1 : Nat), (k + 4 * i + 2 : Nat), decide ((k + 4 * i + 3) % 3 = 0)⟩
  | 0, _, _, h => by omega
  | n + 1, k, 0, _ => rfl
  | n + 1, k, i + 1, h => by
    rw [marks, List.getD_cons_succ, marks_at n (k + 4) i (by omega), show k + 4 + 4 * i = k + 4 * (i + 1) from by omega]

/-- The row while it is marked: i cells are. -/
def half (k i : Nat) (L : List Cl) : List Cl := marks k i ++ L.drop i

theorem marks_next : ∀ (i k : Nat), marks k (i + 1) = marks k i ++ [⟨(k + 4 * i : Nat), (k + 4 * i + 1 : Nat), (k + 4 * i + 2 : Nat), decide ((k + 4 * i + 3) % 3 = 0)⟩]
  | 0, k => rfl
  | i + 1, k => by
    rw [marks, marks_next i (k + 4), show k + 4 + 4 * i = k + 4 * (i + 1) from by omega]
    rfl

theorem half_next (k i : Nat) (L : List Cl) (h : i < L.length) : half k (i + 1) L = (half k i L).set i ⟨(k + 4 * i : Nat), (k + 4 * i + 1 : Nat), (k + 4 * i + 2 : Nat), decide ((k + 4 * i + 3) % 3 = 0)⟩ := by
  unfold half
  rw [marks_next, List.set_append_right _ _ (by rw [marks_len]; omega), marks_len, Nat.sub_self, List.drop_eq_getElem_cons h, List.append_assoc]
  rfl

theorem half_len (k i : Nat) (L : List Cl) (h : i ≤ L.length) : (half k i L).length = L.length := by
  unfold half
  rw [List.length_append, marks_len, List.length_drop]
  omega
end Go.Proofs.YtapdoechmnjaeaaGreatDoor.Hp

namespace Go.Proofs.YtapdoechmnjaeaaGreatDoor.Hp
open Go.RowKit Go.Sort
theorem owns_at {w : World} {B n cap A k j : Nat} {xs : List Value} {v : Value} (h : w.ownsRow B 131 4 (.slice (some ⟨A, 0, none⟩) n cap) n xs) (e : xs[k * 4 + j]? = some v) : w.cell? ⟨A, k * 4 + j, none⟩ = some v := by
  have := h.cells rfl (k * 4 + j) _ e
  rwa [Addr.add_lit, Nat.zero_add] at this

theorem grown_own {w w1 : World} {A : Nat} {u : Value} {j : Nat} (h : w.grownBy w1 (some A)) : w.grownBy (w1.setCell ⟨A, j, none⟩ u) (some A) := grown_set1 h

theorem mod_same (K : Nat) : decide ((K + 3) % 3 = 0) = (((K : Int) + 1 + 1 + 1) % 3 == 0) := by
  rw [Bool.eq_iff_iff, decide_eq_true_iff, beq_iff_eq]
  omega

set_option maxHeartbeats 4000000 in
set_option maxRecDepth 100000 in
theorem mark_any (A n cap B k0 : Nat) (L : List Cl) (w : World) (h : w.ownsRow B 131 4 (.slice (some ⟨A, 0, none⟩) n cap) n (flatC L)) (hn : n ≤ 1048576) (hk0 : k0 ≤ 100000000) :
    Calls Tryz.prog 55 #[.slice (some ⟨A, 0, none⟩) n cap, .int .i64 k0] w fun e w' => e = .returned (.int .i64 (k0 + 4 * n : Nat)) ∧ w'.ownsRow B 131 4 (.slice (some ⟨A, 0, none⟩) n cap) n (flatC (marks k0 n)) ∧ w.grownBy w' (some A) := by
  have hl : L.length = n := by
    have := h.1
    rw [flatC_len] at this
    omega
  have HL : Hid (L.length = n) := hl
  clear hl
  go_enter Tryz.func55, Tryz.ntmps55
  go_wp2
  go_loopw [1, 5] (fun kv i wr => ∃ m : Nat, m ≤ n ∧ i = .int .i64 m ∧ kv = .int .i64 (k0 + 4 * m : Nat) ∧ wr.ownsRow B 131 4 (.slice (some ⟨A, 0, none⟩) n cap) n (flatC (half k0 m L)) ∧ w.grownBy wr (some A)) (fun _ i _ => n - (intOf i).toNat)
  case atStart => exact ⟨0, by omega, rfl, rfl, h, grown_refl _ _⟩
  case round =>
    obtain ⟨m, hm, rfl, rfl, hown, gr⟩ := hrel
    by_cases hlt : m < n
    · have HN : Hid (half k0 (m + 1) L = (half k0 m L).set m ⟨(k0 + 4 * m : Nat), (k0 + 4 * m + 1 : Nat), (k0 + 4 * m + 2 : Nat), decide ((k0 + 4 * m + 3) % 3 = 0)⟩) := half_next k0 m L (by rw [HL.out]; exact hlt)
      have hhl : (half k0 m L).length = n := (half_len k0 m L (by rw [HL.out]; exact hm)).trans HL.out
      generalize hK : k0 + 4 * m = K at *
      have hKb : K ≤ 105000000 := by omega
      generalize half k0 m L = M at *
      have q0 := flatC_at M m 0 (by omega) (by omega)
      have q1 := flatC_at M m 1 (by omega) (by omega)
      have q2 := flatC_at M m 2 (by omega) (by omega)
      have q3 := flatC_at M m 3 (by omega) (by omega)
      simp only [Nat.add_zero] at q0
      generalize M.getD m cl0 = y at *
      have o1 := owns_set (j := m * 4) (u := .int .i64 (K : Nat)) hown
      have o2 := owns_set (j := m * 4 + 1) (u := .int .i64 ((K : Int) + 1)) o1
      have o3 := owns_set (j := m * 4 + 2) (u := .int .i64 ((K : Int) + 1 + 1)) o2
      have o4 := owns_set (j := m * 4 + 3) (u := .bool (((K : Int) + 1 + 1 + 1) % 3 == 0)) o3
      have t0 : wr.cell? ⟨A, m * 4, none⟩ = some (.int .i64 y.pos) := owns_at (k := m) (j := 0) hown q0
      have f0 := owns_frozen hown (m * 4)
      have t1 : (wr.setCell ⟨A, m * 4, none⟩ (.int .i64 (K : Nat))).cell? ⟨A, m * 4 + 1, none⟩ = some (.int .i64 y.len) := owns_at (k := m) (j := 1) o1 (by rw [List.getElem?_set_ne (by omega)]; exact q1)
      have f1 := owns_frozen o1 (m * 4 + 1)
      have t2 := owns_at (k := m) (j := 2) (v := .int .i64 y.gen) o2 (by rw [List.getElem?_set_ne (by omega), List.getElem?_set_ne (by omega)]; exact q2)
      have f2 := owns_frozen o2 (m * 4 + 2)
      have t3 := owns_at (k := m) (j := 3) (v := .bool y.live) o3 (by rw [List.getElem?_set_ne (by omega), List.getElem?_set_ne (by omega), List.getElem?_set_ne (by omega)]; exact q3)
      have f3 := owns_frozen o3 (m * 4 + 3)
      have HO : Hid ((((((wr.setCell ⟨A, m * 4, none⟩ (.int .i64 (K : Nat))).setCell ⟨A, m * 4 + 1, none⟩ (.int .i64 ((K : Int) + 1))).setCell ⟨A, m * 4 + 2, none⟩ (.int .i64 ((K : Int) + 1 + 1))).setCell ⟨A, m * 4 + 3, none⟩ (.bool (((K : Int) + 1 + 1 + 1) % 3 == 0)))).ownsRow B 131 4 (.slice (some ⟨A, 0, none⟩) n cap) n (flatC (half k0 (m + 1) L))) := by
        unfold Hid
        rw [HN.out, ← flatC_set M m _ (by omega)]
        simp only
        rw [mod_same]
        exact o4
      have HG : Hid (w.grownBy ((((wr.setCell ⟨A, m * 4, none⟩ (.int .i64 (K : Nat))).setCell ⟨A, m * 4 + 1, none⟩ (.int .i64 ((K : Int) + 1))).setCell ⟨A, m * 4 + 2, none⟩ (.int .i64 ((K : Int) + 1 + 1))).setCell ⟨A, m * 4 + 3, none⟩ (.bool (((K : Int) + 1 + 1 + 1) % 3 == 0))) (some A)) := grown_set1 (grown_set1 (grown_set1 (grown_set1 gr)))
      have HK : Hid (k0 + 4 * m = K) := hK
      clear o1 o2 o3 o4 q0 q1 q2 q3 hown gr hK hhl
      go_wp2
      go_roundw
      case rel => exact ⟨m + 1, by omega, by go_num, congrArg (Value.int .i64) (by have := HK.out; omega), HO.out, HG.out⟩
      case measure => simp [intOf]; omega
    · obtain rfl : m = n := by omega
      have HE : Hid (half k0 m L = marks k0 m) := by
        unfold Hid half
        rw [List.drop_eq_nil_of_le (by rw [HL.out]; exact Nat.le_refl _), List.append_nil]
      go_wp2
      go_ret
      exact ⟨rfl, by rw [← HE.out]; exact hown, gr⟩

end Go.Proofs.YtapdoechmnjaeaaGreatDoor.Hp

namespace Go.Proofs.YtapdoechmnjaeaaGreatDoor.Hp
open Go.RowKit Go.Sort
theorem scan_bound (t : Nat → Bool) : ∀ k, ∀ x ∈ (scanM t k).1, x.1 ≤ k ∧ x.2 ≤ k
  | 0, x, hx => by simp [scanM] at hx
  | k + 1, x, hx => by
    have ih := scan_bound t k
    rw [scanM, stepG] at hx
    split at hx
    · have := ih x hx; omega
    · split at hx
      · rename_i h
        obtain ⟨G, a, l, e, hl⟩ := (scan_shape t k).1 h
        rw [e] at ih
        rw [e, bump_last] at hx
        rcases List.mem_append.1 hx with h | h
        · have := ih x (by simp [h]); omega
        · simp at h
          subst h
          have := ih (a, l) (by simp)
          simp at this ⊢
          omega
      · rcases List.mem_append.1 hx with h | h
        · have := ih x h; omega
        · simp at h
          subst h
          exact ⟨by simp, by simp⟩

/-- How an opening ends, at any heap. -/
def OpenAll (w : World) (s : ByteArray) (L : List Cl) (e : Ending) (w' : World) : Prop :=
  ∃ p : Option Addr, e = .returned (.tuple #[.pointer p, .bool (heapB s L)]) ∧
    (heapB s L = true → ∃ g t, p = some ⟨g, 0, none⟩ ∧ openM s.size L (fun _ => false) = some t ∧ Opens w' g (byteAt s) t s.size L.length) ∧ Below w.heap.size w w'

theorem heap_small {s : ByteArray} {L : List Cl} (h : heapB s L = true) : s.size ≤ 3000 ∧ L.length ≤ 40 := by
  unfold heapB at h
  rw [Bool.and_eq_true] at h
  exact of_decide_eq_true h.1

set_option maxHeartbeats 1000000 in
theorem opened_all (s : ByteArray) (a : Option Addr) (b off n c : Nat) (L : List Cl) (w : World) (h : CellsIn w a b off n L) (hs : s.size ≤ 1048576) (hn : n ≤ 1048576) (hf : ∀ i, i < n → Fit (L.getD i cl0)) :
    Calls Tryz.prog 39 #[.agg #[.string s, .slice a n c]] w (OpenAll w s L) := by
  have hl := h.len
  by_cases hr : s.size ≤ 3000 ∧ n ≤ 40
  · have HR : heapB s L = implB (byteAt s) s.size L := by
      unfold heapB
      rw [decide_eq_true (by omega), Bool.true_and]
    unfold OpenAll
    rw [HR]
    exact opened_any s a b off n c L w h hr.1 hr.2 hf
  · have HR : Hid (heapB s L = false) := by
      unfold Hid heapB
      rw [decide_eq_false (by omega), Bool.false_and]
    have hb : Below w.heap.size w (w.alloc (.cells #[.string s, .slice a n c] 26)) := (Below.refl _ w).alloc (Nat.le_refl _) _
    by_cases h1 : (3000 : Int) < (s.size : Int)
    · go_enter Tryz.func39, Tryz.ntmps39
      go_wp2
      go_ret2
      exact ⟨none, by rw [HR.out]; rfl, (fun h => by rw [HR.out] at h; cases h), hb⟩
    · have h2 : (40 : Int) < (n : Int) := by omega
      go_enter Tryz.func39, Tryz.ntmps39
      go_wp2
      go_ret2
      exact ⟨none, by rw [HR.out]; rfl, (fun h => by rw [HR.out] at h; cases h), hb⟩

/-- What the gaps of a right heap give. -/
def gapsOf (s : ByteArray) (L : List Cl) : List (Nat × Nat) := match openM s.size L (fun _ => false) with | none => [] | some t => (scanM t s.size).1

def foldG (f : Int → Int → Int) (G : List (Nat × Nat)) : Int := G.foldl (fun a g => f a (g.2 : Int)) 0

def overB (f : Int → Int → Int) (s : ByteArray) (L : List Cl) : Int := if heapB s L = true then foldG f (gapsOf s L) else -1

theorem fold_step (f : Int → Int → Int) (G : List (Nat × Nat)) (k : Nat) (h : k < G.length) : foldG f (G.take (k + 1)) = f (foldG f (G.take k)) ((G.getD k (0, 0)).2 : Int) := by
  unfold foldG
  rw [List.take_succ_eq_append_getElem h, List.foldl_append, List.getD_eq_getElem?_getD, List.getElem?_eq_getElem h]
  rfl

theorem flatG_at (G : List (Nat × Nat)) (k : Nat) (h : k < G.length) : (flatG G)[k * 2]? = some (.int .i64 ((G.getD k (0, 0)).1 : Nat)) ∧ (flatG G)[k * 2 + 1]? = some (.int .i64 ((G.getD k (0, 0)).2 : Nat)) := by
  have e : G = G.take k ++ (G.getD k (0, 0) :: G.drop (k + 1)) := by
    rw [List.getD_eq_getElem?_getD, List.getElem?_eq_getElem h]
    simp
  have hl : (flatG (G.take k)).length = k * 2 := by rw [flatG_len, List.length_take]; omega
  generalize G.getD k (0, 0) = x at *
  rw [e, flatG_app]
  constructor
  · rw [List.getElem?_append_right (by rw [hl]; omega), hl, Nat.sub_self]
    rfl
  · rw [List.getElem?_append_right (by rw [hl]; omega), hl, show k * 2 + 1 - k * 2 = 1 from by omega]
    rfl

end Go.Proofs.YtapdoechmnjaeaaGreatDoor.Hp
