/- The live cells by where they lie: the specification's list of places. -/
import Derived.Test.YtjjpplpdpldkeaaHOpen
namespace Go.Proofs.Ytjjpplpdpldkeaa
open Go.RowKit Go.Sort

def clOf (L : List Cl) (i : Nat) : Cl := L.getD i cl0

def insI (L : List Cl) (i : Nat) : List Nat → List Nat
  | [] => [i]
  | x :: r => if (clOf L x).pos < (clOf L i).pos then x :: insI L i r else i :: x :: r

def stI (L : List Cl) : Nat → List Nat
  | 0 => []
  | k + 1 => if (clOf L k).live then insI L k (stI L k) else stI L k

theorem ins_at (L : List Cl) (i : Nat) : ∀ (S : List Nat) (m : Nat), m ≤ S.length → (∀ j, j < m → (clOf L (S.getD j 0)).pos < (clOf L i).pos) → (m = S.length ∨ ¬ (clOf L (S.getD m 0)).pos < (clOf L i).pos) →
    insI L i S = S.take m ++ i :: S.drop m
  | [], m, hm, _, _ => by
    have : m = 0 := by simpa using hm
    subst this
    rfl
  | x :: r, 0, _, _, he => by
    rw [insI, if_neg (by rcases he with h | h; · cases h
                         · exact h)]
    rfl
  | x :: r, m + 1, hm, hl, he => by
    rw [insI, if_pos (show (clOf L x).pos < (clOf L i).pos from hl 0 (by omega)), ins_at L i r m (by simpa using hm) (fun j hj => hl (j + 1) (by omega)) (by simpa using he)]
    rfl

theorem ins_map (L : List Cl) (i : Nat) : ∀ S : List Nat, (insI L i S).map (clOf L) = insC (clOf L i) (S.map (clOf L))
  | [] => rfl
  | x :: r => by
    rw [insI, List.map_cons, insC]
    split
    · rw [List.map_cons, ins_map L i r]
    · rfl

theorem ins_len (L : List Cl) (i : Nat) : ∀ S : List Nat, (insI L i S).length = S.length + 1
  | [] => rfl
  | x :: r => by
    rw [insI]
    split
    · simp [ins_len L i r]
    · rfl

theorem ins_mem (L : List Cl) (i : Nat) : ∀ (S : List Nat) (y : Nat), y ∈ insI L i S → y = i ∨ y ∈ S
  | [], y, h => by simp [insI] at h; exact .inl h
  | x :: r, y, h => by
    rw [insI] at h
    split at h
    · rcases List.mem_cons.1 h with h | h
      · exact .inr (by simp [h])
      · rcases ins_mem L i r y h with h | h
        · exact .inl h
        · exact .inr (by simp [h])
    · rcases List.mem_cons.1 h with h | h
      · exact .inl h
      · exact .inr h

theorem st_bound (L : List Cl) : ∀ k, (stI L k).length ≤ k ∧ ∀ y ∈ stI L k, y < k
  | 0 => ⟨by simp [stI], fun y hy => by simp [stI] at hy⟩
  | k + 1 => by
    obtain ⟨h1, h2⟩ := st_bound L k
    rw [stI]
    split
    · refine ⟨by rw [ins_len]; omega, fun y hy => ?_⟩
      rcases ins_mem L k _ y hy with h | h
      · omega
      · have := h2 y h; omega
    · exact ⟨by omega, fun y hy => by have := h2 y hy; omega⟩

theorem st_live (L : List Cl) : ∀ k, k ≤ L.length → liveC [] L = liveC ((stI L k).map (clOf L)) (L.drop k)
  | 0, _ => by simp [stI]
  | k + 1, h => by
    rw [st_live L k (by omega), drop_get (L := L) (k := k) (by omega), liveC, stI]
    show (if (clOf L k).live then _ else _) = _
    split
    · rw [ins_map]; rfl
    · rfl

theorem live_all (L : List Cl) : liveC [] L = (stI L L.length).map (clOf L) := by
  rw [st_live L L.length (Nat.le_refl _), List.drop_length]
  rfl

def ints (S : List Nat) : List Value := S.map fun (x : Nat) => Value.int .i64 (x : Int)

theorem info3 : (Try.prog.info? 3).map (fun i => (i.zero, i.size, i.bytes)) = some (some (.int .i64 0), 1, 8) := by kernel_rfl

theorem owns_none3 (w : World) (B : Nat) (hB : B ≤ w.heap.size) : (w.alloc (.cells #[] 3)).ownsRow B 3 1 (.slice (some ⟨w.heap.size, 0, none⟩) 0 0) 0 (ints []) :=
  ⟨rfl, .inr ⟨w.heap.size, 0, #[], rfl, hB, RowAt.new w 3 #[], by omega, by unfold maxLen; omega, by simp, by simp [ints]⟩⟩

theorem below_drewN (w : World) (q : Nat) : Below w.heap.size w (w.drewN q) := ⟨rfl, rfl, rfl, Nat.le_refl _, fun _ _ => rfl⟩

theorem below_grown {B : Nat} {w w1 w2 : World} {r : Option Nat} (b : Below B w w1) (g : w1.grownBy w2 r) (hr : ∀ x, r = some x → B ≤ x) (hB : B ≤ w1.heap.size) : Below B w w2 :=
  ⟨g.os.trans b.os, g.tape.trans b.tape, g.output.trans b.output, Nat.le_trans b.size g.size, fun i hi => (g.block i (by omega) (fun e => by have := hr i e.symm; omega)).trans (b.block i hi)⟩

theorem ints_one (S : List Nat) : ∀ u ∈ ints S, u.oneCell' = true := fun u hu => by
  unfold ints at hu
  obtain ⟨x, _, rfl⟩ := List.mem_map.1 hu
  rfl

theorem take_cell {wr : World} {S : List Nat} {A : Nat} (h : ∀ m, m < S.length → wr.cell? ⟨A, m, none⟩ = some (.int .i64 (S.getD m 0 : Nat))) (m j : Nat) (u : Value) (hj : (ints (S.take m))[j]? = some u) : wr.cell? ((⟨A, 0, none⟩ : Addr).add j) = some u := by
  rw [Addr.add_lit, Nat.zero_add]
  unfold ints at hj
  rw [List.getElem?_map] at hj
  cases hx : (S.take m)[j]? with
  | none => rw [hx] at hj; cases hj
  | some x =>
    rw [hx] at hj
    injection hj with hj
    subst hj
    rw [List.getElem?_take] at hx
    split at hx
    · obtain ⟨hl, he⟩ := List.getElem?_eq_some_iff.1 hx
      rw [h j hl, List.getD_eq_getElem?_getD, hx]
      rfl
    · cases hx

theorem drop_cell {wr : World} {S : List Nat} {A : Nat} (h : ∀ m, m < S.length → wr.cell? ⟨A, m, none⟩ = some (.int .i64 (S.getD m 0 : Nat))) (m j : Nat) (u : Value) (hj : (ints (S.drop m))[j]? = some u) : wr.cell? ((⟨A, m, none⟩ : Addr).add j) = some u := by
  rw [Addr.add_lit]
  unfold ints at hj
  rw [List.getElem?_map, List.getElem?_drop] at hj
  cases hx : S[m + j]? with
  | none => rw [hx] at hj; cases hj
  | some x =>
    rw [hx] at hj
    injection hj with hj
    subst hj
    obtain ⟨hl, he⟩ := List.getElem?_eq_some_iff.1 hx
    rw [h (m + j) hl, List.getD_eq_getElem?_getD, hx]
    rfl

theorem cell_grown' {w w1 : World} {o : Obj} (g : w.grownBy w1 none) {A : Nat} {k : Nat} {v : Value} (h : w.cell? ((⟨A, 0, none⟩ : Addr).add k) = some v) (hA : A < w.heap.size) : (w1.alloc o).cell? ((⟨A, 0, none⟩ : Addr).add k) = some v := by
  have b : Below w.heap.size w (w1.alloc o) := (Below.mk g.os g.tape g.output g.size (fun i hi => g.block i hi (by simp))).alloc g.size o
  rw [Addr.add_lit] at h ⊢
  exact (World.cell?_of_block (b.block A hA)).trans h

set_option maxHeartbeats 4000000 in
set_option maxRecDepth 100000 in
theorem live_any (s : ByteArray) (a : Option Addr) (b off n c : Nat) (L : List Cl) (w : World) (h : CellsIn w a b off n L) (hn : n ≤ 40) :
    Calls Try.prog 31 #[.agg #[.string s, .slice a n c]] w fun e w' => ∃ A cap, e = .returned (.slice (some ⟨A, 0, none⟩) (stI L n).length cap) ∧ w'.ownsRow w.heap.size 3 1 (.slice (some ⟨A, 0, none⟩) (stI L n).length cap) (stI L n).length (ints (stI L n)) ∧ Below w.heap.size w w' := by
  obtain ⟨i0, hi, hz0, hz1, hz2⟩ := info_parts info3
  have hl := h.len
  have hb0 : Below w.heap.size w (w.alloc (.cells #[.string s, .slice a n c] 26)) := (Below.refl _ w).alloc (Nat.le_refl _) _
  have hr0 := RowAt.new w 26 #[.string s, .slice a n c]
  have hs0 : (w.alloc (.cells #[.string s, .slice a n c] 26)).heap.size = w.heap.size + 1 := by simp
  go_enter Try.func31, Try.ntmps31
  go_wp2
  generalize w.alloc (.cells #[.string s, .slice a n c] 26) = w1 at *
  have ho1 := owns_none3 w1 (w.heap.size + 1) (by omega)
  have hb1 : Below w1.heap.size w1 (w1.alloc (.cells #[] 3)) := (Below.refl _ w1).alloc (Nat.le_refl _) _
  have hr1 := hr0.below hb1 (by omega)
  have hbb : Below w.heap.size w (w1.alloc (.cells #[] 3)) := hb0.trans (hb1.mono (by omega))
  rw [hs0] at ho1
  try rw [hs0]
  generalize w1.alloc (.cells #[] 3) = w2 at *
  go_loopw [3, 4, 5, 6] (fun out i _ _ wr => ∃ (k A cap : Nat), k ≤ n ∧ i = .int .i64 k ∧ out = .slice (some ⟨A, 0, none⟩) (stI L k).length cap ∧ wr.ownsRow (w.heap.size + 1) 3 1 out (stI L k).length (ints (stI L k)) ∧ RowAt wr w.heap.size 26 #[.string s, .slice a n c] ∧ Below w.heap.size w wr) (fun _ i _ _ _ => n - (intOf i).toNat)
  case atStart => exact ⟨0, w.heap.size + 1, 0, by omega, rfl, rfl, ho1, hr1, hbb⟩
  case round =>
    obtain ⟨k, A, cap, hk, rfl, rfl, ho, hr, bk⟩ := hrel
    have e0 := hr.cell 0
    have e1 := hr.cell 1
    simp at e0 e1
    obtain ⟨hb1', hb2'⟩ := st_bound L k
    by_cases hlt : k < n
    · obtain rfl := h.addr (by omega)
      have hlow := h.low (by omega)
      have hx := cl_below (h.cell k hlt) hlow bk
      have d0 := hx.c0
      have d3 := hx.c3
      have hxe : L.getD k cl0 = clOf L k := rfl
      rw [hxe] at d0 d3
      cases hlv : (clOf L k).live with
      | false =>
        rw [hlv] at d3
        have HS : Hid (stI L (k + 1) = stI L k) := by unfold Hid; rw [stI, hlv]; rfl
        clear hx
        go_wp2
        go_roundw
        case rel => exact ⟨k + 1, A, cap, by omega, by go_num, by rw [HS.out], by rw [HS.out]; exact ho, hr, bk⟩
        case measure => simp [intOf]; omega
      | true =>
        rw [hlv] at d3
        have HS : Hid (stI L (k + 1) = insI L k (stI L k)) := by unfold Hid; rw [stI, hlv]; rfl
        generalize hST : stI L k = S at *
        have hcapm : S.length ≤ cap ∧ cap ≤ 9223372036854775807 := by
          obtain ⟨_, ⟨h0, _⟩ | ⟨g, cp, cur, hv, _, _, q1, q2, _⟩⟩ := ho
          · cases h0
          · injection hv with _ _ hv
            subst hv
            exact ⟨q1, by simpa [maxLen] using q2⟩
        obtain ⟨hcap1, hcap2⟩ := hcapm
        have HCell : Hid (∀ m, m < S.length → wr.cell? ⟨A, m, none⟩ = some (.int .i64 (S.getD m 0 : Nat))) := fun m hm => by
          have := ho.cells rfl m (.int .i64 (S.getD m 0 : Nat)) (by unfold ints; rw [List.getElem?_map, List.getD_eq_getElem?_getD, List.getElem?_eq_getElem hm]; rfl)
          rw [Addr.add_lit, Nat.zero_add] at this
          exact this
        have HPos : Hid (∀ y, y < n → wr.cell? ⟨b, off + y * 4, none⟩ = some (.int .i64 (clOf L y).pos)) := fun y hy => (cl_below (h.cell y hy) hlow bk).c0
        have HSb : Hid (∀ y ∈ S, y < k) := hb2'
        have hAlt := (ho.lt A rfl).2
        have hAge := (ho.lt A rfl).1
        clear hb2' hx hxe
        go_wp2
        go_loopw [5] (fun at_ wr' => ∃ m q : Nat, m ≤ S.length ∧ at_ = .int .i64 m ∧ wr' = wr.drewN q ∧ Hid (∀ j, j < m → (clOf L (S.getD j 0)).pos < (clOf L k).pos)) (fun at_ _ => S.length - (intOf at_).toNat)
        case atStart => exact ⟨0, 0, by omega, rfl, rfl, fun j hj => by omega⟩
        case round =>
          obtain ⟨m, q, hm, rfl, rfl, hlts⟩ := hrel
          by_cases hml : m < S.length
          · have cy := HCell.out m hml
            have hyk : S.getD m 0 < k := HSb.out _ (by rw [List.getD_eq_getElem?_getD, List.getElem?_eq_getElem hml]; exact List.getElem_mem hml)
            have dy := HPos.out (S.getD m 0) (by omega)
            have dm : decide ((m : Int) < (S.length : Int)) = true := by simp; omega
            have HIN : Hid (¬ (clOf L (S.getD m 0)).pos < (clOf L k).pos → insI L k S = S.take m ++ k :: S.drop m) := fun hn => ins_at L k S m hm hlts.out (.inr hn)
            have HNX : Hid ((clOf L (S.getD m 0)).pos < (clOf L k).pos → ∀ j, j < m + 1 → (clOf L (S.getD j 0)).pos < (clOf L k).pos) := fun hy j hj => by
              rcases Nat.lt_succ_iff_lt_or_eq.1 hj with h | h
              · exact hlts.out j h
              · subst h; exact hy
            generalize S.getD m 0 = y at *
            generalize (clOf L y).pos = py at *
            by_cases hpy : py < (clOf L k).pos
            · have HN : Hid _ := HNX.out hpy
              go_wp2
              go_quiet ((fail))
              go_wp2
              go_roundw
              case rel => exact ⟨m + 1, _, by omega, by go_num, rfl, HN⟩
              case measure => simp [intOf]; omega
            · have HI : Hid (insI L k S = S.take m ++ k :: S.drop m) := HIN.out hpy
              have hmc : m ≤ cap := by omega
              clear HIN HNX hlts
              go_wp2
              go_quiet ((fail))
              go_wp2_with (at_builtin; refine wpList_append_own _ rfl _ _ 69 rfl wr.heap.size 3 i0 _ 1 8 Try.underlying69 hi hz0 hz1 hz2 rfl (by decide) _ 0 (ints []) rfl (owns_none3 (wr.drewN (q + nq)) wr.heap.size (Nat.le_refl _)) ⟨A, 0, none⟩ m cap (ints (S.take m)) rfl (by first | (simp [ints]; done) | (simp [ints]; omega)) ?c1 (ints_one _) (by unfold maxLen; omega) (by omega) (by first | (simp; done) | (simp; omega)) ?_)
              case c1 => exact fun j u hj => cell_grown' (grown_drewN wr _ none) (take_cell HCell.out m j u hj) hAlt
              intro v1 w5 hown1 hgr1 hnil1
              obtain ⟨A1, cap1, rfl⟩ : ∃ A1 cap1, v1 = .slice (some ⟨A1, 0, none⟩) m cap1 := by
                rcases Go.Joins.ownsRow_forms hown1 with ⟨h0, _⟩ | h
                · exact absurd h0 hnil1
                · exact h
              have b1 : Below wr.heap.size wr w5 := below_grown ((below_drewN wr _).alloc (Nat.le_refl _) _) hgr1 (fun x hx => by simp [Value.ownBlock] at hx; omega) (by simp)
              clear hgr1 hnil1
              have HW5 : Hid (wr.heap.size ≤ w5.heap.size) := b1.size
              go_wp2_with (at_builtin; refine wpList_append_own _ rfl _ _ 69 rfl wr.heap.size 3 i0 _ 1 8 Try.underlying69 hi hz0 hz1 hz2 rfl (by decide) _ m (ints [] ++ ints (S.take m)) rfl (hown1.alloc _) ⟨w5.heap.size, 0, none⟩ 1 1 (ints [k]) rfl rfl ?c1 (ints_one _) (by unfold maxLen; omega) (by omega) (by have := HW5.out; simp; omega) ?_)
              case c1 => exact cell_one_new _ _ _
              intro v2 w6 hown2 hgr2 hnil2
              obtain ⟨A2, cap2, rfl⟩ : ∃ A2 cap2, v2 = .slice (some ⟨A2, 0, none⟩) (m + 1) cap2 := by
                rcases Go.Joins.ownsRow_forms hown2 with ⟨h0, _⟩ | h
                · exact absurd h0 (by simpa using hnil2)
                · exact h
              have b2 : Below wr.heap.size wr w6 := below_grown (b1.alloc HW5.out _) hgr2 (fun x hx => (hown1.lt x hx).1) (by have := HW5.out; simp; omega)
              clear hgr2 hnil2 hown1 b1
              have HW6 : Hid (wr.heap.size ≤ w6.heap.size) := b2.size
              go_wp2_with (at_builtin; refine wpList_append_own _ rfl _ _ 69 rfl wr.heap.size 3 i0 _ 1 8 Try.underlying69 hi hz0 hz1 hz2 rfl (by decide) _ (m + 1) (ints [] ++ ints (S.take m) ++ ints [k]) rfl hown2 ⟨A, m, none⟩ (S.length - m) (cap - m) (ints (S.drop m)) rfl (by simp [ints]) ?c1 (ints_one _) (by unfold maxLen; omega) (by omega) HW6.out ?_)
              case c1 =>
                intro j u hj
                have h := drop_cell HCell.out m j u hj
                rw [Addr.add_lit] at h ⊢
                exact (World.cell?_of_block (b2.block A hAlt)).trans h
              intro v3 w7 hown3 hgr3 hnil3
              obtain ⟨A3, cap3, rfl⟩ : ∃ A3 cap3, v3 = .slice (some ⟨A3, 0, none⟩) (m + 1 + (S.length - m)) cap3 := by
                rcases Go.Joins.ownsRow_forms hown3 with ⟨_, h0⟩ | h
                · omega
                · exact h
              have b3 : Below wr.heap.size wr w7 := below_grown b2 hgr3 (fun x hx => (hown2.lt x hx).1) HW6.out
              have bw : Below w.heap.size w w7 := bk.trans (b3.mono (by omega))
              have hr7 := hr.below b3 (by omega)
              have HO7 : Hid (w7.ownsRow (w.heap.size + 1) 3 1 (.slice (some ⟨A3, 0, none⟩) (stI L (k + 1)).length cap3) (stI L (k + 1)).length (ints (stI L (k + 1)))) := by
                unfold Hid
                have e : m + 1 + (S.length - m) = (stI L (k + 1)).length := by rw [HS.out, ins_len]; omega
                have e2 : ints [] ++ (ints (S.take m) ++ (ints [k] ++ ints (S.drop m))) = ints (stI L (k + 1)) := by rw [HS.out, HI.out]; simp [ints]
                rw [← e, ← e2]
                exact Go.Joins.ownsRow_le hown3 (by omega)
              have e : m + 1 + (S.length - m) = (stI L (k + 1)).length := by rw [HS.out, ins_len]; omega
              rw [e]
              clear hown3 hown2 hgr3 hnil3 b2 b3 e
              go_wp2
              go_roundw
              case rel => exact ⟨k + 1, A3, cap3, by omega, by go_num, rfl, HO7.out, hr7, bw⟩
              case measure => simp [intOf]; omega
          · have dm : decide ((m : Int) < (S.length : Int)) = false := by simp; omega
            have HI : Hid (insI L k S = S.take m ++ k :: S.drop m) := ins_at L k S m hm hlts.out (.inl (by omega))
            have hmc : m ≤ cap := by omega
            clear hlts
            by_cases hcm : cap = m
            · have HD : Hid (S.drop m = []) := by unfold Hid; apply List.drop_eq_nil_of_le; omega
              have hcm' : m = cap := hcm.symm
              clear hcm
              subst hcm'
              go_wp2
              go_quiet ((fail))
              go_wp2_with (at_builtin; refine wpList_append_own _ rfl _ _ 69 rfl wr.heap.size 3 i0 _ 1 8 Try.underlying69 hi hz0 hz1 hz2 rfl (by decide) _ 0 (ints []) rfl (owns_none3 (wr.drewN (q + nq)) wr.heap.size (Nat.le_refl _)) ⟨A, 0, none⟩ m m (ints (S.take m)) rfl (by first | (simp [ints]; done) | (simp [ints]; omega)) ?c1 (ints_one _) (by unfold maxLen; omega) (by omega) (by first | (simp; done) | (simp; omega)) ?_)
              case c1 => exact fun j u hj => cell_grown' (grown_drewN wr _ none) (take_cell HCell.out m j u hj) hAlt
              intro v1 w5 hown1 hgr1 hnil1
              obtain ⟨A1, cap1, rfl⟩ : ∃ A1 cap1, v1 = .slice (some ⟨A1, 0, none⟩) m cap1 := by
                rcases Go.Joins.ownsRow_forms hown1 with ⟨h0, _⟩ | h
                · exact absurd h0 hnil1
                · exact h
              have b1 : Below wr.heap.size wr w5 := below_grown ((below_drewN wr _).alloc (Nat.le_refl _) _) hgr1 (fun x hx => by simp [Value.ownBlock] at hx; omega) (by simp)
              clear hgr1 hnil1
              have HW5 : Hid (wr.heap.size ≤ w5.heap.size) := b1.size
              go_wp2_with (at_builtin; refine wpList_append_own _ rfl _ _ 69 rfl wr.heap.size 3 i0 _ 1 8 Try.underlying69 hi hz0 hz1 hz2 rfl (by decide) _ m (ints [] ++ ints (S.take m)) rfl (hown1.alloc _) ⟨w5.heap.size, 0, none⟩ 1 1 (ints [k]) rfl rfl ?c1 (ints_one _) (by unfold maxLen; omega) (by omega) (by have := HW5.out; simp; omega) ?_)
              case c1 => exact cell_one_new _ _ _
              intro v2 w6 hown2 hgr2 hnil2
              obtain ⟨A2, cap2, rfl⟩ : ∃ A2 cap2, v2 = .slice (some ⟨A2, 0, none⟩) (m + 1) cap2 := by
                rcases Go.Joins.ownsRow_forms hown2 with ⟨h0, _⟩ | h
                · exact absurd h0 (by simpa using hnil2)
                · exact h
              have b2 : Below wr.heap.size wr w6 := below_grown (b1.alloc HW5.out _) hgr2 (fun x hx => (hown1.lt x hx).1) (by have := HW5.out; simp; omega)
              clear hgr2 hnil2 hown1 b1
              have HW6 : Hid (wr.heap.size ≤ w6.heap.size) := b2.size
              go_wp2_with (at_builtin; refine wpList_append_own _ rfl _ _ 69 rfl wr.heap.size 3 i0 _ 1 8 Try.underlying69 hi hz0 hz1 hz2 rfl (by decide) _ (m + 1) (ints [] ++ ints (S.take m) ++ ints [k]) rfl hown2 _ _ _ (ints (S.drop m)) rfl (by rw [HD.out]; rfl) ?c1 (ints_one _) (by unfold maxLen; omega) (by omega) HW6.out ?_)
              case c1 =>
                intro j u hj
                rw [HD.out] at hj
                cases hj
              intro v3 w7 hown3 hgr3 hnil3
              obtain ⟨A3, cap3, rfl⟩ : ∃ A3 cap3, v3 = .slice (some ⟨A3, 0, none⟩) (m + 1) cap3 := by
                rcases Go.Joins.ownsRow_forms hown3 with ⟨_, h0⟩ | h
                · omega
                · exact h
              have b3 : Below wr.heap.size wr w7 := below_grown b2 hgr3 (fun x hx => (hown2.lt x hx).1) HW6.out
              have bw : Below w.heap.size w w7 := bk.trans (b3.mono (by omega))
              have hr7 := hr.below b3 (by omega)
              have HO7 : Hid (w7.ownsRow (w.heap.size + 1) 3 1 (.slice (some ⟨A3, 0, none⟩) (stI L (k + 1)).length cap3) (stI L (k + 1)).length (ints (stI L (k + 1)))) := by
                unfold Hid
                have e : m + 1 = (stI L (k + 1)).length := by rw [HS.out, ins_len]; omega
                have e2 : ints [] ++ (ints (S.take m) ++ (ints [k] ++ ints (S.drop m))) = ints (stI L (k + 1)) := by rw [HS.out, HI.out]; simp [ints]
                rw [← e, ← e2]
                exact Go.Joins.ownsRow_le hown3 (by omega)
              have e : m + 1 = (stI L (k + 1)).length := by rw [HS.out, ins_len]; omega
              rw [e]
              clear hown3 hown2 hgr3 hnil3 b2 b3 e
              go_wp2
              go_roundw
              case rel => exact ⟨k + 1, A3, cap3, by omega, by go_num, rfl, HO7.out, hr7, bw⟩
              case measure => simp [intOf]; omega
            · go_wp2
              go_quiet ((fail))
              go_wp2_with (at_builtin; refine wpList_append_own _ rfl _ _ 69 rfl wr.heap.size 3 i0 _ 1 8 Try.underlying69 hi hz0 hz1 hz2 rfl (by decide) _ 0 (ints []) rfl (owns_none3 (wr.drewN (q + nq)) wr.heap.size (Nat.le_refl _)) ⟨A, 0, none⟩ m cap (ints (S.take m)) rfl (by first | (simp [ints]; done) | (simp [ints]; omega)) ?c1 (ints_one _) (by unfold maxLen; omega) (by omega) (by first | (simp; done) | (simp; omega)) ?_)
              case c1 => exact fun j u hj => cell_grown' (grown_drewN wr _ none) (take_cell HCell.out m j u hj) hAlt
              intro v1 w5 hown1 hgr1 hnil1
              obtain ⟨A1, cap1, rfl⟩ : ∃ A1 cap1, v1 = .slice (some ⟨A1, 0, none⟩) m cap1 := by
                rcases Go.Joins.ownsRow_forms hown1 with ⟨h0, _⟩ | h
                · exact absurd h0 hnil1
                · exact h
              have b1 : Below wr.heap.size wr w5 := below_grown ((below_drewN wr _).alloc (Nat.le_refl _) _) hgr1 (fun x hx => by simp [Value.ownBlock] at hx; omega) (by simp)
              clear hgr1 hnil1
              have HW5 : Hid (wr.heap.size ≤ w5.heap.size) := b1.size
              go_wp2_with (at_builtin; refine wpList_append_own _ rfl _ _ 69 rfl wr.heap.size 3 i0 _ 1 8 Try.underlying69 hi hz0 hz1 hz2 rfl (by decide) _ m (ints [] ++ ints (S.take m)) rfl (hown1.alloc _) ⟨w5.heap.size, 0, none⟩ 1 1 (ints [k]) rfl rfl ?c1 (ints_one _) (by unfold maxLen; omega) (by omega) (by have := HW5.out; simp; omega) ?_)
              case c1 => exact cell_one_new _ _ _
              intro v2 w6 hown2 hgr2 hnil2
              obtain ⟨A2, cap2, rfl⟩ : ∃ A2 cap2, v2 = .slice (some ⟨A2, 0, none⟩) (m + 1) cap2 := by
                rcases Go.Joins.ownsRow_forms hown2 with ⟨h0, _⟩ | h
                · exact absurd h0 (by simpa using hnil2)
                · exact h
              have b2 : Below wr.heap.size wr w6 := below_grown (b1.alloc HW5.out _) hgr2 (fun x hx => (hown1.lt x hx).1) (by have := HW5.out; simp; omega)
              clear hgr2 hnil2 hown1 b1
              have HW6 : Hid (wr.heap.size ≤ w6.heap.size) := b2.size
              go_wp2_with (at_builtin; refine wpList_append_own _ rfl _ _ 69 rfl wr.heap.size 3 i0 _ 1 8 Try.underlying69 hi hz0 hz1 hz2 rfl (by decide) _ (m + 1) (ints [] ++ ints (S.take m) ++ ints [k]) rfl hown2 ⟨A, m, none⟩ (S.length - m) (cap - m) (ints (S.drop m)) rfl (by simp [ints]) ?c1 (ints_one _) (by unfold maxLen; omega) (by omega) HW6.out ?_)
              case c1 =>
                intro j u hj
                have h := drop_cell HCell.out m j u hj
                rw [Addr.add_lit] at h ⊢
                exact (World.cell?_of_block (b2.block A hAlt)).trans h
              intro v3 w7 hown3 hgr3 hnil3
              obtain ⟨A3, cap3, rfl⟩ : ∃ A3 cap3, v3 = .slice (some ⟨A3, 0, none⟩) (m + 1 + (S.length - m)) cap3 := by
                rcases Go.Joins.ownsRow_forms hown3 with ⟨_, h0⟩ | h
                · omega
                · exact h
              have b3 : Below wr.heap.size wr w7 := below_grown b2 hgr3 (fun x hx => (hown2.lt x hx).1) HW6.out
              have bw : Below w.heap.size w w7 := bk.trans (b3.mono (by omega))
              have hr7 := hr.below b3 (by omega)
              have HO7 : Hid (w7.ownsRow (w.heap.size + 1) 3 1 (.slice (some ⟨A3, 0, none⟩) (stI L (k + 1)).length cap3) (stI L (k + 1)).length (ints (stI L (k + 1)))) := by
                unfold Hid
                have e : m + 1 + (S.length - m) = (stI L (k + 1)).length := by rw [HS.out, ins_len]; omega
                have e2 : ints [] ++ (ints (S.take m) ++ (ints [k] ++ ints (S.drop m))) = ints (stI L (k + 1)) := by rw [HS.out, HI.out]; simp [ints]
                rw [← e, ← e2]
                exact Go.Joins.ownsRow_le hown3 (by omega)
              have e : m + 1 + (S.length - m) = (stI L (k + 1)).length := by rw [HS.out, ins_len]; omega
              rw [e]
              clear hown3 hown2 hgr3 hnil3 b2 b3 e
              go_wp2
              go_roundw
              case rel => exact ⟨k + 1, A3, cap3, by omega, by go_num, rfl, HO7.out, hr7, bw⟩
              case measure => simp [intOf]; omega
    · obtain rfl : k = n := by omega
      have HO : Hid (wr.ownsRow w.heap.size 3 1 (.slice (some ⟨A, 0, none⟩) (stI L k).length cap) (stI L k).length (ints (stI L k))) := Go.Joins.ownsRow_le ho (by omega)
      clear ho hr
      go_wp2
      go_ret
      exact ⟨_, _, rfl, HO.out, bk⟩
end Go.Proofs.Ytjjpplpdpldkeaa
