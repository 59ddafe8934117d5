/- The program's look at a heap. -/
import Derived.Test.YtjjpplpdpldkeaaHCells
import Derived.Lib.BufferWrite
namespace Go.Proofs.Ytjjpplpdpldkeaa
open Go.RowKit Go.Sort

theorem cleanM_true {d : Nat → UInt8} {t : Nat → Bool} {n : Nat} (h : ∀ j, j < n → t j = true ∨ d j = 0) : cleanM d t n = true := by
  unfold cleanM
  rw [List.all_eq_true]
  intro x hx
  rcases h x (by simpa using hx) with h | h <;> simp [h]

theorem cleanM_false {d : Nat → UInt8} {t : Nat → Bool} {n k : Nat} (hk : k < n) (h1 : t k = false) (h2 : d k ≠ 0) : cleanM d t n = false := by
  rw [Bool.eq_false_iff]
  intro h
  unfold cleanM at h
  rw [List.all_eq_true] at h
  have := h k (by simpa using hk)
  simp [h1, h2] at this

set_option maxHeartbeats 1000000 in
set_option maxRecDepth 100000 in
theorem clean_any (g n : Nat) (d : Nat → UInt8) (t : Nat → Bool) (cs : Value) (w : World) (h : Arena w g d t n cs) (hn : n ≤ 3000) :
    Calls Try.prog 44 #[.pointer (some ⟨g, 0, none⟩)] w fun e w' => e = .returned (.bool (cleanM d t n)) ∧ w' = w := by
  obtain ⟨C, hr, hsz, hd, ht, hs, hc⟩ := h.row
  have cs := (hr.cell 6000).trans hs
  have HD : Hid (∀ i, i < 3000 → w.cell? ⟨g, i, none⟩ = some (.int .u8 (d i).toNat)) := fun i hi => (hr.cell i).trans (hd i hi)
  have HT : Hid (∀ i, i < 3000 → w.cell? ⟨g, 3000 + i, none⟩ = some (.bool (t i))) := fun i hi => (hr.cell (3000 + i)).trans (ht i hi)
  clear hr hd ht hs hc h
  go_enter Try.func44, Try.ntmps44
  go_wp2
  go_loop [3, 8] (fun _ i => ∃ k : Nat, k ≤ n ∧ i = .int .i64 k ∧ Hid (∀ j, j < k → t j = true ∨ d j = 0)) (fun _ i => n - (intOf i).toNat)
  case atStart => exact ⟨0, by omega, rfl, fun j hj => by omega⟩
  case round =>
    obtain ⟨k, hk, rfl, hj⟩ := hrel
    by_cases hlt : k < n
    · have ct := HT.out k (by omega)
      have cd := HD.out k (by omega)
      have hki : (k : Int) < 3000 := by omega
      cases htk : t k with
      | true =>
        rw [htk] at ct
        go_wp2
        go_round
        · exact ⟨k + 1, by omega, by go_num, fun j hj2 => by
            rcases Nat.lt_succ_iff_lt_or_eq.1 hj2 with h | h
            · exact hj.out j h
            · subst h; exact .inl htk⟩
        · simp [intOf]; omega
      | false =>
        rw [htk] at ct
        by_cases hz : d k = 0
        · rw [hz] at cd
          go_wp2
          go_round
          · exact ⟨k + 1, by omega, by go_num, fun j hj2 => by
              rcases Nat.lt_succ_iff_lt_or_eq.1 hj2 with h | h
              · exact hj.out j h
              · subst h; exact .inr hz⟩
          · simp [intOf]; omega
        · have HE : Hid (cleanM d t n = false) := cleanM_false hlt htk hz
          have hne : (((d k).toNat : Int) == 0) = false := by
            rw [beq_eq_false_iff_ne]
            intro e
            exact hz (UInt8.toNat_inj.mp (by simpa using e))
          go_wp2
          go_ret
          exact ⟨ret_bool HE.out.symm, rfl⟩
    · have hkn : k = n := by omega
      have HE : Hid (cleanM d t n = true) := cleanM_true (by subst hkn; exact hj.out)
      go_wp2
      go_ret
      exact ⟨ret_bool HE.out.symm, rfl⟩

theorem Arena.copied {w' : World} {g n : Nat} {s : ByteArray} {t : Nat → Bool} {cs : Value} {C : Array Value} (hsz : C.size = 6002) (hd : ∀ i, i < 3000 → C[i]? = some (.int .u8 0))
    (ht : ∀ i, i < 3000 → C[3000 + i]? = some (.bool (t i))) (hs : C[6000]? = some (.int .i64 n)) (hc : C[6001]? = some cs) (hn : s.size ≤ 3000)
    (hw : RowAt w' g 64 (C.toList.take 0 ++ Lib.byteCells s.data.toList ++ C.toList.drop (0 + s.size)).toArray) : Arena w' g (byteAt s) t n cs := by
  have hlen : (Lib.byteCells s.data.toList).length = s.size := by rw [Lib.byteCells_length, ← Lib.size_eq]
  have hget : ∀ i, (C.toList.take 0 ++ Lib.byteCells s.data.toList ++ C.toList.drop (0 + s.size)).toArray[i]? = if i < s.size then (Lib.byteCells s.data.toList)[i]? else C[i]? := fun i => by
    rw [List.take_zero, List.nil_append, Nat.zero_add, List.getElem?_toArray]
    by_cases h : i < s.size
    · rw [if_pos h, List.getElem?_append_left (by rw [hlen]; exact h)]
    · rw [if_neg h, List.getElem?_append_right (by rw [hlen]; omega), hlen, List.getElem?_drop, Array.getElem?_toList]
      congr 1; omega
  refine ⟨_, hw, ?_, fun i hi => ?_, fun i hi => ?_, ?_, ?_⟩
  · rw [List.size_toArray, List.take_zero, List.nil_append, List.length_append, hlen, List.length_drop, Array.length_toList, hsz]; omega
  · rw [hget i]
    by_cases h : i < s.size
    · have hl : i < s.data.toList.length := by rw [← Lib.size_eq]; exact h
      rw [if_pos h, Lib.byteCells, List.getElem?_map, byteAt, List.getD_eq_getElem?_getD, List.getElem?_eq_getElem hl]
      rfl
    · have hl : s.data.toList.length ≤ i := by rw [← Lib.size_eq]; omega
      rw [if_neg h, hd i hi, byteAt, List.getD_eq_getElem?_getD, List.getElem?_eq_none hl]
      rfl
  · rw [hget, if_neg (by omega), ht i hi]
  · rw [hget, if_neg (by omega), hs]
  · rw [hget, if_neg (by omega), hc]


theorem info5s : (Try.prog.info? 5).map (·.size) = some 1 := by kernel_rfl
theorem info76 : (Try.prog.info? 59).map (fun i => (i.zero, i.size, i.bytes)) = some (some (.pointer none), 1, 8) := by kernel_rfl

/-- Its numbers are numbers of 64 bits. -/
def Fit (x : Cl) : Prop := (-9223372036854775808 ≤ x.pos ∧ x.pos ≤ 9223372036854775807) ∧ (-9223372036854775808 ≤ x.len ∧ x.len ≤ 9223372036854775807) ∧ (-9223372036854775808 ≤ x.gen ∧ x.gen ≤ 9223372036854775807)

theorem Arena.below {w w' : World} {g n B : Nat} {d : Nat → UInt8} {t : Nat → Bool} {cs : Value} (h : Arena w g d t n cs) (hb : Below B w w') (hB : g < B) : Arena w' g d t n cs := by
  obtain ⟨C, hr, hrest⟩ := h.row
  exact ⟨C, hr.below hb hB, hrest⟩

theorem Arena.lt {w : World} {g n : Nat} {d : Nat → UInt8} {t : Nat → Bool} {cs : Value} (h : Arena w g d t n cs) : g < w.heap.size := by
  obtain ⟨C, hr, _⟩ := h.row
  exact hr.lt

theorem Arena.size {w : World} {g n : Nat} {d : Nat → UInt8} {t : Nat → Bool} {cs : Value} (h : Arena w g d t n cs) : w.cell? ⟨g, 6000, none⟩ = some (.int .i64 n) := by
  obtain ⟨C, hr, _, _, _, h1, _⟩ := h.row
  exact (hr.cell 6000).trans h1

theorem Arena.cells {w : World} {g n : Nat} {d : Nat → UInt8} {t : Nat → Bool} {cs : Value} (h : Arena w g d t n cs) : w.cell? ⟨g, 6001, none⟩ = some cs := by
  obtain ⟨C, hr, _, _, _, _, h1⟩ := h.row
  exact (hr.cell 6001).trans h1

theorem Arena.taken {w : World} {g n : Nat} {d : Nat → UInt8} {t : Nat → Bool} {cs : Value} (h : Arena w g d t n cs) (i : Nat) (hi : i < 3000) : w.cell? ⟨g, 3000 + i, none⟩ = some (.bool (t i)) := by
  obtain ⟨C, hr, _, _, h1, _⟩ := h.row
  exact (hr.cell _).trans (h1 i hi)

theorem Arena.frozen {w : World} {g n : Nat} {d : Nat → UInt8} {t : Nat → Bool} {cs : Value} (h : Arena w g d t n cs) (j : Nat) : w.frozen? ⟨g, j, none⟩ = false := by
  obtain ⟨C, hr, _⟩ := h.row
  exact hr.frozen j

theorem Arena.mark {w : World} {g n : Nat} {d : Nat → UInt8} {t : Nat → Bool} {cs : Value} (h : Arena w g d t n cs) (i : Nat) (hi : i < 3000) : Arena (w.setCell ⟨g, 3000 + i, none⟩ (.bool true)) g d (fun j => if j = i then true else t j) n cs := by
  obtain ⟨C, hr, hs, h1, h2, h3, h4⟩ := h.row
  refine ⟨_, hr.set (3000 + i) _, by rw [Array.size_setIfInBounds]; exact hs, fun j hj => ?_, fun j hj => ?_, ?_, ?_⟩
  · rw [Array.getElem?_setIfInBounds_ne (by omega)]; exact h1 j hj
  · by_cases e : j = i
    · subst e
      rw [Array.getElem?_setIfInBounds_self_of_lt (by omega), if_pos rfl]
    · rw [Array.getElem?_setIfInBounds_ne (by omega), if_neg e]; exact h2 j hj
  · rw [Array.getElem?_setIfInBounds_ne (by omega)]; exact h3
  · rw [Array.getElem?_setIfInBounds_ne (by omega)]; exact h4

theorem Arena.setCells {w : World} {g n : Nat} {d : Nat → UInt8} {t : Nat → Bool} {cs cs' : Value} (h : Arena w g d t n cs) : Arena (w.setCell ⟨g, 6001, none⟩ cs') g d t n cs' := by
  obtain ⟨C, hr, hs, h1, h2, h3, _⟩ := h.row
  refine ⟨_, hr.set 6001 _, by rw [Array.size_setIfInBounds]; exact hs, fun j hj => ?_, fun j hj => ?_, ?_, ?_⟩
  · rw [Array.getElem?_setIfInBounds_ne (by omega)]; exact h1 j hj
  · rw [Array.getElem?_setIfInBounds_ne (by omega)]; exact h2 j hj
  · rw [Array.getElem?_setIfInBounds_ne (by omega)]; exact h3
  · rw [Array.getElem?_setIfInBounds_self_of_lt (by omega)]

theorem Arena.same {w : World} {g n : Nat} {d : Nat → UInt8} {t t' : Nat → Bool} {cs : Value} (h : Arena w g d t n cs) (e : ∀ i, i < 3000 → t' i = t i) : Arena w g d t' n cs := by
  obtain ⟨C, hr, hs, h1, h2, h3, h4⟩ := h.row
  exact ⟨C, hr, hs, h1, fun i hi => by rw [e i hi]; exact h2 i hi, h3, h4⟩

theorem cl_new (w : World) (x : Cl) : ClAt (w.alloc (.cells (clV x) 35)) w.heap.size 0 x := by
  have h := RowAt.new w 35 (clV x)
  exact ⟨h.cell 0, h.cell 1, h.cell 2, h.cell 3⟩

def withinB (n : Nat) (x : Cl) : Bool := decide (1 ≤ x.len ∧ 0 ≤ x.pos ∧ x.pos ≤ n - x.len)

set_option maxHeartbeats 1000000 in
set_option maxRecDepth 100000 in
theorem within_any (g n : Nat) (d : Nat → UInt8) (t : Nat → Bool) (cs : Value) (x : Cl) (w : World) (h : Arena w g d t n cs) (hn : n ≤ 3000) (hx : Fit x) :
    Calls Try.prog 51 #[.pointer (some ⟨g, 0, none⟩), .agg (clV x)] w fun e w' => e = .returned (.bool (withinB n x)) ∧ Below w.heap.size w w' := by
  have hb : Below w.heap.size w (w.alloc (.cells (clV x) 35)) := (Below.refl _ w).alloc (Nat.le_refl _) _
  have hc := cl_new w x
  have hs := (h.below hb h.lt).size
  obtain ⟨⟨p1, p2⟩, ⟨l1, l2⟩, _⟩ := hx
  have HB : Hid (Below w.heap.size w (w.alloc (.cells (clV x) 35))) := hb
  clear h hb
  have c0 := hc.c0
  have c1 := hc.c1
  have c2 := hc.c2
  have c3 := hc.c3
  clear hc
  by_cases h1 : 1 ≤ x.len
  · have d1 : decide (1 ≤ x.len) = true := decide_eq_true h1
    by_cases h2 : 0 ≤ x.pos
    · have d2 : decide (0 ≤ x.pos) = true := decide_eq_true h2
      have HR : Hid (withinB n x = decide (x.pos ≤ (n : Int) - x.len)) := by unfold Hid withinB; simp [h1, h2]
      go_enter Try.func51, Try.ntmps51
      go_wp2
      generalize w.alloc (.cells (clV x) 35) = w1 at *
      go_quiet ((fail))
      go_wp2
      go_ret
      exact ⟨ret_bool HR.out.symm, below_drewN HB.out _⟩
    · have d2 : decide (0 ≤ x.pos) = false := decide_eq_false h2
      have HR : Hid (withinB n x = false) := by unfold Hid withinB; simp [h2]
      go_enter Try.func51, Try.ntmps51
      go_wp2
      generalize w.alloc (.cells (clV x) 35) = w1 at *
      go_quiet ((fail))
      go_wp2
      go_ret
      exact ⟨ret_bool HR.out.symm, below_drewN HB.out _⟩
  · have d1 : decide (1 ≤ x.len) = false := decide_eq_false h1
    have HR : Hid (withinB n x = false) := by unfold Hid withinB; simp [h1]
    go_enter Try.func51, Try.ntmps51
    go_wp2
    generalize w.alloc (.cells (clV x) 35) = w1 at *
    go_quiet ((fail))
    go_wp2
    go_ret
    exact ⟨ret_bool HR.out.symm, below_drewN HB.out _⟩

theorem free_no {t : Nat → Bool} {x : Cl} {k : Nat} (hk : (k : Int) < x.len) (h : t (x.pos.toNat + k) = true) : free t x = false := by
  rw [Bool.eq_false_iff]
  intro hf
  unfold free at hf
  have := List.all_eq_true.1 hf k (by rw [List.mem_range]; omega)
  rw [h] at this
  cases this

theorem free_yes {t : Nat → Bool} {x : Cl} (h : ∀ j : Nat, (j : Int) < x.len → t (x.pos.toNat + j) = false) : free t x = true := by
  unfold free
  rw [List.all_eq_true]
  intro k hk
  rw [List.mem_range] at hk
  rw [h k (by omega)]
  rfl

/-- What is taken when k bytes of the cell are. -/
def part (t : Nat → Bool) (x : Cl) (k : Nat) : Nat → Bool := fun i => t i || decide (x.pos.toNat ≤ i ∧ i < x.pos.toNat + k)

def TakeEnd (w : World) (g : Nat) (d : Nat → UInt8) (t : Nat → Bool) (n : Nat) (cs : Value) (x : Cl) (e : Ending) (w' : World) : Prop :=
  e = .returned (.bool (free t x)) ∧ (free t x = true → Arena w' g d (takes t x) n cs) ∧ w.grownBy w' (some g)

theorem grown_set1 {w w1 : World} {b o : Nat} {v : Value} (h : w.grownBy w1 (some b)) : w.grownBy (w1.setCell ⟨b, o, none⟩ v) (some b) :=
  ⟨h.os, h.tape, h.output, by simpa [World.setCell] using h.size, fun k hk hr => (Below.heap_setCell _ _ _ _ (fun e => hr (by simp [e]))).trans (h.block k hk hr)⟩

set_option maxHeartbeats 1000000 in
set_option maxRecDepth 100000 in
theorem take_any (g n : Nat) (d : Nat → UInt8) (t : Nat → Bool) (cs : Value) (x : Cl) (w : World) (h : Arena w g d t n cs) (hn : n ≤ 3000) (hx : Ok n x) :
    Calls Try.prog 52 #[.pointer (some ⟨g, 0, none⟩), .agg (clV x)] w (TakeEnd w g d t n cs x) := by
  obtain ⟨hlv, x1, x2, x3⟩ := hx
  have hb : Below w.heap.size w (w.alloc (.cells (clV x) 35)) := (Below.refl _ w).alloc (Nat.le_refl _) _
  have hc := cl_new w x
  have ha := h.below hb h.lt
  have hglt := h.lt
  have hne : g ≠ w.heap.size := by omega
  have HG : Hid (w.grownBy (w.alloc (.cells (clV x) 35)) (some g)) := grown_below (grown_refl w _) hb
  have c0 := hc.c0
  clear h hb
  have hsz : w.heap.size < (w.alloc (.cells (clV x) 35)).heap.size := by simp
  have HC : Hid (ClAt (w.alloc (.cells (clV x) 35)) w.heap.size 0 x) := hc
  clear hc
  go_enter Try.func52, Try.ntmps52
  go_wp2
  generalize hW : w.alloc (.cells (clV x) 35) = w1 at *
  clear c0
  go_loopw [5] (fun i wr => ∃ k : Nat, (k : Int) ≤ x.len ∧ i = .int .i64 (x.pos + k) ∧ Arena wr g d (part t x k) n cs ∧ Hid (∀ j : Nat, j < k → t (x.pos.toNat + j) = false) ∧ ClAt wr w.heap.size 0 x ∧ w.grownBy wr (some g)) (fun i _ => (x.pos + x.len - intOf i).toNat)
  case atStart => exact ⟨0, by omega, by simp, ha.same (fun i _ => by simp [part]; omega), fun j hj => by omega, HC.out, HG.out⟩
  case round =>
    obtain ⟨k, hk, rfl, har, hfr, hcl, gr⟩ := hrel
    have c0 := hcl.c0
    have c1 := hcl.c1
    by_cases hlt : (k : Int) < x.len
    · obtain ⟨p, hp⟩ : ∃ p : Nat, x.pos = p := ⟨x.pos.toNat, by omega⟩
      have hpk : x.pos.toNat + k < 3000 := by omega
      have ct := har.taken (p + k) (by omega)
      have fz := har.frozen (3000 + (p + k))
      have hpart : part t x k (p + k) = t (p + k) := by
        unfold part
        rw [decide_eq_false (by omega), Bool.or_false]
      rw [hpart] at ct
      have hpi : x.pos + (k : Int) = ((p + k : Nat) : Int) := by omega
      have hlti : ((p + k : Nat) : Int) < x.pos + x.len := by omega
      have hb3 : ((p + k : Nat) : Int) < 3000 := by omega
      cases htk : t (p + k) with
      | true =>
        rw [htk] at ct
        have HF : Hid (free t x = false) := free_no hlt (by rw [hp]; exact htk)
        rw [hpi]
        clear hpart hfr hpi
        go_wp2
        go_ret
        exact ⟨ret_bool HF.out.symm, (fun h => by rw [HF.out] at h; cases h), gr⟩
      | false =>
        rw [htk] at ct
        have HA : Hid (Arena (wr.setCell ⟨g, 3000 + (p + k), none⟩ (.bool true)) g d (part t x (k + 1)) n cs) := (har.mark (p + k) (by omega)).same (fun i hi => by
          unfold part
          by_cases e : i = p + k
          · rw [if_pos e, decide_eq_true (by omega), Bool.or_true]
          · rw [if_neg e]
            congr 1
            rw [decide_eq_decide]
            omega)
        have HFr : Hid (∀ j : Nat, j < k + 1 → t (x.pos.toNat + j) = false) := fun j hj => by
          rcases Nat.lt_succ_iff_lt_or_eq.1 hj with h | h
          · exact hfr.out j h
          · subst h; rw [hp]; exact htk
        have HCl : Hid (ClAt (wr.setCell ⟨g, 3000 + (p + k), none⟩ (.bool true)) w.heap.size 0 x) := by
          have hbl : ∀ j, (wr.setCell ⟨g, 3000 + (p + k), none⟩ (.bool true)).cell? ⟨w.heap.size, j, none⟩ = wr.cell? ⟨w.heap.size, j, none⟩ := fun j => World.cell?_of_block (w := wr) (Below.heap_setCell _ _ _ _ (fun e => hne e.symm))
          exact ⟨(hbl _).trans hcl.c0, (hbl _).trans hcl.c1, (hbl _).trans hcl.c2, (hbl _).trans hcl.c3⟩
        have HGr : Hid (w.grownBy (wr.setCell ⟨g, 3000 + (p + k), none⟩ (.bool true)) (some g)) := grown_set1 gr
        rw [hpi]
        clear hpart hfr har hcl gr
        go_wp2
        go_roundw
        case rel => exact ⟨k + 1, by omega, by go_num, HA.out, HFr, HCl.out, HGr.out⟩
        case measure => simp [intOf]; omega
    · have HF : Hid (free t x = true) := free_yes (fun j hj => hfr.out j (by omega))
      have HA : Hid (Arena wr g d (takes t x) n cs) := har.same (fun i _ => by
        unfold takes part covers
        rw [hlv, Bool.true_and]
        congr 1
        rw [decide_eq_decide]
        omega)
      have hke : (k : Int) = x.len := by omega
      have hlti : ¬ x.pos + (k : Int) < x.pos + x.len := by omega
      clear hfr har hcl
      go_wp2
      go_ret
      exact ⟨ret_bool HF.out.symm, fun _ => HA.out, gr⟩

/-- The arena while cells are admitted: k of them. -/
def Opens (w : World) (g : Nat) (d : Nat → UInt8) (t : Nat → Bool) (n k : Nat) : Prop := ∃ cs xs, Arena w g d t n cs ∧ w.ownsRow (g + 1) 59 1 cs k xs

def okC (n : Nat) (t : Nat → Bool) (x : Cl) : Bool := admitB n x && (!x.live || free t x)

theorem step_iff (n : Nat) (x : Cl) (r : List Cl) (t : Nat → Bool) : openM n (x :: r) t = if okC n t x = true then openM n r (takes t x) else none := by
  rw [openM]
  have : (admitB n x = true ∧ (x.live = true → free t x = true)) ↔ okC n t x = true := by
    unfold okC
    cases x.live <;> simp
  by_cases h : okC n t x = true
  · rw [if_pos h, if_pos (this.2 h)]
  · rw [if_neg h, if_neg (fun h' => h (this.1 h'))]

set_option maxHeartbeats 2000000 in
set_option maxRecDepth 100000 in
theorem admit_any (g n k : Nat) (d : Nat → UInt8) (t : Nat → Bool) (x : Cl) (w : World) (h : Opens w g d t n k) (hn : n ≤ 3000) (hk : k ≤ 1000) (hx : Fit x) :
    Calls Try.prog 43 #[.pointer (some ⟨g, 0, none⟩), .agg (clV x)] w fun e w' => e = .returned (.bool (okC n t x)) ∧ (okC n t x = true → Opens w' g d (takes t x) n (k + 1)) ∧ Below g w w' := by
  obtain ⟨cs, xs, ha, ho⟩ := h
  obtain ⟨i0, hi, hz0, hz1, hz2⟩ := info_parts info76
  have hglt := ha.lt
  have hb1 : Below w.heap.size w (w.alloc (.cells (clV x) 35)) := (Below.refl _ w).alloc (Nat.le_refl _) _
  have hs1 : (w.alloc (.cells (clV x) 35)).heap.size = w.heap.size + 1 := by simp
  have ha1 := ha.below hb1 hglt
  have hc1 := cl_new w x
  have ho1 := ho.alloc (.cells (clV x) 35)
  by_cases hgen : 1 ≤ x.gen ∧ x.gen ≤ 1000000000
  · obtain ⟨g1, g2⟩ := hgen
    have d1 : ¬ x.gen < 1 := by omega
    have d2 : ¬ 1000000000 < x.gen := by omega
    have c0 := hc1.c0
    have c1 := hc1.c1
    have c2 := hc1.c2
    have c3 := hc1.c3
    have cc := ha1.cells
    have fz := ha1.frozen 6001
    go_enter Try.func43, Try.ntmps43
    go_wp2_with (at_builtin; refine wpList_append_own _ rfl _ _ 62 rfl (g + 1) 59 i0 _ 1 8 Try.underlying62 hi hz0 hz1 hz2 rfl (by decide) _ _ _ rfl (ho1.alloc _) ⟨w.heap.size + 1, 0, none⟩ 1 1 [.pointer (some ⟨w.heap.size, 0, none⟩)] rfl rfl ?c1 ?c2 ?c3 ?c4 ?c5 ?_)
    case c2 => rfl
    case c3 => unfold maxLen; omega
    case c4 => omega
    case c5 => omega
    intro v0' w5 hown' hgrow _
    obtain ⟨A, cap, hv'⟩ : ∃ A cap, v0' = .slice (some ⟨A, 0, none⟩) (k + 1) cap := by
      rcases Go.Joins.ownsRow_forms hown' with ⟨_, h0⟩ | h
      · omega
      · exact h
    subst hv'
    have hsz5 : w.heap.size + 2 ≤ w5.heap.size := by have := hgrow.size; simp at this; omega
    have hblk : ∀ j, j < w.heap.size + 1 → some j ≠ Value.ownBlock cs → w5.heap[j]? = (w.alloc (.cells (clV x) 35)).heap[j]? := fun j hj hne => by
      rw [hgrow.block j (by simp; omega) hne]
      exact Below.heap_alloc _ _ _ (by omega)
    have hcsg : some g ≠ Value.ownBlock cs := fun e => by have := (ho.lt g e.symm).1; omega
    have hcsw : some w.heap.size ≠ Value.ownBlock cs := fun e => by have := (ho.lt _ e.symm).2; omega
    have ha5 : Arena w5 g d t n cs := by
      obtain ⟨C, hr, hrest⟩ := ha1.row
      exact ⟨C, (hblk g (by omega) hcsg).trans hr, hrest⟩
    have hc5 : ClAt w5 w.heap.size 0 x := by
      have hb : ∀ j, w5.cell? ⟨w.heap.size, j, none⟩ = (w.alloc (.cells (clV x) 35)).cell? ⟨w.heap.size, j, none⟩ := fun j => World.cell?_of_block (w := w.alloc (.cells (clV x) 35)) (hblk w.heap.size (by omega) hcsw)
      exact ⟨(hb _).trans hc1.c0, (hb _).trans hc1.c1, (hb _).trans hc1.c2, (hb _).trans hc1.c3⟩
    have hb5 : Below g w w5 := ⟨hgrow.os, hgrow.tape, hgrow.output, by omega, fun j hj => (hblk j (by omega) (fun e => by have := (ho.lt j e.symm).1; omega)).trans (Below.heap_alloc _ _ _ (by omega))⟩
    have ha6 : Arena (w5.setCell ⟨g, 6001, none⟩ (.slice (some ⟨A, 0, none⟩) (k + 1) cap)) g d t n (.slice (some ⟨A, 0, none⟩) (k + 1) cap) := ha5.setCells
    have ho6 : (w5.setCell ⟨g, 6001, none⟩ (.slice (some ⟨A, 0, none⟩) (k + 1) cap)).ownsRow (g + 1) 59 1 (.slice (some ⟨A, 0, none⟩) (k + 1) cap) (k + 1) (xs ++ [.pointer (some ⟨w.heap.size, 0, none⟩)]) := ownsRow_setCell_below hown' (by simp) _
    have hb6 : Below g w (w5.setCell ⟨g, 6001, none⟩ (.slice (some ⟨A, 0, none⟩) (k + 1) cap)) := hb5.setCell (p := ⟨g, 6001, none⟩) (Nat.le_refl _) _
    have hc6 : ClAt (w5.setCell ⟨g, 6001, none⟩ (.slice (some ⟨A, 0, none⟩) (k + 1) cap)) w.heap.size 0 x := by
      have hb : ∀ j, (w5.setCell ⟨g, 6001, none⟩ (.slice (some ⟨A, 0, none⟩) (k + 1) cap)).cell? ⟨w.heap.size, j, none⟩ = w5.cell? ⟨w.heap.size, j, none⟩ := fun j => World.cell?_of_block (w := w5) (Below.heap_setCell _ _ _ _ (by simp; omega))
      exact ⟨(hb _).trans hc5.c0, (hb _).trans hc5.c1, (hb _).trans hc5.c2, (hb _).trans hc5.c3⟩
    have hsz6 : w.heap.size + 2 ≤ (w5.setCell ⟨g, 6001, none⟩ (.slice (some ⟨A, 0, none⟩) (k + 1) cap)).heap.size := by simpa [World.setCell] using hsz5
    clear c0 c1 c2 c3 cc fz
    have cc := ha5.cells
    have fz := ha5.frozen 6001
    have c0 := hc6.c0
    have c1 := hc6.c1
    have c2 := hc6.c2
    have c3 := hc6.c3
    have HA : Hid (Arena (w5.setCell ⟨g, 6001, none⟩ (.slice (some ⟨A, 0, none⟩) (k + 1) cap)) g d t n (.slice (some ⟨A, 0, none⟩) (k + 1) cap)) := ha6
    have HO : Hid ((w5.setCell ⟨g, 6001, none⟩ (.slice (some ⟨A, 0, none⟩) (k + 1) cap)).ownsRow (g + 1) 59 1 (.slice (some ⟨A, 0, none⟩) (k + 1) cap) (k + 1) (xs ++ [.pointer (some ⟨w.heap.size, 0, none⟩)])) := ho6
    have HB : Hid (Below g w (w5.setCell ⟨g, 6001, none⟩ (.slice (some ⟨A, 0, none⟩) (k + 1) cap))) := hb6
    have HG : Hid (decide (1 ≤ x.gen ∧ x.gen ≤ 1000000000) = true) := decide_eq_true ⟨g1, g2⟩
    clear hown' hgrow hblk ha5 hc5 hb5 ha6 ho6 hb6 hc6 ha1 ho1 ha ho hc1 hb1 hcsg hcsw
    cases hlv : x.live with
    | false =>
      have HF : Hid (okC n t x = decide (x.pos = 0 ∧ x.len = 0)) := by
        unfold Hid okC admitB
        rw [HG.out, hlv]
        simp
      have HT : Hid (takes t x = t) := by
        unfold Hid
        funext i
        simp [takes, covers, hlv]
      rw [hlv] at c3
      by_cases hp0 : x.pos = 0
      · have dp : (x.pos == 0) = true := by simp [hp0]
        have HF2 : Hid (okC n t x = (x.len == 0)) := by
          unfold Hid
          rw [HF.out]
          by_cases hl0 : x.len = 0 <;> simp [hp0, hl0]
        clear hp0
        go_wp2
        go_ret
        exact ⟨ret_bool HF2.out.symm, fun _ => by rw [HT.out]; exact ⟨_, _, HA.out, HO.out⟩, HB.out⟩
      · have dp : (x.pos == 0) = false := by simp [hp0]
        have HF2 : Hid (okC n t x = false) := by
          unfold Hid
          rw [HF.out]
          simp [hp0]
        go_wp2
        go_ret
        exact ⟨ret_bool HF2.out.symm, (fun h => by rw [HF2.out] at h; cases h), HB.out⟩
    | true =>
      rw [hlv] at c3
      have HF : Hid (okC n t x = (withinB n x && free t x)) := by
        unfold Hid okC admitB
        rw [HG.out, hlv]
        simp [withinB]
      go_wp2_with fail
      generalize w5.setCell ⟨g, 6001, none⟩ (.slice (some ⟨A, 0, none⟩) (k + 1) cap) = w6 at *
      have HW := within_any g n d t (.slice (some ⟨A, 0, none⟩) (k + 1) cap) x w6 HA.out hn hx
      simp only [clV, hlv] at HW
      refine HW.mono ?_
      clear HW
      rintro e w7 ⟨rfl, b7⟩
      have s7 := b7.size
      have HA7 : Hid (Arena w7 g d t n (.slice (some ⟨A, 0, none⟩) (k + 1) cap)) := HA.out.below b7 (by omega)
      have HO7 : Hid (w7.ownsRow (g + 1) 59 1 (.slice (some ⟨A, 0, none⟩) (k + 1) cap) (k + 1) (xs ++ [.pointer (some ⟨w.heap.size, 0, none⟩)])) :=
        HO.out.kept (row := some w6.heap.size) ⟨b7.os, b7.tape, b7.output, b7.size, fun j hj _ => b7.block j hj⟩ (.inr fun e => by have := (HO.out.lt _ e).2; omega)
      have HB7 : Hid (Below g w w7) := HB.out.trans (b7.mono (by omega))
      have hc7 : ClAt w7 w.heap.size 0 x := cl_below ⟨c0, c1, c2, by rw [hlv]; exact c3⟩ (by omega) b7
      cases hwi : withinB n x with
      | false =>
        rw [hwi, Bool.false_and] at HF
        clear hc7 hwi
        go_wp2
        go_ret
        exact ⟨ret_bool HF.out.symm, (fun h => by rw [HF.out] at h; cases h), HB7.out⟩
      | true =>
        rw [hwi, Bool.true_and] at HF
        have hok : Ok n x := by
          have := of_decide_eq_true hwi
          exact ⟨hlv, by omega, by omega, by omega⟩
        clear c0 c1 c2 c3
        have c0 := hc7.c0
        have c1 := hc7.c1
        have c2 := hc7.c2
        have c3 := hc7.c3
        clear hc7 hwi
        go_wp2_with fail
        have HW := take_any g n d t (.slice (some ⟨A, 0, none⟩) (k + 1) cap) x w7 HA7.out hn hok
        simp only [clV, hlv] at HW
        refine HW.mono ?_
        clear HW
        rintro e w8 ⟨rfl, ha8, g8⟩
        have HA8 : Hid (free t x = true → Arena w8 g d (takes t x) n (.slice (some ⟨A, 0, none⟩) (k + 1) cap)) := ha8
        have HO8 : Hid (w8.ownsRow (g + 1) 59 1 (.slice (some ⟨A, 0, none⟩) (k + 1) cap) (k + 1) (xs ++ [.pointer (some ⟨w.heap.size, 0, none⟩)])) := HO7.out.kept g8 (.inr fun e => by have := (HO7.out.lt _ e).1; omega)
        have HB8 : Hid (Below g w w8) := HB7.out.trans (below_of_grown g8 (Nat.le_refl _) (by omega))
        clear ha8 g8
        rw [← HF.out] at HA8 ⊢
        go_wp2
        go_ret
        exact ⟨rfl, fun h => ⟨_, _, HA8.out h, HO8.out⟩, HB8.out⟩
  · have HF : Hid (okC n t x = false) := by
      unfold Hid okC admitB
      rw [decide_eq_false hgen, Bool.false_and, Bool.false_and]
    have hbg : Below g w (w.alloc (.cells (clV x) 35)) := hb1.mono (by omega)
    clear ha1 ho1 hc1 ha ho
    go_enter Try.func43, Try.ntmps43
    go_wp2
    all_goals first
      | (exfalso; omega)
      | (go_ret; exact ⟨ret_bool HF.out.symm, (fun h => by rw [HF.out] at h; cases h), hbg⟩)
end Go.Proofs.Ytjjpplpdpldkeaa
