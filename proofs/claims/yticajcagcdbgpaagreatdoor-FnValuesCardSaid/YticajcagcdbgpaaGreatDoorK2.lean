/- Where a member stands; whether the members differ. -/
import Derived.Test.YticajcagcdbgpaaGreatDoorK1
namespace Go.Proofs.YticajcagcdbgpaaGreatDoor.Kk
open Go.RowKit Go.Sort

/-- The row g holds the cells C. -/
def RowAt (w : World) (g : Nat) (T : TypeId) (C : Array Value) : Prop := w.heap[g]? = some (.cells C T (0, 0))

theorem RowAt.cell {w : World} {g : Nat} {T : TypeId} {C : Array Value} (h : RowAt w g T C) (j : Nat) : w.cell? ⟨g, j, none⟩ = C[j]? := Lib.cell_of_heap h j
theorem RowAt.frozen {w : World} {g : Nat} {T : TypeId} {C : Array Value} (h : RowAt w g T C) (j : Nat) : w.frozen? ⟨g, j, none⟩ = false := Lib.frozen_of_heap h j
theorem RowAt.set {w : World} {g : Nat} {T : TypeId} {C : Array Value} (h : RowAt w g T C) (j : Nat) (v : Value) : RowAt (w.setCell ⟨g, j, none⟩ v) g T (C.setIfInBounds j v) := by
  unfold RowAt at *
  simp [World.setCell, Array.getElem?_modify, h]
theorem RowAt.lt {w : World} {g : Nat} {T : TypeId} {C : Array Value} (h : RowAt w g T C) : g < w.heap.size := (Array.getElem?_eq_some_iff.1 h).1
theorem RowAt.new (w : World) (T : TypeId) (C : Array Value) : RowAt (w.alloc (.cells C T)) w.heap.size T C := by
  show (w.heap.push (.cells C T (0, 0)))[w.heap.size]? = _
  simp
theorem RowAt.below {w w' : World} {g : Nat} {T : TypeId} {C : Array Value} {B : Nat} (h : RowAt w g T C) (hb : Below B w w') (hg : g < B) : RowAt w' g T C := (hb.block g hg).trans h

theorem str_ne {a b : ByteArray} (h : ¬ a = b) : (a.toList == b.toList) = false := by
  rw [beq_eq_false_iff_ne, ByteArray.toList_eq, ByteArray.toList_eq]
  intro e
  exact h (ByteArray.ext (Array.toList_inj.1 e))
theorem str_eq (a b : ByteArray) : (a.toList == b.toList) = decide (a = b) := by
  by_cases h : a = b
  · subst h; simp
  · rw [str_ne h, decide_eq_false h]

set_option maxHeartbeats 1000000 in
theorem same_any (x : Rk) (m : ByteArray) (g : Nat) (w : World) (hg : w.cell? ⟨g, 0, none⟩ = some (.string m)) (hlt : g < w.heap.size) :
    Calls Tryz.prog 114 #[rkV x, .pointer (some ⟨g, 0, none⟩)] w fun e w' => e = .returned (.bool (decide (x.m = m))) ∧ Below w.heap.size w w' := by
  obtain ⟨xm, xs⟩ := x
  have b0 : Below w.heap.size w (w.alloc (.cells #[.string xm, .int .i64 xs] 54)) := (Below.refl _ w).alloc (Nat.le_refl _) _
  have hg1 : (w.alloc (.cells #[.string xm, .int .i64 xs] 54)).cell? ⟨g, 0, none⟩ = some (.string m) := (b0.cell (p := ⟨g, 0, none⟩) hlt).trans hg
  have HE : Hid ((xm.toList == m.toList) = decide (xm = m)) := str_eq xm m
  go_enter Tryz.func114, Tryz.ntmps114
  go_wp2
  go_ret
  exact ⟨ret_bool HE.out, b0⟩

/-- The first place with that member. -/
def FirstAt (L : List Rk) (m : ByteArray) (n : Nat) (r : Int) : Prop :=
  (∃ k : Nat, r = k ∧ k < n ∧ (L.getD k rk0).m = m ∧ ∀ j, j < k → (L.getD j rk0).m ≠ m) ∨ (r = -1 ∧ ∀ j, j < n → (L.getD j rk0).m ≠ m)

set_option maxHeartbeats 1000000 in
set_option maxRecDepth 100000 in
theorem index_any (a : Option Addr) (b off n c : Nat) (L : List Rk) (m : ByteArray) (g : Nat) (w : World) (h : RanksIn w a b off n L) (hn : n ≤ 1048577) (hg : w.cell? ⟨g, 0, none⟩ = some (.string m)) (hg2 : g < w.heap.size) :
    Calls Tryz.prog 113 #[.slice a n c, .func (.func 114) #[] #[.pointer (some ⟨g, 0, none⟩)]] w fun e w' => (∃ r : Int, e = .returned (.int .i64 r) ∧ FirstAt L m n r) ∧ Below w.heap.size w w' := by
  have H : Hid (RanksIn w a b off n L) := h
  have HG : Hid (w.cell? ⟨g, 0, none⟩ = some (.string m)) := hg
  clear h hg
  go_enter Tryz.func113, Tryz.ntmps113
  go_wp2
  go_loopw [8] (fun i wr => ∃ (k : Nat), k ≤ n ∧ i = .int .i64 k ∧ Hid (∀ j, j < k → (L.getD j rk0).m ≠ m) ∧ Below w.heap.size w wr) (fun i _ => n - (intOf i).toNat)
  case atStart => exact ⟨0, by omega, rfl, fun j hj => by omega, Below.refl _ _⟩
  case round =>
    obtain ⟨k, hk, rfl, hp, bk⟩ := hrel
    by_cases hlt : k < n
    · have HW := H.out.below bk
      have hx := HW.cell k hlt
      obtain rfl := HW.addr (by omega)
      have c0 := hx.c0
      have c1 := hx.c1
      have sk := bk.size
      have hgk : wr.cell? ⟨g, 0, none⟩ = some (.string m) := (bk.cell (p := ⟨g, 0, none⟩) hg2).trans HG.out
      have HS : Hid (∃ x, L.getD k rk0 = x) := ⟨_, rfl⟩
      obtain ⟨x, hxe⟩ := HS.out
      have HX : Hid (L.getD k rk0 = x) := hxe
      rw [hxe] at c0 c1
      have HC := same_any x m g wr hgk (by omega)
      clear HW hx HS hxe
      obtain ⟨xm, xs⟩ := x
      dsimp only at c0 c1
      go_wp2_with fail
      refine HC.mono ?_
      rintro e w1 ⟨rfl, b1⟩
      have b2 := bk.trans (b1.mono sk)
      clear HC b1
      dsimp only
      by_cases he : xm = m
      · have HT : Hid (FirstAt L m n k) := .inl ⟨k, rfl, hlt, by rw [HX.out]; exact he, hp.out⟩
        have hd : decide (xm = m) = true := decide_eq_true he
        clear hp
        go_wp2
        go_ret
        exact ⟨⟨_, rfl, HT.out⟩, b2⟩
      · have HP2 : Hid (∀ j, j < k + 1 → (L.getD j rk0).m ≠ m) := fun j hj => by
          by_cases e : j = k
          · subst e; rw [HX.out]; exact he
          · exact hp.out j (by omega)
        have hd : decide (xm = m) = false := decide_eq_false he
        clear hp
        go_wp2
        go_roundw
        case rel => exact ⟨k + 1, by omega, by go_num, HP2, b2⟩
        case measure => simp [intOf]; omega
    · obtain rfl : k = n := by omega
      have HT : Hid (FirstAt L m k (-1)) := .inr ⟨rfl, hp.out⟩
      clear hp
      go_wp2
      go_ret
      exact ⟨⟨_, rfl, HT.out⟩, bk⟩

set_option maxHeartbeats 1000000 in
theorem place_any (a : Option Addr) (b off n c : Nat) (L : List Rk) (m : ByteArray) (w : World) (h : RanksIn w a b off n L) (hn : n ≤ 1048577) :
    Calls Tryz.prog 110 #[.slice a n c, .string m] w fun e w' => (∃ r : Int, e = .returned (.int .i64 r) ∧ FirstAt L m n r) ∧ Below w.heap.size w w' := by
  have b0 : Below w.heap.size w (w.alloc (.cells #[.string m] 9)) := (Below.refl _ w).alloc (Nat.le_refl _) _
  have q0 := RowAt.new w 9 #[.string m]
  have HI := index_any a b off n c L m w.heap.size (w.alloc (.cells #[.string m] 9)) (h.below b0) hn (q0.cell 0) q0.lt
  have sk := b0.size
  clear h
  go_enter Tryz.func110, Tryz.ntmps110
  go_wp2_with fail
  refine HI.mono ?_
  rintro e w1 ⟨⟨r, rfl, hr⟩, b1⟩
  have b2 := b0.trans (b1.mono sk)
  have HR : Hid (FirstAt L m n r) := hr
  clear HI b1 hr
  go_wp2
  go_ret
  exact ⟨⟨r, rfl, HR.out⟩, b2⟩

theorem fr_of_first {L : List Rk} {i n : Nat} {r : Int} (hi : i < n) (h : FirstAt L (L.getD i rk0).m n r) : frAt L i = decide (r = i) := by
  rcases h with ⟨k, rfl, hk, he, hj⟩ | ⟨rfl, hj⟩
  · by_cases hik : i < k
    · exact absurd rfl (hj i hik)
    · by_cases e : k = i
      · subst e
        rw [decide_eq_true rfl]
        unfold frAt
        rw [Bool.not_eq_true']
        rw [List.any_eq_false]
        intro j hj2
        simpa using hj j (List.mem_range.1 hj2)
      · rw [decide_eq_false (by omega)]
        unfold frAt
        rw [Bool.not_eq_false']
        rw [List.any_eq_true]
        exact ⟨k, List.mem_range.2 (by omega), by simpa using he⟩
  · exact absurd rfl (hj i hi)

set_option maxHeartbeats 1000000 in
set_option maxRecDepth 100000 in
theorem differ_any (a : Option Addr) (b off n c : Nat) (L : List Rk) (w : World) (h : RanksIn w a b off n L) (hn : n ≤ 1048577) :
    Calls Tryz.prog 104 #[.slice a n c] w fun e w' => e = .returned (.bool ((List.range n).all (frAt L))) ∧ Below w.heap.size w w' := by
  have H : Hid (RanksIn w a b off n L) := h
  clear h
  go_enter Tryz.func104, Tryz.ntmps104
  go_wp2
  go_loopw [7] (fun i wr => ∃ (k : Nat), k ≤ n ∧ i = .int .i64 k ∧ Hid (∀ j, j < k → frAt L j = true) ∧ Below w.heap.size w wr) (fun i _ => n - (intOf i).toNat)
  case atStart => exact ⟨0, by omega, rfl, fun j hj => by omega, Below.refl _ _⟩
  case round =>
    obtain ⟨k, hk, rfl, hp, bk⟩ := hrel
    by_cases hlt : k < n
    · have HW := H.out.below bk
      have hx := HW.cell k hlt
      obtain rfl := HW.addr (by omega)
      have c0 := hx.c0
      have c1 := hx.c1
      have HF : Hid (∀ r : Int, FirstAt L (L.getD k rk0).m n r → frAt L k = decide (r = k)) := fun r => fr_of_first hlt
      generalize L.getD k rk0 = x at *
      obtain ⟨m, s⟩ := x
      have sk := bk.size
      have b0 : Below wr.heap.size wr (wr.alloc (.cells #[.string m, .int .i64 s] 54)) := (Below.refl _ _).alloc (Nat.le_refl _) _
      have s0 := b0.size
      have HPL := place_any _ b off n c L m (wr.alloc (.cells #[.string m, .int .i64 s] 54)) (HW.below b0) hn
      have b1 := bk.trans (b0.mono sk)
      clear HW hx b0
      dsimp only at c0 c1
      go_wp2_with fail
      refine HPL.mono ?_
      rintro e w1 ⟨⟨r, rfl, hr⟩, b2⟩
      have b3 := b1.trans (b2.mono (by omega))
      have HS : Hid (frAt L k = decide (r = k)) := HF.out r hr
      clear HPL HF hr b2 b1
      by_cases he : r = k
      · have HP2 : Hid (∀ j, j < k + 1 → frAt L j = true) := fun j hj => by
          by_cases e : j = k
          · subst e; rw [HS.out, decide_eq_true he]
          · exact hp.out j (by omega)
        subst he
        clear hp HS
        go_wp2
        go_roundw
        case rel => exact ⟨k + 1, by omega, by go_num, HP2, b3⟩
        case measure => simp [intOf]; omega
      · have HF : Hid ((List.range n).all (frAt L) = false) := all_no hlt (by rw [HS.out, decide_eq_false he])
        have hne : (r != (k : Int)) = true := by simpa using he
        clear hp HS
        go_wp2
        go_ret
        exact ⟨ret_bool HF.out.symm, b3⟩
    · obtain rfl : k = n := by omega
      have HT : Hid ((List.range k).all (frAt L) = true) := all_yes hp.out
      clear hp
      go_wp2
      go_ret
      exact ⟨ret_bool HT.out.symm, bk⟩
end Go.Proofs.YticajcagcdbgpaaGreatDoor.Kk
