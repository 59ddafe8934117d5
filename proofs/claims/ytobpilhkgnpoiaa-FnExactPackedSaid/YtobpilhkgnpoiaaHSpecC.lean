/- The specification's Room and Gap. -/
import Derived.Test.YtobpilhkgnpoiaaHSpecB
import Derived.Test.YtobpilhkgnpoiaaHOver
namespace Go.Proofs.Ytobpilhkgnpoiaa
open Go.RowKit Go.Sort

theorem heap_cells {s : ByteArray} {L : List Cl} (h : heapB s L = true) (i : Nat) (hi : i < L.length) : specCellB s.size (L.getD i cl0) = true := by
  obtain ⟨h1, h2⟩ := heap_small h
  cases hc : specCellB s.size (L.getD i cl0) with
  | true => rfl
  | false => rw [spec_no h1 h2 hi hc] at h; cases h

theorem heap_right {s : ByteArray} {L : List Cl} (h : heapB s L = true) : ∃ t, openM s.size L (fun _ => false) = some t ∧ Right s.size L t := by
  unfold heapB at h
  rw [Bool.and_eq_true] at h
  have h2 := h.2
  unfold implB at h2
  cases ho : openM s.size L (fun _ => false) with
  | none => rw [ho] at h2; cases h2
  | some t => exact ⟨t, rfl, right_of_open ho⟩

theorem lens_take (L : List Cl) (k : Nat) (h : k < L.length) : lens (L.take (k + 1)) = lens (L.take k) + (L.getD k cl0).len := by
  unfold lens
  rw [List.take_succ_eq_append_getElem h, List.map_append, List.sum_append, List.getD_eq_getElem?_getD, List.getElem?_eq_getElem h]
  simp

def roomB (s : ByteArray) (L : List Cl) : Int := if heapB s L = true then s.size - lens L else -1

theorem room_one (s : ByteArray) (L : List Cl) : overB (fun x y => x + y) s L = roomB s L := by
  unfold overB roomB
  by_cases h : heapB s L = true
  · rw [if_pos h, if_pos h]
    obtain ⟨t, ho, hr⟩ := heap_right h
    unfold gapsOf
    rw [ho, ← hr.room]
    rfl
  · rw [if_neg h, if_neg h]

set_option maxHeartbeats 1000000 in
set_option maxRecDepth 100000 in
theorem specRoom_any (s : ByteArray) (a : Option Addr) (b off n c : Nat) (L : List Cl) (w : World) (h : CellsIn w a b off n L) (hs : s.size ≤ 1048576) (hn : n ≤ 1048576) (hf : ∀ i, i < n → Fit (L.getD i cl0)) :
    Calls Try.prog 20 #[.agg #[.string s, .slice a n c]] w fun e w' => e = .returned (.int .i64 (roomB s L)) ∧ Below w.heap.size w w' := by
  have hl := h.len
  have hb0 : Below w.heap.size w (w.alloc (.cells #[.string s, .slice a n c] 24)) := (Below.refl _ w).alloc (Nat.le_refl _) _
  have hr0 := RowAt.new w 24 #[.string s, .slice a n c]
  have h0 := cells_below h hb0
  have hlt0 := hr0.lt
  go_enter Try.func20, Try.ntmps20
  go_wp2_with fail
  generalize w.alloc (.cells #[.string s, .slice a n c] 24) = w1 at *
  refine (specOk_any s a b off n c L w1 h0 hs hn hf).mono ?_
  rintro e w2 ⟨rfl, b2⟩
  have bb := hb0.trans (b2.mono (by omega))
  have r2 := hr0.below b2 hlt0
  have h2 := cells_below h0 b2
  clear hb0 hr0 h0 b2 hf
  cases hr : heapB s L with
  | false =>
    have HR : Hid (roomB s L = -1) := by unfold Hid roomB; rw [hr]; rfl
    clear hr hl r2
    go_wp2
    go_ret
    exact ⟨ret_int HR.out.symm, bb⟩
  | true =>
    have HR : Hid (roomB s L = s.size - lens L) := by unfold Hid roomB; rw [hr]; rfl
    obtain ⟨hs3, hn4⟩ := heap_small hr
    have HC : Hid (∀ i, i < n → 0 ≤ (L.getD i cl0).len ∧ (L.getD i cl0).len ≤ 3000) := fun i hi => by
      have := spec_facts (heap_cells hr i (by omega))
      omega
    have HL : Hid (L.length = n) := hl
    have hn40 : n ≤ 40 := by omega
    clear hr hl
    obtain ⟨e0, e1⟩ : w2.cell? ⟨w.heap.size, 0, none⟩ = some (.string s) ∧ w2.cell? ⟨w.heap.size, 1, none⟩ = some (.slice a n c) := by
      have x := r2.cell 0
      have y := r2.cell 1
      simp at x y
      exact ⟨x, y⟩
    clear r2
    go_wp2
    go_loop [3, 4] (fun m i => ∃ k : Nat, k ≤ n ∧ i = .int .i64 k ∧ m = .int .i64 (s.size - lens (L.take k)) ∧ 0 ≤ lens (L.take k) ∧ lens (L.take k) ≤ 3000 * k) (fun _ i => n - (intOf i).toNat)
    case atStart => exact ⟨0, by omega, rfl, by simp [lens], by simp [lens], by simp [lens]⟩
    case round =>
      obtain ⟨k, hk, rfl, rfl, l0, l1⟩ := hrel
      by_cases hlt : k < n
      · obtain rfl := h.addr (by omega)
        have c1 := (h2.cell k hlt).c1
        have hbd := HC.out k hlt
        have HS : Hid (lens (L.take (k + 1)) = lens (L.take k) + (L.getD k cl0).len) := lens_take L k (by rw [HL.out]; exact hlt)
        generalize L.getD k cl0 = x at *
        generalize lens (L.take k) = T at *
        go_wp2
        go_round
        · exact ⟨k + 1, by omega, by go_num, by rw [HS.out]; congr 1; omega, by rw [HS.out]; omega, by rw [HS.out]; omega⟩
        · simp [intOf]; omega
      · have hkn : k = n := by omega
        have HT : Hid (lens (L.take k) = lens L) := by unfold Hid; rw [hkn, ← HL.out, List.take_length]
        clear hkn
        go_wp2
        go_ret
        exact ⟨ret_int (by rw [HT.out, HR.out]), bb⟩

/-! ### Gaps -/

def gapStep (want : Int) (st : Int × Int) (g : Nat × Nat) : Int × Int := (if st.1 < 0 ∧ want ≤ (g.2 : Int) then (g.1 : Int) else st.1, max st.2 (g.2 : Int))

def gapFold (want : Int) (n : Nat) (S : List Cl) (e : Nat) (st : Int × Int) : Int × Int := (gapsAll n S e).foldl (gapStep want) st

theorem gapFold_nil (want : Int) (n e : Nat) (st : Int × Int) : gapFold want n [] e st = gapStep want st (e, n - e) := rfl
theorem gapFold_cons (want : Int) (n e : Nat) (c : Cl) (r : List Cl) (st : Int × Int) : gapFold want n (c :: r) e st = gapFold want n r (c.pos + c.len).toNat (gapStep want st (e, c.pos.toNat - e)) := rfl

theorem gapFold_best (want : Int) : ∀ (l : List (Nat × Nat)) (st : Int × Int), (l.foldl (gapStep want) st).2 = l.foldl (fun a g => max a (g.2 : Int)) st.2
  | [], _ => rfl
  | g :: r, st => by rw [List.foldl_cons, List.foldl_cons, gapFold_best want r]; rfl

/-- Where the sweep stands: what is left lies behind e, in order. -/
def Ahead (n : Nat) (S : List Cl) (e : Nat) : Prop := e ≤ n ∧ (∀ c ∈ S, Ok n c) ∧ Sorted S ∧ S.Pairwise Disj ∧ ∀ c ∈ S, (e : Int) ≤ c.pos

theorem Ahead.next {n : Nat} {c : Cl} {r : List Cl} {e : Nat} (h : Ahead n (c :: r) e) : Ahead n r (c.pos + c.len).toNat := by
  obtain ⟨he, hok, hso, hd, hp⟩ := h
  obtain ⟨hl, h1, h2, h3⟩ := hok c (by simp)
  rw [Sorted, List.pairwise_cons] at hso
  rw [List.pairwise_cons] at hd
  refine ⟨by omega, fun x hx => hok x (by simp [hx]), hso.2, hd.2, fun x hx => ?_⟩
  have hx2 := hso.1 x hx
  obtain ⟨_, q1, q2, q3⟩ := hok x (by simp [hx])
  rcases hd.1 x hx with h | h <;> omega

theorem Ahead.facts {n : Nat} {c : Cl} {r : List Cl} {e : Nat} (h : Ahead n (c :: r) e) : 0 ≤ c.pos ∧ 1 ≤ c.len ∧ (e : Int) ≤ c.pos ∧ c.pos + c.len ≤ n := by
  obtain ⟨he, hok, hso, hd, hp⟩ := h
  obtain ⟨hl, h1, h2, h3⟩ := hok c (by simp)
  exact ⟨h2, h1, hp c (by simp), h3⟩

theorem Right.ahead {n : Nat} {L : List Cl} {t : Nat → Bool} (h : Right n L t) : Ahead n (liveC [] L) 0 := ⟨by omega, h.ok, h.sorted, h.disj, h.low⟩

theorem ret_tuple2 {a b c d : Int} (h : (a, b) = (c, d)) : Ending.returned (.tuple #[.int .i64 a, .int .i64 b]) = .returned (.tuple #[.int .i64 c, .int .i64 d]) := by
  cases h; rfl
end Go.Proofs.Ytobpilhkgnpoiaa
