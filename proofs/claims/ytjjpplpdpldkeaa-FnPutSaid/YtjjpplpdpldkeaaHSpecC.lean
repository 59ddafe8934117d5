/- The specification's Room and Gap. -/
import Derived.Test.YtjjpplpdpldkeaaHSpecB
import Derived.Test.YtjjpplpdpldkeaaHOver
namespace Go.Proofs.Ytjjpplpdpldkeaa
open Go.RowKit Go.Sort

theorem heap_cells {s : ByteArray} {L : List Cl} (h : heapB s L = true) (i : Nat) (hi : i < L.length) : specCellB s.size (L.getD i cl0) = true := by
  obtain ⟨h1, h2⟩ := heap_small h
  cases hc : specCellB s.size (L.getD i cl0) with
  | true => rfl
  | false => rw [spec_no h1 h2 hi hc] at h; cases h

theorem heap_right {s : ByteArray} {L : List Cl} (h : heapB s L = true) : ∃ t, openM s.size L (fun _ => false) = some t ∧ Right s.size L t := by
  unfold heapB at h
  rw [Bool.and_eq_true] at h
  have h2 := h.2
  unfold implB at h2
  cases ho : openM s.size L (fun _ => false) with
  | none => rw [ho] at h2; cases h2
  | some t => exact ⟨t, rfl, right_of_open ho⟩

theorem lens_take (L : List Cl) (k : Nat) (h : k < L.length) : lens (L.take (k + 1)) = lens (L.take k) + (L.getD k cl0).len := by
  unfold lens
  rw [List.take_succ_eq_append_getElem h, List.map_append, List.sum_append, List.getD_eq_getElem?_getD, List.getElem?_eq_getElem h]
  simp

def roomB (s : ByteArray) (L : List Cl) : Int := if heapB s L = true then s.size - lens L else -1

theorem room_one (s : ByteArray) (L : List Cl) : overB (fun x y => x + y) s L = roomB s L := by
  unfold overB roomB
  by_cases h : heapB s L = true
  · rw [if_pos h, if_pos h]
    obtain ⟨t, ho, hr⟩ := heap_right h
    unfold gapsOf
    rw [ho, ← hr.room]
    rfl
  · rw [if_neg h, if_neg h]

/-! ### Gaps -/

def gapStep (want : Int) (st : Int × Int) (g : Nat × Nat) : Int × Int := (if st.1 < 0 ∧ want ≤ (g.2 : Int) then (g.1 : Int) else st.1, max st.2 (g.2 : Int))

def gapFold (want : Int) (n : Nat) (S : List Cl) (e : Nat) (st : Int × Int) : Int × Int := (gapsAll n S e).foldl (gapStep want) st

theorem gapFold_nil (want : Int) (n e : Nat) (st : Int × Int) : gapFold want n [] e st = gapStep want st (e, n - e) := rfl
theorem gapFold_cons (want : Int) (n e : Nat) (c : Cl) (r : List Cl) (st : Int × Int) : gapFold want n (c :: r) e st = gapFold want n r (c.pos + c.len).toNat (gapStep want st (e, c.pos.toNat - e)) := rfl

theorem gapFold_best (want : Int) : ∀ (l : List (Nat × Nat)) (st : Int × Int), (l.foldl (gapStep want) st).2 = l.foldl (fun a g => max a (g.2 : Int)) st.2
  | [], _ => rfl
  | g :: r, st => by rw [List.foldl_cons, List.foldl_cons, gapFold_best want r]; rfl

/-- Where the sweep stands: what is left lies behind e, in order. -/
def Ahead (n : Nat) (S : List Cl) (e : Nat) : Prop := e ≤ n ∧ (∀ c ∈ S, Ok n c) ∧ Sorted S ∧ S.Pairwise Disj ∧ ∀ c ∈ S, (e : Int) ≤ c.pos

theorem Ahead.next {n : Nat} {c : Cl} {r : List Cl} {e : Nat} (h : Ahead n (c :: r) e) : Ahead n r (c.pos + c.len).toNat := by
  obtain ⟨he, hok, hso, hd, hp⟩ := h
  obtain ⟨hl, h1, h2, h3⟩ := hok c (by simp)
  rw [Sorted, List.pairwise_cons] at hso
  rw [List.pairwise_cons] at hd
  refine ⟨by omega, fun x hx => hok x (by simp [hx]), hso.2, hd.2, fun x hx => ?_⟩
  have hx2 := hso.1 x hx
  obtain ⟨_, q1, q2, q3⟩ := hok x (by simp [hx])
  rcases hd.1 x hx with h | h <;> omega

theorem Ahead.facts {n : Nat} {c : Cl} {r : List Cl} {e : Nat} (h : Ahead n (c :: r) e) : 0 ≤ c.pos ∧ 1 ≤ c.len ∧ (e : Int) ≤ c.pos ∧ c.pos + c.len ≤ n := by
  obtain ⟨he, hok, hso, hd, hp⟩ := h
  obtain ⟨hl, h1, h2, h3⟩ := hok c (by simp)
  exact ⟨h2, h1, hp c (by simp), h3⟩

theorem Right.ahead {n : Nat} {L : List Cl} {t : Nat → Bool} (h : Right n L t) : Ahead n (liveC [] L) 0 := ⟨by omega, h.ok, h.sorted, h.disj, h.low⟩

theorem ret_tuple2 {a b c d : Int} (h : (a, b) = (c, d)) : Ending.returned (.tuple #[.int .i64 a, .int .i64 b]) = .returned (.tuple #[.int .i64 c, .int .i64 d]) := by
  cases h; rfl
end Go.Proofs.Ytjjpplpdpldkeaa
