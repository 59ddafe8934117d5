/- Contracts of the small helpers over a slice of strings that came in: szStringS, l2Args, argsOk, eqStringS. -/
import Derived.Test.YtcgeafdakaeicaaDoorRows
import Derived.WalkKit
import Derived.WalkSpells
import Derived.WalkLawsBesides
import Derived.Deep.QuietTactic
import Derived.BigQuiet
namespace Go.Proofs.YtcgeafdakaeicaaDoor
open Go.RowKit

/-- A slice value reads as the strings ss in the world w: as many elements, each cell at its place; each string no longer than the greatest int. -/
structure StrsIn (w : World) (a : Option Addr) (b off n : Nat) (ss : List ByteArray) : Prop where
  len : ss.length = n
  addr : 0 < n → a = some ⟨b, off, none⟩
  low : 0 < n → b < w.heap.size
  cell : ∀ i, i < n → w.cell? ⟨b, off + i, none⟩ = some (.string (ss.getD i ByteArray.empty))
  fit : ∀ i, i < n → (ss.getD i ByteArray.empty).size ≤ 9223372036854775807

theorem ret_bool {a b : Bool} (h : a = b) : Ending.returned (.bool a) = .returned (.bool b) := by rw [h]
theorem ret_str {a b : ByteArray} (h : a = b) : Ending.returned (.string a) = .returned (.string b) := by rw [h]

def tot (ss : List ByteArray) : Nat := (ss.map ByteArray.size).sum

theorem tot_take_succ (ss : List ByteArray) (k : Nat) (h : k < ss.length) : tot (ss.take (k + 1)) = tot (ss.take k) + (ss.getD k ByteArray.empty).size := by
  unfold tot
  rw [List.take_succ_eq_append_getElem h, List.map_append, List.sum_append, List.getD_eq_getElem?_getD, List.getElem?_eq_getElem h]
  simp only [List.map_cons, List.map_nil, List.sum_cons, List.sum_nil, Option.getD_some, Nat.add_zero]

def okArgs (ss : List ByteArray) : Bool := decide (ss.length ≤ 16) && ss.all fun s => decide (s.size ≤ 200)

theorem all_take_succ (ss : List ByteArray) (p : ByteArray → Bool) (k : Nat) (h : k < ss.length) : (ss.take (k + 1)).all p = ((ss.take k).all p && p (ss.getD k ByteArray.empty)) := by
  rw [List.take_succ_eq_append_getElem h, List.all_append, List.getD_eq_getElem?_getD, List.getElem?_eq_getElem h]
  simp

theorem all_false_of_take (ss : List ByteArray) (p : ByteArray → Bool) (k : Nat) (h : (ss.take k).all p = false) : ss.all p = false := by
  rw [← List.take_append_drop k ss, List.all_append, h, Bool.false_and]

end Go.Proofs.YtcgeafdakaeicaaDoor
