/- What is dropped: the bytes and the cells behind it. -/
import Derived.Test.YtjjpplpdpldkeaaHPutS
namespace Go.Proofs.Ytjjpplpdpldkeaa
open Go.RowKit Go.Sort

/-- Is there such a cell, of a right heap? -/
def dropOk (s : ByteArray) (L : List Cl) (rc rg : Int) : Bool := heapB s L && isB L rc rg

def dropD (s : ByteArray) (L : List Cl) (rc rg : Int) : ByteArray :=
  if dropOk s L rc rg = true then putData s (L.getD rc.toNat cl0).pos.toNat (dataZ (L.getD rc.toNat cl0).len.toNat) else ⟨#[]⟩

def dropL (s : ByteArray) (L : List Cl) (rc rg : Int) : List Cl :=
  if dropOk s L rc rg = true then L.set rc.toNat ⟨0, 0, (L.getD rc.toNat cl0).gen, false⟩ else []

/-- How a call ends that gives a heap and whether there is one. -/
def HeapEnd (w : World) (D : ByteArray) (M : List Cl) (ok : Bool) (e : Ending) (w' : World) : Prop :=
  ∃ v, e = .returned (.tuple #[.agg #[.string D, v], .bool ok]) ∧ w'.ownsRow w.heap.size 35 4 v M.length (flatC M) ∧ Below w.heap.size w w'

theorem heap_no {w w' : World} (hb : Below w.heap.size w w') : HeapEnd w ⟨#[]⟩ [] false (.returned (.tuple #[.agg #[.string ⟨#[]⟩, .slice none 0 0], .bool false])) w' :=
  ⟨_, rfl, World.ownsRow_nil _ _ _ _, hb⟩

theorem drop_no {s : ByteArray} {L : List Cl} {rc rg : Int} (h : dropOk s L rc rg = false) : dropD s L rc rg = ⟨#[]⟩ ∧ dropL s L rc rg = [] := by
  unfold dropD dropL
  rw [h]
  exact ⟨rfl, rfl⟩

theorem row_ret {wz : World} {R : Nat} {A : Array Value} {D v : Value} (h : RowAt wz R 26 A) (hA : A.size = 2) : RowAt ((wz.setCell ⟨R, 0, none⟩ D).setCell ⟨R, 1, none⟩ v) R 26 #[D, v] := by
  have e := (h.set 0 D).set 1 v
  have two : (A.setIfInBounds 0 D).setIfInBounds 1 v = #[D, v] := by
    obtain ⟨l⟩ := A
    match l, hA with
    | [p, q], _ => rfl
  rwa [two] at e
end Go.Proofs.Ytjjpplpdpldkeaa
