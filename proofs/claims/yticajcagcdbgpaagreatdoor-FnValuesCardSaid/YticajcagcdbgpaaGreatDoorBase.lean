/- What the texts lean on: strings in a slice, rows, tables. -/
import Derived.Test.YticajcagcdbgpaaGreatDoorRows
import Derived.Test.YticajcagcdbgpaaGreatDoorShelf
import Derived.WalkKit
import Derived.WalkSpells
import Derived.WalkLawsBesides
import Derived.Deep.QuietTactic
import Derived.BigQuiet
import Derived.Laws.IdiomStrings
import Derived.Lib.QuietBelow
namespace Go.Proofs.YticajcagcdbgpaaGreatDoor
open Go.RowKit Go.Sort

/-- A slice value reads as the strings ss in the world w: as many elements, each cell at its place; each string no longer than the greatest int. -/
structure StrsIn (w : World) (a : Option Addr) (b off n : Nat) (ss : List ByteArray) : Prop where
  len : ss.length = n
  addr : 0 < n → a = some ⟨b, off, none⟩
  low : 0 < n → b < w.heap.size
  cell : ∀ i, i < n → w.cell? ⟨b, off + i, none⟩ = some (.string (ss.getD i ByteArray.empty))
  fit : ∀ i, i < n → (ss.getD i ByteArray.empty).size ≤ 9223372036854775807

theorem ret_bool {a b : Bool} (h : a = b) : Ending.returned (.bool a) = .returned (.bool b) := by rw [h]
theorem ret_str {a b : ByteArray} (h : a = b) : Ending.returned (.string a) = .returned (.string b) := by rw [h]

theorem gPow : Tryz.prog.globalNamed "internal/strconv.uint64pow10" = some 2 := by kernel_rfl
abbrev Tab (w : World) : Prop := Lib.TabIs Tryz.prog w "internal/strconv.uint64pow10" .u64 Lib.pow10Tab

theorem Tab.below {B : Nat} {w w' : World} (h : Tab w) (hb : Below B w w') (hB : 2 < B) : Tab w' := var?_below hb gPow hB h

theorem below_grow (B : Nat) (w : World) (hB : B ≤ w.heap.size) (k : Nat) (os : Array Obj) : Below B w (grow (w.drewN k) os) :=
  ⟨rfl, rfl, rfl, by show w.heap.size ≤ (w.heap ++ os).size; rw [Array.size_append]; omega, fun j hj => by show (w.heap ++ os)[j]? = w.heap[j]?; exact Array.getElem?_append_left (by omega)⟩

theorem size_mk (l : List UInt8) : (⟨l.toArray⟩ : ByteArray).size = l.length := by show l.toArray.size = _; simp

theorem dec_len_le (n : Nat) (h : n ≤ 1048576) : (Lib.decDigits n).length ≤ 20 := by
  rw [Lib.decDigits_length]
  rcases Nat.lt_or_ge n 10 with h0 | h0
  · rw [Lib.nDigits_small h0]; omega
  · have h1 : Lib.nDigits n ≤ 7 := by
      have := Lib.nDigits_pos n
      rcases Nat.lt_or_ge n 100 with h2 | h2
      · rw [Lib.nDigits_unique 1 n (by omega) (by omega)]; omega
      rcases Nat.lt_or_ge n 1000 with h3 | h3
      · rw [Lib.nDigits_unique 2 n (by omega) (by omega)]; omega
      rcases Nat.lt_or_ge n 10000 with h4 | h4
      · rw [Lib.nDigits_unique 3 n (by omega) (by omega)]; omega
      rcases Nat.lt_or_ge n 100000 with h5 | h5
      · rw [Lib.nDigits_unique 4 n (by omega) (by omega)]; omega
      rcases Nat.lt_or_ge n 1000000 with h6 | h6
      · rw [Lib.nDigits_unique 5 n (by omega) (by omega)]; omega
      · rw [Lib.nDigits_unique 6 n (by omega) (by omega)]; omega
    omega

theorem strs_below {w w' : World} {a : Option Addr} {b off n : Nat} {ss : List ByteArray} (h : StrsIn w a b off n ss) (hb : Below w.heap.size w w') : StrsIn w' a b off n ss :=
  ⟨h.len, h.addr, fun h0 => by have := h.low h0; have := hb.size; omega, fun i hi => (hb.cell (p := ⟨b, off + i, none⟩) (h.low (by omega))).trans (h.cell i hi), h.fit⟩

theorem info9 : (Tryz.prog.info? 9).map (fun i => (i.zero, i.size, i.bytes)) = some (some (.string ⟨#[]⟩), 1, 16) := by kernel_rfl

/-- The row g holds the cells C. -/
def RowAt (w : World) (g : Nat) (T : TypeId) (C : Array Value) : Prop := w.heap[g]? = some (.cells C T (0, 0))

theorem RowAt.cell {w : World} {g : Nat} {T : TypeId} {C : Array Value} (h : RowAt w g T C) (j : Nat) : w.cell? ⟨g, j, none⟩ = C[j]? := Lib.cell_of_heap h j
theorem RowAt.frozen {w : World} {g : Nat} {T : TypeId} {C : Array Value} (h : RowAt w g T C) (j : Nat) : w.frozen? ⟨g, j, none⟩ = false := Lib.frozen_of_heap h j
theorem RowAt.set {w : World} {g : Nat} {T : TypeId} {C : Array Value} (h : RowAt w g T C) (j : Nat) (v : Value) : RowAt (w.setCell ⟨g, j, none⟩ v) g T (C.setIfInBounds j v) := by
  unfold RowAt at *
  simp [World.setCell, Array.getElem?_modify, h]
theorem RowAt.lt {w : World} {g : Nat} {T : TypeId} {C : Array Value} (h : RowAt w g T C) : g < w.heap.size := (Array.getElem?_eq_some_iff.1 h).1
theorem RowAt.new (w : World) (T : TypeId) (C : Array Value) : RowAt (w.alloc (.cells C T)) w.heap.size T C := by
  show (w.heap.push (.cells C T (0, 0)))[w.heap.size]? = _
  simp

theorem grown_refl (w : World) (r : Option Nat) : w.grownBy w r := ⟨rfl, rfl, rfl, Nat.le_refl _, fun _ _ _ => rfl⟩
theorem grown_drewN (w : World) (q : Nat) (r : Option Nat) : w.grownBy (w.drewN q) r := ⟨rfl, rfl, rfl, Nat.le_refl _, fun _ _ _ => rfl⟩
theorem grown_below {w w1 w2 : World} {r : Option Nat} (h : w.grownBy w1 r) (hb : Below w1.heap.size w1 w2) : w.grownBy w2 r :=
  ⟨hb.os.trans h.os, hb.tape.trans h.tape, hb.output.trans h.output, Nat.le_trans h.size hb.size, fun k hk hr => (hb.block k (Nat.lt_of_lt_of_le hk h.size)).trans (h.block k hk hr)⟩
theorem grown_trans {w w1 w2 : World} {r : Option Nat} (h : w.grownBy w1 r) (h2 : w1.grownBy w2 r) : w.grownBy w2 r :=
  ⟨h2.os.trans h.os, h2.tape.trans h.tape, h2.output.trans h.output, Nat.le_trans h.size h2.size, fun k hk hr => (h2.block k (Nat.lt_of_lt_of_le hk h.size) hr).trans (h.block k hk hr)⟩
theorem grown_set (w : World) (b o : Nat) (v : Value) : w.grownBy (w.setCell ⟨b, o, none⟩ v) (some b) :=
  ⟨rfl, rfl, rfl, by simp [World.setCell], fun k _ hk => Below.heap_setCell _ _ _ _ (fun e => hk (by simp [e]))⟩
theorem below_of_grown {B b : Nat} {w w1 : World} (h : w.grownBy w1 (some b)) (hB : B ≤ b) (hw : B ≤ w.heap.size) : Below B w w1 :=
  ⟨h.os, h.tape, h.output, h.size, fun k hk => h.block k (by omega) (by simp; omega)⟩

theorem RowAt.below {w w' : World} {g : Nat} {T : TypeId} {C : Array Value} {B : Nat} (h : RowAt w g T C) (hb : Below B w w') (hg : g < B) : RowAt w' g T C := (hb.block g hg).trans h

theorem str_of (t : ByteArray) (l : List UInt8) (h : t.data.toList = l) : t = ⟨l.toArray⟩ := by
  apply ByteArray.ext
  rw [← h]
end Go.Proofs.YticajcagcdbgpaaGreatDoor
