/- writeLine, writeBulk and impl.RequestText at this dump: what the builder holds behind each of them. -/
import Derived.Test.YtielombpeeelkaaDoorSmall
import Derived.Test.YtielombpeeelkaaDoorShelf
namespace Go.Proofs.YtielombpeeelkaaDoor
open Go.RowKit Go.Sort

theorem gPow : Tryd.prog.globalNamed "internal/strconv.uint64pow10" = some 3 := by kernel_rfl
abbrev Tab (w : World) : Prop := Lib.TabIs Tryd.prog w "internal/strconv.uint64pow10" .u64 Lib.pow10Tab

theorem Tab.below {B : Nat} {w w' : World} (h : Tab w) (hb : Below B w w') (hB : 3 < B) : Tab w' := var?_below hb gPow hB h

theorem below_grow (B : Nat) (w : World) (hB : B ≤ w.heap.size) (k : Nat) (os : Array Obj) : Below B w (grow (w.drewN k) os) :=
  ⟨rfl, rfl, rfl, by show w.heap.size ≤ (w.heap ++ os).size; rw [Array.size_append]; omega, fun j hj => by show (w.heap ++ os)[j]? = w.heap[j]?; exact Array.getElem?_append_left (by omega)⟩

theorem size_mk (l : List UInt8) : (⟨l.toArray⟩ : ByteArray).size = l.length := by show l.toArray.size = _; simp

def crlf : List UInt8 := [13, 10]

def bulkText (s : ByteArray) : List UInt8 := [36] ++ Lib.decDigits s.size ++ crlf ++ s.data.toList ++ crlf

theorem dec_len_le (n : Nat) (h : n ≤ 2097152) : (Lib.decDigits n).length ≤ 20 := by
  rw [Lib.decDigits_length]
  rcases Nat.lt_or_ge n 10 with h0 | h0
  · rw [Lib.nDigits_small h0]; omega
  · have h1 : Lib.nDigits n ≤ 7 := by
      have := Lib.nDigits_pos n
      rcases Nat.lt_or_ge n 100 with h2 | h2
      · rw [Lib.nDigits_unique 1 n (by omega) (by omega)]; omega
      rcases Nat.lt_or_ge n 1000 with h3 | h3
      · rw [Lib.nDigits_unique 2 n (by omega) (by omega)]; omega
      rcases Nat.lt_or_ge n 10000 with h4 | h4
      · rw [Lib.nDigits_unique 3 n (by omega) (by omega)]; omega
      rcases Nat.lt_or_ge n 100000 with h5 | h5
      · rw [Lib.nDigits_unique 4 n (by omega) (by omega)]; omega
      rcases Nat.lt_or_ge n 1000000 with h6 | h6
      · rw [Lib.nDigits_unique 5 n (by omega) (by omega)]; omega
      · rw [Lib.nDigits_unique 6 n (by omega) (by omega)]; omega
    omega

def bodyText (ss : List ByteArray) : List UInt8 := (ss.map bulkText).flatten
def headText (n : Nat) : List UInt8 := [42] ++ Lib.decDigits n ++ crlf
def reqText (ss : List ByteArray) : List UInt8 := if okArgs ss then headText ss.length ++ bodyText ss else []

theorem bodyText_take_succ (ss : List ByteArray) (k : Nat) (h : k < ss.length) : bodyText (ss.take (k + 1)) = bodyText (ss.take k) ++ bulkText (ss.getD k ByteArray.empty) := by
  unfold bodyText
  rw [List.take_succ_eq_append_getElem h, List.map_append, List.flatten_append, List.getD_eq_getElem?_getD, List.getElem?_eq_getElem h]
  simp

theorem bulkText_len (s : ByteArray) (h : s.size ≤ 200) : (bulkText s).length ≤ 300 := by
  have := dec_len_le s.size (by omega)
  have e : (bulkText s).length = 1 + (Lib.decDigits s.size).length + 2 + s.size + 2 := by simp [bulkText, crlf]; omega
  omega

theorem bodyText_len (ss : List ByteArray) (k : Nat) (h : (ss.all fun s => decide (s.size ≤ 200)) = true) : (bodyText (ss.take k)).length ≤ 300 * k := by
  induction k with
  | zero => simp [bodyText]
  | succ k ih =>
    by_cases hk : k < ss.length
    · rw [bodyText_take_succ ss k hk, List.length_append]
      have h1 : (ss.getD k ByteArray.empty).size ≤ 200 := by
        rw [List.all_eq_true] at h
        have := h ss[k] (List.getElem_mem hk)
        rw [List.getD_eq_getElem?_getD, List.getElem?_eq_getElem hk]
        simpa using this
      have := bulkText_len _ h1
      omega
    · have e : ss.take (k + 1) = ss.take k := by rw [List.take_of_length_le (by omega), List.take_of_length_le (by omega)]
      rw [e]; omega

theorem strs_below {w w' : World} {a : Option Addr} {b off n : Nat} {ss : List ByteArray} (h : StrsIn w a b off n ss) (hb : Below w.heap.size w w') : StrsIn w' a b off n ss :=
  ⟨h.len, h.addr, fun h0 => by have := h.low h0; have := hb.size; omega, fun i hi => (hb.cell (p := ⟨b, off + i, none⟩) (h.low (by omega))).trans (h.cell i hi), h.fit⟩

end Go.Proofs.YtielombpeeelkaaDoor
