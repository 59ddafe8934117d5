/- writeLine, writeBulk and impl.RequestText at this dump: what the builder holds behind each of them. spec.l1Dec at this dump: the decimal numeral; and spec.RequestText. laws.toStringS at this dump: a new row that reads as the same strings. -/
import Derived.Test.YtjgmkbldclangaaGreatDoorFSmall
import Derived.Test.YtjgmkbldclangaaGreatDoorFShelf
import Derived.Laws.IdiomStrings
import Derived.Lib.QuietBelow
namespace Go.Proofs.YtjgmkbldclangaaGreatDoor.Fd
open Go.RowKit Go.Sort

theorem gPow : Tryz.prog.globalNamed "internal/strconv.uint64pow10" = some 3 := by kernel_rfl
abbrev Tab (w : World) : Prop := Lib.TabIs Tryz.prog w "internal/strconv.uint64pow10" .u64 Lib.pow10Tab

theorem Tab.below {B : Nat} {w w' : World} (h : Tab w) (hb : Below B w w') (hB : 3 < B) : Tab w' := var?_below hb gPow hB h

theorem below_grow (B : Nat) (w : World) (hB : B ≤ w.heap.size) (k : Nat) (os : Array Obj) : Below B w (grow (w.drewN k) os) :=
  ⟨rfl, rfl, rfl, by show w.heap.size ≤ (w.heap ++ os).size; rw [Array.size_append]; omega, fun j hj => by show (w.heap ++ os)[j]? = w.heap[j]?; exact Array.getElem?_append_left (by omega)⟩

theorem size_mk (l : List UInt8) : (⟨l.toArray⟩ : ByteArray).size = l.length := by show l.toArray.size = _; simp

def crlf : List UInt8 := [13, 10]

def bulkText (s : ByteArray) : List UInt8 := [36] ++ Lib.decDigits s.size ++ crlf ++ s.data.toList ++ crlf

theorem dec_len_le (n : Nat) (h : n ≤ 2097152) : (Lib.decDigits n).length ≤ 20 := by
  rw [Lib.decDigits_length]
  rcases Nat.lt_or_ge n 10 with h0 | h0
  · rw [Lib.nDigits_small h0]; omega
  · have h1 : Lib.nDigits n ≤ 7 := by
      have := Lib.nDigits_pos n
      rcases Nat.lt_or_ge n 100 with h2 | h2
      · rw [Lib.nDigits_unique 1 n (by omega) (by omega)]; omega
      rcases Nat.lt_or_ge n 1000 with h3 | h3
      · rw [Lib.nDigits_unique 2 n (by omega) (by omega)]; omega
      rcases Nat.lt_or_ge n 10000 with h4 | h4
      · rw [Lib.nDigits_unique 3 n (by omega) (by omega)]; omega
      rcases Nat.lt_or_ge n 100000 with h5 | h5
      · rw [Lib.nDigits_unique 4 n (by omega) (by omega)]; omega
      rcases Nat.lt_or_ge n 1000000 with h6 | h6
      · rw [Lib.nDigits_unique 5 n (by omega) (by omega)]; omega
      · rw [Lib.nDigits_unique 6 n (by omega) (by omega)]; omega
    omega

def bodyText (ss : List ByteArray) : List UInt8 := (ss.map bulkText).flatten
def headText (n : Nat) : List UInt8 := [42] ++ Lib.decDigits n ++ crlf
def reqText (ss : List ByteArray) : List UInt8 := if okArgs ss then headText ss.length ++ bodyText ss else []

theorem bodyText_take_succ (ss : List ByteArray) (k : Nat) (h : k < ss.length) : bodyText (ss.take (k + 1)) = bodyText (ss.take k) ++ bulkText (ss.getD k ByteArray.empty) := by
  unfold bodyText
  rw [List.take_succ_eq_append_getElem h, List.map_append, List.flatten_append, List.getD_eq_getElem?_getD, List.getElem?_eq_getElem h]
  simp

theorem bulkText_len (s : ByteArray) (h : s.size ≤ 200) : (bulkText s).length ≤ 300 := by
  have := dec_len_le s.size (by omega)
  have e : (bulkText s).length = 1 + (Lib.decDigits s.size).length + 2 + s.size + 2 := by simp [bulkText, crlf]; omega
  omega

theorem bodyText_len (ss : List ByteArray) (k : Nat) (h : (ss.all fun s => decide (s.size ≤ 200)) = true) : (bodyText (ss.take k)).length ≤ 300 * k := by
  induction k with
  | zero => simp [bodyText]
  | succ k ih =>
    by_cases hk : k < ss.length
    · rw [bodyText_take_succ ss k hk, List.length_append]
      have h1 : (ss.getD k ByteArray.empty).size ≤ 200 := by
        rw [List.all_eq_true] at h
        have := h ss[k] (List.getElem_mem hk)
        rw [List.getD_eq_getElem?_getD, List.getElem?_eq_getElem hk]
        simpa using this
      have := bulkText_len _ h1
      omega
    · have e : ss.take (k + 1) = ss.take k := by rw [List.take_of_length_le (by omega), List.take_of_length_le (by omega)]
      rw [e]; omega

theorem strs_below {w w' : World} {a : Option Addr} {b off n : Nat} {ss : List ByteArray} (h : StrsIn w a b off n ss) (hb : Below w.heap.size w w') : StrsIn w' a b off n ss :=
  ⟨h.len, h.addr, fun h0 => by have := h.low h0; have := hb.size; omega, fun i hi => (hb.cell (p := ⟨b, off + i, none⟩) (h.low (by omega))).trans (h.cell i hi), h.fit⟩

end Go.Proofs.YtjgmkbldclangaaGreatDoor.Fd

namespace Go.Proofs.YtjgmkbldclangaaGreatDoor.Fd
open Go.RowKit Go.Sort

theorem dec_step (n : Nat) (h : 10 ≤ n) : Lib.decDigits n = Lib.decDigits (n / 10) ++ [UInt8.ofNat (48 + n % 10)] := by
  rw [Lib.decDigits, dif_neg (by omega)]

theorem conv_one (w : World) (z : Int) (h0 : 0 ≤ z) (h1 : z < 256) :
    (convert 155 9 (.slice (some ⟨w.heap.size, 0, none⟩) 1 1)).run Tryz.prog (w.alloc (.cells #[.int .u8 z] 5)) = .ok (.string ⟨[UInt8.ofNat z.toNat].toArray⟩) (w.alloc (.cells #[.int .u8 z] 5)) := by
  refine run_convert_bytes_back _ 155 9 5 ⟨w.heap.size, 0, none⟩ 1 [UInt8.ofNat z.toNat] Tryz.underlying155 Tryz.underlying5 Tryz.underlying9 ?_
  intro j hj
  obtain rfl : j = 0 := by simpa using hj
  have e : ((UInt8.ofNat z.toNat).toNat : Int) = z := by
    rw [UInt8.toNat_ofNat']
    omega
  simp only [List.getElem_cons_zero, e]
  exact cell_one_new w (.int .u8 z) 5 0 _ rfl

theorem dec_last (k : Nat) (h : k < 10) : Lib.decDigits k = [UInt8.ofNat (48 + k)] := Lib.decDigits_one h

end Go.Proofs.YtjgmkbldclangaaGreatDoor.Fd

namespace Go.Proofs.YtjgmkbldclangaaGreatDoor.Fd
open Go.RowKit

theorem info9 : (Tryz.prog.info? 9).map (fun i => (i.zero, i.size, i.bytes)) = some (some (.string ⟨#[]⟩), 1, 16) := by kernel_rfl

theorem make_strs (n : Nat) (hn : n ≤ 2097152) : ∃ C : Array Value, C.size = n ∧ ∀ w, (Instr.makeSlice 52 (.int .i64 n) (.int .i64 n)).run Tryz.prog w = .ok (.slice (some ⟨w.heap.size, 0, none⟩) n n) (w.alloc (.cells C 9)) := by
  obtain ⟨i0, hi, hz0, hz1, hz2⟩ := info_parts info9
  refine ⟨madeCells (Value.string ⟨#[]⟩).cells (n * i0.size), by rw [size_madeCells, hz1, Nat.mul_one], fun w => ?_⟩
  have := run_make (P := Tryz.prog) w 52 9 i0 _ Tryz.underlying52 hi hz0 .i64 .i64 n n (by omega) (by omega) (by rw [hz2]; omega) (by omega)
  simpa using this

/-- The row g holds the cells C. -/
def RowAt (w : World) (g : Nat) (T : TypeId) (C : Array Value) : Prop := w.heap[g]? = some (.cells C T (0, 0))

theorem RowAt.cell {w : World} {g : Nat} {T : TypeId} {C : Array Value} (h : RowAt w g T C) (j : Nat) : w.cell? ⟨g, j, none⟩ = C[j]? := Lib.cell_of_heap h j
theorem RowAt.frozen {w : World} {g : Nat} {T : TypeId} {C : Array Value} (h : RowAt w g T C) (j : Nat) : w.frozen? ⟨g, j, none⟩ = false := Lib.frozen_of_heap h j
theorem RowAt.set {w : World} {g : Nat} {T : TypeId} {C : Array Value} (h : RowAt w g T C) (j : Nat) (v : Value) : RowAt (w.setCell ⟨g, j, none⟩ v) g T (C.setIfInBounds j v) := by
  unfold RowAt at *
  simp [World.setCell, Array.getElem?_modify, h]
theorem RowAt.lt {w : World} {g : Nat} {T : TypeId} {C : Array Value} (h : RowAt w g T C) : g < w.heap.size := (Array.getElem?_eq_some_iff.1 h).1
theorem RowAt.new (w : World) (T : TypeId) (C : Array Value) : RowAt (w.alloc (.cells C T)) w.heap.size T C := by
  show (w.heap.push (.cells C T (0, 0)))[w.heap.size]? = _
  simp

set_option maxHeartbeats 1000000 in
theorem copy_any (a : Option Addr) (b off n c : Nat) (ss : List ByteArray) (w : World) (h : StrsIn w a b off n ss) (hn : n ≤ 2097152) :
    Calls Tryz.prog 64 #[.slice a n c] w fun e w' => e = .returned (.slice (some ⟨w.heap.size, 0, none⟩) n n) ∧ StrsIn w' (some ⟨w.heap.size, 0, none⟩) w.heap.size 0 n ss ∧ Below w.heap.size w w' ∧ w.heap.size < w'.heap.size := by
  obtain ⟨C, hC, hmk⟩ := make_strs n hn
  have HC : Hid (C.size = n) := hC
  clear hC
  go_enter Tryz.func64, Tryz.ntmps64
  go_wp2
  go_loopw [4] (fun i wr => ∃ (k : Nat) (D : Array Value), k ≤ n ∧ i = .int .i64 k ∧ D.size = n ∧ RowAt wr w.heap.size 9 D ∧ (∀ j, j < k → D[j]? = some (.string (ss.getD j ByteArray.empty))) ∧ Below w.heap.size w wr) (fun i _ => n - (intOf i).toNat)
  case atStart => exact ⟨0, C, by omega, rfl, HC.out, RowAt.new _ _ _, fun j hj => by omega, (Below.refl _ _).alloc (Nat.le_refl _) _⟩
  case round =>
    obtain ⟨k, D, hk, rfl, hD, hrow, hpre, bk⟩ := hrel
    have HP : Hid (∀ j, j < k → D[j]? = some (.string (ss.getD j ByteArray.empty))) := hpre
    have HD : Hid (D.size = n) := hD
    clear hpre hmk
    by_cases hlt : k < n
    · obtain rfl := h.addr (by omega)
      have hlow := h.low (by omega)
      have hc : wr.cell? ⟨b, off + k, none⟩ = some (.string (ss.getD k ByteArray.empty)) := (bk.cell (p := ⟨b, off + k, none⟩) hlow).trans (h.cell k hlt)
      have hg : wr.cell? ⟨w.heap.size, k, none⟩ = some (D[k]'(by omega)) := by rw [hrow.cell k]; simp [hD, hlt]
      have hfz := hrow.frozen k
      have HR : Hid (RowAt (wr.setCell ⟨w.heap.size, k, none⟩ (.string (ss.getD k ByteArray.empty))) w.heap.size 9 (D.setIfInBounds k (.string (ss.getD k ByteArray.empty)))) := hrow.set k _
      generalize hs : ss.getD k ByteArray.empty = s at *
      have Hs : Hid (ss.getD k ByteArray.empty = s) := hs
      generalize hDk : D[k]'(by omega) = old at *
      clear hs hDk hD hrow
      go_wp2
      go_roundw
      case rel =>
        refine ⟨k + 1, _, by omega, by go_num, ?_, HR.out, ?_, bk.setCell (p := ⟨w.heap.size, k, none⟩) (Nat.le_refl _) _⟩
        · rw [Array.size_setIfInBounds]; exact HD.out
        · intro j hj
          rw [Array.getElem?_setIfInBounds]
          by_cases hjk : k = j
          · subst hjk
            rw [if_pos rfl, if_pos (by rw [HD.out]; exact hlt), Hs.out]
          · rw [if_neg hjk]
            exact HP.out j (by omega)
      case measure => simp [intOf]; omega
    · obtain rfl : k = n := by omega
      go_wp2
      go_ret
      refine ⟨rfl, ⟨h.len, fun _ => rfl, fun _ => hrow.lt, fun i hi => ?_, h.fit⟩, bk, hrow.lt⟩
      rw [Nat.zero_add, hrow.cell i]
      exact HP.out i hi

end Go.Proofs.YtjgmkbldclangaaGreatDoor.Fd
