/- writeLine, writeBulk and impl.RequestText at this dump: what the builder holds behind each of them. -/
import Derived.Test.YtcgeafdakaeicaaDoorBuild
namespace Go.Proofs.YtcgeafdakaeicaaDoor
open Go.RowKit Go.Sort

theorem gPow : Tryd.prog.globalNamed "internal/strconv.uint64pow10" = some 0 := by kernel_rfl
abbrev Tab (w : World) : Prop := Lib.TabIs Tryd.prog w "internal/strconv.uint64pow10" .u64 Lib.pow10Tab

theorem Tab.below {B : Nat} {w w' : World} (h : Tab w) (hb : Below B w w') (hB : 0 < B) : Tab w' := var?_below hb gPow hB h

theorem builder_grown {T e : TypeId} {B b : Nat} {bs : List Value} {w w' : World} (h : Lib.IsBuilderF T e B b bs w) (hg : Below w.heap.size w w') : Lib.IsBuilderF T e B b bs w' := by
  have one : ∀ p, Lib.BuilderAtF T e B b p bs w → Lib.BuilderAtF T e B b p bs w' := by
    intro p hp
    have hlt := hp.lt
    obtain ⟨hB, v, hb, hown, hne⟩ := hp
    exact ⟨hB, v, (hg.block b hlt).trans hb, hown.kept (row := none) ⟨hg.os, hg.tape, hg.output, hg.size, fun k hk _ => hg.block k hk⟩ (by cases hv : v.ownBlock <;> simp), hne⟩
  rcases h with h | h
  · exact .inl (one _ h)
  · exact .inr (one _ h)

theorem below_grow (B : Nat) (w : World) (hB : B ≤ w.heap.size) (k : Nat) (os : Array Obj) : Below B w (grow (w.drewN k) os) :=
  ⟨rfl, rfl, rfl, by show w.heap.size ≤ (w.heap ++ os).size; rw [Array.size_append]; omega, fun j hj => by show (w.heap ++ os)[j]? = w.heap[j]?; exact Array.getElem?_append_left (by omega)⟩

theorem size_mk (l : List UInt8) : (⟨l.toArray⟩ : ByteArray).size = l.length := by show l.toArray.size = _; simp

def crlf : List UInt8 := [13, 10]

set_option maxHeartbeats 1000000 in
theorem writeLine_any (B b : Nat) (l : List UInt8) (mark text : ByteArray) (w : World) (h : Lib.IsBuilderF 40 5 B b (Lib.byteCells l) w) (hlen : l.length + mark.size + text.size + 2 ≤ 140737488355328) (hBw : B ≤ w.heap.size) :
    Calls Tryd.prog 50 #[.pointer (some ⟨b, 0, none⟩), .string mark, .string text] w fun e w' => e = .returned (.tuple #[]) ∧ Lib.IsBuilderF 40 5 B b (Lib.byteCells (l ++ mark.data.toList ++ text.data.toList ++ crlf)) w' ∧ Below B w w' := by
  go_enter Tryd.func50, Tryd.ntmps50
  go_wp2_with fail
  refine (writeString_k B b _ mark _ h (by rw [Lib.byteCells_length]; omega) hBw).mono ?_
  rintro e w1 ⟨rfl, h1, b1, _⟩
  rw [Lib.strCells_eq, ← Lib.byteCells_append] at h1
  have l1 : (l ++ mark.data.toList).length = l.length + mark.size := by simp
  have s1 := b1.size
  go_wp2_with fail
  refine (writeString_k B b _ text _ (.inr h1) (by rw [Lib.byteCells_length]; omega) (by omega)).mono ?_
  rintro e w2 ⟨rfl, h2, b2, _⟩
  rw [Lib.strCells_eq, ← Lib.byteCells_append] at h2
  have l2 : (l ++ mark.data.toList ++ text.data.toList).length = l.length + mark.size + text.size := by simp; omega
  have s2 := b2.size
  go_wp2_with fail
  refine (writeString_k B b _ ⟨#[13, 10]⟩ _ (.inr h2) (by rw [Lib.byteCells_length, l2]; exact hlen) (by omega)).mono ?_
  rintro e w3 ⟨rfl, h3, b3, _⟩
  rw [Lib.strCells_eq, ← Lib.byteCells_append] at h3
  go_wp2
  go_end0
  exact ⟨rfl, .inr h3, (b1.trans b2).trans b3⟩

def bulkText (s : ByteArray) : List UInt8 := [36] ++ Lib.decDigits s.size ++ crlf ++ s.data.toList ++ crlf

theorem dec_len_le (n : Nat) (h : n ≤ 1048576) : (Lib.decDigits n).length ≤ 20 := by
  rw [Lib.decDigits_length]
  rcases Nat.lt_or_ge n 10 with h0 | h0
  · rw [Lib.nDigits_small h0]; omega
  · have h1 : Lib.nDigits n ≤ 7 := by
      have := Lib.nDigits_pos n
      rcases Nat.lt_or_ge n 100 with h2 | h2
      · rw [Lib.nDigits_unique 1 n (by omega) (by omega)]; omega
      rcases Nat.lt_or_ge n 1000 with h3 | h3
      · rw [Lib.nDigits_unique 2 n (by omega) (by omega)]; omega
      rcases Nat.lt_or_ge n 10000 with h4 | h4
      · rw [Lib.nDigits_unique 3 n (by omega) (by omega)]; omega
      rcases Nat.lt_or_ge n 100000 with h5 | h5
      · rw [Lib.nDigits_unique 4 n (by omega) (by omega)]; omega
      rcases Nat.lt_or_ge n 1000000 with h6 | h6
      · rw [Lib.nDigits_unique 5 n (by omega) (by omega)]; omega
      · rw [Lib.nDigits_unique 6 n (by omega) (by omega)]; omega
    omega

set_option maxHeartbeats 1000000 in
theorem writeBulk_any (B b : Nat) (l : List UInt8) (s : ByteArray) (w : World) (h : Lib.IsBuilderF 40 5 B b (Lib.byteCells l) w) (hs : s.size ≤ 1048576) (hlen : l.length ≤ 1099511627776) (hBw : B ≤ w.heap.size) (ht : Tab w) :
    Calls Tryd.prog 52 #[.pointer (some ⟨b, 0, none⟩), .string s] w fun e w' => e = .returned (.tuple #[]) ∧ Lib.IsBuilderF 40 5 B b (Lib.byteCells (l ++ bulkText s)) w' ∧ Below B w w' := by
  have hd := dec_len_le s.size hs
  go_enter Tryd.func52, Tryd.ntmps52
  go_wp2_with fail
  refine (Tryd.strconv_Itoa s.size (by omega) (by omega) _ ht).mono ?_
  rintro e w1 ⟨rfl, k1, os1, rfl⟩
  rw [Lib.itoa_nonneg]
  have b0 := below_grow w.heap.size w (Nat.le_refl _) k1 os1
  have h1 := builder_grown h b0
  have s0 := b0.size
  generalize grow (w.drewN k1) os1 = w1 at *
  go_wp2_with fail
  refine (writeLine_any B b l ⟨#[36]⟩ ⟨(Lib.decDigits s.size).toArray⟩ w1 h1 (by rw [size_mk (Lib.decDigits s.size)]; show l.length + 1 + _ + 2 ≤ _; omega) (by omega)).mono ?_
  rintro e w2 ⟨rfl, h2, b2⟩
  have s2 := b2.size
  go_wp2_with fail
  refine (writeLine_any B b _ ⟨#[]⟩ s w2 h2 (by simp only [List.length_append, crlf, List.length_cons, List.length_nil]; show l.length + 1 + (Lib.decDigits s.size).length + 2 + 0 + s.size + 2 ≤ _; omega) (by omega)).mono ?_
  rintro e w3 ⟨rfl, h3, b3⟩
  go_wp2
  go_end0
  refine ⟨rfl, ?_, ((b0.mono hBw).trans b2).trans b3⟩
  simpa [bulkText, List.append_assoc] using h3

def bodyText (ss : List ByteArray) : List UInt8 := (ss.map bulkText).flatten
def headText (n : Nat) : List UInt8 := [42] ++ Lib.decDigits n ++ crlf
def reqText (ss : List ByteArray) : List UInt8 := if okArgs ss then headText ss.length ++ bodyText ss else []

theorem bodyText_take_succ (ss : List ByteArray) (k : Nat) (h : k < ss.length) : bodyText (ss.take (k + 1)) = bodyText (ss.take k) ++ bulkText (ss.getD k ByteArray.empty) := by
  unfold bodyText
  rw [List.take_succ_eq_append_getElem h, List.map_append, List.flatten_append, List.getD_eq_getElem?_getD, List.getElem?_eq_getElem h]
  simp

theorem bulkText_len (s : ByteArray) (h : s.size ≤ 200) : (bulkText s).length ≤ 300 := by
  have := dec_len_le s.size (by omega)
  have e : (bulkText s).length = 1 + (Lib.decDigits s.size).length + 2 + s.size + 2 := by simp [bulkText, crlf]; omega
  omega

theorem bodyText_len (ss : List ByteArray) (k : Nat) (h : (ss.all fun s => decide (s.size ≤ 200)) = true) : (bodyText (ss.take k)).length ≤ 300 * k := by
  induction k with
  | zero => simp [bodyText]
  | succ k ih =>
    by_cases hk : k < ss.length
    · rw [bodyText_take_succ ss k hk, List.length_append]
      have h1 : (ss.getD k ByteArray.empty).size ≤ 200 := by
        rw [List.all_eq_true] at h
        have := h ss[k] (List.getElem_mem hk)
        rw [List.getD_eq_getElem?_getD, List.getElem?_eq_getElem hk]
        simpa using this
      have := bulkText_len _ h1
      omega
    · have e : ss.take (k + 1) = ss.take k := by rw [List.take_of_length_le (by omega), List.take_of_length_le (by omega)]
      rw [e]; omega

theorem strs_below {w w' : World} {a : Option Addr} {b off n : Nat} {ss : List ByteArray} (h : StrsIn w a b off n ss) (hb : Below w.heap.size w w') : StrsIn w' a b off n ss :=
  ⟨h.len, h.addr, fun h0 => by have := h.low h0; have := hb.size; omega, fun i hi => (hb.cell (p := ⟨b, off + i, none⟩) (h.low (by omega))).trans (h.cell i hi), h.fit⟩

end Go.Proofs.YtcgeafdakaeicaaDoor
