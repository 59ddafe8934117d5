/- What is put: the program's and the specification's place and cell are one. -/
import Derived.Test.YtjjpplpdpldkeaaHSpecD
import Derived.Test.YtjjpplpdpldkeaaHHeap
namespace Go.Proofs.Ytjjpplpdpldkeaa
open Go.RowKit Go.Sort

/-- Where the first gap of so many bytes begins; -1: there is none. -/
def firstG (want : Nat) : List (Nat × Nat) → Int
  | [] => -1
  | g :: r => if want ≤ g.2 then g.1 else firstG want r

theorem gapFold_first (want : Nat) : ∀ (l : List (Nat × Nat)) (X Y : Int), (l.foldl (gapStep want) (X, Y)).1 = if X < 0 then (if firstG want l < 0 then X else firstG want l) else X
  | [], X, Y => by
    show X = _
    simp [firstG]
  | g :: r, X, Y => by
    obtain ⟨e, k⟩ := g
    rw [List.foldl_cons]
    have := gapFold_first want r (gapStep want (X, Y) (e, k)).1 (gapStep want (X, Y) (e, k)).2
    rw [show ((gapStep want (X, Y) (e, k)).1, (gapStep want (X, Y) (e, k)).2) = gapStep want (X, Y) (e, k) from rfl] at this
    rw [this]
    have ef : firstG want ((e, k) :: r) = if want ≤ k then (e : Int) else firstG want r := rfl
    rw [ef]
    by_cases hX : X < 0
    · by_cases hw : want ≤ k
      · have e1 : (gapStep want (X, Y) (e, k)).1 = e := if_pos ⟨hX, by show (want : Int) ≤ k; omega⟩
        rw [e1, if_neg (by omega), if_pos hX, if_pos hw, if_neg (by omega)]
      · have e1 : (gapStep want (X, Y) (e, k)).1 = X := if_neg (by rintro ⟨_, h⟩; simp only at h; omega)
        rw [e1, if_pos hX, if_pos hX, if_neg hw]
    · have e1 : (gapStep want (X, Y) (e, k)).1 = X := if_neg (by rintro ⟨h, _⟩; exact hX h)
      rw [e1, if_neg hX, if_neg hX]

theorem first_nz (want : Nat) (h : 1 ≤ want) : ∀ l : List (Nat × Nat), firstG want (nz l) = firstG want l
  | [] => rfl
  | g :: r => by
    obtain ⟨e, k⟩ := g
    rw [nz_cons]
    by_cases hk : k = 0
    · rw [if_pos hk, List.nil_append, first_nz want h r, firstG, if_neg (by simp only; omega)]
    · rw [if_neg hk, List.singleton_append, firstG, firstG, first_nz want h r]

theorem first_neg (want : Nat) : ∀ l : List (Nat × Nat), firstG want l < 0 → firstG want l = -1
  | [], _ => rfl
  | g :: r, h => by
    rw [firstG] at h ⊢
    split at h
    · omega
    · rename_i hw
      rw [if_neg hw]
      exact first_neg want r h

/-- The spec's place is the program's. -/
theorem put_at {n want : Nat} {L : List Cl} {t : Nat → Bool} (h : Right n L t) (hw : 1 ≤ want) : (gapFold want n (liveC [] L) 0 (-1, 0)).1 = firstG want (scanM t n).1 := by
  unfold gapFold
  rw [gapFold_first, h.scan, first_nz want hw, if_pos (by omega)]
  split
  · rename_i hl
    exact (first_neg want _ hl).symm
  · rfl

theorem first_room (want n : Nat) : ∀ (l : List (Nat × Nat)), (∀ g ∈ l, g.1 + g.2 ≤ n) → 0 ≤ firstG want l → firstG want l + want ≤ n
  | [], _, h => by simp [firstG] at h
  | g :: r, hb, h => by
    rw [firstG] at h ⊢
    split
    · rename_i hw
      have := hb g (by simp)
      omega
    · rename_i hw
      rw [if_neg hw] at h
      exact first_room want n r (fun x hx => hb x (by simp [hx])) h

theorem scan_room (t : Nat → Bool) : ∀ k, (∀ g ∈ (scanM t k).1, g.1 + g.2 ≤ k) ∧ ((scanM t k).2 = true → ∃ G a l, (scanM t k).1 = G ++ [(a, l)] ∧ a + l = k)
  | 0 => ⟨fun x hx => by simp [scanM] at hx, fun h => by simp [scanM] at h⟩
  | k + 1 => by
    obtain ⟨h1, h2⟩ := scan_room t k
    rw [scanM, stepG]
    split
    · exact ⟨fun g hg => by have := h1 g hg; omega, fun h => by simp at h⟩
    · split
      · rename_i h
        obtain ⟨G, a, l, e, hl⟩ := h2 h
        rw [e] at h1
        rw [e, bump_last]
        refine ⟨fun g hg => ?_, fun _ => ⟨G, a, l + 1, rfl, by omega⟩⟩
        rcases List.mem_append.1 hg with h | h
        · have := h1 g (by simp [h]); omega
        · simp at h
          subst h
          simp only
          omega
      · refine ⟨fun g hg => ?_, fun _ => ⟨_, k, 1, rfl, rfl⟩⟩
        rcases List.mem_append.1 hg with h | h
        · have := h1 g h; omega
        · simp at h
          subst h
          exact Nat.le_refl _

/-- The first cell that may be used anew; how many there are: none. -/
def freeAt : List Cl → Nat
  | [] => 0
  | c :: r => if c.live = false ∧ c.gen < 1000000000 then 0 else freeAt r + 1

theorem free_le : ∀ L : List Cl, freeAt L ≤ L.length
  | [] => Nat.le_refl _
  | c :: r => by
    rw [freeAt]
    split
    · omega
    · have := free_le r
      simp
      omega

theorem free_step (L : List Cl) : ∀ k, k < L.length → (∀ i, i < k → ¬ ((L.getD i cl0).live = false ∧ (L.getD i cl0).gen < 1000000000)) → (L.getD k cl0).live = false ∧ (L.getD k cl0).gen < 1000000000 → freeAt L = k := by
  induction L with
  | nil => intro k hk; simp at hk
  | cons c r ih =>
    intro k hk hno hyes
    rw [freeAt]
    cases k with
    | zero =>
      rw [List.getD_cons_zero] at hyes
      rw [if_pos hyes]
    | succ k =>
      have h0 := hno 0 (by omega)
      rw [List.getD_cons_zero] at h0
      rw [List.getD_cons_succ] at hyes
      rw [if_neg h0, ih k (by simpa using hk) (fun i hi => by have := hno (i + 1) (by omega); rwa [List.getD_cons_succ] at this) hyes]

theorem free_none (L : List Cl) : (∀ i, i < L.length → ¬ ((L.getD i cl0).live = false ∧ (L.getD i cl0).gen < 1000000000)) → freeAt L = L.length := by
  induction L with
  | nil => intro _; rfl
  | cons c r ih =>
    intro hno
    have h0 := hno 0 (by simp)
    rw [List.getD_cons_zero] at h0
    rw [freeAt, if_neg h0, ih (fun i hi => by have := hno (i + 1) (by simpa using hi); rwa [List.getD_cons_succ] at this)]
    rfl

/-- The cells ahead of the one that is put: one more where none is free. -/
def roomC (L : List Cl) : List Cl := if freeAt L = L.length then L ++ [cl0] else L

theorem room_len (L : List Cl) : freeAt L < (roomC L).length := by
  have := free_le L
  unfold roomC
  split
  · simp; omega
  · omega

/-- What is put: the bytes, the cells, the place and its Gen. -/
def putData (s : ByteArray) (p : Nat) (x : ByteArray) : ByteArray := s.extract 0 p ++ x ++ s.extract (p + x.size) s.size

def putCells (L : List Cl) (p : Nat) (l : Nat) : List Cl := (roomC L).set (freeAt L) ⟨p, l, ((roomC L).getD (freeAt L) cl0).gen + 1, true⟩

/-- Is there a place for it? -/
def putOk (s : ByteArray) (L : List Cl) (x : ByteArray) : Bool := heapB s L && decide (x.size ≠ 0) && decide (0 ≤ (gapFold x.size s.size (liveC [] L) 0 (-1, 0)).1) && decide (freeAt L ≠ 40)

/-- The bytes of the arena behind a put. -/
def dPut (s : ByteArray) (p : Nat) (x : ByteArray) : Nat → UInt8 := fun i => if p ≤ i ∧ i < p + x.size then byteAt x (i - p) else byteAt s i

theorem bytes_list (s : ByteArray) : s.data.toList = (List.range s.size).map (byteAt s) := by
  apply List.ext_getElem?
  intro i
  rw [List.getElem?_map]
  by_cases h : i < s.size
  · have hl : i < s.data.toList.length := by rw [Array.length_toList]; exact h
    rw [List.getElem?_range h, List.getElem?_eq_getElem hl]
    show _ = some (byteAt s i)
    unfold byteAt
    rw [List.getD_eq_getElem?_getD, List.getElem?_eq_getElem hl]
    rfl
  · have hl : s.data.toList.length ≤ i := by rw [Array.length_toList]; exact Nat.le_of_not_lt h
    rw [List.getElem?_eq_none hl, List.getElem?_eq_none (by simp; omega)]
    rfl

theorem put_data (s : ByteArray) (p : Nat) (x : ByteArray) (h : p + x.size ≤ s.size) : dataOf (dPut s p x) s.size = putData s p x := by
  apply ByteArray.ext
  apply Array.ext'
  show (List.range s.size).map (dPut s p x) = _
  unfold putData
  rw [ByteArray.data_append, ByteArray.data_append, Array.toList_append, Array.toList_append, ByteArray.data_extract, ByteArray.data_extract, Array.toList_extract, Array.toList_extract, List.extract_eq_take_drop, List.extract_eq_take_drop, bytes_list s, bytes_list x]
  apply List.ext_getElem?
  intro i
  rw [List.getElem?_map]
  by_cases h1 : i < p
  · rw [List.append_assoc, List.getElem?_append_left (by simp; omega), List.getElem?_range (by omega), List.drop_zero, List.getElem?_take, if_pos (by omega), List.getElem?_map, List.getElem?_range (by omega)]
    show some (dPut s p x i) = some _
    unfold dPut
    rw [if_neg (by omega)]
  · by_cases h2 : i < p + x.size
    · rw [List.append_assoc, List.getElem?_append_right (by simp; omega), List.getElem?_append_left (by simp; omega), List.getElem?_range (by omega), List.getElem?_map, List.getElem?_range (by simp; omega)]
      show some (dPut s p x i) = some _
      unfold dPut
      rw [if_pos (by omega)]
      congr 2
      simp
      omega
    · by_cases h3 : i < s.size
      · rw [List.getElem?_append_right (by simp; omega), List.getElem?_range h3, List.getElem?_take, if_pos (by simp; omega), List.getElem?_drop, List.getElem?_map, List.getElem?_range (by simp; omega)]
        show some (dPut s p x i) = some _
        unfold dPut
        rw [if_neg (by omega)]
        congr 2
        simp
        omega
      · rw [List.getElem?_eq_none (by simp; omega), List.getElem?_eq_none (by simp; omega)]
        rfl
end Go.Proofs.Ytjjpplpdpldkeaa
