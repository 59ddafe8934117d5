/- What is packed: the bytes one behind the other, and the cells' new places. -/
import Derived.Test.YtjjpplpdpldkeaaHDropM
namespace Go.Proofs.Ytjjpplpdpldkeaa
open Go.RowKit Go.Sort

/-- The places of the live cells, by where they lie. -/
def liveS (L : List Cl) : List Nat := stI L L.length

theorem ins_perm (L : List Cl) (i : Nat) : ∀ S : List Nat, (insI L i S).Perm (i :: S)
  | [] => .refl _
  | x :: r => by
    rw [insI]
    split
    · exact ((ins_perm L i r).cons x).trans (.swap i x r)
    · exact .refl _

theorem st_nodup (L : List Cl) : ∀ k, (stI L k).Nodup
  | 0 => by rw [stI]; exact List.nodup_nil
  | k + 1 => by
    rw [stI]
    split
    · rw [(ins_perm L k (stI L k)).nodup_iff, List.nodup_cons]
      exact ⟨fun h => by have := (st_bound L k).2 k h; omega, st_nodup L k⟩
    · exact st_nodup L k

theorem liveS_nodup (L : List Cl) : (liveS L).Nodup := st_nodup L _
theorem liveS_lt (L : List Cl) : ∀ i ∈ liveS L, i < L.length := (st_bound L L.length).2
theorem liveS_len (L : List Cl) : (liveS L).length ≤ L.length := (st_bound L L.length).1

theorem liveS_at {L : List Cl} {m : Nat} (h : m < (liveS L).length) : (liveS L).getD m 0 ∈ liveS L := by
  rw [List.getD_eq_getElem?_getD, List.getElem?_eq_getElem h]
  exact List.getElem_mem h

theorem liveS_ne {L : List Cl} {m j : Nat} (h : m < j) (hj : j < (liveS L).length) : (liveS L).getD m 0 ≠ (liveS L).getD j 0 := by
  rw [List.getD_eq_getElem?_getD, List.getD_eq_getElem?_getD, List.getElem?_eq_getElem hj, List.getElem?_eq_getElem (Nat.lt_trans h hj)]
  exact List.pairwise_iff_getElem.1 (liveS_nodup L) m j _ hj h

/-- The bytes of a cell. -/
def cutOf (s : ByteArray) (x : Cl) : ByteArray := s.extract x.pos.toNat (x.pos.toNat + x.len.toNat)

def moveC (M : List Cl) (i e : Nat) : List Cl := M.set i ⟨e, (M.getD i cl0).len, (M.getD i cl0).gen, (M.getD i cl0).live⟩

def pkStep (s : ByteArray) (L : List Cl) (st : List Cl × ByteArray) (i : Nat) : List Cl × ByteArray := (moveC st.1 i st.2.size, st.2 ++ cutOf s (clOf L i))

/-- The cells and the bytes when so many have been moved. -/
def pkSt (s : ByteArray) (L : List Cl) (m : Nat) : List Cl × ByteArray := ((liveS L).take m).foldl (pkStep s L) (L, ⟨#[]⟩)

theorem pkSt_next (s : ByteArray) (L : List Cl) {m : Nat} (h : m < (liveS L).length) : pkSt s L (m + 1) = pkStep s L (pkSt s L m) ((liveS L).getD m 0) := by
  unfold pkSt
  rw [List.take_succ_eq_append_getElem h, List.foldl_append, List.getD_eq_getElem?_getD, List.getElem?_eq_getElem h]
  rfl

theorem pk_len (s : ByteArray) (L : List Cl) : ∀ m, m ≤ (liveS L).length → (pkSt s L m).1.length = L.length
  | 0, _ => rfl
  | m + 1, h => by
    rw [pkSt_next s L (by omega)]
    show (moveC _ _ _).length = _
    unfold moveC
    rw [List.length_set, pk_len s L m (by omega)]

theorem pk_fresh (s : ByteArray) (L : List Cl) : ∀ (m j : Nat), m ≤ j → j < (liveS L).length → (pkSt s L m).1.getD ((liveS L).getD j 0) cl0 = clOf L ((liveS L).getD j 0)
  | 0, _, _, _ => rfl
  | m + 1, j, hm, hj => by
    rw [pkSt_next s L (by omega)]
    show (moveC _ _ _).getD _ cl0 = _
    unfold moveC
    rw [List.getD_eq_getElem?_getD, List.getElem?_set_ne (liveS_ne (by omega) hj), ← List.getD_eq_getElem?_getD]
    exact pk_fresh s L m j (by omega) hj

/-- How many bytes so many of them have. -/
def pkN (L : List Cl) (m : Nat) : Nat := (((liveS L).take m).map fun i => (clOf L i).len.toNat).sum

theorem pkN_next (L : List Cl) {m : Nat} (h : m < (liveS L).length) : pkN L (m + 1) = pkN L m + (clOf L ((liveS L).getD m 0)).len.toNat := by
  unfold pkN
  rw [List.take_succ_eq_append_getElem h, List.map_append, List.sum_append, List.getD_eq_getElem?_getD, List.getElem?_eq_getElem h]
  simp

theorem pkN_mono (L : List Cl) : ∀ (m d : Nat), m + d ≤ (liveS L).length → pkN L m ≤ pkN L (m + d)
  | m, 0, _ => Nat.le_refl _
  | m, d + 1, h => by
    have := pkN_mono L m d (by omega)
    have := pkN_next L (m := m + d) (by omega)
    rw [show m + (d + 1) = m + d + 1 from by omega]
    omega

theorem sum_ahead (n : Nat) : ∀ (S : List Cl) (e : Nat), Ahead n S e → e + (S.map fun c => c.len.toNat).sum ≤ n
  | [], e, h => by simpa using h.1
  | c :: r, e, h => by
    have f := h.facts
    have := sum_ahead n r _ h.next
    rw [List.map_cons, List.sum_cons]
    omega

theorem pkN_all {n : Nat} {L : List Cl} {t : Nat → Bool} (h : Right n L t) : pkN L (liveS L).length ≤ n := by
  have := sum_ahead n (liveC [] L) 0 h.ahead
  rw [live_all L, List.map_map] at this
  unfold pkN
  rw [List.take_length]
  have e : (liveS L).map (fun i => (clOf L i).len.toNat) = (stI L L.length).map ((fun c : Cl => c.len.toNat) ∘ clOf L) := rfl
  rw [e]
  omega

theorem live_ok {n : Nat} {L : List Cl} {t : Nat → Bool} (h : Right n L t) {i : Nat} (hi : i ∈ liveS L) : Ok n (clOf L i) :=
  h.ok _ (by rw [live_all L]; exact List.mem_map_of_mem hi)

theorem cut_size {s : ByteArray} {x : Cl} (h : Ok s.size x) : (cutOf s x).size = x.len.toNat := by
  obtain ⟨_, h1, h2, h3⟩ := h
  unfold cutOf
  rw [ByteArray.size_extract]
  omega

theorem pk_size {s : ByteArray} {L : List Cl} {t : Nat → Bool} (h : Right s.size L t) : ∀ m, m ≤ (liveS L).length → (pkSt s L m).2.size = pkN L m
  | 0, _ => rfl
  | m + 1, hm => by
    rw [pkSt_next s L (by omega), pkN_next L (by omega)]
    show (_ ++ cutOf s _).size = _
    rw [ByteArray.size_append, pk_size h m (by omega), cut_size (live_ok h (liveS_at (by omega)))]

theorem pk_room {s : ByteArray} {L : List Cl} {t : Nat → Bool} (h : Right s.size L t) {m : Nat} (hm : m < (liveS L).length) : pkN L m + (clOf L ((liveS L).getD m 0)).len.toNat ≤ s.size := by
  have := pkN_next L hm
  have := pkN_mono L (m + 1) ((liveS L).length - (m + 1)) (by omega)
  rw [show m + 1 + ((liveS L).length - (m + 1)) = (liveS L).length from by omega] at this
  have := pkN_all h
  omega

theorem pk_le {s : ByteArray} {L : List Cl} {t : Nat → Bool} (h : Right s.size L t) {m : Nat} (hm : m ≤ (liveS L).length) : pkN L m ≤ s.size := by
  have := pkN_mono L m ((liveS L).length - m) (by omega)
  rw [show m + ((liveS L).length - m) = (liveS L).length from by omega] at this
  have := pkN_all h
  omega

def packD (s : ByteArray) (L : List Cl) : ByteArray := if heapB s L = true then (pkSt s L (liveS L).length).2 ++ dataZ (s.size - (pkSt s L (liveS L).length).2.size) else ⟨#[]⟩
def packL (s : ByteArray) (L : List Cl) : List Cl := if heapB s L = true then (pkSt s L (liveS L).length).1 else []

theorem pack_no {s : ByteArray} {L : List Cl} (h : heapB s L = false) : packD s L = ⟨#[]⟩ ∧ packL s L = [] := by
  unfold packD packL
  rw [h]
  exact ⟨rfl, rfl⟩

/-- A row one of whose cells has another place then. -/
theorem flatC_move (M : List Cl) (i e : Nat) (h : i < M.length) : (flatC M).set (i * 4) (.int .i64 e) = flatC (moveC M i e) := by
  have hs := split_at M i h
  have hl : (flatC (M.take i)).length = i * 4 := by rw [flatC_len, List.length_take]; omega
  have e2 : moveC M i e = M.take i ++ (⟨e, (M.getD i cl0).len, (M.getD i cl0).gen, (M.getD i cl0).live⟩ :: M.drop (i + 1)) := by
    unfold moveC
    rw [List.set_eq_take_append_cons_drop, if_pos h]
  rw [e2, flatC_app]
  generalize M.getD i cl0 = y at *
  conv => lhs; rw [hs, flatC_app]
  rw [List.set_append_right _ _ (by omega), hl, Nat.sub_self]
  rfl

/-- The bytes of the packed arena. -/
theorem pack_data (D : ByteArray) (n : Nat) (h : D.size ≤ n) : dataOf (byteAt D) n = D ++ dataZ (n - D.size) := by
  apply ByteArray.ext
  apply Array.ext'
  rw [ByteArray.data_append, Array.toList_append, bytes_list D]
  show (List.range n).map (byteAt D) = (List.range D.size).map (byteAt D) ++ (List.range (n - D.size)).map fun _ => (0 : UInt8)
  apply List.ext_getElem?
  intro i
  by_cases h1 : i < D.size
  · rw [List.getElem?_append_left (by simpa using h1), List.getElem?_map, List.getElem?_map, List.getElem?_range (by omega), List.getElem?_range h1]
  · rw [List.getElem?_append_right (by simp; omega)]
    by_cases h2 : i < n
    · rw [List.getElem?_map, List.getElem?_map, List.getElem?_range h2, List.length_map, List.length_range, List.getElem?_range (by omega)]
      show some (byteAt D i) = some 0
      unfold byteAt
      rw [List.getD_eq_getElem?_getD, List.getElem?_eq_none (by rw [Array.length_toList]; exact Nat.le_of_not_lt h1)]
      rfl
    · rw [List.getElem?_eq_none (by simp; omega), List.getElem?_eq_none (by simp; omega)]
end Go.Proofs.Ytjjpplpdpldkeaa
