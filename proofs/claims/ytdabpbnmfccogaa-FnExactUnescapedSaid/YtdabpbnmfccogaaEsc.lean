/- firstEscape at every text that is not empty; impl.Escaped and spec.Escaped: both answer escL. -/
import Derived.Test.YtdabpbnmfccogaaSmall
import Derived.Lib.SmallJoins
import Derived.Lib.QuietBelow
namespace Go.Proofs.Ytdabpbnmfccogaa
open Go.RowKit

theorem sget (s : ByteArray) (i : Nat) (h : i < s.size) : s.data.toList[i]? = some (s[i]'h) := by
  have hl : i < s.data.toList.length := by rw [← Lib.size_eq]; exact h
  rw [List.getElem?_eq_getElem hl]
  rfl

theorem pre_two {l : List UInt8} {c x : UInt8} {r : List UInt8} (h : l = 92 :: c :: r) : Lib.hasPrefix l [92, x] = (x == c) := by
  subst h
  simp [Lib.hasPrefix, List.isPrefixOf]

theorem byte_of {x : UInt8} {n : Nat} (h : x.toNat = n) : x = UInt8.ofNat n := by rw [← h]; simp

theorem first_any (s : ByteArray) (w : World) (hs : 0 < s.size) : Calls Try.prog 17 #[.string s] w (FstEnd s.data.toList w) := by
  by_cases h92 : (s[0]'hs).toNat = 92
  · have h0 := sget s 0 hs
    rw [byte_of h92] at h0
    match hl : s.data.toList with
    | [] => rw [hl] at h0; cases h0
    | [a] =>
      rw [hl] at h0; injection h0 with h0
      have h0 : a = 92 := h0
      subst h0
      have hp : ∀ x, Lib.hasPrefix s.data.toList [92, x] = false := fun x => by rw [hl]; simp [Lib.hasPrefix, List.isPrefixOf]
      rw [← hl]
      exact first_d s w hs h92 (hp _) (hp _) (hp _) (hp _) (by rw [hl]; rfl)
    | a :: c :: r =>
      rw [hl] at h0; injection h0 with h0
      have h0 : a = 92 := h0
      subst h0
      have hp : ∀ x, Lib.hasPrefix s.data.toList [92, x] = (x == c) := fun x => pre_two hl
      have hne : ∀ (x : UInt8), c ≠ x → Lib.hasPrefix s.data.toList [92, x] = false := fun x hx => by rw [hp]; simp; exact fun e => hx e.symm
      rw [← hl]
      by_cases e1 : c = 92
      · subst e1; exact first_a s w hs h92 (by rw [hp]; rfl) (by rw [hl]; rfl)
      by_cases e2 : c = 114
      · subst e2; exact first_b s w hs h92 (hne _ e1) (by rw [hp]; rfl) (by rw [hl]; rfl)
      by_cases e3 : c = 110
      · subst e3; exact first_c s w hs h92 (hne _ e1) (hne _ e2) (by rw [hp]; rfl) (by rw [hl]; rfl)
      by_cases e4 : c = 120
      · subst e4
        by_cases h4 : 4 ≤ s.size
        · refine first_f s w hs h92 (hne _ e1) (hne _ e2) (hne _ e3) (by rw [hp]; rfl) h4 ?_
          have h2 := sget s 2 (by omega)
          have h3 := sget s 3 (by omega)
          rw [hl] at h2 h3
          match r, h2, h3 with
          | x :: y :: r, h2, h3 =>
            injection h2 with h2
            injection h3 with h3
            have h2 : x = s[2]'(by omega) := h2
            have h3 : y = s[3]'(by omega) := h3
            rw [hl, ← h2, ← h3]
            rfl
        · refine first_e s w hs h92 (hne _ e1) (hne _ e2) (hne _ e3) (by rw [hp]; rfl) (by omega) ?_
          rw [hl]
          have hsz := congrArg List.length hl
          rw [← Lib.size_eq] at hsz
          match r, hsz with
          | [], _ => rfl
          | [x], _ => rfl
          | x :: y :: r, hsz => simp at hsz; omega
      · refine first_d s w hs h92 (hne _ e1) (hne _ e2) (hne _ e3) (hne _ e4) ?_
        rw [hl]
        have g : ∀ n : Nat, n < 256 → c ≠ UInt8.ofNat n → ¬ c.toNat = n := fun n hn h e => h (byte_of e)
        have g1 := g 92 (by omega) e1
        have g2 := g 114 (by omega) e2
        have g3 := g 110 (by omega) e3
        have g4 := g 120 (by omega) e4
        show (if c.toNat = 92 then ((92 : UInt8), 2) else if c.toNat = 114 then (13, 2) else if c.toNat = 110 then (10, 2) else if c.toNat = 120 then _ else (0, 0)) = _
        rw [if_neg g1, if_neg g2, if_neg g3, if_neg g4]
  · exact first_plain s w hs h92

theorem info5 : (Try.prog.info? 5).map (fun i => (i.zero, i.size, i.bytes)) = some (some (.int .u8 0), 1, 1) := by kernel_rfl

/-- string(b) of a slice that owns its bytes, or of nil. -/
theorem conv_own {w : World} {B : Nat} {v : Value} {xs : List UInt8} (h : w.ownsRow B 5 1 v xs.length (Lib.byteCells xs)) :
    (convert 22 9 v).run Try.prog w = .ok (.string ⟨xs.toArray⟩) w := by
  rcases Joins.ownsRow_forms h with ⟨rfl, h0⟩ | ⟨A, cap, rfl⟩
  · obtain rfl : xs = [] := List.length_eq_zero_iff.mp h0
    rw [run_convert_bytes_string w 22 9 5 none 0 0 Try.underlying22 Try.underlying5 Try.underlying9]
    rfl
  · refine run_convert_bytes_back _ 22 9 5 ⟨A, 0, none⟩ cap xs Try.underlying22 Try.underlying5 Try.underlying9 ?_
    intro j hj
    exact h.cells rfl j _ (by simp [Lib.byteCells, hj])

theorem bytes_cell (w : World) (s : ByteArray) (cap : Nat) (fr : Nat × Nat) (j : Nat) (hj : j < s.size) :
    (w.drew.alloc (.cells (bytesRow s cap) 5 fr)).cell? ⟨w.heap.size, j, none⟩ = some (.int .u8 (s[j]'hj).toNat) := by
  have h : (w.drew.alloc (.cells (bytesRow s cap) 5 fr)).heap[w.heap.size]? = some (.cells (bytesRow s cap) 5 fr) := by
    show (w.heap.push (.cells (bytesRow s cap) 5 fr))[w.heap.size]? = _
    simp
  rw [Lib.cell_of_heap h j]
  unfold bytesRow
  rw [Array.getElem?_append_left (by simp; exact hj)]
  simp
  exact ⟨_, Array.getElem?_eq_getElem hj, rfl⟩

theorem ownsRow_below {W W' : World} {B n : Nat} {x : Value} {xs : List Value} (h : W.ownsRow B 5 1 x n xs) (hg : W.grownBy W' x.ownBlock) (hB : B ≤ W.heap.size) : Below B W W' :=
  ⟨hg.os, hg.tape, hg.output, hg.size, fun k hk => hg.block k (by omega) fun e => by have := (h.lt k e.symm).1; omega⟩

set_option maxHeartbeats 4000000 in
set_option maxRecDepth 100000 in
theorem implEscaped (s : ByteArray) (w : World) (hs : s.size ≤ 16777216) :
    Calls Try.prog 8 #[.string s] w fun e w' => e = .returned (.string ⟨(escL s.data.toList).toArray⟩) ∧ Below w.heap.size w w' := by
  obtain ⟨i0, hi, hz0, hz1, hz2⟩ := info_parts info5
  have hcv := run_bytes_of_string (P := Try.prog) w 9 22 5 s Try.underlying9 Try.underlying22 Try.underlying5
  have hcell := bytes_cell w s (grownCap w s.size 0 5) ((bytesRow s (grownCap w s.size 0 5)).size, (bytesRow s (grownCap w s.size 0 5)).size + 1)
  have hb0 : Below w.heap.size w (w.drew.alloc (.cells (bytesRow s (grownCap w s.size 0 5)) 5 ((bytesRow s (grownCap w s.size 0 5)).size, (bytesRow s (grownCap w s.size 0 5)).size + 1))) := (below_drewN (Below.refl _ w) 1).alloc (Nat.le_refl _) _
  have hz : w.heap.size < (w.drew.alloc (.cells (bytesRow s (grownCap w s.size 0 5)) 5 ((bytesRow s (grownCap w s.size 0 5)).size, (bytesRow s (grownCap w s.size 0 5)).size + 1))).heap.size := by simp
  generalize hW : w.drew.alloc (.cells (bytesRow s (grownCap w s.size 0 5)) 5 ((bytesRow s (grownCap w s.size 0 5)).size, (bytesRow s (grownCap w s.size 0 5)).size + 1)) = w1 at *
  clear hW
  generalize grownCap w s.size 0 5 = cap at *
  go_enter Try.func8, Try.ntmps8
  go_wp2
  clear hcv
  go_loopw [3, 9] (fun o i wr => ∃ (k : Nat), k ≤ s.size ∧ i = .int .i64 k ∧ wr.ownsRow (w.heap.size + 1) 5 1 o (escL (s.data.toList.take k)).length (Lib.byteCells (escL (s.data.toList.take k))) ∧ Below (w.heap.size + 1) w1 wr) (fun _ i _ => s.size - (intOf i).toNat)
  case atStart => exact ⟨0, by omega, rfl, ⟨by simp [escL, Lib.byteCells], .inl ⟨rfl, by simp [escL]⟩⟩, Below.refl _ _⟩
  case round =>
    obtain ⟨k, hk, rfl, hown, bk⟩ := hrel
    have hw1 := bk.size
    have hlen := escL_take_len s.data.toList k
    have hsl : s.data.toList.length = s.size := (Lib.size_eq s).symm
    by_cases hlt : k < s.size
    · have hc : wr.cell? ⟨w.heap.size, k, none⟩ = some (.int .u8 (s[k]'hlt).toNat) := (bk.cell (p := ⟨w.heap.size, k, none⟩) (by simp)).trans (hcell k hlt)
      have hx := (s[k]'hlt).toNat_lt
      have HS : Hid (escL (s.data.toList.take (k + 1)) = escL (s.data.toList.take k) ++ esc1 (s[k]'hlt)) := escL_take_succ s.data.toList k (by omega)
      have hl4 := esc1_len (s[k]'hlt)
      have cE := escape_any (s[k]'hlt).toNat wr hx
      have HU : Hid (UInt8.ofNat (s[k]'hlt).toNat = s[k]'hlt) := ofNat_toNat _
      unfold EscEnd at cE
      rw [HU.out] at cE
      generalize s[k]'hlt = b at *
      generalize escL (s.data.toList.take k) = xs at *
      clear hcell
      go_wp2_with fail
      refine cE.mono ?_
      rintro e w2 ⟨A, c, rfl, hrow, b2⟩
      clear cE
      have o2 : w2.ownsRow (w.heap.size + 1) 5 1 u3 xs.length (Lib.byteCells xs) := hown.kept (row := none) ⟨b2.os, b2.tape, b2.output, b2.size, fun k hk _ => b2.block k hk⟩ (by rcases Joins.ownsRow_forms hown with ⟨rfl, _⟩ | ⟨g, cc, rfl⟩ <;> simp [Value.ownBlock])
      have s2 := b2.size
      go_wp2_with (at_builtin; refine wpList_append_own _ rfl _ _ 22 rfl (w.heap.size + 1) 5 i0 _ 1 1 Try.underlying22 hi hz0 hz1 hz2 rfl (by decide) _ _ _ rfl o2 ⟨A, 0, none⟩ (esc1 b).length c (Lib.byteCells (esc1 b)) rfl ?c0 (hrow.cells rfl) ?c2 ?c3 ?c4 ?c5 ?_)
      case c0 => simp [Lib.byteCells]
      case c2 => intro y hy; simp [Lib.byteCells] at hy; obtain ⟨_, _, rfl⟩ := hy; rfl
      case c3 => unfold maxLen; omega
      case c4 => omega
      case c5 => omega
      intro v' w3 hown' hgrow _
      have b3 := ownsRow_below o2 hgrow (by omega)
      go_wp2
      go_roundw
      case rel => exact ⟨k + 1, by omega, by go_num, by rw [HS.out, Lib.byteCells_append, List.length_append]; exact hown', (bk.trans (b2.mono (by omega))).trans b3⟩
      case measure => simp [intOf]; omega
    · have hke : k = s.size := by omega
      subst hke
      rw [List.take_of_length_le (by omega)] at hown
      have hcv := conv_own hown
      go_wp2
      go_ret
      exact ⟨rfl, hb0.trans (bk.mono (by omega))⟩
end Go.Proofs.Ytdabpbnmfccogaa
