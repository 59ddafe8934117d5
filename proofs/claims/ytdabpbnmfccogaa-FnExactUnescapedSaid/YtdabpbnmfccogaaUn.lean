/- impl.Unescaped: it answers unesc. -/
import Derived.Test.YtdabpbnmfccogaaSpEsc
namespace Go.Proofs.Ytdabpbnmfccogaa
open Go.RowKit Go.Sort

def strLen : Value → Nat | .string s => s.size | _ => 0

theorem ret_un {l : List UInt8} {a : ByteArray} {b : Bool} (h : unesc l = (a.data.toList, b)) : Ending.returned (.tuple #[.string a, .bool b]) = .returned (.tuple #[.string ⟨(unesc l).1.toArray⟩, .bool (unesc l).2]) := by rw [h]

theorem unesc_none {l : List UInt8} (h : parse [] l = none) : unesc l = ([], false) := by unfold unesc; rw [h]
theorem unesc_bad {l t : List UInt8} (h : parse [] l = some t) (h2 : escL t ≠ l) : unesc l = ([], false) := by unfold unesc; rw [h]; simp only; rw [if_neg h2]
theorem unesc_good {l t : List UInt8} (h : parse [] l = some t) (h2 : escL t = l) : unesc l = (t, true) := by unfold unesc; rw [h]; simp only; rw [if_pos h2]

theorem extract_end (t : ByteArray) (n : Nat) : (t.extract n t.size).data.toList = t.data.toList.drop n := by
  simp [ByteArray.data_extract, Array.toList_extract]
  rw [List.take_of_length_le]
  rw [List.length_drop, ← Lib.size_eq]
  exact Nat.le_refl _

theorem mk_eq {l : List UInt8} {s : ByteArray} : ((⟨l.toArray⟩ : ByteArray).toList == s.toList) = decide (l = s.data.toList) := by
  rw [ByteArray.toList_eq, ByteArray.toList_eq, Bool.eq_iff_iff]
  simp

set_option maxHeartbeats 4000000 in
set_option maxRecDepth 100000 in
theorem implUnescaped (s : ByteArray) (w : World) (hs : s.size ≤ 4194304) :
    Calls Try.prog 9 #[.string s] w fun e w' => e = .returned (.tuple #[.string ⟨(unesc s.data.toList).1.toArray⟩, .bool (unesc s.data.toList).2]) ∧ Below w.heap.size w w' := by
  obtain ⟨i0, hi, hz0, hz1, hz2⟩ := info_parts info5
  go_enter Try.func9, Try.ntmps9
  go_wp2
  go_loopw [4, 5] (fun o l wr => ∃ (t : ByteArray) (xs : List UInt8), l = .string t ∧ xs.length + t.size ≤ s.size ∧ Hid (parse xs t.data.toList = parse [] s.data.toList) ∧ wr.ownsRow w.heap.size 5 1 o xs.length (Lib.byteCells xs) ∧ Below w.heap.size w wr) (fun _ l _ => strLen l)
  case atStart => exact ⟨s, [], rfl, by simp, rfl, ⟨by simp [Lib.byteCells], .inl ⟨rfl, rfl⟩⟩, Below.refl _ _⟩
  case round =>
    obtain ⟨t, xs, rfl, hl, HP, hown, bk⟩ := hrel
    have sk := bk.size
    by_cases h0 : 0 < t.size
    · have hemp : t.toList.isEmpty = false := by
        rw [ByteArray.toList_eq]
        cases hd : t.data.toList with
        | nil => have := congrArg List.length hd; rw [← Lib.size_eq, List.length_nil] at this; omega
        | cons _ _ => rfl
      have hne : t.data.toList ≠ [] := by intro h; have := congrArg List.length h; rw [← Lib.size_eq, List.length_nil] at this; omega
      have cF := first_any t wr h0
      have hfl := fst_le t.data.toList
      rw [← Lib.size_eq] at hfl
      unfold FstEnd at cF
      by_cases hu : (fst t.data.toList).2 = 0
      · have HR : Hid (unesc s.data.toList = ([], false)) := unesc_none (by rw [← HP.out]; exact parse_none hne hu)
        rw [hu] at cF
        clear HP hu hne
        go_wp2_with fail
        refine cF.mono ?_
        rintro e w2 ⟨rfl, q, rfl⟩
        go_wp2
        go_ret2
        exact ⟨ret_un HR.out, below_drewN bk q⟩
      · have HQ : Hid (parse (xs ++ [(fst t.data.toList).1]) (t.data.toList.drop (fst t.data.toList).2) = parse [] s.data.toList) := by unfold Hid; rw [← HP.out]; exact (parse_step hne hu).symm
        clear HP hne
        have HD : Hid (t.data.toList.drop (fst t.data.toList).2 = (t.extract (fst t.data.toList).2 t.size).data.toList) := (extract_end t _).symm
        have hxs : (t.extract (fst t.data.toList).2 t.size).size = t.size - (fst t.data.toList).2 := by simp
        rw [HD.out] at HQ
        clear HD
        generalize hbu : fst t.data.toList = bu at *
        clear hbu
        obtain ⟨b, u⟩ := bu
        simp only at *
        have hu1 : (u : Int) ≠ 0 := by omega
        have hu2 : ((u : Int) == 0) = false := by simp; omega
        have hu3 : (u : Int) ≤ (t.size : Int) := by omega
        have HX : Hid ((t.extract u t.size).size = t.size - u) := hxs
        clear hxs
        go_wp2_with fail
        refine cF.mono ?_
        rintro e w2 ⟨rfl, q, rfl⟩
        have o2 : (wr.drewN q).ownsRow w.heap.size 5 1 u4 xs.length (Lib.byteCells xs) := hown.kept (row := none) ⟨rfl, rfl, rfl, Nat.le_refl _, fun _ _ _ => rfl⟩ (by rcases Joins.ownsRow_forms hown with ⟨rfl, _⟩ | ⟨g, cc, rfl⟩ <;> simp [Value.ownBlock])
        have b2 := below_drewN bk q
        have s2 := b2.size
        generalize wr.drewN q = w2 at *
        clear cF
        go_wp2_with (at_builtin; refine wpList_append_own _ rfl _ _ 22 rfl w.heap.size 5 i0 _ 1 1 Try.underlying22 hi hz0 hz1 hz2 rfl (by decide) _ _ _ rfl (o2.alloc _) ⟨w2.heap.size, 0, none⟩ 1 1 [.int .u8 b.toNat] rfl rfl (cell_one_new _ _ _) ?c2 ?c3 ?c4 ?c5 ?_)
        case c2 => intro y hy; simp at hy; subst hy; rfl
        case c3 => unfold maxLen; omega
        case c4 => omega
        case c5 => simp; omega
        intro v' w3 hown' hgrow _
        have b3 := ownsRow_below (o2.alloc (.cells #[.int .u8 b.toNat] 5)) hgrow (by simp; omega)
        have b23 := (b2.alloc s2 (.cells #[.int .u8 b.toNat] 5)).trans b3
        go_wp2
        go_roundw
        case rel => exact ⟨t.extract u t.size, xs ++ [b], rfl, by rw [List.length_append, HX.out]; simp; omega, HQ, by rw [Lib.byteCells_append, List.length_append]; exact hown', b23⟩
        case measure => show (t.extract u t.size).size < t.size; rw [HX.out]; omega
    · obtain rfl : t = ⟨#[]⟩ := by
        apply ByteArray.ext; apply Array.eq_empty_of_size_eq_zero; show t.size = 0; omega
      rw [parse_nil] at HP
      have hcv := conv_own hown
      have hxl : xs.length ≤ 4194304 := by omega
      have hez : (⟨xs.toArray⟩ : ByteArray).size = xs.length := by show xs.toArray.size = _; simp
      have cE := implEscaped ⟨xs.toArray⟩ wr (by omega)
      go_wp2_with fail
      refine cE.mono ?_
      rintro e w2 ⟨rfl, b2⟩
      have s2 := b2.size
      have bb := bk.trans (b2.mono sk)
      have o2 : w2.ownsRow w.heap.size 5 1 u4 xs.length (Lib.byteCells xs) := hown.kept (row := none) ⟨b2.os, b2.tape, b2.output, b2.size, fun k hk _ => b2.block k hk⟩ (by rcases Joins.ownsRow_forms hown with ⟨rfl, _⟩ | ⟨g, cc, rfl⟩ <;> simp [Value.ownBlock])
      have hcv2 := conv_own o2
      have heq := mk_eq (l := escL xs) (s := s)
      by_cases hE : escL xs = s.data.toList
      · have HR : Hid (unesc s.data.toList = (xs, true)) := unesc_good HP.out.symm hE
        rw [decide_eq_true hE] at heq
        clear hE HP cE
        generalize (⟨(escL xs).toArray⟩ : ByteArray) = t1 at *
        go_wp2
        go_ret2
        exact ⟨ret_un HR.out, bb⟩
      · have HR : Hid (unesc s.data.toList = ([], false)) := unesc_bad HP.out.symm hE
        rw [decide_eq_false hE] at heq
        clear hE HP cE
        generalize (⟨(escL xs).toArray⟩ : ByteArray) = t1 at *
        go_wp2
        go_ret2
        exact ⟨ret_un HR.out, bb⟩
end Go.Proofs.Ytdabpbnmfccogaa
