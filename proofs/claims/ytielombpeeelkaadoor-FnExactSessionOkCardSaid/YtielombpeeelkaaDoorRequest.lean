/- The reader's request at this dump. -/
import Derived.Test.YtielombpeeelkaaDoorFields
namespace Go.Proofs.YtielombpeeelkaaDoor
open Go.RowKit Go.Sort Go.Lib

def okArgsL (ws : List (List UInt8)) : Bool := decide (ws.length ≤ 16) && ws.all fun t => decide (t.length ≤ 200)

theorem okArgs_L (ws : List ByteArray) : okArgs ws = okArgsL (ws.map fun t => t.data.toList) := by
  unfold okArgs okArgsL
  rw [List.length_map, List.all_map]
  congr 1

/-- The words of a line, by its bytes. -/
def lineWords (l : List UInt8) : Int ⊕ (List (List UInt8) × Nat) :=
  if 300 < Lib.indexByte l 10 then .inl 2
  else if Lib.indexByte l 10 < 0 then .inl (if 300 < l.length then 2 else 1)
  else if okArgsL (wordsOf [] (Lib.trimSuffix (l.take (Lib.indexByte l 10).toNat) [13])) then
    .inr (wordsOf [] (Lib.trimSuffix (l.take (Lib.indexByte l 10).toNat) [13]), (Lib.indexByte l 10).toNat + 1)
  else .inl 2

theorem indexByte_fits : ∀ (l : List UInt8) (c : UInt8), 0 ≤ Lib.indexByte l c → Lib.indexByte l c + 1 ≤ l.length
  | [], c, h => by simp [Lib.indexByte] at h
  | b :: l, c, h => by
    unfold Lib.indexByte at h ⊢
    by_cases hp : (b == c) = true
    · rw [if_pos hp]; simp only [List.length_cons]; omega
    · rw [if_neg hp] at h ⊢
      by_cases hi : (Lib.indexByte l c == -1) = true
      · rw [if_pos hi] at h; omega
      · rw [if_neg hi] at h ⊢
        have hge := Lib.indexByte_ge l c
        have hne : Lib.indexByte l c ≠ -1 := by simpa using hi
        have := indexByte_fits l c (by omega)
        simp only [List.length_cons]
        omega

theorem words_any (s : ByteArray) (at_ rb : Nat) (w : World) (hs : s.size ≤ 2097152) (ha : at_ ≤ s.size) (h : RdAt w rb s at_) :
    Calls Tryd.prog 55 #[.pointer (some ⟨rb, 0, none⟩)] w fun e w' => ArgsEnd w rb s at_ (lineWords (s.data.toList.drop at_)) e w' := by
  have hlen : (s.data.toList.drop at_).length = s.size - at_ := by rw [List.length_drop, ← Lib.size_eq]
  unfold lineWords
  by_cases h1 : 300 < Lib.indexByte (s.data.toList.drop at_) 10
  · rw [if_pos h1]
    exact (words_bad s at_ rb w hs ha h h1).mono fun e w' ⟨he, hb⟩ => ⟨he, grown_below (grown_refl w _) hb⟩
  · rw [if_neg h1]
    by_cases h2 : Lib.indexByte (s.data.toList.drop at_) 10 < 0
    · rw [if_pos h2, hlen]
      exact (words_open s at_ rb w hs ha h h2).mono fun e w' ⟨he, hb⟩ => ⟨he, grown_below (grown_refl w _) hb⟩
    · rw [if_neg h2]
      have hfit := indexByte_fits _ 10 (Int.not_lt.1 h2)
      rw [hlen] at hfit
      obtain ⟨n, hn⟩ := Int.eq_ofNat_of_zero_le (Int.not_lt.1 h2)
      have ht : (Lib.indexByte (s.data.toList.drop at_) 10).toNat = n := by rw [hn]; rfl
      rw [ht]
      have hb := wordsOf_bound (Lib.trimSuffix ((s.data.toList.drop at_).take n) [13]) []
      have hf := fields_words ⟨(Lib.trimSuffix ((s.data.toList.drop at_).take n) [13]).toArray⟩
      have htl := trimSuffix_le ((s.data.toList.drop at_).take n) [13]
      rw [List.length_take, hlen] at htl
      simp only [] at hf
      have := words_line s at_ rb n w hs ha h hn (by omega) (by omega) _ rfl (by
        have := congrArg List.length hf
        rw [List.length_map] at this
        rw [this]
        have := hb.2.1 rfl
        omega) (by
        intro x hx
        have hm : x.data.toList ∈ wordsOf [] (Lib.trimSuffix ((s.data.toList.drop at_).take n) [13]) := by
          rw [← hf]; exact List.mem_map_of_mem hx
        have := hb.2.2 _ hm
        rw [Lib.size_eq]
        simp only [List.length_nil, Nat.zero_add] at this
        omega)
      rw [okArgs_L, hf] at this
      exact this

/-- A request at the front. -/
def requestM (l : List UInt8) : Int ⊕ (List (List UInt8) × Nat) :=
  match l with
  | [] => .inl 1
  | b :: r => if b = 42 then bulksAllM (b :: r) else lineWords (b :: r)

theorem ArgsEnd.drew {w w' : World} {q rb at_ : Nat} {s : ByteArray} {e : Ending} : ∀ {m : Int ⊕ (List (List UInt8) × Nat)}, ArgsEnd (w.drewN q) rb s at_ m e w' → ArgsEnd w rb s at_ m e w'
  | .inl _, ⟨he, hg⟩ => ⟨he, grown_trans (grown_drewN w q _) hg⟩
  | .inr (_, _), ⟨v, he, ho, hr, hl, hg⟩ => ⟨v, he, ho, hr, hl, grown_trans (grown_drewN w q _) hg⟩

theorem ArgsEnd.cases {w w' : World} {rb at_ : Nat} {s : ByteArray} {e : Ending} : ∀ {m : Int ⊕ (List (List UInt8) × Nat)}, ArgsEnd w rb s at_ m e w' → (∃ c, e = gaveUp c) ∨ ∃ v, e = .returned v
  | .inl c, ⟨he, _⟩ => .inl ⟨c, he⟩
  | .inr (_, _), ⟨v, he, _⟩ => .inr ⟨v, he⟩

set_option maxHeartbeats 1000000 in
theorem request_any (s : ByteArray) (rb : Nat) (w : World) (hs : s.size ≤ 2097152) (hr : Ready w) (h : RdAt w rb s 0) (hrb : 6 ≤ rb) :
    Calls Tryd.prog 31 #[.pointer (some ⟨rb, 0, none⟩)] w fun e w' => ArgsEnd w rb s 0 (requestM s.data.toList) e w' := by
  have c0 := h.cell 0
  have c1 := h.cell 1
  simp at c0 c1
  have HB : Hid (∀ q, Calls Tryd.prog 54 #[.pointer (some ⟨rb, 0, none⟩)] (w.drewN q) fun e w' => ArgsEnd (w.drewN q) rb s 0 (bulksAllM s.data.toList) e w') := fun q => bulks_any s 0 rb (w.drewN q) hs (by omega) (hr.below (below_drewN (Below.refl _ _) _)) h hrb
  have HW : Hid (∀ q, Calls Tryd.prog 55 #[.pointer (some ⟨rb, 0, none⟩)] (w.drewN q) fun e w' => ArgsEnd (w.drewN q) rb s 0 (lineWords s.data.toList) e w') := fun q => words_any s 0 rb (w.drewN q) hs (by omega) h
  cases hl : s.data.toList with
  | nil =>
    have hz : s.size = 0 := by rw [Lib.size_eq, hl]; rfl
    obtain rfl : s = ⟨#[]⟩ := str_of s [] hl
    clear hl HB HW
    go_enter Tryd.func31, Tryd.ntmps31
    go_wp2
    go_quiet ((fail))
    go_wp2_with fail
    refine (giveUp_any 1 _).mono ?_
    rintro e w2 ⟨rfl, rfl⟩
    unfold gaveUp
    go_wp2
    exact ⟨rfl, rfl, grown_drewN _ _ _⟩
  | cons b r =>
    have hz : s.size = r.length + 1 := by rw [Lib.size_eq, hl]; rfl
    have hb256 : b.toNat < 256 := b.toNat_lt
    rw [hl] at HB HW
    obtain rfl : s = ⟨(b :: r).toArray⟩ := str_of s _ hl
    have hex : ((⟨(b :: r).toArray⟩ : ByteArray).extract 0 (r.length + 1)) = ⟨(b :: r).toArray⟩ := str_of _ _ (by rw [Lib.extract_data]; simp)
    have h00 : ∀ hx, (⟨(b :: r).toArray⟩ : ByteArray)[0]'hx = b := fun _ => rfl
    by_cases hbm : b = 42
    · have HM : Hid (requestM (b :: r) = bulksAllM (b :: r)) := if_pos hbm
      have hbz : ((b.toNat : Int) == 42) = true := by rw [hbm]; rfl
      rw [HM.out]
      clear hl hbm
      go_enter Tryd.func31, Tryd.ntmps31
      go_wp2
      go_quiet ((fail))
      go_wp2_with fail
      refine (HB.out _).mono ?_
      intro e w1 hE
      have HE : Hid (ArgsEnd _ _ _ _ _ e w1) := hE.drew
      rcases hE.cases with ⟨c, rfl⟩ | ⟨v, rfl⟩
      · clear hE
        unfold gaveUp
        go_wp2
        exact ⟨rfl, HE.out⟩
      · clear hE
        go_wp2
        go_ret
        exact HE.out
    · have HM : Hid (requestM (b :: r) = lineWords (b :: r)) := if_neg hbm
      have hbz : ((b.toNat : Int) == 42) = false := by
        rw [beq_eq_false_iff_ne]
        intro e
        exact hbm (UInt8.toNat_inj.1 (by simp; omega))
      rw [HM.out]
      clear hl hbm
      go_enter Tryd.func31, Tryd.ntmps31
      go_wp2
      go_quiet ((fail))
      go_wp2_with fail
      refine (HW.out _).mono ?_
      intro e w1 hE
      have HE : Hid (ArgsEnd _ _ _ _ _ e w1) := hE.drew
      rcases hE.cases with ⟨c, rfl⟩ | ⟨v, rfl⟩
      · clear hE
        unfold gaveUp
        go_wp2
        exact ⟨rfl, HE.out⟩
      · clear hE
        go_wp2
        go_ret
        exact HE.out
end Go.Proofs.YtielombpeeelkaaDoor
