/- The specification's item whole. -/
import Derived.Test.YtcgeafdakaeicaaDoorSqC
namespace Go.Proofs.YtcgeafdakaeicaaDoor
open Go.RowKit Go.Sort
open Rp (Nd nd0 plainB numB fieldsB)

theorem leaf_kids {w w1 : World} {rb : Nat} {s : ByteArray} {B : Nat} {V : Value} {P : List Nv} {a1 : Nat} {c1 : Int} (ho : OwnN w1 B V P) (hr : S4 V w1 rb s a1 c1) (g1 : w.grownBy w1 (some rb)) : KidsG w rb s B V P nilV w1 [] [] V a1 c1 :=
  ⟨hr, by rw [List.append_nil]; exact ho, World.ownsRow_nil _ _ _ _, nil_apart _, by simp [Value.ownBlock], fun p hp => by simp at hp, Fr.of_grown V g1, Nw.refl _ _⟩

theorem leaf_add {w w1 : World} {rb : Nat} {s : ByteArray} {at_ B d : Nat} {V : Value} {P : List Nv} {a1 : Nat} {c1 : Int} (kd nm : Int) (tx : ByteArray) (R : Rep) (hBw : B ≤ w.heap.size) (hP : P.length ≤ 1000) (ho : OwnN w1 B V P) (hr : S4 V w1 rb s a1 c1) (g1 : w.grownBy w1 (some rb))
    (hR : (c1 ≠ 0 ∧ R = .inl c1 ∧ P.length + ([] : List Nv).length ≤ 1001 + d) ∨ (c1 = 0 ∧ ∃ k v, R = endM P.length k (.inr (([] : List Nv).map Prod.fst, (⟨kd, nm, tx, []⟩ : Nd), v)) ∧ a1 = at_ + (k + v) ∧ a1 ≤ s.size ∧ P.length + ([] : List Nv).length ≤ 1000)) :
    Calls Tryd.prog 67 #[.pointer (some ⟨rb, 0, none⟩), .agg #[.int .i64 kd, .int .i64 nm, .string tx, .slice none 0 0]] w1 fun e w' => e = .returned (.int .i64 (P.length : Nat)) ∧ ItemEnd w rb s at_ B V P (d + 1) R (.returned (.int .i64 (P.length : Nat))) w' := by
  have hk := leaf_kids ho hr g1
  have h := spAdd s a1 rb B c1 V (P ++ []) (⟨kd, nm, tx, []⟩ : Nd) nilV w1 hr (by have := g1.size; omega) hk.own (World.ownsRow_nil _ _ _ _) (nil_apart _) (by simp; omega)
  refine h.mono fun e w' he => ?_
  have h1 : e = .returned (.int .i64 (P.length : Nat)) := by have := he.choose_spec.1; rw [List.append_nil] at this; exact this
  refine ⟨h1, ?_⟩
  rw [← h1]
  exact item_of_add hk he hR

theorem bad_end {w w1 : World} {rb : Nat} {s : ByteArray} {at_ B d : Nat} {V : Value} {P : List Nv} {a1 : Nat} {c z : Int} (hP : P.length ≤ 1000) (ho : OwnN w1 B V P) (hr : S4 V w1 rb s a1 c) (g1 : w.grownBy w1 (some rb)) : ItemEnd w rb s at_ B V P d (.inl 2) (.returned (.int .i64 z)) (w1.setCell ⟨rb, 2, none⟩ (.int .i64 2)) := by
  have g2 := grown_set w1 rb 2 (.int .i64 2)
  exact ⟨z, a1, V, [], rfl, hr.setCode, by rw [List.append_nil]; exact ho.grown hr (by decide) (by decide) g2, fun p hp => by simp at hp, Fr.of_grown V (grown_trans g1 g2), Nw.refl _ _, by simp; omega⟩

set_option maxHeartbeats 1000000 in
theorem item_line (deep : Int) (V : Value) (s : ByteArray) (at_ rb : Nat) (w : World) (c : Int) (hc : c ≠ 0) (hline : Calls Tryd.prog 65 #[.pointer (some ⟨rb, 0, none⟩)] w fun e w' => e = .returned (.string ⟨#[]⟩) ∧ S4 V w' rb s at_ c ∧ w.grownBy w' (some rb)) :
    Calls Tryd.prog 42 #[.pointer (some ⟨rb, 0, none⟩), .int .i64 deep] w fun e w' => e = .returned (.int .i64 0) ∧ S4 V w' rb s at_ c ∧ w.grownBy w' (some rb) := by
  have HC : Hid (Calls Tryd.prog 65 #[.pointer (some ⟨rb, 0, none⟩)] w fun e w' => e = .returned (.string ⟨#[]⟩) ∧ S4 V w' rb s at_ c ∧ w.grownBy w' (some rb)) := hline
  have hcz : (c != 0) = true := by simpa using hc
  clear hline
  go_enter Tryd.func42, Tryd.ntmps42
  go_wp2_with fail
  refine HC.out.mono ?_
  rintro e w1 ⟨rfl, r1, g1⟩
  have c2 := RowAt.cell r1 2
  simp at c2
  have R1 : Hid (S4 V w1 rb s at_ c) := r1
  clear r1
  go_wp2
  go_ret
  exact ⟨rfl, R1.out, g1⟩

set_option maxHeartbeats 1000000 in
theorem item_empty (deep : Int) (V : Value) (s : ByteArray) (at2 rb : Nat) (w : World) (hline : LineC V s at2 rb w ⟨#[]⟩) :
    Calls Tryd.prog 42 #[.pointer (some ⟨rb, 0, none⟩), .int .i64 deep] w fun e w' => e = .returned (.int .i64 0) ∧ ∃ w1, S4 V w1 rb s at2 0 ∧ w.grownBy w1 (some rb) ∧ w' = w1.setCell ⟨rb, 2, none⟩ (.int .i64 2) := by
  have HC : Hid (LineC V s at2 rb w ⟨#[]⟩) := hline
  clear hline
  go_enter Tryd.func42, Tryd.ntmps42
  go_wp2_with fail
  refine HC.out.mono ?_
  rintro e w1 ⟨rfl, r1, g1⟩
  have c2 := RowAt.cell r1 2
  have f2 := RowAt.frozen r1 2
  simp at c2
  have R1 : Hid (S4 V w1 rb s at2 0) := r1
  clear r1
  go_wp2
  go_ret
  exact ⟨rfl, w1, R1.out, g1, rfl⟩

set_option maxHeartbeats 1000000 in
theorem item_deep (V : Value) (s : ByteArray) (at2 rb : Nat) (w : World) (b : UInt8) (r : List UInt8) (hline : LineC V s at2 rb w ⟨(b :: r).toArray⟩) :
    Calls Tryd.prog 42 #[.pointer (some ⟨rb, 0, none⟩), .int .i64 5] w fun e w' => e = .returned (.int .i64 0) ∧ ∃ w1, S4 V w1 rb s at2 0 ∧ w.grownBy w1 (some rb) ∧ w' = w1.setCell ⟨rb, 2, none⟩ (.int .i64 2) := by
  obtain ⟨t, ht, he, he2, h00, HX, hz⟩ := line_facts b r
  rw [← ht] at hline
  have HC : Hid (LineC V s at2 rb w t) := hline
  clear hline HX hz h00 ht
  go_enter Tryd.func42, Tryd.ntmps42
  go_wp2_with fail
  refine HC.out.mono ?_
  rintro e w1 ⟨rfl, r1, g1⟩
  have c2 := RowAt.cell r1 2
  have f2 := RowAt.frozen r1 2
  simp at c2
  have R1 : Hid (S4 V w1 rb s at2 0) := r1
  clear r1
  go_wp2
  go_ret
  exact ⟨rfl, w1, R1.out, g1, rfl⟩

theorem minus_one (r : List UInt8) (iv : Int) (h : intI r = (iv, true)) : (iv == -1) = decide (r = [45, 49]) := by
  have e1 : Lib.itoa (-1) = [45, 49] := by simp [Lib.itoa, Lib.decDigits_one (i := 1) (by omega)]
  have h1 := (intI_to r (by rw [h])).2
  rw [h] at h1
  by_cases hi : iv = -1
  · subst hi
    have : r = [45, 49] := by rw [← h1, ← e1]
    simp [this]
  · have : r ≠ [45, 49] := fun e => by
      have h2 := intI_itoa (-1) (by decide)
      rw [e1, ← e, h] at h2
      injection h2 with h2
      exact hi h2
    simp [hi, this]

theorem count_int (r : List UInt8) (iv : Int) (ok : Bool) (h : intI r = (iv, ok)) (most : Int) : countM r most = if ok = true ∧ 0 ≤ iv ∧ iv ≤ most then some iv.toNat else none := by
  unfold countM
  rw [decM_intI, h]
  cases ok with
  | false => simp
  | true => simp

theorem item_zero : ItemOk 0 5 := by
  intro s at_ rb B V P w hs ha h hBw ho hP
  have hL := s4Line V s at_ rb w hs ha h
  have hown : ∀ w1, w.grownBy w1 (some rb) → OwnN w1 B V P := fun w1 g1 => ho.grown h (by decide) (by decide) g1
  cases hl : lineM (s.data.toList.drop at_) with
  | inl c =>
    rw [hl] at hL
    rw [reply_inl hl]
    exact (item_line 5 V s at_ rb w c (line_code hl) hL).mono fun e w' ⟨he, r1, g1⟩ => ⟨0, at_, V, [], he, r1, by rw [List.append_nil]; exact hown w' g1, fun p hp => by simp at hp, Fr.of_grown V g1, Nw.refl _ _, by simp; omega⟩
  | inr l =>
    rw [hl] at hL
    have hL' : LineC V s (at_ + l.length + 2) rb w ⟨l.toArray⟩ := hL.mono fun e w' ⟨h1, h2, _, h4⟩ => ⟨h1, h2, h4⟩
    cases l with
    | nil =>
      rw [reply_nil hl]
      exact (item_empty 5 V s _ rb w hL').mono fun e w' ⟨he, w1, r1, g1, hw⟩ => by rw [he, hw]; exact bad_end hP (hown w1 g1) r1 g1
    | cons b r =>
      rw [reply_deep hl]
      exact (item_deep V s _ rb w b r hL').mono fun e w' ⟨he, w1, r1, g1, hw⟩ => by rw [he, hw]; exact bad_end hP (hown w1 g1) r1 g1

theorem line_fits {l t : List UInt8} (h : lineM l = .inr t) : t.length + 2 ≤ l.length := by
  unfold lineM at h
  split at h
  · rename_i hi
    injection h with h
    subst h
    have := index_fits l hi
    rw [List.length_take]; omega
  · split at h <;> cases h

theorem item_succ (d : Nat) (hd4 : d ≤ 3) (deep deep1 : Int) (hdp : deep ≤ 4) (hd1 : IntKind.i64.wrap (deep + 1) = deep1) (hd : ItemOk d deep1) : ItemOk (d + 1) deep := by
  intro s at_ rb B V P w hs ha h hBw ho hP
  have hL := s4Line V s at_ rb w hs ha h
  have hown : ∀ w1, w.grownBy w1 (some rb) → OwnN w1 B V P := fun w1 g1 => ho.grown h (by decide) (by decide) g1
  cases hl : lineM (s.data.toList.drop at_) with
  | inl c =>
    rw [hl] at hL
    rw [reply_inl hl]
    exact (item_line deep V s at_ rb w c (line_code hl) hL).mono fun e w' ⟨he, r1, g1⟩ => ⟨0, at_, V, [], he, r1, by rw [List.append_nil]; exact hown w' g1, fun p hp => by simp at hp, Fr.of_grown V g1, Nw.refl _ _, by simp; omega⟩
  | inr l =>
    rw [hl] at hL
    have hL' : LineC V s (at_ + l.length + 2) rb w ⟨l.toArray⟩ := hL.mono fun e w' ⟨h1, h2, _, h4⟩ => ⟨h1, h2, h4⟩
    have hfit := line_fits hl
    rw [List.length_drop, ← Lib.size_eq] at hfit
    cases l with
    | nil =>
      rw [reply_nil hl]
      exact (item_empty deep V s _ rb w hL').mono fun e w' ⟨he, w1, r1, g1, hw⟩ => by rw [he, hw]; exact bad_end hP (hown w1 g1) r1 g1
    | cons b r =>
      rw [reply_node hl, List.drop_drop]
      rw [List.length_cons] at hfit
      obtain ⟨at2, hat2⟩ : ∃ at2, at_ + (r.length + 3) = at2 := ⟨_, rfl⟩
      rw [hat2]
      rw [show at_ + (b :: r).length + 2 = at2 from by rw [List.length_cons]; omega] at hL'
      have hl2 : r.length ≤ 1048576 := by omega
      have h2s : at2 ≤ s.size := by omega
      obtain ⟨iv, ok, hint⟩ : ∃ iv ok, intI r = (iv, ok) := ⟨_, _, rfl⟩
      have hdec : decM r = if ok then some iv else none := by rw [decM_intI, hint]
      have bad : ∀ {e w'}, (e = Ending.returned (.int .i64 0) ∧ ∃ w1, S4 V w1 rb s at2 0 ∧ w.grownBy w1 (some rb) ∧ w' = w1.setCell ⟨rb, 2, none⟩ (.int .i64 2)) → ItemEnd w rb s at_ B V P (d + 1) (.inl 2) e w' := fun ⟨he, w1, r1, g1, hw⟩ => by rw [he, hw]; exact bad_end hP (hown w1 g1) r1 g1
      have good : ∀ (kd nm : Int) (tx : ByteArray), ∀ w1, S4 V w1 rb s at2 0 → w.grownBy w1 (some rb) → Calls Tryd.prog 67 #[.pointer (some ⟨rb, 0, none⟩), .agg #[.int .i64 kd, .int .i64 nm, .string tx, .slice none 0 0]] w1 fun e w' => e = .returned (.int .i64 (P.length : Nat)) ∧ ItemEnd w rb s at_ B V P (d + 1) (endM P.length (r.length + 3) (.inr ([], ⟨kd, nm, tx, []⟩, 0))) (.returned (.int .i64 (P.length : Nat))) w' :=
        fun kd nm tx w1 r1 g1 => leaf_add kd nm tx _ hBw hP (hown w1 g1) r1 g1 (.inr ⟨rfl, r.length + 3, 0, rfl, by omega, h2s, by simpa using hP⟩)
      have fin : ∀ {R : Rep} {e w'}, (e = Ending.returned (.int .i64 (P.length : Nat)) ∧ ItemEnd w rb s at_ B V P (d + 1) R (.returned (.int .i64 (P.length : Nat))) w') → ItemEnd w rb s at_ B V P (d + 1) R e w' := fun ⟨he, h⟩ => by rw [he]; exact h
      unfold nodeM
      by_cases h1 : b = 43
      · rw [if_pos h1]
        have hb : b.toNat = 43 := by rw [h1]; rfl
        by_cases hp : plainB ⟨r.toArray⟩ = true
        · rw [if_pos hp]
          exact (item_plus deep hdp V s at2 rb w b r hl2 iv ok hint hL' hb hp _ _ (good _ _ _)).mono fun e w' he => fin he
        · rw [if_neg hp]
          exact (item_plus_no deep hdp V s at2 rb w b r hl2 iv ok hint hL' hb (by simpa using hp)).mono fun e w' he => bad he
      rw [if_neg h1]
      by_cases h2 : b = 45
      · rw [if_pos h2]
        have hb : b.toNat = 45 := by rw [h2]; rfl
        by_cases hp : plainB ⟨r.toArray⟩ = true
        · rw [if_pos hp]
          exact (item_minus deep hdp V s at2 rb w b r hl2 iv ok hint hL' hb hp _ _ (good _ _ _)).mono fun e w' he => fin he
        · rw [if_neg hp]
          exact (item_minus_no deep hdp V s at2 rb w b r hl2 iv ok hint hL' hb (by simpa using hp)).mono fun e w' he => bad he
      rw [if_neg h2]
      by_cases h3 : b = 58
      · rw [if_pos h3, hdec]
        have hb : b.toNat = 58 := by rw [h3]; rfl
        cases ok with
        | true => exact (item_int deep hdp V s at2 rb w b r hl2 iv true hint hL' hb rfl _ _ (good _ _ _)).mono fun e w' he => fin he
        | false => exact (item_int_no deep hdp V s at2 rb w b r hl2 iv false hint hL' hb rfl).mono fun e w' he => bad he
      rw [if_neg h3]
      by_cases h4 : b = 36
      · rw [if_pos h4]
        have hb : b.toNat = 36 := by rw [h4]; rfl
        cases ok with
        | false =>
          have hne : r ≠ [45, 49] := fun e => by
            have h2 := intI_itoa (-1) (by decide)
            rw [show Lib.itoa (-1) = [45, 49] from by simp [Lib.itoa, Lib.decDigits_one (i := 1) (by omega)], ← e, hint] at h2
            injection h2 with _ h2
            cases h2
          rw [if_neg hne, count_int r iv false hint, if_neg (by simp)]
          exact (item_bulk_no1 deep hdp V s at2 rb w b r hl2 iv false hint hL' hb rfl).mono fun e w' he => bad he
        | true =>
          have hm := minus_one r iv hint
          by_cases hr : r = [45, 49]
          · rw [if_pos hr]
            exact (item_null deep hdp V s at2 rb w b r hl2 iv true hint hL' hb rfl (by rw [hm]; simpa using hr) _ _ (good _ _ _)).mono fun e w' he => fin he
          · rw [if_neg hr, count_int r iv true hint]
            have hm2 : (iv == -1) = false := by rw [hm]; simpa using hr
            by_cases hin : 0 ≤ iv ∧ iv ≤ 200
            · rw [if_pos ⟨rfl, hin⟩]
              have hn : ((iv.toNat : Nat) : Int) = iv := Int.toNat_of_nonneg hin.1
              have hB68 : ∀ w1, S4 V w1 rb s at2 0 → Calls Tryd.prog 68 #[.pointer (some ⟨rb, 0, none⟩), .int .i64 iv] w1 (BulkS4 V w1 rb s at2 iv.toNat (someM (s.data.toList.drop at2) iv.toNat)) := fun w1 r1 => by
                have := s4Bulk V s at2 rb iv.toNat w1 hs h2s (by omega) r1
                rw [hn] at this
                exact this
              cases hsm : someM (s.data.toList.drop at2) iv.toNat with
              | inl c =>
                simp only [hsm]
                refine (item_bulk deep hdp V s at2 rb w b r hl2 iv true hint hL' hb rfl hm2 (by simpa using hin) (P.length : Nat) (fun _ w2 => ∃ a, S4 V w2 rb s a c ∧ w.grownBy w2 (some rb)) _ (fun w1 r1 g1 => ?_) (fun tt w2 hG => ?_)).mono fun e w' he => fin he
                · have := hB68 w1 r1
                  rw [hsm] at this
                  exact this.mono fun e w' ⟨t, a, he, _, r2, g2⟩ => ⟨t, he, a, r2, grown_trans g1 g2⟩
                · obtain ⟨a, r2, g2⟩ := hG
                  exact leaf_add 4 0 tt _ hBw hP (hown w2 g2) r2 g2 (.inl ⟨some_code hsm, rfl, by simp; omega⟩)
              | inr t =>
                simp only [hsm]
                refine (item_bulk deep hdp V s at2 rb w b r hl2 iv true hint hL' hb rfl hm2 (by simpa using hin) (P.length : Nat) (fun tt w2 => tt = ⟨t.toArray⟩ ∧ S4 V w2 rb s (at2 + iv.toNat + 2) 0 ∧ at2 + iv.toNat + 2 ≤ s.size ∧ w.grownBy w2 (some rb)) _ (fun w1 r1 g1 => ?_) (fun tt w2 hG => ?_)).mono fun e w' he => fin he
                · have := hB68 w1 r1
                  rw [hsm] at this
                  exact this.mono fun e w' ⟨he, r2, f2, g2⟩ => ⟨_, he, rfl, r2, f2, grown_trans g1 g2⟩
                · obtain ⟨rfl, r2, f2, g2⟩ := hG
                  exact leaf_add 4 0 ⟨t.toArray⟩ _ hBw hP (hown w2 g2) r2 g2 (.inr ⟨rfl, r.length + 3, iv.toNat + 2, rfl, by omega, f2, by simpa using hP⟩)
            · rw [if_neg (fun e => hin e.2)]
              exact (item_bulk_no2 deep hdp V s at2 rb w b r hl2 iv true hint hL' hb rfl hm2 (by simpa using hin)).mono fun e w' he => bad he
      rw [if_neg h4]
      by_cases h5 : b = 42
      · rw [if_pos h5]
        have hb : b.toNat = 42 := by rw [h5]; rfl
        rw [count_int r iv ok hint]
        cases ok with
        | false =>
          rw [if_neg (by simp)]
          exact (item_array_no1 deep hdp V s at2 rb w b r hl2 iv false hint hL' hb rfl).mono fun e w' he => bad he
        | true =>
          by_cases hin : 0 ≤ iv ∧ iv ≤ 1000
          · rw [if_pos ⟨rfl, hin⟩]
            have hn : ((iv.toNat : Nat) : Int) = iv := Int.toNat_of_nonneg hin.1
            exact item_array d (by omega) deep deep1 hdp hd1 hd V s at_ at2 rb B P w b r hl2 iv.toNat (by rw [hn]; exact hint) (by omega) hL' hb hs h2s hBw hP hown (r.length + 3) hat2.symm _ rfl
          · rw [if_neg (fun e => hin e.2)]
            exact (item_array_no2 deep hdp V s at2 rb w b r hl2 iv true hint hL' hb rfl (by simpa using hin)).mono fun e w' he => bad he
      rw [if_neg h5]
      exact (item_else deep hdp V s at2 rb w b r hl2 iv ok hint hL' (byte_of h1) (byte_of h2) (byte_of h3) (byte_of h4) (byte_of h5)).mono fun e w' he => bad he

theorem item_all : ItemOk 4 1 :=
  item_succ 3 (by decide) 1 2 (by decide) (by decide) (item_succ 2 (by decide) 2 3 (by decide) (by decide) (item_succ 1 (by decide) 3 4 (by decide) (by decide) (item_succ 0 (by decide) 4 5 (by decide) (by decide) item_zero)))
end Go.Proofs.YtcgeafdakaeicaaDoor
