/- spec.DrawValueBytes, spec.DrawReadValue. -/
import Derived.Test.YticajcagcdbgpaaGreatDoorD5
import Derived.Test.YticajcagcdbgpaaGreatDoorM1
namespace Go.Proofs.YticajcagcdbgpaaGreatDoor
open Go.RowKit Go.Sort
open Kk (Rk rk0 texL texR decS scoreB rightB ranksB OwnR flatR encR FitL)

theorem Small.fits {v : Vl} (h : Small v) : VFit v := ⟨by have := h.text; omega, by have := h.ni; omega, by have := h.np; omega, by have := h.nr; omega⟩

theorem vbytes_len (v : Vl) : (vbytes v).length ≤ 50000 := by
  cases hv : vokB v with
  | false => unfold vbytes; rw [hv]; simp
  | true =>
    have hs := small_of_ok hv
    unfold vbytes
    rw [hv, if_pos rfl, List.length_cons]
    split
    · have e : oneT v.text = encT [v.text] := by simp [encT]
      rw [e]
      have := encT_len [v.text] (fun t ht => by simp at ht; subst ht; exact hs.text)
      simp at this
      omega
    · have h1 : ∀ t ∈ vtexts v, t.size ≤ 200 := by
        intro t ht
        unfold vtexts at ht
        rcases List.mem_append.1 ht with ht | ht
        · exact hs.items t ht
        · rcases List.mem_append.1 ht with ht | ht
          · exact flatP_short hs.pairs t ht
          · exact texL_short hs.ranks t ht
      have h2 := encT_len _ h1
      have h3 : (vtexts v).length ≤ 100 := by
        unfold vtexts
        rw [List.length_append, List.length_append, flatP_len, Kk.texL_len]
        have := hs.ni
        have := hs.np
        have := hs.nr
        omega
      omega

def DrawB (w : World) (e : Ending) (w' : World) : Prop :=
  ∃ v vi vp vr, e = .returned (vlV v.kind v.text vi vp vr) ∧ VOwn w' w.heap.size v vi vp vr ∧ Small v ∧ Below w.heap.size w w'

set_option maxHeartbeats 2000000 in
set_option maxRecDepth 100000 in
theorem drawV_any (a : Option Addr) (n c : Nat) (w : World) (hn : n ≤ 9223372036854775807) (hb : BytesIn w a n w.heap.size) :
    Calls Tryz.prog 5 #[.slice a n c] w (DrawB w) := by
  have b0 : Below w.heap.size w (w.alloc (.cells z5 28)) := (Below.refl _ w).alloc (Nat.le_refl _) _
  have s0 : (w.alloc (.cells z5 28)).heap.size = w.heap.size + 1 := by simp
  have hb1 : BytesIn (w.alloc (.cells z5 28)) a n (w.alloc (.cells z5 28)).heap.size := by
    have := hb.below b0
    exact ⟨fun h => by obtain ⟨x, o, h1, h2, h3⟩ := this.cell h; exact ⟨x, o, h1, by omega, h3⟩⟩
  have HO : Hid (Calls Tryz.prog 14 #[.slice a n c] (w.alloc (.cells z5 28)) fun e w' => e = .returned (.pointer (some ⟨w.heap.size + 1, 0, none⟩)) ∧ Rd w' (w.heap.size + 1) a n c ∧ Below (w.heap.size + 1) (w.alloc (.cells z5 28)) w') := by
    have := open_any a n c (w.alloc (.cells z5 28)) hn hb1
    rw [s0] at this
    exact this
  have HR : Hid (RowAt (w.alloc (.cells z5 28)) w.heap.size 28 z5) := RowAt.new w 28 z5
  have B0 : Hid (Below w.heap.size w (w.alloc (.cells z5 28))) := b0
  clear b0 hb1 s0 hb
  go_enter Tryz.func5, Tryz.ntmps5
  go_wp2_with fail
  refine HO.out.mono ?_
  rintro e w1 ⟨rfl, r1, b1⟩
  have l1 : w.heap.size + 1 < w1.heap.size := by obtain ⟨p, _, hr⟩ := r1.row; exact hr.lt
  have res1 := RowAt.below HR.out b1 (by omega)
  have bb1 : Hid (Below w.heap.size w w1) := B0.out.trans (b1.mono (by omega))
  have HV : Hid (Calls Tryz.prog 15 #[.pointer (some ⟨w.heap.size + 1, 0, none⟩)] w1 (DrawV w1 (w.heap.size + 1) a n c)) := value_any _ a n c w1 r1 l1
  have R1 : Hid (RowAt w1 w.heap.size 28 z5) := res1
  clear r1 b1 res1 HO HR B0
  go_wp2_with fail
  refine HV.out.mono ?_
  rintro e w2 ⟨v, vi, vp, vr, rfl, ho, hs, _, g2⟩
  have res2 := row_read R1.out g2 (by omega)
  have bb2 : Below w.heap.size w w2 := bb1.out.trans (grown_keep g2 (by omega) (by omega))
  obtain ⟨a1, c1, e1⟩ := owns_form ho.items
  obtain ⟨a2, c2, e2⟩ := owns_form ho.pairs
  obtain ⟨a3, c3, e3⟩ := owns_form ho.ranks
  have HE : Hid (∀ u0 u1 u2 u3 u4, DrawB w (.returned (vlV v.kind v.text vi vp vr)) (res5 w2 u0 u1 u2 u3 u4 w.heap.size)) := fun u0 u1 u2 u3 u4 => by
    have hk := fun k (hk : k ≠ w.heap.size) => res5_block w2 u0 u1 u2 u3 u4 w.heap.size k hk
    exact ⟨v, vi, vp, vr, rfl, ⟨own_up (owns_block ho.items fun g hg => hk g (by have := (own_lt ho.items hg).1; omega)) (by omega), own_up (owns_block ho.pairs fun g hg => hk g (by have := (own_lt ho.pairs hg).1; omega)) (by omega), own_up (owns_block ho.ranks fun g hg => hk g (by have := (own_lt ho.ranks hg).1; omega)) (by omega)⟩, hs, res5_below bb2 _ _ _ _ _ _ (Nat.le_refl _)⟩
  have f0 := res2.frozen 0
  have f1 := res2.frozen 1
  have f2 := res2.frozen 2
  have f3 := res2.frozen 3
  have f4 := res2.frozen 4
  have d0 := res2.cell 0
  have d1 := res2.cell 1
  have d2 := res2.cell 2
  have d3 := res2.cell 3
  have d4 := res2.cell 4
  simp at d0 d1 d2 d3 d4
  clear res2 bb2 g2 ho hs bb1 R1 HV
  generalize v.items.length = ni at *
  generalize v.pairs.length = np at *
  generalize v.ranks.length = nr at *
  subst e1 e2 e3
  generalize v.kind = k at *
  generalize v.text = t at *
  go_wp2
  exact bodyPost_ret (v := vlV k t (.slice a1 ni c1) (.slice a2 np c2) (.slice a3 nr c3)) (by simp [results, Tryz.results5, go_sem, d0, d1, d2, d3, d4]) rfl (HE.out _ _ _ _ _)

set_option maxHeartbeats 2000000 in
set_option maxRecDepth 100000 in
theorem drawT_any (a : Option Addr) (n c : Nat) (w : World) (hn : n ≤ 9223372036854775807) (hb : BytesIn w a n w.heap.size) :
    Calls Tryz.prog 12 #[.slice a n c] w fun e w' => ∃ s : ByteArray, e = .returned (.string s) ∧ s.size ≤ 1048576 ∧ Below w.heap.size w w' := by
  have HO : Hid (Calls Tryz.prog 14 #[.slice a n c] w fun e w' => e = .returned (.pointer (some ⟨w.heap.size, 0, none⟩)) ∧ Rd w' w.heap.size a n c ∧ Below w.heap.size w w') := open_any a n c w hn hb
  clear hb
  go_enter Tryz.func12, Tryz.ntmps12
  go_wp2_with fail
  refine HO.out.mono ?_
  rintro e w1 ⟨rfl, r1, b1⟩
  have l1 : w.heap.size < w1.heap.size := by obtain ⟨p, _, hr⟩ := r1.row; exact hr.lt
  have HV : Hid (Calls Tryz.prog 15 #[.pointer (some ⟨w.heap.size, 0, none⟩)] w1 (DrawV w1 w.heap.size a n c)) := value_any _ a n c w1 r1 l1
  clear HO r1
  go_wp2_with fail
  refine HV.out.mono ?_
  rintro e w2 ⟨v, vi, vp, vr, rfl, ho, hs, r2, g2⟩
  have bb2 : Below w.heap.size w w2 := b1.trans (grown_keep g2 (Nat.le_refl _) (by omega))
  have HB : Hid (Calls Tryz.prog 8 #[vlV v.kind v.text vi vp vr] w2 fun e w' => e = .returned (.string ⟨(vbytes v).toArray⟩) ∧ Below w2.heap.size w2 w') := specBytes_any v vi vp vr _ w2 ho hs.fits
  have l2 := grown_lt l1 g2
  have hlen : (⟨(vbytes v).toArray⟩ : ByteArray).size ≤ 50000 := by rw [size_mk]; exact vbytes_len v
  obtain ⟨a1, c1, e1⟩ := owns_form ho.items
  obtain ⟨a2, c2, e2⟩ := owns_form ho.pairs
  obtain ⟨a3, c3, e3⟩ := owns_form ho.ranks
  generalize v.items.length = ni at *
  generalize v.pairs.length = np at *
  generalize v.ranks.length = nr at *
  generalize (⟨(vbytes v).toArray⟩ : ByteArray) = s at *
  subst e1 e2 e3
  clear HV g2 ho hs b1
  go_wp2_with fail
  refine HB.out.mono ?_
  rintro e w3 ⟨rfl, b3⟩
  have bb3 := bb2.trans (b3.mono (by omega))
  have l3 : w.heap.size < w3.heap.size := by have := b3.size; omega
  have r3 := r2.below b3 l2
  clear r2 b3 HB
  go_wp2_with fail
  refine (hurt_any w.heap.size a n c s w3 r3 l3 (by omega)).mono ?_
  rintro e w4 ⟨t, rfl, ht, _, g4⟩
  have bb4 := bb3.trans (grown_keep g4 (Nat.le_refl _) (by omega))
  clear g4
  go_wp2
  go_ret
  exact ⟨t, rfl, by omega, bb4⟩
end Go.Proofs.YticajcagcdbgpaaGreatDoor
