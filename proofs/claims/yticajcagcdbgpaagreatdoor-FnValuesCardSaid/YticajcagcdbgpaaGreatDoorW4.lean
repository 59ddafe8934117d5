/- The specification's ValueBytes. -/
import Derived.Test.YticajcagcdbgpaaGreatDoorW3
import Derived.Deep.RegionHeld3
namespace Go.Proofs.YticajcagcdbgpaaGreatDoor
open Go.RowKit Go.Sort
open Kk (Rk rk0 texL texR decS scoreB rightB ranksB OwnR flatR encR)

abbrev vC (k : Int) (t : ByteArray) (vi vp vr : Value) : Array Value := #[.int .i64 k, .string t, vi, vp, vr]

theorem row5 {W : World} {g : Nat} {k : Int} {t : ByteArray} {vi vp vr : Value} (h : RowAt W g 28 (vC k t vi vp vr)) : W.cell? ⟨g, 0, none⟩ = some (.int .i64 k) ∧ W.cell? ⟨g, 1, none⟩ = some (.string t) ∧ W.cell? ⟨g, 2, none⟩ = some vi ∧ W.cell? ⟨g, 3, none⟩ = some vp ∧ W.cell? ⟨g, 4, none⟩ = some vr :=
  ⟨h.cell 0, h.cell 1, h.cell 2, h.cell 3, h.cell 4⟩

set_option maxHeartbeats 2000000 in
set_option maxRecDepth 100000 in
theorem specBytes_no (v : Vl) (vi vp vr : Value) (B : Nat) (w : World) (h : VOwn w B v vi vp vr) (hf : VFit v) (hok : vokB v = false) :
    Calls Tryz.prog 8 #[vlV v.kind v.text vi vp vr] w fun e w' => e = .returned (.string ⟨(vbytes v).toArray⟩) ∧ Below w.heap.size w w' := by
  have HE : Hid (vbytes v = []) := by unfold Hid vbytes; rw [hok]; rfl
  have hb : ∀ o, Below w.heap.size w (w.alloc o) := fun o => (Below.refl _ w).alloc (Nat.le_refl _) _
  have HO : Hid (∀ o, Calls Tryz.prog 10 #[vlV v.kind v.text vi vp vr] (w.alloc o) fun e w' => e = .returned (.bool false) ∧ Below (w.alloc o).heap.size (w.alloc o) w') := fun o => by
    have := specOk_any v vi vp vr B (w.alloc o) (h.below (hb o)) hf
    rw [hok] at this
    exact this
  obtain ⟨ai, ci, hvi⟩ := owns_form h.items
  obtain ⟨ap, cp, hvp⟩ := owns_form h.pairs
  obtain ⟨ar, cr, hvr⟩ := owns_form h.ranks
  have HB : Hid (∀ o, Below w.heap.size w (w.alloc o)) := hb
  clear h hb hok hf
  subst hvi hvp hvr
  go_enter Tryz.func8, Tryz.ntmps8
  go_wp2_with fail
  refine (HO.out _).mono ?_
  rintro e w1 ⟨rfl, b1⟩
  have b2 := (HB.out _).trans (b1.mono (by simp))
  clear b1
  go_wp2
  go_ret
  exact ⟨ret_str (by rw [HE.out]), b2⟩

set_option maxHeartbeats 4000000 in
set_option maxRecDepth 100000 in
theorem specBytes_text (v : Vl) (vi vp vr : Value) (B : Nat) (w : World) (h : VOwn w B v vi vp vr) (hf : VFit v) (hok : vokB v = true) (hk : v.kind = 1) :
    Calls Tryz.prog 8 #[vlV v.kind v.text vi vp vr] w fun e w' => e = .returned (.string ⟨(vbytes v).toArray⟩) ∧ Below w.heap.size w w' := by
  have hsm := (small_of_ok hok).text
  have HE : Hid ((⟨#[49]⟩ : ByteArray) ++ twoS v.text = ⟨(vbytes v).toArray⟩) := by
    unfold Hid vbytes
    rw [hok, if_pos rfl, if_pos hk, hk]
    exact str_app [49] (oneT v.text)
  have hb : ∀ o, Below w.heap.size w (w.alloc o) := fun o => (Below.refl _ w).alloc (Nat.le_refl _) _
  have HO : Hid (∀ o, Calls Tryz.prog 10 #[vlV v.kind v.text vi vp vr] (w.alloc o) fun e w' => e = .returned (.bool true) ∧ Below (w.alloc o).heap.size (w.alloc o) w') := fun o => by
    have := specOk_any v vi vp vr B (w.alloc o) (h.below (hb o)) hf
    rw [hok] at this
    exact this
  obtain ⟨ai, ci, hvi⟩ := owns_form h.items
  obtain ⟨ap, cp, hvp⟩ := owns_form h.pairs
  obtain ⟨ar, cr, hvr⟩ := owns_form h.ranks
  have HB : Hid (∀ o, Below w.heap.size w (w.alloc o)) := hb
  have hts := twoS_size v.text
  have HT : Hid (∀ W, Calls Tryz.prog 20 #[.string v.text] W fun e w' => e = .returned (.string (twoS v.text)) ∧ Below W.heap.size W w') := fun W => l4TwoS v.text W hsm
  generalize vbytes v = R at *
  generalize v.text = t at *
  generalize v.items.length = ni at *
  generalize v.pairs.length = np at *
  generalize v.ranks.length = nr at *
  clear h hb hok hf
  subst hvi hvp hvr
  rw [hk] at HO ⊢
  clear hk
  have HZ : Hid (RowAt (w.alloc (.cells (vC 1 t (.slice ai ni ci) (.slice ap np cp) (.slice ar nr cr)) 28)) w.heap.size 28 (vC 1 t (.slice ai ni ci) (.slice ap np cp) (.slice ar nr cr))) := RowAt.new w 28 _
  go_enter Tryz.func8, Tryz.ntmps8
  go_wp2_with fail
  refine (HO.out _).mono ?_
  rintro e w1 ⟨rfl, b1⟩
  have b2 := (HB.out _).trans (b1.mono (by simp))
  have hz : RowAt w1 w.heap.size 28 (vC 1 t (.slice ai ni ci) (.slice ap np cp) (.slice ar nr cr)) := RowAt.below HZ.out b1 (by simp)
  have hlt := hz.lt
  have hcv := conv_one w1 49 (by omega) (by omega)
  have b3 : Below w1.heap.size w1 (w1.alloc (.cells #[.int .u8 49] 5)) := (Below.refl _ w1).alloc (Nat.le_refl _) _
  obtain ⟨c0, c1, c2, c3, c4⟩ := row5 hz
  have hz3 : RowAt (w1.alloc (.cells #[.int .u8 49] 5)) w.heap.size 28 (vC 1 t (.slice ai ni ci) (.slice ap np cp) (.slice ar nr cr)) := RowAt.below hz b3 hlt
  obtain ⟨d0, d1, d2, d3, d4⟩ := row5 hz3
  have b03 := b2.trans (b3.mono (by omega))
  have s3 := b3.size
  have hd : ¬ 9223372036854775807 < 1 + (twoS t).size := by omega
  clear b1 HZ HB hz hz3 b2 b3
  go_wp2_with fail
  refine (HT.out _).mono ?_
  rintro e w4 ⟨rfl, b4⟩
  have b04 := b03.trans (b4.mono (by omega))
  clear b03 b4
  go_wp2
  go_ret
  exact ⟨ret_str HE.out, b04⟩
end Go.Proofs.YticajcagcdbgpaaGreatDoor
