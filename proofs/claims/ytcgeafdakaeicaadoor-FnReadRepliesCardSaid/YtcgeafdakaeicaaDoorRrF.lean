/- The reply's reader: reply, a node that gives up. -/
import Derived.Test.YtcgeafdakaeicaaDoorRrE
namespace Go.Proofs.YtcgeafdakaeicaaDoor
open Go.RowKit Go.Sort
open Rp (Nd nd0 plainB numB fieldsB)

set_option maxHeartbeats 1000000 in
theorem reply_gave (a : Int) (ha3 : a ≤ 3) (s : ByteArray) (at_ rb : Nat) (V : Value) (w : World) (b : UInt8) (r : List UInt8) (c : Int) (hl : r.length ≤ 1048576)
    (hline : Calls Tryd.prog 58 #[.pointer (some ⟨rb, 0, none⟩)] w fun e w' => e = .returned (.string ⟨(b :: r).toArray⟩) ∧ R3 V w' rb s (at_ + (b :: r).length + 2) ∧ w.grownBy w' (some rb))
    (hnode : ∀ w1 W, R3 V w1 rb s (at_ + (b :: r).length + 2) → w.grownBy w1 (some rb) → Below w1.heap.size w1 W → Calls Tryd.prog 60 #[.pointer (some ⟨rb, 0, none⟩), .int .u8 b.toNat, .string ⟨r.toArray⟩, .int .i64 a] W fun e w' => e = gaveUp c ∧ Fr W w' rb V) :
    Calls Tryd.prog 35 #[.pointer (some ⟨rb, 0, none⟩), .int .i64 a] w fun e w' => e = gaveUp c ∧ Fr w w' rb V := by
  have HC : Hid (Calls Tryd.prog 58 #[.pointer (some ⟨rb, 0, none⟩)] w fun e w' => e = .returned (.string ⟨(b :: r).toArray⟩) ∧ R3 V w' rb s (at_ + (b :: r).length + 2) ∧ w.grownBy w' (some rb)) := hline
  have HN : Hid (∀ w1 W, R3 V w1 rb s (at_ + (b :: r).length + 2) → w.grownBy w1 (some rb) → Below w1.heap.size w1 W → Calls Tryd.prog 60 #[.pointer (some ⟨rb, 0, none⟩), .int .u8 b.toNat, .string ⟨r.toArray⟩, .int .i64 a] W fun e w' => e = gaveUp c ∧ Fr W w' rb V) := hnode
  have he : ((⟨(b :: r).toArray⟩ : ByteArray).toList == []) = false := by rw [ByteArray.toList_eq]; rfl
  have he2 : (⟨(b :: r).toArray⟩ : ByteArray).toList.isEmpty = false := by rw [ByteArray.toList_eq]; rfl
  have hb256 : b.toNat < 256 := b.toNat_lt
  have h00 : ∀ hx, (⟨(b :: r).toArray⟩ : ByteArray)[0]'hx = b := fun _ => rfl
  have HX : (⟨(b :: r).toArray⟩ : ByteArray).extract 1 (⟨(b :: r).toArray⟩ : ByteArray).size = ⟨r.toArray⟩ := str_of _ _ (by rw [Lib.extract_data]; simp [ByteArray.size])
  have hz : (⟨(b :: r).toArray⟩ : ByteArray).size = r.length + 1 := by simp [ByteArray.size]
  generalize (⟨(b :: r).toArray⟩ : ByteArray) = t at *
  have hz0 : (0 : Int) < (t.size : Int) := by omega
  have hz1 : (1 : Int) ≤ (t.size : Int) := by omega
  have hz2 : 0 < t.size := by omega
  have HX2 : Hid (t.extract 1 t.size = ⟨r.toArray⟩) := HX
  have HZ : Hid (t.size = r.length + 1) := hz
  clear hline hnode HX hz
  go_enter Tryd.func35, Tryd.ntmps35
  go_wp2_with fail
  refine HC.out.mono ?_
  rintro e w1 ⟨rfl, r1, g1⟩
  have H1 : Hid (R3 V w1 rb s (at_ + (b :: r).length + 2)) := r1
  have hd1 : Below w1.heap.size w1 w1.drew := below_drewN (Below.refl _ _) 1
  have hd2 : Below w1.heap.size w1 (w1.alloc (.cells z4 44)).drew := below_drewN ((Below.refl _ w1).alloc (Nat.le_refl _) _) 1
  clear r1
  go_wp2_with fail
  go_region_dies
  all_goals
    go_wp2_with fail
    rw [HX2.out]
    refine (HN.out w1 _ H1.out g1 (by with_reducible first | exact hd1 | exact hd2)).mono ?_
    rintro e w2 ⟨rfl, f2⟩
    have fA := (Fr.of_grown V g1).trans ((Fr.of_below rb V (by with_reducible first | exact hd1 | exact hd2)).trans f2 (Nw.refl _ _)) (Nw.refl _ _)
    unfold gaveUp
    go_wp2
    exact ⟨rfl, rfl, fA⟩
end Go.Proofs.YtcgeafdakaeicaaDoor
