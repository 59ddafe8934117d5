/- FnExactReadResp: the law's walk. -/
import Derived.Test.YtcgeafdakaeicaaDoorMkC
import Derived.Test.YtcgeafdakaeicaaDoorRpEq
namespace Go.Proofs.YtcgeafdakaeicaaDoor
open Go.RowKit Go.Sort
open Rp (Nd nd0 plainB numB fieldsB)

def resOf : Rep → List Nd × Int × Int
  | .inl c => ([], 0, c)
  | .inr (ns, u) => (ns, u, 0)

def ResAt (w : World) (L : List Nd) (u c : Int) (e : Ending) (w' : World) : Prop := ∃ V P, e = .returned (.tuple #[V, .int .i64 u, .int .i64 c]) ∧ P.map Prod.fst = L ∧ OwnN w' w.heap.size V P ∧ Below w.heap.size w w'

theorem RespEnd.own {w : World} {m : Rep} {e : Ending} {w' : World} (h : RespEnd w m e w') : ResAt w (resOf m).1 (resOf m).2.1 (resOf m).2.2 e w' := by
  match m, h with
  | .inl c, ⟨he, hb⟩ => exact ⟨_, [], he, rfl, ⟨World.ownsRow_nil _ _ _ _, by simp, List.Pairwise.nil⟩, hb⟩
  | .inr (ns, u), ⟨V, P, hP, he, ho, hb⟩ => exact ⟨V, P, he, hP, ho, hb⟩

theorem resOf_small (l : List UInt8) : (resOf (replyM 4 l 0)).1.length ≤ 1000 ∧ ∀ x ∈ (resOf (replyM 4 l 0)).1, Sm x := by
  cases hm : replyM 4 l 0 with
  | inl c => exact ⟨by simp [resOf], fun x hx => by simp [resOf] at hx⟩
  | inr q =>
    obtain ⟨ns, u⟩ := q
    exact ⟨(reply_right _ _ _ hm).2.2, reply_small 4 (by omega) _ _ _ _ hm⟩

theorem eq_own {w : World} {B B' : Nat} {V V' : Value} {P P' : List Nv} {L : List Nd} (h : OwnN w B V P) (h' : OwnN w B' V' P') (hP : P.map Prod.fst = L) (hP' : P'.map Prod.fst = L) (hn : L.length ≤ 1000) (hs : ∀ x ∈ L, Sm x) :
    Calls Tryd.prog 19 #[V, V'] w fun e w' => e = .returned (.bool true) ∧ Below w.heap.size w w' := by
  obtain ⟨a, b, c, rfl, i1⟩ := resps_of_own h hP hs
  obtain ⟨a', b', c', rfl, i2⟩ := resps_of_own h' hP' hs
  exact Rp.eqResps a a' b 0 b' 0 L.length c c' L w i1 i2 (by omega) (fun i hi => by
    have := hs (L.getD i nd0) (by rw [List.getD_eq_getElem?_getD, List.getElem?_eq_getElem hi]; simp)
    unfold Sm at this
    omega)

theorem own_keep {w w' : World} {B B' : Nat} {V : Value} {P : List Nv} (h : OwnN w B V P) (hw : w.heap.size ≤ B') (hb : ∀ k, k < B' → w'.heap[k]? = w.heap[k]?) : OwnN w' B V P :=
  h.of_block (fun g hg => hb g (by have := (own_lt h.row hg).2; omega)) (fun p hp g hg => hb g (by have := (own_lt (h.kids p hp) hg).2; omega))

set_option maxHeartbeats 4000000 in
set_option maxRecDepth 100000 in
theorem readResp_walk (s : ByteArray) (w : World) (hs : s.size ≤ 9223372036854775807) (hr : Ready w) :
    Calls Tryd.prog 6 #[.string s] w fun e w' => e = .returned (.bool true) ∧ Below w.heap.size w w' := by
  by_cases hbig : 1048576 < s.size
  · have hbi : (1048576 : Int) < (s.size : Int) := by omega
    go_enter Tryd.func6, Tryd.ntmps6
    go_wp2
    go_ret
    exact ⟨rfl, Below.refl _ _⟩
  · have hbi : ¬ (1048576 : Int) < (s.size : Int) := by omega
    have hs2 : s.size ≤ 1048576 := by omega
    have hsix := hr.six
    obtain ⟨hsm, hsz⟩ := resOf_small s.data.toList
    have HSP : Hid (∀ w, Calls Tryd.prog 16 #[.string s] w (ResAt w (resOf (replyM 4 s.data.toList 0)).1 (resOf (replyM 4 s.data.toList 0)).2.1 (resOf (replyM 4 s.data.toList 0)).2.2)) := fun w => (specRead_any s w hs2).mono fun _ _ h => h.own
    have HIM : Hid (∀ w, Ready w → Calls Tryd.prog 13 #[.string s] w (ResAt w (resOf (replyM 4 s.data.toList 0)).1 (resOf (replyM 4 s.data.toList 0)).2.1 (resOf (replyM 4 s.data.toList 0)).2.2)) := fun w hr => (readResp_any s w hs2 hr).mono fun _ _ h => h.own
    generalize (resOf (replyM 4 s.data.toList 0)).2.1 = ru at *
    generalize (resOf (replyM 4 s.data.toList 0)).2.2 = rc at *
    generalize (resOf (replyM 4 s.data.toList 0)).1 = L at *
    have HZ : Hid (∀ x ∈ L, Sm x) := hsz
    have HN : Hid (L.length ≤ 1000) := hsm
    clear hsz hsm
    go_enter Tryd.func6, Tryd.ntmps6
    go_wp2_with fail
    refine (HSP.out w).mono ?_
    rintro e w1 ⟨v1, P1, rfl, hP1, o1, b1⟩
    have s1 := b1.size
    have R1 : Hid (Ready w1) := hr.below (b1.mono hsix)
    obtain ⟨x1, y1, hf1⟩ := own_form o1.row
    have O1 : Hid (OwnN w1 w.heap.size v1 P1) := o1
    have F1 : Hid (v1 = .slice x1 P1.length y1) := hf1
    clear o1 hf1
    go_wp2_with fail
    refine (HIM.out w1 R1.out).mono ?_
    rintro e w2 ⟨v2, P2, rfl, hP2, o2, b2⟩
    have s2 := b2.size
    have bb2 := b1.trans (b2.mono s1)
    have HEQ : Hid (Calls Tryd.prog 19 #[v2, v1] w2 fun e w' => e = .returned (.bool true) ∧ Below w2.heap.size w2 w') := eq_own o2 (O1.out.below b2 (Nat.le_refl _)) hP2 hP1 HN.out HZ.out
    have O2 : Hid (OwnN w2 w1.heap.size v2 P2) := o2
    have hp2 : P2.length ≤ 1000 := by have := HN.out; rw [← hP2, List.length_map] at this; exact this
    have HK2 : Hid (∀ p ∈ P2, p.1.kids.length ≤ 1000) := fun p hp => (HZ.out p.1 (by rw [← hP2]; exact List.mem_map_of_mem hp)).2
    clear o2
    go_wp2_with fail
    refine HEQ.out.mono ?_
    rintro e w3 ⟨rfl, b3⟩
    have s3 := b3.size
    have bb3 := bb2.trans (b3.mono (by omega))
    have hM := markResps w1.heap.size v2 P2 w3 (O2.out.below b3 (Nat.le_refl _)) (by omega) hp2 HK2.out
    obtain ⟨q, hq⟩ : ∃ q : Nat, endK 1 P2 = q := ⟨_, rfl⟩
    rw [hq] at hM
    have HQ : Hid (endK 1 P2 = q) := hq
    have HM : Hid (Calls Tryd.prog 20 #[v2, .int .i64 1] w3 fun e w' => e = .returned (.int .i64 (q : Nat)) ∧ OwnN w' w1.heap.size v2 (mkAll 1 P2) ∧ Below w1.heap.size w3 w') := hM
    clear hM hq HEQ
    go_wp2_with fail
    refine HM.out.mono ?_
    rintro e w4 ⟨rfl, o4, b4⟩
    have s4 := b4.size
    have bb4 := bb3.trans (b4.mono s1)
    have hH := heldResps w1.heap.size v2 P2 w4 o4 hp2 HK2.out
    rw [HQ.out] at hH
    have HH : Hid (Calls Tryd.prog 21 #[v2, .int .i64 1] w4 fun e w' => e = .returned (.int .i64 (q : Nat)) ∧ Below w4.heap.size w4 w') := hH
    have O4 : Hid (OwnN w4 w1.heap.size v2 (mkAll 1 P2)) := o4
    have K1 : Hid (OwnN w4 w.heap.size v1 P1) := own_keep O1.out (Nat.le_refl _) (fun k hk => (b4.block k hk).trans ((b3.block k (by omega)).trans (b2.block k hk)))
    clear hH o4 HM
    go_wp2_with fail
    refine HH.out.mono ?_
    rintro e w5 ⟨rfl, b5⟩
    have s5 := b5.size
    have bb5 := bb4.trans (b5.mono (by omega))
    have R5 : Hid (Ready w5) := hr.below (bb5.mono hsix)
    have hge : decide (((q : Nat) : Int) < 0) = false := by simp
    clear HH
    go_wp2_with fail
    refine (HIM.out w5 R5.out).mono ?_
    rintro e w6 ⟨v3, P3, rfl, hP3, o3, b6⟩
    have s6 := b6.size
    have bb6 := bb5.trans (b6.mono (by omega))
    have b46 : Below w4.heap.size w4 w6 := b5.trans (b6.mono s5)
    have HEQ : Hid (Calls Tryd.prog 19 #[v3, v1] w6 fun e w' => e = .returned (.bool true) ∧ Below w6.heap.size w6 w') := eq_own o3 (K1.out.below b46 (Nat.le_refl _)) hP3 hP1 HN.out HZ.out
    clear o3
    go_wp2_with fail
    refine HEQ.out.mono ?_
    rintro e w7 ⟨rfl, b7⟩
    have s7 := b7.size
    have bb7 := bb6.trans (b7.mono (by omega))
    have b47 : Below w4.heap.size w4 w7 := b46.trans (b7.mono (by omega))
    have hH := heldResps w1.heap.size v2 P2 w7 (O4.out.below b47 (Nat.le_refl _)) hp2 HK2.out
    rw [HQ.out] at hH
    have HH : Hid (Calls Tryd.prog 21 #[v2, .int .i64 1] w7 fun e w' => e = .returned (.int .i64 (q : Nat)) ∧ Below w7.heap.size w7 w') := hH
    clear hH HEQ
    go_wp2_with fail
    refine HH.out.mono ?_
    rintro e w8 ⟨rfl, b8⟩
    have bb8 := bb7.trans (b8.mono (by omega))
    go_wp2
    go_ret
    exact ⟨rfl, bb8⟩
end Go.Proofs.YtcgeafdakaeicaaDoor
