/- FnReadReplies: the law's walk. -/
import Derived.Test.YtcgeafdakaeicaaDoorDrR
import Derived.Test.YtcgeafdakaeicaaDoorSame
import Derived.Test.YtcgeafdakaeicaaDoorTx
import Derived.Deep.RegionHeld3
namespace Go.Proofs.YtcgeafdakaeicaaDoor
open Go.RowKit Go.Sort
open Rp (Nd nd0 plainB numB fieldsB)

theorem big_any (a : Option Addr) (n c : Nat) (w : World) : Calls Tryd.prog 7 #[.slice a n c] w fun e w' => e = .returned (.bool (decide ((1048576 : Int) < (n : Int)))) ∧ w' = w := by
  go_enter Tryd.func7, Tryd.ntmps7
  go_wp2
  go_ret
  exact ⟨rfl, rfl⟩

theorem reads_no (ra : Option Addr) (rn rc : Nat) (w : World) (hbig : 1048576 < rn) :
    Calls Tryd.prog 4 #[.slice ra rn rc] w fun e w' => e = .returned (.bool true) ∧ Below w.heap.size w w' := by
  have hd : decide ((1048576 : Int) < (rn : Int)) = true := decide_eq_true (by omega)
  go_enter Tryd.func4, Tryd.ntmps4
  go_wp2_with fail
  refine (big_any ra rn rc w).mono ?_
  rintro e w1 ⟨rfl, rfl⟩
  rw [hd]
  go_wp2
  go_ret
  exact ⟨rfl, Below.refl _ _⟩

theorem resps_nil (w : World) : Rp.RespsIn w none 0 0 0 [] := ⟨rfl, fun h => by omega, fun h => by omega, fun i hi => by omega, fun i hi => by omega⟩

theorem resps_drewN {w : World} {a : Option Addr} {b off n q : Nat} {L : List Nd} (h : Rp.RespsIn w a b off n L) : Rp.RespsIn (w.drewN q) a b off n L := Rp.resps_below h (below_drewN (Below.refl _ _) q)

/-- What is read of a text: right nodes, whose text is the bytes that were used. -/
structure ReadT (s : ByteArray) (ns : List Nd) (u m : Nat) : Prop where
  len : ns.length = m
  m1000 : m ≤ 1000
  fit : u ≤ s.size
  small : ∀ x ∈ ns, Sm x
  ok : ∀ (a : Option Addr) (b c : Nat) (W : World), Rp.RespsIn W a b 0 m ns → Calls Tryd.prog 11 #[.slice a m c] W fun e w' => e = .returned (.bool true) ∧ Below W.heap.size W w'
  text : ∀ (a : Option Addr) (b c : Nat) (W : World), Rp.RespsIn W a b 0 m ns → Ready W → Calls Tryd.prog 9 #[.slice a m c] W fun e w' => e = .returned (.string (s.extract 0 u)) ∧ Below W.heap.size W w'

theorem readT_of (s : ByteArray) (ns : List Nd) (u : Nat) (hm : replyM 4 s.data.toList 0 = .inr (ns, u)) : ReadT s ns u ns.length := by
  obtain ⟨hok, h1, h2⟩ := reply_right _ _ _ hm
  have hsm := reply_small 4 (by omega) _ _ _ _ hm
  have hkk := small_kids hsm
  obtain ⟨t1, t2, t3⟩ := reply_text _ _ _ _ _ hm
  have ht := t3 [] [] rfl
  rw [List.nil_append, List.append_nil, Nat.zero_add] at ht
  have hib : Rp.implB ns = true := by rw [Rp.same_look]; exact hok
  have hO : ∀ (a : Option Addr) (b c : Nat) (W : World), Rp.RespsIn W a b 0 ns.length ns → Calls Tryd.prog 11 #[.slice a ns.length c] W fun e w' => e = .returned (.bool true) ∧ Below W.heap.size W w' := fun a b c W h => by
    have := Rp.impl_all a b 0 ns.length c ns W h hkk
    rw [hib] at this
    exact this
  have hs : s.extract 0 u = ⟨(Rp.respText ns).toArray⟩ := by
    refine str_of _ _ ?_
    rw [Lib.extract_data, Rp.respText, if_pos hok, ht]
    simp
  refine ⟨rfl, h2, by rw [Lib.size_eq]; exact t2, hsm, hO, fun a b c W h hr => ?_⟩
  rw [hs]
  exact Rp.implText11 a b 0 ns.length c ns W h hkk hr.tab (by have := hr.six; omega) (by rw [hok]; exact hO a b c W h)

set_option maxHeartbeats 1000000 in
set_option maxRecDepth 100000 in
theorem reads_walk (ra : Option Addr) (rn rc : Nat) (w : World) (hn : rn ≤ 9223372036854775807) (hb : BytesIn w ra rn w.heap.size) (hr : Ready w) :
    Calls Tryd.prog 4 #[.slice ra rn rc] w fun e w' => e = .returned (.bool true) ∧ Below w.heap.size w w' := by
  by_cases hbig : 1048576 < rn
  · exact reads_no ra rn rc w hbig
  · have hd : decide ((1048576 : Int) < (rn : Int)) = false := decide_eq_false (by omega)
    have HR : Hid (Ready w) := hr
    have hsix := hr.six
    clear hr
    go_enter Tryd.func4, Tryd.ntmps4
    go_wp2_with fail
    refine (big_any ra rn rc w).mono ?_
    rintro e w0 ⟨rfl, rfl⟩
    rw [hd]
    clear hd
    go_wp2_with fail
    refine (drawRead ra rn rc w0 hn hb).mono ?_
    rintro e w1 ⟨s, rfl, hs, b1⟩
    have s1 := b1.size
    have R1 : Hid (Ready w1) := HR.out.below (b1.mono hsix)
    have HI := readResp_any s w1 (by omega) R1.out
    have HSP : ∀ W, Calls Tryd.prog 16 #[.string s] W (fun e w' => RespEnd W (replyM 4 s.data.toList 0) e w') := fun W => specRead_any s W (by omega)
    clear hb HR
    cases hm : replyM 4 s.data.toList 0 with
    | inl c =>
      rw [hm] at HI HSP
      have HI' : Hid (Calls Tryd.prog 13 #[.string s] w1 fun e w' => e = .returned (.tuple #[.slice none 0 0, .int .i64 0, .int .i64 c]) ∧ Below w1.heap.size w1 w') := HI
      have HSP' : Hid (∀ W, Calls Tryd.prog 16 #[.string s] W fun e w' => e = .returned (.tuple #[.slice none 0 0, .int .i64 0, .int .i64 c]) ∧ Below W.heap.size W w') := HSP
      have hcz : (c != 0) = true := by simpa using reply_code 4 _ _ c hm
      clear HI HSP hm
      go_wp2_with fail
      refine HI'.out.mono ?_
      rintro e w2 ⟨rfl, b2⟩
      have bb2 := b1.trans (b2.mono s1)
      have s2 := b2.size
      go_wp2_with fail
      refine (HSP'.out w2).mono ?_
      rintro e w3 ⟨rfl, b3⟩
      have bb3 := bb2.trans (b3.mono (by omega))
      have HX : Hid (Calls Tryd.prog 14 #[.slice none 0 0, .slice none 0 0] w3 fun e w' => e = .returned (.bool true) ∧ ∃ q, w' = w3.drewN q) := sameResp_any none none 0 0 0 0 0 0 0 [] w3 (resps_nil w3) (resps_nil w3) (by omega) (fun i hi => by omega)
      clear b2 b3 bb2 b1
      go_wp2_with fail
      refine HX.out.mono ?_
      rintro e w4 ⟨rfl, q, rfl⟩
      go_wp2
      go_ret
      exact ⟨rfl, below_drewN bb3 _⟩
    | inr p =>
      obtain ⟨ns, u⟩ := p
      rw [hm] at HI HSP
      obtain ⟨m, hmm⟩ : ∃ m, ns.length = m := ⟨_, rfl⟩
      have HT : Hid (ReadT s ns u m) := by unfold Hid; rw [← hmm]; exact readT_of s ns u hm
      have hm1000 := HT.out.m1000
      have u1 : (u : Int) ≤ (s.size : Int) := by have := HT.out.fit; omega
      have u0 : (0 : Int) ≤ (u : Int) := by omega
      have hkk : Hid (∀ i, i < m → (ns.getD i nd0).kids.length ≤ 1048576) := by
        unfold Hid
        have := small_kids HT.out.small
        rw [hmm] at this
        exact this
      have step : ∀ (W W' : World) (V : Value) (P : List Nv), P.map Prod.fst = ns → OwnN W' W.heap.size V P → ∃ a b c, V = .slice a m c ∧ Rp.RespsIn W' a b 0 m ns := fun W W' V P hP ho => by
        have := resps_of_own ho hP HT.out.small
        rw [hmm] at this
        exact this
      have HI' : Hid (Calls Tryd.prog 13 #[.string s] w1 fun e w' => ∃ a b c, e = .returned (.tuple #[.slice a m c, .int .i64 u, .int .i64 0]) ∧ Rp.RespsIn w' a b 0 m ns ∧ Below w1.heap.size w1 w') := HI.mono (by
        rintro e w' ⟨V, P, hP, rfl, ho, hb⟩
        obtain ⟨a, b, c, rfl, hi⟩ := step _ _ _ _ hP ho
        exact ⟨a, b, c, rfl, hi, hb⟩)
      have HSP' : Hid (∀ W, Calls Tryd.prog 16 #[.string s] W fun e w' => ∃ a b c, e = .returned (.tuple #[.slice a m c, .int .i64 u, .int .i64 0]) ∧ Rp.RespsIn w' a b 0 m ns ∧ Below W.heap.size W w') := fun W => (HSP W).mono (by
        rintro e w' ⟨V, P, hP, rfl, ho, hb⟩
        obtain ⟨a, b, c, rfl, hi⟩ := step _ _ _ _ hP ho
        exact ⟨a, b, c, rfl, hi, hb⟩)
      clear HI HSP hm hmm step
      go_wp2_with fail
      refine HI'.out.mono ?_
      rintro e w2 ⟨a2, B2, c2, rfl, i2, b2⟩
      have bb2 := b1.trans (b2.mono s1)
      have s2 := b2.size
      have I2 : Hid (Rp.RespsIn w2 a2 B2 0 m ns) := i2
      have R2 : Hid (Ready w2) := R1.out.below (b2.mono (by omega))
      clear i2 b2 b1 R1
      go_wp2_with fail
      refine (HSP'.out w2).mono ?_
      rintro e w3 ⟨a3, B3, c3, rfl, i3, b3⟩
      have bb3 := bb2.trans (b3.mono (by omega))
      have s3 := b3.size
      have I23 : Hid (Rp.RespsIn w3 a2 B2 0 m ns) := Rp.resps_below I2.out b3
      have R3 : Hid (Ready w3) := R2.out.below (b3.mono (by omega))
      have HX : Hid (Calls Tryd.prog 14 #[.slice a2 m c2, .slice a3 m c3] w3 fun e w' => e = .returned (.bool true) ∧ ∃ q, w' = w3.drewN q) := sameResp_any a2 a3 B2 0 B3 0 m c2 c3 ns w3 I23.out i3 (by omega) hkk.out
      clear i3 b3 bb2 I2 R2
      go_wp2_with fail
      refine HX.out.mono ?_
      rintro e w4 ⟨rfl, q, rfl⟩
      have I4 : Hid (Rp.RespsIn (w3.drewN q) a2 B2 0 m ns) := resps_drewN I23.out
      have bb4 := below_drewN bb3 q
      have R4 : Hid (Ready (w3.drewN q)) := R3.out.below (below_drewN (Below.refl _ _) q)
      have s4 : w0.heap.size ≤ (w3.drewN q).heap.size := by show w0.heap.size ≤ w3.heap.size; omega
      have s46 : 6 ≤ (w3.drewN q).heap.size := by omega
      clear HX I23 R3 bb3
      generalize w3.drewN q = w4 at *
      have HA : Hid (∀ W, Below w4.heap.size w4 W → Calls Tryd.prog 11 #[.slice a2 m c2] W fun e w' => e = .returned (.bool true) ∧ Below w4.heap.size w4 w') := fun W hb => (HT.out.ok a2 B2 c2 W (Rp.resps_below I4.out hb)).mono fun e w' ⟨he, h⟩ => ⟨he, hb.trans (h.mono hb.size)⟩
      have HB : Hid (∀ W, Below w4.heap.size w4 W → Calls Tryd.prog 9 #[.slice a2 m c2] W fun e w' => e = .returned (.string (s.extract 0 u)) ∧ Below w4.heap.size w4 w') := fun W hb => (HT.out.text a2 B2 c2 W (Rp.resps_below I4.out hb) (R4.out.below (hb.mono s46))).mono fun e w' ⟨he, h⟩ => ⟨he, hb.trans (h.mono hb.size)⟩
      have BB : Hid (∀ W, Below w4.heap.size w4 W → Below w0.heap.size w0 W) := fun W hb => bb4.trans (hb.mono s4)
      have bx : Below w4.heap.size w4 w4.drew := below_drewN (Below.refl _ _) 1
      clear HT I4 R4 bb4 hkk
      go_upto_region 8 with fail
      go_region_held3 (fun _ => True)
        (exact True.intro)
        (first
          | (go_at_call 11
             refine (HA.out _ bx).mono ?_
             rintro e wx ⟨rfl, b1⟩
             have bx := b1)
          | (go_at_call 9
             refine (HB.out _ bx).mono ?_
             rintro e wx ⟨rfl, b1⟩
             have bx := b1))
      all_goals go_wp2
      all_goals go_ret
      all_goals exact ⟨rfl, BB.out _ bx⟩
end Go.Proofs.YtcgeafdakaeicaaDoor
