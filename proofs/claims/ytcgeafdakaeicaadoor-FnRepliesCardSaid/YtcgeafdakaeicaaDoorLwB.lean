/- FnReplies: the law's walk. -/
import Derived.Test.YtcgeafdakaeicaaDoorDrO
import Derived.Test.YtcgeafdakaeicaaDoorLwA
import Derived.Test.YtcgeafdakaeicaaDoorBkTree
namespace Go.Proofs.YtcgeafdakaeicaaDoor
open Go.RowKit Go.Sort
open Rp (Nd nd0 plainB numB fieldsB)
open Bk (right_back right_len)

theorem empty_no {s : ByteArray} (h : 0 < s.size) : s.toList.isEmpty = false := by
  rw [ByteArray.toList_eq]
  rw [Lib.size_eq] at h
  cases hd : s.data.toList with
  | nil => rw [hd] at h; cases h
  | cons b r => rfl

theorem empty_yes {s : ByteArray} (h : s.size = 0) : s.toList.isEmpty = true := by
  rw [ByteArray.toList_eq]
  rw [Lib.size_eq] at h
  cases hd : s.data.toList with
  | nil => rfl
  | cons b r => rw [hd] at h; cases h

theorem replies_no (ra : Option Addr) (rn rc : Nat) (w : World) (hbig : 1048576 < rn) :
    Calls Tryd.prog 3 #[.slice ra rn rc] w fun e w' => e = .returned (.bool true) ∧ Below w.heap.size w w' := by
  have hd : decide ((1048576 : Int) < (rn : Int)) = true := decide_eq_true (by omega)
  go_enter Tryd.func3, Tryd.ntmps3
  go_wp2_with fail
  refine (big_any ra rn rc w).mono ?_
  rintro e w1 ⟨rfl, rfl⟩
  rw [hd]
  go_wp2
  go_ret
  exact ⟨rfl, Below.refl _ _⟩

/-- What is asked of the nodes that were drawn, and of their text. -/
structure Wrote (L : List Nd) (t : ByteArray) (m : Nat) (o : Bool) : Prop where
  small : t.size ≤ 12000
  len : L.length = m
  pos : o = true → 0 < t.size
  nil : o = false → t.size = 0
  kids : ∀ i, i < m → (L.getD i nd0).kids.length ≤ 1048576
  impl : ∀ (a : Option Addr) (b c : Nat) (W : World), Rp.RespsIn W a b 0 m L → Ready W → Calls Tryd.prog 9 #[.slice a m c] W fun e w' => e = .returned (.string t) ∧ Below W.heap.size W w'
  spec : ∀ (a : Option Addr) (b c : Nat) (W : World), Rp.RespsIn W a b 0 m L → Calls Tryd.prog 10 #[.slice a m c] W fun e w' => e = .returned (.string t) ∧ Below W.heap.size W w'
  implOk : ∀ (a : Option Addr) (b c : Nat) (W : World), Rp.RespsIn W a b 0 m L → Calls Tryd.prog 11 #[.slice a m c] W fun e w' => e = .returned (.bool o) ∧ Below W.heap.size W w'
  specOk : ∀ (a : Option Addr) (b c : Nat) (W : World), Rp.RespsIn W a b 0 m L → Calls Tryd.prog 12 #[.slice a m c] W fun e w' => e = .returned (.bool o) ∧ Below W.heap.size W w'
  back : ∀ (W : World), Ready W → o = true → Calls Tryd.prog 13 #[.string (t ++ ⟨#[116, 97, 105, 108]⟩)] W fun e w' => ∃ a b c, e = .returned (.tuple #[.slice a m c, .int .i64 t.size, .int .i64 0]) ∧ Rp.RespsIn w' a b 0 m L ∧ Below W.heap.size W w'
  cut : ∀ (W : World) (k : Nat), Ready W → o = true → k < t.size → Calls Tryd.prog 13 #[.string (t.extract 0 k)] W fun e w' => e = .returned (.tuple #[.slice none 0 0, .int .i64 0, .int .i64 1]) ∧ Below W.heap.size W w'

theorem wrote_of (L : List Nd) (hsm : ∀ x ∈ L, Sm x) (hl : L.length ≤ 40) : Wrote L ⟨(Rp.respText L).toArray⟩ L.length (Rp.specB L) := by
  have hkk := small_kids hsm
  have hlen := resp_len L hsm hl
  have hio : ∀ (a : Option Addr) (b c : Nat) (W : World), Rp.RespsIn W a b 0 L.length L → Calls Tryd.prog 11 #[.slice a L.length c] W fun e w' => e = .returned (.bool (Rp.specB L)) ∧ Below W.heap.size W w' := fun a b c W h => by
    have := Rp.impl_all a b 0 L.length c L W h hkk
    rw [Rp.same_look] at this
    exact this
  have hso : ∀ (a : Option Addr) (b c : Nat) (W : World), Rp.RespsIn W a b 0 L.length L → Calls Tryd.prog 12 #[.slice a L.length c] W fun e w' => e = .returned (.bool (Rp.specB L)) ∧ Below W.heap.size W w' := fun a b c W h => Rp.spec_all a b 0 L.length c L W h (by omega) hkk
  have htext : Rp.specB L = true → Rp.respText L = Rp.text L (L.length - 1) := fun h => if_pos h
  refine ⟨by rw [size_mk]; exact hlen, rfl, fun h => by rw [size_mk, htext h]; exact right_len L h, fun h => by rw [size_mk, Rp.respText, if_neg (by rw [h]; decide)]; rfl, hkk, ?_, ?_, hio, hso, ?_, ?_⟩
  · exact fun a b c W h hr => Rp.implText11 a b 0 L.length c L W h hkk hr.tab (by have := hr.six; omega) (hio a b c W h)
  · exact fun a b c W h => Rp.specText9 a b 0 L.length c L W h (by omega) hkk (hso a b c W h)
  · intro W hr h
    have e : ((⟨(Rp.respText L).toArray⟩ : ByteArray) ++ ⟨#[116, 97, 105, 108]⟩).data.toList = Rp.text L (L.length - 1) ++ [116, 97, 105, 108] := by rw [← htext h]; simp
    have hrd := readResp_any ((⟨(Rp.respText L).toArray⟩ : ByteArray) ++ ⟨#[116, 97, 105, 108]⟩) W (by rw [ByteArray.size_append, size_mk]; show _ + 4 ≤ _; omega) hr
    rw [e, (right_back L h).1] at hrd
    refine hrd.mono ?_
    rintro e w' ⟨V, P, hP, rfl, ho, hb⟩
    obtain ⟨a, b, c, rfl, hi⟩ := resps_of_own ho hP hsm
    exact ⟨a, b, c, by rw [size_mk, htext h], hi, hb⟩
  · intro W k hr h hk
    rw [size_mk, htext h] at hk
    have e : ((⟨(Rp.respText L).toArray⟩ : ByteArray).extract 0 k).data.toList = (Rp.text L (L.length - 1)).take k := by
      rw [Lib.extract_data, htext h]
      simp
    have hrd := readResp_any ((⟨(Rp.respText L).toArray⟩ : ByteArray).extract 0 k) W (by rw [ByteArray.size_extract, size_mk]; omega) hr
    rw [e, (right_back L h).2 k hk] at hrd
    exact hrd

set_option maxHeartbeats 2000000 in
set_option maxRecDepth 100000 in
theorem replies_walk (ra : Option Addr) (rn rc : Nat) (w : World) (hn : rn ≤ 9223372036854775807) (hb : BytesIn w ra rn w.heap.size) (hr : Ready w) :
    Calls Tryd.prog 3 #[.slice ra rn rc] w fun e w' => e = .returned (.bool true) ∧ Below w.heap.size w w' := by
  by_cases hbig : 1048576 < rn
  · exact replies_no ra rn rc w hbig
  · have hd : decide ((1048576 : Int) < (rn : Int)) = false := decide_eq_false (by omega)
    have HR : Hid (Ready w) := hr
    have hsix := hr.six
    clear hr
    go_enter Tryd.func3, Tryd.ntmps3
    go_wp2_with fail
    refine (big_any ra rn rc w).mono ?_
    rintro e w0 ⟨rfl, rfl⟩
    rw [hd]
    clear hd
    go_wp2_with fail
    refine (drawText ra rn rc w0 hn hb).mono ?_
    rintro e w1 ⟨V, P, rfl, o1, hsm, hl, b1⟩
    have s1 := b1.size
    have R1 : Hid (Ready w1) := HR.out.below (b1.mono hsix)
    have hsmL : ∀ x ∈ P.map Prod.fst, Sm x := fun x hx => by
      obtain ⟨p, hp, rfl⟩ := List.mem_map.1 hx
      exact hsm p hp
    obtain ⟨x, B, cap, rfl, i1⟩ := resps_of_own o1 rfl hsmL
    have hlL : (P.map Prod.fst).length ≤ 40 := by simpa using hl
    have hW := wrote_of (P.map Prod.fst) hsmL hlL
    generalize P.map Prod.fst = L at *
    obtain ⟨t, ht⟩ : ∃ t : ByteArray, t = ⟨(Rp.respText L).toArray⟩ := ⟨_, rfl⟩
    obtain ⟨o, ho⟩ : ∃ o : Bool, o = Rp.specB L := ⟨_, rfl⟩
    obtain ⟨m, hm⟩ : ∃ m, L.length = m := ⟨_, rfl⟩
    rw [← ht, ← ho, hm] at hW
    rw [hm] at i1 hlL ⊢
    have HW : Hid (Wrote L t m o) := hW
    have hts := hW.small
    have I1 : Hid (Rp.RespsIn w1 x B 0 m L) := i1
    clear ht ho hm hW i1 hb HR hsm hsmL hl o1
    go_wp2_with fail
    refine (HW.out.impl x B cap w1 I1.out R1.out).mono ?_
    rintro e w2 ⟨rfl, b2⟩
    have s2 := b2.size
    have bb2 := b1.trans (b2.mono s1)
    have I2 : Hid (Rp.RespsIn w2 x B 0 m L) := Rp.resps_below I1.out b2
    have R2 : Hid (Ready w2) := R1.out.below (b2.mono (by omega))
    clear b2 b1 I1 R1
    go_wp2_with fail
    refine (HW.out.spec x B cap w2 I2.out).mono ?_
    rintro e w3 ⟨rfl, b3⟩
    have s3 := b3.size
    have bb3 := bb2.trans (b3.mono (by omega))
    have I3 : Hid (Rp.RespsIn w3 x B 0 m L) := Rp.resps_below I2.out b3
    have R3 : Hid (Ready w3) := R2.out.below (b3.mono (by omega))
    clear b3 bb2 I2 R2
    go_wp2_with fail
    refine (HW.out.implOk x B cap w3 I3.out).mono ?_
    rintro e w4 ⟨rfl, b4⟩
    have s4 := b4.size
    have bb4 := bb3.trans (b4.mono (by omega))
    have I4 : Hid (Rp.RespsIn w4 x B 0 m L) := Rp.resps_below I3.out b4
    have R4 : Hid (Ready w4) := R3.out.below (b4.mono (by omega))
    clear b4 bb3 I3 R3
    go_wp2_with fail
    refine (HW.out.specOk x B cap w4 I4.out).mono ?_
    rintro e w5 ⟨rfl, b5⟩
    have s5 := b5.size
    have bb5 := bb4.trans (b5.mono (by omega))
    have I5 : Hid (Rp.RespsIn w5 x B 0 m L) := Rp.resps_below I4.out b5
    have R5 : Hid (Ready w5) := R4.out.below (b5.mono (by omega))
    clear b5 bb4 I4 R4
    cases o with
    | false =>
      have h0 := HW.out.nil rfl
      have he := empty_yes h0
      go_wp2_with fail
      refine (HW.out.implOk x B cap w5 I5.out).mono ?_
      rintro e w6 ⟨rfl, b6⟩
      have bb6 := bb5.trans (b6.mono (by omega))
      go_wp2
      go_ret
      exact ⟨rfl, bb6⟩
    | true =>
      have hpos := HW.out.pos rfl
      have he := empty_no (s := t) hpos
      go_wp2_with fail
      refine (HW.out.implOk x B cap w5 I5.out).mono ?_
      rintro e w6 ⟨rfl, b6⟩
      have s6 := b6.size
      have bb6 := bb5.trans (b6.mono (by omega))
      have I6 : Hid (Rp.RespsIn w6 x B 0 m L) := Rp.resps_below I5.out b6
      have R6 : Hid (Ready w6) := R5.out.below (b6.mono (by omega))
      have hd2 : ¬ 9223372036854775807 < t.size + 4 := by omega
      clear b6 bb5 I5 R5
      go_wp2_with fail
      refine (HW.out.back w6 R6.out rfl).mono ?_
      rintro e w7 ⟨a7, B7, c7, rfl, i7, b7⟩
      have s7 := b7.size
      have bb7 := bb6.trans (b7.mono (by omega))
      have I7 : Hid (Rp.RespsIn w7 x B 0 m L) := Rp.resps_below I6.out b7
      have J7 : Hid (Rp.RespsIn w7 a7 B7 0 m L) := i7
      have R7 : Hid (Ready w7) := R6.out.below (b7.mono (by omega))
      have hrem : Int.tmod (rn : Int) (t.size : Int) = ((rn % t.size : Nat) : Int) := by
        rw [Int.tmod_eq_emod_of_nonneg (by omega)]; rfl
      have hk := Nat.mod_lt rn hpos
      generalize rn % t.size = k at *
      have k0 : (0 : Int) ≤ (k : Int) := by omega
      have k1 : (k : Int) ≤ (t.size : Int) := by omega
      have hz : ¬ (t.size : Int) = 0 := by omega
      clear b7 bb6 I6 R6 i7
      go_wp2_with fail
      refine (HW.out.cut w7 k R7.out rfl hk).mono ?_
      rintro e w8 ⟨rfl, b8⟩
      have bb8 := bb7.trans (b8.mono (by omega))
      have HX : Hid (Calls Tryd.prog 14 #[.slice a7 m c7, .slice x m cap] w8 fun e w' => e = .returned (.bool true) ∧ ∃ q, w' = w8.drewN q) := sameResp_any a7 x B7 0 B 0 m c7 cap L w8 (Rp.resps_below J7.out b8) (Rp.resps_below I7.out b8) (by omega) HW.out.kids
      clear b8 bb7 I7 J7 R7
      go_wp2_with fail
      refine HX.out.mono ?_
      rintro e w9 ⟨rfl, q, rfl⟩
      go_wp2
      go_ret
      exact ⟨rfl, below_drewN bb8 _⟩
end Go.Proofs.YtcgeafdakaeicaaDoor
