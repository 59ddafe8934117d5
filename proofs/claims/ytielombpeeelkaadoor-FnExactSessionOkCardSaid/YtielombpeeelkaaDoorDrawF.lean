/- The two pieces that FnFed is tried at, drawn. -/
import Derived.Test.YtielombpeeelkaaDoorDrawH
import Derived.Test.YtielombpeeelkaaDoorSpFed
namespace Go.Proofs.YtielombpeeelkaaDoor
open Go.RowKit Go.Sort

set_option maxHeartbeats 1000000 in
theorem once_any (rb : Nat) (a : Option Addr) (n c : Nat) (m : Int) (w : World) (h : Rd w rb a n c) (hm : 1 < m) (hm2 : m ≤ 65536) :
    Calls Tryd.prog 24 #[.pointer (some ⟨rb, 0, none⟩), .int .i64 m] w fun e w' => ∃ b : Bool, e = .returned (.bool b) ∧ Rd w' rb a n c ∧ w.grownBy w' (some rb) := by
  go_enter Tryd.func24, Tryd.ntmps24
  go_wp2_with fail
  refine (below_any rb a n c m w h hm hm2).mono ?_
  rintro e w1 ⟨k, rfl, k0, k1, r1, b1⟩
  go_wp2
  go_ret
  exact ⟨_, rfl, r1, b1⟩

/-- The reader in the world that the drawing has come to. -/
structure Now (w : World) (rb : Nat) (a : Option Addr) (n c : Nat) (W : World) : Prop where
  rd : Rd W rb a n c
  lt : rb < W.heap.size
  gr : w.grownBy W (some rb)

theorem Now.next {w : World} {rb : Nat} {a : Option Addr} {n c : Nat} {W W' : World} (h : Now w rb a n c W) (r : Rd W' rb a n c) (g : W.grownBy W' (some rb)) : Now w rb a n c W' :=
  ⟨r, grown_lt h.lt g, grown_trans h.gr g⟩

theorem Now.below {w : World} {rb : Nat} {a : Option Addr} {n c : Nat} {W W' : World} (h : Now w rb a n c W) (b : Below W.heap.size W W') : Now w rb a n c W' :=
  ⟨h.rd.below b h.lt, Nat.lt_of_lt_of_le h.lt b.size, grown_below h.gr b⟩

set_option maxHeartbeats 4000000 in
set_option maxRecDepth 100000 in
theorem drawFed (ra : Option Addr) (rn rc : Nat) (w0 : World) (hn : rn ≤ 9223372036854775807) (hb : BytesIn w0 ra rn w0.heap.size) :
    Calls Tryd.prog 7 #[.slice ra rn rc] w0 fun e w' => ∃ a b : ByteArray, e = .returned (.tuple #[.string a, .string b]) ∧ a.size ≤ 30000 ∧ b.size ≤ 30000 ∧ Below w0.heap.size w0 w' := by
  go_enter Tryd.func7, Tryd.ntmps7
  go_wp2_with fail
  refine (open_any ra rn rc w0 hn hb).mono ?_
  rintro e w ⟨rfl, r0, b0⟩
  have s0 : w0.heap.size < w.heap.size := by
    obtain ⟨p, _, hr⟩ := r0.row
    exact hr.lt
  generalize hE : w0.heap.size = rb at *
  have fin : Hid (∀ W, w.grownBy W (some rb) → Below w0.heap.size w0 W) := fun W g => by
    rw [hE]
    exact b0.trans (below_of_grown g (Nat.le_refl _) (by omega))
  clear hE
  go_wp2_with fail
  refine (pick_any rb ra rn rc 4 w r0 (by omega) (by omega)).mono ?_
  rintro e w1 ⟨k, rfl, hk, r1, g1⟩
  have n1 : Now w rb ra rn rc w1 := ⟨r1, grown_lt s0 g1, g1⟩
  clear r1 g1 r0 s0 b0 hb
  go_wp2_with fail
  go_loopw [5, 6] (fun sv i wr => ∃ (t : ByteArray) (j : Nat), sv = .string t ∧ i = .int .i64 j ∧ j ≤ 4 ∧ t.size + 5010 * j ≤ 20040 ∧ Now w rb ra rn rc wr) (fun _ i _ => (intOf i).toNat)
  case atStart => exact ⟨⟨#[]⟩, 1 + k, rfl, by go_num, by omega, by show 0 + 5010 * (1 + k) ≤ 20040; omega, n1⟩
  case round =>
    obtain ⟨t, j, rfl, rfl, hj, ht, nw⟩ := hrel
    clear n1
    by_cases h0 : 0 < j
    · have hd : (0 : Int) < (j : Int) := by omega
      go_wp2_with fail
      refine (args_any rb ra rn rc wr nw.rd nw.lt).mono ?_
      rintro e w2 ⟨x, B, off, cap, ss, rfl, hs, hl, r2, g2⟩
      have n2 := nw.next r2 g2
      go_wp2_with fail
      refine (specText x B off ss.length cap ss w2 hs (by omega)).mono ?_
      rintro e w3 ⟨rfl, b3⟩
      have n3 := n2.below b3
      have hlen := req_len ss
      have hsz : (⟨(reqText ss).toArray⟩ : ByteArray).size ≤ 5000 := by rw [size_mk]; exact hlen
      generalize (⟨(reqText ss).toArray⟩ : ByteArray) = v at *
      have e1 : (t ++ v).size = t.size + v.size := ByteArray.size_append
      go_wp2_with fail
      refine (once_any rb ra rn rc 4 w3 n3.rd (by omega) (by omega)).mono ?_
      rintro e w4 ⟨b4, rfl, r4, g4⟩
      have n4 := n3.next r4 g4
      generalize t ++ v = u at *
      cases b4 with
      | false =>
        go_wp2
        go_roundw
        case rel => exact ⟨u, j - 1, rfl, by go_num, by omega, by omega, n4⟩
        case measure => simp [intOf]; omega
      | true =>
        have e2 : (u ++ (⟨#[80, 73, 78, 71, 13, 10]⟩ : ByteArray)).size = u.size + 6 := by rw [ByteArray.size_append]; rfl
        go_wp2
        go_roundw
        case rel => exact ⟨_, j - 1, rfl, by go_num, by omega, by rw [e2]; omega, n4⟩
        case measure => simp [intOf]; omega
    · have hd : ¬ (0 : Int) < (j : Int) := by omega
      have htz : t.size ≤ 20040 := by omega
      clear h0 hj ht
      go_wp2_with fail
      refine (once_any rb ra rn rc 4 wr nw.rd (by omega) (by omega)).mono ?_
      rintro e w2 ⟨b2, rfl, r2, g2⟩
      have n2 := nw.next r2 g2
      clear nw r2 g2
      cases b2 with
      | false =>
        have HP := pick_any rb ra rn rc (t.size + 1) w2 n2.rd (by omega) (by omega)
        have e1 : ((t.size + 1 : Nat) : Int) = (t.size : Int) + 1 := by omega
        rw [e1] at HP
        go_wp2_with fail
        refine HP.mono ?_
        clear HP e1
        rintro e w5 ⟨z, rfl, hz, r5, g5⟩
        have n5 := n2.next r5 g5
        have z0 : (0 : Int) ≤ (z : Int) := by omega
        have z1 : (z : Int) ≤ (t.size : Int) := by omega
        have HSF := specFed ⟨#[]⟩ (t.extract 0 z) w5 (by simp only [ByteArray.size_extract]; show 0 + _ ≤ _; omega)
        have hll := fed_len ((⟨#[]⟩ : ByteArray).data.toList ++ (t.extract 0 z).data.toList)
        have hl2 : ((⟨#[]⟩ : ByteArray).data.toList ++ (t.extract 0 z).data.toList).length ≤ t.size := by
          rw [List.length_append, ← Lib.size_eq, ← Lib.size_eq, ByteArray.size_extract]
          show 0 + _ ≤ _
          omega
        have hl3 : (⟨(fedM ((⟨#[]⟩ : ByteArray).data.toList ++ (t.extract 0 z).data.toList)).2.1.toArray⟩ : ByteArray).size ≤ t.size := by rw [size_mk]; omega
        clear hll hl2
        unfold FedEnd at HSF
        generalize (⟨(fedM ((⟨#[]⟩ : ByteArray).data.toList ++ (t.extract 0 z).data.toList)).2.1.toArray⟩ : ByteArray) = left at *
        generalize (fedM ((⟨#[]⟩ : ByteArray).data.toList ++ (t.extract 0 z).data.toList)).2.2 = okk at *
        generalize (fedM ((⟨#[]⟩ : ByteArray).data.toList ++ (t.extract 0 z).data.toList)).1 = LL at *
        go_wp2_with fail
        refine HSF.mono ?_
        rintro e w6 ⟨v6, xs6, rfl, _, b6⟩
        have n6 := n5.below b6
        clear HSF r5 g5 n5 b6
        go_wp2
        go_quiet ((fail))
        go_wp2
        go_ret2
        exact ⟨_, _, rfl, by omega, by simp only [ByteArray.size_extract]; omega, fin.out _ (grown_trans n6.gr (grown_drewN _ _ _))⟩
      | true =>
        go_wp2_with fail
        refine (hurt_any rb ra rn rc t w2 n2.rd n2.lt (by omega)).mono ?_
        rintro e w3 ⟨u, rfl, hu, r3, g3⟩
        have n3 := n2.next r3 g3
        clear r3 g3
        have HP := pick_any rb ra rn rc (u.size + 1) w3 n3.rd (by omega) (by omega)
        have e1 : ((u.size + 1 : Nat) : Int) = (u.size : Int) + 1 := by omega
        rw [e1] at HP
        go_wp2_with fail
        refine HP.mono ?_
        clear HP e1
        rintro e w5 ⟨z, rfl, hz, r5, g5⟩
        have n5 := n3.next r5 g5
        have z0 : (0 : Int) ≤ (z : Int) := by omega
        have z1 : (z : Int) ≤ (u.size : Int) := by omega
        have HSF := specFed ⟨#[]⟩ (u.extract 0 z) w5 (by simp only [ByteArray.size_extract]; show 0 + _ ≤ _; omega)
        have hll := fed_len ((⟨#[]⟩ : ByteArray).data.toList ++ (u.extract 0 z).data.toList)
        have hl2 : ((⟨#[]⟩ : ByteArray).data.toList ++ (u.extract 0 z).data.toList).length ≤ u.size := by
          rw [List.length_append, ← Lib.size_eq, ← Lib.size_eq, ByteArray.size_extract]
          show 0 + _ ≤ _
          omega
        have hl3 : (⟨(fedM ((⟨#[]⟩ : ByteArray).data.toList ++ (u.extract 0 z).data.toList)).2.1.toArray⟩ : ByteArray).size ≤ u.size := by rw [size_mk]; omega
        clear hll hl2
        unfold FedEnd at HSF
        generalize (⟨(fedM ((⟨#[]⟩ : ByteArray).data.toList ++ (u.extract 0 z).data.toList)).2.1.toArray⟩ : ByteArray) = left at *
        generalize (fedM ((⟨#[]⟩ : ByteArray).data.toList ++ (u.extract 0 z).data.toList)).2.2 = okk at *
        generalize (fedM ((⟨#[]⟩ : ByteArray).data.toList ++ (u.extract 0 z).data.toList)).1 = LL at *
        go_wp2_with fail
        refine HSF.mono ?_
        rintro e w6 ⟨v6, xs6, rfl, _, b6⟩
        have n6 := n5.below b6
        clear HSF r5 g5 n5 b6
        go_wp2
        go_quiet ((fail))
        go_wp2
        go_ret2
        exact ⟨_, _, rfl, by omega, by simp only [ByteArray.size_extract]; omega, fin.out _ (grown_trans n6.gr (grown_drewN _ _ _))⟩
end Go.Proofs.YtielombpeeelkaaDoor
