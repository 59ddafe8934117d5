/- impl.ranksFrom: ranks out of texts. -/
import Derived.Test.YticajcagcdbgpaaGreatDoorV2
import Derived.Test.YticajcagcdbgpaaGreatDoorK18
namespace Go.Proofs.YticajcagcdbgpaaGreatDoor
open Go.RowKit Go.Sort
open Kk (Rk rk0 texL texR decS scoreB rightB ranksB OwnR flatR encR)

theorem intOf_any (s : ByteArray) (w : World) (hs : s.size ≤ 1048576) (hr : Ready w) :
    Calls Tryz.prog 45 #[.string s] w fun e w' => e = .returned (.tuple #[.int .i64 ((decM s.data.toList).getD 0), .bool (decM s.data.toList).isSome]) ∧ Below w.heap.size w w' := by
  have HC : Hid (Calls Tryz.prog 47 #[.string s] w fun e w' => e = .returned (.tuple #[.int .i64 ((decM s.data.toList).getD 0), .bool (decM s.data.toList).isSome]) ∧ Below w.heap.size w w') := decimal_any s w hs hr
  generalize (decM s.data.toList).getD 0 = z at *
  generalize (decM s.data.toList).isSome = o at *
  go_enter Tryz.func45, Tryz.ntmps45
  go_wp2_with fail
  refine HC.out.mono ?_
  rintro e w1 ⟨rfl, b1⟩
  go_wp2
  go_ret2
  exact ⟨rfl, b1⟩

def RanksEnd (w : World) (T : Option (List Rk)) (e : Ending) (w' : World) : Prop :=
  ∃ v, e = .returned (.tuple #[v, .bool T.isSome]) ∧ (∀ rs, T = some rs → ∃ u, v = .iface 74 u ∧ OwnR w' w.heap.size u rs) ∧ Below w.heap.size w w'

def preR (acc : List Rk) (T : Option (List Rk)) : Option (List Rk) := T.map fun rs => acc ++ rs

theorem preR_nil (T : Option (List Rk)) : preR [] T = T := by cases T <;> simp [preR]

set_option maxHeartbeats 4000000 in
set_option maxRecDepth 100000 in
theorem ranksFrom_any (a : Option Addr) (b off n c : Nat) (ts : List ByteArray) (w : World) (h : StrsIn w a b off n ts) (hz : ∀ t ∈ ts, t.size ≤ 1048576) (hn : n ≤ 1048576) (hc : n ≤ c) (hc2 : c ≤ 9223372036854775807) (hr : Ready w) :
    Calls Tryz.prog 37 #[.slice a n c] w (RanksEnd w (rankDec ts)) := by
  obtain ⟨i0, hi, hz0, hz1, hz2⟩ := info_parts Kk.info30
  obtain ⟨T, hT⟩ : ∃ T, rankDec ts = T := ⟨_, rfl⟩
  have HT : Hid (T = preR [] (rankDec ts)) := by unfold Hid; rw [preR_nil, hT]
  rw [hT]
  have H0 : Hid (StrsIn w a b off n ts) := h
  have HZ : Hid (∀ t ∈ ts, t.size ≤ 1048576) := hz
  have HR : Hid (Ready w) := hr
  have hsix := hr.six
  clear h hz hr hT
  go_enter Tryz.func37, Tryz.ntmps37
  go_wp2
  go_loopw [0, 4] (fun r v wr => ∃ (x : Option Addr) (o m d : Nat) (rest : List ByteArray) (acc : List Rk), r = .slice x m d ∧ m ≤ n ∧ m ≤ d ∧ d ≤ 9223372036854775807 ∧ StrsIn wr x b o m rest ∧ (∀ t ∈ rest, t.size ≤ 1048576) ∧ (0 < m → b < w.heap.size) ∧ acc.length ≤ n - m ∧ T = preR acc (rankDec rest) ∧ OwnR wr w.heap.size v acc ∧ Below w.heap.size w wr) (fun r _ _ => lenV r)
  case atStart => exact ⟨a, off, n, c, ts, [], rfl, Nat.le_refl _, hc, hc2, H0.out, HZ.out, H0.out.low, by simp, HT.out, Kk.ownR_nil _ _, Below.refl _ _⟩
  case round =>
    obtain ⟨x, o, m, d, rest, acc, rfl, hm, hmd, hd2, hs, hzz, hlow, hacc, hpu, hown, bk⟩ := hrel
    have sk := bk.size
    clear H0 HZ HT
    by_cases h2 : 2 ≤ m
    · obtain rfl := hs.addr (by omega)
      have hrl := hs.len
      match rest, hrl, hs, hzz, hpu with
      | [], hrl, _, _, _ => simp at hrl; omega
      | [_], hrl, _, _, _ => simp at hrl; omega
      | p :: q :: rest, hrl, hs, hzz, hpu =>
        have c0 := hs.cell 0 (by omega)
        have c1 := hs.cell 1 (by omega)
        simp at c0 c1
        have hbl := hlow (by omega)
        have h0n : 0 < m := by omega
        have h1n : 1 < m := by omega
        have h0i : (0 : Int) < (m : Int) := by omega
        have h1i : (1 : Int) < (m : Int) := by omega
        have h2i : (2 : Int) ≤ (m : Int) := by omega
        have hlt : b < wr.heap.size := hs.low (by omega)
        have HC := intOf_any q wr (hzz q (by simp)) (HR.out.below (bk.mono hsix))
        cases hd : decM q.data.toList with
        | none =>
          rw [hd] at HC
          have HC' : Hid (Calls Tryz.prog 45 #[.string q] wr fun e w' => e = .returned (.tuple #[.int .i64 0, .bool false]) ∧ Below wr.heap.size wr w') := HC
          have HE : Hid (T = none) := by unfold Hid; rw [hpu]; simp [rankDec, hd, preR]
          clear HC hs hpu hown
          go_wp2_with fail
          refine HC'.out.mono ?_
          rintro e w1 ⟨rfl, b1⟩
          have b01 := bk.trans (b1.mono sk)
          go_wp2
          go_ret2
          exact ⟨.nilIface, ret_tb (by rw [HE.out]; rfl), fun rs h => (by rw [HE.out] at h; cases h), b01⟩
        | some z =>
          rw [hd] at HC
          have HC' : Hid (Calls Tryz.prog 45 #[.string q] wr fun e w' => e = .returned (.tuple #[.int .i64 z, .bool true]) ∧ Below wr.heap.size wr w') := HC
          have HPU : Hid (T = preR (acc ++ [⟨p, z⟩]) (rankDec rest)) := by
            unfold Hid
            rw [hpu]
            simp only [rankDec, hd, preR]
            cases rankDec rest <;> simp
          have HS : Hid (StrsIn wr (some ⟨b, o, none⟩) b o m (p :: q :: rest)) := hs
          have HZ : Hid (∀ t ∈ rest, t.size ≤ 1048576) := fun t ht => hzz t (by simp [ht])
          have HL : Hid (rest.length + 2 = m) := by unfold Hid; simpa using hrl
          clear HC hs hpu hzz hrl hd
          go_wp2_with fail
          refine HC'.out.mono ?_
          rintro e w1 ⟨rfl, b1⟩
          have b01 := bk.trans (b1.mono sk)
          have s1 := b1.size
          have o1 : OwnR w1 w.heap.size u4 acc := owns_below hown b1
          have e0 := (b1.cell (p := ⟨b, o, none⟩) hlt).trans c0
          have hac : acc.length ≤ 1048576 := by omega
          clear hown c0 c1 b1
          go_wp2_with (at_builtin; refine wpList_append_own _ rfl _ _ 74 rfl w.heap.size 54 i0 _ 2 24 Tryz.underlying74 hi hz0 hz1 hz2 rfl (by decide) _ _ _ rfl (o1.alloc _) ⟨w1.heap.size, 0, none⟩ 1 1 [.string p, .int .i64 z] rfl rfl ?c1 ?c2 ?c3 ?c4 ?c5 ?_)
          case c1 =>
            intro j u hj
            rw [Addr.add_lit, Nat.zero_add]
            exact ((RowAt.new w1 54 #[.string p, .int .i64 z]).cell j).trans (by simpa using hj)
          case c2 => intro y hy; simp at hy; rcases hy with rfl | rfl <;> rfl
          case c3 => unfold maxLen; omega
          case c4 => omega
          case c5 => simp; omega
          intro v' w5 hown' hgrow _
          have b05 : Hid (Below w.heap.size w w5) := below_own b01 (by omega) o1 hgrow
          have O5 : Hid (OwnR w5 w.heap.size v' (acc ++ [⟨p, z⟩])) := by
            unfold Hid OwnR
            rw [List.length_append, Kk.flatR_app]
            exact hown'
          have S5 : Hid (StrsIn w5 (if d = 2 then some ⟨b, o, none⟩ else some ⟨b, o + 2, none⟩) b (o + 2) (m - 2) rest) := by
            refine ⟨by have := HL.out; omega, fun hp => if_neg (by omega), fun _ => by have := b05.out.size; omega, fun i hi => ?_, fun i hi => ?_⟩
            · have := HS.out.cell (i + 2) (by omega)
              rw [show o + (i + 2) = o + 2 + i from by omega] at this
              have e1 := (b05.out.cell (p := ⟨b, o + 2 + i, none⟩) hbl).trans ((bk.cell (p := ⟨b, o + 2 + i, none⟩) hbl).symm.trans this)
              simpa using e1
            · have := HS.out.fit (i + 2) (by omega)
              simpa using this
          clear hown' hgrow o1 b01 bk
          go_wp2
          go_roundw
          case rel => exact ⟨_, o + 2, m - 2, d - 2, rest, acc ++ [⟨p, z⟩], rfl, by omega, by omega, by omega, S5.out, HZ.out, fun _ => hbl, by rw [List.length_append, List.length_singleton]; omega, HPU.out, O5.out, b05.out⟩
          case measure => simp [lenV]; omega
    · have hlt : ¬ (2 : Int) ≤ (m : Int) := by omega
      have HE : Hid (((m : Int) == 0) = T.isSome ∧ ∀ rs, T = some rs → rs = acc) := by
        have hrl := hs.len
        unfold Hid
        rw [hpu]
        match rest, hrl with
        | [], hrl => simp at hrl; subst hrl; simp [rankDec, preR]
        | [_], hrl => simp at hrl; subst hrl; simp [rankDec, preR]
        | _ :: _ :: _, hrl => simp at hrl; omega
      clear hs hpu
      go_wp2
      go_ret2
      exact ⟨_, ret_tb HE.out.1, fun rs h => ⟨u4, rfl, by rw [HE.out.2 rs h]; exact hown⟩, bk⟩
end Go.Proofs.YticajcagcdbgpaaGreatDoor
