/- impl.pairsFrom: pairs out of texts. -/
import Derived.Test.YticajcagcdbgpaaGreatDoorV1
import Derived.Deep.RegionLaw
namespace Go.Proofs.YticajcagcdbgpaaGreatDoor
open Go.RowKit Go.Sort

abbrev Pr := ByteArray × ByteArray
def encP (p : Pr) : List Value := [.string p.1, .string p.2]
def flatPV (ps : List Pr) : List Value := ps.flatMap encP
abbrev OwnP (w : World) (B : Nat) (v : Value) (ps : List Pr) : Prop := w.ownsRow B 52 2 v ps.length (flatPV ps)

theorem flatPV_app (ps qs : List Pr) : flatPV (ps ++ qs) = flatPV ps ++ flatPV qs := List.flatMap_append
theorem ownP_nil (w : World) (B : Nat) : OwnP w B (.slice none 0 0) [] := World.ownsRow_nil _ _ _ _
theorem info33 : (Tryz.prog.info? 52).map (fun i => (i.zero, i.size, i.bytes)) = some (some (.agg #[.string ⟨#[]⟩, .string ⟨#[]⟩]), 2, 32) := by kernel_rfl

/-- append by its own run, as one step of a region that draws. -/
theorem step_append_run {P : Program} {ops : Array Oper} {o : Oper} {a : Act} {w w' : World} {K : Act → World → Prop} {Q : Exit → Act → World → Prop} {E : Prop} (hg : o.guard = none) (s x : Operand) (t : TypeId)
    (hop : o.op = Op.call { callee := Callee.builtin Builtin.append, args := #[s, x], argTypes := #[t, t] }) {v y v' : Value} (hs : a.eval s = v) (hx : a.eval x = y) (hr : (Builtin.append_ #[t, t] o.type #[v, y]).run P w = .ok v' w')
    (hK : K (a.put o.dst v') w') : if Region.wanted o (yielded ops a.tmps) = true then Oper.wp P o a w K Q else E := by
  have hw : Region.wanted o (yielded ops a.tmps) = true := by simp [Region.wanted, hg]
  rw [if_pos hw]
  unfold Oper.wp
  simp [execOp, hop, resolve, invoke, builtin, hs, hx, hr, Result.andThen]
  exact hK

theorem ret_tb {x : Value} {a b : Bool} (h : a = b) : Ending.returned (.tuple #[x, .bool a]) = .returned (.tuple #[x, .bool b]) := by rw [h]

theorem app_pair {w : World} {B : Nat} {V : Value} {ps : List Pr} (x y : ByteArray) (t : TypeId) (ht : Tryz.prog.underlying t = some (.slice 52)) (h : OwnP w B V ps) (hn : ps.length ≤ 1048576) (hB : B ≤ w.heap.size) :
    ∃ v' w', (Builtin.append_ #[t, t] t #[V, .slice (some ⟨w.heap.size, 0, none⟩) 1 1]).run Tryz.prog (w.alloc (.cells #[.string x, .string y] 52)) = .ok v' w' ∧ OwnP w' B v' (ps ++ [(x, y)]) ∧ Below B w w' := by
  obtain ⟨i0, hi, hz0, hz1, hz2⟩ := info_parts info33
  have hbl : Below w.heap.size w (w.alloc (.cells #[.string x, .string y] 52)) := (Below.refl _ w).alloc (Nat.le_refl _) _
  have oA := owns_below h hbl
  obtain ⟨v', w', hrun, hown, hg, _, hblk⟩ := run_append_own_at (P := Tryz.prog) (w.alloc (.cells #[.string x, .string y] 52)) B t t 52 i0 _ 2 32 ht hi hz0 hz1 hz2 rfl (by decide) V ps.length (flatPV ps) oA ⟨w.heap.size, 0, none⟩ 1 1 [.string x, .string y] rfl (fun j u hj => by
    rw [Addr.add_lit, Nat.zero_add]
    exact ((RowAt.new w 52 #[.string x, .string y]).cell j).trans (by simpa using hj)) (fun u hu => by simp at hu; rcases hu with rfl | rfl <;> rfl) (by unfold maxLen; omega) (by omega) (by simp; omega)
  refine ⟨v', w', hrun, ?_, below_own (Below.refl _ w) hB h hg⟩
  unfold OwnP
  rw [List.length_append, flatPV_app]
  exact hown

set_option maxHeartbeats 4000000 in
set_option maxRecDepth 100000 in
theorem pairsFrom_any (a : Option Addr) (b off n c : Nat) (ts : List ByteArray) (w : World) (h : StrsIn w a b off n ts) (hn : n ≤ 1048576) (hc : n ≤ c) (hc2 : c ≤ 9223372036854775807) :
    Calls Tryz.prog 36 #[.slice a n c] w fun e w' => ∃ v, e = .returned (.tuple #[.iface 73 v, .bool (decide (ts.length % 2 = 0))]) ∧ OwnP w' w.heap.size v (pairUp ts) ∧ Below w.heap.size w w' := by
  have H0 : Hid (StrsIn w a b off n ts) := h
  have HL : Hid (n = ts.length) := h.len.symm
  clear h
  go_enter Tryz.func36, Tryz.ntmps36
  go_wp2
  go_loopw [0, 4] (fun r v wr => ∃ (x : Option Addr) (o m d : Nat) (rest : List ByteArray) (acc : List Pr), r = .slice x m d ∧ m ≤ n ∧ m ≤ d ∧ d ≤ 9223372036854775807 ∧ StrsIn wr x b o m rest ∧ (0 < m → b < w.heap.size) ∧ rest.length % 2 = ts.length % 2 ∧ acc.length ≤ n - m ∧ pairUp ts = acc ++ pairUp rest ∧ OwnP wr w.heap.size v acc ∧ Below w.heap.size w wr) (fun r _ _ => lenV r)
  case atStart => exact ⟨a, off, n, c, ts, [], rfl, Nat.le_refl _, hc, hc2, H0.out, H0.out.low, rfl, by simp, rfl, ownP_nil _ _, Below.refl _ _⟩
  case round =>
    obtain ⟨x, o, m, d, rest, acc, rfl, hm, hmd, hd2, hs, hlow, hpar, hacc, hpu, hown, bk⟩ := hrel
    have sk := bk.size
    clear H0
    by_cases h2 : 2 ≤ m
    · obtain rfl := hs.addr (by omega)
      have hrl := hs.len
      match rest, hrl, hs, hpar, hpu with
      | [], hrl, _, _, _ => simp at hrl; omega
      | [_], hrl, _, _, _ => simp at hrl; omega
      | p :: q :: rest, hrl, hs, hpar, hpu =>
        have c0 := hs.cell 0 (by omega)
        have c1 := hs.cell 1 (by omega)
        simp at c0 c1
        have hlt : b < wr.heap.size := hs.low (by omega)
        have bA : Below wr.heap.size wr (wr.alloc (.cells #[.string p, .string q] 52)) := (Below.refl _ wr).alloc (Nat.le_refl _) _
        have d0 := (bA.cell (p := ⟨b, o, none⟩) hlt).trans c0
        have d1 := (bA.cell (p := ⟨b, o + 1, none⟩) hlt).trans c1
        have od : OwnP wr.drew w.heap.size u4 acc := owns_block hown (fun _ _ => rfl)
        obtain ⟨v', w5, hrun0, o5, b5⟩ := app_pair p q 73 Tryz.underlying73 od (by omega) (show w.heap.size ≤ wr.heap.size from sk)
        have hrun : (Builtin.append_ #[73, 73] 73 #[u4, .slice (some ⟨wr.heap.size, 0, none⟩) 1 1]).run Tryz.prog (wr.alloc (.cells #[.string p, .string q] 52)).drew = .ok v' w5 := hrun0
        have b05 : Hid (Below w.heap.size w w5) := bk.trans ((below_drewN (Below.refl _ wr) 1 : Below w.heap.size wr wr.drew).trans b5)
        have S5 : Hid (StrsIn w5 (if d = 2 then some ⟨b, o, none⟩ else some ⟨b, o + 2, none⟩) b (o + 2) (m - 2) rest) := by
          have hbl := hlow (by omega)
          refine ⟨by simp at hrl; omega, fun hp => if_neg (by omega), fun _ => by have := b05.out.size; omega, fun i hi => ?_, fun i hi => ?_⟩
          · have := hs.cell (i + 2) (by omega)
            rw [show o + (i + 2) = o + 2 + i from by omega] at this
            have e1 := (b05.out.cell (p := ⟨b, o + 2 + i, none⟩) hbl).trans ((bk.cell (p := ⟨b, o + 2 + i, none⟩) hbl).symm.trans this)
            simpa using e1
          · have := hs.fit (i + 2) (by omega)
            simpa using this
        have HPU : Hid (pairUp ts = (acc ++ [(p, q)]) ++ pairUp rest) := by unfold Hid; rw [hpu]; simp [pairUp]
        have HPA : Hid (rest.length % 2 = ts.length % 2) := by unfold Hid; rw [← hpar]; simp; omega
        have O5 : Hid (OwnP w5 w.heap.size v' (acc ++ [(p, q)])) := o5
        have h0n : 0 < m := by omega
        have h1n : 1 < m := by omega
        have h0i : (0 : Int) < (m : Int) := by omega
        have h1i : (1 : Int) < (m : Int) := by omega
        have h2i : (2 : Int) ≤ (m : Int) := by omega
        clear hs hpu hpar hown od hrun0 o5 b5 bk bA hrl
        go_wp2_with fail
        go_region_law (first
          | refine step_append_run rfl (.tmp 10) (.tmp 18) 73 rfl (by simp [Act.eval]) (by simp [Act.eval]) hrun ?_)
        all_goals
          go_wp2
          go_roundw
          case rel => exact ⟨_, o + 2, m - 2, d - 2, rest, acc ++ [(p, q)], rfl, by omega, by omega, by omega, S5.out, fun _ => hlow (by omega), HPA.out, by rw [List.length_append, List.length_singleton]; omega, HPU.out, O5.out, b05.out⟩
          case measure => simp [lenV]; omega
    · have hlt : ¬ (2 : Int) ≤ (m : Int) := by omega
      have HE : Hid (pairUp ts = acc ∧ ((m : Int) == 0) = decide (ts.length % 2 = 0)) := by
        have hrl := hs.len
        unfold Hid
        rw [hpu, ← hpar]
        match rest, hrl with
        | [], hrl => simp at hrl; subst hrl; simp [pairUp]
        | [_], hrl => simp at hrl; subst hrl; simp [pairUp]
        | _ :: _ :: _, hrl => simp at hrl; omega
      clear hs hpu hpar
      go_wp2
      go_ret2
      exact ⟨u4, ret_tb HE.out.2, by rw [HE.out.1]; exact hown, bk⟩
end Go.Proofs.YticajcagcdbgpaaGreatDoor
