/- The reply's reader: reply, a node put at the end. -/
import Derived.Test.YtcgeafdakaeicaaDoorRrF
import Derived.Deep.RegionLaw
namespace Go.Proofs.YtcgeafdakaeicaaDoor
open Go.RowKit Go.Sort
open Rp (Nd nd0 plainB numB fieldsB)

/-- append by its own run, as one step of a region that draws. -/
theorem step_append_run {P : Program} {ops : Array Oper} {o : Oper} {a : Act} {w w' : World} {K : Act → World → Prop} {Q : Exit → Act → World → Prop} {E : Prop} (hg : o.guard = none) (s x : Operand) (t : TypeId)
    (hop : o.op = Op.call { callee := Callee.builtin Builtin.append, args := #[s, x], argTypes := #[t, t] }) {v y v' : Value} (hs : a.eval s = v) (hx : a.eval x = y) (hr : (Builtin.append_ #[t, t] o.type #[v, y]).run P w = .ok v' w')
    (hK : K (a.put o.dst v') w') : if Region.wanted o (yielded ops a.tmps) = true then Oper.wp P o a w K Q else E := by
  have hw : Region.wanted o (yielded ops a.tmps) = true := by simp [Region.wanted, hg]
  rw [if_pos hw]
  unfold Oper.wp
  simp [execOp, hop, resolve, invoke, builtin, hs, hx, hr, Result.andThen]
  exact hK

abbrev nodeC (x : Nd) (K : Value) : Array Value := #[.int .i64 x.kind, .int .i64 x.num, .string x.s, K]

/-- One node more at the end of those that a slice owns. -/
theorem app_node {w : World} {B : Nat} {V : Value} {P : List Nv} {x : Nd} {K : Value} (h : OwnN w B V P) (hk : w.ownsRow B 2 1 K x.kids.length (intVals x.kids)) (ha : Apart K P) (hn : P.length ≤ 1048576) (hB : B ≤ w.heap.size) :
    ∃ v' w', (Builtin.append_ #[24, 24] 24 #[V, .slice (some ⟨w.heap.size, 0, none⟩) 1 1]).run Tryd.prog (w.alloc (.cells (nodeC x K) 44)) = .ok v' w' ∧ OwnN w' B v' (P ++ [(x, K)]) ∧ (∀ j, j < w.heap.size → V.ownBlock ≠ some j → w'.heap[j]? = w.heap[j]?) ∧ w'.os = w.os ∧ w'.tape = w.tape ∧ w'.output = w.output ∧ w.heap.size ≤ w'.heap.size ∧ Nw w V v' := by
  obtain ⟨i0, hi, hz0, hz1, hz2⟩ := info_parts Rp.info33
  have hbl : Below w.heap.size w (w.alloc (.cells (nodeC x K) 44)) := (Below.refl _ w).alloc (Nat.le_refl _) _
  have oA := h.below hbl (Nat.le_refl _)
  have kA : (w.alloc (.cells (nodeC x K) 44)).ownsRow B 2 1 K x.kids.length (intVals x.kids) := owns_block hk fun g hg => hbl.block g (own_lt hk hg).2
  obtain ⟨ka, kc, hK⟩ := own_form hk
  obtain ⟨v', w', hrun, hown, hg, _, hblk⟩ := run_append_own_at (P := Tryd.prog) (w.alloc (.cells (nodeC x K) 44)) B 24 24 44 i0 _ 4 56 Tryd.underlying24 hi hz0 hz1 hz2 rfl (by decide) V P.length (flatN P) oA.row ⟨w.heap.size, 0, none⟩ 1 1 [.int .i64 x.kind, .int .i64 x.num, .string x.s, K] rfl (fun j u hj => by
    rw [Addr.add_lit, Nat.zero_add]
    exact ((RowAt.new w 44 (nodeC x K)).cell j).trans (by simpa using hj)) (fun u hu => by subst hK; simp at hu; rcases hu with rfl | rfl | rfl | rfl <;> rfl) (by unfold maxLen; omega) (by omega) (by simp; omega)
  have hs : (w.alloc (.cells (nodeC x K) 44)).heap.size = w.heap.size + 1 := by simp
  have hsz := hg.size
  refine ⟨v', w', hrun, oA.snoc kA ha hown hg, ?_, hg.os, hg.tape, hg.output, by omega, ?_⟩
  · intro j hj hne
    rw [hg.block j (by omega) (fun e => hne e.symm)]
    exact Below.heap_alloc _ _ _ hj
  · intro k hk
    rcases hblk with e | e
    · rw [e] at hk; exact .inl hk
    · rw [e] at hk
      injection hk with hk
      exact .inr (by omega)

theorem reply_fin {w w1 wc w5 : World} {rb : Nat} {s : ByteArray} {at_ at2 B : Nat} {V V1 v' K : Value} {P Q : List Nv} {ms : List Nd} {x : Nd} {v k : Nat} (g1 : w.grownBy w1 (some rb)) (hS : NodeS w1 rb s at2 B V P ms x v wc V1 Q K) (hat : at2 = at_ + k)
    (o5 : OwnN w5 B v' ((P ++ Q) ++ [(x, K)])) (keep : ∀ j, j < wc.heap.size → V1.ownBlock ≠ some j → w5.heap[j]? = wc.heap[j]?) (q1 : w5.os = wc.os) (q2 : w5.tape = wc.tape) (q3 : w5.output = wc.output) (q4 : wc.heap.size ≤ w5.heap.size) (n5 : Nw wc V1 v') :
    ReplyEnd w rb s at_ B V P (.inr (ms ++ [x], k + v)) (.returned (.int .i64 (((P.length + (ms ++ [x]).length : Nat) : Int) - 1))) (w5.setCell ⟨rb, 2, none⟩ v') := by
  have r5 : R3 V1 w5 rb s (at2 + v) := (keep rb hS.rd.lt (fun e => own_row hS.own.row hS.rd (by decide) e rfl)).trans hS.rd
  have r6 : R3 v' (w5.setCell ⟨rb, 2, none⟩ v') rb s (at2 + v) := by
    have := RowAt.set r5 2 v'
    simpa [R3] using this
  have g6 := grown_set w5 rb 2 v'
  have s1 := g1.size
  have sc := hS.fr.size
  refine ⟨v', Q ++ [(x, K)], by simp [hS.nodes], rfl, ?_, by have := hS.fit; omega, ?_, ?_, ?_, ?_⟩
  · rw [show at_ + (k + v) = at2 + v from by omega]; exact r6
  · rw [← List.append_assoc]; exact o5.grown r5 (by decide) (by decide) g6
  · intro p hp j hj
    rcases List.mem_append.1 hp with hp | hp
    · have := hS.new p hp j hj; omega
    · simp at hp; subst hp
      have := hS.knew j hj; omega
  · have f5 : Fr wc w5 rb V1 := ⟨q1, q2, q3, q4, fun j hj _ hv => keep j hj hv⟩
    have f6 : Fr w5 (w5.setCell ⟨rb, 2, none⟩ v') rb V1 := Fr.of_grown V1 g6
    exact (Fr.of_grown V g1).trans (hS.fr.trans (f5.trans f6 (Nw.refl _ _)) hS.nw) (Nw.refl _ _)
  · have nA : Nw w V V1 := fun j hj => by
      rcases hS.nw j hj with e | e
      · exact .inl e
      · exact .inr (by omega)
    exact nA.trans n5 (by omega)

set_option maxHeartbeats 4000000 in
set_option maxRecDepth 100000 in
theorem reply_put (a : Int) (ha3 : a ≤ 3) (s : ByteArray) (at_ rb B : Nat) (V : Value) (P : List Nv) (w : World) (b : UInt8) (r : List UInt8) (ms : List Nd) (x : Nd) (v : Nat) (hl : r.length ≤ 1048576) (hlt : rb < w.heap.size) (hBw : B ≤ w.heap.size) (htop : P.length + ms.length ≤ 1000)
    (hline : Calls Tryd.prog 58 #[.pointer (some ⟨rb, 0, none⟩)] w fun e w' => e = .returned (.string ⟨(b :: r).toArray⟩) ∧ R3 V w' rb s (at_ + (b :: r).length + 2) ∧ w.grownBy w' (some rb))
    (hown : ∀ w1, w.grownBy w1 (some rb) → OwnN w1 B V P)
    (hnode : ∀ w1 W, R3 V w1 rb s (at_ + (b :: r).length + 2) → w.grownBy w1 (some rb) → Below w1.heap.size w1 W → Calls Tryd.prog 60 #[.pointer (some ⟨rb, 0, none⟩), .int .u8 b.toNat, .string ⟨r.toArray⟩, .int .i64 a] W fun e w' => ∃ V1 Q ka kc, e = .returned (.agg (nodeC x (.slice ka x.kids.length kc))) ∧ NodeS W rb s (at_ + (b :: r).length + 2) B V P ms x v w' V1 Q (.slice ka x.kids.length kc)) :
    Calls Tryd.prog 35 #[.pointer (some ⟨rb, 0, none⟩), .int .i64 a] w (ReplyEnd w rb s at_ B V P (endM P.length (r.length + 3) (.inr (ms, x, v)))) := by
  obtain ⟨T, hT⟩ : ∃ T, endM P.length (r.length + 3) (.inr (ms, x, v)) = T := ⟨_, rfl⟩
  have HT : Hid (endM P.length (r.length + 3) (.inr (ms, x, v)) = T) := hT
  rw [hT]
  have HC : Hid (Calls Tryd.prog 58 #[.pointer (some ⟨rb, 0, none⟩)] w fun e w' => e = .returned (.string ⟨(b :: r).toArray⟩) ∧ R3 V w' rb s (at_ + (b :: r).length + 2) ∧ w.grownBy w' (some rb)) := hline
  have HN : Hid (∀ w1 W, R3 V w1 rb s (at_ + (b :: r).length + 2) → w.grownBy w1 (some rb) → Below w1.heap.size w1 W → Calls Tryd.prog 60 #[.pointer (some ⟨rb, 0, none⟩), .int .u8 b.toNat, .string ⟨r.toArray⟩, .int .i64 a] W fun e w' => ∃ V1 Q ka kc, e = .returned (.agg (nodeC x (.slice ka x.kids.length kc))) ∧ NodeS W rb s (at_ + (b :: r).length + 2) B V P ms x v w' V1 Q (.slice ka x.kids.length kc)) := hnode
  have HO : Hid (∀ w1, w.grownBy w1 (some rb) → OwnN w1 B V P) := hown
  have he : ((⟨(b :: r).toArray⟩ : ByteArray).toList == []) = false := by rw [ByteArray.toList_eq]; rfl
  have he2 : (⟨(b :: r).toArray⟩ : ByteArray).toList.isEmpty = false := by rw [ByteArray.toList_eq]; rfl
  have hb256 : b.toNat < 256 := b.toNat_lt
  have h00 : ∀ hx, (⟨(b :: r).toArray⟩ : ByteArray)[0]'hx = b := fun _ => rfl
  have HX : (⟨(b :: r).toArray⟩ : ByteArray).extract 1 (⟨(b :: r).toArray⟩ : ByteArray).size = ⟨r.toArray⟩ := str_of _ _ (by rw [Lib.extract_data]; simp [ByteArray.size])
  have hz : (⟨(b :: r).toArray⟩ : ByteArray).size = r.length + 1 := by simp [ByteArray.size]
  obtain ⟨at2, hat2⟩ : ∃ at2, at_ + (b :: r).length + 2 = at2 := ⟨_, rfl⟩
  have HAT : Hid (at2 = at_ + (r.length + 3)) := by unfold Hid; rw [← hat2, List.length_cons]; omega
  rw [hat2] at HC HN
  generalize (⟨(b :: r).toArray⟩ : ByteArray) = t at *
  have hz0 : (0 : Int) < (t.size : Int) := by omega
  have hz1 : (1 : Int) ≤ (t.size : Int) := by omega
  have hz2 : 0 < t.size := by omega
  have HX2 : Hid (t.extract 1 t.size = ⟨r.toArray⟩) := HX
  have HZ : Hid (t.size = r.length + 1) := hz
  clear hline hnode HX hz hown hat2 hT
  go_enter Tryd.func35, Tryd.ntmps35
  go_wp2_with fail
  refine HC.out.mono ?_
  rintro e w1 ⟨rfl, r1, g1⟩
  have H1 : Hid (R3 V w1 rb s at2) := r1
  have G1 : Hid (w.grownBy w1 (some rb)) := g1
  have s1 := g1.size
  have hd1 : Below w1.heap.size w1 w1.drew := below_drewN (Below.refl _ _) 1
  have hd2 : Below w1.heap.size w1 (w1.alloc (.cells z4 44)).drew := below_drewN ((Below.refl _ w1).alloc (Nat.le_refl _) _) 1
  have hz44 : RowAt (w1.alloc (.cells z4 44)).drew w1.heap.size 44 z4 := RowAt.new w1 44 z4
  have O1 : Hid (OwnN w1 B V P) := HO.out w1 g1
  clear r1 g1 HO
  go_upto_region 4 with fail
  go_cut [6] (fun p wx => ∃ bn V1 Q ka kc, p = .pointer (some ⟨bn, 0, none⟩) ∧ RowAt wx bn 44 (nodeC x (.slice ka x.kids.length kc)) ∧ NodeS w1 rb s at2 B V P ms x v wx V1 Q (.slice ka x.kids.length kc))
  case first =>
    have hVn : V.ownBlock ≠ some w1.heap.size := fun e => by have := (own_lt O1.out.row e).2; omega
    go_region_with (go_at_call 60; rw [HX2.out]; refine (HN.out w1 _ H1.out G1.out (by with_reducible first | exact hd1 | exact hd2)).mono ?_; rintro e w2 ⟨V1, Q, ka, kc, rfl, hS⟩
                    have HS : Hid _ := hS
                    have hs2 := hS.fr.size
                    first
                      | (have hzz : RowAt w2 w1.heap.size 44 z4 := (hS.fr.block w1.heap.size (by simp) (by omega) hVn).trans hz44; have c0 := hzz.cell 0; have c1 := hzz.cell 1; have c2 := hzz.cell 2; have c3 := hzz.cell 3; have f0 := hzz.frozen 0; have f1 := hzz.frozen 1; have f2 := hzz.frozen 2; have f3 := hzz.frozen 3; simp at c0 c1 c2 c3)
                      | skip
                    clear hS)
    all_goals
      go_wp2_with fail
      go_meet
      case rel =>
        first
          | exact ⟨w1.heap.size, V1, Q, ka, kc, rfl, res4_row hzz rfl _ _ _ _, node_put H1.out O1.out hd2 HS.out w1.heap.size _ (Nat.le_refl _) (.inl (by simp)) rfl rfl rfl (by rw [res4_size]; exact Nat.le_refl _) (fun k _ hne => res4_block w2 _ _ _ _ _ k hne)⟩
          | exact ⟨w2.heap.size, V1, Q, ka, kc, rfl, RowAt.new w2 44 _, node_put H1.out O1.out hd1 HS.out w2.heap.size _ (by simpa using hs2) (.inr (Nat.le_refl _)) rfl rfl rfl (by simp) (fun k hk _ => Below.heap_alloc _ _ _ hk)⟩
  case rest =>
    obtain ⟨bn, V1, Q, ka, kc, rfl, hrow, hS⟩ := hcut
    have hcl := hS.rd.cell 2
    have hcf := hS.rd.frozen 2
    have e0 := hrow.cell 0
    have e1 := hrow.cell 1
    have e2 := hrow.cell 2
    have e3 := hrow.cell 3
    simp at hcl e0 e1 e2 e3
    obtain ⟨va, vc, hV1⟩ := own_form hS.own.row
    have hN0 : (P ++ Q).length = P.length + ms.length := by rw [List.length_append, ← hS.nodes, List.length_map]
    rw [hN0] at hV1
    obtain ⟨N, hN⟩ : ∃ N, P.length + ms.length = N := ⟨_, rfl⟩
    rw [hN] at hV1
    subst hV1
    have HS : Hid _ := hS
    have HN0 : Hid ((P ++ Q).length = N) := hN0.trans hN
    have scw := hS.fr.size
    have hrbc : rb < wc.heap.size := hS.rd.lt
    by_cases h1000 : N = 1000
    · have HT2 : Hid (T = .inl 2) := by unfold Hid; rw [← HT.out]; exact if_pos (show P.length + ms.length = 1000 by omega)
      have hcond : ((N : Int) == 1000) = true := by simp; omega
      clear hS hrow hN0 h1000
      go_wp2_with fail
      refine (giveUp_any 2 wc).mono ?_
      rintro e w2 ⟨rfl, rfl⟩
      unfold gaveUp
      go_wp2
      refine ⟨rfl, ?_⟩
      rw [HT2.out]
      exact ⟨rfl, (Fr.of_grown V G1.out).trans HS.out.fr (Nw.refl _ _)⟩
    · have HT2 : Hid (T = .inr (ms ++ [x], r.length + 3 + v)) := by unfold Hid; rw [← HT.out]; exact if_neg (show ¬ P.length + ms.length = 1000 by omega)
      have hcond : ((N : Int) == 1000) = false := by simp; omega
      have hN1 : N ≤ 999 := by omega
      obtain ⟨v', w5, hrun0, o5, keep5, q1, q2, q3, q4, n5⟩ := app_node (w := wc.drew) (x := x) (hS.own.of_block (w' := wc.drew) (fun _ _ => rfl) (fun _ _ _ _ => rfl)) (owns_block (w' := wc.drew) hS.kown (fun _ _ => rfl)) hS.apart (by rw [HN0.out]; omega) (by show B ≤ wc.heap.size; omega)
      have hrun : (Builtin.append_ #[24, 24] 24 #[.slice va N vc, .slice (some ⟨wc.heap.size, 0, none⟩) 1 1]).run Tryd.prog (wc.alloc (.cells (nodeC x (.slice ka x.kids.length kc)) 44)).drew = .ok v' w5 := hrun0
      have HE : Hid (ReplyEnd w rb s at_ B V P (.inr (ms ++ [x], r.length + 3 + v)) (.returned (.int .i64 (((P.length + (ms ++ [x]).length : Nat) : Int) - 1))) (w5.setCell ⟨rb, 2, none⟩ v')) := reply_fin G1.out hS HAT.out o5 keep5 q1 q2 q3 q4 n5
      have hr5 : RowAt w5 rb 59 #[.string s, .int .i64 ((at2 + v : Nat) : Int), .slice va N vc] := (keep5 rb hrbc (fun e => own_row hS.own.row hS.rd (by decide) e rfl)).trans hS.rd
      have k5 := hr5.cell 2
      have kf5 := hr5.frozen 2
      simp at k5
      obtain ⟨a5, cc5, hv5⟩ := own_form o5.row
      have hl5 : ((P ++ Q) ++ [(x, Value.slice ka x.kids.length kc)]).length = N + 1 := by rw [List.length_append, HN0.out]; rfl
      rw [hl5] at hv5
      subst hv5
      have hA : (wc.alloc (.cells (nodeC x (.slice ka x.kids.length kc)) 44)).cell? ⟨rb, 2, none⟩ = some (.slice va N vc) := (((Below.refl wc.heap.size wc).alloc (Nat.le_refl _) _).cell (p := ⟨rb, 2, none⟩) hrbc).trans hcl
      have HV : Hid ((((P.length + (ms ++ [x]).length : Nat) : Int) - 1) = (N : Int)) := by unfold Hid; rw [List.length_append, List.length_singleton]; omega
      rw [HV.out] at HE
      clear hS hrow hN0 h1000 hrun0 o5 keep5 q1 q2 q3 q4 n5 hr5 hl5
      go_wp2_with fail
      go_region_law (first
        | refine step_append_run rfl (.tmp 36) (.tmp 38) 24 rfl (by simp [Act.eval]) (by simp [Act.eval]) hrun ?_)
      all_goals
        go_wp2
        go_ret
        rw [HT2.out]
        exact HE.out
end Go.Proofs.YtcgeafdakaeicaaDoor
