/- The specification's item at an array. -/
import Derived.Test.YtcgeafdakaeicaaDoorSqB
import Derived.Test.YtcgeafdakaeicaaDoorRrH
namespace Go.Proofs.YtcgeafdakaeicaaDoor
open Go.RowKit Go.Sort
open Rp (Nd nd0 plainB numB fieldsB)

def ItemEnd (w : World) (rb : Nat) (s : ByteArray) (at_ B : Nat) (V : Value) (P : List Nv) (d : Nat) : Rep → Ending → World → Prop
  | .inl c, e, w' => ∃ z a' V' Q, e = .returned (.int .i64 z) ∧ S4 V' w' rb s a' c ∧ OwnN w' B V' (P ++ Q) ∧ NewQ w Q ∧ Fr w w' rb V ∧ Nw w V V' ∧ (P ++ Q).length ≤ 1001 + d
  | .inr (ns, u), e, w' => ∃ V' Q, Q.map Prod.fst = ns ∧ e = .returned (.int .i64 (((P.length + ns.length : Nat) : Int) - 1)) ∧ S4 V' w' rb s (at_ + u) 0 ∧ at_ + u ≤ s.size ∧ OwnN w' B V' (P ++ Q) ∧ NewQ w Q ∧ Fr w w' rb V ∧ Nw w V V'

def ItemOk (d : Nat) (deep : Int) : Prop := ∀ (s : ByteArray) (at_ rb B : Nat) (V : Value) (P : List Nv) (w : World), s.size ≤ 1048576 → at_ ≤ s.size → S4 V w rb s at_ 0 → B ≤ w.heap.size → OwnN w B V P → P.length ≤ 1000 →
  Calls Tryd.prog 42 #[.pointer (some ⟨rb, 0, none⟩), .int .i64 deep] w (ItemEnd w rb s at_ B V P d (replyM d (s.data.toList.drop at_) P.length))

structure KidsG (w : World) (rb : Nat) (s : ByteArray) (B : Nat) (V : Value) (P : List Nv) (K : Value) (wr : World) (Q : List Nv) (ks : List Int) (V1 : Value) (a1 : Nat) (c1 : Int) : Prop where
  rd : S4 V1 wr rb s a1 c1
  own : OwnN wr B V1 (P ++ Q)
  kown : wr.ownsRow B 2 1 K ks.length (intVals ks)
  apart : Apart K (P ++ Q)
  knew : ∀ k, K.ownBlock = some k → w.heap.size ≤ k
  new : NewQ w Q
  fr : Fr w wr rb V
  nw : Nw w V V1

theorem KidsG.item {w wr w2 : World} {rb : Nat} {s : ByteArray} {B : Nat} {V V1 V2 K : Value} {P Q Q2 : List Nv} {ks : List Int} {a1 a2 : Nat} {c1 c2 : Int} (h : KidsG w rb s B V P K wr Q ks V1 a1 c1)
    (r2 : S4 V2 w2 rb s a2 c2) (o2 : OwnN w2 B V2 ((P ++ Q) ++ Q2)) (n2 : NewQ wr Q2) (fr2 : Fr wr w2 rb V1) (nw2 : Nw wr V1 V2) : KidsG w rb s B V P K w2 (Q ++ Q2) ks V2 a2 c2 := by
  refine ⟨r2, ?_, kid_fr fr2 h.rd (by decide) h.own h.kown, ?_, h.knew, ?_, h.fr.trans fr2 h.nw, h.nw.trans nw2 h.fr.size⟩
  · rw [← List.append_assoc]; exact o2
  · intro p hp k hk e
    rw [← List.append_assoc] at hp
    rcases List.mem_append.1 hp with hp | hp
    · exact h.apart p hp k hk e
    · have := n2 p hp k hk
      have := (own_lt h.kown e).2
      omega
  · intro p hp k hk
    rcases List.mem_append.1 hp with hp | hp
    · exact h.new p hp k hk
    · have := n2 p hp k hk
      have := h.fr.size
      omega

theorem KidsG.push {w w2 w5 : World} {rb : Nat} {s : ByteArray} {B : Nat} {V V2 K K' : Value} {P Q : List Nv} {ks : List Int} {a1 : Nat} {c1 : Int} {z : Int} {o : Obj} (h : KidsG w rb s B V P K w2 Q ks V2 a1 c1)
    (ho : w5.ownsRow B 2 1 K' (ks.length + 1) (intVals ks ++ [.int .i64 z])) (hg : (w2.alloc o).grownBy w5 K.ownBlock) (hb : K'.ownBlock = K.ownBlock ∨ K'.ownBlock = some (w2.heap.size + 1)) : KidsG w rb s B V P K' w5 Q (ks ++ [z]) V2 a1 c1 := by
  have hs : (w2.alloc o).heap.size = w2.heap.size + 1 := by simp
  have keep : ∀ k, k < w2.heap.size → K.ownBlock ≠ some k → w5.heap[k]? = w2.heap[k]? := fun k hk hne => (hg.block k (by omega) (fun e => hne e.symm)).trans (Below.heap_alloc _ _ _ hk)
  have hsz := h.fr.size
  have hg5 := hg.size
  refine ⟨?_, ?_, ?_, ?_, ?_, h.new, ?_, h.nw⟩
  · exact (keep rb (RowAt.lt h.rd) (fun e => own_row h.kown h.rd (by decide) e rfl)).trans h.rd
  · exact h.own.of_block (fun g hg' => keep g (own_lt h.own.row hg').2 (own_other h.own.row h.kown (by decide) hg')) (fun p hp g hg' => keep g (own_lt (h.own.kids p hp) hg').2 (h.apart p hp g hg'))
  · rw [List.length_append, intVals, List.map_append]; exact ho
  · intro p hp k hk e
    rcases hb with hb | hb
    · rw [hb] at e; exact h.apart p hp k hk e
    · rw [hb] at e
      injection e with e
      have := (own_lt (h.own.kids p hp) hk).2
      omega
  · intro k hk
    rcases hb with hb | hb
    · rw [hb] at hk; exact h.knew k hk
    · rw [hb] at hk
      injection hk with hk
      omega
  · exact ⟨hg.os.trans h.fr.os, hg.tape.trans h.fr.tape, hg.output.trans h.fr.output, by omega, fun k hk hr hv => (keep k (by omega) (fun e => by have := h.knew k e; omega)).trans (h.fr.block k hk hr hv)⟩

/-- Behind the add of a node. -/
theorem item_of_add {w wr w3 : World} {rb : Nat} {s : ByteArray} {at_ B d : Nat} {V V1 K : Value} {P Q : List Nv} {x : Nd} {a1 : Nat} {c1 : Int} {e : Ending} {R : Rep} (h : KidsG w rb s B V P K wr Q x.kids V1 a1 c1) (he : AddEnd wr rb s a1 B c1 V1 (P ++ Q) x K e w3)
    (hR : (c1 ≠ 0 ∧ R = .inl c1 ∧ P.length + Q.length ≤ 1001 + d) ∨ (c1 = 0 ∧ ∃ k v, R = endM P.length k (.inr (Q.map Prod.fst, x, v)) ∧ a1 = at_ + (k + v) ∧ a1 ≤ s.size ∧ P.length + Q.length ≤ 1000)) :
    ItemEnd w rb s at_ B V P (d + 1) R e w3 := by
  obtain ⟨V', rfl, r3, o3, f3, n3⟩ := he
  have hsz := h.fr.size
  have oA : OwnN w3 B V' (P ++ (Q ++ [(x, K)])) := by rw [← List.append_assoc]; exact o3
  have nQ : NewQ w (Q ++ [(x, K)]) := by
    intro p hp k hk
    rcases List.mem_append.1 hp with hp | hp
    · exact h.new p hp k hk
    · simp at hp; subst hp; exact h.knew k hk
  have fA := h.fr.trans f3 h.nw
  have nA : Nw w V V' := h.nw.trans n3 hsz
  rcases hR with ⟨hc, rfl, hl⟩ | ⟨rfl, k, v, rfl, rfl, hfit, hl⟩
  · have : addC c1 ((P ++ Q).length + 1) = c1 := if_neg (fun e => hc e.1)
    rw [this] at r3
    exact ⟨_, a1, V', Q ++ [(x, K)], rfl, r3, oA, nQ, fA, nA, by simp; omega⟩
  · by_cases h1000 : P.length + Q.length = 1000
    · have e1 : endM P.length k (.inr (Q.map Prod.fst, x, v)) = .inl 2 := if_pos (by rw [List.length_map]; exact h1000)
      have e2 : addC 0 ((P ++ Q).length + 1) = 2 := if_pos ⟨rfl, by rw [List.length_append]; omega⟩
      rw [e2] at r3
      rw [e1]
      exact ⟨_, _, V', Q ++ [(x, K)], rfl, r3, oA, nQ, fA, nA, by simp; omega⟩
    · have e1 : endM P.length k (.inr (Q.map Prod.fst, x, v)) = .inr (Q.map Prod.fst ++ [x], k + v) := if_neg (by rw [List.length_map]; exact h1000)
      have e2 : addC 0 ((P ++ Q).length + 1) = 0 := if_neg (fun e => by have := e.2; rw [List.length_append] at this; omega)
      rw [e2] at r3
      rw [e1]
      refine ⟨V', Q ++ [(x, K)], by simp, ?_, r3, hfit, oA, nQ, fA, nA⟩
      congr 2
      simp
      omega

set_option maxHeartbeats 4000000 in
set_option maxRecDepth 100000 in
theorem item_array (d : Nat) (hd4 : d ≤ 4) (deep deep1 : Int) (hdp : deep ≤ 4) (hd1 : IntKind.i64.wrap (deep + 1) = deep1) (hd : ItemOk d deep1) (V : Value) (s : ByteArray) (at_ at2 rb B : Nat) (P : List Nv) (w : World) (b : UInt8) (r : List UInt8) (hl : r.length ≤ 1048576) (n : Nat) (hint : intI r = ((n : Int), true)) (hn : n ≤ 1000)
    (hline : LineC V s at2 rb w ⟨(b :: r).toArray⟩) (hb : b.toNat = 42) (hs : s.size ≤ 1048576) (h2 : at2 ≤ s.size) (hBw : B ≤ w.heap.size) (hP : P.length ≤ 1000) (hown : ∀ w1, w.grownBy w1 (some rb) → OwnN w1 B V P) (k : Nat) (hat : at2 = at_ + k)
    (R : NodeR) (hR : R = match kidsM (replyM d) n (s.data.toList.drop at2) P.length with
      | .inl c => .inl c
      | .inr (ms, ks, v) => .inr (ms, ⟨6, 0, ⟨#[]⟩, ks⟩, v)) :
    Calls Tryd.prog 42 #[.pointer (some ⟨rb, 0, none⟩), .int .i64 deep] w (ItemEnd w rb s at_ B V P (d + 1) (endM P.length k R)) := by
  obtain ⟨i0, hi, hz0', hz1', hz2'⟩ := info_parts Rp.info2
  obtain ⟨T, hT⟩ : ∃ T, kidsM (replyM d) n (s.data.toList.drop at2) P.length = T := ⟨_, rfl⟩
  have HT : Hid (T = preK (([] : List Nv).map Prod.fst) [] 0 (kidsM (replyM d) (n - 0) (s.data.toList.drop (at2 + 0)) (P.length + 0))) := by
    unfold Hid
    rw [List.map_nil, preK_nil, ← hT]; rfl
  rw [hT] at hR
  obtain ⟨RR, hRR⟩ : ∃ RR, endM P.length k R = RR := ⟨_, rfl⟩
  rw [hRR]
  have HR1 : Hid (∀ c, T = .inl c → RR = .inl c) := fun c e => by rw [← hRR, hR, e]; rfl
  have HR2 : Hid (∀ ms ks v, T = .inr (ms, ks, v) → RR = endM P.length k (.inr (ms, ⟨6, 0, ⟨#[]⟩, ks⟩, v))) := fun ms ks v e => by rw [← hRR, hR, e]
  have HOW : Hid (∀ w1, w.grownBy w1 (some rb) → OwnN w1 B V P) := hown
  have HD : Hid (ItemOk d deep1) := hd
  have e43 : ((b.toNat : Int) == 43) = false := by rw [hb]; rfl
  have e45 : ((b.toNat : Int) == 45) = false := by rw [hb]; rfl
  have e58 : ((b.toNat : Int) == 58) = false := by rw [hb]; rfl
  have e36 : ((b.toNat : Int) == 36) = false := by rw [hb]; rfl
  have e42 : ((b.toNat : Int) == 42) = true := by rw [hb]; rfl
  have HIn : Hid (∀ w, Calls Tryd.prog 30 #[.int .i64 (n : Int), .int .i64 0, .int .i64 1000] w fun e w' => e = .returned (.bool true) ∧ w' = w) := fun w => by
    have := l1In_any (n : Int) 0 1000 w
    rw [show decide ((0 : Int) ≤ (n : Int) ∧ (n : Int) ≤ 1000) = true from by simp; omega] at this
    exact this
  clear hb hT hR hRR hown hd
  obtain ⟨t, ht, he, he2, h00, HX, hz⟩ := line_facts b r
  rw [← ht] at hline
  have HC : Hid (LineC V s at2 rb w t) := hline
  have HI : Hid (∀ w, Calls Tryd.prog 66 #[.string ⟨r.toArray⟩] w fun e w' => e = .returned (.tuple #[.int .i64 (n : Int), .bool true]) ∧ w' = w) := fun w => by
    have := l1Int_any ⟨r.toArray⟩ w (by rw [size_mk]; exact hl)
    rw [show (⟨r.toArray⟩ : ByteArray).data.toList = r from rfl, hint] at this
    exact this
  have hb256 : b.toNat < 256 := b.toNat_lt
  have hz0 : (0 : Int) < (t.size : Int) := by omega
  have hz1 : (1 : Int) ≤ (t.size : Int) := by omega
  have hz2 : 0 < t.size := by omega
  have hts : t.size ≤ 1048577 := by omega
  have HX2 : Hid (t.extract 1 t.size = ⟨r.toArray⟩) := HX
  clear hline HX hz ht hint
  go_enter Tryd.func42, Tryd.ntmps42
  go_wp2_with fail
  refine HC.out.mono ?_
  rintro e w1 ⟨rfl, r1, g1⟩
  have c2 := RowAt.cell r1 2
  simp at c2
  have R1 : Hid (S4 V w1 rb s at2 0) := r1
  have s1 := g1.size
  have hlt1 : rb < w1.heap.size := RowAt.lt r1
  have hbA : Below w1.heap.size w1 (w1.alloc (.cells #[] 2)) := (Below.refl _ w1).alloc (Nat.le_refl _) _
  have H0 : Hid (KidsG w rb s B V P (.slice (some ⟨w1.heap.size, 0, none⟩) 0 0) (w1.alloc (.cells #[] 2)) [] [] V at2 0) := by
    have o1 := HOW.out w1 g1
    refine ⟨RowAt.below r1 hbA hlt1, by rw [List.append_nil]; exact o1.below hbA (Nat.le_refl _), ⟨rfl, .inr ⟨w1.heap.size, 0, #[], rfl, by omega, RowAt.new w1 2 #[], by simp, by unfold maxLen; omega, by simp, by simp [intVals]⟩⟩, ?_, ?_, fun p hp => by simp at hp, (Fr.of_grown V g1).trans (Fr.of_below rb V hbA) (Nw.refl _ _), Nw.refl _ _⟩
    · intro p hp k' hk' e
      simp [Value.ownBlock] at e
      rw [List.append_nil] at hp
      have := (own_lt (o1.kids p hp) hk').2
      omega
    · intro k' e
      simp [Value.ownBlock] at e
      omega
  clear r1
  go_wp2_with fail
  rw [HX2.out]
  refine (HI.out w1).mono ?_
  rintro e w2 ⟨rfl, hw⟩
  have hw2 := hw.symm
  subst hw2
  clear hw HX2
  go_wp2_with (first | (go_at_call 30; refine (HIn.out w1).mono ?_; rintro e w2 ⟨rfl, hw⟩; have hw2 := hw.symm; subst hw2; clear hw))
  go_loopw [9, 10] (fun K i wr => ∃ (j : Nat) (Q : List Nv) (ks : List Int) (V1 : Value) (a1 : Nat) (c1 : Int), j ≤ n ∧ i = .int .i64 j ∧ ks.length = j ∧ KidsG w rb s B V P K wr Q ks V1 a1 c1 ∧ ((c1 = 0 ∧ ∃ q, a1 = at2 + q ∧ a1 ≤ s.size ∧ P.length + Q.length ≤ 1000 ∧ T = preK (Q.map Prod.fst) ks q (kidsM (replyM d) (n - j) (s.data.toList.drop a1) (P.length + Q.length))) ∨ (c1 ≠ 0 ∧ T = .inl c1 ∧ P.length + Q.length ≤ 1001 + d))) (fun _ i _ => n - (intOf i).toNat)
  case atStart => exact ⟨0, [], [], V, at2, 0, by omega, rfl, rfl, H0.out, .inl ⟨rfl, 0, rfl, h2, by simpa using hP, HT.out⟩⟩
  case round =>
    obtain ⟨j, Q, ks, V1, a1, c1, hj, rfl, hkl, hk, hst⟩ := hrel
    have HAT : Hid (at2 = at_ + k) := hat
    clear H0 HT c2 hat
    have cc2 := RowAt.cell hk.rd 2
    simp at cc2
    have szr := hk.fr.size
    by_cases hrun : c1 = 0 ∧ j < n
    · obtain ⟨rfl, hlt⟩ := hrun
      rcases hst with ⟨_, q, rfl, hfit, htop, hpre⟩ | ⟨hc, _⟩
      · obtain ⟨m, hm⟩ : ∃ m, n - j = m + 1 := ⟨n - j - 1, by omega⟩
        rw [hm] at hpre
        have hlti : (j : Int) < (n : Int) := by omega
        have hlen : (P ++ Q).length = P.length + Q.length := List.length_append
        have HCI := HD.out s (at2 + q) rb B V1 (P ++ Q) wr hs hfit hk.rd (by omega) hk.own (by omega)
        rw [hlen] at HCI
        have HL : Hid (ks.length = j) := hkl
        have HM : Hid (n - j = m + 1) := hm
        have hks : ks.length ≤ 1000 := by omega
        cases hq : replyM d (s.data.toList.drop (at2 + q)) (P.length + Q.length) with
        | inl c =>
          rw [hq] at HCI
          rw [kidsM_inl hq] at hpre
          have hcn : c ≠ 0 := reply_code d _ _ c hq
          have HC' : Hid (Calls Tryd.prog 42 #[.pointer (some ⟨rb, 0, none⟩), .int .i64 deep1] wr fun e w' => ∃ z a' V' Q', e = .returned (.int .i64 z) ∧ S4 V' w' rb s a' c ∧ OwnN w' B V' ((P ++ Q) ++ Q') ∧ NewQ wr Q' ∧ Fr wr w' rb V1 ∧ Nw wr V1 V' ∧ ((P ++ Q) ++ Q').length ≤ 1001 + d) := HCI
          have HP : Hid (T = .inl c) := hpre
          have HK : Hid _ := hk
          clear HCI hq hpre hk hm hlen htop hkl
          go_wp2_with fail
          refine HC'.out.mono ?_
          rintro e w2 ⟨z, a2, V2, Q2, rfl, r2, o2, n2, fr2, nw2, t2⟩
          have k2 := HK.out.item r2 o2 n2 fr2 nw2
          have HT2 : Hid (P.length + (Q ++ Q2).length ≤ 1001 + d) := by unfold Hid; rw [List.append_assoc, List.length_append] at t2; exact t2
          have sz2 := k2.fr.size
          have hkown := k2.kown
          clear r2 o2 n2 fr2 nw2 t2
          go_wp2_with (at_builtin; refine wpList_append_own_at _ rfl _ _ 42 rfl B 2 i0 _ 1 8 Tryd.underlying42 hi hz0' hz1' hz2' rfl (by decide) _ _ _ rfl (hkown.alloc _) ⟨w2.heap.size, 0, none⟩ 1 1 [.int .i64 z] rfl rfl ?c1 ?c2 ?c3 ?c4 ?c5 ?_)
          case c1 => exact cell_one_new _ _ _
          case c2 => intro y hy; simp at hy; subst hy; rfl
          case c3 => unfold maxLen; omega
          case c4 => omega
          case c5 => simp; omega
          intro v' w5 hown' hgrow _ hblk
          have k5 : Hid (KidsG w rb s B V P v' w5 (Q ++ Q2) (ks ++ [z]) V2 a2 c) := k2.push (by first | exact hown' | (rw [HL.out]; exact hown')) hgrow hblk
          clear hown' hgrow hblk k2 hkown
          go_wp2
          go_roundw
          case rel =>
            exact ⟨j + 1, Q ++ Q2, ks ++ [z], V2, a2, c, by omega, by go_num, by rw [List.length_append, HL.out]; rfl, k5.out, .inr ⟨hcn, HP.out, HT2.out⟩⟩
          case measure => simp [intOf] <;> omega
        | inr p =>
          obtain ⟨ns, u⟩ := p
          rw [hq] at HCI
          have ht2 := reply_top d _ _ ns u (by omega) hq
          rw [kidsM_inr hq, preK_preK, List.drop_drop] at hpre
          have HC' : Hid (Calls Tryd.prog 42 #[.pointer (some ⟨rb, 0, none⟩), .int .i64 deep1] wr fun e w' => ∃ V' Q', Q'.map Prod.fst = ns ∧ e = .returned (.int .i64 ((((P ++ Q).length + ns.length : Nat) : Int) - 1)) ∧ S4 V' w' rb s (at2 + q + u) 0 ∧ at2 + q + u ≤ s.size ∧ OwnN w' B V' ((P ++ Q) ++ Q') ∧ NewQ wr Q' ∧ Fr wr w' rb V1 ∧ Nw wr V1 V') := HCI
          rw [hlen] at HC'
          have HP : Hid (T = _) := hpre
          have HK : Hid _ := hk
          obtain ⟨z, hz⟩ : ∃ z : Int, ((P.length + Q.length + ns.length : Nat) : Int) - 1 = z := ⟨_, rfl⟩
          rw [hz] at HP HC'
          clear HCI hq hpre hk hm hlen hkl
          go_wp2_with fail
          refine HC'.out.mono ?_
          rintro e w2 ⟨V2, Q2, hQ2, rfl, r2, f2, o2, n2, fr2, nw2⟩
          have hql : Q2.length = ns.length := by rw [← hQ2]; simp
          have k2 := HK.out.item r2 o2 n2 fr2 nw2
          have sz2 := k2.fr.size
          have hkown := k2.kown
          clear r2 o2 n2 fr2 nw2
          go_wp2_with (at_builtin; refine wpList_append_own_at _ rfl _ _ 42 rfl B 2 i0 _ 1 8 Tryd.underlying42 hi hz0' hz1' hz2' rfl (by decide) _ _ _ rfl (hkown.alloc _) ⟨w2.heap.size, 0, none⟩ 1 1 [.int .i64 z] rfl rfl ?c1 ?c2 ?c3 ?c4 ?c5 ?_)
          case c1 => exact cell_one_new _ _ _
          case c2 => intro y hy; simp at hy; subst hy; rfl
          case c3 => unfold maxLen; omega
          case c4 => omega
          case c5 => simp; omega
          intro v' w5 hown' hgrow _ hblk
          have k5 : Hid (KidsG w rb s B V P v' w5 (Q ++ Q2) (ks ++ [z]) V2 (at2 + q + u) 0) := k2.push (by first | exact hown' | (rw [HL.out]; exact hown')) hgrow hblk
          clear hown' hgrow hblk k2 hkown
          go_wp2
          go_roundw
          case rel =>
            refine ⟨j + 1, Q ++ Q2, ks ++ [z], V2, at2 + q + u, 0, by omega, by go_num, by rw [List.length_append, HL.out]; rfl, k5.out, .inl ⟨rfl, q + u, by omega, f2, by rw [List.length_append]; omega, ?_⟩⟩
            have e1 : n - (j + 1) = m := by have := HM.out; omega
            rw [HP.out, e1, List.map_append, hQ2, List.length_append, hql, Nat.add_assoc P.length]
          case measure => simp [intOf] <;> omega
      · exact absurd rfl hc
    · have hRX : (c1 ≠ 0 ∧ RR = .inl c1 ∧ P.length + Q.length ≤ 1001 + d) ∨ (c1 = 0 ∧ ∃ k v, RR = endM P.length k (.inr (Q.map Prod.fst, (⟨6, 0, ⟨#[]⟩, ks⟩ : Nd), v)) ∧ a1 = at_ + (k + v) ∧ a1 ≤ s.size ∧ P.length + Q.length ≤ 1000) := by
        rcases hst with ⟨hc, q, ha, hfit, htop, hpre⟩ | ⟨hc, hTc, hlen⟩
        · right
          have hjn : n - j = 0 := by
            have : ¬ j < n := fun h => hrun ⟨hc, h⟩
            omega
          rw [hjn] at hpre
          refine ⟨hc, k, q, HR2.out _ _ _ (by rw [hpre]; simp [kidsM, preK]), by rw [ha, HAT.out]; omega, hfit, htop⟩
        · exact .inl ⟨hc, HR1.out c1 hTc, hlen⟩
      have hlen2 : (P ++ Q).length ≤ 2000 := by
        rw [List.length_append]
        rcases hRX with ⟨_, _, h3⟩ | ⟨_, _, _, _, _, _, h3⟩ <;> omega
      have HF : Hid (Calls Tryd.prog 67 #[.pointer (some ⟨rb, 0, none⟩), .agg #[.int .i64 6, .int .i64 0, .string ⟨#[]⟩, u9]] wr fun e w' => e = .returned (.int .i64 ((P ++ Q).length : Nat)) ∧ ItemEnd w rb s at_ B V P (d + 1) RR e w') :=
        (spAdd s a1 rb B c1 V1 (P ++ Q) (⟨6, 0, ⟨#[]⟩, ks⟩ : Nd) u9 wr hk.rd (by omega) hk.own hk.kown hk.apart hlen2).mono fun e w' he => ⟨he.choose_spec.1, item_of_add hk he hRX⟩
      obtain ⟨ka, kc, hKf⟩ := own_form hk.kown
      subst hKf
      obtain ⟨zr, hzr⟩ : ∃ zr : Int, (((P ++ Q).length : Nat) : Int) = zr := ⟨_, rfl⟩
      rw [hzr] at HF
      clear hzr hlen2
      clear hk hst hRX hkl
      by_cases hlt : j < n
      · have hlti : (j : Int) < (n : Int) := by omega
        have hcz : (c1 == 0) = false := by simpa using fun h => hrun ⟨h, hlt⟩
        clear hrun
        go_wp2_with fail
        refine HF.out.mono ?_
        rintro e w3 ⟨rfl, hE⟩
        have HE : Hid _ := hE
        clear hE
        go_wp2
        go_ret
        exact HE.out
      · have hlti : ¬ (j : Int) < (n : Int) := by omega
        clear hrun
        go_wp2_with fail
        refine HF.out.mono ?_
        rintro e w3 ⟨rfl, hE⟩
        have HE : Hid _ := hE
        clear hE
        go_wp2
        go_ret
        exact HE.out
end Go.Proofs.YtcgeafdakaeicaaDoor
