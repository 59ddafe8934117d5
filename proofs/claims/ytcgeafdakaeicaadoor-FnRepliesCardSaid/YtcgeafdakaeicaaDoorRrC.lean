/- The reply's reader: kids, by what reply does one deeper. -/
import Derived.Test.YtcgeafdakaeicaaDoorRrB
namespace Go.Proofs.YtcgeafdakaeicaaDoor
open Go.RowKit Go.Sort
open Rp (Nd nd0 plainB numB fieldsB)

def ReplyEnd (w : World) (rb : Nat) (s : ByteArray) (at_ B : Nat) (V : Value) (P : List Nv) : Rep → Ending → World → Prop
  | .inl c, e, w' => e = gaveUp c ∧ Fr w w' rb V
  | .inr (ns, u), e, w' => ∃ V' Q, Q.map Prod.fst = ns ∧ e = .returned (.int .i64 (((P.length + ns.length : Nat) : Int) - 1)) ∧ R3 V' w' rb s (at_ + u) ∧ at_ + u ≤ s.size ∧ OwnN w' B V' (P ++ Q) ∧ NewQ w Q ∧ Fr w w' rb V ∧ Nw w V V'

def ReplyOk (d : Nat) (a : Int) : Prop := ∀ (s : ByteArray) (at_ rb B : Nat) (V : Value) (P : List Nv) (w : World), s.size ≤ 1048576 → at_ ≤ s.size → Ready w → R3 V w rb s at_ → 6 ≤ rb → 6 ≤ B → B ≤ w.heap.size → OwnN w B V P → P.length ≤ 1000 →
  Calls Tryd.prog 35 #[.pointer (some ⟨rb, 0, none⟩), .int .i64 a] w (ReplyEnd w rb s at_ B V P (replyM d (s.data.toList.drop at_) P.length))

def KidsEnd (w : World) (rb : Nat) (s : ByteArray) (at_ B : Nat) (V : Value) (P : List Nv) : KidsR → Ending → World → Prop
  | .inl c, e, w' => e = gaveUp c ∧ Fr w w' rb V
  | .inr (ms, ks, u), e, w' => ∃ V' Q K, Q.map Prod.fst = ms ∧ e = .returned K ∧ R3 V' w' rb s (at_ + u) ∧ at_ + u ≤ s.size ∧ OwnN w' B V' (P ++ Q) ∧ w'.ownsRow B 2 1 K ks.length (intVals ks) ∧ Apart K (P ++ Q) ∧ (∀ k, K.ownBlock = some k → w.heap.size ≤ k) ∧ NewQ w Q ∧ Fr w w' rb V ∧ Nw w V V'

structure KidsAt (w : World) (rb : Nat) (s : ByteArray) (at_ B : Nat) (V : Value) (P : List Nv) (K : Value) (wr : World) (Q : List Nv) (ks : List Int) (q : Nat) (V1 : Value) : Prop where
  rd : R3 V1 wr rb s (at_ + q)
  fit : at_ + q ≤ s.size
  own : OwnN wr B V1 (P ++ Q)
  kown : wr.ownsRow B 2 1 K ks.length (intVals ks)
  apart : Apart K (P ++ Q)
  knew : ∀ k, K.ownBlock = some k → w.heap.size ≤ k
  new : NewQ w Q
  fr : Fr w wr rb V
  nw : Nw w V V1
  top : P.length + Q.length ≤ 1000

/-- Behind one more reply: before its place is put at the end of the kids. -/
theorem KidsAt.reply {w wr w2 : World} {rb : Nat} {s : ByteArray} {at_ B : Nat} {V V1 V2 K : Value} {P Q Q2 : List Nv} {ks : List Int} {q u : Nat} (h : KidsAt w rb s at_ B V P K wr Q ks q V1)
    (r2 : R3 V2 w2 rb s (at_ + q + u)) (f2 : at_ + q + u ≤ s.size) (o2 : OwnN w2 B V2 ((P ++ Q) ++ Q2)) (n2 : NewQ wr Q2) (fr2 : Fr wr w2 rb V1) (nw2 : Nw wr V1 V2) (t2 : (P ++ Q).length + Q2.length ≤ 1000) : KidsAt w rb s at_ B V P K w2 (Q ++ Q2) ks (q + u) V2 := by
  refine ⟨?_, by omega, ?_, kid_fr fr2 h.rd (by decide) h.own h.kown, ?_, h.knew, ?_, h.fr.trans fr2 h.nw, h.nw.trans nw2 h.fr.size, ?_⟩
  · rw [← Nat.add_assoc]; exact r2
  · rw [← List.append_assoc]; exact o2
  · intro p hp k hk e
    rw [← List.append_assoc] at hp
    rcases List.mem_append.1 hp with hp | hp
    · exact h.apart p hp k hk e
    · have := n2 p hp k hk
      have := (own_lt h.kown e).2
      omega
  · intro p hp k hk
    rcases List.mem_append.1 hp with hp | hp
    · exact h.new p hp k hk
    · have := n2 p hp k hk
      have := h.fr.size
      omega
  · rw [List.length_append] at t2 ⊢; omega

/-- The place put at the end. -/
theorem KidsAt.push {w w2 w5 : World} {rb : Nat} {s : ByteArray} {at_ B : Nat} {V V2 K K' : Value} {P Q : List Nv} {ks : List Int} {q : Nat} {z : Int} {o : Obj} (h : KidsAt w rb s at_ B V P K w2 Q ks q V2)
    (ho : w5.ownsRow B 2 1 K' (ks.length + 1) (intVals ks ++ [.int .i64 z])) (hg : (w2.alloc o).grownBy w5 K.ownBlock) (hb : K'.ownBlock = K.ownBlock ∨ K'.ownBlock = some (w2.heap.size + 1)) : KidsAt w rb s at_ B V P K' w5 Q (ks ++ [z]) q V2 := by
  have hs : (w2.alloc o).heap.size = w2.heap.size + 1 := by simp
  have keep : ∀ k, k < w2.heap.size → K.ownBlock ≠ some k → w5.heap[k]? = w2.heap[k]? := fun k hk hne => (hg.block k (by omega) (fun e => hne e.symm)).trans (Below.heap_alloc _ _ _ hk)
  have hsz := h.fr.size
  have hg5 := hg.size
  refine ⟨?_, h.fit, ?_, ?_, ?_, ?_, h.new, ?_, h.nw, h.top⟩
  · exact (keep rb h.rd.lt (fun e => own_row h.kown h.rd (by decide) e rfl)).trans h.rd
  · exact h.own.of_block (fun g hg' => keep g (own_lt h.own.row hg').2 (own_other h.own.row h.kown (by decide) hg')) (fun p hp g hg' => keep g (own_lt (h.own.kids p hp) hg').2 (h.apart p hp g hg'))
  · rw [List.length_append, intVals, List.map_append]; exact ho
  · intro p hp k hk e
    rcases hb with hb | hb
    · rw [hb] at e; exact h.apart p hp k hk e
    · rw [hb] at e
      injection e with e
      have := (own_lt (h.own.kids p hp) hk).2
      omega
  · intro k hk
    rcases hb with hb | hb
    · rw [hb] at hk; exact h.knew k hk
    · rw [hb] at hk
      injection hk with hk
      omega
  · exact ⟨hg.os.trans h.fr.os, hg.tape.trans h.fr.tape, hg.output.trans h.fr.output, by omega, fun k hk hr hv => (keep k (by omega) (fun e => by have := h.knew k e; omega)).trans (h.fr.block k hk hr hv)⟩

set_option maxHeartbeats 2000000 in
theorem kids_any (d : Nat) (a : Int) (hd : ReplyOk d a) (n : Nat) (hn : n ≤ 1000) (s : ByteArray) (at_ rb B : Nat) (V : Value) (P : List Nv) (w : World) (hs : s.size ≤ 1048576) (ha : at_ ≤ s.size) (hr : Ready w) (h : R3 V w rb s at_) (hrb : 6 ≤ rb) (hB : 6 ≤ B) (hBw : B ≤ w.heap.size) (ho : OwnN w B V P) (hP : P.length ≤ 1000) :
    Calls Tryd.prog 82 #[.pointer (some ⟨rb, 0, none⟩), .int .i64 n, .int .i64 a] w fun e w' => KidsEnd w rb s at_ B V P (kidsM (replyM d) n (s.data.toList.drop at_) P.length) e w' := by
  obtain ⟨i0, hi, hz0, hz1, hz2⟩ := info_parts Rp.info2
  have H0 : Hid (KidsAt w rb s at_ B V P (.slice none 0 0) w [] [] 0 V) := ⟨h, by omega, by simpa using ho, World.ownsRow_nil _ _ _ _, fun p hp k hk => by simp [Value.ownBlock], by simp [Value.ownBlock], fun p hp => by simp at hp, Fr.refl _ _ _, Nw.refl _ _, by simpa using hP⟩
  have HD : Hid (ReplyOk d a) := hd
  have HO : Hid (OwnN w B V P) := ho
  obtain ⟨T, hT⟩ : ∃ T, kidsM (replyM d) n (s.data.toList.drop at_) P.length = T := ⟨_, rfl⟩
  have HT : Hid (T = preK (([] : List Nv).map Prod.fst) [] 0 (kidsM (replyM d) (n - 0) (s.data.toList.drop (at_ + 0)) (P.length + 0))) := by
    unfold Hid
    rw [List.map_nil, preK_nil, ← hT]; rfl
  rw [hT]
  clear hd ho hT h
  go_enter Tryd.func82, Tryd.ntmps82
  go_wp2_with fail
  go_loopw [7, 9] (fun K i wr => ∃ (j : Nat) (Q : List Nv) (ks : List Int) (q : Nat) (V1 : Value), j ≤ n ∧ i = .int .i64 j ∧ ks.length = j ∧ KidsAt w rb s at_ B V P K wr Q ks q V1 ∧ T = preK (Q.map Prod.fst) ks q (kidsM (replyM d) (n - j) (s.data.toList.drop (at_ + q)) (P.length + Q.length))) (fun _ i _ => n - (intOf i).toNat)
  case atStart => exact ⟨0, [], [], 0, V, by omega, rfl, rfl, H0.out, HT.out⟩
  case round =>
    obtain ⟨j, Q, ks, q, V1, hj, rfl, hkl, hk, hpre⟩ := hrel
    clear H0 HT
    by_cases hlt : j < n
    · obtain ⟨m, hm⟩ : ∃ m, n - j = m + 1 := ⟨n - j - 1, by omega⟩
      rw [hm] at hpre
      have hrr : Ready wr := ready_fr hr hk.fr hrb hB HO.out
      have hBr : B ≤ wr.heap.size := by have := hk.fr.size; omega
      have hlen : (P ++ Q).length = P.length + Q.length := List.length_append
      have htop := hk.top
      have HC := HD.out s (at_ + q) rb B V1 (P ++ Q) wr hs hk.fit hrr hk.rd hrb hB hBr hk.own (by omega)
      rw [hlen] at HC
      cases hq : replyM d (s.data.toList.drop (at_ + q)) (P.length + Q.length) with
      | inl c =>
        rw [hq] at HC
        rw [kidsM_inl hq] at hpre
        have HC' : Hid (Calls Tryd.prog 35 #[.pointer (some ⟨rb, 0, none⟩), .int .i64 a] wr fun e w' => e = gaveUp c ∧ Fr wr w' rb V1) := HC
        have HP : Hid (T = .inl c) := hpre
        have HK : Hid _ := hk
        clear HC hq hpre hk hm hlen htop
        go_wp2_with fail
        refine HC'.out.mono ?_
        rintro e w2 ⟨rfl, f2⟩
        unfold gaveUp
        go_wp2
        refine ⟨rfl, ?_⟩
        rw [HP.out]
        exact ⟨rfl, HK.out.fr.trans f2 HK.out.nw⟩
      | inr p =>
        obtain ⟨ns, u⟩ := p
        rw [hq] at HC
        have ht2 := reply_top d _ _ ns u (by omega) hq
        rw [kidsM_inr hq, preK_preK, List.drop_drop] at hpre
        have HC' : Hid (Calls Tryd.prog 35 #[.pointer (some ⟨rb, 0, none⟩), .int .i64 a] wr fun e w' => ∃ V' Q', Q'.map Prod.fst = ns ∧ e = .returned (.int .i64 ((((P ++ Q).length + ns.length : Nat) : Int) - 1)) ∧ R3 V' w' rb s (at_ + q + u) ∧ at_ + q + u ≤ s.size ∧ OwnN w' B V' ((P ++ Q) ++ Q') ∧ NewQ wr Q' ∧ Fr wr w' rb V1 ∧ Nw wr V1 V') := HC
        rw [hlen] at HC'
        have HP : Hid (T = _) := hpre
        have HK : Hid _ := hk
        have HM : Hid (n - j = m + 1) := hm
        have HL : Hid (ks.length = j) := hkl
        obtain ⟨z, hz⟩ : ∃ z : Int, ((P.length + Q.length + ns.length : Nat) : Int) - 1 = z := ⟨_, rfl⟩
        rw [hz] at HP HC'
        clear HC hq hpre hk hm hlen
        go_wp2_with fail
        refine HC'.out.mono ?_
        rintro e w2 ⟨V2, Q2, hQ2, rfl, r2, f2, o2, n2, fr2, nw2⟩
        have hql : Q2.length = ns.length := by rw [← hQ2]; simp
        have k2 := HK.out.reply r2 f2 o2 n2 fr2 nw2 (by rw [List.length_append]; omega)
        have sz2 := k2.fr.size
        have hkown := k2.kown
        have hks : ks.length ≤ 1000 := by have := HL.out; omega
        clear r2 f2 o2 n2 fr2 nw2
        go_wp2_with (at_builtin; refine wpList_append_own_at _ rfl _ _ 42 rfl B 2 i0 _ 1 8 Tryd.underlying42 hi hz0 hz1 hz2 rfl (by decide) _ _ _ rfl (hkown.alloc _) ⟨w2.heap.size, 0, none⟩ 1 1 [.int .i64 z] rfl rfl ?c1 ?c2 ?c3 ?c4 ?c5 ?_)
        case c1 => exact cell_one_new _ _ _
        case c2 => intro y hy; simp at hy; subst hy; rfl
        case c3 => unfold maxLen; omega
        case c4 => omega
        case c5 => simp; omega
        intro v' w5 hown' hgrow _ hblk
        have k5 : Hid (KidsAt w rb s at_ B V P v' w5 (Q ++ Q2) (ks ++ [z]) (q + u) V2) := k2.push (by rw [HL.out]; exact hown') hgrow hblk
        clear hown' hgrow hblk k2 hkown
        go_wp2
        go_roundw
        case rel =>
          refine ⟨j + 1, Q ++ Q2, ks ++ [z], q + u, V2, by omega, by go_num, by rw [List.length_append, HL.out]; rfl, k5.out, ?_⟩
          have e1 : n - (j + 1) = m := by have := HM.out; omega
          rw [HP.out, e1, List.map_append, hQ2, List.length_append, hql, Nat.add_assoc at_, Nat.add_assoc P.length]
        case measure => simp [intOf] <;> omega
    · obtain rfl : j = n := by omega
      rw [Nat.sub_self] at hpre
      have HP : Hid (T = .inr (Q.map Prod.fst ++ [], ks ++ [], q + 0)) := hpre
      have HK : Hid _ := hk
      clear hpre hk
      go_wp2
      go_ret
      rw [HP.out]
      simp only [List.append_nil, Nat.add_zero]
      exact ⟨V1, Q, _, rfl, rfl, HK.out.rd, HK.out.fit, HK.out.own, HK.out.kown, HK.out.apart, HK.out.knew, HK.out.new, HK.out.fr, HK.out.nw⟩
end Go.Proofs.YtcgeafdakaeicaaDoor
