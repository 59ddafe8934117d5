/- FnExactDbOf: the law's walk. -/
import Derived.Test.YtapdoechmnjaeaaGreatDoorG7
import Derived.Test.YtapdoechmnjaeaaGreatDoorGb
import Derived.Deep.RegionWith
import Derived.Deep.DeepCutAuto
namespace Go.Proofs.YtapdoechmnjaeaaGreatDoor
open Go.RowKit Go.Sort
open Kk (Rk rk0 texL texR decS scoreB rightB ranksB OwnR flatR encR markB RanksIn)
open Hp (refV two_at Cl cl0 CellsIn Fit getB heapB cells_below flatC)

/-- What DbOf leaves, said in one way whether there are keys or not. -/
def DbRes (w : World) (ks : List Ke) (o : Bool) (nl : Nat) (e : Ending) (w' : World) : Prop := ∃ a c L, e = .returned (.tuple #[.slice a nl c, .bool o]) ∧ L.map KV.key = ks ∧ DbOwn w' w.heap.size (.slice a nl c) L ∧ Small L ∧ L.length = nl ∧ Below w.heap.size w w'

theorem dbOf_len {s : ByteArray} {C : List Cl} {es : List En} {ks : List Ke} (h : dbOfM s C es = some ks) : ks.length ≤ 20 := by
  unfold dbOfM at h
  split at h
  · split at h
    · cases h
    · rename_i ks' _
      split at h
      · rename_i hok
        cases h
        unfold dbOkB at hok
        rw [Bool.and_eq_true] at hok
        exact of_decide_eq_true hok.1
      · cases h
  · cases h

theorem FetchEnd.res {w : World} {r : Option (List Ke)} {e : Ending} {w' : World} (h : FetchEnd w r e w') : DbRes w (r.getD []) r.isSome (r.getD []).length e w' := by
  obtain ⟨hb, h⟩ := h
  cases r with
  | none => exact ⟨none, 0, [], h, rfl, dbown_nil _ _ hb.size, fun i hi => by simp at hi, rfl, hb⟩
  | some ks =>
    obtain ⟨v, L, he, hL, ho, hs⟩ := h
    obtain ⟨a, A, c, e1, _⟩ := ho.at
    have hl : L.length = ks.length := by rw [← hL, List.length_map]
    rw [hl] at e1
    subst e1
    exact ⟨a, c, L, he, hL, ho, hs, hl, hb⟩

theorem DbOwn.on {w w' : World} {B : Nat} {v : Value} {L : List KV} (h : DbOwn w B v L) (hz : w.heap.size ≤ w'.heap.size) (hk : ∀ k, B ≤ k → k < w.heap.size → w'.heap[k]? = w.heap[k]?) : DbOwn w' B v L := by
  obtain ⟨β, hr⟩ := h.vals
  refine ⟨owns_block h.row fun g hg => hk g (own_lt h.row hg).1 (own_lt h.row hg).2, β, ⟨hr.low, hr.mono, Nat.le_trans hr.top hz, fun i hi => ?_, hr.lt1, hr.lt2, hr.lt3⟩⟩
  have ho := hr.own i hi
  have hl := hr.low i (by omega)
  exact ⟨owns_block ho.items fun g hg => hk g (by have := (own_lt ho.items hg).1; omega) (own_lt ho.items hg).2, owns_block ho.pairs fun g hg => hk g (by have := (own_lt ho.pairs hg).1; omega) (own_lt ho.pairs hg).2, owns_block ho.ranks fun g hg => hk g (by have := (own_lt ho.ranks hg).1; omega) (own_lt ho.ranks hg).2⟩

theorem keys_alike {L L' : List KV} {ks : List Ke} (h : L.map KV.key = ks) (h' : L'.map KV.key = ks) (i : Nat) : (L'.getD i kv0).key = (L.getD i kv0).key := by
  rw [← key_at, ← key_at, h, h']

set_option maxHeartbeats 8000000 in
set_option maxRecDepth 100000 in
theorem dbOf_walk (s : ByteArray) (a : Option Addr) (b off n c : Nat) (C : List Cl) (ea : Option Addr) (eb eo m ec : Nat) (es : List En) (w : World) (h : CellsIn w a b off n C) (hs : s.size ≤ 9223372036854775807) (hn : n ≤ 9223372036854775807) (hf : ∀ i, i < n → Fit (C.getD i cl0)) (he : EntsIn w ea eb eo m es) (hm : m ≤ 9223372036854775807) (hz : ∀ i, i < m → (es.getD i en0).name.size ≤ 9223372036854775807) (hR : Ready w) :
    Calls Tryz.prog 4 #[.agg #[.string s, .slice a n c], .slice ea m ec] w fun e w' => e = .returned (.bool true) ∧ Below w.heap.size w w' := by
  have h6 := hR.six
  obtain ⟨A0, hA0⟩ : ∃ A0, w.alloc (.cells #[.string s, .slice a n c] 51) = A0 := ⟨_, rfl⟩
  have HA0 : Hid (w.alloc (.cells #[.string s, .slice a n c] 51) = A0) := hA0
  have b0 : Below w.heap.size w A0 := by rw [← hA0]; exact (Below.refl _ w).alloc (Nat.le_refl _) _
  have r0 : RowAt A0 w.heap.size 51 #[.string s, .slice a n c] := by rw [← hA0]; exact RowAt.new w 51 _
  have z0 : A0.heap.size = w.heap.size + 1 := by rw [← hA0]; simp
  have HB : Hid (Below w.heap.size w A0 ∧ RowAt A0 w.heap.size 51 #[.string s, .slice a n c]) := ⟨b0, r0⟩
  have HC : Hid (∀ W, Below A0.heap.size A0 W → CellsIn W a b off n C) := fun W hb => cells_below h (b0.trans (hb.mono b0.size))
  have HE : Hid (∀ W, Below A0.heap.size A0 W → EntsIn W ea eb eo m es) := fun W hb => he.below (b0.trans (hb.mono b0.size))
  have HRD : Hid (∀ W, Below A0.heap.size A0 W → Ready W) := fun W hb => hR.below ((b0.mono h6).trans (hb.mono (by omega)))
  have HBX : Hid (∀ W, Below A0.heap.size A0 W → W.cell? ⟨w.heap.size, 0, none⟩ = some (.string s) ∧ W.cell? ⟨w.heap.size, 1, none⟩ = some (.slice a n c)) := fun W hb => two_at (r0.below hb r0.lt)
  have HFT : Hid (∀ i, i < n → Fit (C.getD i cl0)) := hf
  have HZ : Hid (∀ i, i < m → (es.getD i en0).name.size ≤ 9223372036854775807) := hz
  have HSZ : Hid (Calls Tryz.prog 13 #[.agg #[.string s, .slice a n c], .int .i64 1048576] A0 fun e w' => (∃ r : Int, e = .returned (.int .i64 r) ∧ (r < 0 ∨ (r = 1048576 - s.size - n))) ∧ Below A0.heap.size A0 w') := Hp.szHeap_any s a n c A0 hs hn
  clear h hf he hz hR hA0 r0
  go_enter Tryz.func4, Tryz.ntmps4
  go_wp2_with fail
  rw [HA0.out]
  refine HSZ.out.mono ?_
  rintro e w1 ⟨⟨r, rfl, hr⟩, b1⟩
  have s1 := b1.size
  by_cases hneg : r < 0
  · clear hr
    have bb := b0.trans (b1.mono b0.size)
    go_wp2
    go_ret
    exact ⟨rfl, bb⟩
  have hsn : s.size ≤ 1048576 ∧ n ≤ 1048576 ∧ 0 ≤ r ∧ r ≤ 1048576 := by omega
  obtain ⟨hsz, hnz, hr0, hr1⟩ := hsn
  have HSE : Hid (Calls Tryz.prog 14 #[.slice ea m ec, .int .i64 r] w1 fun e w' => ∃ r' : Int, e = .returned (.int .i64 r') ∧ (r' < 0 ∨ (m ≤ 1048576 ∧ ∀ i, i < m → (es.getD i en0).name.size ≤ 1048576)) ∧ Below w1.heap.size w1 w') := szEntries_any ea eb eo m ec es r w1 (HE.out w1 b1) hm HZ.out hr0 hr1
  clear hr HSZ
  go_wp2_with fail
  refine HSE.out.mono ?_
  rintro e w2 ⟨r2, rfl, hr2, b2⟩
  have b02 := b1.trans (b2.mono s1)
  have s2 := b02.size
  by_cases hneg2 : r2 < 0
  · clear hr2
    have bb := b0.trans (b02.mono b0.size)
    go_wp2
    go_ret
    exact ⟨rfl, bb⟩
  have hmz : m ≤ 1048576 ∧ ∀ i, i < m → (es.getD i en0).name.size ≤ 1048576 := hr2.resolve_left hneg2
  clear hr2 HSE HZ b1 b2
  obtain ⟨hm2, hz2⟩ := hmz
  -- what DbOf says
  have hlen : ((dbOfM s C es).getD []).length ≤ 20 := by
    cases hd : dbOfM s C es with
    | none => simp
    | some ks => exact dbOf_len hd
  have HSP : Hid (∀ W ha hb2 ho hc2 aa ab ao ac, CellsIn W ha hb2 ho n C → EntsIn W aa ab ao m es → Calls Tryz.prog 8 #[.agg #[.string s, .slice ha n hc2], .slice aa m ac] W (DbRes W ((dbOfM s C es).getD []) (dbOfM s C es).isSome ((dbOfM s C es).getD []).length)) := fun W ha hb2 ho hc2 aa ab ao ac h1 h2 => (specDbOf_any s ha hb2 ho n hc2 C aa ab ao m ac es W h1 HFT.out h2 hm2 hz2 hsz hnz).mono fun _ _ h => h.res
  have HIM : Hid (∀ W ha hb2 ho hc2 aa ab ao ac, Ready W → CellsIn W ha hb2 ho n C → EntsIn W aa ab ao m es → Calls Tryz.prog 7 #[.agg #[.string s, .slice ha n hc2], .slice aa m ac] W (DbRes W ((dbOfM s C es).getD []) (dbOfM s C es).isSome ((dbOfM s C es).getD []).length)) := fun W ha hb2 ho hc2 aa ab ao ac hR h1 h2 => (implDbOf_any s ha hb2 ho n hc2 C aa ab ao m ac es W h1 HFT.out h2 hm2 hz2 hsz hnz hR).mono fun _ _ h => h.res
  generalize (dbOfM s C es).getD [] = ks at *
  generalize (dbOfM s C es).isSome = ok at *
  generalize hnl : ks.length = nl at *
  have HEQ : Hid (∀ W B B' x1 d1 L1 x2 d2 L2, DbOwn W B (.slice x1 nl d1) L1 → DbOwn W B' (.slice x2 nl d2) L2 → L1.length = nl → L2.length = nl → Small L1 → Small L2 → L1.map KV.key = ks → L2.map KV.key = ks → Calls Tryz.prog 17 #[.slice x1 nl d1, .slice x2 nl d2] W fun e w' => e = .returned (.bool true) ∧ Below W.heap.size W w') := fun W B B' x1 d1 L1 x2 d2 L2 h1 h2 l1 l2 s1 s2 k1 k2 => by
    obtain ⟨p1, P1, q1, e1, at1⟩ := h1.at
    obtain ⟨p2, P2, q2, e2, at2⟩ := h2.at
    rw [l1] at e1 at1
    rw [l2] at e2 at2
    rw [e1, e2]
    exact eqKeys_any p1 p2 P1 P2 nl q1 q2 L1 L2 W (at1.rd s1) (at2.rd s2) s1 (fun i _ => keys_alike k1 k2 i) (by omega)
  clear hnl hz2
  have HTH : Hid (∀ W, CellsIn W a b off n C → Calls Tryz.prog 15 #[.agg #[.string s, .slice a n c]] W fun e w' => ∃ g, e = .returned (.agg #[.string s, .slice (some ⟨g, 0, none⟩) n n]) ∧ w'.ownsRow W.heap.size 131 4 (.slice (some ⟨g, 0, none⟩) n n) n (flatC C) ∧ Below W.heap.size W w') := fun W hc => Hp.toHeapO_any s a b off n c C W hc hnz
  have HTE : Hid (∀ W, EntsIn W ea eb eo m es → Calls Tryz.prog 16 #[.slice ea m ec] W fun e w' => e = .returned (.slice (some ⟨W.heap.size, 0, none⟩) m m) ∧ RowE w' W.heap.size m es ∧ Below W.heap.size W w' ∧ W.heap.size < w'.heap.size) := fun W h => toEntries_any ea eb eo m ec es W h hm2
  -- the specification's answer
  obtain ⟨k0, k1⟩ := HBX.out w2 b02
  go_wp2_with fail
  refine (HTH.out w2 (HC.out w2 b02)).mono ?_
  rintro e w3 ⟨g1, rfl, o3, b3⟩
  have b03 := b02.trans (b3.mono s2)
  have s3 := b03.size
  have O3 : Hid (w3.ownsRow w2.heap.size 131 4 (.slice (some ⟨g1, 0, none⟩) n n) n (flatC C)) := o3
  clear o3 k0 k1
  go_wp2_with fail
  refine (HTE.out w3 (HE.out w3 b03)).mono ?_
  rintro e w4 ⟨rfl, e4, b4, l4⟩
  have b04 := b03.trans (b4.mono s3)
  have s4 := b04.size
  have C4 : Hid (CellsIn w4 (some ⟨g1, 0, none⟩) g1 0 n C) := Hp.owns_cellsIn (owns_below O3.out b4)
  have E4 : Hid (EntsIn w4 (some ⟨w3.heap.size, 0, none⟩) w3.heap.size 0 m es) := by obtain ⟨_, _, _, hh⟩ := e4; exact hh
  clear e4 O3 l4
  go_wp2_with fail
  refine (HSP.out w4 _ _ _ _ _ _ _ _ C4.out E4.out).mono ?_
  rintro e w5 ⟨v0, d0, L0, rfl, hL0, o5, sm0, ln0, b5⟩
  have b05 := b04.trans (b5.mono s4)
  have s5 := b05.size
  have O5 : Hid (DbOwn w5 w4.heap.size (.slice v0 nl d0) L0 ∧ Small L0 ∧ L0.length = nl ∧ L0.map KV.key = ks) := ⟨o5, sm0, ln0, hL0⟩
  clear o5 sm0 ln0 hL0 C4 E4 HSP b3 b4 b5
  -- the arguments of the program
  obtain ⟨k0, k1⟩ := HBX.out w5 b05
  go_wp2_with fail
  refine (HTH.out w5 (HC.out w5 b05)).mono ?_
  rintro e w6 ⟨gx, rfl, o6, b6⟩
  have b06 := b05.trans (b6.mono s5)
  have s6 := b06.size
  obtain ⟨A6, hA6⟩ : ∃ A6, w6.alloc (.cells #[.string s, .slice (some ⟨gx, 0, none⟩) n n] 26) = A6 := ⟨_, rfl⟩
  have HA6 : Hid (w6.alloc (.cells #[.string s, .slice (some ⟨gx, 0, none⟩) n n] 26) = A6) := hA6
  have ba6 : Below w6.heap.size w6 A6 := by rw [← hA6]; exact (Below.refl _ w6).alloc (Nat.le_refl _) _
  have ra6 : RowAt A6 w6.heap.size 26 #[.string s, .slice (some ⟨gx, 0, none⟩) n n] := by rw [← hA6]; exact RowAt.new w6 26 _
  have bA6 := b06.trans (ba6.mono s6)
  have zA6 := ba6.size
  have sA6 := bA6.size
  have s56 := b6.size
  have O6 : Hid (A6.ownsRow w5.heap.size 131 4 (.slice (some ⟨gx, 0, none⟩) n n) n (flatC C)) := owns_below o6 ba6
  have HBY : Hid (∀ W, Below A6.heap.size A6 W → W.cell? ⟨w6.heap.size, 0, none⟩ = some (.string s) ∧ W.cell? ⟨w6.heap.size, 1, none⟩ = some (.slice (some ⟨gx, 0, none⟩) n n)) := fun W hb => two_at (ra6.below hb ra6.lt)
  have B56 : Hid (Below w5.heap.size w5 A6) := b6.trans (ba6.mono b6.size)
  clear o6 hA6 ra6 k0 k1 b6 ba6
  have HTE6 : Hid (Calls Tryz.prog 16 #[.slice ea m ec] A6 fun e w' => e = .returned (.slice (some ⟨A6.heap.size, 0, none⟩) m m) ∧ RowE w' A6.heap.size m es ∧ Below A6.heap.size A6 w' ∧ A6.heap.size < w'.heap.size) := HTE.out A6 (HE.out A6 bA6)
  go_wp2_with fail
  rw [HA6.out]
  refine HTE6.out.mono ?_
  rintro e w7 ⟨rfl, e7, b7, l7⟩
  have b07 := bA6.trans (b7.mono sA6)
  have s7 := b07.size
  obtain ⟨k0, k1⟩ := HBY.out w7 b7
  have E7 : Hid (RowE w7 A6.heap.size m es) := e7
  have HIM7 : Hid (Calls Tryz.prog 7 #[.agg #[.string s, .slice (some ⟨gx, 0, none⟩) n n], .slice (some ⟨A6.heap.size, 0, none⟩) m m] w7 (DbRes w7 ks ok nl)) := by
    obtain ⟨_, _, _, hh⟩ := e7
    exact HIM.out w7 _ _ _ _ _ _ _ _ (HRD.out w7 b07) (Hp.owns_cellsIn (owns_below O6.out b7)) hh
  clear e7 HTE6 HA6
  -- the program's answer
  go_wp2_with fail
  refine HIM7.out.mono ?_
  rintro e w8 ⟨vg, dg, Lg, rfl, hLg, o8, smg, lng, b8⟩
  have b68 := b7.trans (b8.mono b7.size)
  have b08 := b07.trans (b8.mono s7)
  have s8 := b08.size
  have s78 := b8.size
  have b58 : Below w5.heap.size w5 w8 := B56.out.trans (b68.mono (by omega))
  have OG : Hid (DbOwn w8 w7.heap.size (.slice vg nl dg) Lg ∧ Small Lg ∧ Lg.length = nl ∧ Lg.map KV.key = ks) := ⟨o8, smg, lng, hLg⟩
  have HQ8 : Hid (Calls Tryz.prog 17 #[.slice vg nl dg, .slice v0 nl d0] w8 fun e w' => e = .returned (.bool true) ∧ Below w8.heap.size w8 w') := HEQ.out w8 _ _ _ _ Lg _ _ L0 o8 (O5.out.1.below b58) lng O5.out.2.2.1 smg O5.out.2.1 hLg O5.out.2.2.2
  have b78 : Below w7.heap.size w7 w8 := b8
  clear o8 smg lng hLg HIM7 k0 k1 b8
  go_wp2_with fail
  refine HQ8.out.mono ?_
  rintro e w9 ⟨rfl, b9⟩
  have b69 := b68.trans (b9.mono (by have := b68.size; omega))
  have b09 := b08.trans (b9.mono s8)
  have s9 := b09.size
  have s89 := b9.size
  have b89 : Below w8.heap.size w8 w9 := b9
  have hne : decide (ok ≠ ok) = false := by simp
  clear HQ8 b9
  -- the arguments stand
  obtain ⟨k0, k1⟩ := HBX.out w9 b09
  obtain ⟨j0, j1⟩ := HBY.out w9 b69
  have C9 := HC.out w9 b09
  have X9 : Hid (CellsIn w9 (some ⟨gx, 0, none⟩) gx 0 n C) := Hp.owns_cellsIn (owns_below O6.out b69)
  go_upto_region 14 with fail
  go_cut [58] (fun x wx => x = .bool false ∧ Below w9.heap.size w9 wx)
  case first =>
    have bd : Below w9.heap.size w9 w9.drew := Hp.below_drewN w9 1
    have hd := cells_below C9 bd
    go_region_with (first
      | (go_at_call 15; refine (HTH.out _ hd).mono ?_; rintro e w10 ⟨g3, rfl, o10, b10⟩; have b910 : Below w9.heap.size w9 w10 := bd.trans b10; have i0 := (b910.cell (p := ⟨w6.heap.size, 0, none⟩) (by have := b69.size; show w6.heap.size < w9.heap.size; omega)).trans j0; have i1 := (b910.cell (p := ⟨w6.heap.size, 1, none⟩) (by have := b69.size; show w6.heap.size < w9.heap.size; omega)).trans j1; have X10 := cells_below X9.out b910; have Y10 := Hp.owns_cellsIn o10)
      | (go_at_call 18; refine (Hp.eqHeap_any s _ _ gx 0 g3 0 n n n C _ X10 Y10 hnz).mono ?_; rintro e w11 ⟨rfl, b11⟩; have b911 := b910.trans (b11.mono b910.size)))
    all_goals
      go_wp2_with fail
      go_meet
      case rel => exact ⟨rfl, b911⟩
  case rest =>
    obtain ⟨rfl, b9c⟩ := hcut
    have b0c := b09.trans (b9c.mono s9)
    have sc := b0c.size
    have s9c := b9c.size
    have b6c := b69.trans (b9c.mono (by have := b69.size; omega))
    have b8c := b89.trans (b9c.mono s89)
    clear k0 k1 j0 j1 C9 X9
    go_wp2_with fail
    refine (HTE.out wc (HE.out wc b0c)).mono ?_
    rintro e w12 ⟨rfl, e12, bc, l12⟩
    have b012 := b0c.trans (bc.mono sc)
    have b612 := b6c.trans (bc.mono (by have := b6c.size; omega))
    have b812 := b8c.trans (bc.mono (by have := b8c.size; omega))
    have b712 : Below w7.heap.size w7 w12 := b78.trans (b812.mono s78)
    have HQE : Hid (Calls Tryz.prog 19 #[.slice (some ⟨A6.heap.size, 0, none⟩) m m, .slice (some ⟨wc.heap.size, 0, none⟩) m m] w12 fun e w' => e = .returned (.bool true) ∧ Below w12.heap.size w12 w') := by
      obtain ⟨_, _, _, h1⟩ := E7.out.below b712
      obtain ⟨_, _, _, h2⟩ := e12
      exact eqEntries_any _ _ A6.heap.size 0 wc.heap.size 0 m m m es w12 h1 h2 hm2
    have s12 := b012.size
    clear e12 bc
    go_wp2_with fail
    refine HQE.out.mono ?_
    rintro e w13 ⟨rfl, b13⟩
    have b013 := b012.trans (b13.mono s12)
    have b613 := b612.trans (b13.mono (by have := b612.size; omega))
    have b713 := b712.trans (b13.mono (by have := b712.size; omega))
    have b813 := b812.trans (b13.mono (by have := b812.size; omega))
    have s13 := b013.size
    have s713 := b713.size
    have s813 := b813.size
    obtain ⟨j0, j1⟩ := HBY.out w13 b613
    have O13 : Hid (w13.ownsRow w5.heap.size 131 4 (.slice (some ⟨gx, 0, none⟩) n n) n (flatC C)) := owns_below O6.out b613
    have hgx : w5.heap.size ≤ gx ∧ gx < A6.heap.size := own_lt O6.out rfl
    obtain ⟨hgx1, hgx2⟩ := hgx
    have HMH : Hid (Calls Tryz.prog 20 #[.agg #[.string s, .slice (some ⟨gx, 0, none⟩) n n], .int .i64 1] w13 fun e w' => e = .returned (.int .i64 (1 + 4 * n : Nat)) ∧ w13.grownBy w' (some gx)) := (Hp.markHeapV s _ w5.heap.size n C w13 O13.out hnz).mono fun _ _ ⟨h1, _, h3⟩ => ⟨h1, h3⟩
    clear HQE b13 O6 O13 b612 b712 b812 b012 b6c b8c b0c
    -- the arguments are marked
    go_wp2_with fail
    refine HMH.out.mono ?_
    rintro e w14 ⟨rfl, g14⟩
    have s14 := g14.size
    have HME : Hid (Calls Tryz.prog 21 #[.slice (some ⟨A6.heap.size, 0, none⟩) m m, .int .i64 (1 + 4 * n : Nat)] w14 fun e w' => e = .returned (.int .i64 (1 + 4 * n + 4 * m : Nat)) ∧ w14.grownBy w' (some A6.heap.size)) := by
      obtain ⟨D, hD, hrow, _⟩ := E7.out.below b713
      have hrow' : RowAt w14 A6.heap.size 39 D := (g14.block A6.heap.size hrow.lt (by simp; omega)).trans hrow
      exact markEntries_any A6.heap.size m (1 + 4 * n) w14 D hD hrow' hm2 (by omega) (by omega)
    clear HMH j0 j1
    go_wp2_with fail
    refine HME.out.mono ?_
    rintro e w15 ⟨rfl, g15⟩
    have s15 := g15.size
    have B15 : Hid (Below w5.heap.size w5 w15) := by
      have h1 : Below w5.heap.size w5 w13 := B56.out.trans (b613.mono (by omega))
      have h2 : Below w5.heap.size w5 w14 := h1.grown g14 (by omega) fun k hk => by cases hk; omega
      exact h2.grown g15 (by omega) fun k hk => by cases hk; omega
    have OG15 : Hid (DbOwn w15 w7.heap.size (.slice vg nl dg) Lg) := OG.out.1.on (by omega) fun k hk1 hk2 => (g15.block k (by omega) (by simp; omega)).trans ((g14.block k (by omega) (by simp; omega)).trans (b813.block k hk2))
    have b015 : Below A0.heap.size A0 w15 := b05.trans (B15.out.mono s5)
    have hge : decide (((1 + 4 * n + 4 * m : Nat) : Int) < 0) = false := by simp; omega
    have HQ15 : Hid (Calls Tryz.prog 17 #[.slice vg nl dg, .slice v0 nl d0] w15 fun e w' => e = .returned (.bool true) ∧ Below w15.heap.size w15 w') := HEQ.out w15 _ _ _ _ Lg _ _ L0 OG15.out (O5.out.1.below B15.out) OG.out.2.2.1 O5.out.2.2.1 OG.out.2.1 O5.out.2.1 OG.out.2.2.2 O5.out.2.2.2
    generalize 1 + 4 * n + 4 * m = km at *
    clear HME E7 g14 g15
    go_wp2_with fail
    refine HQ15.out.mono ?_
    rintro e w16 ⟨rfl, b16⟩
    have s16 := b16.size
    have b716 : w7.heap.size ≤ w16.heap.size := by omega
    have b516 : Below w5.heap.size w5 w16 := B15.out.trans (b16.mono (by omega))
    have HMK : Hid (Calls Tryz.prog 22 #[.slice vg nl dg, .int .i64 1] w16 fun e w' => e = .returned (.int .i64 (lastKs 1 Lg : Nat)) ∧ (∃ a A c, .slice vg nl dg = Value.slice a nl c ∧ DbRd w' a A nl (marksKs 1 Lg)) ∧ Below w7.heap.size w16 w') := by
      have := markKeys_any w7.heap.size (.slice vg nl dg) Lg w16 (OG15.out.below b16) b716 OG.out.2.1 (by rw [OG.out.2.2.1]; exact hlen)
      rw [OG.out.2.2.1] at this
      exact this
    have HHK : Hid (∀ W a A c, DbRd W a A nl (marksKs 1 Lg) → Calls Tryz.prog 23 #[.slice a nl c, .int .i64 1] W fun e w' => e = .returned (.int .i64 (lastKs 1 Lg : Nat)) ∧ Below W.heap.size W w') := fun W a A c hd => heldKeys_any a A nl c Lg W OG.out.2.2.1 hd hlen (fun i hi => (OG.out.2.1 i (by rw [OG.out.2.2.1]; exact hi)).1.one)
    generalize lastKs 1 Lg = q at *
    clear HQ15 OG15 hge b16
    -- the answer is marked
    go_wp2_with fail
    refine HMK.out.mono ?_
    rintro e w17 ⟨rfl, ⟨va, vA, vc, hve, hd17⟩, b17⟩
    injection hve with hve1 _ hve3
    subst hve1 hve3
    have s17 := b17.size
    have b517 : Below w5.heap.size w5 w17 := b516.trans (b17.mono (by omega))
    have HD17 : Hid (DbRd w17 vg vA nl (marksKs 1 Lg)) := hd17
    have HH17 : Hid (Calls Tryz.prog 23 #[.slice vg nl dg, .int .i64 1] w17 fun e w' => e = .returned (.int .i64 (q : Nat)) ∧ Below w17.heap.size w17 w') := HHK.out w17 _ _ _ hd17
    clear hd17 HMK
    go_wp2_with fail
    refine HH17.out.mono ?_
    rintro e w18 ⟨rfl, b18⟩
    have s18 := b18.size
    have b518 : Below w5.heap.size w5 w18 := b517.trans (b18.mono (by omega))
    have b018 : Below A0.heap.size A0 w18 := b05.trans (b518.mono s5)
    have hgq : decide (((q : Nat) : Int) < 0) = false := by simp
    obtain ⟨k0, k1⟩ := HBX.out w18 b018
    have HT18 : Hid (Calls Tryz.prog 15 #[.agg #[.string s, .slice a n c]] w18 fun e w' => ∃ g, e = .returned (.agg #[.string s, .slice (some ⟨g, 0, none⟩) n n]) ∧ w'.ownsRow w18.heap.size 131 4 (.slice (some ⟨g, 0, none⟩) n n) n (flatC C) ∧ Below w18.heap.size w18 w') := HTH.out w18 (HC.out w18 b018)
    clear HH17
    -- once more
    go_wp2_with fail
    refine HT18.out.mono ?_
    rintro e w19 ⟨g4, rfl, o19, b19⟩
    have s19 := b19.size
    have b019 := b018.trans (b19.mono b018.size)
    have O19 : Hid (w19.ownsRow w18.heap.size 131 4 (.slice (some ⟨g4, 0, none⟩) n n) n (flatC C)) := o19
    have HT19 : Hid (Calls Tryz.prog 16 #[.slice ea m ec] w19 fun e w' => e = .returned (.slice (some ⟨w19.heap.size, 0, none⟩) m m) ∧ RowE w' w19.heap.size m es ∧ Below w19.heap.size w19 w' ∧ w19.heap.size < w'.heap.size) := HTE.out w19 (HE.out w19 b019)
    clear o19 k0 k1 HT18
    go_wp2_with fail
    refine HT19.out.mono ?_
    rintro e w20 ⟨rfl, e20, b20, l20⟩
    have b020 := b019.trans (b20.mono b019.size)
    have b1820 : Below w18.heap.size w18 w20 := b19.trans (b20.mono s19)
    have s20 := b1820.size
    have HI20 : Hid (Calls Tryz.prog 7 #[.agg #[.string s, .slice (some ⟨g4, 0, none⟩) n n], .slice (some ⟨w19.heap.size, 0, none⟩) m m] w20 (DbRes w20 ks ok nl)) := by
      obtain ⟨_, _, _, hh⟩ := e20
      exact HIM.out w20 _ _ _ _ _ _ _ _ (HRD.out w20 b020) (Hp.owns_cellsIn (owns_below O19.out b20)) hh
    clear e20 O19 HT19 HIM
    go_wp2_with fail
    refine HI20.out.mono ?_
    rintro e w21 ⟨vh, dh, Lh, rfl, hLh, o21, smh, lnh, b21⟩
    have b1821 : Below w18.heap.size w18 w21 := b1820.trans (b21.mono s20)
    have s21 := b1821.size
    have b521 : Below w5.heap.size w5 w21 := b518.trans (b1821.mono (by omega))
    have b021 : Below A0.heap.size A0 w21 := b05.trans (b521.mono s5)
    have b1721 : Below w17.heap.size w17 w21 := b18.trans (b1821.mono s18)
    have HQ21 : Hid (Calls Tryz.prog 17 #[.slice vh nl dh, .slice v0 nl d0] w21 fun e w' => e = .returned (.bool true) ∧ Below w21.heap.size w21 w') := HEQ.out w21 _ _ _ _ Lh _ _ L0 o21 (O5.out.1.below b521) lnh O5.out.2.2.1 smh O5.out.2.1 hLh O5.out.2.2.2
    clear o21 smh lnh hLh HI20
    go_wp2_with fail
    refine HQ21.out.mono ?_
    rintro e w22 ⟨rfl, b22⟩
    have b022 := b021.trans (b22.mono b021.size)
    have b1722 := b1721.trans (b22.mono b1721.size)
    have HH22 : Hid (Calls Tryz.prog 23 #[.slice vg nl dg, .int .i64 1] w22 fun e w' => e = .returned (.int .i64 (q : Nat)) ∧ Below w22.heap.size w22 w') := HHK.out w22 _ _ _ (HD17.out.below b1722)
    clear HQ21 HD17 HHK
    go_wp2_with fail
    refine HH22.out.mono ?_
    rintro e w23 ⟨rfl, b23⟩
    have b023 := b022.trans (b23.mono b022.size)
    have bend := b0.trans (b023.mono b0.size)
    go_wp2
    go_ret
    exact ⟨rfl, bend⟩
end Go.Proofs.YtapdoechmnjaeaaGreatDoor
