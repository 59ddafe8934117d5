/- The program's Packed. -/
import Derived.Test.YtjjpplpdpldkeaaHPackI
import Derived.Deep.RegionHeldLaw
import Derived.Deep.RegionWith
import Derived.Deep.DeepCutAuto
namespace Go.Proofs.Ytjjpplpdpldkeaa
open Go.RowKit Go.Sort

set_option maxHeartbeats 4000000 in
set_option maxRecDepth 100000 in
theorem implPacked_any (s : ByteArray) (a : Option Addr) (b off n c : Nat) (L : List Cl) (w : World) (h : CellsIn w a b off n L) (hf : ∀ i, i < n → Fit (L.getD i cl0)) :
    Calls Try.prog 19 #[.agg #[.string s, .slice a n c]] w (HeapEnd w (packD s L) (packL s L) (heapB s L)) := by
  have bw : Below w.heap.size w ((w.alloc (.cells #[.string s, .slice a n c] 26)).alloc (.cells #[.string ⟨#[]⟩, .slice none 0 0] 26)) := Go.Joins.below_alloc2 _ _ _
  have r2 := RowAt.new (w.alloc (.cells #[.string s, .slice a n c] 26)) 26 #[.string ⟨#[]⟩, .slice none 0 0]
  simp only [World.size_alloc] at r2
  have h2 := cells_below h bw
  have l2 := r2.lt
  go_enter Try.func19, Try.ntmps19
  go_wp2_with fail
  generalize (w.alloc (.cells #[.string s, .slice a n c] 26)).alloc (.cells #[.string ⟨#[]⟩, .slice none 0 0] 26) = w1 at *
  refine (openedC_all s a b off n c L w1 h2 hf).mono ?_
  rintro e w2 ⟨p, rfl, hop, b2⟩
  have bb := bw.trans (b2.mono bw.size)
  have q2 := r2.below b2 l2
  have s2 := b2.size
  clear r2 h2 bw b2
  cases hr : heapB s L with
  | false =>
    have HR1 : Hid (packD s L = ⟨#[]⟩) := (pack_no hr).1
    have HR2 : Hid (packL s L = []) := (pack_no hr).2
    have HR3 : Hid (heapB s L = false) := hr
    have u2 := row_ret (D := .string ⟨#[]⟩) (v := .slice none 0 0) q2 rfl
    obtain ⟨e0, e1⟩ := two_at q2
    obtain ⟨g0, g1⟩ := two_at u2
    have z0 := q2.frozen 0
    have z1 := q2.frozen 1
    clear hr q2 u2 hop
    go_wp2
    exact bodyPost_ret (v := .tuple #[.agg #[.string ⟨#[]⟩, .slice none 0 0], .bool false]) (by simp [results, Try.results19, go_sem, g0, g1]) rfl (by rw [HR1.out, HR2.out, HR3.out]; exact heap_no ((bb.setCell (p := ⟨w.heap.size + 1, 0, none⟩) (by simp) _).setCell (p := ⟨w.heap.size + 1, 1, none⟩) (by simp) _))
  | true =>
    have HH : Hid (heapB s L = true) := hr
    have HD : Hid (packD s L = (pkSt s L (liveS L).length).2 ++ dataZ (s.size - (pkSt s L (liveS L).length).2.size)) := if_pos hr
    have HM : Hid (packL s L = (pkSt s L (liveS L).length).1) := if_pos hr
    obtain ⟨g, t, rfl, hom, ⟨cs, ps, ha, ho, hpl, hpc, hpn⟩, hg⟩ := hop hr
    have hR := right_of_open hom
    obtain ⟨hs3, hL⟩ := heap_small hr
    clear hr hop hom
    obtain ⟨a', A', cap', rfl, _⟩ := form_any ho
    have hzv := zeroV56
    have hzs := zeros_len
    have hzn : ¬ zc56 = #[] := fun e => by rw [e] at hzs; cases hzs
    obtain ⟨C0, hr0, hsz0, hd0, ht0, hss0, hcc0⟩ := ha.row
    have c6 : w2.cell? ⟨g, 6000, none⟩ = some (.int .i64 s.size) := (hr0.cell _).trans hss0
    have c7 : w2.cell? ⟨g, 6001, none⟩ = some (.slice a' L.length cap') := (hr0.cell _).trans hcc0
    clear hr0 hsz0 hd0 ht0 hss0 hcc0
    go_upto_region 4 with fail
    go_region_held_law (fun w' => w'.cell? ⟨g, 6000, none⟩ = some (.int .i64 s.size) ∧ w'.cell? ⟨g, 6001, none⟩ = some (.slice a' L.length cap')) (go_keep) (fail)
    have b3 : Below w2.heap.size w2 (w2.alloc (.cells ((zc56.setIfInBounds 6000 (.int .i64 (s.size : Int))).setIfInBounds 6001 (.slice a' L.length cap')) 64)).drew := ((Below.refl _ w2).alloc (Nat.le_refl _) _).drew
    have aG : Arena (w2.alloc (.cells ((zc56.setIfInBounds 6000 (.int .i64 (s.size : Int))).setIfInBounds 6001 (.slice a' L.length cap')) 64)).drew w2.heap.size (byteAt ⟨#[]⟩) (fun _ => false) s.size (.slice a' L.length cap') := by
      have e : byteAt ⟨#[]⟩ = fun _ => 0 := by funext i; simp [byteAt]
      rw [e]
      exact (Arena.made w2 s.size (.slice a' L.length cap')).below (below_drewN _ 1) (by simp)
    have ag := ha.below b3 ha.lt
    have oc := owns_below ho b3
    have pc : ∀ i, i < L.length → g < ps.getD i 0 ∧ RowAt (w2.alloc (.cells ((zc56.setIfInBounds 6000 (.int .i64 (s.size : Int))).setIfInBounds 6001 (.slice a' L.length cap')) 64)).drew (ps.getD i 0) 35 (clV (L.getD i cl0)) := fun i hi => ⟨(hpc i hi).1, (hpc i hi).2.below b3 (hpc i hi).2.lt⟩
    have p2 := q2.below b3 q2.lt
    have bb3 := bb.trans (b3.mono bb.size)
    have hgw2 := ha.lt
    have s3 := b3.size
    clear c6 c7 ha ho hpc q2 hzv hzs hzn b3 bb
    generalize hGe : w2.heap.size = G at *
    generalize (w2.alloc (.cells ((zc56.setIfInBounds 6000 (.int .i64 (s.size : Int))).setIfInBounds 6001 (.slice a' L.length cap')) 64)).drew = w3 at *
    have hBP := byPlace_any g s.size s.size (byteAt s) t t L (.slice a' L.length cap') ps w3 ag oc hpl (fun i hi => (pc i hi).2) hL hR
    go_wp2_with fail
    refine hBP.mono ?_
    clear hBP
    rintro e w4 ⟨v, rfl, ov, b4⟩
    have hI0 : PackI w s L t (.slice a' L.length cap') v ps g G w3.heap.size 0 w4 := ⟨ag.below b4 ag.lt, aG.below b4 aG.lt, owns_below oc b4, ov, fun i hi => ⟨(pc i hi).1, (pc i hi).2.below b4 (pc i hi).2.lt⟩, p2.below b4 p2.lt, bb3.trans (b4.mono bb3.size)⟩
    obtain ⟨av, Av, capv, rfl, hav⟩ := form_any ov
    have HAV : Hid (0 < (liveS L).length → av = some ⟨Av, 0, none⟩) := hav
    have hgw : w.heap.size ≤ g := by omega
    have hgG : g < G := by omega
    have hG1 : w.heap.size + 1 < G := by omega
    clear ag aG oc ov pc p2 b4 bb3 hav
    have HI0 : Hid (PackI w s L t (.slice a' L.length cap') (.slice av (liveS L).length capv) ps g G w3.heap.size 0 w4) := hI0
    clear hI0
    go_wp2_with fail
    go_loopw [7, 9, 31] (fun e _ i wr => ∃ m : Nat, m ≤ (liveS L).length ∧ i = .int .i64 m ∧ e = .int .i64 ((pkSt s L m).2.size : Nat) ∧ PackI w s L t (.slice a' L.length cap') (.slice av (liveS L).length capv) ps g G w3.heap.size m wr) (fun _ _ i _ => (liveS L).length - (intOf i).toNat)
    case atStart => exact ⟨0, Nat.zero_le _, rfl, rfl, HI0.out⟩
    case round =>
      obtain ⟨m, hm, rfl, rfl, hI⟩ := hrel
      have hSl := liveS_len L
      have hm40 : m ≤ 40 := by omega
      by_cases hlt : m < (liveS L).length
      · obtain rfl := HAV.out (by omega)
        have hmem := liveS_at hlt
        have hiL := liveS_lt L _ hmem
        have hok := live_ok hR hmem
        have hroom := pk_room hR hlt
        have hDz := pk_size hR m hm
        have HSZ0 := (pk_size hR (m + 1) (by omega)).trans (pkN_next L hlt)
        have hfr := pk_fresh s L m m (Nat.le_refl _) hlt
        obtain ⟨i, hie⟩ : ∃ i, (liveS L).getD m 0 = i := ⟨_, rfl⟩
        rw [hie] at hmem hiL hok hroom HSZ0 hfr
        obtain ⟨x, hxe⟩ : ∃ x, clOf L i = x := ⟨_, rfl⟩
        rw [hxe] at hok hroom HSZ0 hfr
        rw [← hDz] at hroom HSZ0
        obtain ⟨C, hC, hszC, hdC, htC, hssC, hccC⟩ := hI.aG.row
        have HNX : Hid (∀ w9, wr.grownBy w9 (some G) → RowAt w9 G 64 (C.toList.take (pkSt s L m).2.size ++ Lib.byteCells (cutOf s x).data.toList ++ C.toList.drop ((pkSt s L m).2.size + (cutOf s x).size)).toArray → RowAt w9 (ps.getD i 0) 35 (clV x) ∧ PackI w s L t (.slice a' L.length cap') (.slice (some ⟨Av, 0, none⟩) (liveS L).length capv) ps g G w3.heap.size (m + 1) (w9.setCell ⟨ps.getD i 0, 0, none⟩ (.int .i64 (pkSt s L m).2.size))) :=
          fun w9 h1 h2 => hI.next hlt hie hxe hpl hpn hgw hgG hG1 hok hroom hs3 hC hszC hdC htC hssC hccC h1 h2
        have hcz := cut_size hok
        have hrowp := (hI.pc i hiL).2
        rw [hfr] at hrowp
        have cp : wr.cell? ⟨Av, m, none⟩ = some (.pointer (some ⟨ps.getD i 0, 0, none⟩)) := by
          have := hI.ov.cells rfl m (ptrV (ps.getD i 0)) (by
            have e : (liveS L)[m]? = some i := by rw [← hie, List.getD_eq_getElem?_getD, List.getElem?_eq_getElem hlt]; rfl
            rw [List.getElem?_map, e]; rfl)
          rwa [Addr.add_lit, Nat.zero_add] at this
        have hdat : ∀ j, j < 3000 → wr.cell? ⟨g, j, none⟩ = some (.int .u8 (byteAt s j).toNat) := fun j hj => hI.ag.data j hj
        obtain ⟨_, g1, g2, g3⟩ := hok
        obtain ⟨P, hP⟩ : ∃ P : Nat, x.pos = P := ⟨_, (Int.toNat_of_nonneg g2).symm⟩
        obtain ⟨W, hW⟩ : ∃ W : Nat, x.len = W := ⟨_, (Int.toNat_of_nonneg (by omega)).symm⟩
        have HCU : Hid (cutOf s x = s.extract P (P + W)) := by unfold Hid cutOf; rw [hP, hW]; rfl
        have c0 : wr.cell? ⟨ps.getD i 0, 0, none⟩ = some (.int .i64 P) := by rw [← hP]; exact hrowp.cell 0
        have c1 : wr.cell? ⟨ps.getD i 0, 1, none⟩ = some (.int .i64 W) := by rw [← hW]; exact hrowp.cell 1
        rw [hW, Int.toNat_natCast] at hroom hcz HSZ0
        rw [hP, hW] at g3
        rw [hW] at g1
        obtain ⟨Ds, hDe⟩ : ∃ Ds, (pkSt s L m).2.size = Ds := ⟨_, rfl⟩
        rw [hDe] at hroom HSZ0 HNX ⊢
        have HSZ : Hid ((pkSt s L (m + 1)).2.size = Ds + W) := HSZ0
        have HWx : Hid (x.len = W) := hW
        have hbl : (Lib.byteCells (cutOf s x).data.toList).length = W := by rw [Lib.byteCells_length, ← Lib.size_eq, hcz]
        have hcp : ∀ ty q, (Builtin.copy_ #[22, 22] ty #[.slice (some ⟨G, Ds, none⟩) (3000 - Ds) (3000 - Ds), .slice (some ⟨g, P, none⟩) W (3000 - P)]).run Try.prog (wr.drewN q) = .ok (goInt W) ((wr.drewN q).setRow G (C.toList.take Ds ++ Lib.byteCells (cutOf s x).data.toList ++ C.toList.drop (Ds + (cutOf s x).size)).toArray) := fun ty q => by
          have := run_copy_row Try.prog (wr.drewN q) 22 22 ty 5 G Ds (3000 - Ds) (3000 - Ds) ⟨g, P, none⟩ W (3000 - P) C 64 (Lib.byteCells (cutOf s x).data.toList) Try.underlying22 info5s hC (by rw [hbl]; exact (Nat.min_eq_left (by omega)).symm) (fun j u hj => ?_) (by rw [hbl]; omega) (fun u hu => ?_)
          · rw [hbl] at this
            rw [hcz]
            exact this
          · have hj' : j < W := by
              have := (List.getElem?_eq_some_iff.1 hj).1
              omega
            rw [Addr.add_lit]
            show wr.cell? ⟨g, P + j, none⟩ = some u
            rw [hdat (P + j) (by omega)]
            have hjl : j < (cutOf s x).data.toList.length := by rw [← Lib.size_eq, hcz]; exact hj'
            rw [Lib.byteCells, List.getElem?_map, List.getElem?_eq_getElem hjl] at hj
            have hcut : (cutOf s x).data.toList[j] = byteAt s (P + j) := by
              have e := HCU.out
              have e2 : (cutOf s x).data.toList[j]? = some (byteAt s (P + j)) := by
                rw [e, ← extract_range s P W (by omega)]
                show ((List.range W).map fun i => byteAt s (P + i))[j]? = _
                rw [List.getElem?_map, List.getElem?_range hj']
                rfl
              rw [List.getElem?_eq_getElem hjl] at e2
              exact Option.some.inj e2
            rw [hcut] at hj
            exact hj
          · unfold Lib.byteCells at hu
            obtain ⟨y, _, rfl⟩ := List.mem_map.1 hu
            rfl
        obtain ⟨p, hpe⟩ : ∃ p, ps.getD i 0 = p := ⟨_, rfl⟩
        rw [hpe] at cp c0 c1 HNX
        have dk : decide ((m : Int) < ((liveS L).length : Int)) = true := decide_eq_true (by omega)
        have hP3 : (Ds : Int) ≤ 3000 := by omega
        have hPn : ¬ 3000 = Ds := by omega
        have hP4 : (0 : Int) ≤ (Ds : Int) := by omega
        have HBY := bytesOf_any g p P W wr.drew (by omega) (by omega) c0 c1
        have HC : Hid (RowAt wr G 64 C) := hC
        clear hI hmem hfr hie hxe hC hszC hdC htC hssC hccC hrowp hdat hP hW hDe hbl hpe HSZ0 hDz hcz
        generalize (C.toList.take Ds ++ Lib.byteCells (cutOf s x).data.toList ++ C.toList.drop (Ds + (cutOf s x).size)).toArray = NR at *
        go_upto_region 9 with fail
        go_region_with (first
          | (go_at_call 35; refine HBY.mono ?_; rintro e w8 ⟨rfl, q, rfl⟩; have hcp1 := fun ty => hcp ty (1 + q)))
        have hg9 : wr.grownBy ((wr.drewN (1 + q)).setRow G NR) (some G) := ⟨rfl, rfl, rfl, by simp [World.setRow], fun k _ hk => by rw [setRow_other _ _ _ _ (fun e => hk (by rw [e]))]; rfl⟩
        have hr9 : RowAt ((wr.drewN (1 + q)).setRow G NR) G 64 NR := setRow_heap (wr.drewN (1 + q)) G C NR 64 _ HC.out
        obtain ⟨hrp, hI9⟩ := HNX.out _ hg9 hr9
        have HI9 : Hid _ := hI9
        have HLT : Hid (m < (liveS L).length) := hlt
        have t0 : ((wr.drewN (1 + q)).setRow G NR).cell? ⟨p, 0, none⟩ = some (.int .i64 x.pos) := hrp.cell 0
        have t1 : ((wr.drewN (1 + q)).setRow G NR).cell? ⟨p, 1, none⟩ = some (.int .i64 W) := by rw [← HWx.out]; exact hrp.cell 1
        have z0 := hrp.frozen 0
        clear hI9 hrp hr9 hg9 cp c0 c1 HBY hcp hcp1 HNX HC
        generalize ((wr.drewN (1 + q)).setRow G NR) = w9 at *
        generalize x.pos = xp at *
        go_wp2
        go_roundw
        case rel => exact ⟨m + 1, by have e : m < (liveS L).length := HLT.out; omega, by go_num, congrArg (Value.int .i64) (by have e : (pkSt s L (m + 1)).2.size = Ds + W := HSZ.out; omega), HI9.out⟩
        case measure => have e : m < (liveS L).length := HLT.out; simp [intOf]; omega
      · obtain rfl : m = (liveS L).length := by omega
        have dk : decide ((((liveS L).length : Nat) : Int) < ((liveS L).length : Int)) = false := decide_eq_false (by omega)
        have hDz := pk_size hR _ hm
        have hDle := pk_le hR hm
        have hMl := pk_len s L _ hm
        rw [← hDz] at hDle
        obtain ⟨M, hMe⟩ : ∃ M, (pkSt s L (liveS L).length).1 = M := ⟨_, rfl⟩
        obtain ⟨D, hDe⟩ : ∃ D, (pkSt s L (liveS L).length).2 = D := ⟨_, rfl⟩
        have aG := hI.aG
        have pc := hI.pc
        rw [hMe] at hMl HM pc
        rw [hDe] at hDle HD aG
        have HA := heapO_any G s.size (g + 1) (byteAt D) (fun _ => false) M (.slice a' L.length cap') ps wr aG (by rw [hMl]; exact hI.oc) (by rw [hMl]; exact hpl) (fun i hi => (pc i (by omega)).2) (by omega) hs3
        have HPD : Hid (dataOf (byteAt D) s.size = D ++ dataZ (s.size - D.size)) := pack_data D s.size hDle
        have p2 := hI.p2
        have bb := hI.bb
        obtain ⟨Dn, hDn⟩ : ∃ Dn, (pkSt s L (liveS L).length).2.size = Dn := ⟨_, rfl⟩
        rw [hDn]
        clear hI aG pc hDz hMe hDe hDn
        go_wp2_with fail
        refine HA.mono ?_
        clear HA
        rintro e w7 ⟨v7, rfl, ho7, b7⟩
        rw [HPD.out]
        rw [hMl] at ho7
        obtain ⟨a7, A7, cap7, rfl, _⟩ := form_any ho7
        have p7 := p2.below b7 p2.lt
        have bb7 := bb.trans (b7.mono bb.size)
        have hl7 := p2.lt
        generalize hZ : D ++ dataZ (s.size - D.size) = Z at *
        have u2 := row_ret (D := .string Z) (v := .slice a7 L.length cap7) p7 rfl
        obtain ⟨e0, e1⟩ := two_at p7
        obtain ⟨k0, k1⟩ := two_at u2
        have z0 := p7.frozen 0
        have z1 := p7.frozen 1
        have o8 := Go.Joins.ownsRow_le (ownsRow_setCell_below (ownsRow_setCell_below ho7 (a := ⟨w.heap.size + 1, 0, none⟩) (by simp only; omega) (.string Z)) (a := ⟨w.heap.size + 1, 1, none⟩) (by simp only; omega) (.slice a7 L.length cap7)) (base' := w.heap.size) (by have := bb.size; omega)
        clear u2 p7 ho7
        go_wp2
        exact bodyPost_ret (v := .tuple #[.agg #[.string Z, .slice a7 L.length cap7], .bool true]) (by simp [results, Try.results19, go_sem, k0, k1]) rfl (by rw [HH.out, HD.out, HM.out]; exact ⟨_, rfl, by rw [hMl]; exact o8, (bb7.setCell (p := ⟨w.heap.size + 1, 0, none⟩) (by simp) _).setCell (p := ⟨w.heap.size + 1, 1, none⟩) (by simp) _⟩)
end Go.Proofs.Ytjjpplpdpldkeaa
