/- spec.l1Text and spec.RespText at this dump. -/
import Derived.Test.YtcgeafdakaeicaaDoorRpTMath
namespace Go.Proofs.YtcgeafdakaeicaaDoor.Rp
open Go.RowKit Go.Sort

set_option maxHeartbeats 1000000 in
set_option maxRecDepth 100000 in
theorem dec_int (z : Int) (w : World) (h0 : -1000000000000000000 ≤ z) (h1 : z ≤ 1000000000000000000) :
    Calls Tryd.prog 54 #[.int .i64 z] w fun e w' => e = .returned (.string ⟨(Lib.itoa z).toArray⟩) ∧ Below w.heap.size w w' := by
  by_cases hz : z < 0
  · have e1 : -z = ((-z).toNat : Int) := by omega
    have hl : (Lib.decDigits (-z).toNat).length ≤ 20 := by
      rw [Lib.decDigits_length]
      have h19 : (10 : Nat) ^ 19 = 10000000000000000000 := by decide
      have := nDigits_le 19 (-z).toNat (by omega) (by rw [h19]; omega)
      omega
    have HI : Hid (Lib.itoa z = 45 :: Lib.decDigits (-z).toNat) := by
      unfold Hid Lib.itoa
      rw [if_pos hz, show z.natAbs = (-z).toNat from by omega]
    have HC : Hid (Calls Tryd.prog 54 #[.int .i64 ((-z).toNat : Int)] w fun e w' => e = .returned (.string ⟨(Lib.decDigits (-z).toNat).toArray⟩) ∧ Below w.heap.size w w') := dec_any (-z).toNat w (by omega)
    rw [← e1] at HC
    generalize Lib.decDigits (-z).toNat = D at *
    clear e1
    go_enter Tryd.func54, Tryd.ntmps54
    go_wp2_with fail
    refine HC.out.mono ?_
    rintro e w1 ⟨rfl, b1⟩
    go_wp2
    go_ret
    refine ⟨ret_str ?_, b1⟩
    rw [HI.out]
    exact ByteArray.mk_append_mk [45] D
  · have e1 : z = (z.toNat : Int) := by omega
    have := dec_any z.toNat w (by omega)
    rw [← e1] at this
    have e2 : Lib.itoa z = Lib.decDigits z.toNat := by unfold Lib.itoa; rw [if_neg hz]
    rw [e2]
    exact this

/-- All that a right reply's nodes keep to. -/
structure Right (L : List Nd) (n : Nat) : Prop where
  fields : ∀ i, i < n → fieldsB (L.getD i nd0) = true
  kids : ∀ i, i < n → (L.getD i nd0).kids.length ≤ 1048576
  range : ∀ i, i < n → ∀ k ∈ kidsOf L i, 0 ≤ k ∧ k < (i : Int)
  small : ∀ i, i < n → (text L i).length ≤ 300 * n

theorem right_of (L : List Nd) (n : Nat) (hl : L.length = n) (h : specB L = true) (hk : ∀ i, i < n → (L.getD i nd0).kids.length ≤ 1048576) : Right L n := by
  simp only [specB, Bool.and_eq_true, decide_eq_true_eq] at h
  obtain ⟨⟨h1, h2⟩, h3, h4⟩ := h
  have hn := (nodesB_iff L L 0 rfl).1 h2
  have ht : ∀ i, i < n → 0 ≤ tree L i := fun i hi => by
    have := tree_cover L (L.length - 1) (by omega) i (by omega) (by omega)
    omega
  refine ⟨fun i hi => (hn i (by omega) (by omega)).1, hk, fun i hi k hkk => ?_, fun i hi => ?_⟩
  · have := (hn i (by omega) (by omega)).2
    rw [rangeB, List.all_eq_true] at this
    have := this k hkk
    simp [inB] at this
    omega
  · have := text_len L n (fun i hi => ⟨(hn i (by omega) (by omega)).1, hk i hi, ht i hi⟩) i hi
    have := ht i hi
    omega

theorem bytes_eq (s : ByteArray) : s = ⟨s.data.toList.toArray⟩ := by simp

theorem line_bytes (m : UInt8) (s : ByteArray) : (⟨#[m]⟩ ++ s ++ ⟨#[13, 10]⟩ : ByteArray) = ⟨([m] ++ s.data.toList ++ crlf).toArray⟩ := by
  apply ByteArray.ext
  simp [ByteArray.data_append, crlf]

theorem bulk_bytes (D : List UInt8) (s : ByteArray) : (⟨#[36]⟩ ++ ⟨D.toArray⟩ ++ ⟨#[13, 10]⟩ ++ s ++ ⟨#[13, 10]⟩ : ByteArray) = ⟨([36] ++ D ++ crlf ++ s.data.toList ++ crlf).toArray⟩ := by
  apply ByteArray.ext
  simp [ByteArray.data_append, crlf]

/-- What stands behind the node's own text, of the first j kids. -/
def kidsText (L : List Nd) (K : List Int) (j : Nat) : List UInt8 := (K.take j).flatMap fun k => text L k.toNat

theorem kidsText_succ (L : List Nd) (K : List Int) (j : Nat) (h : j < K.length) : kidsText L K (j + 1) = kidsText L K j ++ text L (K.getD j 0).toNat := by
  unfold kidsText
  rw [List.take_succ_eq_append_getElem h, List.flatMap_append, List.getD_eq_getElem?_getD, List.getElem?_eq_getElem h]
  simp

theorem kidsText_len (L : List Nd) (K : List Int) (j : Nat) : (kidsText L K j).length ≤ (K.flatMap fun k => text L k.toNat).length := by
  have e : K = K.take j ++ K.drop j := (List.take_append_drop j K).symm
  conv => rhs; rw [e]
  rw [List.flatMap_append, List.length_append]
  unfold kidsText
  omega

set_option maxHeartbeats 2000000 in
set_option maxRecDepth 100000 in
theorem text33 (a : Option Addr) (b off n c : Nat) (L : List Nd) (hn : n ≤ 1000) (R : Right L n) : ∀ m : Nat, m < n → ∀ w : World, RespsIn w a b off n L →
    Calls Tryd.prog 25 #[.slice a n c, .int .i64 m] w fun e w' => e = .returned (.string ⟨(text L m).toArray⟩) ∧ Below w.heap.size w w' := by
  intro m
  induction m using Nat.strongRecOn with
  | _ m ih =>
    intro hm w h
    have IH : Hid (∀ q : Nat, q < m → ∀ w : World, RespsIn w a b off n L → Calls Tryd.prog 25 #[.slice a n c, .int .i64 q] w fun e w' => e = .returned (.string ⟨(text L q).toArray⟩) ∧ Below w.heap.size w w') := fun q hq => ih q hq (by omega)
    clear ih
    obtain rfl := h.addr (by omega)
    obtain ⟨ak, bk, ok, ck, hnd⟩ := h.node m hm
    have c0 := hnd.c0
    have c1 := hnd.c1
    have c2 := hnd.c2
    have c3 := hnd.c3
    have hints := hnd.ints
    have hkk := R.kids m hm
    have hlm := R.small m hm
    have HF : Hid (fieldsB (L.getD m nd0) = true) := R.fields m hm
    have HT : Hid (text L m = ownText (L.getD m nd0) ++ (kidsOf L m).flatMap fun k => text L k.toNat) := text_eq L m (R.range m hm)
    have HK : Hid (kidsOf L m = (L.getD m nd0).kids) := rfl
    have HR : Hid (∀ k ∈ (L.getD m nd0).kids, 0 ≤ k ∧ k < (m : Int)) := R.range m hm
    rw [HK.out] at HT
    clear hnd HK
    generalize L.getD m nd0 = x at *
    have bw : Below w.heap.size w (w.alloc (.cells #[.int .i64 x.kind, .int .i64 x.num, .string x.s, .slice ak x.kids.length ck] 44)) := (Below.refl _ _).alloc (Nat.le_refl _) _
    by_cases k1 : x.kind = 1
    · have e1 : (x.kind == 1) = true := by simp [k1]
      have f := HF.out
      rw [fields_text x (.inl k1)] at f
      simp [plainB] at f
      have hs : x.s.size ≤ 200 := f.1.2.1
      have HE : Hid (text L m = [43] ++ x.s.data.toList ++ crlf) := by
        unfold Hid
        rw [HT.out, ownText, if_pos k1, f.2]
        simp
      clear k1 f
      go_enter Tryd.func25, Tryd.ntmps25
      go_wp2
      go_ret
      exact ⟨ret_str (by rw [HE.out]; exact line_bytes 43 x.s), bw⟩
    have e1 : (x.kind == 1) = false := by simp [k1]
    by_cases k2 : x.kind = 2
    · have e2 : (x.kind == 2) = true := by simp [k2]
      have f := HF.out
      rw [fields_text x (.inr k2)] at f
      simp [plainB] at f
      have hs : x.s.size ≤ 200 := f.1.2.1
      have HE : Hid (text L m = [45] ++ x.s.data.toList ++ crlf) := by
        unfold Hid
        rw [HT.out, ownText, if_neg k1, if_pos k2, f.2]
        simp
      clear k1 k2 f
      go_enter Tryd.func25, Tryd.ntmps25
      go_wp2
      go_ret
      exact ⟨ret_str (by rw [HE.out]; exact line_bytes 45 x.s), bw⟩
    have e2 : (x.kind == 2) = false := by simp [k2]
    by_cases k3 : x.kind = 3
    · have e3 : (x.kind == 3) = true := by simp [k3]
      have f := HF.out
      rw [fields_int x k3] at f
      simp only [Bool.and_eq_true, decide_eq_true_eq] at f
      have hil := itoa_len x.num f.1.1
      have hnb := f.1.1
      simp only [numB, inB, decide_eq_true_eq] at hnb
      obtain ⟨hn0, hn1⟩ := hnb
      have HE : Hid (text L m = [58] ++ Lib.itoa x.num ++ crlf) := by
        unfold Hid
        rw [HT.out, ownText, if_neg k1, if_neg k2, if_pos k3, List.length_eq_zero_iff.1 f.2]
        simp
      clear k1 k2 k3 f
      go_enter Tryd.func25, Tryd.ntmps25
      go_wp2_with fail
      refine (dec_int x.num _ hn0 hn1).mono ?_
      rintro e w1 ⟨rfl, b1⟩
      generalize Lib.itoa x.num = D at *
      go_wp2
      go_ret
      exact ⟨ret_str (by rw [HE.out]; exact line_bytes 58 ⟨D.toArray⟩), bw.trans (b1.mono bw.size)⟩
    have e3 : (x.kind == 3) = false := by simp [k3]
    by_cases k4 : x.kind = 4
    · have e4 : (x.kind == 4) = true := by simp [k4]
      have f := HF.out
      rw [fields_bulk x k4] at f
      simp at f
      have hs : x.s.size ≤ 200 := f.1.2
      have hds := dec_len_le x.s.size (by omega)
      have HE : Hid (text L m = [36] ++ Lib.decDigits x.s.size ++ crlf ++ x.s.data.toList ++ crlf) := by
        unfold Hid
        rw [HT.out, ownText, if_neg k1, if_neg k2, if_neg k3, if_pos k4, f.2, bulkText]
        simp
      clear k1 k2 k3 k4 f
      have d2 : (w.alloc (.cells #[.int .i64 x.kind, .int .i64 x.num, .string x.s, .slice ak x.kids.length ck] 44)).cell? ⟨w.heap.size, 2, none⟩ = some (.string x.s) := (RowAt.new w 44 _).cell 2
      have kd2 := cell_regrown d2
      have cD : ∀ d os, Calls Tryd.prog 54 #[.int .i64 x.s.size] (grow (redrawn (w.alloc (.cells #[.int .i64 x.kind, .int .i64 x.num, .string x.s, .slice ak x.kids.length ck] 44)) d) os) fun e w'' => e = .returned (.string ⟨(Lib.decDigits x.s.size).toArray⟩) ∧ ∃ p : Regrown, w'' = grow (redrawn (w.alloc (.cells #[.int .i64 x.kind, .int .i64 x.num, .string x.s, .slice ak x.kids.length ck] 44)) p.d) p.os := fun d os => Calls.regrown_of (dec_any x.s.size _ (by omega))
      generalize Lib.decDigits x.s.size = E at *
      have n1 : ¬ 9223372036854775807 < 1 + E.length := by omega
      have n2 : ¬ 9223372036854775807 < 1 + E.length + 2 := by omega
      have n3 : ¬ 9223372036854775807 < 1 + E.length + 2 + x.s.size := by omega
      have n4 : ¬ 9223372036854775807 < 1 + E.length + 2 + x.s.size + 2 := by omega
      go_enter Tryd.func25, Tryd.ntmps25
      go_wp2
      refine wp_region_quiet_below (by kernel_rfl) (by kernel_rfl) ?_
      repeat (quiet_step (first | exact cD _ _))
      refine wpQuiet_nil ?_
      intro _ hw'
      obtain ⟨⟨dq, osq⟩, hw''⟩ := hw'
      subst hw''
      have bq := below_regrown (w.alloc (.cells #[.int .i64 x.kind, .int .i64 x.num, .string x.s, .slice ak x.kids.length ck] 44)) dq osq
      go_wp2
      go_ret
      exact ⟨ret_str (by rw [HE.out]; exact bulk_bytes E x.s), bw.trans (bq.mono bw.size)⟩
    have e4 : (x.kind == 4) = false := by simp [k4]
    by_cases k5 : x.kind = 5
    · have e5 : (x.kind == 5) = true := by simp [k5]
      have f := HF.out
      rw [fields_null x k5] at f
      simp at f
      have HE : Hid (text L m = [36, 45, 49, 13, 10]) := by
        unfold Hid
        rw [HT.out, ownText, if_neg k1, if_neg k2, if_neg k3, if_neg k4, if_pos k5, f.2]
        simp
      clear k1 k2 k3 k4 k5 f
      go_enter Tryd.func25, Tryd.ntmps25
      go_wp2
      go_ret
      exact ⟨ret_str (by rw [HE.out]), bw⟩
    have e5 : (x.kind == 5) = false := by simp [k5]
    have HE : Hid (text L m = headText x.kids.length ++ x.kids.flatMap fun k => text L k.toNat) := by
      unfold Hid
      rw [HT.out, ownText, if_neg k1, if_neg k2, if_neg k3, if_neg k4, if_neg k5]
    clear k1 k2 k3 k4 k5 HT
    have hd := dec_len_le x.kids.length hkk
    have hhl : (headText x.kids.length).length + (x.kids.flatMap fun k => text L k.toNat).length ≤ 300 * n := by
      rw [← List.length_append, ← HE.out]
      exact hlm
    go_enter Tryd.func25, Tryd.ntmps25
    go_wp2_with fail
    refine (dec_any x.kids.length _ (by omega)).mono ?_
    rintro e w2 ⟨rfl, b2⟩
    have HH : Hid ((⟨#[42]⟩ ++ ⟨(Lib.decDigits x.kids.length).toArray⟩ ++ ⟨#[13, 10]⟩ : ByteArray) = ⟨(headText x.kids.length).toArray⟩) := line_bytes 42 ⟨(Lib.decDigits x.kids.length).toArray⟩
    have r2 := (RowAt.new w 44 #[.int .i64 x.kind, .int .i64 x.num, .string x.s, .slice ak x.kids.length ck]).below b2 (by simp)
    have b02 := bw.trans (b2.mono bw.size)
    have d3 := r2.cell 3
    simp at d3
    generalize Lib.decDigits x.kids.length = D at *
    clear c0 c1 c2 c3 b2 r2
    go_wp2_with fail
    go_loopw [6, 7] (fun q i wr => ∃ (j : Nat), j ≤ x.kids.length ∧ i = .int .i64 j ∧ q = .string ⟨(headText x.kids.length ++ kidsText L x.kids j).toArray⟩ ∧ Below w2.heap.size w2 wr) (fun _ i _ => x.kids.length - (intOf i).toNat)
    case atStart => exact ⟨0, by omega, rfl, congrArg Value.string (by rw [HH.out]; simp [kidsText]), Below.refl _ _⟩
    case round =>
      obtain ⟨j, hj, rfl, rfl, bk2⟩ := hrel
      have hkl := kidsText_len L x.kids j
      have sk := bk2.size
      have d3' : wr.cell? ⟨w.heap.size, 3, none⟩ = some (.slice ak x.kids.length ck) := (bk2.cell (p := ⟨w.heap.size, 3, none⟩) (block_lt_of_cell d3)).trans d3
      by_cases hlt : j < x.kids.length
      · obtain rfl := hints.addr (by omega)
        have b0r := b02.trans (bk2.mono b02.size)
        have hc := (ints_below hints b0r).cell j hlt
        have hy : 0 ≤ x.kids.getD j 0 ∧ x.kids.getD j 0 < (m : Int) := HR.out _ (by rw [List.getD_eq_getElem?_getD, List.getElem?_eq_getElem hlt]; exact List.getElem_mem _)
        have HS : Hid (_ = _) := kidsText_succ L x.kids j hlt
        have hkl2 := kidsText_len L x.kids (j + 1)
        rw [HS.out, List.length_append] at hkl2
        generalize x.kids.getD j 0 = y at *
        obtain ⟨hy0, hy1⟩ := hy
        obtain ⟨p, rfl⟩ := Int.eq_ofNat_of_zero_le hy0
        rw [Int.toNat_natCast] at HS hkl2
        have HCp : Hid (Calls Tryd.prog 25 #[.slice (some ⟨b, off, none⟩) n c, .int .i64 p] wr fun e w' => e = .returned (.string ⟨(text L p).toArray⟩) ∧ Below wr.heap.size wr w') := IH.out p (by omega) wr (resps_below h b0r)
        have hal : (headText x.kids.length ++ kidsText L x.kids j).length + (text L p).length ≤ 300 * n := by rw [List.length_append]; omega
        generalize hA : headText x.kids.length ++ kidsText L x.kids j = acc at *
        have HA : Hid (headText x.kids.length ++ kidsText L x.kids j = acc) := hA
        clear hA hkl hkl2 hhl hlm
        generalize text L p = tp at *
        go_wp2_with fail
        refine HCp.out.mono ?_
        rintro e w3 ⟨rfl, b3⟩
        go_wp2
        go_roundw
        case rel =>
          refine ⟨j + 1, by omega, by go_num, congrArg Value.string ?_, bk2.trans (b3.mono sk)⟩
          rw [HS.out, ← List.append_assoc, HA.out]
          exact ByteArray.mk_append_mk acc tp
        case measure => simp [intOf] <;> omega
      · obtain rfl : j = x.kids.length := by omega
        have HZ : Hid (headText x.kids.length ++ kidsText L x.kids x.kids.length = text L m) := by
          unfold Hid
          rw [HE.out, kidsText, List.take_length]
        go_wp2
        go_ret
        exact ⟨ret_str (by rw [HZ.out]), b02.trans (bk2.mono b02.size)⟩
end Go.Proofs.YtcgeafdakaeicaaDoor.Rp
