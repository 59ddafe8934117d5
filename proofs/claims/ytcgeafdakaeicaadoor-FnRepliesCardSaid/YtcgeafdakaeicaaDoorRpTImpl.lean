/- impl.writeReply and impl.RespText at this dump. -/
import Derived.Test.YtcgeafdakaeicaaDoorRpTSpec
namespace Go.Proofs.YtcgeafdakaeicaaDoor.Rp
open Go.RowKit Go.Sort

theorem kept_below {e : TypeId} {b : Option Nat} {w w' : World} (h : Below w.heap.size w w') : Lib.OthersKept e b w w' := fun k _ hk _ _ =>
  (h.block k (Array.getElem?_eq_some_iff.1 hk).1).trans hk

set_option maxHeartbeats 1000000 in
theorem writeLine_k (B b : Nat) (l : List UInt8) (mark text : ByteArray) (w : World) (h : Lib.IsBuilderF 40 5 B b (Lib.byteCells l) w) (hlen : l.length + mark.size + text.size + 2 ≤ 140737488355328) (hBw : B ≤ w.heap.size) :
    Calls Tryd.prog 50 #[.pointer (some ⟨b, 0, none⟩), .string mark, .string text] w fun e w' => e = .returned (.tuple #[]) ∧ Lib.IsBuilderF 40 5 B b (Lib.byteCells (l ++ ([] ++ mark.data.toList ++ text.data.toList ++ crlf))) w' ∧ Below B w w' ∧ Lib.OthersKept 5 (some b) w w' := by
  go_enter Tryd.func50, Tryd.ntmps50
  go_wp2_with fail
  refine (writeString_k B b _ mark _ h (by rw [Lib.byteCells_length]; omega) hBw).mono ?_
  rintro e w1 ⟨rfl, h1, b1, o1⟩
  rw [Lib.strCells_eq, ← Lib.byteCells_append] at h1
  have l1 : (l ++ mark.data.toList).length = l.length + mark.size := by simp
  have s1 := b1.size
  go_wp2_with fail
  refine (writeString_k B b _ text _ (.inr h1) (by rw [Lib.byteCells_length]; omega) (by omega)).mono ?_
  rintro e w2 ⟨rfl, h2, b2, o2⟩
  rw [Lib.strCells_eq, ← Lib.byteCells_append] at h2
  have l2 : (l ++ mark.data.toList ++ text.data.toList).length = l.length + mark.size + text.size := by simp; omega
  have s2 := b2.size
  go_wp2_with fail
  refine (writeString_k B b _ ⟨#[13, 10]⟩ _ (.inr h2) (by rw [Lib.byteCells_length, l2]; exact hlen) (by omega)).mono ?_
  rintro e w3 ⟨rfl, h3, b3, o3⟩
  rw [Lib.strCells_eq, ← Lib.byteCells_append] at h3
  go_wp2
  go_end0
  refine ⟨rfl, .inr ?_, (b1.trans b2).trans b3, (o1.trans o2).trans o3⟩
  simpa [List.append_assoc, crlf] using h3

theorem row_kept {w w' : World} {g : Nat} {T : TypeId} {C : Array Value} {b : Nat} (h : RowAt w g T C) (hk : Lib.OthersKept 5 (some b) w w') (hb : g ≠ b) (hT : T ≠ 5) : RowAt w' g T C :=
  hk g _ h (by simpa using hb) (fun c fz e => by simp at e; exact hT e.2.1)

set_option maxHeartbeats 2000000 in
set_option maxRecDepth 100000 in
theorem reply36 (a : Option Addr) (b off n c : Nat) (L : List Nd) (hn : n ≤ 1000) (R : Right L n) (w0 : World) (h0 : RespsIn w0 a b off n L) (ht : Tab w0) (hw0 : 0 < w0.heap.size) (bb : Nat) : ∀ m : Nat, m < n → ∀ (ak : Option Addr) (bk ok ck : Nat), NdAt w0 b (off + m * 4) (L.getD m nd0) ak bk ok ck → ∀ (w : World) (l : List UInt8),
    Below w0.heap.size w0 w → Lib.IsBuilderF 40 5 w0.heap.size bb (Lib.byteCells l) w → l.length + (text L m).length ≤ 1099511627776 →
    Calls Tryd.prog 23 #[.pointer (some ⟨bb, 0, none⟩), .slice a n c, .agg #[.int .i64 (L.getD m nd0).kind, .int .i64 (L.getD m nd0).num, .string (L.getD m nd0).s, .slice ak (L.getD m nd0).kids.length ck]] w fun e w' => e = .returned (.tuple #[]) ∧ Lib.IsBuilderF 40 5 w0.heap.size bb (Lib.byteCells (l ++ text L m)) w' ∧ Below w0.heap.size w0 w' := by
  intro m
  induction m using Nat.strongRecOn with
  | _ m ih =>
    intro hm ak bk ok ck hnd w l hb hB hl
    have IH : Hid (∀ q : Nat, q < m → ∀ (ak : Option Addr) (bk ok ck : Nat), NdAt w0 b (off + q * 4) (L.getD q nd0) ak bk ok ck → ∀ (w : World) (l : List UInt8), Below w0.heap.size w0 w → Lib.IsBuilderF 40 5 w0.heap.size bb (Lib.byteCells l) w → l.length + (text L q).length ≤ 1099511627776 → Calls Tryd.prog 23 #[.pointer (some ⟨bb, 0, none⟩), .slice a n c, .agg #[.int .i64 (L.getD q nd0).kind, .int .i64 (L.getD q nd0).num, .string (L.getD q nd0).s, .slice ak (L.getD q nd0).kids.length ck]] w fun e w' => e = .returned (.tuple #[]) ∧ Lib.IsBuilderF 40 5 w0.heap.size bb (Lib.byteCells (l ++ text L q)) w' ∧ Below w0.heap.size w0 w') := fun q hq => ih q hq (by omega)
    clear ih
    have hints := hnd.ints
    have hkk := R.kids m hm
    have hlm := R.small m hm
    have HF : Hid (fieldsB (L.getD m nd0) = true) := R.fields m hm
    have HT : Hid (text L m = ownText (L.getD m nd0) ++ (kidsOf L m).flatMap fun k => text L k.toNat) := text_eq L m (R.range m hm)
    have HK : Hid (kidsOf L m = (L.getD m nd0).kids) := rfl
    have HR : Hid (∀ k ∈ (L.getD m nd0).kids, 0 ≤ k ∧ k < (m : Int)) := R.range m hm
    rw [HK.out] at HT
    clear hnd HK
    generalize L.getD m nd0 = x at *
    have sb := hb.size
    have bA : Below w.heap.size w (w.alloc (.cells #[.int .i64 x.kind, .int .i64 x.num, .string x.s, .slice ak x.kids.length ck] 44)) := (Below.refl _ _).alloc (Nat.le_refl _) _
    have rA := RowAt.new w 44 #[.int .i64 x.kind, .int .i64 x.num, .string x.s, .slice ak x.kids.length ck]
    have hB1 := builder_grown hB bA
    have b01 := hb.trans (bA.mono sb)
    have sA : w0.heap.size ≤ (w.alloc (.cells #[.int .i64 x.kind, .int .i64 x.num, .string x.s, .slice ak x.kids.length ck] 44)).heap.size := b01.size
    have hbb : bb < w.heap.size := by
      rcases hB with hB | hB
      · exact hB.lt
      · exact hB.lt
    by_cases k1 : x.kind = 1
    · have e1 : (x.kind == 1) = true := by simp [k1]
      have f := HF.out
      rw [fields_text x (.inl k1)] at f
      simp [plainB] at f
      have hs : x.s.size ≤ 200 := f.1.2.1
      have HE : Hid (text L m = [] ++ [43] ++ x.s.data.toList ++ crlf) := by
        unfold Hid
        rw [HT.out, ownText, if_pos k1, f.2]
        simp
      clear k1 f
      go_enter Tryd.func23, Tryd.ntmps23
      go_wp2_with fail
      refine (writeLine_k w0.heap.size bb l ⟨#[43]⟩ x.s _ hB1 (by show l.length + 1 + _ + 2 ≤ _; omega) sA).mono ?_
      rintro e w1 ⟨rfl, h1, b1, _⟩
      go_wp2
      go_end0
      exact ⟨rfl, by rw [HE.out]; exact h1, b01.trans b1⟩
    have e1 : (x.kind == 1) = false := by simp [k1]
    by_cases k2 : x.kind = 2
    · have e2 : (x.kind == 2) = true := by simp [k2]
      have f := HF.out
      rw [fields_text x (.inr k2)] at f
      simp [plainB] at f
      have hs : x.s.size ≤ 200 := f.1.2.1
      have HE : Hid (text L m = [] ++ [45] ++ x.s.data.toList ++ crlf) := by
        unfold Hid
        rw [HT.out, ownText, if_neg k1, if_pos k2, f.2]
        simp
      clear k1 k2 f
      go_enter Tryd.func23, Tryd.ntmps23
      go_wp2_with fail
      refine (writeLine_k w0.heap.size bb l ⟨#[45]⟩ x.s _ hB1 (by show l.length + 1 + _ + 2 ≤ _; omega) sA).mono ?_
      rintro e w1 ⟨rfl, h1, b1, _⟩
      go_wp2
      go_end0
      exact ⟨rfl, by rw [HE.out]; exact h1, b01.trans b1⟩
    have e2 : (x.kind == 2) = false := by simp [k2]
    by_cases k3 : x.kind = 3
    · have e3 : (x.kind == 3) = true := by simp [k3]
      have f := HF.out
      rw [fields_int x k3] at f
      simp only [Bool.and_eq_true, decide_eq_true_eq] at f
      have hil := itoa_len x.num f.1.1
      have hnb := f.1.1
      simp only [numB, inB, decide_eq_true_eq] at hnb
      obtain ⟨hn0, hn1⟩ := hnb
      have HE : Hid (text L m = [] ++ [58] ++ Lib.itoa x.num ++ crlf) := by
        unfold Hid
        rw [HT.out, ownText, if_neg k1, if_neg k2, if_pos k3, List.length_eq_zero_iff.1 f.2]
        simp
      clear k1 k2 k3 f
      have htA := ht.below b01 hw0
      go_enter Tryd.func23, Tryd.ntmps23
      go_wp2_with fail
      refine (Tryd.strconv_FormatInt_10 x.num (by omega) (by omega) _ htA).mono ?_
      generalize w.alloc (.cells #[.int .i64 x.kind, .int .i64 x.num, .string x.s, .slice ak x.kids.length ck] 44) = W0 at *
      rintro e w2 ⟨rfl, k1, os1, rfl⟩
      have b0 := below_grow W0.heap.size W0 (Nat.le_refl _) k1 os1
      have f1 := builder_grown hB1 b0
      have s0 := b0.size
      generalize grow (W0.drewN k1) os1 = w2 at *
      generalize Lib.itoa x.num = D at *
      go_wp2_with fail
      refine (writeLine_k w0.heap.size bb l ⟨#[58]⟩ ⟨D.toArray⟩ w2 f1 (by rw [size_mk D]; show l.length + 1 + _ + 2 ≤ _; omega) (by omega)).mono ?_
      rintro e w3 ⟨rfl, h3, b3, _⟩
      go_wp2
      go_end0
      exact ⟨rfl, by rw [HE.out]; exact h3, (b01.trans (b0.mono sA)).trans b3⟩
    have e3 : (x.kind == 3) = false := by simp [k3]
    by_cases k4 : x.kind = 4
    · have e4 : (x.kind == 4) = true := by simp [k4]
      have f := HF.out
      rw [fields_bulk x k4] at f
      simp at f
      have hs : x.s.size ≤ 200 := f.1.2
      have HE : Hid (text L m = bulkText x.s) := by
        unfold Hid
        rw [HT.out, ownText, if_neg k1, if_neg k2, if_neg k3, if_pos k4, f.2]
        simp
      clear k1 k2 k3 k4 f
      have htA := ht.below b01 hw0
      go_enter Tryd.func23, Tryd.ntmps23
      go_wp2_with fail
      refine (writeBulk_any w0.heap.size bb l x.s _ hB1 (by omega) (by omega) sA htA).mono ?_
      rintro e w1 ⟨rfl, h1, b1⟩
      go_wp2
      go_end0
      exact ⟨rfl, by rw [HE.out]; exact h1, b01.trans b1⟩
    have e4 : (x.kind == 4) = false := by simp [k4]
    by_cases k5 : x.kind = 5
    · have e5 : (x.kind == 5) = true := by simp [k5]
      have f := HF.out
      rw [fields_null x k5] at f
      simp at f
      have HE : Hid (text L m = [] ++ [36] ++ [45, 49] ++ crlf) := by
        unfold Hid
        rw [HT.out, ownText, if_neg k1, if_neg k2, if_neg k3, if_neg k4, if_pos k5, f.2]
        simp [crlf]
      clear k1 k2 k3 k4 k5 f
      go_enter Tryd.func23, Tryd.ntmps23
      go_wp2_with fail
      refine (writeLine_k w0.heap.size bb l ⟨#[36]⟩ ⟨#[45, 49]⟩ _ hB1 (by show l.length + 1 + 2 + 2 ≤ _; omega) sA).mono ?_
      rintro e w1 ⟨rfl, h1, b1, _⟩
      go_wp2
      go_end0
      exact ⟨rfl, by rw [HE.out]; exact h1, b01.trans b1⟩
    have e5 : (x.kind == 5) = false := by simp [k5]
    by_cases k6 : x.kind = 6
    · have e6 : (x.kind == 6) = true := by simp [k6]
      have HE : Hid (text L m = headText x.kids.length ++ x.kids.flatMap fun k => text L k.toNat) := by
        unfold Hid
        rw [HT.out, ownText, if_neg k1, if_neg k2, if_neg k3, if_neg k4, if_neg k5]
      clear k1 k2 k3 k4 k5 k6 HT
      have htA := ht.below b01 hw0
      have hd := dec_len_le x.kids.length hkk
      go_enter Tryd.func23, Tryd.ntmps23
      go_wp2_with fail
      refine (Tryd.strconv_Itoa x.kids.length (by omega) (by omega) _ htA).mono ?_
      generalize w.alloc (.cells #[.int .i64 x.kind, .int .i64 x.num, .string x.s, .slice ak x.kids.length ck] 44) = W0 at *
      rintro e w2 ⟨rfl, k1, os1, rfl⟩
      rw [Lib.itoa_nonneg]
      have b0 := below_grow W0.heap.size W0 (Nat.le_refl _) k1 os1
      have f1 := builder_grown hB1 b0
      have r1 := rA.below b0 rA.lt
      have s0 := b0.size
      generalize grow (W0.drewN k1) os1 = w2 at *
      go_wp2_with fail
      refine (writeLine_k w0.heap.size bb l ⟨#[42]⟩ ⟨(Lib.decDigits x.kids.length).toArray⟩ w2 f1 (by rw [size_mk (Lib.decDigits x.kids.length)]; show l.length + 1 + _ + 2 ≤ _; omega) (by omega)).mono ?_
      rintro e w3 ⟨rfl, h3, b3, o3⟩
      have r3 := row_kept r1 o3 (by omega) (by decide)
      have d3 := r3.cell 3
      simp at d3
      have b03 := (b01.trans (b0.mono sA)).trans b3
      have f3 : Lib.IsBuilderF 40 5 w0.heap.size bb (Lib.byteCells (l ++ headText x.kids.length)) w3 := by
        have e : headText x.kids.length = [] ++ [42] ++ Lib.decDigits x.kids.length ++ crlf := by simp [headText]
        rw [e]
        exact h3
      clear h3 b3 o3 r3 r1 f1 b0 rA hB1 hB bA b01 sA
      have hhl : (headText x.kids.length).length + (x.kids.flatMap fun k => text L k.toNat).length = (text L m).length := by
        rw [HE.out, List.length_append]
      have hl2 : l.length + ((headText x.kids.length).length + (x.kids.flatMap fun k => text L k.toNat).length) ≤ 1099511627776 := by rw [hhl]; exact hl
      clear hhl hl hlm
      obtain rfl := h0.addr (by omega)
      have hlow0 := h0.low (by omega)
      go_wp2_with fail
      go_loopw [7, 50] (fun _ i wr => ∃ (j : Nat), j ≤ x.kids.length ∧ i = .int .i64 j ∧ Lib.IsBuilderF 40 5 w0.heap.size bb (Lib.byteCells (l ++ headText x.kids.length ++ kidsText L x.kids j)) wr ∧ Below w0.heap.size w0 wr) (fun _ i _ => x.kids.length - (intOf i).toNat)
      case atStart => exact ⟨0, by omega, rfl, by simpa [kidsText] using f3, b03⟩
      case round =>
        obtain ⟨j, hj, rfl, fr, br⟩ := hrel
        have hkl := kidsText_len L x.kids j
        clear f3 b03 d3
        by_cases hlt : j < x.kids.length
        · obtain rfl := hints.addr (by omega)
          have hc := (ints_below hints br).cell j hlt
          have hy : 0 ≤ x.kids.getD j 0 ∧ x.kids.getD j 0 < (m : Int) := HR.out _ (by rw [List.getD_eq_getElem?_getD, List.getElem?_eq_getElem hlt]; exact List.getElem_mem _)
          have HS : Hid (_ = _) := kidsText_succ L x.kids j hlt
          generalize x.kids.getD j 0 = y at *
          obtain ⟨hy0, hy1⟩ := hy
          obtain ⟨p, rfl⟩ := Int.eq_ofNat_of_zero_le hy0
          rw [Int.toNat_natCast] at HS
          have hkl2 := kidsText_len L x.kids (j + 1)
          rw [HS.out, List.length_append] at hkl2
          obtain ⟨akp, bkp, okp, ckp, hndp⟩ := h0.node p (by omega)
          have hm' := nd_below hndp hlow0 br
          have c0 := hm'.c0
          have c1 := hm'.c1
          have c2 := hm'.c2
          have c3 := hm'.c3
          have HCp : Hid (Calls Tryd.prog 23 #[.pointer (some ⟨bb, 0, none⟩), .slice (some ⟨b, off, none⟩) n c, .agg #[.int .i64 (L.getD p nd0).kind, .int .i64 (L.getD p nd0).num, .string (L.getD p nd0).s, .slice akp (L.getD p nd0).kids.length ckp]] wr fun e w' => e = .returned (.tuple #[]) ∧ Lib.IsBuilderF 40 5 w0.heap.size bb (Lib.byteCells (l ++ headText x.kids.length ++ kidsText L x.kids j ++ text L p)) w' ∧ Below w0.heap.size w0 w') := IH.out p (by omega) akp bkp okp ckp hndp wr _ br fr (by rw [List.length_append, List.length_append]; omega)
          clear hm' hndp hkl hkl2 hl2
          generalize L.getD p nd0 = xp at *
          have hpn : (p : Int) < n := by omega
          go_wp2_with fail
          refine HCp.out.mono ?_
          rintro e w4 ⟨rfl, f4, b4⟩
          rw [List.append_assoc (l ++ headText x.kids.length), ← HS.out] at f4
          go_wp2
          go_roundw
          case rel => exact ⟨j + 1, by omega, by go_num, f4, b4⟩
          case measure => simp [intOf] <;> omega
        · obtain rfl : j = x.kids.length := by omega
          go_wp2
          go_end0
          refine ⟨rfl, ?_, br⟩
          rw [HE.out, ← List.append_assoc]
          have e : kidsText L x.kids x.kids.length = x.kids.flatMap fun k => text L k.toNat := by rw [kidsText, List.take_length]
          rw [← e]
          exact fr
    · exfalso
      have := fields_else x k1 k2 k3 k4 k5 k6
      rw [HF.out] at this
      cases this

def respText (L : List Nd) : List UInt8 := if specB L then text L (L.length - 1) else []

set_option maxHeartbeats 1000000 in
theorem specText9 (a : Option Addr) (b off n c : Nat) (L : List Nd) (w : World) (h : RespsIn w a b off n L) (hn : n ≤ 1048576) (hk : ∀ i, i < n → (L.getD i nd0).kids.length ≤ 1048576)
    (HO : Calls Tryd.prog 12 #[.slice a n c] w fun e w' => e = .returned (.bool (specB L)) ∧ Below w.heap.size w w') :
    Calls Tryd.prog 10 #[.slice a n c] w fun e w' => e = .returned (.string ⟨(respText L).toArray⟩) ∧ Below w.heap.size w w' := by
  have HO' : Hid (Calls Tryd.prog 12 #[.slice a n c] w fun e w' => e = .returned (.bool (specB L)) ∧ Below w.heap.size w w') := HO
  clear HO
  have hl := h.len
  cases hs : specB L with
  | false =>
    have HS : Hid (specB L = false) := hs
    clear hs
    go_enter Tryd.func10, Tryd.ntmps10
    go_wp2_with fail
    refine HO'.out.mono ?_
    rintro e w1 ⟨rfl, b1⟩
    rw [HS.out]
    go_wp2
    go_ret
    exact ⟨ret_str (by rw [respText, HS.out]; rfl), b1⟩
  | true =>
    have HS : Hid (specB L = true) := hs
    have R := right_of L n hl hs hk
    have hb : 1 ≤ n ∧ n ≤ 1000 := by
      have h1 := hs
      simp only [specB, Bool.and_eq_true, decide_eq_true_eq] at h1
      rw [hl] at h1
      exact h1.1.1
    clear hs
    have e1 : ((n : Int) - 1) = ((n - 1 : Nat) : Int) := by omega
    go_enter Tryd.func10, Tryd.ntmps10
    go_wp2_with fail
    refine HO'.out.mono ?_
    rintro e w1 ⟨rfl, b1⟩
    rw [HS.out]
    have HT : Hid (Calls Tryd.prog 25 #[.slice a n c, .int .i64 ((n - 1 : Nat) : Int)] w1 fun e w' => e = .returned (.string ⟨(text L (n - 1)).toArray⟩) ∧ Below w1.heap.size w1 w') := text33 a b off n c L hb.2 R (n - 1) (by omega) w1 (resps_below h b1)
    rw [← e1] at HT
    obtain ⟨hb1, hb2⟩ := hb
    clear e1 HO' R
    go_wp2_with fail
    refine HT.out.mono ?_
    rintro e w2 ⟨rfl, b2⟩
    go_wp2
    go_ret
    exact ⟨ret_str (by rw [respText, HS.out, if_pos rfl, hl]), b1.trans (b2.mono b1.size)⟩

set_option maxHeartbeats 1000000 in
theorem implText11 (a : Option Addr) (b off n c : Nat) (L : List Nd) (w : World) (h : RespsIn w a b off n L) (hk : ∀ i, i < n → (L.getD i nd0).kids.length ≤ 1048576) (ht : Tab w) (hw : 0 < w.heap.size)
    (HO : Calls Tryd.prog 11 #[.slice a n c] w fun e w' => e = .returned (.bool (specB L)) ∧ Below w.heap.size w w') :
    Calls Tryd.prog 9 #[.slice a n c] w fun e w' => e = .returned (.string ⟨(respText L).toArray⟩) ∧ Below w.heap.size w w' := by
  have HO' : Hid (Calls Tryd.prog 11 #[.slice a n c] w fun e w' => e = .returned (.bool (specB L)) ∧ Below w.heap.size w w') := HO
  clear HO
  have hl := h.len
  cases hs : specB L with
  | false =>
    have HS : Hid (specB L = false) := hs
    clear hs
    go_enter Tryd.func9, Tryd.ntmps9
    go_wp2_with fail
    refine HO'.out.mono ?_
    rintro e w1 ⟨rfl, b1⟩
    rw [HS.out]
    go_wp2
    go_ret
    exact ⟨ret_str (by rw [respText, HS.out]; rfl), b1⟩
  | true =>
    have HS : Hid (specB L = true) := hs
    have R := right_of L n hl hs hk
    have hb : 1 ≤ n ∧ n ≤ 1000 := by
      have h1 := hs
      simp only [specB, Bool.and_eq_true, decide_eq_true_eq] at h1
      rw [hl] at h1
      exact h1.1.1
    clear hs
    obtain ⟨hb1, hb2⟩ := hb
    obtain ⟨m, rfl⟩ : ∃ m, n = m + 1 := ⟨n - 1, by omega⟩
    obtain rfl := h.addr (by omega)
    go_enter Tryd.func9, Tryd.ntmps9
    go_wp2_with fail
    refine HO'.out.mono ?_
    rintro e w1 ⟨rfl, b1⟩
    rw [HS.out]
    have h1 := resps_below h b1
    have s1 := b1.size
    obtain ⟨ak, bk, ok, ck, hnd⟩ := h1.node m (by omega)
    have bA : Below w1.heap.size w1 (w1.alloc (.cells #[.pointer none, .slice none 0 0] 40)) := (Below.refl _ _).alloc (Nat.le_refl _) _
    have hA := nd_below hnd (h1.low (by omega)) bA
    have f0 := Lib.IsBuilderF.of (Lib.fresh_isBuilder 40 5 w1)
    have hsm := R.small m (by omega)
    have HC : Hid (Calls Tryd.prog 23 #[.pointer (some ⟨w1.heap.size, 0, none⟩), .slice (some ⟨b, off, none⟩) (m + 1) c, .agg #[.int .i64 (L.getD m nd0).kind, .int .i64 (L.getD m nd0).num, .string (L.getD m nd0).s, .slice ak (L.getD m nd0).kids.length ck]] (w1.alloc (.cells #[.pointer none, .slice none 0 0] 40)) fun e w' => e = .returned (.tuple #[]) ∧ Lib.IsBuilderF 40 5 w1.heap.size w1.heap.size (Lib.byteCells ([] ++ text L m)) w' ∧ Below w1.heap.size w1 w') :=
      reply36 _ b off (m + 1) c L hb2 R w1 h1 (ht.below b1 hw) (by omega) w1.heap.size m (by omega) ak bk ok ck hnd _ [] bA f0 (by simp; omega)
    have c0 := hnd.c0
    have c1 := hnd.c1
    have c2 := hnd.c2
    have c3 := hnd.c3
    have hlow := h1.low (by omega)
    have HL : Hid (L.length - 1 = m) := by unfold Hid; omega
    clear hnd hA HO' R hsm
    generalize L.getD m nd0 = x at *
    go_wp2_with fail
    refine HC.out.mono ?_
    rintro e w2 ⟨rfl, f2, b2⟩
    rw [List.nil_append] at f2
    go_wp2_with fail
    refine (Tryd.Builder_String_any_k w1.heap.size w1.heap.size _ w2 f2 b2.size).mono ?_
    rintro e w3 ⟨rfl, _, b3, _⟩
    go_wp2
    go_ret
    exact ⟨ret_str (by rw [respText, HS.out, if_pos rfl, HL.out]), b1.trans ((b2.trans b3).mono s1)⟩
end Go.Proofs.YtcgeafdakaeicaaDoor.Rp
