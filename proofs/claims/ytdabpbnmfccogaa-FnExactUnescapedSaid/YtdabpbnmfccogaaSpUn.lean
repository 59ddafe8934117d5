/- spec.Unescaped: it answers unesc too. -/
import Derived.Test.YtdabpbnmfccogaaUn
import Derived.Deep.RegionLaw
namespace Go.Proofs.Ytdabpbnmfccogaa
open Go.RowKit Go.Sort

theorem dropc (s : ByteArray) (k : Nat) (h : k < s.size) : s.data.toList.drop k = (s[k]'h) :: s.data.toList.drop (k + 1) := by
  have hl : k < s.data.toList.length := by rw [← Lib.size_eq]; exact h
  rw [List.drop_eq_getElem_cons hl]
  rfl

theorem bytes_none (w : World) : (w.alloc (.cells #[] 5)).ownsRow w.heap.size 5 1 (.slice (some ⟨w.heap.size, 0, none⟩) 0 0) 0 (Lib.byteCells []) :=
  ⟨rfl, .inr ⟨w.heap.size, 0, #[], rfl, Nat.le_refl _, RowAt.new w 5 #[], by omega, by unfold maxLen; omega, by simp, by simp [Lib.byteCells]⟩⟩

theorem parse_go {xs l : List UInt8} {k n : Nat} {b : UInt8} (h : l.drop k ≠ []) (hf : fst (l.drop k) = (b, n)) (hn : n ≠ 0) : parse xs (l.drop k) = parse (xs ++ [b]) (l.drop (k + n)) := by
  rw [parse_step h (by rw [hf]; exact hn), hf, List.drop_drop]
theorem parse_stop {xs l : List UInt8} {k : Nat} (h : l.drop k ≠ []) (hf : fst (l.drop k) = (0, 0)) : parse xs (l.drop k) = none := parse_none h (by rw [hf])

theorem fst_plain {b : UInt8} {r : List UInt8} (h : b.toNat ≠ 92) : fst (b :: r) = (b, 1) := by
  show (if b.toNat ≠ 92 then (b, 1) else _) = _
  rw [if_pos h]
theorem fst_end1 {b : UInt8} (h : b.toNat = 92) : fst [b] = (0, 0) := by rw [byte_of h]; rfl
theorem fst_r {b c : UInt8} {r : List UInt8} (h : b.toNat = 92) (hc : c.toNat = 114) : fst (b :: c :: r) = (13, 2) := by rw [byte_of h, byte_of hc]; rfl
theorem fst_n {b c : UInt8} {r : List UInt8} (h : b.toNat = 92) (hc : c.toNat = 110) : fst (b :: c :: r) = (10, 2) := by rw [byte_of h, byte_of hc]; rfl
theorem fst_b {b c : UInt8} {r : List UInt8} (h : b.toNat = 92) (hc : c.toNat = 92) : fst (b :: c :: r) = (92, 2) := by rw [byte_of h, byte_of hc]; rfl
theorem fst_o {b c : UInt8} {r : List UInt8} (h : b.toNat = 92) (h1 : ¬ c.toNat = 92) (h2 : ¬ c.toNat = 114) (h3 : ¬ c.toNat = 110) (h4 : ¬ c.toNat = 120) : fst (b :: c :: r) = (0, 0) := by
  rw [byte_of h]
  show (if c.toNat = 92 then ((92 : UInt8), 2) else if c.toNat = 114 then (13, 2) else if c.toNat = 110 then (10, 2) else if c.toNat = 120 then _ else (0, 0)) = _
  rw [if_neg h1, if_neg h2, if_neg h3, if_neg h4]
theorem fst_x0 {b c : UInt8} (h : b.toNat = 92) (hc : c.toNat = 120) : fst [b, c] = (0, 0) := by rw [byte_of h, byte_of hc]; rfl
theorem fst_x1 {b c d : UInt8} (h : b.toNat = 92) (hc : c.toNat = 120) : fst [b, c, d] = (0, 0) := by rw [byte_of h, byte_of hc]; rfl
theorem fst_x {b c d e : UInt8} {r : List UInt8} (h : b.toNat = 92) (hc : c.toNat = 120) : fst (b :: c :: d :: e :: r) = (if digN d.toNat < 0 ∨ digN e.toNat < 0 then (0, 0) else (UInt8.ofNat (16 * digN d.toNat + digN e.toNat).toNat, 4)) := by rw [byte_of h, byte_of hc]; rfl

theorem w64 (n : Int) (h0 : -9223372036854775808 ≤ n) (h1 : n ≤ 9223372036854775807) : IntKind.i64.wrap n = n := by rw [IntKind.wrap_i64]; omega

/-- append by its own run, as one step of a region that draws. -/
theorem step_append_run {P : Program} {ops : Array Oper} {o : Oper} {a : Act} {w w' : World} {K : Act → World → Prop} {Q : Exit → Act → World → Prop} {E : Prop} (hg : o.guard = none) (s x : Operand) (t : TypeId)
    (hop : o.op = Op.call { callee := Callee.builtin Builtin.append, args := #[s, x], argTypes := #[t, t] }) {v y v' : Value} (hs : a.eval s = v) (hx : a.eval x = y) (hr : (Builtin.append_ #[t, t] o.type #[v, y]).run P w = .ok v' w')
    (hK : K (a.put o.dst v') w') : if Region.wanted o (yielded ops a.tmps) = true then Oper.wp P o a w K Q else E := by
  have hw : Region.wanted o (yielded ops a.tmps) = true := by simp [Region.wanted, hg]
  rw [if_pos hw]
  unfold Oper.wp
  simp [execOp, hop, resolve, invoke, builtin, hs, hx, hr, Result.andThen]
  exact hK

def UnEnd (s : ByteArray) (w : World) (e : Ending) (w' : World) : Prop := e = .returned (.tuple #[.string ⟨(unesc s.data.toList).1.toArray⟩, .bool (unesc s.data.toList).2]) ∧ Below w.heap.size w w'

set_option maxHeartbeats 4000000 in
set_option maxRecDepth 100000 in
theorem specUnescaped (s : ByteArray) (w : World) (hs : s.size ≤ 4194304) : Calls Try.prog 12 #[.string s] w (UnEnd s w) := by
  obtain ⟨i0, hi, hz0, hz1, hz2⟩ := info_parts info5
  have hb0 : Below w.heap.size w (w.alloc (.cells #[] 5)) := (Below.refl _ w).alloc (Nat.le_refl _) _
  have ho := bytes_none w
  go_enter Try.func12, Try.ntmps12
  go_wp2
  go_loopw [4, 5] (fun o i wr => ∃ (k : Nat) (xs : List UInt8), k ≤ s.size ∧ i = .int .i64 k ∧ xs.length ≤ k ∧ Hid (parse xs (s.data.toList.drop k) = parse [] s.data.toList) ∧ wr.ownsRow w.heap.size 5 1 o xs.length (Lib.byteCells xs) ∧ Below w.heap.size w wr) (fun _ i _ => s.size - (intOf i).toNat)
  case atStart => exact ⟨0, [], by omega, rfl, by simp, rfl, ho, hb0⟩
  case round =>
    obtain ⟨k, xs, hk, rfl, hxl, HP, hown, bk⟩ := hrel
    clear ho hb0
    have sk := bk.size
    by_cases hlt : k < s.size
    · have hd := dropc s k hlt
      have hne : s.data.toList.drop k ≠ [] := by rw [hd]; simp
      by_cases h92 : (s[k]'hlt).toNat = 92
      · have d0 : (((s[k]'hlt).toNat : Int) == 92) = true := by simp; omega
        by_cases hl1 : k + 1 = s.size
        · have e1 : (((k : Int) + 1) == (s.size : Int)) = true := by simp; omega
          have hf : fst (s.data.toList.drop k) = (0, 0) := by rw [hd, List.drop_eq_nil_of_le (by rw [← Lib.size_eq]; omega)]; exact fst_end1 h92
          have HR : Hid (unesc s.data.toList = ([], false)) := unesc_none (by rw [← HP.out]; exact parse_stop hne hf)
          clear HP hf hne
          go_wp2
          go_ret2
          exact ⟨ret_un HR.out, bk⟩
        · have e1 : (((k : Int) + 1) == (s.size : Int)) = false := by simp; omega
          have hlt1 : k + 1 < s.size := by omega
          have i0' : 0 ≤ (k : Int) + 1 := by omega
          have i1 : (k : Int) + 1 < (s.size : Int) := by omega
          have i2 : ((k : Int) + 1).toNat = k + 1 := by omega
          have hd1 := dropc s (k + 1) hlt1
          rw [hd1] at hd
          clear hd1
          by_cases h114 : (s[k + 1]'hlt1).toNat = 114
          · have d114 : (((s[k + 1]'hlt1).toNat : Int) == 114) = true := by simp; omega
            have HQ : Hid (parse (xs ++ [13]) (s.data.toList.drop (k + 2)) = parse [] s.data.toList) := by unfold Hid; rw [← HP.out]; exact (parse_go hne (by rw [hd]; exact fst_r h92 h114) (by decide)).symm
            clear HP hne hd h114 
            go_wp2_with (at_builtin; refine wpList_append_own _ rfl _ _ 22 rfl w.heap.size 5 i0 _ 1 1 Try.underlying22 hi hz0 hz1 hz2 rfl (by decide) _ _ _ rfl (hown.alloc _) ⟨wr.heap.size, 0, none⟩ 1 1 [.int .u8 13] rfl rfl (cell_one_new _ _ _) ?c2 ?c3 ?c4 ?c5 ?_)
            case c2 => intro y hy; simp at hy; subst hy; rfl
            case c3 => unfold maxLen; omega
            case c4 => omega
            case c5 => simp; omega
            intro v' w3 hown' hgrow _
            have b3 := ownsRow_below (hown.alloc (.cells #[.int .u8 13] 5)) hgrow (by simp; omega)
            have b23 := (bk.alloc sk (.cells #[.int .u8 13] 5)).trans b3
            clear hgrow b3
            go_wp2
            go_roundw
            case rel => exact ⟨k + 2, xs ++ [13], by omega, by go_num, by rw [List.length_append]; simp; omega, HQ, by rw [Lib.byteCells_append, List.length_append]; exact hown', b23⟩
            case measure => simp [intOf]; omega
          have d114 : (((s[k + 1]'hlt1).toNat : Int) == 114) = false := by simp; omega
          by_cases h110 : (s[k + 1]'hlt1).toNat = 110
          · have d110 : (((s[k + 1]'hlt1).toNat : Int) == 110) = true := by simp; omega
            have HQ : Hid (parse (xs ++ [10]) (s.data.toList.drop (k + 2)) = parse [] s.data.toList) := by unfold Hid; rw [← HP.out]; exact (parse_go hne (by rw [hd]; exact fst_n h92 h110) (by decide)).symm
            clear HP hne hd h110 
            go_wp2_with (at_builtin; refine wpList_append_own _ rfl _ _ 22 rfl w.heap.size 5 i0 _ 1 1 Try.underlying22 hi hz0 hz1 hz2 rfl (by decide) _ _ _ rfl (hown.alloc _) ⟨wr.heap.size, 0, none⟩ 1 1 [.int .u8 10] rfl rfl (cell_one_new _ _ _) ?c2 ?c3 ?c4 ?c5 ?_)
            case c2 => intro y hy; simp at hy; subst hy; rfl
            case c3 => unfold maxLen; omega
            case c4 => omega
            case c5 => simp; omega
            intro v' w3 hown' hgrow _
            have b3 := ownsRow_below (hown.alloc (.cells #[.int .u8 10] 5)) hgrow (by simp; omega)
            have b23 := (bk.alloc sk (.cells #[.int .u8 10] 5)).trans b3
            clear hgrow b3
            go_wp2
            go_roundw
            case rel => exact ⟨k + 2, xs ++ [10], by omega, by go_num, by rw [List.length_append]; simp; omega, HQ, by rw [Lib.byteCells_append, List.length_append]; exact hown', b23⟩
            case measure => simp [intOf]; omega
          have d110 : (((s[k + 1]'hlt1).toNat : Int) == 110) = false := by simp; omega
          by_cases hb : (s[k + 1]'hlt1).toNat = 92
          · have d92b : (((s[k + 1]'hlt1).toNat : Int) == 92) = true := by simp; omega
            have HQ : Hid (parse (xs ++ [92]) (s.data.toList.drop (k + 2)) = parse [] s.data.toList) := by unfold Hid; rw [← HP.out]; exact (parse_go hne (by rw [hd]; exact fst_b h92 hb) (by decide)).symm
            clear HP hne hd hb 
            go_wp2_with (at_builtin; refine wpList_append_own _ rfl _ _ 22 rfl w.heap.size 5 i0 _ 1 1 Try.underlying22 hi hz0 hz1 hz2 rfl (by decide) _ _ _ rfl (hown.alloc _) ⟨wr.heap.size, 0, none⟩ 1 1 [.int .u8 92] rfl rfl (cell_one_new _ _ _) ?c2 ?c3 ?c4 ?c5 ?_)
            case c2 => intro y hy; simp at hy; subst hy; rfl
            case c3 => unfold maxLen; omega
            case c4 => omega
            case c5 => simp; omega
            intro v' w3 hown' hgrow _
            have b3 := ownsRow_below (hown.alloc (.cells #[.int .u8 92] 5)) hgrow (by simp; omega)
            have b23 := (bk.alloc sk (.cells #[.int .u8 92] 5)).trans b3
            clear hgrow b3
            go_wp2
            go_roundw
            case rel => exact ⟨k + 2, xs ++ [92], by omega, by go_num, by rw [List.length_append]; simp; omega, HQ, by rw [Lib.byteCells_append, List.length_append]; exact hown', b23⟩
            case measure => simp [intOf]; omega
          have d92b : (((s[k + 1]'hlt1).toNat : Int) == 92) = false := by simp; omega
          by_cases h120 : (s[k + 1]'hlt1).toNat = 120
          · have d120 : (((s[k + 1]'hlt1).toNat : Int) == 120) = true := by simp; omega
            by_cases hl3 : k + 3 < s.size
            · have i3 : 0 ≤ (k : Int) + 1 + 1 := by omega
              have i4 : (k : Int) + 1 + 1 < (s.size : Int) := by omega
              have i5 : ((k : Int) + 1 + 1).toNat = k + 2 := by omega
              have i6 : 0 ≤ (k : Int) + 1 + 2 := by omega
              have i7 : (k : Int) + 1 + 2 < (s.size : Int) := by omega
              have i8 : ((k : Int) + 1 + 2).toNat = k + 3 := by omega
              have j3 : 0 ≤ (k : Int) + 2 := by omega
              have j4 : (k : Int) + 2 < (s.size : Int) := by omega
              have j5 : ((k : Int) + 2).toNat = k + 2 := by omega
              have j6 : 0 ≤ (k : Int) + 3 := by omega
              have j7 : (k : Int) + 3 < (s.size : Int) := by omega
              have j8 : ((k : Int) + 3).toNat = k + 3 := by omega
              have g1 : decide ((s.size : Int) ≤ (k : Int) + 1 + 2) = false := by simp; omega
              have hx := (s[k + 2]'(by omega)).toNat_lt
              have hy := (s[k + 3]'hl3).toNat_lt
              rw [dropc s (k + 2) (by omega), dropc s (k + 3) hl3] at hd
              have hfx := fst_x (d := s[k + 2]'(by omega)) (e := s[k + 3]'hl3) (r := s.data.toList.drop (k + 4)) h92 h120
              rw [← hd] at hfx
              have lx := digN_lt (s[k + 2]'(by omega)).toNat
              have ly := digN_lt (s[k + 3]'hl3).toNat
              have cX : ∀ w, Calls Try.prog 21 #[.int .u8 (s[k + 2]'(by omega)).toNat] w _ := fun w => digit_any (s[k + 2]'(by omega)).toNat w hx
              have cY : ∀ w, Calls Try.prog 21 #[.int .u8 (s[k + 3]'hl3).toNat] w _ := fun w => digit_any (s[k + 3]'hl3).toNat w hy
              generalize digN (s[k + 2]'(by omega)).toNat = x at *
              generalize digN (s[k + 3]'hl3).toNat = y at *
              by_cases hbad : x < 0 ∨ y < 0
              · rw [if_pos hbad] at hfx
                have HR : Hid (unesc s.data.toList = ([], false)) := unesc_none (by rw [← HP.out]; exact parse_stop hne hfx)
                clear HP hfx hne hd
                by_cases hx0 : x < 0
                · go_wp2_with (go_at_call 21; refine (cX _).mono ?_; rintro e w1 ⟨rfl, rfl⟩)
                  go_ret2
                  exact ⟨ret_un HR.out, bk⟩
                · have hy0 : y < 0 := by omega
                  have hx0d : decide (x < 0) = false := by simp; omega
                  go_wp2_with (first | (go_at_call 21; refine (cX _).mono ?_; rintro e w1 ⟨rfl, rfl⟩; clear cX) | (go_at_call 21; refine (cY _).mono ?_; rintro e w1 ⟨rfl, rfl⟩))
                  go_ret2
                  exact ⟨ret_un HR.out, bk⟩
              · rw [if_neg hbad] at hfx
                have HQ : Hid (parse (xs ++ [UInt8.ofNat (16 * x + y).toNat]) (s.data.toList.drop (k + 4)) = parse [] s.data.toList) := by unfold Hid; rw [← HP.out]; exact (parse_go hne hfx (by decide)).symm
                clear HP hfx hne hd
                have x0 : 0 ≤ x := by omega
                have y0 : 0 ≤ y := by omega
                have dx0 : decide (x < 0) = false := by simp; omega
                have dy0 : decide (y < 0) = false := by simp; omega
                have cX2 := cX
                have e5 : IntKind.i64.wrap ((k : Int) + 1 + 1) = (k : Int) + 1 + 1 := w64 _ (by omega) (by omega)
                have e6 : IntKind.i64.wrap ((k : Int) + 1 + 2) = (k : Int) + 1 + 2 := w64 _ (by omega) (by omega)
                have e7 : IntKind.i64.wrap (16 * x) = 16 * x := w64 _ (by omega) (by omega)
                have e8 : IntKind.i64.wrap (16 * x + y) = 16 * x + y := w64 _ (by omega) (by omega)
                have cY2 := cY
                have wr16 : IntKind.u8.wrap (16 * x + y) = 16 * x + y := wrap8 _ (by omega) (by omega)
                have m16 : (16 * x + y) % 256 = 16 * x + y := by omega
                go_wp2_with (first | (go_at_call 21; refine (cX _).mono ?_; rintro e w1 ⟨rfl, hw1⟩; have hw2 := hw1.symm; clear hw1; subst hw2; clear cX) | (go_at_call 21; refine (cY _).mono ?_; rintro e w1 ⟨rfl, hw1⟩; have hw2 := hw1.symm; clear hw1; subst hw2; clear cY))
                have od : wr.drew.ownsRow w.heap.size 5 1 u4 xs.length (Lib.byteCells xs) := hown.kept (row := none) ⟨rfl, rfl, rfl, Nat.le_refl _, fun _ _ _ => rfl⟩ (by rcases Joins.ownsRow_forms hown with ⟨rfl, _⟩ | ⟨g, cc, rfl⟩ <;> simp [Value.ownBlock])
                have bd := below_drewN bk 1
                obtain ⟨v', w3, hrun, hown', hgrow, _⟩ := run_append_own (P := Try.prog) (wr.drew.alloc (.cells #[.int .u8 (16 * x + y)] 5)) w.heap.size 22 22 5 i0 _ 1 1 Try.underlying22 hi hz0 hz1 hz2 rfl (by decide) _ _ _ (od.alloc (.cells #[.int .u8 (16 * x + y)] 5)) ⟨wr.heap.size, 0, none⟩ 1 1 [.int .u8 (16 * x + y)] rfl (cell_one_new wr.drew _ _) (by intro y hy; simp at hy; subst hy; rfl) (by unfold maxLen; omega) (by omega) (by simp; omega)
                have b3 := ownsRow_below (od.alloc (.cells #[.int .u8 (16 * x + y)] 5)) hgrow (by simp; omega)
                have b23 := (bd.alloc (show w.heap.size ≤ (wr.drewN 1).heap.size from sk) (.cells #[.int .u8 (16 * x + y)] 5)).trans b3
                clear hgrow b3
                have HO : Hid (w3.ownsRow w.heap.size 5 1 v' (xs ++ [UInt8.ofNat (16 * x + y).toNat]).length (Lib.byteCells (xs ++ [UInt8.ofNat (16 * x + y).toNat]))) := by
                  unfold Hid
                  rw [List.length_append, Lib.byteCells_append]
                  have e : Lib.byteCells [UInt8.ofNat (16 * x + y).toNat] = [.int .u8 (16 * x + y)] := by
                    show [Value.int .u8 ((UInt8.ofNat (16 * x + y).toNat).toNat : Int)] = _
                    rw [← toNat_of_hex x0 lx y0 ly]
                  rw [e]
                  exact hown'
                clear hown'
                go_region_law (first | refine step_append_run rfl (.tmp 70) (.tmp 84) 22 rfl (by simp [Act.eval]) (by simp [Act.eval]) hrun ?_ | (go_simp; go_at_call 21; refine (cX2 _).mono ?_; rintro e w1 ⟨rfl, rfl⟩; clear cX2) | (go_simp; go_at_call 21; refine (cY2 _).mono ?_; rintro e w1 ⟨rfl, rfl⟩; clear cY2))
                all_goals go_wp2
                all_goals
                  go_roundw
                  case rel => exact ⟨k + 4, xs ++ [UInt8.ofNat (16 * x + y).toNat], by omega, by go_num, by rw [List.length_append]; simp; omega, HQ, HO.out, b23⟩
                  case measure => simp [intOf]; omega
            · have g1 : decide ((s.size : Int) ≤ (k : Int) + 1 + 2) = true := by simp; omega
              have hf : fst (s.data.toList.drop k) = (0, 0) := by
                rw [hd]
                by_cases hl2 : k + 2 < s.size
                · rw [dropc s (k + 2) hl2, List.drop_eq_nil_of_le (by rw [← Lib.size_eq]; omega)]; exact fst_x1 h92 h120
                · rw [List.drop_eq_nil_of_le (by rw [← Lib.size_eq]; omega)]; exact fst_x0 h92 h120
              have HR : Hid (unesc s.data.toList = ([], false)) := unesc_none (by rw [← HP.out]; exact parse_stop hne hf)
              clear HP hf hne
              go_wp2
              go_ret2
              exact ⟨ret_un HR.out, bk⟩
          have d120 : (((s[k + 1]'hlt1).toNat : Int) == 120) = false := by simp; omega
          have hf : fst (s.data.toList.drop k) = (0, 0) := by rw [hd]; exact fst_o h92 hb h114 h110 h120
          have HR : Hid (unesc s.data.toList = ([], false)) := unesc_none (by rw [← HP.out]; exact parse_stop hne hf)
          clear HP hf hne
          go_wp2
          go_ret2
          exact ⟨ret_un HR.out, bk⟩
      · have d0 : (((s[k]'hlt).toNat : Int) == 92) = false := by simp; omega
        have HQ : Hid (parse (xs ++ [s[k]'hlt]) (s.data.toList.drop (k + 1)) = parse [] s.data.toList) := by unfold Hid; rw [← HP.out]; exact (parse_go hne (by rw [hd]; exact fst_plain h92) (by decide)).symm
        clear HP hne hd
        go_wp2_with (at_builtin; refine wpList_append_own _ rfl _ _ 22 rfl w.heap.size 5 i0 _ 1 1 Try.underlying22 hi hz0 hz1 hz2 rfl (by decide) _ _ _ rfl (hown.alloc _) ⟨wr.heap.size, 0, none⟩ 1 1 [.int .u8 (s[k]'hlt).toNat] rfl rfl (cell_one_new _ _ _) ?c2 ?c3 ?c4 ?c5 ?_)
        case c2 => intro y hy; simp at hy; subst hy; rfl
        case c3 => unfold maxLen; omega
        case c4 => omega
        case c5 => simp; omega
        intro v' w3 hown' hgrow _
        have b3 := ownsRow_below (hown.alloc (.cells #[.int .u8 (s[k]'hlt).toNat] 5)) hgrow (by simp; omega)
        have b23 := (bk.alloc sk (.cells #[.int .u8 (s[k]'hlt).toNat] 5)).trans b3
        clear hgrow b3
        go_wp2
        go_roundw
        case rel => exact ⟨k + 1, xs ++ [s[k]'hlt], by omega, by go_num, by rw [List.length_append]; simp; omega, HQ, by rw [Lib.byteCells_append, List.length_append]; exact hown', b23⟩
        case measure => simp [intOf]; omega
    · obtain rfl : k = s.size := by omega
      rw [List.drop_eq_nil_of_le (by rw [← Lib.size_eq]; omega), parse_nil] at HP
      have hcv := conv_own hown
      have hez : (⟨xs.toArray⟩ : ByteArray).size = xs.length := by show xs.toArray.size = _; simp
      have cE := specEscaped ⟨xs.toArray⟩ wr (by omega)
      go_wp2_with fail
      refine cE.mono ?_
      rintro e w2 ⟨rfl, b2⟩
      have s2 := b2.size
      have bb := bk.trans (b2.mono sk)
      have o2 : w2.ownsRow w.heap.size 5 1 u4 xs.length (Lib.byteCells xs) := hown.kept (row := none) ⟨b2.os, b2.tape, b2.output, b2.size, fun k hk _ => b2.block k hk⟩ (by rcases Joins.ownsRow_forms hown with ⟨rfl, _⟩ | ⟨g, cc, rfl⟩ <;> simp [Value.ownBlock])
      have hcv2 := conv_own o2
      have heq := mk_eq (l := escL xs) (s := s)
      by_cases hE : escL xs = s.data.toList
      · have HR : Hid (unesc s.data.toList = (xs, true)) := unesc_good HP.out.symm hE
        rw [decide_eq_true hE] at heq
        clear hE HP cE
        generalize (⟨(escL xs).toArray⟩ : ByteArray) = t1 at *
        go_wp2
        go_ret2
        exact ⟨ret_un HR.out, bb⟩
      · have HR : Hid (unesc s.data.toList = ([], false)) := unesc_bad HP.out.symm hE
        rw [decide_eq_false hE] at heq
        clear hE HP cE
        generalize (⟨(escL xs).toArray⟩ : ByteArray) = t1 at *
        go_wp2
        go_ret2
        exact ⟨ret_un HR.out, bb⟩
end Go.Proofs.Ytdabpbnmfccogaa
