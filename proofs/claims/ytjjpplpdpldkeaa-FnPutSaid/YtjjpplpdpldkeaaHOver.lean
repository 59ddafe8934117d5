/- The program's Room and Gap. -/
import Derived.Test.YtjjpplpdpldkeaaHGapW
namespace Go.Proofs.Ytjjpplpdpldkeaa
open Go.RowKit Go.Sort

theorem scan_bound (t : Nat → Bool) : ∀ k, ∀ x ∈ (scanM t k).1, x.1 ≤ k ∧ x.2 ≤ k
  | 0, x, hx => by simp [scanM] at hx
  | k + 1, x, hx => by
    have ih := scan_bound t k
    rw [scanM, stepG] at hx
    split at hx
    · have := ih x hx; omega
    · split at hx
      · rename_i h
        obtain ⟨G, a, l, e, hl⟩ := (scan_shape t k).1 h
        rw [e] at ih
        rw [e, bump_last] at hx
        rcases List.mem_append.1 hx with h | h
        · have := ih x (by simp [h]); omega
        · simp at h
          subst h
          have := ih (a, l) (by simp)
          simp at this ⊢
          omega
      · rcases List.mem_append.1 hx with h | h
        · have := ih x h; omega
        · simp at h
          subst h
          exact ⟨by simp, by simp⟩

/-- How an opening ends, at any heap. -/
def OpenAll (w : World) (s : ByteArray) (L : List Cl) (e : Ending) (w' : World) : Prop :=
  ∃ p : Option Addr, e = .returned (.tuple #[.pointer p, .bool (heapB s L)]) ∧
    (heapB s L = true → ∃ g t, p = some ⟨g, 0, none⟩ ∧ openM s.size L (fun _ => false) = some t ∧ Opens w' g (byteAt s) t s.size L.length) ∧ Below w.heap.size w w'

theorem heap_small {s : ByteArray} {L : List Cl} (h : heapB s L = true) : s.size ≤ 3000 ∧ L.length ≤ 40 := by
  unfold heapB at h
  rw [Bool.and_eq_true] at h
  exact of_decide_eq_true h.1

set_option maxHeartbeats 1000000 in
theorem opened_all (s : ByteArray) (a : Option Addr) (b off n c : Nat) (L : List Cl) (w : World) (h : CellsIn w a b off n L) (hs : s.size ≤ 1048576) (hn : n ≤ 1048576) (hf : ∀ i, i < n → Fit (L.getD i cl0)) :
    Calls Try.prog 25 #[.agg #[.string s, .slice a n c]] w (OpenAll w s L) := by
  have hl := h.len
  by_cases hr : s.size ≤ 3000 ∧ n ≤ 40
  · have HR : heapB s L = implB (byteAt s) s.size L := by
      unfold heapB
      rw [decide_eq_true (by omega), Bool.true_and]
    unfold OpenAll
    rw [HR]
    exact opened_any s a b off n c L w h hr.1 hr.2 hf
  · have HR : Hid (heapB s L = false) := by
      unfold Hid heapB
      rw [decide_eq_false (by omega), Bool.false_and]
    have hb : Below w.heap.size w (w.alloc (.cells #[.string s, .slice a n c] 26)) := (Below.refl _ w).alloc (Nat.le_refl _) _
    by_cases h1 : (3000 : Int) < (s.size : Int)
    · go_enter Try.func25, Try.ntmps25
      go_wp2
      go_ret2
      exact ⟨none, by rw [HR.out]; rfl, (fun h => by rw [HR.out] at h; cases h), hb⟩
    · have h2 : (40 : Int) < (n : Int) := by omega
      go_enter Try.func25, Try.ntmps25
      go_wp2
      go_ret2
      exact ⟨none, by rw [HR.out]; rfl, (fun h => by rw [HR.out] at h; cases h), hb⟩

/-- What the gaps of a right heap give. -/
def gapsOf (s : ByteArray) (L : List Cl) : List (Nat × Nat) := match openM s.size L (fun _ => false) with | none => [] | some t => (scanM t s.size).1

def foldG (f : Int → Int → Int) (G : List (Nat × Nat)) : Int := G.foldl (fun a g => f a (g.2 : Int)) 0

def overB (f : Int → Int → Int) (s : ByteArray) (L : List Cl) : Int := if heapB s L = true then foldG f (gapsOf s L) else -1

theorem fold_step (f : Int → Int → Int) (G : List (Nat × Nat)) (k : Nat) (h : k < G.length) : foldG f (G.take (k + 1)) = f (foldG f (G.take k)) ((G.getD k (0, 0)).2 : Int) := by
  unfold foldG
  rw [List.take_succ_eq_append_getElem h, List.foldl_append, List.getD_eq_getElem?_getD, List.getElem?_eq_getElem h]
  rfl

theorem flatG_at (G : List (Nat × Nat)) (k : Nat) (h : k < G.length) : (flatG G)[k * 2]? = some (.int .i64 ((G.getD k (0, 0)).1 : Nat)) ∧ (flatG G)[k * 2 + 1]? = some (.int .i64 ((G.getD k (0, 0)).2 : Nat)) := by
  have e : G = G.take k ++ (G.getD k (0, 0) :: G.drop (k + 1)) := by
    rw [List.getD_eq_getElem?_getD, List.getElem?_eq_getElem h]
    simp
  have hl : (flatG (G.take k)).length = k * 2 := by rw [flatG_len, List.length_take]; omega
  generalize G.getD k (0, 0) = x at *
  rw [e, flatG_app]
  constructor
  · rw [List.getElem?_append_right (by rw [hl]; omega), hl, Nat.sub_self]
    rfl
  · rw [List.getElem?_append_right (by rw [hl]; omega), hl, show k * 2 + 1 - k * 2 = 1 from by omega]
    rfl

set_option maxHeartbeats 4000000 in
set_option maxRecDepth 100000 in
theorem over38 (f : Int → Int → Int) (hfb : ∀ x y : Int, 0 ≤ x → 0 ≤ y → 0 ≤ f x y ∧ f x y ≤ x + y) (hJ : ∀ (x y : Int) (w : World), 0 ≤ x → x ≤ 100000000 → 0 ≤ y → y ≤ 100000000 → Calls Try.prog 36 #[.int .i64 x, .int .i64 y] w fun e w' => e = .returned (.int .i64 (f x y)) ∧ w' = w)
    (s : ByteArray) (a : Option Addr) (b off n c : Nat) (L : List Cl) (w : World) (h : CellsIn w a b off n L) (hs : s.size ≤ 1048576) (hn : n ≤ 1048576) (hf : ∀ i, i < n → Fit (L.getD i cl0)) :
    Calls Try.prog 32 #[.agg #[.string s, .slice a n c], .func (.func 36) #[] #[]] w fun e w' => e = .returned (.int .i64 (overB f s L)) ∧ Below w.heap.size w w' := by
  have hb0 : Below w.heap.size w (w.alloc (.cells #[.string s, .slice a n c] 26)) := (Below.refl _ w).alloc (Nat.le_refl _) _
  have h0 := cells_below h hb0
  have HO : Hid (Calls Try.prog 25 #[.agg #[.string s, .slice a n c]] (w.alloc (.cells #[.string s, .slice a n c] 26)) (OpenAll (w.alloc (.cells #[.string s, .slice a n c] 26)) s L)) := opened_all s a b off n c L _ h0 hs hn hf
  have HJ : Hid _ := hJ
  have HFB : Hid _ := hfb
  clear hJ hfb hf h0
  go_enter Try.func32, Try.ntmps32
  go_wp2_with fail
  refine HO.out.mono ?_
  clear HO
  rintro e w1 ⟨p, rfl, hop, b1⟩
  have bb := hb0.trans (b1.mono (by simp))
  clear b1 hb0
  cases hr : heapB s L with
  | false =>
    have HR : Hid (overB f s L = -1) := by unfold Hid overB; rw [hr]; rfl
    clear hop hr
    go_wp2
    go_ret
    exact ⟨ret_int HR.out.symm, bb⟩
  | true =>
    obtain ⟨hs3, hL⟩ := heap_small hr
    obtain ⟨g, t, rfl, ho, cs, xs, har, _⟩ := hop hr
    have HR : Hid (overB f s L = foldG f (scanM t s.size).1) := by unfold Hid overB gapsOf; rw [hr, ho]; rfl
    clear hop hr ho
    go_wp2_with fail
    refine (gaps_any g s.size (byteAt s) t cs w1 har hs3).mono ?_
    rintro e w2 ⟨v, rfl, hown, b2⟩
    have bb2 := bb.trans (b2.mono bb.size)
    have HBd : Hid (∀ x ∈ (scanM t s.size).1, x.1 ≤ s.size ∧ x.2 ≤ s.size) := scan_bound t s.size
    have hlen := (scan_shape t s.size).2
    generalize (scanM t s.size).1 = G at *
    clear har b2
    by_cases hG : G.length = 0
    · have hG0 : G = [] := List.eq_nil_of_length_eq_zero hG
      subst hG0
      rcases Go.Joins.ownsRow_forms hown with ⟨rfl, _⟩ | ⟨A, cap, rfl⟩
      · clear hown HBd
        go_wp2
        refine wp_loop_rounds 1 ?_
        rw [rounds_succ]
        go_wp2
        go_ret
        exact ⟨ret_int HR.out.symm, bb2⟩
      · clear hown HBd
        go_wp2
        refine wp_loop_rounds 1 ?_
        rw [rounds_succ]
        go_wp2
        go_ret
        exact ⟨ret_int HR.out.symm, bb2⟩
    · obtain ⟨A, cap, rfl⟩ := Go.Joins.ownsRow_form hown (by omega)
      have HC : Hid (∀ k, k < G.length → w2.cell? ⟨A, k * 2, none⟩ = some (.int .i64 ((G.getD k (0, 0)).1 : Nat)) ∧ w2.cell? ⟨A, k * 2 + 1, none⟩ = some (.int .i64 ((G.getD k (0, 0)).2 : Nat))) := fun k hk => by
        have h1 := hown.cells rfl (k * 2) _ (flatG_at G k hk).1
        have h2 := hown.cells rfl (k * 2 + 1) _ (flatG_at G k hk).2
        rw [Addr.add_lit, Nat.zero_add] at h1 h2
        exact ⟨h1, h2⟩
      have HA : Hid (A < w2.heap.size) := (hown.lt A rfl).2
      clear hown hG
      go_wp2
      go_loopw [7, 9, 20] (fun tot _ i wr => ∃ k : Nat, k ≤ G.length ∧ i = .int .i64 k ∧ tot = .int .i64 (foldG f (G.take k)) ∧ 0 ≤ foldG f (G.take k) ∧ foldG f (G.take k) ≤ 3000 * k ∧ Below w2.heap.size w2 wr) (fun _ _ i _ => G.length - (intOf i).toNat)
      case atStart => exact ⟨0, by omega, rfl, rfl, by simp [foldG], by simp [foldG], Below.refl _ _⟩
      case round =>
        obtain ⟨k, hk, rfl, rfl, hf0, hf1, bk⟩ := hrel
        by_cases hlt : k < G.length
        · obtain ⟨c0', c1'⟩ := HC.out k hlt
          have c0 := (bk.cell (p := ⟨A, k * 2, none⟩) HA.out).trans c0'
          have c1 := (bk.cell (p := ⟨A, k * 2 + 1, none⟩) HA.out).trans c1'
          clear c0' c1'
          have hbd := HBd.out (G.getD k (0, 0)) (by rw [List.getD_eq_getElem?_getD, List.getElem?_eq_getElem hlt]; exact List.getElem_mem hlt)
          have HS : Hid (foldG f (G.take (k + 1)) = f (foldG f (G.take k)) ((G.getD k (0, 0)).2 : Int)) := fold_step f G k hlt
          generalize G.getD k (0, 0) = x at *
          obtain ⟨x1, x2⟩ := x
          simp only at c0 c1 hbd HS
          generalize foldG f (G.take k) = T at *
          go_wp2_with fail
          refine (HJ.out T (x2 : Int) _ hf0 (by omega) (by omega) (by omega)).mono ?_
          rintro e w3 ⟨rfl, rfl⟩
          obtain ⟨q1, q2⟩ := HFB.out T (x2 : Int) hf0 (by omega)
          go_wp2
          go_roundw
          case rel => exact ⟨k + 1, by omega, by go_num, by rw [HS.out], by rw [HS.out]; exact q1, by rw [HS.out]; omega, bk.alloc bk.size _⟩
          case measure => simp [intOf]; omega
        · have hkG : k = G.length := by omega
          have HT : Hid (foldG f (G.take k) = foldG f G) := by unfold Hid; rw [hkG, List.take_length]
          clear hkG
          go_wp2
          go_ret
          exact ⟨ret_int (HT.out.trans HR.out.symm), bb2.trans (bk.mono bb2.size)⟩
set_option maxHeartbeats 4000000 in
set_option maxRecDepth 100000 in
theorem over40 (f : Int → Int → Int) (hfb : ∀ x y : Int, 0 ≤ x → 0 ≤ y → 0 ≤ f x y ∧ f x y ≤ x + y) (hJ : ∀ (x y : Int) (w : World), 0 ≤ x → x ≤ 100000000 → 0 ≤ y → y ≤ 100000000 → Calls Try.prog 33 #[.int .i64 x, .int .i64 y] w fun e w' => e = .returned (.int .i64 (f x y)) ∧ w' = w)
    (s : ByteArray) (a : Option Addr) (b off n c : Nat) (L : List Cl) (w : World) (h : CellsIn w a b off n L) (hs : s.size ≤ 1048576) (hn : n ≤ 1048576) (hf : ∀ i, i < n → Fit (L.getD i cl0)) :
    Calls Try.prog 32 #[.agg #[.string s, .slice a n c], .func (.func 33) #[] #[]] w fun e w' => e = .returned (.int .i64 (overB f s L)) ∧ Below w.heap.size w w' := by
  have hb0 : Below w.heap.size w (w.alloc (.cells #[.string s, .slice a n c] 26)) := (Below.refl _ w).alloc (Nat.le_refl _) _
  have h0 := cells_below h hb0
  have HO : Hid (Calls Try.prog 25 #[.agg #[.string s, .slice a n c]] (w.alloc (.cells #[.string s, .slice a n c] 26)) (OpenAll (w.alloc (.cells #[.string s, .slice a n c] 26)) s L)) := opened_all s a b off n c L _ h0 hs hn hf
  have HJ : Hid _ := hJ
  have HFB : Hid _ := hfb
  clear hJ hfb hf h0
  go_enter Try.func32, Try.ntmps32
  go_wp2_with fail
  refine HO.out.mono ?_
  clear HO
  rintro e w1 ⟨p, rfl, hop, b1⟩
  have bb := hb0.trans (b1.mono (by simp))
  clear b1 hb0
  cases hr : heapB s L with
  | false =>
    have HR : Hid (overB f s L = -1) := by unfold Hid overB; rw [hr]; rfl
    clear hop hr
    go_wp2
    go_ret
    exact ⟨ret_int HR.out.symm, bb⟩
  | true =>
    obtain ⟨hs3, hL⟩ := heap_small hr
    obtain ⟨g, t, rfl, ho, cs, xs, har, _⟩ := hop hr
    have HR : Hid (overB f s L = foldG f (scanM t s.size).1) := by unfold Hid overB gapsOf; rw [hr, ho]; rfl
    clear hop hr ho
    go_wp2_with fail
    refine (gaps_any g s.size (byteAt s) t cs w1 har hs3).mono ?_
    rintro e w2 ⟨v, rfl, hown, b2⟩
    have bb2 := bb.trans (b2.mono bb.size)
    have HBd : Hid (∀ x ∈ (scanM t s.size).1, x.1 ≤ s.size ∧ x.2 ≤ s.size) := scan_bound t s.size
    have hlen := (scan_shape t s.size).2
    generalize (scanM t s.size).1 = G at *
    clear har b2
    by_cases hG : G.length = 0
    · have hG0 : G = [] := List.eq_nil_of_length_eq_zero hG
      subst hG0
      rcases Go.Joins.ownsRow_forms hown with ⟨rfl, _⟩ | ⟨A, cap, rfl⟩
      · clear hown HBd
        go_wp2
        refine wp_loop_rounds 1 ?_
        rw [rounds_succ]
        go_wp2
        go_ret
        exact ⟨ret_int HR.out.symm, bb2⟩
      · clear hown HBd
        go_wp2
        refine wp_loop_rounds 1 ?_
        rw [rounds_succ]
        go_wp2
        go_ret
        exact ⟨ret_int HR.out.symm, bb2⟩
    · obtain ⟨A, cap, rfl⟩ := Go.Joins.ownsRow_form hown (by omega)
      have HC : Hid (∀ k, k < G.length → w2.cell? ⟨A, k * 2, none⟩ = some (.int .i64 ((G.getD k (0, 0)).1 : Nat)) ∧ w2.cell? ⟨A, k * 2 + 1, none⟩ = some (.int .i64 ((G.getD k (0, 0)).2 : Nat))) := fun k hk => by
        have h1 := hown.cells rfl (k * 2) _ (flatG_at G k hk).1
        have h2 := hown.cells rfl (k * 2 + 1) _ (flatG_at G k hk).2
        rw [Addr.add_lit, Nat.zero_add] at h1 h2
        exact ⟨h1, h2⟩
      have HA : Hid (A < w2.heap.size) := (hown.lt A rfl).2
      clear hown hG
      go_wp2
      go_loopw [7, 9, 20] (fun tot _ i wr => ∃ k : Nat, k ≤ G.length ∧ i = .int .i64 k ∧ tot = .int .i64 (foldG f (G.take k)) ∧ 0 ≤ foldG f (G.take k) ∧ foldG f (G.take k) ≤ 3000 * k ∧ Below w2.heap.size w2 wr) (fun _ _ i _ => G.length - (intOf i).toNat)
      case atStart => exact ⟨0, by omega, rfl, rfl, by simp [foldG], by simp [foldG], Below.refl _ _⟩
      case round =>
        obtain ⟨k, hk, rfl, rfl, hf0, hf1, bk⟩ := hrel
        by_cases hlt : k < G.length
        · obtain ⟨c0', c1'⟩ := HC.out k hlt
          have c0 := (bk.cell (p := ⟨A, k * 2, none⟩) HA.out).trans c0'
          have c1 := (bk.cell (p := ⟨A, k * 2 + 1, none⟩) HA.out).trans c1'
          clear c0' c1'
          have hbd := HBd.out (G.getD k (0, 0)) (by rw [List.getD_eq_getElem?_getD, List.getElem?_eq_getElem hlt]; exact List.getElem_mem hlt)
          have HS : Hid (foldG f (G.take (k + 1)) = f (foldG f (G.take k)) ((G.getD k (0, 0)).2 : Int)) := fold_step f G k hlt
          generalize G.getD k (0, 0) = x at *
          obtain ⟨x1, x2⟩ := x
          simp only at c0 c1 hbd HS
          generalize foldG f (G.take k) = T at *
          go_wp2_with fail
          refine (HJ.out T (x2 : Int) _ hf0 (by omega) (by omega) (by omega)).mono ?_
          rintro e w3 ⟨rfl, rfl⟩
          obtain ⟨q1, q2⟩ := HFB.out T (x2 : Int) hf0 (by omega)
          go_wp2
          go_roundw
          case rel => exact ⟨k + 1, by omega, by go_num, by rw [HS.out], by rw [HS.out]; exact q1, by rw [HS.out]; omega, bk.alloc bk.size _⟩
          case measure => simp [intOf]; omega
        · have hkG : k = G.length := by omega
          have HT : Hid (foldG f (G.take k) = foldG f G) := by unfold Hid; rw [hkG, List.take_length]
          clear hkG
          go_wp2
          go_ret
          exact ⟨ret_int (HT.out.trans HR.out.symm), bb2.trans (bk.mono bb2.size)⟩
theorem join38 (x y : Int) (w : World) (h0 : 0 ≤ x) (h1 : x ≤ 100000000) (h2 : 0 ≤ y) (h3 : y ≤ 100000000) : Calls Try.prog 36 #[.int .i64 x, .int .i64 y] w fun e w' => e = .returned (.int .i64 (x + y)) ∧ w' = w := by
  go_enter Try.func36, Try.ntmps36
  go_wp2
  go_ret
  exact ⟨rfl, rfl⟩

theorem join40 (x y : Int) (w : World) (_ : 0 ≤ x) (_ : x ≤ 100000000) (_ : 0 ≤ y) (_ : y ≤ 100000000) : Calls Try.prog 33 #[.int .i64 x, .int .i64 y] w fun e w' => e = .returned (.int .i64 (max x y)) ∧ w' = w := by
  go_enter Try.func33, Try.ntmps33
  go_wp2
  all_goals
    go_ret
    exact ⟨ret_int (by omega), rfl⟩

set_option maxHeartbeats 1000000 in
theorem implRoom_any (s : ByteArray) (a : Option Addr) (b off n c : Nat) (L : List Cl) (w : World) (h : CellsIn w a b off n L) (hs : s.size ≤ 1048576) (hn : n ≤ 1048576) (hf : ∀ i, i < n → Fit (L.getD i cl0)) :
    Calls Try.prog 14 #[.agg #[.string s, .slice a n c]] w fun e w' => e = .returned (.int .i64 (overB (fun x y => x + y) s L)) ∧ Below w.heap.size w w' := by
  have hb0 : Below w.heap.size w (w.alloc (.cells #[.string s, .slice a n c] 26)) := (Below.refl _ w).alloc (Nat.le_refl _) _
  have h0 := cells_below h hb0
  have HO : Hid (Calls Try.prog 32 #[.agg #[.string s, .slice a n c], .func (.func 36) #[] #[]] (w.alloc (.cells #[.string s, .slice a n c] 26)) _) := over38 (fun x y => x + y) (fun x y h1 h2 => ⟨Int.add_nonneg h1 h2, Int.le_refl _⟩) (fun x y w => join38 x y w) s a b off n c L _ h0 hs hn hf
  clear h0
  go_enter Try.func14, Try.ntmps14
  go_wp2_with fail
  refine HO.out.mono ?_
  rintro e w1 ⟨rfl, b1⟩
  have bb := hb0.trans (b1.mono (by simp))
  go_wp2
  go_ret
  exact ⟨rfl, bb⟩

set_option maxHeartbeats 1000000 in
theorem implGap_any (s : ByteArray) (a : Option Addr) (b off n c : Nat) (L : List Cl) (w : World) (h : CellsIn w a b off n L) (hs : s.size ≤ 1048576) (hn : n ≤ 1048576) (hf : ∀ i, i < n → Fit (L.getD i cl0)) :
    Calls Try.prog 11 #[.agg #[.string s, .slice a n c]] w fun e w' => e = .returned (.int .i64 (overB (fun x y => max x y) s L)) ∧ Below w.heap.size w w' := by
  have hb0 : Below w.heap.size w (w.alloc (.cells #[.string s, .slice a n c] 26)) := (Below.refl _ w).alloc (Nat.le_refl _) _
  have h0 := cells_below h hb0
  have HO : Hid (Calls Try.prog 32 #[.agg #[.string s, .slice a n c], .func (.func 33) #[] #[]] (w.alloc (.cells #[.string s, .slice a n c] 26)) _) := over40 (fun x y => max x y) (fun x y h1 h2 => ⟨Int.le_trans h1 (Int.le_max_left _ _), Int.max_le.2 ⟨by omega, by omega⟩⟩) (fun x y w => join40 x y w) s a b off n c L _ h0 hs hn hf
  clear h0
  go_enter Try.func11, Try.ntmps11
  go_wp2_with fail
  refine HO.out.mono ?_
  rintro e w1 ⟨rfl, b1⟩
  have bb := hb0.trans (b1.mono (by simp))
  go_wp2
  go_ret
  exact ⟨rfl, bb⟩
end Go.Proofs.Ytjjpplpdpldkeaa
