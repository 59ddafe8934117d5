/- FnFed: what the law's walk goes by. -/
import Derived.Test.YtielombpeeelkaaDoorFdLaw
import Derived.Test.YtielombpeeelkaaDoorDrawF
namespace Go.Proofs.YtielombpeeelkaaDoor
open Go.RowKit Go.Sort

theorem big_any (a : Option Addr) (n c : Nat) (w : World) : Calls Tryd.prog 6 #[.slice a n c] w fun e w' => e = .returned (.bool (decide ((1048576 : Int) < (n : Int)))) ∧ w' = w := by
  go_enter Tryd.func6, Tryd.ntmps6
  go_wp2
  go_ret
  exact ⟨rfl, rfl⟩

set_option maxHeartbeats 400000 in
/-- sameTexts at two slices that read as the same strings: true; the world has but drawn. -/
theorem same_any (a a' : Option Addr) (b off b' off' n c c' : Nat) (ss : List ByteArray) (w : World) (h : StrsIn w a b off n ss) (h' : StrsIn w a' b' off' n ss) (hn : n ≤ 1048576) :
    Calls Tryd.prog 10 #[.slice a n c, .slice a' n c'] w fun e w' => e = .returned (.bool true) ∧ ∃ q, w' = w.drewN q := by
  go_enter Tryd.func10, Tryd.ntmps10
  go_wp2
  go_loopw [5] (fun i wr => ∃ (k q : Nat), k ≤ n ∧ i = .int .i64 k ∧ wr = w.drewN q) (fun i _ => n - (intOf i).toNat)
  case atStart => exact ⟨0, 0, by omega, rfl, rfl⟩
  case round =>
    obtain ⟨k, q, hk, rfl, rfl⟩ := hrel
    by_cases hlt : k < n
    · obtain rfl := h.addr (by omega)
      obtain rfl := h'.addr (by omega)
      have hc := h.cell k hlt
      have hc' := h'.cell k hlt
      generalize ss.getD k ByteArray.empty = s at *
      go_wp2
      go_quiet ((fail))
      go_wp2
      go_roundw
      case rel => exact ⟨k + 1, _, by omega, by go_num, rfl⟩
      case measure => simp [intOf]; omega
    · go_wp2
      go_ret
      exact ⟨rfl, q, rfl⟩

def FedOf (W : World) (L : List (List (List UInt8))) (left : ByteArray) (ok : Bool) (e : Ending) (w' : World) : Prop :=
  ∃ v xs, e = .returned (.tuple #[v, .string left, .bool ok]) ∧ Own2 w' W.heap.size v xs (rowsOf L) ∧ Below W.heap.size W w'

/-- What the three readings give. -/
structure FedFacts (a b : ByteArray) (k : Nat) (L L1 L2 : List (List (List UInt8))) (left mid : ByteArray) (ok fine : Bool) : Prop where
  imp0 : ∀ W, Ready W → Calls Tryd.prog 8 #[.string a, .string b] W (FedOf W L left ok)
  spe0 : ∀ W, Calls Tryd.prog 9 #[.string a, .string b] W (FedOf W L left ok)
  imp1 : ∀ W, Ready W → Calls Tryd.prog 8 #[.string a, .string (b.extract 0 k)] W (FedOf W L1 mid fine)
  imp2 : fine = true → ∀ W, Ready W → Calls Tryd.prog 8 #[.string mid, .string (b.extract k b.size)] W (FedOf W L2 left ok)
  joins : fine = true → L = L1 ++ L2
  stops : fine = false → L = L1 ∧ ok = false
  small : SmallReqs L ∧ SmallReqs L1 ∧ SmallReqs L2
  few : L.length ≤ 2097152 ∧ L1.length ≤ 2097152 ∧ L2.length ≤ 2097152
  some_ : ∀ ts ∈ L, ts ≠ []
  ends : ∀ W, Ready W → Calls Tryd.prog 11 #[.string left] W (fun e w' => ∃ v x c, e = .returned (.tuple #[v, .int .i64 x, .int .i64 c]) ∧ (∃ p n q, v = .slice p n q) ∧ (ok = true → c = 1) ∧ Below W.heap.size W w')
  none_ : ok = false → left.size = 0

theorem facts_of (a b : ByteArray) (k : Nat) (ha : a.size ≤ 30000) (hb : b.size ≤ 30000) (hk : k ≤ b.size) : ∃ L L1 L2 left mid ok fine, FedFacts a b k L L1 L2 left mid ok fine := by
  have hA : a.data.toList.length ≤ 30000 := by rw [← Lib.size_eq]; exact ha
  have hB : b.data.toList.length ≤ 30000 := by rw [← Lib.size_eq]; exact hb
  have e1 : (b.extract 0 k).data.toList = b.data.toList.take k := by rw [Lib.extract_data]; simp
  have e2 : (b.extract k b.size).data.toList = b.data.toList.drop k := drop_str b k hk
  have el : a.data.toList ++ b.data.toList = (a.data.toList ++ b.data.toList.take k) ++ b.data.toList.drop k := by rw [List.append_assoc, List.take_append_drop]
  have hmid := fed_len (a.data.toList ++ b.data.toList.take k)
  rw [List.length_append, List.length_take] at hmid
  obtain ⟨t1, t2⟩ := fed_two (b.data.toList.drop k) (a.data.toList ++ b.data.toList.take k)
  rw [← el] at t1 t2
  obtain ⟨r0, r1⟩ := fed_reqs (a.data.toList ++ b.data.toList)
  obtain ⟨q0, q1⟩ := fed_reqs (a.data.toList ++ b.data.toList.take k)
  obtain ⟨p0, p1⟩ := fed_reqs ((fedM (a.data.toList ++ b.data.toList.take k)).2.1 ++ b.data.toList.drop k)
  rw [List.length_append] at r0
  rw [List.length_append, List.length_take] at q0
  rw [List.length_append, List.length_drop] at p0
  have hends := fed_ends (a.data.toList ++ b.data.toList)
  have hleft := fed_len (a.data.toList ++ b.data.toList)
  rw [List.length_append] at hleft
  refine ⟨(fedM (a.data.toList ++ b.data.toList)).1, (fedM (a.data.toList ++ b.data.toList.take k)).1, (fedM ((fedM (a.data.toList ++ b.data.toList.take k)).2.1 ++ b.data.toList.drop k)).1, ⟨(fedM (a.data.toList ++ b.data.toList)).2.1.toArray⟩, ⟨(fedM (a.data.toList ++ b.data.toList.take k)).2.1.toArray⟩, (fedM (a.data.toList ++ b.data.toList)).2.2, (fedM (a.data.toList ++ b.data.toList.take k)).2.2, ?_⟩
  refine ⟨fun W h => implFed a b W h (by omega), fun W => specFed a b W (by omega), fun W h => ?_, fun hf W h => ?_, fun hf => ?_, fun hf => ?_, ⟨fun ts h => (r1 ts h).2, fun ts h => (q1 ts h).2, fun ts h => (p1 ts h).2⟩, ⟨by omega, by omega, by omega⟩, fun ts h => (r1 ts h).1, fun W h => ?_, fun ho => ?_⟩
  · have := implFed a (b.extract 0 k) W h (by rw [ByteArray.size_extract]; omega)
    rw [e1] at this
    exact this
  · have := implFed ⟨(fedM (a.data.toList ++ b.data.toList.take k)).2.1.toArray⟩ (b.extract k b.size) W h (by rw [size_mk, ByteArray.size_extract]; omega)
    rw [e2] at this
    have e3 : fedM (a.data.toList ++ b.data.toList) = addReqs (fedM (a.data.toList ++ b.data.toList.take k)).1 (fedM ((fedM (a.data.toList ++ b.data.toList.take k)).2.1 ++ b.data.toList.drop k)) := t1 hf
    have e4 : (fedM (a.data.toList ++ b.data.toList)).2 = (fedM ((fedM (a.data.toList ++ b.data.toList.take k)).2.1 ++ b.data.toList.drop k)).2 := by rw [e3]; rfl
    rw [e4]
    exact this
  · rw [t1 hf]; rfl
  · rw [t2 hf]
    exact ⟨rfl, hf⟩
  · have hR := readReq ⟨(fedM (a.data.toList ++ b.data.toList)).2.1.toArray⟩ W (by rw [size_mk]; omega) h
    have e5 : (⟨(fedM (a.data.toList ++ b.data.toList)).2.1.toArray⟩ : ByteArray).data.toList = (fedM (a.data.toList ++ b.data.toList)).2.1 := by simp
    rw [e5] at hR
    refine hR.mono ?_
    intro e w' hE
    rcases hends with ⟨ho, c, hc, hc2⟩ | ⟨ho, hn⟩
    · rw [hc] at hE
      obtain ⟨he, hb⟩ := hE
      exact ⟨_, 0, c, he, ⟨_, _, _, rfl⟩, fun _ => by have := requestM_codes hc; omega, hb⟩
    · rw [hn] at hE
      obtain ⟨he, hb⟩ := hE
      exact ⟨_, 0, 1, he, ⟨_, _, _, rfl⟩, fun h => absurd (ho.symm.trans h) (by decide), hb⟩
  · rcases hends with ⟨h, _⟩ | ⟨_, hn⟩
    · rw [h] at ho; cases ho
    · rw [hn]; rfl

/-- A list of lists that is read. -/
structure Lists (W : World) (v : Value) (L : List (List (List UInt8))) : Prop where
  val : ∃ a c, v = .slice a L.length c
  at_ : ∀ i (hi : i < L.length), ∃ A cap p b off k, v = .slice (some ⟨A, 0, none⟩) L.length cap ∧ A < W.heap.size ∧ W.cell? ⟨A, i, none⟩ = some (.slice p (L[i]).length k) ∧ StrsIn W p b off (L[i]).length (bytesOf L[i])

theorem Lists.below {W W' : World} {v : Value} {L : List (List (List UInt8))} (h : Lists W v L) (hb : Below W.heap.size W W') : Lists W' v L :=
  ⟨h.val, fun i hi => by
    obtain ⟨A, cap, p, b, off, k, h1, h2, h3, h4⟩ := h.at_ i hi
    exact ⟨A, cap, p, b, off, k, h1, Nat.lt_of_lt_of_le h2 hb.size, (hb.cell (p := ⟨A, i, none⟩) h2).trans h3, strs_below h4 hb⟩⟩

theorem lists_own {W : World} {B : Nat} {v : Value} {xs : List Value} {L : List (List (List UInt8))} (h : Own2 W B v xs (rowsOf L)) (hS : SmallReqs L) : Lists W v L := by
  have ho := h.outer
  rw [rowsOf_len] at ho
  refine ⟨slice_any ho, fun i hi => ?_⟩
  obtain ⟨A, cap, p, b, off, k, h1, h2, _, h4⟩ := own2_at h hS i hi
  refine ⟨A, cap, p, b, off, k, h1, ?_, h2, h4⟩
  subst h1
  exact (ho.lt A rfl).2

theorem lists_join {W W' : World} {B B1 B2 : Nat} {v v1 v2 : Value} {xs1 xs2 : List Value} {L1 L2 : List (List (List UInt8))} (h1 : Own2 W B1 v1 xs1 (rowsOf L1)) (h2 : Own2 W B2 v2 xs2 (rowsOf L2)) (s1 : SmallReqs L1) (s2 : SmallReqs L2) (hb : Below W.heap.size W W')
    (ho : W'.ownsRow B 30 1 v (L1.length + L2.length) (xs1 ++ xs2)) : Lists W' v (L1 ++ L2) := by
  rw [← List.length_append] at ho
  have l1 : xs1.length = L1.length := by have := h1.outer.1; rw [rowsOf_len] at this; omega
  refine ⟨slice_any ho, fun i hi => ?_⟩
  obtain ⟨A, cap, rfl⟩ := Go.Joins.ownsRow_form ho (by omega)
  have hlt := (ho.lt A rfl).2
  by_cases hi1 : i < L1.length
  · obtain ⟨_, _, p, b, off, k, _, _, hx, hs⟩ := own2_at h1 s1 i hi1
    have hc := ho.cells rfl i _ (by rw [List.getElem?_append_left (by omega)]; exact hx)
    rw [Addr.add_lit, Nat.zero_add] at hc
    rw [List.getElem_append_left hi1]
    exact ⟨A, cap, p, b, off, k, rfl, hlt, hc, strs_below hs hb⟩
  · have hi2 : i - L1.length < L2.length := by rw [List.length_append] at hi; omega
    obtain ⟨_, _, p, b, off, k, _, _, hx, hs⟩ := own2_at h2 s2 (i - L1.length) hi2
    have hc := ho.cells rfl i _ (by rw [List.getElem?_append_right (by omega), l1]; exact hx)
    rw [Addr.add_lit, Nat.zero_add] at hc
    rw [List.getElem_append_right (by omega)]
    exact ⟨A, cap, p, b, off, k, rfl, hlt, hc, strs_below hs hb⟩

theorem row_slices {W : World} {B : Nat} {v : Value} {xs : List Value} {rows : List (List Value)} (h : Own2 W B v xs rows) : ∀ u ∈ xs, u.oneCell' = true := fun u hu => by
  obtain ⟨i, hi⟩ := List.getElem?_of_mem hu
  have hl : xs.length = rows.length := by have := h.outer.1; omega
  have hil : i < xs.length := (List.getElem?_eq_some_iff.1 hi).1
  obtain ⟨x, h1, h2⟩ := h.inner i rows[i] (List.getElem?_eq_getElem (by omega))
  rw [hi] at h1
  cases h1
  obtain ⟨a, c, rfl⟩ := slice_any h2
  rfl

theorem append_rows {W : World} {B M n m : Nat} {A cap : Nat} {vs : Value} {xs xs2 : List Value} (hd : W.ownsRow B 30 1 (.slice (some ⟨A, 0, none⟩) n cap) n xs) (hs : W.ownsRow M 30 1 vs m xs2) (hone : ∀ u ∈ xs2, u.oneCell' = true) (hnm : n + m ≤ 4200000) (hB : B ≤ W.heap.size) :
    ∃ A' cap' w', (Builtin.append_ #[26, 26] 26 #[.slice (some ⟨A, 0, none⟩) n cap, vs]).run Tryd.prog W = .ok (.slice (some ⟨A', 0, none⟩) (n + m) cap') w' ∧ w'.ownsRow B 30 1 (.slice (some ⟨A', 0, none⟩) (n + m) cap') (n + m) (xs ++ xs2) ∧ W.grownBy w' (some A) := by
  obtain ⟨i0, hi, hz0, hz1, hz2⟩ := info_parts info30
  have hcap : n ≤ cap := by
    obtain ⟨_, ⟨e, _⟩ | ⟨g, c, cur, e, _, _, hc, _⟩⟩ := hd
    · cases e
    · cases e; exact hc
  by_cases hm : 0 < m
  · obtain ⟨A2, c2, rfl⟩ := Go.Joins.ownsRow_form hs hm
    obtain ⟨v', w', hrun, hown, hgr, hiff⟩ := run_append_own (P := Tryd.prog) W B 26 26 30 i0 _ 1 24 Tryd.underlying26 hi hz0 hz1 hz2 rfl (by decide) (.slice (some ⟨A, 0, none⟩) n cap) n xs hd ⟨A2, 0, none⟩ m c2 xs2 hs.1 (hs.cells rfl) hone (by unfold maxLen; omega) (by omega) hB
    obtain ⟨A5, cap5, rfl⟩ := Go.Joins.ownsRow_form hown (by omega)
    exact ⟨A5, cap5, w', hrun, hown, hgr⟩
  · obtain rfl : m = 0 := by omega
    have hx0 : xs2 = [] := List.eq_nil_of_length_eq_zero (by have := hs.1; omega)
    subst hx0
    refine ⟨A, cap, W, ?_, by rw [List.append_nil]; exact hd, grown_refl _ _⟩
    obtain ⟨a2, c2, rfl⟩ := slice_any hs
    cases a2 <;> simp [Builtin.append_, run_underlying Tryd.underlying26, sizeOf, typeInfo, hi, Builtin.lenOf, Builtin.firstCells, storeCells, loadCells, loadCellsFrom, hcap]

theorem list_append_run {P : Program} {w w' : World} {ops : Array Oper} {rest : List Oper} {o : Oper} {a : Act} {Q : Exit → Act → World → Prop} (hgd : o.guard = none) (s x : Operand) (t : TypeId)
    (ho : o.op = Op.call { callee := Callee.builtin Builtin.append, args := #[s, x], argTypes := #[t, t] }) {v y v' : Value} (hs : a.eval s = v) (hx : a.eval x = y) (hr : (Builtin.append_ #[t, t] o.type #[v, y]).run P w = .ok v' w')
    (h : Hid True → wpList P ops Q rest (a.put o.dst v') w') : wpList P ops Q (o :: rest) a w :=
  wpList_plain hgd fun _ hK => by
    unfold Oper.wp
    simp [execOp, ho, resolve, invoke, builtin, hs, hx, hr, Result.andThen]
    exact hK _ _ (h trivial)
end Go.Proofs.YtielombpeeelkaaDoor
