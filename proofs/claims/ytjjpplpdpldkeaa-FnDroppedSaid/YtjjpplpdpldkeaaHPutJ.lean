/- The program's Put. -/
import Derived.Test.YtjjpplpdpldkeaaHPutI
import Derived.Test.YtjjpplpdpldkeaaHGetJ
import Derived.Deep.DeepCutAuto
import Derived.Deep.RegionWith
namespace Go.Proofs.Ytjjpplpdpldkeaa
open Go.RowKit Go.Sort

/-- Where it is put. -/
def putPos (s : ByteArray) (L : List Cl) (x : ByteArray) : Nat := (gapFold x.size s.size (liveC [] L) 0 (-1, 0)).1.toNat

def putD (s : ByteArray) (L : List Cl) (x : ByteArray) : ByteArray := if putOk s L x = true then putData s (putPos s L x) x else ⟨#[]⟩
def putL (s : ByteArray) (L : List Cl) (x : ByteArray) : List Cl := if putOk s L x = true then putCells L (putPos s L x) x.size else []
def putRc (s : ByteArray) (L : List Cl) (x : ByteArray) : Int := if putOk s L x = true then (freeAt L : Int) else 0
def putRg (s : ByteArray) (L : List Cl) (x : ByteArray) : Int := if putOk s L x = true then ((roomC L).getD (freeAt L) cl0).gen + 1 else 0

/-- How a put ends. -/
def PutEnd (w : World) (s : ByteArray) (L : List Cl) (x : ByteArray) (e : Ending) (w' : World) : Prop :=
  ∃ v, e = .returned (.tuple #[.agg #[.string (putD s L x), v], refV (putRc s L x) (putRg s L x), .bool (putOk s L x)]) ∧ w'.ownsRow w.heap.size 35 4 v (putL s L x).length (flatC (putL s L x)) ∧ Below w.heap.size w w'

theorem put_no {w w' : World} {s : ByteArray} {L : List Cl} {x : ByteArray} (h : putOk s L x = false) (hb : Below w.heap.size w w') : PutEnd w s L x (.returned (.tuple #[.agg #[.string ⟨#[]⟩, .slice none 0 0], refV 0 0, .bool false])) w' := by
  unfold PutEnd putD putL putRc putRg
  rw [h]
  exact ⟨_, rfl, World.ownsRow_nil _ _ _ _, hb⟩

theorem put_end {w w' : World} {s : ByteArray} {L : List Cl} {x : ByteArray} {v : Value} {D : ByteArray} {M : List Cl} {rc rg : Int} (h : putOk s L x = true) (hD : D = putData s (putPos s L x) x) (hM : M = putCells L (putPos s L x) x.size) (hrc : rc = freeAt L) (hrg : rg = ((roomC L).getD (freeAt L) cl0).gen + 1)
    (ho : w'.ownsRow w.heap.size 35 4 v M.length (flatC M)) (hb : Below w.heap.size w w') : PutEnd w s L x (.returned (.tuple #[.agg #[.string D, v], refV rc rg, .bool true])) w' := by
  unfold PutEnd putD putL putRc putRg
  rw [h]
  simp only [if_true]
  subst hD hM hrc hrg
  exact ⟨_, rfl, ho, hb⟩

theorem rows_ret {wz : World} {R1 R2 : Nat} {A B : Array Value} {D v rc rg : Value} (h1 : RowAt wz R1 26 A) (h2 : RowAt wz R2 30 B) (hA : A.size = 2) (hB : B.size = 2) (hne : R1 ≠ R2) :
    RowAt ((((wz.setCell ⟨R1, 0, none⟩ D).setCell ⟨R1, 1, none⟩ v).setCell ⟨R2, 0, none⟩ rc).setCell ⟨R2, 1, none⟩ rg) R1 26 #[D, v] ∧ RowAt ((((wz.setCell ⟨R1, 0, none⟩ D).setCell ⟨R1, 1, none⟩ v).setCell ⟨R2, 0, none⟩ rc).setCell ⟨R2, 1, none⟩ rg) R2 30 #[rc, rg] := by
  have two : ∀ (C : Array Value) (a b : Value), C.size = 2 → (C.setIfInBounds 0 a).setIfInBounds 1 b = #[a, b] := fun C a b hC => by
    obtain ⟨l⟩ := C
    match l, hC with
    | [p, q], _ => rfl
  constructor
  · have e := (h1.set 0 D).set 1 v
    rw [two _ _ _ hA] at e
    exact (Below.heap_setCell _ _ _ _ (by simpa using hne)).trans ((Below.heap_setCell _ _ _ _ (by simpa using hne)).trans e)
  · have q : RowAt ((wz.setCell ⟨R1, 0, none⟩ D).setCell ⟨R1, 1, none⟩ v) R2 30 B := (Below.heap_setCell _ _ _ _ (by simpa using hne.symm)).trans ((Below.heap_setCell _ _ _ _ (by simpa using hne.symm)).trans h2)
    have e := (q.set 0 rc).set 1 rg
    rwa [two _ _ _ hB] at e

theorem put_no_empty (s : ByteArray) (L : List Cl) : putOk s L ⟨#[]⟩ = false := by
  unfold putOk
  rw [show decide ((⟨#[]⟩ : ByteArray).size ≠ 0) = false from rfl, Bool.and_false, Bool.false_and, Bool.false_and]

theorem not_empty {x : ByteArray} (h : ¬ x.size = 0) : x.toList.isEmpty = false := by
  rw [ByteArray.toList_eq, List.isEmpty_eq_false_iff]
  intro e
  exact h (by rw [Lib.size_eq, e]; rfl)

theorem empty_of {x : ByteArray} (h : x.size = 0) : x = ⟨#[]⟩ := by
  apply ByteArray.ext
  apply Array.eq_empty_of_size_eq_zero
  exact h

/-- The four cells of a cell put anew, the Gen last. -/
abbrev putCell (w : World) (q : Nat) (x : Cl) : World := (((w.setCell ⟨q, 0, none⟩ (.int .i64 x.pos)).setCell ⟨q, 1, none⟩ (.int .i64 x.len)).setCell ⟨q, 3, none⟩ (.bool x.live)).setCell ⟨q, 2, none⟩ (.int .i64 x.gen)

theorem putCell_other (w : World) (q : Nat) (x : Cl) (j : Nat) (h : j ≠ q) : (putCell w q x).heap[j]? = w.heap[j]? :=
  (Below.heap_setCell _ _ _ _ (by simpa using h)).trans ((Below.heap_setCell _ _ _ _ (by simpa using h)).trans ((Below.heap_setCell _ _ _ _ (by simpa using h)).trans (Below.heap_setCell _ _ _ _ (by simpa using h))))

theorem putCell_row {w : World} {q : Nat} {y : Cl} (x : Cl) (h : RowAt w q 35 (clV y)) : RowAt (putCell w q x) q 35 (clV x) := by
  have := (((h.set 0 (.int .i64 x.pos)).set 1 (.int .i64 x.len)).set 3 (.bool x.live)).set 2 (.int .i64 x.gen)
  simpa using this

/-- An arena one of whose cells is put anew. -/
theorem openC_set {w : World} {g n k : Nat} {d : Nat → UInt8} {t : Nat → Bool} {L : List Cl} {cs : Value} {ps : List Nat} (x : Cl) (ha : Arena w g d t n cs) (ho : w.ownsRow (g + 1) 59 1 cs L.length (ps.map ptrV)) (hpl : ps.length = L.length)
    (hpc : ∀ i, i < L.length → g < ps.getD i 0 ∧ RowAt w (ps.getD i 0) 35 (clV (L.getD i cl0))) (hpn : ps.Nodup) (hk : k < L.length) :
    Arena (putCell w (ps.getD k 0) x) g d t n cs ∧ (putCell w (ps.getD k 0) x).ownsRow (g + 1) 59 1 cs L.length (ps.map ptrV) ∧ ∀ i, i < L.length → g < ps.getD i 0 ∧ RowAt (putCell w (ps.getD k 0) x) (ps.getD i 0) 35 (clV ((L.set k x).getD i cl0)) := by
  obtain ⟨q1, q2⟩ := hpc k hk
  refine ⟨?_, ?_, fun i hi => ⟨(hpc i hi).1, ?_⟩⟩
  · obtain ⟨C, hr, hrest⟩ := ha.row
    exact ⟨C, (putCell_other _ _ _ _ (by omega)).trans hr, hrest⟩
  · exact ho.kept (row := some (ps.getD k 0)) ⟨rfl, rfl, rfl, by simp [World.setCell], fun j _ hj => putCell_other _ _ _ _ (fun e => hj (by rw [e]))⟩ (.inr fun e => own_ne ho q2 (by decide) e.symm)
  · by_cases hik : i = k
    · subst hik
      have e : (L.set i x).getD i cl0 = x := by
        rw [List.getD_eq_getElem?_getD, List.getElem?_set_self hk]
        rfl
      rw [e]
      exact putCell_row x q2
    · have e : (L.set k x).getD i cl0 = L.getD i cl0 := by
        rw [List.getD_eq_getElem?_getD, List.getD_eq_getElem?_getD, List.getElem?_set_ne (fun e => hik e.symm)]
      rw [e]
      refine (putCell_other _ _ _ _ (fun h => hik ?_)).trans (hpc i hi).2
      have hi' : i < ps.length := by omega
      have hk' : k < ps.length := by omega
      rw [List.getD_eq_getElem?_getD, List.getD_eq_getElem?_getD, List.getElem?_eq_getElem hi', List.getElem?_eq_getElem hk'] at h
      rcases Nat.lt_trichotomy i k with hl | hl | hl
      · exact absurd h (List.pairwise_iff_getElem.1 hpn i k hi' hk' hl)
      · exact hl
      · exact absurd h.symm (List.pairwise_iff_getElem.1 hpn k i hk' hi' hl)

theorem Arena.copiedAt {w' : World} {g n P : Nat} {s x : ByteArray} {t : Nat → Bool} {cs : Value} {C : Array Value} (hsz : C.size = 6002) (hd : ∀ i, i < 3000 → C[i]? = some (.int .u8 (byteAt s i).toNat))
    (ht : ∀ i, i < 3000 → C[3000 + i]? = some (.bool (t i))) (hs : C[6000]? = some (.int .i64 n)) (hc : C[6001]? = some cs) (hn : P + x.size ≤ 3000)
    (hw : RowAt w' g 64 (C.toList.take P ++ Lib.byteCells x.data.toList ++ C.toList.drop (P + x.size)).toArray) : Arena w' g (dPut s P x) t n cs := by
  have hlen : (Lib.byteCells x.data.toList).length = x.size := by rw [Lib.byteCells_length, ← Lib.size_eq]
  have htl : (C.toList.take P).length = P := by rw [List.length_take, Array.length_toList, hsz]; omega
  have hget : ∀ i, (C.toList.take P ++ Lib.byteCells x.data.toList ++ C.toList.drop (P + x.size)).toArray[i]? = if P ≤ i ∧ i < P + x.size then (Lib.byteCells x.data.toList)[i - P]? else C[i]? := fun i => by
    rw [List.getElem?_toArray, List.append_assoc]
    by_cases h1 : i < P
    · rw [if_neg (by omega), List.getElem?_append_left (by rw [htl]; exact h1), List.getElem?_take, if_pos h1, Array.getElem?_toList]
    · rw [List.getElem?_append_right (by rw [htl]; omega), htl]
      by_cases h2 : i < P + x.size
      · rw [if_pos (by omega), List.getElem?_append_left (by rw [hlen]; omega)]
      · rw [if_neg (by omega), List.getElem?_append_right (by rw [hlen]; omega), hlen, List.getElem?_drop, Array.getElem?_toList]
        congr 1; omega
  refine ⟨_, hw, ?_, fun i hi => ?_, fun i hi => ?_, ?_, ?_⟩
  · rw [List.size_toArray, List.length_append, List.length_append, htl, hlen, List.length_drop, Array.length_toList, hsz]; omega
  · rw [hget i]
    by_cases h : P ≤ i ∧ i < P + x.size
    · have hl : i - P < x.data.toList.length := by rw [← Lib.size_eq]; omega
      rw [if_pos h, Lib.byteCells, List.getElem?_map, List.getElem?_eq_getElem hl, dPut, if_pos h, byteAt, List.getD_eq_getElem?_getD, List.getElem?_eq_getElem hl]
      rfl
    · rw [if_neg h, hd i hi, dPut, if_neg h]
  · rw [hget, if_neg (by omega), ht i hi]
  · rw [hget, if_neg (by omega), hs]
  · rw [hget, if_neg (by omega), hc]

theorem room_gen {s : ByteArray} {L : List Cl} (h : heapB s L = true) : 0 ≤ ((roomC L).getD (freeAt L) cl0).gen ∧ ((roomC L).getD (freeAt L) cl0).gen ≤ 1000000000 := by
  unfold roomC
  split
  · rename_i e
    rw [e, List.getD_eq_getElem?_getD, List.getElem?_concat_length]
    exact ⟨Int.le_refl _, by decide⟩
  · rename_i e
    have hl := free_le L
    have := heap_cells h (freeAt L) (by omega)
    generalize L.getD (freeAt L) cl0 = y at *
    unfold specCellB at this
    simp at this
    omega

set_option maxHeartbeats 4000000 in
set_option maxRecDepth 100000 in
theorem implPut_any (s x : ByteArray) (a : Option Addr) (b off n c : Nat) (L : List Cl) (w : World) (h : CellsIn w a b off n L) (hf : ∀ i, i < n → Fit (L.getD i cl0)) (hx : x.size ≤ 1048576) :
    Calls Try.prog 8 #[.agg #[.string s, .slice a n c], .string x] w (PutEnd w s L x) := by
  have bw : Below w.heap.size w (((w.alloc (.cells #[.string s, .slice a n c] 26)).alloc (.cells #[.string ⟨#[]⟩, .slice none 0 0] 26)).alloc (.cells #[.int .i64 0, .int .i64 0] 30)) := Go.Joins.below_alloc3 _ _ _ _
  have r1 := (RowAt.new (w.alloc (.cells #[.string s, .slice a n c] 26)) 26 #[.string ⟨#[]⟩, .slice none 0 0]).below ((Below.refl _ _).alloc (Nat.le_refl _) (.cells #[.int .i64 0, .int .i64 0] 30)) (by simp)
  have r2 := RowAt.new ((w.alloc (.cells #[.string s, .slice a n c] 26)).alloc (.cells #[.string ⟨#[]⟩, .slice none 0 0] 26)) 30 #[.int .i64 0, .int .i64 0]
  simp only [World.size_alloc] at r1 r2
  have h2 := cells_below h bw
  have l1 := r1.lt
  have l2 := r2.lt
  have HL : Hid (L.length = n) := h.len
  go_enter Try.func8, Try.ntmps8
  go_wp2_with fail
  generalize ((w.alloc (.cells #[.string s, .slice a n c] 26)).alloc (.cells #[.string ⟨#[]⟩, .slice none 0 0] 26)).alloc (.cells #[.int .i64 0, .int .i64 0] 30) = w1 at *
  refine (openedC_all s a b off n c L w1 h2 hf).mono ?_
  rintro e w2 ⟨p, rfl, hop, b2⟩
  have bb := bw.trans (b2.mono bw.size)
  have q1 := r1.below b2 l1
  have q2 := r2.below b2 l2
  have s2 := b2.size
  clear r1 r2 h2 bw
  cases hr : heapB s L with
  | false =>
    have HR : Hid (putOk s L x = false) := by unfold Hid putOk; rw [hr]; rfl
    obtain ⟨u1, u2⟩ := rows_ret (D := .string ⟨#[]⟩) (v := .slice none 0 0) (rc := .int .i64 0) (rg := .int .i64 0) q1 q2 rfl rfl (by omega)
    obtain ⟨e0, e1⟩ := two_at q1
    obtain ⟨e2, e3⟩ := two_at q2
    obtain ⟨g0, g1⟩ := two_at u1
    obtain ⟨g2, g3⟩ := two_at u2
    have f0 := q1.frozen 0
    have f1 := q1.frozen 1
    have f2 := q2.frozen 0
    have f3 := q2.frozen 1
    clear hr hop q1 q2 u1 u2
    go_wp2
    exact bodyPost_ret (v := .tuple #[.agg #[.string ⟨#[]⟩, .slice none 0 0], refV 0 0, .bool false]) (by simp [results, Try.results8, go_sem, g0, g1, g2, g3]) rfl (put_no HR.out ((((bb.setCell (by simp) _).setCell (by simp) _).setCell (by simp; omega) _).setCell (by simp; omega) _))
  | true =>
    obtain ⟨g, t, rfl, hom, hoc, hg⟩ := hop hr
    have hR := right_of_open hom
    obtain ⟨hs3, hL⟩ := heap_small hr
    have HH : Hid (heapB s L = true) := hr
    clear hr hop
    by_cases hx0 : x.size = 0
    · obtain rfl := empty_of hx0
      have HR : Hid (putOk s L ⟨#[]⟩ = false) := put_no_empty s L
      obtain ⟨u1, u2⟩ := rows_ret (D := .string ⟨#[]⟩) (v := .slice none 0 0) (rc := .int .i64 0) (rg := .int .i64 0) q1 q2 rfl rfl (by omega)
      obtain ⟨e0, e1⟩ := two_at q1
      obtain ⟨e2, e3⟩ := two_at q2
      obtain ⟨g0, g1⟩ := two_at u1
      obtain ⟨g2, g3⟩ := two_at u2
      have f0 := q1.frozen 0
      have f1 := q1.frozen 1
      have f2 := q2.frozen 0
      have f3 := q2.frozen 1
      clear hom hoc q1 q2 u1 u2
      go_wp2
      exact bodyPost_ret (v := .tuple #[.agg #[.string ⟨#[]⟩, .slice none 0 0], refV 0 0, .bool false]) (by simp [results, Try.results8, go_sem, g0, g1, g2, g3]) rfl (put_no HR.out ((((bb.setCell (by simp) _).setCell (by simp) _).setCell (by simp; omega) _).setCell (by simp; omega) _))
    · have hxb : x.toList.isEmpty = false := not_empty hx0
      have HP : Hid ((gapFold x.size s.size (liveC [] L) 0 (-1, 0)).1 = firstG x.size (scanM t s.size).1) := put_at hR (by omega)
      have HRm : Hid (∀ y ∈ (scanM t s.size).1, y.1 + y.2 ≤ s.size) := (scan_room t s.size).1
      obtain ⟨cs, ha2⟩ : ∃ cs, Arena w2 g (byteAt s) t s.size cs := by
        obtain ⟨cs, _, h1, _⟩ := hoc
        exact ⟨cs, h1⟩
      have hGF := gapFor_any g s.size x.size (byteAt s) t cs w2 ha2 hs3 hx
      generalize (scanM t s.size).1 = G at *
      go_wp2_with fail
      refine hGF.mono ?_
      clear hGF
      rintro e w3 ⟨rfl, b3⟩
      have bb3 := bb.trans (b3.mono bb.size)
      have s3 := b3.size
      have p1 := q1.below b3 (by omega)
      have p2 := q2.below b3 (by omega)
      have ho3 := hoc.below b3
      clear q1 q2 ha2 hoc
      by_cases hat : 0 ≤ firstG x.size G
      · have HI : Hid (gapI x.size G = firstG x.size G) := if_pos hat
        have HO : gapO x.size G = true := decide_eq_true hat
        rw [HO]
        clear HO
        have hroom := first_room x.size s.size G HRm.out hat
        rw [HI.out]
        obtain ⟨P, hP⟩ : ∃ P : Nat, firstG x.size G = P := ⟨_, (Int.toNat_of_nonneg hat).symm⟩
        rw [hP] at hroom ⊢
        have HPos : Hid (putPos s L x = P) := by unfold Hid putPos; rw [HP.out, hP]; rfl
        have HGe : Hid (0 ≤ (gapFold x.size s.size (liveC [] L) 0 (-1, 0)).1) := by unfold Hid; rw [HP.out]; exact hat
        clear hP hat HP HI
        have hFC := freeCell_any g s.size (byteAt s) t L w3 ho3 hL (fun i hi => hf i (by rw [← HL.out]; exact hi))
        go_wp2_with fail
        refine hFC.mono ?_
        clear hFC
        rintro e w4 ⟨rfl, hop4, b4⟩
        have bb4 := bb3.trans (b4.mono (by omega))
        have s4 := b4.size
        have o1 := p1.below b4 (by omega)
        have o2 := p2.below b4 (by omega)
        clear p1 p2
        by_cases h40 : freeAt L = 40
        · have HR : Hid (putOk s L x = false) := by
            unfold Hid putOk
            rw [decide_eq_false (p := freeAt L ≠ 40) (by omega), Bool.and_false]
          have HFo : freeO L = false := decide_eq_false (by omega)
          rw [HFo]
          clear HFo
          obtain ⟨u1, u2⟩ := rows_ret (D := .string ⟨#[]⟩) (v := .slice none 0 0) (rc := .int .i64 0) (rg := .int .i64 0) o1 o2 rfl rfl (by omega)
          obtain ⟨e0, e1⟩ := two_at o1
          obtain ⟨e2, e3⟩ := two_at o2
          obtain ⟨g0, g1⟩ := two_at u1
          obtain ⟨g2, g3⟩ := two_at u2
          have f0 := o1.frozen 0
          have f1 := o1.frozen 1
          have f2 := o2.frozen 0
          have f3 := o2.frozen 1
          clear hop4 o1 o2 u1 u2
          go_wp2
          exact bodyPost_ret (v := .tuple #[.agg #[.string ⟨#[]⟩, .slice none 0 0], refV 0 0, .bool false]) (by simp [results, Try.results8, go_sem, g0, g1, g2, g3]) rfl (put_no HR.out ((((bb4.setCell (by simp) _).setCell (by simp) _).setCell (by simp; omega) _).setCell (by simp; omega) _))
        · have HFo : freeO L = true := decide_eq_true h40
          rw [HFo]
          clear HFo
          have HFi : Hid (freeI L = freeAt L) := if_neg h40
          rw [HFi.out]
          have HOK : Hid (putOk s L x = true) := by
            unfold Hid putOk
            rw [HH.out, decide_eq_true (p := x.size ≠ 0) hx0, decide_eq_true HGe.out, decide_eq_true (p := freeAt L ≠ 40) h40]
            rfl
          obtain ⟨cs4, ps, ha4, ho4, hpl, hpc, hpn⟩ := hop4 h40
          have hkr := room_len L
          have hMl : (roomC L).length ≤ 40 := by
            have := free_le L
            unfold roomC
            split
            · rw [List.length_append]
              simp only [List.length_cons, List.length_nil]
              omega
            · exact hL
          have hgen := room_gen HH.out
          obtain ⟨k, hk⟩ : ∃ k, freeAt L = k := ⟨_, rfl⟩
          have HKe : Hid (freeAt L = k) := hk
          rw [hk] at hkr hgen ⊢
          have HMe : Hid (∃ M, roomC L = M) := ⟨_, rfl⟩
          obtain ⟨M, hM⟩ := HMe.out
          rw [hM] at ho4 hpl hpc hkr hgen hMl
          have HMe2 : Hid (roomC L = M) := hM
          clear hop4 hM hk HMe HFi h40
          obtain ⟨A, cap, rfl⟩ := Go.Joins.ownsRow_form ho4 (by omega)
          have cc := ha4.cells
          have cp : w4.cell? ⟨A, k, none⟩ = some (.pointer (some ⟨ps.getD k 0, 0, none⟩)) := by
            have := ho4.cells rfl k (ptrV (ps.getD k 0)) (by rw [List.getElem?_map, List.getD_eq_getElem?_getD, List.getElem?_eq_getElem (by omega)]; rfl)
            rw [Addr.add_lit, Nat.zero_add] at this
            exact this
          have hy := (hpc k hkr).2
          have hqg := (hpc k hkr).1
          have hset := openC_set (k := k) ⟨P, x.size, (M.getD k cl0).gen + 1, true⟩ ha4 ho4 hpl hpc hpn hkr
          have c0 : w4.cell? ⟨ps.getD k 0, 0, none⟩ = some (.int .i64 (M.getD k cl0).pos) := hy.cell 0
          have c1 : w4.cell? ⟨ps.getD k 0, 1, none⟩ = some (.int .i64 (M.getD k cl0).len) := hy.cell 1
          have c2 : w4.cell? ⟨ps.getD k 0, 2, none⟩ = some (.int .i64 (M.getD k cl0).gen) := hy.cell 2
          have c3 : w4.cell? ⟨ps.getD k 0, 3, none⟩ = some (.bool (M.getD k cl0).live) := hy.cell 3
          have f0 := hy.frozen 0
          have f1 := hy.frozen 1
          have f2 := hy.frozen 2
          have f3 := hy.frozen 3
          generalize hqe : ps.getD k 0 = q at *
          generalize hye : M.getD k cl0 = y at *
          have HYe : Hid (M.getD k cl0 = y) := hye
          clear hy hpc
          obtain ⟨ha5, ho5, hpc5⟩ := hset
          obtain ⟨C, hr5, hsz, hd, ht, hs, hc⟩ := ha5.row
          have hP3 : (P : Int) ≤ 3000 := by omega
          have hPn : ¬ 3000 = P := by omega
          have hP4 : (0 : Int) ≤ (P : Int) := by omega
          have hcp : ∀ ty, (Builtin.copy_ #[22, 9] ty #[.slice (some ⟨g, P, none⟩) (3000 - P) (3000 - P), .string x]).run Try.prog (putCell w4 q ⟨P, x.size, y.gen + 1, true⟩) = .ok (goInt x.size) ((putCell w4 q ⟨P, x.size, y.gen + 1, true⟩).setRow g (C.toList.take P ++ Lib.byteCells x.data.toList ++ C.toList.drop (P + x.size)).toArray) := fun ty =>
            Lib.run_copy_row_string _ 22 9 ty 5 g P (3000 - P) (3000 - P) x C 64 Try.underlying22 info5s hr5 (by omega) (by omega)
          have hr6 : RowAt ((putCell w4 q ⟨P, x.size, y.gen + 1, true⟩).setRow g (C.toList.take P ++ Lib.byteCells x.data.toList ++ C.toList.drop (P + x.size)).toArray) g 64 (C.toList.take P ++ Lib.byteCells x.data.toList ++ C.toList.drop (P + x.size)).toArray :=
            setRow_heap _ g C _ 64 _ hr5
          have ha6 := Arena.copiedAt (s := s) hsz hd ht hs hc (by omega) hr6
          have hg6 : (putCell w4 q ⟨P, x.size, y.gen + 1, true⟩).grownBy ((putCell w4 q ⟨P, x.size, y.gen + 1, true⟩).setRow g (C.toList.take P ++ Lib.byteCells x.data.toList ++ C.toList.drop (P + x.size)).toArray) (some g) :=
            ⟨rfl, rfl, rfl, by simp [World.setRow], fun k _ hk => by rw [setRow_other _ _ _ _ (fun e => hk (by rw [e]))]⟩
          generalize (C.toList.take P ++ Lib.byteCells x.data.toList ++ C.toList.drop (P + x.size)).toArray = D at *
          have HA6 : Hid (Arena _ g (dPut s P x) t s.size (.slice (some ⟨A, 0, none⟩) M.length cap)) := ha6
          clear ha5 hr5 hsz hd ht hs hc hr6 ha6
          go_wp2_with fail
          have hLs : (M.set k ⟨P, x.size, y.gen + 1, true⟩).length = M.length := List.length_set
          have ho6 := ho5.kept hg6 (.inr fun e => by have := (ho5.lt _ e).1; omega)
          have hpc6 : ∀ i, i < M.length → RowAt ((putCell w4 q ⟨P, x.size, y.gen + 1, true⟩).setRow g D) (ps.getD i 0) 35 (clV ((M.set k ⟨P, x.size, y.gen + 1, true⟩).getD i cl0)) := fun i hi =>
            (hg6.block _ (hpc5 i hi).2.lt (fun e => by have := (hpc5 i hi).1; have := Option.some.inj e; omega)).trans (hpc5 i hi).2
          have hb6 : Below w1.heap.size w4 ((putCell w4 q ⟨P, x.size, y.gen + 1, true⟩).setRow g D) :=
            ⟨hg6.os, hg6.tape, hg6.output, by have := hg6.size; simp [World.setCell] at this ⊢, fun j hj => (hg6.block j (by simp [World.setCell]; omega) (by simp; omega)).trans (putCell_other _ _ _ _ (by omega))⟩
          have t1 := o1.below hb6 l1
          have t2 := o2.below hb6 l2
          have bb6 := bb4.trans (hb6.mono (by omega))
          have hget : (M.set k ⟨P, x.size, y.gen + 1, true⟩).getD k cl0 = ⟨P, x.size, y.gen + 1, true⟩ := by
            rw [List.getD_eq_getElem?_getD, List.getElem?_set_self hkr]
            rfl
          have hq6 := hpc6 k hkr
          rw [hqe, hget] at hq6
          clear c0 c1 c2 c3 f0 f1 f2 f3 cc cp ho5 hpc5 o1 o2 ha4 ho4 hb6 hcp
          generalize (putCell w4 q ⟨P, x.size, y.gen + 1, true⟩).setRow g D = w6 at *
          have s6 : w1.heap.size ≤ w6.heap.size := by have := HA6.out.lt; omega
          have bd : Below w6.heap.size w6 w6.drew := below_drewN w6 1
          have hHP := heap_any g s.size (dPut s P x) t (M.set k ⟨P, x.size, y.gen + 1, true⟩) (.slice (some ⟨A, 0, none⟩) M.length cap) ps w6.drew (HA6.out.below bd HA6.out.lt) (by rw [hLs]; exact owns_below ho6 bd) (by rw [hLs]; exact hpl) (fun i hi => by rw [hLs] at hi; exact (hpc6 i hi).below bd (hpc6 i hi).lt) (by rw [hLs]; exact hMl) hs3
          have hql := hq6.lt
          have k2 : w6.cell? ⟨q, 2, none⟩ = some (.int .i64 (y.gen + 1)) := hq6.cell 2
          have HPO : Hid (∀ j, w6.drew.heap.size = j → w6.heap.size = j) := fun j h => h
          clear ho6 hpc6 hg6 hLs hget hpl hpn
          go_region_with (first
            | (go_at_call 28; refine hHP.mono ?_; rintro e w7 ⟨v, rfl, ho7, b7⟩; rw [List.length_set] at ho7; obtain ⟨A7, cap7, hv7⟩ := Go.Joins.ownsRow_form ho7 (by omega); subst hv7; have b67 : Below w6.heap.size w6 w7 := bd.trans b7; have m2 : w7.cell? ⟨q, 2, none⟩ = some (.int .i64 (y.gen + 1)) := (hq6.below b67 hql).cell 2; have t1' := t1.below b67 (by omega); have t2' := t2.below b67 (by omega); have e0 := (two_at t1').1; have e1 := (two_at t1').2; have e2 := (two_at t2').1; have e3 := (two_at t2').2; have f0 := t1'.frozen 0; have f1 := t1'.frozen 1; have f2 := t2'.frozen 0; have f3 := t2'.frozen 1; have bb7 := bb6.trans (b67.mono (by omega))))
          all_goals
            obtain ⟨u1, u2⟩ := rows_ret (D := .string (dataOf (dPut s P x) s.size)) (v := .slice (some ⟨A7, 0, none⟩) M.length cap7) (rc := .int .i64 k) (rg := .int .i64 (y.gen + 1)) t1' t2' rfl rfl (by omega)
            have g0 := (two_at u1).1
            have g1 := (two_at u1).2
            have g2 := (two_at u2).1
            have g3 := (two_at u2).2
            have hb7 : w6.heap.size ≤ w6.drew.heap.size := Nat.le_refl _
            have ho8 := Go.Joins.ownsRow_le (ownsRow_setCell_below (ownsRow_setCell_below (ownsRow_setCell_below (ownsRow_setCell_below ho7 (a := ⟨w.heap.size + 1, 0, none⟩) (by simp only; omega) (.string (dataOf (dPut s P x) s.size))) (a := ⟨w.heap.size + 1, 1, none⟩) (by simp only; omega) (.slice (some ⟨A7, 0, none⟩) M.length cap7)) (a := ⟨w.heap.size + 1 + 1, 0, none⟩) (by simp only; omega) (.int .i64 k)) (a := ⟨w.heap.size + 1 + 1, 1, none⟩) (by simp only; omega) (.int .i64 (y.gen + 1))) (base' := w.heap.size) (by omega)
            clear u1 u2 t1' t2' ho7 t1 t2
            go_wp2
            exact bodyPost_ret (v := .tuple #[.agg #[.string (dataOf (dPut s P x) s.size), .slice (some ⟨A7, 0, none⟩) M.length cap7], refV k (y.gen + 1), .bool true]) (by simp [results, Try.results8, go_sem, g0, g1, g2, g3]) rfl
              (put_end HOK.out (by rw [HPos.out]; exact put_data s P x (by omega)) (by unfold putCells; rw [HPos.out, HMe2.out, HKe.out, HYe.out]) (by rw [HKe.out]) (by rw [HMe2.out, HKe.out, HYe.out]) (by rw [List.length_set]; exact ho8) ((((bb7.setCell (by simp) _).setCell (by simp) _).setCell (by simp; omega) _).setCell (by simp; omega) _))
      · have HR : Hid (putOk s L x = false) := by
          unfold Hid putOk
          rw [HP.out, decide_eq_false hat, Bool.and_false, Bool.false_and]
        have HO : gapO x.size G = false := decide_eq_false hat
        rw [HO]
        clear HO
        obtain ⟨u1, u2⟩ := rows_ret (D := .string ⟨#[]⟩) (v := .slice none 0 0) (rc := .int .i64 0) (rg := .int .i64 0) p1 p2 rfl rfl (by omega)
        obtain ⟨e0, e1⟩ := two_at p1
        obtain ⟨e2, e3⟩ := two_at p2
        obtain ⟨g0, g1⟩ := two_at u1
        obtain ⟨g2, g3⟩ := two_at u2
        have f0 := p1.frozen 0
        have f1 := p1.frozen 1
        have f2 := p2.frozen 0
        have f3 := p2.frozen 1
        clear ho3 p1 p2 u1 u2
        go_wp2
        exact bodyPost_ret (v := .tuple #[.agg #[.string ⟨#[]⟩, .slice none 0 0], refV 0 0, .bool false]) (by simp [results, Try.results8, go_sem, g0, g1, g2, g3]) rfl (put_no HR.out ((((bb3.setCell (by simp) _).setCell (by simp) _).setCell (by simp; omega) _).setCell (by simp; omega) _))
end Go.Proofs.Ytjjpplpdpldkeaa
