/- What a drop and a packing leave: of no program, for the drawn laws of the arena. -/
import Derived.Test.YtjjpplpdpldkeaaHLawB
import Derived.Test.YtjjpplpdpldkeaaHPackM
namespace Go.Proofs.Ytjjpplpdpldkeaa
open Go.RowKit Go.Sort

/-! ### What is dropped -/

theorem DropX.else {s : ByteArray} {L : List Cl} {k P W : Nat} (h : DropX s L k P W) {i : Nat} (hi : i < L.length) (hik : i ≠ k) (rg : Int) : getB s L i rg = getB (putData s P (dataZ W)) (L.set k ⟨0, 0, (L.getD k cl0).gen, false⟩) i rg := by
  have e : (L.set k ⟨0, 0, (L.getD k cl0).gen, false⟩).getD i cl0 = L.getD i cl0 := by rw [getD_set _ h.lt, if_neg hik]
  have hz : (dataZ W).size = W := dataZ_size W
  have hp : P + (dataZ W).size ≤ s.size := by rw [hz]; exact h.room
  refine get_same h.right h.right' hi (by rw [List.length_set]; exact hi) (by rw [e]) (by rw [e]) (by rw [e]) (fun hl j hj => ?_)
  rw [e]
  obtain ⟨_, a1, a2, a3⟩ := h.right.ok hi hl
  rw [byte_put hp _ (by omega), if_neg]
  intro hx
  rw [hz] at hx
  have hd := h.right.apart i k hi h.lt hik hl h.live
  unfold Disj at hd
  rw [h.pos, h.len] at hd
  omega

theorem put_ok {s : ByteArray} {L : List Cl} {x : ByteArray} {P : Nat} (h : RightX s L) (hL : L.length < 40) (hx : 1 ≤ x.size) (hP : P + x.size ≤ s.size) (hc : ∀ i, i < L.length → ∀ p, P ≤ p → p < P + x.size → covers (L.getD i cl0) p = false) : putOk s L x = true := by
  have hb := (heap_iff s L).2 h
  obtain ⟨t, _, hr⟩ := heap_right hb
  obtain ⟨g, hg, hw⟩ := scan_found (t := t) hx hP (fun i h1 h2 => (taken_no hr i).2 (fun k hk => hc k hk i h1 h2))
  have hf : freeAt L ≠ 40 := by have := free_le L; omega
  have h3 : 0 ≤ (gapFold x.size s.size (liveC [] L) 0 (-1, 0)).1 := by
    rw [put_at hr hx]
    apply Int.not_lt.1
    intro hneg
    have := first_no _ _ hneg g hg
    omega
  unfold putOk
  rw [hb, decide_eq_true (show x.size ≠ 0 by omega), decide_eq_true h3, decide_eq_true hf]
  rfl

/-- What a drop leaves, all at once. -/
structure DropLaw (s : ByteArray) (L : List Cl) (rc rg : Int) : Prop where
  still : (getB (dropD s L rc rg) (dropL s L rc rg) rc rg).2 = false
  fine : putOk (dropD s L rc rg) (dropL s L rc rg) (getB s L rc rg).1 = true
  stale : (getB (putD (dropD s L rc rg) (dropL s L rc rg) (getB s L rc rg).1) (putL (dropD s L rc rg) (dropL s L rc rg) (getB s L rc rg).1) rc rg).2 = false
  other : ¬ (putRc (dropD s L rc rg) (dropL s L rc rg) (getB s L rc rg).1 = rc ∧ putRg (dropD s L rc rg) (dropL s L rc rg) (getB s L rc rg).1 = rg)
  rest : ∀ i : Nat, i < L.length → ¬ ((i : Int) = rc ∧ (L.getD i cl0).gen = rg) → getB (dropD s L rc rg) (dropL s L rc rg) i (L.getD i cl0).gen = getB s L i (L.getD i cl0).gen
  right : heapB (dropD s L rc rg) (dropL s L rc rg) = true
  room : overB (fun x y => x + y) (dropD s L rc rg) (dropL s L rc rg) = overB (fun x y => x + y) s L + (getB s L rc rg).1.size

theorem drop_law {s : ByteArray} {L : List Cl} {rc rg : Int} (h : dropOk s L rc rg = true) (hL : L.length < 40) : DropLaw s L rc rg := by
  have hh := h
  unfold dropOk at hh
  rw [Bool.and_eq_true] at hh
  have hX := (heap_iff s L).1 hh.1
  obtain ⟨k, rfl, hk, hlive, hgen⟩ := is_in hh.2
  obtain ⟨P, W, hD⟩ := drop_at hX hk hlive
  have eD : dropD s L k rg = putData s P (dataZ W) := by unfold dropD; rw [if_pos h]; simp only [Int.toNat_natCast]; rw [hD.pos, hD.len]; rfl
  have eL : dropL s L k rg = L.set k ⟨0, 0, (L.getD k cl0).gen, false⟩ := by unfold dropL; rw [if_pos h]; rfl
  have hz : (dataZ W).size = W := dataZ_size W
  have hp : P + (dataZ W).size ≤ s.size := by rw [hz]; exact hD.room
  have hsz := size_put hp
  have hroom := hD.room
  have hsome := hD.some
  have eG : getB s L k rg = (s.extract P (P + W), true) := by
    rw [← hgen, get_at hX hk hlive, hD.pos, hD.len]
    rfl
  have hxs : (s.extract P (P + W)).size = W := by rw [ByteArray.size_extract]; omega
  have hR := hD.right'
  have hdead : ((L.set k ⟨0, 0, (L.getD k cl0).gen, false⟩).getD k cl0) = ⟨0, 0, (L.getD k cl0).gen, false⟩ := by rw [getD_set _ hk, if_pos rfl]
  have hfine : putOk (putData s P (dataZ W)) (L.set k ⟨0, 0, (L.getD k cl0).gen, false⟩) (s.extract P (P + W)) = true := by
    refine put_ok (P := P) hR (by rw [List.length_set]; exact hL) (by rw [hxs]; exact hsome) (by rw [hxs, hsz]; exact hroom) (fun i hi p h1 h2 => ?_)
    rw [hxs] at h2
    rw [List.length_set] at hi
    by_cases hik : i = k
    · rw [hik, hdead]; rfl
    · rw [getD_set _ hk, if_neg hik, Bool.eq_false_iff]
      intro hc
      have hl : (L.getD i cl0).live = true := by
        unfold covers at hc
        rw [Bool.and_eq_true] at hc
        exact hc.1
      have := (covers_iff _ _ hl).1 hc
      have hd := hX.apart i k hi hk hik hl hlive
      unfold Disj at hd
      rw [hD.pos, hD.len] at hd
      omega
  have hPx := put_x hfine
  have eD2 : putD (putData s P (dataZ W)) (L.set k ⟨0, 0, (L.getD k cl0).gen, false⟩) (s.extract P (P + W)) = putData (putData s P (dataZ W)) (putPos (putData s P (dataZ W)) (L.set k ⟨0, 0, (L.getD k cl0).gen, false⟩) (s.extract P (P + W))) (s.extract P (P + W)) := by unfold putD; rw [if_pos hfine]
  have eL2 : putL (putData s P (dataZ W)) (L.set k ⟨0, 0, (L.getD k cl0).gen, false⟩) (s.extract P (P + W)) = putCells (L.set k ⟨0, 0, (L.getD k cl0).gen, false⟩) (putPos (putData s P (dataZ W)) (L.set k ⟨0, 0, (L.getD k cl0).gen, false⟩) (s.extract P (P + W))) (s.extract P (P + W)).size := by unfold putL; rw [if_pos hfine]
  have eC2 : putRc (putData s P (dataZ W)) (L.set k ⟨0, 0, (L.getD k cl0).gen, false⟩) (s.extract P (P + W)) = ((freeAt (L.set k ⟨0, 0, (L.getD k cl0).gen, false⟩) : Nat) : Int) := by unfold putRc; rw [if_pos hfine]
  have eG2 : putRg (putData s P (dataZ W)) (L.set k ⟨0, 0, (L.getD k cl0).gen, false⟩) (s.extract P (P + W)) = ((roomC (L.set k ⟨0, 0, (L.getD k cl0).gen, false⟩)).getD (freeAt (L.set k ⟨0, 0, (L.getD k cl0).gen, false⟩)) cl0).gen + 1 := by unfold putRg; rw [if_pos hfine]
  refine ⟨?_, ?_, ?_, ?_, ?_, ?_, ?_⟩
  · rw [eD, eL, get_none (is_dead (.inl (by rw [hdead])))]
  · rw [eD, eL, eG]; exact hfine
  · rw [eD, eL, eG, eD2, eL2]
    by_cases hf : k = freeAt (L.set k ⟨0, 0, (L.getD k cl0).gen, false⟩)
    · rw [get_none (is_dead (.inr ?_))]
      have := hPx.now
      rw [← hf] at this
      rw [this]
      have hg := hPx.gen
      rw [← hf, hdead] at hg
      simp only at hg ⊢
      rw [← hg, hgen]
      omega
    · rw [get_none (is_dead (.inl ?_))]
      rw [hPx.rest k hf, hdead]
  · rw [eD, eL, eG, eC2, eG2]
    rintro ⟨h1, h2⟩
    have hf : freeAt (L.set k ⟨0, 0, (L.getD k cl0).gen, false⟩) = k := by omega
    have hg := hPx.gen
    rw [hf, hdead] at hg
    rw [hf] at h2
    rw [← hg] at h2
    simp only at h2
    omega
  · intro i hi hne
    rw [eD, eL]
    by_cases hik : i = k
    · subst hik
      exact absurd ⟨rfl, hgen⟩ hne
    · exact (hD.else hi hik _).symm
  · rw [eD, eL]; exact (heap_iff _ _).2 hR
  · rw [eD, eL, eG, room_of hR, room_of hX, hsz, lens_set _ _ _ hk, hD.len]
    simp only
    rw [hxs]
    omega

/-! ### What is packed -/

theorem st_mem (L : List Cl) {i : Nat} (hl : (clOf L i).live = true) : ∀ k, i < k → i ∈ stI L k
  | 0, h => by omega
  | k + 1, h => by
    rw [stI]
    by_cases hik : i = k
    · subst hik
      rw [if_pos hl, (ins_perm L i _).mem_iff]
      exact List.mem_cons_self
    · have ih := st_mem L hl k (by omega)
      split
      · rw [(ins_perm L k _).mem_iff]
        exact List.mem_cons_of_mem _ ih
      · exact ih

theorem liveS_mem {L : List Cl} {i : Nat} (hi : i < L.length) (hl : (L.getD i cl0).live = true) : i ∈ liveS L := st_mem L hl _ hi

theorem liveS_idx {L : List Cl} {i : Nat} (h : i ∈ liveS L) : ∃ q, q < (liveS L).length ∧ (liveS L).getD q 0 = i := by
  obtain ⟨q, hq, e⟩ := List.getElem_of_mem h
  exact ⟨q, hq, by rw [List.getD_eq_getElem?_getD, List.getElem?_eq_getElem hq]; exact e⟩

theorem pk_cell {s : ByteArray} {L : List Cl} {t : Nat → Bool} (h : Right s.size L t) : ∀ (m q : Nat), m ≤ (liveS L).length → q < m →
    (pkSt s L m).1.getD ((liveS L).getD q 0) cl0 = ⟨(pkN L q : Nat), (clOf L ((liveS L).getD q 0)).len, (clOf L ((liveS L).getD q 0)).gen, (clOf L ((liveS L).getD q 0)).live⟩
  | 0, q, _, hq => by omega
  | m + 1, q, hm, hq => by
    have hb : (liveS L).getD m 0 < (pkSt s L m).1.length := by
      rw [pk_len s L m (by omega)]
      exact liveS_lt L _ (liveS_at (by omega))
    rw [pkSt_next s L (by omega)]
    show (moveC _ _ _).getD _ cl0 = _
    unfold moveC
    rw [getD_set _ hb]
    by_cases hqm : q = m
    · subst hqm
      rw [if_pos rfl, pk_size h q (by omega), pk_fresh s L q q (Nat.le_refl _) (by omega)]
    · rw [if_neg (liveS_ne (by omega) (by omega))]
      exact pk_cell h m q (by omega) (by omega)

theorem pk_other (s : ByteArray) (L : List Cl) {i : Nat} (hi : i ∉ liveS L) : ∀ m, m ≤ (liveS L).length → (pkSt s L m).1.getD i cl0 = L.getD i cl0
  | 0, _ => rfl
  | m + 1, hm => by
    have hb : (liveS L).getD m 0 < (pkSt s L m).1.length := by
      rw [pk_len s L m (by omega)]
      exact liveS_lt L _ (liveS_at (by omega))
    rw [pkSt_next s L (by omega)]
    show (moveC _ _ _).getD _ cl0 = _
    unfold moveC
    rw [getD_set _ hb, if_neg (fun e => hi (by rw [e]; exact liveS_at (by omega)))]
    exact pk_other s L hi m (by omega)

theorem pk_bytes {s : ByteArray} {L : List Cl} {t : Nat → Bool} (h : Right s.size L t) : ∀ (m q : Nat), m ≤ (liveS L).length → q < m → ∀ b, b < (clOf L ((liveS L).getD q 0)).len.toNat →
    byteAt (pkSt s L m).2 (pkN L q + b) = byteAt s ((clOf L ((liveS L).getD q 0)).pos.toNat + b)
  | 0, q, _, hq, _, _ => by omega
  | m + 1, q, hm, hq, b, hb => by
    rw [pkSt_next s L (by omega)]
    show byteAt (_ ++ cutOf s _) _ = _
    have hsz := pk_size h m (by omega)
    by_cases hqm : q = m
    · subst hqm
      have hok := live_ok h (liveS_at (L := L) (m := q) (by omega))
      have hc := cut_size hok
      rw [byte_right (by omega) (by rw [hc]; omega), hsz, show pkN L q + b - pkN L q = b by omega]
      obtain ⟨_, a1, a2, a3⟩ := hok
      unfold cutOf
      rw [byte_extract (by omega) (by omega)]
    · have h1 := pkN_next L (m := q) (by omega)
      have h2 := pkN_mono L (q + 1) (m - (q + 1)) (by omega)
      rw [show q + 1 + (m - (q + 1)) = m by omega] at h2
      rw [byte_left (by omega)]
      exact pk_bytes h m q (by omega) (by omega) b hb

theorem pk_find {L : List Cl} : ∀ (m p : Nat), m ≤ (liveS L).length → p < pkN L m → ∃ q, q < m ∧ pkN L q ≤ p ∧ p < pkN L q + (clOf L ((liveS L).getD q 0)).len.toNat
  | 0, p, _, h => by simp [pkN] at h
  | m + 1, p, hm, h => by
    by_cases hp : p < pkN L m
    · obtain ⟨q, h1, h2, h3⟩ := pk_find m p (by omega) hp
      exact ⟨q, by omega, h2, h3⟩
    · have := pkN_next L (m := m) (by omega)
      exact ⟨m, by omega, by omega, by omega⟩

theorem lens_ext : ∀ (L M : List Cl), L.length = M.length → (∀ i, (L.getD i cl0).len = (M.getD i cl0).len) → lens L = lens M
  | [], [], _, _ => rfl
  | [], _ :: _, h, _ => by simp at h
  | _ :: _, [], h, _ => by simp at h
  | a :: r, b :: r', h, he => by
    have h0 := he 0
    have := lens_ext r r' (by simpa using h) (fun i => by have := he (i + 1); simpa using this)
    simp only [lens, List.map_cons, List.sum_cons] at this ⊢
    simp at h0
    omega

theorem sum_nat (f : Nat → Int) : ∀ l : List Nat, (∀ i ∈ l, 0 ≤ f i) → (((l.map fun i => (f i).toNat).sum : Nat) : Int) = (l.map f).sum
  | [], _ => rfl
  | i :: r, h => by
    have h0 := h i (by simp)
    have := sum_nat f r (fun j hj => h j (by simp [hj]))
    simp only [List.map_cons, List.sum_cons]
    omega

theorem pkN_lens {n : Nat} {L : List Cl} {t : Nat → Bool} (h : Right n L t) : ((pkN L (liveS L).length : Nat) : Int) = lens L := by
  have hP := liveC_perm L []
  rw [List.nil_append] at hP
  have e1 : lens (liveC [] L) = lens L := by
    rw [← lens_live n L h.all]
    exact sum_perm (hP.map _)
  rw [← e1, live_all L]
  unfold pkN lens
  rw [List.take_length, sum_nat (fun i => (clOf L i).len) _ (fun i hi => by have := (live_ok h hi).2.1; omega), List.map_map]
  rfl

/-- Cells that fill all the room, in their order: each begins where those before it end. -/
theorem tile (T : Nat) : ∀ (S : List Cl) (e : Nat), Ahead T S e → e + (S.map fun c => c.len.toNat).sum = T → ∀ q, q < S.length → (S.getD q cl0).pos = ((e + ((S.take q).map fun c => c.len.toNat).sum : Nat) : Int)
  | [], _, _, _, q, hq => by simp at hq
  | c :: r, e, h, hs, q, hq => by
    have f := h.facts
    have hn := sum_ahead T r _ h.next
    rw [List.map_cons, List.sum_cons] at hs
    have hpos : c.pos = e := by omega
    cases q with
    | zero => simpa using hpos
    | succ q =>
      have ih := tile T r _ h.next (by omega) q (by simpa using hq)
      rw [List.getD_cons_succ, ih, List.take_succ_cons, List.map_cons, List.sum_cons]
      omega

theorem extract_join {s : ByteArray} {a b : Nat} (h1 : a ≤ b) (h2 : b ≤ s.size) : s.extract 0 a ++ s.extract a b = s.extract 0 b := by
  have z1 : (s.extract 0 a).size = a := by rw [ByteArray.size_extract]; omega
  have z2 : (s.extract a b).size = b - a := by rw [ByteArray.size_extract]; omega
  have z3 : (s.extract 0 b).size = b := by rw [ByteArray.size_extract]; omega
  refine ext_bytes (by rw [ByteArray.size_append]; omega) (fun i hi => ?_)
  rw [ByteArray.size_append, z1, z2] at hi
  rw [byte_extract (s := s) (P := 0) (Q := b) h2 (by omega)]
  by_cases hia : i < a
  · rw [byte_left (by omega), byte_extract (by omega) (by omega)]
  · rw [byte_right (by omega) (by omega), byte_extract (by omega) (by omega), z1]
    congr 1
    omega

theorem pack_yes {s : ByteArray} {L : List Cl} (h : heapB s L = true) : packD s L = (pkSt s L (liveS L).length).2 ++ dataZ (s.size - (pkSt s L (liveS L).length).2.size) := by
  unfold packD
  rw [if_pos h]

/-- What packing leaves, all at once. -/
structure PackLaw (s : ByteArray) (L : List Cl) : Prop where
  len : (packL s L).length = L.length
  rest : ∀ i : Nat, i < L.length → getB (packD s L) (packL s L) i (L.getD i cl0).gen = getB s L i (L.getD i cl0).gen
  right : heapB (packD s L) (packL s L) = true
  room : overB (fun x y => x + y) (packD s L) (packL s L) = overB (fun x y => x + y) s L
  gap : overB (fun x y => max x y) (packD s L) (packL s L) = overB (fun x y => x + y) (packD s L) (packL s L)
  again : packD (packD s L) (packL s L) = packD s L
  under : overB (fun x y => max x y) s L ≤ overB (fun x y => x + y) s L

theorem pack_law {s : ByteArray} {L : List Cl} (h : heapB s L = true) : PackLaw s L := by
  have hX := (heap_iff s L).1 h
  obtain ⟨t, _, hr⟩ := heap_right h
  have eD : packD s L = (pkSt s L (liveS L).length).2 ++ dataZ (s.size - (pkSt s L (liveS L).length).2.size) := by unfold packD; rw [if_pos h]
  have eL : packL s L = (pkSt s L (liveS L).length).1 := by unfold packL; rw [if_pos h]
  have hps := pk_size hr (liveS L).length (Nat.le_refl _)
  have hT := pk_le hr (Nat.le_refl (liveS L).length)
  have hll : (pkSt s L (liveS L).length).1.length = L.length := pk_len s L _ (Nat.le_refl _)
  have hTl := pkN_lens hr
  rw [hps] at eD
  have hDs : (packD s L).size = s.size := by
    rw [eD, ByteArray.size_append, dataZ_size, hps]
    omega
  -- what each cell is then
  have hin : ∀ i, i ∈ liveS L → ∃ q, q < (liveS L).length ∧ (liveS L).getD q 0 = i ∧ (packL s L).getD i cl0 = ⟨(pkN L q : Nat), (L.getD i cl0).len, (L.getD i cl0).gen, true⟩ ∧ pkN L q + (L.getD i cl0).len.toNat ≤ pkN L (liveS L).length ∧ (L.getD i cl0).live = true ∧ 1 ≤ (L.getD i cl0).len := fun i hi => by
    obtain ⟨q, hq, e⟩ := liveS_idx hi
    have hok := live_ok hr hi
    have := pk_cell hr (liveS L).length q (Nat.le_refl _) hq
    rw [e] at this
    have h1 := pkN_next L (m := q) hq
    have h2 := pkN_mono L (q + 1) ((liveS L).length - (q + 1)) (by omega)
    rw [show q + 1 + ((liveS L).length - (q + 1)) = (liveS L).length by omega] at h2
    rw [e] at h1
    refine ⟨q, hq, e, ?_, ?_, hok.1, hok.2.1⟩
    · rw [eL, this]
      have : (clOf L i).live = true := hok.1
      rw [this]
      rfl
    · have e3 : (clOf L i).len.toNat = (L.getD i cl0).len.toNat := rfl
      omega
  have hout : ∀ i, i ∉ liveS L → (packL s L).getD i cl0 = L.getD i cl0 := fun i hi => by
    rw [eL]
    exact pk_other s L hi _ (Nat.le_refl _)
  have hlv : ∀ i, (packL s L).getD i cl0 = ⟨((packL s L).getD i cl0).pos, (L.getD i cl0).len, (L.getD i cl0).gen, (L.getD i cl0).live⟩ := fun i => by
    by_cases hi : i ∈ liveS L
    · obtain ⟨q, _, _, e, _, e2, _⟩ := hin i hi
      rw [e, e2]
    · rw [hout i hi]
  have hmem : ∀ i, i < L.length → ((packL s L).getD i cl0).live = true → i ∈ liveS L := fun i hi hl => by
    rw [hlv i] at hl
    exact liveS_mem hi hl
  have hR : RightX (packD s L) (packL s L) := by
    refine ⟨by rw [hDs]; exact hX.small, by rw [eL, hll]; exact hX.few, fun i hi => ?_, fun i j hi hj hij li lj => ?_, fun p hp hc => ?_⟩
    · rw [eL, hll] at hi
      have hadm := hX.adm i hi
      rw [hDs]
      by_cases hm : i ∈ liveS L
      · obtain ⟨q, hq, e, e1, e2, e3, e4⟩ := hin i hm
        rw [e1]
        unfold admitB at hadm ⊢
        rw [Bool.and_eq_true] at hadm ⊢
        refine ⟨hadm.1, ?_⟩
        simp
        have e5 : (L.getD i cl0) = (L[i]?.getD cl0) := List.getD_eq_getElem?_getD
        rw [← e5]
        omega
      · rw [hout i hm]
        exact hadm
    · rw [eL, hll] at hi hj
      obtain ⟨q, hq, e, e1, e2, e3, e4⟩ := hin i (hmem i hi li)
      obtain ⟨q', hq', e', e1', e2', e3', e4'⟩ := hin j (hmem j hj lj)
      have hne : q ≠ q' := fun hh => hij (by rw [← e, ← e', hh])
      rw [e1, e1']
      unfold Disj
      simp only
      have n1 := pkN_next L (m := q) hq
      have n2 := pkN_next L (m := q') hq'
      rw [e] at n1
      rw [e'] at n2
      have c1 : (clOf L i).len.toNat = (L.getD i cl0).len.toNat := rfl
      have c2 : (clOf L j).len.toNat = (L.getD j cl0).len.toNat := rfl
      rcases Nat.lt_or_gt_of_ne hne with hlt | hlt
      · have m1 := pkN_mono L (q + 1) (q' - (q + 1)) (by omega)
        rw [show q + 1 + (q' - (q + 1)) = q' by omega] at m1
        left
        omega
      · have m1 := pkN_mono L (q' + 1) (q - (q' + 1)) (by omega)
        rw [show q' + 1 + (q - (q' + 1)) = q by omega] at m1
        right
        omega
    · by_cases hpT : p < pkN L (liveS L).length
      · exfalso
        obtain ⟨q, hq, h1, h2⟩ := pk_find _ p (Nat.le_refl _) hpT
        have hm := liveS_at (L := L) hq
        obtain ⟨q', hq', e', e1', e2', e3', e4'⟩ := hin _ hm
        have hqq : q' = q := by
          rcases Nat.lt_trichotomy q' q with hx | hx | hx
          · exact absurd e' (liveS_ne hx hq)
          · exact hx
          · exact absurd e'.symm (liveS_ne hx hq')
        subst hqq
        have hlt := liveS_lt L _ hm
        have := hc _ (by rw [eL, hll]; exact hlt)
        rw [Bool.eq_false_iff] at this
        apply this
        rw [e1', covers_iff _ _ rfl]
        have c1 : (clOf L ((liveS L).getD q' 0)).len.toNat = (L.getD ((liveS L).getD q' 0) cl0).len.toNat := rfl
        simp only
        omega
      · rw [hDs] at hp
        rw [eD, byte_right (by omega) (by rw [dataZ_size]; omega)]
        exact byte_zero _ _
  have hbyte : ∀ i, i ∈ liveS L → ∀ b, b < (L.getD i cl0).len.toNat → byteAt (packD s L) (((packL s L).getD i cl0).pos.toNat + b) = byteAt s ((L.getD i cl0).pos.toNat + b) := fun i hi b hb => by
    obtain ⟨q, hq, e, e1, e2, e3, e4⟩ := hin i hi
    rw [e1]
    simp only [Int.toNat_natCast]
    rw [eD, byte_left (by omega)]
    have := pk_bytes hr (liveS L).length q (Nat.le_refl _) hq b (by rw [e]; exact hb)
    rw [e] at this
    exact this
  have hlens : lens (packL s L) = lens L := lens_ext _ _ (by rw [eL, hll]) (fun i => by rw [hlv i])
  have hroom : overB (fun x y => x + y) (packD s L) (packL s L) = overB (fun x y => x + y) s L := by rw [room_of hR, room_of hX, hDs, hlens]
  have hb' := (heap_iff _ _).2 hR
  refine ⟨by rw [eL, hll], fun i hi => ?_, hb', hroom, ?_, ?_, gap_le_room h⟩
  · refine (get_same hX hR hi (by rw [eL, hll]; exact hi) (by rw [hlv i]) (by rw [hlv i]) (by rw [hlv i]) (fun hl j hj => ?_)).symm
    exact (hbyte i (liveS_mem hi hl) j hj).symm
  · apply Int.le_antisymm (gap_le_room hb')
    obtain ⟨t', hr', g1, _⟩ := gap_val hb'
    rw [room_of hR, hlens, hDs, ← hTl, g1]
    have hmax := le_max (scanM t' (packD s L).size).1 0
    by_cases hz : s.size = pkN L (liveS L).length
    · have : (0 : Int) ≤ maxG (scanM t' (packD s L).size).1 := hmax.2
      omega
    · obtain ⟨g, hg, hw⟩ := scan_found (t := t') (P := pkN L (liveS L).length) (W := s.size - pkN L (liveS L).length) (n := (packD s L).size) (by omega) (by omega) (fun p hp1 hp2 => (taken_no hr' p).2 (fun k hk => by
        rw [eL, hll] at hk
        rw [Bool.eq_false_iff]
        intro hc
        have hl : ((packL s L).getD k cl0).live = true := by
          unfold covers at hc
          rw [Bool.and_eq_true] at hc
          exact hc.1
        obtain ⟨q, hq, e, e1, e2, e3, e4⟩ := hin k (hmem k hk hl)
        have := (covers_iff _ _ hl).1 hc
        rw [e1] at this
        simp only at this
        omega))
      have h2 : (g.2 : Int) ≤ maxG (scanM t' (packD s L).size).1 := hmax.1 g hg
      omega
  · obtain ⟨t', _, hr'⟩ := heap_right hb'
    have hTl' := pkN_lens hr'
    rw [hlens, ← hTl] at hTl'
    have hTT : pkN (packL s L) (liveS (packL s L)).length = pkN L (liveS L).length := by omega
    have hah : Ahead (pkN L (liveS L).length) (liveC [] (packL s L)) 0 := by
      refine ⟨by omega, fun c hc => ?_, hr'.sorted, hr'.disj, hr'.low⟩
      rw [live_all] at hc
      obtain ⟨i, hi, rfl⟩ := List.mem_map.1 hc
      have hok := live_ok hr' hi
      have hlt := liveS_lt _ i hi
      rw [eL, hll] at hlt
      obtain ⟨q, hq, e, e1, e2, e3, e4⟩ := hin i (hmem i hlt hok.1)
      have e5 : clOf (packL s L) i = (packL s L).getD i cl0 := rfl
      rw [e5, e1]
      refine ⟨rfl, e4, by simp only; omega, by simp only; omega⟩
    have hsum : ∀ q, q ≤ (liveS (packL s L)).length → (((liveC [] (packL s L)).take q).map fun c => c.len.toNat).sum = pkN (packL s L) q := fun q hq => by
      rw [live_all]
      unfold pkN
      rw [← List.map_take, List.map_map]
      rfl
    have hlen : (liveC [] (packL s L)).length = (liveS (packL s L)).length := by rw [live_all, List.length_map]; rfl
    have htile := tile _ _ 0 hah (by
      have := hsum (liveS (packL s L)).length (Nat.le_refl _)
      rw [← hlen, List.take_length, hlen] at this
      omega)
    have hpos : ∀ q, q < (liveS (packL s L)).length → (clOf (packL s L) ((liveS (packL s L)).getD q 0)).pos = (pkN (packL s L) q : Nat) := fun q hq => by
      have := htile q (by rw [hlen]; exact hq)
      rw [hsum q (by omega), Nat.zero_add] at this
      rw [← this, live_all]
      have e6 : (stI (packL s L) (packL s L).length)[q]? = some ((liveS (packL s L)).getD q 0) := by
        rw [List.getD_eq_getElem?_getD]
        show (liveS (packL s L))[q]? = _
        rw [List.getElem?_eq_getElem hq]
        rfl
      generalize (liveS (packL s L)).getD q 0 = z at *
      rw [List.getD_eq_getElem?_getD, List.getElem?_map, e6]
      rfl
    have hst : ∀ m, m ≤ (liveS (packL s L)).length → (pkSt (packD s L) (packL s L) m).2 = (packD s L).extract 0 (pkN (packL s L) m) := fun m => by
      induction m with
      | zero =>
        intro _
        refine ext_bytes ?_ (fun i hi => ?_)
        · rw [ByteArray.size_extract]
          show 0 = min (pkN (packL s L) 0) _ - 0
          simp [pkN]
        · exact absurd hi (Nat.not_lt_zero i)
      | succ m ih =>
        intro hm
        have hok := live_ok hr' (liveS_at (L := packL s L) (m := m) (by omega))
        have hp := hpos m (by omega)
        rw [pkSt_next _ _ (by omega), pkN_next _ (by omega)]
        show _ ++ cutOf _ _ = _
        rw [ih (by omega)]
        unfold cutOf
        obtain ⟨_, a1, a2, a3⟩ := hok
        rw [hp]
        simp only [Int.toNat_natCast]
        exact extract_join (by omega) (by omega)
    have eAll := pack_yes hb'
    rw [eAll, hst _ (Nat.le_refl _), hTT]
    have z1 : ((packD s L).extract 0 (pkN L (liveS L).length)).size = pkN L (liveS L).length := by rw [ByteArray.size_extract]; omega
    rw [z1]
    refine ext_bytes (by rw [ByteArray.size_append, z1, dataZ_size, hDs]; omega) (fun i hi => ?_)
    rw [ByteArray.size_append, z1, dataZ_size] at hi
    by_cases hiT : i < pkN L (liveS L).length
    · rw [byte_left (by omega), byte_extract (by omega) (by omega), Nat.zero_add]
    · rw [byte_right (by omega) (by rw [dataZ_size]; omega), byte_zero, eD, byte_right (by omega) (by rw [dataZ_size]; omega), byte_zero]
end Go.Proofs.Ytjjpplpdpldkeaa
