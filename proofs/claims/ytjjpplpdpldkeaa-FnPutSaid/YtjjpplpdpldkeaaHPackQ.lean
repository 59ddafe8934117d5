/- The program's byPlace. -/
import Derived.Test.YtjjpplpdpldkeaaHPackP
namespace Go.Proofs.Ytjjpplpdpldkeaa
open Go.RowKit Go.Sort Go.Shelf

/-- How two cells are told apart: by where they lie. -/
def cfL (L : List Cl) (x y : { i : Nat // i < L.length }) : Int := cmpI (L.getD x.1 cl0).pos (L.getD y.1 cl0).pos

theorem lt_cfL (L : List Cl) (x y : { i : Nat // i < L.length }) : ltOf (cfL L) x y = decide ((L.getD x.1 cl0).pos < (L.getD y.1 cl0).pos) := by
  unfold ltOf cfL cmpI
  by_cases h1 : (L.getD x.1 cl0).pos < (L.getD y.1 cl0).pos
  · rw [if_pos h1, decide_eq_true h1]; rfl
  · rw [if_neg h1, decide_eq_false h1]
    split <;> rfl

theorem swo_cfL (L : List Cl) : SWO (ltOf (cfL L)) where
  irrefl x := by rw [lt_cfL]; simp
  trans x y z h1 h2 := by rw [lt_cfL] at *; simp at *; omega
  ntrans x y z h1 h2 := by rw [lt_cfL] at *; simp at *; omega

def encP (L : List Cl) (ps : List Nat) (x : { i : Nat // i < L.length }) : Value := ptrV (ps.getD x.1 0)

/-- The pointers sorted: there is one order. -/
theorem sort_any (L : List Cl) (ps : List Nat) (B A cap nn : Nat) (t2 : Nat → Bool) (w : World) (hL : L.length ≤ 40) (hR : Right nn L t2) (h0 : 0 < (liveF L L.length).length)
    (hpc : ∀ i, i < L.length → RowAt w (ps.getD i 0) 35 (clV (L.getD i cl0)))
    (ho : w.ownsRow B 59 1 (.slice (some ⟨A, 0, none⟩) (liveF L L.length).length cap) (liveF L L.length).length ((liveF L L.length).map fun i => ptrV (ps.getD i 0))) :
    Calls Try.prog 47 #[.slice (some ⟨A, 0, none⟩) (liveF L L.length).length cap, .func (.func 48) #[] #[]] w fun e w' => e = .returned (.tuple #[]) ∧ w'.ownsRow B 59 1 (.slice (some ⟨A, 0, none⟩) (liveF L L.length).length cap) (liveF L L.length).length ((liveS L).map fun i => ptrV (ps.getD i 0)) ∧ w.grownBy w' (some A) := by
  have hin : ∀ i ∈ liveF L L.length, i < L.length := liveF_lt L L.length
  obtain ⟨i1, hi1⟩ : ∃ i, i ∈ liveF L L.length := List.exists_mem_of_length_pos h0
  haveI : Inhabited { i : Nat // i < L.length } := ⟨⟨i1, hin i1 hi1⟩⟩
  have hfl := liveF_len L L.length
  obtain ⟨d, hd⟩ : ∃ d : Array { i : Nat // i < L.length }, d = ((liveF L L.length).attachWith _ hin).toArray := ⟨_, rfl⟩
  have hdv : d.toList.map (fun x => x.1) = liveF L L.length := by
    rw [hd]
    exact List.attachWith_map_subtype_val hin
  have hde : d.toList.map (encP L ps) = (liveF L L.length).map fun i => ptrV (ps.getD i 0) := by
    rw [← hdv, List.map_map]
    rfl
  have hds : d.size = (liveF L L.length).length := by
    have := congrArg List.length hdv
    rwa [List.length_map, Array.length_toList] at this
  clear hd
  rw [← hde, ← hds] at ho
  rw [← hds]
  have eg : ∀ args w, (callFunc 48 args).run Try.prog w = .ok (.enter 48 args) w := enters_of Try.func48 (by kernel_rfl) rfl
  have hAlt := (ho.lt A rfl).2
  have hH : Holds (encP L ps) w A 0 d := fun j hj => by
    refine ⟨?_, owns_frozen ho _⟩
    have := ho.cells rfl j (encP L ps d[j]!) (by rw [List.getElem?_map, Array.getElem?_toList, Array.getElem?_eq_getElem hj, getElem!_pos d j hj]; rfl)
    rwa [Addr.add_lit] at this
  have hcmp : CmpReads Try.prog 48 #[] (encP L ps) (cfL L) A 0 d.size w := fun m os dk hs x y => by
    have hg := (owns_sorted (m := m) (os := os) ho hs).2
    have row : ∀ z : { i : Nat // i < L.length }, (sortWorld (encP L ps) w A 0 m dk os).cell? ⟨ps.getD z.1 0, 0, none⟩ = some (.int .i64 (L.getD z.1 cl0).pos) := fun z => by
      have hz := hpc z.1 z.2
      have hz' : RowAt (sortWorld (encP L ps) w A 0 m dk os) (ps.getD z.1 0) 35 (clV (L.getD z.1 cl0)) := (hg.block _ hz.lt (fun e => own_ne ho hz (by decide) e)).trans hz
      exact hz'.cell 0
    exact byPos_any _ _ _ _ _ (row x) (row y)
  have hS := Any.slices_SortFunc Try.sortL (encP L ps) (fun _ => rfl) (cfL L) (swo_cfL L) 48 #[] A 0 cap d w eg hcmp.lays hH hAlt (by omega)
  change Calls Try.prog 47 _ _ _ at hS
  refine hS.mono ?_
  rintro e w' ⟨rfl, d', m, os, ⟨hs', _, hperm⟩, hsort, rfl⟩
  have hown := owns_sorted (m := m) (os := os) ho hs'
  refine ⟨rfl, ?_, hown.2⟩
  have hperm' : d'.toList.Perm d.toList := by
    have e1 : d'.extract 0 d.size = d' := by rw [← hs']; exact Array.extract_size
    have e2 : d.extract 0 d.size = d := Array.extract_size
    rw [e1, e2] at hperm
    exact hperm
  have hone : d'.toList.map (fun x => x.1) = liveS L := by
    refine one_order hR ?_ ?_
    · rw [← hdv]
      exact hperm'.map _
    · rw [List.pairwise_map, List.pairwise_iff_getElem]
      intro i j hi hj hij
      have hi' : i < d'.size := by simpa using hi
      have hj' : j < d'.size := by simpa using hj
      have := hsort i j (by omega) hij (by omega)
      rw [lt_cfL, getElem!_pos d' i hi', getElem!_pos d' j hj'] at this
      have := of_decide_eq_false this
      rw [Array.getElem_toList, Array.getElem_toList]
      omega
  have he : (liveS L).map (fun i => ptrV (ps.getD i 0)) = d'.toList.map (encP L ps) := by
    rw [← hone, List.map_map]
    rfl
  rw [he]
  exact hown.1

set_option maxHeartbeats 4000000 in
set_option maxRecDepth 100000 in
theorem byPlace_any (g n nn : Nat) (d : Nat → UInt8) (t t2 : Nat → Bool) (L : List Cl) (cs : Value) (ps : List Nat) (w : World) (ha : Arena w g d t n cs) (ho : w.ownsRow (g + 1) 59 1 cs L.length (ps.map ptrV)) (hpl : ps.length = L.length)
    (hpc : ∀ i, i < L.length → RowAt w (ps.getD i 0) 35 (clV (L.getD i cl0))) (hL : L.length ≤ 40) (hR : Right nn L t2) :
    Calls Try.prog 39 #[.pointer (some ⟨g, 0, none⟩)] w fun e w' => ∃ v, e = .returned v ∧ w'.ownsRow w.heap.size 59 1 v (liveS L).length ((liveS L).map fun i => ptrV (ps.getD i 0)) ∧ Below w.heap.size w w' := by
  obtain ⟨i0, hi, hz0, hz1, hz2⟩ := info_parts info76
  obtain ⟨a, A, cap, rfl, hA⟩ := form_any ho
  have HA : Hid (∀ k, k < L.length → w.cell? ⟨A, k, none⟩ = some (.pointer (some ⟨ps.getD k 0, 0, none⟩)) ∧ A < w.heap.size ∧ a = some ⟨A, 0, none⟩) := fun k hk => by
    obtain rfl := hA (by omega)
    have := ho.cells rfl k (ptrV (ps.getD k 0)) (by rw [List.getElem?_map, List.getD_eq_getElem?_getD, List.getElem?_eq_getElem (by omega)]; rfl)
    rw [Addr.add_lit, Nat.zero_add] at this
    exact ⟨this, (ho.lt A rfl).2, rfl⟩
  have HP : Hid (∀ i, i < L.length → RowAt w (ps.getD i 0) 35 (clV (L.getD i cl0))) := hpc
  have HSP : Hid ((liveS L).length = (liveF L L.length).length) := (live_perm L L.length).length_eq
  have cc := ha.cells
  clear ha ho hpc hA hpl
  go_enter Try.func39, Try.ntmps39
  go_wp2
  go_loopw [3, 5, 11] (fun v _ i wr => ∃ k : Nat, k ≤ L.length ∧ i = .int .i64 k ∧ wr.ownsRow w.heap.size 59 1 v (liveF L k).length ((liveF L k).map fun i => ptrV (ps.getD i 0)) ∧ Below w.heap.size w wr) (fun _ _ i _ => L.length - (intOf i).toNat)
  case atStart => exact ⟨0, by omega, rfl, World.ownsRow_nil _ _ _ _, Below.refl _ _⟩
  case round =>
    obtain ⟨k, hk, rfl, hown, bk⟩ := hrel
    by_cases hlt : k < L.length
    · obtain ⟨hp0, hAlt, rfl⟩ := HA.out k hlt
      have hx0 := HP.out k hlt
      have hx := hx0.below bk hx0.lt
      have hp : wr.cell? ⟨A, k, none⟩ = some (.pointer (some ⟨ps.getD k 0, 0, none⟩)) := (bk.cell (p := ⟨A, k, none⟩) hAlt).trans hp0
      have c3 : wr.cell? ⟨ps.getD k 0, 3, none⟩ = some (.bool (L.getD k cl0).live) := hx.cell 3
      have HN := liveF_next L k
      have hfl := liveF_len L k
      have hbk := bk.size
      cases hlv : (L.getD k cl0).live with
      | false =>
        rw [hlv] at c3
        have HN2 : Hid (liveF L (k + 1) = liveF L k) := by unfold Hid; rw [HN, if_neg (by rw [hlv]; simp)]
        generalize ps.getD k 0 = p at *
        clear HN hlv hx hx0 hp0
        go_wp2
        go_roundw
        case rel => exact ⟨k + 1, by omega, by go_num, by rw [HN2.out]; exact hown, bk⟩
        case measure => simp [intOf]; omega
      | true =>
        rw [hlv] at c3
        have HN2 : Hid (liveF L (k + 1) = liveF L k ++ [k]) := by unfold Hid; rw [HN, if_pos hlv]
        have HPK : Hid (∃ p, ps.getD k 0 = p) := ⟨_, rfl⟩
        obtain ⟨p, hpe⟩ := HPK.out
        have HPE : Hid (ps.getD k 0 = p) := hpe
        rw [hpe] at hp c3
        clear HN hlv hx hx0 hp0 HPK hpe
        generalize hXS : (liveF L k).map (fun i => ptrV (ps.getD i 0)) = xs at *
        generalize hNS : (liveF L k).length = ns at *
        go_wp2_with (at_builtin; refine wpList_append_own _ rfl _ _ 62 rfl w.heap.size 59 i0 _ 1 8 Try.underlying62 hi hz0 hz1 hz2 rfl (by decide) _ _ _ rfl (hown.alloc _) ⟨wr.heap.size, 0, none⟩ 1 1 [.pointer (some ⟨p, 0, none⟩)] rfl rfl ?c1 ?c2 ?c3 ?c4 ?c5 ?_)
        case c2 => rfl
        case c3 => unfold maxLen; omega
        case c4 => omega
        case c5 => omega
        intro v0' w5 hown' hgrow _
        have b5 : Below w.heap.size w w5 := below_grown (bk.alloc (by omega) _) hgrow (fun x hx => (hown.lt x hx).1) (by simp; omega)
        have HO : Hid (w5.ownsRow w.heap.size 59 1 v0' (liveF L (k + 1)).length ((liveF L (k + 1)).map fun i => ptrV (ps.getD i 0))) := by
          unfold Hid
          rw [HN2.out, List.length_append, List.map_append, hXS, hNS]
          show w5.ownsRow w.heap.size 59 1 v0' (ns + 1) (xs ++ [ptrV (ps.getD k 0)])
          rw [HPE.out]
          exact hown'
        have HB : Hid (Below w.heap.size w w5) := b5
        clear hown' hgrow b5 hown hXS hNS
        go_wp2
        go_roundw
        case rel => exact ⟨k + 1, by omega, by go_num, HO.out, HB.out⟩
        case measure => simp [intOf]; omega
    · obtain rfl : k = L.length := by omega
      have hpcr : ∀ i, i < L.length → RowAt wr (ps.getD i 0) 35 (clV (L.getD i cl0)) := fun i hi => (HP.out i hi).below bk (HP.out i hi).lt
      by_cases h0 : (liveF L L.length).length = 0
      · have hE : liveS L = [] := List.eq_nil_of_length_eq_zero (by rw [HSP.out, h0])
        have HE : Hid (liveS L = []) := hE
        rw [h0] at hown
        obtain ⟨p, A', cap', rfl, _⟩ := form_any hown
        have hS := AnyF.slices_SortFunc_none (P := Try.prog) (ρ := Try.sortL_ren) { Try.sortL with } p cap' (.func (.func 48) #[] #[]) wr
        change Calls Try.prog 47 _ _ _ at hS
        have HOW : Hid (wr.ownsRow w.heap.size 59 1 (.slice p 0 cap') 0 ((liveF L L.length).map fun i => ptrV (ps.getD i 0))) := hown
        have HF : Hid (liveF L L.length = []) := List.eq_nil_of_length_eq_zero h0
        clear hown hpcr hE h0
        go_wp2_with fail
        refine hS.mono ?_
        rintro e w' ⟨rfl, rfl⟩
        go_wp2
        go_ret
        exact ⟨_, rfl, by rw [HE.out]; have := HOW.out; rw [HF.out] at this; exact this, bk⟩
      · obtain ⟨A', cap', rfl⟩ := Go.Joins.ownsRow_form hown (by omega)
        have hS := sort_any L ps w.heap.size A' cap' nn t2 wr hL hR (by omega) hpcr hown
        have hA' := (hown.lt A' rfl).1
        clear hown hpcr
        generalize (liveF L L.length).length = ns at *
        go_wp2_with fail
        refine hS.mono ?_
        rintro e w' ⟨rfl, ho', gr'⟩
        have b' : Below w.heap.size w w' := below_grown bk gr' (fun y hy => by have := Option.some.inj hy; omega) bk.size
        go_wp2
        go_ret
        exact ⟨_, rfl, by rw [HSP.out]; exact ho', b'⟩
end Go.Proofs.Ytjjpplpdpldkeaa
