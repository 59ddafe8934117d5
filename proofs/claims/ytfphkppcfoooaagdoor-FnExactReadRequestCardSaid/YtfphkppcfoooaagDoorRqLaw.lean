/- FnExactReadRequest: the law's walk. -/
import Derived.Test.YtfphkppcfoooaagDoorMark
namespace Go.Proofs.YtfphkppcfoooaagDoor
open Go.RowKit Go.Sort

theorem someM_len {l t : List UInt8} {n : Nat} (h : someM l n = .inr t) : t.length ≤ l.length := by
  unfold someM at h
  split at h
  · cases h
  · split at h
    · injection h with h; subst h; rw [List.length_take]; omega
    · cases h

theorem bulksM_args : ∀ (n : Nat) (l : List UInt8) (ts : List (List UInt8)) (v : Nat), bulksM n l = .inr (ts, v) → ts.length = n ∧ ∀ t ∈ ts, t.length ≤ l.length
  | 0, l, ts, v, h => by
    rw [bulksM] at h
    injection h with h
    injection h with h1 h2
    subst h1
    exact ⟨rfl, fun t ht => by cases ht⟩
  | n + 1, l, ts, v, h => by
    rw [bulksM] at h
    split at h
    · cases h
    · split at h
      · cases h
      · rename_i hsm
        split at h
        · cases h
        · rename_i hb
          injection h with h
          injection h with h1 h2
          subst h1
          obtain ⟨ih1, ih2⟩ := bulksM_args n _ _ _ hb
          refine ⟨by simp [ih1], fun t ht => ?_⟩
          rcases List.mem_cons.1 ht with rfl | ht
          · have := someM_len hsm
            rw [List.length_drop] at this
            omega
          · have := ih2 t ht
            rw [List.length_drop] at this
            omega

theorem requestM_args {l : List UInt8} {ts : List (List UInt8)} {u : Nat} (h : requestM l = .inr (ts, u)) : ts.length ≤ 16 ∧ ∀ t ∈ ts, t.length ≤ l.length + 200 := by
  unfold requestM at h
  split at h
  · cases h
  · split at h
    · unfold bulksAllM at h
      split at h
      · cases h
      · rename_i hm
        split at h
        · cases h
        · rename_i hb
          injection h with h
          injection h with h1 h2
          subst h1
          obtain ⟨h1, h2⟩ := bulksM_args _ _ _ _ hb
          have := marked_count hm
          refine ⟨by omega, fun t ht => ?_⟩
          have := h2 t ht
          rw [List.length_drop] at this
          omega
    · unfold lineWords at h
      split at h
      · cases h
      · split at h
        · cases h
        · split at h
          · rename_i hok
            injection h with h
            injection h with h1 h2
            subst h1
            unfold okArgsL at hok
            rw [Bool.and_eq_true, decide_eq_true_iff, List.all_eq_true] at hok
            exact ⟨hok.1, fun t ht => by have := of_decide_eq_true (hok.2 t ht); omega⟩
          · cases h

/-- What is answered, by the reading. -/
def resOf : Int ⊕ (List (List UInt8) × Nat) → List ByteArray × Int × Int
  | .inl c => ([], 0, c)
  | .inr (ts, u) => (ts.map fun t => ⟨t.toArray⟩, u, 0)

theorem ReqEnd.own {w : World} {m : Int ⊕ (List (List UInt8) × Nat)} {e : Ending} {w' : World} (h : ReqEnd w m e w') :
    ∃ v, e = .returned (.tuple #[v, .int .i64 (resOf m).2.1, .int .i64 (resOf m).2.2]) ∧ w'.ownsRow w.heap.size 9 1 v (resOf m).1.length ((resOf m).1.map Value.string) ∧ Below w.heap.size w w' := by
  match m, h with
  | .inl c, ⟨he, hb⟩ => exact ⟨_, he, World.ownsRow_nil _ _ _ _, hb⟩
  | .inr (ts, u), ⟨v, he, ho, hb⟩ =>
    refine ⟨v, he, ?_, hb⟩
    show w'.ownsRow w.heap.size 9 1 v (ts.map fun t => (⟨t.toArray⟩ : ByteArray)).length ((ts.map fun t => (⟨t.toArray⟩ : ByteArray)).map Value.string)
    rw [List.length_map, List.map_map]
    exact ho

theorem resOf_small (l : List UInt8) (hl : l.length ≤ 1048576) : (resOf (requestM l)).1.length ≤ 16 ∧ ∀ x ∈ (resOf (requestM l)).1, x.size ≤ 2000000 := by
  cases hm : requestM l with
  | inl c => exact ⟨by simp [resOf], fun x hx => by simp [resOf] at hx⟩
  | inr q =>
    obtain ⟨ts, u⟩ := q
    obtain ⟨h1, h2⟩ := requestM_args hm
    refine ⟨by simpa [resOf] using h1, fun x hx => ?_⟩
    obtain ⟨t, ht, rfl⟩ := List.mem_map.1 hx
    have := h2 t ht
    show t.toArray.size ≤ _
    rw [List.size_toArray]
    omega

theorem strsIn_any {w : World} {B n : Nat} {v : Value} {ws : List ByteArray} (h : w.ownsRow B 9 1 v n (ws.map Value.string)) (hn : ws.length = n) (hf : ∀ x ∈ ws, x.size ≤ 2000000) :
    ∃ a b off c, v = .slice a n c ∧ StrsIn w a b off n ws := by
  rcases Joins.ownsRow_forms h with ⟨rfl, rfl⟩ | ⟨A, c, rfl⟩
  · exact ⟨none, 0, 0, 0, rfl, ⟨hn, fun h => by omega, fun h => by omega, fun i hi => by omega, fun i hi => by omega⟩⟩
  · refine ⟨some ⟨A, 0, none⟩, A, 0, c, rfl, ⟨hn, fun _ => rfl, fun _ => (h.lt A rfl).2, fun i hi => ?_, fun i hi => ?_⟩⟩
    · have := h.cells rfl i (.string (ws.getD i ByteArray.empty)) (by rw [List.getElem?_map, List.getD_eq_getElem?_getD, List.getElem?_eq_getElem (by omega)]; rfl)
      rwa [Addr.add_lit] at this
    · have hi2 : i < ws.length := by omega
      have := hf ws[i] (List.getElem_mem hi2)
      rw [List.getD_eq_getElem?_getD, List.getElem?_eq_getElem hi2]
      exact Nat.le_trans this (by omega)

theorem own_below {w w' : World} {B n : Nat} {v : Value} {xs : List Value} (h : w.ownsRow B 9 1 v n xs) (hb : Below w.heap.size w w') : w'.ownsRow B 9 1 v n xs :=
  h.kept (row := some w.heap.size) ⟨hb.os, hb.tape, hb.output, hb.size, fun k hk _ => hb.block k hk⟩ (.inr fun e => by have := (h.lt w.heap.size e).2; omega)

theorem own_drew {w : World} {B n q : Nat} {v : Value} {xs : List Value} (h : w.ownsRow B 9 1 v n xs) : (w.drewN q).ownsRow B 9 1 v n xs := h

theorem grown_own {w w' : World} {B : Nat} {v : Value} {n : Nat} {xs : List Value} (h : w.ownsRow B 9 1 v n xs) (hg : w.grownBy w' (Value.ownBlock v)) (hB : B ≤ w.heap.size) : Below B w w' :=
  ⟨hg.os, hg.tape, hg.output, hg.size, fun k hk => hg.block k (by omega) (fun e => by have := (h.lt k e.symm).1; omega)⟩

set_option maxHeartbeats 4000000 in
set_option maxRecDepth 100000 in
theorem readReq_walk (s : ByteArray) (w : World) (hs : s.size ≤ 9223372036854775807) (hr : Ready w) :
    Calls Tryd.prog 6 #[.string s] w fun e w' => e = .returned (.bool true) ∧ Below w.heap.size w w' := by
  by_cases hbig : 1048576 < s.size
  · have hbi : (1048576 : Int) < (s.size : Int) := by omega
    go_enter Tryd.func6, Tryd.ntmps6
    go_wp2
    go_ret
    exact ⟨rfl, Below.refl _ _⟩
  · have hbi : ¬ (1048576 : Int) < (s.size : Int) := by omega
    have hs2 : s.size ≤ 1048576 := by omega
    have hsix := hr.six
    obtain ⟨hsm, hsz⟩ := resOf_small s.data.toList (by rw [← Lib.size_eq]; exact hs2)
    have HSP : Hid (∀ w, Calls Tryd.prog 22 #[.string s] w fun e w' => ∃ v, e = .returned (.tuple #[v, .int .i64 (resOf (requestM s.data.toList)).2.1, .int .i64 (resOf (requestM s.data.toList)).2.2]) ∧ w'.ownsRow w.heap.size 9 1 v (resOf (requestM s.data.toList)).1.length ((resOf (requestM s.data.toList)).1.map Value.string) ∧ Below w.heap.size w w') := fun w => (spReq s w hs2).mono fun _ _ h => h.own
    have HIM : Hid (∀ w, Ready w → Calls Tryd.prog 23 #[.string s] w fun e w' => ∃ v, e = .returned (.tuple #[v, .int .i64 (resOf (requestM s.data.toList)).2.1, .int .i64 (resOf (requestM s.data.toList)).2.2]) ∧ w'.ownsRow w.heap.size 9 1 v (resOf (requestM s.data.toList)).1.length ((resOf (requestM s.data.toList)).1.map Value.string) ∧ Below w.heap.size w w') := fun w hr => (readReq s w hs2 hr).mono fun _ _ h => h.own
    generalize (resOf (requestM s.data.toList)).2.1 = ru at *
    generalize (resOf (requestM s.data.toList)).2.2 = rc at *
    generalize (resOf (requestM s.data.toList)).1 = ss at *
    obtain ⟨n, hn⟩ : ∃ n, n = ss.length := ⟨_, rfl⟩
    rw [← hn] at HSP HIM hsm
    have HN : Hid (n = ss.length) := hn
    have HZ : Hid (∀ x ∈ ss, x.size ≤ 2000000) := hsz
    clear hn hsz
    go_enter Tryd.func6, Tryd.ntmps6
    go_wp2_with fail
    refine (HSP.out w).mono ?_
    rintro e w1 ⟨v1, rfl, o1, b1⟩
    have s1 := b1.size
    have R1 : Hid (Ready w1) := hr.below (b1.mono hsix)
    go_wp2_with fail
    refine (HIM.out w1 R1.out).mono ?_
    rintro e w2 ⟨v2, rfl, o2, b2⟩
    have s2 := b2.size
    have bb2 := b1.trans (b2.mono s1)
    have o12 := own_below o1 b2
    obtain ⟨a1, c1b, f1, k1, hv1, i1⟩ := strsIn_any o12 HN.out.symm HZ.out
    obtain ⟨a2, c2b, f2, k2, hv2, i2⟩ := strsIn_any o2 HN.out.symm HZ.out
    have HV1 : Hid (v1 = .slice a1 n k1) := hv1
    have HV2 : Hid (v2 = .slice a2 n k2) := hv2
    have HEQ : Hid (Calls Tryd.prog 21 #[v2, v1] w2 fun e w' => e = .returned (.bool true) ∧ ∃ q, w' = w2.drewN q) := by
      unfold Hid
      rw [hv1, hv2]
      exact eq_any a2 a1 c2b f2 c1b f1 n k2 k1 ss w2 i2 i1 (by omega)
    clear hv1 hv2 i1 i2
    go_wp2_with fail
    refine HEQ.out.mono ?_
    rintro e w3 ⟨rfl, q3, rfl⟩
    go_wp2_with fail
    have o2d : (w2.drewN q3).ownsRow w1.heap.size 9 1 v2 n (ss.map Value.string) := o2
    have o1d : (w2.drewN q3).ownsRow w.heap.size 9 1 v1 n (ss.map Value.string) := o12
    have bd : Below w.heap.size w (w2.drewN q3) := below_drewN bb2 _
    have sd : (w2.drewN q3).heap.size = w2.heap.size := rfl
    have hv1lt : ∀ k, Value.ownBlock v1 = some k → k < w1.heap.size := fun k hk => (o1.lt k hk).2
    generalize w2.drewN q3 = w3 at *
    refine (markS_any w1.heap.size v2 n _ w3 o2d (by omega)).mono ?_
    rintro e w4 ⟨rfl, o4, g4⟩
    have b4 : Below w1.heap.size w3 w4 := grown_own o2d g4 (by omega)
    have s4 := b4.size
    have bb4 := bd.trans (b4.mono s1)
    have o14 : w4.ownsRow w.heap.size 9 1 v1 n (ss.map Value.string) := o1d.kept g4 (by
      by_cases hv : Value.ownBlock v1 = none
      · exact .inl hv
      · refine .inr fun e => ?_
        obtain ⟨k, hk⟩ := Option.ne_none_iff_exists'.1 hv
        have h1 := hv1lt k hk
        have h2 := (o2d.lt k (by rw [← e]; exact hk)).1
        omega)
    clear o1d o12 o1 o2 o2d HEQ
    go_wp2_with fail
    refine (heldS_any w1.heap.size v2 n w4 o4 (by omega)).mono ?_
    rintro e w5 ⟨rfl, b5⟩
    have s5 := b5.size
    have bb5 := bb4.trans (b5.mono (by omega))
    have o15 := own_below o14 b5
    have o25 := own_below o4 b5
    have R5 : Hid (Ready w5) := hr.below (bb5.mono hsix)
    have hge : decide ((1 : Int) + (n : Int) < 0) = false := by simp; omega
    go_wp2_with fail
    refine (HIM.out w5 R5.out).mono ?_
    rintro e w6 ⟨v3, rfl, o3, b6⟩
    have s6 := b6.size
    have bb6 := bb5.trans (b6.mono (by omega))
    have o16 := own_below o15 b6
    have o26 := own_below o25 b6
    obtain ⟨a1', c1b', f1', k1', hv1', i1'⟩ := strsIn_any o16 HN.out.symm HZ.out
    obtain ⟨a3, c3b, f3, k3, hv3, i3⟩ := strsIn_any o3 HN.out.symm HZ.out
    have HEQ : Hid (Calls Tryd.prog 21 #[v3, v1] w6 fun e w' => e = .returned (.bool true) ∧ ∃ q, w' = w6.drewN q) := by
      unfold Hid
      rw [hv1', hv3]
      exact eq_any a3 a1' c3b f3 c1b' f1' n k3 k1' ss w6 i3 i1' (by omega)
    clear hv1' hv3 i1' i3
    go_wp2_with fail
    refine HEQ.out.mono ?_
    rintro e w7 ⟨rfl, q7, rfl⟩
    go_wp2_with fail
    have o27 : (w6.drewN q7).ownsRow w1.heap.size 9 1 v2 n (marks n) := o26
    have bd7 : Below w.heap.size w (w6.drewN q7) := below_drewN bb6 _
    have sd7 : (w6.drewN q7).heap.size = w6.heap.size := rfl
    generalize w6.drewN q7 = w7 at *
    refine (heldS_any w1.heap.size v2 n w7 o27 (by omega)).mono ?_
    rintro e w8 ⟨rfl, b8⟩
    have bb8 := bd7.trans (b8.mono (by omega))
    go_wp2
    go_ret
    exact ⟨rfl, bb8⟩
end Go.Proofs.YtfphkppcfoooaagDoor
