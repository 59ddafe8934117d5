/- The program's Packed: what stays and what turns while the cells are moved. -/
import Derived.Test.YtjjpplpdpldkeaaHPackQ
import Derived.Test.YtjjpplpdpldkeaaHPackH
import Derived.Test.YtjjpplpdpldkeaaHDropI
import Derived.Laws.CopyRow
namespace Go.Proofs.Ytjjpplpdpldkeaa
open Go.RowKit Go.Sort

theorem Arena.made (w : World) (n : Nat) (cs : Value) : Arena (w.alloc (.cells ((zc56.setIfInBounds 6000 (.int .i64 n)).setIfInBounds 6001 cs) 64)) w.heap.size (fun _ => 0) (fun _ => false) n cs := by
  refine ⟨_, RowAt.new w 64 _, by rw [Array.size_setIfInBounds, Array.size_setIfInBounds, zeros_len], fun i hi => ?_, fun i hi => ?_, ?_, ?_⟩
  · rw [Array.getElem?_setIfInBounds_ne (by omega), Array.getElem?_setIfInBounds_ne (by omega), zero56_get, zeros_data i hi]; rfl
  · rw [Array.getElem?_setIfInBounds_ne (by omega), Array.getElem?_setIfInBounds_ne (by omega), zero56_get, zeros_taken i hi]
  · rw [Array.getElem?_setIfInBounds_ne (by omega), Array.getElem?_setIfInBounds_self_of_lt (by rw [zeros_len]; omega)]
  · rw [Array.getElem?_setIfInBounds_self_of_lt (by rw [Array.size_setIfInBounds, zeros_len]; omega)]

theorem Arena.kept {w w' : World} {g n : Nat} {d : Nat → UInt8} {t : Nat → Bool} {cs : Value} {r : Option Nat} (h : Arena w g d t n cs) (hg : w.grownBy w' r) (hr : some g ≠ r) : Arena w' g d t n cs := by
  obtain ⟨C, hr1, hrest⟩ := h.row
  exact ⟨C, (hg.block g hr1.lt hr).trans hr1, hrest⟩

/-- What holds when so many have been moved. -/
structure PackI (w : World) (s : ByteArray) (L : List Cl) (t : Nat → Bool) (cs v : Value) (ps : List Nat) (g G B m : Nat) (wr : World) : Prop where
  ag : Arena wr g (byteAt s) t s.size cs
  aG : Arena wr G (byteAt (pkSt s L m).2) (fun _ => false) s.size cs
  oc : wr.ownsRow (g + 1) 59 1 cs L.length (ps.map ptrV)
  ov : wr.ownsRow B 59 1 v (liveS L).length ((liveS L).map fun i => ptrV (ps.getD i 0))
  pc : ∀ i, i < L.length → g < ps.getD i 0 ∧ RowAt wr (ps.getD i 0) 35 (clV ((pkSt s L m).1.getD i cl0))
  p2 : RowAt wr (w.heap.size + 1) 26 #[.string ⟨#[]⟩, .slice none 0 0]
  bb : Below w.heap.size w wr

theorem byte_more (D x : ByteArray) (i : Nat) : dPut D D.size x i = byteAt (D ++ x) i := by
  unfold dPut byteAt
  rw [ByteArray.data_append, Array.toList_append, List.getD_eq_getElem?_getD, List.getD_eq_getElem?_getD, List.getD_eq_getElem?_getD]
  have hl : D.data.toList.length = D.size := by rw [Array.length_toList]; rfl
  have hx : x.data.toList.length = x.size := by rw [Array.length_toList]; rfl
  by_cases h1 : i < D.size
  · rw [if_neg (by omega), List.getElem?_append_left (by omega)]
  · by_cases h2 : i < D.size + x.size
    · rw [if_pos (by omega), List.getElem?_append_right (by omega), hl]
    · rw [if_neg (by omega), List.getElem?_eq_none (by omega), List.getElem?_eq_none (by rw [List.length_append]; omega)]

/-- One is moved: its bytes are copied, its cell has another place. -/
theorem PackI.next {w : World} {s : ByteArray} {L : List Cl} {t : Nat → Bool} {cs v : Value} {ps : List Nat} {g G B m i : Nat} {wr w9 : World} {x : Cl} {C : Array Value} (h : PackI w s L t cs v ps g G B m wr) (hm : m < (liveS L).length) (hi : (liveS L).getD m 0 = i) (hx : clOf L i = x)
    (hpl : ps.length = L.length) (hpn : ps.Nodup) (hgw : w.heap.size ≤ g) (hgG : g < G) (hG : w.heap.size + 1 < G) (hok : Ok s.size x) (hroom : (pkSt s L m).2.size + x.len.toNat ≤ s.size) (hs3 : s.size ≤ 3000)
    (hC : RowAt wr G 64 C) (hsz : C.size = 6002) (hd : ∀ i, i < 3000 → C[i]? = some (.int .u8 (byteAt (pkSt s L m).2 i).toNat)) (ht : ∀ i, i < 3000 → C[3000 + i]? = some (.bool ((fun _ => false : Nat → Bool) i))) (hss : C[6000]? = some (.int .i64 s.size)) (hcc : C[6001]? = some cs)
    (hg9 : wr.grownBy w9 (some G)) (hr9 : RowAt w9 G 64 (C.toList.take (pkSt s L m).2.size ++ Lib.byteCells (cutOf s x).data.toList ++ C.toList.drop ((pkSt s L m).2.size + (cutOf s x).size)).toArray) :
    RowAt w9 (ps.getD i 0) 35 (clV x) ∧ PackI w s L t cs v ps g G B (m + 1) (w9.setCell ⟨ps.getD i 0, 0, none⟩ (.int .i64 (pkSt s L m).2.size)) := by
  have hmem := liveS_at hm
  rw [hi] at hmem
  have hiL := liveS_lt L i hmem
  have hfr := pk_fresh s L m m (Nat.le_refl _) hm
  rw [hi, hx] at hfr
  have hMl := pk_len s L m (by omega)
  have hcs := cut_size hok
  -- behind the copy
  have a9 : Arena w9 G (byteAt ((pkSt s L m).2 ++ cutOf s x)) (fun _ => false) s.size cs := by
    have := Arena.copiedAt (s := (pkSt s L m).2) (x := cutOf s x) (P := (pkSt s L m).2.size) (t := fun _ => false) hsz hd ht hss hcc (by rw [hcs]; omega) hr9
    have e : dPut (pkSt s L m).2 (pkSt s L m).2.size (cutOf s x) = byteAt ((pkSt s L m).2 ++ cutOf s x) := funext (byte_more _ _)
    rwa [e] at this
  have g9 := h.ag.kept hg9 (fun e => by have := Option.some.inj e; omega)
  have oc9 := h.oc.kept hg9 (.inr fun e => own_ne h.oc hC (by decide) e.symm)
  have ov9 := h.ov.kept hg9 (.inr fun e => own_ne h.ov hC (by decide) e.symm)
  have pc9 : ∀ j, j < (pkSt s L m).1.length → g < ps.getD j 0 ∧ RowAt w9 (ps.getD j 0) 35 (clV ((pkSt s L m).1.getD j cl0)) := fun j hj => by
    have hj' := h.pc j (by omega)
    refine ⟨hj'.1, (hg9.block _ hj'.2.lt (fun e => ?_)).trans hj'.2⟩
    have e := Option.some.inj e
    rw [e] at hj'
    exact absurd (row_type hj'.2 hC) (by decide)
  have p9 : RowAt w9 (w.heap.size + 1) 26 #[.string ⟨#[]⟩, .slice none 0 0] := (hg9.block _ h.p2.lt (fun e => by have := Option.some.inj e; omega)).trans h.p2
  have b9 : Below w.heap.size w w9 := below_grown h.bb hg9 (fun y hy => by have := Option.some.inj hy; omega) h.bb.size
  -- behind the store
  have hp := (pc9 i (by omega)).2
  have hpg := (pc9 i (by omega)).1
  have hp' := hp
  rw [hfr] at hp'
  refine ⟨hp', ?_⟩
  have hgr : w9.grownBy (w9.setCell ⟨ps.getD i 0, 0, none⟩ (.int .i64 (pkSt s L m).2.size)) (some (ps.getD i 0)) := ⟨rfl, rfl, rfl, by simp [World.setCell], fun j _ hj => Below.heap_setCell _ _ _ _ (fun e => hj (by rw [e]))⟩
  have hrow : RowAt (w9.setCell ⟨ps.getD i 0, 0, none⟩ (.int .i64 (pkSt s L m).2.size)) (ps.getD i 0) 35 (clV ⟨(pkSt s L m).2.size, ((pkSt s L m).1.getD i cl0).len, ((pkSt s L m).1.getD i cl0).gen, ((pkSt s L m).1.getD i cl0).live⟩) := by
    have := hp.set 0 (.int .i64 (pkSt s L m).2.size)
    simpa using this
  have hup := openC_upd (w' := w9.setCell ⟨ps.getD i 0, 0, none⟩ (.int .i64 (pkSt s L m).2.size)) (k := i) ⟨(pkSt s L m).2.size, ((pkSt s L m).1.getD i cl0).len, ((pkSt s L m).1.getD i cl0).gen, ((pkSt s L m).1.getD i cl0).live⟩ g9 (by rw [hMl]; exact oc9) (by rw [hMl]; exact hpl) pc9 hpn (by omega) hgr hrow
  have hnx := pkSt_next s L hm
  rw [hi] at hnx
  unfold pkStep at hnx
  rw [hx] at hnx
  refine ⟨hup.1, ?_, by rw [hMl] at hup; exact hup.2.1, ov9.kept hgr (.inr fun e => own_ne ov9 hp (by decide) e.symm), fun j hj => ?_, (Below.heap_setCell _ _ _ _ ?_).trans p9, b9.setCell (p := ⟨ps.getD i 0, 0, none⟩) ?_ _⟩
  · rw [hnx]
    exact a9.kept hgr (fun e => by
      have e := Option.some.inj e
      obtain ⟨C2, hr2, _⟩ := a9.row
      rw [e] at hr2
      exact absurd (row_type hr2 hp) (by decide))
  · rw [hnx]
    exact hup.2.2 j (by omega)
  · intro e
    have e : w.heap.size + 1 = ps.getD i 0 := e
    rw [e] at p9
    exact absurd (row_type p9 hp) (by decide)
  · show w.heap.size ≤ ps.getD i 0
    omega
end Go.Proofs.Ytjjpplpdpldkeaa
