/- laws.markKeyS: keys that a slice owns are marked, their values' rows too. laws.markKeyS: the walk. laws.heldKeyS: the marks of keys are found again. -/
import Derived.Test.YtapdoechmnjaeaaGreatDoorG8
import Derived.Test.YtapdoechmnjaeaaGreatDoorG9
import Derived.Lib.QuietBelow
namespace Go.Proofs.YtapdoechmnjaeaaGreatDoor
open Go.RowKit Go.Sort
open Kk (Rk rk0 texL texR decS scoreB rightB ranksB OwnR flatR encR markB RanksIn)

def nextK (K : Nat) (v : Vl) : Nat := K + 4 + v.items.length + 2 * v.pairs.length + 2 * v.ranks.length
def markVl (K : Nat) (v : Vl) : Vl := ⟨((K + 1 : Nat) : Int), markB (K + 2), smarksF (K + 3) v.items.length, pmarksF (K + 3 + v.items.length) v.pairs.length, Kk.marks (K + 3 + v.items.length + 2 * v.pairs.length) v.ranks.length⟩
def markKV (K : Nat) (x : KV) : KV := ⟨⟨markB K, markVl K x.key.val, ((K + 3 + x.key.val.items.length + 2 * x.key.val.pairs.length + 2 * x.key.val.ranks.length : Nat) : Int)⟩, x.vi, x.vp, x.vr⟩
def lastKs : Nat → List KV → Nat
  | K, [] => K
  | K, x :: xs => lastKs (nextK K x.key.val) xs
def marksKs : Nat → List KV → List KV
  | _, [] => []
  | K, x :: xs => markKV K x :: marksKs (nextK K x.key.val) xs

theorem marksKs_len : ∀ (L : List KV) (K : Nat), (marksKs K L).length = L.length
  | [], _ => rfl
  | x :: xs, K => by simp [marksKs, marksKs_len xs]
theorem marksKs_at : ∀ (L : List KV) (K i : Nat), i < L.length → (marksKs K L).getD i kv0 = markKV (lastKs K (L.take i)) (L.getD i kv0)
  | [], _, _, h => by simp at h
  | x :: xs, K, 0, _ => by simp [marksKs, lastKs]
  | x :: xs, K, i + 1, h => by
    have := marksKs_at xs (nextK K x.key.val) i (by simpa using h)
    simpa [marksKs, lastKs] using this
theorem lastKs_succ : ∀ (L : List KV) (K i : Nat), i < L.length → lastKs K (L.take (i + 1)) = nextK (lastKs K (L.take i)) (L.getD i kv0).key.val
  | [], _, _, h => by simp at h
  | x :: xs, K, 0, _ => by simp [lastKs]
  | x :: xs, K, i + 1, h => by
    have := lastKs_succ xs (nextK K x.key.val) i (by simpa using h)
    simpa [lastKs] using this

/-- Keys of which the first ones are marked. -/
def halfK (K : Nat) (L : List KV) (i : Nat) : List KV := marksKs K (L.take i) ++ L.drop i
theorem halfK_len (K : Nat) (L : List KV) (i : Nat) (h : i ≤ L.length) : (halfK K L i).length = L.length := by
  unfold halfK
  rw [List.length_append, marksKs_len, List.length_take, List.length_drop]
  omega
theorem halfK_zero (K : Nat) (L : List KV) : halfK K L 0 = L := by simp [halfK, marksKs]
theorem halfK_all (K : Nat) (L : List KV) : halfK K L L.length = marksKs K L := by simp [halfK]
theorem halfK_at (K : Nat) (L : List KV) (i : Nat) (h : i < L.length) : (halfK K L i).getD i kv0 = L.getD i kv0 := by
  unfold halfK
  rw [List.getD_eq_getElem?_getD, List.getD_eq_getElem?_getD, List.getElem?_append_right (by rw [marksKs_len, List.length_take]; omega), marksKs_len, List.length_take, List.getElem?_drop]
  congr 2
  omega
theorem marksKs_snoc : ∀ (L : List KV) (K i : Nat), i < L.length → marksKs K (L.take (i + 1)) = marksKs K (L.take i) ++ [markKV (lastKs K (L.take i)) (L.getD i kv0)]
  | [], _, _, h => by simp at h
  | x :: xs, K, 0, _ => by simp [marksKs, lastKs]
  | x :: xs, K, i + 1, h => by
    have := marksKs_snoc xs (nextK K x.key.val) i (by simpa using h)
    simpa [marksKs, lastKs] using this
theorem halfK_next (K : Nat) (L : List KV) (i : Nat) (h : i < L.length) : halfK K L (i + 1) = (halfK K L i).set i (markKV (lastKs K (L.take i)) (L.getD i kv0)) := by
  unfold halfK
  have hl : (marksKs K (L.take i)).length = i := by rw [marksKs_len, List.length_take]; omega
  rw [marksKs_snoc L K i h, List.drop_eq_getElem_cons h, List.set_append_right _ _ (by omega), hl, Nat.sub_self, List.set_cons_zero, List.append_assoc]
  rfl

/-- The row of keys holds the keys L. -/
def PreK (D : Array Value) (L : List KV) : Prop := ∀ i, i < L.length → ∀ j, j < 7 → D[i * 7 + j]? = (kvC (L.getD i kv0))[j]?

theorem preK_own {w : World} {B g cap : Nat} {D : Array Value} {L : List KV} (h : RowAt w g 47 D) (hD : D.size = cap * 7) (hp : PreK D L) (hc : L.length ≤ cap) (hm : cap ≤ maxLen) (hB : B ≤ g) : OwnK w B (.slice (some ⟨g, 0, none⟩) L.length cap) L := by
  refine ⟨by rw [flatK_len], .inr ⟨g, cap, D, rfl, hB, h, hc, hm, hD, ?_⟩⟩
  apply List.ext_getElem?
  intro j
  by_cases hj : j < L.length * 7
  · rw [List.getElem?_take, if_pos hj, Array.getElem?_toList]
    have e := hp (j / 7) (by omega) (j % 7) (by omega)
    have e2 := flatK_at L (j / 7) (j % 7) (by omega) (by omega)
    rw [show j / 7 * 7 + j % 7 = j from by omega] at e e2
    rw [e, e2]
  · rw [List.getElem?_take, if_neg hj, List.getElem?_eq_none (by rw [flatK_len]; omega)]

theorem ownK_row {w : World} {B : Nat} {v : Value} {L : List KV} (h : OwnK w B v L) (h0 : 0 < L.length) : ∃ g cap D, v = .slice (some ⟨g, 0, none⟩) L.length cap ∧ B ≤ g ∧ RowAt w g 47 D ∧ D.size = cap * 7 ∧ PreK D L ∧ L.length ≤ cap ∧ cap ≤ maxLen := by
  obtain ⟨hxl, ⟨rfl, hz⟩ | ⟨g, cap, cur, rfl, hg, hh, hcap, hmax, hcs, htk⟩⟩ := h
  · omega
  · refine ⟨g, cap, cur, rfl, hg, hh, hcs, fun i hi j hj => ?_, hcap, hmax⟩
    rw [← flatK_at L i j hi hj, ← htk, List.getElem?_take, if_pos (by omega), Array.getElem?_toList]

theorem preK_set {D : Array Value} {M : List KV} {m : Nat} {x y : KV} (hp : PreK D M) (hm : m < M.length) (hD : m * 7 + 6 < D.size) (hx : M.getD m kv0 = x) (e1 : y.vi = x.vi) (e2 : y.vp = x.vp) (e3 : y.vr = x.vr) :
    PreK ((((D.setIfInBounds (m * 7) (.string y.key.name)).setIfInBounds (m * 7 + 1) (.int .i64 y.key.val.kind)).setIfInBounds (m * 7 + 2) (.string y.key.val.text)).setIfInBounds (m * 7 + 6) (.int .i64 y.key.due)) (M.set m y) := by
  intro i hi j hj
  rw [List.length_set] at hi
  have hpi := hp i hi j hj
  by_cases e : i = m
  · subst e
    rw [show (M.set i y).getD i kv0 = y by rw [List.getD_eq_getElem?_getD, List.getElem?_set_self hi]; rfl]
    rw [hx] at hpi
    have h7 : j = 0 ∨ j = 1 ∨ j = 2 ∨ j = 3 ∨ j = 4 ∨ j = 5 ∨ j = 6 := by omega
    rcases h7 with rfl | rfl | rfl | rfl | rfl | rfl | rfl
    · rw [Array.getElem?_setIfInBounds_ne (by omega), Array.getElem?_setIfInBounds_ne (by omega), Array.getElem?_setIfInBounds_ne (by omega), Nat.add_zero, Array.getElem?_setIfInBounds_self_of_lt (by omega)]
      rfl
    · rw [Array.getElem?_setIfInBounds_ne (by omega), Array.getElem?_setIfInBounds_ne (by omega), Array.getElem?_setIfInBounds_self_of_lt (by simp only [Array.size_setIfInBounds]; omega)]
      rfl
    · rw [Array.getElem?_setIfInBounds_ne (by omega), Array.getElem?_setIfInBounds_self_of_lt (by simp only [Array.size_setIfInBounds]; omega)]
      rfl
    · rw [Array.getElem?_setIfInBounds_ne (by omega), Array.getElem?_setIfInBounds_ne (by omega), Array.getElem?_setIfInBounds_ne (by omega), Array.getElem?_setIfInBounds_ne (by omega), hpi]
      show some x.vi = some y.vi
      rw [e1]
    · rw [Array.getElem?_setIfInBounds_ne (by omega), Array.getElem?_setIfInBounds_ne (by omega), Array.getElem?_setIfInBounds_ne (by omega), Array.getElem?_setIfInBounds_ne (by omega), hpi]
      show some x.vp = some y.vp
      rw [e2]
    · rw [Array.getElem?_setIfInBounds_ne (by omega), Array.getElem?_setIfInBounds_ne (by omega), Array.getElem?_setIfInBounds_ne (by omega), Array.getElem?_setIfInBounds_ne (by omega), hpi]
      show some x.vr = some y.vr
      rw [e3]
    · rw [Array.getElem?_setIfInBounds_self_of_lt (by simp only [Array.size_setIfInBounds]; omega)]
      rfl
  · rw [show (M.set m y).getD i kv0 = M.getD i kv0 by rw [List.getD_eq_getElem?_getD, List.getD_eq_getElem?_getD, List.getElem?_set_ne (fun h => e h.symm)]]
    rw [Array.getElem?_setIfInBounds_ne (by omega), Array.getElem?_setIfInBounds_ne (by omega), Array.getElem?_setIfInBounds_ne (by omega), Array.getElem?_setIfInBounds_ne (by omega), hpi]

/-- While the key m is marked. -/
structure RoundI (w W : World) (B g : Nat) (β : Nat → Nat) (M : List KV) (m : Nat) (D : Array Value) (v : Vl) (vi vp vr : Value) : Prop where
  row : RowAt W g 47 D
  own : VOwn W (β m) v vi vp vr
  oth : ∀ i, i < M.length → i ≠ m → VOwn W (β i) (M.getD i kv0).key.val (M.getD i kv0).vi (M.getD i kv0).vp (M.getD i kv0).vr
  bel : Below B w W

structure Stat (B g : Nat) (β : Nat → Nat) (M : List KV) (m : Nat) (vi vp vr : Value) : Prop where
  hg : B ≤ g
  lo : B ≤ β m
  u1 : ∀ k, vi.ownBlock = some k → k < β (m + 1)
  u2 : ∀ k, vp.ownBlock = some k → k < β (m + 1)
  u3 : ∀ k, vr.ownBlock = some k → k < β (m + 1)
  ot : ∀ i, i < M.length → i ≠ m → ∀ k, ((M.getD i kv0).vi.ownBlock = some k ∨ (M.getD i kv0).vp.ownBlock = some k ∨ (M.getD i kv0).vr.ownBlock = some k) → β i ≤ k → k < β m ∨ β (m + 1) ≤ k

theorem Rising.stat {w : World} {B N g m : Nat} {M : List KV} {β : Nat → Nat} {x : KV} (h : Rising w B M N β) (hg : B ≤ g) (hm : m < M.length) (hx : M.getD m kv0 = x) : Stat B g β M m x.vi x.vp x.vr := by
  subst hx
  refine ⟨hg, h.low m (by omega), h.lt1 m hm, h.lt2 m hm, h.lt3 m hm, fun i hi hne k hk hb => ?_⟩
  by_cases hlt : i < m
  · have h1 := h.mono (i + 1) m (by omega) (by omega)
    rcases hk with hk | hk | hk
    · have := h.lt1 i hi k hk; omega
    · have := h.lt2 i hi k hk; omega
    · have := h.lt3 i hi k hk; omega
  · have h1 := h.mono (m + 1) i (by omega) (by omega)
    omega

theorem RoundI.below {w W W' : World} {B g m : Nat} {β : Nat → Nat} {M : List KV} {D : Array Value} {v : Vl} {vi vp vr : Value} (h : RoundI w W B g β M m D v vi vp vr) (hB : B ≤ w.heap.size) (hb : Below W.heap.size W W') : RoundI w W' B g β M m D v vi vp vr :=
  ⟨h.row.below hb h.row.lt, h.own.below hb, fun i hi hne => (h.oth i hi hne).below hb, h.bel.trans (hb.mono (Nat.le_trans hB h.bel.size))⟩

theorem set_kept {W : World} {g j : Nat} {D : Array Value} (u : Value) (hr : RowAt W g 47 D) : ∀ k e C, e ≠ 47 → RowAt W k e C → (W.setCell ⟨g, j, none⟩ u).heap[k]? = W.heap[k]? := fun k e C he hC => by
  refine Below.heap_setCell _ _ _ _ fun hk => ?_
  have : k = g := by simpa using hk
  subst this
  exact he (Hp.row_type hC hr)

theorem RoundI.set {w W : World} {B g m : Nat} {β : Nat → Nat} {M : List KV} {D : Array Value} {v : Vl} {vi vp vr : Value} (h : RoundI w W B g β M m D v vi vp vr) (hs : Stat B g β M m vi vp vr) (j : Nat) (u : Value) : RoundI w (W.setCell ⟨g, j, none⟩ u) B g β M m (D.setIfInBounds j u) v vi vp vr :=
  ⟨h.row.set j u, vown_kept h.own (set_kept u h.row), fun i hi hne => vown_kept (h.oth i hi hne) (set_kept u h.row), h.bel.setCell hs.hg u⟩

theorem RoundI.turn {w W W' : World} {B g m : Nat} {β : Nat → Nat} {M : List KV} {D : Array Value} {v v' : Vl} {vi vp vr u : Value} {e : TypeId} {size n : Nat} {xs : List Value} (h : RoundI w W B g β M m D v vi vp vr) (hs : Stat B g β M m vi vp vr) (hB : B ≤ w.heap.size) (hu : W.ownsRow (β m) e size u n xs) (he : e ≠ 47) (hlt : ∀ k, u.ownBlock = some k → k < β (m + 1)) (hg : W.grownBy W' u.ownBlock) (ho : VOwn W' (β m) v' vi vp vr) : RoundI w W' B g β M m D v' vi vp vr := by
  have hlo := hs.lo
  refine ⟨(hg.block g h.row.lt fun ee => ?_).trans h.row, ho, fun i hi hne => ?_, ?_⟩
  · obtain ⟨C, hC⟩ := own_type hu ee.symm
    exact he (Hp.row_type hC h.row)
  · have hk : ∀ k, ((M.getD i kv0).vi.ownBlock = some k ∨ (M.getD i kv0).vp.ownBlock = some k ∨ (M.getD i kv0).vr.ownBlock = some k) → β i ≤ k → k < W.heap.size → W'.heap[k]? = W.heap[k]? := fun k hk hb hl => by
      refine hg.block k hl fun ee => ?_
      have h1 := (own_lt hu ee.symm).1
      have h2 := hlt k ee.symm
      rcases hs.ot i hi hne k hk hb with h3 | h3 <;> omega
    have hv := h.oth i hi hne
    exact ⟨owns_block hv.items fun k e => hk k (.inl e) (own_lt hv.items e).1 (own_lt hv.items e).2, owns_block hv.pairs fun k e => hk k (.inr (.inl e)) (own_lt hv.pairs e).1 (own_lt hv.pairs e).2, owns_block hv.ranks fun k e => hk k (.inr (.inr e)) (own_lt hv.ranks e).1 (own_lt hv.ranks e).2⟩
  · exact h.bel.grown hg (Nat.le_trans hB h.bel.size) fun k e => by have := (own_lt hu e).1; omega

theorem keep_type {W W' : World} {B B' : Nat} {e e' : TypeId} {size size' n n' : Nat} {u v : Value} {xs ys : List Value} (h : W.ownsRow B e size v n xs) (hu : W.ownsRow B' e' size' u n' ys) (he : e ≠ e') (hg : W.grownBy W' u.ownBlock) : W'.ownsRow B e size v n xs :=
  owns_block h fun k hk => hg.block k (own_lt h hk).2 fun ee => by
    obtain ⟨C, hC⟩ := own_type h hk
    obtain ⟨D, hD⟩ := own_type hu ee.symm
    exact he (Hp.row_type hC hD)

/-- The key m is marked: the keys again. -/
theorem RoundI.done {w w0 W : World} {B g m N : Nat} {β : Nat → Nat} {M : List KV} {D : Array Value} {y : KV} (h : RoundI w W B g β M m D y.key.val y.vi y.vp y.vr) (h0 : Rising w0 B M N β) (hm : m < M.length) (e1 : y.vi = (M.getD m kv0).vi) (e2 : y.vp = (M.getD m kv0).vp) (e3 : y.vr = (M.getD m kv0).vr) : Rising W B (M.set m y) N β := by
  have hl : (M.set m y).length = M.length := List.length_set
  have g1 : ∀ i, i ≠ m → (M.set m y).getD i kv0 = M.getD i kv0 := fun i hi => by rw [List.getD_eq_getElem?_getD, List.getD_eq_getElem?_getD, List.getElem?_set_ne (fun h => hi h.symm)]
  have g2 : (M.set m y).getD m kv0 = y := by rw [List.getD_eq_getElem?_getD, List.getElem?_set_self hm]; rfl
  refine ⟨fun i hi => h0.low i (by omega), fun i j hij hj => h0.mono i j hij (by omega), by rw [hl]; exact h0.top, fun i hi => ?_, fun i hi k hk => ?_, fun i hi k hk => ?_, fun i hi k hk => ?_⟩
  · by_cases e : i = m
    · subst e; rw [g2]; exact h.own
    · rw [g1 i e]; exact h.oth i (by omega) e
  · by_cases e : i = m
    · subst e; rw [g2, e1] at hk; exact h0.lt1 i (by omega) k hk
    · rw [g1 i e] at hk; exact h0.lt1 i (by omega) k hk
  · by_cases e : i = m
    · subst e; rw [g2, e2] at hk; exact h0.lt2 i (by omega) k hk
    · rw [g1 i e] at hk; exact h0.lt2 i (by omega) k hk
  · by_cases e : i = m
    · subst e; rw [g2, e3] at hk; exact h0.lt3 i (by omega) k hk
    · rw [g1 i e] at hk; exact h0.lt3 i (by omega) k hk
end Go.Proofs.YtapdoechmnjaeaaGreatDoor

namespace Go.Proofs.YtapdoechmnjaeaaGreatDoor
open Go.RowKit Go.Sort
open Kk (Rk rk0 texL texR decS scoreB rightB ranksB OwnR flatR encR markB RanksIn)

set_option maxHeartbeats 4000000 in
set_option maxRecDepth 100000 in
theorem markKeys_walk (g cap n B N : Nat) (β : Nat → Nat) (L : List KV) (w : World) (D0 : Array Value) (hL : L.length = n) (h1 : RowAt w g 47 D0) (hD0 : D0.size = cap * 7) (hp : PreK D0 L) (hr : Rising w B L N β) (hc : n ≤ cap) (hg : B ≤ g) (hB : B ≤ w.heap.size) (hn : n ≤ 20) (hsm : ∀ i, i < n → One (L.getD i kv0).key.val) :
    Calls Tryz.prog 22 #[.slice (some ⟨g, 0, none⟩) n cap, .int .i64 1] w fun e w' => e = .returned (.int .i64 (lastKs 1 L : Nat)) ∧ (∃ D, D.size = cap * 7 ∧ RowAt w' g 47 D ∧ PreK D (marksKs 1 L)) ∧ Rising w' B (marksKs 1 L) N β ∧ Below B w w' := by
  have HL : Hid (L.length = n) := hL
  have HSM : Hid (∀ i, i < n → One (L.getD i kv0).key.val) := hsm
  have H0 : Hid (D0.size = cap * 7 ∧ RowAt w g 47 D0 ∧ PreK D0 (halfK 1 L 0) ∧ Rising w B (halfK 1 L 0) N β) := by unfold Hid; rw [halfK_zero]; exact ⟨hD0, h1, hp, hr⟩
  clear hL hD0 h1 hp hr hsm
  go_enter Tryz.func22, Tryz.ntmps22
  go_wp2
  go_loopw [1, 5] (fun kv i wr => ∃ (k K : Nat) (D : Array Value), k ≤ n ∧ i = .int .i64 k ∧ kv = .int .i64 K ∧ 1 ≤ K ∧ K ≤ 1 + k * 6000 ∧ Hid (K = lastKs 1 (L.take k)) ∧ Hid (D.size = cap * 7 ∧ RowAt wr g 47 D ∧ PreK D (halfK 1 L k) ∧ Rising wr B (halfK 1 L k) N β) ∧ Hid (Below B w wr)) (fun _ i _ => n - (intOf i).toNat)
  case atStart => exact ⟨0, 1, D0, by omega, rfl, rfl, by omega, by omega, rfl, H0, Below.refl _ _⟩
  case round =>
    obtain ⟨k, K, D, hk, rfl, rfl, hK1, hK2, hKe, hS, hbel⟩ := hrel
    by_cases hlt : k < n
    · obtain ⟨hDs, hrow, hpre, hris⟩ := hS.out
      have hMl : (halfK 1 L k).length = n := (halfK_len 1 L k (by rw [HL.out]; exact hk)).trans HL.out
      have hMx : (halfK 1 L k).getD k kv0 = L.getD k kv0 := halfK_at 1 L k (by rw [HL.out]; exact hlt)
      have hNX : halfK 1 L (k + 1) = (halfK 1 L k).set k (markKV K (L.getD k kv0)) := by rw [hKe.out]; exact halfK_next 1 L k (by rw [HL.out]; exact hlt)
      have hLX : lastKs 1 (L.take (k + 1)) = nextK K (L.getD k kv0).key.val := by rw [hKe.out]; exact lastKs_succ L 1 k (by rw [HL.out]; exact hlt)
      have hone := HSM.out k hlt
      have hst := hris.stat hg (by rw [hMl]; exact hlt) hMx
      have R0 : RoundI w wr B g β (halfK 1 L k) k D (L.getD k kv0).key.val (L.getD k kv0).vi (L.getD k kv0).vp (L.getD k kv0).vr := ⟨hrow, by have := hris.own k (by rw [hMl]; exact hlt); rw [hMx] at this; exact this, fun i hi _ => hris.own i hi, hbel.out⟩
      have hpc := hpre k (by rw [hMl]; exact hlt)
      have hFIN : ∀ W D', D' = ((((D.setIfInBounds (k * 7) (.string (markB K))).setIfInBounds (k * 7 + 1) (.int .i64 ((K + 1 : Nat) : Int))).setIfInBounds (k * 7 + 2) (.string (markB (K + 2)))).setIfInBounds (k * 7 + 6) (.int .i64 ((K + 3 + (L.getD k kv0).key.val.items.length + 2 * (L.getD k kv0).key.val.pairs.length + 2 * (L.getD k kv0).key.val.ranks.length : Nat) : Int))) → RoundI w W B g β (halfK 1 L k) k D' (markVl K (L.getD k kv0).key.val) (L.getD k kv0).vi (L.getD k kv0).vp (L.getD k kv0).vr → D'.size = cap * 7 ∧ RowAt W g 47 D' ∧ PreK D' (halfK 1 L (k + 1)) ∧ Rising W B (halfK 1 L (k + 1)) N β := fun W D' hD' hR => by
        subst hD'
        refine ⟨by simp only [Array.size_setIfInBounds]; exact hDs, hR.row, ?_, ?_⟩
        · rw [hNX]
          exact preK_set (y := markKV K (L.getD k kv0)) hpre (by rw [hMl]; exact hlt) (by rw [hDs]; omega) hMx rfl rfl rfl
        · rw [hNX]
          exact RoundI.done (y := markKV K (L.getD k kv0)) hR hris (by rw [hMl]; exact hlt) (by rw [hMx]; rfl) (by rw [hMx]; rfl) (by rw [hMx]; rfl)
      rw [hMx] at hpc
      have HFIN : Hid _ := hFIN
      have HST : Hid _ := hst
      have HLX : Hid (lastKs 1 (L.take (k + 1)) = nextK K (L.getD k kv0).key.val) := hLX
      have hDz : k * 7 + 6 < D.size := by rw [hDs]; omega
      have hcell : ∀ j, j < 7 → D[k * 7 + j]? = (kvC (L.getD k kv0))[j]? := hpc
      clear hS hris hpre hNX hLX hFIN hst hMx hpc hbel
      generalize halfK 1 L k = M at *
      generalize L.getD k kv0 = x at *
      obtain ⟨n1, n2, n3, _, _⟩ := hone
      have d3 : D[k * 7 + 3]? = some x.vi := hcell 3 (by omega)
      have d4 : D[k * 7 + 4]? = some x.vp := hcell 4 (by omega)
      have d5 : D[k * 7 + 5]? = some x.vr := hcell 5 (by omega)
      clear hcell
      have hKb : K ≤ 130000 := by omega
      have cM := Kk.mark_any K wr (by omega) (by omega)
      have HM : Hid (Calls Tryz.prog 56 #[.int .i64 K] wr fun e w' => e = .returned (.string (markB K)) ∧ Below wr.heap.size wr w') := cM
      have HN : Hid (∀ W, Calls Tryz.prog 56 #[.int .i64 ((K : Int) + 1 + 1)] W fun e w' => e = .returned (.string (markB (K + 2))) ∧ Below W.heap.size W w') := fun W => Kk.mark_any (K + 2) W (by omega) (by omega)
      have HR0 : Hid (RoundI w wr B g β M k D x.key.val x.vi x.vp x.vr) := R0
      clear cM R0
      -- the name
      go_wp2_with fail
      refine HM.out.mono ?_
      rintro e w1 ⟨rfl, b1⟩
      have R1 := HR0.out.below hB b1
      have r1 := R1.row
      have t0 : w1.cell? ⟨g, k * 7, none⟩ = some (D[k * 7]'(by omega)) := by rw [r1.cell]; simp
      have f0 := r1.frozen (k * 7)
      have R2 := R1.set HST.out (k * 7) (.string (markB K))
      have r2 := R2.row
      have t1 : (w1.setCell ⟨g, k * 7, none⟩ (.string (markB K))).cell? ⟨g, k * 7 + 1, none⟩ = some (D[k * 7 + 1]'(by omega)) := by rw [r2.cell, Array.getElem?_setIfInBounds_ne (by omega)]; simp
      have f1 := r2.frozen (k * 7 + 1)
      have R3 := R2.set HST.out (k * 7 + 1) (.int .i64 ((K : Int) + 1))
      have HR3 : Hid (RoundI w ((w1.setCell ⟨g, k * 7, none⟩ (.string (markB K))).setCell ⟨g, k * 7 + 1, none⟩ (.int .i64 ((K : Int) + 1))) B g β M k ((D.setIfInBounds (k * 7) (.string (markB K))).setIfInBounds (k * 7 + 1) (.int .i64 ((K : Int) + 1))) x.key.val x.vi x.vp x.vr) := R3
      generalize D[k * 7]'(by omega) = y0 at *
      generalize D[k * 7 + 1]'(by omega) = y1 at *
      clear HR0 R1 R2 R3 r1 r2 b1 HM hrow
      -- kind and text
      go_wp2_with fail
      refine (HN.out _).mono ?_
      rintro e w3 ⟨rfl, b3⟩
      have R4 := HR3.out.below hB b3
      have r4 := R4.row
      have t2 : w3.cell? ⟨g, k * 7 + 2, none⟩ = some (D[k * 7 + 2]'(by omega)) := by rw [r4.cell, Array.getElem?_setIfInBounds_ne (by omega), Array.getElem?_setIfInBounds_ne (by omega)]; simp
      have f2 := r4.frozen (k * 7 + 2)
      have R5 := R4.set HST.out (k * 7 + 2) (.string (markB (K + 2)))
      have r5 := R5.row
      have t3 : (w3.setCell ⟨g, k * 7 + 2, none⟩ (.string (markB (K + 2)))).cell? ⟨g, k * 7 + 3, none⟩ = some x.vi := by rw [r5.cell, Array.getElem?_setIfInBounds_ne (by omega), Array.getElem?_setIfInBounds_ne (by omega), Array.getElem?_setIfInBounds_ne (by omega)]; exact d3
      have HR5 : Hid (RoundI w (w3.setCell ⟨g, k * 7 + 2, none⟩ (.string (markB (K + 2)))) B g β M k (((D.setIfInBounds (k * 7) (.string (markB K))).setIfInBounds (k * 7 + 1) (.int .i64 ((K : Int) + 1))).setIfInBounds (k * 7 + 2) (.string (markB (K + 2)))) x.key.val x.vi x.vp x.vr) := R5
      have HS1 : Hid (Calls Tryz.prog 57 #[x.vi, .int .i64 ((K : Int) + 1 + 1 + 1)] (w3.setCell ⟨g, k * 7 + 2, none⟩ (.string (markB (K + 2)))) fun e w' => e = .returned (.int .i64 (K + 3 + x.key.val.items.length : Nat)) ∧ OwnS w' (β k) x.vi (smarksF (K + 3) x.key.val.items.length) ∧ (w3.setCell ⟨g, k * 7 + 2, none⟩ (.string (markB (K + 2)))).grownBy w' (Value.ownBlock x.vi)) := markS_at (K + 3) (β k) x.vi x.key.val.items _ R5.own.items (by omega) (by omega) (by omega)
      generalize D[k * 7 + 2]'(by omega) = y2 at *
      clear R4 R5 r4 r5 b3 HN HR3 t0 f0 t1 f1
      obtain ⟨D5, hD5⟩ : ∃ D5, ((D.setIfInBounds (k * 7) (.string (markB K))).setIfInBounds (k * 7 + 1) (.int .i64 ((K : Int) + 1))).setIfInBounds (k * 7 + 2) (.string (markB (K + 2))) = D5 := ⟨_, rfl⟩
      have HD5 : Hid (((D.setIfInBounds (k * 7) (.string (markB K))).setIfInBounds (k * 7 + 1) (.int .i64 ((K : Int) + 1))).setIfInBounds (k * 7 + 2) (.string (markB (K + 2))) = D5) := hD5
      have q4 : D5[k * 7 + 4]? = some x.vp := by rw [← hD5, Array.getElem?_setIfInBounds_ne (by omega), Array.getElem?_setIfInBounds_ne (by omega), Array.getElem?_setIfInBounds_ne (by omega)]; exact d4
      have q5 : D5[k * 7 + 5]? = some x.vr := by rw [← hD5, Array.getElem?_setIfInBounds_ne (by omega), Array.getElem?_setIfInBounds_ne (by omega), Array.getElem?_setIfInBounds_ne (by omega)]; exact d5
      have hD5z : k * 7 + 6 < D5.size := by rw [← hD5]; simp only [Array.size_setIfInBounds]; exact hDz
      rw [hD5] at HR5
      clear hD5
      -- the items
      go_wp2_with fail
      refine HS1.out.mono ?_
      rintro e w4 ⟨rfl, o4, g4⟩
      have R6 : RoundI w w4 B g β M k D5 ⟨x.key.val.kind, x.key.val.text, smarksF (K + 3) x.key.val.items.length, x.key.val.pairs, x.key.val.ranks⟩ x.vi x.vp x.vr := HR5.out.turn HST.out hB HR5.out.own.items (by decide) HST.out.u1 g4 ⟨o4, keep_type HR5.out.own.pairs HR5.out.own.items (by decide) g4, keep_type HR5.out.own.ranks HR5.out.own.items (by decide) g4⟩
      have t4 : w4.cell? ⟨g, k * 7 + 4, none⟩ = some x.vp := (R6.row.cell _).trans q4
      have HP1 : Hid (Calls Tryz.prog 58 #[x.vp, .int .i64 (K + 3 + x.key.val.items.length : Nat)] w4 fun e w' => e = .returned (.int .i64 (K + 3 + x.key.val.items.length + 2 * x.key.val.pairs.length : Nat)) ∧ OwnP w' (β k) x.vp (pmarksF (K + 3 + x.key.val.items.length) x.key.val.pairs.length) ∧ w4.grownBy w' (Value.ownBlock x.vp)) := markP_at (K + 3 + x.key.val.items.length) (β k) x.vp x.key.val.pairs w4 R6.own.pairs (by omega) (by omega) (by omega)
      have HR6 : Hid (RoundI w w4 B g β M k D5 ⟨x.key.val.kind, x.key.val.text, smarksF (K + 3) x.key.val.items.length, x.key.val.pairs, x.key.val.ranks⟩ x.vi x.vp x.vr) := R6
      clear R6 o4 g4 HS1 HR5 t2 f2 t3
      -- the pairs
      go_wp2_with fail
      refine HP1.out.mono ?_
      rintro e w5 ⟨rfl, o5, g5⟩
      have R7 : RoundI w w5 B g β M k D5 ⟨x.key.val.kind, x.key.val.text, smarksF (K + 3) x.key.val.items.length, pmarksF (K + 3 + x.key.val.items.length) x.key.val.pairs.length, x.key.val.ranks⟩ x.vi x.vp x.vr := HR6.out.turn HST.out hB HR6.out.own.pairs (by decide) HST.out.u2 g5 ⟨keep_type HR6.out.own.items HR6.out.own.pairs (by decide) g5, o5, keep_type HR6.out.own.ranks HR6.out.own.pairs (by decide) g5⟩
      have t5 : w5.cell? ⟨g, k * 7 + 5, none⟩ = some x.vr := (R7.row.cell _).trans q5
      have HQ1 : Hid (Calls Tryz.prog 59 #[x.vr, .int .i64 (K + 3 + x.key.val.items.length + 2 * x.key.val.pairs.length : Nat)] w5 fun e w' => e = .returned (.int .i64 (K + 3 + x.key.val.items.length + 2 * x.key.val.pairs.length + 2 * x.key.val.ranks.length : Nat)) ∧ OwnR w' (β k) x.vr (Kk.marks (K + 3 + x.key.val.items.length + 2 * x.key.val.pairs.length) x.key.val.ranks.length) ∧ w5.grownBy w' (Value.ownBlock x.vr)) := Kk.markR_at (K + 3 + x.key.val.items.length + 2 * x.key.val.pairs.length) (β k) x.vr x.key.val.ranks w5 R7.own.ranks (by omega) (by omega) (by omega)
      have HR7 : Hid (RoundI w w5 B g β M k D5 ⟨x.key.val.kind, x.key.val.text, smarksF (K + 3) x.key.val.items.length, pmarksF (K + 3 + x.key.val.items.length) x.key.val.pairs.length, x.key.val.ranks⟩ x.vi x.vp x.vr) := R7
      clear R7 o5 g5 HP1 HR6 t4
      -- the ranks
      go_wp2_with fail
      refine HQ1.out.mono ?_
      rintro e w6 ⟨rfl, o6, g6⟩
      have R8 : RoundI w w6 B g β M k D5 (markVl K x.key.val) x.vi x.vp x.vr := HR7.out.turn HST.out hB HR7.out.own.ranks (by decide) HST.out.u3 g6 ⟨keep_type HR7.out.own.items HR7.out.own.ranks (by decide) g6, keep_type HR7.out.own.pairs HR7.out.own.ranks (by decide) g6, o6⟩
      have r8 := R8.row
      have t6 : w6.cell? ⟨g, k * 7 + 6, none⟩ = some (D5[k * 7 + 6]'(by omega)) := by rw [r8.cell]; simp
      have f6 := r8.frozen (k * 7 + 6)
      have R9 := R8.set HST.out (k * 7 + 6) (.int .i64 ((K + 3 + x.key.val.items.length + 2 * x.key.val.pairs.length + 2 * x.key.val.ranks.length : Nat) : Int))
      have HF : Hid _ := HFIN.out _ _ (by rw [← HD5.out]; rfl) R9
      have HBL : Hid (Below B w (w6.setCell ⟨g, k * 7 + 6, none⟩ (.int .i64 ((K + 3 + x.key.val.items.length + 2 * x.key.val.pairs.length + 2 * x.key.val.ranks.length : Nat) : Int)))) := R9.bel
      have HLX2 : Hid (lastKs 1 (L.take (k + 1)) = K + 3 + x.key.val.items.length + 2 * x.key.val.pairs.length + 2 * x.key.val.ranks.length + 1) := by unfold Hid; rw [HLX.out]; unfold nextK; omega
      obtain ⟨K6, hK6⟩ : ∃ K6, K + 3 + x.key.val.items.length + 2 * x.key.val.pairs.length + 2 * x.key.val.ranks.length = K6 := ⟨_, rfl⟩
      have hKb6 : K6 ≤ 1 + (k + 1) * 6000 - 1 := by omega
      have hKc6 : 1 ≤ K6 := by omega
      have hKd6 : K6 ≤ 200000 := by omega
      generalize D5[k * 7 + 6]'(by omega) = y6 at *
      rw [hK6] at HF HBL HLX2 ⊢
      clear R8 R9 r8 o6 g6 HQ1 HR7 t5 HFIN HST HLX HD5 hK6 q4 q5 d3 d4 d5 n1 n2 n3 hKb
      go_wp2
      go_roundw
      case rel => exact ⟨k + 1, K6 + 1, _, by omega, by go_num, by go_num, by omega, by omega, HLX2.out.symm, HF.out, HBL.out⟩
      case measure => simp [intOf]; omega
    · obtain rfl : k = n := by omega
      have e1 : L.take k = L := List.take_of_length_le (by rw [HL.out]; exact Nat.le_refl _)
      have HE : Hid (K = lastKs 1 L) := by have := hKe.out; rw [e1] at this; exact this
      have HF : Hid ((∃ D, D.size = cap * 7 ∧ RowAt wr g 47 D ∧ PreK D (marksKs 1 L)) ∧ Rising wr B (marksKs 1 L) N β) := by
        have h := hS.out
        rw [show halfK 1 L k = marksKs 1 L by rw [← HL.out]; exact halfK_all 1 L] at h
        exact ⟨⟨D, h.1, h.2.1, h.2.2.1⟩, h.2.2.2⟩
      clear hS e1 hKe
      go_wp2
      go_ret
      exact ⟨ret_int (by rw [HE.out]), HF.out.1, HF.out.2, hbel.out⟩
end Go.Proofs.YtapdoechmnjaeaaGreatDoor

namespace Go.Proofs.YtapdoechmnjaeaaGreatDoor
open Go.RowKit Go.Sort
open Kk (Rk rk0 texL texR decS scoreB rightB ranksB OwnR flatR encR markB RanksIn)

set_option maxHeartbeats 4000000 in
set_option maxRecDepth 100000 in
theorem heldKeys_any (a : Option Addr) (A n c : Nat) (L : List KV) (w : World) (hL : L.length = n) (h : DbRd w a A n (marksKs 1 L)) (hn : n ≤ 20) (hsm : ∀ i, i < n → One (L.getD i kv0).key.val) :
    Calls Tryz.prog 23 #[.slice a n c, .int .i64 1] w fun e w' => e = .returned (.int .i64 (lastKs 1 L : Nat)) ∧ Below w.heap.size w w' := by
  have HL : Hid (L.length = n) := hL
  have HSM : Hid (∀ i, i < n → One (L.getD i kv0).key.val) := hsm
  have H : Hid (DbRd w a A n (marksKs 1 L)) := h
  clear hL hsm h
  go_enter Tryz.func23, Tryz.ntmps23
  go_wp2
  go_loopw [1, 5] (fun kv i wr => ∃ (k K : Nat), k ≤ n ∧ i = .int .i64 k ∧ kv = .int .i64 K ∧ 1 ≤ K ∧ K ≤ 1 + k * 6000 ∧ Hid (K = lastKs 1 (L.take k)) ∧ Below w.heap.size w wr) (fun _ i _ => n - (intOf i).toNat)
  case atStart => exact ⟨0, 1, by omega, rfl, rfl, by omega, by omega, rfl, Below.refl _ _⟩
  case round =>
    obtain ⟨k, K, hk, rfl, rfl, hK1, hK2, hKe, bk⟩ := hrel
    have sk := bk.size
    by_cases hlt : k < n
    · have HW := H.out.below bk
      have hx := HW.ks.cell k hlt
      have hv := HW.val k hlt
      have hlow := HW.ks.low (by omega)
      obtain rfl := HW.ks.addr (by omega)
      rw [marksKs_at L 1 k (by rw [HL.out]; exact hlt), ← hKe.out] at hx hv
      have HLX : Hid (lastKs 1 (L.take (k + 1)) = nextK K (L.getD k kv0).key.val) := by unfold Hid; rw [hKe.out]; exact lastKs_succ L 1 k (by rw [HL.out]; exact hlt)
      obtain ⟨n1, n2, n3, _, _⟩ := HSM.out k hlt
      clear HW hKe
      generalize L.getD k kv0 = x at *
      obtain ⟨kx, vi, vp, vr⟩ := x
      dsimp only at n1 n2 n3
      have hv' : VAt wr (markVl K kx.val) vi vp vr := hv
      clear hv
      obtain ⟨⟨a1, A1, c1, e1, q1⟩, ⟨a2, A2, c2, e2, q2⟩, ⟨a3, A3, c3, e3, q3⟩⟩ := hv'
      have l1 : (markVl K kx.val).items.length = kx.val.items.length := smarksF_len _ _
      have l2 : (markVl K kx.val).pairs.length = kx.val.pairs.length := pmarksF_len _ _
      have l3 : (markVl K kx.val).ranks.length = kx.val.ranks.length := Kk.marks_len _ _
      rw [l1] at e1 q1
      rw [l2] at e2 q2
      rw [l3] at e3 q3
      subst e1 e2 e3
      have hat : ∀ W, Below wr.heap.size wr W → KeAt W A (k * 7) (markKV K ⟨kx, .slice a1 kx.val.items.length c1, .slice a2 kx.val.pairs.length c2, .slice a3 kx.val.ranks.length c3⟩) := fun W hb => ke_below hx hlow hb
      have HAT : Hid _ := hat
      have hKb : K ≤ 130000 := by omega
      have HS1 : Hid (∀ W, Below wr.heap.size wr W → Calls Tryz.prog 60 #[.slice a1 kx.val.items.length c1, .int .i64 ((K : Int) + 1 + 1 + 1)] W fun e w' => e = .returned (.int .i64 (K + 3 + kx.val.items.length : Nat)) ∧ Below W.heap.size W w') := fun W hb => heldS_at (K + 3) a1 A1 kx.val.items.length c1 W (strs_below q1 hb) (by omega) (by omega) (by omega)
      have HP1 : Hid (∀ W, Below wr.heap.size wr W → Calls Tryz.prog 61 #[.slice a2 kx.val.pairs.length c2, .int .i64 (K + 3 + kx.val.items.length : Nat)] W fun e w' => e = .returned (.int .i64 (K + 3 + kx.val.items.length + 2 * kx.val.pairs.length : Nat)) ∧ Below W.heap.size W w') := fun W hb => heldP_at (K + 3 + kx.val.items.length) a2 A2 kx.val.pairs.length c2 W (q2.below hb) (by omega) (by omega) (by omega)
      have HQ1 : Hid (∀ W, Below wr.heap.size wr W → Calls Tryz.prog 62 #[.slice a3 kx.val.ranks.length c3, .int .i64 (K + 3 + kx.val.items.length + 2 * kx.val.pairs.length : Nat)] W fun e w' => e = .returned (.int .i64 (K + 3 + kx.val.items.length + 2 * kx.val.pairs.length + 2 * kx.val.ranks.length : Nat)) ∧ Below W.heap.size W w') := fun W hb => heldR_at (K + 3 + kx.val.items.length + 2 * kx.val.pairs.length) a3 A3 kx.val.ranks.length c3 W (q3.below hb) (by omega) (by omega) (by omega)
      have cM : ∀ d os, Calls Tryz.prog 56 #[.int .i64 K] (grow (redrawn wr d) os) fun e w'' => e = .returned (.string (markB K)) ∧ ∃ p : Regrown, w'' = grow (redrawn wr p.d) p.os := fun d os => Calls.regrown_of (Kk.mark_any K _ (by omega) (by omega))
      have HN : Hid (∀ W, Calls Tryz.prog 56 #[.int .i64 ((K : Int) + 1 + 1)] W fun e w' => e = .returned (.string (markB (K + 2))) ∧ Below W.heap.size W w') := fun W => Kk.mark_any (K + 2) W (by omega) (by omega)
      have HLX2 : Hid (lastKs 1 (L.take (k + 1)) = K + 3 + kx.val.items.length + 2 * kx.val.pairs.length + 2 * kx.val.ranks.length + 1) := by unfold Hid; rw [HLX.out]; unfold nextK; dsimp only; omega
      have c0 : wr.cell? ⟨A, k * 7, none⟩ = some (.string (markB K)) := hx.c0
      have kc0 := cell_regrown c0
      have hb1 : K + 3 + kx.val.items.length ≤ 200000 := by omega
      have hb2 : K + 3 + kx.val.items.length + 2 * kx.val.pairs.length ≤ 200000 := by omega
      have hb3 : K + 3 + kx.val.items.length + 2 * kx.val.pairs.length + 2 * kx.val.ranks.length ≤ (k + 1) * 6000 := by omega
      have HAC : Hid (∀ W, Below wr.heap.size wr W → W.cell? ⟨A, k * 7 + 1, none⟩ = some (.int .i64 ((K : Int) + 1)) ∧ W.cell? ⟨A, k * 7 + 2, none⟩ = some (.string (markB (K + 2))) ∧ W.cell? ⟨A, k * 7 + 3, none⟩ = some (.slice a1 kx.val.items.length c1) ∧ W.cell? ⟨A, k * 7 + 4, none⟩ = some (.slice a2 kx.val.pairs.length c2) ∧ W.cell? ⟨A, k * 7 + 5, none⟩ = some (.slice a3 kx.val.ranks.length c3) ∧ W.cell? ⟨A, k * 7 + 6, none⟩ = some (.int .i64 (K + 3 + kx.val.items.length + 2 * kx.val.pairs.length + 2 * kx.val.ranks.length : Nat))) := fun W hb => ⟨(hat W hb).c1, (hat W hb).c2, (hat W hb).c3, (hat W hb).c4, (hat W hb).c5, (hat W hb).c6⟩
      clear hx hat HAT q1 q2 q3 l1 l2 l3 c0 HLX n1 n2 n3
      generalize hM3 : K + 3 + kx.val.items.length + 2 * kx.val.pairs.length + 2 * kx.val.ranks.length = M3 at *
      generalize hM2 : K + 3 + kx.val.items.length + 2 * kx.val.pairs.length = M2 at *
      generalize hM1 : K + 3 + kx.val.items.length = M1 at *
      generalize kx.val.items.length = ni at *
      generalize kx.val.pairs.length = np at *
      generalize kx.val.ranks.length = nr at *
      clear hM1 hM2 hM3
      have g1 : decide ((M1 : Int) < 0) = false := by simp
      have g2 : decide ((M2 : Int) < 0) = false := by simp
      have g3 : decide ((M3 : Int) < 0) = false := by simp
      have hk0 : (0 : Int) ≤ (k : Int) := by omega
      have hkn : (k : Int) < (n : Int) := by omega
      generalize markB K = mk at *
      generalize markB (K + 2) = mk2 at *
      -- the name
      go_wp2
      refine wp_region_quiet_below (by kernel_rfl) (by kernel_rfl) ?_
      repeat (first | go_big_quiet_skip | quiet_step (first | with_reducible exact cM _ _))
      refine wpQuiet_nil ?_
      intro _ hw'
      obtain ⟨⟨dq, osq⟩, hw''⟩ := hw'
      subst hw''
      have bq := below_regrown wr dq osq
      generalize grow (redrawn wr dq) osq = wq at *
      have sq := bq.size
      obtain ⟨m1, m2, _, _, _, _⟩ := HAC.out wq bq
      have cN : ∀ d os, Calls Tryz.prog 56 #[.int .i64 ((K : Int) + 1 + 1)] (grow (redrawn wq d) os) fun e w'' => e = .returned (.string mk2) ∧ ∃ p : Regrown, w'' = grow (redrawn wq p.d) p.os := fun d os => Calls.regrown_of (HN.out _)
      have km2 := cell_regrown m2
      clear kc0 cM m2
      -- the kind, the text
      go_wp2
      refine wp_region_quiet_below (by kernel_rfl) (by kernel_rfl) ?_
      repeat (first | go_big_quiet_skip | quiet_step (first | with_reducible exact cN _ _))
      refine wpQuiet_nil ?_
      intro _ hw'
      obtain ⟨⟨dp, osp⟩, hw''⟩ := hw'
      subst hw''
      have bp := below_regrown wq dp osp
      generalize grow (redrawn wq dp) osp = wp at *
      have bwp := bq.trans (bp.mono sq)
      have sp := bwp.size
      obtain ⟨_, _, m3, _, _, _⟩ := HAC.out wp bwp
      clear m1 km2 cN HN
      -- the values' parts
      go_wp2_with fail
      refine (HS1.out wp bwp).mono ?_
      rintro e w1 ⟨rfl, b1⟩
      have bw1 := bwp.trans (b1.mono sp)
      obtain ⟨_, _, _, m4, _, _⟩ := HAC.out w1 bw1
      clear m3 HS1
      go_wp2_with fail
      refine (HP1.out w1 bw1).mono ?_
      rintro e w2 ⟨rfl, b2⟩
      have bw2 := bw1.trans (b2.mono bw1.size)
      obtain ⟨_, _, _, _, m5, _⟩ := HAC.out w2 bw2
      clear m4 HP1
      go_wp2_with fail
      refine (HQ1.out w2 bw2).mono ?_
      rintro e w3 ⟨rfl, b3⟩
      have bw3 := bw2.trans (b3.mono bw2.size)
      obtain ⟨_, _, _, _, _, m6⟩ := HAC.out w3 bw3
      have bend := bk.trans (bw3.mono sk)
      clear m5 HQ1 HAC b1 b2 b3 bp bq
      go_wp2
      go_roundw
      case rel => exact ⟨k + 1, M3 + 1, by omega, by go_num, by go_num, by omega, by omega, HLX2.out.symm, bend⟩
      case measure => simp [intOf]; omega
    · obtain rfl : k = n := by omega
      have e1 : L.take k = L := List.take_of_length_le (by rw [HL.out]; exact Nat.le_refl _)
      have HE : Hid (K = lastKs 1 L) := by have := hKe.out; rw [e1] at this; exact this
      clear e1 hKe
      go_wp2
      go_ret
      exact ⟨ret_int (by rw [HE.out]), bk⟩

theorem markK_nil (a : Option Addr) (c : Nat) (w : World) : Calls Tryz.prog 22 #[.slice a (0 : Nat) c, .int .i64 1] w fun e w' => e = .returned (.int .i64 1) ∧ w' = w := by
  go_enter Tryz.func22, Tryz.ntmps22
  go_wp2
  refine wp_loop_rounds 1 ?_
  rw [rounds_succ]
  go_wp2
  go_ret
  exact ⟨rfl, rfl⟩

theorem smarksF_fit (s0 n : Nat) (hs : s0 ≤ 500000) (hn : n ≤ 1000) : ∀ t ∈ smarksF s0 n, t.size ≤ 1048576 := by
  intro t ht
  unfold smarksF at ht
  obtain ⟨i, hi, rfl⟩ := List.mem_map.1 ht
  have := List.mem_range.1 hi
  exact markB_size _ (by omega)

theorem lastKs_le : ∀ (L : List KV) (K : Nat), (∀ i, i < L.length → One (L.getD i kv0).key.val) → lastKs K L ≤ K + L.length * 6000
  | [], _, _ => by simp [lastKs]
  | x :: xs, K, h => by
    have h0 := h 0 (by simp)
    have := lastKs_le xs (nextK K x.key.val) (fun i hi => by have := h (i + 1) (by simpa using hi); simpa using this)
    have hx : One x.key.val := by simpa using h0
    have e1 := hx.ni
    have e2 := hx.np
    have e3 := hx.nr
    show lastKs (nextK K x.key.val) xs ≤ _
    have e4 : nextK K x.key.val ≤ K + 6000 := by unfold nextK; omega
    rw [List.length_cons]
    omega

/-- Keys that a slice owns are marked: their marks read, and what is older stands. -/
theorem markKeys_any (B : Nat) (v : Value) (L : List KV) (w : World) (h : DbOwn w B v L) (hB : B ≤ w.heap.size) (hs : Small L) (hn : L.length ≤ 20) :
    Calls Tryz.prog 22 #[v, .int .i64 1] w fun e w' => e = .returned (.int .i64 (lastKs 1 L : Nat)) ∧ (∃ a A c, v = .slice a L.length c ∧ DbRd w' a A L.length (marksKs 1 L)) ∧ Below B w w' := by
  have hone : ∀ i, i < L.length → One (L.getD i kv0).key.val := fun i hi => (hs i hi).1.one
  cases hL : L with
  | nil =>
    subst hL
    obtain ⟨a, A, c, e, hk⟩ := ownK_in h.row
    rw [e]
    refine (markK_nil a c w).mono fun en w' ⟨he, hw⟩ => ⟨he, ⟨a, A, c, rfl, ?_⟩, by rw [hw]; exact Below.refl _ _⟩
    rw [hw]
    exact ⟨hk, fun i hi => by simp at hi⟩
  | cons x xs =>
    rw [← hL]
    have h0 : 0 < L.length := by rw [hL]; simp
    obtain ⟨g, cap, D, e, hg, hr, hD, hp, hc, hm⟩ := ownK_row h.row h0
    obtain ⟨β, hri⟩ := h.vals
    rw [e]
    refine (markKeys_walk g cap L.length B w.heap.size β L w D rfl hr hD hp hri hc hg hB hn hone).mono fun en w' ⟨he, ⟨D', hD', hr', hp'⟩, hri', hb⟩ => ⟨he, ⟨_, g, cap, rfl, ?_⟩, hb⟩
    have hml := marksKs_len L 1
    refine ⟨⟨hml, fun _ => rfl, fun _ => hr'.lt, fun i hi => ?_⟩, fun i hi => ?_⟩
    · have e : ∀ j, j < 7 → w'.cell? ⟨g, i * 7 + j, none⟩ = (kvC ((marksKs 1 L).getD i kv0))[j]? := fun j hj => by
        rw [hr'.cell, hp' i (by rw [hml]; exact hi) j hj]
      exact ⟨e 0 (by omega), e 1 (by omega), e 2 (by omega), e 3 (by omega), e 4 (by omega), e 5 (by omega), e 6 (by omega)⟩
    · have hv := hri'.own i (by rw [hml]; exact hi)
      have hK : lastKs 1 (L.take i) ≤ 120001 := by
        have := lastKs_le (L.take i) 1 (fun j hj => by
          rw [List.length_take] at hj
          rw [show (L.take i).getD j kv0 = L.getD j kv0 by rw [List.getD_eq_getElem?_getD, List.getD_eq_getElem?_getD, List.getElem?_take, if_pos (by omega)]]
          exact hone j (by omega))
        have hle : (L.take i).length ≤ 20 := Nat.le_trans (List.length_take_le' _ _) hn
        omega
      refine hv.at ?_
      rw [marksKs_at L 1 i hi]
      exact smarksF_fit _ _ (by omega) (hone i hi).ni
end Go.Proofs.YtapdoechmnjaeaaGreatDoor
