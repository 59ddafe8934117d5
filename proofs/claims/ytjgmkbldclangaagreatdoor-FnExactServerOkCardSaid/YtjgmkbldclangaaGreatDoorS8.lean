/- impl.clientsOk: clients that rise by their numbers, each of them right. -/
import Derived.Test.YtjgmkbldclangaaGreatDoorSB
import Derived.Deep.RegionHeld3
namespace Go.Proofs.YtjgmkbldclangaaGreatDoor
open Go.RowKit Go.Sort
open _root_.Go.Proofs.YtjgmkbldclangaaGreatDoor.Fd (ListsB ListsU SmallQ sessV sessB)

def idB (n : Int) : Bool := decide (1 ≤ n ∧ n ≤ 1000)
def clB (c : Cl) : Bool := idB c.id && sessB c.rest c.multi c.Q c.dirty c.dead
def riC (L : List CV) (i : Nat) : Bool := decide (i = 0) || decide ((L.getD (i - 1) cv0).cl.id < (L.getD i cv0).cl.id)
def kyC (L : List CV) (i : Nat) : Bool := clB (L.getD i cv0).cl
def clsB (L : List CV) : Bool := decide (L.length ≤ 5) && ((List.range L.length).all (riC L) && (List.range L.length).all (kyC L))

theorem fd_ready {w : World} (h : Fd.Ready w) : Ready w := ⟨h.tab, h.syn, h.rng, h.six⟩

def cmpC (x y : CV) : Int := Kk.cmpI x.cl.id y.cl.id
theorem cmpC_less (x y : CV) : decide (cmpC x y < 0) = decide (x.cl.id < y.cl.id) := by
  unfold cmpC Kk.cmpI
  by_cases h : x.cl.id < y.cl.id
  · rw [if_pos h, decide_eq_true h]; rfl
  · rw [if_neg h, decide_eq_false h]
    split <;> rfl

set_option maxHeartbeats 1000000 in
theorem byId_any (x y : CV) (w : World) : Calls Tryz.prog 33 #[cvV x, cvV y] w fun e w' => e = .returned (.int .i64 (cmpC x y)) ∧ Below w.heap.size w w' := by
  have HC : Hid (∀ W, Calls Tryz.prog 49 #[.int .i64 x.cl.id, .int .i64 y.cl.id] W fun e w' => e = .returned (.int .i64 (cmpC x y)) ∧ w' = W) := fun W => Kk.cmpI_any x.cl.id y.cl.id W
  generalize cmpC x y = z at *
  obtain ⟨⟨i1, t1, m1, _, y1, d1⟩, q1⟩ := x
  obtain ⟨⟨i2, t2, m2, _, y2, d2⟩, q2⟩ := y
  have hb : Below w.heap.size w ((w.alloc (.cells #[.int .i64 i1, .string t1, .bool m1, q1, .bool y1, .bool d1] 43)).alloc (.cells #[.int .i64 i2, .string t2, .bool m2, q2, .bool y2, .bool d2] 43)) := ((Below.refl _ _).alloc (Nat.le_refl _) _).alloc (by simp) _
  go_enter Tryz.func33, Tryz.ntmps33
  go_wp2_with fail
  refine (HC.out _).mono ?_
  rintro e w1 ⟨rfl, rfl⟩
  go_wp2
  go_ret
  exact ⟨rfl, hb⟩

set_option maxHeartbeats 4000000 in
set_option maxRecDepth 100000 in
theorem risesC_any (a : Option Addr) (b off n c : Nat) (L : List CV) (w : World) (h : ClsIn w a b off n L) (hn : n ≤ 1048577) :
    Calls Tryz.prog 32 #[.slice a n c, .func (.func 33) #[] #[]] w fun e w' => e = .returned (.bool ((List.range n).all (riC L))) ∧ Below w.heap.size w w' := by
  have H : Hid (ClsIn w a b off n L) := h
  clear h
  go_enter Tryz.func32, Tryz.ntmps32
  go_wp2
  go_loopw [5] (fun i wr => ∃ (k : Nat), 1 ≤ k ∧ (k ≤ n ∨ k = 1) ∧ i = .int .i64 k ∧ Hid (∀ j, j < k → riC L j = true) ∧ Below w.heap.size w wr) (fun i _ => n - (intOf i).toNat)
  case atStart => exact ⟨1, by omega, .inr rfl, rfl, (fun j hj => by cases (by omega : j = 0); rfl), Below.refl _ _⟩
  case round =>
    obtain ⟨k, hk1, hk, rfl, hp, bk⟩ := hrel
    by_cases hlt : k < n
    · have HW := H.out.below bk
      have hc := HW.cell (k - 1) (by omega)
      have hd := HW.cell k hlt
      obtain rfl := HW.addr (by omega)
      have HS : Hid (riC L k = decide (cmpC (L.getD (k - 1) cv0) (L.getD k cv0) < 0)) := by
        unfold Hid
        rw [cmpC_less]
        unfold riC
        rw [decide_eq_false (by omega)]
        rfl
      generalize L.getD (k - 1) cv0 = x at *
      generalize L.getD k cv0 = y at *
      have HC : Hid (∀ W, Calls Tryz.prog 33 #[cvV x, cvV y] W fun e w' => e = .returned (.int .i64 (cmpC x y)) ∧ Below W.heap.size W w') := fun W => byId_any x y W
      generalize cmpC x y = z at *
      obtain ⟨⟨i1, t1, m1, _, y1, d1⟩, q1⟩ := x
      obtain ⟨⟨i2, t2, m2, _, y2, d2⟩, q2⟩ := y
      have sk := bk.size
      have hb := HW.low (by omega)
      obtain ⟨c0, c1, c2, c3, c4, c5⟩ := hc
      obtain ⟨e0, e1, e2, e3, e4, e5⟩ := hd
      clear HW
      dsimp only at c0 c1 c2 c3 c4 c5 e0 e1 e2 e3 e4 e5
      have hk2 : (1 : Int) ≤ (k : Int) := by omega
      have hk3 : (0 : Int) ≤ (k : Int) - 1 := by omega
      have hk4 : (k : Int) - 1 < (n : Int) := by omega
      have hk0 : (0 : Int) ≤ (k : Int) := by omega
      have hkn : (k : Int) < (n : Int) := by omega
      have htn : ((k : Int) - 1).toNat = k - 1 := by omega
      have hw : IntKind.i64.wrap ((k : Int) - 1) = (k : Int) - 1 := Kk.wrap_small (by omega) (by omega)
      go_upto_region 4 with fail
      go_region_held3 (fun W => W.cell? ⟨b, off + (k - 1) * 6, none⟩ = some (.int .i64 i1) ∧ W.cell? ⟨b, off + (k - 1) * 6 + 1, none⟩ = some (.string t1) ∧ W.cell? ⟨b, off + (k - 1) * 6 + 2, none⟩ = some (.bool m1) ∧ W.cell? ⟨b, off + (k - 1) * 6 + 3, none⟩ = some (q1) ∧ W.cell? ⟨b, off + (k - 1) * 6 + 4, none⟩ = some (.bool y1) ∧ W.cell? ⟨b, off + (k - 1) * 6 + 5, none⟩ = some (.bool d1) ∧ W.cell? ⟨b, off + k * 6, none⟩ = some (.int .i64 i2) ∧ W.cell? ⟨b, off + k * 6 + 1, none⟩ = some (.string t2) ∧ W.cell? ⟨b, off + k * 6 + 2, none⟩ = some (.bool m2) ∧ W.cell? ⟨b, off + k * 6 + 3, none⟩ = some (q2) ∧ W.cell? ⟨b, off + k * 6 + 4, none⟩ = some (.bool y2) ∧ W.cell? ⟨b, off + k * 6 + 5, none⟩ = some (.bool d2))
        (first
          | exact ⟨c0, c1, c2, c3, c4, c5, e0, e1, e2, e3, e4, e5⟩
          | exact ⟨(b1.cell (p := ⟨b, _, none⟩) hb).trans c0, (b1.cell (p := ⟨b, _, none⟩) hb).trans c1, (b1.cell (p := ⟨b, _, none⟩) hb).trans c2, (b1.cell (p := ⟨b, _, none⟩) hb).trans c3, (b1.cell (p := ⟨b, _, none⟩) hb).trans c4, (b1.cell (p := ⟨b, _, none⟩) hb).trans c5, (b1.cell (p := ⟨b, _, none⟩) hb).trans e0, (b1.cell (p := ⟨b, _, none⟩) hb).trans e1, (b1.cell (p := ⟨b, _, none⟩) hb).trans e2, (b1.cell (p := ⟨b, _, none⟩) hb).trans e3, (b1.cell (p := ⟨b, _, none⟩) hb).trans e4, (b1.cell (p := ⟨b, _, none⟩) hb).trans e5⟩)
        (first
          | (go_at_call 33
             refine (HC.out _).mono ?_
             rintro e w1 ⟨rfl, b1⟩))
      have b2 : Below w.heap.size w w1 := bk.trans ((Below.trans (below_drewN (Below.refl _ wr) 1) b1).mono sk)
      clear b1 htn hw hk3 hk4 c0 c1 c2 c3 c4 c5 e0 e1 e2 e3 e4 e5 HC hk0
      by_cases hz : z < 0
      · have hd : decide (0 ≤ z) = false := decide_eq_false (by omega)
        have HP2 : Hid (∀ j, j < k + 1 → riC L j = true) := fun j hj => by
          by_cases e : j = k
          · subst e; rw [HS.out, decide_eq_true hz]
          · exact hp.out j (by omega)
        clear hp HS
        go_wp2
        go_roundw
        case rel => exact ⟨k + 1, by omega, .inl (by omega), by go_num, HP2, b2⟩
        case measure => simp [intOf]; omega
      · have hd : decide (0 ≤ z) = true := decide_eq_true (by omega)
        have HF : Hid ((List.range n).all (riC L) = false) := Kk.all_no hlt (by rw [HS.out, decide_eq_false hz])
        clear hp HS
        go_wp2
        go_ret
        exact ⟨ret_bool HF.out.symm, b2⟩
    · have HT : Hid ((List.range n).all (riC L) = true) := Kk.all_yes fun j hj => hp.out j (by omega)
      clear hp
      go_wp2
      go_ret
      exact ⟨ret_bool HT.out.symm, bk⟩

theorem idOk_any (t : Int) (w : World) : Calls Tryz.prog 51 #[.int .i64 t] w fun e w' => e = .returned (.bool (idB t)) ∧ w' = w := by
  by_cases h0 : 1 ≤ t
  · by_cases h1 : t ≤ 1000
    · have HE : Hid (idB t = true) := by unfold Hid idB; exact decide_eq_true ⟨h0, h1⟩
      go_enter Tryz.func51, Tryz.ntmps51
      go_wp2
      go_ret
      exact ⟨ret_bool HE.out.symm, rfl⟩
    · have HE : Hid (idB t = false) := by unfold Hid idB; exact decide_eq_false (by omega)
      go_enter Tryz.func51, Tryz.ntmps51
      go_wp2
      go_ret
      exact ⟨ret_bool HE.out.symm, rfl⟩
  · have HE : Hid (idB t = false) := by unfold Hid idB; exact decide_eq_false (by omega)
    go_enter Tryz.func51, Tryz.ntmps51
    go_wp2
    go_ret
    exact ⟨ret_bool HE.out.symm, rfl⟩

set_option maxHeartbeats 2000000 in
theorem clientWrong_any (x : CV) (w : World) (h : ListsB w x.q x.cl.Q) (hs : ClGood x.cl) (hR : Fd.Ready w) :
    Calls Tryz.prog 35 #[cvV x] w fun e w' => e = .returned (.bool (!clB x.cl)) ∧ Below w.heap.size w w' := by
  have HV : Hid (∀ W, Below w.heap.size w W → Calls Tryz.prog 52 #[sessV x.cl.rest x.cl.multi x.q x.cl.dirty x.cl.dead] W fun e w' => e = .returned (.bool (sessB x.cl.rest x.cl.multi x.cl.Q x.cl.dirty x.cl.dead)) ∧ Below W.heap.size W w') := fun W hb => Fd.implSess _ _ _ _ _ _ W (hR.below (hb.mono hR.six)) hs.rest (h.below hb) hs.small
  have HT : Hid (∀ W, Calls Tryz.prog 51 #[.int .i64 x.cl.id] W fun e w' => e = .returned (.bool (idB x.cl.id)) ∧ w' = W) := fun W => idOk_any _ W
  have HE : Hid (clB x.cl = (idB x.cl.id && sessB x.cl.rest x.cl.multi x.cl.Q x.cl.dirty x.cl.dead)) := rfl
  obtain ⟨O, hO⟩ : ∃ O, clB x.cl = O := ⟨_, rfl⟩
  rw [hO] at HE ⊢
  clear h hs hR hO
  generalize sessB x.cl.rest x.cl.multi x.cl.Q x.cl.dirty x.cl.dead = o2 at *
  generalize idB x.cl.id = o1 at *
  obtain ⟨⟨id, t, multi, _, dirty, dead⟩, q⟩ := x
  dsimp only at HV HT
  obtain ⟨wa, hwa⟩ : ∃ wa, w.alloc (.cells #[.int .i64 id, .string t, .bool multi, q, .bool dirty, .bool dead] 43) = wa := ⟨_, rfl⟩
  have HB : Hid (Below w.heap.size w wa ∧ RowAt wa w.heap.size 43 #[.int .i64 id, .string t, .bool multi, q, .bool dirty, .bool dead]) := by subst hwa; exact ⟨(Below.refl _ w).alloc (Nat.le_refl _) _, RowAt.new w 43 _⟩
  have HWA : Hid (w.alloc (.cells #[.int .i64 id, .string t, .bool multi, q, .bool dirty, .bool dead] 43) = wa) := hwa
  clear hwa
  obtain ⟨bw, rw0⟩ := HB.out
  obtain ⟨c0, c1, c2, c3, c4, c5⟩ := at6 rw0
  clear rw0 HB
  cases o1 with
  | false =>
    have HE2 : Hid ((!O) = true) := by unfold Hid; rw [HE.out]; rfl
    generalize (!O) = NO at *
    go_enter Tryz.func35, Tryz.ntmps35
    go_wp2_with fail
    rw [HWA.out]
    refine (HT.out wa).mono ?_
    rintro e w1 ⟨rfl, rfl⟩
    go_wp2
    go_ret
    exact ⟨ret_bool HE2.out.symm, bw⟩
  | true =>
    have HE2 : Hid ((!O) = !o2) := by unfold Hid; rw [HE.out]; rfl
    generalize (!O) = NO at *
    have HVc := HV.out wa bw
    go_enter Tryz.func35, Tryz.ntmps35
    go_wp2_with fail
    rw [HWA.out]
    refine (HT.out wa).mono ?_
    rintro e w1 ⟨rfl, rfl⟩
    go_wp2_with fail
    refine HVc.mono ?_
    rintro e w2 ⟨rfl, b2⟩
    have bb := bw.trans (b2.mono bw.size)
    clear HVc
    go_wp2
    go_ret
    exact ⟨ret_bool HE2.out.symm, bb⟩

set_option maxHeartbeats 2000000 in
set_option maxRecDepth 100000 in
theorem indexC_any (a : Option Addr) (b off n c : Nat) (L : List CV) (w : World) (h : ClsIn w a b off n L) (hs : ∀ i, i < n → ClGood (L.getD i cv0).cl) (hn : n ≤ 1048577) (hR : Fd.Ready w) :
    Calls Tryz.prog 50 #[.slice a n c, .func (.func 35) #[] #[]] w fun e w' => ∃ r : Int, e = .returned (.int .i64 r) ∧ decide (0 ≤ r) = (!(List.range n).all (kyC L)) ∧ Below w.heap.size w w' := by
  have H : Hid (ClsIn w a b off n L) := h
  have HS : Hid (∀ i, i < n → ClGood (L.getD i cv0).cl) := hs
  have HR : Hid (Fd.Ready w) := hR
  clear h hs hR
  go_enter Tryz.func50, Tryz.ntmps50
  go_wp2
  go_loopw [8] (fun i wr => ∃ (k : Nat), k ≤ n ∧ i = .int .i64 k ∧ Hid (∀ j, j < k → kyC L j = true) ∧ Below w.heap.size w wr) (fun i _ => n - (intOf i).toNat)
  case atStart => exact ⟨0, by omega, rfl, (fun j hj => by omega), Below.refl _ _⟩
  case round =>
    obtain ⟨k, hk, rfl, hp, bk⟩ := hrel
    have sk := bk.size
    by_cases hlt : k < n
    · have HW := H.out.below bk
      have hv := HW.val k hlt
      have hc := HW.cell k hlt
      obtain rfl := HW.addr (by omega)
      have q1 := HS.out k hlt
      have HKY : Hid (kyC L k = clB (L.getD k cv0).cl) := rfl
      have HC : Hid (Calls Tryz.prog 35 #[cvV (L.getD k cv0)] wr fun e w' => e = .returned (.bool (!clB (L.getD k cv0).cl)) ∧ Below wr.heap.size wr w') := clientWrong_any _ wr hv q1 (HR.out.below (bk.mono HR.out.six))
      generalize L.getD k cv0 = x at *
      generalize clB x.cl = o at *
      obtain ⟨c0, c1, c2, c3, c4, c5⟩ := hc
      clear HW q1 hv
      obtain ⟨⟨id, t, multi, _, dirty, dead⟩, q⟩ := x
      dsimp only at c0 c1 c2 c3 c4 c5
      cases o with
      | false =>
        have HF : Hid ((List.range n).all (kyC L) = false) := Kk.all_no hlt HKY.out
        clear hp
        go_wp2_with fail
        refine HC.out.mono ?_
        rintro e w1 ⟨rfl, b1⟩
        have bb := bk.trans (b1.mono sk)
        clear c0 c1 c2 c3 c4 c5
        go_wp2
        go_ret
        exact ⟨k, rfl, by rw [HF.out]; exact decide_eq_true (by omega), bb⟩
      | true =>
        have HP2 : Hid (∀ j, j < k + 1 → kyC L j = true) := fun j hj => by
          by_cases e : j = k
          · subst e; exact HKY.out
          · exact hp.out j (by omega)
        clear hp
        go_wp2_with fail
        refine HC.out.mono ?_
        rintro e w1 ⟨rfl, b1⟩
        have bb := bk.trans (b1.mono sk)
        clear c0 c1 c2 c3 c4 c5
        go_wp2
        go_roundw
        case rel => exact ⟨k + 1, by omega, by go_num, HP2, bb⟩
        case measure => simp [intOf]; omega
    · have HT : Hid ((List.range n).all (kyC L) = true) := Kk.all_yes fun j hj => hp.out j (by omega)
      clear hp
      go_wp2
      go_ret
      exact ⟨-1, rfl, by rw [HT.out]; rfl, bk⟩

set_option maxHeartbeats 1000000 in
theorem containsC_any (a : Option Addr) (b off n c : Nat) (L : List CV) (w : World) (h : ClsIn w a b off n L) (hs : ∀ i, i < n → ClGood (L.getD i cv0).cl) (hn : n ≤ 1048577) (hR : Fd.Ready w) :
    Calls Tryz.prog 34 #[.slice a n c, .func (.func 35) #[] #[]] w fun e w' => e = .returned (.bool (!(List.range n).all (kyC L))) ∧ Below w.heap.size w w' := by
  have HC : Hid (Calls Tryz.prog 50 #[.slice a n c, .func (.func 35) #[] #[]] w fun e w' => ∃ r : Int, e = .returned (.int .i64 r) ∧ decide (0 ≤ r) = (!(List.range n).all (kyC L)) ∧ Below w.heap.size w w') := indexC_any a b off n c L w h hs hn hR
  generalize (!(List.range n).all (kyC L)) = o at *
  clear h hs hR
  go_enter Tryz.func34, Tryz.ntmps34
  go_wp2_with fail
  refine HC.out.mono ?_
  rintro e w1 ⟨r, rfl, hr, b1⟩
  have Hr : Hid (decide (0 ≤ r) = o) := hr
  clear hr
  go_wp2
  go_ret
  exact ⟨ret_bool Hr.out, b1⟩

set_option maxHeartbeats 1000000 in
theorem clientsOk_any (a : Option Addr) (b off n c : Nat) (L : List CV) (w : World) (h : ClsIn w a b off n L) (hs : ∀ i, i < n → ClGood (L.getD i cv0).cl) (hn : n ≤ 1048577) (hR : Fd.Ready w) :
    Calls Tryz.prog 18 #[.slice a n c] w fun e w' => e = .returned (.bool (clsB L)) ∧ Below w.heap.size w w' := by
  have HE : Hid (clsB L = (decide (n ≤ 5) && ((List.range n).all (riC L) && (List.range n).all (kyC L)))) := by unfold Hid clsB; rw [h.len]
  obtain ⟨O, hO⟩ : ∃ O, clsB L = O := ⟨_, rfl⟩
  rw [hO] at HE ⊢
  have HA : Hid (Calls Tryz.prog 32 #[.slice a n c, .func (.func 33) #[] #[]] w fun e w' => e = .returned (.bool ((List.range n).all (riC L))) ∧ Below w.heap.size w w') := risesC_any a b off n c L w h hn
  have HB : Hid (∀ W, Below w.heap.size w W → Calls Tryz.prog 34 #[.slice a n c, .func (.func 35) #[] #[]] W fun e w' => e = .returned (.bool (!(List.range n).all (kyC L))) ∧ Below W.heap.size W w') := fun W hb => containsC_any a b off n c L W (h.below hb) hs hn (hR.below (hb.mono hR.six))
  clear h hs hR hO
  generalize (List.range n).all (riC L) = o1 at *
  generalize (List.range n).all (kyC L) = o2 at *
  by_cases h20 : n ≤ 5
  · have hg : decide ((n : Int) ≤ 5) = true := decide_eq_true (by omega)
    rw [decide_eq_true h20, Bool.true_and] at HE
    cases o1 with
    | false =>
      have HE2 : Hid (O = false) := HE.out
      go_enter Tryz.func18, Tryz.ntmps18
      go_wp2_with fail
      refine HA.out.mono ?_
      rintro e w1 ⟨rfl, b1⟩
      go_wp2
      go_ret
      exact ⟨ret_bool HE2.out.symm, b1⟩
    | true =>
      have HE2 : Hid (O = o2) := HE.out
      go_enter Tryz.func18, Tryz.ntmps18
      go_wp2_with fail
      refine HA.out.mono ?_
      rintro e w1 ⟨rfl, b1⟩
      have HB1 := HB.out w1 b1
      generalize hno : (!o2) = no2 at *
      have HNO : Hid ((!o2) = no2) := hno
      clear hno
      go_wp2_with fail
      refine HB1.mono ?_
      rintro e w2 ⟨rfl, b2⟩
      have bb := b1.trans (b2.mono b1.size)
      go_wp2
      go_ret
      exact ⟨ret_bool (by rw [HE2.out, ← HNO.out]; cases o2 <;> rfl), bb⟩
  · have hg : decide ((n : Int) ≤ 5) = false := decide_eq_false (by omega)
    have HE2 : Hid (O = false) := by unfold Hid; rw [HE.out, decide_eq_false h20]; rfl
    go_enter Tryz.func18, Tryz.ntmps18
    go_wp2
    go_ret
    exact ⟨ret_bool HE2.out.symm, Below.refl _ _⟩
end Go.Proofs.YtjgmkbldclangaaGreatDoor
