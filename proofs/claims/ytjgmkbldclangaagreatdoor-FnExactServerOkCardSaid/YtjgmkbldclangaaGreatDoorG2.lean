/- impl.DbOk: keys that rise by their names, each of them right. -/
import Derived.Test.YtjgmkbldclangaaGreatDoorG1
import Derived.Test.YtjgmkbldclangaaGreatDoorAa
import Derived.Deep.RegionHeld3
namespace Go.Proofs.YtjgmkbldclangaaGreatDoor
open Go.RowKit Go.Sort
open Kk (Rk rk0 texL texR decS scoreB rightB ranksB OwnR flatR encR markB RanksIn)

def timeB (t : Int) : Bool := decide (0 ≤ t) && decide (t ≤ 1000000000)
def keyB (k : Ke) : Bool := decide (k.name.size ≤ 200) && (vokB k.val && timeB k.due)
def riK (ks : List Ke) (i : Nat) : Bool := decide (i = 0) || Op.bytesLess (ks.getD (i - 1) ke0).name.toList (ks.getD i ke0).name.toList
def dbOkB (ks : List Ke) : Bool := decide (ks.length ≤ 20) && ((List.range ks.length).all (riK ks) && (List.range ks.length).all fun i => keyB (ks.getD i ke0))

def riV (L : List KV) (i : Nat) : Bool := decide (i = 0) || Op.bytesLess (L.getD (i - 1) kv0).key.name.toList (L.getD i kv0).key.name.toList
def kyV (L : List KV) (i : Nat) : Bool := keyB (L.getD i kv0).key

theorem key_at (L : List KV) (i : Nat) : (L.map KV.key).getD i ke0 = (L.getD i kv0).key := by
  rw [List.getD_eq_getElem?_getD, List.getD_eq_getElem?_getD, List.getElem?_map]
  cases L[i]? <;> rfl
theorem dbOk_eq (L : List KV) : dbOkB (L.map KV.key) = (decide (L.length ≤ 20) && ((List.range L.length).all (riV L) && (List.range L.length).all (kyV L))) := by
  unfold dbOkB
  have e1 : riK (L.map KV.key) = riV L := by funext i; unfold riK riV; rw [key_at, key_at]
  have e2 : (fun i => keyB ((L.map KV.key).getD i ke0)) = kyV L := by funext i; unfold kyV; rw [key_at]
  rw [e1, e2, List.length_map]

/-- What the keys hold is small. -/
def Small (L : List KV) : Prop := ∀ i, i < L.length → KSm (L.getD i kv0).key.val ∧ (L.getD i kv0).key.name.size ≤ 1048576

def cmpK (x y : KV) : Int := Lib.compareBytes x.key.name.data.toList y.key.name.data.toList
theorem cmpK_less (x y : KV) : decide (cmpK x y < 0) = Op.bytesLess x.key.name.toList y.key.name.toList := by
  unfold cmpK
  rw [Kk.cmp_less, ByteArray.toList_eq, ByteArray.toList_eq]

abbrev kC (nm : ByteArray) (k : Int) (t : ByteArray) (vi vp vr : Value) (d : Int) : Array Value := #[.string nm, .int .i64 k, .string t, vi, vp, vr, .int .i64 d]

set_option maxHeartbeats 1000000 in
theorem byKeyName_any (x y : KV) (w : World) : Calls Tryz.prog 29 #[kvV x, kvV y] w fun e w' => e = .returned (.int .i64 (cmpK x y)) ∧ Below w.heap.size w w' := by
  have HC : Hid (∀ W, Calls Tryz.prog 46 #[.string x.key.name, .string y.key.name] W fun e w' => e = .returned (.int .i64 (cmpK x y)) ∧ w' = W) := fun W => Kk.cmpS_any x.key.name y.key.name W
  generalize cmpK x y = z at *
  obtain ⟨⟨n1, ⟨k1, t1, _, _, _⟩, d1⟩, vi1, vp1, vr1⟩ := x
  obtain ⟨⟨n2, ⟨k2, t2, _, _, _⟩, d2⟩, vi2, vp2, vr2⟩ := y
  have hb : Below w.heap.size w ((w.alloc (.cells (kC n1 k1 t1 vi1 vp1 vr1 d1) 68)).alloc (.cells (kC n2 k2 t2 vi2 vp2 vr2 d2) 68)) := ((Below.refl _ _).alloc (Nat.le_refl _) _).alloc (by simp) _
  go_enter Tryz.func29, Tryz.ntmps29
  go_wp2_with fail
  refine (HC.out _).mono ?_
  rintro e w1 ⟨rfl, rfl⟩
  go_wp2
  go_ret
  exact ⟨rfl, hb⟩

set_option maxHeartbeats 4000000 in
set_option maxRecDepth 100000 in
theorem risesK_any (a : Option Addr) (b n c : Nat) (L : List KV) (w : World) (h : KsIn w a b n L) (hn : n ≤ 1048577) :
    Calls Tryz.prog 28 #[.slice a n c, .func (.func 29) #[] #[]] w fun e w' => e = .returned (.bool ((List.range n).all (riV L))) ∧ Below w.heap.size w w' := by
  have H : Hid (KsIn w a b n L) := h
  clear h
  go_enter Tryz.func28, Tryz.ntmps28
  go_wp2
  go_loopw [5] (fun i wr => ∃ (k : Nat), 1 ≤ k ∧ (k ≤ n ∨ k = 1) ∧ i = .int .i64 k ∧ Hid (∀ j, j < k → riV L j = true) ∧ Below w.heap.size w wr) (fun i _ => n - (intOf i).toNat)
  case atStart => exact ⟨1, by omega, .inr rfl, rfl, (fun j hj => by cases (by omega : j = 0); rfl), Below.refl _ _⟩
  case round =>
    obtain ⟨k, hk1, hk, rfl, hp, bk⟩ := hrel
    by_cases hlt : k < n
    · have HW := H.out.below bk
      have hc := HW.cell (k - 1) (by omega)
      have hd := HW.cell k hlt
      obtain rfl := HW.addr (by omega)
      have HS : Hid (riV L k = decide (cmpK (L.getD (k - 1) kv0) (L.getD k kv0) < 0)) := by
        unfold Hid
        rw [cmpK_less]
        unfold riV
        rw [decide_eq_false (by omega)]
        rfl
      generalize L.getD (k - 1) kv0 = x at *
      generalize L.getD k kv0 = y at *
      have HC : Hid (∀ W, Calls Tryz.prog 29 #[kvV x, kvV y] W fun e w' => e = .returned (.int .i64 (cmpK x y)) ∧ Below W.heap.size W w') := fun W => byKeyName_any x y W
      generalize cmpK x y = z at *
      obtain ⟨⟨n1, ⟨k1, t1, _, _, _⟩, d1⟩, vi1, vp1, vr1⟩ := x
      obtain ⟨⟨n2, ⟨k2, t2, _, _, _⟩, d2⟩, vi2, vp2, vr2⟩ := y
      have sk := bk.size
      have hb := HW.low (by omega)
      obtain ⟨c0, c1, c2, c3, c4, c5, c6⟩ := hc
      obtain ⟨e0, e1, e2, e3, e4, e5, e6⟩ := hd
      clear HW
      dsimp only at c0 c1 c2 c3 c4 c5 c6 e0 e1 e2 e3 e4 e5 e6
      have hk2 : (1 : Int) ≤ (k : Int) := by omega
      have hk3 : (0 : Int) ≤ (k : Int) - 1 := by omega
      have hk4 : (k : Int) - 1 < (n : Int) := by omega
      have hk0 : (0 : Int) ≤ (k : Int) := by omega
      have hkn : (k : Int) < (n : Int) := by omega
      have htn : ((k : Int) - 1).toNat = k - 1 := by omega
      have hw : IntKind.i64.wrap ((k : Int) - 1) = (k : Int) - 1 := Kk.wrap_small (by omega) (by omega)
      go_upto_region 4 with fail
      go_region_held3 (fun W => W.cell? ⟨b, (k - 1) * 7, none⟩ = some (.string n1) ∧ W.cell? ⟨b, (k - 1) * 7 + 1, none⟩ = some (.int .i64 k1) ∧ W.cell? ⟨b, (k - 1) * 7 + 2, none⟩ = some (.string t1) ∧ W.cell? ⟨b, (k - 1) * 7 + 3, none⟩ = some vi1 ∧ W.cell? ⟨b, (k - 1) * 7 + 4, none⟩ = some vp1 ∧ W.cell? ⟨b, (k - 1) * 7 + 5, none⟩ = some vr1 ∧ W.cell? ⟨b, (k - 1) * 7 + 6, none⟩ = some (.int .i64 d1) ∧ W.cell? ⟨b, k * 7, none⟩ = some (.string n2) ∧ W.cell? ⟨b, k * 7 + 1, none⟩ = some (.int .i64 k2) ∧ W.cell? ⟨b, k * 7 + 2, none⟩ = some (.string t2) ∧ W.cell? ⟨b, k * 7 + 3, none⟩ = some vi2 ∧ W.cell? ⟨b, k * 7 + 4, none⟩ = some vp2 ∧ W.cell? ⟨b, k * 7 + 5, none⟩ = some vr2 ∧ W.cell? ⟨b, k * 7 + 6, none⟩ = some (.int .i64 d2))
        (first
          | exact ⟨c0, c1, c2, c3, c4, c5, c6, e0, e1, e2, e3, e4, e5, e6⟩
          | exact ⟨(b1.cell (p := ⟨b, _, none⟩) hb).trans c0, (b1.cell (p := ⟨b, _, none⟩) hb).trans c1, (b1.cell (p := ⟨b, _, none⟩) hb).trans c2, (b1.cell (p := ⟨b, _, none⟩) hb).trans c3, (b1.cell (p := ⟨b, _, none⟩) hb).trans c4, (b1.cell (p := ⟨b, _, none⟩) hb).trans c5, (b1.cell (p := ⟨b, _, none⟩) hb).trans c6, (b1.cell (p := ⟨b, _, none⟩) hb).trans e0, (b1.cell (p := ⟨b, _, none⟩) hb).trans e1, (b1.cell (p := ⟨b, _, none⟩) hb).trans e2, (b1.cell (p := ⟨b, _, none⟩) hb).trans e3, (b1.cell (p := ⟨b, _, none⟩) hb).trans e4, (b1.cell (p := ⟨b, _, none⟩) hb).trans e5, (b1.cell (p := ⟨b, _, none⟩) hb).trans e6⟩)
        (first
          | (go_at_call 29
             refine (HC.out _).mono ?_
             rintro e w1 ⟨rfl, b1⟩))
      have b2 : Below w.heap.size w w1 := bk.trans ((Below.trans (below_drewN (Below.refl _ wr) 1) b1).mono sk)
      clear b1 htn hw hk3 hk4 c0 c1 c2 c3 c4 c5 c6 e0 e1 e2 e3 e4 e5 e6 HC hk0
      by_cases hz : z < 0
      · have hd : decide (0 ≤ z) = false := decide_eq_false (by omega)
        have HP2 : Hid (∀ j, j < k + 1 → riV L j = true) := fun j hj => by
          by_cases e : j = k
          · subst e; rw [HS.out, decide_eq_true hz]
          · exact hp.out j (by omega)
        clear hp HS
        go_wp2
        go_roundw
        case rel => exact ⟨k + 1, by omega, .inl (by omega), by go_num, HP2, b2⟩
        case measure => simp [intOf]; omega
      · have hd : decide (0 ≤ z) = true := decide_eq_true (by omega)
        have HF : Hid ((List.range n).all (riV L) = false) := Kk.all_no hlt (by rw [HS.out, decide_eq_false hz])
        clear hp HS
        go_wp2
        go_ret
        exact ⟨ret_bool HF.out.symm, b2⟩
    · have HT : Hid ((List.range n).all (riV L) = true) := Kk.all_yes fun j hj => hp.out j (by omega)
      clear hp
      go_wp2
      go_ret
      exact ⟨ret_bool HT.out.symm, bk⟩

theorem timeOk_any (t : Int) (w : World) : Calls Tryz.prog 17 #[.int .i64 t] w fun e w' => e = .returned (.bool (timeB t)) ∧ w' = w := by
  by_cases h0 : 0 ≤ t
  · by_cases h1 : t ≤ 1000000000
    · have HE : Hid (timeB t = true) := by unfold Hid timeB; rw [decide_eq_true h0, decide_eq_true h1]; rfl
      go_enter Tryz.func17, Tryz.ntmps17
      go_wp2
      go_ret
      exact ⟨ret_bool HE.out.symm, rfl⟩
    · have HE : Hid (timeB t = false) := by unfold Hid timeB; rw [decide_eq_true h0, decide_eq_false h1]; rfl
      go_enter Tryz.func17, Tryz.ntmps17
      go_wp2
      go_ret
      exact ⟨ret_bool HE.out.symm, rfl⟩
  · have HE : Hid (timeB t = false) := by unfold Hid timeB; rw [decide_eq_false h0]; rfl
    go_enter Tryz.func17, Tryz.ntmps17
    go_wp2
    go_ret
    exact ⟨ret_bool HE.out.symm, rfl⟩

theorem row7 {w : World} {g : Nat} {T : TypeId} {n : ByteArray} {k : Int} {t : ByteArray} {vi vp vr : Value} {d : Int} (h : RowAt w g T (kC n k t vi vp vr d)) : w.cell? ⟨g, 0, none⟩ = some (.string n) ∧ w.cell? ⟨g, 1, none⟩ = some (.int .i64 k) ∧ w.cell? ⟨g, 2, none⟩ = some (.string t) ∧ w.cell? ⟨g, 3, none⟩ = some vi ∧ w.cell? ⟨g, 4, none⟩ = some vp ∧ w.cell? ⟨g, 5, none⟩ = some vr ∧ w.cell? ⟨g, 6, none⟩ = some (.int .i64 d) := by
  have a0 := h.cell 0
  have a1 := h.cell 1
  have a2 := h.cell 2
  have a3 := h.cell 3
  have a4 := h.cell 4
  have a5 := h.cell 5
  have a6 := h.cell 6
  simp at a0 a1 a2 a3 a4 a5 a6
  exact ⟨a0, a1, a2, a3, a4, a5, a6⟩

set_option maxHeartbeats 2000000 in
theorem keyWrong_any (x : KV) (B : Nat) (w : World) (h : VOwn w B x.key.val x.vi x.vp x.vr) (hs : KSm x.key.val) (hn : x.key.name.size ≤ 1048576) (hR : Ready w) :
    Calls Tryz.prog 31 #[kvV x] w fun e w' => e = .returned (.bool (!keyB x.key)) ∧ Below w.heap.size w w' := by
  have HV : Hid (∀ W, Below w.heap.size w W → Calls Tryz.prog 48 #[vlV x.key.val.kind x.key.val.text x.vi x.vp x.vr] W fun e w' => e = .returned (.bool (vokB x.key.val)) ∧ Below W.heap.size W w') := fun W hb => implOk_any x.key.val x.vi x.vp x.vr B W (h.below hb) hs.fit hs.np hs.nums (hR.below (hb.mono hR.six))
  have HT : Hid (∀ W, Calls Tryz.prog 17 #[.int .i64 x.key.due] W fun e w' => e = .returned (.bool (timeB x.key.due)) ∧ w' = W) := fun W => timeOk_any _ W
  have HE : Hid (keyB x.key = (decide (x.key.name.size ≤ 200) && (vokB x.key.val && timeB x.key.due))) := rfl
  obtain ⟨O, hO⟩ : ∃ O, keyB x.key = O := ⟨_, rfl⟩
  rw [hO] at HE ⊢
  clear h hs hR hO
  generalize vokB x.key.val = o2 at *
  generalize timeB x.key.due = o3 at *
  obtain ⟨⟨nm, ⟨k, t, _, _, _⟩, d⟩, vi, vp, vr⟩ := x
  dsimp only at hn HV HT HE
  obtain ⟨wa, hwa⟩ : ∃ wa, w.alloc (.cells (kC nm k t vi vp vr d) 68) = wa := ⟨_, rfl⟩
  have HB : Hid (Below w.heap.size w wa ∧ RowAt wa w.heap.size 68 (kC nm k t vi vp vr d)) := by subst hwa; exact ⟨(Below.refl _ w).alloc (Nat.le_refl _) _, RowAt.new w 68 _⟩
  have HWA : Hid (w.alloc (.cells (kC nm k t vi vp vr d) 68) = wa) := hwa
  clear hwa
  by_cases h200 : nm.size ≤ 200
  · have hg : decide ((200 : Int) < (nm.size : Int)) = false := decide_eq_false (by omega)
    rw [decide_eq_true h200, Bool.true_and] at HE
    cases o2 with
    | false =>
      have HE2 : Hid ((!O) = true) := by unfold Hid; rw [HE.out]; rfl
      generalize (!O) = NO at *
      go_enter Tryz.func31, Tryz.ntmps31
      go_wp2_with fail
      rw [HWA.out]
      refine (HV.out wa HB.out.1).mono ?_
      rintro e w1 ⟨rfl, b1⟩
      have bb := HB.out.1.trans (b1.mono HB.out.1.size)
      go_wp2
      go_ret
      exact ⟨ret_bool HE2.out.symm, bb⟩
    | true =>
      have HE2 : Hid ((!O) = !o3) := by unfold Hid; rw [HE.out]; rfl
      generalize (!O) = NO at *
      go_enter Tryz.func31, Tryz.ntmps31
      go_wp2_with fail
      rw [HWA.out]
      refine (HV.out wa HB.out.1).mono ?_
      rintro e w1 ⟨rfl, b1⟩
      have bb := HB.out.1.trans (b1.mono HB.out.1.size)
      obtain ⟨_, _, _, _, _, _, a6⟩ := row7 (RowAt.below HB.out.2 b1 HB.out.2.lt)
      go_wp2_with fail
      refine (HT.out w1).mono ?_
      rintro e w2 ⟨rfl, rfl⟩
      go_wp2
      go_ret
      exact ⟨ret_bool HE2.out.symm, bb⟩
  · have hg : decide ((200 : Int) < (nm.size : Int)) = true := decide_eq_true (by omega)
    have HE2 : Hid ((!O) = true) := by unfold Hid; rw [HE.out, decide_eq_false h200]; rfl
    generalize (!O) = NO at *
    go_enter Tryz.func31, Tryz.ntmps31
    go_wp2
    go_ret
    exact ⟨ret_bool HE2.out.symm, (Below.refl _ w).alloc (Nat.le_refl _) _⟩

set_option maxHeartbeats 2000000 in
set_option maxRecDepth 100000 in
theorem indexK_any (a : Option Addr) (b n c : Nat) (L : List KV) (w : World) (h : DbAt w a b n L) (hs : Small L) (hn : n ≤ 1048577) (hR : Ready w) :
    Calls Tryz.prog 47 #[.slice a n c, .func (.func 31) #[] #[]] w fun e w' => ∃ r : Int, e = .returned (.int .i64 r) ∧ decide (0 ≤ r) = (!(List.range n).all (kyV L)) ∧ Below w.heap.size w w' := by
  have H : Hid (DbAt w a b n L) := h
  have HS : Hid (Small L) := hs
  have HR : Hid (Ready w) := hR
  have HL : Hid (L.length = n) := h.ks.len
  clear h hs hR
  go_enter Tryz.func47, Tryz.ntmps47
  go_wp2
  go_loopw [8] (fun i wr => ∃ (k : Nat), k ≤ n ∧ i = .int .i64 k ∧ Hid (∀ j, j < k → kyV L j = true) ∧ Below w.heap.size w wr) (fun i _ => n - (intOf i).toNat)
  case atStart => exact ⟨0, by omega, rfl, (fun j hj => by omega), Below.refl _ _⟩
  case round =>
    obtain ⟨k, hk, rfl, hp, bk⟩ := hrel
    have sk := bk.size
    by_cases hlt : k < n
    · have HW := H.out.below bk
      obtain ⟨B, hv⟩ := HW.val k hlt
      have hc := HW.ks.cell k hlt
      obtain rfl := HW.ks.addr (by omega)
      obtain ⟨q1, q2⟩ := HS.out k (by rw [HL.out]; exact hlt)
      have HKY : Hid (kyV L k = keyB (L.getD k kv0).key) := rfl
      have HC : Hid (Calls Tryz.prog 31 #[kvV (L.getD k kv0)] wr fun e w' => e = .returned (.bool (!keyB (L.getD k kv0).key)) ∧ Below wr.heap.size wr w') := keyWrong_any _ B wr hv q1 q2 (HR.out.below (bk.mono HR.out.six))
      generalize L.getD k kv0 = x at *
      generalize keyB x.key = o at *
      obtain ⟨c0, c1, c2, c3, c4, c5, c6⟩ := hc
      clear HW q1 q2 hv
      obtain ⟨⟨nm, ⟨kd, t, _, _, _⟩, d⟩, vi, vp, vr⟩ := x
      dsimp only at c0 c1 c2 c3 c4 c5 c6
      cases o with
      | false =>
        have HF : Hid ((List.range n).all (kyV L) = false) := Kk.all_no hlt HKY.out
        clear hp
        go_wp2_with fail
        refine HC.out.mono ?_
        rintro e w1 ⟨rfl, b1⟩
        have bb := bk.trans (b1.mono sk)
        clear c0 c1 c2 c3 c4 c5 c6
        go_wp2
        go_ret
        exact ⟨k, rfl, by rw [HF.out]; exact decide_eq_true (by omega), bb⟩
      | true =>
        have HP2 : Hid (∀ j, j < k + 1 → kyV L j = true) := fun j hj => by
          by_cases e : j = k
          · subst e; exact HKY.out
          · exact hp.out j (by omega)
        clear hp
        go_wp2_with fail
        refine HC.out.mono ?_
        rintro e w1 ⟨rfl, b1⟩
        have bb := bk.trans (b1.mono sk)
        clear c0 c1 c2 c3 c4 c5 c6
        go_wp2
        go_roundw
        case rel => exact ⟨k + 1, by omega, by go_num, HP2, bb⟩
        case measure => simp [intOf]; omega
    · have HT : Hid ((List.range n).all (kyV L) = true) := Kk.all_yes fun j hj => hp.out j (by omega)
      clear hp
      go_wp2
      go_ret
      exact ⟨-1, rfl, by rw [HT.out]; rfl, bk⟩

theorem containsK_any (a : Option Addr) (b n c : Nat) (L : List KV) (w : World) (h : DbAt w a b n L) (hs : Small L) (hn : n ≤ 1048577) (hR : Ready w) :
    Calls Tryz.prog 30 #[.slice a n c, .func (.func 31) #[] #[]] w fun e w' => e = .returned (.bool (!(List.range n).all (kyV L))) ∧ Below w.heap.size w w' := by
  have HC : Hid (Calls Tryz.prog 47 #[.slice a n c, .func (.func 31) #[] #[]] w fun e w' => ∃ r : Int, e = .returned (.int .i64 r) ∧ decide (0 ≤ r) = (!(List.range n).all (kyV L)) ∧ Below w.heap.size w w') := indexK_any a b n c L w h hs hn hR
  generalize (!(List.range n).all (kyV L)) = o at *
  clear h hs hR
  go_enter Tryz.func30, Tryz.ntmps30
  go_wp2_with fail
  refine HC.out.mono ?_
  rintro e w1 ⟨r, rfl, hr, b1⟩
  have Hr : Hid (decide (0 ≤ r) = o) := hr
  clear hr
  go_wp2
  go_ret
  exact ⟨ret_bool Hr.out, b1⟩

set_option maxHeartbeats 1000000 in
theorem implDbOk_any (a : Option Addr) (b n c : Nat) (L : List KV) (w : World) (h : DbAt w a b n L) (hs : Small L) (hn : n ≤ 1048577) (hR : Ready w) :
    Calls Tryz.prog 16 #[.slice a n c] w fun e w' => e = .returned (.bool (dbOkB (L.map KV.key))) ∧ Below w.heap.size w w' := by
  have HE : Hid (dbOkB (L.map KV.key) = (decide (n ≤ 20) && ((List.range n).all (riV L) && (List.range n).all (kyV L)))) := by unfold Hid; rw [dbOk_eq, h.ks.len]
  obtain ⟨O, hO⟩ : ∃ O, dbOkB (L.map KV.key) = O := ⟨_, rfl⟩
  rw [hO] at HE ⊢
  have HA : Hid (Calls Tryz.prog 28 #[.slice a n c, .func (.func 29) #[] #[]] w fun e w' => e = .returned (.bool ((List.range n).all (riV L))) ∧ Below w.heap.size w w') := risesK_any a b n c L w h.ks hn
  have HB : Hid (∀ W, Below w.heap.size w W → Calls Tryz.prog 30 #[.slice a n c, .func (.func 31) #[] #[]] W fun e w' => e = .returned (.bool (!(List.range n).all (kyV L))) ∧ Below W.heap.size W w') := fun W hb => containsK_any a b n c L W (h.below hb) hs hn (hR.below (hb.mono hR.six))
  clear h hs hR hO
  generalize (List.range n).all (riV L) = o1 at *
  generalize (List.range n).all (kyV L) = o2 at *
  by_cases h20 : n ≤ 20
  · have hg : decide ((n : Int) ≤ 20) = true := decide_eq_true (by omega)
    rw [decide_eq_true h20, Bool.true_and] at HE
    cases o1 with
    | false =>
      have HE2 : Hid (O = false) := HE.out
      go_enter Tryz.func16, Tryz.ntmps16
      go_wp2_with fail
      refine HA.out.mono ?_
      rintro e w1 ⟨rfl, b1⟩
      go_wp2
      go_ret
      exact ⟨ret_bool HE2.out.symm, b1⟩
    | true =>
      have HE2 : Hid (O = o2) := HE.out
      go_enter Tryz.func16, Tryz.ntmps16
      go_wp2_with fail
      refine HA.out.mono ?_
      rintro e w1 ⟨rfl, b1⟩
      have HB1 := HB.out w1 b1
      generalize hno : (!o2) = no2 at *
      have HNO : Hid ((!o2) = no2) := hno
      clear hno
      go_wp2_with fail
      refine HB1.mono ?_
      rintro e w2 ⟨rfl, b2⟩
      have bb := b1.trans (b2.mono b1.size)
      go_wp2
      go_ret
      exact ⟨ret_bool (by rw [HE2.out, ← HNO.out]; cases o2 <;> rfl), bb⟩
  · have hg : decide ((n : Int) ≤ 20) = false := decide_eq_false (by omega)
    have HE2 : Hid (O = false) := by unfold Hid; rw [HE.out, decide_eq_false h20]; rfl
    go_enter Tryz.func16, Tryz.ntmps16
    go_wp2
    go_ret
    exact ⟨ret_bool HE2.out.symm, Below.refl _ _⟩
end Go.Proofs.YtjgmkbldclangaaGreatDoor
