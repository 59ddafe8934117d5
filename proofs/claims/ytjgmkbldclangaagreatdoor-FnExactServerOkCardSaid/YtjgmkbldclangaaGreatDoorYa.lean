/- Marks: ranks written into an answer's own memory, and found there again. Equal lists of texts, of pairs. Marks in texts: written into an answer's own memory, and found there again; marks of nothing. Marks in pairs: written into an answer's own memory, and found there again. -/
import Derived.Test.YtjgmkbldclangaaGreatDoorKC
import Derived.Laws.IdiomStrings
import Derived.Lib.QuietBelow
import Derived.Test.YtjgmkbldclangaaGreatDoorVb
namespace Go.Proofs.YtjgmkbldclangaaGreatDoor.Kk
open Go.RowKit Go.Sort

theorem ret_str {a b : ByteArray} (h : a = b) : Ending.returned (.string a) = .returned (.string b) := by rw [h]
theorem dec_step (n : Nat) (h : 10 ≤ n) : Lib.decDigits n = Lib.decDigits (n / 10) ++ [UInt8.ofNat (48 + n % 10)] := by
  rw [Lib.decDigits, dif_neg (by omega)]
theorem dec_last (k : Nat) (h : k < 10) : Lib.decDigits k = [UInt8.ofNat (48 + k)] := Lib.decDigits_one h

theorem conv_one (w : World) (z : Int) (h0 : 0 ≤ z) (h1 : z < 256) :
    (convert 155 9 (.slice (some ⟨w.heap.size, 0, none⟩) 1 1)).run Tryz.prog (w.alloc (.cells #[.int .u8 z] 5)) = .ok (.string ⟨[UInt8.ofNat z.toNat].toArray⟩) (w.alloc (.cells #[.int .u8 z] 5)) := by
  refine run_convert_bytes_back _ 155 9 5 ⟨w.heap.size, 0, none⟩ 1 [UInt8.ofNat z.toNat] Tryz.underlying155 Tryz.underlying5 Tryz.underlying9 ?_
  intro j hj
  obtain rfl : j = 0 := by simpa using hj
  have e : ((UInt8.ofNat z.toNat).toNat : Int) = z := by
    rw [UInt8.toNat_ofNat']
    omega
  simp only [List.getElem_cons_zero, e]
  exact cell_one_new w (.int .u8 z) 5 0 _ rfl

def markB (k : Nat) : ByteArray := ⟨(109 :: Lib.decDigits k).toArray⟩

def Digs (n k : Nat) (acc : List UInt8) : Prop := (if k = 0 then [] else Lib.decDigits k) ++ acc = Lib.decDigits n ∧ (acc.length : Int) ≤ (n : Int) - k

/-- The marks from s0 on. -/
def mrk (s0 i : Nat) : Rk := ⟨markB (s0 + 2 * i), ((s0 + 2 * i + 1 : Nat) : Int)⟩
def marks (s0 n : Nat) : List Rk := (List.range n).map (mrk s0)
theorem marks_len (s0 n : Nat) : (marks s0 n).length = n := by simp [marks]
theorem marks_at (s0 n i : Nat) (h : i < n) : (marks s0 n).getD i rk0 = mrk s0 i := by
  unfold marks
  rw [List.getD_eq_getElem?_getD, List.getElem?_map, List.getElem?_range h]
  rfl

theorem grown_refl (w : World) (r : Option Nat) : w.grownBy w r := ⟨rfl, rfl, rfl, Nat.le_refl _, fun _ _ _ => rfl⟩
theorem grown_below {w w1 w2 : World} {r : Option Nat} (h : w.grownBy w1 r) (hb : Below w1.heap.size w1 w2) : w.grownBy w2 r :=
  ⟨hb.os.trans h.os, hb.tape.trans h.tape, hb.output.trans h.output, Nat.le_trans h.size hb.size, fun k hk hne => (hb.block k (by have := h.size; omega)).trans (h.block k hk hne)⟩
theorem grown_trans {w w1 w2 : World} {r : Option Nat} (h : w.grownBy w1 r) (h2 : w1.grownBy w2 r) : w.grownBy w2 r :=
  ⟨h2.os.trans h.os, h2.tape.trans h.tape, h2.output.trans h.output, Nat.le_trans h.size h2.size, fun k hk hne => (h2.block k (by have := h.size; omega) hne).trans (h.block k hk hne)⟩
theorem grown_set (w : World) (b o : Nat) (v : Value) : w.grownBy (w.setCell ⟨b, o, none⟩ v) (some b) :=
  ⟨rfl, rfl, rfl, by simp [World.setCell], fun k _ hk => Below.heap_setCell _ _ _ _ (fun e => hk (by simp [e]))⟩

end Go.Proofs.YtjgmkbldclangaaGreatDoor.Kk

namespace Go.Proofs.YtjgmkbldclangaaGreatDoor
open Go.RowKit Go.Sort
open Kk (Rk rk0 texL texR decS scoreB rightB ranksB OwnR flatR encR markB)

set_option maxHeartbeats 1000000 in
/-- eqStringS at two slices that read as the same strings. -/
theorem eqS_any (a a' : Option Addr) (b off b' off' n c c' : Nat) (ss : List ByteArray) (w : World) (h : StrsIn w a b off n ss) (h' : StrsIn w a' b' off' n ss) (hn : n ≤ 1048577) :
    Calls Tryz.prog 74 #[.slice a n c, .slice a' n c'] w fun e w' => e = .returned (.bool true) ∧ Below w.heap.size w w' := by
  go_enter Tryz.func74, Tryz.ntmps74
  go_wp2
  go_loopw [5] (fun i wr => ∃ (k q : Nat), k ≤ n ∧ i = .int .i64 k ∧ wr = w.drewN q) (fun i _ => n - (intOf i).toNat)
  case atStart => exact ⟨0, 0, by omega, rfl, rfl⟩
  case round =>
    obtain ⟨k, q, hk, rfl, rfl⟩ := hrel
    by_cases hlt : k < n
    · obtain rfl := h.addr (by omega)
      obtain rfl := h'.addr (by omega)
      have hc := h.cell k hlt
      have hc' := h'.cell k hlt
      generalize ss.getD k ByteArray.empty = s at *
      go_wp2
      go_quiet ((fail))
      go_wp2
      go_roundw
      case rel => exact ⟨k + 1, _, by omega, by go_num, rfl⟩
      case measure => simp [intOf]; omega
    · go_wp2
      go_ret
      exact ⟨rfl, below_drewN (Below.refl _ _) q⟩

theorem eqPair_any (x : Pr) (w : World) : Calls Tryz.prog 87 #[prV x, prV x] w fun e w' => e = .returned (.bool true) ∧ Below w.heap.size w w' := by
  obtain ⟨xm, xs⟩ := x
  go_enter Tryz.func87, Tryz.ntmps87
  go_wp2
  go_ret
  exact ⟨rfl, ((Below.refl _ w).alloc (Nat.le_refl _) _).alloc (by simp) _⟩

set_option maxHeartbeats 1000000 in
theorem eqP_any (a a' : Option Addr) (b b' n c c' : Nat) (L : List Pr) (w : World) (h : PairsIn w a b n L) (h' : PairsIn w a' b' n L) (hn : n ≤ 1048577) :
    Calls Tryz.prog 75 #[.slice a n c, .slice a' n c'] w fun e w' => e = .returned (.bool true) ∧ Below w.heap.size w w' := by
  have H : Hid (PairsIn w a b n L) := h
  have H' : Hid (PairsIn w a' b' n L) := h'
  clear h h'
  go_enter Tryz.func75, Tryz.ntmps75
  go_wp2
  go_loopw [5] (fun i wr => ∃ (k : Nat), k ≤ n ∧ i = .int .i64 k ∧ Below w.heap.size w wr) (fun i _ => n - (intOf i).toNat)
  case atStart => exact ⟨0, by omega, rfl, Below.refl _ _⟩
  case round =>
    obtain ⟨k, hk, rfl, bk⟩ := hrel
    have sk := bk.size
    by_cases hlt : k < n
    · have HW := H.out.below bk
      have HW' := H'.out.below bk
      have c0 := HW.c0 k hlt
      have c1 := HW.c1 k hlt
      have d0 := HW'.c0 k hlt
      have d1 := HW'.c1 k hlt
      obtain rfl := HW.addr (by omega)
      obtain rfl := HW'.addr (by omega)
      generalize L.getD k (bz, bz) = x at *
      have cE : ∀ d os, Calls Tryz.prog 87 #[prV x, prV x] (grow (redrawn wr d) os) fun e w'' => e = .returned (.bool true) ∧ ∃ p : Regrown, w'' = grow (redrawn wr p.d) p.os := fun d os => Calls.regrown_of (eqPair_any x _)
      obtain ⟨m, s⟩ := x
      dsimp only at c0 c1 d0 d1
      clear HW HW'
      have kc0 := cell_regrown c0
      have kc1 := cell_regrown c1
      have kd0 := cell_regrown d0
      have kd1 := cell_regrown d1
      go_wp2
      refine wp_region_quiet_below (by kernel_rfl) (by kernel_rfl) ?_
      repeat (quiet_step (first | exact cE _ _))
      refine wpQuiet_nil ?_
      intro _ hw'
      obtain ⟨⟨dq, osq⟩, hw''⟩ := hw'
      subst hw''
      have bq := below_regrown wr dq osq
      generalize grow (redrawn wr dq) osq = wq at *
      go_wp2
      go_roundw
      case rel => exact ⟨k + 1, by omega, by go_num, bk.trans (bq.mono sk)⟩
      case measure => simp [intOf]; omega
    · go_wp2
      go_ret
      exact ⟨rfl, bk⟩
end Go.Proofs.YtjgmkbldclangaaGreatDoor

namespace Go.Proofs.YtjgmkbldclangaaGreatDoor
open Go.RowKit Go.Sort
open Kk (Rk rk0 texL texR decS scoreB rightB ranksB OwnR flatR encR markB)

theorem ret_int {a b : Int} (h : a = b) : Ending.returned (.int .i64 a) = .returned (.int .i64 b) := by rw [h]

/-- The marks of texts, from 1 on. -/
def smarks (n : Nat) : List ByteArray := (List.range n).map fun i => markB (1 + i)
theorem smarks_len (n : Nat) : (smarks n).length = n := by simp [smarks]
theorem smarks_at (n i : Nat) (h : i < n) : (smarks n).getD i ByteArray.empty = markB (1 + i) := by
  unfold smarks
  rw [List.getD_eq_getElem?_getD, List.getElem?_map, List.getElem?_range h]
  rfl

end Go.Proofs.YtjgmkbldclangaaGreatDoor

namespace Go.Proofs.YtjgmkbldclangaaGreatDoor
open Go.RowKit Go.Sort
open Kk (Rk rk0 texL texR decS scoreB rightB ranksB OwnR flatR encR markB)

def PreP (D : Array Value) (L : List Pr) (k : Nat) : Prop := ∀ i, i < k → D[i * 2]? = some (.string (L.getD i (bz, bz)).1) ∧ D[i * 2 + 1]? = some (.string (L.getD i (bz, bz)).2)

theorem preP_put {D : Array Value} {L : List Pr} {k : Nat} {m s : ByteArray} (h : PreP D L k) (hD : k * 2 + 1 < D.size) (hx : L.getD k (bz, bz) = (m, s)) : PreP ((D.setIfInBounds (k * 2) (.string m)).setIfInBounds (k * 2 + 1) (.string s)) L (k + 1) := fun i hi => by
  by_cases e : i = k
  · subst e
    rw [hx]
    refine ⟨?_, ?_⟩
    · rw [Array.getElem?_setIfInBounds_ne (by omega), Array.getElem?_setIfInBounds_self_of_lt (by omega)]
    · rw [Array.getElem?_setIfInBounds_self_of_lt (by rw [Array.size_setIfInBounds]; omega)]
  · obtain ⟨h0, h1⟩ := h i (by omega)
    refine ⟨?_, ?_⟩
    · rw [Array.getElem?_setIfInBounds_ne (by omega), Array.getElem?_setIfInBounds_ne (by omega)]; exact h0
    · rw [Array.getElem?_setIfInBounds_ne (by omega), Array.getElem?_setIfInBounds_ne (by omega)]; exact h1

theorem flatPV_len : ∀ ps : List Pr, (flatPV ps).length = ps.length * 2
  | [] => rfl
  | p :: ps => by
    have e : flatPV (p :: ps) = .string p.1 :: .string p.2 :: flatPV ps := rfl
    rw [e, List.length_cons, List.length_cons, flatPV_len ps, List.length_cons]
    omega

theorem preP_flat {D : Array Value} {L : List Pr} (h : PreP D L L.length) : D.toList.take (L.length * 2) = flatPV L := by
  apply List.ext_getElem?
  intro j
  by_cases hj : j < L.length * 2
  · rw [List.getElem?_take, if_pos hj, Array.getElem?_toList]
    have hi : j / 2 < L.length := by omega
    obtain ⟨f0, f1⟩ := flatPV_at L (j / 2) hi
    obtain ⟨h0, h1⟩ := h (j / 2) hi
    rcases Nat.mod_two_eq_zero_or_one j with hm | hm
    · rw [show j / 2 * 2 = j by omega] at f0 h0
      rw [f0, h0]
    · rw [show j / 2 * 2 + 1 = j by omega] at f1 h1
      rw [f1, h1]
  · rw [List.getElem?_take, if_neg hj, List.getElem?_eq_none (by rw [flatPV_len]; omega)]

theorem rowP_owns {w : World} {g cap B : Nat} {D : Array Value} {L : List Pr} (h : RowAt w g 104 D) (hD : D.size = cap * 2) (hp : PreP D L L.length) (hc : L.length ≤ cap) (hm : cap ≤ maxLen) (hB : B ≤ g) : OwnP w B (.slice (some ⟨g, 0, none⟩) L.length cap) L :=
  ⟨by rw [flatPV_len], .inr ⟨g, cap, D, rfl, hB, h, hc, hm, hD, preP_flat hp⟩⟩

/-- The marks of pairs, from 1 on. -/
def pmark (i : Nat) : Pr := (markB (1 + 2 * i), markB (1 + 2 * i + 1))
def pmarks (n : Nat) : List Pr := (List.range n).map pmark
theorem pmarks_len (n : Nat) : (pmarks n).length = n := by simp [pmarks]
theorem pmarks_at (n i : Nat) (h : i < n) : (pmarks n).getD i (bz, bz) = pmark i := by
  unfold pmarks
  rw [List.getD_eq_getElem?_getD, List.getElem?_map, List.getElem?_range h]
  rfl

end Go.Proofs.YtjgmkbldclangaaGreatDoor
