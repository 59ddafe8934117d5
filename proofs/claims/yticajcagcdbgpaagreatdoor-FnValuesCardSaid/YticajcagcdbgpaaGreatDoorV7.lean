/- impl.contentFrom. -/
import Derived.Test.YticajcagcdbgpaaGreatDoorV6
namespace Go.Proofs.YticajcagcdbgpaaGreatDoor
open Go.RowKit Go.Sort
open Kk (Rk rk0 texL texR decS scoreB rightB ranksB OwnR flatR encR)

theorem content_text {w : World} {B : Nat} {v : Value} {t : ByteArray} (h : OwnS w B v [t]) : Calls Tryz.prog 18 #[.int .u8 49, v] w fun e w' => e = .returned (.tuple #[.iface 71 (.string t), .bool true]) ∧ w' = w := by
  obtain ⟨a, A, c, rfl, h2, _, _, h5⟩ := ownS_cells h
  have hc := h5 0 (by simp)
  obtain ⟨rfl, _, _⟩ := h2 (by simp)
  simp at hc
  have hl : [t].length = 1 := rfl
  rw [hl]
  clear h h2 h5 hl
  go_enter Tryz.func18, Tryz.ntmps18
  go_wp2
  go_ret2
  exact ⟨rfl, rfl⟩

theorem content_text_no {w : World} {B : Nat} {v : Value} {ts : List ByteArray} (h : OwnS w B v ts) (hn : ts.length ≠ 1) : Calls Tryz.prog 18 #[.int .u8 49, v] w fun e w' => e = .returned (.tuple #[.nilIface, .bool false]) ∧ w' = w := by
  obtain ⟨a, c, rfl⟩ := owns_form h
  generalize ts.length = n at *
  have hb : ((n : Int) != 1) = true := by simp; omega
  clear h hn
  go_enter Tryz.func18, Tryz.ntmps18
  go_wp2
  go_ret2
  exact ⟨rfl, rfl⟩

theorem content_items (a : Option Addr) (n c : Nat) (w : World) : Calls Tryz.prog 18 #[.int .u8 50, .slice a n c] w fun e w' => e = .returned (.tuple #[.iface 72 (.slice a n c), .bool true]) ∧ w' = w := by
  go_enter Tryz.func18, Tryz.ntmps18
  go_wp2
  go_ret2
  exact ⟨rfl, rfl⟩

theorem content_pairs {w : World} {B : Nat} {v : Value} {ts : List ByteArray} (h : OwnS w B v ts) (hz : ∀ t ∈ ts, t.size ≤ 1048576) (hn : ts.length ≤ 1048576) : Calls Tryz.prog 18 #[.int .u8 51, v] w fun e w' => ∃ v, e = .returned (.tuple #[.iface 73 v, .bool (decide (ts.length % 2 = 0))]) ∧ OwnP w' w.heap.size v (pairUp ts) ∧ Below w.heap.size w w' := by
  obtain ⟨a, A, c, rfl, hs, hc, hc2⟩ := ownS_in h hz
  have HC : Hid (Calls Tryz.prog 36 #[.slice a ts.length c] w fun e w' => ∃ v, e = .returned (.tuple #[.iface 73 v, .bool (decide (ts.length % 2 = 0))]) ∧ OwnP w' w.heap.size v (pairUp ts) ∧ Below w.heap.size w w') := pairsFrom_any a A 0 ts.length c ts w hs hn hc hc2
  generalize decide (ts.length % 2 = 0) = o at *
  generalize ts.length = n at *
  generalize pairUp ts = ps at *
  clear h hs hz
  go_enter Tryz.func18, Tryz.ntmps18
  go_wp2_with fail
  refine HC.out.mono ?_
  rintro e w1 ⟨v, rfl, ho, hb⟩
  go_wp2
  go_ret2
  exact ⟨v, rfl, ho, hb⟩

theorem content_ranks {w : World} {B : Nat} {v : Value} {ts : List ByteArray} (h : OwnS w B v ts) (hz : ∀ t ∈ ts, t.size ≤ 1048576) (hn : ts.length ≤ 1048576) (hr : Ready w) : Calls Tryz.prog 18 #[.int .u8 52, v] w (RanksEnd w (rankDec ts)) := by
  obtain ⟨a, A, c, rfl, hs, hc, hc2⟩ := ownS_in h hz
  have HC := ranksFrom_any a A 0 ts.length c ts w hs hz hn hc hc2 hr
  generalize rankDec ts = T at *
  have HC' : Hid (Calls Tryz.prog 37 #[.slice a ts.length c] w fun e w' => ∃ v, e = .returned (.tuple #[v, .bool T.isSome]) ∧ (∀ rs, T = some rs → ∃ u, v = .iface 74 u ∧ OwnR w' w.heap.size u rs) ∧ Below w.heap.size w w') := HC
  have HE : Hid (∀ v w', (∀ rs, T = some rs → ∃ u, v = .iface 74 u ∧ OwnR w' w.heap.size u rs) → Below w.heap.size w w' → RanksEnd w T (.returned (.tuple #[v, .bool T.isSome])) w') := fun v w' h1 h2 => ⟨v, rfl, h1, h2⟩
  generalize T.isSome = o at *
  generalize ts.length = n at *
  clear h hs hz HC
  go_enter Tryz.func18, Tryz.ntmps18
  go_wp2_with fail
  refine HC'.out.mono ?_
  rintro e w1 ⟨v, rfl, ho, hb⟩
  have HX : Hid _ := ho
  clear ho
  go_wp2
  go_ret2
  exact HE.out v w1 HX.out hb

theorem content_else (b : Nat) (v : Value) (w : World) (h1 : b ≠ 49) (h2 : b ≠ 50) (h3 : b ≠ 51) (h4 : b ≠ 52) : Calls Tryz.prog 18 #[.int .u8 b, v] w fun e w' => e = .returned (.tuple #[.nilIface, .bool false]) ∧ w' = w := by
  have e1 : ((b : Int) == 49) = false := by simp; omega
  have e2 : ((b : Int) == 50) = false := by simp; omega
  have e3 : ((b : Int) == 51) = false := by simp; omega
  have e4 : ((b : Int) == 52) = false := by simp; omega
  clear h1 h2 h3 h4
  go_enter Tryz.func18, Tryz.ntmps18
  go_wp2
  go_ret2
  exact ⟨rfl, rfl⟩
end Go.Proofs.YticajcagcdbgpaaGreatDoor
