/- giveUp and attempt at this dump: a panic that a deferred recover turns into a code. -/
import Derived.Test.YtjgmkbldclangaaGreatDoorFSmall
import Derived.Defers
import Derived.Recover
namespace Go.Proofs.YtjgmkbldclangaaGreatDoor.Fd
open Go.RowKit

/-- What a reader that gives up with the code c panics with. -/
def gaveUp (c : Int) : Ending := .panicked [{ v := .iface 157 (.int .i64 c), recovered := false }]

set_option maxHeartbeats 400000 in
theorem giveUp_any (c : Int) (w : World) : Calls Tryz.prog 100 #[.int .i64 c] w fun e w' => e = gaveUp c ∧ w' = w := by
  go_enter Tryz.func100, Tryz.ntmps100
  go_wp2
  exact ⟨rfl, rfl, rfl⟩

set_option maxRecDepth 100000 in
theorem catch_panicking (p : Addr) (x c : Int) (w : World) (hc : w.cell? p = some (.int .i64 x)) (hz : w.frozen? p = false) :
    CallsD Tryz.prog 99 #[.pointer (some p)] (.panicking [{ v := .iface 157 (.int .i64 c), recovered := false }]) w fun e u' w' =>
      e = .returned (.tuple #[]) ∧ u' = .panicking [{ v := .iface 157 (.int .i64 c), recovered := true }] ∧ w' = w.setCell p (.int .i64 c) := by
  refine callsD_of_wpS Tryz.func99 rfl fun c₀ cs hu => ?_
  apply wpS_seq
  apply wpS_region
  simp [wpOpsS, go_sem, recoverD, hu, Tryz.ntmps99, Exit.thenS]
  refine wpS_of_wp ?_
  have hta : ∀ (w : World), (Instr.typeAssert (.iface 157 (.int .i64 c)) 20 157 false).run Tryz.prog w = .ok (.int .i64 c) w := fun _ => by kernel_rfl
  change Code.wp _ _ _ ⟨#[.pointer (some p), .iface 157 (.int .i64 c), .iface 157 (.int .i64 c), undef, undef, undef, undef], []⟩ _
  go_wp2
  cases c₀
  simp_all [bodyPostS, results, Tryz.results99]

theorem catch_idle (p : Addr) (w : World) :
    CallsD Tryz.prog 99 #[.pointer (some p)] .returning w fun e u' w' => e = .returned (.tuple #[]) ∧ u' = .returning ∧ w' = w := by
  refine callsD_of_wpS Tryz.func99 rfl fun c₀ cs hu => ?_
  apply wpS_seq
  apply wpS_region
  simp [wpOpsS, go_sem, recoverD, hu, Tryz.ntmps99, Exit.thenS]
  refine wpS_of_wp ?_
  change Code.wp _ _ _ ⟨#[.pointer (some p), .nilIface, .nilIface, undef, undef, undef, undef], []⟩ _
  go_wp2
  cases c₀
  simp_all [bodyPostS, results, Tryz.results99]

set_option maxHeartbeats 1000000 in
set_option maxRecDepth 100000 in
theorem attempt_done (f : FuncId) (caps : Array Value) (w : World) (R : World → Prop) (hent : ∀ w, (callFunc f caps).run Tryz.prog w = .ok (.enter f caps) w) (hR : ∀ w', R w' → w'.cell? ⟨w.heap.size, 0, none⟩ = some (.int .i64 0) ∧ w'.frozen? ⟨w.heap.size, 0, none⟩ = false)
    (h : Calls Tryz.prog f caps (w.alloc (.cells #[.int .i64 0] 2)) fun e w' => e = .returned (.tuple #[]) ∧ R w') :
    Calls Tryz.prog 96 #[.func (.func f) #[] caps] w fun e w' => e = .returned (.int .i64 0) ∧ ∃ w1, R w1 ∧ w' = w1.setCell ⟨w.heap.size, 0, none⟩ (.int .i64 0) := by
  have hmf : ∀ (fn : Fn) (first cap : Array Value) (w : World), (Instr.makeFunc fn first cap).run Tryz.prog w = .ok (.func fn first cap) w := fun _ _ _ _ => rfl
  have H : Hid (Calls Tryz.prog f caps (w.alloc (.cells #[.int .i64 0] 2)) fun e w' => e = .returned (.tuple #[]) ∧ R w') := h
  have HR : Hid (∀ w', R w' → w'.cell? ⟨w.heap.size, 0, none⟩ = some (.int .i64 0) ∧ w'.frozen? ⟨w.heap.size, 0, none⟩ = false) := hR
  clear h hR
  go_enter_defers Tryz.func96, Tryz.ntmps96
  go_wp2_with fail
  refine H.out.mono ?_
  rintro e w1 ⟨rfl, hr⟩
  obtain ⟨hc, hz⟩ := HR.out w1 hr
  go_wp2
  refine leaves_cons (f := 99) (args := #[.pointer (some ⟨w.heap.size, 0, none⟩)]) (by simp) (by simp [go_sem]) ?_
  refine (catch_idle ⟨w.heap.size, 0, none⟩ _).mono ?_
  rintro e u' w'' ⟨rfl, rfl, rfl⟩
  have hsame : (w1.setCell ⟨w.heap.size, 0, none⟩ (.int .i64 0)).cell? ⟨w.heap.size, 0, none⟩ = some (.int .i64 0) := World.cell?_setCell_same _ _ _ hc
  simp [Leaves, settle, results, Tryz.results96, go_sem, hsame]
  exact ⟨w1, hr, rfl⟩

set_option maxHeartbeats 1000000 in
set_option maxRecDepth 100000 in
theorem attempt_gave (f : FuncId) (caps : Array Value) (c : Int) (w : World) (R : World → Prop) (hent : ∀ w, (callFunc f caps).run Tryz.prog w = .ok (.enter f caps) w) (hR : ∀ w', R w' → w'.cell? ⟨w.heap.size, 0, none⟩ = some (.int .i64 0) ∧ w'.frozen? ⟨w.heap.size, 0, none⟩ = false)
    (h : Calls Tryz.prog f caps (w.alloc (.cells #[.int .i64 0] 2)) fun e w' => e = gaveUp c ∧ R w') :
    Calls Tryz.prog 96 #[.func (.func f) #[] caps] w fun e w' => e = .returned (.int .i64 c) ∧ ∃ w1, R w1 ∧ w' = w1.setCell ⟨w.heap.size, 0, none⟩ (.int .i64 c) := by
  have hmf : ∀ (fn : Fn) (first cap : Array Value) (w : World), (Instr.makeFunc fn first cap).run Tryz.prog w = .ok (.func fn first cap) w := fun _ _ _ _ => rfl
  have H : Hid (Calls Tryz.prog f caps (w.alloc (.cells #[.int .i64 0] 2)) fun e w' => e = gaveUp c ∧ R w') := h
  have HR : Hid (∀ w', R w' → w'.cell? ⟨w.heap.size, 0, none⟩ = some (.int .i64 0) ∧ w'.frozen? ⟨w.heap.size, 0, none⟩ = false) := hR
  clear h hR
  go_enter_defers Tryz.func96, Tryz.ntmps96
  go_wp2_with fail
  refine H.out.mono ?_
  rintro e w1 ⟨rfl, hr⟩
  obtain ⟨hc, hz⟩ := HR.out w1 hr
  unfold gaveUp
  go_wp2
  refine leaves_cons (f := 99) (args := #[.pointer (some ⟨w.heap.size, 0, none⟩)]) (by simp) (by simp [go_sem]) ?_
  refine (catch_panicking ⟨w.heap.size, 0, none⟩ 0 c _ hc hz).mono ?_
  rintro e u' w'' ⟨rfl, rfl, rfl⟩
  have hsame : (w1.setCell ⟨w.heap.size, 0, none⟩ (.int .i64 c)).cell? ⟨w.heap.size, 0, none⟩ = some (.int .i64 c) := World.cell?_setCell_same _ _ _ hc
  simp [Leaves, settle, results, Tryz.results96, go_sem, hsame]
  exact ⟨w1, hr, rfl⟩
end Go.Proofs.YtjgmkbldclangaaGreatDoor.Fd
