/- impl.valueOf, impl.contentFrom. -/
import Derived.Test.YticajcagcdbgpaaGreatDoorV5
namespace Go.Proofs.YticajcagcdbgpaaGreatDoor
open Go.RowKit Go.Sort
open Kk (Rk rk0 texL texR decS scoreB rightB ranksB OwnR flatR encR)

abbrev nilS : Value := .slice none 0 0
abbrev vlV (k : Int) (t : ByteArray) (vi vp vr : Value) : Value := .agg #[.int .i64 k, .string t, vi, vp, vr]
abbrev z5 : Array Value := #[.int .i64 0, .string ⟨#[]⟩, .slice none 0 0, .slice none 0 0, .slice none 0 0]
abbrev res5 (w : World) (v0 v1 v2 v3 v4 : Value) (b : Nat) : World := ((((w.setCell ⟨b, 0, none⟩ v0).setCell ⟨b, 1, none⟩ v1).setCell ⟨b, 2, none⟩ v2).setCell ⟨b, 3, none⟩ v3).setCell ⟨b, 4, none⟩ v4

theorem res5_block (w : World) (v0 v1 v2 v3 v4 : Value) (b k : Nat) (h : k ≠ b) : (res5 w v0 v1 v2 v3 v4 b).heap[k]? = w.heap[k]? := by
  unfold res5
  rw [Below.heap_setCell _ _ _ _ (by simpa using h), Below.heap_setCell _ _ _ _ (by simpa using h), Below.heap_setCell _ _ _ _ (by simpa using h), Below.heap_setCell _ _ _ _ (by simpa using h), Below.heap_setCell _ _ _ _ (by simpa using h)]
theorem res5_below {B : Nat} {w w1 : World} (h : Below B w w1) (v0 v1 v2 v3 v4 : Value) (b : Nat) (hb : B ≤ b) : Below B w (res5 w1 v0 v1 v2 v3 v4 b) :=
  ((((h.setCell hb _).setCell hb _).setCell hb _).setCell hb _).setCell hb _

set_option maxHeartbeats 2000000 in
set_option maxRecDepth 100000 in
theorem valueOf_text (t : ByteArray) (w : World) : Calls Tryz.prog 19 #[.iface 71 (.string t)] w fun e w' => e = .returned (vlV 1 t nilS nilS nilS) ∧ Below w.heap.size w w' := by
  have y59 : ∀ (w : World), (Instr.typeAssert (.iface 71 (.string t)) 40 71 true).run Tryz.prog w = .ok (.tuple #[(.string t), .bool true]) w := fun _ => by kernel_rfl
  go_enter Tryz.func19, Tryz.ntmps19
  go_wp2
  exact bodyPost_ret (v := vlV 1 t nilS nilS nilS) (by simp [results, Tryz.results19, go_sem]) rfl ⟨rfl, (Below.refl _ w).alloc (Nat.le_refl _) _⟩

set_option maxHeartbeats 2000000 in
set_option maxRecDepth 100000 in
theorem valueOf_items (a : Option Addr) (n c : Nat) (w : World) : Calls Tryz.prog 19 #[.iface 72 (.slice a n c)] w fun e w' => e = .returned (vlV 2 ⟨#[]⟩ (.slice a n c) nilS nilS) ∧ Below w.heap.size w w' := by
  have n59 : ∀ (w : World), (Instr.typeAssert (.iface 72 (.slice a n c)) 40 71 true).run Tryz.prog w = .ok (.tuple #[.string ⟨#[]⟩, .bool false]) w := fun _ => by kernel_rfl
  have y60 : ∀ (w : World), (Instr.typeAssert (.iface 72 (.slice a n c)) 40 72 true).run Tryz.prog w = .ok (.tuple #[(.slice a n c), .bool true]) w := fun _ => by kernel_rfl
  go_enter Tryz.func19, Tryz.ntmps19
  go_wp2
  exact bodyPost_ret (v := vlV 2 ⟨#[]⟩ (.slice a n c) nilS nilS) (by simp [results, Tryz.results19, go_sem]) rfl ⟨rfl, (Below.refl _ w).alloc (Nat.le_refl _) _⟩

set_option maxHeartbeats 2000000 in
set_option maxRecDepth 100000 in
theorem valueOf_pairs (a : Option Addr) (n c : Nat) (w : World) : Calls Tryz.prog 19 #[.iface 73 (.slice a n c)] w fun e w' => e = .returned (vlV 3 ⟨#[]⟩ nilS (.slice a n c) nilS) ∧ Below w.heap.size w w' := by
  have n59 : ∀ (w : World), (Instr.typeAssert (.iface 73 (.slice a n c)) 40 71 true).run Tryz.prog w = .ok (.tuple #[.string ⟨#[]⟩, .bool false]) w := fun _ => by kernel_rfl
  have n60 : ∀ (w : World), (Instr.typeAssert (.iface 73 (.slice a n c)) 40 72 true).run Tryz.prog w = .ok (.tuple #[.slice none 0 0, .bool false]) w := fun _ => by kernel_rfl
  have y62 : ∀ (w : World), (Instr.typeAssert (.iface 73 (.slice a n c)) 40 73 true).run Tryz.prog w = .ok (.tuple #[(.slice a n c), .bool true]) w := fun _ => by kernel_rfl
  go_enter Tryz.func19, Tryz.ntmps19
  go_wp2
  exact bodyPost_ret (v := vlV 3 ⟨#[]⟩ nilS (.slice a n c) nilS) (by simp [results, Tryz.results19, go_sem]) rfl ⟨rfl, (Below.refl _ w).alloc (Nat.le_refl _) _⟩

set_option maxHeartbeats 2000000 in
set_option maxRecDepth 100000 in
theorem valueOf_ranks (a : Option Addr) (n c : Nat) (w : World) : Calls Tryz.prog 19 #[.iface 74 (.slice a n c)] w fun e w' => e = .returned (vlV 4 ⟨#[]⟩ nilS nilS (.slice a n c)) ∧ Below w.heap.size w w' := by
  have n59 : ∀ (w : World), (Instr.typeAssert (.iface 74 (.slice a n c)) 40 71 true).run Tryz.prog w = .ok (.tuple #[.string ⟨#[]⟩, .bool false]) w := fun _ => by kernel_rfl
  have n60 : ∀ (w : World), (Instr.typeAssert (.iface 74 (.slice a n c)) 40 72 true).run Tryz.prog w = .ok (.tuple #[.slice none 0 0, .bool false]) w := fun _ => by kernel_rfl
  have n62 : ∀ (w : World), (Instr.typeAssert (.iface 74 (.slice a n c)) 40 73 true).run Tryz.prog w = .ok (.tuple #[.slice none 0 0, .bool false]) w := fun _ => by kernel_rfl
  have y63 : ∀ (w : World), (Instr.typeAssert (.iface 74 (.slice a n c)) 40 74 true).run Tryz.prog w = .ok (.tuple #[(.slice a n c), .bool true]) w := fun _ => by kernel_rfl
  go_enter Tryz.func19, Tryz.ntmps19
  go_wp2
  exact bodyPost_ret (v := vlV 4 ⟨#[]⟩ nilS nilS (.slice a n c)) (by simp [results, Tryz.results19, go_sem]) rfl ⟨rfl, (Below.refl _ w).alloc (Nat.le_refl _) _⟩

end Go.Proofs.YticajcagcdbgpaaGreatDoor
