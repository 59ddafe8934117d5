import Derived.Test.YtibhabajknikcaaGreatDoorG2
import Derived.Test.YtibhabajknikcaaGreatDoorWa
import Derived.Lib.QuietBelow
set_option maxHeartbeats 8000000
set_option maxRecDepth 100000
namespace Go.Proofs.YtibhabajknikcaaGreatDoor
open Go.RowKit Go.Sort
open Kk (Rk rk0 texL texR decS zea zeb zec OwnR flatR encR zdh)
def okV (L:List KV) (j:Nat):Bool:=kyV L j&&riV L j
theorem all_both (p q:Nat→Bool) (n:Nat):((List.range n).all q&&(List.range n).all p)=(List.range n).all fun j=>p j&&q j:=by
 rw [Bool.eq_iff_iff];simp only [Bool.and_eq_true,List.all_eq_true];exact ⟨fun ⟨h1,h2⟩ x hx=>⟨h2 x hx,h1 x hx⟩,fun h=>⟨fun x hx=> (h x hx).2,fun x hx=> (h x hx).1⟩⟩
theorem dbOk_eq2 (L:List KV) (n:Nat) (h:L.length=n):dbOkB (L.map KV.key)=(decide (n≤20)&&(List.range n).all (okV L)):=by
 rw [dbOk_eq,h,all_both];rfl
theorem l1In_time (t:Int) (w:World):Calls Tryz.prog 50 #[.int .i64 t,.int .i64 0,.int .i64 1000000000] w fun e w'=>e= .returned (.bool (timeB t))∧Below w.heap.size w w':=
 (Hp.l1In_any t 0 1000000000 w).mono fun e w' ⟨he,hw⟩=>⟨by rw [he];exact zae (by unfold timeB;rw [Bool.eq_iff_iff];simp),by rw [hw];exact Below.refl _ _⟩
end Go.Proofs.YtibhabajknikcaaGreatDoor
