import Derived.Test.YtokafonppgppdaaGreatDoorG2
set_option maxHeartbeats 8000000
set_option maxRecDepth 100000
namespace Go.Proofs.YtokafonppgppdaaGreatDoor
open Go.RowKit Go.Sort
open Kk (Rk rk0 zd7 zju zc6 zea zeb zec za9 zbk encR zdh)
def okV (L:List KV) (j:Nat):Bool:=kyV L j&&riV L j
theorem ydc (p q:Nat->Bool) (n:Nat):((List.range n).all q&&(List.range n).all p)=(List.range n).all fun j=>p j&&q j:=by
 rw [Bool.eq_iff_iff];simp only [Qh,Qw];exact ⟨fun ⟨h1,h2⟩ x hx=>⟨h2 x hx,h1 x hx⟩,fun h=>⟨fun x hx=> (h x hx).2,fun x hx=> (h x hx).1⟩⟩
theorem ydi (L:List KV) (n:Nat) (h:L.length=n):zan (L.map KV.key)=(decide (n<=20)&&(List.range n).all (okV L)):=by
 rw [zzw,h,ydc];rfl
theorem zqa (t:Int) (w:World):Calls Tryz.prog 52 #[.int .i64 t,.int .i64 0,.int .i64 1000000000] w fun e w'=>e= .returned (.bool (zdr t))/\Bl w w':=
 (Hp.zck t 0 1000000000 w).mono fun e w' ⟨he,hw⟩=>⟨by rw [he];exact zae (by unfold zdr;rw [Bool.eq_iff_iff];simp),by rw [hw];exact Qb _ _⟩
end Go.Proofs.YtokafonppgppdaaGreatDoor
