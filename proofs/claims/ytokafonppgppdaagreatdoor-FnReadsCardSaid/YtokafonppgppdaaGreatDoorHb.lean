import Derived.Test.YtokafonppgppdaaGreatDoorHOpenC
import Derived.Deep.DeepCutAuto
set_option maxHeartbeats 8000000
set_option maxRecDepth 100000
namespace Go.Proofs.YtokafonppgppdaaGreatDoor
open Tryz
open Go.RowKit Go.Sort
variable {w:World} {g k:Nat} {T:TypeId} {C D:Array Value} {l:List UInt8}
def zqy (w:World) (g:Nat) (T:TypeId) (C:Array Value):Prop:=w.heap[g]?=some (.cells C T (C.size,C.size+1))
theorem zqy.cell (h:zqy w g T C) (j:Nat):w.cell? ⟨g,j,none⟩=C[j]?:=by
 unfold zqy at h;unfold World.cell?;rw [h];simp
theorem zqy.frozen (h:zqy w g T C) (j:Nat) (hj:j<C.size):w.frozen? ⟨g,j,none⟩=false:=by
 unfold zqy at h;unfold World.frozen?;rw [h];simp;omega
theorem zqy.set (h:zqy w g T C) (j:Nat) (v:Value):zqy (w.setCell ⟨g,j,none⟩ v) g T (C.setIfInBounds j v):=by
 unfold zqy at*;simp [World.setCell,Array.getElem?_modify,h]
theorem wrap_u8 {x:Int} (h0:0<=x) (h1:x<256):IntKind.u8.wrap x=x:=by
 simp [IntKind.wrap,IntKind.bits,IntKind.signed];omega
theorem zm3 (s:ByteArray) (w:World):∃cap W1 D,(convert 9 22 (.string s)).run prog w= .ok (.slice (some ⟨w.heap.size,0,none⟩) s.size cap) W1/\zqy W1 w.heap.size 5 D/\(∀j (hj:j<s.data.toList.length),D[j]?=some (.int .u8 ((s.data.toList[j]).toNat:Int)))/\Bl w W1:=by
 refine ⟨_,_,bytesRow s (grownCap w s.size 0 5),run_bytes_of_string (P:=prog) w 9 22 5 s underlying9 underlying22 underlying5,?_,fun j hj=>?_,?_⟩
 ·show (w.heap.push _)[w.heap.size]?=_;simp
 ·have:=bytesRow_at s (grownCap w s.size 0 5) j (by simpa using hj);rw [this];simp
 ·exact ((below_drewN (Qb _ w) 1)).alloc (Qc _) _
def upB (b:UInt8):UInt8:=if 97<=b.toNat/\b.toNat<=122 then UInt8.ofNat (b.toNat-32) else b
def upN (x:Nat):Nat:=if 97<=x/\x<=122 then x-32 else x
theorem zyq (b:UInt8):(upB b).toNat=upN b.toNat:=by
 have:=b.toNat_lt;unfold upB upN;split
 ·simp;omega
 ·rfl
def zcv (s:ByteArray):ByteArray:=⟨(s.data.toList.map upB).toArray⟩
def zx6 (D:Array Value) (l:List UInt8) (k:Nat):Prop:=∀j (hj:j<l.length),D[j]?=some (.int .u8 (((if j<k then upN (l[j]).toNat else (l[j]).toNat):Nat):Int))
theorem zrk (h:zx6 D l k) (hk:k<l.length) (hD:l.length<=D.size):zx6 (D.setIfInBounds k (.int .u8 ((upN (l[k]).toNat:Nat):Int))) l (k+1):=fun j hj=>by
 by_cases e:k=j
 ·subst e;rw [Array.getElem?_setIfInBounds_self_of_lt (by omega),if_pos (by omega)]
 ·rw [Array.getElem?_setIfInBounds_ne e,h j hj];by_cases e2:j<k
  ·rw [if_pos e2,if_pos (by omega)]
  ·rw [if_neg e2,if_neg (by omega)]
theorem zp1 (h:zx6 D l k) (hk:k<l.length) (hu:upN (l[k]).toNat=(l[k]).toNat):zx6 D l (k+1):=fun j hj=>by
 rw [h j hj];by_cases e:k=j
 ·subst e;rw [if_neg (by omega),if_pos (by omega),hu]
 ·by_cases e2:j<k
  ·rw [if_pos e2,if_pos (by omega)]
  ·rw [if_neg e2,if_neg (by omega)]
theorem zia (s:ByteArray) (w:World) (hs:s.size<=1048576):Calls prog 96 #[.string s] w fun e w'=>e= .returned (.string (zcv s))/\Bl w w':=by
 obtain ⟨cap,W1,D0,hconv,hrow0,hD0,b0⟩:=zm3 s w;have hlen:s.data.toList.length=s.size:=by rw [Lib.size_eq]
 have HD0:Hid (zx6 D0 s.data.toList 0/\s.data.toList.length<=D0.size):=⟨fun j hj=>by rw [if_neg (by omega)];exact hD0 j hj,by
  by_cases h0:s.data.toList.length=0
  ·omega
  ·have:=hD0 (s.data.toList.length-1) (by omega);have:=(Array.getElem?_eq_some_iff.1 this).1;omega⟩
 have HN:Hid (zcv s=⟨(s.data.toList.map upB).toArray⟩):=rfl;have HLEN:Hid (s.data.toList.length=s.size):=hlen;generalize zcv s=NM,s.data.toList=l at*;have hconv':Hid ((convert 9 22 (.string s)).run prog w= .ok (.slice (some ⟨w.heap.size,0,none⟩) s.size cap) W1):=hconv;generalize hn:s.size=n at*;clear hD0 hlen;go_enter func96,ntmps96;go_wp2;go_loopw [4] (fun i wr=>∃(k:Nat) (D:Array Value),k<=n/\i= .int .i64 k/\Hid (zx6 D l k/\l.length<=D.size/\zqy wr w.heap.size 5 D)/\Bl w wr) (fun i _=>n-(intOf i).toNat)
 case atStart=>exact ⟨0,D0,by omega,rfl,⟨HD0.out.1,HD0.out.2,hrow0⟩,b0⟩
 case round=>
  obtain ⟨k,D,hk,rfl,hI,bk⟩:=hrel;clear hconv hconv' hrow0 b0;obtain ⟨hp,hds,hr⟩:=hI.out;by_cases hlt:k<n
  ·have hkl:k<l.length:=by rw [HLEN.out];exact hlt
   have hc:wr.cell? ⟨w.heap.size,k,none⟩=some (.int .u8 (((l[k]).toNat:Nat):Int)):=by
    rw [hr.cell,hp k hkl,if_neg (by omega)]
   have hfz:=hr.frozen k (by omega);have H1:Hid (upN (l[k]).toNat=(l[k]).toNat->zx6 D l (k+1)/\l.length<=D.size/\zqy wr w.heap.size 5 D):=fun e=>⟨zp1 hp hkl e,hds,hr⟩;have H2:Hid (∀y:Nat,upN (l[k]).toNat=y->zx6 (D.setIfInBounds k (.int .u8 (y:Int))) l (k+1)/\l.length<=(D.setIfInBounds k (.int .u8 (y:Int))).size/\zqy (wr.setCell ⟨w.heap.size,k,none⟩ (.int .u8 (y:Int))) w.heap.size 5 (D.setIfInBounds k (.int .u8 (y:Int)))):=fun y hy=>by
    subst hy;exact ⟨zrk hp hkl hds,by rw [Array.size_setIfInBounds];exact hds,hr.set k _⟩
   have hx8:=(l[k]).toNat_lt;generalize (l[k]).toNat=x at*;clear hI hp hds hr;have hk0:(0:Int)<=(k:Int):=by omega
   have hkn:(k:Int)<(n:Int):=by omega
   by_cases h1:97<=x
   ·have g1:decide ((97:Int)<=(x:Int))=true:=Qe (by omega);by_cases h2:x<=122
    ·have g2:decide ((x:Int)<=122)=true:=Qe (by omega);have hw8:IntKind.u8.wrap ((x:Int)-32)=((x-32:Nat):Int):=by
      rw [show (x:Int)-32=((x-32:Nat):Int) by omega];exact wrap_u8 (by omega) (by omega)
     have HN2:Hid _:=H2.out (x-32) (by unfold upN;rw [if_pos ⟨h1,h2⟩]);generalize x-32=y at*;clear H1 H2;go_wp2;go_roundw
     case rel=>exact ⟨k+1,_,by omega,by go_num,HN2,bk.setCell (Qc _) _⟩
     case measure=>simp [intOf];omega
    ·have g2:decide ((x:Int)<=122)=false:=Qf (by omega);have HN2:Hid _:=H1.out (by unfold upN;rw [if_neg (by omega)]);clear H1 H2;go_wp2;go_roundw
     case rel=>exact ⟨k+1,_,by omega,by go_num,HN2,bk⟩
     case measure=>simp [intOf];omega
   ·have g1:decide ((97:Int)<=(x:Int))=false:=Qf (by omega);have HN2:Hid _:=H1.out (by unfold upN;rw [if_neg (by omega)]);clear H1 H2;go_wp2;go_roundw
    case rel=>exact ⟨k+1,_,by omega,by go_num,HN2,bk⟩
    case measure=>simp [intOf];omega
  ·obtain rfl:k=n:=by omega
   have hll:(l.map upB).length=k:=by rw [Qp,HLEN.out]
   have hback:=run_convert_bytes_back (P:=prog) wr 22 9 5 ⟨w.heap.size,0,none⟩ cap (l.map upB) underlying22 underlying5 underlying9 (fun j hj=>by
    have hj':j<l.length:=by rw [Qp] at hj;exact hj
    rw [Addr.add_lit,Qq,hr.cell,hp j hj',if_pos (by rw [HLEN.out] at hj';exact hj'),List.getElem_map,zyq])
   rw [hll] at hback;rw [<-HN.out] at hback;clear hI hp hds hr hll;go_wp2;go_ret;exact ⟨rfl,bk⟩
end Go.Proofs.YtokafonppgppdaaGreatDoor
