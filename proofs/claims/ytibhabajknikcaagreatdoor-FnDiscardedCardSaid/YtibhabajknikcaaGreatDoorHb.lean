import Derived.Test.YtibhabajknikcaaGreatDoorIv
import Derived.Test.YtibhabajknikcaaGreatDoorVa
import Derived.Test.YtibhabajknikcaaGreatDoorHOpenC
import Derived.Test.YtibhabajknikcaaGreatDoorHp1
import Derived.Laws.IdiomStrings
import Derived.Deep.RegionHeldLaw
import Derived.Deep.RegionLaw
import Derived.Deep.RegionWith
import Derived.Deep.CutBlock
import Derived.Deep.DeepCutAuto
import Derived.Lib.SmallJoins
import Derived.Lib.QuietBelow
set_option maxHeartbeats 8000000
set_option maxRecDepth 100000
namespace Go.Proofs.YtibhabajknikcaaGreatDoor
open Go.RowKit Go.Sort
def RowM (w:World) (g:Nat) (T:TypeId) (C:Array Value):Prop:=w.heap[g]?=some (.cells C T (C.size,C.size+1))
theorem RowM.cell {w:World} {g:Nat} {T:TypeId} {C:Array Value} (h:RowM w g T C) (j:Nat):w.cell? ⟨g,j,none⟩=C[j]?:=by
 unfold RowM at h;unfold World.cell?;rw [h];simp
theorem RowM.frozen {w:World} {g:Nat} {T:TypeId} {C:Array Value} (h:RowM w g T C) (j:Nat) (hj:j<C.size):w.frozen? ⟨g,j,none⟩=false:=by
 unfold RowM at h;unfold World.frozen?;rw [h];simp;omega
theorem RowM.set {w:World} {g:Nat} {T:TypeId} {C:Array Value} (h:RowM w g T C) (j:Nat) (v:Value):RowM (w.setCell ⟨g,j,none⟩ v) g T (C.setIfInBounds j v):=by
 unfold RowM at*;simp [World.setCell,Array.getElem?_modify,h]
theorem wrap_u8 {x:Int} (h0:0≤x) (h1:x<256):IntKind.u8.wrap x=x:=by
 simp [IntKind.wrap,IntKind.bits,IntKind.signed];omega
theorem conv_bytes (s:ByteArray) (w:World):∃cap W1 D,(convert 9 22 (.string s)).run Tryz.prog w= .ok (.slice (some ⟨w.heap.size,0,none⟩) s.size cap) W1∧RowM W1 w.heap.size 5 D∧(∀j (hj:j<s.data.toList.length),D[j]?=some (.int .u8 ((s.data.toList[j]).toNat:Int)))∧Below w.heap.size w W1:=by
 refine ⟨_,_,bytesRow s (grownCap w s.size 0 5),run_bytes_of_string (P:=Tryz.prog) w 9 22 5 s Tryz.underlying9 Tryz.underlying22 Tryz.underlying5,?_,fun j hj=>?_,?_⟩
 ·show (w.heap.push _)[w.heap.size]?=_;simp
 ·have:=bytesRow_at s (grownCap w s.size 0 5) j (by simpa using hj);rw [this];simp
 ·exact ((below_drewN (Below.refl _ w) 1)).alloc (Nat.le_refl _) _
def upB (b:UInt8):UInt8:=if 97≤b.toNat∧b.toNat≤122 then UInt8.ofNat (b.toNat-32) else b
def upN (x:Nat):Nat:=if 97≤x∧x≤122 then x-32 else x
theorem upB_nat (b:UInt8):(upB b).toNat=upN b.toNat:=by
 have:=b.toNat_lt;unfold upB upN;split
 ·simp;omega
 ·rfl
def nameM (s:ByteArray):ByteArray:=⟨(s.data.toList.map upB).toArray⟩
def PreN (D:Array Value) (l:List UInt8) (k:Nat):Prop:=∀j (hj:j<l.length),D[j]?=some (.int .u8 (((if j<k then upN (l[j]).toNat else (l[j]).toNat):Nat):Int))
theorem preN_next {D:Array Value} {l:List UInt8} {k:Nat} (h:PreN D l k) (hk:k<l.length) (hD:l.length≤D.size):PreN (D.setIfInBounds k (.int .u8 ((upN (l[k]).toNat:Nat):Int))) l (k+1):=fun j hj=>by
 by_cases e:k=j
 ·subst e;rw [Array.getElem?_setIfInBounds_self_of_lt (by omega),if_pos (by omega)]
 ·rw [Array.getElem?_setIfInBounds_ne e,h j hj];by_cases e2:j<k
  ·rw [if_pos e2,if_pos (by omega)]
  ·rw [if_neg e2,if_neg (by omega)]
theorem preN_same {D:Array Value} {l:List UInt8} {k:Nat} (h:PreN D l k) (hk:k<l.length) (hu:upN (l[k]).toNat=(l[k]).toNat):PreN D l (k+1):=fun j hj=>by
 rw [h j hj];by_cases e:k=j
 ·subst e;rw [if_neg (by omega),if_pos (by omega),hu]
 ·by_cases e2:j<k
  ·rw [if_pos e2,if_pos (by omega)]
  ·rw [if_neg e2,if_neg (by omega)]
theorem name_any (s:ByteArray) (w:World) (hs:s.size≤1048576):Calls Tryz.prog 53 #[.string s] w fun e w'=>e= .returned (.string (nameM s))∧Below w.heap.size w w':=by
 obtain ⟨cap,W1,D0,hconv,hrow0,hD0,b0⟩:=conv_bytes s w;have hlen:s.data.toList.length=s.size:=by rw [Lib.size_eq]
 have HD0:Hid (PreN D0 s.data.toList 0∧s.data.toList.length≤D0.size):=⟨fun j hj=>by rw [if_neg (by omega)];exact hD0 j hj,by
  by_cases h0:s.data.toList.length=0
  ·omega
  ·have:=hD0 (s.data.toList.length-1) (by omega);have:=(Array.getElem?_eq_some_iff.1 this).1;omega⟩
 have HN:Hid (nameM s=⟨(s.data.toList.map upB).toArray⟩):=rfl;have HLEN:Hid (s.data.toList.length=s.size):=hlen;generalize nameM s=NM at*;generalize s.data.toList=l at*;have hconv':Hid ((convert 9 22 (.string s)).run Tryz.prog w= .ok (.slice (some ⟨w.heap.size,0,none⟩) s.size cap) W1):=hconv;generalize hn:s.size=n at*;clear hD0 hlen;go_enter Tryz.func53,Tryz.ntmps53;go_wp2;go_loopw [4] (fun i wr=>∃(k:Nat) (D:Array Value),k≤n∧i= .int .i64 k∧Hid (PreN D l k∧l.length≤D.size∧RowM wr w.heap.size 5 D)∧Below w.heap.size w wr) (fun i _=>n-(intOf i).toNat)
 case atStart=>exact ⟨0,D0,by omega,rfl,⟨HD0.out.1,HD0.out.2,hrow0⟩,b0⟩
 case round=>
  obtain ⟨k,D,hk,rfl,hI,bk⟩:=hrel;clear hconv hconv' hrow0 b0;obtain ⟨hp,hds,hr⟩:=hI.out;by_cases hlt:k<n
  ·have hkl:k<l.length:=by rw [HLEN.out];exact hlt
   have hc:wr.cell? ⟨w.heap.size,k,none⟩=some (.int .u8 (((l[k]).toNat:Nat):Int)):=by
    rw [hr.cell,hp k hkl,if_neg (by omega)]
   have hfz:=hr.frozen k (by omega);have H1:Hid (upN (l[k]).toNat=(l[k]).toNat→PreN D l (k+1)∧l.length≤D.size∧RowM wr w.heap.size 5 D):=fun e=>⟨preN_same hp hkl e,hds,hr⟩;have H2:Hid (∀y:Nat,upN (l[k]).toNat=y→PreN (D.setIfInBounds k (.int .u8 (y:Int))) l (k+1)∧l.length≤(D.setIfInBounds k (.int .u8 (y:Int))).size∧RowM (wr.setCell ⟨w.heap.size,k,none⟩ (.int .u8 (y:Int))) w.heap.size 5 (D.setIfInBounds k (.int .u8 (y:Int)))):=fun y hy=>by
    subst hy;exact ⟨preN_next hp hkl hds,by rw [Array.size_setIfInBounds];exact hds,hr.set k _⟩
   have hx8:=(l[k]).toNat_lt;generalize (l[k]).toNat=x at*;clear hI hp hds hr;have hk0:(0:Int)≤(k:Int):=by omega
   have hkn:(k:Int)<(n:Int):=by omega
   by_cases h1:97≤x
   ·have g1:decide ((97:Int)≤(x:Int))=true:=decide_eq_true (by omega);by_cases h2:x≤122
    ·have g2:decide ((x:Int)≤122)=true:=decide_eq_true (by omega);have hw8:IntKind.u8.wrap ((x:Int)-32)=((x-32:Nat):Int):=by
      rw [show (x:Int)-32=((x-32:Nat):Int) by omega];exact wrap_u8 (by omega) (by omega)
     have HN2:Hid _:=H2.out (x-32) (by unfold upN;rw [if_pos ⟨h1,h2⟩]);generalize x-32=y at*;clear H1 H2;go_wp2;go_roundw
     case rel=>exact ⟨k+1,_,by omega,by go_num,HN2,bk.setCell (Nat.le_refl _) _⟩
     case measure=>simp [intOf];omega
    ·have g2:decide ((x:Int)≤122)=false:=decide_eq_false (by omega);have HN2:Hid _:=H1.out (by unfold upN;rw [if_neg (by omega)]);clear H1 H2;go_wp2;go_roundw
     case rel=>exact ⟨k+1,_,by omega,by go_num,HN2,bk⟩
     case measure=>simp [intOf];omega
   ·have g1:decide ((97:Int)≤(x:Int))=false:=decide_eq_false (by omega);have HN2:Hid _:=H1.out (by unfold upN;rw [if_neg (by omega)]);clear H1 H2;go_wp2;go_roundw
    case rel=>exact ⟨k+1,_,by omega,by go_num,HN2,bk⟩
    case measure=>simp [intOf];omega
  ·obtain rfl:k=n:=by omega
   have hll:(l.map upB).length=k:=by rw [List.length_map,HLEN.out]
   have hback:=run_convert_bytes_back (P:=Tryz.prog) wr 22 9 5 ⟨w.heap.size,0,none⟩ cap (l.map upB) Tryz.underlying22 Tryz.underlying5 Tryz.underlying9 (fun j hj=>by
    have hj':j<l.length:=by rw [List.length_map] at hj;exact hj
    rw [Addr.add_lit,Nat.zero_add,hr.cell,hp j hj',if_pos (by rw [HLEN.out] at hj';exact hj'),List.getElem_map,upB_nat])
   rw [hll] at hback;rw [←HN.out] at hback;clear hI hp hds hr hll;go_wp2;go_ret;exact ⟨rfl,bk⟩
end Go.Proofs.YtibhabajknikcaaGreatDoor
