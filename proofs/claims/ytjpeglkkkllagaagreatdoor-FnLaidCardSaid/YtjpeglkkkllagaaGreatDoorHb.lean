import Derived.Test.YtjpeglkkkllagaaGreatDoorIv
import Derived.Test.YtjpeglkkkllagaaGreatDoorVa
import Derived.Test.YtjpeglkkkllagaaGreatDoorHp5
import Derived.Test.YtjpeglkkkllagaaGreatDoorHa
import Derived.Laws.IdiomStrings
set_option maxHeartbeats 8000000
set_option maxRecDepth 100000
namespace Go.Proofs.YtjpeglkkkllagaaGreatDoor
open Go.RowKit Go.Sort
def RowM (w:World) (g:Nat) (T:TypeId) (C:Array Value):Prop:=w.heap[g]?=some (.cells C T (C.size,C.size+1))
theorem RowM.cell {w:World} {g:Nat} {T:TypeId} {C:Array Value} (h:RowM w g T C) (j:Nat):w.cell? ⟨g,j,none⟩=C[j]?:=by
 unfold RowM at h;unfold World.cell?;rw [h];simp
theorem RowM.frozen {w:World} {g:Nat} {T:TypeId} {C:Array Value} (h:RowM w g T C) (j:Nat) (hj:j<C.size):w.frozen? ⟨g,j,none⟩=false:=by
 unfold RowM at h;unfold World.frozen?;rw [h];simp;omega
theorem RowM.set {w:World} {g:Nat} {T:TypeId} {C:Array Value} (h:RowM w g T C) (j:Nat) (v:Value):RowM (w.setCell ⟨g,j,none⟩ v) g T (C.setIfInBounds j v):=by
 unfold RowM at*;simp [World.setCell,Array.getElem?_modify,h]
theorem wrap_u8 {x:Int} (h0:0≤x) (h1:x<256):IntKind.u8.wrap x=x:=by
 simp [IntKind.wrap,IntKind.bits,IntKind.signed];omega
theorem conv_bytes (s:ByteArray) (w:World):∃cap W1 D,(convert 9 22 (.string s)).run Tryz.prog w= .ok (.slice (some ⟨w.heap.size,0,none⟩) s.size cap) W1∧RowM W1 w.heap.size 5 D∧(∀j (hj:j<s.data.toList.length),D[j]?=some (.int .u8 ((s.data.toList[j]).toNat:Int)))∧Below w.heap.size w W1:=by
 refine ⟨_,_,bytesRow s (grownCap w s.size 0 5),run_bytes_of_string (P:=Tryz.prog) w 9 22 5 s Tryz.underlying9 Tryz.underlying22 Tryz.underlying5,?_,fun j hj=>?_,?_⟩
 ·show (w.heap.push _)[w.heap.size]?=_;simp
 ·have:=bytesRow_at s (grownCap w s.size 0 5) j (by simpa using hj);rw [this];simp
 ·exact ((below_drewN (Below.refl _ w) 1)).alloc (Nat.le_refl _) _
def upB (b:UInt8):UInt8:=if 97≤b.toNat∧b.toNat≤122 then UInt8.ofNat (b.toNat-32) else b
def upN (x:Nat):Nat:=if 97≤x∧x≤122 then x-32 else x
theorem upB_nat (b:UInt8):(upB b).toNat=upN b.toNat:=by
 have:=b.toNat_lt;unfold upB upN;split
 ·simp;omega
 ·rfl
def nameM (s:ByteArray):ByteArray:=⟨(s.data.toList.map upB).toArray⟩
def PreN (D:Array Value) (l:List UInt8) (k:Nat):Prop:=∀j (hj:j<l.length),D[j]?=some (.int .u8 (((if j<k then upN (l[j]).toNat else (l[j]).toNat):Nat):Int))
theorem preN_next {D:Array Value} {l:List UInt8} {k:Nat} (h:PreN D l k) (hk:k<l.length) (hD:l.length≤D.size):PreN (D.setIfInBounds k (.int .u8 ((upN (l[k]).toNat:Nat):Int))) l (k+1):=fun j hj=>by
 by_cases e:k=j
 ·subst e;rw [Array.getElem?_setIfInBounds_self_of_lt (by omega),if_pos (by omega)]
 ·rw [Array.getElem?_setIfInBounds_ne e,h j hj];by_cases e2:j<k
  ·rw [if_pos e2,if_pos (by omega)]
  ·rw [if_neg e2,if_neg (by omega)]
theorem preN_same {D:Array Value} {l:List UInt8} {k:Nat} (h:PreN D l k) (hk:k<l.length) (hu:upN (l[k]).toNat=(l[k]).toNat):PreN D l (k+1):=fun j hj=>by
 rw [h j hj];by_cases e:k=j
 ·subst e;rw [if_neg (by omega),if_pos (by omega),hu]
 ·by_cases e2:j<k
  ·rw [if_pos e2,if_pos (by omega)]
  ·rw [if_neg e2,if_neg (by omega)]
theorem name_any (s:ByteArray) (w:World) (hs:s.size≤1048576):Calls Tryz.prog 87 #[.string s] w fun e w'=>e= .returned (.string (nameM s))∧Below w.heap.size w w':=by
 obtain ⟨cap,W1,D0,hconv,hrow0,hD0,b0⟩:=conv_bytes s w;have hlen:s.data.toList.length=s.size:=by rw [Lib.size_eq]
 have HD0:Hid (PreN D0 s.data.toList 0∧s.data.toList.length≤D0.size):=⟨fun j hj=>by rw [if_neg (by omega)];exact hD0 j hj,by
  by_cases h0:s.data.toList.length=0
  ·omega
  ·have:=hD0 (s.data.toList.length-1) (by omega);have:=(Array.getElem?_eq_some_iff.1 this).1;omega⟩
 have HN:Hid (nameM s=⟨(s.data.toList.map upB).toArray⟩):=rfl;have HLEN:Hid (s.data.toList.length=s.size):=hlen;generalize nameM s=NM at*;generalize s.data.toList=l at*;have hconv':Hid ((convert 9 22 (.string s)).run Tryz.prog w= .ok (.slice (some ⟨w.heap.size,0,none⟩) s.size cap) W1):=hconv;generalize hn:s.size=n at*;clear hD0 hlen;go_enter Tryz.func87,Tryz.ntmps87;go_wp2;go_loopw [4] (fun i wr=>∃(k:Nat) (D:Array Value),k≤n∧i= .int .i64 k∧Hid (PreN D l k∧l.length≤D.size∧RowM wr w.heap.size 5 D)∧Below w.heap.size w wr) (fun i _=>n-(intOf i).toNat)
 case atStart=>exact ⟨0,D0,by omega,rfl,⟨HD0.out.1,HD0.out.2,hrow0⟩,b0⟩
 case round=>
  obtain ⟨k,D,hk,rfl,hI,bk⟩:=hrel;clear hconv hconv' hrow0 b0;obtain ⟨hp,hds,hr⟩:=hI.out;by_cases hlt:k<n
  ·have hkl:k<l.length:=by rw [HLEN.out];exact hlt
   have hc:wr.cell? ⟨w.heap.size,k,none⟩=some (.int .u8 (((l[k]).toNat:Nat):Int)):=by
    rw [hr.cell,hp k hkl,if_neg (by omega)]
   have hfz:=hr.frozen k (by omega);have H1:Hid (upN (l[k]).toNat=(l[k]).toNat→PreN D l (k+1)∧l.length≤D.size∧RowM wr w.heap.size 5 D):=fun e=>⟨preN_same hp hkl e,hds,hr⟩;have H2:Hid (∀y:Nat,upN (l[k]).toNat=y→PreN (D.setIfInBounds k (.int .u8 (y:Int))) l (k+1)∧l.length≤(D.setIfInBounds k (.int .u8 (y:Int))).size∧RowM (wr.setCell ⟨w.heap.size,k,none⟩ (.int .u8 (y:Int))) w.heap.size 5 (D.setIfInBounds k (.int .u8 (y:Int)))):=fun y hy=>by
    subst hy;exact ⟨preN_next hp hkl hds,by rw [Array.size_setIfInBounds];exact hds,hr.set k _⟩
   have hx8:=(l[k]).toNat_lt;generalize (l[k]).toNat=x at*;clear hI hp hds hr;have hk0:(0:Int)≤(k:Int):=by omega
   have hkn:(k:Int)<(n:Int):=by omega
   by_cases h1:97≤x
   ·have g1:decide ((97:Int)≤(x:Int))=true:=decide_eq_true (by omega);by_cases h2:x≤122
    ·have g2:decide ((x:Int)≤122)=true:=decide_eq_true (by omega);have hw8:IntKind.u8.wrap ((x:Int)-32)=((x-32:Nat):Int):=by
      rw [show (x:Int)-32=((x-32:Nat):Int) by omega];exact wrap_u8 (by omega) (by omega)
     have HN2:Hid _:=H2.out (x-32) (by unfold upN;rw [if_pos ⟨h1,h2⟩]);generalize x-32=y at*;clear H1 H2;go_wp2;go_roundw
     case rel=>exact ⟨k+1,_,by omega,by go_num,HN2,bk.setCell (Nat.le_refl _) _⟩
     case measure=>simp [intOf];omega
    ·have g2:decide ((x:Int)≤122)=false:=decide_eq_false (by omega);have HN2:Hid _:=H1.out (by unfold upN;rw [if_neg (by omega)]);clear H1 H2;go_wp2;go_roundw
     case rel=>exact ⟨k+1,_,by omega,by go_num,HN2,bk⟩
     case measure=>simp [intOf];omega
   ·have g1:decide ((97:Int)≤(x:Int))=false:=decide_eq_false (by omega);have HN2:Hid _:=H1.out (by unfold upN;rw [if_neg (by omega)]);clear H1 H2;go_wp2;go_roundw
    case rel=>exact ⟨k+1,_,by omega,by go_num,HN2,bk⟩
    case measure=>simp [intOf];omega
  ·obtain rfl:k=n:=by omega
   have hll:(l.map upB).length=k:=by rw [List.length_map,HLEN.out]
   have hback:=run_convert_bytes_back (P:=Tryz.prog) wr 22 9 5 ⟨w.heap.size,0,none⟩ cap (l.map upB) Tryz.underlying22 Tryz.underlying5 Tryz.underlying9 (fun j hj=>by
    have hj':j<l.length:=by rw [List.length_map] at hj;exact hj
    rw [Addr.add_lit,Nat.zero_add,hr.cell,hp j hj',if_pos (by rw [HLEN.out] at hj';exact hj'),List.getElem_map,upB_nat])
   rw [hll] at hback;rw [←HN.out] at hback;clear hI hp hds hr hll;go_wp2;go_ret;exact ⟨rfl,bk⟩
end Go.Proofs.YtjpeglkkkllagaaGreatDoor
namespace Go.Proofs.YtjpeglkkkllagaaGreatDoor
open Go.RowKit Go.Sort
open Hp (own_ne)
theorem form_any {w:World} {B e size n:Nat} {v:Value} {xs:List Value} (h:w.ownsRow B e size v n xs):∃a A cap,v= .slice a n cap∧(0<n→a=some ⟨A,0,none⟩):=by
 rcases Go.Joins.ownsRow_forms h with ⟨rfl,rfl⟩|⟨A,cap,rfl⟩
 ·exact ⟨none,0,0,rfl,fun h=>by omega⟩
 ·exact ⟨some ⟨A,0,none⟩,A,cap,rfl,fun _=>rfl⟩
theorem RowAt.more {w:World} {g:Nat} {T:TypeId} {C:Array Value} (h:RowAt w g T C) (o:Obj):RowAt (w.alloc o) g T C:=h.below ((Below.refl _ w).alloc (Nat.le_refl _) o) h.lt
theorem RowAt.first {w:World} {g:Nat} {T:TypeId} {C:Array Value} (h:g=w.heap.size):RowAt (w.alloc (.cells C T)) g T C:=by subst h;exact RowAt.new w T C
theorem RowAt.drew {w:World} {g:Nat} {T:TypeId} {C:Array Value} (h:RowAt w g T C):RowAt w.drew g T C:=h
theorem RowAt.skip {w:World} {g q:Nat} {T:TypeId} {C:Array Value} {x y:Value} (h:RowAt w g T C) (hq:g≠q):RowAt ((w.setCell ⟨q,0,none⟩ x).setCell ⟨q,1,none⟩ y) g T C:=
 ((Below.heap_setCell _ _ _ _ (by simp only;omega)).trans (Below.heap_setCell _ _ _ _ (by simp only;omega))).trans h
theorem RowAt.both {w:World} {g:Nat} {T:TypeId} {a b x y:Value} (h:RowAt w g T #[a,b]):RowAt ((w.setCell ⟨g,0,none⟩ x).setCell ⟨g,1,none⟩ y) g T #[x,y]:=by
 have:=(h.set 0 x).set 1 y;simpa using this
theorem own_past {W:World} {B q n:Nat} {v x y:Value} {xs:List Value} {C:Array Value} (h:W.ownsRow B 84 4 v n xs) (hr:RowAt W q 29 C):((W.setCell ⟨q,0,none⟩ x).setCell ⟨q,1,none⟩ y).ownsRow B 84 4 v n xs:=by
 have n1:=own_ne h hr (by decide);exact ownsRow_setCell_other (ownsRow_setCell_other h (fun e=>n1 e.symm) _) (fun e=>n1 e.symm) _
theorem own_past30 {W:World} {B q n:Nat} {v x y:Value} {xs:List Value} {C:Array Value} (h:W.ownsRow B 84 4 v n xs) (hr:RowAt W q 55 C):((W.setCell ⟨q,0,none⟩ x).setCell ⟨q,1,none⟩ y).ownsRow B 84 4 v n xs:=by
 have n1:=own_ne h hr (by decide);exact ownsRow_setCell_other (ownsRow_setCell_other h (fun e=>n1 e.symm) _) (fun e=>n1 e.symm) _
theorem row_ne {W:World} {q r:Nat} {C D:Array Value} (h:RowAt W q 29 C) (h':RowAt W r 55 D):q≠r:=fun e=>by
 subst e;unfold RowAt at h h';rw [h] at h';cases h'
end Go.Proofs.YtjpeglkkkllagaaGreatDoor
namespace Go.Proofs.YtjpeglkkkllagaaGreatDoor.Hp
open Go.RowKit Go.Sort
def HeapEnd (w:World) (D:ByteArray) (M:List Cl) (ok:Bool) (e:Ending) (w':World):Prop:=
 ∃v,e= .returned (.tuple #[.agg #[.string D,v],.bool ok])∧w'.ownsRow w.heap.size 84 4 v M.length (flatC M)∧Below w.heap.size w w'
theorem heap_no {w w':World} (hb:Below w.heap.size w w'):HeapEnd w ⟨#[]⟩ [] false (.returned (.tuple #[.agg #[.string ⟨#[]⟩,.slice none 0 0],.bool false])) w':=
 ⟨_,rfl,World.ownsRow_nil _ _ _ _,hb⟩
theorem row_ret {wz:World} {R:Nat} {A:Array Value} {D v:Value} (h:RowAt wz R 29 A) (hA:A.size=2):RowAt ((wz.setCell ⟨R,0,none⟩ D).setCell ⟨R,1,none⟩ v) R 29 #[D,v]:=by
 have e:=(h.set 0 D).set 1 v;have two:(A.setIfInBounds 0 D).setIfInBounds 1 v= #[D,v]:=by
  obtain ⟨l⟩:=A;match l,hA with
  | [p,q],_=>rfl
 rwa [two] at e
theorem lt_on {l:Array Bool} {i:Nat} (h:l.getD i false=true):i<l.size:=by
 by_cases hi:i<l.size
 ·exact hi
 ·rw [Array.getD_eq_getD_getElem?,Array.getElem?_eq_none (by omega)] at h;cases h
def ZerosAt (w:World) (M W:Nat):Prop:=∃C:Array Value,RowAt w M 5 C∧∀j,j<W→C[j]?=some (.int .u8 0)
structure DropF (w4:World) (n W:Nat) (L:List Cl) (D:ByteArray) (l:Array Bool) (M B Z A cap:Nat) (w:World):Prop where
 below:Below w4.heap.size w4 w
 m:l.getD 7 false=true→ZerosAt w M W
 b:l.getD 19 false=true→l.getD 22 false=false→RowAt w B 84 #[]∧w4.heap.size≤B
 a:l.getD 22 false=true→w.ownsRow w4.heap.size 84 4 (.slice (some ⟨A,0,none⟩) n cap) n (flatC L)
 z:l.getD 24 false=true→l.getD 25 false=false→RowAt w Z 29 #[.string ⟨#[]⟩,.slice none 0 0]∧w4.heap.size≤Z
 st:l.getD 25 false=true→RowAt w Z 29 #[.string D,.slice (some ⟨A,0,none⟩) n cap]∧w4.heap.size≤Z
 o23:l.getD 23 false=true→l.getD 22 false=true
 o25:l.getD 25 false=true→l.getD 23 false=true
 p25:l.getD 25 false=true→l.getD 24 false=true
theorem DropF.plain {w4:World} {n W:Nat} {L:List Cl} {D:ByteArray} {l:Array Bool} {M B Z A cap:Nat} {w:World} (h:DropF w4 n W L D l M B Z A cap w) (i:Nat) (h7:i≠7) (h19:i≠19) (h22:i≠22) (h23:i≠23) (h24:i≠24) (h25:i≠25):DropF w4 n W L D (l.setIfInBounds i true) M B Z A cap w:=by
 refine ⟨h.below,?_,?_,?_,?_,?_,?_,?_,?_⟩;all_goals simp only [getD_set_ne h7,getD_set_ne h19,getD_set_ne h22,getD_set_ne h23,getD_set_ne h24,getD_set_ne h25]
 ·exact h.m
 ·exact h.b
 ·exact h.a
 ·exact h.z
 ·exact h.st
 ·exact h.o23
 ·exact h.o25
 ·exact h.p25
theorem ZerosAt.below {w w':World} {M W:Nat} (h:ZerosAt w M W) (hb:Below w.heap.size w w'):ZerosAt w' M W:=by
 obtain ⟨C,hr,hc⟩:=h;exact ⟨C,hr.below hb hr.lt,hc⟩
theorem DropF.more {w4:World} {n W:Nat} {L:List Cl} {D:ByteArray} {l:Array Bool} {M B Z A cap:Nat} {w:World} (h:DropF w4 n W L D l M B Z A cap w) (o:Obj):DropF w4 n W L D l M B Z A cap (w.alloc o):=by
 have hb:Below w.heap.size w (w.alloc o):=(Below.refl _ w).alloc (Nat.le_refl _) _;exact ⟨h.below.alloc h.below.size _,fun x=> (h.m x).below hb,fun x y=>⟨(h.b x y).1.below hb (h.b x y).1.lt,(h.b x y).2⟩,fun x=>zaf (h.a x) hb,fun x y=>⟨(h.z x y).1.below hb (h.z x y).1.lt,(h.z x y).2⟩,fun x=>⟨(h.st x).1.below hb (h.st x).1.lt,(h.st x).2⟩,h.o23,h.o25,h.p25⟩
section
variable {w4 : World} {n W : Nat} {L : List Cl} {D : ByteArray} {l : Array Bool} {M B Z A cap : Nat} {w : World}
theorem DropF.made (h0:DropF w4 n W L D l M B Z A cap w) {C:Array Value} (hC:∀j,j<W→C[j]?=some (.int .u8 0)):DropF w4 n W L D (l.setIfInBounds 7 true) w.heap.size B Z A cap (w.alloc (.cells C 5)):=by
 have h:=h0.more (.cells C 5);refine ⟨h.below,fun _=>⟨C,RowAt.new _ _ _,hC⟩,?_,?_,?_,?_,?_,?_,?_⟩;all_goals simp only [getD_set_ne (show 7≠19 by decide),getD_set_ne (show 7≠22 by decide),getD_set_ne (show 7≠23 by decide),getD_set_ne (show 7≠24 by decide),getD_set_ne (show 7≠25 by decide)]
 ·exact h.b
 ·exact h.a
 ·exact h.z
 ·exact h.st
 ·exact h.o23
 ·exact h.o25
 ·exact h.p25
theorem DropF.room (h0:DropF w4 n W L D l M B Z A cap w) (ho:l.getD 24 false=false):DropF w4 n W L D (l.setIfInBounds 24 true) M B w.heap.size A cap (w.alloc (.cells #[.string ⟨#[]⟩,.slice none 0 0] 29)):=by
 have h:=h0.more (.cells #[.string ⟨#[]⟩,.slice none 0 0] 29);have h25:l.getD 25 false=false:=by
  cases hx:l.getD 25 false with
  |false=>rfl
  |true=>rw [h0.p25 hx] at ho;cases ho
 refine ⟨h.below,?_,?_,?_,fun _ _=>⟨RowAt.new _ _ _,h0.below.size⟩,?_,?_,?_,?_⟩;all_goals simp only [getD_set_ne (show 24≠7 by decide),getD_set_ne (show 24≠19 by decide),getD_set_ne (show 24≠22 by decide),getD_set_ne (show 24≠23 by decide),getD_set_ne (show 24≠25 by decide)]
 ·exact h.m
 ·exact h.b
 ·exact h.a
 ·intro hx;rw [h25] at hx;cases hx
 ·exact h.o23
 ·exact h.o25
 ·intro hx;rw [h25] at hx;cases hx
theorem DropF.laid (h:DropF w4 n W L D l M B Z A cap w) (d22:l.getD 22 false=true):DropF w4 n W L D (l.setIfInBounds 23 true) M B Z A cap w:=by
 refine ⟨h.below,?_,?_,?_,?_,?_,?_,?_,?_⟩;all_goals simp only [getD_set_ne (show 23≠7 by decide),getD_set_ne (show 23≠19 by decide),getD_set_ne (show 23≠22 by decide),getD_set_ne (show 23≠24 by decide),getD_set_ne (show 23≠25 by decide)]
 ·exact h.m
 ·exact h.b
 ·exact h.a
 ·exact h.z
 ·exact h.st
 ·exact fun _=>d22
 ·intro hx;have:=lt_on (h.o25 hx);exact getD_set_self this
 ·exact h.p25
theorem DropF.stored (h:DropF w4 n W L D l M B Z A cap w) (d22:l.getD 22 false=true) (d23:l.getD 23 false=true) (d24:l.getD 24 false=true) (ho:l.getD 25 false=false) (hl:25<l.size):
  DropF w4 n W L D (l.setIfInBounds 25 true) M B Z A cap ((w.setCell ⟨Z,0,none⟩ (.string D)).setCell ⟨Z,1,none⟩ (.slice (some ⟨A,0,none⟩) n cap)):=by
 obtain ⟨hz,hZ⟩:=h.z d24 ho;have hne:=own_ne (h.a d22) hz (by decide);have ho2:=ownsRow_setCell_other (ownsRow_setCell_other (h.a d22) (a:=⟨Z,0,none⟩) (fun e=>hne e.symm) (.string D)) (a:=⟨Z,1,none⟩) (fun e=>hne e.symm) (.slice (some ⟨A,0,none⟩) n cap);refine ⟨(h.below.setCell (p:=⟨Z,0,none⟩) hZ _).setCell (p:=⟨Z,1,none⟩) hZ _,?_,?_,fun _=>ho2,?_,fun _=>⟨row_ret hz rfl,hZ⟩,?_,?_,?_⟩
 ·rw [getD_set_ne (show 25≠7 by decide)];intro hx;obtain ⟨C,hr,hc⟩:=h.m hx;have hMZ:M≠Z:=fun e=>by subst e;exact absurd (row_type hr hz) (by decide)
  exact ⟨C,(Below.heap_setCell _ _ _ _ (by simpa using hMZ)).trans ((Below.heap_setCell _ _ _ _ (by simpa using hMZ)).trans hr),hc⟩
 ·rw [getD_set_ne (show 25≠22 by decide),d22];intro _ hx;cases hx
 ·intro _ hx;rw [getD_set_self hl] at hx;cases hx
 ·rw [getD_set_ne (show 25≠22 by decide)];exact fun _=>d22
 ·rw [getD_set_ne (show 25≠23 by decide)];exact fun _=>d23
 ·rw [getD_set_ne (show 25≠24 by decide)];exact fun _=>d24
end
end Go.Proofs.YtjpeglkkkllagaaGreatDoor.Hp
