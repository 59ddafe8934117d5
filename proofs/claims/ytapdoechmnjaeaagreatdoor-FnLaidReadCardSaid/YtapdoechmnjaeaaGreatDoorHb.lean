import Derived.Test.YtapdoechmnjaeaaGreatDoorIv
import Derived.Test.YtapdoechmnjaeaaGreatDoorVa
import Derived.Test.YtapdoechmnjaeaaGreatDoorHp5
import Derived.Test.YtapdoechmnjaeaaGreatDoorHa
import Derived.Laws.IdiomStrings
set_option maxHeartbeats 8000000
set_option maxRecDepth 100000
namespace Go.Proofs.YtapdoechmnjaeaaGreatDoor
open Go.RowKit Go.Sort
def RowM (w:World) (g:Nat) (T:TypeId) (C:Array Value):Prop:=w.heap[g]?=some (.cells C T (C.size,C.size+1))
theorem RowM.cell {w:World} {g:Nat} {T:TypeId} {C:Array Value} (h:RowM w g T C) (j:Nat):w.cell? ⟨g,j,none⟩=C[j]?:=by
 unfold RowM at h;unfold World.cell?;rw [h];simp
theorem RowM.frozen {w:World} {g:Nat} {T:TypeId} {C:Array Value} (h:RowM w g T C) (j:Nat) (hj:j<C.size):w.frozen? ⟨g,j,none⟩=false:=by
 unfold RowM at h;unfold World.frozen?;rw [h];simp;omega
theorem RowM.set {w:World} {g:Nat} {T:TypeId} {C:Array Value} (h:RowM w g T C) (j:Nat) (v:Value):RowM (w.setCell ⟨g,j,none⟩ v) g T (C.setIfInBounds j v):=by
 unfold RowM at*;simp [World.setCell,Array.getElem?_modify,h]
theorem wrap_u8 {x:Int} (h0:0≤x) (h1:x<256):IntKind.u8.wrap x=x:=by
 simp [IntKind.wrap,IntKind.bits,IntKind.signed];omega
theorem conv_bytes (s:ByteArray) (w:World):∃cap W1 D,(convert 9 22 (.string s)).run Tryz.prog w= .ok (.slice (some ⟨w.heap.size,0,none⟩) s.size cap) W1∧RowM W1 w.heap.size 5 D∧(∀j (hj:j<s.data.toList.length),D[j]?=some (.int .u8 ((s.data.toList[j]).toNat:Int)))∧Below w.heap.size w W1:=by
 refine ⟨_,_,bytesRow s (grownCap w s.size 0 5),run_bytes_of_string (P:=Tryz.prog) w 9 22 5 s Tryz.underlying9 Tryz.underlying22 Tryz.underlying5,?_,fun j hj=>?_,?_⟩
 ·show (w.heap.push _)[w.heap.size]?=_;simp
 ·have:=bytesRow_at s (grownCap w s.size 0 5) j (by simpa using hj);rw [this];simp
 ·exact ((below_drewN (Below.refl _ w) 1)).alloc (Nat.le_refl _) _
def upB (b:UInt8):UInt8:=if 97≤b.toNat∧b.toNat≤122 then UInt8.ofNat (b.toNat-32) else b
def upN (x:Nat):Nat:=if 97≤x∧x≤122 then x-32 else x
theorem upB_nat (b:UInt8):(upB b).toNat=upN b.toNat:=by
 have:=b.toNat_lt;unfold upB upN;split
 ·simp;omega
 ·rfl
def nameM (s:ByteArray):ByteArray:=⟨(s.data.toList.map upB).toArray⟩
def PreN (D:Array Value) (l:List UInt8) (k:Nat):Prop:=∀j (hj:j<l.length),D[j]?=some (.int .u8 (((if j<k then upN (l[j]).toNat else (l[j]).toNat):Nat):Int))
theorem preN_next {D:Array Value} {l:List UInt8} {k:Nat} (h:PreN D l k) (hk:k<l.length) (hD:l.length≤D.size):PreN (D.setIfInBounds k (.int .u8 ((upN (l[k]).toNat:Nat):Int))) l (k+1):=fun j hj=>by
 by_cases e:k=j
 ·subst e;rw [Array.getElem?_setIfInBounds_self_of_lt (by omega),if_pos (by omega)]
 ·rw [Array.getElem?_setIfInBounds_ne e,h j hj];by_cases e2:j<k
  ·rw [if_pos e2,if_pos (by omega)]
  ·rw [if_neg e2,if_neg (by omega)]
theorem preN_same {D:Array Value} {l:List UInt8} {k:Nat} (h:PreN D l k) (hk:k<l.length) (hu:upN (l[k]).toNat=(l[k]).toNat):PreN D l (k+1):=fun j hj=>by
 rw [h j hj];by_cases e:k=j
 ·subst e;rw [if_neg (by omega),if_pos (by omega),hu]
 ·by_cases e2:j<k
  ·rw [if_pos e2,if_pos (by omega)]
  ·rw [if_neg e2,if_neg (by omega)]
theorem name_any (s:ByteArray) (w:World) (hs:s.size≤1048576):Calls Tryz.prog 116 #[.string s] w fun e w'=>e= .returned (.string (nameM s))∧Below w.heap.size w w':=by
 obtain ⟨cap,W1,D0,hconv,hrow0,hD0,b0⟩:=conv_bytes s w;have hlen:s.data.toList.length=s.size:=by rw [Lib.size_eq]
 have HD0:Hid (PreN D0 s.data.toList 0∧s.data.toList.length≤D0.size):=⟨fun j hj=>by rw [if_neg (by omega)];exact hD0 j hj,by
  by_cases h0:s.data.toList.length=0
  ·omega
  ·have:=hD0 (s.data.toList.length-1) (by omega);have:=(Array.getElem?_eq_some_iff.1 this).1;omega⟩
 have HN:Hid (nameM s=⟨(s.data.toList.map upB).toArray⟩):=rfl;have HLEN:Hid (s.data.toList.length=s.size):=hlen;generalize nameM s=NM at*;generalize s.data.toList=l at*;have hconv':Hid ((convert 9 22 (.string s)).run Tryz.prog w= .ok (.slice (some ⟨w.heap.size,0,none⟩) s.size cap) W1):=hconv;generalize hn:s.size=n at*;clear hD0 hlen;go_enter Tryz.func116,Tryz.ntmps116;go_wp2;go_loopw [4] (fun i wr=>∃(k:Nat) (D:Array Value),k≤n∧i= .int .i64 k∧Hid (PreN D l k∧l.length≤D.size∧RowM wr w.heap.size 5 D)∧Below w.heap.size w wr) (fun i _=>n-(intOf i).toNat)
 case atStart=>exact ⟨0,D0,by omega,rfl,⟨HD0.out.1,HD0.out.2,hrow0⟩,b0⟩
 case round=>
  obtain ⟨k,D,hk,rfl,hI,bk⟩:=hrel;clear hconv hconv' hrow0 b0;obtain ⟨hp,hds,hr⟩:=hI.out;by_cases hlt:k<n
  ·have hkl:k<l.length:=by rw [HLEN.out];exact hlt
   have hc:wr.cell? ⟨w.heap.size,k,none⟩=some (.int .u8 (((l[k]).toNat:Nat):Int)):=by
    rw [hr.cell,hp k hkl,if_neg (by omega)]
   have hfz:=hr.frozen k (by omega);have H1:Hid (upN (l[k]).toNat=(l[k]).toNat→PreN D l (k+1)∧l.length≤D.size∧RowM wr w.heap.size 5 D):=fun e=>⟨preN_same hp hkl e,hds,hr⟩;have H2:Hid (∀y:Nat,upN (l[k]).toNat=y→PreN (D.setIfInBounds k (.int .u8 (y:Int))) l (k+1)∧l.length≤(D.setIfInBounds k (.int .u8 (y:Int))).size∧RowM (wr.setCell ⟨w.heap.size,k,none⟩ (.int .u8 (y:Int))) w.heap.size 5 (D.setIfInBounds k (.int .u8 (y:Int)))):=fun y hy=>by
    subst hy;exact ⟨preN_next hp hkl hds,by rw [Array.size_setIfInBounds];exact hds,hr.set k _⟩
   have hx8:=(l[k]).toNat_lt;generalize (l[k]).toNat=x at*;clear hI hp hds hr;have hk0:(0:Int)≤(k:Int):=by omega
   have hkn:(k:Int)<(n:Int):=by omega
   by_cases h1:97≤x
   ·have g1:decide ((97:Int)≤(x:Int))=true:=decide_eq_true (by omega);by_cases h2:x≤122
    ·have g2:decide ((x:Int)≤122)=true:=decide_eq_true (by omega);have hw8:IntKind.u8.wrap ((x:Int)-32)=((x-32:Nat):Int):=by
      rw [show (x:Int)-32=((x-32:Nat):Int) by omega];exact wrap_u8 (by omega) (by omega)
     have HN2:Hid _:=H2.out (x-32) (by unfold upN;rw [if_pos ⟨h1,h2⟩]);generalize x-32=y at*;clear H1 H2;go_wp2;go_roundw
     case rel=>exact ⟨k+1,_,by omega,by go_num,HN2,bk.setCell (Nat.le_refl _) _⟩
     case measure=>simp [intOf];omega
    ·have g2:decide ((x:Int)≤122)=false:=decide_eq_false (by omega);have HN2:Hid _:=H1.out (by unfold upN;rw [if_neg (by omega)]);clear H1 H2;go_wp2;go_roundw
     case rel=>exact ⟨k+1,_,by omega,by go_num,HN2,bk⟩
     case measure=>simp [intOf];omega
   ·have g1:decide ((97:Int)≤(x:Int))=false:=decide_eq_false (by omega);have HN2:Hid _:=H1.out (by unfold upN;rw [if_neg (by omega)]);clear H1 H2;go_wp2;go_roundw
    case rel=>exact ⟨k+1,_,by omega,by go_num,HN2,bk⟩
    case measure=>simp [intOf];omega
  ·obtain rfl:k=n:=by omega
   have hll:(l.map upB).length=k:=by rw [List.length_map,HLEN.out]
   have hback:=run_convert_bytes_back (P:=Tryz.prog) wr 22 9 5 ⟨w.heap.size,0,none⟩ cap (l.map upB) Tryz.underlying22 Tryz.underlying5 Tryz.underlying9 (fun j hj=>by
    have hj':j<l.length:=by rw [List.length_map] at hj;exact hj
    rw [Addr.add_lit,Nat.zero_add,hr.cell,hp j hj',if_pos (by rw [HLEN.out] at hj';exact hj'),List.getElem_map,upB_nat])
   rw [hll] at hback;rw [←HN.out] at hback;clear hI hp hds hr hll;go_wp2;go_ret;exact ⟨rfl,bk⟩
end Go.Proofs.YtapdoechmnjaeaaGreatDoor
namespace Go.Proofs.YtapdoechmnjaeaaGreatDoor
open Go.RowKit Go.Sort
open Hp (own_ne)
theorem form_any {w:World} {B e size n:Nat} {v:Value} {xs:List Value} (h:w.ownsRow B e size v n xs):∃a A cap,v= .slice a n cap∧(0<n→a=some ⟨A,0,none⟩):=by
 rcases Go.Joins.ownsRow_forms h with ⟨rfl,rfl⟩|⟨A,cap,rfl⟩
 ·exact ⟨none,0,0,rfl,fun h=>by omega⟩
 ·exact ⟨some ⟨A,0,none⟩,A,cap,rfl,fun _=>rfl⟩
theorem RowAt.more {w:World} {g:Nat} {T:TypeId} {C:Array Value} (h:RowAt w g T C) (o:Obj):RowAt (w.alloc o) g T C:=h.below ((Below.refl _ w).alloc (Nat.le_refl _) o) h.lt
theorem RowAt.first {w:World} {g:Nat} {T:TypeId} {C:Array Value} (h:g=w.heap.size):RowAt (w.alloc (.cells C T)) g T C:=by subst h;exact RowAt.new w T C
theorem RowAt.drew {w:World} {g:Nat} {T:TypeId} {C:Array Value} (h:RowAt w g T C):RowAt w.drew g T C:=h
theorem RowAt.skip {w:World} {g q:Nat} {T:TypeId} {C:Array Value} {x y:Value} (h:RowAt w g T C) (hq:g≠q):RowAt ((w.setCell ⟨q,0,none⟩ x).setCell ⟨q,1,none⟩ y) g T C:=
 ((Below.heap_setCell _ _ _ _ (by simp only;omega)).trans (Below.heap_setCell _ _ _ _ (by simp only;omega))).trans h
theorem RowAt.both {w:World} {g:Nat} {T:TypeId} {a b x y:Value} (h:RowAt w g T #[a,b]):RowAt ((w.setCell ⟨g,0,none⟩ x).setCell ⟨g,1,none⟩ y) g T #[x,y]:=by
 have:=(h.set 0 x).set 1 y;simpa using this
theorem own_past {W:World} {B q n:Nat} {v x y:Value} {xs:List Value} {C:Array Value} (h:W.ownsRow B 131 4 v n xs) (hr:RowAt W q 26 C):((W.setCell ⟨q,0,none⟩ x).setCell ⟨q,1,none⟩ y).ownsRow B 131 4 v n xs:=by
 have n1:=own_ne h hr (by decide);exact ownsRow_setCell_other (ownsRow_setCell_other h (fun e=>n1 e.symm) _) (fun e=>n1 e.symm) _
theorem own_past30 {W:World} {B q n:Nat} {v x y:Value} {xs:List Value} {C:Array Value} (h:W.ownsRow B 131 4 v n xs) (hr:RowAt W q 37 C):((W.setCell ⟨q,0,none⟩ x).setCell ⟨q,1,none⟩ y).ownsRow B 131 4 v n xs:=by
 have n1:=own_ne h hr (by decide);exact ownsRow_setCell_other (ownsRow_setCell_other h (fun e=>n1 e.symm) _) (fun e=>n1 e.symm) _
theorem row_ne {W:World} {q r:Nat} {C D:Array Value} (h:RowAt W q 26 C) (h':RowAt W r 37 D):q≠r:=fun e=>by
 subst e;unfold RowAt at h h';rw [h] at h';cases h'
end Go.Proofs.YtapdoechmnjaeaaGreatDoor
namespace Go.Proofs.YtapdoechmnjaeaaGreatDoor.Hp
open Go.RowKit Go.Sort
def dropOk (s:ByteArray) (L:List Cl) (rc rg:Int):Bool:=heapB s L&&isB L rc rg
def dropD (s:ByteArray) (L:List Cl) (rc rg:Int):ByteArray:=
 if dropOk s L rc rg=true then putData s (L.getD rc.toNat cl0).pos.toNat (dataZ (L.getD rc.toNat cl0).len.toNat) else ⟨#[]⟩
def dropL (s:ByteArray) (L:List Cl) (rc rg:Int):List Cl:=
 if dropOk s L rc rg=true then L.set rc.toNat ⟨0,0,(L.getD rc.toNat cl0).gen,false⟩ else []
def HeapEnd (w:World) (D:ByteArray) (M:List Cl) (ok:Bool) (e:Ending) (w':World):Prop:=
 ∃v,e= .returned (.tuple #[.agg #[.string D,v],.bool ok])∧w'.ownsRow w.heap.size 131 4 v M.length (flatC M)∧Below w.heap.size w w'
theorem heap_no {w w':World} (hb:Below w.heap.size w w'):HeapEnd w ⟨#[]⟩ [] false (.returned (.tuple #[.agg #[.string ⟨#[]⟩,.slice none 0 0],.bool false])) w':=
 ⟨_,rfl,World.ownsRow_nil _ _ _ _,hb⟩
theorem drop_no {s:ByteArray} {L:List Cl} {rc rg:Int} (h:dropOk s L rc rg=false):dropD s L rc rg=⟨#[]⟩∧dropL s L rc rg=[]:=by
 unfold dropD dropL;rw [h];exact ⟨rfl,rfl⟩
theorem row_ret {wz:World} {R:Nat} {A:Array Value} {D v:Value} (h:RowAt wz R 26 A) (hA:A.size=2):RowAt ((wz.setCell ⟨R,0,none⟩ D).setCell ⟨R,1,none⟩ v) R 26 #[D,v]:=by
 have e:=(h.set 0 D).set 1 v;have two:(A.setIfInBounds 0 D).setIfInBounds 1 v= #[D,v]:=by
  obtain ⟨l⟩:=A;match l,hA with
  | [p,q],_=>rfl
 rwa [two] at e
theorem below_next {w0 w1 w2:World} (h:Below w0.heap.size w0 w1) (h':Below w1.heap.size w1 w2):Below w0.heap.size w0 w2:=h.trans (h'.mono h.size)
theorem lt_on {l:Array Bool} {i:Nat} (h:l.getD i false=true):i<l.size:=by
 by_cases hi:i<l.size
 ·exact hi
 ·rw [Array.getD_eq_getD_getElem?,Array.getElem?_eq_none (by omega)] at h;cases h
def ZerosAt (w:World) (M W:Nat):Prop:=∃C:Array Value,RowAt w M 5 C∧∀j,j<W→C[j]?=some (.int .u8 0)
structure DropF (w4:World) (n W:Nat) (L:List Cl) (D:ByteArray) (l:Array Bool) (M B Z A cap:Nat) (w:World):Prop where
 below:Below w4.heap.size w4 w
 m:l.getD 7 false=true→ZerosAt w M W
 b:l.getD 19 false=true→l.getD 22 false=false→RowAt w B 131 #[]∧w4.heap.size≤B
 a:l.getD 22 false=true→w.ownsRow w4.heap.size 131 4 (.slice (some ⟨A,0,none⟩) n cap) n (flatC L)
 z:l.getD 24 false=true→l.getD 25 false=false→RowAt w Z 26 #[.string ⟨#[]⟩,.slice none 0 0]∧w4.heap.size≤Z
 st:l.getD 25 false=true→RowAt w Z 26 #[.string D,.slice (some ⟨A,0,none⟩) n cap]∧w4.heap.size≤Z
 o23:l.getD 23 false=true→l.getD 22 false=true
 o25:l.getD 25 false=true→l.getD 23 false=true
 p25:l.getD 25 false=true→l.getD 24 false=true
theorem DropF.plain {w4:World} {n W:Nat} {L:List Cl} {D:ByteArray} {l:Array Bool} {M B Z A cap:Nat} {w:World} (h:DropF w4 n W L D l M B Z A cap w) (i:Nat) (h7:i≠7) (h19:i≠19) (h22:i≠22) (h23:i≠23) (h24:i≠24) (h25:i≠25):DropF w4 n W L D (l.setIfInBounds i true) M B Z A cap w:=by
 refine ⟨h.below,?_,?_,?_,?_,?_,?_,?_,?_⟩;all_goals simp only [getD_set_ne h7,getD_set_ne h19,getD_set_ne h22,getD_set_ne h23,getD_set_ne h24,getD_set_ne h25]
 ·exact h.m
 ·exact h.b
 ·exact h.a
 ·exact h.z
 ·exact h.st
 ·exact h.o23
 ·exact h.o25
 ·exact h.p25
theorem ZerosAt.below {w w':World} {M W:Nat} (h:ZerosAt w M W) (hb:Below w.heap.size w w'):ZerosAt w' M W:=by
 obtain ⟨C,hr,hc⟩:=h;exact ⟨C,hr.below hb hr.lt,hc⟩
theorem DropF.more {w4:World} {n W:Nat} {L:List Cl} {D:ByteArray} {l:Array Bool} {M B Z A cap:Nat} {w:World} (h:DropF w4 n W L D l M B Z A cap w) (o:Obj):DropF w4 n W L D l M B Z A cap (w.alloc o):=by
 have hb:Below w.heap.size w (w.alloc o):=(Below.refl _ w).alloc (Nat.le_refl _) _;exact ⟨h.below.alloc h.below.size _,fun x=> (h.m x).below hb,fun x y=>⟨(h.b x y).1.below hb (h.b x y).1.lt,(h.b x y).2⟩,fun x=>zaf (h.a x) hb,fun x y=>⟨(h.z x y).1.below hb (h.z x y).1.lt,(h.z x y).2⟩,fun x=>⟨(h.st x).1.below hb (h.st x).1.lt,(h.st x).2⟩,h.o23,h.o25,h.p25⟩
section
variable {w4 : World} {n W : Nat} {L : List Cl} {D : ByteArray} {l : Array Bool} {M B Z A cap : Nat} {w : World}
theorem DropF.made (h0:DropF w4 n W L D l M B Z A cap w) {C:Array Value} (hC:∀j,j<W→C[j]?=some (.int .u8 0)):DropF w4 n W L D (l.setIfInBounds 7 true) w.heap.size B Z A cap (w.alloc (.cells C 5)):=by
 have h:=h0.more (.cells C 5);refine ⟨h.below,fun _=>⟨C,RowAt.new _ _ _,hC⟩,?_,?_,?_,?_,?_,?_,?_⟩;all_goals simp only [getD_set_ne (show 7≠19 by decide),getD_set_ne (show 7≠22 by decide),getD_set_ne (show 7≠23 by decide),getD_set_ne (show 7≠24 by decide),getD_set_ne (show 7≠25 by decide)]
 ·exact h.b
 ·exact h.a
 ·exact h.z
 ·exact h.st
 ·exact h.o23
 ·exact h.o25
 ·exact h.p25
theorem DropF.built (h0:DropF w4 n W L D l M B Z A cap w):DropF w4 n W L D (l.setIfInBounds 19 true) M w.heap.size Z A cap (w.alloc (.cells #[] 131)):=by
 have h:=h0.more (.cells #[] 131);refine ⟨h.below,?_,fun _ _=>⟨RowAt.new _ _ _,h0.below.size⟩,?_,?_,?_,?_,?_,?_⟩;all_goals simp only [getD_set_ne (show 19≠7 by decide),getD_set_ne (show 19≠22 by decide),getD_set_ne (show 19≠23 by decide),getD_set_ne (show 19≠24 by decide),getD_set_ne (show 19≠25 by decide)]
 ·exact h.m
 ·exact h.a
 ·exact h.z
 ·exact h.st
 ·exact h.o23
 ·exact h.o25
 ·exact h.p25
theorem DropF.room (h0:DropF w4 n W L D l M B Z A cap w) (ho:l.getD 24 false=false):DropF w4 n W L D (l.setIfInBounds 24 true) M B w.heap.size A cap (w.alloc (.cells #[.string ⟨#[]⟩,.slice none 0 0] 26)):=by
 have h:=h0.more (.cells #[.string ⟨#[]⟩,.slice none 0 0] 26);have h25:l.getD 25 false=false:=by
  cases hx:l.getD 25 false with
  |false=>rfl
  |true=>rw [h0.p25 hx] at ho;cases ho
 refine ⟨h.below,?_,?_,?_,fun _ _=>⟨RowAt.new _ _ _,h0.below.size⟩,?_,?_,?_,?_⟩;all_goals simp only [getD_set_ne (show 24≠7 by decide),getD_set_ne (show 24≠19 by decide),getD_set_ne (show 24≠22 by decide),getD_set_ne (show 24≠23 by decide),getD_set_ne (show 24≠25 by decide)]
 ·exact h.m
 ·exact h.b
 ·exact h.a
 ·intro hx;rw [h25] at hx;cases hx
 ·exact h.o23
 ·exact h.o25
 ·intro hx;rw [h25] at hx;cases hx
theorem DropF.off23 (h0:DropF w4 n W L D l M B Z A cap w) (ho:l.getD 22 false=false):l.getD 23 false=false:=by
 cases hx:l.getD 23 false with
 |false=>rfl
 |true=>rw [h0.o23 hx] at ho;cases ho
theorem DropF.app (h:DropF w4 n W L D l M B Z A cap w) (ho:l.getD 22 false=false) (hl:22<l.size) {w':World} {A' cap':Nat} (hB:RowAt w B 131 #[]∧w4.heap.size≤B) (hown:w'.ownsRow w4.heap.size 131 4 (.slice (some ⟨A',0,none⟩) n cap') n (flatC L)) (hg:w.grownBy w' (some B)):
  DropF w4 n W L D (l.setIfInBounds 22 true) M B Z A' cap' w':=by
 have h23:=h.off23 ho;have h25:l.getD 25 false=false:=by
  cases hx:l.getD 25 false with
  |false=>rfl
  |true=>rw [h.o25 hx] at h23;cases h23
 have hkeep:∀{p T:Nat} {C:Array Value},RowAt w p T C→T≠131→RowAt w' p T C:=fun {p T C} hr hT=> (hg.block p hr.lt (fun e=>hT (by have e:=Option.some.inj e;subst e;exact row_type hr hB.1))).trans hr;refine ⟨below_grown h.below hg (fun y hy=>by have:=Option.some.inj hy;omega) h.below.size,?_,?_,fun _=>hown,?_,?_,?_,?_,?_⟩;all_goals simp only [getD_set_ne (show 22≠7 by decide),getD_set_ne (show 22≠19 by decide),getD_set_self hl,getD_set_ne (show 22≠23 by decide),getD_set_ne (show 22≠24 by decide),getD_set_ne (show 22≠25 by decide)]
 ·intro hx;obtain ⟨C,hr,hc⟩:=h.m hx;exact ⟨C,hkeep hr (by decide),hc⟩
 ·intro _ hx;cases hx
 ·intro hx hy;exact ⟨hkeep (h.z hx hy).1 (by decide),(h.z hx hy).2⟩
 ·intro hx;rw [h25] at hx;cases hx
 ·intro _;trivial
 ·exact h.o25
 ·exact h.p25
theorem DropF.laid (h:DropF w4 n W L D l M B Z A cap w) (d22:l.getD 22 false=true):DropF w4 n W L D (l.setIfInBounds 23 true) M B Z A cap w:=by
 refine ⟨h.below,?_,?_,?_,?_,?_,?_,?_,?_⟩;all_goals simp only [getD_set_ne (show 23≠7 by decide),getD_set_ne (show 23≠19 by decide),getD_set_ne (show 23≠22 by decide),getD_set_ne (show 23≠24 by decide),getD_set_ne (show 23≠25 by decide)]
 ·exact h.m
 ·exact h.b
 ·exact h.a
 ·exact h.z
 ·exact h.st
 ·exact fun _=>d22
 ·intro hx;have:=lt_on (h.o25 hx);exact getD_set_self this
 ·exact h.p25
theorem DropF.stored (h:DropF w4 n W L D l M B Z A cap w) (d22:l.getD 22 false=true) (d23:l.getD 23 false=true) (d24:l.getD 24 false=true) (ho:l.getD 25 false=false) (hl:25<l.size):
  DropF w4 n W L D (l.setIfInBounds 25 true) M B Z A cap ((w.setCell ⟨Z,0,none⟩ (.string D)).setCell ⟨Z,1,none⟩ (.slice (some ⟨A,0,none⟩) n cap)):=by
 obtain ⟨hz,hZ⟩:=h.z d24 ho;have hne:=own_ne (h.a d22) hz (by decide);have ho2:=ownsRow_setCell_other (ownsRow_setCell_other (h.a d22) (a:=⟨Z,0,none⟩) (fun e=>hne e.symm) (.string D)) (a:=⟨Z,1,none⟩) (fun e=>hne e.symm) (.slice (some ⟨A,0,none⟩) n cap);refine ⟨(h.below.setCell (p:=⟨Z,0,none⟩) hZ _).setCell (p:=⟨Z,1,none⟩) hZ _,?_,?_,fun _=>ho2,?_,fun _=>⟨row_ret hz rfl,hZ⟩,?_,?_,?_⟩
 ·rw [getD_set_ne (show 25≠7 by decide)];intro hx;obtain ⟨C,hr,hc⟩:=h.m hx;have hMZ:M≠Z:=fun e=>by subst e;exact absurd (row_type hr hz) (by decide)
  exact ⟨C,(Below.heap_setCell _ _ _ _ (by simpa using hMZ)).trans ((Below.heap_setCell _ _ _ _ (by simpa using hMZ)).trans hr),hc⟩
 ·rw [getD_set_ne (show 25≠22 by decide),d22];intro _ hx;cases hx
 ·intro _ hx;rw [getD_set_self hl] at hx;cases hx
 ·rw [getD_set_ne (show 25≠22 by decide)];exact fun _=>d22
 ·rw [getD_set_ne (show 25≠23 by decide)];exact fun _=>d23
 ·rw [getD_set_ne (show 25≠24 by decide)];exact fun _=>d24
end
def zda (s:ByteArray) (ws q3 b off n c k P W:Nat) (rg gn:Int) (lv:Bool) (l:Array Bool) (M B Z A cap:Nat):Act:=
 { tmps:= #[.agg #[.string s,.slice (some ⟨b,off,none⟩) n c],refV k rg,.pointer (some ⟨ws,0,none⟩),.pointer (some ⟨(ws+1),0,none⟩),.pointer (some ⟨(ws+1+1),0,none⟩),.bool false,.pointer (some ⟨q3,0,none⟩),sl l 24 (.pointer (some ⟨Z,0,none⟩)),.agg #[.string s,.slice (some ⟨b,off,none⟩) n c],.bool true,.bool false,.bool false,.agg #[.string s,.slice (some ⟨b,off,none⟩) n c],.agg #[.int .i64 k,.int .i64 rg],.bool true,.bool false,.bool false,undef,.pointer (some ⟨ws,1,none⟩),.slice (some ⟨b,off,none⟩) n c,.pointer (some ⟨(ws+1),0,none⟩),.int .i64 k,.pointer (some ⟨b,off+k*4,none⟩),.agg #[.int .i64 P,.int .i64 W,.int .i64 gn,.bool lv],sl l 0 (.pointer (some ⟨ws,0,none⟩)),sl l 1 (.string s),sl l 2 (.pointer (some ⟨q3,0,none⟩)),sl l 3 (.int .i64 (P:Int)),sl l 4 (.string (s.extract 0 P)),sl l 5 (.pointer (some ⟨q3,1,none⟩)),sl l 6 (.int .i64 (W:Int)),sl l 7 (.slice (some ⟨M,0,none⟩) W W),sl l 8 (.string (dataZ W)),sl l 9 (.string (s.extract 0 P++dataZ W)),sl l 10 (.pointer (some ⟨ws,0,none⟩)),sl l 11 (.string s),sl l 12 (.pointer (some ⟨q3,0,none⟩)),sl l 13 (.int .i64 (P:Int)),sl l 14 (.pointer (some ⟨q3,1,none⟩)),sl l 15 (.int .i64 (W:Int)),sl l 16 (.int .i64 ((P:Int)+(W:Int))),sl l 17 (.string (s.extract (P+W) s.size)),sl l 18 (.string (s.extract 0 P++dataZ W++s.extract (P+W) s.size)),sl l 19 (.slice (some ⟨B,0,none⟩) 0 0),sl l 20 (.pointer (some ⟨ws,1,none⟩)),sl l 21 (.slice (some ⟨b,off,none⟩) n c),sl l 22 (.slice (some ⟨A,0,none⟩) n cap),sl l 23 (.agg #[.string (s.extract 0 P++dataZ W++s.extract (P+W) s.size),.slice (some ⟨A,0,none⟩) n cap]),undef,undef,undef,undef,undef,undef,undef,undef,undef],defers:=[] }
theorem specDrop_any (s:ByteArray) (b off n c:Nat) (L:List Cl) (rc rg:Int) (w:World) (h:CellsIn w (some ⟨b,off,none⟩) b off n L) (hs:s.size≤1048576) (hn:n≤1048576) (hf:∀i,i<n→Fit (L.getD i cl0)):
  Calls Tryz.prog 30 #[.agg #[.string s,.slice (some ⟨b,off,none⟩) n c],refV rc rg] w (HeapEnd w (dropD s L rc rg) (dropL s L rc rg) (dropOk s L rc rg)):=by
 have hl:=h.len;have bw:Below w.heap.size w (((w.alloc (.cells #[.string s,.slice (some ⟨b,off,none⟩) n c] 26)).alloc (.cells #[.int .i64 rc,.int .i64 rg] 37)).alloc (.cells #[.string ⟨#[]⟩,.slice none 0 0] 26)):=Go.Joins.below_alloc3 _ _ _ _;have r0:=((RowAt.new w 26 #[.string s,.slice (some ⟨b,off,none⟩) n c]).below ((Below.refl _ _).alloc (Nat.le_refl _) (.cells #[.int .i64 rc,.int .i64 rg] 37)) (by simp)).below ((Below.refl _ _).alloc (Nat.le_refl _) (.cells #[.string ⟨#[]⟩,.slice none 0 0] 26)) (by simp;omega);have r1:=(RowAt.new (w.alloc (.cells #[.string s,.slice (some ⟨b,off,none⟩) n c] 26)) 37 #[.int .i64 rc,.int .i64 rg]).below ((Below.refl _ _).alloc (Nat.le_refl _) (.cells #[.string ⟨#[]⟩,.slice none 0 0] 26)) (by simp);have r2:=RowAt.new ((w.alloc (.cells #[.string s,.slice (some ⟨b,off,none⟩) n c] 26)).alloc (.cells #[.int .i64 rc,.int .i64 rg] 37)) 26 #[.string ⟨#[]⟩,.slice none 0 0];simp only [World.size_alloc] at r1 r2;have h2:=zaj h bw;have l0:=r0.lt;have l1:=r1.lt;have l2:=r2.lt;go_enter Tryz.func30,Tryz.ntmps30;go_wp2_with fail;generalize ((w.alloc (.cells #[.string s,.slice (some ⟨b,off,none⟩) n c] 26)).alloc (.cells #[.int .i64 rc,.int .i64 rg] 37)).alloc (.cells #[.string ⟨#[]⟩,.slice none 0 0] 26)=w1 at*;refine (specOk_any s (some ⟨b,off,none⟩) b off n c L w1 h2 hs hn hf).mono ?_;rintro e w2 ⟨rfl,b2⟩;have bb:=bw.trans (b2.mono bw.size);have q0:=r0.below b2 l0;have q1:=r1.below b2 l1;have q2:=r2.below b2 l2;have s2:=b2.size;have h3:=zaj h2 b2;clear r0 r1 r2 h2 bw b2;cases hr:heapB s L with
 |false=>
  have HR:Hid (dropOk s L rc rg=false):=by unfold Hid dropOk;rw [hr];rfl
  have u2:=row_ret (D:= .string ⟨#[]⟩) (v:= .slice none 0 0) q2 rfl;obtain ⟨e0,e1⟩:=zbb q2;obtain ⟨g0,g1⟩:=zbb u2;have f0:=q2.frozen 0;have f1:=q2.frozen 1;clear hr hl q0 q1 q2 u2 h3;go_wp2;exact bodyPost_ret (v:= .tuple #[.agg #[.string ⟨#[]⟩,.slice none 0 0],.bool false]) (by simp [results,Tryz.results30,go_sem,g0,g1]) rfl (by rw [HR.out,(drop_no HR.out).1,(drop_no HR.out).2];exact heap_no ((bb.setCell (by simp;omega) _).setCell (by simp;omega) _))
 |true=>
  have HH:Hid (heapB s L=true):=hr;clear hr;obtain ⟨e0,e1⟩:=zbb q0;obtain ⟨f0,f1⟩:=zbb q1;go_wp2_with fail;refine (l3Is_any s (some ⟨b,off,none⟩) b off n c L rc rg w2 h3 hn).mono ?_;rintro e w3 ⟨rfl,b3⟩;have bb3:=bb.trans (b3.mono bb.size);have h4:=zaj h3 b3;have s3:=b3.size;have p0:=q0.below b3 (by omega);have p1:=q1.below b3 (by omega);have p2:=q2.below b3 (by omega);clear q0 q1 q2 e0 e1 f0 f1 b3 bb h3;obtain ⟨e0,e1⟩:=zbb p0;obtain ⟨f0,f1⟩:=zbb p1;cases hi:isB L rc rg with
  |false=>
   have HR:Hid (dropOk s L rc rg=false):=by unfold Hid dropOk;rw [hi,Bool.and_false]
   have u2:=row_ret (D:= .string ⟨#[]⟩) (v:= .slice none 0 0) p2 rfl;obtain ⟨e2,e3⟩:=zbb p2;obtain ⟨g0,g1⟩:=zbb u2;have f2:=p2.frozen 0;have f3:=p2.frozen 1;clear hi hl p0 p1 p2 u2 h4;go_wp2;exact bodyPost_ret (v:= .tuple #[.agg #[.string ⟨#[]⟩,.slice none 0 0],.bool false]) (by simp [results,Tryz.results30,go_sem,g0,g1]) rfl (by rw [HR.out,(drop_no HR.out).1,(drop_no HR.out).2];exact heap_no ((bb3.setCell (by simp;omega) _).setCell (by simp;omega) _))
  |true=>
   obtain ⟨k,rfl,hk,hlv,hgen⟩:=is_in hi;have HOK:Hid (dropOk s L k rg=true):=by unfold Hid dropOk;rw [HH.out,hi];rfl
   have HD:Hid (dropD s L k rg=putData s (L.getD k cl0).pos.toNat (dataZ (L.getD k cl0).len.toNat)):=by unfold Hid dropD;rw [if_pos HOK.out,Int.toNat_natCast]
   have HM:Hid (dropL s L k rg=L.set k ⟨0,0,(L.getD k cl0).gen,false⟩):=by unfold Hid dropL;rw [if_pos HOK.out,Int.toNat_natCast]
   obtain ⟨hs3,hL⟩:=heap_small HH.out;obtain ⟨g1,g2,g3,g4,g5⟩:=spec_facts (heap_cells HH.out k hk);rw [hl] at hk;have hx:=h4.cell k hk;have c0:=hx.c0;have c1:=hx.c1;have c2:=hx.c2;have c3:=hx.c3;generalize L.getD k cl0=x at*;obtain ⟨P,hP⟩:∃P:Nat,x.pos=P:=⟨_,(Int.toNat_of_nonneg g1).symm⟩;obtain ⟨W,hW⟩:∃W:Nat,x.len=W:=⟨_,(Int.toNat_of_nonneg g2).symm⟩;rw [hP] at c0 g1 g3 g4 HD;rw [hW] at c1 g2 g3 g5 HD;rw [Int.toNat_natCast,Int.toNat_natCast] at HD;clear hi hx hP hW hlv hgen;go_upto_region 4 with fail;have bc:Below w3.heap.size w3 (w3.alloc (.cells #[.int .i64 P,.int .i64 W,.int .i64 x.gen,.bool x.live] 131)):=(Below.refl _ w3).alloc (Nat.le_refl _) _;have i0:=p0.below bc p0.lt;have i1:=p1.below bc p1.lt;have i2:=p2.below bc p2.lt;have h5:=zaj h4 bc;have rc4:=RowAt.new w3 131 #[.int .i64 P,.int .i64 W,.int .i64 x.gen,.bool x.live];have bb4:=bb3.trans (bc.mono bb3.size);have s4:=bc.size;have hq3:w.heap.size+3≤w3.heap.size:=by omega
   generalize hQ:w3.heap.size=q3 at*;clear c0 c1 c2 c3 e0 e1 f0 f1 p0 p1 p2 h4 bb3;generalize w3.alloc (.cells #[.int .i64 P,.int .i64 W,.int .i64 x.gen,.bool x.live] 131)=w4 at*;obtain ⟨e0,e1⟩:=zbb i0;have c0:w4.cell? ⟨q3,0,none⟩=some (.int .i64 P):=rc4.cell 0;have c1:w4.cell? ⟨q3,1,none⟩=some (.int .i64 W):=rc4.cell 1;go_cut [7] (fun o wx=>∃q A cap,o= .pointer (some ⟨q,0,none⟩)∧w4.heap.size≤q∧RowAt wx q 26 #[.string (putData s P (dataZ W)),.slice (some ⟨A,0,none⟩) n cap]∧wx.ownsRow w4.heap.size 131 4 (.slice (some ⟨A,0,none⟩) n cap) n (flatC L)∧Below w4.heap.size w4 wx)
   case first=>
    clear HOK HD HM;obtain ⟨Cz,hCz,hmk⟩:=make_bytes W (by omega);have hPn:(P:Int)≤(s.size:Int):=by omega
    have hPx:(P:Int)+(W:Int)≤(s.size:Int):=by omega
    have hP0:(0:Int)≤(P:Int)+(W:Int):=by omega
    have hm1:min P s.size=P:=by omega
    have hwr:IntKind.i64.wrap ((P:Int)+(W:Int))=(P:Int)+(W:Int):=wrap_small (by omega) (by omega);have htn:((P:Int)+(W:Int)).toNat=P+W:=by omega
    have hc1:¬9223372036854775807<P+W:=by omega
    have hc2:¬9223372036854775807<P+W+(s.size-(P+W)):=by omega
    have hdz:(dataZ W).size=W:=dataZ_size W;have hz1:¬9223372036854775807<P+(dataZ W).size:=by omega
    have hz2:¬9223372036854775807<P+(dataZ W).size+(s.size-(P+W)):=by omega
    have hDD:s.extract 0 P++dataZ W++s.extract (P+W) s.size=putData s P (dataZ W):=by unfold putData;rw [hdz]
    have HDD:Hid (s.extract 0 P++dataZ W++s.extract (P+W) s.size=putData s P (dataZ W)):=hDD;have hn40:n≤40:=by omega
    clear hDD hdz;have l0':=i0.lt;have l3':=rc4.lt;refine wp_region_inv (fun l a W'=>l.size=26∧∃M B Z A cap,a=zda s w.heap.size q3 b off n c k P W rg x.gen x.live l M B Z A cap∧DropF w4 n W L (s.extract 0 P++dataZ W++s.extract (P+W) s.size) l M B Z A cap W') (by kernel_rfl) ?h0 ?hstep (by kernel_rfl) ?hdone
    case h0=>
     refine ⟨rfl,0,0,0,0,0,rfl,⟨(Below.refl _ w4).drew,?_,?_,?_,?_,?_,?_,?_,?_⟩⟩<;> (intro h;cases h)
    case hstep=>
     rintro l a W' i ⟨hsz,M,B,Z,A,cap,rfl,F⟩ hi;obtain ⟨hlt,hoff,hdep⟩:=ready_mem hi;have hio:=off_of hoff;have e0':=(F.below.cell (p:=⟨w.heap.size,0,none⟩) l0').trans e0;have e1':=(F.below.cell (p:=⟨w.heap.size,1,none⟩) l0').trans e1;have c0':=(F.below.cell (p:=⟨q3,0,none⟩) l3').trans c0;have c1':=(F.below.cell (p:=⟨q3,1,none⟩) l3').trans c1;have hi26:i<26:=hlt;clear hi hlt;have hcase:i=0∨i=1∨i=2∨i=3∨i=4∨i=5∨i=6∨i=7∨i=8∨i=9∨i=10∨i=11∨i=12∨i=13∨i=14∨i=15∨i=16∨i=17∨i=18∨i=19∨i=20∨i=21∨i=22∨i=23∨i=24∨i=25:=by omega
     clear hi26;rcases hcase with rfl|rfl|rfl|rfl|rfl|rfl|rfl|rfl|rfl|rfl|rfl|rfl|rfl|rfl|rfl|rfl|rfl|rfl|rfl|rfl|rfl|rfl|rfl|rfl|rfl|rfl
     ·
      clear hdep hoff;refine wpOp_step rfl (fun K hK=>?_);simp only [zda];go_simp;refine hK _ _ ⟨by simp [hsz],M,B,Z,A,cap,?_,F.plain 0 (by decide) (by decide) (by decide) (by decide) (by decide) (by decide)⟩;simp only [zda,zch (show 0<l.size by omega)];simp only [zaa (show 0≠1 by decide),zaa (show 0≠2 by decide),zaa (show 0≠3 by decide),zaa (show 0≠4 by decide),zaa (show 0≠5 by decide),zaa (show 0≠6 by decide),zaa (show 0≠7 by decide),zaa (show 0≠8 by decide),zaa (show 0≠9 by decide),zaa (show 0≠10 by decide),zaa (show 0≠11 by decide),zaa (show 0≠12 by decide),zaa (show 0≠13 by decide),zaa (show 0≠14 by decide),zaa (show 0≠15 by decide),zaa (show 0≠16 by decide),zaa (show 0≠17 by decide),zaa (show 0≠18 by decide),zaa (show 0≠19 by decide),zaa (show 0≠20 by decide),zaa (show 0≠21 by decide),zaa (show 0≠22 by decide),zaa (show 0≠23 by decide),zaa (show 0≠24 by decide)]
     ·
      have d0:l.getD 0 false=true:=by simpa [Region.binds] using hdep
      clear hdep hoff;refine wpOp_step rfl (fun K hK=>?_);simp only [zda,zbi d0];go_simp;refine hK _ _ ⟨by simp [hsz],M,B,Z,A,cap,?_,F.plain 1 (by decide) (by decide) (by decide) (by decide) (by decide) (by decide)⟩;simp only [zda,zch (show 1<l.size by omega)];simp only [zaa (show 1≠0 by decide),zaa (show 1≠2 by decide),zaa (show 1≠3 by decide),zaa (show 1≠4 by decide),zaa (show 1≠5 by decide),zaa (show 1≠6 by decide),zaa (show 1≠7 by decide),zaa (show 1≠8 by decide),zaa (show 1≠9 by decide),zaa (show 1≠10 by decide),zaa (show 1≠11 by decide),zaa (show 1≠12 by decide),zaa (show 1≠13 by decide),zaa (show 1≠14 by decide),zaa (show 1≠15 by decide),zaa (show 1≠16 by decide),zaa (show 1≠17 by decide),zaa (show 1≠18 by decide),zaa (show 1≠19 by decide),zaa (show 1≠20 by decide),zaa (show 1≠21 by decide),zaa (show 1≠22 by decide),zaa (show 1≠23 by decide),zaa (show 1≠24 by decide),zbi d0]
     ·
      clear hdep hoff;refine wpOp_step rfl (fun K hK=>?_);simp only [zda];go_simp;refine hK _ _ ⟨by simp [hsz],M,B,Z,A,cap,?_,F.plain 2 (by decide) (by decide) (by decide) (by decide) (by decide) (by decide)⟩;simp only [zda,zch (show 2<l.size by omega)];simp only [zaa (show 2≠0 by decide),zaa (show 2≠1 by decide),zaa (show 2≠3 by decide),zaa (show 2≠4 by decide),zaa (show 2≠5 by decide),zaa (show 2≠6 by decide),zaa (show 2≠7 by decide),zaa (show 2≠8 by decide),zaa (show 2≠9 by decide),zaa (show 2≠10 by decide),zaa (show 2≠11 by decide),zaa (show 2≠12 by decide),zaa (show 2≠13 by decide),zaa (show 2≠14 by decide),zaa (show 2≠15 by decide),zaa (show 2≠16 by decide),zaa (show 2≠17 by decide),zaa (show 2≠18 by decide),zaa (show 2≠19 by decide),zaa (show 2≠20 by decide),zaa (show 2≠21 by decide),zaa (show 2≠22 by decide),zaa (show 2≠23 by decide),zaa (show 2≠24 by decide)]
     ·
      have d2:l.getD 2 false=true:=by simpa [Region.binds] using hdep
      clear hdep hoff;refine wpOp_step rfl (fun K hK=>?_);simp only [zda,zbi d2];go_simp;refine hK _ _ ⟨by simp [hsz],M,B,Z,A,cap,?_,F.plain 3 (by decide) (by decide) (by decide) (by decide) (by decide) (by decide)⟩;simp only [zda,zch (show 3<l.size by omega)];simp only [zaa (show 3≠0 by decide),zaa (show 3≠1 by decide),zaa (show 3≠2 by decide),zaa (show 3≠4 by decide),zaa (show 3≠5 by decide),zaa (show 3≠6 by decide),zaa (show 3≠7 by decide),zaa (show 3≠8 by decide),zaa (show 3≠9 by decide),zaa (show 3≠10 by decide),zaa (show 3≠11 by decide),zaa (show 3≠12 by decide),zaa (show 3≠13 by decide),zaa (show 3≠14 by decide),zaa (show 3≠15 by decide),zaa (show 3≠16 by decide),zaa (show 3≠17 by decide),zaa (show 3≠18 by decide),zaa (show 3≠19 by decide),zaa (show 3≠20 by decide),zaa (show 3≠21 by decide),zaa (show 3≠22 by decide),zaa (show 3≠23 by decide),zaa (show 3≠24 by decide),zbi d2]
     ·
      obtain ⟨d1,d3⟩:l.getD 1 false=true∧l.getD 3 false=true:=by simpa [Region.binds] using hdep
      clear hdep hoff;refine wpOp_step rfl (fun K hK=>?_);simp only [zda,zbi d1,zbi d3];go_simp;refine hK _ _ ⟨by simp [hsz],M,B,Z,A,cap,?_,F.plain 4 (by decide) (by decide) (by decide) (by decide) (by decide) (by decide)⟩;simp only [zda,zch (show 4<l.size by omega)];simp only [zaa (show 4≠0 by decide),zaa (show 4≠1 by decide),zaa (show 4≠2 by decide),zaa (show 4≠3 by decide),zaa (show 4≠5 by decide),zaa (show 4≠6 by decide),zaa (show 4≠7 by decide),zaa (show 4≠8 by decide),zaa (show 4≠9 by decide),zaa (show 4≠10 by decide),zaa (show 4≠11 by decide),zaa (show 4≠12 by decide),zaa (show 4≠13 by decide),zaa (show 4≠14 by decide),zaa (show 4≠15 by decide),zaa (show 4≠16 by decide),zaa (show 4≠17 by decide),zaa (show 4≠18 by decide),zaa (show 4≠19 by decide),zaa (show 4≠20 by decide),zaa (show 4≠21 by decide),zaa (show 4≠22 by decide),zaa (show 4≠23 by decide),zaa (show 4≠24 by decide),zbi d1,zbi d3]
     ·
      clear hdep hoff;refine wpOp_step rfl (fun K hK=>?_);simp only [zda];go_simp;refine hK _ _ ⟨by simp [hsz],M,B,Z,A,cap,?_,F.plain 5 (by decide) (by decide) (by decide) (by decide) (by decide) (by decide)⟩;simp only [zda,zch (show 5<l.size by omega)];simp only [zaa (show 5≠0 by decide),zaa (show 5≠1 by decide),zaa (show 5≠2 by decide),zaa (show 5≠3 by decide),zaa (show 5≠4 by decide),zaa (show 5≠6 by decide),zaa (show 5≠7 by decide),zaa (show 5≠8 by decide),zaa (show 5≠9 by decide),zaa (show 5≠10 by decide),zaa (show 5≠11 by decide),zaa (show 5≠12 by decide),zaa (show 5≠13 by decide),zaa (show 5≠14 by decide),zaa (show 5≠15 by decide),zaa (show 5≠16 by decide),zaa (show 5≠17 by decide),zaa (show 5≠18 by decide),zaa (show 5≠19 by decide),zaa (show 5≠20 by decide),zaa (show 5≠21 by decide),zaa (show 5≠22 by decide),zaa (show 5≠23 by decide),zaa (show 5≠24 by decide)]
     ·
      have d5:l.getD 5 false=true:=by simpa [Region.binds] using hdep
      clear hdep hoff;refine wpOp_step rfl (fun K hK=>?_);simp only [zda,zbi d5];go_simp;refine hK _ _ ⟨by simp [hsz],M,B,Z,A,cap,?_,F.plain 6 (by decide) (by decide) (by decide) (by decide) (by decide) (by decide)⟩;simp only [zda,zch (show 6<l.size by omega)];simp only [zaa (show 6≠0 by decide),zaa (show 6≠1 by decide),zaa (show 6≠2 by decide),zaa (show 6≠3 by decide),zaa (show 6≠4 by decide),zaa (show 6≠5 by decide),zaa (show 6≠7 by decide),zaa (show 6≠8 by decide),zaa (show 6≠9 by decide),zaa (show 6≠10 by decide),zaa (show 6≠11 by decide),zaa (show 6≠12 by decide),zaa (show 6≠13 by decide),zaa (show 6≠14 by decide),zaa (show 6≠15 by decide),zaa (show 6≠16 by decide),zaa (show 6≠17 by decide),zaa (show 6≠18 by decide),zaa (show 6≠19 by decide),zaa (show 6≠20 by decide),zaa (show 6≠21 by decide),zaa (show 6≠22 by decide),zaa (show 6≠23 by decide),zaa (show 6≠24 by decide),zbi d5]
     ·
      have d6:l.getD 6 false=true:=by simpa [Region.binds] using hdep
      clear hdep hoff;have hmk':=hmk W';refine wpOp_step rfl (fun K hK=>?_);simp only [zda,zbi d6];go_simp;refine hK _ _ ⟨by simp [hsz],W'.heap.size,B,Z,A,cap,?_,F.made hCz⟩;simp only [zda,zch (show 7<l.size by omega)];simp only [zaa (show 7≠0 by decide),zaa (show 7≠1 by decide),zaa (show 7≠2 by decide),zaa (show 7≠3 by decide),zaa (show 7≠4 by decide),zaa (show 7≠5 by decide),zaa (show 7≠6 by decide),zaa (show 7≠8 by decide),zaa (show 7≠9 by decide),zaa (show 7≠10 by decide),zaa (show 7≠11 by decide),zaa (show 7≠12 by decide),zaa (show 7≠13 by decide),zaa (show 7≠14 by decide),zaa (show 7≠15 by decide),zaa (show 7≠16 by decide),zaa (show 7≠17 by decide),zaa (show 7≠18 by decide),zaa (show 7≠19 by decide),zaa (show 7≠20 by decide),zaa (show 7≠21 by decide),zaa (show 7≠22 by decide),zaa (show 7≠23 by decide),zaa (show 7≠24 by decide),zbi d6]
     ·
      have d7:l.getD 7 false=true:=by simpa [Region.binds] using hdep
      clear hdep hoff;obtain ⟨C,hrC,hC0⟩:=F.m d7;have hcv:(convert 22 9 (.slice (some ⟨M,0,none⟩) W W)).run Tryz.prog W'= .ok (.string (dataZ W)) W':=by
       have:=run_convert_bytes_back (P:=Tryz.prog) W' 22 9 5 ⟨M,0,none⟩ W ((List.range W).map fun _=>0) Tryz.underlying22 Tryz.underlying5 Tryz.underlying9 ?_
       ·simpa [dataZ] using this
       ·intro j hj;have hj':j<W:=by simpa using hj
        rw [Addr.add_lit,Nat.zero_add];simpa using (hrC.cell j).trans (hC0 j hj')
      refine wpOp_step rfl (fun K hK=>?_);simp only [zda,zbi d7];go_simp;refine hK _ _ ⟨by simp [hsz],M,B,Z,A,cap,?_,F.plain 8 (by decide) (by decide) (by decide) (by decide) (by decide) (by decide)⟩;simp only [zda,zch (show 8<l.size by omega)];simp only [zaa (show 8≠0 by decide),zaa (show 8≠1 by decide),zaa (show 8≠2 by decide),zaa (show 8≠3 by decide),zaa (show 8≠4 by decide),zaa (show 8≠5 by decide),zaa (show 8≠6 by decide),zaa (show 8≠7 by decide),zaa (show 8≠9 by decide),zaa (show 8≠10 by decide),zaa (show 8≠11 by decide),zaa (show 8≠12 by decide),zaa (show 8≠13 by decide),zaa (show 8≠14 by decide),zaa (show 8≠15 by decide),zaa (show 8≠16 by decide),zaa (show 8≠17 by decide),zaa (show 8≠18 by decide),zaa (show 8≠19 by decide),zaa (show 8≠20 by decide),zaa (show 8≠21 by decide),zaa (show 8≠22 by decide),zaa (show 8≠23 by decide),zaa (show 8≠24 by decide),zbi d7]
     ·
      obtain ⟨d4,d8⟩:l.getD 4 false=true∧l.getD 8 false=true:=by simpa [Region.binds] using hdep
      clear hdep hoff;refine wpOp_step rfl (fun K hK=>?_);simp only [zda,zbi d4,zbi d8];go_simp;refine hK _ _ ⟨by simp [hsz],M,B,Z,A,cap,?_,F.plain 9 (by decide) (by decide) (by decide) (by decide) (by decide) (by decide)⟩;simp only [zda,zch (show 9<l.size by omega)];simp only [zaa (show 9≠0 by decide),zaa (show 9≠1 by decide),zaa (show 9≠2 by decide),zaa (show 9≠3 by decide),zaa (show 9≠4 by decide),zaa (show 9≠5 by decide),zaa (show 9≠6 by decide),zaa (show 9≠7 by decide),zaa (show 9≠8 by decide),zaa (show 9≠10 by decide),zaa (show 9≠11 by decide),zaa (show 9≠12 by decide),zaa (show 9≠13 by decide),zaa (show 9≠14 by decide),zaa (show 9≠15 by decide),zaa (show 9≠16 by decide),zaa (show 9≠17 by decide),zaa (show 9≠18 by decide),zaa (show 9≠19 by decide),zaa (show 9≠20 by decide),zaa (show 9≠21 by decide),zaa (show 9≠22 by decide),zaa (show 9≠23 by decide),zaa (show 9≠24 by decide),zbi d4,zbi d8]
     ·
      clear hdep hoff;refine wpOp_step rfl (fun K hK=>?_);simp only [zda];go_simp;refine hK _ _ ⟨by simp [hsz],M,B,Z,A,cap,?_,F.plain 10 (by decide) (by decide) (by decide) (by decide) (by decide) (by decide)⟩;simp only [zda,zch (show 10<l.size by omega)];simp only [zaa (show 10≠0 by decide),zaa (show 10≠1 by decide),zaa (show 10≠2 by decide),zaa (show 10≠3 by decide),zaa (show 10≠4 by decide),zaa (show 10≠5 by decide),zaa (show 10≠6 by decide),zaa (show 10≠7 by decide),zaa (show 10≠8 by decide),zaa (show 10≠9 by decide),zaa (show 10≠11 by decide),zaa (show 10≠12 by decide),zaa (show 10≠13 by decide),zaa (show 10≠14 by decide),zaa (show 10≠15 by decide),zaa (show 10≠16 by decide),zaa (show 10≠17 by decide),zaa (show 10≠18 by decide),zaa (show 10≠19 by decide),zaa (show 10≠20 by decide),zaa (show 10≠21 by decide),zaa (show 10≠22 by decide),zaa (show 10≠23 by decide),zaa (show 10≠24 by decide)]
     ·
      have d10:l.getD 10 false=true:=by simpa [Region.binds] using hdep
      clear hdep hoff;refine wpOp_step rfl (fun K hK=>?_);simp only [zda,zbi d10];go_simp;refine hK _ _ ⟨by simp [hsz],M,B,Z,A,cap,?_,F.plain 11 (by decide) (by decide) (by decide) (by decide) (by decide) (by decide)⟩;simp only [zda,zch (show 11<l.size by omega)];simp only [zaa (show 11≠0 by decide),zaa (show 11≠1 by decide),zaa (show 11≠2 by decide),zaa (show 11≠3 by decide),zaa (show 11≠4 by decide),zaa (show 11≠5 by decide),zaa (show 11≠6 by decide),zaa (show 11≠7 by decide),zaa (show 11≠8 by decide),zaa (show 11≠9 by decide),zaa (show 11≠10 by decide),zaa (show 11≠12 by decide),zaa (show 11≠13 by decide),zaa (show 11≠14 by decide),zaa (show 11≠15 by decide),zaa (show 11≠16 by decide),zaa (show 11≠17 by decide),zaa (show 11≠18 by decide),zaa (show 11≠19 by decide),zaa (show 11≠20 by decide),zaa (show 11≠21 by decide),zaa (show 11≠22 by decide),zaa (show 11≠23 by decide),zaa (show 11≠24 by decide),zbi d10]
     ·
      clear hdep hoff;refine wpOp_step rfl (fun K hK=>?_);simp only [zda];go_simp;refine hK _ _ ⟨by simp [hsz],M,B,Z,A,cap,?_,F.plain 12 (by decide) (by decide) (by decide) (by decide) (by decide) (by decide)⟩;simp only [zda,zch (show 12<l.size by omega)];simp only [zaa (show 12≠0 by decide),zaa (show 12≠1 by decide),zaa (show 12≠2 by decide),zaa (show 12≠3 by decide),zaa (show 12≠4 by decide),zaa (show 12≠5 by decide),zaa (show 12≠6 by decide),zaa (show 12≠7 by decide),zaa (show 12≠8 by decide),zaa (show 12≠9 by decide),zaa (show 12≠10 by decide),zaa (show 12≠11 by decide),zaa (show 12≠13 by decide),zaa (show 12≠14 by decide),zaa (show 12≠15 by decide),zaa (show 12≠16 by decide),zaa (show 12≠17 by decide),zaa (show 12≠18 by decide),zaa (show 12≠19 by decide),zaa (show 12≠20 by decide),zaa (show 12≠21 by decide),zaa (show 12≠22 by decide),zaa (show 12≠23 by decide),zaa (show 12≠24 by decide)]
     ·
      have d12:l.getD 12 false=true:=by simpa [Region.binds] using hdep
      clear hdep hoff;refine wpOp_step rfl (fun K hK=>?_);simp only [zda,zbi d12];go_simp;refine hK _ _ ⟨by simp [hsz],M,B,Z,A,cap,?_,F.plain 13 (by decide) (by decide) (by decide) (by decide) (by decide) (by decide)⟩;simp only [zda,zch (show 13<l.size by omega)];simp only [zaa (show 13≠0 by decide),zaa (show 13≠1 by decide),zaa (show 13≠2 by decide),zaa (show 13≠3 by decide),zaa (show 13≠4 by decide),zaa (show 13≠5 by decide),zaa (show 13≠6 by decide),zaa (show 13≠7 by decide),zaa (show 13≠8 by decide),zaa (show 13≠9 by decide),zaa (show 13≠10 by decide),zaa (show 13≠11 by decide),zaa (show 13≠12 by decide),zaa (show 13≠14 by decide),zaa (show 13≠15 by decide),zaa (show 13≠16 by decide),zaa (show 13≠17 by decide),zaa (show 13≠18 by decide),zaa (show 13≠19 by decide),zaa (show 13≠20 by decide),zaa (show 13≠21 by decide),zaa (show 13≠22 by decide),zaa (show 13≠23 by decide),zaa (show 13≠24 by decide),zbi d12]
     ·
      clear hdep hoff;refine wpOp_step rfl (fun K hK=>?_);simp only [zda];go_simp;refine hK _ _ ⟨by simp [hsz],M,B,Z,A,cap,?_,F.plain 14 (by decide) (by decide) (by decide) (by decide) (by decide) (by decide)⟩;simp only [zda,zch (show 14<l.size by omega)];simp only [zaa (show 14≠0 by decide),zaa (show 14≠1 by decide),zaa (show 14≠2 by decide),zaa (show 14≠3 by decide),zaa (show 14≠4 by decide),zaa (show 14≠5 by decide),zaa (show 14≠6 by decide),zaa (show 14≠7 by decide),zaa (show 14≠8 by decide),zaa (show 14≠9 by decide),zaa (show 14≠10 by decide),zaa (show 14≠11 by decide),zaa (show 14≠12 by decide),zaa (show 14≠13 by decide),zaa (show 14≠15 by decide),zaa (show 14≠16 by decide),zaa (show 14≠17 by decide),zaa (show 14≠18 by decide),zaa (show 14≠19 by decide),zaa (show 14≠20 by decide),zaa (show 14≠21 by decide),zaa (show 14≠22 by decide),zaa (show 14≠23 by decide),zaa (show 14≠24 by decide)]
     ·
      have d14:l.getD 14 false=true:=by simpa [Region.binds] using hdep
      clear hdep hoff;refine wpOp_step rfl (fun K hK=>?_);simp only [zda,zbi d14];go_simp;refine hK _ _ ⟨by simp [hsz],M,B,Z,A,cap,?_,F.plain 15 (by decide) (by decide) (by decide) (by decide) (by decide) (by decide)⟩;simp only [zda,zch (show 15<l.size by omega)];simp only [zaa (show 15≠0 by decide),zaa (show 15≠1 by decide),zaa (show 15≠2 by decide),zaa (show 15≠3 by decide),zaa (show 15≠4 by decide),zaa (show 15≠5 by decide),zaa (show 15≠6 by decide),zaa (show 15≠7 by decide),zaa (show 15≠8 by decide),zaa (show 15≠9 by decide),zaa (show 15≠10 by decide),zaa (show 15≠11 by decide),zaa (show 15≠12 by decide),zaa (show 15≠13 by decide),zaa (show 15≠14 by decide),zaa (show 15≠16 by decide),zaa (show 15≠17 by decide),zaa (show 15≠18 by decide),zaa (show 15≠19 by decide),zaa (show 15≠20 by decide),zaa (show 15≠21 by decide),zaa (show 15≠22 by decide),zaa (show 15≠23 by decide),zaa (show 15≠24 by decide),zbi d14]
     ·
      obtain ⟨d13,d15⟩:l.getD 13 false=true∧l.getD 15 false=true:=by simpa [Region.binds] using hdep
      clear hdep hoff;refine wpOp_step rfl (fun K hK=>?_);simp only [zda,zbi d13,zbi d15];go_simp;refine hK _ _ ⟨by simp [hsz],M,B,Z,A,cap,?_,F.plain 16 (by decide) (by decide) (by decide) (by decide) (by decide) (by decide)⟩;simp only [zda,zch (show 16<l.size by omega)];simp only [zaa (show 16≠0 by decide),zaa (show 16≠1 by decide),zaa (show 16≠2 by decide),zaa (show 16≠3 by decide),zaa (show 16≠4 by decide),zaa (show 16≠5 by decide),zaa (show 16≠6 by decide),zaa (show 16≠7 by decide),zaa (show 16≠8 by decide),zaa (show 16≠9 by decide),zaa (show 16≠10 by decide),zaa (show 16≠11 by decide),zaa (show 16≠12 by decide),zaa (show 16≠13 by decide),zaa (show 16≠14 by decide),zaa (show 16≠15 by decide),zaa (show 16≠17 by decide),zaa (show 16≠18 by decide),zaa (show 16≠19 by decide),zaa (show 16≠20 by decide),zaa (show 16≠21 by decide),zaa (show 16≠22 by decide),zaa (show 16≠23 by decide),zaa (show 16≠24 by decide),zbi d13,zbi d15]
     ·
      obtain ⟨d11,d16⟩:l.getD 11 false=true∧l.getD 16 false=true:=by simpa [Region.binds] using hdep
      clear hdep hoff;refine wpOp_step rfl (fun K hK=>?_);simp only [zda,zbi d11,zbi d16];go_simp;refine hK _ _ ⟨by simp [hsz],M,B,Z,A,cap,?_,F.plain 17 (by decide) (by decide) (by decide) (by decide) (by decide) (by decide)⟩;simp only [zda,zch (show 17<l.size by omega)];simp only [zaa (show 17≠0 by decide),zaa (show 17≠1 by decide),zaa (show 17≠2 by decide),zaa (show 17≠3 by decide),zaa (show 17≠4 by decide),zaa (show 17≠5 by decide),zaa (show 17≠6 by decide),zaa (show 17≠7 by decide),zaa (show 17≠8 by decide),zaa (show 17≠9 by decide),zaa (show 17≠10 by decide),zaa (show 17≠11 by decide),zaa (show 17≠12 by decide),zaa (show 17≠13 by decide),zaa (show 17≠14 by decide),zaa (show 17≠15 by decide),zaa (show 17≠16 by decide),zaa (show 17≠18 by decide),zaa (show 17≠19 by decide),zaa (show 17≠20 by decide),zaa (show 17≠21 by decide),zaa (show 17≠22 by decide),zaa (show 17≠23 by decide),zaa (show 17≠24 by decide),zbi d11,zbi d16]
     ·
      obtain ⟨d9,d17⟩:l.getD 9 false=true∧l.getD 17 false=true:=by simpa [Region.binds] using hdep
      clear hdep hoff;refine wpOp_step rfl (fun K hK=>?_);simp only [zda,zbi d9,zbi d17];go_simp;refine hK _ _ ⟨by simp [hsz],M,B,Z,A,cap,?_,F.plain 18 (by decide) (by decide) (by decide) (by decide) (by decide) (by decide)⟩;simp only [zda,zch (show 18<l.size by omega)];simp only [zaa (show 18≠0 by decide),zaa (show 18≠1 by decide),zaa (show 18≠2 by decide),zaa (show 18≠3 by decide),zaa (show 18≠4 by decide),zaa (show 18≠5 by decide),zaa (show 18≠6 by decide),zaa (show 18≠7 by decide),zaa (show 18≠8 by decide),zaa (show 18≠9 by decide),zaa (show 18≠10 by decide),zaa (show 18≠11 by decide),zaa (show 18≠12 by decide),zaa (show 18≠13 by decide),zaa (show 18≠14 by decide),zaa (show 18≠15 by decide),zaa (show 18≠16 by decide),zaa (show 18≠17 by decide),zaa (show 18≠19 by decide),zaa (show 18≠20 by decide),zaa (show 18≠21 by decide),zaa (show 18≠22 by decide),zaa (show 18≠23 by decide),zaa (show 18≠24 by decide),zbi d9,zbi d17]
     ·
      clear hdep hoff;refine wpOp_step rfl (fun K hK=>?_);simp only [zda];go_simp;refine hK _ _ ⟨by simp [hsz],M,W'.heap.size,Z,A,cap,?_,F.built⟩;simp only [zda,zch (show 19<l.size by omega)];simp only [zaa (show 19≠0 by decide),zaa (show 19≠1 by decide),zaa (show 19≠2 by decide),zaa (show 19≠3 by decide),zaa (show 19≠4 by decide),zaa (show 19≠5 by decide),zaa (show 19≠6 by decide),zaa (show 19≠7 by decide),zaa (show 19≠8 by decide),zaa (show 19≠9 by decide),zaa (show 19≠10 by decide),zaa (show 19≠11 by decide),zaa (show 19≠12 by decide),zaa (show 19≠13 by decide),zaa (show 19≠14 by decide),zaa (show 19≠15 by decide),zaa (show 19≠16 by decide),zaa (show 19≠17 by decide),zaa (show 19≠18 by decide),zaa (show 19≠20 by decide),zaa (show 19≠21 by decide),zaa (show 19≠22 by decide),zaa (show 19≠23 by decide),zaa (show 19≠24 by decide)]
     ·
      clear hdep hoff;refine wpOp_step rfl (fun K hK=>?_);simp only [zda];go_simp;refine hK _ _ ⟨by simp [hsz],M,B,Z,A,cap,?_,F.plain 20 (by decide) (by decide) (by decide) (by decide) (by decide) (by decide)⟩;simp only [zda,zch (show 20<l.size by omega)];simp only [zaa (show 20≠0 by decide),zaa (show 20≠1 by decide),zaa (show 20≠2 by decide),zaa (show 20≠3 by decide),zaa (show 20≠4 by decide),zaa (show 20≠5 by decide),zaa (show 20≠6 by decide),zaa (show 20≠7 by decide),zaa (show 20≠8 by decide),zaa (show 20≠9 by decide),zaa (show 20≠10 by decide),zaa (show 20≠11 by decide),zaa (show 20≠12 by decide),zaa (show 20≠13 by decide),zaa (show 20≠14 by decide),zaa (show 20≠15 by decide),zaa (show 20≠16 by decide),zaa (show 20≠17 by decide),zaa (show 20≠18 by decide),zaa (show 20≠19 by decide),zaa (show 20≠21 by decide),zaa (show 20≠22 by decide),zaa (show 20≠23 by decide),zaa (show 20≠24 by decide)]
     ·
      have d20:l.getD 20 false=true:=by simpa [Region.binds] using hdep
      clear hdep hoff;refine wpOp_step rfl (fun K hK=>?_);simp only [zda,zbi d20];go_simp;refine hK _ _ ⟨by simp [hsz],M,B,Z,A,cap,?_,F.plain 21 (by decide) (by decide) (by decide) (by decide) (by decide) (by decide)⟩;simp only [zda,zch (show 21<l.size by omega)];simp only [zaa (show 21≠0 by decide),zaa (show 21≠1 by decide),zaa (show 21≠2 by decide),zaa (show 21≠3 by decide),zaa (show 21≠4 by decide),zaa (show 21≠5 by decide),zaa (show 21≠6 by decide),zaa (show 21≠7 by decide),zaa (show 21≠8 by decide),zaa (show 21≠9 by decide),zaa (show 21≠10 by decide),zaa (show 21≠11 by decide),zaa (show 21≠12 by decide),zaa (show 21≠13 by decide),zaa (show 21≠14 by decide),zaa (show 21≠15 by decide),zaa (show 21≠16 by decide),zaa (show 21≠17 by decide),zaa (show 21≠18 by decide),zaa (show 21≠19 by decide),zaa (show 21≠20 by decide),zaa (show 21≠22 by decide),zaa (show 21≠23 by decide),zaa (show 21≠24 by decide),zbi d20]
     ·
      obtain ⟨d19,d21⟩:l.getD 19 false=true∧l.getD 21 false=true:=by simpa [Region.binds] using hdep
      clear hdep hoff;have h5':=zaj h5 F.below;have hB:=F.b d19 hio;obtain ⟨A',cap',w5,hrun,hown,hgr⟩:=append_cells (W:=W') (B0:=B) (B:=w4.heap.size) (c:=c) h5' hB.1 hB.2 F.below.size hn40;have h23:=F.off23 hio;refine wpOp_step rfl (fun K hK=>?_);refine zba (v:= .slice (some ⟨B,0,none⟩) 0 0) (y:= .slice (some ⟨b,off,none⟩) n c) rfl (.tmp 43) (.tmp 45) 24 rfl ?hs ?hx hrun ?hk
      case hs=>simp [zda,Act.eval,zbi d19]
      case hx=>simp [zda,Act.eval,zbi d21]
      refine hK _ _ ⟨by simp [hsz],M,B,Z,A',cap',?_,F.app hio (by omega) hB hown hgr⟩;change Act.put _ (some 46) _=_;simp only [zda,Act.put,List.setIfInBounds_toArray,List.set_cons_zero,List.set_cons_succ,zbi d19,zbi d21,zch (show 22<l.size by omega)];simp only [zaa (show 22≠0 by decide),zaa (show 22≠1 by decide),zaa (show 22≠2 by decide),zaa (show 22≠3 by decide),zaa (show 22≠4 by decide),zaa (show 22≠5 by decide),zaa (show 22≠6 by decide),zaa (show 22≠7 by decide),zaa (show 22≠8 by decide),zaa (show 22≠9 by decide),zaa (show 22≠10 by decide),zaa (show 22≠11 by decide),zaa (show 22≠12 by decide),zaa (show 22≠13 by decide),zaa (show 22≠14 by decide),zaa (show 22≠15 by decide),zaa (show 22≠16 by decide),zaa (show 22≠17 by decide),zaa (show 22≠18 by decide),zaa (show 22≠19 by decide),zaa (show 22≠20 by decide),zaa (show 22≠21 by decide),zaa (show 22≠23 by decide),zaa (show 22≠24 by decide),zbi d19,zbi d21,sl_off h23]
     ·
      obtain ⟨d18,d22⟩:l.getD 18 false=true∧l.getD 22 false=true:=by simpa [Region.binds] using hdep
      clear hdep hoff;refine wpOp_step rfl (fun K hK=>?_);simp only [zda,zbi d18,zbi d22];go_simp;refine hK _ _ ⟨by simp [hsz],M,B,Z,A,cap,?_,F.laid d22⟩;simp only [zda,zch (show 23<l.size by omega)];simp only [zaa (show 23≠0 by decide),zaa (show 23≠1 by decide),zaa (show 23≠2 by decide),zaa (show 23≠3 by decide),zaa (show 23≠4 by decide),zaa (show 23≠5 by decide),zaa (show 23≠6 by decide),zaa (show 23≠7 by decide),zaa (show 23≠8 by decide),zaa (show 23≠9 by decide),zaa (show 23≠10 by decide),zaa (show 23≠11 by decide),zaa (show 23≠12 by decide),zaa (show 23≠13 by decide),zaa (show 23≠14 by decide),zaa (show 23≠15 by decide),zaa (show 23≠16 by decide),zaa (show 23≠17 by decide),zaa (show 23≠18 by decide),zaa (show 23≠19 by decide),zaa (show 23≠20 by decide),zaa (show 23≠21 by decide),zaa (show 23≠22 by decide),zaa (show 23≠24 by decide),zbi d18,zbi d22]
     ·
      clear hdep hoff;refine wpOp_step rfl (fun K hK=>?_);simp only [zda];go_simp;refine hK _ _ ⟨by simp [hsz],M,B,W'.heap.size,A,cap,?_,F.room hio⟩;simp only [zda,zch (show 24<l.size by omega)];simp only [zaa (show 24≠0 by decide),zaa (show 24≠1 by decide),zaa (show 24≠2 by decide),zaa (show 24≠3 by decide),zaa (show 24≠4 by decide),zaa (show 24≠5 by decide),zaa (show 24≠6 by decide),zaa (show 24≠7 by decide),zaa (show 24≠8 by decide),zaa (show 24≠9 by decide),zaa (show 24≠10 by decide),zaa (show 24≠11 by decide),zaa (show 24≠12 by decide),zaa (show 24≠13 by decide),zaa (show 24≠14 by decide),zaa (show 24≠15 by decide),zaa (show 24≠16 by decide),zaa (show 24≠17 by decide),zaa (show 24≠18 by decide),zaa (show 24≠19 by decide),zaa (show 24≠20 by decide),zaa (show 24≠21 by decide),zaa (show 24≠22 by decide),zaa (show 24≠23 by decide)]
     ·
      obtain ⟨d24,d23,d22⟩:l.getD 24 false=true∧l.getD 23 false=true∧l.getD 22 false=true:=by have:=hdep;simp [Region.binds] at this;simp [this]
      clear hdep hoff;obtain ⟨hz,hZ⟩:=F.z d24 hio;have hz0:=(zbb hz).1;have hz1:=(zbb hz).2;have fz0:=hz.frozen 0;have fz1:=hz.frozen 1;refine wpOp_step rfl (fun K hK=>?_);simp only [zda,zbi d23,zbi d24];go_simp;refine hK _ _ ⟨by simp [hsz],M,B,Z,A,cap,?_,F.stored d22 d23 d24 hio (by omega)⟩;simp only [zda];simp only [zaa (show 25≠0 by decide),zaa (show 25≠1 by decide),zaa (show 25≠2 by decide),zaa (show 25≠3 by decide),zaa (show 25≠4 by decide),zaa (show 25≠5 by decide),zaa (show 25≠6 by decide),zaa (show 25≠7 by decide),zaa (show 25≠8 by decide),zaa (show 25≠9 by decide),zaa (show 25≠10 by decide),zaa (show 25≠11 by decide),zaa (show 25≠12 by decide),zaa (show 25≠13 by decide),zaa (show 25≠14 by decide),zaa (show 25≠15 by decide),zaa (show 25≠16 by decide),zaa (show 25≠17 by decide),zaa (show 25≠18 by decide),zaa (show 25≠19 by decide),zaa (show 25≠20 by decide),zaa (show 25≠21 by decide),zaa (show 25≠22 by decide),zaa (show 25≠23 by decide),zaa (show 25≠24 by decide),zbi d23,zbi d24]
    case hdone=>
     rintro l a W' ⟨hsz,M,B,Z,A,cap,rfl,F⟩ hall0;have hall:∀j,j<26→l.getD j false=true:=fun j hj=>on_of (hall0 j hj) (by omega);have d22:=hall 22 (by omega);have d25:=hall 25 (by omega);simp only [zda,zbi (hall 0 (by omega)),zbi (hall 1 (by omega)),zbi (hall 2 (by omega)),zbi (hall 3 (by omega)),zbi (hall 4 (by omega)),zbi (hall 5 (by omega)),zbi (hall 6 (by omega)),zbi (hall 7 (by omega)),zbi (hall 8 (by omega)),zbi (hall 9 (by omega)),zbi (hall 10 (by omega)),zbi (hall 11 (by omega)),zbi (hall 12 (by omega)),zbi (hall 13 (by omega)),zbi (hall 14 (by omega)),zbi (hall 15 (by omega)),zbi (hall 16 (by omega)),zbi (hall 17 (by omega)),zbi (hall 18 (by omega)),zbi (hall 19 (by omega)),zbi (hall 20 (by omega)),zbi (hall 21 (by omega)),zbi (hall 22 (by omega)),zbi (hall 23 (by omega)),zbi (hall 24 (by omega))];have hst:=F.st d25;have hown:=F.a d22;have hbl:=F.below;rw [HDD.out] at hst;clear F hall hall0 hsz d22 d25;go_wp2_with fail;go_meet
     case rel=>exact ⟨Z,A,cap,rfl,hst.2,hst.1,hown,hbl⟩
   case rest=>
    obtain ⟨q,A,cap,rfl,hq,hrow,hown,hb9⟩:=hcut;have bbA:=bb4.trans (hb9.mono bb4.size);have m1:=i1.below hb9 i1.lt;have m2:=i2.below hb9 i2.lt;have m3:=rc4.below hb9 rc4.lt;have hkr:k<L.length:=by omega
    have hA:=(hown.lt A rfl).1;obtain ⟨f0,f1⟩:=zbb m1;obtain ⟨k0,k1⟩:=zbb hrow;have cg:wc.cell? ⟨q3,2,none⟩=some (.int .i64 x.gen):=m3.cell 2;generalize hye:L.getD k cl0=y at*;have q0:=flatC_at L k 0 hkr (by omega);have q1:=flatC_at L k 1 hkr (by omega);have q2:=flatC_at L k 2 hkr (by omega);have q3':=flatC_at L k 3 hkr (by omega);rw [hye] at q0 q1 q2 q3';simp only [Nat.add_zero] at q0;have t0:wc.cell? ⟨A,k*4,none⟩=some (.int .i64 y.pos):=owns_at (k:=k) (j:=0) hown q0;have t1:wc.cell? ⟨A,k*4+1,none⟩=some (.int .i64 y.len):=owns_at (k:=k) (j:=1) hown q1;have t2:wc.cell? ⟨A,k*4+2,none⟩=some (.int .i64 y.gen):=owns_at (k:=k) (j:=2) hown q2;have t3:wc.cell? ⟨A,k*4+3,none⟩=some (.bool y.live):=owns_at (k:=k) (j:=3) hown q3';have z0:=owns_frozen hown (k*4);have z1:=owns_frozen hown (k*4+1);have z2:=owns_frozen hown (k*4+2);have z3:=owns_frozen hown (k*4+3);clear q0 q1 q2 q3' hye i0 i1 i2 rc4 e0 e1 c0 c1 h5 bb4 bc;go_upto_region 6 with fail;have neq:q≠A:=fun e=>own_ne hown hrow (by decide) (by rw [e];rfl);have ne2:w.heap.size+1+1≠A:=by omega
    have pb:∀j,j≠A→(put4 wc A (k*4) (.int .i64 0) (.int .i64 0) (.int .i64 x.gen) (.bool false)).heap[j]?=wc.heap[j]?:=fun j hj=>
     (Below.heap_setCell _ _ _ _ (by simpa using hj)).trans ((Below.heap_setCell _ _ _ _ (by simpa using hj)).trans ((Below.heap_setCell _ _ _ _ (by simpa using hj)).trans (Below.heap_setCell _ _ _ _ (by simpa using hj))))
    have hr6:RowAt (put4 wc A (k*4) (.int .i64 0) (.int .i64 0) (.int .i64 x.gen) (.bool false)) q 26 #[.string (putData s P (dataZ W)),.slice (some ⟨A,0,none⟩) n cap]:=(pb q neq).trans hrow;have i2':RowAt (put4 wc A (k*4) (.int .i64 0) (.int .i64 0) (.int .i64 x.gen) (.bool false)) (w.heap.size+1+1) 26 #[.string ⟨#[]⟩,.slice none 0 0]:=(pb _ ne2).trans m2;have o6:(put4 wc A (k*4) (.int .i64 0) (.int .i64 0) (.int .i64 x.gen) (.bool false)).ownsRow w4.heap.size 131 4 (.slice (some ⟨A,0,none⟩) n cap) n (flatC (L.set k ⟨0,0,x.gen,false⟩)):=by
     rw [←flatC_set L k _ hkr];exact owns_set (owns_set (owns_set (owns_set hown)))
    have bb6:Below w.heap.size w (put4 wc A (k*4) (.int .i64 0) (.int .i64 0) (.int .i64 x.gen) (.bool false)):=(((bbA.setCell (p:=⟨A,k*4,none⟩) (by simp only;omega) _).setCell (p:=⟨A,k*4+1,none⟩) (by simp only;omega) _).setCell (p:=⟨A,k*4+2,none⟩) (by simp only;omega) _).setCell (p:=⟨A,k*4+3,none⟩) (by simp only;omega) _;clear t0 t1 t2 t3 z0 z1 z2 z3 k0 k1 f0 f1 cg hrow hown m1 m2 m3 bbA pb;unfold put4 at hr6 i2' o6 bb6;generalize (((wc.setCell ⟨A,k*4,none⟩ (.int .i64 0)).setCell ⟨A,k*4+1,none⟩ (.int .i64 0)).setCell ⟨A,k*4+2,none⟩ (.int .i64 x.gen)).setCell ⟨A,k*4+3,none⟩ (.bool false)=w6 at*;have u2:=row_ret (D:= .string (putData s P (dataZ W))) (v:= .slice (some ⟨A,0,none⟩) n cap) i2' rfl;obtain ⟨k0,k1⟩:=zbb hr6;obtain ⟨e2,e3⟩:=zbb i2';obtain ⟨g0,g1'⟩:=zbb u2;have f2:=i2'.frozen 0;have f3:=i2'.frozen 1;have o8:=Go.Joins.ownsRow_le (ownsRow_setCell_below (ownsRow_setCell_below o6 (a:=⟨w.heap.size+1+1,0,none⟩) (by simp only;omega) (.string (putData s P (dataZ W)))) (a:=⟨w.heap.size+1+1,1,none⟩) (by simp only;omega) (.slice (some ⟨A,0,none⟩) n cap)) (base':=w.heap.size) (by omega);clear u2 i2' hr6 o6;go_wp2;exact bodyPost_ret (v:= .tuple #[.agg #[.string (putData s P (dataZ W)),.slice (some ⟨A,0,none⟩) n cap],.bool true]) (by simp [results,Tryz.results30,go_sem,g0,g1']) rfl (by rw [HOK.out,HD.out,HM.out];exact ⟨_,rfl,by rw [List.length_set,hl];exact o8,(bb6.setCell (by simp;omega) _).setCell (by simp;omega) _⟩)
theorem specDrop_none (s:ByteArray) (a:Option Addr) (b off c:Nat) (rc rg:Int) (w:World) (h:CellsIn w a b off 0 []) (hs:s.size≤1048576):
  Calls Tryz.prog 30 #[.agg #[.string s,.slice a 0 c],refV rc rg] w (HeapEnd w (dropD s [] rc rg) (dropL s [] rc rg) (dropOk s [] rc rg)):=by
 have HI:Hid (isB [] rc rg=false):=by
  unfold Hid isB;rw [decide_eq_false (by simp)];rfl
 have HR:Hid (dropOk s [] rc rg=false):=by unfold Hid dropOk;rw [HI.out,Bool.and_false]
 have bw:Below w.heap.size w (((w.alloc (.cells #[.string s,.slice a 0 c] 26)).alloc (.cells #[.int .i64 rc,.int .i64 rg] 37)).alloc (.cells #[.string ⟨#[]⟩,.slice none 0 0] 26)):=Go.Joins.below_alloc3 _ _ _ _;have r0:=((RowAt.new w 26 #[.string s,.slice a 0 c]).more (.cells #[.int .i64 rc,.int .i64 rg] 37)).more (.cells #[.string ⟨#[]⟩,.slice none 0 0] 26);have r1:=(RowAt.new (w.alloc (.cells #[.string s,.slice a 0 c] 26)) 37 #[.int .i64 rc,.int .i64 rg]).more (.cells #[.string ⟨#[]⟩,.slice none 0 0] 26);have r2:=RowAt.new ((w.alloc (.cells #[.string s,.slice a 0 c] 26)).alloc (.cells #[.int .i64 rc,.int .i64 rg] 37)) 26 #[.string ⟨#[]⟩,.slice none 0 0];simp only [World.size_alloc] at r1 r2;have h2:=zaj h bw;go_enter Tryz.func30,Tryz.ntmps30;go_wp2_with fail;generalize ((w.alloc (.cells #[.string s,.slice a 0 c] 26)).alloc (.cells #[.int .i64 rc,.int .i64 rg] 37)).alloc (.cells #[.string ⟨#[]⟩,.slice none 0 0] 26)=w1 at*;refine (specOk_any s a b off 0 c [] w1 h2 hs (by omega) (fun i hi=>by omega)).mono ?_;rintro e w2 ⟨rfl,b2⟩;have bb:=below_next bw b2;have q0:=r0.below b2 r0.lt;have q1:=r1.below b2 r1.lt;have q2:=r2.below b2 r2.lt;have h3:=zaj h2 b2;clear r0 r1 r2 h2 bw b2;cases hr:heapB s [] with
 |false=>
  have u2:=row_ret (D:= .string ⟨#[]⟩) (v:= .slice none 0 0) q2 rfl;obtain ⟨e0,e1⟩:=zbb q2;obtain ⟨g0,g1⟩:=zbb u2;have f0:=q2.frozen 0;have f1:=q2.frozen 1;clear hr q0 q1 q2 u2 h3;go_wp2;exact bodyPost_ret (v:= .tuple #[.agg #[.string ⟨#[]⟩,.slice none 0 0],.bool false]) (by simp [results,Tryz.results30,go_sem,g0,g1]) rfl (by rw [HR.out,(drop_no HR.out).1,(drop_no HR.out).2];exact heap_no ((bb.setCell (by simp;omega) _).setCell (by simp;omega) _))
 |true=>
  clear hr;obtain ⟨e0,e1⟩:=zbb q0;obtain ⟨f0,f1⟩:=zbb q1;go_wp2_with fail;refine (l3Is_any s a b off 0 c [] rc rg w2 h3 (by omega)).mono ?_;rintro e w3 ⟨rfl,b3⟩;rw [HI.out];have bb3:=below_next bb b3;have p2:=q2.below b3 q2.lt;have u2:=row_ret (D:= .string ⟨#[]⟩) (v:= .slice none 0 0) p2 rfl;obtain ⟨e2,e3⟩:=zbb p2;obtain ⟨g0,g1⟩:=zbb u2;have f2:=p2.frozen 0;have f3:=p2.frozen 1;clear q0 q1 q2 e0 e1 f0 f1 b3 bb h3 p2 u2;go_wp2;exact bodyPost_ret (v:= .tuple #[.agg #[.string ⟨#[]⟩,.slice none 0 0],.bool false]) (by simp [results,Tryz.results30,go_sem,g0,g1]) rfl (by rw [HR.out,(drop_no HR.out).1,(drop_no HR.out).2];exact heap_no ((bb3.setCell (by simp;omega) _).setCell (by simp;omega) _))
theorem specDropA (s:ByteArray) (a:Option Addr) (b off c:Nat) (L:List Cl) (rc rg:Int) (w:World) (h:CellsIn w a b off L.length L) (hs:s.size≤1048576) (hn:L.length≤1048576) (hf:∀i,i<L.length→Fit (L.getD i cl0)):
  Calls Tryz.prog 30 #[.agg #[.string s,.slice a L.length c],refV rc rg] w (HeapEnd w (dropD s L rc rg) (dropL s L rc rg) (dropOk s L rc rg)):=by
 by_cases h0:0<L.length
 ·have ha:=h.addr h0;subst ha;exact specDrop_any s b off L.length c L rc rg w h hs hn hf
 ·obtain rfl:L=[]:=List.eq_nil_of_length_eq_zero (by omega);exact specDrop_none s a b off c rc rg w h hs
end Go.Proofs.YtapdoechmnjaeaaGreatDoor.Hp
