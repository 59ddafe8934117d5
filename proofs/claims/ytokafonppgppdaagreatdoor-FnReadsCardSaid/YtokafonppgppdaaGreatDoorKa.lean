import Derived.Test.YtokafonppgppdaaGreatDoorA0
import Derived.WalkSpells
import Derived.WalkLawsBesides
import Derived.BigQuiet
import Derived.Lib.SmallJoins
import Derived.Lib.Bytealg
import Derived.Deep.RegionHeld3
import Derived.Lib.QuietBelow
import Derived.Deep.CutRange
import Derived.Test.YtokafonppgppdaaGreatDoorProg
set_option maxHeartbeats 4000000
set_option maxRecDepth 100000
namespace Go.Proofs.YtokafonppgppdaaGreatDoor.Kk
open Tryz
open _root_.ByteArray (empty)
open Go.RowKit Go.Sort
variable {w w':World} {b B n g i:Nat} {P:Nat->Bool} {T:TypeId} {C:Array Value} {v:Value}
theorem zae {a b:Bool} (h:a=b):Ending.returned (.bool a)= .returned (.bool b):=by rw [h]
theorem zen {a b:Int} (h:a=b):Ending.returned (.int .i64 a)= .returned (.int .i64 b):=by rw [h]
structure Rk where
 m:ByteArray
 s:Int
def rk0:Rk:=⟨empty,0⟩
abbrev rkV (x:Rk):Value:= .agg #[.string x.m,.int .i64 x.s]
theorem yio (n low high:Int) (w:World):
  Calls prog 52 #[.int .i64 n,.int .i64 low,.int .i64 high] w fun e w'=>e= .returned (.bool (decide (low<=n)&&decide (n<=high)))/\w'=w:=by
 by_cases h1:low<=n
 ·rw [Qe h1,Qz];go_enter func52,ntmps52;go_wp2;go_ret;exact ⟨rfl,rfl⟩
 ·rw [Qf h1,Q0];go_enter func52,ntmps52;go_wp2;go_ret;exact ⟨rfl,rfl⟩
theorem zvz (n:Int) (w:World):
  Calls prog 113 #[.int .i64 n] w fun e w'=>e= .returned (.bool (decide (-1000000000000000000<=n)&&decide (n<=1000000000000000000)))/\w'=w:=by
 by_cases h1:(-1000000000000000000:Int)<=n
 ·rw [Qe h1,Qz];go_enter func113,ntmps113;go_wp2;go_ret;exact ⟨rfl,rfl⟩
 ·rw [Qf h1,Q0];go_enter func113,ntmps113;go_wp2;go_ret;exact ⟨rfl,rfl⟩
theorem zlf (n:Nat) (w:World):
  Calls prog 302 #[.int .i64 n] w fun e w'=>e= .returned (.bool (decide (1<=n)&&decide (n<=20)))/\w'=w:=by
 by_cases h1:1<=n
 ·have h2:(1:Int)<=n:=by omega
  rw [Qe h1,Qz];go_enter func302,ntmps302;go_wp2;go_ret;exact ⟨zae (by simp;omega),rfl⟩
 ·have h2:¬(1:Int)<=n:=by omega
  rw [Qf h1,Q0];go_enter func302,ntmps302;go_wp2;go_ret;exact ⟨rfl,rfl⟩
def zbv (x y:Rk):Bool:=decide (x.s<y.s)||(decide (x.s=y.s)&&Op.bytesLess x.m.toList y.m.toList)
theorem zp0 (x y:Rk) (w:World):
  Calls prog 167 #[rkV x,rkV y] w fun e w'=>e= .returned (.bool (zbv x y))/\Bl w w':=by
 have HB:Hid (∀a b:Array Value,Bl w ((w.alloc (.cells a 147)).alloc (.cells b 147))):=fun a b=> ((Qb _ w).alloc (Qc _) _).alloc (by simp) _;obtain ⟨xm,xs⟩:=x;obtain ⟨ym,ys⟩:=y;by_cases h1:xs<ys
 ·have HE:Hid (zbv ⟨xm,xs⟩ ⟨ym,ys⟩=true):=by unfold Hid zbv;rw [Qe h1];rfl
  go_enter func167,ntmps167;go_wp2;go_ret;exact ⟨zae HE.out.symm,HB.out _ _⟩
 ·by_cases h2:xs=ys
  ·subst h2;have HE:Hid (zbv ⟨xm,xs⟩ ⟨ym,xs⟩=Op.bytesLess xm.toList ym.toList):=by unfold Hid zbv;rw [Qf h1,Qe rfl];rfl
   clear h1;go_enter func167,ntmps167;go_wp2;go_ret;exact ⟨zae HE.out.symm,HB.out _ _⟩
  ·have HE:Hid (zbv ⟨xm,xs⟩ ⟨ym,ys⟩=false):=by unfold Hid zbv;rw [Qf h1,Qf h2];rfl
   have h3:(xs==ys)=false:=beq_eq_false_iff_ne.2 h2;go_enter func167,ntmps167;go_wp2;go_ret;exact ⟨zae HE.out.symm,HB.out _ _⟩
structure yjg (w:World) (b o:Nat) (x:Rk):Prop where
 c0:w.cell? ⟨b,o,none⟩=some (.string x.m)
 c1:w.cell? ⟨b,o+1,none⟩=some (.int .i64 x.s)
structure zdh (w:World) (a:Option Addr) (b off n:Nat) (L:List Rk):Prop where
 len:L.length=n
 addr:0<n->a=some ⟨b,off,none⟩
 low:0<n->b<w.heap.size
 cell:∀i,i<n->yjg w b (off+i*2) (L.getD i rk0)
theorem yds {o:Nat} {x:Rk} (h:yjg w b o x) (hl:b<B) (hb:Below B w w'):yjg w' b o x:=
 ⟨(hb.cell (p:=⟨b,o,none⟩) hl).trans h.c0,(hb.cell (p:=⟨b,o+1,none⟩) hl).trans h.c1⟩
theorem zdh.bw {a:Option Addr} {off:Nat} {L:List Rk} (h:zdh w a b off n L) (hb:Bl w w'):zdh w' a b off n L:=
 ⟨h.len,h.addr,fun h0=>by have:=h.low h0;have:=hb.size;omega,fun i hi=>yds (h.cell i hi) (h.low (by omega)) hb⟩
theorem zfh (h:∀j,j<n->P j=true):(List.range n).all P=true:=by
 rw [Qw];exact fun j hj=>h j (List.mem_range.1 hj)
theorem zg2 {k:Nat} (hk:k<n) (h:P k=false):(List.range n).all P=false:=by
 rw [List.all_eq_false];exact ⟨k,List.mem_range.2 hk,by rw [h];simp⟩
def zea (x:Rk):Bool:=decide (-1000000000000000000<=x.s)&&decide (x.s<=1000000000000000000)
def zpt (L:List Rk) (i:Nat):Bool:=decide ((L.getD i rk0).m.size<=200)
def zke (L:List Rk) (i:Nat):Bool:=zea (L.getD i rk0)
def zhc (L:List Rk) (i:Nat):Bool:=decide (i=0)||zbv (L.getD (i-1) rk0) (L.getD i rk0)
def zib (L:List Rk) (i:Nat):Bool:=!((List.range i).any fun k=>decide ((L.getD k rk0).m=(L.getD i rk0).m))
theorem zxb (a:Option Addr) (b off n c:Nat) (L:List Rk) (w:World) (h:zdh w a b off n L) (hn:n<=1048577):
  Calls prog 304 #[.slice a n c] w fun e w'=>e= .returned (.bool ((List.range n).all (zke L)))/\Bl w w':=by
 have H:Hid (zdh w a b off n L):=h;clear h;go_enter func304,ntmps304;go_wp2;go_loopw [7] (fun i wr=>∃(k:Nat),k<=n/\i= .int .i64 k/\Hid (∀j,j<k->zke L j=true)/\Bl w wr) (fun i _=>n-(intOf i).toNat)
 case atStart=>exact ⟨0,by omega,rfl,fun j hj=>by omega,Qb _ _⟩
 case round=>
  obtain ⟨k,hk,rfl,hp,bk⟩:=hrel;by_cases hlt:k<n
  ·have HW:=H.out.bw bk;have hx:=HW.cell k hlt;obtain rfl:=HW.addr (by omega);have c0:=hx.c0;have c1:=hx.c1;have HS:Hid (zke L k=zea (L.getD k rk0)):=rfl;generalize L.getD k rk0=x at*;obtain ⟨m,s⟩:=x;have HN:=fun W=>zvz s W;have sk:=bk.size;have b1:Bl w (wr.alloc (.cells #[.string m,.int .i64 s] 147)):=bk.alloc sk _;clear HW hx;dsimp only at c0 c1;go_wp2_with fail;refine (HN _).mono ?_;rintro e w1 ⟨rfl,rfl⟩;clear HN;have HS2:Hid (zke L k=(decide (-1000000000000000000<=s)&&decide (s<=1000000000000000000))):=HS.out;clear HS;generalize (decide (-1000000000000000000<=s)&&decide (s<=1000000000000000000))=ok at*;cases ok with
   |true=>
    have HP2:Hid (∀j,j<k+1->zke L j=true):=fun j hj=>by
     by_cases e:j=k
     ·subst e;exact HS2.out
     ·exact hp.out j (by omega)
    clear hp;go_wp2;go_roundw
    case rel=>exact ⟨k+1,by omega,by go_num,HP2,b1⟩
    case measure=>simp [intOf];omega
   |false=>
    have HF:Hid ((List.range n).all (zke L)=false):=zg2 hlt HS2.out;clear hp;go_wp2;go_ret;exact ⟨zae HF.out.symm,b1⟩
  ·obtain rfl:k=n:=by omega
   have HT:Hid ((List.range k).all (zke L)=true):=zfh hp.out;clear hp;go_wp2;go_ret;exact ⟨zae HT.out.symm,bk⟩
def zab (w:World) (g:Nat) (T:TypeId) (C:Array Value):Prop:=w.heap[g]?=some (.cells C T (0,0))
theorem zab.cell (h:zab w g T C) (j:Nat):w.cell? ⟨g,j,none⟩=C[j]?:=Lib.cell_of_heap h j
theorem zab.lt (h:zab w g T C):g<w.heap.size:=(Array.getElem?_eq_some_iff.1 h).1
theorem zab.new (w:World) (T:TypeId) (C:Array Value):zab (w.alloc (.cells C T)) w.heap.size T C:=by
 show (w.heap.push (.cells C T (0,0)))[w.heap.size]?=_;simp
theorem zab.bw (h:zab w g T C) (hb:Below B w w') (hg:g<B):zab w' g T C:=(hb.block g hg).trans h
theorem zbz {a b:ByteArray} (h:¬a=b):(a.toList==b.toList)=false:=by
 rw [beq_eq_false_iff_ne,ByteArray.toList_eq,ByteArray.toList_eq];intro e;exact h (ByteArray.ext (Array.toList_inj.1 e))
theorem str_eq (a b:ByteArray):(a.toList==b.toList)=decide (a=b):=by
 by_cases h:a=b
 ·subst h;simp
 ·rw [zbz h,Qf h]
theorem yd3 (x:Rk) (m:ByteArray) (g:Nat) (w:World) (hg:w.cell? ⟨g,0,none⟩=some (.string m)) (hlt:g<w.heap.size):
  Calls prog 283 #[rkV x,.pointer (some ⟨g,0,none⟩)] w fun e w'=>e= .returned (.bool (decide (x.m=m)))/\Bl w w':=by
 obtain ⟨xm,xs⟩:=x;have b0:Bl w (w.alloc (.cells #[.string xm,.int .i64 xs] 147)):=(Qb _ w).alloc (Qc _) _;have hg1:(w.alloc (.cells #[.string xm,.int .i64 xs] 147)).cell? ⟨g,0,none⟩=some (.string m):=(b0.cell (p:=⟨g,0,none⟩) hlt).trans hg;have HE:Hid ((xm.toList==m.toList)=decide (xm=m)):=str_eq xm m;go_enter func283,ntmps283;go_wp2;go_ret;exact ⟨zae HE.out,b0⟩
def zhx (L:List Rk) (m:ByteArray) (n:Nat) (r:Int):Prop:=
 (∃k:Nat,r=k/\k<n/\(L.getD k rk0).m=m/\∀j,j<k->(L.getD j rk0).m≠m)\/(r= -1/\∀j,j<n->(L.getD j rk0).m≠m)
section
variable (a:Option Addr) (b off n c:Nat) (L:List Rk) (m:ByteArray)
theorem yao (g:Nat) (w:World) (h:zdh w a b off n L) (hn:n<=1048577) (hg:w.cell? ⟨g,0,none⟩=some (.string m)) (hg2:g<w.heap.size):
  Calls prog 282 #[.slice a n c,.func (.func 283) #[] #[.pointer (some ⟨g,0,none⟩)]] w fun e w'=> (∃r:Int,e= .returned (.int .i64 r)/\zhx L m n r)/\Bl w w':=by
 have H:Hid (zdh w a b off n L):=h;have HG:Hid (w.cell? ⟨g,0,none⟩=some (.string m)):=hg;clear h hg;go_enter func282,ntmps282;go_wp2;go_loopw [8] (fun i wr=>∃(k:Nat),k<=n/\i= .int .i64 k/\Hid (∀j,j<k->(L.getD j rk0).m≠m)/\Bl w wr) (fun i _=>n-(intOf i).toNat)
 case atStart=>exact ⟨0,by omega,rfl,fun j hj=>by omega,Qb _ _⟩
 case round=>
  obtain ⟨k,hk,rfl,hp,bk⟩:=hrel;by_cases hlt:k<n
  ·have HW:=H.out.bw bk;have hx:=HW.cell k hlt;obtain rfl:=HW.addr (by omega);have c0:=hx.c0;have c1:=hx.c1;have sk:=bk.size;have hgk:wr.cell? ⟨g,0,none⟩=some (.string m):=(bk.cell (p:=⟨g,0,none⟩) hg2).trans HG.out;have HS:Hid (∃x,L.getD k rk0=x):=⟨_,rfl⟩;obtain ⟨x,hxe⟩:=HS.out;have HX:Hid (L.getD k rk0=x):=hxe;rw [hxe] at c0 c1;have HC:=yd3 x m g wr hgk (by omega);clear HW hx HS hxe;obtain ⟨xm,xs⟩:=x;dsimp only at c0 c1;go_wp2_with fail;refine HC.mono ?_;rintro e w1 ⟨rfl,b1⟩;have b2:=bk.trans (b1.mono sk);clear HC b1;dsimp only;by_cases he:xm=m
   ·have HT:Hid (zhx L m n k):= .inl ⟨k,rfl,hlt,by rw [HX.out];exact he,hp.out⟩;have hd:decide (xm=m)=true:=Qe he;clear hp;go_wp2;go_ret;exact ⟨⟨_,rfl,HT.out⟩,b2⟩
   ·have HP2:Hid (∀j,j<k+1->(L.getD j rk0).m≠m):=fun j hj=>by
     by_cases e:j=k
     ·subst e;rw [HX.out];exact he
     ·exact hp.out j (by omega)
    have hd:decide (xm=m)=false:=Qf he;clear hp;go_wp2;go_roundw
    case rel=>exact ⟨k+1,by omega,by go_num,HP2,b2⟩
    case measure=>simp [intOf];omega
  ·obtain rfl:k=n:=by omega
   have HT:Hid (zhx L m k (-1)):= .inr ⟨rfl,hp.out⟩;clear hp;go_wp2;go_ret;exact ⟨⟨_,rfl,HT.out⟩,bk⟩
theorem zqi (w:World) (h:zdh w a b off n L) (hn:n<=1048577):
  Calls prog 258 #[.slice a n c,.string m] w fun e w'=> (∃r:Int,e= .returned (.int .i64 r)/\zhx L m n r)/\Bl w w':=by
 have b0:Bl w (w.alloc (.cells #[.string m] 9)):=(Qb _ w).alloc (Qc _) _;have q0:=zab.new w 9 #[.string m];have HI:=yao a b off n c L m w.heap.size (w.alloc (.cells #[.string m] 9)) (h.bw b0) hn (q0.cell 0) q0.lt;have sk:=b0.size;clear h;go_enter func258,ntmps258;go_wp2_with fail;refine HI.mono ?_;rintro e w1 ⟨⟨r,rfl,hr⟩,b1⟩;have b2:=b0.trans (b1.mono sk);have HR:Hid (zhx L m n r):=hr;clear HI b1 hr;go_wp2;go_ret;exact ⟨⟨r,rfl,HR.out⟩,b2⟩
end
theorem zs7 {L:List Rk} {r:Int} (hi:i<n) (h:zhx L (L.getD i rk0).m n r):zib L i=decide (r=i):=by
 rcases h with ⟨k,rfl,hk,he,hj⟩|⟨rfl,hj⟩
 ·by_cases hik:i<k
  ·exact absurd rfl (hj i hik)
  ·by_cases e:k=i
   ·subst e;rw [Qe rfl];unfold zib;rw [Bool.not_eq_true'];rw [List.any_eq_false];intro j hj2;simpa using hj j (List.mem_range.1 hj2)
   ·rw [Qf (by omega)];unfold zib;rw [Bool.not_eq_false'];rw [List.any_eq_true];exact ⟨k,List.mem_range.2 (by omega),by simpa using he⟩
 ·exact absurd rfl (hj i hi)
theorem zwn (a:Option Addr) (b off n c:Nat) (L:List Rk) (w:World) (h:zdh w a b off n L) (hn:n<=1048577):
  Calls prog 306 #[.slice a n c] w fun e w'=>e= .returned (.bool ((List.range n).all (zib L)))/\Bl w w':=by
 have H:Hid (zdh w a b off n L):=h;clear h;go_enter func306,ntmps306;go_wp2;go_loopw [7] (fun i wr=>∃(k:Nat),k<=n/\i= .int .i64 k/\Hid (∀j,j < k->zib L j=true)/\Bl w wr) (fun i _=>n - (intOf i).toNat)
 case atStart=>exact ⟨0,by omega,rfl,fun j hj=>by omega,Qb _ _⟩
 case round=>
  obtain ⟨k,hk,rfl,hp,bk⟩:=hrel;by_cases hlt:k < n
  ·have HW:=H.out.bw bk;have hx:=HW.cell k hlt;obtain rfl:=HW.addr (by omega);have c0:=hx.c0;have c1:=hx.c1;have HF:Hid (∀r:Int,zhx L (L.getD k rk0).m n r->zib L k=decide (r=k)):=fun r=>zs7 hlt;generalize L.getD k rk0=x at*;obtain ⟨m,s⟩:=x;have sk:=bk.size;have b0:Bl wr (wr.alloc (.cells #[.string m,.int .i64 s] 147)):=(Qb _ _).alloc (Qc _) _;have s0:=b0.size;have HPL:=zqi _ b off n c L m (wr.alloc (.cells #[.string m,.int .i64 s] 147)) (HW.bw b0) hn;have b1:=bk.trans (b0.mono sk);clear HW hx b0;dsimp only at c0 c1;go_wp2_with fail;refine HPL.mono ?_;rintro e w1 ⟨⟨r,rfl,hr⟩,b2⟩;have b3:=b1.trans (b2.mono (by omega));have HS:Hid (zib L k=decide (r=k)):=HF.out r hr;clear HPL HF hr b2 b1;by_cases he:r=k
   ·have HP2:Hid (∀j,j < k+1->zib L j=true):=fun j hj=>by
     by_cases e:j=k
     ·subst e;rw [HS.out,Qe he]
     ·exact hp.out j (by omega)
    subst he;clear hp HS;go_wp2;go_roundw
    case rel=>exact ⟨k+1,by omega,by go_num,HP2,b3⟩
    case measure=>simp [intOf];omega
   ·have HF:Hid ((List.range n).all (zib L)=false):=zg2 hlt (by rw [HS.out,Qf he]);have hne:(r !=(k:Int))=true:=by simpa using he
    clear hp HS;go_wp2;go_ret;exact ⟨zae HF.out.symm,b3⟩
  ·obtain rfl:k=n:=by omega
   have HT:Hid ((List.range k).all (zib L)=true):=zfh hp.out;clear hp;go_wp2;go_ret;exact ⟨zae HT.out.symm,bk⟩
theorem zio:∀a b:List UInt8,decide (Lib.compareBytes a b<0)=Op.bytesLess a b
 | [],[]=>rfl
 | [],_::_=>rfl
 |_::_,[]=>rfl
 |a::x,b::y=>by
  unfold Lib.compareBytes Op.bytesLess;by_cases h1:a<b
  ·rw [if_pos h1,Qe h1];rfl
  ·rw [if_neg h1,Qf h1];by_cases h2:b<a
   ·have h3:(a==b)=false:=by
     rw [beq_eq_false_iff_ne];rintro rfl;exact h1 h2
    rw [if_pos h2,h3];rfl
   ·have h3:a=b:=by
     apply UInt8.toNat_inj.1;have h4:¬a.toNat<b.toNat:=fun h=>h1 (UInt8.lt_iff_toNat_lt.2 h);have h5:¬b.toNat<a.toNat:=fun h=>h2 (UInt8.lt_iff_toNat_lt.2 h);omega
    subst h3;rw [if_neg h2,zio x y];simp
def znt (x y:Int):Int:=if x<y then-1 else if y<x then 1 else 0
def zps (x y:Rk):Int:=if znt x.s y.s=0 then Lib.compareBytes x.m.data.toList y.m.data.toList else znt x.s y.s
theorem zqn (x y:Rk):decide (zps x y<0)=zbv x y:=by
 unfold zps znt zbv;by_cases h1:x.s<y.s
 ·rw [if_pos h1,Qe h1];rfl
 ·rw [if_neg h1,Qf h1];by_cases h2:y.s<x.s
  ·rw [if_pos h2,Qf (by omega:¬x.s=y.s)];rfl
  ·rw [if_neg h2,Qe (by omega:x.s=y.s)];rw [ByteArray.toList_eq,ByteArray.toList_eq,<-zio];simp
theorem zsm (x:Int) (w:World):Calls prog 327 #[.int .i64 x] w fun e w'=>e= .returned (.bool false)/\w'=w:=by
 go_enter func327,ntmps327;go_wp2;go_ret;exact ⟨zae (by simp),rfl⟩
theorem zuy (x y:Int) (w:World):Calls prog 309 #[.int .i64 x,.int .i64 y] w fun e w'=>e= .returned (.int .i64 (znt x y))/\w'=w:=by
 by_cases h1:x<y
 ·have HE:Hid (znt x y= -1):=by unfold Hid znt;rw [if_pos h1]
  generalize znt x y=z at*;go_enter func309,ntmps309;go_wp2_with (go_at_call 327;refine (zsm _ _).mono ?_;rintro e w' ⟨rfl,rfl⟩);go_ret;exact ⟨zen HE.out.symm,rfl⟩
 ·by_cases h2:y<x
  ·have HE:Hid (znt x y=1):=by unfold Hid znt;rw [if_neg h1,if_pos h2]
   generalize znt x y=z at*;go_enter func309,ntmps309;go_wp2_with (go_at_call 327;refine (zsm _ _).mono ?_;rintro e w' ⟨rfl,rfl⟩);go_ret;exact ⟨zen HE.out.symm,rfl⟩
  ·have HE:Hid (znt x y=0):=by unfold Hid znt;rw [if_neg h1,if_neg h2]
   generalize znt x y=z at*;go_enter func309,ntmps309;go_wp2_with (go_at_call 327;refine (zsm _ _).mono ?_;rintro e w' ⟨rfl,rfl⟩);go_ret;exact ⟨zen HE.out.symm,rfl⟩
section
variable (a b:ByteArray) (w:World)
theorem ydr:Calls prog 154 #[.string a,.string b] w fun e w'=>e= .returned (.int .i64 (Lib.compareBytes a.data.toList b.data.toList))/\w'=w:=by
 go_enter func154,ntmps154;go_wp2;rw [run_callFunc_extern func213 (by kernel_rfl) (by kernel_rfl) (by kernel_rfl) (e:=Extern.BytealgCompare.compare) (by kernel_rfl),Lib.run_compareString];simp only [Result.andThen];rw [Oper.upon_value];go_wp2;go_ret;exact ⟨rfl,rfl⟩
theorem zkq:Calls prog 109 #[.string a,.string b] w fun e w'=>e= .returned (.int .i64 (Lib.compareBytes a.data.toList b.data.toList))/\w'=w:=by
 go_enter func109,ntmps109;go_wp2_with (go_at_call 154;refine (ydr _ _ _).mono ?_;rintro e w' ⟨rfl,rfl⟩);go_ret;exact ⟨rfl,rfl⟩
end
theorem yfg (x y:Int) (g:Nat) (w:World) (h0:w.cell? ⟨g,0,none⟩=some (.int .i64 x)) (h1:w.cell? ⟨g,1,none⟩=some (.int .i64 y)):
  Calls prog 308 #[.slice (some ⟨g,0,none⟩) 2 2] w fun e w'=>e= .returned (.int .i64 (if x=0 then y else x))/\w'=w:=by
 have HE:Hid (∀z,(x=0->z=y)->(x≠0->z=x)->z=(if x=0 then y else x)):=fun z a b=>by
  by_cases h:x=0
  ·rw [if_pos h];exact a h
  ·rw [if_neg h];exact b h
 generalize (if x=0 then y else x)=z at*;go_enter func308,ntmps308;go_wp2;go_loopw [8] (fun i wr=>∃(k:Nat),k<=2/\i= .int .i64 k/\Hid ((1<=k->x=0)/\(2<=k->y=0))/\wr=w) (fun i _=>2 - (intOf i).toNat)
 case atStart=>exact ⟨0,by omega,rfl,⟨fun h=>by omega,fun h=>by omega⟩,rfl⟩
 case round=>
  obtain ⟨k,hk,rfl,hp,rfl⟩:=hrel;obtain rfl | rfl | rfl:k=0\/k=1\/k=2:=by omega
  ·by_cases hx:x=0
   ·subst hx;clear hp;go_wp2;go_roundw
    case rel=>exact ⟨0+1,by omega,by go_num,⟨fun _=>trivial,fun h=>by omega⟩,trivial⟩
    case measure=>simp [intOf]
   ·have hne:(x !=0)=true:=by simpa using hx
    have HZ:Hid (x=z):=HE.out x (fun h=>absurd h hx) (fun _=>rfl);clear hp HE;go_wp2;go_ret;exact ⟨zen HZ.out,rfl⟩
  ·have hx:x=0:=hp.out.1 (by omega);by_cases hy:y=0
   ·have HP:Hid ((1<=1+1->x=0)/\(2<=1+1->y=0)):=⟨fun _=>hx,fun h=>hy⟩;subst hy;clear hp hx;go_wp2;go_roundw
    case rel=>exact ⟨1+1,by omega,by go_num,⟨HP.out.1,fun _=>trivial⟩,trivial⟩
    case measure=>simp [intOf]
   ·have hne:(y !=0)=true:=by simpa using hy
    have HZ:Hid (y=z):=HE.out y (fun _=>rfl) (fun h=>absurd hx h);clear hp HE hx;go_wp2;go_ret;exact ⟨zen HZ.out,rfl⟩
  ·have HZ:Hid (0=z):=HE.out 0 (fun _=> (hp.out.2 (by omega)).symm) (fun h=>absurd (hp.out.1 (by omega)) h);clear hp HE;go_wp2;go_ret;exact ⟨zen HZ.out,rfl⟩
theorem wrap_small {n:Int} (h1:-9223372036854775808<=n) (h2:n<=9223372036854775807):IntKind.i64.wrap n=n:=by
 simp [IntKind.wrap,IntKind.signed,IntKind.bits];omega
theorem kept {W:World} {a:Addr} {o:Obj} (h:W.cell? a=some v):(W.drew.alloc o).cell? a=some v:=
 (World.cell?_alloc_some W.drew a o (by show (W.cell? a).isSome=true;rw [h];rfl)).trans h
theorem zty (x y:Rk) (w:World):
  Calls prog 281 #[rkV x,rkV y] w fun e w'=>e= .returned (.int .i64 (zps x y))/\Bl w w':=by
 obtain ⟨xm,xs⟩:=x;obtain ⟨ym,ys⟩:=y;have HE:Hid (zps ⟨xm,xs⟩ ⟨ym,ys⟩=if znt xs ys=0 then Lib.compareBytes xm.data.toList ym.data.toList else znt xs ys):=rfl;generalize zps ⟨xm,xs⟩ ⟨ym,ys⟩=z at*;have b0:Bl w ((w.alloc (.cells #[.string xm,.int .i64 xs] 147)).alloc (.cells #[.string ym,.int .i64 ys] 147)):=((Qb _ w).alloc (Qc _) _).alloc (by simp) _;go_enter func281,ntmps281;have r0:=(zab.new w 147 #[.string xm,.int .i64 xs]).bw ((Qb _ _).alloc (Qc _) (.cells #[.string ym,.int .i64 ys] 147)) (by simp);have r1:=zab.new (w.alloc (.cells #[.string xm,.int .i64 xs] 147)) 147 #[.string ym,.int .i64 ys];simp only [World.size_alloc] at r1;have s0:=b0.size;have e0:=r0.cell 0;have e1:=r0.cell 1;have d0:=r1.cell 0;have d1:=r1.cell 1;simp only [Qm,Qk,Ql] at e0 e1 d0 d1;go_wp2_with fail;generalize (w.alloc (.cells #[.string xm,.int .i64 xs] 147)).alloc (.cells #[.string ym,.int .i64 ys] 147)=W at*;clear r0 r1;generalize hc1:znt xs ys=c1 at*;have HC1:Hid (znt xs ys=c1):=hc1;generalize hc2:Lib.compareBytes xm.data.toList ym.data.toList=c2 at*;have HC2:Hid (Lib.compareBytes xm.data.toList ym.data.toList=c2):=hc2;clear hc1 hc2;have HX:Hid (∀W,Cp 309 #[.int .i64 xs,.int .i64 ys] W fun e w'=>e= .returned (.int .i64 c1)/\w'=W):=fun W=>by
  have:=zuy xs ys W;rwa [HC1.out] at this
 have HY:Hid (∀W,Cp 109 #[.string xm,.string ym] W fun e w'=>e= .returned (.int .i64 c2)/\w'=W):=fun W=>by
  have:=zkq xm ym W;rwa [HC2.out] at this
 have HO:Hid (∀g W,W.cell? ⟨g,0,none⟩=some (.int .i64 c1)->W.cell? ⟨g,1,none⟩=some (.int .i64 c2)->Cp 308 #[.slice (some ⟨g,0,none⟩) 2 2] W fun e w'=>e= .returned (.int .i64 z)/\w'=W):=fun g W h0 h1=>by
  have:=yfg c1 c2 g W h0 h1;rwa [<-HE.out] at this
 have kp:Hid (∀o,(W.drew.alloc o).cell? ⟨w.heap.size,0,none⟩=some (.string xm)/\(W.drew.alloc o).cell? ⟨w.heap.size,1,none⟩=some (.int .i64 xs)/\(W.drew.alloc o).cell? ⟨w.heap.size+1,0,none⟩=some (.string ym)/\(W.drew.alloc o).cell? ⟨w.heap.size+1,1,none⟩=some (.int .i64 ys)):=fun o=>⟨kept e0,kept e1,kept d0,kept d1⟩;go_region_held3 (fun W'=>W'.cell? ⟨w.heap.size,0,none⟩=some (.string xm)/\W'.cell? ⟨w.heap.size,1,none⟩=some (.int .i64 xs)/\W'.cell? ⟨w.heap.size+1,0,none⟩=some (.string ym)/\W'.cell? ⟨w.heap.size+1,1,none⟩=some (.int .i64 ys))
  (first
   |exact ⟨e0,e1,d0,d1⟩
   |exact kp.out _)
  (first
   |(go_at_call 309;refine (HX.out _).mono ?_;rintro e w' ⟨rfl,rfl⟩)
   |(go_at_call 109;refine (HY.out _).mono ?_;rintro e w' ⟨rfl,rfl⟩)
   |(go_at_call 308;refine (HO.out _ _ ((zab.new _ _ _).cell 0) ((zab.new _ _ _).cell 1)).mono ?_;rintro e w' ⟨rfl,rfl⟩))
 all_goals
  go_wp2;go_ret;exact ⟨rfl,(below_drewN b0 1).alloc s0 _⟩
theorem yap (a:Option Addr) (b off n c:Nat) (L:List Rk) (w:World) (h:zdh w a b off n L) (hn:n<=1048577):
  Calls prog 305 #[.slice a n c,.func (.func 281) #[] #[]] w fun e w'=>e= .returned (.bool ((List.range n).all (zhc L)))/\Bl w w':=by
 have H:Hid (zdh w a b off n L):=h;clear h;go_enter func305,ntmps305;go_wp2;go_loopw [5] (fun i wr=>∃(k:Nat),1<=k/\(k<=n\/k=1)/\i= .int .i64 k/\Hid (∀j,j<k->zhc L j=true)/\Bl w wr) (fun i _=>n-(intOf i).toNat)
 case atStart=>exact ⟨1,by omega,.inr rfl,rfl,(fun j hj=>by cases (by omega:j=0);rfl),Qb _ _⟩
 case round=>
  obtain ⟨k,hk1,hk,rfl,hp,bk⟩:=hrel;by_cases hlt:k<n
  ·have HW:=H.out.bw bk;have hx:=HW.cell (k-1) (by omega);have hy:=HW.cell k hlt;obtain rfl:=HW.addr (by omega);have HS:Hid (zhc L k=decide (zps (L.getD (k-1) rk0) (L.getD k rk0)<0)):=by
    unfold Hid;rw [zqn];unfold zhc;rw [Qf (by omega)];rfl
   have c0:=hx.c0;have c1:=hx.c1;have d0:=hy.c0;have d1:=hy.c1;generalize L.getD (k-1) rk0=x,L.getD k rk0=y at*;have HC:Hid (∀W,Cp 281 #[rkV x,rkV y] W fun e w'=>e= .returned (.int .i64 (zps x y))/\Bl W w'):=fun W=>zty x y W;generalize zps x y=z at*;obtain ⟨xm,xs⟩:=x;obtain ⟨ym,ys⟩:=y;have sk:=bk.size;have hb:=HW.low (by omega);clear HW hx hy;dsimp only at c0 c1 d0 d1;have hk2:(1:Int)<=(k:Int):=by omega
   have hk3:(0:Int)<=(k:Int)-1:=by omega
   have hk4:(k:Int)-1<(n:Int):=by omega
   have hk0:(0:Int)<=(k:Int):=by omega
   have hkn:(k:Int)<(n:Int):=by omega
   have htn:((k:Int)-1).toNat=k-1:=by omega
   have hw:IntKind.i64.wrap ((k:Int)-1)=(k:Int)-1:=wrap_small (by omega) (by omega);go_upto_region 4 with fail;go_region_held3 (fun W=>W.cell? ⟨b,off+(k-1)*2,none⟩=some (.string xm)/\W.cell? ⟨b,off+(k-1)*2+1,none⟩=some (.int .i64 xs)/\W.cell? ⟨b,off+k*2,none⟩=some (.string ym)/\W.cell? ⟨b,off+k*2+1,none⟩=some (.int .i64 ys))
    (first
     |exact ⟨c0,c1,d0,d1⟩
     |exact ⟨(b1.cell (p:=⟨b,_,none⟩) hb).trans c0,(b1.cell (p:=⟨b,_,none⟩) hb).trans c1,(b1.cell (p:=⟨b,_,none⟩) hb).trans d0,(b1.cell (p:=⟨b,_,none⟩) hb).trans d1⟩)
    (first
     |(go_at_call 281;refine (HC.out _).mono ?_;rintro e w1 ⟨rfl,b1⟩))
   have b2:Bl w w1:=bk.trans ((Below.trans (below_drewN (Qb _ wr) 1) b1).mono sk);clear b1 htn hw hk3 hk4 c0 c1 d0 d1 HC hk0;by_cases hz:z<0
   ·have hd:decide (0<=z)=false:=Qf (by omega);have HP2:Hid (∀j,j<k+1->zhc L j=true):=fun j hj=>by
     by_cases e:j=k
     ·subst e;rw [HS.out,Qe hz]
     ·exact hp.out j (by omega)
    clear hp HS;go_wp2;go_roundw
    case rel=>exact ⟨k+1,by omega,.inl (by omega),by go_num,HP2,b2⟩
    case measure=>simp [intOf];omega
   ·have hd:decide (0<=z)=true:=Qe (by omega);have HF:Hid ((List.range n).all (zhc L)=false):=zg2 hlt (by rw [HS.out,Qf hz]);clear hp HS;go_wp2;go_ret;exact ⟨zae HF.out.symm,b2⟩
  ·have HT:Hid ((List.range n).all (zhc L)=true):=zfh fun j hj=>hp.out j (by omega);clear hp;go_wp2;go_ret;exact ⟨zae HT.out.symm,bk⟩
def zsj (L:List Rk) (i:Nat):Bool:=zpt L i&&(zke L i&&(zhc L i&&zib L i))
def zec (L:List Rk):Bool:=decide (L.length<=20)&&(List.range L.length).all (zsj L)
theorem yj5 {L:List Rk} {q:Nat} (h:q<i) (he:(L.getD q rk0).m=(L.getD i rk0).m):zib L i=false:=by
 unfold zib;rw [Bool.not_eq_false',List.any_eq_true];exact ⟨q,List.mem_range.2 h,by simpa using he⟩
theorem yfc {L:List Rk} (h:∀j,j<i->(L.getD j rk0).m≠(L.getD i rk0).m):zib L i=true:=by
 unfold zib;rw [Bool.not_eq_true',List.any_eq_false];intro j hj;simpa using h j (List.mem_range.1 hj)
theorem zy4 (a:Option Addr) (b off n c:Nat) (L:List Rk) (w:World) (h:zdh w a b off n L) (hn:n<=1048577):
  Calls prog 138 #[.slice a n c] w fun e w'=>e= .returned (.bool (zec L))/\Bl w w':=by
 have H:Hid (zdh w a b off n L):=h;have HL:Hid (L.length=n):=h.len;clear h;by_cases h20:n<=20
 ·have g20:¬(20:Int)<(n:Int):=by omega
  have HE:Hid (zec L=(List.range n).all (zsj L)):=by
   unfold Hid zec;rw [HL.out,Qe h20,Qz]
  go_enter func138,ntmps138;go_wp2;go_loopw [3] (fun i wr=>∃(k:Nat),k<=n/\i= .int .i64 k/\Hid (∀j,j<k->zsj L j=true)/\Bl w wr) (fun i _=>n-(intOf i).toNat)
  case atStart=>exact ⟨0,by omega,rfl,fun j hj=>by omega,Qb _ _⟩
  case round=>
   obtain ⟨k,hk,rfl,hp,bk⟩:=hrel;by_cases hlt:k<n
   ·have HW:=H.out.bw bk;have hy:=HW.cell k hlt;obtain rfl:=HW.addr (by omega);have hb:=HW.low (by omega);have d0:=hy.c0;have d1:=hy.c1;have HOK:Hid (zsj L k=(zpt L k&&(zke L k&&(zhc L k&&zib L k)))):=rfl;have HNO:Hid (zsj L k=false->zec L=false):=fun hf=>by rw [HE.out];exact zg2 hlt hf
    have HBU:Hid (zpt L k=decide ((L.getD k rk0).m.size<=200)):=rfl;have HSC:Hid (zke L k=(decide (-1000000000000000000<=(L.getD k rk0).s)&&decide ((L.getD k rk0).s<=1000000000000000000))):=rfl;have HY:Hid (∃y,L.getD k rk0=y):=⟨_,rfl⟩;obtain ⟨y,hye⟩:=HY.out;have HYE:Hid (L.getD k rk0=y):=hye;rw [hye] at d0 d1 HBU HSC;obtain ⟨ym,ys⟩:=y;dsimp only at d0 d1;have sk:=bk.size;have hk0:(0:Int)<=(k:Int):=by omega
    have hkn:(k:Int)<(n:Int):=by omega
    clear HY hye hy;by_cases hsz:ym.size<=200
    ·have gsz:¬(200:Int)<(ym.size:Int):=by omega
     have HBU2:Hid (zpt L k=true):=HBU.out.trans (Qe hsz);clear HBU;have HIN:Hid (∀W,Cp 52 #[.int .i64 ys,.int .i64 (-1000000000000000000),.int .i64 1000000000000000000] W fun e w'=>e= .returned (.bool (zke L k))/\w'=W):=fun W=>by
      rw [HSC.out];exact yio ys (-1000000000000000000) 1000000000000000000 W
     cases hsc:zke L k with
     |false=>
      rw [hsc] at HIN;have HN2:Hid (zec L=false):=HNO.out (by rw [HOK.out,hsc];simp);clear HSC hsc HOK HNO hp HE HBU2 HW;go_upto_region 6 with fail;go_quiet ((exact Calls.quiet_of_same (HIN.out _)));go_wp2;go_ret;exact ⟨zae HN2.out.symm,below_drewN bk _⟩
     |true=>
      rw [hsc] at HIN;have HOK2:Hid (zsj L k=(zhc L k&&zib L k)):=by unfold Hid;rw [HOK.out,HBU2.out,hsc];rfl
      clear HSC hsc HOK HBU2;go_upto_region 6 with fail;go_cut [46] from 8 to 155 (fun x wx=>x= .bool (!zhc L k)/\Bl w wx)
      case first=>
       by_cases hk1:k=0
       ·have HRI:Hid (zhc L k=true):=by unfold Hid zhc;rw [Qe hk1];rfl
        have g1:decide ((0:Int)<(k:Int))=false:=Qf (by omega);have g2:decide (0<k)=false:=Qf (by omega);clear HOK2 HNO hp HE HW hk1;go_quiet ((exact Calls.quiet_of_same (HIN.out _)));go_step;go_step;go_meet
        case rel=>exact ⟨by rw [HRI.out];rfl,below_drewN bk _⟩
       ·have g1:decide ((0:Int)<(k:Int))=true:=Qe (by omega);have g2:decide (0<k)=true:=Qe (by omega);have HRI:Hid (zhc L k=zbv (L.getD (k-1) rk0) (L.getD k rk0)):=by
         unfold Hid zhc;rw [Qf hk1];rfl
        have hx:=HW.cell (k-1) (by omega);have c0:=hx.c0;have c1:=hx.c1;rw [HYE.out] at HRI;generalize L.getD (k-1) rk0=x at*;obtain ⟨ri,hri⟩:∃ri,zhc L k=ri:=⟨_,rfl⟩;have HRE:Hid (zhc L k=ri):=hri;have HAH:Hid (∀W,Cp 167 #[rkV x,rkV ⟨ym,ys⟩] W fun e w'=>e= .returned (.bool ri)/\Bl W w'):=fun W=>by
         rw [<-hri,HRI.out];exact zp0 x ⟨ym,ys⟩ W
        clear hri;obtain ⟨xm,xs⟩:=x;dsimp only at c0 c1;have hk2:(1:Int)<=(k:Int):=by omega
        have hk3:(0:Int)<=(k:Int)-1:=by omega
        have hk4:(k:Int)-1<(n:Int):=by omega
        have htn:((k:Int)-1).toNat=k-1:=by omega
        have hw:IntKind.i64.wrap ((k:Int)-1)=(k:Int)-1:=wrap_small (by omega) (by omega);clear HOK2 HNO hp HE HW hk1 HRI hx;go_region_held3 (fun W=>W.cell? ⟨b,off+(k-1)*2,none⟩=some (.string xm)/\W.cell? ⟨b,off+(k-1)*2+1,none⟩=some (.int .i64 xs)/\W.cell? ⟨b,off+k*2,none⟩=some (.string ym)/\W.cell? ⟨b,off+k*2+1,none⟩=some (.int .i64 ys))
         (first
          |exact ⟨c0,c1,d0,d1⟩
          |exact ⟨(b1.cell (p:=⟨b,_,none⟩) hb).trans c0,(b1.cell (p:=⟨b,_,none⟩) hb).trans c1,(b1.cell (p:=⟨b,_,none⟩) hb).trans d0,(b1.cell (p:=⟨b,_,none⟩) hb).trans d1⟩)
         (first
          |(go_at_call 52;refine (HIN.out _).mono ?_;rintro e w1 ⟨rfl,rfl⟩)
          |(go_at_call 167;refine (HAH.out _).mono ?_;rintro e w1 ⟨rfl,b1⟩))
        all_goals
         go_step;go_step;go_meet
         case rel=>exact ⟨by rw [HRE.out],bk.trans ((Below.trans (below_drewN (Qb _ wr) 1) b1).mono sk)⟩
      case rest=>
       obtain ⟨rfl,bw⟩:=hcut;clear HIN d0 d1 HW hb bk sk;have sw:=bw.size;generalize hnn:(!zhc L k)=nn;cases nn with
       |true=>
        have HN2:Hid (zec L=false):=HNO.out (by
         have hr:zhc L k=false:=by simpa using hnn
         rw [HOK2.out,hr];rfl)
        clear hnn HOK2 HNO hp HE;go_wp2;go_ret;exact ⟨zae HN2.out.symm,bw⟩
       |false=>
        have HOK3:Hid (zsj L k=zib L k):=by
         have hr:zhc L k=true:=by simpa using hnn
         unfold Hid;rw [HOK2.out,hr];rfl
        clear hnn HOK2;go_wp2_with fail;go_loopw [4] (fun i wr=>∃(q:Nat),q<=k/\i= .int .i64 q/\Hid (∀j,j<q->(L.getD j rk0).m≠ym)/\Bl w wr) (fun i _=>k-(intOf i).toNat)
        case atStart=>exact ⟨0,by omega,rfl,fun j hj=>by omega,bw⟩
        case round=>
         obtain ⟨q,hq,rfl,hpq,bq⟩:=hrel;by_cases hql:q<k
         ·have HWq:=H.out.bw bq;have e0:=(HWq.cell q (by omega)).c0;have d0:=(HWq.cell k hlt).c0;rw [HYE.out] at d0;have HX:Hid (∃x,(L.getD q rk0).m=x):=⟨_,rfl⟩;obtain ⟨xm,hxe⟩:=HX.out;have HXE:Hid ((L.getD q rk0).m=xm):=hxe;rw [hxe] at e0;dsimp only at d0;have hq0:(0:Int)<=(q:Int):=by omega
          have hqn:(q:Int)<(n:Int):=by omega
          clear HWq HX hxe;by_cases he:xm=ym
          ·have HN2:Hid (zec L=false):=HNO.out (by rw [HOK3.out];exact yj5 hql (by rw [HXE.out,HYE.out];exact he));have hd:(xm.toList==ym.toList)=true:=by rw [str_eq,Qe he]
           clear HNO HOK3 hp hpq HE HYE HXE he;go_upto_region 11 with fail;go_quiet ((fail));go_wp2;go_ret;exact ⟨zae HN2.out.symm,below_drewN bq _⟩
          ·have HP2:Hid (∀j,j<q+1->(L.getD j rk0).m≠ym):=fun j hj=>by
            by_cases e:j=q
            ·subst e;rw [HXE.out];exact he
            ·exact hpq.out j (by omega)
           have hd:=zbz he;clear HNO HOK3 hp hpq HE HYE HXE he;go_upto_region 11 with fail;go_quiet ((fail));go_wp2;go_roundw
           case rel=>exact ⟨q+1,by omega,by go_num,HP2,below_drewN bq _⟩
           case measure=>simp [intOf];omega
         ·obtain rfl:q=k:=by omega
          have HP2:Hid (∀j,j<q+1->zsj L j=true):=fun j hj=>by
           by_cases e:j=q
           ·subst e;rw [HOK3.out];exact yfc fun i hi=>by rw [HYE.out];exact hpq.out i hi
           ·exact hp.out j (by omega)
          clear HNO HOK3 hp hpq HE HYE;go_wp2;go_roundw
          case rel=>exact ⟨q+1,by omega,by go_num,HP2,bq⟩
          case measure=>simp [intOf];omega
    ·have gsz:(200:Int)<(ym.size:Int):=by omega
     have HN2:Hid (zec L=false):=HNO.out (by rw [HOK.out,HBU.out,Qf hsz];rfl);clear HBU HSC HOK HNO hp HE HW;go_upto_region 6 with fail;go_quiet (fail);go_wp2;go_ret;exact ⟨zae HN2.out.symm,below_drewN bk _⟩
   ·obtain rfl:k=n:=by omega
    have HT:Hid (zec L=true):=by unfold Hid;rw [HE.out];exact zfh hp.out
    clear hp HE;go_wp2;go_ret;exact ⟨zae HT.out.symm,bk⟩
 ·have g20:(20:Int)<(n:Int):=by omega
  have HE:Hid (zec L=false):=by
   unfold Hid zec;rw [HL.out,Qf h20,Q0]
  go_enter func138,ntmps138;go_wp2;go_ret;exact ⟨zae HE.out.symm,Qb _ _⟩
theorem zk2:(prog.info? 147).map (fun i=> (i.zero,i.size,i.bytes))=some (some (.agg #[.string ⟨#[]⟩,.int .i64 0]),2,24):=by kernel_rfl
def encR (x:Rk):List Value:=[.string x.m,.int .i64 x.s]
def zbk (L:List Rk):List Value:=L.flatMap encR
theorem zi3 (L:List Rk):(zbk L).length=L.length*2:=by
 unfold zbk;induction L with
 |nil=>rfl
 |cons x l ih=>rw [List.flatMap_cons,Qi,ih,Q1];show 2+l.length*2=_;omega
theorem zfi (L M:List Rk):zbk (L++M)=zbk L++zbk M:=List.flatMap_append
abbrev za9 (w:World) (B:Nat) (v:Value) (L:List Rk):Prop:=w.ownsRow B 147 2 v L.length (zbk L)
theorem zly (w:World) (B:Nat) (hB:B<=w.heap.size):za9 (w.alloc (.cells #[] 147)) B (.slice (some ⟨w.heap.size,0,none⟩) 0 0) []:=
 ⟨rfl,.inr ⟨w.heap.size,0, #[],rfl,hB,zab.new w 147 #[],by simp,by unfold maxLen;omega,by simp,by simp [zbk]⟩⟩
theorem below_grown {w1 w2:World} {r:Option Nat} (b:Below B w w1) (g:w1.grownBy w2 r) (hr:∀x,r=some x->B<=x) (hB:B<=w1.heap.size):Below B w w2:=
 ⟨g.os.trans b.os,g.tape.trans b.tape,g.output.trans b.output,Qj b.size g.size,fun k hk=> (g.block k (by omega) (fun e=>by have:=hr k e.symm;omega)).trans (b.block k hk)⟩
theorem za9.bw {L:List Rk} (h:za9 w B v L) (hb:Bl w w'):za9 w' B v L:=by
 obtain ⟨h1,⟨e1,e2⟩|⟨g,cap,cur,e1,h2,h3,h4⟩⟩:=h
 ·exact ⟨h1,.inl ⟨e1,e2⟩⟩
 ·exact ⟨h1,.inr ⟨g,cap,cur,e1,h2,(hb.block g (zab.lt (T:=147) (C:=cur) h3)).trans h3,h4⟩⟩
theorem zug (L:List Rk) (i:Nat) (h:i<L.length):(zbk L)[i*2]?=some (.string (L.getD i rk0).m)/\(zbk L)[i*2+1]?=some (.int .i64 (L.getD i rk0).s):=by
 induction L generalizing i with
 |nil=>simp at h
 |cons x l ih=>
  cases i with
  |zero=>exact ⟨rfl,rfl⟩
  |succ i=>
   have:=ih i (by simpa using h);have e:zbk (x::l)= .string x.m:: .int .i64 x.s::zbk l:=rfl;have e2:(i+1)*2=i*2+1+1:=by omega
   rw [e,e2];simpa using this
theorem ybo {A cap:Nat} {L:List Rk} (h:za9 w B (.slice (some ⟨A,0,none⟩) L.length cap) L) (i:Nat) (hi:i<L.length):yjg w A (i*2) (L.getD i rk0):=by
 obtain ⟨f0,f1⟩:=zug L i hi;have c0:=h.cells rfl _ _ f0;have c1:=h.cells rfl _ _ f1;rw [Addr.add_lit,Qq] at c0 c1;exact ⟨c0,c1⟩
def zef (T:List ByteArray) (i:Nat):Bool:=decide ((T.getD i empty).size<=200)
theorem zqp (a:Option Addr) (A n c:Nat) (T:List ByteArray) (w:World) (ha:0<n->a=some ⟨A,0,none⟩) (hc:∀i,i<n->w.cell? ⟨A,i,none⟩=some (.string (T.getD i empty))) (hn:n<=1048577):
  Calls prog 123 #[.slice a n c] w fun e w'=>e= .returned (.bool ((List.range n).all (zef T)))/\w'=w:=by
 have HA:Hid (0<n->a=some ⟨A,0,none⟩):=ha;have HC:Hid (∀i,i<n->w.cell? ⟨A,i,none⟩=some (.string (T.getD i empty))):=hc;clear ha hc;go_enter func123,ntmps123;go_wp2;go_loopw [7] (fun i wr=>∃(k:Nat),k<=n/\i= .int .i64 k/\Hid (∀j,j<k->zef T j=true)/\wr=w) (fun i _=>n-(intOf i).toNat)
 case atStart=>exact ⟨0,by omega,rfl,fun j hj=>by omega,rfl⟩
 case round=>
  obtain ⟨k,hk,rfl,hp,rfl⟩:=hrel;by_cases hlt:k<n
  ·have c0:=HC.out k hlt;obtain rfl:=HA.out (by omega);have HS:Hid (zef T k=decide ((T.getD k empty).size<=200)):=rfl;generalize T.getD k empty=t at*;by_cases hsz:t.size<=200
   ·have gsz:¬(200:Int)<(t.size:Int):=by omega
    have HP2:Hid (∀j,j<k+1->zef T j=true):=fun j hj=>by
     by_cases e:j=k
     ·subst e;rw [HS.out,Qe hsz]
     ·exact hp.out j (by omega)
    clear hp HS;go_wp2;go_roundw
    case rel=>exact ⟨k+1,by omega,by go_num,HP2,trivial⟩
    case measure=>simp [intOf];omega
   ·have gsz:(200:Int)<(t.size:Int):=by omega
    have HF:Hid ((List.range n).all (zef T)=false):=zg2 hlt (by rw [HS.out,Qf hsz]);clear hp HS;go_wp2;go_ret;exact ⟨zae HF.out.symm,rfl⟩
  ·obtain rfl:k=n:=by omega
   have HT:Hid ((List.range k).all (zef T)=true):=zfh hp.out;clear hp;go_wp2;go_ret;exact ⟨zae HT.out.symm,rfl⟩
end Go.Proofs.YtokafonppgppdaaGreatDoor.Kk
