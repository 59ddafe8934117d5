import Derived.Test.YtokafonppgppdaaGreatDoorVa
set_option maxHeartbeats 4000000
set_option maxRecDepth 100000
namespace Go.Proofs.YtokafonppgppdaaGreatDoor.Hp
open Tryz
open Go.RowKit
variable {w w1 w2:World} {r:Option Nat}
theorem za0 (w:World) (r:Option Nat):w.grownBy w r:=⟨rfl,rfl,rfl,Qc _,fun _ _ _=>rfl⟩
theorem zcc (h:w.grownBy w1 r) (hb:Bl w1 w2):w.grownBy w2 r:=
 ⟨hb.os.trans h.os,hb.tape.trans h.tape,hb.output.trans h.output,Qj h.size hb.size,fun k hk hr=> (hb.block k (Qr hk h.size)).trans (h.block k hk hr)⟩
theorem zah (h:w.grownBy w1 r) (h2:w1.grownBy w2 r):w.grownBy w2 r:=
 ⟨h2.os.trans h.os,h2.tape.trans h.tape,h2.output.trans h.output,Qj h.size h2.size,fun k hk hr=> (h2.block k (Qr hk h.size) hr).trans (h.block k hk hr)⟩
theorem zck (n a b:Int) (w:World):
  Calls prog 52 #[.int .i64 n,.int .i64 a,.int .i64 b] w fun e w'=>e= .returned (.bool (decide (a<=n/\n<=b)))/\w'=w:=by
 by_cases h1:a<=n
 ·by_cases h2:n<=b;all_goals
   go_enter func52,ntmps52;go_wp2;go_ret;exact ⟨by simp [h1,h2],rfl⟩
 ·go_enter func52,ntmps52;go_wp2;go_ret;exact ⟨by simp;omega,rfl⟩
end Go.Proofs.YtokafonppgppdaaGreatDoor.Hp
namespace Go.Proofs.YtokafonppgppdaaGreatDoor.Kk
open Go.RowKit Go.Sort
variable {w:World} {B:Nat} {L:List Rk}
theorem zfz (w:World) (B:Nat):za9 w B (.slice none 0 0) []:=⟨rfl,.inl ⟨rfl,rfl⟩⟩
theorem zpf {A cap:Nat} (h:za9 w B (.slice (some ⟨A,0,none⟩) L.length cap) L):zdh w (some ⟨A,0,none⟩) A 0 L.length L:=
 ⟨rfl,fun _=>rfl,fun _=> (h.lt A rfl).2,fun i hi=>by rw [Qq];exact ybo h i hi⟩
theorem zcl {v:Value} (h:za9 w B v L):∃a A c,v= .slice a L.length c/\zdh w a A 0 L.length L:=by
 rcases Joins.ownsRow_forms h with ⟨h1,h2⟩|⟨A,c,rfl⟩
 ·obtain rfl:L=[]:=List.length_eq_zero_iff.mp h2;exact ⟨none,0,0,h1,⟨rfl,fun h=>by simp at h,fun h=>by simp at h,fun i hi=>by simp at hi⟩⟩
 ·exact ⟨_,A,c,rfl,zpf h⟩
end Go.Proofs.YtokafonppgppdaaGreatDoor.Kk
namespace Go.Proofs.YtokafonppgppdaaGreatDoor
open Tryz
open _root_.ByteArray (empty)
open Go.RowKit Go.Sort
open Kk (Rk rk0 zd7 zju zc6 zea zeb zec za9 zbk encR)
variable {w:World} {B:Nat} {v:Value} {T:List ByteArray} {ps:List Pr}
theorem zq7 (T:List ByteArray):(List.range T.length).all (Kk.zef T)=T.all zcy:=Kk.zik T empty zcy
theorem zjh (h:zcx w B v T):∃a A c,v= .slice a T.length c/\(0<T.length->a=some ⟨A,0,none⟩/\B<=A/\A<w.heap.size)/\T.length<=c/\c<=9223372036854775807/\∀i,i<T.length->w.cell? ⟨A,i,none⟩=some (.string (T.getD i empty)):=by
 obtain ⟨h1,⟨h2,h3⟩|⟨g,cap,cur,rfl,q1,q2,q3,q4,q5⟩⟩:=h
 ·refine ⟨none,0,0,by rw [h2,h3],fun h=>by omega,by omega,by omega,fun i hi=>by omega⟩
 ·have h:zcx w B (.slice (some ⟨g,0,none⟩) T.length cap) T:=⟨h1,.inr ⟨g,cap,cur,rfl,q1,q2,q3,q4,q5⟩⟩;refine ⟨some ⟨g,0,none⟩,g,cap,rfl,fun _=>⟨rfl,(zaz h rfl).1,(zaz h rfl).2⟩,q3,by simpa [maxLen] using q4,fun i hi=>?_⟩
  have:=World.ownsRow.cells h rfl i (.string (T.getD i empty)) (by
   rw [Qa,Qd hi];simp [zdw,hi])
  rwa [Addr.add_lit,Qq] at this
theorem zc0 (h:zcx w B v T) (hz:∀t∈T,t.size<=1048576):∃a A c,v= .slice a T.length c/\zdg w a A 0 T.length T/\T.length<=c/\c<=9223372036854775807:=by
 obtain ⟨a,A,c,h1,h2,h3,h4,h5⟩:=zjh h;refine ⟨a,A,c,h1,⟨rfl,fun hp=> (h2 hp).1,fun hp=> (h2 hp).2.2,fun i hi=>by rw [Qq];exact h5 i hi,fun i hi=>?_⟩,h3,h4⟩;have:=hz (T.getD i empty) (by rw [Qa,Qd hi];simp);omega
theorem zlm (h:zcx w B v T) (hn:T.length<=1048577):Calls prog 123 #[v] w fun e w'=>e= .returned (.bool (T.all zcy))/\w'=w:=by
 obtain ⟨a,A,c,rfl,h2,_,_,h5⟩:=zjh h;have:=Kk.zqp a A T.length c T w (fun hp=> (h2 hp).1) h5 hn;rw [zq7] at this;exact this
theorem zv8 (t:ByteArray) (w:World):Calls prog 368 #[.string t] w fun e w'=>e= .returned (.bool (zcy t))/\Bl w w':=by
 have ho:zcx (w.alloc (.cells #[.string t] 9)) w.heap.size (.slice (some ⟨w.heap.size,0,none⟩) 1 1) [t]:=⟨rfl,.inr ⟨w.heap.size,1, #[.string t],rfl,Qc _,zab.new w 9 #[.string t],by simp,by unfold maxLen;omega,by simp,by simp [zdw]⟩⟩;have hb:Bl w (w.alloc (.cells #[.string t] 9)):=(Qb _ w).alloc (Qc _) _;have HC:Hid (Cp 123 #[.slice (some ⟨w.heap.size,0,none⟩) 1 1] (w.alloc (.cells #[.string t] 9)) fun e w'=>e= .returned (.bool (zcy t))/\w'=w.alloc (.cells #[.string t] 9)):=by
  have:=zlm ho (by simp);have e:[t].all zcy=zcy t:=by simp
  rw [e] at this;exact this
 have HT:Hid (Cp 369 #[.string t] w fun e w'=>e= .returned (.slice (some ⟨w.heap.size,0,none⟩) 1 1)/\w'=w.alloc (.cells #[.string t] 9)):=by
  unfold Hid;go_enter func369,ntmps369;go_wp2;go_ret;exact ⟨rfl,rfl⟩
 generalize zcy t=o at*;clear ho;go_enter func368,ntmps368;go_wp2_with fail;refine HT.out.mono ?_;rintro e w1 ⟨rfl,rfl⟩;go_wp2_with fail;refine HC.out.mono ?_;rintro e w2 ⟨rfl,rfl⟩;go_wp2;go_ret;exact ⟨rfl,hb⟩
theorem zt6 (h:zcx w B v T) (hn:T.length<=1048577):Calls prog 370 #[v] w fun e w'=>e= .returned (.bool (zdl T))/\w'=w:=by
 have HB:Hid (Cp 123 #[v] w fun e w'=>e= .returned (.bool (T.all zcy))/\w'=w):=zlm h hn;have HT:Hid (Cp 371 #[v] w fun e w'=>e= .returned v/\w'=w):=by
  unfold Hid;go_enter func371,ntmps371;go_wp2;go_ret;exact ⟨rfl,rfl⟩
 have HC:Hid (Cp 302 #[.int .i64 T.length] w fun e w'=>e= .returned (.bool (countB T.length))/\w'=w):=Kk.zlf T.length w;obtain ⟨a,c,hv⟩:=zad h;have HE:Hid (zdl T=(countB T.length&&T.all zcy)):=rfl;generalize T.all zcy=o2,countB T.length=o1 at*;generalize T.length=n at*;subst hv;clear h;cases o1 with
 |false=>
  have HE2:Hid (zdl T=false):=by unfold Hid;rw [HE.out];rfl
  go_enter func370,ntmps370;go_wp2_with fail;refine HC.out.mono ?_;rintro e w1 ⟨rfl,rfl⟩;go_wp2;go_ret;exact ⟨zae HE2.out.symm,rfl⟩
 |true=>
  have HE2:Hid (zdl T=o2):=by unfold Hid;rw [HE.out];rfl
  go_enter func370,ntmps370;go_wp2_with fail;refine HC.out.mono ?_;rintro e w1 ⟨rfl,rfl⟩;go_wp2_with fail;refine HT.out.mono ?_;rintro e w2 ⟨rfl,rfl⟩;go_wp2_with fail;refine HB.out.mono ?_;rintro e w3 ⟨rfl,rfl⟩;go_wp2;go_ret;exact ⟨zae HE2.out.symm,rfl⟩
structure za6 (w:World) (a:Option Addr) (b n:Nat) (ps:List Pr):Prop where
 len:ps.length=n
 addr:0<n->a=some ⟨b,0,none⟩
 low:0<n->b<w.heap.size
 c0:∀i,i<n->w.cell? ⟨b,i*2,none⟩=some (.string (ps.getD i (bz,bz)).1)
 c1:∀i,i<n->w.cell? ⟨b,i*2+1,none⟩=some (.string (ps.getD i (bz,bz)).2)
theorem za6.bw {w':World} {a:Option Addr} {b n:Nat} (h:za6 w a b n ps) (hb:Bl w w'):za6 w' a b n ps:=
 ⟨h.len,h.addr,fun h0=>by have:=h.low h0;have:=hb.size;omega,fun i hi=> (hb.cell (p:=⟨b,i*2,none⟩) (h.low (by omega))).trans (h.c0 i hi),fun i hi=> (hb.cell (p:=⟨b,i*2+1,none⟩) (h.low (by omega))).trans (h.c1 i hi)⟩
theorem zg0:∀(ps:List Pr) (i:Nat),i<ps.length->(zal ps)[i*2]?=some (.string (ps.getD i (bz,bz)).1)/\(zal ps)[i*2+1]?=some (.string (ps.getD i (bz,bz)).2)
 | [],i,h=>by simp at h
 |p::ps,0,_=>⟨rfl,rfl⟩
 |p::ps,i+1,h=>by
  have ih:=zg0 ps i (by simpa using h);have e:zal (p::ps)= .string p.1:: .string p.2::zal ps:=rfl;rw [e,show (i+1)*2=i*2+1+1 from by omega];simpa using ih
theorem zdn (h:zd2 w B v ps):∃a A c,v= .slice a ps.length c/\za6 w a A ps.length ps:=by
 rcases Joins.ownsRow_forms h with ⟨h1,h2⟩|⟨A,c,hv⟩
 ·exact ⟨none,0,0,by rw [h1,h2],⟨rfl,fun h=>by omega,fun h=>by omega,fun i hi=>by omega,fun i hi=>by omega⟩⟩
 ·subst hv;refine ⟨some ⟨A,0,none⟩,A,c,rfl,⟨rfl,fun _=>rfl,fun _=> (zaz h rfl).2,fun i hi=>?_,fun i hi=>?_⟩⟩
  ·have:=World.ownsRow.cells h rfl (i*2) _ (zg0 ps i hi).1;rwa [Addr.add_lit,Qq] at this
  ·have:=World.ownsRow.cells h rfl (i*2+1) _ (zg0 ps i hi).2;rwa [Addr.add_lit,Qq] at this
theorem znc (ps:List Pr) (k:Nat) (h:k<ps.length):zco (ps.take (k+1))=zco (ps.take k)++ [(ps.getD k (bz,bz)).1,(ps.getD k (bz,bz)).2]:=by
 unfold zco;rw [Qo h,List.flatMap_append,Qa,Qd h];simp
theorem zed (ps:List Pr):(zco ps).length=2*ps.length:=by
 induction ps with
 |nil=>rfl
 |cons p ps ih=>
  have e:zco (p::ps)=p.1::p.2::zco ps:=rfl;rw [e,Q1,Q1,ih,Q1];omega
theorem zjf (a:Option Addr) (b n c:Nat) (ps:List Pr) (w:World) (h:za6 w a b n ps) (hn:n<=1048577):
  Calls prog 253 #[.slice a n c] w fun e w'=>∃v,e= .returned v/\zcx w' w.heap.size v (zco ps)/\Bl w w':=by
 obtain ⟨i0,hi,hz0,hz1,hz2⟩:=info_parts zmw;have H:Hid (za6 w a b n ps):=h;have HL:Hid (ps.length=n):=h.len;clear h;go_enter func253,ntmps253;go_wp2;go_loopw [3,8] (fun v i wr=>∃(k:Nat),k<=n/\i= .int .i64 k/\zcx wr w.heap.size v (zco (ps.take k))/\Bl w wr) (fun _ i _=>n-(intOf i).toNat)
 case atStart=>exact ⟨0,by omega,rfl,zfx _ _,Qb _ _⟩
 case round=>
  obtain ⟨k,hk,rfl,hown,bk⟩:=hrel;have sk:=bk.size;by_cases hlt:k<n
  ·have HW:=H.out.bw bk;have d0:=HW.c0 k hlt;have d1:=HW.c1 k hlt;obtain rfl:=HW.addr (by omega);have HN:Hid (zco (ps.take (k+1))=zco (ps.take k)++ [(ps.getD k (bz,bz)).1,(ps.getD k (bz,bz)).2]):=znc ps k (by rw [HL.out];exact hlt);have htl:(zco (ps.take k)).length<=2097154:=by rw [zed,Qn];omega
   generalize ps.getD k (bz,bz)=y at*;obtain ⟨p,q⟩:=y;have HN2:Hid (zco (ps.take (k+1))=zco (ps.take k)++ [p,q]):=HN.out;dsimp only at d0 d1;generalize zco (ps.take k)=T at*;clear HW HN;have b1:Bl w (wr.alloc (.cells #[.string p,.string q] 145)):=bk.alloc sk _;have b01:Bl wr (wr.alloc (.cells #[.string p,.string q] 145)):=(Qb _ wr).alloc (Qc _) _;have o1:zcx (wr.alloc (.cells #[.string p,.string q] 145)) w.heap.size u3 T:=zaf hown b01;have s1:=b01.size;go_wp2_with (at_builtin;refine wpList_append_own _ rfl _ _ 25 rfl w.heap.size 9 i0 _ 1 16 underlying25 hi hz0 hz1 hz2 rfl (by decide) _ _ _ rfl (o1.alloc _) ⟨(wr.alloc (.cells #[.string p,.string q] 145)).heap.size,0,none⟩ 2 2 [.string p,.string q] (by simp [Act.eval]) rfl ?c1 ?c2 ?c3 ?c4 ?c5 ?_)
   case c1=>
    intro j u hj;rw [Addr.add_lit,Qq];exact ((zab.new (wr.alloc (.cells #[.string p,.string q] 145)) 9 #[.string p,.string q]).cell j).trans (by simpa using hj)
   case c2=>intro y hy;simp at hy;rcases hy with rfl|rfl<;>rfl
   case c3=>unfold maxLen;omega
   case c4=>omega
   case c5=>simp;omega
   intro v' w5 hown' hgrow _;have b05:Hid (Bl w w5):=zdd b1 (by omega) o1 hgrow;have O5:Hid (zcx w5 w.heap.size v' (T++ [p,q])):=by
    unfold Hid zcx;rw [Qi,zut];exact hown'
   clear hown' hgrow o1 b1 bk hown b01;go_wp2;go_roundw
   case rel=>exact ⟨k+1,by omega,by go_num,by rw [HN2.out];exact O5.out,b05.out⟩
   case measure=>simp [intOf];omega
  ·obtain rfl:k=n:=by omega
   have HE:Hid (ps.take k=ps):=by unfold Hid;rw [<-HL.out];exact List.take_length
   rw [HE.out] at hown;have HO:Hid _:=hown;clear hown;go_wp2;go_ret;exact ⟨_,rfl,HO.out,bk⟩
def zx5 (x y:Pr):Int:=Lib.compareBytes x.1.data.toList y.1.data.toList
abbrev prV (x:Pr):Value:= .agg #[.string x.1,.string x.2]
theorem znp (x y:Pr) (w:World):Calls prog 277 #[prV x,prV y] w fun e w'=>e= .returned (.int .i64 (zx5 x y))/\Bl w w':=by
 obtain ⟨x1,x2⟩:=x;obtain ⟨y1,y2⟩:=y;have HC:Hid (∀W,Cp 109 #[.string x1,.string y1] W fun e w'=>e= .returned (.int .i64 (zx5 (x1,x2) (y1,y2)))/\w'=W):=fun W=>Kk.zkq x1 y1 W;generalize zx5 (x1,x2) (y1,y2)=z at*;have hb:Bl w ((w.alloc (.cells #[.string x1,.string x2] 145)).alloc (.cells #[.string y1,.string y2] 145)):=((Qb _ _).alloc (Qc _) _).alloc (by simp) _;go_enter func277,ntmps277;go_wp2_with fail;refine (HC.out _).mono ?_;rintro e w1 ⟨rfl,rfl⟩;go_wp2;go_ret;exact ⟨rfl,hb⟩
def riP (ps:List Pr) (i:Nat):Bool:=decide (i=0)||Op.bytesLess (ps.getD (i-1) (bz,bz)).1.toList (ps.getD i (bz,bz)).1.toList
theorem zrt (ps:List Pr):zt8 ps=(List.range ps.length).all (riP ps):=rfl
theorem yaz (x y:Pr):decide (zx5 x y<0)=Op.bytesLess x.1.toList y.1.toList:=by
 unfold zx5;rw [Kk.zio,ByteArray.toList_eq,ByteArray.toList_eq]
section
variable (a:Option Addr) (b n c:Nat) (ps:List Pr) (w:World)
theorem zxf (h:za6 w a b n ps) (hn:n<=1048577):
  Calls prog 373 #[.slice a n c,.func (.func 277) #[] #[]] w fun e w'=>e= .returned (.bool ((List.range n).all (riP ps)))/\Bl w w':=by
 have H:Hid (za6 w a b n ps):=h;clear h;go_enter func373,ntmps373;go_wp2;go_loopw [5] (fun i wr=>∃(k:Nat),1<=k/\(k<=n\/k=1)/\i= .int .i64 k/\Hid (∀j,j<k->riP ps j=true)/\Bl w wr) (fun i _=>n-(intOf i).toNat)
 case atStart=>exact ⟨1,by omega,.inr rfl,rfl,(fun j hj=>by cases (by omega:j=0);rfl),Qb _ _⟩
 case round=>
  obtain ⟨k,hk1,hk,rfl,hp,bk⟩:=hrel;by_cases hlt:k<n
  ·have HW:=H.out.bw bk;have c0:=HW.c0 (k-1) (by omega);have c1:=HW.c1 (k-1) (by omega);have d0:=HW.c0 k hlt;have d1:=HW.c1 k hlt;obtain rfl:=HW.addr (by omega);have HS:Hid (riP ps k=decide (zx5 (ps.getD (k-1) (bz,bz)) (ps.getD k (bz,bz))<0)):=by
    unfold Hid;rw [yaz];unfold riP;rw [Qf (by omega)];rfl
   generalize ps.getD (k-1) (bz,bz)=x,ps.getD k (bz,bz)=y at*;have HC:Hid (∀W,Cp 277 #[prV x,prV y] W fun e w'=>e= .returned (.int .i64 (zx5 x y))/\Bl W w'):=fun W=>znp x y W;generalize zx5 x y=z at*;obtain ⟨xm,xs⟩:=x;obtain ⟨ym,ys⟩:=y;have sk:=bk.size;have hb:=HW.low (by omega);clear HW;dsimp only at c0 c1 d0 d1;have hk2:(1:Int)<=(k:Int):=by omega
   have hk3:(0:Int)<=(k:Int)-1:=by omega
   have hk4:(k:Int)-1<(n:Int):=by omega
   have hk0:(0:Int)<=(k:Int):=by omega
   have hkn:(k:Int)<(n:Int):=by omega
   have htn:((k:Int)-1).toNat=k-1:=by omega
   have hw:IntKind.i64.wrap ((k:Int)-1)=(k:Int)-1:=Kk.wrap_small (by omega) (by omega);go_upto_region 4 with fail;go_region_held3 (fun W=>W.cell? ⟨b,(k-1)*2,none⟩=some (.string xm)/\W.cell? ⟨b,(k-1)*2+1,none⟩=some (.string xs)/\W.cell? ⟨b,k*2,none⟩=some (.string ym)/\W.cell? ⟨b,k*2+1,none⟩=some (.string ys))
    (first
     |exact ⟨c0,c1,d0,d1⟩
     |exact ⟨(b1.cell (p:=⟨b,_,none⟩) hb).trans c0,(b1.cell (p:=⟨b,_,none⟩) hb).trans c1,(b1.cell (p:=⟨b,_,none⟩) hb).trans d0,(b1.cell (p:=⟨b,_,none⟩) hb).trans d1⟩)
    (first
     |(go_at_call 277;refine (HC.out _).mono ?_;rintro e w1 ⟨rfl,b1⟩))
   have b2:Bl w w1:=bk.trans ((Below.trans (below_drewN (Qb _ wr) 1) b1).mono sk);clear b1 htn hw hk3 hk4 c0 c1 d0 d1 HC hk0;by_cases hz:z<0
   ·have hd:decide (0<=z)=false:=Qf (by omega);have HP2:Hid (∀j,j<k+1->riP ps j=true):=fun j hj=>by
     by_cases e:j=k
     ·subst e;rw [HS.out,Qe hz]
     ·exact hp.out j (by omega)
    clear hp HS;go_wp2;go_roundw
    case rel=>exact ⟨k+1,by omega,.inl (by omega),by go_num,HP2,b2⟩
    case measure=>simp [intOf];omega
   ·have hd:decide (0<=z)=true:=Qe (by omega);have HF:Hid ((List.range n).all (riP ps)=false):=Kk.zg2 hlt (by rw [HS.out,Qf hz]);clear hp HS;go_wp2;go_ret;exact ⟨zae HF.out.symm,b2⟩
  ·have HT:Hid ((List.range n).all (riP ps)=true):=Kk.zfh fun j hj=>hp.out j (by omega);clear hp;go_wp2;go_ret;exact ⟨zae HT.out.symm,bk⟩
theorem zt5 (h:za6 w a b n ps) (hn:n<=500000):
  Calls prog 372 #[.slice a n c] w fun e w'=>e= .returned (.bool (zcu ps))/\Bl w w':=by
 have hlen:=h.len;have HC:Hid (Cp 302 #[.int .i64 n] w fun e w'=>e= .returned (.bool (countB n))/\w'=w):=Kk.zlf n w;have HE:Hid (zcu ps=(countB n&&((zco ps).all zcy&&(List.range n).all (riP ps)))):=by
  unfold Hid zcu;rw [zrt,hlen]
 have HT:Hid (Cp 253 #[.slice a n c] w fun e w'=>∃v,e= .returned v/\zcx w' w.heap.size v (zco ps)/\Bl w w'):=zjf a b n c ps w h (by omega);have hfl:=zed ps;have HB:Hid (∀v W,zcx W w.heap.size v (zco ps)->Cp 123 #[v] W fun e w'=>e= .returned (.bool ((zco ps).all zcy))/\w'=W):=fun v W ho=>zlm ho (by rw [hfl,hlen];omega);have HR:Hid (∀W,Bl w W->Cp 373 #[.slice a n c,.func (.func 277) #[] #[]] W fun e w'=>e= .returned (.bool ((List.range n).all (riP ps)))/\Bl W w'):=fun W hb=>zxf a b n c ps W (h.bw hb) (by omega);clear h hfl hlen;generalize (List.range n).all (riP ps)=o3,countB n=o1,(zco ps).all zcy=o2 at*;cases o1 with
 |false=>
  have HE2:Hid (zcu ps=false):=by unfold Hid;rw [HE.out];rfl
  go_enter func372,ntmps372;go_wp2_with fail;refine HC.out.mono ?_;rintro e w1 ⟨rfl,rfl⟩;go_wp2;go_ret;exact ⟨zae HE2.out.symm,Qb _ _⟩
 |true=>
  cases o2 with
  |false=>
   have HE2:Hid (zcu ps=false):=by unfold Hid;rw [HE.out];rfl
   go_enter func372,ntmps372;go_wp2_with fail;refine HC.out.mono ?_;rintro e w1 ⟨rfl,hw⟩;have hw2:=hw.symm;subst hw2;clear hw;go_wp2_with fail;refine HT.out.mono ?_;rintro e w2 ⟨v,rfl,o,b2⟩;have HB2:Hid (Cp 123 #[v] w2 fun e w'=>e= .returned (.bool false)/\w'=w2):=HB.out v w2 o;clear o;go_wp2_with fail;refine HB2.out.mono ?_;rintro e w3 ⟨rfl,rfl⟩;go_wp2;go_ret;exact ⟨zae HE2.out.symm,b2⟩
  |true=>
   have HE2:Hid (zcu ps=o3):=by unfold Hid;rw [HE.out];rfl
   go_enter func372,ntmps372;go_wp2_with fail;refine HC.out.mono ?_;rintro e w1 ⟨rfl,hw⟩;have hw2:=hw.symm;subst hw2;clear hw;go_wp2_with fail;refine HT.out.mono ?_;rintro e w2 ⟨v,rfl,o,b2⟩;have HB2:Hid (Cp 123 #[v] w2 fun e w'=>e= .returned (.bool true)/\w'=w2):=HB.out v w2 o;clear o;go_wp2_with fail;refine HB2.out.mono ?_;rintro e w3 ⟨rfl,hw⟩;have hw2:=hw.symm;subst hw2;clear hw;go_wp2_with fail;refine (HR.out w2 b2).mono ?_;rintro e w4 ⟨rfl,b4⟩;have b04:=b2.trans (b4.mono b2.size);go_wp2;go_ret;exact ⟨zae HE2.out.symm,b04⟩
end
end Go.Proofs.YtokafonppgppdaaGreatDoor
