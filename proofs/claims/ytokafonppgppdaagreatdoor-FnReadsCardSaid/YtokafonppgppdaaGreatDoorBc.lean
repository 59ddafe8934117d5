import Derived.Test.YtokafonppgppdaaGreatDoorWa
import Derived.Test.YtokafonppgppdaaGreatDoorHOpenC
set_option maxHeartbeats 8000000
set_option maxRecDepth 100000
namespace Go.Proofs.YtokafonppgppdaaGreatDoor.Kk
open Go.RowKit Go.Sort
variable {w w1 w2:World} {r:Option Nat}
theorem za0 (w:World) (r:Option Nat):w.grownBy w r:=⟨rfl,rfl,rfl,Qc _,fun _ _ _=>rfl⟩
theorem zcc (h:w.grownBy w1 r) (hb:Bl w1 w2):w.grownBy w2 r:=
 ⟨hb.os.trans h.os,hb.tape.trans h.tape,hb.output.trans h.output,Qj h.size hb.size,fun k hk hne=> (hb.block k (by have:=h.size;omega)).trans (h.block k hk hne)⟩
theorem zah (h:w.grownBy w1 r) (h2:w1.grownBy w2 r):w.grownBy w2 r:=
 ⟨h2.os.trans h.os,h2.tape.trans h.tape,h2.output.trans h.output,Qj h.size h2.size,fun k hk hne=> (h2.block k (by have:=h.size;omega) hne).trans (h.block k hk hne)⟩
end Go.Proofs.YtokafonppgppdaaGreatDoor.Kk
namespace Go.Proofs.YtokafonppgppdaaGreatDoor
open Tryz
open Go.RowKit Go.Sort
open Kk (Rk rk0 zd7 zju zc6 zea zeb zec za9 zbk encR)
theorem zen {a b:Int} (h:a=b):Ending.returned (.int .i64 a)= .returned (.int .i64 b):=by rw [h]
theorem zat:∀ps:List Pr,(zal ps).length=ps.length*2
 | []=>rfl
 |p::ps=>by
  have e:zal (p::ps)= .string p.1:: .string p.2::zal ps:=rfl;rw [e,Q1,Q1,zat ps,Q1];omega
open Kk (Rk rk0 zd7 zju zc6 zea zeb zec za9 zbk encR zdh)
structure VAt (w:World) (v:Vl) (vi vp vr:Value):Prop where
 ia:∃a A c,vi= .slice a v.ia.length c/\zdg w a A 0 v.ia.length v.ia
 pj:∃a A c,vp= .slice a v.pj.length c/\za6 w a A v.pj.length v.pj
 rq:∃a A c,vr= .slice a v.rq.length c/\zdh w a A 0 v.rq.length v.rq
theorem VOwn.at {w:World} {B:Nat} {v:Vl} {vi vp vr:Value} (h:VOwn w B v vi vp vr) (hz:∀t∈v.ia,t.size<=1048576):VAt w v vi vp vr:=by
 obtain ⟨a1,A1,c1,e1,h1,_,_⟩:=zc0 h.ia hz;exact ⟨⟨a1,A1,c1,e1,h1⟩,zdn h.pj,Kk.zcl h.rq⟩
theorem zot (a a':Option Addr) (b off b' off' n c c':Nat) (ss:List ByteArray) (w:World) (h:zdg w a b off n ss) (h':zdg w a' b' off' n ss) (hn:n<=1048577):
  Calls prog 26 #[.slice a n c,.slice a' n c'] w fun e w'=>e= .returned (.bool true)/\∃q,w'=w.drewN q:=by
 go_enter func26,ntmps26;go_wp2;go_loopw [5] (fun i wr=>∃(k q:Nat),k<=n/\i= .int .i64 k/\wr=w.drewN q) (fun i _=>n-(intOf i).toNat)
 case atStart=>exact ⟨0,0,by omega,rfl,rfl⟩
 case round=>
  obtain ⟨k,q,hk,rfl,rfl⟩:=hrel;by_cases hlt:k<n
  ·obtain rfl:=h.addr (by omega);obtain rfl:=h'.addr (by omega);have hc:=h.cell k hlt;have hc':=h'.cell k hlt;generalize ss.getD k ByteArray.empty=s at*;go_wp2;go_quiet ((fail));go_wp2;go_roundw
   case rel=>exact ⟨k+1,_,by omega,by go_num,rfl⟩
   case measure=>simp [intOf];omega
  ·go_wp2;go_ret;exact ⟨rfl,q,rfl⟩
theorem zpg (v:Vl) (vi vp vr vi' vp' vr':Value) (w:World) (h:VAt w v vi vp vr) (h':VAt w v vi' vp' vr') (n1:v.ia.length<=1000) (n2:v.pj.length<=1000) (n3:v.rq.length<=1000):
  Calls prog 56 #[vlV v.kind v.text vi vp vr,vlV v.kind v.text vi' vp' vr'] w fun e w'=>e= .returned (.bool true)/\Bl w w':=by
 obtain ⟨⟨a1,A1,c1,e1,h1⟩,⟨a2,A2,c2,e2,h2⟩,⟨a3,A3,c3,e3,h3⟩⟩:=h;obtain ⟨⟨x1,X1,d1,f1,g1⟩,⟨x2,X2,d2,f2,g2⟩,⟨x3,X3,d3,f3,g3⟩⟩:=h';have H1:Hid (∀W,Bl w W->Cp 26 #[.slice a1 v.ia.length c1,.slice x1 v.ia.length d1] W fun e w'=>e= .returned (.bool true)/\∃q,w'=W.drewN q):=fun W hb=>zot a1 x1 A1 0 X1 0 _ c1 d1 v.ia W (zdb h1 hb) (zdb g1 hb) (by omega);have H2:Hid (za6 w a2 A2 v.pj.length v.pj/\za6 w x2 X2 v.pj.length v.pj):=⟨h2,g2⟩;have H3:Hid (zdh w a3 A3 0 v.rq.length v.rq/\zdh w x3 X3 0 v.rq.length v.rq):=⟨h3,g3⟩;clear h1 h2 h3 g1 g2 g3;subst e1 e2 e3 f1 f2 f3;generalize v.ia.length=ni,v.pj.length=np,v.rq.length=nr,v.kind=k,v.text=t at*;generalize v.pj=ps,v.rq=rs at*;obtain ⟨wa,hwa⟩:∃wa,(w.alloc (.cells (vC k t (.slice a1 ni c1) (.slice a2 np c2) (.slice a3 nr c3)) 45)).alloc (.cells (vC k t (.slice x1 ni d1) (.slice x2 np d2) (.slice x3 nr d3)) 45)=wa:=⟨_,rfl⟩;have HA:Hid (zab wa w.heap.size 45 (vC k t (.slice a1 ni c1) (.slice a2 np c2) (.slice a3 nr c3))/\zab wa (w.heap.size+1) 45 (vC k t (.slice x1 ni d1) (.slice x2 np d2) (.slice x3 nr d3))/\Bl w wa):=by
  subst hwa;have e1:(w.alloc (.cells (vC k t (.slice a1 ni c1) (.slice a2 np c2) (.slice a3 nr c3)) 45)).heap.size=w.heap.size+1:=by simp
  refine ⟨zab.bw (zab.new w 45 _) ((Qb _ _).alloc (Qc _) _) (by simp),?_,((Qb _ w).alloc (Qc _) _).alloc (by simp) _⟩;rw [<-e1];exact zab.new _ 45 _
 have HWA:Hid ((w.alloc (.cells (vC k t (.slice a1 ni c1) (.slice a2 np c2) (.slice a3 nr c3)) 45)).alloc (.cells (vC k t (.slice x1 ni d1) (.slice x2 np d2) (.slice x3 nr d3)) 45)=wa):=hwa;clear hwa;go_enter func56,ntmps56;go_wp2_with fail;rw [HWA.out];obtain ⟨r1,r2,b0⟩:=HA.out;refine (H1.out wa b0).mono ?_;rintro e w1 ⟨rfl,q1,hq1⟩;have BB:Hid (∀q,Bl w (wa.drewN q)):=fun q=>below_drewN b0 q;subst hq1;obtain ⟨y0,y1,y2,y3,y4⟩:=zmn r1;obtain ⟨t0,t1,t2,t3,t4⟩:=zmn r2;have I2:Hid (za6 wa a2 A2 np ps/\za6 wa x2 X2 np ps):=⟨H2.out.1.bw b0,H2.out.2.bw b0⟩;have I3:Hid (zdh wa a3 A3 0 nr rs/\zdh wa x3 X3 0 nr rs):=⟨H3.out.1.bw b0,H3.out.2.bw b0⟩;clear r1 r2 b0 HA HWA H1 H2 H3;go_wp2_with fail;go_loopw [5] (fun i wr=>∃(j q:Nat),j<=np/\i= .int .i64 j/\wr=wa.drewN q) (fun i _=>np-(intOf i).toNat)
 case atStart=>exact ⟨0,q1,by omega,rfl,rfl⟩
 case round=>
  obtain ⟨j,q,hj,rfl,rfl⟩:=hrel;by_cases hlt:j<np
  ·have hI:=I2.out.1;have hI':=I2.out.2;obtain rfl:=hI.addr (by omega);obtain rfl:=hI'.addr (by omega);have p0:=hI.c0 j hlt;have p1:=hI.c1 j hlt;have p0':=hI'.c0 j hlt;have p1':=hI'.c1 j hlt;have hji:(j:Int)<(np:Int):=by omega
   have h00:(0:Int)<=(j:Int):=by omega
   generalize ps.getD j (bz,bz)=x at*;obtain ⟨xm,xs⟩:=x;dsimp only at p0 p1 p0' p1';clear hI hI';go_wp2;go_quiet ((fail));go_wp2;go_roundw
   case rel=>exact ⟨j+1,_,by omega,by go_num,rfl⟩
   case measure=>simp [intOf];omega
  ·have hji:¬(j:Int)<(np:Int):=by omega
   go_wp2_with fail;go_loopw [6] (fun i wr=>∃(j q:Nat),j<=nr/\i= .int .i64 j/\wr=wa.drewN q) (fun i _=>nr-(intOf i).toNat)
   case atStart=>exact ⟨0,q,by omega,rfl,rfl⟩
   case round=>
    obtain ⟨m,p,hm,rfl,rfl⟩:=hrel;by_cases hlt:m<nr
    ·have hI:=I3.out.1;have hI':=I3.out.2;have hx:=hI.cell m hlt;have hx':=hI'.cell m hlt;obtain rfl:=hI.addr (by omega);obtain rfl:=hI'.addr (by omega);have p0:=hx.c0;have p1:=hx.c1;have p0':=hx'.c0;have p1':=hx'.c1;have hji:(m:Int)<(nr:Int):=by omega
     have h00:(0:Int)<=(m:Int):=by omega
     generalize rs.getD m rk0=x at*;obtain ⟨xm,xs⟩:=x;dsimp only at p0 p1 p0' p1';rw [Qq] at p0 p1 p0' p1';clear hI hI' hx hx';go_wp2;go_quiet ((fail));go_wp2;go_roundw
     case rel=>exact ⟨m+1,_,by omega,by go_num,rfl⟩
     case measure=>simp [intOf];omega
    ·have hji:¬(m:Int)<(nr:Int):=by omega
     have bz1:=BB.out p;go_wp2;go_ret;exact ⟨rfl,bz1⟩
section
variable (t:ByteArray) (a1 a2 a3:Option Addr) (ni c1 np c2 nr c3:Nat) (w:World)
theorem zmz:Calls prog 155 #[vlV 1 t (.slice a1 ni c1) (.slice a2 np c2) (.slice a3 nr c3)] w fun e w'=>e= .returned (.iface 231 (.string t))/\Bl w w':=by
 go_enter func155,ntmps155;go_wp2;go_ret;exact ⟨rfl,(Qb _ w).alloc (Qc _) _⟩
theorem zls:Calls prog 155 #[vlV 2 t (.slice a1 ni c1) (.slice a2 np c2) (.slice a3 nr c3)] w fun e w'=>e= .returned (.iface 232 (.slice a1 ni c1))/\Bl w w':=by
 go_enter func155,ntmps155;go_wp2;go_ret;exact ⟨rfl,(Qb _ w).alloc (Qc _) _⟩
theorem zmd:Calls prog 155 #[vlV 3 t (.slice a1 ni c1) (.slice a2 np c2) (.slice a3 nr c3)] w fun e w'=>e= .returned (.iface 233 (.slice a2 np c2))/\Bl w w':=by
 go_enter func155,ntmps155;go_wp2;go_ret;exact ⟨rfl,(Qb _ w).alloc (Qc _) _⟩
theorem zk9:Calls prog 155 #[vlV 4 t (.slice a1 ni c1) (.slice a2 np c2) (.slice a3 nr c3)] w fun e w'=>e= .returned (.iface 234 (.slice a3 nr c3))/\Bl w w':=by
 go_enter func155,ntmps155;go_wp2;go_ret;exact ⟨rfl,(Qb _ w).alloc (Qc _) _⟩
end
theorem zm2 (k:Int) (t:ByteArray) (a1 a2 a3:Option Addr) (ni c1 np c2 nr c3:Nat) (w:World) (k1:(k==1)=false) (k2:(k==2)=false) (k3:(k==3)=false) (k4:(k==4)=false):Calls prog 155 #[vlV k t (.slice a1 ni c1) (.slice a2 np c2) (.slice a3 nr c3)] w fun e w'=>e= .returned .nilIface/\Bl w w':=by
 go_enter func155,ntmps155;go_wp2;go_ret;exact ⟨rfl,(Qb _ w).alloc (Qc _) _⟩
def alone (x y:Nat×Nat×Nat×Nat):Bool:=decide (x.1=y.1)&&(decide (x.2.1=y.2.1)&&(decide (x.2.2.1=y.2.2.1)&&decide (x.2.2.2=y.2.2.2)))
theorem zii (k:Int) (t:ByteArray) (a1 a2 a3:Option Addr) (ni c1 np c2 nr c3:Nat) (C:Value) (k':Int) (t':ByteArray) (b1 b2 b3:Option Addr) (mi d1 mp d2 mr d3:Nat) (w:World)
  (hC:∀W,Calls prog 214 #[C] W fun e w'=>e= .returned (vlV k' t' (.slice b1 mi d1) (.slice b2 mp d2) (.slice b3 mr d3))/\Bl W w'):
  Calls prog 156 #[vlV k t (.slice a1 ni c1) (.slice a2 np c2) (.slice a3 nr c3),C] w fun e w'=>e= .returned (.bool (alone (t.size,ni,np,nr) (t'.size,mi,mp,mr)))/\Bl w w':=by
 have HC:Hid (∀W,Cp 214 #[C] W fun e w'=>e= .returned (vlV k' t' (.slice b1 mi d1) (.slice b2 mp d2) (.slice b3 mr d3))/\Bl W w'):=hC;have H0:Hid (zab (w.alloc (.cells (vC k t (.slice a1 ni c1) (.slice a2 np c2) (.slice a3 nr c3)) 45)) w.heap.size 45 (vC k t (.slice a1 ni c1) (.slice a2 np c2) (.slice a3 nr c3))/\Bl w (w.alloc (.cells (vC k t (.slice a1 ni c1) (.slice a2 np c2) (.slice a3 nr c3)) 45))):=⟨zab.new w 45 _,(Qb _ w).alloc (Qc _) _⟩;have hlt:w.heap.size<(w.alloc (.cells (vC k t (.slice a1 ni c1) (.slice a2 np c2) (.slice a3 nr c3)) 45)).heap.size:=by simp
 clear hC;by_cases g0:t.size=t'.size
 ·have i0:((t.size:Int)==(t'.size:Int))=true:=by simp;omega
  by_cases g1:ni=mi
  ·have i1:((ni:Int)==(mi:Int))=true:=by simp;omega
   by_cases g2:np=mp
   ·have i2:((np:Int)==(mp:Int))=true:=by simp;omega
    obtain ⟨o,ho⟩:∃o,decide (nr=mr)=o:=⟨_,rfl⟩;have HO:Hid (alone (t.size,ni,np,nr) (t'.size,mi,mp,mr)=o):=by unfold Hid alone;simp [g0,g1,g2,ho]
    have i3:((nr:Int)==(mr:Int))=o:=by rw [<-ho,Bool.eq_iff_iff];simp;omega
    rw [HO.out];clear g0 g1 g2 ho;go_enter func156,ntmps156;go_wp2_with fail;refine (HC.out _).mono ?_;rintro e w1 ⟨rfl,hb1⟩;have r1:=zab.bw H0.out.1 hb1 hlt;have bb1:=H0.out.2.trans (hb1.mono H0.out.2.size);have r2:zab (w1.alloc (.cells (vC k' t' (.slice b1 mi d1) (.slice b2 mp d2) (.slice b3 mr d3)) 45)) w.heap.size 45 (vC k t (.slice a1 ni c1) (.slice a2 np c2) (.slice a3 nr c3)):=zab.bw r1 ((Qb _ w1).alloc (Qc _) _) r1.lt;obtain ⟨e0,e1,e2,e3,e4⟩:=zmn r2;have bb2:Bl w (w1.alloc (.cells (vC k' t' (.slice b1 mi d1) (.slice b2 mp d2) (.slice b3 mr d3)) 45)):=bb1.alloc bb1.size _;clear r1 hb1 r2 bb1 H0;go_wp2;go_ret;exact ⟨rfl,bb2⟩
   ·have i2:((np:Int)==(mp:Int))=false:=by simp;omega
    have HO:Hid (alone (t.size,ni,np,nr) (t'.size,mi,mp,mr)=false):=by unfold Hid alone;simp [g0,g1,g2]
    rw [HO.out];clear g0 g1 g2;go_enter func156,ntmps156;go_wp2_with fail;refine (HC.out _).mono ?_;rintro e w1 ⟨rfl,hb1⟩;have r1:=zab.bw H0.out.1 hb1 hlt;have bb1:=H0.out.2.trans (hb1.mono H0.out.2.size);have r2:zab (w1.alloc (.cells (vC k' t' (.slice b1 mi d1) (.slice b2 mp d2) (.slice b3 mr d3)) 45)) w.heap.size 45 (vC k t (.slice a1 ni c1) (.slice a2 np c2) (.slice a3 nr c3)):=zab.bw r1 ((Qb _ w1).alloc (Qc _) _) r1.lt;obtain ⟨e0,e1,e2,e3,e4⟩:=zmn r2;have bb2:Bl w (w1.alloc (.cells (vC k' t' (.slice b1 mi d1) (.slice b2 mp d2) (.slice b3 mr d3)) 45)):=bb1.alloc bb1.size _;clear r1 hb1 r2 bb1 H0;go_wp2;go_ret;exact ⟨rfl,bb2⟩
  ·have i1:((ni:Int)==(mi:Int))=false:=by simp;omega
   have HO:Hid (alone (t.size,ni,np,nr) (t'.size,mi,mp,mr)=false):=by unfold Hid alone;simp [g0,g1]
   rw [HO.out];clear g0 g1;go_enter func156,ntmps156;go_wp2_with fail;refine (HC.out _).mono ?_;rintro e w1 ⟨rfl,hb1⟩;have r1:=zab.bw H0.out.1 hb1 hlt;have bb1:=H0.out.2.trans (hb1.mono H0.out.2.size);have r2:zab (w1.alloc (.cells (vC k' t' (.slice b1 mi d1) (.slice b2 mp d2) (.slice b3 mr d3)) 45)) w.heap.size 45 (vC k t (.slice a1 ni c1) (.slice a2 np c2) (.slice a3 nr c3)):=zab.bw r1 ((Qb _ w1).alloc (Qc _) _) r1.lt;obtain ⟨e0,e1,e2,e3,e4⟩:=zmn r2;have bb2:Bl w (w1.alloc (.cells (vC k' t' (.slice b1 mi d1) (.slice b2 mp d2) (.slice b3 mr d3)) 45)):=bb1.alloc bb1.size _;clear r1 hb1 r2 bb1 H0;go_wp2;go_ret;exact ⟨rfl,bb2⟩
 ·have i0:((t.size:Int)==(t'.size:Int))=false:=by simp;omega
  have HO:Hid (alone (t.size,ni,np,nr) (t'.size,mi,mp,mr)=false):=by unfold Hid alone;simp [g0]
  rw [HO.out];clear g0;go_enter func156,ntmps156;go_wp2_with fail;refine (HC.out _).mono ?_;rintro e w1 ⟨rfl,hb1⟩;have r1:=zab.bw H0.out.1 hb1 hlt;have bb1:=H0.out.2.trans (hb1.mono H0.out.2.size);have r2:zab (w1.alloc (.cells (vC k' t' (.slice b1 mi d1) (.slice b2 mp d2) (.slice b3 mr d3)) 45)) w.heap.size 45 (vC k t (.slice a1 ni c1) (.slice a2 np c2) (.slice a3 nr c3)):=zab.bw r1 ((Qb _ w1).alloc (Qc _) _) r1.lt;obtain ⟨e0,e1,e2,e3,e4⟩:=zmn r2;have bb2:Bl w (w1.alloc (.cells (vC k' t' (.slice b1 mi d1) (.slice b2 mp d2) (.slice b3 mr d3)) 45)):=bb1.alloc bb1.size _;clear r1 hb1 r2 bb1 H0;go_wp2;go_ret;exact ⟨rfl,bb2⟩
section
variable (t:ByteArray) (a1 a2 a3:Option Addr) (ni c1 np c2 nr c3:Nat) (w:World) (o1 o2:Bool)
theorem zw2
  (hH:∀W,Calls prog 156 #[vlV 1 t (.slice a1 ni c1) (.slice a2 np c2) (.slice a3 nr c3),.iface 231 (.string t)] W fun e w'=>e= .returned (.bool o1)/\Bl W w')
  (hR:∀W,Bl w W->Calls prog 368 #[(.string t)] W fun e w'=>e= .returned (.bool o2)/\Bl W w'):
  Calls prog 111 #[vlV 1 t (.slice a1 ni c1) (.slice a2 np c2) (.slice a3 nr c3)] w fun e w'=>e= .returned (.bool (o1&&o2))/\Bl w w':=by
 have HC:Hid (∀W,Cp 155 #[vlV 1 t (.slice a1 ni c1) (.slice a2 np c2) (.slice a3 nr c3)] W fun e w'=>e= .returned (.iface 231 (.string t))/\Bl W w'):=fun W=>zmz t a1 a2 a3 ni c1 np c2 nr c3 W;have HH:Hid (∀W,Cp 156 #[vlV 1 t (.slice a1 ni c1) (.slice a2 np c2) (.slice a3 nr c3),.iface 231 (.string t)] W fun e w'=>e= .returned (.bool o1)/\Bl W w'):=hH;have HR:Hid (∀W,Bl w W->Cp 368 #[(.string t)] W fun e w'=>e= .returned (.bool o2)/\Bl W w'):=hR;have H0:Hid (zab (w.alloc (.cells (vC 1 t (.slice a1 ni c1) (.slice a2 np c2) (.slice a3 nr c3)) 45)) w.heap.size 45 (vC 1 t (.slice a1 ni c1) (.slice a2 np c2) (.slice a3 nr c3))/\Bl w (w.alloc (.cells (vC 1 t (.slice a1 ni c1) (.slice a2 np c2) (.slice a3 nr c3)) 45))):=⟨zab.new w 45 _,(Qb _ w).alloc (Qc _) _⟩;have hlt:w.heap.size<(w.alloc (.cells (vC 1 t (.slice a1 ni c1) (.slice a2 np c2) (.slice a3 nr c3)) 45)).heap.size:=by simp
 clear hH hR;go_enter func111,ntmps111;go_wp2_with fail;refine (HC.out _).mono ?_;rintro e w1 ⟨rfl,hb1⟩;have r1:=zab.bw H0.out.1 hb1 hlt;have bb1:=H0.out.2.trans (hb1.mono H0.out.2.size);obtain ⟨e0,e1,e2,e3,e4⟩:=zmn r1;clear r1 hb1 H0;cases o1 with
 |false=>
  go_wp2_with fail;refine (HH.out _).mono ?_;rintro e w2 ⟨rfl,hb2⟩;have bb2:=bb1.trans (hb2.mono bb1.size);go_wp2;go_ret;exact ⟨rfl,bb2⟩
 |true=>
  go_wp2_with fail;refine (HH.out _).mono ?_;rintro e w2 ⟨rfl,hb2⟩;have bb2:=bb1.trans (hb2.mono bb1.size);clear hb2 bb1 e0 e1 e2 e3 e4;go_wp2_with fail;refine (HR.out _ bb2).mono ?_;rintro e w3 ⟨rfl,hb3⟩;have bb3:=bb2.trans (hb3.mono bb2.size);go_wp2;go_ret;exact ⟨rfl,bb3⟩
theorem ztc
  (hH:∀W,Calls prog 156 #[vlV 2 t (.slice a1 ni c1) (.slice a2 np c2) (.slice a3 nr c3),.iface 232 (.slice a1 ni c1)] W fun e w'=>e= .returned (.bool o1)/\Bl W w')
  (hR:∀W,Bl w W->Calls prog 370 #[(.slice a1 ni c1)] W fun e w'=>e= .returned (.bool o2)/\Bl W w'):
  Calls prog 111 #[vlV 2 t (.slice a1 ni c1) (.slice a2 np c2) (.slice a3 nr c3)] w fun e w'=>e= .returned (.bool (o1&&o2))/\Bl w w':=by
 have HC:Hid (∀W,Cp 155 #[vlV 2 t (.slice a1 ni c1) (.slice a2 np c2) (.slice a3 nr c3)] W fun e w'=>e= .returned (.iface 232 (.slice a1 ni c1))/\Bl W w'):=fun W=>zls t a1 a2 a3 ni c1 np c2 nr c3 W;have HH:Hid (∀W,Cp 156 #[vlV 2 t (.slice a1 ni c1) (.slice a2 np c2) (.slice a3 nr c3),.iface 232 (.slice a1 ni c1)] W fun e w'=>e= .returned (.bool o1)/\Bl W w'):=hH;have HR:Hid (∀W,Bl w W->Cp 370 #[(.slice a1 ni c1)] W fun e w'=>e= .returned (.bool o2)/\Bl W w'):=hR;have H0:Hid (zab (w.alloc (.cells (vC 2 t (.slice a1 ni c1) (.slice a2 np c2) (.slice a3 nr c3)) 45)) w.heap.size 45 (vC 2 t (.slice a1 ni c1) (.slice a2 np c2) (.slice a3 nr c3))/\Bl w (w.alloc (.cells (vC 2 t (.slice a1 ni c1) (.slice a2 np c2) (.slice a3 nr c3)) 45))):=⟨zab.new w 45 _,(Qb _ w).alloc (Qc _) _⟩;have hlt:w.heap.size<(w.alloc (.cells (vC 2 t (.slice a1 ni c1) (.slice a2 np c2) (.slice a3 nr c3)) 45)).heap.size:=by simp
 clear hH hR;go_enter func111,ntmps111;go_wp2_with fail;refine (HC.out _).mono ?_;rintro e w1 ⟨rfl,hb1⟩;have r1:=zab.bw H0.out.1 hb1 hlt;have bb1:=H0.out.2.trans (hb1.mono H0.out.2.size);obtain ⟨e0,e1,e2,e3,e4⟩:=zmn r1;clear r1 hb1 H0;cases o1 with
 |false=>
  go_wp2_with fail;refine (HH.out _).mono ?_;rintro e w2 ⟨rfl,hb2⟩;have bb2:=bb1.trans (hb2.mono bb1.size);go_wp2;go_ret;exact ⟨rfl,bb2⟩
 |true=>
  go_wp2_with fail;refine (HH.out _).mono ?_;rintro e w2 ⟨rfl,hb2⟩;have bb2:=bb1.trans (hb2.mono bb1.size);clear hb2 bb1 e0 e1 e2 e3 e4;go_wp2_with fail;refine (HR.out _ bb2).mono ?_;rintro e w3 ⟨rfl,hb3⟩;have bb3:=bb2.trans (hb3.mono bb2.size);go_wp2;go_ret;exact ⟨rfl,bb3⟩
theorem ztv
  (hH:∀W,Calls prog 156 #[vlV 3 t (.slice a1 ni c1) (.slice a2 np c2) (.slice a3 nr c3),.iface 233 (.slice a2 np c2)] W fun e w'=>e= .returned (.bool o1)/\Bl W w')
  (hR:∀W,Bl w W->Calls prog 372 #[(.slice a2 np c2)] W fun e w'=>e= .returned (.bool o2)/\Bl W w'):
  Calls prog 111 #[vlV 3 t (.slice a1 ni c1) (.slice a2 np c2) (.slice a3 nr c3)] w fun e w'=>e= .returned (.bool (o1&&o2))/\Bl w w':=by
 have HC:Hid (∀W,Cp 155 #[vlV 3 t (.slice a1 ni c1) (.slice a2 np c2) (.slice a3 nr c3)] W fun e w'=>e= .returned (.iface 233 (.slice a2 np c2))/\Bl W w'):=fun W=>zmd t a1 a2 a3 ni c1 np c2 nr c3 W;have HH:Hid (∀W,Cp 156 #[vlV 3 t (.slice a1 ni c1) (.slice a2 np c2) (.slice a3 nr c3),.iface 233 (.slice a2 np c2)] W fun e w'=>e= .returned (.bool o1)/\Bl W w'):=hH;have HR:Hid (∀W,Bl w W->Cp 372 #[(.slice a2 np c2)] W fun e w'=>e= .returned (.bool o2)/\Bl W w'):=hR;have H0:Hid (zab (w.alloc (.cells (vC 3 t (.slice a1 ni c1) (.slice a2 np c2) (.slice a3 nr c3)) 45)) w.heap.size 45 (vC 3 t (.slice a1 ni c1) (.slice a2 np c2) (.slice a3 nr c3))/\Bl w (w.alloc (.cells (vC 3 t (.slice a1 ni c1) (.slice a2 np c2) (.slice a3 nr c3)) 45))):=⟨zab.new w 45 _,(Qb _ w).alloc (Qc _) _⟩;have hlt:w.heap.size<(w.alloc (.cells (vC 3 t (.slice a1 ni c1) (.slice a2 np c2) (.slice a3 nr c3)) 45)).heap.size:=by simp
 clear hH hR;go_enter func111,ntmps111;go_wp2_with fail;refine (HC.out _).mono ?_;rintro e w1 ⟨rfl,hb1⟩;have r1:=zab.bw H0.out.1 hb1 hlt;have bb1:=H0.out.2.trans (hb1.mono H0.out.2.size);obtain ⟨e0,e1,e2,e3,e4⟩:=zmn r1;clear r1 hb1 H0;cases o1 with
 |false=>
  go_wp2_with fail;refine (HH.out _).mono ?_;rintro e w2 ⟨rfl,hb2⟩;have bb2:=bb1.trans (hb2.mono bb1.size);go_wp2;go_ret;exact ⟨rfl,bb2⟩
 |true=>
  go_wp2_with fail;refine (HH.out _).mono ?_;rintro e w2 ⟨rfl,hb2⟩;have bb2:=bb1.trans (hb2.mono bb1.size);clear hb2 bb1 e0 e1 e2 e3 e4;go_wp2_with fail;refine (HR.out _ bb2).mono ?_;rintro e w3 ⟨rfl,hb3⟩;have bb3:=bb2.trans (hb3.mono bb2.size);go_wp2;go_ret;exact ⟨rfl,bb3⟩
theorem ztj
  (hH:∀W,Calls prog 156 #[vlV 4 t (.slice a1 ni c1) (.slice a2 np c2) (.slice a3 nr c3),.iface 234 (.slice a3 nr c3)] W fun e w'=>e= .returned (.bool o1)/\Bl W w')
  (hR:∀W,Bl w W->Calls prog 279 #[(.slice a3 nr c3)] W fun e w'=>e= .returned (.bool o2)/\Bl W w'):
  Calls prog 111 #[vlV 4 t (.slice a1 ni c1) (.slice a2 np c2) (.slice a3 nr c3)] w fun e w'=>e= .returned (.bool (o1&&o2))/\Bl w w':=by
 have HC:Hid (∀W,Cp 155 #[vlV 4 t (.slice a1 ni c1) (.slice a2 np c2) (.slice a3 nr c3)] W fun e w'=>e= .returned (.iface 234 (.slice a3 nr c3))/\Bl W w'):=fun W=>zk9 t a1 a2 a3 ni c1 np c2 nr c3 W;have HH:Hid (∀W,Cp 156 #[vlV 4 t (.slice a1 ni c1) (.slice a2 np c2) (.slice a3 nr c3),.iface 234 (.slice a3 nr c3)] W fun e w'=>e= .returned (.bool o1)/\Bl W w'):=hH;have HR:Hid (∀W,Bl w W->Cp 279 #[(.slice a3 nr c3)] W fun e w'=>e= .returned (.bool o2)/\Bl W w'):=hR;have H0:Hid (zab (w.alloc (.cells (vC 4 t (.slice a1 ni c1) (.slice a2 np c2) (.slice a3 nr c3)) 45)) w.heap.size 45 (vC 4 t (.slice a1 ni c1) (.slice a2 np c2) (.slice a3 nr c3))/\Bl w (w.alloc (.cells (vC 4 t (.slice a1 ni c1) (.slice a2 np c2) (.slice a3 nr c3)) 45))):=⟨zab.new w 45 _,(Qb _ w).alloc (Qc _) _⟩;have hlt:w.heap.size<(w.alloc (.cells (vC 4 t (.slice a1 ni c1) (.slice a2 np c2) (.slice a3 nr c3)) 45)).heap.size:=by simp
 clear hH hR;go_enter func111,ntmps111;go_wp2_with fail;refine (HC.out _).mono ?_;rintro e w1 ⟨rfl,hb1⟩;have r1:=zab.bw H0.out.1 hb1 hlt;have bb1:=H0.out.2.trans (hb1.mono H0.out.2.size);obtain ⟨e0,e1,e2,e3,e4⟩:=zmn r1;clear r1 hb1 H0;cases o1 with
 |false=>
  go_wp2_with fail;refine (HH.out _).mono ?_;rintro e w2 ⟨rfl,hb2⟩;have bb2:=bb1.trans (hb2.mono bb1.size);go_wp2;go_ret;exact ⟨rfl,bb2⟩
 |true=>
  go_wp2_with fail;refine (HH.out _).mono ?_;rintro e w2 ⟨rfl,hb2⟩;have bb2:=bb1.trans (hb2.mono bb1.size);clear hb2 bb1 e0 e1 e2 e3 e4;go_wp2_with fail;refine (HR.out _ bb2).mono ?_;rintro e w3 ⟨rfl,hb3⟩;have bb3:=bb2.trans (hb3.mono bb2.size);go_wp2;go_ret;exact ⟨rfl,bb3⟩
end
theorem zwk (k:Int) (t:ByteArray) (a1 a2 a3:Option Addr) (ni c1 np c2 nr c3:Nat) (w:World) (k1:(k==1)=false) (k2:(k==2)=false) (k3:(k==3)=false) (k4:(k==4)=false):
  Calls prog 111 #[vlV k t (.slice a1 ni c1) (.slice a2 np c2) (.slice a3 nr c3)] w fun e w'=>e= .returned (.bool false)/\Bl w w':=by
 have HC:Hid (∀W,Cp 155 #[vlV k t (.slice a1 ni c1) (.slice a2 np c2) (.slice a3 nr c3)] W fun e w'=>e= .returned .nilIface/\Bl W w'):=fun W=>zm2 k t a1 a2 a3 ni c1 np c2 nr c3 W k1 k2 k3 k4;have hb:Bl w (w.alloc (.cells (vC k t (.slice a1 ni c1) (.slice a2 np c2) (.slice a3 nr c3)) 45)):=(Qb _ w).alloc (Qc _) _;have HB:Hid (Bl w (w.alloc (.cells (vC k t (.slice a1 ni c1) (.slice a2 np c2) (.slice a3 nr c3)) 45))):=hb;clear hb k1 k2 k3 k4;go_enter func111,ntmps111;go_wp2_with fail;refine (HC.out _).mono ?_;rintro e w1 ⟨rfl,hb1⟩;have bb1:=HB.out.trans (hb1.mono HB.out.size);clear hb1;go_wp2;go_ret;exact ⟨rfl,bb1⟩
theorem zw0 (v:Vl) (vi vp vr:Value) (B:Nat) (w:World) (h:VOwn w B v vi vp vr) (hf:yjd v) (hp2:v.pj.length<=500000) (hfl:Kk.zi5 v.rq) (hR:Ready w):
  Calls prog 111 #[vlV v.kind v.text vi vp vr] w fun e w'=>e= .returned (.bool (zh4 v))/\Bl w w':=by
 obtain ⟨k,t,is,ps,rs⟩:=v;obtain ⟨f1,f2,f3,f4⟩:=hf;dsimp only at f1 f2 f3 f4;obtain ⟨oi,op,or⟩:=h;dsimp only at oi op or hfl hp2;have h6:=hR.six;show Calls prog 111 #[vlV k t vi vp vr] w fun e w'=>e= .returned (.bool (zh4 ⟨k,t,is,ps,rs⟩))/\Bl w w';obtain ⟨a1,c1,e1⟩:=zad oi;obtain ⟨a2,c2,e2⟩:=zad op;obtain ⟨a3,c3,e3⟩:=zad or;subst e1 e2 e3;have z0:(⟨#[]⟩:ByteArray).size=0:=rfl;by_cases k1:k=1
 ·subst k1;have:=zw2 t a1 a2 a3 is.length c1 ps.length c2 rs.length c3 w _ (zcy t) (fun W=>zii 1 t a1 a2 a3 is.length c1 ps.length c2 rs.length c3 _ 1 t none none none 0 0 0 0 0 0 W (fun W=>zgv t W)) (fun W _=>zv8 t W);refine this.mono fun e w' ⟨he,hb⟩=>⟨?_,hb⟩;rw [he];refine zae ?_;unfold zh4 alone zgg;dsimp only;rw [if_pos rfl,Bool.eq_iff_iff];simp only [Qh,decide_eq_true_iff];constructor
  ·rintro ⟨⟨_,q1,q2,q3⟩,q4⟩;exact ⟨q4,by omega⟩
  ·rintro ⟨q4,q5⟩;exact ⟨⟨by simp,by omega,by omega,by omega⟩,q4⟩
 by_cases k2:k=2
 ·subst k2;have:=ztc t a1 a2 a3 is.length c1 ps.length c2 rs.length c3 w _ (zdl is) (fun W=>zii 2 t a1 a2 a3 is.length c1 ps.length c2 rs.length c3 _ 2 ⟨#[]⟩ a1 none none is.length c1 0 0 0 0 W (fun W=>zij a1 is.length c1 W)) (fun W hb=> (zt6 (zaf oi hb) (by omega)).mono fun e w' ⟨he,hw⟩=>⟨he,by rw [hw];exact Qb _ _⟩);refine this.mono fun e w' ⟨he,hb⟩=>⟨?_,hb⟩;rw [he];refine zae ?_;unfold zh4 alone zgg;dsimp only;rw [if_neg (by decide),if_pos rfl,Bool.eq_iff_iff,z0];simp only [Qh,decide_eq_true_iff];constructor
  ·rintro ⟨⟨q0,_,q2,q3⟩,q4⟩;exact ⟨q0,by omega,q4⟩
  ·rintro ⟨q0,q1,q4⟩;exact ⟨⟨q0,by simp,by omega,by omega⟩,q4⟩
 by_cases k3:k=3
 ·subst k3
  have:=ztv t a1 a2 a3 is.length c1 ps.length c2 rs.length c3 w _ (zcu ps) (fun W=>zii 3 t a1 a2 a3 is.length c1 ps.length c2 rs.length c3 _ 3 ⟨#[]⟩ none a2 none 0 0 ps.length c2 0 0 W (fun W=>ziu a2 ps.length c2 W)) (fun W hb=>by
   obtain ⟨a,A,c,hv,hin⟩:=zdn (zaf op hb);rw [hv];exact zt5 a A _ c _ W hin (by omega))
  refine this.mono fun e w' ⟨he,hb⟩=>⟨?_,hb⟩;rw [he];refine zae ?_;unfold zh4 alone zgg;dsimp only;rw [if_neg (by decide),if_neg (by decide),if_pos rfl,Bool.eq_iff_iff,z0];simp only [Qh,decide_eq_true_iff];constructor
  ·rintro ⟨⟨q0,q1,_,q3⟩,q4⟩;exact ⟨q0,by omega,q4⟩
  ·rintro ⟨q0,q1,q4⟩;exact ⟨⟨q0,by omega,by simp,by omega⟩,q4⟩
 by_cases k4:k=4
 ·subst k4
  have:=ztj t a1 a2 a3 is.length c1 ps.length c2 rs.length c3 w _ (zeb rs) (fun W=>zii 4 t a1 a2 a3 is.length c1 ps.length c2 rs.length c3 _ 4 ⟨#[]⟩ none none a3 0 0 0 0 rs.length c3 W (fun W=>zid a3 rs.length c3 W)) (fun W hb=>by
   obtain ⟨a,A,c,hv,hin⟩:=Kk.zcl (zaf or hb);rw [hv];have hRW:=hR.bw (hb.mono h6);have:=hRW.six;exact Kk.zg3 a A 0 _ c rs W hin (by omega) hfl hRW.tab (by omega))
  refine this.mono fun e w' ⟨he,hb⟩=>⟨?_,hb⟩;rw [he];refine zae ?_;unfold zh4 alone zgg zeb;dsimp only;rw [if_neg (by decide),if_neg (by decide),if_neg (by decide),if_pos rfl,Bool.eq_iff_iff,z0];simp only [Qh,decide_eq_true_iff];constructor
  ·rintro ⟨⟨q0,q1,q2,_⟩,q4,q5⟩;exact ⟨q0,by omega,by omega,q5⟩
  ·rintro ⟨q0,q1,q4,q5⟩;exact ⟨⟨q0,by omega,by omega,by simp⟩,by omega,q5⟩
 ·have:=zwk k t a1 a2 a3 is.length c1 ps.length c2 rs.length c3 w (by simpa using k1) (by simpa using k2) (by simpa using k3) (by simpa using k4);refine this.mono fun e w' ⟨he,hb⟩=>⟨?_,hb⟩;rw [he];refine zae ?_;unfold zh4;rw [if_neg k1,if_neg k2,if_neg k3,if_neg k4]
end Go.Proofs.YtokafonppgppdaaGreatDoor
