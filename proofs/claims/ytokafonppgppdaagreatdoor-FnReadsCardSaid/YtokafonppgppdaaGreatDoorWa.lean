import Derived.Test.YtokafonppgppdaaGreatDoorHp1
set_option maxHeartbeats 4000000
set_option maxRecDepth 100000
namespace Go.Proofs.YtokafonppgppdaaGreatDoor
open Tryz
open _root_.ByteArray (empty)
open Go.RowKit Go.Sort
open Kk (Rk rk0 zd7 zju zc6 zea zeb zec za9 zbk encR)
variable {B:Nat} {w:World} {v vi vp vr:Value} {ps:List Pr} {rs:List Rk}
theorem zte (a:Option Addr) (A n c:Nat) (T:List ByteArray) (w:World) (hl:T.length=n) (ha:0<n->a=some ⟨A,0,none⟩) (hc:∀i,i<n->w.cell? ⟨A,i,none⟩=some (.string (T.getD i empty))) (hn:n<=1048577):
  Calls prog 136 #[.slice a n c] w fun e w'=>e= .returned (.bool (zdl T))/\w'=w:=by
 have HA:Hid (0<n->a=some ⟨A,0,none⟩):=ha;have HC:Hid (∀i,i<n->w.cell? ⟨A,i,none⟩=some (.string (T.getD i empty))):=hc;have HE:Hid (zdl T=(countB n&&(List.range n).all (Kk.zef T))):=by unfold Hid zdl;rw [<-hl,zq7]
 have HCB:Hid (countB n=(decide (1<=n)&&decide (n<=20))):=rfl;clear ha hc hl;go_enter func136,ntmps136;go_wp2;go_loopw [3] (fun i wr=>∃(k:Nat),k<=n/\i= .int .i64 k/\Hid (∀j,j<k->Kk.zef T j=true)/\wr=w) (fun i _=>n-(intOf i).toNat)
 case atStart=>exact ⟨0,by omega,rfl,fun j hj=>by omega,rfl⟩
 case round=>
  obtain ⟨k,hk,rfl,hp,rfl⟩:=hrel;by_cases hlt:k<n
  ·have c0:=HC.out k hlt;obtain rfl:=HA.out (by omega);have HS:Hid (Kk.zef T k=decide ((T.getD k empty).size<=200)):=rfl;generalize T.getD k empty=t at*;by_cases hsz:t.size<=200
   ·have gsz:¬(200:Int)<(t.size:Int):=by omega
    have HP2:Hid (∀j,j<k+1->Kk.zef T j=true):=fun j hj=>by
     by_cases e:j=k
     ·subst e;rw [HS.out,Qe hsz]
     ·exact hp.out j (by omega)
    clear hp HS;go_wp2;go_roundw
    case rel=>exact ⟨k+1,by omega,by go_num,HP2,trivial⟩
    case measure=>simp [intOf];omega
   ·have gsz:(200:Int)<(t.size:Int):=by omega
    have HF:Hid (zdl T=false):=by unfold Hid;rw [HE.out,Kk.zg2 hlt (by rw [HS.out,Qf hsz]),Bool.and_false]
    clear hp HS;go_wp2;go_ret;exact ⟨zae HF.out.symm,rfl⟩
  ·obtain rfl:k=n:=by omega
   have HT:Hid (zdl T=(decide (1<=k)&&decide (k<=20))):=by unfold Hid;rw [HE.out,Kk.zfh hp.out,Bool.and_true,HCB.out]
   clear hp HC HA HE HCB;by_cases h1:1<=k
   ·have g1:(1:Int)<=(k:Int):=by omega
    have HT2:Hid (zdl T=decide ((k:Int)<=20)):=by unfold Hid;rw [HT.out,Qe h1,Qz];simp;omega
    clear HT h1;go_wp2;go_ret;exact ⟨zae HT2.out.symm,rfl⟩
   ·have g1:¬(1:Int)<=(k:Int):=by omega
    have HT2:Hid (zdl T=false):=by unfold Hid;rw [HT.out,Qf h1,Q0]
    clear HT h1;go_wp2;go_ret;exact ⟨zae HT2.out.symm,rfl⟩
def shP (ps:List Pr) (i:Nat):Bool:=decide ((ps.getD i (bz,bz)).1.size<=200)&&decide ((ps.getD i (bz,bz)).2.size<=200)
def okP (ps:List Pr) (i:Nat):Bool:=shP ps i&&riP ps i
theorem zji:∀(ps:List Pr),(zco ps).all zcy=ps.all fun p=>zcy p.1&&zcy p.2
 | []=>rfl
 |p::ps=>by
  have e:zco (p::ps)=p.1::p.2::zco ps:=rfl;rw [e,List.all_cons,List.all_cons,List.all_cons,zji ps,Bool.and_assoc]
theorem zz6 (ps:List Pr):zcu ps=(countB ps.length&&(List.range ps.length).all (okP ps)):=by
 unfold zcu;rw [zrt,zji,<-Kk.zik ps (bz,bz) (fun p=>zcy p.1&&zcy p.2)];congr 1;exact (Kk.zn4 (n:=ps.length) (fun i=>zcy (ps.getD i (bz,bz)).1&&zcy (ps.getD i (bz,bz)).2) (riP ps)).symm
theorem zr5 (a:Option Addr) (b n c:Nat) (ps:List Pr) (w:World) (h:za6 w a b n ps) (hn:n<=1048577):
  Calls prog 137 #[.slice a n c] w fun e w'=>e= .returned (.bool (zcu ps))/\∃q,w'=w.drewN q:=by
 have H:Hid (za6 w a b n ps):=h;have HE:Hid (zcu ps=(countB n&&(List.range n).all (okP ps))):=by unfold Hid;rw [zz6,h.len]
 have HCB:Hid (countB n=(decide (1<=n)&&decide (n<=20))):=rfl;clear h;go_enter func137,ntmps137;go_wp2;go_loopw [3] (fun i wr=>∃(k q:Nat),k<=n/\i= .int .i64 k/\Hid (∀j,j<k->okP ps j=true)/\wr=w.drewN q) (fun i _=>n-(intOf i).toNat)
 case atStart=>exact ⟨0,0,by omega,rfl,fun j hj=>by omega,rfl⟩
 case round=>
  obtain ⟨k,q,hk,rfl,hp,hwq⟩:=hrel;have HW:Hid (wr=w.drewN q):=hwq;have HD:=H.out.bw (show Bl w wr by rw [hwq];exact below_drewN (Qb _ _) q);clear hwq;by_cases hlt:k<n
  ·have d0:=HD.c0 k hlt;have d1:=HD.c1 k hlt;obtain rfl:=HD.addr (by omega);have HOK:Hid (okP ps k=((decide ((ps.getD k (bz,bz)).1.size<=200)&&decide ((ps.getD k (bz,bz)).2.size<=200))&&riP ps k)):=rfl;have HNO:Hid (okP ps k=false->zcu ps=false):=fun hf=>by rw [HE.out,Kk.zg2 hlt hf,Bool.and_false]
   have HP3:Hid (okP ps k=true->∀j,j<k+1->okP ps j=true):=fun ho j hj=>by
    by_cases e:j=k
    ·subst e;exact ho
    ·exact hp.out j (by omega)
   have HRI:Hid (riP ps k=(decide (k=0)||Op.bytesLess (ps.getD (k-1) (bz,bz)).1.toList (ps.getD k (bz,bz)).1.toList)):=rfl;have hk0:(0:Int)<=(k:Int):=by omega
   have hkn:(k:Int)<(n:Int):=by omega
   have c0:=fun h:0<k=>HD.c0 (k-1) (by omega);generalize ps.getD (k-1) (bz,bz)=x,ps.getD k (bz,bz)=y at*;obtain ⟨xm,xs⟩:=x;obtain ⟨ym,ys⟩:=y;dsimp only at d0 d1 c0;clear HD hp;by_cases h1:ym.size<=200
   ·have g1:decide ((200:Int)<(ym.size:Int))=false:=Qf (by omega);have g1':decide (200<ym.size)=false:=Qf (by omega);by_cases h2:ys.size<=200
    ·have g2:decide ((200:Int)<(ys.size:Int))=false:=Qf (by omega);have g2':decide (200<ys.size)=false:=Qf (by omega);have HOK2:Hid (okP ps k=riP ps k):=by unfold Hid;rw [HOK.out];show (decide (ym.size<=200)&&decide (ys.size<=200)&&_)=_;rw [Qe h1,Qe h2];rfl
     clear HOK h1 h2;by_cases hk1:k=0
     ·have g3:decide ((0:Int)<(k:Int))=false:=Qf (by omega);have g3':decide (0<k)=false:=Qf (by omega);have HY:Hid (∀j,j<k+1->okP ps j=true):=HP3.out (by rw [HOK2.out,HRI.out,Qe hk1];rfl);clear HOK2 HRI HNO HP3 c0 hk1;go_wp2;go_quiet ((fail));go_wp2;go_roundw
      case rel=>exact ⟨k+1,_,by omega,by go_num,HY,by rw [HW.out,World.drewN_drewN]⟩
      case measure=>simp [intOf];omega
     ·have g3:decide ((0:Int)<(k:Int))=true:=Qe (by omega);have g3':decide (0<k)=true:=Qe (by omega);have c0':=c0 (by omega);have hk3:(0:Int)<=(k:Int)-1:=by omega
      have hk4:(k:Int)-1<(n:Int):=by omega
      have htn:((k:Int)-1).toNat=k-1:=by omega
      have hw:IntKind.i64.wrap ((k:Int)-1)=(k:Int)-1:=Kk.wrap_small (by omega) (by omega);have HRI2:Hid (riP ps k=Op.bytesLess xm.toList ym.toList):=by unfold Hid;rw [HRI.out,Qf hk1];rfl
      clear HRI c0 hk1;cases hlss:Op.bytesLess xm.toList ym.toList with
      |true=>
       have HY:Hid (∀j,j<k+1->okP ps j=true):=HP3.out (by rw [HOK2.out,HRI2.out,hlss]);clear HOK2 HRI2 HNO HP3;go_wp2;go_quiet ((fail));go_wp2;go_roundw
       case rel=>exact ⟨k+1,_,by omega,by go_num,HY,by rw [HW.out,World.drewN_drewN]⟩
       case measure=>simp [intOf];omega
      |false=>
       have HY:Hid (zcu ps=false):=HNO.out (by rw [HOK2.out,HRI2.out,hlss]);clear HOK2 HRI2 HNO HP3;go_wp2;go_quiet ((fail));go_wp2;go_ret;exact ⟨zae HY.out.symm,_,by rw [HW.out,World.drewN_drewN]⟩
    ·have g2:decide ((200:Int)<(ys.size:Int))=true:=Qe (by omega);have g2':decide (200<ys.size)=true:=Qe (by omega);have HY:Hid (zcu ps=false):=HNO.out (by rw [HOK.out];show (decide (ym.size<=200)&&decide (ys.size<=200)&&_)=_;rw [Qf h2,Bool.and_false];rfl);clear HOK HRI HNO HP3 c0 h1 h2;go_wp2;go_quiet ((fail));go_wp2;go_ret;exact ⟨zae HY.out.symm,_,by rw [HW.out,World.drewN_drewN]⟩
   ·have g1:decide ((200:Int)<(ym.size:Int))=true:=Qe (by omega);have g1':decide (200<ym.size)=true:=Qe (by omega);have HY:Hid (zcu ps=false):=HNO.out (by rw [HOK.out];show (decide (ym.size<=200)&&_&&_)=_;rw [Qf h1];rfl);clear HOK HRI HNO HP3 c0 h1;go_wp2;go_quiet ((fail));go_wp2;go_ret;exact ⟨zae HY.out.symm,_,by rw [HW.out,World.drewN_drewN]⟩
  ·obtain rfl:k=n:=by omega
   have HT:Hid (zcu ps=(decide (1<=k)&&decide (k<=20))):=by unfold Hid;rw [HE.out,Kk.zfh hp.out,Bool.and_true,HCB.out]
   clear hp H HE HCB HD;by_cases h1:1<=k
   ·have g1:(1:Int)<=(k:Int):=by omega
    have HT2:Hid (zcu ps=decide ((k:Int)<=20)):=by unfold Hid;rw [HT.out,Qe h1,Qz];simp;omega
    clear HT h1;go_wp2;go_ret;exact ⟨zae HT2.out.symm,q,HW.out⟩
   ·have g1:¬(1:Int)<=(k:Int):=by omega
    have HT2:Hid (zcu ps=false):=by unfold Hid;rw [HT.out,Qf h1,Q0]
    clear HT h1;go_wp2;go_ret;exact ⟨zae HT2.out.symm,q,HW.out⟩
abbrev zay:Value:= .slice none 0 0
abbrev vlV (k:Int) (t:ByteArray) (vi vp vr:Value):Value:= .agg #[.int .i64 k,.string t,vi,vp,vr]
abbrev z5:Array Value:= #[.int .i64 0,.string ⟨#[]⟩,.slice none 0 0,.slice none 0 0,.slice none 0 0]
abbrev yez (w:World) (v0 v1 v2 v3 v4:Value) (b:Nat):World:=((((w.setCell ⟨b,0,none⟩ v0).setCell ⟨b,1,none⟩ v1).setCell ⟨b,2,none⟩ v2).setCell ⟨b,3,none⟩ v3).setCell ⟨b,4,none⟩ v4
theorem zjo (w:World) (v0 v1 v2 v3 v4:Value) (b k:Nat) (h:k≠b):(yez w v0 v1 v2 v3 v4 b).heap[k]?=w.heap[k]?:=by
 unfold yez;rw [Below.heap_setCell _ _ _ _ (by simpa using h),Below.heap_setCell _ _ _ _ (by simpa using h),Below.heap_setCell _ _ _ _ (by simpa using h),Below.heap_setCell _ _ _ _ (by simpa using h),Below.heap_setCell _ _ _ _ (by simpa using h)]
theorem zcd {w1:World} (h:Below B w w1) (v0 v1 v2 v3 v4:Value) (b:Nat) (hb:B<=b):Below B w (yez w1 v0 v1 v2 v3 v4 b):=
 ((((h.setCell hb _).setCell hb _).setCell hb _).setCell hb _).setCell hb _
theorem zgv (t:ByteArray) (w:World):Calls prog 214 #[.iface 231 (.string t)] w fun e w'=>e= .returned (vlV 1 t zay zay zay)/\Bl w w':=by
 have y59:∀(w:World),(Instr.typeAssert (.iface 231 (.string t)) 198 231 true).run prog w= .ok (.tuple #[(.string t),.bool true]) w:=fun _=>by kernel_rfl
 go_enter func214,ntmps214;go_wp2;exact bodyPost_ret (v:=vlV 1 t zay zay zay) (by simp [results,results214,go_sem]) rfl ⟨rfl,(Qb _ w).alloc (Qc _) _⟩
section
variable (a:Option Addr) (n c:Nat) (w:World)
theorem zij:Calls prog 214 #[.iface 232 (.slice a n c)] w fun e w'=>e= .returned (vlV 2 ⟨#[]⟩ (.slice a n c) zay zay)/\Bl w w':=by
 have n59:∀(w:World),(Instr.typeAssert (.iface 232 (.slice a n c)) 198 231 true).run prog w= .ok (.tuple #[.string ⟨#[]⟩,.bool false]) w:=fun _=>by kernel_rfl
 have y60:∀(w:World),(Instr.typeAssert (.iface 232 (.slice a n c)) 198 232 true).run prog w= .ok (.tuple #[(.slice a n c),.bool true]) w:=fun _=>by kernel_rfl
 go_enter func214,ntmps214;go_wp2;exact bodyPost_ret (v:=vlV 2 ⟨#[]⟩ (.slice a n c) zay zay) (by simp [results,results214,go_sem]) rfl ⟨rfl,(Qb _ w).alloc (Qc _) _⟩
theorem ziu:Calls prog 214 #[.iface 233 (.slice a n c)] w fun e w'=>e= .returned (vlV 3 ⟨#[]⟩ zay (.slice a n c) zay)/\Bl w w':=by
 have n59:∀(w:World),(Instr.typeAssert (.iface 233 (.slice a n c)) 198 231 true).run prog w= .ok (.tuple #[.string ⟨#[]⟩,.bool false]) w:=fun _=>by kernel_rfl
 have n60:∀(w:World),(Instr.typeAssert (.iface 233 (.slice a n c)) 198 232 true).run prog w= .ok (.tuple #[.slice none 0 0,.bool false]) w:=fun _=>by kernel_rfl
 have y62:∀(w:World),(Instr.typeAssert (.iface 233 (.slice a n c)) 198 233 true).run prog w= .ok (.tuple #[(.slice a n c),.bool true]) w:=fun _=>by kernel_rfl
 go_enter func214,ntmps214;go_wp2;exact bodyPost_ret (v:=vlV 3 ⟨#[]⟩ zay (.slice a n c) zay) (by simp [results,results214,go_sem]) rfl ⟨rfl,(Qb _ w).alloc (Qc _) _⟩
theorem zid:Calls prog 214 #[.iface 234 (.slice a n c)] w fun e w'=>e= .returned (vlV 4 ⟨#[]⟩ zay zay (.slice a n c))/\Bl w w':=by
 have n59:∀(w:World),(Instr.typeAssert (.iface 234 (.slice a n c)) 198 231 true).run prog w= .ok (.tuple #[.string ⟨#[]⟩,.bool false]) w:=fun _=>by kernel_rfl
 have n60:∀(w:World),(Instr.typeAssert (.iface 234 (.slice a n c)) 198 232 true).run prog w= .ok (.tuple #[.slice none 0 0,.bool false]) w:=fun _=>by kernel_rfl
 have n62:∀(w:World),(Instr.typeAssert (.iface 234 (.slice a n c)) 198 233 true).run prog w= .ok (.tuple #[.slice none 0 0,.bool false]) w:=fun _=>by kernel_rfl
 have y63:∀(w:World),(Instr.typeAssert (.iface 234 (.slice a n c)) 198 234 true).run prog w= .ok (.tuple #[(.slice a n c),.bool true]) w:=fun _=>by kernel_rfl
 go_enter func214,ntmps214;go_wp2;exact bodyPost_ret (v:=vlV 4 ⟨#[]⟩ zay zay (.slice a n c)) (by simp [results,results214,go_sem]) rfl ⟨rfl,(Qb _ w).alloc (Qc _) _⟩
end
def zgg (v:Vl):Nat:=v.ia.length+v.pj.length+v.rq.length
def zh4 (v:Vl):Bool:=
 if v.kind=1 then zcy v.text&&decide (zgg v=0)
 else if v.kind=2 then decide (v.text.size=0)&&(decide (zgg v=v.ia.length)&&zdl v.ia)
 else if v.kind=3 then decide (v.text.size=0)&&(decide (zgg v=v.pj.length)&&zcu v.pj)
 else if v.kind=4 then decide (v.text.size=0)&&(decide (zgg v=v.rq.length)&&(decide (0<zgg v)&&zec v.rq))
 else false
structure VOwn (w:World) (B:Nat) (v:Vl) (vi vp vr:Value):Prop where
 ia:zcx w B vi v.ia
 pj:zd2 w B vp v.pj
 rq:za9 w B vr v.rq
theorem VOwn.bw {w':World} {v:Vl} (h:VOwn w B v vi vp vr) (hb:Bl w w'):VOwn w' B v vi vp vr:=
 ⟨zaf h.ia hb,zaf h.pj hb,zaf h.rq hb⟩
structure yjd (v:Vl):Prop where
 text:v.text.size<=1048576
 ia:v.ia.length<=524288
 pj:v.pj.length<=524288
 rq:v.rq.length<=524288
theorem zr4 {T:List ByteArray} (h:zcx w B v T) (hn:T.length<=524288):Calls prog 136 #[v] w fun e w'=>e= .returned (.bool (zdl T))/\w'=w:=by
 obtain ⟨a,A,c,rfl,h2,_,_,h5⟩:=zjh h;exact zte a A T.length c T w rfl (fun hp=> (h2 hp).1) h5 (by omega)
theorem zr8 (h:zd2 w B v ps) (hn:ps.length<=524288):Calls prog 137 #[v] w fun e w'=>e= .returned (.bool (zcu ps))/\Bl w w':=by
 obtain ⟨a,A,c,rfl,hin⟩:=zdn h;exact (zr5 a A ps.length c ps w hin (by omega)).mono fun e w' ⟨he,q,hq⟩=>⟨he,by rw [hq];exact below_drewN (Qb _ _) q⟩
theorem zt2 (h:za9 w B v rs) (hn:rs.length<=524288):Calls prog 138 #[v] w fun e w'=>e= .returned (.bool (zec rs))/\Bl w w':=by
 obtain ⟨a,A,c,hv,hin⟩:=Kk.zcl h;subst hv;exact Kk.zy4 a A 0 rs.length c rs w hin (by omega)
theorem zx1 (v:Vl) (vi vp vr:Value) (B:Nat) (w:World) (h:VOwn w B v vi vp vr) (hf:yjd v):
  Calls prog 95 #[vlV v.kind v.text vi vp vr] w fun e w'=>e= .returned (.bool (zh4 v))/\Bl w w':=by
 obtain ⟨k,t,is,ps,rs⟩:=v;obtain ⟨f1,f2,f3,f4⟩:=hf;dsimp only at f1 f2 f3 f4;obtain ⟨ai,ci,hvi⟩:=zad h.ia;obtain ⟨ap,cp,hvp⟩:=zad h.pj;obtain ⟨ar,cr,hvr⟩:=zad h.rq;dsimp only at hvi hvp hvr;have HB:Hid (∀o,Bl w (w.alloc o)):=fun o=> (Qb _ w).alloc (Qc _) _;have HI:Hid (∀o,Cp 136 #[vi] (w.alloc o) fun e w'=>e= .returned (.bool (zdl is))/\w'=w.alloc o):=fun o=>zr4 (h.bw (HB.out o)).ia f2;have HP:Hid (∀o,Cp 137 #[vp] (w.alloc o) fun e w'=>e= .returned (.bool (zcu ps))/\Below (w.alloc o).heap.size (w.alloc o) w'):=fun o=>zr8 (h.bw (HB.out o)).pj f3;have HR:Hid (∀o,Cp 138 #[vr] (w.alloc o) fun e w'=>e= .returned (.bool (zec rs))/\Below (w.alloc o).heap.size (w.alloc o) w'):=fun o=>zt2 (h.bw (HB.out o)).rq f4;have HN:Hid (zgg ⟨k,t,is,ps,rs⟩=is.length+ps.length+rs.length):=rfl;obtain ⟨O,hO⟩:∃O,zh4 ⟨k,t,is,ps,rs⟩=O:=⟨_,rfl⟩;have HO:Hid (zh4 ⟨k,t,is,ps,rs⟩=O):=hO;rw [hO];show Calls prog 95 #[vlV k t vi vp vr] w _;clear h hO;generalize hni:is.length=ni at*;generalize hnp:ps.length=np at*;generalize hnr:rs.length=nr at*;have HNI:Hid (is.length=ni):=hni;have HNP:Hid (ps.length=np):=hnp;have HNR:Hid (rs.length=nr):=hnr;subst hvi hvp hvr;clear hni hnp hnr;by_cases k1:k=1
 ·subst k1;have HO1:Hid ((decide (t.size<=200)&&decide (ni+np+nr=0))=O):=by
   unfold Hid;rw [<-HO.out];show _=(zcy t&&decide (zgg _=0));rw [HN.out];rfl
  clear HO HI HP HR HN;by_cases hs:t.size<=200
  ·have g1:(t.size:Int)<=200:=by omega
   have HO2:Hid (((ni:Int)+np+nr==0)=O):=by
    unfold Hid;rw [<-HO1.out,Qe hs,Qz,Bool.eq_iff_iff];simp;omega
   clear HO1 hs;go_enter func95,ntmps95;go_wp2;go_ret;exact ⟨zae HO2.out,HB.out _⟩
  ·have g1:¬(t.size:Int)<=200:=by omega
   have HO2:Hid (false=O):=by unfold Hid;rw [<-HO1.out,Qf hs,Q0]
   clear HO1 hs;go_enter func95,ntmps95;go_wp2;go_ret;exact ⟨zae HO2.out,HB.out _⟩
 have b1:(k==1)=false:=by simpa using k1
 by_cases k2:k=2
 ·subst k2;have HO1:Hid ((decide (t.size=0)&&(decide (ni+np+nr=ni)&&zdl is))=O):=by
   unfold Hid;rw [<-HO.out];show _=(decide (t.size=0)&&(decide (zgg _=is.length)&&zdl is));rw [HN.out,HNI.out]
  clear HO HP HR HN k1 b1;by_cases hs:t.size=0
  ·have he:=zlz hs;by_cases hn:ni+np+nr=ni
   ·have g2:((ni:Int)+np+nr==ni)=true:=by simp;omega
    have HO2:Hid (zdl is=O):=by unfold Hid;rw [<-HO1.out,Qe hs,Qe hn];rfl
    clear HO1 hs hn;go_enter func95,ntmps95;go_wp2_with fail;refine (HI.out _).mono ?_;rintro e w1 ⟨rfl,rfl⟩;rw [HO2.out];go_wp2;go_ret;exact ⟨rfl,HB.out _⟩
   ·have g2:((ni:Int)+np+nr==ni)=false:=by simp;omega
    have HO2:Hid (false=O):=by unfold Hid;rw [<-HO1.out,Qf hn,Q0,Bool.and_false]
    clear HO1 hs hn;go_enter func95,ntmps95;go_wp2;go_ret;exact ⟨zae HO2.out,HB.out _⟩
  ·have he:=zos (s:=t) (by omega);have HO2:Hid (false=O):=by unfold Hid;rw [<-HO1.out,Qf hs,Q0]
   clear HO1 hs;go_enter func95,ntmps95;go_wp2;go_ret;exact ⟨zae HO2.out,HB.out _⟩
 have b2:(k==2)=false:=by simpa using k2
 by_cases k3:k=3
 ·subst k3;have HO1:Hid ((decide (t.size=0)&&(decide (ni+np+nr=np)&&zcu ps))=O):=by
   unfold Hid;rw [<-HO.out];show _=(decide (t.size=0)&&(decide (zgg _=ps.length)&&zcu ps));rw [HN.out,HNP.out]
  clear HO HI HR HN k1 k2 b1 b2;by_cases hs:t.size=0
  ·have he:=zlz hs;by_cases hn:ni+np+nr=np
   ·have g2:((ni:Int)+np+nr==np)=true:=by simp;omega
    have HO2:Hid (zcu ps=O):=by unfold Hid;rw [<-HO1.out,Qe hs,Qe hn];rfl
    clear HO1 hs hn;go_enter func95,ntmps95;go_wp2_with fail;refine (HP.out _).mono ?_;rintro e w1 ⟨rfl,hb1⟩;have hb2:=(HB.out _).trans (hb1.mono (by simp));rw [HO2.out];clear hb1;go_wp2;go_ret;exact ⟨rfl,hb2⟩
   ·have g2:((ni:Int)+np+nr==np)=false:=by simp;omega
    have HO2:Hid (false=O):=by unfold Hid;rw [<-HO1.out,Qf hn,Q0,Bool.and_false]
    clear HO1 hs hn;go_enter func95,ntmps95;go_wp2;go_ret;exact ⟨zae HO2.out,HB.out _⟩
  ·have he:=zos (s:=t) (by omega);have HO2:Hid (false=O):=by unfold Hid;rw [<-HO1.out,Qf hs,Q0]
   clear HO1 hs;go_enter func95,ntmps95;go_wp2;go_ret;exact ⟨zae HO2.out,HB.out _⟩
 have b3:(k==3)=false:=by simpa using k3
 by_cases k4:k=4
 ·subst k4;have HO1:Hid ((decide (t.size=0)&&(decide (ni+np+nr=nr)&&(decide (0<ni+np+nr)&&zec rs)))=O):=by
   unfold Hid;rw [<-HO.out];show _=(decide (t.size=0)&&(decide (zgg _=rs.length)&&(decide (0<zgg _)&&zec rs)));rw [HN.out,HNR.out]
  clear HO HI HP HN k1 k2 k3 b1 b2 b3;by_cases hs:t.size=0
  ·have he:=zlz hs;by_cases hn:ni+np+nr=nr
   ·have g2:((ni:Int)+np+nr==nr)=true:=by simp;omega
    by_cases hp:0<ni+np+nr
    ·have g3:(0:Int)<(ni:Int)+np+nr:=by omega
     have HO2:Hid (zec rs=O):=by unfold Hid;rw [<-HO1.out,Qe hs,Qe hn,Qe hp];rfl
     clear HO1 hs hn hp;go_enter func95,ntmps95;go_wp2_with fail;refine (HR.out _).mono ?_;rintro e w1 ⟨rfl,hb1⟩;have hb2:=(HB.out _).trans (hb1.mono (by simp));rw [HO2.out];clear hb1;go_wp2;go_ret;exact ⟨rfl,hb2⟩
    ·have g3:¬(0:Int)<(ni:Int)+np+nr:=by omega
     have HO2:Hid (false=O):=by unfold Hid;rw [<-HO1.out,Qf hp,Q0,Bool.and_false,Bool.and_false]
     clear HO1 hs hn hp;go_enter func95,ntmps95;go_wp2;go_ret;exact ⟨zae HO2.out,HB.out _⟩
   ·have g2:((ni:Int)+np+nr==nr)=false:=by simp;omega
    have HO2:Hid (false=O):=by unfold Hid;rw [<-HO1.out,Qf hn,Q0,Bool.and_false]
    clear HO1 hs hn;go_enter func95,ntmps95;go_wp2;go_ret;exact ⟨zae HO2.out,HB.out _⟩
  ·have he:=zos (s:=t) (by omega);have HO2:Hid (false=O):=by unfold Hid;rw [<-HO1.out,Qf hs,Q0]
   clear HO1 hs;go_enter func95,ntmps95;go_wp2;go_ret;exact ⟨zae HO2.out,HB.out _⟩
 ·have b4:(k==4)=false:=by simpa using k4
  have HO2:Hid (false=O):=by
   unfold Hid;rw [<-HO.out];unfold zh4;rw [if_neg k1,if_neg k2,if_neg k3,if_neg k4]
  clear HO HI HP HR HN k1 k2 k3 k4;go_enter func95,ntmps95;go_wp2;go_ret;exact ⟨zae HO2.out,HB.out _⟩
theorem zm4:∀(k u:Nat),1<=k->u<10^k->Lib.nDigits u<=k
 |0,u,h,_=>by omega
 |1,u,_,h=>by rw [Lib.nDigits_small (by simpa using h)];omega
 |k+2,u,_,h=>by
  by_cases h10:u<10
  ·rw [Lib.nDigits_small h10];omega
  ·rw [Lib.nDigits_big h10];have:=zm4 (k+1) (u/10) (by omega) (by rw [Nat.pow_succ] at h;omega);omega
theorem zyo (z:Int) (w:World) (h0:-1000000000000000000<=z) (h1:z<=1000000000000000000):
  Calls prog 148 #[.int .i64 z] w fun e w'=>e= .returned (.string ⟨(Lib.itoa z).toArray⟩)/\Bl w w':=by
 by_cases hz:z<0
 ·have e1:-z=((-z).toNat:Int):=by omega
  have hl:(Lib.decDigits (-z).toNat).length<=20:=by
   rw [Lib.decDigits_length];have h19:(10:Nat)^19=10000000000000000000:=by decide
   have:=zm4 19 (-z).toNat (by omega) (by rw [h19];omega);omega
  have HI:Hid (Lib.itoa z=45::Lib.decDigits (-z).toNat):=by
   unfold Hid Lib.itoa;rw [if_pos hz,show z.natAbs=(-z).toNat from by omega]
  have HC:Hid (Cp 148 #[.int .i64 ((-z).toNat:Int)] w fun e w'=>e= .returned (.string ⟨(Lib.decDigits (-z).toNat).toArray⟩)/\Bl w w'):=yba (-z).toNat w (by omega);rw [<-e1] at HC;generalize Lib.decDigits (-z).toNat=D at*;clear e1;go_enter func148,ntmps148;go_wp2_with fail;refine HC.out.mono ?_;rintro e w1 ⟨rfl,b1⟩;go_wp2;go_ret;refine ⟨zye ?_,b1⟩;rw [HI.out];exact ByteArray.mk_append_mk [45] D
 ·have e1:z=(z.toNat:Int):=by omega
  have:=yba z.toNat w (by omega);rw [<-e1] at this;have e2:Lib.itoa z=Lib.decDigits z.toNat:=by unfold Lib.itoa;rw [if_neg hz]
  rw [e2];exact this
structure VSm (v:Vl):Prop where
 kind:1<=v.kind/\v.kind<=4
 text:v.text.size<=200
 ni:v.ia.length<=20
 np:v.pj.length<=20
 nr:v.rq.length<=20
 ia:∀t∈v.ia,t.size<=200
 pj:∀p∈v.pj,p.1.size<=200/\p.2.size<=200
 rq:∀r∈v.rq,r.m.size<=200/\-1000000000000000000<=r.s/\r.s<=1000000000000000000
theorem zsl {ts:List ByteArray} (h:zdl ts=true):ts.length<=20/\∀t∈ts,t.size<=200:=by
 unfold zdl countB at h;simp only [Qh,decide_eq_true_iff,Qw] at h;exact ⟨h.1.2,fun t ht=>Qg (h.2 t ht)⟩
theorem zr7 (h:zcu ps=true):ps.length<=20/\∀p∈ps,p.1.size<=200/\p.2.size<=200:=by
 unfold zcu countB at h;rw [zji] at h;simp only [Qh,decide_eq_true_iff,Qw] at h;exact ⟨h.1.2,fun p hp=>⟨Qg (h.2.1 p hp).1,Qg (h.2.1 p hp).2⟩⟩
theorem zsp (h:zec rs=true):rs.length<=20/\∀r∈rs,r.m.size<=200/\-1000000000000000000<=r.s/\r.s<=1000000000000000000:=by
 unfold zec at h;simp only [Qh,decide_eq_true_iff,Qw,List.mem_range] at h;refine ⟨h.1,fun r hr=>?_⟩;obtain ⟨i,hi,rfl⟩:=List.getElem_of_mem hr;have:=h.2 i hi;unfold Kk.zsj at this;simp only [Qh] at this;have h1:=this.1;have h2:=this.2.1;unfold Kk.zpt at h1;unfold Kk.zke zea at h2;rw [Qa,Qd hi] at h1 h2;simp only [Qh,decide_eq_true_iff,Option.getD_some] at h1 h2;exact ⟨h1,h2.1,h2.2⟩
theorem zff {v:Vl} (h:zh4 v=true):VSm v:=by
 obtain ⟨k,t,is,ps,rs⟩:=v;have nil0:∀{α:Type} (l:List α),l.length=0->l=[]:=fun l h=>List.eq_nil_of_length_eq_zero h;unfold zh4 zgg at h;dsimp only at h;split at h
 ·rename_i hk;simp only [Qh,decide_eq_true_iff] at h;have h1:=nil0 is (by omega);have h2:=nil0 ps (by omega);have h3:=nil0 rs (by omega);subst h1 h2 h3;exact ⟨by dsimp only;omega,Qg h.1,by simp,by simp,by simp,by simp,by simp,by simp⟩
 ·split at h
  ·rename_i hk;simp only [Qh,decide_eq_true_iff] at h;have h2:=nil0 ps (by omega);have h3:=nil0 rs (by omega);subst h2 h3;obtain ⟨q1,q2⟩:=zsl h.2.2;exact ⟨by dsimp only;omega,by dsimp only;omega,q1,by simp,by simp,q2,by simp,by simp⟩
  ·split at h
   ·rename_i hk;simp only [Qh,decide_eq_true_iff] at h;have h2:=nil0 is (by omega);have h3:=nil0 rs (by omega);subst h2 h3;obtain ⟨q1,q2⟩:=zr7 h.2.2;exact ⟨by dsimp only;omega,by dsimp only;omega,by simp,q1,by simp,by simp,q2,by simp⟩
   ·split at h
    ·rename_i hk;simp only [Qh,decide_eq_true_iff] at h;have h2:=nil0 is (by omega);have h3:=nil0 ps (by omega);subst h2 h3;obtain ⟨q1,q2⟩:=zsp h.2.2.2;exact ⟨by dsimp only;omega,by dsimp only;omega,by simp,by simp,q1,by simp,by simp,q2⟩
    ·cases h
abbrev vC (k:Int) (t:ByteArray) (vi vp vr:Value):Array Value:= #[.int .i64 k,.string t,vi,vp,vr]
theorem zmn {W:World} {g:Nat} {k:Int} {t:ByteArray} (h:zab W g 45 (vC k t vi vp vr)):W.cell? ⟨g,0,none⟩=some (.int .i64 k)/\W.cell? ⟨g,1,none⟩=some (.string t)/\W.cell? ⟨g,2,none⟩=some vi/\W.cell? ⟨g,3,none⟩=some vp/\W.cell? ⟨g,4,none⟩=some vr:=
 ⟨h.cell 0,h.cell 1,h.cell 2,h.cell 3,h.cell 4⟩
theorem zle {B':Nat} {e:TypeId} {size n:Nat} {xs:List Value} (h:w.ownsRow B e size v n xs) (hB:B'<=B):w.ownsRow B' e size v n xs:=Joins.ownsRow_le h hB
end Go.Proofs.YtokafonppgppdaaGreatDoor
