import Derived.Test.YtokafonppgppdaaGreatDoorDe
import Derived.Test.YtokafonppgppdaaGreatDoorR56
import Derived.Lib.ConvBytes
set_option maxHeartbeats 8000000
set_option maxRecDepth 100000
namespace Go.Proofs.YtokafonppgppdaaGreatDoor.Er
open Tryz
open Go.RowKit Go.Sort
variable {w w' w1 W:World} {p a aa:Option Addr} {g B ab ao m ac:Nat} {R:List Rp} {v:Value} {k:Ke} {c:Cm} {th:Bool} {T:List ByteArray} {L:List KV} {e:Ending} {ad:Nat->Addr}
theorem ygb(a:Option Addr)(n c:Nat)(w:World)(hn:n<=9223372036854775807):Calls prog 12 #[.slice a n c] w fun e w'=>e=.returned (.bool (decide (1048576<n)))/\w'=w:=by
 go_enter func12,ntmps12;go_wp2;go_ret;exact⟨congrArg (fun b=>Ending.returned (Value.bool b)) (decide_eq_decide.2 (by omega)),rfl⟩
theorem zxt(a a':Option Addr)(b b' n c c':Nat)(L L':List KV)(w:World)(h:Oc w a b n L)(h':Oc w a' b' n L')(he:L'.map KV.key=L.map KV.key)(hs:∀i,i<n->Hu (L.getD i kv0).key)(hn:n<=1000):
  Calls prog 16 #[.slice a n c,.slice a' n c'] w fun e w'=>e=.returned (.bool true)/\Bl w w':=by
 have HD:Hid (Oc w a b n L):=h;have Vh:Hid (Oc w a' b' n L'):=h';have HE:Hid (∀i,(L'.getD i kv0).key=(L.getD i kv0).key):=fun i=>by rw[<-Wg,<-Wg,he]
 have HS:Hid (∀i,i<n->Hu (L.getD i kv0).key):=hs;clear h h' he hs;go_enter func16,ntmps16;go_wp2;go_loopw [5] (fun i wr=>∃(k:Nat),k<=n/\i=.int .i64 k/\Bl w wr) (fun i _=>n-(intOf i).toNat)
 case atStart=>exact⟨0,by omega,rfl,Qb _ _⟩
 case round=>
  obtain⟨k,hk,rfl,bk⟩:=hrel;have sk:=bk.size;by_cases hlt:k<n
  ·have HW:=HD.out.bw bk;have Sz:=Vh.out.bw bk;obtain⟨B,hv⟩:=HW.val k hlt;obtain⟨B',Va⟩:=Sz.val k hlt;have hc:=HW.ks.cell k hlt;have Vf:=Sz.ks.cell k hlt;obtain rfl:=HW.ks.addr (by omega);obtain rfl:=Sz.ks.addr (by omega);have q:=HS.out k hlt;have e:=HE.out k;generalize L.getD k kv0=y,L'.getD k kv0=y' at*;obtain⟨ky,vi,vp,vr⟩:=y;obtain⟨Vq,Vg,Ve,Vc⟩:=y';dsimp only at e hv Va hc Vf q;have e2:=e.symm;subst e2;have n1:ky.val.ia.length<=1000:=Qj q.ni (by decide);have n2:ky.val.pj.length<=1000:=Qj q.np (by decide);have n3:ky.val.rq.length<=1000:=Qj q.nr (by decide);have hz:∀t∈ky.val.ia,t.size<=1048576:=fun t ht=>Qj (q.ia t ht) (by decide);have cV:∀d os,Calls prog 56 #[vlV ky.val.kind ky.val.text vi vp vr,vlV ky.val.kind ky.val.text Vg Ve Vc] (grow (redrawn wr d) os) fun e w''=>e=.returned (.bool true)/\∃p:Regrown,w''=grow (redrawn wr p.d) p.os:=fun d os=>Calls.regrown_of (zpg ky.val vi vp vr Vg Ve Vc _ ((hv.bw (below_regrown wr d os)).at hz) ((Va.bw (below_regrown wr d os)).at hz) n1 n2 n3);obtain⟨c0,c1,c2,c3,c4,c5,c6⟩:=hc;obtain⟨d0,d1,d2,d3,d4,d5,d6⟩:=Vf;dsimp only at c0 c1 c2 c3 c4 c5 c6 d0 d1 d2 d3 d4 d5 d6;clear HW Sz hv Va q n1 n2 n3 hz;obtain⟨nm,⟨kd,t,_,_,_⟩,du⟩:=ky;dsimp only at c0 c1 c2 c3 c4 c5 c6 d0 d1 d2 d3 d4 d5 d6 cV;have Vt:=cell_regrown c0;have Vn:=cell_regrown c1;have Vp:=cell_regrown c2;have Vr:=cell_regrown c3;have Vv:=cell_regrown c4;have Vi:=cell_regrown c5;have Vw:=cell_regrown c6;have ke0:=cell_regrown d0;have Vy:=cell_regrown d1;have Vu:=cell_regrown d2;have Vx:=cell_regrown d3;have Vj:=cell_regrown d4;have Vs:=cell_regrown d5;have Vk:=cell_regrown d6;have Vo:(0:Int)<=(k:Int):=by omega
   have Vm:(k:Int)<(n:Int):=by omega
   clear c0 c1 c2 c3 c4 c5 c6 d0 d1 d2 d3 d4 d5 d6;go_wp2;refine wp_region_quiet_below (by kernel_rfl) (by kernel_rfl) ?_;repeat(first|go_big_quiet_skip|quiet_step (first|with_reducible exact cV _ _)|(go_big_quiet_want;go_big_quiet_op;go_big_quiet_on))
   refine wpQuiet_nil ?_;intro _ hw';obtain⟨⟨dq,Vd⟩,Vb⟩:=hw';subst Vb;have bq:=below_regrown wr dq Vd;generalize grow (redrawn wr dq) Vd=wq at*;go_wp2;go_roundw
   case rel=>exact⟨k+1,by omega,by go_num,bk.trans (bq.mono sk)⟩
   case measure=>simp[intOf];omega
  ·go_wp2;go_ret;exact⟨rfl,bk⟩
structure Ty (w:World) (p:Option Addr) (g:Nat) (ks:List Nat):Prop where
 addr:0<ks.length->p=some ⟨g,0,none⟩/\g<w.heap.size
 cell:∀i (hi:i<ks.length),w.cell? ⟨g,i,none⟩=some (.int .i64 ((ks[i]:Nat):Int))
theorem Ty.bw{ks:List Nat}(h:Ty w p g ks)(hb:Bl w w'):Ty w' p g ks:=
 ⟨fun h0=>⟨(h.addr h0).1,Qr (h.addr h0).2 hb.size⟩,fun i hi=>(hb.cell (p:=⟨g,i,none⟩) (h.addr (by omega)).2).trans (h.cell i hi)⟩
structure Ac (w:World) (g i:Nat) (r:Rp):Prop where
 k:w.cell? ⟨g,i*4,none⟩=some (.int .i64 r.kind)
 n:w.cell? ⟨g,i*4+1,none⟩=some (.int .i64 r.n)
 s:w.cell? ⟨g,i*4+2,none⟩=some (.string r.s)
 c:∃p pg pc,w.cell? ⟨g,i*4+3,none⟩=some (.slice p r.kids.length pc)/\Ty w p pg r.kids
structure T5 (w:World) (a:Option Addr) (g:Nat) (R:List Rp):Prop where
 addr:0<R.length->a=some ⟨g,0,none⟩/\g<w.heap.size
 cell:∀i (hi:i<R.length),Ac w g i R[i]
theorem T5.bw(h:T5 w a g R)(hb:Bl w w'):T5 w' a g R:=
 ⟨fun h0=>⟨(h.addr h0).1,Qr (h.addr h0).2 hb.size⟩,fun i hi=>by
  have hg:=(h.addr (by omega)).2;obtain⟨k,n,s,p,pg,pc,c,hk⟩:=h.cell i hi;exact⟨(hb.cell (p:=⟨g,i*4,none⟩) hg).trans k,(hb.cell (p:=⟨g,i*4+1,none⟩) hg).trans n,(hb.cell (p:=⟨g,i*4+2,none⟩) hg).trans s,p,pg,pc,(hb.cell (p:=⟨g,i*4+3,none⟩) hg).trans c,hk.bw hb⟩⟩
theorem yfp(h:Fr w B v R):∃a g c,v=.slice a R.length c/\T5 w a g R:=by
 obtain⟨M,rfl,o,hk⟩:=h;have hl:(M.map RV.r).length=M.length:=Qp _;by_cases h0:M.length=0
 ·obtain⟨a,c,e⟩:=Fx o;exact⟨a,0,c,by rw[hl];exact e,fun h=>by omega,fun i hi=>by omega⟩
 ·obtain⟨g,c,e,h1,h2,_⟩:=zur o 0 (by omega);refine⟨_,g,c,by rw[hl];exact e,fun _=>⟨rfl,h2⟩,fun i hi=>?_⟩;obtain⟨g',c',e',_,_,q0,q1,q2,q3⟩:=zur o i (by omega);rw[e]at e';injection e' with e1;injection e1 with e2;injection e2 with e3;subst e3;obtain⟨p,pg,pc,ek,ha,Sz⟩:=zz3 (hk M[i] (Qv _));rw[ek]at q3;rw[List.getElem_map];exact⟨q0,q1,q2,p,pg,pc,q3,fun h=>⟨(ha h).1,(ha h).2.2⟩,Sz⟩
theorem zp7(a a':Option Addr)(b b' c c':Nat)(ks:List Nat)(w:World)(h:Ty w a b ks)(h':Ty w a' b' ks)(hn:ks.length<=1048577):
  Calls prog 57 #[.slice a ks.length c,.slice a' ks.length c'] w fun e w'=>e=.returned (.bool true)/\∃q,w'=w.drewN q:=by
 have HK:Hid (∀i (hi:i<ks.length),w.cell? ⟨b,i,none⟩=some (.int .i64 ((ks[i]:Nat):Int))/\w.cell? ⟨b',i,none⟩=some (.int .i64 ((ks[i]:Nat):Int))):=fun i hi=>⟨h.cell i hi,h'.cell i hi⟩;have HA:Hid (0<ks.length->a=some ⟨b,0,none⟩/\a'=some ⟨b',0,none⟩):=fun h0=>⟨(h.addr h0).1,(h'.addr h0).1⟩;have HG:Hid (∀i (hi:i<ks.length),∃z:Int,z=((ks[i]:Nat):Int)):=fun i hi=>⟨_,rfl⟩;clear h h';obtain⟨n,Sz⟩:∃n,ks.length=n:=⟨_,rfl⟩;have HC:Hid (∀i,i<n->∃z:Int,w.cell? ⟨b,i,none⟩=some (.int .i64 z)/\w.cell? ⟨b',i,none⟩=some (.int .i64 z)):=fun i hi=>⟨_,HK.out i (by omega)⟩;rw[Sz]at HA hn ⊢;clear HK HG Sz;go_enter func57,ntmps57;go_wp2;go_loopw [5] (fun i wr=>∃(k q:Nat),k<=n/\i=.int .i64 k/\wr=w.drewN q) (fun i _=>n-(intOf i).toNat)
 case atStart=>exact⟨0,0,by omega,rfl,rfl⟩
 case round=>
  obtain⟨k,q,hk,rfl,rfl⟩:=hrel;by_cases hlt:k<n
  ·obtain⟨rfl,rfl⟩:=HA.out (by omega);obtain⟨z,hc,Va⟩:=HC.out k hlt;go_wp2;go_quiet ((fail));go_wp2;go_roundw
   case rel=>exact⟨k+1,_,by omega,by go_num,rfl⟩
   case measure=>simp[intOf];omega
  ·go_wp2;go_ret;exact⟨rfl,q,rfl⟩
theorem Ty.drew{ks:List Nat}(h:Ty w p g ks)(q:Nat):Ty (w.drewN q) p g ks:=h.bw (Hp.below_drewN w q)
theorem yc4(w:World)(a b:Nat):(w.drewN a).drewN b=w.drewN (a+b):=by
 simp[World.drewN,Nat.add_assoc]
theorem zqk(a a':Option Addr)(b b' c c':Nat)(R:List Rp)(w:World)(h:T5 w a b R)(h':T5 w a' b' R)(hn:R.length<=1048577)(hk:∀r∈R,r.kids.length<=1048577):
  Calls prog 17 #[.slice a R.length c,.slice a' R.length c'] w fun e w'=>e=.returned (.bool true)/\∃q,w'=w.drewN q:=by
 have HA:Hid (0<R.length->a=some ⟨b,0,none⟩/\a'=some ⟨b',0,none⟩):=fun h0=>⟨(h.addr h0).1,(h'.addr h0).1⟩;have HC:Hid (∀i,i<R.length->∃r:Rp,Ac w b i r/\Ac w b' i r/\r.kids.length<=1048577):=fun i hi=>⟨R[i],h.cell i hi,h'.cell i hi,hk _ (Qv hi)⟩;clear h h' hk;generalize R.length=n at*;go_enter func17,ntmps17;go_wp2;go_loopw [5] (fun i wr=>∃(k q:Nat),k<=n/\i=.int .i64 k/\wr=w.drewN q) (fun i _=>n-(intOf i).toNat)
 case atStart=>exact⟨0,0,by omega,rfl,rfl⟩
 case round=>
  obtain⟨k,q,hk,rfl,Sz⟩:=hrel;by_cases hlt:k<n
  ·obtain⟨rfl,rfl⟩:=HA.out (by omega);obtain⟨r,⟨c0,c1,c2,p,pg,pc,c3,c4⟩,⟨d0,d1,d2,x,xg,xc,d3,d4⟩,hr⟩:=HC.out k hlt;have HI:∀m,Calls prog 57 #[.slice p r.kids.length pc,.slice x r.kids.length xc] (wr.drewN m) fun e w'=>e=.returned (.bool true)/\∃m',w'=(wr.drewN m).drewN m':=fun m=>by
    rw[Sz];exact zp7 p x pg xg pc xc r.kids _ ((c4.drew q).drew m) ((d4.drew q).drew m) hr
   have cw:∀z,wr.cell? z=w.cell? z:=fun z=>by rw[Sz];rfl
   rw[<-cw]at c0 c1 c2 c3 d0 d1 d2 d3;have HQ:Hid (wr=w.drewN q):=Sz;clear c4 d4 cw Sz;obtain⟨rk,rn,rs,rc⟩:=r;dsimp only at c0 c1 c2 c3 d0 d1 d2 d3 HI hr;generalize rc.length=m at*;go_wp2;go_quiet ((exact Calls.quiet_of (HI _)));go_wp2;go_roundw
   case rel=>exact⟨k+1,_,by omega,by go_num,by rw[HQ.out,yc4]⟩
   case measure=>simp[intOf];omega
  ·have HQ:Hid (wr=w.drewN q):=Sz;clear Sz;go_wp2;go_ret;exact⟨rfl,q,HQ.out⟩
theorem Ly(a:Option Addr)(g c:Nat)(R:List Rp)(w:World)(h:T5 w a g R)(hn:R.length<=1048577):Calls prog 18 #[.slice a R.length c] w fun e w'=>e=.returned (.bool (decide (R.length=1)&&decide ((R.getD 0 ⟨0,0,⟨#[]⟩,[]⟩).kind=2)))/\w'=w:=by
 by_cases h1:R.length=1
 ·obtain⟨r,rfl⟩:=List.length_eq_one_iff.1 h1;have hc:=(h.cell 0 (by simp)).k;obtain⟨rfl,_⟩:=h.addr (by simp);obtain⟨rk,rn,rs,rc⟩:=r;have hc:w.cell? ⟨g,0,none⟩=some (.int .i64 rk):=hc;clear h h1 hn;show Calls prog 18 #[.slice (some ⟨g,0,none⟩) 1 c] w fun e w'=>e=.returned (.bool (decide (rk=2)))/\w'=w;by_cases h2:rk=2
  ·subst h2;go_enter func18,ntmps18;go_wp2;go_ret;exact⟨rfl,rfl⟩
  ·rw[Qf h2];go_enter func18,ntmps18;go_wp2;go_ret;exact⟨F0 (by simp[h2]),rfl⟩
 ·rw[Qf h1,Q0];clear h;generalize R.length=n at*;have Sz:¬((n:Int)=1):=by omega
  go_enter func18,ntmps18;go_wp2;go_ret;exact⟨rfl,rfl⟩
def Y6 (w:World) (e:Ending) (w':World):Prop:=
 ∃B v L now aa ab ao ac T,e= .returned (.tuple #[v,.int .i64 now,.slice aa (List.length T) ac])/\Fv w' B v L/\O7 (L.map KV.key)/\L.length<=83/\Fs w' aa ab ao T.length T/\T.length<=6/\T.length<=ac/\(∀s∈T,s.size<=20)/\Bl w w'
theorem zvn{rb n c:Nat}{M:List KV}(hrb:w.heap.size<=rb)(b1:Bl w w1)(hS:Mz w1 rb a n c v M w'):Bl w w':=by
 obtain⟨g1,g2,g3,g4,g5⟩:=hS.grown;exact b1.trans ⟨g1,g2,g3,g4,fun k hk=>g5 k (Qr hk b1.size) (by intro h;injection h with h;omega)⟩
theorem ydt(a:Option Addr)(n c:Nat)(w:World)(hn:n<=9223372036854775807)(hb:BytesIn w a n w.heap.size):
  Calls prog 13 #[.slice a n c] w (Y6 w):=by
 have HO:Hid (∃rb,w.heap.size<=rb/\Cp 39 #[.slice a n c] w fun e w'=>e=.returned (.pointer (some ⟨rb,0,none⟩))/\Rd w' rb a n c/\Bl w w'):=⟨w.heap.size,Qc _,yeb a n c w hn hb⟩;clear hb;obtain⟨rb,Vk,HO⟩:=HO.out;have Vg:Hid (w.heap.size<=rb):=Vk;clear Vk;go_enter func13,ntmps13;go_wp2_with fail;refine HO.mono ?_;rintro e w1⟨rfl,Vj,b1⟩;have Va:rb<w1.heap.size:=by
  obtain⟨p,_,hr⟩:=Vj.row;exact hr.lt
 have Ve:Hid (Bl w w1):=b1;clear b1 HO;go_wp2_with fail;refine(yiv rb a n c w1 Vj Va).mono ?_;rintro e w2⟨v,M,rfl,hS,hM⟩;have Vi:Hid (Mz w1 rb a n c v M w2):=hS;have HM:Hid (M.length<=83):=hM;clear hS hM Vj;go_wp2_with fail;refine(Ww rb a n c 9 w2 Vi.out.rd (by omega) (by omega)).mono ?_;rintro e w3⟨k,rfl,k0,k1,r3,g3⟩;have Vh:Hid (Mz w1 rb a n c v M w3):=Vi.out.read Va r3 g3;clear Vi r3 g3;go_wp2_with fail;refine(Pd rb a n c 24 w3 Vh.out.rd (by omega) (by omega)).mono ?_;rintro e w4⟨b4,rfl,r4,g4⟩;have Vb:Hid (Mz w1 rb a n c v M w4):=Vh.out.read Va r4 g4;clear Vh r4 g4;cases b4 with
 |false=>
  go_wp2_with fail;refine(Y7 rb a n c w4 Vb.out.rd (Vb.out.lt Va)).mono ?_;rintro e w5⟨x,B,off,Vd,ss,rfl,hs,hl,Vc,r5,g5,hz⟩;have Sz:Hid (Mz w1 rb a n c v M w5):=Vb.out.read Va r5 g5;have HF:Hid (Y6 w (.returned (.tuple #[v,.int .i64 k,.slice x ss.length Vd])) w5):=⟨_,v,M,k,x,B,off,Vd,ss,rfl,Sz.out.own,Sz.out.fit,HM.out,hs,hl,Vc,hz,zvn Vg.out Ve.out Sz.out⟩;clear hs hz r5 g5 Vb Sz HM Ve Vg;generalize ss.length=m at*;go_wp2;go_ret3;exact HF.out
 |true=>
  go_wp2_with fail;refine(Hp.Cr rb a n c 0 1000000000 w4 Vb.out.rd (by omega) (by omega) (by omega)).mono ?_;rintro e w8⟨d,rfl,Vn,Vm,r8,g8⟩;have Vf:Hid (Mz w1 rb a n c v M w8):=Vb.out.read Va r8 g8;clear Vb r8 g8;go_wp2_with fail;refine(Y7 rb a n c w8 Vf.out.rd (Vf.out.lt Va)).mono ?_;rintro e w5⟨x,B,off,Vd,ss,rfl,hs,hl,Vc,r5,g5,hz⟩;have Sz:Hid (Mz w1 rb a n c v M w5):=Vf.out.read Va r5 g5;have HF:Hid (Y6 w (.returned (.tuple #[v,.int .i64 d,.slice x ss.length Vd])) w5):=⟨_,v,M,d,x,B,off,Vd,ss,rfl,Sz.out.own,Sz.out.fit,HM.out,hs,hl,Vc,hz,zvn Vg.out Ve.out Sz.out⟩;clear hs hz r5 g5 Vf Sz HM Ve Vg;generalize ss.length=m at*;go_wp2;go_ret3;exact HF.out
open Go.RowKit
open Rb (Ns C4 W9)
def Pl (R:List Rp):Bool:=decide (R.length=1)&&decide ((R.getD 0 ⟨0,0,⟨#[]⟩,[]⟩).kind=2)
theorem T3{k n:Int}{s:ByteArray}(hk:k≠2):Pl [⟨k,n,s,[]⟩]=false:=by
 unfold Pl;simp[hk]
structure Left (ks:List Ke) (now:Int) (x:List Ke×List Rp):Prop where
 err:Pl x.2=true->x.1=ks
 ok:Fm x.1=true
 live:∀k∈x.1,Hs now k=true
section
variable {ks : List Ke} {now : Int}
theorem Tj(h:Fm ks=true)(hl:∀k∈ks,Hs now k=true)(R:List Rp):Left ks now (ks,R):=⟨fun _=>rfl,h,hl⟩
theorem zqt(h:Fm ks=true)(hl:∀k∈ks,Hs now k=true)(nm:ByteArray)(hR:Pl R=false):Left ks now (G5 ks nm,R):=
 ⟨fun e=>(by rw[hR]at e;cases e),C4 h nm,fun k hk=>hl k (List.mem_filter.1 hk).1⟩
theorem zlx(hl:∀k∈ks,Hs now k=true)(hk:Hs now k=true)(hs:Fm (G0 ks k)=true)(hR:Pl R=false):Left ks now (G0 ks k,R):=
 ⟨fun e=>(by rw[hR]at e;cases e),hs,fun y hy=>by
  rcases Df hy with q|q
  ·exact hl y q
  ·rw[q];exact hk⟩
theorem Wk(h:Fm ks=true)(hl:∀k∈ks,Hs now k=true)(hk:Hs now k=true)(hR:Pl R=false):Left ks now (Fj ks k R):=by
 unfold Fj;split
 ·exact zqt h hl _ hR
 ·split
  ·rename_i hs;exact zlx hl hk hs hR
  ·exact Tj h hl _
theorem zt9(h:Fm ks=true)(hl:∀k∈ks,Hs now k=true)(hk:k∈ks){d:Int}(h0:0<=d)(h1:d<=1000000000)(ha:Hs now (k.withDue d)=true)(hR:Pl R=false):Left ks now (G0 ks (k.withDue d),R):=by
 refine zlx hl ha ?_ hR;have hq:Lw ks:=T8 h;have q:=An hq hk h0 h1;rw[W9 h,Qe q.1,Bool.and_true];have:=hq.2 k hk;unfold Hh Lp at this ⊢;simp only[Qh,decide_eq_true_eq]at this ⊢;exact⟨this.1,this.2.1,h0,h1⟩
theorem ybe(h:Fm ks=true)(hl:∀k∈ks,Hs now k=true)(hk:Hs now k=true):Left ks now (Ol c ks k th T):=by
 unfold Ol;split<;>repeat(first|exact Tj h hl _|exact Wk h hl (k:=_) (by exact hk) (T3 (by decide))|split)
theorem zwa(h:Fm ks=true)(hl:∀k∈ks,Hs now k=true)(hk:Hs now k=true):Left ks now (Od c ks k th T):=by
 unfold Od;split<;>repeat(first|exact Tj h hl _|exact Wk h hl (k:=_) (by exact hk) (T3 (by decide))|split)
theorem ybj(h:Fm ks=true)(hl:∀k∈ks,Hs now k=true)(hk:Hs now k=true):Left ks now (Om c ks k T):=by
 unfold Om;split<;>repeat(first|exact Tj h hl _|exact Wk h hl (k:=_) (by exact hk) (T3 (by decide))|split)
theorem zy8(h:Fm ks=true)(hl:∀k∈ks,Hs now k=true)(hk:Hs now k=true):Left ks now (M5 c ks k T):=by
 unfold M5;split<;>repeat(first|exact Tj h hl _|exact Wk h hl (k:=_) (by exact hk) (T3 (by decide))|split)
theorem ya3{x:Int}(hx:1<=x):Hs now (k.withDue (now+x))=true:=by
 unfold Hs Ke.withDue;simp only[Bool.or_eq_true,decide_eq_true_eq];exact .inr (by omega)
theorem yew(h:Fm ks=true)(hl:∀k∈ks,Hs now k=true)(h1:k.due≠0->k∈ks)(h2:th=true->k∈ks)(hn:0<=now/\now<=1000000000):Left ks now (anyM c ks k th now T):=by
 have hz:∀nm t,Hs now (F5 nm t 0)=true:=fun nm t=>rfl;have Sz:∀nm t x,1<=x->Hs now (F5 nm t (now+x))=true:=fun nm t x hx=>by
  unfold Hs F5;simp only[Bool.or_eq_true,decide_eq_true_eq];exact .inr (by omega)
 unfold anyM;split<;>repeat(first|exact Tj h hl _|exact Wk h hl (hz _ _) (T3 (by decide))|exact Wk h hl (Sz _ _ _ (by omega)) (T3 (by decide))|exact zt9 h hl (h1 (by assumption)) (by omega) (by omega) rfl (T3 (by decide))|exact zt9 h hl (h2 (by assumption)) (by omega) (by omega) (ya3 (by omega)) (T3 (by decide))|exact zqt h hl _ (T3 (by decide))|split)
theorem Ir:∀(T:List ByteArray) (s:List Ke×Nat),Fm s.1=true->(∀k∈s.1,Hs now k=true)->Fm (T.foldl (Ni true) s).1=true/\∀k∈(T.foldl (Ni true) s).1,Hs now k=true
 | [],s,a,b=>⟨a,b⟩
 |t::T,s,a,b=>by
  rw[List.foldl_cons];refine Ir T _ ?_ ?_<;>unfold Ni<;>split
  ·exact a
  ·exact C4 a t
  ·exact b
  ·exact fun k hk=>b k (List.mem_filter.1 hk).1
theorem ybq(h:Fm ks=true)(hl:∀k∈ks,Hs now k=true):Left ks now (Oj c ks T):=by
 cases c using Cm.elim
 case DEL=>
  obtain⟨a,b⟩:=Ir T (ks,0) h hl;exact⟨fun e=>(by cases e),a,b⟩
 case FLUSHALL=>exact⟨fun e=>(by cases e),rfl,fun k hk=>(by cases hk)⟩
 all_goals exact Tj h hl _
theorem znv(h:Fm ks=true)(hl:∀k∈ks,Hs now k=true)(hk:Hs now k=true)(h1:k.due≠0->k∈ks)(h2:th=true->k∈ks)(hn:0<=now/\now<=1000000000):Left ks now (Mh c ks k th now T):=by
 unfold Mh;split
 ·exact ybe h hl hk
 ·exact zwa h hl hk
 ·exact ybj h hl hk
 ·exact zy8 h hl hk
 ·exact yew h hl h1 h2 hn
theorem left_done(h:Fm ks=true)(hl:∀k∈ks,Hs now k=true)(hn:0<=now/\now<=1000000000):Left ks now (Lc ks now T):=by
 unfold Lc;split
 ·exact Tj h hl _
 ·split
  ·split
   ·exact ybq h hl
   ·unfold Np;split
    ·exact znv h hl rfl (fun e=>absurd rfl e) (fun e=>by cases e) hn
    ·rename_i hf;split
     ·exact Tj h hl _
     ·have hm:ks.getD (Lm ks (Fa T.tail 0) 0).toNat ke0∈ks:=by
       rcases Ba ks (Fa T.tail 0) 0 with e|⟨i,hi,e⟩
       ·exact absurd (by rw[e];decide) hf
       ·rw[e,Int.toNat_natCast,Qq,Qa,Qd hi];exact Qv hi
      exact znv h hl (hl _ hm) (fun _=>hm) (fun _=>hm) hn
  ·exact Tj h hl _
end
theorem zw5{ks:List Ke}{now:Int}:∀k∈Hb ks now,Hs now k=true:=fun _ hk=>(List.mem_filter.1 hk).2
theorem zt0{ks:List Ke}{now:Int}(h:∀k∈ks,Hs now k=true):Hb ks now=ks:=List.filter_eq_self.2 h
def DbR (w:World) (v:Value) (ks:List Ke):Prop:=∃a A c L,v= .slice a ks.length c/\Oc w a A L.length L/\L.map KV.key=ks
def RpR (w:World) (v:Value) (R:List Rp):Prop:=∃a g c,v= .slice a R.length c/\T5 w a g R
theorem DbR.bw{ks:List Ke}(h:DbR w v ks)(hb:Bl w w'):DbR w' v ks:=by
 obtain⟨a,A,c,L,e,hd,hk⟩:=h;exact⟨a,A,c,L,e,hd.bw hb,hk⟩
theorem RpR.bw(h:RpR w v R)(hb:Bl w w'):RpR w' v R:=by
 obtain⟨a,g,c,e,hr⟩:=h;exact⟨a,g,c,e,hr.bw hb⟩
theorem Il(h:Fv w B v L):DbR w v (L.map KV.key):=by
 obtain⟨a,A,c,e,hd⟩:=h.at;exact⟨a,A,c,L,by rw[Qp];exact e,hd,rfl⟩
def Ug (w:World) (p:List Ke×List Rp) (e:Ending) (w':World):Prop:=
 ∃v r,e= .returned (.tuple #[v,r])/\DbR w' v p.1/\RpR w' r p.2/\Bl w w'
theorem ybv{p:List Ke×List Rp}(h:Rb.Bu w p e w'):Ug w p e w':=by
 obtain⟨v,r,L,rfl,hk,ho,hv,hr,hb⟩:=h;obtain⟨a,A,c,e,Sz⟩:=Uw ho;exact⟨v,r,rfl,⟨a,A,c,L,by rw[<-hk,Qp];exact e,⟨Sz,fun i hi=>⟨_,hv.own _ (by rw[Qa,Qd hi];exact Qv hi)⟩⟩,hk⟩,yfp hr,hb⟩
theorem zy0{p:List Ke×List Rp}(h:Fh w B p e w'):Ug w p e w':=by
 obtain⟨v,r,L,rfl,hk,ho,hr,hb⟩:=h;exact⟨v,r,rfl,by rw[<-hk];exact Il ho,yfp hr,hb⟩
theorem Ct(h:Rb.Px w ad)(hb:Bl w W):Rb.Px W ad:=by
 have hs:=hb.size;have n25:=h.es.er.n25;have q:=h.es.bw hb;refine⟨⟨⟨q.er.rd,q.er.fd,fun i hi=>⟨(q.er.er i hi).1,Qr (q.er.er i hi).2 hs⟩,by omega⟩,q.ms⟩,fun i hi=>(h.ev i hi).bw hb n25 (h.ev i hi).low,h.ne,(hb.cell (p:=⟨3,0,none⟩) (by show 3<_;omega)).trans h.g7⟩
def C3 (ks:List Ke):Prop:=O7 ks/\ks.length<=1000
theorem zlo(h:O7 (L.map KV.key)):Small L:=fun i hi=>by
 have k:=h _ (List.mem_map.2 ⟨L.getD i kv0,by rw[Qa,Qd hi];exact Qv hi,rfl⟩);exact⟨⟨k.fit.fit,k.np,k.nums⟩,k.fit.name⟩
theorem yhr{ks:List Ke}(h:Fm ks=true):C3 ks:=by
 obtain⟨h1,h2⟩:=zrs h;exact⟨h1,by omega⟩
theorem znu(v:Value)(ks:List Ke)(now:Int)(aa:Option Addr)(ab ao m ac:Nat)(T:List ByteArray)(ad:Nat->Addr)(w:World)(h:DbR w v ks)(hg:C3 ks)(ha:Fs w aa ab ao m T)(hm:m<=1000)(hac:m<=ac)(hE:Rb.Px w ad):
  Calls prog 14 #[v,.int .i64 now,.slice aa m ac] w (Ug w (Nj ks now T)):=by
 obtain⟨a,A,c,L,rfl,hd,rfl⟩:=h;have hl:=hg.2;rw[Qp]at hl ⊢;exact(Rb.zs4 a A L.length c L now aa ab ao m ac T ad w hd (zlo hg.1) (by omega) ha hm hac hE).mono fun e w' he=>ybv he
theorem zvx(B:Nat)(v:Value)(L:List KV)(now:Int)(aa:Option Addr)(ab ao m ac:Nat)(T:List ByteArray)(w:World)(h:Fv w B v L)(hg:C3 (L.map KV.key))(ha:Fs w aa ab ao m T)(hm:m<=1000)(hac:m<=ac):
  Calls prog 15 #[v,.int .i64 now,.slice aa m ac] w (Ug w (Nj (L.map KV.key) now T)):=by
 have hl:=hg.2;rw[Qp]at hl;exact(zj3 B v L now aa ab ao m ac T w h hg.1.k hl ha hm hac).mono fun e w' he=>zy0 he
theorem zun(v v':Value)(ks:List Ke)(w:World)(h:DbR w v ks)(h':DbR w v' ks)(hk:Fm ks=true\/ks=[]):
  Calls prog 16 #[v,v'] w fun e w'=>e=.returned (.bool true)/\Bl w w':=by
 obtain⟨a,A,c,L,rfl,hd,rfl⟩:=h;obtain⟨a',A',c',L',rfl,Sz,Va⟩:=h';have hl:L'.length=L.length:=by rw[<-Qp (f:=KV.key),Va,Qp]
 have hs:L.length<=20/\∀i,i<L.length->Hu (L.getD i kv0).key:=by
  rcases hk with hk|hk
  ·obtain⟨k1,k2⟩:=T8 hk;rw[Qp]at k1;exact⟨k1,fun i hi=>We (k2 _ (List.mem_map.2 ⟨L.getD i kv0,by rw[Qa,Qd hi];exact Qv hi,rfl⟩))⟩
  ·have:L.length=0:=by rw[<-Qp (f:=KV.key),hk];rfl
   exact⟨by omega,fun i hi=>by omega⟩
 rw[hl]at Sz;rw[Qp];exact zxt a a' A A' L.length c c' L L' w hd Sz Va hs.2 (by omega)
theorem zjk(r r':Value)(R:List Rp)(w:World)(h:RpR w r R)(h':RpR w r' R)(hR:R=[]\/RpS R):
  Calls prog 17 #[r,r'] w fun e w'=>e=.returned (.bool true)/\Bl w w':=by
 obtain⟨a,g,c,rfl,hr⟩:=h;obtain⟨a',g',c',rfl,Sz⟩:=h';have hs:R.length<=41/\∀r∈R,r.kids.length<=41:=by
  rcases hR with rfl|⟨_,h2,h3⟩
  ·exact⟨by simp,fun r hr=>by cases hr⟩
  ·exact⟨h2,fun r hr=>(h3 r hr).1⟩
 refine(zqk a a' g g' c c' R w hr Sz (by omega) (fun r hr=>by have:=hs.2 r hr;omega)).mono ?_;rintro e w'⟨rfl,q,rfl⟩;exact⟨rfl,Hp.below_drewN w q⟩
theorem yhk(v:Value)(ks:List Ke)(now:Int)(w:World)(h:DbR w v ks)(hg:C3 ks)(hR:Ready w):
  Calls prog 19 #[v,.int .i64 now] w fun e w'=>∃v',e=.returned v'/\DbR w' v' (Ri.Cx now ks)/\Bl w w':=by
 obtain⟨a,A,c,L,rfl,hd,rfl⟩:=h;have hl:=hg.2;rw[Qp]at hl ⊢;refine(Ri.E9 a A L.length c L now w hd (zlo hg.1) (by omega) hR).mono ?_;rintro e w'⟨v',L',rfl,ho,hk,hb⟩;exact⟨v',rfl,by rw[<-hk];exact Il ho,hb⟩
theorem ype(v:Value)(ks:List Ke)(w:World)(h:DbR w v ks)(hg:C3 ks)(hR:Ready w):
  Calls prog 20 #[v] w fun e w'=>e=.returned (.bool (Fm ks))/\Bl w w':=by
 obtain⟨a,A,c,L,rfl,hd,rfl⟩:=h;have hl:=hg.2;rw[Qp]at hl ⊢;exact Ip a A L.length c L w hd (zlo hg.1) (by omega) hR
theorem zy2{ks:List Ke}(h:Fm ks=true)(now:Int):Ri.Cx now ks=Hb ks now:=by
 unfold Ri.Cx;rw[if_pos h,Rb.Id]
theorem yli(r:Value)(R:List Rp)(w:World)(h:RpR w r R)(hn:R.length<=41):Calls prog 18 #[r] w fun e w'=>e=.returned (.bool (Pl R))/\w'=w:=by
 obtain⟨a,g,c,rfl,hr⟩:=h;exact Ly a g c R w hr (by omega)
theorem zmx(ks:List Ke)(now:Int)(T:List ByteArray):(Tt ks now T=false/\Nj ks now T=([],[]))\/(Tt ks now T=true/\Fm ks=true/\(0<=now/\now<=1000000000)/\T.length<=16/\1<=T.length/\(∀i,i<T.length->(Fa T i).size<=200)/\Nj ks now T=Lc (Hb ks now) now T/\Left (Hb ks now) now (Lc (Hb ks now) now T)/\RpS (Lc (Hb ks now) now T).2):=by
 cases h:Tt ks now T with
 |false=>exact .inl ⟨rfl,by unfold Nj;rw[h,if_neg (by simp)]⟩
 |true=>
  have h0:=h;unfold Tt at h;simp only[Qh,decide_eq_true_eq]at h;obtain⟨h1,h2,h3,h4⟩:=h;unfold Lp at h2;simp only[Qh,decide_eq_true_eq]at h2;obtain⟨u1,u2⟩:=E6 h4;exact .inr ⟨rfl,h1,h2,u1,h3,u2,by unfold Nj;rw[h0,if_pos rfl],left_done (Rb.E7 h1 now) zw5 h2,yg8 (zn0 (T8 h1)) u2⟩
structure Pq (w1:World) (v:Value) (ks:List Ke) (now:Int) (aa:Option Addr) (ab ao m ac:Nat) (T:List ByteArray) (ad:Nat->Addr):Prop where
 own:∃B L,Fv w1 B v L/\L.map KV.key=ks
 good:C3 ks
 args:Fs w1 aa ab ao m T
 len:T.length=m
 few:m<=6
 cap:m<=ac
 env:Rb.Px w1 ad
theorem Pq.bw{ks:List Ke}{now:Int}(h:Pq w1 v ks now aa ab ao m ac T ad)(hb:Bl w1 W):Pq W v ks now aa ab ao m ac T ad:=by
 obtain⟨B,L,ho,hk⟩:=h.own;exact⟨⟨B,L,ho.bw hb,hk⟩,h.good,Lb h.args hb,h.len,h.few,h.cap,Ct h.env hb⟩
theorem Pq.db{ks:List Ke}{now:Int}(h:Pq w1 v ks now aa ab ao m ac T ad):DbR w1 v ks:=by
 obtain⟨B,L,ho,rfl⟩:=h.own;exact Il ho
theorem Pq.impl{ks:List Ke}{now:Int}(h:Pq w1 v ks now aa ab ao m ac T ad):
  Calls prog 14 #[v,.int .i64 now,.slice aa m ac] w1 (Ug w1 (Nj ks now T)):=
 znu v ks now aa ab ao m ac T ad w1 h.db h.good h.args (by have:=h.few;omega) h.cap h.env
theorem Pq.spec{ks:List Ke}{now:Int}(h:Pq w1 v ks now aa ab ao m ac T ad):
  Calls prog 15 #[v,.int .i64 now,.slice aa m ac] w1 (Ug w1 (Nj ks now T)):=by
 have hf:=h.few;have hg:=h.good;obtain⟨B,L,ho,rfl⟩:=h.own;exact zvx B v L now aa ab ao m ac T w1 ho hg h.args (by omega) h.cap
theorem zz0(a:Option Addr)(n c:Nat)(w:World)(hn:n<=9223372036854775807)(hb:BytesIn w a n w.heap.size)(ad:Nat->Addr)(hE:Rb.Px w ad):
  Calls prog 13 #[.slice a n c] w fun e w1=>∃v ks now aa ab ao m ac T,e=.returned (.tuple #[v,.int .i64 now,.slice aa m ac])/\Pq w1 v ks now aa ab ao m ac T ad/\Bl w w1:=by
 refine(ydt a n c w hn hb).mono ?_;rintro e w1⟨B,v,L,now,aa,ab,ao,ac,T,rfl,Va,Vd,Vf,Vb,Vc,Sz,Ve,b1⟩;exact⟨v,L.map KV.key,now,aa,ab,ao,T.length,ac,T,rfl,⟨⟨B,L,Va,rfl⟩,⟨Vd,by rw[Qp];omega⟩,Vb,rfl,Vc,Sz,Ct hE b1⟩,b1⟩
end Go.Proofs.YtokafonppgppdaaGreatDoor.Er
namespace Go.Proofs.YtokafonppgppdaaGreatDoor.Rs
open Tryz
open Go.RowKit Go.Sort
variable {α:Type} {w w':World} {a:Option Addr} {b off n base g cap:Nat} {ts:List (Int×Int)}
structure Nd where
 kind:Int
 num:Int
 s:ByteArray
 kids:List Int
def nd0:Nd:=⟨0,0,ByteArray.empty,[]⟩
def ynl (b:UInt8):Bool:=decide (32<=b.toNat/\b.toNat<=126)
def ynz (s:ByteArray):Bool:=decide (s.size<=200)&&s.data.toList.all ynl
def inB (n low high:Int):Bool:=decide (low<=n/\n<=high)
def ypd (n:Int):Bool:=inB n (-1000000000000000000) 1000000000000000000
def fieldsB (x:Nd):Bool:=
 if x.kind=1\/x.kind=2 then decide (x.num=0)&&ynz x.s&&decide (x.kids.length=0)
 else if x.kind=3 then ypd x.num&&decide (x.s.size=0)&&decide (x.kids.length=0)
 else if x.kind=4 then decide (x.num=0)&&decide (x.s.size<=200)&&decide (x.kids.length=0)
 else if x.kind=5 then decide (x.num=0)&&decide (x.s.size=0)&&decide (x.kids.length=0)
 else if x.kind=6 then decide (x.num=0)&&decide (x.s.size=0)
 else false
theorem yn8(g:α->Int)(l:List α):∀d,d<=l.foldl (fun d k=>max d (g k)) d:=by
 induction l with
 |nil=>intro d;exact Int.le_refl _
 |cons k l ih=>intro d;simp only[List.foldl_cons];have:=ih (max d (g k));omega
theorem ynv(g:α->Int)(B:Int)(l:List α)(hl:∀k∈l,g k<=B):∀d,d<=B->l.foldl (fun d k=>max d (g k)) d<=B:=by
 induction l with
 |nil=>intro d hd;exact hd
 |cons x l ih=>
  intro d hd;simp only[List.foldl_cons];exact ih (fun k hk=>hl k (by simp[hk])) _ (by have:=hl x (by simp);omega)
def ynw (i:Nat) (x:Nd) (ts:List (Int×Int)):Option (List (Int×Int)):=
 if fieldsB x=false then none
 else if (ts.length:Int)-x.kids.length<0 then none
 else if (ts.drop (ts.length-x.kids.length)).map Prod.fst≠x.kids then none
 else if 1+(ts.drop (ts.length-x.kids.length)).foldl (fun d t=>max d t.2) 0>4 then none
 else some (ts.take (ts.length-x.kids.length)++ [((i:Int),1+(ts.drop (ts.length-x.kids.length)).foldl (fun d t=>max d t.2) 0)])
def E8:List Nd->Nat->List (Int×Int)->Bool
 | [],_,ts=>decide (ts.length=1)
 |x::xs,i,ts=>match ynw i x ts with
  |none=>false
  |some ts'=>E8 xs (i+1) ts'
def yom (L:List Nd):Bool:=decide (1<=L.length/\L.length<=1000)&&E8 L 0 []
theorem R9{a b:Bool}(h:a=b):Ending.returned (.bool a)=.returned (.bool b):=by rw[h]
structure IntsIn (w:World) (a:Option Addr) (b off n:Nat) (zs:List Int):Prop where
 len:zs.length=n
 addr:0<n->a=some ⟨b,off,none⟩
 low:0<n->b<w.heap.size
 cell:∀i,i<n->w.cell? ⟨b,off+i,none⟩=some (.int .i64 (zs.getD i 0))
structure ypi (w:World) (b o:Nat) (x:Nd) (ak:Option Addr) (bk ok ck:Nat):Prop where
 c0:w.cell? ⟨b,o,none⟩=some (.int .i64 x.kind)
 c1:w.cell? ⟨b,o+1,none⟩=some (.int .i64 x.num)
 c2:w.cell? ⟨b,o+2,none⟩=some (.string x.s)
 c3:w.cell? ⟨b,o+3,none⟩=some (.slice ak x.kids.length ck)
 ints:IntsIn w ak bk ok x.kids.length x.kids
structure yor (w:World) (a:Option Addr) (b off n:Nat) (L:List Nd):Prop where
 len:L.length=n
 addr:0<n->a=some ⟨b,off,none⟩
 low:0<n->b<w.heap.size
 node:∀i,i<n->∃ak bk ok ck,ypi w b (off+i*4) (L.getD i nd0) ak bk ok ck
 fit:∀i,i<n->(L.getD i nd0).s.size<=9223372036854775807/\(L.getD i nd0).kids.length<=9223372036854775807
theorem ynk{zs:List Int}(h:IntsIn w a b off n zs)(hb:Bl w w'):IntsIn w' a b off n zs:=
 ⟨h.len,h.addr,fun h0=>by have:=h.low h0;have:=hb.size;omega,fun i hi=>(hb.cell (p:=⟨b,off+i,none⟩) (h.low (by omega))).trans (h.cell i hi)⟩
theorem yo2{o:Nat}{x:Nd}{ak:Option Addr}{bk ok ck:Nat}(h:ypi w b o x ak bk ok ck)(hl:b<w.heap.size)(hb:Bl w w'):ypi w' b o x ak bk ok ck:=
 ⟨(hb.cell (p:=⟨b,o,none⟩) hl).trans h.c0,(hb.cell (p:=⟨b,o+1,none⟩) hl).trans h.c1,(hb.cell (p:=⟨b,o+2,none⟩) hl).trans h.c2,(hb.cell (p:=⟨b,o+3,none⟩) hl).trans h.c3,ynk h.ints hb⟩
theorem yo1(s:ByteArray)(k:Nat)(h:k<s.size):(s.data.toList.take (k+1)).all ynl=((s.data.toList.take k).all ynl&&ynl s[k]):=by
 rw[Qo (by simpa using h),List.all_append];simp;rfl
theorem zi9(l:List UInt8)(k:Nat)(h:(l.take k).all ynl=false):l.all ynl=false:=by
 rw[<-List.take_append_drop k l,List.all_append,h,Q0]
theorem ynt(x:Nd)(h:x.kind=1\/x.kind=2):fieldsB x=(decide (x.num=0)&&ynz x.s&&decide (x.kids.length=0)):=by
 unfold fieldsB;rw[if_pos h]
theorem yol(x:Nd)(h:x.kind=3):fieldsB x=(ypd x.num&&decide (x.s.size=0)&&decide (x.kids.length=0)):=by
 unfold fieldsB;rw[if_neg (by omega),if_pos h]
theorem yof(x:Nd)(h:x.kind=4):fieldsB x=(decide (x.num=0)&&decide (x.s.size<=200)&&decide (x.kids.length=0)):=by
 unfold fieldsB;rw[if_neg (by omega),if_neg (by omega),if_pos h]
theorem yod(x:Nd)(h:x.kind=5):fieldsB x=(decide (x.num=0)&&decide (x.s.size=0)&&decide (x.kids.length=0)):=by
 unfold fieldsB;rw[if_neg (by omega),if_neg (by omega),if_neg (by omega),if_pos h]
theorem yn6(x:Nd)(h:x.kind=6):fieldsB x=(decide (x.num=0)&&decide (x.s.size=0)):=by
 unfold fieldsB;rw[if_neg (by omega),if_neg (by omega),if_neg (by omega),if_neg (by omega),if_pos h]
theorem yoc(x:Nd)(h1:x.kind≠1)(h2:x.kind≠2)(h3:x.kind≠3)(h4:x.kind≠4)(h5:x.kind≠5)(h6:x.kind≠6):fieldsB x=false:=by
 unfold fieldsB;rw[if_neg (by omega),if_neg h3,if_neg h4,if_neg h5,if_neg h6]
theorem emp(s:ByteArray):(s.toList.isEmpty)=decide (s.size=0):=by
 rw[Bool.eq_iff_iff];simp[ByteArray.toList_eq];exact⟨fun h=>ByteArray.ext h,fun h=>by rw[h];rfl⟩
theorem yo4(n:Nat):((n:Int)==0)=decide (n=0):=by
 rw[Bool.eq_iff_iff];simp
theorem ypk(n:Nat):decide ((n:Int)<=200)=decide (n<=200):=by
 rw[Bool.eq_iff_iff];simp;omega
theorem zvz(n:Int)(w:World):
  Calls prog 113 #[.int .i64 n] w fun e w'=>e=.returned (.bool (ypd n))/\w'=w:=by
 by_cases h:-1000000000000000000<=n
 ·go_enter func113,ntmps113;go_wp2;go_ret;exact⟨R9 (by simp[ypd,inB,h]),rfl⟩
 ·have hd:decide (-1000000000000000000<=n)=false:=by simpa using h
  go_enter func113,ntmps113;go_wp2;go_ret;exact⟨R9 (by simp[ypd,inB];omega),rfl⟩
theorem yos(s:ByteArray)(k:Nat)(h:k<s.size):s.data.toList.getD k 0=s[k]:=by
 rw[Qa,Qd (by simpa using h)];simp;rfl
theorem yob(y:UInt8)(w:World):
  Calls prog 157 #[.int .u8 y.toNat] w fun e w'=>e=.returned (.bool (ynl y))/\w'=w:=by
 by_cases h1:32<=y.toNat
 ·have hd:decide ((32:Int)<=(y.toNat:Int))=true:=by simp;omega
  go_enter func157,ntmps157;go_wp2;go_ret;exact⟨R9 (by unfold ynl;rw[Bool.eq_iff_iff];simp;omega),rfl⟩
 ·have hd:decide ((32:Int)<=(y.toNat:Int))=false:=by simp;omega
  go_enter func157,ntmps157;go_wp2;go_ret;exact⟨R9 (by unfold ynl;symm;simp;omega),rfl⟩
theorem yn3(s:ByteArray)(w:World)(hs:s.size<=9223372036854775807):
  Calls prog 112 #[.string s] w fun e w'=>e=.returned (.bool (ynz s))/\Bl w w':=by
 by_cases h200:(200:Int)<s.size
 ·go_enter func112,ntmps112;go_wp2;go_ret;exact⟨R9 (by rw[ynz,Qf (by omega),Q0]),Qb _ _⟩
 have Vc:=Lib.run_convert_string_bytes (P:=prog) w 9 22 5 s underlying9 underlying22 underlying5;have bb:Bl w (Lib.bytesWorld w 5 s):=⟨rfl,rfl,rfl,by rw[Lib.bytesWorld_size];omega,fun k hk=>Lib.bytesWorld_at_old w 5 s k hk⟩;have Sz:=fun j hj=>Lib.bytesWorld_cell w 5 s j hj;generalize Lib.bytesWorld w 5 s=wb,grownCap w s.size 0 5=cp at*;go_enter func112,ntmps112;go_wp2;go_loop [4,11] (fun _ i=>∃k:Nat,k<=s.size/\i=.int .i64 k/\(s.data.toList.take k).all ynl=true) (fun _ i=>s.size-(intOf i).toNat)
 case atStart=>exact⟨0,by omega,rfl,by simp⟩
 case round=>
  obtain⟨k,hk,rfl,Va⟩:=hrel;clear Vc;by_cases hlt:k<s.size
  ·have HA:Hid ((s.data.toList.take (k+1)).all ynl=ynl s[k]):=by unfold Hid;rw[yo1 s k hlt,Va,Qz]
   have hc:=Sz k hlt;rw[yos s k hlt]at hc;clear Va Sz;generalize s[k]=y at*;have HP:Hid (∀w,Cp 157 #[.int .u8 y.toNat] w fun e w'=>e=.returned (.bool (ynl y))/\w'=w):=fun w=>yob y w;cases hb:ynl y with
   |false=>
    rw[hb]at HP HA;go_wp2_with fail;refine(HP.out _).mono ?_;rintro e w1⟨rfl,rfl⟩;go_wp2;go_ret;have e1:=zi9 _ _ HA.out;exact⟨R9 (by rw[ynz,e1,Bool.and_false]),bb⟩
   |true=>
    rw[hb]at HP HA;go_wp2_with fail;refine(HP.out _).mono ?_;rintro e w1⟨rfl,Vb⟩;have Vd:=Vb.symm;clear Vb;subst Vd;go_wp2;go_round
    case rel=>exact⟨k+1,by omega,by go_num,HA.out⟩
    case measure=>simp[intOf]<;>omega
  ·have HA:Hid ((s.data.toList.take k).all ynl=true):=Va;clear Va Sz;go_wp2;go_ret;have e1:=HA.out;rw[List.take_of_length_le (by simp;omega)]at e1;exact⟨R9 (by rw[ynz,e1,Bool.and_true,Qe (by omega)]),bb⟩
theorem yoh(x:Nd)(ak:Option Addr)(ck:Nat)(w:World)(hs:x.s.size<=9223372036854775807)(_hk:x.kids.length<=1048576):
  Calls prog 62 #[.agg #[.int .i64 x.kind,.int .i64 x.num,.string x.s,.slice ak x.kids.length ck]] w fun e w'=>e=.returned (.bool (fieldsB x))/\Bl w w':=by
 go_enter func62,ntmps62;go_wp2;go_quiet ((fail));have bq:Bl w ((w.alloc (.cells #[.int .i64 x.kind,.int .i64 x.num,.string x.s,.slice ak x.kids.length ck] 40)).drewN nq):=below_drewN ((Qb _ _).alloc (Qc _) _) nq;have Vg:=bq.size;by_cases k1:x.kind=1
 ·have e1:(x.kind==1)=true:=by simp[k1]
  have HK:Hid (fieldsB x=_):=ynt x (.inl k1);clear k1;by_cases hN:x.num=0
  ·have Vb:(x.num==0)=true:=by simp[hN]
   have Sz:Hid (x.num=0):=hN;clear hN;by_cases hL:x.kids.length=0
   ·have Vd:((x.kids.length:Int)==0)=true:=by rw[yo4];simp[hL]
    have Va:Hid (x.kids.length=0):=hL;clear hL;go_wp2_with fail;refine(yn3 x.s _ hs).mono ?_;rintro e w1⟨rfl,b1⟩;have Vf:=bq.trans (b1.mono Vg);go_wp2;go_ret;exact⟨R9 (by rw[HK.out];simp[Sz.out,Va.out]),Vf⟩
   ·have Vd:((x.kids.length:Int)==0)=false:=by rw[yo4];simp[hL]
    have Va:Hid (¬x.kids.length=0):=hL;clear hL;go_wp2;go_ret;exact⟨R9 (by rw[HK.out];simp[Sz.out,Va.out]),bq⟩
  ·have Vb:(x.num==0)=false:=by simp[hN]
   have Sz:Hid (¬x.num=0):=hN;clear hN;go_wp2;go_ret;exact⟨R9 (by rw[HK.out];simp[Sz.out]),bq⟩
 have e1:(x.kind==1)=false:=by simp[k1]
 by_cases k2:x.kind=2
 ·have e2:(x.kind==2)=true:=by simp[k2]
  have HK:Hid (fieldsB x=_):=ynt x (.inr k2);clear k2;by_cases hN:x.num=0
  ·have Vb:(x.num==0)=true:=by simp[hN]
   have Sz:Hid (x.num=0):=hN;clear hN;by_cases hL:x.kids.length=0
   ·have Vd:((x.kids.length:Int)==0)=true:=by rw[yo4];simp[hL]
    have Va:Hid (x.kids.length=0):=hL;clear hL;go_wp2_with fail;refine(yn3 x.s _ hs).mono ?_;rintro e w1⟨rfl,b1⟩;have Vf:=bq.trans (b1.mono Vg);go_wp2;go_ret;exact⟨R9 (by rw[HK.out];simp[Sz.out,Va.out]),Vf⟩
   ·have Vd:((x.kids.length:Int)==0)=false:=by rw[yo4];simp[hL]
    have Va:Hid (¬x.kids.length=0):=hL;clear hL;go_wp2;go_ret;exact⟨R9 (by rw[HK.out];simp[Sz.out,Va.out]),bq⟩
  ·have Vb:(x.num==0)=false:=by simp[hN]
   have Sz:Hid (¬x.num=0):=hN;clear hN;go_wp2;go_ret;exact⟨R9 (by rw[HK.out];simp[Sz.out]),bq⟩
 have e2:(x.kind==2)=false:=by simp[k2]
 by_cases k3:x.kind=3
 ·have e3:(x.kind==3)=true:=by simp[k3]
  have HK:Hid (fieldsB x=_):=yol x k3;clear k3;by_cases hS:x.s.size=0
  ·have Ve:x.s.toList.isEmpty=true:=by rw[emp];simp[hS]
   have Vc:Hid (x.s.size=0):=hS;clear hS;by_cases hL:x.kids.length=0
   ·have Vd:((x.kids.length:Int)==0)=true:=by rw[yo4];simp[hL]
    have Va:Hid (x.kids.length=0):=hL;clear hL;go_wp2_with fail;refine(zvz x.num _).mono ?_;rintro e w1⟨rfl,Vi⟩;have Vh:=Vi.symm;subst Vh;go_wp2;go_ret;exact⟨R9 (by rw[HK.out];simp[Vc.out,Va.out]),bq⟩
   ·have Vd:((x.kids.length:Int)==0)=false:=by rw[yo4];simp[hL]
    have Va:Hid (¬x.kids.length=0):=hL;clear hL;go_wp2;go_ret;exact⟨R9 (by rw[HK.out];simp[Vc.out,Va.out]),bq⟩
  ·have Ve:x.s.toList.isEmpty=false:=by rw[emp];simp[hS]
   have Vc:Hid (¬x.s.size=0):=hS;clear hS;go_wp2;go_ret;exact⟨R9 (by rw[HK.out];simp[Vc.out]),bq⟩
 have e3:(x.kind==3)=false:=by simp[k3]
 by_cases k4:x.kind=4
 ·have e4:(x.kind==4)=true:=by simp[k4]
  have HK:Hid (fieldsB x=_):=yof x k4;clear k4;by_cases hN:x.num=0
  ·have Vb:(x.num==0)=true:=by simp[hN]
   have Sz:Hid (x.num=0):=hN;clear hN;by_cases hL:x.kids.length=0
   ·have Vd:((x.kids.length:Int)==0)=true:=by rw[yo4];simp[hL]
    have Va:Hid (x.kids.length=0):=hL;clear hL;go_wp2;go_ret;exact⟨R9 (by rw[HK.out];simp[Sz.out,Va.out,ypk]),bq⟩
   ·have Vd:((x.kids.length:Int)==0)=false:=by rw[yo4];simp[hL]
    have Va:Hid (¬x.kids.length=0):=hL;clear hL;go_wp2;go_ret;exact⟨R9 (by rw[HK.out];simp[Sz.out,Va.out]),bq⟩
  ·have Vb:(x.num==0)=false:=by simp[hN]
   have Sz:Hid (¬x.num=0):=hN;clear hN;go_wp2;go_ret;exact⟨R9 (by rw[HK.out];simp[Sz.out]),bq⟩
 have e4:(x.kind==4)=false:=by simp[k4]
 by_cases k5:x.kind=5
 ·have e5:(x.kind==5)=true:=by simp[k5]
  have HK:Hid (fieldsB x=_):=yod x k5;clear k5;by_cases hN:x.num=0
  ·have Vb:(x.num==0)=true:=by simp[hN]
   have Sz:Hid (x.num=0):=hN;clear hN;by_cases hS:x.s.size=0
   ·have Ve:x.s.toList.isEmpty=true:=by rw[emp];simp[hS]
    have Vc:Hid (x.s.size=0):=hS;clear hS;go_wp2;go_ret;exact⟨R9 (by rw[HK.out];simp[Sz.out,Vc.out,yo4]),bq⟩
   ·have Ve:x.s.toList.isEmpty=false:=by rw[emp];simp[hS]
    have Vc:Hid (¬x.s.size=0):=hS;clear hS;go_wp2;go_ret;exact⟨R9 (by rw[HK.out];simp[Sz.out,Vc.out]),bq⟩
  ·have Vb:(x.num==0)=false:=by simp[hN]
   have Sz:Hid (¬x.num=0):=hN;clear hN;go_wp2;go_ret;exact⟨R9 (by rw[HK.out];simp[Sz.out]),bq⟩
 have e5:(x.kind==5)=false:=by simp[k5]
 by_cases k6:x.kind=6
 ·have e6:(x.kind==6)=true:=by simp[k6]
  have HK:Hid (fieldsB x=_):=yn6 x k6;clear k6;by_cases hN:x.num=0
  ·have Vb:(x.num==0)=true:=by simp[hN]
   have Sz:Hid (x.num=0):=hN;clear hN;go_wp2;go_ret;exact⟨R9 (by rw[HK.out];simp[Sz.out,emp]),bq⟩
  ·have Vb:(x.num==0)=false:=by simp[hN]
   have Sz:Hid (¬x.num=0):=hN;clear hN;go_wp2;go_ret;exact⟨R9 (by rw[HK.out];simp[Sz.out]),bq⟩
 have e6:(x.kind==6)=false:=by simp[k6]
 have HK:Hid (fieldsB x=_):=yoc x k1 k2 k3 k4 k5 k6;clear k1 k2 k3 k4 k5 k6;go_wp2;go_ret;exact⟨R9 (by rw[HK.out]),bq⟩
structure ynn (w:World) (a:Option Addr) (b off n:Nat) (ts:List (Int×Int)):Prop where
 len:ts.length=n
 addr:0<n->a=some ⟨b,off,none⟩
 low:0<n->b<w.heap.size
 c0:∀i,i<n->w.cell? ⟨b,off+i*2,none⟩=some (.int .i64 (ts.getD i (0,0)).1)
 c1:∀i,i<n->w.cell? ⟨b,off+i*2+1,none⟩=some (.int .i64 (ts.getD i (0,0)).2)
theorem ynh(h:ynn w a b off n ts)(hb:Bl w w'):ynn w' a b off n ts:=
 ⟨h.len,h.addr,fun h0=>by have:=h.low h0;have:=hb.size;omega,fun i hi=>(hb.cell (p:=⟨b,off+i*2,none⟩) (h.low (by omega))).trans (h.c0 i hi),fun i hi=>(hb.cell (p:=⟨b,off+i*2+1,none⟩) (h.low (by omega))).trans (h.c1 i hi)⟩
theorem yon(ts:List (Int×Int))(ks:List Int)(k:Nat)(h1:k<ts.length)(h2:k<ks.length):((ts.take (k+1)).map Prod.fst=ks.take (k+1))↔((ts.take k).map Prod.fst=ks.take k/\(ts.getD k (0,0)).1=ks.getD k 0):=by
 rw[Qo h1,Qo h2,List.map_append,Qa,Qd h1,Qa,Qd h2];constructor
 ·intro h;have hl:((ts.take k).map Prod.fst).length=(ks.take k).length:=by simp;omega
  have:=List.append_inj h hl;simpa using this
 ·intro⟨a,b⟩;rw[a];show ks.take k++ [ts[k].1]=ks.take k++ [ks[k]];rw[show ts[k].1=ks[k] from by simpa using b]
theorem yoa(ts:List (Int×Int))(ks:List Int)(k:Nat)(h:¬(ts.take k).map Prod.fst=ks.take k):¬ts.map Prod.fst=ks:=by
 intro e;apply h;rw[<-e,List.map_take]
theorem yns(a:Option Addr)(b off n c:Nat)(ts:List (Int×Int))(a':Option Addr)(b' off' c':Nat)(ks:List Int)(w:World)(h:ynn w a b off n ts)(h':IntsIn w a' b' off' n ks)(hn:n<=1048576):
  Calls prog 63 #[.slice a n c,.slice a' n c'] w fun e w'=>e=.returned (.bool (decide (ts.map Prod.fst=ks)))/\Bl w w':=by
 go_enter func63,ntmps63;go_wp2;go_loopw [5,6,9] (fun _ _ i wr=>∃k:Nat,k<=n/\i=.int .i64 k/\(ts.take k).map Prod.fst=ks.take k/\Bl w wr) (fun _ _ i _=>n-(intOf i).toNat)
 case atStart=>exact⟨0,by omega,rfl,by simp,Qb _ _⟩
 case round=>
  obtain⟨k,hk,rfl,Sz,bk⟩:=hrel;have HE:Hid (_=_):=Sz;clear Sz;by_cases hlt:k<n
  ·obtain rfl:=h.addr (by omega);obtain rfl:=h'.addr (by omega);have c0:=(ynh h bk).c0 k hlt;have c1:=(ynh h bk).c1 k hlt;have Vb:=(ynk h' bk).cell k hlt;have Va:=(ynk h' bk).low (by omega);have HS:Hid (_↔_):=yon ts ks k (by rw[h.len];exact hlt) (by rw[h'.len];exact hlt);generalize ts.getD k (0,0)=t,ks.getD k 0=y at*;by_cases hy:t.1=y
   ·have hb:(t.1!=y)=false:=by simp[hy]
    have HY:Hid (t.1=y):=hy;clear hy;go_wp2;go_quiet ((fail));go_wp2;go_roundw
    case rel=>exact⟨k+1,by omega,by go_num,HS.out.2 ⟨HE.out,HY.out⟩,below_drewN (bk.alloc bk.size _) nq⟩
    case measure=>simp[intOf]<;>omega
   ·have hb:(t.1!=y)=true:=by simp[hy]
    have HY:Hid (¬t.1=y):=hy;clear hy;go_wp2;go_quiet ((fail));go_wp2;go_ret;exact⟨R9 (Qf (yoa ts ks (k+1) (fun hh=>HY.out (HS.out.1 hh).2))).symm,below_drewN (bk.alloc bk.size _) nq⟩
  ·obtain rfl:k=n:=by omega
   have e1:=HE.out;rw[List.take_of_length_le (by rw[h.len];exact Qc _),List.take_of_length_le (by rw[h'.len];exact Qc _)]at e1;have H1:Hid (_=_):=e1;clear e1;go_wp2;go_ret;exact⟨R9 (Qe H1.out).symm,bk⟩
def maxOf (ts:List (Int×Int)):Int:=ts.foldl (fun d t=>max d t.2) 0
theorem yo9(ts:List (Int×Int))(k:Nat)(h:k<ts.length):maxOf (ts.take (k+1))=max (maxOf (ts.take k)) (ts.getD k (0,0)).2:=by
 unfold maxOf;rw[Qo h,List.foldl_append,Qa,Qd h];rfl
theorem ynu(a:Option Addr)(b off n c:Nat)(ts:List (Int×Int))(w:World)(h:ynn w a b off n ts)(hn:n<=1048576):
  Calls prog 64 #[.slice a n c] w fun e w'=>e=.returned (.int .i64 (maxOf ts))/\Bl w w':=by
 go_enter func64,ntmps64;go_wp2;go_loopw [3,5,8] (fun d _ i wr=>∃(k:Nat) (z:Int),k<=n/\i=.int .i64 k/\d=.int .i64 z/\z=maxOf (ts.take k)/\Bl w wr) (fun _ _ i _=>n-(intOf i).toNat)
 case atStart=>exact⟨0,0,by omega,rfl,rfl,rfl,Qb _ _⟩
 case round=>
  obtain⟨k,z,hk,rfl,rfl,hz,bk⟩:=hrel;have HZ:Hid (_=_):=hz;clear hz;by_cases hlt:k<n
  ·obtain rfl:=h.addr (by omega);have c0:=(ynh h bk).c0 k hlt;have c1:=(ynh h bk).c1 k hlt;have HS:Hid (_=_):=yo9 ts k (by rw[h.len];exact hlt);generalize ts.getD k (0,0)=t at*;go_wp2;go_roundw
   case rel=>
    refine⟨k+1,max z t.2,by omega,by go_num,rfl,?_,bk.alloc bk.size _⟩;rw[HS.out,<-HZ.out]
   case measure=>simp[intOf]<;>omega
  ·obtain rfl:k=n:=by omega
   have e1:=HZ.out;rw[List.take_of_length_le (by rw[h.len];exact Qc _)]at e1;have H1:Hid (_=_):=e1;clear e1;go_wp2;go_ret;exact⟨Pm H1.out,bk⟩
def Ij (ts:List (Int×Int)):List Value:=ts.flatMap fun t=> [.int .i64 t.1,.int .i64 t.2]
theorem yn2(ts:List (Int×Int)):(Ij ts).length=ts.length*2:=by
 induction ts with
 |nil=>rfl
 |cons t ts ih=>simp[Ij]at ih ⊢;omega
theorem yn5(ts:List (Int×Int)):∀i,i<ts.length->(Ij ts)[i*2]?=some (.int .i64 (ts.getD i (0,0)).1)/\(Ij ts)[i*2+1]?=some (.int .i64 (ts.getD i (0,0)).2):=by
 induction ts with
 |nil=>intro i hi;simp at hi
 |cons t ts ih=>
  intro i hi;have e:Ij (t::ts)=.int .i64 t.1::.int .i64 t.2::Ij ts:=rfl;rw[e];cases i with
  |zero=>simp
  |succ i=>
   have:=ih i (by simp at hi;omega);rw[show(i+1)*2=i*2+1+1 from by omega];simpa using this
theorem yno(a b:List (Int×Int)):Ij (a++b)=Ij a++Ij b:=by simp[Ij]
theorem yn1(h:w.ownsRow base 92 2 (.slice (some ⟨g,0,none⟩) ts.length cap) ts.length (Ij ts))(f:Nat)(hf:f<=ts.length)(c:Nat)(hc:c=f*2):
  ynn w (some ⟨g,c,none⟩) g c (ts.length-f) (ts.drop f):=by
 subst hc;obtain⟨_,h2⟩:=h;rcases h2 with⟨h0,_⟩|⟨g',cap',cur,hv,hb,hg,hn,hcap,hsz,htake⟩
 ·cases h0
 ·cases hv;have Sz:∀j v,(Ij ts)[j]?=some v->w.cell? ⟨g,j,none⟩=some v:=by
   intro j v hj;rw[Lib.cell_of_heap hg];rw[<-htake,List.getElem?_take]at hj;split at hj
   ·simpa using hj
   ·cases hj
  have Va:∀i,i<ts.length-f->(ts.drop f).getD i (0,0)=ts.getD (f+i) (0,0):=fun i hi=>by simp[List.getD]
  refine⟨by simp,fun _=>rfl,fun _=>(Array.getElem?_eq_some_iff.1 hg).1,fun i hi=>?_,fun i hi=>?_⟩
  ·rw[Va i hi,show f*2+i*2=(f+i)*2 from by omega];exact Sz _ _ (yn5 ts (f+i) (by omega)).1
  ·rw[Va i hi,show f*2+i*2+1=(f+i)*2+1 from by omega];exact Sz _ _ (yn5 ts (f+i) (by omega)).2
theorem yow(h:w.ownsRow base 92 2 (.slice (some ⟨g,0,none⟩) ts.length cap) ts.length (Ij ts))(f:Nat)(hf:f<=ts.length):
  w.ownsRow base 92 2 (.slice (some ⟨g,0,none⟩) f cap) f (Ij (ts.take f)):=by
 obtain⟨_,h2⟩:=h;rcases h2 with⟨h0,_⟩|⟨g',cap',cur,hv,hb,hg,hn,hcap,hsz,htake⟩
 ·cases h0
 ·cases hv;have e:Ij ts=Ij (ts.take f)++Ij (ts.drop f):=by rw[<-yno,List.take_append_drop]
  have hl:(Ij (ts.take f)).length=f*2:=by rw[yn2,Qn,Nat.min_eq_left hf]
  refine⟨hl,.inr ⟨g,cap,cur,rfl,hb,hg,by omega,hcap,hsz,?_⟩⟩;have h3:(cur.toList.take (ts.length*2)).take (f*2)=(Ij ts).take (f*2):=by rw[htake]
  rw[List.take_take,Nat.min_eq_left (by omega)]at h3;rw[h3,e,<-hl,List.take_left]
theorem yoy(x:Nd)(xs:List Nd)(k:Nat)(ts:List (Int×Int))(hL:(ts.length:Int)-x.kids.length<0):E8 (x::xs) k ts=false:=by
 simp only[E8,ynw];by_cases hF:fieldsB x=false
 ·rw[if_pos hF]
 ·rw[if_neg hF,if_pos hL]
theorem yn0(x:Nd)(xs:List Nd)(k:Nat)(ts:List (Int×Int))(hF:fieldsB x=false):E8 (x::xs) k ts=false:=by
 simp only[E8,ynw];rw[if_pos hF]
theorem yo5(x:Nd)(xs:List Nd)(k f:Nat)(ts:List (Int×Int))(hF:fieldsB x=true)(hL:ts.length=f+x.kids.length)(hK:¬(ts.drop f).map Prod.fst=x.kids):E8 (x::xs) k ts=false:=by
 have e:ts.length-x.kids.length=f:=by omega
 simp only[E8,ynw,e];rw[if_neg (by rw[hF];simp),if_neg (by omega),if_pos hK]
theorem ypa(x:Nd)(xs:List Nd)(k f:Nat)(ts:List (Int×Int))(hF:fieldsB x=true)(hL:ts.length=f+x.kids.length)(hK:(ts.drop f).map Prod.fst=x.kids)(hd:4<1+maxOf (ts.drop f)):E8 (x::xs) k ts=false:=by
 have e:ts.length-x.kids.length=f:=by omega
 unfold maxOf at hd;simp only[E8,ynw,e];rw[if_neg (by rw[hF];simp),if_neg (by omega),if_neg (by rw[hK];simp),if_pos hd]
theorem yoi(x:Nd)(xs:List Nd)(k f:Nat)(ts:List (Int×Int))(hF:fieldsB x=true)(hL:ts.length=f+x.kids.length)(hK:(ts.drop f).map Prod.fst=x.kids)(hd:¬4<1+maxOf (ts.drop f)):
  E8 (x::xs) k ts=E8 xs (k+1) (ts.take f++ [((k:Int),1+maxOf (ts.drop f))]):=by
 have e:ts.length-x.kids.length=f:=by omega
 unfold maxOf at hd ⊢;simp only[E8,ynw,e];rw[if_neg (by rw[hF];simp),if_neg (by omega),if_neg (by rw[hK];simp),if_neg hd]
theorem yn9(ts:List (Int×Int))(h:∀t∈ts,t.2<=4):0<=maxOf ts/\maxOf ts<=4:=
 ⟨yn8 (fun t:Int×Int=>t.2) ts 0,ynv (fun t:Int×Int=>t.2) 4 ts h 0 (by omega)⟩
theorem ypf:(prog.info? 92).map (fun i=> (i.zero,i.size,i.bytes))=some (some (.agg #[.int .i64 0,.int .i64 0]),2,16):=by kernel_rfl
theorem zw0(a:Option Addr)(b off n c:Nat)(L:List Nd)(w:World)(h:yor w a b off n L)(hk:∀i,i<n->(L.getD i nd0).kids.length<=1048576)(h1:1<=n)(h2:n<=1000):
  Calls prog 21 #[.slice a n c] w fun e w'=>e=.returned (.bool (yom L))/\Bl w w':=by
 obtain⟨i0,hi,Vw,Xa,Vy⟩:=info_parts ypf;have hd:((n:Int)==0)=false:=by simp;omega
 have Xl:decide ((1000:Int)<n)=false:=by simp;omega
 have HI:Hid (yom L=E8 L 0 []):=by unfold Hid;rw[yom,h.len,Qe ⟨h1,h2⟩,Qz]
 go_enter func21,ntmps21;go_wp2_with fail;go_loopw [3,18] (fun tr i wr=>∃(k:Nat) (ts:List (Int×Int)),k<=n/\i=.int .i64 k/\wr.ownsRow w.heap.size 92 2 tr ts.length (Ij ts)/\ts.length<=k/\E8 L 0 []=E8 (L.drop k) k ts/\(∀t∈ts,t.2<=4)/\Bl w wr) (fun _ i _=>n-(intOf i).toNat)
 case atStart=>exact⟨0,[],by omega,rfl,World.ownsRow_nil _ _ _ _,by simp,rfl,(fun t ht=>by cases ht),Qb _ _⟩
 case round=>
  obtain⟨k,ts,Xk,rfl,Va,Xf,Vj,h4,bk⟩:=hrel;have HR:Hid (_=_):=Vj;have H4:Hid (∀t∈ts,t.2<=4):=h4;clear Vj h4;by_cases hlt:k<n
  ·obtain rfl:=h.addr (by omega);obtain⟨ak,Xb,ok,ck,Vt⟩:=h.node k hlt;have hm:=yo2 Vt (h.low (by omega)) bk;have c0:=hm.c0;have c1:=hm.c1;have c2:=hm.c2;have c3:=hm.c3;have Vb:=hm.ints;have Vo:=hk k hlt;have Vx:=(h.fit k hlt).1;have HX:Hid (L.drop k=L.getD k nd0::L.drop (k+1)):=by
    unfold Hid;rw[List.drop_eq_getElem_cons (by rw[h.len];exact hlt),Qa,Qd (by rw[h.len];exact hlt)];rfl
   clear Vt hm;generalize L.getD k nd0=x at*;have bA:Bl wr (wr.alloc (.cells #[.int .i64 x.kind,.int .i64 x.num,.string x.s,.slice ak x.kids.length ck] 40)):=(Qb _ _).alloc (Qc _) _;rcases Va.2 with⟨rfl,hts0⟩|⟨g,cap,cur,rfl,hbg,_,hcl,_⟩
   ·obtain rfl:ts=[]:=List.length_eq_zero_iff.1 hts0;go_wp2_with fail;refine(yoh x ak ck _ Vx Vo).mono ?_;rintro e w1⟨rfl,b1⟩;have r1:=(Fc.new wr 40 #[.int .i64 x.kind,.int .i64 x.num,.string x.s,.slice ak x.kids.length ck]).bw b1 (by simp);have Vc:=bA.trans (b1.mono bA.size);have d3:=r1.cell 3;simp at d3;have Sz:=ynk Vb Vc;have s1:wr.heap.size<w1.heap.size:=r1.lt;have Vg:=bk.trans (Vc.mono bk.size);have sk:=bk.size;clear c0 c1 c2 c3 Vb Va bA b1;cases hfb:fieldsB x with
    |false=>
     have HF:Hid (fieldsB x=false):=hfb;clear hfb;go_wp2;go_ret;exact⟨R9 (by rw[HI.out,HR.out,HX.out,yn0 _ _ _ _ HF.out]),Vg⟩
    |true=>
     have HF:Hid (fieldsB x=true):=hfb;clear hfb;by_cases hkl:x.kids.length=0
     ·have Vp:Hid (x.kids=[]):=List.length_eq_zero_iff.1 hkl;clear r1;rw[hkl]at d3 Sz ⊢;have hT:ynn w1 none 0 0 0 []:=⟨rfl,fun h=>by omega,fun h=>by omega,fun i hi=>by omega,fun i hi=>by omega⟩;have k3:=cell_regrown d3;have cK:∀d os,Calls prog 63 #[.slice none 0 0,.slice ak 0 ck] (grow (redrawn w1 d) os) fun e w''=>e=.returned (.bool true)/\∃p:Regrown,w''=grow (redrawn w1 p.d) p.os:=fun d os=>by
       have:=yns none 0 0 0 0 [] ak Xb ok ck x.kids _ (ynh hT (below_regrown w1 d os)) (ynk Sz (below_regrown w1 d os)) (by omega);rw[Vp.out]at this;exact Calls.regrown_of this
      clear hkl;go_wp2;refine wp_region_quiet_below (by kernel_rfl) (by kernel_rfl) ?_;repeat(quiet_step (first|exact cK _ _))
      refine wpQuiet_nil ?_;intro _ hw';obtain⟨⟨dq,Vk⟩,Vf⟩:=hw';subst Vf;have bq:=below_regrown w1 dq Vk;have Vm:=ynh hT bq;have sq:=bq.size;generalize grow (redrawn w1 dq) Vk=wq at*;have Vh:=Vg.trans (bq.mono (by omega));clear cK k3 d3 Sz hT bq Vc;go_wp2_with fail;refine(ynu none 0 0 0 0 [] wq Vm (by omega)).mono ?_;rintro e w3⟨rfl,b3⟩;have Vi:=Vh.trans (b3.mono (by omega));have s3:=b3.size;rw[show maxOf []=0 from rfl];have H5:Hid (_=_):=yoi x (L.drop (k+1)) k 0 [] HF.out (by rw[Vp.out];rfl) (by rw[Vp.out];rfl) (by decide);clear Vm b3 Vh;go_wp2_with (at_builtin;refine wpList_append_own _ rfl _ _ 87 rfl w.heap.size 92 i0 _ 2 16 underlying87 hi Vw Xa Vy rfl (by decide) _ _ _ rfl (World.ownsRow_nil _ _ _ _) ⟨w3.heap.size,0,none⟩ 1 1 [.int .i64 k,.int .i64 1] rfl rfl ?c1 ?c2 ?c3 ?c4 ?c5 ?_)
      case c1=>exact cell_two_new _ _ _ _
      case c2=>intro u hu;simp at hu;rcases hu with rfl|rfl<;>rfl
      case c3=>unfold maxLen;omega
      case c4=>omega
      case c5=>simp;omega
      intro v' w5 hown' hgrow _;have Vq:=(Vi.alloc (by omega) _).grown hgrow (by simp;omega) (fun q hq=>by simp[Value.ownBlock]at hq);have HO:Hid (w5.ownsRow w.heap.size 92 2 v' [((k:Int),(1:Int))].length (Ij [((k:Int),(1:Int))])):=hown';clear hown' hgrow Vi;go_wp2;go_roundw
      case rel=>
       refine⟨k+1,[((k:Int),(1:Int))],by omega,by go_num,HO.out,by simp,by rw[HR.out,HX.out,H5.out];rfl,?_,Vq⟩;intro t ht;simp at ht;subst ht;show(1:Int)<=4;omega
      case measure=>simp[intOf]<;>omega
     ·have Ve:0<x.kids.length:=by omega
      have HN:Hid (E8 (x::L.drop (k+1)) k []=false):=yoy _ _ _ _ (by simp;omega);clear hkl;go_wp2;go_quiet ((fail));go_wp2;go_ret;exact⟨R9 (by rw[HI.out,HR.out,HX.out,HN.out]),below_drewN Vg nq⟩
   have HC:Hid (ts.length<=cap):=hcl;clear hcl;go_wp2_with fail;refine(yoh x ak ck _ Vx Vo).mono ?_;rintro e w1⟨rfl,b1⟩;have r1:=(Fc.new wr 40 #[.int .i64 x.kind,.int .i64 x.num,.string x.s,.slice ak x.kids.length ck]).bw b1 (by simp);have Vc:=bA.trans (b1.mono bA.size);have Vd:=Va.kept (row:=none) ⟨Vc.os,Vc.tape,Vc.output,Vc.size,fun j hj _=>Vc.block j hj⟩ (.inr (by simp[Value.ownBlock]));have d3:=r1.cell 3;simp at d3;have Sz:=ynk Vb Vc;have s1:wr.heap.size<w1.heap.size:=r1.lt;have Vg:=bk.trans (Vc.mono bk.size);clear c0 c1 c2 c3 Vb Va bA b1;cases hfb:fieldsB x with
   |false=>
    have HF:Hid (fieldsB x=false):=hfb;clear hfb;go_wp2;go_ret;exact⟨R9 (by rw[HI.out,HR.out,HX.out,yn0 _ _ _ _ HF.out]),Vg⟩
   |true=>
    have HF:Hid (fieldsB x=true):=hfb;clear hfb;by_cases Ve:(ts.length:Int)-x.kids.length<0
    ·have HN:Hid (E8 (x::L.drop (k+1)) k ts=false):=yoy _ _ _ _ Ve;go_wp2;go_quiet ((fail));go_wp2;go_ret;exact⟨R9 (by rw[HI.out,HR.out,HX.out,HN.out]),below_drewN Vg nq⟩
    ·obtain⟨f,hf⟩:∃f,ts.length=f+x.kids.length:=⟨ts.length-x.kids.length,by omega⟩;have HL:Hid (ts.length=f+x.kids.length):=hf;rw[hf]at HC;have hT:=yn1 Vd f (by omega) (f*2) rfl;have hO:=yow Vd f (by omega);rw[hf]at hT Xf ⊢;rw[show f+x.kids.length-f=x.kids.length from by omega]at hT;clear Vd hf Ve;have Xm:decide ((f:Int)<0)=false:=by simp
     have k3:=cell_regrown d3;have Xh:(f:Int)<=(f:Int)+x.kids.length:=by omega
     have Vv:f+x.kids.length<=cap:=by
      rcases hO.2 with⟨h0,_⟩|⟨g',cap',cur',hv,_,_,hn',_⟩
      ·cases h0
      ·cases hv;have:=HC.out;omega
     have Xi:(f:Int)<=(cap:Int):=by omega
     obtain⟨av,Xj,hT⟩:∃av,(if cap=f then some ⟨g,0,none⟩ else some ⟨g,f*2,none⟩:Option Addr)=av/\ynn w1 av g (f*2) x.kids.length (ts.drop f):=
      ⟨_,rfl,hT.len,fun h0=>by rw[if_neg (by omega)],hT.low,hT.c0,hT.c1⟩
     obtain⟨bb,Vr⟩:∃bb,decide ((ts.drop f).map Prod.fst=x.kids)=bb:=⟨_,rfl⟩;have cK:∀d os,Calls prog 63 #[.slice av x.kids.length (cap-f),.slice ak x.kids.length ck] (grow (redrawn w1 d) os) fun e w''=>e=.returned (.bool bb)/\∃p:Regrown,w''=grow (redrawn w1 p.d) p.os:=fun d os=>by
      rw[<-Vr];exact Calls.regrown_of (yns av g (f*2) x.kids.length (cap-f) (ts.drop f) ak Xb ok ck x.kids _ (ynh hT (below_regrown w1 d os)) (ynk Sz (below_regrown w1 d os)) Vo)
     have Vu:Hid (decide ((ts.drop f).map Prod.fst=x.kids)=bb):=Vr;clear Vr;go_wp2;refine wp_region_quiet_below (by kernel_rfl) (by kernel_rfl) ?_;repeat(quiet_step (first|exact cK _ _))
     refine wpQuiet_nil ?_;intro _ hw';obtain⟨⟨dq,Vk⟩,Vf⟩:=hw';subst Vf;have bq:=below_regrown w1 dq Vk;have r2:=r1.bw bq r1.lt;have Vm:=ynh hT bq;have Vz:=hO.kept (row:=none) ⟨bq.os,bq.tape,bq.output,bq.size,fun j hj _=>bq.block j hj⟩ (.inr (by simp[Value.ownBlock]));have sq:=bq.size;generalize grow (redrawn w1 dq) Vk=wq at*;have Vh:=Vg.trans (bq.mono (by have:=bk.size;omega));clear cK k3 d3 Sz hO hT r1 bq Vc;cases bb with
     |true=>
      have Vn:Hid ((ts.drop f).map Prod.fst=x.kids):=(Qg Vu.out:(ts.drop f).map Prod.fst=x.kids);go_wp2_with fail;refine(ynu av g (f*2) x.kids.length (cap-f) (ts.drop f) wq Vm Vo).mono ?_;rintro e w3⟨rfl,b3⟩;have Vs:=Vz.kept (row:=none) ⟨b3.os,b3.tape,b3.output,b3.size,fun j hj _=>b3.block j hj⟩ (.inr (by simp[Value.ownBlock]));have Xd:=yn9 (ts.drop f) (fun t ht=>H4.out t (List.mem_of_mem_drop ht));have s3:=b3.size;have Vi:=Vh.trans (b3.mono (by have:=bk.size;omega));have sk:=bk.size;have Xc:Hid (4<1+maxOf (ts.drop f)->E8 (x::L.drop (k+1)) k ts=false):=fun hh=>ypa x _ k f ts HF.out HL.out Vn.out hh;have Xe:Hid (¬4<1+maxOf (ts.drop f)->E8 (x::L.drop (k+1)) k ts=E8 (L.drop (k+1)) (k+1) (ts.take f++ [((k:Int),1+maxOf (ts.drop f))])):=fun hh=>yoi x _ k f ts HF.out HL.out Vn.out hh;generalize maxOf (ts.drop f)=d at*;obtain⟨Xn,Xg⟩:=Xd;clear Vm Vz r2 b3 Vh;by_cases hd4:4<1+d
      ·have H5:Hid (_=_):=Xc.out hd4;go_wp2;go_ret;exact⟨R9 (by rw[HI.out,HR.out,HX.out,H5.out]),Vi⟩
      ·have H5:Hid (_=_):=Xe.out hd4;go_wp2_with (at_builtin;refine wpList_append_own _ rfl _ _ 87 rfl w.heap.size 92 i0 _ 2 16 underlying87 hi Vw Xa Vy rfl (by decide) _ _ _ rfl (Vs.alloc _) ⟨w3.heap.size,0,none⟩ 1 1 [.int .i64 k,.int .i64 (1+d)] rfl rfl ?c1 ?c2 ?c3 ?c4 ?c5 ?_)
       case c1=>exact cell_two_new _ _ _ _
       case c2=>intro u hu;simp at hu;rcases hu with rfl|rfl<;>rfl
       case c3=>unfold maxLen;omega
       case c4=>omega
       case c5=>simp;omega
       intro v' w5 hown' hgrow _;have Vq:=(Vi.alloc (by omega) _).grown hgrow (by simp;omega) (fun q hq=>by simp[Value.ownBlock]at hq;omega);have HO:Hid (w5.ownsRow w.heap.size 92 2 v' (ts.take f++ [((k:Int),1+d)]).length (Ij (ts.take f++ [((k:Int),1+d)]))):=by
        unfold Hid;rw[yno,Qi,Qn,HL.out,Nat.min_eq_left (by omega)];exact hown'
       clear hown' hgrow Vs Vi;go_wp2;go_roundw
       case rel=>
        refine⟨k+1,ts.take f++ [((k:Int),1+d)],by omega,by go_num,HO.out,by rw[Qi,Qn];simp;omega,by rw[HR.out,HX.out,H5.out],?_,Vq⟩;intro t ht;rcases List.mem_append.1 ht with ht|ht
        ·exact H4.out t (List.mem_of_mem_take ht)
        ·simp at ht;subst ht;show 1+d<=4;omega
       case measure=>simp[intOf]<;>omega
     |false=>
      have Vn:Hid (¬(ts.drop f).map Prod.fst=x.kids):=(of_decide_eq_false Vu.out:¬(ts.drop f).map Prod.fst=x.kids);go_wp2;go_ret;exact⟨R9 (by rw[HI.out,HR.out,HX.out,yo5 x _ k f ts HF.out HL.out Vn.out]),Vh⟩
  ·obtain rfl:k=n:=by omega
   have HE:Hid (E8 (L.drop k) k ts=decide (ts.length=1)):=by
    unfold Hid;rw[List.drop_eq_nil_of_le (by rw[h.len];exact Qc _)];rfl
   rcases Va.2 with⟨rfl,hts0⟩|⟨g,cap,cur,rfl,_⟩
   ·have HZ:Hid (ts.length=0):=hts0;clear hts0 Va;go_wp2;go_ret;exact⟨R9 (by rw[HI.out,HR.out,HE.out,HZ.out];rfl),bk⟩
   ·clear Va;go_wp2;go_ret;exact⟨R9 (by rw[HI.out,HR.out,HE.out,Bool.eq_iff_iff];simp;omega),bk⟩
end Go.Proofs.YtokafonppgppdaaGreatDoor.Rs
namespace Go.Proofs.YtokafonppgppdaaGreatDoor.Er
open Tryz
open Go.RowKit Go.Sort
variable {n now:Int} {s:ByteArray} {T:List ByteArray} {k:Ke} {R:List Rp} {c:Cm} {th:Bool}
def yox (r:Rp):Rs.Nd:=⟨r.kind,r.n,r.s,r.kids.map fun (k:Nat)=> (k:Int)⟩
def RpG (R:List Rp):Prop:=Rs.yom (R.map yox)=true/\∀r∈R,r.s.size<=1000
theorem yn4{i:Nat}{x:Rs.Nd}{ts:List (Int×Int)}(hf:Rs.fieldsB x=true)(hk:x.kids=[]):Rs.ynw i x ts=some (ts++ [((i:Int),1)]):=by
 unfold Rs.ynw;rw[if_neg (by rw[hf];simp),hk];simp
theorem ynp{k:Int}(h:Rs.fieldsB ⟨k,n,s,[]⟩=true)(hs:s.size<=1000):RpG [⟨k,n,s,[]⟩]:=by
 refine⟨?_,fun r hr=>by rw[List.mem_singleton]at hr;subst hr;exact hs⟩;unfold Rs.yom;rw[List.map_cons,List.map_nil,Rs.E8,show yox ⟨k,n,s,[]⟩=⟨k,n,s,[]⟩ from rfl,yn4 h rfl];rfl
theorem ynm(h0:-1000000000000000000<=n)(h1:n<=1000000000000000000):RpG (Fe n):=by
 refine ynp ?_ (by decide);unfold Rs.fieldsB Rs.ypd Rs.inB;simp[h0,h1];rfl
theorem ynr(h:s.size<=200):RpG (Fy s):=by
 refine ynp ?_ (by omega);unfold Rs.fieldsB;simp[h]
theorem yoj:RpG G7:=ynp (by decide) (by decide)
theorem yo8:RpG (Fl F3):=ynp (by decide+kernel) (by decide+kernel)
theorem ypj:RpG (Fl On):=ynp (by decide+kernel) (by decide+kernel)
theorem ypo:RpG (Fl M9):=ynp (by decide+kernel) (by decide+kernel)
theorem ypm:RpG (Fl Rq):=ynp (by decide+kernel) (by decide+kernel)
theorem ypg:RpG (Fl My):=ynp (by decide+kernel) (by decide+kernel)
theorem ypl:RpG (Fl Pz):=ynp (by decide+kernel) (by decide+kernel)
theorem ypn:RpG (Fl Pk):=ynp (by decide+kernel) (by decide+kernel)
theorem ypb:RpG R6:=ynp (by decide+kernel) (by decide+kernel)
theorem ypp:RpG (Hd sOK):=ynp (by decide+kernel) (by decide+kernel)
theorem yph:RpG (Hd T9):=ynp (by decide+kernel) (by decide+kernel)
theorem ypr:RpG (Fe 0):=ynm (by decide) (by decide)
theorem ypq:RpG (Fe 1):=ynm (by decide) (by decide)
theorem ynx:∀(T:List ByteArray) (xs:List Rs.Nd) (i:Nat) (ts:List (Int×Int)),(∀t∈T,t.size<=200)->Rs.E8 (T.map (fun t=> (⟨4,0,t,[]⟩:Rs.Nd))++xs) i ts=Rs.E8 xs (i+T.length) (ts++(List.range' i T.length).map fun(j:Nat)=> ((j:Int),(1:Int)))
 | [],xs,i,ts,_=>by simp
 |t::T,xs,i,ts,h=>by
  have hf:Rs.fieldsB ⟨4,0,t,[]⟩=true:=by
   unfold Rs.fieldsB;simp[h t (by simp)]
  rw[List.map_cons,List.cons_append,Rs.E8,yn4 hf rfl];show Rs.E8 _ (i+1) _=_;rw[ynx T xs (i+1) _ (fun t ht=>h t (List.mem_cons_of_mem _ ht)),Q1,List.range'_succ,List.map_cons,List.append_assoc,List.singleton_append];congr 1;omega
theorem yo0(l:List Nat):∀d:Int,d<=1->(l.map fun(j:Nat)=>((j:Int),(1:Int))).foldl (fun d t=>max d t.2) d<=1:=by
 induction l with
 |nil=>intro d h;exact h
 |cons x l ih=>intro d h;rw[List.map_cons,List.foldl_cons];exact ih _ (by show max d 1<=1;omega)
theorem yog(hl:T.length<=40)(h:∀t∈T,t.size<=200):RpG (He T):=by
 refine⟨?_,fun r hr=>?_⟩
 ·unfold He Rs.yom;rw[List.map_append,List.map_map];have e:(yox ∘ fun t=>(⟨4,0,t,[]⟩:Rp))=fun t=>(⟨4,0,t,[]⟩:Rs.Nd):=rfl;rw[e,List.map_cons,List.map_nil,ynx _ _ _ _ h,Qh];refine⟨by simp;omega,?_⟩;rw[List.nil_append,Rs.E8];have e2:yox ⟨6,0,⟨#[]⟩,List.range T.length⟩=⟨6,0,⟨#[]⟩,(List.range T.length).map fun(k:Nat)=>(k:Int)⟩:=rfl;rw[e2,<-List.range_eq_range'];have hm:=yo0 (List.range T.length) 0 (by omega);have hs:Rs.ynw (0+T.length) ⟨6,0,⟨#[]⟩,(List.range T.length).map fun(k:Nat)=>(k:Int)⟩ ((List.range T.length).map fun(j:Nat)=>((j:Int),(1:Int)))=some [(((0+T.length:Nat):Int),1+((List.range T.length).map fun(j:Nat)=>((j:Int),(1:Int))).foldl (fun d t=>max d t.2) 0)]:=by
   unfold Rs.ynw;rw[if_neg (by unfold Rs.fieldsB;simp;rfl)];simp only[Qp,List.length_range,Nat.sub_self,List.drop_zero,List.take_zero,List.nil_append];rw[if_neg (by omega),if_neg (by rw[List.map_map];simp[Function.comp_def]),if_neg (by omega)]
  rw[hs];rfl
 ·unfold He at hr;rcases List.mem_append.1 hr with q|q
  ·obtain⟨t,ht,rfl⟩:=List.mem_map.1 q;have:=h t ht;show t.size<=1000;omega
  ·rw[List.mem_singleton]at q;subst q;exact Qs _
theorem ypc(h:∀i,i<T.length->(Fa T i).size<=200)(i:Nat):(Fa T i).size<=200:=by
 by_cases hi:i<T.length
 ·exact h i hi
 ·unfold Fa;rw[Qa,List.getElem?_eq_none (by omega)];exact Qs _
theorem size_extract(t:ByteArray)(a b:Nat)(h:t.size<=200):(t.extract a b).size<=200:=by
 rw[ByteArray.size_extract];omega
theorem yoe(h:∀t∈T,t.size<=200)(i:Nat):(T.getD i ByteArray.empty).size<=200:=by
 by_cases hi:i<T.length
 ·rw[Qa,Qd hi];exact h _ (Qv hi)
 ·rw[Qa,List.getElem?_eq_none (by omega)];exact Qs _
theorem yop{s:Int}(h0:-1000000000000000000<=s)(h1:s<=1000000000000000000):(Kk.F1 s).size<=200:=Rb.Ii s ⟨h0,h1⟩
section
variable {ks : List Ke}
theorem ynj(h:Fm ks=true)(h1:Ml k=true->RpG R)(h2:Hu k->RpG R):RpG (Fj ks k R).2:=by
 unfold Fj;split
 ·exact h1 (by assumption)
 ·split
  ·rename_i hs;have hm:k∈G0 ks k:=by
    rw[Rb.Wz k ((Rb.Ns ks).1 h).2.1];exact Rb.V9 _ _
   exact h2 (We ((T8 hs).2 k hm))
  ·exact ypg
theorem yov(h:Fm ks=true)(hk:Hu k)(hT:∀i,(Fa T i).size<=200):RpG (Ol c ks k th T).2:=by
 have q:=hk.text;have q1:=hT 1;have hz:(k.val.text++Fa T 1).size<=400:=by rw[ByteArray.size_append];omega
 have ha:RpG (Fe (k.val.text++Fa T 1).size):=ynm (by omega) (by omega);have Sz:RpG (Fe k.val.text.size):=ynm (by omega) (by omega);have Va:∀f l,RpG (Fy (R8 k.val.text f l)):=fun f l=>ynr (size_extract _ _ _ q);have hn:∀n,Sl.Ha n=true->RpG (Fe n):=fun n hn=>by
  unfold Sl.Ha at hn;have:=Qg hn;exact ynm this.1 this.2
 unfold Ol;split<;>repeat(first|with_reducible exact yo8|with_reducible exact ypj|with_reducible exact yoj|with_reducible exact Sz|with_reducible exact Va _ _|with_reducible exact ynj h (fun _=>ha) (fun _=>ha)|with_reducible exact ynj h (fun _=>hn _ (by assumption)) (fun _=>hn _ (by assumption))|with_reducible exact ynr q|split)
theorem yok(h:Fm ks=true)(hk:Hu k)(hT:T.length<=16):RpG (Od c ks k th T).2:=by
 have q:=hk.ni;have q2:=hk.ia;have hl:T.tail.length<=16:=by rw[List.length_tail];omega
 have hi:∀f l,RpG (He (N3 k.val.ia f l)):=fun f l=>by
  unfold N3;exact yog (by rw[Qu,Qn];omega) (fun t ht=>q2 t (List.mem_of_mem_take (List.mem_of_mem_drop ht)))
 have hb:∀i,RpG (Fy (k.val.ia.getD i ByteArray.empty)):=fun i=>ynr (yoe q2 i);have Sz:RpG (Fe ((T.tail.length+k.val.ia.length:Nat):Int)):=ynm (by omega) (by omega);have Va:RpG (Fe ((k.val.ia.length+T.tail.length:Nat):Int)):=ynm (by omega) (by omega);unfold Od;have Vb:RpG (Fe (k.val.ia.length:Int)):=ynm (by omega) (by omega);split<;>repeat(first|with_reducible exact yo8|with_reducible exact yoj|with_reducible exact Vb|with_reducible exact hi _ _|with_reducible exact ynj h (fun _=>hb _) (fun _=>hb _)|with_reducible exact ynj h (fun _=>Sz) (fun _=>Sz)|with_reducible exact ynj h (fun _=>Va) (fun _=>Va)|split)
theorem yot(h:Fm ks=true)(hk:Hu k):RpG (Om c ks k T).2:=by
 have q:=hk.np;have q2:=hk.pj
 have hi:RpG (He (Hj k.val.pj)):=yog (by rw[Tu];omega) (fun t ht=>by
  unfold Hj at ht;obtain⟨p,hp,ht⟩:=List.mem_flatMap.1 ht;rcases List.mem_cons.1 ht with e|e
  ·rw[e];exact(q2 p hp).1
  ·rw[List.mem_singleton.1 e];exact(q2 p hp).2)
 have hb:∀i,RpG (Fy (k.val.pj.getD i (bz,bz)).2):=fun i=>by
  refine ynr ?_;by_cases hi:i<k.val.pj.length
  ·rw[Qa,Qd hi];exact(q2 _ (Qv hi)).2
  ·rw[Qa,List.getElem?_eq_none (by omega)];exact Qs _
 have Vc:∀n:Nat,n<=k.val.pj.length->RpG (Fe ((k.val.pj.length:Int)-(n:Int))):=fun n hn=>ynm (by omega) (by omega);have Sz:∀(x:Ke) (f:Pr->Bool),RpG (Fj ks x (Fe ((k.val.pj.length:Int)-((k.val.pj.filter f).length:Int)))).2:=fun x f=>ynj h (fun _=>Vc _ (Qt _ _)) (fun _=>Vc _ (Qt _ _));have Vb:∀n:Nat,n<=20->RpG (Fe ((n:Int)-(k.val.pj.length:Int))):=fun n hn=>ynm (by omega) (by omega);have he:∀ps:List Pr,Ml (k.withPairs ps)=true->ps.length<=20:=fun ps he=>by
  unfold Ml Ke.withPairs at he;simp only[Qh,decide_eq_true_eq]at he;omega
 unfold Om;have Va:∀ps:List Pr,RpG (Fj ks (k.withPairs ps) (Fe ((ps.length:Int)-(k.val.pj.length:Int)))).2:=fun ps=>ynj h (fun e=>Vb _ (he _ e)) (fun e=>Vb _ e.np);have Vd:RpG (Fe (k.val.pj.length:Int)):=ynm (by omega) (by omega);split<;>repeat(first|with_reducible exact yoj|with_reducible exact Vd|with_reducible exact hi|with_reducible exact hb _|with_reducible exact Sz _ _|with_reducible exact Va _|split)
theorem yoz(h:Fm ks=true)(hk:Hu k):RpG (M5 c ks k T).2:=by
 have q:=hk.nr;have q2:=hk.rq;have hi:∀f l,RpG (He (Pc k.val.rq f l)):=fun f l=>by
  unfold Pc;refine yog (by rw[Qp,Qu,Qn];omega) (fun t ht=>?_);obtain⟨r,hr,rfl⟩:=List.mem_map.1 ht;exact(q2 r (List.mem_of_mem_take (List.mem_of_mem_drop hr))).1
 have hb:∀i,RpG (Fy (Kk.F1 (k.val.rq.getD i Kk.rk0).s)):=fun i=>by
  refine ynr ?_;by_cases hi:i<k.val.rq.length
  ·rw[Qa,Qd hi];have:=q2 _ (Qv hi);exact yop this.2.1 this.2.2
  ·rw[Qa,List.getElem?_eq_none (by omega)];exact yop (by decide) (by decide)
 have hr:RpG (Fe (Hg k.val.rq (Fa T 1) 0)):=by
  rcases Rb.Io k.val.rq (Fa T 1)with e|⟨i,e,hi⟩<;>rw[e]<;>exact ynm (by omega) (by omega)
 have Vb:∀n:Nat,n<=20->RpG (Fe ((n:Int)-(k.val.rq.length:Int))):=fun n hn=>ynm (by omega) (by omega);have Vc:∀n:Nat,n<=20->RpG (Fe ((k.val.rq.length:Int)-(n:Int))):=fun n hn=>ynm (by omega) (by omega);have he:∀ps:List Kk.Rk,Ml (k.withRanks ps)=true->ps.length<=20:=fun ps he=>by
  unfold Ml Ke.withRanks at he;simp only[Qh,decide_eq_true_eq]at he;omega
 unfold M5;have Va:∀ps:List Kk.Rk,RpG (Fj ks (k.withRanks ps) (Fe ((k.val.rq.length:Int)-(ps.length:Int)))).2:=fun ps=>ynj h (fun e=>Vc _ (he _ e)) (fun e=>Vc _ e.nr);have Sz:∀ps:List Kk.Rk,RpG (Fj ks (k.withRanks ps) (Fe ((ps.length:Int)-(k.val.rq.length:Int)))).2:=fun ps=>ynj h (fun e=>Vb _ (he _ e)) (fun e=>Vb _ e.nr);have Vd:RpG (Fe (k.val.rq.length:Int)):=ynm (by omega) (by omega);split<;>repeat(first|with_reducible exact yoj|with_reducible exact yo8|with_reducible exact Vd|with_reducible exact hi _ _|with_reducible exact hb _|with_reducible exact hr|with_reducible exact Va _|with_reducible exact Sz _|split)
theorem yo6(h:Fm ks=true)(hk:Hu k)(hn:0<=now/\now<=1000000000):RpG (anyM c ks k th now T).2:=by
 have q:=hk.due;have Sz:=ypp;have h1:=ypq;have h0:=ypr;have Va:RpG (Hd (Py k.val.kind.toNat)):=by
  have:=hk.kind;have:k.val.kind.toNat=0\/k.val.kind.toNat=1\/k.val.kind.toNat=2\/k.val.kind.toNat=3\/k.val.kind.toNat=4:=by omega
  rcases this with e|e|e|e|e<;>rw[e]<;>exact ynp (by decide+kernel) (by decide+kernel)
 have ht:RpG (Fe (if th=true then(if k.due=0 then-1 else k.due-now) else-2)):=by
  refine ynm ?_ ?_<;>split<;> (try split)<;>omega
 unfold anyM;split<;>repeat(first|with_reducible exact ypo|with_reducible exact yo8|with_reducible exact ypm|with_reducible exact h1|with_reducible exact h0|with_reducible exact Va|with_reducible exact ht|with_reducible exact ynj h (fun _=>Sz) (fun _=>Sz)|with_reducible exact ynj h (fun _=>h1) (fun _=>h1)|split)
theorem yn7:∀(dl:Bool)(T:List ByteArray)(s:List Ke×Nat),(T.foldl (Ni dl) s).2<=s.2+T.length
 |_,[],s=>Qc _
 |dl,t::T,s=>by
  rw[List.foldl_cons];have:=yn7 dl T (Ni dl s t);have h2:(Ni dl s t).2<=s.2+1:=by
   unfold Ni;split
   ·exact Nat.le_succ _
   ·exact Qc _
  rw[Q1];omega
theorem yoq(h:Fm ks=true)(hT:T.length<=16)(hs:∀t∈T,t.size<=200):RpG (Oj c ks T).2:=by
 obtain⟨k1,k2⟩:=T8 h;have hd:∀dl,RpG (Fe ((L9 dl ks T).2:Int)):=fun dl=>by
  have:=yn7 dl T (ks,0);unfold L9;refine ynm (by omega) ?_;have h2:(ks,0).2+T.length<=16:=by show 0+_<=_;omega
  omega
 cases c using Cm.elim
 case PING=>
  show RpG (if T.length=0 then Hd T9 else Fy (T.getD 0 ByteArray.empty));split
  ·exact yph
  ·exact ynr (yoe hs 0)
 case ECHO=>exact ynr (yoe hs 0)
 case KEYS=>
  refine yog (by rw[Qp];omega) (fun t ht=>?_);obtain⟨k,hk,rfl⟩:=List.mem_map.1 ht;exact(We (k2 k hk)).name
 case DBSIZE=>exact ynm (by show(_:Int)<=(ks.length:Int);omega) (by show(ks.length:Int)<=_;omega)
 case FLUSHALL=>exact ypp
 case DEL=>exact hd true
 all_goals exact hd false
theorem yny(h:Fm ks=true)(hk:Hu k)(hn:0<=now/\now<=1000000000)(hT:T.length<=16)(hs:∀i,(Fa T i).size<=200):RpG (Mh c ks k th now T).2:=by
 unfold Mh;split
 ·exact yov h hk hs
 ·exact yok h hk hT
 ·exact yot h hk
 ·exact yoz h hk
 ·exact yo6 h hk hn
theorem yoo(h:Fm ks=true)(hn:0<=now/\now<=1000000000)(hT:T.length<=16)(hs:∀i,i<T.length->(Fa T i).size<=200):RpG (Lc ks now T).2:=by
 have ht:T.tail.length<=16:=by rw[List.length_tail];omega
 have Sz:∀i,(Fa T.tail i).size<=200:=fun i=>by rw[Cu];exact ypc hs _
 have Va:∀t∈T.tail,t.size<=200:=fun t hm=>by
  obtain⟨i,hi,e⟩:=List.getElem_of_mem hm;have:=Sz i;unfold Fa at this;rw[Qa,Qd hi,Option.getD_some,e]at this;exact this
 unfold Lc;split
 ·exact ypl
 ·split
  ·split
   ·exact yoq h ht Va
   ·unfold Np;split
    ·exact yny h (ygw _ (Sz 0)) hn ht Sz
    ·rename_i hf;split
     ·exact ypb
     ·refine yny h (We ((T8 h).2 _ ?_)) hn ht Sz;rcases Ba ks (Fa T.tail 0) 0 with e|⟨i,hi,e⟩
      ·exact absurd (by rw[e];decide) hf
      ·rw[e,Int.toNat_natCast,Qq,Qa,Qd hi];exact Qv hi
  ·exact ypn
end
theorem yo7{w:World}{a:Option Addr}{g:Nat}(h:T5 w a g R)(hs:∀r∈R,r.s.size<=1000)(hk:∀r∈R,r.kids.length<=41):Rs.yor w a g 0 R.length (R.map yox):=by
 have e:∀i (hi:i<R.length),(R.map yox).getD i Rs.nd0=yox R[i]:=fun i hi=>by
  rw[Qa,Qd (by rw[Qp];exact hi),Option.getD_some,List.getElem_map]
 refine⟨Qp _,fun h0=>(h.addr h0).1,fun h0=>(h.addr h0).2,fun i hi=>?_,fun i hi=>?_⟩
 ·rw[e i hi];obtain⟨c0,c1,c2,p,pg,pc,c3,hp⟩:=h.cell i hi;have hl:(yox R[i]).kids.length=R[i].kids.length:=Qp _;refine⟨p,pg,0,pc,by rw[Qq];exact c0,by rw[Qq];exact c1,by rw[Qq];exact c2,by rw[Qq,hl];exact c3,rfl,fun h0=>(hp.addr (by omega)).1,fun h0=>(hp.addr (by omega)).2,fun j hj=>?_⟩;rw[hl]at hj;have:=hp.cell j hj;rw[Qq,this];show _=some (Value.int .i64 ((R[i].kids.map fun(k:Nat)=>(k:Int)).getD j 0));rw[Qa,List.getElem?_map,Qd hj];rfl
 ·rw[e i hi];have h1:=hs _ (Qv hi);have h2:=hk _ (Qv hi);have hl:(yox R[i]).kids.length=R[i].kids.length:=Qp _;exact⟨by show R[i].s.size<=_;omega,by omega⟩
theorem yo3(r:Value)(R:List Rp)(w:World)(h:RpR w r R)(hS:RpS R)(hG:RpG R):
  Calls prog 21 #[r] w fun e w'=>e=.returned (.bool true)/\Bl w w':=by
 obtain⟨a,g,c,rfl,hr⟩:=h
 have:=Rs.zw0 a g 0 R.length c (R.map yox) w (yo7 hr hG.2 fun r hr=>(hS.2.2 r hr).1) (fun i hi=>by
  rw[Qa,Qd (by rw[Qp];exact hi),Option.getD_some,List.getElem_map];have h2:=(hS.2.2 _ (Qv hi)).1;have hl:(yox R[i]).kids.length=R[i].kids.length:=Qp _;omega) hS.1 (by have:=hS.2.1;omega)
 rw[hG.1]at this;exact this
theorem Aw3(a:Option Addr)(n c:Nat)(w:World)(hn:n<=9223372036854775807)(hb:BytesIn w a n w.heap.size)(ad:Nat->Addr)(hE:Rb.Px w ad):
  Calls prog 3 #[.slice a n c] w fun e w'=>e=.returned (.bool true)/\Bl w w':=by
 have Vs:Hid (Cp 12 #[.slice a n c] w fun e w'=>e=.returned (.bool (decide (1048576<n)))/\w'=w):=ygb a n c w hn;have Vk:Hid (Cp 13 #[.slice a n c] w fun e w1=>∃v ks Vb aa ab ao m ac T,e=.returned (.tuple #[v,.int .i64 Vb,.slice aa m ac])/\Pq w1 v ks Vb aa ab ao m ac T ad/\Bl w w1):=zz0 a n c w hn hb ad hE;clear hb hE;go_enter func3,ntmps3;go_wp2_with fail;refine Vs.out.mono ?_;rintro e w0⟨rfl,Xc⟩;subst Xc;clear Vs;by_cases hbig:1048576<n
 ·rw[Qe hbig];clear Vk;go_wp2;go_ret;exact⟨rfl,Qb _ _⟩
 rw[Qf hbig];go_wp2_with fail;refine Vk.out.mono ?_;rintro e w1⟨v,ks,Vb,aa,ab,ao,m,ac,T,rfl,hD,b1⟩;clear Vk hn hbig;have HD:Hid (Pq w1 v ks Vb aa ab ao m ac T ad):=hD;have HI:Hid (Cp 14 #[v,.int .i64 Vb,.slice aa m ac] w1 (Ug w1 (Nj ks Vb T))):=hD.impl;have HC:Hid _:=zmx ks Vb T;clear hD;generalize hp:Nj ks Vb T=p at*;have HP:Hid (Nj ks Vb T=p):=hp;clear hp;go_wp2_with fail;refine HI.out.mono ?_;rintro e w2⟨v2,r2,rfl,Vx,Vv,b2⟩;have HS:Hid (Cp 15 #[v,.int .i64 Vb,.slice aa m ac] w2 (Ug w2 p)):=by
  have:=(HD.out.bw b2).spec;rw[HP.out]at this;exact this
 have Xa:Hid (DbR w2 v2 p.1):=Vx;have Vu:Hid (RpR w2 r2 p.2):=Vv;clear Vx Vv HI;go_wp2_with fail;refine HS.out.mono ?_;rintro e w3⟨v3,r3,rfl,Vz,Xb,b3⟩;have Vq:Bl w1 w3:=b2.trans (b3.mono b2.size);have Vm:Bl w0 w3:=b1.trans (Vq.mono b1.size);have Vh:Hid (Pq w3 v ks Vb aa ab ao m ac T ad):=HD.out.bw Vq;have Va:Hid (DbR w3 v2 p.1):=Xa.out.bw b3;have Vd:Hid (DbR w3 v3 p.1):=Vz;have Sz:Hid (RpR w3 r2 p.2):=Vu.out.bw b3;have Ve:Hid (RpR w3 r3 p.2):=Xb;have Vc:Hid (∀W,Bl w3 W->Bl w0 W):=fun W hW=>Vm.trans (hW.mono Vm.size);clear Vz Xb HS HD Xa Vu b1 b2 b3 Vq Vm HP;rcases HC.out with⟨_,e0⟩|⟨_,hok,hnow,h16,h1,hs,e0,hL,hS⟩
 ·rw[e0]at Va Vd Sz Ve;have Vg:Hid (∀W,Bl w3 W->Cp 16 #[v2,v3] W fun e w'=>e=.returned (.bool true)/\Bl W w'):=fun W hW=>zun v2 v3 [] W (Va.out.bw hW) (Vd.out.bw hW) (.inr rfl);have Vf:Hid (∀W,Bl w3 W->Cp 17 #[r2,r3] W fun e w'=>e=.returned (.bool true)/\Bl W w'):=fun W hW=>zjk r2 r3 [] W (Sz.out.bw hW) (Ve.out.bw hW) (.inl rfl);obtain⟨ar,gr,cr,er,_⟩:=Sz.out;have er:r2=.slice ar 0 cr:=er;clear Va Vd Sz Ve e0 HC Vh;subst er;go_wp2_with fail;refine(Vg.out _ (Qb _ _)).mono ?_;rintro e w4⟨rfl,b4⟩;go_wp2_with fail;refine(Vf.out _ b4).mono ?_;rintro e w5⟨rfl,b5⟩;have b5:=b4.trans (b5.mono b4.size);clear b4;go_wp2_with fail;refine(Vg.out _ b5).mono ?_;rintro e w6⟨rfl,b6⟩;have b6:=b5.trans (b6.mono b5.size);clear b5;go_wp2_with fail;refine(Vf.out _ b6).mono ?_;rintro e w7⟨rfl,b7⟩;have HF:Hid (Bl w0 w7):=Vc.out _ (b6.trans (b7.mono b6.size));clear b6 b7 Vc Vg Vf;go_wp2;go_ret;exact⟨rfl,HF.out⟩
 ·rw[<-e0]at hL hS;have HG:Hid (RpG p.2):=by
   rw[e0];exact yoo (Rb.E7 hok Vb) hnow h16 hs
  have Vg:Hid (∀W,Bl w3 W->Cp 16 #[v2,v3] W fun e w'=>e=.returned (.bool true)/\Bl W w'):=fun W hW=>zun v2 v3 p.1 W (Va.out.bw hW) (Vd.out.bw hW) (.inl hL.ok);have Vf:Hid (∀W,Bl w3 W->Cp 17 #[r2,r3] W fun e w'=>e=.returned (.bool true)/\Bl W w'):=fun W hW=>zjk r2 r3 p.2 W (Sz.out.bw hW) (Ve.out.bw hW) (.inr hS);have Vy:Hid (∀W,Bl w3 W->Cp 18 #[r2] W fun e w'=>e=.returned (.bool (Pl p.2))/\w'=W):=fun W hW=>yli r2 p.2 W (Sz.out.bw hW) hS.2.1;have Vn:Hid (∀W,Bl w3 W->Cp 19 #[v,.int .i64 Vb] W fun e w'=>∃v',e=.returned v'/\DbR w' v' (Hb ks Vb)/\Bl W w'):=fun W hW=>by
   have hD:=Vh.out.bw hW;have:=yhk v ks Vb W hD.db hD.good hD.env.es.er.rd;rw[zy2 hok]at this;exact this
  have Vp:Hid (Pl p.2=true->∀W v',Bl w3 W->DbR W v' (Hb ks Vb)->Cp 16 #[v2,v'] W fun e w'=>e=.returned (.bool true)/\Bl W w'):=fun he W v' hW hv=>zun v2 v' p.1 W (Va.out.bw hW) (by rw[hL.err he];exact hv) (.inl hL.ok);have Vo:Hid (∀W,Bl w3 W->Cp 20 #[v2] W fun e w'=>e=.returned (.bool true)/\Bl W w'):=fun W hW=>by
   have:=ype v2 p.1 W (Va.out.bw hW) (yhr hL.ok) (Vh.out.bw hW).env.es.er.rd;rw[hL.ok]at this;exact this
  have Vr:Hid (∀W,Bl w3 W->Cp 21 #[r2] W fun e w'=>e=.returned (.bool true)/\Bl W w'):=fun W hW=>yo3 r2 p.2 W (Sz.out.bw hW) hS HG.out;have Vj:Hid (∀W,Bl w3 W->Cp 19 #[v2,.int .i64 Vb] W fun e w'=>∃v',e=.returned v'/\DbR w' v' p.1/\Bl W w'):=fun W hW=>by
   have:=yhk v2 p.1 Vb W (Va.out.bw hW) (yhr hL.ok) (Vh.out.bw hW).env.es.er.rd;rw[zy2 hL.ok,zt0 hL.live]at this;exact this
  have Vi:Hid (∀W v',Bl w3 W->DbR W v' p.1->Cp 16 #[v',v2] W fun e w'=>e=.returned (.bool true)/\Bl W w'):=fun W v' hW hv=>zun v' v2 p.1 W hv (Va.out.bw hW) (.inl hL.ok);have Xf:=hS.1;obtain⟨ar,gr,cr,er,_⟩:=Sz.out;clear Va Vd Sz Ve e0 HC Vh hL hS HG hok hnow h16 h1 hs;generalize Pl p.2=ie,p.2.length=lr at*;subst er;have Xg:((lr:Int)==0)=false:=by simp;omega
  have Xd:¬lr=0:=by omega
  go_wp2_with fail;refine(Vg.out _ (Qb _ _)).mono ?_;rintro e w4⟨rfl,b4⟩;go_wp2_with fail;refine(Vf.out _ b4).mono ?_;rintro e w5⟨rfl,b5⟩;have b5:=b4.trans (b5.mono b4.size);clear b4 Vg Vf;go_wp2_with fail;refine(Vy.out _ b5).mono ?_;rintro e w6⟨rfl,Xe⟩;subst Xe;clear Vy;cases ie with
  |true=>
   clear Vo Vr Vj Vi;go_wp2_with fail;refine(Vn.out _ b5).mono ?_;rintro e w7⟨v7,rfl,Vw,b7⟩;have b7:=b5.trans (b7.mono b5.size);have HX:Hid (Cp 16 #[v2,v7] w7 _):=Vp.out trivial w7 v7 b7 Vw;clear Vw b5 Vn Vp;go_wp2_with fail;refine HX.out.mono ?_;rintro e w8⟨rfl,b8⟩;have HF:Hid (Bl w0 w8):=Vc.out _ (b7.trans (b8.mono b7.size));clear b7 b8 Vc HX;go_wp2;go_ret;exact⟨rfl,HF.out⟩
  |false=>
   clear Vn Vp;go_wp2_with fail;refine(Vo.out _ b5).mono ?_;rintro e w7⟨rfl,b7⟩;have b7:=b5.trans (b7.mono b5.size);clear b5 Vo;go_wp2_with fail;refine(Vr.out _ b7).mono ?_;rintro e w8⟨rfl,b8⟩;have b8:=b7.trans (b8.mono b7.size);clear b7 Vr;go_wp2_with fail;refine(Vj.out _ b8).mono ?_;rintro e w9⟨v9,rfl,Vt,b9⟩;have b9:=b8.trans (b9.mono b8.size);have HX:=Vi.out w9 v9 b9 Vt;have HX:Hid (Cp 16 #[v9,v2] w9 _):=HX;clear Vt b8 Vj Vi;go_wp2_with fail;refine HX.out.mono ?_;rintro e wA⟨rfl,bA⟩;have HF:Hid (Bl w0 wA):=Vc.out _ (b9.trans (bA.mono b9.size));clear b9 bA Vc HX;go_wp2;go_ret;exact⟨rfl,HF.out⟩
end Go.Proofs.YtokafonppgppdaaGreatDoor.Er

