import Derived.Test.YtokafonppgppdaaGreatDoorDe
import Derived.Test.YtokafonppgppdaaGreatDoorR56
set_option maxHeartbeats 8000000
set_option maxRecDepth 100000
namespace Go.Proofs.YtokafonppgppdaaGreatDoor.Er
open Tryz
open Go.RowKit Go.Sort
variable {w w' w1 W:World} {p:List Ke×List Rp} {g B n ab ao m ac:Nat} {a aa:Option Addr} {R:List Rp} {v r:Value} {k:Ke} {c:Cm} {th:Bool} {T:List ByteArray} {nm f x b:ByteArray} {L:List KV} {e:Ending} {ad:Nat->Addr} {ps:List Pr}
theorem ygb(a:Option Addr)(n c:Nat)(w:World)(hn:n<=9223372036854775807):Calls prog 12 #[.slice a n c] w fun e w'=>e=.returned (.bool (decide (1048576<n)))/\w'=w:=by
 go_enter func12,ntmps12;go_wp2;go_ret;exact⟨congrArg (fun b=>Ending.returned (Value.bool b)) (decide_eq_decide.2 (by omega)),rfl⟩
structure Ty (w:World) (p:Option Addr) (g:Nat) (ks:List Nat):Prop where
 addr:0<ks.length->p=some ⟨g,0,none⟩/\g<w.heap.size
 cell:∀i (hi:i<ks.length),w.cell? ⟨g,i,none⟩=some (.int .i64 ((ks[i]:Nat):Int))
theorem Ty.bw{p:Option Addr}{ks:List Nat}(h:Ty w p g ks)(hb:Bl w w'):Ty w' p g ks:=
 ⟨fun h0=>⟨(h.addr h0).1,Qr (h.addr h0).2 hb.size⟩,fun i hi=>(hb.cell (p:=⟨g,i,none⟩) (h.addr (by omega)).2).trans (h.cell i hi)⟩
structure Ac (w:World) (g i:Nat) (r:Rp):Prop where
 k:w.cell? ⟨g,i*4,none⟩=some (.int .i64 r.kind)
 n:w.cell? ⟨g,i*4+1,none⟩=some (.int .i64 r.n)
 s:w.cell? ⟨g,i*4+2,none⟩=some (.string r.s)
 c:∃p pg pc,w.cell? ⟨g,i*4+3,none⟩=some (.slice p r.kids.length pc)/\Ty w p pg r.kids
structure T5 (w:World) (a:Option Addr) (g:Nat) (R:List Rp):Prop where
 addr:0<R.length->a=some ⟨g,0,none⟩/\g<w.heap.size
 cell:∀i (hi:i<R.length),Ac w g i R[i]
theorem T5.bw(h:T5 w a g R)(hb:Bl w w'):T5 w' a g R:=
 ⟨fun h0=>⟨(h.addr h0).1,Qr (h.addr h0).2 hb.size⟩,fun i hi=>by
  have hg:=(h.addr (by omega)).2;obtain⟨k,n,s,p,pg,pc,c,hk⟩:=h.cell i hi;exact⟨(hb.cell (p:=⟨g,i*4,none⟩) hg).trans k,(hb.cell (p:=⟨g,i*4+1,none⟩) hg).trans n,(hb.cell (p:=⟨g,i*4+2,none⟩) hg).trans s,p,pg,pc,(hb.cell (p:=⟨g,i*4+3,none⟩) hg).trans c,hk.bw hb⟩⟩
theorem yfp(h:Fr w B v R):∃a g c,v=.slice a R.length c/\T5 w a g R:=by
 obtain⟨M,rfl,o,hk⟩:=h;have hl:(M.map RV.r).length=M.length:=Qp _;by_cases h0:M.length=0
 ·obtain⟨a,c,e⟩:=Fx o;exact⟨a,0,c,by rw[hl];exact e,fun h=>by omega,fun i hi=>by omega⟩
 ·obtain⟨g,c,e,h1,h2,_⟩:=zur o 0 (by omega);refine⟨_,g,c,by rw[hl];exact e,fun _=>⟨rfl,h2⟩,fun i hi=>?_⟩;obtain⟨g',c',e',_,_,q0,q1,q2,q3⟩:=zur o i (by omega);rw[e]at e';injection e' with e1;injection e1 with e2;injection e2 with e3;subst e3;obtain⟨p,pg,pc,ek,ha,Sz⟩:=zz3 (hk M[i] (Qv _));rw[ek]at q3;rw[List.getElem_map];exact⟨q0,q1,q2,p,pg,pc,q3,fun h=>⟨(ha h).1,(ha h).2.2⟩,Sz⟩
theorem zp7(a a':Option Addr)(b b' c c':Nat)(ks:List Nat)(w:World)(h:Ty w a b ks)(h':Ty w a' b' ks)(hn:ks.length<=1048577):
  Calls prog 57 #[.slice a ks.length c,.slice a' ks.length c'] w fun e w'=>e=.returned (.bool true)/\∃q,w'=w.drewN q:=by
 have HK:Hid (∀i (hi:i<ks.length),w.cell? ⟨b,i,none⟩=some (.int .i64 ((ks[i]:Nat):Int))/\w.cell? ⟨b',i,none⟩=some (.int .i64 ((ks[i]:Nat):Int))):=fun i hi=>⟨h.cell i hi,h'.cell i hi⟩;have HA:Hid (0<ks.length->a=some ⟨b,0,none⟩/\a'=some ⟨b',0,none⟩):=fun h0=>⟨(h.addr h0).1,(h'.addr h0).1⟩;have HG:Hid (∀i (hi:i<ks.length),∃z:Int,z=((ks[i]:Nat):Int)):=fun i hi=>⟨_,rfl⟩;clear h h';obtain⟨n,Sz⟩:∃n,ks.length=n:=⟨_,rfl⟩;have HC:Hid (∀i,i<n->∃z:Int,w.cell? ⟨b,i,none⟩=some (.int .i64 z)/\w.cell? ⟨b',i,none⟩=some (.int .i64 z)):=fun i hi=>⟨_,HK.out i (by omega)⟩;rw[Sz]at HA hn ⊢;clear HK HG Sz;go_enter func57,ntmps57;go_wp2;go_loopw [5] (fun i wr=>∃(k q:Nat),k<=n/\i=.int .i64 k/\wr=w.drewN q) (fun i _=>n-(intOf i).toNat)
 case atStart=>exact⟨0,0,by omega,rfl,rfl⟩
 case round=>
  obtain⟨k,q,hk,rfl,rfl⟩:=hrel;by_cases hlt:k<n
  ·obtain⟨rfl,rfl⟩:=HA.out (by omega);obtain⟨z,hc,Va⟩:=HC.out k hlt;go_wp2;go_quiet ((fail));go_wp2;go_roundw
   case rel=>exact⟨k+1,_,by omega,by go_num,rfl⟩
   case measure=>simp[intOf];omega
  ·go_wp2;go_ret;exact⟨rfl,q,rfl⟩
theorem Ty.drew{p:Option Addr}{ks:List Nat}(h:Ty w p g ks)(q:Nat):Ty (w.drewN q) p g ks:=h.bw (Hp.below_drewN w q)
theorem yc4(w:World)(a b:Nat):(w.drewN a).drewN b=w.drewN (a+b):=by
 simp[World.drewN,Nat.add_assoc]
theorem zqk(a a':Option Addr)(b b' c c':Nat)(R:List Rp)(w:World)(h:T5 w a b R)(h':T5 w a' b' R)(hn:R.length<=1048577)(hk:∀r∈R,r.kids.length<=1048577):
  Calls prog 17 #[.slice a R.length c,.slice a' R.length c'] w fun e w'=>e=.returned (.bool true)/\∃q,w'=w.drewN q:=by
 have HA:Hid (0<R.length->a=some ⟨b,0,none⟩/\a'=some ⟨b',0,none⟩):=fun h0=>⟨(h.addr h0).1,(h'.addr h0).1⟩;have HC:Hid (∀i,i<R.length->∃r:Rp,Ac w b i r/\Ac w b' i r/\r.kids.length<=1048577):=fun i hi=>⟨R[i],h.cell i hi,h'.cell i hi,hk _ (Qv hi)⟩;clear h h' hk;generalize R.length=n at*;go_enter func17,ntmps17;go_wp2;go_loopw [5] (fun i wr=>∃(k q:Nat),k<=n/\i=.int .i64 k/\wr=w.drewN q) (fun i _=>n-(intOf i).toNat)
 case atStart=>exact⟨0,0,by omega,rfl,rfl⟩
 case round=>
  obtain⟨k,q,hk,rfl,Sz⟩:=hrel;by_cases hlt:k<n
  ·obtain⟨rfl,rfl⟩:=HA.out (by omega);obtain⟨r,⟨c0,c1,c2,p,pg,pc,c3,c4⟩,⟨d0,d1,d2,x,xg,xc,d3,d4⟩,hr⟩:=HC.out k hlt;have HI:∀m,Calls prog 57 #[.slice p r.kids.length pc,.slice x r.kids.length xc] (wr.drewN m) fun e w'=>e=.returned (.bool true)/\∃m',w'=(wr.drewN m).drewN m':=fun m=>by
    rw[Sz];exact zp7 p x pg xg pc xc r.kids _ ((c4.drew q).drew m) ((d4.drew q).drew m) hr
   have cw:∀z,wr.cell? z=w.cell? z:=fun z=>by rw[Sz];rfl
   rw[<-cw]at c0 c1 c2 c3 d0 d1 d2 d3;have HQ:Hid (wr=w.drewN q):=Sz;clear c4 d4 cw Sz;obtain⟨rk,rn,rs,rc⟩:=r;dsimp only at c0 c1 c2 c3 d0 d1 d2 d3 HI hr;generalize rc.length=m at*;go_wp2;go_quiet ((exact Calls.quiet_of (HI _)));go_wp2;go_roundw
   case rel=>exact⟨k+1,_,by omega,by go_num,by rw[HQ.out,yc4]⟩
   case measure=>simp[intOf];omega
  ·have HQ:Hid (wr=w.drewN q):=Sz;clear Sz;go_wp2;go_ret;exact⟨rfl,q,HQ.out⟩
theorem Ly(a:Option Addr)(g c:Nat)(R:List Rp)(w:World)(h:T5 w a g R)(hn:R.length<=1048577):Calls prog 18 #[.slice a R.length c] w fun e w'=>e=.returned (.bool (decide (R.length=1)&&decide ((R.getD 0 ⟨0,0,⟨#[]⟩,[]⟩).kind=2)))/\w'=w:=by
 by_cases h1:R.length=1
 ·obtain⟨r,rfl⟩:=List.length_eq_one_iff.1 h1;have hc:=(h.cell 0 (by simp)).k;obtain⟨rfl,_⟩:=h.addr (by simp);obtain⟨rk,rn,rs,rc⟩:=r;have hc:w.cell? ⟨g,0,none⟩=some (.int .i64 rk):=hc;clear h h1 hn;show Calls prog 18 #[.slice (some ⟨g,0,none⟩) 1 c] w fun e w'=>e=.returned (.bool (decide (rk=2)))/\w'=w;by_cases h2:rk=2
  ·subst h2;go_enter func18,ntmps18;go_wp2;go_ret;exact⟨rfl,rfl⟩
  ·rw[Qf h2];go_enter func18,ntmps18;go_wp2;go_ret;exact⟨F0 (by simp[h2]),rfl⟩
 ·rw[Qf h1,Q0];clear h;generalize R.length=n at*;have Sz:¬((n:Int)=1):=by omega
  go_enter func18,ntmps18;go_wp2;go_ret;exact⟨rfl,rfl⟩
def Pw (R:List Rp):Rp:=if R.length=1 then R.getD 0 ⟨0,0,⟨#[]⟩,[]⟩ else ⟨0,0,⟨#[]⟩,[]⟩
def Y6 (w:World) (e:Ending) (w':World):Prop:=
 ∃B v L now aa ab ao ac T,e= .returned (.tuple #[v,.int .i64 now,.slice aa (List.length T) ac])/\Fv w' B v L/\O7 (L.map KV.key)/\L.length<=83/\Fs w' aa ab ao T.length T/\T.length<=6/\T.length<=ac/\(∀s∈T,s.size<=20)/\Bl w w'
theorem zvn{rb c:Nat}{M:List KV}(hrb:w.heap.size<=rb)(b1:Bl w w1)(hS:Mz w1 rb a n c v M w'):Bl w w':=by
 obtain⟨g1,g2,g3,g4,g5⟩:=hS.grown;exact b1.trans ⟨g1,g2,g3,g4,fun k hk=>g5 k (Qr hk b1.size) (by intro h;injection h with h;omega)⟩
theorem ydt(a:Option Addr)(n c:Nat)(w:World)(hn:n<=9223372036854775807)(hb:BytesIn w a n w.heap.size):
  Calls prog 13 #[.slice a n c] w (Y6 w):=by
 have HO:Hid (∃rb,w.heap.size<=rb/\Cp 39 #[.slice a n c] w fun e w'=>e=.returned (.pointer (some ⟨rb,0,none⟩))/\Rd w' rb a n c/\Bl w w'):=⟨w.heap.size,Qc _,yeb a n c w hn hb⟩;clear hb;obtain⟨rb,Vk,HO⟩:=HO.out;have Vf:Hid (w.heap.size<=rb):=Vk;clear Vk;go_enter func13,ntmps13;go_wp2_with fail;refine HO.mono ?_;rintro e w1⟨rfl,Vh,b1⟩;have Va:rb<w1.heap.size:=by
  obtain⟨p,_,hr⟩:=Vh.row;exact hr.lt
 have Vg:Hid (Bl w w1):=b1;clear b1 HO;go_wp2_with fail;refine(yiv rb a n c w1 Vh Va).mono ?_;rintro e w2⟨v,M,rfl,hS,hM⟩;have Vi:Hid (Mz w1 rb a n c v M w2):=hS;have HM:Hid (M.length<=83):=hM;clear hS hM Vh;go_wp2_with fail;refine(Ww rb a n c 9 w2 Vi.out.rd (by omega) (by omega)).mono ?_;rintro e w3⟨k,rfl,k0,k1,r3,g3⟩;have Vj:Hid (Mz w1 rb a n c v M w3):=Vi.out.read Va r3 g3;clear Vi r3 g3;go_wp2_with fail;refine(Pd rb a n c 24 w3 Vj.out.rd (by omega) (by omega)).mono ?_;rintro e w4⟨b4,rfl,r4,g4⟩;have Vc:Hid (Mz w1 rb a n c v M w4):=Vj.out.read Va r4 g4;clear Vj r4 g4;cases b4 with
 |false=>
  go_wp2_with fail;refine(Y7 rb a n c w4 Vc.out.rd (Vc.out.lt Va)).mono ?_;rintro e w5⟨x,B,off,Vd,ss,rfl,hs,hl,Vb,r5,g5,hz⟩;have Sz:Hid (Mz w1 rb a n c v M w5):=Vc.out.read Va r5 g5;have HF:Hid (Y6 w (.returned (.tuple #[v,.int .i64 k,.slice x ss.length Vd])) w5):=⟨_,v,M,k,x,B,off,Vd,ss,rfl,Sz.out.own,Sz.out.fit,HM.out,hs,hl,Vb,hz,zvn Vf.out Vg.out Sz.out⟩;clear hs hz r5 g5 Vc Sz HM Vg Vf;generalize ss.length=m at*;go_wp2;go_ret3;exact HF.out
 |true=>
  go_wp2_with fail;refine(Hp.Cr rb a n c 0 1000000000 w4 Vc.out.rd (by omega) (by omega) (by omega)).mono ?_;rintro e w8⟨d,rfl,Vm,Vn,r8,g8⟩;have Ve:Hid (Mz w1 rb a n c v M w8):=Vc.out.read Va r8 g8;clear Vc r8 g8;go_wp2_with fail;refine(Y7 rb a n c w8 Ve.out.rd (Ve.out.lt Va)).mono ?_;rintro e w5⟨x,B,off,Vd,ss,rfl,hs,hl,Vb,r5,g5,hz⟩;have Sz:Hid (Mz w1 rb a n c v M w5):=Ve.out.read Va r5 g5;have HF:Hid (Y6 w (.returned (.tuple #[v,.int .i64 d,.slice x ss.length Vd])) w5):=⟨_,v,M,d,x,B,off,Vd,ss,rfl,Sz.out.own,Sz.out.fit,HM.out,hs,hl,Vb,hz,zvn Vf.out Vg.out Sz.out⟩;clear hs hz r5 g5 Ve Sz HM Vg Vf;generalize ss.length=m at*;go_wp2;go_ret3;exact HF.out
open Go.RowKit
open Rb (Ns C4 W9)
def Pl (R:List Rp):Bool:=decide (R.length=1)&&decide ((R.getD 0 ⟨0,0,⟨#[]⟩,[]⟩).kind=2)
theorem T3{k n:Int}{s:ByteArray}(hk:k≠2):Pl [⟨k,n,s,[]⟩]=false:=by
 unfold Pl;simp[hk]
structure Left (ks:List Ke) (now:Int) (x:List Ke×List Rp):Prop where
 err:Pl x.2=true->x.1=ks
 ok:Fm x.1=true
 live:∀k∈x.1,Hs now k=true
section
variable {ks : List Ke} {now : Int}
theorem Tj(h:Fm ks=true)(hl:∀k∈ks,Hs now k=true)(R:List Rp):Left ks now (ks,R):=⟨fun _=>rfl,h,hl⟩
theorem zqt(h:Fm ks=true)(hl:∀k∈ks,Hs now k=true)(nm:ByteArray)(hR:Pl R=false):Left ks now (G5 ks nm,R):=
 ⟨fun e=>(by rw[hR]at e;cases e),C4 h nm,fun k hk=>hl k (List.mem_filter.1 hk).1⟩
theorem zlx(hl:∀k∈ks,Hs now k=true)(hk:Hs now k=true)(hs:Fm (G0 ks k)=true)(hR:Pl R=false):Left ks now (G0 ks k,R):=
 ⟨fun e=>(by rw[hR]at e;cases e),hs,fun y hy=>by
  rcases Df hy with q|q
  ·exact hl y q
  ·rw[q];exact hk⟩
theorem Wk(h:Fm ks=true)(hl:∀k∈ks,Hs now k=true)(hk:Hs now k=true)(hR:Pl R=false):Left ks now (Fj ks k R):=by
 unfold Fj;split
 ·exact zqt h hl _ hR
 ·split
  ·rename_i hs;exact zlx hl hk hs hR
  ·exact Tj h hl _
theorem zt9(h:Fm ks=true)(hl:∀k∈ks,Hs now k=true)(hk:k∈ks){d:Int}(h0:0<=d)(h1:d<=1000000000)(ha:Hs now (k.withDue d)=true)(hR:Pl R=false):Left ks now (G0 ks (k.withDue d),R):=by
 refine zlx hl ha ?_ hR;have hq:Lw ks:=T8 h;have q:=An hq hk h0 h1;rw[W9 h,Qe q.1,Bool.and_true];have:=hq.2 k hk;unfold Hh Lp at this ⊢;simp only[Qh,decide_eq_true_eq]at this ⊢;exact⟨this.1,this.2.1,h0,h1⟩
theorem ybe(h:Fm ks=true)(hl:∀k∈ks,Hs now k=true)(hk:Hs now k=true):Left ks now (Ol c ks k th T):=by
 unfold Ol;split<;>repeat(first|exact Tj h hl _|exact Wk h hl (k:=_) (by exact hk) (T3 (by decide))|split)
theorem zwa(h:Fm ks=true)(hl:∀k∈ks,Hs now k=true)(hk:Hs now k=true):Left ks now (Od c ks k th T):=by
 unfold Od;split<;>repeat(first|exact Tj h hl _|exact Wk h hl (k:=_) (by exact hk) (T3 (by decide))|split)
theorem ybj(h:Fm ks=true)(hl:∀k∈ks,Hs now k=true)(hk:Hs now k=true):Left ks now (Om c ks k T):=by
 unfold Om;split<;>repeat(first|exact Tj h hl _|exact Wk h hl (k:=_) (by exact hk) (T3 (by decide))|split)
theorem zy8(h:Fm ks=true)(hl:∀k∈ks,Hs now k=true)(hk:Hs now k=true):Left ks now (M5 c ks k T):=by
 unfold M5;split<;>repeat(first|exact Tj h hl _|exact Wk h hl (k:=_) (by exact hk) (T3 (by decide))|split)
theorem ya3{x:Int}(hx:1<=x):Hs now (k.withDue (now+x))=true:=by
 unfold Hs Ke.withDue;simp only[Bool.or_eq_true,decide_eq_true_eq];exact .inr (by omega)
theorem yew(h:Fm ks=true)(hl:∀k∈ks,Hs now k=true)(h1:k.due≠0->k∈ks)(h2:th=true->k∈ks)(hn:0<=now/\now<=1000000000):Left ks now (anyM c ks k th now T):=by
 have hz:∀nm t,Hs now (F5 nm t 0)=true:=fun nm t=>rfl;have Sz:∀nm t x,1<=x->Hs now (F5 nm t (now+x))=true:=fun nm t x hx=>by
  unfold Hs F5;simp only[Bool.or_eq_true,decide_eq_true_eq];exact .inr (by omega)
 unfold anyM;split<;>repeat(first|exact Tj h hl _|exact Wk h hl (hz _ _) (T3 (by decide))|exact Wk h hl (Sz _ _ _ (by omega)) (T3 (by decide))|exact zt9 h hl (h1 (by assumption)) (by omega) (by omega) rfl (T3 (by decide))|exact zt9 h hl (h2 (by assumption)) (by omega) (by omega) (ya3 (by omega)) (T3 (by decide))|exact zqt h hl _ (T3 (by decide))|split)
theorem Ir:∀(T:List ByteArray) (s:List Ke×Nat),Fm s.1=true->(∀k∈s.1,Hs now k=true)->Fm (T.foldl (Ni true) s).1=true/\∀k∈(T.foldl (Ni true) s).1,Hs now k=true
 | [],s,a,b=>⟨a,b⟩
 |t::T,s,a,b=>by
  rw[List.foldl_cons];refine Ir T _ ?_ ?_<;>unfold Ni<;>split
  ·exact a
  ·exact C4 a t
  ·exact b
  ·exact fun k hk=>b k (List.mem_filter.1 hk).1
theorem ybq(h:Fm ks=true)(hl:∀k∈ks,Hs now k=true):Left ks now (Oj c ks T):=by
 cases c using Cm.elim
 case DEL=>
  obtain⟨a,b⟩:=Ir T (ks,0) h hl;exact⟨fun e=>(by cases e),a,b⟩
 case FLUSHALL=>exact⟨fun e=>(by cases e),rfl,fun k hk=>(by cases hk)⟩
 all_goals exact Tj h hl _
theorem znv(h:Fm ks=true)(hl:∀k∈ks,Hs now k=true)(hk:Hs now k=true)(h1:k.due≠0->k∈ks)(h2:th=true->k∈ks)(hn:0<=now/\now<=1000000000):Left ks now (Mh c ks k th now T):=by
 unfold Mh;split
 ·exact ybe h hl hk
 ·exact zwa h hl hk
 ·exact ybj h hl hk
 ·exact zy8 h hl hk
 ·exact yew h hl h1 h2 hn
theorem left_done(h:Fm ks=true)(hl:∀k∈ks,Hs now k=true)(hn:0<=now/\now<=1000000000):Left ks now (Lc ks now T):=by
 unfold Lc;split
 ·exact Tj h hl _
 ·split
  ·split
   ·exact ybq h hl
   ·unfold Np;split
    ·exact znv h hl rfl (fun e=>absurd rfl e) (fun e=>by cases e) hn
    ·rename_i hf;split
     ·exact Tj h hl _
     ·have hm:ks.getD (Lm ks (Fa T.tail 0) 0).toNat ke0∈ks:=by
       rcases Ba ks (Fa T.tail 0) 0 with e|⟨i,hi,e⟩
       ·exact absurd (by rw[e];decide) hf
       ·rw[e,Int.toNat_natCast,Qq,Qa,Qd hi];exact Qv hi
      exact znv h hl (hl _ hm) (fun _=>hm) (fun _=>hm) hn
  ·exact Tj h hl _
end
theorem zw5{ks:List Ke}{now:Int}:∀k∈Hb ks now,Hs now k=true:=fun _ hk=>(List.mem_filter.1 hk).2
theorem zt0{ks:List Ke}{now:Int}(h:∀k∈ks,Hs now k=true):Hb ks now=ks:=List.filter_eq_self.2 h
theorem Fp:∀l:List UInt8,bytesBefore l l=false
 |[]=>rfl
 |x::l=>by
  unfold bytesBefore;simp[Fp l]
theorem H6{ks:List Ke}(h:Ri.UpK ks):ks.Pairwise fun x y=>x.name≠y.name:=
 List.Pairwise.imp (fun {x y} hxy e=>by rw[e,Fp]at hxy;cases hxy) h
theorem Im:∀{ks:List Ke}{k:Ke}(s:Nat),(ks.Pairwise fun x y=>x.name≠y.name)->k∈ks->∃i,Lm ks k.name s=((s+i:Nat):Int)/\ks.getD i ke0=k
 |[],_,_,_,h=>by cases h
 |x::ks,k,s,hp,h=>by
  unfold Lm;by_cases e:x.name=k.name
  ·rw[if_pos e];refine⟨0,rfl,?_⟩;rcases List.mem_cons.1 h with q|q
   ·exact q.symm
   ·exact absurd e ((List.pairwise_cons.1 hp).1 k q)
  ·rw[if_neg e];rcases List.mem_cons.1 h with q|q
   ·exact absurd (by rw[q]) e
   ·obtain⟨i,h1,h2⟩:=Im (s+1) (List.pairwise_cons.1 hp).2 q;exact⟨i+1,by rw[h1];congr 1;omega,h2⟩
theorem Mb:∀{ks:List Ke}{nm:ByteArray}(s:Nat),(∀k∈ks,k.name≠nm)->Lm ks nm s= -1
 |[],_,_,_=>rfl
 |x::ks,nm,s,h=>by
  unfold Lm;rw[if_neg (h x (by simp))];exact Mb (s+1) fun k hk=>h k (List.mem_cons_of_mem _ hk)
theorem Lt{ks:List Ke}(h:Fm ks=true)(hk:k∈ks)(now:Int)(A:List ByteArray)(hc:c.kind=0\/k.val.kind=(c.kind:Int)):Np c ks now (k.name::A)=Mh c ks k true now (k.name::A):=by
 obtain⟨i,h1,h2⟩:=Im 0 (H6 (Ri.Wb h)) hk;unfold Np;have ea:Fa (k.name::A) 0=k.name:=rfl;rw[ea,h1,if_neg (by omega),Int.toNat_natCast,Qq,h2,if_neg (by omega)]
theorem yle{ks:List Ke}(hk:∀k∈ks,k.name≠nm)(now:Int)(A:List ByteArray):Np c ks now (nm::A)=Mh c ks (Mr nm c.kind) false now (nm::A):=by
 unfold Np;have ea:Fa (nm::A) 0=nm:=rfl;rw[ea,Mb 0 hk,if_pos (by decide)]
theorem ylq:(Cm.all.all fun c=>decide (Nn (H9 c.text)=some c))=true:=by kernel_rfl
theorem ylz(c:Cm):c∈Cm.all:=by
 revert c;decide
theorem Hq(c:Cm)(ks:List Ke)(now:Int)(A:List ByteArray):Lc ks now (c.text::A)=if c.fits A.length=true then(if c.many=true then Oj c ks A else Np c ks now A) else(ks,Fl Pk):=by
 unfold Lc;have ea:Fa (c.text::A) 0=c.text:=rfl;rw[ea,Qg (Qw.1 ylq c (ylz c))];rfl
theorem zwp{ks:List Ke}{now:Int}(h:Fm ks=true)(hl:∀k∈ks,Hs now k=true)(hn:0<=now/\now<=1000000000)(h1:1<=T.length)(h16:T.length<=16)(hs:∀t∈T,t.size<=200):Nj ks now T=Lc ks now T:=by
 have ha:Oe T=true:=by
  unfold Oe;rw[Qh,Qw];refine⟨fun i hi=>Qe ?_,Qe h16⟩;have hi:=List.mem_range.1 hi;rw[Qa,Qd hi];exact hs _ (Qv hi)
 have ho:Tt ks now T=true:=by
  unfold Tt Lp;rw[h,ha,Qe hn.1,Qe hn.2,Qe h1];rfl
 unfold Nj;rw[ho,if_pos rfl,zt0 hl]
theorem G4{ks:List Ke}(h:Fm ks=true)(k:Ke):k∈G0 ks k:=by
 rw[Rb.Wz k ((Rb.Ns ks).1 h).2.1];exact Rb.V9 _ _
theorem ylo{ks:List Ke}:∀k∈G5 ks nm,k.name≠nm:=fun _ hk=>(Rb.Ih hk).2
theorem ymb{ks:List Ke}(h:Pl (Fj ks k R).2=false):(Ml k=true/\Fj ks k R=(G5 ks k.name,R))\/(Ml k=false/\Fm (G0 ks k)=true/\Fj ks k R=(G0 ks k,R)):=by
 unfold Fj at h ⊢;cases he:Ml k with
 |true=>exact .inl ⟨rfl,by rw[if_pos rfl]⟩
 |false=>
  rw[he,if_neg (by simp)]at h;cases hs:Fm (G0 ks k)with
  |true=>exact .inr ⟨rfl,rfl,by rw[if_neg (by simp),if_pos rfl]⟩
  |false=>
   rw[hs,if_neg (by simp)]at h;cases h
def Fw (ks:List Ke) (nm:ByteArray):Option Ke:=ks.find? fun x=>decide (x.name=nm)
theorem ylh{ks:List Ke}(h:Fw ks nm=some k):k∈ks/\k.name=nm:=
 ⟨List.mem_of_find?_eq_some h,by
  have:=List.find?_some h;exact Qg this⟩
theorem ylg{ks:List Ke}(h:Fw ks nm=none):∀k∈ks,k.name≠nm:=fun k hk e=>by
 have:=List.find?_eq_none.1 h k hk;exact this (Qe e)
theorem L7(ks:List Ke)(nm:ByteArray):(Fw ks nm=none/\∀k∈ks,k.name≠nm)\/∃k,Fw ks nm=some k/\k∈ks/\k.name=nm:=by
 cases h:Fw ks nm with
 |none=>exact .inl ⟨rfl,ylg h⟩
 |some k=>exact .inr ⟨k,rfl,ylh h⟩
theorem C6(c:Cm){ks:List Ke}(h:Fm ks=true)(hk:k∈ks)(now:Int)(A:List ByteArray)(hf:c.fits (A.length+1)=true)(hm:c.many=false)(hc:c.kind=0\/k.val.kind=(c.kind:Int)):Lc ks now (c.text::k.name::A)=Mh c ks k true now (k.name::A):=by
 rw[Hq,Q1,if_pos hf,if_neg (by rw[hm];simp),Lt h hk now A hc]
theorem ylm(c:Cm){ks:List Ke}(hk:∀k∈ks,k.name≠nm)(now:Int)(A:List ByteArray)(hf:c.fits (A.length+1)=true)(hm:c.many=false):Lc ks now (c.text::nm::A)=Mh c ks (Mr nm c.kind) false now (nm::A):=by
 rw[Hq,Q1,if_pos hf,if_neg (by rw[hm];simp),yle hk now A]
theorem yme{ks:List Ke}(h:Fm ks=true)(hk:k∈ks)(now:Int)(A:List ByteArray)(h0:c.kind≠0)(hc:k.val.kind≠(c.kind:Int)):Np c ks now (k.name::A)=(ks,R6):=by
 obtain⟨i,h1,h2⟩:=Im 0 (H6 (Ri.Wb h)) hk;unfold Np;have ea:Fa (k.name::A) 0=k.name:=rfl;rw[ea,h1,if_neg (by omega),Int.toNat_natCast,Qq,h2,if_pos ⟨by omega,hc⟩]
def DbR (w:World) (v:Value) (ks:List Ke):Prop:=∃a A c L,v= .slice a ks.length c/\Oc w a A L.length L/\L.map KV.key=ks
def RpR (w:World) (v:Value) (R:List Rp):Prop:=∃a g c,v= .slice a R.length c/\T5 w a g R
theorem DbR.bw{ks:List Ke}(h:DbR w v ks)(hb:Bl w w'):DbR w' v ks:=by
 obtain⟨a,A,c,L,e,hd,hk⟩:=h;exact⟨a,A,c,L,e,hd.bw hb,hk⟩
theorem RpR.bw(h:RpR w v R)(hb:Bl w w'):RpR w' v R:=by
 obtain⟨a,g,c,e,hr⟩:=h;exact⟨a,g,c,e,hr.bw hb⟩
theorem Il(h:Fv w B v L):DbR w v (L.map KV.key):=by
 obtain⟨a,A,c,e,hd⟩:=h.at;exact⟨a,A,c,L,by rw[Qp];exact e,hd,rfl⟩
def Ug (w:World) (p:List Ke×List Rp) (e:Ending) (w':World):Prop:=
 ∃v r,e= .returned (.tuple #[v,r])/\DbR w' v p.1/\RpR w' r p.2/\Bl w w'
theorem ybv(h:Rb.Bu w p e w'):Ug w p e w':=by
 obtain⟨v,r,L,rfl,hk,ho,hv,hr,hb⟩:=h;obtain⟨a,A,c,e,Sz⟩:=Uw ho;exact⟨v,r,rfl,⟨a,A,c,L,by rw[<-hk,Qp];exact e,⟨Sz,fun i hi=>⟨_,hv.own _ (by rw[Qa,Qd hi];exact Qv hi)⟩⟩,hk⟩,yfp hr,hb⟩
theorem zy0(h:Fh w B p e w'):Ug w p e w':=by
 obtain⟨v,r,L,rfl,hk,ho,hr,hb⟩:=h;exact⟨v,r,rfl,by rw[<-hk];exact Il ho,yfp hr,hb⟩
theorem Ct(h:Rb.Px w ad)(hb:Bl w W):Rb.Px W ad:=by
 have hs:=hb.size;have n25:=h.es.er.n25;have q:=h.es.bw hb;refine⟨⟨⟨q.er.rd,q.er.fd,fun i hi=>⟨(q.er.er i hi).1,Qr (q.er.er i hi).2 hs⟩,by omega⟩,q.ms⟩,fun i hi=>(h.ev i hi).bw hb n25 (h.ev i hi).low,h.ne,(hb.cell (p:=⟨3,0,none⟩) (by show 3<_;omega)).trans h.g7⟩
def C3 (ks:List Ke):Prop:=O7 ks/\ks.length<=1000
theorem zlo(h:O7 (L.map KV.key)):Small L:=fun i hi=>by
 have k:=h _ (List.mem_map.2 ⟨L.getD i kv0,by rw[Qa,Qd hi];exact Qv hi,rfl⟩);exact⟨⟨k.fit.fit,k.np,k.nums⟩,k.fit.name⟩
theorem yhr{ks:List Ke}(h:Fm ks=true):C3 ks:=by
 obtain⟨h1,h2⟩:=zrs h;exact⟨h1,by omega⟩
theorem znu(v:Value)(ks:List Ke)(now:Int)(aa:Option Addr)(ab ao m ac:Nat)(T:List ByteArray)(ad:Nat->Addr)(w:World)(h:DbR w v ks)(hg:C3 ks)(ha:Fs w aa ab ao m T)(hm:m<=1000)(hac:m<=ac)(hE:Rb.Px w ad):
  Calls prog 14 #[v,.int .i64 now,.slice aa m ac] w (Ug w (Nj ks now T)):=by
 obtain⟨a,A,c,L,rfl,hd,rfl⟩:=h;have hl:=hg.2;rw[Qp]at hl ⊢;exact(Rb.zs4 a A L.length c L now aa ab ao m ac T ad w hd (zlo hg.1) (by omega) ha hm hac hE).mono fun e w' he=>ybv he
theorem zvx(B:Nat)(v:Value)(L:List KV)(now:Int)(aa:Option Addr)(ab ao m ac:Nat)(T:List ByteArray)(w:World)(h:Fv w B v L)(hg:C3 (L.map KV.key))(ha:Fs w aa ab ao m T)(hm:m<=1000)(hac:m<=ac):
  Calls prog 15 #[v,.int .i64 now,.slice aa m ac] w (Ug w (Nj (L.map KV.key) now T)):=by
 have hl:=hg.2;rw[Qp]at hl;exact(zj3 B v L now aa ab ao m ac T w h hg.1.k hl ha hm hac).mono fun e w' he=>zy0 he
theorem zjk(r r':Value)(R:List Rp)(w:World)(h:RpR w r R)(h':RpR w r' R)(hR:R=[]\/RpS R):
  Calls prog 17 #[r,r'] w fun e w'=>e=.returned (.bool true)/\Bl w w':=by
 obtain⟨a,g,c,rfl,hr⟩:=h;obtain⟨a',g',c',rfl,Sz⟩:=h';have hs:R.length<=41/\∀r∈R,r.kids.length<=41:=by
  rcases hR with rfl|⟨_,h2,h3⟩
  ·exact⟨by simp,fun r hr=>by cases hr⟩
  ·exact⟨h2,fun r hr=>(h3 r hr).1⟩
 refine(zqk a a' g g' c c' R w hr Sz (by omega) (fun r hr=>by have:=hs.2 r hr;omega)).mono ?_;rintro e w'⟨rfl,q,rfl⟩;exact⟨rfl,Hp.below_drewN w q⟩
theorem yli(r:Value)(R:List Rp)(w:World)(h:RpR w r R)(hn:R.length<=41):Calls prog 18 #[r] w fun e w'=>e=.returned (.bool (Pl R))/\w'=w:=by
 obtain⟨a,g,c,rfl,hr⟩:=h;exact Ly a g c R w hr (by omega)
theorem zmx(ks:List Ke)(now:Int)(T:List ByteArray):(Tt ks now T=false/\Nj ks now T=([],[]))\/(Tt ks now T=true/\Fm ks=true/\(0<=now/\now<=1000000000)/\T.length<=16/\1<=T.length/\(∀i,i<T.length->(Fa T i).size<=200)/\Nj ks now T=Lc (Hb ks now) now T/\Left (Hb ks now) now (Lc (Hb ks now) now T)/\RpS (Lc (Hb ks now) now T).2):=by
 cases h:Tt ks now T with
 |false=>exact .inl ⟨rfl,by unfold Nj;rw[h,if_neg (by simp)]⟩
 |true=>
  have h0:=h;unfold Tt at h;simp only[Qh,decide_eq_true_eq]at h;obtain⟨h1,h2,h3,h4⟩:=h;unfold Lp at h2;simp only[Qh,decide_eq_true_eq]at h2;obtain⟨u1,u2⟩:=E6 h4;exact .inr ⟨rfl,h1,h2,u1,h3,u2,by unfold Nj;rw[h0,if_pos rfl],left_done (Rb.E7 h1 now) zw5 h2,yg8 (zn0 (T8 h1)) u2⟩
structure Pq (w1:World) (v:Value) (ks:List Ke) (now:Int) (aa:Option Addr) (ab ao m ac:Nat) (T:List ByteArray) (ad:Nat->Addr):Prop where
 own:∃B L,Fv w1 B v L/\L.map KV.key=ks
 good:C3 ks
 args:Fs w1 aa ab ao m T
 len:T.length=m
 few:m<=6
 cap:m<=ac
 env:Rb.Px w1 ad
theorem Pq.bw{ks:List Ke}{now:Int}(h:Pq w1 v ks now aa ab ao m ac T ad)(hb:Bl w1 W):Pq W v ks now aa ab ao m ac T ad:=by
 obtain⟨B,L,ho,hk⟩:=h.own;exact⟨⟨B,L,ho.bw hb,hk⟩,h.good,Lb h.args hb,h.len,h.few,h.cap,Ct h.env hb⟩
theorem Pq.db{ks:List Ke}{now:Int}(h:Pq w1 v ks now aa ab ao m ac T ad):DbR w1 v ks:=by
 obtain⟨B,L,ho,rfl⟩:=h.own;exact Il ho
theorem Pq.impl{ks:List Ke}{now:Int}(h:Pq w1 v ks now aa ab ao m ac T ad):
  Calls prog 14 #[v,.int .i64 now,.slice aa m ac] w1 (Ug w1 (Nj ks now T)):=
 znu v ks now aa ab ao m ac T ad w1 h.db h.good h.args (by have:=h.few;omega) h.cap h.env
theorem Pq.spec{ks:List Ke}{now:Int}(h:Pq w1 v ks now aa ab ao m ac T ad):
  Calls prog 15 #[v,.int .i64 now,.slice aa m ac] w1 (Ug w1 (Nj ks now T)):=by
 have hf:=h.few;have hg:=h.good;obtain⟨B,L,ho,rfl⟩:=h.own;exact zvx B v L now aa ab ao m ac T w1 ho hg h.args (by omega) h.cap
theorem zz0(a:Option Addr)(n c:Nat)(w:World)(hn:n<=9223372036854775807)(hb:BytesIn w a n w.heap.size)(ad:Nat->Addr)(hE:Rb.Px w ad):
  Calls prog 13 #[.slice a n c] w fun e w1=>∃v ks now aa ab ao m ac T,e=.returned (.tuple #[v,.int .i64 now,.slice aa m ac])/\Pq w1 v ks now aa ab ao m ac T ad/\Bl w w1:=by
 refine(ydt a n c w hn hb).mono ?_;rintro e w1⟨B,v,L,now,aa,ab,ao,ac,T,rfl,Sz,Va,Vf,Vb,Vc,Vd,Ve,b1⟩;exact⟨v,L.map KV.key,now,aa,ab,ao,T.length,ac,T,rfl,⟨⟨B,L,Sz,rfl⟩,⟨Va,by rw[Qp];omega⟩,Vb,rfl,Vc,Vd,Ct hE b1⟩,b1⟩
theorem F9(L:List KV)(nm:ByteArray):(Ri.Fq L nm).map KV.key=Fw (L.map KV.key) nm:=by
 unfold Ri.Fq Fw;rw[List.find?_map];rfl
def yl1 (w:World) (o:Option Ke) (e:Ending) (w':World):Prop:=
 ∃k a1 c1 a2 c2 a3 c3,e= .returned (.tuple #[.agg #[.string k.name,.int .i64 k.val.kind,.string k.val.text,.slice a1 k.val.ia.length c1,.slice a2 k.val.pj.length c2,.slice a3 k.val.rq.length c3,.int .i64 k.due],.bool o.isSome])/\k=o.getD ke0/\(∃A,Fs w' a1 A 0 k.val.ia.length k.val.ia)/\Bl w w'
theorem Ld(w:World)(a:Addr)(u:Value):w.grownBy (w.setCell a u) (some a.block):=
 ⟨rfl,rfl,rfl,by simp,fun k _ hk=>heap_setCell_other w a k u (fun e=>hk (by rw[e]))⟩
theorem Ff(w:World)(g i:Nat)(u:Value):w.grownBy (w.setCell ⟨g,i,none⟩ u) (some g):=Ld w ⟨g,i,none⟩ u
theorem ylk{T:TypeId}{c0 c1 c2 c3 c4 c5 c6:Value}(r0:Fc W g T #[c0,c1,c2,c3,c4,c5,c6])(v0 v1 v2 v3 v4 v5 v6:Value):
  ∃W7,((((((W.setCell ⟨g,0,none⟩ v0).setCell ⟨g,1,none⟩ v1).setCell ⟨g,2,none⟩ v2).setCell ⟨g,3,none⟩ v3).setCell ⟨g,4,none⟩ v4).setCell ⟨g,5,none⟩ v5).setCell ⟨g,6,none⟩ v6=W7/\Fc W7 g T #[v0,v1,v2,v3,v4,v5,v6]/\W.grownBy W7 (some g):=by
 have r1:Fc _ g T #[v0,c1,c2,c3,c4,c5,c6]:=r0.set 0 v0;have r2:Fc _ g T #[v0,v1,c2,c3,c4,c5,c6]:=r1.set 1 v1;have r3:Fc _ g T #[v0,v1,v2,c3,c4,c5,c6]:=r2.set 2 v2;have r4:Fc _ g T #[v0,v1,v2,v3,c4,c5,c6]:=r3.set 3 v3;have r5:Fc _ g T #[v0,v1,v2,v3,v4,c5,c6]:=r4.set 4 v4;have r6:Fc _ g T #[v0,v1,v2,v3,v4,v5,c6]:=r5.set 5 v5;have r7:Fc _ g T #[v0,v1,v2,v3,v4,v5,v6]:=r6.set 6 v6;exact⟨_,rfl,r7,((((((Ff W g 0 v0).trans (Ff _ g 1 v1)).trans (Ff _ g 2 v2)).trans (Ff _ g 3 v3)).trans (Ff _ g 4 v4)).trans (Ff _ g 5 v5)).trans (Ff _ g 6 v6)⟩
theorem Ht(h:Bl w w')(g:Nat):w.grownBy w' (some g):=
 ⟨h.os,h.tape,h.output,h.size,fun k hk _=>h.block k hk⟩
abbrev z7A:Array Value:= #[.string ⟨#[]⟩,.int .i64 0,.string ⟨#[]⟩,.slice none 0 0,.slice none 0 0,.slice none 0 0,.int .i64 0]
theorem yln{b:Nat}(h:Ri.Ts w b n L w1)(nm:ByteArray):∃B,VOwn w1 B (Rb.Fb L nm).key.val (Rb.Fb L nm).vi (Rb.Fb L nm).vp (Rb.Fb L nm).vr:=by
 rcases Rb.Oo L nm with⟨-,e⟩|⟨-,hm,-⟩
 ·rw[e];exact⟨0,ydv w1 0 0⟩
 ·obtain⟨i,hi,e⟩:=List.getElem_of_mem hm;obtain⟨β,hβ⟩:=h.vals;have:=hβ.own i hi;rw[Qa,Qd hi,Option.getD_some,e]at this;exact⟨_,this⟩
theorem ylt(v:Value)(ks:List Ke)(now:Int)(nm:ByteArray)(w:World)(h:DbR w v ks)(hok:Fm ks=true)(hR:Ready w)(hs:nm.size<=1048576):
  Calls prog 24 #[v,.int .i64 now,.string nm] w (yl1 w (Fw (Hb ks now) nm)):=by
 obtain⟨a,A,c,L,rfl,hd,rfl⟩:=h;have hg:=yhr hok;have hl:=hg.2;rw[Qp]at hl ⊢;obtain⟨W0,Vf,Vj,b0,r0⟩:=boxed w z7A 47;have HA:Hid (Cp 47 #[.slice a L.length c,.int .i64 now] W0 (Ri.Cv W0 true now (L.map KV.key))):=by
  have:=Ri.Ie a A L.length c L now W0 (hd.bw b0) (zlo hg.1) (by omega) (hR.bw (b0.mono hR.six));rw[hok]at this;exact this
 have q0:W0.heap.size=w.heap.size+1:=by rw[<-Vf];simp
 have Vk:∀k∈L.map KV.key,∀t∈k.val.ia,t.size<=1048576:=fun k hk t ht=>Qj ((We ((T8 hok).2 k hk)).ia t ht) (by decide);have Vh:(L.map KV.key).filter (Ri.Oy now)=Hb (L.map KV.key) now:=Rb.Id now _;clear hd hR hg hl Vf;have HB:Hid (Bl w W0):=b0;have Vg:Hid (Fc W0 w.heap.size 47 z7A):=r0;have HQ:Hid (W0.heap.size=w.heap.size+1):=q0;clear b0 r0 q0;generalize hM:yl1 w (Fw (Hb (L.map KV.key) now) nm)=M;have HM:Hid (yl1 w (Fw (Hb (L.map KV.key) now) nm)=M):=hM;clear hM;generalize hG:w.heap.size=G at*;go_enter func24,ntmps24;go_upto_region 1 with fail;rw[Vj.out];clear Vj;go_wp2_with fail;refine HA.out.mono ?_;rintro e w1 (⟨ho,_⟩|⟨_,bM,L',rfl,hk,hi⟩)
 ·cases ho
 rw[Vh]at hk;have Sz:=Ri.Ig hi.own nm (Qj hs (by decide));rw[Rb.Cw]at Sz;obtain⟨a1,n1,c1,a2,n2,c2,a3,n3,c3,e1,e2,e3⟩:=Rb.Ro hi.own nm (Qj hs (by decide));have HO:Hid ((Ri.Fq L' nm).isSome=(Fw (Hb (L.map KV.key) now) nm).isSome/\(Rb.Fb L' nm).key=(Fw (Hb (L.map KV.key) now) nm).getD ke0):=by
  rw[<-hk,<-F9];unfold Rb.Fb;cases Ri.Fq L' nm<;>exact⟨rfl,rfl⟩
 obtain⟨B,hv⟩:=yln hi nm;have Vd:∀t∈(Rb.Fb L' nm).key.val.ia,t.size<=1048576:=by
  rcases Rb.Oo L' nm with⟨-,e⟩|⟨-,hm,-⟩
  ·rw[e];intro t ht;cases ht
  ·have Vi:=List.mem_map_of_mem (f:=KV.key) hm;rw[hk]at Vi;exact Vk _ (List.mem_filter.1 Vi).1
 have Vn:=hv.at Vd;obtain⟨⟨a1,_,c1,e1,_⟩,⟨a2,_,c2,e2,_⟩,⟨a3,_,c3,e3,_⟩⟩:=Vn;have b1:=hi.bel;have Vc:Fc w1 G 47 z7A:=Fc.bw Vg.out b1 (by have:=HQ.out;omega);have Vo:G<w1.heap.size:=Vc.lt;unfold Ri.kvA kC at Sz;rw[e1,e2,e3]at Sz;generalize hK:(Rb.Fb L' nm).key=K at*;obtain⟨W3,_,E3,b3,r3⟩:=boxed w1 #[.string K.name,.int .i64 K.val.kind,.string K.val.text,.slice a1 K.val.ia.length c1,.slice a2 K.val.pj.length c2,.slice a3 K.val.rq.length c3,.int .i64 K.due] 47;have Va:Fc W3 G 47 z7A:=Fc.bw Vc b3 Vo;obtain⟨W4,E4,r4,g4⟩:=ylk Va (.string K.name) (.int .i64 K.val.kind) (.string K.val.text) (.slice a1 K.val.ia.length c1) (.slice a2 K.val.pj.length c2) (.slice a3 K.val.rq.length c3) (.int .i64 K.due);have Ve:w1.grownBy W4 (some G):=(Ht b3 G).trans g4;have Vb:(∃A,Fs W4 a1 A 0 K.val.ia.length K.val.ia)/\Bl w W4:=by
  constructor
  ·have Vm:=(Wf hv fun g e C he hC=>Ve.block g hC.lt (fun eq=>by
    cases eq;have:=hC.symm.trans Vc;injection this with this;injection this with _ this;exact he this)).at Vd
   obtain⟨a',A',c',e',h'⟩:=Vm.ia;rw[e1]at e';injection e' with ea _ _;subst ea;exact⟨A',h'⟩
  ·exact(HB.out.trans (b1.mono (by have:=HB.out.size;omega))).grown Ve (by omega) (fun k hk=>by injection hk with hk;omega)
 have HF:Hid (M (.returned (.tuple #[.agg #[.string K.name,.int .i64 K.val.kind,.string K.val.text,.slice a1 K.val.ia.length c1,.slice a2 K.val.pj.length c2,.slice a3 K.val.rq.length c3,.int .i64 K.due],.bool (Ri.Fq L' nm).isSome])) W4):=by
  rw[<-HM.out];exact⟨K,a1,c1,a2,c2,a3,c3,by rw[HO.out.1],HO.out.2,Vb.1,Vb.2⟩
 obtain⟨y0,y1,y2,y3,y4,y5,y6⟩:=F6 r3;obtain⟨x0,x1,x2,x3,x4,x5,x6⟩:=F6 r4;obtain⟨z0,z1,z2,z3,z4,z5,z6⟩:=F6 Va;have HX:Hid (_/\_/\_/\_/\_/\_/\_):=⟨x0,x1,x2,x3,x4,x5,x6⟩;have q0:=Va.frozen 0;have q1:=Va.frozen 1;have q2:=Va.frozen 2;have q3:=Va.frozen 3;have q4:=Va.frozen 4;have q5:=Va.frozen 5;have q6:=Va.frozen 6;have Vp:Hid _:=E4;generalize(Ri.Fq L' nm).isSome=b,K.val.ia.length=m1,K.val.pj.length=m2,K.val.rq.length=m3,K.name=kn,K.val.kind=kk,K.val.text=kt,K.due=kd at*;clear E4 r4 g4 Ve Vb hv Vd e1 e2 e3 hi b3 b1 Vc Va r3 x0 x1 x2 x3 x4 x5 x6 HO hk HM HA Vk Vh HB Vg HQ hG hok;go_upto_region 2 with fail;clear E3 Sz;go_wp2;rw[Vp.out];obtain⟨x0,x1,x2,x3,x4,x5,x6⟩:=HX.out;exact bodyPost_ret (v:=.tuple #[.agg #[.string kn,.int .i64 kk,.string kt,.slice a1 m1 c1,.slice a2 m2 c2,.slice a3 m3 c3,.int .i64 kd],.bool b]) (by simp[results,results24,go_sem,x0,x1,x2,x3,x4,x5,x6]) rfl HF.out
theorem Hv{G:Nat}{C:Array Value}(r:Fc W G 9 C)(e:C=(T.map Value.string).toArray)(hs:∀t∈T,t.size<=200):Fs W (some ⟨G,0,none⟩) G 0 T.length T:=by
 subst e;refine⟨rfl,fun _=>rfl,fun _=>r.lt,fun i hi=>?_,fun i hi=>?_⟩
 ·rw[Qq,r.cell i,Qm,List.getElem?_map,Qd hi,Qa,Qd hi];rfl
 ·rw[Qa,Qd hi];exact Qj (hs _ (Qv hi)) (by decide)
section
variable (C:Array Value) (T:List ByteArray)
theorem yly(e:C=(T.map Value.string).toArray)(h1:1<=T.length)(h16:T.length<=16)(hs:∀t∈T,t.size<=200){ks:List Ke}{now:Int}(hd:DbR w v ks)(hok:Fm ks=true)(hl:∀k∈ks,Hs now k=true)(hn:0<=now/\now<=1000000000)(hE:Rb.Px w ad)(hp:Lc ks now T=p)(W:World)(hW:Bl w W):
  ∃W',Hid (W.alloc (.cells C 9)=W')/\Hid (∀X,Bl W' X->Cp 14 #[v,.int .i64 now,.slice (some ⟨W.heap.size,0,none⟩) T.length T.length] X fun e w'=>∃v r,e=.returned (.tuple #[v,r])/\DbR w' v p.1/\RpR w' r p.2/\Bl w w'/\Bl W w'):=by
 obtain⟨W',_,Sz,b,r⟩:=boxed W C 9;refine⟨W',Sz,fun X hX=>?_⟩;have bX:Bl W X:=b.trans (hX.mono b.size);have bb:Bl w X:=hW.trans (bX.mono hW.size);have:=znu v ks now (some ⟨W.heap.size,0,none⟩) W.heap.size 0 T.length T.length T ad X (hd.bw bb) (yhr hok) (Hv (Fc.bw r hX r.lt) e hs) (by omega) (Qc _) (Ct hE bb);rw[zwp hok hl hn h1 h16 hs,hp]at this;refine this.mono ?_;rintro e w'⟨v,r,rfl,h1,h2,h3⟩;exact⟨v,r,rfl,h1,h2,bb.trans (h3.mono bb.size),bX.trans (h3.mono bX.size)⟩
theorem ylu(e:C=(T.map Value.string).toArray)(h1:1<=T.length)(h16:T.length<=16)(hs:∀t∈T,t.size<=200){ks:List Ke}{now:Int}(hd:DbR w v ks)(hok:Fm ks=true)(hl:∀k∈ks,Hs now k=true)(hn:0<=now/\now<=1000000000)(hE:Rb.Px w ad)(hp:Lc ks now T=p)(W:World)(hW:Bl w W):
  ∃W',Hid (W.alloc (.cells C 9)=W')/\Hid (Cp 14 #[v,.int .i64 now,.slice (some ⟨W.heap.size,0,none⟩) T.length T.length] W' fun e w'=>∃v r,e=.returned (.tuple #[v,r])/\DbR w' v p.1/\RpR w' r p.2/\Bl w w'/\Bl W w'):=by
 obtain⟨W',h1,h2⟩:=yly C T e h1 h16 hs hd hok hl hn hE hp W hW;exact⟨W',h1,h2.out _ (Qb _ _)⟩
end
theorem G9(a:Option Addr)(g c:Nat)(R:List Rp)(w:World)(h:T5 w a g R)(p:Option Addr)(m pc:Nat)(hk:R.length=1->w.cell? ⟨g,3,none⟩=some (.slice p m pc))(hk':R.length≠1->p=none/\m=0/\pc=0)(hn:R.length<=1048577):Calls prog 23 #[.slice a R.length c] w fun e w'=>e=.returned (.agg #[.int .i64 (Pw R).kind,.int .i64 (Pw R).n,.string (Pw R).s,.slice p m pc])/\Bl w w':=by
 obtain⟨W0,Vc,Vb,b0,r0⟩:=boxed w #[.int .i64 0,.int .i64 0,.string ⟨#[]⟩,.slice none 0 0] 40;have y0:=r0.cell 0;have y1:=r0.cell 1;have y2:=r0.cell 2;have y3:=r0.cell 3;have z0:=r0.frozen 0;have z1:=r0.frozen 1;have z2:=r0.frozen 2;have z3:=r0.frozen 3;simp only[Qm,Qk,Ql]at y0 y1 y2 y3;have Sz:=Qc w.heap.size;by_cases h1:R.length=1
 ·obtain⟨r,rfl⟩:=List.length_eq_one_iff.1 h1;obtain⟨j0,j1,j2,_⟩:=(h.bw b0).cell 0 (by simp);have j3:=hk rfl;obtain⟨rfl,hg⟩:=h.addr (by simp);have j3:=(b0.cell (p:=⟨g,3,none⟩) hg).trans j3;clear hk hk' hg;obtain⟨rk,rn,rs,rc⟩:=r;have k0:W0.cell? ⟨g,0,none⟩=some (.int .i64 rk):=j0;have k1:W0.cell? ⟨g,1,none⟩=some (.int .i64 rn):=j1;have k2:W0.cell? ⟨g,2,none⟩=some (.string rs):=j2;have k3:W0.cell? ⟨g,3,none⟩=some (.slice p m pc):=j3;have e:Pw [⟨rk,rn,rs,rc⟩]=⟨rk,rn,rs,rc⟩:=rfl;rw[e];clear j0 j1 j2 j3;have r1:Fc _ w.heap.size 40 #[.int .i64 rk,.int .i64 0,.string ⟨#[]⟩,.slice none 0 0]:=r0.set 0 (.int .i64 rk);have r2:Fc _ w.heap.size 40 #[.int .i64 rk,.int .i64 rn,.string ⟨#[]⟩,.slice none 0 0]:=r1.set 1 (.int .i64 rn);have r3:Fc _ w.heap.size 40 #[.int .i64 rk,.int .i64 rn,.string rs,.slice none 0 0]:=r2.set 2 (.string rs);have r4:Fc _ w.heap.size 40 #[.int .i64 rk,.int .i64 rn,.string rs,.slice p m pc]:=r3.set 3 (.slice p m pc);have b4:=(((b0.setCell (p:=⟨w.heap.size,0,none⟩) Sz (.int .i64 rk)).setCell (p:=⟨w.heap.size,1,none⟩) Sz (.int .i64 rn)).setCell (p:=⟨w.heap.size,2,none⟩) Sz (.string rs)).setCell (p:=⟨w.heap.size,3,none⟩) Sz (.slice p m pc);have HQ:Hid _:=And.intro r4 b4;clear h h1 hn e r0 r1 r2 r3 r4 b4 b0 Vc;show Calls prog 23 #[.slice (some ⟨g,0,none⟩) 1 c] w _;go_enter func23,ntmps23;go_upto_region 1 with fail;rw[Vb.out];clear Vb;go_wp2;obtain⟨rr,Va⟩:=HQ.out;have q0:=rr.cell 0;have q1:=rr.cell 1;have q2:=rr.cell 2;have q3:=rr.cell 3;simp only[Qm,Qk,Ql]at q0 q1 q2 q3;exact bodyPost_ret (v:=.agg #[.int .i64 rk,.int .i64 rn,.string rs,.slice p m pc]) (by simp[results,results23,go_sem,q0,q1,q2,q3]) rfl ⟨rfl,Va⟩
 ·obtain⟨rfl,rfl,rfl⟩:=hk' h1;clear hk hk';have e:Pw R=⟨0,0,⟨#[]⟩,[]⟩:=if_neg h1;rw[e];have r1:Fc _ w.heap.size 40 #[.int .i64 0,.int .i64 0,.string ⟨#[]⟩,.slice none 0 0]:=r0.set 0 (.int .i64 0);have r2:Fc _ w.heap.size 40 #[.int .i64 0,.int .i64 0,.string ⟨#[]⟩,.slice none 0 0]:=r1.set 1 (.int .i64 0);have r3:Fc _ w.heap.size 40 #[.int .i64 0,.int .i64 0,.string ⟨#[]⟩,.slice none 0 0]:=r2.set 2 (.string ⟨#[]⟩);have r4:Fc _ w.heap.size 40 #[.int .i64 0,.int .i64 0,.string ⟨#[]⟩,.slice none 0 0]:=r3.set 3 (.slice none 0 0);have b4:=(((b0.setCell (p:=⟨w.heap.size,0,none⟩) Sz (.int .i64 0)).setCell (p:=⟨w.heap.size,1,none⟩) Sz (.int .i64 0)).setCell (p:=⟨w.heap.size,2,none⟩) Sz (.string ⟨#[]⟩)).setCell (p:=⟨w.heap.size,3,none⟩) Sz (.slice none 0 0);have HQ:Hid _:=And.intro r4 b4;clear h e r0 r1 r2 r3 r4 b4 b0 Vc;generalize R.length=n at*;have Vd:¬((n:Int)=1):=by omega
  go_enter func23,ntmps23;go_upto_region 1 with fail;rw[Vb.out];clear Vb;go_wp2;obtain⟨rr,Va⟩:=HQ.out;have q0:=rr.cell 0;have q1:=rr.cell 1;have q2:=rr.cell 2;have q3:=rr.cell 3;simp only[Qm,Qk,Ql]at q0 q1 q2 q3;exact bodyPost_ret (v:=.agg #[.int .i64 0,.int .i64 0,.string ⟨#[]⟩,.slice none 0 0]) (by simp[results,results23,go_sem,q0,q1,q2,q3]) rfl ⟨rfl,Va⟩
theorem ylx(h:RpR w r R)(hn:R.length<=41):∃k,∀W,Bl w W->Calls prog 23 #[r] W fun e w'=>e=.returned (.agg #[.int .i64 (Pw R).kind,.int .i64 (Pw R).n,.string (Pw R).s,k])/\Bl W w':=by
 obtain⟨a,g,c,rfl,h⟩:=h;by_cases h1:R.length=1
 ·obtain⟨_,_,_,p,pg,pc,h3,_⟩:=h.cell 0 (by omega)
  exact⟨.slice p _ pc,fun W hW=>G9 a g c R W (h.bw hW) p _ pc (fun _=>by
   have:=(hW.cell (p:=⟨g,3,none⟩) (h.addr (by omega)).2).trans h3;exact this) (fun h=>absurd h1 h) (by omega)⟩
 ·exact⟨.slice none 0 0,fun W hW=>G9 a g c R W (h.bw hW) none 0 0 (fun h=>absurd h h1) (fun _=>⟨rfl,rfl,rfl⟩) (by omega)⟩
theorem yld{x:Rp}(h:RpR w r R)(hR:R=[x]):∃k,∀W,Bl w W->Calls prog 23 #[r] W fun e w'=>e=.returned (.agg #[.int .i64 x.kind,.int .i64 x.n,.string x.s,k])/\Bl W w':=by
 subst hR;exact ylx h (by simp)
section
variable (a b c d:Value) (W:World)
theorem ylp:(Instr.field 40 (.agg #[a,b,c,d]) 0).run prog W=.ok a W:=by
 simp[go_sem,Instr.field,asAgg]
theorem yls:(Instr.field 40 (.agg #[a,b,c,d]) 1).run prog W=.ok b W:=by
 simp[go_sem,Instr.field,asAgg]
theorem ylr:(Instr.field 40 (.agg #[a,b,c,d]) 2).run prog W=.ok c W:=by
 simp[go_sem,Instr.field,asAgg]
end
theorem Fg(nm tx:ByteArray):∀(ps:List Pr) (s:List Pr×Bool),(∀y∈s.1,y.1=nm->y=(nm,tx))->(s.2=true->(nm,tx)∈s.1)->(∀y∈(ps.foldl (L8 nm tx) s).1,y.1=nm->y=(nm,tx))/\((ps.foldl (L8 nm tx) s).2=true->(nm,tx)∈(ps.foldl (L8 nm tx) s).1)
 |[],_,h1,h2=>⟨h1,h2⟩
 |x::ps,s,h1,h2=>by
  have Sz:∀y∈s.1++ [(nm,tx)],y.1=nm->y=(nm,tx):=fun y hy e=>by
   rcases List.mem_append.1 hy with q|q
   ·exact h1 y q e
   ·exact List.mem_singleton.1 q
  rw[List.foldl_cons];by_cases he:x.1=nm
  ·by_cases hg:(!s.2&&geS x.1 nm)=true
   ·rw[show L8 nm tx s x=(s.1++ [(nm,tx)],true) by unfold L8;rw[if_pos he,if_pos hg]];exact Fg nm tx ps _ Sz (fun _=>by simp)
   ·rw[show L8 nm tx s x=s by unfold L8;rw[if_pos he,if_neg hg]];exact Fg nm tx ps _ h1 h2
  ·by_cases hg:(!s.2&&geS x.1 nm)=true
   ·rw[show L8 nm tx s x=(s.1++ [(nm,tx)]++ [x],true) by unfold L8;rw[if_neg he,if_pos hg]]
    exact Fg nm tx ps _ (fun y hy e=>by
     rcases List.mem_append.1 hy with q|q
     ·exact Sz y q e
     ·rw[List.mem_singleton.1 q]at e;exact absurd e he) (fun _=>by simp)
   ·rw[show L8 nm tx s x=(s.1++ [x],s.2) by unfold L8;rw[if_neg he,if_neg hg]]
    exact Fg nm tx ps _ (fun y hy e=>by
     rcases List.mem_append.1 hy with q|q
     ·exact h1 y q e
     ·rw[List.mem_singleton.1 q]at e;exact absurd e he) (fun e=>List.mem_append_left _ (h2 e))
theorem ym9(ps:List Pr)(nm tx:ByteArray):(nm,tx)∈Mx ps nm tx/\∀y∈Mx ps nm tx,y.1=nm->y=(nm,tx):=by
 obtain⟨h1,h2⟩:=Fg nm tx ps ([],false) (fun y hy=>by cases hy) (fun h=>by cases h);unfold Mx Nz;split
 ·rename_i h;exact⟨h2 h,h1⟩
 ·exact⟨by simp,fun y hy e=>by
  rcases List.mem_append.1 hy with q|q
  ·exact h1 y q e
  ·exact List.mem_singleton.1 q⟩
theorem ymw:∀(n:Nat) (A:List ByteArray) (ps:List Pr),A.length=2*n+2->∃ps0,Hm ps A=Mx ps0 (Fa A (2*n)) (Fa A (2*n+1))
 |0,[_,_],ps,_=>⟨ps,rfl⟩
 |n+1,f::x::T,ps,hl=>ymw n T (Mx ps f x) (by simp only[Q1]at hl;omega)
theorem ym2:∀(T:List Pr) (nm:ByteArray) (s:Nat),(∃x∈T,x.1=nm)->∃i,i<T.length/\Mc T nm s=((s+i:Nat):Int)/\(T.getD i (bz,bz)).1=nm/\T.getD i (bz,bz)∈T
 | [],_,_,h=>by
  obtain⟨_,h,_⟩:=h;cases h
 |x::xs,nm,s,h=>by
  unfold Mc;by_cases e:x.1=nm
  ·rw[if_pos e];exact⟨0,by simp,rfl,e,by simp⟩
  ·rw[if_neg e];obtain⟨y,hy,hm⟩:=h;rcases List.mem_cons.1 hy with q|q
   ·exact absurd (by rw[<-q];exact hm) e
   ·obtain⟨i,h1,h2,h3,h4⟩:=ym2 xs nm (s+1) ⟨y,q,hm⟩;exact⟨i+1,by simp only[Q1];omega,by rw[h2];congr 1;omega,h3,List.mem_cons_of_mem _ h4⟩
theorem ym6:∀(T:List Pr)(nm:ByteArray)(s:Nat),(∀x∈T,x.1≠nm)->Mc T nm s= -1
 |[],_,_,_=>rfl
 |x::xs,nm,s,h=>by
  unfold Mc;rw[if_neg (h x (by simp))];exact ym6 xs nm (s+1) fun y hy=>h y (List.mem_cons_of_mem _ hy)
theorem ymx:∀ps:List Pr,(Hj ps).length=2*ps.length
 |[]=>rfl
 |x::ps=>by
  have:=ymx ps;unfold Hj at this ⊢;rw[List.flatMap_cons,Qi,this];simp only[Q1,List.length_nil];omega
theorem ym5{ks:List Ke}{now:Int}{x1:ByteArray}{A:List ByteArray}(h:Fm ks=true)(hA:2<=A.length)(he:Pl (Lc ks now (Cm.text 33::x1::A)).2=false):
  ∃k',Lc ks now (Cm.text 33::x1::A)=(G0 ks k',Fe ((k'.val.pj.length:Int)-(((Fw ks x1).getD ke0).val.pj.length:Int)))/\k'.name=x1/\k'.val.kind=3/\(Fa A (A.length-2),Fa A (A.length-1))∈k'.val.pj/\∀y∈k'.val.pj,y.1=Fa A (A.length-2)->y=(Fa A (A.length-2),Fa A (A.length-1)):=by
 have hd:=Hq 33 ks now (x1::A);by_cases hf:Cm.fits 33 (x1::A).length=true;rotate_left
 ·rw[hd,if_neg hf]at he;cases he
 rw[if_pos hf,if_neg (by decide)]at hd;obtain⟨n,hn⟩:∃n,A.length=2*n+2:=by
  have hf:decide (3<=(x1::A).length/\(x1::A).length%2=1)=true:=hf;have hf:=Qg hf;simp only[Q1]at hf;exact⟨A.length/2-1,by omega⟩
 have Sz:∀(k:Ke),k.name=x1->k.val.kind=3->k.val.pj=((Fw ks x1).getD ke0).val.pj->Np 33 ks now (x1::A)=Om 33 ks k (x1::A)->∃k',Lc ks now (Cm.text 33::x1::A)=(G0 ks k',Fe ((k'.val.pj.length:Int)-(((Fw ks x1).getD ke0).val.pj.length:Int)))/\k'.name=x1/\k'.val.kind=3/\(Fa A (A.length-2),Fa A (A.length-1))∈k'.val.pj/\∀y∈k'.val.pj,y.1=Fa A (A.length-2)->y=(Fa A (A.length-2),Fa A (A.length-1)):=fun k hk1 hk2 hk3 e=>by
  have e:Lc ks now (Cm.text 33::x1::A)=Fj ks (k.withPairs (Hm k.val.pj A)) (Fe (((Hm k.val.pj A).length:Int)-(k.val.pj.length:Int))):=hd.trans e;obtain⟨Va,hp⟩:=ymw n A k.val.pj hn;obtain⟨q1,q2⟩:=ym9 Va (Fa A (2*n)) (Fa A (2*n+1));rw[<-hp]at q1 q2;rw[show A.length-1=2*n+1 by omega,show A.length-2=2*n by omega,<-hk3];generalize Hm k.val.pj A=ps at*;rw[e]at he ⊢;rcases ymb he with⟨q,_⟩|⟨_,_,q⟩
  ·have:Ml (k.withPairs ps)=false:=by
    show(decide (k.val.ia.length+ps.length+k.val.rq.length=0)&&_)=false;rw[Qf (by have:=List.length_pos_of_mem q1;omega)];rfl
   rw[this]at q;cases q
  ·exact⟨_,q,hk1,hk2,q1,q2⟩
 rcases L7 ks x1 with⟨hg,hn⟩|⟨k,hg,hk,hx⟩
 ·exact Sz (Mr x1 3) rfl rfl (by rw[hg];rfl) ((yle hn now A).trans rfl)
 ·by_cases hk3:k.val.kind=3
  ·subst hx;exact Sz k rfl hk3 (by rw[hg];rfl) ((Lt (c:=33) h hk now A (.inr hk3)).trans rfl)
  ·subst hx;rw[hd,yme (c:=33) h hk now A (by decide) hk3]at he;cases he
theorem ym8{ks:List Ke}(h:Fm ks=true)(hk:k∈ks)(hv:k.val.kind=3)(now:Int)(h1:(f,x)∈k.val.pj)(h2:∀y∈k.val.pj,y.1=f->y=(f,x)):Lc ks now [Cm.text 20,k.name,f]=(ks,Fy x):=by
 refine(C6 20 h hk now [f] rfl rfl (.inr hv)).trans ?_;show(if Mc k.val.pj f 0<0 then(ks,G7) else(ks,Fy (k.val.pj.getD (Mc k.val.pj f 0).toNat (bz,bz)).2))=_;obtain⟨i,_,q2,q3,q4⟩:=ym2 k.val.pj f 0 ⟨_,h1,rfl⟩;rw[q2,if_neg (by omega),Int.toNat_natCast,Qq,h2 _ q4 q3]
theorem ym0{ks:List Ke}(h:Fm ks=true)(hk:k∈ks)(hv:k.val.kind=3)(now:Int)(h1:∀y∈k.val.pj,y.1≠f):Lc ks now [Cm.text 20,k.name,f]=(ks,G7):=by
 refine(C6 20 h hk now [f] rfl rfl (.inr hv)).trans ?_;show(if Mc k.val.pj f 0<0 then(ks,G7) else(ks,Fy (k.val.pj.getD (Mc k.val.pj f 0).toNat (bz,bz)).2))=_;rw[ym6 _ _ _ h1,if_pos (by decide)]
theorem ymz{ks:List Ke}(h:∀k∈ks,k.name≠nm)(now:Int)(f:ByteArray):Lc ks now [Cm.text 20,nm,f]=(ks,G7):=(ylm 20 h now [f] rfl rfl).trans rfl
theorem ym3{ks:List Ke}(h:Fm ks=true)(hk:k∈ks)(hv:k.val.kind=3)(now:Int):Lc ks now [Cm.text 13,k.name]=(ks,Fe k.val.pj.length):=(C6 13 h hk now [] rfl rfl (.inr hv)).trans rfl
theorem ym1{ks:List Ke}(h:Fm ks=true)(hk:k∈ks)(hv:k.val.kind=3)(now:Int):Lc ks now [Cm.text 14,k.name]=(ks,He (Hj k.val.pj)):=(C6 14 h hk now [] rfl rfl (.inr hv)).trans rfl
theorem ymy:∀(ps:List Pr)(f x:ByteArray),Rb.UpP ps->(f,x)∈ps->(ps.filter fun p=>!([f].contains p.1)).length+1=ps.length
 |[],_,_,_,h=>by cases h
 |y::ps,f,x,hu,h=>by
  have hc:∀z:Pr,([f].contains z.1)=decide (z.1=f):=fun z=>by
   rw[List.contains_cons,Cy];simp
  have Sz:=List.pairwise_cons.1 hu;have Va:∀z∈ps,z.1≠y.1:=fun z hz e=>by
   have:=Sz.1 z hz;rw[e,Fp]at this;cases this
  rw[List.filter_cons,hc];rcases List.mem_cons.1 h with q|q
  ·subst q;rw[if_neg (by simp),List.filter_eq_self.2 (fun z hz=>by rw[hc,Qf (Va z hz)];rfl)];rfl
  ·rw[if_pos (by rw[Qf (fun e=>Va _ q e.symm)];rfl)];simp only[Q1];rw[ymy ps f x Sz.2 q]
theorem F3{ks:List Ke}(h:Fm ks=true){k':Ke}(hk:k∈ks)(hn:k'.name=k.name)(hb:Hh k'=true):Fm (G0 ks k')=true:=by
 have hd:=(Rb.Ns _).1 h;rw[Rb.W9 h,hb,Rb.Wz _ hd.2.1,Rb.Ik,hn];have h1:=Rb.yg9 hk;exact Qe (by omega)
theorem yna(h:Rb.UpP ps):Cz ps=true:=by
 unfold Cz;rw[Qw];intro i hi;have hi:=List.mem_range.1 hi;by_cases h0:i=0
 ·rw[Qe h0];rfl
 ·rw[Bool.or_eq_true];refine .inr ?_;rw[Rb.J0];exact Rb.C5 h (by omega) hi
theorem ym4(h:Hh k=true)(hv:k.val.kind=3)(hs:ps.Sublist k.val.pj)(h1:1<=ps.length):Hh (k.withPairs ps)=true:=by
 unfold Hh Ls at h ⊢;rw[if_neg (by omega),if_neg (by omega),if_pos hv]at h;rw[if_neg (by show ¬k.val.kind=1;omega),if_neg (by show ¬k.val.kind=2;omega),if_pos (show(k.withPairs ps).val.kind=3 from hv)];simp only[Qh,decide_eq_true_iff]at h ⊢;obtain⟨n1,⟨t0,n3,pb⟩,tm⟩:=h;refine⟨n1,⟨t0,?_,?_⟩,tm⟩
 ·unfold Nq at n3 ⊢;show k.val.ia.length+ps.length+k.val.rq.length=ps.length;omega
 ·show Ma ps=true;unfold Ma countB at pb ⊢;simp only[Qh,decide_eq_true_iff]at pb ⊢;refine⟨⟨h1,?_⟩,?_,?_⟩
  ·have:=hs.length_le;omega
  ·exact Qw.2 fun t ht=>Qw.1 pb.2.1 t (by
   obtain⟨y,hy,ht⟩:=List.mem_flatMap.1 ht;exact List.mem_flatMap.2 ⟨y,hs.subset hy,ht⟩)
  ·exact yna (List.Pairwise.sublist hs (Rb.ycz pb.2.2))
theorem ym7{ks:List Ke}(h:Fm ks=true)(hk:k∈ks)(hv:k.val.kind=3)(now:Int)(h1:(f,x)∈k.val.pj):∃ks',Lc ks now [Cm.text 31,k.name,f]=(ks',Fe 1)/\Fm ks'=true/\((∀y∈ks',y.name≠k.name)\/∃k'∈ks',k'.name=k.name/\k'.val.kind=3/\∀y∈k'.val.pj,y.1≠f):=by
 have hb:=((Rb.Ns _).1 h).2.2 k hk;have hu:Rb.UpP k.val.pj:=Rb.yfr (by unfold Hh at hb;rw[Qh,Qh]at hb;exact hb.2.1);have hl:(k.val.pj.filter fun p=>!([f].contains p.1)).length+1=k.val.pj.length:=ymy _ _ _ hu h1;have e:Lc ks now [Cm.text 31,k.name,f]=Fj ks (k.withPairs (k.val.pj.filter fun p=>!([f].contains p.1))) (Fe ((k.val.pj.length:Int)-((k.val.pj.filter fun p=>!([f].contains p.1)).length:Int))):=(C6 31 h hk now [f] rfl rfl (.inr hv)).trans rfl;rw[e,show(k.val.pj.length:Int)-((k.val.pj.filter fun p=>!([f].contains p.1)).length:Int)=1 by omega];have Va:∀y∈k.val.pj.filter fun p=>!([f].contains p.1),y.1≠f:=fun y hy e=>by
  have:=(List.mem_filter.1 hy).2;rw[e,List.contains_cons,Cy]at this;simp at this
 have Sz:(k.val.pj.filter fun p=>!([f].contains p.1)).Sublist k.val.pj:=List.filter_sublist;generalize(k.val.pj.filter fun p=>!([f].contains p.1))=ps at*;unfold Fj;by_cases hem:Ml (k.withPairs ps)=true
 ·rw[if_pos hem];exact⟨_,rfl,Rb.C4 h _,.inl ylo⟩
 ·rw[if_neg hem];have h1:1<=ps.length:=by
   refine Nat.pos_of_ne_zero fun h0=>hem ?_;have hb:=hb;unfold Hh Ls at hb;rw[if_neg (by omega),if_neg (by omega),if_pos hv]at hb;simp only[Qh,decide_eq_true_iff]at hb;have:=hb.2.1.2.1;unfold Nq at this;unfold Ml;show(decide (k.val.ia.length+ps.length+k.val.rq.length=0)&&!decide (k.val.kind=1))=true;rw[Qe (by omega),Qf (by omega)];rfl
  have ho:=F3 (k':=k.withPairs ps) h hk rfl (ym4 hb hv Sz h1);rw[if_pos ho];exact⟨_,rfl,ho,.inr ⟨_,G4 h _,rfl,hv,Va⟩⟩
theorem ymr{a:ByteArray}(h1:a.size<=200)(h2:b.size<=200):∀t∈ [a,b],t.size<=200:=fun t ht=>by
 simp only[List.mem_cons,List.not_mem_nil,or_false]at ht;rcases ht with rfl|rfl
 ·exact h1
 ·exact h2
theorem ymm{a c:ByteArray}(h1:a.size<=200)(h2:b.size<=200)(h3:c.size<=200):∀t∈ [a,b,c],t.size<=200:=fun t ht=>by
 rcases List.mem_cons.1 ht with rfl|ht
 ·exact h1
 ·exact ymr h2 h3 t ht
theorem Aw8(a:Option Addr)(n c:Nat)(w:World)(hn:n<=9223372036854775807)(hb:BytesIn w a n w.heap.size)(ad:Nat->Addr)(hE:Rb.Px w ad):
  Calls prog 8 #[.slice a n c] w fun e w'=>e=.returned (.bool true)/\Bl w w':=by
 have Zz:Hid (Cp 12 #[.slice a n c] w fun e w'=>e=.returned (.bool (decide (1048576<n)))/\w'=w):=ygb a n c w hn;have Xw:Hid (Cp 13 #[.slice a n c] w fun e w1=>∃v ks Sz aa ab ao m ac T,e=.returned (.tuple #[v,.int .i64 Sz,.slice aa m ac])/\Pq w1 v ks Sz aa ab ao m ac T ad/\Bl w w1):=zz0 a n c w hn hb ad hE;clear hb hE;go_enter func8,ntmps8;go_wp2_with fail;refine Zz.out.mono ?_;rintro e w0⟨rfl,Yf⟩;subst Yf;clear Zz;by_cases hbig:1048576<n
 ·rw[Qe hbig];clear Xw;go_wp2;go_ret;exact⟨rfl,Qb _ _⟩
 rw[Qf hbig];go_wp2_with fail;refine Xw.out.mono ?_;rintro e w1⟨v,ks,Sz,aa,ab,ao,m,ac,T,rfl,hD,b1⟩;clear Xw hn hbig;have HD:Hid (Pq w1 v ks Sz aa ab ao m ac T ad):=hD;have HI:Hid (Cp 14 #[v,.int .i64 Sz,.slice aa m ac] w1 (Ug w1 (Nj ks Sz T))):=hD.impl;have HC:Hid _:=zmx ks Sz T;clear hD;generalize hp:Nj ks Sz T=p at*;have HP:Hid (Nj ks Sz T=p):=hp;clear hp;go_wp2_with fail;refine HI.out.mono ?_;rintro e w2⟨v2,r2,rfl,Xp,Xg,b2⟩;have HS:Hid (Cp 15 #[v,.int .i64 Sz,.slice aa m ac] w2 (Ug w2 p)):=by
  have:=(HD.out.bw b2).spec;rw[HP.out]at this;exact this
 have Jp:Hid (DbR w2 v2 p.1):=Xp;have Jd:Hid (RpR w2 r2 p.2):=Xg;clear Xp Xg HI;go_wp2_with fail;refine HS.out.mono ?_;rintro e w3⟨v3,r3,rfl,Jt,Zx,b3⟩;have Xy:Bl w1 w3:=b2.trans (b3.mono b2.size);have Zm:Bl w0 w3:=b1.trans (Xy.mono b1.size);have Vr:Hid (Pq w3 v ks Sz aa ab ao m ac T ad):=HD.out.bw Xy;have Vh:Hid (DbR w3 v2 p.1):=Jp.out.bw b3;have Vd:Hid (RpR w3 r2 p.2):=Jd.out.bw b3;have Vb:Hid (∀W,Bl w3 W->Bl w0 W):=fun W hW=>Zm.trans (hW.mono Zm.size);have Xv:p.2=[]\/RpS p.2:=by
  rcases HC.out with⟨_,e0⟩|⟨_,_,_,_,_,_,e0,_,hS⟩
  ·exact .inl (by rw[e0])
  ·exact .inr (by rw[e0];exact hS)
 have Vz:p.2.length<=41:=by
  rcases Xv with e|h
  ·rw[e];simp
  ·exact h.2.1
 have Vs:Hid (∀W,Bl w3 W->Cp 17 #[r2,r3] W fun e w'=>e=.returned (.bool true)/\Bl W w'):=fun W hW=>zjk r2 r3 p.2 W (Vd.out.bw hW) (RpR.bw Zx hW) Xv;have Xt:Hid (∀W,Bl w3 W->Cp 18 #[r2] W fun e w'=>e=.returned (.bool (Pl p.2))/\w'=W):=fun W hW=>yli r2 p.2 W (Vd.out.bw hW) Vz;have Xb:Hid (∃k,∀W,Bl w3 W->Cp 23 #[r2] W fun e w'=>e=.returned (.agg #[.int .i64 (Pw p.2).kind,.int .i64 (Pw p.2).n,.string (Pw p.2).s,k])/\Bl W w'):=ylx Vd.out Vz;have Vu:Hid (∀W,Bl w3 W->∀i,i<m->W.cell? ⟨ab,ao+i,none⟩=some (.string (Fa T i))):=fun W hW i hi=>(Vr.out.bw hW).args.cell i hi;have Zd:Hid (0<m->aa=some ⟨ab,ao,none⟩):=Vr.out.args.addr;have Vg:T.length=m:=Vr.out.len;obtain⟨ar,gr,cr,er,_⟩:=Vd.out;clear Jt Zx HS HD Jp Jd b1 b2 b3 Xy Zm HP Xv Vz;obtain⟨lr,Xn⟩:∃lr,lr=p.2.length:=⟨_,rfl⟩;have Xc:Hid (lr=p.2.length):=Xn;rw[<-Xn]at er;clear Xn;subst er;go_wp2_with fail;refine(Vs.out _ (Qb _ _)).mono ?_;rintro e w4⟨rfl,b4⟩;by_cases hm:m<4
 ·clear HC Vr Vh Vd Xt Xb Vu Zd Xc Vg;have Jv:(m:Int)<4:=by omega
  go_wp2_with fail;refine(Vs.out _ b4).mono ?_;rintro e w5⟨rfl,b5⟩;have HF:Hid (Bl w0 w5):=Vb.out _ (b4.trans (b5.mono b4.size));clear b4 b5 Vb Vs;go_wp2;go_ret;exact⟨rfl,HF.out⟩
 have Yl:(0:Int)<(m:Int):=by omega
 have Jv:¬(m:Int)<4:=by omega
 obtain rfl:=Zd.out (by omega);have c0:=Vu.out w4 b4 0 (by omega);rw[Qy]at c0;obtain⟨t0,Zp⟩:∃t,t=Fa T 0:=⟨_,rfl⟩;have Xk:Hid (t0=Fa T 0):=Zp;rw[<-Zp]at c0;clear Zp Zd;by_cases hq0:t0=⟨#[72,83,69,84]⟩;rotate_left
 ·have hq:(t0.toList==[72,83,69,84])=false:=by
   have:=Kk.Le hq0;rw[ByteArray.toList_eq ⟨#[72,83,69,84]⟩]at this;exact this
  clear HC Vr Vh Vd Xt Xb Vu Xc Vg Xk hm hq0;go_wp2_with fail;refine(Vs.out _ b4).mono ?_;rintro e w5⟨rfl,b5⟩;have HF:Hid (Bl w0 w5):=Vb.out _ (b4.trans (b5.mono b4.size));clear b4 b5 Vb Vs;go_wp2;go_ret;exact⟨rfl,HF.out⟩
 subst hq0;go_wp2_with fail;refine(Xt.out _ b4).mono ?_;rintro e w5⟨rfl,Ye⟩;subst Ye;clear Xt;obtain⟨ie,Ze⟩:∃b,b=Pl p.2:=⟨_,rfl⟩;have Xu:Hid (ie=Pl p.2):=Ze;rw[<-Ze];clear Ze;rcases ie with _|_;rotate_left
 ·clear HC Vr Vh Vd Xb Vu Xc Vg Xk hm c0 Xu;go_wp2_with fail;refine(Vs.out _ b4).mono ?_;rintro e w5⟨rfl,b5⟩;have HF:Hid (Bl w0 w5):=Vb.out _ (b4.trans (b5.mono b4.size));clear b4 b5 Vb Vs;go_wp2;go_ret;exact⟨rfl,HF.out⟩
 by_cases hl0:lr=0
 ·subst hl0;clear HC Vr Vh Vd Xb Vu Xc Vg Xk hm c0 Xu;go_wp2_with fail;refine(Vs.out _ b4).mono ?_;rintro e w5⟨rfl,b5⟩;have HF:Hid (Bl w0 w5):=Vb.out _ (b4.trans (b5.mono b4.size));clear b4 b5 Vb Vs;go_wp2;go_ret;exact⟨rfl,HF.out⟩
 have Xn:((lr:Int)==0)=false:=by simp;omega
 have Yc:¬(lr:Int)=0:=by omega
 clear Vs;have few:=Vr.out.few;have hT:T=Fa T 0::Fa T 1::T.drop 2:=by
  match T,Vg with
  |x0::x1::A,_=>rfl
  |[],h=>exact absurd h (by simp;omega)
  |[_],h=>exact absurd h (by simp;omega)
 have hA:(T.drop 2).length=m-2:=by rw[Qu,Vg]
 have Zk:Fa (T.drop 2) ((T.drop 2).length-1)=Fa T (m-1):=by
  rw[hA];show(T.drop 2).getD _ _=T.getD _ _;rw[Qa,Qa,List.getElem?_drop,show 2+(m-2-1)=m-1 by omega]
 have Zj:Fa (T.drop 2) ((T.drop 2).length-2)=Fa T (m-2):=by
  rw[hA];show(T.drop 2).getD _ _=T.getD _ _;rw[Qa,Qa,List.getElem?_drop,show 2+(m-2-2)=m-2 by omega]
 generalize ht1:Fa T 1=t1 at*;generalize htm:Fa T (m-1)=tv at*;generalize hts:Fa T (m-2)=tf at*;rw[<-Xk.out]at hT;have Zi:∃k',p=(G0 (Hb ks Sz) k',Fe ((k'.val.pj.length:Int)-(((Fw (Hb ks Sz) t1).getD ke0).val.pj.length:Int)))/\k'.name=t1/\k'.val.kind=3/\(tf,tv)∈k'.val.pj/\(∀y∈k'.val.pj,y.1=tf->y=(tf,tv))/\Fm p.1=true/\(∀k∈p.1,Hs Sz k=true)/\(0<=Sz/\Sz<=1000000000)/\t1.size<=200/\tf.size<=200/\k'∈p.1/\Fm ks=true:=by
  rcases HC.out with⟨_,e0⟩|⟨_,Vp,Vf,h16,h1,hs,e0,hL,hS⟩
  ·exact absurd (by rw[Xc.out,e0];rfl) hl0
  ·have Xf:=Rb.E7 Vp Sz;have he:=Xu.out.symm;have s1:=hs 1 (by omega);have sf:=hs (m-2) (by omega);rw[ht1]at s1;rw[hts]at sf;rw[e0]at he;rw[<-e0]at hL;rw[hT]at he e0;obtain⟨k',q1,q2,q3,q4,q5⟩:=ym5 Xf (by omega) he;rw[Zk,Zj]at q4;rw[Zj,Zk]at q5;have e0:p=Lc (Hb ks Sz) Sz (Cm.text 33::t1::T.drop 2):=e0;refine⟨k',e0.trans q1,q2,q3,q4,q5,hL.ok,hL.live,Vf,s1,sf,?_,Vp⟩;rw[e0,q1];exact G4 Xf _
 obtain⟨k',hp,Jk,Xh,Zg,Jo,Vp,Vj,Vf,s1,sf,Vm,Vx⟩:=Zi;have Xi:=Vr.out.env;have Zq:=fun W hW=>Vu.out W hW 1 (by omega);have Zn:=fun W hW=>Vu.out W hW (m-1) (by omega);have Xx:=fun W hW=>Vu.out W hW (m-2) (by omega);rw[ht1]at Zq;rw[htm]at Zn;rw[hts]at Xx;have Ve:Hid (∀W,Bl w3 W->W.cell? ⟨ab,ao+1,none⟩=some (.string t1)):=Zq;have Ja:Hid (∀W,Bl w3 W->W.cell? ⟨ab,ao+(m-1),none⟩=some (.string tv)):=Zn;have Vk:Hid (∀W,Bl w3 W->W.cell? ⟨ab,ao+(m-2),none⟩=some (.string tf)):=Xx;have Jy:k'.val.pj.length<=20:=(We (((Rb.Ns _).1 Vp).2.2 _ Vm)).np;have Za:((Fw (Hb ks Sz) t1).getD ke0).val.pj.length<=20:=by
  rcases L7 (Hb ks Sz) t1 with⟨hg,_⟩|⟨k,hg,hk,_⟩
  ·rw[hg];decide
  ·rw[hg];exact(We ((T8 (Rb.E7 Vx Sz)).2 k hk)).np
 have q1:=ym8 Vp Vm Xh Sz Zg Jo;have q2:=ym3 Vp Vm Xh Sz;have q3:=ym1 Vp Vm Xh Sz;obtain⟨Xr,q4,Xj,Vy⟩:=ym7 Vp Vm Xh Sz Zg;rw[Jk]at q1 q2 q3 q4 Vy;have Xq:=left_done Vp Vj (T:=[Cm.text 31,t1,tf]) Vf;rw[q4]at Xq;have q5:Lc Xr Sz [Cm.text 20,t1,tf]=(Xr,G7):=by
  rcases Vy with h|⟨k2,hk2,hn2,Xp,hno⟩
  ·exact ymz h Sz tf
  ·rw[<-hn2];exact ym0 Xj hk2 Xp Sz hno
 have HG:∀(C:Array Value) (T':List ByteArray) (R:List Rp),C=(T'.map Value.string).toArray->1<=T'.length->T'.length<=16->(∀t∈T',t.size<=200)->Lc p.1 Sz T'=(p.1,R)->Hid (∀W,Bl w3 W->∃W',Hid (W.alloc (.cells C 9)=W')/\Hid (Cp 14 #[v2,.int .i64 Sz,.slice (some ⟨W.heap.size,0,none⟩) T'.length T'.length] W' fun e w'=>∃v r,e=.returned (.tuple #[v,r])/\DbR w' v p.1/\RpR w' r R/\Bl w3 w'/\Bl W w')):=fun C T' R hC h1 h16 hs hR W hW=>ylu C T' hC h1 h16 hs Vh.out Vp Vj Vf Xi hR W hW;have Xz:∀(C:Array Value) (T':List ByteArray) (q:List Ke×List Rp),C=(T'.map Value.string).toArray->1<=T'.length->T'.length<=16->(∀t∈T',t.size<=200)->Lc p.1 Sz T'=q->Hid (∀W,Bl w3 W->∃W',Hid (W.alloc (.cells C 9)=W')/\Hid (∀X,Bl W' X->Cp 14 #[v2,.int .i64 Sz,.slice (some ⟨W.heap.size,0,none⟩) T'.length T'.length] X fun e w'=>∃v r,e=.returned (.tuple #[v,r])/\DbR w' v q.1/\RpR w' r q.2/\Bl w3 w'/\Bl W w')):=fun C T' q hC h1 h16 hs hR W hW=>yly C T' hC h1 h16 hs Vh.out Vp Vj Vf Xi hR W hW;have Ji:=Xz #[.string ⟨#[72,71,69,84]⟩,.string t1,.string tf] [Cm.text 20,t1,tf] _ rfl (by simp) (by simp) (ymm (by decide) s1 sf) q1;have Zw:=HG #[.string ⟨#[72,76,69,78]⟩,.string t1] [Cm.text 13,t1] _ rfl (by simp) (by simp) (ymr (by decide) s1) q2;have Je:=HG #[.string ⟨#[72,71,69,84,65,76,76]⟩,.string t1] [Cm.text 14,t1] _ rfl (by simp) (by simp) (ymr (by decide) s1) q3;have Jl:=Xz #[.string ⟨#[72,68,69,76]⟩,.string t1,.string tf] [Cm.text 31,t1,tf] _ rfl (by simp) (by simp) (ymm (by decide) s1 sf) q4;have Zr:Hid (∀W u,Bl w3 W->DbR W u Xr->∃W',Hid (W.alloc (.cells #[.string ⟨#[72,71,69,84]⟩,.string t1,.string tf] 9)=W')/\Hid (∀X,Bl W' X->Cp 14 #[u,.int .i64 Sz,.slice (some ⟨W.heap.size,0,none⟩) 3 3] X fun e w'=>∃v r,e=.returned (.tuple #[v,r])/\DbR w' v Xr/\RpR w' r G7/\Bl w3 w'/\Bl W w')):=fun W u hW hu=>by
  obtain⟨W',h1,h2⟩:=yly #[.string ⟨#[72,71,69,84]⟩,.string t1,.string tf] [Cm.text 20,t1,tf] rfl (by simp) (by simp) (ymm (by decide) s1 sf) hu Xq.ok Xq.live Vf (Ct Xi hW) q5 W (Qb _ _)
  exact⟨W',h1,fun X hX=>(h2.out X hX).mono (by
   rintro e w'⟨v,r,rfl,z1,z2,z3,z4⟩;exact⟨v,r,rfl,z1,z2,hW.trans (z3.mono hW.size),z4⟩)⟩
 have Jg:∀W,Bl w3 W->Calls prog 24 #[v,.int .i64 Sz,.string t1] W fun e w'=>∃g0 g1 g2 a1 n1 c1 a2 c2 a3 n3 c3 g6 b,e=.returned (.tuple #[.agg #[.string g0,.int .i64 g1,.string g2,.slice a1 n1 c1,.slice a2 ((Fw (Hb ks Sz) t1).getD ke0).val.pj.length c2,.slice a3 n3 c3,.int .i64 g6],.bool b])/\Bl W w':=fun W hW=>by
  refine(ylt v ks Sz t1 W (Vr.out.bw hW).db Vx (Ct Xi hW).es.er.rd (Qj s1 (by decide))).mono ?_;rintro e w'⟨k,a1,c1,a2,c2,a3,c3,rfl,rfl,_,hB⟩;exact⟨_,_,_,_,_,_,_,_,_,_,_,_,_,rfl,hB⟩
 have hO:=Xb.out;rw[hp]at hO;have Zh:(He (Hj k'.val.pj)).length=2*k'.val.pj.length+1:=by unfold He;simp[ymx]
 generalize He (Hj k'.val.pj)=RL,k'.val.pj.length=nP,((Fw (Hb ks Sz) t1).getD ke0).val.pj.length=n0 at*;obtain⟨dd,Zc⟩:∃dd:Int,dd=(nP:Int)-(n0:Int):=⟨_,rfl⟩;have hO:∃k,∀W,Bl w3 W->Calls prog 23 #[.slice ar lr cr] W fun e w'=>e=.returned (.agg #[.int .i64 3,.int .i64 dd,.string ⟨#[]⟩,k])/\Bl W w':=by
  rw[Zc];exact hO
 have Xm:Hid (∃k,∀W,Bl w3 W->Cp 23 #[.slice ar lr cr] W fun e w'=>e=.returned (.agg #[.int .i64 3,.int .i64 dd,.string ⟨#[]⟩,k])/\Bl W w'):=hO;have Jj:Hid (∀W,Bl w3 W->Cp 24 #[v,.int .i64 Sz,.string t1] W fun e w'=>∃g0 g1 g2 a1 n1 c1 a2 c2 a3 n3 c3 g6 b,e=.returned (.tuple #[.agg #[.string g0,.int .i64 g1,.string g2,.slice a1 n1 c1,.slice a2 n0 c2,.slice a3 n3 c3,.int .i64 g6],.bool b])/\Bl W w'):=Jg;obtain⟨nA,Jm⟩:∃nA,nA=RL.length:=⟨_,rfl⟩;have Zt:Hid (nA=RL.length):=Jm;have Yo:IntKind.i64.wrap ((n0:Int)+dd)=(nP:Int):=by rw[Zc,show(n0:Int)+((nP:Int)-(n0:Int))=(nP:Int) by omega];exact Kk.wrap_small (by omega) (by omega)
 have Yg:IntKind.i64.wrap (2*(nP:Int))=2*(nP:Int):=Kk.wrap_small (by omega) (by omega);have Yq:IntKind.i64.wrap (2*(nP:Int)+1)=(nA:Int):=by rw[show(nA:Int)=2*(nP:Int)+1 by omega];exact Kk.wrap_small (by omega) (by omega)
 have Yi:(1:Int)<(m:Int):=by omega
 have Ym:IntKind.i64.wrap ((m:Int)-1)=((m-1:Nat):Int):=by rw[show(m:Int)-1=((m-1:Nat):Int) by omega];exact Kk.wrap_small (by omega) (by omega)
 have Yn:IntKind.i64.wrap (((m-1:Nat):Int)-1)=((m-2:Nat):Int):=by rw[show((m-1:Nat):Int)-1=((m-2:Nat):Int) by omega];exact Kk.wrap_small (by omega) (by omega)
 have Yp:((m-1:Nat):Int)<(m:Int):=by omega
 have Ys:((m-2:Nat):Int)<(m:Int):=by omega
 have Jx:(0:Int)<=((m-1:Nat):Int):=by omega
 have Yd:(0:Int)<=((m-2:Nat):Int):=by omega
 clear HC Vr Vh Xb Vu Xc Vg Xk Xu hT hm hl0 hA Zk Zj ht1 htm hts hp Jk Xh Zg Jo Vp Vj Vf s1 sf Vm Xi Zq Zn Xx q1 q2 q3 q4 q5 HG Xz Vx Xj Vy Xq Jg hO Zh Jm Zc Jy Za few;generalize m-1=l,m-2=l2 at*;obtain⟨W1,E1,H1⟩:=Ji.out w5 b4;have Zl:Bl w5 W1:=by rw[<-E1.out];exact(Qb _ w5).alloc (Qc _) _
 have ka:w5.cell? ⟨ab,ao+1,none⟩=some (.string t1)/\w5.cell? ⟨ab,ao+l2,none⟩=some (.string tf):=⟨Ve.out w5 (b4),Vk.out w5 (b4)⟩;have kb:W1.cell? ⟨ab,ao+1,none⟩=some (.string t1)/\W1.cell? ⟨ab,ao+l2,none⟩=some (.string tf):=⟨Ve.out W1 (b4.trans (Zl.mono b4.size)),Vk.out W1 (b4.trans (Zl.mono b4.size))⟩;have c0:=Ve.out w5 b4;have c1:=Vk.out w5 b4;have EW:w5.alloc (.cells #[.string ⟨#[72,71,69,84]⟩,.string t1,.string tf] 9)=W1:=E1.out;clear Ji;go_wp2;go_region_held3 (fun W=>W.cell? ⟨ab,ao+1,none⟩=some (.string t1)/\W.cell? ⟨ab,ao+l2,none⟩=some (.string tf))
  (first|exact ka|exact kb|exact kc) (first
  |(go_at_call 14;refine(H1.out _ (Qb _ W1).drew).mono ?_;rintro e Xa⟨v1,r1,rfl,-,Zy,Xs,n1⟩;have kc:Xa.cell? ⟨ab,ao+1,none⟩=some (.string t1)/\Xa.cell? ⟨ab,ao+l2,none⟩=some (.string tf):=⟨Ve.out Xa (Xs),Vk.out Xa (Xs)⟩))
 obtain⟨k1,Vi⟩:=yld (x:=⟨4,0,tv,[]⟩) Zy rfl;have Vi:Hid (∀W,Bl Xa W->_):=Vi;clear Zy;clear E1 H1 n1 EW Zl ka kb kc c0 c1;have c1:=Ve.out Xa Xs;obtain⟨W2,E2,H2⟩:=Zw.out Xa Xs;clear Zw;go_wp2_with fail;rw[E2.out];refine H2.out.mono ?_;rintro e Xo⟨v2,r2,rfl,-,Xg,Jf,n2⟩;have Vi:Hid (∀W,Bl Xo W->_):=fun W hW=>Vi.out W (n2.trans (hW.mono n2.size));obtain⟨k2,Vn⟩:=yld (x:=⟨3,(nP:Int),⟨#[]⟩,[]⟩) Xg rfl;have Vn:Hid (∀W,Bl Xo W->_):=Vn;clear E2 H2 Xg n2 c1;have c1:=Ve.out Xo Jf;obtain⟨W3,E3,H3⟩:=Je.out Xo Jf;clear Je;go_wp2_with fail;rw[E3.out];refine H3.out.mono ?_;rintro e Vo⟨v3,r3,rfl,-,⟨a3,g3,c3,e3,h3⟩,Vt,n3⟩;rw[<-Zt.out]at e3;subst e3;have Vi:Hid (∀W,Bl Vo W->_):=fun W hW=>Vi.out W (n3.trans (hW.mono n3.size));have Vn:Hid (∀W,Bl Vo W->_):=fun W hW=>Vn.out W (n3.trans (hW.mono n3.size));clear E3 H3 n3 c1 h3 Zt;obtain⟨W4,E4,H4⟩:=Jl.out Vo Vt;have Zf:Bl Vo W4:=by rw[<-E4.out];exact(Qb _ Vo).alloc (Qc _) _
 have ka:Vo.cell? ⟨ab,ao+1,none⟩=some (.string t1)/\Vo.cell? ⟨ab,ao+l2,none⟩=some (.string tf):=⟨Ve.out Vo (Vt),Vk.out Vo (Vt)⟩;have kb:W4.cell? ⟨ab,ao+1,none⟩=some (.string t1)/\W4.cell? ⟨ab,ao+l2,none⟩=some (.string tf):=⟨Ve.out W4 (Vt.trans (Zf.mono Vt.size)),Vk.out W4 (Vt.trans (Zf.mono Vt.size))⟩;have c0:=Ve.out Vo Vt;have c1:=Vk.out Vo Vt;have EW:Vo.alloc (.cells #[.string ⟨#[72,68,69,76]⟩,.string t1,.string tf] 9)=W4:=E4.out;clear Jl;go_wp2;go_region_held3 (fun W=>W.cell? ⟨ab,ao+1,none⟩=some (.string t1)/\W.cell? ⟨ab,ao+l2,none⟩=some (.string tf))
  (first|exact ka|exact kb|exact kc) (first
  |(go_at_call 14;refine(H4.out _ (Qb _ W4).drew).mono ?_;rintro e Vc⟨v4,r4,rfl,Jc,Jb,Vq,n4⟩;have kc:Vc.cell? ⟨ab,ao+1,none⟩=some (.string t1)/\Vc.cell? ⟨ab,ao+l2,none⟩=some (.string tf):=⟨Ve.out Vc (Vq),Vk.out Vc (Vq)⟩))
 have Vi:Hid (∀W,Bl Vc W->_):=fun W hW=>Vi.out W (n4.trans (hW.mono n4.size));have Vn:Hid (∀W,Bl Vc W->_):=fun W hW=>Vn.out W (n4.trans (hW.mono n4.size));obtain⟨k4,Vw⟩:=yld (x:=⟨3,1,⟨#[]⟩,[]⟩) Jb rfl;have Vw:Hid (∀W,Bl Vc W->_):=Vw;clear Jb;clear E4 H4 n4 EW Zf ka kb kc c0 c1;obtain⟨W5,E5,H5⟩:=Zr.out Vc v4 Vq Jc;have Zo:Bl Vc W5:=by rw[<-E5.out];exact(Qb _ Vc).alloc (Qc _) _
 have ka:Vc.cell? ⟨ab,ao+1,none⟩=some (.string t1)/\Vc.cell? ⟨ab,ao+l2,none⟩=some (.string tf):=⟨Ve.out Vc (Vq),Vk.out Vc (Vq)⟩;have kb:W5.cell? ⟨ab,ao+1,none⟩=some (.string t1)/\W5.cell? ⟨ab,ao+l2,none⟩=some (.string tf):=⟨Ve.out W5 (Vq.trans (Zo.mono Vq.size)),Vk.out W5 (Vq.trans (Zo.mono Vq.size))⟩;have c0:=Ve.out Vc Vq;have c1:=Vk.out Vc Vq;have EW:Vc.alloc (.cells #[.string ⟨#[72,71,69,84]⟩,.string t1,.string tf] 9)=W5:=E5.out;clear Zr;go_wp2;go_region_held3 (fun W=>W.cell? ⟨ab,ao+1,none⟩=some (.string t1)/\W.cell? ⟨ab,ao+l2,none⟩=some (.string tf))
  (first|exact ka|exact kb|exact kc) (first
  |(go_at_call 14;refine(H5.out _ (Qb _ W5).drew).mono ?_;rintro e Vv⟨v5,r5,rfl,-,Jn,Xd,n5⟩;have kc:Vv.cell? ⟨ab,ao+1,none⟩=some (.string t1)/\Vv.cell? ⟨ab,ao+l2,none⟩=some (.string tf):=⟨Ve.out Vv (Xd),Vk.out Vv (Xd)⟩))
 have Vi:Hid (∀W,Bl Vv W->_):=fun W hW=>Vi.out W (n5.trans (hW.mono n5.size));have Vn:Hid (∀W,Bl Vv W->_):=fun W hW=>Vn.out W (n5.trans (hW.mono n5.size));have Vw:Hid (∀W,Bl Vv W->_):=fun W hW=>Vw.out W (n5.trans (hW.mono n5.size));obtain⟨k5,Xe⟩:=yld (x:=⟨5,0,⟨#[]⟩,[]⟩) Jn rfl;have Xe:Hid (∀W,Bl Vv W->_):=Xe;clear Jn;clear E5 H5 n5 EW Zo ka kb kc c0 c1;have c1:=Ve.out Vv Xd;clear Jc;go_wp2_with fail;refine(Jj.out _ Xd).mono ?_;rintro e w6⟨g0,g1,g2,Ju,Js,Yb,Jr,Jq,Ya,Jw,Jz,g6,gb,rfl,b6⟩;obtain⟨Va,Yk,-,b7,r7⟩:=boxed w6 #[.string g0,.int .i64 g1,.string g2,.slice Ju Js Yb,.slice Jr n0 Jq,.slice Ya Jw Jz,.int .i64 g6] 47;have n6:=b6.trans (b7.mono b6.size);have Xl:=Xd.trans (n6.mono Xd.size);have cy:Va.cell? ⟨w6.heap.size,4,none⟩=some (.slice Jr n0 Jq):=r7.cell 4;have Vi:Hid (∀W,Bl Va W->_):=fun W hW=>Vi.out W (n6.trans (hW.mono n6.size));have Vn:Hid (∀W,Bl Va W->_):=fun W hW=>Vn.out W (n6.trans (hW.mono n6.size));have Vw:Hid (∀W,Bl Va W->_):=fun W hW=>Vw.out W (n6.trans (hW.mono n6.size));have Xe:Hid (∀W,Bl Va W->_):=fun W hW=>Xe.out W (n6.trans (hW.mono n6.size));obtain⟨kr,Zu⟩:=Xm.out;have Zv:Hid (∀W,Bl Va W->_):=fun W hW=>Zu W (Xl.trans (hW.mono Xl.size));have Zs:Hid (Bl w3 Va):=Xl;have cy:=cell_regrown cy;clear Zu Xm b6 b7 r7 n6 c1 Jj;have cv:=cell_regrown (Ja.out Va Xl);have y0:∀d os,Calls prog 23 #[r1] (grow (redrawn Va d) os) fun e w''=>e=.returned (.agg #[.int .i64 4,.int .i64 0,.string tv,k1])/\∃p:Regrown,w''=grow (redrawn Va p.d) p.os:=fun d os=>Calls.regrown_of (Vi.out _ (below_regrown Va d os));have y1:∀d os,Calls prog 23 #[r2] (grow (redrawn Va d) os) fun e w''=>e=.returned (.agg #[.int .i64 3,.int .i64 (nP:Int),.string ⟨#[]⟩,k2])/\∃p:Regrown,w''=grow (redrawn Va p.d) p.os:=fun d os=>Calls.regrown_of (Vn.out _ (below_regrown Va d os));have y2:∀d os,Calls prog 23 #[r4] (grow (redrawn Va d) os) fun e w''=>e=.returned (.agg #[.int .i64 3,.int .i64 1,.string ⟨#[]⟩,k4])/\∃p:Regrown,w''=grow (redrawn Va p.d) p.os:=fun d os=>Calls.regrown_of (Vw.out _ (below_regrown Va d os));have y3:∀d os,Calls prog 23 #[r5] (grow (redrawn Va d) os) fun e w''=>e=.returned (.agg #[.int .i64 5,.int .i64 0,.string ⟨#[]⟩,k5])/\∃p:Regrown,w''=grow (redrawn Va p.d) p.os:=fun d os=>Calls.regrown_of (Xe.out _ (below_regrown Va d os));have y4:∀d os,Calls prog 23 #[(.slice ar lr cr)] (grow (redrawn Va d) os) fun e w''=>e=.returned (.agg #[.int .i64 3,.int .i64 dd,.string ⟨#[]⟩,kr])/\∃p:Regrown,w''=grow (redrawn Va p.d) p.os:=fun d os=>Calls.regrown_of (Zv.out _ (below_regrown Va d os));clear Vi Vn Vw Xe Zv;have Yh:=ylp;have Yj:=yls;have Yr:=ylr;clear Xl Ve Ja Vk;go_wp2;refine wp_region_quiet_below (by kernel_rfl) (by kernel_rfl) ?_;repeat(first|go_big_quiet_skip|quiet_step (first|with_reducible exact y0 _ _|with_reducible exact y1 _ _|with_reducible exact y2 _ _|with_reducible exact y3 _ _|with_reducible exact y4 _ _)|(go_big_quiet_want;go_big_quiet_op;go_big_quiet_on))
 refine wpQuiet_nil ?_;intro _ hw';obtain⟨⟨dq,Jh⟩,Zb⟩:=hw';subst Zb;have bq:=below_regrown Va dq Jh;have HF:Hid (Bl w0 _):=Vb.out _ (Zs.out.trans (bq.mono Zs.out.size));generalize grow (redrawn Va dq) Jh=wq at*;go_wp2;go_ret;exact⟨rfl,HF.out⟩
end Go.Proofs.YtokafonppgppdaaGreatDoor.Er

