import Derived.Test.YtokafonppgppdaaGreatDoorDe
import Derived.Test.YtokafonppgppdaaGreatDoorR56
set_option maxHeartbeats 8000000
set_option maxRecDepth 100000
namespace Go.Proofs.YtokafonppgppdaaGreatDoor.Er
open Tryz
open Go.RowKit Go.Sort
variable {w w' w1 W:World} {p:List Ke×List Rp} {g B n ab ao m ac:Nat} {a aa:Option Addr} {R:List Rp} {v r:Value} {k:Ke} {c:Cm} {th:Bool} {T:List ByteArray} {nm:ByteArray} {L:List KV} {e:Ending} {ad:Nat->Addr}
theorem ygb(a:Option Addr)(n c:Nat)(w:World)(hn:n<=9223372036854775807):Calls prog 12 #[.slice a n c] w fun e w'=>e=.returned (.bool (decide (1048576<n)))/\w'=w:=by
 go_enter func12,ntmps12;go_wp2;go_ret;exact⟨congrArg (fun b=>Ending.returned (Value.bool b)) (decide_eq_decide.2 (by omega)),rfl⟩
structure Ty (w:World) (p:Option Addr) (g:Nat) (ks:List Nat):Prop where
 addr:0<ks.length->p=some ⟨g,0,none⟩/\g<w.heap.size
 cell:∀i (hi:i<ks.length),w.cell? ⟨g,i,none⟩=some (.int .i64 ((ks[i]:Nat):Int))
theorem Ty.bw{p:Option Addr}{ks:List Nat}(h:Ty w p g ks)(hb:Bl w w'):Ty w' p g ks:=
 ⟨fun h0=>⟨(h.addr h0).1,Qr (h.addr h0).2 hb.size⟩,fun i hi=>(hb.cell (p:=⟨g,i,none⟩) (h.addr (by omega)).2).trans (h.cell i hi)⟩
structure Ac (w:World) (g i:Nat) (r:Rp):Prop where
 k:w.cell? ⟨g,i*4,none⟩=some (.int .i64 r.kind)
 n:w.cell? ⟨g,i*4+1,none⟩=some (.int .i64 r.n)
 s:w.cell? ⟨g,i*4+2,none⟩=some (.string r.s)
 c:∃p pg pc,w.cell? ⟨g,i*4+3,none⟩=some (.slice p r.kids.length pc)/\Ty w p pg r.kids
structure T5 (w:World) (a:Option Addr) (g:Nat) (R:List Rp):Prop where
 addr:0<R.length->a=some ⟨g,0,none⟩/\g<w.heap.size
 cell:∀i (hi:i<R.length),Ac w g i R[i]
theorem T5.bw(h:T5 w a g R)(hb:Bl w w'):T5 w' a g R:=
 ⟨fun h0=>⟨(h.addr h0).1,Qr (h.addr h0).2 hb.size⟩,fun i hi=>by
  have hg:=(h.addr (by omega)).2;obtain⟨k,n,s,p,pg,pc,c,hk⟩:=h.cell i hi;exact⟨(hb.cell (p:=⟨g,i*4,none⟩) hg).trans k,(hb.cell (p:=⟨g,i*4+1,none⟩) hg).trans n,(hb.cell (p:=⟨g,i*4+2,none⟩) hg).trans s,p,pg,pc,(hb.cell (p:=⟨g,i*4+3,none⟩) hg).trans c,hk.bw hb⟩⟩
theorem yfp(h:Fr w B v R):∃a g c,v=.slice a R.length c/\T5 w a g R:=by
 obtain⟨M,rfl,o,hk⟩:=h;have hl:(M.map RV.r).length=M.length:=Qp _;by_cases h0:M.length=0
 ·obtain⟨a,c,e⟩:=Fx o;exact⟨a,0,c,by rw[hl];exact e,fun h=>by omega,fun i hi=>by omega⟩
 ·obtain⟨g,c,e,h1,h2,_⟩:=zur o 0 (by omega);refine⟨_,g,c,by rw[hl];exact e,fun _=>⟨rfl,h2⟩,fun i hi=>?_⟩;obtain⟨g',c',e',_,_,q0,q1,q2,q3⟩:=zur o i (by omega);rw[e]at e';injection e' with e1;injection e1 with e2;injection e2 with e3;subst e3;obtain⟨p,pg,pc,ek,ha,Sz⟩:=zz3 (hk M[i] (Qv _));rw[ek]at q3;rw[List.getElem_map];exact⟨q0,q1,q2,p,pg,pc,q3,fun h=>⟨(ha h).1,(ha h).2.2⟩,Sz⟩
theorem zp7(a a':Option Addr)(b b' c c':Nat)(ks:List Nat)(w:World)(h:Ty w a b ks)(h':Ty w a' b' ks)(hn:ks.length<=1048577):
  Calls prog 57 #[.slice a ks.length c,.slice a' ks.length c'] w fun e w'=>e=.returned (.bool true)/\∃q,w'=w.drewN q:=by
 have HK:Hid (∀i (hi:i<ks.length),w.cell? ⟨b,i,none⟩=some (.int .i64 ((ks[i]:Nat):Int))/\w.cell? ⟨b',i,none⟩=some (.int .i64 ((ks[i]:Nat):Int))):=fun i hi=>⟨h.cell i hi,h'.cell i hi⟩;have HA:Hid (0<ks.length->a=some ⟨b,0,none⟩/\a'=some ⟨b',0,none⟩):=fun h0=>⟨(h.addr h0).1,(h'.addr h0).1⟩;have HG:Hid (∀i (hi:i<ks.length),∃z:Int,z=((ks[i]:Nat):Int)):=fun i hi=>⟨_,rfl⟩;clear h h';obtain⟨n,Sz⟩:∃n,ks.length=n:=⟨_,rfl⟩;have HC:Hid (∀i,i<n->∃z:Int,w.cell? ⟨b,i,none⟩=some (.int .i64 z)/\w.cell? ⟨b',i,none⟩=some (.int .i64 z)):=fun i hi=>⟨_,HK.out i (by omega)⟩;rw[Sz]at HA hn ⊢;clear HK HG Sz;go_enter func57,ntmps57;go_wp2;go_loopw [5] (fun i wr=>∃(k q:Nat),k<=n/\i=.int .i64 k/\wr=w.drewN q) (fun i _=>n-(intOf i).toNat)
 case atStart=>exact⟨0,0,by omega,rfl,rfl⟩
 case round=>
  obtain⟨k,q,hk,rfl,rfl⟩:=hrel;by_cases hlt:k<n
  ·obtain⟨rfl,rfl⟩:=HA.out (by omega);obtain⟨z,hc,Va⟩:=HC.out k hlt;go_wp2;go_quiet ((fail));go_wp2;go_roundw
   case rel=>exact⟨k+1,_,by omega,by go_num,rfl⟩
   case measure=>simp[intOf];omega
  ·go_wp2;go_ret;exact⟨rfl,q,rfl⟩
theorem Ty.drew{p:Option Addr}{ks:List Nat}(h:Ty w p g ks)(q:Nat):Ty (w.drewN q) p g ks:=h.bw (Hp.below_drewN w q)
theorem yc4(w:World)(a b:Nat):(w.drewN a).drewN b=w.drewN (a+b):=by
 simp[World.drewN,Nat.add_assoc]
theorem zqk(a a':Option Addr)(b b' c c':Nat)(R:List Rp)(w:World)(h:T5 w a b R)(h':T5 w a' b' R)(hn:R.length<=1048577)(hk:∀r∈R,r.kids.length<=1048577):
  Calls prog 17 #[.slice a R.length c,.slice a' R.length c'] w fun e w'=>e=.returned (.bool true)/\∃q,w'=w.drewN q:=by
 have HA:Hid (0<R.length->a=some ⟨b,0,none⟩/\a'=some ⟨b',0,none⟩):=fun h0=>⟨(h.addr h0).1,(h'.addr h0).1⟩;have HC:Hid (∀i,i<R.length->∃r:Rp,Ac w b i r/\Ac w b' i r/\r.kids.length<=1048577):=fun i hi=>⟨R[i],h.cell i hi,h'.cell i hi,hk _ (Qv hi)⟩;clear h h' hk;generalize R.length=n at*;go_enter func17,ntmps17;go_wp2;go_loopw [5] (fun i wr=>∃(k q:Nat),k<=n/\i=.int .i64 k/\wr=w.drewN q) (fun i _=>n-(intOf i).toNat)
 case atStart=>exact⟨0,0,by omega,rfl,rfl⟩
 case round=>
  obtain⟨k,q,hk,rfl,Sz⟩:=hrel;by_cases hlt:k<n
  ·obtain⟨rfl,rfl⟩:=HA.out (by omega);obtain⟨r,⟨c0,c1,c2,p,pg,pc,c3,c4⟩,⟨d0,d1,d2,x,xg,xc,d3,d4⟩,hr⟩:=HC.out k hlt;have HI:∀m,Calls prog 57 #[.slice p r.kids.length pc,.slice x r.kids.length xc] (wr.drewN m) fun e w'=>e=.returned (.bool true)/\∃m',w'=(wr.drewN m).drewN m':=fun m=>by
    rw[Sz];exact zp7 p x pg xg pc xc r.kids _ ((c4.drew q).drew m) ((d4.drew q).drew m) hr
   have cw:∀z,wr.cell? z=w.cell? z:=fun z=>by rw[Sz];rfl
   rw[<-cw]at c0 c1 c2 c3 d0 d1 d2 d3;have HQ:Hid (wr=w.drewN q):=Sz;clear c4 d4 cw Sz;obtain⟨rk,rn,rs,rc⟩:=r;dsimp only at c0 c1 c2 c3 d0 d1 d2 d3 HI hr;generalize rc.length=m at*;go_wp2;go_quiet ((exact Calls.quiet_of (HI _)));go_wp2;go_roundw
   case rel=>exact⟨k+1,_,by omega,by go_num,by rw[HQ.out,yc4]⟩
   case measure=>simp[intOf];omega
  ·have HQ:Hid (wr=w.drewN q):=Sz;clear Sz;go_wp2;go_ret;exact⟨rfl,q,HQ.out⟩
theorem Ly(a:Option Addr)(g c:Nat)(R:List Rp)(w:World)(h:T5 w a g R)(hn:R.length<=1048577):Calls prog 18 #[.slice a R.length c] w fun e w'=>e=.returned (.bool (decide (R.length=1)&&decide ((R.getD 0 ⟨0,0,⟨#[]⟩,[]⟩).kind=2)))/\w'=w:=by
 by_cases h1:R.length=1
 ·obtain⟨r,rfl⟩:=List.length_eq_one_iff.1 h1;have hc:=(h.cell 0 (by simp)).k;obtain⟨rfl,_⟩:=h.addr (by simp);obtain⟨rk,rn,rs,rc⟩:=r;have hc:w.cell? ⟨g,0,none⟩=some (.int .i64 rk):=hc;clear h h1 hn;show Calls prog 18 #[.slice (some ⟨g,0,none⟩) 1 c] w fun e w'=>e=.returned (.bool (decide (rk=2)))/\w'=w;by_cases h2:rk=2
  ·subst h2;go_enter func18,ntmps18;go_wp2;go_ret;exact⟨rfl,rfl⟩
  ·rw[Qf h2];go_enter func18,ntmps18;go_wp2;go_ret;exact⟨F0 (by simp[h2]),rfl⟩
 ·rw[Qf h1,Q0];clear h;generalize R.length=n at*;have Sz:¬((n:Int)=1):=by omega
  go_enter func18,ntmps18;go_wp2;go_ret;exact⟨rfl,rfl⟩
def Pw (R:List Rp):Rp:=if R.length=1 then R.getD 0 ⟨0,0,⟨#[]⟩,[]⟩ else ⟨0,0,⟨#[]⟩,[]⟩
def Y6 (w:World) (e:Ending) (w':World):Prop:=
 ∃B v L now aa ab ao ac T,e= .returned (.tuple #[v,.int .i64 now,.slice aa (List.length T) ac])/\Fv w' B v L/\O7 (L.map KV.key)/\L.length<=83/\Fs w' aa ab ao T.length T/\T.length<=6/\T.length<=ac/\(∀s∈T,s.size<=20)/\Bl w w'
theorem zvn{rb c:Nat}{M:List KV}(hrb:w.heap.size<=rb)(b1:Bl w w1)(hS:Mz w1 rb a n c v M w'):Bl w w':=by
 obtain⟨g1,g2,g3,g4,g5⟩:=hS.grown;exact b1.trans ⟨g1,g2,g3,g4,fun k hk=>g5 k (Qr hk b1.size) (by intro h;injection h with h;omega)⟩
theorem ydt(a:Option Addr)(n c:Nat)(w:World)(hn:n<=9223372036854775807)(hb:BytesIn w a n w.heap.size):
  Calls prog 13 #[.slice a n c] w (Y6 w):=by
 have HO:Hid (∃rb,w.heap.size<=rb/\Cp 39 #[.slice a n c] w fun e w'=>e=.returned (.pointer (some ⟨rb,0,none⟩))/\Rd w' rb a n c/\Bl w w'):=⟨w.heap.size,Qc _,yeb a n c w hn hb⟩;clear hb;obtain⟨rb,Vk,HO⟩:=HO.out;have Ve:Hid (w.heap.size<=rb):=Vk;clear Vk;go_enter func13,ntmps13;go_wp2_with fail;refine HO.mono ?_;rintro e w1⟨rfl,Vi,b1⟩;have Va:rb<w1.heap.size:=by
  obtain⟨p,_,hr⟩:=Vi.row;exact hr.lt
 have Vf:Hid (Bl w w1):=b1;clear b1 HO;go_wp2_with fail;refine(yiv rb a n c w1 Vi Va).mono ?_;rintro e w2⟨v,M,rfl,hS,hM⟩;have Vh:Hid (Mz w1 rb a n c v M w2):=hS;have HM:Hid (M.length<=83):=hM;clear hS hM Vi;go_wp2_with fail;refine(Ww rb a n c 9 w2 Vh.out.rd (by omega) (by omega)).mono ?_;rintro e w3⟨k,rfl,k0,k1,r3,g3⟩;have Vj:Hid (Mz w1 rb a n c v M w3):=Vh.out.read Va r3 g3;clear Vh r3 g3;go_wp2_with fail;refine(Pd rb a n c 24 w3 Vj.out.rd (by omega) (by omega)).mono ?_;rintro e w4⟨b4,rfl,r4,g4⟩;have Vc:Hid (Mz w1 rb a n c v M w4):=Vj.out.read Va r4 g4;clear Vj r4 g4;cases b4 with
 |false=>
  go_wp2_with fail;refine(Y7 rb a n c w4 Vc.out.rd (Vc.out.lt Va)).mono ?_;rintro e w5⟨x,B,off,Vd,ss,rfl,hs,hl,Vb,r5,g5,hz⟩;have Sz:Hid (Mz w1 rb a n c v M w5):=Vc.out.read Va r5 g5;have HF:Hid (Y6 w (.returned (.tuple #[v,.int .i64 k,.slice x ss.length Vd])) w5):=⟨_,v,M,k,x,B,off,Vd,ss,rfl,Sz.out.own,Sz.out.fit,HM.out,hs,hl,Vb,hz,zvn Ve.out Vf.out Sz.out⟩;clear hs hz r5 g5 Vc Sz HM Vf Ve;generalize ss.length=m at*;go_wp2;go_ret3;exact HF.out
 |true=>
  go_wp2_with fail;refine(Hp.Cr rb a n c 0 1000000000 w4 Vc.out.rd (by omega) (by omega) (by omega)).mono ?_;rintro e w8⟨d,rfl,Vm,Vn,r8,g8⟩;have Vg:Hid (Mz w1 rb a n c v M w8):=Vc.out.read Va r8 g8;clear Vc r8 g8;go_wp2_with fail;refine(Y7 rb a n c w8 Vg.out.rd (Vg.out.lt Va)).mono ?_;rintro e w5⟨x,B,off,Vd,ss,rfl,hs,hl,Vb,r5,g5,hz⟩;have Sz:Hid (Mz w1 rb a n c v M w5):=Vg.out.read Va r5 g5;have HF:Hid (Y6 w (.returned (.tuple #[v,.int .i64 d,.slice x ss.length Vd])) w5):=⟨_,v,M,d,x,B,off,Vd,ss,rfl,Sz.out.own,Sz.out.fit,HM.out,hs,hl,Vb,hz,zvn Ve.out Vf.out Sz.out⟩;clear hs hz r5 g5 Vg Sz HM Vf Ve;generalize ss.length=m at*;go_wp2;go_ret3;exact HF.out
open Go.RowKit
open Rb (Ns C4 W9)
def Pl (R:List Rp):Bool:=decide (R.length=1)&&decide ((R.getD 0 ⟨0,0,⟨#[]⟩,[]⟩).kind=2)
theorem T3{k n:Int}{s:ByteArray}(hk:k≠2):Pl [⟨k,n,s,[]⟩]=false:=by
 unfold Pl;simp[hk]
structure Left (ks:List Ke) (now:Int) (x:List Ke×List Rp):Prop where
 err:Pl x.2=true->x.1=ks
 ok:Fm x.1=true
 live:∀k∈x.1,Hs now k=true
section
variable {ks : List Ke} {now : Int}
theorem Tj(h:Fm ks=true)(hl:∀k∈ks,Hs now k=true)(R:List Rp):Left ks now (ks,R):=⟨fun _=>rfl,h,hl⟩
theorem zqt(h:Fm ks=true)(hl:∀k∈ks,Hs now k=true)(nm:ByteArray)(hR:Pl R=false):Left ks now (G5 ks nm,R):=
 ⟨fun e=>(by rw[hR]at e;cases e),C4 h nm,fun k hk=>hl k (List.mem_filter.1 hk).1⟩
theorem zlx(hl:∀k∈ks,Hs now k=true)(hk:Hs now k=true)(hs:Fm (G0 ks k)=true)(hR:Pl R=false):Left ks now (G0 ks k,R):=
 ⟨fun e=>(by rw[hR]at e;cases e),hs,fun y hy=>by
  rcases Df hy with q|q
  ·exact hl y q
  ·rw[q];exact hk⟩
theorem Wk(h:Fm ks=true)(hl:∀k∈ks,Hs now k=true)(hk:Hs now k=true)(hR:Pl R=false):Left ks now (Fj ks k R):=by
 unfold Fj;split
 ·exact zqt h hl _ hR
 ·split
  ·rename_i hs;exact zlx hl hk hs hR
  ·exact Tj h hl _
theorem zt9(h:Fm ks=true)(hl:∀k∈ks,Hs now k=true)(hk:k∈ks){d:Int}(h0:0<=d)(h1:d<=1000000000)(ha:Hs now (k.withDue d)=true)(hR:Pl R=false):Left ks now (G0 ks (k.withDue d),R):=by
 refine zlx hl ha ?_ hR;have hq:Lw ks:=T8 h;have q:=An hq hk h0 h1;rw[W9 h,Qe q.1,Bool.and_true];have:=hq.2 k hk;unfold Hh Lp at this ⊢;simp only[Qh,decide_eq_true_eq]at this ⊢;exact⟨this.1,this.2.1,h0,h1⟩
theorem ybe(h:Fm ks=true)(hl:∀k∈ks,Hs now k=true)(hk:Hs now k=true):Left ks now (Ol c ks k th T):=by
 unfold Ol;split<;>repeat(first|exact Tj h hl _|exact Wk h hl (k:=_) (by exact hk) (T3 (by decide))|split)
theorem zwa(h:Fm ks=true)(hl:∀k∈ks,Hs now k=true)(hk:Hs now k=true):Left ks now (Od c ks k th T):=by
 unfold Od;split<;>repeat(first|exact Tj h hl _|exact Wk h hl (k:=_) (by exact hk) (T3 (by decide))|split)
theorem ybj(h:Fm ks=true)(hl:∀k∈ks,Hs now k=true)(hk:Hs now k=true):Left ks now (Om c ks k T):=by
 unfold Om;split<;>repeat(first|exact Tj h hl _|exact Wk h hl (k:=_) (by exact hk) (T3 (by decide))|split)
theorem zy8(h:Fm ks=true)(hl:∀k∈ks,Hs now k=true)(hk:Hs now k=true):Left ks now (M5 c ks k T):=by
 unfold M5;split<;>repeat(first|exact Tj h hl _|exact Wk h hl (k:=_) (by exact hk) (T3 (by decide))|split)
theorem ya3{x:Int}(hx:1<=x):Hs now (k.withDue (now+x))=true:=by
 unfold Hs Ke.withDue;simp only[Bool.or_eq_true,decide_eq_true_eq];exact .inr (by omega)
theorem yew(h:Fm ks=true)(hl:∀k∈ks,Hs now k=true)(h1:k.due≠0->k∈ks)(h2:th=true->k∈ks)(hn:0<=now/\now<=1000000000):Left ks now (anyM c ks k th now T):=by
 have hz:∀nm t,Hs now (F5 nm t 0)=true:=fun nm t=>rfl;have Sz:∀nm t x,1<=x->Hs now (F5 nm t (now+x))=true:=fun nm t x hx=>by
  unfold Hs F5;simp only[Bool.or_eq_true,decide_eq_true_eq];exact .inr (by omega)
 unfold anyM;split<;>repeat(first|exact Tj h hl _|exact Wk h hl (hz _ _) (T3 (by decide))|exact Wk h hl (Sz _ _ _ (by omega)) (T3 (by decide))|exact zt9 h hl (h1 (by assumption)) (by omega) (by omega) rfl (T3 (by decide))|exact zt9 h hl (h2 (by assumption)) (by omega) (by omega) (ya3 (by omega)) (T3 (by decide))|exact zqt h hl _ (T3 (by decide))|split)
theorem Ir:∀(T:List ByteArray) (s:List Ke×Nat),Fm s.1=true->(∀k∈s.1,Hs now k=true)->Fm (T.foldl (Ni true) s).1=true/\∀k∈(T.foldl (Ni true) s).1,Hs now k=true
 | [],s,a,b=>⟨a,b⟩
 |t::T,s,a,b=>by
  rw[List.foldl_cons];refine Ir T _ ?_ ?_<;>unfold Ni<;>split
  ·exact a
  ·exact C4 a t
  ·exact b
  ·exact fun k hk=>b k (List.mem_filter.1 hk).1
theorem ybq(h:Fm ks=true)(hl:∀k∈ks,Hs now k=true):Left ks now (Oj c ks T):=by
 cases c using Cm.elim
 case DEL=>
  obtain⟨a,b⟩:=Ir T (ks,0) h hl;exact⟨fun e=>(by cases e),a,b⟩
 case FLUSHALL=>exact⟨fun e=>(by cases e),rfl,fun k hk=>(by cases hk)⟩
 all_goals exact Tj h hl _
theorem znv(h:Fm ks=true)(hl:∀k∈ks,Hs now k=true)(hk:Hs now k=true)(h1:k.due≠0->k∈ks)(h2:th=true->k∈ks)(hn:0<=now/\now<=1000000000):Left ks now (Mh c ks k th now T):=by
 unfold Mh;split
 ·exact ybe h hl hk
 ·exact zwa h hl hk
 ·exact ybj h hl hk
 ·exact zy8 h hl hk
 ·exact yew h hl h1 h2 hn
theorem left_done(h:Fm ks=true)(hl:∀k∈ks,Hs now k=true)(hn:0<=now/\now<=1000000000):Left ks now (Lc ks now T):=by
 unfold Lc;split
 ·exact Tj h hl _
 ·split
  ·split
   ·exact ybq h hl
   ·unfold Np;split
    ·exact znv h hl rfl (fun e=>absurd rfl e) (fun e=>by cases e) hn
    ·rename_i hf;split
     ·exact Tj h hl _
     ·have hm:ks.getD (Lm ks (Fa T.tail 0) 0).toNat ke0∈ks:=by
       rcases Ba ks (Fa T.tail 0) 0 with e|⟨i,hi,e⟩
       ·exact absurd (by rw[e];decide) hf
       ·rw[e,Int.toNat_natCast,Qq,Qa,Qd hi];exact Qv hi
      exact znv h hl (hl _ hm) (fun _=>hm) (fun _=>hm) hn
  ·exact Tj h hl _
end
theorem zw5{ks:List Ke}{now:Int}:∀k∈Hb ks now,Hs now k=true:=fun _ hk=>(List.mem_filter.1 hk).2
theorem zt0{ks:List Ke}{now:Int}(h:∀k∈ks,Hs now k=true):Hb ks now=ks:=List.filter_eq_self.2 h
theorem Fp:∀l:List UInt8,bytesBefore l l=false
 |[]=>rfl
 |x::l=>by
  unfold bytesBefore;simp[Fp l]
theorem H6{ks:List Ke}(h:Ri.UpK ks):ks.Pairwise fun x y=>x.name≠y.name:=
 List.Pairwise.imp (fun {x y} hxy e=>by rw[e,Fp]at hxy;cases hxy) h
theorem Im:∀{ks:List Ke}{k:Ke}(s:Nat),(ks.Pairwise fun x y=>x.name≠y.name)->k∈ks->∃i,Lm ks k.name s=((s+i:Nat):Int)/\ks.getD i ke0=k
 |[],_,_,_,h=>by cases h
 |x::ks,k,s,hp,h=>by
  unfold Lm;by_cases e:x.name=k.name
  ·rw[if_pos e];refine⟨0,rfl,?_⟩;rcases List.mem_cons.1 h with q|q
   ·exact q.symm
   ·exact absurd e ((List.pairwise_cons.1 hp).1 k q)
  ·rw[if_neg e];rcases List.mem_cons.1 h with q|q
   ·exact absurd (by rw[q]) e
   ·obtain⟨i,h1,h2⟩:=Im (s+1) (List.pairwise_cons.1 hp).2 q;exact⟨i+1,by rw[h1];congr 1;omega,h2⟩
theorem Mb:∀{ks:List Ke}{nm:ByteArray}(s:Nat),(∀k∈ks,k.name≠nm)->Lm ks nm s= -1
 |[],_,_,_=>rfl
 |x::ks,nm,s,h=>by
  unfold Lm;rw[if_neg (h x (by simp))];exact Mb (s+1) fun k hk=>h k (List.mem_cons_of_mem _ hk)
theorem Lt{ks:List Ke}(h:Fm ks=true)(hk:k∈ks)(now:Int)(A:List ByteArray)(hc:c.kind=0\/k.val.kind=(c.kind:Int)):Np c ks now (k.name::A)=Mh c ks k true now (k.name::A):=by
 obtain⟨i,h1,h2⟩:=Im 0 (H6 (Ri.Wb h)) hk;unfold Np;have ea:Fa (k.name::A) 0=k.name:=rfl;rw[ea,h1,if_neg (by omega),Int.toNat_natCast,Qq,h2,if_neg (by omega)]
theorem yle{ks:List Ke}(hk:∀k∈ks,k.name≠nm)(now:Int)(A:List ByteArray):Np c ks now (nm::A)=Mh c ks (Mr nm c.kind) false now (nm::A):=by
 unfold Np;have ea:Fa (nm::A) 0=nm:=rfl;rw[ea,Mb 0 hk,if_pos (by decide)]
theorem ylq:(Cm.all.all fun c=>decide (Nn (H9 c.text)=some c))=true:=by kernel_rfl
theorem ylz(c:Cm):c∈Cm.all:=by
 revert c;decide
theorem Hq(c:Cm)(ks:List Ke)(now:Int)(A:List ByteArray):Lc ks now (c.text::A)=if c.fits A.length=true then(if c.many=true then Oj c ks A else Np c ks now A) else(ks,Fl Pk):=by
 unfold Lc;have ea:Fa (c.text::A) 0=c.text:=rfl;rw[ea,Qg (Qw.1 ylq c (ylz c))];rfl
theorem zwp{ks:List Ke}{now:Int}(h:Fm ks=true)(hl:∀k∈ks,Hs now k=true)(hn:0<=now/\now<=1000000000)(h1:1<=T.length)(h16:T.length<=16)(hs:∀t∈T,t.size<=200):Nj ks now T=Lc ks now T:=by
 have ha:Oe T=true:=by
  unfold Oe;rw[Qh,Qw];refine⟨fun i hi=>Qe ?_,Qe h16⟩;have hi:=List.mem_range.1 hi;rw[Qa,Qd hi];exact hs _ (Qv hi)
 have ho:Tt ks now T=true:=by
  unfold Tt Lp;rw[h,ha,Qe hn.1,Qe hn.2,Qe h1];rfl
 unfold Nj;rw[ho,if_pos rfl,zt0 hl]
theorem G4{ks:List Ke}(h:Fm ks=true)(k:Ke):k∈G0 ks k:=by
 rw[Rb.Wz k ((Rb.Ns ks).1 h).2.1];exact Rb.V9 _ _
theorem ylo{ks:List Ke}:∀k∈G5 ks nm,k.name≠nm:=fun _ hk=>(Rb.Ih hk).2
def Fw (ks:List Ke) (nm:ByteArray):Option Ke:=ks.find? fun x=>decide (x.name=nm)
theorem ylh{ks:List Ke}(h:Fw ks nm=some k):k∈ks/\k.name=nm:=
 ⟨List.mem_of_find?_eq_some h,by
  have:=List.find?_some h;exact Qg this⟩
theorem ylg{ks:List Ke}(h:Fw ks nm=none):∀k∈ks,k.name≠nm:=fun k hk e=>by
 have:=List.find?_eq_none.1 h k hk;exact this (Qe e)
theorem yll{ks:List Ke}(h:∀k∈ks,k.name≠nm):Fw ks nm=none:=
 List.find?_eq_none.2 fun k hk e=>h k hk (Qg e)
theorem ylf:∀{ks:List Ke}{k:Ke},(ks.Pairwise fun x y=>x.name≠y.name)->k∈ks->Fw ks k.name=some k
 |[],_,_,h=>by cases h
 |x::ks,k,hp,h=>by
  unfold Fw;rw[List.find?_cons];by_cases e:x.name=k.name
  ·rw[Qe e];rcases List.mem_cons.1 h with q|q
   ·rw[q]
   ·exact absurd e ((List.pairwise_cons.1 hp).1 k q)
  ·rw[Qf e];rcases List.mem_cons.1 h with q|q
   ·exact absurd (by rw[q]) e
   ·exact ylf (List.pairwise_cons.1 hp).2 q
theorem F8{ks:List Ke}(h:Fm ks=true)(hk:k∈ks):Fw ks k.name=some k:=ylf (H6 (Ri.Wb h)) hk
theorem L7(ks:List Ke)(nm:ByteArray):(Fw ks nm=none/\∀k∈ks,k.name≠nm)\/∃k,Fw ks nm=some k/\k∈ks/\k.name=nm:=by
 cases h:Fw ks nm with
 |none=>exact .inl ⟨rfl,ylg h⟩
 |some k=>exact .inr ⟨k,rfl,ylh h⟩
theorem ylc{ks:List Ke}(h:∀k∈ks,k.name≠nm)(t:Int):Fw (Hb ks t) nm=none:=
 yll fun k hk=>h k (List.mem_filter.1 hk).1
theorem C6(c:Cm){ks:List Ke}(h:Fm ks=true)(hk:k∈ks)(now:Int)(A:List ByteArray)(hf:c.fits (A.length+1)=true)(hm:c.many=false)(hc:c.kind=0\/k.val.kind=(c.kind:Int)):Lc ks now (c.text::k.name::A)=Mh c ks k true now (k.name::A):=by
 rw[Hq,Q1,if_pos hf,if_neg (by rw[hm];simp),Lt h hk now A hc]
theorem ylm(c:Cm){ks:List Ke}(hk:∀k∈ks,k.name≠nm)(now:Int)(A:List ByteArray)(hf:c.fits (A.length+1)=true)(hm:c.many=false):Lc ks now (c.text::nm::A)=Mh c ks (Mr nm c.kind) false now (nm::A):=by
 rw[Hq,Q1,if_pos hf,if_neg (by rw[hm];simp),yle hk now A]
theorem three(h:T.length=3):T=[Fa T 0,Fa T 1,Fa T 2]:=by
 match T,h with
 |[_,_,_],_=>rfl
def DbR (w:World) (v:Value) (ks:List Ke):Prop:=∃a A c L,v= .slice a ks.length c/\Oc w a A L.length L/\L.map KV.key=ks
def RpR (w:World) (v:Value) (R:List Rp):Prop:=∃a g c,v= .slice a R.length c/\T5 w a g R
theorem DbR.bw{ks:List Ke}(h:DbR w v ks)(hb:Bl w w'):DbR w' v ks:=by
 obtain⟨a,A,c,L,e,hd,hk⟩:=h;exact⟨a,A,c,L,e,hd.bw hb,hk⟩
theorem RpR.bw(h:RpR w v R)(hb:Bl w w'):RpR w' v R:=by
 obtain⟨a,g,c,e,hr⟩:=h;exact⟨a,g,c,e,hr.bw hb⟩
theorem Il(h:Fv w B v L):DbR w v (L.map KV.key):=by
 obtain⟨a,A,c,e,hd⟩:=h.at;exact⟨a,A,c,L,by rw[Qp];exact e,hd,rfl⟩
def Ug (w:World) (p:List Ke×List Rp) (e:Ending) (w':World):Prop:=
 ∃v r,e= .returned (.tuple #[v,r])/\DbR w' v p.1/\RpR w' r p.2/\Bl w w'
theorem ybv(h:Rb.Bu w p e w'):Ug w p e w':=by
 obtain⟨v,r,L,rfl,hk,ho,hv,hr,hb⟩:=h;obtain⟨a,A,c,e,Sz⟩:=Uw ho;exact⟨v,r,rfl,⟨a,A,c,L,by rw[<-hk,Qp];exact e,⟨Sz,fun i hi=>⟨_,hv.own _ (by rw[Qa,Qd hi];exact Qv hi)⟩⟩,hk⟩,yfp hr,hb⟩
theorem zy0(h:Fh w B p e w'):Ug w p e w':=by
 obtain⟨v,r,L,rfl,hk,ho,hr,hb⟩:=h;exact⟨v,r,rfl,by rw[<-hk];exact Il ho,yfp hr,hb⟩
theorem Ct(h:Rb.Px w ad)(hb:Bl w W):Rb.Px W ad:=by
 have hs:=hb.size;have n25:=h.es.er.n25;have q:=h.es.bw hb;refine⟨⟨⟨q.er.rd,q.er.fd,fun i hi=>⟨(q.er.er i hi).1,Qr (q.er.er i hi).2 hs⟩,by omega⟩,q.ms⟩,fun i hi=>(h.ev i hi).bw hb n25 (h.ev i hi).low,h.ne,(hb.cell (p:=⟨3,0,none⟩) (by show 3<_;omega)).trans h.g7⟩
def C3 (ks:List Ke):Prop:=O7 ks/\ks.length<=1000
theorem zlo(h:O7 (L.map KV.key)):Small L:=fun i hi=>by
 have k:=h _ (List.mem_map.2 ⟨L.getD i kv0,by rw[Qa,Qd hi];exact Qv hi,rfl⟩);exact⟨⟨k.fit.fit,k.np,k.nums⟩,k.fit.name⟩
theorem yhr{ks:List Ke}(h:Fm ks=true):C3 ks:=by
 obtain⟨h1,h2⟩:=zrs h;exact⟨h1,by omega⟩
theorem znu(v:Value)(ks:List Ke)(now:Int)(aa:Option Addr)(ab ao m ac:Nat)(T:List ByteArray)(ad:Nat->Addr)(w:World)(h:DbR w v ks)(hg:C3 ks)(ha:Fs w aa ab ao m T)(hm:m<=1000)(hac:m<=ac)(hE:Rb.Px w ad):
  Calls prog 14 #[v,.int .i64 now,.slice aa m ac] w (Ug w (Nj ks now T)):=by
 obtain⟨a,A,c,L,rfl,hd,rfl⟩:=h;have hl:=hg.2;rw[Qp]at hl ⊢;exact(Rb.zs4 a A L.length c L now aa ab ao m ac T ad w hd (zlo hg.1) (by omega) ha hm hac hE).mono fun e w' he=>ybv he
theorem zvx(B:Nat)(v:Value)(L:List KV)(now:Int)(aa:Option Addr)(ab ao m ac:Nat)(T:List ByteArray)(w:World)(h:Fv w B v L)(hg:C3 (L.map KV.key))(ha:Fs w aa ab ao m T)(hm:m<=1000)(hac:m<=ac):
  Calls prog 15 #[v,.int .i64 now,.slice aa m ac] w (Ug w (Nj (L.map KV.key) now T)):=by
 have hl:=hg.2;rw[Qp]at hl;exact(zj3 B v L now aa ab ao m ac T w h hg.1.k hl ha hm hac).mono fun e w' he=>zy0 he
theorem zjk(r r':Value)(R:List Rp)(w:World)(h:RpR w r R)(h':RpR w r' R)(hR:R=[]\/RpS R):
  Calls prog 17 #[r,r'] w fun e w'=>e=.returned (.bool true)/\Bl w w':=by
 obtain⟨a,g,c,rfl,hr⟩:=h;obtain⟨a',g',c',rfl,Sz⟩:=h';have hs:R.length<=41/\∀r∈R,r.kids.length<=41:=by
  rcases hR with rfl|⟨_,h2,h3⟩
  ·exact⟨by simp,fun r hr=>by cases hr⟩
  ·exact⟨h2,fun r hr=>(h3 r hr).1⟩
 refine(zqk a a' g g' c c' R w hr Sz (by omega) (fun r hr=>by have:=hs.2 r hr;omega)).mono ?_;rintro e w'⟨rfl,q,rfl⟩;exact⟨rfl,Hp.below_drewN w q⟩
theorem yli(r:Value)(R:List Rp)(w:World)(h:RpR w r R)(hn:R.length<=41):Calls prog 18 #[r] w fun e w'=>e=.returned (.bool (Pl R))/\w'=w:=by
 obtain⟨a,g,c,rfl,hr⟩:=h;exact Ly a g c R w hr (by omega)
theorem zmx(ks:List Ke)(now:Int)(T:List ByteArray):(Tt ks now T=false/\Nj ks now T=([],[]))\/(Tt ks now T=true/\Fm ks=true/\(0<=now/\now<=1000000000)/\T.length<=16/\1<=T.length/\(∀i,i<T.length->(Fa T i).size<=200)/\Nj ks now T=Lc (Hb ks now) now T/\Left (Hb ks now) now (Lc (Hb ks now) now T)/\RpS (Lc (Hb ks now) now T).2):=by
 cases h:Tt ks now T with
 |false=>exact .inl ⟨rfl,by unfold Nj;rw[h,if_neg (by simp)]⟩
 |true=>
  have h0:=h;unfold Tt at h;simp only[Qh,decide_eq_true_eq]at h;obtain⟨h1,h2,h3,h4⟩:=h;unfold Lp at h2;simp only[Qh,decide_eq_true_eq]at h2;obtain⟨u1,u2⟩:=E6 h4;exact .inr ⟨rfl,h1,h2,u1,h3,u2,by unfold Nj;rw[h0,if_pos rfl],left_done (Rb.E7 h1 now) zw5 h2,yg8 (zn0 (T8 h1)) u2⟩
structure Pq (w1:World) (v:Value) (ks:List Ke) (now:Int) (aa:Option Addr) (ab ao m ac:Nat) (T:List ByteArray) (ad:Nat->Addr):Prop where
 own:∃B L,Fv w1 B v L/\L.map KV.key=ks
 good:C3 ks
 args:Fs w1 aa ab ao m T
 len:T.length=m
 few:m<=6
 cap:m<=ac
 env:Rb.Px w1 ad
theorem Pq.bw{ks:List Ke}{now:Int}(h:Pq w1 v ks now aa ab ao m ac T ad)(hb:Bl w1 W):Pq W v ks now aa ab ao m ac T ad:=by
 obtain⟨B,L,ho,hk⟩:=h.own;exact⟨⟨B,L,ho.bw hb,hk⟩,h.good,Lb h.args hb,h.len,h.few,h.cap,Ct h.env hb⟩
theorem Pq.db{ks:List Ke}{now:Int}(h:Pq w1 v ks now aa ab ao m ac T ad):DbR w1 v ks:=by
 obtain⟨B,L,ho,rfl⟩:=h.own;exact Il ho
theorem Pq.impl{ks:List Ke}{now:Int}(h:Pq w1 v ks now aa ab ao m ac T ad):
  Calls prog 14 #[v,.int .i64 now,.slice aa m ac] w1 (Ug w1 (Nj ks now T)):=
 znu v ks now aa ab ao m ac T ad w1 h.db h.good h.args (by have:=h.few;omega) h.cap h.env
theorem Pq.spec{ks:List Ke}{now:Int}(h:Pq w1 v ks now aa ab ao m ac T ad):
  Calls prog 15 #[v,.int .i64 now,.slice aa m ac] w1 (Ug w1 (Nj ks now T)):=by
 have hf:=h.few;have hg:=h.good;obtain⟨B,L,ho,rfl⟩:=h.own;exact zvx B v L now aa ab ao m ac T w1 ho hg h.args (by omega) h.cap
theorem zz0(a:Option Addr)(n c:Nat)(w:World)(hn:n<=9223372036854775807)(hb:BytesIn w a n w.heap.size)(ad:Nat->Addr)(hE:Rb.Px w ad):
  Calls prog 13 #[.slice a n c] w fun e w1=>∃v ks now aa ab ao m ac T,e=.returned (.tuple #[v,.int .i64 now,.slice aa m ac])/\Pq w1 v ks now aa ab ao m ac T ad/\Bl w w1:=by
 refine(ydt a n c w hn hb).mono ?_;rintro e w1⟨B,v,L,now,aa,ab,ao,ac,T,rfl,Sz,Vd,Ve,Va,Vc,Vb,Vf,b1⟩;exact⟨v,L.map KV.key,now,aa,ab,ao,T.length,ac,T,rfl,⟨⟨B,L,Sz,rfl⟩,⟨Vd,by rw[Qp];omega⟩,Va,rfl,Vc,Vb,Ct hE b1⟩,b1⟩
theorem Mg{ks:List Ke}(h:Fm ks=true)(hk:k∈ks)(t:Int):(Fw (Hb ks t) k.name).isSome=Hs t k:=by
 cases ha:Hs t k with
 |true=>rw[F8 (Rb.E7 h t) (List.mem_filter.2 ⟨hk,ha⟩)];rfl
 |false=>
  rw[yll (fun x hx e=>by
   obtain⟨h1,h2⟩:=List.mem_filter.1 hx;have e1:=F8 h h1;rw[e,F8 h hk]at e1;injection e1 with e1;rw[e1,h2]at ha;cases ha)]
  rfl
theorem F9(L:List KV)(nm:ByteArray):(Ri.Fq L nm).map KV.key=Fw (L.map KV.key) nm:=by
 unfold Ri.Fq Fw;rw[List.find?_map];rfl
def yl1 (w:World) (o:Option Ke) (e:Ending) (w':World):Prop:=
 ∃k a1 c1 a2 c2 a3 c3,e= .returned (.tuple #[.agg #[.string k.name,.int .i64 k.val.kind,.string k.val.text,.slice a1 k.val.ia.length c1,.slice a2 k.val.pj.length c2,.slice a3 k.val.rq.length c3,.int .i64 k.due],.bool o.isSome])/\k=o.getD ke0/\(∃A,Fs w' a1 A 0 k.val.ia.length k.val.ia)/\Bl w w'
theorem Ld(w:World)(a:Addr)(u:Value):w.grownBy (w.setCell a u) (some a.block):=
 ⟨rfl,rfl,rfl,by simp,fun k _ hk=>heap_setCell_other w a k u (fun e=>hk (by rw[e]))⟩
theorem Ff(w:World)(g i:Nat)(u:Value):w.grownBy (w.setCell ⟨g,i,none⟩ u) (some g):=Ld w ⟨g,i,none⟩ u
theorem ylk{T:TypeId}{c0 c1 c2 c3 c4 c5 c6:Value}(r0:Fc W g T #[c0,c1,c2,c3,c4,c5,c6])(v0 v1 v2 v3 v4 v5 v6:Value):
  ∃W7,((((((W.setCell ⟨g,0,none⟩ v0).setCell ⟨g,1,none⟩ v1).setCell ⟨g,2,none⟩ v2).setCell ⟨g,3,none⟩ v3).setCell ⟨g,4,none⟩ v4).setCell ⟨g,5,none⟩ v5).setCell ⟨g,6,none⟩ v6=W7/\Fc W7 g T #[v0,v1,v2,v3,v4,v5,v6]/\W.grownBy W7 (some g):=by
 have r1:Fc _ g T #[v0,c1,c2,c3,c4,c5,c6]:=r0.set 0 v0;have r2:Fc _ g T #[v0,v1,c2,c3,c4,c5,c6]:=r1.set 1 v1;have r3:Fc _ g T #[v0,v1,v2,c3,c4,c5,c6]:=r2.set 2 v2;have r4:Fc _ g T #[v0,v1,v2,v3,c4,c5,c6]:=r3.set 3 v3;have r5:Fc _ g T #[v0,v1,v2,v3,v4,c5,c6]:=r4.set 4 v4;have r6:Fc _ g T #[v0,v1,v2,v3,v4,v5,c6]:=r5.set 5 v5;have r7:Fc _ g T #[v0,v1,v2,v3,v4,v5,v6]:=r6.set 6 v6;exact⟨_,rfl,r7,((((((Ff W g 0 v0).trans (Ff _ g 1 v1)).trans (Ff _ g 2 v2)).trans (Ff _ g 3 v3)).trans (Ff _ g 4 v4)).trans (Ff _ g 5 v5)).trans (Ff _ g 6 v6)⟩
theorem Ht(h:Bl w w')(g:Nat):w.grownBy w' (some g):=
 ⟨h.os,h.tape,h.output,h.size,fun k hk _=>h.block k hk⟩
abbrev z7A:Array Value:= #[.string ⟨#[]⟩,.int .i64 0,.string ⟨#[]⟩,.slice none 0 0,.slice none 0 0,.slice none 0 0,.int .i64 0]
theorem yln{b:Nat}(h:Ri.Ts w b n L w1)(nm:ByteArray):∃B,VOwn w1 B (Rb.Fb L nm).key.val (Rb.Fb L nm).vi (Rb.Fb L nm).vp (Rb.Fb L nm).vr:=by
 rcases Rb.Oo L nm with⟨-,e⟩|⟨-,hm,-⟩
 ·rw[e];exact⟨0,ydv w1 0 0⟩
 ·obtain⟨i,hi,e⟩:=List.getElem_of_mem hm;obtain⟨β,hβ⟩:=h.vals;have:=hβ.own i hi;rw[Qa,Qd hi,Option.getD_some,e]at this;exact⟨_,this⟩
theorem ylt(v:Value)(ks:List Ke)(now:Int)(nm:ByteArray)(w:World)(h:DbR w v ks)(hok:Fm ks=true)(hR:Ready w)(hs:nm.size<=1048576):
  Calls prog 24 #[v,.int .i64 now,.string nm] w (yl1 w (Fw (Hb ks now) nm)):=by
 obtain⟨a,A,c,L,rfl,hd,rfl⟩:=h;have hg:=yhr hok;have hl:=hg.2;rw[Qp]at hl ⊢;obtain⟨W0,Vj,Vh,b0,r0⟩:=boxed w z7A 47;have HA:Hid (Cp 47 #[.slice a L.length c,.int .i64 now] W0 (Ri.Cv W0 true now (L.map KV.key))):=by
  have:=Ri.Ie a A L.length c L now W0 (hd.bw b0) (zlo hg.1) (by omega) (hR.bw (b0.mono hR.six));rw[hok]at this;exact this
 have q0:W0.heap.size=w.heap.size+1:=by rw[<-Vj];simp
 have Vi:∀k∈L.map KV.key,∀t∈k.val.ia,t.size<=1048576:=fun k hk t ht=>Qj ((We ((T8 hok).2 k hk)).ia t ht) (by decide);have Vk:(L.map KV.key).filter (Ri.Oy now)=Hb (L.map KV.key) now:=Rb.Id now _;clear hd hR hg hl Vj;have HB:Hid (Bl w W0):=b0;have Vf:Hid (Fc W0 w.heap.size 47 z7A):=r0;have HQ:Hid (W0.heap.size=w.heap.size+1):=q0;clear b0 r0 q0;generalize hM:yl1 w (Fw (Hb (L.map KV.key) now) nm)=M;have HM:Hid (yl1 w (Fw (Hb (L.map KV.key) now) nm)=M):=hM;clear hM;generalize hG:w.heap.size=G at*;go_enter func24,ntmps24;go_upto_region 1 with fail;rw[Vh.out];clear Vh;go_wp2_with fail;refine HA.out.mono ?_;rintro e w1 (⟨ho,_⟩|⟨_,bM,L',rfl,hk,hi⟩)
 ·cases ho
 rw[Vk]at hk;have Sz:=Ri.Ig hi.own nm (Qj hs (by decide));rw[Rb.Cw]at Sz;obtain⟨a1,n1,c1,a2,n2,c2,a3,n3,c3,e1,e2,e3⟩:=Rb.Ro hi.own nm (Qj hs (by decide));have HO:Hid ((Ri.Fq L' nm).isSome=(Fw (Hb (L.map KV.key) now) nm).isSome/\(Rb.Fb L' nm).key=(Fw (Hb (L.map KV.key) now) nm).getD ke0):=by
  rw[<-hk,<-F9];unfold Rb.Fb;cases Ri.Fq L' nm<;>exact⟨rfl,rfl⟩
 obtain⟨B,hv⟩:=yln hi nm;have Vd:∀t∈(Rb.Fb L' nm).key.val.ia,t.size<=1048576:=by
  rcases Rb.Oo L' nm with⟨-,e⟩|⟨-,hm,-⟩
  ·rw[e];intro t ht;cases ht
  ·have Vg:=List.mem_map_of_mem (f:=KV.key) hm;rw[hk]at Vg;exact Vi _ (List.mem_filter.1 Vg).1
 have Vo:=hv.at Vd;obtain⟨⟨a1,_,c1,e1,_⟩,⟨a2,_,c2,e2,_⟩,⟨a3,_,c3,e3,_⟩⟩:=Vo;have b1:=hi.bel;have Vc:Fc w1 G 47 z7A:=Fc.bw Vf.out b1 (by have:=HQ.out;omega);have Vn:G<w1.heap.size:=Vc.lt;unfold Ri.kvA kC at Sz;rw[e1,e2,e3]at Sz;generalize hK:(Rb.Fb L' nm).key=K at*;obtain⟨W3,_,E3,b3,r3⟩:=boxed w1 #[.string K.name,.int .i64 K.val.kind,.string K.val.text,.slice a1 K.val.ia.length c1,.slice a2 K.val.pj.length c2,.slice a3 K.val.rq.length c3,.int .i64 K.due] 47;have Va:Fc W3 G 47 z7A:=Fc.bw Vc b3 Vn;obtain⟨W4,E4,r4,g4⟩:=ylk Va (.string K.name) (.int .i64 K.val.kind) (.string K.val.text) (.slice a1 K.val.ia.length c1) (.slice a2 K.val.pj.length c2) (.slice a3 K.val.rq.length c3) (.int .i64 K.due);have Ve:w1.grownBy W4 (some G):=(Ht b3 G).trans g4;have Vb:(∃A,Fs W4 a1 A 0 K.val.ia.length K.val.ia)/\Bl w W4:=by
  constructor
  ·have Vp:=(Wf hv fun g e C he hC=>Ve.block g hC.lt (fun eq=>by
    cases eq;have:=hC.symm.trans Vc;injection this with this;injection this with _ this;exact he this)).at Vd
   obtain⟨a',A',c',e',h'⟩:=Vp.ia;rw[e1]at e';injection e' with ea _ _;subst ea;exact⟨A',h'⟩
  ·exact(HB.out.trans (b1.mono (by have:=HB.out.size;omega))).grown Ve (by omega) (fun k hk=>by injection hk with hk;omega)
 have HF:Hid (M (.returned (.tuple #[.agg #[.string K.name,.int .i64 K.val.kind,.string K.val.text,.slice a1 K.val.ia.length c1,.slice a2 K.val.pj.length c2,.slice a3 K.val.rq.length c3,.int .i64 K.due],.bool (Ri.Fq L' nm).isSome])) W4):=by
  rw[<-HM.out];exact⟨K,a1,c1,a2,c2,a3,c3,by rw[HO.out.1],HO.out.2,Vb.1,Vb.2⟩
 obtain⟨y0,y1,y2,y3,y4,y5,y6⟩:=F6 r3;obtain⟨x0,x1,x2,x3,x4,x5,x6⟩:=F6 r4;obtain⟨z0,z1,z2,z3,z4,z5,z6⟩:=F6 Va;have HX:Hid (_/\_/\_/\_/\_/\_/\_):=⟨x0,x1,x2,x3,x4,x5,x6⟩;have q0:=Va.frozen 0;have q1:=Va.frozen 1;have q2:=Va.frozen 2;have q3:=Va.frozen 3;have q4:=Va.frozen 4;have q5:=Va.frozen 5;have q6:=Va.frozen 6;have Vm:Hid _:=E4;generalize(Ri.Fq L' nm).isSome=b,K.val.ia.length=m1,K.val.pj.length=m2,K.val.rq.length=m3,K.name=kn,K.val.kind=kk,K.val.text=kt,K.due=kd at*;clear E4 r4 g4 Ve Vb hv Vd e1 e2 e3 hi b3 b1 Vc Va r3 x0 x1 x2 x3 x4 x5 x6 HO hk HM HA Vi Vk HB Vf HQ hG hok;go_upto_region 2 with fail;clear E3 Sz;go_wp2;rw[Vm.out];obtain⟨x0,x1,x2,x3,x4,x5,x6⟩:=HX.out;exact bodyPost_ret (v:=.tuple #[.agg #[.string kn,.int .i64 kk,.string kt,.slice a1 m1 c1,.slice a2 m2 c2,.slice a3 m3 c3,.int .i64 kd],.bool b]) (by simp[results,results24,go_sem,x0,x1,x2,x3,x4,x5,x6]) rfl HF.out
theorem Hv{G:Nat}{C:Array Value}(r:Fc W G 9 C)(e:C=(T.map Value.string).toArray)(hs:∀t∈T,t.size<=200):Fs W (some ⟨G,0,none⟩) G 0 T.length T:=by
 subst e;refine⟨rfl,fun _=>rfl,fun _=>r.lt,fun i hi=>?_,fun i hi=>?_⟩
 ·rw[Qq,r.cell i,Qm,List.getElem?_map,Qd hi,Qa,Qd hi];rfl
 ·rw[Qa,Qd hi];exact Qj (hs _ (Qv hi)) (by decide)
section
variable (C:Array Value) (T:List ByteArray)
theorem yly(e:C=(T.map Value.string).toArray)(h1:1<=T.length)(h16:T.length<=16)(hs:∀t∈T,t.size<=200){ks:List Ke}{now:Int}(hd:DbR w v ks)(hok:Fm ks=true)(hl:∀k∈ks,Hs now k=true)(hn:0<=now/\now<=1000000000)(hE:Rb.Px w ad)(hp:Lc ks now T=p)(W:World)(hW:Bl w W):
  ∃W',Hid (W.alloc (.cells C 9)=W')/\Hid (∀X,Bl W' X->Cp 14 #[v,.int .i64 now,.slice (some ⟨W.heap.size,0,none⟩) T.length T.length] X fun e w'=>∃v r,e=.returned (.tuple #[v,r])/\DbR w' v p.1/\RpR w' r p.2/\Bl w w'/\Bl W w'):=by
 obtain⟨W',_,Sz,b,r⟩:=boxed W C 9;refine⟨W',Sz,fun X hX=>?_⟩;have bX:Bl W X:=b.trans (hX.mono b.size);have bb:Bl w X:=hW.trans (bX.mono hW.size);have:=znu v ks now (some ⟨W.heap.size,0,none⟩) W.heap.size 0 T.length T.length T ad X (hd.bw bb) (yhr hok) (Hv (Fc.bw r hX r.lt) e hs) (by omega) (Qc _) (Ct hE bb);rw[zwp hok hl hn h1 h16 hs,hp]at this;refine this.mono ?_;rintro e w'⟨v,r,rfl,h1,h2,h3⟩;exact⟨v,r,rfl,h1,h2,bb.trans (h3.mono bb.size),bX.trans (h3.mono bX.size)⟩
theorem ylu(e:C=(T.map Value.string).toArray)(h1:1<=T.length)(h16:T.length<=16)(hs:∀t∈T,t.size<=200){ks:List Ke}{now:Int}(hd:DbR w v ks)(hok:Fm ks=true)(hl:∀k∈ks,Hs now k=true)(hn:0<=now/\now<=1000000000)(hE:Rb.Px w ad)(hp:Lc ks now T=p)(W:World)(hW:Bl w W):
  ∃W',Hid (W.alloc (.cells C 9)=W')/\Hid (Cp 14 #[v,.int .i64 now,.slice (some ⟨W.heap.size,0,none⟩) T.length T.length] W' fun e w'=>∃v r,e=.returned (.tuple #[v,r])/\DbR w' v p.1/\RpR w' r p.2/\Bl w w'/\Bl W w'):=by
 obtain⟨W',h1,h2⟩:=yly C T e h1 h16 hs hd hok hl hn hE hp W hW;exact⟨W',h1,h2.out _ (Qb _ _)⟩
end
theorem G9(a:Option Addr)(g c:Nat)(R:List Rp)(w:World)(h:T5 w a g R)(p:Option Addr)(m pc:Nat)(hk:R.length=1->w.cell? ⟨g,3,none⟩=some (.slice p m pc))(hk':R.length≠1->p=none/\m=0/\pc=0)(hn:R.length<=1048577):Calls prog 23 #[.slice a R.length c] w fun e w'=>e=.returned (.agg #[.int .i64 (Pw R).kind,.int .i64 (Pw R).n,.string (Pw R).s,.slice p m pc])/\Bl w w':=by
 obtain⟨W0,Vc,Vb,b0,r0⟩:=boxed w #[.int .i64 0,.int .i64 0,.string ⟨#[]⟩,.slice none 0 0] 40;have y0:=r0.cell 0;have y1:=r0.cell 1;have y2:=r0.cell 2;have y3:=r0.cell 3;have z0:=r0.frozen 0;have z1:=r0.frozen 1;have z2:=r0.frozen 2;have z3:=r0.frozen 3;simp only[Qm,Qk,Ql]at y0 y1 y2 y3;have Sz:=Qc w.heap.size;by_cases h1:R.length=1
 ·obtain⟨r,rfl⟩:=List.length_eq_one_iff.1 h1;obtain⟨j0,j1,j2,_⟩:=(h.bw b0).cell 0 (by simp);have j3:=hk rfl;obtain⟨rfl,hg⟩:=h.addr (by simp);have j3:=(b0.cell (p:=⟨g,3,none⟩) hg).trans j3;clear hk hk' hg;obtain⟨rk,rn,rs,rc⟩:=r;have k0:W0.cell? ⟨g,0,none⟩=some (.int .i64 rk):=j0;have k1:W0.cell? ⟨g,1,none⟩=some (.int .i64 rn):=j1;have k2:W0.cell? ⟨g,2,none⟩=some (.string rs):=j2;have k3:W0.cell? ⟨g,3,none⟩=some (.slice p m pc):=j3;have e:Pw [⟨rk,rn,rs,rc⟩]=⟨rk,rn,rs,rc⟩:=rfl;rw[e];clear j0 j1 j2 j3;have r1:Fc _ w.heap.size 40 #[.int .i64 rk,.int .i64 0,.string ⟨#[]⟩,.slice none 0 0]:=r0.set 0 (.int .i64 rk);have r2:Fc _ w.heap.size 40 #[.int .i64 rk,.int .i64 rn,.string ⟨#[]⟩,.slice none 0 0]:=r1.set 1 (.int .i64 rn);have r3:Fc _ w.heap.size 40 #[.int .i64 rk,.int .i64 rn,.string rs,.slice none 0 0]:=r2.set 2 (.string rs);have r4:Fc _ w.heap.size 40 #[.int .i64 rk,.int .i64 rn,.string rs,.slice p m pc]:=r3.set 3 (.slice p m pc);have b4:=(((b0.setCell (p:=⟨w.heap.size,0,none⟩) Sz (.int .i64 rk)).setCell (p:=⟨w.heap.size,1,none⟩) Sz (.int .i64 rn)).setCell (p:=⟨w.heap.size,2,none⟩) Sz (.string rs)).setCell (p:=⟨w.heap.size,3,none⟩) Sz (.slice p m pc);have HQ:Hid _:=And.intro r4 b4;clear h h1 hn e r0 r1 r2 r3 r4 b4 b0 Vc;show Calls prog 23 #[.slice (some ⟨g,0,none⟩) 1 c] w _;go_enter func23,ntmps23;go_upto_region 1 with fail;rw[Vb.out];clear Vb;go_wp2;obtain⟨rr,Va⟩:=HQ.out;have q0:=rr.cell 0;have q1:=rr.cell 1;have q2:=rr.cell 2;have q3:=rr.cell 3;simp only[Qm,Qk,Ql]at q0 q1 q2 q3;exact bodyPost_ret (v:=.agg #[.int .i64 rk,.int .i64 rn,.string rs,.slice p m pc]) (by simp[results,results23,go_sem,q0,q1,q2,q3]) rfl ⟨rfl,Va⟩
 ·obtain⟨rfl,rfl,rfl⟩:=hk' h1;clear hk hk';have e:Pw R=⟨0,0,⟨#[]⟩,[]⟩:=if_neg h1;rw[e];have r1:Fc _ w.heap.size 40 #[.int .i64 0,.int .i64 0,.string ⟨#[]⟩,.slice none 0 0]:=r0.set 0 (.int .i64 0);have r2:Fc _ w.heap.size 40 #[.int .i64 0,.int .i64 0,.string ⟨#[]⟩,.slice none 0 0]:=r1.set 1 (.int .i64 0);have r3:Fc _ w.heap.size 40 #[.int .i64 0,.int .i64 0,.string ⟨#[]⟩,.slice none 0 0]:=r2.set 2 (.string ⟨#[]⟩);have r4:Fc _ w.heap.size 40 #[.int .i64 0,.int .i64 0,.string ⟨#[]⟩,.slice none 0 0]:=r3.set 3 (.slice none 0 0);have b4:=(((b0.setCell (p:=⟨w.heap.size,0,none⟩) Sz (.int .i64 0)).setCell (p:=⟨w.heap.size,1,none⟩) Sz (.int .i64 0)).setCell (p:=⟨w.heap.size,2,none⟩) Sz (.string ⟨#[]⟩)).setCell (p:=⟨w.heap.size,3,none⟩) Sz (.slice none 0 0);have HQ:Hid _:=And.intro r4 b4;clear h e r0 r1 r2 r3 r4 b4 b0 Vc;generalize R.length=n at*;have Vd:¬((n:Int)=1):=by omega
  go_enter func23,ntmps23;go_upto_region 1 with fail;rw[Vb.out];clear Vb;go_wp2;obtain⟨rr,Va⟩:=HQ.out;have q0:=rr.cell 0;have q1:=rr.cell 1;have q2:=rr.cell 2;have q3:=rr.cell 3;simp only[Qm,Qk,Ql]at q0 q1 q2 q3;exact bodyPost_ret (v:=.agg #[.int .i64 0,.int .i64 0,.string ⟨#[]⟩,.slice none 0 0]) (by simp[results,results23,go_sem,q0,q1,q2,q3]) rfl ⟨rfl,Va⟩
theorem ylx(h:RpR w r R)(hn:R.length<=41):∃k,∀W,Bl w W->Calls prog 23 #[r] W fun e w'=>e=.returned (.agg #[.int .i64 (Pw R).kind,.int .i64 (Pw R).n,.string (Pw R).s,k])/\Bl W w':=by
 obtain⟨a,g,c,rfl,h⟩:=h;by_cases h1:R.length=1
 ·obtain⟨_,_,_,p,pg,pc,h3,_⟩:=h.cell 0 (by omega)
  exact⟨.slice p _ pc,fun W hW=>G9 a g c R W (h.bw hW) p _ pc (fun _=>by
   have:=(hW.cell (p:=⟨g,3,none⟩) (h.addr (by omega)).2).trans h3;exact this) (fun h=>absurd h1 h) (by omega)⟩
 ·exact⟨.slice none 0 0,fun W hW=>G9 a g c R W (h.bw hW) none 0 0 (fun h=>absurd h h1) (fun _=>⟨rfl,rfl,rfl⟩) (by omega)⟩
theorem Ob(s:ByteArray)(hs:s.size<=1048576)(W:World):Calls prog 22 #[.string s] W fun e w'=>e=.returned (.tuple #[.int .i64 (Fg s).1,.bool (Fg s).2])/\w'=W:=by
 have HI:Hid (Cp 65 #[.string s] W fun e w'=>e=.returned (.tuple #[.int .i64 (Fg s).1,.bool (Fg s).2])/\w'=W):=Wy s hs W;generalize Fg s=z at*;go_enter func22,ntmps22;go_wp2_with fail;refine HI.out.mono ?_;rintro e w1⟨rfl,rfl⟩;go_wp2;go_ret2;exact⟨rfl,rfl⟩
theorem yld{x:Rp}(h:RpR w r R)(hR:R=[x]):∃k,∀W,Bl w W->Calls prog 23 #[r] W fun e w'=>e=.returned (.agg #[.int .i64 x.kind,.int .i64 x.n,.string x.s,k])/\Bl W w':=by
 subst hR;exact ylx h (by simp)
section
variable (a b c d:Value) (W:World)
theorem ylp:(Instr.field 40 (.agg #[a,b,c,d]) 0).run prog W=.ok a W:=by
 simp[go_sem,Instr.field,asAgg]
theorem yls:(Instr.field 40 (.agg #[a,b,c,d]) 1).run prog W=.ok b W:=by
 simp[go_sem,Instr.field,asAgg]
theorem ylr:(Instr.field 40 (.agg #[a,b,c,d]) 2).run prog W=.ok c W:=by
 simp[go_sem,Instr.field,asAgg]
end
theorem Hw{ks:List Ke}{now:Int}{x1 x2:ByteArray}(h:Fm ks=true)(he:Pl (Lc ks now [Cm.text 19,x1,x2]).2=false)(h1:(Pw (Lc ks now [Cm.text 19,x1,x2]).2).n=1):
  ∃k∈ks,k.name=x1/\(Fg x2).1<=1000000000-now/\(((Fg x2).1<=0/\Lc ks now [Cm.text 19,x1,x2]=(G5 ks x1,Fe 1))\/(1<=(Fg x2).1/\Lc ks now [Cm.text 19,x1,x2]=(G0 ks (k.withDue (now+(Fg x2).1)),Fe 1))):=by
 have hd:Lc ks now [Cm.text 19,x1,x2]=Np 19 ks now [x1,x2]:=(Hq 19 ks now [x1,x2]).trans rfl;rcases L7 ks x1 with⟨_,hn⟩|⟨k,_,hk,rfl⟩
 ·have e:Lc ks now [Cm.text 19,x1,x2]=if(Fg x2).2=true then(if 1000000000-now<(Fg x2).1 then(ks,Fl M9) else(ks,Fe 0)) else(ks,Fl F3):=hd.trans ((yle hn now [x2]).trans rfl);rw[e]at he h1;split at he
  ·rename_i g;rw[if_pos g]at h1;split at he
   ·cases he
   ·rename_i g;rw[if_neg g]at h1;exact absurd (show(0:Int)=1 from h1) (by decide)
  ·cases he
 ·have e:Lc ks now [Cm.text 19,k.name,x2]=if(Fg x2).2=true then(if 1000000000-now<(Fg x2).1 then(ks,Fl M9) else(if(Fg x2).1<=0 then(G5 ks k.name,Fe 1) else(G0 ks (k.withDue (now+(Fg x2).1)),Fe 1))) else(ks,Fl F3):=hd.trans ((Lt h hk now [x2] (.inl rfl)).trans rfl);rw[e]at he ⊢;split at he
  ·rename_i g;rw[if_pos g];split at he
   ·cases he
   ·rename_i g;rw[if_neg g];refine⟨k,hk,rfl,by omega,?_⟩;by_cases g2:(Fg x2).1<=0
    ·rw[if_pos g2];exact .inl ⟨g2,rfl⟩
    ·rw[if_neg g2];exact .inr ⟨by omega,rfl⟩
  ·cases he
theorem ylw{ks:List Ke}(h:Fm ks=true)(hk:k∈ks)(now:Int)(hd:k.due≠0):Lc ks now [Cm.text 8,k.name]=(ks,Fe (k.due-now)):=(C6 8 h hk now [] rfl rfl (.inl rfl)).trans (congrArg (fun z=>(ks,Fe z)) (if_neg hd))
theorem ylv{ks:List Ke}(h:∀k∈ks,k.name≠nm)(now:Int):Lc ks now [Cm.text 8,nm]=(ks,Fe (-2)):=(ylm 8 h now [] rfl rfl).trans rfl
theorem Of{ks:List Ke}(h:Fm ks=true)(hk:k∈ks)(now:Int)(hd:k.due≠0):Lc ks now [Cm.text 9,k.name]=(G0 ks (k.withDue 0),Fe 1):=(C6 9 h hk now [] rfl rfl (.inl rfl)).trans (if_neg hd)
def yl0 (w:World) (b:Bool) (e:Ending) (w':World):Prop:=
 ∃v0 v1 v2 a1 n1 c1 a2 n2 c2 a3 n3 c3 v6,e= .returned (.tuple #[.agg #[.string v0,.int .i64 v1,.string v2,.slice a1 n1 c1,.slice a2 n2 c2,.slice a3 n3 c3,.int .i64 v6],.bool b])/\Bl w w'
theorem F7(v:Value)(ks:List Ke)(now:Int)(nm:ByteArray)(w:World)(h:DbR w v ks)(hok:Fm ks=true)(hR:Ready w)(hs:nm.size<=1048576){b:Bool}(hb:(Fw (Hb ks now) nm).isSome=b):Calls prog 24 #[v,.int .i64 now,.string nm] w (yl0 w b):=by
 refine(ylt v ks now nm w h hok hR hs).mono ?_;rintro e w'⟨k,a1,c1,a2,c2,a3,c3,rfl,_,_,hB⟩;rw[hb];exact⟨_,_,_,_,_,_,_,_,_,_,_,_,_,rfl,hB⟩
theorem yl2(a:Option Addr)(n c:Nat)(w:World)(hn:n<=9223372036854775807)(hb:BytesIn w a n w.heap.size)(ad:Nat->Addr)(hE:Rb.Px w ad):
  Calls prog 10 #[.slice a n c] w fun e w'=>e=.returned (.bool true)/\Bl w w':=by
 have Jc:Hid (Cp 12 #[.slice a n c] w fun e w'=>e=.returned (.bool (decide (1048576<n)))/\w'=w):=ygb a n c w hn;have Zm:Hid (Cp 13 #[.slice a n c] w fun e w1=>∃v ks Sz aa ab ao m ac T,e=.returned (.tuple #[v,.int .i64 Sz,.slice aa m ac])/\Pq w1 v ks Sz aa ab ao m ac T ad/\Bl w w1):=zz0 a n c w hn hb ad hE;clear hb hE;go_enter func10,ntmps10;go_wp2_with fail;refine Jc.out.mono ?_;rintro e w0⟨rfl,Jp⟩;subst Jp;clear Jc;by_cases hbig:1048576<n
 ·rw[Qe hbig];clear Zm;go_wp2;go_ret;exact⟨rfl,Qb _ _⟩
 rw[Qf hbig];go_wp2_with fail;refine Zm.out.mono ?_;rintro e w1⟨v,ks,Sz,aa,ab,ao,m,ac,T,rfl,hD,b1⟩;clear Zm hn hbig;have HD:Hid (Pq w1 v ks Sz aa ab ao m ac T ad):=hD;have HI:Hid (Cp 14 #[v,.int .i64 Sz,.slice aa m ac] w1 (Ug w1 (Nj ks Sz T))):=hD.impl;have HC:Hid _:=zmx ks Sz T;clear hD;generalize hp:Nj ks Sz T=p at*;have HP:Hid (Nj ks Sz T=p):=hp;clear hp;go_wp2_with fail;refine HI.out.mono ?_;rintro e w2⟨v2,r2,rfl,Xt,Xn,b2⟩;have HS:Hid (Cp 15 #[v,.int .i64 Sz,.slice aa m ac] w2 (Ug w2 p)):=by
  have:=(HD.out.bw b2).spec;rw[HP.out]at this;exact this
 have Ja:Hid (DbR w2 v2 p.1):=Xt;have Jg:Hid (RpR w2 r2 p.2):=Xn;clear Xt Xn HI;go_wp2_with fail;refine HS.out.mono ?_;rintro e w3⟨v3,r3,rfl,Jo,Ji,b3⟩;have Zu:Bl w1 w3:=b2.trans (b3.mono b2.size);have Zt:Bl w0 w3:=b1.trans (Zu.mono b1.size);have Vm:Hid (Pq w3 v ks Sz aa ab ao m ac T ad):=HD.out.bw Zu;have Vc:Hid (DbR w3 v2 p.1):=Ja.out.bw b3;have Vd:Hid (RpR w3 r2 p.2):=Jg.out.bw b3;have Va:Hid (∀W,Bl w3 W->Bl w0 W):=fun W hW=>Zt.trans (hW.mono Zt.size);have Zy:p.2=[]\/RpS p.2:=by
  rcases HC.out with⟨_,e0⟩|⟨_,_,_,_,_,_,e0,_,hS⟩
  ·exact .inl (by rw[e0])
  ·exact .inr (by rw[e0];exact hS)
 have Xb:p.2.length<=41:=by
  rcases Zy with e|h
  ·rw[e];simp
  ·exact h.2.1
 have Vn:Hid (∀W,Bl w3 W->Cp 17 #[r2,r3] W fun e w'=>e=.returned (.bool true)/\Bl W w'):=fun W hW=>zjk r2 r3 p.2 W (Vd.out.bw hW) (RpR.bw Ji hW) Zy;have Zc:Hid (∀W,Bl w3 W->Cp 18 #[r2] W fun e w'=>e=.returned (.bool (Pl p.2))/\w'=W):=fun W hW=>yli r2 p.2 W (Vd.out.bw hW) Xb;have Xs:Hid (∃k,∀W,Bl w3 W->Cp 23 #[r2] W fun e w'=>e=.returned (.agg #[.int .i64 (Pw p.2).kind,.int .i64 (Pw p.2).n,.string (Pw p.2).s,k])/\Bl W w'):=ylx Vd.out Xb;have Vr:Hid (∀W,Bl w3 W->∀i,i<m->W.cell? ⟨ab,ao+i,none⟩=some (.string (Fa T i))):=fun W hW i hi=>(Vm.out.bw hW).args.cell i hi;have Zo:Hid (0<m->aa=some ⟨ab,ao,none⟩):=Vm.out.args.addr;have Vh:T.length=m:=Vm.out.len;obtain⟨ar,gr,cr,er,_⟩:=Vd.out;clear Jo Ji HS HD Ja Jg b1 b2 b3 Zu Zt HP Zy Xb;obtain⟨lr,Zp⟩:∃lr,lr=p.2.length:=⟨_,rfl⟩;have Ze:Hid (lr=p.2.length):=Zp;rw[<-Zp]at er;clear Zp;subst er;go_wp2_with fail;refine(Vn.out _ (Qb _ _)).mono ?_;rintro e w4⟨rfl,b4⟩;by_cases hm:¬m=3
 ·clear HC Vm Vc Vd Zc Xs Vr Zo Ze Vh;have Yh:((m:Int)==3)=false:=by simp;omega
  have Ju:¬(m:Int)=3:=by omega
  go_wp2_with fail;refine(Vn.out _ b4).mono ?_;rintro e w5⟨rfl,b5⟩;have HF:Hid (Bl w0 w5):=Va.out _ (b4.trans (b5.mono b4.size));clear b4 b5 Va Vn;go_wp2;go_ret;exact⟨rfl,HF.out⟩
 have Jr:(0:Int)<(m:Int):=by omega
 obtain rfl:m=3:=by omega
 obtain rfl:=Zo.out (by omega);have c0:=Vr.out w4 b4 0 (by omega);rw[Qy]at c0;obtain⟨t0,Zh⟩:∃t,t=Fa T 0:=⟨_,rfl⟩;have Xl:Hid (t0=Fa T 0):=Zh;rw[<-Zh]at c0;clear Zh Zo;by_cases hq0:t0=⟨#[69,88,80,73,82,69]⟩;rotate_left
 ·have hq:(t0.toList==[69,88,80,73,82,69])=false:=by
   have:=Kk.Le hq0;rw[ByteArray.toList_eq ⟨#[69,88,80,73,82,69]⟩]at this;exact this
  clear HC Vm Vc Vd Zc Xs Vr Ze Vh Xl hm hq0;go_wp2_with fail;refine(Vn.out _ b4).mono ?_;rintro e w5⟨rfl,b5⟩;have HF:Hid (Bl w0 w5):=Va.out _ (b4.trans (b5.mono b4.size));clear b4 b5 Va Vn;go_wp2;go_ret;exact⟨rfl,HF.out⟩
 subst hq0;go_wp2_with fail;refine(Zc.out _ b4).mono ?_;rintro e w5⟨rfl,Jx⟩;subst Jx;clear Zc;obtain⟨ie,Zz⟩:∃b,b=Pl p.2:=⟨_,rfl⟩;have Xz:Hid (ie=Pl p.2):=Zz;rw[<-Zz];clear Zz;rcases ie with _|_;rotate_left
 ·clear HC Vm Vc Vd Xs Vr Ze Vh Xl hm c0 Xz;go_wp2_with fail;refine(Vn.out _ b4).mono ?_;rintro e w5⟨rfl,b5⟩;have HF:Hid (Bl w0 w5):=Va.out _ (b4.trans (b5.mono b4.size));clear b4 b5 Va Vn;go_wp2;go_ret;exact⟨rfl,HF.out⟩
 have Yf:=ylp;have Yi:=yls;have Yd:=ylr;go_wp2_with fail;obtain⟨kr,Zx⟩:=Xs.out;refine(Zx _ b4).mono ?_;rintro e w6⟨rfl,b6⟩;have Jf:Hid (∀W,Bl w3 W->_):=Zx;have b6:=b4.trans (b6.mono b4.size);clear Zx Xs b4;obtain⟨N,hN⟩:∃N,N=(Pw p.2).n:=⟨_,rfl⟩;have HN:Hid (N=(Pw p.2).n):=hN;rw[<-hN];clear hN;by_cases hN1:N=1;rotate_left
 ·have Yb:(N==1)=false:=by simp;exact hN1
  clear HC Vm Vc Vd Jf Vr Ze Vh Xl c0 Xz HN;go_wp2_with fail;refine(Vn.out _ b6).mono ?_;rintro e w7⟨rfl,b7⟩;have HF:Hid (Bl w0 w7):=Va.out _ (b6.trans (b7.mono b6.size));clear b6 b7 Va Vn;go_wp2;go_ret;exact⟨rfl,HF.out⟩
 subst hN1;clear Vn Jf;have Zk:=three Vh;generalize ht1:Fa T 1=t1 at*;generalize ht2:Fa T 2=t2 at*;rw[<-Xl.out]at Zk;have Zf:∃k∈Hb ks Sz,k.name=t1/\(Fg t2).1<=1000000000-Sz/\(((Fg t2).1<=0/\p=(G5 (Hb ks Sz) t1,Fe 1))\/(1<=(Fg t2).1/\p=(G0 (Hb ks Sz) (k.withDue (Sz+(Fg t2).1)),Fe 1)))/\Fm p.1=true/\(∀k∈p.1,Hs Sz k=true)/\(0<=Sz/\Sz<=1000000000)/\t1.size<=200/\t2.size<=200/\Fm (Hb ks Sz)=true:=by
  rcases HC.out with⟨_,e0⟩|⟨_,Vi,Vf,h16,h1,hs,e0,hL,hS⟩
  ·exact absurd HN.out (by rw[e0];decide)
  ·have Vg:=Rb.E7 Vi Sz;have he:=Xz.out.symm;have hn:=HN.out.symm;have s1:=hs 1 (by omega);have s2:=hs 2 (by omega);rw[ht1]at s1;rw[ht2]at s2;rw[e0]at he hn;rw[<-e0]at hL;rw[Zk]at he hn e0;obtain⟨k,q1,q2,q3,q4⟩:=Hw Vg he hn;refine⟨k,q1,q2,q3,?_,hL.ok,hL.live,Vf,s1,s2,Vg⟩;have e0:p=Lc (Hb ks Sz) Sz [Cm.text 19,t1,t2]:=e0;rw[e0];exact q4
 obtain⟨k,Jj,Zq,hz,hp,Vi,Ve,Vf,s1,s2,Vg⟩:=Zf;have Xq:=Vm.out.env;have Zg:=fun W hW=>Vr.out W hW 1 (by omega);have Zw:=fun W hW=>Vr.out W hW 2 (by omega);rw[ht1]at Zg;rw[ht2]at Zw;have Xa:Hid (∀W,Bl w3 W->W.cell? ⟨ab,ao+1,none⟩=some (.string t1)):=Zg;have Jm:Hid (∀W,Bl w3 W->W.cell? ⟨ab,ao+2,none⟩=some (.string t2)):=Zw;obtain⟨z,Zr⟩:∃z,z=(Fg t2).1:=⟨_,rfl⟩;have Vt:Hid (∃o,∀W,Cp 22 #[.string t2] W fun e w'=>e=.returned (.tuple #[.int .i64 z,.bool o])/\w'=W):=⟨_,fun W=>by rw[Zr];exact Ob _ (Qj s2 (by decide)) W⟩;rw[<-Zr]at hp hz
 have HG:∀(x:ByteArray) (C:Array Value) (q:List Ke×List Rp),C= #[.string x,.string t1]->x.size<=200->Lc p.1 Sz [x,t1]=q->Hid (∀W,Bl w3 W->∃W',Hid (W.alloc (.cells C 9)=W')/\Hid (Cp 14 #[v2,.int .i64 Sz,.slice (some ⟨W.heap.size,0,none⟩) 2 2] W' fun e w'=>∃v r,e=.returned (.tuple #[v,r])/\DbR w' v q.1/\RpR w' r q.2/\Bl w3 w'/\Bl W w')):=fun x C q hC hx hq W hW=>ylu C [x,t1] hC (by simp) (by simp) (fun t ht=>by
  simp only[List.mem_cons,List.not_mem_nil,or_false]at ht;rcases ht with rfl|rfl
  ·exact hx
  ·exact s1) Vc.out Vi Ve Vf Xq hq W hW
 have Xm:∀(u:Int) (b:Bool),(Fw (Hb p.1 u) t1).isSome=b->Hid (∀W,Bl w3 W->Cp 24 #[v2,.int .i64 u,.string t1] W (yl0 W b)):=fun u b hb W hW=>F7 v2 p.1 u t1 W (Vc.out.bw hW) Vi (Ct Xq hW).es.er.rd (Qj s1 (by decide)) hb;have Ya:(1:Int)<3:=by decide
 clear HC Vr Vh Xl Xz HN Zg Zw ht1 ht2 Zk Zr hm Jr;rcases hp with⟨Jt,hp⟩|⟨hz1,hp⟩
 ·have Vk:∀k∈p.1,k.name≠t1:=by rw[hp];exact ylo
  have Xo:=HG (Cm.text 8) #[.string ⟨#[84,84,76]⟩,.string t1] _ rfl (by decide) (ylv Vk Sz);have Xu:=Xm Sz false (by rw[ylc Vk];rfl);have Jq:max 0 z=0:=by omega
  have Jv:IntKind.i64.wrap Sz=Sz:=Kk.wrap_small (by omega) (by omega);clear HG Xm hp Vi Ve Vf Jj Zq hz s1 s2 Vg Xq Vm Vc Vk;have c2:=Jm.out w6 b6;obtain⟨o2,Xr⟩:=Vt.out;have Vt:Hid (∀W,_):=Xr;clear Xr;go_wp2_with fail;refine(Vt.out _).mono ?_;rintro e wx⟨rfl,Xf⟩;have Xf:=Xf.symm;subst Xf;clear Vt c2;have c1:=Xa.out w6 b6;obtain⟨W1,E1,H1⟩:=Xo.out w6 b6;clear Xo;go_wp2_with fail;rw[E1.out];refine H1.out.mono ?_;rintro e Xw⟨v1,r1,rfl,-,Xv,Vp,n1⟩;obtain⟨k1,Vb⟩:=yld (x:=⟨3,-2,⟨#[]⟩,[]⟩) Xv rfl;have Vb:Hid (∀W,Bl Xw W->_):=Vb;clear E1 H1 Xv n1 c1;have c1:=Xa.out Xw Vp;go_wp2_with fail;refine(Xu.out _ Vp).mono ?_;rintro e Zn⟨g0,g1,g2,Xd,Vv,Vx,Xg,Vz,Xc,Vy,Vw,Xe,g6,rfl,Vu⟩;obtain⟨Xy,Jw,-,Xp,-⟩:=boxed Zn #[.string g0,.int .i64 g1,.string g2,.slice Xd Vv Vx,.slice Xg Vz Xc,.slice Vy Vw Xe,.int .i64 g6] 47;have Vo:=Vu.trans (Xp.mono Vu.size);have Vs:=Vp.trans (Vo.mono Vp.size);have Vb:Hid (∀W,Bl Xy W->_):=fun W hW=>Vb.out W (Vo.trans (hW.mono Vo.size));clear Xu Vu Xp Vo c1;go_wp2_with fail;refine(Vb.out _ (Qb _ _)).mono ?_;rintro e w9⟨rfl,b9⟩;have HF:Hid (Bl w0 w9):=Va.out _ (Vs.trans (b9.mono Vs.size));clear Vb Va b9 Vs;go_wp2;go_ret;exact⟨rfl,HF.out⟩
 ·have Vj:k.withDue (Sz+z)∈p.1:=by rw[hp];exact G4 Vg _
  have Zv:(k.withDue (Sz+z)).due≠0:=by show Sz+z≠0;omega
  have Xh:(k.withDue (Sz+z)).name=t1:=Zq;have q1:=ylw Vi Vj Sz Zv;rw[Xh,show(k.withDue (Sz+z)).due-Sz=z by show Sz+z-Sz=z;omega]at q1;have q2:=Of Vi Vj Sz Zv;rw[Xh]at q2;have Zb:=left_done Vi Ve (T:=[Cm.text 9,t1]) Vf;rw[q2]at Zb;have Vq:(k.withDue (Sz+z)).withDue 0∈G0 p.1 ((k.withDue (Sz+z)).withDue 0):=G4 Vi _;have g1:(Fw (Hb p.1 (Sz+z)) t1).isSome=false:=by
   rw[<-Xh,Mg Vi Vj];show(decide (Sz+z=0)||decide (Sz+z<Sz+z))=false;rw[Qf (by omega),Qf (by omega)];rfl
  have g2:(Fw (Hb p.1 (Sz+z-1)) t1).isSome=true:=by
   rw[<-Xh,Mg Vi Vj];show(decide (Sz+z=0)||decide (Sz+z-1<Sz+z))=true;rw[Qe (by omega:Sz+z-1<Sz+z),Bool.or_true]
  have g3:(Fw (Hb (G0 p.1 ((k.withDue (Sz+z)).withDue 0)) (Sz+z)) t1).isSome=true:=by
   have:=Mg Zb.ok Vq (Sz+z);have e:((k.withDue (Sz+z)).withDue 0).name=t1:=Xh;rw[e]at this;rw[this];rfl
  have Xo:=HG (Cm.text 8) #[.string ⟨#[84,84,76]⟩,.string t1] _ rfl (by decide) q1;have Jd:=HG (Cm.text 9) #[.string ⟨#[80,69,82,83,73,83,84]⟩,.string t1] _ rfl (by decide) q2;have Xu:=Xm (Sz+z) false g1;have Jh:=Xm (Sz+z-1) true g2;have Zd:Hid (∀W,Bl w3 W->∀u,DbR W u (G0 p.1 ((k.withDue (Sz+z)).withDue 0))->Cp 24 #[u,.int .i64 (Sz+z),.string t1] W (yl0 W true)):=fun W hW u hu=>F7 u _ (Sz+z) t1 W hu Zb.ok (Ct Xq hW).es.er.rd (Qj s1 (by decide)) g3;generalize G0 p.1 ((k.withDue (Sz+z)).withDue 0)=ks2 at*;have Jq:max 0 z=z:=by omega
  have Jv:IntKind.i64.wrap (Sz+z)=Sz+z:=Kk.wrap_small (by omega) (by omega);have Yc:IntKind.i64.wrap (Sz+z-1)=Sz+z-1:=Kk.wrap_small (by omega) (by omega);have Jt:¬z<=0:=by omega
  clear HG Xm hp Vi Ve Vf Jj Zq hz s1 s2 Vg Xq Vm Vc Vj Zv Xh q1 q2 Zb Vq g1 g2 g3 hz1;have c2:=Jm.out w6 b6;obtain⟨o2,Xr⟩:=Vt.out;have Vt:Hid (∀W,_):=Xr;clear Xr;go_wp2_with fail;refine(Vt.out _).mono ?_;rintro e wx⟨rfl,Xf⟩;have Xf:=Xf.symm;subst Xf;clear Vt c2;have c1:=Xa.out w6 b6;obtain⟨W1,E1,H1⟩:=Xo.out w6 b6;clear Xo;go_wp2_with fail;rw[E1.out];refine H1.out.mono ?_;rintro e Xw⟨v1,r1,rfl,-,Xv,Vp,n1⟩;obtain⟨k1,Vb⟩:=yld (x:=⟨3,z,⟨#[]⟩,[]⟩) Xv rfl;have Vb:Hid (∀W,Bl Xw W->_):=Vb;clear E1 H1 Xv n1 c1;have c1:=Xa.out Xw Vp;go_wp2_with fail;refine(Xu.out _ Vp).mono ?_;rintro e Zn⟨g0,g1,g2,Xd,Vv,Vx,Xg,Vz,Xc,Vy,Vw,Xe,g6,rfl,Vu⟩;obtain⟨Xy,Jw,-,Xp,-⟩:=boxed Zn #[.string g0,.int .i64 g1,.string g2,.slice Xd Vv Vx,.slice Xg Vz Xc,.slice Vy Vw Xe,.int .i64 g6] 47;have Vo:=Vu.trans (Xp.mono Vu.size);have Vs:=Vp.trans (Vo.mono Vp.size);have Vb:Hid (∀W,Bl Xy W->_):=fun W hW=>Vb.out W (Vo.trans (hW.mono Vo.size));clear Xu Vu Xp Vo c1;have c1:=Xa.out Xy Vs;go_wp2_with fail;refine(Jh.out _ Vs).mono ?_;rintro e Jz⟨g0,g1,g2,Xd,Vv,Vx,Xg,Vz,Xc,Vy,Vw,Xe,g6,rfl,Zi⟩;obtain⟨Zj,Ye,-,Jn,-⟩:=boxed Jz #[.string g0,.int .i64 g1,.string g2,.slice Xd Vv Vx,.slice Xg Vz Xc,.slice Vy Vw Xe,.int .i64 g6] 47;have Za:=Zi.trans (Jn.mono Zi.size);have Jk:=Vs.trans (Za.mono Vs.size);have Vb:Hid (∀W,Bl Zj W->_):=fun W hW=>Vb.out W (Za.trans (hW.mono Za.size));clear Jh Zi Jn Za c1;have c1:=Xa.out Zj Jk;obtain⟨W2,E2,H2⟩:=Jd.out Zj Jk;clear Jd;go_wp2_with fail;rw[E2.out];refine H2.out.mono ?_;rintro e Xj⟨v2,r2,rfl,Xt,Xn,Xx,n2⟩;have Vb:Hid (∀W,Bl Xj W->_):=fun W hW=>Vb.out W (n2.trans (hW.mono n2.size));obtain⟨k2,Xi⟩:=yld (x:=⟨3,1,⟨#[]⟩,[]⟩) Xn rfl;have Xi:Hid (∀W,Bl Xj W->_):=Xi;clear E2 H2 Xn n2 c1;have c1:=Xa.out Xj Xx;have Zd:Hid (Cp 24 #[v2,.int .i64 (Sz+z),.string t1] Xj (yl0 Xj true)):=Zd.out Xj Xx v2 Xt;clear Xt;go_wp2_with fail;refine Zd.out.mono ?_;rintro e Js⟨g0,g1,g2,Xd,Vv,Vx,Xg,Vz,Xc,Vy,Vw,Xe,g6,rfl,Zl⟩;obtain⟨Je,Yg,-,Jl,-⟩:=boxed Js #[.string g0,.int .i64 g1,.string g2,.slice Xd Vv Vx,.slice Xg Vz Xc,.slice Vy Vw Xe,.int .i64 g6] 47;have Xk:=Zl.trans (Jl.mono Zl.size);have Zs:=Xx.trans (Xk.mono Xx.size);have Vb:Hid (∀W,Bl Je W->_):=fun W hW=>Vb.out W (Xk.trans (hW.mono Xk.size));have Xi:Hid (∀W,Bl Je W->_):=fun W hW=>Xi.out W (Xk.trans (hW.mono Xk.size));clear Zd Zl Jl Xk c1;go_wp2_with fail;refine(Vb.out _ (Qb _ _)).mono ?_;rintro e w9⟨rfl,b9⟩;go_wp2_with fail;refine(Xi.out _ b9).mono ?_;rintro e Jy⟨rfl,Jb⟩;have HF:Hid (Bl w0 Jy):=Va.out _ (Zs.trans ((b9.trans (Jb.mono b9.size)).mono Zs.size));clear Vb Xi Va b9 Jb Zs;go_wp2;go_ret;exact⟨rfl,HF.out⟩
end Go.Proofs.YtokafonppgppdaaGreatDoor.Er

