import Derived.Test.YtokafonppgppdaaGreatDoorDe
import Derived.Test.YtokafonppgppdaaGreatDoorR56
set_option maxHeartbeats 8000000
set_option maxRecDepth 100000
namespace Go.Proofs.YtokafonppgppdaaGreatDoor.Er
open Tryz
open Go.RowKit Go.Sort
variable {w w' w1 W:World} {p:List Ke×List Rp} {g B ab ao m ac i:Nat} {a nm b:ByteArray} {R:List Rp} {v r:Value} {k:Ke} {c:Cm} {th:Bool} {T:List ByteArray} {L:List KV} {e:Ending} {ad:Nat->Addr} {aa:Option Addr}
theorem ygb(a:Option Addr)(n c:Nat)(w:World)(hn:n<=9223372036854775807):Calls prog 12 #[.slice a n c] w fun e w'=>e=.returned (.bool (decide (1048576<n)))/\w'=w:=by
 go_enter func12,ntmps12;go_wp2;go_ret;exact⟨congrArg (fun b=>Ending.returned (Value.bool b)) (decide_eq_decide.2 (by omega)),rfl⟩
structure Ty (w:World) (p:Option Addr) (g:Nat) (ks:List Nat):Prop where
 addr:0<ks.length->p=some ⟨g,0,none⟩/\g<w.heap.size
 cell:∀i (hi:i<ks.length),w.cell? ⟨g,i,none⟩=some (.int .i64 ((ks[i]:Nat):Int))
theorem Ty.bw{p:Option Addr}{ks:List Nat}(h:Ty w p g ks)(hb:Bl w w'):Ty w' p g ks:=
 ⟨fun h0=>⟨(h.addr h0).1,Qr (h.addr h0).2 hb.size⟩,fun i hi=>(hb.cell (p:=⟨g,i,none⟩) (h.addr (by omega)).2).trans (h.cell i hi)⟩
structure Ac (w:World) (g i:Nat) (r:Rp):Prop where
 k:w.cell? ⟨g,i*4,none⟩=some (.int .i64 r.kind)
 n:w.cell? ⟨g,i*4+1,none⟩=some (.int .i64 r.n)
 s:w.cell? ⟨g,i*4+2,none⟩=some (.string r.s)
 c:∃p pg pc,w.cell? ⟨g,i*4+3,none⟩=some (.slice p r.kids.length pc)/\Ty w p pg r.kids
structure T5 (w:World) (a:Option Addr) (g:Nat) (R:List Rp):Prop where
 addr:0<R.length->a=some ⟨g,0,none⟩/\g<w.heap.size
 cell:∀i (hi:i<R.length),Ac w g i R[i]
theorem T5.bw{a:Option Addr}(h:T5 w a g R)(hb:Bl w w'):T5 w' a g R:=
 ⟨fun h0=>⟨(h.addr h0).1,Qr (h.addr h0).2 hb.size⟩,fun i hi=>by
  have hg:=(h.addr (by omega)).2;obtain⟨k,n,s,p,pg,pc,c,hk⟩:=h.cell i hi;exact⟨(hb.cell (p:=⟨g,i*4,none⟩) hg).trans k,(hb.cell (p:=⟨g,i*4+1,none⟩) hg).trans n,(hb.cell (p:=⟨g,i*4+2,none⟩) hg).trans s,p,pg,pc,(hb.cell (p:=⟨g,i*4+3,none⟩) hg).trans c,hk.bw hb⟩⟩
theorem yfp(h:Fr w B v R):∃a g c,v=.slice a R.length c/\T5 w a g R:=by
 obtain⟨M,rfl,o,hk⟩:=h;have hl:(M.map RV.r).length=M.length:=Qp _;by_cases h0:M.length=0
 ·obtain⟨a,c,e⟩:=Fx o;exact⟨a,0,c,by rw[hl];exact e,fun h=>by omega,fun i hi=>by omega⟩
 ·obtain⟨g,c,e,h1,h2,_⟩:=zur o 0 (by omega);refine⟨_,g,c,by rw[hl];exact e,fun _=>⟨rfl,h2⟩,fun i hi=>?_⟩;obtain⟨g',c',e',_,_,q0,q1,q2,q3⟩:=zur o i (by omega);rw[e]at e';injection e' with e1;injection e1 with e2;injection e2 with e3;subst e3;obtain⟨p,pg,pc,ek,ha,Sz⟩:=zz3 (hk M[i] (Qv _));rw[ek]at q3;rw[List.getElem_map];exact⟨q0,q1,q2,p,pg,pc,q3,fun h=>⟨(ha h).1,(ha h).2.2⟩,Sz⟩
theorem zp7(a a':Option Addr)(b b' c c':Nat)(ks:List Nat)(w:World)(h:Ty w a b ks)(h':Ty w a' b' ks)(hn:ks.length<=1048577):
  Calls prog 57 #[.slice a ks.length c,.slice a' ks.length c'] w fun e w'=>e=.returned (.bool true)/\∃q,w'=w.drewN q:=by
 have HK:Hid (∀i (hi:i<ks.length),w.cell? ⟨b,i,none⟩=some (.int .i64 ((ks[i]:Nat):Int))/\w.cell? ⟨b',i,none⟩=some (.int .i64 ((ks[i]:Nat):Int))):=fun i hi=>⟨h.cell i hi,h'.cell i hi⟩;have HA:Hid (0<ks.length->a=some ⟨b,0,none⟩/\a'=some ⟨b',0,none⟩):=fun h0=>⟨(h.addr h0).1,(h'.addr h0).1⟩;have HG:Hid (∀i (hi:i<ks.length),∃z:Int,z=((ks[i]:Nat):Int)):=fun i hi=>⟨_,rfl⟩;clear h h';obtain⟨n,Sz⟩:∃n,ks.length=n:=⟨_,rfl⟩;have HC:Hid (∀i,i<n->∃z:Int,w.cell? ⟨b,i,none⟩=some (.int .i64 z)/\w.cell? ⟨b',i,none⟩=some (.int .i64 z)):=fun i hi=>⟨_,HK.out i (by omega)⟩;rw[Sz]at HA hn ⊢;clear HK HG Sz;go_enter func57,ntmps57;go_wp2;go_loopw [5] (fun i wr=>∃(k q:Nat),k<=n/\i=.int .i64 k/\wr=w.drewN q) (fun i _=>n-(intOf i).toNat)
 case atStart=>exact⟨0,0,by omega,rfl,rfl⟩
 case round=>
  obtain⟨k,q,hk,rfl,rfl⟩:=hrel;by_cases hlt:k<n
  ·obtain⟨rfl,rfl⟩:=HA.out (by omega);obtain⟨z,hc,Va⟩:=HC.out k hlt;go_wp2;go_quiet ((fail));go_wp2;go_roundw
   case rel=>exact⟨k+1,_,by omega,by go_num,rfl⟩
   case measure=>simp[intOf];omega
  ·go_wp2;go_ret;exact⟨rfl,q,rfl⟩
theorem Ty.drew{p:Option Addr}{ks:List Nat}(h:Ty w p g ks)(q:Nat):Ty (w.drewN q) p g ks:=h.bw (Hp.below_drewN w q)
theorem yc4(w:World)(a b:Nat):(w.drewN a).drewN b=w.drewN (a+b):=by
 simp[World.drewN,Nat.add_assoc]
theorem zqk(a a':Option Addr)(b b' c c':Nat)(R:List Rp)(w:World)(h:T5 w a b R)(h':T5 w a' b' R)(hn:R.length<=1048577)(hk:∀r∈R,r.kids.length<=1048577):
  Calls prog 17 #[.slice a R.length c,.slice a' R.length c'] w fun e w'=>e=.returned (.bool true)/\∃q,w'=w.drewN q:=by
 have HA:Hid (0<R.length->a=some ⟨b,0,none⟩/\a'=some ⟨b',0,none⟩):=fun h0=>⟨(h.addr h0).1,(h'.addr h0).1⟩;have HC:Hid (∀i,i<R.length->∃r:Rp,Ac w b i r/\Ac w b' i r/\r.kids.length<=1048577):=fun i hi=>⟨R[i],h.cell i hi,h'.cell i hi,hk _ (Qv hi)⟩;clear h h' hk;generalize R.length=n at*;go_enter func17,ntmps17;go_wp2;go_loopw [5] (fun i wr=>∃(k q:Nat),k<=n/\i=.int .i64 k/\wr=w.drewN q) (fun i _=>n-(intOf i).toNat)
 case atStart=>exact⟨0,0,by omega,rfl,rfl⟩
 case round=>
  obtain⟨k,q,hk,rfl,Sz⟩:=hrel;by_cases hlt:k<n
  ·obtain⟨rfl,rfl⟩:=HA.out (by omega);obtain⟨r,⟨c0,c1,c2,p,pg,pc,c3,c4⟩,⟨d0,d1,d2,x,xg,xc,d3,d4⟩,hr⟩:=HC.out k hlt;have HI:∀m,Calls prog 57 #[.slice p r.kids.length pc,.slice x r.kids.length xc] (wr.drewN m) fun e w'=>e=.returned (.bool true)/\∃m',w'=(wr.drewN m).drewN m':=fun m=>by
    rw[Sz];exact zp7 p x pg xg pc xc r.kids _ ((c4.drew q).drew m) ((d4.drew q).drew m) hr
   have cw:∀z,wr.cell? z=w.cell? z:=fun z=>by rw[Sz];rfl
   rw[<-cw]at c0 c1 c2 c3 d0 d1 d2 d3;have HQ:Hid (wr=w.drewN q):=Sz;clear c4 d4 cw Sz;obtain⟨rk,rn,rs,rc⟩:=r;dsimp only at c0 c1 c2 c3 d0 d1 d2 d3 HI hr;generalize rc.length=m at*;go_wp2;go_quiet ((exact Calls.quiet_of (HI _)));go_wp2;go_roundw
   case rel=>exact⟨k+1,_,by omega,by go_num,by rw[HQ.out,yc4]⟩
   case measure=>simp[intOf];omega
  ·have HQ:Hid (wr=w.drewN q):=Sz;clear Sz;go_wp2;go_ret;exact⟨rfl,q,HQ.out⟩
theorem Ly(a:Option Addr)(g c:Nat)(R:List Rp)(w:World)(h:T5 w a g R)(hn:R.length<=1048577):Calls prog 18 #[.slice a R.length c] w fun e w'=>e=.returned (.bool (decide (R.length=1)&&decide ((R.getD 0 ⟨0,0,⟨#[]⟩,[]⟩).kind=2)))/\w'=w:=by
 by_cases h1:R.length=1
 ·obtain⟨r,rfl⟩:=List.length_eq_one_iff.1 h1;have hc:=(h.cell 0 (by simp)).k;obtain⟨rfl,_⟩:=h.addr (by simp);obtain⟨rk,rn,rs,rc⟩:=r;have hc:w.cell? ⟨g,0,none⟩=some (.int .i64 rk):=hc;clear h h1 hn;show Calls prog 18 #[.slice (some ⟨g,0,none⟩) 1 c] w fun e w'=>e=.returned (.bool (decide (rk=2)))/\w'=w;by_cases h2:rk=2
  ·subst h2;go_enter func18,ntmps18;go_wp2;go_ret;exact⟨rfl,rfl⟩
  ·rw[Qf h2];go_enter func18,ntmps18;go_wp2;go_ret;exact⟨F0 (by simp[h2]),rfl⟩
 ·rw[Qf h1,Q0];clear h;generalize R.length=n at*;have Sz:¬((n:Int)=1):=by omega
  go_enter func18,ntmps18;go_wp2;go_ret;exact⟨rfl,rfl⟩
def Pw (R:List Rp):Rp:=if R.length=1 then R.getD 0 ⟨0,0,⟨#[]⟩,[]⟩ else ⟨0,0,⟨#[]⟩,[]⟩
def Y6 (w:World) (e:Ending) (w':World):Prop:=
 ∃B v L now aa ab ao ac T,e= .returned (.tuple #[v,.int .i64 now,.slice aa (List.length T) ac])/\Fv w' B v L/\O7 (L.map KV.key)/\L.length<=83/\Fs w' aa ab ao T.length T/\T.length<=6/\T.length<=ac/\(∀s∈T,s.size<=20)/\Bl w w'
theorem zvn{rb n c:Nat}{a:Option Addr}{M:List KV}(hrb:w.heap.size<=rb)(b1:Bl w w1)(hS:Mz w1 rb a n c v M w'):Bl w w':=by
 obtain⟨g1,g2,g3,g4,g5⟩:=hS.grown;exact b1.trans ⟨g1,g2,g3,g4,fun k hk=>g5 k (Qr hk b1.size) (by intro h;injection h with h;omega)⟩
theorem ydt(a:Option Addr)(n c:Nat)(w:World)(hn:n<=9223372036854775807)(hb:BytesIn w a n w.heap.size):
  Calls prog 13 #[.slice a n c] w (Y6 w):=by
 have HO:Hid (∃rb,w.heap.size<=rb/\Cp 39 #[.slice a n c] w fun e w'=>e=.returned (.pointer (some ⟨rb,0,none⟩))/\Rd w' rb a n c/\Bl w w'):=⟨w.heap.size,Qc _,yeb a n c w hn hb⟩;clear hb;obtain⟨rb,Vk,HO⟩:=HO.out;have Vf:Hid (w.heap.size<=rb):=Vk;clear Vk;go_enter func13,ntmps13;go_wp2_with fail;refine HO.mono ?_;rintro e w1⟨rfl,Vh,b1⟩;have Va:rb<w1.heap.size:=by
  obtain⟨p,_,hr⟩:=Vh.row;exact hr.lt
 have Ve:Hid (Bl w w1):=b1;clear b1 HO;go_wp2_with fail;refine(yiv rb a n c w1 Vh Va).mono ?_;rintro e w2⟨v,M,rfl,hS,hM⟩;have Vi:Hid (Mz w1 rb a n c v M w2):=hS;have HM:Hid (M.length<=83):=hM;clear hS hM Vh;go_wp2_with fail;refine(Ww rb a n c 9 w2 Vi.out.rd (by omega) (by omega)).mono ?_;rintro e w3⟨k,rfl,k0,k1,r3,g3⟩;have Vj:Hid (Mz w1 rb a n c v M w3):=Vi.out.read Va r3 g3;clear Vi r3 g3;go_wp2_with fail;refine(Pd rb a n c 24 w3 Vj.out.rd (by omega) (by omega)).mono ?_;rintro e w4⟨b4,rfl,r4,g4⟩;have Vb:Hid (Mz w1 rb a n c v M w4):=Vj.out.read Va r4 g4;clear Vj r4 g4;cases b4 with
 |false=>
  go_wp2_with fail;refine(Y7 rb a n c w4 Vb.out.rd (Vb.out.lt Va)).mono ?_;rintro e w5⟨x,B,off,Vd,ss,rfl,hs,hl,Vc,r5,g5,hz⟩;have Sz:Hid (Mz w1 rb a n c v M w5):=Vb.out.read Va r5 g5;have HF:Hid (Y6 w (.returned (.tuple #[v,.int .i64 k,.slice x ss.length Vd])) w5):=⟨_,v,M,k,x,B,off,Vd,ss,rfl,Sz.out.own,Sz.out.fit,HM.out,hs,hl,Vc,hz,zvn Vf.out Ve.out Sz.out⟩;clear hs hz r5 g5 Vb Sz HM Ve Vf;generalize ss.length=m at*;go_wp2;go_ret3;exact HF.out
 |true=>
  go_wp2_with fail;refine(Hp.Cr rb a n c 0 1000000000 w4 Vb.out.rd (by omega) (by omega) (by omega)).mono ?_;rintro e w8⟨d,rfl,Vm,Vn,r8,g8⟩;have Vg:Hid (Mz w1 rb a n c v M w8):=Vb.out.read Va r8 g8;clear Vb r8 g8;go_wp2_with fail;refine(Y7 rb a n c w8 Vg.out.rd (Vg.out.lt Va)).mono ?_;rintro e w5⟨x,B,off,Vd,ss,rfl,hs,hl,Vc,r5,g5,hz⟩;have Sz:Hid (Mz w1 rb a n c v M w5):=Vg.out.read Va r5 g5;have HF:Hid (Y6 w (.returned (.tuple #[v,.int .i64 d,.slice x ss.length Vd])) w5):=⟨_,v,M,d,x,B,off,Vd,ss,rfl,Sz.out.own,Sz.out.fit,HM.out,hs,hl,Vc,hz,zvn Vf.out Ve.out Sz.out⟩;clear hs hz r5 g5 Vg Sz HM Ve Vf;generalize ss.length=m at*;go_wp2;go_ret3;exact HF.out
open Go.RowKit
open Rb (Ns C4 W9)
def Pl (R:List Rp):Bool:=decide (R.length=1)&&decide ((R.getD 0 ⟨0,0,⟨#[]⟩,[]⟩).kind=2)
theorem T3{k n:Int}{s:ByteArray}(hk:k≠2):Pl [⟨k,n,s,[]⟩]=false:=by
 unfold Pl;simp[hk]
structure Left (ks:List Ke) (now:Int) (x:List Ke×List Rp):Prop where
 err:Pl x.2=true->x.1=ks
 ok:Fm x.1=true
 live:∀k∈x.1,Hs now k=true
section
variable {ks : List Ke} {now : Int}
theorem Tj(h:Fm ks=true)(hl:∀k∈ks,Hs now k=true)(R:List Rp):Left ks now (ks,R):=⟨fun _=>rfl,h,hl⟩
theorem zqt(h:Fm ks=true)(hl:∀k∈ks,Hs now k=true)(nm:ByteArray)(hR:Pl R=false):Left ks now (G5 ks nm,R):=
 ⟨fun e=>(by rw[hR]at e;cases e),C4 h nm,fun k hk=>hl k (List.mem_filter.1 hk).1⟩
theorem zlx(hl:∀k∈ks,Hs now k=true)(hk:Hs now k=true)(hs:Fm (G0 ks k)=true)(hR:Pl R=false):Left ks now (G0 ks k,R):=
 ⟨fun e=>(by rw[hR]at e;cases e),hs,fun y hy=>by
  rcases Df hy with q|q
  ·exact hl y q
  ·rw[q];exact hk⟩
theorem Wk(h:Fm ks=true)(hl:∀k∈ks,Hs now k=true)(hk:Hs now k=true)(hR:Pl R=false):Left ks now (Fj ks k R):=by
 unfold Fj;split
 ·exact zqt h hl _ hR
 ·split
  ·rename_i hs;exact zlx hl hk hs hR
  ·exact Tj h hl _
theorem zt9(h:Fm ks=true)(hl:∀k∈ks,Hs now k=true)(hk:k∈ks){d:Int}(h0:0<=d)(h1:d<=1000000000)(ha:Hs now (k.withDue d)=true)(hR:Pl R=false):Left ks now (G0 ks (k.withDue d),R):=by
 refine zlx hl ha ?_ hR;have hq:Lw ks:=T8 h;have q:=An hq hk h0 h1;rw[W9 h,Qe q.1,Bool.and_true];have:=hq.2 k hk;unfold Hh Lp at this ⊢;simp only[Qh,decide_eq_true_eq]at this ⊢;exact⟨this.1,this.2.1,h0,h1⟩
theorem ybe(h:Fm ks=true)(hl:∀k∈ks,Hs now k=true)(hk:Hs now k=true):Left ks now (Ol c ks k th T):=by
 unfold Ol;split<;>repeat(first|exact Tj h hl _|exact Wk h hl (k:=_) (by exact hk) (T3 (by decide))|split)
theorem zwa(h:Fm ks=true)(hl:∀k∈ks,Hs now k=true)(hk:Hs now k=true):Left ks now (Od c ks k th T):=by
 unfold Od;split<;>repeat(first|exact Tj h hl _|exact Wk h hl (k:=_) (by exact hk) (T3 (by decide))|split)
theorem ybj(h:Fm ks=true)(hl:∀k∈ks,Hs now k=true)(hk:Hs now k=true):Left ks now (Om c ks k T):=by
 unfold Om;split<;>repeat(first|exact Tj h hl _|exact Wk h hl (k:=_) (by exact hk) (T3 (by decide))|split)
theorem zy8(h:Fm ks=true)(hl:∀k∈ks,Hs now k=true)(hk:Hs now k=true):Left ks now (M5 c ks k T):=by
 unfold M5;split<;>repeat(first|exact Tj h hl _|exact Wk h hl (k:=_) (by exact hk) (T3 (by decide))|split)
theorem ya3{x:Int}(hx:1<=x):Hs now (k.withDue (now+x))=true:=by
 unfold Hs Ke.withDue;simp only[Bool.or_eq_true,decide_eq_true_eq];exact .inr (by omega)
theorem yew(h:Fm ks=true)(hl:∀k∈ks,Hs now k=true)(h1:k.due≠0->k∈ks)(h2:th=true->k∈ks)(hn:0<=now/\now<=1000000000):Left ks now (anyM c ks k th now T):=by
 have hz:∀nm t,Hs now (F5 nm t 0)=true:=fun nm t=>rfl;have Sz:∀nm t x,1<=x->Hs now (F5 nm t (now+x))=true:=fun nm t x hx=>by
  unfold Hs F5;simp only[Bool.or_eq_true,decide_eq_true_eq];exact .inr (by omega)
 unfold anyM;split<;>repeat(first|exact Tj h hl _|exact Wk h hl (hz _ _) (T3 (by decide))|exact Wk h hl (Sz _ _ _ (by omega)) (T3 (by decide))|exact zt9 h hl (h1 (by assumption)) (by omega) (by omega) rfl (T3 (by decide))|exact zt9 h hl (h2 (by assumption)) (by omega) (by omega) (ya3 (by omega)) (T3 (by decide))|exact zqt h hl _ (T3 (by decide))|split)
theorem Ir:∀(T:List ByteArray) (s:List Ke×Nat),Fm s.1=true->(∀k∈s.1,Hs now k=true)->Fm (T.foldl (Ni true) s).1=true/\∀k∈(T.foldl (Ni true) s).1,Hs now k=true
 | [],s,a,b=>⟨a,b⟩
 |t::T,s,a,b=>by
  rw[List.foldl_cons];refine Ir T _ ?_ ?_<;>unfold Ni<;>split
  ·exact a
  ·exact C4 a t
  ·exact b
  ·exact fun k hk=>b k (List.mem_filter.1 hk).1
theorem ybq(h:Fm ks=true)(hl:∀k∈ks,Hs now k=true):Left ks now (Oj c ks T):=by
 cases c using Cm.elim
 case DEL=>
  obtain⟨a,b⟩:=Ir T (ks,0) h hl;exact⟨fun e=>(by cases e),a,b⟩
 case FLUSHALL=>exact⟨fun e=>(by cases e),rfl,fun k hk=>(by cases hk)⟩
 all_goals exact Tj h hl _
theorem znv(h:Fm ks=true)(hl:∀k∈ks,Hs now k=true)(hk:Hs now k=true)(h1:k.due≠0->k∈ks)(h2:th=true->k∈ks)(hn:0<=now/\now<=1000000000):Left ks now (Mh c ks k th now T):=by
 unfold Mh;split
 ·exact ybe h hl hk
 ·exact zwa h hl hk
 ·exact ybj h hl hk
 ·exact zy8 h hl hk
 ·exact yew h hl h1 h2 hn
theorem left_done(h:Fm ks=true)(hl:∀k∈ks,Hs now k=true)(hn:0<=now/\now<=1000000000):Left ks now (Lc ks now T):=by
 unfold Lc;split
 ·exact Tj h hl _
 ·split
  ·split
   ·exact ybq h hl
   ·unfold Np;split
    ·exact znv h hl rfl (fun e=>absurd rfl e) (fun e=>by cases e) hn
    ·rename_i hf;split
     ·exact Tj h hl _
     ·have hm:ks.getD (Lm ks (Fa T.tail 0) 0).toNat ke0∈ks:=by
       rcases Ba ks (Fa T.tail 0) 0 with e|⟨i,hi,e⟩
       ·exact absurd (by rw[e];decide) hf
       ·rw[e,Int.toNat_natCast,Qq,Qa,Qd hi];exact Qv hi
      exact znv h hl (hl _ hm) (fun _=>hm) (fun _=>hm) hn
  ·exact Tj h hl _
end
theorem zw5{ks:List Ke}{now:Int}:∀k∈Hb ks now,Hs now k=true:=fun _ hk=>(List.mem_filter.1 hk).2
theorem zt0{ks:List Ke}{now:Int}(h:∀k∈ks,Hs now k=true):Hb ks now=ks:=List.filter_eq_self.2 h
theorem Fp:∀l:List UInt8,bytesBefore l l=false
 |[]=>rfl
 |x::l=>by
  unfold bytesBefore;simp[Fp l]
theorem H6{ks:List Ke}(h:Ri.UpK ks):ks.Pairwise fun x y=>x.name≠y.name:=
 List.Pairwise.imp (fun {x y} hxy e=>by rw[e,Fp]at hxy;cases hxy) h
theorem Im:∀{ks:List Ke}{k:Ke}(s:Nat),(ks.Pairwise fun x y=>x.name≠y.name)->k∈ks->∃i,Lm ks k.name s=((s+i:Nat):Int)/\ks.getD i ke0=k
 |[],_,_,_,h=>by cases h
 |x::ks,k,s,hp,h=>by
  unfold Lm;by_cases e:x.name=k.name
  ·rw[if_pos e];refine⟨0,rfl,?_⟩;rcases List.mem_cons.1 h with q|q
   ·exact q.symm
   ·exact absurd e ((List.pairwise_cons.1 hp).1 k q)
  ·rw[if_neg e];rcases List.mem_cons.1 h with q|q
   ·exact absurd (by rw[q]) e
   ·obtain⟨i,h1,h2⟩:=Im (s+1) (List.pairwise_cons.1 hp).2 q;exact⟨i+1,by rw[h1];congr 1;omega,h2⟩
theorem Mb:∀{ks:List Ke}{nm:ByteArray}(s:Nat),(∀k∈ks,k.name≠nm)->Lm ks nm s= -1
 |[],_,_,_=>rfl
 |x::ks,nm,s,h=>by
  unfold Lm;rw[if_neg (h x (by simp))];exact Mb (s+1) fun k hk=>h k (List.mem_cons_of_mem _ hk)
theorem Lt{ks:List Ke}(h:Fm ks=true)(hk:k∈ks)(now:Int)(A:List ByteArray)(hc:c.kind=0\/k.val.kind=(c.kind:Int)):Np c ks now (k.name::A)=Mh c ks k true now (k.name::A):=by
 obtain⟨i,h1,h2⟩:=Im 0 (H6 (Ri.Wb h)) hk;unfold Np;have ea:Fa (k.name::A) 0=k.name:=rfl;rw[ea,h1,if_neg (by omega),Int.toNat_natCast,Qq,h2,if_neg (by omega)]
theorem yle{ks:List Ke}(hk:∀k∈ks,k.name≠nm)(now:Int)(A:List ByteArray):Np c ks now (nm::A)=Mh c ks (Mr nm c.kind) false now (nm::A):=by
 unfold Np;have ea:Fa (nm::A) 0=nm:=rfl;rw[ea,Mb 0 hk,if_pos (by decide)]
theorem ylq:(Cm.all.all fun c=>decide (Nn (H9 c.text)=some c))=true:=by kernel_rfl
theorem ylz(c:Cm):c∈Cm.all:=by
 revert c;decide
theorem Hq(c:Cm)(ks:List Ke)(now:Int)(A:List ByteArray):Lc ks now (c.text::A)=if c.fits A.length=true then(if c.many=true then Oj c ks A else Np c ks now A) else(ks,Fl Pk):=by
 unfold Lc;have ea:Fa (c.text::A) 0=c.text:=rfl;rw[ea,Qg (Qw.1 ylq c (ylz c))];rfl
theorem zwp{ks:List Ke}{now:Int}(h:Fm ks=true)(hl:∀k∈ks,Hs now k=true)(hn:0<=now/\now<=1000000000)(h1:1<=T.length)(h16:T.length<=16)(hs:∀t∈T,t.size<=200):Nj ks now T=Lc ks now T:=by
 have ha:Oe T=true:=by
  unfold Oe;rw[Qh,Qw];refine⟨fun i hi=>Qe ?_,Qe h16⟩;have hi:=List.mem_range.1 hi;rw[Qa,Qd hi];exact hs _ (Qv hi)
 have ho:Tt ks now T=true:=by
  unfold Tt Lp;rw[h,ha,Qe hn.1,Qe hn.2,Qe h1];rfl
 unfold Nj;rw[ho,if_pos rfl,zt0 hl]
theorem G4{ks:List Ke}(h:Fm ks=true)(k:Ke):k∈G0 ks k:=by
 rw[Rb.Wz k ((Rb.Ns ks).1 h).2.1];exact Rb.V9 _ _
theorem ymb{ks:List Ke}(h:Pl (Fj ks k R).2=false):(Ml k=true/\Fj ks k R=(G5 ks k.name,R))\/(Ml k=false/\Fm (G0 ks k)=true/\Fj ks k R=(G0 ks k,R)):=by
 unfold Fj at h ⊢;cases he:Ml k with
 |true=>exact .inl ⟨rfl,by rw[if_pos rfl]⟩
 |false=>
  rw[he,if_neg (by simp)]at h;cases hs:Fm (G0 ks k)with
  |true=>exact .inr ⟨rfl,rfl,by rw[if_neg (by simp),if_pos rfl]⟩
  |false=>
   rw[hs,if_neg (by simp)]at h;cases h
def Fw (ks:List Ke) (nm:ByteArray):Option Ke:=ks.find? fun x=>decide (x.name=nm)
theorem ylh{ks:List Ke}(h:Fw ks nm=some k):k∈ks/\k.name=nm:=
 ⟨List.mem_of_find?_eq_some h,by
  have:=List.find?_some h;exact Qg this⟩
theorem ylg{ks:List Ke}(h:Fw ks nm=none):∀k∈ks,k.name≠nm:=fun k hk e=>by
 have:=List.find?_eq_none.1 h k hk;exact this (Qe e)
theorem L7(ks:List Ke)(nm:ByteArray):(Fw ks nm=none/\∀k∈ks,k.name≠nm)\/∃k,Fw ks nm=some k/\k∈ks/\k.name=nm:=by
 cases h:Fw ks nm with
 |none=>exact .inl ⟨rfl,ylg h⟩
 |some k=>exact .inr ⟨k,rfl,ylh h⟩
theorem C6(c:Cm){ks:List Ke}(h:Fm ks=true)(hk:k∈ks)(now:Int)(A:List ByteArray)(hf:c.fits (A.length+1)=true)(hm:c.many=false)(hc:c.kind=0\/k.val.kind=(c.kind:Int)):Lc ks now (c.text::k.name::A)=Mh c ks k true now (k.name::A):=by
 rw[Hq,Q1,if_pos hf,if_neg (by rw[hm];simp),Lt h hk now A hc]
theorem yme{ks:List Ke}(h:Fm ks=true)(hk:k∈ks)(now:Int)(A:List ByteArray)(h0:c.kind≠0)(hc:k.val.kind≠(c.kind:Int)):Np c ks now (k.name::A)=(ks,R6):=by
 obtain⟨i,h1,h2⟩:=Im 0 (H6 (Ri.Wb h)) hk;unfold Np;have ea:Fa (k.name::A) 0=k.name:=rfl;rw[ea,h1,if_neg (by omega),Int.toNat_natCast,Qq,h2,if_pos ⟨by omega,hc⟩]
def DbR (w:World) (v:Value) (ks:List Ke):Prop:=∃a A c L,v= .slice a ks.length c/\Oc w a A L.length L/\L.map KV.key=ks
def RpR (w:World) (v:Value) (R:List Rp):Prop:=∃a g c,v= .slice a R.length c/\T5 w a g R
theorem DbR.bw{ks:List Ke}(h:DbR w v ks)(hb:Bl w w'):DbR w' v ks:=by
 obtain⟨a,A,c,L,e,hd,hk⟩:=h;exact⟨a,A,c,L,e,hd.bw hb,hk⟩
theorem RpR.bw(h:RpR w v R)(hb:Bl w w'):RpR w' v R:=by
 obtain⟨a,g,c,e,hr⟩:=h;exact⟨a,g,c,e,hr.bw hb⟩
theorem Il(h:Fv w B v L):DbR w v (L.map KV.key):=by
 obtain⟨a,A,c,e,hd⟩:=h.at;exact⟨a,A,c,L,by rw[Qp];exact e,hd,rfl⟩
def Ug (w:World) (p:List Ke×List Rp) (e:Ending) (w':World):Prop:=
 ∃v r,e= .returned (.tuple #[v,r])/\DbR w' v p.1/\RpR w' r p.2/\Bl w w'
theorem ybv(h:Rb.Bu w p e w'):Ug w p e w':=by
 obtain⟨v,r,L,rfl,hk,ho,hv,hr,hb⟩:=h;obtain⟨a,A,c,e,Sz⟩:=Uw ho;exact⟨v,r,rfl,⟨a,A,c,L,by rw[<-hk,Qp];exact e,⟨Sz,fun i hi=>⟨_,hv.own _ (by rw[Qa,Qd hi];exact Qv hi)⟩⟩,hk⟩,yfp hr,hb⟩
theorem zy0(h:Fh w B p e w'):Ug w p e w':=by
 obtain⟨v,r,L,rfl,hk,ho,hr,hb⟩:=h;exact⟨v,r,rfl,by rw[<-hk];exact Il ho,yfp hr,hb⟩
theorem Ct(h:Rb.Px w ad)(hb:Bl w W):Rb.Px W ad:=by
 have hs:=hb.size;have n25:=h.es.er.n25;have q:=h.es.bw hb;refine⟨⟨⟨q.er.rd,q.er.fd,fun i hi=>⟨(q.er.er i hi).1,Qr (q.er.er i hi).2 hs⟩,by omega⟩,q.ms⟩,fun i hi=>(h.ev i hi).bw hb n25 (h.ev i hi).low,h.ne,(hb.cell (p:=⟨3,0,none⟩) (by show 3<_;omega)).trans h.g7⟩
def C3 (ks:List Ke):Prop:=O7 ks/\ks.length<=1000
theorem zlo(h:O7 (L.map KV.key)):Small L:=fun i hi=>by
 have k:=h _ (List.mem_map.2 ⟨L.getD i kv0,by rw[Qa,Qd hi];exact Qv hi,rfl⟩);exact⟨⟨k.fit.fit,k.np,k.nums⟩,k.fit.name⟩
theorem yhr{ks:List Ke}(h:Fm ks=true):C3 ks:=by
 obtain⟨h1,h2⟩:=zrs h;exact⟨h1,by omega⟩
theorem znu(v:Value)(ks:List Ke)(now:Int)(aa:Option Addr)(ab ao m ac:Nat)(T:List ByteArray)(ad:Nat->Addr)(w:World)(h:DbR w v ks)(hg:C3 ks)(ha:Fs w aa ab ao m T)(hm:m<=1000)(hac:m<=ac)(hE:Rb.Px w ad):
  Calls prog 14 #[v,.int .i64 now,.slice aa m ac] w (Ug w (Nj ks now T)):=by
 obtain⟨a,A,c,L,rfl,hd,rfl⟩:=h;have hl:=hg.2;rw[Qp]at hl ⊢;exact(Rb.zs4 a A L.length c L now aa ab ao m ac T ad w hd (zlo hg.1) (by omega) ha hm hac hE).mono fun e w' he=>ybv he
theorem zvx(B:Nat)(v:Value)(L:List KV)(now:Int)(aa:Option Addr)(ab ao m ac:Nat)(T:List ByteArray)(w:World)(h:Fv w B v L)(hg:C3 (L.map KV.key))(ha:Fs w aa ab ao m T)(hm:m<=1000)(hac:m<=ac):
  Calls prog 15 #[v,.int .i64 now,.slice aa m ac] w (Ug w (Nj (L.map KV.key) now T)):=by
 have hl:=hg.2;rw[Qp]at hl;exact(zj3 B v L now aa ab ao m ac T w h hg.1.k hl ha hm hac).mono fun e w' he=>zy0 he
theorem zjk(r r':Value)(R:List Rp)(w:World)(h:RpR w r R)(h':RpR w r' R)(hR:R=[]\/RpS R):
  Calls prog 17 #[r,r'] w fun e w'=>e=.returned (.bool true)/\Bl w w':=by
 obtain⟨a,g,c,rfl,hr⟩:=h;obtain⟨a',g',c',rfl,Sz⟩:=h';have hs:R.length<=41/\∀r∈R,r.kids.length<=41:=by
  rcases hR with rfl|⟨_,h2,h3⟩
  ·exact⟨by simp,fun r hr=>by cases hr⟩
  ·exact⟨h2,fun r hr=>(h3 r hr).1⟩
 refine(zqk a a' g g' c c' R w hr Sz (by omega) (fun r hr=>by have:=hs.2 r hr;omega)).mono ?_;rintro e w'⟨rfl,q,rfl⟩;exact⟨rfl,Hp.below_drewN w q⟩
theorem yli(r:Value)(R:List Rp)(w:World)(h:RpR w r R)(hn:R.length<=41):Calls prog 18 #[r] w fun e w'=>e=.returned (.bool (Pl R))/\w'=w:=by
 obtain⟨a,g,c,rfl,hr⟩:=h;exact Ly a g c R w hr (by omega)
theorem zmx(ks:List Ke)(now:Int)(T:List ByteArray):(Tt ks now T=false/\Nj ks now T=([],[]))\/(Tt ks now T=true/\Fm ks=true/\(0<=now/\now<=1000000000)/\T.length<=16/\1<=T.length/\(∀i,i<T.length->(Fa T i).size<=200)/\Nj ks now T=Lc (Hb ks now) now T/\Left (Hb ks now) now (Lc (Hb ks now) now T)/\RpS (Lc (Hb ks now) now T).2):=by
 cases h:Tt ks now T with
 |false=>exact .inl ⟨rfl,by unfold Nj;rw[h,if_neg (by simp)]⟩
 |true=>
  have h0:=h;unfold Tt at h;simp only[Qh,decide_eq_true_eq]at h;obtain⟨h1,h2,h3,h4⟩:=h;unfold Lp at h2;simp only[Qh,decide_eq_true_eq]at h2;obtain⟨u1,u2⟩:=E6 h4;exact .inr ⟨rfl,h1,h2,u1,h3,u2,by unfold Nj;rw[h0,if_pos rfl],left_done (Rb.E7 h1 now) zw5 h2,yg8 (zn0 (T8 h1)) u2⟩
structure Pq (w1:World) (v:Value) (ks:List Ke) (now:Int) (aa:Option Addr) (ab ao m ac:Nat) (T:List ByteArray) (ad:Nat->Addr):Prop where
 own:∃B L,Fv w1 B v L/\L.map KV.key=ks
 good:C3 ks
 args:Fs w1 aa ab ao m T
 len:T.length=m
 few:m<=6
 cap:m<=ac
 env:Rb.Px w1 ad
theorem Pq.bw{ks:List Ke}{now:Int}(h:Pq w1 v ks now aa ab ao m ac T ad)(hb:Bl w1 W):Pq W v ks now aa ab ao m ac T ad:=by
 obtain⟨B,L,ho,hk⟩:=h.own;exact⟨⟨B,L,ho.bw hb,hk⟩,h.good,Lb h.args hb,h.len,h.few,h.cap,Ct h.env hb⟩
theorem Pq.db{ks:List Ke}{now:Int}(h:Pq w1 v ks now aa ab ao m ac T ad):DbR w1 v ks:=by
 obtain⟨B,L,ho,rfl⟩:=h.own;exact Il ho
theorem Pq.impl{ks:List Ke}{now:Int}(h:Pq w1 v ks now aa ab ao m ac T ad):
  Calls prog 14 #[v,.int .i64 now,.slice aa m ac] w1 (Ug w1 (Nj ks now T)):=
 znu v ks now aa ab ao m ac T ad w1 h.db h.good h.args (by have:=h.few;omega) h.cap h.env
theorem Pq.spec{ks:List Ke}{now:Int}(h:Pq w1 v ks now aa ab ao m ac T ad):
  Calls prog 15 #[v,.int .i64 now,.slice aa m ac] w1 (Ug w1 (Nj ks now T)):=by
 have hf:=h.few;have hg:=h.good;obtain⟨B,L,ho,rfl⟩:=h.own;exact zvx B v L now aa ab ao m ac T w1 ho hg h.args (by omega) h.cap
theorem zz0(a:Option Addr)(n c:Nat)(w:World)(hn:n<=9223372036854775807)(hb:BytesIn w a n w.heap.size)(ad:Nat->Addr)(hE:Rb.Px w ad):
  Calls prog 13 #[.slice a n c] w fun e w1=>∃v ks now aa ab ao m ac T,e=.returned (.tuple #[v,.int .i64 now,.slice aa m ac])/\Pq w1 v ks now aa ab ao m ac T ad/\Bl w w1:=by
 refine(ydt a n c w hn hb).mono ?_;rintro e w1⟨B,v,L,now,aa,ab,ao,ac,T,rfl,Sz,Vd,Vf,Va,Vb,Vc,Ve,b1⟩;exact⟨v,L.map KV.key,now,aa,ab,ao,T.length,ac,T,rfl,⟨⟨B,L,Sz,rfl⟩,⟨Vd,by rw[Qp];omega⟩,Va,rfl,Vb,Vc,Ct hE b1⟩,b1⟩
theorem Hv{G:Nat}{C:Array Value}(r:Fc W G 9 C)(e:C=(T.map Value.string).toArray)(hs:∀t∈T,t.size<=200):Fs W (some ⟨G,0,none⟩) G 0 T.length T:=by
 subst e;refine⟨rfl,fun _=>rfl,fun _=>r.lt,fun i hi=>?_,fun i hi=>?_⟩
 ·rw[Qq,r.cell i,Qm,List.getElem?_map,Qd hi,Qa,Qd hi];rfl
 ·rw[Qa,Qd hi];exact Qj (hs _ (Qv hi)) (by decide)
section
variable (C:Array Value) (T:List ByteArray)
theorem yly(e:C=(T.map Value.string).toArray)(h1:1<=T.length)(h16:T.length<=16)(hs:∀t∈T,t.size<=200){ks:List Ke}{now:Int}(hd:DbR w v ks)(hok:Fm ks=true)(hl:∀k∈ks,Hs now k=true)(hn:0<=now/\now<=1000000000)(hE:Rb.Px w ad)(hp:Lc ks now T=p)(W:World)(hW:Bl w W):
  ∃W',Hid (W.alloc (.cells C 9)=W')/\Hid (∀X,Bl W' X->Cp 14 #[v,.int .i64 now,.slice (some ⟨W.heap.size,0,none⟩) T.length T.length] X fun e w'=>∃v r,e=.returned (.tuple #[v,r])/\DbR w' v p.1/\RpR w' r p.2/\Bl w w'/\Bl W w'):=by
 obtain⟨W',_,Sz,b,r⟩:=boxed W C 9;refine⟨W',Sz,fun X hX=>?_⟩;have bX:Bl W X:=b.trans (hX.mono b.size);have bb:Bl w X:=hW.trans (bX.mono hW.size);have:=znu v ks now (some ⟨W.heap.size,0,none⟩) W.heap.size 0 T.length T.length T ad X (hd.bw bb) (yhr hok) (Hv (Fc.bw r hX r.lt) e hs) (by omega) (Qc _) (Ct hE bb);rw[zwp hok hl hn h1 h16 hs,hp]at this;refine this.mono ?_;rintro e w'⟨v,r,rfl,h1,h2,h3⟩;exact⟨v,r,rfl,h1,h2,bb.trans (h3.mono bb.size),bX.trans (h3.mono bX.size)⟩
theorem ylu(e:C=(T.map Value.string).toArray)(h1:1<=T.length)(h16:T.length<=16)(hs:∀t∈T,t.size<=200){ks:List Ke}{now:Int}(hd:DbR w v ks)(hok:Fm ks=true)(hl:∀k∈ks,Hs now k=true)(hn:0<=now/\now<=1000000000)(hE:Rb.Px w ad)(hp:Lc ks now T=p)(W:World)(hW:Bl w W):
  ∃W',Hid (W.alloc (.cells C 9)=W')/\Hid (Cp 14 #[v,.int .i64 now,.slice (some ⟨W.heap.size,0,none⟩) T.length T.length] W' fun e w'=>∃v r,e=.returned (.tuple #[v,r])/\DbR w' v p.1/\RpR w' r p.2/\Bl w w'/\Bl W w'):=by
 obtain⟨W',h1,h2⟩:=yly C T e h1 h16 hs hd hok hl hn hE hp W hW;exact⟨W',h1,h2.out _ (Qb _ _)⟩
end
theorem G9(a:Option Addr)(g c:Nat)(R:List Rp)(w:World)(h:T5 w a g R)(p:Option Addr)(m pc:Nat)(hk:R.length=1->w.cell? ⟨g,3,none⟩=some (.slice p m pc))(hk':R.length≠1->p=none/\m=0/\pc=0)(hn:R.length<=1048577):Calls prog 23 #[.slice a R.length c] w fun e w'=>e=.returned (.agg #[.int .i64 (Pw R).kind,.int .i64 (Pw R).n,.string (Pw R).s,.slice p m pc])/\Bl w w':=by
 obtain⟨W0,Vc,Vb,b0,r0⟩:=boxed w #[.int .i64 0,.int .i64 0,.string ⟨#[]⟩,.slice none 0 0] 40;have y0:=r0.cell 0;have y1:=r0.cell 1;have y2:=r0.cell 2;have y3:=r0.cell 3;have z0:=r0.frozen 0;have z1:=r0.frozen 1;have z2:=r0.frozen 2;have z3:=r0.frozen 3;simp only[Qm,Qk,Ql]at y0 y1 y2 y3;have Sz:=Qc w.heap.size;by_cases h1:R.length=1
 ·obtain⟨r,rfl⟩:=List.length_eq_one_iff.1 h1;obtain⟨j0,j1,j2,_⟩:=(h.bw b0).cell 0 (by simp);have j3:=hk rfl;obtain⟨rfl,hg⟩:=h.addr (by simp);have j3:=(b0.cell (p:=⟨g,3,none⟩) hg).trans j3;clear hk hk' hg;obtain⟨rk,rn,rs,rc⟩:=r;have k0:W0.cell? ⟨g,0,none⟩=some (.int .i64 rk):=j0;have k1:W0.cell? ⟨g,1,none⟩=some (.int .i64 rn):=j1;have k2:W0.cell? ⟨g,2,none⟩=some (.string rs):=j2;have k3:W0.cell? ⟨g,3,none⟩=some (.slice p m pc):=j3;have e:Pw [⟨rk,rn,rs,rc⟩]=⟨rk,rn,rs,rc⟩:=rfl;rw[e];clear j0 j1 j2 j3;have r1:Fc _ w.heap.size 40 #[.int .i64 rk,.int .i64 0,.string ⟨#[]⟩,.slice none 0 0]:=r0.set 0 (.int .i64 rk);have r2:Fc _ w.heap.size 40 #[.int .i64 rk,.int .i64 rn,.string ⟨#[]⟩,.slice none 0 0]:=r1.set 1 (.int .i64 rn);have r3:Fc _ w.heap.size 40 #[.int .i64 rk,.int .i64 rn,.string rs,.slice none 0 0]:=r2.set 2 (.string rs);have r4:Fc _ w.heap.size 40 #[.int .i64 rk,.int .i64 rn,.string rs,.slice p m pc]:=r3.set 3 (.slice p m pc);have b4:=(((b0.setCell (p:=⟨w.heap.size,0,none⟩) Sz (.int .i64 rk)).setCell (p:=⟨w.heap.size,1,none⟩) Sz (.int .i64 rn)).setCell (p:=⟨w.heap.size,2,none⟩) Sz (.string rs)).setCell (p:=⟨w.heap.size,3,none⟩) Sz (.slice p m pc);have HQ:Hid _:=And.intro r4 b4;clear h h1 hn e r0 r1 r2 r3 r4 b4 b0 Vc;show Calls prog 23 #[.slice (some ⟨g,0,none⟩) 1 c] w _;go_enter func23,ntmps23;go_upto_region 1 with fail;rw[Vb.out];clear Vb;go_wp2;obtain⟨rr,Va⟩:=HQ.out;have q0:=rr.cell 0;have q1:=rr.cell 1;have q2:=rr.cell 2;have q3:=rr.cell 3;simp only[Qm,Qk,Ql]at q0 q1 q2 q3;exact bodyPost_ret (v:=.agg #[.int .i64 rk,.int .i64 rn,.string rs,.slice p m pc]) (by simp[results,results23,go_sem,q0,q1,q2,q3]) rfl ⟨rfl,Va⟩
 ·obtain⟨rfl,rfl,rfl⟩:=hk' h1;clear hk hk';have e:Pw R=⟨0,0,⟨#[]⟩,[]⟩:=if_neg h1;rw[e];have r1:Fc _ w.heap.size 40 #[.int .i64 0,.int .i64 0,.string ⟨#[]⟩,.slice none 0 0]:=r0.set 0 (.int .i64 0);have r2:Fc _ w.heap.size 40 #[.int .i64 0,.int .i64 0,.string ⟨#[]⟩,.slice none 0 0]:=r1.set 1 (.int .i64 0);have r3:Fc _ w.heap.size 40 #[.int .i64 0,.int .i64 0,.string ⟨#[]⟩,.slice none 0 0]:=r2.set 2 (.string ⟨#[]⟩);have r4:Fc _ w.heap.size 40 #[.int .i64 0,.int .i64 0,.string ⟨#[]⟩,.slice none 0 0]:=r3.set 3 (.slice none 0 0);have b4:=(((b0.setCell (p:=⟨w.heap.size,0,none⟩) Sz (.int .i64 0)).setCell (p:=⟨w.heap.size,1,none⟩) Sz (.int .i64 0)).setCell (p:=⟨w.heap.size,2,none⟩) Sz (.string ⟨#[]⟩)).setCell (p:=⟨w.heap.size,3,none⟩) Sz (.slice none 0 0);have HQ:Hid _:=And.intro r4 b4;clear h e r0 r1 r2 r3 r4 b4 b0 Vc;generalize R.length=n at*;have Vd:¬((n:Int)=1):=by omega
  go_enter func23,ntmps23;go_upto_region 1 with fail;rw[Vb.out];clear Vb;go_wp2;obtain⟨rr,Va⟩:=HQ.out;have q0:=rr.cell 0;have q1:=rr.cell 1;have q2:=rr.cell 2;have q3:=rr.cell 3;simp only[Qm,Qk,Ql]at q0 q1 q2 q3;exact bodyPost_ret (v:=.agg #[.int .i64 0,.int .i64 0,.string ⟨#[]⟩,.slice none 0 0]) (by simp[results,results23,go_sem,q0,q1,q2,q3]) rfl ⟨rfl,Va⟩
theorem ylx(h:RpR w r R)(hn:R.length<=41):∃k,∀W,Bl w W->Calls prog 23 #[r] W fun e w'=>e=.returned (.agg #[.int .i64 (Pw R).kind,.int .i64 (Pw R).n,.string (Pw R).s,k])/\Bl W w':=by
 obtain⟨a,g,c,rfl,h⟩:=h;by_cases h1:R.length=1
 ·obtain⟨_,_,_,p,pg,pc,h3,_⟩:=h.cell 0 (by omega)
  exact⟨.slice p _ pc,fun W hW=>G9 a g c R W (h.bw hW) p _ pc (fun _=>by
   have:=(hW.cell (p:=⟨g,3,none⟩) (h.addr (by omega)).2).trans h3;exact this) (fun h=>absurd h1 h) (by omega)⟩
 ·exact⟨.slice none 0 0,fun W hW=>G9 a g c R W (h.bw hW) none 0 0 (fun h=>absurd h h1) (fun _=>⟨rfl,rfl,rfl⟩) (by omega)⟩
theorem yld{x:Rp}(h:RpR w r R)(hR:R=[x]):∃k,∀W,Bl w W->Calls prog 23 #[r] W fun e w'=>e=.returned (.agg #[.int .i64 x.kind,.int .i64 x.n,.string x.s,k])/\Bl W w':=by
 subst hR;exact ylx h (by simp)
section
variable (a b c d:Value) (W:World)
theorem ylp:(Instr.field 40 (.agg #[a,b,c,d]) 0).run prog W=.ok a W:=by
 simp[go_sem,Instr.field,asAgg]
theorem yls:(Instr.field 40 (.agg #[a,b,c,d]) 1).run prog W=.ok b W:=by
 simp[go_sem,Instr.field,asAgg]
theorem ylr:(Instr.field 40 (.agg #[a,b,c,d]) 2).run prog W=.ok c W:=by
 simp[go_sem,Instr.field,asAgg]
end
open Kk (Rk rk0)
theorem ymt{t:ByteArray}(h:(Fg t).2=true):Kk.F1 (Fg t).1=t:=by
 unfold Fg at h ⊢;rw[<-Rb.yix]at h ⊢;have:=(Fd.yhb _ h).2;unfold Kk.F1;rw[this]
theorem yms{M:List Rk}{x y:Rk}(h:y∈Kk.Ho M x):y=x\/y∈M:=by
 unfold Kk.Ho at h;rw[List.mem_append,List.mem_append,List.mem_singleton]at h;rcases h with h|h|h
 ·exact .inr (List.mem_of_mem_take h)
 ·exact .inl h
 ·exact .inr (List.mem_of_mem_drop h)
theorem ymu(M:List Rk)(x:Rk):x∈Kk.Ho M x:=by
 unfold Kk.Ho;simp
theorem ymi:∀(n:Nat) (A:List ByteArray) (rs rs':List Rk),A.length=2*n+2->Mw rs A=some rs'->(Fg (Fa A (2*n))).2=true/\∃rs0,rs'=Kk.Ho (Kk.without rs0 (Fa A (2*n+1))) ⟨Fa A (2*n+1),(Fg (Fa A (2*n))).1⟩
 |0,[s,m],rs,rs',_,h=>by
  unfold Mw at h;split at h
  ·rename_i g;injection h with h;exact⟨g,rs,h.symm⟩
  ·cases h
 |n+1,s::m::T,rs,rs',hl,h=>by
  unfold Mw at h;split at h
  ·exact ymi n T _ rs' (by simp only[Q1]at hl;omega) h
  ·cases h
theorem ymq:∀(T:List Rk)(nm:ByteArray)(s:Nat),(∃x∈T,x.m=nm)->∃i,i<T.length/\Hg T nm s=((s+i:Nat):Int)/\(T.getD i rk0).m=nm/\T.getD i rk0∈T
 |[],_,_,h=>by
  obtain⟨_,h,_⟩:=h;cases h
 |x::xs,nm,s,h=>by
  unfold Hg;by_cases e:x.m=nm
  ·rw[if_pos e];exact⟨0,by simp,rfl,e,by simp⟩
  ·rw[if_neg e];obtain⟨y,hy,hm⟩:=h;rcases List.mem_cons.1 hy with q|q
   ·exact absurd (by rw[<-q];exact hm) e
   ·obtain⟨i,h1,h2,h3,h4⟩:=ymq xs nm (s+1) ⟨y,q,hm⟩;exact⟨i+1,by simp only[Q1];omega,by rw[h2];congr 1;omega,h3,List.mem_cons_of_mem _ h4⟩
theorem ymo{ks:List Ke}{now:Int}{x1:ByteArray}{A:List ByteArray}(h:Fm ks=true)(hA:2<=A.length)(he:Pl (Lc ks now (Cm.text 34::x1::A)).2=false):
  ∃k' i c,Lc ks now (Cm.text 34::x1::A)=(G0 ks k',Fe c)/\k'.name=x1/\k'.val.kind=4/\i<k'.val.rq.length/\Hg k'.val.rq (Fa A (A.length-1)) 0=(i:Int)/\(k'.val.rq.getD i rk0).m=Fa A (A.length-1)/\Kk.F1 (k'.val.rq.getD i rk0).s=Fa A (A.length-2):=by
 have hd:=Hq 34 ks now (x1::A);by_cases hf:Cm.fits 34 (x1::A).length=true;rotate_left
 ·rw[hd,if_neg hf]at he;cases he
 rw[if_pos hf,if_neg (by decide)]at hd;obtain⟨n,hn⟩:∃n,A.length=2*n+2:=by
  have hf:decide (3<=(x1::A).length/\(x1::A).length%2=1)=true:=hf;have hf:=Qg hf;simp only[Q1]at hf;exact⟨A.length/2-1,by omega⟩
 have Va:∀(k:Ke),k.name=x1->k.val.kind=4->Np 34 ks now (x1::A)=M5 34 ks k (x1::A)->∃k' i c,Lc ks now (Cm.text 34::x1::A)=(G0 ks k',Fe c)/\k'.name=x1/\k'.val.kind=4/\i<k'.val.rq.length/\Hg k'.val.rq (Fa A (A.length-1)) 0=(i:Int)/\(k'.val.rq.getD i rk0).m=Fa A (A.length-1)/\Kk.F1 (k'.val.rq.getD i rk0).s=Fa A (A.length-2):=fun k hk1 hk2 e=>by
  have e:Lc ks now (Cm.text 34::x1::A)=(match Mw k.val.rq A with|some rs=>Fj ks (k.withRanks rs) (Fe ((rs.length:Int)-(k.val.rq.length:Int)))|none=>(ks,Fl F3)):=hd.trans e;cases hr:Mw k.val.rq A with
  |none=>
   rw[e,hr]at he;cases he
  |some rs=>
   rw[hr]at e;have e:Lc ks now (Cm.text 34::x1::A)=Fj ks (k.withRanks rs) (Fe ((rs.length:Int)-(k.val.rq.length:Int))):=e;obtain⟨g,Vb,Sz⟩:=ymi n A _ _ hn hr;rw[show A.length-1=2*n+1 by omega,show A.length-2=2*n by omega];obtain⟨i,q1,q2,q3,q4⟩:=ymq rs (Fa A (2*n+1)) 0 ⟨⟨Fa A (2*n+1),(Fg (Fa A (2*n))).1⟩,by rw[Sz];exact ymu _ _,rfl⟩;have q5:(rs.getD i rk0).s=(Fg (Fa A (2*n))).1:=by
    rw[Sz]at q4;rcases yms q4 with q|q
    ·rw[<-Sz]at q;rw[q]
    ·have:=Qg (List.mem_filter.1 q).2;rw[<-Sz]at this;exact absurd q3 this
   rw[e]at he ⊢;rcases ymb he with⟨q,_⟩|⟨_,_,q⟩
   ·have:Ml (k.withRanks rs)=false:=by
     show(decide (k.val.ia.length+k.val.pj.length+rs.length=0)&&_)=false;rw[Qf (by omega)];rfl
    rw[this]at q;cases q
   ·exact⟨_,i,_,q,hk1,hk2,q1,by rw[Qq]at q2;exact q2,q3,by rw[show((k.withRanks rs).val.rq.getD i rk0).s=(rs.getD i rk0).s from rfl,q5,ymt g]⟩
 rcases L7 ks x1 with⟨_,hn⟩|⟨k,_,hk,hx⟩
 ·exact Va (Mr x1 4) rfl rfl ((yle hn now A).trans rfl)
 ·by_cases hk4:k.val.kind=4
  ·subst hx;exact Va k rfl hk4 ((Lt (c:=34) h hk now A (.inr hk4)).trans rfl)
  ·subst hx;rw[hd,yme (c:=34) h hk now A (by decide) hk4]at he;cases he
theorem ymk{ks:List Ke}(h:Fm ks=true)(hk:k∈ks)(hv:k.val.kind=4)(now:Int)(m:ByteArray)(hi:Hg k.val.rq m 0=(i:Int)):Lc ks now [Cm.text 21,k.name,m]=(ks,Fy (Kk.F1 (k.val.rq.getD i rk0).s)):=by
 refine(C6 21 h hk now [m] rfl rfl (.inr hv)).trans ?_;show(if Hg k.val.rq m 0<0 then(ks,G7) else(ks,Fy (Kk.F1 (k.val.rq.getD (Hg k.val.rq m 0).toNat rk0).s)))=_;rw[hi,if_neg (by omega)];rfl
theorem ymn{ks:List Ke}(h:Fm ks=true)(hk:k∈ks)(hv:k.val.kind=4)(now:Int)(m:ByteArray)(hi:Hg k.val.rq m 0=(i:Int)):Lc ks now [Cm.text 22,k.name,m]=(ks,Fe i):=by
 refine(C6 22 h hk now [m] rfl rfl (.inr hv)).trans ?_;show(if Hg k.val.rq m 0<0 then(ks,G7) else(ks,Fe (Hg k.val.rq m 0)))=_;rw[hi,if_neg (by omega)]
theorem yml:((List.range 21).all fun n=>decide (n=0\/Sl.Hx n 0 (-1)=(0,(n:Int))))=true:=by kernel_rfl
theorem ymj{ks:List Ke}(h:Fm ks=true)(hk:k∈ks)(hv:k.val.kind=4)(now:Int)(h1:1<=k.val.rq.length)(h20:k.val.rq.length<=20):Lc ks now [Cm.text 25,k.name,⟨#[48]⟩,⟨#[45,49]⟩]=(ks,He (k.val.rq.map Rk.m)):=by
 refine(C6 25 h hk now [⟨#[48]⟩,⟨#[45,49]⟩] rfl rfl (.inr hv)).trans ?_;show(if((Fg ⟨#[48]⟩).2&&(Fg ⟨#[45,49]⟩).2)=true then(ks,He (Pc k.val.rq (Fg ⟨#[48]⟩).1 (Fg ⟨#[45,49]⟩).1)) else(ks,Fl F3))=_;rw[show Fg ⟨#[48]⟩=(0,true) by kernel_rfl,show Fg ⟨#[45,49]⟩=(-1,true) by kernel_rfl,if_pos (by rfl)];unfold Pc;have hs:Sl.Hx k.val.rq.length 0 (-1)=(0,(k.val.rq.length:Int)):=by
  rcases Qg (Qw.1 yml _ (List.mem_range.2 (Nat.lt_succ_of_le h20)))with e|e
  ·omega
  ·exact e
 rw[hs];simp
theorem ymp{ks:List Ke}(h:Fm ks=true)(hk:k∈ks)(hv:k.val.kind=4)(now:Int):Lc ks now [Cm.text 15,k.name]=(ks,Fe k.val.rq.length):=(C6 15 h hk now [] rfl rfl (.inr hv)).trans rfl
theorem ymr(h1:a.size<=200)(h2:b.size<=200):∀t∈ [a,b],t.size<=200:=fun t ht=>by
 simp only[List.mem_cons,List.not_mem_nil,or_false]at ht;rcases ht with rfl|rfl
 ·exact h1
 ·exact h2
theorem ymm{c:ByteArray}(h1:a.size<=200)(h2:b.size<=200)(h3:c.size<=200):∀t∈ [a,b,c],t.size<=200:=fun t ht=>by
 rcases List.mem_cons.1 ht with rfl|ht
 ·exact h1
 ·exact ymr h2 h3 t ht
theorem ymv{c d:ByteArray}(h1:a.size<=200)(h2:b.size<=200)(h3:c.size<=200)(h4:d.size<=200):∀t∈ [a,b,c,d],t.size<=200:=fun t ht=>by
 rcases List.mem_cons.1 ht with rfl|ht
 ·exact h1
 ·exact ymm h2 h3 h4 t ht
theorem Aw9(a:Option Addr)(n c:Nat)(w:World)(hn:n<=9223372036854775807)(hb:BytesIn w a n w.heap.size)(ad:Nat->Addr)(hE:Rb.Px w ad):
  Calls prog 9 #[.slice a n c] w fun e w'=>e=.returned (.bool true)/\Bl w w':=by
 have Zq:Hid (Cp 12 #[.slice a n c] w fun e w'=>e=.returned (.bool (decide (1048576<n)))/\w'=w):=ygb a n c w hn;have Xr:Hid (Cp 13 #[.slice a n c] w fun e w1=>∃v ks Sz aa ab ao m ac T,e=.returned (.tuple #[v,.int .i64 Sz,.slice aa m ac])/\Pq w1 v ks Sz aa ab ao m ac T ad/\Bl w w1):=zz0 a n c w hn hb ad hE;clear hb hE;go_enter func9,ntmps9;go_wp2_with fail;refine Zq.out.mono ?_;rintro e w0⟨rfl,Jf⟩;subst Jf;clear Zq;by_cases hbig:1048576<n
 ·rw[Qe hbig];clear Xr;go_wp2;go_ret;exact⟨rfl,Qb _ _⟩
 rw[Qf hbig];go_wp2_with fail;refine Xr.out.mono ?_;rintro e w1⟨v,ks,Sz,aa,ab,ao,m,ac,T,rfl,hD,b1⟩;clear Xr hn hbig;have HD:Hid (Pq w1 v ks Sz aa ab ao m ac T ad):=hD;have HI:Hid (Cp 14 #[v,.int .i64 Sz,.slice aa m ac] w1 (Ug w1 (Nj ks Sz T))):=hD.impl;have HC:Hid _:=zmx ks Sz T;clear hD;generalize hp:Nj ks Sz T=p at*;have HP:Hid (Nj ks Sz T=p):=hp;clear hp;go_wp2_with fail;refine HI.out.mono ?_;rintro e w2⟨v2,r2,rfl,Zh,Xh,b2⟩;have HS:Hid (Cp 15 #[v,.int .i64 Sz,.slice aa m ac] w2 (Ug w2 p)):=by
  have:=(HD.out.bw b2).spec;rw[HP.out]at this;exact this
 have Zk:Hid (DbR w2 v2 p.1):=Zh;have Zy:Hid (RpR w2 r2 p.2):=Xh;clear Zh Xh HI;go_wp2_with fail;refine HS.out.mono ?_;rintro e w3⟨v3,r3,rfl,Je,Zo,b3⟩;have Xp:Bl w1 w3:=b2.trans (b3.mono b2.size);have Zb:Bl w0 w3:=b1.trans (Xp.mono b1.size);have Vm:Hid (Pq w3 v ks Sz aa ab ao m ac T ad):=HD.out.bw Xp;have Vd:Hid (DbR w3 v2 p.1):=Zk.out.bw b3;have Vc:Hid (RpR w3 r2 p.2):=Zy.out.bw b3;have Vb:Hid (∀W,Bl w3 W->Bl w0 W):=fun W hW=>Zb.trans (hW.mono Zb.size);have Xq:p.2=[]\/RpS p.2:=by
  rcases HC.out with⟨_,e0⟩|⟨_,_,_,_,_,_,e0,_,hS⟩
  ·exact .inl (by rw[e0])
  ·exact .inr (by rw[e0];exact hS)
 have Vv:p.2.length<=41:=by
  rcases Xq with e|h
  ·rw[e];simp
  ·exact h.2.1
 have Vr:Hid (∀W,Bl w3 W->Cp 17 #[r2,r3] W fun e w'=>e=.returned (.bool true)/\Bl W w'):=fun W hW=>zjk r2 r3 p.2 W (Vc.out.bw hW) (RpR.bw Zo hW) Xq;have Xl:Hid (∀W,Bl w3 W->Cp 18 #[r2] W fun e w'=>e=.returned (.bool (Pl p.2))/\w'=W):=fun W hW=>yli r2 p.2 W (Vc.out.bw hW) Vv;have Xb:Hid (∃k,∀W,Bl w3 W->Cp 23 #[r2] W fun e w'=>e=.returned (.agg #[.int .i64 (Pw p.2).kind,.int .i64 (Pw p.2).n,.string (Pw p.2).s,k])/\Bl W w'):=ylx Vc.out Vv;have Vt:Hid (∀W,Bl w3 W->∀i,i<m->W.cell? ⟨ab,ao+i,none⟩=some (.string (Fa T i))):=fun W hW i hi=>(Vm.out.bw hW).args.cell i hi;have Zf:Hid (0<m->aa=some ⟨ab,ao,none⟩):=Vm.out.args.addr;have Ve:T.length=m:=Vm.out.len;obtain⟨ar,gr,cr,er,_⟩:=Vc.out;clear Je Zo HS HD Zk Zy b1 b2 b3 Xp Zb HP Xq Vv;obtain⟨lr,Xi⟩:∃lr,lr=p.2.length:=⟨_,rfl⟩;have Vw:Hid (lr=p.2.length):=Xi;rw[<-Xi]at er;clear Xi;subst er;go_wp2_with fail;refine(Vr.out _ (Qb _ _)).mono ?_;rintro e w4⟨rfl,b4⟩;by_cases hm:m<4
 ·clear HC Vm Vd Vc Xl Xb Vt Zf Vw Ve;have Jj:(m:Int)<4:=by omega
  go_wp2_with fail;refine(Vr.out _ b4).mono ?_;rintro e w5⟨rfl,b5⟩;have HF:Hid (Bl w0 w5):=Vb.out _ (b4.trans (b5.mono b4.size));clear b4 b5 Vb Vr;go_wp2;go_ret;exact⟨rfl,HF.out⟩
 have Jn:(0:Int)<(m:Int):=by omega
 have Jj:¬(m:Int)<4:=by omega
 obtain rfl:=Zf.out (by omega);have c0:=Vt.out w4 b4 0 (by omega);rw[Qy]at c0;obtain⟨t0,Zc⟩:∃t,t=Fa T 0:=⟨_,rfl⟩;have Xg:Hid (t0=Fa T 0):=Zc;rw[<-Zc]at c0;clear Zc Zf;by_cases hq0:t0=⟨#[90,65,68,68]⟩;rotate_left
 ·have hq:(t0.toList==[90,65,68,68])=false:=by
   have:=Kk.Le hq0;rw[ByteArray.toList_eq ⟨#[90,65,68,68]⟩]at this;exact this
  clear HC Vm Vd Vc Xl Xb Vt Vw Ve Xg hm hq0;go_wp2_with fail;refine(Vr.out _ b4).mono ?_;rintro e w5⟨rfl,b5⟩;have HF:Hid (Bl w0 w5):=Vb.out _ (b4.trans (b5.mono b4.size));clear b4 b5 Vb Vr;go_wp2;go_ret;exact⟨rfl,HF.out⟩
 subst hq0;go_wp2_with fail;refine(Xl.out _ b4).mono ?_;rintro e w5⟨rfl,Jl⟩;subst Jl;clear Xl;obtain⟨ie,Xw⟩:∃b,b=Pl p.2:=⟨_,rfl⟩;have Xk:Hid (ie=Pl p.2):=Xw;rw[<-Xw];clear Xw;rcases ie with _|_;rotate_left
 ·clear HC Vm Vd Vc Xb Vt Vw Ve Xg hm c0 Xk;go_wp2_with fail;refine(Vr.out _ b4).mono ?_;rintro e w5⟨rfl,b5⟩;have HF:Hid (Bl w0 w5):=Vb.out _ (b4.trans (b5.mono b4.size));clear b4 b5 Vb Vr;go_wp2;go_ret;exact⟨rfl,HF.out⟩
 by_cases hl0:lr=0
 ·subst hl0;clear HC Vm Vd Vc Xb Vt Vw Ve Xg hm c0 Xk;go_wp2_with fail;refine(Vr.out _ b4).mono ?_;rintro e w5⟨rfl,b5⟩;have HF:Hid (Bl w0 w5):=Vb.out _ (b4.trans (b5.mono b4.size));clear b4 b5 Vb Vr;go_wp2;go_ret;exact⟨rfl,HF.out⟩
 have Xi:((lr:Int)==0)=false:=by simp;omega
 have Jk:¬(lr:Int)=0:=by omega
 clear Vr;have Zp:IntKind.i64.wrap ((m:Int)-1)=(m:Int)-1:=Kk.wrap_small (by omega) (by have:=Vm.out.few;omega);have Xd:IntKind.i64.wrap ((m:Int)-1-1)=(m:Int)-1-1:=Kk.wrap_small (by omega) (by have:=Vm.out.few;omega);have hT:T=Fa T 0::Fa T 1::T.drop 2:=by
  match T,Ve with
  |x0::x1::A,_=>rfl
  |[],h=>exact absurd h (by simp;omega)
  |[_],h=>exact absurd h (by simp;omega)
 have hA:(T.drop 2).length=m-2:=by rw[Qu,Ve]
 have Zm:Fa (T.drop 2) ((T.drop 2).length-1)=Fa T (m-1):=by
  rw[hA];show(T.drop 2).getD _ _=T.getD _ _;rw[Qa,Qa,List.getElem?_drop,show 2+(m-2-1)=m-1 by omega]
 have Zw:Fa (T.drop 2) ((T.drop 2).length-2)=Fa T (m-2):=by
  rw[hA];show(T.drop 2).getD _ _=T.getD _ _;rw[Qa,Qa,List.getElem?_drop,show 2+(m-2-2)=m-2 by omega]
 generalize ht1:Fa T 1=t1 at*;generalize htm:Fa T (m-1)=tm at*;generalize hts:Fa T (m-2)=ts at*;rw[<-Xg.out]at hT;have Xu:∃k' i c,p=(G0 (Hb ks Sz) k',Fe c)/\k'.name=t1/\k'.val.kind=4/\i<k'.val.rq.length/\Hg k'.val.rq tm 0=((i:Nat):Int)/\(k'.val.rq.getD i rk0).m=tm/\Kk.F1 (k'.val.rq.getD i rk0).s=ts/\Fm p.1=true/\(∀k∈p.1,Hs Sz k=true)/\(0<=Sz/\Sz<=1000000000)/\t1.size<=200/\tm.size<=200/\k'∈p.1:=by
  rcases HC.out with⟨_,e0⟩|⟨_,Vq,Vn,h16,h1,hs,e0,hL,hS⟩
  ·exact absurd (by rw[Vw.out,e0];rfl) hl0
  ·have Xc:=Rb.E7 Vq Sz;have he:=Xk.out.symm;have s1:=hs 1 (by omega);have sm:=hs (m-1) (by omega);rw[ht1]at s1;rw[htm]at sm;rw[e0]at he;rw[<-e0]at hL;rw[hT]at he e0;obtain⟨k',i,c,q1,q2,q3,q4,q5,q6,q7⟩:=ymo Xc (by omega) he;rw[Zm]at q5 q6;rw[Zw]at q7;have e0:p=Lc (Hb ks Sz) Sz (Cm.text 34::t1::T.drop 2):=e0;refine⟨k',i,c,e0.trans q1,q2,q3,q4,q5,q6,q7,hL.ok,hL.live,Vn,s1,sm,?_⟩;rw[e0,q1];exact G4 Xc _
 obtain⟨k',i,c,hp,Zi,Xe,hi,Xz,Xs,Zr,Vq,Vj,Vn,s1,sm,Vg⟩:=Xu;have Zd:=Vm.out.env;have Xt:=fun W hW=>Vt.out W hW 1 (by omega);have Xo:=fun W hW=>Vt.out W hW (m-1) (by omega);have Xx:=fun W hW=>Vt.out W hW (m-2) (by omega);rw[ht1]at Xt;rw[htm]at Xo;rw[hts]at Xx;have Vk:Hid (∀W,Bl w3 W->W.cell? ⟨ab,ao+1,none⟩=some (.string t1)):=Xt;have Vs:Hid (∀W,Bl w3 W->W.cell? ⟨ab,ao+(m-1),none⟩=some (.string tm)):=Xo;have Zz:Hid (∀W,Bl w3 W->W.cell? ⟨ab,ao+(m-2),none⟩=some (.string ts)):=Xx;have Jd:k'.val.rq.length<=20:=(We (((Rb.Ns _).1 Vq).2.2 _ Vg)).nr;have q1:=ymk Vq Vg Xe Sz tm Xz;have q2:=ymn Vq Vg Xe Sz tm Xz;have q3:=ymj Vq Vg Xe Sz (by omega) Jd;have q4:=ymp Vq Vg Xe Sz;rw[Zi]at q1 q2 q3 q4;rw[Zr]at q1;have HG:∀(C:Array Value) (T':List ByteArray) (R:List Rp),C=(T'.map Value.string).toArray->1<=T'.length->T'.length<=16->(∀t∈T',t.size<=200)->Lc p.1 Sz T'=(p.1,R)->Hid (∀W,Bl w3 W->∃W',Hid (W.alloc (.cells C 9)=W')/\Hid (Cp 14 #[v2,.int .i64 Sz,.slice (some ⟨W.heap.size,0,none⟩) T'.length T'.length] W' fun e w'=>∃v r,e=.returned (.tuple #[v,r])/\DbR w' v p.1/\RpR w' r R/\Bl w3 w'/\Bl W w')):=fun C T' R hC h1 h16 hs hR W hW=>ylu C T' hC h1 h16 hs Vd.out Vq Vj Vn Zd hR W hW;have Ze:∀(C:Array Value) (T':List ByteArray) (R:List Rp),C=(T'.map Value.string).toArray->1<=T'.length->T'.length<=16->(∀t∈T',t.size<=200)->Lc p.1 Sz T'=(p.1,R)->Hid (∀W,Bl w3 W->∃W',Hid (W.alloc (.cells C 9)=W')/\Hid (∀X,Bl W' X->Cp 14 #[v2,.int .i64 Sz,.slice (some ⟨W.heap.size,0,none⟩) T'.length T'.length] X fun e w'=>∃v r,e=.returned (.tuple #[v,r])/\DbR w' v p.1/\RpR w' r R/\Bl w3 w'/\Bl W w')):=fun C T' R hC h1 h16 hs hR W hW=>yly C T' hC h1 h16 hs Vd.out Vq Vj Vn Zd hR W hW;have Zs:=Ze #[.string ⟨#[90,83,67,79,82,69]⟩,.string t1,.string tm] [Cm.text 21,t1,tm] _ rfl (by simp) (by simp) (ymm (by decide) s1 sm) q1;have Ja:=Ze #[.string ⟨#[90,82,65,78,75]⟩,.string t1,.string tm] [Cm.text 22,t1,tm] _ rfl (by simp) (by simp) (ymm (by decide) s1 sm) q2;have Zg:=HG #[.string ⟨#[90,82,65,78,71,69]⟩,.string t1,.string ⟨#[48]⟩,.string ⟨#[45,49]⟩] [Cm.text 25,t1,⟨#[48]⟩,⟨#[45,49]⟩] _ rfl (by simp) (by simp) (ymv (by decide) s1 (by decide) (by decide)) q3;have Zn:=HG #[.string ⟨#[90,67,65,82,68]⟩,.string t1] [Cm.text 15,t1] _ rfl (by simp) (by simp) (ymr (by decide) s1) q4;have Xf:(He (k'.val.rq.map Rk.m)).length=k'.val.rq.length+1:=by unfold He;simp
 have Vi:(He (k'.val.rq.map Rk.m))[i]?=some ⟨4,0,tm,[]⟩:=by
  unfold He;rw[List.getElem?_append_left (by simp;exact hi),List.map_map,List.getElem?_map,Qd hi];rw[Qa,Qd hi]at Xs;exact congrArg (fun z=>some (⟨4,0,z,[]⟩:Rp)) Xs
 generalize He (k'.val.rq.map Rk.m)=RL,k'.val.rq.length=nR at*;have Jm:(1:Int)<(m:Int):=by omega
 have Ju:IntKind.i64.wrap ((m:Int)-1)=((m-1:Nat):Int):=by rw[Zp];omega
 have Jy:IntKind.i64.wrap (((m-1:Nat):Int)-1)=((m-2:Nat):Int):=by rw[show((m-1:Nat):Int)-1=(m:Int)-1-1 by omega,Xd];omega
 clear Zp Xd;have Jo:((m-1:Nat):Int)<(m:Int):=by omega
 have Jx:((m-2:Nat):Int)<(m:Int):=by omega
 have Jg:(0:Int)<=((m-1:Nat):Int):=by omega
 have Ji:(0:Int)<=((m-2:Nat):Int):=by omega
 clear HC Vm Vd Xb Vt Vw Ve Xg Xk hT hm hl0 hA Zm Zw ht1 htm hts hp Zi Xe Xz Xs Zr Vq Vj Vn s1 sm Vg Zd Xt Xo Xx q1 q2 q3 q4 HG Ze;generalize m-1=l,m-2=l2 at*;obtain⟨W1,E1,H1⟩:=Zs.out w5 b4;have Za:Bl w5 W1:=by rw[<-E1.out];exact(Qb _ w5).alloc (Qc _) _
 have ka:w5.cell? ⟨ab,ao+1,none⟩=some (.string t1)/\w5.cell? ⟨ab,ao+l,none⟩=some (.string tm):=⟨Vk.out w5 (b4),Vs.out w5 (b4)⟩;have kb:W1.cell? ⟨ab,ao+1,none⟩=some (.string t1)/\W1.cell? ⟨ab,ao+l,none⟩=some (.string tm):=⟨Vk.out W1 (b4.trans (Za.mono b4.size)),Vs.out W1 (b4.trans (Za.mono b4.size))⟩;have c0:=Vk.out w5 b4;have c1:=Vs.out w5 b4;have EW:w5.alloc (.cells #[.string ⟨#[90,83,67,79,82,69]⟩,.string t1,.string tm] 9)=W1:=E1.out;clear Zs;go_wp2;go_region_held3 (fun W=>W.cell? ⟨ab,ao+1,none⟩=some (.string t1)/\W.cell? ⟨ab,ao+l,none⟩=some (.string tm))
  (first|exact ka|exact kb|exact kc) (first
  |(go_at_call 14;refine(H1.out _ (Qb _ W1).drew).mono ?_;rintro e Vf⟨v1,r1,rfl,-,Zx,Vo,n1⟩;have kc:Vf.cell? ⟨ab,ao+1,none⟩=some (.string t1)/\Vf.cell? ⟨ab,ao+l,none⟩=some (.string tm):=⟨Vk.out Vf (Vo),Vs.out Vf (Vo)⟩))
 obtain⟨k1,Vh⟩:=yld (x:=⟨4,0,ts,[]⟩) Zx rfl;have Vh:Hid (∀W,Bl Vf W->_):=Vh;clear Zx;clear E1 H1 n1 EW Za ka kb kc c0 c1;obtain⟨W2,E2,H2⟩:=Ja.out Vf Vo;have Xv:Bl Vf W2:=by rw[<-E2.out];exact(Qb _ Vf).alloc (Qc _) _
 have ka:Vf.cell? ⟨ab,ao+1,none⟩=some (.string t1)/\Vf.cell? ⟨ab,ao+l,none⟩=some (.string tm):=⟨Vk.out Vf (Vo),Vs.out Vf (Vo)⟩;have kb:W2.cell? ⟨ab,ao+1,none⟩=some (.string t1)/\W2.cell? ⟨ab,ao+l,none⟩=some (.string tm):=⟨Vk.out W2 (Vo.trans (Xv.mono Vo.size)),Vs.out W2 (Vo.trans (Xv.mono Vo.size))⟩;have c0:=Vk.out Vf Vo;have c1:=Vs.out Vf Vo;have EW:Vf.alloc (.cells #[.string ⟨#[90,82,65,78,75]⟩,.string t1,.string tm] 9)=W2:=E2.out;clear Ja;go_wp2;go_region_held3 (fun W=>W.cell? ⟨ab,ao+1,none⟩=some (.string t1)/\W.cell? ⟨ab,ao+l,none⟩=some (.string tm))
  (first|exact ka|exact kb|exact kc) (first
  |(go_at_call 14;refine(H2.out _ (Qb _ W2).drew).mono ?_;rintro e Vu⟨v2,r2,rfl,-,Xh,Xm,n2⟩;have kc:Vu.cell? ⟨ab,ao+1,none⟩=some (.string t1)/\Vu.cell? ⟨ab,ao+l,none⟩=some (.string tm):=⟨Vk.out Vu (Xm),Vs.out Vu (Xm)⟩))
 have Vh:Hid (∀W,Bl Vu W->_):=fun W hW=>Vh.out W (n2.trans (hW.mono n2.size));obtain⟨k2,Vp⟩:=yld (x:=⟨3,(i:Int),⟨#[]⟩,[]⟩) Xh rfl;have Vp:Hid (∀W,Bl Vu W->_):=Vp;clear Xh;clear E2 H2 n2 EW Xv ka kb kc c0 c1;have c1:=Vk.out Vu Xm;obtain⟨W3,E3,H3⟩:=Zg.out Vu Xm;clear Zg;go_wp2_with fail;rw[E3.out];refine H3.out.mono ?_;rintro e Vy⟨v3,r3,rfl,-,⟨a3,g3,c3,e3,h3⟩,Zv,n3⟩;rw[Xf]at e3;have Xa:=h3.cell i (by omega);have Zj:Vy.cell? ⟨g3,i*4+2,none⟩=some (.string tm):=by
  have:=Xa.s;rw[Qd (by omega)]at Vi;injection Vi with Vi;rw[Vi]at this;exact this
 obtain⟨Jh,Jc⟩:=h3.addr (by omega);subst e3;subst Jh;have Vz:Hid (∀W,Bl Vy W->W.cell? ⟨g3,i*4+2,none⟩=some (.string tm)):=fun W hW=>(hW.cell (p:=⟨g3,i*4+2,none⟩) Jc).trans Zj;have Vh:Hid (∀W,Bl Vy W->_):=fun W hW=>Vh.out W (n3.trans (hW.mono n3.size));have Vp:Hid (∀W,Bl Vy W->_):=fun W hW=>Vp.out W (n3.trans (hW.mono n3.size));clear Xa;clear E3 H3 n3 c1 Zj h3 Jc;have c1:=Vk.out Vy Zv;obtain⟨W4,E4,H4⟩:=Zn.out Vy Zv;clear Zn;go_wp2_with fail;rw[E4.out];refine H4.out.mono ?_;rintro e Xj⟨v4,r4,rfl,-,Zl,Jb,n4⟩;have Vh:Hid (∀W,Bl Xj W->_):=fun W hW=>Vh.out W (n4.trans (hW.mono n4.size));have Vp:Hid (∀W,Bl Xj W->_):=fun W hW=>Vp.out W (n4.trans (hW.mono n4.size));have Vz:Hid (∀W,Bl Xj W->_):=fun W hW=>Vz.out W (n4.trans (hW.mono n4.size));obtain⟨k4,Vx⟩:=yld (x:=⟨3,(nR:Int),⟨#[]⟩,[]⟩) Zl rfl;have Vx:Hid (∀W,Bl Xj W->_):=Vx;clear E4 H4 Zl n4 c1;have Jp:=ylp;have Js:=yls;have Jr:=ylr;go_wp2_with fail;refine(Vp.out _ (Qb _ _)).mono ?_;rintro e Va⟨rfl,n6⟩;have Xn:=Jb.trans (n6.mono Jb.size);have Vh:Hid (∀W,Bl Va W->_):=fun W hW=>Vh.out W (n6.trans (hW.mono n6.size));have Vp:Hid (∀W,Bl Va W->_):=fun W hW=>Vp.out W (n6.trans (hW.mono n6.size));have Vx:Hid (∀W,Bl Va W->_):=fun W hW=>Vx.out W (n6.trans (hW.mono n6.size));have Vz:Hid (∀W,Bl Va W->_):=fun W hW=>Vz.out W (n6.trans (hW.mono n6.size));have Jq:IntKind.i64.wrap ((nR:Int)+1)=(nR:Int)+1:=Kk.wrap_small (by omega) (by omega);have Jv:(0:Int)<=(i:Int):=by omega
 have Jt:(i:Int)<(nR:Int):=by omega
 have Jw:(i:Int)<((nR+1:Nat):Int):=by omega
 have Zu:Hid (Bl w3 Va):=Xn;have cp:=cell_regrown (Vz.out Va (Qb _ _));clear Vz n6;have cl:=cell_regrown (Vs.out Va Xn);have cs:=cell_regrown (Zz.out Va Xn);have y0:∀d os,Calls prog 23 #[r1] (grow (redrawn Va d) os) fun e w''=>e=.returned (.agg #[.int .i64 4,.int .i64 0,.string ts,k1])/\∃p:Regrown,w''=grow (redrawn Va p.d) p.os:=fun d os=>Calls.regrown_of (Vh.out _ (below_regrown Va d os));have y1:∀d os,Calls prog 23 #[r2] (grow (redrawn Va d) os) fun e w''=>e=.returned (.agg #[.int .i64 3,.int .i64 (i:Int),.string ⟨#[]⟩,k2])/\∃p:Regrown,w''=grow (redrawn Va p.d) p.os:=fun d os=>Calls.regrown_of (Vp.out _ (below_regrown Va d os));have y2:∀d os,Calls prog 23 #[r4] (grow (redrawn Va d) os) fun e w''=>e=.returned (.agg #[.int .i64 3,.int .i64 (nR:Int),.string ⟨#[]⟩,k4])/\∃p:Regrown,w''=grow (redrawn Va p.d) p.os:=fun d os=>Calls.regrown_of (Vx.out _ (below_regrown Va d os));clear Vh Vp Vx;clear Xn Vk Vs Zz Vi Xf;go_wp2;refine wp_region_quiet_below (by kernel_rfl) (by kernel_rfl) ?_;repeat(first|go_big_quiet_skip|quiet_step (first|with_reducible exact y0 _ _|with_reducible exact y1 _ _|with_reducible exact y2 _ _)|(go_big_quiet_want;go_big_quiet_op;go_big_quiet_on))
 refine wpQuiet_nil ?_;intro _ hw';obtain⟨⟨dq,Zt⟩,Xy⟩:=hw';subst Xy;have bq:=below_regrown Va dq Zt;have HF:Hid (Bl w0 _):=Vb.out _ (Zu.out.trans (bq.mono Zu.out.size));generalize grow (redrawn Va dq) Zt=wq at*;go_wp2;go_ret;exact⟨rfl,HF.out⟩
end Go.Proofs.YtokafonppgppdaaGreatDoor.Er

