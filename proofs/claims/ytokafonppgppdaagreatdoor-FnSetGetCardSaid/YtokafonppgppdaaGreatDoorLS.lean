import Derived.Test.YtokafonppgppdaaGreatDoorDe
import Derived.Test.YtokafonppgppdaaGreatDoorR56
set_option maxHeartbeats 8000000
set_option maxRecDepth 100000
namespace Go.Proofs.YtokafonppgppdaaGreatDoor.Er
open Tryz
open Go.RowKit Go.Sort
variable {w w' w1 W:World} {p:List Ke×List Rp} {g B ab ao m ac:Nat} {a aa:Option Addr} {R:List Rp} {v r:Value} {k:Ke} {c:Cm} {th:Bool} {T:List ByteArray} {L:List KV} {e:Ending} {ad:Nat->Addr}
theorem ygb(a:Option Addr)(n c:Nat)(w:World)(hn:n<=9223372036854775807):Calls prog 12 #[.slice a n c] w fun e w'=>e=.returned (.bool (decide (1048576<n)))/\w'=w:=by
 go_enter func12,ntmps12;go_wp2;go_ret;exact⟨congrArg (fun b=>Ending.returned (Value.bool b)) (decide_eq_decide.2 (by omega)),rfl⟩
structure Ty (w:World) (p:Option Addr) (g:Nat) (ks:List Nat):Prop where
 addr:0<ks.length->p=some ⟨g,0,none⟩/\g<w.heap.size
 cell:∀i (hi:i<ks.length),w.cell? ⟨g,i,none⟩=some (.int .i64 ((ks[i]:Nat):Int))
theorem Ty.bw{p:Option Addr}{ks:List Nat}(h:Ty w p g ks)(hb:Bl w w'):Ty w' p g ks:=
 ⟨fun h0=>⟨(h.addr h0).1,Qr (h.addr h0).2 hb.size⟩,fun i hi=>(hb.cell (p:=⟨g,i,none⟩) (h.addr (by omega)).2).trans (h.cell i hi)⟩
structure Ac (w:World) (g i:Nat) (r:Rp):Prop where
 k:w.cell? ⟨g,i*4,none⟩=some (.int .i64 r.kind)
 n:w.cell? ⟨g,i*4+1,none⟩=some (.int .i64 r.n)
 s:w.cell? ⟨g,i*4+2,none⟩=some (.string r.s)
 c:∃p pg pc,w.cell? ⟨g,i*4+3,none⟩=some (.slice p r.kids.length pc)/\Ty w p pg r.kids
structure T5 (w:World) (a:Option Addr) (g:Nat) (R:List Rp):Prop where
 addr:0<R.length->a=some ⟨g,0,none⟩/\g<w.heap.size
 cell:∀i (hi:i<R.length),Ac w g i R[i]
theorem T5.bw(h:T5 w a g R)(hb:Bl w w'):T5 w' a g R:=
 ⟨fun h0=>⟨(h.addr h0).1,Qr (h.addr h0).2 hb.size⟩,fun i hi=>by
  have hg:=(h.addr (by omega)).2;obtain⟨k,n,s,p,pg,pc,c,hk⟩:=h.cell i hi;exact⟨(hb.cell (p:=⟨g,i*4,none⟩) hg).trans k,(hb.cell (p:=⟨g,i*4+1,none⟩) hg).trans n,(hb.cell (p:=⟨g,i*4+2,none⟩) hg).trans s,p,pg,pc,(hb.cell (p:=⟨g,i*4+3,none⟩) hg).trans c,hk.bw hb⟩⟩
theorem yfp(h:Fr w B v R):∃a g c,v=.slice a R.length c/\T5 w a g R:=by
 obtain⟨M,rfl,o,hk⟩:=h;have hl:(M.map RV.r).length=M.length:=Qp _;by_cases h0:M.length=0
 ·obtain⟨a,c,e⟩:=Fx o;exact⟨a,0,c,by rw[hl];exact e,fun h=>by omega,fun i hi=>by omega⟩
 ·obtain⟨g,c,e,h1,h2,_⟩:=zur o 0 (by omega);refine⟨_,g,c,by rw[hl];exact e,fun _=>⟨rfl,h2⟩,fun i hi=>?_⟩;obtain⟨g',c',e',_,_,q0,q1,q2,q3⟩:=zur o i (by omega);rw[e]at e';injection e' with e1;injection e1 with e2;injection e2 with e3;subst e3;obtain⟨p,pg,pc,ek,ha,Sz⟩:=zz3 (hk M[i] (Qv _));rw[ek]at q3;rw[List.getElem_map];exact⟨q0,q1,q2,p,pg,pc,q3,fun h=>⟨(ha h).1,(ha h).2.2⟩,Sz⟩
theorem zp7(a a':Option Addr)(b b' c c':Nat)(ks:List Nat)(w:World)(h:Ty w a b ks)(h':Ty w a' b' ks)(hn:ks.length<=1048577):
  Calls prog 57 #[.slice a ks.length c,.slice a' ks.length c'] w fun e w'=>e=.returned (.bool true)/\∃q,w'=w.drewN q:=by
 have HK:Hid (∀i (hi:i<ks.length),w.cell? ⟨b,i,none⟩=some (.int .i64 ((ks[i]:Nat):Int))/\w.cell? ⟨b',i,none⟩=some (.int .i64 ((ks[i]:Nat):Int))):=fun i hi=>⟨h.cell i hi,h'.cell i hi⟩;have HA:Hid (0<ks.length->a=some ⟨b,0,none⟩/\a'=some ⟨b',0,none⟩):=fun h0=>⟨(h.addr h0).1,(h'.addr h0).1⟩;have HG:Hid (∀i (hi:i<ks.length),∃z:Int,z=((ks[i]:Nat):Int)):=fun i hi=>⟨_,rfl⟩;clear h h';obtain⟨n,Sz⟩:∃n,ks.length=n:=⟨_,rfl⟩;have HC:Hid (∀i,i<n->∃z:Int,w.cell? ⟨b,i,none⟩=some (.int .i64 z)/\w.cell? ⟨b',i,none⟩=some (.int .i64 z)):=fun i hi=>⟨_,HK.out i (by omega)⟩;rw[Sz]at HA hn ⊢;clear HK HG Sz;go_enter func57,ntmps57;go_wp2;go_loopw [5] (fun i wr=>∃(k q:Nat),k<=n/\i=.int .i64 k/\wr=w.drewN q) (fun i _=>n-(intOf i).toNat)
 case atStart=>exact⟨0,0,by omega,rfl,rfl⟩
 case round=>
  obtain⟨k,q,hk,rfl,rfl⟩:=hrel;by_cases hlt:k<n
  ·obtain⟨rfl,rfl⟩:=HA.out (by omega);obtain⟨z,hc,Va⟩:=HC.out k hlt;go_wp2;go_quiet ((fail));go_wp2;go_roundw
   case rel=>exact⟨k+1,_,by omega,by go_num,rfl⟩
   case measure=>simp[intOf];omega
  ·go_wp2;go_ret;exact⟨rfl,q,rfl⟩
theorem Ty.drew{p:Option Addr}{ks:List Nat}(h:Ty w p g ks)(q:Nat):Ty (w.drewN q) p g ks:=h.bw (Hp.below_drewN w q)
theorem yc4(w:World)(a b:Nat):(w.drewN a).drewN b=w.drewN (a+b):=by
 simp[World.drewN,Nat.add_assoc]
theorem zqk(a a':Option Addr)(b b' c c':Nat)(R:List Rp)(w:World)(h:T5 w a b R)(h':T5 w a' b' R)(hn:R.length<=1048577)(hk:∀r∈R,r.kids.length<=1048577):
  Calls prog 17 #[.slice a R.length c,.slice a' R.length c'] w fun e w'=>e=.returned (.bool true)/\∃q,w'=w.drewN q:=by
 have HA:Hid (0<R.length->a=some ⟨b,0,none⟩/\a'=some ⟨b',0,none⟩):=fun h0=>⟨(h.addr h0).1,(h'.addr h0).1⟩;have HC:Hid (∀i,i<R.length->∃r:Rp,Ac w b i r/\Ac w b' i r/\r.kids.length<=1048577):=fun i hi=>⟨R[i],h.cell i hi,h'.cell i hi,hk _ (Qv hi)⟩;clear h h' hk;generalize R.length=n at*;go_enter func17,ntmps17;go_wp2;go_loopw [5] (fun i wr=>∃(k q:Nat),k<=n/\i=.int .i64 k/\wr=w.drewN q) (fun i _=>n-(intOf i).toNat)
 case atStart=>exact⟨0,0,by omega,rfl,rfl⟩
 case round=>
  obtain⟨k,q,hk,rfl,Sz⟩:=hrel;by_cases hlt:k<n
  ·obtain⟨rfl,rfl⟩:=HA.out (by omega);obtain⟨r,⟨c0,c1,c2,p,pg,pc,c3,c4⟩,⟨d0,d1,d2,x,xg,xc,d3,d4⟩,hr⟩:=HC.out k hlt;have HI:∀m,Calls prog 57 #[.slice p r.kids.length pc,.slice x r.kids.length xc] (wr.drewN m) fun e w'=>e=.returned (.bool true)/\∃m',w'=(wr.drewN m).drewN m':=fun m=>by
    rw[Sz];exact zp7 p x pg xg pc xc r.kids _ ((c4.drew q).drew m) ((d4.drew q).drew m) hr
   have cw:∀z,wr.cell? z=w.cell? z:=fun z=>by rw[Sz];rfl
   rw[<-cw]at c0 c1 c2 c3 d0 d1 d2 d3;have HQ:Hid (wr=w.drewN q):=Sz;clear c4 d4 cw Sz;obtain⟨rk,rn,rs,rc⟩:=r;dsimp only at c0 c1 c2 c3 d0 d1 d2 d3 HI hr;generalize rc.length=m at*;go_wp2;go_quiet ((exact Calls.quiet_of (HI _)));go_wp2;go_roundw
   case rel=>exact⟨k+1,_,by omega,by go_num,by rw[HQ.out,yc4]⟩
   case measure=>simp[intOf];omega
  ·have HQ:Hid (wr=w.drewN q):=Sz;clear Sz;go_wp2;go_ret;exact⟨rfl,q,HQ.out⟩
theorem Ly(a:Option Addr)(g c:Nat)(R:List Rp)(w:World)(h:T5 w a g R)(hn:R.length<=1048577):Calls prog 18 #[.slice a R.length c] w fun e w'=>e=.returned (.bool (decide (R.length=1)&&decide ((R.getD 0 ⟨0,0,⟨#[]⟩,[]⟩).kind=2)))/\w'=w:=by
 by_cases h1:R.length=1
 ·obtain⟨r,rfl⟩:=List.length_eq_one_iff.1 h1;have hc:=(h.cell 0 (by simp)).k;obtain⟨rfl,_⟩:=h.addr (by simp);obtain⟨rk,rn,rs,rc⟩:=r;have hc:w.cell? ⟨g,0,none⟩=some (.int .i64 rk):=hc;clear h h1 hn;show Calls prog 18 #[.slice (some ⟨g,0,none⟩) 1 c] w fun e w'=>e=.returned (.bool (decide (rk=2)))/\w'=w;by_cases h2:rk=2
  ·subst h2;go_enter func18,ntmps18;go_wp2;go_ret;exact⟨rfl,rfl⟩
  ·rw[Qf h2];go_enter func18,ntmps18;go_wp2;go_ret;exact⟨F0 (by simp[h2]),rfl⟩
 ·rw[Qf h1,Q0];clear h;generalize R.length=n at*;have Sz:¬((n:Int)=1):=by omega
  go_enter func18,ntmps18;go_wp2;go_ret;exact⟨rfl,rfl⟩
def Pw (R:List Rp):Rp:=if R.length=1 then R.getD 0 ⟨0,0,⟨#[]⟩,[]⟩ else ⟨0,0,⟨#[]⟩,[]⟩
def Y6 (w:World) (e:Ending) (w':World):Prop:=
 ∃B v L now aa ab ao ac T,e= .returned (.tuple #[v,.int .i64 now,.slice aa (List.length T) ac])/\Fv w' B v L/\O7 (L.map KV.key)/\L.length<=83/\Fs w' aa ab ao T.length T/\T.length<=6/\T.length<=ac/\(∀s∈T,s.size<=20)/\Bl w w'
theorem zvn{rb n c:Nat}{M:List KV}(hrb:w.heap.size<=rb)(b1:Bl w w1)(hS:Mz w1 rb a n c v M w'):Bl w w':=by
 obtain⟨g1,g2,g3,g4,g5⟩:=hS.grown;exact b1.trans ⟨g1,g2,g3,g4,fun k hk=>g5 k (Qr hk b1.size) (by intro h;injection h with h;omega)⟩
theorem ydt(a:Option Addr)(n c:Nat)(w:World)(hn:n<=9223372036854775807)(hb:BytesIn w a n w.heap.size):
  Calls prog 13 #[.slice a n c] w (Y6 w):=by
 have HO:Hid (∃rb,w.heap.size<=rb/\Cp 39 #[.slice a n c] w fun e w'=>e=.returned (.pointer (some ⟨rb,0,none⟩))/\Rd w' rb a n c/\Bl w w'):=⟨w.heap.size,Qc _,yeb a n c w hn hb⟩;clear hb;obtain⟨rb,Vk,HO⟩:=HO.out;have Vf:Hid (w.heap.size<=rb):=Vk;clear Vk;go_enter func13,ntmps13;go_wp2_with fail;refine HO.mono ?_;rintro e w1⟨rfl,Vi,b1⟩;have Va:rb<w1.heap.size:=by
  obtain⟨p,_,hr⟩:=Vi.row;exact hr.lt
 have Vg:Hid (Bl w w1):=b1;clear b1 HO;go_wp2_with fail;refine(yiv rb a n c w1 Vi Va).mono ?_;rintro e w2⟨v,M,rfl,hS,hM⟩;have Vj:Hid (Mz w1 rb a n c v M w2):=hS;have HM:Hid (M.length<=83):=hM;clear hS hM Vi;go_wp2_with fail;refine(Ww rb a n c 9 w2 Vj.out.rd (by omega) (by omega)).mono ?_;rintro e w3⟨k,rfl,k0,k1,r3,g3⟩;have Vh:Hid (Mz w1 rb a n c v M w3):=Vj.out.read Va r3 g3;clear Vj r3 g3;go_wp2_with fail;refine(Pd rb a n c 24 w3 Vh.out.rd (by omega) (by omega)).mono ?_;rintro e w4⟨b4,rfl,r4,g4⟩;have Vb:Hid (Mz w1 rb a n c v M w4):=Vh.out.read Va r4 g4;clear Vh r4 g4;cases b4 with
 |false=>
  go_wp2_with fail;refine(Y7 rb a n c w4 Vb.out.rd (Vb.out.lt Va)).mono ?_;rintro e w5⟨x,B,off,Vd,ss,rfl,hs,hl,Vc,r5,g5,hz⟩;have Sz:Hid (Mz w1 rb a n c v M w5):=Vb.out.read Va r5 g5;have HF:Hid (Y6 w (.returned (.tuple #[v,.int .i64 k,.slice x ss.length Vd])) w5):=⟨_,v,M,k,x,B,off,Vd,ss,rfl,Sz.out.own,Sz.out.fit,HM.out,hs,hl,Vc,hz,zvn Vf.out Vg.out Sz.out⟩;clear hs hz r5 g5 Vb Sz HM Vg Vf;generalize ss.length=m at*;go_wp2;go_ret3;exact HF.out
 |true=>
  go_wp2_with fail;refine(Hp.Cr rb a n c 0 1000000000 w4 Vb.out.rd (by omega) (by omega) (by omega)).mono ?_;rintro e w8⟨d,rfl,Vm,Vn,r8,g8⟩;have Ve:Hid (Mz w1 rb a n c v M w8):=Vb.out.read Va r8 g8;clear Vb r8 g8;go_wp2_with fail;refine(Y7 rb a n c w8 Ve.out.rd (Ve.out.lt Va)).mono ?_;rintro e w5⟨x,B,off,Vd,ss,rfl,hs,hl,Vc,r5,g5,hz⟩;have Sz:Hid (Mz w1 rb a n c v M w5):=Ve.out.read Va r5 g5;have HF:Hid (Y6 w (.returned (.tuple #[v,.int .i64 d,.slice x ss.length Vd])) w5):=⟨_,v,M,d,x,B,off,Vd,ss,rfl,Sz.out.own,Sz.out.fit,HM.out,hs,hl,Vc,hz,zvn Vf.out Vg.out Sz.out⟩;clear hs hz r5 g5 Ve Sz HM Vg Vf;generalize ss.length=m at*;go_wp2;go_ret3;exact HF.out
open Go.RowKit
open Rb (Ns C4 W9)
def Pl (R:List Rp):Bool:=decide (R.length=1)&&decide ((R.getD 0 ⟨0,0,⟨#[]⟩,[]⟩).kind=2)
theorem T3{k n:Int}{s:ByteArray}(hk:k≠2):Pl [⟨k,n,s,[]⟩]=false:=by
 unfold Pl;simp[hk]
structure Left (ks:List Ke) (now:Int) (x:List Ke×List Rp):Prop where
 err:Pl x.2=true->x.1=ks
 ok:Fm x.1=true
 live:∀k∈x.1,Hs now k=true
section
variable {ks : List Ke} {now : Int}
theorem Tj(h:Fm ks=true)(hl:∀k∈ks,Hs now k=true)(R:List Rp):Left ks now (ks,R):=⟨fun _=>rfl,h,hl⟩
theorem zqt(h:Fm ks=true)(hl:∀k∈ks,Hs now k=true)(nm:ByteArray)(hR:Pl R=false):Left ks now (G5 ks nm,R):=
 ⟨fun e=>(by rw[hR]at e;cases e),C4 h nm,fun k hk=>hl k (List.mem_filter.1 hk).1⟩
theorem zlx(hl:∀k∈ks,Hs now k=true)(hk:Hs now k=true)(hs:Fm (G0 ks k)=true)(hR:Pl R=false):Left ks now (G0 ks k,R):=
 ⟨fun e=>(by rw[hR]at e;cases e),hs,fun y hy=>by
  rcases Df hy with q|q
  ·exact hl y q
  ·rw[q];exact hk⟩
theorem Wk(h:Fm ks=true)(hl:∀k∈ks,Hs now k=true)(hk:Hs now k=true)(hR:Pl R=false):Left ks now (Fj ks k R):=by
 unfold Fj;split
 ·exact zqt h hl _ hR
 ·split
  ·rename_i hs;exact zlx hl hk hs hR
  ·exact Tj h hl _
theorem zt9(h:Fm ks=true)(hl:∀k∈ks,Hs now k=true)(hk:k∈ks){d:Int}(h0:0<=d)(h1:d<=1000000000)(ha:Hs now (k.withDue d)=true)(hR:Pl R=false):Left ks now (G0 ks (k.withDue d),R):=by
 refine zlx hl ha ?_ hR;have hq:Lw ks:=T8 h;have q:=An hq hk h0 h1;rw[W9 h,Qe q.1,Bool.and_true];have:=hq.2 k hk;unfold Hh Lp at this ⊢;simp only[Qh,decide_eq_true_eq]at this ⊢;exact⟨this.1,this.2.1,h0,h1⟩
theorem ybe(h:Fm ks=true)(hl:∀k∈ks,Hs now k=true)(hk:Hs now k=true):Left ks now (Ol c ks k th T):=by
 unfold Ol;split<;>repeat(first|exact Tj h hl _|exact Wk h hl (k:=_) (by exact hk) (T3 (by decide))|split)
theorem zwa(h:Fm ks=true)(hl:∀k∈ks,Hs now k=true)(hk:Hs now k=true):Left ks now (Od c ks k th T):=by
 unfold Od;split<;>repeat(first|exact Tj h hl _|exact Wk h hl (k:=_) (by exact hk) (T3 (by decide))|split)
theorem ybj(h:Fm ks=true)(hl:∀k∈ks,Hs now k=true)(hk:Hs now k=true):Left ks now (Om c ks k T):=by
 unfold Om;split<;>repeat(first|exact Tj h hl _|exact Wk h hl (k:=_) (by exact hk) (T3 (by decide))|split)
theorem zy8(h:Fm ks=true)(hl:∀k∈ks,Hs now k=true)(hk:Hs now k=true):Left ks now (M5 c ks k T):=by
 unfold M5;split<;>repeat(first|exact Tj h hl _|exact Wk h hl (k:=_) (by exact hk) (T3 (by decide))|split)
theorem ya3{x:Int}(hx:1<=x):Hs now (k.withDue (now+x))=true:=by
 unfold Hs Ke.withDue;simp only[Bool.or_eq_true,decide_eq_true_eq];exact .inr (by omega)
theorem yew(h:Fm ks=true)(hl:∀k∈ks,Hs now k=true)(h1:k.due≠0->k∈ks)(h2:th=true->k∈ks)(hn:0<=now/\now<=1000000000):Left ks now (anyM c ks k th now T):=by
 have hz:∀nm t,Hs now (F5 nm t 0)=true:=fun nm t=>rfl;have Sz:∀nm t x,1<=x->Hs now (F5 nm t (now+x))=true:=fun nm t x hx=>by
  unfold Hs F5;simp only[Bool.or_eq_true,decide_eq_true_eq];exact .inr (by omega)
 unfold anyM;split<;>repeat(first|exact Tj h hl _|exact Wk h hl (hz _ _) (T3 (by decide))|exact Wk h hl (Sz _ _ _ (by omega)) (T3 (by decide))|exact zt9 h hl (h1 (by assumption)) (by omega) (by omega) rfl (T3 (by decide))|exact zt9 h hl (h2 (by assumption)) (by omega) (by omega) (ya3 (by omega)) (T3 (by decide))|exact zqt h hl _ (T3 (by decide))|split)
theorem Ir:∀(T:List ByteArray) (s:List Ke×Nat),Fm s.1=true->(∀k∈s.1,Hs now k=true)->Fm (T.foldl (Ni true) s).1=true/\∀k∈(T.foldl (Ni true) s).1,Hs now k=true
 | [],s,a,b=>⟨a,b⟩
 |t::T,s,a,b=>by
  rw[List.foldl_cons];refine Ir T _ ?_ ?_<;>unfold Ni<;>split
  ·exact a
  ·exact C4 a t
  ·exact b
  ·exact fun k hk=>b k (List.mem_filter.1 hk).1
theorem ybq(h:Fm ks=true)(hl:∀k∈ks,Hs now k=true):Left ks now (Oj c ks T):=by
 cases c using Cm.elim
 case DEL=>
  obtain⟨a,b⟩:=Ir T (ks,0) h hl;exact⟨fun e=>(by cases e),a,b⟩
 case FLUSHALL=>exact⟨fun e=>(by cases e),rfl,fun k hk=>(by cases hk)⟩
 all_goals exact Tj h hl _
theorem znv(h:Fm ks=true)(hl:∀k∈ks,Hs now k=true)(hk:Hs now k=true)(h1:k.due≠0->k∈ks)(h2:th=true->k∈ks)(hn:0<=now/\now<=1000000000):Left ks now (Mh c ks k th now T):=by
 unfold Mh;split
 ·exact ybe h hl hk
 ·exact zwa h hl hk
 ·exact ybj h hl hk
 ·exact zy8 h hl hk
 ·exact yew h hl h1 h2 hn
theorem left_done(h:Fm ks=true)(hl:∀k∈ks,Hs now k=true)(hn:0<=now/\now<=1000000000):Left ks now (Lc ks now T):=by
 unfold Lc;split
 ·exact Tj h hl _
 ·split
  ·split
   ·exact ybq h hl
   ·unfold Np;split
    ·exact znv h hl rfl (fun e=>absurd rfl e) (fun e=>by cases e) hn
    ·rename_i hf;split
     ·exact Tj h hl _
     ·have hm:ks.getD (Lm ks (Fa T.tail 0) 0).toNat ke0∈ks:=by
       rcases Ba ks (Fa T.tail 0) 0 with e|⟨i,hi,e⟩
       ·exact absurd (by rw[e];decide) hf
       ·rw[e,Int.toNat_natCast,Qq,Qa,Qd hi];exact Qv hi
      exact znv h hl (hl _ hm) (fun _=>hm) (fun _=>hm) hn
  ·exact Tj h hl _
end
theorem zw5{ks:List Ke}{now:Int}:∀k∈Hb ks now,Hs now k=true:=fun _ hk=>(List.mem_filter.1 hk).2
theorem zt0{ks:List Ke}{now:Int}(h:∀k∈ks,Hs now k=true):Hb ks now=ks:=List.filter_eq_self.2 h
theorem Fp:∀l:List UInt8,bytesBefore l l=false
 |[]=>rfl
 |x::l=>by
  unfold bytesBefore;simp[Fp l]
theorem H6{ks:List Ke}(h:Ri.UpK ks):ks.Pairwise fun x y=>x.name≠y.name:=
 List.Pairwise.imp (fun {x y} hxy e=>by rw[e,Fp]at hxy;cases hxy) h
theorem Im:∀{ks:List Ke}{k:Ke}(s:Nat),(ks.Pairwise fun x y=>x.name≠y.name)->k∈ks->∃i,Lm ks k.name s=((s+i:Nat):Int)/\ks.getD i ke0=k
 |[],_,_,_,h=>by cases h
 |x::ks,k,s,hp,h=>by
  unfold Lm;by_cases e:x.name=k.name
  ·rw[if_pos e];refine⟨0,rfl,?_⟩;rcases List.mem_cons.1 h with q|q
   ·exact q.symm
   ·exact absurd e ((List.pairwise_cons.1 hp).1 k q)
  ·rw[if_neg e];rcases List.mem_cons.1 h with q|q
   ·exact absurd (by rw[q]) e
   ·obtain⟨i,h1,h2⟩:=Im (s+1) (List.pairwise_cons.1 hp).2 q;exact⟨i+1,by rw[h1];congr 1;omega,h2⟩
theorem Lt{ks:List Ke}(h:Fm ks=true)(hk:k∈ks)(now:Int)(A:List ByteArray)(hc:c.kind=0\/k.val.kind=(c.kind:Int)):Np c ks now (k.name::A)=Mh c ks k true now (k.name::A):=by
 obtain⟨i,h1,h2⟩:=Im 0 (H6 (Ri.Wb h)) hk;unfold Np;have ea:Fa (k.name::A) 0=k.name:=rfl;rw[ea,h1,if_neg (by omega),Int.toNat_natCast,Qq,h2,if_neg (by omega)]
theorem ylq:(Cm.all.all fun c=>decide (Nn (H9 c.text)=some c))=true:=by kernel_rfl
theorem ylz(c:Cm):c∈Cm.all:=by
 revert c;decide
theorem Hq(c:Cm)(ks:List Ke)(now:Int)(A:List ByteArray):Lc ks now (c.text::A)=if c.fits A.length=true then(if c.many=true then Oj c ks A else Np c ks now A) else(ks,Fl Pk):=by
 unfold Lc;have ea:Fa (c.text::A) 0=c.text:=rfl;rw[ea,Qg (Qw.1 ylq c (ylz c))];rfl
theorem zwp{ks:List Ke}{now:Int}(h:Fm ks=true)(hl:∀k∈ks,Hs now k=true)(hn:0<=now/\now<=1000000000)(h1:1<=T.length)(h16:T.length<=16)(hs:∀t∈T,t.size<=200):Nj ks now T=Lc ks now T:=by
 have ha:Oe T=true:=by
  unfold Oe;rw[Qh,Qw];refine⟨fun i hi=>Qe ?_,Qe h16⟩;have hi:=List.mem_range.1 hi;rw[Qa,Qd hi];exact hs _ (Qv hi)
 have ho:Tt ks now T=true:=by
  unfold Tt Lp;rw[h,ha,Qe hn.1,Qe hn.2,Qe h1];rfl
 unfold Nj;rw[ho,if_pos rfl,zt0 hl]
theorem G4{ks:List Ke}(h:Fm ks=true)(k:Ke):k∈G0 ks k:=by
 rw[Rb.Wz k ((Rb.Ns ks).1 h).2.1];exact Rb.V9 _ _
theorem ymb{ks:List Ke}(h:Pl (Fj ks k R).2=false):(Ml k=true/\Fj ks k R=(G5 ks k.name,R))\/(Ml k=false/\Fm (G0 ks k)=true/\Fj ks k R=(G0 ks k,R)):=by
 unfold Fj at h ⊢;cases he:Ml k with
 |true=>exact .inl ⟨rfl,by rw[if_pos rfl]⟩
 |false=>
  rw[he,if_neg (by simp)]at h;cases hs:Fm (G0 ks k)with
  |true=>exact .inr ⟨rfl,rfl,by rw[if_neg (by simp),if_pos rfl]⟩
  |false=>
   rw[hs,if_neg (by simp)]at h;cases h
theorem C6(c:Cm){ks:List Ke}(h:Fm ks=true)(hk:k∈ks)(now:Int)(A:List ByteArray)(hf:c.fits (A.length+1)=true)(hm:c.many=false)(hc:c.kind=0\/k.val.kind=(c.kind:Int)):Lc ks now (c.text::k.name::A)=Mh c ks k true now (k.name::A):=by
 rw[Hq,Q1,if_pos hf,if_neg (by rw[hm];simp),Lt h hk now A hc]
theorem yl3(s:ByteArray):Pl (Fl s)=true:=rfl
def DbR (w:World) (v:Value) (ks:List Ke):Prop:=∃a A c L,v= .slice a ks.length c/\Oc w a A L.length L/\L.map KV.key=ks
def RpR (w:World) (v:Value) (R:List Rp):Prop:=∃a g c,v= .slice a R.length c/\T5 w a g R
theorem DbR.bw{ks:List Ke}(h:DbR w v ks)(hb:Bl w w'):DbR w' v ks:=by
 obtain⟨a,A,c,L,e,hd,hk⟩:=h;exact⟨a,A,c,L,e,hd.bw hb,hk⟩
theorem RpR.bw(h:RpR w v R)(hb:Bl w w'):RpR w' v R:=by
 obtain⟨a,g,c,e,hr⟩:=h;exact⟨a,g,c,e,hr.bw hb⟩
theorem Il(h:Fv w B v L):DbR w v (L.map KV.key):=by
 obtain⟨a,A,c,e,hd⟩:=h.at;exact⟨a,A,c,L,by rw[Qp];exact e,hd,rfl⟩
def Ug (w:World) (p:List Ke×List Rp) (e:Ending) (w':World):Prop:=
 ∃v r,e= .returned (.tuple #[v,r])/\DbR w' v p.1/\RpR w' r p.2/\Bl w w'
theorem ybv(h:Rb.Bu w p e w'):Ug w p e w':=by
 obtain⟨v,r,L,rfl,hk,ho,hv,hr,hb⟩:=h;obtain⟨a,A,c,e,Sz⟩:=Uw ho;exact⟨v,r,rfl,⟨a,A,c,L,by rw[<-hk,Qp];exact e,⟨Sz,fun i hi=>⟨_,hv.own _ (by rw[Qa,Qd hi];exact Qv hi)⟩⟩,hk⟩,yfp hr,hb⟩
theorem zy0(h:Fh w B p e w'):Ug w p e w':=by
 obtain⟨v,r,L,rfl,hk,ho,hr,hb⟩:=h;exact⟨v,r,rfl,by rw[<-hk];exact Il ho,yfp hr,hb⟩
theorem Ct(h:Rb.Px w ad)(hb:Bl w W):Rb.Px W ad:=by
 have hs:=hb.size;have n25:=h.es.er.n25;have q:=h.es.bw hb;refine⟨⟨⟨q.er.rd,q.er.fd,fun i hi=>⟨(q.er.er i hi).1,Qr (q.er.er i hi).2 hs⟩,by omega⟩,q.ms⟩,fun i hi=>(h.ev i hi).bw hb n25 (h.ev i hi).low,h.ne,(hb.cell (p:=⟨3,0,none⟩) (by show 3<_;omega)).trans h.g7⟩
def C3 (ks:List Ke):Prop:=O7 ks/\ks.length<=1000
theorem zlo(h:O7 (L.map KV.key)):Small L:=fun i hi=>by
 have k:=h _ (List.mem_map.2 ⟨L.getD i kv0,by rw[Qa,Qd hi];exact Qv hi,rfl⟩);exact⟨⟨k.fit.fit,k.np,k.nums⟩,k.fit.name⟩
theorem yhr{ks:List Ke}(h:Fm ks=true):C3 ks:=by
 obtain⟨h1,h2⟩:=zrs h;exact⟨h1,by omega⟩
theorem znu(v:Value)(ks:List Ke)(now:Int)(aa:Option Addr)(ab ao m ac:Nat)(T:List ByteArray)(ad:Nat->Addr)(w:World)(h:DbR w v ks)(hg:C3 ks)(ha:Fs w aa ab ao m T)(hm:m<=1000)(hac:m<=ac)(hE:Rb.Px w ad):
  Calls prog 14 #[v,.int .i64 now,.slice aa m ac] w (Ug w (Nj ks now T)):=by
 obtain⟨a,A,c,L,rfl,hd,rfl⟩:=h;have hl:=hg.2;rw[Qp]at hl ⊢;exact(Rb.zs4 a A L.length c L now aa ab ao m ac T ad w hd (zlo hg.1) (by omega) ha hm hac hE).mono fun e w' he=>ybv he
theorem zvx(B:Nat)(v:Value)(L:List KV)(now:Int)(aa:Option Addr)(ab ao m ac:Nat)(T:List ByteArray)(w:World)(h:Fv w B v L)(hg:C3 (L.map KV.key))(ha:Fs w aa ab ao m T)(hm:m<=1000)(hac:m<=ac):
  Calls prog 15 #[v,.int .i64 now,.slice aa m ac] w (Ug w (Nj (L.map KV.key) now T)):=by
 have hl:=hg.2;rw[Qp]at hl;exact(zj3 B v L now aa ab ao m ac T w h hg.1.k hl ha hm hac).mono fun e w' he=>zy0 he
theorem zjk(r r':Value)(R:List Rp)(w:World)(h:RpR w r R)(h':RpR w r' R)(hR:R=[]\/RpS R):
  Calls prog 17 #[r,r'] w fun e w'=>e=.returned (.bool true)/\Bl w w':=by
 obtain⟨a,g,c,rfl,hr⟩:=h;obtain⟨a',g',c',rfl,Sz⟩:=h';have hs:R.length<=41/\∀r∈R,r.kids.length<=41:=by
  rcases hR with rfl|⟨_,h2,h3⟩
  ·exact⟨by simp,fun r hr=>by cases hr⟩
  ·exact⟨h2,fun r hr=>(h3 r hr).1⟩
 refine(zqk a a' g g' c c' R w hr Sz (by omega) (fun r hr=>by have:=hs.2 r hr;omega)).mono ?_;rintro e w'⟨rfl,q,rfl⟩;exact⟨rfl,Hp.below_drewN w q⟩
theorem yli(r:Value)(R:List Rp)(w:World)(h:RpR w r R)(hn:R.length<=41):Calls prog 18 #[r] w fun e w'=>e=.returned (.bool (Pl R))/\w'=w:=by
 obtain⟨a,g,c,rfl,hr⟩:=h;exact Ly a g c R w hr (by omega)
theorem zmx(ks:List Ke)(now:Int)(T:List ByteArray):(Tt ks now T=false/\Nj ks now T=([],[]))\/(Tt ks now T=true/\Fm ks=true/\(0<=now/\now<=1000000000)/\T.length<=16/\1<=T.length/\(∀i,i<T.length->(Fa T i).size<=200)/\Nj ks now T=Lc (Hb ks now) now T/\Left (Hb ks now) now (Lc (Hb ks now) now T)/\RpS (Lc (Hb ks now) now T).2):=by
 cases h:Tt ks now T with
 |false=>exact .inl ⟨rfl,by unfold Nj;rw[h,if_neg (by simp)]⟩
 |true=>
  have h0:=h;unfold Tt at h;simp only[Qh,decide_eq_true_eq]at h;obtain⟨h1,h2,h3,h4⟩:=h;unfold Lp at h2;simp only[Qh,decide_eq_true_eq]at h2;obtain⟨u1,u2⟩:=E6 h4;exact .inr ⟨rfl,h1,h2,u1,h3,u2,by unfold Nj;rw[h0,if_pos rfl],left_done (Rb.E7 h1 now) zw5 h2,yg8 (zn0 (T8 h1)) u2⟩
structure Pq (w1:World) (v:Value) (ks:List Ke) (now:Int) (aa:Option Addr) (ab ao m ac:Nat) (T:List ByteArray) (ad:Nat->Addr):Prop where
 own:∃B L,Fv w1 B v L/\L.map KV.key=ks
 good:C3 ks
 args:Fs w1 aa ab ao m T
 len:T.length=m
 few:m<=6
 cap:m<=ac
 env:Rb.Px w1 ad
theorem Pq.bw{ks:List Ke}{now:Int}(h:Pq w1 v ks now aa ab ao m ac T ad)(hb:Bl w1 W):Pq W v ks now aa ab ao m ac T ad:=by
 obtain⟨B,L,ho,hk⟩:=h.own;exact⟨⟨B,L,ho.bw hb,hk⟩,h.good,Lb h.args hb,h.len,h.few,h.cap,Ct h.env hb⟩
theorem Pq.db{ks:List Ke}{now:Int}(h:Pq w1 v ks now aa ab ao m ac T ad):DbR w1 v ks:=by
 obtain⟨B,L,ho,rfl⟩:=h.own;exact Il ho
theorem Pq.impl{ks:List Ke}{now:Int}(h:Pq w1 v ks now aa ab ao m ac T ad):
  Calls prog 14 #[v,.int .i64 now,.slice aa m ac] w1 (Ug w1 (Nj ks now T)):=
 znu v ks now aa ab ao m ac T ad w1 h.db h.good h.args (by have:=h.few;omega) h.cap h.env
theorem Pq.spec{ks:List Ke}{now:Int}(h:Pq w1 v ks now aa ab ao m ac T ad):
  Calls prog 15 #[v,.int .i64 now,.slice aa m ac] w1 (Ug w1 (Nj ks now T)):=by
 have hf:=h.few;have hg:=h.good;obtain⟨B,L,ho,rfl⟩:=h.own;exact zvx B v L now aa ab ao m ac T w1 ho hg h.args (by omega) h.cap
theorem zz0(a:Option Addr)(n c:Nat)(w:World)(hn:n<=9223372036854775807)(hb:BytesIn w a n w.heap.size)(ad:Nat->Addr)(hE:Rb.Px w ad):
  Calls prog 13 #[.slice a n c] w fun e w1=>∃v ks now aa ab ao m ac T,e=.returned (.tuple #[v,.int .i64 now,.slice aa m ac])/\Pq w1 v ks now aa ab ao m ac T ad/\Bl w w1:=by
 refine(ydt a n c w hn hb).mono ?_;rintro e w1⟨B,v,L,now,aa,ab,ao,ac,T,rfl,Va,Vb,Vf,Sz,Vd,Vc,Ve,b1⟩;exact⟨v,L.map KV.key,now,aa,ab,ao,T.length,ac,T,rfl,⟨⟨B,L,Va,rfl⟩,⟨Vb,by rw[Qp];omega⟩,Sz,rfl,Vd,Vc,Ct hE b1⟩,b1⟩
theorem Hv{G:Nat}{C:Array Value}(r:Fc W G 9 C)(e:C=(T.map Value.string).toArray)(hs:∀t∈T,t.size<=200):Fs W (some ⟨G,0,none⟩) G 0 T.length T:=by
 subst e;refine⟨rfl,fun _=>rfl,fun _=>r.lt,fun i hi=>?_,fun i hi=>?_⟩
 ·rw[Qq,r.cell i,Qm,List.getElem?_map,Qd hi,Qa,Qd hi];rfl
 ·rw[Qa,Qd hi];exact Qj (hs _ (Qv hi)) (by decide)
section
variable (C:Array Value) (T:List ByteArray)
theorem yly(e:C=(T.map Value.string).toArray)(h1:1<=T.length)(h16:T.length<=16)(hs:∀t∈T,t.size<=200){ks:List Ke}{now:Int}(hd:DbR w v ks)(hok:Fm ks=true)(hl:∀k∈ks,Hs now k=true)(hn:0<=now/\now<=1000000000)(hE:Rb.Px w ad)(hp:Lc ks now T=p)(W:World)(hW:Bl w W):
  ∃W',Hid (W.alloc (.cells C 9)=W')/\Hid (∀X,Bl W' X->Cp 14 #[v,.int .i64 now,.slice (some ⟨W.heap.size,0,none⟩) T.length T.length] X fun e w'=>∃v r,e=.returned (.tuple #[v,r])/\DbR w' v p.1/\RpR w' r p.2/\Bl w w'/\Bl W w'):=by
 obtain⟨W',_,Sz,b,r⟩:=boxed W C 9;refine⟨W',Sz,fun X hX=>?_⟩;have bX:Bl W X:=b.trans (hX.mono b.size);have bb:Bl w X:=hW.trans (bX.mono hW.size);have:=znu v ks now (some ⟨W.heap.size,0,none⟩) W.heap.size 0 T.length T.length T ad X (hd.bw bb) (yhr hok) (Hv (Fc.bw r hX r.lt) e hs) (by omega) (Qc _) (Ct hE bb);rw[zwp hok hl hn h1 h16 hs,hp]at this;refine this.mono ?_;rintro e w'⟨v,r,rfl,h1,h2,h3⟩;exact⟨v,r,rfl,h1,h2,bb.trans (h3.mono bb.size),bX.trans (h3.mono bX.size)⟩
theorem ylu(e:C=(T.map Value.string).toArray)(h1:1<=T.length)(h16:T.length<=16)(hs:∀t∈T,t.size<=200){ks:List Ke}{now:Int}(hd:DbR w v ks)(hok:Fm ks=true)(hl:∀k∈ks,Hs now k=true)(hn:0<=now/\now<=1000000000)(hE:Rb.Px w ad)(hp:Lc ks now T=p)(W:World)(hW:Bl w W):
  ∃W',Hid (W.alloc (.cells C 9)=W')/\Hid (Cp 14 #[v,.int .i64 now,.slice (some ⟨W.heap.size,0,none⟩) T.length T.length] W' fun e w'=>∃v r,e=.returned (.tuple #[v,r])/\DbR w' v p.1/\RpR w' r p.2/\Bl w w'/\Bl W w'):=by
 obtain⟨W',h1,h2⟩:=yly C T e h1 h16 hs hd hok hl hn hE hp W hW;exact⟨W',h1,h2.out _ (Qb _ _)⟩
end
theorem G9(a:Option Addr)(g c:Nat)(R:List Rp)(w:World)(h:T5 w a g R)(p:Option Addr)(m pc:Nat)(hk:R.length=1->w.cell? ⟨g,3,none⟩=some (.slice p m pc))(hk':R.length≠1->p=none/\m=0/\pc=0)(hn:R.length<=1048577):Calls prog 23 #[.slice a R.length c] w fun e w'=>e=.returned (.agg #[.int .i64 (Pw R).kind,.int .i64 (Pw R).n,.string (Pw R).s,.slice p m pc])/\Bl w w':=by
 obtain⟨W0,Vc,Vb,b0,r0⟩:=boxed w #[.int .i64 0,.int .i64 0,.string ⟨#[]⟩,.slice none 0 0] 40;have y0:=r0.cell 0;have y1:=r0.cell 1;have y2:=r0.cell 2;have y3:=r0.cell 3;have z0:=r0.frozen 0;have z1:=r0.frozen 1;have z2:=r0.frozen 2;have z3:=r0.frozen 3;simp only[Qm,Qk,Ql]at y0 y1 y2 y3;have Sz:=Qc w.heap.size;by_cases h1:R.length=1
 ·obtain⟨r,rfl⟩:=List.length_eq_one_iff.1 h1;obtain⟨j0,j1,j2,_⟩:=(h.bw b0).cell 0 (by simp);have j3:=hk rfl;obtain⟨rfl,hg⟩:=h.addr (by simp);have j3:=(b0.cell (p:=⟨g,3,none⟩) hg).trans j3;clear hk hk' hg;obtain⟨rk,rn,rs,rc⟩:=r;have k0:W0.cell? ⟨g,0,none⟩=some (.int .i64 rk):=j0;have k1:W0.cell? ⟨g,1,none⟩=some (.int .i64 rn):=j1;have k2:W0.cell? ⟨g,2,none⟩=some (.string rs):=j2;have k3:W0.cell? ⟨g,3,none⟩=some (.slice p m pc):=j3;have e:Pw [⟨rk,rn,rs,rc⟩]=⟨rk,rn,rs,rc⟩:=rfl;rw[e];clear j0 j1 j2 j3;have r1:Fc _ w.heap.size 40 #[.int .i64 rk,.int .i64 0,.string ⟨#[]⟩,.slice none 0 0]:=r0.set 0 (.int .i64 rk);have r2:Fc _ w.heap.size 40 #[.int .i64 rk,.int .i64 rn,.string ⟨#[]⟩,.slice none 0 0]:=r1.set 1 (.int .i64 rn);have r3:Fc _ w.heap.size 40 #[.int .i64 rk,.int .i64 rn,.string rs,.slice none 0 0]:=r2.set 2 (.string rs);have r4:Fc _ w.heap.size 40 #[.int .i64 rk,.int .i64 rn,.string rs,.slice p m pc]:=r3.set 3 (.slice p m pc);have b4:=(((b0.setCell (p:=⟨w.heap.size,0,none⟩) Sz (.int .i64 rk)).setCell (p:=⟨w.heap.size,1,none⟩) Sz (.int .i64 rn)).setCell (p:=⟨w.heap.size,2,none⟩) Sz (.string rs)).setCell (p:=⟨w.heap.size,3,none⟩) Sz (.slice p m pc);have HQ:Hid _:=And.intro r4 b4;clear h h1 hn e r0 r1 r2 r3 r4 b4 b0 Vc;show Calls prog 23 #[.slice (some ⟨g,0,none⟩) 1 c] w _;go_enter func23,ntmps23;go_upto_region 1 with fail;rw[Vb.out];clear Vb;go_wp2;obtain⟨rr,Va⟩:=HQ.out;have q0:=rr.cell 0;have q1:=rr.cell 1;have q2:=rr.cell 2;have q3:=rr.cell 3;simp only[Qm,Qk,Ql]at q0 q1 q2 q3;exact bodyPost_ret (v:=.agg #[.int .i64 rk,.int .i64 rn,.string rs,.slice p m pc]) (by simp[results,results23,go_sem,q0,q1,q2,q3]) rfl ⟨rfl,Va⟩
 ·obtain⟨rfl,rfl,rfl⟩:=hk' h1;clear hk hk';have e:Pw R=⟨0,0,⟨#[]⟩,[]⟩:=if_neg h1;rw[e];have r1:Fc _ w.heap.size 40 #[.int .i64 0,.int .i64 0,.string ⟨#[]⟩,.slice none 0 0]:=r0.set 0 (.int .i64 0);have r2:Fc _ w.heap.size 40 #[.int .i64 0,.int .i64 0,.string ⟨#[]⟩,.slice none 0 0]:=r1.set 1 (.int .i64 0);have r3:Fc _ w.heap.size 40 #[.int .i64 0,.int .i64 0,.string ⟨#[]⟩,.slice none 0 0]:=r2.set 2 (.string ⟨#[]⟩);have r4:Fc _ w.heap.size 40 #[.int .i64 0,.int .i64 0,.string ⟨#[]⟩,.slice none 0 0]:=r3.set 3 (.slice none 0 0);have b4:=(((b0.setCell (p:=⟨w.heap.size,0,none⟩) Sz (.int .i64 0)).setCell (p:=⟨w.heap.size,1,none⟩) Sz (.int .i64 0)).setCell (p:=⟨w.heap.size,2,none⟩) Sz (.string ⟨#[]⟩)).setCell (p:=⟨w.heap.size,3,none⟩) Sz (.slice none 0 0);have HQ:Hid _:=And.intro r4 b4;clear h e r0 r1 r2 r3 r4 b4 b0 Vc;generalize R.length=n at*;have Vd:¬((n:Int)=1):=by omega
  go_enter func23,ntmps23;go_upto_region 1 with fail;rw[Vb.out];clear Vb;go_wp2;obtain⟨rr,Va⟩:=HQ.out;have q0:=rr.cell 0;have q1:=rr.cell 1;have q2:=rr.cell 2;have q3:=rr.cell 3;simp only[Qm,Qk,Ql]at q0 q1 q2 q3;exact bodyPost_ret (v:=.agg #[.int .i64 0,.int .i64 0,.string ⟨#[]⟩,.slice none 0 0]) (by simp[results,results23,go_sem,q0,q1,q2,q3]) rfl ⟨rfl,Va⟩
theorem ylx(h:RpR w r R)(hn:R.length<=41):∃k,∀W,Bl w W->Calls prog 23 #[r] W fun e w'=>e=.returned (.agg #[.int .i64 (Pw R).kind,.int .i64 (Pw R).n,.string (Pw R).s,k])/\Bl W w':=by
 obtain⟨a,g,c,rfl,h⟩:=h;by_cases h1:R.length=1
 ·obtain⟨_,_,_,p,pg,pc,h3,_⟩:=h.cell 0 (by omega)
  exact⟨.slice p _ pc,fun W hW=>G9 a g c R W (h.bw hW) p _ pc (fun _=>by
   have:=(hW.cell (p:=⟨g,3,none⟩) (h.addr (by omega)).2).trans h3;exact this) (fun h=>absurd h1 h) (by omega)⟩
 ·exact⟨.slice none 0 0,fun W hW=>G9 a g c R W (h.bw hW) none 0 0 (fun h=>absurd h h1) (fun _=>⟨rfl,rfl,rfl⟩) (by omega)⟩
theorem Ob(s:ByteArray)(hs:s.size<=1048576)(W:World):Calls prog 22 #[.string s] W fun e w'=>e=.returned (.tuple #[.int .i64 (Fg s).1,.bool (Fg s).2])/\w'=W:=by
 have HI:Hid (Cp 65 #[.string s] W fun e w'=>e=.returned (.tuple #[.int .i64 (Fg s).1,.bool (Fg s).2])/\w'=W):=Wy s hs W;generalize Fg s=z at*;go_enter func22,ntmps22;go_wp2_with fail;refine HI.out.mono ?_;rintro e w1⟨rfl,rfl⟩;go_wp2;go_ret2;exact⟨rfl,rfl⟩
theorem yld{x:Rp}(h:RpR w r R)(hR:R=[x]):∃k,∀W,Bl w W->Calls prog 23 #[r] W fun e w'=>e=.returned (.agg #[.int .i64 x.kind,.int .i64 x.n,.string x.s,k])/\Bl W w':=by
 subst hR;exact ylx h (by simp)
section
variable (a b c d:Value) (W:World)
theorem ylp:(Instr.field 40 (.agg #[a,b,c,d]) 0).run prog W=.ok a W:=by
 simp[go_sem,Instr.field,asAgg]
theorem yls:(Instr.field 40 (.agg #[a,b,c,d]) 1).run prog W=.ok b W:=by
 simp[go_sem,Instr.field,asAgg]
theorem ylr:(Instr.field 40 (.agg #[a,b,c,d]) 2).run prog W=.ok c W:=by
 simp[go_sem,Instr.field,asAgg]
end
theorem yl6(h:1<=T.length):T=Fa T 0::T.tail:=by
 cases T with
 |nil=>simp at h
 |cons x T=>rfl
def setOf (ks:List Ke) (now:Int) (A:List ByteArray):List Ke×List Rp:=
 if A.length=4 then
  (if H9 (Fa A 2)=sEX then
   (if (Fg (Fa A 3)).2=true then
    (if 1<=(Fg (Fa A 3)).1/\(Fg (Fa A 3)).1<=1000000000-now then Fj ks (F5 (Fa A 0) (Fa A 1) (now+(Fg (Fa A 3)).1)) (Hd sOK)
    else (ks,Fl M9))
   else (ks,Fl F3))
  else (ks,Fl Rq))
 else Fj ks (F5 (Fa A 0) (Fa A 1) 0) (Hd sOK)
theorem yl4(ks:List Ke)(k:Ke)(th:Bool)(now:Int)(A:List ByteArray):Mh 26 ks k th now A=setOf ks now A:=rfl
theorem ymc(ks:List Ke)(now:Int)(A:List ByteArray):Np 26 ks now A=setOf ks now A:=by
 unfold Np;split
 ·exact yl4 ..
 ·rw[if_neg (by intro h;exact h.1 rfl)];exact yl4 ..
theorem yl8{ks:List Ke}{now:Int}(hT:Fa T 0=Cm.text 26)(h3:3<=T.length)(he:Pl (Lc ks now T).2=false):
  ∃d,Lc ks now T=(G0 ks (F5 (Fa T 1) (Fa T 2) d),Hd sOK)/\Fm (G0 ks (F5 (Fa T 1) (Fa T 2) d))=true/\((T.length≠5/\d=0)\/(T.length=5/\d=now+(Fg (Fa T 4)).1/\1<=(Fg (Fa T 4)).1)):=by
 have ht:=yl6 (T:=T) (by omega);have e1:Fa T.tail 0=Fa T 1:=Cu T 0;have e2:Fa T.tail 1=Fa T 2:=Cu T 1;have e4:Fa T.tail 3=Fa T 4:=Cu T 3;have hl:T.tail.length=T.length-1:=List.length_tail;rw[hT]at ht;generalize T.tail=A at*;have hz:∀d,Ml (F5 (Fa A 0) (Fa A 1) d)=false:=fun d=>rfl;have hw:∀d,Pl (Fj ks (F5 (Fa A 0) (Fa A 1) d) (Hd sOK)).2=false->Fj ks (F5 (Fa A 0) (Fa A 1) d) (Hd sOK)=(G0 ks (F5 (Fa A 0) (Fa A 1) d),Hd sOK)/\Fm (G0 ks (F5 (Fa A 0) (Fa A 1) d))=true:=fun d hd=>by
  rcases ymb hd with⟨q,_⟩|⟨_,q1,q2⟩
  ·rw[hz]at q;cases q
  ·exact⟨q2,q1⟩
 have hd:Lc ks now T=if Cm.fits 26 A.length=true then setOf ks now A else(ks,Fl Pk):=by
  rw[ht,Hq,ymc];rfl
 rw[hd]at he ⊢;rw[<-e1,<-e2,<-e4];split at he
 ·rename_i hf;rw[if_pos hf];unfold setOf at he ⊢;split at he
  ·rename_i h4;rw[if_pos h4];split at he
   ·rename_i h5;rw[if_pos h5];split at he
    ·rename_i h6;rw[if_pos h6];split at he
     ·rename_i h7;rw[if_pos h7];obtain⟨q1,q2⟩:=hw _ he;exact⟨_,q1,q2,.inr ⟨by omega,rfl,h7.1⟩⟩
     ·rw[yl3]at he;cases he
    ·rw[yl3]at he;cases he
   ·rw[yl3]at he;cases he
  ·rename_i h4;rw[if_neg h4];obtain⟨q1,q2⟩:=hw _ he;exact⟨_,q1,q2,.inl ⟨by omega,rfl⟩⟩
 ·rw[yl3]at he;cases he
theorem yl7{ks:List Ke}(h:Fm ks=true)(hk:k∈ks)(hv:k.val.kind=1)(now:Int):Lc ks now [Cm.text 5,k.name]=(ks,Fy k.val.text):=(C6 5 h hk now [] rfl rfl (.inr hv)).trans rfl
theorem yl9{ks:List Ke}(h:Fm ks=true)(hk:k∈ks)(now:Int):Lc ks now [Cm.text 8,k.name]=(ks,Fe (if k.due=0 then-1 else k.due-now)):=(C6 8 h hk now [] rfl rfl (.inl rfl)).trans rfl
theorem yma{ks:List Ke}(h:Fm ks=true)(hk:k∈ks)(hv:k.val.kind=1)(now:Int):Lc ks now [Cm.text 6,k.name]=(ks,Fe k.val.text.size):=(C6 6 h hk now [] rfl rfl (.inr hv)).trans rfl
theorem yl5{ks:List Ke}(h:Fm ks=true)(hk:k∈ks)(now:Int):Lc ks now [Cm.text 7,k.name]=(ks,Hd (Py k.val.kind.toNat)):=(C6 7 h hk now [] rfl rfl (.inl rfl)).trans rfl
theorem Aw5(a:Option Addr)(n c:Nat)(w:World)(hn:n<=9223372036854775807)(hb:BytesIn w a n w.heap.size)(ad:Nat->Addr)(hE:Rb.Px w ad):
  Calls prog 5 #[.slice a n c] w fun e w'=>e=.returned (.bool true)/\Bl w w':=by
 have Xw:Hid (Cp 12 #[.slice a n c] w fun e w'=>e=.returned (.bool (decide (1048576<n)))/\w'=w):=ygb a n c w hn;have Xj:Hid (Cp 13 #[.slice a n c] w fun e w1=>∃v ks now aa ab ao m ac T,e=.returned (.tuple #[v,.int .i64 now,.slice aa m ac])/\Pq w1 v ks now aa ab ao m ac T ad/\Bl w w1):=zz0 a n c w hn hb ad hE;clear hb hE;go_enter func5,ntmps5;go_wp2_with fail;refine Xw.out.mono ?_;rintro e w0⟨rfl,Zm⟩;subst Zm;clear Xw;by_cases hbig:1048576<n
 ·rw[Qe hbig];clear Xj;go_wp2;go_ret;exact⟨rfl,Qb _ _⟩
 rw[Qf hbig];go_wp2_with fail;refine Xj.out.mono ?_;rintro e w1⟨v,ks,now,aa,ab,ao,m,ac,T,rfl,hD,b1⟩;clear Xj hn hbig;have HD:Hid (Pq w1 v ks now aa ab ao m ac T ad):=hD;have HI:Hid (Cp 14 #[v,.int .i64 now,.slice aa m ac] w1 (Ug w1 (Nj ks now T))):=hD.impl;have HC:Hid _:=zmx ks now T;clear hD;generalize hp:Nj ks now T=p at*;have HP:Hid (Nj ks now T=p):=hp;clear hp;go_wp2_with fail;refine HI.out.mono ?_;rintro e w2⟨v2,r2,rfl,Zc,Vy,b2⟩;have HS:Hid (Cp 15 #[v,.int .i64 now,.slice aa m ac] w2 (Ug w2 p)):=by
  have:=(HD.out.bw b2).spec;rw[HP.out]at this;exact this
 have Xy:Hid (DbR w2 v2 p.1):=Zc;have Zb:Hid (RpR w2 r2 p.2):=Vy;clear Zc Vy HI;go_wp2_with fail;refine HS.out.mono ?_;rintro e w3⟨v3,r3,rfl,Zo,Vz,b3⟩;have Xo:Bl w1 w3:=b2.trans (b3.mono b2.size);have Xm:Bl w0 w3:=b1.trans (Xo.mono b1.size);have Vm:Hid (Pq w3 v ks now aa ab ao m ac T ad):=HD.out.bw Xo;have Vd:Hid (DbR w3 v2 p.1):=Xy.out.bw b3;have Vb:Hid (RpR w3 r2 p.2):=Zb.out.bw b3;have Va:Hid (∀W,Bl w3 W->Bl w0 W):=fun W hW=>Xm.trans (hW.mono Xm.size);have Xq:p.2=[]\/RpS p.2:=by
  rcases HC.out with⟨_,e0⟩|⟨_,_,_,_,_,_,e0,_,hS⟩
  ·exact .inl (by rw[e0])
  ·exact .inr (by rw[e0];exact hS)
 have Vq:p.2.length<=41:=by
  rcases Xq with e|h
  ·rw[e];simp
  ·exact h.2.1
 have Vh:Hid (∀W,Bl w3 W->Cp 17 #[r2,r3] W fun e w'=>e=.returned (.bool true)/\Bl W w'):=fun W hW=>zjk r2 r3 p.2 W (Vb.out.bw hW) (RpR.bw Vz hW) Xq;have Xi:Hid (∀W,Bl w3 W->Cp 18 #[r2] W fun e w'=>e=.returned (.bool (Pl p.2))/\w'=W):=fun W hW=>yli r2 p.2 W (Vb.out.bw hW) Vq;have Vu:Hid (∃k,∀W,Bl w3 W->Cp 23 #[r2] W fun e w'=>e=.returned (.agg #[.int .i64 (Pw p.2).kind,.int .i64 (Pw p.2).n,.string (Pw p.2).s,k])/\Bl W w'):=ylx Vb.out Vq;have Vk:Hid (∀W,Bl w3 W->∀i,i<m->W.cell? ⟨ab,ao+i,none⟩=some (.string (Fa T i))):=fun W hW i hi=>(Vm.out.bw hW).args.cell i hi;have Xs:Hid (0<m->aa=some ⟨ab,ao,none⟩):=Vm.out.args.addr;have Vc:T.length=m:=Vm.out.len;obtain⟨ar,gr,cr,er,_⟩:=Vb.out;clear Zo Vz HS HD Xy Zb b1 b2 b3 Xo Xm HP Xq Vq;obtain⟨lr,Xh⟩:∃lr,lr=p.2.length:=⟨_,rfl⟩;have Vv:Hid (lr=p.2.length):=Xh;rw[<-Xh]at er;clear Xh;subst er;go_wp2_with fail;refine(Vh.out _ (Qb _ _)).mono ?_;rintro e w4⟨rfl,b4⟩;by_cases hm:m<3
 ·clear HC Vm Vd Vb Xi Vu Vk Xs Vv Vc;have Zn:(m:Int)<3:=by omega
  go_wp2_with fail;refine(Vh.out _ b4).mono ?_;rintro e w5⟨rfl,b5⟩;have HF:Hid (Bl w0 w5):=Va.out _ (b4.trans (b5.mono b4.size));clear b4 b5 Va Vh;go_wp2;go_ret;exact⟨rfl,HF.out⟩
 have Zy:(0:Int)<(m:Int):=by omega
 have Zn:¬(m:Int)<3:=by omega
 obtain rfl:=Xs.out (by omega);have c0:=Vk.out w4 b4 0 (by omega);rw[Qy]at c0;obtain⟨t0,Xp⟩:∃t,t=Fa T 0:=⟨_,rfl⟩;have Vw:Hid (t0=Fa T 0):=Xp;rw[<-Xp]at c0;clear Xp Xs;by_cases hq0:t0=⟨#[83,69,84]⟩;rotate_left
 ·have hq:(t0.toList==[83,69,84])=false:=by
   have:=Kk.Le hq0;rw[ByteArray.toList_eq ⟨#[83,69,84]⟩]at this;exact this
  clear HC Vm Vd Vb Xi Vu Vk Vv Vc Vw hm hq0;go_wp2_with fail;refine(Vh.out _ b4).mono ?_;rintro e w5⟨rfl,b5⟩;have HF:Hid (Bl w0 w5):=Va.out _ (b4.trans (b5.mono b4.size));clear b4 b5 Va Vh;go_wp2;go_ret;exact⟨rfl,HF.out⟩
 subst hq0;go_wp2_with fail;refine(Xi.out _ b4).mono ?_;rintro e w5⟨rfl,Zq⟩;subst Zq;clear Xi;obtain⟨ie,Xt⟩:∃b,b=Pl p.2:=⟨_,rfl⟩;have Xd:Hid (ie=Pl p.2):=Xt;rw[<-Xt];clear Xt;rcases ie with _|_;rotate_left
 ·clear HC Vm Vd Vb Vu Vk Vv Vc Vw hm c0 Xd;go_wp2_with fail;refine(Vh.out _ b4).mono ?_;rintro e w5⟨rfl,b5⟩;have HF:Hid (Bl w0 w5):=Va.out _ (b4.trans (b5.mono b4.size));clear b4 b5 Va Vh;go_wp2;go_ret;exact⟨rfl,HF.out⟩
 by_cases hl0:lr=0
 ·subst hl0;clear HC Vm Vd Vb Vu Vk Vv Vc Vw hm c0 Xd;go_wp2_with fail;refine(Vh.out _ b4).mono ?_;rintro e w5⟨rfl,b5⟩;have HF:Hid (Bl w0 w5):=Va.out _ (b4.trans (b5.mono b4.size));clear b4 b5 Va Vh;go_wp2;go_ret;exact⟨rfl,HF.out⟩
 have Xh:((lr:Int)==0)=false:=by simp;omega
 have Zp:¬(lr:Int)=0:=by omega
 clear Vh;have Xk:∃d,p=(G0 (Hb ks now) (F5 (Fa T 1) (Fa T 2) d),Hd sOK)/\Fm p.1=true/\(∀k∈p.1,Hs now k=true)/\(0<=now/\now<=1000000000)/\(F5 (Fa T 1) (Fa T 2) d)∈p.1/\(∀i,i<T.length->(Fa T i).size<=200)/\((T.length≠5/\d=0)\/(T.length=5/\d=now+(Fg (Fa T 4)).1/\1<=(Fg (Fa T 4)).1)):=by
  rcases HC.out with⟨_,e0⟩|⟨_,Vp,Vf,h16,h1,hs,e0,hL,hS⟩
  ·exact absurd (by rw[Vv.out,e0];rfl) hl0
  ·rw[<-e0]at hL;obtain⟨d,q1,q2,q3⟩:=yl8 (ks:=Hb ks now) (now:=now) (T:=T) Vw.out.symm (by omega) (by rw[<-e0];exact Xd.out.symm);rw[<-e0]at q1;refine⟨d,q1,hL.ok,hL.live,Vf,?_,hs,q3⟩;rw[q1];exact G4 (Rb.E7 Vp now) _
 obtain⟨d,hp,Vp,Vo,Vf,Vg,hs,Zj⟩:=Xk;have Zf:=hs 1 (by omega);have Zl:=hs 2 (by omega);have Xv:=Vm.out.env
 have HG:∀(x:ByteArray) (C:Array Value) (R:List Rp),C= #[.string x,.string (Fa T 1)]->x.size<=200->Lc p.1 now [x,Fa T 1]=(p.1,R)->Hid (∀W,Bl w3 W->∃W',Hid (W.alloc (.cells C 9)=W')/\Hid (Cp 14 #[v2,.int .i64 now,.slice (some ⟨W.heap.size,0,none⟩) 2 2] W' fun e w'=>∃v r,e=.returned (.tuple #[v,r])/\DbR w' v p.1/\RpR w' r R/\Bl w3 w'/\Bl W w')):=fun x C R hC hx hR W hW=>ylu C [x,Fa T 1] hC (by simp) (by simp) (fun t ht=>by
  simp only[List.mem_cons,List.not_mem_nil,or_false]at ht;rcases ht with rfl|rfl
  ·exact hx
  ·exact Zf) Vd.out Vp Vo Vf Xv hR W hW
 have g1:Lc p.1 now [Cm.text 5,Fa T 1]=(p.1,Fy (Fa T 2)):=yl7 Vp Vg rfl now;have g2:Lc p.1 now [Cm.text 8,Fa T 1]=(p.1,Fe (if d=0 then-1 else d-now)):=yl9 Vp Vg now;have g3:Lc p.1 now [Cm.text 6,Fa T 1]=(p.1,Fe (Fa T 2).size):=yma Vp Vg rfl now;have g4:Lc p.1 now [Cm.text 7,Fa T 1]=(p.1,Hd ⟨#[115,116,114,105,110,103]⟩):=yl5 Vp Vg now;have Zi:=HG (Cm.text 5) #[.string ⟨#[71,69,84]⟩,.string (Fa T 1)] _ rfl (by decide) g1;have Xu:=HG (Cm.text 8) #[.string ⟨#[84,84,76]⟩,.string (Fa T 1)] _ rfl (by decide) g2;have Za:=HG (Cm.text 6) #[.string ⟨#[83,84,82,76,69,78]⟩,.string (Fa T 1)] _ rfl (by decide) g3;have Xz:=HG (Cm.text 7) #[.string ⟨#[84,89,80,69]⟩,.string (Fa T 1)] _ rfl (by decide) g4;have Xl:Hid (∃k,∀W,Bl w3 W->Cp 23 #[.slice ar lr cr] W fun e w'=>e=.returned (.agg #[.int .i64 1,.int .i64 0,.string ⟨#[79,75]⟩,k])/\Bl W w'):=by
  have:=Vu.out;rw[hp]at this;exact this
 have Xg:Hid (∀W,Bl w3 W->W.cell? ⟨ab,ao+1,none⟩=some (.string (Fa T 1))):=fun W hW=>Vk.out W hW 1 (by omega);have Xx:Hid (∀W,Bl w3 W->W.cell? ⟨ab,ao+2,none⟩=some (.string (Fa T 2))):=fun W hW=>Vk.out W hW 2 (by omega);have Xe:Hid (T.length=5->∀W,Bl w3 W->W.cell? ⟨ab,ao+4,none⟩=some (.string (Fa T 4))):=fun h W hW=>Vk.out W hW 4 (by omega);have Xc:Hid (T.length=5->∀W,Cp 22 #[.string (Fa T 4)] W fun e w'=>e=.returned (.tuple #[.int .i64 (Fg (Fa T 4)).1,.bool (Fg (Fa T 4)).2])/\w'=W):=fun h W=>Ob _ (Qj (hs 4 (by omega)) (by decide)) W;have Zx:(1:Int)<(m:Int):=by omega
 have Zw:(2:Int)<(m:Int):=by omega
 obtain⟨D,hD⟩:∃D,D=(if d=0 then(-1:Int) else d-now):=⟨_,rfl⟩;have Xa:Hid ((T.length≠5->D= -1)/\(T.length=5->D=(Fg (Fa T 4)).1)):=by
  rcases Zj with⟨q1,q2⟩|⟨q1,q2,q3⟩
  ·exact⟨fun _=>by rw[hD,if_pos q2],fun h=>absurd h q1⟩
  ·exact⟨fun h=>absurd q1 h,fun _=>by rw[hD,if_neg (by have:=Vf.1;omega)];omega⟩
 rw[<-hD]at Xu;clear hD;rw[Vc]at Xe Xc Xa;clear HC Vm Vd Vu Vk Vv Vc Vw Xd hp Vp Vo Vf Vg hs Zj Zf Zl Xv HG g1 g2 g3 g4 hl0;generalize Fa T 1=t1,Fa T 2=t2,Fa T 4=t4 at*;have c1:=Xg.out w5 b4;obtain⟨W1,E1,H1⟩:=Zi.out w5 b4;clear Zi;go_wp2_with fail;rw[E1.out];refine H1.out.mono ?_;rintro e Xn⟨v1,r1,rfl,-,Zk,Zg,n1⟩;obtain⟨k1,Ve⟩:=yld (x:=⟨4,0,t2,[]⟩) Zk rfl;have Ve:Hid (∀W,Bl Xn W->_):=Ve;clear E1 H1 Zk n1 c1;have c1:=Xg.out Xn Zg;obtain⟨W2,E2,H2⟩:=Xu.out Xn Zg;clear Xu;go_wp2_with fail;rw[E2.out];refine H2.out.mono ?_;rintro e Xf⟨v2,r2,rfl,-,Vy,Zh,n2⟩;have Ve:Hid (∀W,Bl Xf W->_):=fun W hW=>Ve.out W (n2.trans (hW.mono n2.size));obtain⟨k2,Vi⟩:=yld (x:=⟨3,D,⟨#[]⟩,[]⟩) Vy rfl;have Vi:Hid (∀W,Bl Xf W->_):=Vi;clear E2 H2 Vy n2 c1;have c1:=Xg.out Xf Zh;obtain⟨W3,E3,H3⟩:=Za.out Xf Zh;clear Za;go_wp2_with fail;rw[E3.out];refine H3.out.mono ?_;rintro e Xb⟨v3,r3,rfl,-,Vz,Ze,n3⟩;have Ve:Hid (∀W,Bl Xb W->_):=fun W hW=>Ve.out W (n3.trans (hW.mono n3.size));have Vi:Hid (∀W,Bl Xb W->_):=fun W hW=>Vi.out W (n3.trans (hW.mono n3.size));obtain⟨k3,Vn⟩:=yld (x:=⟨3,(t2.size:Int),⟨#[]⟩,[]⟩) Vz rfl;have Vn:Hid (∀W,Bl Xb W->_):=Vn;clear E3 H3 Vz n3 c1;have c1:=Xg.out Xb Ze;obtain⟨W4,E4,H4⟩:=Xz.out Xb Ze;clear Xz;go_wp2_with fail;rw[E4.out];refine H4.out.mono ?_;rintro e Sz⟨v4,r4,rfl,-,Zd,Vj,n4⟩;have Ve:Hid (∀W,Bl Sz W->_):=fun W hW=>Ve.out W (n4.trans (hW.mono n4.size));have Vi:Hid (∀W,Bl Sz W->_):=fun W hW=>Vi.out W (n4.trans (hW.mono n4.size));have Vn:Hid (∀W,Bl Sz W->_):=fun W hW=>Vn.out W (n4.trans (hW.mono n4.size));obtain⟨k4,Vt⟩:=yld (x:=⟨1,0,⟨#[115,116,114,105,110,103]⟩,[]⟩) Zd rfl;have Vt:Hid (∀W,Bl Sz W->_):=Vt;clear E4 H4 Zd n4 c1;obtain⟨k5,Vs⟩:=Xl.out;have Vs:Hid (∀W,Bl Sz W->_):=fun W hW=>Vs W (Vj.trans (hW.mono Vj.size));by_cases h5:m=5
 ·subst h5;have hD:=Xa.out.2 rfl;subst hD;have c4:=Xe.out rfl Sz Vj;have HX:=Xc.out rfl;clear Xe Xc Xa;have HX:Hid (∀W,_):=HX;go_wp2_with fail;refine(HX.out _).mono ?_;rintro e wx⟨rfl,Xr⟩;have Xr:=Xr.symm;subst Xr;clear HX c4;have c2:=cell_regrown (Xx.out Sz Vj);have y0:∀d os,Calls prog 23 #[r1] (grow (redrawn Sz d) os) fun e w''=>e=.returned (.agg #[.int .i64 4,.int .i64 0,.string t2,k1])/\∃p:Regrown,w''=grow (redrawn Sz p.d) p.os:=fun d os=>Calls.regrown_of (Ve.out _ (below_regrown Sz d os));have y1:∀d os,Calls prog 23 #[r2] (grow (redrawn Sz d) os) fun e w''=>e=.returned (.agg #[.int .i64 3,.int .i64 (Fg t4).1,.string ⟨#[]⟩,k2])/\∃p:Regrown,w''=grow (redrawn Sz p.d) p.os:=fun d os=>Calls.regrown_of (Vi.out _ (below_regrown Sz d os));have y2:∀d os,Calls prog 23 #[r3] (grow (redrawn Sz d) os) fun e w''=>e=.returned (.agg #[.int .i64 3,.int .i64 (t2.size:Int),.string ⟨#[]⟩,k3])/\∃p:Regrown,w''=grow (redrawn Sz p.d) p.os:=fun d os=>Calls.regrown_of (Vn.out _ (below_regrown Sz d os));have y3:∀d os,Calls prog 23 #[r4] (grow (redrawn Sz d) os) fun e w''=>e=.returned (.agg #[.int .i64 1,.int .i64 0,.string ⟨#[115,116,114,105,110,103]⟩,k4])/\∃p:Regrown,w''=grow (redrawn Sz p.d) p.os:=fun d os=>Calls.regrown_of (Vt.out _ (below_regrown Sz d os));have y4:∀d os,Calls prog 23 #[(.slice ar lr cr)] (grow (redrawn Sz d) os) fun e w''=>e=.returned (.agg #[.int .i64 1,.int .i64 0,.string ⟨#[79,75]⟩,k5])/\∃p:Regrown,w''=grow (redrawn Sz p.d) p.os:=fun d os=>Calls.regrown_of (Vs.out _ (below_regrown Sz d os));clear Ve Vi Vn Vt Vs;have Zr:=ylp;have Zs:=yls;have Zt:=ylr;go_wp2;refine wp_region_quiet_below (by kernel_rfl) (by kernel_rfl) ?_;repeat(first|go_big_quiet_skip|quiet_step (first|with_reducible exact y0 _ _|with_reducible exact y1 _ _|with_reducible exact y2 _ _|with_reducible exact y3 _ _|with_reducible exact y4 _ _)|(go_big_quiet_want;go_big_quiet_op;go_big_quiet_on))
  refine wpQuiet_nil ?_;intro _ hw';obtain⟨⟨dq,Vx⟩,Vr⟩:=hw';subst Vr;have bq:=below_regrown Sz dq Vx;have HF:Hid (Bl w0 _):=Va.out _ (Vj.trans (bq.mono Vj.size));generalize grow (redrawn Sz dq) Vx=wq at*;go_wp2;go_ret;exact⟨rfl,HF.out⟩
 ·have hD:=Xa.out.1 h5;subst hD;have Zu:((m:Int)==5)=false:=by simp;omega
  have Zv:¬(m:Int)=5:=by omega
  clear Xe Xc Xa;have c2:=cell_regrown (Xx.out Sz Vj);have y0:∀d os,Calls prog 23 #[r1] (grow (redrawn Sz d) os) fun e w''=>e=.returned (.agg #[.int .i64 4,.int .i64 0,.string t2,k1])/\∃p:Regrown,w''=grow (redrawn Sz p.d) p.os:=fun d os=>Calls.regrown_of (Ve.out _ (below_regrown Sz d os));have y1:∀d os,Calls prog 23 #[r2] (grow (redrawn Sz d) os) fun e w''=>e=.returned (.agg #[.int .i64 3,.int .i64 (-1),.string ⟨#[]⟩,k2])/\∃p:Regrown,w''=grow (redrawn Sz p.d) p.os:=fun d os=>Calls.regrown_of (Vi.out _ (below_regrown Sz d os));have y2:∀d os,Calls prog 23 #[r3] (grow (redrawn Sz d) os) fun e w''=>e=.returned (.agg #[.int .i64 3,.int .i64 (t2.size:Int),.string ⟨#[]⟩,k3])/\∃p:Regrown,w''=grow (redrawn Sz p.d) p.os:=fun d os=>Calls.regrown_of (Vn.out _ (below_regrown Sz d os));have y3:∀d os,Calls prog 23 #[r4] (grow (redrawn Sz d) os) fun e w''=>e=.returned (.agg #[.int .i64 1,.int .i64 0,.string ⟨#[115,116,114,105,110,103]⟩,k4])/\∃p:Regrown,w''=grow (redrawn Sz p.d) p.os:=fun d os=>Calls.regrown_of (Vt.out _ (below_regrown Sz d os));have y4:∀d os,Calls prog 23 #[(.slice ar lr cr)] (grow (redrawn Sz d) os) fun e w''=>e=.returned (.agg #[.int .i64 1,.int .i64 0,.string ⟨#[79,75]⟩,k5])/\∃p:Regrown,w''=grow (redrawn Sz p.d) p.os:=fun d os=>Calls.regrown_of (Vs.out _ (below_regrown Sz d os));clear Ve Vi Vn Vt Vs;have Zr:=ylp;have Zs:=yls;have Zt:=ylr;go_wp2;refine wp_region_quiet_below (by kernel_rfl) (by kernel_rfl) ?_;repeat(first|go_big_quiet_skip|quiet_step (first|with_reducible exact y0 _ _|with_reducible exact y1 _ _|with_reducible exact y2 _ _|with_reducible exact y3 _ _|with_reducible exact y4 _ _)|(go_big_quiet_want;go_big_quiet_op;go_big_quiet_on))
  refine wpQuiet_nil ?_;intro _ hw';obtain⟨⟨dq,Vx⟩,Vr⟩:=hw';subst Vr;have bq:=below_regrown Sz dq Vx;have HF:Hid (Bl w0 _):=Va.out _ (Vj.trans (bq.mono Vj.size));generalize grow (redrawn Sz dq) Vx=wq at*;go_wp2;go_ret;exact⟨rfl,HF.out⟩
end Go.Proofs.YtokafonppgppdaaGreatDoor.Er

