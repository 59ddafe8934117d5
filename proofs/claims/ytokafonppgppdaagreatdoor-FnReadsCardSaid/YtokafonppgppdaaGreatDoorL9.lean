import Derived.Test.YtokafonppgppdaaGreatDoorDe
import Derived.Test.YtokafonppgppdaaGreatDoorR56
set_option maxHeartbeats 8000000
set_option maxRecDepth 100000
namespace Go.Proofs.YtokafonppgppdaaGreatDoor.Er
open Tryz
open _root_.ByteArray (empty)
open Go.RowKit Go.Sort
variable {w w' w1 W:World} {p a aa:Option Addr} {g B ab ao m ac:Nat} {R:List Rp} {v:Value} {k:Ke} {c:Cm} {th:Bool} {T:List ByteArray} {L:List KV} {e:Ending} {ad:Nat->Addr}
theorem ygb (a:Option Addr) (n c:Nat) (w:World) (hn:n<=9223372036854775807):Calls prog 12 #[.slice a n c] w fun e w'=>e= .returned (.bool (decide (1048576<n)))/\w'=w:=by
 go_enter func12,ntmps12;go_wp2;go_ret;exact ⟨congrArg (fun b=>Ending.returned (Value.bool b)) (decide_eq_decide.2 (by omega)),rfl⟩
theorem zxt (a a':Option Addr) (b b' n c c':Nat) (L L':List KV) (w:World) (h:zoe w a b n L) (h':zoe w a' b' n L') (he:L'.map KV.key=L.map KV.key) (hs:∀i,i<n->zf8 (L.getD i kv0).key) (hn:n<=1000):
  Calls prog 16 #[.slice a n c,.slice a' n c'] w fun e w'=>e= .returned (.bool true)/\Bl w w':=by
 have HD:=hid h;have HD':=hid h';have HE:Hid (∀i,(L'.getD i kv0).key=(L.getD i kv0).key):=fun i=>by rw [<-zjv,<-zjv,he]
 have HS:=hid hs;clear h h' he hs;go_enter func16,ntmps16;go_wp2;go_loopw [5] (fun i wr=>∃(k:Nat),k<=n/\i= .int .i64 k/\Bl w wr) (fun i _=>n-(intOf i).toNat)
 case atStart=>exact ⟨0,by omega,rfl,Qb _ _⟩
 case round=>
  obtain ⟨k,hk,rfl,bk⟩:=hrel;have sk:=bk.size;by_cases hlt:k<n
  ·have HW:=HD.out.bw bk;have HW':=HD'.out.bw bk;obtain ⟨B,hv⟩:=HW.val k hlt;obtain ⟨B',hv'⟩:=HW'.val k hlt;have hc:=HW.ks.cell k hlt;have hc':=HW'.ks.cell k hlt;obtain rfl:=HW.ks.addr (by omega);obtain rfl:=HW'.ks.addr (by omega);have q:=HS.out k hlt;have e:=HE.out k;generalize L.getD k kv0=y,L'.getD k kv0=y' at*;obtain ⟨ky,vi,vp,vr⟩:=y;obtain ⟨ky',vi',vp',vr'⟩:=y';dsimp only at e hv hv' hc hc' q;have e2:=e.symm;subst e2;have n1:ky.val.ia.length<=1000:=Qj q.ni (by decide);have n2:ky.val.pj.length<=1000:=Qj q.np (by decide);have n3:ky.val.rq.length<=1000:=Qj q.nr (by decide);have hz:∀t∈ky.val.ia,t.size<=1048576:=fun t ht=>Qj (q.ia t ht) (by decide);have cV:∀d os,Calls prog 56 #[vlV ky.val.kind ky.val.text vi vp vr,vlV ky.val.kind ky.val.text vi' vp' vr'] (grow (redrawn wr d) os) fun e w''=>e= .returned (.bool true)/\∃p:Regrown,w''=grow (redrawn wr p.d) p.os:=fun d os=>Calls.regrown_of (zpg ky.val vi vp vr vi' vp' vr' _ ((hv.bw (below_regrown wr d os)).at hz) ((hv'.bw (below_regrown wr d os)).at hz) n1 n2 n3);obtain ⟨c0,c1,c2,c3,c4,c5,c6⟩:=hc;obtain ⟨d0,d1,d2,d3,d4,d5,d6⟩:=hc';dsimp only at c0 c1 c2 c3 c4 c5 c6 d0 d1 d2 d3 d4 d5 d6;clear HW HW' hv hv' q n1 n2 n3 hz;obtain ⟨nm,⟨kd,t,_,_,_⟩,du⟩:=ky;dsimp only at c0 c1 c2 c3 c4 c5 c6 d0 d1 d2 d3 d4 d5 d6 cV;have kc0:=cell_regrown c0;have kc1:=cell_regrown c1;have kc2:=cell_regrown c2;have kc3:=cell_regrown c3;have kc4:=cell_regrown c4;have kc5:=cell_regrown c5;have kc6:=cell_regrown c6;have ke0:=cell_regrown d0;have ke1:=cell_regrown d1;have ke2:=cell_regrown d2;have ke3:=cell_regrown d3;have ke4:=cell_regrown d4;have ke5:=cell_regrown d5;have ke6:=cell_regrown d6;have hk0:(0:Int)<=(k:Int):=by omega
   have hkn:(k:Int)<(n:Int):=by omega
   clear c0 c1 c2 c3 c4 c5 c6 d0 d1 d2 d3 d4 d5 d6;go_wp2;refine wp_region_quiet_below (by kernel_rfl) (by kernel_rfl) ?_;repeat (first|go_big_quiet_skip|quiet_step (first|with_reducible exact cV _ _)|(go_big_quiet_want;go_big_quiet_op;go_big_quiet_on))
   refine wpQuiet_nil ?_;intro _ hw';obtain ⟨⟨dq,osq⟩,hw''⟩:=hw';subst hw'';have bq:=below_regrown wr dq osq;generalize grow (redrawn wr dq) osq=wq at*;go_wp2;go_roundw
   case rel=>exact ⟨k+1,by omega,by go_num,bk.trans (bq.mono sk)⟩
   case measure=>simp [intOf];omega
  ·go_wp2;go_ret;exact ⟨rfl,bk⟩
structure zn8 (w:World) (p:Option Addr) (g:Nat) (ks:List Nat):Prop where
 addr:0<ks.length->p=some ⟨g,0,none⟩/\g<w.heap.size
 cell:∀i (hi:i<ks.length),w.cell? ⟨g,i,none⟩=some (.int .i64 ((ks[i]:Nat):Int))
theorem zn8.bw {ks:List Nat} (h:zn8 w p g ks) (hb:Bl w w'):zn8 w' p g ks:=
 ⟨fun h0=>⟨(h.addr h0).1,Qr (h.addr h0).2 hb.size⟩,fun i hi=> (hb.cell (p:=⟨g,i,none⟩) (h.addr (by omega)).2).trans (h.cell i hi)⟩
structure zta (w:World) (g i:Nat) (r:Rp):Prop where
 k:w.cell? ⟨g,i*4,none⟩=some (.int .i64 r.kind)
 n:w.cell? ⟨g,i*4+1,none⟩=some (.int .i64 r.n)
 s:w.cell? ⟨g,i*4+2,none⟩=some (.string r.s)
 c:∃p pg pc,w.cell? ⟨g,i*4+3,none⟩=some (.slice p r.kids.length pc)/\zn8 w p pg r.kids
structure yg4 (w:World) (a:Option Addr) (g:Nat) (R:List Rp):Prop where
 addr:0<R.length->a=some ⟨g,0,none⟩/\g<w.heap.size
 cell:∀i (hi:i<R.length),zta w g i R[i]
theorem yg4.bw (h:yg4 w a g R) (hb:Bl w w'):yg4 w' a g R:=
 ⟨fun h0=>⟨(h.addr h0).1,Qr (h.addr h0).2 hb.size⟩,fun i hi=>by
  have hg:=(h.addr (by omega)).2;obtain ⟨k,n,s,p,pg,pc,c,hk⟩:=h.cell i hi;exact ⟨(hb.cell (p:=⟨g,i*4,none⟩) hg).trans k,(hb.cell (p:=⟨g,i*4+1,none⟩) hg).trans n,(hb.cell (p:=⟨g,i*4+2,none⟩) hg).trans s,p,pg,pc,(hb.cell (p:=⟨g,i*4+3,none⟩) hg).trans c,hk.bw hb⟩⟩
theorem yfp (h:zbe w B v R):∃a g c,v= .slice a R.length c/\yg4 w a g R:=by
 obtain ⟨M,rfl,o,hk⟩:=h;have hl:(M.map RV.r).length=M.length:=Qp _;by_cases h0:M.length=0
 ·obtain ⟨a,c,e⟩:=zad o;exact ⟨a,0,c,by rw [hl];exact e,fun h=>by omega,fun i hi=>by omega⟩
 ·obtain ⟨g,c,e,h1,h2,_⟩:=zur o 0 (by omega);refine ⟨_,g,c,by rw [hl];exact e,fun _=>⟨rfl,h2⟩,fun i hi=>?_⟩;obtain ⟨g',c',e',_,_,q0,q1,q2,q3⟩:=zur o i (by omega);rw [e] at e';injection e' with e1;injection e1 with e2;injection e2 with e3;subst e3;obtain ⟨p,pg,pc,ek,ha,hcell⟩:=zz3 (hk M[i] (Qv _));rw [ek] at q3;rw [List.getElem_map];exact ⟨q0,q1,q2,p,pg,pc,q3,fun h=>⟨(ha h).1,(ha h).2.2⟩,hcell⟩
theorem zp7 (a a':Option Addr) (b b' c c':Nat) (ks:List Nat) (w:World) (h:zn8 w a b ks) (h':zn8 w a' b' ks) (hn:ks.length<=1048577):
  Calls prog 57 #[.slice a ks.length c,.slice a' ks.length c'] w fun e w'=>e= .returned (.bool true)/\∃q,w'=w.drewN q:=by
 have HK:Hid (∀i (hi:i<ks.length),w.cell? ⟨b,i,none⟩=some (.int .i64 ((ks[i]:Nat):Int))/\w.cell? ⟨b',i,none⟩=some (.int .i64 ((ks[i]:Nat):Int))):=fun i hi=>⟨h.cell i hi,h'.cell i hi⟩;have HA:Hid (0<ks.length->a=some ⟨b,0,none⟩/\a'=some ⟨b',0,none⟩):=fun h0=>⟨(h.addr h0).1,(h'.addr h0).1⟩;have HG:Hid (∀i (hi:i<ks.length),∃z:Int,z=((ks[i]:Nat):Int)):=fun i hi=>⟨_,rfl⟩;clear h h';obtain ⟨n,hnn⟩:∃n,ks.length=n:=⟨_,rfl⟩;have HC:Hid (∀i,i<n->∃z:Int,w.cell? ⟨b,i,none⟩=some (.int .i64 z)/\w.cell? ⟨b',i,none⟩=some (.int .i64 z)):=fun i hi=>⟨_,HK.out i (by omega)⟩;rw [hnn] at HA hn ⊢;clear HK HG hnn;go_enter func57,ntmps57;go_wp2;go_loopw [5] (fun i wr=>∃(k q:Nat),k<=n/\i= .int .i64 k/\wr=w.drewN q) (fun i _=>n-(intOf i).toNat)
 case atStart=>exact ⟨0,0,by omega,rfl,rfl⟩
 case round=>
  obtain ⟨k,q,hk,rfl,rfl⟩:=hrel;by_cases hlt:k<n
  ·obtain ⟨rfl,rfl⟩:=HA.out (by omega);obtain ⟨z,hc,hc'⟩:=HC.out k hlt;go_wp2;go_quiet ((fail));go_wp2;go_roundw
   case rel=>exact ⟨k+1,_,by omega,by go_num,rfl⟩
   case measure=>simp [intOf];omega
  ·go_wp2;go_ret;exact ⟨rfl,q,rfl⟩
theorem zn8.drew {ks:List Nat} (h:zn8 w p g ks) (q:Nat):zn8 (w.drewN q) p g ks:=h.bw (Hp.below_drewN w q)
theorem yc4 (w:World) (a b:Nat):(w.drewN a).drewN b=w.drewN (a+b):=by
 simp [World.drewN,Nat.add_assoc]
theorem zqk (a a':Option Addr) (b b' c c':Nat) (R:List Rp) (w:World) (h:yg4 w a b R) (h':yg4 w a' b' R) (hn:R.length<=1048577) (hk:∀r∈R,r.kids.length<=1048577):
  Calls prog 17 #[.slice a R.length c,.slice a' R.length c'] w fun e w'=>e= .returned (.bool true)/\∃q,w'=w.drewN q:=by
 have HA:Hid (0<R.length->a=some ⟨b,0,none⟩/\a'=some ⟨b',0,none⟩):=fun h0=>⟨(h.addr h0).1,(h'.addr h0).1⟩;have HC:Hid (∀i,i<R.length->∃r:Rp,zta w b i r/\zta w b' i r/\r.kids.length<=1048577):=fun i hi=>⟨R[i],h.cell i hi,h'.cell i hi,hk _ (Qv hi)⟩;clear h h' hk;generalize R.length=n at*;go_enter func17,ntmps17;go_wp2;go_loopw [5] (fun i wr=>∃(k q:Nat),k<=n/\i= .int .i64 k/\wr=w.drewN q) (fun i _=>n-(intOf i).toNat)
 case atStart=>exact ⟨0,0,by omega,rfl,rfl⟩
 case round=>
  obtain ⟨k,q,hk,rfl,hwq⟩:=hrel;by_cases hlt:k<n
  ·obtain ⟨rfl,rfl⟩:=HA.out (by omega);obtain ⟨r,⟨c0,c1,c2,p,pg,pc,c3,c4⟩,⟨d0,d1,d2,x,xg,xc,d3,d4⟩,hr⟩:=HC.out k hlt;have HI:∀m,Calls prog 57 #[.slice p r.kids.length pc,.slice x r.kids.length xc] (wr.drewN m) fun e w'=>e= .returned (.bool true)/\∃m',w'=(wr.drewN m).drewN m':=fun m=>by
    rw [hwq];exact zp7 p x pg xg pc xc r.kids _ ((c4.drew q).drew m) ((d4.drew q).drew m) hr
   have cw:∀z,wr.cell? z=w.cell? z:=fun z=>by rw [hwq];rfl
   rw [<-cw] at c0 c1 c2 c3 d0 d1 d2 d3;have HQ:=hid hwq;clear c4 d4 cw hwq;obtain ⟨rk,rn,rs,rc⟩:=r;dsimp only at c0 c1 c2 c3 d0 d1 d2 d3 HI hr;generalize rc.length=m at*;go_wp2;go_quiet ((exact Calls.quiet_of (HI _)));go_wp2;go_roundw
   case rel=>exact ⟨k+1,_,by omega,by go_num,by rw [HQ.out,yc4]⟩
   case measure=>simp [intOf];omega
  ·have HQ:=hid hwq;clear hwq;go_wp2;go_ret;exact ⟨rfl,q,HQ.out⟩
def ztq (w:World) (e:Ending) (w':World):Prop:=
 ∃B v L now aa ab ao ac T,e= .returned (.tuple #[v,.int .i64 now,.slice aa (List.length T) ac])/\zaw w' B v L/\zhw (L.map KV.key)/\L.length<=83/\zdg w' aa ab ao T.length T/\T.length<=6/\T.length<=ac/\(∀s∈T,s.size<=20)/\Bl w w'
theorem zvn {rb n c:Nat} {M:List KV} (hrb:w.heap.size<=rb) (b1:Bl w w1) (hS:zgu w1 rb a n c v M w'):Bl w w':=by
 obtain ⟨g1,g2,g3,g4,g5⟩:=hS.grown;exact b1.trans ⟨g1,g2,g3,g4,fun k hk=>g5 k (Qr hk b1.size) (by intro h;injection h with h;omega)⟩
theorem ydt (a:Option Addr) (n c:Nat) (w:World) (hn:n<=9223372036854775807) (hb:BytesIn w a n w.heap.size):
  Calls prog 13 #[.slice a n c] w (ztq w):=by
 have HO:Hid (∃rb,w.heap.size<=rb/\Cp 39 #[.slice a n c] w fun e w'=>e= .returned (.pointer (some ⟨rb,0,none⟩))/\Rd w' rb a n c/\Bl w w'):=⟨w.heap.size,Qc _,yeb a n c w hn hb⟩;clear hb;obtain ⟨rb,hrb,HO⟩:=HO.out;have HRB:=hid hrb;clear hrb;go_enter func13,ntmps13;go_wp2_with fail;refine HO.mono ?_;rintro e w1 ⟨rfl,rd1,b1⟩;have hlt:rb<w1.heap.size:=by
  obtain ⟨p,_,hr⟩:=rd1.row;exact hr.lt
 have HB1:=hid b1;clear b1 HO;go_wp2_with fail;refine (yiv rb a n c w1 rd1 hlt).mono ?_;rintro e w2 ⟨v,M,rfl,hS,hM⟩;have HS2:=hid hS;have HM:=hid hM;clear hS hM rd1;go_wp2_with fail;refine (zga rb a n c 9 w2 HS2.out.rd (by omega) (by omega)).mono ?_;rintro e w3 ⟨k,rfl,k0,k1,r3,g3⟩;have HS3:=hid (HS2.out.read hlt r3 g3);clear HS2 r3 g3;go_wp2_with fail;refine (zc7 rb a n c 24 w3 HS3.out.rd (by omega) (by omega)).mono ?_;rintro e w4 ⟨b4,rfl,r4,g4⟩;have HS4:=hid (HS3.out.read hlt r4 g4);clear HS3 r4 g4;cases b4 with
 |false=>
  go_wp2_with fail;refine (zn5 rb a n c w4 HS4.out.rd (HS4.out.lt hlt)).mono ?_;rintro e w5 ⟨x,B,off,cap,ss,rfl,hs,hl,hcap,r5,g5,hz⟩;have HS5:=hid (HS4.out.read hlt r5 g5);have HF:Hid (ztq w (.returned (.tuple #[v,.int .i64 k,.slice x ss.length cap])) w5):=⟨_,v,M,k,x,B,off,cap,ss,rfl,HS5.out.own,HS5.out.fit,HM.out,hs,hl,hcap,hz,zvn HRB.out HB1.out HS5.out⟩;clear hs hz r5 g5 HS4 HS5 HM HB1 HRB;generalize ss.length=m at*;go_wp2;go_ret3;exact HF.out
 |true=>
  go_wp2_with fail;refine (Hp.zmb rb a n c 0 1000000000 w4 HS4.out.rd (by omega) (by omega) (by omega)).mono ?_;rintro e w8 ⟨d,rfl,hd1,hd2,r8,g8⟩;have HS8:=hid (HS4.out.read hlt r8 g8);clear HS4 r8 g8;go_wp2_with fail;refine (zn5 rb a n c w8 HS8.out.rd (HS8.out.lt hlt)).mono ?_;rintro e w5 ⟨x,B,off,cap,ss,rfl,hs,hl,hcap,r5,g5,hz⟩;have HS5:=hid (HS8.out.read hlt r5 g5);have HF:Hid (ztq w (.returned (.tuple #[v,.int .i64 d,.slice x ss.length cap])) w5):=⟨_,v,M,d,x,B,off,cap,ss,rfl,HS5.out.own,HS5.out.fit,HM.out,hs,hl,hcap,hz,zvn HRB.out HB1.out HS5.out⟩;clear hs hz r5 g5 HS8 HS5 HM HB1 HRB;generalize ss.length=m at*;go_wp2;go_ret3;exact HF.out
open Go.RowKit
open Rb (zce zix zfm)
def zlq (R:List Rp):Bool:=decide (R.length=1)&&decide ((R.getD 0 ⟨0,0,⟨#[]⟩,[]⟩).kind=2)
theorem ziw {k n:Int} {s:ByteArray} (hk:k≠2):zlq [⟨k,n,s,[]⟩]=false:=by
 unfold zlq;simp [hk]
structure Left (ks:List Ke) (now:Int) (x:List Ke×List Rp):Prop where
 err:zlq x.2=true->x.1=ks
 ok:zan x.1=true
 live:∀k∈x.1,zbq now k=true
section
variable {ks : List Ke} {now : Int}
theorem zdp (h:zan ks=true) (hl:∀k∈ks,zbq now k=true) (R:List Rp):Left ks now (ks,R):=⟨fun _=>rfl,h,hl⟩
theorem zqt (h:zan ks=true) (hl:∀k∈ks,zbq now k=true) (nm:ByteArray) (hR:zlq R=false):Left ks now (zbl ks nm,R):=
 ⟨fun e=> (by rw [hR] at e;cases e),zix h nm,fun k hk=>hl k (List.mem_filter.1 hk).1⟩
theorem zlx (hl:∀k∈ks,zbq now k=true) (hk:zbq now k=true) (hs:zan (zaq ks k)=true) (hR:zlq R=false):Left ks now (zaq ks k,R):=
 ⟨fun e=> (by rw [hR] at e;cases e),hs,fun y hy=>by
  rcases zg9 hy with q|q
  ·exact hl y q
  ·rw [q];exact hk⟩
theorem zha (h:zan ks=true) (hl:∀k∈ks,zbq now k=true) (hk:zbq now k=true) (hR:zlq R=false):Left ks now (za1 ks k R):=by
 unfold za1;split
 ·exact zqt h hl _ hR
 ·split
  ·rename_i hs;exact zlx hl hk hs hR
  ·exact zdp h hl _
theorem zt9 (h:zan ks=true) (hl:∀k∈ks,zbq now k=true) (hk:k∈ks) {d:Int} (h0:0<=d) (h1:d<=1000000000) (ha:zbq now (k.withDue d)=true) (hR:zlq R=false):Left ks now (zaq ks (k.withDue d),R):=by
 refine zlx hl ha ?_ hR;have hq:zd5 ks:=zfu h;have q:=zh2 hq hk h0 h1;rw [zfm h,Qe q.1,Bool.and_true];have:=hq.2 k hk;unfold zfo zdr at this ⊢;simp only [Qh,decide_eq_true_eq] at this ⊢;exact ⟨this.1,this.2.1,h0,h1⟩
theorem ybe (h:zan ks=true) (hl:∀k∈ks,zbq now k=true) (hk:zbq now k=true):Left ks now (zhk c ks k th T):=by
 unfold zhk;split<;>repeat (first|exact zdp h hl _|exact zha h hl (k:=_) (by exact hk) (ziw (by decide))|split)
theorem zwa (h:zan ks=true) (hl:∀k∈ks,zbq now k=true) (hk:zbq now k=true):Left ks now (zet c ks k th T):=by
 unfold zet;split<;>repeat (first|exact zdp h hl _|exact zha h hl (k:=_) (by exact hk) (ziw (by decide))|split)
theorem ybj (h:zan ks=true) (hl:∀k∈ks,zbq now k=true) (hk:zbq now k=true):Left ks now (zhl c ks k T):=by
 unfold zhl;split<;>repeat (first|exact zdp h hl _|exact zha h hl (k:=_) (by exact hk) (ziw (by decide))|split)
theorem zy8 (h:zan ks=true) (hl:∀k∈ks,zbq now k=true) (hk:zbq now k=true):Left ks now (zfl c ks k T):=by
 unfold zfl;split<;>repeat (first|exact zdp h hl _|exact zha h hl (k:=_) (by exact hk) (ziw (by decide))|split)
theorem ya3 {x:Int} (hx:1<=x):zbq now (k.withDue (now+x))=true:=by
 unfold zbq Ke.withDue;simp only [Bool.or_eq_true,decide_eq_true_eq];exact .inr (by omega)
theorem yew (h:zan ks=true) (hl:∀k∈ks,zbq now k=true) (h1:k.due≠0->k∈ks) (h2:th=true->k∈ks) (hn:0<=now/\now<=1000000000):Left ks now (anyM c ks k th now T):=by
 have hz:∀nm t,zbq now (zca nm t 0)=true:=fun nm t=>rfl;have hz2:∀nm t x,1<=x->zbq now (zca nm t (now+x))=true:=fun nm t x hx=>by
  unfold zbq zca;simp only [Bool.or_eq_true,decide_eq_true_eq];exact .inr (by omega)
 unfold anyM;split<;>repeat (first|exact zdp h hl _|exact zha h hl (hz _ _) (ziw (by decide))|exact zha h hl (hz2 _ _ _ (by omega)) (ziw (by decide))|exact zt9 h hl (h1 (by assumption)) (by omega) (by omega) rfl (ziw (by decide))|exact zt9 h hl (h2 (by assumption)) (by omega) (by omega) (ya3 (by omega)) (ziw (by decide))|exact zqt h hl _ (ziw (by decide))|split)
theorem zvt:∀(T:List ByteArray) (s:List Ke×Nat),zan s.1=true->(∀k∈s.1,zbq now k=true)->zan (T.foldl (zcs true) s).1=true/\∀k∈(T.foldl (zcs true) s).1,zbq now k=true
 | [],s,a,b=>⟨a,b⟩
 |t::T,s,a,b=>by
  rw [List.foldl_cons];refine zvt T _ ?_ ?_<;>unfold zcs<;>split
  ·exact a
  ·exact zix a t
  ·exact b
  ·exact fun k hk=>b k (List.mem_filter.1 hk).1
theorem ybq (h:zan ks=true) (hl:∀k∈ks,zbq now k=true):Left ks now (zgr c ks T):=by
 cases c using Cm.elim
 case DEL=>
  obtain ⟨a,b⟩:=zvt T (ks,0) h hl;exact ⟨fun e=> (by cases e),a,b⟩
 case FLUSHALL=>exact ⟨fun e=> (by cases e),rfl,fun k hk=> (by cases hk)⟩
 all_goals exact zdp h hl _
theorem znv (h:zan ks=true) (hl:∀k∈ks,zbq now k=true) (hk:zbq now k=true) (h1:k.due≠0->k∈ks) (h2:th=true->k∈ks) (hn:0<=now/\now<=1000000000):Left ks now (zc3 c ks k th now T):=by
 unfold zc3;split
 ·exact ybe h hl hk
 ·exact zwa h hl hk
 ·exact ybj h hl hk
 ·exact zy8 h hl hk
 ·exact yew h hl h1 h2 hn
theorem left_done (h:zan ks=true) (hl:∀k∈ks,zbq now k=true) (hn:0<=now/\now<=1000000000):Left ks now (ze2 ks now T):=by
 unfold ze2;split
 ·exact zdp h hl _
 ·split
  ·split
   ·exact ybq h hl
   ·unfold ztx;split
    ·exact znv h hl rfl (fun e=>absurd rfl e) (fun e=>by cases e) hn
    ·rename_i hf;split
     ·exact zdp h hl _
     ·have hm:ks.getD (zd1 ks (zaj T.tail 0) 0).toNat ke0∈ks:=by
       rcases zgj ks (zaj T.tail 0) 0 with e|⟨i,hi,e⟩
       ·exact absurd (by rw [e];decide) hf
       ·rw [e,Int.toNat_natCast,Qq,Qa,Qd hi];exact Qv hi
      exact znv h hl (hl _ hm) (fun _=>hm) (fun _=>hm) hn
  ·exact zdp h hl _
end
theorem zw5 {ks:List Ke} {now:Int}:∀k∈za5 ks now,zbq now k=true:=fun _ hk=> (List.mem_filter.1 hk).2
theorem zt0 {ks:List Ke} {now:Int} (h:∀k∈ks,zbq now k=true):za5 ks now=ks:=List.filter_eq_self.2 h
def DbR (w:World) (v:Value) (ks:List Ke):Prop:=∃a A c L,v= .slice a ks.length c/\zoe w a A L.length L/\L.map KV.key=ks
def RpR (w:World) (v:Value) (R:List Rp):Prop:=∃a g c,v= .slice a R.length c/\yg4 w a g R
theorem DbR.bw {ks:List Ke} (h:DbR w v ks) (hb:Bl w w'):DbR w' v ks:=by
 obtain ⟨a,A,c,L,e,hd,hk⟩:=h;exact ⟨a,A,c,L,e,hd.bw hb,hk⟩
theorem RpR.bw (h:RpR w v R) (hb:Bl w w'):RpR w' v R:=by
 obtain ⟨a,g,c,e,hr⟩:=h;exact ⟨a,g,c,e,hr.bw hb⟩
theorem zto (h:zaw w B v L):DbR w v (L.map KV.key):=by
 obtain ⟨a,A,c,e,hd⟩:=h.at;exact ⟨a,A,c,L,by rw [Qp];exact e,hd,rfl⟩
def zm0 (w:World) (p:List Ke×List Rp) (e:Ending) (w':World):Prop:=
 ∃v r,e= .returned (.tuple #[v,r])/\DbR w' v p.1/\RpR w' r p.2/\Bl w w'
theorem ybv {p:List Ke×List Rp} (h:Rb.zl6 w p e w'):zm0 w p e w':=by
 obtain ⟨v,r,L,rfl,hk,ho,hv,hr,hb⟩:=h;obtain ⟨a,A,c,e,hks⟩:=zhy ho;exact ⟨v,r,rfl,⟨a,A,c,L,by rw [<-hk,Qp];exact e,⟨hks,fun i hi=>⟨_,hv.own _ (by rw [Qa,Qd hi];exact Qv hi)⟩⟩,hk⟩,yfp hr,hb⟩
theorem zy0 {p:List Ke×List Rp} (h:zbd w B p e w'):zm0 w p e w':=by
 obtain ⟨v,r,L,rfl,hk,ho,hr,hb⟩:=h;exact ⟨v,r,rfl,by rw [<-hk];exact zto ho,yfp hr,hb⟩
theorem znw (h:Rb.yav w ad) (hb:Bl w W):Rb.yav W ad:=by
 have hs:=hb.size;have n25:=h.es.er.n25;have q:=h.es.bw hb;refine ⟨⟨⟨q.er.rd,q.er.fd,fun i hi=>⟨(q.er.er i hi).1,Qr (q.er.er i hi).2 hs⟩,by omega⟩,q.ms⟩,fun i hi=> (h.ev i hi).bw hb n25 (h.ev i hi).low,h.ne,(hb.cell (p:=⟨3,0,none⟩) (by show 3<_;omega)).trans h.g7⟩
def zzv (ks:List Ke):Prop:=zhw ks/\ks.length<=1000
theorem zlo (h:zhw (L.map KV.key)):Small L:=fun i hi=>by
 have k:=h _ (List.mem_map.2 ⟨L.getD i kv0,by rw [Qa,Qd hi];exact Qv hi,rfl⟩);exact ⟨⟨k.fit.fit,k.np,k.nums⟩,k.fit.name⟩
theorem yhr {ks:List Ke} (h:zan ks=true):zzv ks:=by
 obtain ⟨h1,h2⟩:=zrs h;exact ⟨h1,by omega⟩
theorem znu (v:Value) (ks:List Ke) (now:Int) (aa:Option Addr) (ab ao m ac:Nat) (T:List ByteArray) (ad:Nat->Addr) (w:World) (h:DbR w v ks) (hg:zzv ks) (ha:zdg w aa ab ao m T) (hm:m<=1000) (hac:m<=ac) (hE:Rb.yav w ad):
  Calls prog 14 #[v,.int .i64 now,.slice aa m ac] w (zm0 w (za2 ks now T)):=by
 obtain ⟨a,A,c,L,rfl,hd,rfl⟩:=h;have hl:=hg.2;rw [Qp] at hl ⊢;exact (Rb.zs4 a A L.length c L now aa ab ao m ac T ad w hd (zlo hg.1) (by omega) ha hm hac hE).mono fun e w' he=>ybv he
theorem zvx (B:Nat) (v:Value) (L:List KV) (now:Int) (aa:Option Addr) (ab ao m ac:Nat) (T:List ByteArray) (w:World) (h:zaw w B v L) (hg:zzv (L.map KV.key)) (ha:zdg w aa ab ao m T) (hm:m<=1000) (hac:m<=ac):
  Calls prog 15 #[v,.int .i64 now,.slice aa m ac] w (zm0 w (za2 (L.map KV.key) now T)):=by
 have hl:=hg.2;rw [Qp] at hl;exact (zj3 B v L now aa ab ao m ac T w h hg.1.k hl ha hm hac).mono fun e w' he=>zy0 he
theorem zun (v v':Value) (ks:List Ke) (w:World) (h:DbR w v ks) (h':DbR w v' ks) (hk:zan ks=true\/ks=[]):
  Calls prog 16 #[v,v'] w fun e w'=>e= .returned (.bool true)/\Bl w w':=by
 obtain ⟨a,A,c,L,rfl,hd,rfl⟩:=h;obtain ⟨a',A',c',L',rfl,hd',hk'⟩:=h';have hl:L'.length=L.length:=by rw [<-Qp (f:=KV.key),hk',Qp]
 have hs:L.length<=20/\∀i,i<L.length->zf8 (L.getD i kv0).key:=by
  rcases hk with hk|hk
  ·obtain ⟨k1,k2⟩:=zfu hk;rw [Qp] at k1;exact ⟨k1,fun i hi=>zi8 (k2 _ (List.mem_map.2 ⟨L.getD i kv0,by rw [Qa,Qd hi];exact Qv hi,rfl⟩))⟩
  ·have:L.length=0:=by rw [<-Qp (f:=KV.key),hk];rfl
   exact ⟨by omega,fun i hi=>by omega⟩
 rw [hl] at hd';rw [Qp];exact zxt a a' A A' L.length c c' L L' w hd hd' hk' hs.2 (by omega)
theorem zjk (r r':Value) (R:List Rp) (w:World) (h:RpR w r R) (h':RpR w r' R) (hR:R=[]\/RpS R):
  Calls prog 17 #[r,r'] w fun e w'=>e= .returned (.bool true)/\Bl w w':=by
 obtain ⟨a,g,c,rfl,hr⟩:=h;obtain ⟨a',g',c',rfl,hr'⟩:=h';have hs:R.length<=41/\∀r∈R,r.kids.length<=41:=by
  rcases hR with rfl|⟨_,h2,h3⟩
  ·exact ⟨by simp,fun r hr=>by cases hr⟩
  ·exact ⟨h2,fun r hr=> (h3 r hr).1⟩
 refine (zqk a a' g g' c c' R w hr hr' (by omega) (fun r hr=>by have:=hs.2 r hr;omega)).mono ?_;rintro e w' ⟨rfl,q,rfl⟩;exact ⟨rfl,Hp.below_drewN w q⟩
theorem yhk (v:Value) (ks:List Ke) (now:Int) (w:World) (h:DbR w v ks) (hg:zzv ks) (hR:Ready w):
  Calls prog 19 #[v,.int .i64 now] w fun e w'=>∃v',e= .returned v'/\DbR w' v' (Ri.zh3 now ks)/\Bl w w':=by
 obtain ⟨a,A,c,L,rfl,hd,rfl⟩:=h;have hl:=hg.2;rw [Qp] at hl ⊢;refine (Ri.zih a A L.length c L now w hd (zlo hg.1) (by omega) hR).mono ?_;rintro e w' ⟨v',L',rfl,ho,hk,hb⟩;exact ⟨v',rfl,by rw [<-hk];exact zto ho,hb⟩
theorem zy2 {ks:List Ke} (h:zan ks=true) (now:Int):Ri.zh3 now ks=za5 ks now:=by
 unfold Ri.zh3;rw [if_pos h,Rb.zo1]
theorem zmx (ks:List Ke) (now:Int) (T:List ByteArray):(zf6 ks now T=false/\za2 ks now T=([],[]))\/(zf6 ks now T=true/\zan ks=true/\(0<=now/\now<=1000000000)/\T.length<=16/\1<=T.length/\(∀i,i<T.length->(zaj T i).size<=200)/\za2 ks now T=ze2 (za5 ks now) now T/\Left (za5 ks now) now (ze2 (za5 ks now) now T)/\RpS (ze2 (za5 ks now) now T).2):=by
 cases h:zf6 ks now T with
 |false=>exact .inl ⟨rfl,by unfold za2;rw [h,if_neg (by simp)]⟩
 |true=>
  have h0:=h;unfold zf6 at h;simp only [Qh,decide_eq_true_eq] at h;obtain ⟨h1,h2,h3,h4⟩:=h;unfold zdr at h2;simp only [Qh,decide_eq_true_eq] at h2;obtain ⟨u1,u2⟩:=zpq h4;exact .inr ⟨rfl,h1,h2,u1,h3,u2,by unfold za2;rw [h0,if_pos rfl],left_done (Rb.zua h1 now) zw5 h2,yg8 (zn0 (zfu h1)) u2⟩
structure zjm (w1:World) (v:Value) (ks:List Ke) (now:Int) (aa:Option Addr) (ab ao m ac:Nat) (T:List ByteArray) (ad:Nat->Addr):Prop where
 own:∃B L,zaw w1 B v L/\L.map KV.key=ks
 good:zzv ks
 args:zdg w1 aa ab ao m T
 len:T.length=m
 few:m<=6
 cap:m<=ac
 env:Rb.yav w1 ad
theorem zjm.bw {ks:List Ke} {now:Int} (h:zjm w1 v ks now aa ab ao m ac T ad) (hb:Bl w1 W):zjm W v ks now aa ab ao m ac T ad:=by
 obtain ⟨B,L,ho,hk⟩:=h.own;exact ⟨⟨B,L,ho.bw hb,hk⟩,h.good,zdb h.args hb,h.len,h.few,h.cap,znw h.env hb⟩
theorem zjm.db {ks:List Ke} {now:Int} (h:zjm w1 v ks now aa ab ao m ac T ad):DbR w1 v ks:=by
 obtain ⟨B,L,ho,rfl⟩:=h.own;exact zto ho
theorem zjm.impl {ks:List Ke} {now:Int} (h:zjm w1 v ks now aa ab ao m ac T ad):
  Calls prog 14 #[v,.int .i64 now,.slice aa m ac] w1 (zm0 w1 (za2 ks now T)):=
 znu v ks now aa ab ao m ac T ad w1 h.db h.good h.args (by have:=h.few;omega) h.cap h.env
theorem zjm.spec {ks:List Ke} {now:Int} (h:zjm w1 v ks now aa ab ao m ac T ad):
  Calls prog 15 #[v,.int .i64 now,.slice aa m ac] w1 (zm0 w1 (za2 ks now T)):=by
 have hf:=h.few;have hg:=h.good;obtain ⟨B,L,ho,rfl⟩:=h.own;exact zvx B v L now aa ab ao m ac T w1 ho hg h.args (by omega) h.cap
theorem zz0 (a:Option Addr) (n c:Nat) (w:World) (hn:n<=9223372036854775807) (hb:BytesIn w a n w.heap.size) (ad:Nat->Addr) (hE:Rb.yav w ad):
  Calls prog 13 #[.slice a n c] w fun e w1=>∃v ks now aa ab ao m ac T,e= .returned (.tuple #[v,.int .i64 now,.slice aa m ac])/\zjm w1 v ks now aa ab ao m ac T ad/\Bl w w1:=by
 refine (ydt a n c w hn hb).mono ?_;rintro e w1 ⟨B,v,L,now,aa,ab,ao,ac,T,rfl,hd1,hf1,hl1,hz1,ht1,hc1,hs1,b1⟩;exact ⟨v,L.map KV.key,now,aa,ab,ao,T.length,ac,T,rfl,⟨⟨B,L,hd1,rfl⟩,⟨hf1,by rw [Qp];omega⟩,hz1,rfl,ht1,hc1,znw hE b1⟩,b1⟩
def yhf:List Cm:=[5,6,23,12,24,20,13,14,15,21,22,25,7,8,28,1,3,0,4]
theorem zjn {p:Prop} [Decidable p] (ks:List Ke) (A B:List Rp):(if p then (ks,A) else (ks,B)).1=ks:=by
 split<;>rfl
theorem zq1 (hc:c∈yhf) (ks:List Ke) (k:Ke) (th:Bool) (now:Int) (T:List ByteArray):(c.many=true/\(zgr c ks T).1=ks)\/(zc3 c ks k th now T).1=ks:=by
 simp only [yhf,List.mem_cons,List.not_mem_nil,or_false] at hc;rcases hc with rfl|rfl|rfl|rfl|rfl|rfl|rfl|rfl|rfl|rfl|rfl|rfl|rfl|rfl|rfl|rfl|rfl|rfl|rfl
 ·exact .inr rfl
 ·exact .inr rfl
 ·exact .inr (zjn ks _ _)
 ·exact .inr rfl
 ·exact .inr (zjn ks _ _)
 ·exact .inr (zjn ks _ _)
 ·exact .inr rfl
 ·exact .inr rfl
 ·exact .inr rfl
 ·exact .inr (zjn ks _ _)
 ·exact .inr (zjn ks _ _)
 ·exact .inr (zjn ks _ _)
 ·exact .inr rfl
 ·exact .inr rfl
 ·exact .inl ⟨rfl,rfl⟩
 ·exact .inl ⟨rfl,rfl⟩
 ·exact .inl ⟨rfl,rfl⟩
 ·exact .inl ⟨rfl,rfl⟩
 ·exact .inl ⟨rfl,rfl⟩
theorem ych (hc:c∈yhf) (ks:List Ke) (now:Int) (T:List ByteArray) (hT:zlt (zcv (zaj T 0))=some c):(ze2 ks now T).1=ks:=by
 unfold ze2;rw [hT];dsimp only;split
 ·split
  ·rename_i hm;have hm2:(zgr c ks T.tail).1=ks:=by
    simp only [yhf,List.mem_cons,List.not_mem_nil,or_false] at hc;rcases hc with rfl|rfl|rfl|rfl|rfl|rfl|rfl|rfl|rfl|rfl|rfl|rfl|rfl|rfl|rfl|rfl|rfl|rfl|rfl<;>rfl
   exact hm2
  ·rename_i hm;unfold ztx;split
   ·rcases zq1 hc ks (zkh (zaj T.tail 0) c.kind) false now T.tail with ⟨h1,_⟩|h1
    ·exact absurd h1 hm
    ·exact h1
   ·split
    ·rfl
    ·rcases zq1 hc ks (ks.getD (zd1 ks (zaj T.tail 0) 0).toNat ke0) true now T.tail with ⟨h1,_⟩|h1
     ·exact absurd h1 hm
     ·exact h1
 ·rfl
def zya:List ByteArray:=yhf.map Cm.text
theorem yc9:(yhf.all fun c=>decide (zlt (zcv c.text)=some c))=true:=by kernel_rfl
theorem ydm {t:ByteArray} (h:t∈zya):∃c∈yhf,zlt (zcv t)=some c:=by
 obtain ⟨c,hc,rfl⟩:=List.mem_map.1 h;exact ⟨c,hc,Qg (Qw.1 yc9 c hc)⟩
theorem zwp {ks:List Ke} {now:Int} (h:zan ks=true) (hl:∀k∈ks,zbq now k=true) (hn:0<=now/\now<=1000000000) (h1:1<=T.length) (h16:T.length<=16) (hs:∀t∈T,t.size<=200):za2 ks now T=ze2 ks now T:=by
 have ha:zgs T=true:=by
  unfold zgs;rw [Qh,Qw];refine ⟨fun i hi=>Qe ?_,Qe h16⟩;have hi:=List.mem_range.1 hi;rw [Qa,Qd hi];exact hs _ (Qv hi)
 have ho:zf6 ks now T=true:=by
  unfold zf6 zdr;rw [h,ha,Qe hn.1,Qe hn.2,Qe h1];rfl
 unfold za2;rw [ho,if_pos rfl,zt0 hl]
abbrev ykh:Array Value:= #[.string ⟨#[71,69,84]⟩,.string ⟨#[83,84,82,76,69,78]⟩,.string ⟨#[71,69,84,82,65,78,71,69]⟩,.string ⟨#[76,76,69,78]⟩,.string ⟨#[76,82,65,78,71,69]⟩,.string ⟨#[72,71,69,84]⟩,.string ⟨#[72,76,69,78]⟩,.string ⟨#[72,71,69,84,65,76,76]⟩,.string ⟨#[90,67,65,82,68]⟩,.string ⟨#[90,83,67,79,82,69]⟩,.string ⟨#[90,82,65,78,75]⟩,.string ⟨#[90,82,65,78,71,69]⟩,.string ⟨#[84,89,80,69]⟩,.string ⟨#[84,84,76]⟩,.string ⟨#[69,88,73,83,84,83]⟩,.string ⟨#[75,69,89,83]⟩,.string ⟨#[68,66,83,73,90,69]⟩,.string ⟨#[80,73,78,71]⟩,.string ⟨#[69,67,72,79]⟩]
theorem ygd:∀k,k<19->ykh[k]?=some (.string (zya.getD k empty))
 |0,_=>rfl
 |1,_=>rfl
 |2,_=>rfl
 |3,_=>rfl
 |4,_=>rfl
 |5,_=>rfl
 |6,_=>rfl
 |7,_=>rfl
 |8,_=>rfl
 |9,_=>rfl
 |10,_=>rfl
 |11,_=>rfl
 |12,_=>rfl
 |13,_=>rfl
 |14,_=>rfl
 |15,_=>rfl
 |16,_=>rfl
 |17,_=>rfl
 |18,_=>rfl
 |k+19,h=>by omega
theorem ygo {k:Nat} (h:k<19):zya.getD k empty∈zya:=by
 have hl:zya.length=19:=by kernel_rfl
 rw [Qa,Qd (by omega)];exact Qv _
theorem zwu (a:Option Addr) (n c:Nat) (w:World) (hn:n<=9223372036854775807) (hb:BytesIn w a n w.heap.size) (ad:Nat->Addr) (hE:Rb.yav w ad):
  Calls prog 4 #[.slice a n c] w fun e w'=>e= .returned (.bool true)/\Below w.heap.size w w':=by
 have HBG:=hid (ygb a n c w hn);have HDR:=hid (zz0 a n c w hn hb ad hE);clear hb hE;go_enter func4,ntmps4;go_wp2_with fail;refine HBG.out.mono ?_;rintro e w0 ⟨rfl,hw0⟩;subst hw0;clear HBG;by_cases hbig:1048576<n
 ·rw [Qe hbig];clear HDR;go_wp2;go_ret;exact ⟨rfl,Qb _ _⟩
 rw [Qf hbig];go_wp2_with fail;refine HDR.out.mono ?_;rintro e w1 ⟨v,ks,now,aa,ab,ao,m,ac,T,rfl,hD,b1⟩;clear HDR hn hbig;have HD:=hid hD;have HI:=hid hD.impl;have HC:Hid _:=zmx ks now T;clear hD;generalize hp:za2 ks now T=p at*;have HP:Hid (za2 ks now T=p):=hp;clear hp;go_wp2_with fail;refine HI.out.mono ?_;rintro e w2 ⟨v2,r2,rfl,hd2,hr2,b2⟩;have HS:Hid (Cp 15 #[v,.int .i64 now,.slice aa m ac] w2 (zm0 w2 p)):=by
  have:=(HD.out.bw b2).spec;rw [HP.out] at this;exact this
 have HD2:Hid (DbR w2 v2 p.1):=hd2;have HR2:Hid (RpR w2 r2 p.2):=hr2;clear hd2 hr2 HI;go_wp2_with fail;refine HS.out.mono ?_;rintro e w3 ⟨v3,r3,rfl,hd3,hr3,b3⟩;have b13:Below w1.heap.size w1 w3:=b2.trans (b3.mono b2.size);have b03:Below w0.heap.size w0 w3:=b1.trans (b13.mono b1.size);have HD3:Hid (zjm w3 v ks now aa ab ao m ac T ad):=HD.out.bw b13;have HD32:Hid (DbR w3 v2 p.1):=HD2.out.bw b3;have HR32:Hid (RpR w3 r2 p.2):=HR2.out.bw b3;have HR33:Hid (RpR w3 r3 p.2):=hr3;have HEND:Hid (∀W,Below w3.heap.size w3 W->Below w0.heap.size w0 W):=fun W hW=>b03.trans (hW.mono b03.size);clear hd3 hr3 HS HD HD2 HR2 b1 b2 b3 b13 b03;rcases HC.out with ⟨_,e0⟩|⟨_,hok,hnow,h16,h1,hs,e0,hL,hS⟩
 ·rw [e0] at HD32 HR32 HR33;have HSR:=hid fun W (hW:Below w3.heap.size w3 W)=>zjk r2 r3 [] W (HR32.out.bw hW) (HR33.out.bw hW) (.inl rfl);obtain ⟨ar,gr,cr,er,_⟩:=HR32.out;have er:r2= .slice ar 0 cr:=er;clear HD32 HR32 HR33 e0 HC HD3 HP;subst er;go_wp2_with fail;refine (HSR.out _ (Qb _ _)).mono ?_;rintro e w4 ⟨rfl,b4⟩;go_wp2_with fail;refine (HSR.out _ b4).mono ?_;rintro e w5 ⟨rfl,b5⟩;have HF:=hid (HEND.out _ (b4.trans (b5.mono b4.size)));clear b4 b5 HEND HSR;go_wp2;go_ret;exact ⟨rfl,HF.out⟩
 ·rw [<-e0] at hL hS;have HSR:=hid fun W (hW:Below w3.heap.size w3 W)=>zjk r2 r3 p.2 W (HR32.out.bw hW) (HR33.out.bw hW) (.inr hS);have HAL:Hid (∀W,Below w3.heap.size w3 W->Cp 19 #[v,.int .i64 now] W fun e w'=>∃v',e= .returned v'/\DbR w' v' (za5 ks now)/\Below W.heap.size W w'):=fun W hW=>by
   have hD:=HD3.out.bw hW;have:=yhk v ks now W hD.db hD.good hD.env.es.er.rd;rw [zy2 hok] at this;exact this
  have HAK:Hid (T.getD 0 empty∈zya->p.1=za5 ks now):=fun ht=>by
   obtain ⟨cm,hc,hcm⟩:=ydm ht;rw [e0];exact ych hc _ now T hcm
  have HAG:Hid (T.getD 0 empty∈zya->∀W,Below w3.heap.size w3 W->Cp 14 #[v2,.int .i64 now,.slice aa m ac] W (zm0 W p)):=fun ht W hW=>by
   have hD:=HD3.out.bw hW;have:=znu v2 p.1 now aa ab ao m ac T ad W (HD32.out.bw hW) (yhr hL.ok) hD.args (by have:=hD.few;omega) hD.cap hD.env;have e1:za2 p.1 now T=p:=by
    rw [zwp hL.ok hL.live hnow h1 h16 (fun t ht=>by
     obtain ⟨i,hi,e⟩:=List.getElem_of_mem ht;have:=hs i hi;unfold zaj at this;rw [Qa,Qd hi,Option.getD_some,e] at this;exact this),HAK.out ht]
    exact e0.symm
   rw [e1] at this;exact this
  have HSA:Hid (T.getD 0 empty∈zya->∀W v',Below w3.heap.size w3 W->DbR W v' (za5 ks now)->Cp 16 #[v2,v'] W fun e w'=>e= .returned (.bool true)/\Below W.heap.size W w'):=fun ht W v' hW hv=>zun v2 v' p.1 W (HD32.out.bw hW) (by rw [HAK.out ht];exact hv) (.inl hL.ok);have HSM:=hid fun W v' (hW:Below w3.heap.size w3 W) (hv:DbR W v' p.1)=>zun v' v2 p.1 W hv (HD32.out.bw hW) (.inl hL.ok);have HSB:=hid fun W r' (hW:Below w3.heap.size w3 W) (hr:RpR W r' p.2)=>zjk r' r2 p.2 W hr (HR32.out.bw hW) (.inr hS);have HAR:Hid (∀W,Below w3.heap.size w3 W->aa=some ⟨ab,ao,none⟩/\W.cell? ⟨ab,ao,none⟩=some (.string (T.getD 0 empty))):=fun W hW=>by
   have hD:=HD3.out.bw hW;have hm:0<m:=by rw [<-hD.len];omega
   have:=hD.args.cell 0 hm;rw [Qy] at this;exact ⟨hD.args.addr hm,this⟩
  have hm1:1<=m:=by rw [<-HD3.out.len];exact h1
  have hl1:=hS.1;obtain ⟨ar,gr,cr,er,_⟩:=HR32.out;have eaa:=(HAR.out w3 (Qb _ _)).1;have HT0:=hid fun W (hW:Below w3.heap.size w3 W)=>(HAR.out W hW).2;clear HD32 HR32 HR33 e0 HC HD3 hL hS hok hnow h16 h1 hs HP HAR HAK;generalize p.2.length=lr,T.getD 0 empty=t0 at*;subst er;subst eaa;have hlr:((lr:Int)==0)=false:=by simp;omega
  have hlr2:¬lr=0:=by omega
  go_wp2_with fail;refine (HSR.out _ (Qb _ _)).mono ?_;rintro e w4 ⟨rfl,b4⟩;clear HSR;obtain ⟨W5,hW5,HW5,b5,r5⟩:=boxed w4 ykh 9;have HB5:=hid (b4.trans (b5.mono b4.size));have HR5:Hid (∀W,Below W5.heap.size W5 W->∀k,k<19->W.cell? ⟨w4.heap.size,k,none⟩=some (.string (zya.getD k empty))):=fun W hW k hk=> ((r5.bw hW r5.lt).cell k).trans (ygd k hk);have HT1:=hid fun W (hW:Below W5.heap.size W5 W)=>HT0.out W (HB5.out.trans (hW.mono HB5.out.size));clear r5 b5 b4 HT0 hW5;generalize hG:w4.heap.size=G at*;go_wp2_with fail;rw [HW5.out];clear HW5 hG;go_loopw [11] (fun i wr=>∃(k:Nat),k<=19/\i= .int .i64 k/\Below W5.heap.size W5 wr) (fun i _=>19-(intOf i).toNat)
  case atStart=>exact ⟨0,by omega,rfl,Qb _ _⟩
  case round=>
   obtain ⟨k,hk,rfl,bk⟩:=hrel;by_cases hlt:k<19
   ·have ck:=HR5.out wr bk k hlt;have c0:=HT1.out wr bk;have HM:=hid (ygo hlt);have hk0:(0:Int)<=(k:Int):=by omega
    have hk1:(k:Int)<19:=by omega
    have hm0:(0:Int)<(m:Int):=by omega
    generalize zya.getD k empty=tk at*;by_cases he:tk=t0
    ·subst he;have HAG2:=hid (HAG.out HM.out);have HSA2:=hid (HSA.out HM.out);have HBK:=hid fun q=>HB5.out.trans ((bk.trans ((Hp.below_drewN wr q).mono bk.size)).mono HB5.out.size);clear HAG HSA HM HR5 HT1;go_wp2;go_quiet ((fail));have HQ:=HBK.out nq;generalize wr.drewN nq=wq at*;clear HBK bk HB5;go_wp2_with fail;refine (HAG2.out _ HQ).mono ?_;rintro e w6 ⟨v6,r6,rfl,hd6,hr6,b6⟩;have c6:=HQ.trans (b6.mono HQ.size);have HD6:=hid hd6;have HR6:=hid hr6;clear hd6 hr6 HAG2 HQ b6;go_wp2_with fail;refine (HAL.out _ c6).mono ?_;rintro e w7 ⟨v7,rfl,hd7,b7⟩;have c7:=c6.trans (b7.mono c6.size);have HD7:=hid (HD6.out.bw b7);have HR7:=hid (HR6.out.bw b7);have HX:=hid (HSA2.out w7 v7 c7 hd7);clear hd7 HAL HSA2 c6 b7 HD6 HR6;go_wp2_with fail;refine HX.out.mono ?_;rintro e w8 ⟨rfl,b8⟩;have c8:=c7.trans (b8.mono c7.size);have HX2:=hid (HSM.out w8 v6 c8 (HD7.out.bw b8));have HR8:=hid (HR7.out.bw b8);clear HX HSM HD7 HR7 c7 b8;go_wp2_with fail;refine HX2.out.mono ?_;rintro e w9 ⟨rfl,b9⟩;have c9:=c8.trans (b9.mono c8.size);have HX3:=hid (HSB.out w9 r6 c9 (HR8.out.bw b9));clear HX2 HSB HR8 c8 b9;go_wp2_with fail;refine HX3.out.mono ?_;rintro e wA ⟨rfl,bA⟩;have HF:=hid (HEND.out _ (c9.trans (bA.mono c9.size)));clear HX3 HEND c9 bA;go_wp2;go_ret;exact ⟨rfl,HF.out⟩
    ·have hq:(tk.toList==t0.toList)=false:=by
      rw [beq_eq_false_iff_ne];intro h
      exact he (by
       rw [ByteArray.toList_eq,ByteArray.toList_eq] at h;obtain ⟨⟨x⟩⟩:=tk;obtain ⟨⟨y⟩⟩:=t0;have:x=y:=h;rw [this])
     have HBK:=hid fun q=>bk.trans ((Hp.below_drewN wr q).mono bk.size);clear HAG HSA HM HR5 HT1 HAL HSM HSB HEND HB5;go_wp2;go_quiet ((fail));go_wp2;go_roundw
     case rel=>exact ⟨k+1,by omega,by go_num,HBK.out _⟩
     case measure=>simp [intOf];omega
   ·obtain rfl:k=19:=by omega
    have HF:=hid (HEND.out _ (HB5.out.trans (bk.mono HB5.out.size)));clear HAG HSA HR5 HT1 HAL HSM HSB HEND HB5 bk;go_wp2;go_ret;exact ⟨rfl,HF.out⟩
end Go.Proofs.YtokafonppgppdaaGreatDoor.Er
