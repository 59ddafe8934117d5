import Derived.Test.YtokafonppgppdaaGreatDoorC42
import Derived.Test.YtokafonppgppdaaGreatDoorDc
import Derived.Test.YtokafonppgppdaaGreatDoorDd
set_option maxHeartbeats 4000000
set_option maxRecDepth 100000
namespace Go.Proofs.YtokafonppgppdaaGreatDoor
open Tryz
open Go.RowKit Go.Sort
variable {w W W':World} {B rb n c A:Nat} {v:Value} {a:Option Addr} {M:List KV}
theorem zaw.grown {w':World} {L:List KV} (h:zaw w B v L) (g:w.grownBy w' (some rb)) (hB:rb<B):zaw w' B v L:=by
 obtain ⟨β,hr⟩:=h.vals;refine ⟨zb9 h.row g hB,β,hr.low,hr.mono,Qj hr.top g.size,fun i hi=>?_,hr.lt1,hr.lt2,hr.lt3⟩;have hb:rb<β i:=Qr hB (hr.low i (Nat.le_of_lt hi));have ho:=hr.own i hi;exact ⟨zb9 ho.ia g hb,zb9 ho.pj g hb,zb9 ho.rq g hb⟩
structure zgu (w:World) (rb:Nat) (a:Option Addr) (n c:Nat) (v:Value) (M:List KV) (W:World):Prop where
 own:zaw W w.heap.size v M
 fit:zhw (M.map KV.key)
 rd:Rd W rb a n c
 grown:w.grownBy W (some rb)
theorem zgu.read (h:zgu w rb a n c v M W) (hrb:rb<w.heap.size) (r:Rd W' rb a n c) (g:W.grownBy W' (some rb)):zgu w rb a n c v M W':=
 ⟨h.own.grown g hrb,h.fit,r,h.grown.trans g⟩
theorem zgu.lt (h:zgu w rb a n c v M W) (hrb:rb<w.heap.size):rb<W.heap.size:=Qr hrb h.grown.size
theorem zgu.make {v':Value} {M':List KV} (h:zgu w rb a n c v M W) (hrb:rb<w.heap.size) (hd:zaw W' W.heap.size v' M') (hf:zhw (M'.map KV.key)) (hb:Bl W W'):zgu w rb a n c v' M' W':=
 ⟨hd.le h.grown.size,hf,h.rd.bw hb (h.lt hrb),zes h.grown (hb.mono h.grown.size)⟩
def zht (M:List KV) (d:Int):List KV:=match M with
 | []=> []
 |x::M=>⟨x.key.withDue d,x.vi,x.vp,x.vr⟩::M
theorem ycm (M:List KV) (d:Int) (h:0<M.length):(flatK M).set 6 (.int .i64 d)=flatK (zht M d):=by
 cases M with
 |nil=>simp at h
 |cons x M=>rfl
theorem zo9 (M:List KV) (d:Int):(zht M d).length=M.length:=by cases M<;>rfl
theorem zuh {d:Int} (h:zhw (M.map KV.key)):zhw ((zht M d).map KV.key):=by
 cases M with
 |nil=>exact h
 |cons x M=>
  intro k hk;rcases List.mem_cons.1 hk with e|e
  ·rw [e];exact (h x.key (by simp)).withDue d
  ·exact h k (List.mem_cons_of_mem _ e)
theorem yh7 (M:List KV) (d:Int) (i:Nat):((zht M d).getD i kv0).key.val=(M.getD i kv0).key.val/\((zht M d).getD i kv0).vi=(M.getD i kv0).vi/\((zht M d).getD i kv0).vp=(M.getD i kv0).vp/\((zht M d).getD i kv0).vr=(M.getD i kv0).vr:=by
 cases M with
 |nil=>exact ⟨rfl,rfl,rfl,rfl⟩
 |cons x M=>cases i<;>exact ⟨rfl,rfl,rfl,rfl⟩
theorem zlv {j:Nat} {e:TypeId} {size:Nat} {u:Value} {xs:List Value} {C:Array Value} (h:W.ownsRow B e size v n xs) (hr:zab W A 47 C) (he:e≠47):(W.setCell ⟨A,j,none⟩ u).ownsRow B e size v n xs:=
 zai h fun g hg=>by
  obtain ⟨D,hd⟩:=zbh h hg;refine Below.heap_setCell _ _ _ _ fun eq=>he ?_;have:g=A:=eq;subst this;have:=hr.symm.trans hd;simp at this;exact this.2.symm
theorem zry (d:Int) (h:zaw W B (.slice (some ⟨A,0,none⟩) M.length c) M) (h0:0<M.length):zaw (W.setCell ⟨A,6,none⟩ (.int .i64 d)) B (.slice (some ⟨A,0,none⟩) M.length c) (zht M d):=by
 obtain ⟨β,hr⟩:=h.vals;obtain ⟨C,hC⟩:=zbh h.row (g:=A) rfl;have hrow:=Hp.zkk (j:=6) (u:= .int .i64 d) h.row;rw [ycm M d h0] at hrow;refine ⟨by unfold znh;rw [zo9];exact hrow,β,?_⟩;have hl:=zo9 M d;refine ⟨fun i hi=>hr.low i (by omega),fun i j hij hj=>hr.mono i j hij (by omega),by rw [hl];exact Qj hr.top (by simp),fun i hi=>?_,fun i hi g hg=>?_,fun i hi g hg=>?_,fun i hi g hg=>?_⟩;all_goals obtain ⟨e1,e2,e3,e4⟩:=yh7 M d i
 ·have ho:=hr.own i (by omega);rw [e1,e2,e3,e4];exact ⟨zlv ho.ia hC (by decide),zlv ho.pj hC (by decide),zlv ho.rq hC (by decide)⟩
 ·rw [e2] at hg;exact hr.lt1 i (by omega) g hg
 ·rw [e3] at hg;exact hr.lt2 i (by omega) g hg
 ·rw [e4] at hg;exact hr.lt3 i (by omega) g hg
theorem ybb {v:Vl} (h:zb6 v) (nm:ByteArray) (hn:nm.size<=20) (d:Int):KGd ⟨nm,v,d⟩:=
 ⟨⟨⟨by have:=h.text;show v.text.size<=_;omega,by have:=h.ni;show v.ia.length<=_;omega,by have:=h.np;show v.pj.length<=_;omega,by have:=h.nr;show v.rq.length<=_;omega⟩,by show nm.size<=_;omega,(fun t ht=>by have:=h.ia t ht;omega)⟩,by have:=h.np;show v.pj.length<=_;omega,h.fit⟩
theorem yiv (rb:Nat) (a:Option Addr) (n c:Nat) (w:World) (h:Rd w rb a n c) (hrb:rb<w.heap.size):
  Calls prog 40 #[.pointer (some ⟨rb,0,none⟩),.int .i64 9] w fun e w'=>∃v M,e= .returned v/\zgu w rb a n c v M w'/\M.length<=83:=by
 have b0:Bl w (w.alloc (.cells #[] 47)):=(Qb _ w).alloc (Qc _) _;have HS0:Hid (zgu w rb a n c (.slice (some ⟨w.heap.size,0,none⟩) 0 0) [] (w.alloc (.cells #[] 47))):=⟨(zcn.empty w).db,fun k hk=> (by cases hk),h.bw b0 hrb,zes (za0 _ _) b0⟩;have r0:=HS0.out.rd;clear h b0;go_enter func40,ntmps40;go_wp2_with fail;refine (zde rb a n c 10 _ r0 (by omega) (by omega)).mono ?_;rintro e w1 ⟨j,rfl,hj,r1,g1⟩;have HS1:=hid (HS0.out.read hrb r1 g1);clear HS0 r0 r1 g1;go_wp2_with fail;go_loopw [5,6] (fun v i wr=>∃(k:Nat) (M:List KV),k<=9/\i= .int .i64 k/\Hid (M.length<=41)/\Hid (zgu w rb a n c v M wr)) (fun _ i _=> (intOf i).toNat)
 case atStart=>exact ⟨j,[],by omega,rfl,Qs _,HS1⟩
 case round=>
  obtain ⟨k,M,hk,rfl,hML,hS⟩:=hrel;clear HS1;by_cases h0:0<k
  ·have hd:(0:Int)<(k:Int):=by omega
   go_wp2_with fail;refine (zn5 rb a n c wr hS.out.rd (hS.out.lt hrb)).mono ?_;rintro e w2 ⟨x,B,off,cap,ss,rfl,hs,hl,hcap,r2,g2,_⟩;have HS2:=hid (hS.out.read hrb r2 g2);have HD:=hid (zj3 w.heap.size u5 M 0 x B off ss.length cap ss w2 HS2.out.own HS2.out.fit.k (by have:=hML.out;omega) hs (by omega) hcap);clear hS r2 g2 hs hcap;go_wp2_with fail;refine HD.out.mono ?_;rintro e w3 ⟨v',r',L',rfl,y1,y2,y3,y4⟩;have HG:Hid (zdy 41 (L'.map KV.key)):=by rw [y1];exact zoa _ _ _
   have HS3:=hid (HS2.out.make hrb y2 HG.out.1 y4);have HL3:Hid (L'.length<=41):=by have:=HG.out.2;rwa [Qp] at this
   clear y1 y2 y3 y4 HS2 HD HG;go_wp2;go_roundw
   case rel=>exact ⟨k-1,L',by omega,by go_num,HL3,HS3⟩
   case measure=>simp [intOf];omega
  ·have hd:¬(0:Int)<(k:Int):=by omega
   have hd2:k=0:=by omega
   subst hd2;go_wp2_with fail;refine (zc7 rb a n c 3 wr hS.out.rd (by omega) (by omega)).mono ?_;rintro e w2 ⟨b2,rfl,r2,g2⟩;have HS2:=hid (hS.out.read hrb r2 g2);clear hS r2 g2;cases b2 with
   |false=>
    have HLN:Hid (M.length<=83):=Qj hML.out (by omega);clear hML;have HS:=HS2;clear HS2;obtain ⟨p,A,cc,ev,hk⟩:=zhy HS.out.own.row;subst ev;have HK:=hid hk;have HL:=hid HLN.out;clear hk HLN;obtain ⟨nn,hnn⟩:∃nn,M.length=nn:=⟨_,rfl⟩;rw [hnn] at HL HK HS;rw [hnn];have HNN:=hid hnn;have hn83:=HL.out;clear hnn HL;go_wp2_with fail;refine (zc7 rb a n c 40 w2 HS.out.rd (by omega) (by omega)).mono ?_;rintro e w7 ⟨b7,rfl,r7,g7⟩;have HS7:=hid (HS.out.read hrb r7 g7);clear HS r7 g7;cases b7 with
    |false=>
     have HF:Hid (∃v M,Ending.returned (.slice p nn cc)= .returned v/\zgu w rb a n c v M w7/\M.length<=83):=⟨_,M,rfl,HS7.out,by rw [HNN.out];exact hn83⟩;clear HS7 HNN HK;go_wp2;go_ret;exact HF.out
    |true=>
     by_cases h0n:0<nn
     ·have h0i:(0:Int)<(nn:Int):=by omega
      obtain rfl:=HK.out.addr h0n;clear HK;go_wp2_with fail;refine (Hp.zmb rb a n c 0 9 w7 HS7.out.rd (by omega) (by omega) (by omega)).mono ?_;rintro e w8 ⟨d,rfl,hd1,hd2,r8,g8⟩;have HS8:=hid (HS7.out.read hrb r8 g8);clear HS7 r8 g8;have c6:∃d0:Int,w8.cell? ⟨A,6,none⟩=some (.int .i64 d0):=by
       obtain ⟨p',A',c',e',hk'⟩:=zhy HS8.out.own.row;injection e' with e1 e2 e3;have e4:=hk'.addr (by rw [HNN.out];exact h0n);rw [<-e1] at e4;injection e4 with e5;injection e5 with e6;have:=(hk'.cell 0 (by rw [HNN.out];exact h0n)).c6;rw [<-e6] at this;exact ⟨_,this⟩
      obtain ⟨d0,c6⟩:=c6;have f6:w8.frozen? ⟨A,6,none⟩=false:=by
       have:=HS8.out.own.row;rw [znh,HNN.out] at this;exact Hp.zli this 6
      have HF:Hid (∃v M,Ending.returned (.slice (some ⟨A,0,none⟩) nn cc)= .returned v/\zgu w rb a n c v M (w8.setCell ⟨A,6,none⟩ (.int .i64 d))/\M.length<=83):=by
       have ho:=HS8.out.own;rw [<-HNN.out] at ho;have hA:=(zaz ho.row (g:=A) rfl).1;have hb:Below w.heap.size w8 (w8.setCell ⟨A,6,none⟩ (.int .i64 d)):=(Qb _ w8).setCell hA _;have hd:=zry d ho (by rw [HNN.out];exact h0n);rw [HNN.out] at hd;exact ⟨_,zht M d,rfl,⟨hd,zuh HS8.out.fit,HS8.out.rd.bw hb hrb,zes HS8.out.grown hb⟩,by rw [zo9,HNN.out];exact hn83⟩
      clear HS8 HNN;go_wp2;go_ret;exact HF.out
     ·have h0i:nn=0:=by omega
      subst h0i;have HF:Hid (∃v M,Ending.returned (.slice p 0 cc)= .returned v/\zgu w rb a n c v M w7/\M.length<=83):=⟨_,M,rfl,HS7.out,by rw [HNN.out];exact hn83⟩;clear HS7 HNN HK;go_wp2;go_ret;exact HF.out
   |true=>
    have hm41:=hML.out;go_wp2_with fail;refine (zsc rb a n c w2 HS2.out.rd (HS2.out.lt hrb)).mono ?_;rintro e w3 ⟨nm,rfl,hnm,r3,g3⟩;have HS3:=hid (HS2.out.read hrb r3 g3);clear HS2 r3 g3;go_wp2_with fail;refine (zy6 rb a n c w3 HS3.out.rd (HS3.out.lt hrb)).mono ?_;rintro e w4 ⟨vl,vi,vp,vr,rfl,ho4,hsm,r4,g4⟩;have HS4:=hid (HS3.out.read hrb r4 g4);have hrb3:=HS3.out.lt hrb;have HV4:=hid ho4;have HSM:=hid hsm;clear HS3 r4 g4 ho4 hsm;go_wp2_with fail;refine (zde rb a n c 9 w4 HS4.out.rd (by omega) (by omega)).mono ?_;rintro e w5 ⟨du,rfl,hdu,r5,g5⟩;have HS5:=hid (HS4.out.read hrb r5 g5);have HV5:Hid (VOwn w5 w3.heap.size vl vi vp vr):=⟨zb9 HV4.out.ia g5 hrb3,zb9 HV4.out.pj g5 hrb3,zb9 HV4.out.rq g5 hrb3⟩;clear HS4 HV4 r5 g5;have HST:Hid (Cp 79 #[u5,.agg #[.string nm,.int .i64 vl.kind,.string vl.text,vi,vp,vr,.int .i64 (du:Int)]] w5 (zc1 w5 (zaq (M.map KV.key) ⟨nm,vl,du⟩))):=by
     obtain ⟨q,A,cc,ev,hdi,hda⟩:=HS5.out.own.din HS5.out.fit.k.fits;rw [ev];have s:=HSM.out;exact zhe q A M.length cc M ⟨⟨nm,vl,du⟩,vi,vp,vr⟩ w5 hdi (HV5.out.rd (fun t ht=>by have:=s.ia t ht;omega)) (by have:=s.ni;show vl.ia.length<=_;omega) (by have:=s.np;show vl.pj.length<=_;omega) (by have:=s.nr;show vl.rq.length<=_;omega) (by omega)
    have HKF:=hid (ybb HSM.out nm hnm du);clear HV5 HSM hnm;generalize vl.kind=kd,vl.text=tx at*;go_wp2_with fail;refine HST.out.mono ?_;rintro e w6 ⟨v6,L6,rfl,y1,y2,y3⟩;have HS:=hid (HS5.out.make hrb y2 (by rw [y1];exact HS5.out.fit.stored HKF.out) y3);have HLN:Hid (L6.length<=83):=by
     have e1:L6.length=(L6.map KV.key).length:=by rw [Qp]
     have e2:=zje (M.map KV.key) ⟨nm,vl,du⟩;rw [Qp] at e2;unfold Hid;rw [e1,y1];omega
    clear y1 y2 y3 HS5 HST HKF;obtain ⟨p,A,cc,ev,hk⟩:=zhy HS.out.own.row;subst ev;have HK:=hid hk;have HL:=hid HLN.out;clear hk HLN;obtain ⟨nn,hnn⟩:∃nn,L6.length=nn:=⟨_,rfl⟩;rw [hnn] at HL HK HS;rw [hnn];have HNN:=hid hnn;have hn83:=HL.out;clear hnn HL;go_wp2_with fail;refine (zc7 rb a n c 40 w6 HS.out.rd (by omega) (by omega)).mono ?_;rintro e w7 ⟨b7,rfl,r7,g7⟩;have HS7:=hid (HS.out.read hrb r7 g7);clear HS r7 g7;cases b7 with
    |false=>
     have HF:Hid (∃v M,Ending.returned (.slice p nn cc)= .returned v/\zgu w rb a n c v M w7/\M.length<=83):=⟨_,L6,rfl,HS7.out,by rw [HNN.out];exact hn83⟩;clear HS7 HNN HK;go_wp2;go_ret;exact HF.out
    |true=>
     by_cases h0n:0<nn
     ·have h0i:(0:Int)<(nn:Int):=by omega
      obtain rfl:=HK.out.addr h0n;clear HK;go_wp2_with fail;refine (Hp.zmb rb a n c 0 9 w7 HS7.out.rd (by omega) (by omega) (by omega)).mono ?_;rintro e w8 ⟨d,rfl,hd1,hd2,r8,g8⟩;have HS8:=hid (HS7.out.read hrb r8 g8);clear HS7 r8 g8;have c6:∃d0:Int,w8.cell? ⟨A,6,none⟩=some (.int .i64 d0):=by
       obtain ⟨p',A',c',e',hk'⟩:=zhy HS8.out.own.row;injection e' with e1 e2 e3;have e4:=hk'.addr (by rw [HNN.out];exact h0n);rw [<-e1] at e4;injection e4 with e5;injection e5 with e6;have:=(hk'.cell 0 (by rw [HNN.out];exact h0n)).c6;rw [<-e6] at this;exact ⟨_,this⟩
      obtain ⟨d0,c6⟩:=c6;have f6:w8.frozen? ⟨A,6,none⟩=false:=by
       have:=HS8.out.own.row;rw [znh,HNN.out] at this;exact Hp.zli this 6
      have HF:Hid (∃v M,Ending.returned (.slice (some ⟨A,0,none⟩) nn cc)= .returned v/\zgu w rb a n c v M (w8.setCell ⟨A,6,none⟩ (.int .i64 d))/\M.length<=83):=by
       have ho:=HS8.out.own;rw [<-HNN.out] at ho;have hA:=(zaz ho.row (g:=A) rfl).1;have hb:Below w.heap.size w8 (w8.setCell ⟨A,6,none⟩ (.int .i64 d)):=(Qb _ w8).setCell hA _;have hd:=zry d ho (by rw [HNN.out];exact h0n);rw [HNN.out] at hd;exact ⟨_,zht L6 d,rfl,⟨hd,zuh HS8.out.fit,HS8.out.rd.bw hb hrb,zes HS8.out.grown hb⟩,by rw [zo9,HNN.out];exact hn83⟩
      clear HS8 HNN;go_wp2;go_ret;exact HF.out
     ·have h0i:nn=0:=by omega
      subst h0i;have HF:Hid (∃v M,Ending.returned (.slice p 0 cc)= .returned v/\zgu w rb a n c v M w7/\M.length<=83):=⟨_,L6,rfl,HS7.out,by rw [HNN.out];exact hn83⟩;clear HS7 HNN HK;go_wp2;go_ret;exact HF.out
end Go.Proofs.YtokafonppgppdaaGreatDoor
