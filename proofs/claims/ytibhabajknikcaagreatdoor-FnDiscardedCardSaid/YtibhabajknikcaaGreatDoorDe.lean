import Derived.Test.YtibhabajknikcaaGreatDoorC42
import Derived.Test.YtibhabajknikcaaGreatDoorDc
import Derived.Test.YtibhabajknikcaaGreatDoorDd
import Derived.Test.YtibhabajknikcaaGreatDoorE9
import Derived.Lib.SmallJoins
import Derived.Laws.IdiomStrings
set_option maxHeartbeats 4000000
set_option maxRecDepth 100000
namespace Go.Proofs.YtibhabajknikcaaGreatDoor
open Go.RowKit Go.Sort
theorem DbOwn.grown {w w':World} {B rb:Nat} {v:Value} {L:List KV} (h:DbOwn w B v L) (g:w.grownBy w' (some rb)) (hB:rb<B):DbOwn w' B v L:=by
 obtain ⟨β,hr⟩:=h.vals;refine ⟨own_grown h.row g hB,β,hr.low,hr.mono,Nat.le_trans hr.top g.size,fun i hi=>?_,hr.lt1,hr.lt2,hr.lt3⟩;have hb:rb<β i:=Nat.lt_of_lt_of_le hB (hr.low i (Nat.le_of_lt hi));have ho:=hr.own i hi;exact ⟨own_grown ho.items g hb,own_grown ho.pairs g hb,own_grown ho.ranks g hb⟩
structure DbSt (w:World) (rb:Nat) (a:Option Addr) (n c:Nat) (v:Value) (M:List KV) (W:World):Prop where
 own:DbOwn W w.heap.size v M
 fit:FitsG (M.map KV.key)
 rd:Rd W rb a n c
 grown:w.grownBy W (some rb)
theorem DbSt.read {w:World} {rb:Nat} {a:Option Addr} {n c:Nat} {v:Value} {M:List KV} {W W':World} (h:DbSt w rb a n c v M W) (hrb:rb<w.heap.size) (r:Rd W' rb a n c) (g:W.grownBy W' (some rb)):DbSt w rb a n c v M W':=
 ⟨h.own.grown g hrb,h.fit,r,h.grown.trans g⟩
theorem DbSt.lt {w:World} {rb:Nat} {a:Option Addr} {n c:Nat} {v:Value} {M:List KV} {W:World} (h:DbSt w rb a n c v M W) (hrb:rb<w.heap.size):rb<W.heap.size:=Nat.lt_of_lt_of_le hrb h.grown.size
theorem DbSt.make {w:World} {rb:Nat} {a:Option Addr} {n c:Nat} {v v':Value} {M M':List KV} {W W':World} (h:DbSt w rb a n c v M W) (hrb:rb<w.heap.size) (hd:DbOwn W' W.heap.size v' M') (hf:FitsG (M'.map KV.key)) (hb:Below W.heap.size W W'):DbSt w rb a n c v' M' W':=
 ⟨hd.le h.grown.size,hf,h.rd.below hb (h.lt hrb),grown_low h.grown (hb.mono h.grown.size)⟩
def dueOne (M:List KV) (d:Int):List KV:=match M with
 | []=> []
 |x::M=>⟨x.key.withDue d,x.vi,x.vp,x.vr⟩::M
theorem due_flat (M:List KV) (d:Int) (h:0<M.length):(flatK M).set 6 (.int .i64 d)=flatK (dueOne M d):=by
 cases M with
 |nil=>simp at h
 |cons x M=>rfl
theorem due_len (M:List KV) (d:Int):(dueOne M d).length=M.length:=by cases M<;>rfl
theorem due_fits {M:List KV} {d:Int} (h:FitsG (M.map KV.key)):FitsG ((dueOne M d).map KV.key):=by
 cases M with
 |nil=>exact h
 |cons x M=>
  intro k hk;rcases List.mem_cons.1 hk with e|e
  ·rw [e];exact (h x.key (by simp)).withDue d
  ·exact h k (List.mem_cons_of_mem _ e)
theorem due_at (M:List KV) (d:Int) (i:Nat):((dueOne M d).getD i kv0).key.val=(M.getD i kv0).key.val∧((dueOne M d).getD i kv0).vi=(M.getD i kv0).vi∧((dueOne M d).getD i kv0).vp=(M.getD i kv0).vp∧((dueOne M d).getD i kv0).vr=(M.getD i kv0).vr:=by
 cases M with
 |nil=>exact ⟨rfl,rfl,rfl,rfl⟩
 |cons x M=>cases i<;>exact ⟨rfl,rfl,rfl,rfl⟩
theorem own_set47 {W:World} {B A j:Nat} {e:TypeId} {size n:Nat} {v u:Value} {xs:List Value} {C:Array Value} (h:W.ownsRow B e size v n xs) (hr:RowAt W A 60 C) (he:e≠60):(W.setCell ⟨A,j,none⟩ u).ownsRow B e size v n xs:=
 zai h fun g hg=>by
  obtain ⟨D,hd⟩:=own_type h hg;refine Below.heap_setCell _ _ _ _ fun eq=>he ?_;have:g=A:=eq;subst this;have:=hr.symm.trans hd;simp at this;exact this.2.symm
theorem dbown_due {W:World} {B A c:Nat} {M:List KV} (d:Int) (h:DbOwn W B (.slice (some ⟨A,0,none⟩) M.length c) M) (h0:0<M.length):DbOwn (W.setCell ⟨A,6,none⟩ (.int .i64 d)) B (.slice (some ⟨A,0,none⟩) M.length c) (dueOne M d):=by
 obtain ⟨β,hr⟩:=h.vals;obtain ⟨C,hC⟩:=own_type h.row (g:=A) rfl;have hrow:=Hp.owns_set (j:=6) (u:= .int .i64 d) h.row;rw [due_flat M d h0] at hrow;refine ⟨by unfold OwnK;rw [due_len];exact hrow,β,?_⟩;have hl:=due_len M d;refine ⟨fun i hi=>hr.low i (by omega),fun i j hij hj=>hr.mono i j hij (by omega),by rw [hl];exact Nat.le_trans hr.top (by simp),fun i hi=>?_,fun i hi g hg=>?_,fun i hi g hg=>?_,fun i hi g hg=>?_⟩;all_goals obtain ⟨e1,e2,e3,e4⟩:=due_at M d i
 ·have ho:=hr.own i (by omega);rw [e1,e2,e3,e4];exact ⟨own_set47 ho.items hC (by decide),own_set47 ho.pairs hC (by decide),own_set47 ho.ranks hC (by decide)⟩
 ·rw [e2] at hg;exact hr.lt1 i (by omega) g hg
 ·rw [e3] at hg;exact hr.lt2 i (by omega) g hg
 ·rw [e4] at hg;exact hr.lt3 i (by omega) g hg
theorem small_fit {v:Vl} (h:SmallV v) (nm:ByteArray) (hn:nm.size≤20) (d:Int):KGd ⟨nm,v,d⟩:=
 ⟨⟨⟨by have:=h.text;show v.text.size≤_;omega,by have:=h.ni;show v.items.length≤_;omega,by have:=h.np;show v.pairs.length≤_;omega,by have:=h.nr;show v.ranks.length≤_;omega⟩,by show nm.size≤_;omega,(fun t ht=>by have:=h.items t ht;omega)⟩,by have:=h.np;show v.pairs.length≤_;omega,h.fit⟩
theorem db_any (rb:Nat) (a:Option Addr) (n c:Nat) (w:World) (h:Rd w rb a n c) (hrb:rb<w.heap.size):
  Calls Tryz.prog 13 #[.pointer (some ⟨rb,0,none⟩),.int .i64 5] w fun e w'=>∃v M,e= .returned v∧DbSt w rb a n c v M w'∧M.length≤83:=by
 have b0:Below w.heap.size w (w.alloc (.cells #[] 60)):=(Below.refl _ w).alloc (Nat.le_refl _) _;have HS0:Hid (DbSt w rb a n c (.slice (some ⟨w.heap.size,0,none⟩) 0 0) [] (w.alloc (.cells #[] 60))):=⟨(BuildI.empty w).db,fun k hk=> (by cases hk),h.below b0 hrb,grown_low (grown_refl _ _) b0⟩;have r0:Rd (w.alloc (.cells #[] 60)) rb a n c:=HS0.out.rd;clear h b0;go_enter Tryz.func13,Tryz.ntmps13;go_wp2_with fail;refine (zde rb a n c 6 _ r0 (by omega) (by omega)).mono ?_;rintro e w1 ⟨j,rfl,hj,r1,g1⟩;have HS1:Hid (DbSt w rb a n c (.slice (some ⟨w.heap.size,0,none⟩) 0 0) [] w1):=HS0.out.read hrb r1 g1;clear HS0 r0 r1 g1;go_wp2_with fail;go_loopw [5,6] (fun v i wr=>∃(k:Nat) (M:List KV),k≤5∧i= .int .i64 k∧Hid (M.length≤41)∧Hid (DbSt w rb a n c v M wr)) (fun _ i _=> (intOf i).toNat)
 case atStart=>exact ⟨j,[],by omega,rfl,Nat.zero_le _,HS1⟩
 case round=>
  obtain ⟨k,M,hk,rfl,hML,hS⟩:=hrel;clear HS1;by_cases h0:0<k
  ·have hd:(0:Int)<(k:Int):=by omega
   go_wp2_with fail;refine (args_any rb a n c wr hS.out.rd (hS.out.lt hrb)).mono ?_;rintro e w2 ⟨x,B,off,cap,ss,rfl,hs,hl,hcap,r2,g2,_⟩;have HS2:Hid (DbSt w rb a n c u5 M w2):=hS.out.read hrb r2 g2;have HD:Hid (Calls Tryz.prog 28 #[u5,.int .i64 0,.slice x ss.length cap] w2 (zbd w2 w2.heap.size (specDoneM (M.map KV.key) 0 ss))):=specDone_any w.heap.size u5 M 0 x B off ss.length cap ss w2 HS2.out.own HS2.out.fit.k (by have:=hML.out;omega) hs (by omega) hcap;clear hS r2 g2 hs hcap;go_wp2_with fail;refine HD.out.mono ?_;rintro e w3 ⟨v',r',L',rfl,y1,y2,y3,y4⟩;have HG:Hid (GoodK 41 (L'.map KV.key)):=by rw [y1];exact specDone_good _ _ _
   have HS3:Hid (DbSt w rb a n c v' L' w3):=HS2.out.make hrb y2 HG.out.1 y4;have HL3:Hid (L'.length≤41):=by have:=HG.out.2;rwa [List.length_map] at this
   clear y1 y2 y3 y4 HS2 HD HG;go_wp2;go_roundw
   case rel=>exact ⟨k-1,L',by omega,by go_num,HL3,HS3⟩
   case measure=>simp [intOf];omega
  ·have hd:¬(0:Int)<(k:Int):=by omega
   have hd2:k=0:=by omega
   subst hd2;go_wp2_with fail;refine (once_any rb a n c 3 wr hS.out.rd (by omega) (by omega)).mono ?_;rintro e w2 ⟨b2,rfl,r2,g2⟩;have HS2:Hid (DbSt w rb a n c u5 M w2):=hS.out.read hrb r2 g2;clear hS r2 g2;cases b2 with
   |false=>
    have HLN:Hid (M.length≤83):=Nat.le_trans hML.out (by omega);clear hML;have HS:=HS2;clear HS2;obtain ⟨p,A,cc,ev,hk⟩:=ownK_in HS.out.own.row;subst ev;have HK:Hid (KsIn w2 p A M.length M):=hk;have HL:Hid (M.length≤83):=HLN.out;clear hk HLN;obtain ⟨nn,hnn⟩:∃nn,M.length=nn:=⟨_,rfl⟩;rw [hnn] at HL HK HS;rw [hnn];have HNN:Hid (M.length=nn):=hnn;have hn83:nn≤83:=HL.out;clear hnn HL;go_wp2_with fail;refine (once_any rb a n c 40 w2 HS.out.rd (by omega) (by omega)).mono ?_;rintro e w7 ⟨b7,rfl,r7,g7⟩;have HS7:Hid (DbSt w rb a n c (.slice p nn cc) M w7):=HS.out.read hrb r7 g7;clear HS r7 g7;cases b7 with
    |false=>
     have HF:Hid (∃v M,Ending.returned (.slice p nn cc)= .returned v∧DbSt w rb a n c v M w7∧M.length≤83):=⟨_,M,rfl,HS7.out,by rw [HNN.out];exact hn83⟩;clear HS7 HNN HK;go_wp2;go_ret;exact HF.out
    |true=>
     by_cases h0n:0<nn
     ·have h0i:(0:Int)<(nn:Int):=by omega
      obtain rfl:=HK.out.addr h0n;clear HK;go_wp2_with fail;refine (Hp.off_any rb a n c 0 9 w7 HS7.out.rd (by omega) (by omega) (by omega)).mono ?_;rintro e w8 ⟨d,rfl,hd1,hd2,r8,g8⟩;have HS8:Hid (DbSt w rb a n c (.slice (some ⟨A,0,none⟩) nn cc) M w8):=HS7.out.read hrb r8 g8;clear HS7 r8 g8;have c6:∃d0:Int,w8.cell? ⟨A,6,none⟩=some (.int .i64 d0):=by
       obtain ⟨p',A',c',e',hk'⟩:=ownK_in HS8.out.own.row;injection e' with e1 e2 e3;have e4:=hk'.addr (by rw [HNN.out];exact h0n);rw [←e1] at e4;injection e4 with e5;injection e5 with e6;have:=(hk'.cell 0 (by rw [HNN.out];exact h0n)).c6;rw [←e6] at this;exact ⟨_,this⟩
      obtain ⟨d0,c6⟩:=c6;have f6:w8.frozen? ⟨A,6,none⟩=false:=by
       have:=HS8.out.own.row;rw [OwnK,HNN.out] at this;exact Hp.owns_frozen this 6
      have HF:Hid (∃v M,Ending.returned (.slice (some ⟨A,0,none⟩) nn cc)= .returned v∧DbSt w rb a n c v M (w8.setCell ⟨A,6,none⟩ (.int .i64 d))∧M.length≤83):=by
       have ho:=HS8.out.own;rw [←HNN.out] at ho;have hA:w.heap.size≤A:=(own_lt ho.row (g:=A) rfl).1;have hb:Below w.heap.size w8 (w8.setCell ⟨A,6,none⟩ (.int .i64 d)):=(Below.refl _ w8).setCell hA _;have hd:=dbown_due d ho (by rw [HNN.out];exact h0n);rw [HNN.out] at hd;exact ⟨_,dueOne M d,rfl,⟨hd,due_fits HS8.out.fit,HS8.out.rd.below hb hrb,grown_low HS8.out.grown hb⟩,by rw [due_len,HNN.out];exact hn83⟩
      clear HS8 HNN;go_wp2;go_ret;exact HF.out
     ·have h0i:nn=0:=by omega
      subst h0i;have HF:Hid (∃v M,Ending.returned (.slice p 0 cc)= .returned v∧DbSt w rb a n c v M w7∧M.length≤83):=⟨_,M,rfl,HS7.out,by rw [HNN.out];exact hn83⟩;clear HS7 HNN HK;go_wp2;go_ret;exact HF.out
   |true=>
    have hm41:M.length≤41:=hML.out;go_wp2_with fail;refine (key_any rb a n c w2 HS2.out.rd (HS2.out.lt hrb)).mono ?_;rintro e w3 ⟨nm,rfl,hnm,r3,g3⟩;have HS3:Hid (DbSt w rb a n c u5 M w3):=HS2.out.read hrb r3 g3;clear HS2 r3 g3;go_wp2_with fail;refine (value_any rb a n c w3 HS3.out.rd (HS3.out.lt hrb)).mono ?_;rintro e w4 ⟨vl,vi,vp,vr,rfl,ho4,hsm,r4,g4⟩;have HS4:Hid (DbSt w rb a n c u5 M w4):=HS3.out.read hrb r4 g4;have hrb3:rb<w3.heap.size:=HS3.out.lt hrb;have HV4:Hid (VOwn w4 w3.heap.size vl vi vp vr):=ho4;have HSM:Hid (SmallV vl):=hsm;clear HS3 r4 g4 ho4 hsm;go_wp2_with fail;refine (zde rb a n c 9 w4 HS4.out.rd (by omega) (by omega)).mono ?_;rintro e w5 ⟨du,rfl,hdu,r5,g5⟩;have HS5:Hid (DbSt w rb a n c u5 M w5):=HS4.out.read hrb r5 g5;have HV5:Hid (VOwn w5 w3.heap.size vl vi vp vr):=⟨own_grown HV4.out.items g5 hrb3,own_grown HV4.out.pairs g5 hrb3,own_grown HV4.out.ranks g5 hrb3⟩;clear HS4 HV4 r5 g5;have HST:Hid (Calls Tryz.prog 31 #[u5,.agg #[.string nm,.int .i64 vl.kind,.string vl.text,vi,vp,vr,.int .i64 (du:Int)]] w5 (KeysEnd w5 (storedK (M.map KV.key) ⟨nm,vl,du⟩))):=by
     obtain ⟨q,A,cc,ev,hdi,hda⟩:=HS5.out.own.din HS5.out.fit.k.fits;rw [ev];have s:=HSM.out;exact stored_any q A M.length cc M ⟨⟨nm,vl,du⟩,vi,vp,vr⟩ w5 hdi (HV5.out.rd (fun t ht=>by have:=s.items t ht;omega)) (by have:=s.ni;show vl.items.length≤_;omega) (by have:=s.np;show vl.pairs.length≤_;omega) (by have:=s.nr;show vl.ranks.length≤_;omega) (by omega)
    have HKF:Hid (KGd ⟨nm,vl,du⟩):=small_fit HSM.out nm hnm du;clear HV5 HSM hnm;generalize vl.kind=kd at*;generalize vl.text=tx at*;go_wp2_with fail;refine HST.out.mono ?_;rintro e w6 ⟨v6,L6,rfl,y1,y2,y3⟩;have HS:Hid (DbSt w rb a n c v6 L6 w6):=HS5.out.make hrb y2 (by rw [y1];exact HS5.out.fit.stored HKF.out) y3;have HLN:Hid (L6.length≤83):=by
     have e1:L6.length=(L6.map KV.key).length:=by rw [List.length_map]
     have e2:=stored_len (M.map KV.key) ⟨nm,vl,du⟩;rw [List.length_map] at e2;unfold Hid;rw [e1,y1];omega
    clear y1 y2 y3 HS5 HST HKF;obtain ⟨p,A,cc,ev,hk⟩:=ownK_in HS.out.own.row;subst ev;have HK:Hid (KsIn w6 p A L6.length L6):=hk;have HL:Hid (L6.length≤83):=HLN.out;clear hk HLN;obtain ⟨nn,hnn⟩:∃nn,L6.length=nn:=⟨_,rfl⟩;rw [hnn] at HL HK HS;rw [hnn];have HNN:Hid (L6.length=nn):=hnn;have hn83:nn≤83:=HL.out;clear hnn HL;go_wp2_with fail;refine (once_any rb a n c 40 w6 HS.out.rd (by omega) (by omega)).mono ?_;rintro e w7 ⟨b7,rfl,r7,g7⟩;have HS7:Hid (DbSt w rb a n c (.slice p nn cc) L6 w7):=HS.out.read hrb r7 g7;clear HS r7 g7;cases b7 with
    |false=>
     have HF:Hid (∃v M,Ending.returned (.slice p nn cc)= .returned v∧DbSt w rb a n c v M w7∧M.length≤83):=⟨_,L6,rfl,HS7.out,by rw [HNN.out];exact hn83⟩;clear HS7 HNN HK;go_wp2;go_ret;exact HF.out
    |true=>
     by_cases h0n:0<nn
     ·have h0i:(0:Int)<(nn:Int):=by omega
      obtain rfl:=HK.out.addr h0n;clear HK;go_wp2_with fail;refine (Hp.off_any rb a n c 0 9 w7 HS7.out.rd (by omega) (by omega) (by omega)).mono ?_;rintro e w8 ⟨d,rfl,hd1,hd2,r8,g8⟩;have HS8:Hid (DbSt w rb a n c (.slice (some ⟨A,0,none⟩) nn cc) L6 w8):=HS7.out.read hrb r8 g8;clear HS7 r8 g8;have c6:∃d0:Int,w8.cell? ⟨A,6,none⟩=some (.int .i64 d0):=by
       obtain ⟨p',A',c',e',hk'⟩:=ownK_in HS8.out.own.row;injection e' with e1 e2 e3;have e4:=hk'.addr (by rw [HNN.out];exact h0n);rw [←e1] at e4;injection e4 with e5;injection e5 with e6;have:=(hk'.cell 0 (by rw [HNN.out];exact h0n)).c6;rw [←e6] at this;exact ⟨_,this⟩
      obtain ⟨d0,c6⟩:=c6;have f6:w8.frozen? ⟨A,6,none⟩=false:=by
       have:=HS8.out.own.row;rw [OwnK,HNN.out] at this;exact Hp.owns_frozen this 6
      have HF:Hid (∃v M,Ending.returned (.slice (some ⟨A,0,none⟩) nn cc)= .returned v∧DbSt w rb a n c v M (w8.setCell ⟨A,6,none⟩ (.int .i64 d))∧M.length≤83):=by
       have ho:=HS8.out.own;rw [←HNN.out] at ho;have hA:w.heap.size≤A:=(own_lt ho.row (g:=A) rfl).1;have hb:Below w.heap.size w8 (w8.setCell ⟨A,6,none⟩ (.int .i64 d)):=(Below.refl _ w8).setCell hA _;have hd:=dbown_due d ho (by rw [HNN.out];exact h0n);rw [HNN.out] at hd;exact ⟨_,dueOne L6 d,rfl,⟨hd,due_fits HS8.out.fit,HS8.out.rd.below hb hrb,grown_low HS8.out.grown hb⟩,by rw [due_len,HNN.out];exact hn83⟩
      clear HS8 HNN;go_wp2;go_ret;exact HF.out
     ·have h0i:nn=0:=by omega
      subst h0i;have HF:Hid (∃v M,Ending.returned (.slice p 0 cc)= .returned v∧DbSt w rb a n c v M w7∧M.length≤83):=⟨_,L6,rfl,HS7.out,by rw [HNN.out];exact hn83⟩;clear HS7 HNN HK;go_wp2;go_ret;exact HF.out
end Go.Proofs.YtibhabajknikcaaGreatDoor
namespace Go.Proofs.YtibhabajknikcaaGreatDoor.Er
open Go.RowKit Go.Sort
theorem argsB_of {T:List ByteArray} (h1:T.length≤16) (h2:∀t∈T,t.size≤20):argsB T=true:=by
 unfold argsB;rw [Bool.and_eq_true,List.all_eq_true];refine ⟨fun i hi=>?_,decide_eq_true h1⟩;have hi:=List.mem_range.1 hi;have:=h2 _ (List.getElem_mem hi);rw [List.getD_eq_getElem?_getD,List.getElem?_eq_getElem hi];exact decide_eq_true (by rw [Option.getD_some];omega)
theorem reqText_any (a:Option Addr) (b off n c:Nat) (ss:List ByteArray) (w:World) (h:zdg w a b off n ss) (hn:n≤6) (hz:∀t∈ss,t.size≤20):
  Calls Tryz.prog 36 #[.slice a n c] w fun e w'=>∃s:ByteArray,e= .returned (.string s)∧3≤s.size∧s.size≤10000∧Below w.heap.size w w':=by
 have hl:=h.len;have HA:Hid (Calls Tryz.prog 22 #[.slice a n c] w fun e w'=>e= .returned (.bool true)∧w'=w):=by
  have:=l2Args_any a b off n c ss w h (by omega);rw [argsB_of (by omega) hz] at this;exact this
 have HZ:Hid (∀k,k<n→(ss.getD k ByteArray.empty).size≤20):=fun k hk=>by
  rw [List.getD_eq_getElem?_getD,List.getElem?_eq_getElem (by omega)];exact hz _ (List.getElem_mem _)
 have H:Hid (zdg w a b off n ss):=h;have hd:=Fd.dec_len_le n (by omega);have hds:=Fd.size_mk (Lib.decDigits n);have HD:Hid (Calls Tryz.prog 71 #[.int .i64 n] w fun e w'=>e= .returned (.string ⟨(Lib.decDigits n).toArray⟩)∧Below w.heap.size w w'):=dec_any n w (by omega);generalize (⟨(Lib.decDigits n).toArray⟩:ByteArray)=D at*;have hD:D.size≤20:=by omega
 clear h hl hz hd hds;go_enter Tryz.func36,Tryz.ntmps36;go_wp2_with fail;refine HA.out.mono ?_;rintro e w1 ⟨rfl,hw1⟩;subst hw1;go_wp2_with fail;refine HD.out.mono ?_;rintro e w2 ⟨rfl,b2⟩;have hs0:3≤(⟨#[42]⟩++D++⟨#[13,10]⟩:ByteArray).size∧(⟨#[42]⟩++D++⟨#[13,10]⟩:ByteArray).size≤23:=by
  rw [ByteArray.size_append,ByteArray.size_append];show 3≤1+D.size+2∧1+D.size+2≤23;omega
 have HS0:Hid (3≤(⟨#[42]⟩++D++⟨#[13,10]⟩:ByteArray).size∧(⟨#[42]⟩++D++⟨#[13,10]⟩:ByteArray).size≤23):=hs0;clear hs0 HA HD;go_wp2_with fail;go_loopw [3,4] (fun q i wr=>∃(k:Nat) (s:ByteArray),k≤n∧i= .int .i64 k∧q= .string s∧3≤s.size∧s.size≤23+100*k∧Below w1.heap.size w1 wr) (fun _ i _=>n-(intOf i).toNat)
 case atStart=>exact ⟨0,_,by omega,rfl,rfl,HS0.out.1,by have:=HS0.out.2;omega,b2⟩
 case round=>
  obtain ⟨k,acc,hk,rfl,rfl,ha0,ha1,bk⟩:=hrel;clear HS0;have sk:=bk.size;by_cases hlt:k<n
  ·obtain rfl:=H.out.addr (by omega);have hlow:=H.out.low (by omega);have hc:wr.cell? ⟨b,off+k,none⟩=some (.string (ss.getD k ByteArray.empty)):=(bk.cell (p:=⟨b,off+k,none⟩) hlow).trans (H.out.cell k hlt);have hs2:=HZ.out k hlt;generalize ss.getD k ByteArray.empty=s at*;have hds:=Fd.dec_len_le s.size (by omega);have hdz:=Fd.size_mk (Lib.decDigits s.size);have cD:∀d os,Calls Tryz.prog 71 #[.int .i64 s.size] (grow (redrawn wr d) os) fun e w''=>e= .returned (.string ⟨(Lib.decDigits s.size).toArray⟩)∧∃p:Regrown,w''=grow (redrawn wr p.d) p.os:=fun d os=>Calls.regrown_of (dec_any s.size _ (by omega));generalize (⟨(Lib.decDigits s.size).toArray⟩:ByteArray)=E at*;have hE:E.size≤20:=by omega
   clear hds hdz;have kc:=cell_regrown hc;have n1:¬9223372036854775807<acc.size+1:=by omega
   have n2:¬9223372036854775807<acc.size+1+E.size:=by omega
   have n3:¬9223372036854775807<acc.size+1+E.size+2:=by omega
   have n4:¬9223372036854775807<acc.size+1+E.size+2+s.size:=by omega
   have n5:¬9223372036854775807<acc.size+1+E.size+2+s.size+2:=by omega
   have hsz:(acc++⟨#[36]⟩++E++⟨#[13,10]⟩++s++⟨#[13,10]⟩:ByteArray).size=acc.size+1+E.size+2+s.size+2:=by
    simp only [ByteArray.size_append];rfl
   have HSZ:Hid (3≤(acc++⟨#[36]⟩++E++⟨#[13,10]⟩++s++⟨#[13,10]⟩:ByteArray).size∧(acc++⟨#[36]⟩++E++⟨#[13,10]⟩++s++⟨#[13,10]⟩:ByteArray).size≤23+100*(k+1)):=by
    unfold Hid;rw [hsz];omega
   clear hsz;go_wp2;refine wp_region_quiet_below (by kernel_rfl) (by kernel_rfl) ?_;repeat (quiet_step (first|exact cD _ _))
   refine wpQuiet_nil ?_;intro _ hw';obtain ⟨⟨dq,osq⟩,hw''⟩:=hw';subst hw'';have bq:=below_regrown wr dq osq;generalize grow (redrawn wr dq) osq=wq at*;go_wp2;go_roundw
   case rel=>exact ⟨k+1,_,by omega,by go_num,rfl,HSZ.out.1,HSZ.out.2,bk.trans (bq.mono sk)⟩
   case measure=>simp [intOf];omega
  ·go_wp2;go_ret;exact ⟨acc,rfl,ha0,by omega,bk⟩
theorem info5:(Tryz.prog.info? 5).map (fun i=> (i.zero,i.size,i.bytes))=some (some (.int .u8 0),1,1):=by kernel_rfl
theorem bytes_none (w:World):(w.alloc (.cells #[] 5)).ownsRow w.heap.size 5 1 (.slice (some ⟨w.heap.size,0,none⟩) 0 0) 0 (Lib.byteCells []):=
 ⟨rfl,.inr ⟨w.heap.size,0, #[],rfl,Nat.le_refl _,RowAt.new w 5 #[],by omega,by unfold maxLen;omega,by simp,by simp [Lib.byteCells]⟩⟩
theorem conv_own {w:World} {B A cap:Nat} {xs:List UInt8} (h:w.ownsRow B 5 1 (.slice (some ⟨A,0,none⟩) xs.length cap) xs.length (Lib.byteCells xs)):
  (convert 22 9 (.slice (some ⟨A,0,none⟩) xs.length cap)).run Tryz.prog w= .ok (.string ⟨xs.toArray⟩) w:=by
 refine run_convert_bytes_back _ 22 9 5 ⟨A,0,none⟩ cap xs Tryz.underlying22 Tryz.underlying5 Tryz.underlying9 ?_;intro j hj;exact h.cells rfl j _ (by simp [Lib.byteCells,hj])
theorem bytes_any (rb:Nat) (a:Option Addr) (n c:Nat) (w:World) (h:Rd w rb a n c) (hrb:rb<w.heap.size):
  Calls Tryz.prog 37 #[.pointer (some ⟨rb,0,none⟩),.int .i64 4] w (StrEnd w rb a n c):=by
 obtain ⟨i0,hi,hz0,hz1,hz2⟩:=info_parts info5;have hb:Below w.heap.size w (w.alloc (.cells #[] 5)):=(Below.refl _ w).alloc (Nat.le_refl _) _;have ho:=bytes_none w;go_enter Tryz.func37,Tryz.ntmps37;go_wp2_with fail;generalize w.alloc (.cells #[] 5)=w1 at*;refine (zde rb a n c 5 w1 (h.below hb hrb) (by omega) (by omega)).mono ?_;rintro e w2 ⟨k,rfl,hk,r2,g2'⟩;have g2:=zah (zcc (grown_refl w _) hb) g2';have o2:=ho.kept g2' (.inr fun e=>by have:=(ho.lt rb e).1;omega);clear ho hb g2' h;go_wp2_with fail;go_loopw [5,6] (fun tr i wr=>∃(j A cap:Nat) (xs:List UInt8),j+xs.length≤4∧i= .int .i64 j∧tr= .slice (some ⟨A,0,none⟩) xs.length cap∧wr.ownsRow w.heap.size 5 1 tr xs.length (Lib.byteCells xs)∧Rd wr rb a n c∧w.grownBy wr (some rb)) (fun _ i _=> (intOf i).toNat)
 case atStart=>exact ⟨k,w.heap.size,0,[],by simp;omega,rfl,rfl,o2,r2,g2⟩
 case round=>
  obtain ⟨j,A,cap,xs,hj,rfl,rfl,hown,rd,gr⟩:=hrel;clear o2 r2 g2;by_cases h0:0<j
  ·have hd:(0:Int)<(j:Int):=by omega
   go_wp2_with fail;refine (zde rb a n c 256 wr rd (by omega) (by omega)).mono ?_;rintro e w3 ⟨z,rfl,hz,r3,g3⟩;have hown3:=hown.kept g3 (.inr fun e=>by have:=(hown.lt rb e).1;omega);have g03:=zah gr g3;have sz3:=g03.size;have hb3:=zcg hrb g03;have hA:w.heap.size≤A:=(hown.lt A rfl).1;have hlen:xs.length≤4:=by omega
   go_wp2_with (at_builtin;refine wpList_append_own _ rfl _ _ 22 rfl w.heap.size 5 i0 _ 1 1 Tryz.underlying22 hi hz0 hz1 hz2 rfl (by decide) _ _ _ rfl (hown3.alloc _) ⟨w3.heap.size,0,none⟩ 1 1 [.int .u8 z] rfl rfl ?c1 ?c2 ?c3 ?c4 ?c5 ?_)
   case c1=>exact cell_one_new _ _ _
   case c2=>intro y hy;simp at hy;subst hy;rfl
   case c3=>unfold maxLen;omega
   case c4=>omega
   case c5=>simp;omega
   intro v' w5 hown' hgrow _;have hold:∀k,k<w3.heap.size→k≠A→w5.heap[k]?=w3.heap[k]?:=fun k hk hne=>by
    rw [hgrow.block k (by simp;omega) (fun e=>hne (Option.some.inj e))];exact Below.heap_alloc _ _ _ hk
   have g05:w.grownBy w5 (some rb):=⟨hgrow.os.trans g03.os,hgrow.tape.trans g03.tape,hgrow.output.trans g03.output,by have:=hgrow.size;simp at this;omega,fun k hk hne=> (hold k (by omega) (by omega)).trans (g03.block k hk hne)⟩;have g35:Below rb w3 w5:=⟨hgrow.os,hgrow.tape,hgrow.output,by have:=hgrow.size;simp at this;omega,fun k hk=>hold k (by omega) (by omega)⟩;have r5:Rd w5 rb a n c:=by
    obtain ⟨p,hp,hr⟩:=r3.row;exact ⟨⟨p,hp,(hold rb hb3 (by omega)).trans hr⟩,r3.fit,r3.bytes.below g35⟩
   have hez:((UInt8.ofNat z).toNat:Int)=(z:Int):=by
    rw [UInt8.toNat_ofNat'];omega
   have HO:Hid (w5.ownsRow w.heap.size 5 1 v' (xs++ [UInt8.ofNat z]).length (Lib.byteCells (xs++ [UInt8.ofNat z]))):=by
    unfold Hid;rw [List.length_append,Lib.byteCells_append];have e:Lib.byteCells [UInt8.ofNat z]=[.int .u8 (z:Int)]:=by show [Value.int .u8 ((UInt8.ofNat z).toNat:Int)]=_;rw [hez]
    rw [e];exact hown'
   obtain ⟨A',cap',rfl⟩:=Go.Joins.ownsRow_form HO.out (by simp);clear hown' hgrow hown3 hold;go_wp2;go_roundw
   case rel=>exact ⟨j-1,A',cap',xs++ [UInt8.ofNat z],by simp;omega,by go_num,rfl,HO.out,r5,g05⟩
   case measure=>simp [intOf];omega
  ·obtain rfl:j=0:=by omega
   have hcv:=conv_own hown;have hlen:xs.length≤4:=by omega
   go_wp2;go_ret;exact ⟨_,rfl,by show xs.toArray.size≤20;simp;omega,rd,gr⟩
theorem asked_any (rb:Nat) (a:Option Addr) (n c:Nat) (w:World) (h:Rd w rb a n c) (hrb:rb<w.heap.size):
  Calls Tryz.prog 16 #[.pointer (some ⟨rb,0,none⟩)] w (ListEnd w rb a n c):=by
 go_enter Tryz.func16,Tryz.ntmps16;go_wp2_with fail;refine (once_any rb a n c 4 w h (by omega) (by omega)).mono ?_;rintro e w1 ⟨b1,rfl,r1,g1⟩;have h1:=zcg hrb g1;cases b1 with
 |false=>
  go_wp2_with fail;refine (args_any rb a n c w1 r1 h1).mono ?_;rintro e w2 ⟨x,B,off,cap,ss,rfl,hs,hl,hcap,r2,g2,hz⟩;have HF:Hid (ListEnd w rb a n c (.returned (.slice x ss.length cap)) w2):=⟨x,B,off,cap,ss,rfl,hs,hl,hcap,r2,zah g1 g2,hz⟩;clear hs hl hcap r2 g2 hz g1 r1;go_wp2;go_ret;exact HF.out
 |true=>
  have hl:=RowAt.new w1 9 #[.string ⟨#[77,85,76,84,73]⟩,.string ⟨#[69,88,69,67]⟩,.string ⟨#[68,73,83,67,65,82,68]⟩,.string ⟨#[109,117,108,116,105]⟩,.string ⟨#[69,88,69,67]⟩];have hb:Below w1.heap.size w1 (w1.alloc (.cells #[.string ⟨#[77,85,76,84,73]⟩,.string ⟨#[69,88,69,67]⟩,.string ⟨#[68,73,83,67,65,82,68]⟩,.string ⟨#[109,117,108,116,105]⟩,.string ⟨#[69,88,69,67]⟩] 9)):=(Below.refl _ w1).alloc (Nat.le_refl _) _;have hs:SmallC #[.string ⟨#[77,85,76,84,73]⟩,.string ⟨#[69,88,69,67]⟩,.string ⟨#[68,73,83,67,65,82,68]⟩,.string ⟨#[109,117,108,116,105]⟩,.string ⟨#[69,88,69,67]⟩]:=small_of [⟨#[77,85,76,84,73]⟩,⟨#[69,88,69,67]⟩,⟨#[68,73,83,67,65,82,68]⟩,⟨#[109,117,108,116,105]⟩,⟨#[69,88,69,67]⟩] (by decide);go_wp2_with fail;generalize w1.alloc (.cells #[.string ⟨#[77,85,76,84,73]⟩,.string ⟨#[69,88,69,67]⟩,.string ⟨#[68,73,83,67,65,82,68]⟩,.string ⟨#[109,117,108,116,105]⟩,.string ⟨#[69,88,69,67]⟩] 9)=w2 at*;refine (zde rb a n c 5 w2 (r1.below hb h1) (by omega) (by omega)).mono ?_;rintro e w3 ⟨j,rfl,hj,r3,g3⟩;have gg:=zah (zcc g1 hb) g3;obtain ⟨s,hc,hz⟩:=pick_cell (row_read hl g3 (by omega)) hs j (by simpa using hj);have h3:=zcg hrb gg;have HF:Hid (ListEnd w rb a n c (.returned (.slice (some ⟨w3.heap.size,0,none⟩) 1 1)) (w3.alloc (.cells #[.string s] 9))):=zbg [s] (zac hz zbf) (by simp) r3 h3 gg;have j0:(0:Int)≤(j:Int):=by omega
  have j1:(j:Int)<5:=by omega
  clear hl hb hs g3 g1 r1 r3 gg;go_wp2;go_ret;exact HF.out
end Go.Proofs.YtibhabajknikcaaGreatDoor.Er
