import Derived.Test.YtibhabajknikcaaGreatDoorFImFed
import Derived.Deep.Cut
set_option maxHeartbeats 8000000
set_option maxRecDepth 100000
namespace Go.Proofs.YtibhabajknikcaaGreatDoor.Fd
open Go.RowKit Go.Sort
structure ListsB (W:World) (v:Value) (Q:List (List ByteArray)):Prop where
 val:∃a c,v= .slice a Q.length c
 at_:∀i (hi:i<Q.length),∃A o cap p b off k,v= .slice (some ⟨A,o,none⟩) Q.length cap∧A<W.heap.size∧W.cell? ⟨A,o+i,none⟩=some (.slice p (Q[i]).length k)∧StrsIn W p b off (Q[i]).length Q[i]
theorem ListsB.below {W W':World} {v:Value} {Q:List (List ByteArray)} (h:ListsB W v Q) (hb:Below W.heap.size W W'):ListsB W' v Q:=
 ⟨h.val,fun i hi=>by
  obtain ⟨A,o,cap,p,b,off,k,h1,h2,h3,h4⟩:=h.at_ i hi;exact ⟨A,o,cap,p,b,off,k,h1,Nat.lt_of_lt_of_le h2 hb.size,(hb.cell (p:=⟨A,o+i,none⟩) h2).trans h3,strs_below h4 hb⟩⟩
def SmallQ (Q:List (List ByteArray)):Prop:=Q.length≤1048576∧∀ss∈Q,ss.length≤1048576
end Go.Proofs.YtibhabajknikcaaGreatDoor.Fd
namespace Go.Proofs.YtibhabajknikcaaGreatDoor.Fd
open Go.RowKit Go.Sort
def feedB (t:ByteArray):Bool:=(fedM t.data.toList).2.2&&(decide ((fedM t.data.toList).1.length=0)&&decide ((⟨(fedM t.data.toList).2.1.toArray⟩:ByteArray)=t))
def reqB (ss:List ByteArray):Bool:=decide (1≤ss.length)&&okArgs ss
def headB (t:ByteArray) (multi:Bool) (n:Nat) (dirty dead:Bool):Bool:=decide (t.size≤5000)&&(decide (n≤16)&&((multi||(decide (n=0)&&!dirty))&&(!dead||(decide (t.size=0)&&!multi))))
def sessB (t:ByteArray) (multi:Bool) (Q:List (List ByteArray)) (dirty dead:Bool):Bool:=headB t multi Q.length dirty dead&&(Q.all reqB&&feedB t)
abbrev sessV (t:ByteArray) (multi:Bool) (v:Value) (dirty dead:Bool):Value:= .agg #[.string t,.bool multi,v,.bool dirty,.bool dead]
theorem wrong_any (a:Option Addr) (b off n c:Nat) (ss:List ByteArray) (w:World) (h:StrsIn w a b off n ss) (hn:n≤1048576):
  Calls Tryz.prog 18 #[.slice a n c] w fun e w'=>e= .returned (.bool (!reqB ss))∧w'=w:=by
 have hl:=h.len;by_cases h0:n=0
 ·have HR:Hid (reqB ss=false):=by unfold Hid reqB;rw [decide_eq_false (by omega),Bool.false_and]
  subst h0;go_enter Tryz.func18,Tryz.ntmps18;go_wp2;go_ret;exact ⟨by rw [HR.out];rfl,rfl⟩
 ·have HR:Hid (reqB ss=okArgs ss):=by unfold Hid reqB;rw [decide_eq_true (by omega),Bool.true_and]
  have hd:((n:Int)==0)=false:=by simp;omega
  have hd2:¬(n:Int)=0:=by omega
  have HA:=args48 a b off n c ss w h (by omega);go_enter Tryz.func18,Tryz.ntmps18;go_wp2_with fail;refine HA.mono ?_;rintro e w1 ⟨rfl,rfl⟩;go_wp2;go_ret;exact ⟨ret_bool (by rw [HR.out]),rfl⟩
theorem wrong_enters:∀args w,(callFunc 18 args).run Tryz.prog w= .ok (.enter 18 args) w:=enters_of Tryz.func18 (by kernel_rfl) rfl
theorem all_step (Q:List (List ByteArray)) (k:Nat) (h:k<Q.length) (hp:(Q.take k).all reqB=true):(Q.take (k+1)).all reqB=reqB Q[k]:=by
 rw [List.take_succ_eq_append_getElem h,List.all_append,hp];simp
theorem index_any (v:Value) (Q:List (List ByteArray)) (w:World) (h:ListsB w v Q) (hS:SmallQ Q):
  Calls Tryz.prog 148 #[v,.func (.func 18) #[] #[]] w fun e w'=> (∃r:Int,e= .returned (.int .i64 r)∧decide (0≤r)=!(Q.all reqB))∧w'=w:=by
 have HB:Hid (ListsB w v Q):=h;have HS:Hid (SmallQ Q):=hS;have hQn:=hS.1;obtain ⟨a,c,hv⟩:=h.val;subst hv;clear h hS;go_enter Tryz.func148,Tryz.ntmps148;go_wp2;go_loopw [8] (fun i wr=>∃(k:Nat),k≤Q.length∧i= .int .i64 k∧Hid ((Q.take k).all reqB=true)∧wr=w) (fun i _=>Q.length-(intOf i).toNat)
 case atStart=>exact ⟨0,by omega,rfl,by unfold Hid;simp,rfl⟩
 case round=>
  obtain ⟨k,hk,rfl,hp,rfl⟩:=hrel;by_cases hlt:k<Q.length
  ·obtain ⟨A,o,cap,p,b,off,kk,e1,_,hc,hs⟩:=HB.out.at_ k hlt;cases e1;have HW:=wrong_any p b off (Q[k]).length kk Q[k] wr hs (HS.out.2 _ (List.getElem_mem hlt));have HST:Hid _:=all_step Q k hlt hp.out;have HNO:Hid (reqB Q[k]=false→Q.all reqB=false):=fun hf=>by
    rw [List.all_eq_false];exact ⟨Q[k],List.getElem_mem hlt,by rw [hf];simp⟩
   have hent:=wrong_enters;clear hs hp;go_wp2_with fail;refine HW.mono ?_;rintro e w1 ⟨rfl,rfl⟩;cases hq:reqB Q[k] with
   |true=>
    have HST2:Hid ((Q.take (k+1)).all reqB=true):=HST.out.trans hq;clear HW HST HNO hq;go_wp2;go_roundw
    case rel=>exact ⟨k+1,by omega,by go_num,HST2,trivial⟩
    case measure=>simp [intOf];omega
   |false=>
    have HN2:Hid (Q.all reqB=false):=HNO.out hq;clear HW HST HNO hq;go_wp2;go_ret;exact ⟨⟨k,rfl,by rw [HN2.out];simp⟩,rfl⟩
  ·obtain rfl:k=Q.length:=by omega
   have HA:Hid (Q.all reqB=true):=by
    have:=hp.out;rwa [List.take_of_length_le (Nat.le_refl _)] at this
   clear hp;go_wp2;go_ret;exact ⟨⟨-1,rfl,by rw [HA.out];rfl⟩,rfl⟩
theorem contains_any (v:Value) (Q:List (List ByteArray)) (w:World) (h:ListsB w v Q) (hS:SmallQ Q):
  Calls Tryz.prog 114 #[v,.func (.func 18) #[] #[]] w fun e w'=>e= .returned (.bool (!(Q.all reqB)))∧w'=w:=by
 have HI:=index_any v Q w h hS;obtain ⟨a,c,hv⟩:=h.val;subst hv;go_enter Tryz.func114,Tryz.ntmps114;go_wp2_with fail;refine HI.mono ?_;rintro e w1 ⟨⟨r,rfl,hr⟩,rfl⟩;have HR:Hid (decide (0≤r)=!(Q.all reqB)):=hr;clear HI hr;go_wp2;go_ret;exact ⟨ret_bool HR.out,rfl⟩
def queueB (Q:List (List ByteArray)):Bool:=decide (Q.length≤16)&&Q.all reqB
theorem queue_any (v:Value) (Q:List (List ByteArray)) (w:World) (h:ListsB w v Q) (hS:SmallQ Q):
  Calls Tryz.prog 77 #[v] w fun e w'=>e= .returned (.bool (queueB Q))∧w'=w:=by
 have HC:=contains_any v Q w h hS;have hQn:=hS.1;obtain ⟨a,c,hv⟩:=h.val;subst hv;by_cases h16:Q.length≤16
 ·have HQ:Hid (queueB Q=Q.all reqB):=by unfold Hid queueB;rw [decide_eq_true h16,Bool.true_and]
  have hd:(Q.length:Int)≤16:=by omega
  go_enter Tryz.func77,Tryz.ntmps77;go_wp2_with fail;refine HC.mono ?_;rintro e w1 ⟨rfl,rfl⟩;clear HC;go_wp2;go_ret;exact ⟨ret_bool (by rw [HQ.out]),rfl⟩
 ·have HQ:Hid (queueB Q=false):=by unfold Hid queueB;rw [decide_eq_false h16,Bool.false_and]
  have hd:¬(Q.length:Int)≤16:=by omega
  clear HC;go_enter Tryz.func77,Tryz.ntmps77;go_wp2;go_ret;exact ⟨ret_bool HQ.out.symm,rfl⟩
theorem str_ne {a b:ByteArray} (h:¬a=b):(a.toList==b.toList)=false:=by
 rw [beq_eq_false_iff_ne,ByteArray.toList_eq,ByteArray.toList_eq];intro e;exact h (ByteArray.ext (Array.toList_inj.1 e))
def restB (t:ByteArray):Bool:=decide (t.size≤5000)&&feedB t
theorem rest_any (t:ByteArray) (w:World) (hr:Ready w) (ht:t.size≤1048576):
  Calls Tryz.prog 76 #[.string t] w fun e w'=>e= .returned (.bool (restB t))∧Below w.heap.size w w':=by
 by_cases h5:t.size≤5000
 ·have hd:¬(5000:Int)<(t.size:Int):=by omega
  have HI:=implFed t ⟨#[]⟩ w hr (by show t.size+0≤_;omega);have el:t.data.toList++(⟨#[]⟩:ByteArray).data.toList=t.data.toList:=by simp
  rw [el] at HI;unfold FedEnd at HI;have HB:Hid (restB t=((fedM t.data.toList).2.2&&(decide ((fedM t.data.toList).1.length=0)&&decide ((⟨(fedM t.data.toList).2.1.toArray⟩:ByteArray)=t)))):=by
   unfold Hid restB feedB;rw [decide_eq_true h5,Bool.true_and]
  have hLn:(fedM t.data.toList).1.length≤2097152:=by
   have:=(fed_reqs t.data.toList).1;rw [←Lib.size_eq] at this;omega
  generalize (⟨(fedM t.data.toList).2.1.toArray⟩:ByteArray)=left at*;generalize (fedM t.data.toList).2.2=ok at*;generalize (fedM t.data.toList).1=L at*;clear el;go_enter Tryz.func76,Tryz.ntmps76;go_wp2_with fail;refine HI.mono ?_;rintro e w1 ⟨v,xs,rfl,o1,b1⟩;obtain ⟨p,c,hv⟩:=slice_any o1.outer;rw [rowsOf_len] at hv;subst hv;clear HI o1;cases ok with
  |false=>
   go_wp2;go_ret;exact ⟨ret_bool (by rw [HB.out];rfl),b1⟩
  |true=>
   by_cases hL:L.length=0
   ·have hL1:((L.length:Int)==0)=true:=by simp [hL]
    have hL2:(L.length:Int)=0:=by omega
    by_cases hlt:left=t
    ·have HB2:Hid (restB t=true):=by unfold Hid;rw [HB.out,decide_eq_true hL,decide_eq_true hlt];rfl
     clear HB;subst hlt;go_wp2;go_ret;exact ⟨ret_bool HB2.out.symm,b1⟩
    ·have hlt2:=str_ne hlt;have HB2:Hid (restB t=false):=by unfold Hid;rw [HB.out,decide_eq_true hL,decide_eq_false hlt];rfl
     clear HB;go_wp2;go_ret;exact ⟨ret_bool (by rw [HB2.out]),b1⟩
   ·have hL1:((L.length:Int)==0)=false:=beq_eq_false_iff_ne.2 (by omega);have hL2:¬(L.length:Int)=0:=by omega
    have HB2:Hid (restB t=false):=by unfold Hid;rw [HB.out,decide_eq_false hL];rfl
    clear HB;go_wp2;go_ret;exact ⟨ret_bool HB2.out.symm,b1⟩
 ·have hd:(5000:Int)<(t.size:Int):=by omega
  have HB:Hid (restB t=false):=by unfold Hid restB;rw [decide_eq_false h5,Bool.false_and]
  go_enter Tryz.func76,Tryz.ntmps76;go_wp2;go_ret;exact ⟨ret_bool HB.out.symm,Below.refl _ _⟩
end Go.Proofs.YtibhabajknikcaaGreatDoor.Fd
namespace Go.Proofs.YtibhabajknikcaaGreatDoor.Fd
open Go.RowKit Go.Sort
theorem five_at {W:World} {g:Nat} {T:TypeId} {a b c d e:Value} (h:RowAt W g T #[a,b,c,d,e]):W.cell? ⟨g,0,none⟩=some a∧W.cell? ⟨g,1,none⟩=some b∧W.cell? ⟨g,2,none⟩=some c∧W.cell? ⟨g,3,none⟩=some d∧W.cell? ⟨g,4,none⟩=some e:=
 ⟨h.cell 0,h.cell 1,h.cell 2,h.cell 3,h.cell 4⟩
theorem implSess (t:ByteArray) (multi:Bool) (v:Value) (Q:List (List ByteArray)) (dirty dead:Bool) (w:World) (hr:Ready w) (ht:t.size≤1048576) (h:ListsB w v Q) (hS:SmallQ Q):
  Calls Tryz.prog 40 #[sessV t multi v dirty dead] w fun e w'=>e= .returned (.bool (sessB t multi Q dirty dead))∧Below w.heap.size w w':=by
 have HB:Hid (ListsB w v Q):=h;have HS:Hid (SmallQ Q):=hS;have HR:Hid (Ready w):=hr;have hsix:=hr.six;have hQn:=hS.1;obtain ⟨a,c,hv⟩:=h.val;subst hv;clear h hS hr;have HE:Hid (sessB t multi Q dirty dead=(restB t&&(queueB Q&&((multi||(decide (Q.length=0)&&!dirty))&&(!dead||(decide (t.size=0)&&!multi)))))):=by
  unfold Hid sessB headB restB queueB;cases decide (t.size≤5000)<;>cases decide (Q.length≤16)<;>cases (multi||(decide (Q.length=0)&&!dirty))<;>cases (!dead||(decide (t.size=0)&&!multi))<;>cases Q.all reqB<;>cases feedB t<;>rfl
 have b0:Below w.heap.size w (w.alloc (.cells #[.string t,.bool multi,.slice a Q.length c,.bool dirty,.bool dead] 27)):=(Below.refl _ w).alloc (Nat.le_refl _) _;have q0:=RowAt.new w 27 #[.string t,.bool multi,.slice a Q.length c,.bool dirty,.bool dead];have HB1:Hid (ListsB (w.alloc (.cells #[.string t,.bool multi,.slice a Q.length c,.bool dirty,.bool dead] 27)) (.slice a Q.length c) Q):=HB.out.below b0;have HR1:Hid (Ready (w.alloc (.cells #[.string t,.bool multi,.slice a Q.length c,.bool dirty,.bool dead] 27))):=HR.out.below (b0.mono hsix);obtain ⟨e0,e1,e2,e3,e4⟩:=five_at q0;go_enter Tryz.func40,Tryz.ntmps40;go_upto_region 1 with fail;generalize w.alloc (.cells #[.string t,.bool multi,.slice a Q.length c,.bool dirty,.bool dead] 27)=w1 at*;go_cut [3] (fun x wx=>x= .bool (decide (Q.length=0)&&!dirty)∧wx=w1)
 case first=>
  by_cases h0:Q.length=0
  ·have h1:((Q.length:Int)==0)=true:=by rw [h0];rfl
   have h2:(Q.length:Int)=0:=by omega
   cases dirty;all_goals
    go_wp2_with fail;go_meet
    case rel=>exact ⟨by simp [h0],rfl⟩
  ·have h1:((Q.length:Int)==0)=false:=beq_eq_false_iff_ne.2 (by omega);have h2:¬(Q.length:Int)=0:=by omega
   go_wp2_with fail;go_meet
   case rel=>exact ⟨by rw [decide_eq_false h0];rfl,rfl⟩
 case rest=>
  obtain ⟨rfl,rfl⟩:=hcut;generalize (decide (Q.length=0)&&!dirty)=idle at*;go_upto_region 2 with fail;go_cut [4] (fun x wx=>x= .bool (decide (t.size=0)&&!multi)∧wx=wc)
  case first=>
   by_cases h0:t.size=0
   ·have he:=empty_yes h0;cases multi;all_goals
     go_wp2_with fail;go_meet
     case rel=>exact ⟨by simp [h0],rfl⟩
   ·have he:=empty_no (s:=t) (by omega);go_wp2_with fail;go_meet
    case rel=>exact ⟨by rw [decide_eq_false h0];rfl,rfl⟩
  case rest=>
   obtain ⟨rfl,rfl⟩:=hcut;generalize (decide (t.size=0)&&!multi)=silent at*;have HRS:=rest_any t wc HR1.out ht;go_wp2_with fail;refine HRS.mono ?_;rintro e w2 ⟨rfl,b2⟩;have q2:=q0.below b2 q0.lt;have bb2:=b0.trans (b2.mono (by have:=q0.lt;omega));have HQ2:=queue_any (.slice a Q.length c) Q w2 (HB1.out.below b2) HS.out;obtain ⟨f0,f1,f2,f3,f4⟩:=five_at q2;clear HRS b2 q0 q2 e0 e1 e2 e3 e4 HB1 HR1 HB HR;cases hrb:restB t with
   |false=>
    clear HQ2;go_wp2;go_ret;exact ⟨ret_bool (by rw [HE.out,hrb];rfl),bb2⟩
   |true=>
    go_wp2_with fail;refine HQ2.mono ?_;rintro e w3 ⟨rfl,rfl⟩;clear HQ2;cases hqb:queueB Q with
    |false=>
     go_wp2;go_ret;exact ⟨ret_bool (by rw [HE.out,hrb,hqb];rfl),bb2⟩
    |true=>
     have HE2:Hid (sessB t multi Q dirty dead=((multi||idle)&&(!dead||silent))):=by
      unfold Hid;rw [HE.out,hrb,hqb];rfl
     clear HE hrb hqb;cases multi<;>cases idle<;>cases dead<;>cases silent;all_goals
      go_wp2;go_ret;exact ⟨ret_bool (by rw [HE2.out];rfl),bb2⟩
theorem specSess (t:ByteArray) (multi:Bool) (v:Value) (Q:List (List ByteArray)) (dirty dead:Bool) (w:World) (ht:t.size≤1048576) (h:ListsB w v Q) (hS:SmallQ Q):
  Calls Tryz.prog 49 #[sessV t multi v dirty dead] w fun e w'=>e= .returned (.bool (sessB t multi Q dirty dead))∧Below w.heap.size w w':=by
 have HB:Hid (ListsB w v Q):=h;have HS:Hid (SmallQ Q):=hS;have hQn:=hS.1;obtain ⟨a,c,hv⟩:=h.val;subst hv;clear h hS;have HE:Hid (sessB t multi Q dirty dead=(headB t multi Q.length dirty dead&&(Q.all reqB&&feedB t))):=rfl;have b0:Below w.heap.size w (w.alloc (.cells #[.string t,.bool multi,.slice a Q.length c,.bool dirty,.bool dead] 27)):=(Below.refl _ w).alloc (Nat.le_refl _) _;have q0:=RowAt.new w 27 #[.string t,.bool multi,.slice a Q.length c,.bool dirty,.bool dead];have HB1:Hid (ListsB (w.alloc (.cells #[.string t,.bool multi,.slice a Q.length c,.bool dirty,.bool dead] 27)) (.slice a Q.length c) Q):=HB.out.below b0;obtain ⟨e0,e1,e2,e3,e4⟩:=five_at q0;go_enter Tryz.func49,Tryz.ntmps49;go_upto_region 1 with fail;generalize w.alloc (.cells #[.string t,.bool multi,.slice a Q.length c,.bool dirty,.bool dead] 27)=w1 at*;go_cut [44] (fun x wx=>x= .bool (!(headB t multi Q.length dirty dead))∧wx=w1)
 case first=>
  by_cases h5:t.size≤5000
  ·have g5:¬(5000:Int)<(t.size:Int):=by omega
   by_cases h16:Q.length≤16
   ·have g16:¬(16:Int)<(Q.length:Int):=by omega
    have HH:Hid (headB t multi Q.length dirty dead=((multi||(decide (Q.length=0)&&!dirty))&&(!dead||(decide (t.size=0)&&!multi)))):=by
     unfold Hid headB;rw [decide_eq_true h5,decide_eq_true h16,Bool.true_and,Bool.true_and]
    clear h5 h16;by_cases h0:Q.length=0
    ·have g0:decide ((0:Int)<(Q.length:Int))=false:=decide_eq_false (by omega);have g1:decide (0<Q.length)=false:=decide_eq_false (by omega);rw [decide_eq_true h0] at HH;clear h0;by_cases ht0:t.size=0
     ·have he:=empty_yes ht0;rw [decide_eq_true ht0] at HH;clear ht0;cases multi<;>cases dirty<;>cases dead;all_goals
       go_wp2_with fail;go_meet
       case rel=>exact ⟨by rw [HH.out];rfl,rfl⟩
     ·have he:=empty_no (s:=t) (by omega);rw [decide_eq_false ht0] at HH;clear ht0;cases multi<;>cases dirty<;>cases dead;all_goals
       go_wp2_with fail;go_meet
       case rel=>exact ⟨by rw [HH.out];rfl,rfl⟩
    ·have g0:decide ((0:Int)<(Q.length:Int))=true:=decide_eq_true (by omega);have g1:decide (0<Q.length)=true:=decide_eq_true (by omega);rw [decide_eq_false h0] at HH;clear h0;by_cases ht0:t.size=0
     ·have he:=empty_yes ht0;rw [decide_eq_true ht0] at HH;clear ht0;cases multi<;>cases dead;all_goals
       go_wp2_with fail;go_meet
       case rel=>exact ⟨by rw [HH.out];rfl,rfl⟩
     ·have he:=empty_no (s:=t) (by omega);rw [decide_eq_false ht0] at HH;clear ht0;cases multi<;>cases dead;all_goals
       go_wp2_with fail;go_meet
       case rel=>exact ⟨by rw [HH.out];rfl,rfl⟩
   ·have g16:(16:Int)<(Q.length:Int):=by omega
    have HH:Hid (headB t multi Q.length dirty dead=false):=by unfold Hid headB;rw [decide_eq_false h16];simp
    clear h5 h16;go_wp2_with fail;go_meet
    case rel=>exact ⟨by rw [HH.out];rfl,rfl⟩
  ·have g5:(5000:Int)<(t.size:Int):=by omega
   have HH:Hid (headB t multi Q.length dirty dead=false):=by unfold Hid headB;rw [decide_eq_false h5];simp
   clear h5;go_wp2_with fail;go_meet
   case rel=>exact ⟨by rw [HH.out];rfl,rfl⟩
 case rest=>
  obtain ⟨rfl,rfl⟩:=hcut;generalize hnn:(!(headB t multi Q.length dirty dead))=nn;cases nn with
  |true=>
   have hh:headB t multi Q.length dirty dead=false:=by simpa using hnn
   clear hnn;go_wp2;go_ret;exact ⟨ret_bool (by rw [HE.out,hh];rfl),b0⟩
  |false=>
   have hh:headB t multi Q.length dirty dead=true:=by simpa using hnn
   clear hnn;have HE2:Hid (sessB t multi Q dirty dead=(Q.all reqB&&feedB t)):=by unfold Hid;rw [HE.out,hh];rfl
   have hlow:=q0.lt;clear HE hh;go_wp2_with fail;go_loopw [3] (fun i wr=>∃(k:Nat),k≤Q.length∧i= .int .i64 k∧Hid ((Q.take k).all reqB=true)∧wr=wc) (fun i _=>Q.length-(intOf i).toNat)
   case atStart=>exact ⟨0,by omega,rfl,by unfold Hid;simp,rfl⟩
   case round=>
    obtain ⟨k,hk,rfl,hp,rfl⟩:=hrel;by_cases hlt:k<Q.length
    ·obtain ⟨A,o,cap,p,b,off,kk,ea,_,hc,hs⟩:=HB1.out.at_ k hlt;cases ea;have HA:=args46 p b off (Q[k]).length kk Q[k] wr hs (by have:=HS.out.2 _ (List.getElem_mem hlt);omega);have HST:Hid _:=all_step Q k hlt hp.out;have HNO:Hid (reqB Q[k]=false→Q.all reqB=false):=fun hf=>by
      rw [List.all_eq_false];exact ⟨Q[k],List.getElem_mem hlt,by rw [hf];simp⟩
     have HRQ:Hid (reqB Q[k]=(decide (1≤(Q[k]).length)&&okArgs Q[k])):=rfl;clear hs hp;by_cases h1:(Q[k]).length<1
     ·have g1:((Q[k]).length:Int)<1:=by omega
      have HN2:Hid (Q.all reqB=false):=HNO.out (by rw [HRQ.out,decide_eq_false (by omega)];rfl);clear HA HST HNO HRQ h1;generalize (Q[k]).length=m at*;go_wp2;go_ret;exact ⟨ret_bool (by rw [HE2.out,HN2.out];rfl),b0⟩
     ·have g1:¬((Q[k]).length:Int)<1:=by omega
      have HR2:Hid (reqB Q[k]=okArgs Q[k]):=by unfold Hid;rw [HRQ.out,decide_eq_true (by omega),Bool.true_and]
      clear HRQ h1;generalize (Q[k]).length=m at*;go_wp2_with fail;refine HA.mono ?_;rintro e w2 ⟨rfl,rfl⟩;cases hok:okArgs Q[k] with
      |true=>
       have HST2:Hid ((Q.take (k+1)).all reqB=true):=HST.out.trans (HR2.out.trans hok);clear HA HST HNO HR2 hok;go_wp2;go_roundw
       case rel=>
        exact ⟨k+1,by omega,by go_num,HST2,trivial⟩
       case measure=>simp [intOf];omega
      |false=>
       have HN2:Hid (Q.all reqB=false):=HNO.out (HR2.out.trans hok);clear HA HST HNO HR2 hok;go_wp2;go_ret;exact ⟨ret_bool (by rw [HE2.out,HN2.out];rfl),b0⟩
    ·obtain rfl:k=Q.length:=by omega
     have HA:Hid (Q.all reqB=true):=by
      have:=hp.out;rwa [List.take_of_length_le (Nat.le_refl _)] at this
     have HE3:Hid (sessB t multi Q dirty dead=feedB t):=by unfold Hid;rw [HE2.out,HA.out];rfl
     have HSF:=specFed ⟨#[]⟩ t wr (by show 0+t.size≤_;omega);have el:(⟨#[]⟩:ByteArray).data.toList++t.data.toList=t.data.toList:=by simp
     rw [el] at HSF;unfold FedEnd at HSF;have HFB:Hid (feedB t=((fedM t.data.toList).2.2&&(decide ((fedM t.data.toList).1.length=0)&&decide ((⟨(fedM t.data.toList).2.1.toArray⟩:ByteArray)=t)))):=rfl;have hLn:(fedM t.data.toList).1.length≤2097152:=by
      have:=(fed_reqs t.data.toList).1;rw [←Lib.size_eq] at this;omega
     generalize (⟨(fedM t.data.toList).2.1.toArray⟩:ByteArray)=left at*;generalize (fedM t.data.toList).2.2=ok at*;generalize (fedM t.data.toList).1=L at*;clear el hp HE2 HA;go_wp2_with fail;refine HSF.mono ?_;rintro e w2 ⟨v2,xs,rfl,o2,b2⟩;have q2:=q0.below b2 q0.lt;have bb2:=b0.trans (b2.mono (by omega));obtain ⟨f0,f1,f2,f3,f4⟩:=five_at q2;obtain ⟨p2,c2,hv2⟩:=slice_any o2.outer;rw [rowsOf_len] at hv2;subst hv2;clear HSF o2 b2 q2 q0 e0 e1 e2 e3 e4 HB1;by_cases hL:L.length=0
     ·have hL1:((L.length:Int)==0)=true:=by rw [hL];rfl
      have hL2:(L.length:Int)=0:=by omega
      cases ok with
      |false=>
       have HZ:Hid (feedB t=false):=by unfold Hid;rw [HFB.out];rfl
       clear HFB;go_wp2;go_ret;exact ⟨ret_bool (by rw [HE3.out,HZ.out]),bb2⟩
      |true=>
       by_cases hlt2:left=t
       ·have HZ:Hid (feedB t=true):=by unfold Hid;rw [HFB.out,decide_eq_true hL,decide_eq_true hlt2];rfl
        clear HFB;subst hlt2;go_wp2;go_ret;exact ⟨ret_bool (by rw [HE3.out,HZ.out]),bb2⟩
       ·have hne:=str_ne hlt2;have HZ:Hid (feedB t=false):=by unfold Hid;rw [HFB.out,decide_eq_true hL,decide_eq_false hlt2];rfl
        clear HFB;go_wp2;go_ret;exact ⟨ret_bool (by rw [HE3.out,HZ.out]),bb2⟩
     ·have hL1:((L.length:Int)==0)=false:=beq_eq_false_iff_ne.2 (by omega);have hL2:¬(L.length:Int)=0:=by omega
      have HZ:Hid (feedB t=false):=by unfold Hid;rw [HFB.out,decide_eq_false hL];cases ok<;>rfl
      clear HFB;go_wp2;go_ret;exact ⟨ret_bool (by rw [HE3.out,HZ.out]),bb2⟩
end Go.Proofs.YtibhabajknikcaaGreatDoor.Fd
