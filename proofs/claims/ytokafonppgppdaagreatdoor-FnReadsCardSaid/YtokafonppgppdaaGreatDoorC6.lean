import Derived.Test.YtokafonppgppdaaGreatDoorC3
import Derived.Test.YtokafonppgppdaaGreatDoorG3
set_option maxHeartbeats 8000000
set_option maxRecDepth 100000
namespace Go.Proofs.YtokafonppgppdaaGreatDoor
open Tryz
open Go.RowKit Go.Sort
open Kk (Rk rk0 zd7 zju zc6 zea zeb zec za9 zbk encR zdh)
variable {w w' wr:World} {L:List KV} {v:Value}
theorem zv7 {B g:Nat} (h:zab w g 47 #[]) (hB:B<=g):znh w B (.slice (some ⟨g,0,none⟩) 0 0) []:=
 ⟨rfl,.inr ⟨g,0, #[],rfl,hB,h,Qc _,by unfold maxLen;omega,rfl,rfl⟩⟩
open Kk (Rk rk0 zd7 zju zc6 zea zeb zec za9 zbk encR zdh zbz str_eq)
structure ycg (w:World) (a:Option Addr) (b n:Nat) (L:List KV):Prop where
 ks:zx7 w a b n L
 val:∀i,i<n->VRd w (L.getD i kv0).key.val (L.getD i kv0).vi (L.getD i kv0).vp (L.getD i kv0).vr
 z1:∀i,i<n->(L.getD i kv0).key.val.ia.length<=1048577
 z2:∀i,i<n->(L.getD i kv0).key.val.pj.length<=1048577
 z3:∀i,i<n->(L.getD i kv0).key.val.rq.length<=1048577
theorem ycg.bw {a:Option Addr} {b n:Nat} (h:ycg w a b n L) (hb:Bl w w'):ycg w' a b n L:=
 ⟨h.ks.bw hb,fun i hi=> (h.val i hi).bw hb,h.z1,h.z2,h.z3⟩
def zd1 (ks:List Ke) (nm:ByteArray) (at0:Nat):Int:=match ks with
 | []=>-1
 |k::ks=>if k.name=nm then (at0:Int) else zd1 ks nm (at0+1)
theorem zvo:∀(L:List KV) (nm:ByteArray) (k s:Nat),k<L.length->(∀j,j<k->(L.getD j kv0).key.name≠nm)->(L.getD k kv0).key.name=nm->zd1 (L.map KV.key) nm s=((s+k:Nat):Int)
 | [],_,_,_,h,_,_=>by simp at h
 |x::xs,nm,0,s,_,_,h=>by
  show (if x.key.name=nm then (s:Int) else _)=_;rw [if_pos (by simpa using h)];rfl
 |x::xs,nm,k+1,s,hk,hn,h=>by
  show (if x.key.name=nm then (s:Int) else zd1 (xs.map KV.key) nm (s+1))=_;rw [if_neg (by have:=hn 0 (by omega);simpa using this),zvo xs nm k (s+1) (by simpa using hk) (fun j hj=>by have:=hn (j+1) (by omega);simpa using this) (by simpa using h)];congr 1;omega
theorem zqw:∀(L:List KV) (nm:ByteArray) (s:Nat),(∀j,j<L.length->(L.getD j kv0).key.name≠nm)->zd1 (L.map KV.key) nm s= -1
 | [],_,_,_=>rfl
 |x::xs,nm,s,hn=>by
  show (if x.key.name=nm then (s:Int) else zd1 (xs.map KV.key) nm (s+1))=_;rw [if_neg (by have:=hn 0 (by simp);simpa using this)];exact zqw xs nm (s+1) (fun j hj=>by have:=hn (j+1) (by simpa using hj);simpa using this)
theorem zph (a:Option Addr) (b n c:Nat) (L:List KV) (nm:ByteArray) (w:World) (h:zx7 w a b n L) (hn:n<=1048577):
  Calls prog 101 #[.slice a n c,.string nm] w fun e w'=>e= .returned (.int .i64 (zd1 (L.map KV.key) nm 0))/\w'=w:=by
 have H:Hid (zx7 w a b n L):=h;have HL:Hid (L.length=n):=h.len;clear h;go_enter func101,ntmps101;go_wp2;go_loop [5] (fun i=>∃k:Nat,k<=n/\i= .int .i64 k/\Hid (∀j,j<k->(L.getD j kv0).key.name≠nm)) (fun i=>n-(intOf i).toNat)
 case atStart=>exact ⟨0,by omega,rfl,fun j hj=>by omega⟩
 case round=>
  obtain ⟨k,hk,rfl,hp⟩:=hrel;by_cases hlt:k<n
  ·have c0:=(H.out.cell k hlt).c0;obtain rfl:=H.out.addr (by omega);by_cases he:(L.getD k kv0).key.name=nm
   ·have HF:Hid (zd1 (L.map KV.key) nm 0=(k:Int)):=by
     have:=zvo L nm k 0 (by rw [HL.out];exact hlt) hp.out he;rw [Qq] at this;exact this
    rw [he] at c0;clear he hp;go_wp2;go_ret;exact ⟨zen HF.out.symm,rfl⟩
   ·have HP:Hid (∀j,j<k+1->(L.getD j kv0).key.name≠nm):=fun j hj=>by
     by_cases e:j=k
     ·subst e;exact he
     ·exact hp.out j (by omega)
    have hd:=zbz he;generalize (L.getD k kv0).key.name=x at*;clear he hp;go_wp2;go_round
    case rel=>exact ⟨k+1,by omega,by go_num,HP⟩
    case measure=>simp [intOf];omega
  ·have HF:Hid (zd1 (L.map KV.key) nm 0= -1):=zqw L nm 0 (fun j hj=>hp.out j (by rw [HL.out] at hj;omega));clear hp;go_wp2;go_ret;exact ⟨zen HF.out.symm,rfl⟩
structure zcn (w:World) (v:Value) (wr:World) (L:List KV):Prop where
 own:znh wr w.heap.size v L
 vals:∃β,Rising wr w.heap.size L wr.heap.size β
 bel:Bl w wr
theorem zcn.empty (w:World):zcn w (.slice (some ⟨w.heap.size,0,none⟩) 0 0) (w.alloc (.cells #[] 47)) []:=
 ⟨zv7 (zab.new w 47 #[]) (Qc _),⟨_,zn1 _ _ _ (by simp)⟩,(Qb _ w).alloc (Qc _) _⟩
theorem zcn.db (h:zcn w v wr L):zaw wr w.heap.size v L:=⟨h.own,h.vals⟩
theorem zcn.more (h:zcn w v wr L) (hb:Bl wr w'):zcn w v w' L:=by
 obtain ⟨β,hr⟩:=h.vals;exact ⟨zaf h.own hb,⟨β,(hr.bw hb).up hb.size⟩,h.bel.trans (hb.mono h.bel.size)⟩
theorem zcn.push {w3:World} {k:Ke} {p1:Option Addr} {d1:Nat} {p2:Option Addr} {d2:Nat} {p3:Option Addr} {d3:Nat} (h:zcn w v wr L) (hb:Bl wr w3) (hv:VOwn w3 wr.heap.size k.val (.slice p1 k.val.ia.length d1) (.slice p2 k.val.pj.length d2) (.slice p3 k.val.rq.length d3)) (hn:L.length<=1048576):
  ∃v' w5,(Builtin.append_ #[24,24] 24 #[v,.slice (some ⟨w3.heap.size,0,none⟩) 1 1]).run prog (w3.alloc (.cells (kC k.name k.val.kind k.val.text (.slice p1 k.val.ia.length d1) (.slice p2 k.val.pj.length d2) (.slice p3 k.val.rq.length d3) k.due) 47))= .ok v' w5/\zcn w v' w5 (L++ [⟨k,.slice p1 k.val.ia.length d1,.slice p2 k.val.pj.length d2,.slice p3 k.val.rq.length d3⟩]):=by
 have hm:=h.more hb;obtain ⟨v',w5,hrun,o5,b5,g5⟩:=ya8 (w:=w3) (B:=w.heap.size) (V:=v) (L:=L) k p1 p2 p3 k.val.ia.length d1 k.val.pj.length d2 k.val.rq.length d3 hm.own hn hm.bel.size;obtain ⟨β,hr⟩:=h.vals;have kp:=zpo hm.own g5;have r3:=(hr.bw hb).kept kp;have v5:=zgf hv kp;refine ⟨v',w5,hrun,o5,⟨_,r3.snoc (y:=⟨k,.slice p1 k.val.ia.length d1,.slice p2 k.val.pj.length d2,.slice p3 k.val.rq.length d3⟩) v5 (Qj hb.size g5.size) fun g hu=>?_⟩,hm.bel.trans b5⟩;rcases hu with hu|hu|hu
 ·exact (zaz v5.ia hu).2
 ·exact (zaz v5.pj hu).2
 ·exact (zaz v5.rq hu).2
def zc1 (w:World) (ks:List Ke) (e:Ending) (w':World):Prop:=∃v L,e= .returned v/\L.map KV.key=ks/\zaw w' w.heap.size v L/\Bl w w'
def zbl (ks:List Ke) (nm:ByteArray):List Ke:=ks.filter fun k=>!decide (k.name=nm)
theorem zme (p:Ke->Bool) (L:List KV) (k:Nat) (h:k<L.length):((L.take (k+1)).map KV.key).filter p=((L.take k).map KV.key).filter p++(if p (L.getD k kv0).key=true then [(L.getD k kv0).key] else []):=by
 rw [Qo h,List.map_append,List.filter_append];congr 1;rw [show (L.getD k kv0)=L[k] by rw [Qa,Qd h];rfl];simp [List.filter_cons]
theorem zky (a:Option Addr) (b n c:Nat) (L:List KV) (nm:ByteArray) (w:World) (h:ycg w a b n L) (hn:n<=1048576):
  Calls prog 143 #[.slice a n c,.string nm] w (zc1 w (zbl (L.map KV.key) nm)):=by
 have H:Hid (ycg w a b n L):=h;have HL:Hid (L.length=n):=h.ks.len;obtain ⟨G,hG⟩:∃G,zbl (L.map KV.key) nm=G:=⟨_,rfl⟩;have HG:Hid (zbl (L.map KV.key) nm=G):=hG;rw [hG];clear h hG;go_enter func143,ntmps143;go_wp2;go_loopw [5,6] (fun v i wr=>∃(k:Nat) (M:List KV),k<=n/\i= .int .i64 k/\M.length<=k/\Hid (M.map KV.key=zbl ((L.take k).map KV.key) nm)/\Hid (zcn w v wr M)) (fun _ i _=>n-(intOf i).toNat)
 case atStart=>exact ⟨0,[],by omega,rfl,by simp,rfl,zcn.empty w⟩
 case round=>
  obtain ⟨k,M,hk,rfl,hml,hM,hI⟩:=hrel;have bk:=hI.out.bel;by_cases hlt:k<n
  ·have HW:=H.out.bw bk;have hx:=HW.ks.cell k hlt;have hv:=HW.val k hlt;have q1:=HW.z1 k hlt;have q2:=HW.z2 k hlt;have q3:=HW.z3 k hlt;obtain rfl:=HW.ks.addr (by omega);have hnx:=zme (fun k=>!decide (k.name=nm)) L k (by rw [HL.out];exact hlt);have HC:Hid (Cp 102 #[kvV (L.getD k kv0)] wr (zf5 wr (L.getD k kv0).key)):=zfj _ wr hv q1 q2 q3;have HN:Hid (zbl ((L.take (k+1)).map KV.key) nm=zbl ((L.take k).map KV.key) nm++(if (!decide ((L.getD k kv0).key.name=nm))=true then [(L.getD k kv0).key] else [])):=hnx;clear hnx HW hv q1 q2 q3;generalize L.getD k kv0=x at*;obtain ⟨⟨xn,xv,xd⟩,vi,vp,vr⟩:=x;obtain ⟨c0,c1,c2,c3,c4,c5,c6⟩:=hx;dsimp only at c0 c1 c2 c3 c4 c5 c6 HC HN;by_cases he:xn=nm
   ·have HM2:Hid (M.map KV.key=zbl ((L.take (k+1)).map KV.key) nm):=by unfold Hid;rw [HN.out,Qe he,hM.out];simp
    subst he;clear HN HC c1 c2 c3 c4 c5 c6;go_wp2;go_roundw
    case rel=>exact ⟨k+1,M,by omega,by go_num,by omega,HM2,hI⟩
    case measure=>simp [intOf];omega
   ·have HM2:Hid ((M.map KV.key)++ [⟨xn,xv,xd⟩]=zbl ((L.take (k+1)).map KV.key) nm):=by unfold Hid;rw [HN.out,Qf he,hM.out];simp
    have hd:=zbz he;clear HN he;go_wp2_with fail;refine HC.out.mono ?_;rintro e w3 ⟨p1,d1,p2,d2,p3,d3,rfl,o3,b3⟩;obtain ⟨v',w5,hrun,hI5⟩:=hI.out.push b3 o3 (by omega);have HRUN:Hid _:=hrun;have HI5:Hid _:=hI5;clear hrun hI5 o3 hI c0 c1 c2 c3 c4 c5 c6 HC;dsimp only at HRUN HI5;generalize xv.ia.length=n1,xv.pj.length=n2,xv.rq.length=n3 at*;go_wp2_with (at_builtin;refine wpList_append_run rfl _ _ 24 rfl rfl rfl HRUN.out ?_);exact ⟨⟨k+1,_,by omega,by go_num,by rw [Qi,List.length_singleton];omega,by rw [List.map_append];exact HM2,HI5⟩,by simp [intOf];omega⟩
  ·obtain rfl:k=n:=by omega
   have e1:L.take k=L:=List.take_of_length_le (by rw [HL.out];exact Qc _);have HE:Hid (zc1 w G (.returned u5) wr):=by
    refine ⟨u5,M,rfl,?_,hI.out.db,bk⟩;rw [hM.out,e1];exact HG.out
   clear hM hI e1;go_wp2;go_ret;exact HE.out
def zbq (now:Int) (k:Ke):Bool:=decide (k.due=0)||decide (now<k.due)
def za5 (ks:List Ke) (now:Int):List Ke:=ks.filter (zbq now)
theorem zih (a:Option Addr) (b n c:Nat) (L:List KV) (now:Int) (w:World) (h:ycg w a b n L) (hn:n<=1048576):
  Calls prog 55 #[.slice a n c,.int .i64 now] w (zc1 w (za5 (L.map KV.key) now)):=by
 have H:Hid (ycg w a b n L):=h;have HL:Hid (L.length=n):=h.ks.len;obtain ⟨G,hG⟩:∃G,za5 (L.map KV.key) now=G:=⟨_,rfl⟩;have HG:Hid (za5 (L.map KV.key) now=G):=hG;rw [hG];clear h hG;go_enter func55,ntmps55;go_wp2;go_loopw [5,6] (fun v i wr=>∃(k:Nat) (M:List KV),k<=n/\i= .int .i64 k/\M.length<=k/\Hid (M.map KV.key=za5 ((L.take k).map KV.key) now)/\Hid (zcn w v wr M)) (fun _ i _=>n-(intOf i).toNat)
 case atStart=>exact ⟨0,[],by omega,rfl,by simp,rfl,zcn.empty w⟩
 case round=>
  obtain ⟨k,M,hk,rfl,hml,hM,hI⟩:=hrel;have bk:=hI.out.bel;by_cases hlt:k<n
  ·have HW:=H.out.bw bk;have hx:=HW.ks.cell k hlt;have hv:=HW.val k hlt;have q1:=HW.z1 k hlt;have q2:=HW.z2 k hlt;have q3:=HW.z3 k hlt;obtain rfl:=HW.ks.addr (by omega);have HC:Hid (Cp 102 #[kvV (L.getD k kv0)] wr (zf5 wr (L.getD k kv0).key)):=zfj _ wr hv q1 q2 q3;have HN:Hid (za5 ((L.take (k+1)).map KV.key) now=za5 ((L.take k).map KV.key) now++(if zbq now (L.getD k kv0).key=true then [(L.getD k kv0).key] else [])):=zme (zbq now) L k (by rw [HL.out];exact hlt);clear HW hv q1 q2 q3;generalize L.getD k kv0=x at*;obtain ⟨⟨xn,xv,xd⟩,vi,vp,vr⟩:=x;obtain ⟨c0,c1,c2,c3,c4,c5,c6⟩:=hx;dsimp only at c0 c1 c2 c3 c4 c5 c6 HC HN;have HAL:Hid (zbq now ⟨xn,xv,xd⟩=(decide (xd=0)||decide (now<xd))):=rfl;by_cases hz:xd=0
   ·have HM2:Hid ((M.map KV.key)++ [⟨xn,xv,xd⟩]=za5 ((L.take (k+1)).map KV.key) now):=by unfold Hid;rw [HN.out,HAL.out,Qe hz,hM.out];simp
    subst hz;clear HN HAL;go_wp2_with fail;refine HC.out.mono ?_;rintro e w3 ⟨p1,d1,p2,d2,p3,d3,rfl,o3,b3⟩;obtain ⟨v',w5,hrun,hI5⟩:=hI.out.push b3 o3 (by omega);have HRUN:Hid _:=hrun;have HI5:Hid _:=hI5;clear hrun hI5 o3 hI c0 c1 c2 c3 c4 c5 c6 HC;dsimp only at HRUN HI5;generalize xv.ia.length=n1,xv.pj.length=n2,xv.rq.length=n3 at*;go_wp2_with (at_builtin;refine wpList_append_run rfl _ _ 24 rfl rfl rfl HRUN.out ?_);exact ⟨⟨k+1,_,by omega,by go_num,by rw [Qi,List.length_singleton];omega,by rw [List.map_append];exact HM2,HI5⟩,by simp [intOf];omega⟩
   ·have hz2:(xd==0)=false:=by simpa using hz
    by_cases hlt2:now<xd
    ·have HM2:Hid ((M.map KV.key)++ [⟨xn,xv,xd⟩]=za5 ((L.take (k+1)).map KV.key) now):=by unfold Hid;rw [HN.out,HAL.out,Qe hlt2,hM.out];simp
     have hg2:decide (now<xd)=true:=Qe hlt2;clear HN HAL;go_wp2_with fail;refine HC.out.mono ?_;rintro e w3 ⟨p1,d1,p2,d2,p3,d3,rfl,o3,b3⟩;obtain ⟨v',w5,hrun,hI5⟩:=hI.out.push b3 o3 (by omega);have HRUN:Hid _:=hrun;have HI5:Hid _:=hI5;clear hrun hI5 o3 hI c0 c1 c2 c3 c4 c5 c6 HC;dsimp only at HRUN HI5;generalize xv.ia.length=n1,xv.pj.length=n2,xv.rq.length=n3 at*;go_wp2_with (at_builtin;refine wpList_append_run rfl _ _ 24 rfl rfl rfl HRUN.out ?_);exact ⟨⟨k+1,_,by omega,by go_num,by rw [Qi,List.length_singleton];omega,by rw [List.map_append];exact HM2,HI5⟩,by simp [intOf];omega⟩
    ·have HM2:Hid (M.map KV.key=za5 ((L.take (k+1)).map KV.key) now):=by unfold Hid;rw [HN.out,HAL.out,Qf hz,Qf hlt2,hM.out];simp
     have hg2:decide (now<xd)=false:=Qf hlt2;clear HN HAL HC c0 c1 c2 c3 c4 c5;go_wp2;go_roundw
     case rel=>exact ⟨k+1,M,by omega,by go_num,by omega,HM2,hI⟩
     case measure=>simp [intOf];omega
  ·obtain rfl:k=n:=by omega
   have e1:L.take k=L:=List.take_of_length_le (by rw [HL.out];exact Qc _);have HE:Hid (zc1 w G (.returned u5) wr):=by
    refine ⟨u5,M,rfl,?_,hI.out.db,bk⟩;rw [hM.out,e1];exact HG.out
   clear hM hI e1;go_wp2;go_ret;exact HE.out
def geB (x k:Ke):Bool:=!Op.bytesLess x.name.toList k.name.toList
def zb4 (k:Ke) (s:List Ke×Bool) (x:Ke):List Ke×Bool:=
 if x.name=k.name then (if (!s.2&&geB x k)=true then (s.1++ [k],true) else s)
 else (if (!s.2&&geB x k)=true then (s.1++ [k]++ [x],true) else (s.1++ [x],s.2))
def stS (k:Ke) (ks:List Ke):List Ke×Bool:=ks.foldl (zb4 k) ([],false)
def zaq (ks:List Ke) (k:Ke):List Ke:=if (stS k ks).2=true then (stS k ks).1 else (stS k ks).1++ [k]
theorem yf5 (k:Ke) (L:List KV) (i:Nat) (h:i<L.length):stS k ((L.take (i+1)).map KV.key)=zb4 k (stS k ((L.take i).map KV.key)) (L.getD i kv0).key:=by
 unfold stS;rw [Qo h,List.map_append,List.foldl_append];rw [show (L.getD i kv0)=L[i] by rw [Qa,Qd h];rfl];rfl
theorem zhe (a:Option Addr) (b n c:Nat) (L:List KV) (x:KV) (w:World) (h:ycg w a b n L) (hx:VRd w x.key.val x.vi x.vp x.vr) (s1:x.key.val.ia.length<=1048577) (s2:x.key.val.pj.length<=1048577) (s3:x.key.val.rq.length<=1048577) (hn:n<=500000):
  Calls prog 79 #[.slice a n c,kvV x] w (zc1 w (zaq (L.map KV.key) x.key)):=by
 obtain ⟨kk,vi,vp,vr⟩:=x;dsimp only at s1 s2 s3;show Calls prog 79 #[.slice a n c,.agg (kC kk.name kk.val.kind kk.val.text vi vp vr kk.due)] w (zc1 w (zaq (L.map KV.key) kk));obtain ⟨wB,hwB,HWB,b0,r0⟩:=boxed w (kC kk.name kk.val.kind kk.val.text vi vp vr kk.due) 47;have z0:wB.heap.size=w.heap.size+1:=by rw [<-hwB];simp
 have H:Hid (∀W,Bl wB W->ycg W a b n L):=fun W hb=>h.bw (b0.trans (hb.mono b0.size));have HL:Hid (L.length=n):=h.ks.len;have HAD:Hid (0<n->a=some ⟨b,0,none⟩):=h.ks.addr;have HK:Hid (∀W,Bl wB W->Cp 102 #[.agg (kC kk.name kk.val.kind kk.val.text vi vp vr kk.due)] W (zf5 W kk)):=fun W hb=>zfj ⟨kk,vi,vp,vr⟩ W (hx.bw (b0.trans (hb.mono b0.size))) s1 s2 s3;have HBX:Hid (∀W,Bl wB W->W.cell? ⟨w.heap.size,0,none⟩=some (.string kk.name)/\W.cell? ⟨w.heap.size,1,none⟩=some (.int .i64 kk.val.kind)/\W.cell? ⟨w.heap.size,2,none⟩=some (.string kk.val.text)/\W.cell? ⟨w.heap.size,3,none⟩=some vi/\W.cell? ⟨w.heap.size,4,none⟩=some vp/\W.cell? ⟨w.heap.size,5,none⟩=some vr/\W.cell? ⟨w.heap.size,6,none⟩=some (.int .i64 kk.due)):=fun W hb=>zdo (r0.bw hb r0.lt);have HBE:Hid (zcn wB (.slice (some ⟨w.heap.size+1,0,none⟩) 0 0) (wB.alloc (.cells #[] 47)) []):=by
  have:=zcn.empty wB;rw [z0] at this;exact this
 have HEND:Hid (∀v wr M,zcn wB v wr M->M.map KV.key=zaq (L.map KV.key) kk->zc1 w (zaq (L.map KV.key) kk) (.returned v) wr):=fun v wr M hI hM=>⟨v,M,rfl,hM,hI.db.le (by omega),b0.trans (hI.bel.mono b0.size)⟩;have HST:Hid (zaq (L.map KV.key) kk=if (stS kk (L.map KV.key)).2=true then (stS kk (L.map KV.key)).1 else (stS kk (L.map KV.key)).1++ [kk]):=rfl;generalize zaq (L.map KV.key) kk=G at*;clear h hx hwB r0 s1 s2 s3;go_enter func79,ntmps79;go_wp2_with fail;rw [HWB.out];go_loopw [5,6,7] (fun v d i wr=>∃(k:Nat) (M:List KV) (dn:Bool),k<=n/\i= .int .i64 k/\d= .bool dn/\M.length<=2*k/\Hid (stS kk ((L.take k).map KV.key)=(M.map KV.key,dn))/\Hid (zcn wB v wr M)) (fun _ _ i _=>n-(intOf i).toNat)
 case atStart=>exact ⟨0,[],false,by omega,rfl,rfl,by simp,rfl,HBE⟩
 case round=>
  obtain ⟨k,M,dn,hk,rfl,rfl,hml,hM,hI⟩:=hrel;have bk:=hI.out.bel;have sk:=bk.size;clear HBE HWB;by_cases hlt:k<n
  ·have HW:=H.out wr bk;have hxc:=HW.ks.cell k hlt;have hlow:=HW.ks.low (by omega);obtain rfl:=HAD.out (by omega);have HX:Hid (∀W,Bl wB W->Cp 102 #[kvV (L.getD k kv0)] W (zf5 W (L.getD k kv0).key)):=fun W hb=>zfj _ W ((H.out W hb).val k hlt) (HW.z1 k hlt) (HW.z2 k hlt) (HW.z3 k hlt);have HXC:Hid (∀W,Bl wB W->yih W b (k*7) (L.getD k kv0)):=fun W hb=> (H.out W hb).ks.cell k hlt;have HN:Hid (stS kk ((L.take (k+1)).map KV.key)=zb4 kk (M.map KV.key,dn) (L.getD k kv0).key):=by unfold Hid;rw [yf5 kk L k (by rw [HL.out];exact hlt),hM.out]
   clear HW hxc hM;generalize L.getD k kv0=x at*;obtain ⟨⟨xn,xv,xd⟩,xi,xp,xr⟩:=x;dsimp only at HN HX;have HX2:Hid (∀W,Bl wB W->Cp 102 #[.agg (kC xn xv.kind xv.text xi xp xr xd)] W (zf5 W ⟨xn,xv,xd⟩)):=HX.out;have HXC2:Hid (∀W,Bl wB W->W.cell? ⟨b,k*7,none⟩=some (.string xn)/\W.cell? ⟨b,k*7+1,none⟩=some (.int .i64 xv.kind)/\W.cell? ⟨b,k*7+2,none⟩=some (.string xv.text)/\W.cell? ⟨b,k*7+3,none⟩=some xi/\W.cell? ⟨b,k*7+4,none⟩=some xp/\W.cell? ⟨b,k*7+5,none⟩=some xr/\W.cell? ⟨b,k*7+6,none⟩=some (.int .i64 xd)):=fun W hb=>⟨(HXC.out W hb).c0,(HXC.out W hb).c1,(HXC.out W hb).c2,(HXC.out W hb).c3,(HXC.out W hb).c4,(HXC.out W hb).c5,(HXC.out W hb).c6⟩;have hk0:(0:Int)<=(k:Int):=by omega
   have hkn:(k:Int)<(n:Int):=by omega
   have HGE:Hid (geB ⟨xn,xv,xd⟩ kk=!Op.bytesLess xn.toList kk.name.toList):=rfl;clear HX HXC;have bkd:=bk;cases dn with
   |true=>
    go_wp2;go_quiet ((fail));have hIq:zcn wB u5 (wr.drewN nq) M:=hI.out.more (Hp.below_drewN wr nq);have bq0:Bl wr (wr.drewN nq):=Hp.below_drewN wr nq;have bkq:Bl wB (wr.drewN nq):=bk.trans (bq0.mono sk);generalize wr.drewN nq=w4 at*;go_wp2;by_cases he:xn=kk.name
    ·have HM2:Hid (stS kk ((L.take (k+1)).map KV.key)=(M.map KV.key,true)):=by unfold Hid;rw [HN.out];unfold zb4;rw [if_pos he];rfl
     obtain ⟨c0,_,_,_,_,_,_⟩:=HXC2.out w4 bkq;obtain ⟨e0,_,_,_,_,_,_⟩:=HBX.out w4 bkq;rw [he] at c0;clear he HN HX2;go_quiet ((fail));have HI6:Hid _:=zcn.more hIq (Hp.below_drewN w4 nq);generalize w4.drewN nq=w7 at*;clear c0 e0;go_wp2;go_roundw
     case rel=>exact ⟨k+1,_,_,by omega,by go_num,rfl,by omega,HM2,HI6⟩
     case measure=>simp [intOf];omega
    ·have HM2:Hid (∀y:KV,y.key=⟨xn,xv,xd⟩->stS kk ((L.take (k+1)).map KV.key)=((M++ [y]).map KV.key,true)):=by
      intro y hy;rw [HN.out];unfold zb4;rw [if_neg he];simp [hy]
     obtain ⟨c0,_,_,_,_,_,_⟩:=HXC2.out w4 bkq;obtain ⟨e0,_,_,_,_,_,_⟩:=HBX.out w4 bkq;have hd:=zbz he;clear he HN;go_quiet ((fail));have bq:=Hp.below_drewN w4 nq;have bwq:=bkq.trans (bq.mono (by have:=(bkq).size;omega));have HI6:Hid _:=zcn.more hIq bq;generalize w4.drewN nq=w7 at*;clear c0 e0;obtain ⟨c0,c1,c2,c3,c4,c5,c6⟩:=HXC2.out w7 bwq;go_wp2_with fail;refine (HX2.out w7 bwq).mono ?_;rintro e w8 ⟨p1,d1,p2,d2,p3,d3,rfl,o8,b8⟩;obtain ⟨v9,w9,hrun9,hI9⟩:=HI6.out.push b8 o8 (by omega);have HRUN9:Hid _:=hrun9;have HI9:Hid _:=hI9;have HM3:Hid _:=HM2.out ⟨⟨xn,xv,xd⟩,.slice p1 xv.ia.length d1,.slice p2 xv.pj.length d2,.slice p3 xv.rq.length d3⟩ rfl;clear hrun9 hI9 o8 c0 c1 c2 c3 c4 c5 c6 HX2 HM2 hd;try dsimp only at HRUN9
     try dsimp only at HI9
     generalize xv.ia.length=n1,xv.pj.length=n2,xv.rq.length=n3 at*;go_wp2_with (at_builtin;refine wpList_append_run rfl _ _ 24 rfl rfl rfl HRUN9.out ?_);exact ⟨⟨k+1,_,_,by omega,by go_num,rfl,by simp only [Qi,List.length_singleton];omega,HM3,HI9⟩,by simp [intOf];omega⟩
   |false=>
    cases hge:geB ⟨xn,xv,xd⟩ kk with
    |false=>
     rw [HGE.out] at hge;have hls:Op.bytesLess xn.toList kk.name.toList=true:=by simpa using hge
     have HN':Hid (geB ⟨xn,xv,xd⟩ kk=false):=by unfold Hid;rw [HGE.out,hls];rfl
     obtain ⟨c0,_,_,_,_,_,_⟩:=HXC2.out wr bk;obtain ⟨e0,_,_,_,_,_,_⟩:=HBX.out wr bk;clear hge;go_wp2;go_quiet ((fail));have hIq:zcn wB u5 (wr.drewN nq) M:=hI.out.more (Hp.below_drewN wr nq);have bq0:Bl wr (wr.drewN nq):=Hp.below_drewN wr nq;have bkq:Bl wB (wr.drewN nq):=bk.trans (bq0.mono sk);generalize wr.drewN nq=w4 at*;clear c0 e0 hls;go_wp2;by_cases he:xn=kk.name
     ·have HM2:Hid (stS kk ((L.take (k+1)).map KV.key)=(M.map KV.key,false)):=by unfold Hid;rw [HN.out];unfold zb4;rw [if_pos he];rw [HN'.out];rfl
      obtain ⟨c0,_,_,_,_,_,_⟩:=HXC2.out w4 bkq;obtain ⟨e0,_,_,_,_,_,_⟩:=HBX.out w4 bkq;rw [he] at c0;clear he HN HX2;go_quiet ((fail));have HI6:Hid _:=zcn.more hIq (Hp.below_drewN w4 nq);generalize w4.drewN nq=w7 at*;clear c0 e0;go_wp2;go_roundw
      case rel=>exact ⟨k+1,_,_,by omega,by go_num,rfl,by omega,HM2,HI6⟩
      case measure=>simp [intOf];omega
     ·have HM2:Hid (∀y:KV,y.key=⟨xn,xv,xd⟩->stS kk ((L.take (k+1)).map KV.key)=((M++ [y]).map KV.key,false)):=by
       intro y hy;rw [HN.out];unfold zb4;rw [if_neg he];rw [HN'.out];simp [hy]
      obtain ⟨c0,_,_,_,_,_,_⟩:=HXC2.out w4 bkq;obtain ⟨e0,_,_,_,_,_,_⟩:=HBX.out w4 bkq;have hd:=zbz he;clear he HN;go_quiet ((fail));have bq:=Hp.below_drewN w4 nq;have bwq:=bkq.trans (bq.mono (by have:=(bkq).size;omega));have HI6:Hid _:=zcn.more hIq bq;generalize w4.drewN nq=w7 at*;clear c0 e0;obtain ⟨c0,c1,c2,c3,c4,c5,c6⟩:=HXC2.out w7 bwq;go_wp2_with fail;refine (HX2.out w7 bwq).mono ?_;rintro e w8 ⟨p1,d1,p2,d2,p3,d3,rfl,o8,b8⟩;obtain ⟨v9,w9,hrun9,hI9⟩:=HI6.out.push b8 o8 (by omega);have HRUN9:Hid _:=hrun9;have HI9:Hid _:=hI9;have HM3:Hid _:=HM2.out ⟨⟨xn,xv,xd⟩,.slice p1 xv.ia.length d1,.slice p2 xv.pj.length d2,.slice p3 xv.rq.length d3⟩ rfl;clear hrun9 hI9 o8 c0 c1 c2 c3 c4 c5 c6 HX2 HM2 hd;try dsimp only at HRUN9
      try dsimp only at HI9
      generalize xv.ia.length=n1,xv.pj.length=n2,xv.rq.length=n3 at*;go_wp2_with (at_builtin;refine wpList_append_run rfl _ _ 24 rfl rfl rfl HRUN9.out ?_);exact ⟨⟨k+1,_,_,by omega,by go_num,rfl,by simp only [Qi,List.length_singleton];omega,HM3,HI9⟩,by simp [intOf];omega⟩
    |true=>
     rw [HGE.out] at hge;have hls:Op.bytesLess xn.toList kk.name.toList=false:=by simpa using hge
     have HN':Hid (geB ⟨xn,xv,xd⟩ kk=true):=by unfold Hid;rw [HGE.out,hls];rfl
     obtain ⟨c0,_,_,_,_,_,_⟩:=HXC2.out wr bk;obtain ⟨e0,_,_,_,_,_,_⟩:=HBX.out wr bk;clear hge;go_wp2;go_quiet ((fail));have hIq:zcn wB u5 (wr.drewN nq) M:=hI.out.more (Hp.below_drewN wr nq);have bq0:Bl wr (wr.drewN nq):=Hp.below_drewN wr nq;have bkq:Bl wB (wr.drewN nq):=bk.trans (bq0.mono sk);generalize wr.drewN nq=w4 at*;clear c0 e0 hls;obtain ⟨e0,e1,e2,e3,e4,e5,e6⟩:=HBX.out w4 bkq;go_wp2_with fail;refine (HK.out w4 bkq).mono ?_;rintro e w3 ⟨p1,d1,p2,d2,p3,d3,rfl,o3,b3⟩;obtain ⟨v',w5,hrun,hI5⟩:=hIq.push b3 o3 (by omega);have HRUN:Hid _:=hrun;have HI5:Hid _:=hI5;have HMK:Hid ((M++ [(⟨kk,.slice p1 kk.val.ia.length d1,.slice p2 kk.val.pj.length d2,.slice p3 kk.val.rq.length d3⟩:KV)]).map KV.key=M.map KV.key++ [kk]):=by unfold Hid;rw [List.map_append];rfl
     have hMl:(M++ [(⟨kk,.slice p1 kk.val.ia.length d1,.slice p2 kk.val.pj.length d2,.slice p3 kk.val.rq.length d3⟩:KV)]).length=M.length+1:=by simp
     clear hrun hI5 o3 e0 e1 e2 e3 e4 e5 e6;try dsimp only at HRUN
     try dsimp only at HI5
     generalize M++ [(⟨kk,.slice p1 kk.val.ia.length d1,.slice p2 kk.val.pj.length d2,.slice p3 kk.val.rq.length d3⟩:KV)]=M1 at*;generalize kk.val.ia.length=m1,kk.val.pj.length=m2,kk.val.rq.length=m3 at*;have hlow5:=HI5.out.bel.size;go_wp2_with (at_builtin;refine wpList_append_run rfl _ _ 24 rfl rfl rfl HRUN.out ?_);have bk5:=HI5.out.bel;by_cases he:xn=kk.name
     ·have HM2:Hid (stS kk ((L.take (k+1)).map KV.key)=(M1.map KV.key,true)):=by unfold Hid;rw [HN.out];unfold zb4;rw [if_pos he];rw [HN'.out];exact Prod.ext HMK.out.symm rfl
      obtain ⟨c0,_,_,_,_,_,_⟩:=HXC2.out w5 bk5;obtain ⟨e0,_,_,_,_,_,_⟩:=HBX.out w5 bk5;rw [he] at c0;clear he HN HX2;go_quiet ((fail));have HI6:Hid _:=zcn.more HI5.out (Hp.below_drewN w5 nq);generalize w5.drewN nq=w7 at*;clear c0 e0;go_wp2;go_roundw
      case rel=>exact ⟨k+1,_,_,by omega,by go_num,rfl,by omega,HM2,HI6⟩
      case measure=>simp [intOf];omega
     ·have HM2:Hid (∀y:KV,y.key=⟨xn,xv,xd⟩->stS kk ((L.take (k+1)).map KV.key)=((M1++ [y]).map KV.key,true)):=by
       intro y hy;rw [HN.out];unfold zb4;rw [if_neg he];rw [HN'.out];refine Prod.ext ?_ rfl;rw [List.map_append,HMK.out,List.map_cons,hy];rfl
      obtain ⟨c0,_,_,_,_,_,_⟩:=HXC2.out w5 bk5;obtain ⟨e0,_,_,_,_,_,_⟩:=HBX.out w5 bk5;have hd:=zbz he;clear he HN;go_quiet ((fail));have bq:=Hp.below_drewN w5 nq;have bwq:=bk5.trans (bq.mono (by have:=(bk5).size;omega));have HI6:Hid _:=zcn.more HI5.out bq;generalize w5.drewN nq=w7 at*;clear c0 e0;obtain ⟨c0,c1,c2,c3,c4,c5,c6⟩:=HXC2.out w7 bwq;go_wp2_with fail;refine (HX2.out w7 bwq).mono ?_;rintro e w8 ⟨p1,d1,p2,d2,p3,d3,rfl,o8,b8⟩;obtain ⟨v9,w9,hrun9,hI9⟩:=HI6.out.push b8 o8 (by omega);have HRUN9:Hid _:=hrun9;have HI9:Hid _:=hI9;have HM3:Hid _:=HM2.out ⟨⟨xn,xv,xd⟩,.slice p1 xv.ia.length d1,.slice p2 xv.pj.length d2,.slice p3 xv.rq.length d3⟩ rfl;clear hrun9 hI9 o8 c0 c1 c2 c3 c4 c5 c6 HX2 HM2 hd;try dsimp only at HRUN9
      try dsimp only at HI9
      generalize xv.ia.length=n1,xv.pj.length=n2,xv.rq.length=n3 at*;go_wp2_with (at_builtin;refine wpList_append_run rfl _ _ 24 rfl rfl rfl HRUN9.out ?_);exact ⟨⟨k+1,_,_,by omega,by go_num,rfl,by simp only [Qi,List.length_singleton];omega,HM3,HI9⟩,by simp [intOf];omega⟩
  ·obtain rfl:k=n:=by omega
   have e1:L.take k=L:=List.take_of_length_le (by rw [HL.out];exact Qc _);rw [e1] at hM;cases dn with
   |true=>
    have HE:Hid (zc1 w G (.returned u5) wr):=HEND.out u5 wr M hI.out (by rw [HST.out,hM.out];rfl);clear hM hI e1 HEND;go_wp2;go_ret;exact HE.out
   |false=>
    have HE:Hid (∀v wr M',zcn wB v wr M'->M'.map KV.key=M.map KV.key++ [kk]->zc1 w G (.returned v) wr):=fun v wr M' h1 h2=>HEND.out v wr M' h1 (by rw [h2,HST.out,hM.out];rfl);clear hM e1 HEND;obtain ⟨e0,e1,e2,e3,e4,e5,e6⟩:=HBX.out wr bk;go_wp2_with fail;refine (HK.out wr bk).mono ?_;rintro e w3 ⟨p1,d1,p2,d2,p3,d3,rfl,o3,b3⟩;obtain ⟨v',w5,hrun,hI5⟩:=hI.out.push b3 o3 (by omega);have HRUN:Hid _:=hrun;have HF:Hid (zc1 w G (.returned v') w5):=HE.out v' w5 _ hI5 (by rw [List.map_append];rfl);clear hrun hI5 o3 hI e0 e1 e2 e3 e4 e5 e6 HK HE HBX;try dsimp only at HRUN
    generalize kk.val.ia.length=n1,kk.val.pj.length=n2,kk.val.rq.length=n3 at*;go_wp2_with (at_builtin;refine wpList_append_run rfl _ _ 24 rfl rfl rfl HRUN.out ?_);go_ret;exact HF.out
end Go.Proofs.YtokafonppgppdaaGreatDoor
