import Derived.Test.YtjpeglkkkllagaaGreatDoorG2
import Derived.Lib.QuietBelow
set_option maxHeartbeats 4000000
set_option maxRecDepth 100000
namespace Go.Proofs.YtjpeglkkkllagaaGreatDoor
open Go.RowKit Go.Sort
open Kk (Rk rk0 texL texR decS zea zeb zec OwnR flatR encR zdh)
open Hp (refV zbb Cl cl0 CellsIn Fit getB heapB zaj)
def keyOf (s:ByteArray) (C:List Cl) (e:En):Option Ke:=
 if (getB s C e.rc e.rg).2=true∧(readI (getB s C e.rc e.rg).1.data.toList).2=true then some ⟨e.name,(readI (getB s C e.rc e.rg).1.data.toList).1,e.due⟩ else none
def fetchM (s:ByteArray) (C:List Cl):List En→Option (List Ke)
 | []=>some []
 |e::es=>match keyOf s C e with
  |none=>none
  |some k=> (fetchM s C es).map (k::·)
theorem fetch_snoc (s:ByteArray) (C:List Cl) (e:En) (k:Ke) (hk:keyOf s C e=some k):∀(es:List En) (ks:List Ke),fetchM s C es=some ks→fetchM s C (es++ [e])=some (ks++ [k])
 | [],ks,h=>by
  cases h;show (match keyOf s C e with|none=>none|some k=> (fetchM s C []).map (k::·))=_;rw [hk];rfl
 |x::es,ks,h=>by
  have h':(match keyOf s C x with|none=>none|some k=> (fetchM s C es).map (k::·))=some ks:=h;show (match keyOf s C x with|none=>none|some k=> (fetchM s C (es++ [e])).map (k::·))=_;cases hx:keyOf s C x with
  |none=>rw [hx] at h';cases h'
  |some y=>
   rw [hx] at h';cases hr:fetchM s C es with
   |none=>rw [hr] at h';cases h'
   |some zs=>
    rw [hr] at h';cases h';rw [fetch_snoc s C e k hk es zs hr];rfl
theorem fetch_none (s:ByteArray) (C:List Cl):∀(es:List En) (i:Nat),i<es.length→keyOf s C (es.getD i en0)=none→fetchM s C es=none
 | [],i,h,_=>by simp at h
 |x::es,0,_,hk=>by
  have hk':keyOf s C x=none:=by simpa using hk
  show (match keyOf s C x with|none=>none|some k=> (fetchM s C es).map (k::·))=_;rw [hk']
 |x::es,i+1,h,hk=>by
  have:=fetch_none s C es i (by simpa using h) (by simpa using hk);show (match keyOf s C x with|none=>none|some k=> (fetchM s C es).map (k::·))=_;rw [this];cases keyOf s C x<;>rfl
theorem take_snoc_en (es:List En) (k:Nat) (h:k<es.length):es.take (k+1)=es.take k++ [es.getD k en0]:=by
 rw [List.take_succ_eq_append_getElem h,List.getD_eq_getElem?_getD,List.getElem?_eq_getElem h];rfl
theorem getB_size (s:ByteArray) (C:List Cl) (rc rg:Int):(getB s C rc rg).1.size≤s.size:=by
 unfold getB;split
 ·rw [ByteArray.size_extract];omega
 ·exact Nat.zero_le _
def ResV (w:World) (v:Vl) (o:Bool) (e:Ending) (w':World):Prop:=∃a1 c1 a2 c2 a3 c3,e= .returned (.tuple #[vlV v.kind v.text (.slice a1 v.items.length c1) (.slice a2 v.pairs.length c2) (.slice a3 v.ranks.length c3),.bool o])∧VOwn w' w.heap.size v (.slice a1 v.items.length c1) (.slice a2 v.pairs.length c2) (.slice a3 v.ranks.length c3)∧Below w.heap.size w w'
theorem ValEnd.resV {w:World} {r:Vl×Bool} {e:Ending} {w':World} (h:ValEnd w r e w'):ResV w r.1 r.2 e w':=by
 obtain ⟨vi,vp,vr,he,h1,h2,h3,hb⟩:=h;obtain ⟨a1,c1,e1⟩:=zad h1;obtain ⟨a2,c2,e2⟩:=zad h2;obtain ⟨a3,c3,e3⟩:=zad h3;subst e1 e2 e3;exact ⟨a1,c1,a2,c2,a3,c3,he,⟨h1,h2,h3⟩,hb⟩
theorem wpList_append_run {P:Program} {ops:Array Oper} {rest:List Oper} {o:Oper} {a:Act} {w w':World} {Q:Exit→Act→World→Prop} (hgd:o.guard=none) (s x:Operand) (t:TypeId)
  (ho:o.op= .call { callee:= .builtin .append,args:= #[s,x],argTypes:= #[t,t] }) {v y v':Value} (hs:a.eval s=v) (hx:a.eval x=y) (hr:(Builtin.append_ #[t,t] o.type #[v,y]).run P w= .ok v' w')
  (h:wpList P ops Q rest (a.put o.dst v') w'):wpList P ops Q (o::rest) a w:=
 wpList_plain hgd fun _ hK=>by
  unfold Oper.wp;simp [execOp,ho,resolve,invoke,builtin,hs,hx,hr,Result.andThen];exact hK _ _ h
abbrev ShelfAt (w:World) (S:Nat) (s:ByteArray) (a:Option Addr) (n c:Nat):Prop:=RowAt w S 50 #[.string s,.slice a n c]
theorem get_any (S:Nat) (s:ByteArray) (a:Option Addr) (b off n c:Nat) (L:List Cl) (rc rg:Int) (w:World) (h:CellsIn w a b off n L) (hf:∀i,i<n→Fit (L.getD i cl0)) (hS:ShelfAt w S s a n c):
  Calls Tryz.prog 181 #[.pointer (some ⟨S,0,none⟩),refV rc rg] w fun e w'=>e= .returned (.tuple #[.string (getB s L rc rg).1,.bool (getB s L rc rg).2])∧Below w.heap.size w w':=by
 have ba:Below w.heap.size w (w.alloc (.cells #[.int .i64 rc,.int .i64 rg] 55)):=(Below.refl _ w).alloc (Nat.le_refl _) _;have r1:=RowAt.new w 55 #[.int .i64 rc,.int .i64 rg];obtain ⟨k0,k1⟩:=zbb r1;obtain ⟨f0,f1⟩:=zbb (hS.below ba hS.lt);have h2:=zaj h ba;have cG:∀d os,Calls Tryz.prog 183 #[.agg #[.string s,.slice a n c],refV rc rg] (grow (redrawn (w.alloc (.cells #[.int .i64 rc,.int .i64 rg] 55)) d) os) fun e w''=>e= .returned (.tuple #[.string (getB s L rc rg).1,.bool (getB s L rc rg).2])∧∃p:Regrown,w''=grow (redrawn (w.alloc (.cells #[.int .i64 rc,.int .i64 rg] 55)) p.d) p.os:=fun d os=>Calls.regrown_of (Hp.implGet_any s a b off n c L rc rg _ (zaj h2 (below_regrown _ d os)) hf);generalize (getB s L rc rg).1=G1 at*;generalize (getB s L rc rg).2=G2 at*;clear h h2 hf hS r1;go_enter Tryz.func181,Tryz.ntmps181;go_wp2;generalize w.alloc (.cells #[.int .i64 rc,.int .i64 rg] 55)=W at*;have m0:=cell_regrown k0;have m1:=cell_regrown k1;have n0:=cell_regrown f0;have n1:=cell_regrown f1;clear k0 k1 f0 f1;refine wp_region_quiet_below (by kernel_rfl) (by kernel_rfl) ?_;repeat (first|go_big_quiet_skip|quiet_step (first|with_reducible exact cG _ _))
 refine wpQuiet_nil ?_;intro _ hw';obtain ⟨⟨dq,osq⟩,hw''⟩:=hw';subst hw'';have bq:=below_regrown W dq osq;generalize grow (redrawn W dq) osq=wq at*;go_wp2;go_ret2;exact ⟨rfl,ba.trans (bq.mono ba.size)⟩
theorem small_snoc {L:List KV} {y:KV} (h:Small L) (hy:KSm y.key.val∧y.key.name.size≤1048576):Small (L++ [y]):=fun i hi=>by
 rw [List.length_append,List.length_singleton] at hi;by_cases e:i=L.length
 ·subst e;rw [show (L++ [y]).getD L.length kv0=y by simp];exact hy
 ·rw [show (L++ [y]).getD i kv0=L.getD i kv0 by rw [List.getD_eq_getElem?_getD,List.getD_eq_getElem?_getD,List.getElem?_append_left (by omega)]];exact h i (by omega)
structure FetchI (w:World) (s:ByteArray) (C:List Cl) (es:List En) (k:Nat) (v:Value) (wr:World) (L:List KV):Prop where
 own:OwnK wr w.heap.size v L
 vals:∃β,Rising wr w.heap.size L wr.heap.size β
 got:fetchM s C (es.take k)=some (L.map KV.key)
 small:Small L
 len:L.length=k
 bel:Below w.heap.size w wr
theorem FetchI.start (w:World) (s:ByteArray) (C:List Cl) (es:List En):FetchI w s C es 0 (.slice none 0 0) w []:=
 ⟨ownK_nil _ _,⟨_,rising_nil _ _ _ (Nat.le_refl _)⟩,rfl,fun i hi=>by simp at hi,rfl,Below.refl _ _⟩
theorem FetchI.next {w wr w3 w5:World} {s:ByteArray} {C:List Cl} {es:List En} {k N:Nat} {v v':Value} {L:List KV} {y:KV} (h:FetchI w s C es k v wr L) (h3:Below wr.heap.size wr w3) (hN:wr.heap.size≤N) (hN2:N≤w3.heap.size) (hv:VOwn w3 N y.key.val y.vi y.vp y.vr)
  (ho:OwnK w5 w.heap.size v' (L++ [y])) (hb:Below w.heap.size w3 w5) (hg:w3.grownBy w5 v.ownBlock) (hlt:k<es.length) (hk:keyOf s C (es.getD k en0)=some y.key) (hs:KSm y.key.val∧y.key.name.size≤1048576):FetchI w s C es (k+1) v' w5 (L++ [y]):=by
 obtain ⟨β,hr⟩:=h.vals;have oK:=zaf h.own h3;have kp:=kept_of_grown oK hg;have r3:=((hr.below h3).up hN).kept kp;have v5:=vown_kept hv kp;refine ⟨ho,⟨_,r3.snoc v5 (Nat.le_trans hN2 hg.size) fun g hu=>?_⟩,?_,small_snoc h.small hs,by rw [List.length_append,h.len];rfl,h.bel.trans ((h3.mono h.bel.size).trans hb)⟩
 ·rcases hu with hu|hu|hu
  ·exact (own_lt v5.items hu).2
  ·exact (own_lt v5.pairs hu).2
  ·exact (own_lt v5.ranks hu).2
 ·rw [take_snoc_en es k hlt,List.map_append];exact fetch_snoc s C _ _ hk _ _ h.got
def FetchEnd (w:World) (r:Option (List Ke)) (e:Ending) (w':World):Prop:=
 Below w.heap.size w w'∧match r with
 |none=>e= .returned (.tuple #[.slice none 0 0,.bool false])
 |some ks=>∃v L,e= .returned (.tuple #[v,.bool true])∧L.map KV.key=ks∧DbOwn w' w.heap.size v L∧Small L
theorem fetchEnd_no {w w':World} {r:Option (List Ke)} (hb:Below w.heap.size w w') (hr:r=none):FetchEnd w r (.returned (.tuple #[.slice none 0 0,.bool false])) w':=by
 subst hr;exact ⟨hb,rfl⟩
theorem key_no1 {s:ByteArray} {C:List Cl} {e:En} (h:(getB s C e.rc e.rg).2=false):keyOf s C e=none:=by
 unfold keyOf;rw [if_neg (by rw [h];simp)]
theorem key_no2 {s:ByteArray} {C:List Cl} {e:En} (h:(readI (getB s C e.rc e.rg).1.data.toList).2=false):keyOf s C e=none:=by
 unfold keyOf;rw [if_neg (by rw [h];simp)]
theorem key_yes {s:ByteArray} {C:List Cl} {e:En} (h1:(getB s C e.rc e.rg).2=true) (h2:(readI (getB s C e.rc e.rg).1.data.toList).2=true):keyOf s C e=some ⟨e.name,(readI (getB s C e.rc e.rg).1.data.toList).1,e.due⟩:=by
 unfold keyOf;rw [if_pos ⟨h1,h2⟩]
theorem fetch_any (S:Nat) (s:ByteArray) (a:Option Addr) (b off n c:Nat) (C:List Cl) (ea:Option Addr) (eb eo m ec:Nat) (es:List En) (w:World) (h:CellsIn w a b off n C) (hf:∀i,i<n→Fit (C.getD i cl0)) (hS:ShelfAt w S s a n c) (he:EntsIn w ea eb eo m es) (hm:m≤1000) (hz:∀i,i<m→(es.getD i en0).name.size≤1048576) (hs:s.size≤1048576) (hR:Ready w):
  Calls Tryz.prog 26 #[.iface 48 (.pointer (some ⟨S,0,none⟩)),.slice ea m ec] w (FetchEnd w (fetchM s C es)):=by
 have HC:Hid (CellsIn w a b off n C∧∀i,i<n→Fit (C.getD i cl0)):=⟨h,hf⟩;have HS:Hid (ShelfAt w S s a n c):=hS;have HE:Hid (EntsIn w ea eb eo m es):=he;have HZ:Hid (∀i,i<m→(es.getD i en0).name.size≤1048576):=hz;have HR:Hid (Ready w):=hR;have HL:Hid (es.length=m):=he.len;have HNO:Hid (∀i,i<m→keyOf s C (es.getD i en0)=none→fetchM s C es=none):=fun i hi hk=>fetch_none s C es i (by rw [HL.out];exact hi) hk;clear h hf hS he hz hR;obtain ⟨R,hP⟩:∃R,fetchM s C es=R:=⟨_,rfl⟩;have HP:Hid (fetchM s C es=R):=hP;rw [hP];clear hP;go_enter Tryz.func26,Tryz.ntmps26;go_wp2;go_loopw [6,14] (fun v i wr=>∃(k:Nat) (L:List KV),k≤m∧i= .int .i64 k∧Hid (FetchI w s C es k v wr L)) (fun _ i _=>m-(intOf i).toNat)
 case atStart=>exact ⟨0,[],by omega,rfl,FetchI.start w s C es⟩
 case round=>
  obtain ⟨k,L,hk,rfl,hI⟩:=hrel;have bk:=hI.out.bel;have sk:=bk.size;by_cases hlt:k<m
  ·have hx:=(HE.out.below bk).cell k hlt;have hlow:=(HE.out.below bk).low (by omega);obtain rfl:=HE.out.addr (by omega);have hzk:=HZ.out k hlt;have HN1:Hid (keyOf s C (es.getD k en0)=none→fetchM s C es=none):=HNO.out k hlt;obtain ⟨A1,hA1,HA1,ba,ra⟩:=boxed wr (enC (es.getD k en0)) 67;have zA:A1.heap.size=wr.heap.size+1:=by rw [←hA1];simp
   have bA:=bk.trans (ba.mono sk);have sA:=bA.size;have CG:Hid (Calls Tryz.prog 181 #[.pointer (some ⟨S,0,none⟩),refV (es.getD k en0).rc (es.getD k en0).rg] A1 fun e w'=>e= .returned (.tuple #[.string (getB s C (es.getD k en0).rc (es.getD k en0).rg).1,.bool (getB s C (es.getD k en0).rc (es.getD k en0).rg).2])∧Below A1.heap.size A1 w'):=get_any S s a b off n c C _ _ A1 (zaj HC.out.1 bA) HC.out.2 (HS.out.below bA HS.out.lt);have hgs:=getB_size s C (es.getD k en0).rc (es.getD k en0).rg;have CR:Hid (∀W,Ready W→Calls Tryz.prog 49 #[.string (getB s C (es.getD k en0).rc (es.getD k en0).rg).1] W (ResV W (readI (getB s C (es.getD k en0).rc (es.getD k en0).rg).1.data.toList).1 (readI (getB s C (es.getD k en0).rc (es.getD k en0).rg).1.data.toList).2)):=fun W hW=> (readV_any _ W (by omega) hW).mono fun _ _ h=>h.resV;have RD:Hid (∀W,Below w.heap.size w W→Ready W):=fun W hb=>HR.out.below (hb.mono HR.out.six);have K1:Hid ((getB s C (es.getD k en0).rc (es.getD k en0).rg).2=false→keyOf s C (es.getD k en0)=none):=key_no1;have K2:Hid ((readI (getB s C (es.getD k en0).rc (es.getD k en0).rg).1.data.toList).2=false→keyOf s C (es.getD k en0)=none):=key_no2;have K3:Hid ((getB s C (es.getD k en0).rc (es.getD k en0).rg).2=true→(readI (getB s C (es.getD k en0).rc (es.getD k en0).rg).1.data.toList).2=true→keyOf s C (es.getD k en0)=some ⟨(es.getD k en0).name,(readI (getB s C (es.getD k en0).rc (es.getD k en0).rg).1.data.toList).1,(es.getD k en0).due⟩∧KSm (readI (getB s C (es.getD k en0).rc (es.getD k en0).rg).1.data.toList).1):=fun h1 h2=>⟨key_yes h1 h2,read_small h2⟩;have HNX:Hid (∀(w3 w5:World) (N:Nat) (v':Value) (y:KV),Below wr.heap.size wr w3→wr.heap.size≤N→N≤w3.heap.size→VOwn w3 N y.key.val y.vi y.vp y.vr→OwnK w5 w.heap.size v' (L++ [y])→Below w.heap.size w3 w5→w3.grownBy w5 u6.ownBlock→keyOf s C (es.getD k en0)=some y.key→KSm y.key.val∧y.key.name.size≤1048576→FetchI w s C es (k+1) v' w5 (L++ [y])):=fun w3 w5 N v' y q1 q2 q3 q4 q5 q6 q7 q8 q9=>hI.out.next q1 q2 q3 q4 q5 q6 q7 (by rw [HL.out];exact hlt) q8 q9;have HOW:Hid (OwnK wr w.heap.size u6 L):=hI.out.own;have hLn:L.length≤1000:=by rw [hI.out.len];omega
   clear hI hA1;generalize hen:es.getD k en0=x at*;clear hen;obtain ⟨nm,rc,rg,due⟩:=x;obtain ⟨c0,c1,c2,c3⟩:=hx;dsimp only at c0 c1 c2 c3 hzk CG CR K1 K2 K3 HA1 ra hgs;generalize keyOf s C ⟨nm,rc,rg,due⟩=KO at*;generalize getB s C rc rg=G at*;obtain ⟨G1,G2⟩:=G;dsimp only at CG CR K1 K2 K3 hgs;generalize readI G1.data.toList=V at*;obtain ⟨v,vo⟩:=V;dsimp only at CR K2 K3;go_wp2_with fail;rw [HA1.out];refine CG.out.mono ?_;rintro e w2 ⟨rfl,b2⟩;have s2:=b2.size;have bb2:=bA.trans (b2.mono sA);have bw2:=ba.trans (b2.mono ba.size);have r2:=ra.below b2 ra.lt;have R2:Hid (Ready w2):=RD.out w2 bb2;clear c0 c1 c2 c3;cases G2 with
   |false=>
    have HY:Hid (fetchM s C es=none):=HN1.out (K1.out (by trivial));go_wp2;go_ret2;exact fetchEnd_no bb2 (HP.out.symm.trans HY.out)
   |true=>
    clear K1;go_wp2_with fail;refine (CR.out w2 R2.out).mono ?_;rintro e w3 ⟨a1,c1,a2,c2,a3,c3,rfl,o3,b3⟩;have s3:=b3.size;have bb3:=bb2.trans (b3.mono bb2.size);have bw3:=bw2.trans (b3.mono bw2.size);have r3:=r2.below b3 r2.lt;cases vo with
    |false=>
     have HY:Hid (fetchM s C es=none):=HN1.out (K2.out (by trivial));have bz3:Hid (∀o,Below w.heap.size w (w3.alloc o)):=fun o=>bb3.alloc bb3.size o;clear o3 K2 K3;go_wp2;go_ret2;exact fetchEnd_no (bz3.out _) (HP.out.symm.trans HY.out)
    |true=>
     obtain ⟨hk3,hsm⟩:=K3.out (by trivial) (by trivial);have HK3:Hid (KO=some ⟨nm,v,due⟩):=hk3;have HSM:Hid (KSm v):=hsm;obtain ⟨A2,hA2,HA2,bx,rx⟩:=boxed w3 (vC v.kind v.text (.slice a1 v.items.length c1) (.slice a2 v.pairs.length c2) (.slice a3 v.ranks.length c3)) 63;have rA2:=r3.below bx r3.lt;have bwA:=bw3.trans (bx.mono bw3.size);have bbA:=bb3.trans (bx.mono bb3.size);have zx:=bx.size;have zA2:A2.heap.size=w3.heap.size+1:=by rw [←hA2];simp
     obtain ⟨v',w5,hrun,o5,b5,g5⟩:=app_key (w:=A2) (B:=w.heap.size) (V:=u6) (L:=L) ⟨nm,v,due⟩ a1 a2 a3 v.items.length c1 v.pairs.length c2 v.ranks.length c3 (zaf HOW.out bwA) (by omega) bbA.size;have HI5:Hid (FetchI w s C es (k+1) v' w5 (L++ [⟨⟨nm,v,due⟩,.slice a1 v.items.length c1,.slice a2 v.pairs.length c2,.slice a3 v.ranks.length c3⟩])):=HNX.out A2 w5 w2.heap.size v' _ bwA (by have:=bw2.size;omega) (by omega) (o3.below bx) o5 b5 g5 HK3.out ⟨HSM.out,hzk⟩;have HRUN:Hid ((Builtin.append_ #[24,24] 24 #[u6,.slice (some ⟨w3.heap.size+1,0,none⟩) 1 1]).run Tryz.prog (A2.alloc (.cells (kC nm v.kind v.text (.slice a1 v.items.length c1) (.slice a2 v.pairs.length c2) (.slice a3 v.ranks.length c3) due) 65))= .ok v' w5):=by rw [←zA2];exact hrun
     obtain ⟨k0,k1,k2,k3,k4⟩:=row5 rx;obtain ⟨p0,p1,p2,p3⟩:=row4 rA2;clear hrun o5 b5 g5 hA2 zA2 o3 K2 K3 hk3 hsm rx rA2 r3 r2 HNX HOW CG CR HA1 ra;generalize v.items.length=ni at*;generalize v.pairs.length=np at*;generalize v.ranks.length=nr at*;generalize v.kind=vk at*;generalize v.text=vt at*;rw [←HA2.out] at k0 k1 k2 k3 k4 p0 p1 p2 p3;go_wp2_with (at_builtin;rw [HA2.out];refine wpList_append_run rfl _ _ 24 rfl rfl rfl HRUN.out ?_);exact ⟨⟨k+1,_,by omega,by go_num,HI5⟩,by simp [intOf];omega⟩
  ·obtain rfl:k=m:=by omega
   have HE2:Hid (FetchEnd w (fetchM s C es) (.returned (.tuple #[u6,.bool true])) wr):=by
    have e1:es.take k=es:=List.take_of_length_le (by rw [HL.out];exact Nat.le_refl _);have hg:=hI.out.got;rw [e1] at hg;rw [hg];exact ⟨hI.out.bel,u6,L,rfl,rfl,⟨hI.out.own,hI.out.vals⟩,hI.out.small⟩
   rw [HP.out] at HE2;clear hI;go_wp2;go_ret2;exact HE2.out
def dbOfM (s:ByteArray) (C:List Cl) (es:List En):Option (List Ke):=
 if heapB s C=true∧es.length≤20 then (match fetchM s C es with|none=>none|some ks=>if dbOkB ks=true then some ks else none) else none
theorem dbOf_heap {s:ByteArray} {C:List Cl} {es:List En} (h:heapB s C=false):dbOfM s C es=none:=by
 unfold dbOfM;rw [if_neg (by rw [h];simp)]
theorem dbOf_many {s:ByteArray} {C:List Cl} {es:List En} (h:¬es.length≤20):dbOfM s C es=none:=by
 unfold dbOfM;rw [if_neg (fun x=>h x.2)]
theorem dbOf_none {s:ByteArray} {C:List Cl} {es:List En} (h:fetchM s C es=none):dbOfM s C es=none:=by
 unfold dbOfM;rw [h];split<;>rfl
theorem dbOf_some {s:ByteArray} {C:List Cl} {es:List En} {ks:List Ke} (h1:heapB s C=true) (h2:es.length≤20) (h:fetchM s C es=some ks):dbOfM s C es=if dbOkB ks=true then some ks else none:=by
 unfold dbOfM;rw [h,if_pos ⟨h1,h2⟩]
theorem Rising.le {w:World} {B B' N:Nat} {L:List KV} {β:Nat→Nat} (h:Rising w B L N β) (hB:B'≤B):Rising w B' L N β:=
 ⟨fun i hi=>Nat.le_trans hB (h.low i hi),h.mono,h.top,h.own,h.lt1,h.lt2,h.lt3⟩
theorem DbOwn.le {w:World} {B B':Nat} {v:Value} {L:List KV} (h:DbOwn w B v L) (hB:B'≤B):DbOwn w B' v L:=by
 obtain ⟨β,hr⟩:=h.vals;exact ⟨Go.Joins.ownsRow_le h.row hB,β,hr.le hB⟩
theorem fetch_len {s:ByteArray} {C:List Cl}:∀{es:List En} {ks:List Ke},fetchM s C es=some ks→ks.length=es.length
 | [],ks,h=>by cases h;rfl
 |x::es,ks,h=>by
  have h':(match keyOf s C x with|none=>none|some k=> (fetchM s C es).map (k::·))=some ks:=h;cases hx:keyOf s C x with
  |none=>rw [hx] at h';cases h'
  |some y=>
   rw [hx] at h';cases hr:fetchM s C es with
   |none=>rw [hr] at h';cases h'
   |some zs=>
    rw [hr] at h';cases h';simp [fetch_len hr]
theorem implDbOf_any (s:ByteArray) (a:Option Addr) (b off n c:Nat) (C:List Cl) (ea:Option Addr) (eb eo m ec:Nat) (es:List En) (w:World) (h:CellsIn w a b off n C) (hf:∀i,i<n→Fit (C.getD i cl0)) (he:EntsIn w ea eb eo m es) (hm:m≤1048576) (hz:∀i,i<m→(es.getD i en0).name.size≤1048576) (hs:s.size≤1048576) (hn:n≤1048576) (hR:Ready w):
  Calls Tryz.prog 10 #[.agg #[.string s,.slice a n c],.slice ea m ec] w (FetchEnd w (dbOfM s C es)):=by
 have hel:=he.len;obtain ⟨A0,hA0,HA0,b0,r0⟩:=boxed w #[.string s,.slice a n c] 29;have s0:=b0.size;have HO:Hid (Calls Tryz.prog 13 #[.agg #[.string s,.slice a n c]] A0 fun e w'=>e= .returned (.bool (heapB s C))∧Below A0.heap.size A0 w'):=Hp.implOk_any s a b off n c C A0 (zaj h b0) hs hn hf;have HF:Hid (∀S W,Below w.heap.size w W→ShelfAt W S s a n c→m≤20→Calls Tryz.prog 26 #[.iface 48 (.pointer (some ⟨S,0,none⟩)),.slice ea m ec] W (FetchEnd W (fetchM s C es))):=fun S W hb hS h20=>fetch_any S s a b off n c C ea eb eo m ec es W (zaj h hb) hf hS (he.below hb) (by omega) hz hs (hR.below (hb.mono hR.six));have HD:Hid (∀W aa A cc L,Below w.heap.size w W→DbAt W aa A L.length L→Small L→L.length≤20→Calls Tryz.prog 27 #[.slice aa L.length cc] W fun e w'=>e= .returned (.bool (dbOkB (L.map KV.key)))∧Below W.heap.size W w'):=fun W aa A cc L hb hd hsm h20=>implDbOk_any aa A L.length cc L W hd hsm (by omega) (hR.below (hb.mono hR.six));have D1:Hid (heapB s C=false→dbOfM s C es=none):=dbOf_heap;have D2:Hid (¬m≤20→dbOfM s C es=none):=fun hx=>dbOf_many (by rw [hel];exact hx);have D3:Hid (fetchM s C es=none→dbOfM s C es=none):=dbOf_none;have D4:Hid (∀ks,heapB s C=true→m≤20→fetchM s C es=some ks→(dbOfM s C es=if dbOkB ks=true then some ks else none)∧ks.length≤20):=fun ks h1 h2 h3=>⟨dbOf_some h1 (by rw [hel];exact h2) h3,by rw [fetch_len h3,hel];exact h2⟩;clear h hf he hz hR hel hA0;generalize dbOfM s C es=R at*;generalize heapB s C=hb at*;generalize fetchM s C es=F at*;go_enter Tryz.func10,Tryz.ntmps10;go_wp2_with fail;rw [HA0.out];refine HO.out.mono ?_;rintro e w1 ⟨rfl,b1⟩;have bb1:=b0.trans (b1.mono s0);have r1:=r0.below b1 r0.lt;obtain ⟨k0,k1⟩:=zbb r1;have s1:=bb1.size;cases hb with
 |false=>
  have HY:Hid (R=none):=D1.out (by trivial);go_wp2;go_ret2;exact fetchEnd_no bb1 HY.out
 |true=>
  by_cases h20:m≤20
  ·have g20:decide ((20:Int)<(m:Int))=false:=decide_eq_false (by omega);obtain ⟨A1,hA1,HA1,ba,ra⟩:=boxed w1 #[.string s,.slice a n c] 50;have bbA:=bb1.trans (ba.mono s1);have sA:=bbA.size;have HF1:Hid (Calls Tryz.prog 26 #[.iface 48 (.pointer (some ⟨w1.heap.size,0,none⟩)),.slice ea m ec] A1 (FetchEnd A1 F)):=HF.out _ A1 bbA ra h20;have D5:Hid (∀ks,F=some ks→(R=if dbOkB ks=true then some ks else none)∧ks.length≤20):=fun ks=>D4.out ks (by trivial) h20;clear hA1 HF D1 D2 D4;cases F with
   |none=>
    have HY:Hid (R=none):=D3.out rfl;go_wp2_with fail;rw [HA1.out];refine HF1.out.mono ?_;rintro e w2 ⟨b2,he⟩;have he':e= .returned (.tuple #[.slice none 0 0,.bool false]):=he;subst he';have bb2:=bbA.trans (b2.mono sA);clear k0 k1;go_wp2;go_ret2;exact fetchEnd_no bb2 HY.out
   |some ks=>
    obtain ⟨hRk,hkl⟩:=D5.out ks rfl;have HRK:Hid (R=if dbOkB ks=true then some ks else none):=hRk;clear hRk D5 D3;go_wp2_with fail;rw [HA1.out];refine HF1.out.mono ?_;rintro e w2 ⟨b2,v,L,he,hL,hown,hsm⟩;subst he;obtain ⟨aa,A,cc,rfl,hat⟩:=hown.at;have hLl:L.length≤20:=by rw [←hL,List.length_map] at hkl;exact hkl
    have bb2:=bbA.trans (b2.mono sA);have s2:=bb2.size;have HD2:=HD.out w2 aa A cc L bb2 hat hsm hLl;rw [hL] at HD2;have HD3:Hid (Calls Tryz.prog 27 #[.slice aa L.length cc] w2 fun e w'=>e= .returned (.bool (dbOkB ks))∧Below w2.heap.size w2 w'):=HD2;have HOW:Hid (∀W,Below w2.heap.size w2 W→Below w.heap.size w W→FetchEnd w (some ks) (.returned (.tuple #[.slice aa L.length cc,.bool true])) W):=fun W hbw hb0=>⟨hb0,_,L,rfl,hL,(hown.below hbw).le sA,hsm⟩;clear HD2 HD hown hat hsm hL hkl hLl k0 k1 HF1;generalize L.length=nl at*;cases hok:dbOkB ks with
    |false=>
     rw [hok] at HD3 HRK;have HY:Hid (R=none):=HRK.out;clear hok;go_wp2_with fail;refine HD3.out.mono ?_;rintro e w3 ⟨rfl,b3⟩;have bb3:=bb2.trans (b3.mono s2);go_wp2;go_ret2;exact fetchEnd_no bb3 HY.out
    |true=>
     rw [hok] at HD3 HRK;have HY:Hid (R=some ks):=HRK.out;clear hok;go_wp2_with fail;refine HD3.out.mono ?_;rintro e w3 ⟨rfl,b3⟩;have bb3:=bb2.trans (b3.mono s2);have HEND:Hid (FetchEnd w R (.returned (.tuple #[.slice aa nl cc,.bool true])) w3):=by rw [HY.out];exact HOW.out w3 b3 bb3
     clear HOW;go_wp2;go_ret2;exact HEND.out
  ·have g20:decide ((20:Int)<(m:Int))=true:=decide_eq_true (by omega);have HY:Hid (R=none):=D2.out h20;clear h20;go_wp2;go_ret2;exact fetchEnd_no bb1 HY.out
end Go.Proofs.YtjpeglkkkllagaaGreatDoor
