import Derived.Test.YtjpeglkkkllagaaGreatDoorC13
set_option maxHeartbeats 4000000
set_option maxRecDepth 100000
namespace Go.Proofs.YtjpeglkkkllagaaGreatDoor
open Go.RowKit Go.Sort
open Kk (str_ne str_eq)
theorem app_str1 {w:World} {B:Nat} {V:Value} {T:List ByteArray} (t:ByteArray) (h:OwnS w B V T) (hn:T.length≤1048577) (hB:B≤w.heap.size):
  ∃v' w',(Builtin.append_ #[59,59] 59 #[V,.slice (some ⟨w.heap.size,0,none⟩) 1 1]).run Tryz.prog (w.alloc (.cells #[.string t] 9))= .ok v' w'∧OwnS w' B v' (T++ [t])∧Below B w w'∧w.grownBy w' V.ownBlock:=by
 obtain ⟨i0,hi,hz0,hz1,hz2⟩:=info_parts info9;have hbl:Below w.heap.size w (w.alloc (.cells #[.string t] 9)):=(Below.refl _ w).alloc (Nat.le_refl _) _;have oA:=zaf h hbl
 obtain ⟨v',w',hrun,hown,hg,_,hblk⟩:=run_append_own_at (P:=Tryz.prog) (w.alloc (.cells #[.string t] 9)) B 59 59 9 i0 _ 1 16 Tryz.underlying59 hi hz0 hz1 hz2 rfl (by decide) V T.length (strV T) oA ⟨w.heap.size,0,none⟩ 1 1 [.string t] rfl (fun j u hj=>by
  rw [Addr.add_lit,Nat.zero_add];exact ((RowAt.new w 9 #[.string t]).cell j).trans (by simpa using hj)) (fun u hu=>by simp at hu;subst hu;rfl) (by unfold maxLen;omega) (by omega) (by simp;omega)
 refine ⟨v',w',hrun,?_,below_own (Below.refl _ w) hB h hg,?_⟩
 ·have e:strV (T++ [t])=strV T++ [.string t]:=by unfold strV;rw [List.map_append];rfl
  unfold OwnS;rw [List.length_append,e];exact hown
 ·have hs:(w.alloc (.cells #[.string t] 9)).heap.size=w.heap.size+1:=by simp
  have h2:=hg.size;exact ⟨hg.os,hg.tape,hg.output,by omega,fun k hk hr=> (hg.block k (by omega) hr).trans (Below.heap_alloc _ _ _ (by omega))⟩
structure StrI (w:World) (v:Value) (wr:World) (T:List ByteArray):Prop where
 own:OwnS wr w.heap.size v T
 bel:Below w.heap.size w wr
theorem StrI.start (w:World):StrI w (.slice (some ⟨w.heap.size,0,none⟩) 0 0) (w.alloc (.cells #[] 9)) []:=
 ⟨empty_own (RowAt.new w 9 #[]) (Nat.le_refl _),(Below.refl _ w).alloc (Nat.le_refl _) _⟩
theorem StrI.next {w wr:World} {v:Value} {T:List ByteArray} (h:StrI w v wr T) (t:ByteArray) (hn:T.length≤1048577):
  ∃v' w1,(Builtin.append_ #[59,59] 59 #[v,.slice (some ⟨wr.heap.size,0,none⟩) 1 1]).run Tryz.prog (wr.alloc (.cells #[.string t] 9))= .ok v' w1∧StrI w v' w1 (T++ [t]):=by
 obtain ⟨v',w1,r1,o1,b1,_⟩:=app_str1 t h.own hn h.bel.size;exact ⟨v',w1,r1,o1,h.bel.trans b1⟩
theorem names_next (L:List KV) (k:Nat) (h:k<L.length):((L.take k).map KV.key).map Ke.name++ [(L.getD k kv0).key.name]=((L.take (k+1)).map KV.key).map Ke.name:=by
 rw [List.take_succ_eq_append_getElem h,List.map_append,List.map_append];rw [show (L.getD k kv0)=L[k] by rw [List.getD_eq_getElem?_getD,List.getElem?_eq_getElem h];rfl];rfl
theorem many_KEYS (B:Nat) (v:Value) (L:List KV) (aa:Option Addr) (m ac:Nat) (w:World) (h:DbOwn w B v L) (hf:FitsK (L.map KV.key)) (hn:L.length≤1048576) (hB:B≤w.heap.size):
  Calls Tryz.prog 90 #[v,.string ⟨#[75,69,89,83]⟩,.slice aa m ac] w (zbd w B (L.map KV.key,rList ((L.map KV.key).map Ke.name))):=by
 obtain ⟨a,A,c,e,hat⟩:=h.at;subst e;have H:Hid (KsIn w a A L.length L):=hat.ks;have HS:Hid (StrI w _ _ (((L.take 0).map KV.key).map Ke.name)):=StrI.start w;have HE:Hid (∀v' wr,StrI w v' wr ((L.map KV.key).map Ke.name)→Calls Tryz.prog 120 #[v'] wr fun e w2=>∃r,e= .returned r∧zbd w B (L.map KV.key,rList ((L.map KV.key).map Ke.name)) (.returned (.tuple #[.slice a L.length c,r])) w2):=fun v' wr hI=>by
  obtain ⟨a',A',c',e',hs,_⟩:=ownS_in hI.own (fun t ht=>by
   obtain ⟨k,hk,rfl⟩:=List.mem_map.1 ht;exact (hf k hk).name)
  subst e';refine (list_any a' A' 0 _ c' _ wr hs (by simpa using hn)).mono ?_;rintro e w2 ⟨r,rfl,hr,hb⟩;exact ⟨r,rfl,zbd.same h hB hI.bel hr hb⟩
 have HT:Hid (∀k,k<L.length→((L.take k).map KV.key).map Ke.name++ [(L.getD k kv0).key.name]=((L.take (k+1)).map KV.key).map Ke.name):=fun k hk=>names_next L k hk;have HZ:Hid (L.take L.length=L):=List.take_length;have HLn:Hid (∀k,k≤L.length→(((L.take k).map KV.key).map Ke.name).length=k):=fun k hk=>by simp;omega
 clear h hf hat;generalize hln:L.length=ln at*;clear hln;go_enter Tryz.func90,Tryz.ntmps90;go_wp2;go_loopw [8,9] (fun v i wr=>∃k:Nat,k≤ln∧i= .int .i64 k∧Hid (StrI w v wr (((L.take k).map KV.key).map Ke.name))) (fun _ i _=>ln-(intOf i).toNat)
 case atStart=>exact ⟨0,by omega,rfl,HS⟩
 case round=>
  obtain ⟨k,hk,rfl,hI⟩:=hrel;clear HS;by_cases hlt:k<ln
  ·have c0:=((H.out.below hI.out.bel).cell k hlt).c0;obtain rfl:=H.out.addr (by omega);obtain ⟨v',w1,r1,hI2⟩:=hI.out.next (L.getD k kv0).key.name (by rw [HLn.out k hk];omega);rw [HT.out k hlt] at hI2;have R1:Hid _:=r1;have HI2:Hid _:=hI2;clear r1 hI2 hI HE HT HZ HLn;generalize (L.getD k kv0).key.name=x at*;go_wp2_with (at_builtin;refine wpList_append_run rfl _ _ 59 rfl rfl rfl R1.out ?_);exact ⟨⟨k+1,by omega,by go_num,HI2⟩,by simp [intOf];omega⟩
  ·obtain rfl:k=ln:=by omega
   rw [HZ.out] at hI;have HC:Hid (Calls Tryz.prog 120 #[u8] wr fun e w2=>∃r,e= .returned r∧zbd w B (L.map KV.key,rList ((L.map KV.key).map Ke.name)) (.returned (.tuple #[.slice a k c,r])) w2):=HE.out _ wr hI.out;clear HE HT HZ HLn hI;go_wp2_with fail;refine HC.out.mono ?_;rintro e w2 ⟨r,rfl,hq⟩;have HQ:Hid _:=hq;clear hq HC;go_wp2;go_ret2;exact HQ.out
theorem del_next (dl:Bool) (ks:List Ke) (T:List ByteArray) (k:Nat) (h:k<T.length):delM dl ks (T.take (k+1))=delStep dl (delM dl ks (T.take k)) (T.getD k ByteArray.empty):=by
 unfold delM;rw [List.take_succ_eq_append_getElem h,List.foldl_append];rw [show T.getD k ByteArray.empty=T[k] by rw [List.getD_eq_getElem?_getD,List.getElem?_eq_getElem h];rfl];rfl
theorem gone_len (ks:List Ke) (nm:ByteArray):(goneK ks nm).length≤ks.length:=List.length_filter_le ..
structure DelI (w:World) (B:Nat) (dl:Bool) (ks:List Ke) (T:List ByteArray) (k:Nat) (v:Value) (cnt:Nat) (wr:World) (M:List KV):Prop where
 eq:delM dl ks (T.take k)=(M.map KV.key,cnt)
 own:DbOwn wr B v M
 fit:FitsK (M.map KV.key)
 len:M.length≤1048576
 bel:Below w.heap.size w wr
theorem many_DEL (B:Nat) (v:Value) (L:List KV) (aa:Option Addr) (ab ao m ac:Nat) (T:List ByteArray) (w:World) (h:DbOwn w B v L) (hf:FitsK (L.map KV.key)) (hn:L.length≤1048576) (ha:zdg w aa ab ao m T) (hm:m≤1048576) (hB:B≤w.heap.size):
  Calls Tryz.prog 90 #[v,.string ⟨#[68,69,76]⟩,.slice aa m ac] w (zbd w B ((delM true (L.map KV.key) T).1,rInt (delM true (L.map KV.key) T).2)):=by
 have H:Hid (zdg w aa ab ao m T):=ha;have HL:Hid (T.length=m):=ha.len;have HS:Hid (DelI w B true (L.map KV.key) T 0 v 0 w L):=⟨rfl,h,hf,hn,Below.refl _ _⟩;have HZ:Hid (T.take m=T):=List.take_of_length_le (by rw [ha.len];exact Nat.le_refl _);generalize L.map KV.key=K0 at*;clear h hf hn ha;go_enter Tryz.func90,Tryz.ntmps90;go_wp2;go_loopw [0,10,11] (fun u c i wr=>∃(k cnt:Nat) (M:List KV),k≤m∧i= .int .i64 k∧c= .int .i64 cnt∧cnt≤k∧Hid (DelI w B true K0 T k u cnt wr M)) (fun _ _ i _=>m-(intOf i).toNat)
 case atStart=>exact ⟨0,0,L,by omega,rfl,rfl,by omega,HS⟩
 case round=>
  obtain ⟨k,cnt,M,hk,rfl,rfl,hc,hI⟩:=hrel;clear HS;have hBr:B≤wr.heap.size:=Nat.le_trans hB hI.out.bel.size;by_cases hlt:k<m
  ·have c0:=(zdb H.out hI.out.bel).cell k hlt;obtain rfl:=H.out.addr (by omega);obtain ⟨a,A,c,e,hd,hat⟩:=hI.out.own.din hI.out.fit.fits;subst e;have hX:=del_next true K0 T k (by rw [HL.out];exact hlt);rw [hI.out.eq] at hX;have HX:Hid (delM true K0 (T.take (k+1))=delStep true (M.map KV.key,cnt) (T.getD k ByteArray.empty)):=hX;have HF:Hid (Calls Tryz.prog 92 #[.slice a M.length c,.string (T.getD k ByteArray.empty)] wr fun e w'=>e= .returned (.int .i64 (findK (M.map KV.key) (T.getD k ByteArray.empty) 0))∧w'=wr):=find_any a A M.length c M _ wr hd.ks (by have:=hI.out.len;omega);have HG:Hid (Calls Tryz.prog 121 #[.slice a M.length c,.string (T.getD k ByteArray.empty)] wr (KeysEnd wr (goneK (M.map KV.key) (T.getD k ByteArray.empty)))):=gone_any a A M.length c M _ wr hd hI.out.len;clear hd hat hX;generalize T.getD k ByteArray.empty=t at*;by_cases hz:findK (M.map KV.key) t 0<0
   ·have HI2:Hid (DelI w B true K0 T (k+1) (.slice a M.length c) cnt wr M):=⟨by rw [HX.out];unfold delStep;rw [if_pos hz],hI.out.own,hI.out.fit,hI.out.len,hI.out.bel⟩;clear HX HG hI;generalize findK (M.map KV.key) t 0=z at*;generalize M.length=ml at*;go_wp2_with fail;refine HF.out.mono ?_;rintro e w1 ⟨rfl,rfl⟩;clear HF;go_wp2;exact ⟨⟨k+1,cnt,M,by omega,by go_num,rfl,by omega,HI2⟩,by simp [intOf];omega⟩
   ·have HI2:Hid (∀v' w1 L',L'.map KV.key=goneK (M.map KV.key) t→DbOwn w1 wr.heap.size v' L'→Below wr.heap.size wr w1→DelI w B true K0 T (k+1) v' (cnt+1) w1 L'):=fun v' w1 L' h1 h2 h3=>⟨by rw [HX.out];unfold delStep;rw [if_neg hz,if_pos rfl,h1],h2.le hBr,by rw [h1];exact hI.out.fit.gone t,by
     have e1:L'.length=(goneK (M.map KV.key) t).length:=by rw [←h1];simp
     have e2:=gone_len (M.map KV.key) t;rw [List.length_map] at e2;have:=hI.out.len;omega,hI.out.bel.trans (h3.mono hI.out.bel.size)⟩
    clear HX hI;generalize findK (M.map KV.key) t 0=z at*;generalize goneK (M.map KV.key) t=Kg at*;generalize M.length=ml at*;go_wp2_with fail;refine HF.out.mono ?_;rintro e w1 ⟨rfl,rfl⟩;clear HF;go_wp2_with fail;refine HG.out.mono ?_;rintro e w2 ⟨v',L',rfl,h1,h2,h3⟩;have HI3:Hid _:=HI2.out v' w2 L' h1 h2 h3;clear h1 h2 h3 HI2 HG;go_wp2;exact ⟨⟨k+1,cnt+1,L',by omega,by go_num,by go_num,by omega,HI3⟩,by simp [intOf];omega⟩
  ·obtain rfl:k=m:=by omega
   have HE:Hid (∀r w2,zbe w2 wr.heap.size r (rInt cnt)→Below wr.heap.size wr w2→zbd w B ((delM true K0 T).1,rInt (delM true K0 T).2) (.returned (.tuple #[u0,r])) w2):=fun r w2 h1 h2=>by
    have hq:=hI.out.eq;rw [HZ.out] at hq;rw [hq];exact ⟨u0,r,M,rfl,rfl,hI.out.own.below h2,h1.le hBr,hI.out.bel.trans (h2.mono hI.out.bel.size)⟩
   have HR:Hid (∀n:Int,Calls Tryz.prog 119 #[.int .i64 n] wr (zci wr (rInt n))):=fun n=>int_any n wr;clear hI;go_wp2_with fail;refine (HR.out _).mono ?_;rintro e w1 ⟨r,rfl,hr,hb⟩;have HQ:Hid _:=HE.out r w1 hr hb;clear hr hb HE HR;go_wp2;go_ret2;exact HQ.out
theorem many_EXISTS (B:Nat) (v:Value) (L:List KV) (aa:Option Addr) (ab ao m ac:Nat) (T:List ByteArray) (w:World) (h:DbOwn w B v L) (hf:FitsK (L.map KV.key)) (hn:L.length≤1048576) (ha:zdg w aa ab ao m T) (hm:m≤1048576) (hB:B≤w.heap.size):
  Calls Tryz.prog 90 #[v,.string ⟨#[69,88,73,83,84,83]⟩,.slice aa m ac] w (zbd w B ((delM false (L.map KV.key) T).1,rInt (delM false (L.map KV.key) T).2)):=by
 have H:Hid (zdg w aa ab ao m T):=ha;have HL:Hid (T.length=m):=ha.len;have HS:Hid (DelI w B false (L.map KV.key) T 0 v 0 w L):=⟨rfl,h,hf,hn,Below.refl _ _⟩;have HZ:Hid (T.take m=T):=List.take_of_length_le (by rw [ha.len];exact Nat.le_refl _);generalize L.map KV.key=K0 at*;clear h hf hn ha;go_enter Tryz.func90,Tryz.ntmps90;go_wp2;go_loopw [0,10,11] (fun u c i wr=>∃(k cnt:Nat) (M:List KV),k≤m∧i= .int .i64 k∧c= .int .i64 cnt∧cnt≤k∧Hid (DelI w B false K0 T k u cnt wr M)) (fun _ _ i _=>m-(intOf i).toNat)
 case atStart=>exact ⟨0,0,L,by omega,rfl,rfl,by omega,HS⟩
 case round=>
  obtain ⟨k,cnt,M,hk,rfl,rfl,hc,hI⟩:=hrel;clear HS;have hBr:B≤wr.heap.size:=Nat.le_trans hB hI.out.bel.size;by_cases hlt:k<m
  ·have c0:=(zdb H.out hI.out.bel).cell k hlt;obtain rfl:=H.out.addr (by omega);obtain ⟨a,A,c,e,hd,hat⟩:=hI.out.own.din hI.out.fit.fits;subst e;have hX:=del_next false K0 T k (by rw [HL.out];exact hlt);rw [hI.out.eq] at hX;have HX:Hid (delM false K0 (T.take (k+1))=delStep false (M.map KV.key,cnt) (T.getD k ByteArray.empty)):=hX;have HF:Hid (Calls Tryz.prog 92 #[.slice a M.length c,.string (T.getD k ByteArray.empty)] wr fun e w'=>e= .returned (.int .i64 (findK (M.map KV.key) (T.getD k ByteArray.empty) 0))∧w'=wr):=find_any a A M.length c M _ wr hd.ks (by have:=hI.out.len;omega);have HG:Hid (Calls Tryz.prog 121 #[.slice a M.length c,.string (T.getD k ByteArray.empty)] wr (KeysEnd wr (goneK (M.map KV.key) (T.getD k ByteArray.empty)))):=gone_any a A M.length c M _ wr hd hI.out.len;clear hd hat hX;generalize T.getD k ByteArray.empty=t at*;by_cases hz:findK (M.map KV.key) t 0<0
   ·have HI2:Hid (DelI w B false K0 T (k+1) (.slice a M.length c) cnt wr M):=⟨by rw [HX.out];unfold delStep;rw [if_pos hz],hI.out.own,hI.out.fit,hI.out.len,hI.out.bel⟩;clear HX HG hI;generalize findK (M.map KV.key) t 0=z at*;generalize M.length=ml at*;go_wp2_with fail;refine HF.out.mono ?_;rintro e w1 ⟨rfl,rfl⟩;clear HF;go_wp2;exact ⟨⟨k+1,cnt,M,by omega,by go_num,rfl,by omega,HI2⟩,by simp [intOf];omega⟩
   ·have HI2:Hid (DelI w B false K0 T (k+1) (.slice a M.length c) (cnt+1) wr M):=⟨by rw [HX.out];unfold delStep;rw [if_neg hz,if_neg (by decide)],hI.out.own,hI.out.fit,hI.out.len,hI.out.bel⟩;clear HX HG hI;generalize findK (M.map KV.key) t 0=z at*;generalize M.length=ml at*;go_wp2_with fail;refine HF.out.mono ?_;rintro e w1 ⟨rfl,rfl⟩;clear HF;go_wp2;exact ⟨⟨k+1,cnt+1,M,by omega,by go_num,by go_num,by omega,HI2⟩,by simp [intOf];omega⟩
  ·obtain rfl:k=m:=by omega
   have HE:Hid (∀r w2,zbe w2 wr.heap.size r (rInt cnt)→Below wr.heap.size wr w2→zbd w B ((delM false K0 T).1,rInt (delM false K0 T).2) (.returned (.tuple #[u0,r])) w2):=fun r w2 h1 h2=>by
    have hq:=hI.out.eq;rw [HZ.out] at hq;rw [hq];exact ⟨u0,r,M,rfl,rfl,hI.out.own.below h2,h1.le hBr,hI.out.bel.trans (h2.mono hI.out.bel.size)⟩
   have HR:Hid (∀n:Int,Calls Tryz.prog 119 #[.int .i64 n] wr (zci wr (rInt n))):=fun n=>int_any n wr;clear hI;go_wp2_with fail;refine (HR.out _).mono ?_;rintro e w1 ⟨r,rfl,hr,hb⟩;have HQ:Hid _:=HE.out r w1 hr hb;clear hr hb HE HR;go_wp2;go_ret2;exact HQ.out
theorem del_fst:∀(T:List ByteArray) (s:List Ke×Nat),(T.foldl (delStep false) s).1=s.1
 | [],_=>rfl
 |t::T,s=>by
  rw [List.foldl_cons,del_fst T];unfold delStep;split
  ·rfl
  ·rfl
theorem del_keys (ks:List Ke) (T:List ByteArray):(delM false ks T).1=ks:=del_fst T (ks,0)
theorem many_any (c:Cm) (hc:c.many=true) (B:Nat) (v:Value) (L:List KV) (aa:Option Addr) (ab ao m ac:Nat) (T:List ByteArray) (w:World) (hm:c.fits m=true) (h:DbOwn w B v L) (hf:FitsK (L.map KV.key)) (hn:L.length≤1048576) (ha:zdg w aa ab ao m T) (hm2:m≤1048576) (hB:B≤w.heap.size):
  Calls Tryz.prog 90 #[v,.string c.text,.slice aa m ac] w (zbd w B (manyM c (L.map KV.key) T)):=by
 cases c using Cm.elim
 case PING=>
  by_cases h0:m=0
  ·subst h0;have:manyM .PING (L.map KV.key) T=(L.map KV.key,rSimple sPONG):=by unfold manyM;rw [ha.len,if_pos rfl];rfl
   rw [this];exact many_PING0 B v L aa ac w h hB
  ·have:manyM .PING (L.map KV.key) T=(L.map KV.key,rBulk (T.getD 0 ByteArray.empty)):=by unfold manyM;rw [ha.len,if_neg h0];rfl
   rw [this];exact many_PING1 B v L aa ab ao m ac T w h ha (by omega) hm2 hB
 case ECHO=>exact many_ECHO B v L aa ab ao m ac T w h ha (by have:=of_decide_eq_true hm;omega) hB
 case FLUSHALL=>exact many_FLUSHALL B v aa m ac w hB
 case DBSIZE=>exact many_DBSIZE B v L aa m ac w h hB
 case KEYS=>exact many_KEYS B v L aa m ac w h hf hn hB
 case DEL=>exact many_DEL B v L aa ab ao m ac T w h hf hn ha hm2 hB
 case EXISTS=>
  have key:=many_EXISTS B v L aa ab ao m ac T w h hf hn ha hm2 hB;have e:(delM false (L.map KV.key) T).1=L.map KV.key:=del_keys (L.map KV.key) T;rw [e] at key;exact key
 all_goals cases hc
end Go.Proofs.YtjpeglkkkllagaaGreatDoor
