import Derived.Test.YtibhabajknikcaaGreatDoorC28
import Derived.Test.YtibhabajknikcaaGreatDoorC21
set_option maxHeartbeats 8000000
set_option maxRecDepth 100000
namespace Go.Proofs.YtibhabajknikcaaGreatDoor
open Go.RowKit Go.Sort
open Kk (str_ne str_eq)
theorem app_pair1 {w:World} {B:Nat} {V:Value} {M:List Pr} (p:Pr) (h:OwnP w B V M) (hn:M.length≤1048577) (hB:B≤w.heap.size):
  ∃v' w',(Builtin.append_ #[55,55] 55 #[V,.slice (some ⟨w.heap.size,0,none⟩) 1 1]).run Tryz.prog (w.alloc (.cells #[.string p.1,.string p.2] 100))= .ok v' w'∧OwnP w' B v' (M++ [p])∧Below B w w'∧w.grownBy w' V.ownBlock:=by
 obtain ⟨i0,hi,hz0,hz1,hz2⟩:=info_parts info33;have hbl:Below w.heap.size w (w.alloc (.cells #[.string p.1,.string p.2] 100)):=(Below.refl _ w).alloc (Nat.le_refl _) _;have oA:=zaf h hbl
 obtain ⟨v',w',hrun,hown,hg,_,hblk⟩:=run_append_own_at (P:=Tryz.prog) (w.alloc (.cells #[.string p.1,.string p.2] 100)) B 55 55 100 i0 _ 2 32 Tryz.underlying55 hi hz0 hz1 hz2 rfl (by decide) V M.length (flatPV M) oA ⟨w.heap.size,0,none⟩ 1 1 [.string p.1,.string p.2] rfl (fun j u hj=>by
  rw [Addr.add_lit,Nat.zero_add];exact ((RowAt.new w 100 #[.string p.1,.string p.2]).cell j).trans (by simpa using hj)) (fun u hu=>by simp at hu;rcases hu with rfl|rfl<;>rfl) (by unfold maxLen;omega) (by omega) (by simp;omega)
 refine ⟨v',w',hrun,?_,below_own (Below.refl _ w) hB h hg,?_⟩
 ·have e:flatPV (M++ [p])=flatPV M++ [.string p.1,.string p.2]:=by unfold flatPV;rw [List.flatMap_append];rfl
  unfold OwnP;rw [List.length_append,e];exact hown
 ·have hs:(w.alloc (.cells #[.string p.1,.string p.2] 100)).heap.size=w.heap.size+1:=by simp
  have h2:=hg.size;exact ⟨hg.os,hg.tape,hg.output,by omega,fun k hk hr=> (hg.block k (by omega) hr).trans (Below.heap_alloc _ _ _ (by omega))⟩
structure PI (w:World) (v:Value) (wr:World) (M:List Pr):Prop where
 own:OwnP wr w.heap.size v M
 bel:Below w.heap.size w wr
theorem PI.start (w:World):PI w (.slice (some ⟨w.heap.size,0,none⟩) 0 0) (w.alloc (.cells #[] 100)) []:=
 ⟨empty_own (RowAt.new w 100 #[]) (Nat.le_refl _),(Below.refl _ w).alloc (Nat.le_refl _) _⟩
theorem PI.next {w wr:World} {v:Value} {M:List Pr} (h:PI w v wr M) (x y:ByteArray) (hn:M.length≤1048577):
  ∃v' w1,(Builtin.append_ #[55,55] 55 #[v,.slice (some ⟨wr.heap.size,0,none⟩) 1 1]).run Tryz.prog (wr.alloc (.cells #[.string x,.string y] 100))= .ok v' w1∧PI w v' w1 (M++ [(x,y)]):=by
 obtain ⟨v',w1,r1,o1,b1,_⟩:=app_pair1 (x,y) h.own hn h.bel.size;exact ⟨v',w1,r1,o1,h.bel.trans b1⟩
def geS (x nm:ByteArray):Bool:=!Op.bytesLess x.toList nm.toList
def putStep (nm tx:ByteArray) (s:List Pr×Bool) (x:Pr):List Pr×Bool:=
 if x.1=nm then (if (!s.2&&geS x.1 nm)=true then (s.1++ [(nm,tx)],true) else s)
 else (if (!s.2&&geS x.1 nm)=true then (s.1++ [(nm,tx)]++ [x],true) else (s.1++ [x],s.2))
def putS (nm tx:ByteArray) (ps:List Pr):List Pr×Bool:=ps.foldl (putStep nm tx) ([],false)
def putPairs (ps:List Pr) (nm tx:ByteArray):List Pr:=if (putS nm tx ps).2=true then (putS nm tx ps).1 else (putS nm tx ps).1++ [(nm,tx)]
theorem put_next (nm tx:ByteArray) (T:List Pr) (i:Nat) (h:i<T.length):putS nm tx (T.take (i+1))=putStep nm tx (putS nm tx (T.take i)) (T.getD i (bz,bz)):=by
 unfold putS;rw [List.take_succ_eq_append_getElem h,List.foldl_append];rw [show (T.getD i (bz,bz))=T[i] by rw [List.getD_eq_getElem?_getD,List.getElem?_eq_getElem h];rfl];rfl
def PairsEnd (w:World) (ps:List Pr) (e:Ending) (w':World):Prop:=∃v,e= .returned v∧OwnP w' w.heap.size v ps∧Below w.heap.size w w'
theorem put_any (a:Option Addr) (b n c:Nat) (T:List Pr) (nm tx:ByteArray) (w:World) (h:PairsIn w a b n T) (hn:n≤500000):
  Calls Tryz.prog 135 #[.slice a n c,.string nm,.string tx] w (PairsEnd w (putPairs T nm tx)):=by
 have H:Hid (PairsIn w a b n T):=h;have HL:Hid (T.length=n):=h.len;have HS:Hid (PI w _ _ []):=PI.start w;have HEND:Hid (∀v wr M,PI w v wr M→M=putPairs T nm tx→PairsEnd w (putPairs T nm tx) (.returned v) wr):=fun v wr M hI hM=>⟨v,rfl,by rw [←hM];exact hI.own,hI.bel⟩;have HST:Hid (putPairs T nm tx=if (putS nm tx T).2=true then (putS nm tx T).1 else (putS nm tx T).1++ [(nm,tx)]):=rfl;generalize putPairs T nm tx=G at*;clear h;go_enter Tryz.func135,Tryz.ntmps135;go_wp2;go_loopw [7,8,9] (fun v d i wr=>∃(k:Nat) (M:List Pr) (dn:Bool),k≤n∧i= .int .i64 k∧d= .bool dn∧M.length≤2*k∧Hid (putS nm tx (T.take k)=(M,dn))∧Hid (PI w v wr M)) (fun _ _ i _=>n-(intOf i).toNat)
 case atStart=>exact ⟨0,[],false,by omega,rfl,rfl,by simp,rfl,HS⟩
 case round=>
  obtain ⟨k,M,dn,hk,rfl,rfl,hml,hM,hI⟩:=hrel;clear HS;by_cases hlt:k<n
  ·have HB:Hid (∀W,Below w.heap.size w W→W.cell? ⟨b,k*2,none⟩=some (.string (T.getD k (bz,bz)).1)∧W.cell? ⟨b,k*2+1,none⟩=some (.string (T.getD k (bz,bz)).2)):=fun W hb=>⟨(H.out.below hb).c0 k hlt,(H.out.below hb).c1 k hlt⟩;obtain rfl:=H.out.addr (by omega);have HN:Hid (putS nm tx (T.take (k+1))=putStep nm tx (M,dn) (T.getD k (bz,bz))):=by unfold Hid;rw [put_next nm tx T k (by rw [HL.out];exact hlt),hM.out]
   clear hM HEND HST;generalize T.getD k (bz,bz)=x at*;obtain ⟨xn,xt⟩:=x;dsimp only at HB;have HGE:Hid (geS xn nm=!Op.bytesLess xn.toList nm.toList):=rfl;obtain ⟨c0,c1⟩:=HB.out wr hI.out.bel;cases dn with
   |true=>
    by_cases he:xn=nm
    ·have HI2:Hid _:=hI.out;have HM2:Hid (putS nm tx (T.take (k+1))=(M,true)):=by unfold Hid;rw [HN.out];unfold putStep;rw [if_pos he];rfl
     have hd:=True.intro;subst he;clear HN hI HB;go_wp2;exact ⟨⟨k+1,_,_,by omega,by go_num,rfl,by omega,HM2,HI2⟩,by simp [intOf];omega⟩
    ·obtain ⟨v2,w2,r2,hI2⟩:=hI.out.next xn xt (by omega);have R2:Hid _:=r2;have HI2:Hid _:=hI2;have HM2:Hid (putS nm tx (T.take (k+1))=((M++ [(xn,xt)]),true)):=by unfold Hid;rw [HN.out];unfold putStep;rw [if_neg he];rfl
     have hd:=str_ne he;clear HN hI HB r2 hI2;go_wp2_with (first|(at_builtin;refine wpList_append_run rfl _ _ 55 rfl rfl rfl R2.out ?_));exact ⟨⟨k+1,_,_,by omega,by go_num,rfl,by simp;omega,HM2,HI2⟩,by simp [intOf];omega⟩
   |false=>
    cases hge:geS xn nm with
    |false=>
     have HG1:Hid (geS xn nm=false):=hge;have hls:Op.bytesLess xn.toList nm.toList=true:=by rw [HGE.out] at hge;simpa using hge
     clear hge;by_cases he:xn=nm
     ·have HI2:Hid _:=hI.out;have HM2:Hid (putS nm tx (T.take (k+1))=(M,false)):=by unfold Hid;rw [HN.out];unfold putStep;rw [if_pos he];rw [HG1.out];rfl
      have hd:=True.intro;subst he;clear HN hI HB;go_wp2;exact ⟨⟨k+1,_,_,by omega,by go_num,rfl,by omega,HM2,HI2⟩,by simp [intOf];omega⟩
     ·obtain ⟨v2,w2,r2,hI2⟩:=hI.out.next xn xt (by omega);have R2:Hid _:=r2;have HI2:Hid _:=hI2;have HM2:Hid (putS nm tx (T.take (k+1))=((M++ [(xn,xt)]),false)):=by unfold Hid;rw [HN.out];unfold putStep;rw [if_neg he];rw [HG1.out];rfl
      have hd:=str_ne he;clear HN hI HB r2 hI2;go_wp2_with (first|(at_builtin;refine wpList_append_run rfl _ _ 55 rfl rfl rfl R2.out ?_));exact ⟨⟨k+1,_,_,by omega,by go_num,rfl,by simp;omega,HM2,HI2⟩,by simp [intOf];omega⟩
    |true=>
     have HG1:Hid (geS xn nm=true):=hge;have hls:Op.bytesLess xn.toList nm.toList=false:=by rw [HGE.out] at hge;simpa using hge
     clear hge;by_cases he:xn=nm
     ·obtain ⟨v1,w1,r1,hI1⟩:=hI.out.next nm tx (by omega);have R1:Hid _:=r1;obtain ⟨d0,d1⟩:=HB.out w1 hI1.bel;have HI2:Hid _:=hI1;have HM2:Hid (putS nm tx (T.take (k+1))=((M++ [(nm,tx)]),true)):=by unfold Hid;rw [HN.out];unfold putStep;rw [if_pos he];rw [HG1.out];rfl
      have hd:=True.intro;subst he;clear HN hI HB r1 hI1;go_wp2_with (first|(at_builtin;refine wpList_append_run rfl _ _ 55 rfl rfl rfl R1.out ?_));exact ⟨⟨k+1,_,_,by omega,by go_num,rfl,by simp;omega,HM2,HI2⟩,by simp [intOf];omega⟩
     ·obtain ⟨v1,w1,r1,hI1⟩:=hI.out.next nm tx (by omega);have R1:Hid _:=r1;obtain ⟨d0,d1⟩:=HB.out w1 hI1.bel;obtain ⟨v2,w2,r2,hI2⟩:=hI1.next xn xt (by simp;omega);have R2:Hid _:=r2;have HI2:Hid _:=hI2;have HM2:Hid (putS nm tx (T.take (k+1))=(((M++ [(nm,tx)])++ [(xn,xt)]),true)):=by unfold Hid;rw [HN.out];unfold putStep;rw [if_neg he];rw [HG1.out];rfl
      have hd:=str_ne he;clear HN hI HB r1 r2 hI2 hI1;go_wp2_with (first|(at_builtin;refine wpList_append_run rfl _ _ 55 rfl rfl rfl R1.out ?_)|(at_builtin;refine wpList_append_run rfl _ _ 55 rfl rfl rfl R2.out ?_));exact ⟨⟨k+1,_,_,by omega,by go_num,rfl,by simp;omega,HM2,HI2⟩,by simp [intOf];omega⟩
  ·obtain rfl:k=n:=by omega
   have e1:T.take k=T:=List.take_of_length_le (by rw [HL.out];exact Nat.le_refl _);rw [e1] at hM;cases dn with
   |true=>
    have HE:Hid (PairsEnd w G (.returned u7) wr):=HEND.out u7 wr M hI.out (by rw [HST.out,hM.out];rfl);clear hM hI e1 HEND HST;go_wp2;go_ret;exact HE.out
   |false=>
    obtain ⟨v',w1,r1,hI2⟩:=hI.out.next nm tx (by omega);have R1:Hid _:=r1;have HE:Hid (PairsEnd w G (.returned v') w1):=HEND.out v' w1 _ hI2 (by rw [HST.out,hM.out];rfl);clear hM hI e1 HEND HST r1 hI2;go_wp2_with (at_builtin;refine wpList_append_run rfl _ _ 55 rfl rfl rfl R1.out ?_);go_ret;exact HE.out
end Go.Proofs.YtibhabajknikcaaGreatDoor
namespace Go.Proofs.YtibhabajknikcaaGreatDoor
open Go.RowKit Go.Sort
open Kk (Rk rk0 texL texR decS zea zeb zec OwnR flatR encR zdh str_ne str_eq)
def Ke.withPairs (k:Ke) (ps:List Pr):Ke:=⟨k.name,⟨k.val.kind,k.val.text,k.val.items,ps,k.val.ranks⟩,k.due⟩
def putAll (ps:List Pr):List ByteArray→List Pr
 |f::x::T=>putAll (putPairs ps f x) T
 |_=>ps
def hashM (c:Cm) (ks:List Ke) (k:Ke) (T:List ByteArray):List Ke×List Rp:=match c with
 |13=> (ks,rInt (k.val.pairs.length:Int))
 |20=>if pairM k.val.pairs (argN T 1) 0<0 then (ks,rNull) else (ks,rBulk (k.val.pairs.getD (pairM k.val.pairs (argN T 1) 0).toNat (bz,bz)).2)
 |14=> (ks,rList (flatP k.val.pairs))
 |31=>setM ks (k.withPairs (k.val.pairs.filter fun p=>!(T.tail.contains p.1))) (rInt ((k.val.pairs.length:Int)-((k.val.pairs.filter fun p=>!(T.tail.contains p.1)).length:Int)))
 |_=>setM ks (k.withPairs (putAll k.val.pairs T.tail)) (rInt (((putAll k.val.pairs T.tail).length:Int)-(k.val.pairs.length:Int)))
theorem pair_found (T:List Pr) (nm:ByteArray) (h:¬pairM T nm 0<0):∃k:Nat,pairM T nm 0=(k:Int)∧k<T.length:=by
 by_cases hex:∃k,k<T.length∧(T.getD k (bz,bz)).1=nm
 ·have:∃k,(k<T.length∧(T.getD k (bz,bz)).1=nm)∧∀j,j<k→(T.getD j (bz,bz)).1≠nm:=by
   obtain ⟨k,hk,he⟩:=hex;induction k using Nat.strongRecOn with
   |_ k ih=>
    by_cases h2:∃j,j<k∧(T.getD j (bz,bz)).1=nm
    ·obtain ⟨j,hj,hje⟩:=h2;exact ih j hj (by omega) hje
    ·exact ⟨k,⟨hk,he⟩,fun j hj e=>h2 ⟨j,hj,e⟩⟩
  obtain ⟨k,⟨hk,he⟩,hn⟩:=this;exact ⟨k,by rw [pair_hit T nm k 0 hk hn he];simp,hk⟩
 ·exfalso;rw [pair_miss T nm 0 (fun j hj e=>hex ⟨j,hj,e⟩)] at h;exact h (by omega)
theorem hash_HLEN (B B':Nat) (v:Value) (L:List KV) (x:KV) (aa:Option Addr) (ab ao ac:Nat) (T:List ByteArray) (w:World) (h:DbOwn w B v L) (hx:VOwn w B' x.key.val x.vi x.vp x.vr) (hxs:KSml x.key) (ha:zdg w aa ab ao 1 T) (hT:∀i,i<1→(argN T i).size≤200) (hB:B≤w.heap.size):
  Calls Tryz.prog 96 #[v,kvV x,.string ⟨#[72,76,69,78]⟩,.slice aa 1 ac] w (zbd w B (hashM .HLEN (L.map KV.key) x.key T)):=by
 obtain ⟨p1,d1,e1⟩:=zad hx.items;obtain ⟨p2,P2,d2,e2,i2⟩:=ownP_in hx.pairs;obtain ⟨p3,d3,e3⟩:=zad hx.ranks;obtain ⟨⟨xn,xv,xd⟩,vi,vp,vr⟩:=x;dsimp only at e1 e2 e3 hxs i2;subst e1 e2 e3;have hnp:xv.pairs.length≤20:=hxs.np;obtain ⟨W0,hW0,HW0,b0,r0⟩:=boxed w (kC xn xv.kind xv.text (.slice p1 xv.items.length d1) (.slice p2 xv.pairs.length d2) (.slice p3 xv.ranks.length d3) xd) 60;have ES:=es_of h hB b0;have c0:=ha.cell 0 (by omega);rw [←b0.cell (p:=⟨ab,ao+0,none⟩) (ha.low (by omega))] at c0;have s0:=hT 0 (by omega);have hlow:ab<w.heap.size:=ha.low (by omega);obtain rfl:=ha.addr (by omega);rw [Nat.add_zero] at c0;change W0.cell? _=some (.string (argN T 0)) at c0;have HIN:=hIN;obtain ⟨y0,y1,y2,y3,y4,y5,y6⟩:=row7 r0;show Calls Tryz.prog 96 #[v,.agg (kC xn xv.kind xv.text (.slice p1 xv.items.length d1) (.slice p2 xv.pairs.length d2) (.slice p3 xv.ranks.length d3) xd),.string ⟨#[72,76,69,78]⟩,.slice (some ⟨ab,ao,none⟩) 1 ac] w (zbd w B (L.map KV.key,rInt (xv.pairs.length:Int)));clear i2;clear h hx hxs ha hT hW0;generalize L.map KV.key=K0 at*;generalize argN T 0=t0 at*;generalize xv.items.length=n1 at*;generalize xv.pairs.length=n2 at*;generalize xv.ranks.length=n3 at*;generalize xv.text=tx at*;generalize xv.kind=kd at*;show Calls Tryz.prog 96 #[v,.agg (kC xn kd tx (.slice p1 n1 d1) (.slice p2 n2 d2) (.slice p3 n3 d3) xd),.string ⟨#[72,76,69,78]⟩,.slice (some ⟨ab,ao,none⟩) 1 ac] w (zbd w B (K0,rInt (n2:Int)));go_enter Tryz.func96,Tryz.ntmps96;go_upto_region 1 with fail;rw [HW0.out];go_wp2_with fail;refine (HIN.out W0 (n2:Int)).mono ?_;rintro e w1 ⟨r,rfl,hr,hb⟩;have HF:Hid _:=ES.out (rInt (n2:Int)) r W0 w1 (Below.refl _ _) hr hb;clear hr hb ES;go_wp2;go_ret2;exact HF.out
theorem hash_HGET (B B':Nat) (v:Value) (L:List KV) (x:KV) (aa:Option Addr) (ab ao ac:Nat) (T:List ByteArray) (w:World) (h:DbOwn w B v L) (hx:VOwn w B' x.key.val x.vi x.vp x.vr) (hxs:KSml x.key) (ha:zdg w aa ab ao 2 T) (hT:∀i,i<2→(argN T i).size≤200) (hB:B≤w.heap.size):
  Calls Tryz.prog 96 #[v,kvV x,.string ⟨#[72,71,69,84]⟩,.slice aa 2 ac] w (zbd w B (hashM .HGET (L.map KV.key) x.key T)):=by
 obtain ⟨p1,d1,e1⟩:=zad hx.items;obtain ⟨p2,P2,d2,e2,i2⟩:=ownP_in hx.pairs;obtain ⟨p3,d3,e3⟩:=zad hx.ranks;obtain ⟨⟨xn,xv,xd⟩,vi,vp,vr⟩:=x;dsimp only at e1 e2 e3 hxs i2;subst e1 e2 e3;have hnp:xv.pairs.length≤20:=hxs.np;obtain ⟨W0,hW0,HW0,b0,r0⟩:=boxed w (kC xn xv.kind xv.text (.slice p1 xv.items.length d1) (.slice p2 xv.pairs.length d2) (.slice p3 xv.ranks.length d3) xd) 60;have ES:=es_of h hB b0;have c0:=ha.cell 0 (by omega);rw [←b0.cell (p:=⟨ab,ao+0,none⟩) (ha.low (by omega))] at c0;have s0:=hT 0 (by omega);have c1:=ha.cell 1 (by omega);rw [←b0.cell (p:=⟨ab,ao+1,none⟩) (ha.low (by omega))] at c1;have s1:=hT 1 (by omega);have hlow:ab<w.heap.size:=ha.low (by omega);obtain rfl:=ha.addr (by omega);rw [Nat.add_zero] at c0;change W0.cell? _=some (.string (argN T 0)) at c0;change W0.cell? _=some (.string (argN T 1)) at c1;have HN:=hNL;have HBk:=hBK;have cP:∀q,Calls Tryz.prog 134 #[.slice p2 xv.pairs.length d2,.string (argN T 1)] (W0.drewN q) fun e w'=>e= .returned (.int .i64 (pairM xv.pairs (argN T 1) 0))∧w'=W0.drewN q:=fun q=>pair_any p2 P2 xv.pairs.length d2 xv.pairs (argN T 1) _ (i2.below (b0.trans ((below_drewN (Below.refl _ W0) q).mono b0.size))) (by omega);obtain ⟨y0,y1,y2,y3,y4,y5,y6⟩:=row7 r0;show Calls Tryz.prog 96 #[v,.agg (kC xn xv.kind xv.text (.slice p1 xv.items.length d1) (.slice p2 xv.pairs.length d2) (.slice p3 xv.ranks.length d3) xd),.string ⟨#[72,71,69,84]⟩,.slice (some ⟨ab,ao,none⟩) 2 ac] w (zbd w B (if pairM xv.pairs (argN T 1) 0<0 then (L.map KV.key,rNull) else (L.map KV.key,rBulk (xv.pairs.getD (pairM xv.pairs (argN T 1) 0).toNat (bz,bz)).2)));by_cases hp:pairM xv.pairs (argN T 1) 0<0
 ·rw [if_pos hp];clear i2;clear h hx hxs ha hT hW0;generalize L.map KV.key=K0 at*;generalize pairM xv.pairs (argN T 1) 0=pz at*;have hpd:decide (pz<0)=true:=decide_eq_true hp;generalize argN T 0=t0 at*;generalize argN T 1=t1 at*;generalize xv.items.length=n1 at*;generalize xv.pairs.length=n2 at*;generalize xv.ranks.length=n3 at*;generalize xv.text=tx at*;generalize xv.kind=kd at*;show Calls Tryz.prog 96 #[v,.agg (kC xn kd tx (.slice p1 n1 d1) (.slice p2 n2 d2) (.slice p3 n3 d3) xd),.string ⟨#[72,71,69,84]⟩,.slice (some ⟨ab,ao,none⟩) 2 ac] w (zbd w B (K0,rNull));go_enter Tryz.func96,Tryz.ntmps96;go_upto_region 1 with fail;rw [HW0.out];go_wp2_with fail;go_quiet ((exact Calls.quiet_of_same (cP _)));go_wp2_with fail;refine (HN.out _).mono ?_;rintro e w1 ⟨r,rfl,hr,hb⟩;have HF:Hid _:=ES.out rNull r (W0.drewN nq) w1 (below_drewN (Below.refl _ W0) nq) hr hb;clear hr hb ES;go_wp2;go_ret2;exact HF.out
 ·rw [if_neg hp];obtain ⟨k,hk,hkl⟩:=pair_found xv.pairs (argN T 1) hp;rw [hk] at cP ⊢;rw [Int.toNat_natCast];have hPl:P2<w.heap.size:=i2.low (by omega);have q1:=i2.c1 k hkl;rw [←b0.cell (p:=⟨P2,k*2+1,none⟩) hPl] at q1;obtain rfl:=i2.addr (by omega);clear i2 hp hk;clear h hx hxs ha hT hW0;generalize L.map KV.key=K0 at*;generalize (xv.pairs.getD k (bz,bz)).2=tv at*;generalize argN T 0=t0 at*;generalize argN T 1=t1 at*;generalize xv.items.length=n1 at*;generalize xv.pairs.length=n2 at*;generalize xv.ranks.length=n3 at*;generalize xv.text=tx at*;generalize xv.kind=kd at*;have hk0:(0:Int)≤(k:Int):=by omega
  have hkn:(k:Int)<(n2:Int):=by omega
  have hpd:decide ((k:Int)<0)=false:=decide_eq_false (by omega);show Calls Tryz.prog 96 #[v,.agg (kC xn kd tx (.slice p1 n1 d1) (.slice (some ⟨P2,0,none⟩) n2 d2) (.slice p3 n3 d3) xd),.string ⟨#[72,71,69,84]⟩,.slice (some ⟨ab,ao,none⟩) 2 ac] w (zbd w B (K0,rBulk tv));go_enter Tryz.func96,Tryz.ntmps96;go_upto_region 1 with fail;rw [HW0.out];go_wp2_with fail;go_quiet ((exact Calls.quiet_of_same (cP _)));go_wp2_with fail;refine (HBk.out _ tv).mono ?_;rintro e w1 ⟨r,rfl,hr,hb⟩;have HF:Hid _:=ES.out (rBulk tv) r (W0.drewN nq) w1 (below_drewN (Below.refl _ W0) nq) hr hb;clear hr hb ES;go_wp2;go_ret2;exact HF.out
theorem StrI.next2 {w wr:World} {v:Value} {T:List ByteArray} (h:StrI w v wr T) (t u:ByteArray) (hn:T.length≤1000):
  ∃v' w1,(Builtin.append_ #[28,28] 28 #[v,.slice (some ⟨wr.heap.size,0,none⟩) 2 2]).run Tryz.prog ((wr.alloc (.cells #[.string t,.string u] 9)).drew)= .ok v' w1∧StrI w v' w1 (T++ [t,u]):=by
 obtain ⟨i0,hi,hz0,hz1,hz2⟩:=info_parts info9;have hB:w.heap.size≤wr.heap.size:=h.bel.size;have oD:OwnS wr.drew w.heap.size v T:=h.own;have hbl:Below wr.drew.heap.size wr.drew (wr.drew.alloc (.cells #[.string t,.string u] 9)):=(Below.refl _ wr.drew).alloc (Nat.le_refl _) _;have oA:=zaf oD hbl
 obtain ⟨v',w',hrun,hown,hg,_,hblk⟩:=run_append_own_at (P:=Tryz.prog) (wr.drew.alloc (.cells #[.string t,.string u] 9)) w.heap.size 28 28 9 i0 _ 1 16 Tryz.underlying28 hi hz0 hz1 hz2 rfl (by decide) v T.length (strV T) oA ⟨wr.drew.heap.size,0,none⟩ 2 2 [.string t,.string u] rfl (fun j u hj=>by
  rw [Addr.add_lit,Nat.zero_add];exact ((RowAt.new wr.drew 9 _).cell j).trans (by simpa using hj)) (fun u hu=>by simp at hu;rcases hu with rfl|rfl<;>rfl) (by unfold maxLen;omega) (by omega) (Nat.le_trans hB hbl.size)
 have bd:Below w.heap.size w wr.drew:=h.bel.trans ((below_drewN (Below.refl _ wr) 1).mono hB);refine ⟨v',w',hrun,?_,?_⟩
 ·have e:strV (T++ [t,u])=strV T++ [.string t,.string u]:=by unfold strV;rw [List.map_append];rfl
  unfold OwnS;rw [List.length_append,e];exact hown
 ·exact bd.trans (below_own (Below.refl _ wr.drew) hB oD hg)
theorem hash_HGETALL (B B':Nat) (v:Value) (L:List KV) (x:KV) (aa:Option Addr) (ab ao ac:Nat) (T:List ByteArray) (w:World) (h:DbOwn w B v L) (hx:VOwn w B' x.key.val x.vi x.vp x.vr) (hxs:KSml x.key) (ha:zdg w aa ab ao 1 T) (hT:∀i,i<1→(argN T i).size≤200) (hB:B≤w.heap.size):
  Calls Tryz.prog 96 #[v,kvV x,.string ⟨#[72,71,69,84,65,76,76]⟩,.slice aa 1 ac] w (zbd w B (hashM .HGETALL (L.map KV.key) x.key T)):=by
 obtain ⟨p1,d1,e1⟩:=zad hx.items;obtain ⟨p2,P2,d2,e2,i2⟩:=ownP_in hx.pairs;obtain ⟨p3,d3,e3⟩:=zad hx.ranks;obtain ⟨⟨xn,xv,xd⟩,vi,vp,vr⟩:=x;dsimp only at e1 e2 e3 hxs i2;subst e1 e2 e3;have hnp:xv.pairs.length≤20:=hxs.np;obtain ⟨W0,hW0,HW0,b0,r0⟩:=boxed w (kC xn xv.kind xv.text (.slice p1 xv.items.length d1) (.slice p2 xv.pairs.length d2) (.slice p3 xv.ranks.length d3) xd) 60;have ES:=es_of h hB b0;have c0:=ha.cell 0 (by omega);rw [←b0.cell (p:=⟨ab,ao+0,none⟩) (ha.low (by omega))] at c0;have s0:=hT 0 (by omega);have hlow:ab<w.heap.size:=ha.low (by omega);obtain rfl:=ha.addr (by omega);rw [Nat.add_zero] at c0;change W0.cell? _=some (.string (argN T 0)) at c0;have HP:Hid (PairsIn w p2 P2 xv.pairs.length xv.pairs):=i2;obtain ⟨y0,y1,y2,y3,y4,y5,y6⟩:=row7 r0;have HY:Hid (RowAt W0 w.heap.size 60 (kC xn xv.kind xv.text (.slice p1 xv.items.length d1) (.slice p2 xv.pairs.length d2) (.slice p3 xv.ranks.length d3) xd)):=r0;have HS:Hid (StrI W0 _ _ (flatP (xv.pairs.take 0))):=StrI.start W0;have HT:Hid (∀k,k<xv.pairs.length→flatP (xv.pairs.take k)++ [(xv.pairs.getD k (bz,bz)).1,(xv.pairs.getD k (bz,bz)).2]=flatP (xv.pairs.take (k+1))):=fun k hk=> (flatP_next _ k hk).symm;have HZ:Hid (xv.pairs.take xv.pairs.length=xv.pairs):=List.take_length;have HLn:Hid (∀k,k≤xv.pairs.length→(flatP (xv.pairs.take k)).length≤1000):=fun k hk=>by rw [flatP_len,List.length_take];omega
 have HE:Hid (∀v' wr,StrI W0 v' wr (flatP xv.pairs)→Calls Tryz.prog 129 #[v'] wr fun e w2=>∃r,e= .returned r∧zbd w B (L.map KV.key,rList (flatP xv.pairs)) (.returned (.tuple #[v,r])) w2):=fun v' wr hI=>by
  obtain ⟨a',A',c',e',hs,_⟩:=ownS_in hI.own (fun t ht=>by
   have h1:=hxs.pairs;simp only [flatP,List.mem_flatMap] at ht;obtain ⟨p,hp,ht⟩:=ht;have:=h1 p hp;simp at ht;rcases ht with rfl|rfl<;>omega)
  subst e';refine (list_any a' A' 0 _ c' _ wr hs (by rw [flatP_len];omega)).mono ?_;rintro e w2 ⟨r,rfl,hr,hb⟩;exact ⟨r,rfl,zbd.same h hB (b0.trans (hI.bel.mono b0.size)) hr hb⟩
 show Calls Tryz.prog 96 #[v,.agg (kC xn xv.kind xv.text (.slice p1 xv.items.length d1) (.slice p2 xv.pairs.length d2) (.slice p3 xv.ranks.length d3) xd),.string ⟨#[72,71,69,84,65,76,76]⟩,.slice (some ⟨ab,ao,none⟩) 1 ac] w (zbd w B (L.map KV.key,rList (flatP xv.pairs)));clear i2;clear h hx hxs ha hT hW0;generalize (L.map KV.key,rList (flatP xv.pairs))=PP at*;generalize argN T 0=t0 at*;clear r0;generalize xv.pairs.length=n2 at*;generalize xv.items.length=n1 at*;generalize xv.ranks.length=n3 at*;generalize xv.text=tx at*;generalize xv.kind=kd at*;go_enter Tryz.func96,Tryz.ntmps96;go_upto_region 1 with fail;rw [HW0.out];go_wp2_with fail;clear y0 y1 y2 y3 y4 y5 y6;go_loopw [12,13] (fun v i wr=>∃k:Nat,k≤n2∧i= .int .i64 k∧Hid (StrI W0 v wr (flatP (xv.pairs.take k)))) (fun _ i _=>n2-(intOf i).toNat)
 case atStart=>exact ⟨0,by omega,rfl,HS⟩
 case round=>
  obtain ⟨k,hk,rfl,hI⟩:=hrel;clear HS;have hYr:RowAt wr w.heap.size 60 (kC xn kd tx (.slice p1 n1 d1) (.slice p2 n2 d2) (.slice p3 n3 d3) xd):=RowAt.below HY.out hI.out.bel (RowAt.lt HY.out);obtain ⟨y0,y1,y2,y3,y4,y5,y6⟩:=row7 hYr;clear hYr;by_cases hlt:k<n2
  ·have bw:Below w.heap.size w wr:=b0.trans (hI.out.bel.mono b0.size);have q0:=(HP.out.below bw).c0 k hlt;have q1:=(HP.out.below bw).c1 k hlt;obtain rfl:=HP.out.addr (by omega);obtain ⟨v',w1,hrun,hI2⟩:=hI.out.next2 (xv.pairs.getD k (bz,bz)).1 (xv.pairs.getD k (bz,bz)).2 (HLn.out k hk);rw [HT.out k hlt] at hI2;have HI2:Hid _:=hI2;clear hI2 hI HE HT HZ HLn HP HY ES;generalize (xv.pairs.getD k (bz,bz)).1=xa at*;generalize (xv.pairs.getD k (bz,bz)).2=xb at*;go_wp2_with fail
   go_region_law (first
    |refine zba rfl (.tmp 62) (.tmp 77) 28 rfl (by simp [Act.eval]) (by simp [Act.eval]) hrun ?_)
   all_goals
    go_wp2;go_roundw
    case rel=>exact ⟨k+1,by omega,by go_num,HI2⟩
    case measure=>simp [intOf];omega
  ·obtain rfl:k=n2:=by omega
   rw [HZ.out] at hI;have HC:Hid (Calls Tryz.prog 129 #[u12] wr fun e w2=>∃r,e= .returned r∧zbd w B PP (.returned (.tuple #[v,r])) w2):=HE.out _ wr hI.out;clear HE HT HZ HLn hI HP HY ES;go_wp2_with fail;refine HC.out.mono ?_;rintro e w2 ⟨r,rfl,hq⟩;have HQ:Hid _:=hq;clear hq HC;go_wp2;go_ret2;exact HQ.out
end Go.Proofs.YtibhabajknikcaaGreatDoor
