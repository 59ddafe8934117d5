import Derived.Test.YtokafonppgppdaaGreatDoorC28
set_option maxHeartbeats 8000000
set_option maxRecDepth 100000
namespace Go.Proofs.YtokafonppgppdaaGreatDoor
open Tryz
open Go.RowKit Go.Sort
open Kk (zbz str_eq)
variable {w wr:World} {M:List Pr} {v:Value}
theorem zqm {B:Nat} {V:Value} (p:Pr) (h:zd2 w B V M) (hn:M.length<=1048577) (hB:B<=w.heap.size):
  ∃v' w',(Builtin.append_ #[42,42] 42 #[V,.slice (some ⟨w.heap.size,0,none⟩) 1 1]).run prog (w.alloc (.cells #[.string p.1,.string p.2] 145))= .ok v' w'/\zd2 w' B v' (M++ [p])/\Below B w w'/\w.grownBy w' V.ownBlock:=by
 obtain ⟨i0,hi,hz0,hz1,hz2⟩:=info_parts zj8;have hbl:Bl w (w.alloc (.cells #[.string p.1,.string p.2] 145)):=(Qb _ w).alloc (Qc _) _;have oA:=zaf h hbl
 obtain ⟨v',w',hrun,hown,hg,_,hblk⟩:=run_append_own_at (P:=prog) (w.alloc (.cells #[.string p.1,.string p.2] 145)) B 42 42 145 i0 _ 2 32 underlying42 hi hz0 hz1 hz2 rfl (by decide) V M.length (zal M) oA ⟨w.heap.size,0,none⟩ 1 1 [.string p.1,.string p.2] rfl (fun j u hj=>by
  rw [Addr.add_lit,Qq];exact ((zab.new w 145 #[.string p.1,.string p.2]).cell j).trans (by simpa using hj)) (fun u hu=>by simp at hu;rcases hu with rfl|rfl<;>rfl) (by unfold maxLen;omega) (by omega) (by simp;omega)
 refine ⟨v',w',hrun,?_,zdd (Qb _ w) hB h hg,?_⟩
 ·have e:zal (M++ [p])=zal M++ [.string p.1,.string p.2]:=by unfold zal;rw [List.flatMap_append];rfl
  unfold zd2;rw [Qi,e];exact hown
 ·have hs:(w.alloc (.cells #[.string p.1,.string p.2] 145)).heap.size=w.heap.size+1:=by simp
  have h2:=hg.size;exact ⟨hg.os,hg.tape,hg.output,by omega,fun k hk hr=> (hg.block k (by omega) hr).trans (Below.heap_alloc _ _ _ (by omega))⟩
structure PI (w:World) (v:Value) (wr:World) (M:List Pr):Prop where
 own:zd2 wr w.heap.size v M
 bel:Bl w wr
theorem PI.start (w:World):PI w (.slice (some ⟨w.heap.size,0,none⟩) 0 0) (w.alloc (.cells #[] 145)) []:=
 ⟨zew (zab.new w 145 #[]) (Qc _),(Qb _ w).alloc (Qc _) _⟩
theorem PI.next (h:PI w v wr M) (x y:ByteArray) (hn:M.length<=1048577):
  ∃v' w1,(Builtin.append_ #[42,42] 42 #[v,.slice (some ⟨wr.heap.size,0,none⟩) 1 1]).run prog (wr.alloc (.cells #[.string x,.string y] 145))= .ok v' w1/\PI w v' w1 (M++ [(x,y)]):=by
 obtain ⟨v',w1,r1,o1,b1,_⟩:=zqm (x,y) h.own hn h.bel.size;exact ⟨v',w1,r1,o1,h.bel.trans b1⟩
def geS (x nm:ByteArray):Bool:=!Op.bytesLess x.toList nm.toList
def zbx (nm tx:ByteArray) (s:List Pr×Bool) (x:Pr):List Pr×Bool:=
 if x.1=nm then (if (!s.2&&geS x.1 nm)=true then (s.1++ [(nm,tx)],true) else s)
 else (if (!s.2&&geS x.1 nm)=true then (s.1++ [(nm,tx)]++ [x],true) else (s.1++ [x],s.2))
def zpe (nm tx:ByteArray) (ps:List Pr):List Pr×Bool:=ps.foldl (zbx nm tx) ([],false)
def zbj (ps:List Pr) (nm tx:ByteArray):List Pr:=if (zpe nm tx ps).2=true then (zpe nm tx ps).1 else (zpe nm tx ps).1++ [(nm,tx)]
theorem yev (nm tx:ByteArray) (T:List Pr) (i:Nat) (h:i<T.length):zpe nm tx (T.take (i+1))=zbx nm tx (zpe nm tx (T.take i)) (T.getD i (bz,bz)):=by
 unfold zpe;rw [Qo h,List.foldl_append];rw [show (T.getD i (bz,bz))=T[i] by rw [Qa,Qd h];rfl];rfl
def zkl (w:World) (ps:List Pr) (e:Ending) (w':World):Prop:=∃v,e= .returned v/\zd2 w' w.heap.size v ps/\Bl w w'
theorem yg2 (a:Option Addr) (b n c:Nat) (T:List Pr) (nm tx:ByteArray) (w:World) (h:za6 w a b n T) (hn:n<=500000):
  Calls prog 150 #[.slice a n c,.string nm,.string tx] w (zkl w (zbj T nm tx)):=by
 have H:Hid (za6 w a b n T):=h;have HL:Hid (T.length=n):=h.len;have HS:Hid (PI w _ _ []):=PI.start w;have HEND:Hid (∀v wr M,PI w v wr M->M=zbj T nm tx->zkl w (zbj T nm tx) (.returned v) wr):=fun v wr M hI hM=>⟨v,rfl,by rw [<-hM];exact hI.own,hI.bel⟩;have HST:Hid (zbj T nm tx=if (zpe nm tx T).2=true then (zpe nm tx T).1 else (zpe nm tx T).1++ [(nm,tx)]):=rfl;generalize zbj T nm tx=G at*;clear h;go_enter func150,ntmps150;go_wp2;go_loopw [7,8,9] (fun v d i wr=>∃(k:Nat) (M:List Pr) (dn:Bool),k<=n/\i= .int .i64 k/\d= .bool dn/\M.length<=2*k/\Hid (zpe nm tx (T.take k)=(M,dn))/\Hid (PI w v wr M)) (fun _ _ i _=>n-(intOf i).toNat)
 case atStart=>exact ⟨0,[],false,by omega,rfl,rfl,by simp,rfl,HS⟩
 case round=>
  obtain ⟨k,M,dn,hk,rfl,rfl,hml,hM,hI⟩:=hrel;clear HS;by_cases hlt:k<n
  ·have HB:Hid (∀W,Bl w W->W.cell? ⟨b,k*2,none⟩=some (.string (T.getD k (bz,bz)).1)/\W.cell? ⟨b,k*2+1,none⟩=some (.string (T.getD k (bz,bz)).2)):=fun W hb=>⟨(H.out.bw hb).c0 k hlt,(H.out.bw hb).c1 k hlt⟩;obtain rfl:=H.out.addr (by omega);have HN:Hid (zpe nm tx (T.take (k+1))=zbx nm tx (M,dn) (T.getD k (bz,bz))):=by unfold Hid;rw [yev nm tx T k (by rw [HL.out];exact hlt),hM.out]
   clear hM HEND HST;generalize T.getD k (bz,bz)=x at*;obtain ⟨xn,xt⟩:=x;dsimp only at HB;have HGE:Hid (geS xn nm=!Op.bytesLess xn.toList nm.toList):=rfl;obtain ⟨c0,c1⟩:=HB.out wr hI.out.bel;cases dn with
   |true=>
    by_cases he:xn=nm
    ·have HI2:Hid _:=hI.out;have HM2:Hid (zpe nm tx (T.take (k+1))=(M,true)):=by unfold Hid;rw [HN.out];unfold zbx;rw [if_pos he];rfl
     have hd:=True.intro;subst he;clear HN hI HB;go_wp2;exact ⟨⟨k+1,_,_,by omega,by go_num,rfl,by omega,HM2,HI2⟩,by simp [intOf];omega⟩
    ·obtain ⟨v2,w2,r2,hI2⟩:=hI.out.next xn xt (by omega);have R2:Hid _:=r2;have HI2:Hid _:=hI2;have HM2:Hid (zpe nm tx (T.take (k+1))=((M++ [(xn,xt)]),true)):=by unfold Hid;rw [HN.out];unfold zbx;rw [if_neg he];rfl
     have hd:=zbz he;clear HN hI HB r2 hI2;go_wp2_with (first|(at_builtin;refine wpList_append_run rfl _ _ 42 rfl rfl rfl R2.out ?_));exact ⟨⟨k+1,_,_,by omega,by go_num,rfl,by simp;omega,HM2,HI2⟩,by simp [intOf];omega⟩
   |false=>
    cases hge:geS xn nm with
    |false=>
     have HG1:Hid (geS xn nm=false):=hge;have hls:Op.bytesLess xn.toList nm.toList=true:=by rw [HGE.out] at hge;simpa using hge
     clear hge;by_cases he:xn=nm
     ·have HI2:Hid _:=hI.out;have HM2:Hid (zpe nm tx (T.take (k+1))=(M,false)):=by unfold Hid;rw [HN.out];unfold zbx;rw [if_pos he];rw [HG1.out];rfl
      have hd:=True.intro;subst he;clear HN hI HB;go_wp2;exact ⟨⟨k+1,_,_,by omega,by go_num,rfl,by omega,HM2,HI2⟩,by simp [intOf];omega⟩
     ·obtain ⟨v2,w2,r2,hI2⟩:=hI.out.next xn xt (by omega);have R2:Hid _:=r2;have HI2:Hid _:=hI2;have HM2:Hid (zpe nm tx (T.take (k+1))=((M++ [(xn,xt)]),false)):=by unfold Hid;rw [HN.out];unfold zbx;rw [if_neg he];rw [HG1.out];rfl
      have hd:=zbz he;clear HN hI HB r2 hI2;go_wp2_with (first|(at_builtin;refine wpList_append_run rfl _ _ 42 rfl rfl rfl R2.out ?_));exact ⟨⟨k+1,_,_,by omega,by go_num,rfl,by simp;omega,HM2,HI2⟩,by simp [intOf];omega⟩
    |true=>
     have HG1:Hid (geS xn nm=true):=hge;have hls:Op.bytesLess xn.toList nm.toList=false:=by rw [HGE.out] at hge;simpa using hge
     clear hge;by_cases he:xn=nm
     ·obtain ⟨v1,w1,r1,hI1⟩:=hI.out.next nm tx (by omega);have R1:Hid _:=r1;obtain ⟨d0,d1⟩:=HB.out w1 hI1.bel;have HI2:Hid _:=hI1;have HM2:Hid (zpe nm tx (T.take (k+1))=((M++ [(nm,tx)]),true)):=by unfold Hid;rw [HN.out];unfold zbx;rw [if_pos he];rw [HG1.out];rfl
      have hd:=True.intro;subst he;clear HN hI HB r1 hI1;go_wp2_with (first|(at_builtin;refine wpList_append_run rfl _ _ 42 rfl rfl rfl R1.out ?_));exact ⟨⟨k+1,_,_,by omega,by go_num,rfl,by simp;omega,HM2,HI2⟩,by simp [intOf];omega⟩
     ·obtain ⟨v1,w1,r1,hI1⟩:=hI.out.next nm tx (by omega);have R1:Hid _:=r1;obtain ⟨d0,d1⟩:=HB.out w1 hI1.bel;obtain ⟨v2,w2,r2,hI2⟩:=hI1.next xn xt (by simp;omega);have R2:Hid _:=r2;have HI2:Hid _:=hI2;have HM2:Hid (zpe nm tx (T.take (k+1))=(((M++ [(nm,tx)])++ [(xn,xt)]),true)):=by unfold Hid;rw [HN.out];unfold zbx;rw [if_neg he];rw [HG1.out];rfl
      have hd:=zbz he;clear HN hI HB r1 r2 hI2 hI1;go_wp2_with (first|(at_builtin;refine wpList_append_run rfl _ _ 42 rfl rfl rfl R1.out ?_)|(at_builtin;refine wpList_append_run rfl _ _ 42 rfl rfl rfl R2.out ?_));exact ⟨⟨k+1,_,_,by omega,by go_num,rfl,by simp;omega,HM2,HI2⟩,by simp [intOf];omega⟩
  ·obtain rfl:k=n:=by omega
   have e1:T.take k=T:=List.take_of_length_le (by rw [HL.out];exact Qc _);rw [e1] at hM;cases dn with
   |true=>
    have HE:Hid (zkl w G (.returned u7) wr):=HEND.out u7 wr M hI.out (by rw [HST.out,hM.out];rfl);clear hM hI e1 HEND HST;go_wp2;go_ret;exact HE.out
   |false=>
    obtain ⟨v',w1,r1,hI2⟩:=hI.out.next nm tx (by omega);have R1:Hid _:=r1;have HE:Hid (zkl w G (.returned v') w1):=HEND.out v' w1 _ hI2 (by rw [HST.out,hM.out];rfl);clear hM hI e1 HEND HST r1 hI2;go_wp2_with (at_builtin;refine wpList_append_run rfl _ _ 42 rfl rfl rfl R1.out ?_);go_ret;exact HE.out
open Kk (Rk rk0 zd7 zju zc6 zea zeb zec za9 zbk encR zdh zbz str_eq)
def Ke.withPairs (k:Ke) (ps:List Pr):Ke:=⟨k.name,⟨k.val.kind,k.val.text,k.val.ia,ps,k.val.rq⟩,k.due⟩
def za7 (ps:List Pr):List ByteArray->List Pr
 |f::x::T=>za7 (zbj ps f x) T
 |_=>ps
def zhl (c:Cm) (ks:List Ke) (k:Ke) (T:List ByteArray):List Ke×List Rp:=match c with
 |13=> (ks,zam (k.val.pj.length:Int))
 |20=>if zeo k.val.pj (zaj T 1) 0<0 then (ks,zbm) else (ks,zax (k.val.pj.getD (zeo k.val.pj (zaj T 1) 0).toNat (bz,bz)).2)
 |14=> (ks,zb5 (zco k.val.pj))
 |31=>za1 ks (k.withPairs (k.val.pj.filter fun p=>!(T.tail.contains p.1))) (zam ((k.val.pj.length:Int)-((k.val.pj.filter fun p=>!(T.tail.contains p.1)).length:Int)))
 |_=>za1 ks (k.withPairs (za7 k.val.pj T.tail)) (zam (((za7 k.val.pj T.tail).length:Int)-(k.val.pj.length:Int)))
theorem zv3 (T:List Pr) (nm:ByteArray) (h:¬zeo T nm 0<0):∃k:Nat,zeo T nm 0=(k:Int)/\k<T.length:=by
 by_cases hex:∃k,k<T.length/\(T.getD k (bz,bz)).1=nm
 ·have:∃k,(k<T.length/\(T.getD k (bz,bz)).1=nm)/\∀j,j<k->(T.getD j (bz,bz)).1≠nm:=by
   obtain ⟨k,hk,he⟩:=hex;induction k using Nat.strongRecOn with
   |_ k ih=>
    by_cases h2:∃j,j<k/\(T.getD j (bz,bz)).1=nm
    ·obtain ⟨j,hj,hje⟩:=h2;exact ih j hj (by omega) hje
    ·exact ⟨k,⟨hk,he⟩,fun j hj e=>h2 ⟨j,hj,e⟩⟩
  obtain ⟨k,⟨hk,he⟩,hn⟩:=this;exact ⟨k,by rw [zkt T nm k 0 hk hn he];simp,hk⟩
 ·exfalso;rw [ziv T nm 0 (fun j hj e=>hex ⟨j,hj,e⟩)] at h;exact h (by omega)
section
variable (B B':Nat) (v:Value) (L:List KV) (x:KV) (aa:Option Addr) (ab ao ac:Nat) (T:List ByteArray) (w:World)
theorem zzk (h:zaw w B v L) (hx:VOwn w B' x.key.val x.vi x.vp x.vr) (hxs:zf8 x.key) (ha:zdg w aa ab ao 1 T) (hT:∀i,i<1->(zaj T i).size<=200) (hB:B<=w.heap.size):
  Calls prog 106 #[v,kvV x,.string ⟨#[72,76,69,78]⟩,.slice aa 1 ac] w (zbd w B (zhl .HLEN (L.map KV.key) x.key T)):=by
 obtain ⟨p1,d1,e1⟩:=zad hx.ia;obtain ⟨p2,P2,d2,e2,i2⟩:=zdn hx.pj;obtain ⟨p3,d3,e3⟩:=zad hx.rq;obtain ⟨⟨xn,xv,xd⟩,vi,vp,vr⟩:=x;dsimp only at e1 e2 e3 hxs i2;subst e1 e2 e3;have hnp:xv.pj.length<=20:=hxs.np;obtain ⟨W0,hW0,HW0,b0,r0⟩:=boxed w (kC xn xv.kind xv.text (.slice p1 xv.ia.length d1) (.slice p2 xv.pj.length d2) (.slice p3 xv.rq.length d3) xd) 47;have ES:=zeg h hB b0;have c0:=ha.cell 0 (by omega);rw [<-b0.cell (p:=⟨ab,ao+0,none⟩) (ha.low (by omega))] at c0;have s0:=hT 0 (by omega);have hlow:ab<w.heap.size:=ha.low (by omega);obtain rfl:=ha.addr (by omega);rw [Qy] at c0;change W0.cell? _=some (.string (zaj T 0)) at c0;have HIN:=hIN;obtain ⟨y0,y1,y2,y3,y4,y5,y6⟩:=zdo r0;show Calls prog 106 #[v,.agg (kC xn xv.kind xv.text (.slice p1 xv.ia.length d1) (.slice p2 xv.pj.length d2) (.slice p3 xv.rq.length d3) xd),.string ⟨#[72,76,69,78]⟩,.slice (some ⟨ab,ao,none⟩) 1 ac] w (zbd w B (L.map KV.key,zam (xv.pj.length:Int)));clear i2;clear h hx hxs ha hT hW0;generalize L.map KV.key=K0,zaj T 0=t0,xv.ia.length=n1,xv.pj.length=n2,xv.rq.length=n3,xv.text=tx,xv.kind=kd at*;show Calls prog 106 #[v,.agg (kC xn kd tx (.slice p1 n1 d1) (.slice p2 n2 d2) (.slice p3 n3 d3) xd),.string ⟨#[72,76,69,78]⟩,.slice (some ⟨ab,ao,none⟩) 1 ac] w (zbd w B (K0,zam (n2:Int)));go_enter func106,ntmps106;go_upto_region 1 with fail;rw [HW0.out];go_wp2_with fail;refine (HIN.out W0 (n2:Int)).mono ?_;rintro e w1 ⟨r,rfl,hr,hb⟩;have HF:Hid _:=ES.out (zam (n2:Int)) r W0 w1 (Qb _ _) hr hb;clear hr hb ES;go_wp2;go_ret2;exact HF.out
theorem ybz (h:zaw w B v L) (hx:VOwn w B' x.key.val x.vi x.vp x.vr) (hxs:zf8 x.key) (ha:zdg w aa ab ao 2 T) (hT:∀i,i<2->(zaj T i).size<=200) (hB:B<=w.heap.size):
  Calls prog 106 #[v,kvV x,.string ⟨#[72,71,69,84]⟩,.slice aa 2 ac] w (zbd w B (zhl .HGET (L.map KV.key) x.key T)):=by
 obtain ⟨p1,d1,e1⟩:=zad hx.ia;obtain ⟨p2,P2,d2,e2,i2⟩:=zdn hx.pj;obtain ⟨p3,d3,e3⟩:=zad hx.rq;obtain ⟨⟨xn,xv,xd⟩,vi,vp,vr⟩:=x;dsimp only at e1 e2 e3 hxs i2;subst e1 e2 e3;have hnp:xv.pj.length<=20:=hxs.np;obtain ⟨W0,hW0,HW0,b0,r0⟩:=boxed w (kC xn xv.kind xv.text (.slice p1 xv.ia.length d1) (.slice p2 xv.pj.length d2) (.slice p3 xv.rq.length d3) xd) 47;have ES:=zeg h hB b0;have c0:=ha.cell 0 (by omega);rw [<-b0.cell (p:=⟨ab,ao+0,none⟩) (ha.low (by omega))] at c0;have s0:=hT 0 (by omega);have c1:=ha.cell 1 (by omega);rw [<-b0.cell (p:=⟨ab,ao+1,none⟩) (ha.low (by omega))] at c1;have s1:=hT 1 (by omega);have hlow:ab<w.heap.size:=ha.low (by omega);obtain rfl:=ha.addr (by omega);rw [Qy] at c0;change W0.cell? _=some (.string (zaj T 0)) at c0;change W0.cell? _=some (.string (zaj T 1)) at c1;have HN:=hNL;have HBk:=hBK;have cP:∀q,Calls prog 149 #[.slice p2 xv.pj.length d2,.string (zaj T 1)] (W0.drewN q) fun e w'=>e= .returned (.int .i64 (zeo xv.pj (zaj T 1) 0))/\w'=W0.drewN q:=fun q=>yco p2 P2 xv.pj.length d2 xv.pj (zaj T 1) _ (i2.bw (b0.trans ((below_drewN (Qb _ W0) q).mono b0.size))) (by omega);obtain ⟨y0,y1,y2,y3,y4,y5,y6⟩:=zdo r0;show Calls prog 106 #[v,.agg (kC xn xv.kind xv.text (.slice p1 xv.ia.length d1) (.slice p2 xv.pj.length d2) (.slice p3 xv.rq.length d3) xd),.string ⟨#[72,71,69,84]⟩,.slice (some ⟨ab,ao,none⟩) 2 ac] w (zbd w B (if zeo xv.pj (zaj T 1) 0<0 then (L.map KV.key,zbm) else (L.map KV.key,zax (xv.pj.getD (zeo xv.pj (zaj T 1) 0).toNat (bz,bz)).2)));by_cases hp:zeo xv.pj (zaj T 1) 0<0
 ·rw [if_pos hp];clear i2;clear h hx hxs ha hT hW0;generalize L.map KV.key=K0,zeo xv.pj (zaj T 1) 0=pz at*;have hpd:decide (pz<0)=true:=Qe hp;generalize zaj T 0=t0,zaj T 1=t1,xv.ia.length=n1,xv.pj.length=n2,xv.rq.length=n3,xv.text=tx,xv.kind=kd at*;show Calls prog 106 #[v,.agg (kC xn kd tx (.slice p1 n1 d1) (.slice p2 n2 d2) (.slice p3 n3 d3) xd),.string ⟨#[72,71,69,84]⟩,.slice (some ⟨ab,ao,none⟩) 2 ac] w (zbd w B (K0,zbm));go_enter func106,ntmps106;go_upto_region 1 with fail;rw [HW0.out];go_wp2_with fail;go_quiet ((exact Calls.quiet_of_same (cP _)));go_wp2_with fail;refine (HN.out _).mono ?_;rintro e w1 ⟨r,rfl,hr,hb⟩;have HF:Hid _:=ES.out zbm r (W0.drewN nq) w1 (below_drewN (Qb _ W0) nq) hr hb;clear hr hb ES;go_wp2;go_ret2;exact HF.out
 ·rw [if_neg hp];obtain ⟨k,hk,hkl⟩:=zv3 xv.pj (zaj T 1) hp;rw [hk] at cP ⊢;rw [Int.toNat_natCast];have hPl:P2<w.heap.size:=i2.low (by omega);have q1:=i2.c1 k hkl;rw [<-b0.cell (p:=⟨P2,k*2+1,none⟩) hPl] at q1;obtain rfl:=i2.addr (by omega);clear i2 hp hk;clear h hx hxs ha hT hW0;generalize L.map KV.key=K0,(xv.pj.getD k (bz,bz)).2=tv,zaj T 0=t0,zaj T 1=t1,xv.ia.length=n1,xv.pj.length=n2,xv.rq.length=n3,xv.text=tx,xv.kind=kd at*;have hk0:(0:Int)<=(k:Int):=by omega
  have hkn:(k:Int)<(n2:Int):=by omega
  have hpd:decide ((k:Int)<0)=false:=Qf (by omega);show Calls prog 106 #[v,.agg (kC xn kd tx (.slice p1 n1 d1) (.slice (some ⟨P2,0,none⟩) n2 d2) (.slice p3 n3 d3) xd),.string ⟨#[72,71,69,84]⟩,.slice (some ⟨ab,ao,none⟩) 2 ac] w (zbd w B (K0,zax tv));go_enter func106,ntmps106;go_upto_region 1 with fail;rw [HW0.out];go_wp2_with fail;go_quiet ((exact Calls.quiet_of_same (cP _)));go_wp2_with fail;refine (HBk.out _ tv).mono ?_;rintro e w1 ⟨r,rfl,hr,hb⟩;have HF:Hid _:=ES.out (zax tv) r (W0.drewN nq) w1 (below_drewN (Qb _ W0) nq) hr hb;clear hr hb ES;go_wp2;go_ret2;exact HF.out
end
theorem zmo.next2 {T:List ByteArray} (h:zmo w v wr T) (t u:ByteArray) (hn:T.length<=1000):
  ∃v' w1,(Builtin.append_ #[25,25] 25 #[v,.slice (some ⟨wr.heap.size,0,none⟩) 2 2]).run prog ((wr.alloc (.cells #[.string t,.string u] 9)).drew)= .ok v' w1/\zmo w v' w1 (T++ [t,u]):=by
 obtain ⟨i0,hi,hz0,hz1,hz2⟩:=info_parts zmw;have hB:w.heap.size<=wr.heap.size:=h.bel.size;have oD:zcx wr.drew w.heap.size v T:=h.own;have hbl:Below wr.drew.heap.size wr.drew (wr.drew.alloc (.cells #[.string t,.string u] 9)):=(Qb _ wr.drew).alloc (Qc _) _;have oA:=zaf oD hbl
 obtain ⟨v',w',hrun,hown,hg,_,hblk⟩:=run_append_own_at (P:=prog) (wr.drew.alloc (.cells #[.string t,.string u] 9)) w.heap.size 25 25 9 i0 _ 1 16 underlying25 hi hz0 hz1 hz2 rfl (by decide) v T.length (zdw T) oA ⟨wr.drew.heap.size,0,none⟩ 2 2 [.string t,.string u] rfl (fun j u hj=>by
  rw [Addr.add_lit,Qq];exact ((zab.new wr.drew 9 _).cell j).trans (by simpa using hj)) (fun u hu=>by simp at hu;rcases hu with rfl|rfl<;>rfl) (by unfold maxLen;omega) (by omega) (Qj hB hbl.size)
 have bd:Bl w wr.drew:=h.bel.trans ((below_drewN (Qb _ wr) 1).mono hB);refine ⟨v',w',hrun,?_,?_⟩
 ·have e:zdw (T++ [t,u])=zdw T++ [.string t,.string u]:=by unfold zdw;rw [List.map_append];rfl
  unfold zcx;rw [Qi,e];exact hown
 ·exact bd.trans (zdd (Qb _ wr.drew) hB oD hg)
theorem zqr (B B':Nat) (v:Value) (L:List KV) (x:KV) (aa:Option Addr) (ab ao ac:Nat) (T:List ByteArray) (w:World) (h:zaw w B v L) (hx:VOwn w B' x.key.val x.vi x.vp x.vr) (hxs:zf8 x.key) (ha:zdg w aa ab ao 1 T) (hT:∀i,i<1->(zaj T i).size<=200) (hB:B<=w.heap.size):
  Calls prog 106 #[v,kvV x,.string ⟨#[72,71,69,84,65,76,76]⟩,.slice aa 1 ac] w (zbd w B (zhl .HGETALL (L.map KV.key) x.key T)):=by
 obtain ⟨p1,d1,e1⟩:=zad hx.ia;obtain ⟨p2,P2,d2,e2,i2⟩:=zdn hx.pj;obtain ⟨p3,d3,e3⟩:=zad hx.rq;obtain ⟨⟨xn,xv,xd⟩,vi,vp,vr⟩:=x;dsimp only at e1 e2 e3 hxs i2;subst e1 e2 e3;have hnp:xv.pj.length<=20:=hxs.np;obtain ⟨W0,hW0,HW0,b0,r0⟩:=boxed w (kC xn xv.kind xv.text (.slice p1 xv.ia.length d1) (.slice p2 xv.pj.length d2) (.slice p3 xv.rq.length d3) xd) 47;have ES:=zeg h hB b0;have c0:=ha.cell 0 (by omega);rw [<-b0.cell (p:=⟨ab,ao+0,none⟩) (ha.low (by omega))] at c0;have s0:=hT 0 (by omega);have hlow:ab<w.heap.size:=ha.low (by omega);obtain rfl:=ha.addr (by omega);rw [Qy] at c0;change W0.cell? _=some (.string (zaj T 0)) at c0;have HP:Hid (za6 w p2 P2 xv.pj.length xv.pj):=i2;obtain ⟨y0,y1,y2,y3,y4,y5,y6⟩:=zdo r0;have HY:Hid (zab W0 w.heap.size 47 (kC xn xv.kind xv.text (.slice p1 xv.ia.length d1) (.slice p2 xv.pj.length d2) (.slice p3 xv.rq.length d3) xd)):=r0;have HS:Hid (zmo W0 _ _ (zco (xv.pj.take 0))):=zmo.start W0;have HT:Hid (∀k,k<xv.pj.length->zco (xv.pj.take k)++ [(xv.pj.getD k (bz,bz)).1,(xv.pj.getD k (bz,bz)).2]=zco (xv.pj.take (k+1))):=fun k hk=> (znc _ k hk).symm;have HZ:Hid (xv.pj.take xv.pj.length=xv.pj):=List.take_length;have HLn:Hid (∀k,k<=xv.pj.length->(zco (xv.pj.take k)).length<=1000):=fun k hk=>by rw [zed,Qn];omega
 have HE:Hid (∀v' wr,zmo W0 v' wr (zco xv.pj)->Cp 142 #[v'] wr fun e w2=>∃r,e= .returned r/\zbd w B (L.map KV.key,zb5 (zco xv.pj)) (.returned (.tuple #[v,r])) w2):=fun v' wr hI=>by
  obtain ⟨a',A',c',e',hs,_⟩:=zc0 hI.own (fun t ht=>by
   have h1:=hxs.pj;simp only [zco,List.mem_flatMap] at ht;obtain ⟨p,hp,ht⟩:=ht;have:=h1 p hp;simp at ht;rcases ht with rfl|rfl<;>omega)
  subst e';refine (zgn a' A' 0 _ c' _ wr hs (by rw [zed];omega)).mono ?_;rintro e w2 ⟨r,rfl,hr,hb⟩;exact ⟨r,rfl,zbd.same h hB (b0.trans (hI.bel.mono b0.size)) hr hb⟩
 show Calls prog 106 #[v,.agg (kC xn xv.kind xv.text (.slice p1 xv.ia.length d1) (.slice p2 xv.pj.length d2) (.slice p3 xv.rq.length d3) xd),.string ⟨#[72,71,69,84,65,76,76]⟩,.slice (some ⟨ab,ao,none⟩) 1 ac] w (zbd w B (L.map KV.key,zb5 (zco xv.pj)));clear i2;clear h hx hxs ha hT hW0;generalize (L.map KV.key,zb5 (zco xv.pj))=PP,zaj T 0=t0 at*;clear r0;generalize xv.pj.length=n2,xv.ia.length=n1,xv.rq.length=n3,xv.text=tx,xv.kind=kd at*;go_enter func106,ntmps106;go_upto_region 1 with fail;rw [HW0.out];go_wp2_with fail;clear y0 y1 y2 y3 y4 y5 y6;go_loopw [12,13] (fun v i wr=>∃k:Nat,k<=n2/\i= .int .i64 k/\Hid (zmo W0 v wr (zco (xv.pj.take k)))) (fun _ i _=>n2-(intOf i).toNat)
 case atStart=>exact ⟨0,by omega,rfl,HS⟩
 case round=>
  obtain ⟨k,hk,rfl,hI⟩:=hrel;clear HS;have hYr:zab wr w.heap.size 47 (kC xn kd tx (.slice p1 n1 d1) (.slice p2 n2 d2) (.slice p3 n3 d3) xd):=zab.bw HY.out hI.out.bel (zab.lt HY.out);obtain ⟨y0,y1,y2,y3,y4,y5,y6⟩:=zdo hYr;clear hYr;by_cases hlt:k<n2
  ·have bw:Bl w wr:=b0.trans (hI.out.bel.mono b0.size);have q0:=(HP.out.bw bw).c0 k hlt;have q1:=(HP.out.bw bw).c1 k hlt;obtain rfl:=HP.out.addr (by omega);obtain ⟨v',w1,hrun,hI2⟩:=hI.out.next2 (xv.pj.getD k (bz,bz)).1 (xv.pj.getD k (bz,bz)).2 (HLn.out k hk);rw [HT.out k hlt] at hI2;have HI2:Hid _:=hI2;clear hI2 hI HE HT HZ HLn HP HY ES;generalize (xv.pj.getD k (bz,bz)).1=xa,(xv.pj.getD k (bz,bz)).2=xb at*;go_wp2_with fail
   go_region_law (first
    |refine zba rfl (.tmp 62) (.tmp 77) 25 rfl (by simp [Act.eval]) (by simp [Act.eval]) hrun ?_)
   all_goals
    go_wp2;go_roundw
    case rel=>exact ⟨k+1,by omega,by go_num,HI2⟩
    case measure=>simp [intOf];omega
  ·obtain rfl:k=n2:=by omega
   rw [HZ.out] at hI;have HC:Hid (Cp 142 #[u12] wr fun e w2=>∃r,e= .returned r/\zbd w B PP (.returned (.tuple #[v,r])) w2):=HE.out _ wr hI.out;clear HE HT HZ HLn hI HP HY ES;go_wp2_with fail;refine HC.out.mono ?_;rintro e w2 ⟨r,rfl,hq⟩;have HQ:Hid _:=hq;clear hq HC;go_wp2;go_ret2;exact HQ.out
end Go.Proofs.YtokafonppgppdaaGreatDoor
