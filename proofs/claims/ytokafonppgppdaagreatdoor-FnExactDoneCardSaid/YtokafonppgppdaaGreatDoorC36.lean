import Derived.Test.YtokafonppgppdaaGreatDoorC27
set_option maxHeartbeats 8000000
set_option maxRecDepth 100000
namespace Go.Proofs.YtokafonppgppdaaGreatDoor
section
open Tryz
open Go.RowKit Go.Sort
open Kk (Le str_eq)
variable {w wr:World} {M:List Pr} {v:Value}
theorem zqm{B:Nat}{V:Value}(p:Pr)(h:G3 w B V M)(hn:M.length<=1048577)(hB:B<=w.heap.size):
  ∃v' w',(Builtin.append_ #[42,42] 42 #[V,.slice (some ⟨w.heap.size,0,none⟩) 1 1]).run prog (w.alloc (.cells #[.string p.1,.string p.2] 145))=.ok v' w'/\G3 w' B v' (M++ [p])/\Below B w w'/\w.grownBy w' V.ownBlock:=by
 obtain⟨i0,hi,Gg,Gf,Gc⟩:=info_parts Ub;have Ge:Bl w (w.alloc (.cells #[.string p.1,.string p.2] 145)):=(Qb _ w).alloc (Qc _) _;have oA:=Fw h Ge
 obtain⟨v',w',Gb,Ga,hg,_,Gd⟩:=run_append_own_at (P:=prog) (w.alloc (.cells #[.string p.1,.string p.2] 145)) B 42 42 145 i0 _ 2 32 underlying42 hi Gg Gf Gc rfl (by decide) V M.length (Fn M) oA ⟨w.heap.size,0,none⟩ 1 1 [.string p.1,.string p.2] rfl (fun j u hj=>by
  rw[Addr.add_lit,Qq];exact((Fc.new w 145 #[.string p.1,.string p.2]).cell j).trans (by simpa using hj)) (fun u hu=>by simp at hu;rcases hu with rfl|rfl<;>rfl) (by unfold maxLen;omega) (by omega) (by simp;omega)
 refine⟨v',w',Gb,?_,R4 (Qb _ w) hB h hg,?_⟩
 ·have e:Fn (M++ [p])=Fn M++ [.string p.1,.string p.2]:=by unfold Fn;rw[List.flatMap_append];rfl
  unfold G3;rw[Qi,e];exact Ga
 ·have hs:(w.alloc (.cells #[.string p.1,.string p.2] 145)).heap.size=w.heap.size+1:=by simp
  have h2:=hg.size;exact⟨hg.os,hg.tape,hg.output,by omega,fun k hk hr=>(hg.block k (by omega) hr).trans (Below.heap_alloc _ _ _ (by omega))⟩
structure PI (w:World) (v:Value) (wr:World) (M:List Pr):Prop where
 own:G3 wr w.heap.size v M
 bel:Bl w wr
theorem PI.start(w:World):PI w (.slice (some ⟨w.heap.size,0,none⟩) 0 0) (w.alloc (.cells #[] 145)) []:=
 ⟨Ui (Fc.new w 145 #[]) (Qc _),(Qb _ w).alloc (Qc _) _⟩
theorem PI.next(h:PI w v wr M)(x y:ByteArray)(hn:M.length<=1048577):
  ∃v' w1,(Builtin.append_ #[42,42] 42 #[v,.slice (some ⟨wr.heap.size,0,none⟩) 1 1]).run prog (wr.alloc (.cells #[.string x,.string y] 145))=.ok v' w1/\PI w v' w1 (M++ [(x,y)]):=by
 obtain⟨v',w1,r1,o1,b1,_⟩:=zqm (x,y) h.own hn h.bel.size;exact⟨v',w1,r1,o1,h.bel.trans b1⟩
def geS (x nm:ByteArray):Bool:=!Op.bytesLess x.toList nm.toList
def L8 (nm tx:ByteArray) (s:List Pr×Bool) (x:Pr):List Pr×Bool:=
 if x.1=nm then (if (!s.2&&geS x.1 nm)=true then (s.1++ [(nm,tx)],true) else s)
 else (if (!s.2&&geS x.1 nm)=true then (s.1++ [(nm,tx)]++ [x],true) else (s.1++ [x],s.2))
def Nz (nm tx:ByteArray) (ps:List Pr):List Pr×Bool:=ps.foldl (L8 nm tx) ([],false)
def Mx (ps:List Pr) (nm tx:ByteArray):List Pr:=if (Nz nm tx ps).2=true then (Nz nm tx ps).1 else (Nz nm tx ps).1++ [(nm,tx)]
theorem yev(nm tx:ByteArray)(T:List Pr)(i:Nat)(h:i<T.length):Nz nm tx (T.take (i+1))=L8 nm tx (Nz nm tx (T.take i)) (T.getD i (bz,bz)):=by
 unfold Nz;rw[Qo h,List.foldl_append];rw[show(T.getD i (bz,bz))=T[i] by rw[Qa,Qd h];rfl];rfl
def C7 (w:World) (ps:List Pr) (e:Ending) (w':World):Prop:=∃v,e= .returned v/\G3 w' w.heap.size v ps/\Bl w w'
theorem yg2(a:Option Addr)(b n c:Nat)(T:List Pr)(nm tx:ByteArray)(w:World)(h:Li w a b n T)(hn:n<=500000):
  Calls prog 150 #[.slice a n c,.string nm,.string tx] w (C7 w (Mx T nm tx)):=by
 have H:Hid (Li w a b n T):=h;have HL:Hid (T.length=n):=h.len;have HS:Hid (PI w _ _ []):=PI.start w;have Gc:Hid (∀v wr M,PI w v wr M->M=Mx T nm tx->C7 w (Mx T nm tx) (.returned v) wr):=fun v wr M hI hM=>⟨v,rfl,by rw[<-hM];exact hI.own,hI.bel⟩;have Gg:Hid (Mx T nm tx=if(Nz nm tx T).2=true then(Nz nm tx T).1 else(Nz nm tx T).1++ [(nm,tx)]):=rfl;generalize Mx T nm tx=G at*;clear h;go_enter func150,ntmps150;go_wp2;go_loopw [7,8,9] (fun v d i wr=>∃(k:Nat) (M:List Pr) (dn:Bool),k<=n/\i=.int .i64 k/\d=.bool dn/\M.length<=2*k/\Hid (Nz nm tx (T.take k)=(M,dn))/\Hid (PI w v wr M)) (fun _ _ i _=>n-(intOf i).toNat)
 case atStart=>exact⟨0,[],false,by omega,rfl,rfl,by simp,rfl,HS⟩
 case round=>
  obtain⟨k,M,dn,hk,rfl,rfl,Gj,hM,hI⟩:=hrel;clear HS;by_cases hlt:k<n
  ·have HB:Hid (∀W,Bl w W->W.cell? ⟨b,k*2,none⟩=some (.string (T.getD k (bz,bz)).1)/\W.cell? ⟨b,k*2+1,none⟩=some (.string (T.getD k (bz,bz)).2)):=fun W hb=>⟨(H.out.bw hb).c0 k hlt,(H.out.bw hb).c1 k hlt⟩;obtain rfl:=H.out.addr (by omega);have HN:Hid (Nz nm tx (T.take (k+1))=L8 nm tx (M,dn) (T.getD k (bz,bz))):=by unfold Hid;rw[yev nm tx T k (by rw[HL.out];exact hlt),hM.out]
   clear hM Gc Gg;generalize T.getD k (bz,bz)=x at*;obtain⟨xn,xt⟩:=x;dsimp only at HB;have Gh:Hid (geS xn nm=!Op.bytesLess xn.toList nm.toList):=rfl;obtain⟨c0,c1⟩:=HB.out wr hI.out.bel;cases dn with
   |true=>
    by_cases he:xn=nm
    ·have Gd:Hid _:=hI.out;have Ga:Hid (Nz nm tx (T.take (k+1))=(M,true)):=by unfold Hid;rw[HN.out];unfold L8;rw[if_pos he];rfl
     have hd:=True.intro;subst he;clear HN hI HB;go_wp2;exact⟨⟨k+1,_,_,by omega,by go_num,rfl,by omega,Ga,Gd⟩,by simp[intOf];omega⟩
    ·obtain⟨v2,w2,r2,Gb⟩:=hI.out.next xn xt (by omega);have R2:Hid _:=r2;have Gd:Hid _:=Gb;have Ga:Hid (Nz nm tx (T.take (k+1))=((M++ [(xn,xt)]),true)):=by unfold Hid;rw[HN.out];unfold L8;rw[if_neg he];rfl
     have hd:=Le he;clear HN hI HB r2 Gb;go_wp2_with (first|(at_builtin;refine wpList_append_run rfl _ _ 42 rfl rfl rfl R2.out ?_));exact⟨⟨k+1,_,_,by omega,by go_num,rfl,by simp;omega,Ga,Gd⟩,by simp[intOf];omega⟩
   |false=>
    cases hge:geS xn nm with
    |false=>
     have Gf:Hid (geS xn nm=false):=hge;have Gi:Op.bytesLess xn.toList nm.toList=true:=by rw[Gh.out]at hge;simpa using hge
     clear hge;by_cases he:xn=nm
     ·have Gd:Hid _:=hI.out;have Ga:Hid (Nz nm tx (T.take (k+1))=(M,false)):=by unfold Hid;rw[HN.out];unfold L8;rw[if_pos he];rw[Gf.out];rfl
      have hd:=True.intro;subst he;clear HN hI HB;go_wp2;exact⟨⟨k+1,_,_,by omega,by go_num,rfl,by omega,Ga,Gd⟩,by simp[intOf];omega⟩
     ·obtain⟨v2,w2,r2,Gb⟩:=hI.out.next xn xt (by omega);have R2:Hid _:=r2;have Gd:Hid _:=Gb;have Ga:Hid (Nz nm tx (T.take (k+1))=((M++ [(xn,xt)]),false)):=by unfold Hid;rw[HN.out];unfold L8;rw[if_neg he];rw[Gf.out];rfl
      have hd:=Le he;clear HN hI HB r2 Gb;go_wp2_with (first|(at_builtin;refine wpList_append_run rfl _ _ 42 rfl rfl rfl R2.out ?_));exact⟨⟨k+1,_,_,by omega,by go_num,rfl,by simp;omega,Ga,Gd⟩,by simp[intOf];omega⟩
    |true=>
     have Gf:Hid (geS xn nm=true):=hge;have Gi:Op.bytesLess xn.toList nm.toList=false:=by rw[Gh.out]at hge;simpa using hge
     clear hge;by_cases he:xn=nm
     ·obtain⟨v1,w1,r1,Ge⟩:=hI.out.next nm tx (by omega);have R1:Hid _:=r1;obtain⟨d0,d1⟩:=HB.out w1 Ge.bel;have Gd:Hid _:=Ge;have Ga:Hid (Nz nm tx (T.take (k+1))=((M++ [(nm,tx)]),true)):=by unfold Hid;rw[HN.out];unfold L8;rw[if_pos he];rw[Gf.out];rfl
      have hd:=True.intro;subst he;clear HN hI HB r1 Ge;go_wp2_with (first|(at_builtin;refine wpList_append_run rfl _ _ 42 rfl rfl rfl R1.out ?_));exact⟨⟨k+1,_,_,by omega,by go_num,rfl,by simp;omega,Ga,Gd⟩,by simp[intOf];omega⟩
     ·obtain⟨v1,w1,r1,Ge⟩:=hI.out.next nm tx (by omega);have R1:Hid _:=r1;obtain⟨d0,d1⟩:=HB.out w1 Ge.bel;obtain⟨v2,w2,r2,Gb⟩:=Ge.next xn xt (by simp;omega);have R2:Hid _:=r2;have Gd:Hid _:=Gb;have Ga:Hid (Nz nm tx (T.take (k+1))=(((M++ [(nm,tx)])++ [(xn,xt)]),true)):=by unfold Hid;rw[HN.out];unfold L8;rw[if_neg he];rw[Gf.out];rfl
      have hd:=Le he;clear HN hI HB r1 r2 Gb Ge;go_wp2_with (first|(at_builtin;refine wpList_append_run rfl _ _ 42 rfl rfl rfl R1.out ?_)|(at_builtin;refine wpList_append_run rfl _ _ 42 rfl rfl rfl R2.out ?_));exact⟨⟨k+1,_,_,by omega,by go_num,rfl,by simp;omega,Ga,Gd⟩,by simp[intOf];omega⟩
  ·obtain rfl:k=n:=by omega
   have e1:T.take k=T:=List.take_of_length_le (by rw[HL.out];exact Qc _);rw[e1]at hM;cases dn with
   |true=>
    have HE:Hid (C7 w G (.returned u7) wr):=Gc.out u7 wr M hI.out (by rw[Gg.out,hM.out];rfl);clear hM hI e1 Gc Gg;go_wp2;go_ret;exact HE.out
   |false=>
    obtain⟨v',w1,r1,Gb⟩:=hI.out.next nm tx (by omega);have R1:Hid _:=r1;have HE:Hid (C7 w G (.returned v') w1):=Gc.out v' w1 _ Gb (by rw[Gg.out,hM.out];rfl);clear hM hI e1 Gc Gg r1 Gb;go_wp2_with (at_builtin;refine wpList_append_run rfl _ _ 42 rfl rfl rfl R1.out ?_);go_ret;exact HE.out
open Kk (Rk rk0 G8 Mp F1 L7 Hv G9 Fo G6 encR F7 Le str_eq)
def Ke.withPairs (k:Ke) (ps:List Pr):Ke:=⟨k.name,⟨k.val.kind,k.val.text,k.val.ia,ps,k.val.rq⟩,k.due⟩
def Hm (ps:List Pr):List ByteArray->List Pr
 |f::x::T=>Hm (Mx ps f x) T
 |_=>ps
def Om (c:Cm) (ks:List Ke) (k:Ke) (T:List ByteArray):List Ke×List Rp:=match c with
 |13=> (ks,Fe (k.val.pj.length:Int))
 |20=>if Mc k.val.pj (Fa T 1) 0<0 then (ks,G7) else (ks,Fy (k.val.pj.getD (Mc k.val.pj (Fa T 1) 0).toNat (bz,bz)).2)
 |14=> (ks,He (Hj k.val.pj))
 |31=>Fj ks (k.withPairs (k.val.pj.filter fun p=>!(T.tail.contains p.1))) (Fe ((k.val.pj.length:Int)-((k.val.pj.filter fun p=>!(T.tail.contains p.1)).length:Int)))
 |_=>Fj ks (k.withPairs (Hm k.val.pj T.tail)) (Fe (((Hm k.val.pj T.tail).length:Int)-(k.val.pj.length:Int)))
theorem zv3(T:List Pr)(nm:ByteArray)(h:¬Mc T nm 0<0):∃k:Nat,Mc T nm 0=(k:Int)/\k<T.length:=by
 by_cases hex:∃k,k<T.length/\(T.getD k (bz,bz)).1=nm
 ·have:∃k,(k<T.length/\(T.getD k (bz,bz)).1=nm)/\∀j,j<k->(T.getD j (bz,bz)).1≠nm:=by
   obtain⟨k,hk,he⟩:=hex;induction k using Nat.strongRecOn with
   |_ k ih=>
    by_cases h2:∃j,j<k/\(T.getD j (bz,bz)).1=nm
    ·obtain⟨j,hj,Ga⟩:=h2;exact ih j hj (by omega) Ga
    ·exact⟨k,⟨hk,he⟩,fun j hj e=>h2 ⟨j,hj,e⟩⟩
  obtain⟨k,⟨hk,he⟩,hn⟩:=this;exact⟨k,by rw[Dy T nm k 0 hk hn he];simp,hk⟩
 ·exfalso;rw[Eo T nm 0 (fun j hj e=>hex ⟨j,hj,e⟩)]at h;exact h (by omega)
section
variable (B B':Nat) (v:Value) (L:List KV) (x:KV) (aa:Option Addr) (ab ao ac:Nat) (T:List ByteArray) (w:World)
theorem zzk(h:Fv w B v L)(hx:VOwn w B' x.key.val x.vi x.vp x.vr)(hxs:Hu x.key)(ha:Fs w aa ab ao 1 T)(hT:∀i,i<1->(Fa T i).size<=200)(hB:B<=w.heap.size):
  Calls prog 106 #[v,kvV x,.string ⟨#[72,76,69,78]⟩,.slice aa 1 ac] w (Fh w B (Om .HLEN (L.map KV.key) x.key T)):=by
 obtain⟨p1,d1,e1⟩:=Fx hx.ia;obtain⟨p2,P2,d2,e2,i2⟩:=Ox hx.pj;obtain⟨p3,d3,e3⟩:=Fx hx.rq;obtain⟨⟨xn,xv,xd⟩,vi,vp,vr⟩:=x;dsimp only at e1 e2 e3 hxs i2;subst e1 e2 e3;have Ge:xv.pj.length<=20:=hxs.np;obtain⟨W0,Gd,Gc,b0,r0⟩:=boxed w (kC xn xv.kind xv.text (.slice p1 xv.ia.length d1) (.slice p2 xv.pj.length d2) (.slice p3 xv.rq.length d3) xd) 47;have ES:=L4 h hB b0;have c0:=ha.cell 0 (by omega);rw[<-b0.cell (p:=⟨ab,ao+0,none⟩) (ha.low (by omega))]at c0;have s0:=hT 0 (by omega);have Gb:ab<w.heap.size:=ha.low (by omega);obtain rfl:=ha.addr (by omega);rw[Qy]at c0;change W0.cell? _=some (.string (Fa T 0))at c0;have Ga:=hIN;obtain⟨y0,y1,y2,y3,y4,y5,y6⟩:=F6 r0;show Calls prog 106 #[v,.agg (kC xn xv.kind xv.text (.slice p1 xv.ia.length d1) (.slice p2 xv.pj.length d2) (.slice p3 xv.rq.length d3) xd),.string ⟨#[72,76,69,78]⟩,.slice (some ⟨ab,ao,none⟩) 1 ac] w (Fh w B (L.map KV.key,Fe (xv.pj.length:Int)));clear i2;clear h hx hxs ha hT Gd;generalize L.map KV.key=K0,Fa T 0=t0,xv.ia.length=n1,xv.pj.length=n2,xv.rq.length=n3,xv.text=tx,xv.kind=kd at*;show Calls prog 106 #[v,.agg (kC xn kd tx (.slice p1 n1 d1) (.slice p2 n2 d2) (.slice p3 n3 d3) xd),.string ⟨#[72,76,69,78]⟩,.slice (some ⟨ab,ao,none⟩) 1 ac] w (Fh w B (K0,Fe (n2:Int)));go_enter func106,ntmps106;go_upto_region 1 with fail;rw[Gc.out];go_wp2_with fail;refine(Ga.out W0 (n2:Int)).mono ?_;rintro e w1⟨r,rfl,hr,hb⟩;have HF:Hid _:=ES.out (Fe (n2:Int)) r W0 w1 (Qb _ _) hr hb;clear hr hb ES;go_wp2;go_ret2;exact HF.out
theorem ybz(h:Fv w B v L)(hx:VOwn w B' x.key.val x.vi x.vp x.vr)(hxs:Hu x.key)(ha:Fs w aa ab ao 2 T)(hT:∀i,i<2->(Fa T i).size<=200)(hB:B<=w.heap.size):
  Calls prog 106 #[v,kvV x,.string ⟨#[72,71,69,84]⟩,.slice aa 2 ac] w (Fh w B (Om .HGET (L.map KV.key) x.key T)):=by
 obtain⟨p1,d1,e1⟩:=Fx hx.ia;obtain⟨p2,P2,d2,e2,i2⟩:=Ox hx.pj;obtain⟨p3,d3,e3⟩:=Fx hx.rq;obtain⟨⟨xn,xv,xd⟩,vi,vp,vr⟩:=x;dsimp only at e1 e2 e3 hxs i2;subst e1 e2 e3;have Gh:xv.pj.length<=20:=hxs.np;obtain⟨W0,Gb,Ga,b0,r0⟩:=boxed w (kC xn xv.kind xv.text (.slice p1 xv.ia.length d1) (.slice p2 xv.pj.length d2) (.slice p3 xv.rq.length d3) xd) 47;have ES:=L4 h hB b0;have c0:=ha.cell 0 (by omega);rw[<-b0.cell (p:=⟨ab,ao+0,none⟩) (ha.low (by omega))]at c0;have s0:=hT 0 (by omega);have c1:=ha.cell 1 (by omega);rw[<-b0.cell (p:=⟨ab,ao+1,none⟩) (ha.low (by omega))]at c1;have s1:=hT 1 (by omega);have Gc:ab<w.heap.size:=ha.low (by omega);obtain rfl:=ha.addr (by omega);rw[Qy]at c0;change W0.cell? _=some (.string (Fa T 0))at c0;change W0.cell? _=some (.string (Fa T 1))at c1;have HN:=hNL;have Ge:=hBK;have cP:∀q,Calls prog 149 #[.slice p2 xv.pj.length d2,.string (Fa T 1)] (W0.drewN q) fun e w'=>e=.returned (.int .i64 (Mc xv.pj (Fa T 1) 0))/\w'=W0.drewN q:=fun q=>yco p2 P2 xv.pj.length d2 xv.pj (Fa T 1) _ (i2.bw (b0.trans ((below_drewN (Qb _ W0) q).mono b0.size))) (by omega);obtain⟨y0,y1,y2,y3,y4,y5,y6⟩:=F6 r0;show Calls prog 106 #[v,.agg (kC xn xv.kind xv.text (.slice p1 xv.ia.length d1) (.slice p2 xv.pj.length d2) (.slice p3 xv.rq.length d3) xd),.string ⟨#[72,71,69,84]⟩,.slice (some ⟨ab,ao,none⟩) 2 ac] w (Fh w B (if Mc xv.pj (Fa T 1) 0<0 then(L.map KV.key,G7) else(L.map KV.key,Fy (xv.pj.getD (Mc xv.pj (Fa T 1) 0).toNat (bz,bz)).2)));by_cases hp:Mc xv.pj (Fa T 1) 0<0
 ·rw[if_pos hp];clear i2;clear h hx hxs ha hT Gb;generalize L.map KV.key=K0,Mc xv.pj (Fa T 1) 0=pz at*;have Gg:decide (pz<0)=true:=Qe hp;generalize Fa T 0=t0,Fa T 1=t1,xv.ia.length=n1,xv.pj.length=n2,xv.rq.length=n3,xv.text=tx,xv.kind=kd at*;show Calls prog 106 #[v,.agg (kC xn kd tx (.slice p1 n1 d1) (.slice p2 n2 d2) (.slice p3 n3 d3) xd),.string ⟨#[72,71,69,84]⟩,.slice (some ⟨ab,ao,none⟩) 2 ac] w (Fh w B (K0,G7));go_enter func106,ntmps106;go_upto_region 1 with fail;rw[Ga.out];go_wp2_with fail;go_quiet ((exact Calls.quiet_of_same (cP _)));go_wp2_with fail;refine(HN.out _).mono ?_;rintro e w1⟨r,rfl,hr,hb⟩;have HF:Hid _:=ES.out G7 r (W0.drewN nq) w1 (below_drewN (Qb _ W0) nq) hr hb;clear hr hb ES;go_wp2;go_ret2;exact HF.out
 ·rw[if_neg hp];obtain⟨k,hk,Gd⟩:=zv3 xv.pj (Fa T 1) hp;rw[hk]at cP ⊢;rw[Int.toNat_natCast];have Gf:P2<w.heap.size:=i2.low (by omega);have q1:=i2.c1 k Gd;rw[<-b0.cell (p:=⟨P2,k*2+1,none⟩) Gf]at q1;obtain rfl:=i2.addr (by omega);clear i2 hp hk;clear h hx hxs ha hT Gb;generalize L.map KV.key=K0,(xv.pj.getD k (bz,bz)).2=tv,Fa T 0=t0,Fa T 1=t1,xv.ia.length=n1,xv.pj.length=n2,xv.rq.length=n3,xv.text=tx,xv.kind=kd at*;have Gj:(0:Int)<=(k:Int):=by omega
  have Gi:(k:Int)<(n2:Int):=by omega
  have Gg:decide ((k:Int)<0)=false:=Qf (by omega);show Calls prog 106 #[v,.agg (kC xn kd tx (.slice p1 n1 d1) (.slice (some ⟨P2,0,none⟩) n2 d2) (.slice p3 n3 d3) xd),.string ⟨#[72,71,69,84]⟩,.slice (some ⟨ab,ao,none⟩) 2 ac] w (Fh w B (K0,Fy tv));go_enter func106,ntmps106;go_upto_region 1 with fail;rw[Ga.out];go_wp2_with fail;go_quiet ((exact Calls.quiet_of_same (cP _)));go_wp2_with fail;refine(Ge.out _ tv).mono ?_;rintro e w1⟨r,rfl,hr,hb⟩;have HF:Hid _:=ES.out (Fy tv) r (W0.drewN nq) w1 (below_drewN (Qb _ W0) nq) hr hb;clear hr hb ES;go_wp2;go_ret2;exact HF.out
end
theorem Nf.next2{T:List ByteArray}(h:Nf w v wr T)(t u:ByteArray)(hn:T.length<=1000):
  ∃v' w1,(Builtin.append_ #[25,25] 25 #[v,.slice (some ⟨wr.heap.size,0,none⟩) 2 2]).run prog ((wr.alloc (.cells #[.string t,.string u] 9)).drew)=.ok v' w1/\Nf w v' w1 (T++ [t,u]):=by
 obtain⟨i0,hi,Ge,Gg,Gd⟩:=info_parts Tg;have hB:w.heap.size<=wr.heap.size:=h.bel.size;have oD:Fz wr.drew w.heap.size v T:=h.own;have Gc:Below wr.drew.heap.size wr.drew (wr.drew.alloc (.cells #[.string t,.string u] 9)):=(Qb _ wr.drew).alloc (Qc _) _;have oA:=Fw oD Gc
 obtain⟨v',w',Gb,Ga,hg,_,Gf⟩:=run_append_own_at (P:=prog) (wr.drew.alloc (.cells #[.string t,.string u] 9)) w.heap.size 25 25 9 i0 _ 1 16 underlying25 hi Ge Gg Gd rfl (by decide) v T.length (G1 T) oA ⟨wr.drew.heap.size,0,none⟩ 2 2 [.string t,.string u] rfl (fun j u hj=>by
  rw[Addr.add_lit,Qq];exact((Fc.new wr.drew 9 _).cell j).trans (by simpa using hj)) (fun u hu=>by simp at hu;rcases hu with rfl|rfl<;>rfl) (by unfold maxLen;omega) (by omega) (Qj hB Gc.size)
 have bd:Bl w wr.drew:=h.bel.trans ((below_drewN (Qb _ wr) 1).mono hB);refine⟨v',w',Gb,?_,?_⟩
 ·have e:G1 (T++ [t,u])=G1 T++ [.string t,.string u]:=by unfold G1;rw[List.map_append];rfl
  unfold Fz;rw[Qi,e];exact Ga
 ·exact bd.trans (R4 (Qb _ wr.drew) hB oD hg)
theorem zqr(B B':Nat)(v:Value)(L:List KV)(x:KV)(aa:Option Addr)(ab ao ac:Nat)(T:List ByteArray)(w:World)(h:Fv w B v L)(hx:VOwn w B' x.key.val x.vi x.vp x.vr)(hxs:Hu x.key)(ha:Fs w aa ab ao 1 T)(hT:∀i,i<1->(Fa T i).size<=200)(hB:B<=w.heap.size):
  Calls prog 106 #[v,kvV x,.string ⟨#[72,71,69,84,65,76,76]⟩,.slice aa 1 ac] w (Fh w B (Om .HGETALL (L.map KV.key) x.key T)):=by
 obtain⟨p1,d1,e1⟩:=Fx hx.ia;obtain⟨p2,P2,d2,e2,i2⟩:=Ox hx.pj;obtain⟨p3,d3,e3⟩:=Fx hx.rq;obtain⟨⟨xn,xv,xd⟩,vi,vp,vr⟩:=x;dsimp only at e1 e2 e3 hxs i2;subst e1 e2 e3;have Gi:xv.pj.length<=20:=hxs.np;obtain⟨W0,Gg,Gf,b0,r0⟩:=boxed w (kC xn xv.kind xv.text (.slice p1 xv.ia.length d1) (.slice p2 xv.pj.length d2) (.slice p3 xv.rq.length d3) xd) 47;have ES:=L4 h hB b0;have c0:=ha.cell 0 (by omega);rw[<-b0.cell (p:=⟨ab,ao+0,none⟩) (ha.low (by omega))]at c0;have s0:=hT 0 (by omega);have Ge:ab<w.heap.size:=ha.low (by omega);obtain rfl:=ha.addr (by omega);rw[Qy]at c0;change W0.cell? _=some (.string (Fa T 0))at c0;have HP:Hid (Li w p2 P2 xv.pj.length xv.pj):=i2;obtain⟨y0,y1,y2,y3,y4,y5,y6⟩:=F6 r0;have HY:Hid (Fc W0 w.heap.size 47 (kC xn xv.kind xv.text (.slice p1 xv.ia.length d1) (.slice p2 xv.pj.length d2) (.slice p3 xv.rq.length d3) xd)):=r0;have HS:Hid (Nf W0 _ _ (Hj (xv.pj.take 0))):=Nf.start W0;have HT:Hid (∀k,k<xv.pj.length->Hj (xv.pj.take k)++ [(xv.pj.getD k (bz,bz)).1,(xv.pj.getD k (bz,bz)).2]=Hj (xv.pj.take (k+1))):=fun k hk=>(znc _ k hk).symm;have HZ:Hid (xv.pj.take xv.pj.length=xv.pj):=List.take_length;have Gc:Hid (∀k,k<=xv.pj.length->(Hj (xv.pj.take k)).length<=1000):=fun k hk=>by rw[Tu,Qn];omega
 have HE:Hid (∀v' wr,Nf W0 v' wr (Hj xv.pj)->Cp 142 #[v'] wr fun e w2=>∃r,e=.returned r/\Fh w B (L.map KV.key,He (Hj xv.pj)) (.returned (.tuple #[v,r])) w2):=fun v' wr hI=>by
  obtain⟨a',A',c',e',hs,_⟩:=N2 hI.own (fun t ht=>by
   have h1:=hxs.pj;simp only[Hj,List.mem_flatMap]at ht;obtain⟨p,hp,ht⟩:=ht;have:=h1 p hp;simp at ht;rcases ht with rfl|rfl<;>omega)
  subst e';refine(U9 a' A' 0 _ c' _ wr hs (by rw[Tu];omega)).mono ?_;rintro e w2⟨r,rfl,hr,hb⟩;exact⟨r,rfl,Fh.same h hB (b0.trans (hI.bel.mono b0.size)) hr hb⟩
 show Calls prog 106 #[v,.agg (kC xn xv.kind xv.text (.slice p1 xv.ia.length d1) (.slice p2 xv.pj.length d2) (.slice p3 xv.rq.length d3) xd),.string ⟨#[72,71,69,84,65,76,76]⟩,.slice (some ⟨ab,ao,none⟩) 1 ac] w (Fh w B (L.map KV.key,He (Hj xv.pj)));clear i2;clear h hx hxs ha hT Gg;generalize(L.map KV.key,He (Hj xv.pj))=PP,Fa T 0=t0 at*;clear r0;generalize xv.pj.length=n2,xv.ia.length=n1,xv.rq.length=n3,xv.text=tx,xv.kind=kd at*;go_enter func106,ntmps106;go_upto_region 1 with fail;rw[Gf.out];go_wp2_with fail;clear y0 y1 y2 y3 y4 y5 y6;go_loopw [12,13] (fun v i wr=>∃k:Nat,k<=n2/\i=.int .i64 k/\Hid (Nf W0 v wr (Hj (xv.pj.take k)))) (fun _ i _=>n2-(intOf i).toNat)
 case atStart=>exact⟨0,by omega,rfl,HS⟩
 case round=>
  obtain⟨k,hk,rfl,hI⟩:=hrel;clear HS;have Gd:Fc wr w.heap.size 47 (kC xn kd tx (.slice p1 n1 d1) (.slice p2 n2 d2) (.slice p3 n3 d3) xd):=Fc.bw HY.out hI.out.bel (Fc.lt HY.out);obtain⟨y0,y1,y2,y3,y4,y5,y6⟩:=F6 Gd;clear Gd;by_cases hlt:k<n2
  ·have bw:Bl w wr:=b0.trans (hI.out.bel.mono b0.size);have q0:=(HP.out.bw bw).c0 k hlt;have q1:=(HP.out.bw bw).c1 k hlt;obtain rfl:=HP.out.addr (by omega);obtain⟨v',w1,Ga,Gb⟩:=hI.out.next2 (xv.pj.getD k (bz,bz)).1 (xv.pj.getD k (bz,bz)).2 (Gc.out k hk);rw[HT.out k hlt]at Gb;have Gh:Hid _:=Gb;clear Gb hI HE HT HZ Gc HP HY ES;generalize(xv.pj.getD k (bz,bz)).1=xa,(xv.pj.getD k (bz,bz)).2=xb at*;go_wp2_with fail
   go_region_law (first
    |refine Ob rfl (.tmp 62) (.tmp 77) 25 rfl (by simp[Act.eval]) (by simp[Act.eval]) Ga ?_)
   all_goals
    go_wp2;go_roundw
    case rel=>exact⟨k+1,by omega,by go_num,Gh⟩
    case measure=>simp[intOf];omega
  ·obtain rfl:k=n2:=by omega
   rw[HZ.out]at hI;have HC:Hid (Cp 142 #[u12] wr fun e w2=>∃r,e=.returned r/\Fh w B PP (.returned (.tuple #[v,r])) w2):=HE.out _ wr hI.out;clear HE HT HZ Gc hI HP HY ES;go_wp2_with fail;refine HC.out.mono ?_;rintro e w2⟨r,rfl,hq⟩;have HQ:Hid _:=hq;clear hq HC;go_wp2;go_ret2;exact HQ.out
end
section
open Tryz
open Go.RowKit Go.Sort
open Kk (Rk rk0 G8 Mp F1 L7 Hv G9 Fo G6 encR F7 Le str_eq)
def Ke.withRanks (k:Ke) (rs:List Rk):Ke:=⟨k.name,⟨k.val.kind,k.val.text,k.val.ia,k.val.pj,rs⟩,k.due⟩
def Mw (rs:List Rk):List ByteArray->Option (List Rk)
 |s::m::T=>if (Fg s).2=true then Mw (Kk.Ho (Kk.without rs m) ⟨m,(Fg s).1⟩) T else none
 |_=>some rs
def Pc (rs:List Rk) (f l:Int):List ByteArray:=((rs.take (Sl.Hx rs.length f l).2.toNat).drop (Sl.Hx rs.length f l).1.toNat).map Rk.m
def M5 (c:Cm) (ks:List Ke) (k:Ke) (T:List ByteArray):List Ke×List Rp:=match c with
 |15=> (ks,Fe (k.val.rq.length:Int))
 |21=>if Hg k.val.rq (Fa T 1) 0<0 then (ks,G7) else (ks,Fy (F1 (k.val.rq.getD (Hg k.val.rq (Fa T 1) 0).toNat rk0).s))
 |22=>if Hg k.val.rq (Fa T 1) 0<0 then (ks,G7) else (ks,Fe (Hg k.val.rq (Fa T 1) 0))
 |25=>if ((Fg (Fa T 1)).2&&(Fg (Fa T 2)).2)=true then (ks,He (Pc k.val.rq (Fg (Fa T 1)).1 (Fg (Fa T 2)).1)) else (ks,Fl F3)
 |32=>Fj ks (k.withRanks (T.tail.foldl Kk.without k.val.rq)) (Fe ((k.val.rq.length:Int)-((T.tail.foldl Kk.without k.val.rq).length:Int)))
 |_=>match Mw k.val.rq T.tail with
  |some rs=>Fj ks (k.withRanks rs) (Fe ((rs.length:Int)-(k.val.rq.length:Int)))
  |none=> (ks,Fl F3)
theorem Y0(T:List Rk)(nm:ByteArray)(h:¬Hg T nm 0<0):∃k:Nat,Hg T nm 0=(k:Int)/\k<T.length:=by
 by_cases hex:∃k,k<T.length/\(T.getD k rk0).m=nm
 ·have:∃k,(k<T.length/\(T.getD k rk0).m=nm)/\∀j,j<k->(T.getD j rk0).m≠nm:=by
   obtain⟨k,hk,he⟩:=hex;induction k using Nat.strongRecOn with
   |_ k ih=>
    by_cases h2:∃j,j<k/\(T.getD j rk0).m=nm
    ·obtain⟨j,hj,Ga⟩:=h2;exact ih j hj (by omega) Ga
    ·exact⟨k,⟨hk,he⟩,fun j hj e=>h2 ⟨j,hj,e⟩⟩
  obtain⟨k,⟨hk,he⟩,hn⟩:=this;exact⟨k,by rw[D5 T nm k 0 hk hn he];simp,hk⟩
 ·exfalso;rw[C8 T nm 0 (fun j hj e=>hex ⟨j,hj,e⟩)]at h;exact h (by omega)
section
variable (B B':Nat) (v:Value) (L:List KV) (x:KV) (aa:Option Addr) (ab ao ac:Nat) (T:List ByteArray) (w:World)
theorem zxm(h:Fv w B v L)(hx:VOwn w B' x.key.val x.vi x.vp x.vr)(hxs:Hu x.key)(ha:Fs w aa ab ao 1 T)(hT:∀i,i<1->(Fa T i).size<=200)(hB:B<=w.heap.size):
  Calls prog 107 #[v,kvV x,.string ⟨#[90,67,65,82,68]⟩,.slice aa 1 ac] w (Fh w B (M5 .ZCARD (L.map KV.key) x.key T)):=by
 obtain⟨p1,d1,e1⟩:=Fx hx.ia;obtain⟨p2,d2,e2⟩:=Fx hx.pj;obtain⟨p3,P3,d3,e3,i3⟩:=Kk.N7 hx.rq;obtain⟨⟨xn,xv,xd⟩,vi,vp,vr⟩:=x;dsimp only at e1 e2 e3 hxs i3;subst e1 e2 e3;have Ge:=hxs.nr;obtain⟨W0,Gd,Gc,b0,r0⟩:=boxed w (kC xn xv.kind xv.text (.slice p1 xv.ia.length d1) (.slice p2 xv.pj.length d2) (.slice p3 xv.rq.length d3) xd) 47;have ES:=L4 h hB b0;have c0:=ha.cell 0 (by omega);rw[<-b0.cell (p:=⟨ab,ao+0,none⟩) (ha.low (by omega))]at c0;have s0:=hT 0 (by omega);have Gb:=ha.low (by omega);obtain rfl:=ha.addr (by omega);rw[Qy]at c0;change W0.cell? _=some (.string (Fa T 0))at c0;have Ga:=hIN;obtain⟨y0,y1,y2,y3,y4,y5,y6⟩:=F6 r0;show Calls prog 107 #[v,.agg (kC xn xv.kind xv.text (.slice p1 xv.ia.length d1) (.slice p2 xv.pj.length d2) (.slice p3 xv.rq.length d3) xd),.string ⟨#[90,67,65,82,68]⟩,.slice (some ⟨ab,ao,none⟩) 1 ac] w (Fh w B (L.map KV.key,Fe (xv.rq.length:Int)));clear i3;clear h hx hxs ha hT Gd;generalize L.map KV.key=K0,Fa T 0=t0,xv.ia.length=n1,xv.pj.length=n2,xv.rq.length=n3,xv.text=tx,xv.kind=kd at*;show Calls prog 107 #[v,.agg (kC xn kd tx (.slice p1 n1 d1) (.slice p2 n2 d2) (.slice p3 n3 d3) xd),.string ⟨#[90,67,65,82,68]⟩,.slice (some ⟨ab,ao,none⟩) 1 ac] w (Fh w B (K0,Fe (n3:Int)));go_enter func107,ntmps107;go_upto_region 1 with fail;rw[Gc.out];go_wp2_with fail;refine(Ga.out W0 (n3:Int)).mono ?_;rintro e w1⟨r,rfl,hr,hb⟩;have HF:Hid _:=ES.out (Fe (n3:Int)) r W0 w1 (Qb _ _) hr hb;clear hr hb ES;go_wp2;go_ret2;exact HF.out
theorem zs5(h:Fv w B v L)(hx:VOwn w B' x.key.val x.vi x.vp x.vr)(hxs:Hu x.key)(ha:Fs w aa ab ao 2 T)(hT:∀i,i<2->(Fa T i).size<=200)(hB:B<=w.heap.size):
  Calls prog 107 #[v,kvV x,.string ⟨#[90,83,67,79,82,69]⟩,.slice aa 2 ac] w (Fh w B (M5 .ZSCORE (L.map KV.key) x.key T)):=by
 obtain⟨p1,d1,e1⟩:=Fx hx.ia;obtain⟨p2,d2,e2⟩:=Fx hx.pj;obtain⟨p3,P3,d3,e3,i3⟩:=Kk.N7 hx.rq;obtain⟨⟨xn,xv,xd⟩,vi,vp,vr⟩:=x;dsimp only at e1 e2 e3 hxs i3;subst e1 e2 e3;have Gm:xv.rq.length<=20:=hxs.nr;obtain⟨W0,Ge,Gd,b0,r0⟩:=boxed w (kC xn xv.kind xv.text (.slice p1 xv.ia.length d1) (.slice p2 xv.pj.length d2) (.slice p3 xv.rq.length d3) xd) 47;have ES:=L4 h hB b0;have c0:=ha.cell 0 (by omega);rw[<-b0.cell (p:=⟨ab,ao+0,none⟩) (ha.low (by omega))]at c0;have s0:=hT 0 (by omega);have c1:=ha.cell 1 (by omega);rw[<-b0.cell (p:=⟨ab,ao+1,none⟩) (ha.low (by omega))]at c1;have s1:=hT 1 (by omega);have Gh:ab<w.heap.size:=ha.low (by omega);obtain rfl:=ha.addr (by omega);rw[Qy]at c0;change W0.cell? _=some (.string (Fa T 0))at c0;change W0.cell? _=some (.string (Fa T 1))at c1;have HN:=hNL;have Gf:=hBK;have Gg:=hIN;have cP:∀q,Calls prog 151 #[.slice p3 xv.rq.length d3,.string (Fa T 1)] (W0.drewN q) fun e w'=>e=.returned (.int .i64 (Hg xv.rq (Fa T 1) 0))/\w'=W0.drewN q:=fun q=>zz1 p3 P3 0 xv.rq.length d3 xv.rq (Fa T 1) _ (i3.bw (b0.trans ((below_drewN (Qb _ W0) q).mono b0.size))) (by omega);obtain⟨y0,y1,y2,y3,y4,y5,y6⟩:=F6 r0;show Calls prog 107 #[v,.agg (kC xn xv.kind xv.text (.slice p1 xv.ia.length d1) (.slice p2 xv.pj.length d2) (.slice p3 xv.rq.length d3) xd),.string ⟨#[90,83,67,79,82,69]⟩,.slice (some ⟨ab,ao,none⟩) 2 ac] w (Fh w B (if Hg xv.rq (Fa T 1) 0<0 then(L.map KV.key,G7) else(L.map KV.key,Fy (F1 (xv.rq.getD (Hg xv.rq (Fa T 1) 0).toNat rk0).s))));by_cases hp:Hg xv.rq (Fa T 1) 0<0
 ·rw[if_pos hp];clear i3 Gf Gg;clear h hx hxs ha hT Ge;generalize L.map KV.key=K0,Hg xv.rq (Fa T 1) 0=pz at*;have Gl:decide (pz<0)=true:=Qe hp;generalize Fa T 0=t0,Fa T 1=t1,xv.ia.length=n1,xv.pj.length=n2,xv.rq.length=n3,xv.text=tx,xv.kind=kd at*;show Calls prog 107 #[v,.agg (kC xn kd tx (.slice p1 n1 d1) (.slice p2 n2 d2) (.slice p3 n3 d3) xd),.string ⟨#[90,83,67,79,82,69]⟩,.slice (some ⟨ab,ao,none⟩) 2 ac] w (Fh w B (K0,G7));go_enter func107,ntmps107;go_upto_region 1 with fail;rw[Gd.out];go_wp2_with fail;go_quiet ((exact Calls.quiet_of_same (cP _)));go_wp2_with fail;refine(HN.out _).mono ?_;rintro e w1⟨r,rfl,hr,hb⟩;have HF:Hid _:=ES.out G7 r (W0.drewN nq) w1 (below_drewN (Qb _ W0) nq) hr hb;clear hr hb ES;go_wp2;go_ret2;exact HF.out
 ·rw[if_neg hp];obtain⟨k,hk,Gb⟩:=Y0 xv.rq (Fa T 1) hp;rw[hk]at cP ⊢;rw[Int.toNat_natCast];have Gk:=i3.low (by omega);have q1:=(i3.cell k Gb).c1;rw[<-b0.cell (p:=⟨P3,0+k*2+1,none⟩) Gk,Qq]at q1;obtain rfl:=i3.addr (by omega);have Ga:xv.rq.getD k rk0∈xv.rq:=by rw[Qa,Qd Gb];exact Qv Gb
  have Gc:=(hxs.rq _ Ga).2;have Gi:Hid (∀W,Cp 148 #[.int .i64 (xv.rq.getD k rk0).s] W fun e w'=>e=.returned (.string (F1 (xv.rq.getD k rk0).s))/\Bl W w'):=fun W=>zyo _ W Gc.1 Gc.2;clear Ga Gc;clear i3 hp hk;clear h hx hxs ha hT Ge;generalize L.map KV.key=K0,(xv.rq.getD k rk0).s=sv,Fa T 0=t0,Fa T 1=t1,xv.ia.length=n1,xv.pj.length=n2,xv.rq.length=n3,xv.text=tx,xv.kind=kd at*;have Gn:(0:Int)<=(k:Int):=by omega
  have Gp:(k:Int)<(n3:Int):=by omega
  have Gl:decide ((k:Int)<0)=false:=Qf (by omega);show Calls prog 107 #[v,.agg (kC xn kd tx (.slice p1 n1 d1) (.slice p2 n2 d2) (.slice (some ⟨P3,0,none⟩) n3 d3) xd),.string ⟨#[90,83,67,79,82,69]⟩,.slice (some ⟨ab,ao,none⟩) 2 ac] w (Fh w B (K0,Fy (F1 sv)));go_enter func107,ntmps107;go_upto_region 1 with fail;rw[Gd.out];go_wp2_with fail;go_quiet ((exact Calls.quiet_of_same (cP _)));go_wp2_with fail;refine(Gi.out _).mono ?_;rintro e wD⟨rfl,Gj⟩;go_wp2_with fail;refine(Gf.out wD (F1 sv)).mono ?_;rintro e w1⟨r,rfl,hr,hb⟩;have HF:Hid _:=ES.out (Fy (F1 sv)) r wD w1 ((below_drewN (Qb _ W0) nq).trans Gj) hr hb;clear hr hb ES;go_wp2;go_ret2;exact HF.out
theorem zvw(h:Fv w B v L)(hx:VOwn w B' x.key.val x.vi x.vp x.vr)(hxs:Hu x.key)(ha:Fs w aa ab ao 2 T)(hT:∀i,i<2->(Fa T i).size<=200)(hB:B<=w.heap.size):
  Calls prog 107 #[v,kvV x,.string ⟨#[90,82,65,78,75]⟩,.slice aa 2 ac] w (Fh w B (M5 .ZRANK (L.map KV.key) x.key T)):=by
 obtain⟨p1,d1,e1⟩:=Fx hx.ia;obtain⟨p2,d2,e2⟩:=Fx hx.pj;obtain⟨p3,P3,d3,e3,i3⟩:=Kk.N7 hx.rq;obtain⟨⟨xn,xv,xd⟩,vi,vp,vr⟩:=x;dsimp only at e1 e2 e3 hxs i3;subst e1 e2 e3;have Gj:xv.rq.length<=20:=hxs.nr;obtain⟨W0,Gc,Gb,b0,r0⟩:=boxed w (kC xn xv.kind xv.text (.slice p1 xv.ia.length d1) (.slice p2 xv.pj.length d2) (.slice p3 xv.rq.length d3) xd) 47;have ES:=L4 h hB b0;have c0:=ha.cell 0 (by omega);rw[<-b0.cell (p:=⟨ab,ao+0,none⟩) (ha.low (by omega))]at c0;have s0:=hT 0 (by omega);have c1:=ha.cell 1 (by omega);rw[<-b0.cell (p:=⟨ab,ao+1,none⟩) (ha.low (by omega))]at c1;have s1:=hT 1 (by omega);have Gd:ab<w.heap.size:=ha.low (by omega);obtain rfl:=ha.addr (by omega);rw[Qy]at c0;change W0.cell? _=some (.string (Fa T 0))at c0;change W0.cell? _=some (.string (Fa T 1))at c1;have HN:=hNL;have Gf:=hBK;have Ga:=hIN;have cP:∀q,Calls prog 151 #[.slice p3 xv.rq.length d3,.string (Fa T 1)] (W0.drewN q) fun e w'=>e=.returned (.int .i64 (Hg xv.rq (Fa T 1) 0))/\w'=W0.drewN q:=fun q=>zz1 p3 P3 0 xv.rq.length d3 xv.rq (Fa T 1) _ (i3.bw (b0.trans ((below_drewN (Qb _ W0) q).mono b0.size))) (by omega);obtain⟨y0,y1,y2,y3,y4,y5,y6⟩:=F6 r0;show Calls prog 107 #[v,.agg (kC xn xv.kind xv.text (.slice p1 xv.ia.length d1) (.slice p2 xv.pj.length d2) (.slice p3 xv.rq.length d3) xd),.string ⟨#[90,82,65,78,75]⟩,.slice (some ⟨ab,ao,none⟩) 2 ac] w (Fh w B (if Hg xv.rq (Fa T 1) 0<0 then(L.map KV.key,G7) else(L.map KV.key,Fe (Hg xv.rq (Fa T 1) 0))));by_cases hp:Hg xv.rq (Fa T 1) 0<0
 ·rw[if_pos hp];clear i3 Gf Ga;clear h hx hxs ha hT Gc;generalize L.map KV.key=K0,Hg xv.rq (Fa T 1) 0=pz at*;have Gh:decide (pz<0)=true:=Qe hp;generalize Fa T 0=t0,Fa T 1=t1,xv.ia.length=n1,xv.pj.length=n2,xv.rq.length=n3,xv.text=tx,xv.kind=kd at*;show Calls prog 107 #[v,.agg (kC xn kd tx (.slice p1 n1 d1) (.slice p2 n2 d2) (.slice p3 n3 d3) xd),.string ⟨#[90,82,65,78,75]⟩,.slice (some ⟨ab,ao,none⟩) 2 ac] w (Fh w B (K0,G7));go_enter func107,ntmps107;go_upto_region 1 with fail;rw[Gb.out];go_wp2_with fail;go_quiet ((exact Calls.quiet_of_same (cP _)));go_wp2_with fail;refine(HN.out _).mono ?_;rintro e w1⟨r,rfl,hr,hb⟩;have HF:Hid _:=ES.out G7 r (W0.drewN nq) w1 (below_drewN (Qb _ W0) nq) hr hb;clear hr hb ES;go_wp2;go_ret2;exact HF.out
 ·rw[if_neg hp];obtain⟨k,hk,Ge⟩:=Y0 xv.rq (Fa T 1) hp;rw[hk]at cP ⊢;have Gg:=i3.low (by omega);have q1:=(i3.cell k Ge).c1;rw[<-b0.cell (p:=⟨P3,0+k*2+1,none⟩) Gg,Qq]at q1;obtain rfl:=i3.addr (by omega);clear i3 hp hk;clear h hx hxs ha hT Gc;generalize L.map KV.key=K0,(xv.rq.getD k rk0).s=sv,Fa T 0=t0,Fa T 1=t1,xv.ia.length=n1,xv.pj.length=n2,xv.rq.length=n3,xv.text=tx,xv.kind=kd at*;have Gk:(0:Int)<=(k:Int):=by omega
  have Gi:(k:Int)<(n3:Int):=by omega
  have Gh:decide ((k:Int)<0)=false:=Qf (by omega);show Calls prog 107 #[v,.agg (kC xn kd tx (.slice p1 n1 d1) (.slice p2 n2 d2) (.slice (some ⟨P3,0,none⟩) n3 d3) xd),.string ⟨#[90,82,65,78,75]⟩,.slice (some ⟨ab,ao,none⟩) 2 ac] w (Fh w B (K0,Fe (k:Int)));go_enter func107,ntmps107;go_upto_region 1 with fail;rw[Gb.out];go_wp2_with fail;go_quiet ((exact Calls.quiet_of_same (cP _)));go_wp2_with fail;refine(Ga.out _ (k:Int)).mono ?_;rintro e w1⟨r,rfl,hr,hb⟩;have HF:Hid _:=ES.out (Fe (k:Int)) r (W0.drewN nq) w1 (below_drewN (Qb _ W0) nq) hr hb;clear hr hb ES;go_wp2;go_ret2;exact HF.out
end
theorem yg6(rs:List Rk)(i k:Nat)(hi:i<=k)(h:k<rs.length):((rs.take k).drop i).map Rk.m++ [(rs.getD k rk0).m]=((rs.take (k+1)).drop i).map Rk.m:=by
 rw[Qo h,List.drop_append_of_le_length (by rw[Qn];omega),List.map_append];rw[show(rs.getD k rk0)=rs[k] by rw[Qa,Qd h];rfl];rfl
theorem zsx(B B':Nat)(v:Value)(L:List KV)(x:KV)(aa:Option Addr)(ab ao ac:Nat)(T:List ByteArray)(w:World)(h:Fv w B v L)(hx:VOwn w B' x.key.val x.vi x.vp x.vr)(hxs:Hu x.key)(ha:Fs w aa ab ao 3 T)(hT:∀i,i<3->(Fa T i).size<=200)(hB:B<=w.heap.size):
  Calls prog 107 #[v,kvV x,.string ⟨#[90,82,65,78,71,69]⟩,.slice aa 3 ac] w (Fh w B (M5 .ZRANGE (L.map KV.key) x.key T)):=by
 obtain⟨p1,d1,e1⟩:=Fx hx.ia;obtain⟨p2,d2,e2⟩:=Fx hx.pj;obtain⟨p3,P3,d3,e3,i3⟩:=Kk.N7 hx.rq;obtain⟨⟨xn,xv,xd⟩,vi,vp,vr⟩:=x;dsimp only at e1 e2 e3 hxs i3;subst e1 e2 e3;have Gu:xv.rq.length<=20:=hxs.nr;obtain⟨W0,Gr,Gh,b0,r0⟩:=boxed w (kC xn xv.kind xv.text (.slice p1 xv.ia.length d1) (.slice p2 xv.pj.length d2) (.slice p3 xv.rq.length d3) xd) 47;have ES:=L4 h hB b0;have c0:=ha.cell 0 (by omega);rw[<-b0.cell (p:=⟨ab,ao+0,none⟩) (ha.low (by omega))]at c0;have s0:=hT 0 (by omega);have c1:=ha.cell 1 (by omega);rw[<-b0.cell (p:=⟨ab,ao+1,none⟩) (ha.low (by omega))]at c1;have s1:=hT 1 (by omega);have c2:=ha.cell 2 (by omega);rw[<-b0.cell (p:=⟨ab,ao+2,none⟩) (ha.low (by omega))]at c2;have s2:=hT 2 (by omega);have Gp:ab<w.heap.size:=ha.low (by omega);obtain rfl:=ha.addr (by omega);rw[Qy]at c0;change W0.cell? _=some (.string (Fa T 0))at c0;change W0.cell? _=some (.string (Fa T 1))at c1;change W0.cell? _=some (.string (Fa T 2))at c2;have Gf:=Tp (Fa T 1) (by omega);have Gb:=Tp (Fa T 2) (by omega);have Gj:=hER;obtain⟨i,j,Gg,Gw,Gx⟩:=Bf xv.rq.length (Fg (Fa T 1)).1 (Fg (Fa T 2)).1;have Gm:Hid (∀W,Cp 146 #[.int .i64 (xv.rq.length:Int),.int .i64 (Fg (Fa T 1)).1,.int .i64 (Fg (Fa T 2)).1] W fun e w'=>e=.returned (.tuple #[.int .i64 (i:Int),.int .i64 (j:Int)])/\w'=W):=fun W=>by
  have:=Sl.Ay xv.rq.length (Fg (Fa T 1)).1 (Fg (Fa T 2)).1 W;rw[Gg]at this;exact this
 have Gl:Hid (Pc xv.rq (Fg (Fa T 1)).1 (Fg (Fa T 2)).1=((xv.rq.take j).drop i).map Rk.m):=by
  unfold Hid Pc;rw[Gg];rfl
 have HP:Hid (F7 w p3 P3 0 xv.rq.length xv.rq):=i3;have HY:Hid (Fc W0 w.heap.size 47 (kC xn xv.kind xv.text (.slice p1 xv.ia.length d1) (.slice p2 xv.pj.length d2) (.slice p3 xv.rq.length d3) xd)):=r0;have HS:Hid (∀W,Nf W (.slice (some ⟨W.heap.size,0,none⟩) 0 0) (W.alloc (.cells #[] 9)) (((xv.rq.take i).drop i).map Rk.m)):=fun W=>by
  rw[List.drop_eq_nil_of_le (by rw[Qn];omega)];exact Nf.start W
 have HT:Hid (∀k,i<=k->k<xv.rq.length->((xv.rq.take k).drop i).map Rk.m++ [(xv.rq.getD k rk0).m]=((xv.rq.take (k+1)).drop i).map Rk.m):=fun k hk hk2=>yg6 _ i k hk hk2;have Gd:Hid (∀k,(((xv.rq.take k).drop i).map Rk.m).length<=1048577):=fun k=>by rw[Qp,Qu,Qn];omega
 have HE:Hid (∀v' wr,Nf W0 v' wr (((xv.rq.take j).drop i).map Rk.m)->Cp 142 #[v'] wr fun e w2=>∃r,e=.returned r/\Fh w B (L.map KV.key,He (((xv.rq.take j).drop i).map Rk.m)) (.returned (.tuple #[v,r])) w2):=fun v' wr hI=>by
  obtain⟨a',A',c',e',hs,_⟩:=N2 hI.own (fun t ht=>by
   obtain⟨r,hr,rfl⟩:=List.mem_map.1 ht;have:=hxs.rq r (List.mem_of_mem_take (List.mem_of_mem_drop hr));omega)
  subst e';refine(U9 a' A' 0 _ c' _ wr hs (by rw[Qp,Qu,Qn];omega)).mono ?_;rintro e w2⟨r,rfl,hr,hb⟩;exact⟨r,rfl,Fh.same h hB (b0.trans (hI.bel.mono b0.size)) hr hb⟩
 obtain⟨y0,y1,y2,y3,y4,y5,y6⟩:=F6 r0;show Calls prog 107 #[v,.agg (kC xn xv.kind xv.text (.slice p1 xv.ia.length d1) (.slice p2 xv.pj.length d2) (.slice p3 xv.rq.length d3) xd),.string ⟨#[90,82,65,78,71,69]⟩,.slice (some ⟨ab,ao,none⟩) 3 ac] w (Fh w B (if((Fg (Fa T 1)).2&&(Fg (Fa T 2)).2)=true then(L.map KV.key,He (Pc xv.rq (Fg (Fa T 1)).1 (Fg (Fa T 2)).1)) else(L.map KV.key,Fl F3)));rw[Gl.out];clear Gl Gg i3 r0;clear h hx hxs ha hT Gr;generalize L.map KV.key=K0,(Fg (Fa T 2)).1=z2,(Fg (Fa T 2)).2=ok2,(Fg (Fa T 1)).1=z1,(Fg (Fa T 1)).2=ok1,Fa T 0=t0 at*;generalize Fa T 1=t1,Fa T 2=t2,xv.ia.length=n1,xv.pj.length=n2,xv.rq.length=n3,xv.text=tx,xv.kind=kd at*;cases ok1 with
 |false=>
  clear HE HT Gd HS HP HY;show Calls prog 107 #[v,.agg (kC xn kd tx (.slice p1 n1 d1) (.slice p2 n2 d2) (.slice p3 n3 d3) xd),.string ⟨#[90,82,65,78,71,69]⟩,.slice (some ⟨ab,ao,none⟩) 3 ac] w (Fh w B (K0,Fl F3));go_enter func107,ntmps107;go_upto_region 1 with fail;rw[Gh.out];go_wp2_with fail;refine(Gf.out W0).mono ?_;rintro e w0⟨rfl,Gc⟩;subst Gc;go_wp2_with fail;refine(Gb.out w0).mono ?_;rintro e Ge⟨rfl,Ga⟩;subst Ga;go_wp2_with fail;refine(Gj.out _).mono ?_;rintro e w1⟨r,rfl,hr,hb⟩;have HF:Hid _:=ES.out (Fl F3) r Ge w1 (Qb _ _) hr hb;clear hr hb ES;go_wp2;go_ret2;exact HF.out
 |true=>
  cases ok2 with
  |false=>
   clear HE HT Gd HS HP HY;show Calls prog 107 #[v,.agg (kC xn kd tx (.slice p1 n1 d1) (.slice p2 n2 d2) (.slice p3 n3 d3) xd),.string ⟨#[90,82,65,78,71,69]⟩,.slice (some ⟨ab,ao,none⟩) 3 ac] w (Fh w B (K0,Fl F3));go_enter func107,ntmps107;go_upto_region 1 with fail;rw[Gh.out];go_wp2_with fail;refine(Gf.out W0).mono ?_;rintro e w0⟨rfl,Gc⟩;subst Gc;go_wp2_with fail;refine(Gb.out w0).mono ?_;rintro e Ge⟨rfl,Ga⟩;subst Ga;go_wp2_with fail;refine(Gj.out _).mono ?_;rintro e w1⟨r,rfl,hr,hb⟩;have HF:Hid _:=ES.out (Fl F3) r Ge w1 (Qb _ _) hr hb;clear hr hb ES;go_wp2;go_ret2;exact HF.out
  |true=>
   show Calls prog 107 #[v,.agg (kC xn kd tx (.slice p1 n1 d1) (.slice p2 n2 d2) (.slice p3 n3 d3) xd),.string ⟨#[90,82,65,78,71,69]⟩,.slice (some ⟨ab,ao,none⟩) 3 ac] w (Fh w B (K0,He (((xv.rq.take j).drop i).map Rk.m)));generalize hPP:(K0,He (((xv.rq.take j).drop i).map Rk.m))=PP at*;clear hPP;go_enter func107,ntmps107;go_upto_region 1 with fail;rw[Gh.out];go_wp2_with fail;refine(Gf.out W0).mono ?_;rintro e w0⟨rfl,Gc⟩;subst Gc;go_wp2_with fail;refine(Gb.out w0).mono ?_;rintro e Ge⟨rfl,Ga⟩;subst Ga;go_wp2_with fail;refine(Gm.out Ge).mono ?_;rintro e w3⟨rfl,Gn⟩;subst Gn;clear Gm Gf Gb Gj ES;go_wp2_with fail;clear y0 y1 y2 y3 y4 y5 y6;go_loopw [18,19] (fun v q wr=>∃k:Nat,i<=k/\k<=j/\q=.int .i64 k/\Hid (Nf w3 v wr (((xv.rq.take k).drop i).map Rk.m))) (fun _ q _=>j-(intOf q).toNat)
   case atStart=>exact⟨i,by omega,by omega,rfl,HS.out w3⟩
   case round=>
    obtain⟨k,Gs,hk,rfl,hI⟩:=hrel;clear HS;have Gk:=Fc.bw HY.out hI.out.bel (Fc.lt HY.out);obtain⟨y0,y1,y2,y3,y4,y5,y6⟩:=F6 Gk;clear Gk;by_cases hlt:k<j
    ·have bw:=b0.trans (hI.out.bel.mono b0.size);have q0:=((HP.out.bw bw).cell k (by omega)).c0;rw[Qq]at q0;obtain rfl:=HP.out.addr (by omega);obtain⟨v',w1,r1,Gi⟩:=hI.out.next (xv.rq.getD k rk0).m (Gd.out k);rw[HT.out k Gs (by omega)]at Gi;have R1:Hid _:=r1;have Gb:Hid _:=Gi;have Gy:(0:Int)<=(k:Int):=by omega
     have Gt:(k:Int)<(n3:Int):=by omega
     have Gq:k<n3:=by omega
     have Gv:(k:Int)<(j:Int):=by omega
     clear r1 Gi hI HE HT Gd HP HY;generalize(xv.rq.getD k rk0).m=xa at*;go_wp2_with (at_builtin;refine wpList_append_run rfl _ _ 25 rfl rfl rfl R1.out ?_);exact⟨⟨k+1,by omega,by omega,by go_num,Gb⟩,by simp[intOf];omega⟩
    ·obtain rfl:k=j:=by omega
     have HC:=hid (HE.out _ wr hI.out);clear HE HT Gd hI HP HY;go_wp2_with fail;refine HC.out.mono ?_;rintro e w2⟨r,rfl,hq⟩;have HQ:Hid _:=hq;clear hq HC;go_wp2;go_ret2;exact HQ.out
end
section
open Tryz
open Go.RowKit Go.Sort
open Kk (Rk rk0 G8 Mp F1 L7 Hv G9 Fo G6 encR F7 Le str_eq)
variable {w:World} {a:Option Addr} {n c:Nat} {cur:List Rk}
structure Nw (w:World) (a:Option Addr) (n c:Nat) (cur:List Rk):Prop where
 own:Fo w 0 (.slice a n c) cur
 len:cur.length=n
theorem Nw.rd(h:Nw w a n c cur):∃A,F7 w a A 0 n cur/\(a=none->c=0):=by
 obtain⟨a',A,c',e,hs⟩:=Kk.N7 h.own;injection e with q1 q2 q3;subst q1 q3;rw[h.len]at hs;refine⟨A,hs,fun e=>?_⟩;rcases Joins.ownsRow_forms h.own with⟨h1,_⟩|⟨g,cap,h1⟩
 ·injection h1 with r1 r2 r3
 ·injection h1 with r1 r2 r3;rw[e]at r1;cases r1
theorem Nw.set{G:Nat}{C:Array Value}(h:Nw w a n c cur)(hr:Fc w G 47 C)(j:Nat)(x:Value):Nw (w.setCell ⟨G,j,none⟩ x) a n c cur:=
 ⟨Lt h.own fun g hg=>by
  obtain⟨C,Ga⟩:=M3 h.own hg
  exact Below.heap_setCell _ _ _ _ (fun e=>by
   have e2:g=G:=e;subst e2;exact absurd (Hp.N9 Ga hr) (by decide)),h.len⟩
theorem Nw.bw{w':World}(h:Nw w a n c cur)(hb:Bl w w'):Nw w' a n c cur:=⟨Fw h.own hb,h.len⟩
theorem yeu(rs:List Rk)(T:List ByteArray)(k:Nat)(h:k<T.length):(T.drop k).foldl Kk.without rs=(T.drop (k+1)).foldl Kk.without (Kk.without rs (Fa T k)):=by
 rw[List.drop_eq_getElem_cons h,List.foldl_cons];simp[Fa,List.getD_eq_getElem?_getD,List.getElem?_eq_getElem h]
theorem zzh(B B':Nat)(v:Value)(L:List KV)(x:KV)(aa:Option Addr)(ab ao m ac:Nat)(T:List ByteArray)(w:World)(h:Fv w B v L)(hf:Lg (L.map KV.key))(hn:L.length<=500000)(hx:VOwn w B' x.key.val x.vi x.vp x.vr)(hxs:Hu x.key)(ha:Fs w aa ab ao m T)(hm:2<=m)(hm2:m<=20)(hB:B<=w.heap.size):
  Calls prog 107 #[v,kvV x,.string ⟨#[90,82,69,77]⟩,.slice aa m ac] w (Fh w B (M5 .ZREM (L.map KV.key) x.key T)):=by
 have Gf:=hx.rd (fun t ht=>by have:=hxs.ia t ht;omega);obtain⟨p1,d1,e1⟩:=Fx hx.ia;obtain⟨p2,d2,e2⟩:=Fx hx.pj;obtain⟨p3,d3,e3⟩:=Fx hx.rq;obtain⟨⟨xn,xv,xd⟩,vi,vp,vr⟩:=x;have Gb:=hx.rq;dsimp only at e1 e2 e3 Gf hxs Gb;subst e1 e2 e3;have Kn:xv.rq.length<=20:=hxs.nr;have Ka:=ha.len;have Gx:ab<w.heap.size:=ha.low (by omega);have Gr:Fs w aa ab ao m T:=ha;obtain rfl:=ha.addr (by omega);obtain⟨W0,Kb,Gz,b0,r0⟩:=boxed w (kC xn xv.kind xv.text (.slice p1 xv.ia.length d1) (.slice p2 xv.pj.length d2) (.slice p3 xv.rq.length d3) xd) 47;have ES:=L4 h hB b0;have Gj:Hid (∀W,Bl w W->∀i,i<m->W.cell? ⟨ab,ao+i,none⟩=some (.string (Fa T i))):=fun W hb i hi=>(Lb Gr hb).cell i hi;have Gt:=hIN;have HSET:Hid (∀W rv a n c Ga z,Bl w W->n<=100->Nw W a n c Ga->Fr W w.heap.size rv (Fe z)->Cp 147 #[v,.agg (kC xn xv.kind xv.text (.slice p1 xv.ia.length d1) (.slice p2 xv.pj.length d2) (.slice a n c) xd),rv] W (fun e w'=>Fh w B (Fj (L.map KV.key) ⟨xn,⟨xv.kind,xv.text,xv.ia,xv.pj,Ga⟩,xd⟩ (Fe z)) e w'/\Bl W w')):=fun W rv a n c Ga z hb h20 hp hr=>by
  obtain⟨A,Gg,Kc⟩:=hp.rd;obtain rfl:=hp.len;have hk:N1 ⟨xn,⟨xv.kind,xv.text,xv.ia,xv.pj,Ga⟩,xd⟩:=⟨⟨hxs.fit.fit.text,hxs.fit.fit.ia,hxs.fit.fit.pj,by show Ga.length<=_;omega⟩,hxs.fit.name,hxs.fit.ia⟩;have hv:VRd W (⟨xv.kind,xv.text,xv.ia,xv.pj,Ga⟩:Vl) (.slice p1 xv.ia.length d1) (.slice p2 xv.pj.length d2) (.slice a Ga.length c):=⟨(Gf.bw hb).ia,(Gf.bw hb).pj,⟨a,A,0,c,rfl,Gg,Kc⟩⟩;exact(Pv B v L ⟨⟨xn,⟨xv.kind,xv.text,xv.ia,xv.pj,Ga⟩,xd⟩,.slice p1 xv.ia.length d1,.slice p2 xv.pj.length d2,.slice a Ga.length c⟩ rv (Fe z) W (h.bw hb) hf hn hv hk hr (Qj hB hb.size) hb.size).mono fun e w' he=>⟨Mg.wide he hb,he.bel⟩
 have Gn:Hid (Nw W0 p3 xv.rq.length d3 xv.rq):=⟨L5 (Fw Gb b0) (Qs _),rfl⟩;obtain⟨y0,y1,y2,y3,y4,y5,y6⟩:=F6 r0;show Calls prog 107 #[v,.agg (kC xn xv.kind xv.text (.slice p1 xv.ia.length d1) (.slice p2 xv.pj.length d2) (.slice p3 xv.rq.length d3) xd),.string ⟨#[90,82,69,77]⟩,.slice (some ⟨ab,ao,none⟩) m ac] w (Fh w B (Fj (L.map KV.key) ⟨xn,⟨xv.kind,xv.text,xv.ia,xv.pj,(T.tail.foldl Kk.without xv.rq)⟩,xd⟩ (Fe ((xv.rq.length:Int)-((T.tail.foldl Kk.without xv.rq).length:Int)))));have Gm:Hid ((T.tail.foldl Kk.without xv.rq)=(T.drop 1).foldl Kk.without xv.rq):=by unfold Hid;rw[List.drop_one]
 have Gi:Hid (∀k Ga,k<m->(T.drop k).foldl Kk.without Ga=(T.drop (k+1)).foldl Kk.without (Kk.without Ga (Fa T k))):=fun k Ga hk=>yeu Ga T k (by omega);have Gl:Hid (∀Ga,(T.drop m).foldl Kk.without Ga=Ga):=fun Ga=>by rw[List.drop_eq_nil_of_le (by omega)];rfl
 have Gh:Hid (∀Ga s,(Kk.without Ga s).length<=Ga.length):=fun Ga s=>Kk.Rf Ga s;have Gc:Hid (∀is,(T.tail.foldl Kk.without xv.rq)=is->Fj (L.map KV.key) ⟨xn,⟨xv.kind,xv.text,xv.ia,xv.pj,(T.tail.foldl Kk.without xv.rq)⟩,xd⟩ (Fe ((xv.rq.length:Int)-((T.tail.foldl Kk.without xv.rq).length:Int)))=Fj (L.map KV.key) ⟨xn,⟨xv.kind,xv.text,xv.ia,xv.pj,is⟩,xd⟩ (Fe ((xv.rq.length:Int)-(is.length:Int)))):=fun is e=>by rw[e]
 clear h hf hx Gf hxs ha Gr Kb Gb;generalize Fj (L.map KV.key) ⟨xn,⟨xv.kind,xv.text,xv.ia,xv.pj,(T.tail.foldl Kk.without xv.rq)⟩,xd⟩ (Fe ((xv.rq.length:Int)-((T.tail.foldl Kk.without xv.rq).length:Int)))=SM at*;generalize(T.tail.foldl Kk.without xv.rq)=PA,L.map KV.key=K0,xv.ia.length=n1,xv.pj.length=n2 at*;generalize hn3:xv.rq.length=n3 at*;generalize xv.text=tx,xv.kind=kd at*;clear hn3;go_enter func107,ntmps107;go_upto_region 1 with fail;rw[Gz.out];go_wp2_with fail;go_loopw [20] (fun q wr=>∃(k:Nat) (a:Option Addr) (n c:Nat) (Ga:List Rk),1<=k/\k<=m/\q=.int .i64 k/\n<=20/\Hid (PA=(T.drop k).foldl Kk.without Ga)/\Hid (Nw wr a n c Ga)/\Hid (Fc wr w.heap.size 47 (kC xn kd tx (.slice p1 n1 d1) (.slice p2 n2 d2) (.slice a n c) xd))/\Bl w wr) (fun q _=>m-(intOf q).toNat)
 case atStart=>exact⟨1,p3,n3,d3,_,by omega,by omega,rfl,by omega,Gm,Gn,r0,b0⟩
 case round=>
  obtain⟨k,a,n,c,Ga,Ko,hk,rfl,Gv,hQ,hC,hR,bk⟩:=hrel;clear y0 y1 y2 y3 y4 y5 y6 r0;obtain⟨y0,y1,y2,y3,y4,y5,y6⟩:=F6 hR.out;by_cases hlt:k<m
  ·have ck:=Gj.out wr bk k (by omega);have Kd:Hid (PA=(T.drop (k+1)).foldl Kk.without (Kk.without Ga (Fa T k))):=hQ.out.trans (Gi.out k Ga hlt);have Gd:=Fc.lt hR.out;have HT:Hid (Cp 152 #[.slice a n c,.string (Fa T k)] wr.drew fun e w'=>∃a' n' c',e=.returned (.slice a' n' c')/\w'.cell? ⟨w.heap.size,5,none⟩=some (.slice a n c)/\w'.frozen? ⟨w.heap.size,5,none⟩=false/\Hid (n'<=20/\Nw (w'.setCell ⟨w.heap.size,5,none⟩ (.slice a' n' c')) a' n' c' (Kk.without Ga (Fa T k))/\Fc (w'.setCell ⟨w.heap.size,5,none⟩ (.slice a' n' c')) w.heap.size 47 (kC xn kd tx (.slice p1 n1 d1) (.slice p2 n2 d2) (.slice a' n' c') xd)/\Bl w (w'.setCell ⟨w.heap.size,5,none⟩ (.slice a' n' c')))):=by
    have Kh:Nw wr.drew a n c Ga:=⟨hC.out.own,hC.out.len⟩;obtain⟨A,Gg,_⟩:=Kh.rd;refine(Kk.zma a A 0 n c Ga (Fa T k) wr.drew Gg (by omega)).mono ?_;rintro e w'⟨A',c',rfl,ho,Gq⟩;have Kl:Nw w' (some ⟨A',0,none⟩) (Kk.without Ga (Fa T k)).length c' (Kk.without Ga (Fa T k)):=⟨L5 ho (Qs _),rfl⟩;have Ge:Fc w' w.heap.size 47 (kC xn kd tx (.slice p1 n1 d1) (.slice p2 n2 d2) (.slice a n c) xd):=Fc.bw (Fc.bw hR.out (below_drewN (Qb _ wr) 1) Gd) Gq (by exact Gd);have Kj:Bl w w':=bk.trans ((below_drewN (Qb _ wr) 1).mono bk.size|>.trans (Gq.mono bk.size));have z5:=Ge.cell 5;simp at z5;have hl:=Gh.out Ga (Fa T k);have:=hC.out.len;exact⟨_,_,c',rfl,z5,Ge.frozen 5,by omega,Kl.set Ge 5 _,Ge.set 5 _,Kj.setCell (Qc _) _⟩
   clear hR hC hQ Gm Gn Gi Gl Gh Gc HSET Gj Gt ES;generalize Kk.without Ga (Fa T k)=PP at*;generalize Fa T k=t at*;go_wp2_with fail
   go_region_law (first
    |(go_simp;refine HT.out.mono ?_;rintro e w'⟨a',n',c',rfl,z5,f5,HN⟩;dsimp only))
   all_goals
    go_wp2;go_roundw
    case rel=>exact⟨k+1,a',n',c',PP,by omega,by omega,by go_num,HN.out.1,Kd,HN.out.2.1,HN.out.2.2.1,HN.out.2.2.2⟩
    case measure=>simp[intOf];omega
  ·obtain rfl:k=m:=by omega
   have Gu:=hQ.out.trans (Gl.out Ga);have Gk:=Gc.out Ga Gu;rw[hC.out.len]at Gk;have Km:IntKind.i64.wrap ((n3:Int)-(n:Int))=(n3:Int)-(n:Int):=Kk.wrap_small (by omega) (by omega);have Gw:Hid (∀W rv,Bl w W->Bl wr W->Fr W w.heap.size rv (Fe ((n3:Int)-(n:Int)))->Cp 147 #[v,.agg (kC xn kd tx (.slice p1 n1 d1) (.slice p2 n2 d2) (.slice a n c) xd),rv] W (fun e w'=>Fh w B SM e w'/\Bl W w')):=fun W rv hb hb2 hr=>by
    rw[Gk];exact HSET.out W rv a n c Ga _ hb (by omega) (hC.out.bw hb2) hr
   have Gd:=Fc.lt hR.out;clear Gk Gu Gc HSET Gj hC hR hQ Gn Gm Gi Gl Gh ES;go_wp2_with fail;go_region_held3 (fun W=>W.cell? ⟨w.heap.size,0,none⟩=some (.string xn)/\W.cell? ⟨w.heap.size,1,none⟩=some (.int .i64 kd)/\W.cell? ⟨w.heap.size,2,none⟩=some (.string tx)/\W.cell? ⟨w.heap.size,3,none⟩=some (.slice p1 n1 d1)/\W.cell? ⟨w.heap.size,4,none⟩=some (.slice p2 n2 d2)/\W.cell? ⟨w.heap.size,5,none⟩=some (.slice a n c)/\W.cell? ⟨w.heap.size,6,none⟩=some (.int .i64 xd))
    (first|exact⟨y0,y1,y2,y3,y4,y5,y6⟩|exact(up7 b1 Gd ⟨y0,y1,y2,y3,y4,y5,y6⟩)|exact(up7 b2 Kf (up7 b1 Gd ⟨y0,y1,y2,y3,y4,y5,y6⟩)))
    (first
     |(go_at_call 141;refine(Gt.out _ ((n3:Int)-(n:Int))).mono ?_;rintro e w1⟨r,rfl,hr,b1⟩;have bd:Bl wr w1:=(below_drewN (Qb _ wr) 1).trans b1;have Gy:Fr w1 w.heap.size r (Fe ((n3:Int)-(n:Int))):=hr.le bk.size;have Kf:w.heap.size<w1.heap.size:=Qr Gd bd.size;have Ki:Bl w w1:=bk.trans (bd.mono bk.size))
     |(go_at_call 147;refine(Gw.out _ _ Ki bd Gy).mono ?_;rintro e w2⟨⟨v',r',L',rfl,hm,ho,Gp,Gs⟩,b2⟩;have HF:Hid (Fh w B SM (.returned (.tuple #[v',r'])) w2):=⟨v',r',L',rfl,hm,ho,Gp,Gs⟩;clear hm ho Gp Gs))
   all_goals
    go_wp2;go_ret2;exact HF.out
theorem znl(T:List ByteArray)(k:Nat)(h:k+1<T.length):T.drop k=Fa T k::Fa T (k+1)::T.drop (k+2):=by
 rw[List.drop_eq_getElem_cons (show k<T.length by omega),List.drop_eq_getElem_cons (show k+1<T.length by omega)];simp[Fa,List.getD_eq_getElem?_getD,List.getElem?_eq_getElem (show k<T.length by omega),List.getElem?_eq_getElem h]
theorem zwj(rs:List Rk)(T:List ByteArray)(k:Nat)(h:¬k+1<T.length):Mw rs (T.drop k)=some rs:=by
 have:(T.drop k).length<=1:=by rw[Qu];omega
 match h:T.drop k,this with
 |[],_=>simp[Mw]
 |[x],_=>simp[Mw]
theorem yb1(B B':Nat)(v:Value)(L:List KV)(x:KV)(aa:Option Addr)(ab ao m ac:Nat)(T:List ByteArray)(w:World)(h:Fv w B v L)(hf:Lg (L.map KV.key))(hn:L.length<=500000)(hx:VOwn w B' x.key.val x.vi x.vp x.vr)(hxs:Hu x.key)(ha:Fs w aa ab ao m T)(hm:2<=m)(hm2:m<=20)(hT:∀i,i<m->(Fa T i).size<=200)(hB:B<=w.heap.size):
  Calls prog 107 #[v,kvV x,.string ⟨#[90,65,68,68]⟩,.slice aa m ac] w (Fh w B (M5 .ZADD (L.map KV.key) x.key T)):=by
 have Gl:=hx.rd (fun t ht=>by have:=hxs.ia t ht;omega);obtain⟨p1,d1,e1⟩:=Fx hx.ia;obtain⟨p2,d2,e2⟩:=Fx hx.pj;obtain⟨p3,d3,e3⟩:=Fx hx.rq;obtain⟨⟨xn,xv,xd⟩,vi,vp,vr⟩:=x;have Ge:=hx.rq;dsimp only at e1 e2 e3 Gl hxs Ge;subst e1 e2 e3;have Kz:xv.rq.length<=20:=hxs.nr;have Km:=ha.len;have Ki:ab<w.heap.size:=ha.low (by omega);have Ka:Fs w aa ab ao m T:=ha;obtain rfl:=ha.addr (by omega);obtain⟨W0,Kn,Kl,b0,r0⟩:=boxed w (kC xn xv.kind xv.text (.slice p1 xv.ia.length d1) (.slice p2 xv.pj.length d2) (.slice p3 xv.rq.length d3) xd) 47;have ES:=L4 h hB b0;have Gi:Hid (∀W,Bl w W->∀i,i<m->W.cell? ⟨ab,ao+i,none⟩=some (.string (Fa T i))):=fun W hb i hi=>(Lb Ka hb).cell i hi;have Gt:=hIN;have HSET:Hid (∀W rv a n c Ga z,Bl w W->n<=100->Nw W a n c Ga->Fr W w.heap.size rv (Fe z)->Cp 147 #[v,.agg (kC xn xv.kind xv.text (.slice p1 xv.ia.length d1) (.slice p2 xv.pj.length d2) (.slice a n c) xd),rv] W (fun e w'=>Fh w B (Fj (L.map KV.key) ⟨xn,⟨xv.kind,xv.text,xv.ia,xv.pj,Ga⟩,xd⟩ (Fe z)) e w'/\Bl W w')):=fun W rv a n c Ga z hb h20 hp hr=>by
  obtain⟨A,Gr,Kp⟩:=hp.rd;obtain rfl:=hp.len;have hk:N1 ⟨xn,⟨xv.kind,xv.text,xv.ia,xv.pj,Ga⟩,xd⟩:=⟨⟨hxs.fit.fit.text,hxs.fit.fit.ia,hxs.fit.fit.pj,by show Ga.length<=_;omega⟩,hxs.fit.name,hxs.fit.ia⟩;have hv:VRd W (⟨xv.kind,xv.text,xv.ia,xv.pj,Ga⟩:Vl) (.slice p1 xv.ia.length d1) (.slice p2 xv.pj.length d2) (.slice a Ga.length c):=⟨(Gl.bw hb).ia,(Gl.bw hb).pj,⟨a,A,0,c,rfl,Gr,Kp⟩⟩;exact(Pv B v L ⟨⟨xn,⟨xv.kind,xv.text,xv.ia,xv.pj,Ga⟩,xd⟩,.slice p1 xv.ia.length d1,.slice p2 xv.pj.length d2,.slice a Ga.length c⟩ rv (Fe z) W (h.bw hb) hf hn hv hk hr (Qj hB hb.size) hb.size).mono fun e w' he=>⟨Mg.wide he hb,he.bel⟩
 have Gq:Hid (Nw W0 p3 xv.rq.length d3 xv.rq):=⟨L5 (Fw Ge b0) (Qs _),rfl⟩;obtain⟨y0,y1,y2,y3,y4,y5,y6⟩:=F6 r0;have Gv:=hER;have HI:Hid (∀W i,i<m->Cp 65 #[.string (Fa T i)] W fun e w'=>e=.returned (.tuple #[.int .i64 (Fg (Fa T i)).1,.bool (Fg (Fa T i)).2])/\w'=W):=fun W i hi=>Wy _ (by have:=hT i hi;omega) W;have Gm:Hid (∀R r w1 w2,Bl w w1->Fr w2 w1.heap.size r R->Bl w1 w2->Fh w B (L.map KV.key,R) (.returned (.tuple #[v,r])) w2):=fun R r w1 w2 h1 h2 h3=>Fh.same h hB h1 h2 h3;show Calls prog 107 #[v,.agg (kC xn xv.kind xv.text (.slice p1 xv.ia.length d1) (.slice p2 xv.pj.length d2) (.slice p3 xv.rq.length d3) xd),.string ⟨#[90,65,68,68]⟩,.slice (some ⟨ab,ao,none⟩) m ac] w (Fh w B (M5 .ZADD (L.map KV.key) ⟨xn,xv,xd⟩ T));have Gp:Hid (Mw xv.rq T.tail=Mw xv.rq (T.drop 1)):=by unfold Hid;rw[List.drop_one]
 have Gk:Hid (∀k Ga,k+1<m->(Fg (Fa T k)).2=true->Mw Ga (T.drop k)=Mw (Kk.Ho (Kk.without Ga (Fa T (k+1))) ⟨Fa T (k+1),(Fg (Fa T k)).1⟩) (T.drop (k+2))):=fun k Ga hk ho=>by rw[znl T k (by omega),Mw,if_pos ho]
 have Gb:Hid (∀k Ga,k+1<m->(Fg (Fa T k)).2=false->Mw Ga (T.drop k)=none):=fun k Ga hk ho=>by rw[znl T k (by omega),Mw,if_neg (by rw[ho];simp)]
 have Gn:Hid (∀k Ga,¬k+1<m->Mw Ga (T.drop k)=some Ga):=fun k Ga hk=>zwj Ga T k (by omega);have Gc:Hid (∀is,Mw xv.rq T.tail=some is->M5 .ZADD (L.map KV.key) ⟨xn,xv,xd⟩ T=Fj (L.map KV.key) ⟨xn,⟨xv.kind,xv.text,xv.ia,xv.pj,is⟩,xd⟩ (Fe ((is.length:Int)-(xv.rq.length:Int)))):=fun is e=>by
  simp only[M5];rw[e];rfl
 have Gd:Hid (Mw xv.rq T.tail=none->M5 .ZADD (L.map KV.key) ⟨xn,xv,xd⟩ T=(L.map KV.key,Fl F3)):=fun e=>by
  simp only[M5];rw[e]<;>rfl
 clear h hf hx Gl hxs ha Ka Kn Ge hT;generalize M5 .ZADD (L.map KV.key) ⟨xn,xv,xd⟩ T=SM,Mw xv.rq T.tail=PA at*;generalize L.map KV.key=K0,xv.ia.length=n1,xv.pj.length=n2 at*;generalize hn3:xv.rq.length=n3 at*;generalize xv.text=tx,xv.kind=kd at*;clear hn3;go_enter func107,ntmps107;go_upto_region 1 with fail;rw[Kl.out];go_wp2_with fail;go_loopw [21] (fun q wr=>∃(k:Nat) (a:Option Addr) (n c:Nat) (Ga:List Rk),1<=k/\k<=m/\q=.int .i64 k/\n<=20+k/\Hid (PA=Mw Ga (T.drop k))/\Hid (Nw wr a n c Ga)/\Hid (Fc wr w.heap.size 47 (kC xn kd tx (.slice p1 n1 d1) (.slice p2 n2 d2) (.slice a n c) xd))/\Bl w wr) (fun q _=>m-(intOf q).toNat)
 case atStart=>exact⟨1,p3,n3,d3,_,by omega,by omega,rfl,by omega,Gp,Gq,r0,b0⟩
 case round=>
  obtain⟨k,a,n,c,Ga,Sa,hk,rfl,Kf,hQ,hC,hR,bk⟩:=hrel;clear y0 y1 y2 y3 y4 y5 y6 r0;obtain⟨y0,y1,y2,y3,y4,y5,y6⟩:=F6 hR.out;have w1:IntKind.i64.wrap ((k:Int)+1)=(k:Int)+1:=Kk.wrap_small (by omega) (by omega);have Sd:(0:Int)<=(k:Int):=by omega
  have Sb:(0:Int)<=(k:Int)+1:=by omega
  have t1:((k:Int)+1).toNat=k+1:=by omega
  by_cases hlt:k+1<m
  ·have Ko:(k:Int)+1<(m:Int):=by omega
   have Kt:(k:Int)<(m:Int):=by omega
   have ck:=Gi.out wr bk k (by omega);have Sc:=Gi.out wr bk (k+1) hlt;have Gg:=HI.out wr k (by omega);cases hok:(Fg (Fa T k)).2 with
   |false=>
    have Gz:=hQ.out.trans (Gb.out k Ga hlt hok);have Kc:Hid _:=Gd.out Gz;have Gh:Hid (Cp 65 #[.string (Fa T k)] wr fun e w'=>e=.returned (.tuple #[.int .i64 (Fg (Fa T k)).1,.bool false])/\w'=wr):=by
     rw[hok]at Gg;exact Gg
    clear Gg Gz hR hC hQ Gp Gq Gk Gb Gn Gc Gd HSET Gi Gt HI ES hok;generalize(Fg (Fa T k)).1=z at*;generalize Fa T k=t,Fa T (k+1)=t' at*;go_wp2_with fail;refine Gh.out.mono ?_;rintro e w0⟨rfl,Gs⟩;subst Gs;clear Gh;go_wp2_with fail;refine(Gv.out _).mono ?_;rintro e w2⟨r,rfl,hr,hb⟩;have HF:Hid (Fh w B SM (.returned (.tuple #[v,r])) w2):=by
     unfold Hid;rw[Kc.out];exact Gm.out (Fl F3) r _ w2 bk hr hb
    clear hr hb Gm Kc;go_wp2;go_ret2;exact HF.out
   |true=>
    have Gh:Hid (Cp 65 #[.string (Fa T k)] wr fun e w'=>e=.returned (.tuple #[.int .i64 (Fg (Fa T k)).1,.bool true])/\w'=wr):=by
     rw[hok]at Gg;exact Gg
    have Kq:Hid (PA=Mw (Kk.Ho (Kk.without Ga (Fa T (k+1))) ⟨Fa T (k+1),(Fg (Fa T k)).1⟩) (T.drop (k+2))):=hQ.out.trans (Gk.out k Ga hlt hok);have Gf:=Fc.lt hR.out;have Gy:Hid (∀(Ga:List Rk) (s:ByteArray),(Kk.Ho (Kk.without Ga (Fa T (k+1))) ⟨Fa T (k+1),(Fg s).1⟩).length<=Ga.length+1):=fun Ga s=>by
     have:=Kk.Rf Ga (Fa T (k+1));rw[Kk.Bp];omega
    have HT:Hid (Cp 120 #[.slice a n c,.string (Fa T (k+1)),.int .i64 (Fg (Fa T k)).1] wr.drew fun e w'=>∃a' n' c',e=.returned (.slice a' n' c')/\w'.cell? ⟨w.heap.size,5,none⟩=some (.slice a n c)/\w'.frozen? ⟨w.heap.size,5,none⟩=false/\Hid (n'<=20+(k+2)/\Nw (w'.setCell ⟨w.heap.size,5,none⟩ (.slice a' n' c')) a' n' c' (Kk.Ho (Kk.without Ga (Fa T (k+1))) ⟨Fa T (k+1),(Fg (Fa T k)).1⟩)/\Fc (w'.setCell ⟨w.heap.size,5,none⟩ (.slice a' n' c')) w.heap.size 47 (kC xn kd tx (.slice p1 n1 d1) (.slice p2 n2 d2) (.slice a' n' c') xd)/\Bl w (w'.setCell ⟨w.heap.size,5,none⟩ (.slice a' n' c')))):=by
     have Ku:Nw wr.drew a n c Ga:=⟨hC.out.own,hC.out.len⟩;obtain⟨A,Gr,_⟩:=Ku.rd;refine(Kk.zln a A 0 n c Ga (Fa T (k+1)) (Fg (Fa T k)).1 wr.drew Gr (by omega)).mono ?_;rintro e w'⟨A',c',rfl,ho,Gx⟩;have Kx:Nw w' (some ⟨A',0,none⟩) (Kk.Ho (Kk.without Ga (Fa T (k+1))) ⟨Fa T (k+1),(Fg (Fa T k)).1⟩).length c' (Kk.Ho (Kk.without Ga (Fa T (k+1))) ⟨Fa T (k+1),(Fg (Fa T k)).1⟩):=⟨L5 ho (Qs _),rfl⟩;have Gj:Fc w' w.heap.size 47 (kC xn kd tx (.slice p1 n1 d1) (.slice p2 n2 d2) (.slice a n c) xd):=Fc.bw (Fc.bw hR.out (below_drewN (Qb _ wr) 1) Gf) Gx (by exact Gf);have Kw:Bl w w':=bk.trans ((below_drewN (Qb _ wr) 1).mono bk.size|>.trans (Gx.mono bk.size));have z5:=Gj.cell 5;simp at z5;have hl:=Gy.out Ga (Fa T k);have:=hC.out.len;exact⟨_,_,c',rfl,z5,Gj.frozen 5,by omega,Kx.set Gj 5 _,Gj.set 5 _,Kw.setCell (Qc _) _⟩
    clear hR hC hQ Gp Gq Gk Gb Gn Gy Gc Gd HSET Gi Gt HI ES Gm Gv Gg hok;generalize Kk.Ho (Kk.without Ga (Fa T (k+1))) ⟨Fa T (k+1),(Fg (Fa T k)).1⟩=PP at*;generalize(Fg (Fa T k)).1=z at*;generalize Fa T k=t,Fa T (k+1)=t' at*;go_wp2_with fail;refine Gh.out.mono ?_;rintro e w0⟨rfl,Gs⟩;subst Gs;clear Gh;go_wp2_with fail
    go_region_law (first
     |(go_simp;refine HT.out.mono ?_;rintro e w'⟨a',n',c',rfl,z5,f5,HN⟩;dsimp only))
    all_goals
     go_wp2;go_roundw
     case rel=>exact⟨k+2,a',n',c',PP,by omega,by omega,by go_num,HN.out.1,Kq,HN.out.2.1,HN.out.2.2.1,HN.out.2.2.2⟩
     case measure=>simp[intOf];omega
  ·have Ko:¬(k:Int)+1<(m:Int):=by omega
   have Kd:=hQ.out.trans (Gn.out k Ga hlt);have Gu:=Gc.out Ga Kd;rw[hC.out.len]at Gu;have Ky:IntKind.i64.wrap ((n:Int)-(n3:Int))=(n:Int)-(n3:Int):=Kk.wrap_small (by omega) (by omega);have Kh:Hid (∀W rv,Bl w W->Bl wr W->Fr W w.heap.size rv (Fe ((n:Int)-(n3:Int)))->Cp 147 #[v,.agg (kC xn kd tx (.slice p1 n1 d1) (.slice p2 n2 d2) (.slice a n c) xd),rv] W (fun e w'=>Fh w B SM e w'/\Bl W w')):=fun W rv hb hb2 hr=>by
    rw[Gu];exact HSET.out W rv a n c Ga _ hb (by omega) (hC.out.bw hb2) hr
   have Gf:=Fc.lt hR.out;clear Gu Kd Gc HSET Gi hC hR hQ Gq Gp Gk Gn Gb Gd HI Gv Gm ES;go_wp2_with fail;go_region_held3 (fun W=>W.cell? ⟨w.heap.size,0,none⟩=some (.string xn)/\W.cell? ⟨w.heap.size,1,none⟩=some (.int .i64 kd)/\W.cell? ⟨w.heap.size,2,none⟩=some (.string tx)/\W.cell? ⟨w.heap.size,3,none⟩=some (.slice p1 n1 d1)/\W.cell? ⟨w.heap.size,4,none⟩=some (.slice p2 n2 d2)/\W.cell? ⟨w.heap.size,5,none⟩=some (.slice a n c)/\W.cell? ⟨w.heap.size,6,none⟩=some (.int .i64 xd))
    (first|exact⟨y0,y1,y2,y3,y4,y5,y6⟩|exact(up7 b1 Gf ⟨y0,y1,y2,y3,y4,y5,y6⟩)|exact(up7 b2 Kr (up7 b1 Gf ⟨y0,y1,y2,y3,y4,y5,y6⟩)))
    (first
     |(go_at_call 141;refine(Gt.out _ ((n:Int)-(n3:Int))).mono ?_;rintro e w1⟨r,rfl,hr,b1⟩;have bd:Bl wr w1:=(below_drewN (Qb _ wr) 1).trans b1;have Kj:Fr w1 w.heap.size r (Fe ((n:Int)-(n3:Int))):=hr.le bk.size;have Kr:w.heap.size<w1.heap.size:=Qr Gf bd.size;have Kv:Bl w w1:=bk.trans (bd.mono bk.size))
     |(go_at_call 147;refine(Kh.out _ _ Kv bd Kj).mono ?_;rintro e w2⟨⟨v',r',L',rfl,hm,ho,Gw,Kb⟩,b2⟩;have HF:Hid (Fh w B SM (.returned (.tuple #[v',r'])) w2):=⟨v',r',L',rfl,hm,ho,Gw,Kb⟩;clear hm ho Gw Kb))
   all_goals
    go_wp2;go_ret2;exact HF.out
end
section
open Tryz
open Go.RowKit Go.Sort
open Kk (Rk rk0 G8 Mp F1 L7 Hv G9 Fo G6 encR F7 Le str_eq)
variable {w:World} {a:Option Addr} {n c:Nat} {cur:List Pr} {v:Value}
theorem zvd(nm tx:ByteArray):∀(T:List Pr) (s:List Pr×Bool),(T.foldl (L8 nm tx) s).1.length+(if(T.foldl (L8 nm tx) s).2=true then 0 else 1)<=s.1.length+T.length+(if s.2=true then 0 else 1)
 |[],s=>Qc _
 |p::T,s=>by
  have h:=zvd nm tx T (L8 nm tx s p);have h2:(L8 nm tx s p).1.length+(if(L8 nm tx s p).2=true then 0 else 1)<=s.1.length+1+(if s.2=true then 0 else 1):=by
   unfold L8;obtain⟨s1,s2⟩:=s;cases s2<;>by_cases h1:p.1=nm<;>by_cases h2:geS p.1 nm=true<;>simp[h1,h2]<;> (try split)<;>simp<;>omega
  rw[List.foldl_cons,Q1];omega
theorem yho(T:List Pr)(nm tx:ByteArray):(Mx T nm tx).length<=T.length+1:=by
 have h:=zvd nm tx T ([],false);unfold Mx Nz;split
 ·next h1=>rw[if_pos h1]at h;simp at h;omega
 ·next h1=>rw[if_neg h1]at h;simp at h ⊢;omega
structure Nt (w:World) (a:Option Addr) (n c:Nat) (cur:List Pr):Prop where
 own:G3 w 0 (.slice a n c) cur
 len:cur.length=n
theorem Nt.rd(h:Nt w a n c cur):∃A,Li w a A n cur/\(a=none->c=0):=by
 obtain⟨a',A,c',e,hs⟩:=Ox h.own;injection e with q1 q2 q3;subst q1 q3;rw[h.len]at hs;refine⟨A,hs,fun e=>?_⟩;rcases Joins.ownsRow_forms h.own with⟨h1,_⟩|⟨g,cap,h1⟩
 ·injection h1 with r1 r2 r3
 ·injection h1 with r1 r2 r3;rw[e]at r1;cases r1
theorem Nt.of{B:Nat}(h:G3 w B v cur):∃a c,v=.slice a cur.length c/\Nt w a cur.length c cur:=by
 obtain⟨a,A,c,e,hs⟩:=Ox h;subst e;exact⟨a,c,rfl,L5 h (Qs _),rfl⟩
theorem Nt.set{G:Nat}{C:Array Value}(h:Nt w a n c cur)(hr:Fc w G 47 C)(j:Nat)(x:Value):Nt (w.setCell ⟨G,j,none⟩ x) a n c cur:=
 ⟨Lt h.own fun g hg=>by
  obtain⟨C,Ga⟩:=M3 h.own hg
  exact Below.heap_setCell _ _ _ _ (fun e=>by
   have e2:g=G:=e;subst e2;exact absurd (Hp.N9 Ga hr) (by decide)),h.len⟩
theorem Nt.bw{w':World}(h:Nt w a n c cur)(hb:Bl w w'):Nt w' a n c cur:=⟨Fw h.own hb,h.len⟩
section
variable (ps:List Pr) (T:List ByteArray) (k:Nat)
theorem zsr(h:k+1<T.length):Hm ps (T.drop k)=Hm (Mx ps (Fa T k) (Fa T (k+1))) (T.drop (k+2)):=by
 rw[List.drop_eq_getElem_cons (show k<T.length by omega),List.drop_eq_getElem_cons (show k+1<T.length by omega)];rw[Hm];simp[Fa,List.getD_eq_getElem?_getD,List.getElem?_eq_getElem (show k<T.length by omega),List.getElem?_eq_getElem h]
theorem zxy(h:¬k+1<T.length):Hm ps (T.drop k)=ps:=by
 have:(T.drop k).length<=1:=by rw[Qu];omega
 match h:T.drop k,this with
 |[],_=>simp[Hm]
 |[x],_=>simp[Hm]
end
theorem yb6(B B':Nat)(v:Value)(L:List KV)(x:KV)(aa:Option Addr)(ab ao m ac:Nat)(T:List ByteArray)(w:World)(h:Fv w B v L)(hf:Lg (L.map KV.key))(hn:L.length<=500000)(hx:VOwn w B' x.key.val x.vi x.vp x.vr)(hxs:Hu x.key)(ha:Fs w aa ab ao m T)(hm:2<=m)(hm2:m<=20)(hB:B<=w.heap.size):
  Calls prog 106 #[v,kvV x,.string ⟨#[72,83,69,84]⟩,.slice aa m ac] w (Fh w B (Om .HSET (L.map KV.key) x.key T)):=by
 have Gg:=hx.rd (fun t ht=>by have:=hxs.ia t ht;omega);obtain⟨p1,d1,e1⟩:=Fx hx.ia;obtain⟨p2,d2,e2⟩:=Fx hx.pj;obtain⟨p3,d3,e3⟩:=Fx hx.rq;obtain⟨⟨xn,xv,xd⟩,vi,vp,vr⟩:=x;have Gb:=hx.pj;dsimp only at e1 e2 e3 Gg hxs Gb;subst e1 e2 e3;have Kn:xv.pj.length<=20:=hxs.np;have Gz:=ha.len;have Gw:ab<w.heap.size:=ha.low (by omega);have Gq:Fs w aa ab ao m T:=ha;obtain rfl:=ha.addr (by omega);obtain⟨W0,Ka,Gy,b0,r0⟩:=boxed w (kC xn xv.kind xv.text (.slice p1 xv.ia.length d1) (.slice p2 xv.pj.length d2) (.slice p3 xv.rq.length d3) xd) 47;have ES:=L4 h hB b0;have Gf:Hid (∀W,Bl w W->∀i,i<m->W.cell? ⟨ab,ao+i,none⟩=some (.string (Fa T i))):=fun W hb i hi=>(Lb Gq hb).cell i hi;have Gs:=hIN;have HSET:Hid (∀W rv a n c Ga z,Bl w W->n<=100->Nt W a n c Ga->Fr W w.heap.size rv (Fe z)->Cp 147 #[v,.agg (kC xn xv.kind xv.text (.slice p1 xv.ia.length d1) (.slice a n c) (.slice p3 xv.rq.length d3) xd),rv] W (fun e w'=>Fh w B (Fj (L.map KV.key) ⟨xn,⟨xv.kind,xv.text,xv.ia,Ga,xv.rq⟩,xd⟩ (Fe z)) e w'/\Bl W w')):=fun W rv a n c Ga z hb h20 hp hr=>by
  obtain⟨A,Gh,Kc⟩:=hp.rd;obtain rfl:=hp.len;have hk:N1 ⟨xn,⟨xv.kind,xv.text,xv.ia,Ga,xv.rq⟩,xd⟩:=⟨⟨hxs.fit.fit.text,hxs.fit.fit.ia,by show Ga.length<=_;omega,hxs.fit.fit.rq⟩,hxs.fit.name,hxs.fit.ia⟩;have hv:VRd W (⟨xv.kind,xv.text,xv.ia,Ga,xv.rq⟩:Vl) (.slice p1 xv.ia.length d1) (.slice a Ga.length c) (.slice p3 xv.rq.length d3):=⟨(Gg.bw hb).ia,⟨a,A,c,rfl,Gh,Kc⟩,(Gg.bw hb).rq⟩;exact(Pv B v L ⟨⟨xn,⟨xv.kind,xv.text,xv.ia,Ga,xv.rq⟩,xd⟩,.slice p1 xv.ia.length d1,.slice a Ga.length c,.slice p3 xv.rq.length d3⟩ rv (Fe z) W (h.bw hb) hf hn hv hk hr (Qj hB hb.size) hb.size).mono fun e w' he=>⟨Mg.wide he hb,he.bel⟩
 have Gm:Hid (Nt W0 p2 xv.pj.length d2 xv.pj):=⟨L5 (Fw Gb b0) (Qs _),rfl⟩;obtain⟨y0,y1,y2,y3,y4,y5,y6⟩:=F6 r0;show Calls prog 106 #[v,.agg (kC xn xv.kind xv.text (.slice p1 xv.ia.length d1) (.slice p2 xv.pj.length d2) (.slice p3 xv.rq.length d3) xd),.string ⟨#[72,83,69,84]⟩,.slice (some ⟨ab,ao,none⟩) m ac] w (Fh w B (Fj (L.map KV.key) ⟨xn,⟨xv.kind,xv.text,xv.ia,Hm xv.pj T.tail,xv.rq⟩,xd⟩ (Fe (((Hm xv.pj T.tail).length:Int)-(xv.pj.length:Int)))));have Gl:Hid (Hm xv.pj T.tail=Hm xv.pj (T.drop 1)):=by unfold Hid;rw[List.drop_one]
 have Gi:Hid (∀k Ga,k+1<m->Hm Ga (T.drop k)=Hm (Mx Ga (Fa T k) (Fa T (k+1))) (T.drop (k+2))):=fun k Ga hk=>zsr Ga T k (by omega);have Gk:Hid (∀k Ga,¬k+1<m->Hm Ga (T.drop k)=Ga):=fun k Ga hk=>zxy Ga T k (by omega);have Gc:Hid (∀is,Hm xv.pj T.tail=is->Fj (L.map KV.key) ⟨xn,⟨xv.kind,xv.text,xv.ia,Hm xv.pj T.tail,xv.rq⟩,xd⟩ (Fe (((Hm xv.pj T.tail).length:Int)-(xv.pj.length:Int)))=Fj (L.map KV.key) ⟨xn,⟨xv.kind,xv.text,xv.ia,is,xv.rq⟩,xd⟩ (Fe ((is.length:Int)-(xv.pj.length:Int)))):=fun is e=>by rw[e]
 clear h hf hx Gg hxs ha Gq Ka Gb;generalize Fj (L.map KV.key) ⟨xn,⟨xv.kind,xv.text,xv.ia,Hm xv.pj T.tail,xv.rq⟩,xd⟩ (Fe (((Hm xv.pj T.tail).length:Int)-(xv.pj.length:Int)))=SM at*;generalize Hm xv.pj T.tail=PA,L.map KV.key=K0,xv.ia.length=n1 at*;generalize hn2:xv.pj.length=n2 at*;generalize xv.rq.length=n3,xv.text=tx,xv.kind=kd at*;clear hn2;go_enter func106,ntmps106;go_upto_region 1 with fail;rw[Gy.out];go_wp2_with fail;go_loopw [18] (fun q wr=>∃(k:Nat) (a:Option Addr) (n c:Nat) (Ga:List Pr),1<=k/\k<=m/\q=.int .i64 k/\n<=20+k/\Hid (PA=Hm Ga (T.drop k))/\Hid (Nt wr a n c Ga)/\Hid (Fc wr w.heap.size 47 (kC xn kd tx (.slice p1 n1 d1) (.slice a n c) (.slice p3 n3 d3) xd))/\Bl w wr) (fun q _=>m-(intOf q).toNat)
 case atStart=>exact⟨1,p2,n2,d2,_,by omega,by omega,rfl,by omega,Gl,Gm,r0,b0⟩
 case round=>
  obtain⟨k,a,n,c,Ga,Kp,hk,rfl,Gu,hQ,hC,hR,bk⟩:=hrel;clear y0 y1 y2 y3 y4 y5 y6 r0;obtain⟨y0,y1,y2,y3,y4,y5,y6⟩:=F6 hR.out;have w1:IntKind.i64.wrap ((k:Int)+1)=(k:Int)+1:=Kk.wrap_small (by omega) (by omega);have Kt:(0:Int)<=(k:Int):=by omega
  have Kq:(0:Int)<=(k:Int)+1:=by omega
  have t1:((k:Int)+1).toNat=k+1:=by omega
  by_cases hlt:k+1<m
  ·have Kb:(k:Int)+1<(m:Int):=by omega
   have Kh:(k:Int)<(m:Int):=by omega
   have ck:=Gf.out wr bk k (by omega);have Kr:=Gf.out wr bk (k+1) hlt;have Kd:Hid (PA=Hm (Mx Ga (Fa T k) (Fa T (k+1))) (T.drop (k+2))):=hQ.out.trans (Gi.out k Ga hlt);have Gd:=Fc.lt hR.out;have HT:Hid (Cp 150 #[.slice a n c,.string (Fa T k),.string (Fa T (k+1))] wr.drew fun e w'=>∃a' n' c',e=.returned (.slice a' n' c')/\w'.cell? ⟨w.heap.size,4,none⟩=some (.slice a n c)/\w'.frozen? ⟨w.heap.size,4,none⟩=false/\Hid (n'<=20+(k+2)/\Nt (w'.setCell ⟨w.heap.size,4,none⟩ (.slice a' n' c')) a' n' c' (Mx Ga (Fa T k) (Fa T (k+1)))/\Fc (w'.setCell ⟨w.heap.size,4,none⟩ (.slice a' n' c')) w.heap.size 47 (kC xn kd tx (.slice p1 n1 d1) (.slice a' n' c') (.slice p3 n3 d3) xd)/\Bl w (w'.setCell ⟨w.heap.size,4,none⟩ (.slice a' n' c')))):=by
    have Ki:Nt wr.drew a n c Ga:=⟨hC.out.own,hC.out.len⟩;obtain⟨A,Gh,_⟩:=Ki.rd;refine(yg2 a A n c Ga (Fa T k) (Fa T (k+1)) wr.drew Gh (by omega)).mono ?_;rintro e w'⟨v',rfl,ho,Gp⟩;obtain⟨a',c',rfl,Km⟩:=Nt.of ho;have Ge:Fc w' w.heap.size 47 (kC xn kd tx (.slice p1 n1 d1) (.slice a n c) (.slice p3 n3 d3) xd):=Fc.bw (Fc.bw hR.out (below_drewN (Qb _ wr) 1) Gd) Gp (by exact Gd);have Kl:Bl w w':=bk.trans ((below_drewN (Qb _ wr) 1).mono bk.size|>.trans (Gp.mono bk.size));have z4:=Ge.cell 4;simp at z4;have hl:=yho Ga (Fa T k) (Fa T (k+1));have:=hC.out.len;exact⟨a',_,c',rfl,z4,Ge.frozen 4,by omega,Km.set Ge 4 _,Ge.set 4 _,Kl.setCell (Qc _) _⟩
   clear hR hC hQ Gl Gm Gi Gk Gc HSET Gf Gs ES;generalize Mx Ga (Fa T k) (Fa T (k+1))=PP at*;generalize Fa T k=t,Fa T (k+1)=t' at*;go_wp2_with fail
   go_region_law (first
    |(go_simp;refine HT.out.mono ?_;rintro e w'⟨a',n',c',rfl,z4,f4,HN⟩;dsimp only))
   all_goals
    go_wp2;go_roundw
    case rel=>exact⟨k+2,a',n',c',PP,by omega,by omega,by go_num,HN.out.1,Kd,HN.out.2.1,HN.out.2.2.1,HN.out.2.2.2⟩
    case measure=>simp[intOf];omega
  ·have Kb:¬(k:Int)+1<(m:Int):=by omega
   have Gt:=hQ.out.trans (Gk.out k Ga hlt);have Gj:=Gc.out Ga Gt;rw[hC.out.len]at Gj;have Ko:IntKind.i64.wrap ((n:Int)-(n2:Int))=(n:Int)-(n2:Int):=Kk.wrap_small (by omega) (by omega);have Gv:Hid (∀W rv,Bl w W->Bl wr W->Fr W w.heap.size rv (Fe ((n:Int)-(n2:Int)))->Cp 147 #[v,.agg (kC xn kd tx (.slice p1 n1 d1) (.slice a n c) (.slice p3 n3 d3) xd),rv] W (fun e w'=>Fh w B SM e w'/\Bl W w')):=fun W rv hb hb2 hr=>by
    rw[Gj];exact HSET.out W rv a n c Ga _ hb (by omega) (hC.out.bw hb2) hr
   have Gd:=Fc.lt hR.out;clear Gj Gt Gc HSET Gf hC hR hQ Gm Gl Gi Gk ES;go_wp2_with fail;go_region_held3 (fun W=>W.cell? ⟨w.heap.size,0,none⟩=some (.string xn)/\W.cell? ⟨w.heap.size,1,none⟩=some (.int .i64 kd)/\W.cell? ⟨w.heap.size,2,none⟩=some (.string tx)/\W.cell? ⟨w.heap.size,3,none⟩=some (.slice p1 n1 d1)/\W.cell? ⟨w.heap.size,4,none⟩=some (.slice a n c)/\W.cell? ⟨w.heap.size,5,none⟩=some (.slice p3 n3 d3)/\W.cell? ⟨w.heap.size,6,none⟩=some (.int .i64 xd))
    (first|exact⟨y0,y1,y2,y3,y4,y5,y6⟩|exact(up7 b1 Gd ⟨y0,y1,y2,y3,y4,y5,y6⟩)|exact(up7 b2 Kf (up7 b1 Gd ⟨y0,y1,y2,y3,y4,y5,y6⟩)))
    (first
     |(go_at_call 141;refine(Gs.out _ ((n:Int)-(n2:Int))).mono ?_;rintro e w1⟨r,rfl,hr,b1⟩;have bd:Bl wr w1:=(below_drewN (Qb _ wr) 1).trans b1;have Gx:Fr w1 w.heap.size r (Fe ((n:Int)-(n2:Int))):=hr.le bk.size;have Kf:w.heap.size<w1.heap.size:=Qr Gd bd.size;have Kj:Bl w w1:=bk.trans (bd.mono bk.size))
     |(go_at_call 147;refine(Gv.out _ _ Kj bd Gx).mono ?_;rintro e w2⟨⟨v',r',L',rfl,hm,ho,Gn,Gr⟩,b2⟩;have HF:Hid (Fh w B SM (.returned (.tuple #[v',r'])) w2):=⟨v',r',L',rfl,hm,ho,Gn,Gr⟩;clear hm ho Gn Gr))
   all_goals
    go_wp2;go_ret2;exact HF.out
theorem PI.drewN{wr:World}{M:List Pr}(h:PI w v wr M)(d:Nat):PI w v (wr.drewN d) M:=
 ⟨Fw h.own (below_drewN (Qb _ wr) d),h.bel.trans ((below_drewN (Qb _ wr) d).mono h.bel.size)⟩
theorem Cy(a b:ByteArray):(a==b)=decide (a=b):=by
 obtain⟨⟨a⟩⟩:=a;obtain⟨⟨b⟩⟩:=b;by_cases h:a=b
 ·subst h;rw[Qe rfl];show((_:Array UInt8)==_)=true;simp
 ·rw[Qf (by simpa using h)];show((_:Array UInt8)==_)=false;simpa using h
def Me (T:List ByteArray) (x:ByteArray) (j:Nat):Bool:=((T.take j).drop 1).contains x
theorem zz5(T:List ByteArray)(x:ByteArray)(j:Nat)(h1:1<=j)(h:j<T.length):Me T x (j+1)=(Me T x j||decide (Fa T j=x)):=by
 unfold Me;rw[Qo h,List.drop_append_of_le_length (by rw[Qn];omega)];rw[show Fa T j=T[j] by simp[Fa,List.getD_eq_getElem?_getD,List.getElem?_eq_getElem h]];by_cases hx:x=T[j]
 ·subst hx;simp[Cy]
 ·have Ga:¬T[j]=x:=fun e=>hx e.symm;simp[Cy,hx,Ga]
theorem zyc(T:List ByteArray)(ps:List Pr)(k:Nat)(h:k<ps.length):(ps.take (k+1)).filter (fun p=>!(T.tail.contains p.1))=(ps.take k).filter (fun p=>!(T.tail.contains p.1))++(if T.tail.contains (ps.getD k (bz,bz)).1=true then[] else[(ps.getD k (bz,bz))]):=by
 rw[Qo h,List.filter_append];rw[show(ps.getD k (bz,bz))=ps[k] by rw[Qa,Qd h];rfl];by_cases hc:T.tail.contains (ps[k]).1=true
 ·rw[if_pos hc,List.filter_cons,hc];rfl
 ·have Ga:T.tail.contains (ps[k]).1=false:=by simpa using hc
  rw[if_neg hc,List.filter_cons,Ga];rfl
theorem zyi(B B':Nat)(v:Value)(L:List KV)(x:KV)(aa:Option Addr)(ab ao m ac:Nat)(T:List ByteArray)(w:World)(h:Fv w B v L)(hf:Lg (L.map KV.key))(hn:L.length<=500000)(hx:VOwn w B' x.key.val x.vi x.vp x.vr)(hxs:Hu x.key)(ha:Fs w aa ab ao m T)(hm:2<=m)(hm2:m<=20)(hB:B<=w.heap.size):
  Calls prog 106 #[v,kvV x,.string ⟨#[72,68,69,76]⟩,.slice aa m ac] w (Fh w B (Om .HDEL (L.map KV.key) x.key T)):=by
 have Gn:=hx.rd (fun t ht=>by have:=hxs.ia t ht;omega);obtain⟨p1,d1,e1⟩:=Fx hx.ia;obtain⟨p2,d2,e2⟩:=Fx hx.pj;obtain⟨p3,d3,e3⟩:=Fx hx.rq;obtain⟨⟨xn,xv,xd⟩,vi,vp,vr⟩:=x;have Gc:=hx.pj;dsimp only at e1 e2 e3 Gn hxs Gc;subst e1 e2 e3;have Kz:xv.pj.length<=20:=hxs.np;have Kr:=ha.len;have Kn:ab<w.heap.size:=ha.low (by omega);have Kb:Fs w aa ab ao m T:=ha;obtain rfl:=ha.addr (by omega);obtain⟨W0,Kt,Kp,b0,r0⟩:=boxed w (kC xn xv.kind xv.text (.slice p1 xv.ia.length d1) (.slice p2 xv.pj.length d2) (.slice p3 xv.rq.length d3) xd) 47;have ES:=L4 h hB b0;have Gt:Hid (∀W,Bl w W->∀i,i<m->W.cell? ⟨ab,ao+i,none⟩=some (.string (Fa T i))):=fun W hb i hi=>(Lb Kb hb).cell i hi;have Kd:=hIN;have HSET:Hid (∀W rv a n c cur z,Bl w W->n<=100->Nt W a n c cur->Fr W w.heap.size rv (Fe z)->Cp 147 #[v,.agg (kC xn xv.kind xv.text (.slice p1 xv.ia.length d1) (.slice a n c) (.slice p3 xv.rq.length d3) xd),rv] W (fun e w'=>Fh w B (Fj (L.map KV.key) ⟨xn,⟨xv.kind,xv.text,xv.ia,cur,xv.rq⟩,xd⟩ (Fe z)) e w'/\Bl W w')):=fun W rv a n c cur z hb h20 hp hr=>by
  obtain⟨A,Gp,Ku⟩:=hp.rd;obtain rfl:=hp.len;have hk:N1 ⟨xn,⟨xv.kind,xv.text,xv.ia,cur,xv.rq⟩,xd⟩:=⟨⟨hxs.fit.fit.text,hxs.fit.fit.ia,by show cur.length<=_;omega,hxs.fit.fit.rq⟩,hxs.fit.name,hxs.fit.ia⟩;have hv:VRd W (⟨xv.kind,xv.text,xv.ia,cur,xv.rq⟩:Vl) (.slice p1 xv.ia.length d1) (.slice a cur.length c) (.slice p3 xv.rq.length d3):=⟨(Gn.bw hb).ia,⟨a,A,c,rfl,Gp,Ku⟩,(Gn.bw hb).rq⟩;exact(Pv B v L ⟨⟨xn,⟨xv.kind,xv.text,xv.ia,cur,xv.rq⟩,xd⟩,.slice p1 xv.ia.length d1,.slice a cur.length c,.slice p3 xv.rq.length d3⟩ rv (Fe z) W (h.bw hb) hf hn hv hk hr (Qj hB hb.size) hb.size).mono fun e w' he=>⟨Mg.wide he hb,he.bel⟩
 have Ky:Hid (Nt W0 p2 xv.pj.length d2 xv.pj):=⟨L5 (Fw Gc b0) (Qs _),rfl⟩;obtain⟨y0,y1,y2,y3,y4,y5,y6⟩:=F6 r0;have HP:Hid (∃P2,Li w p2 P2 xv.pj.length xv.pj):=by
  obtain⟨a,A,c,e,Gp⟩:=Ox Gc;injection e with q1 q2 q3;subst q1;exact⟨A,Gp⟩
 obtain⟨P2,i2⟩:=HP.out;clear HP;have HP:Hid (Li w p2 P2 xv.pj.length xv.pj):=i2;have HY:Hid (Fc W0 w.heap.size 47 (kC xn xv.kind xv.text (.slice p1 xv.ia.length d1) (.slice p2 xv.pj.length d2) (.slice p3 xv.rq.length d3) xd)):=r0;have HS:Hid (PI W0 _ _ ((xv.pj.take 0).filter fun p=>!(T.tail.contains p.1))):=PI.start W0;have HZ:Hid (xv.pj.take xv.pj.length=xv.pj):=List.take_length;have Gr:Hid (∀k,k<xv.pj.length->_):=fun k hk=>zyc T xv.pj k hk;have Gx:Hid (∀x,Me T x 1=false):=fun x=>by
  unfold Me;rw[List.drop_eq_nil_of_le (by rw[Qn];omega)];rfl
 have Gw:Hid (∀x j,1<=j->j<m->Me T x (j+1)=(Me T x j||decide (Fa T j=x))):=fun x j h1 hj=>zz5 T x j h1 (by omega);have Gu:Hid (∀x,T.tail.contains x=Me T x m):=fun x=>by
  unfold Me;rw[List.take_of_length_le (by omega),List.drop_one]
 have Gl:Hid (∀k,((xv.pj.take k).filter fun p=>!(T.tail.contains p.1)).length<=20):=fun k=>Qj (Qt _ _) (by rw[Qn];omega);show Calls prog 106 #[v,.agg (kC xn xv.kind xv.text (.slice p1 xv.ia.length d1) (.slice p2 xv.pj.length d2) (.slice p3 xv.rq.length d3) xd),.string ⟨#[72,68,69,76]⟩,.slice (some ⟨ab,ao,none⟩) m ac] w (Fh w B (Fj (L.map KV.key) ⟨xn,⟨xv.kind,xv.text,xv.ia,(xv.pj.filter fun p=>!(T.tail.contains p.1)),xv.rq⟩,xd⟩ (Fe ((xv.pj.length:Int)-((xv.pj.filter fun p=>!(T.tail.contains p.1)).length:Int)))));have Gg:Hid (∀n,(xv.pj.filter fun p=>!(T.tail.contains p.1)).length=n->Fj (L.map KV.key) ⟨xn,⟨xv.kind,xv.text,xv.ia,(xv.pj.filter fun p=>!(T.tail.contains p.1)),xv.rq⟩,xd⟩ (Fe ((xv.pj.length:Int)-((xv.pj.filter fun p=>!(T.tail.contains p.1)).length:Int)))=Fj (L.map KV.key) ⟨xn,⟨xv.kind,xv.text,xv.ia,(xv.pj.filter fun p=>!(T.tail.contains p.1)),xv.rq⟩,xd⟩ (Fe ((xv.pj.length:Int)-(n:Int)))):=fun n e=>by rw[e]
 clear h hf hx Gn hxs ha Kb Kt Gc i2 Ky;generalize hSMx:Fj (L.map KV.key) ⟨xn,⟨xv.kind,xv.text,xv.ia,(xv.pj.filter fun p=>!(T.tail.contains p.1)),xv.rq⟩,xd⟩ (Fe ((xv.pj.length:Int)-((xv.pj.filter fun p=>!(T.tail.contains p.1)).length:Int)))=SM at*;clear hSMx;generalize L.map KV.key=K0,xv.ia.length=n1 at*;generalize hn2:xv.pj.length=n2 at*;generalize xv.rq.length=n3,xv.text=tx,xv.kind=kd at*;clear hn2 r0;go_enter func106,ntmps106;go_upto_region 1 with fail;rw[Kp.out];go_wp2_with fail;clear y0 y1 y2 y3 y4 y5 y6;go_loopw [14,15] (fun v i wr=>∃k:Nat,k<=n2/\i=.int .i64 k/\Hid (PI W0 v wr ((xv.pj.take k).filter fun p=>!(T.tail.contains p.1)))) (fun _ i _=>n2-(intOf i).toNat)
 case atStart=>exact⟨0,by omega,rfl,HS⟩
 case round=>
  obtain⟨k,hk,rfl,hI⟩:=hrel;clear HS;have Ge:Fc wr w.heap.size 47 (kC xn kd tx (.slice p1 n1 d1) (.slice p2 n2 d2) (.slice p3 n3 d3) xd):=Fc.bw HY.out hI.out.bel (Fc.lt HY.out);have bw:Bl w wr:=b0.trans (hI.out.bel.mono b0.size);by_cases hlt:k<n2
  ·obtain⟨y0,y1,y2,y3,y4,y5,y6⟩:=F6 Ge;have q0:=(HP.out.bw bw).c0 k hlt;have q1:=(HP.out.bw bw).c1 k hlt;obtain rfl:=HP.out.addr (by omega);have Gv:=Gr.out k hlt;have Ka:=Gt.out wr bw;rw[Gu.out]at Gv;have Gi:Hid (((xv.pj.take (k+1)).filter fun p=>!(T.tail.contains p.1))=((xv.pj.take k).filter fun p=>!(T.tail.contains p.1))++(if Me T (xv.pj.getD k (bz,bz)).1 m=true then[] else[((xv.pj.getD k (bz,bz)).1,(xv.pj.getD k (bz,bz)).2)])):=Gv;have Gd:Hid (∀i,i<m->wr.cell? ⟨ab,ao+i,none⟩=some (.string (Fa T i))):=Ka;have Kw:=Gl.out k;have Sd:(0:Int)<=(k:Int):=by omega
   have Sf:(k:Int)<(n2:Int):=by omega
   clear Gv Ka Ge Gr Gu Gg HSET Gt Kd ES HP HZ Gl HY;generalize(xv.pj.getD k (bz,bz)).1=xa,(xv.pj.getD k (bz,bz)).2=xb at*;have Gh:=Gx.out xa;have Kj:Hid (Me T xa 1=false):=Gh;have Gf:Hid (∀j,1<=j->j<m->Me T xa (j+1)=(Me T xa j||decide (Fa T j=xa))):=Gw.out xa;clear Gx Gh Gw;obtain⟨wo,Kq⟩:∃wo:World,wo=wr:=⟨_,rfl⟩;subst Kq;go_wp2_with fail;go_loopw [16,17] (fun g q wr=>∃(j d:Nat),1<=j/\j<=m/\q=.int .i64 j/\g=.bool (Me T xa j)/\wr=wo.drewN d) (fun _ q _=>m-(intOf q).toNat)
   case atStart=>exact⟨1,0,by omega,by omega,rfl,by rw[Kj.out],rfl⟩
   case round=>
    obtain⟨j,d,Km,hj,rfl,rfl,rfl⟩:=hrel;clear Kj;by_cases hjm:j<m
    ·have ck:=Gd.out j hjm;have Gb:=Gf.out j Km hjm;have Sc:(0:Int)<=(j:Int):=by omega
     have Se:(j:Int)<(m:Int):=by omega
     clear Gf Gd Gi hI;generalize Fa T j=t at*;cases hg:Me T xa j with
     |true=>
      have Ga:Hid (Me T xa (j+1)=true):=by unfold Hid;rw[hg]at Gb;simpa using Gb
      clear Gb hg;go_wp2_with fail;go_quiet ((fail));go_wp2;go_roundw
      case rel=>exact⟨j+1,_,by omega,by omega,by go_num,by rw[Ga.out],rfl⟩
      case measure=>simp[intOf];omega
     |false=>
      by_cases hte:t=xa
      ·have Ga:Hid (Me T xa (j+1)=true):=by unfold Hid;rw[hg,Qe hte]at Gb;simpa using Gb
       clear Gb hg;subst hte;go_wp2_with fail;go_quiet ((fail));go_wp2;go_roundw
       case rel=>exact⟨j+1,_,by omega,by omega,by go_num,by rw[Ga.out],rfl⟩
       case measure=>simp[intOf];omega
      ·have Ga:Hid (Me T xa (j+1)=false):=by unfold Hid;rw[hg,Qf hte]at Gb;simpa using Gb
       have Sb:=Le hte;clear Gb hg;go_wp2_with fail;go_quiet ((fail));go_wp2;go_roundw
       case rel=>exact⟨j+1,_,by omega,by omega,by go_num,by rw[Ga.out],rfl⟩
       case measure=>simp[intOf];omega
    ·obtain rfl:j=m:=by omega
     clear Gf Gd;cases hg:Me T xa j with
     |true=>
      have Gm:Hid (PI W0 u14 (wo.drewN d) ((xv.pj.take (k+1)).filter fun p=>!(T.tail.contains p.1))):=by
       unfold Hid;rw[Gi.out,if_pos hg,List.append_nil];exact hI.out.drewN d
      clear Gi hg hI;go_wp2;go_roundw
      case rel=>exact⟨k+1,by omega,by go_num,Gm⟩
      case measure=>simp[intOf];omega
     |false=>
      obtain⟨v',w1,r1,Kh⟩:=(hI.out.drewN d).next xa xb (Qj Kw (by omega));have R1:Hid _:=r1;have Gm:Hid (PI W0 v' w1 ((xv.pj.take (k+1)).filter fun p=>!(T.tail.contains p.1))):=by
       unfold Hid;rw[Gi.out,if_neg (by rw[hg];simp)];exact Kh
      clear Gi hg hI Kh r1;go_wp2_with (at_builtin;refine wpList_append_run rfl _ _ 42 rfl rfl rfl R1.out ?_);first
      |exact⟨⟨k+1,by omega,by go_num,Gm⟩,by simp[intOf];omega⟩
      |(go_roundw
        case rel=>exact⟨k+1,by omega,by go_num,Gm⟩
        case measure=>simp[intOf];omega)
  ·obtain rfl:k=n2:=by omega
   rw[HZ.out]at hI;obtain⟨a,c,e,hC⟩:=Nt.of hI.out.own;have Gj:=Gl.out k;rw[HZ.out]at Gj;generalize hnn:(xv.pj.filter fun p=>!(T.tail.contains p.1)).length=n at*;subst e;have Kf:=Gg.out n rfl;have z4:=Ge.cell 4;simp at z4;have f4:=Ge.frozen 4;obtain⟨W1,Gk⟩:∃W1,wr.setCell ⟨w.heap.size,4,none⟩ (.slice a n c)=W1:=⟨_,rfl⟩;have Gs:Fc W1 w.heap.size 47 (kC xn kd tx (.slice p1 n1 d1) (.slice a n c) (.slice p3 n3 d3) xd):=by rw[<-Gk];exact Ge.set 4 _
   have Gy:Nt W1 a n c (xv.pj.filter fun p=>!(T.tail.contains p.1)):=by rw[<-Gk];exact hC.set Ge 4 _
   have bk:Bl w W1:=by rw[<-Gk];exact bw.setCell (Qc _) _
   have Ki:Hid (wr.setCell ⟨w.heap.size,4,none⟩ (.slice a n c)=W1):=Gk;clear Gk;have Sa:IntKind.i64.wrap ((k:Int)-(n:Int))=(k:Int)-(n:Int):=Kk.wrap_small (by omega) (by omega);have Kl:Hid (∀W rv,Bl w W->Bl W1 W->Fr W w.heap.size rv (Fe ((k:Int)-(n:Int)))->Cp 147 #[v,.agg (kC xn kd tx (.slice p1 n1 d1) (.slice a n c) (.slice p3 n3 d3) xd),rv] W (fun e w'=>Fh w B SM e w'/\Bl W w')):=fun W rv hb hb2 hr=>by
    rw[Kf];exact HSET.out W rv a n c _ _ hb (by omega) (Gy.bw hb2) hr
   have Gq:=Fc.lt Gs;obtain⟨y0,y1,y2,y3,y4,y5,y6⟩:=F6 Gs;clear Kf Ge Gs hC Gy hI hnn Gj bw Gg HSET Gt HP HY HZ Gr Gx Gw Gu Gl ES;go_upto_region 30 with fail;rw[Ki.out];clear Ki z4 f4;go_region_held3 (fun W=>W.cell? ⟨w.heap.size,0,none⟩=some (.string xn)/\W.cell? ⟨w.heap.size,1,none⟩=some (.int .i64 kd)/\W.cell? ⟨w.heap.size,2,none⟩=some (.string tx)/\W.cell? ⟨w.heap.size,3,none⟩=some (.slice p1 n1 d1)/\W.cell? ⟨w.heap.size,4,none⟩=some (.slice a n c)/\W.cell? ⟨w.heap.size,5,none⟩=some (.slice p3 n3 d3)/\W.cell? ⟨w.heap.size,6,none⟩=some (.int .i64 xd))
    (first|exact⟨y0,y1,y2,y3,y4,y5,y6⟩|exact(up7 b1 Gq ⟨y0,y1,y2,y3,y4,y5,y6⟩)|exact(up7 b2 Kv (up7 b1 Gq ⟨y0,y1,y2,y3,y4,y5,y6⟩)))
    (first
     |(go_at_call 141;refine(Kd.out _ ((k:Int)-(n:Int))).mono ?_;rintro e w1⟨r,rfl,hr,b1⟩;have bd:Bl W1 w1:=(below_drewN (Qb _ W1) 1).trans b1;have Ko:Fr w1 w.heap.size r (Fe ((k:Int)-(n:Int))):=hr.le bk.size;have Kv:w.heap.size<w1.heap.size:=Qr Gq bd.size;have Kx:Bl w w1:=bk.trans (bd.mono bk.size))
     |(go_at_call 147;refine(Kl.out _ _ Kx bd Ko).mono ?_;rintro e w2⟨⟨v',r',L',rfl,hm,ho,Gz,Kc⟩,b2⟩;have HF:Hid (Fh w B SM (.returned (.tuple #[v',r'])) w2):=⟨v',r',L',rfl,hm,ho,Gz,Kc⟩;clear hm ho Gz Kc))
   all_goals
    go_wp2;go_ret2;exact HF.out
end
end Go.Proofs.YtokafonppgppdaaGreatDoor
