import Derived.Test.YtokafonppgppdaaGreatDoorC27
set_option maxHeartbeats 4000000
set_option maxRecDepth 100000
namespace Go.Proofs.YtokafonppgppdaaGreatDoor
open Tryz
open _root_.ByteArray (empty)
open Go.RowKit Go.Sort
open Kk (Rk rk0 zd7 zju zc6 zea zeb zec za9 zbk encR zdh zbz str_eq)
variable {wr W w:World} {a:Option Addr} {n c:Nat} {cur T:List ByteArray}
theorem zl9 {X:Nat} (h:zra wr a n c cur) (hn:n<=1000) (hW:Bl wr W) (hX:zab W X 9 #[]) (hXw:wr.heap.size<=X):
  ∃a1 c1 w1,(Builtin.append_ #[25,25] 25 #[.slice (some ⟨X,0,none⟩) 0 0,.slice a n c]).run prog W= .ok (.slice a1 n c1) w1/\zcx w1 wr.heap.size (.slice a1 n c1) cur/\Bl wr w1/\W.grownBy w1 (some X):=by
 obtain ⟨A,hs,hc⟩:=h.strs;have hE:zcx W wr.heap.size (.slice (some ⟨X,0,none⟩) 0 0) []:=zew hX hXw;obtain ⟨a1,c1,w1,hrun,ho,hg⟩:=ztm hE (zdb hs hW) hc (by omega) (by simp) hW.size;rw [show ([]:List ByteArray).length+n=n by simp] at hrun ho;exact ⟨a1,c1,w1,hrun,ho,zg6 hW hg hXw,hg⟩
theorem zk6 {Y:Nat} {t:ByteArray} (ho:zcx W wr.heap.size (.slice a n c) cur) (hl:cur.length=n) (hf:∀x∈cur,x.size<=1048576) (hn:n<=1000) (hW:Bl wr W) (hY:zab W Y 9 #[.string t]) (ht:t.size<=200):
  ∃a2 c2 w2,(Builtin.append_ #[25,25] 25 #[.slice a n c,.slice (some ⟨Y,0,none⟩) 1 1]).run prog W= .ok (.slice a2 (n+1) c2) w2/\zra w2 a2 (n+1) c2 (cur++ [t])/\Bl wr w2:=by
 have hs:zdg W (some ⟨Y,0,none⟩) Y 0 1 [t]:=⟨rfl,fun _=>rfl,fun _=>hY.lt,fun i hi=>by
  obtain rfl:i=0:=by omega
  exact (hY.cell 0).trans rfl,fun i hi=>by
  obtain rfl:i=0:=by omega
  show t.size<=_;omega⟩
 obtain ⟨a2,c2,w2,hrun,ho2,hg⟩:=ztm ho hs (fun e=>by cases e) (by omega) (by omega) hW.size;rw [hl] at hrun ho2;refine ⟨a2,c2,w2,hrun,⟨zbn ho2 (Qs _),by simp [hl],fun x hx=>?_⟩,?_⟩
 ·rcases List.mem_append.1 hx with hx|hx
  ·exact hf x hx
  ·rw [List.mem_singleton.1 hx];omega
 ·cases hb:(Value.slice a n c).ownBlock with
  |none=>
   rw [hb] at hg;exact ⟨hg.os.trans hW.os,hg.tape.trans hW.tape,hg.output.trans hW.output,Qj hW.size hg.size,fun k hk=> (hg.block k (Qr hk hW.size) (fun e=>by cases e)).trans (hW.block k hk)⟩
  |some g=>
   rw [hb] at hg;exact zg6 hW hg (zaz ho hb).1
theorem ztn (B B':Nat) (v:Value) (L:List KV) (x:KV) (there:Bool) (aa:Option Addr) (ab ao m ac:Nat) (T:List ByteArray) (w:World) (h:zaw w B v L) (hf:zda (L.map KV.key)) (hn:L.length<=500000) (hx:VOwn w B' x.key.val x.vi x.vp x.vr) (hxs:zf8 x.key) (ha:zdg w aa ab ao m T) (hm:2<=m) (hm2:m<=20) (hT:∀i,i<m->(zaj T i).size<=200) (hB:B<=w.heap.size):
  Calls prog 105 #[v,kvV x,.bool there,.string ⟨#[82,80,85,83,72]⟩,.slice aa m ac] w (zbd w B (zet .RPUSH (L.map KV.key) x.key there T)):=by
 have hx0:=hx.rd (fun t ht=>by have:=hxs.ia t ht;omega);obtain ⟨p1,d1,e1⟩:=zad hx.ia;obtain ⟨p2,d2,e2⟩:=zad hx.pj;obtain ⟨p3,d3,e3⟩:=zad hx.rq;obtain ⟨⟨xn,xv,xd⟩,vi,vp,vr⟩:=x;have hown:=hx.ia;dsimp only at e1 e2 e3 hx0 hxs hown;subst e1 e2 e3;have hni:xv.ia.length<=20:=hxs.ni;have hlen:=ha.len;have hlow:ab<w.heap.size:=ha.low (by omega);have haw:zdg w aa ab ao m T:=ha;obtain rfl:=ha.addr (by omega);obtain ⟨W0,hW0,HW0,b0,r0⟩:=boxed w (kC xn xv.kind xv.text (.slice p1 xv.ia.length d1) (.slice p2 xv.pj.length d2) (.slice p3 xv.rq.length d3) xd) 47;have ES:=zeg h hB b0;have HAW:Hid (∀W,Bl w W->∀i,i<m->W.cell? ⟨ab,ao+i,none⟩=some (.string (zaj T i))):=fun W hb i hi=> (zdb haw hb).cell i hi;have HTS:Hid (∀i,i<m->(zaj T i).size<=200):=hT;have HIN:=hIN;have hwl:IntKind.i64.wrap ((xv.ia.length:Int)-1)=(xv.ia.length:Int)-1:=Kk.wrap_small (by omega) (by omega);have HSET:Hid (∀W rv va is,Bl w W->is.length<=100->(∀t∈is,t.size<=1048576)->zbe W w.heap.size rv (zam (is.length:Int))->(∃a A o c,va= .slice a is.length c/\zdg W a A o is.length is/\(a=none->c=0))->Cp 147 #[v,.agg (kC xn xv.kind xv.text va (.slice p2 xv.pj.length d2) (.slice p3 xv.rq.length d3) xd),rv] W (fun e w'=>zbd w B (za1 (L.map KV.key) ⟨xn,⟨xv.kind,xv.text,is,xv.pj,xv.rq⟩,xd⟩ (zam (is.length:Int))) e w'/\Bl W w')):=fun W rv va is hb h20 hit hr hva=>by
  have hk:zo7 ⟨xn,⟨xv.kind,xv.text,is,xv.pj,xv.rq⟩,xd⟩:=⟨⟨hxs.fit.fit.text,by show is.length<=_;omega,hxs.fit.fit.pj,hxs.fit.fit.rq⟩,hxs.fit.name,hit⟩;have hv:VRd W (⟨xv.kind,xv.text,is,xv.pj,xv.rq⟩:Vl) va (.slice p2 xv.pj.length d2) (.slice p3 xv.rq.length d3):=⟨hva,(hx0.bw hb).pj,(hx0.bw hb).rq⟩;exact (zel B v L ⟨⟨xn,⟨xv.kind,xv.text,is,xv.pj,xv.rq⟩,xd⟩,va,.slice p2 xv.pj.length d2,.slice p3 xv.rq.length d3⟩ rv (zam (is.length:Int)) W (h.bw hb) hf hn hv hk hr (Qj hB hb.size) hb.size).mono fun e w' he=>⟨zbs.wide he hb,he.bel⟩
 have HC0:Hid (zra W0 p1 xv.ia.length d1 xv.ia):=⟨zbn (zaf hown b0) (Qs _),rfl,fun t ht=>by have:=hxs.ia t ht;omega⟩;obtain ⟨y0,y1,y2,y3,y4,y5,y6⟩:=zdo r0;show Calls prog 105 #[v,.agg (kC xn xv.kind xv.text (.slice p1 xv.ia.length d1) (.slice p2 xv.pj.length d2) (.slice p3 xv.rq.length d3) xd),.bool there,.string ⟨#[82,80,85,83,72]⟩,.slice (some ⟨ab,ao,none⟩) m ac] w (zbd w B (za1 (L.map KV.key) ⟨xn,⟨xv.kind,xv.text,xv.ia++T.tail,xv.pj,xv.rq⟩,xd⟩ (zam ((xv.ia.length+T.tail.length:Nat):Int))));have HEND:Hid (za1 (L.map KV.key) ⟨xn,⟨xv.kind,xv.text,xv.ia++T.tail,xv.pj,xv.rq⟩,xd⟩ (zam ((xv.ia.length+T.tail.length:Nat):Int))=za1 (L.map KV.key) ⟨xn,⟨xv.kind,xv.text,xv.ia++(T.take m).drop 1,xv.pj,xv.rq⟩,xd⟩ (zam (((xv.ia++(T.take m).drop 1).length:Nat):Int))):=by
  unfold Hid;rw [List.take_of_length_le (by omega),List.drop_one];simp
 rw [HEND.out];have HFIN:Hid (∀is,is=xv.ia++(T.take m).drop 1->za1 (L.map KV.key) ⟨xn,⟨xv.kind,xv.text,xv.ia++(T.take m).drop 1,xv.pj,xv.rq⟩,xd⟩ (zam (((xv.ia++(T.take m).drop 1).length:Nat):Int))=za1 (L.map KV.key) ⟨xn,⟨xv.kind,xv.text,is,xv.pj,xv.rq⟩,xd⟩ (zam (is.length:Int))):=fun is e=>by rw [e]
 have HNX:Hid (∀k,1<=k->k<m->(xv.ia++(T.take k).drop 1)++ [zaj T k]=xv.ia++(T.take (k+1)).drop 1):=fun k hk1 hk=>by
  rw [Qo (by omega),List.drop_append_of_le_length (by rw [Qn];omega),List.append_assoc];simp [zaj,List.getD_eq_getElem?_getD,List.getElem?_eq_getElem (show k<T.length by omega)]
 have HLN:Hid (∀k,1<=k->k<=m->(xv.ia++(T.take k).drop 1).length<=100):=fun k hk1 hk=>by
  rw [Qi,Qu,Qn];omega
 have HC1:Hid (xv.ia++(T.take 1).drop 1=xv.ia):=by
  unfold Hid;rw [List.drop_eq_nil_of_le (by rw [Qn];omega),List.append_nil]
 clear h hf hx hx0 hxs ha haw hT hW0 hown HEND;generalize za1 (L.map KV.key) ⟨xn,⟨xv.kind,xv.text,xv.ia++(T.take m).drop 1,xv.pj,xv.rq⟩,xd⟩ (zam (((xv.ia++(T.take m).drop 1).length:Nat):Int))=SM at*;generalize L.map KV.key=K0 at*;generalize hn1:xv.ia.length=n1 at*;generalize xv.pj.length=n2,xv.rq.length=n3,xv.text=tx,xv.kind=kd at*;go_enter func105,ntmps105;go_upto_region 1 with fail;rw [HW0.out];go_wp2_with fail;go_loopw [21] (fun q wr=>∃(k:Nat) (a:Option Addr) (n c:Nat),1<=k/\k<=m/\q= .int .i64 k/\n<=100/\Hid (zra wr a n c (xv.ia++(T.take k).drop 1))/\Hid (zab wr w.heap.size 47 (kC xn kd tx (.slice a n c) (.slice p2 n2 d2) (.slice p3 n3 d3) xd))/\Bl w wr) (fun q _=>m-(intOf q).toNat)
 case atStart=>exact ⟨1,p1,n1,d1,by omega,by omega,rfl,by omega,by unfold Hid;rw [HC1.out];exact HC0.out,r0,b0⟩
 case round=>
  obtain ⟨k,a,n,c,hk1,hk,rfl,hn100,hC,hR,bk⟩:=hrel;clear y0 y1 y2 y3 y4 y5 y6;obtain ⟨y0,y1,y2,y3,y4,y5,y6⟩:=zdo hR.out;by_cases hlt:k<m
  ·have ck:=HAW.out wr bk k hlt;have sk:=HTS.out k hlt;have hNX:=HNX.out k hk1 hlt;have hLN:=HLN.out (k+1) (by omega) (by omega);have hRl:=zab.lt hR.out;generalize zaj T k=t at*;have bAA:Bl wr ((wr.alloc (.cells #[] 9)).drew):=below_drewN ((Qb _ wr).alloc (Qc _) _) 1;obtain ⟨aA,cA,wA,hA1,oA,bA,gA⟩:=zl9 (W:=(wr.alloc (.cells #[] 9)).drew) (X:=wr.heap.size) hC.out (by omega) bAA (zab.new wr 9 #[]) (Qc _);have bA2:Bl wr (wA.alloc (.cells #[.string t] 9)):=bA.alloc bA.size _;obtain ⟨aA2,cA2,wA2,hA2,CA,BA⟩:=zk6 (W:=wA.alloc (.cells #[.string t] 9)) (Y:=wA.heap.size) (t:=t) (zaf oA ((Qb _ wA).alloc (Qc _) _)) hC.out.len hC.out.fit (by omega) bA2 (zab.new wA 9 _) sk;have bBB:Bl wr (((wr.alloc (.cells #[] 9)).alloc (.cells #[.string t] 9)).drew):=below_drewN (Joins.below_alloc2 wr _ _) 1;have xB:zab (((wr.alloc (.cells #[] 9)).alloc (.cells #[.string t] 9)).drew) wr.heap.size 9 #[]:=(zab.bw (zab.new wr 9 #[]) ((Qb _ (wr.alloc (.cells #[] 9))).alloc (Qc _) (.cells #[.string t] 9)) (by simp):zab ((wr.alloc (.cells #[] 9)).alloc (.cells #[.string t] 9)) wr.heap.size 9 #[]);have yB:zab (((wr.alloc (.cells #[] 9)).alloc (.cells #[.string t] 9)).drew) (wr.heap.size+1) 9 #[.string t]:=by
    have:=zab.new (wr.alloc (.cells #[] 9)) 9 #[.string t];simp only [World.size_alloc] at this;exact this
   obtain ⟨aB,cB,wB,hB1,oB,bB,gB⟩:=zl9 (W:=((wr.alloc (.cells #[] 9)).alloc (.cells #[.string t] 9)).drew) (X:=wr.heap.size) hC.out (by omega) bBB xB (Qc _);have yB2:zab wB (wr.heap.size+1) 9 #[.string t]:=(gB.block (wr.heap.size+1) yB.lt (fun e=>by have:=Option.some.inj e;omega)).trans yB;obtain ⟨aB2,cB2,wB2,hB2,CB,BB⟩:=zk6 (W:=wB) (Y:=wr.heap.size+1) (t:=t) oB hC.out.len hC.out.fit (by omega) bB yB2 sk;have bCC:Bl wr (((wr.alloc (.cells #[.string t] 9)).alloc (.cells #[] 9)).drew):=below_drewN (Joins.below_alloc2 wr _ _) 1;have yC:zab (((wr.alloc (.cells #[.string t] 9)).alloc (.cells #[] 9)).drew) wr.heap.size 9 #[.string t]:=(zab.bw (zab.new wr 9 #[.string t]) ((Qb _ (wr.alloc (.cells #[.string t] 9))).alloc (Qc _) (.cells #[] 9)) (by simp):zab ((wr.alloc (.cells #[.string t] 9)).alloc (.cells #[] 9)) wr.heap.size 9 #[.string t]);have xC:zab (((wr.alloc (.cells #[.string t] 9)).alloc (.cells #[] 9)).drew) (wr.heap.size+1) 9 #[]:=by
    have:=zab.new (wr.alloc (.cells #[.string t] 9)) 9 #[];simp only [World.size_alloc] at this;exact this
   obtain ⟨aC,cC,wC,hC1,oC,bC,gC⟩:=zl9 (W:=((wr.alloc (.cells #[.string t] 9)).alloc (.cells #[] 9)).drew) (X:=wr.heap.size+1) hC.out (by omega) bCC xC (by omega);have yC2:zab wC wr.heap.size 9 #[.string t]:=(gC.block wr.heap.size yC.lt (fun e=>by have:=Option.some.inj e;omega)).trans yC;obtain ⟨aC2,cC2,wC2,hC2,CC,BC⟩:=zk6 (W:=wC) (Y:=wr.heap.size) (t:=t) oC hC.out.len hC.out.fit (by omega) bC yC2 sk;rw [hNX] at CA CB CC;have hn1':n+1<=100:=by have:=CA.len;omega
   clear hLN;have RA:zab wA2 w.heap.size 47 (kC xn kd tx (.slice a n c) (.slice p2 n2 d2) (.slice p3 n3 d3) xd):=zab.bw hR.out BA hRl;have f3A:=RA.frozen 3;have z3A:=RA.cell 3;have HRA:Hid (zab (wA2.setCell ⟨w.heap.size,3,none⟩ (.slice aA2 (n+1) cA2)) w.heap.size 47 (kC xn kd tx (.slice aA2 (n+1) cA2) (.slice p2 n2 d2) (.slice p3 n3 d3) xd)):=RA.set 3 _
   have HCA:Hid (zra (wA2.setCell ⟨w.heap.size,3,none⟩ (.slice aA2 (n+1) cA2)) aA2 (n+1) cA2 (xv.ia++(T.take (k+1)).drop 1)):=⟨zai CA.own fun g hg=>by
    obtain ⟨C,hCg⟩:=zbh CA.own hg
    exact Below.heap_setCell _ _ _ _ (fun e=>by
     have e2:g=w.heap.size:=e;subst e2;exact absurd (Hp.zcm hCg RA) (by decide)),CA.len,CA.fit⟩
   have HBA:Hid (Bl w (wA2.setCell ⟨w.heap.size,3,none⟩ (.slice aA2 (n+1) cA2))):=(bk.trans (BA.mono bk.size)).setCell (Qc _) _;have RB:zab wB2 w.heap.size 47 (kC xn kd tx (.slice a n c) (.slice p2 n2 d2) (.slice p3 n3 d3) xd):=zab.bw hR.out BB hRl;have f3B:=RB.frozen 3;have z3B:=RB.cell 3;have HRB:Hid (zab (wB2.setCell ⟨w.heap.size,3,none⟩ (.slice aB2 (n+1) cB2)) w.heap.size 47 (kC xn kd tx (.slice aB2 (n+1) cB2) (.slice p2 n2 d2) (.slice p3 n3 d3) xd)):=RB.set 3 _
   have HCB:Hid (zra (wB2.setCell ⟨w.heap.size,3,none⟩ (.slice aB2 (n+1) cB2)) aB2 (n+1) cB2 (xv.ia++(T.take (k+1)).drop 1)):=⟨zai CB.own fun g hg=>by
    obtain ⟨C,hCg⟩:=zbh CB.own hg
    exact Below.heap_setCell _ _ _ _ (fun e=>by
     have e2:g=w.heap.size:=e;subst e2;exact absurd (Hp.zcm hCg RB) (by decide)),CB.len,CB.fit⟩
   have HBB:Hid (Bl w (wB2.setCell ⟨w.heap.size,3,none⟩ (.slice aB2 (n+1) cB2))):=(bk.trans (BB.mono bk.size)).setCell (Qc _) _;have RC:zab wC2 w.heap.size 47 (kC xn kd tx (.slice a n c) (.slice p2 n2 d2) (.slice p3 n3 d3) xd):=zab.bw hR.out BC hRl;have f3C:=RC.frozen 3;have z3C:=RC.cell 3;have HRC:Hid (zab (wC2.setCell ⟨w.heap.size,3,none⟩ (.slice aC2 (n+1) cC2)) w.heap.size 47 (kC xn kd tx (.slice aC2 (n+1) cC2) (.slice p2 n2 d2) (.slice p3 n3 d3) xd)):=RC.set 3 _
   have HCC:Hid (zra (wC2.setCell ⟨w.heap.size,3,none⟩ (.slice aC2 (n+1) cC2)) aC2 (n+1) cC2 (xv.ia++(T.take (k+1)).drop 1)):=⟨zai CC.own fun g hg=>by
    obtain ⟨C,hCg⟩:=zbh CC.own hg
    exact Below.heap_setCell _ _ _ _ (fun e=>by
     have e2:g=w.heap.size:=e;subst e2;exact absurd (Hp.zcm hCg RC) (by decide)),CC.len,CC.fit⟩
   have HBC:Hid (Bl w (wC2.setCell ⟨w.heap.size,3,none⟩ (.slice aC2 (n+1) cC2))):=(bk.trans (BC.mono bk.size)).setCell (Qc _) _;simp at z3A z3B z3C;have k0:(wr.alloc (.cells #[] 9)).cell? ⟨w.heap.size,3,none⟩=some (.slice a n c):=(((Qb wr.heap.size wr).alloc (Qc _) _).cell (p:=⟨w.heap.size,3,none⟩) hRl).trans y3;have k1:(wr.alloc (.cells #[.string t] 9)).cell? ⟨w.heap.size,3,none⟩=some (.slice a n c):=(((Qb wr.heap.size wr).alloc (Qc _) _).cell (p:=⟨w.heap.size,3,none⟩) hRl).trans y3;have k2:((wr.alloc (.cells #[] 9)).alloc (.cells #[.string t] 9)).cell? ⟨w.heap.size,3,none⟩=some (.slice a n c):=((Joins.below_alloc2 wr _ _).cell (p:=⟨w.heap.size,3,none⟩) hRl).trans y3;have k3:((wr.alloc (.cells #[.string t] 9)).alloc (.cells #[] 9)).cell? ⟨w.heap.size,3,none⟩=some (.slice a n c):=((Joins.below_alloc2 wr _ _).cell (p:=⟨w.heap.size,3,none⟩) hRl).trans y3;have hal:ab<wr.heap.size:=by have:=bk.size;omega
   have j0:(wr.alloc (.cells #[] 9)).cell? ⟨ab,ao+k,none⟩=some (.string t):=(((Qb wr.heap.size wr).alloc (Qc _) _).cell (p:=⟨ab,ao+k,none⟩) hal).trans ck;have jA:wA.cell? ⟨ab,ao+k,none⟩=some (.string t):=(bA.cell (p:=⟨ab,ao+k,none⟩) hal).trans ck;clear oA oB oC gA gB gC xB yB xC yC yB2 yC2 bAA bBB bCC bA bA2 bB bC BA BB BC CA CB CC RA RB RC hR hC hNX;go_wp2_with fail
   go_region_law (first
    |refine zba rfl (.tmp 125) (.tmp 128) 25 rfl (by simp [Act.eval]) (by simp [Act.eval]) hA1 ?_
    |refine zba rfl (.tmp 125) (.tmp 128) 25 rfl (by simp [Act.eval]) (by simp [Act.eval]) hB1 ?_
    |refine zba rfl (.tmp 125) (.tmp 128) 25 rfl (by simp [Act.eval]) (by simp [Act.eval]) hC1 ?_
    |refine zba rfl (.tmp 129) (.tmp 134) 25 rfl (by simp [Act.eval]) (by simp [Act.eval]) hA2 ?_
    |refine zba rfl (.tmp 129) (.tmp 134) 25 rfl (by simp [Act.eval]) (by simp [Act.eval]) hB2 ?_
    |refine zba rfl (.tmp 129) (.tmp 134) 25 rfl (by simp [Act.eval]) (by simp [Act.eval]) hC2 ?_)
   all_goals
    go_wp2;go_roundw
    case rel=>
     first
     |exact ⟨k+1,aA2,n+1,cA2,by omega,by omega,by go_num,hn1',HCA,HRA,HBA.out⟩
     |exact ⟨k+1,aB2,n+1,cB2,by omega,by omega,by go_num,hn1',HCB,HRB,HBB.out⟩
     |exact ⟨k+1,aC2,n+1,cC2,by omega,by omega,by go_num,hn1',HCC,HRC,HBC.out⟩
    case measure=>simp [intOf];omega
  ·obtain rfl:k=m:=by omega
   have hbl:(xv.ia++(T.take k).drop 1).length<=100:=HLN.out k hk1 (Qc _);have hSM:=HFIN.out _ rfl;have hln:=hC.out.len;have HS2:Hid (∀W rv,Bl w W->Bl wr W->zbe W w.heap.size rv (zam (n:Int))->Cp 147 #[v,.agg (kC xn kd tx (.slice a n c) (.slice p2 n2 d2) (.slice p3 n3 d3) xd),rv] W (fun e w'=>zbd w B SM e w'/\Bl W w')):=fun W rv hb hb2 hr=>by
    rw [hSM];rw [<-hln] at hr;obtain ⟨A,hs,hcz⟩:=hC.out.strs;exact HSET.out W rv (.slice a n c) _ hb hbl hC.out.fit hr ⟨a,A,0,c,by rw [hln],by rw [hln];exact zdb hs hb2,hcz⟩
   have hRl:=zab.lt hR.out;clear hSM hbl HFIN HSET HLN HNX HAW HTS hC hR HC0 HC1 ES;go_wp2_with fail;go_region_held3 (fun W=>W.cell? ⟨w.heap.size,0,none⟩=some (.string xn)/\W.cell? ⟨w.heap.size,1,none⟩=some (.int .i64 kd)/\W.cell? ⟨w.heap.size,2,none⟩=some (.string tx)/\W.cell? ⟨w.heap.size,3,none⟩=some (.slice a n c)/\W.cell? ⟨w.heap.size,4,none⟩=some (.slice p2 n2 d2)/\W.cell? ⟨w.heap.size,5,none⟩=some (.slice p3 n3 d3)/\W.cell? ⟨w.heap.size,6,none⟩=some (.int .i64 xd))
    (first|exact ⟨y0,y1,y2,y3,y4,y5,y6⟩|exact (up7 b1 hRl ⟨y0,y1,y2,y3,y4,y5,y6⟩)|exact (up7 b2 hA2 (up7 b1 hRl ⟨y0,y1,y2,y3,y4,y5,y6⟩)))
    (first
     |(go_at_call 141;refine (HIN.out _ (n:Int)).mono ?_;rintro e w1 ⟨r,rfl,hr,b1⟩;have bd:Bl wr w1:=(below_drewN (Qb _ wr) 1).trans b1;have hr1:zbe w1 w.heap.size r (zam (n:Int)):=hr.le bk.size;have hA2:w.heap.size<w1.heap.size:=Qr hRl bd.size;have bA1:Bl w w1:=bk.trans (bd.mono bk.size))
     |(go_at_call 147;refine (HS2.out _ _ bA1 bd hr1).mono ?_;rintro e w2 ⟨⟨v',r',L',rfl,hm,ho,hrr,hbb⟩,b2⟩;have HF:Hid (zbd w B SM (.returned (.tuple #[v',r'])) w2):=⟨v',r',L',rfl,hm,ho,hrr,hbb⟩;clear hm ho hrr hbb))
   all_goals
    go_wp2;go_ret2;exact HF.out
open Kk (zbz str_eq)
theorem yen {B:Nat} {V:Value} (t:ByteArray) (h:zcx w B V T) (hn:T.length<=1048577) (hB:B<=w.heap.size):
  ∃v' w',(Builtin.append_ #[25,25] 25 #[V,.slice (some ⟨w.heap.size,0,none⟩) 1 1]).run prog (w.alloc (.cells #[.string t] 9))= .ok v' w'/\zcx w' B v' (T++ [t])/\Below B w w'/\w.grownBy w' V.ownBlock:=by
 obtain ⟨i0,hi,hz0,hz1,hz2⟩:=info_parts zmw;have hbl:Bl w (w.alloc (.cells #[.string t] 9)):=(Qb _ w).alloc (Qc _) _;have oA:=zaf h hbl
 obtain ⟨v',w',hrun,hown,hg,_,hblk⟩:=run_append_own_at (P:=prog) (w.alloc (.cells #[.string t] 9)) B 25 25 9 i0 _ 1 16 underlying25 hi hz0 hz1 hz2 rfl (by decide) V T.length (zdw T) oA ⟨w.heap.size,0,none⟩ 1 1 [.string t] rfl (fun j u hj=>by
  rw [Addr.add_lit,Qq];exact ((zab.new w 9 #[.string t]).cell j).trans (by simpa using hj)) (fun u hu=>by simp at hu;subst hu;rfl) (by unfold maxLen;omega) (by omega) (by simp;omega)
 refine ⟨v',w',hrun,?_,zdd (Qb _ w) hB h hg,?_⟩
 ·have e:zdw (T++ [t])=zdw T++ [.string t]:=by unfold zdw;rw [List.map_append];rfl
  unfold zcx;rw [Qi,e];exact hown
 ·have hs:(w.alloc (.cells #[.string t] 9)).heap.size=w.heap.size+1:=by simp
  have h2:=hg.size;exact ⟨hg.os,hg.tape,hg.output,by omega,fun k hk hr=> (hg.block k (by omega) hr).trans (Below.heap_alloc _ _ _ (by omega))⟩
structure zmo (w:World) (v:Value) (wr:World) (T:List ByteArray):Prop where
 own:zcx wr w.heap.size v T
 bel:Bl w wr
theorem zmo.start (w:World):zmo w (.slice (some ⟨w.heap.size,0,none⟩) 0 0) (w.alloc (.cells #[] 9)) []:=
 ⟨zew (zab.new w 9 #[]) (Qc _),(Qb _ w).alloc (Qc _) _⟩
theorem zmo.next {v:Value} (h:zmo w v wr T) (t:ByteArray) (hn:T.length<=1048577):
  ∃v' w1,(Builtin.append_ #[25,25] 25 #[v,.slice (some ⟨wr.heap.size,0,none⟩) 1 1]).run prog (wr.alloc (.cells #[.string t] 9))= .ok v' w1/\zmo w v' w1 (T++ [t]):=by
 obtain ⟨v',w1,r1,o1,b1,_⟩:=yen t h.own hn h.bel.size;exact ⟨v',w1,r1,o1,h.bel.trans b1⟩
theorem zwd (L:List KV) (k:Nat) (h:k<L.length):((L.take k).map KV.key).map Ke.name++ [(L.getD k kv0).key.name]=((L.take (k+1)).map KV.key).map Ke.name:=by
 rw [Qo h,List.map_append,List.map_append];rw [show (L.getD k kv0)=L[k] by rw [Qa,Qd h];rfl];rfl
theorem yah (B:Nat) (v:Value) (L:List KV) (aa:Option Addr) (m ac:Nat) (w:World) (h:zaw w B v L) (hf:zda (L.map KV.key)) (hn:L.length<=1048576) (hB:B<=w.heap.size):
  Calls prog 99 #[v,.string ⟨#[75,69,89,83]⟩,.slice aa m ac] w (zbd w B (L.map KV.key,zb5 ((L.map KV.key).map Ke.name))):=by
 obtain ⟨a,A,c,e,hat⟩:=h.at;subst e;have H:=hid hat.ks;have HS:=hid (zmo.start w);have HE:Hid (∀v' wr,zmo w v' wr ((L.map KV.key).map Ke.name)->Cp 142 #[v'] wr fun e w2=>∃r,e= .returned r/\zbd w B (L.map KV.key,zb5 ((L.map KV.key).map Ke.name)) (.returned (.tuple #[.slice a L.length c,r])) w2):=fun v' wr hI=>by
  obtain ⟨a',A',c',e',hs,_⟩:=zc0 hI.own (fun t ht=>by
   obtain ⟨k,hk,rfl⟩:=List.mem_map.1 ht;exact (hf k hk).name)
  subst e';refine (zgn a' A' 0 _ c' _ wr hs (by simpa using hn)).mono ?_;rintro e w2 ⟨r,rfl,hr,hb⟩;exact ⟨r,rfl,zbd.same h hB hI.bel hr hb⟩
 have HT:Hid (∀k,k<L.length->((L.take k).map KV.key).map Ke.name++ [(L.getD k kv0).key.name]=((L.take (k+1)).map KV.key).map Ke.name):=fun k hk=>zwd L k hk;have HZ:Hid (L.take L.length=L):=List.take_length;have HLn:Hid (∀k,k<=L.length->(((L.take k).map KV.key).map Ke.name).length=k):=fun k hk=>by simp;omega
 clear h hf hat;generalize hln:L.length=ln at*;clear hln;go_enter func99,ntmps99;go_wp2;go_loopw [8,9] (fun v i wr=>∃k:Nat,k<=ln/\i= .int .i64 k/\Hid (zmo w v wr (((L.take k).map KV.key).map Ke.name))) (fun _ i _=>ln-(intOf i).toNat)
 case atStart=>exact ⟨0,by omega,rfl,HS⟩
 case round=>
  obtain ⟨k,hk,rfl,hI⟩:=hrel;clear HS;by_cases hlt:k<ln
  ·have c0:=((H.out.bw hI.out.bel).cell k hlt).c0;obtain rfl:=H.out.addr (by omega);obtain ⟨v',w1,r1,hI2⟩:=hI.out.next (L.getD k kv0).key.name (by rw [HLn.out k hk];omega);rw [HT.out k hlt] at hI2;have R1:Hid _:=r1;have HI2:Hid _:=hI2;clear r1 hI2 hI HE HT HZ HLn;generalize (L.getD k kv0).key.name=x at*;go_wp2_with (at_builtin;refine wpList_append_run rfl _ _ 25 rfl rfl rfl R1.out ?_);exact ⟨⟨k+1,by omega,by go_num,HI2⟩,by simp [intOf];omega⟩
  ·obtain rfl:k=ln:=by omega
   rw [HZ.out] at hI;have HC:=hid (HE.out _ wr hI.out);clear HE HT HZ HLn hI;go_wp2_with fail;refine HC.out.mono ?_;rintro e w2 ⟨r,rfl,hq⟩;have HQ:Hid _:=hq;clear hq HC;go_wp2;go_ret2;exact HQ.out
theorem zuv (dl:Bool) (ks:List Ke) (T:List ByteArray) (k:Nat) (h:k<T.length):zi7 dl ks (T.take (k+1))=zcs dl (zi7 dl ks (T.take k)) (T.getD k empty):=by
 unfold zi7;rw [Qo h,List.foldl_append];rw [show T.getD k empty=T[k] by rw [Qa,Qd h];rfl];rfl
theorem zkw (ks:List Ke) (nm:ByteArray):(zbl ks nm).length<=ks.length:=Qt ..
structure yfo (w:World) (B:Nat) (dl:Bool) (ks:List Ke) (T:List ByteArray) (k:Nat) (v:Value) (cnt:Nat) (wr:World) (M:List KV):Prop where
 eq:zi7 dl ks (T.take k)=(M.map KV.key,cnt)
 own:zaw wr B v M
 fit:zda (M.map KV.key)
 len:M.length<=1048576
 bel:Bl w wr
section
variable (B:Nat) (v:Value) (L:List KV) (aa:Option Addr) (ab ao m ac:Nat) (T:List ByteArray) (w:World)
theorem yda (h:zaw w B v L) (hf:zda (L.map KV.key)) (hn:L.length<=1048576) (ha:zdg w aa ab ao m T) (hm:m<=1048576) (hB:B<=w.heap.size):
  Calls prog 99 #[v,.string ⟨#[68,69,76]⟩,.slice aa m ac] w (zbd w B ((zi7 true (L.map KV.key) T).1,zam (zi7 true (L.map KV.key) T).2)):=by
 have H:=hid ha;have HL:=hid ha.len;have HS:Hid (yfo w B true (L.map KV.key) T 0 v 0 w L):=⟨rfl,h,hf,hn,Qb _ _⟩;have HZ:Hid (T.take m=T):=List.take_of_length_le (by rw [ha.len];exact Qc _);generalize L.map KV.key=K0 at*;clear h hf hn ha;go_enter func99,ntmps99;go_wp2;go_loopw [0,10,11] (fun u c i wr=>∃(k cnt:Nat) (M:List KV),k<=m/\i= .int .i64 k/\c= .int .i64 cnt/\cnt<=k/\Hid (yfo w B true K0 T k u cnt wr M)) (fun _ _ i _=>m-(intOf i).toNat)
 case atStart=>exact ⟨0,0,L,by omega,rfl,rfl,by omega,HS⟩
 case round=>
  obtain ⟨k,cnt,M,hk,rfl,rfl,hc,hI⟩:=hrel;clear HS;have hBr:B<=wr.heap.size:=Qj hB hI.out.bel.size;by_cases hlt:k<m
  ·have c0:=(zdb H.out hI.out.bel).cell k hlt;obtain rfl:=H.out.addr (by omega);obtain ⟨a,A,c,e,hd,hat⟩:=hI.out.own.din hI.out.fit.fits;subst e;have hX:=zuv true K0 T k (by rw [HL.out];exact hlt);rw [hI.out.eq] at hX;have HX:=hid hX;have HF:Hid (Cp 101 #[.slice a M.length c,.string (T.getD k empty)] wr fun e w'=>e= .returned (.int .i64 (zd1 (M.map KV.key) (T.getD k empty) 0))/\w'=wr):=zph a A M.length c M _ wr hd.ks (by have:=hI.out.len;omega);have HG:Hid (Cp 143 #[.slice a M.length c,.string (T.getD k empty)] wr (zc1 wr (zbl (M.map KV.key) (T.getD k empty)))):=zky a A M.length c M _ wr hd hI.out.len;clear hd hat hX;generalize T.getD k empty=t at*;by_cases hz:zd1 (M.map KV.key) t 0<0
   ·have HI2:Hid (yfo w B true K0 T (k+1) (.slice a M.length c) cnt wr M):=⟨by rw [HX.out];unfold zcs;rw [if_pos hz],hI.out.own,hI.out.fit,hI.out.len,hI.out.bel⟩;clear HX HG hI;generalize zd1 (M.map KV.key) t 0=z,M.length=ml at*;go_wp2_with fail;refine HF.out.mono ?_;rintro e w1 ⟨rfl,rfl⟩;clear HF;go_wp2;exact ⟨⟨k+1,cnt,M,by omega,by go_num,rfl,by omega,HI2⟩,by simp [intOf];omega⟩
   ·have HI2:Hid (∀v' w1 L',L'.map KV.key=zbl (M.map KV.key) t->zaw w1 wr.heap.size v' L'->Bl wr w1->yfo w B true K0 T (k+1) v' (cnt+1) w1 L'):=fun v' w1 L' h1 h2 h3=>⟨by rw [HX.out];unfold zcs;rw [if_neg hz,if_pos rfl,h1],h2.le hBr,by rw [h1];exact hI.out.fit.gone t,by
     have e1:L'.length=(zbl (M.map KV.key) t).length:=by rw [<-h1];simp
     have e2:=zkw (M.map KV.key) t;rw [Qp] at e2;have:=hI.out.len;omega,hI.out.bel.trans (h3.mono hI.out.bel.size)⟩
    clear HX hI;generalize zd1 (M.map KV.key) t 0=z,zbl (M.map KV.key) t=Kg,M.length=ml at*;go_wp2_with fail;refine HF.out.mono ?_;rintro e w1 ⟨rfl,rfl⟩;clear HF;go_wp2_with fail;refine HG.out.mono ?_;rintro e w2 ⟨v',L',rfl,h1,h2,h3⟩;have HI3:=HI2.out v' w2 L' h1 h2 h3;clear h1 h2 h3 HI2 HG;go_wp2;exact ⟨⟨k+1,cnt+1,L',by omega,by go_num,by go_num,by omega,HI3⟩,by simp [intOf];omega⟩
  ·obtain rfl:k=m:=by omega
   have HE:Hid (∀r w2,zbe w2 wr.heap.size r (zam cnt)->Bl wr w2->zbd w B ((zi7 true K0 T).1,zam (zi7 true K0 T).2) (.returned (.tuple #[u0,r])) w2):=fun r w2 h1 h2=>by
    have hq:=hI.out.eq;rw [HZ.out] at hq;rw [hq];exact ⟨u0,r,M,rfl,rfl,hI.out.own.bw h2,h1.le hI.out.bel.size,hI.out.bel.trans (h2.mono hI.out.bel.size)⟩
   have HR:Hid (∀n:Int,Cp 141 #[.int .i64 n] wr (zci wr (zam n))):=fun n=>zjb n wr;clear hI;go_wp2_with fail;refine (HR.out _).mono ?_;rintro e w1 ⟨r,rfl,hr,hb⟩;have HQ:Hid _:=HE.out r w1 hr hb;clear hr hb HE HR;go_wp2;go_ret2;exact HQ.out
theorem ztf (h:zaw w B v L) (hf:zda (L.map KV.key)) (hn:L.length<=1048576) (ha:zdg w aa ab ao m T) (hm:m<=1048576) (hB:B<=w.heap.size):
  Calls prog 99 #[v,.string ⟨#[69,88,73,83,84,83]⟩,.slice aa m ac] w (zbd w B ((zi7 false (L.map KV.key) T).1,zam (zi7 false (L.map KV.key) T).2)):=by
 have H:=hid ha;have HL:=hid ha.len;have HS:Hid (yfo w B false (L.map KV.key) T 0 v 0 w L):=⟨rfl,h,hf,hn,Qb _ _⟩;have HZ:Hid (T.take m=T):=List.take_of_length_le (by rw [ha.len];exact Qc _);generalize L.map KV.key=K0 at*;clear h hf hn ha;go_enter func99,ntmps99;go_wp2;go_loopw [0,10,11] (fun u c i wr=>∃(k cnt:Nat) (M:List KV),k<=m/\i= .int .i64 k/\c= .int .i64 cnt/\cnt<=k/\Hid (yfo w B false K0 T k u cnt wr M)) (fun _ _ i _=>m-(intOf i).toNat)
 case atStart=>exact ⟨0,0,L,by omega,rfl,rfl,by omega,HS⟩
 case round=>
  obtain ⟨k,cnt,M,hk,rfl,rfl,hc,hI⟩:=hrel;clear HS;have hBr:B<=wr.heap.size:=Qj hB hI.out.bel.size;by_cases hlt:k<m
  ·have c0:=(zdb H.out hI.out.bel).cell k hlt;obtain rfl:=H.out.addr (by omega);obtain ⟨a,A,c,e,hd,hat⟩:=hI.out.own.din hI.out.fit.fits;subst e;have hX:=zuv false K0 T k (by rw [HL.out];exact hlt);rw [hI.out.eq] at hX;have HX:=hid hX;have HF:Hid (Cp 101 #[.slice a M.length c,.string (T.getD k empty)] wr fun e w'=>e= .returned (.int .i64 (zd1 (M.map KV.key) (T.getD k empty) 0))/\w'=wr):=zph a A M.length c M _ wr hd.ks (by have:=hI.out.len;omega);have HG:Hid (Cp 143 #[.slice a M.length c,.string (T.getD k empty)] wr (zc1 wr (zbl (M.map KV.key) (T.getD k empty)))):=zky a A M.length c M _ wr hd hI.out.len;clear hd hat hX;generalize T.getD k empty=t at*;by_cases hz:zd1 (M.map KV.key) t 0<0
   ·have HI2:Hid (yfo w B false K0 T (k+1) (.slice a M.length c) cnt wr M):=⟨by rw [HX.out];unfold zcs;rw [if_pos hz],hI.out.own,hI.out.fit,hI.out.len,hI.out.bel⟩;clear HX HG hI;generalize zd1 (M.map KV.key) t 0=z,M.length=ml at*;go_wp2_with fail;refine HF.out.mono ?_;rintro e w1 ⟨rfl,rfl⟩;clear HF;go_wp2;exact ⟨⟨k+1,cnt,M,by omega,by go_num,rfl,by omega,HI2⟩,by simp [intOf];omega⟩
   ·have HI2:Hid (yfo w B false K0 T (k+1) (.slice a M.length c) (cnt+1) wr M):=⟨by rw [HX.out];unfold zcs;rw [if_neg hz,if_neg (by decide)],hI.out.own,hI.out.fit,hI.out.len,hI.out.bel⟩;clear HX HG hI;generalize zd1 (M.map KV.key) t 0=z,M.length=ml at*;go_wp2_with fail;refine HF.out.mono ?_;rintro e w1 ⟨rfl,rfl⟩;clear HF;go_wp2;exact ⟨⟨k+1,cnt+1,M,by omega,by go_num,by go_num,by omega,HI2⟩,by simp [intOf];omega⟩
  ·obtain rfl:k=m:=by omega
   have HE:Hid (∀r w2,zbe w2 wr.heap.size r (zam cnt)->Bl wr w2->zbd w B ((zi7 false K0 T).1,zam (zi7 false K0 T).2) (.returned (.tuple #[u0,r])) w2):=fun r w2 h1 h2=>by
    have hq:=hI.out.eq;rw [HZ.out] at hq;rw [hq];exact ⟨u0,r,M,rfl,rfl,hI.out.own.bw h2,h1.le hI.out.bel.size,hI.out.bel.trans (h2.mono hI.out.bel.size)⟩
   have HR:Hid (∀n:Int,Cp 141 #[.int .i64 n] wr (zci wr (zam n))):=fun n=>zjb n wr;clear hI;go_wp2_with fail;refine (HR.out _).mono ?_;rintro e w1 ⟨r,rfl,hr,hb⟩;have HQ:Hid _:=HE.out r w1 hr hb;clear hr hb HE HR;go_wp2;go_ret2;exact HQ.out
end
theorem zyr:∀(T:List ByteArray) (s:List Ke×Nat),(T.foldl (zcs false) s).1=s.1
 | [],_=>rfl
 |t::T,s=>by
  rw [List.foldl_cons,zyr T];unfold zcs;split
  ·rfl
  ·rfl
theorem ycq (ks:List Ke) (T:List ByteArray):(zi7 false ks T).1=ks:=zyr T (ks,0)
theorem yeq (c:Cm) (hc:c.many=true) (B:Nat) (v:Value) (L:List KV) (aa:Option Addr) (ab ao m ac:Nat) (T:List ByteArray) (w:World) (hm:c.fits m=true) (h:zaw w B v L) (hf:zda (L.map KV.key)) (hn:L.length<=1048576) (ha:zdg w aa ab ao m T) (hm2:m<=1048576) (hB:B<=w.heap.size):
  Calls prog 99 #[v,.string c.text,.slice aa m ac] w (zbd w B (zgr c (L.map KV.key) T)):=by
 cases c using Cm.elim
 case PING=>
  by_cases h0:m=0
  ·subst h0;have:zgr .PING (L.map KV.key) T=(L.map KV.key,zau zq6):=by unfold zgr;rw [ha.len,if_pos rfl];rfl
   rw [this];exact zx0 B v L aa ac w h hB
  ·have:zgr .PING (L.map KV.key) T=(L.map KV.key,zax (T.getD 0 empty)):=by unfold zgr;rw [ha.len,if_neg h0];rfl
   rw [this];exact zxz B v L aa ab ao m ac T w h ha (by omega) hm2 hB
 case ECHO=>exact zzb B v L aa ab ao m ac T w h ha (by have:=Qg hm;omega) hB
 case FLUSHALL=>exact zol B v aa m ac w hB
 case DBSIZE=>exact zsa B v L aa m ac w h hB
 case KEYS=>exact yah B v L aa m ac w h hf hn hB
 case DEL=>exact yda B v L aa ab ao m ac T w h hf hn ha hm2 hB
 case EXISTS=>
  have key:=ztf B v L aa ab ao m ac T w h hf hn ha hm2 hB;have e:=ycq (L.map KV.key) T;rw [e] at key;exact key
 all_goals cases hc
end Go.Proofs.YtokafonppgppdaaGreatDoor
