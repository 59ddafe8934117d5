import Derived.Test.YtjpeglkkkllagaaGreatDoorC27
set_option maxHeartbeats 4000000
set_option maxRecDepth 100000
namespace Go.Proofs.YtjpeglkkkllagaaGreatDoor
open Go.RowKit Go.Sort
open Kk (Rk rk0 texL texR decS zea zeb zec OwnR flatR encR zdh str_ne str_eq)
theorem copy_step {wr W:World} {X:Nat} {a:Option Addr} {n c:Nat} {cur:List ByteArray} (h:CurI wr a n c cur) (hn:n≤1000) (hW:Below wr.heap.size wr W) (hX:RowAt W X 9 #[]) (hXw:wr.heap.size≤X):
  ∃a1 c1 w1,(Builtin.append_ #[59,59] 59 #[.slice (some ⟨X,0,none⟩) 0 0,.slice a n c]).run Tryz.prog W= .ok (.slice a1 n c1) w1∧OwnS w1 wr.heap.size (.slice a1 n c1) cur∧Below wr.heap.size wr w1∧W.grownBy w1 (some X):=by
 obtain ⟨A,hs,hc⟩:=h.strs;have hE:OwnS W wr.heap.size (.slice (some ⟨X,0,none⟩) 0 0) []:=empty_own hX hXw;obtain ⟨a1,c1,w1,hrun,ho,hg⟩:=app_gen hE (zdb hs hW) hc (by omega) (by simp) hW.size;rw [show ([]:List ByteArray).length+n=n by simp] at hrun ho;exact ⟨a1,c1,w1,hrun,ho,below_grown1 hW hg hXw,hg⟩
theorem back_step {wr W:World} {Y:Nat} {a:Option Addr} {n c:Nat} {cur:List ByteArray} {t:ByteArray} (ho:OwnS W wr.heap.size (.slice a n c) cur) (hl:cur.length=n) (hf:∀x∈cur,x.size≤1048576) (hn:n≤1000) (hW:Below wr.heap.size wr W) (hY:RowAt W Y 9 #[.string t]) (ht:t.size≤200):
  ∃a2 c2 w2,(Builtin.append_ #[59,59] 59 #[.slice a n c,.slice (some ⟨Y,0,none⟩) 1 1]).run Tryz.prog W= .ok (.slice a2 (n+1) c2) w2∧CurI w2 a2 (n+1) c2 (cur++ [t])∧Below wr.heap.size wr w2:=by
 have hs:zdg W (some ⟨Y,0,none⟩) Y 0 1 [t]:=⟨rfl,fun _=>rfl,fun _=>hY.lt,fun i hi=>by
  obtain rfl:i=0:=by omega
  exact (hY.cell 0).trans rfl,fun i hi=>by
  obtain rfl:i=0:=by omega
  show t.size≤_;omega⟩
 obtain ⟨a2,c2,w2,hrun,ho2,hg⟩:=app_gen ho hs (fun e=>by cases e) (by omega) (by omega) hW.size;rw [hl] at hrun ho2;refine ⟨a2,c2,w2,hrun,⟨owns_le ho2 (Nat.zero_le _),by simp [hl],fun x hx=>?_⟩,?_⟩
 ·rcases List.mem_append.1 hx with hx|hx
  ·exact hf x hx
  ·rw [List.mem_singleton.1 hx];omega
 ·cases hb:(Value.slice a n c).ownBlock with
  |none=>
   rw [hb] at hg;exact ⟨hg.os.trans hW.os,hg.tape.trans hW.tape,hg.output.trans hW.output,Nat.le_trans hW.size hg.size,fun k hk=> (hg.block k (Nat.lt_of_lt_of_le hk hW.size) (fun e=>by cases e)).trans (hW.block k hk)⟩
  |some g=>
   rw [hb] at hg;exact below_grown1 hW hg (own_lt ho hb).1
theorem lists_RPUSH (B B':Nat) (v:Value) (L:List KV) (x:KV) (there:Bool) (aa:Option Addr) (ab ao m ac:Nat) (T:List ByteArray) (w:World) (h:DbOwn w B v L) (hf:FitsK (L.map KV.key)) (hn:L.length≤500000) (hx:VOwn w B' x.key.val x.vi x.vp x.vr) (hxs:KSml x.key) (ha:zdg w aa ab ao m T) (hm:2≤m) (hm2:m≤20) (hT:∀i,i<m→(argN T i).size≤200) (hB:B≤w.heap.size):
  Calls Tryz.prog 95 #[v,kvV x,.bool there,.string ⟨#[82,80,85,83,72]⟩,.slice aa m ac] w (zbd w B (listsM .RPUSH (L.map KV.key) x.key there T)):=by
 have hx0:=hx.rd (fun t ht=>by have:=hxs.items t ht;omega);obtain ⟨p1,d1,e1⟩:=zad hx.items;obtain ⟨p2,d2,e2⟩:=zad hx.pairs;obtain ⟨p3,d3,e3⟩:=zad hx.ranks;obtain ⟨⟨xn,xv,xd⟩,vi,vp,vr⟩:=x;have hown:=hx.items;dsimp only at e1 e2 e3 hx0 hxs hown;subst e1 e2 e3;have hni:xv.items.length≤20:=hxs.ni;have hlen:=ha.len;have hlow:ab<w.heap.size:=ha.low (by omega);have haw:zdg w aa ab ao m T:=ha;obtain rfl:=ha.addr (by omega);obtain ⟨W0,hW0,HW0,b0,r0⟩:=boxed w (kC xn xv.kind xv.text (.slice p1 xv.items.length d1) (.slice p2 xv.pairs.length d2) (.slice p3 xv.ranks.length d3) xd) 65;have ES:=es_of h hB b0;have HAW:Hid (∀W,Below w.heap.size w W→∀i,i<m→W.cell? ⟨ab,ao+i,none⟩=some (.string (argN T i))):=fun W hb i hi=> (zdb haw hb).cell i hi;have HTS:Hid (∀i,i<m→(argN T i).size≤200):=hT;have HIN:=hIN;have hwl:IntKind.i64.wrap ((xv.items.length:Int)-1)=(xv.items.length:Int)-1:=Kk.wrap_small (by omega) (by omega);have HSET:Hid (∀W rv va is,Below w.heap.size w W→is.length≤100→(∀t∈is,t.size≤1048576)→zbe W w.heap.size rv (rInt (is.length:Int))→(∃a A o c,va= .slice a is.length c∧zdg W a A o is.length is∧(a=none→c=0))→Calls Tryz.prog 125 #[v,.agg (kC xn xv.kind xv.text va (.slice p2 xv.pairs.length d2) (.slice p3 xv.ranks.length d3) xd),rv] W (fun e w'=>zbd w B (setM (L.map KV.key) ⟨xn,⟨xv.kind,xv.text,is,xv.pairs,xv.ranks⟩,xd⟩ (rInt (is.length:Int))) e w'∧Below W.heap.size W w')):=fun W rv va is hb h20 hit hr hva=>by
  have hk:KFit ⟨xn,⟨xv.kind,xv.text,is,xv.pairs,xv.ranks⟩,xd⟩:=⟨⟨hxs.fit.fit.text,by show is.length≤_;omega,hxs.fit.fit.pairs,hxs.fit.fit.ranks⟩,hxs.fit.name,hit⟩;have hv:VRd W (⟨xv.kind,xv.text,is,xv.pairs,xv.ranks⟩:Vl) va (.slice p2 xv.pairs.length d2) (.slice p3 xv.ranks.length d3):=⟨hva,(hx0.below hb).pairs,(hx0.below hb).ranks⟩;exact (set_any B v L ⟨⟨xn,⟨xv.kind,xv.text,is,xv.pairs,xv.ranks⟩,xd⟩,va,.slice p2 xv.pairs.length d2,.slice p3 xv.ranks.length d3⟩ rv (rInt (is.length:Int)) W (h.below hb) hf hn hv hk (hr.le hB) (Nat.le_trans hB hb.size)).mono fun e w' he=>⟨zbd.wide he hb,he.bel⟩
 have HC0:Hid (CurI W0 p1 xv.items.length d1 xv.items):=⟨owns_le (zaf hown b0) (Nat.zero_le _),rfl,fun t ht=>by have:=hxs.items t ht;omega⟩;obtain ⟨y0,y1,y2,y3,y4,y5,y6⟩:=row7 r0;show Calls Tryz.prog 95 #[v,.agg (kC xn xv.kind xv.text (.slice p1 xv.items.length d1) (.slice p2 xv.pairs.length d2) (.slice p3 xv.ranks.length d3) xd),.bool there,.string ⟨#[82,80,85,83,72]⟩,.slice (some ⟨ab,ao,none⟩) m ac] w (zbd w B (setM (L.map KV.key) ⟨xn,⟨xv.kind,xv.text,xv.items++T.tail,xv.pairs,xv.ranks⟩,xd⟩ (rInt ((xv.items.length+T.tail.length:Nat):Int))));have HEND:Hid (setM (L.map KV.key) ⟨xn,⟨xv.kind,xv.text,xv.items++T.tail,xv.pairs,xv.ranks⟩,xd⟩ (rInt ((xv.items.length+T.tail.length:Nat):Int))=setM (L.map KV.key) ⟨xn,⟨xv.kind,xv.text,xv.items++(T.take m).drop 1,xv.pairs,xv.ranks⟩,xd⟩ (rInt (((xv.items++(T.take m).drop 1).length:Nat):Int))):=by
  unfold Hid;rw [List.take_of_length_le (by omega),List.drop_one];simp
 rw [HEND.out];have HFIN:Hid (∀is,is=xv.items++(T.take m).drop 1→setM (L.map KV.key) ⟨xn,⟨xv.kind,xv.text,xv.items++(T.take m).drop 1,xv.pairs,xv.ranks⟩,xd⟩ (rInt (((xv.items++(T.take m).drop 1).length:Nat):Int))=setM (L.map KV.key) ⟨xn,⟨xv.kind,xv.text,is,xv.pairs,xv.ranks⟩,xd⟩ (rInt (is.length:Int))):=fun is e=>by rw [e]
 have HNX:Hid (∀k,1≤k→k<m→(xv.items++(T.take k).drop 1)++ [argN T k]=xv.items++(T.take (k+1)).drop 1):=fun k hk1 hk=>by
  rw [List.take_succ_eq_append_getElem (by omega),List.drop_append_of_le_length (by rw [List.length_take];omega),List.append_assoc];simp [argN,List.getD_eq_getElem?_getD,List.getElem?_eq_getElem (show k<T.length by omega)]
 have HLN:Hid (∀k,1≤k→k≤m→(xv.items++(T.take k).drop 1).length≤100):=fun k hk1 hk=>by
  rw [List.length_append,List.length_drop,List.length_take];omega
 have HC1:Hid (xv.items++(T.take 1).drop 1=xv.items):=by
  unfold Hid;rw [List.drop_eq_nil_of_le (by rw [List.length_take];omega),List.append_nil]
 clear h hf hx hx0 hxs ha haw hT hW0 hown HEND;generalize setM (L.map KV.key) ⟨xn,⟨xv.kind,xv.text,xv.items++(T.take m).drop 1,xv.pairs,xv.ranks⟩,xd⟩ (rInt (((xv.items++(T.take m).drop 1).length:Nat):Int))=SM at*;generalize L.map KV.key=K0 at*;generalize hn1:xv.items.length=n1 at*;generalize xv.pairs.length=n2 at*;generalize xv.ranks.length=n3 at*;generalize xv.text=tx at*;generalize xv.kind=kd at*;go_enter Tryz.func95,Tryz.ntmps95;go_upto_region 1 with fail;rw [HW0.out];go_wp2_with fail;go_loopw [21] (fun q wr=>∃(k:Nat) (a:Option Addr) (n c:Nat),1≤k∧k≤m∧q= .int .i64 k∧n≤100∧Hid (CurI wr a n c (xv.items++(T.take k).drop 1))∧Hid (RowAt wr w.heap.size 65 (kC xn kd tx (.slice a n c) (.slice p2 n2 d2) (.slice p3 n3 d3) xd))∧Below w.heap.size w wr) (fun q _=>m-(intOf q).toNat)
 case atStart=>exact ⟨1,p1,n1,d1,by omega,by omega,rfl,by omega,by unfold Hid;rw [HC1.out];exact HC0.out,r0,b0⟩
 case round=>
  obtain ⟨k,a,n,c,hk1,hk,rfl,hn100,hC,hR,bk⟩:=hrel;clear y0 y1 y2 y3 y4 y5 y6;obtain ⟨y0,y1,y2,y3,y4,y5,y6⟩:=row7 hR.out;by_cases hlt:k<m
  ·have ck:=HAW.out wr bk k hlt;have sk:=HTS.out k hlt;have hNX:=HNX.out k hk1 hlt;have hLN:=HLN.out (k+1) (by omega) (by omega);have hRl:=RowAt.lt hR.out;generalize argN T k=t at*;have bAA:Below wr.heap.size wr ((wr.alloc (.cells #[] 9)).drew):=below_drewN ((Below.refl _ wr).alloc (Nat.le_refl _) _) 1;obtain ⟨aA,cA,wA,hA1,oA,bA,gA⟩:=copy_step (W:=(wr.alloc (.cells #[] 9)).drew) (X:=wr.heap.size) hC.out (by omega) bAA (RowAt.new wr 9 #[]) (Nat.le_refl _);have bA2:Below wr.heap.size wr (wA.alloc (.cells #[.string t] 9)):=bA.alloc bA.size _;obtain ⟨aA2,cA2,wA2,hA2,CA,BA⟩:=back_step (W:=wA.alloc (.cells #[.string t] 9)) (Y:=wA.heap.size) (t:=t) (zaf oA ((Below.refl _ wA).alloc (Nat.le_refl _) _)) hC.out.len hC.out.fit (by omega) bA2 (RowAt.new wA 9 _) sk;have bBB:Below wr.heap.size wr (((wr.alloc (.cells #[] 9)).alloc (.cells #[.string t] 9)).drew):=below_drewN (Joins.below_alloc2 wr _ _) 1;have xB:RowAt (((wr.alloc (.cells #[] 9)).alloc (.cells #[.string t] 9)).drew) wr.heap.size 9 #[]:=(RowAt.below (RowAt.new wr 9 #[]) ((Below.refl _ (wr.alloc (.cells #[] 9))).alloc (Nat.le_refl _) (.cells #[.string t] 9)) (by simp):RowAt ((wr.alloc (.cells #[] 9)).alloc (.cells #[.string t] 9)) wr.heap.size 9 #[]);have yB:RowAt (((wr.alloc (.cells #[] 9)).alloc (.cells #[.string t] 9)).drew) (wr.heap.size+1) 9 #[.string t]:=by
    have:=RowAt.new (wr.alloc (.cells #[] 9)) 9 #[.string t];simp only [World.size_alloc] at this;exact this
   obtain ⟨aB,cB,wB,hB1,oB,bB,gB⟩:=copy_step (W:=((wr.alloc (.cells #[] 9)).alloc (.cells #[.string t] 9)).drew) (X:=wr.heap.size) hC.out (by omega) bBB xB (Nat.le_refl _);have yB2:RowAt wB (wr.heap.size+1) 9 #[.string t]:=(gB.block (wr.heap.size+1) yB.lt (fun e=>by have:=Option.some.inj e;omega)).trans yB;obtain ⟨aB2,cB2,wB2,hB2,CB,BB⟩:=back_step (W:=wB) (Y:=wr.heap.size+1) (t:=t) oB hC.out.len hC.out.fit (by omega) bB yB2 sk;have bCC:Below wr.heap.size wr (((wr.alloc (.cells #[.string t] 9)).alloc (.cells #[] 9)).drew):=below_drewN (Joins.below_alloc2 wr _ _) 1;have yC:RowAt (((wr.alloc (.cells #[.string t] 9)).alloc (.cells #[] 9)).drew) wr.heap.size 9 #[.string t]:=(RowAt.below (RowAt.new wr 9 #[.string t]) ((Below.refl _ (wr.alloc (.cells #[.string t] 9))).alloc (Nat.le_refl _) (.cells #[] 9)) (by simp):RowAt ((wr.alloc (.cells #[.string t] 9)).alloc (.cells #[] 9)) wr.heap.size 9 #[.string t]);have xC:RowAt (((wr.alloc (.cells #[.string t] 9)).alloc (.cells #[] 9)).drew) (wr.heap.size+1) 9 #[]:=by
    have:=RowAt.new (wr.alloc (.cells #[.string t] 9)) 9 #[];simp only [World.size_alloc] at this;exact this
   obtain ⟨aC,cC,wC,hC1,oC,bC,gC⟩:=copy_step (W:=((wr.alloc (.cells #[.string t] 9)).alloc (.cells #[] 9)).drew) (X:=wr.heap.size+1) hC.out (by omega) bCC xC (by omega);have yC2:RowAt wC wr.heap.size 9 #[.string t]:=(gC.block wr.heap.size yC.lt (fun e=>by have:=Option.some.inj e;omega)).trans yC;obtain ⟨aC2,cC2,wC2,hC2,CC,BC⟩:=back_step (W:=wC) (Y:=wr.heap.size) (t:=t) oC hC.out.len hC.out.fit (by omega) bC yC2 sk;rw [hNX] at CA CB CC;have hn1':n+1≤100:=by have:=CA.len;omega
   clear hLN;have RA:RowAt wA2 w.heap.size 65 (kC xn kd tx (.slice a n c) (.slice p2 n2 d2) (.slice p3 n3 d3) xd):=RowAt.below hR.out BA hRl;have f3A:=RA.frozen 3;have z3A:=RA.cell 3;have HRA:Hid (RowAt (wA2.setCell ⟨w.heap.size,3,none⟩ (.slice aA2 (n+1) cA2)) w.heap.size 65 (kC xn kd tx (.slice aA2 (n+1) cA2) (.slice p2 n2 d2) (.slice p3 n3 d3) xd)):=RA.set 3 _
   have HCA:Hid (CurI (wA2.setCell ⟨w.heap.size,3,none⟩ (.slice aA2 (n+1) cA2)) aA2 (n+1) cA2 (xv.items++(T.take (k+1)).drop 1)):=⟨zai CA.own fun g hg=>by
    obtain ⟨C,hCg⟩:=own_type CA.own hg
    exact Below.heap_setCell _ _ _ _ (fun e=>by
     have e2:g=w.heap.size:=e;subst e2;exact absurd (Hp.row_type hCg RA) (by decide)),CA.len,CA.fit⟩
   have HBA:Hid (Below w.heap.size w (wA2.setCell ⟨w.heap.size,3,none⟩ (.slice aA2 (n+1) cA2))):=(bk.trans (BA.mono bk.size)).setCell (Nat.le_refl _) _;have RB:RowAt wB2 w.heap.size 65 (kC xn kd tx (.slice a n c) (.slice p2 n2 d2) (.slice p3 n3 d3) xd):=RowAt.below hR.out BB hRl;have f3B:=RB.frozen 3;have z3B:=RB.cell 3;have HRB:Hid (RowAt (wB2.setCell ⟨w.heap.size,3,none⟩ (.slice aB2 (n+1) cB2)) w.heap.size 65 (kC xn kd tx (.slice aB2 (n+1) cB2) (.slice p2 n2 d2) (.slice p3 n3 d3) xd)):=RB.set 3 _
   have HCB:Hid (CurI (wB2.setCell ⟨w.heap.size,3,none⟩ (.slice aB2 (n+1) cB2)) aB2 (n+1) cB2 (xv.items++(T.take (k+1)).drop 1)):=⟨zai CB.own fun g hg=>by
    obtain ⟨C,hCg⟩:=own_type CB.own hg
    exact Below.heap_setCell _ _ _ _ (fun e=>by
     have e2:g=w.heap.size:=e;subst e2;exact absurd (Hp.row_type hCg RB) (by decide)),CB.len,CB.fit⟩
   have HBB:Hid (Below w.heap.size w (wB2.setCell ⟨w.heap.size,3,none⟩ (.slice aB2 (n+1) cB2))):=(bk.trans (BB.mono bk.size)).setCell (Nat.le_refl _) _;have RC:RowAt wC2 w.heap.size 65 (kC xn kd tx (.slice a n c) (.slice p2 n2 d2) (.slice p3 n3 d3) xd):=RowAt.below hR.out BC hRl;have f3C:=RC.frozen 3;have z3C:=RC.cell 3;have HRC:Hid (RowAt (wC2.setCell ⟨w.heap.size,3,none⟩ (.slice aC2 (n+1) cC2)) w.heap.size 65 (kC xn kd tx (.slice aC2 (n+1) cC2) (.slice p2 n2 d2) (.slice p3 n3 d3) xd)):=RC.set 3 _
   have HCC:Hid (CurI (wC2.setCell ⟨w.heap.size,3,none⟩ (.slice aC2 (n+1) cC2)) aC2 (n+1) cC2 (xv.items++(T.take (k+1)).drop 1)):=⟨zai CC.own fun g hg=>by
    obtain ⟨C,hCg⟩:=own_type CC.own hg
    exact Below.heap_setCell _ _ _ _ (fun e=>by
     have e2:g=w.heap.size:=e;subst e2;exact absurd (Hp.row_type hCg RC) (by decide)),CC.len,CC.fit⟩
   have HBC:Hid (Below w.heap.size w (wC2.setCell ⟨w.heap.size,3,none⟩ (.slice aC2 (n+1) cC2))):=(bk.trans (BC.mono bk.size)).setCell (Nat.le_refl _) _;simp at z3A z3B z3C;have k0:(wr.alloc (.cells #[] 9)).cell? ⟨w.heap.size,3,none⟩=some (.slice a n c):=(((Below.refl wr.heap.size wr).alloc (Nat.le_refl _) _).cell (p:=⟨w.heap.size,3,none⟩) hRl).trans y3;have k1:(wr.alloc (.cells #[.string t] 9)).cell? ⟨w.heap.size,3,none⟩=some (.slice a n c):=(((Below.refl wr.heap.size wr).alloc (Nat.le_refl _) _).cell (p:=⟨w.heap.size,3,none⟩) hRl).trans y3;have k2:((wr.alloc (.cells #[] 9)).alloc (.cells #[.string t] 9)).cell? ⟨w.heap.size,3,none⟩=some (.slice a n c):=((Joins.below_alloc2 wr _ _).cell (p:=⟨w.heap.size,3,none⟩) hRl).trans y3;have k3:((wr.alloc (.cells #[.string t] 9)).alloc (.cells #[] 9)).cell? ⟨w.heap.size,3,none⟩=some (.slice a n c):=((Joins.below_alloc2 wr _ _).cell (p:=⟨w.heap.size,3,none⟩) hRl).trans y3;have hal:ab<wr.heap.size:=by have:=bk.size;omega
   have j0:(wr.alloc (.cells #[] 9)).cell? ⟨ab,ao+k,none⟩=some (.string t):=(((Below.refl wr.heap.size wr).alloc (Nat.le_refl _) _).cell (p:=⟨ab,ao+k,none⟩) hal).trans ck;have jA:wA.cell? ⟨ab,ao+k,none⟩=some (.string t):=(bA.cell (p:=⟨ab,ao+k,none⟩) hal).trans ck;clear oA oB oC gA gB gC xB yB xC yC yB2 yC2 bAA bBB bCC bA bA2 bB bC BA BB BC CA CB CC RA RB RC hR hC hNX;go_wp2_with fail
   go_region_law (first
    |refine zba rfl (.tmp 125) (.tmp 128) 59 rfl (by simp [Act.eval]) (by simp [Act.eval]) hA1 ?_
    |refine zba rfl (.tmp 125) (.tmp 128) 59 rfl (by simp [Act.eval]) (by simp [Act.eval]) hB1 ?_
    |refine zba rfl (.tmp 125) (.tmp 128) 59 rfl (by simp [Act.eval]) (by simp [Act.eval]) hC1 ?_
    |refine zba rfl (.tmp 129) (.tmp 134) 59 rfl (by simp [Act.eval]) (by simp [Act.eval]) hA2 ?_
    |refine zba rfl (.tmp 129) (.tmp 134) 59 rfl (by simp [Act.eval]) (by simp [Act.eval]) hB2 ?_
    |refine zba rfl (.tmp 129) (.tmp 134) 59 rfl (by simp [Act.eval]) (by simp [Act.eval]) hC2 ?_)
   all_goals
    go_wp2;go_roundw
    case rel=>
     first
     |exact ⟨k+1,aA2,n+1,cA2,by omega,by omega,by go_num,hn1',HCA,HRA,HBA.out⟩
     |exact ⟨k+1,aB2,n+1,cB2,by omega,by omega,by go_num,hn1',HCB,HRB,HBB.out⟩
     |exact ⟨k+1,aC2,n+1,cC2,by omega,by omega,by go_num,hn1',HCC,HRC,HBC.out⟩
    case measure=>simp [intOf];omega
  ·obtain rfl:k=m:=by omega
   have hbl:(xv.items++(T.take k).drop 1).length≤100:=HLN.out k hk1 (Nat.le_refl _);have hSM:=HFIN.out _ rfl;have hln:=hC.out.len;have HS2:Hid (∀W rv,Below w.heap.size w W→Below wr.heap.size wr W→zbe W w.heap.size rv (rInt (n:Int))→Calls Tryz.prog 125 #[v,.agg (kC xn kd tx (.slice a n c) (.slice p2 n2 d2) (.slice p3 n3 d3) xd),rv] W (fun e w'=>zbd w B SM e w'∧Below W.heap.size W w')):=fun W rv hb hb2 hr=>by
    rw [hSM];rw [←hln] at hr;obtain ⟨A,hs,hcz⟩:=hC.out.strs;exact HSET.out W rv (.slice a n c) _ hb hbl hC.out.fit hr ⟨a,A,0,c,by rw [hln],by rw [hln];exact zdb hs hb2,hcz⟩
   have hRl:=RowAt.lt hR.out;clear hSM hbl HFIN HSET HLN HNX HAW HTS hC hR HC0 HC1 ES;go_wp2_with fail;go_region_held3 (fun W=>W.cell? ⟨w.heap.size,0,none⟩=some (.string xn)∧W.cell? ⟨w.heap.size,1,none⟩=some (.int .i64 kd)∧W.cell? ⟨w.heap.size,2,none⟩=some (.string tx)∧W.cell? ⟨w.heap.size,3,none⟩=some (.slice a n c)∧W.cell? ⟨w.heap.size,4,none⟩=some (.slice p2 n2 d2)∧W.cell? ⟨w.heap.size,5,none⟩=some (.slice p3 n3 d3)∧W.cell? ⟨w.heap.size,6,none⟩=some (.int .i64 xd))
    (first|exact ⟨y0,y1,y2,y3,y4,y5,y6⟩|exact (up7 b1 hRl ⟨y0,y1,y2,y3,y4,y5,y6⟩)|exact (up7 b2 hA2 (up7 b1 hRl ⟨y0,y1,y2,y3,y4,y5,y6⟩)))
    (first
     |(go_at_call 119;refine (HIN.out _ (n:Int)).mono ?_;rintro e w1 ⟨r,rfl,hr,b1⟩;have bd:Below wr.heap.size wr w1:=(below_drewN (Below.refl _ wr) 1).trans b1;have hr1:zbe w1 w.heap.size r (rInt (n:Int)):=hr.le bk.size;have hA2:w.heap.size<w1.heap.size:=Nat.lt_of_lt_of_le hRl bd.size;have bA1:Below w.heap.size w w1:=bk.trans (bd.mono bk.size))
     |(go_at_call 125;refine (HS2.out _ _ bA1 bd hr1).mono ?_;rintro e w2 ⟨⟨v',r',L',rfl,hm,ho,hrr,hbb⟩,b2⟩;have HF:Hid (zbd w B SM (.returned (.tuple #[v',r'])) w2):=⟨v',r',L',rfl,hm,ho,hrr,hbb⟩;clear hm ho hrr hbb))
   all_goals
    go_wp2;go_ret2;exact HF.out
end Go.Proofs.YtjpeglkkkllagaaGreatDoor
