import Derived.Test.YtibhabajknikcaaGreatDoorC27
import Derived.Test.YtibhabajknikcaaGreatDoorC13
set_option maxHeartbeats 4000000
set_option maxRecDepth 100000
namespace Go.Proofs.YtibhabajknikcaaGreatDoor
open Go.RowKit Go.Sort
open Kk (Rk rk0 texL texR decS zea zeb zec OwnR flatR encR zdh str_ne str_eq)
theorem copy_step {wr W:World} {X:Nat} {a:Option Addr} {n c:Nat} {cur:List ByteArray} (h:CurI wr a n c cur) (hn:n≤1000) (hW:Below wr.heap.size wr W) (hX:RowAt W X 9 #[]) (hXw:wr.heap.size≤X):
  ∃a1 c1 w1,(Builtin.append_ #[28,28] 28 #[.slice (some ⟨X,0,none⟩) 0 0,.slice a n c]).run Tryz.prog W= .ok (.slice a1 n c1) w1∧OwnS w1 wr.heap.size (.slice a1 n c1) cur∧Below wr.heap.size wr w1∧W.grownBy w1 (some X):=by
 obtain ⟨A,hs,hc⟩:=h.strs;have hE:OwnS W wr.heap.size (.slice (some ⟨X,0,none⟩) 0 0) []:=empty_own hX hXw;obtain ⟨a1,c1,w1,hrun,ho,hg⟩:=app_gen hE (zdb hs hW) hc (by omega) (by simp) hW.size;rw [show ([]:List ByteArray).length+n=n by simp] at hrun ho;exact ⟨a1,c1,w1,hrun,ho,below_grown1 hW hg hXw,hg⟩
theorem back_step {wr W:World} {Y:Nat} {a:Option Addr} {n c:Nat} {cur:List ByteArray} {t:ByteArray} (ho:OwnS W wr.heap.size (.slice a n c) cur) (hl:cur.length=n) (hf:∀x∈cur,x.size≤1048576) (hn:n≤1000) (hW:Below wr.heap.size wr W) (hY:RowAt W Y 9 #[.string t]) (ht:t.size≤200):
  ∃a2 c2 w2,(Builtin.append_ #[28,28] 28 #[.slice a n c,.slice (some ⟨Y,0,none⟩) 1 1]).run Tryz.prog W= .ok (.slice a2 (n+1) c2) w2∧CurI w2 a2 (n+1) c2 (cur++ [t])∧Below wr.heap.size wr w2:=by
 have hs:zdg W (some ⟨Y,0,none⟩) Y 0 1 [t]:=⟨rfl,fun _=>rfl,fun _=>hY.lt,fun i hi=>by
  obtain rfl:i=0:=by omega
  exact (hY.cell 0).trans rfl,fun i hi=>by
  obtain rfl:i=0:=by omega
  show t.size≤_;omega⟩
 obtain ⟨a2,c2,w2,hrun,ho2,hg⟩:=app_gen ho hs (fun e=>by cases e) (by omega) (by omega) hW.size;rw [hl] at hrun ho2;refine ⟨a2,c2,w2,hrun,⟨owns_le ho2 (Nat.zero_le _),by simp [hl],fun x hx=>?_⟩,?_⟩
 ·rcases List.mem_append.1 hx with hx|hx
  ·exact hf x hx
  ·rw [List.mem_singleton.1 hx];omega
 ·cases hb:(Value.slice a n c).ownBlock with
  |none=>
   rw [hb] at hg;exact ⟨hg.os.trans hW.os,hg.tape.trans hW.tape,hg.output.trans hW.output,Nat.le_trans hW.size hg.size,fun k hk=> (hg.block k (Nat.lt_of_lt_of_le hk hW.size) (fun e=>by cases e)).trans (hW.block k hk)⟩
  |some g=>
   rw [hb] at hg;exact below_grown1 hW hg (own_lt ho hb).1
theorem lists_RPUSH (B B':Nat) (v:Value) (L:List KV) (x:KV) (there:Bool) (aa:Option Addr) (ab ao m ac:Nat) (T:List ByteArray) (w:World) (h:DbOwn w B v L) (hf:FitsK (L.map KV.key)) (hn:L.length≤500000) (hx:VOwn w B' x.key.val x.vi x.vp x.vr) (hxs:KSml x.key) (ha:zdg w aa ab ao m T) (hm:2≤m) (hm2:m≤20) (hT:∀i,i<m→(argN T i).size≤200) (hB:B≤w.heap.size):
  Calls Tryz.prog 95 #[v,kvV x,.bool there,.string ⟨#[82,80,85,83,72]⟩,.slice aa m ac] w (zbd w B (listsM .RPUSH (L.map KV.key) x.key there T)):=by
 have hx0:=hx.rd (fun t ht=>by have:=hxs.items t ht;omega);obtain ⟨p1,d1,e1⟩:=zad hx.items;obtain ⟨p2,d2,e2⟩:=zad hx.pairs;obtain ⟨p3,d3,e3⟩:=zad hx.ranks;obtain ⟨⟨xn,xv,xd⟩,vi,vp,vr⟩:=x;have hown:=hx.items;dsimp only at e1 e2 e3 hx0 hxs hown;subst e1 e2 e3;have hni:xv.items.length≤20:=hxs.ni;have hlen:=ha.len;have hlow:ab<w.heap.size:=ha.low (by omega);have haw:zdg w aa ab ao m T:=ha;obtain rfl:=ha.addr (by omega);obtain ⟨W0,hW0,HW0,b0,r0⟩:=boxed w (kC xn xv.kind xv.text (.slice p1 xv.items.length d1) (.slice p2 xv.pairs.length d2) (.slice p3 xv.ranks.length d3) xd) 60;have ES:=es_of h hB b0;have HAW:Hid (∀W,Below w.heap.size w W→∀i,i<m→W.cell? ⟨ab,ao+i,none⟩=some (.string (argN T i))):=fun W hb i hi=> (zdb haw hb).cell i hi;have HTS:Hid (∀i,i<m→(argN T i).size≤200):=hT;have HIN:=hIN;have hwl:IntKind.i64.wrap ((xv.items.length:Int)-1)=(xv.items.length:Int)-1:=Kk.wrap_small (by omega) (by omega);have HSET:Hid (∀W rv va is,Below w.heap.size w W→is.length≤100→(∀t∈is,t.size≤1048576)→zbe W w.heap.size rv (rInt (is.length:Int))→(∃a A o c,va= .slice a is.length c∧zdg W a A o is.length is∧(a=none→c=0))→Calls Tryz.prog 133 #[v,.agg (kC xn xv.kind xv.text va (.slice p2 xv.pairs.length d2) (.slice p3 xv.ranks.length d3) xd),rv] W (fun e w'=>zbd w B (setM (L.map KV.key) ⟨xn,⟨xv.kind,xv.text,is,xv.pairs,xv.ranks⟩,xd⟩ (rInt (is.length:Int))) e w'∧Below W.heap.size W w')):=fun W rv va is hb h20 hit hr hva=>by
  have hk:KFit ⟨xn,⟨xv.kind,xv.text,is,xv.pairs,xv.ranks⟩,xd⟩:=⟨⟨hxs.fit.fit.text,by show is.length≤_;omega,hxs.fit.fit.pairs,hxs.fit.fit.ranks⟩,hxs.fit.name,hit⟩;have hv:VRd W (⟨xv.kind,xv.text,is,xv.pairs,xv.ranks⟩:Vl) va (.slice p2 xv.pairs.length d2) (.slice p3 xv.ranks.length d3):=⟨hva,(hx0.below hb).pairs,(hx0.below hb).ranks⟩;exact (set_any B v L ⟨⟨xn,⟨xv.kind,xv.text,is,xv.pairs,xv.ranks⟩,xd⟩,va,.slice p2 xv.pairs.length d2,.slice p3 xv.ranks.length d3⟩ rv (rInt (is.length:Int)) W (h.below hb) hf hn hv hk hr (Nat.le_trans hB hb.size) hb.size).mono fun e w' he=>⟨zbs.wide he hb,he.bel⟩
 have HC0:Hid (CurI W0 p1 xv.items.length d1 xv.items):=⟨owns_le (zaf hown b0) (Nat.zero_le _),rfl,fun t ht=>by have:=hxs.items t ht;omega⟩;obtain ⟨y0,y1,y2,y3,y4,y5,y6⟩:=row7 r0;show Calls Tryz.prog 95 #[v,.agg (kC xn xv.kind xv.text (.slice p1 xv.items.length d1) (.slice p2 xv.pairs.length d2) (.slice p3 xv.ranks.length d3) xd),.bool there,.string ⟨#[82,80,85,83,72]⟩,.slice (some ⟨ab,ao,none⟩) m ac] w (zbd w B (setM (L.map KV.key) ⟨xn,⟨xv.kind,xv.text,xv.items++T.tail,xv.pairs,xv.ranks⟩,xd⟩ (rInt ((xv.items.length+T.tail.length:Nat):Int))));have HEND:Hid (setM (L.map KV.key) ⟨xn,⟨xv.kind,xv.text,xv.items++T.tail,xv.pairs,xv.ranks⟩,xd⟩ (rInt ((xv.items.length+T.tail.length:Nat):Int))=setM (L.map KV.key) ⟨xn,⟨xv.kind,xv.text,xv.items++(T.take m).drop 1,xv.pairs,xv.ranks⟩,xd⟩ (rInt (((xv.items++(T.take m).drop 1).length:Nat):Int))):=by
  unfold Hid;rw [List.take_of_length_le (by omega),List.drop_one];simp
 rw [HEND.out];have HFIN:Hid (∀is,is=xv.items++(T.take m).drop 1→setM (L.map KV.key) ⟨xn,⟨xv.kind,xv.text,xv.items++(T.take m).drop 1,xv.pairs,xv.ranks⟩,xd⟩ (rInt (((xv.items++(T.take m).drop 1).length:Nat):Int))=setM (L.map KV.key) ⟨xn,⟨xv.kind,xv.text,is,xv.pairs,xv.ranks⟩,xd⟩ (rInt (is.length:Int))):=fun is e=>by rw [e]
 have HNX:Hid (∀k,1≤k→k<m→(xv.items++(T.take k).drop 1)++ [argN T k]=xv.items++(T.take (k+1)).drop 1):=fun k hk1 hk=>by
  rw [List.take_succ_eq_append_getElem (by omega),List.drop_append_of_le_length (by rw [List.length_take];omega),List.append_assoc];simp [argN,List.getD_eq_getElem?_getD,List.getElem?_eq_getElem (show k<T.length by omega)]
 have HLN:Hid (∀k,1≤k→k≤m→(xv.items++(T.take k).drop 1).length≤100):=fun k hk1 hk=>by
  rw [List.length_append,List.length_drop,List.length_take];omega
 have HC1:Hid (xv.items++(T.take 1).drop 1=xv.items):=by
  unfold Hid;rw [List.drop_eq_nil_of_le (by rw [List.length_take];omega),List.append_nil]
 clear h hf hx hx0 hxs ha haw hT hW0 hown HEND;generalize setM (L.map KV.key) ⟨xn,⟨xv.kind,xv.text,xv.items++(T.take m).drop 1,xv.pairs,xv.ranks⟩,xd⟩ (rInt (((xv.items++(T.take m).drop 1).length:Nat):Int))=SM at*;generalize L.map KV.key=K0 at*;generalize hn1:xv.items.length=n1 at*;generalize xv.pairs.length=n2 at*;generalize xv.ranks.length=n3 at*;generalize xv.text=tx at*;generalize xv.kind=kd at*;go_enter Tryz.func95,Tryz.ntmps95;go_upto_region 1 with fail;rw [HW0.out];go_wp2_with fail;go_loopw [21] (fun q wr=>∃(k:Nat) (a:Option Addr) (n c:Nat),1≤k∧k≤m∧q= .int .i64 k∧n≤100∧Hid (CurI wr a n c (xv.items++(T.take k).drop 1))∧Hid (RowAt wr w.heap.size 60 (kC xn kd tx (.slice a n c) (.slice p2 n2 d2) (.slice p3 n3 d3) xd))∧Below w.heap.size w wr) (fun q _=>m-(intOf q).toNat)
 case atStart=>exact ⟨1,p1,n1,d1,by omega,by omega,rfl,by omega,by unfold Hid;rw [HC1.out];exact HC0.out,r0,b0⟩
 case round=>
  obtain ⟨k,a,n,c,hk1,hk,rfl,hn100,hC,hR,bk⟩:=hrel;clear y0 y1 y2 y3 y4 y5 y6;obtain ⟨y0,y1,y2,y3,y4,y5,y6⟩:=row7 hR.out;by_cases hlt:k<m
  ·have ck:=HAW.out wr bk k hlt;have sk:=HTS.out k hlt;have hNX:=HNX.out k hk1 hlt;have hLN:=HLN.out (k+1) (by omega) (by omega);have hRl:=RowAt.lt hR.out;generalize argN T k=t at*;have bAA:Below wr.heap.size wr ((wr.alloc (.cells #[] 9)).drew):=below_drewN ((Below.refl _ wr).alloc (Nat.le_refl _) _) 1;obtain ⟨aA,cA,wA,hA1,oA,bA,gA⟩:=copy_step (W:=(wr.alloc (.cells #[] 9)).drew) (X:=wr.heap.size) hC.out (by omega) bAA (RowAt.new wr 9 #[]) (Nat.le_refl _);have bA2:Below wr.heap.size wr (wA.alloc (.cells #[.string t] 9)):=bA.alloc bA.size _;obtain ⟨aA2,cA2,wA2,hA2,CA,BA⟩:=back_step (W:=wA.alloc (.cells #[.string t] 9)) (Y:=wA.heap.size) (t:=t) (zaf oA ((Below.refl _ wA).alloc (Nat.le_refl _) _)) hC.out.len hC.out.fit (by omega) bA2 (RowAt.new wA 9 _) sk;have bBB:Below wr.heap.size wr (((wr.alloc (.cells #[] 9)).alloc (.cells #[.string t] 9)).drew):=below_drewN (Joins.below_alloc2 wr _ _) 1;have xB:RowAt (((wr.alloc (.cells #[] 9)).alloc (.cells #[.string t] 9)).drew) wr.heap.size 9 #[]:=(RowAt.below (RowAt.new wr 9 #[]) ((Below.refl _ (wr.alloc (.cells #[] 9))).alloc (Nat.le_refl _) (.cells #[.string t] 9)) (by simp):RowAt ((wr.alloc (.cells #[] 9)).alloc (.cells #[.string t] 9)) wr.heap.size 9 #[]);have yB:RowAt (((wr.alloc (.cells #[] 9)).alloc (.cells #[.string t] 9)).drew) (wr.heap.size+1) 9 #[.string t]:=by
    have:=RowAt.new (wr.alloc (.cells #[] 9)) 9 #[.string t];simp only [World.size_alloc] at this;exact this
   obtain ⟨aB,cB,wB,hB1,oB,bB,gB⟩:=copy_step (W:=((wr.alloc (.cells #[] 9)).alloc (.cells #[.string t] 9)).drew) (X:=wr.heap.size) hC.out (by omega) bBB xB (Nat.le_refl _);have yB2:RowAt wB (wr.heap.size+1) 9 #[.string t]:=(gB.block (wr.heap.size+1) yB.lt (fun e=>by have:=Option.some.inj e;omega)).trans yB;obtain ⟨aB2,cB2,wB2,hB2,CB,BB⟩:=back_step (W:=wB) (Y:=wr.heap.size+1) (t:=t) oB hC.out.len hC.out.fit (by omega) bB yB2 sk;have bCC:Below wr.heap.size wr (((wr.alloc (.cells #[.string t] 9)).alloc (.cells #[] 9)).drew):=below_drewN (Joins.below_alloc2 wr _ _) 1;have yC:RowAt (((wr.alloc (.cells #[.string t] 9)).alloc (.cells #[] 9)).drew) wr.heap.size 9 #[.string t]:=(RowAt.below (RowAt.new wr 9 #[.string t]) ((Below.refl _ (wr.alloc (.cells #[.string t] 9))).alloc (Nat.le_refl _) (.cells #[] 9)) (by simp):RowAt ((wr.alloc (.cells #[.string t] 9)).alloc (.cells #[] 9)) wr.heap.size 9 #[.string t]);have xC:RowAt (((wr.alloc (.cells #[.string t] 9)).alloc (.cells #[] 9)).drew) (wr.heap.size+1) 9 #[]:=by
    have:=RowAt.new (wr.alloc (.cells #[.string t] 9)) 9 #[];simp only [World.size_alloc] at this;exact this
   obtain ⟨aC,cC,wC,hC1,oC,bC,gC⟩:=copy_step (W:=((wr.alloc (.cells #[.string t] 9)).alloc (.cells #[] 9)).drew) (X:=wr.heap.size+1) hC.out (by omega) bCC xC (by omega);have yC2:RowAt wC wr.heap.size 9 #[.string t]:=(gC.block wr.heap.size yC.lt (fun e=>by have:=Option.some.inj e;omega)).trans yC;obtain ⟨aC2,cC2,wC2,hC2,CC,BC⟩:=back_step (W:=wC) (Y:=wr.heap.size) (t:=t) oC hC.out.len hC.out.fit (by omega) bC yC2 sk;rw [hNX] at CA CB CC;have hn1':n+1≤100:=by have:=CA.len;omega
   clear hLN;have RA:RowAt wA2 w.heap.size 60 (kC xn kd tx (.slice a n c) (.slice p2 n2 d2) (.slice p3 n3 d3) xd):=RowAt.below hR.out BA hRl;have f3A:=RA.frozen 3;have z3A:=RA.cell 3;have HRA:Hid (RowAt (wA2.setCell ⟨w.heap.size,3,none⟩ (.slice aA2 (n+1) cA2)) w.heap.size 60 (kC xn kd tx (.slice aA2 (n+1) cA2) (.slice p2 n2 d2) (.slice p3 n3 d3) xd)):=RA.set 3 _
   have HCA:Hid (CurI (wA2.setCell ⟨w.heap.size,3,none⟩ (.slice aA2 (n+1) cA2)) aA2 (n+1) cA2 (xv.items++(T.take (k+1)).drop 1)):=⟨zai CA.own fun g hg=>by
    obtain ⟨C,hCg⟩:=own_type CA.own hg
    exact Below.heap_setCell _ _ _ _ (fun e=>by
     have e2:g=w.heap.size:=e;subst e2;exact absurd (Hp.row_type hCg RA) (by decide)),CA.len,CA.fit⟩
   have HBA:Hid (Below w.heap.size w (wA2.setCell ⟨w.heap.size,3,none⟩ (.slice aA2 (n+1) cA2))):=(bk.trans (BA.mono bk.size)).setCell (Nat.le_refl _) _;have RB:RowAt wB2 w.heap.size 60 (kC xn kd tx (.slice a n c) (.slice p2 n2 d2) (.slice p3 n3 d3) xd):=RowAt.below hR.out BB hRl;have f3B:=RB.frozen 3;have z3B:=RB.cell 3;have HRB:Hid (RowAt (wB2.setCell ⟨w.heap.size,3,none⟩ (.slice aB2 (n+1) cB2)) w.heap.size 60 (kC xn kd tx (.slice aB2 (n+1) cB2) (.slice p2 n2 d2) (.slice p3 n3 d3) xd)):=RB.set 3 _
   have HCB:Hid (CurI (wB2.setCell ⟨w.heap.size,3,none⟩ (.slice aB2 (n+1) cB2)) aB2 (n+1) cB2 (xv.items++(T.take (k+1)).drop 1)):=⟨zai CB.own fun g hg=>by
    obtain ⟨C,hCg⟩:=own_type CB.own hg
    exact Below.heap_setCell _ _ _ _ (fun e=>by
     have e2:g=w.heap.size:=e;subst e2;exact absurd (Hp.row_type hCg RB) (by decide)),CB.len,CB.fit⟩
   have HBB:Hid (Below w.heap.size w (wB2.setCell ⟨w.heap.size,3,none⟩ (.slice aB2 (n+1) cB2))):=(bk.trans (BB.mono bk.size)).setCell (Nat.le_refl _) _;have RC:RowAt wC2 w.heap.size 60 (kC xn kd tx (.slice a n c) (.slice p2 n2 d2) (.slice p3 n3 d3) xd):=RowAt.below hR.out BC hRl;have f3C:=RC.frozen 3;have z3C:=RC.cell 3;have HRC:Hid (RowAt (wC2.setCell ⟨w.heap.size,3,none⟩ (.slice aC2 (n+1) cC2)) w.heap.size 60 (kC xn kd tx (.slice aC2 (n+1) cC2) (.slice p2 n2 d2) (.slice p3 n3 d3) xd)):=RC.set 3 _
   have HCC:Hid (CurI (wC2.setCell ⟨w.heap.size,3,none⟩ (.slice aC2 (n+1) cC2)) aC2 (n+1) cC2 (xv.items++(T.take (k+1)).drop 1)):=⟨zai CC.own fun g hg=>by
    obtain ⟨C,hCg⟩:=own_type CC.own hg
    exact Below.heap_setCell _ _ _ _ (fun e=>by
     have e2:g=w.heap.size:=e;subst e2;exact absurd (Hp.row_type hCg RC) (by decide)),CC.len,CC.fit⟩
   have HBC:Hid (Below w.heap.size w (wC2.setCell ⟨w.heap.size,3,none⟩ (.slice aC2 (n+1) cC2))):=(bk.trans (BC.mono bk.size)).setCell (Nat.le_refl _) _;simp at z3A z3B z3C;have k0:(wr.alloc (.cells #[] 9)).cell? ⟨w.heap.size,3,none⟩=some (.slice a n c):=(((Below.refl wr.heap.size wr).alloc (Nat.le_refl _) _).cell (p:=⟨w.heap.size,3,none⟩) hRl).trans y3;have k1:(wr.alloc (.cells #[.string t] 9)).cell? ⟨w.heap.size,3,none⟩=some (.slice a n c):=(((Below.refl wr.heap.size wr).alloc (Nat.le_refl _) _).cell (p:=⟨w.heap.size,3,none⟩) hRl).trans y3;have k2:((wr.alloc (.cells #[] 9)).alloc (.cells #[.string t] 9)).cell? ⟨w.heap.size,3,none⟩=some (.slice a n c):=((Joins.below_alloc2 wr _ _).cell (p:=⟨w.heap.size,3,none⟩) hRl).trans y3;have k3:((wr.alloc (.cells #[.string t] 9)).alloc (.cells #[] 9)).cell? ⟨w.heap.size,3,none⟩=some (.slice a n c):=((Joins.below_alloc2 wr _ _).cell (p:=⟨w.heap.size,3,none⟩) hRl).trans y3;have hal:ab<wr.heap.size:=by have:=bk.size;omega
   have j0:(wr.alloc (.cells #[] 9)).cell? ⟨ab,ao+k,none⟩=some (.string t):=(((Below.refl wr.heap.size wr).alloc (Nat.le_refl _) _).cell (p:=⟨ab,ao+k,none⟩) hal).trans ck;have jA:wA.cell? ⟨ab,ao+k,none⟩=some (.string t):=(bA.cell (p:=⟨ab,ao+k,none⟩) hal).trans ck;clear oA oB oC gA gB gC xB yB xC yC yB2 yC2 bAA bBB bCC bA bA2 bB bC BA BB BC CA CB CC RA RB RC hR hC hNX;go_wp2_with fail
   go_region_law (first
    |refine zba rfl (.tmp 125) (.tmp 128) 28 rfl (by simp [Act.eval]) (by simp [Act.eval]) hA1 ?_
    |refine zba rfl (.tmp 125) (.tmp 128) 28 rfl (by simp [Act.eval]) (by simp [Act.eval]) hB1 ?_
    |refine zba rfl (.tmp 125) (.tmp 128) 28 rfl (by simp [Act.eval]) (by simp [Act.eval]) hC1 ?_
    |refine zba rfl (.tmp 129) (.tmp 134) 28 rfl (by simp [Act.eval]) (by simp [Act.eval]) hA2 ?_
    |refine zba rfl (.tmp 129) (.tmp 134) 28 rfl (by simp [Act.eval]) (by simp [Act.eval]) hB2 ?_
    |refine zba rfl (.tmp 129) (.tmp 134) 28 rfl (by simp [Act.eval]) (by simp [Act.eval]) hC2 ?_)
   all_goals
    go_wp2;go_roundw
    case rel=>
     first
     |exact ⟨k+1,aA2,n+1,cA2,by omega,by omega,by go_num,hn1',HCA,HRA,HBA.out⟩
     |exact ⟨k+1,aB2,n+1,cB2,by omega,by omega,by go_num,hn1',HCB,HRB,HBB.out⟩
     |exact ⟨k+1,aC2,n+1,cC2,by omega,by omega,by go_num,hn1',HCC,HRC,HBC.out⟩
    case measure=>simp [intOf];omega
  ·obtain rfl:k=m:=by omega
   have hbl:(xv.items++(T.take k).drop 1).length≤100:=HLN.out k hk1 (Nat.le_refl _);have hSM:=HFIN.out _ rfl;have hln:=hC.out.len;have HS2:Hid (∀W rv,Below w.heap.size w W→Below wr.heap.size wr W→zbe W w.heap.size rv (rInt (n:Int))→Calls Tryz.prog 133 #[v,.agg (kC xn kd tx (.slice a n c) (.slice p2 n2 d2) (.slice p3 n3 d3) xd),rv] W (fun e w'=>zbd w B SM e w'∧Below W.heap.size W w')):=fun W rv hb hb2 hr=>by
    rw [hSM];rw [←hln] at hr;obtain ⟨A,hs,hcz⟩:=hC.out.strs;exact HSET.out W rv (.slice a n c) _ hb hbl hC.out.fit hr ⟨a,A,0,c,by rw [hln],by rw [hln];exact zdb hs hb2,hcz⟩
   have hRl:=RowAt.lt hR.out;clear hSM hbl HFIN HSET HLN HNX HAW HTS hC hR HC0 HC1 ES;go_wp2_with fail;go_region_held3 (fun W=>W.cell? ⟨w.heap.size,0,none⟩=some (.string xn)∧W.cell? ⟨w.heap.size,1,none⟩=some (.int .i64 kd)∧W.cell? ⟨w.heap.size,2,none⟩=some (.string tx)∧W.cell? ⟨w.heap.size,3,none⟩=some (.slice a n c)∧W.cell? ⟨w.heap.size,4,none⟩=some (.slice p2 n2 d2)∧W.cell? ⟨w.heap.size,5,none⟩=some (.slice p3 n3 d3)∧W.cell? ⟨w.heap.size,6,none⟩=some (.int .i64 xd))
    (first|exact ⟨y0,y1,y2,y3,y4,y5,y6⟩|exact (up7 b1 hRl ⟨y0,y1,y2,y3,y4,y5,y6⟩)|exact (up7 b2 hA2 (up7 b1 hRl ⟨y0,y1,y2,y3,y4,y5,y6⟩)))
    (first
     |(go_at_call 128;refine (HIN.out _ (n:Int)).mono ?_;rintro e w1 ⟨r,rfl,hr,b1⟩;have bd:Below wr.heap.size wr w1:=(below_drewN (Below.refl _ wr) 1).trans b1;have hr1:zbe w1 w.heap.size r (rInt (n:Int)):=hr.le bk.size;have hA2:w.heap.size<w1.heap.size:=Nat.lt_of_lt_of_le hRl bd.size;have bA1:Below w.heap.size w w1:=bk.trans (bd.mono bk.size))
     |(go_at_call 133;refine (HS2.out _ _ bA1 bd hr1).mono ?_;rintro e w2 ⟨⟨v',r',L',rfl,hm,ho,hrr,hbb⟩,b2⟩;have HF:Hid (zbd w B SM (.returned (.tuple #[v',r'])) w2):=⟨v',r',L',rfl,hm,ho,hrr,hbb⟩;clear hm ho hrr hbb))
   all_goals
    go_wp2;go_ret2;exact HF.out
end Go.Proofs.YtibhabajknikcaaGreatDoor
namespace Go.Proofs.YtibhabajknikcaaGreatDoor
open Go.RowKit Go.Sort
open Kk (str_ne str_eq)
theorem app_str1 {w:World} {B:Nat} {V:Value} {T:List ByteArray} (t:ByteArray) (h:OwnS w B V T) (hn:T.length≤1048577) (hB:B≤w.heap.size):
  ∃v' w',(Builtin.append_ #[28,28] 28 #[V,.slice (some ⟨w.heap.size,0,none⟩) 1 1]).run Tryz.prog (w.alloc (.cells #[.string t] 9))= .ok v' w'∧OwnS w' B v' (T++ [t])∧Below B w w'∧w.grownBy w' V.ownBlock:=by
 obtain ⟨i0,hi,hz0,hz1,hz2⟩:=info_parts info9;have hbl:Below w.heap.size w (w.alloc (.cells #[.string t] 9)):=(Below.refl _ w).alloc (Nat.le_refl _) _;have oA:=zaf h hbl
 obtain ⟨v',w',hrun,hown,hg,_,hblk⟩:=run_append_own_at (P:=Tryz.prog) (w.alloc (.cells #[.string t] 9)) B 28 28 9 i0 _ 1 16 Tryz.underlying28 hi hz0 hz1 hz2 rfl (by decide) V T.length (strV T) oA ⟨w.heap.size,0,none⟩ 1 1 [.string t] rfl (fun j u hj=>by
  rw [Addr.add_lit,Nat.zero_add];exact ((RowAt.new w 9 #[.string t]).cell j).trans (by simpa using hj)) (fun u hu=>by simp at hu;subst hu;rfl) (by unfold maxLen;omega) (by omega) (by simp;omega)
 refine ⟨v',w',hrun,?_,below_own (Below.refl _ w) hB h hg,?_⟩
 ·have e:strV (T++ [t])=strV T++ [.string t]:=by unfold strV;rw [List.map_append];rfl
  unfold OwnS;rw [List.length_append,e];exact hown
 ·have hs:(w.alloc (.cells #[.string t] 9)).heap.size=w.heap.size+1:=by simp
  have h2:=hg.size;exact ⟨hg.os,hg.tape,hg.output,by omega,fun k hk hr=> (hg.block k (by omega) hr).trans (Below.heap_alloc _ _ _ (by omega))⟩
structure StrI (w:World) (v:Value) (wr:World) (T:List ByteArray):Prop where
 own:OwnS wr w.heap.size v T
 bel:Below w.heap.size w wr
theorem StrI.start (w:World):StrI w (.slice (some ⟨w.heap.size,0,none⟩) 0 0) (w.alloc (.cells #[] 9)) []:=
 ⟨empty_own (RowAt.new w 9 #[]) (Nat.le_refl _),(Below.refl _ w).alloc (Nat.le_refl _) _⟩
theorem StrI.next {w wr:World} {v:Value} {T:List ByteArray} (h:StrI w v wr T) (t:ByteArray) (hn:T.length≤1048577):
  ∃v' w1,(Builtin.append_ #[28,28] 28 #[v,.slice (some ⟨wr.heap.size,0,none⟩) 1 1]).run Tryz.prog (wr.alloc (.cells #[.string t] 9))= .ok v' w1∧StrI w v' w1 (T++ [t]):=by
 obtain ⟨v',w1,r1,o1,b1,_⟩:=app_str1 t h.own hn h.bel.size;exact ⟨v',w1,r1,o1,h.bel.trans b1⟩
theorem names_next (L:List KV) (k:Nat) (h:k<L.length):((L.take k).map KV.key).map Ke.name++ [(L.getD k kv0).key.name]=((L.take (k+1)).map KV.key).map Ke.name:=by
 rw [List.take_succ_eq_append_getElem h,List.map_append,List.map_append];rw [show (L.getD k kv0)=L[k] by rw [List.getD_eq_getElem?_getD,List.getElem?_eq_getElem h];rfl];rfl
theorem many_KEYS (B:Nat) (v:Value) (L:List KV) (aa:Option Addr) (m ac:Nat) (w:World) (h:DbOwn w B v L) (hf:FitsK (L.map KV.key)) (hn:L.length≤1048576) (hB:B≤w.heap.size):
  Calls Tryz.prog 90 #[v,.string ⟨#[75,69,89,83]⟩,.slice aa m ac] w (zbd w B (L.map KV.key,rList ((L.map KV.key).map Ke.name))):=by
 obtain ⟨a,A,c,e,hat⟩:=h.at;subst e;have H:Hid (KsIn w a A L.length L):=hat.ks;have HS:Hid (StrI w _ _ (((L.take 0).map KV.key).map Ke.name)):=StrI.start w;have HE:Hid (∀v' wr,StrI w v' wr ((L.map KV.key).map Ke.name)→Calls Tryz.prog 129 #[v'] wr fun e w2=>∃r,e= .returned r∧zbd w B (L.map KV.key,rList ((L.map KV.key).map Ke.name)) (.returned (.tuple #[.slice a L.length c,r])) w2):=fun v' wr hI=>by
  obtain ⟨a',A',c',e',hs,_⟩:=ownS_in hI.own (fun t ht=>by
   obtain ⟨k,hk,rfl⟩:=List.mem_map.1 ht;exact (hf k hk).name)
  subst e';refine (list_any a' A' 0 _ c' _ wr hs (by simpa using hn)).mono ?_;rintro e w2 ⟨r,rfl,hr,hb⟩;exact ⟨r,rfl,zbd.same h hB hI.bel hr hb⟩
 have HT:Hid (∀k,k<L.length→((L.take k).map KV.key).map Ke.name++ [(L.getD k kv0).key.name]=((L.take (k+1)).map KV.key).map Ke.name):=fun k hk=>names_next L k hk;have HZ:Hid (L.take L.length=L):=List.take_length;have HLn:Hid (∀k,k≤L.length→(((L.take k).map KV.key).map Ke.name).length=k):=fun k hk=>by simp;omega
 clear h hf hat;generalize hln:L.length=ln at*;clear hln;go_enter Tryz.func90,Tryz.ntmps90;go_wp2;go_loopw [8,9] (fun v i wr=>∃k:Nat,k≤ln∧i= .int .i64 k∧Hid (StrI w v wr (((L.take k).map KV.key).map Ke.name))) (fun _ i _=>ln-(intOf i).toNat)
 case atStart=>exact ⟨0,by omega,rfl,HS⟩
 case round=>
  obtain ⟨k,hk,rfl,hI⟩:=hrel;clear HS;by_cases hlt:k<ln
  ·have c0:=((H.out.below hI.out.bel).cell k hlt).c0;obtain rfl:=H.out.addr (by omega);obtain ⟨v',w1,r1,hI2⟩:=hI.out.next (L.getD k kv0).key.name (by rw [HLn.out k hk];omega);rw [HT.out k hlt] at hI2;have R1:Hid _:=r1;have HI2:Hid _:=hI2;clear r1 hI2 hI HE HT HZ HLn;generalize (L.getD k kv0).key.name=x at*;go_wp2_with (at_builtin;refine wpList_append_run rfl _ _ 28 rfl rfl rfl R1.out ?_);exact ⟨⟨k+1,by omega,by go_num,HI2⟩,by simp [intOf];omega⟩
  ·obtain rfl:k=ln:=by omega
   rw [HZ.out] at hI;have HC:Hid (Calls Tryz.prog 129 #[u8] wr fun e w2=>∃r,e= .returned r∧zbd w B (L.map KV.key,rList ((L.map KV.key).map Ke.name)) (.returned (.tuple #[.slice a k c,r])) w2):=HE.out _ wr hI.out;clear HE HT HZ HLn hI;go_wp2_with fail;refine HC.out.mono ?_;rintro e w2 ⟨r,rfl,hq⟩;have HQ:Hid _:=hq;clear hq HC;go_wp2;go_ret2;exact HQ.out
theorem del_next (dl:Bool) (ks:List Ke) (T:List ByteArray) (k:Nat) (h:k<T.length):delM dl ks (T.take (k+1))=delStep dl (delM dl ks (T.take k)) (T.getD k ByteArray.empty):=by
 unfold delM;rw [List.take_succ_eq_append_getElem h,List.foldl_append];rw [show T.getD k ByteArray.empty=T[k] by rw [List.getD_eq_getElem?_getD,List.getElem?_eq_getElem h];rfl];rfl
theorem gone_len (ks:List Ke) (nm:ByteArray):(goneK ks nm).length≤ks.length:=List.length_filter_le ..
structure DelI (w:World) (B:Nat) (dl:Bool) (ks:List Ke) (T:List ByteArray) (k:Nat) (v:Value) (cnt:Nat) (wr:World) (M:List KV):Prop where
 eq:delM dl ks (T.take k)=(M.map KV.key,cnt)
 own:DbOwn wr B v M
 fit:FitsK (M.map KV.key)
 len:M.length≤1048576
 bel:Below w.heap.size w wr
theorem many_DEL (B:Nat) (v:Value) (L:List KV) (aa:Option Addr) (ab ao m ac:Nat) (T:List ByteArray) (w:World) (h:DbOwn w B v L) (hf:FitsK (L.map KV.key)) (hn:L.length≤1048576) (ha:zdg w aa ab ao m T) (hm:m≤1048576) (hB:B≤w.heap.size):
  Calls Tryz.prog 90 #[v,.string ⟨#[68,69,76]⟩,.slice aa m ac] w (zbd w B ((delM true (L.map KV.key) T).1,rInt (delM true (L.map KV.key) T).2)):=by
 have H:Hid (zdg w aa ab ao m T):=ha;have HL:Hid (T.length=m):=ha.len;have HS:Hid (DelI w B true (L.map KV.key) T 0 v 0 w L):=⟨rfl,h,hf,hn,Below.refl _ _⟩;have HZ:Hid (T.take m=T):=List.take_of_length_le (by rw [ha.len];exact Nat.le_refl _);generalize L.map KV.key=K0 at*;clear h hf hn ha;go_enter Tryz.func90,Tryz.ntmps90;go_wp2;go_loopw [0,10,11] (fun u c i wr=>∃(k cnt:Nat) (M:List KV),k≤m∧i= .int .i64 k∧c= .int .i64 cnt∧cnt≤k∧Hid (DelI w B true K0 T k u cnt wr M)) (fun _ _ i _=>m-(intOf i).toNat)
 case atStart=>exact ⟨0,0,L,by omega,rfl,rfl,by omega,HS⟩
 case round=>
  obtain ⟨k,cnt,M,hk,rfl,rfl,hc,hI⟩:=hrel;clear HS;have hBr:B≤wr.heap.size:=Nat.le_trans hB hI.out.bel.size;by_cases hlt:k<m
  ·have c0:=(zdb H.out hI.out.bel).cell k hlt;obtain rfl:=H.out.addr (by omega);obtain ⟨a,A,c,e,hd,hat⟩:=hI.out.own.din hI.out.fit.fits;subst e;have hX:=del_next true K0 T k (by rw [HL.out];exact hlt);rw [hI.out.eq] at hX;have HX:Hid (delM true K0 (T.take (k+1))=delStep true (M.map KV.key,cnt) (T.getD k ByteArray.empty)):=hX;have HF:Hid (Calls Tryz.prog 92 #[.slice a M.length c,.string (T.getD k ByteArray.empty)] wr fun e w'=>e= .returned (.int .i64 (findK (M.map KV.key) (T.getD k ByteArray.empty) 0))∧w'=wr):=find_any a A M.length c M _ wr hd.ks (by have:=hI.out.len;omega);have HG:Hid (Calls Tryz.prog 130 #[.slice a M.length c,.string (T.getD k ByteArray.empty)] wr (KeysEnd wr (goneK (M.map KV.key) (T.getD k ByteArray.empty)))):=gone_any a A M.length c M _ wr hd hI.out.len;clear hd hat hX;generalize T.getD k ByteArray.empty=t at*;by_cases hz:findK (M.map KV.key) t 0<0
   ·have HI2:Hid (DelI w B true K0 T (k+1) (.slice a M.length c) cnt wr M):=⟨by rw [HX.out];unfold delStep;rw [if_pos hz],hI.out.own,hI.out.fit,hI.out.len,hI.out.bel⟩;clear HX HG hI;generalize findK (M.map KV.key) t 0=z at*;generalize M.length=ml at*;go_wp2_with fail;refine HF.out.mono ?_;rintro e w1 ⟨rfl,rfl⟩;clear HF;go_wp2;exact ⟨⟨k+1,cnt,M,by omega,by go_num,rfl,by omega,HI2⟩,by simp [intOf];omega⟩
   ·have HI2:Hid (∀v' w1 L',L'.map KV.key=goneK (M.map KV.key) t→DbOwn w1 wr.heap.size v' L'→Below wr.heap.size wr w1→DelI w B true K0 T (k+1) v' (cnt+1) w1 L'):=fun v' w1 L' h1 h2 h3=>⟨by rw [HX.out];unfold delStep;rw [if_neg hz,if_pos rfl,h1],h2.le hBr,by rw [h1];exact hI.out.fit.gone t,by
     have e1:L'.length=(goneK (M.map KV.key) t).length:=by rw [←h1];simp
     have e2:=gone_len (M.map KV.key) t;rw [List.length_map] at e2;have:=hI.out.len;omega,hI.out.bel.trans (h3.mono hI.out.bel.size)⟩
    clear HX hI;generalize findK (M.map KV.key) t 0=z at*;generalize goneK (M.map KV.key) t=Kg at*;generalize M.length=ml at*;go_wp2_with fail;refine HF.out.mono ?_;rintro e w1 ⟨rfl,rfl⟩;clear HF;go_wp2_with fail;refine HG.out.mono ?_;rintro e w2 ⟨v',L',rfl,h1,h2,h3⟩;have HI3:Hid _:=HI2.out v' w2 L' h1 h2 h3;clear h1 h2 h3 HI2 HG;go_wp2;exact ⟨⟨k+1,cnt+1,L',by omega,by go_num,by go_num,by omega,HI3⟩,by simp [intOf];omega⟩
  ·obtain rfl:k=m:=by omega
   have HE:Hid (∀r w2,zbe w2 wr.heap.size r (rInt cnt)→Below wr.heap.size wr w2→zbd w B ((delM true K0 T).1,rInt (delM true K0 T).2) (.returned (.tuple #[u0,r])) w2):=fun r w2 h1 h2=>by
    have hq:=hI.out.eq;rw [HZ.out] at hq;rw [hq];exact ⟨u0,r,M,rfl,rfl,hI.out.own.below h2,h1.le hI.out.bel.size,hI.out.bel.trans (h2.mono hI.out.bel.size)⟩
   have HR:Hid (∀n:Int,Calls Tryz.prog 128 #[.int .i64 n] wr (zci wr (rInt n))):=fun n=>int_any n wr;clear hI;go_wp2_with fail;refine (HR.out _).mono ?_;rintro e w1 ⟨r,rfl,hr,hb⟩;have HQ:Hid _:=HE.out r w1 hr hb;clear hr hb HE HR;go_wp2;go_ret2;exact HQ.out
theorem many_EXISTS (B:Nat) (v:Value) (L:List KV) (aa:Option Addr) (ab ao m ac:Nat) (T:List ByteArray) (w:World) (h:DbOwn w B v L) (hf:FitsK (L.map KV.key)) (hn:L.length≤1048576) (ha:zdg w aa ab ao m T) (hm:m≤1048576) (hB:B≤w.heap.size):
  Calls Tryz.prog 90 #[v,.string ⟨#[69,88,73,83,84,83]⟩,.slice aa m ac] w (zbd w B ((delM false (L.map KV.key) T).1,rInt (delM false (L.map KV.key) T).2)):=by
 have H:Hid (zdg w aa ab ao m T):=ha;have HL:Hid (T.length=m):=ha.len;have HS:Hid (DelI w B false (L.map KV.key) T 0 v 0 w L):=⟨rfl,h,hf,hn,Below.refl _ _⟩;have HZ:Hid (T.take m=T):=List.take_of_length_le (by rw [ha.len];exact Nat.le_refl _);generalize L.map KV.key=K0 at*;clear h hf hn ha;go_enter Tryz.func90,Tryz.ntmps90;go_wp2;go_loopw [0,10,11] (fun u c i wr=>∃(k cnt:Nat) (M:List KV),k≤m∧i= .int .i64 k∧c= .int .i64 cnt∧cnt≤k∧Hid (DelI w B false K0 T k u cnt wr M)) (fun _ _ i _=>m-(intOf i).toNat)
 case atStart=>exact ⟨0,0,L,by omega,rfl,rfl,by omega,HS⟩
 case round=>
  obtain ⟨k,cnt,M,hk,rfl,rfl,hc,hI⟩:=hrel;clear HS;have hBr:B≤wr.heap.size:=Nat.le_trans hB hI.out.bel.size;by_cases hlt:k<m
  ·have c0:=(zdb H.out hI.out.bel).cell k hlt;obtain rfl:=H.out.addr (by omega);obtain ⟨a,A,c,e,hd,hat⟩:=hI.out.own.din hI.out.fit.fits;subst e;have hX:=del_next false K0 T k (by rw [HL.out];exact hlt);rw [hI.out.eq] at hX;have HX:Hid (delM false K0 (T.take (k+1))=delStep false (M.map KV.key,cnt) (T.getD k ByteArray.empty)):=hX;have HF:Hid (Calls Tryz.prog 92 #[.slice a M.length c,.string (T.getD k ByteArray.empty)] wr fun e w'=>e= .returned (.int .i64 (findK (M.map KV.key) (T.getD k ByteArray.empty) 0))∧w'=wr):=find_any a A M.length c M _ wr hd.ks (by have:=hI.out.len;omega);have HG:Hid (Calls Tryz.prog 130 #[.slice a M.length c,.string (T.getD k ByteArray.empty)] wr (KeysEnd wr (goneK (M.map KV.key) (T.getD k ByteArray.empty)))):=gone_any a A M.length c M _ wr hd hI.out.len;clear hd hat hX;generalize T.getD k ByteArray.empty=t at*;by_cases hz:findK (M.map KV.key) t 0<0
   ·have HI2:Hid (DelI w B false K0 T (k+1) (.slice a M.length c) cnt wr M):=⟨by rw [HX.out];unfold delStep;rw [if_pos hz],hI.out.own,hI.out.fit,hI.out.len,hI.out.bel⟩;clear HX HG hI;generalize findK (M.map KV.key) t 0=z at*;generalize M.length=ml at*;go_wp2_with fail;refine HF.out.mono ?_;rintro e w1 ⟨rfl,rfl⟩;clear HF;go_wp2;exact ⟨⟨k+1,cnt,M,by omega,by go_num,rfl,by omega,HI2⟩,by simp [intOf];omega⟩
   ·have HI2:Hid (DelI w B false K0 T (k+1) (.slice a M.length c) (cnt+1) wr M):=⟨by rw [HX.out];unfold delStep;rw [if_neg hz,if_neg (by decide)],hI.out.own,hI.out.fit,hI.out.len,hI.out.bel⟩;clear HX HG hI;generalize findK (M.map KV.key) t 0=z at*;generalize M.length=ml at*;go_wp2_with fail;refine HF.out.mono ?_;rintro e w1 ⟨rfl,rfl⟩;clear HF;go_wp2;exact ⟨⟨k+1,cnt+1,M,by omega,by go_num,by go_num,by omega,HI2⟩,by simp [intOf];omega⟩
  ·obtain rfl:k=m:=by omega
   have HE:Hid (∀r w2,zbe w2 wr.heap.size r (rInt cnt)→Below wr.heap.size wr w2→zbd w B ((delM false K0 T).1,rInt (delM false K0 T).2) (.returned (.tuple #[u0,r])) w2):=fun r w2 h1 h2=>by
    have hq:=hI.out.eq;rw [HZ.out] at hq;rw [hq];exact ⟨u0,r,M,rfl,rfl,hI.out.own.below h2,h1.le hI.out.bel.size,hI.out.bel.trans (h2.mono hI.out.bel.size)⟩
   have HR:Hid (∀n:Int,Calls Tryz.prog 128 #[.int .i64 n] wr (zci wr (rInt n))):=fun n=>int_any n wr;clear hI;go_wp2_with fail;refine (HR.out _).mono ?_;rintro e w1 ⟨r,rfl,hr,hb⟩;have HQ:Hid _:=HE.out r w1 hr hb;clear hr hb HE HR;go_wp2;go_ret2;exact HQ.out
theorem del_fst:∀(T:List ByteArray) (s:List Ke×Nat),(T.foldl (delStep false) s).1=s.1
 | [],_=>rfl
 |t::T,s=>by
  rw [List.foldl_cons,del_fst T];unfold delStep;split
  ·rfl
  ·rfl
theorem del_keys (ks:List Ke) (T:List ByteArray):(delM false ks T).1=ks:=del_fst T (ks,0)
theorem many_any (c:Cm) (hc:c.many=true) (B:Nat) (v:Value) (L:List KV) (aa:Option Addr) (ab ao m ac:Nat) (T:List ByteArray) (w:World) (hm:c.fits m=true) (h:DbOwn w B v L) (hf:FitsK (L.map KV.key)) (hn:L.length≤1048576) (ha:zdg w aa ab ao m T) (hm2:m≤1048576) (hB:B≤w.heap.size):
  Calls Tryz.prog 90 #[v,.string c.text,.slice aa m ac] w (zbd w B (manyM c (L.map KV.key) T)):=by
 cases c using Cm.elim
 case PING=>
  by_cases h0:m=0
  ·subst h0;have:manyM .PING (L.map KV.key) T=(L.map KV.key,rSimple sPONG):=by unfold manyM;rw [ha.len,if_pos rfl];rfl
   rw [this];exact many_PING0 B v L aa ac w h hB
  ·have:manyM .PING (L.map KV.key) T=(L.map KV.key,rBulk (T.getD 0 ByteArray.empty)):=by unfold manyM;rw [ha.len,if_neg h0];rfl
   rw [this];exact many_PING1 B v L aa ab ao m ac T w h ha (by omega) hm2 hB
 case ECHO=>exact many_ECHO B v L aa ab ao m ac T w h ha (by have:=of_decide_eq_true hm;omega) hB
 case FLUSHALL=>exact many_FLUSHALL B v aa m ac w hB
 case DBSIZE=>exact many_DBSIZE B v L aa m ac w h hB
 case KEYS=>exact many_KEYS B v L aa m ac w h hf hn hB
 case DEL=>exact many_DEL B v L aa ab ao m ac T w h hf hn ha hm2 hB
 case EXISTS=>
  have key:=many_EXISTS B v L aa ab ao m ac T w h hf hn ha hm2 hB;have e:(delM false (L.map KV.key) T).1=L.map KV.key:=del_keys (L.map KV.key) T;rw [e] at key;exact key
 all_goals cases hc
end Go.Proofs.YtibhabajknikcaaGreatDoor
