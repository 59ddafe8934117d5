import Derived.Test.YtibhabajknikcaaGreatDoorM11
import Derived.Test.YtibhabajknikcaaGreatDoorE6
import Derived.Test.YtibhabajknikcaaGreatDoorFSe3
import Derived.Test.YtibhabajknikcaaGreatDoorC9
set_option maxHeartbeats 4000000
set_option maxRecDepth 100000
namespace Go.Proofs.YtibhabajknikcaaGreatDoor.Er
open Go.RowKit
structure QIn (W:World) (v:Value) (Q:List (List ByteArray)):Prop where
 val:∃a c,v= .slice a Q.length c∧(a=none→c=0)
 at_:∀i (hi:i<Q.length),∃A cap p b off k,v= .slice (some ⟨A,0,none⟩) Q.length cap∧A<W.heap.size∧W.cell? ⟨A,i,none⟩=some (.slice p (Q[i]).length k)∧zdg W p b off (Q[i]).length Q[i]∧(p=none→k=0)∧(Q[i]).length≤k
theorem strs_fd {W:World} {a:Option Addr} {b o n:Nat} {T:List ByteArray} (h:zdg W a b o n T):Fd.StrsIn W a b o n T:=⟨h.len,h.addr,h.low,h.cell,h.fit⟩
theorem QIn.below {W W':World} {v:Value} {Q:List (List ByteArray)} (h:QIn W v Q) (hb:Below W.heap.size W W'):QIn W' v Q:=
 ⟨h.val,fun i hi=>by
  obtain ⟨A,cap,p,b,off,k,h1,h2,h3,h4,h5,h6⟩:=h.at_ i hi;exact ⟨A,cap,p,b,off,k,h1,Nat.lt_of_lt_of_le h2 hb.size,(hb.cell (p:=⟨A,i,none⟩) h2).trans h3,zdb h4 hb,h5,h6⟩⟩
theorem QIn.lists {W:World} {v:Value} {Q:List (List ByteArray)} (h:QIn W v Q):Fd.ListsB W v Q:=by
 obtain ⟨a,c,hv,_⟩:=h.val;refine ⟨⟨a,c,hv⟩,fun i hi=>?_⟩;obtain ⟨A,cap,p,b,off,k,h1,h2,h3,h4,h5,h6⟩:=h.at_ i hi;exact ⟨A,0,cap,p,b,off,k,h1,h2,by rw [Nat.zero_add];exact h3,strs_fd h4⟩
theorem info28:(Tryz.prog.info? 28).map (fun i=> (i.zero,i.size,i.bytes))=some (some (.slice none 0 0),1,24):=by kernel_rfl
theorem nil_rows {w:World} {B:Nat} {a:Option Addr} {A n c:Nat} {xs:List Value} (hl:xs.length=n) (ha:0<n→a=some ⟨A,0,none⟩) (hx:∀j u,xs[j]?=some u→w.cell? ⟨A,j,none⟩=some u) (hf:∀u∈xs,∃p m k,u= .slice p m k) (hc:a=none→c=0) (hn:n≤1048577) (hB:B≤w.heap.size):
  ∃a' c' w',(Builtin.append_ #[25,25] 25 #[.slice none 0 0,.slice a n c]).run Tryz.prog w= .ok (.slice a' n c') w'∧w'.ownsRow B 28 1 (.slice a' n c') n xs∧w.grownBy w' none:=by
 obtain ⟨i0,hi,hz0,hz1,hz2⟩:=info_parts info28;have hE:w.ownsRow B 28 1 (.slice none 0 0) 0 []:=World.ownsRow_nil _ _ _ _;cases a with
 |none=>
  obtain rfl:n=0:=by
   rcases Nat.eq_zero_or_pos n with h|h
   ·exact h
   ·have:=ha h;cases this
  obtain rfl:=hc rfl;obtain rfl:xs=[]:=List.eq_nil_of_length_eq_zero hl;exact ⟨none,0,w,run_append_owned_none (P:=Tryz.prog) w B 25 25 28 i0 1 Tryz.underlying25 hi _ 0 [] hE,hE,grown_refl _ _⟩
 |some ad=>
  obtain ⟨v',w',hrun,hown,hg,_,_⟩:=run_append_own_at (P:=Tryz.prog) w B 25 25 28 i0 _ 1 24 Tryz.underlying25 hi hz0 hz1 hz2 rfl (by decide) (.slice none 0 0) 0 [] hE ad n c xs (by rw [hl,Nat.mul_one]) (fun j u hj=>by
   have hjn:j<n:=by
    have:=(List.getElem?_eq_some_iff.1 hj).1;omega
   obtain rfl:ad=⟨A,0,none⟩:=Option.some.inj (ha (by omega));rw [Addr.add_lit,Nat.zero_add];exact hx j u hj) (fun u hu=>by
   obtain ⟨p,m,k,rfl⟩:=hf u hu;rfl) (by unfold maxLen;omega) (by omega) hB
  rw [Nat.zero_add] at hown;obtain ⟨a',c',e⟩:=zad hown;subst e;exact ⟨a',c',w',hrun,hown,hg⟩
theorem QIn.vals {W:World} {v:Value} {Q:List (List ByteArray)} (h:QIn W v Q):∃a A c,∃xs:List Value,v= .slice a Q.length c∧(a=none→c=0)∧(0<Q.length→a=some ⟨A,0,none⟩)∧xs.length=Q.length∧(∀j u,xs[j]?=some u→W.cell? ⟨A,j,none⟩=some u)∧
  (∀j (hj:j<Q.length),∃p b off k,xs[j]?=some (.slice p (Q[j]).length k)∧zdg W p b off (Q[j]).length Q[j]∧(p=none→k=0)):=by
 obtain ⟨a,c,hv,hc⟩:=h.val;rcases Nat.eq_zero_or_pos Q.length with h0|h0
 ·exact ⟨a,0,c,[],hv,hc,fun h=>absurd h (by omega),by simp [h0],fun j u hj=>by simp at hj,fun j hj=>absurd hj (by omega)⟩
 ·obtain ⟨A,cap,_,_,_,_,h1,_⟩:=h.at_ 0 h0;have e1:a=some ⟨A,0,none⟩:=by
   rw [hv] at h1;injection h1
  have key:∀j (hj:j<Q.length),∃p b off k,W.cell? ⟨A,j,none⟩=some (.slice p (Q[j]).length k)∧zdg W p b off (Q[j]).length Q[j]∧(p=none→k=0):=fun j hj=>by
   obtain ⟨A',cap',p,b,off,k,g1,g2,g3,g4,g5,g6⟩:=h.at_ j hj;have:A'=A:=by
    rw [hv,e1] at g1;injection g1 with g1;injection g1 with g1;injection g1 with g1;exact g1.symm
   subst this;exact ⟨p,b,off,k,g3,g4,g5⟩
  have hg:∀j,j<Q.length→((List.range Q.length).map fun j=> (W.cell? ⟨A,j,none⟩).getD (.slice none 0 0))[j]?=W.cell? ⟨A,j,none⟩:=fun j hj=>by
   obtain ⟨p,b,off,k,g,_⟩:=key j hj;rw [List.getElem?_map,List.getElem?_range hj];simp [g]
  refine ⟨a,A,c,(List.range Q.length).map fun j=> (W.cell? ⟨A,j,none⟩).getD (.slice none 0 0),hv,hc,fun _=>e1,by simp,fun j u hj=>?_,fun j hj=>?_⟩
  ·have hlt:j<Q.length:=by
    have:=(List.getElem?_eq_some_iff.1 hj).1;simpa using this
   rw [hg j hlt] at hj;exact hj
  ·obtain ⟨p,b,off,k,g1,g2,g3⟩:=key j hj;exact ⟨p,b,off,k,(hg j hj).trans g1,g2,g3⟩
theorem copyLL (v:Value) (Q:List (List ByteArray)) (w:World) (h:QIn w v Q) (hQ:Q.length≤1048576):
  Calls Tryz.prog 115 #[v] w fun e w'=>∃a c,∃xs:List Value,e= .returned (.slice a Q.length c)∧w'.ownsRow w.heap.size 28 1 (.slice a Q.length c) Q.length xs∧(∀j (hj:j<Q.length),∃p b off k,xs[j]?=some (.slice p (Q[j]).length k)∧zdg w p b off (Q[j]).length Q[j]∧(p=none→k=0))∧Below w.heap.size w w':=by
 obtain ⟨a,A,c,xs,rfl,hc,ha,hl,hx,hq⟩:=h.vals
 obtain ⟨a',c',w1,hrun,ho,hg⟩:=nil_rows (w:=w) (B:=w.heap.size) hl ha hx (fun u hu=>by
  obtain ⟨j,hj⟩:=List.getElem?_of_mem hu;have hlt:j<Q.length:=by
   have:=(List.getElem?_eq_some_iff.1 hj).1;omega
  obtain ⟨p,b,off,k,g,_⟩:=hq j hlt;rw [g] at hj;injection hj with hj;exact ⟨_,_,_,hj.symm⟩) hc (by omega) (Nat.le_refl _)
 have HB:Hid (Below w.heap.size w w1):=⟨hg.os,hg.tape,hg.output,hg.size,fun k hk=>hg.block k hk (by simp)⟩;have HR:Hid ((Builtin.append_ #[25,25] 25 #[.slice none 0 0,.slice a Q.length c]).run Tryz.prog w= .ok (.slice a' Q.length c') w1):=hrun;have HO:Hid (w1.ownsRow w.heap.size 28 1 (.slice a' Q.length c') Q.length xs):=ho;have HQ:Hid (∀j (hj:j<Q.length),∃p b off k,xs[j]?=some (.slice p (Q[j]).length k)∧zdg w p b off (Q[j]).length Q[j]∧(p=none→k=0)):=hq;clear h hrun ho hg hc ha hl hx hq;go_enter Tryz.func115,Tryz.ntmps115;go_wp2_with (at_builtin;refine Ri.wpList_append_run' rfl _ _ 25 rfl rfl rfl HR.out ?_);go_ret;exact ⟨a',c',xs,rfl,HO.out,HQ.out,HB.out⟩
theorem copy_enters:∀args w,(callFunc 80 args).run Tryz.prog w= .ok (.enter 80 args) w:=enters_of Tryz.func80 (by kernel_rfl) rfl
theorem copyEach_any (v:Value) (Q:List (List ByteArray)) (w:World) (h:QIn w v Q) (hS:Fd.SmallQ Q):
  Calls Tryz.prog 79 #[v,.func (.func 80) #[] #[]] w fun e w'=>∃a c,e= .returned (.slice a Q.length c)∧Below w.heap.size w w':=by
 have HL:Hid (Calls Tryz.prog 115 #[v] w fun e w'=>∃a c,∃xs:List Value,e= .returned (.slice a Q.length c)∧w'.ownsRow w.heap.size 28 1 (.slice a Q.length c) Q.length xs∧(∀j (hj:j<Q.length),∃p b off k,xs[j]?=some (.slice p (Q[j]).length k)∧zdg w p b off (Q[j]).length Q[j]∧(p=none→k=0))∧Below w.heap.size w w'):=copyLL v Q w h hS.1;have HS:Hid (Fd.SmallQ Q):=hS;have hQn:=hS.1;obtain ⟨a0,c0,hv,_⟩:=h.val;subst hv;have hent:=copy_enters;clear h hS;go_enter Tryz.func79,Tryz.ntmps79;go_wp2_with fail;refine HL.out.mono ?_;rintro e w1 ⟨a,c,xs,rfl,o1,hq,b1⟩;have HO:Hid (w1.ownsRow w.heap.size 28 1 (.slice a Q.length c) Q.length xs):=o1;have HQ:Hid (∀j (hj:j<Q.length),∃p b off k,xs[j]?=some (.slice p (Q[j]).length k)∧zdg w p b off (Q[j]).length Q[j]∧(p=none→k=0)):=hq;have HB:Hid (Below w.heap.size w w1):=b1;clear HL o1 hq b1;go_wp2;go_loopw [12] (fun i wr=>∃(k:Nat) (ys:List Value),k≤Q.length∧i= .int .i64 k∧Hid (wr.ownsRow w.heap.size 28 1 (.slice a Q.length c) Q.length ys)∧Hid (∀j,k≤j→ys[j]?=xs[j]?)∧Hid (Below w.heap.size w wr)) (fun i _=>Q.length-(intOf i).toNat)
 case atStart=>exact ⟨0,xs,by omega,rfl,HO,fun _ _=>rfl,HB⟩
 case round=>
  obtain ⟨k,ys,hk,rfl,ho,hy,hb⟩:=hrel;clear HO HB;by_cases hlt:k<Q.length
  ·obtain ⟨p,b,off,kk,e1,e2,e3⟩:=HQ.out k hlt;obtain ⟨A,rfl⟩:∃A,a=some ⟨A,0,none⟩:=by
    rcases Joins.ownsRow_forms ho.out with ⟨_,h2⟩|⟨A,c',h2⟩
    ·omega
    ·injection h2 with h2;exact ⟨A,h2⟩
   have hA:=own_lt ho.out (g:=A) rfl;have hcell:wr.cell? ⟨A,k,none⟩=some (.slice p (Q[k]).length kk):=by
    rw [ho.out.cellAt k (by omega),hy.out k (Nat.le_refl _)];exact e1
   have HC:Hid (Calls Tryz.prog 80 #[.slice p (Q[k]).length kk] wr fun e w'=>∃a' c',e= .returned (.slice a' (Q[k]).length c')∧OwnS w' wr.heap.size (.slice a' (Q[k]).length c') Q[k]∧Below wr.heap.size wr w'):=Ri.copyS p b off (Q[k]).length kk Q[k] wr (zdb e2 hb.out) e3 (by have:=HS.out.2 _ (List.getElem_mem hlt);omega);clear e1 e2 e3;generalize (Q[k]).length=m at*;go_wp2_with fail;refine HC.out.mono ?_;rintro e w2 ⟨a',c',rfl,o2,b2⟩;have hcell2:w2.cell? ⟨A,k,none⟩=some (.slice p m kk):=(b2.cell (p:=⟨A,k,none⟩) hA.2).trans hcell;have ho2:w2.ownsRow w.heap.size 28 1 (.slice (some ⟨A,0,none⟩) Q.length c) Q.length ys:=zaf ho.out b2;have hfz:w2.frozen? ⟨A,k,none⟩=false:=Hp.owns_frozen ho2 k;have HO3:Hid ((w2.setCell ⟨A,k,none⟩ (.slice a' m c')).ownsRow w.heap.size 28 1 (.slice (some ⟨A,0,none⟩) Q.length c) Q.length (ys.set k (.slice a' m c'))):=Hp.owns_set (j:=k) (u:= .slice a' m c') ho2;have HB3:Hid (Below w.heap.size w (w2.setCell ⟨A,k,none⟩ (.slice a' m c'))):=(hb.out.trans (b2.mono hb.out.size)).setCell hA.1 _;have HY3:Hid (∀j,k+1≤j→(ys.set k (.slice a' m c'))[j]?=xs[j]?):=fun j hj=>by
    rw [List.getElem?_set_ne (by omega)];exact hy.out j (by omega)
   clear HC o2 b2 ho2 ho hy hb hcell hA;go_wp2;go_roundw
   case rel=>exact ⟨k+1,_,by omega,by go_num,HO3,HY3,HB3⟩
   case measure=>simp [intOf];omega
  ·obtain rfl:k=Q.length:=by omega
   clear HQ HS ho hy;go_wp2;go_ret;exact ⟨a,c,rfl,hb.out⟩
abbrev sC (r:ByteArray) (m:Bool) (q:Value) (d x:Bool):Array Value:= #[.string r,.bool m,q,.bool d,.bool x]
abbrev z5:Array Value:=sC ⟨#[]⟩ false (.slice none 0 0) false false
theorem five_end {W:World} {g:Nat} (h:RowAt W g 27 z5) (v0 v1 v2 v3 v4:Value):RowAt (res5 W v0 v1 v2 v3 v4 g) g 27 #[v0,v1,v2,v3,v4]:=by
 have:=((((h.set 0 v0).set 1 v1).set 2 v2).set 3 v3).set 4 v4;simpa using this
theorem five_block (W:World) (v0 v1 v2 v3 v4:Value) (g k:Nat) (h:k≠g):(res5 W v0 v1 v2 v3 v4 g).heap[k]?=W.heap[k]?:=by
 have e:∀(w:World) (o:Nat) (v:Value),(w.setCell ⟨g,o,none⟩ v).heap[k]?=w.heap[k]?:=fun w o v=>Below.heap_setCell _ _ _ _ h;unfold res5;rw [e,e,e,e,e]
theorem copySession_any (r:ByteArray) (m:Bool) (v:Value) (Q:List (List ByteArray)) (d x:Bool) (w:World) (h:QIn w v Q) (hS:Fd.SmallQ Q):
  Calls Tryz.prog 43 #[.agg (sC r m v d x)] w fun e w'=>∃a c,e= .returned (.agg (sC r m (.slice a Q.length c) d x))∧Below w.heap.size w w':=by
 obtain ⟨a0,c0,hv,_⟩:=h.val;obtain ⟨W0,hW0,HW0,b0,r0⟩:=boxed w (sC r m v d x) 27;obtain ⟨W1,hW1,HW1,b1,r1⟩:=boxed W0 z5 27;have q0:W0.heap.size=w.heap.size+1:=by rw [←hW0];simp
 rw [q0] at r1;have b01:Below w.heap.size w W1:=b0.trans (b1.mono b0.size);have r01:=r0.below b1 r0.lt;have HC:Hid (Calls Tryz.prog 79 #[v,.func (.func 80) #[] #[]] W1 fun e w'=>∃a c,e= .returned (.slice a Q.length c)∧Below W1.heap.size W1 w'):=copyEach_any v Q W1 (h.below b01) hS;subst hv;have k2:=r01.cell 2;simp only [List.getElem?_toArray,List.getElem?_cons_zero,List.getElem?_cons_succ] at k2;clear h hS hW0 hW1 q0;generalize Q.length=nq at*;go_enter Tryz.func43,Tryz.ntmps43;go_upto_region 1 with fail;rw [HW0.out,HW1.out];clear HW0 HW1;go_wp2_with fail;refine HC.out.mono ?_;rintro e w2 ⟨x1,y1,rfl,b2⟩;have r02:=r01.below b2 r01.lt;have r12:=r1.below b2 r1.lt;have hb2:Below w.heap.size w w2:=b01.trans (b2.mono b01.size);obtain ⟨W3,hW3⟩:∃W3,w2.setCell ⟨w.heap.size,2,none⟩ (.slice x1 nq y1)=W3:=⟨_,rfl⟩;have HW3:Hid (w2.setCell ⟨w.heap.size,2,none⟩ (.slice x1 nq y1)=W3):=hW3;have r03:RowAt W3 w.heap.size 27 (sC r m (.slice x1 nq y1) d x):=by rw [←hW3];exact r02.set 2 _
 have r13:RowAt W3 (w.heap.size+1) 27 z5:=by rw [←hW3];exact (Below.heap_setCell _ _ _ _ (by simp only;omega)).trans r12
 have hb3:Below w.heap.size w W3:=by rw [←hW3];exact hb2.setCell (p:=⟨w.heap.size,2,none⟩) (Nat.le_refl _) _
 have g2:=r02.cell 2;have f2:=r02.frozen 2;simp only [List.getElem?_toArray,List.getElem?_cons_zero,List.getElem?_cons_succ] at g2;clear hW3 r02 r12 hb2 b2 r01 r1 r0 b0 b1 b01 k2 HC;go_upto_region 2 with fail;rw [HW3.out];clear HW3 g2 f2;obtain ⟨k0,k1,k2,k3,k4⟩:=Fd.five_at r03;obtain ⟨m0,m1,m2,m3,m4⟩:=Fd.five_at r13;have f0:=r13.frozen 0;have f1:=r13.frozen 1;have f2:=r13.frozen 2;have f3:=r13.frozen 3;have f4:=r13.frozen 4;obtain ⟨g0,g1,g2,g3,g4⟩:=Fd.five_at (five_end r13 (.string r) (.bool m) (.slice x1 nq y1) (.bool d) (.bool x));have HE:Hid (Below w.heap.size w (res5 W3 (.string r) (.bool m) (.slice x1 nq y1) (.bool d) (.bool x) (w.heap.size+1))):=zcd hb3 _ _ _ _ _ _ (by omega);clear hb3 r03 r13;go_wp2;exact bodyPost_ret (v:= .agg (sC r m (.slice x1 nq y1) d x)) (by simp [results,Tryz.results43,go_sem,g0,g1,g2,g3,g4]) rfl ⟨x1,y1,rfl,HE.out⟩
end Go.Proofs.YtibhabajknikcaaGreatDoor.Er
namespace Go.Proofs.YtibhabajknikcaaGreatDoor.Er
open Go.RowKit
theorem talkOk_any (a:Option Addr) (b n c:Nat) (L:List KV) (r:ByteArray) (m:Bool) (v:Value) (Q:List (List ByteArray)) (d x:Bool) (now:Int) (w:World) (h:DbAt w a b n L) (hs:Small L) (hn:n≤1048577) (hq:QIn w v Q) (hS:Fd.SmallQ Q) (hr:r.size≤1048576) (hR:Ready w) (hF:Fd.Ready w):
  Calls Tryz.prog 17 #[.slice a n c,.agg (sC r m v d x),.int .i64 now] w fun e w'=>e= .returned (.bool (dbOkB (L.map KV.key)&&(Fd.sessB r m Q d x&&timeB now)))∧Below w.heap.size w w':=by
 obtain ⟨a0,c0,hv,_⟩:=hq.val;obtain ⟨W0,hW0,HW0,b0,r0⟩:=boxed w (sC r m v d x) 27;have HD:Hid (Calls Tryz.prog 39 #[.slice a n c] W0 fun e w'=>e= .returned (.bool (dbOkB (L.map KV.key)))∧Below W0.heap.size W0 w'):=implDbOk_any a b n c L W0 (h.below b0) hs hn (hR.below (b0.mono hR.six));have HSS:Hid (∀W,Below w.heap.size w W→Calls Tryz.prog 40 #[.agg (sC r m v d x)] W fun e w'=>e= .returned (.bool (Fd.sessB r m Q d x))∧Below W.heap.size W w'):=fun W hW=>Fd.implSess r m v Q d x W (hF.below (hW.mono hF.six)) hr (hq.below hW).lists hS;have HT:Hid (∀W,Calls Tryz.prog 41 #[.int .i64 now] W fun e w'=>e= .returned (.bool (timeB now))∧w'=W):=timeOk_any now;subst hv;clear h hs hn hq hS hr hR hF hW0;generalize dbOkB (L.map KV.key)=okD at*;generalize Fd.sessB r m Q d x=okS at*;generalize timeB now=okT at*;generalize Q.length=nq at*;go_enter Tryz.func17,Tryz.ntmps17;go_upto_region 1 with fail;rw [HW0.out];clear HW0;go_wp2_with fail;refine HD.out.mono ?_;rintro e w1 ⟨rfl,b1⟩;have r1:=r0.below b1 r0.lt;have hb1:Below w.heap.size w w1:=b0.trans (b1.mono b0.size);obtain ⟨k0,k1,k2,k3,k4⟩:=Fd.five_at r1;clear HD b1 r0 r1 b0;cases okD with
 |false=>
  go_wp2;go_ret;exact ⟨rfl,hb1⟩
 |true=>
  go_wp2_with fail;refine (HSS.out w1 hb1).mono ?_;rintro e w2 ⟨rfl,b2⟩;have hb2:Below w.heap.size w w2:=hb1.trans (b2.mono hb1.size);clear k0 k1 k2 k3 k4 HSS b2 hb1;cases okS with
  |false=>
   go_wp2;go_ret;exact ⟨rfl,hb2⟩
  |true=>
   go_wp2_with fail;refine (HT.out w2).mono ?_;rintro e w3 ⟨rfl,rfl⟩;clear HT;go_wp2;go_ret;exact ⟨rfl,hb2⟩
def TalkEnd (w:World) (ks:List Ke) (r:ByteArray) (m:Bool) (nq:Nat) (d x:Bool) (now:Int) (e:Ending) (w':World):Prop:=
 ∃g k1 k2 k3 L' qa qc,e= .returned (.pointer (some ⟨g,0,none⟩))∧w.heap.size≤g∧RowAt w' g 50 (tkC (.slice k1 k2 k3) r m (.slice qa nq qc) d x now)∧DbOwn w' w.heap.size (.slice k1 k2 k3) L'∧L'.map KV.key=Ri.livingM now ks∧Below w.heap.size w w'
theorem talkOf_any (a:Option Addr) (b n c:Nat) (L:List KV) (r:ByteArray) (m:Bool) (v:Value) (Q:List (List ByteArray)) (d x:Bool) (now:Int) (w:World) (h:DbAt w a b n L) (hs:Small L) (hn:n≤1048577) (hq:QIn w v Q) (hS:Fd.SmallQ Q) (hR:Ready w):
  Calls Tryz.prog 19 #[.slice a n c,.agg (sC r m v d x),.int .i64 now] w (TalkEnd w (L.map KV.key) r m Q.length d x now):=by
 obtain ⟨a0,c0,hv,_⟩:=hq.val;obtain ⟨W0,hW0,HW0,b0,r0⟩:=boxed w (sC r m v d x) 27
 have HA:Hid (∀W,Below W0.heap.size W0 W→Calls Tryz.prog 10 #[.slice a n c,.int .i64 now] W fun e w'=>∃k1 k2 k3 L',e= .returned (.slice k1 k2 k3)∧DbOwn w' W.heap.size (.slice k1 k2 k3) L'∧L'.map KV.key=Ri.livingM now (L.map KV.key)∧Below W.heap.size W w'):=fun W hW=> (Ri.alive_any a b n c L now W (h.below (b0.trans (hW.mono b0.size))) hs hn (hR.below ((b0.trans (hW.mono b0.size)).mono hR.six))).mono (by
  rintro e w' ⟨v',L',rfl,o,hk,hb⟩;obtain ⟨k1,k3,e⟩:=zad o.row;subst e;exact ⟨k1,_,k3,L',rfl,o,hk,hb⟩)
 have HC:Hid (∀W,Below W0.heap.size W0 W→Calls Tryz.prog 43 #[.agg (sC r m v d x)] W fun e w'=>∃qa qc,e= .returned (.agg (sC r m (.slice qa Q.length qc) d x))∧Below W.heap.size W w'):=fun W hW=>copySession_any r m v Q d x W (hq.below (b0.trans (hW.mono b0.size))) hS;have HB0:Hid (Below w.heap.size w W0):=b0;subst hv;clear h hs hn hq hS hR hW0;generalize L.map KV.key=ks at*;generalize Q.length=nq at*;have KP:Hid (∀{W:World},Below W0.heap.size W0 W→(W.cell? ⟨w.heap.size,0,none⟩=some (.string r)∧W.cell? ⟨w.heap.size,1,none⟩=some (.bool m)∧W.cell? ⟨w.heap.size,2,none⟩=some (.slice a0 nq c0)∧W.cell? ⟨w.heap.size,3,none⟩=some (.bool d)∧W.cell? ⟨w.heap.size,4,none⟩=some (.bool x))):=fun hW=>Fd.five_at (r0.below hW r0.lt);have bx:Below W0.heap.size W0 W0.drew:=below_drewN (Below.refl _ _) 1;have HF:Hid (∀W1 W2 k1 k2 k3 qa qc L',Below W0.heap.size W0 W1→DbOwn W1 W0.heap.size (.slice k1 k2 k3) L'→L'.map KV.key=Ri.livingM now ks→Below W1.heap.size W1 W2→TalkEnd w ks r m nq d x now (.returned (.pointer (some ⟨W2.heap.size,0,none⟩))) (W2.alloc (.cells (tkC (.slice k1 k2 k3) r m (.slice qa nq qc) d x now) 50))):=fun W1 W2 k1 k2 k3 qa qc L' p1 p2 p3 p4=>by
  have q1:Below W0.heap.size W0 W2:=p1.trans (p4.mono p1.size);have q2:Below W2.heap.size W2 (W2.alloc (.cells (tkC (.slice k1 k2 k3) r m (.slice qa nq qc) d x now) 50)):=(Below.refl _ W2).alloc (Nat.le_refl _) _;have q3:Below w.heap.size w W2:=HB0.out.trans (q1.mono HB0.out.size);exact ⟨W2.heap.size,k1,k2,k3,L',qa,qc,rfl,q3.size,RowAt.new _ _ _,((p2.below p4).below q2).le HB0.out.size,p3,q3.trans (q2.mono q3.size)⟩
 generalize TalkEnd w ks r m nq d x now=M at*;clear r0 b0;go_enter Tryz.func19,Tryz.ntmps19;go_upto_region 1 with fail;rw [HW0.out];clear HW0;go_region_held3 (fun W=>W.cell? ⟨w.heap.size,0,none⟩=some (.string r)∧W.cell? ⟨w.heap.size,1,none⟩=some (.bool m)∧W.cell? ⟨w.heap.size,2,none⟩=some (.slice a0 nq c0)∧W.cell? ⟨w.heap.size,3,none⟩=some (.bool d)∧W.cell? ⟨w.heap.size,4,none⟩=some (.bool x))
  (first|exact KP.out bx|exact KP.out (bx.alloc bx.size _))
  (first
   |(go_at_call 10;refine (HA.out _ bx).mono ?_;rintro e w1 ⟨k1,k2,k3,L',rfl,ho,hk,hb1⟩;have HO:Hid (DbOwn w1 W0.heap.size (.slice k1 k2 k3) L'):=ho.le bx.size;have HK:Hid (L'.map KV.key=Ri.livingM now ks):=hk;have bx:=bx.trans (hb1.mono bx.size);have HX1:Hid (Below W0.heap.size W0 w1):=bx;clear ho hk hb1)
   |(go_at_call 43;refine (HC.out _ bx).mono ?_;rintro e w2 ⟨qa,qc,rfl,hb2⟩;have HX2:Hid (Below w1.heap.size w1 w2):=hb2;have bx:=bx.trans (hb2.mono bx.size);clear hb2))
 all_goals
  go_wp2;exact HF.out w1 w2 k1 k2 k3 qa qc L' HX1.out HO.out HK.out HX2.out
end Go.Proofs.YtibhabajknikcaaGreatDoor.Er
namespace Go.Proofs.YtibhabajknikcaaGreatDoor.Er
open Go.RowKit
theorem own_other {W W':World} {B:Nat} {e T:TypeId} {size n g:Nat} {v:Value} {xs:List Value} {C:Array Value} (h:W.ownsRow B e size v n xs) (hr:RowAt W g T C) (hT:T≠e) (hb:∀k,k<W.heap.size→k≠g→W'.heap[k]?=W.heap[k]?):W'.ownsRow B e size v n xs:=
 zai h fun q hq=>hb q (own_lt h hq).2 fun e=>Hp.own_ne h hr hT (by rw [hq,e])
theorem dbown_other {W W':World} {B g:Nat} {v:Value} {L:List KV} {T:TypeId} {C:Array Value} (h:DbOwn W B v L) (hr:RowAt W g T C) (h1:T≠60) (h2:T≠9) (h3:T≠100) (h4:T≠102) (hs:W.heap.size≤W'.heap.size) (hb:∀k,k<W.heap.size→k≠g→W'.heap[k]?=W.heap[k]?):DbOwn W' B v L:=by
 obtain ⟨β,q⟩:=h.vals;refine ⟨own_other h.row hr h1 hb,β,q.low,q.mono,Nat.le_trans q.top hs,fun i hi=>?_,q.lt1,q.lt2,q.lt3⟩;have ho:=q.own i hi;exact ⟨own_other ho.items hr h2 hb,own_other ho.pairs hr h3 hb,own_other ho.ranks hr h4 hb⟩
abbrev sOk:ByteArray:=⟨#[79,75]⟩
abbrev sErr:ByteArray:=⟨#[69,82,82,32]⟩
def kindD (m:Bool):Int:=if m=true then 1 else 2
def textD (m:Bool) (t:ByteArray):ByteArray:=if m=true then sOk else sErr++t
def AskI (w:World) (ks:List Ke) (now:Int) (ok m:Bool) (t:ByteArray) (e:Ending) (w':World):Prop:=
 ∃k1 k2 k3 r' m' qa qn qc d' x' rv,e= .returned (.tuple #[.slice k1 k2 k3,.agg (sC r' m' (.slice qa qn qc) d' x'),rv])∧Below w.heap.size w w'∧
  (ok=false→rv= .slice none 0 0)∧
  (ok=true→m'=false∧qn=0∧(∃L',DbOwn w' w.heap.size (.slice k1 k2 k3) L'∧L'.map KV.key=Ri.livingM now ks)∧∃A,rv= .slice (some ⟨A,0,none⟩) 1 1∧w.heap.size≤A∧RowAt w' A 53 #[.int .i64 (kindD m),.int .i64 0,.string (textD m t),.slice none 0 0])
theorem AskI.drew {w:World} {ks:List Ke} {now:Int} {ok m:Bool} {t:ByteArray} {e:Ending} {W:World} (h:AskI w ks now ok m t e W):AskI w ks now ok m t e W.drew:=by
 obtain ⟨k1,k2,k3,r',m',qa,qn,qc,d',x',rv,h1,h2,h3,h4⟩:=h;refine ⟨k1,k2,k3,r',m',qa,qn,qc,d',x',rv,h1,below_drewN h2 1,h3,fun ho=>?_⟩;obtain ⟨p1,p2,⟨L',p3,p4⟩,A,p5,p6,p7⟩:=h4 ho;exact ⟨p1,p2,⟨L',p3.below (below_drewN (Below.refl _ _) 1),p4⟩,A,p5,p6,p7⟩
theorem sess_idle {r:ByteArray} {Q:List (List ByteArray)} {d x:Bool} (h:Fd.sessB r false Q d x=true):Q.length=0:=by
 unfold Fd.sessB Fd.headB at h;by_cases h0:Q.length=0
 ·exact h0
 ·rw [decide_eq_false h0] at h;simp at h
theorem asked_impl (a:Option Addr) (b n c:Nat) (L:List KV) (r:ByteArray) (m:Bool) (v:Value) (Q:List (List ByteArray)) (d x:Bool) (now:Int) (A ac:Nat) (pa pb:Addr) (t:ByteArray) (w:World) (h:DbAt w a b n L) (hs:Small L) (hn:n≤1048577) (hq:QIn w v Q) (hS:Fd.SmallQ Q) (hr:r.size≤1048576) (hR:Ready w) (hF:Fd.Ready w) (hE:Errs w pa pb t)
  (hA:w.cell? ⟨A,0,none⟩=some (.string sDiscard)) (hAl:A<w.heap.size):
  Calls Tryz.prog 6 #[.slice a n c,.agg (sC r m v d x),.int .i64 now,.slice (some ⟨A,0,none⟩) 1 ac] w (AskI w (L.map KV.key) now ((dbOkB (L.map KV.key)&&(Fd.sessB r m Q d x&&timeB now))&&!x) m t):=by
 obtain ⟨a0,c0,hv,_⟩:=hq.val;obtain ⟨W0,hW0,HW0,b0,r0⟩:=boxed w (sC r m v d x) 27;obtain ⟨W1,hW1,HW1,b1,r1⟩:=boxed W0 z5 27;have q0:W0.heap.size=w.heap.size+1:=by rw [←hW0];simp
 have q1:w.heap.size+1<W1.heap.size:=by rw [←hW1];simp [q0]
 rw [q0] at r1;have b01:Below w.heap.size w W1:=b0.trans (b1.mono b0.size);have r01:=r0.below b1 r0.lt;have HT:Hid (Calls Tryz.prog 17 #[.slice a n c,.agg (sC r m v d x),.int .i64 now] W1 fun e w'=>e= .returned (.bool (dbOkB (L.map KV.key)&&(Fd.sessB r m Q d x&&timeB now)))∧Below W1.heap.size W1 w'):=talkOk_any a b n c L r m v Q d x now W1 (h.below b01) hs hn (hq.below b01) hS hr (hR.below (b01.mono hR.six)) (hF.below (b01.mono hF.six))
 have HW:Hid (∀W,Below w.heap.size w W→Calls Tryz.prog 18 #[.slice (some ⟨A,0,none⟩) 1 ac] W fun e w'=>e= .returned (.bool false)∧w'=W):=fun W hW=>Fd.wrong_any (some ⟨A,0,none⟩) A 0 1 ac [sDiscard] W ⟨rfl,fun _=>rfl,fun _=>Nat.lt_of_lt_of_le hAl hW.size,fun i hi=>by
  obtain rfl:i=0:=by omega
  exact (hW.cell (p:=⟨A,0,none⟩) hAl).trans hA,fun i hi=>by
  obtain rfl:i=0:=by omega
  decide⟩ (by omega)
 have HO:Hid (∀W,Below w.heap.size w W→Calls Tryz.prog 19 #[.slice a n c,.agg (sC r m v d x),.int .i64 now] W (TalkEnd W (L.map KV.key) r m Q.length d x now)):=fun W hW=>talkOf_any a b n c L r m v Q d x now W (h.below hW) hs hn (hq.below hW) hS (hR.below (hW.mono hR.six));have HEr:Hid (∀W,Below w.heap.size w W→Errs W pa pb t):=fun W hW=>hE.below hW;have HAc:Hid (∀W,Below w.heap.size w W→W.cell? ⟨A,0,none⟩=some (.string sDiscard)):=fun W hW=> (hW.cell (p:=⟨A,0,none⟩) hAl).trans hA;have HI:Hid (m=false→Fd.sessB r m Q d x=true→Q.length=0):=fun e1 e2=>sess_idle (by rw [←e1];exact e2);subst hv;clear h hs hn hq hS hr hR hF hE hA hAl hW0 hW1 q0;generalize L.map KV.key=ks at*
 have HID:Hid (m=false→(dbOkB ks&&(Fd.sessB r m Q d x&&timeB now))=true→Q.length=0):=fun e1 e2=>HI.out e1 (by
  rw [Bool.and_eq_true,Bool.and_eq_true] at e2;exact e2.2.1)
 clear HI;generalize (dbOkB ks&&(Fd.sessB r m Q d x&&timeB now))=ok at*;generalize Q.length=nq at*;have HNO:Hid (∀W,Below w.heap.size w W→RowAt W (w.heap.size+1) 27 z5→AskI w ks now false m t (.returned (.tuple #[.slice none 0 0,.agg z5,.slice none 0 0])) W):=fun W hW _=>⟨none,0,0,⟨#[]⟩,false,none,0,0,false,false,_,rfl,hW,fun _=>rfl,fun h=>by cases h⟩;have HYES:Hid (∀W g k1 k2 k3 L' r' qa qn qc d' x' Ar,Below w.heap.size w W→RowAt W (w.heap.size+1) 27 z5→DbOwn W w.heap.size (.slice k1 k2 k3) L'→L'.map KV.key=Ri.livingM now ks→qn=0→RowAt W Ar 53 #[.int .i64 (kindD m),.int .i64 0,.string (textD m t),.slice none 0 0]→w.heap.size≤Ar→g=w.heap.size+1→AskI w ks now true m t (.returned (.tuple #[.slice k1 k2 k3,.agg (sC r' false (.slice qa qn qc) d' x'),.slice (some ⟨Ar,0,none⟩) 1 1])) (res5 W (.string r') (.bool false) (.slice qa qn qc) (.bool d') (.bool x') g)):=fun W g k1 k2 k3 L' r' qa qn qc d' x' Ar p1 p2 p3 p4 p5 p6 p7 p8=>by
  subst p8;refine ⟨k1,k2,k3,r',false,qa,qn,qc,d',x',_,rfl,zcd p1 _ _ _ _ _ _ (by omega),(fun h=>by cases h),fun _=>⟨rfl,p5,⟨L',dbown_other p3 p2 (by decide) (by decide) (by decide) (by decide) (by simp [World.setCell]) (fun k _ hk=>five_block W _ _ _ _ _ _ k hk),p4⟩,Ar,rfl,p7,?_⟩⟩
  exact (five_block W _ _ _ _ _ _ Ar fun e=>by
   subst e;have:=p2.symm.trans p6;simp at this).trans p6
 generalize hM:AskI w ks now (ok&&!x) m t=M at*;have HM:Hid (AskI w ks now (ok&&!x) m t=M):=hM;clear hM;obtain ⟨k0,k1,k2,k3,k4⟩:=Fd.five_at r01;go_enter Tryz.func6,Tryz.ntmps6;go_upto_region 1 with fail;rw [HW0.out,HW1.out];clear HW0 HW1;go_wp2_with fail;refine HT.out.mono ?_;rintro e w2 ⟨rfl,b2⟩;have r02:=r01.below b2 r01.lt;have r12:=r1.below b2 r1.lt;have hb2:Below w.heap.size w w2:=b01.trans (b2.mono b01.size);have hsz2:w.heap.size+1<w2.heap.size:=Nat.lt_of_lt_of_le q1 b2.size;clear HT b2 r01 r1 r0 b0 b1 b01 q1 k0 k1 k2 k3 k4;obtain ⟨k0,k1,k2,k3,k4⟩:=Fd.five_at r02;obtain ⟨m0,m1,m2,m3,m4⟩:=Fd.five_at r12;have f0:=r12.frozen 0;have f1:=r12.frozen 1;have f2:=r12.frozen 2;have f3:=r12.frozen 3;have f4:=r12.frozen 4;by_cases hok:(ok&&!x)=true
 ·obtain ⟨rfl,hx⟩:ok=true∧x=false:=by
   rw [Bool.and_eq_true] at hok;exact ⟨hok.1,by simpa using hok.2⟩
  subst hx;have hsz:w.heap.size+1<w2.heap.size:=hsz2;rw [hok] at HM;clear HNO hok hsz2;go_wp2_with fail;refine (HW.out w2 hb2).mono ?_;rintro e w3 ⟨rfl,rfl⟩;go_wp2_with fail;refine (HO.out w3 hb2).mono ?_;rintro e w4 ⟨g,u1,u2,u3,L',qa,qc,rfl,hg,rg,od,hk,b4⟩;have r14:=r12.below b4 r12.lt;have hb4:Below w.heap.size w w4:=hb2.trans (b4.mono hb2.size);have od4:DbOwn w4 w.heap.size (.slice u1 u2 u3) L':=od.le hb2.size;have hg1:w.heap.size+1<g:=Nat.lt_of_lt_of_le hsz hg;clear HW HO b4 r12 r02 od m0 m1 m2 m3 m4 f0 f1 f2 f3 f4 k0 k1 k2 k3 k4;cases m with
  |false=>
   have hn0:=HID.out (by first|rfl|trivial) (by first|rfl|trivial);subst hn0;go_wp2_with fail;refine (ask_no g (.slice u1 u2 u3) r (.slice qa 0 qc) d false now pa pb t A ac w4 rg (HEr.out w4 hb4) (HAc.out w4 hb4)).mono ?_;rintro e w5 ⟨⟨Ar,rfl,rA,hAr⟩,b5⟩;have r15:=r14.below b5 r14.lt;have rg5:=rg.below b5 rg.lt;have hb5:Below w.heap.size w w5:=hb4.trans (b5.mono hb4.size);have HEnd:Hid (M (.returned (.tuple #[.slice u1 u2 u3,.agg (sC r false (.slice qa 0 qc) d false),.slice (some ⟨Ar,0,none⟩) 1 1])) (res5 w5 (.string r) (.bool false) (.slice qa 0 qc) (.bool d) (.bool false) (w.heap.size+1)).drew):=by
    rw [←HM.out];exact (HYES.out w5 _ u1 u2 u3 L' r qa 0 qc d false Ar hb5 r15 (od4.below b5) hk rfl rA (Nat.le_trans hb4.size hAr) rfl).drew
   have z0:=rg5.cell 0;have z1:=rg5.cell 1;have z2:=rg5.cell 2;have z3:=rg5.cell 3;have z4:=rg5.cell 4;have z5:=rg5.cell 5;simp only [tkC,List.getElem?_toArray,List.getElem?_cons_zero,List.getElem?_cons_succ] at z0 z1 z2 z3 z4 z5;obtain ⟨m0,m1,m2,m3,m4⟩:=Fd.five_at r15;have f0:=r15.frozen 0;have f1:=r15.frozen 1;have f2:=r15.frozen 2;have f3:=r15.frozen 3;have f4:=r15.frozen 4;obtain ⟨g0,g1,g2,g3,g4⟩:=Fd.five_at (five_end r15 (.string r) (.bool false) (.slice qa 0 qc) (.bool d) (.bool false));clear HM HYES HID HEr HAc hb2 hb4 hb5 r14 r15 rg rg5 rA od4 b5 hk;go_wp2_with fail;go_region;all_goals
    go_wp2;exact bodyPost_ret (v:= .tuple #[.slice u1 u2 u3,.agg (sC r false (.slice qa 0 qc) d false),.slice (some ⟨Ar,0,none⟩) 1 1]) (by simp [results,Tryz.results6,go_sem,g0,g1,g2,g3,g4]) rfl HEnd.out
  |true=>
   go_wp2_with fail;refine (ask_yes g u1 u2 u3 r qa nq qc d false now A ac w4 rg (HAc.out w4 hb4)).mono ?_;rintro e w5 ⟨⟨Ar,rfl,rA,hAr⟩,rg5,g5⟩;have r15:RowAt w5 (w.heap.size+1) 27 z5:=(g5.block _ r14.lt (fun e=>by have:=Option.some.inj e;omega)).trans r14;have hb5:Below w.heap.size w w5:=hb4.trans ⟨g5.os,g5.tape,g5.output,g5.size,fun q hq=>g5.block q (Nat.lt_of_lt_of_le hq hb4.size) (fun e=>by have:=Option.some.inj e;omega)⟩;have od5:DbOwn w5 w.heap.size (.slice u1 u2 u3) L':=dbown_other od4 rg (by decide) (by decide) (by decide) (by decide) g5.size (fun q hq hne=>g5.block q hq (fun e=>hne (Option.some.inj e)));have HEnd:Hid (M (.returned (.tuple #[.slice u1 u2 u3,.agg (sC r false (.slice none 0 0) false false),.slice (some ⟨Ar,0,none⟩) 1 1])) (res5 w5 (.string r) (.bool false) (.slice none 0 0) (.bool false) (.bool false) (w.heap.size+1)).drew):=by
    rw [←HM.out];exact (HYES.out w5 _ u1 u2 u3 L' r none 0 0 false false Ar hb5 r15 od5 hk rfl rA (Nat.le_trans hb4.size hAr) rfl).drew
   have z0:=rg5.cell 0;have z1:=rg5.cell 1;have z2:=rg5.cell 2;have z3:=rg5.cell 3;have z4:=rg5.cell 4;have z5:=rg5.cell 5;simp only [tkC,List.getElem?_toArray,List.getElem?_cons_zero,List.getElem?_cons_succ] at z0 z1 z2 z3 z4 z5;obtain ⟨m0,m1,m2,m3,m4⟩:=Fd.five_at r15;have f0:=r15.frozen 0;have f1:=r15.frozen 1;have f2:=r15.frozen 2;have f3:=r15.frozen 3;have f4:=r15.frozen 4;obtain ⟨g0,g1,g2,g3,g4⟩:=Fd.five_at (five_end r15 (.string r) (.bool false) (.slice none 0 0) (.bool false) (.bool false));clear HM HYES HID HEr HAc hb2 hb4 hb5 r14 r15 rg rg5 rA od4 od5 g5 hk;go_wp2_with fail;go_region;all_goals
    go_wp2;exact bodyPost_ret (v:= .tuple #[.slice u1 u2 u3,.agg (sC r false (.slice none 0 0) false false),.slice (some ⟨Ar,0,none⟩) 1 1]) (by simp [results,Tryz.results6,go_sem,g0,g1,g2,g3,g4]) rfl HEnd.out
 ·have hok2:(ok&&!x)=false:=by simpa using hok
  have hfin:=five_end r12 (.string ⟨#[]⟩) (.bool false) (.slice none 0 0) (.bool false) (.bool false);obtain ⟨g0,g1,g2,g3,g4⟩:=Fd.five_at hfin;have HEnd:Hid (M (.returned (.tuple #[.slice none 0 0,.agg z5,.slice none 0 0])) (res5 w2 (.string ⟨#[]⟩) (.bool false) (.slice none 0 0) (.bool false) (.bool false) (w.heap.size+1))):=by
   rw [←HM.out,hok2];exact HNO.out _ (zcd hb2 _ _ _ _ _ _ (by omega)) hfin
  clear HM HNO HYES HID hok hfin HO HW HEr HAc hb2 r02 r12;cases ok
  ·go_wp2;exact bodyPost_ret (v:= .tuple #[.slice none 0 0,.agg z5,.slice none 0 0]) (by simp [results,Tryz.results6,go_sem,g0,g1,g2,g3,g4]) rfl HEnd.out
  ·obtain rfl:x=true:=by simpa using hok2
   go_wp2;exact bodyPost_ret (v:= .tuple #[.slice none 0 0,.agg z5,.slice none 0 0]) (by simp [results,Tryz.results6,go_sem,g0,g1,g2,g3,g4]) rfl HEnd.out
end Go.Proofs.YtibhabajknikcaaGreatDoor.Er
