import Derived.Test.YtibhabajknikcaaGreatDoorE9
set_option maxHeartbeats 4000000
set_option maxRecDepth 100000
namespace Go.Proofs.YtibhabajknikcaaGreatDoor.Er
open Go.RowKit
theorem own2_q {W:World} {B:Nat} {v:Value} {xs:List Value} {Q:List (List ByteArray)} (h:Fd.Own2 W B v xs (Q.map strV)) (hz:∀T∈Q,∀t∈T,t.size≤1048576):QIn W v Q:=by
 have ho:=h.outer;rw [List.length_map] at ho;refine ⟨?_,fun i hi=>?_⟩
 ·rcases Joins.ownsRow_forms ho with ⟨rfl,h0⟩|⟨A,c,rfl⟩
  ·exact ⟨none,0,by rw [h0],fun _=>rfl⟩
  ·exact ⟨_,c,rfl,fun e=>by cases e⟩
 ·rcases Joins.ownsRow_forms ho with ⟨_,h0⟩|⟨A,c,rfl⟩
  ·omega
  ·obtain ⟨x,h1,h2⟩:=h.inner i (strV Q[i]) (by rw [List.getElem?_map,List.getElem?_eq_getElem hi];rfl);have h3:OwnS W B x Q[i]:=by
    have e:(strV Q[i]).length=(Q[i]).length:=by unfold strV;rw [List.length_map]
    rw [e] at h2;exact h2
   obtain ⟨p,b,k,rfl,s1,s2,s3⟩:=ownS_in h3 (hz _ (List.getElem_mem hi));refine ⟨A,c,p,b,0,k,rfl,(own_lt ho (g:=A) rfl).2,?_,s1,fun e=>?_,s2⟩
   ·rw [ho.cellAt i (by omega)];exact h1
   ·subst e;rcases Joins.ownsRow_forms h3 with ⟨e1,_⟩|⟨A',c',e1⟩
    ·injection e1
    ·injection e1 with e1;cases e1
theorem Own2_other {W W':World} {B g:Nat} {v:Value} {xs:List Value} {rows:List (List Value)} {T:TypeId} {C:Array Value} (h:Fd.Own2 W B v xs rows) (hr:RowAt W g T C) (h1:T≠28) (h2:T≠9) (hb:∀k,k<W.heap.size→k≠g→W'.heap[k]?=W.heap[k]?):Fd.Own2 W' B v xs rows:=
 ⟨own_other h.outer hr h1 hb,fun i r hi=>by
  obtain ⟨x,e1,e2⟩:=h.inner i r hi;exact ⟨x,e1,own_other e2 hr h2 hb⟩,h.up⟩
theorem copy_one {W:World} {B:Nat} {V:Value} {xs:List Value} {rows:List (List Value)} {p:Option Addr} {b off m k:Nat} {T:List ByteArray} (h:Fd.Own2 W B V xs rows) (hs:zdg W p b off m T) (hk:p=none→k=0) (hm:m≤1048576) (hr:rows.length≤1048576) (hB:B≤W.heap.size):
  ∃a1 c1 wA a2 c2 wB,(Builtin.append_ #[28,28] 28 #[.slice (some ⟨W.heap.size,0,none⟩) 0 0,.slice p m k]).run Tryz.prog (W.alloc (.cells #[] 9)).drew= .ok (.slice a1 m c1) wA∧Below W.heap.size W wA∧
   (Builtin.append_ #[25,25] 25 #[V,.slice (some ⟨wA.heap.size,0,none⟩) 1 1]).run Tryz.prog (wA.alloc (.cells #[.slice a1 m c1] 28))= .ok (.slice a2 (rows.length+1) c2) wB∧Fd.Own2 wB B (.slice a2 (rows.length+1) c2) (xs++ [.slice a1 m c1]) (rows++ [strV T])∧W.grownBy wB V.ownBlock:=by
 obtain ⟨i0,hi,hz0,hz1,hz2⟩:=info_parts info28;have b1:Below W.heap.size W (W.alloc (.cells #[] 9)).drew:=below_drewN ((Below.refl _ W).alloc (Nat.le_refl _) _) 1;obtain ⟨a1,c1,wA,run1,oA,gA⟩:=app_strs (w:=(W.alloc (.cells #[] 9)).drew) (B:=W.heap.size) (X:=W.heap.size) (RowAt.new W 9 #[]) (Nat.le_refl _) (zdb hs b1) hk (by omega) b1.size;have bA:Below W.heap.size W wA:=b1.trans ⟨gA.os,gA.tape,gA.output,gA.size,fun q hq=>gA.block q (Nat.lt_of_lt_of_le hq b1.size) (fun e=>by have:=Option.some.inj e;omega)⟩;have b2:Below wA.heap.size wA (wA.alloc (.cells #[.slice a1 m c1] 28)):=(Below.refl _ wA).alloc (Nat.le_refl _) _;have bAB:Below W.heap.size W (wA.alloc (.cells #[.slice a1 m c1] 28)):=bA.trans (b2.mono bA.size);have h2:Fd.Own2 (wA.alloc (.cells #[.slice a1 m c1] 28)) B V xs rows:=h.below bAB
 obtain ⟨v',wB,run2,oB,gB,_,_⟩:=run_append_own_at (P:=Tryz.prog) (wA.alloc (.cells #[.slice a1 m c1] 28)) B 25 25 28 i0 _ 1 24 Tryz.underlying25 hi hz0 hz1 hz2 rfl (by decide) V rows.length xs h2.outer ⟨wA.heap.size,0,none⟩ 1 1 [.slice a1 m c1] rfl (fun j u hj=>by
  have hj0:j=0:=by
   have:=(List.getElem?_eq_some_iff.1 hj).1;simp at this;exact this
  subst hj0;rw [Addr.add_lit];have:=(RowAt.new wA 28 #[.slice a1 m c1]).cell 0;simp at hj;subst hj;exact this) (fun u hu=>by
  rw [List.mem_singleton] at hu;subst hu;rfl) (by unfold maxLen;omega) (by omega) (Nat.le_trans hB bAB.size)
 obtain ⟨a2,c2,e⟩:=zad oB;subst e;have hT:T.length=m:=hs.len;have hl:(strV T).length=m:=by unfold strV;rw [List.length_map,hT]
 have oA2:(wA.alloc (.cells #[.slice a1 m c1] 28)).ownsRow W.heap.size 9 1 (.slice a1 m c1) (strV T).length (strV T):=by
  rw [hl];have:=zaf oA b2;unfold OwnS at this;rw [hT] at this;exact this
 refine ⟨a1,c1,wA,a2,c2,wB,run1,bA,run2,h2.more oA2 (fun y hy a ha=> (h.blocks y hy a ha).2) hB oB (fun q hq hne=>gB.block q hq hne) gB.os gB.tape gB.output gB.size,⟨gB.os.trans bAB.os,gB.tape.trans bAB.tape,gB.output.trans bAB.output,Nat.le_trans bAB.size gB.size,fun q hq hne=> (gB.block q (Nat.lt_of_lt_of_le hq bAB.size) hne).trans (bAB.block q hq)⟩⟩
def QSm (Q:List (List ByteArray)):Prop:=Q.length≤1000∧∀T∈Q,T.length≤1000∧∀t∈T,t.size≤1048576
theorem QSm.small {Q:List (List ByteArray)} (h:QSm Q):Fd.SmallQ Q:=⟨by have:=h.1;omega,fun T hT=>by have:=(h.2 T hT).1;omega⟩
theorem l7Copy_any (r:ByteArray) (m:Bool) (v:Value) (Q:List (List ByteArray)) (d x:Bool) (w:World) (h:QIn w v Q) (hS:QSm Q):
  Calls Tryz.prog 52 #[.agg (sC r m v d x)] w fun e w'=>∃q xs,e= .returned (.agg (sC r m q d x))∧Fd.Own2 w' w.heap.size q xs (Q.map strV)∧Below w.heap.size w w':=by
 obtain ⟨a0,c0,hv,hc0⟩:=h.val;obtain ⟨W0,hW0,HW0,b0,r0⟩:=boxed w (sC r m v d x) 27;obtain ⟨W1,hW1,HW1,b1,r1⟩:=boxed W0 z5 27;obtain ⟨W2,hW2,HW2,b2,r2⟩:=boxed W1 (sC r m (.slice none 0 0) d x) 27;have q0:W0.heap.size=w.heap.size+1:=by rw [←hW0];simp
 have q1:W1.heap.size=w.heap.size+2:=by rw [←hW1];simp [q0]
 rw [q0] at r1;rw [q1] at r2;have b01:Below w.heap.size w W1:=b0.trans (b1.mono b0.size);have b02:Below w.heap.size w W2:=b01.trans (b2.mono b01.size);have r01:=r0.below b1 r0.lt;have r02:=r01.below b2 r01.lt;have r12:=r1.below b2 r1.lt;have HQ:Hid (QIn w v Q):=h;have HS:Hid (QSm Q):=hS;have hQn:=hS.1;subst hv;clear h hS hc0;have HR0:Hid (RowAt W2 w.heap.size 27 (sC r m (.slice a0 Q.length c0) d x)):=r02;have HR1:Hid (RowAt W2 (w.heap.size+1) 27 z5):=r12;have HR2:Hid (RowAt W2 (w.heap.size+2) 27 (sC r m (.slice none 0 0) d x)):=r2;have HB2:Hid (Below w.heap.size w W2):=b02;obtain ⟨k0,k1,k2,k3,k4⟩:=Fd.five_at r01;clear hW0 hW1 hW2 b0 b1 b2 b01 b02 r01 r02 r12 r0 r1 r2;go_enter Tryz.func52,Tryz.ntmps52;go_upto_region 1 with fail;rw [HW0.out,HW1.out];clear HW0 HW1;go_upto_region 2 with fail;rw [HW2.out];clear HW2 k0 k1 k2 k3 k4 q0 q1;go_wp2_with fail;go_loopw [4] (fun i wr=>∃(k:Nat) (a:Option Addr) (n c:Nat) (xs:List Value),k≤Q.length∧i= .int .i64 k∧Hid (Fd.Own2 wr w.heap.size (.slice a n c) xs ((Q.take k).map strV))∧Hid (RowAt wr w.heap.size 27 (sC r m (.slice a0 Q.length c0) d x))∧Hid (RowAt wr (w.heap.size+1) 27 z5)∧Hid (RowAt wr (w.heap.size+2) 27 (sC r m (.slice a n c) d x))∧Hid (Below w.heap.size w wr)) (fun i _=>Q.length-(intOf i).toNat)
 case atStart=>exact ⟨0,none,0,0,[],by omega,rfl,by unfold Hid;rw [List.take_zero];exact Fd.Own2.nil _ _,HR0,HR1,HR2,HB2⟩
 case round=>
  obtain ⟨k,a,n,c,xs,hk,rfl,ho,hr0,hr1,hr2,hb⟩:=hrel;clear HR0 HR1 HR2 HB2;obtain ⟨k0,k1,k2,k3,k4⟩:=Fd.five_at hr0.out;have hl0:=hr0.out.lt;have hl2:=hr2.out.lt;by_cases hlt:k<Q.length
  ·obtain ⟨A,cap,p,b,off,kk,e1,e2,e3,e4,e5,e6⟩:=HQ.out.at_ k hlt;injection e1 with e1 e1' e1'';subst e1 e1'';clear e1';have hT:(Q[k]).length≤1000:=(HS.out.2 _ (List.getElem_mem hlt)).1;have hrows:((Q.take k).map strV).length=k:=by rw [List.length_map,List.length_take];omega
   have hA:A<wr.heap.size:=Nat.lt_of_lt_of_le e2 hb.out.size;have cA:wr.cell? ⟨A,k,none⟩=some (.slice p (Q[k]).length kk):=(hb.out.cell (p:=⟨A,k,none⟩) e2).trans e3;obtain ⟨a1,c1,wA,a2,c2,wB,run1,bA,run2,oB,gB⟩:=copy_one ho.out (zdb e4 hb.out) e5 (by omega) (by omega) hb.out.size;rw [hrows] at run2 oB;have hrows2:(Q.take k).map strV++ [strV Q[k]]=(Q.take (k+1)).map strV:=by
    rw [List.take_succ_eq_append_getElem hlt,List.map_append];rfl
   rw [hrows2] at oB;have n0:some w.heap.size≠(Value.slice a n c).ownBlock:=Hp.own_ne ho.out.outer hr0.out (by decide);have n1:some (w.heap.size+1)≠(Value.slice a n c).ownBlock:=Hp.own_ne ho.out.outer hr1.out (by decide);have n2:some (w.heap.size+2)≠(Value.slice a n c).ownBlock:=Hp.own_ne ho.out.outer hr2.out (by decide);have rB0:RowAt wB w.heap.size 27 (sC r m (.slice (some ⟨A,0,none⟩) Q.length c0) d x):=(gB.block _ hl0 n0).trans hr0.out;have rB1:RowAt wB (w.heap.size+1) 27 z5:=(gB.block _ hr1.out.lt n1).trans hr1.out;have rB2:RowAt wB (w.heap.size+2) 27 (sC r m (.slice a n c) d x):=(gB.block _ hl2 n2).trans hr2.out;have HO3:Hid (Fd.Own2 (wB.setCell ⟨w.heap.size+2,2,none⟩ (.slice a2 (k+1) c2)) w.heap.size (.slice a2 (k+1) c2) (xs++ [.slice a1 (Q[k]).length c1]) ((Q.take (k+1)).map strV)):=Own2_other oB rB2 (by decide) (by decide) (fun q _ hq=>Below.heap_setCell _ _ _ _ hq);have HR03:Hid (RowAt (wB.setCell ⟨w.heap.size+2,2,none⟩ (.slice a2 (k+1) c2)) w.heap.size 27 (sC r m (.slice (some ⟨A,0,none⟩) Q.length c0) d x)):=(Below.heap_setCell _ _ _ _ (by simp only;omega)).trans rB0;have HR13:Hid (RowAt (wB.setCell ⟨w.heap.size+2,2,none⟩ (.slice a2 (k+1) c2)) (w.heap.size+1) 27 z5):=(Below.heap_setCell _ _ _ _ (by simp only;omega)).trans rB1;have HR23:Hid (RowAt (wB.setCell ⟨w.heap.size+2,2,none⟩ (.slice a2 (k+1) c2)) (w.heap.size+2) 27 (sC r m (.slice a2 (k+1) c2) d x)):=rB2.set 2 _;have HB3:Hid (Below w.heap.size w (wB.setCell ⟨w.heap.size+2,2,none⟩ (.slice a2 (k+1) c2))):=by
    have q1:Below w.heap.size wr wB:=⟨gB.os,gB.tape,gB.output,gB.size,fun q hq=>gB.block q (Nat.lt_of_lt_of_le hq hb.out.size) (fun e=>by
     have:=(own_lt ho.out.outer e.symm).1;omega)⟩
    exact (hb.out.trans q1).setCell (p:=⟨w.heap.size+2,2,none⟩) (by simp only;omega) _
   have z2:=hr2.out.cell 2;have z3:=rB2.cell 2;have f3:=rB2.frozen 2;simp only [List.getElem?_toArray,List.getElem?_cons_zero,List.getElem?_cons_succ] at z2 z3;have ba:Below wr.heap.size wr (wr.alloc (.cells #[] 9)):=(Below.refl _ wr).alloc (Nat.le_refl _) _;have bA2:Below wr.heap.size wr (wA.alloc (.cells #[.slice a1 (Q[k]).length c1] 28)):=bA.alloc bA.size _;have j1:(wr.alloc (.cells #[] 9)).cell? ⟨w.heap.size+2,2,none⟩=some (.slice a n c):=(ba.cell (p:=⟨w.heap.size+2,2,none⟩) hl2).trans z2;have j2:wA.cell? ⟨w.heap.size+2,2,none⟩=some (.slice a n c):=(bA.cell (p:=⟨w.heap.size+2,2,none⟩) hl2).trans z2;have j3:(wA.alloc (.cells #[.slice a1 (Q[k]).length c1] 28)).cell? ⟨w.heap.size+2,2,none⟩=some (.slice a n c):=(bA2.cell (p:=⟨w.heap.size+2,2,none⟩) hl2).trans z2;have j4:(wr.alloc (.cells #[] 9)).cell? ⟨w.heap.size,2,none⟩=some (.slice (some ⟨A,0,none⟩) Q.length c0):=(ba.cell (p:=⟨w.heap.size,2,none⟩) hl0).trans k2;have j5:(wr.alloc (.cells #[] 9)).cell? ⟨A,k,none⟩=some (.slice p (Q[k]).length kk):=(ba.cell (p:=⟨A,k,none⟩) hA).trans cA;clear ho hr0 hr1 hr2 hb rB0 rB1 rB2 oB gB bA ba bA2 e2 e3 e4 e5 e6 HQ HS hrows hrows2 n0 n1 n2;generalize (Q[k]).length=mk at*;go_wp2_with fail
   go_region_law (first
    |refine zba rfl (.tmp 23) (.tmp 28) 28 rfl (by simp [Act.eval]) (by simp [Act.eval]) run1 ?_
    |refine zba rfl (.tmp 22) (.tmp 30) 25 rfl (by simp [Act.eval]) (by simp [Act.eval]) run2 ?_)
   all_goals
    go_wp2;go_roundw
    case rel=>exact ⟨k+1,a2,k+1,c2,_,by omega,by go_num,HO3,HR03,HR13,HR23,HB3⟩
    case measure=>simp [intOf];omega
  ·obtain rfl:k=Q.length:=by omega
   obtain ⟨y0,y1,y2,y3,y4⟩:=Fd.five_at hr2.out;have hfin:=five_end hr1.out (.string r) (.bool m) (.slice a n c) (.bool d) (.bool x);obtain ⟨g0,g1,g2,g3,g4⟩:=Fd.five_at hfin;obtain ⟨m0,m1,m2,m3,m4⟩:=Fd.five_at hr1.out;have f0:=hr1.out.frozen 0;have f1:=hr1.out.frozen 1;have f2:=hr1.out.frozen 2;have f3:=hr1.out.frozen 3;have f4:=hr1.out.frozen 4;have HE:Hid (Fd.Own2 (res5 wr (.string r) (.bool m) (.slice a n c) (.bool d) (.bool x) (w.heap.size+1)) w.heap.size (.slice a n c) xs (Q.map strV)):=by
    have q1:=ho.out;rw [List.take_of_length_le (Nat.le_refl _)] at q1;exact Own2_other q1 hr1.out (by decide) (by decide) (fun q _ hq=>five_block wr _ _ _ _ _ _ q hq)
   have HB3:Hid (Below w.heap.size w (res5 wr (.string r) (.bool m) (.slice a n c) (.bool d) (.bool x) (w.heap.size+1))):=zcd hb.out _ _ _ _ _ _ (by omega);clear ho hr0 hr1 hr2 hb hfin HQ HS;go_wp2;exact bodyPost_ret (v:= .agg (sC r m (.slice a n c) d x)) (by simp [results,Tryz.results52,go_sem,g0,g1,g2,g3,g4]) rfl ⟨.slice a n c,xs,rfl,HE.out,HB3.out⟩
end Go.Proofs.YtibhabajknikcaaGreatDoor.Er
