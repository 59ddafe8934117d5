import Derived.Test.YtjpeglkkkllagaaGreatDoorC16
set_option maxHeartbeats 8000000
set_option maxRecDepth 100000
namespace Go.Proofs.YtjpeglkkkllagaaGreatDoor
open Go.RowKit Go.Sort
open Kk (str_ne str_eq)
theorem app_pair1 {w:World} {B:Nat} {V:Value} {M:List Pr} (p:Pr) (h:OwnP w B V M) (hn:M.length≤1048577) (hB:B≤w.heap.size):
  ∃v' w',(Builtin.append_ #[60,60] 60 #[V,.slice (some ⟨w.heap.size,0,none⟩) 1 1]).run Tryz.prog (w.alloc (.cells #[.string p.1,.string p.2] 109))= .ok v' w'∧OwnP w' B v' (M++ [p])∧Below B w w'∧w.grownBy w' V.ownBlock:=by
 obtain ⟨i0,hi,hz0,hz1,hz2⟩:=info_parts info33;have hbl:Below w.heap.size w (w.alloc (.cells #[.string p.1,.string p.2] 109)):=(Below.refl _ w).alloc (Nat.le_refl _) _;have oA:=zaf h hbl
 obtain ⟨v',w',hrun,hown,hg,_,hblk⟩:=run_append_own_at (P:=Tryz.prog) (w.alloc (.cells #[.string p.1,.string p.2] 109)) B 60 60 109 i0 _ 2 32 Tryz.underlying60 hi hz0 hz1 hz2 rfl (by decide) V M.length (flatPV M) oA ⟨w.heap.size,0,none⟩ 1 1 [.string p.1,.string p.2] rfl (fun j u hj=>by
  rw [Addr.add_lit,Nat.zero_add];exact ((RowAt.new w 109 #[.string p.1,.string p.2]).cell j).trans (by simpa using hj)) (fun u hu=>by simp at hu;rcases hu with rfl|rfl<;>rfl) (by unfold maxLen;omega) (by omega) (by simp;omega)
 refine ⟨v',w',hrun,?_,below_own (Below.refl _ w) hB h hg,?_⟩
 ·have e:flatPV (M++ [p])=flatPV M++ [.string p.1,.string p.2]:=by unfold flatPV;rw [List.flatMap_append];rfl
  unfold OwnP;rw [List.length_append,e];exact hown
 ·have hs:(w.alloc (.cells #[.string p.1,.string p.2] 109)).heap.size=w.heap.size+1:=by simp
  have h2:=hg.size;exact ⟨hg.os,hg.tape,hg.output,by omega,fun k hk hr=> (hg.block k (by omega) hr).trans (Below.heap_alloc _ _ _ (by omega))⟩
structure PI (w:World) (v:Value) (wr:World) (M:List Pr):Prop where
 own:OwnP wr w.heap.size v M
 bel:Below w.heap.size w wr
theorem PI.start (w:World):PI w (.slice (some ⟨w.heap.size,0,none⟩) 0 0) (w.alloc (.cells #[] 109)) []:=
 ⟨empty_own (RowAt.new w 109 #[]) (Nat.le_refl _),(Below.refl _ w).alloc (Nat.le_refl _) _⟩
theorem PI.next {w wr:World} {v:Value} {M:List Pr} (h:PI w v wr M) (x y:ByteArray) (hn:M.length≤1048577):
  ∃v' w1,(Builtin.append_ #[60,60] 60 #[v,.slice (some ⟨wr.heap.size,0,none⟩) 1 1]).run Tryz.prog (wr.alloc (.cells #[.string x,.string y] 109))= .ok v' w1∧PI w v' w1 (M++ [(x,y)]):=by
 obtain ⟨v',w1,r1,o1,b1,_⟩:=app_pair1 (x,y) h.own hn h.bel.size;exact ⟨v',w1,r1,o1,h.bel.trans b1⟩
def geS (x nm:ByteArray):Bool:=!Op.bytesLess x.toList nm.toList
def putStep (nm tx:ByteArray) (s:List Pr×Bool) (x:Pr):List Pr×Bool:=
 if x.1=nm then (if (!s.2&&geS x.1 nm)=true then (s.1++ [(nm,tx)],true) else s)
 else (if (!s.2&&geS x.1 nm)=true then (s.1++ [(nm,tx)]++ [x],true) else (s.1++ [x],s.2))
def putS (nm tx:ByteArray) (ps:List Pr):List Pr×Bool:=ps.foldl (putStep nm tx) ([],false)
def putPairs (ps:List Pr) (nm tx:ByteArray):List Pr:=if (putS nm tx ps).2=true then (putS nm tx ps).1 else (putS nm tx ps).1++ [(nm,tx)]
theorem put_next (nm tx:ByteArray) (T:List Pr) (i:Nat) (h:i<T.length):putS nm tx (T.take (i+1))=putStep nm tx (putS nm tx (T.take i)) (T.getD i (bz,bz)):=by
 unfold putS;rw [List.take_succ_eq_append_getElem h,List.foldl_append];rw [show (T.getD i (bz,bz))=T[i] by rw [List.getD_eq_getElem?_getD,List.getElem?_eq_getElem h];rfl];rfl
def PairsEnd (w:World) (ps:List Pr) (e:Ending) (w':World):Prop:=∃v,e= .returned v∧OwnP w' w.heap.size v ps∧Below w.heap.size w w'
theorem put_any (a:Option Addr) (b n c:Nat) (T:List Pr) (nm tx:ByteArray) (w:World) (h:PairsIn w a b n T) (hn:n≤500000):
  Calls Tryz.prog 127 #[.slice a n c,.string nm,.string tx] w (PairsEnd w (putPairs T nm tx)):=by
 have H:Hid (PairsIn w a b n T):=h;have HL:Hid (T.length=n):=h.len;have HS:Hid (PI w _ _ []):=PI.start w;have HEND:Hid (∀v wr M,PI w v wr M→M=putPairs T nm tx→PairsEnd w (putPairs T nm tx) (.returned v) wr):=fun v wr M hI hM=>⟨v,rfl,by rw [←hM];exact hI.own,hI.bel⟩;have HST:Hid (putPairs T nm tx=if (putS nm tx T).2=true then (putS nm tx T).1 else (putS nm tx T).1++ [(nm,tx)]):=rfl;generalize putPairs T nm tx=G at*;clear h;go_enter Tryz.func127,Tryz.ntmps127;go_wp2;go_loopw [7,8,9] (fun v d i wr=>∃(k:Nat) (M:List Pr) (dn:Bool),k≤n∧i= .int .i64 k∧d= .bool dn∧M.length≤2*k∧Hid (putS nm tx (T.take k)=(M,dn))∧Hid (PI w v wr M)) (fun _ _ i _=>n-(intOf i).toNat)
 case atStart=>exact ⟨0,[],false,by omega,rfl,rfl,by simp,rfl,HS⟩
 case round=>
  obtain ⟨k,M,dn,hk,rfl,rfl,hml,hM,hI⟩:=hrel;clear HS;by_cases hlt:k<n
  ·have HB:Hid (∀W,Below w.heap.size w W→W.cell? ⟨b,k*2,none⟩=some (.string (T.getD k (bz,bz)).1)∧W.cell? ⟨b,k*2+1,none⟩=some (.string (T.getD k (bz,bz)).2)):=fun W hb=>⟨(H.out.below hb).c0 k hlt,(H.out.below hb).c1 k hlt⟩;obtain rfl:=H.out.addr (by omega);have HN:Hid (putS nm tx (T.take (k+1))=putStep nm tx (M,dn) (T.getD k (bz,bz))):=by unfold Hid;rw [put_next nm tx T k (by rw [HL.out];exact hlt),hM.out]
   clear hM HEND HST;generalize T.getD k (bz,bz)=x at*;obtain ⟨xn,xt⟩:=x;dsimp only at HB;have HGE:Hid (geS xn nm=!Op.bytesLess xn.toList nm.toList):=rfl;obtain ⟨c0,c1⟩:=HB.out wr hI.out.bel;cases dn with
   |true=>
    by_cases he:xn=nm
    ·have HI2:Hid _:=hI.out;have HM2:Hid (putS nm tx (T.take (k+1))=(M,true)):=by unfold Hid;rw [HN.out];unfold putStep;rw [if_pos he];rfl
     have hd:=True.intro;subst he;clear HN hI HB;go_wp2;exact ⟨⟨k+1,_,_,by omega,by go_num,rfl,by omega,HM2,HI2⟩,by simp [intOf];omega⟩
    ·obtain ⟨v2,w2,r2,hI2⟩:=hI.out.next xn xt (by omega);have R2:Hid _:=r2;have HI2:Hid _:=hI2;have HM2:Hid (putS nm tx (T.take (k+1))=((M++ [(xn,xt)]),true)):=by unfold Hid;rw [HN.out];unfold putStep;rw [if_neg he];rfl
     have hd:=str_ne he;clear HN hI HB r2 hI2;go_wp2_with (first|(at_builtin;refine wpList_append_run rfl _ _ 60 rfl rfl rfl R2.out ?_));exact ⟨⟨k+1,_,_,by omega,by go_num,rfl,by simp;omega,HM2,HI2⟩,by simp [intOf];omega⟩
   |false=>
    cases hge:geS xn nm with
    |false=>
     have HG1:Hid (geS xn nm=false):=hge;have hls:Op.bytesLess xn.toList nm.toList=true:=by rw [HGE.out] at hge;simpa using hge
     clear hge;by_cases he:xn=nm
     ·have HI2:Hid _:=hI.out;have HM2:Hid (putS nm tx (T.take (k+1))=(M,false)):=by unfold Hid;rw [HN.out];unfold putStep;rw [if_pos he];rw [HG1.out];rfl
      have hd:=True.intro;subst he;clear HN hI HB;go_wp2;exact ⟨⟨k+1,_,_,by omega,by go_num,rfl,by omega,HM2,HI2⟩,by simp [intOf];omega⟩
     ·obtain ⟨v2,w2,r2,hI2⟩:=hI.out.next xn xt (by omega);have R2:Hid _:=r2;have HI2:Hid _:=hI2;have HM2:Hid (putS nm tx (T.take (k+1))=((M++ [(xn,xt)]),false)):=by unfold Hid;rw [HN.out];unfold putStep;rw [if_neg he];rw [HG1.out];rfl
      have hd:=str_ne he;clear HN hI HB r2 hI2;go_wp2_with (first|(at_builtin;refine wpList_append_run rfl _ _ 60 rfl rfl rfl R2.out ?_));exact ⟨⟨k+1,_,_,by omega,by go_num,rfl,by simp;omega,HM2,HI2⟩,by simp [intOf];omega⟩
    |true=>
     have HG1:Hid (geS xn nm=true):=hge;have hls:Op.bytesLess xn.toList nm.toList=false:=by rw [HGE.out] at hge;simpa using hge
     clear hge;by_cases he:xn=nm
     ·obtain ⟨v1,w1,r1,hI1⟩:=hI.out.next nm tx (by omega);have R1:Hid _:=r1;obtain ⟨d0,d1⟩:=HB.out w1 hI1.bel;have HI2:Hid _:=hI1;have HM2:Hid (putS nm tx (T.take (k+1))=((M++ [(nm,tx)]),true)):=by unfold Hid;rw [HN.out];unfold putStep;rw [if_pos he];rw [HG1.out];rfl
      have hd:=True.intro;subst he;clear HN hI HB r1 hI1;go_wp2_with (first|(at_builtin;refine wpList_append_run rfl _ _ 60 rfl rfl rfl R1.out ?_));exact ⟨⟨k+1,_,_,by omega,by go_num,rfl,by simp;omega,HM2,HI2⟩,by simp [intOf];omega⟩
     ·obtain ⟨v1,w1,r1,hI1⟩:=hI.out.next nm tx (by omega);have R1:Hid _:=r1;obtain ⟨d0,d1⟩:=HB.out w1 hI1.bel;obtain ⟨v2,w2,r2,hI2⟩:=hI1.next xn xt (by simp;omega);have R2:Hid _:=r2;have HI2:Hid _:=hI2;have HM2:Hid (putS nm tx (T.take (k+1))=(((M++ [(nm,tx)])++ [(xn,xt)]),true)):=by unfold Hid;rw [HN.out];unfold putStep;rw [if_neg he];rw [HG1.out];rfl
      have hd:=str_ne he;clear HN hI HB r1 r2 hI2 hI1;go_wp2_with (first|(at_builtin;refine wpList_append_run rfl _ _ 60 rfl rfl rfl R1.out ?_)|(at_builtin;refine wpList_append_run rfl _ _ 60 rfl rfl rfl R2.out ?_));exact ⟨⟨k+1,_,_,by omega,by go_num,rfl,by simp;omega,HM2,HI2⟩,by simp [intOf];omega⟩
  ·obtain rfl:k=n:=by omega
   have e1:T.take k=T:=List.take_of_length_le (by rw [HL.out];exact Nat.le_refl _);rw [e1] at hM;cases dn with
   |true=>
    have HE:Hid (PairsEnd w G (.returned u7) wr):=HEND.out u7 wr M hI.out (by rw [HST.out,hM.out];rfl);clear hM hI e1 HEND HST;go_wp2;go_ret;exact HE.out
   |false=>
    obtain ⟨v',w1,r1,hI2⟩:=hI.out.next nm tx (by omega);have R1:Hid _:=r1;have HE:Hid (PairsEnd w G (.returned v') w1):=HEND.out v' w1 _ hI2 (by rw [HST.out,hM.out];rfl);clear hM hI e1 HEND HST r1 hI2;go_wp2_with (at_builtin;refine wpList_append_run rfl _ _ 60 rfl rfl rfl R1.out ?_);go_ret;exact HE.out
end Go.Proofs.YtjpeglkkkllagaaGreatDoor
