import Derived.Test.YtokafonppgppdaaGreatDoorR32
import Derived.Test.YtokafonppgppdaaGreatDoorC36
import Derived.Shelf.Spec.SlicesInsert
set_option maxHeartbeats 4000000
set_option maxRecDepth 100000
namespace Go.Proofs.YtokafonppgppdaaGreatDoor.Rb
open Tryz
open _root_.ByteArray (empty)
open Go.RowKit Go.Maps
open Ri (za3 RK UpK zao zbb zlj zi6 zhd kvA z7 zb0 zdv zcp zez)
variable {w:World} {B i cap g:Nat} {V:Value} {P:Program} {ps X:List Pr} {p:Pr} {nm tx:ByteArray} {e:Ending}
theorem yhp (x y:ByteArray):(x.toList==y.toList)=decide (x=y):=by
 rw [Bool.eq_iff_iff,beq_iff_eq,decide_eq_true_iff,ByteArray.toList_eq,ByteArray.toList_eq];exact ⟨fun e=>ByteArray.ext (Array.toList_inj.1 e),fun e=>by rw [e]⟩
theorem yc3 (a:Option Addr) (b o n c:Nat) (X:List ByteArray) (s:ByteArray) (w:World) (h:zdg w a b o n X) (hn:n<=1048576):
  Calls prog 301 #[.slice a n c,.string s] w fun e w'=> (∃r:Int,e= .returned (.int .i64 r)/\(0<=r↔s∈X))/\w'=w:=by
 have H:=hid h;have HL:=hid h.len;clear h;go_enter func301,ntmps301;go_wp2;go_loop [8] (fun i=>∃k:Nat,k<=n/\i= .int .i64 k/\Hid (∀j,j<k->X.getD j empty≠s)) (fun i=>n-(intOf i).toNat)
 case atStart=>exact ⟨0,by omega,rfl,fun j hj=>by omega⟩
 case round=>
  obtain ⟨k,hk,rfl,hp⟩:=hrel;by_cases hlt:k<n
  ·have c0:=H.out.cell k hlt;have hkl:k<X.length:=by rw [HL.out];exact hlt
   have HM:Hid (X.getD k empty∈X):=by unfold Hid;rw [Qa,Qd hkl];exact Qv hkl
   obtain rfl:=H.out.addr (by omega);have HP:Hid (X.getD k empty≠s->∀j,j<k+1->X.getD j empty≠s):=fun h j hj=>by
    by_cases e:j=k
    ·subst e;exact h
    ·exact hp.out j (by omega)
   have hbq:=yhp s (X.getD k empty);clear hp;generalize X.getD k empty=x at*;by_cases hx:s=x
   ·rw [Qe hx] at hbq;have HF:Hid (0<=(k:Int)↔s∈X):=⟨fun _=>by rw [hx];exact HM.out,fun _=>by omega⟩;have hki:(k:Int)<(n:Int):=by omega
    clear hx HP HM;go_wp2;go_ret;exact ⟨⟨k,rfl,HF.out⟩,rfl⟩
   ·rw [Qf hx] at hbq;have HP2:=hid (HP.out (fun e=>hx e.symm));have hki:(k:Int)<(n:Int):=by omega
    clear hx HP HM;go_wp2;go_round
    case rel=>exact ⟨k+1,by omega,by go_num,HP2⟩
    case measure=>simp [intOf];omega
  ·obtain rfl:k=n:=by omega
   have HF:Hid (0<=(-1:Int)↔s∈X):=by
    refine ⟨fun h=>by omega,fun h=>?_⟩;obtain ⟨j,hj,e⟩:=List.getElem_of_mem h;have:=hp.out j (by rw [<-HL.out];exact hj);rw [Qa,Qd hj] at this;exact absurd e this
   clear hp;go_wp2;go_ret;exact ⟨⟨-1,rfl,HF.out⟩,rfl⟩
theorem zj6 (s:ByteArray):∀X:List ByteArray,X.contains s=true↔s∈X
 | []=>by simp
 |x::r=>by rw [List.contains_cons,Bool.or_eq_true,zu5,decide_eq_true_iff,zj6 s r,List.mem_cons]
theorem zmi (a:Option Addr) (b o n c:Nat) (X:List ByteArray) (s:ByteArray) (w:World) (h:zdg w a b o n X) (hn:n<=1048576):
  Calls prog 278 #[.slice a n c,.string s] w fun e w'=>e= .returned (.bool (X.contains s))/\w'=w:=by
 have HI:=hid (yc3 a b o n c X s w h hn);clear h;go_enter func278,ntmps278;go_wp2_with fail;refine HI.out.mono ?_;rintro e w1 ⟨⟨r,rfl,hr⟩,e1⟩;subst e1;have HF:Hid (decide (0<=r)=X.contains s):=by
  unfold Hid;rw [Bool.eq_iff_iff,decide_eq_true_iff,hr,zj6]
 clear hr HI;go_wp2;go_ret;exact ⟨by rw [<-HF.out];rfl,rfl⟩
theorem zq9 {M:List Kk.Rk} (x:Kk.Rk) (h:Kk.za9 w B V M) (hn:M.length<=1048577) (hB:B<=w.heap.size):
  ∃v' w',(Builtin.append_ #[43,43] 43 #[V,.slice (some ⟨w.heap.size,0,none⟩) 1 1]).run prog (w.alloc (.cells #[.string x.m,.int .i64 x.s] 147))= .ok v' w'/\Kk.za9 w' B v' (M++ [x])/\Below B w w'/\w.grownBy w' V.ownBlock:=by
 obtain ⟨i0,hi,hz0,hz1,hz2⟩:=info_parts Kk.zk2;have hbl:Bl w (w.alloc (.cells #[.string x.m,.int .i64 x.s] 147)):=(Qb _ w).alloc (Qc _) _;have oA:=zaf h hbl
 obtain ⟨v',w',hrun,hown,hg,_,hblk⟩:=run_append_own_at (P:=prog) (w.alloc (.cells #[.string x.m,.int .i64 x.s] 147)) B 43 43 147 i0 _ 2 24 underlying43 hi hz0 hz1 hz2 rfl (by decide) V M.length (Kk.zbk M) oA ⟨w.heap.size,0,none⟩ 1 1 [.string x.m,.int .i64 x.s] rfl (fun j u hj=>by
  rw [Addr.add_lit,Qq];exact ((zab.new w 147 #[.string x.m,.int .i64 x.s]).cell j).trans (by simpa using hj)) (fun u hu=>by simp at hu;rcases hu with rfl|rfl<;>rfl) (by unfold maxLen;omega) (by omega) (by simp;omega)
 refine ⟨v',w',hrun,?_,zdd (Qb _ w) hB h hg,?_⟩
 ·have e:Kk.zbk (M++ [x])=Kk.zbk M++ [.string x.m,.int .i64 x.s]:=by unfold Kk.zbk;rw [List.flatMap_append];rfl
  unfold Kk.za9;rw [Qi,e];exact hown
 ·have hs:(w.alloc (.cells #[.string x.m,.int .i64 x.s] 147)).heap.size=w.heap.size+1:=by simp
  exact ⟨hg.os,hg.tape,hg.output,by have:=hg.size;omega,fun k hk hne=> (hg.block k (by omega) hne).trans (hbl.block k hk)⟩
theorem yau (x:Pr) (w:World):Calls prog 252 #[.agg #[.string x.1,.string x.2]] w fun e w'=>e= .returned (.string x.1)/\Bl w w':=by
 obtain ⟨W0,hW0,HW0,b0,q0⟩:=boxed w #[.string x.1,.string x.2] 145;have c0:=q0.cell 0;have HB:=hid b0;simp only [Qm,Qk] at c0;clear b0 q0;go_enter func252,ntmps252;go_wp2;go_ret;exact ⟨rfl,HB.out⟩
theorem zo2 (a:Option Addr) (b n c:Nat) (ps:List Pr) (xa:Option Addr) (xb xo xn xc:Nat) (X:List ByteArray) (w:World) (h:za6 w a b n ps) (hx:zdg w xa xb xo xn X) (hn:n<=1000) (hxn:xn<=1000):
  Calls prog 251 #[.slice a n c,.slice xa xn xc,.func (.func 252) #[] #[]] w fun e w'=>∃v,e= .returned v/\zd2 w' w.heap.size v (ps.filter fun p=>!(X.contains p.1))/\Bl w w':=by
 have H:=hid h;have HL:=hid h.len;have HX:=hid hx;have HC:=hid fun W t (hb:Bl w W)=>zmi xa xb xo xn xc X t W (zdb hx hb) (by omega);have HN:Hid (∀W (x:Pr),Cp 252 #[.agg #[.string x.1,.string x.2]] W fun e w'=>e= .returned (.string x.1)/\Bl W w'):=fun W x=>yau x W;have HS:Hid (zd2 w w.heap.size (.slice none 0 0) ((ps.take 0).filter fun p=>!(X.contains p.1))/\Bl w w):=⟨World.ownsRow_nil _ _ _ _,Qb _ _⟩;clear h hx;go_enter func251,ntmps251;go_wp2;go_loopw [7,12] (fun v i wr=>∃k:Nat,k<=n/\i= .int .i64 k/\Hid (zd2 wr w.heap.size v ((ps.take k).filter fun p=>!(X.contains p.1))/\Bl w wr)) (fun _ i _=>n-(intOf i).toNat)
 case atStart=>exact ⟨0,by omega,rfl,HS⟩
 case round=>
  obtain ⟨k,hk,rfl,hI⟩:=hrel;clear HS;by_cases hlt:k<n
  ·have hbw:=hI.out.2;have hkl:k<ps.length:=by rw [HL.out];exact hlt
   have d0:=(H.out.bw hbw).c0 k hlt;have d1:=(H.out.bw hbw).c1 k hlt;obtain rfl:=H.out.addr (by omega);obtain ⟨x,hxx⟩:∃x,ps.getD k (bz,bz)=x:=⟨_,rfl⟩;rw [hxx] at d0 d1;have HTK:Hid ((ps.take (k+1)).filter (fun p=>!(X.contains p.1))=(ps.take k).filter (fun p=>!(X.contains p.1))++if X.contains x.1=true then [] else [x]):=by
    unfold Hid;rw [Qo hkl,List.filter_append];have e:ps[k]=x:=by rw [<-hxx,Qa,Qd hkl];rfl
    rw [e];cases hc:X.contains x.1 with
    |true=>rw [if_pos rfl,List.filter_cons_of_neg (by rw [hc];simp)];rfl
    |false=>rw [if_neg (by simp),List.filter_cons_of_pos (by rw [hc];rfl)];rfl
   clear hxx;obtain ⟨W0,hW0,HW0,b0,q0⟩:=boxed wr #[.string ⟨#[]⟩,.string ⟨#[]⟩] 145;have rc1:=q0.set 0 (.string x.1);have rc2:=rc1.set 1 (.string x.2);have hl:=Qc wr.heap.size;have b4:Bl wr ((W0.setCell ⟨wr.heap.size,0,none⟩ (.string x.1)).setCell ⟨wr.heap.size,1,none⟩ (.string x.2)):=(b0.setCell hl _).setCell hl _;obtain ⟨W4,hW4⟩:∃W4,(W0.setCell ⟨wr.heap.size,0,none⟩ (.string x.1)).setCell ⟨wr.heap.size,1,none⟩ (.string x.2)=W4:=⟨_,rfl⟩;rw [hW4] at rc2 b4;have y0:=q0.cell 0;have y1:=q0.cell 1;have z0:=q0.frozen 0;have z1:=q0.frozen 1;have u0:=rc2.cell 0;have u1:=rc2.cell 1;simp only [Qm,Qk,Ql] at y0 y1 u0 u1;have HW:Hid (∀W5,Bl W4 W5->(zd2 W5 w.heap.size u7 ((ps.take k).filter (fun p=>!(X.contains p.1)))/\Bl w W5)/\W5.cell? ⟨wr.heap.size,0,none⟩=some (.string x.1)/\W5.cell? ⟨wr.heap.size,1,none⟩=some (.string x.2)):=fun W5 hb=>by
    have b5:=b4.trans (hb.mono b4.size);have r5:=rc2.bw hb rc2.lt;exact ⟨⟨zaf hI.out.1 b5,hI.out.2.trans (b5.mono hI.out.2.size)⟩,r5.cell 0,r5.cell 1⟩
   have hfl:((ps.take k).filter (fun p=>!(X.contains p.1))).length<=1048577:=Qj (Qt _ _) (by rw [Qn];omega);have HCX:Hid (∀W,Bl w W->Cp 278 #[.slice xa xn xc,.string (x.1)] W fun e w'=>e= .returned (.bool (X.contains (x.1)))/\w'=W):=fun W hb=>HC.out W _ hb;have HNX:=hid fun W=>HN.out W x;clear rc1 rc2 b0 q0 b4 hbw hI;generalize hcc:X.contains x.1=cc at*;have hki:(k:Int)<(n:Int):=by omega
   clear hcc;cases cc with
   |true=>
    rw [if_pos rfl,List.append_nil] at HTK;go_wp2_with fail;refine (HNX.out _).mono ?_;rintro e w5 ⟨rfl,b5⟩;have H5:Hid _:=HW.out w5 b5;clear b5 HNX HW;go_wp2_with fail;refine (HCX.out _ H5.out.1.2).mono ?_;rintro e w6 ⟨rfl,e6⟩;subst e6;clear HCX;go_wp2;go_round
    case rel=>exact ⟨k+1,by omega,by go_num,by rw [HTK.out];exact H5.out.1⟩
    case measure=>simp [intOf];omega
   |false=>
    rw [if_neg (by simp)] at HTK;go_wp2_with fail;refine (HNX.out _).mono ?_;rintro e w5 ⟨rfl,b5⟩;have H5:Hid _:=HW.out w5 b5;obtain ⟨v',w7,hrun,ho7,hb7,-⟩:=zqm x H5.out.1.1 hfl H5.out.1.2.size;have R7:Hid _:=hrun;have H7:Hid (zd2 w7 w.heap.size v' ((ps.take (k+1)).filter (fun p=>!(X.contains p.1)))/\Bl w w7):=by
     rw [HTK.out];exact ⟨ho7,H5.out.1.2.trans hb7⟩
    obtain ⟨v0,v1⟩:=H5.out.2;clear b5 HNX HW hrun ho7 hb7;go_wp2_with fail;refine (HCX.out _ H5.out.1.2).mono ?_;rintro e w6 ⟨rfl,e6⟩;subst e6;clear HCX;go_wp2_with (at_builtin;refine wpList_append_run rfl _ _ 42 rfl rfl rfl R7.out ?_);exact ⟨⟨k+1,by omega,by go_num,H7⟩,by simp [intOf];omega⟩
  ·obtain rfl:k=n:=by omega
   have HF:Hid (zd2 wr w.heap.size u7 (ps.filter (fun p=>!(X.contains p.1)))/\Bl w wr):=by
    have:=hI.out;rwa [<-HL.out,List.take_length] at this
   clear hI;go_wp2;go_ret;exact ⟨_,rfl,HF.out⟩
theorem ztk (x:Kk.Rk) (w:World):Calls prog 257 #[.agg #[.string x.m,.int .i64 x.s]] w fun e w'=>e= .returned (.string x.m)/\Bl w w':=by
 obtain ⟨W0,hW0,HW0,b0,q0⟩:=boxed w #[.string x.m,.int .i64 x.s] 147;have c0:=q0.cell 0;have HB:=hid b0;simp only [Qm,Qk] at c0;clear b0 q0;go_enter func257,ntmps257;go_wp2;go_ret;exact ⟨rfl,HB.out⟩
theorem zo4 (a:Option Addr) (b n c:Nat) (ps:List Kk.Rk) (xa:Option Addr) (xb xo xn xc:Nat) (X:List ByteArray) (w:World) (h:Kk.zdh w a b 0 n ps) (hx:zdg w xa xb xo xn X) (hn:n<=1000) (hxn:xn<=1000):
  Calls prog 256 #[.slice a n c,.slice xa xn xc,.func (.func 257) #[] #[]] w fun e w'=>∃v,e= .returned v/\Kk.za9 w' w.heap.size v (ps.filter fun p=>!(X.contains p.m))/\Bl w w':=by
 have H:=hid h;have HL:=hid h.len;have HX:=hid hx;have HC:=hid fun W t (hb:Bl w W)=>zmi xa xb xo xn xc X t W (zdb hx hb) (by omega);have HN:Hid (∀W (x:Kk.Rk),Cp 257 #[.agg #[.string x.m,.int .i64 x.s]] W fun e w'=>e= .returned (.string x.m)/\Bl W w'):=fun W x=>ztk x W;have HS:Hid (Kk.za9 w w.heap.size (.slice none 0 0) ((ps.take 0).filter fun p=>!(X.contains p.m))/\Bl w w):=⟨World.ownsRow_nil _ _ _ _,Qb _ _⟩;clear h hx;go_enter func256,ntmps256;go_wp2;go_loopw [7,12] (fun v i wr=>∃k:Nat,k<=n/\i= .int .i64 k/\Hid (Kk.za9 wr w.heap.size v ((ps.take k).filter fun p=>!(X.contains p.m))/\Bl w wr)) (fun _ i _=>n-(intOf i).toNat)
 case atStart=>exact ⟨0,by omega,rfl,HS⟩
 case round=>
  obtain ⟨k,hk,rfl,hI⟩:=hrel;clear HS;by_cases hlt:k<n
  ·have hbw:=hI.out.2;have hkl:k<ps.length:=by rw [HL.out];exact hlt
   have d0:=((H.out.bw hbw).cell k hlt).c0;have d1:=((H.out.bw hbw).cell k hlt).c1;rw [Qq] at d0 d1;obtain rfl:=H.out.addr (by omega);obtain ⟨x,hxx⟩:∃x,ps.getD k Kk.rk0=x:=⟨_,rfl⟩;rw [hxx] at d0 d1;have HTK:Hid ((ps.take (k+1)).filter (fun p=>!(X.contains p.m))=(ps.take k).filter (fun p=>!(X.contains p.m))++if X.contains x.m=true then [] else [x]):=by
    unfold Hid;rw [Qo hkl,List.filter_append];have e:ps[k]=x:=by rw [<-hxx,Qa,Qd hkl];rfl
    rw [e];cases hc:X.contains x.m with
    |true=>rw [if_pos rfl,List.filter_cons_of_neg (by rw [hc];simp)];rfl
    |false=>rw [if_neg (by simp),List.filter_cons_of_pos (by rw [hc];rfl)];rfl
   clear hxx;obtain ⟨W0,hW0,HW0,b0,q0⟩:=boxed wr #[.string ⟨#[]⟩,.int .i64 0] 147;have rc1:=q0.set 0 (.string x.m);have rc2:=rc1.set 1 (.int .i64 x.s);have hl:=Qc wr.heap.size;have b4:Bl wr ((W0.setCell ⟨wr.heap.size,0,none⟩ (.string x.m)).setCell ⟨wr.heap.size,1,none⟩ (.int .i64 x.s)):=(b0.setCell hl _).setCell hl _;obtain ⟨W4,hW4⟩:∃W4,(W0.setCell ⟨wr.heap.size,0,none⟩ (.string x.m)).setCell ⟨wr.heap.size,1,none⟩ (.int .i64 x.s)=W4:=⟨_,rfl⟩;rw [hW4] at rc2 b4;have y0:=q0.cell 0;have y1:=q0.cell 1;have z0:=q0.frozen 0;have z1:=q0.frozen 1;have u0:=rc2.cell 0;have u1:=rc2.cell 1;simp only [Qm,Qk,Ql] at y0 y1 u0 u1;have HW:Hid (∀W5,Bl W4 W5->(Kk.za9 W5 w.heap.size u7 ((ps.take k).filter (fun p=>!(X.contains p.m)))/\Bl w W5)/\W5.cell? ⟨wr.heap.size,0,none⟩=some (.string x.m)/\W5.cell? ⟨wr.heap.size,1,none⟩=some (.int .i64 x.s)):=fun W5 hb=>by
    have b5:=b4.trans (hb.mono b4.size);have r5:=rc2.bw hb rc2.lt;exact ⟨⟨zaf hI.out.1 b5,hI.out.2.trans (b5.mono hI.out.2.size)⟩,r5.cell 0,r5.cell 1⟩
   have hfl:((ps.take k).filter (fun p=>!(X.contains p.m))).length<=1048577:=Qj (Qt _ _) (by rw [Qn];omega);have HCX:Hid (∀W,Bl w W->Cp 278 #[.slice xa xn xc,.string (x.m)] W fun e w'=>e= .returned (.bool (X.contains (x.m)))/\w'=W):=fun W hb=>HC.out W _ hb;have HNX:=hid fun W=>HN.out W x;clear rc1 rc2 b0 q0 b4 hbw hI;generalize hcc:X.contains x.m=cc at*;have hki:(k:Int)<(n:Int):=by omega
   clear hcc;cases cc with
   |true=>
    rw [if_pos rfl,List.append_nil] at HTK;go_wp2_with fail;refine (HNX.out _).mono ?_;rintro e w5 ⟨rfl,b5⟩;have H5:Hid _:=HW.out w5 b5;clear b5 HNX HW;go_wp2_with fail;refine (HCX.out _ H5.out.1.2).mono ?_;rintro e w6 ⟨rfl,e6⟩;subst e6;clear HCX;go_wp2;go_round
    case rel=>exact ⟨k+1,by omega,by go_num,by rw [HTK.out];exact H5.out.1⟩
    case measure=>simp [intOf];omega
   |false=>
    rw [if_neg (by simp)] at HTK;go_wp2_with fail;refine (HNX.out _).mono ?_;rintro e w5 ⟨rfl,b5⟩;have H5:Hid _:=HW.out w5 b5;obtain ⟨v',w7,hrun,ho7,hb7,-⟩:=zq9 x H5.out.1.1 hfl H5.out.1.2.size;have R7:Hid _:=hrun;have H7:Hid (Kk.za9 w7 w.heap.size v' ((ps.take (k+1)).filter (fun p=>!(X.contains p.m)))/\Bl w w7):=by
     rw [HTK.out];exact ⟨ho7,H5.out.1.2.trans hb7⟩
    obtain ⟨v0,v1⟩:=H5.out.2;clear b5 HNX HW hrun ho7 hb7;go_wp2_with fail;refine (HCX.out _ H5.out.1.2).mono ?_;rintro e w6 ⟨rfl,e6⟩;subst e6;clear HCX;go_wp2_with (at_builtin;refine wpList_append_run rfl _ _ 43 rfl rfl rfl R7.out ?_);exact ⟨⟨k+1,by omega,by go_num,H7⟩,by simp [intOf];omega⟩
  ·obtain rfl:k=n:=by omega
   have HF:Hid (Kk.za9 wr w.heap.size u7 (ps.filter (fun p=>!(X.contains p.m)))/\Bl w wr):=by
    have:=hI.out;rwa [<-HL.out,List.take_length] at this
   clear hI;go_wp2;go_ret;exact ⟨_,rfl,HF.out⟩
def zf3 (L:List KV) (nm:ByteArray) (X:List Pr):Ke:=⟨nm,⟨3,⟨#[]⟩,[],X,[]⟩,(zak L nm).key.due⟩
def zeh (L:List KV) (nm:ByteArray) (X:List Kk.Rk):Ke:=⟨nm,⟨4,⟨#[]⟩,[],[],X⟩,(zak L nm).key.due⟩
section
variable (B g b n:Nat) (now:Int) (aa:Option Addr) (ab ao ac:Nat) (L:List KV) (T:List ByteArray) (ad:Nat->Addr) (w:World)
theorem zx3 (h:zcr w B g b n now aa ab ao ac L L T) (hd:zan (L.map KV.key)=true) (hE:zhj w B ad) (hn:n<=1000) (hs:∀t∈T,t.size<=200) (hT:2<=T.length) (hT2:T.length<=16) (hac:T.length<=ac):
  Calls prog 199 #[.pointer (some ⟨g,0,none⟩)] w (zar w B g b now aa ab ao ac T ad (L.map KV.key) (za1 (L.map KV.key) (zf3 L (T.getD 0 empty) ((zak L (T.getD 0 empty)).key.val.pj.filter (fun p=>!(T.tail.contains p.1)))) (zam (((zak L (T.getD 0 empty)).key.val.pj.length:Int)-(((zak L (T.getD 0 empty)).key.val.pj.filter (fun p=>!(T.tail.contains p.1))).length:Int))))):=by
 have hz0:=zav hs 0;have hsm:=za8 hd (T.getD 0 empty);obtain ⟨a1,n1,k1,a2,n2,k2,a3,n3,k3,e1,e2,e3,hH⟩:=h.held (by omega) hz0;have hko:=(h.keyOwn (T.getD 0 empty)).pj;obtain ⟨xa,xA,xc,xe,xz⟩:=zdn hko;rw [e2] at xe;injection xe with x1 x2 x3;subst x1 x2 x3;have HH:=hid hH;have hTl:T.tail.length=T.length-1:=by simp
 have HWO:=hid fun W (hb:Bl w W)=>zo2 a2 xA (zak L (T.getD 0 empty)).key.val.pj.length k2 (zak L (T.getD 0 empty)).key.val.pj _ ab (ao+1) (T.length-1) (ac-1) T.tail W (xz.bw hb) ((h.bw hb).tail hT) (by have:=hsm.np;omega) (by omega);have HR:=hid fun W s=>za4 s W;have HC2:=hid fun W (hb:Bl w W)=>(h.bw hb).call.c2;have hfle:=Qt (fun p=>!(T.tail.contains p.1)) (zak L (T.getD 0 empty)).key.val.pj;have HLV:Hid (∀W a' c' r,Bl w W->zd2 W w.heap.size (.slice a' ((zak L (T.getD 0 empty)).key.val.pj.filter (fun p=>!(T.tail.contains p.1))).length c') ((zak L (T.getD 0 empty)).key.val.pj.filter (fun p=>!(T.tail.contains p.1)))->zbe W w.heap.size r (zam (((zak L (T.getD 0 empty)).key.val.pj.length:Int)-(((zak L (T.getD 0 empty)).key.val.pj.filter (fun p=>!(T.tail.contains p.1))).length:Int)))->Cp 244 #[.pointer (some ⟨g,0,none⟩),.iface 233 (.slice a' ((zak L (T.getD 0 empty)).key.val.pj.filter (fun p=>!(T.tail.contains p.1))).length c')] W fun e w2=>∃er,e= .returned er/\zar w B g b now aa ab ao ac T ad (L.map KV.key) (za1 (L.map KV.key) (zf3 L (T.getD 0 empty) ((zak L (T.getD 0 empty)).key.val.pj.filter (fun p=>!(T.tail.contains p.1)))) (zam (((zak L (T.getD 0 empty)).key.val.pj.length:Int)-(((zak L (T.getD 0 empty)).key.val.pj.filter (fun p=>!(T.tail.contains p.1))).length:Int)))) (.returned (.tuple #[r,er])) w2):=fun W a' c' r hb ho hr=>by
  have hE':=hE.bw (hb.mono h.le);obtain ⟨he',hA'⟩:=hE'.er 1 (.inl rfl);refine (zlc B g b n now aa ab ao ac L T W a' c' _ ((h.bw hb).gone _) (zbn ho h.le) (fun x hx k hk hxk=>?_) (by omega) (by omega) (by have:=hsm.np;have:=Qt (fun p=>!(T.tail.contains p.1)) (zak L (T.getD 0 empty)).key.val.pj;omega) hn hE'.rd he' hA').mono ?_
  ·have hxo:=(h.vals.own x (zee hx).1).pj;have:=(zaz hxo hxk).2;have:=(zaz ho hk).1;omega
  ·intro e w2 hl;have e0:=hl.1;refine ⟨_,e0,?_⟩;rw [e0] at hl;exact zdj h hd hr (hb.mono h.le) hb.size hl
 have hwr:IntKind.i64.wrap (((zak L (T.getD 0 empty)).key.val.pj.length:Int)-(((zak L (T.getD 0 empty)).key.val.pj.filter (fun p=>!(T.tail.contains p.1))).length:Int))=((zak L (T.getD 0 empty)).key.val.pj.length:Int)-(((zak L (T.getD 0 empty)).key.val.pj.filter (fun p=>!(T.tail.contains p.1))).length:Int):=by rw [IntKind.wrap_i64];have:=hsm.np;omega
 obtain rfl:=h.call.args.addr (by omega);have hm1:(1:Int)<=(T.length:Int):=by omega
 have hm2:(1:Int)<(ac:Int):=by omega
 have hm3:(T.length:Int)<=(ac:Int):=by omega
 have hm4:1<ac:=by omega
 have hm5:¬ac=1:=by omega
 clear h hd hE hn hs hH hsm e1 e2 e3 hko hTl xz;generalize za1 (L.map KV.key) (zf3 L (T.getD 0 empty) ((zak L (T.getD 0 empty)).key.val.pj.filter (fun p=>!(T.tail.contains p.1)))) (zam (((zak L (T.getD 0 empty)).key.val.pj.length:Int)-(((zak L (T.getD 0 empty)).key.val.pj.filter (fun p=>!(T.tail.contains p.1))).length:Int)))=pp at*;generalize L.map KV.key=ks,(zak L (T.getD 0 empty)).key.val.kind=kd,(zak L (T.getD 0 empty)).key.val.text=tx at*;generalize hLF:((zak L (T.getD 0 empty)).key.val.pj.filter (fun p=>!(T.tail.contains p.1)))=XF at*;generalize (zak L (T.getD 0 empty)).key.val.pj.length=il at*;clear hLF hfle;have hf:=fun W=>zld (.int .i64 kd) (.string tx) (.slice a1 n1 k1) (.slice a2 il k2) (.slice a3 n3 k3) W;generalize hmm:T.length=m at*;go_enter func199,ntmps199;go_wp2_with fail;refine (HH.out _ (Qb _ _)).mono ?_;rintro e w1 ⟨rfl,b1⟩;have HB:=hid b1;have c2:=HC2.out w1 b1;clear b1 HH HC2;go_wp2_with fail;refine (HWO.out _ HB.out).mono ?_;rintro e w2 ⟨v,rfl,o2,b2⟩;obtain ⟨a',c',e0⟩:=zad o2;subst e0;have H2:Hid (zd2 w2 w.heap.size (.slice a' XF.length c') XF/\Bl w w2):=⟨zbn o2 HB.out.size,HB.out.trans (b2.mono HB.out.size)⟩;clear o2 b2 HWO;generalize hxl:XF.length=xl at*;go_wp2_with fail;refine (HR.out _ _).mono ?_;rintro e w3 ⟨r,rfl,hr,hb⟩;have H3:=hid (HLV.out w3 a' c' r (H2.out.2.trans (hb.mono H2.out.2.size)) (by have:=zaf H2.out.1 hb;exact this) (hr.le H2.out.2.size));clear hr hb HR HLV H2;go_wp2_with fail;refine H3.out.mono ?_;rintro e w4 ⟨er,rfl,hact⟩;have HF:Hid _:=hact;clear hact H3;go_wp2;go_ret2;exact HF.out
theorem zw6 (h:zcr w B g b n now aa ab ao ac L L T) (hd:zan (L.map KV.key)=true) (hE:zhj w B ad) (hn:n<=1000) (hs:∀t∈T,t.size<=200) (hT:2<=T.length) (hT2:T.length<=16) (hac:T.length<=ac):
  Calls prog 203 #[.pointer (some ⟨g,0,none⟩)] w (zar w B g b now aa ab ao ac T ad (L.map KV.key) (za1 (L.map KV.key) (zeh L (T.getD 0 empty) ((zak L (T.getD 0 empty)).key.val.rq.filter (fun p=>!(T.tail.contains p.m)))) (zam (((zak L (T.getD 0 empty)).key.val.rq.length:Int)-(((zak L (T.getD 0 empty)).key.val.rq.filter (fun p=>!(T.tail.contains p.m))).length:Int))))):=by
 have hz0:=zav hs 0;have hsm:=za8 hd (T.getD 0 empty);obtain ⟨a1,n1,k1,a2,n2,k2,a3,n3,k3,e1,e2,e3,hH⟩:=h.held (by omega) hz0;have hko:=(h.keyOwn (T.getD 0 empty)).rq;obtain ⟨xa,xA,xc,xe,xz⟩:=Kk.zcl hko;rw [e3] at xe;injection xe with x1 x2 x3;subst x1 x2 x3;have HH:=hid hH;have hTl:T.tail.length=T.length-1:=by simp
 have HWO:=hid fun W (hb:Bl w W)=>zo4 a3 xA (zak L (T.getD 0 empty)).key.val.rq.length k3 (zak L (T.getD 0 empty)).key.val.rq _ ab (ao+1) (T.length-1) (ac-1) T.tail W (xz.bw hb) ((h.bw hb).tail hT) (by have:=hsm.nr;omega) (by omega);have HR:=hid fun W s=>za4 s W;have HC2:=hid fun W (hb:Bl w W)=>(h.bw hb).call.c2;have hfle:=Qt (fun p=>!(T.tail.contains p.m)) (zak L (T.getD 0 empty)).key.val.rq;have HLV:Hid (∀W a' c' r,Bl w W->Kk.za9 W w.heap.size (.slice a' ((zak L (T.getD 0 empty)).key.val.rq.filter (fun p=>!(T.tail.contains p.m))).length c') ((zak L (T.getD 0 empty)).key.val.rq.filter (fun p=>!(T.tail.contains p.m)))->zbe W w.heap.size r (zam (((zak L (T.getD 0 empty)).key.val.rq.length:Int)-(((zak L (T.getD 0 empty)).key.val.rq.filter (fun p=>!(T.tail.contains p.m))).length:Int)))->Cp 244 #[.pointer (some ⟨g,0,none⟩),.iface 234 (.slice a' ((zak L (T.getD 0 empty)).key.val.rq.filter (fun p=>!(T.tail.contains p.m))).length c')] W fun e w2=>∃er,e= .returned er/\zar w B g b now aa ab ao ac T ad (L.map KV.key) (za1 (L.map KV.key) (zeh L (T.getD 0 empty) ((zak L (T.getD 0 empty)).key.val.rq.filter (fun p=>!(T.tail.contains p.m)))) (zam (((zak L (T.getD 0 empty)).key.val.rq.length:Int)-(((zak L (T.getD 0 empty)).key.val.rq.filter (fun p=>!(T.tail.contains p.m))).length:Int)))) (.returned (.tuple #[r,er])) w2):=fun W a' c' r hb ho hr=>by
  have hE':=hE.bw (hb.mono h.le);obtain ⟨he',hA'⟩:=hE'.er 1 (.inl rfl);refine (zl5 B g b n now aa ab ao ac L T W a' c' _ ((h.bw hb).gone _) (zbn ho h.le) (fun x hx k hk hxk=>?_) (by omega) (by omega) (by have:=hsm.nr;have:=Qt (fun p=>!(T.tail.contains p.m)) (zak L (T.getD 0 empty)).key.val.rq;omega) (fun x hx=>by have:=hsm.rq x (List.mem_filter.1 hx).1;exact ⟨by omega,by omega⟩) hn hE'.rd he' hA').mono ?_
  ·have hxo:=(h.vals.own x (zee hx).1).rq;have:=(zaz hxo hxk).2;have:=(zaz ho hk).1;omega
  ·intro e w2 hl;have e0:=hl.1;refine ⟨_,e0,?_⟩;rw [e0] at hl;exact zdj h hd hr (hb.mono h.le) hb.size hl
 have hwr:IntKind.i64.wrap (((zak L (T.getD 0 empty)).key.val.rq.length:Int)-(((zak L (T.getD 0 empty)).key.val.rq.filter (fun p=>!(T.tail.contains p.m))).length:Int))=((zak L (T.getD 0 empty)).key.val.rq.length:Int)-(((zak L (T.getD 0 empty)).key.val.rq.filter (fun p=>!(T.tail.contains p.m))).length:Int):=by rw [IntKind.wrap_i64];have:=hsm.nr;omega
 obtain rfl:=h.call.args.addr (by omega);have hm1:(1:Int)<=(T.length:Int):=by omega
 have hm2:(1:Int)<(ac:Int):=by omega
 have hm3:(T.length:Int)<=(ac:Int):=by omega
 have hm4:1<ac:=by omega
 have hm5:¬ac=1:=by omega
 clear h hd hE hn hs hH hsm e1 e2 e3 hko hTl xz;generalize za1 (L.map KV.key) (zeh L (T.getD 0 empty) ((zak L (T.getD 0 empty)).key.val.rq.filter (fun p=>!(T.tail.contains p.m)))) (zam (((zak L (T.getD 0 empty)).key.val.rq.length:Int)-(((zak L (T.getD 0 empty)).key.val.rq.filter (fun p=>!(T.tail.contains p.m))).length:Int)))=pp at*;generalize L.map KV.key=ks,(zak L (T.getD 0 empty)).key.val.kind=kd,(zak L (T.getD 0 empty)).key.val.text=tx at*;generalize hLF:((zak L (T.getD 0 empty)).key.val.rq.filter (fun p=>!(T.tail.contains p.m)))=XF at*;generalize (zak L (T.getD 0 empty)).key.val.rq.length=il at*;clear hLF hfle;have hf:=fun W=>zjj (.int .i64 kd) (.string tx) (.slice a1 n1 k1) (.slice a2 n2 k2) (.slice a3 il k3) W;generalize hmm:T.length=m at*;go_enter func203,ntmps203;go_wp2_with fail;refine (HH.out _ (Qb _ _)).mono ?_;rintro e w1 ⟨rfl,b1⟩;have HB:=hid b1;have c2:=HC2.out w1 b1;clear b1 HH HC2;go_wp2_with fail;refine (HWO.out _ HB.out).mono ?_;rintro e w2 ⟨v,rfl,o2,b2⟩;obtain ⟨a',c',e0⟩:=zad o2;subst e0;have H2:Hid (Kk.za9 w2 w.heap.size (.slice a' XF.length c') XF/\Bl w w2):=⟨zbn o2 HB.out.size,HB.out.trans (b2.mono HB.out.size)⟩;clear o2 b2 HWO;generalize hxl:XF.length=xl at*;go_wp2_with fail;refine (HR.out _ _).mono ?_;rintro e w3 ⟨r,rfl,hr,hb⟩;have H3:=hid (HLV.out w3 a' c' r (H2.out.2.trans (hb.mono H2.out.2.size)) (by have:=zaf H2.out.1 hb;exact this) (hr.le H2.out.2.size));clear hr hb HR HLV H2;go_wp2_with fail;refine H3.out.mono ?_;rintro e w4 ⟨er,rfl,hact⟩;have HF:Hid _:=hact;clear hact H3;go_wp2;go_ret2;exact HF.out
end
open Go.RowKit Go.Maps Go.Lib
section
variable (w:World)
theorem ze5 (dT sT ty elem:TypeId) (size g o dLen dCap:Nat) (a:Addr) (sLen sCap:Nat) (cur:Array Value) (t:TypeId) (cs:List Value)
  (hu:P.underlying dT=some (.slice elem)) (hs:(P.info? elem).map (·.size)=some size)
  (hg:w.heap[g]?=some (.cells cur t (0,0))) (hn:cs.length=Nat.min sLen dLen*size)
  (hsrc:∀j v,cs[j]?=some v->w.cell? (a.add j)=some v) (hfit:o+cs.length<=cur.size) (h1:∀v∈cs,v.oneCell'=true):
  (Builtin.copy_ #[dT,sT] ty #[.slice (some ⟨g,o,none⟩) dLen dCap,.slice (some a) sLen sCap]).run P w=
   .ok (goInt (Nat.min sLen dLen)) (w.setRow g (cur.toList.take o++cs++cur.toList.drop (o+cs.length)).toArray):=by
 have hl:=run_loadCells_list (P:=P) w a cs hsrc;have hst:=run_storeCells_at P g o t cs 0 cur w hg (by simpa using hfit) h1;cases hq:P.info? elem with
 |none=>simp [hq] at hs
 |some i=>
  have hi:i.size=size:=by simpa [hq] using hs
  have hl2:(loadCells a (Nat.min sLen dLen*size)).run P w= .ok cs.toArray w:=by rw [<-hn];exact hl
  simp [Builtin.copy_,run_underlying hu,Builtin.lenOf,Builtin.firstCells,sizeOf,typeInfo,hq,hi,hl2,hst]
theorem zh6 (g:Nat) (cur C:Array Value) (t:TypeId) (hg:w.heap[g]?=some (.cells cur t (0,0))):(w.setRow g C).heap[g]?=some (.cells C t (0,0)):=setRow_heap w g cur C t _ hg
theorem zgz (g k:Nat) (C:Array Value) (h:k≠g):(w.setRow g C).heap[k]?=w.heap[k]?:=by
 unfold World.setRow;rw [Array.getElem?_modify,if_neg (fun e=>h e.symm)]
theorem setRow_size (g:Nat) (C:Array Value):(w.setRow g C).heap.size=w.heap.size:=by
 unfold World.setRow;exact Array.size_modify
end
theorem zkz (ps:List Pr):∀v∈zal ps,v.oneCell'=true:=fun v hv=>by
 unfold zal at hv;obtain ⟨p,_,hv⟩:=List.mem_flatMap.1 hv;unfold yf8 at hv;simp at hv;rcases hv with rfl|rfl<;>rfl
theorem zat:∀ps:List Pr,(zal ps).length=ps.length*2
 | []=>rfl
 |p::r=>by
  have ih:=zat r;unfold zal at ih ⊢;rw [List.flatMap_cons,Qi,ih];simp [yf8];omega
theorem zlb (ps:List Pr) (i:Nat):zal (ps.take i)=(zal ps).take (i*2):=by
 by_cases hi:i<=ps.length
 ·have e:zal ps=zal (ps.take i)++zal (ps.drop i):=by rw [<-zc5,List.take_append_drop]
  rw [e,List.take_append_of_le_length (by rw [zat,Qn];omega),List.take_of_length_le (l:=zal (ps.take i)) (by rw [zat,Qn];omega)]
 ·rw [List.take_of_length_le (by omega),List.take_of_length_le (by rw [zat];omega)]
theorem zl7 (ps:List Pr) (i:Nat):zal (ps.drop i)=(zal ps).drop (i*2):=by
 by_cases hi:i<=ps.length
 ·have e:zal ps=zal (ps.take i)++zal (ps.drop i):=by rw [<-zc5,List.take_append_drop]
  rw [e,List.drop_append,zat,Qn,Nat.min_eq_left hi,Nat.sub_self,List.drop_zero,List.drop_eq_nil_of_le («as»:=zal (ps.take i)) (by rw [zat,Qn];omega),List.nil_append]
 ·rw [List.drop_eq_nil_of_le (by omega),List.drop_eq_nil_of_le (by rw [zat];omega)];rfl
theorem zo5:(prog.info? 145).map (·.size)=some 2:=by
 obtain ⟨i0,hi,h0,h1,h2⟩:=info_parts zj8;rw [hi];simp [h1]
theorem zyy {cur:List Value} (hc:cur.length=cap*2) (hx:cur.take (ps.length*2)=zal ps) (hi:i<ps.length) (hroom:ps.length+1<=cap):
  let c1:=cur.take ((i+1)*2)++zal (ps.drop i)++cur.drop ((i+1)*2+(zal (ps.drop i)).length);let c2:=c1.take (i*2)++zal [p]++c1.drop (i*2+(zal [p]).length);c1.length=cap*2/\c2.length=cap*2/\c2.take ((ps.length+1)*2)=zal (ps.take i++p::ps.drop i):=by
 intro c1 c2;have hd:(zal (ps.drop i)).length=(ps.length-i)*2:=by rw [zat,Qu]
 have hp:(zal [p]).length=2:=by rw [zat];rfl
 have hl1:c1.length=cap*2:=by
  show (cur.take ((i+1)*2)++zal (ps.drop i)++cur.drop ((i+1)*2+(zal (ps.drop i)).length)).length=_;rw [Qi,Qi,Qn,Qu,hd,hc];omega
 have hl2:c2.length=cap*2:=by
  show (c1.take (i*2)++zal [p]++c1.drop (i*2+(zal [p]).length)).length=_;rw [Qi,Qi,Qn,Qu,hp,hl1];omega
 refine ⟨hl1,hl2,?_⟩;have e1:c1.take (i*2)=zal (ps.take i):=by
  show (cur.take ((i+1)*2)++zal (ps.drop i)++cur.drop ((i+1)*2+(zal (ps.drop i)).length)).take (i*2)=_;rw [List.append_assoc,List.take_append_of_le_length (by rw [Qn,hc];omega),List.take_take,Nat.min_eq_left (by omega),zlb,<-hx,List.take_take,Nat.min_eq_left (by omega)]
 have e2:c1.drop (i*2+2)=zal (ps.drop i)++cur.drop ((i+1)*2+(zal (ps.drop i)).length):=by
  show (cur.take ((i+1)*2)++zal (ps.drop i)++cur.drop ((i+1)*2+(zal (ps.drop i)).length)).drop (i*2+2)=_;rw [List.append_assoc,List.drop_append,Qn,hc,Nat.min_eq_left (by omega),show i*2+2-(i+1)*2=0 by omega,List.drop_zero,List.drop_eq_nil_of_le (by rw [Qn];omega),List.nil_append]
 show (c1.take (i*2)++zal [p]++c1.drop (i*2+(zal [p]).length)).take ((ps.length+1)*2)=_;rw [hp,e1,e2,zc5,show p::ps.drop i=[p]++ps.drop i from rfl,zc5,<-List.append_assoc,<-List.append_assoc];rw [List.take_append_of_le_length (by rw [Qi,Qi,hp,hd,zat,Qn];omega)];rw [List.take_of_length_le (by rw [Qi,Qi,hp,hd,zat,Qn];omega)]
def zfv (w:World) (B:Nat) (V:Value) (X:List Pr) (e:Ending) (w':World):Prop:=
 ∃a' c',e= .returned (.slice a' X.length c')/\zd2 w' B (.slice a' X.length c') X/\w.grownBy w' V.ownBlock/\((Value.slice a' X.length c').ownBlock=V.ownBlock\/∃k,(Value.slice a' X.length c').ownBlock=some k/\w.heap.size<=k)
theorem yia {C:Array Value} (h:zab w g 145 C) (o:Nat):w.frozen? ⟨g,o,none⟩=false:=Lib.frozen_of_heap h _
theorem zqz (g n c i vb:Nat) (ps:List Pr) (p:Pr) (B:Nat) (w:World) (h:zd2 w B (.slice (some ⟨g,0,none⟩) ps.length c) ps) (hn:ps.length=n) (hi:i<n) (hroom:n+1<=c) (hn2:n<=1000) (hv:zab w vb 145 #[.string p.1,.string p.2]) (hvb:vb≠g):
  Calls prog 275 #[.slice (some ⟨g,0,none⟩) n c,.int .i64 i,.slice (some ⟨vb,0,none⟩) 1 1] w (zfv w B (.slice (some ⟨g,0,none⟩) n c) (ps.take i++p::ps.drop i)):=by
 have hlt:=h.lt g rfl;obtain ⟨h1,h2|⟨g',cap',cur,he,hB,hg,hc1,hc2,hsz,htk⟩⟩:=h
 ·cases h2.1
 simp at he;obtain ⟨rfl,rfl⟩:=he;obtain ⟨L1,L2,E2⟩:=zyy (cur:=cur.toList) (ps:=ps) (i:=i) (cap:=c) (p:=p) (by simpa using hsz) htk (by omega) (by omega);have hd:(zal (ps.drop i)).length=(n-i)*2:=by rw [zat,Qu,hn]
 have hpl:(zal [p]).length=2:=by rw [zat];rfl
 have hXl:(ps.take i++p::ps.drop i).length=n+1:=by rw [Qi,Q1,Qn,Qu];omega
 have hgd:w.drew.heap[g]?=some (.cells cur 145 (0,0)):=hg;have hcell:∀j v,(zal ps)[j]?=some v->w.cell? ⟨g,j,none⟩=some v:=fun j v hj=>by
  have hr:zab w g 145 cur:=hg;rw [hr.cell j,<-Array.getElem?_toList];rw [<-htk,List.getElem?_take] at hj;split at hj
  ·exact hj
  ·cases hj
 have hcp1:∀ty dc sc,(Builtin.copy_ #[42,42] ty #[.slice (some ⟨g,(i+1)*2,none⟩) (n+1-(i+1)) dc,.slice (some ⟨g,i*2,none⟩) (n+1-i) sc]).run prog w.drew= .ok (goInt (Nat.min (n+1-i) (n+1-(i+1)))) (w.drew.setRow g (cur.toList.take ((i+1)*2)++zal (ps.drop i)++cur.toList.drop ((i+1)*2+(zal (ps.drop i)).length)).toArray):=fun ty dc sc=>
  ze5 w.drew 42 42 ty 145 2 g ((i+1)*2) _ dc ⟨g,i*2,none⟩ _ sc cur 145 (zal (ps.drop i)) underlying42 zo5 hgd (by rw [hd];simp only [Nat.min_def];split<;>omega)
   (fun j v hj=>by
    rw [Addr.add_lit];refine hcell (i*2+j) v ?_;rwa [zl7,List.getElem?_drop] at hj)
   (by rw [hd,hsz];omega) (zkz _)
 obtain ⟨W1,hW1⟩:∃W1,W1=w.drew.setRow g (cur.toList.take ((i+1)*2)++zal (ps.drop i)++cur.toList.drop ((i+1)*2+(zal (ps.drop i)).length)).toArray:=⟨_,rfl⟩;rw [<-hW1] at hcp1;have hg1:W1.heap[g]?=some (.cells (cur.toList.take ((i+1)*2)++zal (ps.drop i)++cur.toList.drop ((i+1)*2+(zal (ps.drop i)).length)).toArray 145 (0,0)):=by rw [hW1];exact zh6 _ _ _ _ _ hgd
 have hv1:zab W1 vb 145 #[.string p.1,.string p.2]:=by
  show W1.heap[vb]?=_;rw [hW1,zgz _ _ _ _ hvb];exact hv
 have hcp2:∀(W:World),W.heap=W1.heap->∀ty dc,(Builtin.copy_ #[42,42] ty #[.slice (some ⟨g,i*2,none⟩) (n+1-i) dc,.slice (some ⟨vb,0,none⟩) 1 1]).run prog W= .ok (goInt (Nat.min 1 (n+1-i))) (W.setRow g ((cur.toList.take ((i+1)*2)++zal (ps.drop i)++cur.toList.drop ((i+1)*2+(zal (ps.drop i)).length)).take (i*2)++zal [p]++(cur.toList.take ((i+1)*2)++zal (ps.drop i)++cur.toList.drop ((i+1)*2+(zal (ps.drop i)).length)).drop (i*2+(zal [p]).length)).toArray):=fun W hW ty dc=>by
  have:=ze5 W 42 42 ty 145 2 g (i*2) (n+1-i) dc ⟨vb,0,none⟩ 1 1 (cur.toList.take ((i+1)*2)++zal (ps.drop i)++cur.toList.drop ((i+1)*2+(zal (ps.drop i)).length)).toArray 145 (zal [p]) underlying42 zo5 (by rw [hW];exact hg1) (by rw [hpl];simp only [Nat.min_def];split<;>omega)
   (fun j v hj=>by
    rw [Addr.add_lit,Qq];have hvW:zab W vb 145 #[.string p.1,.string p.2]:=by show W.heap[vb]?=_;rw [hW];exact hv1
    rw [hvW.cell j];simpa [zal,yf8] using hj)
   (by rw [hpl,List.size_toArray,L1];omega) (zkz _)
  simpa using this
 obtain ⟨C2,hC2⟩:∃C2,((cur.toList.take ((i+1)*2)++zal (ps.drop i)++cur.toList.drop ((i+1)*2+(zal (ps.drop i)).length)).take (i*2)++zal [p]++(cur.toList.take ((i+1)*2)++zal (ps.drop i)++cur.toList.drop ((i+1)*2+(zal (ps.drop i)).length)).drop (i*2+(zal [p]).length))=C2:=⟨_,rfl⟩;rw [hC2] at hcp2;have L2':C2.length=c*2:=by rw [<-hC2];exact L2
 have E2':C2.take ((ps.length+1)*2)=zal (ps.take i++p::ps.drop i):=by rw [<-hC2];exact E2
 have hEND:∀W:World,W.heap=W1.heap->W.os=w.os->W.tape=w.tape->W.output=w.output->zfv w B (.slice (some ⟨g,0,none⟩) n c) (ps.take i++p::ps.drop i) (.returned (.slice (some ⟨g,0,none⟩) (n+1) c)) (W.setRow g C2.toArray):=fun W hW o1 o2 o3=>by
  refine ⟨some ⟨g,0,none⟩,c,by rw [hXl],⟨by rw [zat],.inr ⟨g,c,C2.toArray,rfl,hB,zh6 _ _ _ _ _ (by rw [hW];exact hg1),by rw [hXl];exact hroom,hc2,by simpa using L2',?_⟩⟩,⟨o1,o2,o3,?_,fun k hk hne=>?_⟩,.inl rfl⟩
  ·rw [hXl,<-hn];exact E2'
  ·rw [setRow_size,hW,hW1,setRow_size];exact Qc _
  ·rw [zgz _ _ _ _ (fun e=>hne (by rw [e];rfl)),hW,hW1,zgz _ _ _ _ (fun e=>hne (by rw [e];rfl))];rfl
 have hz2:∀w,(Go.sizeOf 145).run prog w= .ok 2 w:=fun w=>by
  obtain ⟨i0,hi0,_,h1,_⟩:=info_parts zj8;simp [Go.sizeOf,typeInfo,hi0,h1]
 have hov:∀lb cb,(callFunc 299 #[.slice (some ⟨vb,0,none⟩) 1 1,.slice (some ⟨g,(i+1)*2,none⟩) lb cb]).run prog w= .ok (.value (.bool false)) w:=fun lb cb=>by
  rw [run_callFunc_extern func299 (by kernel_rfl) (by kernel_rfl) (by kernel_rfl) (e:=Extern.SlicesOverlaps.overlaps #[42,42] #[4]) (by kernel_rfl),
   Lib.run_overlaps_apart w 42 4 145 underlying42 2 hz2 ⟨vb,0,none⟩ ⟨g,(i+1)*2,none⟩ 1 1 lb cb hvb 145 145 2 cur.size (by have:w.heap[vb]?=some (.cells #[.string p.1,.string p.2] 145 (0,0)):=hv;simp [World.shape?,this]) (by simp [World.shape?,hg]) (by rw [hsz];omega) (yia hv _) (yia hv _)]
  rfl
 have hw1:IntKind.i64.wrap ((i:Int)+1)=(i:Int)+1:=by rw [IntKind.wrap_i64];omega
 have hw2:IntKind.i64.wrap ((n:Int)+1)=(n:Int)+1:=by rw [IntKind.wrap_i64];omega
 have hz1:¬((i:Int)=(n:Int)):=by omega
 have hb0:(0:Int)<=(i:Int):=by omega
 have hb1:(i:Int)<=(n:Int):=by omega
 have hb2:(n:Int)+1<=(c:Int):=by omega
 have hb3:(i:Int)+1<=(n:Int)+1:=by omega
 have hb4:(i:Int)<=(n:Int)+1:=by omega
 have hb9:(0:Int)<=(i:Int)+1:=by omega
 have hb5:¬(c=i+1):=by omega
 have hb6:¬(c=i):=by omega
 have hb7:decide ((c:Int)<(n:Int)+1)=false:=Qf (by omega);have hb8:=beq_eq_false_iff_ne.2 hz1;have ht1:((i:Int)+1).toNat=i+1:=by omega
 have ht2:((n:Int)+1).toNat=n+1:=by omega
 have HEND:=hid hEND;have HW1:Hid (W1.os=w.os/\W1.tape=w.tape/\W1.output=w.output):=by rw [hW1];exact ⟨rfl,rfl,rfl⟩
 have HC1:=hid hcp1;have HC2:=hid hcp2;generalize ps.take i++p::ps.drop i=X at*;clear hEND hcp1 hcp2 E2 E2' L1 L2 L2' hd hpl hXl hcell hC2 hW1 hg1 hv1 hgd htk hsz hc1 hc2 h1;go_enter func275,ntmps275;go_wp2_with (simp only [hov]);have hc1:=HC1.out;have hc1':∀ty dc sc,(Builtin.copy_ #[42,42] ty #[.slice (some ⟨g,(i+1)*2,none⟩) (n-i) dc,.slice (some ⟨g,i*2,none⟩) (n+1-i) sc]).run prog w.drew= .ok (goInt (Nat.min (n+1-i) (n+1-(i+1)))) W1:=fun ty dc sc=>by have:=HC1.out ty dc sc;rwa [show n+1-(i+1)=n-i by omega] at this ⊢
 go_region;clear hc1 hc1';have hc2:=HC2.out W1 rfl;go_wp2;first
  |exact HEND.out W1 rfl HW1.out.1 HW1.out.2.1 HW1.out.2.2
  |(go_ret;exact HEND.out W1 rfl HW1.out.1 HW1.out.2.1 HW1.out.2.2)
theorem zr1 {vb:Nat} {M:List Pr} (p:Pr) (h:zd2 w B V M) (hv:zab w vb 145 #[.string p.1,.string p.2]) (hn:M.length<=1000) (hB:B<=w.heap.size):
  ∃v' w',(Builtin.append_ #[42,42] 42 #[V,.slice (some ⟨vb,0,none⟩) 1 1]).run prog w= .ok v' w'/\zfv w B V (M++ [p]) (.returned v') w':=by
 obtain ⟨i0,hi,hz0,hz1,hz2⟩:=info_parts zj8
 obtain ⟨v',w',hrun,hown,hg,_,hblk⟩:=run_append_own_at (P:=prog) w B 42 42 145 i0 _ 2 32 underlying42 hi hz0 hz1 hz2 rfl (by decide) V M.length (zal M) h ⟨vb,0,none⟩ 1 1 [.string p.1,.string p.2] rfl (fun j u hj=>by
  rw [Addr.add_lit,Qq];exact (hv.cell j).trans (by simpa using hj)) (fun u hu=>by simp at hu;rcases hu with rfl|rfl<;>rfl) (by unfold maxLen;omega) (by omega) hB
 have e:zal (M++ [p])=zal M++ [.string p.1,.string p.2]:=by rw [zc5];rfl
 have ho:zd2 w' B v' (M++ [p]):=by
  unfold zd2;rw [Qi,e];exact hown
 obtain ⟨a',c',ev⟩:=zad ho;subst ev;refine ⟨_,w',hrun,a',c',rfl,ho,hg,?_⟩;rcases hblk with e|e
 ·exact .inl e
 ·exact .inr ⟨_,e,Qc _⟩
theorem zwt (n vb:Nat) (a:Option Addr) (c:Nat) (ps:List Pr) (p:Pr) (B:Nat) (w:World) (h:zd2 w B (.slice a ps.length c) ps) (hn:ps.length=n) (hn2:n<=1000) (hv:zab w vb 145 #[.string p.1,.string p.2]) (hB:B<=w.heap.size):
  Calls prog 275 #[.slice a n c,.int .i64 n,.slice (some ⟨vb,0,none⟩) 1 1] w (zfv w B (.slice a n c) (ps++ [p])):=by
 subst hn;obtain ⟨v',w',hrun,hE⟩:=zr1 p h hv hn2 hB;have hcap:ps.length<=c/\c<=maxLen:=by
  obtain ⟨_,⟨hv,h0⟩|⟨g,cap,cur,hv,_,_,q1,q2,_⟩⟩:=h
  ·injection hv with _ h1 h2;rw [h0,h2];exact ⟨Qc _,Qs _⟩
  ·injection hv with _ _ h3;rw [h3];exact ⟨q1,q2⟩
 have R1:Hid _:=hrun;have HE:=hid hE;have hnl:=zkx h;clear h hrun hE hv;generalize ps++ [p]=X,ps.length=n at*;have hb1:(n:Int)<=(c:Int):=by omega
 by_cases hcn:c=n
 ·subst hcn;go_enter func275,ntmps275;go_wp2_with (at_builtin;refine Go.Lib.wpList_append_run _ rfl _ _ 42 42 rfl _ _ rfl rfl _ _ R1.out ?_);first|exact HE.out|(go_ret;exact HE.out)
 ·cases a with
  |none=>exact absurd (hnl rfl) (by omega)
  |some ad=>
   have hcn2:¬(c=n):=hcn;go_enter func275,ntmps275;go_wp2_with (at_builtin;refine Go.Lib.wpList_append_run _ rfl _ _ 42 42 rfl _ _ rfl rfl _ _ R1.out ?_);first|exact HE.out|(go_ret;exact HE.out)
theorem zg1 (w:World) (t tn ty e:TypeId) (i:TypeInfo) (z:Value) (k kn:IntKind) (ht:P.underlying t=some (.slice e)) (htn:P.underlying tn=some (.int kn)) (hi:P.info? e=some i) (hz:i.zero=some z)
  (a:Addr) (m c n:Nat) (olds:List Value) (hol:olds.length=m*i.size) (hold:∀j v,olds[j]?=some v->w.cell? (a.add j)=some v) (h0:0<n) (hs:0<i.size) (hroom:c<m+n) (h63:((m+n:Nat):Int)<=1000000) (hby:i.bytes<=1000):
  (Builtin.append_ #[t,tn] ty #[.slice (some a) m c,.int k n]).run P w=
   .ok (.slice (some ⟨w.heap.size,0,none⟩) (m+n) (grownCap w (m+n) c e)) (w.drew.alloc (.cells (olds.toArray++Builtin.zeroCells z.cells n++Builtin.zeroCells z.cells (grownCap w (m+n) c e-(m+n))) e)):=by
 have hn:n≠0:=by omega
 have hw:IntKind.i64.wrap (n:Int)=n:=by rw [IntKind.wrap_i64];omega
 have h48':¬(281474976710656<Builtin.nextslicecap (m+n) c*i.bytes):=by
  have:(m+n)*i.bytes<=1000000*1000:=Nat.mul_le_mul (by omega) hby
  exact Nat.not_lt.2 (growslice_fits hroom (by omega))
 have h48i:¬(281474976710656<(n:Int)*(i.bytes:Int)):=by
  rw [<-Int.natCast_mul];have:n*i.bytes<=1000000*1000:=Nat.mul_le_mul (by omega) hby
  omega
 have hneg:¬((n:Int)<0):=by omega
 have hns:¬(n*i.size=0):=Nat.mul_ne_zero hn (by omega);have hrm:¬(m+n<=c):=by omega
 have h63':¬(9223372036854775807<(m:Int)+(n:Int)):=by omega
 have hf:=run_firstCells_some (P:=P) (w:=w.drew) i.size m a m c olds hol hold;simp [Builtin.append_,run_underlying ht,run_underlying htn,sizeOf,typeInfo,zeroValue,hi,hz,asInt,asIntOf,hw,hneg,hns,h63',h48',h48i,hrm,Question.forced,hf,newRow,grownCap]
theorem zwg {C0:List Value} (hc:C0.length=cap*2) (hx:C0.take (i*2)=zal (ps.take i)) (hi:i<ps.length) (hroom:ps.length+1<=cap):
  let c1:=C0.take (i*2)++zal [p]++C0.drop (i*2+(zal [p]).length);let c2:=c1.take ((i+1)*2)++zal (ps.drop i)++c1.drop ((i+1)*2+(zal (ps.drop i)).length);c1.length=cap*2/\c2.length=cap*2/\c2.take ((ps.length+1)*2)=zal (ps.take i++p::ps.drop i):=by
 intro c1 c2;have hd:(zal (ps.drop i)).length=(ps.length-i)*2:=by rw [zat,Qu]
 have hp:(zal [p]).length=2:=by rw [zat];rfl
 have hti:(zal (ps.take i)).length=i*2:=by rw [zat,Qn];omega
 have hl1:c1.length=cap*2:=by
  show (C0.take (i*2)++zal [p]++C0.drop (i*2+(zal [p]).length)).length=_;rw [Qi,Qi,Qn,Qu,hp,hc];omega
 have hl2:c2.length=cap*2:=by
  show (c1.take ((i+1)*2)++zal (ps.drop i)++c1.drop ((i+1)*2+(zal (ps.drop i)).length)).length=_;rw [Qi,Qi,Qn,Qu,hd,hl1];omega
 refine ⟨hl1,hl2,?_⟩;have e1:c1.take ((i+1)*2)=zal (ps.take i)++zal [p]:=by
  show (C0.take (i*2)++zal [p]++C0.drop (i*2+(zal [p]).length)).take ((i+1)*2)=_;rw [hx,List.take_append_of_le_length (by rw [Qi,hti,hp];omega),List.take_of_length_le (by rw [Qi,hti,hp];omega)]
 show (c1.take ((i+1)*2)++zal (ps.drop i)++c1.drop ((i+1)*2+(zal (ps.drop i)).length)).take ((ps.length+1)*2)=_;rw [e1,zc5,show p::ps.drop i=[p]++ps.drop i from rfl,zc5,<-List.append_assoc];rw [List.take_append_of_le_length (by rw [Qi,Qi,hp,hd,hti];omega)];rw [List.take_of_length_le (by rw [Qi,Qi,hp,hd,hti];omega)]
theorem ztz (g n c i vb:Nat) (ps:List Pr) (p:Pr) (B:Nat) (w:World) (h:zd2 w B (.slice (some ⟨g,0,none⟩) ps.length c) ps) (hn:ps.length=n) (hi:i < n) (hroom:c < n+1) (hn2:n<=1000) (hv:zab w vb 145 #[.string p.1,.string p.2]) (hB:B<=w.heap.size):
    Calls prog 275 #[.slice (some ⟨g,0,none⟩) n c,.int .i64 i,.slice (some ⟨vb,0,none⟩) 1 1] w (zfv w B (.slice (some ⟨g,0,none⟩) n c) (ps.take i++p::ps.drop i)):=by
  have hlt:=h.lt g rfl;obtain ⟨i0,hi0,hz0,hz1,hz2⟩:=info_parts zj8;obtain ⟨h1,h2 | ⟨g',cap',cur,he,hBg,hg,hc1,hc2,hsz,htk⟩⟩:=h
  · cases h2.1
  simp at he;obtain ⟨rfl,rfl⟩:=he;have hXl:(ps.take i++p::ps.drop i).length=n+1:=by rw [Qi,Q1,Qn,Qu];omega
  have hcell:∀j v,(zal ps)[j]?=some v->w.cell? ⟨g,j,none⟩=some v:=fun j v hj=>by
    have hr:zab w g 145 cur:=hg;rw [hr.cell j,<- Array.getElem?_toList];rw [<- htk,List.getElem?_take] at hj;split at hj
    · exact hj
    · cases hj
  have hti:(zal (ps.take i)).length=i*2:=by rw [zat,Qn];omega
  have hd:(zal (ps.drop i)).length=(n - i)*2:=by rw [zat,Qu,hn]
  have hpl:(zal [p]).length=2:=by rw [zat];rfl
  have hzc:(Value.agg #[.string ⟨#[]⟩,.string ⟨#[]⟩]).cells.size=2:=rfl;obtain ⟨cp,hcp⟩:∃cp,grownCap w (n+1) c 145=cp:=⟨_,rfl⟩;have hcpn:n+1<=cp:=by rw [<- hcp];exact grownCap_ge w (n+1) c 145
  have hcpm:cp<=maxLen:=by rw [<- hcp];exact grownCap_le_maxLen w (n+1) c 145 (by unfold maxLen;omega)
  have hap:∀ty,(Builtin.append_ #[42,3] ty #[.slice (some ⟨g,0,none⟩) i c,.int .i64 (((n+1 - i:Nat)):Int)]).run prog w= .ok (.slice (some ⟨w.heap.size,0,none⟩) (n+1) cp) (w.drew.alloc (.cells ((zal (ps.take i)).toArray++Builtin.zeroCells (Value.agg #[.string ⟨#[]⟩,.string ⟨#[]⟩]).cells (n+1 - i)++Builtin.zeroCells (Value.agg #[.string ⟨#[]⟩,.string ⟨#[]⟩]).cells (cp - (n+1))) 145)):=fun ty=>by
    have:=zg1 (P:=prog) w 42 3 ty 145 i0 _ .i64 .i64 underlying42 underlying3 hi0 hz0 ⟨g,0,none⟩ i c (n+1 - i) (zal (ps.take i)) (by rw [hti,hz1]) (fun j v hj=>by
      rw [Addr.add_lit,Qq];refine hcell j v ?_;rw [zlb,List.getElem?_take] at hj;split at hj
      · exact hj
      · cases hj) (by omega) (by omega) (by omega) (by omega) (by omega)
    rw [show i+(n+1 - i)=n+1 by omega,hcp] at this;exact this
  obtain ⟨C0,hC0⟩:∃C0,(zal (ps.take i)).toArray++Builtin.zeroCells (Value.agg #[.string ⟨#[]⟩,.string ⟨#[]⟩]).cells (n+1 - i)++Builtin.zeroCells (Value.agg #[.string ⟨#[]⟩,.string ⟨#[]⟩]).cells (cp - (n+1))=C0:=⟨_,rfl⟩;rw [hC0] at hap;have hC0l:C0.toList.length=cp*2:=by
    rw [<- hC0];simp only [Array.toList_append,Qi,Array.length_toList];rw [size_zeroCells,size_zeroCells,hzc,hti];omega
  have hC0t:C0.toList.take (i*2)=zal (ps.take i):=by
    rw [<- hC0];simp only [Array.toList_append];rw [List.append_assoc,List.take_append_of_le_length (by rw [hti];exact Qc _),List.take_of_length_le (by rw [hti];exact Qc _)]
  obtain ⟨L1,L2,E2⟩:=zwg (C0:=C0.toList) (ps:=ps) (i:=i) (cap:=cp) (p:=p) hC0l hC0t (by omega) (by omega);obtain ⟨W1,hW1⟩:∃W1,w.drew.alloc (.cells C0 145)=W1:=⟨_,rfl⟩;have b1:Bl w W1:=by rw [<- hW1];exact (below_drewN (Qb _ w) 1).alloc (Qc _) _
  have hg1:W1.heap[w.heap.size]?=some (.cells C0 145 (0,0)):=by rw [<- hW1];exact zab.new w.drew 145 C0
  have hs1:W1.heap.size=w.heap.size+1:=by rw [<- hW1];simp
  rw [hW1] at hap;have hcp1:∀ty dc,(Builtin.copy_ #[42,42] ty #[.slice (some ⟨w.heap.size,i*2,none⟩) (n+1 - i) dc,.slice (some ⟨vb,0,none⟩) 1 1]).run prog W1= .ok (goInt (Nat.min 1 (n+1 - i))) (W1.setRow w.heap.size (C0.toList.take (i*2)++zal [p]++C0.toList.drop (i*2+(zal [p]).length)).toArray):=fun ty dc=>
    ze5 W1 42 42 ty 145 2 w.heap.size (i*2) (n+1 - i) dc ⟨vb,0,none⟩ 1 1 C0 145 (zal [p]) underlying42 zo5 hg1 (by rw [hpl];simp only [Nat.min_def];split <;> omega)
      (fun j v hj=>by
        rw [Addr.add_lit,Qq,(hv.bw b1 hv.lt).cell j];simpa [zal,yf8] using hj)
      (by have:C0.size=cp*2:=by simpa using hC0l
          rw [hpl,this];omega) (zkz _)
  obtain ⟨C1,hC1⟩:∃C1,(C0.toList.take (i*2)++zal [p]++C0.toList.drop (i*2+(zal [p]).length))=C1:=⟨_,rfl⟩;rw [hC1] at hcp1;have L1':C1.length=cp*2:=by rw [<- hC1];exact L1
  obtain ⟨W2,hW2⟩:∃W2,W1.setRow w.heap.size C1.toArray=W2:=⟨_,rfl⟩;rw [hW2] at hcp1;have hg2:W2.heap[w.heap.size]?=some (.cells C1.toArray 145 (0,0)):=by rw [<- hW2];exact zh6 _ _ _ _ _ hg1
  have b2:Bl w W2:=by
    rw [<- hW2];exact ⟨b1.os,b1.tape,b1.output,by rw [setRow_size];exact b1.size,fun k hk=> (zgz _ _ _ _ (by omega)).trans (b1.block k hk)⟩
  have hcp2:∀ty dc sc,(Builtin.copy_ #[42,42] ty #[.slice (some ⟨w.heap.size,(i+1)*2,none⟩) (n+1 - (i+1)) dc,.slice (some ⟨g,i*2,none⟩) (n - i) sc]).run prog W2.drew= .ok (goInt (Nat.min (n - i) (n+1 - (i+1)))) (W2.drew.setRow w.heap.size (C1.take ((i+1)*2)++zal (ps.drop i)++C1.drop ((i+1)*2+(zal (ps.drop i)).length)).toArray):=fun ty dc sc=>by
    have:=ze5 W2.drew 42 42 ty 145 2 w.heap.size ((i+1)*2) (n+1 - (i+1)) dc ⟨g,i*2,none⟩ (n - i) sc C1.toArray 145 (zal (ps.drop i)) underlying42 zo5 hg2 (by rw [hd];simp only [Nat.min_def];split <;> omega)
      (fun j v hj=>by
        rw [Addr.add_lit];have hb:W2.drew.cell? ⟨g,i*2+j,none⟩=w.cell? ⟨g,i*2+j,none⟩:=(below_drewN b2 1).cell (p:=⟨g,i*2+j,none⟩) hlt.2;rw [hb];refine hcell (i*2+j) v ?_;rwa [zl7,List.getElem?_drop] at hj)
      (by rw [hd,List.size_toArray,L1'];omega) (zkz _)
    simpa using this
  obtain ⟨C2,hC2⟩:∃C2,(C1.take ((i+1)*2)++zal (ps.drop i)++C1.drop ((i+1)*2+(zal (ps.drop i)).length))=C2:=⟨_,rfl⟩;rw [hC2] at hcp2;have L2':C2.length=cp*2:=by rw [<- hC2,<- hC1];exact L2
  have E2':C2.take ((ps.length+1)*2)=zal (ps.take i++p::ps.drop i):=by rw [<- hC2,<- hC1];exact E2
  have hEND:zfv w B (.slice (some ⟨g,0,none⟩) n c) (ps.take i++p::ps.drop i) (.returned (.slice (some ⟨w.heap.size,0,none⟩) (n+1) cp)) (W2.drew.setRow w.heap.size C2.toArray):=by
    refine ⟨some ⟨w.heap.size,0,none⟩,cp,by rw [hXl],⟨by rw [zat],.inr ⟨w.heap.size,cp,C2.toArray,rfl,hB,zh6 _ _ _ _ _ hg2,by rw [hXl];exact hcpn,hcpm,by simpa using L2',?_⟩⟩,⟨b2.os,b2.tape,b2.output,?_,fun k hk hne=>?_⟩,.inr ⟨w.heap.size,rfl,Qc _⟩⟩
    · rw [hXl,<- hn];exact E2'
    · rw [setRow_size];exact b2.size
    · rw [zgz _ _ _ _ (by omega)];exact b2.block k hk
  have hw1:IntKind.i64.wrap ((i:Int)+1)=(i:Int)+1:=by rw [IntKind.wrap_i64];omega
  have hw2:IntKind.i64.wrap ((n:Int)+1)=(n:Int)+1:=by rw [IntKind.wrap_i64];omega
  have hw3:IntKind.i64.wrap ((n:Int)+1 - (i:Int))=(((n+1 - i:Nat)):Int):=by rw [IntKind.wrap_i64];omega
  have hb0:(0:Int)<=(i:Int):=by omega
  have hb1:(i:Int)<=(n:Int):=by omega
  have hb2:(i:Int)<=(c:Int):=by omega
  have hb3:(i:Int)+1<=(n:Int)+1:=by omega
  have hb4:(i:Int)<=(n:Int)+1:=by omega
  have hb9:(0:Int)<=(i:Int)+1:=by omega
  have hb5:¬(cp=i+1):=by omega
  have hb6:¬(c=i):=by omega
  have hb10:¬(cp=i):=by omega
  have hb7:decide ((c:Int) < (n:Int)+1)=true:=Qe (by omega);have hb8:=beq_eq_false_iff_ne.2 (by omega);have ht1:((i:Int)+1).toNat=i+1:=by omega
  have ht2:((n:Int)+1).toNat=n+1:=by omega
  have HEND:Hid _:=hEND;have HAP:=hid hap;have HC1:=hid hcp1;have HC2:=hid hcp2;generalize ps.take i++p::ps.drop i=X at*;clear hEND hap hcp1 hcp2 E2 E2' L1 L2 L1' L2' hd hpl hXl hcell hC2 hC1 hC0 hW1 hW2 hg1 hg2 htk hsz hc1 hc2 h1 b1 b2 hC0l hC0t hti hcp hcpn hcpm hs1;have hq1:=HC1.out;have hq2:=HC2.out;have hq2':∀ty dc sc,(Builtin.copy_ #[42,42] ty #[.slice (some ⟨w.heap.size,(i+1)*2,none⟩) (n - i) dc,.slice (some ⟨g,i*2,none⟩) (n - i) sc]).run prog W2.drew= .ok (goInt (Nat.min (n - i) (n+1 - (i+1)))) (W2.drew.setRow w.heap.size C2.toArray):=fun ty dc sc=>by have:=HC2.out ty dc sc;rwa [show n+1 - (i+1)=n - i by omega] at this ⊢
  go_enter func275,ntmps275;go_wp2_with (at_builtin;refine Go.Lib.wpList_append_run _ rfl _ _ 42 3 rfl _ _ rfl rfl _ _ (HAP.out _) ?_);clear hq1;go_region;clear hq2 hq2';go_wp2;first | exact HEND.out | (go_ret;exact HEND.out)
theorem zyg (a:Option Addr) (n c i vb:Nat) (ps:List Pr) (p:Pr) (B:Nat) (w:World) (h:zd2 w B (.slice a ps.length c) ps) (hn:ps.length=n) (hi:i<=n) (hn2:n<=1000) (hv:zab w vb 145 #[.string p.1,.string p.2]) (hvb:∀g,(Value.slice a n c).ownBlock=some g->vb≠g) (hB:B<=w.heap.size):
  Calls prog 275 #[.slice a n c,.int .i64 i,.slice (some ⟨vb,0,none⟩) 1 1] w (zfv w B (.slice a n c) (ps.take i++p::ps.drop i)):=by
 by_cases hin:i=n
 ·subst hin;rw [<-hn,List.take_length,List.drop_length,hn];exact zwt i vb a c ps p B w h hn hn2 hv hB
 ·rcases Joins.ownsRow_forms h with ⟨h1,h2⟩|⟨A,c',e⟩
  ·omega
  ·injection e with e1 e2 e3;subst e1 e3;by_cases hr:n+1<=c
   ·exact zqz A n c i vb ps p B w h hn (by omega) hr hn2 hv (hvb A rfl)
   ·exact ztz A n c i vb ps p B w h hn (by omega) (by omega) hn2 hv hB
def putAt (ps:List Pr) (nm tx:ByteArray) (i:Nat):List Pr:=ps.take i++(nm,tx)::ps.drop (if (decide (i<ps.length)&&decide (zgq ps nm i=0))=true then i+1 else i)
theorem zoc (nm tx:ByteArray):∀(ps acc:List Pr),(∀x∈ps,x.1≠nm)->ps.foldl (zbx nm tx) (acc,true)=(acc++ps,true)
 | [],acc,_=>by simp
 |x::r,acc,h=>by
  rw [List.foldl_cons,show zbx nm tx (acc,true) x=(acc++ [x],true) by unfold zbx;rw [if_neg (h x (by simp))];simp,zoc nm tx r _ (fun y hy=>h y (by simp [hy]))];simp
theorem zzp (x nm:ByteArray):geS x nm=!bytesBefore x.data.toList nm.data.toList:=by
 unfold geS;rw [zgw]
theorem yaa (nm tx:ByteArray):∀(ps acc:List Pr),UpP ps->∀i,Low ps nm ps.length i->(if (ps.foldl (zbx nm tx) (acc,false)).2=true then (ps.foldl (zbx nm tx) (acc,false)).1 else (ps.foldl (zbx nm tx) (acc,false)).1++ [(nm,tx)])=acc++putAt ps nm tx i
 | [],acc,_,i,hl=>by
  have:=hl.le;obtain rfl:i=0:=by simpa using this
  rfl
 |x::r,acc,hu,i,hl=>by
  have hup:=List.pairwise_cons.1 hu;have c0:zgq (x::r) nm 0=zx5 x (nm,bz):=rfl;have hs:∀j,zgq (x::r) nm (j+1)=zgq r nm j:=fun j=>rfl;rw [List.foldl_cons];by_cases hlt:zgq (x::r) nm 0<0
  ·obtain ⟨k,rfl⟩:∃k,i=k+1:=by
    cases i with
    |zero=>have:=hl.hi 0 (Qc _) (by simp);omega
    |succ k=>exact ⟨k,rfl⟩
   have hb:=(ze6 (x::r) nm 0).1 hlt;have hne:x.1≠nm:=fun e=>by have:=(zdi (x::r) nm 0).2 e;omega
   have hst:zbx nm tx (acc,false) x=(acc++ [x],false):=by
    unfold zbx;rw [if_neg hne,zzp,show bytesBefore x.1.data.toList nm.data.toList=true from hb];rfl
   rw [hst,yaa nm tx r _ hup.2 k ⟨by have:=hl.le;simp at this;exact this,fun j hj=>by rw [<-hs];exact hl.lo (j+1) (by omega),fun j h1 h2=>by rw [<-hs];exact hl.hi (j+1) (by omega) (by simp;omega)⟩];unfold putAt;rw [hs,List.take_succ_cons,show decide (k+1<(x::r).length)=decide (k<r.length) by simp];cases (decide (k<r.length)&&decide (zgq r nm k=0))<;>simp
  ·have hi0:i=0:=by
    rcases Nat.eq_zero_or_pos i with e|e
    ·exact e
    ·exact absurd (hl.lo 0 e) hlt
   subst hi0;have hnb:bytesBefore x.1.data.toList nm.data.toList=false:=by
    cases hb:bytesBefore x.1.data.toList nm.data.toList with
    |false=>rfl
    |true=>exact absurd ((ze6 (x::r) nm 0).2 hb) hlt
   have hr:∀y∈r,y.1≠nm:=fun y hy e=>by
    have:=hup.1 y hy;rw [e,hnb] at this;cases this
   unfold putAt;rw [show decide (0<(x::r).length)=true by simp,Qz];by_cases he:x.1=nm
   ·have hst:zbx nm tx (acc,false) x=(acc++ [(nm,tx)],true):=by
     unfold zbx;rw [if_pos he,zzp,hnb];rfl
    rw [hst,zoc nm tx r _ hr,if_pos rfl,Qe ((zdi (x::r) nm 0).2 he)];simp
   ·have hst:zbx nm tx (acc,false) x=(acc++ [(nm,tx)]++ [x],true):=by
     unfold zbx;rw [if_neg he,zzp,hnb];rfl
    rw [hst,zoc nm tx r _ hr,if_pos rfl,Qf (fun e=>he ((zdi (x::r) nm 0).1 e))];simp
theorem zl0 (hu:UpP ps) (hl:Low ps nm ps.length i):zbj ps nm tx=putAt ps nm tx i:=by
 have:=yaa nm tx ps [] hu i hl;rw [List.nil_append] at this;unfold zbj zpe;exact this
theorem ydp (hu:UpP ps) (hl:Low ps nm ps.length i):UpP (putAt ps nm tx i):=by
 unfold putAt UpP;rw [List.pairwise_append,List.pairwise_cons];have hlo:∀x∈ps.take i,bytesBefore x.1.data.toList nm.data.toList=true:=fun x hx=>by
  obtain ⟨j,hj,rfl⟩:=List.getElem_of_mem hx;rw [Qn] at hj;have:=(ze6 ps nm j).1 (hl.lo j (by omega));rw [List.getElem_take];rwa [Qa,Qd (by omega:j<ps.length)] at this
 have hhi:∀x∈ps.drop (if (decide (i<ps.length)&&decide (zgq ps nm i=0))=true then i+1 else i),bytesBefore nm.data.toList x.1.data.toList=true:=fun x hx=>by
  obtain ⟨j,hj,rfl⟩:=List.getElem_of_mem hx;rw [Qu] at hj;rw [List.getElem_drop];obtain ⟨q,hq⟩:∃q,(if (decide (i<ps.length)&&decide (zgq ps nm i=0))=true then i+1 else i)+j=q:=⟨_,rfl⟩;have hiq:i<=q:=by rw [<-hq];split<;>omega
  have hqn:q<ps.length:=by omega
  have h0:=hl.hi q hiq hqn;have hne:ps[q].1≠nm:=fun e=>by
   have hz:=(zdi ps nm q).2 (by rw [Qa,Qd hqn];exact e);have hin:i<ps.length:=by omega
   have hz0:zgq ps nm i=0:=by
    rcases Nat.lt_or_ge i q with hl2|hl2
    ·have:=zvf hu hl2 hqn;rw [(zdi ps nm q).1 hz,<-ze6] at this;have:=hl.hi i (Qc _) hin;omega
    ·obtain rfl:i=q:=by omega
     exact hz
   rw [Qe hin,Qe hz0,Bool.and_self,if_pos rfl] at hq;have:=zvf hu (show i<q by omega) hqn;rw [(zdi ps nm q).1 hz,(zdi ps nm i).1 hz0,WideAt.bytes_irrefl] at this;cases this
  have hnb:¬bytesBefore ps[q].1.data.toList nm.data.toList=true:=fun hb=>by
   have:=(ze6 ps nm q).2 (by rw [Qa,Qd hqn];exact hb);omega
  have hfin:bytesBefore nm.data.toList ps[q].1.data.toList=true:=by
   rcases WideAt.bytes_total _ _ (fun e'=>hne (ByteArray.ext (Array.toList_inj.1 e'))) with h'|h'
   ·exact absurd h' hnb
   ·exact h'
  simp only [hq];exact hfin
 refine ⟨hu.sublist (List.take_sublist _ _),⟨fun y hy=>hhi y hy,hu.sublist (List.drop_sublist _ _)⟩,fun x hx y hy=>?_⟩;rcases List.mem_cons.1 hy with rfl|hy
 ·exact hlo x hx
 ·exact WideShapes.bytes_trans _ _ _ (hlo x hx) (hhi y hy)
theorem ydq {c:Nat} (h:zd2 w B (.slice (some ⟨g,0,none⟩) ps.length c) ps) (i:Nat) (hi:i < ps.length) (tx:ByteArray):
  zd2 (w.setCell ⟨g,i*2+1,none⟩ (.string tx)) B (.slice (some ⟨g,0,none⟩) ps.length c) (ps.take i++((ps.getD i (bz,bz)).1,tx)::ps.drop (i+1))/\w.grownBy (w.setCell ⟨g,i*2+1,none⟩ (.string tx)) (some g):=by
 obtain ⟨h1,h2 | ⟨g',cap',cur,he,hB,hg,hc1,hc2,hsz,htk⟩⟩:=h
 ·cases h2.1
 simp at he
 obtain ⟨rfl,rfl⟩:=he
 have hr:zab w g 145 cur:=hg
 have hr2:=hr.set (i*2+1) (.string tx)
 have hl:(ps.take i++((ps.getD i (bz,bz)).1,tx)::ps.drop (i+1)).length=ps.length:=by rw [Qi,Q1,Qn,Qu];omega
 refine ⟨⟨by rw [zat],.inr ⟨g,c,_,by rw [hl],hB,hr2,by rw [hl];exact hc1,hc2,by simpa using hsz,?_⟩⟩,⟨rfl,rfl,rfl,?_,fun k hk hne=>Below.heap_setCell _ _ _ _ (fun e=>hne (by rw [e]))⟩⟩
 ·rw [hl]
  have e0:zal ps=zal (ps.take i)++([.string (ps.getD i (bz,bz)).1,.string (ps.getD i (bz,bz)).2]++zal (ps.drop (i+1))):=by
   have:ps=ps.take i++(ps.getD i (bz,bz))::ps.drop (i+1):=by
    rw [Qa,Qd hi]
    show ps=ps.take i++ps[i]::ps.drop (i+1)
    rw [List.getElem_cons_drop,List.take_append_drop]
   conv=>lhs;rw [this]
   rw [zc5]
   rfl
  have hti:(zal (ps.take i)).length=i*2:=by rw [zat,Qn];omega
  have e1:zal (ps.take i++((ps.getD i (bz,bz)).1,tx)::ps.drop (i+1))=(zal ps).set (i*2+1) (.string tx):=by
   rw [e0,zc5,List.set_append_right _ _ (by omega),hti,show i*2+1 - i*2=1 by omega]
   rfl
  rw [e1,<- htk]
  simp only [Array.toList_setIfInBounds]
  rw [List.take_set]
 ·show w.heap.size<=(w.setCell _ _).heap.size
  rw [show (w.setCell ⟨g,i*2+1,none⟩ (.string tx)).heap.size=w.heap.size by simp [World.setCell]]
  exact Qc _
theorem zrj {w1 w2:World} (hb:Bl w w1) (h:zfv w1 B V X e w2):zfv w B V X e w2:=by
 obtain ⟨a',c',h1,h2,h3,h4⟩:=h;refine ⟨a',c',h1,h2,⟨h3.os.trans hb.os,h3.tape.trans hb.tape,h3.output.trans hb.output,Qj hb.size h3.size,fun k hk hne=> (h3.block k (Qr hk hb.size) hne).trans (hb.block k hk)⟩,?_⟩;rcases h4 with h4|⟨k,e,hk⟩
 ·exact .inl h4
 ·exact .inr ⟨k,e,Qj hb.size hk⟩
theorem yb8 (a:Option Addr) (c:Nat) (ps:List Pr) (nm tx:ByteArray) (B:Nat) (w:World) (h:zd2 w B (.slice a ps.length c) ps) (hu:UpP ps) (hn:ps.length<=1000) (hB:B<=w.heap.size):
  Calls prog 249 #[.slice a ps.length c,.string nm,.string tx] w (zfv w B (.slice a ps.length c) (zbj ps nm tx)):=by
 obtain ⟨xa,xA,xc,xe,xz⟩:=zdn h;injection xe with x1 x2 x3;subst x1 x3;have HP:=hid (zmk a xA ps.length c ps nm w xz hn (zsk hu nm));have H:Hid (zd2 w B (.slice a ps.length c) ps/\UpP ps/\ps.length<=1000/\B<=w.heap.size):=⟨h,hu,hn,hB⟩;have HX:=hid xz;clear h hu hB xz x2;obtain ⟨n,hnn⟩:∃n,ps.length=n:=⟨_,rfl⟩;have HNN:=hid hnn;rw [hnn] at HP HX ⊢;clear hnn;obtain ⟨M,hM⟩:∃M,zfv w B (.slice a n c) (zbj ps nm tx)=M:=⟨_,rfl⟩;rw [hM];have HM:=hid hM;clear hM;go_enter func249,ntmps249;go_wp2_with fail;refine HP.out.mono ?_;rintro e w1 ⟨⟨i,rfl,hl⟩,b1⟩;have hlow:Low ps nm ps.length i:=by rw [HNN.out];exact hl
 have hput:=zl0 H.out.2.1 (tx:=tx) hlow;have HB1:=hid b1;have hle:=hl.le;cases hfd:(decide (i<n)&&decide (zgq ps nm i=0)) with
 |true=>
  rw [Qh,decide_eq_true_iff,decide_eq_true_iff] at hfd;obtain ⟨hin,hz⟩:=hfd;obtain rfl:=HX.out.addr (by omega);have hil:i<ps.length:=by rw [HNN.out];exact hin
  obtain ⟨o2,g2⟩:=ydq (zaf (show zd2 w B (.slice (some ⟨xA,0,none⟩) ps.length c) ps from by have:=H.out.1;rwa [HNN.out] at this ⊢) b1) i hil tx;have hnm:=(zdi ps nm i).1 hz;have c1:=(HX.out.bw b1).c1 i hin;have hfz:w1.frozen? ⟨xA,i*2+1,none⟩=false:=by
   obtain ⟨C,hC⟩:=zbh (zaf H.out.1 b1) (g:=xA) rfl;exact Lib.frozen_of_heap hC _
  have hl2:(ps.take i++(nm,tx)::ps.drop (i+1)).length=n:=by rw [Qi,Q1,Qn,Qu,HNN.out];omega
  have HF:Hid (M (.returned (.slice (some ⟨xA,0,none⟩) n c)) (w1.setCell ⟨xA,i*2+1,none⟩ (.string tx))):=by
   rw [<-HM.out,hput];unfold putAt;rw [HNN.out,Qe hin,Qe hz,Bool.and_self,if_pos rfl];refine zrj b1 ⟨some ⟨xA,0,none⟩,c,by rw [hl2],?_,g2,.inl rfl⟩;rw [hnm] at o2;rw [hl2,<-HNN.out];exact o2
  have hi1:(0:Int)<=(i:Int):=by omega
  have hi2:(i:Int)<(n:Int):=by omega
  clear o2 g2 HP H HX hput hlow b1 hl hl2 hnm hz HM;generalize (ps.getD i (bz,bz)).2=old at*;go_wp2;first|exact HF.out|(go_ret;exact HF.out)
 |false=>
  have hput2:zbj ps nm tx=ps.take i++(nm,tx)::ps.drop i:=by
   rw [hput];unfold putAt;rw [HNN.out,hfd,if_neg (by simp)]
  obtain ⟨W2,hW2,HW2,b2,r2⟩:=boxed w1 #[.string nm,.string tx] 145;have HI:Hid (Cp 275 #[.slice a n c,.int .i64 i,.slice (some ⟨w1.heap.size,0,none⟩) 1 1] W2 M):=by
   rw [<-HM.out,hput2];have b12:=b1.trans (b2.mono b1.size);have ho:=zaf H.out.1 b12
   have:=zyg a n c i w1.heap.size ps (nm,tx) B W2 ho HNN.out hle (by rw [<-HNN.out];exact H.out.2.2.1) r2 (fun g' hg' e=>by
    have hh:(Value.slice a ps.length c).ownBlock=some g':=by rw [HNN.out];exact hg'
    have:=(zaz H.out.1 hh).2;have:=b1.size;omega) (Qj H.out.2.2.2 b12.size)
   exact this.mono fun e w' hh=>zrj b12 hh
  have HIE:Hid (∀e w',M e w'->∃v,e= .returned v):=fun e w' hm=>by
   rw [<-HM.out] at hm;obtain ⟨a',c',h1,_⟩:=hm;exact ⟨_,h1⟩
  clear HP H HX hput hput2 hlow b1 hl hW2 b2 r2 hfd HM;go_upto_region 5 with fail;go_wp2_with fail;rw [HW2.out];refine HI.out.mono ?_;intro e w3 hm;obtain ⟨v,rfl⟩:=HIE.out _ _ hm;have HF:=hid hm;clear hm HI HIE;go_wp2;first|exact HF.out|(go_ret;exact HF.out)
theorem zsb (hu:UpP ps) (nm tx:ByteArray):UpP (zbj ps nm tx)/\(zbj ps nm tx).length<=ps.length+1:=by
 obtain ⟨i,hl⟩:∃i,Low ps nm ps.length i:=by
  refine ⟨(ps.takeWhile fun x=>bytesBefore x.1.data.toList nm.data.toList).length,?_⟩;have key:∀qs:List Pr,UpP qs->Low qs nm qs.length (qs.takeWhile fun x=>bytesBefore x.1.data.toList nm.data.toList).length:=by
   intro qs;induction qs with
   |nil=>intro _;exact ⟨Qc _,fun j hj=>by simp at hj,fun j _ hj=>by simp at hj⟩
   |cons x r ih=>
    intro hu;have hup:=List.pairwise_cons.1 hu;have ih:=ih hup.2;cases hb:bytesBefore x.1.data.toList nm.data.toList with
    |true=>
     rw [List.takeWhile_cons_of_pos (by simpa using hb)];refine ⟨by have:=ih.le;simp;omega,fun j hj=>?_,fun j h1 h2=>?_⟩
     ·cases j with
      |zero=>exact (ze6 (x::r) nm 0).2 hb
      |succ j=>exact ih.lo j (by simp at hj;omega)
     ·cases j with
      |zero=>simp at h1
      |succ j=>exact ih.hi j (by simp at h1;omega) (by simp at h2;omega)
    |false=>
     rw [List.takeWhile_cons_of_neg (by simp [hb])];refine ⟨Qs _,fun j hj=>by simp at hj,fun j _ h2=>?_⟩;refine Int.not_lt.1 fun hc=>?_;have hm:=zsk hu nm 0 j (Qs _) h2 hc;rw [ze6] at hm;rw [show bytesBefore ((x::r).getD 0 (bz,bz)).1.data.toList nm.data.toList=bytesBefore x.1.data.toList nm.data.toList from rfl,hb] at hm;cases hm
  exact key ps hu
 rw [zl0 hu hl];refine ⟨ydp hu hl,?_⟩;unfold putAt;rw [Qi,Q1,Qn,Qu];split<;>omega
theorem zcr.pairsAt {b n:Nat} {now:Int} {aa:Option Addr} {ab ao ac:Nat} {L:List KV} {T:List ByteArray} (h:zcr w B g b n now aa ab ao ac L L T) (nm:ByteArray):∀k,(zak L nm).vp.ownBlock=some k->B<=k/\k≠g/\k≠b/\∀x∈zbb L nm,x.vi.ownBlock≠some k/\x.vp.ownBlock≠some k/\x.vr.ownBlock≠some k:=fun k hk=>by
 rcases zby L nm with ⟨-,e⟩|⟨-,hm,hnm⟩
 ·rw [e] at hk;cases hk
 ·have ho:=(h.vals.own _ hm).pj;obtain ⟨C,hC⟩:=zbh ho hk;refine ⟨(zaz ho hk).1,fun e=>?_,zl3 h.call.ring hC,fun x hx=>?_⟩
  ·subst e;have:=Hp.zcm hC h.call.row;cases this
  ·obtain ⟨x1,x2⟩:=zee hx;have hap:=yac h.vals.ap hm x1 (by rw [hnm];exact fun e=>x2 e.symm);have hxo:=h.vals.own x x1;refine ⟨fun e=>?_,hap.2.1 k hk,fun e=>?_⟩
   ·obtain ⟨D,hD⟩:=zbh hxo.ia e;have:=Hp.zcm hC hD;cases this
   ·obtain ⟨D,hD⟩:=zbh hxo.rq e;have:=Hp.zcm hC hD;cases this
structure zxx (w:World) (B:Nat) (kb:Option Nat) (ps:List Pr) (W:List ByteArray) (k:Nat) (v:Value) (X:List Pr) (wr:World):Prop where
 eq:za7 X (W.drop (2*k))=za7 ps W
 up:UpP X
 len:X.length<=ps.length+k
 own:zd2 wr B v X
 gr:w.grownBy wr kb
 loc:v.ownBlock=kb\/∃j,v.ownBlock=some j/\w.heap.size<=j
theorem zxx.next {wr w':World} {kb:Option Nat} {W:List ByteArray} {k:Nat} {v:Value} (h:zxx w B kb ps W k v X wr) (hk:2*k+1<W.length) (he:zfv wr B v (zbj X (W.getD (2*k) empty) (W.getD (2*k+1) empty)) e w'):∃a' c',e= .returned (.slice a' (zbj X (W.getD (2*k) empty) (W.getD (2*k+1) empty)).length c')/\zxx w B kb ps W (k+1) (.slice a' (zbj X (W.getD (2*k) empty) (W.getD (2*k+1) empty)).length c') (zbj X (W.getD (2*k) empty) (W.getD (2*k+1) empty)) w':=by
 obtain ⟨a',c',e1,ho,hg,hl⟩:=he;have hd:W.drop (2*k)=W.getD (2*k) empty::W.getD (2*k+1) empty::W.drop (2*(k+1)):=by
  rw [Qa,Qa,Qd hk,Qd (by omega:2*k<W.length)];show W.drop (2*k)=W[2*k]::W[2*k+1]::W.drop (2*k+1+1);rw [List.getElem_cons_drop,List.getElem_cons_drop]
 obtain ⟨u1,u2⟩:=zsb h.up (W.getD (2*k) empty) (W.getD (2*k+1) empty);refine ⟨a',c',e1,?_,u1,by have:=h.len;omega,ho,⟨hg.os.trans h.gr.os,hg.tape.trans h.gr.tape,hg.output.trans h.gr.output,Qj h.gr.size hg.size,fun j hj hne=>?_⟩,?_⟩
 ·rw [<-h.eq,hd];rfl
 ·refine (hg.block j (Qr hj h.gr.size) ?_).trans (h.gr.block j hj hne);intro e;rcases h.loc with h1|⟨q,h1,h2⟩
  ·exact hne (e.trans h1)
  ·rw [h1] at e;have:=Option.some.inj e;omega
 ·rcases hl with h1|⟨q,h1,h2⟩
  ·rw [h1];exact h.loc
  ·exact .inr ⟨q,h1,Qj h.gr.size h2⟩
theorem zis (T:List ByteArray) (j:Nat):T.tail.getD j empty=T.getD (j+1) empty:=by
 rw [Qa,Qa,List.getElem?_tail]
theorem zxc (B g b n:Nat) (now:Int) (aa:Option Addr) (ab ao ac:Nat) (L:List KV) (T:List ByteArray) (ad:Nat->Addr) (w:World) (h:zcr w B g b n now aa ab ao ac L L T) (hd:zan (L.map KV.key)=true) (hE:zhj w B ad) (hn:n<=1000) (hs:∀t∈T,t.size<=200) (hT:3<=T.length) (hT2:T.length<=16) (hodd:T.length%2=1) (hac:T.length<=ac):
  Calls prog 197 #[.pointer (some ⟨g,0,none⟩)] w (zar w B g b now aa ab ao ac T ad (L.map KV.key) (za1 (L.map KV.key) (zf3 L (T.getD 0 empty) (za7 (zak L (T.getD 0 empty)).key.val.pj T.tail)) (zam (((za7 (zak L (T.getD 0 empty)).key.val.pj T.tail).length:Int)-((zak L (T.getD 0 empty)).key.val.pj.length:Int))))):=by
 have hz0:=zav hs 0;have hsm:=za8 hd (T.getD 0 empty);have hup:=zvi hd (T.getD 0 empty);obtain ⟨a1,n1,k1,a2,n2,k2,a3,n3,k3,e1,e2,e3,hH⟩:=h.held (by omega) hz0;have hko:=(h.keyOwn (T.getD 0 empty)).pj;have hloc:=h.pairsAt (T.getD 0 empty);rw [e2] at hko hloc;obtain ⟨xa,xc,xe⟩:=zad hko;injection xe with x1 x2 x3;subst x1 x2 x3;have HH:=hid hH;have HR:=hid fun W s=>za4 s W;have hTl:T.tail.length=T.length-1:=by simp
 have HWK:Hid (∀w1 wr k v X,Bl w w1->zxx w1 B (Value.slice a2 (zak L (T.getD 0 empty)).key.val.pj.length k2).ownBlock (zak L (T.getD 0 empty)).key.val.pj T.tail k v X wr->zcr wr B g b n now aa ab ao ac L (zbb L (T.getD 0 empty)) T/\Below B w wr):=fun w1 wr k v X hb hI=>by
  obtain ⟨q1,q2⟩:=(h.bw hb).grown (T.getD 0 empty) hI.gr hloc;exact ⟨q1,(hb.mono h.le).trans q2⟩
 have HPD:Hid (∀w1 wr k a' c' X,Bl w w1->zxx w1 B (Value.slice a2 (zak L (T.getD 0 empty)).key.val.pj.length k2).ownBlock (zak L (T.getD 0 empty)).key.val.pj T.tail k (.slice a' X.length c') X wr->k<=8->2*k+1<T.tail.length->Cp 249 #[.slice a' X.length c',.string (T.getD (1+2*k) empty),.string (T.getD (1+2*k+1) empty)] wr fun e w'=>∃a4 c4 X',e= .returned (.slice a4 X'.length c4)/\zxx w1 B (Value.slice a2 (zak L (T.getD 0 empty)).key.val.pj.length k2).ownBlock (zak L (T.getD 0 empty)).key.val.pj T.tail (k+1) (.slice a4 X'.length c4) X' w'):=fun w1 wr k a' c' X hb hI hk8 hk=>by
  have:=yb8 a' c' X (T.tail.getD (2*k) empty) (T.tail.getD (2*k+1) empty) B wr hI.own hI.up (by have:=hI.len;have:=hsm.np;omega) (Qj (h.bw hb).le hI.gr.size);rw [zis,zis,show 2*k+1=1+2*k by omega] at this;refine this.mono fun e w' he=>?_;rw [show T.getD (1+2*k) empty=T.tail.getD (2*k) empty by rw [zis,show 2*k+1=1+2*k by omega],show T.getD (1+2*k+1) empty=T.tail.getD (2*k+1) empty by rw [zis,show 2*k+1+1=1+2*k+1 by omega]] at he;obtain ⟨a4,c4,q1,q2⟩:=hI.next hk he;exact ⟨a4,c4,_,q1,q2⟩
 have HARG:Hid (∀wr,Below B w wr->∀i,i<T.length->wr.cell? ⟨ab,ao+i,none⟩=some (.string (T.getD i empty))):=fun wr hb i hi=> (h.arg i hi).2 wr hb;have HLV:Hid (∀w1 wr W a' c' r,Bl w w1->zxx w1 B (Value.slice a2 (zak L (T.getD 0 empty)).key.val.pj.length k2).ownBlock (zak L (T.getD 0 empty)).key.val.pj T.tail ((T.length-1)/2) (.slice a' (za7 (zak L (T.getD 0 empty)).key.val.pj T.tail).length c') (za7 (zak L (T.getD 0 empty)).key.val.pj T.tail) wr->Bl wr W->zbe W wr.heap.size r (zam (((za7 (zak L (T.getD 0 empty)).key.val.pj T.tail).length:Int)-((zak L (T.getD 0 empty)).key.val.pj.length:Int)))->Cp 244 #[.pointer (some ⟨g,0,none⟩),.iface 233 (.slice a' (za7 (zak L (T.getD 0 empty)).key.val.pj T.tail).length c')] W fun e w2=>∃er,e= .returned er/\zar w B g b now aa ab ao ac T ad (L.map KV.key) (za1 (L.map KV.key) (zf3 L (T.getD 0 empty) (za7 (zak L (T.getD 0 empty)).key.val.pj T.tail)) (zam (((za7 (zak L (T.getD 0 empty)).key.val.pj T.tail).length:Int)-((zak L (T.getD 0 empty)).key.val.pj.length:Int)))) (.returned (.tuple #[r,er])) w2):=fun w1 wr W a' c' r hb hI hbW hr=>by
  obtain ⟨hwk,hbB⟩:=HWK.out w1 wr _ _ _ hb hI;have hwW:=hwk.bw hbW;have hbB2:=hbB.trans (hbW.mono hwk.le);have hE':=hE.bw hbB2;obtain ⟨he',hA'⟩:=hE'.er 1 (.inl rfl);refine (zlc B g b n now aa ab ao ac L T W a' c' _ hwW (zaf hI.own hbW) (fun x hx k hk hxk=>?_) (by omega) (by omega) (by have:=hI.len;have:=hsm.np;omega) hn hE'.rd he' hA').mono ?_
  ·rcases hI.loc with h1|⟨q,h1,h2⟩
   ·rw [h1] at hk;exact ((hloc k hk).2.2.2 x hx).2.1 hxk
   ·rw [h1] at hk;have hxo:=(h.vals.own x (zee hx).1).pj;have:=(zaz hxo hxk).2;have:=Option.some.inj hk;have:=hb.size;omega
  ·intro e w2 hl;have e0:=hl.1;refine ⟨_,e0,?_⟩;rw [e0] at hl;exact zdj h hd (hr.le hbB.size) hbB2 (Qj hbB.size hbW.size) hl
 have HST:Hid (∀w1,Bl w w1->zxx w1 B (Value.slice a2 (zak L (T.getD 0 empty)).key.val.pj.length k2).ownBlock (zak L (T.getD 0 empty)).key.val.pj T.tail 0 (.slice a2 (zak L (T.getD 0 empty)).key.val.pj.length k2) (zak L (T.getD 0 empty)).key.val.pj w1):=fun w1 hb=>⟨by rw [Nat.mul_zero,List.drop_zero],hup,by omega,zaf hko hb,za0 _ _,.inl rfl⟩;have HEQ:Hid (∀X,za7 X (T.tail.drop (2*((T.length-1)/2)))=(za7 (zak L (T.getD 0 empty)).key.val.pj T.tail)->X=(za7 (zak L (T.getD 0 empty)).key.val.pj T.tail)):=fun X hX=>by
  rw [List.drop_eq_nil_of_le (by rw [hTl];omega)] at hX;exact hX
 have HC2:=hid fun W (hb:Bl w W)=>(h.bw hb).call.c2;have hnp:=hsm.np;have hpl:∀w1 wr k v X,zxx w1 B (Value.slice a2 (zak L (T.getD 0 empty)).key.val.pj.length k2).ownBlock (zak L (T.getD 0 empty)).key.val.pj T.tail k v X wr->X.length<=20+k:=fun w1 wr k v X hI=>by have:=hI.len;omega
 have HPL:=hid hpl;obtain rfl:=h.call.args.addr (by omega);have hm1:(1:Int)<=(T.length:Int):=by omega
 have hm2:(1:Int)<(ac:Int):=by omega
 have hm3:(T.length:Int)<=(ac:Int):=by omega
 have hm4:1<ac:=by omega
 have hm5:¬ac=1:=by omega
 clear h hd hE hn hs hH hsm e1 e2 e3 hko hloc hup hpl;generalize hpp:za1 (L.map KV.key) (zf3 L (T.getD 0 empty) (za7 (zak L (T.getD 0 empty)).key.val.pj T.tail)) (zam (((za7 (zak L (T.getD 0 empty)).key.val.pj T.tail).length:Int)-((zak L (T.getD 0 empty)).key.val.pj.length:Int)))=pp at*;generalize L.map KV.key=ks,(zak L (T.getD 0 empty)).key.val.kind=kd,(zak L (T.getD 0 empty)).key.val.text=tx at*;generalize hPS:(zak L (T.getD 0 empty)).key.val.pj=Ps at*;obtain ⟨XA,hXA⟩:∃XA,za7 Ps T.tail=XA:=⟨_,rfl⟩;rw [hXA] at HLV HEQ;have HXA:=hid hXA;have HPS:=hid hnp;clear hpp hXA hPS;obtain ⟨il,hil⟩:∃il,Ps.length=il:=⟨_,rfl⟩;rw [hil] at HH HWK HPD HLV HST HPL hnp;have HIL:=hid hil;clear hil;have hf:=fun W=>zld (.int .i64 kd) (.string tx) (.slice a1 n1 k1) (.slice a2 il k2) (.slice a3 n3 k3) W;obtain ⟨m,hmm⟩:∃m,T.length=m:=⟨_,rfl⟩;rw [hmm] at HLV HARG HEQ HC2 hm1 hm3 hT hT2 hodd hac hTl;have HTL:=hid hTl;clear hTl hmm;go_enter func197,ntmps197;go_wp2_with fail;refine (HH.out _ (Qb _ _)).mono ?_;rintro e w1 ⟨rfl,b1⟩;have HB1:=hid b1;have c2:=HC2.out w1 b1;have HS1:=HST.out w1 b1;have HS:Hid _:=HS1;clear b1 HH HC2 HST HS1;go_wp2;go_loopg [4,6] m (fun kx s4 s6 wr=>∃(k:Nat) (X:List Pr) (a':Option Addr) (c':Nat) (aw:Option Addr),2*k<=m-1/\s4= .slice a' X.length c'/\s6= .slice aw (m-1-2*k) (ac-1-2*k)/\(2*k<m-1->aw=some ⟨ab,ao+1+2*k,none⟩)/\m-1-2*k<=kx/\Hid (zxx w1 B (Value.slice a2 il k2).ownBlock Ps T.tail k (.slice a' X.length c') X wr))
 case atStart=>exact ⟨0,Ps,a2,k2,some ⟨ab,ao+1,none⟩,by omega,by rw [HIL.out],rfl,fun _=>rfl,by omega,by rw [HIL.out];exact HS⟩
 case round=>
  clear HS c2;obtain ⟨k,X,a',c',aw,hk,rfl,rfl,haw,hkx,hI⟩:=hrel;by_cases hlt:2*k<m-1
  ·obtain rfl:=haw hlt;obtain ⟨hwk,hbB⟩:=HWK.out w1 wr k _ X HB1.out hI.out;have HCL:Hid (∀V k' v' X',zxx w1 B (Value.slice a2 il k2).ownBlock Ps T.tail k' v' X' V->V.cell? ⟨ab,ao+1+2*k,none⟩=some (.string (T.getD (1+2*k) empty))/\V.cell? ⟨ab,ao+1+2*k+1,none⟩=some (.string (T.getD (1+2*k+1) empty))):=fun V k' v' X' hv=>by
    have hb:=(HWK.out w1 V k' v' X' HB1.out hv).2;have q1:=HARG.out V hb (1+2*k) (by omega);have q2:=HARG.out V hb (1+2*k+1) (by omega);rw [show ao+(1+2*k)=ao+1+2*k by omega] at q1;rw [show ao+(1+2*k+1)=ao+1+2*k+1 by omega] at q2;exact ⟨q1,q2⟩
   have HP:=hid fun W (hv:zxx w1 B (Value.slice a2 il k2).ownBlock Ps T.tail k (.slice a' X.length c') X W)=>HPD.out w1 W k a' c' X HB1.out hv (by omega) (by rw [HTL.out];omega);have HID:Hid (zxx w1 B (Value.slice a2 il k2).ownBlock Ps T.tail k (.slice a' X.length c') X wr.drew):=⟨hI.out.eq,hI.out.up,hI.out.len,hI.out.own,⟨hI.out.gr.os,hI.out.gr.tape,hI.out.gr.output,hI.out.gr.size,hI.out.gr.block⟩,hI.out.loc⟩;clear hwk hbB;obtain ⟨r,hr⟩:∃r,m-1-2*k=r:=⟨_,rfl⟩;obtain ⟨q,hq⟩:∃q,ac-1-2*k=q:=⟨_,rfl⟩;have hr2:2<=r:=by omega
   have hrq:r<=q:=by omega
   have hkr:m-1-2*(k+1)=r-2:=by omega
   have hkq:ac-1-2*(k+1)=q-2:=by omega
   rw [hr,hq];have HRQ:Hid (m-1-2*(k+1)=r-2/\ac-1-2*(k+1)=q-2/\m-1-2*k=r):=⟨hkr,hkq,hr⟩;clear hkr hkq hr hq haw;have hg1:decide ((2:Int)<=(r:Int))=true:=Qe (by omega);have hg2:(0:Int)<(r:Int):=by omega
   have hg3:(1:Int)<(r:Int):=by omega
   have hg4:(2:Int)<=(r:Int):=by omega
   have hg5:(r:Int)<=(q:Int):=by omega
   have hg6:0<r:=by omega
   generalize T.getD (1+2*k) empty=t0,T.getD (1+2*k+1) empty=t1 at*;obtain ⟨u0,u1⟩:=HCL.out wr.drew _ _ _ HID.out;go_upto_region 6 with fail;go_region_held3 (fun V=>V.cell? ⟨ab,ao+1+2*k,none⟩=some (.string t0)/\V.cell? ⟨ab,ao+1+2*k+1,none⟩=some (.string t1))
    (first|exact HCL.out _ _ _ _ hI.out|exact ⟨u0,u1⟩|exact hs9)
    (first
     |(go_at_call 249;refine (HP.out _ HID.out).mono ?_;rintro e w3 ⟨a4,c4,X',rfl,hI3⟩;have hs9:=HCL.out w3 _ _ _ hI3))
   all_goals
    have HI3:=hid hI3;clear hI3 hs9 HP HCL HID u0 u1 hI;by_cases hq2:q=2
    ·obtain rfl:r=2:=by omega
     subst hq2;go_wp2;go_roundg 0
     case measure=>have:=HRQ.out.2.2;omega
     case rel=>exact ⟨k+1,X',a4,c4,some ⟨ab,ao+1+2*k,none⟩,by omega,rfl,by rw [HRQ.out.1,HRQ.out.2.1],fun h=>by have:=HRQ.out.1;omega,by have:=HRQ.out.1;omega,HI3⟩
    ·have hq3:¬(q=2):=hq2;go_wp2;go_roundg (r-2)
     case measure=>have:=HRQ.out.2.2;omega
     case rel=>exact ⟨k+1,X',a4,c4,some ⟨ab,ao+1+2*k+2,none⟩,by omega,rfl,by rw [HRQ.out.1,HRQ.out.2.1],fun _=>by rw [show ao+1+2*(k+1)=ao+1+2*k+2 by omega],by have:=HRQ.out.1;omega,HI3⟩
  ·have hkm:2*k=m-1:=by omega
   obtain rfl:k=(m-1)/2:=by omega
   obtain rfl:X=XA:=HEQ.out X (by rw [hI.out.eq];exact HXA.out);have hlx:=HPL.out _ _ _ _ _ hI.out;have HLV2:=hid fun W r (hb:Bl wr W) (hr:zbe W wr.heap.size r (zam ((X.length:Int)-(il:Int))))=>HLV.out w1 wr W a' c' r HB1.out hI.out hb hr;have hwr:IntKind.i64.wrap ((X.length:Int)-(il:Int))=(X.length:Int)-(il:Int):=by rw [IntKind.wrap_i64];omega
   have hz:m-1-2*((m-1)/2)=0:=by omega
   rw [hz];clear hI HLV HPD HWK HPL HEQ HXA haw hkx hz hlt hk hkm;generalize X.length=xl at*;go_wp2_with fail;refine (HR.out _ _).mono ?_;rintro e w3 ⟨r,rfl,hr,hb⟩;have H3:=hid (HLV2.out w3 r hb hr);clear hr hb HR HLV2;go_wp2_with fail;refine H3.out.mono ?_;rintro e w4 ⟨er,rfl,hact⟩;have HF:Hid _:=hact;clear hact H3;go_wp2;go_ret2;exact HF.out
end Go.Proofs.YtokafonppgppdaaGreatDoor.Rb
