import Derived.Test.YtokafonppgppdaaGreatDoorR32
import Derived.Shelf.Spec.SlicesInsert
import Derived.Shelf.SlSortCmp.WholeK
set_option maxHeartbeats 4000000
set_option maxRecDepth 100000
namespace Go.Proofs.YtokafonppgppdaaGreatDoor
namespace Rb
open Tryz
open _root_.ByteArray (empty)
open Go.RowKit Go.Maps
open Ri (F4 RK UpK Fq G2 Nb Mk Ln kvA z7 Ow Rv Ou Ru)
variable {w:World} {B i cap g:Nat} {V:Value} {P:Program} {ps X:List Pr} {p:Pr} {nm tx:ByteArray} {e:Ending}
theorem yhp(x y:ByteArray):(x.toList==y.toList)=decide (x=y):=by
 rw[Bool.eq_iff_iff,beq_iff_eq,decide_eq_true_iff,ByteArray.toList_eq,ByteArray.toList_eq];exact⟨fun e=>ByteArray.ext (Array.toList_inj.1 e),fun e=>by rw[e]⟩
theorem yc3(a:Option Addr)(b o n c:Nat)(X:List ByteArray)(s:ByteArray)(w:World)(h:Fs w a b o n X)(hn:n<=1048576):
  Calls prog 301 #[.slice a n c,.string s] w fun e w'=>(∃r:Int,e=.returned (.int .i64 r)/\(0<=r↔s∈X))/\w'=w:=by
 have H:=hid h;have HL:=hid h.len;clear h;go_enter func301,ntmps301;go_wp2;go_loop [8] (fun i=>∃k:Nat,k<=n/\i=.int .i64 k/\Hid (∀j,j<k->X.getD j empty≠s)) (fun i=>n-(intOf i).toNat)
 case atStart=>exact⟨0,by omega,rfl,fun j hj=>by omega⟩
 case round=>
  obtain⟨k,hk,rfl,hp⟩:=hrel;by_cases hlt:k<n
  ·have c0:=H.out.cell k hlt;have Ga:k<X.length:=by rw[HL.out];exact hlt
   have HM:Hid (X.getD k empty∈X):=by unfold Hid;rw[Qa,Qd Ga];exact Qv Ga
   obtain rfl:=H.out.addr (by omega);have HP:Hid (X.getD k empty≠s->∀j,j<k+1->X.getD j empty≠s):=fun h j hj=>by
    by_cases e:j=k
    ·subst e;exact h
    ·exact hp.out j (by omega)
   have Gb:=yhp s (X.getD k empty);clear hp;generalize X.getD k empty=x at*;by_cases hx:s=x
   ·rw[Qe hx]at Gb;have HF:Hid (0<=(k:Int)↔s∈X):=⟨fun _=>by rw[hx];exact HM.out,fun _=>by omega⟩;have Gc:(k:Int)<(n:Int):=by omega
    clear hx HP HM;go_wp2;go_ret;exact⟨⟨k,rfl,HF.out⟩,rfl⟩
   ·rw[Qf hx]at Gb;have Gd:=hid (HP.out (fun e=>hx e.symm));have Gc:(k:Int)<(n:Int):=by omega
    clear hx HP HM;go_wp2;go_round
    case rel=>exact⟨k+1,by omega,by go_num,Gd⟩
    case measure=>simp[intOf];omega
  ·obtain rfl:k=n:=by omega
   have HF:Hid (0<=(-1:Int)↔s∈X):=by
    refine⟨fun h=>by omega,fun h=>?_⟩;obtain⟨j,hj,e⟩:=List.getElem_of_mem h;have:=hp.out j (by rw[<-HL.out];exact hj);rw[Qa,Qd hj]at this;exact absurd e this
   clear hp;go_wp2;go_ret;exact⟨⟨-1,rfl,HF.out⟩,rfl⟩
theorem zj6(s:ByteArray):∀X:List ByteArray,X.contains s=true↔s∈X
 |[]=>by simp
 |x::r=>by rw[List.contains_cons,Bool.or_eq_true,Cy,decide_eq_true_iff,zj6 s r,List.mem_cons]
theorem zmi(a:Option Addr)(b o n c:Nat)(X:List ByteArray)(s:ByteArray)(w:World)(h:Fs w a b o n X)(hn:n<=1048576):
  Calls prog 278 #[.slice a n c,.string s] w fun e w'=>e=.returned (.bool (X.contains s))/\w'=w:=by
 have HI:=hid (yc3 a b o n c X s w h hn);go_enter func278,ntmps278;go_wp2_with fail;refine HI.out.mono ?_;rintro e w1⟨⟨r,rfl,hr⟩,e1⟩;subst e1;have HF:Hid (decide (0<=r)=X.contains s):=by
  unfold Hid;rw[Bool.eq_iff_iff,decide_eq_true_iff,hr,zj6]
 go_wp2;go_ret;exact⟨by rw[<-HF.out];rfl,rfl⟩
theorem zq9{M:List Kk.Rk}(x:Kk.Rk)(h:Kk.Fo w B V M)(hn:M.length<=1048577)(hB:B<=w.heap.size):
  ∃v' w',(Builtin.append_ #[43,43] 43 #[V,.slice (some ⟨w.heap.size,0,none⟩) 1 1]).run prog (w.alloc (.cells #[.string x.m,.int .i64 x.s] 147))=.ok v' w'/\Kk.Fo w' B v' (M++ [x])/\Below B w w'/\w.grownBy w' V.ownBlock:=by
 obtain⟨i0,hi,Gg,Gf,Gd⟩:=info_parts Kk.U5;have Gc:Bl w (w.alloc (.cells #[.string x.m,.int .i64 x.s] 147)):=(Qb _ w).alloc (Qc _) _;have oA:=Fw h Gc
 obtain⟨v',w',Gb,Ga,hg,_,Ge⟩:=run_append_own_at (P:=prog) (w.alloc (.cells #[.string x.m,.int .i64 x.s] 147)) B 43 43 147 i0 _ 2 24 underlying43 hi Gg Gf Gd rfl (by decide) V M.length (Kk.G6 M) oA ⟨w.heap.size,0,none⟩ 1 1 [.string x.m,.int .i64 x.s] rfl (fun j u hj=>by
  rw[Addr.add_lit,Qq];exact((Fc.new w 147 #[.string x.m,.int .i64 x.s]).cell j).trans (by simpa using hj)) (fun u hu=>by simp at hu;rcases hu with rfl|rfl<;>rfl) (by unfold maxLen;omega) (by omega) (by simp;omega)
 refine⟨v',w',Gb,?_,R4 (Qb _ w) hB h hg,?_⟩
 ·have e:Kk.G6 (M++ [x])=Kk.G6 M++ [.string x.m,.int .i64 x.s]:=by unfold Kk.G6;rw[List.flatMap_append];rfl
  unfold Kk.Fo;rw[Qi,e];exact Ga
 ·have hs:(w.alloc (.cells #[.string x.m,.int .i64 x.s] 147)).heap.size=w.heap.size+1:=by simp
  exact⟨hg.os,hg.tape,hg.output,by have:=hg.size;omega,fun k hk hne=>(hg.block k (by omega) hne).trans (Gc.block k hk)⟩
theorem yau(x:Pr)(w:World):Calls prog 252 #[.agg #[.string x.1,.string x.2]] w fun e w'=>e=.returned (.string x.1)/\Bl w w':=by
 obtain⟨W0,Ga,Gb,b0,q0⟩:=boxed w #[.string x.1,.string x.2] 145;have c0:=q0.cell 0;have HB:=hid b0;simp only[Qm,Qk]at c0;go_enter func252,ntmps252;go_wp2;go_ret;exact⟨rfl,HB.out⟩
theorem zo2(a:Option Addr)(b n c:Nat)(ps:List Pr)(xa:Option Addr)(xb xo xn xc:Nat)(X:List ByteArray)(w:World)(h:Li w a b n ps)(hx:Fs w xa xb xo xn X)(hn:n<=1000)(hxn:xn<=1000):
  Calls prog 251 #[.slice a n c,.slice xa xn xc,.func (.func 252) #[] #[]] w fun e w'=>∃v,e=.returned v/\G3 w' w.heap.size v (ps.filter fun p=>!(X.contains p.1))/\Bl w w':=by
 have H:=hid h;have HL:=hid h.len;have HX:=hid hx;have HC:=hid fun W t (hb:Bl w W)=>zmi xa xb xo xn xc X t W (Lb hx hb) (by omega);have HN:Hid (∀W (x:Pr),Cp 252 #[.agg #[.string x.1,.string x.2]] W fun e w'=>e=.returned (.string x.1)/\Bl W w'):=fun W x=>yau x W;have HS:Hid (G3 w w.heap.size (.slice none 0 0) ((ps.take 0).filter fun p=>!(X.contains p.1))/\Bl w w):=⟨World.ownsRow_nil _ _ _ _,Qb _ _⟩;go_enter func251,ntmps251;go_wp2;go_loopw [7,12] (fun v i wr=>∃k:Nat,k<=n/\i=.int .i64 k/\Hid (G3 wr w.heap.size v ((ps.take k).filter fun p=>!(X.contains p.1))/\Bl w wr)) (fun _ i _=>n-(intOf i).toNat)
 case atStart=>exact⟨0,by omega,rfl,HS⟩
 case round=>
  obtain⟨k,hk,rfl,hI⟩:=hrel;by_cases hlt:k<n
  ·have Gg:=hI.out.2;have Gi:k<ps.length:=by rw[HL.out];exact hlt
   have d0:=(H.out.bw Gg).c0 k hlt;have d1:=(H.out.bw Gg).c1 k hlt;obtain rfl:=H.out.addr (by omega);obtain⟨x,Gf⟩:∃x,ps.getD k (bz,bz)=x:=⟨_,rfl⟩;rw[Gf]at d0 d1;have Gc:Hid ((ps.take (k+1)).filter (fun p=>!(X.contains p.1))=(ps.take k).filter (fun p=>!(X.contains p.1))++if X.contains x.1=true then[] else[x]):=by
    unfold Hid;rw[Qo Gi,List.filter_append];have e:ps[k]=x:=by rw[<-Gf,Qa,Qd Gi];rfl
    rw[e];cases hc:X.contains x.1 with
    |true=>rw[if_pos rfl,List.filter_cons_of_neg (by rw[hc];simp)];rfl
    |false=>rw[if_neg (by simp),List.filter_cons_of_pos (by rw[hc];rfl)];rfl
   obtain⟨W0,Gp,Gn,b0,q0⟩:=boxed wr #[.string ⟨#[]⟩,.string ⟨#[]⟩] 145;have Gh:=q0.set 0 (.string x.1);have Ga:=Gh.set 1 (.string x.2);have hl:=Qc wr.heap.size;have b4:Bl wr ((W0.setCell ⟨wr.heap.size,0,none⟩ (.string x.1)).setCell ⟨wr.heap.size,1,none⟩ (.string x.2)):=(b0.setCell hl _).setCell hl _;obtain⟨W4,Gl⟩:∃W4,(W0.setCell ⟨wr.heap.size,0,none⟩ (.string x.1)).setCell ⟨wr.heap.size,1,none⟩ (.string x.2)=W4:=⟨_,rfl⟩;rw[Gl]at Ga b4;have y0:=q0.cell 0;have y1:=q0.cell 1;have z0:=q0.frozen 0;have z1:=q0.frozen 1;have u0:=Ga.cell 0;have u1:=Ga.cell 1;simp only[Qm,Qk,Ql]at y0 y1 u0 u1;have HW:Hid (∀W5,Bl W4 W5->(G3 W5 w.heap.size u7 ((ps.take k).filter (fun p=>!(X.contains p.1)))/\Bl w W5)/\W5.cell? ⟨wr.heap.size,0,none⟩=some (.string x.1)/\W5.cell? ⟨wr.heap.size,1,none⟩=some (.string x.2)):=fun W5 hb=>by
    have b5:=b4.trans (hb.mono b4.size);have r5:=Ga.bw hb Ga.lt;exact⟨⟨Fw hI.out.1 b5,hI.out.2.trans (b5.mono hI.out.2.size)⟩,r5.cell 0,r5.cell 1⟩
   have Gm:((ps.take k).filter (fun p=>!(X.contains p.1))).length<=1048577:=Qj (Qt _ _) (by rw[Qn];omega);have Ge:Hid (∀W,Bl w W->Cp 278 #[.slice xa xn xc,.string (x.1)] W fun e w'=>e=.returned (.bool (X.contains (x.1)))/\w'=W):=fun W hb=>HC.out W _ hb;have Gd:=hid fun W=>HN.out W x;generalize hcc:X.contains x.1=cc at*;have Gq:(k:Int)<(n:Int):=by omega
   cases cc with
   |true=>
    rw[if_pos rfl,List.append_nil]at Gc;go_wp2_with fail;refine(Gd.out _).mono ?_;rintro e w5⟨rfl,b5⟩;have H5:Hid _:=HW.out w5 b5;go_wp2_with fail;refine(Ge.out _ H5.out.1.2).mono ?_;rintro e w6⟨rfl,e6⟩;subst e6;go_wp2;go_round
    case rel=>exact⟨k+1,by omega,by go_num,by rw[Gc.out];exact H5.out.1⟩
    case measure=>simp[intOf];omega
   |false=>
    rw[if_neg (by simp)]at Gc;go_wp2_with fail;refine(Gd.out _).mono ?_;rintro e w5⟨rfl,b5⟩;have H5:Hid _:=HW.out w5 b5;obtain⟨v',w7,Gb,Gj,Gk,-⟩:=zqm x H5.out.1.1 Gm H5.out.1.2.size;have R7:Hid _:=Gb;have H7:Hid (G3 w7 w.heap.size v' ((ps.take (k+1)).filter (fun p=>!(X.contains p.1)))/\Bl w w7):=by
     rw[Gc.out];exact⟨Gj,H5.out.1.2.trans Gk⟩
    obtain⟨v0,v1⟩:=H5.out.2;go_wp2_with fail;refine(Ge.out _ H5.out.1.2).mono ?_;rintro e w6⟨rfl,e6⟩;subst e6;go_wp2_with (at_builtin;refine wpList_append_run rfl _ _ 42 rfl rfl rfl R7.out ?_);exact⟨⟨k+1,by omega,by go_num,H7⟩,by simp[intOf];omega⟩
  ·obtain rfl:k=n:=by omega
   have HF:Hid (G3 wr w.heap.size u7 (ps.filter (fun p=>!(X.contains p.1)))/\Bl w wr):=by
    have:=hI.out;rwa[<-HL.out,List.take_length]at this
   go_wp2;go_ret;exact⟨_,rfl,HF.out⟩
theorem ztk(x:Kk.Rk)(w:World):Calls prog 257 #[.agg #[.string x.m,.int .i64 x.s]] w fun e w'=>e=.returned (.string x.m)/\Bl w w':=by
 obtain⟨W0,Ga,Gb,b0,q0⟩:=boxed w #[.string x.m,.int .i64 x.s] 147;have c0:=q0.cell 0;have HB:=hid b0;simp only[Qm,Qk]at c0;go_enter func257,ntmps257;go_wp2;go_ret;exact⟨rfl,HB.out⟩
theorem zo4(a:Option Addr)(b n c:Nat)(ps:List Kk.Rk)(xa:Option Addr)(xb xo xn xc:Nat)(X:List ByteArray)(w:World)(h:Kk.F7 w a b 0 n ps)(hx:Fs w xa xb xo xn X)(hn:n<=1000)(hxn:xn<=1000):
  Calls prog 256 #[.slice a n c,.slice xa xn xc,.func (.func 257) #[] #[]] w fun e w'=>∃v,e=.returned v/\Kk.Fo w' w.heap.size v (ps.filter fun p=>!(X.contains p.m))/\Bl w w':=by
 have H:=hid h;have HL:=hid h.len;have HX:=hid hx;have HC:=hid fun W t (hb:Bl w W)=>zmi xa xb xo xn xc X t W (Lb hx hb) (by omega);have HN:Hid (∀W (x:Kk.Rk),Cp 257 #[.agg #[.string x.m,.int .i64 x.s]] W fun e w'=>e=.returned (.string x.m)/\Bl W w'):=fun W x=>ztk x W;have HS:Hid (Kk.Fo w w.heap.size (.slice none 0 0) ((ps.take 0).filter fun p=>!(X.contains p.m))/\Bl w w):=⟨World.ownsRow_nil _ _ _ _,Qb _ _⟩;go_enter func256,ntmps256;go_wp2;go_loopw [7,12] (fun v i wr=>∃k:Nat,k<=n/\i=.int .i64 k/\Hid (Kk.Fo wr w.heap.size v ((ps.take k).filter fun p=>!(X.contains p.m))/\Bl w wr)) (fun _ i _=>n-(intOf i).toNat)
 case atStart=>exact⟨0,by omega,rfl,HS⟩
 case round=>
  obtain⟨k,hk,rfl,hI⟩:=hrel;by_cases hlt:k<n
  ·have Gg:=hI.out.2;have Gi:k<ps.length:=by rw[HL.out];exact hlt
   have d0:=((H.out.bw Gg).cell k hlt).c0;have d1:=((H.out.bw Gg).cell k hlt).c1;rw[Qq]at d0 d1;obtain rfl:=H.out.addr (by omega);obtain⟨x,Gf⟩:∃x,ps.getD k Kk.rk0=x:=⟨_,rfl⟩;rw[Gf]at d0 d1;have Gc:Hid ((ps.take (k+1)).filter (fun p=>!(X.contains p.m))=(ps.take k).filter (fun p=>!(X.contains p.m))++if X.contains x.m=true then[] else[x]):=by
    unfold Hid;rw[Qo Gi,List.filter_append];have e:ps[k]=x:=by rw[<-Gf,Qa,Qd Gi];rfl
    rw[e];cases hc:X.contains x.m with
    |true=>rw[if_pos rfl,List.filter_cons_of_neg (by rw[hc];simp)];rfl
    |false=>rw[if_neg (by simp),List.filter_cons_of_pos (by rw[hc];rfl)];rfl
   obtain⟨W0,Gp,Gn,b0,q0⟩:=boxed wr #[.string ⟨#[]⟩,.int .i64 0] 147;have Gh:=q0.set 0 (.string x.m);have Ga:=Gh.set 1 (.int .i64 x.s);have hl:=Qc wr.heap.size;have b4:Bl wr ((W0.setCell ⟨wr.heap.size,0,none⟩ (.string x.m)).setCell ⟨wr.heap.size,1,none⟩ (.int .i64 x.s)):=(b0.setCell hl _).setCell hl _;obtain⟨W4,Gl⟩:∃W4,(W0.setCell ⟨wr.heap.size,0,none⟩ (.string x.m)).setCell ⟨wr.heap.size,1,none⟩ (.int .i64 x.s)=W4:=⟨_,rfl⟩;rw[Gl]at Ga b4;have y0:=q0.cell 0;have y1:=q0.cell 1;have z0:=q0.frozen 0;have z1:=q0.frozen 1;have u0:=Ga.cell 0;have u1:=Ga.cell 1;simp only[Qm,Qk,Ql]at y0 y1 u0 u1;have HW:Hid (∀W5,Bl W4 W5->(Kk.Fo W5 w.heap.size u7 ((ps.take k).filter (fun p=>!(X.contains p.m)))/\Bl w W5)/\W5.cell? ⟨wr.heap.size,0,none⟩=some (.string x.m)/\W5.cell? ⟨wr.heap.size,1,none⟩=some (.int .i64 x.s)):=fun W5 hb=>by
    have b5:=b4.trans (hb.mono b4.size);have r5:=Ga.bw hb Ga.lt;exact⟨⟨Fw hI.out.1 b5,hI.out.2.trans (b5.mono hI.out.2.size)⟩,r5.cell 0,r5.cell 1⟩
   have Gm:((ps.take k).filter (fun p=>!(X.contains p.m))).length<=1048577:=Qj (Qt _ _) (by rw[Qn];omega);have Ge:Hid (∀W,Bl w W->Cp 278 #[.slice xa xn xc,.string (x.m)] W fun e w'=>e=.returned (.bool (X.contains (x.m)))/\w'=W):=fun W hb=>HC.out W _ hb;have Gd:=hid fun W=>HN.out W x;generalize hcc:X.contains x.m=cc at*;have Gq:(k:Int)<(n:Int):=by omega
   cases cc with
   |true=>
    rw[if_pos rfl,List.append_nil]at Gc;go_wp2_with fail;refine(Gd.out _).mono ?_;rintro e w5⟨rfl,b5⟩;have H5:Hid _:=HW.out w5 b5;go_wp2_with fail;refine(Ge.out _ H5.out.1.2).mono ?_;rintro e w6⟨rfl,e6⟩;subst e6;go_wp2;go_round
    case rel=>exact⟨k+1,by omega,by go_num,by rw[Gc.out];exact H5.out.1⟩
    case measure=>simp[intOf];omega
   |false=>
    rw[if_neg (by simp)]at Gc;go_wp2_with fail;refine(Gd.out _).mono ?_;rintro e w5⟨rfl,b5⟩;have H5:Hid _:=HW.out w5 b5;obtain⟨v',w7,Gb,Gj,Gk,-⟩:=zq9 x H5.out.1.1 Gm H5.out.1.2.size;have R7:Hid _:=Gb;have H7:Hid (Kk.Fo w7 w.heap.size v' ((ps.take (k+1)).filter (fun p=>!(X.contains p.m)))/\Bl w w7):=by
     rw[Gc.out];exact⟨Gj,H5.out.1.2.trans Gk⟩
    obtain⟨v0,v1⟩:=H5.out.2;go_wp2_with fail;refine(Ge.out _ H5.out.1.2).mono ?_;rintro e w6⟨rfl,e6⟩;subst e6;go_wp2_with (at_builtin;refine wpList_append_run rfl _ _ 43 rfl rfl rfl R7.out ?_);exact⟨⟨k+1,by omega,by go_num,H7⟩,by simp[intOf];omega⟩
  ·obtain rfl:k=n:=by omega
   have HF:Hid (Kk.Fo wr w.heap.size u7 (ps.filter (fun p=>!(X.contains p.m)))/\Bl w wr):=by
    have:=hI.out;rwa[<-HL.out,List.take_length]at this
   go_wp2;go_ret;exact⟨_,rfl,HF.out⟩
def Ti (L:List KV) (nm:ByteArray) (X:List Pr):Ke:=⟨nm,⟨3,⟨#[]⟩,[],X,[]⟩,(Fb L nm).key.due⟩
def Pe (L:List KV) (nm:ByteArray) (X:List Kk.Rk):Ke:=⟨nm,⟨4,⟨#[]⟩,[],[],X⟩,(Fb L nm).key.due⟩
section
variable (B g b n:Nat) (now:Int) (aa:Option Addr) (ab ao ac:Nat) (L:List KV) (T:List ByteArray) (ad:Nat->Addr) (w:World)
theorem zx3(h:Fu w B g b n now aa ab ao ac L L T)(hd:Fm (L.map KV.key)=true)(hE:Lk w B ad)(hn:n<=1000)(hs:∀t∈T,t.size<=200)(hT:2<=T.length)(hT2:T.length<=16)(hac:T.length<=ac):
  Calls prog 199 #[.pointer (some ⟨g,0,none⟩)] w (F2 w B g b now aa ab ao ac T ad (L.map KV.key) (Fj (L.map KV.key) (Ti L (T.getD 0 empty) ((Fb L (T.getD 0 empty)).key.val.pj.filter (fun p=>!(T.tail.contains p.1)))) (Fe (((Fb L (T.getD 0 empty)).key.val.pj.length:Int)-(((Fb L (T.getD 0 empty)).key.val.pj.filter (fun p=>!(T.tail.contains p.1))).length:Int))))):=by
 have Gj:=Lh hs 0;have Gb:=N4 hd (T.getD 0 empty);obtain⟨a1,n1,k1,a2,n2,k2,a3,n3,k3,e1,e2,e3,hH⟩:=h.held (by omega) Gj;have Gd:=(h.keyOwn (T.getD 0 empty)).pj;obtain⟨xa,xA,xc,xe,xz⟩:=Ox Gd;rw[e2]at xe;injection xe with x1 x2 x3;subst x1 x2 x3;have HH:=hid hH;have Gi:T.tail.length=T.length-1:=by simp
 have Gg:=hid fun W (hb:Bl w W)=>zo2 a2 xA (Fb L (T.getD 0 empty)).key.val.pj.length k2 (Fb L (T.getD 0 empty)).key.val.pj _ ab (ao+1) (T.length-1) (ac-1) T.tail W (xz.bw hb) ((h.bw hb).tail hT) (by have:=Gb.np;omega) (by omega);have HR:=hid fun W s=>Pg s W;have Ge:=hid fun W (hb:Bl w W)=>(h.bw hb).call.c2;have Gc:=Qt (fun p=>!(T.tail.contains p.1)) (Fb L (T.getD 0 empty)).key.val.pj;have Gh:Hid (∀W a' c' r,Bl w W->G3 W w.heap.size (.slice a' ((Fb L (T.getD 0 empty)).key.val.pj.filter (fun p=>!(T.tail.contains p.1))).length c') ((Fb L (T.getD 0 empty)).key.val.pj.filter (fun p=>!(T.tail.contains p.1)))->Fr W w.heap.size r (Fe (((Fb L (T.getD 0 empty)).key.val.pj.length:Int)-(((Fb L (T.getD 0 empty)).key.val.pj.filter (fun p=>!(T.tail.contains p.1))).length:Int)))->Cp 244 #[.pointer (some ⟨g,0,none⟩),.iface 233 (.slice a' ((Fb L (T.getD 0 empty)).key.val.pj.filter (fun p=>!(T.tail.contains p.1))).length c')] W fun e w2=>∃er,e=.returned er/\F2 w B g b now aa ab ao ac T ad (L.map KV.key) (Fj (L.map KV.key) (Ti L (T.getD 0 empty) ((Fb L (T.getD 0 empty)).key.val.pj.filter (fun p=>!(T.tail.contains p.1)))) (Fe (((Fb L (T.getD 0 empty)).key.val.pj.length:Int)-(((Fb L (T.getD 0 empty)).key.val.pj.filter (fun p=>!(T.tail.contains p.1))).length:Int)))) (.returned (.tuple #[r,er])) w2):=fun W a' c' r hb ho hr=>by
  have Gf:=hE.bw (hb.mono h.le);obtain⟨Gl,Gk⟩:=Gf.er 1 (.inl rfl);refine(zlc B g b n now aa ab ao ac L T W a' c' _ ((h.bw hb).gone _) (L5 ho h.le) (fun x hx k hk hxk=>?_) (by omega) (by omega) (by have:=Gb.np;have:=Qt (fun p=>!(T.tail.contains p.1)) (Fb L (T.getD 0 empty)).key.val.pj;omega) hn Gf.rd Gl Gk).mono ?_
  ·have Gm:=(h.vals.own x (T2 hx).1).pj;have:=(Hf Gm hxk).2;have:=(Hf ho hk).1;omega
  ·intro e w2 hl;have e0:=hl.1;refine⟨_,e0,?_⟩;rw[e0]at hl;exact Pt h hd hr (hb.mono h.le) hb.size hl
 have Gr:IntKind.i64.wrap (((Fb L (T.getD 0 empty)).key.val.pj.length:Int)-(((Fb L (T.getD 0 empty)).key.val.pj.filter (fun p=>!(T.tail.contains p.1))).length:Int))=((Fb L (T.getD 0 empty)).key.val.pj.length:Int)-(((Fb L (T.getD 0 empty)).key.val.pj.filter (fun p=>!(T.tail.contains p.1))).length:Int):=by rw[IntKind.wrap_i64];have:=Gb.np;omega
 obtain rfl:=h.call.args.addr (by omega);have Gq:(1:Int)<=(T.length:Int):=by omega
 have Gt:(1:Int)<(ac:Int):=by omega
 have Gn:(T.length:Int)<=(ac:Int):=by omega
 have Gs:1<ac:=by omega
 have Gp:¬ac=1:=by omega
 generalize Fj (L.map KV.key) (Ti L (T.getD 0 empty) ((Fb L (T.getD 0 empty)).key.val.pj.filter (fun p=>!(T.tail.contains p.1)))) (Fe (((Fb L (T.getD 0 empty)).key.val.pj.length:Int)-(((Fb L (T.getD 0 empty)).key.val.pj.filter (fun p=>!(T.tail.contains p.1))).length:Int)))=pp at*;generalize L.map KV.key=ks,(Fb L (T.getD 0 empty)).key.val.kind=kd,(Fb L (T.getD 0 empty)).key.val.text=tx at*;generalize hLF:((Fb L (T.getD 0 empty)).key.val.pj.filter (fun p=>!(T.tail.contains p.1)))=XF at*;generalize(Fb L (T.getD 0 empty)).key.val.pj.length=il at*;have hf:=fun W=>B1 (.int .i64 kd) (.string tx) (.slice a1 n1 k1) (.slice a2 il k2) (.slice a3 n3 k3) W;generalize hmm:T.length=m at*;go_enter func199,ntmps199;go_wp2_with fail;refine(HH.out _ (Qb _ _)).mono ?_;rintro e w1⟨rfl,b1⟩;have HB:=hid b1;have c2:=Ge.out w1 b1;go_wp2_with fail;refine(Gg.out _ HB.out).mono ?_;rintro e w2⟨v,rfl,o2,b2⟩;obtain⟨a',c',e0⟩:=Fx o2;subst e0;have H2:Hid (G3 w2 w.heap.size (.slice a' XF.length c') XF/\Bl w w2):=⟨L5 o2 HB.out.size,HB.out.trans (b2.mono HB.out.size)⟩;generalize hxl:XF.length=xl at*;go_wp2_with fail;refine(HR.out _ _).mono ?_;rintro e w3⟨r,rfl,hr,hb⟩;have H3:=hid (Gh.out w3 a' c' r (H2.out.2.trans (hb.mono H2.out.2.size)) (by have:=Fw H2.out.1 hb;exact this) (hr.le H2.out.2.size));go_wp2_with fail;refine H3.out.mono ?_;rintro e w4⟨er,rfl,Ga⟩;have HF:Hid _:=Ga;go_wp2;go_ret2;exact HF.out
theorem zw6(h:Fu w B g b n now aa ab ao ac L L T)(hd:Fm (L.map KV.key)=true)(hE:Lk w B ad)(hn:n<=1000)(hs:∀t∈T,t.size<=200)(hT:2<=T.length)(hT2:T.length<=16)(hac:T.length<=ac):
  Calls prog 203 #[.pointer (some ⟨g,0,none⟩)] w (F2 w B g b now aa ab ao ac T ad (L.map KV.key) (Fj (L.map KV.key) (Pe L (T.getD 0 empty) ((Fb L (T.getD 0 empty)).key.val.rq.filter (fun p=>!(T.tail.contains p.m)))) (Fe (((Fb L (T.getD 0 empty)).key.val.rq.length:Int)-(((Fb L (T.getD 0 empty)).key.val.rq.filter (fun p=>!(T.tail.contains p.m))).length:Int))))):=by
 have Gj:=Lh hs 0;have Gb:=N4 hd (T.getD 0 empty);obtain⟨a1,n1,k1,a2,n2,k2,a3,n3,k3,e1,e2,e3,hH⟩:=h.held (by omega) Gj;have Gd:=(h.keyOwn (T.getD 0 empty)).rq;obtain⟨xa,xA,xc,xe,xz⟩:=Kk.N7 Gd;rw[e3]at xe;injection xe with x1 x2 x3;subst x1 x2 x3;have HH:=hid hH;have Gi:T.tail.length=T.length-1:=by simp
 have Gg:=hid fun W (hb:Bl w W)=>zo4 a3 xA (Fb L (T.getD 0 empty)).key.val.rq.length k3 (Fb L (T.getD 0 empty)).key.val.rq _ ab (ao+1) (T.length-1) (ac-1) T.tail W (xz.bw hb) ((h.bw hb).tail hT) (by have:=Gb.nr;omega) (by omega);have HR:=hid fun W s=>Pg s W;have Ge:=hid fun W (hb:Bl w W)=>(h.bw hb).call.c2;have Gc:=Qt (fun p=>!(T.tail.contains p.m)) (Fb L (T.getD 0 empty)).key.val.rq;have Gh:Hid (∀W a' c' r,Bl w W->Kk.Fo W w.heap.size (.slice a' ((Fb L (T.getD 0 empty)).key.val.rq.filter (fun p=>!(T.tail.contains p.m))).length c') ((Fb L (T.getD 0 empty)).key.val.rq.filter (fun p=>!(T.tail.contains p.m)))->Fr W w.heap.size r (Fe (((Fb L (T.getD 0 empty)).key.val.rq.length:Int)-(((Fb L (T.getD 0 empty)).key.val.rq.filter (fun p=>!(T.tail.contains p.m))).length:Int)))->Cp 244 #[.pointer (some ⟨g,0,none⟩),.iface 234 (.slice a' ((Fb L (T.getD 0 empty)).key.val.rq.filter (fun p=>!(T.tail.contains p.m))).length c')] W fun e w2=>∃er,e=.returned er/\F2 w B g b now aa ab ao ac T ad (L.map KV.key) (Fj (L.map KV.key) (Pe L (T.getD 0 empty) ((Fb L (T.getD 0 empty)).key.val.rq.filter (fun p=>!(T.tail.contains p.m)))) (Fe (((Fb L (T.getD 0 empty)).key.val.rq.length:Int)-(((Fb L (T.getD 0 empty)).key.val.rq.filter (fun p=>!(T.tail.contains p.m))).length:Int)))) (.returned (.tuple #[r,er])) w2):=fun W a' c' r hb ho hr=>by
  have Gf:=hE.bw (hb.mono h.le);obtain⟨Gl,Gk⟩:=Gf.er 1 (.inl rfl);refine(zl5 B g b n now aa ab ao ac L T W a' c' _ ((h.bw hb).gone _) (L5 ho h.le) (fun x hx k hk hxk=>?_) (by omega) (by omega) (by have:=Gb.nr;have:=Qt (fun p=>!(T.tail.contains p.m)) (Fb L (T.getD 0 empty)).key.val.rq;omega) (fun x hx=>by have:=Gb.rq x (List.mem_filter.1 hx).1;exact⟨by omega,by omega⟩) hn Gf.rd Gl Gk).mono ?_
  ·have Gm:=(h.vals.own x (T2 hx).1).rq;have:=(Hf Gm hxk).2;have:=(Hf ho hk).1;omega
  ·intro e w2 hl;have e0:=hl.1;refine⟨_,e0,?_⟩;rw[e0]at hl;exact Pt h hd hr (hb.mono h.le) hb.size hl
 have Gr:IntKind.i64.wrap (((Fb L (T.getD 0 empty)).key.val.rq.length:Int)-(((Fb L (T.getD 0 empty)).key.val.rq.filter (fun p=>!(T.tail.contains p.m))).length:Int))=((Fb L (T.getD 0 empty)).key.val.rq.length:Int)-(((Fb L (T.getD 0 empty)).key.val.rq.filter (fun p=>!(T.tail.contains p.m))).length:Int):=by rw[IntKind.wrap_i64];have:=Gb.nr;omega
 obtain rfl:=h.call.args.addr (by omega);have Gq:(1:Int)<=(T.length:Int):=by omega
 have Gt:(1:Int)<(ac:Int):=by omega
 have Gn:(T.length:Int)<=(ac:Int):=by omega
 have Gs:1<ac:=by omega
 have Gp:¬ac=1:=by omega
 generalize Fj (L.map KV.key) (Pe L (T.getD 0 empty) ((Fb L (T.getD 0 empty)).key.val.rq.filter (fun p=>!(T.tail.contains p.m)))) (Fe (((Fb L (T.getD 0 empty)).key.val.rq.length:Int)-(((Fb L (T.getD 0 empty)).key.val.rq.filter (fun p=>!(T.tail.contains p.m))).length:Int)))=pp at*;generalize L.map KV.key=ks,(Fb L (T.getD 0 empty)).key.val.kind=kd,(Fb L (T.getD 0 empty)).key.val.text=tx at*;generalize hLF:((Fb L (T.getD 0 empty)).key.val.rq.filter (fun p=>!(T.tail.contains p.m)))=XF at*;generalize(Fb L (T.getD 0 empty)).key.val.rq.length=il at*;have hf:=fun W=>Wq (.int .i64 kd) (.string tx) (.slice a1 n1 k1) (.slice a2 n2 k2) (.slice a3 il k3) W;generalize hmm:T.length=m at*;go_enter func203,ntmps203;go_wp2_with fail;refine(HH.out _ (Qb _ _)).mono ?_;rintro e w1⟨rfl,b1⟩;have HB:=hid b1;have c2:=Ge.out w1 b1;go_wp2_with fail;refine(Gg.out _ HB.out).mono ?_;rintro e w2⟨v,rfl,o2,b2⟩;obtain⟨a',c',e0⟩:=Fx o2;subst e0;have H2:Hid (Kk.Fo w2 w.heap.size (.slice a' XF.length c') XF/\Bl w w2):=⟨L5 o2 HB.out.size,HB.out.trans (b2.mono HB.out.size)⟩;generalize hxl:XF.length=xl at*;go_wp2_with fail;refine(HR.out _ _).mono ?_;rintro e w3⟨r,rfl,hr,hb⟩;have H3:=hid (Gh.out w3 a' c' r (H2.out.2.trans (hb.mono H2.out.2.size)) (by have:=Fw H2.out.1 hb;exact this) (hr.le H2.out.2.size));go_wp2_with fail;refine H3.out.mono ?_;rintro e w4⟨er,rfl,Ga⟩;have HF:Hid _:=Ga;go_wp2;go_ret2;exact HF.out
end
open Go.RowKit Go.Maps Go.Lib
section
variable (w:World)
theorem Dc(dT sT ty elem:TypeId)(size g o dLen dCap:Nat)(a:Addr)(sLen sCap:Nat)(cur:Array Value)(t:TypeId)(cs:List Value)
 (hu:P.underlying dT=some (.slice elem))(hs:(P.info? elem).map (·.size)=some size)
 (hg:w.heap[g]?=some (.cells cur t (0,0)))(hn:cs.length=Nat.min sLen dLen*size)
 (hsrc:∀j v,cs[j]?=some v->w.cell? (a.add j)=some v)(hfit:o+cs.length<=cur.size)(h1:∀v∈cs,v.oneCell'=true):
  (Builtin.copy_ #[dT,sT] ty #[.slice (some ⟨g,o,none⟩) dLen dCap,.slice (some a) sLen sCap]).run P w=
   .ok (goInt (Nat.min sLen dLen)) (w.setRow g (cur.toList.take o++cs++cur.toList.drop (o+cs.length)).toArray):=by
 have hl:=run_loadCells_list (P:=P) w a cs hsrc;have Gb:=run_storeCells_at P g o t cs 0 cur w hg (by simpa using hfit) h1;cases hq:P.info? elem with
 |none=>simp[hq]at hs
 |some i=>
  have hi:i.size=size:=by simpa[hq]using hs
  have Ga:(loadCells a (Nat.min sLen dLen*size)).run P w=.ok cs.toArray w:=by rw[<-hn];exact hl
  simp[Builtin.copy_,run_underlying hu,Builtin.lenOf,Builtin.firstCells,sizeOf,typeInfo,hq,hi,Ga,Gb]
theorem Ec(g:Nat)(cur C:Array Value)(t:TypeId)(hg:w.heap[g]?=some (.cells cur t (0,0))):(w.setRow g C).heap[g]?=some (.cells C t (0,0)):=setRow_heap w g cur C t _ hg
theorem Co(g k:Nat)(C:Array Value)(h:k≠g):(w.setRow g C).heap[k]?=w.heap[k]?:=by
 unfold World.setRow;rw[Array.getElem?_modify,if_neg (fun e=>h e.symm)]
theorem setRow_size(g:Nat)(C:Array Value):(w.setRow g C).heap.size=w.heap.size:=by
 unfold World.setRow;exact Array.size_modify
end
theorem Ee(ps:List Pr):∀v∈Fn ps,v.oneCell'=true:=fun v hv=>by
 unfold Fn at hv;obtain⟨p,_,hv⟩:=List.mem_flatMap.1 hv;unfold Uy at hv;simp at hv;rcases hv with rfl|rfl<;>rfl
theorem L3:∀ps:List Pr,(Fn ps).length=ps.length*2
 |[]=>rfl
 |p::r=>by
  have ih:=L3 r;unfold Fn at ih ⊢;rw[List.flatMap_cons,Qi,ih];simp[Uy];omega
theorem zlb(ps:List Pr)(i:Nat):Fn (ps.take i)=(Fn ps).take (i*2):=by
 by_cases hi:i<=ps.length
 ·have e:Fn ps=Fn (ps.take i)++Fn (ps.drop i):=by rw[<-Ta,List.take_append_drop]
  rw[e,List.take_append_of_le_length (by rw[L3,Qn];omega),List.take_of_length_le (l:=Fn (ps.take i)) (by rw[L3,Qn];omega)]
 ·rw[List.take_of_length_le (by omega),List.take_of_length_le (by rw[L3];omega)]
theorem zl7(ps:List Pr)(i:Nat):Fn (ps.drop i)=(Fn ps).drop (i*2):=by
 by_cases hi:i<=ps.length
 ·have e:Fn ps=Fn (ps.take i)++Fn (ps.drop i):=by rw[<-Ta,List.take_append_drop]
  rw[e,List.drop_append,L3,Qn,Nat.min_eq_left hi,Nat.sub_self,List.drop_zero,List.drop_eq_nil_of_le («as»:=Fn (ps.take i)) (by rw[L3,Qn];omega),List.nil_append]
 ·rw[List.drop_eq_nil_of_le (by omega),List.drop_eq_nil_of_le (by rw[L3];omega)];rfl
theorem D7:(prog.info? 145).map (·.size)=some 2:=by
 obtain⟨i0,hi,h0,h1,h2⟩:=info_parts Ub;rw[hi];simp[h1]
theorem zyy{cur:List Value}(hc:cur.length=cap*2)(hx:cur.take (ps.length*2)=Fn ps)(hi:i<ps.length)(hroom:ps.length+1<=cap):
  let c1:=cur.take ((i+1)*2)++Fn (ps.drop i)++cur.drop ((i+1)*2+(Fn (ps.drop i)).length);let c2:=c1.take (i*2)++Fn [p]++c1.drop (i*2+(Fn [p]).length);c1.length=cap*2/\c2.length=cap*2/\c2.take ((ps.length+1)*2)=Fn (ps.take i++p::ps.drop i):=by
 intro c1 c2;have hd:(Fn (ps.drop i)).length=(ps.length-i)*2:=by rw[L3,Qu]
 have hp:(Fn [p]).length=2:=by rw[L3];rfl
 have Ga:c1.length=cap*2:=by
  show(cur.take ((i+1)*2)++Fn (ps.drop i)++cur.drop ((i+1)*2+(Fn (ps.drop i)).length)).length=_;rw[Qi,Qi,Qn,Qu,hd,hc];omega
 have Gb:c2.length=cap*2:=by
  show(c1.take (i*2)++Fn [p]++c1.drop (i*2+(Fn [p]).length)).length=_;rw[Qi,Qi,Qn,Qu,hp,Ga];omega
 refine⟨Ga,Gb,?_⟩;have e1:c1.take (i*2)=Fn (ps.take i):=by
  show(cur.take ((i+1)*2)++Fn (ps.drop i)++cur.drop ((i+1)*2+(Fn (ps.drop i)).length)).take (i*2)=_;rw[List.append_assoc,List.take_append_of_le_length (by rw[Qn,hc];omega),List.take_take,Nat.min_eq_left (by omega),zlb,<-hx,List.take_take,Nat.min_eq_left (by omega)]
 have e2:c1.drop (i*2+2)=Fn (ps.drop i)++cur.drop ((i+1)*2+(Fn (ps.drop i)).length):=by
  show(cur.take ((i+1)*2)++Fn (ps.drop i)++cur.drop ((i+1)*2+(Fn (ps.drop i)).length)).drop (i*2+2)=_;rw[List.append_assoc,List.drop_append,Qn,hc,Nat.min_eq_left (by omega),show i*2+2-(i+1)*2=0 by omega,List.drop_zero,List.drop_eq_nil_of_le (by rw[Qn];omega),List.nil_append]
 show(c1.take (i*2)++Fn [p]++c1.drop (i*2+(Fn [p]).length)).take ((ps.length+1)*2)=_;rw[hp,e1,e2,Ta,show p::ps.drop i=[p]++ps.drop i from rfl,Ta,<-List.append_assoc,<-List.append_assoc];rw[List.take_append_of_le_length (by rw[Qi,Qi,hp,hd,L3,Qn];omega)];rw[List.take_of_length_le (by rw[Qi,Qi,hp,hd,L3,Qn];omega)]
def Re (w:World) (B:Nat) (V:Value) (X:List Pr) (e:Ending) (w':World):Prop:=
 ∃a' c',e= .returned (.slice a' X.length c')/\G3 w' B (.slice a' X.length c') X/\w.grownBy w' V.ownBlock/\((Value.slice a' X.length c').ownBlock=V.ownBlock\/∃k,(Value.slice a' X.length c').ownBlock=some k/\w.heap.size<=k)
theorem yia{C:Array Value}(h:Fc w g 145 C)(o:Nat):w.frozen? ⟨g,o,none⟩=false:=Lib.frozen_of_heap h _
theorem zqz(g n c i vb:Nat)(ps:List Pr)(p:Pr)(B:Nat)(w:World)(h:G3 w B (.slice (some ⟨g,0,none⟩) ps.length c) ps)(hn:ps.length=n)(hi:i<n)(hroom:n+1<=c)(hn2:n<=1000)(hv:Fc w vb 145 #[.string p.1,.string p.2])(hvb:vb≠g):
  Calls prog 275 #[.slice (some ⟨g,0,none⟩) n c,.int .i64 i,.slice (some ⟨vb,0,none⟩) 1 1] w (Re w B (.slice (some ⟨g,0,none⟩) n c) (ps.take i++p::ps.drop i)):=by
 have Kh:=h.lt g rfl;obtain⟨h1,h2|⟨g',Kc,cur,he,hB,hg,Gp,Gl,Gi,Gm⟩⟩:=h
 ·cases h2.1
 simp at he;obtain⟨rfl,rfl⟩:=he;obtain⟨L1,L2,E2⟩:=zyy (cur:=cur.toList) (ps:=ps) (i:=i) (cap:=c) (p:=p) (by simpa using Gi) Gm (by omega) (by omega);have hd:(Fn (ps.drop i)).length=(n-i)*2:=by rw[L3,Qu,hn]
 have Gq:(Fn [p]).length=2:=by rw[L3];rfl
 have Gh:(ps.take i++p::ps.drop i).length=n+1:=by rw[Qi,Q1,Qn,Qu];omega
 have Gr:w.drew.heap[g]?=some (.cells cur 145 (0,0)):=hg;have Ga:∀j v,(Fn ps)[j]?=some v->w.cell? ⟨g,j,none⟩=some v:=fun j v hj=>by
  have hr:Fc w g 145 cur:=hg;rw[hr.cell j,<-Array.getElem?_toList];rw[<-Gm,List.getElem?_take]at hj;split at hj
  ·exact hj
  ·cases hj
 have Gc:∀ty dc sc,(Builtin.copy_ #[42,42] ty #[.slice (some ⟨g,(i+1)*2,none⟩) (n+1-(i+1)) dc,.slice (some ⟨g,i*2,none⟩) (n+1-i) sc]).run prog w.drew=.ok (goInt (Nat.min (n+1-i) (n+1-(i+1)))) (w.drew.setRow g (cur.toList.take ((i+1)*2)++Fn (ps.drop i)++cur.toList.drop ((i+1)*2+(Fn (ps.drop i)).length)).toArray):=fun ty dc sc=>
  Dc w.drew 42 42 ty 145 2 g ((i+1)*2) _ dc ⟨g,i*2,none⟩ _ sc cur 145 (Fn (ps.drop i)) underlying42 D7 Gr (by rw[hd];simp only[Nat.min_def];split<;>omega)
   (fun j v hj=>by
    rw[Addr.add_lit];refine Ga (i*2+j) v ?_;rwa[zl7,List.getElem?_drop]at hj)
   (by rw[hd,Gi];omega) (Ee _)
 obtain⟨W1,Gd⟩:∃W1,W1=w.drew.setRow g (cur.toList.take ((i+1)*2)++Fn (ps.drop i)++cur.toList.drop ((i+1)*2+(Fn (ps.drop i)).length)).toArray:=⟨_,rfl⟩;rw[<-Gd]at Gc;have Gk:W1.heap[g]?=some (.cells (cur.toList.take ((i+1)*2)++Fn (ps.drop i)++cur.toList.drop ((i+1)*2+(Fn (ps.drop i)).length)).toArray 145 (0,0)):=by rw[Gd];exact Ec _ _ _ _ _ Gr
 have Gs:Fc W1 vb 145 #[.string p.1,.string p.2]:=by
  show W1.heap[vb]?=_;rw[Gd,Co _ _ _ _ hvb];exact hv
 have Gb:∀(W:World),W.heap=W1.heap->∀ty dc,(Builtin.copy_ #[42,42] ty #[.slice (some ⟨g,i*2,none⟩) (n+1-i) dc,.slice (some ⟨vb,0,none⟩) 1 1]).run prog W=.ok (goInt (Nat.min 1 (n+1-i))) (W.setRow g ((cur.toList.take ((i+1)*2)++Fn (ps.drop i)++cur.toList.drop ((i+1)*2+(Fn (ps.drop i)).length)).take (i*2)++Fn [p]++(cur.toList.take ((i+1)*2)++Fn (ps.drop i)++cur.toList.drop ((i+1)*2+(Fn (ps.drop i)).length)).drop (i*2+(Fn [p]).length)).toArray):=fun W hW ty dc=>by
  have:=Dc W 42 42 ty 145 2 g (i*2) (n+1-i) dc ⟨vb,0,none⟩ 1 1 (cur.toList.take ((i+1)*2)++Fn (ps.drop i)++cur.toList.drop ((i+1)*2+(Fn (ps.drop i)).length)).toArray 145 (Fn [p]) underlying42 D7 (by rw[hW];exact Gk) (by rw[Gq];simp only[Nat.min_def];split<;>omega)
   (fun j v hj=>by
    rw[Addr.add_lit,Qq];have Gx:Fc W vb 145 #[.string p.1,.string p.2]:=by show W.heap[vb]?=_;rw[hW];exact Gs
    rw[Gx.cell j];simpa[Fn,Uy]using hj)
   (by rw[Gq,List.size_toArray,L1];omega) (Ee _)
  simpa using this
 obtain⟨C2,Gj⟩:∃C2,((cur.toList.take ((i+1)*2)++Fn (ps.drop i)++cur.toList.drop ((i+1)*2+(Fn (ps.drop i)).length)).take (i*2)++Fn [p]++(cur.toList.take ((i+1)*2)++Fn (ps.drop i)++cur.toList.drop ((i+1)*2+(Fn (ps.drop i)).length)).drop (i*2+(Fn [p]).length))=C2:=⟨_,rfl⟩;rw[Gj]at Gb;have Gt:C2.length=c*2:=by rw[<-Gj];exact L2
 have Gv:C2.take ((ps.length+1)*2)=Fn (ps.take i++p::ps.drop i):=by rw[<-Gj];exact E2
 have Gf:∀W:World,W.heap=W1.heap->W.os=w.os->W.tape=w.tape->W.output=w.output->Re w B (.slice (some ⟨g,0,none⟩) n c) (ps.take i++p::ps.drop i) (.returned (.slice (some ⟨g,0,none⟩) (n+1) c)) (W.setRow g C2.toArray):=fun W hW o1 o2 o3=>by
  refine⟨some ⟨g,0,none⟩,c,by rw[Gh],⟨by rw[L3],.inr ⟨g,c,C2.toArray,rfl,hB,Ec _ _ _ _ _ (by rw[hW];exact Gk),by rw[Gh];exact hroom,Gl,by simpa using Gt,?_⟩⟩,⟨o1,o2,o3,?_,fun k hk hne=>?_⟩,.inl rfl⟩
  ·rw[Gh,<-hn];exact Gv
  ·rw[setRow_size,hW,Gd,setRow_size];exact Qc _
  ·rw[Co _ _ _ _ (fun e=>hne (by rw[e];rfl)),hW,Gd,Co _ _ _ _ (fun e=>hne (by rw[e];rfl))];rfl
 have Gw:∀w,(Go.sizeOf 145).run prog w=.ok 2 w:=fun w=>by
  obtain⟨i0,Gy,_,h1,_⟩:=info_parts Ub;simp[Go.sizeOf,typeInfo,Gy,h1]
 have Kb:∀lb cb,(callFunc 299 #[.slice (some ⟨vb,0,none⟩) 1 1,.slice (some ⟨g,(i+1)*2,none⟩) lb cb]).run prog w=.ok (.value (.bool false)) w:=fun lb cb=>by
  rw[run_callFunc_extern func299 (by kernel_rfl) (by kernel_rfl) (by kernel_rfl) (e:=Extern.SlicesOverlaps.overlaps #[42,42] #[4]) (by kernel_rfl),
   Lib.run_overlaps_apart w 42 4 145 underlying42 2 Gw ⟨vb,0,none⟩ ⟨g,(i+1)*2,none⟩ 1 1 lb cb hvb 145 145 2 cur.size (by have:w.heap[vb]?=some (.cells #[.string p.1,.string p.2] 145 (0,0)):=hv;simp[World.shape?,this]) (by simp[World.shape?,hg]) (by rw[Gi];omega) (yia hv _) (yia hv _)]
  rfl
 have Kf:IntKind.i64.wrap ((i:Int)+1)=(i:Int)+1:=by rw[IntKind.wrap_i64];omega
 have Km:IntKind.i64.wrap ((n:Int)+1)=(n:Int)+1:=by rw[IntKind.wrap_i64];omega
 have Gz:¬((i:Int)=(n:Int)):=by omega
 have Kq:(0:Int)<=(i:Int):=by omega
 have Ko:(i:Int)<=(n:Int):=by omega
 have Kt:(n:Int)+1<=(c:Int):=by omega
 have Kn:(i:Int)+1<=(n:Int)+1:=by omega
 have Kj:(i:Int)<=(n:Int)+1:=by omega
 have Ki:(0:Int)<=(i:Int)+1:=by omega
 have Kp:¬(c=i+1):=by omega
 have Kr:¬(c=i):=by omega
 have Ku:decide ((c:Int)<(n:Int)+1)=false:=Qf (by omega);have Kv:=beq_eq_false_iff_ne.2 Gz;have Kd:((i:Int)+1).toNat=i+1:=by omega
 have Kl:((n:Int)+1).toNat=n+1:=by omega
 have Gg:=hid Gf;have Ge:Hid (W1.os=w.os/\W1.tape=w.tape/\W1.output=w.output):=by rw[Gd];exact⟨rfl,rfl,rfl⟩
 have Gu:=hid Gc;have Ka:=hid Gb;generalize ps.take i++p::ps.drop i=X at*;clear Gf Gc Gb E2 Gv L1 L2 Gt hd Gq Gh Ga Gj Gd Gk Gs Gr Gm Gi Gp Gl h1;go_enter func275,ntmps275;go_wp2_with (simp only[Kb]);have Gp:=Gu.out;have Gn:∀ty dc sc,(Builtin.copy_ #[42,42] ty #[.slice (some ⟨g,(i+1)*2,none⟩) (n-i) dc,.slice (some ⟨g,i*2,none⟩) (n+1-i) sc]).run prog w.drew=.ok (goInt (Nat.min (n+1-i) (n+1-(i+1)))) W1:=fun ty dc sc=>by have:=Gu.out ty dc sc;rwa[show n+1-(i+1)=n-i by omega]at this ⊢
 go_region;clear Gp Gn;have Gl:=Ka.out W1 rfl;go_wp2;first
  |exact Gg.out W1 rfl Ge.out.1 Ge.out.2.1 Ge.out.2.2
  |(go_ret;exact Gg.out W1 rfl Ge.out.1 Ge.out.2.1 Ge.out.2.2)
theorem zr1{vb:Nat}{M:List Pr}(p:Pr)(h:G3 w B V M)(hv:Fc w vb 145 #[.string p.1,.string p.2])(hn:M.length<=1000)(hB:B<=w.heap.size):
  ∃v' w',(Builtin.append_ #[42,42] 42 #[V,.slice (some ⟨vb,0,none⟩) 1 1]).run prog w=.ok v' w'/\Re w B V (M++ [p]) (.returned v') w':=by
 obtain⟨i0,hi,Gf,Ge,Gd⟩:=info_parts Ub
 obtain⟨v',w',Gc,Gb,hg,_,Ga⟩:=run_append_own_at (P:=prog) w B 42 42 145 i0 _ 2 32 underlying42 hi Gf Ge Gd rfl (by decide) V M.length (Fn M) h ⟨vb,0,none⟩ 1 1 [.string p.1,.string p.2] rfl (fun j u hj=>by
  rw[Addr.add_lit,Qq];exact(hv.cell j).trans (by simpa using hj)) (fun u hu=>by simp at hu;rcases hu with rfl|rfl<;>rfl) (by unfold maxLen;omega) (by omega) hB
 have e:Fn (M++ [p])=Fn M++ [.string p.1,.string p.2]:=by rw[Ta];rfl
 have ho:G3 w' B v' (M++ [p]):=by
  unfold G3;rw[Qi,e];exact Gb
 obtain⟨a',c',ev⟩:=Fx ho;subst ev;refine⟨_,w',Gc,a',c',rfl,ho,hg,?_⟩;rcases Ga with e|e
 ·exact .inl e
 ·exact .inr ⟨_,e,Qc _⟩
theorem zwt(n vb:Nat)(a:Option Addr)(c:Nat)(ps:List Pr)(p:Pr)(B:Nat)(w:World)(h:G3 w B (.slice a ps.length c) ps)(hn:ps.length=n)(hn2:n<=1000)(hv:Fc w vb 145 #[.string p.1,.string p.2])(hB:B<=w.heap.size):
  Calls prog 275 #[.slice a n c,.int .i64 n,.slice (some ⟨vb,0,none⟩) 1 1] w (Re w B (.slice a n c) (ps++ [p])):=by
 subst hn;obtain⟨v',w',Ga,hE⟩:=zr1 p h hv hn2 hB;have Gd:ps.length<=c/\c<=maxLen:=by
  obtain⟨_,⟨hv,h0⟩|⟨g,Ge,Gg,hv,_,_,q1,q2,_⟩⟩:=h
  ·injection hv with _ h1 h2;rw[h0,h2];exact⟨Qc _,Qs _⟩
  ·injection hv with _ _ h3;rw[h3];exact⟨q1,q2⟩
 have R1:Hid _:=Ga;have HE:=hid hE;have Gc:=Do h;generalize ps++ [p]=X,ps.length=n at*;have Gf:(n:Int)<=(c:Int):=by omega
 by_cases hcn:c=n
 ·subst hcn;go_enter func275,ntmps275;go_wp2_with (at_builtin;refine Go.Lib.wpList_append_run _ rfl _ _ 42 42 rfl _ _ rfl rfl _ _ R1.out ?_);first|exact HE.out|(go_ret;exact HE.out)
 ·cases a with
  |none=>exact absurd (Gc rfl) (by omega)
  |some ad=>
   have Gb:¬(c=n):=hcn;go_enter func275,ntmps275;go_wp2_with (at_builtin;refine Go.Lib.wpList_append_run _ rfl _ _ 42 42 rfl _ _ rfl rfl _ _ R1.out ?_);first|exact HE.out|(go_ret;exact HE.out)
theorem zg1(w:World)(t tn ty e:TypeId)(i:TypeInfo)(z:Value)(k kn:IntKind)(ht:P.underlying t=some (.slice e))(htn:P.underlying tn=some (.int kn))(hi:P.info? e=some i)(hz:i.zero=some z)
 (a:Addr)(m c n:Nat)(olds:List Value)(hol:olds.length=m*i.size)(hold:∀j v,olds[j]?=some v->w.cell? (a.add j)=some v)(h0:0<n)(hs:0<i.size)(hroom:c<m+n)(h63:((m+n:Nat):Int)<=1000000)(hby:i.bytes<=1000):
  (Builtin.append_ #[t,tn] ty #[.slice (some a) m c,.int k n]).run P w=
   .ok (.slice (some ⟨w.heap.size,0,none⟩) (m+n) (grownCap w (m+n) c e)) (w.drew.alloc (.cells (olds.toArray++Builtin.zeroCells z.cells n++Builtin.zeroCells z.cells (grownCap w (m+n) c e-(m+n))) e)):=by
 have hn:n≠0:=by omega
 have hw:IntKind.i64.wrap (n:Int)=n:=by rw[IntKind.wrap_i64];omega
 have Gc:¬(281474976710656<Builtin.nextslicecap (m+n) c*i.bytes):=by
  have:(m+n)*i.bytes<=1000000*1000:=Nat.mul_le_mul (by omega) hby
  exact Nat.not_lt.2 (growslice_fits hroom (by omega))
 have Gb:¬(281474976710656<(n:Int)*(i.bytes:Int)):=by
  rw[<-Int.natCast_mul];have:n*i.bytes<=1000000*1000:=Nat.mul_le_mul (by omega) hby
  omega
 have Gd:¬((n:Int)<0):=by omega
 have Gf:¬(n*i.size=0):=Nat.mul_ne_zero hn (by omega);have Ge:¬(m+n<=c):=by omega
 have Ga:¬(9223372036854775807<(m:Int)+(n:Int)):=by omega
 have hf:=run_firstCells_some (P:=P) (w:=w.drew) i.size m a m c olds hol hold;simp[Builtin.append_,run_underlying ht,run_underlying htn,sizeOf,typeInfo,zeroValue,hi,hz,asInt,asIntOf,hw,Gd,Gf,Ga,Gc,Gb,Ge,Question.forced,hf,newRow,grownCap]
theorem zwg{C0:List Value}(hc:C0.length=cap*2)(hx:C0.take (i*2)=Fn (ps.take i))(hi:i<ps.length)(hroom:ps.length+1<=cap):
  let c1:=C0.take (i*2)++Fn [p]++C0.drop (i*2+(Fn [p]).length);let c2:=c1.take ((i+1)*2)++Fn (ps.drop i)++c1.drop ((i+1)*2+(Fn (ps.drop i)).length);c1.length=cap*2/\c2.length=cap*2/\c2.take ((ps.length+1)*2)=Fn (ps.take i++p::ps.drop i):=by
 intro c1 c2;have hd:(Fn (ps.drop i)).length=(ps.length-i)*2:=by rw[L3,Qu]
 have hp:(Fn [p]).length=2:=by rw[L3];rfl
 have Ga:(Fn (ps.take i)).length=i*2:=by rw[L3,Qn];omega
 have Gb:c1.length=cap*2:=by
  show(C0.take (i*2)++Fn [p]++C0.drop (i*2+(Fn [p]).length)).length=_;rw[Qi,Qi,Qn,Qu,hp,hc];omega
 have Gc:c2.length=cap*2:=by
  show(c1.take ((i+1)*2)++Fn (ps.drop i)++c1.drop ((i+1)*2+(Fn (ps.drop i)).length)).length=_;rw[Qi,Qi,Qn,Qu,hd,Gb];omega
 refine⟨Gb,Gc,?_⟩;have e1:c1.take ((i+1)*2)=Fn (ps.take i)++Fn [p]:=by
  show(C0.take (i*2)++Fn [p]++C0.drop (i*2+(Fn [p]).length)).take ((i+1)*2)=_;rw[hx,List.take_append_of_le_length (by rw[Qi,Ga,hp];omega),List.take_of_length_le (by rw[Qi,Ga,hp];omega)]
 show(c1.take ((i+1)*2)++Fn (ps.drop i)++c1.drop ((i+1)*2+(Fn (ps.drop i)).length)).take ((ps.length+1)*2)=_;rw[e1,Ta,show p::ps.drop i=[p]++ps.drop i from rfl,Ta,<-List.append_assoc];rw[List.take_append_of_le_length (by rw[Qi,Qi,hp,hd,Ga];omega)];rw[List.take_of_length_le (by rw[Qi,Qi,hp,hd,Ga];omega)]
theorem ztz(g n c i vb:Nat)(ps:List Pr)(p:Pr)(B:Nat)(w:World)(h:G3 w B (.slice (some ⟨g,0,none⟩) ps.length c) ps)(hn:ps.length=n)(hi:i < n)(hroom:c < n+1)(hn2:n<=1000)(hv:Fc w vb 145 #[.string p.1,.string p.2])(hB:B<=w.heap.size):
    Calls prog 275 #[.slice (some ⟨g,0,none⟩) n c,.int .i64 i,.slice (some ⟨vb,0,none⟩) 1 1] w (Re w B (.slice (some ⟨g,0,none⟩) n c) (ps.take i++p::ps.drop i)):=by
  have Kf:=h.lt g rfl;obtain⟨i0,Kt,Kp,Kl,Sg⟩:=info_parts Ub;obtain⟨h1,h2 |⟨g',Km,Kq,he,Sf,hg,Kj,Kd,Kh,Gx⟩⟩:=h
  · cases h2.1
  simp at he;obtain⟨rfl,rfl⟩:=he;have Gm:(ps.take i++p::ps.drop i).length=n+1:=by rw[Qi,Q1,Qn,Qu];omega
  have Ga:∀j v,(Fn ps)[j]?=some v->w.cell? ⟨g,j,none⟩=some v:=fun j v hj=>by
    have hr:Fc w g 145 Kq:=hg;rw[hr.cell j,<- Array.getElem?_toList];rw[<- Gx,List.getElem?_take]at hj;split at hj
    · exact hj
    · cases hj
  have Gf:(Fn (ps.take i)).length=i*2:=by rw[L3,Qn];omega
  have hd:(Fn (ps.drop i)).length=(n - i)*2:=by rw[L3,Qu,hn]
  have Gv:(Fn [p]).length=2:=by rw[L3];rfl
  have Kn:(Value.agg #[.string ⟨#[]⟩,.string ⟨#[]⟩]).cells.size=2:=rfl;obtain⟨cp,Gr⟩:∃cp,grownCap w (n+1) c 145=cp:=⟨_,rfl⟩;have Gg:n+1<=cp:=by rw[<- Gr];exact grownCap_ge w (n+1) c 145
  have Gi:cp<=maxLen:=by rw[<- Gr];exact grownCap_le_maxLen w (n+1) c 145 (by unfold maxLen;omega)
  have Gp:∀ty,(Builtin.append_ #[42,3] ty #[.slice (some ⟨g,0,none⟩) i c,.int .i64 (((n+1 - i:Nat)):Int)]).run prog w=.ok (.slice (some ⟨w.heap.size,0,none⟩) (n+1) cp) (w.drew.alloc (.cells ((Fn (ps.take i)).toArray++Builtin.zeroCells (Value.agg #[.string ⟨#[]⟩,.string ⟨#[]⟩]).cells (n+1 - i)++Builtin.zeroCells (Value.agg #[.string ⟨#[]⟩,.string ⟨#[]⟩]).cells (cp - (n+1))) 145)):=fun ty=>by
    have:=zg1 (P:=prog) w 42 3 ty 145 i0 _ .i64 .i64 underlying42 underlying3 Kt Kp ⟨g,0,none⟩ i c (n+1 - i) (Fn (ps.take i)) (by rw[Gf,Kl]) (fun j v hj=>by
      rw[Addr.add_lit,Qq];refine Ga j v ?_;rw[zlb,List.getElem?_take]at hj;split at hj
      · exact hj
      · cases hj) (by omega) (by omega) (by omega) (by omega) (by omega)
    rw[show i+(n+1 - i)=n+1 by omega,Gr]at this;exact this
  obtain⟨C0,Gq⟩:∃C0,(Fn (ps.take i)).toArray++Builtin.zeroCells (Value.agg #[.string ⟨#[]⟩,.string ⟨#[]⟩]).cells (n+1 - i)++Builtin.zeroCells (Value.agg #[.string ⟨#[]⟩,.string ⟨#[]⟩]).cells (cp - (n+1))=C0:=⟨_,rfl⟩;rw[Gq]at Gp;have Gc:C0.toList.length=cp*2:=by
    rw[<- Gq];simp only[Array.toList_append,Qi,Array.length_toList];rw[size_zeroCells,size_zeroCells,Kn,Gf];omega
  have Gj:C0.toList.take (i*2)=Fn (ps.take i):=by
    rw[<- Gq];simp only[Array.toList_append];rw[List.append_assoc,List.take_append_of_le_length (by rw[Gf];exact Qc _),List.take_of_length_le (by rw[Gf];exact Qc _)]
  obtain⟨L1,L2,E2⟩:=zwg (C0:=C0.toList) (ps:=ps) (i:=i) (cap:=cp) (p:=p) Gc Gj (by omega) (by omega);obtain⟨W1,Gl⟩:∃W1,w.drew.alloc (.cells C0 145)=W1:=⟨_,rfl⟩;have b1:Bl w W1:=by rw[<- Gl];exact(below_drewN (Qb _ w) 1).alloc (Qc _) _
  have Gt:W1.heap[w.heap.size]?=some (.cells C0 145 (0,0)):=by rw[<- Gl];exact Fc.new w.drew 145 C0
  have Ku:W1.heap.size=w.heap.size+1:=by rw[<- Gl];simp
  rw[Gl]at Gp;have Gb:∀ty dc,(Builtin.copy_ #[42,42] ty #[.slice (some ⟨w.heap.size,i*2,none⟩) (n+1 - i) dc,.slice (some ⟨vb,0,none⟩) 1 1]).run prog W1=.ok (goInt (Nat.min 1 (n+1 - i))) (W1.setRow w.heap.size (C0.toList.take (i*2)++Fn [p]++C0.toList.drop (i*2+(Fn [p]).length)).toArray):=fun ty dc=>
    Dc W1 42 42 ty 145 2 w.heap.size (i*2) (n+1 - i) dc ⟨vb,0,none⟩ 1 1 C0 145 (Fn [p]) underlying42 D7 Gt (by rw[Gv];simp only[Nat.min_def];split <;> omega)
      (fun j v hj=>by
        rw[Addr.add_lit,Qq,(hv.bw b1 hv.lt).cell j];simpa[Fn,Uy]using hj)
      (by have:C0.size=cp*2:=by simpa using Gc
          rw[Gv,this];omega) (Ee _)
  obtain⟨C1,Ge⟩:∃C1,(C0.toList.take (i*2)++Fn [p]++C0.toList.drop (i*2+(Fn [p]).length))=C1:=⟨_,rfl⟩;rw[Ge]at Gb;have Kb:C1.length=cp*2:=by rw[<- Ge];exact L1
  obtain⟨W2,Gn⟩:∃W2,W1.setRow w.heap.size C1.toArray=W2:=⟨_,rfl⟩;rw[Gn]at Gb;have Gw:W2.heap[w.heap.size]?=some (.cells C1.toArray 145 (0,0)):=by rw[<- Gn];exact Ec _ _ _ _ _ Gt
  have b2:Bl w W2:=by
    rw[<- Gn];exact⟨b1.os,b1.tape,b1.output,by rw[setRow_size];exact b1.size,fun k hk=>(Co _ _ _ _ (by omega)).trans (b1.block k hk)⟩
  have Gd:∀ty dc sc,(Builtin.copy_ #[42,42] ty #[.slice (some ⟨w.heap.size,(i+1)*2,none⟩) (n+1 - (i+1)) dc,.slice (some ⟨g,i*2,none⟩) (n - i) sc]).run prog W2.drew=.ok (goInt (Nat.min (n - i) (n+1 - (i+1)))) (W2.drew.setRow w.heap.size (C1.take ((i+1)*2)++Fn (ps.drop i)++C1.drop ((i+1)*2+(Fn (ps.drop i)).length)).toArray):=fun ty dc sc=>by
    have:=Dc W2.drew 42 42 ty 145 2 w.heap.size ((i+1)*2) (n+1 - (i+1)) dc ⟨g,i*2,none⟩ (n - i) sc C1.toArray 145 (Fn (ps.drop i)) underlying42 D7 Gw (by rw[hd];simp only[Nat.min_def];split <;> omega)
      (fun j v hj=>by
        rw[Addr.add_lit];have hb:W2.drew.cell? ⟨g,i*2+j,none⟩=w.cell? ⟨g,i*2+j,none⟩:=(below_drewN b2 1).cell (p:=⟨g,i*2+j,none⟩) Kf.2;rw[hb];refine Ga (i*2+j) v ?_;rwa[zl7,List.getElem?_drop]at hj)
      (by rw[hd,List.size_toArray,Kb];omega) (Ee _)
    simpa using this
  obtain⟨C2,Gs⟩:∃C2,(C1.take ((i+1)*2)++Fn (ps.drop i)++C1.drop ((i+1)*2+(Fn (ps.drop i)).length))=C2:=⟨_,rfl⟩;rw[Gs]at Gd;have Gy:C2.length=cp*2:=by rw[<- Gs,<- Ge];exact L2
  have Gz:C2.take ((ps.length+1)*2)=Fn (ps.take i++p::ps.drop i):=by rw[<- Gs,<- Ge];exact E2
  have Gk:Re w B (.slice (some ⟨g,0,none⟩) n c) (ps.take i++p::ps.drop i) (.returned (.slice (some ⟨w.heap.size,0,none⟩) (n+1) cp)) (W2.drew.setRow w.heap.size C2.toArray):=by
    refine⟨some ⟨w.heap.size,0,none⟩,cp,by rw[Gm],⟨by rw[L3],.inr ⟨w.heap.size,cp,C2.toArray,rfl,hB,Ec _ _ _ _ _ Gw,by rw[Gm];exact Gg,Gi,by simpa using Gy,?_⟩⟩,⟨b2.os,b2.tape,b2.output,?_,fun k hk hne=>?_⟩,.inr ⟨w.heap.size,rfl,Qc _⟩⟩
    · rw[Gm,<- hn];exact Gz
    · rw[setRow_size];exact b2.size
    · rw[Co _ _ _ _ (by omega)];exact b2.block k hk
  have Si:IntKind.i64.wrap ((i:Int)+1)=(i:Int)+1:=by rw[IntKind.wrap_i64];omega
  have Kz:IntKind.i64.wrap ((n:Int)+1)=(n:Int)+1:=by rw[IntKind.wrap_i64];omega
  have Kw:IntKind.i64.wrap ((n:Int)+1 - (i:Int))=(((n+1 - i:Nat)):Int):=by rw[IntKind.wrap_i64];omega
  have Sc:(0:Int)<=(i:Int):=by omega
  have Sb:(i:Int)<=(n:Int):=by omega
  have Sd:(i:Int)<=(c:Int):=by omega
  have Sa:(i:Int)+1<=(n:Int)+1:=by omega
  have Ky:(i:Int)<=(n:Int)+1:=by omega
  have Kx:(0:Int)<=(i:Int)+1:=by omega
  have Sk:¬(cp=i+1):=by omega
  have Sm:¬(c=i):=by omega
  have Kc:¬(cp=i):=by omega
  have Sn:decide ((c:Int) < (n:Int)+1)=true:=Qe (by omega);have Se:=beq_eq_false_iff_ne.2 (by omega);have Sh:((i:Int)+1).toNat=i+1:=by omega
  have Sj:((n:Int)+1).toNat=n+1:=by omega
  have Gh:Hid _:=Gk;have Kv:=hid Gp;have Kr:=hid Gb;have Ka:=hid Gd;generalize ps.take i++p::ps.drop i=X at*;have Ko:=Kr.out;have Ki:=Ka.out;have Gu:∀ty dc sc,(Builtin.copy_ #[42,42] ty #[.slice (some ⟨w.heap.size,(i+1)*2,none⟩) (n - i) dc,.slice (some ⟨g,i*2,none⟩) (n - i) sc]).run prog W2.drew=.ok (goInt (Nat.min (n - i) (n+1 - (i+1)))) (W2.drew.setRow w.heap.size C2.toArray):=fun ty dc sc=>by have:=Ka.out ty dc sc;rwa[show n+1 - (i+1)=n - i by omega]at this ⊢
  go_enter func275,ntmps275;go_wp2_with (at_builtin;refine Go.Lib.wpList_append_run _ rfl _ _ 42 3 rfl _ _ rfl rfl _ _ (Kv.out _) ?_);go_region;go_wp2;first | exact Gh.out | (go_ret;exact Gh.out)
theorem zyg(a:Option Addr)(n c i vb:Nat)(ps:List Pr)(p:Pr)(B:Nat)(w:World)(h:G3 w B (.slice a ps.length c) ps)(hn:ps.length=n)(hi:i<=n)(hn2:n<=1000)(hv:Fc w vb 145 #[.string p.1,.string p.2])(hvb:∀g,(Value.slice a n c).ownBlock=some g->vb≠g)(hB:B<=w.heap.size):
  Calls prog 275 #[.slice a n c,.int .i64 i,.slice (some ⟨vb,0,none⟩) 1 1] w (Re w B (.slice a n c) (ps.take i++p::ps.drop i)):=by
 by_cases hin:i=n
 ·subst hin;rw[<-hn,List.take_length,List.drop_length,hn];exact zwt i vb a c ps p B w h hn hn2 hv hB
 ·rcases Joins.ownsRow_forms h with⟨h1,h2⟩|⟨A,c',e⟩
  ·omega
  ·injection e with e1 e2 e3;subst e1 e3;by_cases hr:n+1<=c
   ·exact zqz A n c i vb ps p B w h hn (by omega) hr hn2 hv (hvb A rfl)
   ·exact ztz A n c i vb ps p B w h hn (by omega) (by omega) hn2 hv hB
def putAt (ps:List Pr) (nm tx:ByteArray) (i:Nat):List Pr:=ps.take i++(nm,tx)::ps.drop (if (decide (i<ps.length)&&decide (Hy ps nm i=0))=true then i+1 else i)
theorem J7(nm tx:ByteArray):∀(ps acc:List Pr),(∀x∈ps,x.1≠nm)->ps.foldl (L8 nm tx) (acc,true)=(acc++ps,true)
 |[],acc,_=>by simp
 |x::r,acc,h=>by
  rw[List.foldl_cons,show L8 nm tx (acc,true) x=(acc++ [x],true) by unfold L8;rw[if_neg (h x (by simp))];simp,J7 nm tx r _ (fun y hy=>h y (by simp[hy]))];simp
theorem Z8(x nm:ByteArray):geS x nm=!bytesBefore x.data.toList nm.data.toList:=by
 unfold geS;rw[J0]
theorem yaa(nm tx:ByteArray):∀(ps acc:List Pr),UpP ps->∀i,Low ps nm ps.length i->(if(ps.foldl (L8 nm tx) (acc,false)).2=true then(ps.foldl (L8 nm tx) (acc,false)).1 else(ps.foldl (L8 nm tx) (acc,false)).1++ [(nm,tx)])=acc++putAt ps nm tx i
 |[],acc,_,i,hl=>by
  have:=hl.le;obtain rfl:i=0:=by simpa using this
  rfl
 |x::r,acc,hu,i,hl=>by
  have Gc:=List.pairwise_cons.1 hu;have c0:Hy (x::r) nm 0=Rl x (nm,bz):=rfl;have hs:∀j,Hy (x::r) nm (j+1)=Hy r nm j:=fun j=>rfl;rw[List.foldl_cons];by_cases hlt:Hy (x::r) nm 0<0
  ·obtain⟨k,rfl⟩:∃k,i=k+1:=by
    cases i with
    |zero=>have:=hl.hi 0 (Qc _) (by simp);omega
    |succ k=>exact⟨k,rfl⟩
   have hb:=(T7 (x::r) nm 0).1 hlt;have Gd:x.1≠nm:=fun e=>by have:=(Rx (x::r) nm 0).2 e;omega
   have Ga:L8 nm tx (acc,false) x=(acc++ [x],false):=by
    unfold L8;rw[if_neg Gd,Z8,show bytesBefore x.1.data.toList nm.data.toList=true from hb];rfl
   rw[Ga,yaa nm tx r _ Gc.2 k ⟨by have:=hl.le;simp at this;exact this,fun j hj=>by rw[<-hs];exact hl.lo (j+1) (by omega),fun j h1 h2=>by rw[<-hs];exact hl.hi (j+1) (by omega) (by simp;omega)⟩];unfold putAt;rw[hs,List.take_succ_cons,show decide (k+1<(x::r).length)=decide (k<r.length) by simp];cases (decide (k<r.length)&&decide (Hy r nm k=0))<;>simp
  ·have Ge:i=0:=by
    rcases Nat.eq_zero_or_pos i with e|e
    ·exact e
    ·exact absurd (hl.lo 0 e) hlt
   subst Ge;have Gb:bytesBefore x.1.data.toList nm.data.toList=false:=by
    cases hb:bytesBefore x.1.data.toList nm.data.toList with
    |false=>rfl
    |true=>exact absurd ((T7 (x::r) nm 0).2 hb) hlt
   have hr:∀y∈r,y.1≠nm:=fun y hy e=>by
    have:=Gc.1 y hy;rw[e,Gb]at this;cases this
   unfold putAt;rw[show decide (0<(x::r).length)=true by simp,Qz];by_cases he:x.1=nm
   ·have Ga:L8 nm tx (acc,false) x=(acc++ [(nm,tx)],true):=by
     unfold L8;rw[if_pos he,Z8,Gb];rfl
    rw[Ga,J7 nm tx r _ hr,if_pos rfl,Qe ((Rx (x::r) nm 0).2 he)];simp
   ·have Ga:L8 nm tx (acc,false) x=(acc++ [(nm,tx)]++ [x],true):=by
     unfold L8;rw[if_neg he,Z8,Gb];rfl
    rw[Ga,J7 nm tx r _ hr,if_pos rfl,Qf (fun e=>he ((Rx (x::r) nm 0).1 e))];simp
theorem zl0(hu:UpP ps)(hl:Low ps nm ps.length i):Mx ps nm tx=putAt ps nm tx i:=by
 have:=yaa nm tx ps [] hu i hl;rw[List.nil_append]at this;unfold Mx Nz;exact this
theorem ydp(hu:UpP ps)(hl:Low ps nm ps.length i):UpP (putAt ps nm tx i):=by
 unfold putAt UpP;rw[List.pairwise_append,List.pairwise_cons];have Gd:∀x∈ps.take i,bytesBefore x.1.data.toList nm.data.toList=true:=fun x hx=>by
  obtain⟨j,hj,rfl⟩:=List.getElem_of_mem hx;rw[Qn]at hj;have:=(T7 ps nm j).1 (hl.lo j (by omega));rw[List.getElem_take];rwa[Qa,Qd (by omega:j<ps.length)]at this
 have Ge:∀x∈ps.drop (if(decide (i<ps.length)&&decide (Hy ps nm i=0))=true then i+1 else i),bytesBefore nm.data.toList x.1.data.toList=true:=fun x hx=>by
  obtain⟨j,hj,rfl⟩:=List.getElem_of_mem hx;rw[Qu]at hj;rw[List.getElem_drop];obtain⟨q,hq⟩:∃q,(if(decide (i<ps.length)&&decide (Hy ps nm i=0))=true then i+1 else i)+j=q:=⟨_,rfl⟩;have Gh:i<=q:=by rw[<-hq];split<;>omega
  have Ga:q<ps.length:=by omega
  have h0:=hl.hi q Gh Ga;have Gg:ps[q].1≠nm:=fun e=>by
   have hz:=(Rx ps nm q).2 (by rw[Qa,Qd Ga];exact e);have Gc:i<ps.length:=by omega
   have Gf:Hy ps nm i=0:=by
    rcases Nat.lt_or_ge i q with hl2|hl2
    ·have:=C5 hu hl2 Ga;rw[(Rx ps nm q).1 hz,<-T7]at this;have:=hl.hi i (Qc _) Gc;omega
    ·obtain rfl:i=q:=by omega
     exact hz
   rw[Qe Gc,Qe Gf,Bool.and_self,if_pos rfl]at hq;have:=C5 hu (show i<q by omega) Ga;rw[(Rx ps nm q).1 hz,(Rx ps nm i).1 Gf,WideAt.bytes_irrefl]at this;cases this
  have Gi:¬bytesBefore ps[q].1.data.toList nm.data.toList=true:=fun hb=>by
   have:=(T7 ps nm q).2 (by rw[Qa,Qd Ga];exact hb);omega
  have Gb:bytesBefore nm.data.toList ps[q].1.data.toList=true:=by
   rcases WideAt.bytes_total _ _ (fun e'=>Gg (ByteArray.ext (Array.toList_inj.1 e')))with h'|h'
   ·exact absurd h' Gi
   ·exact h'
  simp only[hq];exact Gb
 refine⟨hu.sublist (List.take_sublist _ _),⟨fun y hy=>Ge y hy,hu.sublist (List.drop_sublist _ _)⟩,fun x hx y hy=>?_⟩;rcases List.mem_cons.1 hy with rfl|hy
 ·exact Gd x hx
 ·exact WideShapes.bytes_trans _ _ _ (Gd x hx) (Ge y hy)
theorem ydq{c:Nat}(h:G3 w B (.slice (some ⟨g,0,none⟩) ps.length c) ps)(i:Nat)(hi:i < ps.length)(tx:ByteArray):
  G3 (w.setCell ⟨g,i*2+1,none⟩ (.string tx)) B (.slice (some ⟨g,0,none⟩) ps.length c) (ps.take i++((ps.getD i (bz,bz)).1,tx)::ps.drop (i+1))/\w.grownBy (w.setCell ⟨g,i*2+1,none⟩ (.string tx)) (some g):=by
 obtain⟨h1,h2 |⟨g',Gb,Gf,he,hB,hg,Gh,Ga,Ge,Gc⟩⟩:=h
 ·cases h2.1
 simp at he
 obtain⟨rfl,rfl⟩:=he
 have hr:Fc w g 145 Gf:=hg
 have Gd:=hr.set (i*2+1) (.string tx)
 have hl:(ps.take i++((ps.getD i (bz,bz)).1,tx)::ps.drop (i+1)).length=ps.length:=by rw[Qi,Q1,Qn,Qu];omega
 refine⟨⟨by rw[L3],.inr ⟨g,c,_,by rw[hl],hB,Gd,by rw[hl];exact Gh,Ga,by simpa using Ge,?_⟩⟩,⟨rfl,rfl,rfl,?_,fun k hk hne=>Below.heap_setCell _ _ _ _ (fun e=>hne (by rw[e]))⟩⟩
 ·rw[hl]
  have e0:Fn ps=Fn (ps.take i)++([.string (ps.getD i (bz,bz)).1,.string (ps.getD i (bz,bz)).2]++Fn (ps.drop (i+1))):=by
   have:ps=ps.take i++(ps.getD i (bz,bz))::ps.drop (i+1):=by
    rw[Qa,Qd hi]
    show ps=ps.take i++ps[i]::ps.drop (i+1)
    rw[List.getElem_cons_drop,List.take_append_drop]
   conv=>lhs;rw[this]
   rw[Ta]
   rfl
  have Gg:(Fn (ps.take i)).length=i*2:=by rw[L3,Qn];omega
  have e1:Fn (ps.take i++((ps.getD i (bz,bz)).1,tx)::ps.drop (i+1))=(Fn ps).set (i*2+1) (.string tx):=by
   rw[e0,Ta,List.set_append_right _ _ (by omega),Gg,show i*2+1 - i*2=1 by omega]
   rfl
  rw[e1,<- Gc]
  simp only[Array.toList_setIfInBounds]
  rw[List.take_set]
 ·show w.heap.size<=(w.setCell _ _).heap.size
  rw[show(w.setCell ⟨g,i*2+1,none⟩ (.string tx)).heap.size=w.heap.size by simp[World.setCell]]
  exact Qc _
theorem zrj{w1 w2:World}(hb:Bl w w1)(h:Re w1 B V X e w2):Re w B V X e w2:=by
 obtain⟨a',c',h1,h2,h3,h4⟩:=h;refine⟨a',c',h1,h2,⟨h3.os.trans hb.os,h3.tape.trans hb.tape,h3.output.trans hb.output,Qj hb.size h3.size,fun k hk hne=>(h3.block k (Qr hk hb.size) hne).trans (hb.block k hk)⟩,?_⟩;rcases h4 with h4|⟨k,e,hk⟩
 ·exact .inl h4
 ·exact .inr ⟨k,e,Qj hb.size hk⟩
theorem yb8(a:Option Addr)(c:Nat)(ps:List Pr)(nm tx:ByteArray)(B:Nat)(w:World)(h:G3 w B (.slice a ps.length c) ps)(hu:UpP ps)(hn:ps.length<=1000)(hB:B<=w.heap.size):
  Calls prog 249 #[.slice a ps.length c,.string nm,.string tx] w (Re w B (.slice a ps.length c) (Mx ps nm tx)):=by
 obtain⟨xa,xA,xc,xe,xz⟩:=Ox h;injection xe with x1 x2 x3;subst x1 x3;have HP:=hid (zmk a xA ps.length c ps nm w xz hn (V5 hu nm));have H:Hid (G3 w B (.slice a ps.length c) ps/\UpP ps/\ps.length<=1000/\B<=w.heap.size):=⟨h,hu,hn,hB⟩;have HX:=hid xz;clear h hu hB xz x2;obtain⟨n,Gg⟩:∃n,ps.length=n:=⟨_,rfl⟩;have Ga:=hid Gg;rw[Gg]at HP HX ⊢;clear Gg;obtain⟨M,hM⟩:∃M,Re w B (.slice a n c) (Mx ps nm tx)=M:=⟨_,rfl⟩;rw[hM];have HM:=hid hM;clear hM;go_enter func249,ntmps249;go_wp2_with fail;refine HP.out.mono ?_;rintro e w1⟨⟨i,rfl,hl⟩,b1⟩;have Gd:Low ps nm ps.length i:=by rw[Ga.out];exact hl
 have Gb:=zl0 H.out.2.1 (tx:=tx) Gd;have Gq:=hid b1;have Gk:=hl.le;cases hfd:(decide (i<n)&&decide (Hy ps nm i=0))with
 |true=>
  rw[Qh,decide_eq_true_iff,decide_eq_true_iff]at hfd;obtain⟨Ge,hz⟩:=hfd;obtain rfl:=HX.out.addr (by omega);have Gm:i<ps.length:=by rw[Ga.out];exact Ge
  obtain⟨o2,g2⟩:=ydq (Fw (show G3 w B (.slice (some ⟨xA,0,none⟩) ps.length c) ps from by have:=H.out.1;rwa[Ga.out]at this ⊢) b1) i Gm tx;have Gj:=(Rx ps nm i).1 hz;have c1:=(HX.out.bw b1).c1 i Ge;have Gs:w1.frozen? ⟨xA,i*2+1,none⟩=false:=by
   obtain⟨C,hC⟩:=M3 (Fw H.out.1 b1) (g:=xA) rfl;exact Lib.frozen_of_heap hC _
  have Gf:(ps.take i++(nm,tx)::ps.drop (i+1)).length=n:=by rw[Qi,Q1,Qn,Qu,Ga.out];omega
  have HF:Hid (M (.returned (.slice (some ⟨xA,0,none⟩) n c)) (w1.setCell ⟨xA,i*2+1,none⟩ (.string tx))):=by
   rw[<-HM.out,Gb];unfold putAt;rw[Ga.out,Qe Ge,Qe hz,Bool.and_self,if_pos rfl];refine zrj b1 ⟨some ⟨xA,0,none⟩,c,by rw[Gf],?_,g2,.inl rfl⟩;rw[Gj]at o2;rw[Gf,<-Ga.out];exact o2
  have Gr:(0:Int)<=(i:Int):=by omega
  have Gp:(i:Int)<(n:Int):=by omega
  clear o2 g2 HP H HX Gb Gd b1 hl Gf Gj hz HM;generalize(ps.getD i (bz,bz)).2=old at*;go_wp2;first|exact HF.out|(go_ret;exact HF.out)
 |false=>
  have Gc:Mx ps nm tx=ps.take i++(nm,tx)::ps.drop i:=by
   rw[Gb];unfold putAt;rw[Ga.out,hfd,if_neg (by simp)]
  obtain⟨W2,Gl,Gn,b2,r2⟩:=boxed w1 #[.string nm,.string tx] 145;have HI:Hid (Cp 275 #[.slice a n c,.int .i64 i,.slice (some ⟨w1.heap.size,0,none⟩) 1 1] W2 M):=by
   rw[<-HM.out,Gc];have Gh:=b1.trans (b2.mono b1.size);have ho:=Fw H.out.1 Gh
   have:=zyg a n c i w1.heap.size ps (nm,tx) B W2 ho Ga.out Gk (by rw[<-Ga.out];exact H.out.2.2.1) r2 (fun g' hg' e=>by
    have hh:(Value.slice a ps.length c).ownBlock=some g':=by rw[Ga.out];exact hg'
    have:=(Hf H.out.1 hh).2;have:=b1.size;omega) (Qj H.out.2.2.2 Gh.size)
   exact this.mono fun e w' hh=>zrj Gh hh
  have Gi:Hid (∀e w',M e w'->∃v,e=.returned v):=fun e w' hm=>by
   rw[<-HM.out]at hm;obtain⟨a',c',h1,_⟩:=hm;exact⟨_,h1⟩
  clear HP H HX Gb Gc Gd b1 hl Gl b2 r2 hfd HM;go_upto_region 5 with fail;go_wp2_with fail;rw[Gn.out];refine HI.out.mono ?_;intro e w3 hm;obtain⟨v,rfl⟩:=Gi.out _ _ hm;have HF:=hid hm;clear hm HI Gi;go_wp2;first|exact HF.out|(go_ret;exact HF.out)
theorem zsb(hu:UpP ps)(nm tx:ByteArray):UpP (Mx ps nm tx)/\(Mx ps nm tx).length<=ps.length+1:=by
 obtain⟨i,hl⟩:∃i,Low ps nm ps.length i:=by
  refine⟨(ps.takeWhile fun x=>bytesBefore x.1.data.toList nm.data.toList).length,?_⟩;have Gb:∀qs:List Pr,UpP qs->Low qs nm qs.length (qs.takeWhile fun x=>bytesBefore x.1.data.toList nm.data.toList).length:=by
   intro qs;induction qs with
   |nil=>intro _;exact⟨Qc _,fun j hj=>by simp at hj,fun j _ hj=>by simp at hj⟩
   |cons x r ih=>
    intro hu;have Ga:=List.pairwise_cons.1 hu;have ih:=ih Ga.2;cases hb:bytesBefore x.1.data.toList nm.data.toList with
    |true=>
     rw[List.takeWhile_cons_of_pos (by simpa using hb)];refine⟨by have:=ih.le;simp;omega,fun j hj=>?_,fun j h1 h2=>?_⟩
     ·cases j with
      |zero=>exact(T7 (x::r) nm 0).2 hb
      |succ j=>exact ih.lo j (by simp at hj;omega)
     ·cases j with
      |zero=>simp at h1
      |succ j=>exact ih.hi j (by simp at h1;omega) (by simp at h2;omega)
    |false=>
     rw[List.takeWhile_cons_of_neg (by simp[hb])];refine⟨Qs _,fun j hj=>by simp at hj,fun j _ h2=>?_⟩;refine Int.not_lt.1 fun hc=>?_;have hm:=V5 hu nm 0 j (Qs _) h2 hc;rw[T7]at hm;rw[show bytesBefore ((x::r).getD 0 (bz,bz)).1.data.toList nm.data.toList=bytesBefore x.1.data.toList nm.data.toList from rfl,hb]at hm;cases hm
  exact Gb ps hu
 rw[zl0 hu hl];refine⟨ydp hu hl,?_⟩;unfold putAt;rw[Qi,Q1,Qn,Qu];split<;>omega
theorem Fu.pairsAt{b n:Nat}{now:Int}{aa:Option Addr}{ab ao ac:Nat}{L:List KV}{T:List ByteArray}(h:Fu w B g b n now aa ab ao ac L L T)(nm:ByteArray):∀k,(Fb L nm).vp.ownBlock=some k->B<=k/\k≠g/\k≠b/\∀x∈G2 L nm,x.vi.ownBlock≠some k/\x.vp.ownBlock≠some k/\x.vr.ownBlock≠some k:=fun k hk=>by
 rcases Oo L nm with⟨-,e⟩|⟨-,hm,hnm⟩
 ·rw[e]at hk;cases hk
 ·have ho:=(h.vals.own _ hm).pj;obtain⟨C,hC⟩:=M3 ho hk;refine⟨(Hf ho hk).1,fun e=>?_,B8 h.call.ring hC,fun x hx=>?_⟩
  ·subst e;have:=Hp.N9 hC h.call.row;cases this
  ·obtain⟨x1,x2⟩:=T2 hx;have Gb:=K1 h.vals.ap hm x1 (by rw[hnm];exact fun e=>x2 e.symm);have Ga:=h.vals.own x x1;refine⟨fun e=>?_,Gb.2.1 k hk,fun e=>?_⟩
   ·obtain⟨D,hD⟩:=M3 Ga.ia e;have:=Hp.N9 hC hD;cases this
   ·obtain⟨D,hD⟩:=M3 Ga.rq e;have:=Hp.N9 hC hD;cases this
structure Po (w:World) (B:Nat) (kb:Option Nat) (ps:List Pr) (W:List ByteArray) (k:Nat) (v:Value) (X:List Pr) (wr:World):Prop where
 eq:Hm X (W.drop (2*k))=Hm ps W
 up:UpP X
 len:X.length<=ps.length+k
 own:G3 wr B v X
 gr:w.grownBy wr kb
 loc:v.ownBlock=kb\/∃j,v.ownBlock=some j/\w.heap.size<=j
theorem Po.next{wr w':World}{kb:Option Nat}{W:List ByteArray}{k:Nat}{v:Value}(h:Po w B kb ps W k v X wr)(hk:2*k+1<W.length)(he:Re wr B v (Mx X (W.getD (2*k) empty) (W.getD (2*k+1) empty)) e w'):∃a' c',e=.returned (.slice a' (Mx X (W.getD (2*k) empty) (W.getD (2*k+1) empty)).length c')/\Po w B kb ps W (k+1) (.slice a' (Mx X (W.getD (2*k) empty) (W.getD (2*k+1) empty)).length c') (Mx X (W.getD (2*k) empty) (W.getD (2*k+1) empty)) w':=by
 obtain⟨a',c',e1,ho,hg,hl⟩:=he;have hd:W.drop (2*k)=W.getD (2*k) empty::W.getD (2*k+1) empty::W.drop (2*(k+1)):=by
  rw[Qa,Qa,Qd hk,Qd (by omega:2*k<W.length)];show W.drop (2*k)=W[2*k]::W[2*k+1]::W.drop (2*k+1+1);rw[List.getElem_cons_drop,List.getElem_cons_drop]
 obtain⟨u1,u2⟩:=zsb h.up (W.getD (2*k) empty) (W.getD (2*k+1) empty);refine⟨a',c',e1,?_,u1,by have:=h.len;omega,ho,⟨hg.os.trans h.gr.os,hg.tape.trans h.gr.tape,hg.output.trans h.gr.output,Qj h.gr.size hg.size,fun j hj hne=>?_⟩,?_⟩
 ·rw[<-h.eq,hd];rfl
 ·refine(hg.block j (Qr hj h.gr.size) ?_).trans (h.gr.block j hj hne);intro e;rcases h.loc with h1|⟨q,h1,h2⟩
  ·exact hne (e.trans h1)
  ·rw[h1]at e;have:=Option.some.inj e;omega
 ·rcases hl with h1|⟨q,h1,h2⟩
  ·rw[h1];exact h.loc
  ·exact .inr ⟨q,h1,Qj h.gr.size h2⟩
theorem Dh(T:List ByteArray)(j:Nat):T.tail.getD j empty=T.getD (j+1) empty:=by
 rw[Qa,Qa,List.getElem?_tail]
theorem zxc(B g b n:Nat)(now:Int)(aa:Option Addr)(ab ao ac:Nat)(L:List KV)(T:List ByteArray)(ad:Nat->Addr)(w:World)(h:Fu w B g b n now aa ab ao ac L L T)(hd:Fm (L.map KV.key)=true)(hE:Lk w B ad)(hn:n<=1000)(hs:∀t∈T,t.size<=200)(hT:3<=T.length)(hT2:T.length<=16)(hodd:T.length%2=1)(hac:T.length<=ac):
  Calls prog 197 #[.pointer (some ⟨g,0,none⟩)] w (F2 w B g b now aa ab ao ac T ad (L.map KV.key) (Fj (L.map KV.key) (Ti L (T.getD 0 empty) (Hm (Fb L (T.getD 0 empty)).key.val.pj T.tail)) (Fe (((Hm (Fb L (T.getD 0 empty)).key.val.pj T.tail).length:Int)-((Fb L (T.getD 0 empty)).key.val.pj.length:Int))))):=by
 have Kw:=Lh hs 0;have Gq:=N4 hd (T.getD 0 empty);have Ka:=zvi hd (T.getD 0 empty);obtain⟨a1,n1,k1,a2,n2,k2,a3,n3,k3,e1,e2,e3,hH⟩:=h.held (by omega) Kw;have Gl:=(h.keyOwn (T.getD 0 empty)).pj;have Ga:=h.pairsAt (T.getD 0 empty);rw[e2]at Gl Ga;obtain⟨xa,xc,xe⟩:=Fx Gl;injection xe with x1 x2 x3;subst x1 x2 x3;have HH:=hid hH;have HR:=hid fun W s=>Pg s W;have Gm:T.tail.length=T.length-1:=by simp
 have Gd:Hid (∀w1 wr k v X,Bl w w1->Po w1 B (Value.slice a2 (Fb L (T.getD 0 empty)).key.val.pj.length k2).ownBlock (Fb L (T.getD 0 empty)).key.val.pj T.tail k v X wr->Fu wr B g b n now aa ab ao ac L (G2 L (T.getD 0 empty)) T/\Below B w wr):=fun w1 wr k v X hb hI=>by
  obtain⟨q1,q2⟩:=(h.bw hb).grown (T.getD 0 empty) hI.gr Ga;exact⟨q1,(hb.mono h.le).trans q2⟩
 have Gs:Hid (∀w1 wr k a' c' X,Bl w w1->Po w1 B (Value.slice a2 (Fb L (T.getD 0 empty)).key.val.pj.length k2).ownBlock (Fb L (T.getD 0 empty)).key.val.pj T.tail k (.slice a' X.length c') X wr->k<=8->2*k+1<T.tail.length->Cp 249 #[.slice a' X.length c',.string (T.getD (1+2*k) empty),.string (T.getD (1+2*k+1) empty)] wr fun e w'=>∃a4 c4 X',e=.returned (.slice a4 X'.length c4)/\Po w1 B (Value.slice a2 (Fb L (T.getD 0 empty)).key.val.pj.length k2).ownBlock (Fb L (T.getD 0 empty)).key.val.pj T.tail (k+1) (.slice a4 X'.length c4) X' w'):=fun w1 wr k a' c' X hb hI hk8 hk=>by
  have:=yb8 a' c' X (T.tail.getD (2*k) empty) (T.tail.getD (2*k+1) empty) B wr hI.own hI.up (by have:=hI.len;have:=Gq.np;omega) (Qj (h.bw hb).le hI.gr.size);rw[Dh,Dh,show 2*k+1=1+2*k by omega]at this;refine this.mono fun e w' he=>?_;rw[show T.getD (1+2*k) empty=T.tail.getD (2*k) empty by rw[Dh,show 2*k+1=1+2*k by omega],show T.getD (1+2*k+1) empty=T.tail.getD (2*k+1) empty by rw[Dh,show 2*k+1+1=1+2*k+1 by omega]]at he;obtain⟨a4,c4,q1,q2⟩:=hI.next hk he;exact⟨a4,c4,_,q1,q2⟩
 have Gc:Hid (∀wr,Below B w wr->∀i,i<T.length->wr.cell? ⟨ab,ao+i,none⟩=some (.string (T.getD i empty))):=fun wr hb i hi=>(h.arg i hi).2 wr hb;have Gg:Hid (∀w1 wr W a' c' r,Bl w w1->Po w1 B (Value.slice a2 (Fb L (T.getD 0 empty)).key.val.pj.length k2).ownBlock (Fb L (T.getD 0 empty)).key.val.pj T.tail ((T.length-1)/2) (.slice a' (Hm (Fb L (T.getD 0 empty)).key.val.pj T.tail).length c') (Hm (Fb L (T.getD 0 empty)).key.val.pj T.tail) wr->Bl wr W->Fr W wr.heap.size r (Fe (((Hm (Fb L (T.getD 0 empty)).key.val.pj T.tail).length:Int)-((Fb L (T.getD 0 empty)).key.val.pj.length:Int)))->Cp 244 #[.pointer (some ⟨g,0,none⟩),.iface 233 (.slice a' (Hm (Fb L (T.getD 0 empty)).key.val.pj T.tail).length c')] W fun e w2=>∃er,e=.returned er/\F2 w B g b now aa ab ao ac T ad (L.map KV.key) (Fj (L.map KV.key) (Ti L (T.getD 0 empty) (Hm (Fb L (T.getD 0 empty)).key.val.pj T.tail)) (Fe (((Hm (Fb L (T.getD 0 empty)).key.val.pj T.tail).length:Int)-((Fb L (T.getD 0 empty)).key.val.pj.length:Int)))) (.returned (.tuple #[r,er])) w2):=fun w1 wr W a' c' r hb hI hbW hr=>by
  obtain⟨Gk,Gi⟩:=Gd.out w1 wr _ _ _ hb hI;have Kv:=Gk.bw hbW;have Gf:=Gi.trans (hbW.mono Gk.le);have Ko:=hE.bw Gf;obtain⟨Kz,Kx⟩:=Ko.er 1 (.inl rfl);refine(zlc B g b n now aa ab ao ac L T W a' c' _ Kv (Fw hI.own hbW) (fun x hx k hk hxk=>?_) (by omega) (by omega) (by have:=hI.len;have:=Gq.np;omega) hn Ko.rd Kz Kx).mono ?_
  ·rcases hI.loc with h1|⟨q,h1,h2⟩
   ·rw[h1]at hk;exact((Ga k hk).2.2.2 x hx).2.1 hxk
   ·rw[h1]at hk;have Ku:=(h.vals.own x (T2 hx).1).pj;have:=(Hf Ku hxk).2;have:=Option.some.inj hk;have:=hb.size;omega
  ·intro e w2 hl;have e0:=hl.1;refine⟨_,e0,?_⟩;rw[e0]at hl;exact Pt h hd (hr.le Gi.size) Gf (Qj Gi.size hbW.size) hl
 have Gt:Hid (∀w1,Bl w w1->Po w1 B (Value.slice a2 (Fb L (T.getD 0 empty)).key.val.pj.length k2).ownBlock (Fb L (T.getD 0 empty)).key.val.pj T.tail 0 (.slice a2 (Fb L (T.getD 0 empty)).key.val.pj.length k2) (Fb L (T.getD 0 empty)).key.val.pj w1):=fun w1 hb=>⟨by rw[Nat.mul_zero,List.drop_zero],Ka,by omega,Fw Gl hb,Nl _ _,.inl rfl⟩;have Gn:Hid (∀X,Hm X (T.tail.drop (2*((T.length-1)/2)))=(Hm (Fb L (T.getD 0 empty)).key.val.pj T.tail)->X=(Hm (Fb L (T.getD 0 empty)).key.val.pj T.tail)):=fun X hX=>by
  rw[List.drop_eq_nil_of_le (by rw[Gm];omega)]at hX;exact hX
 have Gx:=hid fun W (hb:Bl w W)=>(h.bw hb).call.c2;have Kb:=Gq.np;have Kn:∀w1 wr k v X,Po w1 B (Value.slice a2 (Fb L (T.getD 0 empty)).key.val.pj.length k2).ownBlock (Fb L (T.getD 0 empty)).key.val.pj T.tail k v X wr->X.length<=20+k:=fun w1 wr k v X hI=>by have:=hI.len;omega
 have Gw:=hid Kn;obtain rfl:=h.call.args.addr (by omega);have Kr:(1:Int)<=(T.length:Int):=by omega
 have Sf:(1:Int)<(ac:Int):=by omega
 have Kp:(T.length:Int)<=(ac:Int):=by omega
 have Sj:1<ac:=by omega
 have Sc:¬ac=1:=by omega
 generalize hpp:Fj (L.map KV.key) (Ti L (T.getD 0 empty) (Hm (Fb L (T.getD 0 empty)).key.val.pj T.tail)) (Fe (((Hm (Fb L (T.getD 0 empty)).key.val.pj T.tail).length:Int)-((Fb L (T.getD 0 empty)).key.val.pj.length:Int)))=pp at*;generalize L.map KV.key=ks,(Fb L (T.getD 0 empty)).key.val.kind=kd,(Fb L (T.getD 0 empty)).key.val.text=tx at*;generalize hPS:(Fb L (T.getD 0 empty)).key.val.pj=Ps at*;obtain⟨XA,Gz⟩:∃XA,Hm Ps T.tail=XA:=⟨_,rfl⟩;rw[Gz]at Gg Gn;have Kf:=hid Gz;have Sb:=hid Kb;obtain⟨il,Gy⟩:∃il,Ps.length=il:=⟨_,rfl⟩;rw[Gy]at HH Gd Gs Gg Gt Gw Kb;have Kc:=hid Gy;have hf:=fun W=>B1 (.int .i64 kd) (.string tx) (.slice a1 n1 k1) (.slice a2 il k2) (.slice a3 n3 k3) W;obtain⟨m,Kd⟩:∃m,T.length=m:=⟨_,rfl⟩;rw[Kd]at Gg Gc Gn Gx Kr Kp hT hT2 hodd hac Gm;have Ky:=hid Gm;go_enter func197,ntmps197;go_wp2_with fail;refine(HH.out _ (Qb _ _)).mono ?_;rintro e w1⟨rfl,b1⟩;have Gp:=hid b1;have c2:=Gx.out w1 b1;have Ki:=Gt.out w1 b1;have HS:Hid _:=Ki;go_wp2;go_loopg [4,6] m (fun kx s4 s6 wr=>∃(k:Nat) (X:List Pr) (a':Option Addr) (c':Nat) (aw:Option Addr),2*k<=m-1/\s4=.slice a' X.length c'/\s6=.slice aw (m-1-2*k) (ac-1-2*k)/\(2*k<m-1->aw=some ⟨ab,ao+1+2*k,none⟩)/\m-1-2*k<=kx/\Hid (Po w1 B (Value.slice a2 il k2).ownBlock Ps T.tail k (.slice a' X.length c') X wr))
 case atStart=>exact⟨0,Ps,a2,k2,some ⟨ab,ao+1,none⟩,by omega,by rw[Kc.out],rfl,fun _=>rfl,by omega,by rw[Kc.out];exact HS⟩
 case round=>
  obtain⟨k,X,a',c',aw,hk,rfl,rfl,Gu,Kt,hI⟩:=hrel;by_cases hlt:2*k<m-1
  ·obtain rfl:=Gu hlt;obtain⟨Gk,Gi⟩:=Gd.out w1 wr k _ X Gp.out hI.out;have Gj:Hid (∀V k' v' X',Po w1 B (Value.slice a2 il k2).ownBlock Ps T.tail k' v' X' V->V.cell? ⟨ab,ao+1+2*k,none⟩=some (.string (T.getD (1+2*k) empty))/\V.cell? ⟨ab,ao+1+2*k+1,none⟩=some (.string (T.getD (1+2*k+1) empty))):=fun V k' v' X' hv=>by
    have hb:=(Gd.out w1 V k' v' X' Gp.out hv).2;have q1:=Gc.out V hb (1+2*k) (by omega);have q2:=Gc.out V hb (1+2*k+1) (by omega);rw[show ao+(1+2*k)=ao+1+2*k by omega]at q1;rw[show ao+(1+2*k+1)=ao+1+2*k+1 by omega]at q2;exact⟨q1,q2⟩
   have HP:=hid fun W (hv:Po w1 B (Value.slice a2 il k2).ownBlock Ps T.tail k (.slice a' X.length c') X W)=>Gs.out w1 W k a' c' X Gp.out hv (by omega) (by rw[Ky.out];omega);have Gv:Hid (Po w1 B (Value.slice a2 il k2).ownBlock Ps T.tail k (.slice a' X.length c') X wr.drew):=⟨hI.out.eq,hI.out.up,hI.out.len,hI.out.own,⟨hI.out.gr.os,hI.out.gr.tape,hI.out.gr.output,hI.out.gr.size,hI.out.gr.block⟩,hI.out.loc⟩;obtain⟨r,hr⟩:∃r,m-1-2*k=r:=⟨_,rfl⟩;obtain⟨q,hq⟩:∃q,ac-1-2*k=q:=⟨_,rfl⟩;have Sn:2<=r:=by omega
   have Sg:r<=q:=by omega
   have Kj:m-1-2*(k+1)=r-2:=by omega
   have Kh:ac-1-2*(k+1)=q-2:=by omega
   rw[hr,hq];have Gb:Hid (m-1-2*(k+1)=r-2/\ac-1-2*(k+1)=q-2/\m-1-2*k=r):=⟨Kj,Kh,hr⟩;have Sa:decide ((2:Int)<=(r:Int))=true:=Qe (by omega);have Sm:(0:Int)<(r:Int):=by omega
   have Sp:(1:Int)<(r:Int):=by omega
   have Sk:(2:Int)<=(r:Int):=by omega
   have So:(r:Int)<=(q:Int):=by omega
   have Sh:0<r:=by omega
   generalize T.getD (1+2*k) empty=t0,T.getD (1+2*k+1) empty=t1 at*;obtain⟨u0,u1⟩:=Gj.out wr.drew _ _ _ Gv.out;go_upto_region 6 with fail;go_region_held3 (fun V=>V.cell? ⟨ab,ao+1+2*k,none⟩=some (.string t0)/\V.cell? ⟨ab,ao+1+2*k+1,none⟩=some (.string t1))
    (first|exact Gj.out _ _ _ _ hI.out|exact⟨u0,u1⟩|exact Km)
    (first
     |(go_at_call 249;refine(HP.out _ Gv.out).mono ?_;rintro e w3⟨a4,c4,X',rfl,Gr⟩;have Km:=Gj.out w3 _ _ _ Gr))
   all_goals
    have Kl:=hid Gr;by_cases hq2:q=2
    ·obtain rfl:r=2:=by omega
     subst hq2;go_wp2;go_roundg 0
     case measure=>have:=Gb.out.2.2;omega
     case rel=>exact⟨k+1,X',a4,c4,some ⟨ab,ao+1+2*k,none⟩,by omega,rfl,by rw[Gb.out.1,Gb.out.2.1],fun h=>by have:=Gb.out.1;omega,by have:=Gb.out.1;omega,Kl⟩
    ·have Si:¬(q=2):=hq2;go_wp2;go_roundg (r-2)
     case measure=>have:=Gb.out.2.2;omega
     case rel=>exact⟨k+1,X',a4,c4,some ⟨ab,ao+1+2*k+2,none⟩,by omega,rfl,by rw[Gb.out.1,Gb.out.2.1],fun _=>by rw[show ao+1+2*(k+1)=ao+1+2*k+2 by omega],by have:=Gb.out.1;omega,Kl⟩
  ·have Kq:2*k=m-1:=by omega
   obtain rfl:k=(m-1)/2:=by omega
   obtain rfl:X=XA:=Gn.out X (by rw[hI.out.eq];exact Kf.out);have Se:=Gw.out _ _ _ _ _ hI.out;have Ge:=hid fun W r (hb:Bl wr W) (hr:Fr W wr.heap.size r (Fe ((X.length:Int)-(il:Int))))=>Gg.out w1 wr W a' c' r Gp.out hI.out hb hr;have Sd:IntKind.i64.wrap ((X.length:Int)-(il:Int))=(X.length:Int)-(il:Int):=by rw[IntKind.wrap_i64];omega
   have hz:m-1-2*((m-1)/2)=0:=by omega
   rw[hz];generalize X.length=xl at*;go_wp2_with fail;refine(HR.out _ _).mono ?_;rintro e w3⟨r,rfl,hr,hb⟩;have H3:=hid (Ge.out w3 r hb hr);go_wp2_with fail;refine H3.out.mono ?_;rintro e w4⟨er,rfl,Gh⟩;have HF:Hid _:=Gh;go_wp2;go_ret2;exact HF.out
end Rb
end Go.Proofs.YtokafonppgppdaaGreatDoor
namespace Go.Proofs
open Go.Shelf
def Tryz.lays125_ren:Go.Shelf.Ren:=⟨fun|125=>261|128=>293|129=>268|n=>n,fun|46=>160|3=>3|51=>284|53=>158|4=>4|5=>5|9=>9|n=>n,fun|n=>n⟩
theorem Tryz.lays125:Go.Proofs.Lays.n125 Tryz.prog Tryz.lays125_ren:={
 mixed:=by kernel_rfl
 f125:=Tryz.func261.trans (congrArg some (by kernel_rfl))
 f128:=Tryz.func293.trans (congrArg some (by kernel_rfl))
 f129:=Tryz.func268.trans (congrArg some (by kernel_rfl))
 t3:=Tryz.underlying3
 a3:=Tryz.isAgg3
 z3:=Tryz.sizeOf3
 v3:=Tryz.zeroValue3
 t4:=Tryz.underlying4
 a4:=Tryz.isAgg4
 z4:=Tryz.sizeOf4
 v4:=Tryz.zeroValue4
 t5:=Tryz.underlying5
 a5:=Tryz.isAgg5
 z5:=Tryz.sizeOf5
 v5:=Tryz.zeroValue5
 t9:=Tryz.underlying9
 a9:=Tryz.isAgg9
 z9:=Tryz.sizeOf9
 v9:=Tryz.zeroValue9
 t46:=Tryz.underlying160
 a46:=Tryz.isAgg160
 z46:=Tryz.sizeOf160
 v46:=Tryz.zeroValue160
 t51:=Tryz.underlying284
 a51:=Tryz.isAgg284
 z51:=Tryz.sizeOf284
 v51:=Tryz.zeroValue284
 t53:=Tryz.underlying158
 a53:=Tryz.isAgg158
 z53:=Tryz.sizeOf158
 v53:=Tryz.zeroValue158 }
def Tryz.pdqL_ren:Go.Shelf.Ren:=⟨fun|14=>307|20=>319|21=>320|22=>321|23=>322|24=>323|25=>324|26=>325|27=>326|46=>331|47=>311|48=>312|49=>332|50=>333|15=>261|57=>334|28=>293|29=>268|n=>n,fun|24=>147|22=>43|3=>3|25=>294|4=>4|0=>0|46=>299|45=>298|50=>264|66=>317|39=>160|55=>158|70=>320|76=>332|77=>333|53=>284|5=>5|9=>9|n=>n,fun|n=>n⟩
theorem Tryz.pdqL:Go.Proofs.SlLaysF0.n14 Tryz.prog Tryz.pdqL_ren:={
 mixed:=by kernel_rfl
 f14:=⟨Tryz.f307.name,by decide,Tryz.func307.trans (congrArg some (by kernel_rfl))⟩
 f15:=Tryz.func261.trans (congrArg some (by kernel_rfl))
 f20:=⟨Tryz.f319.name,by decide,Tryz.func319.trans (congrArg some (by kernel_rfl))⟩
 f21:=⟨Tryz.f320.name,by decide,Tryz.func320.trans (congrArg some (by kernel_rfl))⟩
 f22:=⟨Tryz.f321.name,by decide,Tryz.func321.trans (congrArg some (by kernel_rfl))⟩
 f23:=⟨Tryz.f322.name,by decide,Tryz.func322.trans (congrArg some (by kernel_rfl))⟩
 f24:=⟨Tryz.f323.name,by decide,Tryz.func323.trans (congrArg some (by kernel_rfl))⟩
 f25:=⟨Tryz.f324.name,by decide,Tryz.func324.trans (congrArg some (by kernel_rfl))⟩
 f26:=⟨Tryz.f325.name,by decide,Tryz.func325.trans (congrArg some (by kernel_rfl))⟩
 f27:=⟨Tryz.f326.name,by decide,Tryz.func326.trans (congrArg some (by kernel_rfl))⟩
 f28:=Tryz.func293.trans (congrArg some (by kernel_rfl))
 f29:=Tryz.func268.trans (congrArg some (by kernel_rfl))
 f46:=⟨Tryz.f331.name,by decide,Tryz.func331.trans (congrArg some (by kernel_rfl))⟩
 f47:=Tryz.func311.trans (congrArg some (by kernel_rfl))
 f48:=Tryz.func312.trans (congrArg some (by kernel_rfl))
 f49:=⟨Tryz.f332.name,by decide,Tryz.func332.trans (congrArg some (by kernel_rfl))⟩
 f50:=⟨Tryz.f333.name,by decide,Tryz.func333.trans (congrArg some (by kernel_rfl))⟩
 f57:=⟨Tryz.f334.name,by decide,Tryz.func334.trans (congrArg some (by kernel_rfl))⟩
 t0:=Tryz.underlying0
 a0:=Tryz.isAgg0
 z0:=Tryz.sizeOf0
 v0:=Tryz.zeroValue0
 t3:=Tryz.underlying3
 a3:=Tryz.isAgg3
 z3:=Tryz.sizeOf3
 v3:=Tryz.zeroValue3
 t4:=Tryz.underlying4
 a4:=Tryz.isAgg4
 z4:=Tryz.sizeOf4
 v4:=Tryz.zeroValue4
 t5:=Tryz.underlying5
 a5:=Tryz.isAgg5
 z5:=Tryz.sizeOf5
 v5:=Tryz.zeroValue5
 t9:=Tryz.underlying9
 a9:=Tryz.isAgg9
 z9:=Tryz.sizeOf9
 v9:=Tryz.zeroValue9
 t22:=Tryz.underlying43
 a22:=Tryz.isAgg43
 z22:=Tryz.sizeOf43
 v22:=Tryz.zeroValue43
 t25:=Tryz.underlying294
 a25:=Tryz.isAgg294
 z25:=Tryz.sizeOf294
 v25:=Tryz.zeroValue294
 t39:=Tryz.underlying160
 a39:=Tryz.isAgg160
 z39:=Tryz.sizeOf160
 v39:=Tryz.zeroValue160
 t45:=Tryz.underlying298
 a45:=Tryz.isAgg298
 z45:=Tryz.sizeOf298
 v45:=Tryz.zeroValue298
 t46:=Tryz.underlying299
 a46:=Tryz.isAgg299
 z46:=Tryz.sizeOf299
 v46:=Tryz.zeroValue299
 t50:=Tryz.underlying264
 a50:=Tryz.isAgg264
 z50:=Tryz.sizeOf264
 v50:=Tryz.zeroValue264
 t53:=Tryz.underlying284
 a53:=Tryz.isAgg284
 z53:=Tryz.sizeOf284
 v53:=Tryz.zeroValue284
 t55:=Tryz.underlying158
 a55:=Tryz.isAgg158
 z55:=Tryz.sizeOf158
 v55:=Tryz.zeroValue158
 t66:=Tryz.underlying317
 a66:=Tryz.isAgg317
 z66:=Tryz.sizeOf317
 v66:=Tryz.zeroValue317
 t70:=Tryz.underlying320
 a70:=Tryz.isAgg320
 z70:=Tryz.sizeOf320
 v70:=Tryz.zeroValue320
 t76:=Tryz.underlying332
 a76:=Tryz.isAgg332
 z76:=Tryz.sizeOf332
 v76:=Tryz.zeroValue332
 t77:=Tryz.underlying333
 a77:=Tryz.isAgg333
 z77:=Tryz.sizeOf333
 v77:=Tryz.zeroValue333 }
theorem Tryz.bits_Len(x:Int)(w:World)(h0:0<=x)(h1:x<=18446744073709551615):
 Calls Tryz.prog 261 #[.int .u64 x] w fun e w'=>e=.returned (.int .i64 (Lib.bitLen x.toNat:Nat))/\w'=w:=Any.bits_Len Tryz.lays125 x w h0 h1
end Go.Proofs
namespace Go.Proofs.YtokafonppgppdaaGreatDoor
namespace Kk
open Tryz
open Go.RowKit Go.Sort Go.Shelf Go.Lib
variable {w w':World} {x y z:Rk} {M L:List Rk} {α:Type} {B A cap:Nat}
def Grown (w w':World):Prop:=∃q os,w'=grow (w.drewN q) os
theorem Grown.refl(w:World):Grown w w:=⟨0, #[],by rw[grow_empty];rfl⟩
theorem Grown.alloc(h:Grown w w')(o:Obj):Grown w (w'.alloc o):=by
 obtain⟨q,os,rfl⟩:=h;exact⟨q,os.push o,by unfold grow World.alloc;simp only[Array.append_push]⟩
theorem Grown.drewN(h:Grown w w')(n:Nat):Grown w (w'.drewN n):=by
 obtain⟨q,os,rfl⟩:=h;exact⟨q+n,os,by rw[<-World.drewN_drewN];rfl⟩
theorem zpi(x y:Rk)(w:World):
  Calls prog 281 #[rkV x,rkV y] w fun e w'=>e=.returned (.int .i64 (Oa x y))/\Grown w w':=by
 obtain⟨xm,xs⟩:=x;obtain⟨ym,ys⟩:=y;have HE:Hid (Oa ⟨xm,xs⟩ ⟨ym,ys⟩=if Nx xs ys=0 then Lib.compareBytes xm.data.toList ym.data.toList else Nx xs ys):=rfl;generalize Oa ⟨xm,xs⟩ ⟨ym,ys⟩=z at*;have b0:Bl w ((w.alloc (.cells #[.string xm,.int .i64 xs] 147)).alloc (.cells #[.string ym,.int .i64 ys] 147)):=((Qb _ w).alloc (Qc _) _).alloc (by simp) _;go_enter func281,ntmps281;have r0:=(Fc.new w 147 #[.string xm,.int .i64 xs]).bw ((Qb _ _).alloc (Qc _) (.cells #[.string ym,.int .i64 ys] 147)) (by simp);have r1:=Fc.new (w.alloc (.cells #[.string xm,.int .i64 xs] 147)) 147 #[.string ym,.int .i64 ys];simp only[World.size_alloc]at r1;have gw:Grown w ((w.alloc (.cells #[.string xm,.int .i64 xs] 147)).alloc (.cells #[.string ym,.int .i64 ys] 147)):=((Grown.refl w).alloc _).alloc _;have e0:=r0.cell 0;have e1:=r0.cell 1;have d0:=r1.cell 0;have d1:=r1.cell 1;simp only[Qm,Qk,Ql]at e0 e1 d0 d1;go_wp2_with fail;generalize(w.alloc (.cells #[.string xm,.int .i64 xs] 147)).alloc (.cells #[.string ym,.int .i64 ys] 147)=W at*;generalize hc1:Nx xs ys=c1 at*;have Gb:=hid hc1;generalize hc2:Lib.compareBytes xm.data.toList ym.data.toList=c2 at*;have Ga:=hid hc2;have HX:Hid (∀W,Cp 309 #[.int .i64 xs,.int .i64 ys] W fun e w'=>e=.returned (.int .i64 c1)/\w'=W):=fun W=>by
  have:=zuy xs ys W;rwa[Gb.out]at this
 have HY:Hid (∀W,Cp 109 #[.string xm,.string ym] W fun e w'=>e=.returned (.int .i64 c2)/\w'=W):=fun W=>by
  have:=Dm xm ym W;rwa[Ga.out]at this
 have HO:Hid (∀g W,W.cell? ⟨g,0,none⟩=some (.int .i64 c1)->W.cell? ⟨g,1,none⟩=some (.int .i64 c2)->Cp 308 #[.slice (some ⟨g,0,none⟩) 2 2] W fun e w'=>e=.returned (.int .i64 z)/\w'=W):=fun g W h0 h1=>by
  have:=yfg c1 c2 g W h0 h1;rwa[<-HE.out]at this
 have kp:Hid (∀o,(W.drew.alloc o).cell? ⟨w.heap.size,0,none⟩=some (.string xm)/\(W.drew.alloc o).cell? ⟨w.heap.size,1,none⟩=some (.int .i64 xs)/\(W.drew.alloc o).cell? ⟨w.heap.size+1,0,none⟩=some (.string ym)/\(W.drew.alloc o).cell? ⟨w.heap.size+1,1,none⟩=some (.int .i64 ys)):=fun o=>⟨kept e0,kept e1,kept d0,kept d1⟩;go_region_held3 (fun W'=>W'.cell? ⟨w.heap.size,0,none⟩=some (.string xm)/\W'.cell? ⟨w.heap.size,1,none⟩=some (.int .i64 xs)/\W'.cell? ⟨w.heap.size+1,0,none⟩=some (.string ym)/\W'.cell? ⟨w.heap.size+1,1,none⟩=some (.int .i64 ys))
  (first
   |exact⟨e0,e1,d0,d1⟩
   |exact kp.out _)
  (first
   |(go_at_call 309;refine(HX.out _).mono ?_;rintro e w'⟨rfl,rfl⟩)
   |(go_at_call 109;refine(HY.out _).mono ?_;rintro e w'⟨rfl,rfl⟩)
   |(go_at_call 308;refine(HO.out _ _ ((Fc.new _ _ _).cell 0) ((Fc.new _ _ _).cell 1)).mono ?_;rintro e w'⟨rfl,rfl⟩))
 all_goals
  go_wp2;go_ret;exact⟨rfl,(gw.drewN 1).alloc _⟩
theorem zll:∀a:List UInt8,Op.bytesLess a a=false
 |[]=>rfl
 |a::x=>by unfold Op.bytesLess;rw[zll x];simp
theorem J1(a b:List UInt8):Op.bytesLess a b=decide (a<b):=bytesLess_eq a b
theorem Rn(x y:Rk):ltOf Oa x y=La x y:=zqn x y
theorem Wx:SWO (ltOf Oa) where
 irrefl x:=by rw[Rn];unfold La;rw[zll];simp
 trans x y z h1 h2:=by
  rw[Rn]at*;unfold La at*;simp only[Bool.or_eq_true,Qh,decide_eq_true_eq,J1]at*;rcases h1 with h1|⟨h1,h1'⟩<;>rcases h2 with h2|⟨h2,h2'⟩
  ·exact .inl (by omega)
  ·exact .inl (by omega)
  ·exact .inl (by omega)
  ·exact .inr ⟨by omega,List.lt_trans h1' h2'⟩
 ntrans x y z h1 h2:=by
  rw[Rn]at*;unfold La at*;simp only[Bool.or_eq_false_iff,Bool.and_eq_false_imp,decide_eq_false_iff_not,decide_eq_true_eq,J1]at*;refine⟨by omega,fun e=>?_⟩;have e1:x.s=y.s:=by omega
  have e2:y.s=z.s:=by omega
  exact fun h=>absurd h (by
   have a1:=List.not_lt.1 (h1.2 e1);have a2:=List.not_lt.1 (h2.2 e2);exact List.not_lt.2 (List.le_trans a2 a1))
theorem zmt:∀args w,(callFunc 281 args).run prog w= .ok (.enter 281 args) w:=enters_of func281 (by kernel_rfl) rfl
theorem yc5[Inhabited Rk](blk off cap:Nat)(d:Array Rk)(w:World)(hH:HoldsK encR 2 w blk off d)(hblk:blk<w.heap.size)(hsz:d.size<4611686018427387904):
  Calls prog 280 #[.slice (some ⟨blk,off,none⟩) d.size cap,.func (.func 281) #[] #[]] w fun e w'=>e=.returned (.tuple #[])/\∃d' n os,PermIn 0 d.size d d'/\SortedIn (ltOf Oa) 0 d.size d'/\w'=sortWorldK encR 2 w blk off n d' os:=by
 have Ga:CmpLays prog 281 #[] encR 2 Oa blk off d.size w:=fun m os dk _ x y=>zpi x y _;have Gb:Lib.bitLen d.size<4611686018427387904:=Nat.lt_of_le_of_lt (Lib.bitLen_le d.size 62 (by omega) (by omega)) (by omega);have hp:=AnyQ.pdqsortCmpFunc_all Tryz.pdqL 2 Tryz.isAgg147 Tryz.sizeOf147 encR Oa 281 #[] Wx blk off cap d w zmt Ga ⟨fun _=>rfl,fun x v hv=>by simp[encR]at hv;rcases hv with rfl|rfl<;>rfl,hH,hblk⟩ (d.size+1) 0 d.size (Lib.bitLen d.size) d w (by omega) rfl (SWK.start hH) (Qs _) (Qc _) hsz Gb (Or.inl rfl);change Calls prog 307 _ _ _ at hp;have hl:Calls prog 261 #[.int .u64 (d.size:Int)] w fun e w'=>e=.returned (.int .i64 (Lib.bitLen d.size:Nat))/\w'=w:=by
  have h:=Tryz.bits_Len (d.size:Int) w (by omega) (by omega);rwa[Int.toNat_natCast]at h
 have wr:IntKind.u64.wrap (d.size:Int)=d.size:=by simp[IntKind.wrap,IntKind.bits,IntKind.signed];omega
 have hq:=pdq_sorts (ltOf Oa) Wx d 0 d.size (Lib.bitLen d.size) true true (Qs _) (Qc _) (Or.inl rfl);have HQ:Hid _:=hq;go_enter func280,ntmps280;go_wp2_with (first|(go_at_call 261;refine hl.mono ?_;rintro e w'⟨rfl,rfl⟩)|(go_at_call 307;refine hp.mono ?_;rintro e w'⟨rfl,n,os,rfl⟩));go_end0;exact⟨rfl,_,n,os,HQ.out.1,HQ.out.2,rfl⟩
def Te (L:List Rk) (m:ByteArray) (s:Int):Bool:=G9 L&&G9 (Ho (without L m) ⟨m,s⟩)
def Z0 (w:World) (I:List Rk) (ok:Bool) (e:Ending) (w':World):Prop:=
 (∃v,e= .returned (.tuple #[v,.bool ok])/\Fo w' w.heap.size v (if ok=true then I else []))/\Bl w w'
def leR (x y:Rk):Prop:=La y x=false
theorem J4(h:La x y=true):leR x y:=by
 unfold leR;cases h2:La y x with
 |false=>rfl
 |true=>
  have h3:=Wx.trans x y x (by rw[Rn];exact h) (by rw[Rn];exact h2);rw[Wx.irrefl x]at h3;exact absurd h3 (by simp)
theorem zsq(h1:La x y=true)(h2:La y z=true):La x z=true:=by
 have:=Wx.trans x y z (by rw[Rn];exact h1) (by rw[Rn];exact h2);rwa[Rn]at this
theorem zzq(h1:leR x y)(h2:leR y z):leR x z:=by
 have:=Wx.ntrans z y x (by rw[Rn];exact h2) (by rw[Rn];exact h1);rwa[Rn]at this
theorem zj1(h1:leR x y)(h2:leR y x):x=y:=by
 unfold leR La at*;simp only[Bool.or_eq_false_iff,Bool.and_eq_false_imp,decide_eq_false_iff_not,decide_eq_true_eq,J1]at*;have hs:x.s=y.s:=by omega
 have hm:x.m.toList=y.m.toList:=List.le_antisymm (List.not_lt.1 (h1.2 hs.symm)) (List.not_lt.1 (h2.2 hs));rw[ByteArray.toList_eq,ByteArray.toList_eq]at hm;obtain⟨xm,xs⟩:=x;obtain⟨ym,ys⟩:=y;simp only at hs hm;subst hs;have:xm=ym:=by
  apply ByteArray.ext;exact Array.toList_inj.mp hm
 rw[this]
theorem zvm(M:List Rk)(x:Rk):(Ho M x).Perm (x::M):=by
 induction M with
 |nil=>rw[Y2]
 |cons z l ih=>
  rw[Ax];split
  ·exact(ih.cons z).trans (List.Perm.swap x z l)
  ·exact List.Perm.refl _
theorem zm5(x:Rk)(h:M.Pairwise leR):(Ho M x).Pairwise leR:=by
 induction M with
 |nil=>rw[Y2];simp
 |cons z l ih=>
  rw[Ax];have hz:=List.pairwise_cons.1 h;split
  ·next ha=>
   refine List.pairwise_cons.2 ⟨fun y hy=>?_,ih hz.2⟩;rcases zzf hy with rfl|hy
   ·exact J4 ha
   ·exact hz.1 y hy
  ·next ha=>
   have Ga:leR x z:=by unfold leR;simpa using ha
   refine List.pairwise_cons.2 ⟨fun y hy=>?_,h⟩;rcases List.mem_cons.1 hy with rfl|hy
   ·exact Ga
   ·exact zzq Ga (hz.1 y hy)
theorem It(h:(List.range L.length).all (Lj L)=true)(i j:Nat)(hij:i<j)(hj:j<L.length):La (L.getD i rk0) (L.getD j rk0)=true:=by
 have h1:∀k,0<k->k<L.length->La (L.getD (k-1) rk0) (L.getD k rk0)=true:=fun k h0 hk=>by
  have:=Qw.1 h k (List.mem_range.2 hk);unfold Lj at this;rw[Qf (by omega),Bool.false_or]at this;exact this
 induction j with
 |zero=>omega
 |succ j ih=>
  have e:=h1 (j+1) (by omega) hj;rw[Nat.add_sub_cancel]at e;by_cases hi:i=j
  ·subst hi;exact e
  ·exact zsq (ih (by omega) (by omega)) e
theorem zv0(h:G9 L=true):(List.range L.length).all (Lj L)=true:=by
 unfold G9 at h;rw[Qh]at h;have h2:=Qw.1 h.2;exact Qw.2 fun k hk=>by
  have:=h2 k hk;unfold O6 at this;simp only[Qh]at this;exact this.2.2.1
theorem zqc(h:G9 L=true):L.Pairwise leR:=by
 rw[List.pairwise_iff_getElem];intro i j hi hj hij;have:=It (zv0 h) i j hij hj;rw[Qa,Qd hi,Qa,Qd hj]at this;exact J4 this
theorem Y4{m:ByteArray}(h:L.Pairwise leR):(without L m).Pairwise leR:=h.sublist List.filter_sublist
theorem ybd[Inhabited Rk]{d d':Array Rk}(hd:d.toList=x::M)(hM:M.Pairwise leR)(hp:PermIn 0 d.size d d')(hs:SortedIn (ltOf Oa) 0 d.size d'):d'.toList=Ho M x:=by
 have e1:(d'.extract 0 d.size).toList=d'.toList:=by rw[<-hp.1,Array.extract_size]
 have e2:(d.extract 0 d.size).toList=d.toList:=by rw[Array.extract_size]
 have Ga:d'.toList.Perm (Ho M x):=by
  have:=hp.2.2;rw[e1,e2,hd]at this;exact this.trans (zvm M x).symm
 refine List.Perm.eq_of_pairwise (le:=leR) (fun a b _ _ h1 h2=>zj1 h1 h2) ?_ (zm5 x hM) Ga;rw[List.pairwise_iff_getElem];intro i j hi hj hij;have Gc:i<d'.size:=by simpa using hi
 have Gb:j<d'.size:=by simpa using hj
 have:=hs i j (Qs _) hij (by rw[<-hp.1];exact Gb);rw[Rn,getElem!_pos d' i Gc,getElem!_pos d' j Gb]at this;simpa[leR]using this
theorem zq0[Inhabited α](enc:α->Value)(w:World)(blk off:Nat)(d:Array α){c:Array Value}{e:TypeId}{fr:Nat×Nat}(h:w.heap[blk]?=some (.cells c e fr)):(putRow enc w blk off d).heap[blk]?=some (.cells (Go.Sort.putCells enc off d c) e fr):=by
 unfold putRow mapBlock;rw[Array.getElem?_modify,if_pos rfl,h];rfl
theorem zpc[Inhabited α](enc:α->Value)(w:World)(blk off j:Nat)(d:Array α)(h:j≠blk):(putRow enc w blk off d).heap[j]?=w.heap[j]?:=by
 unfold putRow mapBlock;rw[Array.getElem?_modify,if_neg (fun e=>h e.symm)]
theorem J5[Inhabited α](enc:α->Value)(w:World)(blk off:Nat)(d:Array α):(putRow enc w blk off d).heap.size=w.heap.size:=by
 unfold putRow mapBlock;exact Array.size_modify
theorem flat_get[Inhabited Rk](L:List Rk)(t:Nat)(h:t<L.length*2):(G6 L)[t]?=some ((_root_.Go.Sort.flatK encR 2 L.toArray)[t]!):=by
 rw[get_flatK encR 2 L.toArray t (by simpa using h)];have hi:t/2<L.length:=by omega
 obtain⟨h0,h1⟩:=zug L (t/2) hi;have he:L.toArray[t/2]! =L.getD (t/2) rk0:=by
  rw[getElem!_pos L.toArray (t/2) (by simpa using hi),Qa,Qd hi];simp
 rw[he];rcases Nat.mod_two_eq_zero_or_one t with hm|hm
 ·rw[hm];rw[show t/2*2=t by omega]at h0;rw[h0];rfl
 ·rw[hm];rw[show t/2*2+1=t by omega]at h1;rw[h1];rfl
theorem ybx[Inhabited Rk](h:Fo w B (.slice (some ⟨A,0,none⟩) L.length cap) L):HoldsK encR 2 w A 0 L.toArray:=by
 intro j hj;have Ga:j<L.length*2:=by simpa using hj
 have hc:=h.cells rfl j _ (flat_get L j Ga);rw[Addr.add_lit,Qq]at hc;refine⟨by rw[Qq];exact hc,?_⟩;obtain⟨_,h2|⟨A',Gb,Gc,he,hB,hg,_⟩⟩:=h
 ·cases h2.1
 ·simp at he;obtain⟨rfl,rfl⟩:=he;exact Lib.frozen_of_heap hg _
theorem ztg[Inhabited Rk]{m:Nat}{D:Array Rk}{os:Array Obj}(h:Fo w B (.slice (some ⟨A,0,none⟩) L.length cap) L)(hd:D.size=L.length)(hBw:B<=w.heap.size):
  Fo (sortWorldK encR 2 w A 0 m D os) B (.slice (some ⟨A,0,none⟩) D.toList.length cap) D.toList/\Below B w (sortWorldK encR 2 w A 0 m D os):=by
 have Ge:=h.lt A rfl;have Gh:D.toList.length=L.length:=by simpa using hd
 obtain⟨h1,h2|⟨A',Gd,Gb,he,hB,hg,Gj,Gc,Gg,Gi⟩⟩:=h
 ·cases h2.1
 ·simp at he;obtain⟨rfl,rfl⟩:=he;have Ga:(sortWorldK encR 2 w A 0 m D os).heap[A]?=some (.cells (Go.Sort.putCells id 0 (_root_.Go.Sort.flatK encR 2 D) Gb) 147 (0,0)):=by
   unfold sortWorldK grow;show((putRowK encR 2 (Go.Sort.ahead w m) A 0 D).heap++os)[A]?=_;unfold putRowK;rw[Array.getElem?_append_left (by rw[J5];exact Ge.2)];exact zq0 id (Go.Sort.ahead w m) A 0 (_root_.Go.Sort.flatK encR 2 D) hg
  refine⟨⟨by rw[Eb],.inr ⟨A,cap,Go.Sort.putCells id 0 (_root_.Go.Sort.flatK encR 2 D) Gb,by rw[Gh],hB,Ga,by omega,Gc,by simp[Go.Sort.putCells,Gg],?_⟩⟩,⟨rfl,rfl,rfl,?_,fun j hj=>?_⟩⟩
  ·apply List.ext_getElem?;intro i;by_cases hi:i<D.toList.length*2
   ·rw[List.getElem?_take,if_pos hi,Array.getElem?_toList,flat_get D.toList i hi];unfold Go.Sort.putCells;have Gf:i<Gb.size:=by omega
    rw[Array.getElem?_mapIdx,Array.getElem?_eq_getElem Gf,Option.map_some,if_pos (by simp;omega),Nat.sub_zero];simp
   ·rw[List.getElem?_take,if_neg hi,List.getElem?_eq_none (by rw[Eb];omega)]
  ·unfold sortWorldK grow putRowK;show w.heap.size<=((putRow id (Go.Sort.ahead w m) A 0 (_root_.Go.Sort.flatK encR 2 D)).heap++os).size;rw[Array.size_append,J5];exact Nat.le_add_right _ _
  ·unfold sortWorldK grow putRowK;show((putRow id (Go.Sort.ahead w m) A 0 (_root_.Go.Sort.flatK encR 2 D)).heap++os)[j]?=_;rw[Array.getElem?_append_left (by rw[J5];show j<w.heap.size;omega),zpc id _ A 0 j _ (by omega)];rfl
theorem zup(A cap B:Nat)(x:Rk)(M:List Rk)(w:World)(h:Fo w B (.slice (some ⟨A,0,none⟩) (x::M).length cap) (x::M))(hB:B<=w.heap.size)(hl:M.length<=1048577):
  Calls prog 280 #[.slice (some ⟨A,0,none⟩) (x::M).length cap,.func (.func 281) #[] #[]] w fun e w'=>e=.returned (.tuple #[])/\∃D:List Rk,D.Perm (x::M)/\(M.Pairwise leR->D=Ho M x)/\Fo w' B (.slice (some ⟨A,0,none⟩) D.length cap) D/\Below B w w':=by
 haveI:Inhabited Rk:=⟨rk0⟩;have hs:=yc5 A 0 cap (x::M).toArray w (ybx h) (h.lt A rfl).2 (by simp;omega);rw[show(x::M).toArray.size=(x::M).length from rfl]at hs;refine hs.mono fun e w' ⟨he,d',n,os,hp,hso,hw⟩=>⟨he,d'.toList,?_,fun hM=>ybd (d:=(x::M).toArray) rfl hM hp hso,?_⟩
 ·have e1:(d'.extract 0 (x::M).length).toList=d'.toList:=by rw[show(x::M).length=d'.size from hp.1.symm,Array.extract_size]
  have e2:((x::M).toArray.extract 0 (x::M).length).toList=x::M:=by rw[show(x::M).length=(x::M).toArray.size from rfl,Array.extract_size]
  have:=hp.2.2;rw[e1,e2]at this;exact this
 ·rw[hw];exact ztg h hp.1 hB
theorem zum(w:World)(B:Nat)(m:ByteArray)(s:Int)(hB:B<=w.heap.size):Fo (w.alloc (.cells #[.string m,.int .i64 s] 147)) B (.slice (some ⟨w.heap.size,0,none⟩) 1 1) [⟨m,s⟩]:=
 ⟨rfl,.inr ⟨w.heap.size,1, #[.string m,.int .i64 s],rfl,hB,Fc.new w 147 _,by simp,by unfold maxLen;omega,by simp,rfl⟩⟩
theorem zpx(h:1<=L.length):Hv L=G9 L:=by unfold Hv;rw[Qe h,Qz]
theorem zvr{cc n:Nat}{D:List Rk}(h:Fo w B (.slice (some ⟨A,0,none⟩) D.length cc) D)(e:D.length=n):Fo w B (.slice (some ⟨A,0,none⟩) n cc) (if true=true then D else[]):=by subst e;exact h
theorem J8{I:List Rk}(hb:Bl w w'):Z0 w I false (.returned (.tuple #[.slice none 0 0,.bool false])) w':=
 ⟨⟨_,rfl,Up _ _⟩,hb⟩
section
variable (a:Option Addr) (b off n c:Nat) (L:List Rk) (m:ByteArray) (s:Int) (w:World)
theorem zrz(h:F7 w a b off n L)(hn:n<=1048576)(hf:Md L)(hfs:Mn s)(ht:Tab w)(hw10:22<=w.heap.size)(hok:G9 L=true)
 (hstart:n=0\/n≠0/\Hv L=true):
  Calls prog 255 #[.slice a n c,.string m,.int .i64 s] w (Z0 w (Ho (without L m) ⟨m,s⟩) (Te L m s)):=by
 obtain⟨i0,hi,Gs,Gn,Gq⟩:=info_parts U5;have HS:=hid (zqc hok);have Gt:Hid (Te L m s=G9 (Ho (without L m) ⟨m,s⟩)):=by unfold Hid Te;rw[hok,Qz]
 have Gr:Hid (Hv (Ho (without L m) ⟨m,s⟩)=G9 (Ho (without L m) ⟨m,s⟩)):=zpx (by rw[Bp];omega);have cR:=Cs a b off n c L w h (by omega) hf ht hw10;have H:=hid h;have HL:=hid h.len;have HF:=hid hf;have HT:=hid ht;have Gp:=hid hfs;clear h hf ht hok hfs;generalize hI:Ho (without L m) ⟨m,s⟩=I at*;have HI:=hid hI;clear hI;generalize hrb:Te L m s=rb at*;clear hrb;go_enter func255,ntmps255;rcases hstart with h0|⟨h0,hr⟩
 ·have Gu:decide ((0:Int)<(n:Int))=false:=by simp;omega
  have Gv:decide (0<n)=false:=by simp;omega
  clear cR h0;have b0:Bl w w:=Qb _ _;have z0:w.heap.size<=w.heap.size:=Qc _;have O0:=zum w w.heap.size m s z0;have B0:Bl w (w.alloc (.cells #[.string m,.int .i64 s] 147)):=b0.alloc z0 _;go_wp2;go_loopw [8,25] (fun v i wr=>∃(k A cc:Nat),k<=n/\i=.int .i64 k/\v=.slice (some ⟨A,0,none⟩) ((⟨m,s⟩:Rk)::without (L.take k) m).length cc/\Fo wr w.heap.size (.slice (some ⟨A,0,none⟩) ((⟨m,s⟩:Rk)::without (L.take k) m).length cc) (⟨m,s⟩::without (L.take k) m)/\Bl w wr) (fun _ i _=>n-(intOf i).toNat)
  case atStart=>exact⟨0,_,_,by omega,rfl,rfl,O0,B0⟩
  case round=>
   obtain⟨k,A,cc,hk,rfl,rfl,Ga,bk⟩:=hrel;clear O0 B0;have sk:=bk.size;by_cases hlt:k<n
   ·have HW:=H.out.bw bk;have hy:=HW.cell k hlt;obtain rfl:=HW.addr (by omega);have d0:=hy.c0;have d1:=hy.c1;have HN:=hid (Z4 L m k (by rw[HL.out];exact hlt));have Gj:(without (L.take k) m).length<=k:=Qj (Rf _ _) (by rw[Qn];omega);generalize L.getD k rk0=y at*;obtain⟨ym,ys⟩:=y;dsimp only at d0 d1;clear HW hy;have b1:Bl w (wr.alloc (.cells #[.string ym,.int .i64 ys] 147)):=bk.alloc sk _;have Gg:Bl wr (wr.alloc (.cells #[.string ym,.int .i64 ys] 147)):=(Qb _ wr).alloc (Qc _) _;have o1:=Fo.bw Ga Gg;by_cases he:ym=m
    ·have Gb:Hid (without (L.take (k+1)) m=without (L.take k) m):=by unfold Hid;rw[HN.out,if_pos he,List.append_nil]
     have Gh:Hid _:=o1;subst he;clear HN Ga o1;go_wp2;go_roundw
     case rel=>exact⟨k+1,A,cc,by omega,by go_num,by rw[Gb.out],by rw[Gb.out];exact Gh.out,b1⟩
     case measure=>simp[intOf];omega
    ·have Gb:Hid (without (L.take (k+1)) m=without (L.take k) m++ [⟨ym,ys⟩]):=by unfold Hid;rw[HN.out,if_neg he]
     have hd:=Le he;have r0:=Fc.new wr 147 #[.string ym,.int .i64 ys];have e0:=r0.cell 0;have e1:=r0.cell 1;simp only[Qm,Qk,Ql]at e0 e1;generalize without (L.take k) m=M at*;clear HN he Ga;have z1:w.heap.size<=(wr.alloc (.cells #[.string ym,.int .i64 ys] 147)).heap.size:=by simp;omega
     go_wp2_with (at_builtin;refine wpList_append_own _ rfl _ _ 234 rfl w.heap.size 147 i0 _ 2 24 underlying234 hi Gs Gn Gq rfl (by decide) _ _ _ rfl (o1.alloc _) ⟨wr.heap.size+1,0,none⟩ 1 1 [.string ym,.int .i64 ys] rfl rfl ?c1 ?c2 ?c3 ?c4 ?c5 ?_)
     case c1=>
      intro j u hj;rw[Addr.add_lit,Qq];have:=(Fc.new (wr.alloc (.cells #[.string ym,.int .i64 ys] 147)) 147 #[.string ym,.int .i64 ys]).cell j;simp only[World.size_alloc]at this;exact this.trans (by simpa using hj)
     case c2=>exact fun u hu=>by simp at hu;rcases hu with rfl|rfl<;>rfl
     case c3=>unfold maxLen;simp;omega
     case c4=>simp;omega
     case c5=>simp;omega
     intro v' w5 hown' hgrow _;have b5:=below_grown (b1.alloc z1 _) hgrow (fun x hx=>(o1.lt x hx).1) (by simp;omega);have H5:Hid (Fo w5 w.heap.size v' ((⟨m,s⟩::M)++ [⟨ym,ys⟩])):=by
      unfold Hid Fo;rw[U2,Qi];exact hown'
     obtain⟨A5,c5,hv⟩:∃A cap,v'=.slice (some ⟨A,0,none⟩) ((⟨m,s⟩::M)++ [(⟨ym,ys⟩:Rk)]).length cap:=Go.Joins.ownsRow_form H5.out (by simp);subst hv;clear hown' hgrow o1 r0 e0 e1;go_wp2;go_roundw
     case rel=>exact⟨k+1,A5,c5,by omega,by go_num,by rw[Gb.out];rfl,by rw[Gb.out];exact H5.out,b5⟩
     case measure=>simp[intOf];omega
   ·obtain rfl:k=n:=by omega
    have Ge:Hid (L.take k=L):=by unfold Hid;rw[<-HL.out];exact List.take_length
    rw[Ge.out]at Ga;have Gj:(without L m).length<=k:=by rw[<-HL.out];exact Rf _ _
    have cS:=zup A cc w.heap.size ⟨m,s⟩ (without L m) wr Ga sk (by omega);have Gm:Hid ((without L m).Pairwise leR):=Y4 HS.out;have Gl:Hid (Md I):=by unfold Hid;rw[<-HI.out];exact Aw (X7 HF.out) Gp.out
    have Gc:Hid (I.length=(without L m).length+1):=by unfold Hid;rw[<-HI.out];exact Bp _ _
    have TB:=HT.out.bw bk hw10;rw[Ge.out];clear Ga;go_wp2_with fail;refine cS.mono ?_;rintro e w1⟨rfl,D,_,hD,oD,b1⟩;have Gk:=(hD Gm.out).trans HI.out;subst Gk;have z1:=b1.size;have bb:=bk.trans b1;have T1:=TB.bw b1 hw10;have Gd:=Cs (some ⟨A,0,none⟩) A 0 D.length cc D w1 (En oD) (by rw[Gc.out];omega) Gl.out T1 (by omega);rw[Gr.out,<-Gt.out,Gc.out]at Gd;have Gf:Hid _:=oD;clear cS hD oD T1;go_wp2_with fail;refine Gd.mono ?_;rintro e w2⟨rfl,b2⟩;have b3:=bb.trans (b2.mono (by omega));have Gi:Hid _:=Fo.bw Gf.out b2;clear Gd Gf;cases rb with
    |false=>
     go_wp2;go_ret2;exact J8 b3
    |true=>
     go_wp2;go_ret2;exact⟨⟨_,rfl,zvr Gi.out Gc.out⟩,b3⟩
 ·rw[hr]at cR;have Gu:decide ((0:Int)<(n:Int))=true:=by simp;omega
  go_wp2_with fail;refine cR.mono ?_;rintro e W0⟨rfl,b0⟩;have z0:=b0.size;clear cR hr;have O0:=zum W0 w.heap.size m s z0;have B0:Bl w (W0.alloc (.cells #[.string m,.int .i64 s] 147)):=b0.alloc z0 _;go_wp2;go_loopw [8,25] (fun v i wr=>∃(k A cc:Nat),k<=n/\i=.int .i64 k/\v=.slice (some ⟨A,0,none⟩) ((⟨m,s⟩:Rk)::without (L.take k) m).length cc/\Fo wr w.heap.size (.slice (some ⟨A,0,none⟩) ((⟨m,s⟩:Rk)::without (L.take k) m).length cc) (⟨m,s⟩::without (L.take k) m)/\Bl w wr) (fun _ i _=>n-(intOf i).toNat)
  case atStart=>exact⟨0,_,_,by omega,rfl,rfl,O0,B0⟩
  case round=>
   obtain⟨k,A,cc,hk,rfl,rfl,Ga,bk⟩:=hrel;clear O0 B0;have sk:=bk.size;by_cases hlt:k<n
   ·have HW:=H.out.bw bk;have hy:=HW.cell k hlt;obtain rfl:=HW.addr (by omega);have d0:=hy.c0;have d1:=hy.c1;have HN:=hid (Z4 L m k (by rw[HL.out];exact hlt));have Gj:(without (L.take k) m).length<=k:=Qj (Rf _ _) (by rw[Qn];omega);generalize L.getD k rk0=y at*;obtain⟨ym,ys⟩:=y;dsimp only at d0 d1;clear HW hy;have b1:Bl w (wr.alloc (.cells #[.string ym,.int .i64 ys] 147)):=bk.alloc sk _;have Gg:Bl wr (wr.alloc (.cells #[.string ym,.int .i64 ys] 147)):=(Qb _ wr).alloc (Qc _) _;have o1:=Fo.bw Ga Gg;by_cases he:ym=m
    ·have Gb:Hid (without (L.take (k+1)) m=without (L.take k) m):=by unfold Hid;rw[HN.out,if_pos he,List.append_nil]
     have Gh:Hid _:=o1;subst he;clear HN Ga o1;go_wp2;go_roundw
     case rel=>exact⟨k+1,A,cc,by omega,by go_num,by rw[Gb.out],by rw[Gb.out];exact Gh.out,b1⟩
     case measure=>simp[intOf];omega
    ·have Gb:Hid (without (L.take (k+1)) m=without (L.take k) m++ [⟨ym,ys⟩]):=by unfold Hid;rw[HN.out,if_neg he]
     have hd:=Le he;have r0:=Fc.new wr 147 #[.string ym,.int .i64 ys];have e0:=r0.cell 0;have e1:=r0.cell 1;simp only[Qm,Qk,Ql]at e0 e1;generalize without (L.take k) m=M at*;clear HN he Ga;have z1:w.heap.size<=(wr.alloc (.cells #[.string ym,.int .i64 ys] 147)).heap.size:=by simp;omega
     go_wp2_with (at_builtin;refine wpList_append_own _ rfl _ _ 234 rfl w.heap.size 147 i0 _ 2 24 underlying234 hi Gs Gn Gq rfl (by decide) _ _ _ rfl (o1.alloc _) ⟨wr.heap.size+1,0,none⟩ 1 1 [.string ym,.int .i64 ys] rfl rfl ?c1 ?c2 ?c3 ?c4 ?c5 ?_)
     case c1=>
      intro j u hj;rw[Addr.add_lit,Qq];have:=(Fc.new (wr.alloc (.cells #[.string ym,.int .i64 ys] 147)) 147 #[.string ym,.int .i64 ys]).cell j;simp only[World.size_alloc]at this;exact this.trans (by simpa using hj)
     case c2=>exact fun u hu=>by simp at hu;rcases hu with rfl|rfl<;>rfl
     case c3=>unfold maxLen;simp;omega
     case c4=>simp;omega
     case c5=>simp;omega
     intro v' w5 hown' hgrow _;have b5:=below_grown (b1.alloc z1 _) hgrow (fun x hx=>(o1.lt x hx).1) (by simp;omega);have H5:Hid (Fo w5 w.heap.size v' ((⟨m,s⟩::M)++ [⟨ym,ys⟩])):=by
      unfold Hid Fo;rw[U2,Qi];exact hown'
     obtain⟨A5,c5,hv⟩:∃A cap,v'=.slice (some ⟨A,0,none⟩) ((⟨m,s⟩::M)++ [(⟨ym,ys⟩:Rk)]).length cap:=Go.Joins.ownsRow_form H5.out (by simp);subst hv;clear hown' hgrow o1 r0 e0 e1;go_wp2;go_roundw
     case rel=>exact⟨k+1,A5,c5,by omega,by go_num,by rw[Gb.out];rfl,by rw[Gb.out];exact H5.out,b5⟩
     case measure=>simp[intOf];omega
   ·obtain rfl:k=n:=by omega
    have Ge:Hid (L.take k=L):=by unfold Hid;rw[<-HL.out];exact List.take_length
    rw[Ge.out]at Ga;have Gj:(without L m).length<=k:=by rw[<-HL.out];exact Rf _ _
    have cS:=zup A cc w.heap.size ⟨m,s⟩ (without L m) wr Ga sk (by omega);have Gm:Hid ((without L m).Pairwise leR):=Y4 HS.out;have Gl:Hid (Md I):=by unfold Hid;rw[<-HI.out];exact Aw (X7 HF.out) Gp.out
    have Gc:Hid (I.length=(without L m).length+1):=by unfold Hid;rw[<-HI.out];exact Bp _ _
    have TB:=HT.out.bw bk hw10;rw[Ge.out];clear Ga;go_wp2_with fail;refine cS.mono ?_;rintro e w1⟨rfl,D,_,hD,oD,b1⟩;have Gk:=(hD Gm.out).trans HI.out;subst Gk;have z1:=b1.size;have bb:=bk.trans b1;have T1:=TB.bw b1 hw10;have Gd:=Cs (some ⟨A,0,none⟩) A 0 D.length cc D w1 (En oD) (by rw[Gc.out];omega) Gl.out T1 (by omega);rw[Gr.out,<-Gt.out,Gc.out]at Gd;have Gf:Hid _:=oD;clear cS hD oD T1;go_wp2_with fail;refine Gd.mono ?_;rintro e w2⟨rfl,b2⟩;have b3:=bb.trans (b2.mono (by omega));have Gi:Hid _:=Fo.bw Gf.out b2;clear Gd Gf;cases rb with
    |false=>
     go_wp2;go_ret2;exact J8 b3
    |true=>
     go_wp2;go_ret2;exact⟨⟨_,rfl,zvr Gi.out Gc.out⟩,b3⟩
theorem zxu(h:F7 w a b off n L)(hn:n<=1048576)(hf:Md L)(hfs:Mn s)(ht:Tab w)(hw10:22<=w.heap.size):
  Calls prog 255 #[.slice a n c,.string m,.int .i64 s] w (Z0 w (Ho (without L m) ⟨m,s⟩) (Te L m s)):=by
 by_cases h0:n=0
 ·have hL:L=[]:=List.length_eq_zero_iff.mp (by rw[h.len];exact h0);exact zrz a b off n c L m s w h hn hf hfs ht hw10 (by rw[hL];rfl) (.inl h0)
 ·have hr:=zpx (L:=L) (by rw[h.len];omega);cases hb:G9 L with
  |true=>exact zrz a b off n c L m s w h hn hf hfs ht hw10 hb (.inr ⟨h0,hr.trans hb⟩)
  |false=>
   have HE:Hid (Te L m s=false):=by unfold Hid Te;rw[hb,Q0]
   have cR:=Cs a b off n c L w h (by omega) hf ht hw10;rw[hr,hb]at cR;have Ga:decide ((0:Int)<(n:Int))=true:=by simp;omega
   have Gb:decide (0<n)=true:=by simp;omega
   generalize Ho (without L m) ⟨m,s⟩=I;generalize hrb:Te L m s=rb at*;obtain rfl:rb=false:=HE.out;go_enter func255,ntmps255;go_wp2_with fail;refine cR.mono ?_;rintro e w1⟨rfl,b1⟩;go_wp2;go_ret2;exact J8 b1
end
end Kk
namespace Rb
open Tryz
open _root_.ByteArray (empty)
open Go.RowKit Go.Maps
open Ri (F4 RK UpK Fq G2 Nb Mk Ln kvA z7 Ow Rv Ou Ru)
variable {X M:List Kk.Rk} {L:List KV} {T:List ByteArray} {k B:Nat} {w:World}
structure OkR (L:List Kk.Rk):Prop where
 sm:∀x∈L,x.m.size<=200/\-1000000000000000000<=x.s/\x.s<=1000000000000000000
 up:L.Pairwise (fun x y=>Kk.La x y=true)
 ne:L.Pairwise (fun x y=>x.m≠y.m)
theorem getD_at{L:List Kk.Rk}{i:Nat}(h:i<L.length):L.getD i Kk.rk0=L[i]:=by
 rw[Qa,Qd h];rfl
theorem yft(L:List Kk.Rk):(List.range L.length).all (Kk.O6 L)=true↔OkR L:=by
 rw[Qw];constructor
 ·intro h;have h1:∀i,i<L.length->Kk.N5 L i=true/\Kk.Mt L i=true/\Kk.Lj L i=true/\Kk.Lz L i=true:=fun i hi=>by
   have:=h i (List.mem_range.2 hi);unfold Kk.O6 at this;simpa only[Qh]using this
  refine⟨fun x hx=>?_,?_,?_⟩
  ·obtain⟨i,hi,rfl⟩:=List.getElem_of_mem hx;obtain⟨a1,a2,-,-⟩:=h1 i hi;unfold Kk.N5 at a1;unfold Kk.Mt Kk.L7 at a2;rw[getD_at hi]at a1 a2;simp only[Qh,decide_eq_true_iff]at a1 a2;exact⟨a1,a2.1,a2.2⟩
  ·rw[List.pairwise_iff_getElem];intro i j hi hj hij;have:=Kk.It (L:=L) (Qw.2 fun q hq=>(h1 q (List.mem_range.1 hq)).2.2.1) i j hij hj;rwa[getD_at hi,getD_at hj]at this
  ·rw[List.pairwise_iff_getElem];intro i j hi hj hij;have:=(h1 j hj).2.2.2;unfold Kk.Lz at this;rw[Bool.not_eq_true',List.any_eq_false]at this;have:=this i (List.mem_range.2 hij);rw[getD_at hi,getD_at hj]at this;simpa using this
 ·intro h i hi;have hi:=List.mem_range.1 hi;have hm:=h.sm _ (Qv hi);unfold Kk.O6;simp only[Qh];refine⟨?_,?_,?_,?_⟩
  ·unfold Kk.N5;rw[getD_at hi];exact Qe hm.1
  ·unfold Kk.Mt Kk.L7;rw[getD_at hi];simp only[Qh,decide_eq_true_iff];exact hm.2
  ·unfold Kk.Lj;by_cases h0:i=0
   ·simp[h0]
   ·have:=List.pairwise_iff_getElem.1 h.up (i-1) i (by omega) hi (by omega);rw[getD_at hi,getD_at (by omega:i-1<L.length),this,Bool.or_true]
  ·exact Kk.yfc fun j hj=>by
    have:=List.pairwise_iff_getElem.1 h.ne j i (by omega) hi hj;rwa[getD_at hi,getD_at (by omega:j<L.length)]
theorem Di(L:List Kk.Rk):Kk.G9 L=true↔L.length<=20/\OkR L:=by
 unfold Kk.G9;rw[Qh,decide_eq_true_iff,yft]
def Hz (X:List Kk.Rk) (x:Kk.Rk):List Kk.Rk:=Kk.Ho (Kk.without X x.m) x
theorem Rf(m:ByteArray):∀{X:List Kk.Rk},X.Pairwise (fun x y=>x.m≠y.m)->X.length<=(Kk.without X m).length+1
 |[],_=>by simp
 |x::r,h=>by
  have h':=List.pairwise_cons.1 h;unfold Kk.without;rw[List.filter_cons];by_cases e:x.m=m
  ·have:r.filter (fun y=>decide (y.m≠m))=r:=List.filter_eq_self.2 fun y hy=>by
    have:=h'.1 y hy;rw[e]at this;exact Qe (fun q=>this q.symm)
   rw[if_neg (by simp[e]),this];simp
  ·rw[if_pos (by simp[e])];have:=Rf m h'.2;unfold Kk.without at this;simp only[Q1];omega
theorem J9(h:OkR X){x:Kk.Rk}(hx:x.m.size<=200/\-1000000000000000000<=x.s/\x.s<=1000000000000000000):OkR (Hz X x)/\X.length<=(Hz X x).length/\(Hz X x).length<=X.length+1:=by
 have hp:(Hz X x).Perm (x::Kk.without X x.m):=Kk.zvm _ _;have hw:∀y∈Kk.without X x.m,y∈X/\y.m≠x.m:=fun y hy=>by
  obtain⟨h1,h2⟩:=List.mem_filter.1 hy;exact⟨h1,by simpa using h2⟩
 have Ga:(Hz X x).Pairwise (fun x y=>x.m≠y.m):=by
  refine(hp.pairwise_iff (fun {a b} hab=>fun e=>hab e.symm)).2 (List.pairwise_cons.2 ⟨fun y hy e=>(hw y hy).2 e.symm,h.ne.sublist List.filter_sublist⟩)
 have Gb:(Hz X x).Pairwise Kk.leR:=Kk.zm5 x (Kk.Y4 (h.up.imp fun {a b} hab=>Kk.J4 hab));refine⟨⟨fun y hy=>?_,(Gb.and Ga).imp fun {a b} hab=>?_,Ga⟩,?_,?_⟩
 ·rcases List.mem_cons.1 (hp.mem_iff.1 hy)with rfl|h1
  ·exact hx
  ·exact h.sm y (hw y h1).1
 ·cases e:Kk.La a b with
  |true=>rfl
  |false=>exact absurd (congrArg Kk.Rk.m (Kk.zj1 hab.1 e)) hab.2
 ·rw[hp.length_eq,Q1];exact Rf _ h.ne
 ·rw[hp.length_eq,Q1];have:(Kk.without X x.m).length<=X.length:=Qt _ _;omega
theorem zzj:∀(W X:List Kk.Rk),OkR X->(∀x∈W,x.m.size<=200/\-1000000000000000000<=x.s/\x.s<=1000000000000000000)->OkR (W.foldl Hz X)/\X.length<=(W.foldl Hz X).length/\(W.foldl Hz X).length<=X.length+W.length
 | [],X,h,_=>⟨h,Qc _,Qc _⟩
 |x::W,X,h,hw=>by
  obtain⟨h1,h2,h3⟩:=J9 h (hw x List.mem_cons_self);obtain⟨g1,g2,g3⟩:=zzj W (Hz X x) h1 (fun y hy=>hw y (List.mem_cons_of_mem _ hy));exact⟨g1,Qj h2 g2,by rw[List.foldl_cons,Q1];omega⟩
theorem ybc(h:OkR X)(hl:X.length<=20){m:ByteArray}{s:Int}(hx:m.size<=200/\-1000000000000000000<=s/\s<=1000000000000000000):Kk.Te X m s=decide ((Hz X ⟨m,s⟩).length<=20):=by
 unfold Kk.Te;rw[(Di X).2 ⟨hl,h⟩,Qz];have:=(J9 h (x:=⟨m,s⟩) hx).1;by_cases e:(Hz X ⟨m,s⟩).length<=20
 ·rw[Qe e];exact(Di _).2 ⟨e,this⟩
 ·rw[Qf e];cases hz:Kk.G9 (Kk.Ho (Kk.without X m) ⟨m,s⟩)with
  |false=>rfl
  |true=>exact absurd ((Di _).1 hz).1 e
def M2:List ByteArray->Option (List Kk.Rk)
 |s::m::T=>if (Fg s).2=true then (M2 T).map (fun r=>⟨m,(Fg s).1⟩::r) else none
 |_=>some []
theorem zrb:∀(W:List ByteArray) (rs:List Kk.Rk),Mw rs W=(M2 W).map (fun r=>r.foldl Hz rs)
 | [],rs=>rfl
 | [_],rs=>rfl
 |s::m::T,rs=>by
  unfold Mw M2;by_cases h:(Fg s).2=true
  ·rw[if_pos h,if_pos h,zrb T];cases M2 T<;>rfl
  ·rw[if_neg h,if_neg h];rfl
theorem znk:∀(W:List ByteArray)(r:List Kk.Rk),M2 W=some r->(∀t∈W,t.size<=200)->∀x∈r,x.m.size<=200/\-1000000000000000000<=x.s/\x.s<=1000000000000000000
 |[],r,h,_=>by cases h;simp
 |[_],r,h,_=>by cases h;simp
 |s::m::T,r,h,hs=>by
  unfold M2 at h;by_cases hz:(Fg s).2=true
  ·rw[if_pos hz]at h;cases hT:M2 T with
   |none=>rw[hT]at h;cases h
   |some q=>
    rw[hT]at h;cases h;intro x hx;rcases List.mem_cons.1 hx with rfl|hx
    ·refine⟨hs m (by simp),?_⟩;rcases Un s with hb|hb
     ·exact hb
     ·rw[hb]at hz;cases hz
    ·exact znk T q hT (fun t ht=>hs t (List.mem_cons_of_mem _ (List.mem_cons_of_mem _ ht))) x hx
  ·rw[if_neg hz]at h;cases h
theorem zva:∀(W:List ByteArray)(r:List Kk.Rk),M2 W=some r->r.length=W.length/2
 |[],r,h=>by cases h;rfl
 |[_],r,h=>by cases h;simp
 |s::m::T,r,h=>by
  unfold M2 at h;by_cases hz:(Fg s).2=true
  ·rw[if_pos hz]at h;cases hT:M2 T with
   |none=>rw[hT]at h;cases h
   |some q=>
    rw[hT]at h;cases h;have:=zva T q hT;simp only[Q1];omega
  ·rw[if_neg hz]at h;cases h
theorem zyb{v:Vl}(h:Ls v=true):OkR v.rq:=by
 have Ga:v.rq.length=0->OkR v.rq:=fun e=>by rw[List.length_eq_zero_iff.1 e];exact⟨fun x hx=>absurd hx List.not_mem_nil,List.Pairwise.nil,List.Pairwise.nil⟩
 unfold Ls Nq at h;split at h
 ·simp only[Qh,decide_eq_true_iff]at h;exact Ga (by omega)
 ·split at h
  ·simp only[Qh,decide_eq_true_iff]at h;exact Ga (by omega)
  ·split at h
   ·simp only[Qh,decide_eq_true_iff]at h;exact Ga (by omega)
   ·split at h
    ·simp only[Qh,decide_eq_true_iff]at h;exact((Di _).1 h.2.2.2).2
    ·cases h
theorem yd5(hd:Fm (L.map KV.key)=true)(nm:ByteArray):OkR (Fb L nm).key.val.rq:=by
 rcases Oo L nm with⟨-,e⟩|⟨-,hm,-⟩
 ·rw[e];exact⟨fun x hx=>absurd hx List.not_mem_nil,List.Pairwise.nil,List.Pairwise.nil⟩
 ·have hk:=((Ns _).1 hd).2.2 _ (List.mem_map_of_mem hm);unfold Hh at hk;rw[Qh,Qh]at hk;exact zyb hk.2.1
theorem yem{ks:List Ke}(hd:Fm ks=true)(nm:ByteArray)(X:List Kk.Rk)(du:Int)(R:List Rp)(hX:20<X.length):Fj ks ⟨nm,⟨4,⟨#[]⟩,[],[],X⟩,du⟩ R=(ks,Fl My):=by
 unfold Fj;have h1:Ml ⟨nm,⟨4,⟨#[]⟩,[],[],X⟩,du⟩=false:=by
  unfold Ml;simp;intro e;rw[e]at hX;simp at hX
 have h2:Hh ⟨nm,⟨4,⟨#[]⟩,[],[],X⟩,du⟩=false:=by
  cases e:Hh ⟨nm,⟨4,⟨#[]⟩,[],[],X⟩,du⟩with
  |false=>rfl
  |true=>
   unfold Hh at e;rw[Qh,Qh]at e;have:=(Bo e.2.1).nr;have:X.length<=20:=this;omega
 rw[h1,if_neg (by simp),W9 hd,h2,Q0,if_neg (by simp)]
theorem zyj(h:2*k+1<T.length):T.drop (2*k)=T.getD (2*k) empty::T.getD (2*k+1) empty::T.drop (2*(k+1)):=by
 rw[Qa,Qa,Qd h,Qd (by omega:2*k<T.length)];show T.drop (2*k)=T[2*k]::T[2*k+1]::T.drop (2*k+1+1);rw[List.getElem_cons_drop,List.getElem_cons_drop]
theorem zrc(s m:ByteArray)(T:List ByteArray):M2 (s::m::T)=if(Fg s).2=true then(M2 T).map (fun r=>⟨m,(Fg s).1⟩::r) else none:=by rw[M2]
structure Uj (T:List ByteArray) (k:Nat) (M:List Kk.Rk):Prop where
 eq:M2 T=(M2 (T.drop (2*k))).map (fun r=>M++r)
 len:M.length=k
theorem Uj.next(h:Uj T k M)(hk:2*k+1<T.length):((Fg (T.getD (2*k) empty)).2=true->Uj T (k+1) (M++ [⟨T.getD (2*k+1) empty,Nk (T.getD (2*k) empty)⟩]))/\((Fg (T.getD (2*k) empty)).2=false->M2 T=none):=by
 have he:=h.eq;rw[zyj hk]at he;constructor
 ·intro hz;refine⟨?_,by simp[h.len]⟩;rw[he,zrc,if_pos hz];unfold Nk;rw[if_pos hz];cases M2 (T.drop (2*(k+1)))with
  |none=>rfl
  |some r=>simp
 ·intro hz;rw[he,zrc,if_neg (by rw[hz];simp)];rfl
theorem Uj.last(h:Uj T k M)(hk:T.length<=2*k):M2 T=some M:=by
 rw[h.eq,List.drop_eq_nil_of_le hk];unfold M2;simp
theorem zmu(aa:Option Addr)(ab ao m ac B:Nat)(T:List ByteArray)(ad:Nat->Addr)(w:World)(h:Fs w aa ab ao m T)(hE:Lk w B ad)(hB:B<=w.heap.size)(hac:m<=ac)(hm:m<=16)(hev:m%2=0)(hs:∀t∈T,t.size<=200):
  Calls prog 254 #[.slice aa m ac] w fun e w'=>(∃v,e=.returned (.tuple #[v,Lf (ad 12) (M2 T).isSome])/\Kk.Fo w' w.heap.size v ((M2 T).getD []))/\Bl w w':=by
 have Gh:=h.len;have hz:=Lh hs;have HI:Hid (∀W k,Bl w W->Cp 241 #[.string (T.getD k empty)] W fun e w'=>e=.returned (.tuple #[.int .i64 (Nk (T.getD k empty)),Lf (ad 12) (Fg (T.getD k empty)).2])/\Bl W w'):=fun W k hb=>Wi _ W B ad (by have:=hz k;omega) (hE.bw (hb.mono hB)) (Qj hB hb.size);have Gc:Hid (∀W,Bl w W->∀i,i<m->W.cell? ⟨ab,ao+i,none⟩=some (.string (T.getD i empty))):=fun W hb i hi=>(hb.cell (p:=⟨ab,ao+i,none⟩) (h.low (by omega))).trans (h.cell i hi);have Gp:Hid (0<m->aa=some ⟨ab,ao,none⟩):=fun h0=>h.addr h0;have Gq:Hid (Kk.Fo w w.heap.size (.slice none 0 0) []):=Kk.Up w _;have Gi:=hid Gh;have Gr:Hid (Uj T 0 []):=⟨by rw[Nat.mul_zero,List.drop_zero];cases M2 T<;>simp,rfl⟩;go_enter func254,ntmps254;go_wp2;go_loopg [0,4] m (fun kx s0 s4 wr=>∃(k:Nat) (M:List Kk.Rk) (v:Value) (aw:Option Addr),2*k<=m/\s4=v/\s0=.slice aw (m-2*k) (ac-2*k)/\(2*k<m->aw=some ⟨ab,ao+2*k,none⟩)/\m-2*k<=kx/\Hid (Uj T k M/\Kk.Fo wr w.heap.size v M/\Bl w wr))
 case atStart=>exact⟨0,[],.slice none 0 0,aa,by omega,rfl,rfl,fun h0=>Gp.out (by omega),by omega,Gr.out,Gq.out,Qb _ _⟩
 case round=>
  obtain⟨k,M,v,aw,hk,rfl,rfl,Gn,Gw,hI⟩:=hrel;by_cases hlt:2*k<m
  ·obtain rfl:=Gn hlt;obtain⟨r,hr⟩:∃r,m-2*k=r:=⟨_,rfl⟩;obtain⟨q,hq⟩:∃q,ac-2*k=q:=⟨_,rfl⟩;have Gz:2<=r:=by omega
   have Kb:r<=q:=by omega
   rw[hr,hq];have Gb:Hid (m-2*(k+1)=r-2/\ac-2*(k+1)=q-2/\m-2*k=r):=⟨by omega,by omega,hr⟩;obtain⟨n1,n2⟩:=hI.out.1.next (by rw[Gi.out];omega);have Gg:Hid _:=n1;have Gf:Hid _:=n2;have Ga:=hid (HI.out wr (2*k) hI.out.2.2);have Gj:Hid (∀W,Bl w W->W.cell? ⟨ab,ao+2*k+1,none⟩=some (.string (T.getD (2*k+1) empty))):=fun W hb=>Gc.out W hb (2*k+1) (by omega);have u0:=Gc.out wr hI.out.2.2 (2*k) (by omega);have Gu:decide ((2:Int)<=(r:Int))=true:=Qe (by omega);have Gy:(0:Int)<(r:Int):=by omega
   have Kd:(1:Int)<(r:Int):=by omega
   have Gx:(2:Int)<=(r:Int):=by omega
   have Ka:(r:Int)<=(q:Int):=by omega
   have Kc:0<r:=by omega
   have Gs:M.length<=1048577:=by have:=hI.out.1.len;omega
   generalize T.getD (2*k) empty=t0,T.getD (2*k+1) empty=t1 at*;generalize Nk t0=z0 at*;cases hzb:(Fg t0).2 with
   |false=>
    have Gt:Hid (M2 T=none):=Gf.out hzb;rw[hzb]at Ga;have Ga:Hid (Cp 241 #[.string t0] wr fun e w'=>e=.returned (.tuple #[.int .i64 z0,.iface 307 (.pointer (some (ad 12)))])/\Bl wr w'):=Ga;go_wp2_with fail;refine Ga.out.mono ?_;rintro e w1⟨rfl,b1⟩;have Ge:Hid (Bl w w1):=hI.out.2.2.trans (b1.mono hI.out.2.2.size);go_wp2;go_ret2;rw[Gt.out];exact⟨⟨_,rfl,Kk.Up _ _⟩,Ge.out⟩
   |true=>
    rw[hzb]at Ga;have Ga:Hid (Cp 241 #[.string t0] wr fun e w'=>e=.returned (.tuple #[.int .i64 z0,.nilIface])/\Bl wr w'):=Ga;have Gk:Hid _:=Gg.out hzb;go_wp2_with fail;refine Ga.out.mono ?_;rintro e w1⟨rfl,b1⟩;have Ge:Hid (Bl w w1):=hI.out.2.2.trans (b1.mono hI.out.2.2.size);have u1:=Gj.out w1 Ge.out;obtain⟨v',w7,Gd,Gl,Gm,-⟩:=zq9 (⟨t1,z0⟩:Kk.Rk) (Fw hI.out.2.1 b1) Gs Ge.out.size;have R7:Hid _:=Gd;have H7:Hid (Uj T (k+1) (M++ [⟨t1,z0⟩])/\Kk.Fo w7 w.heap.size v' (M++ [⟨t1,z0⟩])/\Bl w w7):=⟨Gk.out,Gl,Ge.out.trans Gm⟩;by_cases hq2:q=2
    ·obtain rfl:r=2:=by omega
     subst hq2;go_wp2_with (at_builtin;refine wpList_append_run rfl _ _ 43 rfl rfl rfl R7.out ?_);go_roundg 0
     case measure=>have:=Gb.out.2.2;omega
     case rel=>exact⟨k+1,_,_,some ⟨ab,ao+2*k,none⟩,by omega,rfl,by rw[Gb.out.1,Gb.out.2.1],fun h=>by have:=Gb.out.1;omega,by have:=Gb.out.1;omega,H7⟩
    ·have Gv:¬(q=2):=hq2;go_wp2_with (at_builtin;refine wpList_append_run rfl _ _ 43 rfl rfl rfl R7.out ?_);go_roundg (r-2)
     case measure=>have:=Gb.out.2.2;omega
     case rel=>exact⟨k+1,_,_,some ⟨ab,ao+2*k+2,none⟩,by omega,rfl,by rw[Gb.out.1,Gb.out.2.1],fun _=>by rw[show ao+2*(k+1)=ao+2*k+2 by omega],by have:=Gb.out.1;omega,H7⟩
  ·have hz:m-2*k=0:=by omega
   have HF:=hid (hI.out.1.last (by rw[Gi.out];omega));rw[hz];go_wp2;go_ret2;rw[HF.out];exact⟨⟨_,rfl,hI.out.2.1⟩,hI.out.2.2⟩
structure Tw (w:World) (B:Nat) (rs Wn:List Kk.Rk) (k:Nat) (v:Value) (X:List Kk.Rk) (wr:World):Prop where
 eq:X=(Wn.take k).foldl Hz rs
 ok:OkR X
 len:X.length<=20
 own:Kk.Fo wr B v X
 new:0<k->Kk.Fo wr w.heap.size v X
 bel:Bl w wr
theorem zss{wr w1:World}{ad:Nat->Addr}{rs Wn:List Kk.Rk}{v:Value}(hE:Lk w B ad)(hB:B<=w.heap.size)(h:Tw w B rs Wn k v X wr)(hk:k<Wn.length)(hw:∀x∈Wn,x.m.size<=200/\-1000000000000000000<=x.s/\x.s<=1000000000000000000)(hb:Bl wr w1):
  Calls prog 255 #[v,.string (Wn.getD k Kk.rk0).m,.int .i64 (Wn.getD k Kk.rk0).s] w1 fun e w2=>∃v' ok,e=.returned (.tuple #[v',.bool ok])/\(Bl w w2/\Bl wr w2)/\(ok=true->∃X',Tw w B rs Wn (k+1) v' X' w2)/\(ok=false->20<(Wn.foldl Hz rs).length):=by
 have hx:=getD_at hk;have Gb:=hw _ (Qv hk);rw[<-hx]at Gb;have Ga:=h.bel.trans (hb.mono h.bel.size);have Gf:=hE.bw (Ga.mono hB);obtain⟨a,A,c,rfl,hz⟩:=Kk.N7 (Fw h.own hb);refine(Kk.zxu a A 0 X.length c X _ _ w1 hz (by have:=h.len;omega) (fun y hy=>by have:=h.ok.sm y hy;exact⟨by omega,by omega⟩) ⟨by omega,by omega⟩ Gf.rd.tab (Qj hE.n25 (Qj hB Ga.size))).mono ?_;rintro e w2⟨⟨v',rfl,ho⟩,Ge⟩;rw[ybc h.ok h.len Gb]at ho ⊢;have Gc:=Ga.trans (Ge.mono Ga.size);obtain⟨o1,o2,o3⟩:=J9 h.ok Gb;have Gd:(Wn.take (k+1)).foldl Hz rs=Hz X (Wn.getD k Kk.rk0):=by
  rw[Qo hk,List.foldl_append,<-h.eq,hx];rfl
 refine⟨v',_,rfl,⟨Gc,hb.trans (Ge.mono hb.size)⟩,fun e=>⟨Hz X (Wn.getD k Kk.rk0),?_⟩,fun e=>?_⟩
 ·rw[e,if_pos rfl]at ho;have hl:=Qg e;refine⟨Gd.symm,o1,hl,L5 ho (Qj hB Ga.size),fun _=>L5 ho Ga.size,Gc⟩
 ·have hl:=of_decide_eq_false e;have hl:20<(Hz X (Wn.getD k Kk.rk0)).length:=Nat.lt_of_not_le hl;have e2:Wn.foldl Hz rs=(Wn.drop (k+1)).foldl Hz (Hz X (Wn.getD k Kk.rk0)):=by
   rw[<-Gd,<-List.foldl_append,List.take_append_drop]
  rw[e2];exact Qr hl (zzj _ _ o1 (fun y hy=>hw y (List.mem_of_mem_drop hy))).2.1
theorem Fu.ranksAt{g b n:Nat}{now:Int}{aa:Option Addr}{ab ao ac:Nat}(h:Fu w B g b n now aa ab ao ac L L T)(nm:ByteArray):Kk.Fo w B (Fb L nm).vr (Fb L nm).key.val.rq:=(h.keyOwn nm).rq
theorem zwy(B g b n:Nat)(now:Int)(aa:Option Addr)(ab ao ac:Nat)(L:List KV)(T:List ByteArray)(ad:Nat->Addr)(w:World)(h:Fu w B g b n now aa ab ao ac L L T)(hd:Fm (L.map KV.key)=true)(hE:Lk w B ad)(hn:n<=1000)(hs:∀t∈T,t.size<=200)(hT:3<=T.length)(hT2:T.length<=16)(hodd:T.length%2=1)(hac:T.length<=ac):
  Calls prog 202 #[.pointer (some ⟨g,0,none⟩)] w (F2 w B g b now aa ab ao ac T ad (L.map KV.key) (match Mw (Fb L (T.getD 0 empty)).key.val.rq T.tail with|some X=>Fj (L.map KV.key) (Pe L (T.getD 0 empty) X) (Fe ((X.length:Int)-((Fb L (T.getD 0 empty)).key.val.rq.length:Int)))|none=>(L.map KV.key,Fl F3))):=by
 rw[zrb];have Kn:=Lh hs 0;have Gn:T.tail.length=T.length-1:=by simp
 have Gk:∀t∈T.tail,t.size<=200:=fun t ht=>hs t (List.mem_of_mem_tail ht);have Ga:=hid (zmu _ ab (ao+1) (T.length-1) (ac-1) B T.tail ad w (h.tail (by omega)) hE h.le (by omega) (by omega) (by omega) Gk);have c2:=h.call.c2;obtain rfl:=h.call.args.addr (by omega);have Kv:(1:Int)<=(T.length:Int):=by omega
 have Kz:(1:Int)<(ac:Int):=by omega
 have Kt:(T.length:Int)<=(ac:Int):=by omega
 have Sb:1<ac:=by omega
 have Ku:¬ac=1:=by omega
 cases hW:M2 T.tail with
 |none=>
  rw[hW]at Ga;have Ga:Hid (Cp 254 #[.slice (some ⟨ab,ao+1,none⟩) (T.length-1) (ac-1)] w fun e w'=>(∃v,e=.returned (.tuple #[v,.iface 307 (.pointer (some (ad 12)))])/\Kk.Fo w' w.heap.size v [])/\Bl w w'):=Ga;have Ki:=h.le;show Calls prog 202 _ w (F2 w B g b now (some ⟨ab,ao,none⟩) ab ao ac T ad (L.map KV.key) (L.map KV.key,Fl F3));generalize L.map KV.key=ks at*;go_enter func202,ntmps202;go_wp2_with fail;refine Ga.out.mono ?_;rintro e w1⟨⟨v,rfl,ho⟩,b1⟩;have HF:Hid _:=Ul (B:=B) (g:=g) (b:=b) (now:=now) (aa:=some ⟨ab,ao,none⟩) (ab:=ab) (ao:=ao) (ac:=ac) (T:=T) (ad:=ad) (ks:=ks) (r:=.slice none 0 0) 12 (by omega) (b1.mono Ki);go_wp2;go_ret2;exact HF.out
 |some Wn=>
  rw[hW]at Ga;have Ga:Hid (Cp 254 #[.slice (some ⟨ab,ao+1,none⟩) (T.length-1) (ac-1)] w fun e w'=>(∃v,e=.returned (.tuple #[v,.nilIface])/\Kk.Fo w' w.heap.size v Wn)/\Bl w w'):=Ga;have Kl:Wn.length=(T.length-1)/2:=by rw[zva _ _ hW,Gn]
  have Kd:=znk _ _ hW Gk;have Gq:=N4 hd (T.getD 0 empty);have Gv:=yd5 hd (T.getD 0 empty);obtain⟨a1,n1,k1,a2,n2,k2,a3,n3,k3,e1,e2,e3,hH⟩:=h.held (by omega) Kn;have Gg:=h.ranksAt (T.getD 0 empty);rw[e3]at Gg;obtain⟨xa,xc,xe⟩:=Fx Gg;injection xe with x1 x2 x3;subst x1 x2 x3;have HH:Hid (∀W,_):=hH;have HR:Hid (∀W s,Cp 233 #[.int .i64 s] W (F9 W (Fe s))):=fun W s=>Pg s W;have Gm:Hid (∀w1,Bl w w1->Tw w B (Fb L (T.getD 0 empty)).key.val.rq Wn 0 (.slice a3 (Fb L (T.getD 0 empty)).key.val.rq.length k3) (Fb L (T.getD 0 empty)).key.val.rq w1):=fun w1 hb=>⟨by rw[List.take_zero];rfl,Gv,Gq.nr,Fw Gg hb,fun h0=>absurd h0 (by omega),hb⟩;have Ge:Hid (∀wr k v X w1,Tw w B (Fb L (T.getD 0 empty)).key.val.rq Wn k v X wr->k<Wn.length->Bl wr w1->Cp 255 #[v,.string (Wn.getD k Kk.rk0).m,.int .i64 (Wn.getD k Kk.rk0).s] w1 fun e w2=>∃v' ok,e=.returned (.tuple #[v',.bool ok])/\(Bl w w2/\Bl wr w2)/\(ok=true->∃X',Tw w B (Fb L (T.getD 0 empty)).key.val.rq Wn (k+1) v' X' w2)/\(ok=false->20<(Wn.foldl Hz (Fb L (T.getD 0 empty)).key.val.rq).length)):=fun wr k v X w1 hI hk hb=>zss hE h.le hI hk Kd hb;have Gj:Hid (20<(Wn.foldl Hz (Fb L (T.getD 0 empty)).key.val.rq).length->∀W r,Bl w W->W.cell? ⟨7,0,none⟩=some (.iface 307 (.pointer (some (ad 1))))/\F2 w B g b now (some ⟨ab,ao,none⟩) ab ao ac T ad (L.map KV.key) (Fj (L.map KV.key) (Pe L (T.getD 0 empty) (Wn.foldl Hz (Fb L (T.getD 0 empty)).key.val.rq)) (Fe (((Wn.foldl Hz (Fb L (T.getD 0 empty)).key.val.rq).length:Int)-((Fb L (T.getD 0 empty)).key.val.rq.length:Int)))) (.returned (.tuple #[r,.iface 307 (.pointer (some (ad 1)))])) W):=fun hx W r hb=>by
   refine⟨((hE.bw (hb.mono h.le)).er 1 (.inl rfl)).1.v,?_⟩;unfold Pe;rw[yem hd _ _ _ _ hx];exact Ul 1 (.inl rfl) (hb.mono h.le)
  have Gd:Hid (∀W wr a' c' r,Tw w B (Fb L (T.getD 0 empty)).key.val.rq Wn Wn.length (.slice a' (Wn.foldl Hz (Fb L (T.getD 0 empty)).key.val.rq).length c') (Wn.foldl Hz (Fb L (T.getD 0 empty)).key.val.rq) wr->Bl wr W->Fr W wr.heap.size r (Fe (((Wn.foldl Hz (Fb L (T.getD 0 empty)).key.val.rq).length:Int)-((Fb L (T.getD 0 empty)).key.val.rq.length:Int)))->Cp 244 #[.pointer (some ⟨g,0,none⟩),.iface 234 (.slice a' (Wn.foldl Hz (Fb L (T.getD 0 empty)).key.val.rq).length c')] W fun e w2=>∃er,e=.returned er/\F2 w B g b now (some ⟨ab,ao,none⟩) ab ao ac T ad (L.map KV.key) (Fj (L.map KV.key) (Pe L (T.getD 0 empty) (Wn.foldl Hz (Fb L (T.getD 0 empty)).key.val.rq)) (Fe (((Wn.foldl Hz (Fb L (T.getD 0 empty)).key.val.rq).length:Int)-((Fb L (T.getD 0 empty)).key.val.rq.length:Int)))) (.returned (.tuple #[r,er])) w2):=fun W wr a' c' r hI hbW hr=>by
   have hb:Bl w W:=hI.bel.trans (hbW.mono hI.bel.size);have ho:=Fw (hI.new (by omega)) hbW;have Ka:=hE.bw (hb.mono h.le);obtain⟨Kp,Ko⟩:=Ka.er 1 (.inl rfl);refine(zl5 B g b n now _ ab ao ac L T W a' c' _ ((h.bw hb).gone _) (L5 ho h.le) (fun x hx k hk hxk=>?_) (by omega) (by omega) (by have:=hI.len;omega) (fun x hx=>by have:=hI.ok.sm x hx;exact⟨by omega,by omega⟩) hn Ka.rd Kp Ko).mono ?_
   ·have Kh:=(h.vals.own x (T2 hx).1).rq;have:=(Hf Kh hxk).2;have:=(Hf ho hk).1;omega
   ·intro e w2 hl;have e0:=hl.1;refine⟨_,e0,?_⟩;rw[e0]at hl;exact Pt h hd (hr.le hI.bel.size) (hb.mono h.le) hb.size hl
  have Gi:Hid (∀v X wr,Tw w B (Fb L (T.getD 0 empty)).key.val.rq Wn Wn.length v X wr->X=(Wn.foldl Hz (Fb L (T.getD 0 empty)).key.val.rq)):=fun v X wr hI=>by rw[hI.eq,List.take_length]
  have Kf:=Gq.nr;show Calls prog 202 _ w (F2 w B g b now (some ⟨ab,ao,none⟩) ab ao ac T ad (L.map KV.key) (Fj (L.map KV.key) (Pe L (T.getD 0 empty) (Wn.foldl Hz (Fb L (T.getD 0 empty)).key.val.rq)) (Fe (((Wn.foldl Hz (Fb L (T.getD 0 empty)).key.val.rq).length:Int)-((Fb L (T.getD 0 empty)).key.val.rq.length:Int)))));generalize hpp:(Fj (L.map KV.key) (Pe L (T.getD 0 empty) (Wn.foldl Hz (Fb L (T.getD 0 empty)).key.val.rq)) (Fe (((Wn.foldl Hz (Fb L (T.getD 0 empty)).key.val.rq).length:Int)-((Fb L (T.getD 0 empty)).key.val.rq.length:Int))))=pp at*;generalize L.map KV.key=ks,(Fb L (T.getD 0 empty)).key.val.kind=kd,(Fb L (T.getD 0 empty)).key.val.text=tx,(Fb L (T.getD 0 empty)).key.val.rq=rs at*;obtain⟨XA,Gz⟩:∃XA,Wn.foldl Hz rs=XA:=⟨_,rfl⟩;rw[Gz]at Gd Gi Ge Gj;obtain⟨il,Gx⟩:∃il,rs.length=il:=⟨_,rfl⟩;rw[Gx]at HH Gd Gm Kf;have hf:=fun W=>Wq (.int .i64 kd) (.string tx) (.slice a1 n1 k1) (.slice a2 n2 k2) (.slice a3 il k3) W;generalize T.length=m at*;go_enter func202,ntmps202;go_wp2_with fail;refine Ga.out.mono ?_;rintro e w1⟨⟨v,rfl,ho⟩,b1⟩;obtain⟨wa,wA,wc,rfl,hz⟩:=Kk.N7 ho;have HZ:Hid (∀W,Bl w1 W->Kk.F7 W wa wA 0 Wn.length Wn):=fun W hb=>hz.bw hb;have Gw:Hid (Bl w w1):=b1;have H1:=HH.out w1 b1;have Gy:Hid (Cp 239 _ _ _):=H1;have Kb:Hid (∃q,Wn.length=q/\q<=8):=⟨_,rfl,by omega⟩;obtain⟨q,hq,Sa⟩:=Kb.out;have HQ:Hid (Wn.length=q):=hq;rw[hq]at HZ Ge Gd Gi;rw[hq];go_wp2_with fail;refine Gy.out.mono ?_;rintro e w2⟨rfl,b2⟩;have Km:Hid (Bl w1 w2):=b2;have HS:Hid _:=Gm.out w2 (Gw.out.trans (b2.mono Gw.out.size));go_wp2;go_loopw [6,30] (fun v i wr=>∃(k:Nat) (X:List Kk.Rk),k<=q/\i=.int .i64 k/\Hid (Tw w B rs Wn k v X wr/\Bl w1 wr)) (fun _ i _=>q-(intOf i).toNat)
  case atStart=>exact⟨0,rs,by omega,rfl,HS.out,Km.out⟩
  case round=>
   obtain⟨k,X,hk,rfl,hI⟩:=hrel;by_cases hlt:k<q
   ·have Gb:=hI.out.2;have d0:=((HZ.out _ Gb).cell k hlt).c0;have d1:=((HZ.out _ Gb).cell k hlt).c1;rw[Qq]at d0 d1;obtain rfl:=(HZ.out _ Gb).addr (by omega);have Gh:=hid fun W1 (hb:Bl wr W1)=>Ge.out wr k u6 X W1 hI.out.1 hlt hb;obtain⟨xm,Gs⟩:∃xm,(Wn.getD k Kk.rk0).m=xm:=⟨_,rfl⟩;obtain⟨xs,Gt⟩:∃xs,(Wn.getD k Kk.rk0).s=xs:=⟨_,rfl⟩;rw[Gs]at d0 Gh;rw[Gt]at d1 Gh;obtain⟨W0,Kw,Kr,b0,q0⟩:=boxed wr #[.string ⟨#[]⟩,.int .i64 0] 147;have Gu:=q0.set 0 (.string xm);have Gl:=Gu.set 1 (.int .i64 xs);have hl:=Qc wr.heap.size;have b4:Bl wr ((W0.setCell ⟨wr.heap.size,0,none⟩ (.string xm)).setCell ⟨wr.heap.size,1,none⟩ (.int .i64 xs)):=(b0.setCell hl _).setCell hl _;obtain⟨W4,Kq⟩:∃W4,(W0.setCell ⟨wr.heap.size,0,none⟩ (.string xm)).setCell ⟨wr.heap.size,1,none⟩ (.int .i64 xs)=W4:=⟨_,rfl⟩;rw[Kq]at Gl b4;have y0:=q0.cell 0;have y1:=q0.cell 1;have z0:=q0.frozen 0;have z1:=q0.frozen 1;have u0:=Gl.cell 0;have u1:=Gl.cell 1;simp only[Qm,Qk,Ql]at y0 y1 u0 u1;have Gp:=hid (Gh.out W4 b4);have Sc:(k:Int)<(q:Int):=by omega
    have Kj:=hid fun W (hb:Bl wr W)=>Gb.trans (hb.mono Gb.size);go_wp2_with fail;refine Gp.out.mono ?_;rintro e w5⟨v',ok,rfl,⟨b5,b6⟩,g1,g2⟩;cases ok with
    |true=>
     obtain⟨X',Gr⟩:=g1 rfl;have H5:Hid (Tw w B rs Wn (k+1) v' X' w5/\Bl w1 w5):=⟨Gr,Kj.out _ b6⟩;go_wp2;go_round
     case rel=>exact⟨k+1,X',by omega,by go_num,H5⟩
     case measure=>simp[intOf];omega
    |false=>
     obtain⟨e1,-⟩:=Gj.out (g2 rfl) w5 (.slice none 0 0) b5;have HF:Hid (∀nq,F2 w B g b now (some ⟨ab,ao,none⟩) ab ao ac T ad ks pp (.returned (.tuple #[.slice none 0 0,.iface 307 (.pointer (some (ad 1)))])) (w5.drewN nq)):=fun nq=>(Gj.out (g2 rfl) _ _ (below_drewN b5 nq)).2;go_upto_region 12 with fail;go_quiet (fail);go_wp2;go_ret2;exact HF.out _
   ·obtain rfl:k=q:=by omega
    have Kc:=Gi.out _ _ _ hI.out.1;subst Kc;obtain⟨a',c',e0⟩:=Fx hI.out.1.own;subst e0;have Ky:=hI.out.1.len;have Gc:=hid fun W r (hb:Bl wr W) (hr:Fr W wr.heap.size r (Fe ((X.length:Int)-(il:Int))))=>Gd.out W wr a' c' r hI.out.1 hb hr;have Kx:IntKind.i64.wrap ((X.length:Int)-(il:Int))=(X.length:Int)-(il:Int):=by rw[IntKind.wrap_i64];omega
    generalize X.length=xl at*;go_wp2_with fail;refine(HR.out _ _).mono ?_;rintro e w3⟨r,rfl,hr,hb⟩;have H3:=hid (Gc.out w3 r hb hr);go_wp2_with fail;refine H3.out.mono ?_;rintro e w4⟨er,rfl,Gf⟩;have HF:Hid _:=Gf;go_wp2;go_ret2;exact HF.out
end Rb
end Go.Proofs.YtokafonppgppdaaGreatDoor
