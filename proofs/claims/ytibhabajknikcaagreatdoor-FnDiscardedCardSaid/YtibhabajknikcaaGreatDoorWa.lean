import Derived.Test.YtibhabajknikcaaGreatDoorHp1
import Derived.Deep.RegionHeld3
set_option maxHeartbeats 4000000
set_option maxRecDepth 100000
namespace Go.Proofs.YtibhabajknikcaaGreatDoor
open Go.RowKit Go.Sort
open Kk (Rk rk0 texL texR decS zea zeb zec OwnR flatR encR)
theorem l4Texts_any (a:Option Addr) (A n c:Nat) (T:List ByteArray) (w:World) (hl:T.length=n) (ha:0<n→a=some ⟨A,0,none⟩) (hc:∀i,i<n→w.cell? ⟨A,i,none⟩=some (.string (T.getD i ByteArray.empty))) (hn:n≤1048577):
  Calls Tryz.prog 124 #[.slice a n c] w fun e w'=>e= .returned (.bool (itemsB T))∧w'=w:=by
 have HA:Hid (0<n→a=some ⟨A,0,none⟩):=ha;have HC:Hid (∀i,i<n→w.cell? ⟨A,i,none⟩=some (.string (T.getD i ByteArray.empty))):=hc;have HE:Hid (itemsB T=(countB n&&(List.range n).all (Kk.shortAt T))):=by unfold Hid itemsB;rw [←hl,short_all]
 have HCB:Hid (countB n=(decide (1≤n)&&decide (n≤20))):=rfl;clear ha hc hl;go_enter Tryz.func124,Tryz.ntmps124;go_wp2;go_loopw [3] (fun i wr=>∃(k:Nat),k≤n∧i= .int .i64 k∧Hid (∀j,j<k→Kk.shortAt T j=true)∧wr=w) (fun i _=>n-(intOf i).toNat)
 case atStart=>exact ⟨0,by omega,rfl,fun j hj=>by omega,rfl⟩
 case round=>
  obtain ⟨k,hk,rfl,hp,rfl⟩:=hrel;by_cases hlt:k<n
  ·have c0:=HC.out k hlt;obtain rfl:=HA.out (by omega);have HS:Hid (Kk.shortAt T k=decide ((T.getD k ByteArray.empty).size≤200)):=rfl;generalize T.getD k ByteArray.empty=t at*;by_cases hsz:t.size≤200
   ·have gsz:¬(200:Int)<(t.size:Int):=by omega
    have HP2:Hid (∀j,j<k+1→Kk.shortAt T j=true):=fun j hj=>by
     by_cases e:j=k
     ·subst e;rw [HS.out,decide_eq_true hsz]
     ·exact hp.out j (by omega)
    clear hp HS;go_wp2;go_roundw
    case rel=>exact ⟨k+1,by omega,by go_num,HP2,trivial⟩
    case measure=>simp [intOf];omega
   ·have gsz:(200:Int)<(t.size:Int):=by omega
    have HF:Hid (itemsB T=false):=by unfold Hid;rw [HE.out,Kk.all_no hlt (by rw [HS.out,decide_eq_false hsz]),Bool.and_false]
    clear hp HS;go_wp2;go_ret;exact ⟨zae HF.out.symm,rfl⟩
  ·obtain rfl:k=n:=by omega
   have HT:Hid (itemsB T=(decide (1≤k)&&decide (k≤20))):=by unfold Hid;rw [HE.out,Kk.all_yes hp.out,Bool.and_true,HCB.out]
   clear hp HC HA HE HCB;by_cases h1:1≤k
   ·have g1:(1:Int)≤(k:Int):=by omega
    have HT2:Hid (itemsB T=decide ((k:Int)≤20)):=by unfold Hid;rw [HT.out,decide_eq_true h1,Bool.true_and];simp;omega
    clear HT h1;go_wp2;go_ret;exact ⟨zae HT2.out.symm,rfl⟩
   ·have g1:¬(1:Int)≤(k:Int):=by omega
    have HT2:Hid (itemsB T=false):=by unfold Hid;rw [HT.out,decide_eq_false h1,Bool.false_and]
    clear HT h1;go_wp2;go_ret;exact ⟨zae HT2.out.symm,rfl⟩
def shP (ps:List Pr) (i:Nat):Bool:=decide ((ps.getD i (bz,bz)).1.size≤200)&&decide ((ps.getD i (bz,bz)).2.size≤200)
def okP (ps:List Pr) (i:Nat):Bool:=shP ps i&&riP ps i
theorem flat_short:∀(ps:List Pr),(flatP ps).all shortB=ps.all fun p=>shortB p.1&&shortB p.2
 | []=>rfl
 |p::ps=>by
  have e:flatP (p::ps)=p.1::p.2::flatP ps:=rfl;rw [e,List.all_cons,List.all_cons,List.all_cons,flat_short ps,Bool.and_assoc]
theorem pairsB_eq (ps:List Pr):pairsB ps=(countB ps.length&&(List.range ps.length).all (okP ps)):=by
 unfold pairsB;rw [risePB_eq,flat_short,←Kk.range_all ps (bz,bz) (fun p=>shortB p.1&&shortB p.2)];congr 1;exact (Kk.all_and (n:=ps.length) (fun i=>shortB (ps.getD i (bz,bz)).1&&shortB (ps.getD i (bz,bz)).2) (riP ps)).symm
theorem l4Pairs_any (a:Option Addr) (b n c:Nat) (ps:List Pr) (w:World) (h:PairsIn w a b n ps) (hn:n≤1048577):
  Calls Tryz.prog 125 #[.slice a n c] w fun e w'=>e= .returned (.bool (pairsB ps))∧∃q,w'=w.drewN q:=by
 have H:Hid (PairsIn w a b n ps):=h;have HE:Hid (pairsB ps=(countB n&&(List.range n).all (okP ps))):=by unfold Hid;rw [pairsB_eq,h.len]
 have HCB:Hid (countB n=(decide (1≤n)&&decide (n≤20))):=rfl;clear h;go_enter Tryz.func125,Tryz.ntmps125;go_wp2;go_loopw [3] (fun i wr=>∃(k q:Nat),k≤n∧i= .int .i64 k∧Hid (∀j,j<k→okP ps j=true)∧wr=w.drewN q) (fun i _=>n-(intOf i).toNat)
 case atStart=>exact ⟨0,0,by omega,rfl,fun j hj=>by omega,rfl⟩
 case round=>
  obtain ⟨k,q,hk,rfl,hp,hwq⟩:=hrel;have HW:Hid (wr=w.drewN q):=hwq;have HD:=H.out.below (show Below w.heap.size w wr by rw [hwq];exact below_drewN (Below.refl _ _) q);clear hwq;by_cases hlt:k<n
  ·have d0:=HD.c0 k hlt;have d1:=HD.c1 k hlt;obtain rfl:=HD.addr (by omega);have HOK:Hid (okP ps k=((decide ((ps.getD k (bz,bz)).1.size≤200)&&decide ((ps.getD k (bz,bz)).2.size≤200))&&riP ps k)):=rfl;have HNO:Hid (okP ps k=false→pairsB ps=false):=fun hf=>by rw [HE.out,Kk.all_no hlt hf,Bool.and_false]
   have HP3:Hid (okP ps k=true→∀j,j<k+1→okP ps j=true):=fun ho j hj=>by
    by_cases e:j=k
    ·subst e;exact ho
    ·exact hp.out j (by omega)
   have HRI:Hid (riP ps k=(decide (k=0)||Op.bytesLess (ps.getD (k-1) (bz,bz)).1.toList (ps.getD k (bz,bz)).1.toList)):=rfl;have hk0:(0:Int)≤(k:Int):=by omega
   have hkn:(k:Int)<(n:Int):=by omega
   have c0:=fun h:0<k=>HD.c0 (k-1) (by omega);generalize ps.getD (k-1) (bz,bz)=x at*;generalize ps.getD k (bz,bz)=y at*;obtain ⟨xm,xs⟩:=x;obtain ⟨ym,ys⟩:=y;dsimp only at d0 d1 c0;clear HD hp;by_cases h1:ym.size≤200
   ·have g1:decide ((200:Int)<(ym.size:Int))=false:=decide_eq_false (by omega);have g1':decide (200<ym.size)=false:=decide_eq_false (by omega);by_cases h2:ys.size≤200
    ·have g2:decide ((200:Int)<(ys.size:Int))=false:=decide_eq_false (by omega);have g2':decide (200<ys.size)=false:=decide_eq_false (by omega);have HOK2:Hid (okP ps k=riP ps k):=by unfold Hid;rw [HOK.out];show (decide (ym.size≤200)&&decide (ys.size≤200)&&_)=_;rw [decide_eq_true h1,decide_eq_true h2];rfl
     clear HOK h1 h2;by_cases hk1:k=0
     ·have g3:decide ((0:Int)<(k:Int))=false:=decide_eq_false (by omega);have g3':decide (0<k)=false:=decide_eq_false (by omega);have HY:Hid (∀j,j<k+1→okP ps j=true):=HP3.out (by rw [HOK2.out,HRI.out,decide_eq_true hk1];rfl);clear HOK2 HRI HNO HP3 c0 hk1;go_wp2;go_quiet ((fail));go_wp2;go_roundw
      case rel=>exact ⟨k+1,_,by omega,by go_num,HY,by rw [HW.out,World.drewN_drewN]⟩
      case measure=>simp [intOf];omega
     ·have g3:decide ((0:Int)<(k:Int))=true:=decide_eq_true (by omega);have g3':decide (0<k)=true:=decide_eq_true (by omega);have c0':=c0 (by omega);have hk3:(0:Int)≤(k:Int)-1:=by omega
      have hk4:(k:Int)-1<(n:Int):=by omega
      have htn:((k:Int)-1).toNat=k-1:=by omega
      have hw:IntKind.i64.wrap ((k:Int)-1)=(k:Int)-1:=Kk.wrap_small (by omega) (by omega);have HRI2:Hid (riP ps k=Op.bytesLess xm.toList ym.toList):=by unfold Hid;rw [HRI.out,decide_eq_false hk1];rfl
      clear HRI c0 hk1;cases hlss:Op.bytesLess xm.toList ym.toList with
      |true=>
       have HY:Hid (∀j,j<k+1→okP ps j=true):=HP3.out (by rw [HOK2.out,HRI2.out,hlss]);clear HOK2 HRI2 HNO HP3;go_wp2;go_quiet ((fail));go_wp2;go_roundw
       case rel=>exact ⟨k+1,_,by omega,by go_num,HY,by rw [HW.out,World.drewN_drewN]⟩
       case measure=>simp [intOf];omega
      |false=>
       have HY:Hid (pairsB ps=false):=HNO.out (by rw [HOK2.out,HRI2.out,hlss]);clear HOK2 HRI2 HNO HP3;go_wp2;go_quiet ((fail));go_wp2;go_ret;exact ⟨zae HY.out.symm,_,by rw [HW.out,World.drewN_drewN]⟩
    ·have g2:decide ((200:Int)<(ys.size:Int))=true:=decide_eq_true (by omega);have g2':decide (200<ys.size)=true:=decide_eq_true (by omega);have HY:Hid (pairsB ps=false):=HNO.out (by rw [HOK.out];show (decide (ym.size≤200)&&decide (ys.size≤200)&&_)=_;rw [decide_eq_false h2,Bool.and_false];rfl);clear HOK HRI HNO HP3 c0 h1 h2;go_wp2;go_quiet ((fail));go_wp2;go_ret;exact ⟨zae HY.out.symm,_,by rw [HW.out,World.drewN_drewN]⟩
   ·have g1:decide ((200:Int)<(ym.size:Int))=true:=decide_eq_true (by omega);have g1':decide (200<ym.size)=true:=decide_eq_true (by omega);have HY:Hid (pairsB ps=false):=HNO.out (by rw [HOK.out];show (decide (ym.size≤200)&&_&&_)=_;rw [decide_eq_false h1];rfl);clear HOK HRI HNO HP3 c0 h1;go_wp2;go_quiet ((fail));go_wp2;go_ret;exact ⟨zae HY.out.symm,_,by rw [HW.out,World.drewN_drewN]⟩
  ·obtain rfl:k=n:=by omega
   have HT:Hid (pairsB ps=(decide (1≤k)&&decide (k≤20))):=by unfold Hid;rw [HE.out,Kk.all_yes hp.out,Bool.and_true,HCB.out]
   clear hp H HE HCB HD;by_cases h1:1≤k
   ·have g1:(1:Int)≤(k:Int):=by omega
    have HT2:Hid (pairsB ps=decide ((k:Int)≤20)):=by unfold Hid;rw [HT.out,decide_eq_true h1,Bool.true_and];simp;omega
    clear HT h1;go_wp2;go_ret;exact ⟨zae HT2.out.symm,q,HW.out⟩
   ·have g1:¬(1:Int)≤(k:Int):=by omega
    have HT2:Hid (pairsB ps=false):=by unfold Hid;rw [HT.out,decide_eq_false h1,Bool.false_and]
    clear HT h1;go_wp2;go_ret;exact ⟨zae HT2.out.symm,q,HW.out⟩
abbrev nilS:Value:= .slice none 0 0
abbrev vlV (k:Int) (t:ByteArray) (vi vp vr:Value):Value:= .agg #[.int .i64 k,.string t,vi,vp,vr]
abbrev z5:Array Value:= #[.int .i64 0,.string ⟨#[]⟩,.slice none 0 0,.slice none 0 0,.slice none 0 0]
abbrev res5 (w:World) (v0 v1 v2 v3 v4:Value) (b:Nat):World:=((((w.setCell ⟨b,0,none⟩ v0).setCell ⟨b,1,none⟩ v1).setCell ⟨b,2,none⟩ v2).setCell ⟨b,3,none⟩ v3).setCell ⟨b,4,none⟩ v4
theorem res5_block (w:World) (v0 v1 v2 v3 v4:Value) (b k:Nat) (h:k≠b):(res5 w v0 v1 v2 v3 v4 b).heap[k]?=w.heap[k]?:=by
 unfold res5;rw [Below.heap_setCell _ _ _ _ (by simpa using h),Below.heap_setCell _ _ _ _ (by simpa using h),Below.heap_setCell _ _ _ _ (by simpa using h),Below.heap_setCell _ _ _ _ (by simpa using h),Below.heap_setCell _ _ _ _ (by simpa using h)]
theorem zcd {B:Nat} {w w1:World} (h:Below B w w1) (v0 v1 v2 v3 v4:Value) (b:Nat) (hb:B≤b):Below B w (res5 w1 v0 v1 v2 v3 v4 b):=
 ((((h.setCell hb _).setCell hb _).setCell hb _).setCell hb _).setCell hb _
theorem valueOf_text (t:ByteArray) (w:World):Calls Tryz.prog 199 #[.iface 213 (.string t)] w fun e w'=>e= .returned (vlV 1 t nilS nilS nilS)∧Below w.heap.size w w':=by
 have y59:∀(w:World),(Instr.typeAssert (.iface 213 (.string t)) 184 213 true).run Tryz.prog w= .ok (.tuple #[(.string t),.bool true]) w:=fun _=>by kernel_rfl
 go_enter Tryz.func199,Tryz.ntmps199;go_wp2;exact bodyPost_ret (v:=vlV 1 t nilS nilS nilS) (by simp [results,Tryz.results199,go_sem]) rfl ⟨rfl,(Below.refl _ w).alloc (Nat.le_refl _) _⟩
theorem valueOf_items (a:Option Addr) (n c:Nat) (w:World):Calls Tryz.prog 199 #[.iface 214 (.slice a n c)] w fun e w'=>e= .returned (vlV 2 ⟨#[]⟩ (.slice a n c) nilS nilS)∧Below w.heap.size w w':=by
 have n59:∀(w:World),(Instr.typeAssert (.iface 214 (.slice a n c)) 184 213 true).run Tryz.prog w= .ok (.tuple #[.string ⟨#[]⟩,.bool false]) w:=fun _=>by kernel_rfl
 have y60:∀(w:World),(Instr.typeAssert (.iface 214 (.slice a n c)) 184 214 true).run Tryz.prog w= .ok (.tuple #[(.slice a n c),.bool true]) w:=fun _=>by kernel_rfl
 go_enter Tryz.func199,Tryz.ntmps199;go_wp2;exact bodyPost_ret (v:=vlV 2 ⟨#[]⟩ (.slice a n c) nilS nilS) (by simp [results,Tryz.results199,go_sem]) rfl ⟨rfl,(Below.refl _ w).alloc (Nat.le_refl _) _⟩
theorem valueOf_pairs (a:Option Addr) (n c:Nat) (w:World):Calls Tryz.prog 199 #[.iface 215 (.slice a n c)] w fun e w'=>e= .returned (vlV 3 ⟨#[]⟩ nilS (.slice a n c) nilS)∧Below w.heap.size w w':=by
 have n59:∀(w:World),(Instr.typeAssert (.iface 215 (.slice a n c)) 184 213 true).run Tryz.prog w= .ok (.tuple #[.string ⟨#[]⟩,.bool false]) w:=fun _=>by kernel_rfl
 have n60:∀(w:World),(Instr.typeAssert (.iface 215 (.slice a n c)) 184 214 true).run Tryz.prog w= .ok (.tuple #[.slice none 0 0,.bool false]) w:=fun _=>by kernel_rfl
 have y62:∀(w:World),(Instr.typeAssert (.iface 215 (.slice a n c)) 184 215 true).run Tryz.prog w= .ok (.tuple #[(.slice a n c),.bool true]) w:=fun _=>by kernel_rfl
 go_enter Tryz.func199,Tryz.ntmps199;go_wp2;exact bodyPost_ret (v:=vlV 3 ⟨#[]⟩ nilS (.slice a n c) nilS) (by simp [results,Tryz.results199,go_sem]) rfl ⟨rfl,(Below.refl _ w).alloc (Nat.le_refl _) _⟩
theorem valueOf_ranks (a:Option Addr) (n c:Nat) (w:World):Calls Tryz.prog 199 #[.iface 216 (.slice a n c)] w fun e w'=>e= .returned (vlV 4 ⟨#[]⟩ nilS nilS (.slice a n c))∧Below w.heap.size w w':=by
 have n59:∀(w:World),(Instr.typeAssert (.iface 216 (.slice a n c)) 184 213 true).run Tryz.prog w= .ok (.tuple #[.string ⟨#[]⟩,.bool false]) w:=fun _=>by kernel_rfl
 have n60:∀(w:World),(Instr.typeAssert (.iface 216 (.slice a n c)) 184 214 true).run Tryz.prog w= .ok (.tuple #[.slice none 0 0,.bool false]) w:=fun _=>by kernel_rfl
 have n62:∀(w:World),(Instr.typeAssert (.iface 216 (.slice a n c)) 184 215 true).run Tryz.prog w= .ok (.tuple #[.slice none 0 0,.bool false]) w:=fun _=>by kernel_rfl
 have y63:∀(w:World),(Instr.typeAssert (.iface 216 (.slice a n c)) 184 216 true).run Tryz.prog w= .ok (.tuple #[(.slice a n c),.bool true]) w:=fun _=>by kernel_rfl
 go_enter Tryz.func199,Tryz.ntmps199;go_wp2;exact bodyPost_ret (v:=vlV 4 ⟨#[]⟩ nilS nilS (.slice a n c)) (by simp [results,Tryz.results199,go_sem]) rfl ⟨rfl,(Below.refl _ w).alloc (Nat.le_refl _) _⟩
def none3 (v:Vl):Nat:=v.items.length+v.pairs.length+v.ranks.length
def vokB (v:Vl):Bool:=
 if v.kind=1 then shortB v.text&&decide (none3 v=0)
 else if v.kind=2 then decide (v.text.size=0)&&(decide (none3 v=v.items.length)&&itemsB v.items)
 else if v.kind=3 then decide (v.text.size=0)&&(decide (none3 v=v.pairs.length)&&pairsB v.pairs)
 else if v.kind=4 then decide (v.text.size=0)&&(decide (none3 v=v.ranks.length)&&(decide (0<none3 v)&&zec v.ranks))
 else false
structure VOwn (w:World) (B:Nat) (v:Vl) (vi vp vr:Value):Prop where
 items:OwnS w B vi v.items
 pairs:OwnP w B vp v.pairs
 ranks:OwnR w B vr v.ranks
theorem VOwn.below {w w':World} {B:Nat} {v:Vl} {vi vp vr:Value} (h:VOwn w B v vi vp vr) (hb:Below w.heap.size w w'):VOwn w' B v vi vp vr:=
 ⟨zaf h.items hb,zaf h.pairs hb,zaf h.ranks hb⟩
structure VFit (v:Vl):Prop where
 text:v.text.size≤1048576
 items:v.items.length≤524288
 pairs:v.pairs.length≤524288
 ranks:v.ranks.length≤524288
theorem l4Texts_own {w:World} {B:Nat} {v:Value} {T:List ByteArray} (h:OwnS w B v T) (hn:T.length≤524288):Calls Tryz.prog 124 #[v] w fun e w'=>e= .returned (.bool (itemsB T))∧w'=w:=by
 obtain ⟨a,A,c,rfl,h2,_,_,h5⟩:=ownS_cells h;exact l4Texts_any a A T.length c T w rfl (fun hp=> (h2 hp).1) h5 (by omega)
theorem l4Pairs_own {w:World} {B:Nat} {v:Value} {ps:List Pr} (h:OwnP w B v ps) (hn:ps.length≤524288):Calls Tryz.prog 125 #[v] w fun e w'=>e= .returned (.bool (pairsB ps))∧Below w.heap.size w w':=by
 obtain ⟨a,A,c,rfl,hin⟩:=ownP_in h;exact (l4Pairs_any a A ps.length c ps w hin (by omega)).mono fun e w' ⟨he,q,hq⟩=>⟨he,by rw [hq];exact below_drewN (Below.refl _ _) q⟩
theorem l4Ranks_own {w:World} {B:Nat} {v:Value} {rs:List Rk} (h:OwnR w B v rs) (hn:rs.length≤524288):Calls Tryz.prog 126 #[v] w fun e w'=>e= .returned (.bool (zec rs))∧Below w.heap.size w w':=by
 obtain ⟨a,A,c,hv,hin⟩:=Kk.ownR_any h;subst hv;exact Kk.ranks_any a A 0 rs.length c rs w hin (by omega)
theorem specOk_any (v:Vl) (vi vp vr:Value) (B:Nat) (w:World) (h:VOwn w B v vi vp vr) (hf:VFit v):
  Calls Tryz.prog 89 #[vlV v.kind v.text vi vp vr] w fun e w'=>e= .returned (.bool (vokB v))∧Below w.heap.size w w':=by
 obtain ⟨k,t,is,ps,rs⟩:=v;obtain ⟨f1,f2,f3,f4⟩:=hf;dsimp only at f1 f2 f3 f4;obtain ⟨ai,ci,hvi⟩:=zad h.items;obtain ⟨ap,cp,hvp⟩:=zad h.pairs;obtain ⟨ar,cr,hvr⟩:=zad h.ranks;dsimp only at hvi hvp hvr;have HB:Hid (∀o,Below w.heap.size w (w.alloc o)):=fun o=> (Below.refl _ w).alloc (Nat.le_refl _) _;have HI:Hid (∀o,Calls Tryz.prog 124 #[vi] (w.alloc o) fun e w'=>e= .returned (.bool (itemsB is))∧w'=w.alloc o):=fun o=>l4Texts_own (h.below (HB.out o)).items f2;have HP:Hid (∀o,Calls Tryz.prog 125 #[vp] (w.alloc o) fun e w'=>e= .returned (.bool (pairsB ps))∧Below (w.alloc o).heap.size (w.alloc o) w'):=fun o=>l4Pairs_own (h.below (HB.out o)).pairs f3;have HR:Hid (∀o,Calls Tryz.prog 126 #[vr] (w.alloc o) fun e w'=>e= .returned (.bool (zec rs))∧Below (w.alloc o).heap.size (w.alloc o) w'):=fun o=>l4Ranks_own (h.below (HB.out o)).ranks f4;have HN:Hid (none3 ⟨k,t,is,ps,rs⟩=is.length+ps.length+rs.length):=rfl;obtain ⟨O,hO⟩:∃O,vokB ⟨k,t,is,ps,rs⟩=O:=⟨_,rfl⟩;have HO:Hid (vokB ⟨k,t,is,ps,rs⟩=O):=hO;rw [hO];show Calls Tryz.prog 89 #[vlV k t vi vp vr] w _;clear h hO;generalize hni:is.length=ni at*;generalize hnp:ps.length=np at*;generalize hnr:rs.length=nr at*;have HNI:Hid (is.length=ni):=hni;have HNP:Hid (ps.length=np):=hnp;have HNR:Hid (rs.length=nr):=hnr;subst hvi hvp hvr;clear hni hnp hnr;by_cases k1:k=1
 ·subst k1;have HO1:Hid ((decide (t.size≤200)&&decide (ni+np+nr=0))=O):=by
   unfold Hid;rw [←HO.out];show _=(shortB t&&decide (none3 _=0));rw [HN.out];rfl
  clear HO HI HP HR HN;by_cases hs:t.size≤200
  ·have g1:(t.size:Int)≤200:=by omega
   have HO2:Hid (((ni:Int)+np+nr==0)=O):=by
    unfold Hid;rw [←HO1.out,decide_eq_true hs,Bool.true_and,Bool.eq_iff_iff];simp;omega
   clear HO1 hs;go_enter Tryz.func89,Tryz.ntmps89;go_wp2;go_ret;exact ⟨zae HO2.out,HB.out _⟩
  ·have g1:¬(t.size:Int)≤200:=by omega
   have HO2:Hid (false=O):=by unfold Hid;rw [←HO1.out,decide_eq_false hs,Bool.false_and]
   clear HO1 hs;go_enter Tryz.func89,Tryz.ntmps89;go_wp2;go_ret;exact ⟨zae HO2.out,HB.out _⟩
 have b1:(k==1)=false:=by simpa using k1
 by_cases k2:k=2
 ·subst k2;have HO1:Hid ((decide (t.size=0)&&(decide (ni+np+nr=ni)&&itemsB is))=O):=by
   unfold Hid;rw [←HO.out];show _=(decide (t.size=0)&&(decide (none3 _=is.length)&&itemsB is));rw [HN.out,HNI.out]
  clear HO HP HR HN k1 b1;by_cases hs:t.size=0
  ·have he:=empty_yes hs;by_cases hn:ni+np+nr=ni
   ·have g2:((ni:Int)+np+nr==ni)=true:=by simp;omega
    have HO2:Hid (itemsB is=O):=by unfold Hid;rw [←HO1.out,decide_eq_true hs,decide_eq_true hn];rfl
    clear HO1 hs hn;go_enter Tryz.func89,Tryz.ntmps89;go_wp2_with fail;refine (HI.out _).mono ?_;rintro e w1 ⟨rfl,rfl⟩;rw [HO2.out];go_wp2;go_ret;exact ⟨rfl,HB.out _⟩
   ·have g2:((ni:Int)+np+nr==ni)=false:=by simp;omega
    have HO2:Hid (false=O):=by unfold Hid;rw [←HO1.out,decide_eq_false hn,Bool.false_and,Bool.and_false]
    clear HO1 hs hn;go_enter Tryz.func89,Tryz.ntmps89;go_wp2;go_ret;exact ⟨zae HO2.out,HB.out _⟩
  ·have he:=empty_no (s:=t) (by omega);have HO2:Hid (false=O):=by unfold Hid;rw [←HO1.out,decide_eq_false hs,Bool.false_and]
   clear HO1 hs;go_enter Tryz.func89,Tryz.ntmps89;go_wp2;go_ret;exact ⟨zae HO2.out,HB.out _⟩
 have b2:(k==2)=false:=by simpa using k2
 by_cases k3:k=3
 ·subst k3;have HO1:Hid ((decide (t.size=0)&&(decide (ni+np+nr=np)&&pairsB ps))=O):=by
   unfold Hid;rw [←HO.out];show _=(decide (t.size=0)&&(decide (none3 _=ps.length)&&pairsB ps));rw [HN.out,HNP.out]
  clear HO HI HR HN k1 k2 b1 b2;by_cases hs:t.size=0
  ·have he:=empty_yes hs;by_cases hn:ni+np+nr=np
   ·have g2:((ni:Int)+np+nr==np)=true:=by simp;omega
    have HO2:Hid (pairsB ps=O):=by unfold Hid;rw [←HO1.out,decide_eq_true hs,decide_eq_true hn];rfl
    clear HO1 hs hn;go_enter Tryz.func89,Tryz.ntmps89;go_wp2_with fail;refine (HP.out _).mono ?_;rintro e w1 ⟨rfl,hb1⟩;have hb2:=(HB.out _).trans (hb1.mono (by simp));rw [HO2.out];clear hb1;go_wp2;go_ret;exact ⟨rfl,hb2⟩
   ·have g2:((ni:Int)+np+nr==np)=false:=by simp;omega
    have HO2:Hid (false=O):=by unfold Hid;rw [←HO1.out,decide_eq_false hn,Bool.false_and,Bool.and_false]
    clear HO1 hs hn;go_enter Tryz.func89,Tryz.ntmps89;go_wp2;go_ret;exact ⟨zae HO2.out,HB.out _⟩
  ·have he:=empty_no (s:=t) (by omega);have HO2:Hid (false=O):=by unfold Hid;rw [←HO1.out,decide_eq_false hs,Bool.false_and]
   clear HO1 hs;go_enter Tryz.func89,Tryz.ntmps89;go_wp2;go_ret;exact ⟨zae HO2.out,HB.out _⟩
 have b3:(k==3)=false:=by simpa using k3
 by_cases k4:k=4
 ·subst k4;have HO1:Hid ((decide (t.size=0)&&(decide (ni+np+nr=nr)&&(decide (0<ni+np+nr)&&zec rs)))=O):=by
   unfold Hid;rw [←HO.out];show _=(decide (t.size=0)&&(decide (none3 _=rs.length)&&(decide (0<none3 _)&&zec rs)));rw [HN.out,HNR.out]
  clear HO HI HP HN k1 k2 k3 b1 b2 b3;by_cases hs:t.size=0
  ·have he:=empty_yes hs;by_cases hn:ni+np+nr=nr
   ·have g2:((ni:Int)+np+nr==nr)=true:=by simp;omega
    by_cases hp:0<ni+np+nr
    ·have g3:(0:Int)<(ni:Int)+np+nr:=by omega
     have HO2:Hid (zec rs=O):=by unfold Hid;rw [←HO1.out,decide_eq_true hs,decide_eq_true hn,decide_eq_true hp];rfl
     clear HO1 hs hn hp;go_enter Tryz.func89,Tryz.ntmps89;go_wp2_with fail;refine (HR.out _).mono ?_;rintro e w1 ⟨rfl,hb1⟩;have hb2:=(HB.out _).trans (hb1.mono (by simp));rw [HO2.out];clear hb1;go_wp2;go_ret;exact ⟨rfl,hb2⟩
    ·have g3:¬(0:Int)<(ni:Int)+np+nr:=by omega
     have HO2:Hid (false=O):=by unfold Hid;rw [←HO1.out,decide_eq_false hp,Bool.false_and,Bool.and_false,Bool.and_false]
     clear HO1 hs hn hp;go_enter Tryz.func89,Tryz.ntmps89;go_wp2;go_ret;exact ⟨zae HO2.out,HB.out _⟩
   ·have g2:((ni:Int)+np+nr==nr)=false:=by simp;omega
    have HO2:Hid (false=O):=by unfold Hid;rw [←HO1.out,decide_eq_false hn,Bool.false_and,Bool.and_false]
    clear HO1 hs hn;go_enter Tryz.func89,Tryz.ntmps89;go_wp2;go_ret;exact ⟨zae HO2.out,HB.out _⟩
  ·have he:=empty_no (s:=t) (by omega);have HO2:Hid (false=O):=by unfold Hid;rw [←HO1.out,decide_eq_false hs,Bool.false_and]
   clear HO1 hs;go_enter Tryz.func89,Tryz.ntmps89;go_wp2;go_ret;exact ⟨zae HO2.out,HB.out _⟩
 ·have b4:(k==4)=false:=by simpa using k4
  have HO2:Hid (false=O):=by
   unfold Hid;rw [←HO.out];unfold vokB;rw [if_neg k1,if_neg k2,if_neg k3,if_neg k4]
  clear HO HI HP HR HN k1 k2 k3 k4;go_enter Tryz.func89,Tryz.ntmps89;go_wp2;go_ret;exact ⟨zae HO2.out,HB.out _⟩
theorem nDigits_le:∀(k u:Nat),1≤k→u<10^k→Lib.nDigits u≤k
 |0,u,h,_=>by omega
 |1,u,_,h=>by rw [Lib.nDigits_small (by simpa using h)];omega
 |k+2,u,_,h=>by
  by_cases h10:u<10
  ·rw [Lib.nDigits_small h10];omega
  ·rw [Lib.nDigits_big h10];have:=nDigits_le (k+1) (u/10) (by omega) (by rw [Nat.pow_succ] at h;omega);omega
theorem dec_int (z:Int) (w:World) (h0:-1000000000000000000≤z) (h1:z≤1000000000000000000):
  Calls Tryz.prog 71 #[.int .i64 z] w fun e w'=>e= .returned (.string ⟨(Lib.itoa z).toArray⟩)∧Below w.heap.size w w':=by
 by_cases hz:z<0
 ·have e1:-z=((-z).toNat:Int):=by omega
  have hl:(Lib.decDigits (-z).toNat).length≤20:=by
   rw [Lib.decDigits_length];have h19:(10:Nat)^19=10000000000000000000:=by decide
   have:=nDigits_le 19 (-z).toNat (by omega) (by rw [h19];omega);omega
  have HI:Hid (Lib.itoa z=45::Lib.decDigits (-z).toNat):=by
   unfold Hid Lib.itoa;rw [if_pos hz,show z.natAbs=(-z).toNat from by omega]
  have HC:Hid (Calls Tryz.prog 71 #[.int .i64 ((-z).toNat:Int)] w fun e w'=>e= .returned (.string ⟨(Lib.decDigits (-z).toNat).toArray⟩)∧Below w.heap.size w w'):=dec_any (-z).toNat w (by omega);rw [←e1] at HC;generalize Lib.decDigits (-z).toNat=D at*;clear e1;go_enter Tryz.func71,Tryz.ntmps71;go_wp2_with fail;refine HC.out.mono ?_;rintro e w1 ⟨rfl,b1⟩;go_wp2;go_ret;refine ⟨ret_str ?_,b1⟩;rw [HI.out];exact ByteArray.mk_append_mk [45] D
 ·have e1:z=(z.toNat:Int):=by omega
  have:=dec_any z.toNat w (by omega);rw [←e1] at this;have e2:Lib.itoa z=Lib.decDigits z.toNat:=by unfold Lib.itoa;rw [if_neg hz]
  rw [e2];exact this
structure VSm (v:Vl):Prop where
 kind:1≤v.kind∧v.kind≤4
 text:v.text.size≤200
 ni:v.items.length≤20
 np:v.pairs.length≤20
 nr:v.ranks.length≤20
 items:∀t∈v.items,t.size≤200
 pairs:∀p∈v.pairs,p.1.size≤200∧p.2.size≤200
 ranks:∀r∈v.ranks,r.m.size≤200∧-1000000000000000000≤r.s∧r.s≤1000000000000000000
theorem items_small {ts:List ByteArray} (h:itemsB ts=true):ts.length≤20∧∀t∈ts,t.size≤200:=by
 unfold itemsB countB at h;simp only [Bool.and_eq_true,decide_eq_true_iff,List.all_eq_true] at h;exact ⟨h.1.2,fun t ht=>of_decide_eq_true (h.2 t ht)⟩
theorem pairs_small {ps:List Pr} (h:pairsB ps=true):ps.length≤20∧∀p∈ps,p.1.size≤200∧p.2.size≤200:=by
 unfold pairsB countB at h;rw [flat_short] at h;simp only [Bool.and_eq_true,decide_eq_true_iff,List.all_eq_true] at h;exact ⟨h.1.2,fun p hp=>⟨of_decide_eq_true (h.2.1 p hp).1,of_decide_eq_true (h.2.1 p hp).2⟩⟩
theorem ranks_small {rs:List Rk} (h:zec rs=true):rs.length≤20∧∀r∈rs,r.m.size≤200∧-1000000000000000000≤r.s∧r.s≤1000000000000000000:=by
 unfold zec at h;simp only [Bool.and_eq_true,decide_eq_true_iff,List.all_eq_true,List.mem_range] at h;refine ⟨h.1,fun r hr=>?_⟩;obtain ⟨i,hi,rfl⟩:=List.getElem_of_mem hr;have:=h.2 i hi;unfold Kk.okAt at this;simp only [Bool.and_eq_true] at this;have h1:=this.1;have h2:=this.2.1;unfold Kk.buAt at h1;unfold Kk.scAt zea at h2;rw [List.getD_eq_getElem?_getD,List.getElem?_eq_getElem hi] at h1 h2;simp only [Bool.and_eq_true,decide_eq_true_iff,Option.getD_some] at h1 h2;exact ⟨h1,h2.1,h2.2⟩
theorem small_of_ok {v:Vl} (h:vokB v=true):VSm v:=by
 obtain ⟨k,t,is,ps,rs⟩:=v;have nil0:∀{α:Type} (l:List α),l.length=0→l=[]:=fun l h=>List.eq_nil_of_length_eq_zero h;unfold vokB none3 at h;dsimp only at h;split at h
 ·rename_i hk;simp only [Bool.and_eq_true,decide_eq_true_iff] at h;have h1:=nil0 is (by omega);have h2:=nil0 ps (by omega);have h3:=nil0 rs (by omega);subst h1 h2 h3;exact ⟨by dsimp only;omega,of_decide_eq_true h.1,by simp,by simp,by simp,by simp,by simp,by simp⟩
 ·split at h
  ·rename_i hk;simp only [Bool.and_eq_true,decide_eq_true_iff] at h;have h2:=nil0 ps (by omega);have h3:=nil0 rs (by omega);subst h2 h3;obtain ⟨q1,q2⟩:=items_small h.2.2;exact ⟨by dsimp only;omega,by dsimp only;omega,q1,by simp,by simp,q2,by simp,by simp⟩
  ·split at h
   ·rename_i hk;simp only [Bool.and_eq_true,decide_eq_true_iff] at h;have h2:=nil0 is (by omega);have h3:=nil0 rs (by omega);subst h2 h3;obtain ⟨q1,q2⟩:=pairs_small h.2.2;exact ⟨by dsimp only;omega,by dsimp only;omega,by simp,q1,by simp,by simp,q2,by simp⟩
   ·split at h
    ·rename_i hk;simp only [Bool.and_eq_true,decide_eq_true_iff] at h;have h2:=nil0 is (by omega);have h3:=nil0 ps (by omega);subst h2 h3;obtain ⟨q1,q2⟩:=ranks_small h.2.2.2;exact ⟨by dsimp only;omega,by dsimp only;omega,by simp,by simp,q1,by simp,by simp,q2⟩
    ·cases h
abbrev vC (k:Int) (t:ByteArray) (vi vp vr:Value):Array Value:= #[.int .i64 k,.string t,vi,vp,vr]
theorem row5 {W:World} {g:Nat} {k:Int} {t:ByteArray} {vi vp vr:Value} (h:RowAt W g 58 (vC k t vi vp vr)):W.cell? ⟨g,0,none⟩=some (.int .i64 k)∧W.cell? ⟨g,1,none⟩=some (.string t)∧W.cell? ⟨g,2,none⟩=some vi∧W.cell? ⟨g,3,none⟩=some vp∧W.cell? ⟨g,4,none⟩=some vr:=
 ⟨h.cell 0,h.cell 1,h.cell 2,h.cell 3,h.cell 4⟩
end Go.Proofs.YtibhabajknikcaaGreatDoor
namespace Go.Proofs.YtibhabajknikcaaGreatDoor
open Go.RowKit Go.Sort
open Kk (Rk rk0 texL texR decS zea zeb zec OwnR flatR encR)
theorem own_up {w:World} {B B':Nat} {e:TypeId} {size n:Nat} {v:Value} {xs:List Value} (h:w.ownsRow B e size v n xs) (hB:B'≤B):w.ownsRow B' e size v n xs:=Joins.ownsRow_le h hB
end Go.Proofs.YtibhabajknikcaaGreatDoor
