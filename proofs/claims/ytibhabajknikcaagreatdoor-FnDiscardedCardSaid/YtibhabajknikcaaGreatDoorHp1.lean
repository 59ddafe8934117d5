import Derived.Test.YtibhabajknikcaaGreatDoorIv
import Derived.Test.YtibhabajknikcaaGreatDoorVa
import Derived.WalkKit
import Derived.WalkSpells
import Derived.WalkLawsBesides
import Derived.Deep.QuietTactic
import Derived.BigQuiet
import Derived.Lib.QuietBelow
import Derived.Lib.Builder
import Derived.OpenShut
import Derived.Lib.SmallJoins
import Derived.Lib.BufferWrite
import Derived.Deep.RegionHeld3
import Derived.ProofKit
import Derived.ChangeOld
import Derived.Deep.Slices
set_option maxHeartbeats 4000000
set_option maxRecDepth 100000
namespace Go.Proofs.YtibhabajknikcaaGreatDoor.Hp
open Go.RowKit
theorem grown_refl (w:World) (r:Option Nat):w.grownBy w r:=⟨rfl,rfl,rfl,Nat.le_refl _,fun _ _ _=>rfl⟩
theorem zcc {w w1 w2:World} {r:Option Nat} (h:w.grownBy w1 r) (hb:Below w1.heap.size w1 w2):w.grownBy w2 r:=
 ⟨hb.os.trans h.os,hb.tape.trans h.tape,hb.output.trans h.output,Nat.le_trans h.size hb.size,fun k hk hr=> (hb.block k (Nat.lt_of_lt_of_le hk h.size)).trans (h.block k hk hr)⟩
theorem zah {w w1 w2:World} {r:Option Nat} (h:w.grownBy w1 r) (h2:w1.grownBy w2 r):w.grownBy w2 r:=
 ⟨h2.os.trans h.os,h2.tape.trans h.tape,h2.output.trans h.output,Nat.le_trans h.size h2.size,fun k hk hr=> (h2.block k (Nat.lt_of_lt_of_le hk h.size) hr).trans (h.block k hk hr)⟩
theorem l1In_any (n a b:Int) (w:World):
  Calls Tryz.prog 50 #[.int .i64 n,.int .i64 a,.int .i64 b] w fun e w'=>e= .returned (.bool (decide (a≤n∧n≤b)))∧w'=w:=by
 by_cases h1:a≤n
 ·by_cases h2:n≤b;all_goals
   go_enter Tryz.func50,Tryz.ntmps50;go_wp2;go_ret;exact ⟨by simp [h1,h2],rfl⟩
 ·go_enter Tryz.func50,Tryz.ntmps50;go_wp2;go_ret;exact ⟨by simp;omega,rfl⟩
end Go.Proofs.YtibhabajknikcaaGreatDoor.Hp
namespace Go.Proofs.YtibhabajknikcaaGreatDoor.Kk
open Go.RowKit Go.Sort
theorem ownR_nil (w:World) (B:Nat):OwnR w B (.slice none 0 0) []:=⟨rfl,.inl ⟨rfl,rfl⟩⟩
theorem ownR_in {w:World} {B A cap:Nat} {L:List Rk} (h:OwnR w B (.slice (some ⟨A,0,none⟩) L.length cap) L):zdh w (some ⟨A,0,none⟩) A 0 L.length L:=
 ⟨rfl,fun _=>rfl,fun _=> (h.lt A rfl).2,fun i hi=>by rw [Nat.zero_add];exact ownR_at h i hi⟩
theorem ownR_any {w:World} {B:Nat} {v:Value} {L:List Rk} (h:OwnR w B v L):∃a A c,v= .slice a L.length c∧zdh w a A 0 L.length L:=by
 rcases Joins.ownsRow_forms h with ⟨h1,h2⟩|⟨A,c,rfl⟩
 ·obtain rfl:L=[]:=List.length_eq_zero_iff.mp h2;exact ⟨none,0,0,h1,⟨rfl,fun h=>by simp at h,fun h=>by simp at h,fun i hi=>by simp at hi⟩⟩
 ·exact ⟨_,A,c,rfl,ownR_in h⟩
end Go.Proofs.YtibhabajknikcaaGreatDoor.Kk
namespace Go.Proofs.YtibhabajknikcaaGreatDoor
open Go.RowKit Go.Sort
open Kk (Rk rk0 texL texR decS zea zeb zec OwnR flatR encR)
theorem short_all (T:List ByteArray):(List.range T.length).all (Kk.shortAt T)=T.all shortB:=Kk.range_all T ByteArray.empty shortB
theorem ownS_cells {w:World} {B:Nat} {v:Value} {T:List ByteArray} (h:OwnS w B v T):∃a A c,v= .slice a T.length c∧(0<T.length→a=some ⟨A,0,none⟩∧B≤A∧A<w.heap.size)∧T.length≤c∧c≤9223372036854775807∧∀i,i<T.length→w.cell? ⟨A,i,none⟩=some (.string (T.getD i ByteArray.empty)):=by
 obtain ⟨h1,⟨h2,h3⟩|⟨g,cap,cur,rfl,q1,q2,q3,q4,q5⟩⟩:=h
 ·refine ⟨none,0,0,by rw [h2,h3],fun h=>by omega,by omega,by omega,fun i hi=>by omega⟩
 ·have h:OwnS w B (.slice (some ⟨g,0,none⟩) T.length cap) T:=⟨h1,.inr ⟨g,cap,cur,rfl,q1,q2,q3,q4,q5⟩⟩;refine ⟨some ⟨g,0,none⟩,g,cap,rfl,fun _=>⟨rfl,(own_lt h rfl).1,(own_lt h rfl).2⟩,q3,by simpa [maxLen] using q4,fun i hi=>?_⟩
  have:=World.ownsRow.cells h rfl i (.string (T.getD i ByteArray.empty)) (by
   rw [List.getD_eq_getElem?_getD,List.getElem?_eq_getElem hi];simp [strV,hi])
  rwa [Addr.add_lit,Nat.zero_add] at this
theorem ownS_in {w:World} {B:Nat} {v:Value} {T:List ByteArray} (h:OwnS w B v T) (hz:∀t∈T,t.size≤1048576):∃a A c,v= .slice a T.length c∧zdg w a A 0 T.length T∧T.length≤c∧c≤9223372036854775807:=by
 obtain ⟨a,A,c,h1,h2,h3,h4,h5⟩:=ownS_cells h;refine ⟨a,A,c,h1,⟨rfl,fun hp=> (h2 hp).1,fun hp=> (h2 hp).2.2,fun i hi=>by rw [Nat.zero_add];exact h5 i hi,fun i hi=>?_⟩,h3,h4⟩;have:=hz (T.getD i ByteArray.empty) (by rw [List.getD_eq_getElem?_getD,List.getElem?_eq_getElem hi];simp);omega
theorem bulks_own {w:World} {B:Nat} {v:Value} {T:List ByteArray} (h:OwnS w B v T) (hn:T.length≤1048577):Calls Tryz.prog 78 #[v] w fun e w'=>e= .returned (.bool (T.all shortB))∧w'=w:=by
 obtain ⟨a,A,c,rfl,h2,_,_,h5⟩:=ownS_cells h;have:=Kk.bulks_any a A T.length c T w (fun hp=> (h2 hp).1) h5 hn;rw [short_all] at this;exact this
theorem bare_right (t:ByteArray) (w:World):Calls Tryz.prog 368 #[.string t] w fun e w'=>e= .returned (.bool (shortB t))∧Below w.heap.size w w':=by
 have ho:OwnS (w.alloc (.cells #[.string t] 9)) w.heap.size (.slice (some ⟨w.heap.size,0,none⟩) 1 1) [t]:=⟨rfl,.inr ⟨w.heap.size,1, #[.string t],rfl,Nat.le_refl _,RowAt.new w 9 #[.string t],by simp,by unfold maxLen;omega,by simp,by simp [strV]⟩⟩;have hb:Below w.heap.size w (w.alloc (.cells #[.string t] 9)):=(Below.refl _ w).alloc (Nat.le_refl _) _;have HC:Hid (Calls Tryz.prog 78 #[.slice (some ⟨w.heap.size,0,none⟩) 1 1] (w.alloc (.cells #[.string t] 9)) fun e w'=>e= .returned (.bool (shortB t))∧w'=w.alloc (.cells #[.string t] 9)):=by
  have:=bulks_own ho (by simp);have e:[t].all shortB=shortB t:=by simp
  rw [e] at this;exact this
 have HT:Hid (Calls Tryz.prog 369 #[.string t] w fun e w'=>e= .returned (.slice (some ⟨w.heap.size,0,none⟩) 1 1)∧w'=w.alloc (.cells #[.string t] 9)):=by
  unfold Hid;go_enter Tryz.func369,Tryz.ntmps369;go_wp2;go_ret;exact ⟨rfl,rfl⟩
 generalize shortB t=o at*;clear ho;go_enter Tryz.func368,Tryz.ntmps368;go_wp2_with fail;refine HT.out.mono ?_;rintro e w1 ⟨rfl,rfl⟩;go_wp2_with fail;refine HC.out.mono ?_;rintro e w2 ⟨rfl,rfl⟩;go_wp2;go_ret;exact ⟨rfl,hb⟩
theorem items_right {w:World} {B:Nat} {v:Value} {T:List ByteArray} (h:OwnS w B v T) (hn:T.length≤1048577):Calls Tryz.prog 370 #[v] w fun e w'=>e= .returned (.bool (itemsB T))∧w'=w:=by
 have HB:Hid (Calls Tryz.prog 78 #[v] w fun e w'=>e= .returned (.bool (T.all shortB))∧w'=w):=bulks_own h hn;have HT:Hid (Calls Tryz.prog 371 #[v] w fun e w'=>e= .returned v∧w'=w):=by
  unfold Hid;go_enter Tryz.func371,Tryz.ntmps371;go_wp2;go_ret;exact ⟨rfl,rfl⟩
 have HC:Hid (Calls Tryz.prog 283 #[.int .i64 T.length] w fun e w'=>e= .returned (.bool (countB T.length))∧w'=w):=Kk.count_any T.length w;obtain ⟨a,c,hv⟩:=zad h;have HE:Hid (itemsB T=(countB T.length&&T.all shortB)):=rfl;generalize T.all shortB=o2 at*;generalize countB T.length=o1 at*;generalize T.length=n at*;subst hv;clear h;cases o1 with
 |false=>
  have HE2:Hid (itemsB T=false):=by unfold Hid;rw [HE.out];rfl
  go_enter Tryz.func370,Tryz.ntmps370;go_wp2_with fail;refine HC.out.mono ?_;rintro e w1 ⟨rfl,rfl⟩;go_wp2;go_ret;exact ⟨zae HE2.out.symm,rfl⟩
 |true=>
  have HE2:Hid (itemsB T=o2):=by unfold Hid;rw [HE.out];rfl
  go_enter Tryz.func370,Tryz.ntmps370;go_wp2_with fail;refine HC.out.mono ?_;rintro e w1 ⟨rfl,rfl⟩;go_wp2_with fail;refine HT.out.mono ?_;rintro e w2 ⟨rfl,rfl⟩;go_wp2_with fail;refine HB.out.mono ?_;rintro e w3 ⟨rfl,rfl⟩;go_wp2;go_ret;exact ⟨zae HE2.out.symm,rfl⟩
structure PairsIn (w:World) (a:Option Addr) (b n:Nat) (ps:List Pr):Prop where
 len:ps.length=n
 addr:0<n→a=some ⟨b,0,none⟩
 low:0<n→b<w.heap.size
 c0:∀i,i<n→w.cell? ⟨b,i*2,none⟩=some (.string (ps.getD i (bz,bz)).1)
 c1:∀i,i<n→w.cell? ⟨b,i*2+1,none⟩=some (.string (ps.getD i (bz,bz)).2)
theorem PairsIn.below {w w':World} {a:Option Addr} {b n:Nat} {ps:List Pr} (h:PairsIn w a b n ps) (hb:Below w.heap.size w w'):PairsIn w' a b n ps:=
 ⟨h.len,h.addr,fun h0=>by have:=h.low h0;have:=hb.size;omega,fun i hi=> (hb.cell (p:=⟨b,i*2,none⟩) (h.low (by omega))).trans (h.c0 i hi),fun i hi=> (hb.cell (p:=⟨b,i*2+1,none⟩) (h.low (by omega))).trans (h.c1 i hi)⟩
theorem flatPV_at:∀(ps:List Pr) (i:Nat),i<ps.length→(flatPV ps)[i*2]?=some (.string (ps.getD i (bz,bz)).1)∧(flatPV ps)[i*2+1]?=some (.string (ps.getD i (bz,bz)).2)
 | [],i,h=>by simp at h
 |p::ps,0,_=>⟨rfl,rfl⟩
 |p::ps,i+1,h=>by
  have ih:=flatPV_at ps i (by simpa using h);have e:flatPV (p::ps)= .string p.1:: .string p.2::flatPV ps:=rfl;rw [e,show (i+1)*2=i*2+1+1 from by omega];simpa using ih
theorem ownP_in {w:World} {B:Nat} {v:Value} {ps:List Pr} (h:OwnP w B v ps):∃a A c,v= .slice a ps.length c∧PairsIn w a A ps.length ps:=by
 rcases Joins.ownsRow_forms h with ⟨h1,h2⟩|⟨A,c,hv⟩
 ·exact ⟨none,0,0,by rw [h1,h2],⟨rfl,fun h=>by omega,fun h=>by omega,fun i hi=>by omega,fun i hi=>by omega⟩⟩
 ·subst hv;refine ⟨some ⟨A,0,none⟩,A,c,rfl,⟨rfl,fun _=>rfl,fun _=> (own_lt h rfl).2,fun i hi=>?_,fun i hi=>?_⟩⟩
  ·have:=World.ownsRow.cells h rfl (i*2) _ (flatPV_at ps i hi).1;rwa [Addr.add_lit,Nat.zero_add] at this
  ·have:=World.ownsRow.cells h rfl (i*2+1) _ (flatPV_at ps i hi).2;rwa [Addr.add_lit,Nat.zero_add] at this
theorem flatP_next (ps:List Pr) (k:Nat) (h:k<ps.length):flatP (ps.take (k+1))=flatP (ps.take k)++ [(ps.getD k (bz,bz)).1,(ps.getD k (bz,bz)).2]:=by
 unfold flatP;rw [List.take_succ_eq_append_getElem h,List.flatMap_append,List.getD_eq_getElem?_getD,List.getElem?_eq_getElem h];simp
theorem flatP_len (ps:List Pr):(flatP ps).length=2*ps.length:=by
 induction ps with
 |nil=>rfl
 |cons p ps ih=>
  have e:flatP (p::ps)=p.1::p.2::flatP ps:=rfl;rw [e,List.length_cons,List.length_cons,ih,List.length_cons];omega
theorem pair_texts (a:Option Addr) (b n c:Nat) (ps:List Pr) (w:World) (h:PairsIn w a b n ps) (hn:n≤1048577):
  Calls Tryz.prog 230 #[.slice a n c] w fun e w'=>∃v,e= .returned v∧OwnS w' w.heap.size v (flatP ps)∧Below w.heap.size w w':=by
 obtain ⟨i0,hi,hz0,hz1,hz2⟩:=info_parts info9;have H:Hid (PairsIn w a b n ps):=h;have HL:Hid (ps.length=n):=h.len;clear h;go_enter Tryz.func230,Tryz.ntmps230;go_wp2;go_loopw [3,8] (fun v i wr=>∃(k:Nat),k≤n∧i= .int .i64 k∧OwnS wr w.heap.size v (flatP (ps.take k))∧Below w.heap.size w wr) (fun _ i _=>n-(intOf i).toNat)
 case atStart=>exact ⟨0,by omega,rfl,ownS_nil _ _,Below.refl _ _⟩
 case round=>
  obtain ⟨k,hk,rfl,hown,bk⟩:=hrel;have sk:=bk.size;by_cases hlt:k<n
  ·have HW:=H.out.below bk;have d0:=HW.c0 k hlt;have d1:=HW.c1 k hlt;obtain rfl:=HW.addr (by omega);have HN:Hid (flatP (ps.take (k+1))=flatP (ps.take k)++ [(ps.getD k (bz,bz)).1,(ps.getD k (bz,bz)).2]):=flatP_next ps k (by rw [HL.out];exact hlt);have htl:(flatP (ps.take k)).length≤2097154:=by rw [flatP_len,List.length_take];omega
   generalize ps.getD k (bz,bz)=y at*;obtain ⟨p,q⟩:=y;have HN2:Hid (flatP (ps.take (k+1))=flatP (ps.take k)++ [p,q]):=HN.out;dsimp only at d0 d1;generalize flatP (ps.take k)=T at*;clear HW HN;have b1:Below w.heap.size w (wr.alloc (.cells #[.string p,.string q] 100)):=bk.alloc sk _;have b01:Below wr.heap.size wr (wr.alloc (.cells #[.string p,.string q] 100)):=(Below.refl _ wr).alloc (Nat.le_refl _) _;have o1:OwnS (wr.alloc (.cells #[.string p,.string q] 100)) w.heap.size u3 T:=zaf hown b01;have s1:=b01.size;go_wp2_with (at_builtin;refine wpList_append_own _ rfl _ _ 28 rfl w.heap.size 9 i0 _ 1 16 Tryz.underlying28 hi hz0 hz1 hz2 rfl (by decide) _ _ _ rfl (o1.alloc _) ⟨(wr.alloc (.cells #[.string p,.string q] 100)).heap.size,0,none⟩ 2 2 [.string p,.string q] (by simp [Act.eval]) rfl ?c1 ?c2 ?c3 ?c4 ?c5 ?_)
   case c1=>
    intro j u hj;rw [Addr.add_lit,Nat.zero_add];exact ((RowAt.new (wr.alloc (.cells #[.string p,.string q] 100)) 9 #[.string p,.string q]).cell j).trans (by simpa using hj)
   case c2=>intro y hy;simp at hy;rcases hy with rfl|rfl<;>rfl
   case c3=>unfold maxLen;omega
   case c4=>omega
   case c5=>simp;omega
   intro v' w5 hown' hgrow _;have b05:Hid (Below w.heap.size w w5):=below_own b1 (by omega) o1 hgrow;have O5:Hid (OwnS w5 w.heap.size v' (T++ [p,q])):=by
    unfold Hid OwnS;rw [List.length_append,strV_app];exact hown'
   clear hown' hgrow o1 b1 bk hown b01;go_wp2;go_roundw
   case rel=>exact ⟨k+1,by omega,by go_num,by rw [HN2.out];exact O5.out,b05.out⟩
   case measure=>simp [intOf];omega
  ·obtain rfl:k=n:=by omega
   have HE:Hid (ps.take k=ps):=by unfold Hid;rw [←HL.out];exact List.take_length
   rw [HE.out] at hown;have HO:Hid _:=hown;clear hown;go_wp2;go_ret;exact ⟨_,rfl,HO.out,bk⟩
def cmpP (x y:Pr):Int:=Lib.compareBytes x.1.data.toList y.1.data.toList
abbrev prV (x:Pr):Value:= .agg #[.string x.1,.string x.2]
theorem byName_any (x y:Pr) (w:World):Calls Tryz.prog 257 #[prV x,prV y] w fun e w'=>e= .returned (.int .i64 (cmpP x y))∧Below w.heap.size w w':=by
 obtain ⟨x1,x2⟩:=x;obtain ⟨y1,y2⟩:=y;have HC:Hid (∀W,Calls Tryz.prog 110 #[.string x1,.string y1] W fun e w'=>e= .returned (.int .i64 (cmpP (x1,x2) (y1,y2)))∧w'=W):=fun W=>Kk.cmpS_any x1 y1 W;generalize cmpP (x1,x2) (y1,y2)=z at*;have hb:Below w.heap.size w ((w.alloc (.cells #[.string x1,.string x2] 100)).alloc (.cells #[.string y1,.string y2] 100)):=((Below.refl _ _).alloc (Nat.le_refl _) _).alloc (by simp) _;go_enter Tryz.func257,Tryz.ntmps257;go_wp2_with fail;refine (HC.out _).mono ?_;rintro e w1 ⟨rfl,rfl⟩;go_wp2;go_ret;exact ⟨rfl,hb⟩
def riP (ps:List Pr) (i:Nat):Bool:=decide (i=0)||Op.bytesLess (ps.getD (i-1) (bz,bz)).1.toList (ps.getD i (bz,bz)).1.toList
theorem risePB_eq (ps:List Pr):risePB ps=(List.range ps.length).all (riP ps):=rfl
theorem cmpP_less (x y:Pr):decide (cmpP x y<0)=Op.bytesLess x.1.toList y.1.toList:=by
 unfold cmpP;rw [Kk.cmp_less,ByteArray.toList_eq,ByteArray.toList_eq]
theorem risesP_any (a:Option Addr) (b n c:Nat) (ps:List Pr) (w:World) (h:PairsIn w a b n ps) (hn:n≤1048577):
  Calls Tryz.prog 373 #[.slice a n c,.func (.func 257) #[] #[]] w fun e w'=>e= .returned (.bool ((List.range n).all (riP ps)))∧Below w.heap.size w w':=by
 have H:Hid (PairsIn w a b n ps):=h;clear h;go_enter Tryz.func373,Tryz.ntmps373;go_wp2;go_loopw [5] (fun i wr=>∃(k:Nat),1≤k∧(k≤n∨k=1)∧i= .int .i64 k∧Hid (∀j,j<k→riP ps j=true)∧Below w.heap.size w wr) (fun i _=>n-(intOf i).toNat)
 case atStart=>exact ⟨1,by omega,.inr rfl,rfl,(fun j hj=>by cases (by omega:j=0);rfl),Below.refl _ _⟩
 case round=>
  obtain ⟨k,hk1,hk,rfl,hp,bk⟩:=hrel;by_cases hlt:k<n
  ·have HW:=H.out.below bk;have c0:=HW.c0 (k-1) (by omega);have c1:=HW.c1 (k-1) (by omega);have d0:=HW.c0 k hlt;have d1:=HW.c1 k hlt;obtain rfl:=HW.addr (by omega);have HS:Hid (riP ps k=decide (cmpP (ps.getD (k-1) (bz,bz)) (ps.getD k (bz,bz))<0)):=by
    unfold Hid;rw [cmpP_less];unfold riP;rw [decide_eq_false (by omega)];rfl
   generalize ps.getD (k-1) (bz,bz)=x at*;generalize ps.getD k (bz,bz)=y at*;have HC:Hid (∀W,Calls Tryz.prog 257 #[prV x,prV y] W fun e w'=>e= .returned (.int .i64 (cmpP x y))∧Below W.heap.size W w'):=fun W=>byName_any x y W;generalize cmpP x y=z at*;obtain ⟨xm,xs⟩:=x;obtain ⟨ym,ys⟩:=y;have sk:=bk.size;have hb:=HW.low (by omega);clear HW;dsimp only at c0 c1 d0 d1;have hk2:(1:Int)≤(k:Int):=by omega
   have hk3:(0:Int)≤(k:Int)-1:=by omega
   have hk4:(k:Int)-1<(n:Int):=by omega
   have hk0:(0:Int)≤(k:Int):=by omega
   have hkn:(k:Int)<(n:Int):=by omega
   have htn:((k:Int)-1).toNat=k-1:=by omega
   have hw:IntKind.i64.wrap ((k:Int)-1)=(k:Int)-1:=Kk.wrap_small (by omega) (by omega);go_upto_region 4 with fail;go_region_held3 (fun W=>W.cell? ⟨b,(k-1)*2,none⟩=some (.string xm)∧W.cell? ⟨b,(k-1)*2+1,none⟩=some (.string xs)∧W.cell? ⟨b,k*2,none⟩=some (.string ym)∧W.cell? ⟨b,k*2+1,none⟩=some (.string ys))
    (first
     |exact ⟨c0,c1,d0,d1⟩
     |exact ⟨(b1.cell (p:=⟨b,_,none⟩) hb).trans c0,(b1.cell (p:=⟨b,_,none⟩) hb).trans c1,(b1.cell (p:=⟨b,_,none⟩) hb).trans d0,(b1.cell (p:=⟨b,_,none⟩) hb).trans d1⟩)
    (first
     |(go_at_call 257;refine (HC.out _).mono ?_;rintro e w1 ⟨rfl,b1⟩))
   have b2:Below w.heap.size w w1:=bk.trans ((Below.trans (below_drewN (Below.refl _ wr) 1) b1).mono sk);clear b1 htn hw hk3 hk4 c0 c1 d0 d1 HC hk0;by_cases hz:z<0
   ·have hd:decide (0≤z)=false:=decide_eq_false (by omega);have HP2:Hid (∀j,j<k+1→riP ps j=true):=fun j hj=>by
     by_cases e:j=k
     ·subst e;rw [HS.out,decide_eq_true hz]
     ·exact hp.out j (by omega)
    clear hp HS;go_wp2;go_roundw
    case rel=>exact ⟨k+1,by omega,.inl (by omega),by go_num,HP2,b2⟩
    case measure=>simp [intOf];omega
   ·have hd:decide (0≤z)=true:=decide_eq_true (by omega);have HF:Hid ((List.range n).all (riP ps)=false):=Kk.all_no hlt (by rw [HS.out,decide_eq_false hz]);clear hp HS;go_wp2;go_ret;exact ⟨zae HF.out.symm,b2⟩
  ·have HT:Hid ((List.range n).all (riP ps)=true):=Kk.all_yes fun j hj=>hp.out j (by omega);clear hp;go_wp2;go_ret;exact ⟨zae HT.out.symm,bk⟩
theorem pairs_right (a:Option Addr) (b n c:Nat) (ps:List Pr) (w:World) (h:PairsIn w a b n ps) (hn:n≤500000):
  Calls Tryz.prog 372 #[.slice a n c] w fun e w'=>e= .returned (.bool (pairsB ps))∧Below w.heap.size w w':=by
 have hlen:=h.len;have HC:Hid (Calls Tryz.prog 283 #[.int .i64 n] w fun e w'=>e= .returned (.bool (countB n))∧w'=w):=Kk.count_any n w;have HE:Hid (pairsB ps=(countB n&&((flatP ps).all shortB&&(List.range n).all (riP ps)))):=by
  unfold Hid pairsB;rw [risePB_eq,hlen]
 have HT:Hid (Calls Tryz.prog 230 #[.slice a n c] w fun e w'=>∃v,e= .returned v∧OwnS w' w.heap.size v (flatP ps)∧Below w.heap.size w w'):=pair_texts a b n c ps w h (by omega);have hfl:=flatP_len ps;have HB:Hid (∀v W,OwnS W w.heap.size v (flatP ps)→Calls Tryz.prog 78 #[v] W fun e w'=>e= .returned (.bool ((flatP ps).all shortB))∧w'=W):=fun v W ho=>bulks_own ho (by rw [hfl,hlen];omega);have HR:Hid (∀W,Below w.heap.size w W→Calls Tryz.prog 373 #[.slice a n c,.func (.func 257) #[] #[]] W fun e w'=>e= .returned (.bool ((List.range n).all (riP ps)))∧Below W.heap.size W w'):=fun W hb=>risesP_any a b n c ps W (h.below hb) (by omega);clear h hfl hlen;generalize (List.range n).all (riP ps)=o3 at*;generalize countB n=o1 at*;generalize (flatP ps).all shortB=o2 at*;cases o1 with
 |false=>
  have HE2:Hid (pairsB ps=false):=by unfold Hid;rw [HE.out];rfl
  go_enter Tryz.func372,Tryz.ntmps372;go_wp2_with fail;refine HC.out.mono ?_;rintro e w1 ⟨rfl,rfl⟩;go_wp2;go_ret;exact ⟨zae HE2.out.symm,Below.refl _ _⟩
 |true=>
  cases o2 with
  |false=>
   have HE2:Hid (pairsB ps=false):=by unfold Hid;rw [HE.out];rfl
   go_enter Tryz.func372,Tryz.ntmps372;go_wp2_with fail;refine HC.out.mono ?_;rintro e w1 ⟨rfl,hw⟩;have hw2:=hw.symm;subst hw2;clear hw;go_wp2_with fail;refine HT.out.mono ?_;rintro e w2 ⟨v,rfl,o,b2⟩;have HB2:Hid (Calls Tryz.prog 78 #[v] w2 fun e w'=>e= .returned (.bool false)∧w'=w2):=HB.out v w2 o;clear o;go_wp2_with fail;refine HB2.out.mono ?_;rintro e w3 ⟨rfl,rfl⟩;go_wp2;go_ret;exact ⟨zae HE2.out.symm,b2⟩
  |true=>
   have HE2:Hid (pairsB ps=o3):=by unfold Hid;rw [HE.out];rfl
   go_enter Tryz.func372,Tryz.ntmps372;go_wp2_with fail;refine HC.out.mono ?_;rintro e w1 ⟨rfl,hw⟩;have hw2:=hw.symm;subst hw2;clear hw;go_wp2_with fail;refine HT.out.mono ?_;rintro e w2 ⟨v,rfl,o,b2⟩;have HB2:Hid (Calls Tryz.prog 78 #[v] w2 fun e w'=>e= .returned (.bool true)∧w'=w2):=HB.out v w2 o;clear o;go_wp2_with fail;refine HB2.out.mono ?_;rintro e w3 ⟨rfl,hw⟩;have hw2:=hw.symm;subst hw2;clear hw;go_wp2_with fail;refine (HR.out w2 b2).mono ?_;rintro e w4 ⟨rfl,b4⟩;have b04:=b2.trans (b4.mono b2.size);go_wp2;go_ret;exact ⟨zae HE2.out.symm,b04⟩
end Go.Proofs.YtibhabajknikcaaGreatDoor
