import GoSem.Claim
import GoSem.ClaimJoined
import GoSem.ClaimMapViews
import Derived.JoinedTies
import Derived.KernelRfl
import Derived.RowKit
import Derived.WalkKit
import Derived.WalkSpells
import Derived.WalkLawsBesides
import Derived.Deep.QuietTactic
import Derived.BigQuiet
import Derived.Lib.SmallJoins
import Derived.Lib.Bytealg
import Derived.Deep.Cut
import Derived.Deep.RegionWith
import Derived.Deep.RegionHeld3
import Derived.Lib.QuietBelow
import Derived.Deep.CutRange
import Derived.OwnWalk
import Derived.Test.YtibhabajknikcaaGreatDoorProg
set_option maxHeartbeats 4000000
set_option maxRecDepth 100000
namespace Go.Proofs.YtibhabajknikcaaGreatDoor.Kk
open Go.RowKit Go.Sort
theorem zae {a b:Bool} (h:a=b):Ending.returned (.bool a)= .returned (.bool b):=by rw [h]
theorem ret_int {a b:Int} (h:a=b):Ending.returned (.int .i64 a)= .returned (.int .i64 b):=by rw [h]
structure Rk where
 m:ByteArray
 s:Int
def rk0:Rk:=⟨ByteArray.empty,0⟩
abbrev rkV (x:Rk):Value:= .agg #[.string x.m,.int .i64 x.s]
theorem in_any (n low high:Int) (w:World):
  Calls Tryz.prog 50 #[.int .i64 n,.int .i64 low,.int .i64 high] w fun e w'=>e= .returned (.bool (decide (low≤n)&&decide (n≤high)))∧w'=w:=by
 by_cases h1:low≤n
 ·rw [decide_eq_true h1,Bool.true_and];go_enter Tryz.func50,Tryz.ntmps50;go_wp2;go_ret;exact ⟨rfl,rfl⟩
 ·rw [decide_eq_false h1,Bool.false_and];go_enter Tryz.func50,Tryz.ntmps50;go_wp2;go_ret;exact ⟨rfl,rfl⟩
theorem number_any (n:Int) (w:World):
  Calls Tryz.prog 220 #[.int .i64 n] w fun e w'=>e= .returned (.bool (decide (-1000000000000000000≤n)&&decide (n≤1000000000000000000)))∧w'=w:=by
 by_cases h1:(-1000000000000000000:Int)≤n
 ·rw [decide_eq_true h1,Bool.true_and];go_enter Tryz.func220,Tryz.ntmps220;go_wp2;go_ret;exact ⟨rfl,rfl⟩
 ·rw [decide_eq_false h1,Bool.false_and];go_enter Tryz.func220,Tryz.ntmps220;go_wp2;go_ret;exact ⟨rfl,rfl⟩
theorem count_any (n:Nat) (w:World):
  Calls Tryz.prog 283 #[.int .i64 n] w fun e w'=>e= .returned (.bool (decide (1≤n)&&decide (n≤20)))∧w'=w:=by
 by_cases h1:1≤n
 ·have h2:(1:Int)≤n:=by omega
  rw [decide_eq_true h1,Bool.true_and];go_enter Tryz.func283,Tryz.ntmps283;go_wp2;go_ret;exact ⟨zae (by simp;omega),rfl⟩
 ·have h2:¬(1:Int)≤n:=by omega
  rw [decide_eq_false h1,Bool.false_and];go_enter Tryz.func283,Tryz.ntmps283;go_wp2;go_ret;exact ⟨rfl,rfl⟩
def aheadB (x y:Rk):Bool:=decide (x.s<y.s)||(decide (x.s=y.s)&&Op.bytesLess x.m.toList y.m.toList)
theorem ahead_any (x y:Rk) (w:World):
  Calls Tryz.prog 104 #[rkV x,rkV y] w fun e w'=>e= .returned (.bool (aheadB x y))∧Below w.heap.size w w':=by
 have HB:Hid (∀a b:Array Value,Below w.heap.size w ((w.alloc (.cells a 102)).alloc (.cells b 102))):=fun a b=> ((Below.refl _ w).alloc (Nat.le_refl _) _).alloc (by simp) _;obtain ⟨xm,xs⟩:=x;obtain ⟨ym,ys⟩:=y;by_cases h1:xs<ys
 ·have HE:Hid (aheadB ⟨xm,xs⟩ ⟨ym,ys⟩=true):=by unfold Hid aheadB;rw [decide_eq_true h1];rfl
  go_enter Tryz.func104,Tryz.ntmps104;go_wp2;go_ret;exact ⟨zae HE.out.symm,HB.out _ _⟩
 ·by_cases h2:xs=ys
  ·subst h2;have HE:Hid (aheadB ⟨xm,xs⟩ ⟨ym,xs⟩=Op.bytesLess xm.toList ym.toList):=by unfold Hid aheadB;rw [decide_eq_false h1,decide_eq_true rfl];rfl
   clear h1;go_enter Tryz.func104,Tryz.ntmps104;go_wp2;go_ret;exact ⟨zae HE.out.symm,HB.out _ _⟩
  ·have HE:Hid (aheadB ⟨xm,xs⟩ ⟨ym,ys⟩=false):=by unfold Hid aheadB;rw [decide_eq_false h1,decide_eq_false h2];rfl
   have h3:(xs==ys)=false:=beq_eq_false_iff_ne.2 h2;go_enter Tryz.func104,Tryz.ntmps104;go_wp2;go_ret;exact ⟨zae HE.out.symm,HB.out _ _⟩
structure RkAt (w:World) (b o:Nat) (x:Rk):Prop where
 c0:w.cell? ⟨b,o,none⟩=some (.string x.m)
 c1:w.cell? ⟨b,o+1,none⟩=some (.int .i64 x.s)
structure zdh (w:World) (a:Option Addr) (b off n:Nat) (L:List Rk):Prop where
 len:L.length=n
 addr:0<n→a=some ⟨b,off,none⟩
 low:0<n→b<w.heap.size
 cell:∀i,i<n→RkAt w b (off+i*2) (L.getD i rk0)
theorem rk_below {w w':World} {b o B:Nat} {x:Rk} (h:RkAt w b o x) (hl:b<B) (hb:Below B w w'):RkAt w' b o x:=
 ⟨(hb.cell (p:=⟨b,o,none⟩) hl).trans h.c0,(hb.cell (p:=⟨b,o+1,none⟩) hl).trans h.c1⟩
theorem zdh.below {w w':World} {a:Option Addr} {b off n:Nat} {L:List Rk} (h:zdh w a b off n L) (hb:Below w.heap.size w w'):zdh w' a b off n L:=
 ⟨h.len,h.addr,fun h0=>by have:=h.low h0;have:=hb.size;omega,fun i hi=>rk_below (h.cell i hi) (h.low (by omega)) hb⟩
theorem all_yes {n:Nat} {P:Nat→Bool} (h:∀j,j<n→P j=true):(List.range n).all P=true:=by
 rw [List.all_eq_true];exact fun j hj=>h j (List.mem_range.1 hj)
theorem all_no {n k:Nat} {P:Nat→Bool} (hk:k<n) (h:P k=false):(List.range n).all P=false:=by
 rw [List.all_eq_false];exact ⟨k,List.mem_range.2 hk,by rw [h];simp⟩
def zea (x:Rk):Bool:=decide (-1000000000000000000≤x.s)&&decide (x.s≤1000000000000000000)
def buAt (L:List Rk) (i:Nat):Bool:=decide ((L.getD i rk0).m.size≤200)
def scAt (L:List Rk) (i:Nat):Bool:=zea (L.getD i rk0)
def riAt (L:List Rk) (i:Nat):Bool:=decide (i=0)||aheadB (L.getD (i-1) rk0) (L.getD i rk0)
def frAt (L:List Rk) (i:Nat):Bool:=!((List.range i).any fun k=>decide ((L.getD k rk0).m=(L.getD i rk0).m))
theorem scores_any (a:Option Addr) (b off n c:Nat) (L:List Rk) (w:World) (h:zdh w a b off n L) (hn:n≤1048577):
  Calls Tryz.prog 285 #[.slice a n c] w fun e w'=>e= .returned (.bool ((List.range n).all (scAt L)))∧Below w.heap.size w w':=by
 have H:Hid (zdh w a b off n L):=h;clear h;go_enter Tryz.func285,Tryz.ntmps285;go_wp2;go_loopw [7] (fun i wr=>∃(k:Nat),k≤n∧i= .int .i64 k∧Hid (∀j,j<k→scAt L j=true)∧Below w.heap.size w wr) (fun i _=>n-(intOf i).toNat)
 case atStart=>exact ⟨0,by omega,rfl,fun j hj=>by omega,Below.refl _ _⟩
 case round=>
  obtain ⟨k,hk,rfl,hp,bk⟩:=hrel;by_cases hlt:k<n
  ·have HW:=H.out.below bk;have hx:=HW.cell k hlt;obtain rfl:=HW.addr (by omega);have c0:=hx.c0;have c1:=hx.c1;have HS:Hid (scAt L k=zea (L.getD k rk0)):=rfl;generalize L.getD k rk0=x at*;obtain ⟨m,s⟩:=x;have HN:=fun W=>number_any s W;have sk:=bk.size;have b1:Below w.heap.size w (wr.alloc (.cells #[.string m,.int .i64 s] 102)):=bk.alloc sk _;clear HW hx;dsimp only at c0 c1;go_wp2_with fail;refine (HN _).mono ?_;rintro e w1 ⟨rfl,rfl⟩;clear HN;have HS2:Hid (scAt L k=(decide (-1000000000000000000≤s)&&decide (s≤1000000000000000000))):=HS.out;clear HS;generalize (decide (-1000000000000000000≤s)&&decide (s≤1000000000000000000))=ok at*;cases ok with
   |true=>
    have HP2:Hid (∀j,j<k+1→scAt L j=true):=fun j hj=>by
     by_cases e:j=k
     ·subst e;exact HS2.out
     ·exact hp.out j (by omega)
    clear hp;go_wp2;go_roundw
    case rel=>exact ⟨k+1,by omega,by go_num,HP2,b1⟩
    case measure=>simp [intOf];omega
   |false=>
    have HF:Hid ((List.range n).all (scAt L)=false):=all_no hlt HS2.out;clear hp;go_wp2;go_ret;exact ⟨zae HF.out.symm,b1⟩
  ·obtain rfl:k=n:=by omega
   have HT:Hid ((List.range k).all (scAt L)=true):=all_yes hp.out;clear hp;go_wp2;go_ret;exact ⟨zae HT.out.symm,bk⟩
def RowAt (w:World) (g:Nat) (T:TypeId) (C:Array Value):Prop:=w.heap[g]?=some (.cells C T (0,0))
theorem RowAt.cell {w:World} {g:Nat} {T:TypeId} {C:Array Value} (h:RowAt w g T C) (j:Nat):w.cell? ⟨g,j,none⟩=C[j]?:=Lib.cell_of_heap h j
theorem RowAt.lt {w:World} {g:Nat} {T:TypeId} {C:Array Value} (h:RowAt w g T C):g<w.heap.size:=(Array.getElem?_eq_some_iff.1 h).1
theorem RowAt.new (w:World) (T:TypeId) (C:Array Value):RowAt (w.alloc (.cells C T)) w.heap.size T C:=by
 show (w.heap.push (.cells C T (0,0)))[w.heap.size]?=_;simp
theorem RowAt.below {w w':World} {g:Nat} {T:TypeId} {C:Array Value} {B:Nat} (h:RowAt w g T C) (hb:Below B w w') (hg:g<B):RowAt w' g T C:=(hb.block g hg).trans h
theorem str_ne {a b:ByteArray} (h:¬a=b):(a.toList==b.toList)=false:=by
 rw [beq_eq_false_iff_ne,ByteArray.toList_eq,ByteArray.toList_eq];intro e;exact h (ByteArray.ext (Array.toList_inj.1 e))
theorem str_eq (a b:ByteArray):(a.toList==b.toList)=decide (a=b):=by
 by_cases h:a=b
 ·subst h;simp
 ·rw [str_ne h,decide_eq_false h]
theorem same_any (x:Rk) (m:ByteArray) (g:Nat) (w:World) (hg:w.cell? ⟨g,0,none⟩=some (.string m)) (hlt:g<w.heap.size):
  Calls Tryz.prog 263 #[rkV x,.pointer (some ⟨g,0,none⟩)] w fun e w'=>e= .returned (.bool (decide (x.m=m)))∧Below w.heap.size w w':=by
 obtain ⟨xm,xs⟩:=x;have b0:Below w.heap.size w (w.alloc (.cells #[.string xm,.int .i64 xs] 102)):=(Below.refl _ w).alloc (Nat.le_refl _) _;have hg1:(w.alloc (.cells #[.string xm,.int .i64 xs] 102)).cell? ⟨g,0,none⟩=some (.string m):=(b0.cell (p:=⟨g,0,none⟩) hlt).trans hg;have HE:Hid ((xm.toList==m.toList)=decide (xm=m)):=str_eq xm m;go_enter Tryz.func263,Tryz.ntmps263;go_wp2;go_ret;exact ⟨zae HE.out,b0⟩
def FirstAt (L:List Rk) (m:ByteArray) (n:Nat) (r:Int):Prop:=
 (∃k:Nat,r=k∧k<n∧(L.getD k rk0).m=m∧∀j,j<k→(L.getD j rk0).m≠m)∨(r= -1∧∀j,j<n→(L.getD j rk0).m≠m)
theorem index_any (a:Option Addr) (b off n c:Nat) (L:List Rk) (m:ByteArray) (g:Nat) (w:World) (h:zdh w a b off n L) (hn:n≤1048577) (hg:w.cell? ⟨g,0,none⟩=some (.string m)) (hg2:g<w.heap.size):
  Calls Tryz.prog 262 #[.slice a n c,.func (.func 263) #[] #[.pointer (some ⟨g,0,none⟩)]] w fun e w'=> (∃r:Int,e= .returned (.int .i64 r)∧FirstAt L m n r)∧Below w.heap.size w w':=by
 have H:Hid (zdh w a b off n L):=h;have HG:Hid (w.cell? ⟨g,0,none⟩=some (.string m)):=hg;clear h hg;go_enter Tryz.func262,Tryz.ntmps262;go_wp2;go_loopw [8] (fun i wr=>∃(k:Nat),k≤n∧i= .int .i64 k∧Hid (∀j,j<k→(L.getD j rk0).m≠m)∧Below w.heap.size w wr) (fun i _=>n-(intOf i).toNat)
 case atStart=>exact ⟨0,by omega,rfl,fun j hj=>by omega,Below.refl _ _⟩
 case round=>
  obtain ⟨k,hk,rfl,hp,bk⟩:=hrel;by_cases hlt:k<n
  ·have HW:=H.out.below bk;have hx:=HW.cell k hlt;obtain rfl:=HW.addr (by omega);have c0:=hx.c0;have c1:=hx.c1;have sk:=bk.size;have hgk:wr.cell? ⟨g,0,none⟩=some (.string m):=(bk.cell (p:=⟨g,0,none⟩) hg2).trans HG.out;have HS:Hid (∃x,L.getD k rk0=x):=⟨_,rfl⟩;obtain ⟨x,hxe⟩:=HS.out;have HX:Hid (L.getD k rk0=x):=hxe;rw [hxe] at c0 c1;have HC:=same_any x m g wr hgk (by omega);clear HW hx HS hxe;obtain ⟨xm,xs⟩:=x;dsimp only at c0 c1;go_wp2_with fail;refine HC.mono ?_;rintro e w1 ⟨rfl,b1⟩;have b2:=bk.trans (b1.mono sk);clear HC b1;dsimp only;by_cases he:xm=m
   ·have HT:Hid (FirstAt L m n k):= .inl ⟨k,rfl,hlt,by rw [HX.out];exact he,hp.out⟩;have hd:decide (xm=m)=true:=decide_eq_true he;clear hp;go_wp2;go_ret;exact ⟨⟨_,rfl,HT.out⟩,b2⟩
   ·have HP2:Hid (∀j,j<k+1→(L.getD j rk0).m≠m):=fun j hj=>by
     by_cases e:j=k
     ·subst e;rw [HX.out];exact he
     ·exact hp.out j (by omega)
    have hd:decide (xm=m)=false:=decide_eq_false he;clear hp;go_wp2;go_roundw
    case rel=>exact ⟨k+1,by omega,by go_num,HP2,b2⟩
    case measure=>simp [intOf];omega
  ·obtain rfl:k=n:=by omega
   have HT:Hid (FirstAt L m k (-1)):= .inr ⟨rfl,hp.out⟩;clear hp;go_wp2;go_ret;exact ⟨⟨_,rfl,HT.out⟩,bk⟩
theorem place_any (a:Option Addr) (b off n c:Nat) (L:List Rk) (m:ByteArray) (w:World) (h:zdh w a b off n L) (hn:n≤1048577):
  Calls Tryz.prog 235 #[.slice a n c,.string m] w fun e w'=> (∃r:Int,e= .returned (.int .i64 r)∧FirstAt L m n r)∧Below w.heap.size w w':=by
 have b0:Below w.heap.size w (w.alloc (.cells #[.string m] 9)):=(Below.refl _ w).alloc (Nat.le_refl _) _;have q0:=RowAt.new w 9 #[.string m];have HI:=index_any a b off n c L m w.heap.size (w.alloc (.cells #[.string m] 9)) (h.below b0) hn (q0.cell 0) q0.lt;have sk:=b0.size;clear h;go_enter Tryz.func235,Tryz.ntmps235;go_wp2_with fail;refine HI.mono ?_;rintro e w1 ⟨⟨r,rfl,hr⟩,b1⟩;have b2:=b0.trans (b1.mono sk);have HR:Hid (FirstAt L m n r):=hr;clear HI b1 hr;go_wp2;go_ret;exact ⟨⟨r,rfl,HR.out⟩,b2⟩
theorem fr_of_first {L:List Rk} {i n:Nat} {r:Int} (hi:i<n) (h:FirstAt L (L.getD i rk0).m n r):frAt L i=decide (r=i):=by
 rcases h with ⟨k,rfl,hk,he,hj⟩|⟨rfl,hj⟩
 ·by_cases hik:i<k
  ·exact absurd rfl (hj i hik)
  ·by_cases e:k=i
   ·subst e;rw [decide_eq_true rfl];unfold frAt;rw [Bool.not_eq_true'];rw [List.any_eq_false];intro j hj2;simpa using hj j (List.mem_range.1 hj2)
   ·rw [decide_eq_false (by omega)];unfold frAt;rw [Bool.not_eq_false'];rw [List.any_eq_true];exact ⟨k,List.mem_range.2 (by omega),by simpa using he⟩
 ·exact absurd rfl (hj i hi)
theorem differ_any (a:Option Addr) (b off n c:Nat) (L:List Rk) (w:World) (h:zdh w a b off n L) (hn:n≤1048577):
  Calls Tryz.prog 287 #[.slice a n c] w fun e w'=>e= .returned (.bool ((List.range n).all (frAt L)))∧Below w.heap.size w w':=by
 have H:Hid (zdh w a b off n L):=h;clear h;go_enter Tryz.func287,Tryz.ntmps287;go_wp2;go_loopw [7] (fun i wr=>∃(k:Nat),k≤n∧i= .int .i64 k∧Hid (∀j,j < k→frAt L j=true)∧Below w.heap.size w wr) (fun i _=>n - (intOf i).toNat)
 case atStart=>exact ⟨0,by omega,rfl,fun j hj=>by omega,Below.refl _ _⟩
 case round=>
  obtain ⟨k,hk,rfl,hp,bk⟩:=hrel;by_cases hlt:k < n
  ·have HW:=H.out.below bk;have hx:=HW.cell k hlt;obtain rfl:=HW.addr (by omega);have c0:=hx.c0;have c1:=hx.c1;have HF:Hid (∀r:Int,FirstAt L (L.getD k rk0).m n r→frAt L k=decide (r=k)):=fun r=>fr_of_first hlt;generalize L.getD k rk0=x at*;obtain ⟨m,s⟩:=x;have sk:=bk.size;have b0:Below wr.heap.size wr (wr.alloc (.cells #[.string m,.int .i64 s] 102)):=(Below.refl _ _).alloc (Nat.le_refl _) _;have s0:=b0.size;have HPL:=place_any _ b off n c L m (wr.alloc (.cells #[.string m,.int .i64 s] 102)) (HW.below b0) hn;have b1:=bk.trans (b0.mono sk);clear HW hx b0;dsimp only at c0 c1;go_wp2_with fail;refine HPL.mono ?_;rintro e w1 ⟨⟨r,rfl,hr⟩,b2⟩;have b3:=b1.trans (b2.mono (by omega));have HS:Hid (frAt L k=decide (r=k)):=HF.out r hr;clear HPL HF hr b2 b1;by_cases he:r=k
   ·have HP2:Hid (∀j,j < k+1→frAt L j=true):=fun j hj=>by
     by_cases e:j=k
     ·subst e;rw [HS.out,decide_eq_true he]
     ·exact hp.out j (by omega)
    subst he;clear hp HS;go_wp2;go_roundw
    case rel=>exact ⟨k+1,by omega,by go_num,HP2,b3⟩
    case measure=>simp [intOf];omega
   ·have HF:Hid ((List.range n).all (frAt L)=false):=all_no hlt (by rw [HS.out,decide_eq_false he]);have hne:(r !=(k:Int))=true:=by simpa using he
    clear hp HS;go_wp2;go_ret;exact ⟨zae HF.out.symm,b3⟩
  ·obtain rfl:k=n:=by omega
   have HT:Hid ((List.range k).all (frAt L)=true):=all_yes hp.out;clear hp;go_wp2;go_ret;exact ⟨zae HT.out.symm,bk⟩
theorem cmp_less:∀a b:List UInt8,decide (Lib.compareBytes a b<0)=Op.bytesLess a b
 | [],[]=>rfl
 | [],_::_=>rfl
 |_::_,[]=>rfl
 |a::x,b::y=>by
  unfold Lib.compareBytes Op.bytesLess;by_cases h1:a<b
  ·rw [if_pos h1,decide_eq_true h1];rfl
  ·rw [if_neg h1,decide_eq_false h1];by_cases h2:b<a
   ·have h3:(a==b)=false:=by
     rw [beq_eq_false_iff_ne];rintro rfl;exact h1 h2
    rw [if_pos h2,h3];rfl
   ·have h3:a=b:=by
     apply UInt8.toNat_inj.1;have h4:¬a.toNat<b.toNat:=fun h=>h1 (UInt8.lt_iff_toNat_lt.2 h);have h5:¬b.toNat<a.toNat:=fun h=>h2 (UInt8.lt_iff_toNat_lt.2 h);omega
    subst h3;rw [if_neg h2,cmp_less x y];simp
def cmpI (x y:Int):Int:=if x<y then-1 else if y<x then 1 else 0
def cmpR (x y:Rk):Int:=if cmpI x.s y.s=0 then Lib.compareBytes x.m.data.toList y.m.data.toList else cmpI x.s y.s
theorem cmpR_less (x y:Rk):decide (cmpR x y<0)=aheadB x y:=by
 unfold cmpR cmpI aheadB;by_cases h1:x.s<y.s
 ·rw [if_pos h1,decide_eq_true h1];rfl
 ·rw [if_neg h1,decide_eq_false h1];by_cases h2:y.s<x.s
  ·rw [if_pos h2,decide_eq_false (by omega:¬x.s=y.s)];rfl
  ·rw [if_neg h2,decide_eq_true (by omega:x.s=y.s)];rw [ByteArray.toList_eq,ByteArray.toList_eq,←cmp_less];simp
theorem nan_any (x:Int) (w:World):Calls Tryz.prog 312 #[.int .i64 x] w fun e w'=>e= .returned (.bool false)∧w'=w:=by
 go_enter Tryz.func312,Tryz.ntmps312;go_wp2;go_ret;exact ⟨zae (by simp),rfl⟩
theorem cmpI_any (x y:Int) (w:World):Calls Tryz.prog 290 #[.int .i64 x,.int .i64 y] w fun e w'=>e= .returned (.int .i64 (cmpI x y))∧w'=w:=by
 by_cases h1:x<y
 ·have HE:Hid (cmpI x y= -1):=by unfold Hid cmpI;rw [if_pos h1]
  generalize cmpI x y=z at*;go_enter Tryz.func290,Tryz.ntmps290;go_wp2_with (go_at_call 312;refine (nan_any _ _).mono ?_;rintro e w' ⟨rfl,rfl⟩);go_ret;exact ⟨ret_int HE.out.symm,rfl⟩
 ·by_cases h2:y<x
  ·have HE:Hid (cmpI x y=1):=by unfold Hid cmpI;rw [if_neg h1,if_pos h2]
   generalize cmpI x y=z at*;go_enter Tryz.func290,Tryz.ntmps290;go_wp2_with (go_at_call 312;refine (nan_any _ _).mono ?_;rintro e w' ⟨rfl,rfl⟩);go_ret;exact ⟨ret_int HE.out.symm,rfl⟩
  ·have HE:Hid (cmpI x y=0):=by unfold Hid cmpI;rw [if_neg h1,if_neg h2]
   generalize cmpI x y=z at*;go_enter Tryz.func290,Tryz.ntmps290;go_wp2_with (go_at_call 312;refine (nan_any _ _).mono ?_;rintro e w' ⟨rfl,rfl⟩);go_ret;exact ⟨ret_int HE.out.symm,rfl⟩
theorem cmpB_any (a b:ByteArray) (w:World):Calls Tryz.prog 143 #[.string a,.string b] w fun e w'=>e= .returned (.int .i64 (Lib.compareBytes a.data.toList b.data.toList))∧w'=w:=by
 go_enter Tryz.func143,Tryz.ntmps143;go_wp2;rw [run_callFunc_extern Tryz.func198 (by kernel_rfl) (by kernel_rfl) (by kernel_rfl) (e:=Extern.BytealgCompare.compare) (by kernel_rfl),Lib.run_compareString];simp only [Result.andThen];rw [Oper.upon_value];go_wp2;go_ret;exact ⟨rfl,rfl⟩
theorem cmpS_any (a b:ByteArray) (w:World):Calls Tryz.prog 110 #[.string a,.string b] w fun e w'=>e= .returned (.int .i64 (Lib.compareBytes a.data.toList b.data.toList))∧w'=w:=by
 go_enter Tryz.func110,Tryz.ntmps110;go_wp2_with (go_at_call 143;refine (cmpB_any _ _ _).mono ?_;rintro e w' ⟨rfl,rfl⟩);go_ret;exact ⟨rfl,rfl⟩
theorem or_any (x y:Int) (g:Nat) (w:World) (h0:w.cell? ⟨g,0,none⟩=some (.int .i64 x)) (h1:w.cell? ⟨g,1,none⟩=some (.int .i64 y)):
  Calls Tryz.prog 289 #[.slice (some ⟨g,0,none⟩) 2 2] w fun e w'=>e= .returned (.int .i64 (if x=0 then y else x))∧w'=w:=by
 have HE:Hid (∀z,(x=0→z=y)→(x≠0→z=x)→z=(if x=0 then y else x)):=fun z a b=>by
  by_cases h:x=0
  ·rw [if_pos h];exact a h
  ·rw [if_neg h];exact b h
 generalize (if x=0 then y else x)=z at*;go_enter Tryz.func289,Tryz.ntmps289;go_wp2;go_loopw [8] (fun i wr=>∃(k:Nat),k≤2∧i= .int .i64 k∧Hid ((1≤k→x=0)∧(2≤k→y=0))∧wr=w) (fun i _=>2 - (intOf i).toNat)
 case atStart=>exact ⟨0,by omega,rfl,⟨fun h=>by omega,fun h=>by omega⟩,rfl⟩
 case round=>
  obtain ⟨k,hk,rfl,hp,rfl⟩:=hrel;obtain rfl | rfl | rfl:k=0∨k=1∨k=2:=by omega
  ·by_cases hx:x=0
   ·subst hx;clear hp;go_wp2;go_roundw
    case rel=>exact ⟨0+1,by omega,by go_num,⟨fun _=>trivial,fun h=>by omega⟩,trivial⟩
    case measure=>simp [intOf]
   ·have hne:(x !=0)=true:=by simpa using hx
    have HZ:Hid (x=z):=HE.out x (fun h=>absurd h hx) (fun _=>rfl);clear hp HE;go_wp2;go_ret;exact ⟨ret_int HZ.out,rfl⟩
  ·have hx:x=0:=hp.out.1 (by omega);by_cases hy:y=0
   ·have HP:Hid ((1≤1+1→x=0)∧(2≤1+1→y=0)):=⟨fun _=>hx,fun h=>hy⟩;subst hy;clear hp hx;go_wp2;go_roundw
    case rel=>exact ⟨1+1,by omega,by go_num,⟨HP.out.1,fun _=>trivial⟩,trivial⟩
    case measure=>simp [intOf]
   ·have hne:(y !=0)=true:=by simpa using hy
    have HZ:Hid (y=z):=HE.out y (fun _=>rfl) (fun h=>absurd hx h);clear hp HE hx;go_wp2;go_ret;exact ⟨ret_int HZ.out,rfl⟩
  ·have HZ:Hid (0=z):=HE.out 0 (fun _=> (hp.out.2 (by omega)).symm) (fun h=>absurd (hp.out.1 (by omega)) h);clear hp HE;go_wp2;go_ret;exact ⟨ret_int HZ.out,rfl⟩
theorem wrap_small {n:Int} (h1:-9223372036854775808≤n) (h2:n≤9223372036854775807):IntKind.i64.wrap n=n:=by
 simp [IntKind.wrap,IntKind.signed,IntKind.bits];omega
theorem kept {W:World} {a:Addr} {v:Value} {o:Obj} (h:W.cell? a=some v):(W.drew.alloc o).cell? a=some v:=
 (World.cell?_alloc_some W.drew a o (by show (W.cell? a).isSome=true;rw [h];rfl)).trans h
theorem byScore_any (x y:Rk) (w:World):
  Calls Tryz.prog 261 #[rkV x,rkV y] w fun e w'=>e= .returned (.int .i64 (cmpR x y))∧Below w.heap.size w w':=by
 obtain ⟨xm,xs⟩:=x;obtain ⟨ym,ys⟩:=y;have HE:Hid (cmpR ⟨xm,xs⟩ ⟨ym,ys⟩=if cmpI xs ys=0 then Lib.compareBytes xm.data.toList ym.data.toList else cmpI xs ys):=rfl;generalize cmpR ⟨xm,xs⟩ ⟨ym,ys⟩=z at*;have b0:Below w.heap.size w ((w.alloc (.cells #[.string xm,.int .i64 xs] 102)).alloc (.cells #[.string ym,.int .i64 ys] 102)):=((Below.refl _ w).alloc (Nat.le_refl _) _).alloc (by simp) _;go_enter Tryz.func261,Tryz.ntmps261;have r0:=(RowAt.new w 102 #[.string xm,.int .i64 xs]).below ((Below.refl _ _).alloc (Nat.le_refl _) (.cells #[.string ym,.int .i64 ys] 102)) (by simp);have r1:=RowAt.new (w.alloc (.cells #[.string xm,.int .i64 xs] 102)) 102 #[.string ym,.int .i64 ys];simp only [World.size_alloc] at r1;have s0:=b0.size;have e0:=r0.cell 0;have e1:=r0.cell 1;have d0:=r1.cell 0;have d1:=r1.cell 1;simp only [List.getElem?_toArray,List.getElem?_cons_zero,List.getElem?_cons_succ] at e0 e1 d0 d1;go_wp2_with fail;generalize (w.alloc (.cells #[.string xm,.int .i64 xs] 102)).alloc (.cells #[.string ym,.int .i64 ys] 102)=W at*;clear r0 r1;generalize hc1:cmpI xs ys=c1 at*;have HC1:Hid (cmpI xs ys=c1):=hc1;generalize hc2:Lib.compareBytes xm.data.toList ym.data.toList=c2 at*;have HC2:Hid (Lib.compareBytes xm.data.toList ym.data.toList=c2):=hc2;clear hc1 hc2;have HX:Hid (∀W,Calls Tryz.prog 290 #[.int .i64 xs,.int .i64 ys] W fun e w'=>e= .returned (.int .i64 c1)∧w'=W):=fun W=>by
  have:=cmpI_any xs ys W;rwa [HC1.out] at this
 have HY:Hid (∀W,Calls Tryz.prog 110 #[.string xm,.string ym] W fun e w'=>e= .returned (.int .i64 c2)∧w'=W):=fun W=>by
  have:=cmpS_any xm ym W;rwa [HC2.out] at this
 have HO:Hid (∀g W,W.cell? ⟨g,0,none⟩=some (.int .i64 c1)→W.cell? ⟨g,1,none⟩=some (.int .i64 c2)→Calls Tryz.prog 289 #[.slice (some ⟨g,0,none⟩) 2 2] W fun e w'=>e= .returned (.int .i64 z)∧w'=W):=fun g W h0 h1=>by
  have:=or_any c1 c2 g W h0 h1;rwa [←HE.out] at this
 have kp:Hid (∀o,(W.drew.alloc o).cell? ⟨w.heap.size,0,none⟩=some (.string xm)∧(W.drew.alloc o).cell? ⟨w.heap.size,1,none⟩=some (.int .i64 xs)∧(W.drew.alloc o).cell? ⟨w.heap.size+1,0,none⟩=some (.string ym)∧(W.drew.alloc o).cell? ⟨w.heap.size+1,1,none⟩=some (.int .i64 ys)):=fun o=>⟨kept e0,kept e1,kept d0,kept d1⟩;go_region_held3 (fun W'=>W'.cell? ⟨w.heap.size,0,none⟩=some (.string xm)∧W'.cell? ⟨w.heap.size,1,none⟩=some (.int .i64 xs)∧W'.cell? ⟨w.heap.size+1,0,none⟩=some (.string ym)∧W'.cell? ⟨w.heap.size+1,1,none⟩=some (.int .i64 ys))
  (first
   |exact ⟨e0,e1,d0,d1⟩
   |exact kp.out _)
  (first
   |(go_at_call 290;refine (HX.out _).mono ?_;rintro e w' ⟨rfl,rfl⟩)
   |(go_at_call 110;refine (HY.out _).mono ?_;rintro e w' ⟨rfl,rfl⟩)
   |(go_at_call 289;refine (HO.out _ _ ((RowAt.new _ _ _).cell 0) ((RowAt.new _ _ _).cell 1)).mono ?_;rintro e w' ⟨rfl,rfl⟩))
 all_goals
  go_wp2;go_ret;exact ⟨rfl,(below_drewN b0 1).alloc s0 _⟩
theorem rises_any (a:Option Addr) (b off n c:Nat) (L:List Rk) (w:World) (h:zdh w a b off n L) (hn:n≤1048577):
  Calls Tryz.prog 286 #[.slice a n c,.func (.func 261) #[] #[]] w fun e w'=>e= .returned (.bool ((List.range n).all (riAt L)))∧Below w.heap.size w w':=by
 have H:Hid (zdh w a b off n L):=h;clear h;go_enter Tryz.func286,Tryz.ntmps286;go_wp2;go_loopw [5] (fun i wr=>∃(k:Nat),1≤k∧(k≤n∨k=1)∧i= .int .i64 k∧Hid (∀j,j<k→riAt L j=true)∧Below w.heap.size w wr) (fun i _=>n-(intOf i).toNat)
 case atStart=>exact ⟨1,by omega,.inr rfl,rfl,(fun j hj=>by cases (by omega:j=0);rfl),Below.refl _ _⟩
 case round=>
  obtain ⟨k,hk1,hk,rfl,hp,bk⟩:=hrel;by_cases hlt:k<n
  ·have HW:=H.out.below bk;have hx:=HW.cell (k-1) (by omega);have hy:=HW.cell k hlt;obtain rfl:=HW.addr (by omega);have HS:Hid (riAt L k=decide (cmpR (L.getD (k-1) rk0) (L.getD k rk0)<0)):=by
    unfold Hid;rw [cmpR_less];unfold riAt;rw [decide_eq_false (by omega)];rfl
   have c0:=hx.c0;have c1:=hx.c1;have d0:=hy.c0;have d1:=hy.c1;generalize L.getD (k-1) rk0=x at*;generalize L.getD k rk0=y at*;have HC:Hid (∀W,Calls Tryz.prog 261 #[rkV x,rkV y] W fun e w'=>e= .returned (.int .i64 (cmpR x y))∧Below W.heap.size W w'):=fun W=>byScore_any x y W;generalize cmpR x y=z at*;obtain ⟨xm,xs⟩:=x;obtain ⟨ym,ys⟩:=y;have sk:=bk.size;have hb:=HW.low (by omega);clear HW hx hy;dsimp only at c0 c1 d0 d1;have hk2:(1:Int)≤(k:Int):=by omega
   have hk3:(0:Int)≤(k:Int)-1:=by omega
   have hk4:(k:Int)-1<(n:Int):=by omega
   have hk0:(0:Int)≤(k:Int):=by omega
   have hkn:(k:Int)<(n:Int):=by omega
   have htn:((k:Int)-1).toNat=k-1:=by omega
   have hw:IntKind.i64.wrap ((k:Int)-1)=(k:Int)-1:=wrap_small (by omega) (by omega);go_upto_region 4 with fail;go_region_held3 (fun W=>W.cell? ⟨b,off+(k-1)*2,none⟩=some (.string xm)∧W.cell? ⟨b,off+(k-1)*2+1,none⟩=some (.int .i64 xs)∧W.cell? ⟨b,off+k*2,none⟩=some (.string ym)∧W.cell? ⟨b,off+k*2+1,none⟩=some (.int .i64 ys))
    (first
     |exact ⟨c0,c1,d0,d1⟩
     |exact ⟨(b1.cell (p:=⟨b,_,none⟩) hb).trans c0,(b1.cell (p:=⟨b,_,none⟩) hb).trans c1,(b1.cell (p:=⟨b,_,none⟩) hb).trans d0,(b1.cell (p:=⟨b,_,none⟩) hb).trans d1⟩)
    (first
     |(go_at_call 261;refine (HC.out _).mono ?_;rintro e w1 ⟨rfl,b1⟩))
   have b2:Below w.heap.size w w1:=bk.trans ((Below.trans (below_drewN (Below.refl _ wr) 1) b1).mono sk);clear b1 htn hw hk3 hk4 c0 c1 d0 d1 HC hk0;by_cases hz:z<0
   ·have hd:decide (0≤z)=false:=decide_eq_false (by omega);have HP2:Hid (∀j,j<k+1→riAt L j=true):=fun j hj=>by
     by_cases e:j=k
     ·subst e;rw [HS.out,decide_eq_true hz]
     ·exact hp.out j (by omega)
    clear hp HS;go_wp2;go_roundw
    case rel=>exact ⟨k+1,by omega,.inl (by omega),by go_num,HP2,b2⟩
    case measure=>simp [intOf];omega
   ·have hd:decide (0≤z)=true:=decide_eq_true (by omega);have HF:Hid ((List.range n).all (riAt L)=false):=all_no hlt (by rw [HS.out,decide_eq_false hz]);clear hp HS;go_wp2;go_ret;exact ⟨zae HF.out.symm,b2⟩
  ·have HT:Hid ((List.range n).all (riAt L)=true):=all_yes fun j hj=>hp.out j (by omega);clear hp;go_wp2;go_ret;exact ⟨zae HT.out.symm,bk⟩
def okAt (L:List Rk) (i:Nat):Bool:=buAt L i&&(scAt L i&&(riAt L i&&frAt L i))
def zec (L:List Rk):Bool:=decide (L.length≤20)&&(List.range L.length).all (okAt L)
theorem fr_no {L:List Rk} {q i:Nat} (h:q<i) (he:(L.getD q rk0).m=(L.getD i rk0).m):frAt L i=false:=by
 unfold frAt;rw [Bool.not_eq_false',List.any_eq_true];exact ⟨q,List.mem_range.2 h,by simpa using he⟩
theorem fr_yes {L:List Rk} {i:Nat} (h:∀j,j<i→(L.getD j rk0).m≠(L.getD i rk0).m):frAt L i=true:=by
 unfold frAt;rw [Bool.not_eq_true',List.any_eq_false];intro j hj;simpa using h j (List.mem_range.1 hj)
theorem ranks_any (a:Option Addr) (b off n c:Nat) (L:List Rk) (w:World) (h:zdh w a b off n L) (hn:n≤1048577):
  Calls Tryz.prog 126 #[.slice a n c] w fun e w'=>e= .returned (.bool (zec L))∧Below w.heap.size w w':=by
 have H:Hid (zdh w a b off n L):=h;have HL:Hid (L.length=n):=h.len;clear h;by_cases h20:n≤20
 ·have g20:¬(20:Int)<(n:Int):=by omega
  have HE:Hid (zec L=(List.range n).all (okAt L)):=by
   unfold Hid zec;rw [HL.out,decide_eq_true h20,Bool.true_and]
  go_enter Tryz.func126,Tryz.ntmps126;go_wp2;go_loopw [3] (fun i wr=>∃(k:Nat),k≤n∧i= .int .i64 k∧Hid (∀j,j<k→okAt L j=true)∧Below w.heap.size w wr) (fun i _=>n-(intOf i).toNat)
  case atStart=>exact ⟨0,by omega,rfl,fun j hj=>by omega,Below.refl _ _⟩
  case round=>
   obtain ⟨k,hk,rfl,hp,bk⟩:=hrel;by_cases hlt:k<n
   ·have HW:=H.out.below bk;have hy:=HW.cell k hlt;obtain rfl:=HW.addr (by omega);have hb:=HW.low (by omega);have d0:=hy.c0;have d1:=hy.c1;have HOK:Hid (okAt L k=(buAt L k&&(scAt L k&&(riAt L k&&frAt L k)))):=rfl;have HNO:Hid (okAt L k=false→zec L=false):=fun hf=>by rw [HE.out];exact all_no hlt hf
    have HBU:Hid (buAt L k=decide ((L.getD k rk0).m.size≤200)):=rfl;have HSC:Hid (scAt L k=(decide (-1000000000000000000≤(L.getD k rk0).s)&&decide ((L.getD k rk0).s≤1000000000000000000))):=rfl;have HY:Hid (∃y,L.getD k rk0=y):=⟨_,rfl⟩;obtain ⟨y,hye⟩:=HY.out;have HYE:Hid (L.getD k rk0=y):=hye;rw [hye] at d0 d1 HBU HSC;obtain ⟨ym,ys⟩:=y;dsimp only at d0 d1;have sk:=bk.size;have hk0:(0:Int)≤(k:Int):=by omega
    have hkn:(k:Int)<(n:Int):=by omega
    clear HY hye hy;by_cases hsz:ym.size≤200
    ·have gsz:¬(200:Int)<(ym.size:Int):=by omega
     have HBU2:Hid (buAt L k=true):=HBU.out.trans (decide_eq_true hsz);clear HBU;have HIN:Hid (∀W,Calls Tryz.prog 50 #[.int .i64 ys,.int .i64 (-1000000000000000000),.int .i64 1000000000000000000] W fun e w'=>e= .returned (.bool (scAt L k))∧w'=W):=fun W=>by
      rw [HSC.out];exact in_any ys (-1000000000000000000) 1000000000000000000 W
     cases hsc:scAt L k with
     |false=>
      rw [hsc] at HIN;have HN2:Hid (zec L=false):=HNO.out (by rw [HOK.out,hsc];simp);clear HSC hsc HOK HNO hp HE HBU2 HW;go_upto_region 6 with fail;go_quiet ((exact Calls.quiet_of_same (HIN.out _)));go_wp2;go_ret;exact ⟨zae HN2.out.symm,below_drewN bk _⟩
     |true=>
      rw [hsc] at HIN;have HOK2:Hid (okAt L k=(riAt L k&&frAt L k)):=by unfold Hid;rw [HOK.out,HBU2.out,hsc];rfl
      clear HSC hsc HOK HBU2;go_upto_region 6 with fail;go_cut [46] from 8 to 155 (fun x wx=>x= .bool (!riAt L k)∧Below w.heap.size w wx)
      case first=>
       by_cases hk1:k=0
       ·have HRI:Hid (riAt L k=true):=by unfold Hid riAt;rw [decide_eq_true hk1];rfl
        have g1:decide ((0:Int)<(k:Int))=false:=decide_eq_false (by omega);have g2:decide (0<k)=false:=decide_eq_false (by omega);clear HOK2 HNO hp HE HW hk1;go_quiet ((exact Calls.quiet_of_same (HIN.out _)));go_step;go_step;go_meet
        case rel=>exact ⟨by rw [HRI.out];rfl,below_drewN bk _⟩
       ·have g1:decide ((0:Int)<(k:Int))=true:=decide_eq_true (by omega);have g2:decide (0<k)=true:=decide_eq_true (by omega);have HRI:Hid (riAt L k=aheadB (L.getD (k-1) rk0) (L.getD k rk0)):=by
         unfold Hid riAt;rw [decide_eq_false hk1];rfl
        have hx:=HW.cell (k-1) (by omega);have c0:=hx.c0;have c1:=hx.c1;rw [HYE.out] at HRI;generalize L.getD (k-1) rk0=x at*;obtain ⟨ri,hri⟩:∃ri,riAt L k=ri:=⟨_,rfl⟩;have HRE:Hid (riAt L k=ri):=hri;have HAH:Hid (∀W,Calls Tryz.prog 104 #[rkV x,rkV ⟨ym,ys⟩] W fun e w'=>e= .returned (.bool ri)∧Below W.heap.size W w'):=fun W=>by
         rw [←hri,HRI.out];exact ahead_any x ⟨ym,ys⟩ W
        clear hri;obtain ⟨xm,xs⟩:=x;dsimp only at c0 c1;have hk2:(1:Int)≤(k:Int):=by omega
        have hk3:(0:Int)≤(k:Int)-1:=by omega
        have hk4:(k:Int)-1<(n:Int):=by omega
        have htn:((k:Int)-1).toNat=k-1:=by omega
        have hw:IntKind.i64.wrap ((k:Int)-1)=(k:Int)-1:=wrap_small (by omega) (by omega);clear HOK2 HNO hp HE HW hk1 HRI hx;go_region_held3 (fun W=>W.cell? ⟨b,off+(k-1)*2,none⟩=some (.string xm)∧W.cell? ⟨b,off+(k-1)*2+1,none⟩=some (.int .i64 xs)∧W.cell? ⟨b,off+k*2,none⟩=some (.string ym)∧W.cell? ⟨b,off+k*2+1,none⟩=some (.int .i64 ys))
         (first
          |exact ⟨c0,c1,d0,d1⟩
          |exact ⟨(b1.cell (p:=⟨b,_,none⟩) hb).trans c0,(b1.cell (p:=⟨b,_,none⟩) hb).trans c1,(b1.cell (p:=⟨b,_,none⟩) hb).trans d0,(b1.cell (p:=⟨b,_,none⟩) hb).trans d1⟩)
         (first
          |(go_at_call 50;refine (HIN.out _).mono ?_;rintro e w1 ⟨rfl,rfl⟩)
          |(go_at_call 104;refine (HAH.out _).mono ?_;rintro e w1 ⟨rfl,b1⟩))
        all_goals
         go_step;go_step;go_meet
         case rel=>exact ⟨by rw [HRE.out],bk.trans ((Below.trans (below_drewN (Below.refl _ wr) 1) b1).mono sk)⟩
      case rest=>
       obtain ⟨rfl,bw⟩:=hcut;clear HIN d0 d1 HW hb bk sk;have sw:=bw.size;generalize hnn:(!riAt L k)=nn;cases nn with
       |true=>
        have HN2:Hid (zec L=false):=HNO.out (by
         have hr:riAt L k=false:=by simpa using hnn
         rw [HOK2.out,hr];rfl)
        clear hnn HOK2 HNO hp HE;go_wp2;go_ret;exact ⟨zae HN2.out.symm,bw⟩
       |false=>
        have HOK3:Hid (okAt L k=frAt L k):=by
         have hr:riAt L k=true:=by simpa using hnn
         unfold Hid;rw [HOK2.out,hr];rfl
        clear hnn HOK2;go_wp2_with fail;go_loopw [4] (fun i wr=>∃(q:Nat),q≤k∧i= .int .i64 q∧Hid (∀j,j<q→(L.getD j rk0).m≠ym)∧Below w.heap.size w wr) (fun i _=>k-(intOf i).toNat)
        case atStart=>exact ⟨0,by omega,rfl,fun j hj=>by omega,bw⟩
        case round=>
         obtain ⟨q,hq,rfl,hpq,bq⟩:=hrel;by_cases hql:q<k
         ·have HWq:=H.out.below bq;have e0:=(HWq.cell q (by omega)).c0;have d0:=(HWq.cell k hlt).c0;rw [HYE.out] at d0;have HX:Hid (∃x,(L.getD q rk0).m=x):=⟨_,rfl⟩;obtain ⟨xm,hxe⟩:=HX.out;have HXE:Hid ((L.getD q rk0).m=xm):=hxe;rw [hxe] at e0;dsimp only at d0;have hq0:(0:Int)≤(q:Int):=by omega
          have hqn:(q:Int)<(n:Int):=by omega
          clear HWq HX hxe;by_cases he:xm=ym
          ·have HN2:Hid (zec L=false):=HNO.out (by rw [HOK3.out];exact fr_no hql (by rw [HXE.out,HYE.out];exact he));have hd:(xm.toList==ym.toList)=true:=by rw [str_eq,decide_eq_true he]
           clear HNO HOK3 hp hpq HE HYE HXE he;go_upto_region 11 with fail;go_quiet ((fail));go_wp2;go_ret;exact ⟨zae HN2.out.symm,below_drewN bq _⟩
          ·have HP2:Hid (∀j,j<q+1→(L.getD j rk0).m≠ym):=fun j hj=>by
            by_cases e:j=q
            ·subst e;rw [HXE.out];exact he
            ·exact hpq.out j (by omega)
           have hd:=str_ne he;clear HNO HOK3 hp hpq HE HYE HXE he;go_upto_region 11 with fail;go_quiet ((fail));go_wp2;go_roundw
           case rel=>exact ⟨q+1,by omega,by go_num,HP2,below_drewN bq _⟩
           case measure=>simp [intOf];omega
         ·obtain rfl:q=k:=by omega
          have HP2:Hid (∀j,j<q+1→okAt L j=true):=fun j hj=>by
           by_cases e:j=q
           ·subst e;rw [HOK3.out];exact fr_yes fun i hi=>by rw [HYE.out];exact hpq.out i hi
           ·exact hp.out j (by omega)
          clear HNO HOK3 hp hpq HE HYE;go_wp2;go_roundw
          case rel=>exact ⟨q+1,by omega,by go_num,HP2,bq⟩
          case measure=>simp [intOf];omega
    ·have gsz:(200:Int)<(ym.size:Int):=by omega
     have HN2:Hid (zec L=false):=HNO.out (by rw [HOK.out,HBU.out,decide_eq_false hsz];rfl);clear HBU HSC HOK HNO hp HE HW;go_upto_region 6 with fail;go_quiet (fail);go_wp2;go_ret;exact ⟨zae HN2.out.symm,below_drewN bk _⟩
   ·obtain rfl:k=n:=by omega
    have HT:Hid (zec L=true):=by unfold Hid;rw [HE.out];exact all_yes hp.out
    clear hp HE;go_wp2;go_ret;exact ⟨zae HT.out.symm,bk⟩
 ·have g20:(20:Int)<(n:Int):=by omega
  have HE:Hid (zec L=false):=by
   unfold Hid zec;rw [HL.out,decide_eq_false h20,Bool.false_and]
  go_enter Tryz.func126,Tryz.ntmps126;go_wp2;go_ret;exact ⟨zae HE.out.symm,Below.refl _ _⟩
theorem info30:(Tryz.prog.info? 102).map (fun i=> (i.zero,i.size,i.bytes))=some (some (.agg #[.string ⟨#[]⟩,.int .i64 0]),2,24):=by kernel_rfl
def encR (x:Rk):List Value:=[.string x.m,.int .i64 x.s]
def flatR (L:List Rk):List Value:=L.flatMap encR
theorem flatR_len (L:List Rk):(flatR L).length=L.length*2:=by
 unfold flatR;induction L with
 |nil=>rfl
 |cons x l ih=>rw [List.flatMap_cons,List.length_append,ih,List.length_cons];show 2+l.length*2=_;omega
theorem flatR_app (L M:List Rk):flatR (L++M)=flatR L++flatR M:=List.flatMap_append
abbrev OwnR (w:World) (B:Nat) (v:Value) (L:List Rk):Prop:=w.ownsRow B 102 2 v L.length (flatR L)
theorem ownR_none (w:World) (B:Nat) (hB:B≤w.heap.size):OwnR (w.alloc (.cells #[] 102)) B (.slice (some ⟨w.heap.size,0,none⟩) 0 0) []:=
 ⟨rfl,.inr ⟨w.heap.size,0, #[],rfl,hB,RowAt.new w 102 #[],by simp,by unfold maxLen;omega,by simp,by simp [flatR]⟩⟩
theorem below_grown {B:Nat} {w w1 w2:World} {r:Option Nat} (b:Below B w w1) (g:w1.grownBy w2 r) (hr:∀x,r=some x→B≤x) (hB:B≤w1.heap.size):Below B w w2:=
 ⟨g.os.trans b.os,g.tape.trans b.tape,g.output.trans b.output,Nat.le_trans b.size g.size,fun k hk=> (g.block k (by omega) (fun e=>by have:=hr k e.symm;omega)).trans (b.block k hk)⟩
theorem OwnR.below {w w':World} {B:Nat} {v:Value} {L:List Rk} (h:OwnR w B v L) (hb:Below w.heap.size w w'):OwnR w' B v L:=by
 obtain ⟨h1,⟨e1,e2⟩|⟨g,cap,cur,e1,h2,h3,h4⟩⟩:=h
 ·exact ⟨h1,.inl ⟨e1,e2⟩⟩
 ·exact ⟨h1,.inr ⟨g,cap,cur,e1,h2,(hb.block g (RowAt.lt (T:=102) (C:=cur) h3)).trans h3,h4⟩⟩
theorem flatR_at (L:List Rk) (i:Nat) (h:i<L.length):(flatR L)[i*2]?=some (.string (L.getD i rk0).m)∧(flatR L)[i*2+1]?=some (.int .i64 (L.getD i rk0).s):=by
 induction L generalizing i with
 |nil=>simp at h
 |cons x l ih=>
  cases i with
  |zero=>exact ⟨rfl,rfl⟩
  |succ i=>
   have:=ih i (by simpa using h);have e:flatR (x::l)= .string x.m:: .int .i64 x.s::flatR l:=rfl;have e2:(i+1)*2=i*2+1+1:=by omega
   rw [e,e2];simpa using this
theorem ownR_at {w:World} {B A cap:Nat} {L:List Rk} (h:OwnR w B (.slice (some ⟨A,0,none⟩) L.length cap) L) (i:Nat) (hi:i<L.length):RkAt w A (i*2) (L.getD i rk0):=by
 obtain ⟨f0,f1⟩:=flatR_at L i hi;have c0:=h.cells rfl _ _ f0;have c1:=h.cells rfl _ _ f1;rw [Addr.add_lit,Nat.zero_add] at c0 c1;exact ⟨c0,c1⟩
def shortAt (T:List ByteArray) (i:Nat):Bool:=decide ((T.getD i ByteArray.empty).size≤200)
theorem bulks_any (a:Option Addr) (A n c:Nat) (T:List ByteArray) (w:World) (ha:0<n→a=some ⟨A,0,none⟩) (hc:∀i,i<n→w.cell? ⟨A,i,none⟩=some (.string (T.getD i ByteArray.empty))) (hn:n≤1048577):
  Calls Tryz.prog 78 #[.slice a n c] w fun e w'=>e= .returned (.bool ((List.range n).all (shortAt T)))∧w'=w:=by
 have HA:Hid (0<n→a=some ⟨A,0,none⟩):=ha;have HC:Hid (∀i,i<n→w.cell? ⟨A,i,none⟩=some (.string (T.getD i ByteArray.empty))):=hc;clear ha hc;go_enter Tryz.func78,Tryz.ntmps78;go_wp2;go_loopw [7] (fun i wr=>∃(k:Nat),k≤n∧i= .int .i64 k∧Hid (∀j,j<k→shortAt T j=true)∧wr=w) (fun i _=>n-(intOf i).toNat)
 case atStart=>exact ⟨0,by omega,rfl,fun j hj=>by omega,rfl⟩
 case round=>
  obtain ⟨k,hk,rfl,hp,rfl⟩:=hrel;by_cases hlt:k<n
  ·have c0:=HC.out k hlt;obtain rfl:=HA.out (by omega);have HS:Hid (shortAt T k=decide ((T.getD k ByteArray.empty).size≤200)):=rfl;generalize T.getD k ByteArray.empty=t at*;by_cases hsz:t.size≤200
   ·have gsz:¬(200:Int)<(t.size:Int):=by omega
    have HP2:Hid (∀j,j<k+1→shortAt T j=true):=fun j hj=>by
     by_cases e:j=k
     ·subst e;rw [HS.out,decide_eq_true hsz]
     ·exact hp.out j (by omega)
    clear hp HS;go_wp2;go_roundw
    case rel=>exact ⟨k+1,by omega,by go_num,HP2,trivial⟩
    case measure=>simp [intOf];omega
   ·have gsz:(200:Int)<(t.size:Int):=by omega
    have HF:Hid ((List.range n).all (shortAt T)=false):=all_no hlt (by rw [HS.out,decide_eq_false hsz]);clear hp HS;go_wp2;go_ret;exact ⟨zae HF.out.symm,rfl⟩
  ·obtain rfl:k=n:=by omega
   have HT:Hid ((List.range k).all (shortAt T)=true):=all_yes hp.out;clear hp;go_wp2;go_ret;exact ⟨zae HT.out.symm,rfl⟩
end Go.Proofs.YtibhabajknikcaaGreatDoor.Kk
