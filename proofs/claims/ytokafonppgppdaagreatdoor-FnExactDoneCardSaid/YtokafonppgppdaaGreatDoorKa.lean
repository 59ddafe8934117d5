import Derived.Test.YtokafonppgppdaaGreatDoorProg
import Derived.WalkSpells
import Derived.WalkLawsBesides
import Derived.BigQuiet
import Derived.Lib.SmallJoins
import Derived.Lib.Bytealg
import Derived.Deep.RegionHeld3
import Derived.Lib.QuietBelow
import Derived.Deep.CutRange
import Derived.Shelf.Strings.BuilderK
import Derived.Shelf.Strconv.Itoa4
import Derived.Shelf.Strconv.ErrVarParseInt
import Derived.Deep.RegionHeldLaw
set_option maxHeartbeats 4000000
set_option maxRecDepth 100000
namespace Go.Proofs.YtokafonppgppdaaGreatDoor
section
open Go.RowKit
theorem hid {p:Prop} (h:p):Hid p:=h
abbrev Bl (w W:World):Prop:=RowKit.Below w.heap.size w W
abbrev Cp:=Calls Tryz.prog
theorem Qa {α:Type _} {l:List α} {i:Nat} {a:α}:l.getD i a=l[i]?.getD a:=List.getD_eq_getElem?_getD
theorem Qb (B:Nat) (w:World):RowKit.Below B w w:=Below.refl B w
theorem Qc (n:Nat):n≤n:=Nat.le_refl n
theorem Qd {α:Type _} {l:List α} {i:Nat} (h:i<l.length):l[i]?=some l[i]:=List.getElem?_eq_getElem h
theorem Qe {p:Prop} [Decidable p] (h:p):decide p=true:=decide_eq_true h
theorem Qf {p:Prop} [Decidable p] (h:¬p):decide p=false:=decide_eq_false h
theorem Qg {p:Prop} [Decidable p] (h:decide p=true):p:=of_decide_eq_true h
theorem Qh (a b:Bool):((a&&b)=true)=(a=true∧b=true):=Bool.and_eq_true a b
theorem Qi {α:Type _} {xs ys:List α}:(xs++ys).length=xs.length+ys.length:=List.length_append
theorem Qj {n m k:Nat} (h:n≤m) (h2:m≤k):n≤k:=Nat.le_trans h h2
theorem Qk {α:Type _} {a:α} {l:List α}:(a::l)[0]?=some a:=List.getElem?_cons_zero
theorem Ql {α:Type _} {a:α} {i:Nat} {l:List α}:(a::l)[i+1]?=l[i]?:=List.getElem?_cons_succ
theorem Qm {α:Type _} {xs:List α} {i:Nat}:xs.toArray[i]?=xs[i]?:=List.getElem?_toArray
theorem Qn {α:Type _} {i:Nat} {l:List α}:(l.take i).length=min i l.length:=List.length_take
theorem Qo {α:Type _} {i:Nat} {l:List α} (h:i<l.length):l.take (i+1)=l.take i++ [l[i]]:=List.take_succ_eq_append_getElem h
theorem Qp {α:Type _} {β:Type _} {xs:List α} (f:α→β):(xs.map f).length=xs.length:=List.length_map f
theorem Qq (n:Nat):0+n=n:=Nat.zero_add n
theorem Qr {n m k:Nat} (h:n<m) (h2:m≤k):n<k:=Nat.lt_of_lt_of_le h h2
theorem Qs (n:Nat):0≤n:=Nat.zero_le n
theorem Qt {α:Type _} (p:α→Bool) (l:List α):(l.filter p).length≤l.length:=List.length_filter_le p l
theorem Qu {α:Type _} {i:Nat} {l:List α}:(l.drop i).length=l.length-i:=List.length_drop
theorem Qv {α:Type _} {l:List α} {n:Nat} (h:n<l.length):l[n]∈l:=List.getElem_mem h
theorem Qw {α:Type _} {p:α→Bool} {l:List α}:l.all p=true↔∀x,x∈l→p x=true:=List.all_eq_true
theorem Qy (n:Nat):n+0=n:=Nat.add_zero n
theorem Qz (b:Bool):(true&&b)=b:=Bool.true_and b
theorem Q0 (b:Bool):(false&&b)=false:=Bool.false_and b
theorem Q1 {α:Type _} {a:α} {xs:List α}:(a::xs).length=xs.length+1:=List.length_cons
end
namespace Kk
open Tryz
open _root_.ByteArray (empty)
open Go.RowKit Go.Sort
variable {w w':World} {b B n g i:Nat} {P:Nat->Bool} {T:TypeId} {C:Array Value} {v:Value}
theorem F0{a b:Bool}(h:a=b):Ending.returned (.bool a)=.returned (.bool b):=by rw[h]
theorem Pm{a b:Int}(h:a=b):Ending.returned (.int .i64 a)=.returned (.int .i64 b):=by rw[h]
structure Rk where
 m:ByteArray
 s:Int
def rk0:Rk:=⟨empty,0⟩
abbrev rkV (x:Rk):Value:= .agg #[.string x.m,.int .i64 x.s]
theorem yio(n low high:Int)(w:World):
  Calls prog 52 #[.int .i64 n,.int .i64 low,.int .i64 high] w fun e w'=>e=.returned (.bool (decide (low<=n)&&decide (n<=high)))/\w'=w:=by
 by_cases h1:low<=n
 ·rw[Qe h1,Qz];go_enter func52,ntmps52;go_wp2;go_ret;exact⟨rfl,rfl⟩
 ·rw[Qf h1,Q0];go_enter func52,ntmps52;go_wp2;go_ret;exact⟨rfl,rfl⟩
theorem zvz(n:Int)(w:World):
  Calls prog 113 #[.int .i64 n] w fun e w'=>e=.returned (.bool (decide (-1000000000000000000<=n)&&decide (n<=1000000000000000000)))/\w'=w:=by
 by_cases h1:(-1000000000000000000:Int)<=n
 ·rw[Qe h1,Qz];go_enter func113,ntmps113;go_wp2;go_ret;exact⟨rfl,rfl⟩
 ·rw[Qf h1,Q0];go_enter func113,ntmps113;go_wp2;go_ret;exact⟨rfl,rfl⟩
theorem K3(n:Nat)(w:World):
  Calls prog 302 #[.int .i64 n] w fun e w'=>e=.returned (.bool (decide (1<=n)&&decide (n<=20)))/\w'=w:=by
 by_cases h1:1<=n
 ·have h2:(1:Int)<=n:=by omega
  rw[Qe h1,Qz];go_enter func302,ntmps302;go_wp2;go_ret;exact⟨F0 (by simp;omega),rfl⟩
 ·have h2:¬(1:Int)<=n:=by omega
  rw[Qf h1,Q0];go_enter func302,ntmps302;go_wp2;go_ret;exact⟨rfl,rfl⟩
def La (x y:Rk):Bool:=decide (x.s<y.s)||(decide (x.s=y.s)&&Op.bytesLess x.m.toList y.m.toList)
theorem zp0(x y:Rk)(w:World):
  Calls prog 167 #[rkV x,rkV y] w fun e w'=>e=.returned (.bool (La x y))/\Bl w w':=by
 have HB:Hid (∀a b:Array Value,Bl w ((w.alloc (.cells a 147)).alloc (.cells b 147))):=fun a b=>((Qb _ w).alloc (Qc _) _).alloc (by simp) _;obtain⟨xm,xs⟩:=x;obtain⟨ym,ys⟩:=y;by_cases h1:xs<ys
 ·have HE:Hid (La ⟨xm,xs⟩ ⟨ym,ys⟩=true):=by unfold Hid La;rw[Qe h1];rfl
  go_enter func167,ntmps167;go_wp2;go_ret;exact⟨F0 HE.out.symm,HB.out _ _⟩
 ·by_cases h2:xs=ys
  ·subst h2;have HE:Hid (La ⟨xm,xs⟩ ⟨ym,xs⟩=Op.bytesLess xm.toList ym.toList):=by unfold Hid La;rw[Qf h1,Qe rfl];rfl
   clear h1;go_enter func167,ntmps167;go_wp2;go_ret;exact⟨F0 HE.out.symm,HB.out _ _⟩
  ·have HE:Hid (La ⟨xm,xs⟩ ⟨ym,ys⟩=false):=by unfold Hid La;rw[Qf h1,Qf h2];rfl
   have h3:(xs==ys)=false:=beq_eq_false_iff_ne.2 h2;go_enter func167,ntmps167;go_wp2;go_ret;exact⟨F0 HE.out.symm,HB.out _ _⟩
structure Dp (w:World) (b o:Nat) (x:Rk):Prop where
 c0:w.cell? ⟨b,o,none⟩=some (.string x.m)
 c1:w.cell? ⟨b,o+1,none⟩=some (.int .i64 x.s)
structure F7 (w:World) (a:Option Addr) (b off n:Nat) (L:List Rk):Prop where
 len:L.length=n
 addr:0<n->a=some ⟨b,off,none⟩
 low:0<n->b<w.heap.size
 cell:∀i,i<n->Dp w b (off+i*2) (L.getD i rk0)
theorem yds{o:Nat}{x:Rk}(h:Dp w b o x)(hl:b<B)(hb:Below B w w'):Dp w' b o x:=
 ⟨(hb.cell (p:=⟨b,o,none⟩) hl).trans h.c0,(hb.cell (p:=⟨b,o+1,none⟩) hl).trans h.c1⟩
theorem F7.bw{a:Option Addr}{off:Nat}{L:List Rk}(h:F7 w a b off n L)(hb:Bl w w'):F7 w' a b off n L:=
 ⟨h.len,h.addr,fun h0=>by have:=h.low h0;have:=hb.size;omega,fun i hi=>yds (h.cell i hi) (h.low (by omega)) hb⟩
theorem R5(h:∀j,j<n->P j=true):(List.range n).all P=true:=by
 rw[Qw];exact fun j hj=>h j (List.mem_range.1 hj)
theorem Rz{k:Nat}(hk:k<n)(h:P k=false):(List.range n).all P=false:=by
 rw[List.all_eq_false];exact⟨k,List.mem_range.2 hk,by rw[h];simp⟩
def L7 (x:Rk):Bool:=decide (-1000000000000000000<=x.s)&&decide (x.s<=1000000000000000000)
def N5 (L:List Rk) (i:Nat):Bool:=decide ((L.getD i rk0).m.size<=200)
def Mt (L:List Rk) (i:Nat):Bool:=L7 (L.getD i rk0)
def Lj (L:List Rk) (i:Nat):Bool:=decide (i=0)||La (L.getD (i-1) rk0) (L.getD i rk0)
def Lz (L:List Rk) (i:Nat):Bool:=!((List.range i).any fun k=>decide ((L.getD k rk0).m=(L.getD i rk0).m))
theorem zxb(a:Option Addr)(b off n c:Nat)(L:List Rk)(w:World)(h:F7 w a b off n L)(hn:n<=1048577):
  Calls prog 304 #[.slice a n c] w fun e w'=>e=.returned (.bool ((List.range n).all (Mt L)))/\Bl w w':=by
 have H:Hid (F7 w a b off n L):=h;clear h;go_enter func304,ntmps304;go_wp2;go_loopw [7] (fun i wr=>∃(k:Nat),k<=n/\i=.int .i64 k/\Hid (∀j,j<k->Mt L j=true)/\Bl w wr) (fun i _=>n-(intOf i).toNat)
 case atStart=>exact⟨0,by omega,rfl,fun j hj=>by omega,Qb _ _⟩
 case round=>
  obtain⟨k,hk,rfl,hp,bk⟩:=hrel;by_cases hlt:k<n
  ·have HW:=H.out.bw bk;have hx:=HW.cell k hlt;obtain rfl:=HW.addr (by omega);have c0:=hx.c0;have c1:=hx.c1;have HS:Hid (Mt L k=L7 (L.getD k rk0)):=rfl;generalize L.getD k rk0=x at*;obtain⟨m,s⟩:=x;have HN:=fun W=>zvz s W;have sk:=bk.size;have b1:Bl w (wr.alloc (.cells #[.string m,.int .i64 s] 147)):=bk.alloc sk _;clear HW hx;dsimp only at c0 c1;go_wp2_with fail;refine(HN _).mono ?_;rintro e w1⟨rfl,rfl⟩;clear HN;have Ga:Hid (Mt L k=(decide (-1000000000000000000<=s)&&decide (s<=1000000000000000000))):=HS.out;clear HS;generalize(decide (-1000000000000000000<=s)&&decide (s<=1000000000000000000))=ok at*;cases ok with
   |true=>
    have Gb:Hid (∀j,j<k+1->Mt L j=true):=fun j hj=>by
     by_cases e:j=k
     ·subst e;exact Ga.out
     ·exact hp.out j (by omega)
    clear hp;go_wp2;go_roundw
    case rel=>exact⟨k+1,by omega,by go_num,Gb,b1⟩
    case measure=>simp[intOf];omega
   |false=>
    have HF:Hid ((List.range n).all (Mt L)=false):=Rz hlt Ga.out;clear hp;go_wp2;go_ret;exact⟨F0 HF.out.symm,b1⟩
  ·obtain rfl:k=n:=by omega
   have HT:Hid ((List.range k).all (Mt L)=true):=R5 hp.out;clear hp;go_wp2;go_ret;exact⟨F0 HT.out.symm,bk⟩
def Fc (w:World) (g:Nat) (T:TypeId) (C:Array Value):Prop:=w.heap[g]?=some (.cells C T (0,0))
theorem Fc.cell(h:Fc w g T C)(j:Nat):w.cell? ⟨g,j,none⟩=C[j]?:=Lib.cell_of_heap h j
theorem Fc.lt(h:Fc w g T C):g<w.heap.size:=(Array.getElem?_eq_some_iff.1 h).1
theorem Fc.new(w:World)(T:TypeId)(C:Array Value):Fc (w.alloc (.cells C T)) w.heap.size T C:=by
 show(w.heap.push (.cells C T (0,0)))[w.heap.size]?=_;simp
theorem Fc.bw(h:Fc w g T C)(hb:Below B w w')(hg:g<B):Fc w' g T C:=(hb.block g hg).trans h
theorem Le{a b:ByteArray}(h:¬a=b):(a.toList==b.toList)=false:=by
 rw[beq_eq_false_iff_ne,ByteArray.toList_eq,ByteArray.toList_eq];intro e;exact h (ByteArray.ext (Array.toList_inj.1 e))
theorem str_eq(a b:ByteArray):(a.toList==b.toList)=decide (a=b):=by
 by_cases h:a=b
 ·subst h;simp
 ·rw[Le h,Qf h]
theorem yd3(x:Rk)(m:ByteArray)(g:Nat)(w:World)(hg:w.cell? ⟨g,0,none⟩=some (.string m))(hlt:g<w.heap.size):
  Calls prog 283 #[rkV x,.pointer (some ⟨g,0,none⟩)] w fun e w'=>e=.returned (.bool (decide (x.m=m)))/\Bl w w':=by
 obtain⟨xm,xs⟩:=x;have b0:Bl w (w.alloc (.cells #[.string xm,.int .i64 xs] 147)):=(Qb _ w).alloc (Qc _) _;have Ga:(w.alloc (.cells #[.string xm,.int .i64 xs] 147)).cell? ⟨g,0,none⟩=some (.string m):=(b0.cell (p:=⟨g,0,none⟩) hlt).trans hg;have HE:Hid ((xm.toList==m.toList)=decide (xm=m)):=str_eq xm m;go_enter func283,ntmps283;go_wp2;go_ret;exact⟨F0 HE.out,b0⟩
def U3 (L:List Rk) (m:ByteArray) (n:Nat) (r:Int):Prop:=
 (∃k:Nat,r=k/\k<n/\(L.getD k rk0).m=m/\∀j,j<k->(L.getD j rk0).m≠m)\/(r= -1/\∀j,j<n->(L.getD j rk0).m≠m)
section
variable (a:Option Addr) (b off n c:Nat) (L:List Rk) (m:ByteArray)
theorem yao(g:Nat)(w:World)(h:F7 w a b off n L)(hn:n<=1048577)(hg:w.cell? ⟨g,0,none⟩=some (.string m))(hg2:g<w.heap.size):
  Calls prog 282 #[.slice a n c,.func (.func 283) #[] #[.pointer (some ⟨g,0,none⟩)]] w fun e w'=>(∃r:Int,e=.returned (.int .i64 r)/\U3 L m n r)/\Bl w w':=by
 have H:Hid (F7 w a b off n L):=h;have HG:Hid (w.cell? ⟨g,0,none⟩=some (.string m)):=hg;clear h hg;go_enter func282,ntmps282;go_wp2;go_loopw [8] (fun i wr=>∃(k:Nat),k<=n/\i=.int .i64 k/\Hid (∀j,j<k->(L.getD j rk0).m≠m)/\Bl w wr) (fun i _=>n-(intOf i).toNat)
 case atStart=>exact⟨0,by omega,rfl,fun j hj=>by omega,Qb _ _⟩
 case round=>
  obtain⟨k,hk,rfl,hp,bk⟩:=hrel;by_cases hlt:k<n
  ·have HW:=H.out.bw bk;have hx:=HW.cell k hlt;obtain rfl:=HW.addr (by omega);have c0:=hx.c0;have c1:=hx.c1;have sk:=bk.size;have Gb:wr.cell? ⟨g,0,none⟩=some (.string m):=(bk.cell (p:=⟨g,0,none⟩) hg2).trans HG.out;have HS:Hid (∃x,L.getD k rk0=x):=⟨_,rfl⟩;obtain⟨x,Ga⟩:=HS.out;have HX:Hid (L.getD k rk0=x):=Ga;rw[Ga]at c0 c1;have HC:=yd3 x m g wr Gb (by omega);clear HW hx HS Ga;obtain⟨xm,xs⟩:=x;dsimp only at c0 c1;go_wp2_with fail;refine HC.mono ?_;rintro e w1⟨rfl,b1⟩;have b2:=bk.trans (b1.mono sk);clear HC b1;dsimp only;by_cases he:xm=m
   ·have HT:Hid (U3 L m n k):=.inl ⟨k,rfl,hlt,by rw[HX.out];exact he,hp.out⟩;have hd:decide (xm=m)=true:=Qe he;clear hp;go_wp2;go_ret;exact⟨⟨_,rfl,HT.out⟩,b2⟩
   ·have Gc:Hid (∀j,j<k+1->(L.getD j rk0).m≠m):=fun j hj=>by
     by_cases e:j=k
     ·subst e;rw[HX.out];exact he
     ·exact hp.out j (by omega)
    have hd:decide (xm=m)=false:=Qf he;clear hp;go_wp2;go_roundw
    case rel=>exact⟨k+1,by omega,by go_num,Gc,b2⟩
    case measure=>simp[intOf];omega
  ·obtain rfl:k=n:=by omega
   have HT:Hid (U3 L m k (-1)):=.inr ⟨rfl,hp.out⟩;clear hp;go_wp2;go_ret;exact⟨⟨_,rfl,HT.out⟩,bk⟩
theorem zqi(w:World)(h:F7 w a b off n L)(hn:n<=1048577):
  Calls prog 258 #[.slice a n c,.string m] w fun e w'=>(∃r:Int,e=.returned (.int .i64 r)/\U3 L m n r)/\Bl w w':=by
 have b0:Bl w (w.alloc (.cells #[.string m] 9)):=(Qb _ w).alloc (Qc _) _;have q0:=Fc.new w 9 #[.string m];have HI:=yao a b off n c L m w.heap.size (w.alloc (.cells #[.string m] 9)) (h.bw b0) hn (q0.cell 0) q0.lt;have sk:=b0.size;clear h;go_enter func258,ntmps258;go_wp2_with fail;refine HI.mono ?_;rintro e w1⟨⟨r,rfl,hr⟩,b1⟩;have b2:=b0.trans (b1.mono sk);have HR:Hid (U3 L m n r):=hr;clear HI b1 hr;go_wp2;go_ret;exact⟨⟨r,rfl,HR.out⟩,b2⟩
end
theorem zs7{L:List Rk}{r:Int}(hi:i<n)(h:U3 L (L.getD i rk0).m n r):Lz L i=decide (r=i):=by
 rcases h with⟨k,rfl,hk,he,hj⟩|⟨rfl,hj⟩
 ·by_cases hik:i<k
  ·exact absurd rfl (hj i hik)
  ·by_cases e:k=i
   ·subst e;rw[Qe rfl];unfold Lz;rw[Bool.not_eq_true'];rw[List.any_eq_false];intro j hj2;simpa using hj j (List.mem_range.1 hj2)
   ·rw[Qf (by omega)];unfold Lz;rw[Bool.not_eq_false'];rw[List.any_eq_true];exact⟨k,List.mem_range.2 (by omega),by simpa using he⟩
 ·exact absurd rfl (hj i hi)
theorem zwn(a:Option Addr)(b off n c:Nat)(L:List Rk)(w:World)(h:F7 w a b off n L)(hn:n<=1048577):
  Calls prog 306 #[.slice a n c] w fun e w'=>e=.returned (.bool ((List.range n).all (Lz L)))/\Bl w w':=by
 have H:Hid (F7 w a b off n L):=h;clear h;go_enter func306,ntmps306;go_wp2;go_loopw [7] (fun i wr=>∃(k:Nat),k<=n/\i=.int .i64 k/\Hid (∀j,j < k->Lz L j=true)/\Bl w wr) (fun i _=>n - (intOf i).toNat)
 case atStart=>exact⟨0,by omega,rfl,fun j hj=>by omega,Qb _ _⟩
 case round=>
  obtain⟨k,hk,rfl,hp,bk⟩:=hrel;by_cases hlt:k < n
  ·have HW:=H.out.bw bk;have hx:=HW.cell k hlt;obtain rfl:=HW.addr (by omega);have c0:=hx.c0;have c1:=hx.c1;have HF:Hid (∀r:Int,U3 L (L.getD k rk0).m n r->Lz L k=decide (r=k)):=fun r=>zs7 hlt;generalize L.getD k rk0=x at*;obtain⟨m,s⟩:=x;have sk:=bk.size;have b0:Bl wr (wr.alloc (.cells #[.string m,.int .i64 s] 147)):=(Qb _ _).alloc (Qc _) _;have s0:=b0.size;have Ga:=zqi _ b off n c L m (wr.alloc (.cells #[.string m,.int .i64 s] 147)) (HW.bw b0) hn;have b1:=bk.trans (b0.mono sk);clear HW hx b0;dsimp only at c0 c1;go_wp2_with fail;refine Ga.mono ?_;rintro e w1⟨⟨r,rfl,hr⟩,b2⟩;have b3:=b1.trans (b2.mono (by omega));have HS:Hid (Lz L k=decide (r=k)):=HF.out r hr;clear Ga HF hr b2 b1;by_cases he:r=k
   ·have Gb:Hid (∀j,j < k+1->Lz L j=true):=fun j hj=>by
     by_cases e:j=k
     ·subst e;rw[HS.out,Qe he]
     ·exact hp.out j (by omega)
    subst he;clear hp HS;go_wp2;go_roundw
    case rel=>exact⟨k+1,by omega,by go_num,Gb,b3⟩
    case measure=>simp[intOf];omega
   ·have HF:Hid ((List.range n).all (Lz L)=false):=Rz hlt (by rw[HS.out,Qf he]);have Gc:(r !=(k:Int))=true:=by simpa using he
    clear hp HS;go_wp2;go_ret;exact⟨F0 HF.out.symm,b3⟩
  ·obtain rfl:k=n:=by omega
   have HT:Hid ((List.range k).all (Lz L)=true):=R5 hp.out;clear hp;go_wp2;go_ret;exact⟨F0 HT.out.symm,bk⟩
theorem Bk:∀a b:List UInt8,decide (Lib.compareBytes a b<0)=Op.bytesLess a b
 |[],[]=>rfl
 |[],_::_=>rfl
 |_::_,[]=>rfl
 |a::x,b::y=>by
  unfold Lib.compareBytes Op.bytesLess;by_cases h1:a<b
  ·rw[if_pos h1,Qe h1];rfl
  ·rw[if_neg h1,Qf h1];by_cases h2:b<a
   ·have h3:(a==b)=false:=by
     rw[beq_eq_false_iff_ne];rintro rfl;exact h1 h2
    rw[if_pos h2,h3];rfl
   ·have h3:a=b:=by
     apply UInt8.toNat_inj.1;have h4:¬a.toNat<b.toNat:=fun h=>h1 (UInt8.lt_iff_toNat_lt.2 h);have h5:¬b.toNat<a.toNat:=fun h=>h2 (UInt8.lt_iff_toNat_lt.2 h);omega
    subst h3;rw[if_neg h2,Bk x y];simp
def Nx (x y:Int):Int:=if x<y then-1 else if y<x then 1 else 0
def Oa (x y:Rk):Int:=if Nx x.s y.s=0 then Lib.compareBytes x.m.data.toList y.m.data.toList else Nx x.s y.s
theorem zqn(x y:Rk):decide (Oa x y<0)=La x y:=by
 unfold Oa Nx La;by_cases h1:x.s<y.s
 ·rw[if_pos h1,Qe h1];rfl
 ·rw[if_neg h1,Qf h1];by_cases h2:y.s<x.s
  ·rw[if_pos h2,Qf (by omega:¬x.s=y.s)];rfl
  ·rw[if_neg h2,Qe (by omega:x.s=y.s)];rw[ByteArray.toList_eq,ByteArray.toList_eq,<-Bk];simp
theorem X9(x:Int)(w:World):Calls prog 327 #[.int .i64 x] w fun e w'=>e=.returned (.bool false)/\w'=w:=by
 go_enter func327,ntmps327;go_wp2;go_ret;exact⟨F0 (by simp),rfl⟩
theorem zuy(x y:Int)(w:World):Calls prog 309 #[.int .i64 x,.int .i64 y] w fun e w'=>e=.returned (.int .i64 (Nx x y))/\w'=w:=by
 by_cases h1:x<y
 ·have HE:Hid (Nx x y= -1):=by unfold Hid Nx;rw[if_pos h1]
  generalize Nx x y=z at*;go_enter func309,ntmps309;go_wp2_with (go_at_call 327;refine(X9 _ _).mono ?_;rintro e w'⟨rfl,rfl⟩);go_ret;exact⟨Pm HE.out.symm,rfl⟩
 ·by_cases h2:y<x
  ·have HE:Hid (Nx x y=1):=by unfold Hid Nx;rw[if_neg h1,if_pos h2]
   generalize Nx x y=z at*;go_enter func309,ntmps309;go_wp2_with (go_at_call 327;refine(X9 _ _).mono ?_;rintro e w'⟨rfl,rfl⟩);go_ret;exact⟨Pm HE.out.symm,rfl⟩
  ·have HE:Hid (Nx x y=0):=by unfold Hid Nx;rw[if_neg h1,if_neg h2]
   generalize Nx x y=z at*;go_enter func309,ntmps309;go_wp2_with (go_at_call 327;refine(X9 _ _).mono ?_;rintro e w'⟨rfl,rfl⟩);go_ret;exact⟨Pm HE.out.symm,rfl⟩
section
variable (a b:ByteArray) (w:World)
theorem ydr:Calls prog 154 #[.string a,.string b] w fun e w'=>e= .returned (.int .i64 (Lib.compareBytes a.data.toList b.data.toList))/\w'=w:=by
 go_enter func154,ntmps154;go_wp2;rw[run_callFunc_extern func213 (by kernel_rfl) (by kernel_rfl) (by kernel_rfl) (e:=Extern.BytealgCompare.compare) (by kernel_rfl),Lib.run_compareString];simp only[Result.andThen];rw[Oper.upon_value];go_wp2;go_ret;exact⟨rfl,rfl⟩
theorem Dm:Calls prog 109 #[.string a,.string b] w fun e w'=>e= .returned (.int .i64 (Lib.compareBytes a.data.toList b.data.toList))/\w'=w:=by
 go_enter func109,ntmps109;go_wp2_with (go_at_call 154;refine(ydr _ _ _).mono ?_;rintro e w'⟨rfl,rfl⟩);go_ret;exact⟨rfl,rfl⟩
end
theorem yfg(x y:Int)(g:Nat)(w:World)(h0:w.cell? ⟨g,0,none⟩=some (.int .i64 x))(h1:w.cell? ⟨g,1,none⟩=some (.int .i64 y)):
  Calls prog 308 #[.slice (some ⟨g,0,none⟩) 2 2] w fun e w'=>e=.returned (.int .i64 (if x=0 then y else x))/\w'=w:=by
 have HE:Hid (∀z,(x=0->z=y)->(x≠0->z=x)->z=(if x=0 then y else x)):=fun z a b=>by
  by_cases h:x=0
  ·rw[if_pos h];exact a h
  ·rw[if_neg h];exact b h
 generalize(if x=0 then y else x)=z at*;go_enter func308,ntmps308;go_wp2;go_loopw [8] (fun i wr=>∃(k:Nat),k<=2/\i=.int .i64 k/\Hid ((1<=k->x=0)/\(2<=k->y=0))/\wr=w) (fun i _=>2 - (intOf i).toNat)
 case atStart=>exact⟨0,by omega,rfl,⟨fun h=>by omega,fun h=>by omega⟩,rfl⟩
 case round=>
  obtain⟨k,hk,rfl,hp,rfl⟩:=hrel;obtain rfl | rfl | rfl:k=0\/k=1\/k=2:=by omega
  ·by_cases hx:x=0
   ·subst hx;clear hp;go_wp2;go_roundw
    case rel=>exact⟨0+1,by omega,by go_num,⟨fun _=>trivial,fun h=>by omega⟩,trivial⟩
    case measure=>simp[intOf]
   ·have Ga:(x !=0)=true:=by simpa using hx
    have HZ:Hid (x=z):=HE.out x (fun h=>absurd h hx) (fun _=>rfl);clear hp HE;go_wp2;go_ret;exact⟨Pm HZ.out,rfl⟩
  ·have hx:x=0:=hp.out.1 (by omega);by_cases hy:y=0
   ·have HP:Hid ((1<=1+1->x=0)/\(2<=1+1->y=0)):=⟨fun _=>hx,fun h=>hy⟩;subst hy;clear hp hx;go_wp2;go_roundw
    case rel=>exact⟨1+1,by omega,by go_num,⟨HP.out.1,fun _=>trivial⟩,trivial⟩
    case measure=>simp[intOf]
   ·have Ga:(y !=0)=true:=by simpa using hy
    have HZ:Hid (y=z):=HE.out y (fun _=>rfl) (fun h=>absurd hx h);clear hp HE hx;go_wp2;go_ret;exact⟨Pm HZ.out,rfl⟩
  ·have HZ:Hid (0=z):=HE.out 0 (fun _=>(hp.out.2 (by omega)).symm) (fun h=>absurd (hp.out.1 (by omega)) h);clear hp HE;go_wp2;go_ret;exact⟨Pm HZ.out,rfl⟩
theorem wrap_small{n:Int}(h1:-9223372036854775808<=n)(h2:n<=9223372036854775807):IntKind.i64.wrap n=n:=by
 simp[IntKind.wrap,IntKind.signed,IntKind.bits];omega
theorem kept{W:World}{a:Addr}{o:Obj}(h:W.cell? a=some v):(W.drew.alloc o).cell? a=some v:=
 (World.cell?_alloc_some W.drew a o (by show(W.cell? a).isSome=true;rw[h];rfl)).trans h
theorem zty(x y:Rk)(w:World):
  Calls prog 281 #[rkV x,rkV y] w fun e w'=>e=.returned (.int .i64 (Oa x y))/\Bl w w':=by
 obtain⟨xm,xs⟩:=x;obtain⟨ym,ys⟩:=y;have HE:Hid (Oa ⟨xm,xs⟩ ⟨ym,ys⟩=if Nx xs ys=0 then Lib.compareBytes xm.data.toList ym.data.toList else Nx xs ys):=rfl;generalize Oa ⟨xm,xs⟩ ⟨ym,ys⟩=z at*;have b0:Bl w ((w.alloc (.cells #[.string xm,.int .i64 xs] 147)).alloc (.cells #[.string ym,.int .i64 ys] 147)):=((Qb _ w).alloc (Qc _) _).alloc (by simp) _;go_enter func281,ntmps281;have r0:=(Fc.new w 147 #[.string xm,.int .i64 xs]).bw ((Qb _ _).alloc (Qc _) (.cells #[.string ym,.int .i64 ys] 147)) (by simp);have r1:=Fc.new (w.alloc (.cells #[.string xm,.int .i64 xs] 147)) 147 #[.string ym,.int .i64 ys];simp only[World.size_alloc]at r1;have s0:=b0.size;have e0:=r0.cell 0;have e1:=r0.cell 1;have d0:=r1.cell 0;have d1:=r1.cell 1;simp only[Qm,Qk,Ql]at e0 e1 d0 d1;go_wp2_with fail;generalize(w.alloc (.cells #[.string xm,.int .i64 xs] 147)).alloc (.cells #[.string ym,.int .i64 ys] 147)=W at*;clear r0 r1;generalize hc1:Nx xs ys=c1 at*;have Gb:Hid (Nx xs ys=c1):=hc1;generalize hc2:Lib.compareBytes xm.data.toList ym.data.toList=c2 at*;have Ga:Hid (Lib.compareBytes xm.data.toList ym.data.toList=c2):=hc2;clear hc1 hc2;have HX:Hid (∀W,Cp 309 #[.int .i64 xs,.int .i64 ys] W fun e w'=>e=.returned (.int .i64 c1)/\w'=W):=fun W=>by
  have:=zuy xs ys W;rwa[Gb.out]at this
 have HY:Hid (∀W,Cp 109 #[.string xm,.string ym] W fun e w'=>e=.returned (.int .i64 c2)/\w'=W):=fun W=>by
  have:=Dm xm ym W;rwa[Ga.out]at this
 have HO:Hid (∀g W,W.cell? ⟨g,0,none⟩=some (.int .i64 c1)->W.cell? ⟨g,1,none⟩=some (.int .i64 c2)->Cp 308 #[.slice (some ⟨g,0,none⟩) 2 2] W fun e w'=>e=.returned (.int .i64 z)/\w'=W):=fun g W h0 h1=>by
  have:=yfg c1 c2 g W h0 h1;rwa[<-HE.out]at this
 have kp:Hid (∀o,(W.drew.alloc o).cell? ⟨w.heap.size,0,none⟩=some (.string xm)/\(W.drew.alloc o).cell? ⟨w.heap.size,1,none⟩=some (.int .i64 xs)/\(W.drew.alloc o).cell? ⟨w.heap.size+1,0,none⟩=some (.string ym)/\(W.drew.alloc o).cell? ⟨w.heap.size+1,1,none⟩=some (.int .i64 ys)):=fun o=>⟨kept e0,kept e1,kept d0,kept d1⟩;go_region_held3 (fun W'=>W'.cell? ⟨w.heap.size,0,none⟩=some (.string xm)/\W'.cell? ⟨w.heap.size,1,none⟩=some (.int .i64 xs)/\W'.cell? ⟨w.heap.size+1,0,none⟩=some (.string ym)/\W'.cell? ⟨w.heap.size+1,1,none⟩=some (.int .i64 ys))
  (first
   |exact⟨e0,e1,d0,d1⟩
   |exact kp.out _)
  (first
   |(go_at_call 309;refine(HX.out _).mono ?_;rintro e w'⟨rfl,rfl⟩)
   |(go_at_call 109;refine(HY.out _).mono ?_;rintro e w'⟨rfl,rfl⟩)
   |(go_at_call 308;refine(HO.out _ _ ((Fc.new _ _ _).cell 0) ((Fc.new _ _ _).cell 1)).mono ?_;rintro e w'⟨rfl,rfl⟩))
 all_goals
  go_wp2;go_ret;exact⟨rfl,(below_drewN b0 1).alloc s0 _⟩
theorem yap(a:Option Addr)(b off n c:Nat)(L:List Rk)(w:World)(h:F7 w a b off n L)(hn:n<=1048577):
  Calls prog 305 #[.slice a n c,.func (.func 281) #[] #[]] w fun e w'=>e=.returned (.bool ((List.range n).all (Lj L)))/\Bl w w':=by
 have H:Hid (F7 w a b off n L):=h;clear h;go_enter func305,ntmps305;go_wp2;go_loopw [5] (fun i wr=>∃(k:Nat),1<=k/\(k<=n\/k=1)/\i=.int .i64 k/\Hid (∀j,j<k->Lj L j=true)/\Bl w wr) (fun i _=>n-(intOf i).toNat)
 case atStart=>exact⟨1,by omega,.inr rfl,rfl,(fun j hj=>by cases (by omega:j=0);rfl),Qb _ _⟩
 case round=>
  obtain⟨k,Gg,hk,rfl,hp,bk⟩:=hrel;by_cases hlt:k<n
  ·have HW:=H.out.bw bk;have hx:=HW.cell (k-1) (by omega);have hy:=HW.cell k hlt;obtain rfl:=HW.addr (by omega);have HS:Hid (Lj L k=decide (Oa (L.getD (k-1) rk0) (L.getD k rk0)<0)):=by
    unfold Hid;rw[zqn];unfold Lj;rw[Qf (by omega)];rfl
   have c0:=hx.c0;have c1:=hx.c1;have d0:=hy.c0;have d1:=hy.c1;generalize L.getD (k-1) rk0=x,L.getD k rk0=y at*;have HC:Hid (∀W,Cp 281 #[rkV x,rkV y] W fun e w'=>e=.returned (.int .i64 (Oa x y))/\Bl W w'):=fun W=>zty x y W;generalize Oa x y=z at*;obtain⟨xm,xs⟩:=x;obtain⟨ym,ys⟩:=y;have sk:=bk.size;have hb:=HW.low (by omega);clear HW hx hy;dsimp only at c0 c1 d0 d1;have Gh:(1:Int)<=(k:Int):=by omega
   have Ge:(0:Int)<=(k:Int)-1:=by omega
   have Gb:(k:Int)-1<(n:Int):=by omega
   have Gc:(0:Int)<=(k:Int):=by omega
   have Gf:(k:Int)<(n:Int):=by omega
   have Gd:((k:Int)-1).toNat=k-1:=by omega
   have hw:IntKind.i64.wrap ((k:Int)-1)=(k:Int)-1:=wrap_small (by omega) (by omega);go_upto_region 4 with fail;go_region_held3 (fun W=>W.cell? ⟨b,off+(k-1)*2,none⟩=some (.string xm)/\W.cell? ⟨b,off+(k-1)*2+1,none⟩=some (.int .i64 xs)/\W.cell? ⟨b,off+k*2,none⟩=some (.string ym)/\W.cell? ⟨b,off+k*2+1,none⟩=some (.int .i64 ys))
    (first
     |exact⟨c0,c1,d0,d1⟩
     |exact⟨(b1.cell (p:=⟨b,_,none⟩) hb).trans c0,(b1.cell (p:=⟨b,_,none⟩) hb).trans c1,(b1.cell (p:=⟨b,_,none⟩) hb).trans d0,(b1.cell (p:=⟨b,_,none⟩) hb).trans d1⟩)
    (first
     |(go_at_call 281;refine(HC.out _).mono ?_;rintro e w1⟨rfl,b1⟩))
   have b2:Bl w w1:=bk.trans ((Below.trans (below_drewN (Qb _ wr) 1) b1).mono sk);clear b1 Gd hw Ge Gb c0 c1 d0 d1 HC Gc;by_cases hz:z<0
   ·have hd:decide (0<=z)=false:=Qf (by omega);have Ga:Hid (∀j,j<k+1->Lj L j=true):=fun j hj=>by
     by_cases e:j=k
     ·subst e;rw[HS.out,Qe hz]
     ·exact hp.out j (by omega)
    clear hp HS;go_wp2;go_roundw
    case rel=>exact⟨k+1,by omega,.inl (by omega),by go_num,Ga,b2⟩
    case measure=>simp[intOf];omega
   ·have hd:decide (0<=z)=true:=Qe (by omega);have HF:Hid ((List.range n).all (Lj L)=false):=Rz hlt (by rw[HS.out,Qf hz]);clear hp HS;go_wp2;go_ret;exact⟨F0 HF.out.symm,b2⟩
  ·have HT:Hid ((List.range n).all (Lj L)=true):=R5 fun j hj=>hp.out j (by omega);clear hp;go_wp2;go_ret;exact⟨F0 HT.out.symm,bk⟩
def O6 (L:List Rk) (i:Nat):Bool:=N5 L i&&(Mt L i&&(Lj L i&&Lz L i))
def G9 (L:List Rk):Bool:=decide (L.length<=20)&&(List.range L.length).all (O6 L)
theorem yj5{L:List Rk}{q:Nat}(h:q<i)(he:(L.getD q rk0).m=(L.getD i rk0).m):Lz L i=false:=by
 unfold Lz;rw[Bool.not_eq_false',List.any_eq_true];exact⟨q,List.mem_range.2 h,by simpa using he⟩
theorem yfc{L:List Rk}(h:∀j,j<i->(L.getD j rk0).m≠(L.getD i rk0).m):Lz L i=true:=by
 unfold Lz;rw[Bool.not_eq_true',List.any_eq_false];intro j hj;simpa using h j (List.mem_range.1 hj)
theorem zy4(a:Option Addr)(b off n c:Nat)(L:List Rk)(w:World)(h:F7 w a b off n L)(hn:n<=1048577):
  Calls prog 138 #[.slice a n c] w fun e w'=>e=.returned (.bool (G9 L))/\Bl w w':=by
 have H:Hid (F7 w a b off n L):=h;have HL:Hid (L.length=n):=h.len;clear h;by_cases h20:n<=20
 ·have Gw:¬(20:Int)<(n:Int):=by omega
  have HE:Hid (G9 L=(List.range n).all (O6 L)):=by
   unfold Hid G9;rw[HL.out,Qe h20,Qz]
  go_enter func138,ntmps138;go_wp2;go_loopw [3] (fun i wr=>∃(k:Nat),k<=n/\i=.int .i64 k/\Hid (∀j,j<k->O6 L j=true)/\Bl w wr) (fun i _=>n-(intOf i).toNat)
  case atStart=>exact⟨0,by omega,rfl,fun j hj=>by omega,Qb _ _⟩
  case round=>
   obtain⟨k,hk,rfl,hp,bk⟩:=hrel;by_cases hlt:k<n
   ·have HW:=H.out.bw bk;have hy:=HW.cell k hlt;obtain rfl:=HW.addr (by omega);have hb:=HW.low (by omega);have d0:=hy.c0;have d1:=hy.c1;have Gh:Hid (O6 L k=(N5 L k&&(Mt L k&&(Lj L k&&Lz L k)))):=rfl;have Gb:Hid (O6 L k=false->G9 L=false):=fun hf=>by rw[HE.out];exact Rz hlt hf
    have Gk:Hid (N5 L k=decide ((L.getD k rk0).m.size<=200)):=rfl;have Gl:Hid (Mt L k=(decide (-1000000000000000000<=(L.getD k rk0).s)&&decide ((L.getD k rk0).s<=1000000000000000000))):=rfl;have HY:Hid (∃y,L.getD k rk0=y):=⟨_,rfl⟩;obtain⟨y,Gs⟩:=HY.out;have Gf:Hid (L.getD k rk0=y):=Gs;rw[Gs]at d0 d1 Gk Gl;obtain⟨ym,ys⟩:=y;dsimp only at d0 d1;have sk:=bk.size;have Ka:(0:Int)<=(k:Int):=by omega
    have Kf:(k:Int)<(n:Int):=by omega
    clear HY Gs hy;by_cases hsz:ym.size<=200
    ·have Gt:¬(200:Int)<(ym.size:Int):=by omega
     have Ge:Hid (N5 L k=true):=Gk.out.trans (Qe hsz);clear Gk;have Gg:Hid (∀W,Cp 52 #[.int .i64 ys,.int .i64 (-1000000000000000000),.int .i64 1000000000000000000] W fun e w'=>e=.returned (.bool (Mt L k))/\w'=W):=fun W=>by
      rw[Gl.out];exact yio ys (-1000000000000000000) 1000000000000000000 W
     cases hsc:Mt L k with
     |false=>
      rw[hsc]at Gg;have Gd:Hid (G9 L=false):=Gb.out (by rw[Gh.out,hsc];simp);clear Gl hsc Gh Gb hp HE Ge HW;go_upto_region 6 with fail;go_quiet ((exact Calls.quiet_of_same (Gg.out _)));go_wp2;go_ret;exact⟨F0 Gd.out.symm,below_drewN bk _⟩
     |true=>
      rw[hsc]at Gg;have Ga:Hid (O6 L k=(Lj L k&&Lz L k)):=by unfold Hid;rw[Gh.out,Ge.out,hsc];rfl
      clear Gl hsc Gh Ge;go_upto_region 6 with fail;go_cut [46] from 8 to 155 (fun x wx=>x=.bool (!Lj L k)/\Bl w wx)
      case first=>
       by_cases hk1:k=0
       ·have Gi:Hid (Lj L k=true):=by unfold Hid Lj;rw[Qe hk1];rfl
        have g1:decide ((0:Int)<(k:Int))=false:=Qf (by omega);have g2:decide (0<k)=false:=Qf (by omega);clear Ga Gb hp HE HW hk1;go_quiet ((exact Calls.quiet_of_same (Gg.out _)));go_step;go_step;go_meet
        case rel=>exact⟨by rw[Gi.out];rfl,below_drewN bk _⟩
       ·have g1:decide ((0:Int)<(k:Int))=true:=Qe (by omega);have g2:decide (0<k)=true:=Qe (by omega);have Gi:Hid (Lj L k=La (L.getD (k-1) rk0) (L.getD k rk0)):=by
         unfold Hid Lj;rw[Qf hk1];rfl
        have hx:=HW.cell (k-1) (by omega);have c0:=hx.c0;have c1:=hx.c1;rw[Gf.out]at Gi;generalize L.getD (k-1) rk0=x at*;obtain⟨ri,Gr⟩:∃ri,Lj L k=ri:=⟨_,rfl⟩;have Gu:Hid (Lj L k=ri):=Gr;have Gv:Hid (∀W,Cp 167 #[rkV x,rkV ⟨ym,ys⟩] W fun e w'=>e=.returned (.bool ri)/\Bl W w'):=fun W=>by
         rw[<-Gr,Gi.out];exact zp0 x ⟨ym,ys⟩ W
        clear Gr;obtain⟨xm,xs⟩:=x;dsimp only at c0 c1;have Gy:(1:Int)<=(k:Int):=by omega
        have Kc:(0:Int)<=(k:Int)-1:=by omega
        have Gz:(k:Int)-1<(n:Int):=by omega
        have Kb:((k:Int)-1).toNat=k-1:=by omega
        have hw:IntKind.i64.wrap ((k:Int)-1)=(k:Int)-1:=wrap_small (by omega) (by omega);clear Ga Gb hp HE HW hk1 Gi hx;go_region_held3 (fun W=>W.cell? ⟨b,off+(k-1)*2,none⟩=some (.string xm)/\W.cell? ⟨b,off+(k-1)*2+1,none⟩=some (.int .i64 xs)/\W.cell? ⟨b,off+k*2,none⟩=some (.string ym)/\W.cell? ⟨b,off+k*2+1,none⟩=some (.int .i64 ys))
         (first
          |exact⟨c0,c1,d0,d1⟩
          |exact⟨(b1.cell (p:=⟨b,_,none⟩) hb).trans c0,(b1.cell (p:=⟨b,_,none⟩) hb).trans c1,(b1.cell (p:=⟨b,_,none⟩) hb).trans d0,(b1.cell (p:=⟨b,_,none⟩) hb).trans d1⟩)
         (first
          |(go_at_call 52;refine(Gg.out _).mono ?_;rintro e w1⟨rfl,rfl⟩)
          |(go_at_call 167;refine(Gv.out _).mono ?_;rintro e w1⟨rfl,b1⟩))
        all_goals
         go_step;go_step;go_meet
         case rel=>exact⟨by rw[Gu.out],bk.trans ((Below.trans (below_drewN (Qb _ wr) 1) b1).mono sk)⟩
      case rest=>
       obtain⟨rfl,bw⟩:=hcut;clear Gg d0 d1 HW hb bk sk;have sw:=bw.size;generalize hnn:(!Lj L k)=nn;cases nn with
       |true=>
        have Gd:Hid (G9 L=false):=Gb.out (by
         have hr:Lj L k=false:=by simpa using hnn
         rw[Ga.out,hr];rfl)
        clear hnn Ga Gb hp HE;go_wp2;go_ret;exact⟨F0 Gd.out.symm,bw⟩
       |false=>
        have Gc:Hid (O6 L k=Lz L k):=by
         have hr:Lj L k=true:=by simpa using hnn
         unfold Hid;rw[Ga.out,hr];rfl
        clear hnn Ga;go_wp2_with fail;go_loopw [4] (fun i wr=>∃(q:Nat),q<=k/\i=.int .i64 q/\Hid (∀j,j<q->(L.getD j rk0).m≠ym)/\Bl w wr) (fun i _=>k-(intOf i).toNat)
        case atStart=>exact⟨0,by omega,rfl,fun j hj=>by omega,bw⟩
        case round=>
         obtain⟨q,hq,rfl,Gj,bq⟩:=hrel;by_cases hql:q<k
         ·have Gp:=H.out.bw bq;have e0:=(Gp.cell q (by omega)).c0;have d0:=(Gp.cell k hlt).c0;rw[Gf.out]at d0;have HX:Hid (∃x,(L.getD q rk0).m=x):=⟨_,rfl⟩;obtain⟨xm,Gq⟩:=HX.out;have Gm:Hid ((L.getD q rk0).m=xm):=Gq;rw[Gq]at e0;dsimp only at d0;have Kd:(0:Int)<=(q:Int):=by omega
          have Gx:(q:Int)<(n:Int):=by omega
          clear Gp HX Gq;by_cases he:xm=ym
          ·have Gd:Hid (G9 L=false):=Gb.out (by rw[Gc.out];exact yj5 hql (by rw[Gm.out,Gf.out];exact he));have hd:(xm.toList==ym.toList)=true:=by rw[str_eq,Qe he]
           clear Gb Gc hp Gj HE Gf Gm he;go_upto_region 11 with fail;go_quiet ((fail));go_wp2;go_ret;exact⟨F0 Gd.out.symm,below_drewN bq _⟩
          ·have Gn:Hid (∀j,j<q+1->(L.getD j rk0).m≠ym):=fun j hj=>by
            by_cases e:j=q
            ·subst e;rw[Gm.out];exact he
            ·exact Gj.out j (by omega)
           have hd:=Le he;clear Gb Gc hp Gj HE Gf Gm he;go_upto_region 11 with fail;go_quiet ((fail));go_wp2;go_roundw
           case rel=>exact⟨q+1,by omega,by go_num,Gn,below_drewN bq _⟩
           case measure=>simp[intOf];omega
         ·obtain rfl:q=k:=by omega
          have Gn:Hid (∀j,j<q+1->O6 L j=true):=fun j hj=>by
           by_cases e:j=q
           ·subst e;rw[Gc.out];exact yfc fun i hi=>by rw[Gf.out];exact Gj.out i hi
           ·exact hp.out j (by omega)
          clear Gb Gc hp Gj HE Gf;go_wp2;go_roundw
          case rel=>exact⟨q+1,by omega,by go_num,Gn,bq⟩
          case measure=>simp[intOf];omega
    ·have Gt:(200:Int)<(ym.size:Int):=by omega
     have Gd:Hid (G9 L=false):=Gb.out (by rw[Gh.out,Gk.out,Qf hsz];rfl);clear Gk Gl Gh Gb hp HE HW;go_upto_region 6 with fail;go_quiet (fail);go_wp2;go_ret;exact⟨F0 Gd.out.symm,below_drewN bk _⟩
   ·obtain rfl:k=n:=by omega
    have HT:Hid (G9 L=true):=by unfold Hid;rw[HE.out];exact R5 hp.out
    clear hp HE;go_wp2;go_ret;exact⟨F0 HT.out.symm,bk⟩
 ·have Gw:(20:Int)<(n:Int):=by omega
  have HE:Hid (G9 L=false):=by
   unfold Hid G9;rw[HL.out,Qf h20,Q0]
  go_enter func138,ntmps138;go_wp2;go_ret;exact⟨F0 HE.out.symm,Qb _ _⟩
theorem U5:(prog.info? 147).map (fun i=> (i.zero,i.size,i.bytes))=some (some (.agg #[.string ⟨#[]⟩,.int .i64 0]),2,24):=by kernel_rfl
def encR (x:Rk):List Value:=[.string x.m,.int .i64 x.s]
def G6 (L:List Rk):List Value:=L.flatMap encR
theorem Eb(L:List Rk):(G6 L).length=L.length*2:=by
 unfold G6;induction L with
 |nil=>rfl
 |cons x l ih=>rw[List.flatMap_cons,Qi,ih,Q1];show 2+l.length*2=_;omega
theorem U2(L M:List Rk):G6 (L++M)=G6 L++G6 M:=List.flatMap_append
abbrev Fo (w:World) (B:Nat) (v:Value) (L:List Rk):Prop:=w.ownsRow B 147 2 v L.length (G6 L)
theorem J6(w:World)(B:Nat)(hB:B<=w.heap.size):Fo (w.alloc (.cells #[] 147)) B (.slice (some ⟨w.heap.size,0,none⟩) 0 0) []:=
 ⟨rfl,.inr ⟨w.heap.size,0, #[],rfl,hB,Fc.new w 147 #[],by simp,by unfold maxLen;omega,by simp,by simp[G6]⟩⟩
theorem below_grown{w1 w2:World}{r:Option Nat}(b:Below B w w1)(g:w1.grownBy w2 r)(hr:∀x,r=some x->B<=x)(hB:B<=w1.heap.size):Below B w w2:=
 ⟨g.os.trans b.os,g.tape.trans b.tape,g.output.trans b.output,Qj b.size g.size,fun k hk=>(g.block k (by omega) (fun e=>by have:=hr k e.symm;omega)).trans (b.block k hk)⟩
theorem Fo.bw{L:List Rk}(h:Fo w B v L)(hb:Bl w w'):Fo w' B v L:=by
 obtain⟨h1,⟨e1,e2⟩|⟨g,Gb,Ga,e1,h2,h3,h4⟩⟩:=h
 ·exact⟨h1,.inl ⟨e1,e2⟩⟩
 ·exact⟨h1,.inr ⟨g,Gb,Ga,e1,h2,(hb.block g (Fc.lt (T:=147) (C:=Ga) h3)).trans h3,h4⟩⟩
theorem zug(L:List Rk)(i:Nat)(h:i<L.length):(G6 L)[i*2]?=some (.string (L.getD i rk0).m)/\(G6 L)[i*2+1]?=some (.int .i64 (L.getD i rk0).s):=by
 induction L generalizing i with
 |nil=>simp at h
 |cons x l ih=>
  cases i with
  |zero=>exact⟨rfl,rfl⟩
  |succ i=>
   have:=ih i (by simpa using h);have e:G6 (x::l)=.string x.m::.int .i64 x.s::G6 l:=rfl;have e2:(i+1)*2=i*2+1+1:=by omega
   rw[e,e2];simpa using this
theorem ybo{A cap:Nat}{L:List Rk}(h:Fo w B (.slice (some ⟨A,0,none⟩) L.length cap) L)(i:Nat)(hi:i<L.length):Dp w A (i*2) (L.getD i rk0):=by
 obtain⟨f0,f1⟩:=zug L i hi;have c0:=h.cells rfl _ _ f0;have c1:=h.cells rfl _ _ f1;rw[Addr.add_lit,Qq]at c0 c1;exact⟨c0,c1⟩
def Pf (T:List ByteArray) (i:Nat):Bool:=decide ((T.getD i empty).size<=200)
theorem zqp(a:Option Addr)(A n c:Nat)(T:List ByteArray)(w:World)(ha:0<n->a=some ⟨A,0,none⟩)(hc:∀i,i<n->w.cell? ⟨A,i,none⟩=some (.string (T.getD i empty)))(hn:n<=4194304):
  Calls prog 123 #[.slice a n c] w fun e w'=>e=.returned (.bool ((List.range n).all (Pf T)))/\w'=w:=by
 have HA:Hid (0<n->a=some ⟨A,0,none⟩):=ha;have HC:Hid (∀i,i<n->w.cell? ⟨A,i,none⟩=some (.string (T.getD i empty))):=hc;clear ha hc;go_enter func123,ntmps123;go_wp2;go_loopw [7] (fun i wr=>∃(k:Nat),k<=n/\i=.int .i64 k/\Hid (∀j,j<k->Pf T j=true)/\wr=w) (fun i _=>n-(intOf i).toNat)
 case atStart=>exact⟨0,by omega,rfl,fun j hj=>by omega,rfl⟩
 case round=>
  obtain⟨k,hk,rfl,hp,rfl⟩:=hrel;by_cases hlt:k<n
  ·have c0:=HC.out k hlt;obtain rfl:=HA.out (by omega);have HS:Hid (Pf T k=decide ((T.getD k empty).size<=200)):=rfl;generalize T.getD k empty=t at*;by_cases hsz:t.size<=200
   ·have Ga:¬(200:Int)<(t.size:Int):=by omega
    have Gb:Hid (∀j,j<k+1->Pf T j=true):=fun j hj=>by
     by_cases e:j=k
     ·subst e;rw[HS.out,Qe hsz]
     ·exact hp.out j (by omega)
    clear hp HS;go_wp2;go_roundw
    case rel=>exact⟨k+1,by omega,by go_num,Gb,trivial⟩
    case measure=>simp[intOf];omega
   ·have Ga:(200:Int)<(t.size:Int):=by omega
    have HF:Hid ((List.range n).all (Pf T)=false):=Rz hlt (by rw[HS.out,Qf hsz]);clear hp HS;go_wp2;go_ret;exact⟨F0 HF.out.symm,rfl⟩
  ·obtain rfl:k=n:=by omega
   have HT:Hid ((List.range k).all (Pf T)=true):=R5 hp.out;clear hp;go_wp2;go_ret;exact⟨F0 HT.out.symm,rfl⟩
end Kk
end Go.Proofs.YtokafonppgppdaaGreatDoor
namespace Go.Proofs
open Go.Shelf
def Tryz.laysM173_ren:Go.Shelf.Ren:=⟨fun|173=>115|246=>160|283=>220|284=>221|285=>222|286=>223|129=>268|317=>267|318=>269|319=>270|320=>271|337=>295|338=>296|n=>n,fun|2=>2|3=>3|9=>9|4=>4|171=>242|0=>0|53=>158|37=>22|5=>5|173=>245|212=>283|51=>284|20=>20|213=>285|46=>160|232=>322|233=>323|n=>n,fun|17=>10|18=>13|19=>14|n=>n⟩
theorem Tryz.laysM173:Go.Proofs.LaysM.n173 Tryz.prog Tryz.laysM173_ren:={
 mixed:=by kernel_rfl
 f129:=Tryz.func268.trans (congrArg some (by kernel_rfl))
 f173:=Tryz.func115.trans (congrArg some (by kernel_rfl))
 f246:=Tryz.func160.trans (congrArg some (by kernel_rfl))
 f283:=Tryz.func220.trans (congrArg some (by kernel_rfl))
 f284:=Tryz.func221.trans (congrArg some (by kernel_rfl))
 f285:=Tryz.func222.trans (congrArg some (by kernel_rfl))
 f286:=Tryz.func223.trans (congrArg some (by kernel_rfl))
 f317:=Tryz.func267.trans (congrArg some (by kernel_rfl))
 f318:=Tryz.func269.trans (congrArg some (by kernel_rfl))
 f319:=Tryz.func270.trans (congrArg some (by kernel_rfl))
 f320:=Tryz.func271.trans (congrArg some (by kernel_rfl))
 f337:=Tryz.func295.trans (congrArg some (by kernel_rfl))
 f338:=Tryz.func296.trans (congrArg some (by kernel_rfl))
 t0:=Tryz.underlying0
 a0:=Tryz.isAgg0
 z0:=Tryz.sizeOf0
 v0:=Tryz.zeroValue0
 t2:=Tryz.underlying2
 a2:=Tryz.isAgg2
 z2:=Tryz.sizeOf2
 v2:=Tryz.zeroValue2
 t3:=Tryz.underlying3
 a3:=Tryz.isAgg3
 z3:=Tryz.sizeOf3
 v3:=Tryz.zeroValue3
 t4:=Tryz.underlying4
 a4:=Tryz.isAgg4
 z4:=Tryz.sizeOf4
 v4:=Tryz.zeroValue4
 t5:=Tryz.underlying5
 a5:=Tryz.isAgg5
 z5:=Tryz.sizeOf5
 v5:=Tryz.zeroValue5
 t9:=Tryz.underlying9
 a9:=Tryz.isAgg9
 z9:=Tryz.sizeOf9
 v9:=Tryz.zeroValue9
 t20:=Tryz.underlying20
 a20:=Tryz.isAgg20
 z20:=Tryz.sizeOf20
 v20:=Tryz.zeroValue20
 t37:=Tryz.underlying22
 a37:=Tryz.isAgg22
 z37:=Tryz.sizeOf22
 v37:=Tryz.zeroValue22
 t46:=Tryz.underlying160
 a46:=Tryz.isAgg160
 z46:=Tryz.sizeOf160
 v46:=Tryz.zeroValue160
 t51:=Tryz.underlying284
 a51:=Tryz.isAgg284
 z51:=Tryz.sizeOf284
 v51:=Tryz.zeroValue284
 t53:=Tryz.underlying158
 a53:=Tryz.isAgg158
 z53:=Tryz.sizeOf158
 v53:=Tryz.zeroValue158
 t171:=Tryz.underlying242
 a171:=Tryz.isAgg242
 z171:=Tryz.sizeOf242
 v171:=Tryz.zeroValue242
 t173:=Tryz.underlying245
 a173:=Tryz.isAgg245
 z173:=Tryz.sizeOf245
 v173:=Tryz.zeroValue245
 t212:=Tryz.underlying283
 a212:=Tryz.isAgg283
 z212:=Tryz.sizeOf283
 v212:=Tryz.zeroValue283
 t213:=Tryz.underlying285
 a213:=Tryz.isAgg285
 z213:=Tryz.sizeOf285
 t232:=Tryz.underlying322
 a232:=Tryz.isAgg322
 z232:=Tryz.sizeOf322
 v232:=Tryz.zeroValue322
 t233:=Tryz.underlying323
 a233:=Tryz.isAgg323
 z233:=Tryz.sizeOf323
 v233:=Tryz.zeroValue323
 g17:=by kernel_rfl
 g18:=by kernel_rfl
 g19:=by kernel_rfl
 i0:=by kernel_rfl
 i2:=by kernel_rfl
 i3:=by kernel_rfl
 i4:=by kernel_rfl
 i5:=by kernel_rfl
 i9:=by kernel_rfl
 i20:=by kernel_rfl
 i37:=by kernel_rfl
 i46:=by kernel_rfl
 i51:=by kernel_rfl
 i53:=by kernel_rfl
 i171:=by kernel_rfl
 i173:=by kernel_rfl
 i212:=by kernel_rfl
 i232:=by kernel_rfl
 i233:=by kernel_rfl
 m17:=by kernel_rfl
 m18:=by kernel_rfl
 m19:=by kernel_rfl }
open Go.RowKit Go.Sort Go.Lib in
theorem Tryz.strconv_FormatInt_10(n:Int)(h0:-9223372036854775808<=n)(h1:n<=9223372036854775807)(w:World)(htab:Lib.TabIs Tryz.prog w "internal/strconv.uint64pow10" .u64 Lib.pow10Tab):
 Calls Tryz.prog 115 #[.int .i64 n,.int .i64 10] w fun e w'=>e=.returned (.string ⟨(Lib.itoa n).toArray⟩)/\∃k os,w'=grow (w.drewN k) os:=Any.strconv_FormatInt_10 Tryz.laysM173 n h0 h1 w htab
end Go.Proofs
namespace Go.Proofs.YtokafonppgppdaaGreatDoor
section
open Tryz
open Go.RowKit Go.Sort
variable {b:Bool} {B n g i j t:Nat} {w w' w1 w2:World} {T:TypeId} {C:Array Value} {r:Option Nat} {l:Array Bool} {v:Value}
structure Fs (w:World) (a:Option Addr) (b off n:Nat) (ss:List ByteArray):Prop where
 len:ss.length=n
 addr:0<n->a=some ⟨b,off,none⟩
 low:0<n->b<w.heap.size
 cell:∀i,i<n->w.cell? ⟨b,off+i,none⟩=some (.string (ss.getD i ByteArray.empty))
 fit:∀i,i<n->(ss.getD i ByteArray.empty).size<=9223372036854775807
theorem F0{a:Bool}(h:a=b):Ending.returned (.bool a)=.returned (.bool b):=by rw[h]
theorem zye{a b:ByteArray}(h:a=b):Ending.returned (.string a)=.returned (.string b):=by rw[h]
theorem Bv:prog.globalNamed "internal/strconv.uint64pow10" =some 10:=by kernel_rfl
abbrev Tab (w:World):Prop:=Lib.TabIs prog w "internal/strconv.uint64pow10" .u64 Lib.pow10Tab
theorem Tab.bw(h:Tab w)(hb:Below B w w')(hB:10<B):Tab w':=var?_below hb Bv hB h
theorem Lb{a:Option Addr}{b off:Nat}{ss:List ByteArray}(h:Fs w a b off n ss)(hb:Bl w w'):Fs w' a b off n ss:=
 ⟨h.len,h.addr,fun h0=>by have:=h.low h0;have:=hb.size;omega,fun i hi=>(hb.cell (p:=⟨b,off+i,none⟩) (h.low (by omega))).trans (h.cell i hi),h.fit⟩
theorem Tg:(prog.info? 9).map (fun i=> (i.zero,i.size,i.bytes))=some (some (.string ⟨#[]⟩),1,16):=by kernel_rfl
def Fc (w:World) (g:Nat) (T:TypeId) (C:Array Value):Prop:=w.heap[g]?=some (.cells C T (0,0))
theorem Fc.cell(h:Fc w g T C)(j:Nat):w.cell? ⟨g,j,none⟩=C[j]?:=Lib.cell_of_heap h j
theorem Fc.frozen(h:Fc w g T C)(j:Nat):w.frozen? ⟨g,j,none⟩=false:=Lib.frozen_of_heap h j
theorem Fc.set(h:Fc w g T C)(j:Nat)(v:Value):Fc (w.setCell ⟨g,j,none⟩ v) g T (C.setIfInBounds j v):=by
 unfold Fc at*;simp[World.setCell,Array.getElem?_modify,h]
theorem Fc.lt(h:Fc w g T C):g<w.heap.size:=(Array.getElem?_eq_some_iff.1 h).1
theorem Fc.new(w:World)(T:TypeId)(C:Array Value):Fc (w.alloc (.cells C T)) w.heap.size T C:=by
 show(w.heap.push (.cells C T (0,0)))[w.heap.size]?=_;simp
theorem Nl(w:World)(r:Option Nat):w.grownBy w r:=⟨rfl,rfl,rfl,Qc _,fun _ _ _=>rfl⟩
theorem Ly(h:w.grownBy w1 r)(hb:Bl w1 w2):w.grownBy w2 r:=
 ⟨hb.os.trans h.os,hb.tape.trans h.tape,hb.output.trans h.output,Qj h.size hb.size,fun k hk hr=>(hb.block k (Qr hk h.size)).trans (h.block k hk hr)⟩
theorem G4(h:w.grownBy w1 r)(h2:w1.grownBy w2 r):w.grownBy w2 r:=
 ⟨h2.os.trans h.os,h2.tape.trans h.tape,h2.output.trans h.output,Qj h.size h2.size,fun k hk hr=>(h2.block k (Qr hk h.size) hr).trans (h.block k hk hr)⟩
theorem zzx(w:World)(b o:Nat)(v:Value):w.grownBy (w.setCell ⟨b,o,none⟩ v) (some b):=
 ⟨rfl,rfl,rfl,by simp[World.setCell],fun k _ hk=>Below.heap_setCell _ _ _ _ (fun e=>hk (by simp[e]))⟩
theorem Fc.bw(h:Fc w g T C)(hb:Below B w w')(hg:g<B):Fc w' g T C:=(hb.block g hg).trans h
structure Ready (w:World):Prop where
 tab:Tab w
 syn:∃tp p,w.var? prog "strconv.ErrSyntax" =some #[.iface tp p]
 rng:∃tp p,w.var? prog "strconv.ErrRange" =some #[.iface tp p]
 six:22<=w.heap.size
theorem S0:prog.globalNamed "strconv.ErrSyntax" =some 8:=by kernel_rfl
theorem Aq:prog.globalNamed "strconv.ErrRange" =some 9:=by kernel_rfl
theorem Ready.bw(h:Ready w)(hb:Below 22 w w'):Ready w':=by
 obtain⟨t1,p1,h1⟩:=h.syn;obtain⟨t2,p2,h2⟩:=h.rng;exact⟨h.tab.bw hb (by omega),⟨t1,p1,var?_below hb S0 (by omega) h1⟩,⟨t2,p2,var?_below hb Aq (by omega) h2⟩,by have:=h.six;have:=hb.size;omega⟩
def Ha (n:Int):Bool:=decide (-1000000000000000000<=n/\n<=1000000000000000000)
theorem yc7(n:Nat)(h:10<=n):Lib.decDigits n=Lib.decDigits (n/10)++ [UInt8.ofNat (48+n%10)]:=by
 rw[Lib.decDigits,dif_neg (by omega)]
theorem zuz(w:World)(z:Int)(h0:0<=z)(h1:z<256):
  (convert 22 9 (.slice (some ⟨w.heap.size,0,none⟩) 1 1)).run prog (w.alloc (.cells #[.int .u8 z] 5))=.ok (.string ⟨[UInt8.ofNat z.toNat].toArray⟩) (w.alloc (.cells #[.int .u8 z] 5)):=by
 refine run_convert_bytes_back _ 22 9 5 ⟨w.heap.size,0,none⟩ 1 [UInt8.ofNat z.toNat] underlying22 underlying5 underlying9 ?_;intro j hj;obtain rfl:j=0:=by simpa using hj
 have e:((UInt8.ofNat z.toNat).toNat:Int)=z:=by
  rw[UInt8.toNat_ofNat'];omega
 simp only[List.getElem_cons_zero,e];exact cell_one_new w (.int .u8 z) 5 0 _ rfl
theorem ycx(k:Nat)(h:k<10):Lib.decDigits k=[UInt8.ofNat (48+k)]:=Lib.decDigits_one h
theorem yba(n:Nat)(w:World)(hn:n<=9223372036854775807):
  Calls prog 148 #[.int .i64 n] w fun e w'=>e=.returned (.string ⟨(Lib.decDigits n).toArray⟩)/\Bl w w':=by
 have Gc:decide ((n:Int)<0)=false:=by simp
 go_enter func148,ntmps148;go_wp2;go_loopw [0,3] (fun m s wr=>∃(k:Nat) (Ga:List UInt8),k<=n/\m=.int .i64 k/\s=.string ⟨Ga.toArray⟩/\Lib.decDigits k++Ga=Lib.decDigits n/\2*Ga.length+k<=n/\Bl w wr) (fun m _ _=>(intOf m).toNat)
 case atStart=>exact⟨n,[],by omega,rfl,rfl,by simp,by simp,Qb _ _⟩
 case round=>
  obtain⟨k,Ga,hk,rfl,rfl,Gb,Ge,bk⟩:=hrel;have HA:Hid (Lib.decDigits k++Ga=Lib.decDigits n):=Gb;clear Gb;have sk:=bk.size;by_cases hlt:10<=k
  ·have Gd:=zuz wr (48+(k:Int)%10) (by omega) (by omega);go_wp2;go_roundw
   case rel=>
    refine⟨k/10,[UInt8.ofNat (48+k%10)]++Ga,by omega,by go_num,?_,?_,by simp;omega,bk.alloc sk _⟩
    ·exact congrArg Value.string (by rw[show(48+UInt8.ofNat (k%10))=UInt8.ofNat (48+k%10) from by simp];exact ByteArray.mk_append_mk [UInt8.ofNat (48+k%10)] Ga)
    ·rw[<-HA.out,yc7 k hlt];simp
   case measure=>simp[intOf];omega
  ·have Gd:=zuz wr (48+(k:Int)) (by omega) (by omega);go_wp2;go_ret;refine⟨zye ?_,bk.alloc sk _⟩;rw[show(48+UInt8.ofNat k)=UInt8.ofNat (48+k) from by simp,<-HA.out,ycx k (by omega)];exact ByteArray.mk_append_mk [UInt8.ofNat (48+k)] Ga
def Hn:Nat->List UInt8->Option Nat
 |acc,[]=>some acc
 |acc,c::r=>if c.toNat<48\/57<c.toNat\/100000000000000000<acc then none else Hn (acc*10+(c.toNat-48)) r
def Mj (l:List UInt8):Bool:=decide (1<l.length)&&decide (l.head?=some 45)
def Lx (l:List UInt8):List UInt8:=if Mj l then l.tail else l
def Hc (l:List UInt8):Int×Bool:=
 if (Lx l).length<1\/19<(Lx l).length\/((Lx l).head?=some 48/\(1<(Lx l).length\/Mj l=true)) then (0,false)
 else match Hn 0 (Lx l) with
  |none=> (0,false)
  |some n=> (if Mj l then-(n:Int) else n,Ha (if Mj l then-(n:Int) else n))
section
variable {P : Program} {ops : Array Oper} {Q : Exit -> Act -> World -> Prop} {md : Region.Mode}
theorem Bw(h:i∈Region.ready md ops l):i<ops.size/\l.getD i true=false/\((ops[i]?).map (·.after.all fun e=>!Region.binds md e||l.getD e.on false)).getD false=true:=by
 unfold Region.ready at h;rw[List.mem_filter,List.mem_range,Qh]at h;exact⟨h.1,by simpa using h.2.1,h.2.2⟩
def unl (l:Array Bool):Nat:=l.toList.countP (fun b=>!b)
theorem Dd(h:l.getD i true=false):unl (l.setIfInBounds i true)+1=unl l:=by
 have hi:i<l.size:=by
  by_cases hi:i<l.size
  ·exact hi
  ·rw[Array.getD_eq_getD_getElem?,Array.getElem?_eq_none (by omega)]at h;cases h
 have Ga:i<l.toList.length:=by simpa using hi
 have hv:l.toList[i]=false:=by
  rw[Array.getD_eq_getD_getElem?,Array.getElem?_eq_getElem hi]at h;simpa using h
 have Gb:0<l.toList.countP (fun b=>!b):=List.countP_pos_iff.2 ⟨_,Qv Ga,by rw[hv];rfl⟩;unfold unl;rw[Array.toList_setIfInBounds,List.countP_set Ga,hv,show(if(!false)=true then 1 else 0)=1 from rfl,show(if(!true)=true then 1 else 0)=0 from rfl];omega
theorem Iv(h:unl l=0):Region.ready md ops l=[]:=by
 apply List.eq_nil_iff_forall_not_mem.2;intro i hi;have hm:=(Bw hi).2.1;have:=Dd hm;omega
theorem zm9(I:Array Bool->Act->World->Prop)
 (hstep:∀l a w i,I l a w->i∈Region.ready md ops l->wpOp P ops Q i (fun a' w'=>I (l.setIfInBounds i true) a' w') a w)
 (hdone:∀l a w,I l a w->Region.ready md ops l=[]->Q .normal a w):∀(fuel:Nat) l a w,I l a w->unl l<=fuel->wpAnyH P md ops Q (fun _=>True) fuel l a w
 |0,l,a,w,h,hu=>⟨Iv (by omega),hdone l a w h (Iv (by omega))⟩
 |fuel+1,l,a,w,h,hu=>⟨fun h0=>hdone l a w h h0,fun i hi=>wpOp_mono (fun a' w' h'=>⟨trivial,zm9 I hstep hdone fuel _ a' w' h' (by have:=Dd (Bw hi).2.1;omega)⟩) (hstep l a w i h hi)⟩
theorem zv9(hb:(List.range ops.size).all (fun i=>((ops[i]?).map (·.after.all fun e=>!Region.binds md e||decide (e.on<i))).getD false)=true)(h:Region.ready md ops l=[]):∀i,i<ops.size->l.getD i true=true:=by
 intro i;induction i using Nat.strongRecOn with
 |_ i ih=>
  intro hi;cases hl:l.getD i true with
  |true=>rfl
  |false=>
   exfalso;have hm:i∈Region.ready md ops l:=by
    unfold Region.ready;rw[List.mem_filter,List.mem_range,Qh];refine⟨hi,by rw[hl];rfl,?_⟩;have Gc:=Qw.1 hb i (List.mem_range.2 hi);rw[Array.getElem?_eq_getElem hi]at Gc ⊢;show(ops[i].after.all fun e=>!Region.binds md e||l.getD e.on false)=true;have Gb:(ops[i].after.all fun e=>!Region.binds md e||decide (e.on<i))=true:=Gc;rw[Array.all_eq_true]at Gb ⊢;intro j hj;have Ga:=Gb j hj;rw[Bool.or_eq_true]at Ga ⊢;rcases Ga with Ga|Ga
    ·exact .inl Ga
    have Gd:=Qg Ga;have:=ih _ Gd (by omega);right;have Ge:i<l.size:=by
     by_cases h2:i<l.size
     ·exact h2
     ·rw[Array.getD_eq_getD_getElem?,Array.getElem?_eq_none (by omega)]at hl;cases hl
    rw[Array.getD_eq_getD_getElem?,Array.getElem?_eq_getElem (by omega)]at this ⊢;exact this
   rw[h]at hm;cases hm
theorem zi2(I:Array Bool->Act->World->Prop){id:Nat}{a:Act}(hm:P.follows .mixedOrders=true)(h0:I (Array.replicate ops.size false) a w.drew)
 (hstep:∀l a w i,I l a w->i∈Region.ready .any ops l->wpOp P ops Q i (fun a' w'=>I (l.setIfInBounds i true) a' w') a w)
 (hb:(List.range ops.size).all (fun i=>((ops[i]?).map (·.after.all fun e=>!Region.binds .any e||decide (e.on<i))).getD false)=true)
 (hdone:∀l a w,I l a w->(∀i,i<ops.size->l.getD i true=true)->Q .normal a w):(Code.region id ops true).wp P Q a w:=
 wp_region_held hm (zm9 I hstep (fun l a w h hr=>hdone l a w h (zv9 hb hr)) _ _ _ _ h0 (by unfold unl;rw[Array.toList_replicate];exact Qj List.countP_le_length (by simp)))
end
def sl (l:Array Bool) (j:Nat) (v:Value):Value:=if l.getD j false=true then v else undef
theorem F8(h:l.getD j false=true):sl l j v=v:=if_pos h
theorem S5(h:l.getD j false=false):sl l j v=undef:=if_neg (by rw[h];simp)
theorem getD_set_ne(h:i≠j):(l.setIfInBounds i true).getD j b=l.getD j b:=by
 rw[Array.getD_eq_getD_getElem?,Array.getD_eq_getD_getElem?,Array.getElem?_setIfInBounds_ne h]
theorem Ua(h:i<l.size):(l.setIfInBounds i true).getD i b=true:=by
 rw[Array.getD_eq_getD_getElem?,Array.getElem?_setIfInBounds_self_of_lt h];rfl
theorem Ff(h:i≠j):sl (l.setIfInBounds i true) j v=sl l j v:=by
 unfold sl;rw[getD_set_ne h]
theorem Of(h:i<l.size):sl (l.setIfInBounds i true) i v=v:=F8 (Ua h)
theorem ye9(h:l.getD i true=false):l.getD i false=false:=by
 rw[Array.getD_eq_getD_getElem?]at h ⊢;cases hx:l[i]? with
 |none=>rfl
 |some b=>rw[hx]at h;exact h
theorem yi8(h:l.getD i true=true)(hi:i<l.size):l.getD i false=true:=by
 rw[Array.getD_eq_getD_getElem?,Array.getElem?_eq_getElem hi]at h ⊢;exact h
def Tl (t:Nat) (l:Array Bool):Prop:=l.getD t false=true->∀j,j<t->l.getD j false=true
theorem ydf:Tl t (Array.replicate n false):=fun h=>by
 rw[Array.getD_eq_getD_getElem?,Array.getElem?_replicate]at h;split at h<;>cases h
theorem Tl.off(h:Tl t l)(hi:i<t)(ho:l.getD i false=false):l.getD t false=false:=by
 cases hx:l.getD t false with
 |false=>rfl
 |true=>rw[h hx i hi]at ho;cases ho
theorem Tl.next(h:Tl t l)(hi:i<t)(ho:l.getD i false=false):Tl t (l.setIfInBounds i true):=fun hx=>by
 rw[getD_set_ne (show i≠t by omega),h.off hi ho]at hx;cases hx
theorem Tl.last(h:∀j,j<t->l.getD j false=true):Tl t (l.setIfInBounds t true):=fun _ j hj=>by
 rw[getD_set_ne (show t≠j by omega)];exact h j hj
end
end Go.Proofs.YtokafonppgppdaaGreatDoor
