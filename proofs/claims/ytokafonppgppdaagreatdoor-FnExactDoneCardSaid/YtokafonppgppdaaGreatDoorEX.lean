import Derived.Test.YtokafonppgppdaaGreatDoorR56
import Derived.Laws.IdiomStrings
import Derived.OpenShut
import Derived.ChangeOld
import Derived.HandedShaped
import Derived.Deep.Slices
import Derived.Deep.Strs
import Derived.Deep.RegionWith
import Derived.Deep.DeepCutAuto
set_option maxHeartbeats 4000000
set_option maxRecDepth 100000
namespace Go.Proofs.YtokafonppgppdaaGreatDoor.Kk
open Go.RowKit Go.Sort
variable {D:Array Value} {L:List Rk}
def zcb (D:Array Value) (L:List Rk) (k:Nat):Prop:=∀i,i<k->D[i*2]?=some (.string (L.getD i rk0).m)/\D[i*2+1]?=some (.int .i64 (L.getD i rk0).s)
theorem zcz{k:Nat}{m:ByteArray}{s:Int}(h:zcb D L k)(hD:k*2+1<D.size)(hx:L.getD k rk0=⟨m,s⟩):zcb ((D.setIfInBounds (k*2) (.string m)).setIfInBounds (k*2+1) (.int .i64 s)) L (k+1):=fun i hi=>by
 by_cases e:i=k
 ·subst e;rw[hx];refine⟨?_,?_⟩
  ·rw[Array.getElem?_setIfInBounds_ne (by omega),Array.getElem?_setIfInBounds_self_of_lt (by omega)]
  ·rw[Array.getElem?_setIfInBounds_self_of_lt (by rw[Array.size_setIfInBounds];omega)]
 ·obtain⟨h0,h1⟩:=h i (by omega);refine⟨?_,?_⟩
  ·rw[Array.getElem?_setIfInBounds_ne (by omega),Array.getElem?_setIfInBounds_ne (by omega)];exact h0
  ·rw[Array.getElem?_setIfInBounds_ne (by omega),Array.getElem?_setIfInBounds_ne (by omega)];exact h1
theorem zd8(h:zcb D L L.length):D.toList.take (L.length*2)=G6 L:=by
 apply List.ext_getElem?;intro j;by_cases hj:j<L.length*2
 ·rw[List.getElem?_take,if_pos hj,Array.getElem?_toList];have hi:j/2<L.length:=by omega
  obtain⟨f0,f1⟩:=zug L (j/2) hi;obtain⟨h0,h1⟩:=h (j/2) hi;rcases Nat.mod_two_eq_zero_or_one j with hm|hm
  ·rw[show j/2*2=j by omega]at f0 h0;rw[f0,h0]
  ·rw[show j/2*2+1=j by omega]at f1 h1;rw[f1,h1]
 ·rw[List.getElem?_take,if_neg hj,List.getElem?_eq_none (by rw[Eb];omega)]
theorem zbs{w:World}{g cap B:Nat}(h:Fc w g 147 D)(hD:D.size=cap*2)(hp:zcb D L L.length)(hc:L.length<=cap)(hm:cap<=maxLen)(hB:B<=g):Fo w B (.slice (some ⟨g,0,none⟩) L.length cap) L:=
 ⟨by rw[Eb],.inr ⟨g,cap,D,rfl,hB,h,hc,hm,hD,zd8 hp⟩⟩
end Go.Proofs.YtokafonppgppdaaGreatDoor.Kk
namespace Go.Proofs.YtokafonppgppdaaGreatDoor
open Tryz
open _root_.ByteArray (empty)
open Go.RowKit Go.Sort
variable {D:Array Value} {L:List Pr} {k g cap B b off n:Nat} {s:ByteArray} {w w' W:World} {a:Option Addr} {v:Vl} {vi vp vr c d e:Value} {T:TypeId} {q:Addr} {A:List KV}
def zcv (D:Array Value) (L:List Pr) (k:Nat):Prop:=∀i,i<k->D[i*2]?=some (.string (L.getD i (bz,bz)).1)/\D[i*2+1]?=some (.string (L.getD i (bz,bz)).2)
theorem zb9{m:ByteArray}(h:zcv D L k)(hD:k*2+1<D.size)(hx:L.getD k (bz,bz)=(m,s)):zcv ((D.setIfInBounds (k*2) (.string m)).setIfInBounds (k*2+1) (.string s)) L (k+1):=fun i hi=>by
 by_cases e:i=k
 ·subst e;rw[hx];refine⟨?_,?_⟩
  ·rw[Array.getElem?_setIfInBounds_ne (by omega),Array.getElem?_setIfInBounds_self_of_lt (by omega)]
  ·rw[Array.getElem?_setIfInBounds_self_of_lt (by rw[Array.size_setIfInBounds];omega)]
 ·obtain⟨h0,h1⟩:=h i (by omega);refine⟨?_,?_⟩
  ·rw[Array.getElem?_setIfInBounds_ne (by omega),Array.getElem?_setIfInBounds_ne (by omega)];exact h0
  ·rw[Array.getElem?_setIfInBounds_ne (by omega),Array.getElem?_setIfInBounds_ne (by omega)];exact h1
theorem zdb(h:zcv D L L.length):D.toList.take (L.length*2)=Fn L:=by
 apply List.ext_getElem?;intro j;by_cases hj:j<L.length*2
 ·rw[List.getElem?_take,if_pos hj,Array.getElem?_toList];have hi:j/2<L.length:=by omega
  obtain⟨f0,f1⟩:=Cd L (j/2) hi;obtain⟨h0,h1⟩:=h (j/2) hi;rcases Nat.mod_two_eq_zero_or_one j with hm|hm
  ·rw[show j/2*2=j by omega]at f0 h0;rw[f0,h0]
  ·rw[show j/2*2+1=j by omega]at f1 h1;rw[f1,h1]
 ·rw[List.getElem?_take,if_neg hj,List.getElem?_eq_none (by rw[L3];omega)]
theorem rowP_owns(h:Fc w g 145 D)(hD:D.size=cap*2)(hp:zcv D L L.length)(hc:L.length<=cap)(hm:cap<=maxLen)(hB:B<=g):G3 w B (.slice (some ⟨g,0,none⟩) L.length cap) L:=
 ⟨by rw[L3],.inr ⟨g,cap,D,rfl,hB,h,hc,hm,hD,zdb hp⟩⟩
structure One (v:Vl):Prop where
 ni:v.ia.length<=1048576
 np:v.pj.length<=1048576
 nr:v.rq.length<=1048576
 ia:∀t∈v.ia,t.size<=1048576
def tot (ss:List ByteArray):Nat:=(ss.map ByteArray.size).sum
theorem za5(ss:List ByteArray)(k:Nat)(h:k<ss.length):tot (ss.take (k+1))=tot (ss.take k)+(ss.getD k empty).size:=by
 unfold tot;rw[Qo h,List.map_append,List.sum_append,Qa,Qd h];simp only[List.map_cons,List.map_nil,List.sum_cons,List.sum_nil,Option.getD_some,Qy]
theorem zdx(a:Option Addr)(b off n c:Nat)(ss:List ByteArray)(left:Int)(w:World)(h:Fs w a b off n ss)(hn:n<=9223372036854775807)(h0:0<=left)(h1:left<=2097152):
  Calls prog 28 #[.slice a n c,.int .i64 left] w fun e w'=>(∃r:Int,e=.returned (.int .i64 r)/\(r<0\/((n:Int)+tot ss+r=left)))/\w'=w:=by
 by_cases hneg:left-(n:Int)<0
 ·go_enter func28,ntmps28;go_wp2;go_ret;exact⟨⟨-1,rfl,.inl (by omega)⟩,rfl⟩
 ·go_enter func28,ntmps28;go_wp2;go_loop [1,5] (fun q i=>∃(k:Nat) (l:Int),k<=n/\i=.int .i64 k/\q=.int .i64 l/\0<=l/\l<=left/\(n:Int)+tot (ss.take k)+l=left) (fun _ i=>n-(intOf i).toNat)
  case atStart=>exact⟨0,left-n,by omega,rfl,rfl,by omega,by omega,by simp[tot];omega⟩
  case round=>
   obtain⟨k,l,hk,rfl,rfl,Sz,Va,hl⟩:=hrel;by_cases hlt:k<n
   ·obtain rfl:=h.addr (by omega);have hc:=h.cell k hlt;have hf:=h.fit k hlt;have ht:=za5 ss k (by rw[h.len];exact hlt);have HL:Hid (((n:Int)+tot (ss.take k)+l=left)/\tot (ss.take (k+1))=tot (ss.take k)+(ss.getD k empty).size):=⟨hl,ht⟩;generalize ss.getD k empty=s at*;go_wp2
    ·go_ret;exact⟨⟨-1,rfl,.inl (by omega)⟩,rfl⟩
    ·go_round
     case rel=>
      obtain⟨hl,ht⟩:=HL.out;exact⟨k+1,l-s.size,by omega,by go_num,by go_num,by omega,by omega,by rw[ht];omega⟩
     case measure=>simp[intOf];omega
   ·go_wp2;go_ret;have:k=n:=by omega
    subst this;exact⟨⟨l,rfl,.inr (by rw[List.take_of_length_le (by rw[h.len];exact Qc _)]at hl;exact hl)⟩,rfl⟩
open Kk (Rk rk0 rkV F7 Fo zcb Md)
theorem zck(x:Rk)(left:Int)(w:World)(h0:0<=left)(h1:left<=1048576)(hs:x.m.size<=9223372036854775807):
  Calls prog 225 #[rkV x,.int .i64 left] w fun e w'=>(∃r:Int,e=.returned (.int .i64 r)/\(r<0\/r<=left))/\Bl w w':=by
 obtain⟨xm,xs⟩:=x;dsimp only at hs ⊢;have b0:Bl w (w.alloc (.cells #[.string xm,.int .i64 xs] 250)):=(Qb _ w).alloc (Qc _) _;by_cases hneg:left-(xm.size:Int)<0
 ·go_enter func225,ntmps225;go_wp2;go_ret;exact⟨⟨-1,rfl,.inl (by omega)⟩,b0⟩
 ·go_enter func225,ntmps225;go_wp2;go_ret;exact⟨⟨_,rfl,.inr (by omega)⟩,b0⟩
theorem zcf(x:Rk)(w:World):Calls prog 227 #[rkV x] w fun e w'=>e=.returned (rkV x)/\Bl w w':=by
 obtain⟨xm,xs⟩:=x;go_enter func227,ntmps227;go_wp2;exact bodyPost_ret (v:=rkV ⟨xm,xs⟩) (by simp[results,results227,go_sem]) rfl ⟨rfl,Go.Joins.below_alloc3 _ _ _ _⟩
theorem zch(x y:ByteArray)(left:Int)(w:World)(h0:0<=left)(h1:left<=1048576)(hx:x.size<=9223372036854775807)(hy:y.size<=9223372036854775807):
  Calls prog 224 #[.agg #[.string x,.string y],.int .i64 left] w fun e w'=>(∃r:Int,e=.returned (.int .i64 r)/\(r<0\/r<=left))/\Bl w w':=by
 have b0:Bl w (w.alloc (.cells #[.string x,.string y] 248)):=(Qb _ w).alloc (Qc _) _;by_cases hneg:left-(x.size:Int)<0
 ·go_enter func224,ntmps224;go_wp2;go_ret;exact⟨⟨-1,rfl,.inl (by omega)⟩,b0⟩
 ·obtain⟨l2,Sz⟩:∃l2:Int,left-(x.size:Int)=l2:=⟨_,rfl⟩;have g0:decide (left-(x.size:Int)<0)=false:=Qf hneg;by_cases hneg2:left-(x.size:Int)-(y.size:Int)<0
  ·go_enter func224,ntmps224;go_wp2;go_ret;exact⟨⟨-1,rfl,.inl (by omega)⟩,b0⟩
  ·go_enter func224,ntmps224;go_wp2;go_ret;exact⟨⟨_,rfl,.inr (by omega)⟩,b0⟩
theorem zcu(x y:ByteArray)(w:World):Calls prog 226 #[.agg #[.string x,.string y]] w fun e w'=>e=.returned (.agg #[.string x,.string y])/\Bl w w':=by
 go_enter func226,ntmps226;go_wp2;exact bodyPost_ret (v:=.agg #[.string x,.string y]) (by simp[results,results226,go_sem]) rfl ⟨rfl,Go.Joins.below_alloc3 _ _ _ _⟩
structure zan (w:World) (a:Option Addr) (b off n:Nat) (ps:List Pr):Prop where
 len:ps.length=n
 addr:0<n->a=some ⟨b,off,none⟩
 low:0<n->b<w.heap.size
 c0:∀i,i<n->w.cell? ⟨b,off+i*2,none⟩=some (.string (ps.getD i (bz,bz)).1)
 c1:∀i,i<n->w.cell? ⟨b,off+i*2+1,none⟩=some (.string (ps.getD i (bz,bz)).2)
theorem zan.bw{ps:List Pr}(h:zan w a b off n ps)(hb:Bl w w'):zan w' a b off n ps:=
 ⟨h.len,h.addr,fun h0=>by have:=h.low h0;have:=hb.size;omega,fun i hi=>(hb.cell (p:=⟨b,off+i*2,none⟩) (h.low (by omega))).trans (h.c0 i hi),fun i hi=>(hb.cell (p:=⟨b,off+i*2+1,none⟩) (h.low (by omega))).trans (h.c1 i hi)⟩
section
variable (a:Option Addr) (b off n c:Nat)
theorem zb1(L:List Rk)(left:Int)(w:World)(h:F7 w a b off n L)(hn:n<=9223372036854775807)(hs:∀i,i<n->(L.getD i rk0).m.size<=9223372036854775807)(h0:0<=left)(h1:left<=1048576):
  Calls prog 162 #[.slice a n c,.int .i64 left] w fun e w'=>(∃r:Int,e=.returned (.int .i64 r)/\(r<0\/(r<=left/\n<=1048576)))/\Bl w w':=by
 have H:Hid (F7 w a b off n L):=h;have HS:Hid (∀i,i<n->(L.getD i rk0).m.size<=9223372036854775807):=hs;by_cases hneg:left-(n:Int)<0
 ·go_enter func162,ntmps162;go_wp2;go_ret;exact⟨⟨-1,rfl,.inl (by omega)⟩,Qb _ _⟩
 ·go_enter func162,ntmps162;go_wp2;go_loopw [1,5] (fun q i wr=>∃(k:Nat) (l:Int),k<=n/\i=.int .i64 k/\q=.int .i64 l/\0<=l/\l<=left/\Bl w wr) (fun _ i _=>n-(intOf i).toNat)
  case atStart=>exact⟨0,left-n,by omega,rfl,rfl,by omega,by omega,Qb _ _⟩
  case round=>
   obtain⟨k,l,hk,rfl,rfl,Sz,Vb,bk⟩:=hrel;have sk:=bk.size;by_cases hlt:k<n
   ·have HW:=H.out.bw bk;have hx:=HW.cell k hlt;obtain rfl:=HW.addr (by omega);have hz:=HS.out k hlt;generalize L.getD k rk0=x at*;obtain⟨m,s⟩:=x;have c0:=hx.c0;have c1:=hx.c1;dsimp only at c0 c1;have cS:=zck ⟨m,s⟩ l wr Sz (by omega) hz;go_wp2_with fail;refine cS.mono ?_;rintro e w1⟨⟨r,rfl,hr⟩,b1⟩;have b2:=bk.trans (b1.mono sk);by_cases hr0:r<0
    ·go_wp2;go_ret;exact⟨⟨-1,rfl,.inl (by omega)⟩,b2⟩
    ·have Va:r<=left:=by rcases hr with hr|hr<;>omega
     go_wp2;go_roundw
     case rel=>exact⟨k+1,r,by omega,by go_num,rfl,by omega,by omega,b2⟩
     case measure=>simp[intOf];omega
   ·go_wp2;go_ret;exact⟨⟨l,rfl,.inr ⟨by omega,by omega⟩⟩,bk⟩
theorem zbp(L:List Pr)(left:Int)(w:World)(h:zan w a b off n L)(hn:n<=9223372036854775807)(hs:∀i,i<n->(L.getD i (bz,bz)).1.size<=9223372036854775807/\(L.getD i (bz,bz)).2.size<=9223372036854775807)(h0:0<=left)(h1:left<=1048576):
  Calls prog 161 #[.slice a n c,.int .i64 left] w fun e w'=>(∃r:Int,e=.returned (.int .i64 r)/\(r<0\/(r<=left/\n<=1048576)))/\Bl w w':=by
 have H:Hid (zan w a b off n L):=h;have HS:Hid (∀i,i<n->(L.getD i (bz,bz)).1.size<=9223372036854775807/\(L.getD i (bz,bz)).2.size<=9223372036854775807):=hs;by_cases hneg:left-(n:Int)<0
 ·go_enter func161,ntmps161;go_wp2;go_ret;exact⟨⟨-1,rfl,.inl (by omega)⟩,Qb _ _⟩
 ·go_enter func161,ntmps161;go_wp2;go_loopw [1,5] (fun q i wr=>∃(k:Nat) (l:Int),k<=n/\i=.int .i64 k/\q=.int .i64 l/\0<=l/\l<=left/\Bl w wr) (fun _ i _=>n-(intOf i).toNat)
  case atStart=>exact⟨0,left-n,by omega,rfl,rfl,by omega,by omega,Qb _ _⟩
  case round=>
   obtain⟨k,l,hk,rfl,rfl,Sz,Vb,bk⟩:=hrel;have sk:=bk.size;by_cases hlt:k<n
   ·have HW:=H.out.bw bk;have c0:=HW.c0 k hlt;have c1:=HW.c1 k hlt;obtain rfl:=HW.addr (by omega);have hz:=HS.out k hlt;generalize L.getD k (bz,bz)=x at*;obtain⟨m,s⟩:=x;dsimp only at c0 c1 hz;have cS:=zch m s l wr Sz (by omega) hz.1 hz.2;go_wp2_with fail;refine cS.mono ?_;rintro e w1⟨⟨r,rfl,hr⟩,b1⟩;have b2:=bk.trans (b1.mono sk);by_cases hr0:r<0
    ·go_wp2;go_ret;exact⟨⟨-1,rfl,.inl (by omega)⟩,b2⟩
    ·have Va:r<=left:=by rcases hr with hr|hr<;>omega
     go_wp2;go_roundw
     case rel=>exact⟨k+1,r,by omega,by go_num,rfl,by omega,by omega,b2⟩
     case measure=>simp[intOf];omega
   ·go_wp2;go_ret;exact⟨⟨l,rfl,.inr ⟨by omega,by omega⟩⟩,bk⟩
end
theorem zcn(n:Nat)(hn:n<=1048576):∃C:Array Value,C.size=n*2/\∀w,(Instr.makeSlice 43 (.int .i64 n) (.int .i64 n)).run prog w=.ok (.slice (some ⟨w.heap.size,0,none⟩) n n) (w.alloc (.cells C 147)):=by
 obtain⟨i0,hi,Va,Sz,Vb⟩:=info_parts Kk.U5;refine⟨madeCells (Value.agg #[.string ⟨#[]⟩,.int .i64 0]).cells (n*i0.size),by rw[size_madeCells,Sz],fun w=>?_⟩;have:=run_make (P:=prog) w 43 147 i0 _ underlying43 hi Va .i64 .i64 n n (by omega) (by omega) (by rw[Vb];omega) (by omega);simpa using this
theorem zco(n:Nat)(hn:n<=1048576):∃C:Array Value,C.size=n*2/\∀w,(Instr.makeSlice 42 (.int .i64 n) (.int .i64 n)).run prog w=.ok (.slice (some ⟨w.heap.size,0,none⟩) n n) (w.alloc (.cells C 145)):=by
 obtain⟨i0,hi,Va,Sz,Vb⟩:=info_parts Ub;refine⟨madeCells (Value.agg #[.string ⟨#[]⟩,.string ⟨#[]⟩]).cells (n*i0.size),by rw[size_madeCells,Sz],fun w=>?_⟩;have:=run_make (P:=prog) w 42 145 i0 _ underlying42 hi Va .i64 .i64 n n (by omega) (by omega) (by rw[Vb];omega) (by omega);simpa using this
section
variable (a:Option Addr) (b off n c:Nat)
theorem zbw(L:List Rk)(w:World)(h:F7 w a b off n L)(hn:n<=1048576):
  Calls prog 164 #[.slice a n c] w fun e w'=>e=.returned (.slice (some ⟨w.heap.size,0,none⟩) n n)/\Fo w' w.heap.size (.slice (some ⟨w.heap.size,0,none⟩) n n) L/\Bl w w'/\w.heap.size<w'.heap.size:=by
 obtain⟨C,hC,Vd⟩:=zcn n hn;have HC:Hid (C.size=n*2):=hC;have H:Hid (F7 w a b off n L):=h;have HL:Hid (L.length=n):=h.len;go_enter func164,ntmps164;go_wp2;go_loopw [4] (fun i wr=>∃(k:Nat) (D:Array Value),k<=n/\i=.int .i64 k/\D.size=n*2/\Fc wr w.heap.size 147 D/\Hid (zcb D L k)/\Bl w wr) (fun i _=>n-(intOf i).toNat)
 case atStart=>exact⟨0,C,by omega,rfl,HC.out,Fc.new _ _ _,fun j hj=>by omega,(Qb _ _).alloc (Qc _) _⟩
 case round=>
  obtain⟨k,D,Vg,rfl,hD,Va,Vb,bk⟩:=hrel;have HD:Hid (D.size=n*2):=hD;have sk:=bk.size;by_cases hlt:k<n
  ·have HW:=H.out.bw bk;have hx:=HW.cell k hlt;obtain rfl:=HW.addr (by omega);generalize hx':L.getD k rk0=x at*;have HX:Hid (L.getD k rk0=x):=hx';obtain⟨m,s⟩:=x;have c0:=hx.c0;have c1:=hx.c1;dsimp only at c0 c1;have cT:=zcf ⟨m,s⟩ wr;go_wp2_with fail;refine cT.mono ?_;rintro e w1⟨rfl,b1⟩;have Sz:=Fc.bw Va b1 Va.lt;have Ve:k*2+1<D.size:=by rw[HD.out];omega
   have t0:w1.cell? ⟨w.heap.size,k*2,none⟩=some (D[k*2]'(by omega)):=by rw[Sz.cell];simp
   have t1:w1.cell? ⟨w.heap.size,k*2+1,none⟩=some (D[k*2+1]'(by omega)):=by rw[Sz.cell];simp
   have f0:=Sz.frozen (k*2);have f1:=Sz.frozen (k*2+1);have HP:Hid _:=Kk.zcz Vb.out Ve HX.out;have HR:Hid _:=(Sz.set (k*2) (.string m)).set (k*2+1) (.int .i64 s);generalize D[k*2]'(by omega)=y0,D[k*2+1]'(by omega)=y1 at*;have Vf:=bk.trans (b1.mono sk);go_wp2;go_roundw
   case rel=>exact⟨k+1,_,by omega,by go_num,by rw[Array.size_setIfInBounds,Array.size_setIfInBounds,HD.out],HR.out,HP,(Vf.setCell (Qc _) _).setCell (Qc _) _⟩
   case measure=>simp[intOf];omega
  ·obtain rfl:k=n:=by omega
   have hl:=HL.out;have HO:Hid (Fo wr w.heap.size (.slice (some ⟨w.heap.size,0,none⟩) k k) L):=by
    have:=Kk.zbs (B:=w.heap.size) Va HD.out (by rw[HL.out];exact Vb.out) (by omega) (by unfold maxLen;omega) (Qc _);rw[HL.out]at this;exact this
   have Vc:=Va.lt;go_wp2;go_ret;exact⟨rfl,HO.out,bk,Vc⟩
theorem zb2(L:List Pr)(w:World)(h:zan w a b off n L)(hn:n<=1048576):
  Calls prog 163 #[.slice a n c] w fun e w'=>e=.returned (.slice (some ⟨w.heap.size,0,none⟩) n n)/\G3 w' w.heap.size (.slice (some ⟨w.heap.size,0,none⟩) n n) L/\Bl w w'/\w.heap.size<w'.heap.size:=by
 obtain⟨C,hC,Vd⟩:=zco n hn;have HC:Hid (C.size=n*2):=hC;have H:Hid (zan w a b off n L):=h;have HL:Hid (L.length=n):=h.len;go_enter func163,ntmps163;go_wp2;go_loopw [4] (fun i wr=>∃(k:Nat) (D:Array Value),k<=n/\i=.int .i64 k/\D.size=n*2/\Fc wr w.heap.size 145 D/\Hid (zcv D L k)/\Bl w wr) (fun i _=>n-(intOf i).toNat)
 case atStart=>exact⟨0,C,by omega,rfl,HC.out,Fc.new _ _ _,fun j hj=>by omega,(Qb _ _).alloc (Qc _) _⟩
 case round=>
  obtain⟨k,D,Vg,rfl,hD,Va,Vb,bk⟩:=hrel;have HD:Hid (D.size=n*2):=hD;have sk:=bk.size;by_cases hlt:k<n
  ·have HW:=H.out.bw bk;have c0:=HW.c0 k hlt;have c1:=HW.c1 k hlt;obtain rfl:=HW.addr (by omega);generalize hx':L.getD k (bz,bz)=x at*;have HX:Hid (L.getD k (bz,bz)=x):=hx';obtain⟨m,s⟩:=x;dsimp only at c0 c1;have cT:=zcu m s wr;go_wp2_with fail;refine cT.mono ?_;rintro e w1⟨rfl,b1⟩;have Sz:=Fc.bw Va b1 Va.lt;have Ve:k*2+1<D.size:=by rw[HD.out];omega
   have t0:w1.cell? ⟨w.heap.size,k*2,none⟩=some (D[k*2]'(by omega)):=by rw[Sz.cell];simp
   have t1:w1.cell? ⟨w.heap.size,k*2+1,none⟩=some (D[k*2+1]'(by omega)):=by rw[Sz.cell];simp
   have f0:=Sz.frozen (k*2);have f1:=Sz.frozen (k*2+1);have HP:Hid _:=zb9 Vb.out Ve HX.out;have HR:Hid _:=(Sz.set (k*2) (.string m)).set (k*2+1) (.string s);generalize D[k*2]'(by omega)=y0,D[k*2+1]'(by omega)=y1 at*;have Vf:=bk.trans (b1.mono sk);go_wp2;go_roundw
   case rel=>exact⟨k+1,_,by omega,by go_num,by rw[Array.size_setIfInBounds,Array.size_setIfInBounds,HD.out],HR.out,HP,(Vf.setCell (Qc _) _).setCell (Qc _) _⟩
   case measure=>simp[intOf];omega
  ·obtain rfl:k=n:=by omega
   have hl:=HL.out;have HO:Hid (G3 wr w.heap.size (.slice (some ⟨w.heap.size,0,none⟩) k k) L):=by
    have:=rowP_owns (B:=w.heap.size) Va HD.out (by rw[HL.out];exact Vb.out) (by omega) (by unfold maxLen;omega) (Qc _);rw[HL.out]at this;exact this
   have Vc:=Va.lt;go_wp2;go_ret;exact⟨rfl,HO.out,bk,Vc⟩
end
def zdw (D:Array Value) (L:List ByteArray) (k:Nat):Prop:=∀i,i<k->D[i]?=some (.string (L.getD i empty))
theorem zdv{L:List ByteArray}(h:zdw D L k)(hD:k<D.size)(hx:L.getD k empty=s):zdw (D.setIfInBounds k (.string s)) L (k+1):=fun i hi=>by
 by_cases e:i=k
 ·subst e;rw[hx,Array.getElem?_setIfInBounds_self_of_lt (by omega)]
 ·rw[Array.getElem?_setIfInBounds_ne (by omega)];exact h i (by omega)
theorem zc5{L:List ByteArray}(h:zdw D L L.length):D.toList.take (L.length*1)=G1 L:=by
 apply List.ext_getElem?;intro j;unfold G1;rw[Nat.mul_one,List.getElem?_map];by_cases hj:j<L.length
 ·rw[List.getElem?_take,if_pos hj,Array.getElem?_toList,h j hj,Qa,Qd hj];rfl
 ·rw[List.getElem?_take,if_neg hj,List.getElem?_eq_none (by omega)];rfl
theorem zdk{L:List ByteArray}(h:Fc w g 9 D)(hD:D.size=cap)(hp:zdw D L L.length)(hc:L.length<=cap)(hm:cap<=maxLen)(hB:B<=g):Fz w B (.slice (some ⟨g,0,none⟩) L.length cap) L:=
 ⟨by simp[G1],.inr ⟨g,cap,D,rfl,hB,h,hc,hm,by omega,zc5 hp⟩⟩
theorem zcd(n:Nat)(hn:n<=1048576):∃C:Array Value,C.size=n/\∀w,(Instr.makeSlice 25 (.int .i64 n) (.int .i64 n)).run prog w=.ok (.slice (some ⟨w.heap.size,0,none⟩) n n) (w.alloc (.cells C 9)):=by
 obtain⟨i0,hi,Va,Sz,Vb⟩:=info_parts Tg;refine⟨madeCells (Value.string ⟨#[]⟩).cells (n*i0.size),by rw[size_madeCells,Sz,Nat.mul_one],fun w=>?_⟩;have:=run_make (P:=prog) w 25 9 i0 _ underlying25 hi Va .i64 .i64 n n (by omega) (by omega) (by rw[Vb];omega) (by omega);simpa using this
theorem Hq(a:Option Addr)(b off n c:Nat)(L:List ByteArray)(w:World)(h:Fs w a b off n L)(hn:n<=1048576):
  Calls prog 30 #[.slice a n c] w fun e w'=>e=.returned (.slice (some ⟨w.heap.size,0,none⟩) n n)/\Fz w' w.heap.size (.slice (some ⟨w.heap.size,0,none⟩) n n) L/\Bl w w'/\w.heap.size<w'.heap.size:=by
 obtain⟨C,hC,Vd⟩:=zcd n hn;have HC:Hid (C.size=n):=hC;have H:Hid (Fs w a b off n L):=h;have HL:Hid (L.length=n):=h.len;go_enter func30,ntmps30;go_wp2;go_loopw [4] (fun i wr=>∃(k:Nat) (D:Array Value),k<=n/\i=.int .i64 k/\D.size=n/\Fc wr w.heap.size 9 D/\Hid (zdw D L k)/\Bl w wr) (fun i _=>n-(intOf i).toNat)
 case atStart=>exact⟨0,C,by omega,rfl,HC.out,Fc.new _ _ _,fun j hj=>by omega,(Qb _ _).alloc (Qc _) _⟩
 case round=>
  obtain⟨k,D,Ve,rfl,hD,Sz,Va,bk⟩:=hrel;have HD:Hid (D.size=n):=hD;have sk:=bk.size;by_cases hlt:k<n
  ·have HW:=Lb H.out bk;have c0:=HW.cell k hlt;obtain rfl:=HW.addr (by omega);generalize hx':L.getD k empty=m at*;have HX:Hid (L.getD k empty=m):=hx';have Vc:k<D.size:=by rw[HD.out];omega
   have t0:wr.cell? ⟨w.heap.size,k,none⟩=some (D[k]'(by omega)):=by rw[Sz.cell];simp
   have f0:=Sz.frozen k;have HP:Hid _:=zdv Va.out Vc HX.out;have HR:Hid _:=Sz.set k (.string m);generalize D[k]'(by omega)=y0 at*;go_wp2;go_roundw
   case rel=>exact⟨k+1,_,by omega,by go_num,by rw[Array.size_setIfInBounds,HD.out],HR.out,HP,bk.setCell (Qc _) _⟩
   case measure=>simp[intOf];omega
  ·obtain rfl:k=n:=by omega
   have hl:=HL.out;have HO:Hid (Fz wr w.heap.size (.slice (some ⟨w.heap.size,0,none⟩) k k) L):=by
    have:=zdk (B:=w.heap.size) Sz HD.out (by rw[HL.out];exact Va.out) (by omega) (by unfold maxLen;omega) (Qc _);rw[HL.out]at this;exact this
   have Vb:=Sz.lt;go_wp2;go_ret;exact⟨rfl,HO.out,bk,Vb⟩
structure VIn (w:World) (v:Vl) (vi vp vr:Value):Prop where
 ia:∃a b off c,vi= .slice a v.ia.length c/\Fs w a b off v.ia.length v.ia
 pj:∃a b off c,vp= .slice a v.pj.length c/\zan w a b off v.pj.length v.pj
 rq:∃a b off c,vr= .slice a v.rq.length c/\F7 w a b off v.rq.length v.rq
theorem VIn.bw(h:VIn w v vi vp vr)(hb:Bl w w'):VIn w' v vi vp vr:=by
 obtain⟨⟨a1,b1,o1,c1,e1,h1⟩,⟨a2,b2,o2,c2,e2,h2⟩,⟨a3,b3,o3,c3,e3,h3⟩⟩:=h;exact⟨⟨a1,b1,o1,c1,e1,Lb h1 hb⟩,⟨a2,b2,o2,c2,e2,h2.bw hb⟩,⟨a3,b3,o3,c3,e3,h3.bw hb⟩⟩
structure zeo (v:Vl):Prop where
 text:v.text.size<=9223372036854775807
 ni:v.ia.length<=9223372036854775807
 np:v.pj.length<=9223372036854775807
 nr:v.rq.length<=9223372036854775807
 pj:∀i,i<v.pj.length->(v.pj.getD i (bz,bz)).1.size<=9223372036854775807/\(v.pj.getD i (bz,bz)).2.size<=9223372036854775807
 rq:∀i,i<v.rq.length->(v.rq.getD i rk0).m.size<=9223372036854775807
structure zal (v:Vl):Prop where
 fit:Ek v
 one:One v
theorem zc0:∀(T:List ByteArray)(t:ByteArray),t∈T->t.size<=tot T
 |x::T,t,h=>by
  have e:tot (x::T)=x.size+tot T:=by simp[tot]
  rw[e];rcases List.mem_cons.1 h with rfl|h
  ·omega
  ·have:=zc0 T t h;omega
theorem at5{a b:Value}(h:Fc W g T #[a,b,c,d,e]):W.cell? ⟨g,0,none⟩=some a/\W.cell? ⟨g,1,none⟩=some b/\W.cell? ⟨g,2,none⟩=some c/\W.cell? ⟨g,3,none⟩=some d/\W.cell? ⟨g,4,none⟩=some e:=
 ⟨h.cell 0,h.cell 1,h.cell 2,h.cell 3,h.cell 4⟩
abbrev lvC (k:Int) (t:ByteArray) (vi vp vr:Value):Array Value:= #[.int .i64 k,.string t,vi,vp,vr]
theorem zby(v:Vl)(vi vp vr:Value)(left:Int)(w:World)(h:VIn w v vi vp vr)(hl:zeo v)(h0:0<=left)(h1:left<=1048576):
  Calls prog 116 #[vlV v.kind v.text vi vp vr,.int .i64 left] w fun e w'=>(∃r:Int,e=.returned (.int .i64 r)/\(r<0\/(r<=left/\zal v)))/\Bl w w':=by
 obtain⟨⟨a1,B1,o1,c1,e1,i1⟩,⟨a2,B2,o2,c2,e2,i2⟩,⟨a3,B3,o3,c3,e3,i3⟩⟩:=h;obtain⟨l1,l2,l3,l4,l5,l6⟩:=hl;subst e1 e2 e3;have HG:Hid (v.text.size<=1048576->v.ia.length<=1048576->(∀t∈v.ia,t.size<=1048576)->v.pj.length<=1048576->v.rq.length<=1048576->zal v):=fun q1 q2 q3 q4 q5=>⟨⟨q1,q2,q4,q5⟩,⟨q2,q4,q5,q3⟩⟩;have Sz:Bl w (w.alloc (.cells (lvC v.kind v.text (.slice a1 v.ia.length c1) (.slice a2 v.pj.length c2) (.slice a3 v.rq.length c3)) 97)):=(Qb _ w).alloc (Qc _) _;have r0:=Fc.new w 97 (lvC v.kind v.text (.slice a1 v.ia.length c1) (.slice a2 v.pj.length c2) (.slice a3 v.rq.length c3));have hq:∀(l:Int) W,0<=l->l<=1048576->Bl w W->Calls prog 28 #[.slice a1 v.ia.length c1,.int .i64 l] W fun e w'=>(∃r:Int,e=.returned (.int .i64 r)/\(r<0\/(r<=l/\v.ia.length<=1048576/\∀t∈v.ia,t.size<=1048576)))/\w'=W:=fun l W q0 q1 hb=>
  (zdx a1 B1 o1 v.ia.length c1 v.ia l W (Lb i1 hb) l2 q0 (by omega)).mono fun e w' ⟨⟨r,he,hr⟩,hw⟩=>⟨⟨r,he,by
   rcases hr with hr|hr
   ·exact .inl hr
   ·by_cases hr0:r<0
    ·exact .inl hr0
    ·refine .inr ⟨by omega,by omega,fun t ht=>?_⟩;have:=zc0 v.ia t ht;omega⟩,hw⟩
 have HI:Hid _:=hq;have HP:Hid (∀(l:Int) W,0<=l->l<=1048576->Bl w W->Cp 161 #[.slice a2 v.pj.length c2,.int .i64 l] W fun e w'=>(∃r:Int,e=.returned (.int .i64 r)/\(r<0\/(r<=l/\v.pj.length<=1048576)))/\Bl W w'):=fun l W q0 q1 hb=>zbp a2 B2 o2 _ c2 v.pj l W (i2.bw hb) l3 l5 q0 q1;have HR:Hid (∀(l:Int) W,0<=l->l<=1048576->Bl w W->Cp 162 #[.slice a3 v.rq.length c3,.int .i64 l] W fun e w'=>(∃r:Int,e=.returned (.int .i64 r)/\(r<0\/(r<=l/\v.rq.length<=1048576)))/\Bl W w'):=fun l W q0 q1 hb=>zb1 a3 B3 o3 _ c3 v.rq l W (i3.bw hb) l4 l6 q0 q1;clear hq i1 i2 i3 l5 l6;generalize zal v=GOOD,(∀t∈v.ia,t.size<=1048576)=TS,v.ia.length=ni,v.pj.length=np,v.rq.length=nr,v.kind=k,v.text=t at*;by_cases hneg:left-(t.size:Int)<0
 ·go_enter func116,ntmps116;go_wp2;go_ret;exact⟨⟨-1,rfl,.inl (by omega)⟩,Sz⟩
 ·have Xc:decide (left-(t.size:Int)<0)=false:=Qf hneg;have Xa:IntKind.i64.wrap (left-(t.size:Int))=left-(t.size:Int):=Kk.wrap_small (by omega) (by omega);obtain⟨l,hl⟩:∃l:Int,l=left-(t.size:Int):=⟨_,rfl⟩;have Vv:t.size<=1048576:=by omega
  have Vz:0<=l:=by omega
  have Vr:l<=1048576:=by omega
  have Xb:l<=left:=by omega
  have HL:Hid (l=left-(t.size:Int)):=hl;obtain⟨y0,y1,y2,y3,y4⟩:=at5 r0;have rl:=r0.lt;clear hl;obtain⟨wa,Ve⟩:∃wa,w.alloc (.cells (lvC k t (.slice a1 ni c1) (.slice a2 np c2) (.slice a3 nr c3)) 97)=wa:=⟨_,rfl⟩;have Vu:Hid (w.alloc (.cells (lvC k t (.slice a1 ni c1) (.slice a2 np c2) (.slice a3 nr c3)) 97)=wa):=Ve;rw[Ve]at Sz r0 rl;clear Ve y0 y1 y2 y3 y4;go_enter func116,ntmps116;go_wp2_with fail;rw[Vu.out];have e0:=HL.out;rw[<-e0];clear e0;refine(HI.out l wa Vz Vr Sz).mono ?_;rintro e w1⟨⟨r1,rfl,Vh⟩,rfl⟩;have Vm:Hid (r1<0\/(r1<=l/\ni<=1048576/\TS)):=Vh;obtain⟨y0,y1,y2,y3,y4⟩:=at5 r0;clear Vh;by_cases hx1:r1<0
  ·have Vq:decide (r1<0)=true:=Qe hx1;go_wp2;go_ret;exact⟨⟨-1,rfl,.inl (by omega)⟩,Sz⟩
  ·have Vq:decide (r1<0)=false:=Qf hx1;have Vg:=Vm.out.resolve_left hx1;have Vx:=Vg.1;have Vp:Hid (ni<=1048576/\TS):=Vg.2;clear Vg Vm;go_wp2_with fail;refine(HP.out r1 w1 (by omega) (by omega) Sz).mono ?_;rintro e w2⟨⟨r2,rfl,Vo⟩,b2⟩;have Vk:Hid (r2<0\/(r2<=r1/\np<=1048576)):=Vo;have Va:=Sz.trans (b2.mono Sz.size);have Vt:=Fc.bw r0 b2 rl;clear y0 y1 y2 y3 y4 Vo;obtain⟨y0,y1,y2,y3,y4⟩:=at5 Vt;by_cases hx2:r2<0
   ·have Vf:decide (r2<0)=true:=Qe hx2;go_wp2;go_ret;exact⟨⟨-1,rfl,.inl (by omega)⟩,Va⟩
   ·have Vf:decide (r2<0)=false:=Qf hx2;have Vc:=Vk.out.resolve_left hx2;have Vw:=Vc.1;have Vy:Hid (np<=1048576):=Vc.2;clear Vc Vk;go_wp2_with fail;refine(HR.out r2 w2 (by omega) (by omega) Va).mono ?_;rintro e w3⟨⟨r3,rfl,Vj⟩,b3⟩;have Vn:Hid (r3<0\/(r3<=r2/\nr<=1048576)):=Vj;have Vi:=Va.trans (b3.mono Va.size);clear y0 y1 y2 y3 y4 Vj;by_cases hx3:r3<0
    ·have Vd:decide (r3<0)=true:=Qe hx3;go_wp2;go_ret;exact⟨⟨-1,rfl,.inl (by omega)⟩,Vi⟩
    ·have Vd:decide (r3<0)=false:=Qf hx3;have Vb:=Vn.out.resolve_left hx3;have Vs:Hid (r3<=left/\GOOD):=⟨by have:=Vb.1;omega,HG.out Vv Vp.out.1 Vp.out.2 Vy.out Vb.2⟩;clear Vb Vn;go_wp2;go_ret;exact⟨⟨r3,rfl,.inr Vs.out⟩,Vi⟩
theorem Ic{e:TypeId}{size:Nat}{v:Value}{xs:List Value}(h:w.ownsRow B e size v n xs)(hq:q.block<B)(x:Value):(w.setCell q x).ownsRow B e size v n xs:=
 Lt h fun g hg=>by
  have:=(Hf h hg).1;exact Below.heap_setCell _ _ _ _ (by omega)
theorem E8(h:VOwn w B v vi vp vr)(hq:q.block<B)(x:Value):VOwn (w.setCell q x) B v vi vp vr:=
 ⟨Ic h.ia hq x,Ic h.pj hq x,Ic h.rq hq x⟩
theorem zbi(w:World)(C0 C1 C2:Array Value)(T0 T1 T2:TypeId):Fc (((w.alloc (.cells C0 T0)).alloc (.cells C1 T1)).alloc (.cells C2 T2)) w.heap.size T0 C0/\Fc (((w.alloc (.cells C0 T0)).alloc (.cells C1 T1)).alloc (.cells C2 T2)) (w.heap.size+1) T1 C1/\Fc (((w.alloc (.cells C0 T0)).alloc (.cells C1 T1)).alloc (.cells C2 T2)) (w.heap.size+1+1) T2 C2/\(((w.alloc (.cells C0 T0)).alloc (.cells C1 T1)).alloc (.cells C2 T2)).heap.size=w.heap.size+1+1+1:=by
 have r2:=Fc.new ((w.alloc (.cells C0 T0)).alloc (.cells C1 T1)) T2 C2;have r1:=Fc.bw (Fc.new (w.alloc (.cells C0 T0)) T1 C1) ((Qb _ _).alloc (Qc _) (.cells C2 T2)) (by simp);have r0:=Fc.bw (Fc.bw (Fc.new w T0 C0) ((Qb _ _).alloc (Qc _) (.cells C1 T1)) (by simp)) ((Qb _ _).alloc (Qc _) (.cells C2 T2)) (by simp;omega);simp only[World.size_alloc]at r1 r2;exact⟨r0,r1,r2,by simp⟩
theorem I1{C:Array Value}(h:Fc w g T C)(hq:q.block≠g)(x:Value):Fc (w.setCell q x) g T C:=
 (Below.heap_setCell _ _ _ _ (fun e=>hq e.symm)).trans h
theorem zb4(v:Vl)(vi vp vr:Value)(w:World)(h:VIn w v vi vp vr)(hg:zal v):
  Calls prog 117 #[vlV v.kind v.text vi vp vr] w fun e w'=>∃xi xp xr,e=.returned (vlV v.kind v.text xi xp xr)/\VOwn w' w.heap.size v xi xp xr/\Bl w w':=by
 obtain⟨⟨a1,B1,o1,c1,e1,i1⟩,⟨a2,B2,o2,c2,e2,i2⟩,⟨a3,B3,o3,c3,e3,i3⟩⟩:=h;subst e1 e2 e3;have HI:Hid (∀W,Bl w W->Cp 30 #[.slice a1 v.ia.length c1] W fun e w'=>e=.returned (.slice (some ⟨W.heap.size,0,none⟩) v.ia.length v.ia.length)/\Fz w' W.heap.size (.slice (some ⟨W.heap.size,0,none⟩) v.ia.length v.ia.length) v.ia/\Bl W w'/\W.heap.size<w'.heap.size):=fun W hb=>Hq a1 B1 o1 _ c1 v.ia W (Lb i1 hb) hg.one.ni;have HP:Hid (∀W,Bl w W->Cp 163 #[.slice a2 v.pj.length c2] W fun e w'=>e=.returned (.slice (some ⟨W.heap.size,0,none⟩) v.pj.length v.pj.length)/\G3 w' W.heap.size (.slice (some ⟨W.heap.size,0,none⟩) v.pj.length v.pj.length) v.pj/\Bl W w'/\W.heap.size<w'.heap.size):=fun W hb=>zb2 a2 B2 o2 _ c2 v.pj W (i2.bw hb) hg.one.np;have HR:Hid (∀W,Bl w W->Cp 164 #[.slice a3 v.rq.length c3] W fun e w'=>e=.returned (.slice (some ⟨W.heap.size,0,none⟩) v.rq.length v.rq.length)/\Fo w' W.heap.size (.slice (some ⟨W.heap.size,0,none⟩) v.rq.length v.rq.length) v.rq/\Bl W w'/\W.heap.size<w'.heap.size):=fun W hb=>zbw a3 B3 o3 _ c3 v.rq W (i3.bw hb) hg.one.nr;clear i1 i2 i3 hg;obtain⟨k,t,is,ps,rs⟩:=v;dsimp only at*;go_enter func117,ntmps117;go_wp2_with fail;have bw:Bl w (((w.alloc (.cells #[.int .i64 k,.string t,.slice a1 is.length c1,.slice a2 ps.length c2,.slice a3 rs.length c3] 97)).alloc (.cells #[.int .i64 0,.string ⟨#[]⟩,.slice none 0 0,.slice none 0 0,.slice none 0 0] 45)).alloc (.cells #[.int .i64 k,.string t,.slice none 0 0,.slice none 0 0,.slice none 0 0] 45)):=Go.Joins.below_alloc3 _ _ _ _;obtain⟨r0,r1,r2,Vm⟩:=zbi w #[.int .i64 k,.string t,.slice a1 is.length c1,.slice a2 ps.length c2,.slice a3 rs.length c3] #[.int .i64 0,.string ⟨#[]⟩,.slice none 0 0,.slice none 0 0,.slice none 0 0] #[.int .i64 k,.string t,.slice none 0 0,.slice none 0 0,.slice none 0 0] 97 45 45;generalize(((w.alloc (.cells #[.int .i64 k,.string t,.slice a1 is.length c1,.slice a2 ps.length c2,.slice a3 rs.length c3] 97)).alloc (.cells #[.int .i64 0,.string ⟨#[]⟩,.slice none 0 0,.slice none 0 0,.slice none 0 0] 45)).alloc (.cells #[.int .i64 k,.string t,.slice none 0 0,.slice none 0 0,.slice none 0 0] 45))=W at*;refine(HI.out W bw).mono ?_;rintro e w1⟨rfl,Va,b1,s1⟩;have q0:=Fc.bw r0 b1 (by omega);have q1:=Fc.bw r1 b1 (by omega);have q2:=Fc.bw r2 b1 (by omega);have Vi:Bl w w1:=bw.trans (b1.mono (by omega));clear r0 r1 r2 b1 bw;generalize hg1:W.heap.size=g1 at*;have Vq:w.heap.size+1+1+1<=g1:=by omega
 clear hg1 Vm;obtain⟨wA,hA⟩:∃wA,wA=w1.setCell ⟨w.heap.size+1+1,2,none⟩ (.slice (some ⟨g1,0,none⟩) is.length is.length):=⟨_,rfl⟩;have p0:Fc wA w.heap.size 97 #[.int .i64 k,.string t,.slice a1 is.length c1,.slice a2 ps.length c2,.slice a3 rs.length c3]:=by rw[hA];exact I1 q0 (by simp only;omega) _
 have p1:Fc wA (w.heap.size+1) 45 #[.int .i64 0,.string ⟨#[]⟩,.slice none 0 0,.slice none 0 0,.slice none 0 0]:=by rw[hA];exact I1 q1 (by simp only;omega) _
 have p2:Fc wA (w.heap.size+1+1) 45 #[.int .i64 k,.string t,.slice (some ⟨g1,0,none⟩) is.length is.length,.slice none 0 0,.slice none 0 0]:=by rw[hA];exact q2.set 2 _
 have Sz:Fz wA g1 (.slice (some ⟨g1,0,none⟩) is.length is.length) is:=by rw[hA];exact Ic Va (by simp only;omega) _
 have bA:Bl w wA:=by rw[hA];exact Vi.setCell (by simp only;omega) _
 have sA:g1<wA.heap.size:=by rw[hA];simpa[World.setCell]using s1
 obtain⟨y0,y1,y2,y3,y4⟩:=at5 q0;obtain⟨z0,z1,z2,z3,z4⟩:=at5 q2;have Vo:=q2.frozen 2;have HA:Hid (wA=w1.setCell ⟨w.heap.size+1+1,2,none⟩ (.slice (some ⟨g1,0,none⟩) is.length is.length)):=hA;have Vk:Hid (Fc wA w.heap.size 97 #[.int .i64 k,.string t,.slice a1 is.length c1,.slice a2 ps.length c2,.slice a3 rs.length c3]):=p0;have Vg:=(at5 p0).2.2.2.1;rw[hA]at Vg;clear hA q0 q1 q2 Vi Va s1;go_wp2_with fail;rw[<-HA.out];clear y0 y1 y2 y3 y4 z0 z1 z2 z3 z4 Vo Vg HA Vk;refine(HP.out wA bA).mono ?_;rintro e w2⟨rfl,Vd,b2,s2⟩;have q0:=Fc.bw p0 b2 (by omega);have q1:=Fc.bw p1 b2 (by omega);have q2:=Fc.bw p2 b2 (by omega);have Va:=Fw Sz b2;have Vf:Bl w w2:=bA.trans (b2.mono (by omega));clear p0 p1 p2 b2 bA Sz;generalize hg2:wA.heap.size=g2 at*;clear hg2;obtain⟨wB,hB⟩:∃wB,wB=w2.setCell ⟨w.heap.size+1+1,3,none⟩ (.slice (some ⟨g2,0,none⟩) ps.length ps.length):=⟨_,rfl⟩;have p0:Fc wB w.heap.size 97 #[.int .i64 k,.string t,.slice a1 is.length c1,.slice a2 ps.length c2,.slice a3 rs.length c3]:=by rw[hB];exact I1 q0 (by simp only;omega) _
 have p1:Fc wB (w.heap.size+1) 45 #[.int .i64 0,.string ⟨#[]⟩,.slice none 0 0,.slice none 0 0,.slice none 0 0]:=by rw[hB];exact I1 q1 (by simp only;omega) _
 have p2:Fc wB (w.heap.size+1+1) 45 #[.int .i64 k,.string t,.slice (some ⟨g1,0,none⟩) is.length is.length,.slice (some ⟨g2,0,none⟩) ps.length ps.length,.slice none 0 0]:=by rw[hB];exact q2.set 3 _
 have Sz:Fz wB g1 (.slice (some ⟨g1,0,none⟩) is.length is.length) is:=by rw[hB];exact Ic Va (by simp only;omega) _
 have Vb:G3 wB g2 (.slice (some ⟨g2,0,none⟩) ps.length ps.length) ps:=by rw[hB];exact Ic Vd (by simp only;omega) _
 have bB:Bl w wB:=by rw[hB];exact Vf.setCell (by simp only;omega) _
 have sB:g2<wB.heap.size:=by rw[hB];simpa[World.setCell]using s2
 obtain⟨y0,y1,y2,y3,y4⟩:=at5 q0;obtain⟨z0,z1,z2,z3,z4⟩:=at5 q2;have Vn:=q2.frozen 3;have HB:Hid (wB=w2.setCell ⟨w.heap.size+1+1,3,none⟩ (.slice (some ⟨g2,0,none⟩) ps.length ps.length)):=hB;have Vh:=(at5 p0).2.2.2.2;rw[hB]at Vh;clear hB q0 q1 q2 Vf Va Vd s2;go_wp2_with fail;rw[<-HB.out];clear y0 y1 y2 y3 y4 z0 z1 z2 z3 z4 Vn Vh HB;refine(HR.out wB bB).mono ?_;rintro e w3⟨rfl,Vc,b3,s3⟩;have q1:=Fc.bw p1 b3 (by omega);have q2:=Fc.bw p2 b3 (by omega);have o1:=Fw Sz b3;have o2:=Fw Vb b3;have Vj:Bl w w3:=bB.trans (b3.mono (by omega));clear p0 p1 p2 b3 bB Sz Vb;generalize hg3:wB.heap.size=g3 at*;clear hg3;have Ve:Hid (VOwn w3 (w.heap.size+1+1+1) ⟨k,t,is,ps,rs⟩ (.slice (some ⟨g1,0,none⟩) is.length is.length) (.slice (some ⟨g2,0,none⟩) ps.length ps.length) (.slice (some ⟨g3,0,none⟩) rs.length rs.length)):=⟨Go.Joins.ownsRow_le o1 (by omega),Go.Joins.ownsRow_le o2 (by omega),Go.Joins.ownsRow_le Vc (by omega)⟩;obtain⟨z0,z1,z2,z3,z4⟩:=at5 q2;obtain⟨x0,x1,x2,x3,x4⟩:=at5 q1;have Vt:=q2.frozen 4;have Vu:=q1.frozen 0;have Vs:=q1.frozen 1;have Vp:=q1.frozen 2;have Vv:=q1.frozen 3;have Vr:=q1.frozen 4;clear q1 q2 o1 o2 Vc;go_wp2;refine bodyPost_ret (v:=vlV k t (.slice (some ⟨g1,0,none⟩) is.length is.length) (.slice (some ⟨g2,0,none⟩) ps.length ps.length) (.slice (some ⟨g3,0,none⟩) rs.length rs.length)) (by simp[results,results117,go_sem,x0,x1,x2,x3,x4]) rfl ⟨_,_,_,rfl,?_,?_⟩
 ·refine ygx (B:=w.heap.size+1+1+1) ?_ (by omega);repeat refine E8 ?_ (by first|omega|(simp only;omega)) _
  exact Ve.out
 ·repeat refine Below.setCell ?_ (by first|omega|(simp only;omega)) _
  exact Vj
theorem at7{a b f h:Value}(q:Fc W g T #[a,b,c,d,e,f,h]):W.cell? ⟨g,0,none⟩=some a/\W.cell? ⟨g,1,none⟩=some b/\W.cell? ⟨g,2,none⟩=some c/\W.cell? ⟨g,3,none⟩=some d/\W.cell? ⟨g,4,none⟩=some e/\W.cell? ⟨g,5,none⟩=some f/\W.cell? ⟨g,6,none⟩=some h:=
 ⟨q.cell 0,q.cell 1,q.cell 2,q.cell 3,q.cell 4,q.cell 5,q.cell 6⟩
structure zci (k:Ke):Prop where
 name:k.name.size<=9223372036854775807
 val:zeo k.val
structure H8 (k:Ke):Prop where
 name:k.name.size<=1048576
 val:zal k.val
theorem zdi(x:KV)(left:Int)(w:World)(h:VIn w x.key.val x.vi x.vp x.vr)(hl:zci x.key)(h0:0<=left)(h1:left<=1048576):
  Calls prog 67 #[kvV x,.int .i64 left] w fun e w'=>(∃r:Int,e=.returned (.int .i64 r)/\(r<0\/(r<=left/\H8 x.key)))/\Bl w w':=by
 have Vd:=hl.name;have HV:Hid (∀(l:Int) W,0<=l->l<=1048576->Bl w W->Cp 116 #[vlV x.key.val.kind x.key.val.text x.vi x.vp x.vr,.int .i64 l] W fun e w'=>(∃r:Int,e=.returned (.int .i64 r)/\(r<0\/(r<=l/\zal x.key.val)))/\Bl W w'):=fun l W q0 q1 hb=>zby x.key.val x.vi x.vp x.vr l W (h.bw hb) hl.val q0 q1;have HG:Hid (x.key.name.size<=1048576->zal x.key.val->H8 x.key):=fun a b=>⟨a,b⟩;clear h hl;generalize H8 x.key=GOOD,zal x.key.val=VG at*;obtain⟨⟨nm,⟨kd,t,_,_,_⟩,d⟩,vi,vp,vr⟩:=x;dsimp only at*;have b0:Bl w (w.alloc (.cells #[.string nm,.int .i64 kd,.string t,vi,vp,vr,.int .i64 d] 99)):=(Qb _ w).alloc (Qc _) _;by_cases hneg:left-(nm.size:Int)<0
 ·go_enter func67,ntmps67;go_wp2;go_ret;exact⟨⟨-1,rfl,.inl (by omega)⟩,b0⟩
 ·have Ve:decide (left-(nm.size:Int)<0)=false:=Qf hneg;have Va:=HV.out (left-(nm.size:Int)) _ (by omega) (by omega) b0;obtain⟨wa,Sz⟩:∃wa,w.alloc (.cells #[.string nm,.int .i64 kd,.string t,vi,vp,vr,.int .i64 d] 99)=wa:=⟨_,rfl⟩;have Vb:Hid (w.alloc (.cells #[.string nm,.int .i64 kd,.string t,vi,vp,vr,.int .i64 d] 99)=wa):=Sz;rw[Sz]at b0 Va;clear Sz HV;go_enter func67,ntmps67;go_wp2_with fail;rw[Vb.out];refine Va.mono ?_;rintro e w1⟨⟨r,rfl,hr⟩,b1⟩;have HR:Hid (r<0\/(r<=left-(nm.size:Int)/\VG)):=hr;have bb:=b0.trans (b1.mono b0.size);clear hr Va;by_cases hx:r<0
  ·have Vc:decide (r<0)=true:=Qe hx;go_wp2;go_ret;exact⟨⟨-1,rfl,.inl (by omega)⟩,bb⟩
  ·have Vc:decide (r<0)=false:=Qf hx;have hz:=HR.out.resolve_left hx;have HZ:Hid (r<=left/\GOOD):=⟨by have:=hz.1;omega,HG.out (by omega) hz.2⟩;clear hz HR;go_wp2;go_ret;exact⟨⟨r,rfl,.inr HZ.out⟩,bb⟩
theorem zde(x:KV)(w:World)(h:VIn w x.key.val x.vi x.vp x.vr)(hg:zal x.key.val):
  Calls prog 68 #[kvV x] w fun e w'=>∃xi xp xr,e=.returned (kvV ⟨x.key,xi,xp,xr⟩)/\VOwn w' w.heap.size x.key.val xi xp xr/\Bl w w':=by
 have HV:Hid (∀W,Bl w W->Cp 117 #[vlV x.key.val.kind x.key.val.text x.vi x.vp x.vr] W fun e w'=>∃xi xp xr,e=.returned (vlV x.key.val.kind x.key.val.text xi xp xr)/\VOwn w' W.heap.size x.key.val xi xp xr/\Bl W w'):=fun W hb=>zb4 x.key.val x.vi x.vp x.vr W (h.bw hb) hg;obtain⟨⟨nm,vl,d⟩,vi,vp,vr⟩:=x;dsimp only at*;show Calls prog 68 #[.agg #[.string nm,.int .i64 vl.kind,.string vl.text,vi,vp,vr,.int .i64 d]] w fun e w'=>∃xi xp xr,e=.returned (.agg #[.string nm,.int .i64 vl.kind,.string vl.text,xi,xp,xr,.int .i64 d])/\VOwn w' w.heap.size vl xi xp xr/\Bl w w';generalize vl.kind=kd,vl.text=t at*;go_enter func68,ntmps68;go_wp2_with fail;have bw:Bl w (((w.alloc (.cells #[.string nm,.int .i64 kd,.string t,vi,vp,vr,.int .i64 d] 99)).alloc (.cells #[.string ⟨#[]⟩,.int .i64 0,.string ⟨#[]⟩,.slice none 0 0,.slice none 0 0,.slice none 0 0,.int .i64 0] 47)).alloc (.cells #[.string nm,.int .i64 0,.string ⟨#[]⟩,.slice none 0 0,.slice none 0 0,.slice none 0 0,.int .i64 0] 47)):=Go.Joins.below_alloc3 _ _ _ _;obtain⟨r0,r1,r2,Vb⟩:=zbi w #[.string nm,.int .i64 kd,.string t,vi,vp,vr,.int .i64 d] #[.string ⟨#[]⟩,.int .i64 0,.string ⟨#[]⟩,.slice none 0 0,.slice none 0 0,.slice none 0 0,.int .i64 0] #[.string nm,.int .i64 0,.string ⟨#[]⟩,.slice none 0 0,.slice none 0 0,.slice none 0 0,.int .i64 0] 99 47 47;generalize(((w.alloc (.cells #[.string nm,.int .i64 kd,.string t,vi,vp,vr,.int .i64 d] 99)).alloc (.cells #[.string ⟨#[]⟩,.int .i64 0,.string ⟨#[]⟩,.slice none 0 0,.slice none 0 0,.slice none 0 0,.int .i64 0] 47)).alloc (.cells #[.string nm,.int .i64 0,.string ⟨#[]⟩,.slice none 0 0,.slice none 0 0,.slice none 0 0,.int .i64 0] 47))=W at*;refine(HV.out W bw).mono ?_;rintro e w1⟨xi,xp,xr,rfl,Sz,b1⟩;have q0:=Fc.bw r0 b1 (by omega);have q1:=Fc.bw r1 b1 (by omega);have q2:=Fc.bw r2 b1 (by omega);have Vc:Bl w w1:=bw.trans (b1.mono (by omega));obtain⟨pa,pc,ei⟩:=Fx Sz.ia;obtain⟨qa,qc,ep⟩:=Fx Sz.pj;obtain⟨sa,sc,er⟩:=Fx Sz.rq;subst ei ep er;have Va:Hid (VOwn w1 (w.heap.size+1+1+1) vl (.slice pa vl.ia.length pc) (.slice qa vl.pj.length qc) (.slice sa vl.rq.length sc)):=ygx Sz (by omega);generalize vl.ia.length=ni,vl.pj.length=np,vl.rq.length=nr at*;obtain⟨y0,y1,y2,y3,y4,y5,y6⟩:=at7 q0;obtain⟨z0,z1,z2,z3,z4,z5,z6⟩:=at7 q2;obtain⟨x0,x1,x2,x3,x4,x5,x6⟩:=at7 q1;have Vj:=q2.frozen 1;have Vq:=q2.frozen 2;have Vi:=q2.frozen 3;have Vd:=q2.frozen 4;have Vg:=q2.frozen 5;have Vn:=q2.frozen 6;have Ve:=q1.frozen 0;have Vp:=q1.frozen 1;have Vf:=q1.frozen 2;have Vh:=q1.frozen 3;have Vo:=q1.frozen 4;have Vk:=q1.frozen 5;have Vm:=q1.frozen 6;go_wp2;refine bodyPost_ret (v:=.agg #[.string nm,.int .i64 kd,.string t,.slice pa ni pc,.slice qa np qc,.slice sa nr sc,.int .i64 d]) (by simp[results,results68,go_sem,x0,x1,x2,x3,x4,x5,x6]) rfl ⟨_,_,_,rfl,?_,?_⟩
 ·refine ygx (B:=w.heap.size+1+1+1) ?_ (by omega);repeat refine E8 ?_ (by first|omega|(simp only;omega)) _
  exact Va.out
 ·repeat refine Below.setCell ?_ (by first|omega|(simp only;omega)) _
  exact Vc
structure Ir (w:World) (a:Option Addr) (b off n:Nat) (L:List KV):Prop where
 len:L.length=n
 addr:0<n->a=some ⟨b,off,none⟩
 low:0<n->b<w.heap.size
 cell:∀i,i<n->Ck w b (off+i*7) (L.getD i kv0)
 val:∀i,i<n->VIn w (L.getD i kv0).key.val (L.getD i kv0).vi (L.getD i kv0).vp (L.getD i kv0).vr
theorem Ir.bw{L:List KV}(h:Ir w a b off n L)(hb:Bl w w'):Ir w' a b off n L:=
 ⟨h.len,h.addr,fun h0=>by have:=h.low h0;have:=hb.size;omega,fun i hi=>yde (h.cell i hi) (h.low (by omega)) hb,fun i hi=>(h.val i hi).bw hb⟩
theorem zcs(a:Option Addr)(b off n c:Nat)(L:List KV)(left:Int)(w:World)(h:Ir w a b off n L)(hn:n<=9223372036854775807)(hs:∀i,i<n->zci (L.getD i kv0).key)(h0:0<=left)(h1:left<=1048576):
  Calls prog 27 #[.slice a n c,.int .i64 left] w fun e w'=>(∃r:Int,e=.returned (.int .i64 r)/\(r<0\/(r<=left/\n<=1048576/\∀i,i<n->H8 (L.getD i kv0).key)))/\Bl w w':=by
 have H:Hid (Ir w a b off n L):=h;have HS:Hid (∀i,i<n->zci (L.getD i kv0).key):=hs;by_cases hneg:left-(n:Int)<0
 ·go_enter func27,ntmps27;go_wp2;go_ret;exact⟨⟨-1,rfl,.inl (by omega)⟩,Qb _ _⟩
 ·go_enter func27,ntmps27;go_wp2;go_loopw [1,5] (fun q i wr=>∃(k:Nat) (l:Int),k<=n/\i=.int .i64 k/\q=.int .i64 l/\0<=l/\l<=left/\Hid (∀i,i<k->H8 (L.getD i kv0).key)/\Bl w wr) (fun _ i _=>n-(intOf i).toNat)
  case atStart=>exact⟨0,left-n,by omega,rfl,rfl,by omega,by omega,(fun i hi=>by omega),Qb _ _⟩
  case round=>
   obtain⟨k,l,hk,rfl,rfl,Vc,Ve,Va,bk⟩:=hrel;have sk:=bk.size;by_cases hlt:k<n
   ·have HW:=H.out.bw bk;have hc:=HW.cell k hlt;have hv:=HW.val k hlt;obtain rfl:=HW.addr (by omega);have cS:=zdi (L.getD k kv0) l wr hv (HS.out k hlt) Vc (by omega);have HN:Hid (H8 (L.getD k kv0).key->∀i,i<k+1->H8 (L.getD i kv0).key):=fun h i hi=>by
     by_cases e:i=k
     ·subst e;exact h
     ·exact Va.out i (by omega)
    generalize L.getD k kv0=x at*;generalize H8 x.key=GK at*;obtain⟨⟨nm,⟨kd,t,_,_,_⟩,d⟩,vi,vp,vr⟩:=x;obtain⟨c0,c1,c2,c3,c4,c5,c6⟩:=hc;dsimp only at c0 c1 c2 c3 c4 c5 c6;go_wp2_with fail;refine cS.mono ?_;rintro e w1⟨⟨r,rfl,hr⟩,b1⟩;have HR:Hid (r<0\/(r<=l/\GK)):=hr;have b2:=bk.trans (b1.mono sk);by_cases hr0:r<0
    ·go_wp2;go_ret;exact⟨⟨-1,rfl,.inl (by omega)⟩,b2⟩
    ·have Sz:=HR.out.resolve_left hr0;have Vd:r<=left:=by have:=Sz.1;omega
     have Vb:Hid (∀i,i<k+1->H8 (L.getD i kv0).key):=HN.out Sz.2;go_wp2;go_roundw
     case rel=>exact⟨k+1,r,by omega,by go_num,rfl,by omega,by omega,Vb,b2⟩
     case measure=>simp[intOf];omega
   ·obtain rfl:k=n:=by omega
    go_wp2;go_ret;exact⟨⟨l,rfl,.inr ⟨by omega,by omega,Va.out⟩⟩,bk⟩
theorem zdh(n:Nat)(hn:n<=1048576):∃C:Array Value,C.size=n*7/\∀w,(Instr.makeSlice 24 (.int .i64 n) (.int .i64 n)).run prog w=.ok (.slice (some ⟨w.heap.size,0,none⟩) n n) (w.alloc (.cells C 47)):=by
 obtain⟨i0,hi,Va,Sz,Vb⟩:=info_parts yi9;refine⟨madeCells (Value.agg #[.string ⟨#[]⟩,.int .i64 0,.string ⟨#[]⟩,.slice none 0 0,.slice none 0 0,.slice none 0 0,.int .i64 0]).cells (n*i0.size),by rw[size_madeCells,Sz],fun w=>?_⟩;have:=run_make (P:=prog) w 24 47 i0 _ underlying24 hi Va .i64 .i64 n n (by omega) (by omega) (by rw[Vb];omega) (by omega);simpa using this
def zc2 (D:Array Value) (A:List KV):Prop:=∀i,i<A.length->∀j,j<7->D[i*7+j]?=(kvC (A.getD i kv0))[j]?
theorem zc9(y:KV)(hk:A.length=k)(h:zc2 D A)(hD:k*7+6<D.size):zc2 (((((((D.setIfInBounds (k*7) (.string y.key.name)).setIfInBounds (k*7+1) (.int .i64 y.key.val.kind)).setIfInBounds (k*7+2) (.string y.key.val.text)).setIfInBounds (k*7+3) (y.vi)).setIfInBounds (k*7+4) (y.vp)).setIfInBounds (k*7+5) (y.vr)).setIfInBounds (k*7+6) (.int .i64 y.key.due)) (A++ [y]):=by
 intro i hi j hj;rw[Qi,hk]at hi;simp only[Q1,List.length_nil]at hi;by_cases e:i=k
 ·subst e;rw[show(A++ [y]).getD i kv0=y by rw[Qa,<-hk];simp];have h7:j=0\/j=1\/j=2\/j=3\/j=4\/j=5\/j=6:=by omega
  rcases h7 with rfl|rfl|rfl|rfl|rfl|rfl|rfl
  ·rw[show i*7+0=i*7 from rfl,Array.getElem?_setIfInBounds_ne (by omega),Array.getElem?_setIfInBounds_ne (by omega),Array.getElem?_setIfInBounds_ne (by omega),Array.getElem?_setIfInBounds_ne (by omega),Array.getElem?_setIfInBounds_ne (by omega),Array.getElem?_setIfInBounds_ne (by omega),Array.getElem?_setIfInBounds_self_of_lt (by first|omega|(simp only[Array.size_setIfInBounds];omega))];rfl
  ·rw[Array.getElem?_setIfInBounds_ne (by omega),Array.getElem?_setIfInBounds_ne (by omega),Array.getElem?_setIfInBounds_ne (by omega),Array.getElem?_setIfInBounds_ne (by omega),Array.getElem?_setIfInBounds_ne (by omega),Array.getElem?_setIfInBounds_self_of_lt (by first|omega|(simp only[Array.size_setIfInBounds];omega))];rfl
  ·rw[Array.getElem?_setIfInBounds_ne (by omega),Array.getElem?_setIfInBounds_ne (by omega),Array.getElem?_setIfInBounds_ne (by omega),Array.getElem?_setIfInBounds_ne (by omega),Array.getElem?_setIfInBounds_self_of_lt (by first|omega|(simp only[Array.size_setIfInBounds];omega))];rfl
  ·rw[Array.getElem?_setIfInBounds_ne (by omega),Array.getElem?_setIfInBounds_ne (by omega),Array.getElem?_setIfInBounds_ne (by omega),Array.getElem?_setIfInBounds_self_of_lt (by first|omega|(simp only[Array.size_setIfInBounds];omega))];rfl
  ·rw[Array.getElem?_setIfInBounds_ne (by omega),Array.getElem?_setIfInBounds_ne (by omega),Array.getElem?_setIfInBounds_self_of_lt (by first|omega|(simp only[Array.size_setIfInBounds];omega))];rfl
  ·rw[Array.getElem?_setIfInBounds_ne (by omega),Array.getElem?_setIfInBounds_self_of_lt (by first|omega|(simp only[Array.size_setIfInBounds];omega))];rfl
  ·rw[Array.getElem?_setIfInBounds_self_of_lt (by first|omega|(simp only[Array.size_setIfInBounds];omega))];rfl
 ·rw[show(A++ [y]).getD i kv0=A.getD i kv0 by rw[Qa,Qa,List.getElem?_append_left (by omega)]];rw[Array.getElem?_setIfInBounds_ne (by omega),Array.getElem?_setIfInBounds_ne (by omega),Array.getElem?_setIfInBounds_ne (by omega),Array.getElem?_setIfInBounds_ne (by omega),Array.getElem?_setIfInBounds_ne (by omega),Array.getElem?_setIfInBounds_ne (by omega),Array.getElem?_setIfInBounds_ne (by omega)];exact h i (by omega) j hj
structure DbU (w:World) (B:Nat) (a:Option Addr) (b n:Nat) (L:List KV):Prop where
 ks:To w a b n L
 lo:B<=b
 val:∀i,i<n->VOwn w B (L.getD i kv0).key.val (L.getD i kv0).vi (L.getD i kv0).vp (L.getD i kv0).vr
theorem DbU.at{L:List KV}(h:DbU w B a b n L):Oc w a b n L:=⟨h.ks,fun i hi=>⟨B,h.val i hi⟩⟩
theorem DbU.bw{L:List KV}(h:DbU w B a b n L)(hb:Bl w w'):DbU w' B a b n L:=
 ⟨h.ks.bw hb,h.lo,fun i hi=>(h.val i hi).bw hb⟩
theorem zbb{o:Nat}(h:VOwn w B v vi vp vr)(hg:g<B)(a b c d e f x:Value):VOwn (World.setCell (World.setCell (World.setCell (World.setCell (World.setCell (World.setCell (World.setCell w ⟨g,o,none⟩ a) ⟨g,o+1,none⟩ b) ⟨g,o+2,none⟩ c) ⟨g,o+3,none⟩ d) ⟨g,o+4,none⟩ e) ⟨g,o+5,none⟩ f) ⟨g,o+6,none⟩ x) B v vi vp vr:=
 (E8 (E8 (E8 (E8 (E8 (E8 (E8 h (by exact hg) a) (by exact hg) b) (by exact hg) c) (by exact hg) d) (by exact hg) e) (by exact hg) f) (by exact hg) x)
def ApK (x y:KV):Prop:=(∀g,x.vi.ownBlock=some g->y.vi.ownBlock≠some g)/\(∀g,x.vp.ownBlock=some g->y.vp.ownBlock≠some g)/\(∀g,x.vr.ownBlock=some g->y.vr.ownBlock≠some g)
theorem zei{y:KV}(h:A.Pairwise ApK)(ho:∀i,i<A.length->VOwn w B (A.getD i kv0).key.val (A.getD i kv0).vi (A.getD i kv0).vp (A.getD i kv0).vr)(hy:VOwn w' w.heap.size y.key.val y.vi y.vp y.vr):(A++ [y]).Pairwise ApK:=by
 rw[List.pairwise_append];refine⟨h,by simp,fun x hx z hz=>?_⟩;obtain rfl:=List.mem_singleton.1 hz;obtain⟨i,hi,rfl⟩:=List.getElem_of_mem hx;have hv:=ho i hi;rw[show A.getD i kv0=A[i] by rw[Qa,Qd hi];rfl]at hv;exact⟨fun g h1 h2=>by have:=(Hf hv.ia h1).2;have:=(Hf hy.ia h2).1;omega,fun g h1 h2=>by have:=(Hf hv.pj h1).2;have:=(Hf hy.pj h2).1;omega,fun g h1 h2=>by have:=(Hf hv.rq h1).2;have:=(Hf hy.rq h2).1;omega⟩
theorem zaa(a:Option Addr)(b off n c:Nat)(L:List KV)(w:World)(h:Ir w a b off n L)(hn:n<=1048576)(hg:∀i,i<n->H8 (L.getD i kv0).key):
  Calls prog 29 #[.slice a n c] w fun e w'=>∃A:List KV,e=.returned (.slice (some ⟨w.heap.size,0,none⟩) n n)/\DbU w' w.heap.size (some ⟨w.heap.size,0,none⟩) w.heap.size n A/\(∀i,i<n->(A.getD i kv0).key=(L.getD i kv0).key)/\Bl w w'/\A.Pairwise ApK/\∃D:Array Value,D.size=n*7/\Fc w' w.heap.size 47 D/\∀i,i<A.length->∀j,j<7->D[i*7+j]?=(kvC (A.getD i kv0))[j]?:=by
 obtain⟨C,hC,Vt⟩:=zdh n hn;have HC:Hid (C.size=n*7):=hC;have H:Hid (Ir w a b off n L):=h;have HG:Hid (∀i,i<n->H8 (L.getD i kv0).key):=hg;go_enter func29,ntmps29;go_wp2;go_loopw [4] (fun i wr=>∃(k:Nat) (D:Array Value) (A:List KV),k<=n/\i=.int .i64 k/\Hid (D.size=n*7)/\Hid (A.length=k)/\Fc wr w.heap.size 47 D/\Hid (zc2 D A)/\Hid (∀i,i<k->(A.getD i kv0).key=(L.getD i kv0).key)/\Hid (∀i,i<k->VOwn wr (w.heap.size+1) (A.getD i kv0).key.val (A.getD i kv0).vi (A.getD i kv0).vp (A.getD i kv0).vr)/\Hid (A.Pairwise ApK)/\Bl w wr) (fun i _=>n-(intOf i).toNat)
 case atStart=>exact⟨0,C,[],by omega,rfl,HC,rfl,Fc.new _ _ _,(fun i hi=>by simp at hi),(fun i hi=>by omega),(fun i hi=>by omega),List.Pairwise.nil,(Qb _ _).alloc (Qc _) _⟩
 case round=>
  obtain⟨k,D,A,Vy,rfl,HD,Ve,Va,Vc,Vf,Vd,Vj,bk⟩:=hrel;have sk:=bk.size;by_cases hlt:k<n
  ·have HW:=H.out.bw bk;have hc:=HW.cell k hlt;have cT:=zde (L.getD k kv0) wr (HW.val k hlt) (HG.out k hlt).val;obtain rfl:=HW.addr (by omega);have Vp:=Va.lt;have Vm:Hid (∀y:KV,y.key=(L.getD k kv0).key->∀i,i<k+1->((A++ [y]).getD i kv0).key=(L.getD i kv0).key):=fun y hy i hi=>by
    by_cases e:i=k
    ·subst e;rw[show(A++ [y]).getD i kv0=y by rw[Qa,<-Ve.out];simp];exact hy
    ·rw[show(A++ [y]).getD i kv0=A.getD i kv0 by rw[Qa,Qa,List.getElem?_append_left (by rw[Ve.out];omega)]];exact Vf.out i (by omega)
   generalize L.getD k kv0=x at*;obtain⟨⟨nm,vl,d⟩,vi,vp,vr⟩:=x;obtain⟨c0,c1,c2,c3,c4,c5,c6⟩:=hc;dsimp only at c0 c1 c2 c3 c4 c5 c6;have Vk:Calls prog 68 #[.agg #[.string nm,.int .i64 vl.kind,.string vl.text,vi,vp,vr,.int .i64 d]] wr fun e w'=>∃xi xp xr,e=.returned (.agg #[.string nm,.int .i64 vl.kind,.string vl.text,xi,xp,xr,.int .i64 d])/\VOwn w' wr.heap.size vl xi xp xr/\Bl wr w':=cT;have Vu:Hid (∀xi xp xr,kvC ⟨⟨nm,vl,d⟩,xi,xp,xr⟩=[.string nm,.int .i64 vl.kind,.string vl.text,xi,xp,xr,.int .i64 d]):=fun _ _ _=>rfl;have Vh:Hid (∀xi xp xr,zc2 (((((((D.setIfInBounds (k*7) (.string nm)).setIfInBounds (k*7+1) (.int .i64 vl.kind)).setIfInBounds (k*7+2) (.string vl.text)).setIfInBounds (k*7+3) (xi)).setIfInBounds (k*7+4) (xp)).setIfInBounds (k*7+5) (xr)).setIfInBounds (k*7+6) (.int .i64 d)) (A++ [⟨⟨nm,vl,d⟩,xi,xp,xr⟩])):=fun xi xp xr=>zc9 ⟨⟨nm,vl,d⟩,xi,xp,xr⟩ Ve.out Vc.out (by rw[HD.out];omega);generalize hkd:vl.kind=kd at*;generalize htx:vl.text=t at*;go_wp2_with fail;refine Vk.mono ?_;rintro e w1⟨xi,xp,xr,rfl,Vb,b1⟩;obtain⟨pa,pc,ei⟩:=Fx Vb.ia;obtain⟨qa,qc,ep⟩:=Fx Vb.pj;obtain⟨sa,sc,er⟩:=Fx Vb.rq;subst ei ep er;have Vi:VOwn w1 (w.heap.size+1) vl (.slice pa vl.ia.length pc) (.slice qa vl.pj.length qc) (.slice sa vl.rq.length sc):=ygx Vb (by omega);have Vg:∀i,i<k->VOwn w1 (w.heap.size+1) (A.getD i kv0).key.val (A.getD i kv0).vi (A.getD i kv0).vp (A.getD i kv0).vr:=fun i hi=>(Vd.out i hi).bw b1;have Vr:Hid ((A++ [(⟨⟨nm,vl,d⟩,.slice pa vl.ia.length pc,.slice qa vl.pj.length qc,.slice sa vl.rq.length sc⟩:KV)]).Pairwise ApK):=zei Vj.out (fun i hi=>Vd.out i (by rw[<-Ve.out];exact hi)) Vb;generalize vl.ia.length=ni,vl.pj.length=np,vl.rq.length=nr at*;have Sz:=Fc.bw Va b1 Vp;have Vx:k*7+6<D.size:=by rw[HD.out];omega
   have t0:w1.cell? ⟨w.heap.size,k*7,none⟩=some (D[k*7]'(by omega)):=by rw[Sz.cell];simp
   have f0:=Sz.frozen (k*7);have t1:w1.cell? ⟨w.heap.size,k*7+1,none⟩=some (D[k*7+1]'(by omega)):=by rw[Sz.cell];simp
   have f1:=Sz.frozen (k*7+1);have t2:w1.cell? ⟨w.heap.size,k*7+2,none⟩=some (D[k*7+2]'(by omega)):=by rw[Sz.cell];simp
   have f2:=Sz.frozen (k*7+2);have t3:w1.cell? ⟨w.heap.size,k*7+3,none⟩=some (D[k*7+3]'(by omega)):=by rw[Sz.cell];simp
   have f3:=Sz.frozen (k*7+3);have t4:w1.cell? ⟨w.heap.size,k*7+4,none⟩=some (D[k*7+4]'(by omega)):=by rw[Sz.cell];simp
   have f4:=Sz.frozen (k*7+4);have t5:w1.cell? ⟨w.heap.size,k*7+5,none⟩=some (D[k*7+5]'(by omega)):=by rw[Sz.cell];simp
   have f5:=Sz.frozen (k*7+5);have t6:w1.cell? ⟨w.heap.size,k*7+6,none⟩=some (D[k*7+6]'(by omega)):=by rw[Sz.cell];simp
   have f6:=Sz.frozen (k*7+6);have HR:Hid _:=(Fc.set (Fc.set (Fc.set (Fc.set (Fc.set (Fc.set (Fc.set Sz (k*7) (.string nm)) (k*7+1) (.int .i64 kd)) (k*7+2) (.string t)) (k*7+3) (.slice pa ni pc)) (k*7+4) (.slice qa np qc)) (k*7+5) (.slice sa nr sc)) (k*7+6) (.int .i64 d));have Vo:Hid (∀i,i<k+1->VOwn (World.setCell (World.setCell (World.setCell (World.setCell (World.setCell (World.setCell (World.setCell w1 ⟨w.heap.size,k*7,none⟩ (.string nm)) ⟨w.heap.size,k*7+1,none⟩ (.int .i64 kd)) ⟨w.heap.size,k*7+2,none⟩ (.string t)) ⟨w.heap.size,k*7+3,none⟩ (.slice pa ni pc)) ⟨w.heap.size,k*7+4,none⟩ (.slice qa np qc)) ⟨w.heap.size,k*7+5,none⟩ (.slice sa nr sc)) ⟨w.heap.size,k*7+6,none⟩ (.int .i64 d)) (w.heap.size+1) ((A++ [(⟨⟨nm,vl,d⟩,.slice pa ni pc,.slice qa np qc,.slice sa nr sc⟩:KV)]).getD i kv0).key.val ((A++ [(⟨⟨nm,vl,d⟩,.slice pa ni pc,.slice qa np qc,.slice sa nr sc⟩:KV)]).getD i kv0).vi ((A++ [(⟨⟨nm,vl,d⟩,.slice pa ni pc,.slice qa np qc,.slice sa nr sc⟩:KV)]).getD i kv0).vp ((A++ [(⟨⟨nm,vl,d⟩,.slice pa ni pc,.slice qa np qc,.slice sa nr sc⟩:KV)]).getD i kv0).vr):=fun i hi=>by
    by_cases e:i=k
    ·rw[e,show(A++ [(⟨⟨nm,vl,d⟩,.slice pa ni pc,.slice qa np qc,.slice sa nr sc⟩:KV)]).getD k kv0=⟨⟨nm,vl,d⟩,.slice pa ni pc,.slice qa np qc,.slice sa nr sc⟩ by rw[Qa,<-Ve.out];simp];exact zbb Vi (by omega) _ _ _ _ _ _ _
    ·rw[show(A++ [(⟨⟨nm,vl,d⟩,.slice pa ni pc,.slice qa np qc,.slice sa nr sc⟩:KV)]).getD i kv0=A.getD i kv0 by rw[Qa,Qa,List.getElem?_append_left (by rw[Ve.out];omega)]];exact zbb (Vg i (by omega)) (by omega) _ _ _ _ _ _ _
   have Vq:Hid _:=Vh.out (.slice pa ni pc) (.slice qa np qc) (.slice sa nr sc);have Vn:Hid _:=Vm.out ⟨⟨nm,vl,d⟩,.slice pa ni pc,.slice qa np qc,.slice sa nr sc⟩ rfl;generalize D[k*7]'(by omega)=u0,D[k*7+1]'(by omega)=u1,D[k*7+2]'(by omega)=u2,D[k*7+3]'(by omega)=u3,D[k*7+4]'(by omega)=u4,D[k*7+5]'(by omega)=u5,D[k*7+6]'(by omega)=u6 at*;have Vw:=bk.trans (b1.mono sk);go_wp2;go_roundw
   case rel=>exact⟨k+1,_,_,by omega,by go_num,(by unfold Hid;simp only[Array.size_setIfInBounds];exact HD.out),(by unfold Hid;rw[Qi,Ve.out];rfl),HR.out,Vq,Vn,Vo,Vr,(Below.setCell (Below.setCell (Below.setCell (Below.setCell (Below.setCell (Below.setCell (Below.setCell Vw (Qc _) _) (Qc _) _) (Qc _) _) (Qc _) _) (Qc _) _) (Qc _) _) (Qc _) _)⟩
   case measure=>simp[intOf];omega
  ·obtain rfl:k=n:=by omega
   have HO:Hid (DbU wr w.heap.size (some ⟨w.heap.size,0,none⟩) w.heap.size k A):=⟨⟨Ve.out,fun _=>rfl,fun _=>Va.lt,fun i hi=>by
    have e:∀j,j<7->wr.cell? ⟨w.heap.size,i*7+j,none⟩=(kvC (A.getD i kv0))[j]?:=fun j hj=>(Va.cell _).trans (Vc.out i (by rw[Ve.out];exact hi) j hj);exact⟨e 0 (by omega),e 1 (by omega),e 2 (by omega),e 3 (by omega),e 4 (by omega),e 5 (by omega),e 6 (by omega)⟩⟩,Qc _,fun i hi=>ygx (Vd.out i hi) (by omega)⟩
   have Vv:Hid (∃D:Array Value,D.size=k*7/\Fc wr w.heap.size 47 D/\∀i,i<A.length->∀j,j<7->D[i*7+j]?=(kvC (A.getD i kv0))[j]?):=⟨D,HD.out,Va,Vc.out⟩;have Vs:Hid (∀i,i<k->(A.getD i kv0).key=(L.getD i kv0).key):=Vf;go_wp2;go_ret;exact⟨A,rfl,HO.out,Vs.out,bk,Vj.out,Vv.out⟩
end Go.Proofs.YtokafonppgppdaaGreatDoor
namespace Go.Proofs.YtokafonppgppdaaGreatDoor.Kk
open Tryz
open Go.RowKit Go.Sort
theorem size_mk(l:List UInt8):(⟨l.toArray⟩:ByteArray).size=l.length:=by show l.toArray.size=_;simp
theorem zcl(n:Nat)(h:n<=1048576):(Lib.decDigits n).length<=20:=by
 rw[Lib.decDigits_length];rcases Nat.lt_or_ge n 10 with h0|h0
 ·rw[Lib.nDigits_small h0];omega
 ·have h1:Lib.nDigits n<=7:=by
   have:=Lib.nDigits_pos n;rcases Nat.lt_or_ge n 100 with h2|h2
   ·rw[Lib.nDigits_unique 1 n (by omega) (by omega)];omega
   rcases Nat.lt_or_ge n 1000 with h3|h3
   ·rw[Lib.nDigits_unique 2 n (by omega) (by omega)];omega
   rcases Nat.lt_or_ge n 10000 with h4|h4
   ·rw[Lib.nDigits_unique 3 n (by omega) (by omega)];omega
   rcases Nat.lt_or_ge n 100000 with h5|h5
   ·rw[Lib.nDigits_unique 4 n (by omega) (by omega)];omega
   rcases Nat.lt_or_ge n 1000000 with h6|h6
   ·rw[Lib.nDigits_unique 5 n (by omega) (by omega)];omega
   ·rw[Lib.nDigits_unique 6 n (by omega) (by omega)];omega
  omega
def Ac (k:Nat):ByteArray:=⟨(109::Lib.decDigits k).toArray⟩
def ze0 (n k:Nat) (acc:List UInt8):Prop:=(if k=0 then [] else Lib.decDigits k)++acc=Lib.decDigits n/\(acc.length:Int)<=(n:Int)-k
theorem Bb(n:Nat)(w:World)(h0:0<n)(hn:n<=2000000000000000):
  Calls prog 71 #[.int .i64 n] w fun e w'=>e=.returned (.string (Ac n))/\Bl w w':=by
 have Va:decide ((n:Int)<=0)=false:=by simp;omega
 go_enter func71,ntmps71;go_wp2;go_loopw [0,3] (fun m s wr=>∃(k:Nat) (Sz:List UInt8),k<=n/\m=.int .i64 k/\s=.string ⟨Sz.toArray⟩/\Hid (ze0 n k Sz)/\Bl w wr) (fun m _ _=>(intOf m).toNat)
 case atStart=>exact⟨n,[],by omega,rfl,rfl,⟨by rw[if_neg (by omega)];simp,by simp⟩,Qb _ _⟩
 case round=>
  obtain⟨k,Sz,hk,rfl,rfl,hd,bk⟩:=hrel;have sk:=bk.size;have Vc:=hd.out.2;by_cases hlt:0<k
  ·have Vb:=zuz wr (48+(k:Int)%10) (by omega) (by omega);have HD:Hid (ze0 n (k/10) ([UInt8.ofNat (48+k%10)]++Sz)):=by
    obtain⟨h1,h2⟩:=hd.out;rw[if_neg (by omega)]at h1;refine⟨?_,by simp;omega⟩;rw[<-h1];by_cases h10:k<10
    ·rw[if_pos (by omega),ycx k h10,show k%10=k from by omega];rfl
    ·rw[if_neg (by omega),yc7 k (by omega)];simp
   have n1:Sz.length<=2000000000000000:=by omega
   go_wp2;go_roundw
   case rel=>
    refine⟨k/10,[UInt8.ofNat (48+k%10)]++Sz,by omega,by go_num,?_,HD,bk.alloc sk _⟩;exact congrArg Value.string (by rw[show(48+UInt8.ofNat (k%10))=UInt8.ofNat (48+k%10) from by simp];exact ByteArray.mk_append_mk [UInt8.ofNat (48+k%10)] Sz)
   case measure=>simp[intOf];omega
  ·have HE:Hid (Sz=Lib.decDigits n):=by
    have:=hd.out.1;rw[if_pos (by omega)]at this;exact this
   have n1:Sz.length<=2000000000000000:=by omega
   go_wp2;go_ret;refine⟨zye ?_,bk⟩;unfold Ac;rw[<-HE.out];exact ByteArray.mk_append_mk [109] Sz
def mrk (s0 i:Nat):Rk:=⟨Ac (s0+2*i),((s0+2*i+1:Nat):Int)⟩
def marks (s0 n:Nat):List Rk:=(List.range n).map (mrk s0)
theorem Iz(s0 n:Nat):(marks s0 n).length=n:=by simp[marks]
theorem zax(s0 n i:Nat)(h:i<n):(marks s0 n).getD i rk0=mrk s0 i:=by
 unfold marks;rw[Qa,List.getElem?_map,List.getElem?_range h];rfl
theorem zct(x:Rk)(w:World):Calls prog 229 #[rkV x,rkV x] w fun e w'=>e=.returned (.bool true)/\Bl w w':=by
 obtain⟨xm,xs⟩:=x;go_enter func229,ntmps229;go_wp2;go_ret;exact⟨rfl,((Qb _ w).alloc (Qc _) _).alloc (by simp) _⟩
theorem zca(a a':Option Addr)(b off b' off' n c c':Nat)(L:List Rk)(w:World)(h:F7 w a b off n L)(h':F7 w a' b' off' n L)(hn:n<=1048577):
  Calls prog 166 #[.slice a n c,.slice a' n c'] w fun e w'=>e=.returned (.bool true)/\Bl w w':=by
 have H:Hid (F7 w a b off n L):=h;have H':Hid (F7 w a' b' off' n L):=h';go_enter func166,ntmps166;go_wp2;go_loopw [5] (fun i wr=>∃(k:Nat),k<=n/\i=.int .i64 k/\Bl w wr) (fun i _=>n-(intOf i).toNat)
 case atStart=>exact⟨0,by omega,rfl,Qb _ _⟩
 case round=>
  obtain⟨k,hk,rfl,bk⟩:=hrel;have sk:=bk.size;by_cases hlt:k<n
  ·have HW:=H.out.bw bk;have Vb:=H'.out.bw bk;have hx:=HW.cell k hlt;have Va:=Vb.cell k hlt;obtain rfl:=HW.addr (by omega);obtain rfl:=Vb.addr (by omega);have c0:=hx.c0;have c1:=hx.c1;have d0:=Va.c0;have d1:=Va.c1;generalize L.getD k rk0=x at*;have cE:∀d os,Calls prog 229 #[rkV x,rkV x] (grow (redrawn wr d) os) fun e w''=>e=.returned (.bool true)/\∃p:Regrown,w''=grow (redrawn wr p.d) p.os:=fun d os=>Calls.regrown_of (zct x _);obtain⟨m,s⟩:=x;dsimp only at c0 c1 d0 d1;have Vd:=cell_regrown c0;have Vg:=cell_regrown c1;have Vf:=cell_regrown d0;have Ve:=cell_regrown d1;go_wp2;refine wp_region_quiet_below (by kernel_rfl) (by kernel_rfl) ?_;repeat(quiet_step (first|exact cE _ _))
   refine wpQuiet_nil ?_;intro _ hw';obtain⟨⟨dq,Vc⟩,Sz⟩:=hw';subst Sz;have bq:=below_regrown wr dq Vc;generalize grow (redrawn wr dq) Vc=wq at*;go_wp2;go_roundw
   case rel=>exact⟨k+1,by omega,by go_num,bk.trans (bq.mono sk)⟩
   case measure=>simp[intOf];omega
  ·go_wp2;go_ret;exact⟨rfl,bk⟩
end Go.Proofs.YtokafonppgppdaaGreatDoor.Kk
namespace Go.Proofs.YtokafonppgppdaaGreatDoor
open Tryz
open Go.RowKit Go.Sort
open Kk (Rk rk0 G8 Mp F1 L7 Hv G9 Fo G6 encR Ac F7)
theorem zcx(a a':Option Addr)(b off b' off' n c c':Nat)(ss:List ByteArray)(w:World)(h:Fs w a b off n ss)(h':Fs w a' b' off' n ss)(hn:n<=1048577):
  Calls prog 33 #[.slice a n c,.slice a' n c'] w fun e w'=>e=.returned (.bool true)/\Bl w w':=by
 go_enter func33,ntmps33;go_wp2;go_loopw [5] (fun i wr=>∃(k q:Nat),k<=n/\i=.int .i64 k/\wr=w.drewN q) (fun i _=>n-(intOf i).toNat)
 case atStart=>exact⟨0,0,by omega,rfl,rfl⟩
 case round=>
  obtain⟨k,q,hk,rfl,rfl⟩:=hrel;by_cases hlt:k<n
  ·obtain rfl:=h.addr (by omega);obtain rfl:=h'.addr (by omega);have hc:=h.cell k hlt;have Sz:=h'.cell k hlt;generalize ss.getD k ByteArray.empty=s at*;go_wp2;go_quiet ((fail));go_wp2;go_roundw
   case rel=>exact⟨k+1,_,by omega,by go_num,rfl⟩
   case measure=>simp[intOf];omega
  ·go_wp2;go_ret;exact⟨rfl,below_drewN (Qb _ _) q⟩
theorem zcw(x:Pr)(w:World):Calls prog 228 #[prV x,prV x] w fun e w'=>e=.returned (.bool true)/\Bl w w':=by
 obtain⟨xm,xs⟩:=x;go_enter func228,ntmps228;go_wp2;go_ret;exact⟨rfl,((Qb _ w).alloc (Qc _) _).alloc (by simp) _⟩
theorem zej(a a':Option Addr)(b b' n c c':Nat)(L:List Pr)(w:World)(h:Li w a b n L)(h':Li w a' b' n L)(hn:n<=1048577):
  Calls prog 165 #[.slice a n c,.slice a' n c'] w fun e w'=>e=.returned (.bool true)/\Bl w w':=by
 have H:Hid (Li w a b n L):=h;have H':Hid (Li w a' b' n L):=h';go_enter func165,ntmps165;go_wp2;go_loopw [5] (fun i wr=>∃(k:Nat),k<=n/\i=.int .i64 k/\Bl w wr) (fun i _=>n-(intOf i).toNat)
 case atStart=>exact⟨0,by omega,rfl,Qb _ _⟩
 case round=>
  obtain⟨k,hk,rfl,bk⟩:=hrel;have sk:=bk.size;by_cases hlt:k<n
  ·have HW:=H.out.bw bk;have Sz:=H'.out.bw bk;have c0:=HW.c0 k hlt;have c1:=HW.c1 k hlt;have d0:=Sz.c0 k hlt;have d1:=Sz.c1 k hlt;obtain rfl:=HW.addr (by omega);obtain rfl:=Sz.addr (by omega);generalize L.getD k (bz,bz)=x at*;have cE:∀d os,Calls prog 228 #[prV x,prV x] (grow (redrawn wr d) os) fun e w''=>e=.returned (.bool true)/\∃p:Regrown,w''=grow (redrawn wr p.d) p.os:=fun d os=>Calls.regrown_of (zcw x _);obtain⟨m,s⟩:=x;dsimp only at c0 c1 d0 d1;have Vc:=cell_regrown c0;have Vf:=cell_regrown c1;have Ve:=cell_regrown d0;have Vd:=cell_regrown d1;go_wp2;refine wp_region_quiet_below (by kernel_rfl) (by kernel_rfl) ?_;repeat(quiet_step (first|exact cE _ _))
   refine wpQuiet_nil ?_;intro _ hw';obtain⟨⟨dq,Vb⟩,Va⟩:=hw';subst Va;have bq:=below_regrown wr dq Vb;generalize grow (redrawn wr dq) Vb=wq at*;go_wp2;go_roundw
   case rel=>exact⟨k+1,by omega,by go_num,bk.trans (bq.mono sk)⟩
   case measure=>simp[intOf];omega
  ·go_wp2;go_ret;exact⟨rfl,bk⟩
section
variable (a:Option Addr) (c:Nat) (m:Int) (w:World)
theorem zc3:Calls prog 35 #[.slice a (0:Nat) c,.int .i64 m] w fun e w'=>e= .returned (.int .i64 m)/\w'=w:=by
 go_enter func35,ntmps35;go_wp2;refine wp_loop_rounds 1 ?_;rw[rounds_succ];go_wp2;go_ret;exact⟨rfl,rfl⟩
theorem zdf:Calls prog 72 #[.slice a (0:Nat) c,.int .i64 m] w fun e w'=>e= .returned (.int .i64 m)/\w'=w:=by
 go_enter func72,ntmps72;go_wp2;refine wp_loop_rounds 1 ?_;rw[rounds_succ];go_wp2;go_ret;exact⟨rfl,rfl⟩
end
theorem VAt.bw{w w':World}{v:Vl}{vi vp vr:Value}(h:VAt w v vi vp vr)(hb:Bl w w'):VAt w' v vi vp vr:=by
 obtain⟨⟨a1,A1,c1,e1,h1⟩,⟨a2,A2,c2,e2,h2⟩,⟨a3,A3,c3,e3,h3⟩⟩:=h;exact⟨⟨a1,A1,c1,e1,Lb h1 hb⟩,⟨a2,A2,c2,e2,h2.bw hb⟩,⟨a3,A3,c3,e3,h3.bw hb⟩⟩
theorem zeb(v:Vl)(vi vp vr vi' vp' vr':Value)(w:World)(h:VAt w v vi vp vr)(h':VAt w v vi' vp' vr')(n1:v.ia.length<=1048576)(n2:v.pj.length<=1048576)(n3:v.rq.length<=1048576):
  Calls prog 118 #[vlV v.kind v.text vi vp vr,vlV v.kind v.text vi' vp' vr'] w fun e w'=>e=.returned (.bool true)/\Bl w w':=by
 obtain⟨⟨a1,A1,c1,e1,h1⟩,⟨a2,A2,c2,e2,h2⟩,⟨a3,A3,c3,e3,h3⟩⟩:=h;obtain⟨⟨x1,X1,d1,f1,g1⟩,⟨x2,X2,d2,f2,g2⟩,⟨x3,X3,d3,f3,g3⟩⟩:=h';have H1:Hid (∀W,Bl w W->Cp 33 #[.slice a1 v.ia.length c1,.slice x1 v.ia.length d1] W fun e w'=>e=.returned (.bool true)/\Bl W w'):=fun W hb=>zcx a1 x1 A1 0 X1 0 _ c1 d1 v.ia W (Lb h1 hb) (Lb g1 hb) (by omega);have H2:Hid (∀W,Bl w W->Cp 165 #[.slice a2 v.pj.length c2,.slice x2 v.pj.length d2] W fun e w'=>e=.returned (.bool true)/\Bl W w'):=fun W hb=>zej a2 x2 A2 X2 _ c2 d2 v.pj W (h2.bw hb) (g2.bw hb) (by omega);have H3:Hid (∀W,Bl w W->Cp 166 #[.slice a3 v.rq.length c3,.slice x3 v.rq.length d3] W fun e w'=>e=.returned (.bool true)/\Bl W w'):=fun W hb=>Kk.zca a3 x3 A3 0 X3 0 _ c3 d3 v.rq W (h3.bw hb) (g3.bw hb) (by omega);clear h1 h2 h3 g1 g2 g3;subst e1 e2 e3 f1 f2 f3;generalize v.ia.length=ni,v.pj.length=np,v.rq.length=nr,v.kind=k,v.text=t at*;obtain⟨wa,Sz⟩:∃wa,(w.alloc (.cells (vC k t (.slice a1 ni c1) (.slice a2 np c2) (.slice a3 nr c3)) 45)).alloc (.cells (vC k t (.slice x1 ni d1) (.slice x2 np d2) (.slice x3 nr d3)) 45)=wa:=⟨_,rfl⟩;have HA:Hid (Fc wa w.heap.size 45 (vC k t (.slice a1 ni c1) (.slice a2 np c2) (.slice a3 nr c3))/\Fc wa (w.heap.size+1) 45 (vC k t (.slice x1 ni d1) (.slice x2 np d2) (.slice x3 nr d3))/\Bl w wa):=by
  subst Sz;have e1:(w.alloc (.cells (vC k t (.slice a1 ni c1) (.slice a2 np c2) (.slice a3 nr c3)) 45)).heap.size=w.heap.size+1:=by simp
  refine⟨Fc.bw (Fc.new w 45 _) ((Qb _ _).alloc (Qc _) _) (by simp),?_,((Qb _ w).alloc (Qc _) _).alloc (by simp) _⟩;rw[<-e1];exact Fc.new _ 45 _
 have Vc:Hid ((w.alloc (.cells (vC k t (.slice a1 ni c1) (.slice a2 np c2) (.slice a3 nr c3)) 45)).alloc (.cells (vC k t (.slice x1 ni d1) (.slice x2 np d2) (.slice x3 nr d3)) 45)=wa):=Sz;clear Sz;go_enter func118,ntmps118;go_wp2_with fail;rw[Vc.out];obtain⟨r1,r2,b0⟩:=HA.out;refine(H1.out wa b0).mono ?_;rintro e w1⟨rfl,b1⟩;have q1:=Fc.bw r1 b1 r1.lt;have q2:=Fc.bw r2 b1 r2.lt;have Vb:=b0.trans (b1.mono b0.size);obtain⟨_,_,_,y3,y4⟩:=Nh q1;obtain⟨_,_,_,z3,z4⟩:=Nh q2;clear r1 r2 b0 b1 Vc HA;go_wp2_with fail;refine(H2.out w1 Vb).mono ?_;rintro e w2⟨rfl,b2⟩;have p1:=Fc.bw q1 b2 q1.lt;have p2:=Fc.bw q2 b2 q2.lt;have Va:=Vb.trans (b2.mono Vb.size);clear y3 y4 z3 z4;obtain⟨_,_,_,_,y4⟩:=Nh p1;obtain⟨_,_,_,_,z4⟩:=Nh p2;clear q1 q2 b2;go_wp2_with fail;refine(H3.out w2 Va).mono ?_;rintro e w3⟨rfl,b3⟩;have Vd:=Va.trans (b3.mono Va.size);go_wp2;go_ret;exact⟨rfl,Vd⟩
theorem zcp(k:Nat)(h:k<=1048576):(Ac k).size<=1048576:=by
 unfold Ac;rw[Kk.size_mk,Q1];have:=Kk.zcl k h;omega
open Kk (Rk rk0 G8 Mp F1 L7 Hv G9 Fo G6 encR Ac F7 mrk marks zax Iz Bb)
def Bj (s0 n:Nat):List ByteArray:=(List.range n).map fun i=>Ac (s0+i)
theorem zat(s0 n:Nat):(Bj s0 n).length=n:=by simp[Bj]
theorem zce(s0 n i:Nat)(h:i<n):(Bj s0 n).getD i ByteArray.empty=Ac (s0+i):=by
 unfold Bj;rw[Qa,List.getElem?_map,List.getElem?_range h];rfl
def zcr (s0 i:Nat):Pr:=(Ac (s0+2*i),Ac (s0+2*i+1))
def Da (s0 n:Nat):List Pr:=(List.range n).map (zcr s0)
theorem Il(s0 n:Nat):(Da s0 n).length=n:=by simp[Da]
theorem zaz(s0 n i:Nat)(h:i<n):(Da s0 n).getD i (bz,bz)=zcr s0 i:=by
 unfold Da;rw[Qa,List.getElem?_map,List.getElem?_range h];rfl
theorem zbv(s0 B:Nat)(v:Value)(L:List ByteArray)(w:World)(h:Fz w B v L)(hn:L.length<=1048577)(h1s:1<=s0)(hs0:s0<=100000000000000):
  Calls prog 35 #[v,.int .i64 (s0:Nat)] w fun e w'=>e=.returned (.int .i64 (s0+L.length:Nat))/\Fz w' B v (Bj s0 L.length)/\w.grownBy w' (Value.ownBlock v):=by
 generalize hnl:L.length=n at*;obtain⟨Vj,⟨rfl,h0⟩|⟨g,Vd,Vf,rfl,hg,hh,Ve,Vc,Vm,Vi⟩⟩:=h
 ·obtain rfl:n=0:=by omega
  refine(zc3 none 0 s0 w).mono ?_;rintro e w'⟨rfl,rfl⟩;exact⟨rfl,Uo _ _,Nl _ _⟩
 ·rw[hnl]at Ve ⊢;have Vg:Fc w g 9 Vf:=hh;have Vk:=Vg.lt;have HM:Hid (Vd<=maxLen):=Vc;clear hh Vi Vj Vc hnl;go_enter func35,ntmps35;go_wp2;go_loopw [1,5] (fun m i wr=>∃(k:Nat) (D:Array Value),k<=n/\i=.int .i64 k/\m=.int .i64 ((s0:Int)+(k:Int))/\D.size=Vd*1/\Fc wr g 9 D/\Hid (∀j,j<k->D[j]?=some (.string (Ac (s0+j))))/\w.grownBy wr (some g)) (fun _ i _=>n-(intOf i).toNat)
  case atStart=>exact⟨0,Vf,by omega,rfl,(by simp),Vm,Vg,fun j hj=>by omega,Nl _ _⟩
  case round=>
   obtain⟨k,D,hk,rfl,rfl,hD,Va,Vb,gk⟩:=hrel;have sk:=gk.size;by_cases hlt:k<n
   ·have Vh:((s0:Int)+(k:Int))=((s0+k:Nat):Int):=by omega
    have HC:Hid (Cp 71 #[.int .i64 ((s0:Int)+(k:Int))] wr fun e w'=>e=.returned (.string (Ac (s0+k)))/\Bl wr w'):=by
     unfold Hid;rw[Vh];exact Kk.Bb (s0+k) wr (by omega) (by omega)
    clear Vh;go_wp2_with fail;refine HC.out.mono ?_;rintro e w1⟨rfl,b1⟩;have Sz:Fc w1 g _ D:=Fc.bw Va b1 Va.lt;have Vn:w1.cell? ⟨g,k,none⟩=some (D[k]'(by omega)):=by rw[Sz.cell k];simp
    have Vo:=Sz.frozen k;have HR:Hid (Fc (w1.setCell ⟨g,k,none⟩ (.string (Ac (s0+k)))) g 9 (D.setIfInBounds k (.string (Ac (s0+k))))):=Sz.set k _;have HG:Hid (w.grownBy (w1.setCell ⟨g,k,none⟩ (.string (Ac (s0+k)))) (some g)):=G4 (Ly gk b1) (zzx _ g k _);have HD:Hid (D.size=Vd*1):=hD;generalize hDk:D[k]'(by omega)=old at*;clear hDk hD Va Sz HC b1 gk;go_wp2;go_roundw
    case rel=>
     refine⟨k+1,_,by omega,by go_num,by go_num,?_,HR.out,?_,HG.out⟩
     ·rw[Array.size_setIfInBounds];exact HD.out
     ·intro j hj;by_cases hjk:k=j
      ·subst hjk;rw[Array.getElem?_setIfInBounds_self_of_lt (by rw[HD.out];omega)]
      ·rw[Array.getElem?_setIfInBounds_ne hjk];exact Vb.out j (by omega)
    case measure=>simp[intOf];omega
   ·obtain rfl:k=n:=by omega
    have HO:Hid (Fz wr B (.slice (some ⟨g,0,none⟩) k Vd) (Bj s0 k)):=by
     unfold Hid Fz;rw[zat];refine⟨by simp[Bj,G1],.inr ⟨g,Vd,D,rfl,hg,Va,Ve,HM.out,hD,?_⟩⟩;apply List.ext_getElem?;intro i;by_cases hi:i<k
     ·rw[Nat.mul_one,List.getElem?_take_of_lt hi,Array.getElem?_toList,Vb.out i hi];simp[G1,Bj,hi]
     ·rw[List.getElem?_eq_none (by simp;omega),List.getElem?_eq_none (by simp[Bj,G1];omega)]
    clear Va Vb hD;go_wp2;go_ret;exact⟨Pm (by omega),HO.out,gk⟩
theorem zdo(s0:Nat)(a:Option Addr)(g n cap:Nat)(w:World)(h:Fs w a g 0 n (Bj s0 n))(hn:n<=1048577)(h1s:1<=s0)(hs0:s0<=100000000000000):
  Calls prog 75 #[.slice a n cap,.int .i64 (s0:Nat)] w fun e w'=>e=.returned (.int .i64 (s0+n:Nat))/\Bl w w':=by
 have H:Hid (Fs w a g 0 n (Bj s0 n)):=h;clear h;go_enter func75,ntmps75;go_wp2;go_loopw [1,5] (fun m i wr=>∃(k:Nat),k<=n/\i=.int .i64 k/\m=.int .i64 ((s0:Int)+(k:Int))/\Bl w wr) (fun _ i _=>n-(intOf i).toNat)
 case atStart=>exact⟨0,by omega,rfl,(by simp),Qb _ _⟩
 case round=>
  obtain⟨k,hk,rfl,rfl,bk⟩:=hrel;have sk:=bk.size;by_cases hlt:k<n
  ·have Vb:((s0:Int)+(k:Int))=((s0+k:Nat):Int):=by omega
   have cD:∀d os,Calls prog 71 #[.int .i64 ((s0:Int)+(k:Int))] (grow (redrawn wr d) os) fun e w''=>e=.returned (.string (Ac (s0+k)))/\∃p:Regrown,w''=grow (redrawn wr p.d) p.os:=fun d os=>by
    rw[Vb];exact Calls.regrown_of (Kk.Bb (s0+k) _ (by omega) (by omega))
   obtain rfl:=H.out.addr (by omega);have hc:=H.out.cell k hlt;rw[Qq,zce s0 n k hlt]at hc;have kc:=cell_regrown ((bk.cell (p:=⟨g,k,none⟩) (H.out.low (by omega))).trans hc);generalize Ac (s0+k)=mk at*;clear Vb hc;go_wp2;refine wp_region_quiet_below (by kernel_rfl) (by kernel_rfl) ?_;repeat(quiet_step (first|exact cD _ _))
   refine wpQuiet_nil ?_;intro _ hw';obtain⟨⟨dq,Va⟩,Sz⟩:=hw';subst Sz;have bq:=below_regrown wr dq Va;generalize grow (redrawn wr dq) Va=wq at*;go_wp2;go_roundw
   case rel=>exact⟨k+1,by omega,by go_num,by go_num,bk.trans (bq.mono bk.size)⟩
   case measure=>simp[intOf];omega
  ·obtain rfl:k=n:=by omega
   go_wp2;go_ret;exact⟨Pm (by omega),bk⟩
theorem zdn(s0 B:Nat)(v:Value)(L:List Pr)(w:World)(h:G3 w B v L)(hn:L.length<=1048577)(h1s:1<=s0)(hs0:s0<=100000000000000):
  Calls prog 72 #[v,.int .i64 (s0:Nat)] w fun e w'=>e=.returned (.int .i64 (s0+2*L.length:Nat))/\G3 w' B v (Da s0 L.length)/\w.grownBy w' (Value.ownBlock v):=by
 generalize hnl:L.length=n at*;obtain⟨Vn,⟨rfl,h0⟩|⟨g,Vf,Vj,rfl,hg,hh,Ve,Vd,Vq,Vm⟩⟩:=h
 ·obtain rfl:n=0:=by omega
  refine(zdf none 0 s0 w).mono ?_;rintro e w'⟨rfl,rfl⟩;exact⟨rfl,Ch _ _,Nl _ _⟩
 ·rw[hnl]at Ve ⊢;have Vk:Fc w g 145 Vj:=hh;have Vo:=Vk.lt;have HM:Hid (Vf<=maxLen):=Vd;go_enter func72,ntmps72;go_wp2;go_loopw [1,5] (fun m i wr=>∃(k:Nat) (D:Array Value),k<=n/\i=.int .i64 k/\m=.int .i64 (s0+2*k:Nat)/\D.size=Vf*2/\Fc wr g 145 D/\Hid (zcv D (Da s0 n) k)/\w.grownBy wr (some g)) (fun _ i _=>n-(intOf i).toNat)
  case atStart=>exact⟨0,Vj,by omega,rfl,rfl,Vq,Vk,fun j hj=>by omega,Nl _ _⟩
  case round=>
   obtain⟨k,D,hk,rfl,rfl,hD,Vb,Vc,gk⟩:=hrel;have sk:=gk.size;by_cases hlt:k<n
   ·have HX:Hid ((Da s0 n).getD k (bz,bz)=(Ac (s0+2*k),Ac (s0+2*k+1))):=zaz s0 n k hlt;have cM:=Kk.Bb (s0+2*k) wr (by omega) (by omega);have cN:Hid (∀W,Cp 71 #[.int .i64 ((s0+2*k+1:Nat):Int)] W fun e w'=>e=.returned (.string (Ac (s0+2*k+1)))/\Bl W w'):=fun W=>Kk.Bb (s0+2*k+1) W (by omega) (by omega);have Vt:k<=1048577:=by omega
    generalize hK:s0+2*k=K at*;have Vs:K<=105000000000000:=by omega
    have Vh:Hid (∀W,Cp 71 #[.int .i64 ((K:Int)+1)] W fun e w'=>e=.returned (.string (Ac (K+1)))/\Bl W w'):=cN.out;go_wp2_with fail;refine cM.mono ?_;rintro e w1⟨rfl,b1⟩;have Sz:Fc w1 g _ D:=Fc.bw Vb b1 Vb.lt;have HD:Hid (D.size=Vf*2):=hD;have Vp:k*2+1<D.size:=by rw[hD];omega
    have t0:w1.cell? ⟨g,k*2,none⟩=some (D[k*2]'(by omega)):=by rw[Sz.cell];simp
    have f0:=Lib.frozen_of_heap Sz (k*2);have Vg:Hid (Fc (w1.setCell ⟨g,k*2,none⟩ (.string (Ac K))) g 145 (D.setIfInBounds (k*2) (.string (Ac K)))):=Sz.set (k*2) (.string (Ac K));have Vi:Hid (w.grownBy (w1.setCell ⟨g,k*2,none⟩ (.string (Ac K))) (some g)):=G4 (Ly gk b1) (zzx w1 g (k*2) (.string (Ac K)));have HP:Hid (zcv ((D.setIfInBounds (k*2) (.string (Ac K))).setIfInBounds (k*2+1) (.string (Ac (K+1)))) (Da s0 n) (k+1)):=zb9 Vc.out Vp HX.out;have HT:Hid ((D.setIfInBounds (k*2) (.string (Ac K)))[k*2+1]?=some (D[k*2+1]'(by omega))):=by unfold Hid;rw[Array.getElem?_setIfInBounds_ne (by omega)];simp
    generalize D[k*2]'(by omega)=y0,D[k*2+1]'(by omega)=y1 at*;have Vr:Hid (s0+2*k=K):=hK;generalize Ac K=mk at*;go_wp2_with fail;refine(Vh.out _).mono ?_;rintro e w2⟨rfl,b2⟩;have Va:=Vg.out.bw b2 Vg.out.lt;have t1:w2.cell? ⟨g,k*2+1,none⟩=some y1:=(Va.cell (k*2+1)).trans HT.out;have f1:=Lib.frozen_of_heap Va (k*2+1);have HR:Hid (Fc (w2.setCell ⟨g,k*2+1,none⟩ (.string (Ac (K+1)))) g 145 _):=Va.set (k*2+1) (.string (Ac (K+1)));have HG:Hid (w.grownBy (w2.setCell ⟨g,k*2+1,none⟩ (.string (Ac (K+1)))) (some g)):=G4 (Ly Vi.out b2) (zzx _ g (k*2+1) (.string (Ac (K+1))));generalize Ac (K+1)=mk2 at*;go_wp2;go_roundw
    case rel=>exact⟨k+1,_,by omega,by go_num,congrArg (Value.int .i64) (by have:=Vr.out;omega),by rw[Array.size_setIfInBounds,Array.size_setIfInBounds,HD.out],HR.out,HP,HG.out⟩
    case measure=>simp[intOf];omega
   ·obtain rfl:k=n:=by omega
    have HO:Hid (G3 wr B (.slice (some ⟨g,0,none⟩) k Vf) (Da s0 k)):=by
     have:=rowP_owns (B:=B) Vb hD (by rw[Il];exact Vc.out) (by rw[Il];exact Ve) HM.out hg;rw[Il]at this;exact this
    go_wp2;go_ret;exact⟨rfl,HO.out,gk⟩
section
variable (s0:Nat) (a:Option Addr) (A n c:Nat) (w:World)
theorem zd0(h:Li w a A n (Da s0 n))(hn:n<=1048577)(h1s:1<=s0)(hs0:s0<=100000000000000):
  Calls prog 76 #[.slice a n c,.int .i64 (s0:Nat)] w fun e w'=>e=.returned (.int .i64 (s0+2*n:Nat))/\Bl w w':=by
 have H:Hid (Li w a A n (Da s0 n)):=h;go_enter func76,ntmps76;go_wp2;go_loopw [1,5] (fun m i wr=>∃(k:Nat),k<=n/\i=.int .i64 k/\m=.int .i64 (s0+2*k:Nat)/\Bl w wr) (fun _ i _=>n-(intOf i).toNat)
 case atStart=>exact⟨0,by omega,rfl,rfl,Qb _ _⟩
 case round=>
  obtain⟨k,hk,rfl,rfl,bk⟩:=hrel;have sk:=bk.size;by_cases hlt:k<n
  ·have HW:=H.out.bw bk;obtain rfl:=HW.addr (by omega);have c0:=HW.c0 k hlt;have c1:=HW.c1 k hlt;rw[zaz s0 n k hlt]at c0 c1;have cM:∀d os,Calls prog 71 #[.int .i64 (s0+2*k:Nat)] (grow (redrawn wr d) os) fun e w''=>e=.returned (.string (Ac (s0+2*k)))/\∃p:Regrown,w''=grow (redrawn wr p.d) p.os:=fun d os=>Calls.regrown_of (Kk.Bb (s0+2*k) _ (by omega) (by omega));have cN:∀W,Calls prog 71 #[.int .i64 (s0+2*k+1:Nat)] W fun e w''=>e=.returned (.string (Ac (s0+2*k+1)))/\Bl W w'':=fun W=>Kk.Bb (s0+2*k+1) W (by omega) (by omega);unfold zcr at c0 c1;generalize hK:s0+2*k=K at*;have Vk:K<=105000000000000:=by omega
   have Va:=HW.low (by omega);have Vh:Hid (s0+2*k=K):=hK;dsimp only at c0 c1;have Vi:=cell_regrown c0;generalize Ac K=mk,Ac (K+1)=mk2 at*;have Vb:∀wq,Bl wr wq->wq.cell? ⟨A,k*2+1,none⟩=some (.string mk2):=fun wq hb=>(hb.cell (p:=⟨A,k*2+1,none⟩) Va).trans c1;go_wp2;refine wp_region_quiet_below (by kernel_rfl) (by kernel_rfl) ?_;repeat(quiet_step (first|exact cM _ _))
   refine wpQuiet_nil ?_;intro _ hw';obtain⟨⟨dq,Vc⟩,Sz⟩:=hw';subst Sz;have bq:=below_regrown wr dq Vc;have c1:=Vb _ bq;have Vf:=bk.trans (bq.mono sk);have Vg:=Vf.size;generalize grow (redrawn wr dq) Vc=wq at*;have Ve:∀d os,Calls prog 71 #[.int .i64 ((K:Int)+1)] (grow (redrawn wq d) os) fun e w''=>e=.returned (.string mk2)/\∃p:Regrown,w''=grow (redrawn wq p.d) p.os:=fun d os=>Calls.regrown_of (cN _);have Vj:=cell_regrown c1;go_wp2;refine wp_region_quiet_below (by kernel_rfl) (by kernel_rfl) ?_;repeat(quiet_step (first|exact Ve _ _))
   refine wpQuiet_nil ?_;intro _ hw';obtain⟨⟨dp,Vd⟩,Sz⟩:=hw';subst Sz;have bp:=below_regrown wq dp Vd;generalize grow (redrawn wq dp) Vd=wp at*;go_wp2;go_roundw
   case rel=>exact⟨k+1,by omega,by go_num,congrArg (Value.int .i64) (by have:=Vh.out;omega),Vf.trans (bp.mono Vg)⟩
   case measure=>simp[intOf];omega
  ·obtain rfl:k=n:=by omega
   go_wp2;go_ret;exact⟨rfl,bk⟩
theorem zds(hin:F7 w a A 0 n (marks s0 n))(hn:n<=1048577)(h1s:1<=s0)(hs0:s0<=100000000000000):
  Calls prog 77 #[.slice a n c,.int .i64 (s0:Nat)] w fun e w'=>e=.returned (.int .i64 (s0+2*n:Nat))/\Bl w w':=by
 have H:Hid (F7 w a A 0 n (marks s0 n)):=hin;go_enter func77,ntmps77;go_wp2;go_loopw [1,5] (fun m i wr=>∃(k:Nat),k<=n/\i=.int .i64 k/\m=.int .i64 (s0+2*k:Nat)/\Bl w wr) (fun _ i _=>n-(intOf i).toNat)
 case atStart=>exact⟨0,by omega,rfl,rfl,Qb _ _⟩
 case round=>
  obtain⟨k,hk,rfl,rfl,bk⟩:=hrel;have sk:=bk.size;by_cases hlt:k<n
  ·have HW:=H.out.bw bk;have hx:=HW.cell k hlt;obtain rfl:=HW.addr (by omega);rw[zax s0 n k hlt,Qq]at hx;have cM:∀d os,Calls prog 71 #[.int .i64 (s0+2*k:Nat)] (grow (redrawn wr d) os) fun e w''=>e=.returned (.string (Ac (s0+2*k)))/\∃p:Regrown,w''=grow (redrawn wr p.d) p.os:=fun d os=>Calls.regrown_of (Bb (s0+2*k) _ (by omega) (by omega));have HK:Hid (s0+2*(k+1)=s0+2*k+2):=by unfold Hid;omega
   generalize hK:s0+2*k=K at*;have Vf:K<=105000000000000:=by omega
   have c0:wr.cell? ⟨A,k*2,none⟩=some (.string (Ac K)):=by have:=hx.c0;unfold mrk at this;rwa[hK]at this
   have c1:wr.cell? ⟨A,k*2+1,none⟩=some (.int .i64 ((K:Int)+1)):=by have:=hx.c1;unfold mrk at this;rw[hK]at this;exact this
   have Va:=HW.low (by omega);have Vd:Hid (s0+2*k=K):=hK;have Ve:=cell_regrown c0;generalize Ac K=mk at*;have Vb:∀wq,Bl wr wq->wq.cell? ⟨A,k*2+1,none⟩=some (.int .i64 ((K:Int)+1)):=fun wq hb=>(hb.cell (p:=⟨A,k*2+1,none⟩) Va).trans c1;go_wp2;refine wp_region_quiet_below (by kernel_rfl) (by kernel_rfl) ?_;repeat(quiet_step (first|exact cM _ _))
   refine wpQuiet_nil ?_;intro _ hw';obtain⟨⟨dq,Vc⟩,Sz⟩:=hw';subst Sz;have bq:=below_regrown wr dq Vc;have c1:=Vb _ bq;generalize grow (redrawn wr dq) Vc=wq at*;go_wp2;go_roundw
   case rel=>exact⟨k+1,by omega,by go_num,congrArg (Value.int .i64) (by have:=Vd.out;omega),bk.trans (bq.mono sk)⟩
   case measure=>simp[intOf];omega
  ·obtain rfl:k=n:=by omega
   go_wp2;go_ret;exact⟨rfl,bk⟩
end
end Go.Proofs.YtokafonppgppdaaGreatDoor
namespace Go.Proofs.YtokafonppgppdaaGreatDoor.Kk
open Tryz
open Go.RowKit Go.Sort
theorem zd2(s0 B:Nat)(v:Value)(L:List Rk)(w:World)(h:Fo w B v L)(hn:L.length<=1048577)(h1s:1<=s0)(hs0:s0<=100000000000000):
  Calls prog 73 #[v,.int .i64 (s0:Nat)] w fun e w'=>e=.returned (.int .i64 (s0+2*L.length:Nat))/\Fo w' B v (marks s0 L.length)/\w.grownBy w' (Value.ownBlock v):=by
 generalize hnl:L.length=n at*;obtain⟨Vg,⟨rfl,h0⟩|⟨g,Vf,Vh,rfl,hg,hh,Ve,Vd,Vn,Vj⟩⟩:=h
 ·obtain rfl:n=0:=by omega
  go_enter func73,ntmps73;go_wp2;refine wp_loop_rounds 1 ?_;rw[rounds_succ];go_wp2;go_ret;exact⟨rfl,Up _ _,Nl _ _⟩
 ·rw[hnl]at Ve ⊢;have Vi:Fc w g 147 Vh:=hh;have Vk:=Vi.lt;have HM:Hid (Vf<=maxLen):=Vd;go_enter func73,ntmps73;go_wp2;go_loopw [1,5] (fun m i wr=>∃(k:Nat) (D:Array Value),k<=n/\i=.int .i64 k/\m=.int .i64 (s0+2*k:Nat)/\D.size=Vf*2/\Fc wr g 147 D/\Hid (zcb D (marks s0 n) k)/\w.grownBy wr (some g)) (fun _ i _=>n-(intOf i).toNat)
  case atStart=>exact⟨0,Vh,by omega,rfl,rfl,Vn,Vi,fun j hj=>by omega,Nl _ _⟩
  case round=>
   obtain⟨k,D,hk,rfl,rfl,hD,Vb,Vc,gk⟩:=hrel;have sk:=gk.size;by_cases hlt:k<n
   ·have HX:Hid ((marks s0 n).getD k rk0=⟨Ac (s0+2*k),((s0+2*k+1:Nat):Int)⟩):=zax s0 n k hlt;have cM:=Bb (s0+2*k) wr (by omega) (by omega);have HK:Hid (s0+2*(k+1)=s0+2*k+2):=by unfold Hid;omega
    generalize hK:s0+2*k=K at*;have Vp:K<=105000000000000:=by omega
    go_wp2_with fail;refine cM.mono ?_;rintro e w1⟨rfl,b1⟩;have Sz:Fc w1 g _ D:=Fc.bw Vb b1 Vb.lt;have HD:Hid (D.size=Vf*2):=hD;have Vm:k*2+1<D.size:=by rw[hD];omega
    have t0:w1.cell? ⟨g,k*2,none⟩=some (D[k*2]'(by omega)):=by rw[Sz.cell];simp
    have f0:=Lib.frozen_of_heap Sz (k*2);have Va:=Fc.set Sz (k*2) (.string (Ac K));have t1:(w1.setCell ⟨g,k*2,none⟩ (.string (Ac K))).cell? ⟨g,k*2+1,none⟩=some (D[k*2+1]'(by omega)):=by rw[Va.cell,Array.getElem?_setIfInBounds_ne (by omega)];simp
    have f1:=Lib.frozen_of_heap Va (k*2+1);have HR:Hid (Fc _ g 147 _):=Fc.set Va (k*2+1) (.int .i64 ((K:Int)+1));have HP:Hid (zcb _ (marks s0 n) (k+1)):=zcz Vc.out Vm (s:=(K:Int)+1) (by rw[HX.out];rfl);have HG:Hid _:=G4 (G4 (Ly gk b1) (zzx w1 g (k*2) (.string (Ac K)))) (zzx _ g (k*2+1) (.int .i64 ((K:Int)+1)));generalize D[k*2]'(by omega)=y0,D[k*2+1]'(by omega)=y1 at*;have Vo:Hid (s0+2*k=K):=hK;generalize Ac K=mk at*;go_wp2;go_roundw
    case rel=>exact⟨k+1,_,by omega,by go_num,congrArg (Value.int .i64) (by have:=Vo.out;omega),by rw[Array.size_setIfInBounds,Array.size_setIfInBounds,HD.out],HR.out,HP,HG.out⟩
    case measure=>simp[intOf];omega
   ·obtain rfl:k=n:=by omega
    have HO:Hid (Fo wr B (.slice (some ⟨g,0,none⟩) k Vf) (marks s0 k)):=by
     have:=zbs (B:=B) Vb hD (by rw[Iz];exact Vc.out) (by rw[Iz];exact Ve) HM.out hg;rw[Iz]at this;exact this
    go_wp2;go_ret;exact⟨rfl,HO.out,gk⟩
end Go.Proofs.YtokafonppgppdaaGreatDoor.Kk
namespace Go.Proofs.YtokafonppgppdaaGreatDoor
open Tryz
open Go.RowKit Go.Sort
open Kk (Rk rk0 G8 Mp F1 L7 Hv G9 Fo G6 encR Ac F7)
variable {w W W':World} {a:Option Addr} {b n m g j B B' size i k:Nat} {L M A:List KV} {D:Array Value} {x y:KV} {e:TypeId} {u v vi vp vr:Value} {xs:List Value} {N:Nat->Prop}
theorem zc6(k:Ke)(vi vp vr vi' vp' vr':Value)(w:World)(h:VAt w k.val vi vp vr)(h':VAt w k.val vi' vp' vr')(ho:One k.val):
  Calls prog 69 #[kvV ⟨k,vi,vp,vr⟩,kvV ⟨k,vi',vp',vr'⟩] w fun e w'=>e=.returned (.bool true)/\Bl w w':=by
 have HE:Hid (∀W,Bl w W->Cp 118 #[vlV k.val.kind k.val.text vi vp vr,vlV k.val.kind k.val.text vi' vp' vr'] W fun e w'=>e=.returned (.bool true)/\Bl W w'):=fun W hb=>zeb k.val vi vp vr vi' vp' vr' W (h.bw hb) (h'.bw hb) ho.ni ho.np ho.nr;clear h h' ho;obtain⟨nm,⟨kd,t,_,_,_⟩,d⟩:=k;dsimp only at HE;obtain⟨wa,Sz⟩:∃wa,(w.alloc (.cells (kC nm kd t vi vp vr d) 47)).alloc (.cells (kC nm kd t vi' vp' vr' d) 47)=wa:=⟨_,rfl⟩;have HA:Hid (Fc wa w.heap.size 47 (kC nm kd t vi vp vr d)/\Fc wa (w.heap.size+1) 47 (kC nm kd t vi' vp' vr' d)/\Bl w wa):=by
  subst Sz;have e1:(w.alloc (.cells (kC nm kd t vi vp vr d) 47)).heap.size=w.heap.size+1:=by simp
  refine⟨Fc.bw (Fc.new w 47 _) ((Qb _ _).alloc (Qc _) _) (by simp),?_,((Qb _ w).alloc (Qc _) _).alloc (by simp) _⟩;rw[<-e1];exact Fc.new _ 47 _
 have Va:Hid ((w.alloc (.cells (kC nm kd t vi vp vr d) 47)).alloc (.cells (kC nm kd t vi' vp' vr' d) 47)=wa):=Sz;clear Sz;go_enter func69,ntmps69;go_wp2_with fail;rw[Va.out];obtain⟨r1,r2,b0⟩:=HA.out;refine(HE.out wa b0).mono ?_;rintro e w1⟨rfl,b1⟩;obtain⟨_,_,_,_,_,_,y6⟩:=F6 (Fc.bw r1 b1 r1.lt);obtain⟨_,_,_,_,_,_,z6⟩:=F6 (Fc.bw r2 b1 r2.lt);have Vb:=b0.trans (b1.mono b0.size);clear r1 r2 b0 b1 Va HA;go_wp2;go_ret;exact⟨rfl,Vb⟩
structure DbQ (w:World) (a:Option Addr) (b n:Nat) (L:List KV):Prop where
 ks:To w a b n L
 val:∀i,i<n->VAt w (L.getD i kv0).key.val (L.getD i kv0).vi (L.getD i kv0).vp (L.getD i kv0).vr
theorem DbQ.bw{w':World}(h:DbQ w a b n L)(hb:Bl w w'):DbQ w' a b n L:=
 ⟨h.ks.bw hb,fun i hi=>(h.val i hi).bw hb⟩
theorem Oc.rdq(h:Oc w a b n L)(hs:∀i,i<n->One (L.getD i kv0).key.val):DbQ w a b n L:=
 ⟨h.ks,fun i hi=>by obtain⟨B,hB⟩:=h.val i hi;exact hB.at (hs i hi).ia⟩
theorem za1(a a':Option Addr)(b b' n c c':Nat)(L L':List KV)(w:World)(h:DbQ w a b n L)(h':DbQ w a' b' n L')(hs:∀i,i<n->One (L.getD i kv0).key.val)(he:∀i,i<n->(L'.getD i kv0).key=(L.getD i kv0).key)(hn:n<=1048577):
  Calls prog 31 #[.slice a n c,.slice a' n c'] w fun e w'=>e=.returned (.bool true)/\Bl w w':=by
 have H:Hid (DbQ w a b n L):=h;have H':Hid (DbQ w a' b' n L'):=h';have HS:Hid (∀i,i<n->One (L.getD i kv0).key.val):=hs;have HE:Hid (∀i,i<n->(L'.getD i kv0).key=(L.getD i kv0).key):=he;go_enter func31,ntmps31;go_wp2;go_loopw [5] (fun i wr=>∃(k:Nat),k<=n/\i=.int .i64 k/\Bl w wr) (fun i _=>n-(intOf i).toNat)
 case atStart=>exact⟨0,by omega,rfl,Qb _ _⟩
 case round=>
  obtain⟨k,hk,rfl,bk⟩:=hrel;have sk:=bk.size;by_cases hlt:k<n
  ·have HW:=H.out.bw bk;have Sz:=H'.out.bw bk;have hx:=HW.ks.cell k hlt;have hy:=Sz.ks.cell k hlt;have vx:=HW.val k hlt;have vy:=Sz.val k hlt;have Ve:=HS.out k hlt;have Vf:=HE.out k hlt;obtain rfl:=HW.ks.addr (by omega);obtain rfl:=Sz.ks.addr (by omega);generalize L.getD k kv0=x,L'.getD k kv0=y at*;obtain⟨kx,vi,vp,vr⟩:=x;obtain⟨ky,Vd,Vc,Vg⟩:=y;dsimp only at Vf;subst Vf;have cE:∀d os,Calls prog 69 #[kvV ⟨ky,vi,vp,vr⟩,kvV ⟨ky,Vd,Vc,Vg⟩] (grow (redrawn wr d) os) fun e w''=>e=.returned (.bool true)/\∃p:Regrown,w''=grow (redrawn wr p.d) p.os:=fun d os=>Calls.regrown_of (zc6 ky vi vp vr Vd Vc Vg _ (vx.bw (below_regrown wr d os)) (vy.bw (below_regrown wr d os)) Ve);obtain⟨nm,⟨kd,t,_,_,_⟩,d⟩:=ky;obtain⟨c0,c1,c2,c3,c4,c5,c6⟩:=hx;obtain⟨e0,e1,e2,e3,e4,e5,e6⟩:=hy;dsimp only at c0 c1 c2 c3 c4 c5 c6 e0 e1 e2 e3 e4 e5 e6 cE;have Vr:=cell_regrown c0;have Vu:=cell_regrown c1;have Vo:=cell_regrown c2;have Vh:=cell_regrown c3;have Vn:=cell_regrown c4;have Vt:=cell_regrown c5;have Vk:=cell_regrown c6;have ke0:=cell_regrown e0;have Vi:=cell_regrown e1;have Vj:=cell_regrown e2;have Vs:=cell_regrown e3;have Vp:=cell_regrown e4;have Vq:=cell_regrown e5;have Vm:=cell_regrown e6;have Vv:(0:Int)<=(k:Int):=by omega
   have Vw:(k:Int)<(n:Int):=by omega
   go_wp2;refine wp_region_quiet_below (by kernel_rfl) (by kernel_rfl) ?_;repeat(first|go_big_quiet_skip|quiet_step (first|with_reducible exact cE _ _))
   refine wpQuiet_nil ?_;intro _ hw';obtain⟨⟨dq,Vb⟩,Va⟩:=hw';subst Va;have bq:=below_regrown wr dq Vb;generalize grow (redrawn wr dq) Vb=wq at*;go_wp2;go_roundw
   case rel=>exact⟨k+1,by omega,by go_num,bk.trans (bq.mono sk)⟩
   case measure=>simp[intOf];omega
  ·go_wp2;go_ret;exact⟨rfl,bk⟩
open Rb (Mu Pn)
def E5 (K:Nat) (v:Vl):Nat:=K+4+v.ia.length+2*v.pj.length+2*v.rq.length
def zak (K:Nat) (v:Vl):Vl:=⟨((K+1:Nat):Int),Ac (K+2),Bj (K+3) v.ia.length,Da (K+3+v.ia.length) v.pj.length,Kk.marks (K+3+v.ia.length+2*v.pj.length) v.rq.length⟩
def Hw (K:Nat) (x:KV):KV:=⟨⟨Ac K,zak K x.key.val,((K+3+x.key.val.ia.length+2*x.key.val.pj.length+2*x.key.val.rq.length:Nat):Int)⟩,x.vi,x.vp,x.vr⟩
def Ao:Nat->List KV->Nat
 |K,[]=>K
 |K,x::xs=>Ao (E5 K x.key.val) xs
def A7:Nat->List KV->List KV
 |_,[]=> []
 |K,x::xs=>Hw K x::A7 (E5 K x.key.val) xs
theorem Dq:∀(L:List KV)(K:Nat),(A7 K L).length=L.length
 |[],_=>rfl
 |x::xs,K=>by simp[A7,Dq xs]
theorem I4:∀(L:List KV) (K i:Nat),i<L.length->(A7 K L).getD i kv0=Hw (Ao K (L.take i)) (L.getD i kv0)
 | [],_,_,h=>by simp at h
 |x::xs,K,0,_=>by simp[A7,Ao]
 |x::xs,K,i+1,h=>by
  have:=I4 xs (E5 K x.key.val) i (by simpa using h);simpa[A7,Ao]using this
theorem zad:∀(L:List KV) (K i:Nat),i<L.length->Ao K (L.take (i+1))=E5 (Ao K (L.take i)) (L.getD i kv0).key.val
 | [],_,_,h=>by simp at h
 |x::xs,K,0,_=>by simp[Ao]
 |x::xs,K,i+1,h=>by
  have:=zad xs (E5 K x.key.val) i (by simpa using h);simpa[Ao]using this
def Dk (K:Nat) (L:List KV) (i:Nat):List KV:=A7 K (L.take i)++L.drop i
section
variable (K:Nat) (L:List KV)
theorem zc7(i:Nat)(h:i<=L.length):(Dk K L i).length=L.length:=by
 unfold Dk;rw[Qi,Dq,Qn,Qu];omega
theorem zcj:Dk K L 0=L:=by simp[Dk,A7]
theorem zc4:Dk K L L.length=A7 K L:=by simp[Dk]
theorem zdy(i:Nat)(h:i<L.length):(Dk K L i).getD i kv0=L.getD i kv0:=by
 unfold Dk;rw[Qa,Qa,List.getElem?_append_right (by rw[Dq,Qn];omega),Dq,Qn,List.getElem?_drop];congr 2;omega
end
theorem zaq:∀(L:List KV) (K i:Nat),i<L.length->A7 K (L.take (i+1))=A7 K (L.take i)++ [Hw (Ao K (L.take i)) (L.getD i kv0)]
 | [],_,_,h=>by simp at h
 |x::xs,K,0,_=>by simp[A7,Ao]
 |x::xs,K,i+1,h=>by
  have:=zaq xs (E5 K x.key.val) i (by simpa using h);simpa[A7,Ao]using this
theorem zcc(K:Nat)(L:List KV)(i:Nat)(h:i<L.length):Dk K L (i+1)=(Dk K L i).set i (Hw (Ao K (L.take i)) (L.getD i kv0)):=by
 unfold Dk;have hl:(A7 K (L.take i)).length=i:=by rw[Dq,Qn];omega
 rw[zaq L K i h,List.drop_eq_getElem_cons h,List.set_append_right _ _ (by omega),hl,Nat.sub_self,List.set_cons_zero,List.append_assoc];rfl
def za9 (D:Array Value) (L:List KV):Prop:=∀i,i<L.length->∀j,j<7->D[i*7+j]?=(kvC (L.getD i kv0))[j]?
theorem zdz(hp:za9 D M)(hm:m<M.length)(hD:m*7+6<D.size)(hx:M.getD m kv0=x)(e1:y.vi=x.vi)(e2:y.vp=x.vp)(e3:y.vr=x.vr):
  za9 ((((D.setIfInBounds (m*7) (.string y.key.name)).setIfInBounds (m*7+1) (.int .i64 y.key.val.kind)).setIfInBounds (m*7+2) (.string y.key.val.text)).setIfInBounds (m*7+6) (.int .i64 y.key.due)) (M.set m y):=by
 intro i hi j hj;rw[List.length_set]at hi;have Sz:=hp i hi j hj;by_cases e:i=m
 ·subst e;rw[show(M.set i y).getD i kv0=y by rw[Qa,List.getElem?_set_self hi];rfl];rw[hx]at Sz;have h7:j=0\/j=1\/j=2\/j=3\/j=4\/j=5\/j=6:=by omega
  rcases h7 with rfl|rfl|rfl|rfl|rfl|rfl|rfl
  ·rw[Array.getElem?_setIfInBounds_ne (by omega),Array.getElem?_setIfInBounds_ne (by omega),Array.getElem?_setIfInBounds_ne (by omega),Qy,Array.getElem?_setIfInBounds_self_of_lt (by omega)];rfl
  ·rw[Array.getElem?_setIfInBounds_ne (by omega),Array.getElem?_setIfInBounds_ne (by omega),Array.getElem?_setIfInBounds_self_of_lt (by simp only[Array.size_setIfInBounds];omega)];rfl
  ·rw[Array.getElem?_setIfInBounds_ne (by omega),Array.getElem?_setIfInBounds_self_of_lt (by simp only[Array.size_setIfInBounds];omega)];rfl
  ·rw[Array.getElem?_setIfInBounds_ne (by omega),Array.getElem?_setIfInBounds_ne (by omega),Array.getElem?_setIfInBounds_ne (by omega),Array.getElem?_setIfInBounds_ne (by omega),Sz];show some x.vi=some y.vi;rw[e1]
  ·rw[Array.getElem?_setIfInBounds_ne (by omega),Array.getElem?_setIfInBounds_ne (by omega),Array.getElem?_setIfInBounds_ne (by omega),Array.getElem?_setIfInBounds_ne (by omega),Sz];show some x.vp=some y.vp;rw[e2]
  ·rw[Array.getElem?_setIfInBounds_ne (by omega),Array.getElem?_setIfInBounds_ne (by omega),Array.getElem?_setIfInBounds_ne (by omega),Array.getElem?_setIfInBounds_ne (by omega),Sz];show some x.vr=some y.vr;rw[e3]
  ·rw[Array.getElem?_setIfInBounds_self_of_lt (by simp only[Array.size_setIfInBounds];omega)];rfl
 ·rw[show(M.set m y).getD i kv0=M.getD i kv0 by rw[Qa,Qa,List.getElem?_set_ne (fun h=>e h.symm)]];rw[Array.getElem?_setIfInBounds_ne (by omega),Array.getElem?_setIfInBounds_ne (by omega),Array.getElem?_setIfInBounds_ne (by omega),Array.getElem?_setIfInBounds_ne (by omega),Sz]
theorem zb3(u:Value)(hr:Fc W g 47 D):∀k e C,e≠47->Fc W k e C->(W.setCell ⟨g,j,none⟩ u).heap[k]?=W.heap[k]?:=fun k e C he hC=>by
 refine Below.heap_setCell _ _ _ _ fun hk=>?_;have:k=g:=by simpa using hk
 subst this;exact he (Hp.N9 hC hr)
theorem Ij{e':TypeId}{size' n':Nat}{ys:List Value}(h:W.ownsRow B e size v n xs)(hu:W.ownsRow B' e' size' u n' ys)(he:e≠e')(hg:W.grownBy W' u.ownBlock):W'.ownsRow B e size v n xs:=
 Lt h fun k hk=>hg.block k (Hf h hk).2 fun ee=>by
  obtain⟨C,hC⟩:=M3 h hk;obtain⟨D,hD⟩:=M3 hu ee.symm;exact he (Hp.N9 hC hD)
theorem zbu(h:Nu w B v L)(h0:0<L.length):∃g cap D,v=.slice (some ⟨g,0,none⟩) L.length cap/\B<=g/\Fc w g 47 D/\D.size=cap*7/\za9 D L/\L.length<=cap/\cap<=maxLen:=by
 obtain⟨Ve,⟨rfl,hz⟩|⟨g,cap,Vb,rfl,hg,hh,Va,Sz,Vc,Vd⟩⟩:=h
 ·omega
 ·refine⟨g,cap,Vb,rfl,hg,hh,Vc,fun i hi j hj=>?_,Va,Sz⟩;rw[<-zuj L i j hi hj,<-Vd,List.getElem?_take,if_pos (by omega),Array.getElem?_toList]
structure Few (v:Vl):Prop where
 ni:v.ia.length<=1000
 np:v.pj.length<=1000
 nr:v.rq.length<=1000
 ia:∀t∈v.ia,t.size<=1048576
theorem Few.one{v:Vl}(h:Few v):One v:=⟨by have:=h.ni;omega,by have:=h.np;omega,by have:=h.nr;omega,h.ia⟩
structure Bq (w W:World) (B g:Nat) (N:Nat->Prop) (M:List KV) (m:Nat) (D:Array Value) (v:Vl) (vi vp vr:Value):Prop where
 row:Fc W g 47 D
 own:VOwn W B v vi vp vr
 oth:∀i,i<M.length->i≠m->VOwn W B (M.getD i kv0).key.val (M.getD i kv0).vi (M.getD i kv0).vp (M.getD i kv0).vr
 bel:Below B w W
 up:∀k,N k->k<w.heap.size->W.heap[k]?=w.heap[k]?
structure Stat (B g:Nat) (N:Nat->Prop) (M:List KV) (m:Nat) (vi vp vr:Value):Prop where
 hg:B<=g
 hN:¬N g
 l1:∀k,vi.ownBlock=some k->¬N k
 l2:∀k,vp.ownBlock=some k->¬N k
 l3:∀k,vr.ownBlock=some k->¬N k
 o1:∀i,i<M.length->i≠m->∀k,(M.getD i kv0).vi.ownBlock=some k->vi.ownBlock≠some k
 o2:∀i,i<M.length->i≠m->∀k,(M.getD i kv0).vp.ownBlock=some k->vp.ownBlock≠some k
 o3:∀i,i<M.length->i≠m->∀k,(M.getD i kv0).vr.ownBlock=some k->vr.ownBlock≠some k
theorem zav(h:L.Pairwise Pn)(hi:i<L.length)(hj:j<L.length)(hne:i≠j):Pn (L.getD i kv0) (L.getD j kv0):=by
 have e:∀k,(hk:k<L.length)->L.getD k kv0=L[k]:=fun k hk=>by rw[Qa,Qd hk];rfl
 rw[e i hi,e j hj];rcases Nat.lt_or_gt_of_ne hne with hlt|hlt
 ·exact List.pairwise_iff_getElem.1 h i j hi hj hlt
 ·exact(List.pairwise_iff_getElem.1 h j i hj hi hlt).symm
theorem zac(h:Mu w B L)(hi:i<L.length):VOwn w B (L.getD i kv0).key.val (L.getD i kv0).vi (L.getD i kv0).vp (L.getD i kv0).vr:=by
 have e:L.getD i kv0=L[i]:=by rw[Qa,Qd hi];rfl
 rw[e];exact h.own _ (Qv hi)
theorem zdg(h:Mu w B M)(hg:B<=g)(hm:m<M.length)(hx:M.getD m kv0=x)(hN:¬N g)(hl:∀k,(x.vi.ownBlock=some k\/x.vp.ownBlock=some k\/x.vr.ownBlock=some k)->¬N k):Stat B g N M m x.vi x.vp x.vr:=by
 subst hx;exact⟨hg,hN,fun k hk=>hl k (.inl hk),fun k hk=>hl k (.inr (.inl hk)),fun k hk=>hl k (.inr (.inr hk)),fun i hi hne k hk=>(zav h.ap hi hm hne).1 k hk,fun i hi hne k hk=>(zav h.ap hi hm hne).2.1 k hk,fun i hi hne k hk=>(zav h.ap hi hm hne).2.2 k hk⟩
theorem Bq.bw{v:Vl}(h:Bq w W B g N M m D v vi vp vr)(hB:B<=w.heap.size)(hb:Bl W W'):Bq w W' B g N M m D v vi vp vr:=
 ⟨Fc.bw h.row hb h.row.lt,h.own.bw hb,fun i hi hne=>(h.oth i hi hne).bw hb,h.bel.trans (hb.mono (Qj hB h.bel.size)),fun k h1 h2=>(hb.block k (Qr h2 h.bel.size)).trans (h.up k h1 h2)⟩
theorem Bq.set{v:Vl}(h:Bq w W B g N M m D v vi vp vr)(hs:Stat B g N M m vi vp vr)(j:Nat)(u:Value):Bq w (W.setCell ⟨g,j,none⟩ u) B g N M m (D.setIfInBounds j u) v vi vp vr:=
 ⟨h.row.set j u,Wf h.own (zb3 u h.row),fun i hi hne=>Wf (h.oth i hi hne) (zb3 u h.row),h.bel.setCell hs.hg u,fun k h1 h2=>(Below.heap_setCell _ _ _ _ (by show k≠g;exact fun e=>hs.hN (e ▸ h1))).trans (h.up k h1 h2)⟩
theorem Bq.turn{v v':Vl}(h:Bq w W B g N M m D v vi vp vr)(hB:B<=w.heap.size)(hu:W.ownsRow B e size u n xs)(he:e≠47)(q1:e=9->∀i,i<M.length->i≠m->∀k,(M.getD i kv0).vi.ownBlock=some k->u.ownBlock≠some k)(q2:e=145->∀i,i<M.length->i≠m->∀k,(M.getD i kv0).vp.ownBlock=some k->u.ownBlock≠some k)(q3:e=147->∀i,i<M.length->i≠m->∀k,(M.getD i kv0).vr.ownBlock=some k->u.ownBlock≠some k)(hlt:∀k,u.ownBlock=some k->¬N k)(hg:W.grownBy W' u.ownBlock)(ho:VOwn W' B v' vi vp vr):Bq w W' B g N M m D v' vi vp vr:=by
 refine⟨(hg.block g h.row.lt fun ee=>?_).trans h.row,ho,fun i hi hne=>?_,?_,fun k h1 h2=>(hg.block k (Qr h2 h.bel.size) fun ee=>hlt k ee.symm h1).trans (h.up k h1 h2)⟩
 ·obtain⟨C,hC⟩:=M3 hu ee.symm;exact he (Hp.N9 hC h.row)
 ·have hv:=h.oth i hi hne;refine⟨Lt hv.ia fun k hk=>hg.block k (Hf hv.ia hk).2 fun ee=>?_,Lt hv.pj fun k hk=>hg.block k (Hf hv.pj hk).2 fun ee=>?_,Lt hv.rq fun k hk=>hg.block k (Hf hv.rq hk).2 fun ee=>?_⟩
  ·obtain⟨C,hC⟩:=M3 hu ee.symm;obtain⟨C2,Sz⟩:=M3 hv.ia hk;exact q1 (Hp.N9 hC Sz) i hi hne k hk ee.symm
  ·obtain⟨C,hC⟩:=M3 hu ee.symm;obtain⟨C2,Sz⟩:=M3 hv.pj hk;exact q2 (Hp.N9 hC Sz) i hi hne k hk ee.symm
  ·obtain⟨C,hC⟩:=M3 hu ee.symm;obtain⟨C2,Sz⟩:=M3 hv.rq hk;exact q3 (Hp.N9 hC Sz) i hi hne k hk ee.symm
 ·exact h.bel.grown hg (Qj hB h.bel.size) fun k e=>(Hf hu e).1
theorem Bq.done{w0:World}(h:Bq w W B g N M m D y.key.val y.vi y.vp y.vr)(h0:Mu w0 B M)(hm:m<M.length)(e1:y.vi=(M.getD m kv0).vi)(e2:y.vp=(M.getD m kv0).vp)(e3:y.vr=(M.getD m kv0).vr):Mu W B (M.set m y):=by
 have g1:∀i,i<M.length->i≠m->(M.set m y).getD i kv0=M.getD i kv0:=fun i hi hne=>by rw[Qa,Qa,List.getElem?_set_ne (fun h=>hne h.symm)]
 have g2:(M.set m y).getD m kv0=y:=by rw[Qa,List.getElem?_set_self hm];rfl
 have gx:∀i,(hi:i<M.length)->((M.set m y).getD i kv0).vi=(M.getD i kv0).vi/\((M.set m y).getD i kv0).vp=(M.getD i kv0).vp/\((M.set m y).getD i kv0).vr=(M.getD i kv0).vr:=fun i hi=>by
  by_cases e:i=m
  ·subst e;rw[g2];exact⟨e1,e2,e3⟩
  ·rw[g1 i hi e];exact⟨rfl,rfl,rfl⟩
 have ge:∀(L:List KV) k,(hk:k<L.length)->L[k]=L.getD k kv0:=fun L k hk=>by rw[Qa,Qd hk];rfl
 refine⟨fun x hx=>?_,?_⟩
 ·obtain⟨i,hi,rfl⟩:=List.getElem_of_mem hx;have Sz:i<M.length:=by rwa[List.length_set]at hi
  rw[ge _ i hi];by_cases e:i=m
  ·subst e;rw[g2];exact h.own
  ·rw[g1 i Sz e];exact h.oth i Sz e
 ·refine List.pairwise_iff_getElem.2 fun i j hi hj hlt=>?_;have Sz:i<M.length:=by rwa[List.length_set]at hi
  have Va:j<M.length:=by rwa[List.length_set]at hj
  rw[ge _ i hi,ge _ j hj];obtain⟨a1,a2,a3⟩:=gx i Sz;obtain⟨b1,b2,b3⟩:=gx j Va;have hp:=zav h0.ap Sz Va (by omega);unfold Pn at hp ⊢;rw[a1,a2,a3,b1,b2,b3];exact hp
theorem zbf:∀(L:List KV)(K:Nat),(∀i,i<L.length->Few (L.getD i kv0).key.val)->Ao K L<=K+L.length*6000
 |[],_,_=>by simp[Ao]
 |x::xs,K,h=>by
  have h0:=h 0 (by simp);have:=zbf xs (E5 K x.key.val) (fun i hi=>by have:=h (i+1) (by simpa using hi);simpa using this);have hx:Few x.key.val:=by simpa using h0
  have e1:=hx.ni;have e2:=hx.np;have e3:=hx.nr;show Ao (E5 K x.key.val) xs<=_;have e4:E5 K x.key.val<=K+6000:=by unfold E5;omega
  rw[Q1];omega
theorem zai(g cap n B:Nat)(N:Nat->Prop)(L:List KV)(w:World)(D0:Array Value)(hL:L.length=n)(h1:Fc w g 47 D0)(hD0:D0.size=cap*7)(hp:za9 D0 L)(hr:Mu w B L)(hc:n<=cap)(hg:B<=g)(hB:B<=w.heap.size)(hgN:¬N g)(hlN:∀i,i<n->∀k,((L.getD i kv0).vi.ownBlock=some k\/(L.getD i kv0).vp.ownBlock=some k\/(L.getD i kv0).vr.ownBlock=some k)->¬N k)(hn:n<=1048577)(hsm:∀i,i<n->One (L.getD i kv0).key.val):
  Calls prog 34 #[.slice (some ⟨g,0,none⟩) n cap,.int .i64 1] w fun e w'=>e=.returned (.int .i64 (Ao 1 L:Nat))/\(∃D,D.size=cap*7/\Fc w' g 47 D/\za9 D (A7 1 L))/\Mu w' B (A7 1 L)/\(Below B w w'/\∀k,N k->k<w.heap.size->(w').heap[k]?=w.heap[k]?):=by
 have Xh:Hid (∀i,i<n->∀k,((L.getD i kv0).vi.ownBlock=some k\/(L.getD i kv0).vp.ownBlock=some k\/(L.getD i kv0).vr.ownBlock=some k)->¬N k):=hlN;have HL:Hid (L.length=n):=hL;have Xl:Hid (∀i,i<n->One (L.getD i kv0).key.val):=hsm;have H0:Hid (D0.size=cap*7/\Fc w g 47 D0/\za9 D0 (Dk 1 L 0)/\Mu w B (Dk 1 L 0)):=by unfold Hid;rw[zcj];exact⟨hD0,h1,hp,hr⟩
 go_enter func34,ntmps34;go_wp2;go_loopw [1,5] (fun kv i wr=>∃(k K:Nat) (D:Array Value),k<=n/\i=.int .i64 k/\kv=.int .i64 K/\1<=K/\K<=1+k*5300000/\Hid (K=Ao 1 (L.take k))/\Hid (D.size=cap*7/\Fc wr g 47 D/\za9 D (Dk 1 L k)/\Mu wr B (Dk 1 L k))/\Hid (Below B w wr/\∀k,N k->k<w.heap.size->(wr).heap[k]?=w.heap[k]?)) (fun _ i _=>n-(intOf i).toNat)
 case atStart=>exact⟨0,1,D0,by omega,rfl,rfl,by omega,by omega,rfl,H0,Qb _ _,fun _ _ _=>rfl⟩
 case round=>
  obtain⟨k,K,D,hk,rfl,rfl,Xn,Xo,Vp,hS,Vc⟩:=hrel;by_cases hlt:k<n
  ·obtain⟨Vt,Vj,Vg,Va⟩:=hS.out;have Vo:(Dk 1 L k).length=n:=(zc7 1 L k (by rw[HL.out];exact hk)).trans HL.out;have Ve:(Dk 1 L k).getD k kv0=L.getD k kv0:=zdy 1 L k (by rw[HL.out];exact hlt);have Vq:Dk 1 L (k+1)=(Dk 1 L k).set k (Hw K (L.getD k kv0)):=by rw[Vp.out];exact zcc 1 L k (by rw[HL.out];exact hlt)
   have Vx:Ao 1 (L.take (k+1))=E5 K (L.getD k kv0).key.val:=by rw[Vp.out];exact zad L 1 k (by rw[HL.out];exact hlt)
   have Vs:=Xl.out k hlt;have Xc:=zdg Va hg (by rw[Vo];exact hlt) Ve hgN (Xh.out k hlt);have R0:Bq w wr B g N (Dk 1 L k) k D (L.getD k kv0).key.val (L.getD k kv0).vi (L.getD k kv0).vp (L.getD k kv0).vr:=⟨Vj,by have:=zac Va (i:=k) (by rw[Vo];exact hlt);rw[Ve]at this;exact this,fun i hi _=>zac Va hi,Vc.out.1,Vc.out.2⟩;have Vr:=Vg k (by rw[Vo];exact hlt);have Vn:∀W D',D'=((((D.setIfInBounds (k*7) (.string (Ac K))).setIfInBounds (k*7+1) (.int .i64 ((K+1:Nat):Int))).setIfInBounds (k*7+2) (.string (Ac (K+2)))).setIfInBounds (k*7+6) (.int .i64 ((K+3+(L.getD k kv0).key.val.ia.length+2*(L.getD k kv0).key.val.pj.length+2*(L.getD k kv0).key.val.rq.length:Nat):Int)))->Bq w W B g N (Dk 1 L k) k D' (zak K (L.getD k kv0).key.val) (L.getD k kv0).vi (L.getD k kv0).vp (L.getD k kv0).vr->D'.size=cap*7/\Fc W g 47 D'/\za9 D' (Dk 1 L (k+1))/\Mu W B (Dk 1 L (k+1)):=fun W D' hD' hR=>by
    subst hD';refine⟨by simp only[Array.size_setIfInBounds];exact Vt,hR.row,?_,?_⟩
    ·rw[Vq];exact zdz (y:=Hw K (L.getD k kv0)) Vg (by rw[Vo];exact hlt) (by rw[Vt];omega) Ve rfl rfl rfl
    ·rw[Vq];exact Bq.done (y:=Hw K (L.getD k kv0)) hR Va (by rw[Vo];exact hlt) (by rw[Ve];rfl) (by rw[Ve];rfl) (by rw[Ve];rfl)
   rw[Ve]at Vr;have Vm:Hid _:=Vn;have Vb:Hid _:=Xc;have Vw:Hid (Ao 1 (L.take (k+1))=E5 K (L.getD k kv0).key.val):=Vx;have Xj:k*7+6<D.size:=by rw[Vt];omega
   have Sz:∀j,j<7->D[k*7+j]?=(kvC (L.getD k kv0))[j]?:=Vr;generalize Dk 1 L k=M,L.getD k kv0=x at*;obtain⟨n1,n2,n3,_⟩:=Vs;have d3:D[k*7+3]?=some x.vi:=Sz 3 (by omega);have d4:D[k*7+4]?=some x.vp:=Sz 4 (by omega);have d5:D[k*7+5]?=some x.vr:=Sz 5 (by omega);have Xm:K<=6000000000000:=by omega
   have cM:=Kk.Bb K wr (by omega) (by omega);have HM:Hid (Cp 71 #[.int .i64 K] wr fun e w'=>e=.returned (.string (Ac K))/\Bl wr w'):=cM;have HN:Hid (∀W,Cp 71 #[.int .i64 ((K:Int)+1+1)] W fun e w'=>e=.returned (.string (Ac (K+2)))/\Bl W w'):=fun W=>Kk.Bb (K+2) W (by omega) (by omega);have Vz:Hid (Bq w wr B g N M k D x.key.val x.vi x.vp x.vr):=R0;go_wp2_with fail;refine HM.out.mono ?_;rintro e w1⟨rfl,b1⟩;have R1:=Vz.out.bw hB b1;have r1:=R1.row;have t0:w1.cell? ⟨g,k*7,none⟩=some (D[k*7]'(by omega)):=by rw[r1.cell];simp
   have f0:=r1.frozen (k*7);have R2:=R1.set Vb.out (k*7) (.string (Ac K));have r2:=R2.row;have t1:(w1.setCell ⟨g,k*7,none⟩ (.string (Ac K))).cell? ⟨g,k*7+1,none⟩=some (D[k*7+1]'(by omega)):=by rw[r2.cell,Array.getElem?_setIfInBounds_ne (by omega)];simp
   have f1:=r2.frozen (k*7+1);have R3:=R2.set Vb.out (k*7+1) (.int .i64 ((K:Int)+1));have Vy:Hid (Bq w ((w1.setCell ⟨g,k*7,none⟩ (.string (Ac K))).setCell ⟨g,k*7+1,none⟩ (.int .i64 ((K:Int)+1))) B g N M k ((D.setIfInBounds (k*7) (.string (Ac K))).setIfInBounds (k*7+1) (.int .i64 ((K:Int)+1))) x.key.val x.vi x.vp x.vr):=R3;generalize D[k*7]'(by omega)=y0,D[k*7+1]'(by omega)=y1 at*;go_wp2_with fail;refine(HN.out _).mono ?_;rintro e w3⟨rfl,b3⟩;have R4:=Vy.out.bw hB b3;have r4:=R4.row;have t2:w3.cell? ⟨g,k*7+2,none⟩=some (D[k*7+2]'(by omega)):=by rw[r4.cell,Array.getElem?_setIfInBounds_ne (by omega),Array.getElem?_setIfInBounds_ne (by omega)];simp
   have f2:=r4.frozen (k*7+2);have R5:=R4.set Vb.out (k*7+2) (.string (Ac (K+2)));have r5:=R5.row;have t3:(w3.setCell ⟨g,k*7+2,none⟩ (.string (Ac (K+2)))).cell? ⟨g,k*7+3,none⟩=some x.vi:=by rw[r5.cell,Array.getElem?_setIfInBounds_ne (by omega),Array.getElem?_setIfInBounds_ne (by omega),Array.getElem?_setIfInBounds_ne (by omega)];exact d3
   have Vd:Hid (Bq w (w3.setCell ⟨g,k*7+2,none⟩ (.string (Ac (K+2)))) B g N M k (((D.setIfInBounds (k*7) (.string (Ac K))).setIfInBounds (k*7+1) (.int .i64 ((K:Int)+1))).setIfInBounds (k*7+2) (.string (Ac (K+2)))) x.key.val x.vi x.vp x.vr):=R5;have Vu:Hid (Cp 35 #[x.vi,.int .i64 ((K:Int)+1+1+1)] (w3.setCell ⟨g,k*7+2,none⟩ (.string (Ac (K+2)))) fun e w'=>e=.returned (.int .i64 (K+3+x.key.val.ia.length:Nat))/\Fz w' B x.vi (Bj (K+3) x.key.val.ia.length)/\(w3.setCell ⟨g,k*7+2,none⟩ (.string (Ac (K+2)))).grownBy w' (Value.ownBlock x.vi)):=zbv (K+3) B x.vi x.key.val.ia _ R5.own.ia (by omega) (by omega) (by omega);generalize D[k*7+2]'(by omega)=y2 at*;obtain⟨D5,Vi⟩:∃D5,((D.setIfInBounds (k*7) (.string (Ac K))).setIfInBounds (k*7+1) (.int .i64 ((K:Int)+1))).setIfInBounds (k*7+2) (.string (Ac (K+2)))=D5:=⟨_,rfl⟩;have Xe:Hid (((D.setIfInBounds (k*7) (.string (Ac K))).setIfInBounds (k*7+1) (.int .i64 ((K:Int)+1))).setIfInBounds (k*7+2) (.string (Ac (K+2)))=D5):=Vi;have q4:D5[k*7+4]?=some x.vp:=by rw[<-Vi,Array.getElem?_setIfInBounds_ne (by omega),Array.getElem?_setIfInBounds_ne (by omega),Array.getElem?_setIfInBounds_ne (by omega)];exact d4
   have q5:D5[k*7+5]?=some x.vr:=by rw[<-Vi,Array.getElem?_setIfInBounds_ne (by omega),Array.getElem?_setIfInBounds_ne (by omega),Array.getElem?_setIfInBounds_ne (by omega)];exact d5
   have Xi:k*7+6<D5.size:=by rw[<-Vi];simp only[Array.size_setIfInBounds];exact Xj
   rw[Vi]at Vd;go_wp2_with fail;refine Vu.out.mono ?_;rintro e w4⟨rfl,o4,g4⟩;have R6:Bq w w4 B g N M k D5 ⟨x.key.val.kind,x.key.val.text,Bj (K+3) x.key.val.ia.length,x.key.val.pj,x.key.val.rq⟩ x.vi x.vp x.vr:=Vd.out.turn hB Vd.out.own.ia (by decide) (fun _=>Vb.out.o1) (fun h=>absurd h (by decide)) (fun h=>absurd h (by decide)) Vb.out.l1 g4 ⟨o4,Ij Vd.out.own.pj Vd.out.own.ia (by decide) g4,Ij Vd.out.own.rq Vd.out.own.ia (by decide) g4⟩;have t4:w4.cell? ⟨g,k*7+4,none⟩=some x.vp:=(R6.row.cell _).trans q4;have Xb:Hid (Cp 72 #[x.vp,.int .i64 (K+3+x.key.val.ia.length:Nat)] w4 fun e w'=>e=.returned (.int .i64 (K+3+x.key.val.ia.length+2*x.key.val.pj.length:Nat))/\G3 w' B x.vp (Da (K+3+x.key.val.ia.length) x.key.val.pj.length)/\w4.grownBy w' (Value.ownBlock x.vp)):=zdn (K+3+x.key.val.ia.length) B x.vp x.key.val.pj w4 R6.own.pj (by omega) (by omega) (by omega);have Vf:Hid (Bq w w4 B g N M k D5 ⟨x.key.val.kind,x.key.val.text,Bj (K+3) x.key.val.ia.length,x.key.val.pj,x.key.val.rq⟩ x.vi x.vp x.vr):=R6;go_wp2_with fail;refine Xb.out.mono ?_;rintro e w5⟨rfl,o5,g5⟩;have R7:Bq w w5 B g N M k D5 ⟨x.key.val.kind,x.key.val.text,Bj (K+3) x.key.val.ia.length,Da (K+3+x.key.val.ia.length) x.key.val.pj.length,x.key.val.rq⟩ x.vi x.vp x.vr:=Vf.out.turn hB Vf.out.own.pj (by decide) (fun h=>absurd h (by decide)) (fun _=>Vb.out.o2) (fun h=>absurd h (by decide)) Vb.out.l2 g5 ⟨Ij Vf.out.own.ia Vf.out.own.pj (by decide) g5,o5,Ij Vf.out.own.rq Vf.out.own.pj (by decide) g5⟩;have t5:w5.cell? ⟨g,k*7+5,none⟩=some x.vr:=(R7.row.cell _).trans q5;have Vv:Hid (Cp 73 #[x.vr,.int .i64 (K+3+x.key.val.ia.length+2*x.key.val.pj.length:Nat)] w5 fun e w'=>e=.returned (.int .i64 (K+3+x.key.val.ia.length+2*x.key.val.pj.length+2*x.key.val.rq.length:Nat))/\Fo w' B x.vr (Kk.marks (K+3+x.key.val.ia.length+2*x.key.val.pj.length) x.key.val.rq.length)/\w5.grownBy w' (Value.ownBlock x.vr)):=Kk.zd2 (K+3+x.key.val.ia.length+2*x.key.val.pj.length) B x.vr x.key.val.rq w5 R7.own.rq (by omega) (by omega) (by omega);have Vh:Hid (Bq w w5 B g N M k D5 ⟨x.key.val.kind,x.key.val.text,Bj (K+3) x.key.val.ia.length,Da (K+3+x.key.val.ia.length) x.key.val.pj.length,x.key.val.rq⟩ x.vi x.vp x.vr):=R7;go_wp2_with fail;refine Vv.out.mono ?_;rintro e w6⟨rfl,o6,g6⟩;have R8:Bq w w6 B g N M k D5 (zak K x.key.val) x.vi x.vp x.vr:=Vh.out.turn hB Vh.out.own.rq (by decide) (fun h=>absurd h (by decide)) (fun h=>absurd h (by decide)) (fun _=>Vb.out.o3) Vb.out.l3 g6 ⟨Ij Vh.out.own.ia Vh.out.own.rq (by decide) g6,Ij Vh.out.own.pj Vh.out.own.rq (by decide) g6,o6⟩;have r8:=R8.row;have t6:w6.cell? ⟨g,k*7+6,none⟩=some (D5[k*7+6]'(by omega)):=by rw[r8.cell];simp
   have f6:=r8.frozen (k*7+6);have R9:=R8.set Vb.out (k*7+6) (.int .i64 ((K+3+x.key.val.ia.length+2*x.key.val.pj.length+2*x.key.val.rq.length:Nat):Int));have HF:Hid _:=Vm.out _ _ (by rw[<-Xe.out];rfl) R9;have Xd:Hid (_/\_):=⟨R9.bel,R9.up⟩;have Vk:Hid (Ao 1 (L.take (k+1))=K+3+x.key.val.ia.length+2*x.key.val.pj.length+2*x.key.val.rq.length+1):=by unfold Hid;rw[Vw.out];unfold E5;omega
   obtain⟨K6,Xa⟩:∃K6,K+3+x.key.val.ia.length+2*x.key.val.pj.length+2*x.key.val.rq.length=K6:=⟨_,rfl⟩;have Xg:K6<=1+(k+1)*5300000-1:=by omega
   have Xk:1<=K6:=by omega
   have Xf:K6<=6100000000000:=by omega
   generalize D5[k*7+6]'(by omega)=y6 at*;rw[Xa]at HF Xd Vk ⊢;go_wp2;go_roundw
   case rel=>exact⟨k+1,K6+1,_,by omega,by go_num,by go_num,by omega,by omega,Vk.out.symm,HF.out,Xd.out⟩
   case measure=>simp[intOf];omega
  ·obtain rfl:k=n:=by omega
   have e1:L.take k=L:=List.take_of_length_le (by rw[HL.out];exact Qc _);have HE:Hid (K=Ao 1 L):=by have:=Vp.out;rw[e1]at this;exact this
   have HF:Hid ((∃D,D.size=cap*7/\Fc wr g 47 D/\za9 D (A7 1 L))/\Mu wr B (A7 1 L)):=by
    have h:=hS.out;rw[show Dk 1 L k=A7 1 L by rw[<-HL.out];exact zc4 1 L]at h;exact⟨⟨D,h.1,h.2.1,h.2.2.1⟩,h.2.2.2⟩
   go_wp2;go_ret;exact⟨Pm (by rw[HE.out]),HF.out.1,HF.out.2,Vc.out⟩
theorem zbk(a:Option Addr)(A n c:Nat)(L:List KV)(w:World)(hL:L.length=n)(h:DbQ w a A n (A7 1 L))(hn:n<=20)(hsm:∀i,i<n->Few (L.getD i kv0).key.val):
  Calls prog 37 #[.slice a n c,.int .i64 1] w fun e w'=>e=.returned (.int .i64 (Ao 1 L:Nat))/\Bl w w':=by
 have HL:Hid (L.length=n):=hL;have Vv:Hid (∀i,i<n->Few (L.getD i kv0).key.val):=hsm;have H:Hid (DbQ w a A n (A7 1 L)):=h;go_enter func37,ntmps37;go_wp2;go_loopw [1,5] (fun kv i wr=>∃(k K:Nat),k<=n/\i=.int .i64 k/\kv=.int .i64 K/\1<=K/\K<=1+k*6000/\Hid (K=Ao 1 (L.take k))/\Bl w wr) (fun _ i _=>n-(intOf i).toNat)
 case atStart=>exact⟨0,1,by omega,rfl,rfl,by omega,by omega,rfl,Qb _ _⟩
 case round=>
  obtain⟨k,K,hk,rfl,rfl,Vy,Xa,Vc,bk⟩:=hrel;have sk:=bk.size;by_cases hlt:k<n
  ·have HW:=H.out.bw bk;have hx:=HW.ks.cell k hlt;have hv:=HW.val k hlt;have Vi:=HW.ks.low (by omega);obtain rfl:=HW.ks.addr (by omega);rw[I4 L 1 k (by rw[HL.out];exact hlt),<-Vc.out]at hx hv;have Vm:Hid (Ao 1 (L.take (k+1))=E5 K (L.getD k kv0).key.val):=by unfold Hid;rw[Vc.out];exact zad L 1 k (by rw[HL.out];exact hlt)
   obtain⟨n1,n2,n3,_⟩:=Vv.out k hlt;generalize L.getD k kv0=x at*;obtain⟨kx,vi,vp,vr⟩:=x;dsimp only at n1 n2 n3;have Vt:VAt wr (zak K kx.val) vi vp vr:=hv;obtain⟨⟨a1,A1,c1,e1,q1⟩,⟨a2,A2,c2,e2,q2⟩,⟨a3,A3,c3,e3,q3⟩⟩:=Vt;have l1:(zak K kx.val).ia.length=kx.val.ia.length:=zat _ _;have l2:(zak K kx.val).pj.length=kx.val.pj.length:=Il _ _;have l3:(zak K kx.val).rq.length=kx.val.rq.length:=Kk.Iz _ _;rw[l1]at e1 q1;rw[l2]at e2 q2;rw[l3]at e3 q3;subst e1 e2 e3;have Sz:∀W,Bl wr W->Ck W A (k*7) (Hw K ⟨kx,.slice a1 kx.val.ia.length c1,.slice a2 kx.val.pj.length c2,.slice a3 kx.val.rq.length c3⟩):=fun W hb=>yde hx Vi hb;have Vr:Hid _:=Sz;have Xc:K<=130000:=by omega
   have Vj:Hid (∀W,Bl wr W->Cp 75 #[.slice a1 kx.val.ia.length c1,.int .i64 ((K:Int)+1+1+1)] W fun e w'=>e=.returned (.int .i64 (K+3+kx.val.ia.length:Nat))/\Bl W w'):=fun W hb=>zdo (K+3) a1 A1 kx.val.ia.length c1 W (Lb q1 hb) (by omega) (by omega) (by omega);have Vq:Hid (∀W,Bl wr W->Cp 76 #[.slice a2 kx.val.pj.length c2,.int .i64 (K+3+kx.val.ia.length:Nat)] W fun e w'=>e=.returned (.int .i64 (K+3+kx.val.ia.length+2*kx.val.pj.length:Nat))/\Bl W w'):=fun W hb=>zd0 (K+3+kx.val.ia.length) a2 A2 kx.val.pj.length c2 W (q2.bw hb) (by omega) (by omega) (by omega);have Vk:Hid (∀W,Bl wr W->Cp 77 #[.slice a3 kx.val.rq.length c3,.int .i64 (K+3+kx.val.ia.length+2*kx.val.pj.length:Nat)] W fun e w'=>e=.returned (.int .i64 (K+3+kx.val.ia.length+2*kx.val.pj.length+2*kx.val.rq.length:Nat))/\Bl W w'):=fun W hb=>zds (K+3+kx.val.ia.length+2*kx.val.pj.length) a3 A3 kx.val.rq.length c3 W (q3.bw hb) (by omega) (by omega) (by omega);have cM:∀d os,Calls prog 71 #[.int .i64 K] (grow (redrawn wr d) os) fun e w''=>e=.returned (.string (Ac K))/\∃p:Regrown,w''=grow (redrawn wr p.d) p.os:=fun d os=>Calls.regrown_of (Kk.Bb K _ (by omega) (by omega));have HN:Hid (∀W,Cp 71 #[.int .i64 ((K:Int)+1+1)] W fun e w'=>e=.returned (.string (Ac (K+2)))/\Bl W w'):=fun W=>Kk.Bb (K+2) W (by omega) (by omega);have Vh:Hid (Ao 1 (L.take (k+1))=K+3+kx.val.ia.length+2*kx.val.pj.length+2*kx.val.rq.length+1):=by unfold Hid;rw[Vm.out];unfold E5;dsimp only;omega
   have c0:wr.cell? ⟨A,k*7,none⟩=some (.string (Ac K)):=hx.c0;have Vs:=cell_regrown c0;have Xb:K+3+kx.val.ia.length<=200000:=by omega
   have Vz:K+3+kx.val.ia.length+2*kx.val.pj.length<=200000:=by omega
   have Vw:K+3+kx.val.ia.length+2*kx.val.pj.length+2*kx.val.rq.length<=(k+1)*6000:=by omega
   have Vb:Hid (∀W,Bl wr W->W.cell? ⟨A,k*7+1,none⟩=some (.int .i64 ((K:Int)+1))/\W.cell? ⟨A,k*7+2,none⟩=some (.string (Ac (K+2)))/\W.cell? ⟨A,k*7+3,none⟩=some (.slice a1 kx.val.ia.length c1)/\W.cell? ⟨A,k*7+4,none⟩=some (.slice a2 kx.val.pj.length c2)/\W.cell? ⟨A,k*7+5,none⟩=some (.slice a3 kx.val.rq.length c3)/\W.cell? ⟨A,k*7+6,none⟩=some (.int .i64 (K+3+kx.val.ia.length+2*kx.val.pj.length+2*kx.val.rq.length:Nat))):=fun W hb=>⟨(Sz W hb).c1,(Sz W hb).c2,(Sz W hb).c3,(Sz W hb).c4,(Sz W hb).c5,(Sz W hb).c6⟩;generalize hM3:K+3+kx.val.ia.length+2*kx.val.pj.length+2*kx.val.rq.length=M3 at*;generalize hM2:K+3+kx.val.ia.length+2*kx.val.pj.length=M2 at*;generalize hM1:K+3+kx.val.ia.length=M1 at*;generalize kx.val.ia.length=ni,kx.val.pj.length=np,kx.val.rq.length=nr at*;have g1:decide ((M1:Int)<0)=false:=by simp
   have g2:decide ((M2:Int)<0)=false:=by simp
   have g3:decide ((M3:Int)<0)=false:=by simp
   have Xd:(0:Int)<=(k:Int):=by omega
   have Vx:(k:Int)<(n:Int):=by omega
   generalize Ac K=mk,Ac (K+2)=mk2 at*;go_wp2;refine wp_region_quiet_below (by kernel_rfl) (by kernel_rfl) ?_;repeat(first|go_big_quiet_skip|quiet_step (first|with_reducible exact cM _ _))
   refine wpQuiet_nil ?_;intro _ hw';obtain⟨⟨dq,Vp⟩,Va⟩:=hw';subst Va;have bq:=below_regrown wr dq Vp;generalize grow (redrawn wr dq) Vp=wq at*;have sq:=bq.size;obtain⟨m1,m2,_,_,_,_⟩:=Vb.out wq bq;have cN:∀d os,Calls prog 71 #[.int .i64 ((K:Int)+1+1)] (grow (redrawn wq d) os) fun e w''=>e=.returned (.string mk2)/\∃p:Regrown,w''=grow (redrawn wq p.d) p.os:=fun d os=>Calls.regrown_of (HN.out _);have Vu:=cell_regrown m2;go_wp2;refine wp_region_quiet_below (by kernel_rfl) (by kernel_rfl) ?_;repeat(first|go_big_quiet_skip|quiet_step (first|with_reducible exact cN _ _))
   refine wpQuiet_nil ?_;intro _ hw';obtain⟨⟨dp,Vo⟩,Va⟩:=hw';subst Va;have bp:=below_regrown wq dp Vo;generalize grow (redrawn wq dp) Vo=wp at*;have Vd:=bq.trans (bp.mono sq);have sp:=Vd.size;obtain⟨_,_,m3,_,_,_⟩:=Vb.out wp Vd;go_wp2_with fail;refine(Vj.out wp Vd).mono ?_;rintro e w1⟨rfl,b1⟩;have Ve:=Vd.trans (b1.mono sp);obtain⟨_,_,_,m4,_,_⟩:=Vb.out w1 Ve;go_wp2_with fail;refine(Vq.out w1 Ve).mono ?_;rintro e w2⟨rfl,b2⟩;have Vf:=Ve.trans (b2.mono Ve.size);obtain⟨_,_,_,_,m5,_⟩:=Vb.out w2 Vf;go_wp2_with fail;refine(Vk.out w2 Vf).mono ?_;rintro e w3⟨rfl,b3⟩;have Vn:=Vf.trans (b3.mono Vf.size);obtain⟨_,_,_,_,_,m6⟩:=Vb.out w3 Vn;have Vg:=bk.trans (Vn.mono sk);go_wp2;go_roundw
   case rel=>exact⟨k+1,M3+1,by omega,by go_num,by go_num,by omega,by omega,Vh.out.symm,Vg⟩
   case measure=>simp[intOf];omega
  ·obtain rfl:k=n:=by omega
   have e1:L.take k=L:=List.take_of_length_le (by rw[HL.out];exact Qc _);have HE:Hid (K=Ao 1 L):=by have:=Vc.out;rw[e1]at this;exact this
   go_wp2;go_ret;exact⟨Pm (by rw[HE.out]),bk⟩
theorem zbe(a:Option Addr)(c:Nat)(w:World):Calls prog 34 #[.slice a (0:Nat) c,.int .i64 1] w fun e w'=>e=.returned (.int .i64 1)/\w'=w:=by
 go_enter func34,ntmps34;go_wp2;refine wp_loop_rounds 1 ?_;rw[rounds_succ];go_wp2;go_ret;exact⟨rfl,rfl⟩
theorem zbq(s0 n:Nat)(hs:s0<=500000)(hn:n<=1000):∀t∈Bj s0 n,t.size<=1048576:=by
 intro t ht;unfold Bj at ht;obtain⟨i,hi,rfl⟩:=List.mem_map.1 ht;have:=List.mem_range.1 hi;exact zcp _ (by omega)
def BlK (v:Value) (L:List KV) (k:Nat):Prop:=v.ownBlock=some k\/∃i,i<L.length/\((L.getD i kv0).vi.ownBlock=some k\/(L.getD i kv0).vp.ownBlock=some k\/(L.getD i kv0).vr.ownBlock=some k)
theorem zeu(h:Nu w B v L)(hv:Mu w B L)(hk:BlK v L k):k<w.heap.size:=by
 rcases hk with hk|⟨i,hi,hk⟩
 ·exact(Hf h hk).2
 ·have ho:=zac hv hi;rcases hk with hk|hk|hk
  ·exact(Hf ho.ia hk).2
  ·exact(Hf ho.pj hk).2
  ·exact(Hf ho.rq hk).2
def BlT (w:World) (k:Nat):Prop:=∃C e,Fc w k e C/\e≠40/\e≠2
theorem zba{v:Vl}(h:VOwn w B v vi vp vr)(hk:vi.ownBlock=some k\/vp.ownBlock=some k\/vr.ownBlock=some k):BlT w k:=by
 rcases hk with hk|hk|hk
 ·obtain⟨C,hC⟩:=M3 h.ia hk;exact⟨C,_,hC,by decide,by decide⟩
 ·obtain⟨C,hC⟩:=M3 h.pj hk;exact⟨C,_,hC,by decide,by decide⟩
 ·obtain⟨C,hC⟩:=M3 h.rq hk;exact⟨C,_,hC,by decide,by decide⟩
theorem zb7(h:Nu w B v L)(hv:Mu w B L)(hk:BlK v L k):BlT w k:=by
 rcases hk with hk|⟨i,hi,hk⟩
 ·obtain⟨C,hC⟩:=M3 h hk;exact⟨C,_,hC,by decide,by decide⟩
 ·exact zba (zac hv hi) hk
theorem zam(hs:∀i,i<L.length->Few (L.getD i kv0).key.val)(hn:L.length<=20)(i:Nat):Ao 1 (L.take i)<=120001:=by
 have:=zbf (L.take i) 1 (fun j hj=>by
  rw[Qn]at hj;rw[show(L.take i).getD j kv0=L.getD j kv0 by rw[Qa,Qa,List.getElem?_take,if_pos (by omega)]];exact hs j (by omega))
 have Sz:(L.take i).length<=20:=Qj (List.length_take_le' _ _) hn;omega
theorem zbl(B:Nat)(N:Nat->Prop)(v:Value)(L:List KV)(w:World)(h:Nu w B v L)(hv:Mu w B L)(hB:B<=w.heap.size)(hs:∀i,i<L.length->Few (L.getD i kv0).key.val)(hn:L.length<=20)(hN:∀k,BlK v L k->¬N k):
  Calls prog 34 #[v,.int .i64 1] w fun e w'=>e=.returned (.int .i64 (Ao 1 L:Nat))/\(∀W:World,w'.heap.size<=W.heap.size->(∀k,BlK v L k->W.heap[k]?=w'.heap[k]?)->∃a A c,v=.slice a L.length c/\DbQ W a A L.length (A7 1 L))/\(∀k,BlK v L k->BlT w' k)/\Below B w w'/\∀k,N k->k<w.heap.size->w'.heap[k]?=w.heap[k]?:=by
 cases hL:L with
 |nil=>
  subst hL;obtain⟨a,A,c,e,hk⟩:=Uw h;rw[e];refine(zbe a c w).mono fun en w' ⟨he,hw⟩=>⟨he,fun W hW _=>⟨a,A,c,rfl,?_⟩,fun k hk=>by rw[hw];rw[<-e]at hk;exact zb7 h hv hk,by rw[hw];exact⟨Qb _ _,fun _ _ _=>rfl⟩⟩;rw[hw]at hW;exact⟨⟨hk.len,hk.addr,fun h0=>by simp at h0,fun i hi=>by simp at hi⟩,fun i hi=>by simp at hi⟩
 |cons x xs=>
  rw[<-hL];have h0:0<L.length:=by rw[hL];simp
  obtain⟨g,Vb,D,e,hg,hr,hD,hp,hc,hm⟩:=zbu h h0;rw[e]at hN ⊢;refine(zai g Vb L.length B N L w D rfl hr hD hp hv hc hg hB (hN g (.inl rfl)) (fun i hi k hk=>hN k (.inr ⟨i,hi,hk⟩)) (by omega) fun i hi=>(hs i hi).one).mono fun en w' ⟨he,⟨D',hD',hr',hp'⟩,hri',hb⟩=>⟨he,fun W hW hst=>⟨_,g,Vb,rfl,?_⟩,fun k hk=>?_,hb⟩;have Sz:=Dq L 1;have Va:Fc W g 47 D':=(hst g (.inl rfl)).trans hr';refine⟨⟨Sz,fun _=>rfl,fun _=>Va.lt,fun i hi=>?_⟩,fun i hi=>?_⟩
  ·have e:∀j,j<7->W.cell? ⟨g,i*7+j,none⟩=(kvC ((A7 1 L).getD i kv0))[j]?:=fun j hj=>by
    rw[Va.cell,hp' i (by rw[Sz];exact hi) j hj]
   exact⟨e 0 (by omega),e 1 (by omega),e 2 (by omega),e 3 (by omega),e 4 (by omega),e 5 (by omega),e 6 (by omega)⟩
  ·have hv:=zac hri' (i:=i) (by rw[Sz];exact hi);have hK:Ao 1 (L.take i)<=120001:=zam hs hn i;rw[I4 L 1 i hi]at hv ⊢;have Vc:VOwn W B (Hw (Ao 1 (L.take i)) (L.getD i kv0)).key.val (Hw (Ao 1 (L.take i)) (L.getD i kv0)).vi (Hw (Ao 1 (L.take i)) (L.getD i kv0)).vp (Hw (Ao 1 (L.take i)) (L.getD i kv0)).vr:=
    ⟨Lt hv.ia fun k hk=>hst k (.inr ⟨i,hi,.inl hk⟩),Lt hv.pj fun k hk=>hst k (.inr ⟨i,hi,.inr (.inl hk)⟩),Lt hv.rq fun k hk=>hst k (.inr ⟨i,hi,.inr (.inr hk)⟩)⟩
   refine Vc.at ?_;exact zbq _ _ (by omega) (hs i hi).ni
  ·rcases hk with hk|⟨i,hi,hk⟩
   ·cases hk;exact⟨D',47,hr',by decide,by decide⟩
   ·have hv:=zac hri' (i:=i) (by rw[Dq];exact hi);rw[I4 L 1 i hi]at hv;exact zba hv hk
theorem zb6(B:Nat)(N:Nat->Prop)(v:Value)(L:List KV)(w:World)(h:Nu w B v L)(hv:Mu w B L)(hB:B<=w.heap.size)(hs:∀i,i<L.length->One (L.getD i kv0).key.val)(hn:L.length<=1048577)(hvN:∀k,v.ownBlock=some k->¬N k)(hlN:∀i,i<L.length->∀k,((L.getD i kv0).vi.ownBlock=some k\/(L.getD i kv0).vp.ownBlock=some k\/(L.getD i kv0).vr.ownBlock=some k)->¬N k):
  Calls prog 34 #[v,.int .i64 1] w fun e w'=>e=.returned (.int .i64 (Ao 1 L:Nat))/\Below B w w'/\∀k,N k->k<w.heap.size->w'.heap[k]?=w.heap[k]?:=by
 cases hL:L with
 |nil=>
  subst hL;obtain⟨a,A,c,e,hk⟩:=Uw h;rw[e];refine(zbe a c w).mono fun en w' ⟨he,hw⟩=>⟨he,by rw[hw];exact⟨Qb _ _,fun _ _ _=>rfl⟩⟩
 |cons x xs=>
  rw[<-hL];have h0:0<L.length:=by rw[hL];simp
  obtain⟨g,Sz,D,e,hg,hr,hD,hp,hc,hm⟩:=zbu h h0;rw[e]at hvN ⊢;exact(zai g Sz L.length B N L w D rfl hr hD hp hv hc hg hB (hvN g rfl) hlN hn hs).mono fun en w' ⟨he,_,_,hb⟩=>⟨he,hb⟩
theorem zab(hi:i<A.length):A.getD i kv0=A[i]:=by
 rw[Qa,Qd hi];rfl
theorem za4(hl:A.length=n)(he:∀i,i<n->(A.getD i kv0).key=(L.getD i kv0).key)(hg:∀i,i<n->H8 (L.getD i kv0).key)(hf:∀i,i<n->Kk.Md (L.getD i kv0).key.val.rq):Small A:=fun i hi=>by
 rw[he i (by omega)];have:=hg i (by omega);exact⟨⟨this.val.fit,this.val.one.np,hf i (by omega)⟩,this.name⟩
theorem Iy(he:∀i,i<n->(A.getD i kv0).key=(L.getD i kv0).key)(hg:∀i,i<n->H8 (L.getD i kv0).key):∀i,i<n->One (A.getD i kv0).key.val:=fun i hi=>by
 rw[he i hi];exact(hg i hi).val.one
theorem zdd(hl:A.length=n)(he:∀i,i<n->(A.getD i kv0).key=(L.getD i kv0).key)(hg:∀i,i<n->H8 (L.getD i kv0).key):Lg (A.map KV.key):=fun k hk=>by
 obtain⟨x,hx,rfl⟩:=List.mem_map.1 hk;obtain⟨i,hi,rfl⟩:=List.getElem_of_mem hx;have e:=he i (by omega);rw[zab hi]at e;rw[e];have:=hg i (by omega);exact⟨this.val.fit,this.name,this.val.one.ia⟩
theorem zbr{A':List KV}(hl:A.length=n)(hl':A'.length=n)(he:∀i,i<n->(A.getD i kv0).key=(L.getD i kv0).key)(he':∀i,i<n->(A'.getD i kv0).key=(L.getD i kv0).key):A'.map KV.key=A.map KV.key:=by
 refine List.ext_getElem (by rw[Qp,Qp];omega) fun i h1 h2=>?_;rw[Qp]at h1 h2;rw[List.getElem_map,List.getElem_map,<-zab h1,<-zab h2,he i (by omega),he' i (by omega)]
theorem zd1(h:DbU w B a b n A)(ho:∀i,i<n->One (A.getD i kv0).key.val):Th w a b n A:=
 ⟨h.ks,fun i hi=>(h.val i hi).rd (ho i hi).ia,fun i hi=>by have:=(ho i hi).ni;omega,fun i hi=>by have:=(ho i hi).np;omega,fun i hi=>by have:=(ho i hi).nr;omega⟩
theorem zbo(h:DbU w B a b n A)(ho:∀i,i<n->One (A.getD i kv0).key.val):DbQ w a b n A:=h.at.rdq ho
theorem zcg(h:Fm (L.map KV.key)=true\/L.map KV.key=[]):L.length<=20/\∀i,i<L.length->Few (L.getD i kv0).key.val:=by
 rcases h with h|h
 ·obtain⟨k1,k2⟩:=T8 h;rw[Qp]at k1;refine⟨k1,fun i hi=>?_⟩;have hs:=We (k2 (L.getD i kv0).key (by rw[zab hi];exact List.mem_map.2 ⟨L[i],Qv hi,rfl⟩));exact⟨by have:=hs.ni;omega,by have:=hs.np;omega,by have:=hs.nr;omega,fun t ht=>by have:=hs.ia t ht;omega⟩
 ·obtain rfl:L=[]:=List.map_eq_nil_iff.1 h;exact⟨by simp,fun i hi=>by simp at hi⟩
theorem zb8(h:Nu w B v L)(hv:Mu w B L)(hf:∀i,i<L.length->Few (L.getD i kv0).key.val):∃a A c,v=.slice a L.length c/\DbQ w a A L.length L:=by
 obtain⟨a,A,c,e,hk⟩:=Uw h;exact⟨a,A,c,e,hk,fun i hi=>(zac hv hi).at (hf i hi).ia⟩
theorem zdl{v':Value}{L':List KV}(h:Nu w B v L)(hv:Mu w B L)(h':Nu w B' v' L')(hv':Mu w B' L')(e:L'.map KV.key=L.map KV.key)(hk:Fm (L.map KV.key)=true\/L.map KV.key=[]):
  Calls prog 31 #[v,v'] w fun e w'=>e=.returned (.bool true)/\Bl w w':=by
 obtain⟨l1,f1⟩:=zcg hk;obtain⟨_,f2⟩:=zcg (L:=L') (by rw[e];exact hk);obtain⟨a,A,c,e1,q1⟩:=zb8 h hv f1;obtain⟨a',A',c',e2,q2⟩:=zb8 h' hv' f2;have hl:L'.length=L.length:=by rw[<-Qp KV.key,e,Qp]
 rw[hl]at e2 q2;rw[e1,e2];refine za1 a a' A A' L.length c c' L L' w q1 q2 (fun i hi=>(f1 i hi).one) (fun i hi=>?_) (by omega);have h1:(L'.map KV.key)[i]'(by rw[Qp];omega)=(L.map KV.key)[i]'(by rw[Qp];omega):=by simp only[e]
 rw[List.getElem_map,List.getElem_map]at h1;rw[zab (by omega),zab hi];exact h1
end Go.Proofs.YtokafonppgppdaaGreatDoor
namespace Go.Proofs.YtokafonppgppdaaGreatDoor.Re
open Tryz
open Go.RowKit Go.Sort
open Kk (Ac Bb)
variable {w w' W W':World} {b n B B' size g c j:Nat} {e:TypeId} {v V:Value} {xs:List Value} {ks:List Int} {N:Nat->Prop}
structure Nd where
 kind:Int
 num:Int
 s:ByteArray
 kids:List Int
def nd0:Nd:=⟨0,0,ByteArray.empty,[]⟩
structure IntsIn (w:World) (a:Option Addr) (b off n:Nat) (zs:List Int):Prop where
 len:zs.length=n
 addr:0<n->a=some ⟨b,off,none⟩
 low:0<n->b<w.heap.size
 cell:∀i,i<n->w.cell? ⟨b,off+i,none⟩=some (.int .i64 (zs.getD i 0))
structure zep (w:World) (b o:Nat) (x:Nd) (ak:Option Addr) (bk ok ck:Nat):Prop where
 c0:w.cell? ⟨b,o,none⟩=some (.int .i64 x.kind)
 c1:w.cell? ⟨b,o+1,none⟩=some (.int .i64 x.num)
 c2:w.cell? ⟨b,o+2,none⟩=some (.string x.s)
 c3:w.cell? ⟨b,o+3,none⟩=some (.slice ak x.kids.length ck)
 ints:IntsIn w ak bk ok x.kids.length x.kids
structure zbm (w:World) (a:Option Addr) (b off n:Nat) (L:List Nd):Prop where
 len:L.length=n
 addr:0<n->a=some ⟨b,off,none⟩
 low:0<n->b<w.heap.size
 node:∀i,i<n->∃ak bk ok ck,zep w b (off+i*4) (L.getD i nd0) ak bk ok ck
theorem Fp{a:Option Addr}{off:Nat}{zs:List Int}(h:IntsIn w a b off n zs)(hb:Bl w w'):IntsIn w' a b off n zs:=
 ⟨h.len,h.addr,fun h0=>by have:=h.low h0;have:=hb.size;omega,fun i hi=>(hb.cell (p:=⟨b,off+i,none⟩) (h.low (by omega))).trans (h.cell i hi)⟩
theorem zb0{o:Nat}{x:Nd}{ak:Option Addr}{bk ok ck:Nat}(h:zep w b o x ak bk ok ck)(hl:b<w.heap.size)(hb:Bl w w'):zep w' b o x ak bk ok ck:=
 ⟨(hb.cell (p:=⟨b,o,none⟩) hl).trans h.c0,(hb.cell (p:=⟨b,o+1,none⟩) hl).trans h.c1,(hb.cell (p:=⟨b,o+2,none⟩) hl).trans h.c2,(hb.cell (p:=⟨b,o+3,none⟩) hl).trans h.c3,Fp h.ints hb⟩
theorem zev(a a':Option Addr)(b off b' off' n c c':Nat)(zs:List Int)(w:World)(h:IntsIn w a b off n zs)(h':IntsIn w a' b' off' n zs)(hn:n<=1048576):
  Calls prog 119 #[.slice a n c,.slice a' n c'] w fun e w'=>e=.returned (.bool true)/\Bl w w':=by
 go_enter func119,ntmps119;go_wp2;go_loopw [5] (fun i wr=>∃(k q:Nat),k<=n/\i=.int .i64 k/\wr=w.drewN q) (fun i _=>n-(intOf i).toNat)
 case atStart=>exact⟨0,0,by omega,rfl,rfl⟩
 case round=>
  obtain⟨k,q,hk,rfl,rfl⟩:=hrel;by_cases hlt:k<n
  ·obtain rfl:=h.addr (by omega);obtain rfl:=h'.addr (by omega);have hc:=h.cell k hlt;have Sz:=h'.cell k hlt;generalize zs.getD k 0=s at*;go_wp2;go_quiet ((fail));go_wp2;go_roundw
   case rel=>exact⟨k+1,_,by omega,by go_num,rfl⟩
   case measure=>simp[intOf];omega
  ·go_wp2;go_ret;exact⟨rfl,below_drewN (Qb _ _) q⟩
theorem zem(x:Nd)(a a':Option Addr)(b off b' off' c c':Nat)(w:World)(h:IntsIn w a b off x.kids.length x.kids)(h':IntsIn w a' b' off' x.kids.length x.kids)(hn:x.kids.length<=1048576):
  Calls prog 70 #[.agg #[.int .i64 x.kind,.int .i64 x.num,.string x.s,.slice a x.kids.length c],.agg #[.int .i64 x.kind,.int .i64 x.num,.string x.s,.slice a' x.kids.length c']] w fun e w'=>e=.returned (.bool true)/\Bl w w':=by
 have bw:∀o o',Bl w ((w.alloc o).alloc o'):=fun o o'=>((Qb _ _).alloc (Qc _) _).alloc (by simp) _;go_enter func70,ntmps70;go_wp2_with fail;refine(zev a a' b off b' off' _ c c' x.kids _ (Fp h (bw _ _)) (Fp h' (bw _ _)) hn).mono ?_;rintro e w1⟨rfl,b1⟩;go_wp2;go_ret;exact⟨rfl,(bw _ _).trans (b1.mono (by simp;omega))⟩
theorem zed(a a':Option Addr)(b off b' off' n c c':Nat)(L:List Nd)(w:World)(h:zbm w a b off n L)(h':zbm w a' b' off' n L)(hn:n<=1048576)(hk:∀i,i<n->(L.getD i nd0).kids.length<=1048576):
  Calls prog 32 #[.slice a n c,.slice a' n c'] w fun e w'=>e=.returned (.bool true)/\Bl w w':=by
 go_enter func32,ntmps32;go_wp2;go_loopw [5] (fun i wr=>∃(k:Nat),k<=n/\i=.int .i64 k/\Bl w wr) (fun i _=>n-(intOf i).toNat)
 case atStart=>exact⟨0,by omega,rfl,Qb _ _⟩
 case round=>
  obtain⟨k,Vk,rfl,bk⟩:=hrel;by_cases hlt:k<n
  ·obtain rfl:=h.addr (by omega);obtain rfl:=h'.addr (by omega);obtain⟨ak,Vh,ok,ck,Vf⟩:=h.node k hlt;obtain⟨Ve,Vc,Vi,Vd,Va⟩:=h'.node k hlt;have hm:=zb0 Vf (h.low (by omega)) bk;have Sz:=zb0 Va (h'.low (by omega)) bk;have Vj:=hk k hlt;generalize L.getD k nd0=x at*;have c0:=cell_regrown hm.c0;have c1:=cell_regrown hm.c1;have c2:=cell_regrown hm.c2;have c3:=cell_regrown hm.c3;have d0:=cell_regrown Sz.c0;have d1:=cell_regrown Sz.c1;have d2:=cell_regrown Sz.c2;have d3:=cell_regrown Sz.c3;have cE:∀d os,Calls prog 70 #[.agg #[.int .i64 x.kind,.int .i64 x.num,.string x.s,.slice ak x.kids.length ck],.agg #[.int .i64 x.kind,.int .i64 x.num,.string x.s,.slice Ve x.kids.length Vd]] (grow (redrawn wr d) os) fun e w''=>e=.returned (.bool true)/\∃p:Regrown,w''=grow (redrawn wr p.d) p.os:=fun d os=>
    Calls.regrown_of (zem x ak Ve Vh ok Vc Vi ck Vd _ (Fp hm.ints (below_regrown wr d os)) (Fp Sz.ints (below_regrown wr d os)) Vj)
   go_wp2;refine wp_region_quiet_below (by kernel_rfl) (by kernel_rfl) ?_;repeat(quiet_step (first|exact cE _ _))
   refine wpQuiet_nil ?_;intro _ hw';obtain⟨⟨dq,Vg⟩,Vb⟩:=hw';subst Vb;have bq:=below_regrown wr dq Vg;generalize grow (redrawn wr dq) Vg=wq at*;go_wp2;go_roundw
   case rel=>exact⟨k+1,by omega,by go_num,bk.trans (bq.mono bk.size)⟩
   case measure=>simp[intOf];omega
  ·go_wp2;go_ret;exact⟨rfl,bk⟩
abbrev Nv:=Nd×Value
def D9 (P:List Nv):List Value:=P.flatMap fun p=> [.int .i64 p.1.kind,.int .i64 p.1.num,.string p.1.s,p.2]
def Bh (ks:List Int):List Value:=ks.map fun k=> .int .i64 k
theorem zbg:∀P:List Nv,(D9 P).length=P.length*4
 |[]=>rfl
 |p::P=>by
  show([_,_,_,_]++D9 P).length=_;rw[Qi,zbg P];simp;omega
structure Iu (w:World) (B:Nat) (V:Value) (P:List Nv):Prop where
 row:w.ownsRow B 40 4 V P.length (D9 P)
 kids:∀p∈P,w.ownsRow B 2 1 p.2 p.1.kids.length (Bh p.1.kids)
 apart:P.Pairwise fun p q=>p.1.kids=[]\/q.1.kids=[]\/∀k,p.2.ownBlock=some k->q.2.ownBlock≠some k
theorem zbc{e':TypeId}{size' n':Nat}{v':Value}{xs':List Value}(h:w.ownsRow B e size v n xs)(h':w.ownsRow B' e' size' v' n' xs')(he:e≠e')(hg:v.ownBlock=some g):v'.ownBlock≠some g:=fun hg'=>by
 obtain⟨C,h1⟩:=M3 h hg;obtain⟨D,h2⟩:=M3 h' hg';exact he (Hp.N9 h1 h2)
theorem Iu.of_block{P:List Nv}(h:Iu w B V P)(hV:∀g,V.ownBlock=some g->w'.heap[g]?=w.heap[g]?)(hk:∀p∈P,∀g,p.2.ownBlock=some g->w'.heap[g]?=w.heap[g]?):Iu w' B V P:=
 ⟨Lt h.row hV,fun p hp=>Lt (h.kids p hp) (hk p hp),h.apart⟩
theorem Iu.bw{P:List Nv}(h:Iu w B V P)(hb:Below B' w w')(hw:w.heap.size<=B'):Iu w' B V P:=
 h.of_block (fun g hg=>hb.block g (by have:=(Hf h.row hg).2;omega)) (fun p hp g hg=>hb.block g (by have:=(Hf (h.kids p hp) hg).2;omega))
theorem zdr(h:w.ownsRow B e size v n xs):∃a c,v=.slice a n c:=by
 rcases Joins.ownsRow_forms h with⟨h1,h2⟩|⟨A,c,rfl⟩
 ·exact⟨none,0,by rw[h2,h1]⟩
 ·exact⟨some ⟨A,0,none⟩,c,rfl⟩
theorem za3:∀(P:List Nv) (i:Nat) (h:i<P.length),(D9 P)[i*4]?=some (.int .i64 (P[i]).1.kind)/\(D9 P)[i*4+1]?=some (.int .i64 (P[i]).1.num)/\(D9 P)[i*4+2]?=some (.string (P[i]).1.s)/\(D9 P)[i*4+3]?=some (P[i]).2
 | [],i,h=>by simp at h
 |p::P,0,_=>⟨rfl,rfl,rfl,rfl⟩
 |p::P,i+1,h=>by
  have h':i<P.length:=by simpa using h
  obtain⟨a,b,c,d⟩:=za3 P i h';have e:D9 (p::P)=[.int .i64 p.1.kind,.int .i64 p.1.num,.string p.1.s,p.2]++D9 P:=rfl;rw[e];refine⟨?_,?_,?_,?_⟩
  ·rw[List.getElem?_append_right (by simp;omega)];simpa[show(i+1)*4-4=i*4 from by omega]using a
  ·rw[List.getElem?_append_right (by simp;omega)];simpa[show(i+1)*4+1-4=i*4+1 from by omega]using b
  ·rw[List.getElem?_append_right (by simp;omega)];simpa[show(i+1)*4+2-4=i*4+2 from by omega]using c
  ·rw[List.getElem?_append_right (by simp;omega)];simpa[show(i+1)*4+3-4=i*4+3 from by omega]using d
theorem Dn(h:w.ownsRow B e size v n xs)(hg:v.ownBlock=some g):∀j u,xs[j]?=some u->w.cell? ⟨g,j,none⟩=some u:=fun j u hj=>by
 have:=h.cells hg j u hj;rwa[Addr.add_lit,Qq]at this
theorem zau{K:Value}(h:w.ownsRow B 2 1 K ks.length (Bh ks)):∃ak bk ck,K=.slice ak ks.length ck/\IntsIn w ak bk 0 ks.length ks:=by
 rcases Joins.ownsRow_forms h with⟨h1,h2⟩|⟨g,c,rfl⟩
 ·exact⟨none,0,0,by rw[h2,h1],rfl,fun h0=>by omega,fun h0=>by omega,fun i hi=>by omega⟩
 ·refine⟨some ⟨g,0,none⟩,g,c,rfl,rfl,fun _=>rfl,fun _=>(Hf h rfl).2,fun i hi=>?_⟩;rw[Qq];exact Dn h rfl i _ (by rw[Bh,List.getElem?_map,Qd hi,Qa,Qd hi];rfl)
def Cr (s0 n:Nat):List Int:=(List.range n).map fun i=> ((s0+i:Nat):Int)
theorem za2(s0 n:Nat):(Cr s0 n).length=n:=by simp[Cr]
theorem zdu(s0 n i:Nat)(h:i<n):(Bh (Cr s0 n))[i]?=some (.int .i64 ((s0+i:Nat):Int)):=by
 simp[Bh,Cr,List.getElem?_range h]
theorem Pm{a b:Int}(h:a=b):Ending.returned (.int .i64 a)=.returned (.int .i64 b):=by rw[h]
theorem zd3(B:Nat)(v:Value)(n:Nat)(xs:List Value)(s0:Nat)(w:World)(h:w.ownsRow B 2 1 v n xs)(hn:n<=1000000)(hs0:s0<=1000000000):
  Calls prog 74 #[v,.int .i64 s0] w fun e w'=>e=.returned (.int .i64 ((s0+n:Nat):Int))/\w'.ownsRow B 2 1 v n (Bh (Cr s0 n))/\w.grownBy w' (Value.ownBlock v)/\(n=0->∀b,b<w.heap.size->w'.heap[b]?=w.heap[b]?):=by
 obtain⟨Vj,⟨rfl,rfl⟩|⟨g,Vc,Vf,rfl,hg,hh,Vd,Vb,Vh,Vi⟩⟩:=h
 ·go_enter func74,ntmps74;go_wp2;refine wp_loop_rounds 1 ?_;rw[rounds_succ];go_wp2;go_ret;exact⟨rfl,World.ownsRow_nil _ _ _ _,Nl _ _,fun _ _ _=>rfl⟩
 ·have Vg:Fc w g 2 Vf:=hh;have Vk:=Vg.lt;have HM:Hid (Vc<=maxLen):=Vb;go_enter func74,ntmps74;go_wp2;go_loopw [1,5] (fun m i wr=>∃(k:Nat) (D:Array Value),k<=n/\i=.int .i64 k/\m=.int .i64 ((s0:Int)+k)/\D.size=Vc*1/\Fc wr g 2 D/\Hid (∀j,j<k->D[j]?=some (.int .i64 ((s0:Int)+j)))/\w.grownBy wr (some g)/\Hid (k=0->wr=w)) (fun _ i _=>n-(intOf i).toNat)
  case atStart=>exact⟨0,Vf,by omega,rfl,by simp,Vh,Vg,fun j hj=>by omega,Nl _ _,fun _=>rfl⟩
  case round=>
   obtain⟨k,D,hk,rfl,rfl,hD,Sz,Va,gk,Ve⟩:=hrel;have sk:=gk.size;by_cases hlt:k<n
   ·have Vm:wr.cell? ⟨g,k,none⟩=some (D[k]'(by omega)):=by rw[Sz.cell k];simp
    have Vn:=Sz.frozen k;have HR:Hid (Fc (wr.setCell ⟨g,k,none⟩ (.int .i64 ((s0:Int)+k))) g 2 (D.setIfInBounds k (.int .i64 ((s0:Int)+k)))):=Sz.set k _;have HG:Hid (w.grownBy (wr.setCell ⟨g,k,none⟩ (.int .i64 ((s0:Int)+k))) (some g)):=G4 gk (zzx _ g k _);have HD:Hid (D.size=Vc*1):=hD;generalize hDk:D[k]'(by omega)=old at*;go_wp2;go_roundw
    case rel=>
     refine⟨k+1,_,by omega,by go_num,by go_num,?_,HR.out,?_,HG.out,fun h=>by omega⟩
     ·rw[Array.size_setIfInBounds];exact HD.out
     ·intro j hj;by_cases hjk:k=j
      ·subst hjk;rw[Array.getElem?_setIfInBounds_self_of_lt (by rw[HD.out];omega)]
      ·rw[Array.getElem?_setIfInBounds_ne hjk];exact Va.out j (by omega)
    case measure=>simp[intOf];omega
   ·obtain rfl:k=n:=by omega
    have HO:Hid (wr.ownsRow B 2 1 (.slice (some ⟨g,0,none⟩) k Vc) k (Bh (Cr s0 k))):=by
     refine⟨by simp[Bh,Cr],.inr ⟨g,Vc,D,rfl,hg,Sz,Vd,HM.out,hD,?_⟩⟩;apply List.ext_getElem?;intro i;by_cases hi:i<k
     ·rw[zdu s0 k i hi,Nat.mul_one,List.getElem?_take_of_lt hi,Array.getElem?_toList,Va.out i hi,Int.natCast_add]
     ·rw[List.getElem?_eq_none (by simp;omega),List.getElem?_eq_none (by simp[Bh,Cr];omega)]
    go_wp2;go_ret;exact⟨Pm (by omega),HO.out,gk,fun h b _=>by rw[Ve.out h]⟩
theorem zdt(a:Option Addr)(b n c:Nat)(s0:Nat)(w:World)(h:IntsIn w a b 0 n (Cr s0 n))(hn:n<=1000000)(hs0:s0<=1000000000):
  Calls prog 78 #[.slice a n c,.int .i64 s0] w fun e w'=>e=.returned (.int .i64 ((s0+n:Nat):Int))/\w'=w:=by
 have Sz:Hid (∀j,j<n->w.cell? ⟨b,j,none⟩=some (.int .i64 ((s0:Int)+j))):=fun j hj=>by
  have:=h.cell j hj;rw[Qq]at this;rw[this,Qa];simp[Cr,List.getElem?_range hj]
 have HA:Hid (0<n->a=some ⟨b,0,none⟩):=h.addr;go_enter func78,ntmps78;go_wp2;go_loop [1,5] (fun m i=>∃(k:Nat),k<=n/\i=.int .i64 k/\m=.int .i64 ((s0:Int)+k)) (fun _ i=>n-(intOf i).toNat)
 case atStart=>exact⟨0,by omega,rfl,by simp⟩
 case round=>
  obtain⟨k,hk,rfl,rfl⟩:=hrel;by_cases hlt:k<n
  ·obtain rfl:=HA.out (by omega);have kc:=Sz.out k hlt;go_wp2;go_round
   case rel=>exact⟨k+1,by omega,by go_num,by go_num⟩
   case measure=>simp[intOf];omega
  ·obtain rfl:k=n:=by omega
   go_wp2;go_ret;exact⟨Pm (by omega),rfl⟩
def mkN (k:Nat) (p:Nv):Nv:=(⟨(k:Int),(k:Int)+1,Ac (k+2),Cr (k+3) p.1.kids.length⟩,p.2)
def zao (k:Nat) (p:Nv):Nat:=k+3+p.1.kids.length
def Ea:Nat->List Nv->List Nv
 |_,[]=> []
 |k,p::P=>mkN k p::Ea (zao k p) P
def Dv:Nat->List Nv->Nat
 |k,[]=>k
 |k,p::P=>Dv (zao k p) P
theorem zah:∀(P:List Nv)(k:Nat),(Ea k P).length=P.length
 |[],_=>rfl
 |p::P,k=>by simp[Ea,zah P]
theorem zaj:∀(P:List Nv) (k:Nat) (p:Nv),Ea k (P++ [p])=Ea k P++ [mkN (Dv k P) p]/\Dv k (P++ [p])=zao (Dv k P) p
 | [],k,p=>⟨rfl,rfl⟩
 |q::P,k,p=>by
  obtain⟨h1,h2⟩:=zaj P (zao k q) p;exact⟨by simp[Ea,h1,Dv],by simp[Dv,h2]⟩
theorem zbj:∀(P:List Nv)(k M:Nat),(∀p∈P,p.1.kids.length<=M)->k<=Dv k P/\Dv k P<=k+P.length*(3+M)
 |[],k,M,_=>by simp[Dv]
 |p::P,k,M,h=>by
  have h1:=h p (by simp);obtain⟨h2,h3⟩:=zbj P (zao k p) M (fun q hq=>h q (by simp[hq]));simp only[Dv,Q1,Nat.add_mul];unfold zao at h2 h3 ⊢;omega
theorem zef(h:w.ownsRow B 40 4 (.slice (some ⟨g,0,none⟩) n c) n xs):(w.setCell ⟨g,j,none⟩ v).ownsRow B 40 4 (.slice (some ⟨g,0,none⟩) n c) n (xs.set j v):=by
 obtain⟨h1,⟨h2,_⟩|⟨g',Va,Sz,hv,q1,q2,q3,q4,q5,q6⟩⟩:=h
 ·cases h2
 ·injection hv with hv1 hv2 hv3;injection hv1 with hv1;injection hv1 with hv1;subst hv1 hv3;have hr:Fc w g 40 Sz:=q2;refine⟨by simpa using h1,.inr ⟨g,c,Sz.setIfInBounds j v,rfl,q1,hr.set j v,q3,q4,by simpa using q5,?_⟩⟩;rw[Array.toList_setIfInBounds,List.take_set,q6]
theorem Db(X R:List Nv)(p:Nv):D9 (X++p::R)=D9 X++([.int .i64 p.1.kind,.int .i64 p.1.num,.string p.1.s,p.2]++D9 R):=by
 simp[D9]
theorem set_mid(X:List Value)(a b c d v:Value)(R:List Value)(m:Nat)(hm:X.length=m):
  (X++([a,b,c,d]++R)).set m v=X++([v,b,c,d]++R)/\(X++([a,b,c,d]++R)).set (m+1) v=X++([a,v,c,d]++R)/\(X++([a,b,c,d]++R)).set (m+2) v=X++([a,b,v,d]++R):=by
 subst hm;refine⟨?_,?_,?_⟩
 ·rw[List.set_append_right _ _ (Qc _),Nat.sub_self];rfl
 ·rw[List.set_append_right _ _ (by omega),show X.length+1-X.length=1 from by omega];rfl
 ·rw[List.set_append_right _ _ (by omega),show X.length+2-X.length=2 from by omega];rfl
theorem zaw{X R:List Nv}{p:Nv}(h:Iu w B (.slice (some ⟨g,0,none⟩) n c) (X++p::R))(x':Nd)(hk:x'.kids=p.1.kids)(j:Nat)(v:Value)(hn:(X++p::R).length=n)(hf:(D9 (X++p::R)).set j v=D9 (X++(x',p.2)::R)):
  Iu (w.setCell ⟨g,j,none⟩ v) B (.slice (some ⟨g,0,none⟩) n c) (X++(x',p.2)::R):=by
 have Sz:=h.row;rw[hn]at Sz;refine⟨?_,?_,?_⟩
 ·have:=zef (j:=j) (v:=v) Sz;rw[hf]at this;have e:(X++(x',p.2)::R).length=n:=by rw[<-hn];simp
  rw[e];exact this
 ·intro q hq
  have go:∀{u:Value} {m:Nat} {xs:List Value},w.ownsRow B 2 1 u m xs->(w.setCell ⟨g,j,none⟩ v).ownsRow B 2 1 u m xs:=fun hu=>Lt hu fun b hb=>Below.heap_setCell _ _ _ _ (fun e=>by
   have:=zbc hu Sz (by decide) hb;simp at e;subst e;exact this rfl)
  rcases List.mem_append.1 hq with hq|hq
  ·exact go (h.kids q (by simp[hq]))
  ·rcases List.mem_cons.1 hq with rfl|hq
   ·show(w.setCell ⟨g,j,none⟩ v).ownsRow B 2 1 p.2 x'.kids.length (Bh x'.kids);rw[hk];exact go (h.kids p (by simp))
   ·exact go (h.kids q (by simp[hq]))
 ·have hp:=h.apart;rw[List.pairwise_append]at hp ⊢;obtain⟨p1,p2,p3⟩:=hp;rw[List.pairwise_cons]at p2 ⊢;refine⟨p1,⟨fun a ha=>by have:=p2.1 a ha;rw[<-hk]at this;exact this,p2.2⟩,fun a ha b hb=>?_⟩;rcases List.mem_cons.1 hb with rfl|hb
  ·have:=p3 a ha p (by simp);rw[<-hk]at this;exact this
  ·exact p3 a ha b (by simp[hb])
theorem zdj{m:Nat}{u:Value}{ys:List Value}(hq:w.ownsRow B 2 1 u ([]:List Int).length (Bh []))(hp:w.ownsRow B 2 1 v n xs)(hk:w'.ownsRow B 2 1 v m ys)(hg:w.grownBy w' v.ownBlock):w'.ownsRow B 2 1 u ([]:List Int).length (Bh []):=by
 obtain⟨h1,h2|⟨g,Sz,Vb,rfl,q1,q2,q3,q4,q5,q6⟩⟩:=hq
 ·exact⟨h1,.inl h2⟩
 ·by_cases e:v.ownBlock=some g
  ·obtain⟨_,⟨rfl,_⟩|⟨g',Ve,Va,rfl,a1,a2,a3,a4,a5,a6⟩⟩:=hk
   ·simp[Value.ownBlock]at e
   ·simp[Value.ownBlock]at e;subst e;obtain⟨_,⟨e2,_⟩|⟨g2,Vc,Vd,e2,b1,b2,b3,b4,b5,b6⟩⟩:=hp
    ·cases e2
    ·injection e2 with e3 e4 e5;injection e3 with e3;injection e3 with e3;subst e3 e5;rw[q2]at b2;injection b2 with b2;injection b2 with b2;subst b2;refine⟨h1,.inr ⟨g',Sz,Va,rfl,q1,a2,q3,q4,by omega,by simp[Bh]⟩⟩
  ·exact⟨h1,.inr ⟨g,Sz,Vb,rfl,q1,(hg.block g (Hf (w:=w) (B:=B) (e:=2) (size:=1) (n:=0) (v:=.slice (some ⟨g,0,none⟩) 0 Sz) (xs:=[]) ⟨by simp,.inr ⟨g,Sz,Vb,rfl,q1,q2,q3,q4,q5,by simp⟩⟩ rfl).2 (fun h=>e h.symm)).trans q2,q3,q4,q5,q6⟩⟩
theorem zd4{X R:List Nv}{p:Nv}(h:Iu w B V (X++p::R))(hk:w'.ownsRow B 2 1 p.2 ks.length (Bh ks))(hg:w.grownBy w' p.2.ownBlock)(hkl:ks.length=p.1.kids.length)(hz:p.1.kids=[]->∀b,b<w.heap.size->w'.heap[b]?=w.heap[b]?):
  Iu w' B V (X++(⟨p.1.kind,p.1.num,p.1.s,ks⟩,p.2)::R):=by
 have hp:=h.apart;rw[List.pairwise_append]at hp;obtain⟨p1,p2,p3⟩:=hp;rw[List.pairwise_cons]at p2;have Va:=h.kids p (by simp);have Sz:∀{q:Nv},w.ownsRow B 2 1 q.2 q.1.kids.length (Bh q.1.kids)->(q.1.kids=[]\/p.1.kids=[]\/∀k,q.2.ownBlock=some k->p.2.ownBlock≠some k)->w'.ownsRow B 2 1 q.2 q.1.kids.length (Bh q.1.kids):=fun {q} hq hne=>by
  rcases hne with e|e|hne
  ·rw[e]at hq ⊢;exact zdj hq Va hk hg
  ·exact Lt hq fun b hb=>hz e b (Hf hq hb).2
  ·exact Lt hq fun b hb=>hg.block b (Hf hq hb).2 (fun e=>hne b hb e.symm)
 refine⟨?_,?_,?_⟩
 ·have e:D9 (X++(⟨p.1.kind,p.1.num,p.1.s,ks⟩,p.2)::R)=D9 (X++p::R):=by rw[Db,Db]
  have e2:(X++((⟨p.1.kind,p.1.num,p.1.s,ks⟩:Nd),p.2)::R).length=(X++p::R).length:=by simp
  rw[e,e2];exact Lt h.row fun b hb=>hg.block b (Hf h.row hb).2 (fun e=>zbc h.row Va (by decide) hb e.symm)
 ·intro q hq;rcases List.mem_append.1 hq with hq|hq
  ·exact Sz (h.kids q (by simp[hq])) (p3 q hq p (by simp))
  ·rcases List.mem_cons.1 hq with rfl|hq
   ·exact hk
   ·exact Sz (h.kids q (by simp[hq])) (by
    rcases p2.1 q hq with e|e|e
    ·exact .inr (.inl e)
    ·exact .inl e
    ·exact .inr (.inr fun k h1 h2=>e k h2 h1))
 ·rw[List.pairwise_append];rw[List.pairwise_cons];have Vb:p.1.kids=[]->ks=[]:=fun e=>List.eq_nil_of_length_eq_zero (by rw[hkl,e];rfl);refine⟨p1,⟨fun a ha=>(p2.1 a ha).imp Vb id,p2.2⟩,fun a ha b hb=>?_⟩;rcases List.mem_cons.1 hb with rfl|hb
  ·exact(p3 a ha p (by simp)).imp id fun h=>h.imp Vb id
  ·exact p3 a ha b (by simp[hb])
theorem zbx(P:List Nv)(i:Nat)(h:i<P.length):P.drop i=P[i]::P.drop (i+1)/\P.take (i+1)=P.take i++ [P[i]]:=by
 refine⟨?_,?_⟩
 ·rw[<-List.getElem_cons_drop h]
 ·rw[Qo h]
def Bn (N:Nat->Prop) (B:Nat) (w W:World):Prop:=Below B w W/\∀k,N k->k<w.heap.size->W.heap[k]?=w.heap[k]?
theorem Bn.refl(N:Nat->Prop)(B:Nat)(w:World):Bn N B w w:=⟨Qb _ _,fun _ _ _=>rfl⟩
theorem Bn.set(h:Bn N B w W)(hg:B<=g)(hN:¬N g)(v:Value):Bn N B w (W.setCell ⟨g,j,none⟩ v):=
 ⟨h.1.setCell hg _,fun k h1 h2=>(Below.heap_setCell _ _ _ _ (by show k≠g;exact fun e=>hN (e ▸ h1))).trans (h.2 k h1 h2)⟩
theorem Bn.bel(h:Bn N B w W)(hB:B<=W.heap.size)(hb:Bl W W'):Bn N B w W':=
 ⟨h.1.trans (hb.mono hB),fun k h1 h2=>(hb.block k (Qr h2 h.1.size)).trans (h.2 k h1 h2)⟩
theorem Bn.grown{r:Option Nat}(h:Bn N B w W)(hB:B<=W.heap.size)(hr:∀k,r=some k->B<=k/\¬N k)(hg:W.grownBy W' r):Bn N B w W':=
 ⟨h.1.trans ⟨hg.os,hg.tape,hg.output,hg.size,fun b hb=>hg.block b (by omega) (fun e=>by have:=(hr b e.symm).1;omega)⟩,fun k h1 h2=>(hg.block k (Qr h2 h.1.size) (fun e=>(hr k e.symm).2 h1)).trans (h.2 k h1 h2)⟩
theorem zdc(k0 B:Nat)(N:Nat->Prop)(V:Value)(P:List Nv)(w:World)(h1k:1<=k0)(h2k:k0<=200000)(h:Iu w B V P)(hBw:B<=w.heap.size)(hn:P.length<=1000)(hk:∀p∈P,p.1.kids.length<=1000)(hVN:∀k,V.ownBlock=some k->¬N k)(hPN:∀p∈P,∀k,p.2.ownBlock=some k->¬N k):
  Calls prog 36 #[V,.int .i64 (k0:Nat)] w fun e w'=>e=.returned (.int .i64 (Dv k0 P:Nat))/\Iu w' B V (Ea k0 P)/\Bn N B w w':=by
 rcases Joins.ownsRow_forms h.row with⟨rfl,h0⟩|⟨g,c,rfl⟩
 ·obtain rfl:P=[]:=List.eq_nil_of_length_eq_zero h0;have HO:Hid _:=h;go_enter func36,ntmps36;go_wp2;refine wp_loop_rounds 1 ?_;rw[rounds_succ];go_wp2;go_ret;exact⟨rfl,HO.out,Bn.refl _ _ _⟩
 ·obtain⟨n,Ve⟩:∃n,P.length=n:=⟨_,rfl⟩;have HL:Hid (P.length=n):=Ve;have HK:Hid (∀p∈P,p.1.kids.length<=1000):=hk;have Vp:Hid (∀p∈P,∀k,p.2.ownBlock=some k->¬N k):=hPN;have Vc:Hid (¬N g):=hVN g rfl;rw[Ve]at h hn ⊢;have H0:Hid (Iu w B (.slice (some ⟨g,0,none⟩) n c) (Ea k0 (P.take 0)++P.drop 0)):=by unfold Hid;simpa[Ea]using h
  have hg:B<=g:=(Hf h.row rfl).1;go_enter func36,ntmps36;go_wp2;go_loopw [1,5] (fun m i wr=>∃(j:Nat),j<=n/\i=.int .i64 j/\m=.int .i64 (Dv k0 (P.take j):Nat)/\Iu wr B (.slice (some ⟨g,0,none⟩) n c) (Ea k0 (P.take j)++P.drop j)/\Hid (Bn N B w wr)) (fun _ i _=>n-(intOf i).toNat)
  case atStart=>exact⟨0,by omega,rfl,by simp[Dv],H0.out,Bn.refl _ _ _⟩
  case round=>
   obtain⟨j,hj,rfl,rfl,ho,bk⟩:=hrel;have sk:=bk.out.1.size;by_cases hlt:j<n
   ·have Vd:j<P.length:=by rw[HL.out];exact hlt
    obtain⟨hd,ht⟩:=zbx P j Vd;obtain⟨Vn,Vg⟩:=zaj (P.take j) k0 P[j];have Vt:=HK.out P[j] (Qv Vd);have Vj:Hid (∀k,P[j].2.ownBlock=some k->¬N k):=Vp.out P[j] (Qv Vd);obtain⟨Vu,Vy⟩:=zbj (P.take j) k0 1000 (fun p hp=>HK.out p (List.mem_of_mem_take hp));have Vk:(Ea k0 (P.take j)).length=j:=by rw[zah,Qn];omega
    have Sz:(Ea k0 (P.take j)++P.drop j).length=n:=by rw[Qi,Vk,Qu,HL.out];omega
    have Vw:Dv k0 (P.take j)<=1300000:=by
     have:(P.take j).length<=1000:=by rw[Qn];omega
     have:(P.take j).length*(3+1000)<=1000*(3+1000):=Nat.mul_le_mul_right _ this;omega
    rw[hd]at ho Sz;have HT:Hid (Ea k0 (P.take (j+1))=Ea k0 (P.take j)++ [mkN (Dv k0 (P.take j)) P[j]]):=by unfold Hid;rw[ht];exact Vn
    have HE:Hid (Dv k0 (P.take (j+1))=zao (Dv k0 (P.take j)) P[j]):=by unfold Hid;rw[ht];exact Vg
    generalize Ea k0 (P.take j)=X,Dv k0 (P.take j)=k,P[j]=p at*;obtain⟨R,hR⟩:∃R,P.drop (j+1)=R:=⟨_,rfl⟩;rw[hR]at ho Sz;have Vr:Hid (P.drop (j+1)=R):=hR;obtain⟨⟨pk,pn,ps,Va⟩,pv⟩:=p;dsimp only at Vt Vj;have Vb:(D9 X).length=j*4:=by rw[zbg,Vk]
    have o1:=zaw ho ⟨k,pn,ps,Va⟩ rfl (j*4) (.int .i64 k) Sz (by rw[Db,Db];exact(set_mid _ _ _ _ _ _ _ _ Vb).1);have o2:=zaw o1 ⟨k,(k:Int)+1,ps,Va⟩ rfl (j*4+1) (.int .i64 ((k:Int)+1)) (by rw[<-Sz];simp) (by rw[Db,Db];exact(set_mid _ _ _ _ _ _ _ _ Vb).2.1);have cell:∀{W:World} {Y:List Nv},Iu W B (.slice (some ⟨g,0,none⟩) n c) Y->Y.length=n->∃D,Fc W g 40 D/\n*4<=D.size/\∀i u,(D9 Y)[i]?=some u->W.cell? ⟨g,i,none⟩=some u:=fun ho hl=>by
     have hr:=ho.row;rw[hl]at hr;obtain⟨_,⟨e,_⟩|⟨g',Vv,Vs,e,q1,q2,q3,q4,q5,q6⟩⟩:=hr
     ·cases e
     ·injection e with e1 e2 e3;injection e1 with e1;injection e1 with e1;subst e1;refine⟨Vs,q2,by rw[q5];exact Nat.mul_le_mul_right _ q3,fun i u hu=>Dn ho.row rfl i u hu⟩
    obtain⟨D0,r0,z0,f0⟩:=cell ho Sz;have a0:=f0 (j*4) _ (by rw[Db,List.getElem?_append_right (by omega),Vb,Nat.sub_self];rfl);have y0:=r0.frozen (j*4);obtain⟨D1,r1,z1,f1⟩:=cell o1 (by rw[<-Sz];simp);have a1:=f1 (j*4+1) _ (by rw[Db,List.getElem?_append_right (by omega),Vb,show j*4+1-j*4=1 from by omega];rfl);have y1:=r1.frozen (j*4+1);have HC:=Bb (k+2) ((wr.setCell ⟨g,j*4,none⟩ (.int .i64 k)).setCell ⟨g,j*4+1,none⟩ (.int .i64 ((k:Int)+1))) (by omega) (by omega);have Vf:Hid (Bn N B w ((wr.setCell ⟨g,j*4,none⟩ (.int .i64 k)).setCell ⟨g,j*4+1,none⟩ (.int .i64 ((k:Int)+1)))):=(bk.out.set hg Vc.out _).set hg Vc.out _;rw[show((k+2:Nat):Int)=(k:Int)+1+1 from by omega]at HC;obtain⟨W2,Vo⟩:∃W2,(wr.setCell ⟨g,j*4,none⟩ (.int .i64 k)).setCell ⟨g,j*4+1,none⟩ (.int .i64 ((k:Int)+1))=W2:=⟨_,rfl⟩;rw[Vo]at o2 HC Vf;have Vh:Hid (∀w1,Bl W2 w1->∃ka kc,pv=.slice ka Va.length kc/\Iu (w1.setCell ⟨g,j*4+2,none⟩ (.string (Ac (k+2)))) B (.slice (some ⟨g,0,none⟩) n c) (X++((⟨k,(k:Int)+1,Ac (k+2),Va⟩:Nd),pv)::R)/\w1.cell? ⟨g,j*4+2,none⟩=some (.string ps)/\w1.frozen? ⟨g,j*4+2,none⟩=false/\(w1.setCell ⟨g,j*4+2,none⟩ (.string (Ac (k+2)))).cell? ⟨g,j*4+3,none⟩=some pv):=fun w1 b1=>by
     have o3:=o2.bw b1 (Qc _);have o4:=zaw o3 ⟨k,(k:Int)+1,Ac (k+2),Va⟩ rfl (j*4+2) (.string (Ac (k+2))) (by rw[<-Sz];simp) (by rw[Db,Db];exact(set_mid _ _ _ _ _ _ _ _ Vb).2.2);obtain⟨ka,kc,hf⟩:=zdr (o4.kids ((⟨k,(k:Int)+1,Ac (k+2),Va⟩:Nd),pv) (by simp));obtain⟨D3,r3,z3,f3⟩:=cell o3 (by rw[<-Sz];simp);obtain⟨D4,r4,Vx,f4⟩:=cell o4 (by rw[<-Sz];simp);refine⟨ka,kc,hf,o4,?_,r3.frozen _,?_⟩
     ·exact f3 (j*4+2) _ (by rw[Db,List.getElem?_append_right (by omega),Vb,show j*4+2-j*4=2 from by omega];rfl)
     ·exact f4 (j*4+3) _ (by rw[Db,List.getElem?_append_right (by omega),Vb,show j*4+3-j*4=3 from by omega];rfl)
    have Vm:Hid (Cp 71 #[.int .i64 ((k:Int)+1+1)] W2 fun e w'=>e=.returned (.string (Ac (k+2)))/\Bl W2 w'):=HC;go_wp2_with fail;refine Vm.out.mono ?_;rintro e w1⟨rfl,b1⟩;obtain⟨ka,kc,rfl,o4,a2,y2,a3⟩:=Vh.out w1 b1;have Vi:Bn N B w (w1.setCell ⟨g,j*4+2,none⟩ (.string (Ac (k+2)))):=(Vf.out.bel (by have:=Vf.out.1.size;omega) b1).set hg Vc.out _;have hM:=zd3 B _ _ _ (k+3) (w1.setCell ⟨g,j*4+2,none⟩ (.string (Ac (k+2)))) (o4.kids ((⟨k,(k:Int)+1,Ac (k+2),Va⟩:Nd),.slice ka Va.length kc) (by simp)) (by show Va.length<=_;omega) (by omega);rw[show((k+3:Nat):Int)=(k:Int)+1+1+1 from by omega]at hM;have HM:Hid (Cp 74 #[.slice ka Va.length kc,.int .i64 ((k:Int)+1+1+1)] (w1.setCell ⟨g,j*4+2,none⟩ (.string (Ac (k+2)))) fun e w'=>e=.returned (.int .i64 ((k+3+Va.length:Nat):Int))/\Iu w' B (.slice (some ⟨g,0,none⟩) n c) (X++mkN k ((⟨pk,pn,ps,Va⟩:Nd),.slice ka Va.length kc)::R)/\Hid (Bn N B w w')):=hM.mono fun e w' ⟨he,hk5,hg5,hz5⟩=>by
     refine⟨he,zd4 (ks:=Cr (k+3) Va.length) o4 (by rw[za2];exact hk5) hg5 (za2 _ _) (fun e b hb=>hz5 (by rw[show Va=[] from e];rfl) b hb),?_⟩;have Vq:=o4.kids ((⟨k,(k:Int)+1,Ac (k+2),Va⟩:Nd),.slice ka Va.length kc) (by simp);exact Vi.grown (by have:=Vi.1.size;omega) (fun k hk=>⟨(Hf Vq hk).1,Vj.out k hk⟩) hg5
    generalize Ac (k+2)=mb at*;go_wp2_with fail;refine HM.out.mono ?_;rintro e w5⟨rfl,o5,b5⟩;have OR:Hid (∀{Z:List Nv},Z=X++mkN k ((⟨pk,pn,ps,Va⟩:Nd),.slice ka Va.length kc)::R->Iu w5 B (.slice (some ⟨g,0,none⟩) n c) Z):=fun h=>by rw[h];exact o5
    go_wp2;go_roundw
    case rel=>
     refine⟨j+1,by omega,by go_num,?_,?_,b5⟩
     ·rw[HE.out];unfold zao;go_num
     ·rw[HT.out,List.append_assoc,Vr.out];exact OR.out rfl
    case measure=>simp[intOf];omega
   ·obtain rfl:j=n:=by omega
    have HE:Hid (P.take j=P/\P.drop j=[]):=by
     unfold Hid;rw[<-HL.out];exact⟨List.take_length,List.drop_length⟩
    rw[HE.out.1,HE.out.2,List.append_nil]at ho;have HO:Hid _:=ho;rw[HE.out.1];go_wp2;go_ret;exact⟨rfl,HO.out,bk.out⟩
theorem zbd:∀(P:List Nv) (k j:Nat) (h:j<P.length),(Ea k P)[j]?=some (mkN (Dv k (P.take j)) P[j])
 | [],_,j,h=>by simp at h
 |p::P,k,0,_=>rfl
 |p::P,k,j+1,h=>by
  have h':j<P.length:=by simpa using h
  simp only[Ea,Ql,List.take_succ_cons,Dv,List.getElem_cons_succ];exact zbd P (zao k p) j h'
theorem zc8(k0 B:Nat)(V:Value)(P:List Nv)(w:World)(h1k:1<=k0)(h2k:k0<=200000)(h:Iu w B V (Ea k0 P))(hn:P.length<=1000)(hk:∀p∈P,p.1.kids.length<=1000):
  Calls prog 38 #[V,.int .i64 (k0:Nat)] w fun e w'=>e=.returned (.int .i64 (Dv k0 P:Nat))/\Bl w w':=by
 have Sz:=h.row;rw[zah]at Sz;rcases Joins.ownsRow_forms Sz with⟨rfl,h0⟩|⟨g,c,rfl⟩
 ·obtain rfl:P=[]:=List.eq_nil_of_length_eq_zero h0;go_enter func38,ntmps38;go_wp2;refine wp_loop_rounds 1 ?_;rw[rounds_succ];go_wp2;go_ret;exact⟨rfl,Qb _ _⟩
 ·obtain⟨n,Vf⟩:∃n,P.length=n:=⟨_,rfl⟩;have HL:Hid (P.length=n):=Vf;have HK:Hid (∀p∈P,p.1.kids.length<=1000):=hk;rw[Vf]at h hn Sz ⊢;have Va:g<w.heap.size:=(Hf Sz rfl).2;have HN:Hid (∀j,(hj:j<P.length)->∃ka bk kc,w.cell? ⟨g,j*4,none⟩=some (.int .i64 (Dv k0 (P.take j):Nat))/\w.cell? ⟨g,j*4+1,none⟩=some (.int .i64 ((Dv k0 (P.take j):Nat)+1))/\w.cell? ⟨g,j*4+2,none⟩=some (.string (Ac (Dv k0 (P.take j)+2)))/\w.cell? ⟨g,j*4+3,none⟩=some (.slice ka P[j].1.kids.length kc)/\IntsIn w ka bk 0 P[j].1.kids.length (Cr (Dv k0 (P.take j)+3) P[j].1.kids.length)):=fun j hj=>by
   have Vg:j<(Ea k0 P).length:=by rw[zah];exact hj
   have hg:=zbd P k0 j hj;rw[Qd Vg]at hg;injection hg with hg;obtain⟨f0,f1,f2,f3⟩:=za3 (Ea k0 P) j Vg;have Vb:=h.kids _ (Qv Vg);rw[hg]at f0 f1 f2 f3 Vb;obtain⟨ka,bk,kc,hK,hI⟩:=zau Vb;have hl:(mkN (Dv k0 (P.take j)) P[j]).1.kids.length=P[j].1.kids.length:=za2 _ _;rw[hl]at hK hI;refine⟨ka,bk,kc,Dn Sz rfl _ _ f0,Dn Sz rfl _ _ f1,Dn Sz rfl _ _ f2,?_,hI⟩;rw[<-hK];exact Dn Sz rfl _ _ f3
  go_enter func38,ntmps38;go_wp2;go_loopw [1,5] (fun m i wr=>∃(j:Nat),j<=n/\i=.int .i64 j/\m=.int .i64 (Dv k0 (P.take j):Nat)/\Bl w wr) (fun _ i _=>n-(intOf i).toNat)
  case atStart=>exact⟨0,by omega,rfl,by simp[Dv],Qb _ _⟩
  case round=>
   obtain⟨j,hj,rfl,rfl,bk⟩:=hrel;have sk:=bk.size;by_cases hlt:j<n
   ·have Vd:j<P.length:=by rw[HL.out];exact hlt
    obtain⟨_,ht⟩:=zbx P j Vd;obtain⟨_,Vh⟩:=zaj (P.take j) k0 P[j];have Vm:=HK.out P[j] (Qv Vd);obtain⟨Vo,Vp⟩:=zbj (P.take j) k0 1000 (fun p hp=>HK.out p (List.mem_of_mem_take hp));have Vq:Dv k0 (P.take j)<=1300000:=by
     have:(P.take j).length<=1000:=by rw[Qn];omega
     have:(P.take j).length*(3+1000)<=1000*(3+1000):=Nat.mul_le_mul_right _ this;omega
    have HE:Hid (Dv k0 (P.take (j+1))=Dv k0 (P.take j)+3+P[j].1.kids.length):=by unfold Hid;rw[ht];exact Vh
    obtain⟨ka,bb,kc,q0,q1,q2,q3,q4⟩:=HN.out j Vd;generalize Dv k0 (P.take j)=k at*;obtain⟨m,hm⟩:∃m,P[j].1.kids.length=m:=⟨_,rfl⟩;rw[hm]at Vm HE q3 q4;have c0:=(bk.cell (p:=⟨g,j*4,none⟩) Va).trans q0;have c1:=(bk.cell (p:=⟨g,j*4+1,none⟩) Va).trans q1;have c2:=(bk.cell (p:=⟨g,j*4+2,none⟩) Va).trans q2;have cD:∀d os,Calls prog 71 #[.int .i64 ((k:Int)+1+1)] (grow (redrawn wr d) os) fun e w''=>e=.returned (.string (Ac (k+2)))/\∃p:Regrown,w''=grow (redrawn wr p.d) p.os:=fun d os=>by
     rw[show(k:Int)+1+1=((k+2:Nat):Int) from by omega];exact Calls.regrown_of (Bb (k+2) _ (by omega) (by omega))
    have Vn:=cell_regrown c2;have Q3:Hid (w.cell? ⟨g,j*4+3,none⟩=some (.slice ka m kc)):=q3;have Q4:Hid (IntsIn w ka bb 0 m (Cr (k+3) m)):=q4;generalize Ac (k+2)=mk at*;go_wp2;refine wp_region_quiet_below (by kernel_rfl) (by kernel_rfl) ?_;repeat(quiet_step (first|exact cD _ _))
    refine wpQuiet_nil ?_;intro _ hw';obtain⟨⟨dq,Vi⟩,Vc⟩:=hw';subst Vc;have bq:=below_regrown wr dq Vi;generalize grow (redrawn wr dq) Vi=wq at*;have Ve:Bl w wq:=bk.trans (bq.mono bk.size);have c3:=(Ve.cell (p:=⟨g,j*4+3,none⟩) Va).trans Q3.out;have hH:=zdt ka bb m kc (k+3) wq (Fp Q4.out Ve) (by omega) (by omega);rw[show((k+3:Nat):Int)=(k:Int)+1+1+1 from by omega]at hH;have HH:Hid (Cp 78 #[.slice ka m kc,.int .i64 ((k:Int)+1+1+1)] wq fun e w'=>e=.returned (.int .i64 ((k+3+m:Nat):Int))/\w'=wq):=hH;have Vk:decide (((k+3+m:Nat):Int)<0)=false:=by simp;omega
    go_wp2_with fail;refine HH.out.mono ?_;rintro e w6⟨rfl,hw⟩;have Vj:=hw.symm;subst Vj;go_wp2;go_roundw
    case rel=>exact⟨j+1,by omega,by go_num,by rw[HE.out];go_num,Ve⟩
    case measure=>simp[intOf];omega
   ·obtain rfl:j=n:=by omega
    have HE:Hid (P.take j=P):=by unfold Hid;rw[<-HL.out];exact List.take_length
    rw[HE.out];go_wp2;go_ret;exact⟨rfl,bk⟩
end Go.Proofs.YtokafonppgppdaaGreatDoor.Re
namespace Go.Proofs.YtokafonppgppdaaGreatDoor.Er
open Go.RowKit Go.Sort
open Rb (Ns C4 W9)
variable {T:List ByteArray} {R:List Rp} {k:Ke} {c:Cm} {th:Bool} {w:World} {B:Nat} {v:Value} {P:List Re.Nv}
def RpK (R:List Rp):Prop:=R.Pairwise (fun x y=>x.kids=[]\/y.kids=[])/\R.length<=41/\∀r∈R,r.kids.length<=41
theorem D8{k n:Int}{s:ByteArray}:RpK [⟨k,n,s,[]⟩]:=by
 refine⟨List.pairwise_singleton _ _,by simp,fun r hr=>?_⟩;obtain rfl:=List.mem_singleton.1 hr;exact Qs _
theorem zbn(hl:T.length<=40):RpK (He T):=by
 have Sz:∀r∈T.map (fun t=>(⟨4,0,t,[]⟩:Rp)),r.kids=[]:=fun r hr=>by
  obtain⟨t,_,rfl⟩:=List.mem_map.1 hr;rfl
 unfold He;refine⟨List.pairwise_append.2 ⟨?_,List.pairwise_singleton _ _,fun x hx y _=>Or.inl (Sz x hx)⟩,by simp;omega,fun r hr=>?_⟩
 ·refine List.Pairwise.imp_of_mem (R:=fun _ _=>True) (fun {a b} ha _ _=>Or.inl (Sz a ha)) ?_;exact List.pairwise_of_forall (fun _ _=>trivial)
 ·rcases List.mem_append.1 hr with h|h
  ·rw[Sz r h];exact Qs _
  ·obtain rfl:=List.mem_singleton.1 h;show(List.range T.length).length<=41;rw[List.length_range];omega
structure Gd (x:List Ke×List Rp):Prop where
 ok:Fm x.1=true
 rp:RpK x.2
def Sh (k:Ke):Prop:=k.val.ia.length<=20/\k.val.pj.length<=20/\k.val.rq.length<=20
section
variable {ks : List Ke} {now : Int}
theorem Im(h:Fm ks=true)(hR:RpK R):Gd (ks,R):=⟨h,hR⟩
theorem zc1(h:Fm ks=true)(nm:ByteArray)(hR:RpK R):Gd (G5 ks nm,R):=⟨C4 h nm,hR⟩
theorem zay(h:Fm ks=true)(hR:RpK R):Gd (Fj ks k R):=by
 unfold Fj;split
 ·exact zc1 h _ hR
 ·split
  ·exact⟨by assumption,hR⟩
  ·exact⟨h,D8⟩
theorem zdq(h:Fm ks=true)(hk:k∈ks){d:Int}(h0:0<=d)(h1:d<=1000000000)(hR:RpK R):Gd (G0 ks (k.withDue d),R):=by
 refine⟨?_,hR⟩;have hq:Lw ks:=T8 h;have q:=An hq hk h0 h1;show Fm (G0 ks (k.withDue d))=true;rw[W9 h,Qe q.1,Bool.and_true];have:=hq.2 k hk;unfold Hh Lp at this ⊢;simp only[Qh,decide_eq_true_eq]at this ⊢;exact⟨this.1,this.2.1,h0,h1⟩
theorem zee(h:Fm ks=true):Gd (Ol c ks k th T):=by
 unfold Ol;split<;>repeat(first|((with_reducible refine Im h ?_);exact D8)|((with_reducible refine zay h ?_);exact D8)|split)
theorem zd5(h:Fm ks=true)(hk:Sh k):Gd (Od c ks k th T):=by
 have hi:∀f l,RpK (He (N3 k.val.ia f l)):=fun f l=>by
  unfold N3;exact zbn (by rw[Qu,Qn];have:=hk.1;omega)
 unfold Od;split<;>repeat(first|(with_reducible exact Im h (hi _ _))|((with_reducible refine Im h ?_);exact D8)|((with_reducible refine zay h ?_);exact D8)|split)
theorem zd9(h:Fm ks=true)(hk:Sh k):Gd (Om c ks k T):=by
 have hi:RpK (He (Hj k.val.pj)):=zbn (by rw[Tu];have:=hk.2.1;omega);unfold Om;split<;>repeat(first|(with_reducible exact Im h hi)|((with_reducible refine Im h ?_);exact D8)|((with_reducible refine zay h ?_);exact D8)|split)
theorem zeh(h:Fm ks=true)(hk:Sh k):Gd (M5 c ks k T):=by
 have hi:∀f l,RpK (He (Pc k.val.rq f l)):=fun f l=>by
  unfold Pc;exact zbn (by rw[Qp,Qu,Qn];have:=hk.2.2;omega)
 unfold M5;split<;>repeat(first|(with_reducible exact Im h (hi _ _))|((with_reducible refine Im h ?_);exact D8)|((with_reducible refine zay h ?_);exact D8)|split)
theorem zet(h:Fm ks=true)(h1:k.due≠0->k∈ks)(h2:th=true->k∈ks)(hn:0<=now/\now<=1000000000):Gd (anyM c ks k th now T):=by
 unfold anyM;split<;>repeat(first|((with_reducible refine Im h ?_);exact D8)|((with_reducible refine zay h ?_);exact D8)|exact zdq h (h1 (by assumption)) (by omega) (by omega) D8|exact zdq h (h2 (by assumption)) (by omega) (by omega) D8|((with_reducible refine zc1 h _ ?_);exact D8)|split)
theorem zd7:∀(T:List ByteArray) (s:List Ke×Nat),Fm s.1=true->Fm (T.foldl (Ni true) s).1=true
 | [],s,a=>a
 |t::T,s,a=>by
  rw[List.foldl_cons];refine zd7 T _ ?_;unfold Ni;split
  ·exact a
  ·exact C4 a t
theorem zeg(h:Fm ks=true):Gd (Oj c ks T):=by
 cases c using Cm.elim
 case DEL=>exact⟨zd7 T (ks,0) h,D8⟩
 case FLUSHALL=>exact⟨rfl,D8⟩
 case KEYS=>exact⟨h,zbn (by rw[Qp];have:=(T8 h).1;omega)⟩
 case PING=>
  refine⟨h,?_⟩;show RpK (if T.length=0 then Hd T9 else Fy (T.getD 0 ByteArray.empty));split<;>exact D8
 all_goals exact⟨h,D8⟩
theorem zbt(h:Fm ks=true)(hk:Sh k)(h1:k.due≠0->k∈ks)(h2:th=true->k∈ks)(hn:0<=now/\now<=1000000000):Gd (Mh c ks k th now T):=by
 unfold Mh;split
 ·exact zee h
 ·exact zd5 h hk
 ·exact zd9 h hk
 ·exact zeh h hk
 ·exact zet h h1 h2 hn
theorem zec(h:Fm ks=true)(hn:0<=now/\now<=1000000000):Gd (Lc ks now T):=by
 unfold Lc;split
 ·exact⟨h,D8⟩
 ·split
  ·split
   ·exact zeg h
   ·unfold Np;split
    ·exact zbt h ⟨Qs _,Qs _,Qs _⟩ (fun e=>absurd rfl e) (fun e=>by cases e) hn
    ·rename_i hf;split
     ·exact⟨h,D8⟩
     ·have hm:ks.getD (Lm ks (Fa T.tail 0) 0).toNat ke0∈ks:=by
       rcases Ba ks (Fa T.tail 0) 0 with e|⟨i,hi,e⟩
       ·exact absurd (by rw[e];decide) hf
       ·rw[e,Int.toNat_natCast,Qq,Qa,Qd hi];exact Qv hi
      have q:=We ((T8 h).2 _ hm);exact zbt h ⟨q.ni,q.np,q.nr⟩ (fun _=>hm) (fun _=>hm) hn
  ·exact⟨h,D8⟩
end
theorem zer(ks:List Ke)(now:Int)(T:List ByteArray):(Fm (Nj ks now T).1=true\/(Nj ks now T).1=[])/\RpK (Nj ks now T).2:=by
 unfold Nj;split
 ·rename_i h;unfold Tt at h;simp only[Qh,decide_eq_true_eq]at h;obtain⟨h1,h2,h3,h4⟩:=h;unfold Lp at h2;simp only[Qh,decide_eq_true_eq]at h2;have q:=zec (Rb.E7 h1 now) (T:=T) h2;exact⟨.inl q.ok,q.rp⟩
 ·exact⟨.inr rfl,List.Pairwise.nil,by simp,fun r hr=>by cases hr⟩
def zel (r:Rp):Re.Nd:=⟨r.kind,r.n,r.s,r.kids.map fun (k:Nat)=> (k:Int)⟩
def zez (x:RV):Re.Nv:=(zel x.r,x.kv)
theorem zea(M:List RV):Re.D9 (M.map zez)=Tn M:=by
 unfold Re.D9 Tn;rw[List.flatMap_map];rfl
theorem zek(ks:List Nat):Re.Bh (ks.map fun(k:Nat)=>(k:Int))=U8 ks:=by
 unfold Re.Bh U8;rw[List.map_map];rfl
theorem zar(h:Fr w B v R)(hR:RpK R):∃P:List Re.Nv,P.map Prod.fst=R.map zel/\Re.Iu w B v P:=by
 obtain⟨M,rfl,ho,hk⟩:=h;refine⟨M.map zez,by rw[List.map_map,List.map_map];rfl,⟨?_,fun p hp=>?_,?_⟩⟩
 ·rw[zea,Qp];exact ho
 ·obtain⟨x,hx,rfl⟩:=List.mem_map.1 hp;show w.ownsRow B 2 1 x.kv (x.r.kids.map fun(k:Nat)=>(k:Int)).length (Re.Bh (x.r.kids.map fun(k:Nat)=>(k:Int)));rw[zek,Qp];exact hk x hx
 ·have hp:=hR.1;rw[List.pairwise_map]at hp ⊢;refine hp.imp fun {a b} h=>?_;rcases h with h|h
  ·exact .inl (by show a.r.kids.map _=[];rw[h];rfl)
  ·exact .inr (.inl (by show b.r.kids.map _=[];rw[h];rfl))
theorem zbh{V:Value}(h:Re.Iu w B V P):∃a b c,V=.slice a P.length c/\Re.zbm w a b 0 P.length (P.map Prod.fst):=by
 have hg:∀i (hi:i<P.length),(P.map Prod.fst).getD i Re.nd0=P[i].1:=fun i hi=>by
  rw[Qa,Qd (by rw[Qp];exact hi),Option.getD_some,List.getElem_map]
 rcases Joins.ownsRow_forms h.row with⟨h1,h2⟩|⟨g,c,rfl⟩
 ·exact⟨none,0,0,by rw[h2,h1],Qp _,fun h0=>by omega,fun h0=>by omega,fun i hi=>by omega⟩
 ·refine⟨some ⟨g,0,none⟩,g,c,rfl,Qp _,fun _=>rfl,fun _=>(Hf h.row rfl).2,fun i hi=>?_⟩;obtain⟨f0,f1,f2,f3⟩:=Re.za3 P i hi;obtain⟨ak,bk,ck,hK,hI⟩:=Re.zau (h.kids _ (Qv hi));rw[hg i hi];rw[hK]at f3;refine⟨ak,bk,0,ck,?_,?_,?_,?_,hI⟩
  ·rw[Qq];exact Re.Dn h.row rfl _ _ f0
  ·rw[Qq];exact Re.Dn h.row rfl _ _ f1
  ·rw[Qq];exact Re.Dn h.row rfl _ _ f2
  ·rw[Qq];exact Re.Dn h.row rfl _ _ f3
theorem zcy(hR:RpK R)(hP:P.map Prod.fst=R.map zel):P.length<=41/\∀p∈P,p.1.kids.length<=41:=by
 refine⟨by rw[<-Qp Prod.fst,hP,Qp];exact hR.2.1,fun p hp=>?_⟩;have:p.1∈R.map zel:=by rw[<-hP];exact List.mem_map.2 ⟨p,hp,rfl⟩
 obtain⟨r,hr,e⟩:=List.mem_map.1 this;rw[<-e];show(r.kids.map _).length<=41;rw[Qp];exact hR.2.2 r hr
theorem zdp{B':Nat}{v':Value}(h:Fr w B v R)(h':Fr w B' v' R)(hR:RpK R):
  Calls Tryz.prog 32 #[v,v'] w fun e w'=>e=.returned (.bool true)/\Bl w w':=by
 obtain⟨P,hP,o⟩:=zar h hR;obtain⟨P',Va,o'⟩:=zar h' hR;obtain⟨a,b,c,e,hi⟩:=zbh o;obtain⟨a',b',c',e',Sz⟩:=zbh o';have hl:P'.length=P.length:=by rw[<-Qp Prod.fst,Va,<-hP,Qp]
 rw[hl]at e' Sz;rw[Va,<-hP]at Sz;rw[e,e'];obtain⟨l1,l2⟩:=zcy hR hP;refine Re.zed a a' b 0 b' 0 P.length c c' (P.map Prod.fst) w hi Sz (by omega) fun i hi=>?_;rw[Qa,Qd (by rw[Qp];exact hi),Option.getD_some,List.getElem_map];have:=l2 _ (Qv hi);omega
def BlR (w:World) (k:Nat):Prop:=∃C e,Fc w k e C/\(e=40\/e=2)
theorem zcm{k0:Nat}(h:Fr w B v R)(hR:RpK R)(hB:B<=w.heap.size)(h1:1<=k0)(h2:k0<=200000):
  ∃K:Nat,Calls Tryz.prog 36 #[v,.int .i64 (k0:Nat)] w fun e w'=>e=.returned (.int .i64 K)/\(Below B w w'/\∀k,¬BlR w k->k<w.heap.size->w'.heap[k]?=w.heap[k]?)/\∀W,Bl w' W->Calls Tryz.prog 38 #[v,.int .i64 (k0:Nat)] W fun e W'=>e=.returned (.int .i64 K)/\Bl W W':=by
 obtain⟨P,hP,o⟩:=zar h hR;obtain⟨l1,l2⟩:=zcy hR hP;refine⟨Re.Dv k0 P,(Re.zdc k0 B (fun k=>¬BlR w k) v P w h1 h2 o hB (by omega) (fun p hp=>by have:=l2 p hp;omega) (fun k hk hn=>?_) (fun p hp k hk hn=>?_)).mono fun e w' ⟨he,ho,hb⟩=>⟨he,hb,fun W hW=>?_⟩⟩
 ·obtain⟨C,hC⟩:=M3 o.row hk;exact hn ⟨C,40,hC,.inl rfl⟩
 ·obtain⟨C,hC⟩:=M3 (o.kids p hp) hk;exact hn ⟨C,2,hC,.inr rfl⟩
 ·exact Re.zc8 k0 B v P W h1 h2 (ho.bw hW (Qc _)) (by omega) fun p hp=>by have:=l2 p hp;omega
open Go.RowKit
theorem Ct{W:World}{ad:Nat->Addr}(h:Rb.Px w ad)(hb:Bl w W):Rb.Px W ad:=by
 have hs:=hb.size;have n25:=h.es.er.n25;have q:=h.es.bw hb;refine⟨⟨⟨q.er.rd,q.er.fd,fun i hi=>⟨(q.er.er i hi).1,Qr (q.er.er i hi).2 hs⟩,by omega⟩,q.ms⟩,fun i hi=>(h.ev i hi).bw hb n25 (h.ev i hi).low,h.ne,(hb.cell (p:=⟨3,0,none⟩) (by show 3<_;omega)).trans h.g7⟩
end Go.Proofs.YtokafonppgppdaaGreatDoor.Er
namespace Go.Proofs.YtokafonppgppdaaGreatDoor
open Tryz
open Go.RowKit Go.Sort
open Rb (Mu Pn)
open Er (RpK)
variable {w W:World} {B g B' base fuel:Nat} {L L':List KV} {v r v' r':Value} {P:List Ke×List Rp} {H:Type} {spare:Nat->Bool} {held:Bool} {t:TypeId} {f0 f1 f2:Field} {cs:List Value}
theorem zd6{cap:Nat}{D:Array Value}(h:Fc w g 47 D)(hD:D.size=cap*7)(hp:za9 D L)(hc:L.length<=cap)(hm:cap<=maxLen)(hB:B<=g):Nu w B (.slice (some ⟨g,0,none⟩) L.length cap) L:=by
 have hf:∀M:List KV,(flatK M).length=M.length*7:=fun M=>by
  induction M with
  |nil=>rfl
  |cons x xs ih=>
   show(kvC x++flatK xs).length=_;rw[Qi,ih,Q1];show 7+_=_;omega
 refine⟨hf L,.inr ⟨g,cap,D,rfl,hB,h,hc,hm,hD,?_⟩⟩;apply List.ext_getElem?;intro j;by_cases hj:j<L.length*7
 ·rw[List.getElem?_take,if_pos hj,Array.getElem?_toList];have e:=hp (j/7) (by omega) (j%7) (by omega);have e2:=zuj L (j/7) (j%7) (by omega) (by omega);rw[show j/7*7+j%7=j from by omega]at e e2;rw[e,e2]
 ·rw[List.getElem?_take,if_neg hj,List.getElem?_eq_none (by rw[hf];omega)]
theorem zas:∀(L:List KV)(K:Nat),K<=Ao K L
 |[],_=>Qc _
 |x::xs,K=>by
  have:=zas xs (E5 K x.key.val);simp only[Ao];unfold E5 at this ⊢;omega
theorem za0:∀(L:List KV)(K:Nat),(∀i,i<L.length->One (L.getD i kv0).key.val)->Ao K L<=K+L.length*5300000
 |[],_,_=>by simp[Ao]
 |x::xs,K,h=>by
  have h0:=h 0 (by simp);have:=za0 xs (E5 K x.key.val) (fun i hi=>by have:=h (i+1) (by simpa using hi);simpa using this);have hx:One x.key.val:=by simpa using h0
  have h1:=hx.ni;have h2:=hx.np;have h3:=hx.nr;simp only[Ao,Q1];unfold E5 at this ⊢;omega
structure Ans (w:World) (B:Nat) (v r:Value) (L:List KV) (P:List Ke×List Rp):Prop where
 key:L.map KV.key=P.1
 own:Nu w B v L
 val:Mu w B L
 rep:Fr w B r P.2
theorem Ans.up(h:Ans w B v r L P)(hu:∀k,B<=k->k<w.heap.size->W.heap[k]?=w.heap[k]?):Ans W B v r L P:=by
 have u:∀{e:TypeId} {size n:Nat} {v:Value} {xs:List Value},w.ownsRow B e size v n xs->W.ownsRow B e size v n xs:=fun h=>Lt h fun k hk=>hu k (Hf h hk).1 (Hf h hk).2;obtain⟨M,e,ho,hk⟩:=h.rep;exact⟨h.key,u h.own,⟨fun x hx=>⟨u (h.val.own x hx).ia,u (h.val.own x hx).pj,u (h.val.own x hx).rq⟩,h.val.ap⟩,M,e,u ho,fun x hx=>u (hk x hx)⟩
theorem Ans.bel(h:Ans w B v r L P)(hb:Bl w W):Ans W B v r L P:=h.up fun k _ hk=>hb.block k hk
def zb5 (P:List Ke×List Rp):Prop:=(Fm P.1=true\/P.1=[])/\RpK P.2
theorem Ans.few(h:Ans w B v r L P)(hP:zb5 P):L.length<=20/\∀i,i<L.length->Few (L.getD i kv0).key.val:=zcg (by rw[h.key];exact hP.1)
theorem Ans.eqk(h:Ans w B v r L P)(h':Ans w B' v' r' L' P)(hP:zb5 P):
  Calls prog 31 #[v,v'] w fun e w'=>e=.returned (.bool true)/\Bl w w':=
 zdl h.own h.val h'.own h'.val (h'.key.trans h.key.symm) (by rw[h.key];exact hP.1)
theorem Ans.eqr(h:Ans w B v r L P)(h':Ans w B' v' r' L' P)(hP:zb5 P):
 Calls prog 32 #[r,r'] w fun e w'=>e=.returned (.bool true)/\Bl w w':=Er.zdp h.rep h'.rep hP.2
theorem Ans.notR(h:Ans w B v r L P):∀k,BlK v L k->¬Er.BlR w k:=fun k hk ⟨C,e,hC,he⟩=>by
 obtain⟨D,e',hD,h1,h2⟩:=zb7 h.own h.val hk;obtain rfl:=Hp.N9 hD hC;rcases he with he|he
 ·exact h1 he
 ·exact h2 he
theorem Ans.markK(h:Ans w B v r L P)(hP:zb5 P)(hB:B<=w.heap.size):
  Calls prog 34 #[v,.int .i64 1] w fun e w'=>e=.returned (.int .i64 (Ao 1 L:Nat))/\(∀W:World,w'.heap.size<=W.heap.size->(∀k,BlK v L k->W.heap[k]?=w'.heap[k]?)->Calls prog 37 #[v,.int .i64 1] W fun e W'=>e=.returned (.int .i64 (Ao 1 L:Nat))/\Bl W W')/\(∀k,BlK v L k->¬Er.BlR w' k/\k<w'.heap.size)/\Below B w w'/\Fr w' B r P.2:=by
 obtain⟨l1,f1⟩:=h.few hP;refine(zbl B (Er.BlR w) v L w h.own h.val hB f1 l1 h.notR).mono fun e w' ⟨he,hq,ht,hb,hu⟩=>⟨he,fun W hW hs=>?_,fun k hk=>⟨fun⟨C,e,hC,he⟩=>?_,Qr (zeu h.own h.val hk) hb.size⟩,hb,?_⟩
 ·obtain⟨a,A,c,e,q⟩:=hq W hW hs;rw[e];exact zbk a A L.length c L W rfl q l1 f1
 ·obtain⟨D,e',hD,h1,h2⟩:=ht k hk;obtain rfl:=Hp.N9 hD hC;rcases he with he|he
  ·exact h1 he
  ·exact h2 he
 ·obtain⟨M,e,ho,hk⟩:=h.rep;refine⟨M,e,Lt ho fun k hk=>hu k ?_ (Hf ho hk).2,fun x hx=>Lt (hk x hx) fun k hk2=>hu k ?_ (Hf (hk x hx) hk2).2⟩
  ·obtain⟨C,hC⟩:=M3 ho hk;exact⟨C,40,hC,.inl rfl⟩
  ·obtain⟨C,hC⟩:=M3 (hk x hx) hk2;exact⟨C,2,hC,.inr rfl⟩
theorem zae{w0:World}{m ab ao:Nat}{aa:Option Addr}{T:List ByteArray}(h:Fz w g (.slice (some ⟨g,0,none⟩) m m) T)(h0:Fs w0 aa ab ao m T):Fs w (some ⟨g,0,none⟩) g 0 m T:=by
 have hm:=h0.len;refine⟨hm,fun _=>rfl,fun _=>(Hf h rfl).2,fun i hi=>?_,h0.fit⟩
 have:=World.ownsRow.cells h rfl i (.string (T.getD i ByteArray.empty)) (by
  have Sz:i<T.length:=by omega
  have e:T.getD i ByteArray.empty=T[i]:=by rw[Qa,Qd Sz];rfl
  rw[e];unfold G1;rw[List.getElem?_map,Qd Sz];rfl)
 rw[Addr.add_lit]at this;exact this
theorem exact_walk(a:Option Addr)(b off n c:Nat)(L:List KV)(now:Int)(aa:Option Addr)(ab ao m ac:Nat)(T:List ByteArray)(ad:Nat->Addr)(w:World)(h:Ir w a b off n L)(hn:n<=9223372036854775807)(hs:∀i,i<n->zci (L.getD i kv0).key)(hf:∀i,i<n->Kk.Md (L.getD i kv0).key.val.rq)(ha:Fs w aa ab ao m T)(hm:m<=9223372036854775807)(hE:Rb.Px w ad):
  Calls prog 11 #[.slice a n c,.int .i64 now,.slice aa m ac] w fun e w'=>e=.returned (.bool true)/\Bl w w':=by
 have HK:Hid (Ir w a b off n L):=h;have HS:Hid (∀i,i<n->zci (L.getD i kv0).key):=hs;have HF:Hid (∀i,i<n->Kk.Md (L.getD i kv0).key.val.rq):=hf;have HA:Hid (Fs w aa ab ao m T):=ha;have HE:Hid (Rb.Px w ad):=hE;go_enter func11,ntmps11;go_wp2_with fail;refine(zcs a b off n c L 1048576 w HK.out hn HS.out (by omega) (by omega)).mono ?_;rintro e w1⟨⟨r,rfl,hr⟩,b1⟩;have HR:Hid (r<0\/(r<=1048576/\n<=1048576/\∀i,i<n->H8 (L.getD i kv0).key)):=hr;have s1:=b1.size;by_cases hneg:r<0
 ·have hd:decide (r<0)=true:=Qe hneg;go_wp2;go_ret;exact⟨rfl,b1⟩
 have hd:decide (r<0)=false:=Qf hneg;obtain⟨hr1,Xk,hg⟩:=HR.out.resolve_left hneg;have HG:Hid (∀i,i<n->H8 (L.getD i kv0).key):=hg;go_wp2_with fail;refine(zdx aa ab ao m ac T r w1 (Lb HA.out b1) hm (by omega) (by omega)).mono ?_;rintro e w2⟨⟨r2,rfl,Zh⟩,Yh⟩;subst Yh;by_cases hneg2:r2<0
 ·have Yi:decide (r2<0)=true:=Qe hneg2;go_wp2;go_ret;exact⟨rfl,b1⟩
 have Yi:decide (r2<0)=false:=Qf hneg2;have Xs:m<=1048576:=by rcases Zh with h|h<;>omega
 go_wp2_with fail;refine(zaa a b off n c L w2 (HK.out.bw b1) Xk HG.out).mono ?_;rintro e w3⟨A,rfl,dA,kA,b3,_,_⟩;have Zr:=b1.trans (b3.mono s1);have s3:=Zr.size;have DA:Hid (DbU w3 w2.heap.size (some ⟨w2.heap.size,0,none⟩) w2.heap.size n A/\∀i,i<n->(A.getD i kv0).key=(L.getD i kv0).key):=⟨dA,kA⟩;go_wp2_with fail;refine(Hq aa ab ao m ac T w3 (Lb HA.out Zr) Xs).mono ?_;rintro e w4⟨rfl,oT,b4,l4⟩;have Jr:=Zr.trans (b4.mono s3);have s4:=Jr.size;have DS:Hid (Cp 15 #[.slice (some ⟨w2.heap.size,0,none⟩) n n,.int .i64 now,.slice (some ⟨w3.heap.size,0,none⟩) m m] w4 (Fh w4 w4.heap.size (Nj (A.map KV.key) now T))):=by
  have dU:=DA.out.1.bw b4;have hl:A.length=n:=dU.ks.len;have hz:=zj3 (some ⟨w2.heap.size,0,none⟩) w2.heap.size n A now (some ⟨w3.heap.size,0,none⟩) w3.heap.size 0 m m T w4 (by rw[hl];exact zd1 dU (Iy DA.out.2 HG.out)) (by rw[hl];exact dU.at) (zdd hl DA.out.2 HG.out) (by omega) (zae oT HA.out) (by omega) (Qc _);rw[hl]at hz;exact hz
 go_wp2_with fail;refine DS.out.mono ?_;rintro e w5⟨v0,r0,L0,rfl,k0,o0,z0,b5⟩;have Xm:=Jr.trans (b5.mono s4);have s5:=Xm.size;obtain⟨P,hP⟩:∃P,Nj (A.map KV.key) now T=P:=⟨_,rfl⟩;have HP:Hid (Nj (A.map KV.key) now T=P):=hP;have AO:Hid (zb5 P):=by rw[<-hP];exact Er.zer _ _ _
 have A5:Hid (Ans w5 w4.heap.size v0 r0 L0 P):=by
  rw[hP]at k0 z0;obtain⟨β,hβ⟩:=o0.vals;exact⟨k0,o0.row,Mu.rising hβ,z0⟩
 go_wp2_with fail;refine(zaa a b off n c L w5 (HK.out.bw Xm) Xk HG.out).mono ?_;rintro e w6⟨A2,rfl,d6,k6,b6,Jk,D6,z6,r6,p6⟩;have Zl:=Xm.trans (b6.mono s5);have s6:=Zl.size;have X6:Hid (DbU w6 w5.heap.size (some ⟨w5.heap.size,0,none⟩) w5.heap.size n A2/\(∀i,i<n->(A2.getD i kv0).key=(L.getD i kv0).key)/\A2.Pairwise ApK/\∃D:Array Value,D.size=n*7/\Fc w6 w5.heap.size 47 D/\∀i,i<A2.length->∀j,j<7->D[i*7+j]?=(kvC (A2.getD i kv0))[j]?):=⟨d6,k6,Jk,D6,z6,r6,p6⟩;go_wp2_with fail;refine(Hq aa ab ao m ac T w6 (Lb HA.out Zl) Xs).mono ?_;rintro e w7⟨rfl,o7,b7,l7⟩;have Zm:=Zl.trans (b7.mono s6);have s7:=Zm.size;have X7:Hid (Fz w7 w6.heap.size (.slice (some ⟨w6.heap.size,0,none⟩) m m) T):=o7;have DI:Hid (Cp 14 #[.slice (some ⟨w5.heap.size,0,none⟩) n n,.int .i64 now,.slice (some ⟨w6.heap.size,0,none⟩) m m] w7 (Rb.Bu w7 P)):=by
  have dU:=X6.out.1.bw b7;have hl:A2.length=n:=dU.ks.len;have hz:=Rb.zs4 (some ⟨w5.heap.size,0,none⟩) w5.heap.size n n A2 now (some ⟨w6.heap.size,0,none⟩) w6.heap.size 0 m m T ad w7 dU.at (za4 hl X6.out.2.1 HG.out HF.out) (by omega) (zae o7 HA.out) (by omega) (Qc _) (Er.Ct HE.out Zm);rw[zbr DA.out.1.ks.len hl DA.out.2 X6.out.2.1,HP.out]at hz;exact hz
 have Xl:=b6.trans (b7.mono b6.size);have Ji:Hid (w6.heap.size<w7.heap.size):=l7;go_wp2_with fail;refine DI.out.mono ?_;rintro e w8⟨v1,r1,L1,rfl,k1,o1,q1,z1,b8⟩;have Yb:=Zm.trans (b8.mono s7);have s8:=Yb.size;have Jv:=b8.size;have A8:Hid (Ans w8 w7.heap.size v1 r1 L1 P):=⟨k1,o1,q1,z1⟩;have Vn:=Xl.trans (b8.mono Xl.size);go_wp2_with fail;refine(A8.out.eqk (A5.out.bel Vn) AO.out).mono ?_;rintro e w9⟨rfl,b9⟩;go_wp2_with fail;refine((A8.out.bel b9).eqr (A5.out.bel (Vn.trans (b9.mono Vn.size))) AO.out).mono ?_;rintro e Vp⟨rfl,Jt⟩;have Xg:=b9.trans (Jt.mono b9.size);have Vg:=Yb.trans (Xg.mono s8);have Yo:=Vg.size;go_wp2_with fail;refine(zaa a b off n c L Vp (HK.out.bw Vg) Xk HG.out).mono ?_;rintro e Xj⟨A3,rfl,Yc,Zv,Zk,_,_⟩;have Xr:=Xg.trans (Zk.mono Xg.size);have Xw:Hid (DbU Xj Vp.heap.size (some ⟨Vp.heap.size,0,none⟩) Vp.heap.size n A3/\∀i,i<n->(A3.getD i kv0).key=(L.getD i kv0).key):=⟨Yc,Zv⟩;have Vy:=Vg.trans (Zk.mono Yo);have Yu:=Vy.size;have Yf:Hid (Cp 31 #[.slice (some ⟨w5.heap.size,0,none⟩) n n,.slice (some ⟨Vp.heap.size,0,none⟩) n n] Xj fun e w'=>e=.returned (.bool true)/\Bl Xj w'):=by
  have q:=X6.out.1.bw ((b7.trans (b8.mono b7.size)).trans (Xr.mono (Qj b7.size b8.size)));exact za1 _ _ w5.heap.size Vp.heap.size n n n A2 A3 Xj (zbo q (Iy X6.out.2.1 HG.out)) (zbo Xw.out.1 (Iy Xw.out.2 HG.out)) (Iy X6.out.2.1 HG.out) (fun i hi=>(Xw.out.2 i hi).trans (X6.out.2.1 i hi).symm) (by omega)
 go_wp2_with fail;refine Yf.out.mono ?_;rintro e Zt⟨rfl,Zo⟩;have Zg:=Xr.trans (Zo.mono Xr.size);have Vk:=Vy.trans (Zo.mono Yu);have Yj:=Vk.size;go_wp2_with fail;refine(Hq aa ab ao m ac T Zt (Lb HA.out Vk) Xs).mono ?_;rintro e Zp⟨rfl,Yd,Zj,_⟩;have Xq:=Zg.trans (Zj.mono Zg.size);have Xc:=Vk.trans (Zj.mono Yj);have Yr:=Xc.size;have Jh:Hid (Cp 33 #[.slice (some ⟨w6.heap.size,0,none⟩) m m,.slice (some ⟨Zt.heap.size,0,none⟩) m m] Zp fun e w'=>e=.returned (.bool true)/\Bl Zp w'):=by
  have q:=Lb (zae X7.out HA.out) (b8.trans (Xq.mono b8.size));exact zcx _ _ w6.heap.size 0 Zt.heap.size 0 m m m T Zp q (zae Yd HA.out) (by omega)
 go_wp2_with fail;refine Jh.out.mono ?_;rintro e Sz⟨rfl,Zc⟩;have Vm:=Xq.trans (Zc.mono Xq.size);have Zn:=Xc.trans (Zc.mono Yr);have s14:=Zn.size;have Zy:Hid (Cp 34 #[.slice (some ⟨w5.heap.size,0,none⟩) n n,.int .i64 1] Sz fun e w'=>e=.returned (.int .i64 (Ao 1 A2:Nat))/\Below w5.heap.size Sz w'/\∀k,w6.heap.size<=k->k<Sz.heap.size->w'.heap[k]?=Sz.heap[k]?):=by
  obtain⟨dU,kA,ap,D,hD,hr,hp⟩:=X6.out;have hl:A2.length=n:=dU.ks.len;have lv:∀i,i<A2.length->VOwn w6 w5.heap.size (A2.getD i kv0).key.val (A2.getD i kv0).vi (A2.getD i kv0).vp (A2.getD i kv0).vr:=fun i hi=>dU.val i (by omega)
  have Yy:Mu w6 w5.heap.size A2:=⟨fun x hx=>by
   obtain⟨i,hi,rfl⟩:=List.getElem_of_mem hx;have:=lv i hi;rw[zab hi]at this;exact this,ap⟩
  have Jw:Nu w6 w5.heap.size (.slice (some ⟨w5.heap.size,0,none⟩) A2.length n) A2:=zd6 hr hD (by exact hp) (by omega) (by unfold maxLen;omega) (Qc _);have Vj:Bl w6 Sz:=(b7.trans (b8.mono b7.size)).trans (Vm.mono (Qj b7.size b8.size));have Jm:=b6.size;have Yq:=Vj.size;have ho:=Fw Jw Vj;rw[hl]at ho
  have hx:=zb6 w5.heap.size (fun k=>w6.heap.size<=k) (.slice (some ⟨w5.heap.size,0,none⟩) n n) A2 Sz (by show Sz.ownsRow _ _ _ _ A2.length _;rw[hl];exact ho) (Yy.bw Vj) (by omega) (by rw[hl];exact Iy kA HG.out) (by omega) (fun k hk=>by have:=(Hf Jw hk).2;omega) (fun i hi k hk=>by
   have o:=lv i hi;have:k<w6.heap.size:=by
    rcases hk with hk|hk|hk
    ·exact(Hf o.ia hk).2
    ·exact(Hf o.pj hk).2
    ·exact(Hf o.rq hk).2
   omega)
  exact hx
 have K1:Hid (Ao 1 A2<=100000000000000):=by
  have hl:A2.length=n:=X6.out.1.ks.len;have:=za0 A2 1 (by rw[hl];exact Iy X6.out.2.1 HG.out);unfold Hid;omega
 have K0:Hid (1<=Ao 1 A2):=zas A2 1;generalize Ao 1 A2=KA at*;go_wp2_with fail;refine Zy.out.mono ?_;rintro e Vq⟨rfl,Jc,Xx⟩;have Jq:Hid (Cp 35 #[.slice (some ⟨w6.heap.size,0,none⟩) m m,.int .i64 (KA:Nat)] Vq fun e w'=>e=.returned (.int .i64 (KA+m:Nat))/\Vq.grownBy w' (some w6.heap.size)):=by
  have hl:T.length=m:=HA.out.len;have Zu:Bl w7 Sz:=b8.trans (Vm.mono b8.size);have Zs:=Fw X7.out Zu;have Yn:Fz Vq w6.heap.size (.slice (some ⟨w6.heap.size,0,none⟩) m m) T:=Lt Zs fun k hk=>Xx k (Hf Zs hk).1 (Hf Zs hk).2;have hz:=zbv KA w6.heap.size _ T Vq Yn (by omega) K0.out K1.out;rw[hl]at hz;exact hz.mono fun e w' ⟨he,_,hg⟩=>⟨he,hg⟩
 have Xd:Hid (Below w5.heap.size Sz Vq/\∀k,w6.heap.size<=k->k<Sz.heap.size->Vq.heap[k]?=Sz.heap[k]?):=⟨Jc,Xx⟩;go_wp2_with fail;refine Jq.out.mono ?_;rintro e Vc⟨rfl,Xe⟩;have Vr:Hid (Bl w5 Vc/\Sz.heap.size<=Vc.heap.size/\∀k,w7.heap.size<=k->k<Sz.heap.size->Vc.heap[k]?=Sz.heap[k]?):=by
  have Jm:=b6.size;have h67:=Ji.out;have Ys:=Xd.out.1.size;have Yk:Bl w5 Sz:=Vn.trans (Vm.mono Vn.size);have Ya:=Yk.trans Xd.out.1;exact⟨Ya.grown Xe Ya.size (fun k hk=>by cases hk;exact Jm),Qj Ys Xe.size,fun k h1 h2=>(Xe.block k (by omega) (fun e=>by injection e with e;omega)).trans (Xd.out.2 k (by omega) h2)⟩
 have Vi:Hid (Bl w5 Vc/\w5.heap.size<=w7.heap.size):=⟨Vr.out.1,Xl.size⟩;have Ja:Hid (Ans Vc w4.heap.size v0 r0 L0 P):=A5.out.bel Vr.out.1;have Xy:Hid (Ans Vc w7.heap.size v1 r1 L1 P):=(A8.out.bel Vm).up Vr.out.2.2;have Vz:Bl w Vc:=Xm.trans (Vr.out.1.mono s5);have Iw:=Vz.size;have Ev:Hid (w7.heap.size<=Vc.heap.size):=Qj (Qj Jv Vm.size) Vr.out.2.1;have Yt:decide (((KA+m:Nat):Int)<0)=false:=Qf (by omega);generalize KA+m=KB at*;go_wp2_with fail;refine(Xy.out.eqk Ja.out AO.out).mono ?_;rintro e w17⟨rfl,Vu⟩;go_wp2_with fail;refine((Xy.out.bel Vu).eqr (Ja.out.bel Vu) AO.out).mono ?_;rintro e Zx⟨rfl,Jl⟩;have Xf:=Vu.trans (Jl.mono Vu.size);have Zw:Hid (Ans Zx w7.heap.size v1 r1 L1 P):=Xy.out.bel Xf;have Jz:Hid (w7.heap.size<=Zx.heap.size):=Qj Ev.out Xf.size;have Xb:=Vz.trans (Xf.mono Iw);have s18:=Xb.size;go_wp2_with fail;refine(Zw.out.markK AO.out Jz.out).mono ?_;rintro e Va⟨rfl,hH,hT,Zd,Ye⟩;have Zz:Hid (∀W:World,Va.heap.size<=W.heap.size->(∀k,BlK v1 L1 k->W.heap[k]?=Va.heap[k]?)->Cp 37 #[v1,.int .i64 1] W fun e W'=>e=.returned (.int .i64 (Ao 1 L1:Nat))/\Bl W W'):=hH;have Ju:Hid (∀k,BlK v1 L1 k->¬Er.BlR Va k/\k<Va.heap.size):=hT;have Yw:Hid (w7.heap.size<=Va.heap.size):=Qj Jz.out Zd.size;have KL:Hid (1<=Ao 1 L1/\Ao 1 L1<=200000):=by
  obtain⟨l1,f1⟩:=Zw.out.few AO.out;have:=zam f1 l1 L1.length;rw[List.take_length]at this;exact⟨zas L1 1,by omega⟩
 have Vw:Hid (∃K:Nat,Cp 36 #[r1,.int .i64 (Ao 1 L1:Nat)] Va fun e w'=>e=.returned (.int .i64 K)/\(Below w7.heap.size Va w'/\∀k,¬Er.BlR Va k->k<Va.heap.size->w'.heap[k]?=Va.heap[k]?)/\∀W,Bl w' W->Cp 38 #[r1,.int .i64 (Ao 1 L1:Nat)] W fun e W'=>e=.returned (.int .i64 K)/\Bl W W'):=Er.zcm Ye AO.out.2 Yw.out KL.out.1 KL.out.2;obtain⟨K,hM⟩:=Vw.out;generalize Ao 1 L1=KK at*;have Vw:Hid (Cp 36 #[r1,.int .i64 (KK:Nat)] Va fun e w'=>e=.returned (.int .i64 K)/\(Below w7.heap.size Va w'/\∀k,¬Er.BlR Va k->k<Va.heap.size->w'.heap[k]?=Va.heap[k]?)/\∀W,Bl w' W->Cp 38 #[r1,.int .i64 (KK:Nat)] W fun e W'=>e=.returned (.int .i64 K)/\Bl W W'):=hM;go_wp2_with fail;refine Vw.out.mono ?_;rintro e Xt⟨rfl,⟨Xi,Jf⟩,Js⟩;have Vv:Hid (∀W,Bl Xt W->Cp 37 #[v1,.int .i64 1] W fun e W'=>e=.returned (.int .i64 (KK:Nat))/\Bl W W'):=fun W hW=>Zz.out W (Qj Xi.size hW.size) fun k hk=>by
  obtain⟨q1,q2⟩:=Ju.out k hk;exact(hW.block k (Qr q2 Xi.size)).trans (Jf k q1 q2)
 have Vx:Hid (∀W,Bl Xt W->Cp 38 #[r1,.int .i64 (KK:Nat)] W fun e W'=>e=.returned (.int .i64 K)/\Bl W W'):=Js;have Jp:=Zd.trans Xi;have Vb:=Xb.trans (Jp.mono s7);have Xz:=Vb.size;have Jj:Hid (Ans Xt w4.heap.size v0 r0 L0 P):=A5.out.bel ((Vi.out.1.trans (Xf.mono Vi.out.1.size)).trans (Jp.mono Vi.out.2));have Qx:decide (((KK:Nat):Int)<0)=false:=Qf (by omega);have hn2:decide (((K:Nat):Int)<0)=false:=Qf (by omega);go_wp2_with fail;refine(Vv.out Xt (Qb _ _)).mono ?_;rintro e Ym⟨rfl,Xo⟩;go_wp2_with fail;refine(Vx.out Ym Xo).mono ?_;rintro e Ve⟨rfl,Jn⟩;have Xu:=Xo.trans (Jn.mono Xo.size);have Vd:=Vb.trans (Xu.mono Xz);have Yz:=Vd.size;go_wp2_with fail;refine(zaa a b off n c L Ve (HK.out.bw Vd) Xk HG.out).mono ?_;rintro e Xa⟨A4,rfl,Je,Jb,Zi,_,_⟩;have Zf:=Xu.trans (Zi.mono Xu.size);have Xn:Hid (DbU Xa Ve.heap.size (some ⟨Ve.heap.size,0,none⟩) Ve.heap.size n A4/\∀i,i<n->(A4.getD i kv0).key=(L.getD i kv0).key):=⟨Je,Jb⟩;have Vh:=Vd.trans (Zi.mono Yz);have Yv:=Vh.size;go_wp2_with fail;refine(Hq aa ab ao m ac T Xa (Lb HA.out Vh) Xs).mono ?_;rintro e Xp⟨rfl,Jx,Xv,_⟩;have Zq:=Zf.trans (Xv.mono Zf.size);have Vf:=Vh.trans (Xv.mono Yv);have Yl:=Vf.size;have DJ:Hid (Cp 14 #[.slice (some ⟨Ve.heap.size,0,none⟩) n n,.int .i64 now,.slice (some ⟨Xa.heap.size,0,none⟩) m m] Xp (Rb.Bu Xp P)):=by
  have dU:=Xn.out.1.bw Xv;have hl:A4.length=n:=dU.ks.len;have hz:=Rb.zs4 (some ⟨Ve.heap.size,0,none⟩) Ve.heap.size n n A4 now (some ⟨Xa.heap.size,0,none⟩) Xa.heap.size 0 m m T ad Xp dU.at (za4 hl Xn.out.2 HG.out HF.out) (by omega) (zae Jx HA.out) (by omega) (Qc _) (Er.Ct HE.out Vf);rw[zbr DA.out.1.ks.len hl DA.out.2 Xn.out.2,HP.out]at hz;exact hz
 go_wp2_with fail;refine DJ.out.mono ?_;rintro e Yx⟨v2,r2,L2,rfl,k2,o2,q2,z2,Zb⟩;have Vo:=Zq.trans (Zb.mono Zq.size);have Jy:Hid (Ans Yx Xp.heap.size v2 r2 L2 P):=⟨k2,o2,q2,z2⟩;have Za:=Vf.trans (Zb.mono Yl);have s25:=Za.size;go_wp2_with fail;refine(Jy.out.eqk (Jj.out.bel Vo) AO.out).mono ?_;rintro e w26⟨rfl,Vt⟩;go_wp2_with fail;refine((Jy.out.bel Vt).eqr (Jj.out.bel (Vo.trans (Vt.mono Vo.size))) AO.out).mono ?_;rintro e Yg⟨rfl,Jd⟩;have Vs:=Vo.trans ((Vt.trans (Jd.mono Vt.size)).mono Vo.size);have Ze:Bl w Yg:=Vb.trans (Vs.mono Xz);have s27:=Ze.size;go_wp2_with fail;refine(Vv.out Yg Vs).mono ?_;rintro e Yp⟨rfl,Jo⟩;have Xh:=Vs.trans (Jo.mono Vs.size);go_wp2_with fail;refine(Vx.out Yp Xh).mono ?_;rintro e Ix⟨rfl,Jg⟩;have HZ:=Vb.trans ((Xh.trans (Jg.mono Xh.size)).mono Xz);go_wp2;go_ret;exact⟨rfl,HZ⟩
open Go.ChangeShapes Go.WideShapes Go.ChangeAt Go.WideMaps Go.WideElems Go.RowKit Go.Deep
open Kk (Rk rk0 F7 Dp Md Mn)
theorem zes:prog.cellsOf 2=1:=by kernel_rfl
theorem zdm:prog.cellsOf 9=1:=by kernel_rfl
theorem zew:prog.cellsOf 25=1:=by kernel_rfl
theorem zey:prog.cellsOf 94=1:=by kernel_rfl
theorem zex:prog.cellsOf 95=1:=by kernel_rfl
theorem ze1:prog.cellsOf 97=5:=by kernel_rfl
theorem ze2:prog.cellsOf 99=7:=by kernel_rfl
theorem zen:prog.cellsOf 248=2:=by kernel_rfl
theorem zeq:prog.cellsOf 250=2:=by kernel_rfl
theorem zda{enc:TypeId×Value->H}{P:Program}{f3 f4:Field}{x:DataW H×List MemPlace}(ht:P.underlying t=some (.struct #[f0,f1,f2,f3,f4]))(h:DataW.trod enc P w base spare held fuel t cs=some x):
  ∃y0 y1 y2 y3 y4 n,DataW.trod enc P w base spare held n f0.type ((cs.drop f0.offset).take (P.cellsOf f0.type))=some y0/\
   DataW.trod enc P w base spare held n f1.type ((cs.drop f1.offset).take (P.cellsOf f1.type))=some y1/\DataW.trod enc P w base spare held n f2.type ((cs.drop f2.offset).take (P.cellsOf f2.type))=some y2/\
   DataW.trod enc P w base spare held n f3.type ((cs.drop f3.offset).take (P.cellsOf f3.type))=some y3/\DataW.trod enc P w base spare held n f4.type ((cs.drop f4.offset).take (P.cellsOf f4.type))=some y4:=by
 obtain⟨xs,n,_,rfl,hl,Sz,hf⟩:=DataW.trod_struct ht h;match xs,Sz with
 |[y0,y1,y2,y3,y4],_=>exact⟨y0,y1,y2,y3,y4,n,by simpa using hf 0 f0 rfl,by simpa using hf 1 f1 rfl,by simpa using hf 2 f2 rfl,by simpa using hf 3 f3 rfl,by simpa using hf 4 f4 rfl⟩
theorem zcq{enc:TypeId×Value->H}{P:Program}{x:DataW H×List MemPlace}(ht:P.underlying t=some (.struct #[f0,f1,f2]))(h:DataW.trod enc P w base spare held fuel t cs=some x):
  ∃y0 y1 y2 n,DataW.trod enc P w base spare held n f0.type ((cs.drop f0.offset).take (P.cellsOf f0.type))=some y0/\
   DataW.trod enc P w base spare held n f1.type ((cs.drop f1.offset).take (P.cellsOf f1.type))=some y1/\DataW.trod enc P w base spare held n f2.type ((cs.drop f2.offset).take (P.cellsOf f2.type))=some y2:=by
 obtain⟨xs,n,_,rfl,hl,Sz,hf⟩:=DataW.trod_struct ht h;match xs,Sz with
 |[y0,y1,y2],_=>exact⟨y0,y1,y2,n,by simpa using hf 0 f0 rfl,by simpa using hf 1 f1 rfl,by simpa using hf 2 f2 rfl⟩
theorem zbz{enc:TypeId×Value->H}{P:Program}{x:DataW H×List MemPlace}(ht:P.underlying t=some (.struct #[f0,f1]))(h:DataW.trod enc P w base spare held fuel t cs=some x):
  ∃y0 y1 n,DataW.trod enc P w base spare held n f0.type ((cs.drop f0.offset).take (P.cellsOf f0.type))=some y0/\
   DataW.trod enc P w base spare held n f1.type ((cs.drop f1.offset).take (P.cellsOf f1.type))=some y1:=by
 obtain⟨xs,n,_,rfl,hl,Sz,hf⟩:=DataW.trod_struct ht h;match xs,Sz with
 |[y0,y1],_=>exact⟨y0,y1,n,by simpa using hf 0 f0 rfl,by simpa using hf 1 f1 rfl⟩
theorem zaf{enc:TypeId×Value->H}{e:TypeId}{k:Nat}{y:DataW H×List MemPlace}(ht:prog.underlying t=some (.slice e))(hc:prog.cellsOf e=k)(hk:0<k)
 (hf:DataW.trod enc prog W 0 (fun _=>true) true fuel t [v]=some y):
  ∃a b off n c,v=.slice a n c/\(0<n->a=some ⟨b,off,none⟩)/\(0<n->b<W.heap.size)/\n<=9223372036854775807/\
   ∀i,i<n->∃cs q z,cs.length=k/\(∀j,j<k->W.cell? ⟨b,off+i*k+j,none⟩=cs[j]?)/\DataW.trod enc prog W 0 (fun _=>true) true q e cs=some z:=by
 rcases open_slice ht hf with⟨hcs,_⟩|⟨x,l,c,m,q,D,Pl,hcs,_,hl,hm,hmm,_,hx⟩
 ·simp at hcs;exact⟨none,0,0,0,0,hcs,fun h=>by omega,fun h=>by omega,by omega,fun i hi=>by omega⟩
 ·simp at hcs;simp only[if_true]at hmm;rw[hmm]at hx;have Vd:c<=9223372036854775807:=by simpa[maxLen]using hm
  by_cases h0:l=0
  ·subst h0;exact⟨some x,0,0,0,c,hcs,fun h=>by omega,fun h=>by omega,by omega,fun i hi=>by omega⟩
  ·obtain⟨xb,xo,Vb⟩:=x;rw[hc]at hx;have Sz:Vb=none:=by
    obtain⟨Vc,h1,_⟩:=hx 0 (by omega);obtain⟨_,h2,h3⟩:=World.cells?_some h1;have:=h3 0 (by omega);rw[Qd (by omega)]at this;simpa[Addr.add]using World.cell?_spot this
   subst Sz;have Va:∀i,i<l->∃cs q z,cs.length=k/\(∀j,j<k->W.cell? ⟨xb,xo+i*k+j,none⟩=cs[j]?)/\DataW.trod enc prog W 0 (fun _=>true) true q e cs=some z:=fun i hi=>by
    obtain⟨Vc,h1,h2⟩:=hx i (by omega);obtain⟨_,h3,h4⟩:=World.cells?_some h1;exact⟨Vc,q,_,h3,fun j hj=>by rw[<-h4 j hj,Addr.add_lit,Addr.add_lit],h2⟩
   refine⟨some ⟨xb,xo,none⟩,xb,xo,l,c,hcs,fun _=>rfl,fun _=>?_,by omega,Va⟩;obtain⟨cs,_,_,h1,h2,_⟩:=Va 0 (by omega);have:=h2 0 hk;rw[Qd (by omega)]at this;exact block_lt_of_cell this
theorem getD_map{α:Type}(n:Nat)(f:Nat->α)(d:α)(i:Nat)(hi:i<n):((List.range n).map f).getD i d=f i:=by
 simp[List.getD,hi]
theorem za6{enc:TypeId×Value->H}{y:DataW H×List MemPlace}
 (hf:DataW.trod enc prog W 0 (fun _=>true) true fuel 95 [v]=some y):
  ∃(L:List Rk),(∃a b off c,v=.slice a L.length c/\F7 W a b off L.length L)/\L.length<=9223372036854775807/\Md L/\∀i,i<L.length->(L.getD i rk0).m.size<=9223372036854775807:=by
 obtain⟨a,b,off,n,c,hv,ha,hb,hn,hx⟩:=zaf underlying95 zeq (by omega) hf;have Vb:∀i,i<n->∃y:Rk,Dp W b (off+i*2) y/\Mn y.s/\y.m.size<=9223372036854775807:=fun i hi=>by
  obtain⟨cs,q,z,h3,h4,h2⟩:=hx i hi;obtain⟨y0,y1,q,t0,t1⟩:=zbz underlying250 h2;match cs,h3,h4,t0,t1 with
  |[v0,v1],_,h4,t0,t1=>
   simp only[zdm,zes]at t0 t1;obtain⟨s0,e0,_,Vc⟩:=DataW.trod_string underlying9 t0;obtain⟨n1,e1,_,f1⟩:=DataW.trod_int underlying2 t1;simp at e0 e1;subst e0 e1;exact⟨⟨s0,n1⟩,⟨h4 0 (by omega),h4 1 (by omega)⟩,bounds_i64 f1,by simpa[maxLen]using Vc⟩
 obtain⟨f,Va⟩:=@choose_lt Rk ⟨rk0⟩ n _ Vb;have Sz:((List.range n).map f).length=n:=by simp
 refine⟨(List.range n).map f,⟨a,b,off,c,by rw[Sz];exact hv,⟨rfl,fun h=>ha (by rw[Sz]at h;exact h),fun h=>hb (by rw[Sz]at h;exact h),fun i hi=>?_⟩⟩,by rw[Sz];exact hn,fun y hy=>?_,fun i hi=>?_⟩
 ·rw[Sz]at hi;rw[getD_map n f rk0 i hi];exact(Va i hi).1
 ·obtain⟨i,hi,rfl⟩:=List.mem_map.1 hy;exact(Va i (List.mem_range.1 hi)).2.1
 ·rw[Sz]at hi;rw[getD_map n f rk0 i hi];exact(Va i hi).2.2
theorem za7{enc:TypeId×Value->H}{y:DataW H×List MemPlace}
 (hf:DataW.trod enc prog W 0 (fun _=>true) true fuel 94 [v]=some y):
  ∃(L:List Pr),(∃a b off c,v=.slice a L.length c/\zan W a b off L.length L)/\L.length<=9223372036854775807/\∀i,i<L.length->(L.getD i (bz,bz)).1.size<=9223372036854775807/\(L.getD i (bz,bz)).2.size<=9223372036854775807:=by
 obtain⟨a,b,off,n,c,hv,ha,hb,hn,hx⟩:=zaf underlying94 zen (by omega) hf;have Vb:∀i,i<n->∃y:Pr,(W.cell? ⟨b,off+i*2,none⟩=some (.string y.1)/\W.cell? ⟨b,off+i*2+1,none⟩=some (.string y.2))/\y.1.size<=9223372036854775807/\y.2.size<=9223372036854775807:=fun i hi=>by
  obtain⟨cs,q,z,h3,h4,h2⟩:=hx i hi;obtain⟨y0,y1,q,t0,t1⟩:=zbz underlying248 h2;match cs,h3,h4,t0,t1 with
  |[v0,v1],_,h4,t0,t1=>
   simp only[zdm]at t0 t1;obtain⟨s0,e0,_,Vc⟩:=DataW.trod_string underlying9 t0;obtain⟨s1,e1,_,Vd⟩:=DataW.trod_string underlying9 t1;simp at e0 e1;subst e0 e1;exact⟨(s0,s1),⟨h4 0 (by omega),h4 1 (by omega)⟩,by simpa[maxLen]using Vc,by simpa[maxLen]using Vd⟩
 obtain⟨f,Va⟩:=@choose_lt Pr ⟨(bz,bz)⟩ n _ Vb;have Sz:((List.range n).map f).length=n:=by simp
 refine⟨(List.range n).map f,⟨a,b,off,c,by rw[Sz];exact hv,⟨rfl,fun h=>ha (by rw[Sz]at h;exact h),fun h=>hb (by rw[Sz]at h;exact h),fun i hi=>?_,fun i hi=>?_⟩⟩,by rw[Sz];exact hn,fun i hi=>?_⟩
 ·rw[Sz]at hi;rw[getD_map n f (bz,bz) i hi];exact(Va i hi).1.1
 ·rw[Sz]at hi;rw[getD_map n f (bz,bz) i hi];exact(Va i hi).1.2
 ·rw[Sz]at hi;rw[getD_map n f (bz,bz) i hi];exact(Va i hi).2
theorem strs_of_read{enc:TypeId×Value->H}{y:DataW H×List MemPlace}
 (hf:DataW.trod enc prog W 0 (fun _=>true) true fuel 25 [v]=some y):
  ∃p b off k,∃ss:List ByteArray,v=.slice p ss.length k/\Fs W p b off ss.length ss/\ss.length<=9223372036854775807:=by
 rcases open_strs underlying25 underlying9 zdm hf with⟨hcs,_⟩|⟨a,l,c,m,Sx,hcs,_,hl,hm,hmm,_,hx⟩
 ·simp at hcs;exact⟨none,0,0,0,[],hcs,⟨rfl,fun h=>by simp at h,fun h=>by simp at h,fun i hi=>by simp at hi,fun i hi=>by simp at hi⟩,by simp⟩
 ·simp at hcs;simp only[if_true]at hmm;have Vd:c<=9223372036854775807:=by simpa[maxLen]using hm
  have Sz:((List.range l).map Sx).length=l:=by simp
  have Vb:∀i,i<l->((List.range l).map Sx).getD i ByteArray.empty=Sx i:=fun i hi=>by simp[List.getD,hi]
  by_cases h0:l=0
  ·subst h0;exact⟨some a,0,0,c,[],hcs,⟨rfl,fun h=>by simp at h,fun h=>by simp at h,fun i hi=>by simp at hi,fun i hi=>by simp at hi⟩,by simp⟩
  ·obtain⟨ab,ao,Vc⟩:=a;have Va:Vc=none:=by simpa[Addr.add]using World.cell?_spot (hx 0 (by omega)).1
   subst Va;have hc:∀i,i<l->W.cell? ⟨ab,ao+i,none⟩=some (.string (Sx i)):=fun i hi=>by
    rw[<-(hx i (by omega)).1,Addr.add_lit]
   refine⟨some ⟨ab,ao,none⟩,ab,ao,c,(List.range l).map Sx,by rw[Sz];exact hcs,⟨rfl,fun _=>rfl,fun _=>block_lt_of_cell (hc 0 (by omega)),fun i hi=>?_,fun i hi=>?_⟩,by rw[Sz];omega⟩
   ·rw[Sz]at hi;rw[Vb i hi];exact hc i hi
   ·rw[Sz]at hi;rw[Vb i hi];simpa[maxLen]using(hx i (by omega)).2
theorem za8{enc:TypeId×Value->H}{c0 c1 c2 c3 c4:Value}{y:DataW H×List MemPlace}
 (hf:DataW.trod enc prog W 0 (fun _=>true) true fuel 97 [c0,c1,c2,c3,c4]=some y):
  ∃v:Vl,c0=.int .i64 v.kind/\c1=.string v.text/\VIn W v c2 c3 c4/\zeo v/\Md v.rq:=by
 obtain⟨y0,y1,y2,y3,y4,n,t0,t1,t2,t3,t4⟩:=zda underlying97 hf;simp only[zes,zdm,zew,zey,zex]at t0 t1 t2 t3 t4;obtain⟨k,e0,_,_⟩:=DataW.trod_int underlying2 t0;obtain⟨s,e1,_,hs⟩:=DataW.trod_string underlying9 t1;simp at e0 e1 t2 t3 t4;obtain⟨a,b,off,c,is,h1,h2,h3⟩:=strs_of_read t2;obtain⟨ps,hp,Vd,Va⟩:=za7 t3;obtain⟨rs,hr,Vc,Vb,Sz⟩:=za6 t4;exact⟨⟨k,s,is,ps,rs⟩,e0,e1,⟨⟨a,b,off,c,h1,h2⟩,hp,hr⟩,⟨by simpa[maxLen]using hs,h3,Vd,Vc,Va,Sz⟩,Vb⟩
theorem keys_of_read{enc:TypeId×Value->H}{y:DataW H×List MemPlace}
 (hf:DataW.trod enc prog W 0 (fun _=>true) true fuel 51 [v]=some y):
  ∃(a:Option Addr) (n c:Nat) (L:List KV),v=.slice a n c/\(∃b off,Ir W a b off n L)/\n<=9223372036854775807/\(∀i,i<n->zci (L.getD i kv0).key)/\∀i,i<n->Md (L.getD i kv0).key.val.rq:=by
 obtain⟨a,b,off,n,c,hv,ha,hb,hn,hx⟩:=zaf underlying51 ze2 (by omega) hf;have Vb:∀i,i<n->∃y:KV,Ck W b (off+i*7) y/\VIn W y.key.val y.vi y.vp y.vr/\zci y.key/\Md y.key.val.rq:=fun i hi=>by
  obtain⟨cs,q,z,h3,h4,h2⟩:=hx i hi;obtain⟨y0,y1,y2,q,t0,t1,t2⟩:=zcq underlying99 h2;match cs,h3,h4,t0,t1,t2 with
  |[v0,v1,v2,v3,v4,v5,v6],_,h4,t0,t1,t2=>
   simp only[zdm,zes,ze1]at t0 t1 t2;obtain⟨s0,e0,_,Vc⟩:=DataW.trod_string underlying9 t0;obtain⟨d,e2,_,_⟩:=DataW.trod_int underlying2 t2;simp at e0 e2 t1;obtain⟨vl,k0,k1,Ve,Vd,Vf⟩:=za8 t1;subst e0 e2 k0 k1;exact⟨⟨⟨s0,vl,d⟩,v3,v4,v5⟩,⟨h4 0 (by omega),h4 1 (by omega),h4 2 (by omega),h4 3 (by omega),h4 4 (by omega),h4 5 (by omega),h4 6 (by omega)⟩,Ve,⟨by simpa[maxLen]using Vc,Vd⟩,Vf⟩
 obtain⟨f,Sz⟩:=@choose_lt KV ⟨kv0⟩ n _ Vb;have Va:((List.range n).map f).length=n:=by simp
 refine⟨a,n,c,(List.range n).map f,hv,⟨b,off,Va,ha,hb,fun i hi=>?_,fun i hi=>?_⟩,hn,fun i hi=>?_,fun i hi=>?_⟩
 ·rw[getD_map n f kv0 i hi];exact(Sz i hi).1
 ·rw[getD_map n f kv0 i hi];exact(Sz i hi).2.1
 ·rw[getD_map n f kv0 i hi];exact(Sz i hi).2.2.1
 ·rw[getD_map n f kv0 i hi];exact(Sz i hi).2.2.2
end Go.Proofs.YtokafonppgppdaaGreatDoor

