import Derived.Test.YtokafonppgppdaaGreatDoorC13
set_option maxHeartbeats 8000000
set_option maxRecDepth 100000
namespace Go.Proofs.YtokafonppgppdaaGreatDoor
section
open Tryz
open Go.RowKit Go.Sort
variable {w w':World} {a:Option Addr} {n B rb:Nat} {C:Array Value}
structure BytesIn (w:World) (a:Option Addr) (n:Nat) (B:Nat):Prop where
 cell:0<n->∃b o,a=some ⟨b,o,none⟩/\b<B/\∀i,i<n->∃x:Nat,x<256/\w.cell? ⟨b,o+i,none⟩=some (.int .u8 x)
theorem BytesIn.bw(h:BytesIn w a n B)(hb:Below B w w'):BytesIn w' a n B:=
 ⟨fun hn=>by
  obtain⟨b,o,ha,hB,hc⟩:=h.cell hn
  exact⟨b,o,ha,hB,fun i hi=>by
   obtain⟨x,hx,hw⟩:=hc i hi;exact⟨x,hx,(hb.cell (p:=⟨b,o+i,none⟩) hB).trans hw⟩⟩⟩
structure Rd (w:World) (rb:Nat) (a:Option Addr) (n c:Nat):Prop where
 row:∃p:Nat,p<=n/\Fc w rb 108 #[.slice a n c,.int .i64 p]
 fit:n<=9223372036854775807
 bytes:BytesIn w a n rb
theorem Rd.bw{c:Nat}(h:Rd w rb a n c)(hb:Below B w w')(hB:rb<B):Rd w' rb a n c:=by
 obtain⟨p,hp,hr⟩:=h.row;exact⟨⟨p,hp,hr.bw hb hB⟩,h.fit,h.bytes.bw (hb.mono (by omega))⟩
def NumEnd (lo hi:Int) (w:World) (rb:Nat) (a:Option Addr) (n c:Nat) (e:Ending) (w':World):Prop:=
 ∃k:Int,e= .returned (.int .i64 k)/\lo<=k/\k<=hi/\Rd w' rb a n c/\w.grownBy w' (some rb)
section
variable (rb:Nat) (a:Option Addr) (n c:Nat)
theorem Bj(w:World)(h:Rd w rb a n c):
  Calls prog 82 #[.pointer (some ⟨rb,0,none⟩)] w (NumEnd 0 255 w rb a n c):=by
 obtain⟨p,hp,hr⟩:=h.row;have Gg:=h.fit;have c0:=hr.cell 0;have c1:=hr.cell 1;simp at c0 c1;by_cases hpn:p=n
 ·have hd:decide ((n:Int)<=(p:Int))=true:=by simp;omega
  have HR:=hid h;clear hr h;subst hpn;go_enter func82,ntmps82;go_wp2;go_quiet ((fail));go_wp2;go_ret;refine⟨0,rfl,by omega,by omega,HR.out.bw (B:=rb+1) (below_drewN (Qb _ _) _) (by omega),U0 _ _ _⟩
 ·have Ge:p<n:=by omega
  have hd:decide ((n:Int)<=(p:Int))=false:=by simp;omega
  obtain⟨b,o,ha,hB,hc⟩:=h.bytes.cell (by omega);obtain⟨x,hx,Gb⟩:=hc p Ge;have Gd:b≠rb:=by omega
  have fz:=hr.frozen 1;have HR:=hid hr;have HB:=hid h;clear hr h hc;subst ha;go_enter func82,ntmps82;go_wp2;go_quiet ((fail));go_wp2;have Ga:Fc ((w.drewN nq).setCell ⟨rb,1,none⟩ (Value.int IntKind.i64 (↑p+1))) rb 108 #[.slice (some ⟨b,o,none⟩) n c,.int .i64 (p+1)]:=by
   have:=(HR.out.bw (B:=rb+1) (below_drewN (Qb _ w) nq) (by omega)).set 1 (Value.int IntKind.i64 (↑p+1));simpa using this
  have Gf:w.grownBy ((w.drewN nq).setCell ⟨rb,1,none⟩ (Value.int IntKind.i64 (↑p+1))) (some rb):=G4 (U0 w nq _) (zzx _ rb 1 _);have Gc:Below rb w ((w.drewN nq).setCell ⟨rb,1,none⟩ (Value.int IntKind.i64 (↑p+1))):=(below_drewN (Qb _ w) nq).setCell (p:=⟨rb,1,none⟩) (Qc _) _;generalize(w.drewN nq).setCell ⟨rb,1,none⟩ (Value.int IntKind.i64 (↑p+1))=w2 at*;have d0:=Ga.cell 0;have d1:=Ga.cell 1;simp at d0 d1;have dx:=(Gc.cell (p:=⟨b,o+p,none⟩) hB).trans Gb;have HX:=hid Ga;clear Ga c0 c1 Gb fz;go_quiet ((fail));go_wp2;go_ret;refine⟨x,rfl,by omega,by omega,⟨⟨p+1,by omega,?_⟩,HB.out.fit,?_⟩,G4 Gf (U0 _ _ _)⟩
  ·exact HX.out.bw (B:=rb+1) (below_drewN (Qb _ _) _) (by omega)
  ·exact HB.out.bytes.bw (below_drewN Gc _)
theorem Ww(m:Int)(w:World)(h:Rd w rb a n c)(hm:1<m)(hm2:m<=65536):
  Calls prog 41 #[.pointer (some ⟨rb,0,none⟩),.int .i64 m] w (NumEnd 0 (m-1) w rb a n c):=by
 by_cases h256:m<=256
 ·go_enter func41,ntmps41;go_wp2_with fail;refine(Bj rb a n c w h).mono ?_;rintro e w1⟨k,rfl,k0,k1,r1,b1⟩;have e1:Int.tmod k m=k%m:=Int.tmod_eq_emod_of_nonneg k0;have e2:=Int.emod_nonneg k (b:=m) (by omega);have e3:=Int.emod_lt_of_pos k (b:=m) (by omega);go_wp2;go_ret;exact⟨_,rfl,by omega,by omega,r1,b1⟩
 ·go_enter func41,ntmps41;go_wp2_with fail;refine(Bj rb a n c w h).mono ?_;rintro e w1⟨k,rfl,k0,k1,r1,b1⟩;go_wp2_with fail;refine(Bj rb a n c w1 r1).mono ?_;rintro e w2⟨j,rfl,j0,j1,r2,b2⟩;have e2:=Int.emod_nonneg (k*256+j) (b:=m) (by omega);have e3:=Int.emod_lt_of_pos (k*256+j) (b:=m) (by omega);go_wp2;go_ret;exact⟨_,rfl,by omega,by omega,r2,G4 b1 b2⟩
end
theorem yeb(a:Option Addr)(n c:Nat)(w:World)(hn:n<=9223372036854775807)(hb:BytesIn w a n w.heap.size):
  Calls prog 39 #[.slice a n c] w fun e w'=>e=.returned (.pointer (some ⟨w.heap.size,0,none⟩))/\Rd w' w.heap.size a n c/\Bl w w':=by
 go_enter func39,ntmps39;go_wp2;go_ret;have Ga:Bl w (w.alloc (.cells #[Value.slice a n c,Value.int IntKind.i64 0] 108)):=(Qb _ w).alloc (Qc _) _;exact⟨rfl,⟨⟨0,by omega,Fc.new w 108 _⟩,hn,hb.bw Ga⟩,Ga⟩
theorem ya2(rb:Nat)(w:World):Calls prog 41 #[.pointer (some ⟨rb,0,none⟩),.int .i64 1] w fun e w'=>e=.returned (.int .i64 0)/\w'=w:=by
 go_enter func41,ntmps41;go_wp2;go_ret;exact⟨rfl,rfl⟩
theorem Mb(rb:Nat)(a:Option Addr)(n c k:Nat)(w:World)(h:Rd w rb a n c)(h0:0<k)(hk:k<=65536):
  Calls prog 41 #[.pointer (some ⟨rb,0,none⟩),.int .i64 k] w fun e w'=>∃j:Nat,e=.returned (.int .i64 j)/\j<k/\Rd w' rb a n c/\w.grownBy w' (some rb):=by
 by_cases h1:k=1
 ·subst h1;exact(ya2 rb w).mono fun e w' ⟨he,hw⟩=>⟨0,by rw[he];rfl,by omega,by rw[hw];exact h,by rw[hw];exact Nl _ _⟩
 ·exact(Ww rb a n c k w h (by omega) (by omega)).mono fun e w' ⟨z,he,z0,z1,hr,hg⟩=>⟨z.toNat,by rw[he,Int.toNat_of_nonneg z0],by omega,hr,hg⟩
def A7 (w:World) (rb:Nat) (a:Option Addr) (n c:Nat) (e:Ending) (w':World):Prop:=
 ∃s:ByteArray,e= .returned (.string s)/\s.size<=20/\Rd w' rb a n c/\w.grownBy w' (some rb)
theorem Nc{W W':World}{q:Nat}{T:TypeId}(h:Fc W q T C)(g:W.grownBy W' (some rb))(hq:q≠rb):Fc W' q T C:=(g.block q h.lt (fun e=>hq (Option.some.inj e))).trans h
def Oz (C:Array Value):Prop:=∀j,j<C.size->∃s:ByteArray,C[j]?=some (.string s)/\s.size<=20
def yh2 (l:List ByteArray):Bool:=l.all fun s=>decide (s.size<=20)
theorem O8(l:List ByteArray)(h:yh2 l=true):Oz (l.map Value.string).toArray:=fun j hj=>by
 have Ga:j<l.length:=by simpa using hj
 refine⟨l[j],?_,?_⟩
 ·simp[Ga]
 ·exact Qg (Qw.1 h _ (Qv Ga))
theorem Oi(h:Fc w B 9 C)(hC:Oz C)(j:Nat)(hj:j<C.size):∃s:ByteArray,w.cell? ⟨B,j,none⟩=some (.string s)/\s.size<=20:=by
 obtain⟨s,h1,h2⟩:=hC j hj;exact⟨s,(h.cell j).trans h1,h2⟩
theorem Bh(rb:Nat)(a:Option Addr)(n c:Nat)(w:World)(h:Rd w rb a n c)(hrb:rb<w.heap.size):
  Calls prog 84 #[.pointer (some ⟨rb,0,none⟩)] w (A7 w rb a n c):=by
 have hl:=Fc.new w 9 #[.string ⟨#[97]⟩,.string ⟨#[98]⟩,.string ⟨#[]⟩,.string ⟨#[49,48]⟩,.string ⟨#[97,98,99]⟩,.string ⟨#[120,32,121]⟩,.string ⟨#[45,55]⟩,.string ⟨#[13,10]⟩];have hb:Bl w (w.alloc (.cells #[.string ⟨#[97]⟩,.string ⟨#[98]⟩,.string ⟨#[]⟩,.string ⟨#[49,48]⟩,.string ⟨#[97,98,99]⟩,.string ⟨#[120,32,121]⟩,.string ⟨#[45,55]⟩,.string ⟨#[13,10]⟩] 9)):=(Qb _ w).alloc (Qc _) _;have hs:=O8 [⟨#[97]⟩,⟨#[98]⟩,⟨#[]⟩,⟨#[49,48]⟩,⟨#[97,98,99]⟩,⟨#[120,32,121]⟩,⟨#[45,55]⟩,⟨#[13,10]⟩] (by decide);go_enter func84,ntmps84;go_wp2_with fail;generalize w.alloc (.cells #[.string ⟨#[97]⟩,.string ⟨#[98]⟩,.string ⟨#[]⟩,.string ⟨#[49,48]⟩,.string ⟨#[97,98,99]⟩,.string ⟨#[120,32,121]⟩,.string ⟨#[45,55]⟩,.string ⟨#[13,10]⟩] 9)=w1 at*;refine(Mb rb a n c 8 w1 (h.bw hb hrb) (by omega) (by omega)).mono ?_;rintro e w2⟨j,rfl,hj,r2,g2⟩;have gg:=G4 (Ly (Nl w _) hb) g2;obtain⟨s,hc,hz⟩:=Oi (Nc hl g2 (by omega)) hs j (by simpa using hj);have j0:(0:Int)<=(j:Int):=by omega
 have j1:(j:Int)<8:=by omega
 clear hl hb hs g2;go_wp2;go_ret;exact⟨s,rfl,hz,r2,gg⟩
theorem Ld{k:Nat}(h:k<w.heap.size)(g:w.grownBy w' (some rb)):k<w'.heap.size:=by have:=g.size;omega
theorem Pd(rb:Nat)(a:Option Addr)(n c k:Nat)(w:World)(h:Rd w rb a n c)(h0:0<k)(hk:k<=65536):
  Calls prog 42 #[.pointer (some ⟨rb,0,none⟩),.int .i64 k] w fun e w'=>∃b:Bool,e=.returned (.bool b)/\Rd w' rb a n c/\w.grownBy w' (some rb):=by
 go_enter func42,ntmps42;go_wp2_with fail;refine(Mb rb a n c k w h h0 hk).mono ?_;rintro e w1⟨j,rfl,hj,r1,g1⟩;go_wp2;go_ret;exact⟨_,rfl,r1,g1⟩
theorem yc1(x y:Int):0<=bits BinOp.or IntKind.u64 x y/\bits BinOp.or IntKind.u64 x y<=18446744073709551615:=
 bounds_u64 (wf_bits BinOp.or IntKind.u64 x y)
theorem Dn(rb:Nat)(a:Option Addr)(n c:Nat)(w:World)(h:Rd w rb a n c):
  Calls prog 122 #[.pointer (some ⟨rb,0,none⟩)] w fun e w'=>∃x:Int,e=.returned (.int .u64 x)/\0<=x/\x<=18446744073709551615/\Rd w' rb a n c/\w.grownBy w' (some rb):=by
 go_enter func122,ntmps122;go_wp2;go_loopw [3,4] (fun v i wr=>∃(k:Nat) (x:Int),k<=8/\i=.int .i64 k/\v=.int .u64 x/\0<=x/\x<=18446744073709551615/\Rd wr rb a n c/\w.grownBy wr (some rb)) (fun _ i _=>8-(intOf i).toNat)
 case atStart=>exact⟨0,0,by omega,rfl,rfl,by omega,by omega,h,Nl _ _⟩
 case round=>
  obtain⟨k,x,hk,rfl,rfl,x0,x1,rd,gr⟩:=hrel;by_cases hlt:k<8
  ·go_wp2_with fail;refine(Bj rb a n c wr rd).mono ?_;rintro e w1⟨y,rfl,y0,y1,r1,g1⟩;have Ga:=yc1 (IntKind.u64.wrap (x*256)) y;go_wp2;go_roundw
   case rel=>exact⟨k+1,_,by omega,by go_num,rfl,Ga.1,Ga.2,r1,G4 gr g1⟩
   case measure=>simp[intOf];omega
  ·go_wp2;go_ret;exact⟨x,rfl,x0,x1,rd,gr⟩
end
namespace Hp
open Tryz
open Go.RowKit Go.Sort
section
variable (rb:Nat) (a:Option Addr) (n c:Nat)
theorem Pd(m:Int)(w:World)(h:Rd w rb a n c)(hm:1<m)(hm2:m<=65536):
  Calls prog 42 #[.pointer (some ⟨rb,0,none⟩),.int .i64 m] w fun e w'=>∃b:Bool,e=.returned (.bool b)/\Rd w' rb a n c/\w.grownBy w' (some rb):=by
 go_enter func42,ntmps42;go_wp2_with fail;refine(Ww rb a n c m w h hm hm2).mono ?_;rintro e w1⟨k,rfl,k0,k1,r1,b1⟩;go_wp2;go_ret;exact⟨_,rfl,r1,b1⟩
theorem Dn(w:World)(h:Rd w rb a n c):
  Calls prog 122 #[.pointer (some ⟨rb,0,none⟩)] w fun e w'=>∃z:Nat,e=.returned (.int .u64 z)/\z<18446744073709551616/\Rd w' rb a n c/\w.grownBy w' (some rb):=by
 go_enter func122,ntmps122;go_wp2;go_loopw [3,4] (fun x i wr=>∃(z j:Nat),x=.int .u64 z/\z<18446744073709551616/\j<=8/\i=.int .i64 j/\Rd wr rb a n c/\w.grownBy wr (some rb)) (fun _ i _=>8-(intOf i).toNat)
 case atStart=>exact⟨0,0,rfl,by omega,by omega,rfl,h,Nl _ _⟩
 case round=>
  obtain⟨z,j,rfl,hz,hj,rfl,r1,b1⟩:=hrel;by_cases hlt:j<8
  ·go_wp2_with fail;refine(Bj rb a n c _ r1).mono ?_;rintro e w1⟨k,rfl,k0,k1,r2,b2⟩;go_wp2;obtain⟨q0,q1⟩:=bounds_u64 (wf_bits .or .u64 (IntKind.u64.wrap (↑z*256)) k);obtain⟨y,hy⟩:∃y:Nat,bits BinOp.or IntKind.u64 (IntKind.u64.wrap (↑z*256)) k=y:=⟨_,(Int.toNat_of_nonneg q0).symm⟩;rw[hy]at q1 ⊢;refine⟨⟨y,j+1,rfl,by omega,by omega,by go_num,r2,G4 b1 b2⟩,by simp[intOf];omega⟩
  ·go_wp2;go_ret;exact⟨z,rfl,hz,r1,b1⟩
theorem Ao(lo hi:Int)(w:World)(h:Rd w rb a n c)(h0:-1000000000000000000<=lo)(h1:lo<=hi)(h2:hi<=1000000000000000000):
  Calls prog 83 #[.pointer (some ⟨rb,0,none⟩),.int .i64 lo,.int .i64 hi] w (NumEnd lo hi w rb a n c):=by
 have hd:decide (hi<lo)=false:=by simp;omega
 go_enter func83,ntmps83;go_wp2_with fail;refine(Ww rb a n c 8 w h (by omega) (by omega)).mono ?_;rintro e w1⟨k,rfl,k0,k1,r1,b1⟩;by_cases e0:k=0
 ·have hk:(k==0)=true:=by simp[e0]
  clear e0;go_wp2;go_ret;exact⟨lo,rfl,by omega,by omega,r1,b1⟩
 ·have hk:(k==0)=false:=by simp[e0]
  by_cases e1:k=1
  ·have Ga:(k==1)=true:=by simp[e1]
   clear e0 e1;go_wp2;go_ret;exact⟨hi,rfl,by omega,by omega,r1,b1⟩
  ·have Ga:(k==1)=false:=by simp[e1]
   go_wp2_with fail;refine(Dn rb a n c w1 r1).mono ?_;rintro e w2⟨z,rfl,hz,r2,b2⟩;have m1:=Int.emod_nonneg ((z:Int)/2) (b:=hi-lo+1) (by omega);have m2:=Int.emod_lt_of_pos ((z:Int)/2) (b:=hi-lo+1) (by omega);go_wp2;go_ret;exact⟨_,rfl,by omega,by omega,r2,G4 b1 b2⟩
theorem Cr(lo hi:Int)(w:World)(h:Rd w rb a n c)(h0:-1000000000000000000<=lo)(h1:lo<=hi)(h2:hi<=1000000000000000000):
  Calls prog 43 #[.pointer (some ⟨rb,0,none⟩),.int .i64 lo,.int .i64 hi] w (NumEnd (-9223372036854775808) 9223372036854775807 w rb a n c):=by
 go_enter func43,ntmps43;go_wp2_with fail;refine(Pd rb a n c 24 w h (by omega) (by omega)).mono ?_;rintro e w1⟨b,rfl,r1,b1⟩;have s1:=(Exists.choose_spec r1.row).2.lt;cases b with
 |false=>
  go_wp2_with fail;refine(Ao rb a n c lo hi w1 r1 h0 h1 h2).mono ?_;rintro e w2⟨k,rfl,k0,k1,r2,b2⟩;go_wp2;go_ret;exact⟨_,rfl,by omega,by omega,r2,G4 b1 b2⟩
 |true=>
  go_wp2_with fail;have hl:=Fc.new w1 2 #[Value.int IntKind.i64 (lo-1),Value.int IntKind.i64 (hi+1),Value.int IntKind.i64 (-9223372036854775808),Value.int IntKind.i64 9223372036854775807];have hb:Bl w1 (w1.alloc (.cells #[Value.int IntKind.i64 (lo-1),Value.int IntKind.i64 (hi+1),Value.int IntKind.i64 (-9223372036854775808),Value.int IntKind.i64 9223372036854775807] 2)):=(Qb _ w1).alloc (Qc _) _;generalize w1.alloc (.cells #[Value.int IntKind.i64 (lo-1),Value.int IntKind.i64 (hi+1),Value.int IntKind.i64 (-9223372036854775808),Value.int IntKind.i64 9223372036854775807] 2)=w2 at*;have g2:=Ly b1 hb;refine(Ww rb a n c 4 w2 (r1.bw hb s1) (by omega) (by omega)).mono ?_;rintro e w3⟨k,rfl,k0,k1,r3,g3⟩;have Ga:Fc w3 w1.heap.size 2 _:=(g3.block w1.heap.size hl.lt (by simp;omega)).trans hl;have l0:=Ga.cell 0;have l1:=Ga.cell 1;have l2:=Ga.cell 2;have l3:=Ga.cell 3;simp at l0 l1 l2 l3;have g:=G4 g2 g3;clear Ga hl g3;have hk:k=0\/k=1\/k=2\/k=3:=by omega
  rcases hk with rfl|rfl|rfl|rfl;all_goals
   go_wp2;go_ret;exact⟨_,rfl,by omega,by omega,r3,g⟩
end
end Hp
namespace Kk
open Tryz
open Go.RowKit
variable {w w':World} {rb:Nat}
theorem Ao(rb:Nat)(a:Option Addr)(n c:Nat)(w:World)(h:Rd w rb a n c):
  Calls prog 83 #[.pointer (some ⟨rb,0,none⟩),.int .i64 (-3),.int .i64 3] w fun e w'=>∃x:Int,e=.returned (.int .i64 x)/\Mn x/\Rd w' rb a n c/\w.grownBy w' (some rb):=by
 go_enter func83,ntmps83;go_wp2_with fail;refine(Mb rb a n c 8 w h (by omega) (by omega)).mono ?_;rintro e w1⟨j,rfl,hj,r1,g1⟩;by_cases j0:j=0
 ·subst j0;go_wp2;go_ret;exact⟨-3,rfl,⟨by omega,by omega⟩,r1,g1⟩
 by_cases j1:j=1
 ·subst j1;go_wp2;go_ret;exact⟨3,rfl,⟨by omega,by omega⟩,r1,g1⟩
 have d0:((j:Int)==0)=false:=by simp;omega
 have d1:((j:Int)==1)=false:=by simp;omega
 go_wp2_with fail;refine(Dn rb a n c w1 r1).mono ?_;rintro e w2⟨x,rfl,x0,x1,r2,g2⟩;have gg:=G4 g1 g2;clear g2;go_wp2;go_ret;exact⟨_,rfl,⟨by omega,by omega⟩,r2,gg⟩
def yh6 (C:Array Value):Prop:=∀j,j<C.size->∃x:Int,C[j]?=some (.int .i64 x)/\Mn x
theorem yfy:yh6 #[.int .i64 (-4),.int .i64 4,.int .i64 (-9223372036854775808),.int .i64 9223372036854775807]:=fun j hj=>by
 have Ga:j<4:=hj;match j,Ga with
 |0,_=>exact⟨-4,rfl,by unfold Mn;omega⟩
 |1,_=>exact⟨4,rfl,by unfold Mn;omega⟩
 |2,_=>exact⟨-9223372036854775808,rfl,by unfold Mn;omega⟩
 |3,_=>exact⟨9223372036854775807,rfl,by unfold Mn;omega⟩
section
variable (rb:Nat) (a:Option Addr) (n c:Nat) (w:World)
theorem Cr(h:Rd w rb a n c)(hrb:rb<w.heap.size):
  Calls prog 43 #[.pointer (some ⟨rb,0,none⟩),.int .i64 (-3),.int .i64 3] w fun e w'=>∃x:Int,e=.returned (.int .i64 x)/\Mn x/\Rd w' rb a n c/\w.grownBy w' (some rb):=by
 go_enter func43,ntmps43;go_wp2_with fail;refine(Pd rb a n c 24 w h (by omega) (by omega)).mono ?_;rintro e w1⟨b,rfl,r1,g1⟩;have b1:=Ld hrb g1;cases b with
 |false=>
  go_wp2_with fail;refine(Ao rb a n c w1 r1).mono ?_;rintro e w2⟨x,rfl,hx,r2,g2⟩;have gg:=G4 g1 g2;go_wp2;go_ret;exact⟨x,rfl,hx,r2,gg⟩
 |true=>
  have hl:=Fc.new w1 2 #[.int .i64 (-4),.int .i64 4,.int .i64 (-9223372036854775808),.int .i64 9223372036854775807];have hb:Bl w1 (w1.alloc (.cells #[.int .i64 (-4),.int .i64 4,.int .i64 (-9223372036854775808),.int .i64 9223372036854775807] 2)):=(Qb _ w1).alloc (Qc _) _;go_wp2_with fail;generalize w1.alloc (.cells #[.int .i64 (-4),.int .i64 4,.int .i64 (-9223372036854775808),.int .i64 9223372036854775807] 2)=w2 at*;refine(Mb rb a n c 4 w2 (r1.bw hb b1) (by omega) (by omega)).mono ?_;rintro e w3⟨j,rfl,hj,r3,g3⟩;have gg:=G4 (Ly g1 hb) g3;obtain⟨x,hx,Ga⟩:=yfy j hj;have hc:=((Nc hl g3 (by omega)).cell j).trans hx;have j0:(0:Int)<=(j:Int):=by omega
  have j1:(j:Int)<4:=by omega
  clear hl hb g3 hx;go_wp2;go_ret;exact⟨x,rfl,Ga,r3,gg⟩
theorem yjb(h:Rd w rb a n c):
  Calls prog 83 #[.pointer (some ⟨rb,0,none⟩),.int .i64 1,.int .i64 4] w fun e w'=>∃x:Int,e=.returned (.int .i64 x)/\Mn x/\Rd w' rb a n c/\w.grownBy w' (some rb):=by
 go_enter func83,ntmps83;go_wp2_with fail;refine(Mb rb a n c 8 w h (by omega) (by omega)).mono ?_;rintro e w1⟨j,rfl,hj,r1,g1⟩;by_cases j0:j=0
 ·subst j0;go_wp2;go_ret;exact⟨1,rfl,⟨by omega,by omega⟩,r1,g1⟩
 by_cases j1:j=1
 ·subst j1;go_wp2;go_ret;exact⟨4,rfl,⟨by omega,by omega⟩,r1,g1⟩
 have d0:((j:Int)==0)=false:=by simp;omega
 have d1:((j:Int)==1)=false:=by simp;omega
 go_wp2_with fail;refine(Dn rb a n c w1 r1).mono ?_;rintro e w2⟨x,rfl,x0,x1,r2,g2⟩;have gg:=G4 g1 g2;clear g2;go_wp2;go_ret;exact⟨_,rfl,⟨by omega,by omega⟩,r2,gg⟩
end
theorem yig:yh6 #[.int .i64 0,.int .i64 5,.int .i64 (-9223372036854775808),.int .i64 9223372036854775807]:=fun j hj=>by
 have Ga:j<4:=hj;match j,Ga with
 |0,_=>exact⟨0,rfl,by unfold Mn;omega⟩
 |1,_=>exact⟨5,rfl,by unfold Mn;omega⟩
 |2,_=>exact⟨-9223372036854775808,rfl,by unfold Mn;omega⟩
 |3,_=>exact⟨9223372036854775807,rfl,by unfold Mn;omega⟩
theorem Ea(rb:Nat)(a:Option Addr)(n c:Nat)(w:World)(h:Rd w rb a n c)(hrb:rb<w.heap.size):
  Calls prog 43 #[.pointer (some ⟨rb,0,none⟩),.int .i64 1,.int .i64 4] w fun e w'=>∃x:Int,e=.returned (.int .i64 x)/\Mn x/\Rd w' rb a n c/\w.grownBy w' (some rb):=by
 go_enter func43,ntmps43;go_wp2_with fail;refine(Pd rb a n c 24 w h (by omega) (by omega)).mono ?_;rintro e w1⟨b,rfl,r1,g1⟩;have b1:=Ld hrb g1;cases b with
 |false=>
  go_wp2_with fail;refine(yjb rb a n c w1 r1).mono ?_;rintro e w2⟨x,rfl,hx,r2,g2⟩;have gg:=G4 g1 g2;go_wp2;go_ret;exact⟨x,rfl,hx,r2,gg⟩
 |true=>
  have hl:=Fc.new w1 2 #[.int .i64 0,.int .i64 5,.int .i64 (-9223372036854775808),.int .i64 9223372036854775807];have hb:Bl w1 (w1.alloc (.cells #[.int .i64 0,.int .i64 5,.int .i64 (-9223372036854775808),.int .i64 9223372036854775807] 2)):=(Qb _ w1).alloc (Qc _) _;go_wp2_with fail;generalize w1.alloc (.cells #[.int .i64 0,.int .i64 5,.int .i64 (-9223372036854775808),.int .i64 9223372036854775807] 2)=w2 at*;refine(Mb rb a n c 4 w2 (r1.bw hb b1) (by omega) (by omega)).mono ?_;rintro e w3⟨j,rfl,hj,r3,g3⟩;have gg:=G4 (Ly g1 hb) g3;obtain⟨x,hx,Ga⟩:=yig j hj;have hc:=((Nc hl g3 (by omega)).cell j).trans hx;have j0:(0:Int)<=(j:Int):=by omega
  have j1:(j:Int)<4:=by omega
  clear hl hb g3 hx;go_wp2;go_ret;exact⟨x,rfl,Ga,r3,gg⟩
theorem cell_grown{b o:Nat}{v:Value}(h:w.cell? ⟨b,o,none⟩=some v)(g:w.grownBy w' (some rb))(hne:b≠rb):w'.cell? ⟨b,o,none⟩=some v:=
 (World.cell?_of_block (w:=w) (a:=⟨b,o,none⟩) (g.block b (block_lt_of_cell h) (fun e=>hne (Option.some.inj e)))).trans h
def yef (w:World) (rb:Nat) (a:Option Addr) (n c:Nat) (e:Ending) (w':World):Prop:=
 ∃(v:Value) (M:List Rk),e= .returned v/\M.length<=6/\Md M/\Fo w' w.heap.size v M/\Rd w' rb a n c/\w.grownBy w' (some rb)
theorem Fo.kept'{B A cap:Nat}{M:List Rk}{m:Nat}(h:Fo w B (.slice (some ⟨A,0,none⟩) m cap) M)(g:w.grownBy w' (some rb))(hne:A≠rb):Fo w' B (.slice (some ⟨A,0,none⟩) m cap) M:=
 World.ownsRow.kept h g (.inr fun e=>hne (Option.some.inj e))
theorem znj(a:Option Addr)(b off n c:Nat)(L:List Rk)(m:ByteArray)(s:Int)(w:World)(h:F7 w a b off n L)(hn:n<=1048577):
  Calls prog 120 #[.slice a n c,.string m,.int .i64 s] w fun e w'=>∃A cc M',e=.returned (.slice (some ⟨A,0,none⟩) (List.length M') cc)/\M'.length<=n+1/\(Md L->Mn s->Md M')/\Fo w' w.heap.size (.slice (some ⟨A,0,none⟩) M'.length cc) M'/\Bl w w':=
 (zln a b off n c L m s w h hn).mono fun e w' ⟨A,cc,he,ho,hb⟩=>⟨A,cc,_,he,by rw[Bp];have:=Rf L m;rw[h.len]at this;omega,fun h1 h2=>Aw (X7 h1) h2,ho,hb⟩
theorem zrr(w:World)(o:Obj)(r:Option Nat):w.grownBy (w.alloc o).drew r:=⟨rfl,rfl,rfl,by show w.heap.size<=(w.alloc o).heap.size;simp,fun k hk _=>Below.heap_alloc w o k hk⟩
theorem zwb(rb:Nat)(a:Option Addr)(n c:Nat)(w:World)(h:Rd w rb a n c)(hrb:rb<w.heap.size):
  Calls prog 121 #[.pointer (some ⟨rb,0,none⟩)] w (yef w rb a n c):=by
 obtain⟨i0,hi,Gz,Gs,Gx⟩:=info_parts U5;have hb:Bl w (w.alloc (.cells #[] 147)):=(Qb _ w).alloc (Qc _) _;have ho:=J6 w w.heap.size (Qc _);have Gg:Oz #[.string ⟨#[97]⟩,.string ⟨#[98]⟩,.string ⟨#[99]⟩,.string ⟨#[100]⟩,.string ⟨#[]⟩]:=O8 [⟨#[97]⟩,⟨#[98]⟩,⟨#[99]⟩,⟨#[100]⟩,⟨#[]⟩] (by decide);go_enter func121,ntmps121;go_wp2_with fail;generalize w.alloc (.cells #[] 147)=w1 at*;refine(Mb rb a n c 6 w1 (h.bw hb hrb) (by omega) (by omega)).mono ?_;rintro e w2⟨q,rfl,hq,r2,Gk⟩;have g2:=G4 (Ly (Nl w _) hb) Gk;have o2:=Fo.kept' (M:=[]) ho Gk (by omega);clear ho hb Gk h;go_wp2_with fail;go_loopw [3,4] (fun v i wr=>∃(q A cc:Nat) (M:List Rk),q+M.length<=5/\i=.int .i64 q/\v=.slice (some ⟨A,0,none⟩) M.length cc/\Fo wr w.heap.size (.slice (some ⟨A,0,none⟩) M.length cc) M/\Md M/\Rd wr rb a n c/\w.grownBy wr (some rb)) (fun _ i _=>(intOf i).toNat)
 case atStart=>exact⟨q,w.heap.size,0,[],by simp;omega,rfl,rfl,o2,fun x hx=>by simp at hx,r2,g2⟩
 case round=>
  obtain⟨q,A,cc,M,Kl,rfl,rfl,Ga,Gd,rd,gr⟩:=hrel;clear o2 r2 g2;have HF:Hid (Md M):=Gd;clear Gd;have sr:=gr.size;have Gl:rb<wr.heap.size:=Ld hrb gr;have hA:w.heap.size<=A:=(Ga.lt A rfl).1;have Gb:A≠rb:=by omega
  by_cases h0:0<q
  ·have hd:(0:Int)<(q:Int):=by omega
   have rD:Rd wr.drew rb a n c:=rd.bw (B:=wr.heap.size) (below_drewN (Qb _ wr) 1) Gl;have bA:Bl wr (wr.alloc (.cells #[.string ⟨#[97]⟩,.string ⟨#[98]⟩,.string ⟨#[99]⟩,.string ⟨#[100]⟩,.string ⟨#[]⟩] 9)).drew:=below_drewN ((Qb _ wr).alloc (Qc _) _) 1;have rA:Rd (wr.alloc (.cells #[.string ⟨#[97]⟩,.string ⟨#[98]⟩,.string ⟨#[99]⟩,.string ⟨#[100]⟩,.string ⟨#[]⟩] 9)).drew rb a n c:=rd.bw bA Gl;have Hi:Fc (wr.alloc (.cells #[.string ⟨#[97]⟩,.string ⟨#[98]⟩,.string ⟨#[99]⟩,.string ⟨#[100]⟩,.string ⟨#[]⟩] 9)).drew wr.heap.size 9 #[.string ⟨#[97]⟩,.string ⟨#[98]⟩,.string ⟨#[99]⟩,.string ⟨#[100]⟩,.string ⟨#[]⟩]:=Fc.new wr 9 _;have oD:Fo wr.drew w.heap.size (.slice (some ⟨A,0,none⟩) M.length cc) M:=Ga;have oA:Fo (wr.alloc (.cells #[.string ⟨#[97]⟩,.string ⟨#[98]⟩,.string ⟨#[99]⟩,.string ⟨#[100]⟩,.string ⟨#[]⟩] 9)).drew w.heap.size (.slice (some ⟨A,0,none⟩) M.length cc) M:=Ga.kept' (zrr wr _ (some rb)) Gb;have gD:w.grownBy wr.drew (some rb):=G4 gr (U0 wr 1 _);have gA:w.grownBy (wr.alloc (.cells #[.string ⟨#[97]⟩,.string ⟨#[98]⟩,.string ⟨#[99]⟩,.string ⟨#[100]⟩,.string ⟨#[]⟩] 9)).drew (some rb):=G4 gr (zrr wr _ _);have Kh:M.length<=5:=by omega
   clear Ga rd;go_wp2_with fail
   go_region_with (first
    |(go_at_call_of 41 (Value.int IntKind.i64 5);refine(Mb rb a n c 5 _ (by with_reducible first|exact rD|exact rA) (by omega) (by omega)).mono ?_;rintro e w2⟨j,rfl,hj,r2,g2⟩;have o2:Fo w2 w.heap.size (.slice (some ⟨A,0,none⟩) M.length cc) M:=by first|exact oD.kept' g2 Gb|exact oA.kept' g2 Gb
      have Gh:w.grownBy w2 (some rb):=by first|exact G4 gD g2|exact G4 gA g2
      have j0:(0:Int)<=(j:Int):=by omega
      have j1:(j:Int)<5:=by omega
      have Kc:=Ld hrb Gh;have Ka:Rd (w2.alloc (.cells #[.string ⟨#[97]⟩,.string ⟨#[98]⟩,.string ⟨#[99]⟩,.string ⟨#[100]⟩,.string ⟨#[]⟩] 9)) rb a n c:=r2.bw (B:=w2.heap.size) ((Qb _ w2).alloc (Qc _) _) Kc;have Gr:Fo (w2.alloc (.cells #[.string ⟨#[97]⟩,.string ⟨#[98]⟩,.string ⟨#[99]⟩,.string ⟨#[100]⟩,.string ⟨#[]⟩] 9)) w.heap.size (.slice (some ⟨A,0,none⟩) M.length cc) M:=Fo.bw o2 ((Qb _ w2).alloc (Qc _) _);have Gt:w.grownBy (w2.alloc (.cells #[.string ⟨#[97]⟩,.string ⟨#[98]⟩,.string ⟨#[99]⟩,.string ⟨#[100]⟩,.string ⟨#[]⟩] 9)) (some rb):=Ly Gh ((Qb _ w2).alloc (Qc _) _);obtain⟨x2,Gm,_⟩:=Oi (Fc.new w2 9 #[.string ⟨#[97]⟩,.string ⟨#[98]⟩,.string ⟨#[99]⟩,.string ⟨#[100]⟩,.string ⟨#[]⟩]) Gg j hj;first
       |(obtain⟨x1,Gv,_⟩:=Oi (Nc Hi g2 (by omega)) Gg j hj;clear g2)
       |clear g2)
    |(go_at_call_of 41 (Value.int IntKind.i64 7);refine(Mb rb a n c 7 _ (by with_reducible first|exact r2|exact Ka) (by omega) (by omega)).mono ?_;rintro e w3⟨k,rfl,hk,r3,g3⟩;have o3:Fo w3 w.heap.size (.slice (some ⟨A,0,none⟩) M.length cc) M:=by first|exact o2.kept' g3 Gb|exact Gr.kept' g3 Gb
      have Ge:w.grownBy w3 (some rb):=by first|exact G4 Gh g3|exact G4 Gt g3
      have Gf:rb<w3.heap.size:=Ld hrb Ge;have b3:Bl w3 (w3.alloc (.cells #[.string ⟨#[97]⟩,.string ⟨#[98]⟩,.string ⟨#[99]⟩,.string ⟨#[100]⟩,.string ⟨#[]⟩] 9)):=(Qb _ w3).alloc (Qc _) _;have Gy:Rd (w3.alloc (.cells #[.string ⟨#[97]⟩,.string ⟨#[98]⟩,.string ⟨#[99]⟩,.string ⟨#[100]⟩,.string ⟨#[]⟩] 9)) rb a n c:=r3.bw b3 Gf;have R3:=ye5 o3 rfl;have Gn:=ye5 (Fo.bw o3 b3) rfl;have Gu:w.grownBy (w3.alloc (.cells #[.string ⟨#[97]⟩,.string ⟨#[98]⟩,.string ⟨#[99]⟩,.string ⟨#[100]⟩,.string ⟨#[]⟩] 9)) (some rb):=Ly Ge b3;have Ki:w3.heap.size<(w3.alloc (.cells #[.string ⟨#[97]⟩,.string ⟨#[98]⟩,.string ⟨#[99]⟩,.string ⟨#[100]⟩,.string ⟨#[]⟩] 9)).heap.size:=by simp
      obtain⟨x3,Kn,_⟩:=Oi (Fc.new w3 9 #[.string ⟨#[97]⟩,.string ⟨#[98]⟩,.string ⟨#[99]⟩,.string ⟨#[100]⟩,.string ⟨#[]⟩]) Gg j hj;have k7:(k:Int)<7:=by omega
      have kw:IntKind.i64.wrap ((k:Int)-3)=(k:Int)-3:=wrap_small (by omega) (by omega);first
       |(have Kb:=cell_grown Gv g3 (by omega);clear g3)
       |(have Gw:=cell_grown Gm g3 (by omega);clear g3)
       |clear g3)
    |(go_at_call 120;refine(znj (some ⟨A,0,none⟩) A 0 M.length cc M _ _ _ (by with_reducible first|exact R3|exact Gn) (by omega)).mono ?_;rintro e w4⟨A',Gp,M',rfl,Kj,Kd,o4,b4⟩;have r4:Rd w4 rb a n c:=by first|exact r3.bw b4 Gf|exact Gy.bw b4 (by omega)
      have g4:w.grownBy w4 (some rb):=by first|exact Ly Ge b4|exact Ly Gu b4
      have Kf:=Fo.wide o4 (B':=w.heap.size) (by have:=Ge.size;omega);clear o4 b4))
   all_goals go_wp2
   all_goals
    go_roundw
    case rel=>exact⟨q-1,A',Gp,M',by omega,by go_num,rfl,Kf,Kd HF.out ⟨by omega,by omega⟩,r4,g4⟩
    case measure=>simp[intOf];omega
  ·obtain rfl:q=0:=by omega
   have Kh:M.length<=5:=by omega
   go_wp2_with fail;refine(Pd rb a n c 30 wr rd (by omega) (by omega)).mono ?_;rintro e w3⟨b,rfl,r3,Gj⟩;have g3:=G4 gr Gj;have Gf:=Ld hrb g3;have o3:=Ga.kept' Gj Gb;clear Gj Ga;cases b with
   |false=>
    have HO:Hid _:=o3;clear o3;go_wp2;go_ret;exact⟨_,M,rfl,by omega,HF.out,HO.out,r3,g3⟩
   |true=>
    go_wp2_with fail;refine(Cr rb a n c w3 r3 Gf).mono ?_;rintro e w4⟨x,rfl,hx,r4,Gi⟩;have g4:=G4 g3 Gi;have Km:=Ld hrb g4;have o4:=o3.kept' Gi Gb;have s4:=g4.size;clear o3 Gi g3;have HX:Hid (Mn x):=hx;clear hx;go_wp2_with (at_builtin;refine wpList_append_own _ rfl _ _ 43 rfl w.heap.size 147 i0 _ 2 24 underlying43 hi Gz Gs Gx rfl (by decide) _ _ _ rfl (o4.alloc _) ⟨w4.heap.size,0,none⟩ 1 1 [.string ⟨#[97]⟩,.int .i64 x] rfl rfl ?c1 ?c2 ?c3 ?c4 ?c5 ?_)
    case c1=>
     intro j u hj;rw[Addr.add_lit,Qq];exact((Fc.new w4 147 #[.string ⟨#[97]⟩,.int .i64 x]).cell j).trans (by simpa using hj)
    case c2=>exact fun u hu=>by simp at hu;rcases hu with rfl|rfl<;>rfl
    case c3=>unfold maxLen;omega
    case c4=>omega
    case c5=>simp;omega
    intro v' w5 hown' hgrow _;have Gc:∀k,k<w4.heap.size->k≠A->w5.heap[k]?=w4.heap[k]?:=fun k hk Gb=>by
     rw[hgrow.block k (by simp;omega) (fun e=>Gb (Option.some.inj e))];exact Below.heap_alloc _ _ _ hk
    have g5:w.grownBy w5 (some rb):=⟨hgrow.os.trans g4.os,hgrow.tape.trans g4.tape,hgrow.output.trans g4.output,by have:=hgrow.size;simp at this;omega,fun k hk Gb=>(Gc k (by omega) (by omega)).trans (g4.block k hk Gb)⟩;have Gq:Below w.heap.size w4 w5:=⟨hgrow.os,hgrow.tape,hgrow.output,by have:=hgrow.size;simp at this;omega,fun k hk=>Gc k (by omega) (by omega)⟩;have r5:Rd w5 rb a n c:=r4.bw Gq hrb;have HO:Hid (Fo w5 w.heap.size v' (M++ [⟨⟨#[97]⟩,x⟩])):=by
     unfold Hid Fo;rw[U2,Qi];exact hown'
    clear hown' hgrow Gc o4;go_wp2;go_ret
    exact⟨v',M++ [⟨⟨#[97]⟩,x⟩],rfl,by simp;omega,fun y hy=>by
     rcases List.mem_append.1 hy with hy|hy
     ·exact HF.out y hy
     ·simp at hy;subst hy;exact HX.out,HO.out,r5,g5⟩
end Kk
end Go.Proofs.YtokafonppgppdaaGreatDoor
