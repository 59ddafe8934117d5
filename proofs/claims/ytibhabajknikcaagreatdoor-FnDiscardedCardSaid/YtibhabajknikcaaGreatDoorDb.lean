import Derived.Test.YtibhabajknikcaaGreatDoorC9
import Derived.Test.YtibhabajknikcaaGreatDoorC18
set_option maxHeartbeats 8000000
set_option maxRecDepth 100000
namespace Go.Proofs.YtibhabajknikcaaGreatDoor
open Go.RowKit Go.Sort
structure BytesIn (w:World) (a:Option Addr) (n:Nat) (B:Nat):Prop where
 cell:0<n→∃b o,a=some ⟨b,o,none⟩∧b<B∧∀i,i<n→∃x:Nat,x<256∧w.cell? ⟨b,o+i,none⟩=some (.int .u8 x)
theorem BytesIn.below {w w':World} {a:Option Addr} {n B:Nat} (h:BytesIn w a n B) (hb:Below B w w'):BytesIn w' a n B:=
 ⟨fun hn=>by
  obtain ⟨b,o,ha,hB,hc⟩:=h.cell hn
  exact ⟨b,o,ha,hB,fun i hi=>by
   obtain ⟨x,hx,hw⟩:=hc i hi;exact ⟨x,hx,(hb.cell (p:=⟨b,o+i,none⟩) hB).trans hw⟩⟩⟩
structure Rd (w:World) (rb:Nat) (a:Option Addr) (n c:Nat):Prop where
 row:∃p:Nat,p≤n∧RowAt w rb 67 #[.slice a n c,.int .i64 p]
 fit:n≤9223372036854775807
 bytes:BytesIn w a n rb
theorem Rd.below {w w':World} {rb:Nat} {a:Option Addr} {n c B:Nat} (h:Rd w rb a n c) (hb:Below B w w') (hB:rb<B):Rd w' rb a n c:=by
 obtain ⟨p,hp,hr⟩:=h.row;exact ⟨⟨p,hp,hr.below hb hB⟩,h.fit,h.bytes.below (hb.mono (by omega))⟩
def NumEnd (lo hi:Int) (w:World) (rb:Nat) (a:Option Addr) (n c:Nat) (e:Ending) (w':World):Prop:=
 ∃k:Int,e= .returned (.int .i64 k)∧lo≤k∧k≤hi∧Rd w' rb a n c∧w.grownBy w' (some rb)
theorem next_any (rb:Nat) (a:Option Addr) (n c:Nat) (w:World) (h:Rd w rb a n c):
  Calls Tryz.prog 38 #[.pointer (some ⟨rb,0,none⟩)] w (NumEnd 0 255 w rb a n c):=by
 obtain ⟨p,hp,hr⟩:=h.row;have hfit:=h.fit;have c0:=hr.cell 0;have c1:=hr.cell 1;simp at c0 c1;by_cases hpn:p=n
 ·have hd:decide ((n:Int)≤(p:Int))=true:=by simp;omega
  have HR:Hid (Rd w rb a n c):=h;clear hr h;subst hpn;go_enter Tryz.func38,Tryz.ntmps38;go_wp2;go_quiet ((fail));go_wp2;go_ret;refine ⟨0,rfl,by omega,by omega,HR.out.below (B:=rb+1) (below_drewN (Below.refl _ _) _) (by omega),grown_drewN _ _ _⟩
 ·have hlt:p<n:=by omega
  have hd:decide ((n:Int)≤(p:Int))=false:=by simp;omega
  obtain ⟨b,o,ha,hB,hc⟩:=h.bytes.cell (by omega);obtain ⟨x,hx,hcx⟩:=hc p hlt;have hneb:b≠rb:=by omega
  have fz:=hr.frozen 1;have HR:Hid (RowAt w rb 67 #[.slice a n c,.int .i64 p]):=hr;have HB:Hid (Rd w rb a n c):=h;clear hr h hc;subst ha;go_enter Tryz.func38,Tryz.ntmps38;go_wp2;go_quiet ((fail));go_wp2;have hr2:RowAt ((w.drewN nq).setCell ⟨rb,1,none⟩ (Value.int IntKind.i64 (↑p+1))) rb 67 #[.slice (some ⟨b,o,none⟩) n c,.int .i64 (p+1)]:=by
   have:=(HR.out.below (B:=rb+1) (below_drewN (Below.refl _ w) nq) (by omega)).set 1 (Value.int IntKind.i64 (↑p+1));simpa using this
  have hg2:w.grownBy ((w.drewN nq).setCell ⟨rb,1,none⟩ (Value.int IntKind.i64 (↑p+1))) (some rb):=zah (grown_drewN w nq _) (grown_set _ rb 1 _);have hb2:Below rb w ((w.drewN nq).setCell ⟨rb,1,none⟩ (Value.int IntKind.i64 (↑p+1))):=(below_drewN (Below.refl _ w) nq).setCell (p:=⟨rb,1,none⟩) (Nat.le_refl _) _;generalize (w.drewN nq).setCell ⟨rb,1,none⟩ (Value.int IntKind.i64 (↑p+1))=w2 at*;have d0:=hr2.cell 0;have d1:=hr2.cell 1;simp at d0 d1;have dx:=(hb2.cell (p:=⟨b,o+p,none⟩) hB).trans hcx;have HX:Hid (RowAt w2 rb 67 #[.slice (some ⟨b,o,none⟩) n c,.int .i64 (p+1)]):=hr2;clear hr2 c0 c1 hcx fz;go_quiet ((fail));go_wp2;go_ret;refine ⟨x,rfl,by omega,by omega,⟨⟨p+1,by omega,?_⟩,HB.out.fit,?_⟩,zah hg2 (grown_drewN _ _ _)⟩
  ·exact HX.out.below (B:=rb+1) (below_drewN (Below.refl _ _) _) (by omega)
  ·exact HB.out.bytes.below (below_drewN hb2 _)
theorem below_any (rb:Nat) (a:Option Addr) (n c:Nat) (m:Int) (w:World) (h:Rd w rb a n c) (hm:1<m) (hm2:m≤65536):
  Calls Tryz.prog 15 #[.pointer (some ⟨rb,0,none⟩),.int .i64 m] w (NumEnd 0 (m-1) w rb a n c):=by
 by_cases h256:m≤256
 ·go_enter Tryz.func15,Tryz.ntmps15;go_wp2_with fail;refine (next_any rb a n c w h).mono ?_;rintro e w1 ⟨k,rfl,k0,k1,r1,b1⟩;have e1:Int.tmod k m=k%m:=Int.tmod_eq_emod_of_nonneg k0;have e2:=Int.emod_nonneg k (b:=m) (by omega);have e3:=Int.emod_lt_of_pos k (b:=m) (by omega);go_wp2;go_ret;exact ⟨_,rfl,by omega,by omega,r1,b1⟩
 ·go_enter Tryz.func15,Tryz.ntmps15;go_wp2_with fail;refine (next_any rb a n c w h).mono ?_;rintro e w1 ⟨k,rfl,k0,k1,r1,b1⟩;go_wp2_with fail;refine (next_any rb a n c w1 r1).mono ?_;rintro e w2 ⟨j,rfl,j0,j1,r2,b2⟩;have e2:=Int.emod_nonneg (k*256+j) (b:=m) (by omega);have e3:=Int.emod_lt_of_pos (k*256+j) (b:=m) (by omega);go_wp2;go_ret;exact ⟨_,rfl,by omega,by omega,r2,zah b1 b2⟩
theorem open_any (a:Option Addr) (n c:Nat) (w:World) (hn:n≤9223372036854775807) (hb:BytesIn w a n w.heap.size):
  Calls Tryz.prog 12 #[.slice a n c] w fun e w'=>e= .returned (.pointer (some ⟨w.heap.size,0,none⟩))∧Rd w' w.heap.size a n c∧Below w.heap.size w w':=by
 go_enter Tryz.func12,Tryz.ntmps12;go_wp2;go_ret;have hb0:Below w.heap.size w (w.alloc (.cells #[Value.slice a n c,Value.int IntKind.i64 0] 67)):=(Below.refl _ w).alloc (Nat.le_refl _) _;exact ⟨rfl,⟨⟨0,by omega,RowAt.new w 67 _⟩,hn,hb.below hb0⟩,hb0⟩
theorem below_one (rb:Nat) (w:World):Calls Tryz.prog 15 #[.pointer (some ⟨rb,0,none⟩),.int .i64 1] w fun e w'=>e= .returned (.int .i64 0)∧w'=w:=by
 go_enter Tryz.func15,Tryz.ntmps15;go_wp2;go_ret;exact ⟨rfl,rfl⟩
theorem zde (rb:Nat) (a:Option Addr) (n c k:Nat) (w:World) (h:Rd w rb a n c) (h0:0<k) (hk:k≤65536):
  Calls Tryz.prog 15 #[.pointer (some ⟨rb,0,none⟩),.int .i64 k] w fun e w'=>∃j:Nat,e= .returned (.int .i64 j)∧j<k∧Rd w' rb a n c∧w.grownBy w' (some rb):=by
 by_cases h1:k=1
 ·subst h1;exact (below_one rb w).mono fun e w' ⟨he,hw⟩=>⟨0,by rw [he];rfl,by omega,by rw [hw];exact h,by rw [hw];exact grown_refl _ _⟩
 ·exact (below_any rb a n c k w h (by omega) (by omega)).mono fun e w' ⟨z,he,z0,z1,hr,hg⟩=>⟨z.toNat,by rw [he,Int.toNat_of_nonneg z0],by omega,hr,hg⟩
def StrEnd (w:World) (rb:Nat) (a:Option Addr) (n c:Nat) (e:Ending) (w':World):Prop:=
 ∃s:ByteArray,e= .returned (.string s)∧s.size≤20∧Rd w' rb a n c∧w.grownBy w' (some rb)
theorem row_read {W W':World} {rb q:Nat} {T:TypeId} {C:Array Value} (h:RowAt W q T C) (g:W.grownBy W' (some rb)) (hq:q≠rb):RowAt W' q T C:=(g.block q h.lt (fun e=>hq (Option.some.inj e))).trans h
def SmallC (C:Array Value):Prop:=∀j,j<C.size→∃s:ByteArray,C[j]?=some (.string s)∧s.size≤20
def smallL (l:List ByteArray):Bool:=l.all fun s=>decide (s.size≤20)
theorem small_of (l:List ByteArray) (h:smallL l=true):SmallC (l.map Value.string).toArray:=fun j hj=>by
 have hj':j<l.length:=by simpa using hj
 refine ⟨l[j],?_,?_⟩
 ·simp [hj']
 ·exact of_decide_eq_true (List.all_eq_true.1 h _ (List.getElem_mem hj'))
theorem pick_cell {w:World} {B:Nat} {C:Array Value} (h:RowAt w B 9 C) (hC:SmallC C) (j:Nat) (hj:j<C.size):∃s:ByteArray,w.cell? ⟨B,j,none⟩=some (.string s)∧s.size≤20:=by
 obtain ⟨s,h1,h2⟩:=hC j hj;exact ⟨s,(h.cell j).trans h1,h2⟩
theorem text_any (rb:Nat) (a:Option Addr) (n c:Nat) (w:World) (h:Rd w rb a n c) (hrb:rb<w.heap.size):
  Calls Tryz.prog 64 #[.pointer (some ⟨rb,0,none⟩)] w (StrEnd w rb a n c):=by
 have hl:=RowAt.new w 9 #[.string ⟨#[97]⟩,.string ⟨#[98]⟩,.string ⟨#[]⟩,.string ⟨#[49,48]⟩,.string ⟨#[97,98,99]⟩,.string ⟨#[120,32,121]⟩,.string ⟨#[45,55]⟩,.string ⟨#[13,10]⟩];have hb:Below w.heap.size w (w.alloc (.cells #[.string ⟨#[97]⟩,.string ⟨#[98]⟩,.string ⟨#[]⟩,.string ⟨#[49,48]⟩,.string ⟨#[97,98,99]⟩,.string ⟨#[120,32,121]⟩,.string ⟨#[45,55]⟩,.string ⟨#[13,10]⟩] 9)):=(Below.refl _ w).alloc (Nat.le_refl _) _;have hs:SmallC #[.string ⟨#[97]⟩,.string ⟨#[98]⟩,.string ⟨#[]⟩,.string ⟨#[49,48]⟩,.string ⟨#[97,98,99]⟩,.string ⟨#[120,32,121]⟩,.string ⟨#[45,55]⟩,.string ⟨#[13,10]⟩]:=small_of [⟨#[97]⟩,⟨#[98]⟩,⟨#[]⟩,⟨#[49,48]⟩,⟨#[97,98,99]⟩,⟨#[120,32,121]⟩,⟨#[45,55]⟩,⟨#[13,10]⟩] (by decide);go_enter Tryz.func64,Tryz.ntmps64;go_wp2_with fail;generalize w.alloc (.cells #[.string ⟨#[97]⟩,.string ⟨#[98]⟩,.string ⟨#[]⟩,.string ⟨#[49,48]⟩,.string ⟨#[97,98,99]⟩,.string ⟨#[120,32,121]⟩,.string ⟨#[45,55]⟩,.string ⟨#[13,10]⟩] 9)=w1 at*;refine (zde rb a n c 8 w1 (h.below hb hrb) (by omega) (by omega)).mono ?_;rintro e w2 ⟨j,rfl,hj,r2,g2⟩;have gg:=zah (zcc (grown_refl w _) hb) g2;obtain ⟨s,hc,hz⟩:=pick_cell (row_read hl g2 (by omega)) hs j (by simpa using hj);have j0:(0:Int)≤(j:Int):=by omega
 have j1:(j:Int)<8:=by omega
 clear hl hb hs g2;go_wp2;go_ret;exact ⟨s,rfl,hz,r2,gg⟩
theorem zcg {w w':World} {rb k:Nat} (h:k<w.heap.size) (g:w.grownBy w' (some rb)):k<w'.heap.size:=by have:=g.size;omega
theorem once_any (rb:Nat) (a:Option Addr) (n c k:Nat) (w:World) (h:Rd w rb a n c) (h0:0<k) (hk:k≤65536):
  Calls Tryz.prog 30 #[.pointer (some ⟨rb,0,none⟩),.int .i64 k] w fun e w'=>∃b:Bool,e= .returned (.bool b)∧Rd w' rb a n c∧w.grownBy w' (some rb):=by
 go_enter Tryz.func30,Tryz.ntmps30;go_wp2_with fail;refine (zde rb a n c k w h h0 hk).mono ?_;rintro e w1 ⟨j,rfl,hj,r1,g1⟩;go_wp2;go_ret;exact ⟨_,rfl,r1,g1⟩
theorem or_range (x y:Int):0≤bits BinOp.or IntKind.u64 x y∧bits BinOp.or IntKind.u64 x y≤18446744073709551615:=
 bounds_u64 (wf_bits BinOp.or IntKind.u64 x y)
theorem word_any (rb:Nat) (a:Option Addr) (n c:Nat) (w:World) (h:Rd w rb a n c):
  Calls Tryz.prog 105 #[.pointer (some ⟨rb,0,none⟩)] w fun e w'=>∃x:Int,e= .returned (.int .u64 x)∧0≤x∧x≤18446744073709551615∧Rd w' rb a n c∧w.grownBy w' (some rb):=by
 go_enter Tryz.func105,Tryz.ntmps105;go_wp2;go_loopw [3,4] (fun v i wr=>∃(k:Nat) (x:Int),k≤8∧i= .int .i64 k∧v= .int .u64 x∧0≤x∧x≤18446744073709551615∧Rd wr rb a n c∧w.grownBy wr (some rb)) (fun _ i _=>8-(intOf i).toNat)
 case atStart=>exact ⟨0,0,by omega,rfl,rfl,by omega,by omega,h,grown_refl _ _⟩
 case round=>
  obtain ⟨k,x,hk,rfl,rfl,x0,x1,rd,gr⟩:=hrel;by_cases hlt:k<8
  ·go_wp2_with fail;refine (next_any rb a n c wr rd).mono ?_;rintro e w1 ⟨y,rfl,y0,y1,r1,g1⟩;have hor:=or_range (IntKind.u64.wrap (x*256)) y;go_wp2;go_roundw
   case rel=>exact ⟨k+1,_,by omega,by go_num,rfl,hor.1,hor.2,r1,zah gr g1⟩
   case measure=>simp [intOf];omega
  ·go_wp2;go_ret;exact ⟨x,rfl,x0,x1,rd,gr⟩
end Go.Proofs.YtibhabajknikcaaGreatDoor
namespace Go.Proofs.YtibhabajknikcaaGreatDoor.Hp
open Go.RowKit Go.Sort
theorem once_any (rb:Nat) (a:Option Addr) (n c:Nat) (m:Int) (w:World) (h:Rd w rb a n c) (hm:1<m) (hm2:m≤65536):
  Calls Tryz.prog 30 #[.pointer (some ⟨rb,0,none⟩),.int .i64 m] w fun e w'=>∃b:Bool,e= .returned (.bool b)∧Rd w' rb a n c∧w.grownBy w' (some rb):=by
 go_enter Tryz.func30,Tryz.ntmps30;go_wp2_with fail;refine (below_any rb a n c m w h hm hm2).mono ?_;rintro e w1 ⟨k,rfl,k0,k1,r1,b1⟩;go_wp2;go_ret;exact ⟨_,rfl,r1,b1⟩
theorem word_any (rb:Nat) (a:Option Addr) (n c:Nat) (w:World) (h:Rd w rb a n c):
  Calls Tryz.prog 105 #[.pointer (some ⟨rb,0,none⟩)] w fun e w'=>∃z:Nat,e= .returned (.int .u64 z)∧z<18446744073709551616∧Rd w' rb a n c∧w.grownBy w' (some rb):=by
 go_enter Tryz.func105,Tryz.ntmps105;go_wp2;go_loopw [3,4] (fun x i wr=>∃(z j:Nat),x= .int .u64 z∧z<18446744073709551616∧j≤8∧i= .int .i64 j∧Rd wr rb a n c∧w.grownBy wr (some rb)) (fun _ i _=>8-(intOf i).toNat)
 case atStart=>exact ⟨0,0,rfl,by omega,by omega,rfl,h,grown_refl _ _⟩
 case round=>
  obtain ⟨z,j,rfl,hz,hj,rfl,r1,b1⟩:=hrel;by_cases hlt:j<8
  ·go_wp2_with fail;refine (next_any rb a n c _ r1).mono ?_;rintro e w1 ⟨k,rfl,k0,k1,r2,b2⟩;go_wp2;obtain ⟨q0,q1⟩:=bounds_u64 (wf_bits .or .u64 (IntKind.u64.wrap (↑z*256)) k);obtain ⟨y,hy⟩:∃y:Nat,bits BinOp.or IntKind.u64 (IntKind.u64.wrap (↑z*256)) k=y:=⟨_,(Int.toNat_of_nonneg q0).symm⟩;rw [hy] at q1 ⊢;refine ⟨⟨y,j+1,rfl,by omega,by omega,by go_num,r2,zah b1 b2⟩,by simp [intOf];omega⟩
  ·go_wp2;go_ret;exact ⟨z,rfl,hz,r1,b1⟩
theorem near_any (rb:Nat) (a:Option Addr) (n c:Nat) (lo hi:Int) (w:World) (h:Rd w rb a n c) (h0:-1000000000000000000≤lo) (h1:lo≤hi) (h2:hi≤1000000000000000000):
  Calls Tryz.prog 69 #[.pointer (some ⟨rb,0,none⟩),.int .i64 lo,.int .i64 hi] w (NumEnd lo hi w rb a n c):=by
 have hd:decide (hi<lo)=false:=by simp;omega
 go_enter Tryz.func69,Tryz.ntmps69;go_wp2_with fail;refine (below_any rb a n c 8 w h (by omega) (by omega)).mono ?_;rintro e w1 ⟨k,rfl,k0,k1,r1,b1⟩;by_cases e0:k=0
 ·have hk:(k==0)=true:=by simp [e0]
  clear e0;go_wp2;go_ret;exact ⟨lo,rfl,by omega,by omega,r1,b1⟩
 ·have hk:(k==0)=false:=by simp [e0]
  by_cases e1:k=1
  ·have hk1:(k==1)=true:=by simp [e1]
   clear e0 e1;go_wp2;go_ret;exact ⟨hi,rfl,by omega,by omega,r1,b1⟩
  ·have hk1:(k==1)=false:=by simp [e1]
   go_wp2_with fail;refine (word_any rb a n c w1 r1).mono ?_;rintro e w2 ⟨z,rfl,hz,r2,b2⟩;have m1:=Int.emod_nonneg ((z:Int)/2) (b:=hi-lo+1) (by omega);have m2:=Int.emod_lt_of_pos ((z:Int)/2) (b:=hi-lo+1) (by omega);go_wp2;go_ret;exact ⟨_,rfl,by omega,by omega,r2,zah b1 b2⟩
theorem off_any (rb:Nat) (a:Option Addr) (n c:Nat) (lo hi:Int) (w:World) (h:Rd w rb a n c) (h0:-1000000000000000000≤lo) (h1:lo≤hi) (h2:hi≤1000000000000000000):
  Calls Tryz.prog 34 #[.pointer (some ⟨rb,0,none⟩),.int .i64 lo,.int .i64 hi] w (NumEnd (-9223372036854775808) 9223372036854775807 w rb a n c):=by
 go_enter Tryz.func34,Tryz.ntmps34;go_wp2_with fail;refine (once_any rb a n c 24 w h (by omega) (by omega)).mono ?_;rintro e w1 ⟨b,rfl,r1,b1⟩;have s1:=(Exists.choose_spec r1.row).2.lt;cases b with
 |false=>
  go_wp2_with fail;refine (near_any rb a n c lo hi w1 r1 h0 h1 h2).mono ?_;rintro e w2 ⟨k,rfl,k0,k1,r2,b2⟩;go_wp2;go_ret;exact ⟨_,rfl,by omega,by omega,r2,zah b1 b2⟩
 |true=>
  go_wp2_with fail;have hl:=RowAt.new w1 2 #[Value.int IntKind.i64 (lo-1),Value.int IntKind.i64 (hi+1),Value.int IntKind.i64 (-9223372036854775808),Value.int IntKind.i64 9223372036854775807];have hb:Below w1.heap.size w1 (w1.alloc (.cells #[Value.int IntKind.i64 (lo-1),Value.int IntKind.i64 (hi+1),Value.int IntKind.i64 (-9223372036854775808),Value.int IntKind.i64 9223372036854775807] 2)):=(Below.refl _ w1).alloc (Nat.le_refl _) _;generalize w1.alloc (.cells #[Value.int IntKind.i64 (lo-1),Value.int IntKind.i64 (hi+1),Value.int IntKind.i64 (-9223372036854775808),Value.int IntKind.i64 9223372036854775807] 2)=w2 at*;have g2:=zcc b1 hb;refine (below_any rb a n c 4 w2 (r1.below hb s1) (by omega) (by omega)).mono ?_;rintro e w3 ⟨k,rfl,k0,k1,r3,g3⟩;have hl3:RowAt w3 w1.heap.size 2 _:=(g3.block w1.heap.size hl.lt (by simp;omega)).trans hl;have l0:=hl3.cell 0;have l1:=hl3.cell 1;have l2:=hl3.cell 2;have l3:=hl3.cell 3;simp at l0 l1 l2 l3;have g:=zah g2 g3;clear hl3 hl g3;have hk:k=0∨k=1∨k=2∨k=3:=by omega
  rcases hk with rfl|rfl|rfl|rfl;all_goals
   go_wp2;go_ret;exact ⟨_,rfl,by omega,by omega,r3,g⟩
end Go.Proofs.YtibhabajknikcaaGreatDoor.Hp
namespace Go.Proofs.YtibhabajknikcaaGreatDoor.Kk
open Go.RowKit
theorem near_any (rb:Nat) (a:Option Addr) (n c:Nat) (w:World) (h:Rd w rb a n c):
  Calls Tryz.prog 69 #[.pointer (some ⟨rb,0,none⟩),.int .i64 (-3),.int .i64 3] w fun e w'=>∃x:Int,e= .returned (.int .i64 x)∧fitS x∧Rd w' rb a n c∧w.grownBy w' (some rb):=by
 go_enter Tryz.func69,Tryz.ntmps69;go_wp2_with fail;refine (zde rb a n c 8 w h (by omega) (by omega)).mono ?_;rintro e w1 ⟨j,rfl,hj,r1,g1⟩;by_cases j0:j=0
 ·subst j0;go_wp2;go_ret;exact ⟨-3,rfl,⟨by omega,by omega⟩,r1,g1⟩
 by_cases j1:j=1
 ·subst j1;go_wp2;go_ret;exact ⟨3,rfl,⟨by omega,by omega⟩,r1,g1⟩
 have d0:((j:Int)==0)=false:=by simp;omega
 have d1:((j:Int)==1)=false:=by simp;omega
 go_wp2_with fail;refine (word_any rb a n c w1 r1).mono ?_;rintro e w2 ⟨x,rfl,x0,x1,r2,g2⟩;have gg:=zah g1 g2;clear g2;go_wp2;go_ret;exact ⟨_,rfl,⟨by omega,by omega⟩,r2,gg⟩
def IntsC (C:Array Value):Prop:=∀j,j<C.size→∃x:Int,C[j]?=some (.int .i64 x)∧fitS x
theorem offs_ok:IntsC #[.int .i64 (-4),.int .i64 4,.int .i64 (-9223372036854775808),.int .i64 9223372036854775807]:=fun j hj=>by
 have hj':j<4:=hj;match j,hj' with
 |0,_=>exact ⟨-4,rfl,by unfold fitS;omega⟩
 |1,_=>exact ⟨4,rfl,by unfold fitS;omega⟩
 |2,_=>exact ⟨-9223372036854775808,rfl,by unfold fitS;omega⟩
 |3,_=>exact ⟨9223372036854775807,rfl,by unfold fitS;omega⟩
theorem off_any (rb:Nat) (a:Option Addr) (n c:Nat) (w:World) (h:Rd w rb a n c) (hrb:rb<w.heap.size):
  Calls Tryz.prog 34 #[.pointer (some ⟨rb,0,none⟩),.int .i64 (-3),.int .i64 3] w fun e w'=>∃x:Int,e= .returned (.int .i64 x)∧fitS x∧Rd w' rb a n c∧w.grownBy w' (some rb):=by
 go_enter Tryz.func34,Tryz.ntmps34;go_wp2_with fail;refine (once_any rb a n c 24 w h (by omega) (by omega)).mono ?_;rintro e w1 ⟨b,rfl,r1,g1⟩;have b1:=zcg hrb g1;cases b with
 |false=>
  go_wp2_with fail;refine (near_any rb a n c w1 r1).mono ?_;rintro e w2 ⟨x,rfl,hx,r2,g2⟩;have gg:=zah g1 g2;go_wp2;go_ret;exact ⟨x,rfl,hx,r2,gg⟩
 |true=>
  have hl:=RowAt.new w1 2 #[.int .i64 (-4),.int .i64 4,.int .i64 (-9223372036854775808),.int .i64 9223372036854775807];have hb:Below w1.heap.size w1 (w1.alloc (.cells #[.int .i64 (-4),.int .i64 4,.int .i64 (-9223372036854775808),.int .i64 9223372036854775807] 2)):=(Below.refl _ w1).alloc (Nat.le_refl _) _;go_wp2_with fail;generalize w1.alloc (.cells #[.int .i64 (-4),.int .i64 4,.int .i64 (-9223372036854775808),.int .i64 9223372036854775807] 2)=w2 at*;refine (zde rb a n c 4 w2 (r1.below hb b1) (by omega) (by omega)).mono ?_;rintro e w3 ⟨j,rfl,hj,r3,g3⟩;have gg:=zah (zcc g1 hb) g3;obtain ⟨x,hx,hfx⟩:=offs_ok j hj;have hc:w3.cell? ⟨w1.heap.size,j,none⟩=some (.int .i64 x):=((row_read hl g3 (by omega)).cell j).trans hx;have j0:(0:Int)≤(j:Int):=by omega
  have j1:(j:Int)<4:=by omega
  clear hl hb g3 hx;go_wp2;go_ret;exact ⟨x,rfl,hfx,r3,gg⟩
theorem near14 (rb:Nat) (a:Option Addr) (n c:Nat) (w:World) (h:Rd w rb a n c):
  Calls Tryz.prog 69 #[.pointer (some ⟨rb,0,none⟩),.int .i64 1,.int .i64 4] w fun e w'=>∃x:Int,e= .returned (.int .i64 x)∧fitS x∧Rd w' rb a n c∧w.grownBy w' (some rb):=by
 go_enter Tryz.func69,Tryz.ntmps69;go_wp2_with fail;refine (zde rb a n c 8 w h (by omega) (by omega)).mono ?_;rintro e w1 ⟨j,rfl,hj,r1,g1⟩;by_cases j0:j=0
 ·subst j0;go_wp2;go_ret;exact ⟨1,rfl,⟨by omega,by omega⟩,r1,g1⟩
 by_cases j1:j=1
 ·subst j1;go_wp2;go_ret;exact ⟨4,rfl,⟨by omega,by omega⟩,r1,g1⟩
 have d0:((j:Int)==0)=false:=by simp;omega
 have d1:((j:Int)==1)=false:=by simp;omega
 go_wp2_with fail;refine (word_any rb a n c w1 r1).mono ?_;rintro e w2 ⟨x,rfl,x0,x1,r2,g2⟩;have gg:=zah g1 g2;clear g2;go_wp2;go_ret;exact ⟨_,rfl,⟨by omega,by omega⟩,r2,gg⟩
theorem offs14:IntsC #[.int .i64 0,.int .i64 5,.int .i64 (-9223372036854775808),.int .i64 9223372036854775807]:=fun j hj=>by
 have hj':j<4:=hj;match j,hj' with
 |0,_=>exact ⟨0,rfl,by unfold fitS;omega⟩
 |1,_=>exact ⟨5,rfl,by unfold fitS;omega⟩
 |2,_=>exact ⟨-9223372036854775808,rfl,by unfold fitS;omega⟩
 |3,_=>exact ⟨9223372036854775807,rfl,by unfold fitS;omega⟩
theorem off14 (rb:Nat) (a:Option Addr) (n c:Nat) (w:World) (h:Rd w rb a n c) (hrb:rb<w.heap.size):
  Calls Tryz.prog 34 #[.pointer (some ⟨rb,0,none⟩),.int .i64 1,.int .i64 4] w fun e w'=>∃x:Int,e= .returned (.int .i64 x)∧fitS x∧Rd w' rb a n c∧w.grownBy w' (some rb):=by
 go_enter Tryz.func34,Tryz.ntmps34;go_wp2_with fail;refine (once_any rb a n c 24 w h (by omega) (by omega)).mono ?_;rintro e w1 ⟨b,rfl,r1,g1⟩;have b1:=zcg hrb g1;cases b with
 |false=>
  go_wp2_with fail;refine (near14 rb a n c w1 r1).mono ?_;rintro e w2 ⟨x,rfl,hx,r2,g2⟩;have gg:=zah g1 g2;go_wp2;go_ret;exact ⟨x,rfl,hx,r2,gg⟩
 |true=>
  have hl:=RowAt.new w1 2 #[.int .i64 0,.int .i64 5,.int .i64 (-9223372036854775808),.int .i64 9223372036854775807];have hb:Below w1.heap.size w1 (w1.alloc (.cells #[.int .i64 0,.int .i64 5,.int .i64 (-9223372036854775808),.int .i64 9223372036854775807] 2)):=(Below.refl _ w1).alloc (Nat.le_refl _) _;go_wp2_with fail;generalize w1.alloc (.cells #[.int .i64 0,.int .i64 5,.int .i64 (-9223372036854775808),.int .i64 9223372036854775807] 2)=w2 at*;refine (zde rb a n c 4 w2 (r1.below hb b1) (by omega) (by omega)).mono ?_;rintro e w3 ⟨j,rfl,hj,r3,g3⟩;have gg:=zah (zcc g1 hb) g3;obtain ⟨x,hx,hfx⟩:=offs14 j hj;have hc:w3.cell? ⟨w1.heap.size,j,none⟩=some (.int .i64 x):=((row_read hl g3 (by omega)).cell j).trans hx;have j0:(0:Int)≤(j:Int):=by omega
  have j1:(j:Int)<4:=by omega
  clear hl hb g3 hx;go_wp2;go_ret;exact ⟨x,rfl,hfx,r3,gg⟩
theorem cell_grown {w w':World} {rb b o:Nat} {v:Value} (h:w.cell? ⟨b,o,none⟩=some v) (g:w.grownBy w' (some rb)) (hne:b≠rb):w'.cell? ⟨b,o,none⟩=some v:=
 (World.cell?_of_block (w:=w) (a:=⟨b,o,none⟩) (g.block b (block_lt_of_cell h) (fun e=>hne (Option.some.inj e)))).trans h
def RanksEnd (w:World) (rb:Nat) (a:Option Addr) (n c:Nat) (e:Ending) (w':World):Prop:=
 ∃(v:Value) (M:List Rk),e= .returned v∧M.length≤6∧FitL M∧OwnR w' w.heap.size v M∧Rd w' rb a n c∧w.grownBy w' (some rb)
theorem OwnR.kept' {w w':World} {B A cap rb:Nat} {M:List Rk} {m:Nat} (h:OwnR w B (.slice (some ⟨A,0,none⟩) m cap) M) (g:w.grownBy w' (some rb)) (hne:A≠rb):OwnR w' B (.slice (some ⟨A,0,none⟩) m cap) M:=
 World.ownsRow.kept h g (.inr fun e=>hne (Option.some.inj e))
theorem lranked_ex (a:Option Addr) (b off n c:Nat) (L:List Rk) (m:ByteArray) (s:Int) (w:World) (h:zdh w a b off n L) (hn:n≤1048577):
  Calls Tryz.prog 67 #[.slice a n c,.string m,.int .i64 s] w fun e w'=>∃A cc M',e= .returned (.slice (some ⟨A,0,none⟩) (List.length M') cc)∧M'.length≤n+1∧(FitL L→fitS s→FitL M')∧OwnR w' w.heap.size (.slice (some ⟨A,0,none⟩) M'.length cc) M'∧Below w.heap.size w w':=
 (lranked_any a b off n c L m s w h hn).mono fun e w' ⟨A,cc,he,ho,hb⟩=>⟨A,cc,_,he,by rw [ins_len];have:=without_len L m;rw [h.len] at this;omega,fun h1 h2=>fit_ins (fit_without h1) h2,ho,hb⟩
theorem grown_one (w:World) (o:Obj) (r:Option Nat):w.grownBy (w.alloc o).drew r:=⟨rfl,rfl,rfl,by show w.heap.size≤(w.alloc o).heap.size;simp,fun k hk _=>Below.heap_alloc w o k hk⟩
theorem ranksD_any (rb:Nat) (a:Option Addr) (n c:Nat) (w:World) (h:Rd w rb a n c) (hrb:rb<w.heap.size):
  Calls Tryz.prog 68 #[.pointer (some ⟨rb,0,none⟩)] w (RanksEnd w rb a n c):=by
 obtain ⟨i0,hi,hz0,hz1,hz2⟩:=info_parts info30;have hb:Below w.heap.size w (w.alloc (.cells #[] 102)):=(Below.refl _ w).alloc (Nat.le_refl _) _;have ho:=ownR_none w w.heap.size (Nat.le_refl _);have hs5:SmallC #[.string ⟨#[97]⟩,.string ⟨#[98]⟩,.string ⟨#[99]⟩,.string ⟨#[100]⟩,.string ⟨#[]⟩]:=small_of [⟨#[97]⟩,⟨#[98]⟩,⟨#[99]⟩,⟨#[100]⟩,⟨#[]⟩] (by decide);go_enter Tryz.func68,Tryz.ntmps68;go_wp2_with fail;generalize w.alloc (.cells #[] 102)=w1 at*;refine (zde rb a n c 6 w1 (h.below hb hrb) (by omega) (by omega)).mono ?_;rintro e w2 ⟨q,rfl,hq,r2,g2'⟩;have g2:=zah (zcc (grown_refl w _) hb) g2';have o2:=OwnR.kept' (M:=[]) ho g2' (by omega);clear ho hb g2' h;go_wp2_with fail;go_loopw [3,4] (fun v i wr=>∃(q A cc:Nat) (M:List Rk),q+M.length≤5∧i= .int .i64 q∧v= .slice (some ⟨A,0,none⟩) M.length cc∧OwnR wr w.heap.size (.slice (some ⟨A,0,none⟩) M.length cc) M∧FitL M∧Rd wr rb a n c∧w.grownBy wr (some rb)) (fun _ i _=> (intOf i).toNat)
 case atStart=>exact ⟨q,w.heap.size,0,[],by simp;omega,rfl,rfl,o2,fun x hx=>by simp at hx,r2,g2⟩
 case round=>
  obtain ⟨q,A,cc,M,hqM,rfl,rfl,hown,hfit,rd,gr⟩:=hrel;clear o2 r2 g2;have HF:Hid (FitL M):=hfit;clear hfit;have sr:=gr.size;have hrw:rb<wr.heap.size:=zcg hrb gr;have hA:w.heap.size≤A:=(hown.lt A rfl).1;have hne:A≠rb:=by omega
  by_cases h0:0<q
  ·have hd:(0:Int)<(q:Int):=by omega
   have rD:Rd wr.drew rb a n c:=rd.below (B:=wr.heap.size) (below_drewN (Below.refl _ wr) 1) hrw;have bA:Below wr.heap.size wr (wr.alloc (.cells #[.string ⟨#[97]⟩,.string ⟨#[98]⟩,.string ⟨#[99]⟩,.string ⟨#[100]⟩,.string ⟨#[]⟩] 9)).drew:=below_drewN ((Below.refl _ wr).alloc (Nat.le_refl _) _) 1;have rA:Rd (wr.alloc (.cells #[.string ⟨#[97]⟩,.string ⟨#[98]⟩,.string ⟨#[99]⟩,.string ⟨#[100]⟩,.string ⟨#[]⟩] 9)).drew rb a n c:=rd.below bA hrw;have rowA:RowAt (wr.alloc (.cells #[.string ⟨#[97]⟩,.string ⟨#[98]⟩,.string ⟨#[99]⟩,.string ⟨#[100]⟩,.string ⟨#[]⟩] 9)).drew wr.heap.size 9 #[.string ⟨#[97]⟩,.string ⟨#[98]⟩,.string ⟨#[99]⟩,.string ⟨#[100]⟩,.string ⟨#[]⟩]:=RowAt.new wr 9 _;have oD:OwnR wr.drew w.heap.size (.slice (some ⟨A,0,none⟩) M.length cc) M:=hown;have oA:OwnR (wr.alloc (.cells #[.string ⟨#[97]⟩,.string ⟨#[98]⟩,.string ⟨#[99]⟩,.string ⟨#[100]⟩,.string ⟨#[]⟩] 9)).drew w.heap.size (.slice (some ⟨A,0,none⟩) M.length cc) M:=hown.kept' (grown_one wr _ (some rb)) hne;have gD:w.grownBy wr.drew (some rb):=zah gr (grown_drewN wr 1 _);have gA:w.grownBy (wr.alloc (.cells #[.string ⟨#[97]⟩,.string ⟨#[98]⟩,.string ⟨#[99]⟩,.string ⟨#[100]⟩,.string ⟨#[]⟩] 9)).drew (some rb):=zah gr (grown_one wr _ _);have hml:M.length≤5:=by omega
   clear hown rd;go_wp2_with fail
   go_region_with (first
    |(go_at_call_of 15 (Value.int IntKind.i64 5);refine (zde rb a n c 5 _ (by with_reducible first|exact rD|exact rA) (by omega) (by omega)).mono ?_;rintro e w2 ⟨j,rfl,hj,r2,g2⟩;have o2:OwnR w2 w.heap.size (.slice (some ⟨A,0,none⟩) M.length cc) M:=by first|exact oD.kept' g2 hne|exact oA.kept' g2 hne
      have gw2:w.grownBy w2 (some rb):=by first|exact zah gD g2|exact zah gA g2
      have j0:(0:Int)≤(j:Int):=by omega
      have j1:(j:Int)<5:=by omega
      have lt2:rb<w2.heap.size:=zcg hrb gw2;have r2a:Rd (w2.alloc (.cells #[.string ⟨#[97]⟩,.string ⟨#[98]⟩,.string ⟨#[99]⟩,.string ⟨#[100]⟩,.string ⟨#[]⟩] 9)) rb a n c:=r2.below (B:=w2.heap.size) ((Below.refl _ w2).alloc (Nat.le_refl _) _) lt2;have o2a:OwnR (w2.alloc (.cells #[.string ⟨#[97]⟩,.string ⟨#[98]⟩,.string ⟨#[99]⟩,.string ⟨#[100]⟩,.string ⟨#[]⟩] 9)) w.heap.size (.slice (some ⟨A,0,none⟩) M.length cc) M:=OwnR.below o2 ((Below.refl _ w2).alloc (Nat.le_refl _) _);have g2a:w.grownBy (w2.alloc (.cells #[.string ⟨#[97]⟩,.string ⟨#[98]⟩,.string ⟨#[99]⟩,.string ⟨#[100]⟩,.string ⟨#[]⟩] 9)) (some rb):=zcc gw2 ((Below.refl _ w2).alloc (Nat.le_refl _) _);obtain ⟨x2,hx2,_⟩:=pick_cell (RowAt.new w2 9 #[.string ⟨#[97]⟩,.string ⟨#[98]⟩,.string ⟨#[99]⟩,.string ⟨#[100]⟩,.string ⟨#[]⟩]) hs5 j hj;first
       |(obtain ⟨x1,hx1,_⟩:=pick_cell (row_read rowA g2 (by omega)) hs5 j hj;clear g2)
       |clear g2)
    |(go_at_call_of 15 (Value.int IntKind.i64 7);refine (zde rb a n c 7 _ (by with_reducible first|exact r2|exact r2a) (by omega) (by omega)).mono ?_;rintro e w3 ⟨k,rfl,hk,r3,g3⟩;have o3:OwnR w3 w.heap.size (.slice (some ⟨A,0,none⟩) M.length cc) M:=by first|exact o2.kept' g3 hne|exact o2a.kept' g3 hne
      have gw3:w.grownBy w3 (some rb):=by first|exact zah gw2 g3|exact zah g2a g3
      have lt3:rb<w3.heap.size:=zcg hrb gw3;have b3:Below w3.heap.size w3 (w3.alloc (.cells #[.string ⟨#[97]⟩,.string ⟨#[98]⟩,.string ⟨#[99]⟩,.string ⟨#[100]⟩,.string ⟨#[]⟩] 9)):=(Below.refl _ w3).alloc (Nat.le_refl _) _;have r3a:Rd (w3.alloc (.cells #[.string ⟨#[97]⟩,.string ⟨#[98]⟩,.string ⟨#[99]⟩,.string ⟨#[100]⟩,.string ⟨#[]⟩] 9)) rb a n c:=r3.below b3 lt3;have R3:=own_in o3 rfl;have R3a:=own_in (OwnR.below o3 b3) rfl;have g3a:w.grownBy (w3.alloc (.cells #[.string ⟨#[97]⟩,.string ⟨#[98]⟩,.string ⟨#[99]⟩,.string ⟨#[100]⟩,.string ⟨#[]⟩] 9)) (some rb):=zcc gw3 b3;have s3a:w3.heap.size<(w3.alloc (.cells #[.string ⟨#[97]⟩,.string ⟨#[98]⟩,.string ⟨#[99]⟩,.string ⟨#[100]⟩,.string ⟨#[]⟩] 9)).heap.size:=by simp
      obtain ⟨x3,hx3,_⟩:=pick_cell (RowAt.new w3 9 #[.string ⟨#[97]⟩,.string ⟨#[98]⟩,.string ⟨#[99]⟩,.string ⟨#[100]⟩,.string ⟨#[]⟩]) hs5 j hj;have k7:(k:Int)<7:=by omega
      have kw:IntKind.i64.wrap ((k:Int)-3)=(k:Int)-3:=wrap_small (by omega) (by omega);first
       |(have hx13:=cell_grown hx1 g3 (by omega);clear g3)
       |(have hx23:=cell_grown hx2 g3 (by omega);clear g3)
       |clear g3)
    |(go_at_call 67;refine (lranked_ex (some ⟨A,0,none⟩) A 0 M.length cc M _ _ _ (by with_reducible first|exact R3|exact R3a) (by omega)).mono ?_;rintro e w4 ⟨A',cc',M',rfl,hl4,hf4,o4,b4⟩;have r4:Rd w4 rb a n c:=by first|exact r3.below b4 lt3|exact r3a.below b4 (by omega)
      have g4:w.grownBy w4 (some rb):=by first|exact zcc gw3 b4|exact zcc g3a b4
      have o4':=OwnR.wide o4 (B':=w.heap.size) (by have:=gw3.size;omega);clear o4 b4))
   all_goals go_wp2
   all_goals
    go_roundw
    case rel=>exact ⟨q-1,A',cc',M',by omega,by go_num,rfl,o4',hf4 HF.out ⟨by omega,by omega⟩,r4,g4⟩
    case measure=>simp [intOf];omega
  ·obtain rfl:q=0:=by omega
   have hml:M.length≤5:=by omega
   go_wp2_with fail;refine (once_any rb a n c 30 wr rd (by omega) (by omega)).mono ?_;rintro e w3 ⟨b,rfl,r3,g3'⟩;have g3:=zah gr g3';have lt3:=zcg hrb g3;have o3:=hown.kept' g3' hne;clear g3' hown;cases b with
   |false=>
    have HO:Hid _:=o3;clear o3;go_wp2;go_ret;exact ⟨_,M,rfl,by omega,HF.out,HO.out,r3,g3⟩
   |true=>
    go_wp2_with fail;refine (off_any rb a n c w3 r3 lt3).mono ?_;rintro e w4 ⟨x,rfl,hx,r4,g4'⟩;have g4:=zah g3 g4';have lt4:=zcg hrb g4;have o4:=o3.kept' g4' hne;have s4:=g4.size;clear o3 g4' g3;have HX:Hid (fitS x):=hx;clear hx;go_wp2_with (at_builtin;refine wpList_append_own _ rfl _ _ 56 rfl w.heap.size 102 i0 _ 2 24 Tryz.underlying56 hi hz0 hz1 hz2 rfl (by decide) _ _ _ rfl (o4.alloc _) ⟨w4.heap.size,0,none⟩ 1 1 [.string ⟨#[97]⟩,.int .i64 x] rfl rfl ?c1 ?c2 ?c3 ?c4 ?c5 ?_)
    case c1=>
     intro j u hj;rw [Addr.add_lit,Nat.zero_add];exact ((RowAt.new w4 102 #[.string ⟨#[97]⟩,.int .i64 x]).cell j).trans (by simpa using hj)
    case c2=>exact fun u hu=>by simp at hu;rcases hu with rfl|rfl<;>rfl
    case c3=>unfold maxLen;omega
    case c4=>omega
    case c5=>simp;omega
    intro v' w5 hown' hgrow _;have hold:∀k,k<w4.heap.size→k≠A→w5.heap[k]?=w4.heap[k]?:=fun k hk hne=>by
     rw [hgrow.block k (by simp;omega) (fun e=>hne (Option.some.inj e))];exact Below.heap_alloc _ _ _ hk
    have g5:w.grownBy w5 (some rb):=⟨hgrow.os.trans g4.os,hgrow.tape.trans g4.tape,hgrow.output.trans g4.output,by have:=hgrow.size;simp at this;omega,fun k hk hne=> (hold k (by omega) (by omega)).trans (g4.block k hk hne)⟩;have b45:Below w.heap.size w4 w5:=⟨hgrow.os,hgrow.tape,hgrow.output,by have:=hgrow.size;simp at this;omega,fun k hk=>hold k (by omega) (by omega)⟩;have r5:Rd w5 rb a n c:=r4.below b45 hrb;have HO:Hid (OwnR w5 w.heap.size v' (M++ [⟨⟨#[97]⟩,x⟩])):=by
     unfold Hid OwnR;rw [flatR_app,List.length_append];exact hown'
    clear hown' hgrow hold o4;go_wp2;go_ret
    exact ⟨v',M++ [⟨⟨#[97]⟩,x⟩],rfl,by simp;omega,fun y hy=>by
     rcases List.mem_append.1 hy with hy|hy
     ·exact HF.out y hy
     ·simp at hy;subst hy;exact HX.out,HO.out,r5,g5⟩
end Go.Proofs.YtibhabajknikcaaGreatDoor.Kk
