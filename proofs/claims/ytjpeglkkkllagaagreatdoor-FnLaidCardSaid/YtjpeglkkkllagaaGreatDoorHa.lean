import Derived.Test.YtjpeglkkkllagaaGreatDoorHp5
import Derived.Test.YtjpeglkkkllagaaGreatDoorVa
import Derived.Test.YtjpeglkkkllagaaGreatDoorHRow
import Derived.Test.YtjpeglkkkllagaaGreatDoorIv
import Derived.Deep.RegionHeldLaw
import Derived.Deep.RegionLaw
import Derived.Deep.RegionWith
import Derived.Deep.CutBlock
import Derived.Deep.DeepCutAuto
import Derived.Lib.SmallJoins
import Derived.Lib.QuietBelow
set_option maxHeartbeats 8000000
set_option maxRecDepth 100000
namespace Go.Proofs.YtjpeglkkkllagaaGreatDoor.Hp
open Go.RowKit Go.Sort
theorem info62x:(Tryz.prog.info? 84).map (fun i=> (i.zero,i.size,i.bytes))=some (some (.agg #[.int .i64 0,.int .i64 0,.int .i64 0,.bool false]),4,32):=by kernel_rfl
def firstG (want:Nat):List (Nat×Nat)→Int
 | []=>-1
 |g::r=>if want≤g.2 then g.1 else firstG want r
theorem gapFold_first (want:Nat):∀(l:List (Nat×Nat)) (X Y:Int),(l.foldl (gapStep want) (X,Y)).1=if X<0 then (if firstG want l<0 then X else firstG want l) else X
 | [],X,Y=>by
  show X=_;simp [firstG]
 |g::r,X,Y=>by
  obtain ⟨e,k⟩:=g;rw [List.foldl_cons];have:=gapFold_first want r (gapStep want (X,Y) (e,k)).1 (gapStep want (X,Y) (e,k)).2;rw [show ((gapStep want (X,Y) (e,k)).1,(gapStep want (X,Y) (e,k)).2)=gapStep want (X,Y) (e,k) from rfl] at this;rw [this];have ef:firstG want ((e,k)::r)=if want≤k then (e:Int) else firstG want r:=rfl;rw [ef];by_cases hX:X<0
  ·by_cases hw:want≤k
   ·have e1:(gapStep want (X,Y) (e,k)).1=e:=if_pos ⟨hX,by show (want:Int)≤k;omega⟩;rw [e1,if_neg (by omega),if_pos hX,if_pos hw,if_neg (by omega)]
   ·have e1:(gapStep want (X,Y) (e,k)).1=X:=if_neg (by rintro ⟨_,h⟩;simp only at h;omega);rw [e1,if_pos hX,if_pos hX,if_neg hw]
  ·have e1:(gapStep want (X,Y) (e,k)).1=X:=if_neg (by rintro ⟨h,_⟩;exact hX h);rw [e1,if_neg hX,if_neg hX]
theorem first_nz (want:Nat) (h:1≤want):∀l:List (Nat×Nat),firstG want (nz l)=firstG want l
 | []=>rfl
 |g::r=>by
  obtain ⟨e,k⟩:=g;rw [nz_cons];by_cases hk:k=0
  ·rw [if_pos hk,List.nil_append,first_nz want h r,firstG,if_neg (by simp only;omega)]
  ·rw [if_neg hk,List.singleton_append,firstG,firstG,first_nz want h r]
theorem first_neg (want:Nat):∀l:List (Nat×Nat),firstG want l<0→firstG want l= -1
 | [],_=>rfl
 |g::r,h=>by
  rw [firstG] at h ⊢;split at h
  ·omega
  ·rename_i hw;rw [if_neg hw];exact first_neg want r h
theorem put_at {n want:Nat} {L:List Cl} {t:Nat→Bool} (h:Right n L t) (hw:1≤want):(gapFold want n (liveC [] L) 0 (-1,0)).1=firstG want (scanM t n).1:=by
 unfold gapFold;rw [gapFold_first,h.scan,first_nz want hw,if_pos (by omega)];split
 ·rename_i hl;exact (first_neg want _ hl).symm
 ·rfl
theorem first_room (want n:Nat):∀(l:List (Nat×Nat)),(∀g∈l,g.1+g.2≤n)→0≤firstG want l→firstG want l+want≤n
 | [],_,h=>by simp [firstG] at h
 |g::r,hb,h=>by
  rw [firstG] at h ⊢;split
  ·rename_i hw;have:=hb g (by simp);omega
  ·rename_i hw;rw [if_neg hw] at h;exact first_room want n r (fun x hx=>hb x (by simp [hx])) h
theorem scan_room (t:Nat→Bool):∀k,(∀g∈(scanM t k).1,g.1+g.2≤k)∧((scanM t k).2=true→∃G a l,(scanM t k).1=G++ [(a,l)]∧a+l=k)
 |0=>⟨fun x hx=>by simp [scanM] at hx,fun h=>by simp [scanM] at h⟩
 |k+1=>by
  obtain ⟨h1,h2⟩:=scan_room t k;rw [scanM,stepG];split
  ·exact ⟨fun g hg=>by have:=h1 g hg;omega,fun h=>by simp at h⟩
  ·split
   ·rename_i h;obtain ⟨G,a,l,e,hl⟩:=h2 h;rw [e] at h1;rw [e,bump_last];refine ⟨fun g hg=>?_,fun _=>⟨G,a,l+1,rfl,by omega⟩⟩;rcases List.mem_append.1 hg with h|h
    ·have:=h1 g (by simp [h]);omega
    ·simp at h;subst h;simp only;omega
   ·refine ⟨fun g hg=>?_,fun _=>⟨_,k,1,rfl,rfl⟩⟩;rcases List.mem_append.1 hg with h|h
    ·have:=h1 g h;omega
    ·simp at h;subst h;exact Nat.le_refl _
def freeAt:List Cl→Nat
 | []=>0
 |c::r=>if c.live=false∧c.gen<1000000000 then 0 else freeAt r+1
theorem free_le:∀L:List Cl,freeAt L≤L.length
 | []=>Nat.le_refl _
 |c::r=>by
  rw [freeAt];split
  ·omega
  ·have:=free_le r;simp;omega
theorem free_step (L:List Cl):∀k,k<L.length→(∀i,i<k→¬((L.getD i cl0).live=false∧(L.getD i cl0).gen<1000000000))→(L.getD k cl0).live=false∧(L.getD k cl0).gen<1000000000→freeAt L=k:=by
 induction L with
 |nil=>intro k hk;simp at hk
 |cons c r ih=>
  intro k hk hno hyes;rw [freeAt];cases k with
  |zero=>
   rw [List.getD_cons_zero] at hyes;rw [if_pos hyes]
  |succ k=>
   have h0:=hno 0 (by omega);rw [List.getD_cons_zero] at h0;rw [List.getD_cons_succ] at hyes;rw [if_neg h0,ih k (by simpa using hk) (fun i hi=>by have:=hno (i+1) (by omega);rwa [List.getD_cons_succ] at this) hyes]
theorem free_none (L:List Cl):(∀i,i<L.length→¬((L.getD i cl0).live=false∧(L.getD i cl0).gen<1000000000))→freeAt L=L.length:=by
 induction L with
 |nil=>intro _;rfl
 |cons c r ih=>
  intro hno;have h0:=hno 0 (by simp);rw [List.getD_cons_zero] at h0;rw [freeAt,if_neg h0,ih (fun i hi=>by have:=hno (i+1) (by simpa using hi);rwa [List.getD_cons_succ] at this)];rfl
def roomC (L:List Cl):List Cl:=if freeAt L=L.length then L++ [cl0] else L
theorem room_len (L:List Cl):freeAt L<(roomC L).length:=by
 have:=free_le L;unfold roomC;split
 ·simp;omega
 ·omega
def putData (s:ByteArray) (p:Nat) (x:ByteArray):ByteArray:=s.extract 0 p++x++s.extract (p+x.size) s.size
def putCells (L:List Cl) (p:Nat) (l:Nat):List Cl:=(roomC L).set (freeAt L) ⟨p,l,((roomC L).getD (freeAt L) cl0).gen+1,true⟩
def putOk (s:ByteArray) (L:List Cl) (x:ByteArray):Bool:=heapB s L&&decide (x.size≠0)&&decide (0≤(gapFold x.size s.size (liveC [] L) 0 (-1,0)).1)&&decide (freeAt L≠40)
def putPos (s:ByteArray) (L:List Cl) (x:ByteArray):Nat:=(gapFold x.size s.size (liveC [] L) 0 (-1,0)).1.toNat
def putD (s:ByteArray) (L:List Cl) (x:ByteArray):ByteArray:=if putOk s L x=true then putData s (putPos s L x) x else ⟨#[]⟩
def putL (s:ByteArray) (L:List Cl) (x:ByteArray):List Cl:=if putOk s L x=true then putCells L (putPos s L x) x.size else []
def putRc (s:ByteArray) (L:List Cl) (x:ByteArray):Int:=if putOk s L x=true then (freeAt L:Int) else 0
def putRg (s:ByteArray) (L:List Cl) (x:ByteArray):Int:=if putOk s L x=true then ((roomC L).getD (freeAt L) cl0).gen+1 else 0
def PutEnd (w:World) (s:ByteArray) (L:List Cl) (x:ByteArray) (e:Ending) (w':World):Prop:=
 ∃v,e= .returned (.tuple #[.agg #[.string (putD s L x),v],refV (putRc s L x) (putRg s L x),.bool (putOk s L x)])∧w'.ownsRow w.heap.size 84 4 v (putL s L x).length (flatC (putL s L x))∧Below w.heap.size w w'
theorem put_no {w w':World} {s:ByteArray} {L:List Cl} {x:ByteArray} (h:putOk s L x=false) (hb:Below w.heap.size w w'):PutEnd w s L x (.returned (.tuple #[.agg #[.string ⟨#[]⟩,.slice none 0 0],refV 0 0,.bool false])) w':=by
 unfold PutEnd putD putL putRc putRg;rw [h];exact ⟨_,rfl,World.ownsRow_nil _ _ _ _,hb⟩
theorem put_end {w w':World} {s:ByteArray} {L:List Cl} {x:ByteArray} {v:Value} {D:ByteArray} {M:List Cl} {rc rg:Int} (h:putOk s L x=true) (hD:D=putData s (putPos s L x) x) (hM:M=putCells L (putPos s L x) x.size) (hrc:rc=freeAt L) (hrg:rg=((roomC L).getD (freeAt L) cl0).gen+1)
  (ho:w'.ownsRow w.heap.size 84 4 v M.length (flatC M)) (hb:Below w.heap.size w w'):PutEnd w s L x (.returned (.tuple #[.agg #[.string D,v],refV rc rg,.bool true])) w':=by
 unfold PutEnd putD putL putRc putRg;rw [h];simp only [if_true];subst hD hM hrc hrg;exact ⟨_,rfl,ho,hb⟩
theorem rows_ret {wz:World} {R1 R2:Nat} {A B:Array Value} {D v rc rg:Value} (h1:RowAt wz R1 29 A) (h2:RowAt wz R2 55 B) (hA:A.size=2) (hB:B.size=2) (hne:R1≠R2):
  RowAt ((((wz.setCell ⟨R1,0,none⟩ D).setCell ⟨R1,1,none⟩ v).setCell ⟨R2,0,none⟩ rc).setCell ⟨R2,1,none⟩ rg) R1 29 #[D,v]∧RowAt ((((wz.setCell ⟨R1,0,none⟩ D).setCell ⟨R1,1,none⟩ v).setCell ⟨R2,0,none⟩ rc).setCell ⟨R2,1,none⟩ rg) R2 55 #[rc,rg]:=by
 have two:∀(C:Array Value) (a b:Value),C.size=2→(C.setIfInBounds 0 a).setIfInBounds 1 b= #[a,b]:=fun C a b hC=>by
  obtain ⟨l⟩:=C;match l,hC with
  | [p,q],_=>rfl
 constructor
 ·have e:=(h1.set 0 D).set 1 v;rw [two _ _ _ hA] at e;exact (Below.heap_setCell _ _ _ _ (by simpa using hne)).trans ((Below.heap_setCell _ _ _ _ (by simpa using hne)).trans e)
 ·have q:RowAt ((wz.setCell ⟨R1,0,none⟩ D).setCell ⟨R1,1,none⟩ v) R2 55 B:=(Below.heap_setCell _ _ _ _ (by simpa using hne.symm)).trans ((Below.heap_setCell _ _ _ _ (by simpa using hne.symm)).trans h2);have e:=(q.set 0 rc).set 1 rg;rwa [two _ _ _ hB] at e
theorem put_no_empty (s:ByteArray) (L:List Cl):putOk s L ⟨#[]⟩=false:=by
 unfold putOk;rw [show decide ((⟨#[]⟩:ByteArray).size≠0)=false from rfl,Bool.and_false,Bool.false_and,Bool.false_and]
theorem not_empty {x:ByteArray} (h:¬x.size=0):x.toList.isEmpty=false:=by
 rw [ByteArray.toList_eq,List.isEmpty_eq_false_iff];intro e;exact h (by rw [Lib.size_eq,e];rfl)
theorem empty_of {x:ByteArray} (h:x.size=0):x=⟨#[]⟩:=by
 apply ByteArray.ext;apply Array.eq_empty_of_size_eq_zero;exact h
theorem room_gen {s:ByteArray} {L:List Cl} (h:heapB s L=true):0≤((roomC L).getD (freeAt L) cl0).gen∧((roomC L).getD (freeAt L) cl0).gen≤1000000000:=by
 unfold roomC;split
 ·rename_i e;rw [e,List.getD_eq_getElem?_getD,List.getElem?_concat_length];exact ⟨Int.le_refl _,by decide⟩
 ·rename_i e;have hl:=free_le L;have:=heap_cells h (freeAt L) (by omega);generalize L.getD (freeAt L) cl0=y at*;unfold zce at this;simp at this;omega
theorem put_big {s:ByteArray} {L:List Cl} {x:ByteArray} (h:3000<x.size):putOk s L x=false:=by
 cases hr:heapB s L with
 |false=>unfold putOk;rw [hr];rfl
 |true=>
  obtain ⟨t,_,hR⟩:=heap_right hr;obtain ⟨hs,_⟩:=heap_small hr;have e:=put_at hR (want:=x.size) (by omega);have:¬0≤(gapFold x.size s.size (liveC [] L) 0 (-1,0)).1:=fun h0=>by
   rw [e] at h0;have:=first_room x.size s.size _ (scan_room t s.size).1 h0;omega
  unfold putOk;rw [decide_eq_false this,Bool.and_false,Bool.false_and]
theorem passed_iff {n:Nat} {c:Cl} (h:zce n c=true):(c.live=false∧c.gen<1000000000)↔¬(c.live=true∨c.gen=1000000000):=by
 unfold zce at h;cases hl:c.live<;>rw [hl] at h<;>simp at h ⊢;omega
theorem wrap_small {n:Int} (h1:-9223372036854775808≤n) (h2:n≤9223372036854775807):IntKind.i64.wrap n=n:=by
 simp [IntKind.wrap,IntKind.signed,IntKind.bits];omega
theorem flat_one (L:List Cl):∀u∈flatC L,u.oneCell'=true:=fun u hu=>by
 unfold flatC at hu;obtain ⟨y,_,hy⟩:=List.mem_flatMap.1 hu;simp at hy;rcases hy with rfl|rfl|rfl|rfl<;>rfl
theorem cells_flat {w:World} {b off n:Nat} {L:List Cl} (h:CellsIn w (some ⟨b,off,none⟩) b off n L) (j:Nat) (u:Value) (hj:(flatC L)[j]?=some u):w.cell? ((⟨b,off,none⟩:Addr).add j)=some u:=by
 have hlt:j<L.length*4:=by
  have:=(List.getElem?_eq_some_iff.1 hj).1;rwa [flatC_len] at this
 have e:j=j/4*4+j%4:=by omega
 have hk:j/4<L.length:=by omega
 rw [Addr.add_lit];have hc:=h.cell (j/4) (by rw [←h.len];exact hk);rw [e,flatC_at L (j/4) (j%4) hk (by omega)] at hj;have h4:j%4=0∨j%4=1∨j%4=2∨j%4=3:=by omega
 generalize L.getD (j/4) cl0=y at*;rcases h4 with h4|h4|h4|h4
 ·rw [h4] at hj e;rw [show off+j=off+j/4*4 from by omega,hc.c0];exact hj
 ·rw [h4] at hj e;rw [show off+j=off+j/4*4+1 from by omega,hc.c1];exact hj
 ·rw [h4] at hj e;rw [show off+j=off+j/4*4+2 from by omega,hc.c2];exact hj
 ·rw [h4] at hj e;rw [show off+j=off+j/4*4+3 from by omega,hc.c3];exact hj
theorem append_cells {W:World} {a:Option Addr} {B0 B b off n c:Nat} {L:List Cl} (hc:CellsIn W a b off n L) (he:RowAt W B0 84 #[]) (hB:B≤B0) (hBW:B≤W.heap.size) (hn:n≤40):
  ∃A cap w5,(Builtin.append_ #[27,27] 27 #[.slice (some ⟨B0,0,none⟩) 0 0,.slice a n c]).run Tryz.prog W= .ok (.slice (some ⟨A,0,none⟩) n cap) w5∧w5.ownsRow B 84 4 (.slice (some ⟨A,0,none⟩) n cap) n (flatC L)∧W.grownBy w5 (some B0):=by
 obtain ⟨i0,hi,hz0,hz1,hz2⟩:=info_parts info62x;have hown0:W.ownsRow B 84 4 (.slice (some ⟨B0,0,none⟩) 0 0) 0 []:=
  ⟨rfl,.inr ⟨B0,0, #[],rfl,hB,he,by omega,by unfold maxLen;omega,by simp,by simp⟩⟩
 by_cases hn0:0<n
 ·have ha:=hc.addr hn0;subst ha;obtain ⟨v',w5,hrun,hown5,hgr5,hiff⟩:=run_append_own (P:=Tryz.prog) W B 27 27 84 i0 _ 4 32 Tryz.underlying27 hi hz0 hz1 hz2 rfl (by decide) (.slice (some ⟨B0,0,none⟩) 0 0) 0 [] hown0 ⟨b,off,none⟩ n c (flatC L)
   (by rw [flatC_len,hc.len]) (cells_flat hc) (flat_one L) (by unfold maxLen;omega) (by omega) hBW
  rw [Nat.zero_add,List.nil_append] at hown5;obtain ⟨A5,cap5,rfl⟩:∃A cap,v'= .slice (some ⟨A,0,none⟩) n cap:=by
   rcases Go.Joins.ownsRow_forms hown5 with ⟨e,_⟩|h
   ·have:=hiff.1 e;cases this.1
   ·exact h
  exact ⟨A5,cap5,w5,hrun,hown5,hgr5⟩
 ·obtain rfl:n=0:=by omega
  obtain rfl:L=[]:=List.eq_nil_of_length_eq_zero hc.len;refine ⟨B0,0,W,?_,hown0,grown_refl _ _⟩;cases a<;>simp [Builtin.append_,run_underlying Tryz.underlying27,sizeOf,typeInfo,hi,Builtin.lenOf,Builtin.firstCells,storeCells,loadCells,loadCellsFrom]
theorem specPut_any (s x:ByteArray) (a:Option Addr) (b off n c:Nat) (L:List Cl) (w:World) (h:CellsIn w a b off n L) (hs:s.size≤1048576) (hn:n≤1048576) (hf:∀i,i<n→Fit (L.getD i cl0)) (hx:x.size≤1048576):
  Calls Tryz.prog 24 #[.agg #[.string s,.slice a n c],.string x] w (PutEnd w s L x):=by
 have bw:Below w.heap.size w (((w.alloc (.cells #[.string s,.slice a n c] 29)).alloc (.cells #[.string ⟨#[]⟩,.slice none 0 0] 29)).alloc (.cells #[.int .i64 0,.int .i64 0] 55)):=Go.Joins.below_alloc3 _ _ _ _;have r0:=((RowAt.new w 29 #[.string s,.slice a n c]).below ((Below.refl _ _).alloc (Nat.le_refl _) (.cells #[.string ⟨#[]⟩,.slice none 0 0] 29)) (by simp)).below ((Below.refl _ _).alloc (Nat.le_refl _) (.cells #[.int .i64 0,.int .i64 0] 55)) (by simp;omega);have r1:=(RowAt.new (w.alloc (.cells #[.string s,.slice a n c] 29)) 29 #[.string ⟨#[]⟩,.slice none 0 0]).below ((Below.refl _ _).alloc (Nat.le_refl _) (.cells #[.int .i64 0,.int .i64 0] 55)) (by simp);have r2:=RowAt.new ((w.alloc (.cells #[.string s,.slice a n c] 29)).alloc (.cells #[.string ⟨#[]⟩,.slice none 0 0] 29)) 55 #[.int .i64 0,.int .i64 0];simp only [World.size_alloc] at r1 r2;have h2:=zaj h bw;have l0:=r0.lt;have l1:=r1.lt;have l2:=r2.lt;have HL:Hid (L.length=n):=h.len;go_enter Tryz.func24,Tryz.ntmps24;go_wp2_with fail;generalize ((w.alloc (.cells #[.string s,.slice a n c] 29)).alloc (.cells #[.string ⟨#[]⟩,.slice none 0 0] 29)).alloc (.cells #[.int .i64 0,.int .i64 0] 55)=w1 at*;refine (specOk_any s a b off n c L w1 h2 hs hn hf).mono ?_;rintro e w2 ⟨rfl,b2⟩;have bb:=bw.trans (b2.mono bw.size);have q0:=r0.below b2 l0;have q1:=r1.below b2 l1;have q2:=r2.below b2 l2;have s2:=b2.size;have h3:=zaj h2 b2;clear r0 r1 r2 h2 bw;by_cases hbad:heapB s L=false∨x.size=0∨3000<x.size
 ·have HR:Hid (putOk s L x=false):=by
   rcases hbad with h|h|h
   ·unfold Hid putOk;rw [h];rfl
   ·rw [empty_of h];exact put_no_empty s L
   ·exact put_big h
  obtain ⟨u1,u2⟩:=rows_ret (D:= .string ⟨#[]⟩) (v:= .slice none 0 0) (rc:= .int .i64 0) (rg:= .int .i64 0) q1 q2 rfl rfl (by omega);obtain ⟨e0,e1⟩:=zbb q1;obtain ⟨e2,e3⟩:=zbb q2;obtain ⟨g0,g1⟩:=zbb u1;obtain ⟨g2,g3⟩:=zbb u2;have f0:=q1.frozen 0;have f1:=q1.frozen 1;have f2:=q2.frozen 0;have f3:=q2.frozen 1;clear q0 q1 q2 u1 u2 h3;have fin:PutEnd w s L x (.returned (.tuple #[.agg #[.string ⟨#[]⟩,.slice none 0 0],refV 0 0,.bool false])) ((((w2.setCell ⟨w.heap.size+1,0,none⟩ (.string ⟨#[]⟩)).setCell ⟨w.heap.size+1,1,none⟩ (.slice none 0 0)).setCell ⟨w.heap.size+1+1,0,none⟩ (.int .i64 0)).setCell ⟨w.heap.size+1+1,1,none⟩ (.int .i64 0)):=
   put_no HR.out ((((bb.setCell (by simp) _).setCell (by simp) _).setCell (by simp;omega) _).setCell (by simp;omega) _)
  have FIN:Hid (PutEnd w s L x (.returned (.tuple #[.agg #[.string ⟨#[]⟩,.slice none 0 0],refV 0 0,.bool false])) ((((w2.setCell ⟨w.heap.size+1,0,none⟩ (.string ⟨#[]⟩)).setCell ⟨w.heap.size+1,1,none⟩ (.slice none 0 0)).setCell ⟨w.heap.size+1+1,0,none⟩ (.int .i64 0)).setCell ⟨w.heap.size+1+1,1,none⟩ (.int .i64 0))):=fin;clear fin;cases hr:heapB s L with
  |false=>
   clear hbad hr;go_wp2;exact bodyPost_ret (v:= .tuple #[.agg #[.string ⟨#[]⟩,.slice none 0 0],refV 0 0,.bool false]) (by simp [results,Tryz.results24,go_sem,g0,g1,g2,g3]) rfl FIN.out
  |true=>
   by_cases hx0:x.size=0
   ·have hxb:x.toList.isEmpty=true:=by rw [ByteArray.toList_eq,empty_of hx0];rfl
    clear hbad hr;go_wp2;exact bodyPost_ret (v:= .tuple #[.agg #[.string ⟨#[]⟩,.slice none 0 0],refV 0 0,.bool false]) (by simp [results,Tryz.results24,go_sem,g0,g1,g2,g3]) rfl FIN.out
   ·have hxb:=not_empty hx0;have hxi:(3000:Int)<(x.size:Int):=by
     rcases hbad with h|h|h
     ·rw [hr] at h;cases h
     ·exact absurd h hx0
     ·omega
    clear hbad hr;go_wp2;exact bodyPost_ret (v:= .tuple #[.agg #[.string ⟨#[]⟩,.slice none 0 0],refV 0 0,.bool false]) (by simp [results,Tryz.results24,go_sem,g0,g1,g2,g3]) rfl FIN.out
 ·have hr:heapB s L=true:=by
   cases hh:heapB s L with
   |true=>rfl
   |false=>exact absurd (.inl hh) hbad
  have hx0:¬x.size=0:=fun e=>hbad (.inr (.inl e));have hx3:x.size≤3000:=Nat.le_of_not_lt fun e=>hbad (.inr (.inr e));have hxb:=not_empty hx0;have hxi:¬(3000:Int)<(x.size:Int):=by omega
  have HH:Hid (heapB s L=true):=hr;rw [hr];clear hbad hr;obtain ⟨hs3,hL⟩:=heap_small HH.out;obtain ⟨e0,e1⟩:=zbb q0;have hLG:=l3Gap_any s a b off n c L x.size w2 h3 (by omega) (by omega) HH.out;obtain ⟨t,_,hR⟩:=heap_right HH.out;have HPA:=put_at hR (want:=x.size) (by omega);have HPR:Hid (0≤(gapFold x.size s.size (liveC [] L) 0 (-1,0)).1→(gapFold x.size s.size (liveC [] L) 0 (-1,0)).1+x.size≤s.size):=fun h0=>by
   rw [HPA] at h0 ⊢;exact first_room x.size s.size _ (scan_room t s.size).1 h0
  have HXe:Hid (∃X Y,gapFold x.size s.size (liveC [] L) 0 (-1,0)=(X,Y)):=⟨_,_,rfl⟩;obtain ⟨X,Y,hXY⟩:=HXe.out;rw [hXY] at hLG;have HPR2:Hid (0≤X→X+x.size≤s.size):=by
   have:=HPR.out;rw [hXY] at this;exact this
  have HXY:Hid ((gapFold x.size s.size (liveC [] L) 0 (-1,0)).1=X):=by unfold Hid;rw [hXY]
  have HSp:Hid (∀i,i<n→((L.getD i cl0).live=false∧(L.getD i cl0).gen<1000000000↔¬((L.getD i cl0).live=true∨(L.getD i cl0).gen=1000000000))):=fun i hi=>passed_iff (heap_cells HH.out i (by rw [HL.out];exact hi));clear hXY HXe HPA hR HPR;simp only at hLG;go_wp2_with fail;refine hLG.mono ?_;clear hLG;rintro e w3 ⟨rfl,b3⟩;have bb3:=bb.trans (b3.mono bb.size);have s3:=b3.size;have p0:=q0.below b3 (by omega);have p1:=q1.below b3 (by omega);have p2:=q2.below b3 (by omega);have h4:=zaj h3 b3;clear q0 q1 q2 h3 e0 e1;obtain ⟨e0,e1⟩:=zbb p0;go_upto_block 0 with fail;go_cut [10] (fun v wx=>v= .int .i64 (freeAt L)∧wx=w3)
  case first=>
   go_wp2_with fail;go_loop [10] (fun i=>∃k:Nat,k≤n∧i= .int .i64 k∧Hid (∀i,i<k→¬((L.getD i cl0).live=false∧(L.getD i cl0).gen<1000000000))) (fun i=>n-(intOf i).toNat)
   case atStart=>exact ⟨0,by omega,rfl,fun i hi=>by omega⟩
   case round=>
    obtain ⟨k,hk,rfl,hno⟩:=hrel;by_cases hlt:k<n
    ·have ha:=h4.addr (by omega);subst ha;have hy:=h4.cell k hlt;have c2:=hy.c2;have c3:=hy.c3;have HY:Hid ((L.getD k cl0).live=false∧(L.getD k cl0).gen<1000000000→freeAt L=k):=free_step L k (by rw [HL.out];exact hlt) hno.out;have HN:Hid (¬((L.getD k cl0).live=false∧(L.getD k cl0).gen<1000000000)→∀i,i<k+1→¬((L.getD i cl0).live=false∧(L.getD i cl0).gen<1000000000)):=fun hn i hi2=>by
      rcases Nat.lt_succ_iff_lt_or_eq.1 hi2 with h|h
      ·exact hno.out i h
      ·rw [h];exact hn
     have HI:=HSp.out k hlt;generalize L.getD k cl0=y at*;clear hy hno;have dk:decide ((k:Int)<(n:Int))=true:=decide_eq_true (by omega);cases hlv:y.live with
     |true=>
      rw [hlv] at c3;have HN3:Hid (∀i,i<k+1→¬((L.getD i cl0).live=false∧(L.getD i cl0).gen<1000000000)):=HN.out (fun h=>by rw [hlv] at h;cases h.1);clear HN HY HI;go_wp2;go_round
      ·exact ⟨k+1,by omega,by go_num,HN3.out⟩
      ·simp [intOf];omega
     |false=>
      rw [hlv] at c3;by_cases hg:y.gen=1000000000
      ·have HN3:Hid (∀i,i<k+1→¬((L.getD i cl0).live=false∧(L.getD i cl0).gen<1000000000)):=HN.out (fun h=>by omega);have dg:(y.gen==1000000000)=true:=by rw [hg];rfl
       clear HN HY HI hg;go_wp2;go_round
       ·exact ⟨k+1,by omega,by go_num,HN3.out⟩
       ·simp [intOf];omega
      ·have HE:Hid (freeAt L=k):=HY.out (HI.2 (fun h=>by rcases h with h|h;(rw [hlv] at h;cases h);exact hg h));have dg:(y.gen==1000000000)=false:=by simpa using hg
       clear HN HY HI;go_wp2;go_meet
       case rel=>exact ⟨by rw [HE.out],rfl⟩
    ·have HE:Hid (freeAt L=k):=by
      unfold Hid;rw [free_none L (fun i hi=>hno.out i (by rw [HL.out] at hi;omega)),HL.out];omega
     have dk:decide ((k:Int)<(n:Int))=false:=decide_eq_false (by omega);clear hno;go_wp2;go_meet
     case rel=>exact ⟨by rw [HE.out],rfl⟩
  case rest=>
   obtain ⟨rfl,hwc⟩:=hcut;subst hwc;have hfl:(freeAt L:Int)≤40:=by have:=free_le L;omega
   by_cases hbad:X<0∨freeAt L=40
   ·have HR:Hid (putOk s L x=false):=by
     unfold Hid putOk;rw [HXY.out];rcases hbad with h|h
     ·rw [decide_eq_false (p:=0≤X) (by omega),Bool.and_false,Bool.false_and]
     ·rw [decide_eq_false (p:=freeAt L≠40) (by omega),Bool.and_false]
    obtain ⟨u1,u2⟩:=rows_ret (D:= .string ⟨#[]⟩) (v:= .slice none 0 0) (rc:= .int .i64 0) (rg:= .int .i64 0) p1 p2 rfl rfl (by omega);obtain ⟨e2,e3⟩:=zbb p1;obtain ⟨e4,e5⟩:=zbb p2;obtain ⟨g0,g1⟩:=zbb u1;obtain ⟨g2,g3⟩:=zbb u2;have f0:=p1.frozen 0;have f1:=p1.frozen 1;have f2:=p2.frozen 0;have f3:=p2.frozen 1;have FIN:Hid (PutEnd w s L x (.returned (.tuple #[.agg #[.string ⟨#[]⟩,.slice none 0 0],refV 0 0,.bool false])) ((((wc.setCell ⟨w.heap.size+1,0,none⟩ (.string ⟨#[]⟩)).setCell ⟨w.heap.size+1,1,none⟩ (.slice none 0 0)).setCell ⟨w.heap.size+1+1,0,none⟩ (.int .i64 0)).setCell ⟨w.heap.size+1+1,1,none⟩ (.int .i64 0))):=
     put_no HR.out ((((bb3.setCell (by simp) _).setCell (by simp) _).setCell (by simp;omega) _).setCell (by simp;omega) _)
    clear p0 p1 p2 u1 u2 h4;by_cases hX0:X<0
    ·have dX:decide (X<0)=true:=decide_eq_true hX0;clear hbad;go_wp2;exact bodyPost_ret (v:= .tuple #[.agg #[.string ⟨#[]⟩,.slice none 0 0],refV 0 0,.bool false]) (by simp [results,Tryz.results24,go_sem,g0,g1,g2,g3]) rfl FIN.out
    ·have dX:decide (X<0)=false:=decide_eq_false hX0;have d40:((freeAt L:Int)==40)=true:=by
      rcases hbad with h|h
      ·exact absurd h hX0
      ·rw [h];rfl
     clear hbad;go_wp2;exact bodyPost_ret (v:= .tuple #[.agg #[.string ⟨#[]⟩,.slice none 0 0],refV 0 0,.bool false]) (by simp [results,Tryz.results24,go_sem,g0,g1,g2,g3]) rfl FIN.out
   ·have hX0:0≤X:=by omega
    have h40:¬freeAt L=40:=fun e=>hbad (.inr e);obtain ⟨P,rfl⟩:∃P:Nat,X=P:=⟨_,(Int.toNat_of_nonneg hX0).symm⟩;have hroom:=HPR2.out hX0;have dX:decide ((P:Int)<0)=false:=decide_eq_false (by omega);have d40:((freeAt L:Int)==40)=false:=by simp;omega
    have HOK:Hid (putOk s L x=true):=by
     unfold Hid putOk;rw [HH.out,HXY.out,decide_eq_true (p:=x.size≠0) hx0,decide_eq_true hX0,decide_eq_true (p:=freeAt L≠40) h40];rfl
    have HPos:Hid (putPos s L x=P):=by unfold Hid putPos;rw [HXY.out];rfl
    clear hbad HSp HPR2 HXY;have hn40:n≤40:=by rw [←HL.out];exact hL
    have bz:∀o:Obj,Below wc.heap.size wc (wc.alloc o):=fun o=> (Below.refl _ wc).alloc (Nat.le_refl _) _;have by2:∀o o':Obj,Below wc.heap.size wc ((wc.alloc o).alloc o'):=fun o o'=>Go.Joins.below_alloc2 _ _ _;have E1:RowAt ((wc.alloc (.cells #[.string ⟨#[]⟩,.slice none 0 0] 29)).alloc (.cells #[] 84)) (wc.heap.size+1) 84 #[]:=by
     have:=RowAt.new (wc.alloc (.cells #[.string ⟨#[]⟩,.slice none 0 0] 29)) 84 #[];simpa using this
    have E2:RowAt ((wc.alloc (.cells #[] 84)).alloc (.cells #[.string ⟨#[]⟩,.slice none 0 0] 29)) wc.heap.size 84 #[]:=(RowAt.new wc 84 #[]).below ((Below.refl _ (wc.alloc (.cells #[] 84))).alloc (Nat.le_refl _) _) (by simp);have E3:RowAt ((wc.alloc (.cells #[.string ⟨#[]⟩,.slice none 0 0] 29)).alloc (.cells #[] 84)) wc.heap.size 29 #[.string ⟨#[]⟩,.slice none 0 0]:=(RowAt.new wc 29 _).below ((Below.refl _ (wc.alloc (.cells #[.string ⟨#[]⟩,.slice none 0 0] 29))).alloc (Nat.le_refl _) _) (by simp);have E4:RowAt ((wc.alloc (.cells #[] 84)).alloc (.cells #[.string ⟨#[]⟩,.slice none 0 0] 29)) (wc.heap.size+1) 29 #[.string ⟨#[]⟩,.slice none 0 0]:=by
     have:=RowAt.new (wc.alloc (.cells #[] 84)) 29 #[.string ⟨#[]⟩,.slice none 0 0];simpa using this
    obtain ⟨A1,cap1,w51,hrun1,hown1,hgr1⟩:=append_cells (W:=((wc.alloc (.cells #[.string ⟨#[]⟩,.slice none 0 0] 29)).alloc (.cells #[] 84)).drew) (B0:=wc.heap.size+1) (B:=wc.heap.size+1) (c:=c) (zaj h4 (by2 _ _).drew) E1 (Nat.le_refl _) (by simp) hn40;obtain ⟨A2,cap2,w52,hrun2,hown2,hgr2⟩:=append_cells (W:=((wc.alloc (.cells #[] 84)).alloc (.cells #[.string ⟨#[]⟩,.slice none 0 0] 29)).drew) (B0:=wc.heap.size) (B:=wc.heap.size) (c:=c) (zaj h4 (by2 _ _).drew) E2 (Nat.le_refl _) (by simp;omega) hn40;obtain ⟨A3,cap3,w53,hrun3,hown3,hgr3⟩:=append_cells (W:=(wc.alloc (.cells #[] 84)).drew) (B0:=wc.heap.size) (B:=wc.heap.size) (c:=c) (zaj h4 (bz _).drew) (RowAt.new wc 84 #[]) (Nat.le_refl _) (by simp) hn40;have hZ1:RowAt w51 wc.heap.size 29 #[.string ⟨#[]⟩,.slice none 0 0]:=(hgr1.block wc.heap.size (by simp;omega) (by simp)).trans E3;have hZ2:RowAt w52 (wc.heap.size+1) 29 #[.string ⟨#[]⟩,.slice none 0 0]:=(hgr2.block (wc.heap.size+1) (by simp) (by simp)).trans E4;have b51:Below wc.heap.size wc w51:=below_grown (by2 _ _).drew hgr1 (fun y hy=>by have:=Option.some.inj hy;omega) (by simp;omega);have b52:Below wc.heap.size wc w52:=below_grown (by2 _ _).drew hgr2 (fun y hy=>by have:=Option.some.inj hy;omega) (by simp;omega);have b53:Below wc.heap.size wc w53:=below_grown (bz _).drew hgr3 (fun y hy=>by have:=Option.some.inj hy;omega) (by simp);have hPn:(P:Int)≤(s.size:Int):=by omega
    have hPx:(P:Int)+(x.size:Int)≤(s.size:Int):=by omega
    have hP0:(0:Int)≤(P:Int)+(x.size:Int):=by omega
    have l0':=p0.lt;have n0:=(zbb (p0.below b51 l0')).1;have n1:=(zbb (p0.below b51 l0')).2;have n2:=(zbb (p0.below b52 l0')).1;have n3:=(zbb (p0.below b52 l0')).2;have n4:=(zbb (p0.below b53 l0')).1;have n5:=(zbb (p0.below b53 l0')).2;have y0:=(zbb hZ1).1;have y1:=(zbb hZ1).2;have y2:=hZ1.frozen 0;have y3:=hZ1.frozen 1;have y4:=(zbb hZ2).1;have y5:=(zbb hZ2).2;have y6:=hZ2.frozen 0;have y7:=hZ2.frozen 1;have s53:=b53.size;have n6:=(zbb ((p0.below b53 l0').below ((Below.refl _ w53).alloc (Nat.le_refl _) (.cells #[.string ⟨#[]⟩,.slice none 0 0] 29)) (by omega))).1;have n7:=(zbb ((p0.below b53 l0').below ((Below.refl _ w53).alloc (Nat.le_refl _) (.cells #[.string ⟨#[]⟩,.slice none 0 0] 29)) (by omega))).2;have hm1:min P s.size=P:=by omega
    have hc1:¬9223372036854775807<P+x.size:=by omega
    have hc2:¬9223372036854775807<P+x.size+(s.size-(P+x.size)):=by omega
    have p0a:=(zbb (p0.below (by2 (.cells #[.string ⟨#[]⟩,.slice none 0 0] 29) (.cells #[] 84)) l0')).2;have p0b:=(zbb (p0.below (by2 (.cells #[] 84) (.cells #[.string ⟨#[]⟩,.slice none 0 0] 29)) l0')).2;have p0c:=(zbb (p0.below (bz (.cells #[] 84)) l0')).2;have p0d:=(zbb (p0.below (bz (.cells #[.string ⟨#[]⟩,.slice none 0 0] 29)) l0')).2;have r0a:=(zbb (p0.below (by2 (.cells #[.string ⟨#[]⟩,.slice none 0 0] 29) (.cells #[] 84)) l0')).1;have r0b:=(zbb (p0.below (by2 (.cells #[] 84) (.cells #[.string ⟨#[]⟩,.slice none 0 0] 29)) l0')).1;have r0c:=(zbb (p0.below (bz (.cells #[] 84)) l0')).1;have r0d:=(zbb (p0.below (bz (.cells #[.string ⟨#[]⟩,.slice none 0 0] 29)) l0')).1;clear hgr1 hgr2 hgr3 bz by2;have set2:∀(W:World) (q:Nat) (D v:Value) (j:Nat),q≠w.heap.size→((W.setCell ⟨q,0,none⟩ D).setCell ⟨q,1,none⟩ v).cell? ⟨w.heap.size,j,none⟩=W.cell? ⟨w.heap.size,j,none⟩:=fun W q D v j hq=>
     World.cell?_of_block (w:=W) ((Below.heap_setCell _ _ _ _ (by simp only;omega)).trans (Below.heap_setCell _ _ _ _ (by simp only;omega)))
    have n8:=(zbb ((p0.below b53 l0').below ((Below.refl _ w53).alloc (Nat.le_refl _) (.cells #[.string (s.extract 0 P++x++s.extract (P+x.size) s.size),.slice (some ⟨A3,0,none⟩) n cap3] 29)) (by omega))).1;have n9:=(zbb ((p0.below b53 l0').below ((Below.refl _ w53).alloc (Nat.le_refl _) (.cells #[.string (s.extract 0 P++x++s.extract (P+x.size) s.size),.slice (some ⟨A3,0,none⟩) n cap3] 29)) (by omega))).2;have hlt1:=hZ1.lt;have R1:RowAt ((w51.setCell ⟨wc.heap.size,0,none⟩ (.string (s.extract 0 P++x++s.extract (P+x.size) s.size))).setCell ⟨wc.heap.size,1,none⟩ (.slice (some ⟨A1,0,none⟩) n cap1)) wc.heap.size 29 #[.string (putData s P x),.slice (some ⟨A1,0,none⟩) n cap1]:=by
     have:=(hZ1.set 0 (.string (putData s P x))).set 1 (.slice (some ⟨A1,0,none⟩) n cap1);simp at this;exact this
    have O1:=Go.Joins.ownsRow_le (ownsRow_setCell_below (ownsRow_setCell_below hown1 (a:=⟨wc.heap.size,0,none⟩) (by simp) (.string (s.extract 0 P++x++s.extract (P+x.size) s.size))) (a:=⟨wc.heap.size,1,none⟩) (by simp) (.slice (some ⟨A1,0,none⟩) n cap1)) (base':=wc.heap.size) (by omega);have D1:=(b51.setCell (p:=⟨wc.heap.size,0,none⟩) (Nat.le_refl _) (.string (s.extract 0 P++x++s.extract (P+x.size) s.size))).setCell (p:=⟨wc.heap.size,1,none⟩) (Nat.le_refl _) (.slice (some ⟨A1,0,none⟩) n cap1);have R2:RowAt ((w52.setCell ⟨wc.heap.size+1,0,none⟩ (.string (s.extract 0 P++x++s.extract (P+x.size) s.size))).setCell ⟨wc.heap.size+1,1,none⟩ (.slice (some ⟨A2,0,none⟩) n cap2)) (wc.heap.size+1) 29 #[.string (putData s P x),.slice (some ⟨A2,0,none⟩) n cap2]:=by
     have:=(hZ2.set 0 (.string (putData s P x))).set 1 (.slice (some ⟨A2,0,none⟩) n cap2);simp at this;exact this
    have hne2:=own_ne hown2 hZ2 (by decide);have O2:=ownsRow_setCell_other (ownsRow_setCell_other hown2 (a:=⟨wc.heap.size+1,0,none⟩) (fun e=>hne2 e.symm) (.string (s.extract 0 P++x++s.extract (P+x.size) s.size))) (a:=⟨wc.heap.size+1,1,none⟩) (fun e=>hne2 e.symm) (.slice (some ⟨A2,0,none⟩) n cap2);have D2:=(b52.setCell (p:=⟨wc.heap.size+1,0,none⟩) (by simp) (.string (s.extract 0 P++x++s.extract (P+x.size) s.size))).setCell (p:=⟨wc.heap.size+1,1,none⟩) (by simp) (.slice (some ⟨A2,0,none⟩) n cap2);have HR1:Hid _:=R1;have HO1:Hid _:=O1;have HD1:Hid _:=D1;have HR2:Hid _:=R2;have HO2:Hid _:=O2;have HD2:Hid _:=D2;have HO3:Hid (w53.ownsRow wc.heap.size 84 4 (.slice (some ⟨A3,0,none⟩) n cap3) n (flatC L)):=hown3;clear R1 O1 D1 R2 O2 D2 hown1 hown2 hown3 hne2;have hwr:IntKind.i64.wrap ((P:Int)+(x.size:Int))=(P:Int)+(x.size:Int):=wrap_small (by omega) (by omega);have htn:((P:Int)+(x.size:Int)).toNat=P+x.size:=by omega
    go_upto_region 10 with fail;go_cut [11] (fun o wx=>∃q A cap,o= .pointer (some ⟨q,0,none⟩)∧wc.heap.size≤q∧RowAt wx q 29 #[.string (putData s P x),.slice (some ⟨A,0,none⟩) n cap]∧wx.ownsRow wc.heap.size 84 4 (.slice (some ⟨A,0,none⟩) n cap) n (flatC L)∧Below wc.heap.size wc wx)
    case first=>
     go_region_held_law (fun w'=>w'.cell? ⟨w.heap.size,0,none⟩=some (.string s)∧w'.cell? ⟨w.heap.size,1,none⟩=some (.slice a n c)) (first|exact ⟨e0,e1⟩|exact ⟨r0a,p0a⟩|exact ⟨r0b,p0b⟩|exact ⟨r0c,p0c⟩|exact ⟨r0d,p0d⟩|exact ⟨n0,n1⟩|exact ⟨n2,n3⟩|exact ⟨n4,n5⟩|exact ⟨n6,n7⟩|exact ⟨(set2 _ _ _ _ 0 (by omega)).trans n0,(set2 _ _ _ _ 1 (by omega)).trans n1⟩|exact ⟨(set2 _ _ _ _ 0 (by omega)).trans n2,(set2 _ _ _ _ 1 (by omega)).trans n3⟩|exact ⟨n8,n9⟩|go_keep) (first
      |refine zba rfl (.tmp 80) (.tmp 82) 27 rfl (by simp [Act.eval]) (by simp [Act.eval]) hrun1 ?_
      |refine zba rfl (.tmp 80) (.tmp 82) 27 rfl (by simp [Act.eval]) (by simp [Act.eval]) hrun2 ?_
      |refine zba rfl (.tmp 80) (.tmp 82) 27 rfl (by simp [Act.eval]) (by simp [Act.eval]) hrun3 ?_)
     all_goals go_wp2_with fail
     all_goals go_meet
     all_goals first
      |exact ⟨_,A1,cap1,rfl,Nat.le_refl _,HR1.out,HO1.out,HD1.out⟩
      |exact ⟨_,A2,cap2,rfl,Nat.le_succ _,HR2.out,HO2.out,HD2.out⟩
      |exact ⟨_,A3,cap3,rfl,s53,RowAt.new w53 29 _,HO3.out.alloc _,b53.alloc s53 _⟩
    case rest=>
     obtain ⟨q,A,cap,rfl,hq,hrow,hown,hb9⟩:=hcut;have l2':=p2.lt;have bb9:=bb3.trans (hb9.mono bb3.size);have m0:=p0.below hb9 (by omega);have m1:=p1.below hb9 (by omega);have m2:=p2.below hb9 (by omega);have h9:=zaj h4 hb9;have hbq:w.heap.size+3≤q:=by omega
     have hown9:=Go.Joins.ownsRow_le hown (base':=w.heap.size+3) (by omega);have hgen:=room_gen HH.out;have hfl2:=free_le L;clear hb9 p0 p1 p2 h4 e0 e1 n0 n1 n2 n3 n4 n5 n6 n7 n8 n9 y0 y1 y2 y3 y4 y5 y6 y7 p0a p0b p0c p0d r0a r0b r0c r0d hrun1 hrun2 hrun3 set2 E1 E2 E3 E4 hZ1 hZ2 b51 b52 b53 HR1 HO1 HD1 HR2 HO2 HD2 HO3 hown;obtain ⟨e0,e1⟩:=zbb m0;obtain ⟨k0,k1⟩:=zbb hrow;have hrl:(roomC L).length≤41:=by
      unfold roomC;split
      ·rw [List.length_append];simp only [List.length_cons,List.length_nil];omega
      ·omega
     go_upto_if 89 with fail;go_cut [10] (fun v wx=>v= .int .i64 (freeAt L)∧∃A cap,RowAt wx q 29 #[.string (putData s P x),.slice (some ⟨A,0,none⟩) (roomC L).length cap]∧wx.ownsRow (w.heap.size+3) 84 4 (.slice (some ⟨A,0,none⟩) (roomC L).length cap) (roomC L).length (flatC (roomC L))∧Below (w.heap.size+3) wc wx)
     case first=>
      by_cases hlast:freeAt L=n
      ·obtain ⟨i0,hi,hz0,hz1,hz2⟩:=info_parts info62x;have HRm:Hid (roomC L=L++ [cl0]):=by unfold Hid roomC;rw [if_pos (by rw [HL.out];exact hlast)]
       have HRl:Hid ((roomC L).length=n+1):=by unfold Hid;rw [HRm.out,List.length_append,HL.out];rfl
       have dk:((freeAt L:Int)==(n:Int))=true:=by rw [hlast];simp
       have hneq:some q≠some A:=own_ne hown9 hrow (by decide);have hqlt:=hrow.lt;have hw3:w.heap.size+3≤wc.heap.size:=by omega
       clear hlast;go_wp2_with (at_builtin;refine wpList_append_own _ rfl _ _ 27 rfl (w.heap.size+3) 84 i0 _ 4 32 Tryz.underlying27 hi hz0 hz1 hz2 rfl (by decide) _ _ _ rfl (hown9.alloc _) ⟨wc.heap.size,0,none⟩ 1 1 [.int .i64 0,.int .i64 0,.int .i64 0,.bool false] rfl rfl ?c1 ?c2 ?c3 ?c4 ?c5 ?_)
       case c1=>
        intro j u hj;rw [Addr.add_lit,Nat.zero_add];exact ((RowAt.new wc 84 (clV cl0)).cell j).trans (by simpa [cl0] using hj)
       case c2=>exact fun u hu=>by simp at hu;rcases hu with rfl|rfl|rfl|rfl<;>rfl
       case c3=>unfold maxLen;omega
       case c4=>omega
       case c5=>simp;omega
       intro v0' w5 hown' hgrow _;obtain ⟨A5,cap5,hv5⟩:=Go.Joins.ownsRow_form hown' (by omega);subst hv5;have hr5:RowAt w5 q 29 #[.string (putData s P x),.slice (some ⟨A,0,none⟩) n cap]:=(hgrow.block q (by simp;omega) hneq).trans (hrow.below ((Below.refl _ wc).alloc (Nat.le_refl _) _) hqlt);have b5:Below (w.heap.size+3) wc w5:=below_grown ((Below.refl _ wc).alloc hw3 _) hgrow (fun y hy=> (hown9.lt y hy).1) (by simp;omega);have s0:=(zbb hr5).1;have s1:=(zbb hr5).2;have s2:=hr5.frozen 1;have hneq5:=own_ne hown' hr5 (by decide);have HR6:Hid (RowAt (w5.setCell ⟨q,1,none⟩ (.slice (some ⟨A5,0,none⟩) (n+1) cap5)) q 29 #[.string (putData s P x),.slice (some ⟨A5,0,none⟩) (n+1) cap5]):=by
        have:=hr5.set 1 (.slice (some ⟨A5,0,none⟩) (n+1) cap5);simp at this;exact this
       have HO6:Hid ((w5.setCell ⟨q,1,none⟩ (.slice (some ⟨A5,0,none⟩) (n+1) cap5)).ownsRow (w.heap.size+3) 84 4 (.slice (some ⟨A5,0,none⟩) (n+1) cap5) (n+1) (flatC (L++ [cl0]))):=by
        unfold Hid;rw [flatC_app];exact ownsRow_setCell_other hown' (fun e=>hneq5 e.symm) _
       have HB6:Hid (Below (w.heap.size+3) wc (w5.setCell ⟨q,1,none⟩ (.slice (some ⟨A5,0,none⟩) (n+1) cap5))):=b5.setCell (p:=⟨q,1,none⟩) hbq _;clear hown' hgrow hr5 b5 hneq5 hneq;go_wp2_with fail;go_meet
       case rel=>exact ⟨rfl,A5,cap5,by rw [HRl.out];exact HR6.out,by rw [HRl.out,HRm.out];exact HO6.out,HB6.out⟩
      ·have HRm:Hid (roomC L=L):=by unfold Hid roomC;rw [if_neg (by rw [HL.out];exact hlast)]
       have dk:((freeAt L:Int)==(n:Int))=false:=by simp;omega
       clear hlast;go_wp2_with fail;go_meet
       case rel=>exact ⟨rfl,A,cap,by rw [HRm.out,HL.out];exact hrow,by rw [HRm.out,HL.out];exact hown9,Below.refl _ _⟩
     case rest=>
      obtain ⟨rfl,A5,cap5,hrow5,hown5,b5⟩:=hcut;have i1:=m1.below b5 (by omega);have i2:=m2.below b5 (by omega);have bbA:=bb9.trans (b5.mono (by omega));have hkr:=room_len L;clear m0 m1 m2 h9 e0 e1 k0 k1 hrow hown9 b5 bb9;obtain ⟨k,hk⟩:∃k,freeAt L=k:=⟨_,rfl⟩;have HKe:Hid (freeAt L=k):=hk;rw [hk] at hgen hkr hfl ⊢;have HMe:Hid (∃M,roomC L=M):=⟨_,rfl⟩;obtain ⟨M,hM⟩:=HMe.out;have HMe2:Hid (roomC L=M):=hM;rw [hM] at hgen hkr hrow5 hown5 hrl;clear hM hk HMe;generalize hye:M.getD k cl0=y at*;have HYe:Hid (M.getD k cl0=y):=hye;have q0:=flatC_at M k 0 hkr (by omega);have q1:=flatC_at M k 1 hkr (by omega);have q2:=flatC_at M k 2 hkr (by omega);have q3:=flatC_at M k 3 hkr (by omega);rw [hye] at q0 q1 q2 q3;simp only [Nat.add_zero] at q0;have c0:wc.cell? ⟨A5,k*4,none⟩=some (.int .i64 y.pos):=owns_at (k:=k) (j:=0) hown5 q0;have c1:wc.cell? ⟨A5,k*4+1,none⟩=some (.int .i64 y.len):=owns_at (k:=k) (j:=1) hown5 q1;have c2:wc.cell? ⟨A5,k*4+2,none⟩=some (.int .i64 y.gen):=owns_at (k:=k) (j:=2) hown5 q2;have c3:wc.cell? ⟨A5,k*4+3,none⟩=some (.bool y.live):=owns_at (k:=k) (j:=3) hown5 q3;have f0:=owns_frozen hown5 (k*4);have f1:=owns_frozen hown5 (k*4+1);have f2:=owns_frozen hown5 (k*4+2);have f3:=owns_frozen hown5 (k*4+3);obtain ⟨k0,k1⟩:=zbb hrow5;clear q0 q1 q2 q3 hye;go_upto_region 15 with fail;have hA5:=(hown5.lt A5 rfl).1;have neq:q≠A5:=fun e=>own_ne hown5 hrow5 (by decide) (by rw [e];rfl);have ne1:w.heap.size+1≠A5:=by omega
      have ne2:w.heap.size+1+1≠A5:=by omega
      have pb:∀j,j≠A5→(put4 wc A5 (k*4) (.int .i64 (P:Int)) (.int .i64 (x.size:Int)) (.int .i64 (y.gen+1)) (.bool true)).heap[j]?=wc.heap[j]?:=fun j hj=>
       (Below.heap_setCell _ _ _ _ (by simpa using hj)).trans ((Below.heap_setCell _ _ _ _ (by simpa using hj)).trans ((Below.heap_setCell _ _ _ _ (by simpa using hj)).trans (Below.heap_setCell _ _ _ _ (by simpa using hj))))
      have hr6:RowAt (put4 wc A5 (k*4) (.int .i64 (P:Int)) (.int .i64 (x.size:Int)) (.int .i64 (y.gen+1)) (.bool true)) q 29 #[.string (putData s P x),.slice (some ⟨A5,0,none⟩) M.length cap5]:=(pb q neq).trans hrow5;have i1':RowAt (put4 wc A5 (k*4) (.int .i64 (P:Int)) (.int .i64 (x.size:Int)) (.int .i64 (y.gen+1)) (.bool true)) (w.heap.size+1) 29 #[.string ⟨#[]⟩,.slice none 0 0]:=(pb _ ne1).trans i1;have i2':RowAt (put4 wc A5 (k*4) (.int .i64 (P:Int)) (.int .i64 (x.size:Int)) (.int .i64 (y.gen+1)) (.bool true)) (w.heap.size+1+1) 55 #[.int .i64 0,.int .i64 0]:=(pb _ ne2).trans i2;have o6:(put4 wc A5 (k*4) (.int .i64 (P:Int)) (.int .i64 (x.size:Int)) (.int .i64 (y.gen+1)) (.bool true)).ownsRow (w.heap.size+3) 84 4 (.slice (some ⟨A5,0,none⟩) M.length cap5) M.length (flatC (M.set k ⟨P,x.size,y.gen+1,true⟩)):=by
       rw [←flatC_set M k _ hkr];exact owns_set (owns_set (owns_set (owns_set hown5)))
      have bb6:Below w.heap.size w (put4 wc A5 (k*4) (.int .i64 (P:Int)) (.int .i64 (x.size:Int)) (.int .i64 (y.gen+1)) (.bool true)):=(((bbA.setCell (p:=⟨A5,k*4,none⟩) (by simp only;omega) _).setCell (p:=⟨A5,k*4+1,none⟩) (by simp only;omega) _).setCell (p:=⟨A5,k*4+2,none⟩) (by simp only;omega) _).setCell (p:=⟨A5,k*4+3,none⟩) (by simp only;omega) _;clear c0 c1 c2 c3 f0 f1 f2 f3 k0 k1 hrow5 hown5 i1 i2 bbA pb;unfold put4 at hr6 i1' i2' o6 bb6;generalize (((wc.setCell ⟨A5,k*4,none⟩ (.int .i64 (P:Int))).setCell ⟨A5,k*4+1,none⟩ (.int .i64 (x.size:Int))).setCell ⟨A5,k*4+2,none⟩ (.int .i64 (y.gen+1))).setCell ⟨A5,k*4+3,none⟩ (.bool true)=w6 at*;obtain ⟨u1,u2⟩:=rows_ret (D:= .string (putData s P x)) (v:= .slice (some ⟨A5,0,none⟩) M.length cap5) (rc:= .int .i64 k) (rg:= .int .i64 (y.gen+1)) i1' i2' rfl rfl (by omega);obtain ⟨k0,k1⟩:=zbb hr6;obtain ⟨e0,e1⟩:=zbb i1';obtain ⟨e2,e3⟩:=zbb i2';obtain ⟨g0,g1⟩:=zbb u1;obtain ⟨g2,g3⟩:=zbb u2;have f0:=i1'.frozen 0;have f1:=i1'.frozen 1;have f2:=i2'.frozen 0;have f3:=i2'.frozen 1;have o8:=Go.Joins.ownsRow_le (ownsRow_setCell_below (ownsRow_setCell_below (ownsRow_setCell_below (ownsRow_setCell_below o6 (a:=⟨w.heap.size+1,0,none⟩) (by simp only;omega) (.string (putData s P x))) (a:=⟨w.heap.size+1,1,none⟩) (by simp only;omega) (.slice (some ⟨A5,0,none⟩) M.length cap5)) (a:=⟨w.heap.size+1+1,0,none⟩) (by simp only;omega) (.int .i64 k)) (a:=⟨w.heap.size+1+1,1,none⟩) (by simp only;omega) (.int .i64 (y.gen+1))) (base':=w.heap.size) (by omega);clear u1 u2 i1' i2' hr6 o6;go_wp2;exact bodyPost_ret (v:= .tuple #[.agg #[.string (putData s P x),.slice (some ⟨A5,0,none⟩) M.length cap5],refV k (y.gen+1),.bool true]) (by simp [results,Tryz.results24,go_sem,g0,g1,g2,g3]) rfl
       (put_end HOK.out (by rw [HPos.out]) (by unfold putCells;rw [HPos.out,HMe2.out,HKe.out,HYe.out]) (by rw [HKe.out]) (by rw [HMe2.out,HKe.out,HYe.out]) (by rw [List.length_set];exact o8) ((((bb6.setCell (by simp) _).setCell (by simp) _).setCell (by simp;omega) _).setCell (by simp;omega) _))
end Go.Proofs.YtjpeglkkkllagaaGreatDoor.Hp
