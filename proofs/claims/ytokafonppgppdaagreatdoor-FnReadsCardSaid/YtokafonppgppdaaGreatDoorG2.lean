import Derived.Test.YtokafonppgppdaaGreatDoorXa
import Derived.Test.YtokafonppgppdaaGreatDoorBc
set_option maxHeartbeats 4000000
set_option maxRecDepth 100000
namespace Go.Proofs.YtokafonppgppdaaGreatDoor
open Tryz
open Go.RowKit Go.Sort
open Kk (Rk rk0 zd7 zju zc6 zea zeb zec za9 zbk encR zdh)
variable {V v:Value} {w' w5:World} {b o n size g N N' X A c d':Nat} {a p':Option Addr} {e:TypeId} {xs:List Value} {β:Nat->Nat} {D:Array Value}
theorem boxed (w:World) (C:Array Value) (T:TypeId):∃W0,w.alloc (.cells C T)=W0/\Hid (w.alloc (.cells C T)=W0)/\Bl w W0/\zab W0 w.heap.size T C:=⟨_,rfl,rfl,(Qb _ w).alloc (Qc _) _,zab.new w T C⟩
structure Ke where
 name:ByteArray
 val:Vl
 due:Int
structure KV where
 key:Ke
 vi:Value
 vp:Value
 vr:Value
def ke0:Ke:=⟨bz,vl0,0⟩
def kv0:KV:=⟨ke0,zay,zay,zay⟩
abbrev kvV (x:KV):Value:= .agg #[.string x.key.name,.int .i64 x.key.val.kind,.string x.key.val.text,x.vi,x.vp,x.vr,.int .i64 x.key.due]
def kvC (x:KV):List Value:=[.string x.key.name,.int .i64 x.key.val.kind,.string x.key.val.text,x.vi,x.vp,x.vr,.int .i64 x.key.due]
def flatK (L:List KV):List Value:=L.flatMap kvC
abbrev znh (w:World) (B:Nat) (v:Value) (L:List KV):Prop:=w.ownsRow B 47 7 v L.length (flatK L)
theorem zyp (L M:List KV):flatK (L++M)=flatK L++flatK M:=List.flatMap_append
theorem znz (x:KV) (L:List KV):flatK (x::L)=kvC x++flatK L:=rfl
theorem zuj:∀(L:List KV) (i j:Nat),i<L.length->j<7->(flatK L)[i*7+j]?=(kvC (L.getD i kv0))[j]?
 | [],i,j,h,_=>by simp at h
 |x::L,0,j,_,hj=>by
  rw [znz,List.getElem?_append_left (by simp [kvC];omega)];simp
 |x::L,i+1,j,h,hj=>by
  rw [znz,List.getElem?_append_right (by simp [kvC];omega)];have:=zuj L i j (by simpa using h) hj;rw [show (i+1)*7+j-(kvC x).length=i*7+j from by simp [kvC];omega,this];simp
theorem zoo (w:World) (B:Nat):znh w B (.slice none 0 0) []:=World.ownsRow_nil _ _ _ _
theorem yi9:(prog.info? 47).map (fun i=> (i.zero,i.size,i.bytes))=some (some (.agg #[.string ⟨#[]⟩,.int .i64 0,.string ⟨#[]⟩,.slice none 0 0,.slice none 0 0,.slice none 0 0,.int .i64 0]),7,120):=by kernel_rfl
theorem ya8 {w:World} {B:Nat} {L:List KV} (k:Ke) (a1 a2 a3:Option Addr) (n1 c1 n2 c2 n3 c3:Nat) (h:znh w B V L) (hn:L.length<=1048576) (hB:B<=w.heap.size):
  ∃v' w',(Builtin.append_ #[24,24] 24 #[V,.slice (some ⟨w.heap.size,0,none⟩) 1 1]).run prog (w.alloc (.cells #[.string k.name,.int .i64 k.val.kind,.string k.val.text,.slice a1 n1 c1,.slice a2 n2 c2,.slice a3 n3 c3,.int .i64 k.due] 47))= .ok v' w'/\znh w' B v' (L++ [⟨k,.slice a1 n1 c1,.slice a2 n2 c2,.slice a3 n3 c3⟩])/\Below B w w'/\w.grownBy w' V.ownBlock:=by
 obtain ⟨i0,hi,hz0,hz1,hz2⟩:=info_parts yi9;have hbl:Bl w (w.alloc (.cells #[.string k.name,.int .i64 k.val.kind,.string k.val.text,.slice a1 n1 c1,.slice a2 n2 c2,.slice a3 n3 c3,.int .i64 k.due] 47)):=(Qb _ w).alloc (Qc _) _;have oA:=zaf h hbl
 obtain ⟨v',w',hrun,hown,hg,_,hblk⟩:=run_append_own_at (P:=prog) (w.alloc (.cells #[.string k.name,.int .i64 k.val.kind,.string k.val.text,.slice a1 n1 c1,.slice a2 n2 c2,.slice a3 n3 c3,.int .i64 k.due] 47)) B 24 24 47 i0 _ 7 120 underlying24 hi hz0 hz1 hz2 rfl (by decide) V L.length (flatK L) oA ⟨w.heap.size,0,none⟩ 1 1 [.string k.name,.int .i64 k.val.kind,.string k.val.text,.slice a1 n1 c1,.slice a2 n2 c2,.slice a3 n3 c3,.int .i64 k.due] rfl (fun j u hj=>by
  rw [Addr.add_lit,Qq];exact ((zab.new w 47 #[.string k.name,.int .i64 k.val.kind,.string k.val.text,.slice a1 n1 c1,.slice a2 n2 c2,.slice a3 n3 c3,.int .i64 k.due]).cell j).trans (by simpa using hj)) (fun u hu=>by simp at hu;rcases hu with rfl|rfl|rfl|rfl|rfl|rfl|rfl<;>rfl) (by unfold maxLen;omega) (by omega) (by simp;omega)
 refine ⟨v',w',hrun,?_,zdd (Qb _ w) hB h hg,?_⟩
 ·unfold znh;rw [Qi,zyp];exact hown
 ·have hs:(w.alloc (.cells #[.string k.name,.int .i64 k.val.kind,.string k.val.text,.slice a1 n1 c1,.slice a2 n2 c2,.slice a3 n3 c3,.int .i64 k.due] 47)).heap.size=w.heap.size+1:=by simp
  have h2:=hg.size;exact ⟨hg.os,hg.tape,hg.output,by omega,fun k hk hr=> (hg.block k (by omega) hr).trans (Below.heap_alloc _ _ _ (by omega))⟩
structure yih (w:World) (b o:Nat) (x:KV):Prop where
 c0:w.cell? ⟨b,o,none⟩=some (.string x.key.name)
 c1:w.cell? ⟨b,o+1,none⟩=some (.int .i64 x.key.val.kind)
 c2:w.cell? ⟨b,o+2,none⟩=some (.string x.key.val.text)
 c3:w.cell? ⟨b,o+3,none⟩=some x.vi
 c4:w.cell? ⟨b,o+4,none⟩=some x.vp
 c5:w.cell? ⟨b,o+5,none⟩=some x.vr
 c6:w.cell? ⟨b,o+6,none⟩=some (.int .i64 x.key.due)
structure zx7 (w:World) (a:Option Addr) (b n:Nat) (L:List KV):Prop where
 len:L.length=n
 addr:0<n->a=some ⟨b,0,none⟩
 low:0<n->b<w.heap.size
 cell:∀i,i<n->yih w b (i*7) (L.getD i kv0)
theorem yde {w:World} {B:Nat} {x:KV} (h:yih w b o x) (hl:b<B) (hb:Below B w w'):yih w' b o x:=
 ⟨(hb.cell (p:=⟨b,o,none⟩) hl).trans h.c0,(hb.cell (p:=⟨b,o+1,none⟩) hl).trans h.c1,(hb.cell (p:=⟨b,o+2,none⟩) hl).trans h.c2,(hb.cell (p:=⟨b,o+3,none⟩) hl).trans h.c3,(hb.cell (p:=⟨b,o+4,none⟩) hl).trans h.c4,(hb.cell (p:=⟨b,o+5,none⟩) hl).trans h.c5,(hb.cell (p:=⟨b,o+6,none⟩) hl).trans h.c6⟩
theorem zx7.bw {w:World} {L:List KV} (h:zx7 w a b n L) (hb:Bl w w'):zx7 w' a b n L:=
 ⟨h.len,h.addr,fun h0=>by have:=h.low h0;have:=hb.size;omega,fun i hi=>yde (h.cell i hi) (h.low (by omega)) hb⟩
theorem zhy {w:World} {B:Nat} {L:List KV} (h:znh w B v L):∃a A c,v= .slice a L.length c/\zx7 w a A L.length L:=by
 obtain ⟨hxl,⟨rfl,h0⟩|⟨g,cap,cur,rfl,hg,hh,hcap,hmax,hcs,htk⟩⟩:=h
 ·rw [h0];exact ⟨none,0,0,rfl,⟨h0,fun h=>by omega,fun h=>by omega,fun i hi=>by omega⟩⟩
 ·refine ⟨some ⟨g,0,none⟩,g,cap,rfl,⟨rfl,fun _=>rfl,fun _=> (Array.getElem?_eq_some_iff.1 hh).1,fun i hi=>?_⟩⟩;have hr:zab w g 47 cur:=hh;have e:∀j,j<7->w.cell? ⟨g,i*7+j,none⟩=(kvC (L.getD i kv0))[j]?:=fun j hj=>by
   rw [hr.cell,<-zuj L i j hi hj,<-htk,List.getElem?_take,if_pos (by omega),Array.getElem?_toList]
  exact ⟨e 0 (by omega),e 1 (by omega),e 2 (by omega),e 3 (by omega),e 4 (by omega),e 5 (by omega),e 6 (by omega)⟩
structure Rising (w:World) (B:Nat) (L:List KV) (N:Nat) (β:Nat->Nat):Prop where
 low:∀i,i<=L.length->B<=β i
 mono:∀i j,i<=j->j<=L.length->β i<=β j
 top:β L.length<=N
 own:∀i,i<L.length->VOwn w (β i) (L.getD i kv0).key.val (L.getD i kv0).vi (L.getD i kv0).vp (L.getD i kv0).vr
 lt1:∀i,i<L.length->∀g,(L.getD i kv0).vi.ownBlock=some g->g<β (i+1)
 lt2:∀i,i<L.length->∀g,(L.getD i kv0).vp.ownBlock=some g->g<β (i+1)
 lt3:∀i,i<L.length->∀g,(L.getD i kv0).vr.ownBlock=some g->g<β (i+1)
theorem zn1 (w:World) (B N:Nat) (h:B<=N):Rising w B [] N (fun _=>B):=
 ⟨fun _ _=>Qc _,fun _ _ _ _=>Qc _,h,fun i hi=>by simp at hi,fun i hi=>by simp at hi,fun i hi=>by simp at hi,fun i hi=>by simp at hi⟩
theorem zbh {w:World} {B:Nat} (h:w.ownsRow B e size v n xs) (hg:v.ownBlock=some g):∃C,zab w g e C:=by
 obtain ⟨_,⟨rfl,_⟩|⟨g',cap,cur,rfl,_,hh,_⟩⟩:=h
 ·cases hg
 ·have e:g'=g:=by simpa [Value.ownBlock] using hg
  subst e;exact ⟨cur,hh⟩
theorem ygx {w:World} {B B':Nat} {v:Vl} {vi vp vr:Value} (h:VOwn w B v vi vp vr) (hB:B'<=B):VOwn w B' v vi vp vr:=
 ⟨Go.Joins.ownsRow_le h.ia hB,Go.Joins.ownsRow_le h.pj hB,Go.Joins.ownsRow_le h.rq hB⟩
theorem zgf {w:World} {B:Nat} {v:Vl} {vi vp vr:Value} (h:VOwn w B v vi vp vr) (hk:∀g e C,e≠47->zab w g e C->w'.heap[g]?=w.heap[g]?):VOwn w' B v vi vp vr:=by
 refine ⟨zai h.ia fun g hg=>?_,zai h.pj fun g hg=>?_,zai h.rq fun g hg=>?_⟩
 ·obtain ⟨C,hC⟩:=zbh h.ia hg;exact hk g 9 C (by decide) hC
 ·obtain ⟨C,hC⟩:=zbh h.pj hg;exact hk g 145 C (by decide) hC
 ·obtain ⟨C,hC⟩:=zbh h.rq hg;exact hk g 147 C (by decide) hC
theorem Rising.kept {w:World} {B:Nat} {L:List KV} (h:Rising w B L N β) (hk:∀g e C,e≠47->zab w g e C->w'.heap[g]?=w.heap[g]?):Rising w' B L N β:=
 ⟨h.low,h.mono,h.top,fun i hi=>zgf (h.own i hi) hk,h.lt1,h.lt2,h.lt3⟩
theorem Rising.bw {w:World} {B:Nat} {L:List KV} (h:Rising w B L N β) (hb:Bl w w'):Rising w' B L N β:=
 h.kept fun g _ _ _ hg=>hb.block g hg.lt
theorem Rising.up {w:World} {B:Nat} {L:List KV} (h:Rising w B L N β) (hN:N<=N'):Rising w B L N' β:=
 ⟨h.low,h.mono,Qj h.top hN,h.own,h.lt1,h.lt2,h.lt3⟩
theorem zpo {w:World} {B:Nat} {L:List KV} (ho:znh w B V L) (hg:w.grownBy w' V.ownBlock):∀g e C,e≠47->zab w g e C->w'.heap[g]?=w.heap[g]?:=fun g e C he hC=>by
 refine hg.block g hC.lt fun ee=>?_;obtain ⟨D,hD⟩:=zbh ho ee.symm;exact he (Hp.zcm hC hD)
theorem Rising.snoc {w:World} {B:Nat} {L:List KV} {y:KV} (h:Rising w B L N β) (hy:VOwn w N y.key.val y.vi y.vp y.vr) (hN:N<=N') (hu:∀g,y.vi.ownBlock=some g\/y.vp.ownBlock=some g\/y.vr.ownBlock=some g->g<N'):
  Rising w B (L++ [y]) N' (fun i=>if i<=L.length then β i else N'):=by
 have hl:(L++ [y]).length=L.length+1:=by simp
 have ht:=h.top;have g1:∀i,i<L.length->(L++ [y]).getD i kv0=L.getD i kv0:=fun i hi=>by rw [Qa,Qa,List.getElem?_append_left hi]
 have g2:(L++ [y]).getD L.length kv0=y:=by simp
 refine ⟨fun i hi=>?_,fun i j hij hj=>?_,?_,fun i hi=>?_,fun i hi g hg=>?_,fun i hi g hg=>?_,fun i hi g hg=>?_⟩
 ·split
  ·exact h.low i ‹_›
  ·have:=h.low L.length (Qc _);omega
 ·rw [hl] at hj;split<;>split
  ·exact h.mono i j hij ‹_›
  ·have:=h.mono i L.length ‹_› (Qc _);omega
  ·omega
  ·exact Qc _
 ·rw [hl];rw [if_neg (by omega)];exact Qc _
 ·rw [hl] at hi;by_cases e:i=L.length
  ·subst e;rw [g2,if_pos (Qc _)];exact ygx hy ht
  ·rw [g1 i (by omega),if_pos (by omega)];exact h.own i (by omega)
 ·rw [hl] at hi;by_cases e:i=L.length
  ·subst e;rw [g2] at hg;rw [if_neg (by omega)];exact hu g (.inl hg)
  ·rw [g1 i (by omega)] at hg;rw [if_pos (by omega)];exact h.lt1 i (by omega) g hg
 ·rw [hl] at hi;by_cases e:i=L.length
  ·subst e;rw [g2] at hg;rw [if_neg (by omega)];exact hu g (.inr (.inl hg))
  ·rw [g1 i (by omega)] at hg;rw [if_pos (by omega)];exact h.lt2 i (by omega) g hg
 ·rw [hl] at hi;by_cases e:i=L.length
  ·subst e;rw [g2] at hg;rw [if_neg (by omega)];exact hu g (.inr (.inr hg))
  ·rw [g1 i (by omega)] at hg;rw [if_pos (by omega)];exact h.lt3 i (by omega) g hg
structure zaw (w:World) (B:Nat) (v:Value) (L:List KV):Prop where
 row:znh w B v L
 vals:∃β,Rising w B L w.heap.size β
theorem zrg (w:World) (B:Nat) (h:B<=w.heap.size):zaw w B (.slice none 0 0) []:=⟨zoo _ _,_,zn1 _ _ _ h⟩
theorem zaw.bw {w:World} {B:Nat} {L:List KV} (h:zaw w B v L) (hb:Bl w w'):zaw w' B v L:=by
 obtain ⟨β,hr⟩:=h.vals;exact ⟨zaf h.row hb,β,(hr.bw hb).up hb.size⟩
structure zoe (w:World) (a:Option Addr) (b n:Nat) (L:List KV):Prop where
 ks:zx7 w a b n L
 val:∀i,i<n->∃B,VOwn w B (L.getD i kv0).key.val (L.getD i kv0).vi (L.getD i kv0).vp (L.getD i kv0).vr
theorem zoe.bw {w:World} {L:List KV} (h:zoe w a b n L) (hb:Bl w w'):zoe w' a b n L:=
 ⟨h.ks.bw hb,fun i hi=>by obtain ⟨B,hB⟩:=h.val i hi;exact ⟨B,hB.bw hb⟩⟩
theorem zaw.at {w:World} {B:Nat} {L:List KV} (h:zaw w B v L):∃a A c,v= .slice a L.length c/\zoe w a A L.length L:=by
 obtain ⟨a,A,c,e,hk⟩:=zhy h.row;obtain ⟨β,hr⟩:=h.vals;exact ⟨a,A,c,e,hk,fun i hi=>⟨_,hr.own i hi⟩⟩
structure KSm (v:Vl):Prop where
 fit:yjd v
 np:v.pj.length<=500000
 nums:Kk.zi5 v.rq
theorem zpz {v:Vl} (h:zh4 v=true):KSm v:=by
 have s:=zff h;have h1:=s.text;have h2:=s.ni;have h3:=s.np;have h4:=s.nr;exact ⟨⟨by omega,by omega,by omega,by omega⟩,by omega,fun x hx=>by obtain ⟨_,u1,u2⟩:=s.rq x hx;exact ⟨by omega,by omega⟩⟩
structure VRd (w:World) (v:Vl) (vi vp vr:Value):Prop where
 ia:∃a A o c,vi= .slice a v.ia.length c/\zdg w a A o v.ia.length v.ia/\(a=none->c=0)
 pj:∃a A c,vp= .slice a v.pj.length c/\za6 w a A v.pj.length v.pj/\(a=none->c=0)
 rq:∃a A o c,vr= .slice a v.rq.length c/\zdh w a A o v.rq.length v.rq/\(a=none->c=0)
theorem ycp {w:World} {B:Nat} {off:Nat} {ss:List ByteArray} (h:zdg w a b off n ss) (hb:Below B w w') (hl:w.heap.size<=B):zdg w' a b off n ss:=
 ⟨h.len,h.addr,fun h0=>by have:=h.low h0;have:=hb.size;omega,fun i hi=> (hb.cell (p:=⟨b,off+i,none⟩) (by have:=h.low (by omega);show b<B;omega)).trans (h.cell i hi),h.fit⟩
theorem ybu {w:World} {B:Nat} {ps:List Pr} (h:za6 w a b n ps) (hb:Below B w w') (hl:w.heap.size<=B):za6 w' a b n ps:=
 h.bw (hb.mono hl)
theorem yat {w:World} {B:Nat} {rs:List Rk} (h:zdh w a b o n rs) (hb:Below B w w') (hl:w.heap.size<=B):zdh w' a b o n rs:=
 h.bw (hb.mono hl)
theorem zew {w:World} {B e:Nat} (h:zab w X e #[]) (hB:B<=X):w.ownsRow B e size (.slice (some ⟨X,0,none⟩) 0 0) 0 []:=
 ⟨by simp,.inr ⟨X,0, #[],rfl,hB,h,Qc _,by unfold maxLen;omega,by simp,by simp⟩⟩
theorem yeg {w:World} {B:Nat} {T:List ByteArray} (hr:zab w X 9 #[]) (hX:B<=X) (hs:zdg w a A o n T) (hc:a=none->c=0) (hn:n<=1048577) (hB:B<=w.heap.size):
  ∃a' c' w',(Builtin.append_ #[25,25] 25 #[.slice (some ⟨X,0,none⟩) 0 0,.slice a n c]).run prog w= .ok (.slice a' n c') w'/\zcx w' B (.slice a' n c') T/\w.grownBy w' (some X):=by
 obtain ⟨i0,hi,hz0,hz1,hz2⟩:=info_parts zmw;have hE:=zew (size:=1) hr hX;have hl:=hs.len;cases a with
 |none=>
  obtain rfl:n=0:=by
   rcases Nat.eq_zero_or_pos n with h|h
   ·exact h
   ·have:=hs.addr h;cases this
  obtain rfl:=hc rfl;obtain rfl:T=[]:=List.eq_nil_of_length_eq_zero hl;exact ⟨some ⟨X,0,none⟩,0,w,run_append_owned_none (P:=prog) w B 25 25 9 i0 1 underlying25 hi _ 0 [] hE,hE,za0 _ _⟩
 |some ad=>
  obtain ⟨v',w',hrun,hown,hg,_,_⟩:=run_append_own_at (P:=prog) w B 25 25 9 i0 _ 1 16 underlying25 hi hz0 hz1 hz2 rfl (by decide) (.slice (some ⟨X,0,none⟩) 0 0) 0 [] hE ad n c (zdw T) (by simp [zdw,hl]) (fun j u hj=>by
   have hjn:j<n:=by
    have:=(List.getElem?_eq_some_iff.1 hj).1;simp [zdw] at this;omega
   obtain rfl:ad=⟨A,o,none⟩:=Option.some.inj (hs.addr (by omega));rw [Addr.add_lit];have hc:=hs.cell j hjn;rw [hc];simp [zdw] at hj;obtain ⟨t,ht,rfl⟩:=hj;rw [Qa,ht];rfl) (fun u hu=>by simp [zdw] at hu;obtain ⟨t,_,rfl⟩:=hu;rfl) (by unfold maxLen;omega) (by omega) hB
  rw [Qq] at hown;obtain ⟨a',c',e⟩:=zad hown;subst e;refine ⟨a',c',w',hrun,?_,hg⟩;unfold zcx;rw [hl];exact hown
theorem ya4 {w:World} {B:Nat} {T:List Pr} (hr:zab w X 145 #[]) (hX:B<=X) (hs:za6 w a A n T) (hc:a=none->c=0) (hn:n<=1048577) (hB:B<=w.heap.size):
  ∃a' c' w',(Builtin.append_ #[42,42] 42 #[.slice (some ⟨X,0,none⟩) 0 0,.slice a n c]).run prog w= .ok (.slice a' n c') w'/\zd2 w' B (.slice a' n c') T/\w.grownBy w' (some X):=by
 obtain ⟨i0,hi,hz0,hz1,hz2⟩:=info_parts zj8;have hE:=zew (size:=2) hr hX;have hl:=hs.len;cases a with
 |none=>
  obtain rfl:n=0:=by
   rcases Nat.eq_zero_or_pos n with h|h
   ·exact h
   ·have:=hs.addr h;cases this
  obtain rfl:=hc rfl;obtain rfl:T=[]:=List.eq_nil_of_length_eq_zero hl;exact ⟨some ⟨X,0,none⟩,0,w,run_append_owned_none (P:=prog) w B 42 42 145 i0 2 underlying42 hi _ 0 [] hE,hE,za0 _ _⟩
 |some ad=>
  obtain ⟨v',w',hrun,hown,hg,_,_⟩:=run_append_own_at (P:=prog) w B 42 42 145 i0 _ 2 32 underlying42 hi hz0 hz1 hz2 rfl (by decide) (.slice (some ⟨X,0,none⟩) 0 0) 0 [] hE ad n c (zal T) (by rw [zat,hl]) (fun j u hj=>by
   have hjn:j<T.length*2:=by
    have:=(List.getElem?_eq_some_iff.1 hj).1;rwa [zat] at this
   obtain rfl:ad=⟨A,0,none⟩:=Option.some.inj (hs.addr (by omega));rw [Addr.add_lit,Qq];have hi2:j/2<T.length:=by omega
   obtain ⟨f0,f1⟩:=zg0 T (j/2) hi2;rcases Nat.mod_two_eq_zero_or_one j with hm|hm
   ·rw [show j/2*2=j by omega] at f0;have:=hs.c0 (j/2) (by omega);rw [show j/2*2=j by omega] at this;rw [this,<-hj,f0]
   ·rw [show j/2*2+1=j by omega] at f1;have:=hs.c1 (j/2) (by omega);rw [show j/2*2+1=j by omega] at this;rw [this,<-hj,f1]) (fun u hu=>by
   unfold zal yf8 at hu;simp at hu;obtain ⟨x,y,_,h|h⟩:=hu<;> (subst h;rfl)) (by unfold maxLen;omega) (by omega) hB
  rw [Qq] at hown;obtain ⟨a',c',e⟩:=zad hown;subst e;refine ⟨a',c',w',hrun,?_,hg⟩;unfold zd2;rw [hl];exact hown
theorem zk7:∀(L:List Rk) (i:Nat),i<L.length->(zbk L)[i*2]?=some (.string (L.getD i rk0).m)/\(zbk L)[i*2+1]?=some (.int .i64 (L.getD i rk0).s)
 | [],i,h=>by simp at h
 |x::L,0,_=>⟨rfl,rfl⟩
 |x::L,i+1,h=>by
  have e:zbk (x::L)= .string x.m:: .int .i64 x.s::zbk L:=rfl;obtain ⟨h0,h1⟩:=zk7 L i (by simpa using h);rw [e,show (i+1)*2=i*2+1+1 by omega,show i*2+1+1+1=(i*2+1)+1+1 by omega];simp only [Ql];rw [h0,h1];exact ⟨by simp,by simp⟩
theorem zgh:∀L:List Rk,(zbk L).length=L.length*2
 | []=>rfl
 |x::L=>by
  have e:zbk (x::L)= .string x.m:: .int .i64 x.s::zbk L:=rfl;rw [e,Q1,Q1,zgh L,Q1];omega
theorem zzg {w:World} {B:Nat} {T:List Rk} (hr:zab w X 147 #[]) (hX:B<=X) (hs:zdh w a A o n T) (hc:a=none->c=0) (hn:n<=1048577) (hB:B<=w.heap.size):
  ∃a' c' w',(Builtin.append_ #[43,43] 43 #[.slice (some ⟨X,0,none⟩) 0 0,.slice a n c]).run prog w= .ok (.slice a' n c') w'/\za9 w' B (.slice a' n c') T/\w.grownBy w' (some X):=by
 obtain ⟨i0,hi,hz0,hz1,hz2⟩:=info_parts Kk.zk2;have hE:=zew (size:=2) hr hX;have hl:=hs.len;cases a with
 |none=>
  obtain rfl:n=0:=by
   rcases Nat.eq_zero_or_pos n with h|h
   ·exact h
   ·have:=hs.addr h;cases this
  obtain rfl:=hc rfl;obtain rfl:T=[]:=List.eq_nil_of_length_eq_zero hl;exact ⟨some ⟨X,0,none⟩,0,w,run_append_owned_none (P:=prog) w B 43 43 147 i0 2 underlying43 hi _ 0 [] hE,hE,za0 _ _⟩
 |some ad=>
  obtain ⟨v',w',hrun,hown,hg,_,_⟩:=run_append_own_at (P:=prog) w B 43 43 147 i0 _ 2 24 underlying43 hi hz0 hz1 hz2 rfl (by decide) (.slice (some ⟨X,0,none⟩) 0 0) 0 [] hE ad n c (zbk T) (by rw [zgh,hl]) (fun j u hj=>by
   have hjn:j<T.length*2:=by
    have:=(List.getElem?_eq_some_iff.1 hj).1;rwa [zgh] at this
   obtain rfl:ad=⟨A,o,none⟩:=Option.some.inj (hs.addr (by omega));rw [Addr.add_lit];have hi2:j/2<T.length:=by omega
   obtain ⟨f0,f1⟩:=zk7 T (j/2) hi2;have hx:=hs.cell (j/2) (by omega);rcases Nat.mod_two_eq_zero_or_one j with hm|hm
   ·rw [show j/2*2=j by omega] at f0;have:=hx.c0;rw [show j/2*2=j by omega] at this;rw [this,<-hj,f0]
   ·rw [show j/2*2+1=j by omega] at f1;have:=hx.c1;rw [show o+j/2*2+1=o+j by omega] at this;rw [this,<-hj,f1]) (fun u hu=>by
   unfold zbk encR at hu;simp at hu;obtain ⟨x,_,h|h⟩:=hu<;> (subst h;rfl)) (by unfold maxLen;omega) (by omega) hB
  rw [Qq] at hown;obtain ⟨a',c',e⟩:=zad hown;subst e;refine ⟨a',c',w',hrun,?_,hg⟩;unfold za9;rw [hl];exact hown
structure zd6 (w0:World) (B:Nat) (k:Int) (t:ByteArray) (vi vp vr:Value) (T:List ByteArray) (ps:List Pr) (rs:List Rk) (n1 n2 n3:Nat) (l:Array Bool) (X4 X8 X12:Nat) (p1:Option Addr) (d1:Nat) (p2:Option Addr) (d2:Nat) (p3:Option Addr) (d3:Nat) (w:World):Prop where
 bel:Below B w0 w
 size:B+2<=w.heap.size
 box:zab w B 45 (vC k t vi vp vr)
 res:l.getD 17 false=false->zab w (B+1) 45 z5
 fin:l.getD 17 false=true->zab w (B+1) 45 (vC k t (.slice p1 n1 d1) (.slice p2 n2 d2) (.slice p3 n3 d3))
 b4:l.getD 4 false=true->l.getD 7 false=false->zab w X4 9 #[]/\B+2<=X4
 a7:l.getD 7 false=true->zcx w (B+2) (.slice p1 n1 d1) T
 b8:l.getD 8 false=true->l.getD 11 false=false->zab w X8 145 #[]/\B+2<=X8
 a11:l.getD 11 false=true->zd2 w (B+2) (.slice p2 n2 d2) ps
 b12:l.getD 12 false=true->l.getD 15 false=false->zab w X12 147 #[]/\B+2<=X12
 a15:l.getD 15 false=true->za9 w (B+2) (.slice p3 n3 d3) rs
 lu:zhq 17 l
 o16:l.getD 16 false=true->l.getD 7 false=true/\l.getD 11 false=true/\l.getD 15 false=true
theorem zds {w:World} {p:Nat} {T:TypeId} {C:Array Value} (h:zab w p T C) (hX:zab w X e D) (hT:T≠e) (hg:w.grownBy w' (some X)):zab w' p T C:=
 (hg.block p h.lt fun ee=>by injection ee with ee;subst ee;exact hT (Hp.zcm h hX)).trans h
theorem zep {w:World} {B:Nat} {e':TypeId} (h:w.ownsRow B e size v n xs) (hX:zab w X e' D) (hT:e≠e') (hg:w.grownBy w' (some X)):w'.ownsRow B e size v n xs:=
 zai h fun k hk=>hg.block k (zaz h hk).2 fun ee=>by
  injection ee with ee;subst ee;obtain ⟨C,hC⟩:=zbh h hk;exact hT (Hp.zcm hC hX)
section
variable {w0 : World} {B : Nat} {k : Int} {t : ByteArray} {vi vp vr : Value} {T : List ByteArray} {ps : List Pr} {rs : List Rk} {n1 n2 n3 : Nat} {l : Array Bool} {X4 X8 X12 : Nat} {p1 : Option Addr} {d1 : Nat} {p2 : Option Addr} {d2 : Nat} {p3 : Option Addr} {d3 : Nat} {w : World}
theorem zd6.plain (h:zd6 w0 B k t vi vp vr T ps rs n1 n2 n3 l X4 X8 X12 p1 d1 p2 d2 p3 d3 w) (i:Nat) (hio:l.getD i false=false) (h4:i≠4) (h7:i≠7) (h8:i≠8) (h11:i≠11) (h12:i≠12) (h15:i≠15) (h17:i≠17) (hlt:i<17) (h16:i=16->l.getD 7 false=true/\l.getD 11 false=true/\l.getD 15 false=true):zd6 w0 B k t vi vp vr T ps rs n1 n2 n3 (l.setIfInBounds i true) X4 X8 X12 p1 d1 p2 d2 p3 d3 w:=by
 refine ⟨h.bel,h.size,h.box,?_,?_,?_,?_,?_,?_,?_,?_,h.lu.next hlt hio,?_⟩;all_goals simp only [getD_set_ne h4,getD_set_ne h7,getD_set_ne h8,getD_set_ne h11,getD_set_ne h12,getD_set_ne h15,getD_set_ne h17]
 ·exact h.res
 ·exact h.fin
 ·exact h.b4
 ·exact h.a7
 ·exact h.b8
 ·exact h.a11
 ·exact h.b12
 ·exact h.a15
 ·intro hx;by_cases e:i=16
  ·exact h16 e
  ·rw [getD_set_ne e] at hx;exact h.o16 hx
theorem zd6.off16 (h:zd6 w0 B k t vi vp vr T ps rs n1 n2 n3 l X4 X8 X12 p1 d1 p2 d2 p3 d3 w) (ho:l.getD 7 false=false\/l.getD 11 false=false\/l.getD 15 false=false):l.getD 16 false=false:=by
 cases hx:l.getD 16 false with
 |false=>rfl
 |true=>
  obtain ⟨h1,h2,h3⟩:=h.o16 hx;rcases ho with ho|ho|ho
  ·rw [h1] at ho;cases ho
  ·rw [h2] at ho;cases ho
  ·rw [h3] at ho;cases ho
theorem zd6.more (h:zd6 w0 B k t vi vp vr T ps rs n1 n2 n3 l X4 X8 X12 p1 d1 p2 d2 p3 d3 w) (hb:Bl w w'):zd6 w0 B k t vi vp vr T ps rs n1 n2 n3 l X4 X8 X12 p1 d1 p2 d2 p3 d3 w':=
 ⟨h.bel.trans (hb.mono (by have:=h.size;omega)),Qj h.size hb.size,h.box.bw hb h.box.lt,fun x=> (h.res x).bw hb (h.res x).lt,fun x=> (h.fin x).bw hb (h.fin x).lt,fun x y=>⟨(h.b4 x y).1.bw hb (h.b4 x y).1.lt,(h.b4 x y).2⟩,fun x=>zaf (h.a7 x) hb,fun x y=>⟨(h.b8 x y).1.bw hb (h.b8 x y).1.lt,(h.b8 x y).2⟩,fun x=>zaf (h.a11 x) hb,fun x y=>⟨(h.b12 x y).1.bw hb (h.b12 x y).1.lt,(h.b12 x y).2⟩,fun x=>zaf (h.a15 x) hb,h.lu,h.o16⟩
theorem zd6.built4 (h0:zd6 w0 B k t vi vp vr T ps rs n1 n2 n3 l X4 X8 X12 p1 d1 p2 d2 p3 d3 w) (hio:l.getD 4 false=false):zd6 w0 B k t vi vp vr T ps rs n1 n2 n3 (l.setIfInBounds 4 true) w.heap.size X8 X12 p1 d1 p2 d2 p3 d3 (w.alloc (.cells #[] 9)):=by
 have h:=h0.more ((Qb _ w).alloc (Qc _) (.cells #[] 9));refine ⟨h.bel,h.size,h.box,?_,?_,?_,?_,?_,?_,?_,?_,h.lu.next (by decide) hio,?_⟩;all_goals simp only [getD_set_ne (show 4≠17 by decide),getD_set_ne (show 4≠7 by decide),getD_set_ne (show 4≠8 by decide),getD_set_ne (show 4≠11 by decide),getD_set_ne (show 4≠12 by decide),getD_set_ne (show 4≠15 by decide),getD_set_ne (show 4≠16 by decide)]
 ·exact h.res
 ·exact h.fin
 ·exact fun _ _=>⟨zab.new w 9 #[],h0.size⟩
 ·exact h.a7
 ·exact h.b8
 ·exact h.a11
 ·exact h.b12
 ·exact h.a15
 ·exact h.o16
theorem zd6.built8 (h0:zd6 w0 B k t vi vp vr T ps rs n1 n2 n3 l X4 X8 X12 p1 d1 p2 d2 p3 d3 w) (hio:l.getD 8 false=false):zd6 w0 B k t vi vp vr T ps rs n1 n2 n3 (l.setIfInBounds 8 true) X4 w.heap.size X12 p1 d1 p2 d2 p3 d3 (w.alloc (.cells #[] 145)):=by
 have h:=h0.more ((Qb _ w).alloc (Qc _) (.cells #[] 145));refine ⟨h.bel,h.size,h.box,?_,?_,?_,?_,?_,?_,?_,?_,h.lu.next (by decide) hio,?_⟩;all_goals simp only [getD_set_ne (show 8≠17 by decide),getD_set_ne (show 8≠4 by decide),getD_set_ne (show 8≠7 by decide),getD_set_ne (show 8≠11 by decide),getD_set_ne (show 8≠12 by decide),getD_set_ne (show 8≠15 by decide),getD_set_ne (show 8≠16 by decide)]
 ·exact h.res
 ·exact h.fin
 ·exact h.b4
 ·exact h.a7
 ·exact fun _ _=>⟨zab.new w 145 #[],h0.size⟩
 ·exact h.a11
 ·exact h.b12
 ·exact h.a15
 ·exact h.o16
theorem zd6.built12 (h0:zd6 w0 B k t vi vp vr T ps rs n1 n2 n3 l X4 X8 X12 p1 d1 p2 d2 p3 d3 w) (hio:l.getD 12 false=false):zd6 w0 B k t vi vp vr T ps rs n1 n2 n3 (l.setIfInBounds 12 true) X4 X8 w.heap.size p1 d1 p2 d2 p3 d3 (w.alloc (.cells #[] 147)):=by
 have h:=h0.more ((Qb _ w).alloc (Qc _) (.cells #[] 147));refine ⟨h.bel,h.size,h.box,?_,?_,?_,?_,?_,?_,?_,?_,h.lu.next (by decide) hio,?_⟩;all_goals simp only [getD_set_ne (show 12≠17 by decide),getD_set_ne (show 12≠4 by decide),getD_set_ne (show 12≠7 by decide),getD_set_ne (show 12≠8 by decide),getD_set_ne (show 12≠11 by decide),getD_set_ne (show 12≠15 by decide),getD_set_ne (show 12≠16 by decide)]
 ·exact h.res
 ·exact h.fin
 ·exact h.b4
 ·exact h.a7
 ·exact h.b8
 ·exact h.a11
 ·exact fun _ _=>⟨zab.new w 147 #[],h0.size⟩
 ·exact h.a15
 ·exact h.o16
theorem zd6.app7 (h:zd6 w0 B k t vi vp vr T ps rs n1 n2 n3 l X4 X8 X12 p1 d1 p2 d2 p3 d3 w) (hio:l.getD 7 false=false) (hsz:7<l.size) (hX:zab w X4 9 #[]/\B+2<=X4) (hown:zcx w5 (B+2) (.slice p' n1 d') T) (hgr:w.grownBy w5 (some X4)):zd6 w0 B k t vi vp vr T ps rs n1 n2 n3 (l.setIfInBounds 7 true) X4 X8 X12 p' d' p2 d2 p3 d3 w5:=by
 have h17:=h.lu.off (show 7<17 by decide) hio;refine ⟨h.bel.grown hgr (by have:=h.size;omega) (fun k hk=>by injection hk with hk;have:=hX.2;omega),Qj h.size hgr.size,zds h.box hX.1 (by decide) hgr,?_,?_,?_,?_,?_,?_,?_,?_,h.lu.next (by decide) hio,?_⟩
 ·intro _;exact zds (h.res h17) hX.1 (by decide) hgr
 ·intro hx;rw [getD_set_ne (show 7≠17 by decide),h17] at hx;cases hx
 ·intro _ hx;rw [zcq hsz] at hx;cases hx
 ·intro _;exact hown
 ·intro x y;rw [getD_set_ne (show 7≠8 by decide)] at x;rw [getD_set_ne (show 7≠11 by decide)] at y;exact ⟨zds (h.b8 x y).1 hX.1 (by decide) hgr,(h.b8 x y).2⟩
 ·intro x;rw [getD_set_ne (show 7≠11 by decide)] at x;exact zep (h.a11 x) hX.1 (by decide) hgr
 ·intro x y;rw [getD_set_ne (show 7≠12 by decide)] at x;rw [getD_set_ne (show 7≠15 by decide)] at y;exact ⟨zds (h.b12 x y).1 hX.1 (by decide) hgr,(h.b12 x y).2⟩
 ·intro x;rw [getD_set_ne (show 7≠15 by decide)] at x;exact zep (h.a15 x) hX.1 (by decide) hgr
 ·intro x;rw [getD_set_ne (show 7≠16 by decide),h.off16 (.inl hio)] at x;cases x
theorem zd6.app11 (h:zd6 w0 B k t vi vp vr T ps rs n1 n2 n3 l X4 X8 X12 p1 d1 p2 d2 p3 d3 w) (hio:l.getD 11 false=false) (hsz:11<l.size) (hX:zab w X8 145 #[]/\B+2<=X8) (hown:zd2 w5 (B+2) (.slice p' n2 d') ps) (hgr:w.grownBy w5 (some X8)):zd6 w0 B k t vi vp vr T ps rs n1 n2 n3 (l.setIfInBounds 11 true) X4 X8 X12 p1 d1 p' d' p3 d3 w5:=by
 have h17:=h.lu.off (show 11<17 by decide) hio;refine ⟨h.bel.grown hgr (by have:=h.size;omega) (fun k hk=>by injection hk with hk;have:=hX.2;omega),Qj h.size hgr.size,zds h.box hX.1 (by decide) hgr,?_,?_,?_,?_,?_,?_,?_,?_,h.lu.next (by decide) hio,?_⟩
 ·intro _;exact zds (h.res h17) hX.1 (by decide) hgr
 ·intro hx;rw [getD_set_ne (show 11≠17 by decide),h17] at hx;cases hx
 ·intro x y;rw [getD_set_ne (show 11≠4 by decide)] at x;rw [getD_set_ne (show 11≠7 by decide)] at y;exact ⟨zds (h.b4 x y).1 hX.1 (by decide) hgr,(h.b4 x y).2⟩
 ·intro x;rw [getD_set_ne (show 11≠7 by decide)] at x;exact zep (h.a7 x) hX.1 (by decide) hgr
 ·intro _ hx;rw [zcq hsz] at hx;cases hx
 ·intro _;exact hown
 ·intro x y;rw [getD_set_ne (show 11≠12 by decide)] at x;rw [getD_set_ne (show 11≠15 by decide)] at y;exact ⟨zds (h.b12 x y).1 hX.1 (by decide) hgr,(h.b12 x y).2⟩
 ·intro x;rw [getD_set_ne (show 11≠15 by decide)] at x;exact zep (h.a15 x) hX.1 (by decide) hgr
 ·intro x;rw [getD_set_ne (show 11≠16 by decide),h.off16 (.inr (.inl hio))] at x;cases x
theorem zd6.app15 (h:zd6 w0 B k t vi vp vr T ps rs n1 n2 n3 l X4 X8 X12 p1 d1 p2 d2 p3 d3 w) (hio:l.getD 15 false=false) (hsz:15<l.size) (hX:zab w X12 147 #[]/\B+2<=X12) (hown:za9 w5 (B+2) (.slice p' n3 d') rs) (hgr:w.grownBy w5 (some X12)):zd6 w0 B k t vi vp vr T ps rs n1 n2 n3 (l.setIfInBounds 15 true) X4 X8 X12 p1 d1 p2 d2 p' d' w5:=by
 have h17:=h.lu.off (show 15<17 by decide) hio;refine ⟨h.bel.grown hgr (by have:=h.size;omega) (fun k hk=>by injection hk with hk;have:=hX.2;omega),Qj h.size hgr.size,zds h.box hX.1 (by decide) hgr,?_,?_,?_,?_,?_,?_,?_,?_,h.lu.next (by decide) hio,?_⟩
 ·intro _;exact zds (h.res h17) hX.1 (by decide) hgr
 ·intro hx;rw [getD_set_ne (show 15≠17 by decide),h17] at hx;cases hx
 ·intro x y;rw [getD_set_ne (show 15≠4 by decide)] at x;rw [getD_set_ne (show 15≠7 by decide)] at y;exact ⟨zds (h.b4 x y).1 hX.1 (by decide) hgr,(h.b4 x y).2⟩
 ·intro x;rw [getD_set_ne (show 15≠7 by decide)] at x;exact zep (h.a7 x) hX.1 (by decide) hgr
 ·intro x y;rw [getD_set_ne (show 15≠8 by decide)] at x;rw [getD_set_ne (show 15≠11 by decide)] at y;exact ⟨zds (h.b8 x y).1 hX.1 (by decide) hgr,(h.b8 x y).2⟩
 ·intro x;rw [getD_set_ne (show 15≠11 by decide)] at x;exact zep (h.a11 x) hX.1 (by decide) hgr
 ·intro _ hx;rw [zcq hsz] at hx;cases hx
 ·intro _;exact hown
 ·intro x;rw [getD_set_ne (show 15≠16 by decide),h.off16 (.inr (.inr hio))] at x;cases x
theorem zd6.stored (h:zd6 w0 B k t vi vp vr T ps rs n1 n2 n3 l X4 X8 X12 p1 d1 p2 d2 p3 d3 w) (hio:l.getD 17 false=false) (hsz:17<l.size) (dall:∀j,j<17->l.getD j false=true):
  zd6 w0 B k t vi vp vr T ps rs n1 n2 n3 (l.setIfInBounds 17 true) X4 X8 X12 p1 d1 p2 d2 p3 d3 (yez w (.int .i64 k) (.string t) (.slice p1 n1 d1) (.slice p2 n2 d2) (.slice p3 n3 d3) (B+1)):=by
 have hr:=h.res hio;have hw:∀p T C,zab w p T C->p≠B+1->zab (yez w (.int .i64 k) (.string t) (.slice p1 n1 d1) (.slice p2 n2 d2) (.slice p3 n3 d3) (B+1)) p T C:=fun p T C hp hne=> (zjo w _ _ _ _ _ (B+1) p hne).trans hp;have ho:∀{e size n v xs},w.ownsRow (B+2) e size v n xs->(yez w (.int .i64 k) (.string t) (.slice p1 n1 d1) (.slice p2 n2 d2) (.slice p3 n3 d3) (B+1)).ownsRow (B+2) e size v n xs:=fun h=>zai h fun g hg=>zjo w _ _ _ _ _ (B+1) g (by have:=(zaz h hg).1;omega);refine ⟨zcd h.bel _ _ _ _ _ (B+1) (by omega),by simpa [yez] using h.size,hw _ _ _ h.box (by omega),?_,?_,?_,?_,?_,?_,?_,?_,zhq.last dall,?_⟩
 ·intro hx;rw [zcq hsz] at hx;cases hx
 ·intro _;have:=((((hr.set 0 (.int .i64 k)).set 1 (.string t)).set 2 (.slice p1 n1 d1)).set 3 (.slice p2 n2 d2)).set 4 (.slice p3 n3 d3);simpa using this
 all_goals simp only [getD_set_ne (show 17≠4 by decide),getD_set_ne (show 17≠7 by decide),getD_set_ne (show 17≠8 by decide),getD_set_ne (show 17≠11 by decide),getD_set_ne (show 17≠12 by decide),getD_set_ne (show 17≠15 by decide),getD_set_ne (show 17≠16 by decide)]
 ·exact fun x y=>⟨hw _ _ _ (h.b4 x y).1 (by have:=(h.b4 x y).2;omega),(h.b4 x y).2⟩
 ·exact fun x=>ho (h.a7 x)
 ·exact fun x y=>⟨hw _ _ _ (h.b8 x y).1 (by have:=(h.b8 x y).2;omega),(h.b8 x y).2⟩
 ·exact fun x=>ho (h.a11 x)
 ·exact fun x y=>⟨hw _ _ _ (h.b12 x y).1 (by have:=(h.b12 x y).2;omega),(h.b12 x y).2⟩
 ·exact fun x=>ho (h.a15 x)
 ·exact h.o16
end
def zcj (k:Int) (t:ByteArray) (a1:Option Addr) (c1:Nat) (a2:Option Addr) (c2:Nat) (a3:Option Addr) (c3:Nat) (n1 n2 n3 B:Nat) (l:Array Bool) (X4 X8 X12:Nat) (p1:Option Addr) (d1:Nat) (p2:Option Addr) (d2:Nat) (p3:Option Addr) (d3:Nat):Act:=
 { tmps:= #[vlV k t (.slice a1 n1 c1) (.slice a2 n2 c2) (.slice a3 n3 c3),.pointer (some ⟨B,0,none⟩),.pointer (some ⟨B+1,0,none⟩),sl l 0 (.pointer (some ⟨B,0,none⟩)),sl l 1 (.int .i64 k),sl l 2 (.pointer (some ⟨B,1,none⟩)),sl l 3 (.string t),sl l 4 (.slice (some ⟨X4,0,none⟩) 0 0),sl l 5 (.pointer (some ⟨B,2,none⟩)),sl l 6 (.slice a1 n1 c1),sl l 7 (.slice p1 n1 d1),sl l 8 (.slice (some ⟨X8,0,none⟩) 0 0),sl l 9 (.pointer (some ⟨B,3,none⟩)),sl l 10 (.slice a2 n2 c2),sl l 11 (.slice p2 n2 d2),sl l 12 (.slice (some ⟨X12,0,none⟩) 0 0),sl l 13 (.pointer (some ⟨B,4,none⟩)),sl l 14 (.slice a3 n3 c3),sl l 15 (.slice p3 n3 d3),sl l 16 (.agg (vC k t (.slice p1 n1 d1) (.slice p2 n2 d2) (.slice p3 n3 d3)))],defers:=[] }
theorem zmq (k:Int) (t:ByteArray) (a1 a2 a3:Option Addr) (n1 c1 n2 c2 n3 c3 A1 o1 A2 A3 o3:Nat) (T:List ByteArray) (ps:List Pr) (rs:List Rk) (w:World) (h1:zdg w a1 A1 o1 n1 T) (h2:za6 w a2 A2 n2 ps) (h3:zdh w a3 A3 o3 n3 rs) (e1:a1=none->c1=0) (e2:a2=none->c2=0) (e3:a3=none->c3=0) (l1:n1<=1048577) (l2:n2<=1048577) (l3:n3<=1048577):
  Calls prog 144 #[vlV k t (.slice a1 n1 c1) (.slice a2 n2 c2) (.slice a3 n3 c3)] w fun e w'=>∃p1 d1 p2 d2 p3 d3,e= .returned (vlV k t (.slice p1 n1 d1) (.slice p2 n2 d2) (.slice p3 n3 d3))/\zcx w' w.heap.size (.slice p1 n1 d1) T/\zd2 w' w.heap.size (.slice p2 n2 d2) ps/\za9 w' w.heap.size (.slice p3 n3 d3) rs/\Below w.heap.size w w':=by
 obtain ⟨B,hBe⟩:∃B,w.heap.size=B:=⟨_,rfl⟩;have hB0:w.heap.size<=B:=by omega
 have HS1:Hid (zdg w a1 A1 o1 n1 T):=h1;have HS2:Hid (za6 w a2 A2 n2 ps):=h2;have HS3:Hid (zdh w a3 A3 o3 n3 rs):=h3;have HN1:Hid (a1=none->c1=0):=e1;have HN2:Hid (a2=none->c2=0):=e2;have HN3:Hid (a3=none->c3=0):=e3;clear h1 h2 h3 e1 e2 e3;have r1:=(zab.new w 45 (vC k t (.slice a1 n1 c1) (.slice a2 n2 c2) (.slice a3 n3 c3))).bw ((Qb _ _).alloc (Qc _) (.cells z5 45)) (by simp);have r2:=zab.new (w.alloc (.cells (vC k t (.slice a1 n1 c1) (.slice a2 n2 c2) (.slice a3 n3 c3)) 45)) 45 z5;have bw:Below w.heap.size w ((w.alloc (.cells (vC k t (.slice a1 n1 c1) (.slice a2 n2 c2) (.slice a3 n3 c3)) 45)).alloc (.cells z5 45)):=Go.Joins.below_alloc2 _ _ _;have sw:((w.alloc (.cells (vC k t (.slice a1 n1 c1) (.slice a2 n2 c2) (.slice a3 n3 c3)) 45)).alloc (.cells z5 45)).heap.size=w.heap.size+2:=by simp
 simp only [World.size_alloc] at r2;have HEND:Hid (∀p1 d1 p2 d2 p3 d3 W',zcx W' (B+2) (.slice p1 n1 d1) T->zd2 W' (B+2) (.slice p2 n2 d2) ps->za9 W' (B+2) (.slice p3 n3 d3) rs->Below B w W'->∃q1 x1 q2 x2 q3 x3,Ending.returned (vlV k t (.slice p1 n1 d1) (.slice p2 n2 d2) (.slice p3 n3 d3))= .returned (vlV k t (.slice q1 n1 x1) (.slice q2 n2 x2) (.slice q3 n3 x3))/\zcx W' w.heap.size (.slice q1 n1 x1) T/\zd2 W' w.heap.size (.slice q2 n2 x2) ps/\za9 W' w.heap.size (.slice q3 n3 x3) rs/\Below w.heap.size w W'):=fun p1 d1 p2 d2 p3 d3 W' u1 u2 u3 u4=>⟨p1,d1,p2,d2,p3,d3,rfl,Go.Joins.ownsRow_le u1 (by omega),Go.Joins.ownsRow_le u2 (by omega),Go.Joins.ownsRow_le u3 (by omega),u4.mono hB0⟩;have hBg:w.heap.size=B:=hBe;go_enter func144,ntmps144;go_wp2_with fail;rw [hBg] at r1 r2 bw sw;generalize (w.alloc (.cells (vC k t (.slice a1 n1 c1) (.slice a2 n2 c2) (.slice a3 n3 c3)) 45)).alloc (.cells z5 45)=w4 at*;refine zi2 (fun l a W'=>l.size=18/\∃X4 X8 X12 p1 d1 p2 d2 p3 d3,a=zcj k t a1 c1 a2 c2 a3 c3 n1 n2 n3 B l X4 X8 X12 p1 d1 p2 d2 p3 d3/\zd6 w B k t (.slice a1 n1 c1) (.slice a2 n2 c2) (.slice a3 n3 c3) T ps rs n1 n2 n3 l X4 X8 X12 p1 d1 p2 d2 p3 d3 W') (by kernel_rfl) ?h0 ?hstep (by kernel_rfl) ?hdone
 case h0=>
  refine ⟨rfl,0,0,0,none,0,none,0,none,0,rfl,⟨?_,?_,?_,fun _=>?_,?_,?_,?_,?_,?_,?_,?_,ydf,?_⟩⟩
  ·exact bw.trans ⟨rfl,rfl,rfl,Qc _,fun _ _=>rfl⟩
  ·show B+2<=w4.heap.size;omega
  ·exact r1
  ·exact r2
  all_goals (intro h;cases h)
 case hdone=>
  rintro l a W' ⟨hsz,X4,X8,X12,p1,d1,p2,d2,p3,d3,rfl,F⟩ hall0;have hall:∀j,j<18->l.getD j false=true:=fun j hj=>yi8 (hall0 j hj) (by omega);have hf:=F.fin (hall 17 (by omega));have hE:=HEND.out p1 d1 p2 d2 p3 d3 W' (F.a7 (hall 7 (by omega))) (F.a11 (hall 11 (by omega))) (F.a15 (hall 15 (by omega))) F.bel;obtain ⟨m0,m1,m2,m3,m4⟩:=zmn hf;simp only [zcj,zbi (hall 0 (by omega)),zbi (hall 1 (by omega)),zbi (hall 2 (by omega)),zbi (hall 3 (by omega)),zbi (hall 4 (by omega)),zbi (hall 5 (by omega)),zbi (hall 6 (by omega)),zbi (hall 7 (by omega)),zbi (hall 8 (by omega)),zbi (hall 9 (by omega)),zbi (hall 10 (by omega)),zbi (hall 11 (by omega)),zbi (hall 12 (by omega)),zbi (hall 13 (by omega)),zbi (hall 14 (by omega)),zbi (hall 15 (by omega)),zbi (hall 16 (by omega))];clear F hall hall0 hsz hf;go_wp2_with fail;exact bodyPost_ret (v:=vlV k t (.slice p1 n1 d1) (.slice p2 n2 d2) (.slice p3 n3 d3)) (by simp [results,results144,go_sem,m0,m1,m2,m3,m4]) rfl hE
 case hstep=>
 clear HEND r1 r2 bw sw hBe;rintro l a W' i ⟨hsz,X4,X8,X12,p1,d1,p2,d2,p3,d3,rfl,F⟩ hi;obtain ⟨hlt,hoff,hdep⟩:=zg5 hi;have hio:=ye9 hoff;obtain ⟨e0,e1,e2,e3,e4⟩:=zmn F.box;have hi18:i<18:=hlt;clear hi hlt;have hcase:i=0\/i=1\/i=2\/i=3\/i=4\/i=5\/i=6\/i=7\/i=8\/i=9\/i=10\/i=11\/i=12\/i=13\/i=14\/i=15\/i=16\/i=17:=by omega
 clear hi18;rcases hcase with rfl|rfl|rfl|rfl|rfl|rfl|rfl|rfl|rfl|rfl|rfl|rfl|rfl|rfl|rfl|rfl|rfl|rfl
 ·
  clear hdep hoff;refine wpOp_step rfl (fun K hK=>?_);simp only [zcj];go_simp;refine hK _ _ ⟨by simp [hsz],X4,X8,X12,p1,d1,p2,d2,p3,d3,?_,F.plain 0 hio (by decide) (by decide) (by decide) (by decide) (by decide) (by decide) (by decide) (by decide) (fun h=>by cases h)⟩;simp only [zcj,zch (show 0<l.size by omega)];simp only [zaa (show 0≠1 by decide),zaa (show 0≠2 by decide),zaa (show 0≠3 by decide),zaa (show 0≠4 by decide),zaa (show 0≠5 by decide),zaa (show 0≠6 by decide),zaa (show 0≠7 by decide),zaa (show 0≠8 by decide),zaa (show 0≠9 by decide),zaa (show 0≠10 by decide),zaa (show 0≠11 by decide),zaa (show 0≠12 by decide),zaa (show 0≠13 by decide),zaa (show 0≠14 by decide),zaa (show 0≠15 by decide),zaa (show 0≠16 by decide)]
 ·
  have y0:l.getD 0 false=true:=by have:=hdep;simp [Region.binds] at this;simp [this]
  clear hdep hoff;refine wpOp_step rfl (fun K hK=>?_);simp only [zcj,zbi y0];go_simp;refine hK _ _ ⟨by simp [hsz],X4,X8,X12,p1,d1,p2,d2,p3,d3,?_,F.plain 1 hio (by decide) (by decide) (by decide) (by decide) (by decide) (by decide) (by decide) (by decide) (fun h=>by cases h)⟩;simp only [zcj,zch (show 1<l.size by omega)];simp only [zaa (show 1≠0 by decide),zaa (show 1≠2 by decide),zaa (show 1≠3 by decide),zaa (show 1≠4 by decide),zaa (show 1≠5 by decide),zaa (show 1≠6 by decide),zaa (show 1≠7 by decide),zaa (show 1≠8 by decide),zaa (show 1≠9 by decide),zaa (show 1≠10 by decide),zaa (show 1≠11 by decide),zaa (show 1≠12 by decide),zaa (show 1≠13 by decide),zaa (show 1≠14 by decide),zaa (show 1≠15 by decide),zaa (show 1≠16 by decide),zbi y0]
 ·
  clear hdep hoff;refine wpOp_step rfl (fun K hK=>?_);simp only [zcj];go_simp;refine hK _ _ ⟨by simp [hsz],X4,X8,X12,p1,d1,p2,d2,p3,d3,?_,F.plain 2 hio (by decide) (by decide) (by decide) (by decide) (by decide) (by decide) (by decide) (by decide) (fun h=>by cases h)⟩;simp only [zcj,zch (show 2<l.size by omega)];simp only [zaa (show 2≠0 by decide),zaa (show 2≠1 by decide),zaa (show 2≠3 by decide),zaa (show 2≠4 by decide),zaa (show 2≠5 by decide),zaa (show 2≠6 by decide),zaa (show 2≠7 by decide),zaa (show 2≠8 by decide),zaa (show 2≠9 by decide),zaa (show 2≠10 by decide),zaa (show 2≠11 by decide),zaa (show 2≠12 by decide),zaa (show 2≠13 by decide),zaa (show 2≠14 by decide),zaa (show 2≠15 by decide),zaa (show 2≠16 by decide)]
 ·
  have y2:l.getD 2 false=true:=by have:=hdep;simp [Region.binds] at this;simp [this]
  clear hdep hoff;refine wpOp_step rfl (fun K hK=>?_);simp only [zcj,zbi y2];go_simp;refine hK _ _ ⟨by simp [hsz],X4,X8,X12,p1,d1,p2,d2,p3,d3,?_,F.plain 3 hio (by decide) (by decide) (by decide) (by decide) (by decide) (by decide) (by decide) (by decide) (fun h=>by cases h)⟩;simp only [zcj,zch (show 3<l.size by omega)];simp only [zaa (show 3≠0 by decide),zaa (show 3≠1 by decide),zaa (show 3≠2 by decide),zaa (show 3≠4 by decide),zaa (show 3≠5 by decide),zaa (show 3≠6 by decide),zaa (show 3≠7 by decide),zaa (show 3≠8 by decide),zaa (show 3≠9 by decide),zaa (show 3≠10 by decide),zaa (show 3≠11 by decide),zaa (show 3≠12 by decide),zaa (show 3≠13 by decide),zaa (show 3≠14 by decide),zaa (show 3≠15 by decide),zaa (show 3≠16 by decide),zbi y2]
 ·
  clear hdep hoff;refine wpOp_step rfl (fun K hK=>?_);simp only [zcj];go_simp;refine hK _ _ ⟨by simp [hsz],W'.heap.size,X8,X12,p1,d1,p2,d2,p3,d3,?_,F.built4 hio⟩;simp only [zcj,zch (show 4<l.size by omega)];simp only [zaa (show 4≠0 by decide),zaa (show 4≠1 by decide),zaa (show 4≠2 by decide),zaa (show 4≠3 by decide),zaa (show 4≠5 by decide),zaa (show 4≠6 by decide),zaa (show 4≠7 by decide),zaa (show 4≠8 by decide),zaa (show 4≠9 by decide),zaa (show 4≠10 by decide),zaa (show 4≠11 by decide),zaa (show 4≠12 by decide),zaa (show 4≠13 by decide),zaa (show 4≠14 by decide),zaa (show 4≠15 by decide),zaa (show 4≠16 by decide)]
 ·
  clear hdep hoff;refine wpOp_step rfl (fun K hK=>?_);simp only [zcj];go_simp;refine hK _ _ ⟨by simp [hsz],X4,X8,X12,p1,d1,p2,d2,p3,d3,?_,F.plain 5 hio (by decide) (by decide) (by decide) (by decide) (by decide) (by decide) (by decide) (by decide) (fun h=>by cases h)⟩;simp only [zcj,zch (show 5<l.size by omega)];simp only [zaa (show 5≠0 by decide),zaa (show 5≠1 by decide),zaa (show 5≠2 by decide),zaa (show 5≠3 by decide),zaa (show 5≠4 by decide),zaa (show 5≠6 by decide),zaa (show 5≠7 by decide),zaa (show 5≠8 by decide),zaa (show 5≠9 by decide),zaa (show 5≠10 by decide),zaa (show 5≠11 by decide),zaa (show 5≠12 by decide),zaa (show 5≠13 by decide),zaa (show 5≠14 by decide),zaa (show 5≠15 by decide),zaa (show 5≠16 by decide)]
 ·
  have y5:l.getD 5 false=true:=by have:=hdep;simp [Region.binds] at this;simp [this]
  clear hdep hoff;refine wpOp_step rfl (fun K hK=>?_);simp only [zcj,zbi y5];go_simp;refine hK _ _ ⟨by simp [hsz],X4,X8,X12,p1,d1,p2,d2,p3,d3,?_,F.plain 6 hio (by decide) (by decide) (by decide) (by decide) (by decide) (by decide) (by decide) (by decide) (fun h=>by cases h)⟩;simp only [zcj,zch (show 6<l.size by omega)];simp only [zaa (show 6≠0 by decide),zaa (show 6≠1 by decide),zaa (show 6≠2 by decide),zaa (show 6≠3 by decide),zaa (show 6≠4 by decide),zaa (show 6≠5 by decide),zaa (show 6≠7 by decide),zaa (show 6≠8 by decide),zaa (show 6≠9 by decide),zaa (show 6≠10 by decide),zaa (show 6≠11 by decide),zaa (show 6≠12 by decide),zaa (show 6≠13 by decide),zaa (show 6≠14 by decide),zaa (show 6≠15 by decide),zaa (show 6≠16 by decide),zbi y5]
 ·
  have y4:l.getD 4 false=true:=by have:=hdep;simp [Region.binds] at this;simp [this]
  have y6:l.getD 6 false=true:=by have:=hdep;simp [Region.binds] at this;simp [this]
  clear hdep hoff;have h16:=F.off16 (.inl hio);have hX:=F.b4 y4 hio;obtain ⟨p',d',w5,hrun,hown,hgr⟩:=yeg (B:=B+2) hX.1 hX.2 (ycp HS1.out F.bel hB0) HN1.out (by omega) F.size;refine wpOp_step rfl (fun K hK=>?_);refine zba (v:= .slice (some ⟨X4,0,none⟩) 0 0) (y:= .slice a1 n1 c1) rfl (.tmp 7) (.tmp 9) 25 rfl ?hs7 ?hx7 hrun ?hk7
  case hs7=>simp [zcj,Act.eval,zbi y4,zbi y6]
  case hx7=>simp [zcj,Act.eval,zbi y4,zbi y6]
  refine hK _ _ ⟨by simp [hsz],X4,X8,X12,p',d',p2,d2,p3,d3,?_,F.app7 hio (by omega) hX hown hgr⟩;change Act.put _ (some 10) _=_;simp only [zcj,Act.put,List.setIfInBounds_toArray,List.set_cons_zero,List.set_cons_succ,zbi y4,zbi y6,zch (show 7<l.size by omega)];simp only [zaa (show 7≠0 by decide),zaa (show 7≠1 by decide),zaa (show 7≠2 by decide),zaa (show 7≠3 by decide),zaa (show 7≠4 by decide),zaa (show 7≠5 by decide),zaa (show 7≠6 by decide),zaa (show 7≠8 by decide),zaa (show 7≠9 by decide),zaa (show 7≠10 by decide),zaa (show 7≠11 by decide),zaa (show 7≠12 by decide),zaa (show 7≠13 by decide),zaa (show 7≠14 by decide),zaa (show 7≠15 by decide),zaa (show 7≠16 by decide),zbi y4,zbi y6,zyv h16]
 ·
  clear hdep hoff;refine wpOp_step rfl (fun K hK=>?_);simp only [zcj];go_simp;refine hK _ _ ⟨by simp [hsz],X4,W'.heap.size,X12,p1,d1,p2,d2,p3,d3,?_,F.built8 hio⟩;simp only [zcj,zch (show 8<l.size by omega)];simp only [zaa (show 8≠0 by decide),zaa (show 8≠1 by decide),zaa (show 8≠2 by decide),zaa (show 8≠3 by decide),zaa (show 8≠4 by decide),zaa (show 8≠5 by decide),zaa (show 8≠6 by decide),zaa (show 8≠7 by decide),zaa (show 8≠9 by decide),zaa (show 8≠10 by decide),zaa (show 8≠11 by decide),zaa (show 8≠12 by decide),zaa (show 8≠13 by decide),zaa (show 8≠14 by decide),zaa (show 8≠15 by decide),zaa (show 8≠16 by decide)]
 ·
  clear hdep hoff;refine wpOp_step rfl (fun K hK=>?_);simp only [zcj];go_simp;refine hK _ _ ⟨by simp [hsz],X4,X8,X12,p1,d1,p2,d2,p3,d3,?_,F.plain 9 hio (by decide) (by decide) (by decide) (by decide) (by decide) (by decide) (by decide) (by decide) (fun h=>by cases h)⟩;simp only [zcj,zch (show 9<l.size by omega)];simp only [zaa (show 9≠0 by decide),zaa (show 9≠1 by decide),zaa (show 9≠2 by decide),zaa (show 9≠3 by decide),zaa (show 9≠4 by decide),zaa (show 9≠5 by decide),zaa (show 9≠6 by decide),zaa (show 9≠7 by decide),zaa (show 9≠8 by decide),zaa (show 9≠10 by decide),zaa (show 9≠11 by decide),zaa (show 9≠12 by decide),zaa (show 9≠13 by decide),zaa (show 9≠14 by decide),zaa (show 9≠15 by decide),zaa (show 9≠16 by decide)]
 ·
  have y9:l.getD 9 false=true:=by have:=hdep;simp [Region.binds] at this;simp [this]
  clear hdep hoff;refine wpOp_step rfl (fun K hK=>?_);simp only [zcj,zbi y9];go_simp;refine hK _ _ ⟨by simp [hsz],X4,X8,X12,p1,d1,p2,d2,p3,d3,?_,F.plain 10 hio (by decide) (by decide) (by decide) (by decide) (by decide) (by decide) (by decide) (by decide) (fun h=>by cases h)⟩;simp only [zcj,zch (show 10<l.size by omega)];simp only [zaa (show 10≠0 by decide),zaa (show 10≠1 by decide),zaa (show 10≠2 by decide),zaa (show 10≠3 by decide),zaa (show 10≠4 by decide),zaa (show 10≠5 by decide),zaa (show 10≠6 by decide),zaa (show 10≠7 by decide),zaa (show 10≠8 by decide),zaa (show 10≠9 by decide),zaa (show 10≠11 by decide),zaa (show 10≠12 by decide),zaa (show 10≠13 by decide),zaa (show 10≠14 by decide),zaa (show 10≠15 by decide),zaa (show 10≠16 by decide),zbi y9]
 ·
  have y8:l.getD 8 false=true:=by have:=hdep;simp [Region.binds] at this;simp [this]
  have y10:l.getD 10 false=true:=by have:=hdep;simp [Region.binds] at this;simp [this]
  clear hdep hoff;have h16:=F.off16 (.inr (.inl hio));have hX:=F.b8 y8 hio;obtain ⟨p',d',w5,hrun,hown,hgr⟩:=ya4 (B:=B+2) hX.1 hX.2 (ybu HS2.out F.bel hB0) HN2.out (by omega) F.size;refine wpOp_step rfl (fun K hK=>?_);refine zba (v:= .slice (some ⟨X8,0,none⟩) 0 0) (y:= .slice a2 n2 c2) rfl (.tmp 11) (.tmp 13) 42 rfl ?hs11 ?hx11 hrun ?hk11
  case hs11=>simp [zcj,Act.eval,zbi y8,zbi y10]
  case hx11=>simp [zcj,Act.eval,zbi y8,zbi y10]
  refine hK _ _ ⟨by simp [hsz],X4,X8,X12,p1,d1,p',d',p3,d3,?_,F.app11 hio (by omega) hX hown hgr⟩;change Act.put _ (some 14) _=_;simp only [zcj,Act.put,List.setIfInBounds_toArray,List.set_cons_zero,List.set_cons_succ,zbi y8,zbi y10,zch (show 11<l.size by omega)];simp only [zaa (show 11≠0 by decide),zaa (show 11≠1 by decide),zaa (show 11≠2 by decide),zaa (show 11≠3 by decide),zaa (show 11≠4 by decide),zaa (show 11≠5 by decide),zaa (show 11≠6 by decide),zaa (show 11≠7 by decide),zaa (show 11≠8 by decide),zaa (show 11≠9 by decide),zaa (show 11≠10 by decide),zaa (show 11≠12 by decide),zaa (show 11≠13 by decide),zaa (show 11≠14 by decide),zaa (show 11≠15 by decide),zaa (show 11≠16 by decide),zbi y8,zbi y10,zyv h16]
 ·
  clear hdep hoff;refine wpOp_step rfl (fun K hK=>?_);simp only [zcj];go_simp;refine hK _ _ ⟨by simp [hsz],X4,X8,W'.heap.size,p1,d1,p2,d2,p3,d3,?_,F.built12 hio⟩;simp only [zcj,zch (show 12<l.size by omega)];simp only [zaa (show 12≠0 by decide),zaa (show 12≠1 by decide),zaa (show 12≠2 by decide),zaa (show 12≠3 by decide),zaa (show 12≠4 by decide),zaa (show 12≠5 by decide),zaa (show 12≠6 by decide),zaa (show 12≠7 by decide),zaa (show 12≠8 by decide),zaa (show 12≠9 by decide),zaa (show 12≠10 by decide),zaa (show 12≠11 by decide),zaa (show 12≠13 by decide),zaa (show 12≠14 by decide),zaa (show 12≠15 by decide),zaa (show 12≠16 by decide)]
 ·
  clear hdep hoff;refine wpOp_step rfl (fun K hK=>?_);simp only [zcj];go_simp;refine hK _ _ ⟨by simp [hsz],X4,X8,X12,p1,d1,p2,d2,p3,d3,?_,F.plain 13 hio (by decide) (by decide) (by decide) (by decide) (by decide) (by decide) (by decide) (by decide) (fun h=>by cases h)⟩;simp only [zcj,zch (show 13<l.size by omega)];simp only [zaa (show 13≠0 by decide),zaa (show 13≠1 by decide),zaa (show 13≠2 by decide),zaa (show 13≠3 by decide),zaa (show 13≠4 by decide),zaa (show 13≠5 by decide),zaa (show 13≠6 by decide),zaa (show 13≠7 by decide),zaa (show 13≠8 by decide),zaa (show 13≠9 by decide),zaa (show 13≠10 by decide),zaa (show 13≠11 by decide),zaa (show 13≠12 by decide),zaa (show 13≠14 by decide),zaa (show 13≠15 by decide),zaa (show 13≠16 by decide)]
 ·
  have y13:l.getD 13 false=true:=by have:=hdep;simp [Region.binds] at this;simp [this]
  clear hdep hoff;refine wpOp_step rfl (fun K hK=>?_);simp only [zcj,zbi y13];go_simp;refine hK _ _ ⟨by simp [hsz],X4,X8,X12,p1,d1,p2,d2,p3,d3,?_,F.plain 14 hio (by decide) (by decide) (by decide) (by decide) (by decide) (by decide) (by decide) (by decide) (fun h=>by cases h)⟩;simp only [zcj,zch (show 14<l.size by omega)];simp only [zaa (show 14≠0 by decide),zaa (show 14≠1 by decide),zaa (show 14≠2 by decide),zaa (show 14≠3 by decide),zaa (show 14≠4 by decide),zaa (show 14≠5 by decide),zaa (show 14≠6 by decide),zaa (show 14≠7 by decide),zaa (show 14≠8 by decide),zaa (show 14≠9 by decide),zaa (show 14≠10 by decide),zaa (show 14≠11 by decide),zaa (show 14≠12 by decide),zaa (show 14≠13 by decide),zaa (show 14≠15 by decide),zaa (show 14≠16 by decide),zbi y13]
 ·
  have y12:l.getD 12 false=true:=by have:=hdep;simp [Region.binds] at this;simp [this]
  have y14:l.getD 14 false=true:=by have:=hdep;simp [Region.binds] at this;simp [this]
  clear hdep hoff;have h16:=F.off16 (.inr (.inr hio));have hX:=F.b12 y12 hio;obtain ⟨p',d',w5,hrun,hown,hgr⟩:=zzg (B:=B+2) hX.1 hX.2 (yat HS3.out F.bel hB0) HN3.out (by omega) F.size;refine wpOp_step rfl (fun K hK=>?_);refine zba (v:= .slice (some ⟨X12,0,none⟩) 0 0) (y:= .slice a3 n3 c3) rfl (.tmp 15) (.tmp 17) 43 rfl ?hs15 ?hx15 hrun ?hk15
  case hs15=>simp [zcj,Act.eval,zbi y12,zbi y14]
  case hx15=>simp [zcj,Act.eval,zbi y12,zbi y14]
  refine hK _ _ ⟨by simp [hsz],X4,X8,X12,p1,d1,p2,d2,p',d',?_,F.app15 hio (by omega) hX hown hgr⟩;change Act.put _ (some 18) _=_;simp only [zcj,Act.put,List.setIfInBounds_toArray,List.set_cons_zero,List.set_cons_succ,zbi y12,zbi y14,zch (show 15<l.size by omega)];simp only [zaa (show 15≠0 by decide),zaa (show 15≠1 by decide),zaa (show 15≠2 by decide),zaa (show 15≠3 by decide),zaa (show 15≠4 by decide),zaa (show 15≠5 by decide),zaa (show 15≠6 by decide),zaa (show 15≠7 by decide),zaa (show 15≠8 by decide),zaa (show 15≠9 by decide),zaa (show 15≠10 by decide),zaa (show 15≠11 by decide),zaa (show 15≠12 by decide),zaa (show 15≠13 by decide),zaa (show 15≠14 by decide),zaa (show 15≠16 by decide),zbi y12,zbi y14,zyv h16]
 ·
  have y1:l.getD 1 false=true:=by have:=hdep;simp [Region.binds] at this;simp [this]
  have y3:l.getD 3 false=true:=by have:=hdep;simp [Region.binds] at this;simp [this]
  have y7:l.getD 7 false=true:=by have:=hdep;simp [Region.binds] at this;simp [this]
  have y11:l.getD 11 false=true:=by have:=hdep;simp [Region.binds] at this;simp [this]
  have y15:l.getD 15 false=true:=by have:=hdep;simp [Region.binds] at this;simp [this]
  clear hdep hoff;refine wpOp_step rfl (fun K hK=>?_);simp only [zcj,zbi y1,zbi y3,zbi y7,zbi y11,zbi y15];go_simp;refine hK _ _ ⟨by simp [hsz],X4,X8,X12,p1,d1,p2,d2,p3,d3,?_,F.plain 16 hio (by decide) (by decide) (by decide) (by decide) (by decide) (by decide) (by decide) (by decide) (fun _=>⟨y7,y11,y15⟩)⟩;simp only [zcj,zch (show 16<l.size by omega)];simp only [zaa (show 16≠0 by decide),zaa (show 16≠1 by decide),zaa (show 16≠2 by decide),zaa (show 16≠3 by decide),zaa (show 16≠4 by decide),zaa (show 16≠5 by decide),zaa (show 16≠6 by decide),zaa (show 16≠7 by decide),zaa (show 16≠8 by decide),zaa (show 16≠9 by decide),zaa (show 16≠10 by decide),zaa (show 16≠11 by decide),zaa (show 16≠12 by decide),zaa (show 16≠13 by decide),zaa (show 16≠14 by decide),zaa (show 16≠15 by decide),zbi y1,zbi y3,zbi y7,zbi y11,zbi y15]
 ·
  have dall:∀j,j<17->l.getD j false=true:=by
   have hd2:=hdep;simp [Region.binds] at hd2;intro j hj;have hc2:j=0\/j=1\/j=2\/j=3\/j=4\/j=5\/j=6\/j=7\/j=8\/j=9\/j=10\/j=11\/j=12\/j=13\/j=14\/j=15\/j=16:=by omega
   rcases hc2 with rfl|rfl|rfl|rfl|rfl|rfl|rfl|rfl|rfl|rfl|rfl|rfl|rfl|rfl|rfl|rfl|rfl<;>simp [hd2]
  have y16:=dall 16 (by omega);clear hdep hoff;have hres:=F.res hio;obtain ⟨m0,m1,m2,m3,m4⟩:=zmn hres;have f0:=hres.frozen 0;have f1:=hres.frozen 1;have f2:=hres.frozen 2;have f3:=hres.frozen 3;have f4:=hres.frozen 4;refine wpOp_step rfl (fun K hK=>?_);simp only [zcj,zbi y16];go_simp;refine hK _ _ ⟨by simp [hsz],X4,X8,X12,p1,d1,p2,d2,p3,d3,?_,F.stored hio (by omega) dall⟩;simp only [zcj,zaa (show 17≠0 by decide),zaa (show 17≠1 by decide),zaa (show 17≠2 by decide),zaa (show 17≠3 by decide),zaa (show 17≠4 by decide),zaa (show 17≠5 by decide),zaa (show 17≠6 by decide),zaa (show 17≠7 by decide),zaa (show 17≠8 by decide),zaa (show 17≠9 by decide),zaa (show 17≠10 by decide),zaa (show 17≠11 by decide),zaa (show 17≠12 by decide),zaa (show 17≠13 by decide),zaa (show 17≠14 by decide),zaa (show 17≠15 by decide),zaa (show 17≠16 by decide),zbi y16]
def zdr (t:Int):Bool:=decide (0<=t)&&decide (t<=1000000000)
def zfo (k:Ke):Bool:=decide (k.name.size<=200)&&(zh4 k.val&&zdr k.due)
def riK (ks:List Ke) (i:Nat):Bool:=decide (i=0)||Op.bytesLess (ks.getD (i-1) ke0).name.toList (ks.getD i ke0).name.toList
def zan (ks:List Ke):Bool:=decide (ks.length<=20)&&((List.range ks.length).all (riK ks)&&(List.range ks.length).all fun i=>zfo (ks.getD i ke0))
def riV (L:List KV) (i:Nat):Bool:=decide (i=0)||Op.bytesLess (L.getD (i-1) kv0).key.name.toList (L.getD i kv0).key.name.toList
def kyV (L:List KV) (i:Nat):Bool:=zfo (L.getD i kv0).key
theorem zjv (L:List KV) (i:Nat):(L.map KV.key).getD i ke0=(L.getD i kv0).key:=by
 rw [Qa,Qa,List.getElem?_map];cases L[i]?<;>rfl
theorem zzw (L:List KV):zan (L.map KV.key)=(decide (L.length<=20)&&((List.range L.length).all (riV L)&&(List.range L.length).all (kyV L))):=by
 unfold zan;have e1:riK (L.map KV.key)=riV L:=by funext i;unfold riK riV;rw [zjv,zjv]
 have e2:(fun i=>zfo ((L.map KV.key).getD i ke0))=kyV L:=by funext i;unfold kyV;rw [zjv]
 rw [e1,e2,Qp]
def Small (L:List KV):Prop:=∀i,i<L.length->KSm (L.getD i kv0).key.val/\(L.getD i kv0).key.name.size<=1048576
def yfk (x y:KV):Int:=Lib.compareBytes x.key.name.data.toList y.key.name.data.toList
theorem zzs (x y:KV):decide (yfk x y<0)=Op.bytesLess x.key.name.toList y.key.name.toList:=by
 unfold yfk;rw [Kk.zio,ByteArray.toList_eq,ByteArray.toList_eq]
abbrev kC (nm:ByteArray) (k:Int) (t:ByteArray) (vi vp vr:Value) (d:Int):Array Value:= #[.string nm,.int .i64 k,.string t,vi,vp,vr,.int .i64 d]
theorem zob (x y:KV) (w:World):Calls prog 59 #[kvV x,kvV y] w fun e w'=>e= .returned (.int .i64 (yfk x y))/\Bl w w':=by
 have HC:Hid (∀W,Cp 109 #[.string x.key.name,.string y.key.name] W fun e w'=>e= .returned (.int .i64 (yfk x y))/\w'=W):=fun W=>Kk.zkq x.key.name y.key.name W;generalize yfk x y=z at*;obtain ⟨⟨n1,⟨k1,t1,_,_,_⟩,d1⟩,vi1,vp1,vr1⟩:=x;obtain ⟨⟨n2,⟨k2,t2,_,_,_⟩,d2⟩,vi2,vp2,vr2⟩:=y;have hb:Bl w ((w.alloc (.cells (kC n1 k1 t1 vi1 vp1 vr1 d1) 47)).alloc (.cells (kC n2 k2 t2 vi2 vp2 vr2 d2) 47)):=((Qb _ _).alloc (Qc _) _).alloc (by simp) _;go_enter func59,ntmps59;go_wp2_with fail;refine (HC.out _).mono ?_;rintro e w1 ⟨rfl,rfl⟩;go_wp2;go_ret;exact ⟨rfl,hb⟩
theorem zwo (a:Option Addr) (b n c:Nat) (L:List KV) (w:World) (h:zx7 w a b n L) (hn:n<=1048577):
  Calls prog 58 #[.slice a n c,.func (.func 59) #[] #[]] w fun e w'=>e= .returned (.bool ((List.range n).all (riV L)))/\Bl w w':=by
 have H:Hid (zx7 w a b n L):=h;clear h;go_enter func58,ntmps58;go_wp2;go_loopw [5] (fun i wr=>∃(k:Nat),1<=k/\(k<=n\/k=1)/\i= .int .i64 k/\Hid (∀j,j<k->riV L j=true)/\Bl w wr) (fun i _=>n-(intOf i).toNat)
 case atStart=>exact ⟨1,by omega,.inr rfl,rfl,(fun j hj=>by cases (by omega:j=0);rfl),Qb _ _⟩
 case round=>
  obtain ⟨k,hk1,hk,rfl,hp,bk⟩:=hrel;by_cases hlt:k<n
  ·have HW:=H.out.bw bk;have hc:=HW.cell (k-1) (by omega);have hd:=HW.cell k hlt;obtain rfl:=HW.addr (by omega);have HS:Hid (riV L k=decide (yfk (L.getD (k-1) kv0) (L.getD k kv0)<0)):=by
    unfold Hid;rw [zzs];unfold riV;rw [Qf (by omega)];rfl
   generalize L.getD (k-1) kv0=x,L.getD k kv0=y at*;have HC:Hid (∀W,Cp 59 #[kvV x,kvV y] W fun e w'=>e= .returned (.int .i64 (yfk x y))/\Bl W w'):=fun W=>zob x y W;generalize yfk x y=z at*;obtain ⟨⟨n1,⟨k1,t1,_,_,_⟩,d1⟩,vi1,vp1,vr1⟩:=x;obtain ⟨⟨n2,⟨k2,t2,_,_,_⟩,d2⟩,vi2,vp2,vr2⟩:=y;have sk:=bk.size;have hb:=HW.low (by omega);obtain ⟨c0,c1,c2,c3,c4,c5,c6⟩:=hc;obtain ⟨e0,e1,e2,e3,e4,e5,e6⟩:=hd;clear HW;dsimp only at c0 c1 c2 c3 c4 c5 c6 e0 e1 e2 e3 e4 e5 e6;have hk2:(1:Int)<=(k:Int):=by omega
   have hk3:(0:Int)<=(k:Int)-1:=by omega
   have hk4:(k:Int)-1<(n:Int):=by omega
   have hk0:(0:Int)<=(k:Int):=by omega
   have hkn:(k:Int)<(n:Int):=by omega
   have htn:((k:Int)-1).toNat=k-1:=by omega
   have hw:IntKind.i64.wrap ((k:Int)-1)=(k:Int)-1:=Kk.wrap_small (by omega) (by omega);go_upto_region 4 with fail;go_region_held3 (fun W=>W.cell? ⟨b,(k-1)*7,none⟩=some (.string n1)/\W.cell? ⟨b,(k-1)*7+1,none⟩=some (.int .i64 k1)/\W.cell? ⟨b,(k-1)*7+2,none⟩=some (.string t1)/\W.cell? ⟨b,(k-1)*7+3,none⟩=some vi1/\W.cell? ⟨b,(k-1)*7+4,none⟩=some vp1/\W.cell? ⟨b,(k-1)*7+5,none⟩=some vr1/\W.cell? ⟨b,(k-1)*7+6,none⟩=some (.int .i64 d1)/\W.cell? ⟨b,k*7,none⟩=some (.string n2)/\W.cell? ⟨b,k*7+1,none⟩=some (.int .i64 k2)/\W.cell? ⟨b,k*7+2,none⟩=some (.string t2)/\W.cell? ⟨b,k*7+3,none⟩=some vi2/\W.cell? ⟨b,k*7+4,none⟩=some vp2/\W.cell? ⟨b,k*7+5,none⟩=some vr2/\W.cell? ⟨b,k*7+6,none⟩=some (.int .i64 d2))
    (first
     |exact ⟨c0,c1,c2,c3,c4,c5,c6,e0,e1,e2,e3,e4,e5,e6⟩
     |exact ⟨(b1.cell (p:=⟨b,_,none⟩) hb).trans c0,(b1.cell (p:=⟨b,_,none⟩) hb).trans c1,(b1.cell (p:=⟨b,_,none⟩) hb).trans c2,(b1.cell (p:=⟨b,_,none⟩) hb).trans c3,(b1.cell (p:=⟨b,_,none⟩) hb).trans c4,(b1.cell (p:=⟨b,_,none⟩) hb).trans c5,(b1.cell (p:=⟨b,_,none⟩) hb).trans c6,(b1.cell (p:=⟨b,_,none⟩) hb).trans e0,(b1.cell (p:=⟨b,_,none⟩) hb).trans e1,(b1.cell (p:=⟨b,_,none⟩) hb).trans e2,(b1.cell (p:=⟨b,_,none⟩) hb).trans e3,(b1.cell (p:=⟨b,_,none⟩) hb).trans e4,(b1.cell (p:=⟨b,_,none⟩) hb).trans e5,(b1.cell (p:=⟨b,_,none⟩) hb).trans e6⟩)
    (first
     |(go_at_call 59;refine (HC.out _).mono ?_;rintro e w1 ⟨rfl,b1⟩))
   have b2:Bl w w1:=bk.trans ((Below.trans (below_drewN (Qb _ wr) 1) b1).mono sk);clear b1 htn hw hk3 hk4 c0 c1 c2 c3 c4 c5 c6 e0 e1 e2 e3 e4 e5 e6 HC hk0;by_cases hz:z<0
   ·have hd:decide (0<=z)=false:=Qf (by omega);have HP2:Hid (∀j,j<k+1->riV L j=true):=fun j hj=>by
     by_cases e:j=k
     ·subst e;rw [HS.out,Qe hz]
     ·exact hp.out j (by omega)
    clear hp HS;go_wp2;go_roundw
    case rel=>exact ⟨k+1,by omega,.inl (by omega),by go_num,HP2,b2⟩
    case measure=>simp [intOf];omega
   ·have hd:decide (0<=z)=true:=Qe (by omega);have HF:Hid ((List.range n).all (riV L)=false):=Kk.zg2 hlt (by rw [HS.out,Qf hz]);clear hp HS;go_wp2;go_ret;exact ⟨zae HF.out.symm,b2⟩
  ·have HT:Hid ((List.range n).all (riV L)=true):=Kk.zfh fun j hj=>hp.out j (by omega);clear hp;go_wp2;go_ret;exact ⟨zae HT.out.symm,bk⟩
theorem znn (t:Int) (w:World):Calls prog 45 #[.int .i64 t] w fun e w'=>e= .returned (.bool (zdr t))/\w'=w:=by
 by_cases h0:0<=t
 ·by_cases h1:t<=1000000000
  ·have HE:Hid (zdr t=true):=by unfold Hid zdr;rw [Qe h0,Qe h1];rfl
   go_enter func45,ntmps45;go_wp2;go_ret;exact ⟨zae HE.out.symm,rfl⟩
  ·have HE:Hid (zdr t=false):=by unfold Hid zdr;rw [Qe h0,Qf h1];rfl
   go_enter func45,ntmps45;go_wp2;go_ret;exact ⟨zae HE.out.symm,rfl⟩
 ·have HE:Hid (zdr t=false):=by unfold Hid zdr;rw [Qf h0];rfl
  go_enter func45,ntmps45;go_wp2;go_ret;exact ⟨zae HE.out.symm,rfl⟩
theorem up7 {W W':World} {B G:Nat} {x0 x1 x2 x3 x4 x5 x6:Value} (b:Below B W W') (h:G<B) (c:W.cell? ⟨G,0,none⟩=some x0/\W.cell? ⟨G,1,none⟩=some x1/\W.cell? ⟨G,2,none⟩=some x2/\W.cell? ⟨G,3,none⟩=some x3/\W.cell? ⟨G,4,none⟩=some x4/\W.cell? ⟨G,5,none⟩=some x5/\W.cell? ⟨G,6,none⟩=some x6):W'.cell? ⟨G,0,none⟩=some x0/\W'.cell? ⟨G,1,none⟩=some x1/\W'.cell? ⟨G,2,none⟩=some x2/\W'.cell? ⟨G,3,none⟩=some x3/\W'.cell? ⟨G,4,none⟩=some x4/\W'.cell? ⟨G,5,none⟩=some x5/\W'.cell? ⟨G,6,none⟩=some x6:=by
 obtain ⟨c0,c1,c2,c3,c4,c5,c6⟩:=c;exact ⟨(b.cell (p:=⟨G,0,none⟩) h).trans c0,(b.cell (p:=⟨G,1,none⟩) h).trans c1,(b.cell (p:=⟨G,2,none⟩) h).trans c2,(b.cell (p:=⟨G,3,none⟩) h).trans c3,(b.cell (p:=⟨G,4,none⟩) h).trans c4,(b.cell (p:=⟨G,5,none⟩) h).trans c5,(b.cell (p:=⟨G,6,none⟩) h).trans c6⟩
theorem zdo {w:World} {T:TypeId} {n:ByteArray} {k:Int} {t:ByteArray} {vi vp vr:Value} {d:Int} (h:zab w g T (kC n k t vi vp vr d)):w.cell? ⟨g,0,none⟩=some (.string n)/\w.cell? ⟨g,1,none⟩=some (.int .i64 k)/\w.cell? ⟨g,2,none⟩=some (.string t)/\w.cell? ⟨g,3,none⟩=some vi/\w.cell? ⟨g,4,none⟩=some vp/\w.cell? ⟨g,5,none⟩=some vr/\w.cell? ⟨g,6,none⟩=some (.int .i64 d):=by
 have a0:=h.cell 0;have a1:=h.cell 1;have a2:=h.cell 2;have a3:=h.cell 3;have a4:=h.cell 4;have a5:=h.cell 5;have a6:=h.cell 6;simp at a0 a1 a2 a3 a4 a5 a6;exact ⟨a0,a1,a2,a3,a4,a5,a6⟩
theorem zjq (x:KV) (B:Nat) (w:World) (h:VOwn w B x.key.val x.vi x.vp x.vr) (hs:KSm x.key.val) (hn:x.key.name.size<=1048576) (hR:Ready w):
  Calls prog 61 #[kvV x] w fun e w'=>e= .returned (.bool (!zfo x.key))/\Bl w w':=by
 have HV:Hid (∀W,Bl w W->Cp 111 #[vlV x.key.val.kind x.key.val.text x.vi x.vp x.vr] W fun e w'=>e= .returned (.bool (zh4 x.key.val))/\Bl W w'):=fun W hb=>zw0 x.key.val x.vi x.vp x.vr B W (h.bw hb) hs.fit hs.np hs.nums (hR.bw (hb.mono hR.six));have HT:Hid (∀W,Cp 45 #[.int .i64 x.key.due] W fun e w'=>e= .returned (.bool (zdr x.key.due))/\w'=W):=fun W=>znn _ W;have HE:Hid (zfo x.key=(decide (x.key.name.size<=200)&&(zh4 x.key.val&&zdr x.key.due))):=rfl;obtain ⟨O,hO⟩:∃O,zfo x.key=O:=⟨_,rfl⟩;rw [hO] at HE ⊢;clear h hs hR hO;generalize zh4 x.key.val=o2,zdr x.key.due=o3 at*;obtain ⟨⟨nm,⟨k,t,_,_,_⟩,d⟩,vi,vp,vr⟩:=x;dsimp only at hn HV HT HE;obtain ⟨wa,hwa⟩:∃wa,w.alloc (.cells (kC nm k t vi vp vr d) 47)=wa:=⟨_,rfl⟩;have HB:Hid (Bl w wa/\zab wa w.heap.size 47 (kC nm k t vi vp vr d)):=by subst hwa;exact ⟨(Qb _ w).alloc (Qc _) _,zab.new w 47 _⟩
 have HWA:Hid (w.alloc (.cells (kC nm k t vi vp vr d) 47)=wa):=hwa;clear hwa;by_cases h200:nm.size<=200
 ·have hg:decide ((200:Int)<(nm.size:Int))=false:=Qf (by omega);rw [Qe h200,Qz] at HE;cases o2 with
  |false=>
   have HE2:Hid ((!O)=true):=by unfold Hid;rw [HE.out];rfl
   generalize (!O)=NO at*;go_enter func61,ntmps61;go_wp2_with fail;rw [HWA.out];refine (HV.out wa HB.out.1).mono ?_;rintro e w1 ⟨rfl,b1⟩;have bb:=HB.out.1.trans (b1.mono HB.out.1.size);go_wp2;go_ret;exact ⟨zae HE2.out.symm,bb⟩
  |true=>
   have HE2:Hid ((!O)=!o3):=by unfold Hid;rw [HE.out];rfl
   generalize (!O)=NO at*;go_enter func61,ntmps61;go_wp2_with fail;rw [HWA.out];refine (HV.out wa HB.out.1).mono ?_;rintro e w1 ⟨rfl,b1⟩;have bb:=HB.out.1.trans (b1.mono HB.out.1.size);obtain ⟨_,_,_,_,_,_,a6⟩:=zdo (zab.bw HB.out.2 b1 HB.out.2.lt);go_wp2_with fail;refine (HT.out w1).mono ?_;rintro e w2 ⟨rfl,rfl⟩;go_wp2;go_ret;exact ⟨zae HE2.out.symm,bb⟩
 ·have hg:decide ((200:Int)<(nm.size:Int))=true:=Qe (by omega);have HE2:Hid ((!O)=true):=by unfold Hid;rw [HE.out,Qf h200];rfl
  generalize (!O)=NO at*;go_enter func61,ntmps61;go_wp2;go_ret;exact ⟨zae HE2.out.symm,(Qb _ w).alloc (Qc _) _⟩
section
variable (a:Option Addr) (b n c:Nat) (L:List KV) (w:World)
theorem zxa (h:zoe w a b n L) (hs:Small L) (hn:n<=1048577) (hR:Ready w):
  Calls prog 110 #[.slice a n c,.func (.func 61) #[] #[]] w fun e w'=>∃r:Int,e= .returned (.int .i64 r)/\decide (0<=r)=(!(List.range n).all (kyV L))/\Bl w w':=by
 have H:Hid (zoe w a b n L):=h;have HS:Hid (Small L):=hs;have HR:Hid (Ready w):=hR;have HL:Hid (L.length=n):=h.ks.len;clear h hs hR;go_enter func110,ntmps110;go_wp2;go_loopw [8] (fun i wr=>∃(k:Nat),k<=n/\i= .int .i64 k/\Hid (∀j,j<k->kyV L j=true)/\Bl w wr) (fun i _=>n-(intOf i).toNat)
 case atStart=>exact ⟨0,by omega,rfl,(fun j hj=>by omega),Qb _ _⟩
 case round=>
  obtain ⟨k,hk,rfl,hp,bk⟩:=hrel;have sk:=bk.size;by_cases hlt:k<n
  ·have HW:=H.out.bw bk;obtain ⟨B,hv⟩:=HW.val k hlt;have hc:=HW.ks.cell k hlt;obtain rfl:=HW.ks.addr (by omega);obtain ⟨q1,q2⟩:=HS.out k (by rw [HL.out];exact hlt);have HKY:Hid (kyV L k=zfo (L.getD k kv0).key):=rfl;have HC:Hid (Cp 61 #[kvV (L.getD k kv0)] wr fun e w'=>e= .returned (.bool (!zfo (L.getD k kv0).key))/\Bl wr w'):=zjq _ B wr hv q1 q2 (HR.out.bw (bk.mono HR.out.six));generalize L.getD k kv0=x at*;generalize zfo x.key=o at*;obtain ⟨c0,c1,c2,c3,c4,c5,c6⟩:=hc;clear HW q1 q2 hv;obtain ⟨⟨nm,⟨kd,t,_,_,_⟩,d⟩,vi,vp,vr⟩:=x;dsimp only at c0 c1 c2 c3 c4 c5 c6;cases o with
   |false=>
    have HF:Hid ((List.range n).all (kyV L)=false):=Kk.zg2 hlt HKY.out;clear hp;go_wp2_with fail;refine HC.out.mono ?_;rintro e w1 ⟨rfl,b1⟩;have bb:=bk.trans (b1.mono sk);clear c0 c1 c2 c3 c4 c5 c6;go_wp2;go_ret;exact ⟨k,rfl,by rw [HF.out];exact Qe (by omega),bb⟩
   |true=>
    have HP2:Hid (∀j,j<k+1->kyV L j=true):=fun j hj=>by
     by_cases e:j=k
     ·subst e;exact HKY.out
     ·exact hp.out j (by omega)
    clear hp;go_wp2_with fail;refine HC.out.mono ?_;rintro e w1 ⟨rfl,b1⟩;have bb:=bk.trans (b1.mono sk);clear c0 c1 c2 c3 c4 c5 c6;go_wp2;go_roundw
    case rel=>exact ⟨k+1,by omega,by go_num,HP2,bb⟩
    case measure=>simp [intOf];omega
  ·have HT:Hid ((List.range n).all (kyV L)=true):=Kk.zfh fun j hj=>hp.out j (by omega);clear hp;go_wp2;go_ret;exact ⟨-1,rfl,by rw [HT.out];rfl,bk⟩
theorem zor (h:zoe w a b n L) (hs:Small L) (hn:n<=1048577) (hR:Ready w):
  Calls prog 60 #[.slice a n c,.func (.func 61) #[] #[]] w fun e w'=>e= .returned (.bool (!(List.range n).all (kyV L)))/\Bl w w':=by
 have HC:Hid (Cp 110 #[.slice a n c,.func (.func 61) #[] #[]] w fun e w'=>∃r:Int,e= .returned (.int .i64 r)/\decide (0<=r)=(!(List.range n).all (kyV L))/\Bl w w'):=zxa a b n c L w h hs hn hR;generalize (!(List.range n).all (kyV L))=o at*;clear h hs hR;go_enter func60,ntmps60;go_wp2_with fail;refine HC.out.mono ?_;rintro e w1 ⟨r,rfl,hr,b1⟩;have Hr:Hid (decide (0<=r)=o):=hr;clear hr;go_wp2;go_ret;exact ⟨zae Hr.out,b1⟩
theorem zjr (h:zoe w a b n L) (hs:Small L) (hn:n<=1048577) (hR:Ready w):
  Calls prog 20 #[.slice a n c] w fun e w'=>e= .returned (.bool (zan (L.map KV.key)))/\Bl w w':=by
 have HE:Hid (zan (L.map KV.key)=(decide (n<=20)&&((List.range n).all (riV L)&&(List.range n).all (kyV L)))):=by unfold Hid;rw [zzw,h.ks.len]
 obtain ⟨O,hO⟩:∃O,zan (L.map KV.key)=O:=⟨_,rfl⟩;rw [hO] at HE ⊢;have HA:Hid (Cp 58 #[.slice a n c,.func (.func 59) #[] #[]] w fun e w'=>e= .returned (.bool ((List.range n).all (riV L)))/\Bl w w'):=zwo a b n c L w h.ks hn;have HB:Hid (∀W,Bl w W->Cp 60 #[.slice a n c,.func (.func 61) #[] #[]] W fun e w'=>e= .returned (.bool (!(List.range n).all (kyV L)))/\Bl W w'):=fun W hb=>zor a b n c L W (h.bw hb) hs hn (hR.bw (hb.mono hR.six));clear h hs hR hO;generalize (List.range n).all (riV L)=o1,(List.range n).all (kyV L)=o2 at*;by_cases h20:n<=20
 ·have hg:decide ((n:Int)<=20)=true:=Qe (by omega);rw [Qe h20,Qz] at HE;cases o1 with
  |false=>
   have HE2:Hid (O=false):=HE.out;go_enter func20,ntmps20;go_wp2_with fail;refine HA.out.mono ?_;rintro e w1 ⟨rfl,b1⟩;go_wp2;go_ret;exact ⟨zae HE2.out.symm,b1⟩
  |true=>
   have HE2:Hid (O=o2):=HE.out;go_enter func20,ntmps20;go_wp2_with fail;refine HA.out.mono ?_;rintro e w1 ⟨rfl,b1⟩;have HB1:=HB.out w1 b1;generalize hno:(!o2)=no2 at*;have HNO:Hid ((!o2)=no2):=hno;clear hno;go_wp2_with fail;refine HB1.mono ?_;rintro e w2 ⟨rfl,b2⟩;have bb:=b1.trans (b2.mono b1.size);go_wp2;go_ret;exact ⟨zae (by rw [HE2.out,<-HNO.out];cases o2<;>rfl),bb⟩
 ·have hg:decide ((n:Int)<=20)=false:=Qf (by omega);have HE2:Hid (O=false):=by unfold Hid;rw [HE.out,Qf h20];rfl
  go_enter func20,ntmps20;go_wp2;go_ret;exact ⟨zae HE2.out.symm,Qb _ _⟩
end
end Go.Proofs.YtokafonppgppdaaGreatDoor
