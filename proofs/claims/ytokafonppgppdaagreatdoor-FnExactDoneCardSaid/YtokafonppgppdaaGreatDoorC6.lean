import Derived.Test.YtokafonppgppdaaGreatDoorXa
set_option maxHeartbeats 8000000
set_option maxRecDepth 100000
namespace Go.Proofs.YtokafonppgppdaaGreatDoor
section
open Tryz
open Go.RowKit Go.Sort
open Kk (Rk rk0 G8 Mp F1 L7 Hv G9 Fo G6 encR F7)
variable {V v:Value} {w' w5:World} {b o n size g N N' X A c d':Nat} {a p':Option Addr} {e:TypeId} {xs:List Value} {β:Nat->Nat} {D:Array Value}
theorem boxed(w:World)(C:Array Value)(T:TypeId):∃W0,w.alloc (.cells C T)=W0/\Hid (w.alloc (.cells C T)=W0)/\Bl w W0/\Fc W0 w.heap.size T C:=⟨_,rfl,rfl,(Qb _ w).alloc (Qc _) _,Fc.new w T C⟩
structure Ke where
 name:ByteArray
 val:Vl
 due:Int
structure KV where
 key:Ke
 vi:Value
 vp:Value
 vr:Value
def ke0:Ke:=⟨bz,vl0,0⟩
def kv0:KV:=⟨ke0,Fi,Fi,Fi⟩
abbrev kvV (x:KV):Value:= .agg #[.string x.key.name,.int .i64 x.key.val.kind,.string x.key.val.text,x.vi,x.vp,x.vr,.int .i64 x.key.due]
def kvC (x:KV):List Value:=[.string x.key.name,.int .i64 x.key.val.kind,.string x.key.val.text,x.vi,x.vp,x.vr,.int .i64 x.key.due]
def flatK (L:List KV):List Value:=L.flatMap kvC
abbrev Nu (w:World) (B:Nat) (v:Value) (L:List KV):Prop:=w.ownsRow B 47 7 v L.length (flatK L)
theorem zyp(L M:List KV):flatK (L++M)=flatK L++flatK M:=List.flatMap_append
theorem znz(x:KV)(L:List KV):flatK (x::L)=kvC x++flatK L:=rfl
theorem zuj:∀(L:List KV)(i j:Nat),i<L.length->j<7->(flatK L)[i*7+j]?=(kvC (L.getD i kv0))[j]?
 |[],i,j,h,_=>by simp at h
 |x::L,0,j,_,hj=>by
  rw[znz,List.getElem?_append_left (by simp[kvC];omega)];simp
 |x::L,i+1,j,h,hj=>by
  rw[znz,List.getElem?_append_right (by simp[kvC];omega)];have:=zuj L i j (by simpa using h) hj;rw[show(i+1)*7+j-(kvC x).length=i*7+j from by simp[kvC];omega,this];simp
theorem Au(w:World)(B:Nat):Nu w B (.slice none 0 0) []:=World.ownsRow_nil _ _ _ _
theorem yi9:(prog.info? 47).map (fun i=> (i.zero,i.size,i.bytes))=some (some (.agg #[.string ⟨#[]⟩,.int .i64 0,.string ⟨#[]⟩,.slice none 0 0,.slice none 0 0,.slice none 0 0,.int .i64 0]),7,120):=by kernel_rfl
theorem ya8{w:World}{B:Nat}{L:List KV}(k:Ke)(a1 a2 a3:Option Addr)(n1 c1 n2 c2 n3 c3:Nat)(h:Nu w B V L)(hn:L.length<=1048576)(hB:B<=w.heap.size):
  ∃v' w',(Builtin.append_ #[24,24] 24 #[V,.slice (some ⟨w.heap.size,0,none⟩) 1 1]).run prog (w.alloc (.cells #[.string k.name,.int .i64 k.val.kind,.string k.val.text,.slice a1 n1 c1,.slice a2 n2 c2,.slice a3 n3 c3,.int .i64 k.due] 47))=.ok v' w'/\Nu w' B v' (L++ [⟨k,.slice a1 n1 c1,.slice a2 n2 c2,.slice a3 n3 c3⟩])/\Below B w w'/\w.grownBy w' V.ownBlock:=by
 obtain⟨i0,hi,Gf,Ge,Gc⟩:=info_parts yi9;have Gd:Bl w (w.alloc (.cells #[.string k.name,.int .i64 k.val.kind,.string k.val.text,.slice a1 n1 c1,.slice a2 n2 c2,.slice a3 n3 c3,.int .i64 k.due] 47)):=(Qb _ w).alloc (Qc _) _;have oA:=Fw h Gd
 obtain⟨v',w',Gb,Ga,hg,_,Gg⟩:=run_append_own_at (P:=prog) (w.alloc (.cells #[.string k.name,.int .i64 k.val.kind,.string k.val.text,.slice a1 n1 c1,.slice a2 n2 c2,.slice a3 n3 c3,.int .i64 k.due] 47)) B 24 24 47 i0 _ 7 120 underlying24 hi Gf Ge Gc rfl (by decide) V L.length (flatK L) oA ⟨w.heap.size,0,none⟩ 1 1 [.string k.name,.int .i64 k.val.kind,.string k.val.text,.slice a1 n1 c1,.slice a2 n2 c2,.slice a3 n3 c3,.int .i64 k.due] rfl (fun j u hj=>by
  rw[Addr.add_lit,Qq];exact((Fc.new w 47 #[.string k.name,.int .i64 k.val.kind,.string k.val.text,.slice a1 n1 c1,.slice a2 n2 c2,.slice a3 n3 c3,.int .i64 k.due]).cell j).trans (by simpa using hj)) (fun u hu=>by simp at hu;rcases hu with rfl|rfl|rfl|rfl|rfl|rfl|rfl<;>rfl) (by unfold maxLen;omega) (by omega) (by simp;omega)
 refine⟨v',w',Gb,?_,R4 (Qb _ w) hB h hg,?_⟩
 ·unfold Nu;rw[Qi,zyp];exact Ga
 ·have hs:(w.alloc (.cells #[.string k.name,.int .i64 k.val.kind,.string k.val.text,.slice a1 n1 c1,.slice a2 n2 c2,.slice a3 n3 c3,.int .i64 k.due] 47)).heap.size=w.heap.size+1:=by simp
  have h2:=hg.size;exact⟨hg.os,hg.tape,hg.output,by omega,fun k hk hr=>(hg.block k (by omega) hr).trans (Below.heap_alloc _ _ _ (by omega))⟩
structure Ck (w:World) (b o:Nat) (x:KV):Prop where
 c0:w.cell? ⟨b,o,none⟩=some (.string x.key.name)
 c1:w.cell? ⟨b,o+1,none⟩=some (.int .i64 x.key.val.kind)
 c2:w.cell? ⟨b,o+2,none⟩=some (.string x.key.val.text)
 c3:w.cell? ⟨b,o+3,none⟩=some x.vi
 c4:w.cell? ⟨b,o+4,none⟩=some x.vp
 c5:w.cell? ⟨b,o+5,none⟩=some x.vr
 c6:w.cell? ⟨b,o+6,none⟩=some (.int .i64 x.key.due)
structure To (w:World) (a:Option Addr) (b n:Nat) (L:List KV):Prop where
 len:L.length=n
 addr:0<n->a=some ⟨b,0,none⟩
 low:0<n->b<w.heap.size
 cell:∀i,i<n->Ck w b (i*7) (L.getD i kv0)
theorem yde{w:World}{B:Nat}{x:KV}(h:Ck w b o x)(hl:b<B)(hb:Below B w w'):Ck w' b o x:=
 ⟨(hb.cell (p:=⟨b,o,none⟩) hl).trans h.c0,(hb.cell (p:=⟨b,o+1,none⟩) hl).trans h.c1,(hb.cell (p:=⟨b,o+2,none⟩) hl).trans h.c2,(hb.cell (p:=⟨b,o+3,none⟩) hl).trans h.c3,(hb.cell (p:=⟨b,o+4,none⟩) hl).trans h.c4,(hb.cell (p:=⟨b,o+5,none⟩) hl).trans h.c5,(hb.cell (p:=⟨b,o+6,none⟩) hl).trans h.c6⟩
theorem To.bw{w:World}{L:List KV}(h:To w a b n L)(hb:Bl w w'):To w' a b n L:=
 ⟨h.len,h.addr,fun h0=>by have:=h.low h0;have:=hb.size;omega,fun i hi=>yde (h.cell i hi) (h.low (by omega)) hb⟩
theorem Uw{w:World}{B:Nat}{L:List KV}(h:Nu w B v L):∃a A c,v=.slice a L.length c/\To w a A L.length L:=by
 obtain⟨Gg,⟨rfl,h0⟩|⟨g,Ga,Gb,rfl,hg,hh,Gd,Gc,Gf,Ge⟩⟩:=h
 ·rw[h0];exact⟨none,0,0,rfl,⟨h0,fun h=>by omega,fun h=>by omega,fun i hi=>by omega⟩⟩
 ·refine⟨some ⟨g,0,none⟩,g,Ga,rfl,⟨rfl,fun _=>rfl,fun _=>(Array.getElem?_eq_some_iff.1 hh).1,fun i hi=>?_⟩⟩;have hr:Fc w g 47 Gb:=hh;have e:∀j,j<7->w.cell? ⟨g,i*7+j,none⟩=(kvC (L.getD i kv0))[j]?:=fun j hj=>by
   rw[hr.cell,<-zuj L i j hi hj,<-Ge,List.getElem?_take,if_pos (by omega),Array.getElem?_toList]
  exact⟨e 0 (by omega),e 1 (by omega),e 2 (by omega),e 3 (by omega),e 4 (by omega),e 5 (by omega),e 6 (by omega)⟩
structure Rising (w:World) (B:Nat) (L:List KV) (N:Nat) (β:Nat->Nat):Prop where
 low:∀i,i<=L.length->B<=β i
 mono:∀i j,i<=j->j<=L.length->β i<=β j
 top:β L.length<=N
 own:∀i,i<L.length->VOwn w (β i) (L.getD i kv0).key.val (L.getD i kv0).vi (L.getD i kv0).vp (L.getD i kv0).vr
 lt1:∀i,i<L.length->∀g,(L.getD i kv0).vi.ownBlock=some g->g<β (i+1)
 lt2:∀i,i<L.length->∀g,(L.getD i kv0).vp.ownBlock=some g->g<β (i+1)
 lt3:∀i,i<L.length->∀g,(L.getD i kv0).vr.ownBlock=some g->g<β (i+1)
theorem zn1(w:World)(B N:Nat)(h:B<=N):Rising w B [] N (fun _=>B):=
 ⟨fun _ _=>Qc _,fun _ _ _ _=>Qc _,h,fun i hi=>by simp at hi,fun i hi=>by simp at hi,fun i hi=>by simp at hi,fun i hi=>by simp at hi⟩
theorem M3{w:World}{B:Nat}(h:w.ownsRow B e size v n xs)(hg:v.ownBlock=some g):∃C,Fc w g e C:=by
 obtain⟨_,⟨rfl,_⟩|⟨g',Gb,Ga,rfl,_,hh,_⟩⟩:=h
 ·cases hg
 ·have e:g'=g:=by simpa[Value.ownBlock]using hg
  subst e;exact⟨Ga,hh⟩
theorem ygx{w:World}{B B':Nat}{v:Vl}{vi vp vr:Value}(h:VOwn w B v vi vp vr)(hB:B'<=B):VOwn w B' v vi vp vr:=
 ⟨Go.Joins.ownsRow_le h.ia hB,Go.Joins.ownsRow_le h.pj hB,Go.Joins.ownsRow_le h.rq hB⟩
theorem Wf{w:World}{B:Nat}{v:Vl}{vi vp vr:Value}(h:VOwn w B v vi vp vr)(hk:∀g e C,e≠47->Fc w g e C->w'.heap[g]?=w.heap[g]?):VOwn w' B v vi vp vr:=by
 refine⟨Lt h.ia fun g hg=>?_,Lt h.pj fun g hg=>?_,Lt h.rq fun g hg=>?_⟩
 ·obtain⟨C,hC⟩:=M3 h.ia hg;exact hk g 9 C (by decide) hC
 ·obtain⟨C,hC⟩:=M3 h.pj hg;exact hk g 145 C (by decide) hC
 ·obtain⟨C,hC⟩:=M3 h.rq hg;exact hk g 147 C (by decide) hC
theorem Rising.kept{w:World}{B:Nat}{L:List KV}(h:Rising w B L N β)(hk:∀g e C,e≠47->Fc w g e C->w'.heap[g]?=w.heap[g]?):Rising w' B L N β:=
 ⟨h.low,h.mono,h.top,fun i hi=>Wf (h.own i hi) hk,h.lt1,h.lt2,h.lt3⟩
theorem Rising.bw{w:World}{B:Nat}{L:List KV}(h:Rising w B L N β)(hb:Bl w w'):Rising w' B L N β:=
 h.kept fun g _ _ _ hg=>hb.block g hg.lt
theorem Rising.up{w:World}{B:Nat}{L:List KV}(h:Rising w B L N β)(hN:N<=N'):Rising w B L N' β:=
 ⟨h.low,h.mono,Qj h.top hN,h.own,h.lt1,h.lt2,h.lt3⟩
theorem zpo{w:World}{B:Nat}{L:List KV}(ho:Nu w B V L)(hg:w.grownBy w' V.ownBlock):∀g e C,e≠47->Fc w g e C->w'.heap[g]?=w.heap[g]?:=fun g e C he hC=>by
 refine hg.block g hC.lt fun ee=>?_;obtain⟨D,hD⟩:=M3 ho ee.symm;exact he (Hp.N9 hC hD)
theorem Rising.snoc{w:World}{B:Nat}{L:List KV}{y:KV}(h:Rising w B L N β)(hy:VOwn w N y.key.val y.vi y.vp y.vr)(hN:N<=N')(hu:∀g,y.vi.ownBlock=some g\/y.vp.ownBlock=some g\/y.vr.ownBlock=some g->g<N'):
  Rising w B (L++ [y]) N' (fun i=>if i<=L.length then β i else N'):=by
 have hl:(L++ [y]).length=L.length+1:=by simp
 have ht:=h.top;have g1:∀i,i<L.length->(L++ [y]).getD i kv0=L.getD i kv0:=fun i hi=>by rw[Qa,Qa,List.getElem?_append_left hi]
 have g2:(L++ [y]).getD L.length kv0=y:=by simp
 refine⟨fun i hi=>?_,fun i j hij hj=>?_,?_,fun i hi=>?_,fun i hi g hg=>?_,fun i hi g hg=>?_,fun i hi g hg=>?_⟩
 ·split
  ·exact h.low i ‹_›
  ·have:=h.low L.length (Qc _);omega
 ·rw[hl]at hj;split<;>split
  ·exact h.mono i j hij ‹_›
  ·have:=h.mono i L.length ‹_› (Qc _);omega
  ·omega
  ·exact Qc _
 ·rw[hl];rw[if_neg (by omega)];exact Qc _
 ·rw[hl]at hi;by_cases e:i=L.length
  ·subst e;rw[g2,if_pos (Qc _)];exact ygx hy ht
  ·rw[g1 i (by omega),if_pos (by omega)];exact h.own i (by omega)
 ·rw[hl]at hi;by_cases e:i=L.length
  ·subst e;rw[g2]at hg;rw[if_neg (by omega)];exact hu g (.inl hg)
  ·rw[g1 i (by omega)]at hg;rw[if_pos (by omega)];exact h.lt1 i (by omega) g hg
 ·rw[hl]at hi;by_cases e:i=L.length
  ·subst e;rw[g2]at hg;rw[if_neg (by omega)];exact hu g (.inr (.inl hg))
  ·rw[g1 i (by omega)]at hg;rw[if_pos (by omega)];exact h.lt2 i (by omega) g hg
 ·rw[hl]at hi;by_cases e:i=L.length
  ·subst e;rw[g2]at hg;rw[if_neg (by omega)];exact hu g (.inr (.inr hg))
  ·rw[g1 i (by omega)]at hg;rw[if_pos (by omega)];exact h.lt3 i (by omega) g hg
structure Fv (w:World) (B:Nat) (v:Value) (L:List KV):Prop where
 row:Nu w B v L
 vals:∃β,Rising w B L w.heap.size β
theorem zrg(w:World)(B:Nat)(h:B<=w.heap.size):Fv w B (.slice none 0 0) []:=⟨Au _ _,_,zn1 _ _ _ h⟩
theorem Fv.bw{w:World}{B:Nat}{L:List KV}(h:Fv w B v L)(hb:Bl w w'):Fv w' B v L:=by
 obtain⟨β,hr⟩:=h.vals;exact⟨Fw h.row hb,β,(hr.bw hb).up hb.size⟩
structure Oc (w:World) (a:Option Addr) (b n:Nat) (L:List KV):Prop where
 ks:To w a b n L
 val:∀i,i<n->∃B,VOwn w B (L.getD i kv0).key.val (L.getD i kv0).vi (L.getD i kv0).vp (L.getD i kv0).vr
theorem Oc.bw{w:World}{L:List KV}(h:Oc w a b n L)(hb:Bl w w'):Oc w' a b n L:=
 ⟨h.ks.bw hb,fun i hi=>by obtain⟨B,hB⟩:=h.val i hi;exact⟨B,hB.bw hb⟩⟩
theorem Fv.at{w:World}{B:Nat}{L:List KV}(h:Fv w B v L):∃a A c,v=.slice a L.length c/\Oc w a A L.length L:=by
 obtain⟨a,A,c,e,hk⟩:=Uw h.row;obtain⟨β,hr⟩:=h.vals;exact⟨a,A,c,e,hk,fun i hi=>⟨_,hr.own i hi⟩⟩
structure KSm (v:Vl):Prop where
 fit:Ek v
 np:v.pj.length<=1048576
 nums:Kk.Md v.rq
theorem zpz{v:Vl}(h:Ls v=true):KSm v:=by
 have s:=Bo h;have h1:=s.text;have h2:=s.ni;have h3:=s.np;have h4:=s.nr;exact⟨⟨by omega,by omega,by omega,by omega⟩,by omega,fun x hx=>by obtain⟨_,u1,u2⟩:=s.rq x hx;exact⟨by omega,by omega⟩⟩
structure VRd (w:World) (v:Vl) (vi vp vr:Value):Prop where
 ia:∃a A o c,vi= .slice a v.ia.length c/\Fs w a A o v.ia.length v.ia/\(a=none->c=0)
 pj:∃a A c,vp= .slice a v.pj.length c/\Li w a A v.pj.length v.pj/\(a=none->c=0)
 rq:∃a A o c,vr= .slice a v.rq.length c/\F7 w a A o v.rq.length v.rq/\(a=none->c=0)
theorem ycp{w:World}{B:Nat}{off:Nat}{ss:List ByteArray}(h:Fs w a b off n ss)(hb:Below B w w')(hl:w.heap.size<=B):Fs w' a b off n ss:=
 ⟨h.len,h.addr,fun h0=>by have:=h.low h0;have:=hb.size;omega,fun i hi=>(hb.cell (p:=⟨b,off+i,none⟩) (by have:=h.low (by omega);show b<B;omega)).trans (h.cell i hi),h.fit⟩
theorem ybu{w:World}{B:Nat}{ps:List Pr}(h:Li w a b n ps)(hb:Below B w w')(hl:w.heap.size<=B):Li w' a b n ps:=
 h.bw (hb.mono hl)
theorem yat{w:World}{B:Nat}{rs:List Rk}(h:F7 w a b o n rs)(hb:Below B w w')(hl:w.heap.size<=B):F7 w' a b o n rs:=
 h.bw (hb.mono hl)
theorem Ui{w:World}{B e:Nat}(h:Fc w X e #[])(hB:B<=X):w.ownsRow B e size (.slice (some ⟨X,0,none⟩) 0 0) 0 []:=
 ⟨by simp,.inr ⟨X,0, #[],rfl,hB,h,Qc _,by unfold maxLen;omega,by simp,by simp⟩⟩
theorem yeg{w:World}{B:Nat}{T:List ByteArray}(hr:Fc w X 9 #[])(hX:B<=X)(hs:Fs w a A o n T)(hc:a=none->c=0)(hn:n<=1048577)(hB:B<=w.heap.size):
  ∃a' c' w',(Builtin.append_ #[25,25] 25 #[.slice (some ⟨X,0,none⟩) 0 0,.slice a n c]).run prog w=.ok (.slice a' n c') w'/\Fz w' B (.slice a' n c') T/\w.grownBy w' (some X):=by
 obtain⟨i0,hi,Gd,Gf,Gc⟩:=info_parts Tg;have hE:=Ui (size:=1) hr hX;have hl:=hs.len;cases a with
 |none=>
  obtain rfl:n=0:=by
   rcases Nat.eq_zero_or_pos n with h|h
   ·exact h
   ·have:=hs.addr h;cases this
  obtain rfl:=hc rfl;obtain rfl:T=[]:=List.eq_nil_of_length_eq_zero hl;exact⟨some ⟨X,0,none⟩,0,w,run_append_owned_none (P:=prog) w B 25 25 9 i0 1 underlying25 hi _ 0 [] hE,hE,Nl _ _⟩
 |some ad=>
  obtain⟨v',w',Gb,Ga,hg,_,_⟩:=run_append_own_at (P:=prog) w B 25 25 9 i0 _ 1 16 underlying25 hi Gd Gf Gc rfl (by decide) (.slice (some ⟨X,0,none⟩) 0 0) 0 [] hE ad n c (G1 T) (by simp[G1,hl]) (fun j u hj=>by
   have Ge:j<n:=by
    have:=(List.getElem?_eq_some_iff.1 hj).1;simp[G1]at this;omega
   obtain rfl:ad=⟨A,o,none⟩:=Option.some.inj (hs.addr (by omega));rw[Addr.add_lit];have hc:=hs.cell j Ge;rw[hc];simp[G1]at hj;obtain⟨t,ht,rfl⟩:=hj;rw[Qa,ht];rfl) (fun u hu=>by simp[G1]at hu;obtain⟨t,_,rfl⟩:=hu;rfl) (by unfold maxLen;omega) (by omega) hB
  rw[Qq]at Ga;obtain⟨a',c',e⟩:=Fx Ga;subst e;refine⟨a',c',w',Gb,?_,hg⟩;unfold Fz;rw[hl];exact Ga
theorem ya4{w:World}{B:Nat}{T:List Pr}(hr:Fc w X 145 #[])(hX:B<=X)(hs:Li w a A n T)(hc:a=none->c=0)(hn:n<=1048577)(hB:B<=w.heap.size):
  ∃a' c' w',(Builtin.append_ #[42,42] 42 #[.slice (some ⟨X,0,none⟩) 0 0,.slice a n c]).run prog w=.ok (.slice a' n c') w'/\G3 w' B (.slice a' n c') T/\w.grownBy w' (some X):=by
 obtain⟨i0,hi,Ge,Gf,Gc⟩:=info_parts Ub;have hE:=Ui (size:=2) hr hX;have hl:=hs.len;cases a with
 |none=>
  obtain rfl:n=0:=by
   rcases Nat.eq_zero_or_pos n with h|h
   ·exact h
   ·have:=hs.addr h;cases this
  obtain rfl:=hc rfl;obtain rfl:T=[]:=List.eq_nil_of_length_eq_zero hl;exact⟨some ⟨X,0,none⟩,0,w,run_append_owned_none (P:=prog) w B 42 42 145 i0 2 underlying42 hi _ 0 [] hE,hE,Nl _ _⟩
 |some ad=>
  obtain⟨v',w',Gb,Ga,hg,_,_⟩:=run_append_own_at (P:=prog) w B 42 42 145 i0 _ 2 32 underlying42 hi Ge Gf Gc rfl (by decide) (.slice (some ⟨X,0,none⟩) 0 0) 0 [] hE ad n c (Fn T) (by rw[L3,hl]) (fun j u hj=>by
   have Gg:j<T.length*2:=by
    have:=(List.getElem?_eq_some_iff.1 hj).1;rwa[L3]at this
   obtain rfl:ad=⟨A,0,none⟩:=Option.some.inj (hs.addr (by omega));rw[Addr.add_lit,Qq];have Gd:j/2<T.length:=by omega
   obtain⟨f0,f1⟩:=Cd T (j/2) Gd;rcases Nat.mod_two_eq_zero_or_one j with hm|hm
   ·rw[show j/2*2=j by omega]at f0;have:=hs.c0 (j/2) (by omega);rw[show j/2*2=j by omega]at this;rw[this,<-hj,f0]
   ·rw[show j/2*2+1=j by omega]at f1;have:=hs.c1 (j/2) (by omega);rw[show j/2*2+1=j by omega]at this;rw[this,<-hj,f1]) (fun u hu=>by
   unfold Fn Uy at hu;simp at hu;obtain⟨x,y,_,h|h⟩:=hu<;> (subst h;rfl)) (by unfold maxLen;omega) (by omega) hB
  rw[Qq]at Ga;obtain⟨a',c',e⟩:=Fx Ga;subst e;refine⟨a',c',w',Gb,?_,hg⟩;unfold G3;rw[hl];exact Ga
theorem At:∀(L:List Rk) (i:Nat),i<L.length->(G6 L)[i*2]?=some (.string (L.getD i rk0).m)/\(G6 L)[i*2+1]?=some (.int .i64 (L.getD i rk0).s)
 | [],i,h=>by simp at h
 |x::L,0,_=>⟨rfl,rfl⟩
 |x::L,i+1,h=>by
  have e:G6 (x::L)= .string x.m:: .int .i64 x.s::G6 L:=rfl;obtain⟨h0,h1⟩:=At L i (by simpa using h);rw[e,show(i+1)*2=i*2+1+1 by omega,show i*2+1+1+1=(i*2+1)+1+1 by omega];simp only[Ql];rw[h0,h1];exact⟨by simp,by simp⟩
theorem Cc:∀L:List Rk,(G6 L).length=L.length*2
 |[]=>rfl
 |x::L=>by
  have e:G6 (x::L)=.string x.m::.int .i64 x.s::G6 L:=rfl;rw[e,Q1,Q1,Cc L,Q1];omega
theorem zzg{w:World}{B:Nat}{T:List Rk}(hr:Fc w X 147 #[])(hX:B<=X)(hs:F7 w a A o n T)(hc:a=none->c=0)(hn:n<=1048577)(hB:B<=w.heap.size):
  ∃a' c' w',(Builtin.append_ #[43,43] 43 #[.slice (some ⟨X,0,none⟩) 0 0,.slice a n c]).run prog w=.ok (.slice a' n c') w'/\Fo w' B (.slice a' n c') T/\w.grownBy w' (some X):=by
 obtain⟨i0,hi,Ge,Gf,Gc⟩:=info_parts Kk.U5;have hE:=Ui (size:=2) hr hX;have hl:=hs.len;cases a with
 |none=>
  obtain rfl:n=0:=by
   rcases Nat.eq_zero_or_pos n with h|h
   ·exact h
   ·have:=hs.addr h;cases this
  obtain rfl:=hc rfl;obtain rfl:T=[]:=List.eq_nil_of_length_eq_zero hl;exact⟨some ⟨X,0,none⟩,0,w,run_append_owned_none (P:=prog) w B 43 43 147 i0 2 underlying43 hi _ 0 [] hE,hE,Nl _ _⟩
 |some ad=>
  obtain⟨v',w',Gb,Ga,hg,_,_⟩:=run_append_own_at (P:=prog) w B 43 43 147 i0 _ 2 24 underlying43 hi Ge Gf Gc rfl (by decide) (.slice (some ⟨X,0,none⟩) 0 0) 0 [] hE ad n c (G6 T) (by rw[Cc,hl]) (fun j u hj=>by
   have Gg:j<T.length*2:=by
    have:=(List.getElem?_eq_some_iff.1 hj).1;rwa[Cc]at this
   obtain rfl:ad=⟨A,o,none⟩:=Option.some.inj (hs.addr (by omega));rw[Addr.add_lit];have Gd:j/2<T.length:=by omega
   obtain⟨f0,f1⟩:=At T (j/2) Gd;have hx:=hs.cell (j/2) (by omega);rcases Nat.mod_two_eq_zero_or_one j with hm|hm
   ·rw[show j/2*2=j by omega]at f0;have:=hx.c0;rw[show j/2*2=j by omega]at this;rw[this,<-hj,f0]
   ·rw[show j/2*2+1=j by omega]at f1;have:=hx.c1;rw[show o+j/2*2+1=o+j by omega]at this;rw[this,<-hj,f1]) (fun u hu=>by
   unfold G6 encR at hu;simp at hu;obtain⟨x,_,h|h⟩:=hu<;> (subst h;rfl)) (by unfold maxLen;omega) (by omega) hB
  rw[Qq]at Ga;obtain⟨a',c',e⟩:=Fx Ga;subst e;refine⟨a',c',w',Gb,?_,hg⟩;unfold Fo;rw[hl];exact Ga
structure Lu (w0:World) (B:Nat) (k:Int) (t:ByteArray) (vi vp vr:Value) (T:List ByteArray) (ps:List Pr) (rs:List Rk) (n1 n2 n3:Nat) (l:Array Bool) (X4 X8 X12:Nat) (p1:Option Addr) (d1:Nat) (p2:Option Addr) (d2:Nat) (p3:Option Addr) (d3:Nat) (w:World):Prop where
 bel:Below B w0 w
 size:B+2<=w.heap.size
 box:Fc w B 45 (vC k t vi vp vr)
 res:l.getD 17 false=false->Fc w (B+1) 45 z5
 fin:l.getD 17 false=true->Fc w (B+1) 45 (vC k t (.slice p1 n1 d1) (.slice p2 n2 d2) (.slice p3 n3 d3))
 b4:l.getD 4 false=true->l.getD 7 false=false->Fc w X4 9 #[]/\B+2<=X4
 a7:l.getD 7 false=true->Fz w (B+2) (.slice p1 n1 d1) T
 b8:l.getD 8 false=true->l.getD 11 false=false->Fc w X8 145 #[]/\B+2<=X8
 a11:l.getD 11 false=true->G3 w (B+2) (.slice p2 n2 d2) ps
 b12:l.getD 12 false=true->l.getD 15 false=false->Fc w X12 147 #[]/\B+2<=X12
 a15:l.getD 15 false=true->Fo w (B+2) (.slice p3 n3 d3) rs
 lu:Tl 17 l
 o16:l.getD 16 false=true->l.getD 7 false=true/\l.getD 11 false=true/\l.getD 15 false=true
theorem P8{w:World}{p:Nat}{T:TypeId}{C:Array Value}(h:Fc w p T C)(hX:Fc w X e D)(hT:T≠e)(hg:w.grownBy w' (some X)):Fc w' p T C:=
 (hg.block p h.lt fun ee=>by injection ee with ee;subst ee;exact hT (Hp.N9 h hX)).trans h
theorem Tc{w:World}{B:Nat}{e':TypeId}(h:w.ownsRow B e size v n xs)(hX:Fc w X e' D)(hT:e≠e')(hg:w.grownBy w' (some X)):w'.ownsRow B e size v n xs:=
 Lt h fun k hk=>hg.block k (Hf h hk).2 fun ee=>by
  injection ee with ee;subst ee;obtain⟨C,hC⟩:=M3 h hk;exact hT (Hp.N9 hC hX)
section
variable {w0 : World} {B : Nat} {k : Int} {t : ByteArray} {vi vp vr : Value} {T : List ByteArray} {ps : List Pr} {rs : List Rk} {n1 n2 n3 : Nat} {l : Array Bool} {X4 X8 X12 : Nat} {p1 : Option Addr} {d1 : Nat} {p2 : Option Addr} {d2 : Nat} {p3 : Option Addr} {d3 : Nat} {w : World}
theorem Lu.plain(h:Lu w0 B k t vi vp vr T ps rs n1 n2 n3 l X4 X8 X12 p1 d1 p2 d2 p3 d3 w)(i:Nat)(hio:l.getD i false=false)(h4:i≠4)(h7:i≠7)(h8:i≠8)(h11:i≠11)(h12:i≠12)(h15:i≠15)(h17:i≠17)(hlt:i<17)(h16:i=16->l.getD 7 false=true/\l.getD 11 false=true/\l.getD 15 false=true):Lu w0 B k t vi vp vr T ps rs n1 n2 n3 (l.setIfInBounds i true) X4 X8 X12 p1 d1 p2 d2 p3 d3 w:=by
 refine⟨h.bel,h.size,h.box,?_,?_,?_,?_,?_,?_,?_,?_,h.lu.next hlt hio,?_⟩;all_goals simp only[getD_set_ne h4,getD_set_ne h7,getD_set_ne h8,getD_set_ne h11,getD_set_ne h12,getD_set_ne h15,getD_set_ne h17]
 ·exact h.res
 ·exact h.fin
 ·exact h.b4
 ·exact h.a7
 ·exact h.b8
 ·exact h.a11
 ·exact h.b12
 ·exact h.a15
 ·intro hx;by_cases e:i=16
  ·exact h16 e
  ·rw[getD_set_ne e]at hx;exact h.o16 hx
theorem Lu.off16(h:Lu w0 B k t vi vp vr T ps rs n1 n2 n3 l X4 X8 X12 p1 d1 p2 d2 p3 d3 w)(ho:l.getD 7 false=false\/l.getD 11 false=false\/l.getD 15 false=false):l.getD 16 false=false:=by
 cases hx:l.getD 16 false with
 |false=>rfl
 |true=>
  obtain⟨h1,h2,h3⟩:=h.o16 hx;rcases ho with ho|ho|ho
  ·rw[h1]at ho;cases ho
  ·rw[h2]at ho;cases ho
  ·rw[h3]at ho;cases ho
theorem Lu.more(h:Lu w0 B k t vi vp vr T ps rs n1 n2 n3 l X4 X8 X12 p1 d1 p2 d2 p3 d3 w)(hb:Bl w w'):Lu w0 B k t vi vp vr T ps rs n1 n2 n3 l X4 X8 X12 p1 d1 p2 d2 p3 d3 w':=
 ⟨h.bel.trans (hb.mono (by have:=h.size;omega)),Qj h.size hb.size,h.box.bw hb h.box.lt,fun x=>(h.res x).bw hb (h.res x).lt,fun x=>(h.fin x).bw hb (h.fin x).lt,fun x y=>⟨(h.b4 x y).1.bw hb (h.b4 x y).1.lt,(h.b4 x y).2⟩,fun x=>Fw (h.a7 x) hb,fun x y=>⟨(h.b8 x y).1.bw hb (h.b8 x y).1.lt,(h.b8 x y).2⟩,fun x=>Fw (h.a11 x) hb,fun x y=>⟨(h.b12 x y).1.bw hb (h.b12 x y).1.lt,(h.b12 x y).2⟩,fun x=>Fw (h.a15 x) hb,h.lu,h.o16⟩
theorem Lu.built4(h0:Lu w0 B k t vi vp vr T ps rs n1 n2 n3 l X4 X8 X12 p1 d1 p2 d2 p3 d3 w)(hio:l.getD 4 false=false):Lu w0 B k t vi vp vr T ps rs n1 n2 n3 (l.setIfInBounds 4 true) w.heap.size X8 X12 p1 d1 p2 d2 p3 d3 (w.alloc (.cells #[] 9)):=by
 have h:=h0.more ((Qb _ w).alloc (Qc _) (.cells #[] 9));refine⟨h.bel,h.size,h.box,?_,?_,?_,?_,?_,?_,?_,?_,h.lu.next (by decide) hio,?_⟩;all_goals simp only[getD_set_ne (show 4≠17 by decide),getD_set_ne (show 4≠7 by decide),getD_set_ne (show 4≠8 by decide),getD_set_ne (show 4≠11 by decide),getD_set_ne (show 4≠12 by decide),getD_set_ne (show 4≠15 by decide),getD_set_ne (show 4≠16 by decide)]
 ·exact h.res
 ·exact h.fin
 ·exact fun _ _=>⟨Fc.new w 9 #[],h0.size⟩
 ·exact h.a7
 ·exact h.b8
 ·exact h.a11
 ·exact h.b12
 ·exact h.a15
 ·exact h.o16
theorem Lu.built8(h0:Lu w0 B k t vi vp vr T ps rs n1 n2 n3 l X4 X8 X12 p1 d1 p2 d2 p3 d3 w)(hio:l.getD 8 false=false):Lu w0 B k t vi vp vr T ps rs n1 n2 n3 (l.setIfInBounds 8 true) X4 w.heap.size X12 p1 d1 p2 d2 p3 d3 (w.alloc (.cells #[] 145)):=by
 have h:=h0.more ((Qb _ w).alloc (Qc _) (.cells #[] 145));refine⟨h.bel,h.size,h.box,?_,?_,?_,?_,?_,?_,?_,?_,h.lu.next (by decide) hio,?_⟩;all_goals simp only[getD_set_ne (show 8≠17 by decide),getD_set_ne (show 8≠4 by decide),getD_set_ne (show 8≠7 by decide),getD_set_ne (show 8≠11 by decide),getD_set_ne (show 8≠12 by decide),getD_set_ne (show 8≠15 by decide),getD_set_ne (show 8≠16 by decide)]
 ·exact h.res
 ·exact h.fin
 ·exact h.b4
 ·exact h.a7
 ·exact fun _ _=>⟨Fc.new w 145 #[],h0.size⟩
 ·exact h.a11
 ·exact h.b12
 ·exact h.a15
 ·exact h.o16
theorem Lu.built12(h0:Lu w0 B k t vi vp vr T ps rs n1 n2 n3 l X4 X8 X12 p1 d1 p2 d2 p3 d3 w)(hio:l.getD 12 false=false):Lu w0 B k t vi vp vr T ps rs n1 n2 n3 (l.setIfInBounds 12 true) X4 X8 w.heap.size p1 d1 p2 d2 p3 d3 (w.alloc (.cells #[] 147)):=by
 have h:=h0.more ((Qb _ w).alloc (Qc _) (.cells #[] 147));refine⟨h.bel,h.size,h.box,?_,?_,?_,?_,?_,?_,?_,?_,h.lu.next (by decide) hio,?_⟩;all_goals simp only[getD_set_ne (show 12≠17 by decide),getD_set_ne (show 12≠4 by decide),getD_set_ne (show 12≠7 by decide),getD_set_ne (show 12≠8 by decide),getD_set_ne (show 12≠11 by decide),getD_set_ne (show 12≠15 by decide),getD_set_ne (show 12≠16 by decide)]
 ·exact h.res
 ·exact h.fin
 ·exact h.b4
 ·exact h.a7
 ·exact h.b8
 ·exact h.a11
 ·exact fun _ _=>⟨Fc.new w 147 #[],h0.size⟩
 ·exact h.a15
 ·exact h.o16
theorem Lu.app7(h:Lu w0 B k t vi vp vr T ps rs n1 n2 n3 l X4 X8 X12 p1 d1 p2 d2 p3 d3 w)(hio:l.getD 7 false=false)(hsz:7<l.size)(hX:Fc w X4 9 #[]/\B+2<=X4)(hown:Fz w5 (B+2) (.slice p' n1 d') T)(hgr:w.grownBy w5 (some X4)):Lu w0 B k t vi vp vr T ps rs n1 n2 n3 (l.setIfInBounds 7 true) X4 X8 X12 p' d' p2 d2 p3 d3 w5:=by
 have Ga:=h.lu.off (show 7<17 by decide) hio;refine⟨h.bel.grown hgr (by have:=h.size;omega) (fun k hk=>by injection hk with hk;have:=hX.2;omega),Qj h.size hgr.size,P8 h.box hX.1 (by decide) hgr,?_,?_,?_,?_,?_,?_,?_,?_,h.lu.next (by decide) hio,?_⟩
 ·intro _;exact P8 (h.res Ga) hX.1 (by decide) hgr
 ·intro hx;rw[getD_set_ne (show 7≠17 by decide),Ga]at hx;cases hx
 ·intro _ hx;rw[Ua hsz]at hx;cases hx
 ·intro _;exact hown
 ·intro x y;rw[getD_set_ne (show 7≠8 by decide)]at x;rw[getD_set_ne (show 7≠11 by decide)]at y;exact⟨P8 (h.b8 x y).1 hX.1 (by decide) hgr,(h.b8 x y).2⟩
 ·intro x;rw[getD_set_ne (show 7≠11 by decide)]at x;exact Tc (h.a11 x) hX.1 (by decide) hgr
 ·intro x y;rw[getD_set_ne (show 7≠12 by decide)]at x;rw[getD_set_ne (show 7≠15 by decide)]at y;exact⟨P8 (h.b12 x y).1 hX.1 (by decide) hgr,(h.b12 x y).2⟩
 ·intro x;rw[getD_set_ne (show 7≠15 by decide)]at x;exact Tc (h.a15 x) hX.1 (by decide) hgr
 ·intro x;rw[getD_set_ne (show 7≠16 by decide),h.off16 (.inl hio)]at x;cases x
theorem Lu.app11(h:Lu w0 B k t vi vp vr T ps rs n1 n2 n3 l X4 X8 X12 p1 d1 p2 d2 p3 d3 w)(hio:l.getD 11 false=false)(hsz:11<l.size)(hX:Fc w X8 145 #[]/\B+2<=X8)(hown:G3 w5 (B+2) (.slice p' n2 d') ps)(hgr:w.grownBy w5 (some X8)):Lu w0 B k t vi vp vr T ps rs n1 n2 n3 (l.setIfInBounds 11 true) X4 X8 X12 p1 d1 p' d' p3 d3 w5:=by
 have Ga:=h.lu.off (show 11<17 by decide) hio;refine⟨h.bel.grown hgr (by have:=h.size;omega) (fun k hk=>by injection hk with hk;have:=hX.2;omega),Qj h.size hgr.size,P8 h.box hX.1 (by decide) hgr,?_,?_,?_,?_,?_,?_,?_,?_,h.lu.next (by decide) hio,?_⟩
 ·intro _;exact P8 (h.res Ga) hX.1 (by decide) hgr
 ·intro hx;rw[getD_set_ne (show 11≠17 by decide),Ga]at hx;cases hx
 ·intro x y;rw[getD_set_ne (show 11≠4 by decide)]at x;rw[getD_set_ne (show 11≠7 by decide)]at y;exact⟨P8 (h.b4 x y).1 hX.1 (by decide) hgr,(h.b4 x y).2⟩
 ·intro x;rw[getD_set_ne (show 11≠7 by decide)]at x;exact Tc (h.a7 x) hX.1 (by decide) hgr
 ·intro _ hx;rw[Ua hsz]at hx;cases hx
 ·intro _;exact hown
 ·intro x y;rw[getD_set_ne (show 11≠12 by decide)]at x;rw[getD_set_ne (show 11≠15 by decide)]at y;exact⟨P8 (h.b12 x y).1 hX.1 (by decide) hgr,(h.b12 x y).2⟩
 ·intro x;rw[getD_set_ne (show 11≠15 by decide)]at x;exact Tc (h.a15 x) hX.1 (by decide) hgr
 ·intro x;rw[getD_set_ne (show 11≠16 by decide),h.off16 (.inr (.inl hio))]at x;cases x
theorem Lu.app15(h:Lu w0 B k t vi vp vr T ps rs n1 n2 n3 l X4 X8 X12 p1 d1 p2 d2 p3 d3 w)(hio:l.getD 15 false=false)(hsz:15<l.size)(hX:Fc w X12 147 #[]/\B+2<=X12)(hown:Fo w5 (B+2) (.slice p' n3 d') rs)(hgr:w.grownBy w5 (some X12)):Lu w0 B k t vi vp vr T ps rs n1 n2 n3 (l.setIfInBounds 15 true) X4 X8 X12 p1 d1 p2 d2 p' d' w5:=by
 have Ga:=h.lu.off (show 15<17 by decide) hio;refine⟨h.bel.grown hgr (by have:=h.size;omega) (fun k hk=>by injection hk with hk;have:=hX.2;omega),Qj h.size hgr.size,P8 h.box hX.1 (by decide) hgr,?_,?_,?_,?_,?_,?_,?_,?_,h.lu.next (by decide) hio,?_⟩
 ·intro _;exact P8 (h.res Ga) hX.1 (by decide) hgr
 ·intro hx;rw[getD_set_ne (show 15≠17 by decide),Ga]at hx;cases hx
 ·intro x y;rw[getD_set_ne (show 15≠4 by decide)]at x;rw[getD_set_ne (show 15≠7 by decide)]at y;exact⟨P8 (h.b4 x y).1 hX.1 (by decide) hgr,(h.b4 x y).2⟩
 ·intro x;rw[getD_set_ne (show 15≠7 by decide)]at x;exact Tc (h.a7 x) hX.1 (by decide) hgr
 ·intro x y;rw[getD_set_ne (show 15≠8 by decide)]at x;rw[getD_set_ne (show 15≠11 by decide)]at y;exact⟨P8 (h.b8 x y).1 hX.1 (by decide) hgr,(h.b8 x y).2⟩
 ·intro x;rw[getD_set_ne (show 15≠11 by decide)]at x;exact Tc (h.a11 x) hX.1 (by decide) hgr
 ·intro _ hx;rw[Ua hsz]at hx;cases hx
 ·intro _;exact hown
 ·intro x;rw[getD_set_ne (show 15≠16 by decide),h.off16 (.inr (.inr hio))]at x;cases x
theorem Lu.stored(h:Lu w0 B k t vi vp vr T ps rs n1 n2 n3 l X4 X8 X12 p1 d1 p2 d2 p3 d3 w)(hio:l.getD 17 false=false)(hsz:17<l.size)(dall:∀j,j<17->l.getD j false=true):
  Lu w0 B k t vi vp vr T ps rs n1 n2 n3 (l.setIfInBounds 17 true) X4 X8 X12 p1 d1 p2 d2 p3 d3 (T4 w (.int .i64 k) (.string t) (.slice p1 n1 d1) (.slice p2 n2 d2) (.slice p3 n3 d3) (B+1)):=by
 have hr:=h.res hio;have hw:∀p T C,Fc w p T C->p≠B+1->Fc (T4 w (.int .i64 k) (.string t) (.slice p1 n1 d1) (.slice p2 n2 d2) (.slice p3 n3 d3) (B+1)) p T C:=fun p T C hp hne=>(S7 w _ _ _ _ _ (B+1) p hne).trans hp;have ho:∀{e size n v xs},w.ownsRow (B+2) e size v n xs->(T4 w (.int .i64 k) (.string t) (.slice p1 n1 d1) (.slice p2 n2 d2) (.slice p3 n3 d3) (B+1)).ownsRow (B+2) e size v n xs:=fun h=>Lt h fun g hg=>S7 w _ _ _ _ _ (B+1) g (by have:=(Hf h hg).1;omega);refine⟨Pw h.bel _ _ _ _ _ (B+1) (by omega),by simpa[T4]using h.size,hw _ _ _ h.box (by omega),?_,?_,?_,?_,?_,?_,?_,?_,Tl.last dall,?_⟩
 ·intro hx;rw[Ua hsz]at hx;cases hx
 ·intro _;have:=((((hr.set 0 (.int .i64 k)).set 1 (.string t)).set 2 (.slice p1 n1 d1)).set 3 (.slice p2 n2 d2)).set 4 (.slice p3 n3 d3);simpa using this
 all_goals simp only[getD_set_ne (show 17≠4 by decide),getD_set_ne (show 17≠7 by decide),getD_set_ne (show 17≠8 by decide),getD_set_ne (show 17≠11 by decide),getD_set_ne (show 17≠12 by decide),getD_set_ne (show 17≠15 by decide),getD_set_ne (show 17≠16 by decide)]
 ·exact fun x y=>⟨hw _ _ _ (h.b4 x y).1 (by have:=(h.b4 x y).2;omega),(h.b4 x y).2⟩
 ·exact fun x=>ho (h.a7 x)
 ·exact fun x y=>⟨hw _ _ _ (h.b8 x y).1 (by have:=(h.b8 x y).2;omega),(h.b8 x y).2⟩
 ·exact fun x=>ho (h.a11 x)
 ·exact fun x y=>⟨hw _ _ _ (h.b12 x y).1 (by have:=(h.b12 x y).2;omega),(h.b12 x y).2⟩
 ·exact fun x=>ho (h.a15 x)
 ·exact h.o16
end
def Ht (k:Int) (t:ByteArray) (a1:Option Addr) (c1:Nat) (a2:Option Addr) (c2:Nat) (a3:Option Addr) (c3:Nat) (n1 n2 n3 B:Nat) (l:Array Bool) (X4 X8 X12:Nat) (p1:Option Addr) (d1:Nat) (p2:Option Addr) (d2:Nat) (p3:Option Addr) (d3:Nat):Act:=
 { tmps:= #[vlV k t (.slice a1 n1 c1) (.slice a2 n2 c2) (.slice a3 n3 c3),.pointer (some ⟨B,0,none⟩),.pointer (some ⟨B+1,0,none⟩),sl l 0 (.pointer (some ⟨B,0,none⟩)),sl l 1 (.int .i64 k),sl l 2 (.pointer (some ⟨B,1,none⟩)),sl l 3 (.string t),sl l 4 (.slice (some ⟨X4,0,none⟩) 0 0),sl l 5 (.pointer (some ⟨B,2,none⟩)),sl l 6 (.slice a1 n1 c1),sl l 7 (.slice p1 n1 d1),sl l 8 (.slice (some ⟨X8,0,none⟩) 0 0),sl l 9 (.pointer (some ⟨B,3,none⟩)),sl l 10 (.slice a2 n2 c2),sl l 11 (.slice p2 n2 d2),sl l 12 (.slice (some ⟨X12,0,none⟩) 0 0),sl l 13 (.pointer (some ⟨B,4,none⟩)),sl l 14 (.slice a3 n3 c3),sl l 15 (.slice p3 n3 d3),sl l 16 (.agg (vC k t (.slice p1 n1 d1) (.slice p2 n2 d2) (.slice p3 n3 d3)))],defers:=[] }
theorem zmq(k:Int)(t:ByteArray)(a1 a2 a3:Option Addr)(n1 c1 n2 c2 n3 c3 A1 o1 A2 A3 o3:Nat)(T:List ByteArray)(ps:List Pr)(rs:List Rk)(w:World)(h1:Fs w a1 A1 o1 n1 T)(h2:Li w a2 A2 n2 ps)(h3:F7 w a3 A3 o3 n3 rs)(e1:a1=none->c1=0)(e2:a2=none->c2=0)(e3:a3=none->c3=0)(l1:n1<=1048577)(l2:n2<=1048577)(l3:n3<=1048577):
  Calls prog 144 #[vlV k t (.slice a1 n1 c1) (.slice a2 n2 c2) (.slice a3 n3 c3)] w fun e w'=>∃p1 d1 p2 d2 p3 d3,e=.returned (vlV k t (.slice p1 n1 d1) (.slice p2 n2 d2) (.slice p3 n3 d3))/\Fz w' w.heap.size (.slice p1 n1 d1) T/\G3 w' w.heap.size (.slice p2 n2 d2) ps/\Fo w' w.heap.size (.slice p3 n3 d3) rs/\Below w.heap.size w w':=by
 obtain⟨B,Gz⟩:∃B,w.heap.size=B:=⟨_,rfl⟩;have Gs:w.heap.size<=B:=by omega
 have Kh:Hid (Fs w a1 A1 o1 n1 T):=h1;have Kc:Hid (Li w a2 A2 n2 ps):=h2;have Kf:Hid (F7 w a3 A3 o3 n3 rs):=h3;have Ki:Hid (a1=none->c1=0):=e1;have Km:Hid (a2=none->c2=0):=e2;have Kl:Hid (a3=none->c3=0):=e3;clear h1 h2 h3 e1 e2 e3;have r1:=(Fc.new w 45 (vC k t (.slice a1 n1 c1) (.slice a2 n2 c2) (.slice a3 n3 c3))).bw ((Qb _ _).alloc (Qc _) (.cells z5 45)) (by simp);have r2:=Fc.new (w.alloc (.cells (vC k t (.slice a1 n1 c1) (.slice a2 n2 c2) (.slice a3 n3 c3)) 45)) 45 z5;have bw:Below w.heap.size w ((w.alloc (.cells (vC k t (.slice a1 n1 c1) (.slice a2 n2 c2) (.slice a3 n3 c3)) 45)).alloc (.cells z5 45)):=Go.Joins.below_alloc2 _ _ _;have sw:((w.alloc (.cells (vC k t (.slice a1 n1 c1) (.slice a2 n2 c2) (.slice a3 n3 c3)) 45)).alloc (.cells z5 45)).heap.size=w.heap.size+2:=by simp
 simp only[World.size_alloc]at r2;have Gn:Hid (∀p1 d1 p2 d2 p3 d3 W',Fz W' (B+2) (.slice p1 n1 d1) T->G3 W' (B+2) (.slice p2 n2 d2) ps->Fo W' (B+2) (.slice p3 n3 d3) rs->Below B w W'->∃q1 x1 q2 x2 q3 x3,Ending.returned (vlV k t (.slice p1 n1 d1) (.slice p2 n2 d2) (.slice p3 n3 d3))=.returned (vlV k t (.slice q1 n1 x1) (.slice q2 n2 x2) (.slice q3 n3 x3))/\Fz W' w.heap.size (.slice q1 n1 x1) T/\G3 W' w.heap.size (.slice q2 n2 x2) ps/\Fo W' w.heap.size (.slice q3 n3 x3) rs/\Below w.heap.size w W'):=fun p1 d1 p2 d2 p3 d3 W' u1 u2 u3 u4=>⟨p1,d1,p2,d2,p3,d3,rfl,Go.Joins.ownsRow_le u1 (by omega),Go.Joins.ownsRow_le u2 (by omega),Go.Joins.ownsRow_le u3 (by omega),u4.mono Gs⟩;have Kj:w.heap.size=B:=Gz;go_enter func144,ntmps144;go_wp2_with fail;rw[Kj]at r1 r2 bw sw;generalize(w.alloc (.cells (vC k t (.slice a1 n1 c1) (.slice a2 n2 c2) (.slice a3 n3 c3)) 45)).alloc (.cells z5 45)=w4 at*;refine zi2 (fun l a W'=>l.size=18/\∃X4 X8 Ge p1 d1 p2 d2 p3 d3,a=Ht k t a1 c1 a2 c2 a3 c3 n1 n2 n3 B l X4 X8 Ge p1 d1 p2 d2 p3 d3/\Lu w B k t (.slice a1 n1 c1) (.slice a2 n2 c2) (.slice a3 n3 c3) T ps rs n1 n2 n3 l X4 X8 Ge p1 d1 p2 d2 p3 d3 W') (by kernel_rfl) ?h0 ?hstep (by kernel_rfl) ?hdone
 case h0=>
  refine⟨rfl,0,0,0,none,0,none,0,none,0,rfl,⟨?_,?_,?_,fun _=>?_,?_,?_,?_,?_,?_,?_,?_,ydf,?_⟩⟩
  ·exact bw.trans ⟨rfl,rfl,rfl,Qc _,fun _ _=>rfl⟩
  ·show B+2<=w4.heap.size;omega
  ·exact r1
  ·exact r2
  all_goals (intro h;cases h)
 case hdone=>
  rintro l a W'⟨Gf,X4,X8,Ge,p1,d1,p2,d2,p3,d3,rfl,F⟩Gj;have Gb:∀j,j<18->l.getD j false=true:=fun j hj=>yi8 (Gj j hj) (by omega);have hf:=F.fin (Gb 17 (by omega));have hE:=Gn.out p1 d1 p2 d2 p3 d3 W' (F.a7 (Gb 7 (by omega))) (F.a11 (Gb 11 (by omega))) (F.a15 (Gb 15 (by omega))) F.bel;obtain⟨m0,m1,m2,m3,m4⟩:=Nh hf;simp only[Ht,F8 (Gb 0 (by omega)),F8 (Gb 1 (by omega)),F8 (Gb 2 (by omega)),F8 (Gb 3 (by omega)),F8 (Gb 4 (by omega)),F8 (Gb 5 (by omega)),F8 (Gb 6 (by omega)),F8 (Gb 7 (by omega)),F8 (Gb 8 (by omega)),F8 (Gb 9 (by omega)),F8 (Gb 10 (by omega)),F8 (Gb 11 (by omega)),F8 (Gb 12 (by omega)),F8 (Gb 13 (by omega)),F8 (Gb 14 (by omega)),F8 (Gb 15 (by omega)),F8 (Gb 16 (by omega))];clear F Gb Gj Gf hf;go_wp2_with fail;exact bodyPost_ret (v:=vlV k t (.slice p1 n1 d1) (.slice p2 n2 d2) (.slice p3 n3 d3)) (by simp[results,results144,go_sem,m0,m1,m2,m3,m4]) rfl hE
 case hstep=>
 clear Gn r1 r2 bw sw Gz;rintro l a W' i⟨Gf,X4,X8,Ge,p1,d1,p2,d2,p3,d3,rfl,F⟩hi;obtain⟨Gy,Gc,Ga⟩:=Bw hi;have Gd:=ye9 Gc;obtain⟨e0,e1,e2,e3,e4⟩:=Nh F.box;have Gv:i<18:=Gy;clear hi Gy;have Gp:i=0\/i=1\/i=2\/i=3\/i=4\/i=5\/i=6\/i=7\/i=8\/i=9\/i=10\/i=11\/i=12\/i=13\/i=14\/i=15\/i=16\/i=17:=by omega
 clear Gv;rcases Gp with rfl|rfl|rfl|rfl|rfl|rfl|rfl|rfl|rfl|rfl|rfl|rfl|rfl|rfl|rfl|rfl|rfl|rfl
 ·
  clear Ga Gc;refine wpOp_step rfl (fun K hK=>?_);simp only[Ht];go_simp;refine hK _ _ ⟨by simp[Gf],X4,X8,Ge,p1,d1,p2,d2,p3,d3,?_,F.plain 0 Gd (by decide) (by decide) (by decide) (by decide) (by decide) (by decide) (by decide) (by decide) (fun h=>by cases h)⟩;simp only[Ht,Of (show 0<l.size by omega)];simp only[Ff (show 0≠1 by decide),Ff (show 0≠2 by decide),Ff (show 0≠3 by decide),Ff (show 0≠4 by decide),Ff (show 0≠5 by decide),Ff (show 0≠6 by decide),Ff (show 0≠7 by decide),Ff (show 0≠8 by decide),Ff (show 0≠9 by decide),Ff (show 0≠10 by decide),Ff (show 0≠11 by decide),Ff (show 0≠12 by decide),Ff (show 0≠13 by decide),Ff (show 0≠14 by decide),Ff (show 0≠15 by decide),Ff (show 0≠16 by decide)]
 ·
  have y0:l.getD 0 false=true:=by have:=Ga;simp[Region.binds]at this;simp[this]
  clear Ga Gc;refine wpOp_step rfl (fun K hK=>?_);simp only[Ht,F8 y0];go_simp;refine hK _ _ ⟨by simp[Gf],X4,X8,Ge,p1,d1,p2,d2,p3,d3,?_,F.plain 1 Gd (by decide) (by decide) (by decide) (by decide) (by decide) (by decide) (by decide) (by decide) (fun h=>by cases h)⟩;simp only[Ht,Of (show 1<l.size by omega)];simp only[Ff (show 1≠0 by decide),Ff (show 1≠2 by decide),Ff (show 1≠3 by decide),Ff (show 1≠4 by decide),Ff (show 1≠5 by decide),Ff (show 1≠6 by decide),Ff (show 1≠7 by decide),Ff (show 1≠8 by decide),Ff (show 1≠9 by decide),Ff (show 1≠10 by decide),Ff (show 1≠11 by decide),Ff (show 1≠12 by decide),Ff (show 1≠13 by decide),Ff (show 1≠14 by decide),Ff (show 1≠15 by decide),Ff (show 1≠16 by decide),F8 y0]
 ·
  clear Ga Gc;refine wpOp_step rfl (fun K hK=>?_);simp only[Ht];go_simp;refine hK _ _ ⟨by simp[Gf],X4,X8,Ge,p1,d1,p2,d2,p3,d3,?_,F.plain 2 Gd (by decide) (by decide) (by decide) (by decide) (by decide) (by decide) (by decide) (by decide) (fun h=>by cases h)⟩;simp only[Ht,Of (show 2<l.size by omega)];simp only[Ff (show 2≠0 by decide),Ff (show 2≠1 by decide),Ff (show 2≠3 by decide),Ff (show 2≠4 by decide),Ff (show 2≠5 by decide),Ff (show 2≠6 by decide),Ff (show 2≠7 by decide),Ff (show 2≠8 by decide),Ff (show 2≠9 by decide),Ff (show 2≠10 by decide),Ff (show 2≠11 by decide),Ff (show 2≠12 by decide),Ff (show 2≠13 by decide),Ff (show 2≠14 by decide),Ff (show 2≠15 by decide),Ff (show 2≠16 by decide)]
 ·
  have y2:l.getD 2 false=true:=by have:=Ga;simp[Region.binds]at this;simp[this]
  clear Ga Gc;refine wpOp_step rfl (fun K hK=>?_);simp only[Ht,F8 y2];go_simp;refine hK _ _ ⟨by simp[Gf],X4,X8,Ge,p1,d1,p2,d2,p3,d3,?_,F.plain 3 Gd (by decide) (by decide) (by decide) (by decide) (by decide) (by decide) (by decide) (by decide) (fun h=>by cases h)⟩;simp only[Ht,Of (show 3<l.size by omega)];simp only[Ff (show 3≠0 by decide),Ff (show 3≠1 by decide),Ff (show 3≠2 by decide),Ff (show 3≠4 by decide),Ff (show 3≠5 by decide),Ff (show 3≠6 by decide),Ff (show 3≠7 by decide),Ff (show 3≠8 by decide),Ff (show 3≠9 by decide),Ff (show 3≠10 by decide),Ff (show 3≠11 by decide),Ff (show 3≠12 by decide),Ff (show 3≠13 by decide),Ff (show 3≠14 by decide),Ff (show 3≠15 by decide),Ff (show 3≠16 by decide),F8 y2]
 ·
  clear Ga Gc;refine wpOp_step rfl (fun K hK=>?_);simp only[Ht];go_simp;refine hK _ _ ⟨by simp[Gf],W'.heap.size,X8,Ge,p1,d1,p2,d2,p3,d3,?_,F.built4 Gd⟩;simp only[Ht,Of (show 4<l.size by omega)];simp only[Ff (show 4≠0 by decide),Ff (show 4≠1 by decide),Ff (show 4≠2 by decide),Ff (show 4≠3 by decide),Ff (show 4≠5 by decide),Ff (show 4≠6 by decide),Ff (show 4≠7 by decide),Ff (show 4≠8 by decide),Ff (show 4≠9 by decide),Ff (show 4≠10 by decide),Ff (show 4≠11 by decide),Ff (show 4≠12 by decide),Ff (show 4≠13 by decide),Ff (show 4≠14 by decide),Ff (show 4≠15 by decide),Ff (show 4≠16 by decide)]
 ·
  clear Ga Gc;refine wpOp_step rfl (fun K hK=>?_);simp only[Ht];go_simp;refine hK _ _ ⟨by simp[Gf],X4,X8,Ge,p1,d1,p2,d2,p3,d3,?_,F.plain 5 Gd (by decide) (by decide) (by decide) (by decide) (by decide) (by decide) (by decide) (by decide) (fun h=>by cases h)⟩;simp only[Ht,Of (show 5<l.size by omega)];simp only[Ff (show 5≠0 by decide),Ff (show 5≠1 by decide),Ff (show 5≠2 by decide),Ff (show 5≠3 by decide),Ff (show 5≠4 by decide),Ff (show 5≠6 by decide),Ff (show 5≠7 by decide),Ff (show 5≠8 by decide),Ff (show 5≠9 by decide),Ff (show 5≠10 by decide),Ff (show 5≠11 by decide),Ff (show 5≠12 by decide),Ff (show 5≠13 by decide),Ff (show 5≠14 by decide),Ff (show 5≠15 by decide),Ff (show 5≠16 by decide)]
 ·
  have y5:l.getD 5 false=true:=by have:=Ga;simp[Region.binds]at this;simp[this]
  clear Ga Gc;refine wpOp_step rfl (fun K hK=>?_);simp only[Ht,F8 y5];go_simp;refine hK _ _ ⟨by simp[Gf],X4,X8,Ge,p1,d1,p2,d2,p3,d3,?_,F.plain 6 Gd (by decide) (by decide) (by decide) (by decide) (by decide) (by decide) (by decide) (by decide) (fun h=>by cases h)⟩;simp only[Ht,Of (show 6<l.size by omega)];simp only[Ff (show 6≠0 by decide),Ff (show 6≠1 by decide),Ff (show 6≠2 by decide),Ff (show 6≠3 by decide),Ff (show 6≠4 by decide),Ff (show 6≠5 by decide),Ff (show 6≠7 by decide),Ff (show 6≠8 by decide),Ff (show 6≠9 by decide),Ff (show 6≠10 by decide),Ff (show 6≠11 by decide),Ff (show 6≠12 by decide),Ff (show 6≠13 by decide),Ff (show 6≠14 by decide),Ff (show 6≠15 by decide),Ff (show 6≠16 by decide),F8 y5]
 ·
  have y4:l.getD 4 false=true:=by have:=Ga;simp[Region.binds]at this;simp[this]
  have y6:l.getD 6 false=true:=by have:=Ga;simp[Region.binds]at this;simp[this]
  clear Ga Gc;have Gq:=F.off16 (.inl Gd);have hX:=F.b4 y4 Gd;obtain⟨p',d',w5,Gi,Gh,Gl⟩:=yeg (B:=B+2) hX.1 hX.2 (ycp Kh.out F.bel Gs) Ki.out (by omega) F.size;refine wpOp_step rfl (fun K hK=>?_);refine Ob (v:=.slice (some ⟨X4,0,none⟩) 0 0) (y:=.slice a1 n1 c1) rfl (.tmp 7) (.tmp 9) 25 rfl ?hs7 ?hx7 Gi ?hk7
  case hs7=>simp[Ht,Act.eval,F8 y4,F8 y6]
  case hx7=>simp[Ht,Act.eval,F8 y4,F8 y6]
  refine hK _ _ ⟨by simp[Gf],X4,X8,Ge,p',d',p2,d2,p3,d3,?_,F.app7 Gd (by omega) hX Gh Gl⟩;change Act.put _ (some 10) _=_;simp only[Ht,Act.put,List.setIfInBounds_toArray,List.set_cons_zero,List.set_cons_succ,F8 y4,F8 y6,Of (show 7<l.size by omega)];simp only[Ff (show 7≠0 by decide),Ff (show 7≠1 by decide),Ff (show 7≠2 by decide),Ff (show 7≠3 by decide),Ff (show 7≠4 by decide),Ff (show 7≠5 by decide),Ff (show 7≠6 by decide),Ff (show 7≠8 by decide),Ff (show 7≠9 by decide),Ff (show 7≠10 by decide),Ff (show 7≠11 by decide),Ff (show 7≠12 by decide),Ff (show 7≠13 by decide),Ff (show 7≠14 by decide),Ff (show 7≠15 by decide),Ff (show 7≠16 by decide),F8 y4,F8 y6,S5 Gq]
 ·
  clear Ga Gc;refine wpOp_step rfl (fun K hK=>?_);simp only[Ht];go_simp;refine hK _ _ ⟨by simp[Gf],X4,W'.heap.size,Ge,p1,d1,p2,d2,p3,d3,?_,F.built8 Gd⟩;simp only[Ht,Of (show 8<l.size by omega)];simp only[Ff (show 8≠0 by decide),Ff (show 8≠1 by decide),Ff (show 8≠2 by decide),Ff (show 8≠3 by decide),Ff (show 8≠4 by decide),Ff (show 8≠5 by decide),Ff (show 8≠6 by decide),Ff (show 8≠7 by decide),Ff (show 8≠9 by decide),Ff (show 8≠10 by decide),Ff (show 8≠11 by decide),Ff (show 8≠12 by decide),Ff (show 8≠13 by decide),Ff (show 8≠14 by decide),Ff (show 8≠15 by decide),Ff (show 8≠16 by decide)]
 ·
  clear Ga Gc;refine wpOp_step rfl (fun K hK=>?_);simp only[Ht];go_simp;refine hK _ _ ⟨by simp[Gf],X4,X8,Ge,p1,d1,p2,d2,p3,d3,?_,F.plain 9 Gd (by decide) (by decide) (by decide) (by decide) (by decide) (by decide) (by decide) (by decide) (fun h=>by cases h)⟩;simp only[Ht,Of (show 9<l.size by omega)];simp only[Ff (show 9≠0 by decide),Ff (show 9≠1 by decide),Ff (show 9≠2 by decide),Ff (show 9≠3 by decide),Ff (show 9≠4 by decide),Ff (show 9≠5 by decide),Ff (show 9≠6 by decide),Ff (show 9≠7 by decide),Ff (show 9≠8 by decide),Ff (show 9≠10 by decide),Ff (show 9≠11 by decide),Ff (show 9≠12 by decide),Ff (show 9≠13 by decide),Ff (show 9≠14 by decide),Ff (show 9≠15 by decide),Ff (show 9≠16 by decide)]
 ·
  have y9:l.getD 9 false=true:=by have:=Ga;simp[Region.binds]at this;simp[this]
  clear Ga Gc;refine wpOp_step rfl (fun K hK=>?_);simp only[Ht,F8 y9];go_simp;refine hK _ _ ⟨by simp[Gf],X4,X8,Ge,p1,d1,p2,d2,p3,d3,?_,F.plain 10 Gd (by decide) (by decide) (by decide) (by decide) (by decide) (by decide) (by decide) (by decide) (fun h=>by cases h)⟩;simp only[Ht,Of (show 10<l.size by omega)];simp only[Ff (show 10≠0 by decide),Ff (show 10≠1 by decide),Ff (show 10≠2 by decide),Ff (show 10≠3 by decide),Ff (show 10≠4 by decide),Ff (show 10≠5 by decide),Ff (show 10≠6 by decide),Ff (show 10≠7 by decide),Ff (show 10≠8 by decide),Ff (show 10≠9 by decide),Ff (show 10≠11 by decide),Ff (show 10≠12 by decide),Ff (show 10≠13 by decide),Ff (show 10≠14 by decide),Ff (show 10≠15 by decide),Ff (show 10≠16 by decide),F8 y9]
 ·
  have y8:l.getD 8 false=true:=by have:=Ga;simp[Region.binds]at this;simp[this]
  have Gr:l.getD 10 false=true:=by have:=Ga;simp[Region.binds]at this;simp[this]
  clear Ga Gc;have Gq:=F.off16 (.inr (.inl Gd));have hX:=F.b8 y8 Gd;obtain⟨p',d',w5,Gi,Gh,Gl⟩:=ya4 (B:=B+2) hX.1 hX.2 (ybu Kc.out F.bel Gs) Km.out (by omega) F.size;refine wpOp_step rfl (fun K hK=>?_);refine Ob (v:=.slice (some ⟨X8,0,none⟩) 0 0) (y:=.slice a2 n2 c2) rfl (.tmp 11) (.tmp 13) 42 rfl ?hs11 ?hx11 Gi ?hk11
  case hs11=>simp[Ht,Act.eval,F8 y8,F8 Gr]
  case hx11=>simp[Ht,Act.eval,F8 y8,F8 Gr]
  refine hK _ _ ⟨by simp[Gf],X4,X8,Ge,p1,d1,p',d',p3,d3,?_,F.app11 Gd (by omega) hX Gh Gl⟩;change Act.put _ (some 14) _=_;simp only[Ht,Act.put,List.setIfInBounds_toArray,List.set_cons_zero,List.set_cons_succ,F8 y8,F8 Gr,Of (show 11<l.size by omega)];simp only[Ff (show 11≠0 by decide),Ff (show 11≠1 by decide),Ff (show 11≠2 by decide),Ff (show 11≠3 by decide),Ff (show 11≠4 by decide),Ff (show 11≠5 by decide),Ff (show 11≠6 by decide),Ff (show 11≠7 by decide),Ff (show 11≠8 by decide),Ff (show 11≠9 by decide),Ff (show 11≠10 by decide),Ff (show 11≠12 by decide),Ff (show 11≠13 by decide),Ff (show 11≠14 by decide),Ff (show 11≠15 by decide),Ff (show 11≠16 by decide),F8 y8,F8 Gr,S5 Gq]
 ·
  clear Ga Gc;refine wpOp_step rfl (fun K hK=>?_);simp only[Ht];go_simp;refine hK _ _ ⟨by simp[Gf],X4,X8,W'.heap.size,p1,d1,p2,d2,p3,d3,?_,F.built12 Gd⟩;simp only[Ht,Of (show 12<l.size by omega)];simp only[Ff (show 12≠0 by decide),Ff (show 12≠1 by decide),Ff (show 12≠2 by decide),Ff (show 12≠3 by decide),Ff (show 12≠4 by decide),Ff (show 12≠5 by decide),Ff (show 12≠6 by decide),Ff (show 12≠7 by decide),Ff (show 12≠8 by decide),Ff (show 12≠9 by decide),Ff (show 12≠10 by decide),Ff (show 12≠11 by decide),Ff (show 12≠13 by decide),Ff (show 12≠14 by decide),Ff (show 12≠15 by decide),Ff (show 12≠16 by decide)]
 ·
  clear Ga Gc;refine wpOp_step rfl (fun K hK=>?_);simp only[Ht];go_simp;refine hK _ _ ⟨by simp[Gf],X4,X8,Ge,p1,d1,p2,d2,p3,d3,?_,F.plain 13 Gd (by decide) (by decide) (by decide) (by decide) (by decide) (by decide) (by decide) (by decide) (fun h=>by cases h)⟩;simp only[Ht,Of (show 13<l.size by omega)];simp only[Ff (show 13≠0 by decide),Ff (show 13≠1 by decide),Ff (show 13≠2 by decide),Ff (show 13≠3 by decide),Ff (show 13≠4 by decide),Ff (show 13≠5 by decide),Ff (show 13≠6 by decide),Ff (show 13≠7 by decide),Ff (show 13≠8 by decide),Ff (show 13≠9 by decide),Ff (show 13≠10 by decide),Ff (show 13≠11 by decide),Ff (show 13≠12 by decide),Ff (show 13≠14 by decide),Ff (show 13≠15 by decide),Ff (show 13≠16 by decide)]
 ·
  have Kb:l.getD 13 false=true:=by have:=Ga;simp[Region.binds]at this;simp[this]
  clear Ga Gc;refine wpOp_step rfl (fun K hK=>?_);simp only[Ht,F8 Kb];go_simp;refine hK _ _ ⟨by simp[Gf],X4,X8,Ge,p1,d1,p2,d2,p3,d3,?_,F.plain 14 Gd (by decide) (by decide) (by decide) (by decide) (by decide) (by decide) (by decide) (by decide) (fun h=>by cases h)⟩;simp only[Ht,Of (show 14<l.size by omega)];simp only[Ff (show 14≠0 by decide),Ff (show 14≠1 by decide),Ff (show 14≠2 by decide),Ff (show 14≠3 by decide),Ff (show 14≠4 by decide),Ff (show 14≠5 by decide),Ff (show 14≠6 by decide),Ff (show 14≠7 by decide),Ff (show 14≠8 by decide),Ff (show 14≠9 by decide),Ff (show 14≠10 by decide),Ff (show 14≠11 by decide),Ff (show 14≠12 by decide),Ff (show 14≠13 by decide),Ff (show 14≠15 by decide),Ff (show 14≠16 by decide),F8 Kb]
 ·
  have Gk:l.getD 12 false=true:=by have:=Ga;simp[Region.binds]at this;simp[this]
  have Gt:l.getD 14 false=true:=by have:=Ga;simp[Region.binds]at this;simp[this]
  clear Ga Gc;have Gq:=F.off16 (.inr (.inr Gd));have hX:=F.b12 Gk Gd;obtain⟨p',d',w5,Gi,Gh,Gl⟩:=zzg (B:=B+2) hX.1 hX.2 (yat Kf.out F.bel Gs) Kl.out (by omega) F.size;refine wpOp_step rfl (fun K hK=>?_);refine Ob (v:=.slice (some ⟨Ge,0,none⟩) 0 0) (y:=.slice a3 n3 c3) rfl (.tmp 15) (.tmp 17) 43 rfl ?hs15 ?hx15 Gi ?hk15
  case hs15=>simp[Ht,Act.eval,F8 Gk,F8 Gt]
  case hx15=>simp[Ht,Act.eval,F8 Gk,F8 Gt]
  refine hK _ _ ⟨by simp[Gf],X4,X8,Ge,p1,d1,p2,d2,p',d',?_,F.app15 Gd (by omega) hX Gh Gl⟩;change Act.put _ (some 18) _=_;simp only[Ht,Act.put,List.setIfInBounds_toArray,List.set_cons_zero,List.set_cons_succ,F8 Gk,F8 Gt,Of (show 15<l.size by omega)];simp only[Ff (show 15≠0 by decide),Ff (show 15≠1 by decide),Ff (show 15≠2 by decide),Ff (show 15≠3 by decide),Ff (show 15≠4 by decide),Ff (show 15≠5 by decide),Ff (show 15≠6 by decide),Ff (show 15≠7 by decide),Ff (show 15≠8 by decide),Ff (show 15≠9 by decide),Ff (show 15≠10 by decide),Ff (show 15≠11 by decide),Ff (show 15≠12 by decide),Ff (show 15≠13 by decide),Ff (show 15≠14 by decide),Ff (show 15≠16 by decide),F8 Gk,F8 Gt,S5 Gq]
 ·
  have y1:l.getD 1 false=true:=by have:=Ga;simp[Region.binds]at this;simp[this]
  have y3:l.getD 3 false=true:=by have:=Ga;simp[Region.binds]at this;simp[this]
  have y7:l.getD 7 false=true:=by have:=Ga;simp[Region.binds]at this;simp[this]
  have Gw:l.getD 11 false=true:=by have:=Ga;simp[Region.binds]at this;simp[this]
  have Gu:l.getD 15 false=true:=by have:=Ga;simp[Region.binds]at this;simp[this]
  clear Ga Gc;refine wpOp_step rfl (fun K hK=>?_);simp only[Ht,F8 y1,F8 y3,F8 y7,F8 Gw,F8 Gu];go_simp;refine hK _ _ ⟨by simp[Gf],X4,X8,Ge,p1,d1,p2,d2,p3,d3,?_,F.plain 16 Gd (by decide) (by decide) (by decide) (by decide) (by decide) (by decide) (by decide) (by decide) (fun _=>⟨y7,Gw,Gu⟩)⟩;simp only[Ht,Of (show 16<l.size by omega)];simp only[Ff (show 16≠0 by decide),Ff (show 16≠1 by decide),Ff (show 16≠2 by decide),Ff (show 16≠3 by decide),Ff (show 16≠4 by decide),Ff (show 16≠5 by decide),Ff (show 16≠6 by decide),Ff (show 16≠7 by decide),Ff (show 16≠8 by decide),Ff (show 16≠9 by decide),Ff (show 16≠10 by decide),Ff (show 16≠11 by decide),Ff (show 16≠12 by decide),Ff (show 16≠13 by decide),Ff (show 16≠14 by decide),Ff (show 16≠15 by decide),F8 y1,F8 y3,F8 y7,F8 Gw,F8 Gu]
 ·
  have Gm:∀j,j<17->l.getD j false=true:=by
   have Ka:=Ga;simp[Region.binds]at Ka;intro j hj;have Kd:j=0\/j=1\/j=2\/j=3\/j=4\/j=5\/j=6\/j=7\/j=8\/j=9\/j=10\/j=11\/j=12\/j=13\/j=14\/j=15\/j=16:=by omega
   rcases Kd with rfl|rfl|rfl|rfl|rfl|rfl|rfl|rfl|rfl|rfl|rfl|rfl|rfl|rfl|rfl|rfl|rfl<;>simp[Ka]
  have Gx:=Gm 16 (by omega);clear Ga Gc;have Gg:=F.res Gd;obtain⟨m0,m1,m2,m3,m4⟩:=Nh Gg;have f0:=Gg.frozen 0;have f1:=Gg.frozen 1;have f2:=Gg.frozen 2;have f3:=Gg.frozen 3;have f4:=Gg.frozen 4;refine wpOp_step rfl (fun K hK=>?_);simp only[Ht,F8 Gx];go_simp;refine hK _ _ ⟨by simp[Gf],X4,X8,Ge,p1,d1,p2,d2,p3,d3,?_,F.stored Gd (by omega) Gm⟩;simp only[Ht,Ff (show 17≠0 by decide),Ff (show 17≠1 by decide),Ff (show 17≠2 by decide),Ff (show 17≠3 by decide),Ff (show 17≠4 by decide),Ff (show 17≠5 by decide),Ff (show 17≠6 by decide),Ff (show 17≠7 by decide),Ff (show 17≠8 by decide),Ff (show 17≠9 by decide),Ff (show 17≠10 by decide),Ff (show 17≠11 by decide),Ff (show 17≠12 by decide),Ff (show 17≠13 by decide),Ff (show 17≠14 by decide),Ff (show 17≠15 by decide),Ff (show 17≠16 by decide),F8 Gx]
def Lp (t:Int):Bool:=decide (0<=t)&&decide (t<=1000000000)
def Hh (k:Ke):Bool:=decide (k.name.size<=200)&&(Ls k.val&&Lp k.due)
def riK (ks:List Ke) (i:Nat):Bool:=decide (i=0)||Op.bytesLess (ks.getD (i-1) ke0).name.toList (ks.getD i ke0).name.toList
def Fm (ks:List Ke):Bool:=decide (ks.length<=20)&&((List.range ks.length).all (riK ks)&&(List.range ks.length).all fun i=>Hh (ks.getD i ke0))
def riV (L:List KV) (i:Nat):Bool:=decide (i=0)||Op.bytesLess (L.getD (i-1) kv0).key.name.toList (L.getD i kv0).key.name.toList
def kyV (L:List KV) (i:Nat):Bool:=Hh (L.getD i kv0).key
theorem Wg(L:List KV)(i:Nat):(L.map KV.key).getD i ke0=(L.getD i kv0).key:=by
 rw[Qa,Qa,List.getElem?_map];cases L[i]?<;>rfl
theorem zzw(L:List KV):Fm (L.map KV.key)=(decide (L.length<=20)&&((List.range L.length).all (riV L)&&(List.range L.length).all (kyV L))):=by
 unfold Fm;have e1:riK (L.map KV.key)=riV L:=by funext i;unfold riK riV;rw[Wg,Wg]
 have e2:(fun i=>Hh ((L.map KV.key).getD i ke0))=kyV L:=by funext i;unfold kyV;rw[Wg]
 rw[e1,e2,Qp]
def Small (L:List KV):Prop:=∀i,i<L.length->KSm (L.getD i kv0).key.val/\(L.getD i kv0).key.name.size<=1048576
def Uc (x y:KV):Int:=Lib.compareBytes x.key.name.data.toList y.key.name.data.toList
theorem zzs(x y:KV):decide (Uc x y<0)=Op.bytesLess x.key.name.toList y.key.name.toList:=by
 unfold Uc;rw[Kk.Bk,ByteArray.toList_eq,ByteArray.toList_eq]
abbrev kC (nm:ByteArray) (k:Int) (t:ByteArray) (vi vp vr:Value) (d:Int):Array Value:= #[.string nm,.int .i64 k,.string t,vi,vp,vr,.int .i64 d]
theorem zob(x y:KV)(w:World):Calls prog 59 #[kvV x,kvV y] w fun e w'=>e=.returned (.int .i64 (Uc x y))/\Bl w w':=by
 have HC:Hid (∀W,Cp 109 #[.string x.key.name,.string y.key.name] W fun e w'=>e=.returned (.int .i64 (Uc x y))/\w'=W):=fun W=>Kk.Dm x.key.name y.key.name W;generalize Uc x y=z at*;obtain⟨⟨n1,⟨k1,t1,_,_,_⟩,d1⟩,Ga,Gb,Ge⟩:=x;obtain⟨⟨n2,⟨k2,t2,_,_,_⟩,d2⟩,Gf,Gd,Gc⟩:=y;have hb:Bl w ((w.alloc (.cells (kC n1 k1 t1 Ga Gb Ge d1) 47)).alloc (.cells (kC n2 k2 t2 Gf Gd Gc d2) 47)):=((Qb _ _).alloc (Qc _) _).alloc (by simp) _;go_enter func59,ntmps59;go_wp2_with fail;refine(HC.out _).mono ?_;rintro e w1⟨rfl,rfl⟩;go_wp2;go_ret;exact⟨rfl,hb⟩
theorem zwo(a:Option Addr)(b n c:Nat)(L:List KV)(w:World)(h:To w a b n L)(hn:n<=1048577):
  Calls prog 58 #[.slice a n c,.func (.func 59) #[] #[]] w fun e w'=>e=.returned (.bool ((List.range n).all (riV L)))/\Bl w w':=by
 have H:Hid (To w a b n L):=h;clear h;go_enter func58,ntmps58;go_wp2;go_loopw [5] (fun i wr=>∃(k:Nat),1<=k/\(k<=n\/k=1)/\i=.int .i64 k/\Hid (∀j,j<k->riV L j=true)/\Bl w wr) (fun i _=>n-(intOf i).toNat)
 case atStart=>exact⟨1,by omega,.inr rfl,rfl,(fun j hj=>by cases (by omega:j=0);rfl),Qb _ _⟩
 case round=>
  obtain⟨k,Gl,hk,rfl,hp,bk⟩:=hrel;by_cases hlt:k<n
  ·have HW:=H.out.bw bk;have hc:=HW.cell (k-1) (by omega);have hd:=HW.cell k hlt;obtain rfl:=HW.addr (by omega);have HS:Hid (riV L k=decide (Uc (L.getD (k-1) kv0) (L.getD k kv0)<0)):=by
    unfold Hid;rw[zzs];unfold riV;rw[Qf (by omega)];rfl
   generalize L.getD (k-1) kv0=x,L.getD k kv0=y at*;have HC:Hid (∀W,Cp 59 #[kvV x,kvV y] W fun e w'=>e=.returned (.int .i64 (Uc x y))/\Bl W w'):=fun W=>zob x y W;generalize Uc x y=z at*;obtain⟨⟨n1,⟨k1,t1,_,_,_⟩,d1⟩,Ga,Gj,Gd⟩:=x;obtain⟨⟨n2,⟨k2,t2,_,_,_⟩,d2⟩,Gf,Gc,Gb⟩:=y;have sk:=bk.size;have hb:=HW.low (by omega);obtain⟨c0,c1,c2,c3,c4,c5,c6⟩:=hc;obtain⟨e0,e1,e2,e3,e4,e5,e6⟩:=hd;clear HW;dsimp only at c0 c1 c2 c3 c4 c5 c6 e0 e1 e2 e3 e4 e5 e6;have Gm:(1:Int)<=(k:Int):=by omega
   have Gk:(0:Int)<=(k:Int)-1:=by omega
   have Gg:(k:Int)-1<(n:Int):=by omega
   have Gh:(0:Int)<=(k:Int):=by omega
   have Gn:(k:Int)<(n:Int):=by omega
   have Gi:((k:Int)-1).toNat=k-1:=by omega
   have hw:IntKind.i64.wrap ((k:Int)-1)=(k:Int)-1:=Kk.wrap_small (by omega) (by omega);go_upto_region 4 with fail;go_region_held3 (fun W=>W.cell? ⟨b,(k-1)*7,none⟩=some (.string n1)/\W.cell? ⟨b,(k-1)*7+1,none⟩=some (.int .i64 k1)/\W.cell? ⟨b,(k-1)*7+2,none⟩=some (.string t1)/\W.cell? ⟨b,(k-1)*7+3,none⟩=some Ga/\W.cell? ⟨b,(k-1)*7+4,none⟩=some Gj/\W.cell? ⟨b,(k-1)*7+5,none⟩=some Gd/\W.cell? ⟨b,(k-1)*7+6,none⟩=some (.int .i64 d1)/\W.cell? ⟨b,k*7,none⟩=some (.string n2)/\W.cell? ⟨b,k*7+1,none⟩=some (.int .i64 k2)/\W.cell? ⟨b,k*7+2,none⟩=some (.string t2)/\W.cell? ⟨b,k*7+3,none⟩=some Gf/\W.cell? ⟨b,k*7+4,none⟩=some Gc/\W.cell? ⟨b,k*7+5,none⟩=some Gb/\W.cell? ⟨b,k*7+6,none⟩=some (.int .i64 d2))
    (first
     |exact⟨c0,c1,c2,c3,c4,c5,c6,e0,e1,e2,e3,e4,e5,e6⟩
     |exact⟨(b1.cell (p:=⟨b,_,none⟩) hb).trans c0,(b1.cell (p:=⟨b,_,none⟩) hb).trans c1,(b1.cell (p:=⟨b,_,none⟩) hb).trans c2,(b1.cell (p:=⟨b,_,none⟩) hb).trans c3,(b1.cell (p:=⟨b,_,none⟩) hb).trans c4,(b1.cell (p:=⟨b,_,none⟩) hb).trans c5,(b1.cell (p:=⟨b,_,none⟩) hb).trans c6,(b1.cell (p:=⟨b,_,none⟩) hb).trans e0,(b1.cell (p:=⟨b,_,none⟩) hb).trans e1,(b1.cell (p:=⟨b,_,none⟩) hb).trans e2,(b1.cell (p:=⟨b,_,none⟩) hb).trans e3,(b1.cell (p:=⟨b,_,none⟩) hb).trans e4,(b1.cell (p:=⟨b,_,none⟩) hb).trans e5,(b1.cell (p:=⟨b,_,none⟩) hb).trans e6⟩)
    (first
     |(go_at_call 59;refine(HC.out _).mono ?_;rintro e w1⟨rfl,b1⟩))
   have b2:Bl w w1:=bk.trans ((Below.trans (below_drewN (Qb _ wr) 1) b1).mono sk);clear b1 Gi hw Gk Gg c0 c1 c2 c3 c4 c5 c6 e0 e1 e2 e3 e4 e5 e6 HC Gh;by_cases hz:z<0
   ·have hd:decide (0<=z)=false:=Qf (by omega);have Ge:Hid (∀j,j<k+1->riV L j=true):=fun j hj=>by
     by_cases e:j=k
     ·subst e;rw[HS.out,Qe hz]
     ·exact hp.out j (by omega)
    clear hp HS;go_wp2;go_roundw
    case rel=>exact⟨k+1,by omega,.inl (by omega),by go_num,Ge,b2⟩
    case measure=>simp[intOf];omega
   ·have hd:decide (0<=z)=true:=Qe (by omega);have HF:Hid ((List.range n).all (riV L)=false):=Kk.Rz hlt (by rw[HS.out,Qf hz]);clear hp HS;go_wp2;go_ret;exact⟨F0 HF.out.symm,b2⟩
  ·have HT:Hid ((List.range n).all (riV L)=true):=Kk.R5 fun j hj=>hp.out j (by omega);clear hp;go_wp2;go_ret;exact⟨F0 HT.out.symm,bk⟩
theorem znn(t:Int)(w:World):Calls prog 45 #[.int .i64 t] w fun e w'=>e=.returned (.bool (Lp t))/\w'=w:=by
 by_cases h0:0<=t
 ·by_cases h1:t<=1000000000
  ·have HE:Hid (Lp t=true):=by unfold Hid Lp;rw[Qe h0,Qe h1];rfl
   go_enter func45,ntmps45;go_wp2;go_ret;exact⟨F0 HE.out.symm,rfl⟩
  ·have HE:Hid (Lp t=false):=by unfold Hid Lp;rw[Qe h0,Qf h1];rfl
   go_enter func45,ntmps45;go_wp2;go_ret;exact⟨F0 HE.out.symm,rfl⟩
 ·have HE:Hid (Lp t=false):=by unfold Hid Lp;rw[Qf h0];rfl
  go_enter func45,ntmps45;go_wp2;go_ret;exact⟨F0 HE.out.symm,rfl⟩
theorem up7{W W':World}{B G:Nat}{x0 x1 x2 x3 x4 x5 x6:Value}(b:Below B W W')(h:G<B)(c:W.cell? ⟨G,0,none⟩=some x0/\W.cell? ⟨G,1,none⟩=some x1/\W.cell? ⟨G,2,none⟩=some x2/\W.cell? ⟨G,3,none⟩=some x3/\W.cell? ⟨G,4,none⟩=some x4/\W.cell? ⟨G,5,none⟩=some x5/\W.cell? ⟨G,6,none⟩=some x6):W'.cell? ⟨G,0,none⟩=some x0/\W'.cell? ⟨G,1,none⟩=some x1/\W'.cell? ⟨G,2,none⟩=some x2/\W'.cell? ⟨G,3,none⟩=some x3/\W'.cell? ⟨G,4,none⟩=some x4/\W'.cell? ⟨G,5,none⟩=some x5/\W'.cell? ⟨G,6,none⟩=some x6:=by
 obtain⟨c0,c1,c2,c3,c4,c5,c6⟩:=c;exact⟨(b.cell (p:=⟨G,0,none⟩) h).trans c0,(b.cell (p:=⟨G,1,none⟩) h).trans c1,(b.cell (p:=⟨G,2,none⟩) h).trans c2,(b.cell (p:=⟨G,3,none⟩) h).trans c3,(b.cell (p:=⟨G,4,none⟩) h).trans c4,(b.cell (p:=⟨G,5,none⟩) h).trans c5,(b.cell (p:=⟨G,6,none⟩) h).trans c6⟩
theorem F6{w:World}{T:TypeId}{n:ByteArray}{k:Int}{t:ByteArray}{vi vp vr:Value}{d:Int}(h:Fc w g T (kC n k t vi vp vr d)):w.cell? ⟨g,0,none⟩=some (.string n)/\w.cell? ⟨g,1,none⟩=some (.int .i64 k)/\w.cell? ⟨g,2,none⟩=some (.string t)/\w.cell? ⟨g,3,none⟩=some vi/\w.cell? ⟨g,4,none⟩=some vp/\w.cell? ⟨g,5,none⟩=some vr/\w.cell? ⟨g,6,none⟩=some (.int .i64 d):=by
 have a0:=h.cell 0;have a1:=h.cell 1;have a2:=h.cell 2;have a3:=h.cell 3;have a4:=h.cell 4;have a5:=h.cell 5;have a6:=h.cell 6;simp at a0 a1 a2 a3 a4 a5 a6;exact⟨a0,a1,a2,a3,a4,a5,a6⟩
theorem zjq(x:KV)(B:Nat)(w:World)(h:VOwn w B x.key.val x.vi x.vp x.vr)(hs:KSm x.key.val)(hn:x.key.name.size<=1048576)(hR:Ready w):
  Calls prog 61 #[kvV x] w fun e w'=>e=.returned (.bool (!Hh x.key))/\Bl w w':=by
 have HV:Hid (∀W,Bl w W->Cp 111 #[vlV x.key.val.kind x.key.val.text x.vi x.vp x.vr] W fun e w'=>e=.returned (.bool (Ls x.key.val))/\Bl W w'):=fun W hb=>zw0 x.key.val x.vi x.vp x.vr B W (h.bw hb) hs.fit hs.np hs.nums (hR.bw (hb.mono hR.six));have HT:Hid (∀W,Cp 45 #[.int .i64 x.key.due] W fun e w'=>e=.returned (.bool (Lp x.key.due))/\w'=W):=fun W=>znn _ W;have HE:Hid (Hh x.key=(decide (x.key.name.size<=200)&&(Ls x.key.val&&Lp x.key.due))):=rfl;obtain⟨O,hO⟩:∃O,Hh x.key=O:=⟨_,rfl⟩;rw[hO]at HE ⊢;clear h hs hR hO;generalize Ls x.key.val=o2,Lp x.key.due=o3 at*;obtain⟨⟨nm,⟨k,t,_,_,_⟩,d⟩,vi,vp,vr⟩:=x;dsimp only at hn HV HT HE;obtain⟨wa,Gb⟩:∃wa,w.alloc (.cells (kC nm k t vi vp vr d) 47)=wa:=⟨_,rfl⟩;have HB:Hid (Bl w wa/\Fc wa w.heap.size 47 (kC nm k t vi vp vr d)):=by subst Gb;exact⟨(Qb _ w).alloc (Qc _) _,Fc.new w 47 _⟩
 have Gc:Hid (w.alloc (.cells (kC nm k t vi vp vr d) 47)=wa):=Gb;clear Gb;by_cases h200:nm.size<=200
 ·have hg:decide ((200:Int)<(nm.size:Int))=false:=Qf (by omega);rw[Qe h200,Qz]at HE;cases o2 with
  |false=>
   have Ga:Hid ((!O)=true):=by unfold Hid;rw[HE.out];rfl
   generalize(!O)=NO at*;go_enter func61,ntmps61;go_wp2_with fail;rw[Gc.out];refine(HV.out wa HB.out.1).mono ?_;rintro e w1⟨rfl,b1⟩;have bb:=HB.out.1.trans (b1.mono HB.out.1.size);go_wp2;go_ret;exact⟨F0 Ga.out.symm,bb⟩
  |true=>
   have Ga:Hid ((!O)=!o3):=by unfold Hid;rw[HE.out];rfl
   generalize(!O)=NO at*;go_enter func61,ntmps61;go_wp2_with fail;rw[Gc.out];refine(HV.out wa HB.out.1).mono ?_;rintro e w1⟨rfl,b1⟩;have bb:=HB.out.1.trans (b1.mono HB.out.1.size);obtain⟨_,_,_,_,_,_,a6⟩:=F6 (Fc.bw HB.out.2 b1 HB.out.2.lt);go_wp2_with fail;refine(HT.out w1).mono ?_;rintro e w2⟨rfl,rfl⟩;go_wp2;go_ret;exact⟨F0 Ga.out.symm,bb⟩
 ·have hg:decide ((200:Int)<(nm.size:Int))=true:=Qe (by omega);have Ga:Hid ((!O)=true):=by unfold Hid;rw[HE.out,Qf h200];rfl
  generalize(!O)=NO at*;go_enter func61,ntmps61;go_wp2;go_ret;exact⟨F0 Ga.out.symm,(Qb _ w).alloc (Qc _) _⟩
section
variable (a:Option Addr) (b n c:Nat) (L:List KV) (w:World)
theorem zxa(h:Oc w a b n L)(hs:Small L)(hn:n<=1048577)(hR:Ready w):
  Calls prog 110 #[.slice a n c,.func (.func 61) #[] #[]] w fun e w'=>∃r:Int,e=.returned (.int .i64 r)/\decide (0<=r)=(!(List.range n).all (kyV L))/\Bl w w':=by
 have H:Hid (Oc w a b n L):=h;have HS:Hid (Small L):=hs;have HR:Hid (Ready w):=hR;have HL:Hid (L.length=n):=h.ks.len;clear h hs hR;go_enter func110,ntmps110;go_wp2;go_loopw [8] (fun i wr=>∃(k:Nat),k<=n/\i=.int .i64 k/\Hid (∀j,j<k->kyV L j=true)/\Bl w wr) (fun i _=>n-(intOf i).toNat)
 case atStart=>exact⟨0,by omega,rfl,(fun j hj=>by omega),Qb _ _⟩
 case round=>
  obtain⟨k,hk,rfl,hp,bk⟩:=hrel;have sk:=bk.size;by_cases hlt:k<n
  ·have HW:=H.out.bw bk;obtain⟨B,hv⟩:=HW.val k hlt;have hc:=HW.ks.cell k hlt;obtain rfl:=HW.ks.addr (by omega);obtain⟨q1,q2⟩:=HS.out k (by rw[HL.out];exact hlt);have Ga:Hid (kyV L k=Hh (L.getD k kv0).key):=rfl;have HC:Hid (Cp 61 #[kvV (L.getD k kv0)] wr fun e w'=>e=.returned (.bool (!Hh (L.getD k kv0).key))/\Bl wr w'):=zjq _ B wr hv q1 q2 (HR.out.bw (bk.mono HR.out.six));generalize L.getD k kv0=x at*;generalize Hh x.key=o at*;obtain⟨c0,c1,c2,c3,c4,c5,c6⟩:=hc;clear HW q1 q2 hv;obtain⟨⟨nm,⟨kd,t,_,_,_⟩,d⟩,vi,vp,vr⟩:=x;dsimp only at c0 c1 c2 c3 c4 c5 c6;cases o with
   |false=>
    have HF:Hid ((List.range n).all (kyV L)=false):=Kk.Rz hlt Ga.out;clear hp;go_wp2_with fail;refine HC.out.mono ?_;rintro e w1⟨rfl,b1⟩;have bb:=bk.trans (b1.mono sk);clear c0 c1 c2 c3 c4 c5 c6;go_wp2;go_ret;exact⟨k,rfl,by rw[HF.out];exact Qe (by omega),bb⟩
   |true=>
    have Gb:Hid (∀j,j<k+1->kyV L j=true):=fun j hj=>by
     by_cases e:j=k
     ·subst e;exact Ga.out
     ·exact hp.out j (by omega)
    clear hp;go_wp2_with fail;refine HC.out.mono ?_;rintro e w1⟨rfl,b1⟩;have bb:=bk.trans (b1.mono sk);clear c0 c1 c2 c3 c4 c5 c6;go_wp2;go_roundw
    case rel=>exact⟨k+1,by omega,by go_num,Gb,bb⟩
    case measure=>simp[intOf];omega
  ·have HT:Hid ((List.range n).all (kyV L)=true):=Kk.R5 fun j hj=>hp.out j (by omega);clear hp;go_wp2;go_ret;exact⟨-1,rfl,by rw[HT.out];rfl,bk⟩
theorem zor(h:Oc w a b n L)(hs:Small L)(hn:n<=1048577)(hR:Ready w):
  Calls prog 60 #[.slice a n c,.func (.func 61) #[] #[]] w fun e w'=>e=.returned (.bool (!(List.range n).all (kyV L)))/\Bl w w':=by
 have HC:Hid (Cp 110 #[.slice a n c,.func (.func 61) #[] #[]] w fun e w'=>∃r:Int,e=.returned (.int .i64 r)/\decide (0<=r)=(!(List.range n).all (kyV L))/\Bl w w'):=zxa a b n c L w h hs hn hR;generalize(!(List.range n).all (kyV L))=o at*;clear h hs hR;go_enter func60,ntmps60;go_wp2_with fail;refine HC.out.mono ?_;rintro e w1⟨r,rfl,hr,b1⟩;have Hr:Hid (decide (0<=r)=o):=hr;clear hr;go_wp2;go_ret;exact⟨F0 Hr.out,b1⟩
theorem Ip(h:Oc w a b n L)(hs:Small L)(hn:n<=1048577)(hR:Ready w):
  Calls prog 20 #[.slice a n c] w fun e w'=>e=.returned (.bool (Fm (L.map KV.key)))/\Bl w w':=by
 have HE:Hid (Fm (L.map KV.key)=(decide (n<=20)&&((List.range n).all (riV L)&&(List.range n).all (kyV L)))):=by unfold Hid;rw[zzw,h.ks.len]
 obtain⟨O,hO⟩:∃O,Fm (L.map KV.key)=O:=⟨_,rfl⟩;rw[hO]at HE ⊢;have HA:Hid (Cp 58 #[.slice a n c,.func (.func 59) #[] #[]] w fun e w'=>e=.returned (.bool ((List.range n).all (riV L)))/\Bl w w'):=zwo a b n c L w h.ks hn;have HB:Hid (∀W,Bl w W->Cp 60 #[.slice a n c,.func (.func 61) #[] #[]] W fun e w'=>e=.returned (.bool (!(List.range n).all (kyV L)))/\Bl W w'):=fun W hb=>zor a b n c L W (h.bw hb) hs hn (hR.bw (hb.mono hR.six));clear h hs hR hO;generalize(List.range n).all (riV L)=o1,(List.range n).all (kyV L)=o2 at*;by_cases h20:n<=20
 ·have hg:decide ((n:Int)<=20)=true:=Qe (by omega);rw[Qe h20,Qz]at HE;cases o1 with
  |false=>
   have Ga:Hid (O=false):=HE.out;go_enter func20,ntmps20;go_wp2_with fail;refine HA.out.mono ?_;rintro e w1⟨rfl,b1⟩;go_wp2;go_ret;exact⟨F0 Ga.out.symm,b1⟩
  |true=>
   have Ga:Hid (O=o2):=HE.out;go_enter func20,ntmps20;go_wp2_with fail;refine HA.out.mono ?_;rintro e w1⟨rfl,b1⟩;have Gb:=HB.out w1 b1;generalize hno:(!o2)=no2 at*;have Gc:Hid ((!o2)=no2):=hno;clear hno;go_wp2_with fail;refine Gb.mono ?_;rintro e w2⟨rfl,b2⟩;have bb:=b1.trans (b2.mono b1.size);go_wp2;go_ret;exact⟨F0 (by rw[Ga.out,<-Gc.out];cases o2<;>rfl),bb⟩
 ·have hg:decide ((n:Int)<=20)=false:=Qf (by omega);have Ga:Hid (O=false):=by unfold Hid;rw[HE.out,Qf h20];rfl
  go_enter func20,ntmps20;go_wp2;go_ret;exact⟨F0 Ga.out.symm,Qb _ _⟩
end
end
section
open Go.RowKit Go.Sort
open Kk (Rk rk0 G8 Mp F1 L7 Hv G9 Fo G6 encR F7)
def okV (L:List KV) (j:Nat):Bool:=kyV L j&&riV L j
theorem ydc(p q:Nat->Bool)(n:Nat):((List.range n).all q&&(List.range n).all p)=(List.range n).all fun j=>p j&&q j:=by
 rw[Bool.eq_iff_iff];simp only[Qh,Qw];exact⟨fun⟨h1,h2⟩ x hx=>⟨h2 x hx,h1 x hx⟩,fun h=>⟨fun x hx=>(h x hx).2,fun x hx=>(h x hx).1⟩⟩
theorem ydi(L:List KV)(n:Nat)(h:L.length=n):Fm (L.map KV.key)=(decide (n<=20)&&(List.range n).all (okV L)):=by
 rw[zzw,h,ydc];rfl
theorem zqa(t:Int)(w:World):Calls Tryz.prog 52 #[.int .i64 t,.int .i64 0,.int .i64 1000000000] w fun e w'=>e=.returned (.bool (Lp t))/\Bl w w':=
 (Hp.N6 t 0 1000000000 w).mono fun e w' ⟨he,hw⟩=>⟨by rw[he];exact F0 (by unfold Lp;rw[Bool.eq_iff_iff];simp),by rw[hw];exact Qb _ _⟩
end
section
open Tryz
open Go.RowKit Go.Sort
open Kk (Rk rk0 G8 Mp F1 L7 Hv G9 Fo G6 encR F7)
variable {w w':World} {B B':Nat} {L:List KV} {v:Vl} {vi vp vr:Value}
theorem wpList_append_run{P:Program}{ops:Array Oper}{rest:List Oper}{o:Oper}{a:Act}{Q:Exit->Act->World->Prop}(hgd:o.guard=none)(s x:Operand)(t:TypeId)
 (ho:o.op=.call { callee:=.builtin .append,args:= #[s,x],argTypes:= #[t,t] }){v y v':Value}(hs:a.eval s=v)(hx:a.eval x=y)(hr:(Builtin.append_ #[t,t] o.type #[v,y]).run P w=.ok v' w')
 (h:wpList P ops Q rest (a.put o.dst v') w'):wpList P ops Q (o::rest) a w:=
 wpList_plain hgd fun _ hK=>by
  unfold Oper.wp;simp[execOp,ho,resolve,invoke,builtin,hs,hx,hr,Result.andThen];exact hK _ _ h
theorem Rising.le{N:Nat}{β:Nat->Nat}(h:Rising w B L N β)(hB:B'<=B):Rising w B' L N β:=
 ⟨fun i hi=>Qj hB (h.low i hi),h.mono,h.top,h.own,h.lt1,h.lt2,h.lt3⟩
theorem Fv.le{v:Value}(h:Fv w B v L)(hB:B'<=B):Fv w B' v L:=by
 obtain⟨β,hr⟩:=h.vals;exact⟨Go.Joins.ownsRow_le h.row hB,β,hr.le hB⟩
theorem VRd.bw(h:VRd w v vi vp vr)(hb:Bl w w'):VRd w' v vi vp vr:=by
 obtain⟨⟨a1,A1,o1,c1,e1,h1,f1⟩,⟨a2,A2,c2,e2,h2,f2⟩,⟨a3,A3,o3,c3,e3,h3,f3⟩⟩:=h;exact⟨⟨a1,A1,o1,c1,e1,Lb h1 hb,f1⟩,⟨a2,A2,c2,e2,h2.bw hb,f2⟩,⟨a3,A3,o3,c3,e3,h3.bw hb,f3⟩⟩
theorem VOwn.rd(h:VOwn w B v vi vp vr)(hz:∀t∈v.ia,t.size<=1048576):VRd w v vi vp vr:=by
 have Ga:∀{e size n xs} {u:Value} {a:Option Addr} {m c:Nat},w.ownsRow B e size u n xs->u=.slice a m c->a=none->c=0:=by
  intro e size n xs u a m c ho hu ha;subst ha;obtain⟨_,⟨hv,_⟩|⟨g,Gb,Gc,hv,_⟩⟩:=ho
  ·rw[hu]at hv;injection hv with _ _ hv
  ·rw[hu]at hv;injection hv with hv;cases hv
 obtain⟨a1,A1,c1,e1,h1,_,_⟩:=N2 h.ia hz;obtain⟨a2,A2,c2,e2,h2⟩:=Ox h.pj;obtain⟨a3,A3,c3,e3,h3⟩:=Kk.N7 h.rq;exact⟨⟨a1,A1,0,c1,e1,h1,Ga h.ia e1⟩,⟨a2,A2,c2,e2,h2,Ga h.pj e2⟩,⟨a3,A3,0,c3,e3,h3,Ga h.rq e3⟩⟩
abbrev Ra (w:World) (v0 v1 v2 v3 v4 v5 v6:Value) (b:Nat):World:=((((((w.setCell ⟨b,0,none⟩ v0).setCell ⟨b,1,none⟩ v1).setCell ⟨b,2,none⟩ v2).setCell ⟨b,3,none⟩ v3).setCell ⟨b,4,none⟩ v4).setCell ⟨b,5,none⟩ v5).setCell ⟨b,6,none⟩ v6
theorem Dw(w:World)(v0 v1 v2 v3 v4 v5 v6:Value)(b k:Nat)(h:k≠b):(Ra w v0 v1 v2 v3 v4 v5 v6 b).heap[k]?=w.heap[k]?:=by
 have e:∀(w:World) (o:Nat) (v:Value),(w.setCell ⟨b,o,none⟩ v).heap[k]?=w.heap[k]?:=fun w o v=>Below.heap_setCell _ _ _ _ h;rw[e,e,e,e,e,e,e]
theorem Eh{w1:World}(h:Below B w w1)(v0 v1 v2 v3 v4 v5 v6:Value)(b:Nat)(hb:B<=b):Below B w (Ra w1 v0 v1 v2 v3 v4 v5 v6 b):=
 ((((((h.setCell hb _).setCell hb _).setCell hb _).setCell hb _).setCell hb _).setCell hb _).setCell hb _
abbrev z7:Array Value:= #[.string ⟨#[]⟩,.int .i64 0,.string ⟨#[]⟩,.slice none 0 0,.slice none 0 0,.slice none 0 0,.int .i64 0]
def Tm (w:World) (k:Ke) (e:Ending) (w':World):Prop:=∃p1 d1 p2 d2 p3 d3,e= .returned (kvV ⟨k,.slice p1 k.val.ia.length d1,.slice p2 k.val.pj.length d2,.slice p3 k.val.rq.length d3⟩)/\VOwn w' w.heap.size k.val (.slice p1 k.val.ia.length d1) (.slice p2 k.val.pj.length d2) (.slice p3 k.val.rq.length d3)/\Bl w w'
theorem Bd(x:KV)(w:World)(h:VRd w x.key.val x.vi x.vp x.vr)(s1:x.key.val.ia.length<=1048577)(s2:x.key.val.pj.length<=1048577)(s3:x.key.val.rq.length<=1048577):
  Calls prog 102 #[kvV x] w (Tm w x.key):=by
 obtain⟨⟨nm,v,Ga⟩,vi,vp,vr⟩:=x;dsimp only at s1 s2 s3;show Calls prog 102 #[.agg (kC nm v.kind v.text vi vp vr Ga)] w (Tm w ⟨nm,v,Ga⟩);have CV:Hid (∀W,Bl w W->Cp 144 #[vlV v.kind v.text vi vp vr] W fun e w'=>∃p1 d1 p2 d2 p3 d3,e=.returned (vlV v.kind v.text (.slice p1 v.ia.length d1) (.slice p2 v.pj.length d2) (.slice p3 v.rq.length d3))/\Fz w' W.heap.size (.slice p1 v.ia.length d1) v.ia/\G3 w' W.heap.size (.slice p2 v.pj.length d2) v.pj/\Fo w' W.heap.size (.slice p3 v.rq.length d3) v.rq/\Bl W w'):=fun W hb=>by
  obtain⟨⟨a1,A1,o1,c1,e1,h1,f1⟩,⟨a2,A2,c2,e2,h2,f2⟩,⟨a3,A3,o3,c3,e3,h3,f3⟩⟩:=h.bw hb;have Gh:vi=.slice a1 v.ia.length c1:=e1;have Gf:vp=.slice a2 v.pj.length c2:=e2;have Gi:vr=.slice a3 v.rq.length c3:=e3;rw[Gh,Gf,Gi];exact zmq v.kind v.text a1 a2 a3 _ c1 _ c2 _ c3 A1 o1 A2 A3 o3 v.ia v.pj v.rq W h1 h2 h3 f1 f2 f3 s1 s2 s3
 have Gc:Hid (∀p1 d1 p2 d2 p3 d3 W',VOwn W' w.heap.size v (.slice p1 v.ia.length d1) (.slice p2 v.pj.length d2) (.slice p3 v.rq.length d3)->Bl w W'->Tm w ⟨nm,v,Ga⟩ (.returned (.agg (kC nm v.kind v.text (.slice p1 v.ia.length d1) (.slice p2 v.pj.length d2) (.slice p3 v.rq.length d3) Ga))) W'):=fun p1 d1 p2 d2 p3 d3 W' u1 u2=>⟨p1,d1,p2,d2,p3,d3,rfl,u1,u2⟩;have Ge:Hid (∀W' p1 d1 p2 d2 p3 d3,Fz W' w.heap.size (.slice p1 v.ia.length d1) v.ia->G3 W' w.heap.size (.slice p2 v.pj.length d2) v.pj->Fo W' w.heap.size (.slice p3 v.rq.length d3) v.rq->VOwn W' w.heap.size v (.slice p1 v.ia.length d1) (.slice p2 v.pj.length d2) (.slice p3 v.rq.length d3)):=fun W' p1 d1 p2 d2 p3 d3 u1 u2 u3=>⟨u1,u2,u3⟩;clear h;generalize v.ia.length=n1,v.pj.length=n2,v.rq.length=n3,v.kind=kd,v.text=t at*;have r1:=(Fc.new w 47 (kC nm kd t vi vp vr Ga)).bw ((Qb _ _).alloc (Qc _) (.cells z7 47)) (by simp);have r2:=Fc.new (w.alloc (.cells (kC nm kd t vi vp vr Ga) 47)) 47 z7;have bw:Bl w ((w.alloc (.cells (kC nm kd t vi vp vr Ga) 47)).alloc (.cells z7 47)):=Go.Joins.below_alloc2 _ _ _;have sw:((w.alloc (.cells (kC nm kd t vi vp vr Ga) 47)).alloc (.cells z7 47)).heap.size=w.heap.size+2:=by simp
 simp only[World.size_alloc]at r2;go_enter func102,ntmps102;go_wp2_with fail;generalize(w.alloc (.cells (kC nm kd t vi vp vr Ga) 47)).alloc (.cells z7 47)=w4 at*;obtain⟨a0,a1,a2,a3,a4,a5,a6⟩:=F6 r1;have bd:Bl w4 w4.drew:=Hp.below_drewN w4 1;have Gg:Bl w w4.drew:=bw.trans (bd.mono (by omega));have l1:=r1.lt;have l2:=r2.lt
 go_region_with (first
  |(go_at_call 144;refine(CV.out _ Gg).mono ?_;rintro e w5⟨p1,d1,p2,d2,p3,d3,rfl,o1,o2,o3,b5⟩;have Gd:Bl w4 w5:=bd.trans b5;obtain⟨i0,i1,i2,i3,i4,i5,i6⟩:=F6 (r1.bw Gd l1);have q2:=r2.bw Gd l2;obtain⟨m0,m1,m2,m3,m4,m5,m6⟩:=F6 q2;have f0:=q2.frozen 0;have f1:=q2.frozen 1;have f2:=q2.frozen 2;have f3:=q2.frozen 3;have f4:=q2.frozen 4;have f5:=q2.frozen 5;have f6:=q2.frozen 6))
 all_goals
  have hz:∀{e size n u xs},w5.ownsRow w4.heap.size e size u n xs->(Ra w5 (.string nm) (.int .i64 kd) (.string t) (.slice p1 n1 d1) (.slice p2 n2 d2) (.slice p3 n3 d3) (.int .i64 Ga) (w.heap.size+1)).ownsRow w.heap.size e size u n xs:=fun hh=>Go.Joins.ownsRow_le (Lt hh fun g hg=>Dw w5 _ _ _ _ _ _ _ _ g (by have:=(Hf hh hg).1;omega)) (by omega);have Gb:Fc (Ra w5 (.string nm) (.int .i64 kd) (.string t) (.slice p1 n1 d1) (.slice p2 n2 d2) (.slice p3 n3 d3) (.int .i64 Ga) (w.heap.size+1)) (w.heap.size+1) 47 (kC nm kd t (.slice p1 n1 d1) (.slice p2 n2 d2) (.slice p3 n3 d3) Ga):=by
   have:=((((((q2.set 0 (.string nm)).set 1 (.int .i64 kd)).set 2 (.string t)).set 3 (.slice p1 n1 d1)).set 4 (.slice p2 n2 d2)).set 5 (.slice p3 n3 d3)).set 6 (.int .i64 Ga);simpa using this
  obtain⟨g0,g1,g2,g3,g4,g5,g6⟩:=F6 Gb;have HE:Hid _:=Gc.out p1 d1 p2 d2 p3 d3 _ (Ge.out _ _ _ _ _ _ _ (hz o1) (hz o2) (hz o3)) (Eh (bw.trans (Gd.mono (by omega))) (.string nm) (.int .i64 kd) (.string t) (.slice p1 n1 d1) (.slice p2 n2 d2) (.slice p3 n3 d3) (.int .i64 Ga) (w.heap.size+1) (by omega));clear o1 o2 o3 b5 Gd Gc Ge CV q2 hz Gb;go_wp2;exact bodyPost_ret (v:=.agg (kC nm kd t (.slice p1 n1 d1) (.slice p2 n2 d2) (.slice p3 n3 d3) Ga)) (by simp[results,results102,go_sem,g0,g1,g2,g3,g4,g5,g6]) rfl HE.out
end
section
open Tryz
open Go.RowKit Go.Sort
open Kk (Rk rk0 G8 Mp F1 L7 Hv G9 Fo G6 encR F7)
variable {w w' wr:World} {L:List KV} {v:Value}
theorem zv7{B g:Nat}(h:Fc w g 47 #[])(hB:B<=g):Nu w B (.slice (some ⟨g,0,none⟩) 0 0) []:=
 ⟨rfl,.inr ⟨g,0, #[],rfl,hB,h,Qc _,by unfold maxLen;omega,rfl,rfl⟩⟩
open Kk (Rk rk0 G8 Mp F1 L7 Hv G9 Fo G6 encR F7 Le str_eq)
structure Th (w:World) (a:Option Addr) (b n:Nat) (L:List KV):Prop where
 ks:To w a b n L
 val:∀i,i<n->VRd w (L.getD i kv0).key.val (L.getD i kv0).vi (L.getD i kv0).vp (L.getD i kv0).vr
 z1:∀i,i<n->(L.getD i kv0).key.val.ia.length<=1048577
 z2:∀i,i<n->(L.getD i kv0).key.val.pj.length<=1048577
 z3:∀i,i<n->(L.getD i kv0).key.val.rq.length<=1048577
theorem Th.bw{a:Option Addr}{b n:Nat}(h:Th w a b n L)(hb:Bl w w'):Th w' a b n L:=
 ⟨h.ks.bw hb,fun i hi=>(h.val i hi).bw hb,h.z1,h.z2,h.z3⟩
def Lm (ks:List Ke) (nm:ByteArray) (at0:Nat):Int:=match ks with
 | []=>-1
 |k::ks=>if k.name=nm then (at0:Int) else Lm ks nm (at0+1)
theorem zvo:∀(L:List KV) (nm:ByteArray) (k s:Nat),k<L.length->(∀j,j<k->(L.getD j kv0).key.name≠nm)->(L.getD k kv0).key.name=nm->Lm (L.map KV.key) nm s=((s+k:Nat):Int)
 | [],_,_,_,h,_,_=>by simp at h
 |x::xs,nm,0,s,_,_,h=>by
  show(if x.key.name=nm then(s:Int) else _)=_;rw[if_pos (by simpa using h)];rfl
 |x::xs,nm,k+1,s,hk,hn,h=>by
  show(if x.key.name=nm then(s:Int) else Lm (xs.map KV.key) nm (s+1))=_;rw[if_neg (by have:=hn 0 (by omega);simpa using this),zvo xs nm k (s+1) (by simpa using hk) (fun j hj=>by have:=hn (j+1) (by omega);simpa using this) (by simpa using h)];congr 1;omega
theorem zqw:∀(L:List KV) (nm:ByteArray) (s:Nat),(∀j,j<L.length->(L.getD j kv0).key.name≠nm)->Lm (L.map KV.key) nm s= -1
 | [],_,_,_=>rfl
 |x::xs,nm,s,hn=>by
  show(if x.key.name=nm then(s:Int) else Lm (xs.map KV.key) nm (s+1))=_;rw[if_neg (by have:=hn 0 (by simp);simpa using this)];exact zqw xs nm (s+1) (fun j hj=>by have:=hn (j+1) (by simpa using hj);simpa using this)
theorem Af(a:Option Addr)(b n c:Nat)(L:List KV)(nm:ByteArray)(w:World)(h:To w a b n L)(hn:n<=1048577):
  Calls prog 101 #[.slice a n c,.string nm] w fun e w'=>e=.returned (.int .i64 (Lm (L.map KV.key) nm 0))/\w'=w:=by
 have H:Hid (To w a b n L):=h;have HL:Hid (L.length=n):=h.len;clear h;go_enter func101,ntmps101;go_wp2;go_loop [5] (fun i=>∃k:Nat,k<=n/\i=.int .i64 k/\Hid (∀j,j<k->(L.getD j kv0).key.name≠nm)) (fun i=>n-(intOf i).toNat)
 case atStart=>exact⟨0,by omega,rfl,fun j hj=>by omega⟩
 case round=>
  obtain⟨k,hk,rfl,hp⟩:=hrel;by_cases hlt:k<n
  ·have c0:=(H.out.cell k hlt).c0;obtain rfl:=H.out.addr (by omega);by_cases he:(L.getD k kv0).key.name=nm
   ·have HF:Hid (Lm (L.map KV.key) nm 0=(k:Int)):=by
     have:=zvo L nm k 0 (by rw[HL.out];exact hlt) hp.out he;rw[Qq]at this;exact this
    rw[he]at c0;clear he hp;go_wp2;go_ret;exact⟨Pm HF.out.symm,rfl⟩
   ·have HP:Hid (∀j,j<k+1->(L.getD j kv0).key.name≠nm):=fun j hj=>by
     by_cases e:j=k
     ·subst e;exact he
     ·exact hp.out j (by omega)
    have hd:=Le he;generalize(L.getD k kv0).key.name=x at*;clear he hp;go_wp2;go_round
    case rel=>exact⟨k+1,by omega,by go_num,HP⟩
    case measure=>simp[intOf];omega
  ·have HF:Hid (Lm (L.map KV.key) nm 0= -1):=zqw L nm 0 (fun j hj=>hp.out j (by rw[HL.out]at hj;omega));clear hp;go_wp2;go_ret;exact⟨Pm HF.out.symm,rfl⟩
structure Lv (w:World) (v:Value) (wr:World) (L:List KV):Prop where
 own:Nu wr w.heap.size v L
 vals:∃β,Rising wr w.heap.size L wr.heap.size β
 bel:Bl w wr
theorem Lv.empty(w:World):Lv w (.slice (some ⟨w.heap.size,0,none⟩) 0 0) (w.alloc (.cells #[] 47)) []:=
 ⟨zv7 (Fc.new w 47 #[]) (Qc _),⟨_,zn1 _ _ _ (by simp)⟩,(Qb _ w).alloc (Qc _) _⟩
theorem Lv.db(h:Lv w v wr L):Fv wr w.heap.size v L:=⟨h.own,h.vals⟩
theorem Lv.more(h:Lv w v wr L)(hb:Bl wr w'):Lv w v w' L:=by
 obtain⟨β,hr⟩:=h.vals;exact⟨Fw h.own hb,⟨β,(hr.bw hb).up hb.size⟩,h.bel.trans (hb.mono h.bel.size)⟩
theorem Lv.push{w3:World}{k:Ke}{p1:Option Addr}{d1:Nat}{p2:Option Addr}{d2:Nat}{p3:Option Addr}{d3:Nat}(h:Lv w v wr L)(hb:Bl wr w3)(hv:VOwn w3 wr.heap.size k.val (.slice p1 k.val.ia.length d1) (.slice p2 k.val.pj.length d2) (.slice p3 k.val.rq.length d3))(hn:L.length<=1048576):
  ∃v' w5,(Builtin.append_ #[24,24] 24 #[v,.slice (some ⟨w3.heap.size,0,none⟩) 1 1]).run prog (w3.alloc (.cells (kC k.name k.val.kind k.val.text (.slice p1 k.val.ia.length d1) (.slice p2 k.val.pj.length d2) (.slice p3 k.val.rq.length d3) k.due) 47))=.ok v' w5/\Lv w v' w5 (L++ [⟨k,.slice p1 k.val.ia.length d1,.slice p2 k.val.pj.length d2,.slice p3 k.val.rq.length d3⟩]):=by
 have hm:=h.more hb;obtain⟨v',w5,Ga,o5,b5,g5⟩:=ya8 (w:=w3) (B:=w.heap.size) (V:=v) (L:=L) k p1 p2 p3 k.val.ia.length d1 k.val.pj.length d2 k.val.rq.length d3 hm.own hn hm.bel.size;obtain⟨β,hr⟩:=h.vals;have kp:=zpo hm.own g5;have r3:=(hr.bw hb).kept kp;have v5:=Wf hv kp;refine⟨v',w5,Ga,o5,⟨_,r3.snoc (y:=⟨k,.slice p1 k.val.ia.length d1,.slice p2 k.val.pj.length d2,.slice p3 k.val.rq.length d3⟩) v5 (Qj hb.size g5.size) fun g hu=>?_⟩,hm.bel.trans b5⟩;rcases hu with hu|hu|hu
 ·exact(Hf v5.ia hu).2
 ·exact(Hf v5.pj hu).2
 ·exact(Hf v5.rq hu).2
def N0 (w:World) (ks:List Ke) (e:Ending) (w':World):Prop:=∃v L,e= .returned v/\L.map KV.key=ks/\Fv w' w.heap.size v L/\Bl w w'
def G5 (ks:List Ke) (nm:ByteArray):List Ke:=ks.filter fun k=>!decide (k.name=nm)
theorem zme(p:Ke->Bool)(L:List KV)(k:Nat)(h:k<L.length):((L.take (k+1)).map KV.key).filter p=((L.take k).map KV.key).filter p++(if p (L.getD k kv0).key=true then[(L.getD k kv0).key] else[]):=by
 rw[Qo h,List.map_append,List.filter_append];congr 1;rw[show(L.getD k kv0)=L[k] by rw[Qa,Qd h];rfl];simp[List.filter_cons]
theorem Eu(a:Option Addr)(b n c:Nat)(L:List KV)(nm:ByteArray)(w:World)(h:Th w a b n L)(hn:n<=1048576):
  Calls prog 143 #[.slice a n c,.string nm] w (N0 w (G5 (L.map KV.key) nm)):=by
 have H:Hid (Th w a b n L):=h;have HL:Hid (L.length=n):=h.ks.len;obtain⟨G,hG⟩:∃G,G5 (L.map KV.key) nm=G:=⟨_,rfl⟩;have HG:Hid (G5 (L.map KV.key) nm=G):=hG;rw[hG];clear h hG;go_enter func143,ntmps143;go_wp2;go_loopw [5,6] (fun v i wr=>∃(k:Nat) (M:List KV),k<=n/\i=.int .i64 k/\M.length<=k/\Hid (M.map KV.key=G5 ((L.take k).map KV.key) nm)/\Hid (Lv w v wr M)) (fun _ i _=>n-(intOf i).toNat)
 case atStart=>exact⟨0,[],by omega,rfl,by simp,rfl,Lv.empty w⟩
 case round=>
  obtain⟨k,M,hk,rfl,Gg,hM,hI⟩:=hrel;have bk:=hI.out.bel;by_cases hlt:k<n
  ·have HW:=H.out.bw bk;have hx:=HW.ks.cell k hlt;have hv:=HW.val k hlt;have q1:=HW.z1 k hlt;have q2:=HW.z2 k hlt;have q3:=HW.z3 k hlt;obtain rfl:=HW.ks.addr (by omega);have Ge:=zme (fun k=>!decide (k.name=nm)) L k (by rw[HL.out];exact hlt);have HC:Hid (Cp 102 #[kvV (L.getD k kv0)] wr (Tm wr (L.getD k kv0).key)):=Bd _ wr hv q1 q2 q3;have HN:Hid (G5 ((L.take (k+1)).map KV.key) nm=G5 ((L.take k).map KV.key) nm++(if(!decide ((L.getD k kv0).key.name=nm))=true then[(L.getD k kv0).key] else[])):=Ge;clear Ge HW hv q1 q2 q3;generalize L.getD k kv0=x at*;obtain⟨⟨xn,xv,xd⟩,vi,vp,vr⟩:=x;obtain⟨c0,c1,c2,c3,c4,c5,c6⟩:=hx;dsimp only at c0 c1 c2 c3 c4 c5 c6 HC HN;by_cases he:xn=nm
   ·have Gc:Hid (M.map KV.key=G5 ((L.take (k+1)).map KV.key) nm):=by unfold Hid;rw[HN.out,Qe he,hM.out];simp
    subst he;clear HN HC c1 c2 c3 c4 c5 c6;go_wp2;go_roundw
    case rel=>exact⟨k+1,M,by omega,by go_num,by omega,Gc,hI⟩
    case measure=>simp[intOf];omega
   ·have Gc:Hid ((M.map KV.key)++ [⟨xn,xv,xd⟩]=G5 ((L.take (k+1)).map KV.key) nm):=by unfold Hid;rw[HN.out,Qf he,hM.out];simp
    have hd:=Le he;clear HN he;go_wp2_with fail;refine HC.out.mono ?_;rintro e w3⟨p1,d1,p2,d2,p3,d3,rfl,o3,b3⟩;obtain⟨v',w5,Ga,Gd⟩:=hI.out.push b3 o3 (by omega);have Gb:Hid _:=Ga;have Gf:Hid _:=Gd;clear Ga Gd o3 hI c0 c1 c2 c3 c4 c5 c6 HC;dsimp only at Gb Gf;generalize xv.ia.length=n1,xv.pj.length=n2,xv.rq.length=n3 at*;go_wp2_with (at_builtin;refine wpList_append_run rfl _ _ 24 rfl rfl rfl Gb.out ?_);exact⟨⟨k+1,_,by omega,by go_num,by rw[Qi,List.length_singleton];omega,by rw[List.map_append];exact Gc,Gf⟩,by simp[intOf];omega⟩
  ·obtain rfl:k=n:=by omega
   have e1:L.take k=L:=List.take_of_length_le (by rw[HL.out];exact Qc _);have HE:Hid (N0 w G (.returned u5) wr):=by
    refine⟨u5,M,rfl,?_,hI.out.db,bk⟩;rw[hM.out,e1];exact HG.out
   clear hM hI e1;go_wp2;go_ret;exact HE.out
def Hs (now:Int) (k:Ke):Bool:=decide (k.due=0)||decide (now<k.due)
def Hb (ks:List Ke) (now:Int):List Ke:=ks.filter (Hs now)
theorem E9(a:Option Addr)(b n c:Nat)(L:List KV)(now:Int)(w:World)(h:Th w a b n L)(hn:n<=1048576):
  Calls prog 55 #[.slice a n c,.int .i64 now] w (N0 w (Hb (L.map KV.key) now)):=by
 have H:Hid (Th w a b n L):=h;have HL:Hid (L.length=n):=h.ks.len;obtain⟨G,hG⟩:∃G,Hb (L.map KV.key) now=G:=⟨_,rfl⟩;have HG:Hid (Hb (L.map KV.key) now=G):=hG;rw[hG];clear h hG;go_enter func55,ntmps55;go_wp2;go_loopw [5,6] (fun v i wr=>∃(k:Nat) (M:List KV),k<=n/\i=.int .i64 k/\M.length<=k/\Hid (M.map KV.key=Hb ((L.take k).map KV.key) now)/\Hid (Lv w v wr M)) (fun _ i _=>n-(intOf i).toNat)
 case atStart=>exact⟨0,[],by omega,rfl,by simp,rfl,Lv.empty w⟩
 case round=>
  obtain⟨k,M,hk,rfl,Gi,hM,hI⟩:=hrel;have bk:=hI.out.bel;by_cases hlt:k<n
  ·have HW:=H.out.bw bk;have hx:=HW.ks.cell k hlt;have hv:=HW.val k hlt;have q1:=HW.z1 k hlt;have q2:=HW.z2 k hlt;have q3:=HW.z3 k hlt;obtain rfl:=HW.ks.addr (by omega);have HC:Hid (Cp 102 #[kvV (L.getD k kv0)] wr (Tm wr (L.getD k kv0).key)):=Bd _ wr hv q1 q2 q3;have HN:Hid (Hb ((L.take (k+1)).map KV.key) now=Hb ((L.take k).map KV.key) now++(if Hs now (L.getD k kv0).key=true then[(L.getD k kv0).key] else[])):=zme (Hs now) L k (by rw[HL.out];exact hlt);clear HW hv q1 q2 q3;generalize L.getD k kv0=x at*;obtain⟨⟨xn,xv,xd⟩,vi,vp,vr⟩:=x;obtain⟨c0,c1,c2,c3,c4,c5,c6⟩:=hx;dsimp only at c0 c1 c2 c3 c4 c5 c6 HC HN;have Gc:Hid (Hs now ⟨xn,xv,xd⟩=(decide (xd=0)||decide (now<xd))):=rfl;by_cases hz:xd=0
   ·have Ge:Hid ((M.map KV.key)++ [⟨xn,xv,xd⟩]=Hb ((L.take (k+1)).map KV.key) now):=by unfold Hid;rw[HN.out,Gc.out,Qe hz,hM.out];simp
    subst hz;clear HN Gc;go_wp2_with fail;refine HC.out.mono ?_;rintro e w3⟨p1,d1,p2,d2,p3,d3,rfl,o3,b3⟩;obtain⟨v',w5,Ga,Gd⟩:=hI.out.push b3 o3 (by omega);have Gb:Hid _:=Ga;have Gf:Hid _:=Gd;clear Ga Gd o3 hI c0 c1 c2 c3 c4 c5 c6 HC;dsimp only at Gb Gf;generalize xv.ia.length=n1,xv.pj.length=n2,xv.rq.length=n3 at*;go_wp2_with (at_builtin;refine wpList_append_run rfl _ _ 24 rfl rfl rfl Gb.out ?_);exact⟨⟨k+1,_,by omega,by go_num,by rw[Qi,List.length_singleton];omega,by rw[List.map_append];exact Ge,Gf⟩,by simp[intOf];omega⟩
   ·have Gh:(xd==0)=false:=by simpa using hz
    by_cases hlt2:now<xd
    ·have Ge:Hid ((M.map KV.key)++ [⟨xn,xv,xd⟩]=Hb ((L.take (k+1)).map KV.key) now):=by unfold Hid;rw[HN.out,Gc.out,Qe hlt2,hM.out];simp
     have Gg:decide (now<xd)=true:=Qe hlt2;clear HN Gc;go_wp2_with fail;refine HC.out.mono ?_;rintro e w3⟨p1,d1,p2,d2,p3,d3,rfl,o3,b3⟩;obtain⟨v',w5,Ga,Gd⟩:=hI.out.push b3 o3 (by omega);have Gb:Hid _:=Ga;have Gf:Hid _:=Gd;clear Ga Gd o3 hI c0 c1 c2 c3 c4 c5 c6 HC;dsimp only at Gb Gf;generalize xv.ia.length=n1,xv.pj.length=n2,xv.rq.length=n3 at*;go_wp2_with (at_builtin;refine wpList_append_run rfl _ _ 24 rfl rfl rfl Gb.out ?_);exact⟨⟨k+1,_,by omega,by go_num,by rw[Qi,List.length_singleton];omega,by rw[List.map_append];exact Ge,Gf⟩,by simp[intOf];omega⟩
    ·have Ge:Hid (M.map KV.key=Hb ((L.take (k+1)).map KV.key) now):=by unfold Hid;rw[HN.out,Gc.out,Qf hz,Qf hlt2,hM.out];simp
     have Gg:decide (now<xd)=false:=Qf hlt2;clear HN Gc HC c0 c1 c2 c3 c4 c5;go_wp2;go_roundw
     case rel=>exact⟨k+1,M,by omega,by go_num,by omega,Ge,hI⟩
     case measure=>simp[intOf];omega
  ·obtain rfl:k=n:=by omega
   have e1:L.take k=L:=List.take_of_length_le (by rw[HL.out];exact Qc _);have HE:Hid (N0 w G (.returned u5) wr):=by
    refine⟨u5,M,rfl,?_,hI.out.db,bk⟩;rw[hM.out,e1];exact HG.out
   clear hM hI e1;go_wp2;go_ret;exact HE.out
def geB (x k:Ke):Bool:=!Op.bytesLess x.name.toList k.name.toList
def Lo (k:Ke) (s:List Ke×Bool) (x:Ke):List Ke×Bool:=
 if x.name=k.name then (if (!s.2&&geB x k)=true then (s.1++ [k],true) else s)
 else (if (!s.2&&geB x k)=true then (s.1++ [k]++ [x],true) else (s.1++ [x],s.2))
def stS (k:Ke) (ks:List Ke):List Ke×Bool:=ks.foldl (Lo k) ([],false)
def G0 (ks:List Ke) (k:Ke):List Ke:=if (stS k ks).2=true then (stS k ks).1 else (stS k ks).1++ [k]
theorem yf5(k:Ke)(L:List KV)(i:Nat)(h:i<L.length):stS k ((L.take (i+1)).map KV.key)=Lo k (stS k ((L.take i).map KV.key)) (L.getD i kv0).key:=by
 unfold stS;rw[Qo h,List.map_append,List.foldl_append];rw[show(L.getD i kv0)=L[i] by rw[Qa,Qd h];rfl];rfl
theorem Ep(a:Option Addr)(b n c:Nat)(L:List KV)(x:KV)(w:World)(h:Th w a b n L)(hx:VRd w x.key.val x.vi x.vp x.vr)(s1:x.key.val.ia.length<=1048577)(s2:x.key.val.pj.length<=1048577)(s3:x.key.val.rq.length<=1048577)(hn:n<=500000):
  Calls prog 79 #[.slice a n c,kvV x] w (N0 w (G0 (L.map KV.key) x.key)):=by
 obtain⟨kk,vi,vp,vr⟩:=x;dsimp only at s1 s2 s3;show Calls prog 79 #[.slice a n c,.agg (kC kk.name kk.val.kind kk.val.text vi vp vr kk.due)] w (N0 w (G0 (L.map KV.key) kk));obtain⟨wB,Kc,Ka,b0,r0⟩:=boxed w (kC kk.name kk.val.kind kk.val.text vi vp vr kk.due) 47;have z0:wB.heap.size=w.heap.size+1:=by rw[<-Kc];simp
 have H:Hid (∀W,Bl wB W->Th W a b n L):=fun W hb=>h.bw (b0.trans (hb.mono b0.size));have HL:Hid (L.length=n):=h.ks.len;have Kh:Hid (0<n->a=some ⟨b,0,none⟩):=h.ks.addr;have HK:Hid (∀W,Bl wB W->Cp 102 #[.agg (kC kk.name kk.val.kind kk.val.text vi vp vr kk.due)] W (Tm W kk)):=fun W hb=>Bd ⟨kk,vi,vp,vr⟩ W (hx.bw (b0.trans (hb.mono b0.size))) s1 s2 s3;have Gg:Hid (∀W,Bl wB W->W.cell? ⟨w.heap.size,0,none⟩=some (.string kk.name)/\W.cell? ⟨w.heap.size,1,none⟩=some (.int .i64 kk.val.kind)/\W.cell? ⟨w.heap.size,2,none⟩=some (.string kk.val.text)/\W.cell? ⟨w.heap.size,3,none⟩=some vi/\W.cell? ⟨w.heap.size,4,none⟩=some vp/\W.cell? ⟨w.heap.size,5,none⟩=some vr/\W.cell? ⟨w.heap.size,6,none⟩=some (.int .i64 kk.due)):=fun W hb=>F6 (r0.bw hb r0.lt);have Kf:Hid (Lv wB (.slice (some ⟨w.heap.size+1,0,none⟩) 0 0) (wB.alloc (.cells #[] 47)) []):=by
  have:=Lv.empty wB;rw[z0]at this;exact this
 have Gj:Hid (∀v wr M,Lv wB v wr M->M.map KV.key=G0 (L.map KV.key) kk->N0 w (G0 (L.map KV.key) kk) (.returned v) wr):=fun v wr M hI hM=>⟨v,M,rfl,hM,hI.db.le (by omega),b0.trans (hI.bel.mono b0.size)⟩;have Kb:Hid (G0 (L.map KV.key) kk=if(stS kk (L.map KV.key)).2=true then(stS kk (L.map KV.key)).1 else(stS kk (L.map KV.key)).1++ [kk]):=rfl;generalize G0 (L.map KV.key) kk=G at*;clear h hx Kc r0 s1 s2 s3;go_enter func79,ntmps79;go_wp2_with fail;rw[Ka.out];go_loopw [5,6,7] (fun v d i wr=>∃(k:Nat) (M:List KV) (dn:Bool),k<=n/\i=.int .i64 k/\d=.bool dn/\M.length<=2*k/\Hid (stS kk ((L.take k).map KV.key)=(M.map KV.key,dn))/\Hid (Lv wB v wr M)) (fun _ _ i _=>n-(intOf i).toNat)
 case atStart=>exact⟨0,[],false,by omega,rfl,rfl,by simp,rfl,Kf⟩
 case round=>
  obtain⟨k,M,dn,hk,rfl,rfl,Kp,hM,hI⟩:=hrel;have bk:=hI.out.bel;have sk:=bk.size;clear Kf Ka;by_cases hlt:k<n
  ·have HW:=H.out wr bk;have Kj:=HW.ks.cell k hlt;have Ki:=HW.ks.low (by omega);obtain rfl:=Kh.out (by omega);have HX:Hid (∀W,Bl wB W->Cp 102 #[kvV (L.getD k kv0)] W (Tm W (L.getD k kv0).key)):=fun W hb=>Bd _ W ((H.out W hb).val k hlt) (HW.z1 k hlt) (HW.z2 k hlt) (HW.z3 k hlt);have Gp:Hid (∀W,Bl wB W->Ck W b (k*7) (L.getD k kv0)):=fun W hb=>(H.out W hb).ks.cell k hlt;have HN:Hid (stS kk ((L.take (k+1)).map KV.key)=Lo kk (M.map KV.key,dn) (L.getD k kv0).key):=by unfold Hid;rw[yf5 kk L k (by rw[HL.out];exact hlt),hM.out]
   clear HW Kj hM;generalize L.getD k kv0=x at*;obtain⟨⟨xn,xv,xd⟩,xi,xp,xr⟩:=x;dsimp only at HN HX;have Gk:Hid (∀W,Bl wB W->Cp 102 #[.agg (kC xn xv.kind xv.text xi xp xr xd)] W (Tm W ⟨xn,xv,xd⟩)):=HX.out;have Gc:Hid (∀W,Bl wB W->W.cell? ⟨b,k*7,none⟩=some (.string xn)/\W.cell? ⟨b,k*7+1,none⟩=some (.int .i64 xv.kind)/\W.cell? ⟨b,k*7+2,none⟩=some (.string xv.text)/\W.cell? ⟨b,k*7+3,none⟩=some xi/\W.cell? ⟨b,k*7+4,none⟩=some xp/\W.cell? ⟨b,k*7+5,none⟩=some xr/\W.cell? ⟨b,k*7+6,none⟩=some (.int .i64 xd)):=fun W hb=>⟨(Gp.out W hb).c0,(Gp.out W hb).c1,(Gp.out W hb).c2,(Gp.out W hb).c3,(Gp.out W hb).c4,(Gp.out W hb).c5,(Gp.out W hb).c6⟩;have Ko:(0:Int)<=(k:Int):=by omega
   have Kl:(k:Int)<(n:Int):=by omega
   have Gy:Hid (geB ⟨xn,xv,xd⟩ kk=!Op.bytesLess xn.toList kk.name.toList):=rfl;clear HX Gp;have Kn:=bk;cases dn with
   |true=>
    go_wp2;go_quiet ((fail));have Gq:Lv wB u5 (wr.drewN nq) M:=hI.out.more (Hp.below_drewN wr nq);have Gx:Bl wr (wr.drewN nq):=Hp.below_drewN wr nq;have Gd:Bl wB (wr.drewN nq):=bk.trans (Gx.mono sk);generalize wr.drewN nq=w4 at*;go_wp2;by_cases he:xn=kk.name
    ·have Ge:Hid (stS kk ((L.take (k+1)).map KV.key)=(M.map KV.key,true)):=by unfold Hid;rw[HN.out];unfold Lo;rw[if_pos he];rfl
     obtain⟨c0,_,_,_,_,_,_⟩:=Gc.out w4 Gd;obtain⟨e0,_,_,_,_,_,_⟩:=Gg.out w4 Gd;rw[he]at c0;clear he HN Gk;go_quiet ((fail));have Gf:Hid _:=Lv.more Gq (Hp.below_drewN w4 nq);generalize w4.drewN nq=w7 at*;clear c0 e0;go_wp2;go_roundw
     case rel=>exact⟨k+1,_,_,by omega,by go_num,rfl,by omega,Ge,Gf⟩
     case measure=>simp[intOf];omega
    ·have Ge:Hid (∀y:KV,y.key=⟨xn,xv,xd⟩->stS kk ((L.take (k+1)).map KV.key)=((M++ [y]).map KV.key,true)):=by
      intro y hy;rw[HN.out];unfold Lo;rw[if_neg he];simp[hy]
     obtain⟨c0,_,_,_,_,_,_⟩:=Gc.out w4 Gd;obtain⟨e0,_,_,_,_,_,_⟩:=Gg.out w4 Gd;have hd:=Le he;clear he HN;go_quiet ((fail));have bq:=Hp.below_drewN w4 nq;have Gm:=Gd.trans (bq.mono (by have:=(Gd).size;omega));have Gf:Hid _:=Lv.more Gq bq;generalize w4.drewN nq=w7 at*;clear c0 e0;obtain⟨c0,c1,c2,c3,c4,c5,c6⟩:=Gc.out w7 Gm;go_wp2_with fail;refine(Gk.out w7 Gm).mono ?_;rintro e w8⟨p1,d1,p2,d2,p3,d3,rfl,o8,b8⟩;obtain⟨v9,w9,Ga,Gn⟩:=Gf.out.push b8 o8 (by omega);have Gb:Hid _:=Ga;have Gl:Hid _:=Gn;have Gv:Hid _:=Ge.out ⟨⟨xn,xv,xd⟩,.slice p1 xv.ia.length d1,.slice p2 xv.pj.length d2,.slice p3 xv.rq.length d3⟩ rfl;clear Ga Gn o8 c0 c1 c2 c3 c4 c5 c6 Gk Ge hd;try dsimp only at Gb
     try dsimp only at Gl
     generalize xv.ia.length=n1,xv.pj.length=n2,xv.rq.length=n3 at*;go_wp2_with (at_builtin;refine wpList_append_run rfl _ _ 24 rfl rfl rfl Gb.out ?_);exact⟨⟨k+1,_,_,by omega,by go_num,rfl,by simp only[Qi,List.length_singleton];omega,Gv,Gl⟩,by simp[intOf];omega⟩
   |false=>
    cases hge:geB ⟨xn,xv,xd⟩ kk with
    |false=>
     rw[Gy.out]at hge;have Gu:Op.bytesLess xn.toList kk.name.toList=true:=by simpa using hge
     have Gs:Hid (geB ⟨xn,xv,xd⟩ kk=false):=by unfold Hid;rw[Gy.out,Gu];rfl
     obtain⟨c0,_,_,_,_,_,_⟩:=Gc.out wr bk;obtain⟨e0,_,_,_,_,_,_⟩:=Gg.out wr bk;clear hge;go_wp2;go_quiet ((fail));have Gq:Lv wB u5 (wr.drewN nq) M:=hI.out.more (Hp.below_drewN wr nq);have Gx:Bl wr (wr.drewN nq):=Hp.below_drewN wr nq;have Gd:Bl wB (wr.drewN nq):=bk.trans (Gx.mono sk);generalize wr.drewN nq=w4 at*;clear c0 e0 Gu;go_wp2;by_cases he:xn=kk.name
     ·have Ge:Hid (stS kk ((L.take (k+1)).map KV.key)=(M.map KV.key,false)):=by unfold Hid;rw[HN.out];unfold Lo;rw[if_pos he];rw[Gs.out];rfl
      obtain⟨c0,_,_,_,_,_,_⟩:=Gc.out w4 Gd;obtain⟨e0,_,_,_,_,_,_⟩:=Gg.out w4 Gd;rw[he]at c0;clear he HN Gk;go_quiet ((fail));have Gf:Hid _:=Lv.more Gq (Hp.below_drewN w4 nq);generalize w4.drewN nq=w7 at*;clear c0 e0;go_wp2;go_roundw
      case rel=>exact⟨k+1,_,_,by omega,by go_num,rfl,by omega,Ge,Gf⟩
      case measure=>simp[intOf];omega
     ·have Ge:Hid (∀y:KV,y.key=⟨xn,xv,xd⟩->stS kk ((L.take (k+1)).map KV.key)=((M++ [y]).map KV.key,false)):=by
       intro y hy;rw[HN.out];unfold Lo;rw[if_neg he];rw[Gs.out];simp[hy]
      obtain⟨c0,_,_,_,_,_,_⟩:=Gc.out w4 Gd;obtain⟨e0,_,_,_,_,_,_⟩:=Gg.out w4 Gd;have hd:=Le he;clear he HN;go_quiet ((fail));have bq:=Hp.below_drewN w4 nq;have Gm:=Gd.trans (bq.mono (by have:=(Gd).size;omega));have Gf:Hid _:=Lv.more Gq bq;generalize w4.drewN nq=w7 at*;clear c0 e0;obtain⟨c0,c1,c2,c3,c4,c5,c6⟩:=Gc.out w7 Gm;go_wp2_with fail;refine(Gk.out w7 Gm).mono ?_;rintro e w8⟨p1,d1,p2,d2,p3,d3,rfl,o8,b8⟩;obtain⟨v9,w9,Ga,Gn⟩:=Gf.out.push b8 o8 (by omega);have Gb:Hid _:=Ga;have Gl:Hid _:=Gn;have Gv:Hid _:=Ge.out ⟨⟨xn,xv,xd⟩,.slice p1 xv.ia.length d1,.slice p2 xv.pj.length d2,.slice p3 xv.rq.length d3⟩ rfl;clear Ga Gn o8 c0 c1 c2 c3 c4 c5 c6 Gk Ge hd;try dsimp only at Gb
      try dsimp only at Gl
      generalize xv.ia.length=n1,xv.pj.length=n2,xv.rq.length=n3 at*;go_wp2_with (at_builtin;refine wpList_append_run rfl _ _ 24 rfl rfl rfl Gb.out ?_);exact⟨⟨k+1,_,_,by omega,by go_num,rfl,by simp only[Qi,List.length_singleton];omega,Gv,Gl⟩,by simp[intOf];omega⟩
    |true=>
     rw[Gy.out]at hge;have Gu:Op.bytesLess xn.toList kk.name.toList=false:=by simpa using hge
     have Gs:Hid (geB ⟨xn,xv,xd⟩ kk=true):=by unfold Hid;rw[Gy.out,Gu];rfl
     obtain⟨c0,_,_,_,_,_,_⟩:=Gc.out wr bk;obtain⟨e0,_,_,_,_,_,_⟩:=Gg.out wr bk;clear hge;go_wp2;go_quiet ((fail));have Gq:Lv wB u5 (wr.drewN nq) M:=hI.out.more (Hp.below_drewN wr nq);have Gx:Bl wr (wr.drewN nq):=Hp.below_drewN wr nq;have Gd:Bl wB (wr.drewN nq):=bk.trans (Gx.mono sk);generalize wr.drewN nq=w4 at*;clear c0 e0 Gu;obtain⟨e0,e1,e2,e3,e4,e5,e6⟩:=Gg.out w4 Gd;go_wp2_with fail;refine(HK.out w4 Gd).mono ?_;rintro e w3⟨p1,d1,p2,d2,p3,d3,rfl,o3,b3⟩;obtain⟨v',w5,Gi,Gt⟩:=Gq.push b3 o3 (by omega);have Gh:Hid _:=Gi;have Gw:Hid _:=Gt;have Gz:Hid ((M++ [(⟨kk,.slice p1 kk.val.ia.length d1,.slice p2 kk.val.pj.length d2,.slice p3 kk.val.rq.length d3⟩:KV)]).map KV.key=M.map KV.key++ [kk]):=by unfold Hid;rw[List.map_append];rfl
     have Km:(M++ [(⟨kk,.slice p1 kk.val.ia.length d1,.slice p2 kk.val.pj.length d2,.slice p3 kk.val.rq.length d3⟩:KV)]).length=M.length+1:=by simp
     clear Gi Gt o3 e0 e1 e2 e3 e4 e5 e6;try dsimp only at Gh
     try dsimp only at Gw
     generalize M++ [(⟨kk,.slice p1 kk.val.ia.length d1,.slice p2 kk.val.pj.length d2,.slice p3 kk.val.rq.length d3⟩:KV)]=M1 at*;generalize kk.val.ia.length=m1,kk.val.pj.length=m2,kk.val.rq.length=m3 at*;have Kd:=Gw.out.bel.size;go_wp2_with (at_builtin;refine wpList_append_run rfl _ _ 24 rfl rfl rfl Gh.out ?_);have Gr:=Gw.out.bel;by_cases he:xn=kk.name
     ·have Ge:Hid (stS kk ((L.take (k+1)).map KV.key)=(M1.map KV.key,true)):=by unfold Hid;rw[HN.out];unfold Lo;rw[if_pos he];rw[Gs.out];exact Prod.ext Gz.out.symm rfl
      obtain⟨c0,_,_,_,_,_,_⟩:=Gc.out w5 Gr;obtain⟨e0,_,_,_,_,_,_⟩:=Gg.out w5 Gr;rw[he]at c0;clear he HN Gk;go_quiet ((fail));have Gf:Hid _:=Lv.more Gw.out (Hp.below_drewN w5 nq);generalize w5.drewN nq=w7 at*;clear c0 e0;go_wp2;go_roundw
      case rel=>exact⟨k+1,_,_,by omega,by go_num,rfl,by omega,Ge,Gf⟩
      case measure=>simp[intOf];omega
     ·have Ge:Hid (∀y:KV,y.key=⟨xn,xv,xd⟩->stS kk ((L.take (k+1)).map KV.key)=((M1++ [y]).map KV.key,true)):=by
       intro y hy;rw[HN.out];unfold Lo;rw[if_neg he];rw[Gs.out];refine Prod.ext ?_ rfl;rw[List.map_append,Gz.out,List.map_cons,hy];rfl
      obtain⟨c0,_,_,_,_,_,_⟩:=Gc.out w5 Gr;obtain⟨e0,_,_,_,_,_,_⟩:=Gg.out w5 Gr;have hd:=Le he;clear he HN;go_quiet ((fail));have bq:=Hp.below_drewN w5 nq;have Gm:=Gr.trans (bq.mono (by have:=(Gr).size;omega));have Gf:Hid _:=Lv.more Gw.out bq;generalize w5.drewN nq=w7 at*;clear c0 e0;obtain⟨c0,c1,c2,c3,c4,c5,c6⟩:=Gc.out w7 Gm;go_wp2_with fail;refine(Gk.out w7 Gm).mono ?_;rintro e w8⟨p1,d1,p2,d2,p3,d3,rfl,o8,b8⟩;obtain⟨v9,w9,Ga,Gn⟩:=Gf.out.push b8 o8 (by omega);have Gb:Hid _:=Ga;have Gl:Hid _:=Gn;have Gv:Hid _:=Ge.out ⟨⟨xn,xv,xd⟩,.slice p1 xv.ia.length d1,.slice p2 xv.pj.length d2,.slice p3 xv.rq.length d3⟩ rfl;clear Ga Gn o8 c0 c1 c2 c3 c4 c5 c6 Gk Ge hd;try dsimp only at Gb
      try dsimp only at Gl
      generalize xv.ia.length=n1,xv.pj.length=n2,xv.rq.length=n3 at*;go_wp2_with (at_builtin;refine wpList_append_run rfl _ _ 24 rfl rfl rfl Gb.out ?_);exact⟨⟨k+1,_,_,by omega,by go_num,rfl,by simp only[Qi,List.length_singleton];omega,Gv,Gl⟩,by simp[intOf];omega⟩
  ·obtain rfl:k=n:=by omega
   have e1:L.take k=L:=List.take_of_length_le (by rw[HL.out];exact Qc _);rw[e1]at hM;cases dn with
   |true=>
    have HE:Hid (N0 w G (.returned u5) wr):=Gj.out u5 wr M hI.out (by rw[Kb.out,hM.out];rfl);clear hM hI e1 Gj;go_wp2;go_ret;exact HE.out
   |false=>
    have HE:Hid (∀v wr M',Lv wB v wr M'->M'.map KV.key=M.map KV.key++ [kk]->N0 w G (.returned v) wr):=fun v wr M' h1 h2=>Gj.out v wr M' h1 (by rw[h2,Kb.out,hM.out];rfl);clear hM e1 Gj;obtain⟨e0,e1,e2,e3,e4,e5,e6⟩:=Gg.out wr bk;go_wp2_with fail;refine(HK.out wr bk).mono ?_;rintro e w3⟨p1,d1,p2,d2,p3,d3,rfl,o3,b3⟩;obtain⟨v',w5,Gi,Gt⟩:=hI.out.push b3 o3 (by omega);have Gh:Hid _:=Gi;have HF:Hid (N0 w G (.returned v') w5):=HE.out v' w5 _ Gt (by rw[List.map_append];rfl);clear Gi Gt o3 hI e0 e1 e2 e3 e4 e5 e6 HK HE Gg;try dsimp only at Gh
    generalize kk.val.ia.length=n1,kk.val.pj.length=n2,kk.val.rq.length=n3 at*;go_wp2_with (at_builtin;refine wpList_append_run rfl _ _ 24 rfl rfl rfl Gh.out ?_);go_ret;exact HF.out
end
end Go.Proofs.YtokafonppgppdaaGreatDoor
