import Derived.Test.YtokafonppgppdaaGreatDoorC6
import Derived.Maps.Ext
import Derived.Lib.SlMapFilter
import Derived.Shelf.SlIter.Nil
import Derived.Shelf.SortM.Plain
import Derived.Shelf.SortM.SortNone
set_option maxHeartbeats 8000000
set_option maxRecDepth 100000
namespace Go.Proofs.YtokafonppgppdaaGreatDoor
namespace Ri
open Tryz
open Go.RowKit Go.Maps
variable {v:Value} {w w':World} {B A o n c:Nat} {a:Option Addr} {T:TypeId} {C:Array Value}
structure Du where
 nm:ByteArray
 kd:Int
 tx:ByteArray
 a1:Option Addr
 n1:Nat
 c1:Nat
 a2:Option Addr
 n2:Nat
 c2:Nat
 a3:Option Addr
 n3:Nat
 c3:Nat
 due:Int
abbrev Cf (x:Du):Array Value:=kC x.nm x.kd x.tx (.slice x.a1 x.n1 x.c1) (.slice x.a2 x.n2 x.c2) (.slice x.a3 x.n3 x.c3) x.due
abbrev Tb (x:Du):Value:= .agg (Cf x)
def RK (v:Value):Option (DataW Value×List MemPlace):=
 match v with
 | .agg cs=> (match cs.toList with
  | [.string _,.int .i64 _,.string _,.slice _ _ _,.slice _ _ _,.slice _ _ _,.int .i64 _]=>some (.held v,[])
  |_=>none)
 |_=>none
theorem ykg(x:Du):RK (Tb x)=some (.held (Tb x),[]):=rfl
theorem B6{y:DataW Value×List MemPlace}(h:RK v=some y):∃x,v=Tb x/\y=(.held (Tb x),[]):=by
 unfold RK at h;split at h
 ·rename_i cs;split at h
  ·rename_i nm kd tx a1 n1 c1 a2 n2 c2 a3 n3 c3 due e;cases h;have e2:cs=Cf ⟨nm,kd,tx,a1,n1,c1,a2,n2,c2,a3,n3,c3,due⟩:=Array.toList_inj.1 e;subst e2;exact⟨_,rfl,rfl⟩
  ·cases h
 ·cases h
theorem Ot:Keyed prog 9:=string_keyed underlying9
def Me (now:Int) (due:Int):Bool:=decide (due≠0)&&decide (due<=now)
def Tf (now:Int) (_:Lit) (d:DataW Value):Bool:=
 match d with
 | .held (.agg cs)=> (match cs.toList with
  | [_,_,_,_,_,_,.int .i64 due]=>Me now due
  |_=>false)
 |_=>false
theorem yjp(key:Value)(x:Du)(p:Nat)(now:Int)(W:World)(hp:W.cell? ⟨p,0,none⟩=some (.int .i64 now))(hlt:p < W.heap.size):
  Calls prog 89 (#[key,Tb x]++ #[.pointer (some ⟨p,0,none⟩)]) W fun e w'=>e=.returned (.bool (Me now x.due))/\W.grownBy w' none:=by
 obtain⟨W0,Gb,Ga,b0,r0⟩:=boxed W (Cf x) 47;have p0:=(b0.cell (p:=⟨p,0,none⟩) hlt).trans hp;have c6:W0.cell? ⟨W.heap.size,6,none⟩=some (.int .i64 x.due):=r0.cell 6;have HG:Hid (W.grownBy W0 none):=⟨b0.os,b0.tape,b0.output,b0.size,fun k hk _=>b0.block k hk⟩;have HB:Hid (Me now x.due=(decide (x.due≠0) && decide (x.due<=now))):=rfl;obtain⟨nm,kd,tx,a1,n1,k1,a2,n2,k2,a3,n3,k3,due⟩:=x;dsimp only at c6 HB Ga ⊢;clear Gb b0 r0 hp;rw[HB.out];clear HB;by_cases hd:due=0
 ·subst hd;go_enter func89,ntmps89;go_upto_region 1 with fail;rw[Ga.out];go_wp2;go_ret;exact⟨rfl,HG.out⟩
 ·by_cases hn:due<=now
  ·rw[Qe (p:=due≠0) hd,Qe hn];go_enter func89,ntmps89;go_upto_region 1 with fail;rw[Ga.out];go_wp2;go_ret;exact⟨F0 (show(due !=0)=(true && true) by simpa using hd),HG.out⟩
  ·rw[Qe (p:=due≠0) hd,Qf hn];go_enter func89,ntmps89;go_upto_region 1 with fail;rw[Ga.out];go_wp2;go_ret;exact⟨rfl,HG.out⟩
open Go.RowKit Go.Sort
open Kk (Rk rk0 Fo G6 F7 encR)
theorem yex{T:List ByteArray}(hs:Fs w a A o n T)(hc:a=none->c=0)(hn:n<=1048577)(hB:B<=w.heap.size):
  ∃a' c' w',(Builtin.append_ #[25,25] 25 #[.slice none 0 0,.slice a n c]).run prog w=.ok (.slice a' n c') w'/\Fz w' B (.slice a' n c') T/\w.grownBy w' none:=by
 obtain⟨i0,hi,Gd,Gf,Gc⟩:=info_parts Tg;have hE:w.ownsRow B 9 1 (.slice none 0 0) 0 []:=World.ownsRow_nil _ _ _ _;have hl:=hs.len;cases a with
 |none=>
  obtain rfl:n=0:=by
   rcases Nat.eq_zero_or_pos n with h|h
   ·exact h
   ·have:=hs.addr h;cases this
  obtain rfl:=hc rfl;obtain rfl:T=[]:=List.eq_nil_of_length_eq_zero hl;exact⟨none,0,w,run_append_owned_none (P:=prog) w B 25 25 9 i0 1 underlying25 hi _ 0 [] hE,hE,Nl _ _⟩
 |some ad=>
  obtain⟨v',w',Gb,Ga,hg,_,_⟩:=run_append_own_at (P:=prog) w B 25 25 9 i0 _ 1 16 underlying25 hi Gd Gf Gc rfl (by decide) (.slice none 0 0) 0 [] hE ad n c (G1 T) (by simp[G1,hl]) (fun j u hj=>by
   have Ge:j<n:=by
    have:=(List.getElem?_eq_some_iff.1 hj).1;simp[G1]at this;omega
   obtain rfl:ad=⟨A,o,none⟩:=Option.some.inj (hs.addr (by omega));rw[Addr.add_lit];have hc:=hs.cell j Ge;rw[hc];simp[G1]at hj;obtain⟨t,ht,rfl⟩:=hj;rw[Qa,ht];rfl) (fun u hu=>by simp[G1]at hu;obtain⟨t,_,rfl⟩:=hu;rfl) (by unfold maxLen;omega) (by omega) hB
  rw[Qq]at Ga;obtain⟨a',c',e⟩:=Fx Ga;subst e;refine⟨a',c',w',Gb,?_,hg⟩;unfold Fz;rw[hl];exact Ga
theorem zzm{T:List Pr}(hs:Li w a A n T)(hc:a=none->c=0)(hn:n<=1048577)(hB:B<=w.heap.size):
  ∃a' c' w',(Builtin.append_ #[42,42] 42 #[.slice none 0 0,.slice a n c]).run prog w=.ok (.slice a' n c') w'/\G3 w' B (.slice a' n c') T/\w.grownBy w' none:=by
 obtain⟨i0,hi,Ge,Gf,Gc⟩:=info_parts Ub;have hE:w.ownsRow B 145 2 (.slice none 0 0) 0 []:=World.ownsRow_nil _ _ _ _;have hl:=hs.len;cases a with
 |none=>
  obtain rfl:n=0:=by
   rcases Nat.eq_zero_or_pos n with h|h
   ·exact h
   ·have:=hs.addr h;cases this
  obtain rfl:=hc rfl;obtain rfl:T=[]:=List.eq_nil_of_length_eq_zero hl;exact⟨none,0,w,run_append_owned_none (P:=prog) w B 42 42 145 i0 2 underlying42 hi _ 0 [] hE,hE,Nl _ _⟩
 |some ad=>
  obtain⟨v',w',Gb,Ga,hg,_,_⟩:=run_append_own_at (P:=prog) w B 42 42 145 i0 _ 2 32 underlying42 hi Ge Gf Gc rfl (by decide) (.slice none 0 0) 0 [] hE ad n c (Fn T) (by rw[L3,hl]) (fun j u hj=>by
   have Gg:j<T.length*2:=by
    have:=(List.getElem?_eq_some_iff.1 hj).1;rwa[L3]at this
   obtain rfl:ad=⟨A,0,none⟩:=Option.some.inj (hs.addr (by omega));rw[Addr.add_lit,Qq];have Gd:j/2<T.length:=by omega
   obtain⟨f0,f1⟩:=Cd T (j/2) Gd;rcases Nat.mod_two_eq_zero_or_one j with hm|hm
   ·rw[show j/2*2=j by omega]at f0;have:=hs.c0 (j/2) (by omega);rw[show j/2*2=j by omega]at this;rw[this,<-hj,f0]
   ·rw[show j/2*2+1=j by omega]at f1;have:=hs.c1 (j/2) (by omega);rw[show j/2*2+1=j by omega]at this;rw[this,<-hj,f1]) (fun u hu=>by
   unfold Fn Uy at hu;simp at hu;obtain⟨x,y,_,h|h⟩:=hu<;> (subst h;rfl)) (by unfold maxLen;omega) (by omega) hB
  rw[Qq]at Ga;obtain⟨a',c',e⟩:=Fx Ga;subst e;refine⟨a',c',w',Gb,?_,hg⟩;unfold G3;rw[hl];exact Ga
theorem yar{T:List Rk}(hs:F7 w a A o n T)(hc:a=none->c=0)(hn:n<=1048577)(hB:B<=w.heap.size):
  ∃a' c' w',(Builtin.append_ #[43,43] 43 #[.slice none 0 0,.slice a n c]).run prog w=.ok (.slice a' n c') w'/\Fo w' B (.slice a' n c') T/\w.grownBy w' none:=by
 obtain⟨i0,hi,Ge,Gf,Gc⟩:=info_parts Kk.U5;have hE:w.ownsRow B 147 2 (.slice none 0 0) 0 []:=World.ownsRow_nil _ _ _ _;have hl:=hs.len;cases a with
 |none=>
  obtain rfl:n=0:=by
   rcases Nat.eq_zero_or_pos n with h|h
   ·exact h
   ·have:=hs.addr h;cases this
  obtain rfl:=hc rfl;obtain rfl:T=[]:=List.eq_nil_of_length_eq_zero hl;exact⟨none,0,w,run_append_owned_none (P:=prog) w B 43 43 147 i0 2 underlying43 hi _ 0 [] hE,hE,Nl _ _⟩
 |some ad=>
  obtain⟨v',w',Gb,Ga,hg,_,_⟩:=run_append_own_at (P:=prog) w B 43 43 147 i0 _ 2 24 underlying43 hi Ge Gf Gc rfl (by decide) (.slice none 0 0) 0 [] hE ad n c (G6 T) (by rw[Cc,hl]) (fun j u hj=>by
   have Gg:j<T.length*2:=by
    have:=(List.getElem?_eq_some_iff.1 hj).1;rwa[Cc]at this
   obtain rfl:ad=⟨A,o,none⟩:=Option.some.inj (hs.addr (by omega));rw[Addr.add_lit];have Gd:j/2<T.length:=by omega
   obtain⟨f0,f1⟩:=At T (j/2) Gd;have hx:=hs.cell (j/2) (by omega);rcases Nat.mod_two_eq_zero_or_one j with hm|hm
   ·rw[show j/2*2=j by omega]at f0;have:=hx.c0;rw[show j/2*2=j by omega]at this;rw[this,<-hj,f0]
   ·rw[show j/2*2+1=j by omega]at f1;have:=hx.c1;rw[show o+j/2*2+1=o+j by omega]at this;rw[this,<-hj,f1]) (fun u hu=>by
   unfold G6 encR at hu;simp at hu;obtain⟨x,_,h|h⟩:=hu<;> (subst h;rfl)) (by unfold maxLen;omega) (by omega) hB
  rw[Qq]at Ga;obtain⟨a',c',e⟩:=Fx Ga;subst e;refine⟨a',c',w',Gb,?_,hg⟩;unfold Fo;rw[hl];exact Ga
theorem wpList_append_run'{P:Program}{ops:Array Oper}{rest:List Oper}{o:Oper}{a:Act}{Q:Exit->Act->World->Prop}(hgd:o.guard=none)(s x:Operand)(t:TypeId)
 (ho:o.op=.call { callee:=.builtin .append,args:= #[s,x],argTypes:= #[t,t] }){v y v':Value}(hs:a.eval s=v)(hx:a.eval x=y)(hr:(Builtin.append_ #[t,t] o.type #[v,y]).run P w=.ok v' w')
 (h:wpList P ops Q rest (a.put o.dst v') w'):wpList P ops Q (o::rest) a w:=
 wpList_plain hgd fun _ hK=>by
  unfold Oper.wp;simp[execOp,ho,resolve,invoke,builtin,hs,hx,hr,Result.andThen];exact hK _ _ h
section
variable (a:Option Addr)
theorem yis(A o n c:Nat)(T:List ByteArray)(w:World)(hs:Fs w a A o n T)(hc:a=none->c=0)(hn:n<=1048577):
  Calls prog 168 #[.slice a n c] w fun e w'=>∃a' c',e=.returned (.slice a' n c')/\Fz w' w.heap.size (.slice a' n c') T/\Bl w w':=by
 obtain⟨a',c',w1,Ga,ho,hg⟩:=yex (w:=w) (B:=w.heap.size) hs hc hn (Qc _);have HB:Hid (Bl w w1):=⟨hg.os,hg.tape,hg.output,hg.size,fun k hk=>hg.block k hk (by simp)⟩;have HR:Hid ((Builtin.append_ #[25,25] 25 #[.slice none 0 0,.slice a n c]).run prog w=.ok (.slice a' n c') w1):=Ga;have HO:Hid (Fz w1 w.heap.size (.slice a' n c') T):=ho;clear hs hc Ga ho hg;go_enter func168,ntmps168;go_wp2_with (at_builtin;refine wpList_append_run' rfl _ _ 25 rfl rfl rfl HR.out ?_);go_ret;exact⟨a',c',rfl,HO.out,HB.out⟩
theorem yj1(A n c:Nat)(T:List Pr)(w:World)(hs:Li w a A n T)(hc:a=none->c=0)(hn:n<=1048577):
  Calls prog 169 #[.slice a n c] w fun e w'=>∃a' c',e=.returned (.slice a' n c')/\G3 w' w.heap.size (.slice a' n c') T/\Bl w w':=by
 obtain⟨a',c',w1,Ga,ho,hg⟩:=zzm (w:=w) (B:=w.heap.size) hs hc hn (Qc _);have HB:Hid (Bl w w1):=⟨hg.os,hg.tape,hg.output,hg.size,fun k hk=>hg.block k hk (by simp)⟩;have HR:Hid ((Builtin.append_ #[42,42] 42 #[.slice none 0 0,.slice a n c]).run prog w=.ok (.slice a' n c') w1):=Ga;have HO:Hid (G3 w1 w.heap.size (.slice a' n c') T):=ho;clear hs hc Ga ho hg;go_enter func169,ntmps169;go_wp2_with (at_builtin;refine wpList_append_run' rfl _ _ 42 rfl rfl rfl HR.out ?_);go_ret;exact⟨a',c',rfl,HO.out,HB.out⟩
theorem yjw(A o n c:Nat)(T:List Rk)(w:World)(hs:F7 w a A o n T)(hc:a=none->c=0)(hn:n<=1048577):
  Calls prog 170 #[.slice a n c] w fun e w'=>∃a' c',e=.returned (.slice a' n c')/\Fo w' w.heap.size (.slice a' n c') T/\Bl w w':=by
 obtain⟨a',c',w1,Ga,ho,hg⟩:=yar (w:=w) (B:=w.heap.size) hs hc hn (Qc _);have HB:Hid (Bl w w1):=⟨hg.os,hg.tape,hg.output,hg.size,fun k hk=>hg.block k hk (by simp)⟩;have HR:Hid ((Builtin.append_ #[43,43] 43 #[.slice none 0 0,.slice a n c]).run prog w=.ok (.slice a' n c') w1):=Ga;have HO:Hid (Fo w1 w.heap.size (.slice a' n c') T):=ho;clear hs hc Ga ho hg;go_enter func170,ntmps170;go_wp2_with (at_builtin;refine wpList_append_run' rfl _ _ 43 rfl rfl rfl HR.out ?_);go_ret;exact⟨a',c',rfl,HO.out,HB.out⟩
end
theorem Wh{W:World}{q j:Nat}{e:TypeId}{size:Nat}{u:Value}{xs:List Value}(h:W.ownsRow B e size v n xs)(hr:Fc W q T C)(hT:T≠e):(W.setCell ⟨q,j,none⟩ u).ownsRow B e size v n xs:=
 ownsRow_setCell_other h (fun e=>Hp.own_ne h hr hT e.symm) _
abbrev Ra (w:World) (v0 v1 v2 v3 v4 v5 v6:Value) (b:Nat):World:=((((((w.setCell ⟨b,0,none⟩ v0).setCell ⟨b,1,none⟩ v1).setCell ⟨b,2,none⟩ v2).setCell ⟨b,3,none⟩ v3).setCell ⟨b,4,none⟩ v4).setCell ⟨b,5,none⟩ v5).setCell ⟨b,6,none⟩ v6
theorem Dw(w:World)(v0 v1 v2 v3 v4 v5 v6:Value)(b k:Nat)(h:k≠b):(Ra w v0 v1 v2 v3 v4 v5 v6 b).heap[k]?=w.heap[k]?:=by
 have e:∀(w:World) (o:Nat) (v:Value),(w.setCell ⟨b,o,none⟩ v).heap[k]?=w.heap[k]?:=fun w o v=>Below.heap_setCell _ _ _ _ h;rw[e,e,e,e,e,e,e]
theorem Eh{w1:World}(h:Below B w w1)(v0 v1 v2 v3 v4 v5 v6:Value)(b:Nat)(hb:B<=b):Below B w (Ra w1 v0 v1 v2 v3 v4 v5 v6 b):=
 ((((((h.setCell hb _).setCell hb _).setCell hb _).setCell hb _).setCell hb _).setCell hb _).setCell hb _
abbrev z7:Array Value:= #[.string ⟨#[]⟩,.int .i64 0,.string ⟨#[]⟩,.slice none 0 0,.slice none 0 0,.slice none 0 0,.int .i64 0]
def Ak (w:World) (k:Ke) (e:Ending) (w':World):Prop:=
 ∃a1 c1 a2 c2 a3 c3,e= .returned (.agg (kC k.name k.val.kind k.val.text (.slice a1 k.val.ia.length c1) (.slice a2 k.val.pj.length c2) (.slice a3 k.val.rq.length c3) k.due))/\VOwn w' w.heap.size k.val (.slice a1 k.val.ia.length c1) (.slice a2 k.val.pj.length c2) (.slice a3 k.val.rq.length c3)/\Bl w w'
theorem ydx(k:Ke)(vi vp vr:Value)(w:World)(h:VRd w k.val vi vp vr)(h1:k.val.ia.length<=1048577)(h2:k.val.pj.length<=1048577)(h3:k.val.rq.length<=1048577):
  Calls prog 124 #[.agg (kC k.name k.val.kind k.val.text vi vp vr k.due)] w (Ak w k):=by
 obtain⟨⟨a1,A1,o1,c1,e1,s1,z1⟩,⟨a2,A2,c2,e2,s2,z2⟩,⟨a3,A3,o3,c3,e3,s3,z3⟩⟩:=h;subst e1 e2 e3;obtain⟨nm,⟨kd,tx,is,ps,rs⟩,due⟩:=k;dsimp only at s1 s2 s3 h1 h2 h3 ⊢;obtain⟨W0,Kx,Kw,b0,r0⟩:=boxed w (kC nm kd tx (.slice a1 is.length c1) (.slice a2 ps.length c2) (.slice a3 rs.length c3) due) 47;obtain⟨W1,Kv,Sg,b1,r1⟩:=boxed W0 (kC ⟨#[]⟩ 0 ⟨#[]⟩ (.slice none 0 0) (.slice none 0 0) (.slice none 0 0) 0) 47;obtain⟨W2,Sj,Sb,b2,r2⟩:=boxed W1 (vC kd tx (.slice a1 is.length c1) (.slice a2 ps.length c2) (.slice a3 rs.length c3)) 45;have q0:W0.heap.size=w.heap.size+1:=by rw[<-Kx];simp
 have q1:W1.heap.size=w.heap.size+2:=by rw[<-Kv];simp[q0]
 rw[q0]at r1;have hV:w.heap.size+1<W1.heap.size:=by omega
 have Gp:Bl w W1:=b0.trans (b1.mono b0.size);have Gx:Bl w W2:=Gp.trans (b2.mono Gp.size);have Gb:=r0.bw b1 r0.lt;have Gt:=Gb.bw b2 Gb.lt;have Gv:=r1.bw b2 r1.lt;have Km:Hid (Cp 168 #[.slice a1 is.length c1] W2 fun e w'=>∃a' c',e=.returned (.slice a' is.length c')/\Fz w' W2.heap.size (.slice a' is.length c') is/\Bl W2 w'):=yis a1 A1 o1 is.length c1 is W2 (Lb s1 Gx) z1 h1;have Se:Hid (∀W,Bl w W->Cp 169 #[.slice a2 ps.length c2] W fun e w'=>∃a' c',e=.returned (.slice a' ps.length c')/\G3 w' W.heap.size (.slice a' ps.length c') ps/\Bl W w'):=fun W hb=>yj1 a2 A2 ps.length c2 ps W (s2.bw hb) z2 h2;have Gz:Hid (∀W,Bl w W->Cp 170 #[.slice a3 rs.length c3] W fun e w'=>∃a' c',e=.returned (.slice a' rs.length c')/\Fo w' W.heap.size (.slice a' rs.length c') rs/\Bl W w'):=fun W hb=>yjw a3 A3 o3 rs.length c3 rs W (s3.bw hb) z3 h3
 have Gf:Hid (∀(W:World) (x1:Option Addr) (y1:Nat) (x2:Option Addr) (y2:Nat) (x3:Option Addr) (y3:Nat),Fz W w.heap.size (.slice x1 is.length y1) is->G3 W w.heap.size (.slice x2 ps.length y2) ps->Fo W w.heap.size (.slice x3 rs.length y3) rs->Bl w W->
   Ak w ⟨nm,⟨kd,tx,is,ps,rs⟩,due⟩ (.returned (.agg (kC nm kd tx (.slice x1 is.length y1) (.slice x2 ps.length y2) (.slice x3 rs.length y3) due))) W):=fun W x1 y1 x2 y2 x3 y3 p1 p2 p3 pb=>⟨x1,y1,x2,y2,x3,y3,rfl,⟨p1,p2,p3⟩,pb⟩
 have Gs:Hid (Bl w W2):=Gx;generalize hM:Ak w ⟨nm,⟨kd,tx,is,ps,rs⟩,due⟩=M at Gf ⊢;clear hM s1 s2 s3 Kx Kv Sj b0 b1 b2 Gp Gx r0 r1 z1 z2 z3 q0 q1;have k0:=Gb.cell 0;have k1:=Gb.cell 1;have k2:=Gb.cell 2;have k3:=Gb.cell 3;have k4:=Gb.cell 4;have k5:=Gb.cell 5;have k6:=Gb.cell 6;simp only[kC,Qm,Qk,Ql]at k0 k1 k2 k3 k4 k5 k6;generalize is.length=ni,ps.length=np,rs.length=nr at*;go_enter func124,ntmps124;go_upto_region 1 with fail;rw[Kw.out,Sg.out];clear Kw Sg;go_upto_region 2 with fail;rw[Sb.out];clear Sb k0 k1 k2 k3 k4 k5 k6 Gb;generalize W1.heap.size=V at*;have v2:=r2.cell 2;simp only[vC,Qm,Qk,Ql]at v2;go_wp2_with fail;refine Km.out.mono ?_;rintro e w3⟨x1,y1,rfl,o1,b3⟩;have Kc:=Gt.bw b3 Gt.lt;have Kf:=Gv.bw b3 Gv.lt;have Gk:=r2.bw b3 r2.lt;have Ky:Bl w w3:=Gs.out.trans (b3.mono Gs.out.size);have Gu:=Gs.out.size;have O1:=Go.Joins.ownsRow_le o1 (base':=w.heap.size) Gu;obtain⟨W4,Gg⟩:∃W4,w3.setCell ⟨V,2,none⟩ (.slice x1 ni y1)=W4:=⟨_,rfl⟩;have Sd:Hid (w3.setCell ⟨V,2,none⟩ (.slice x1 ni y1)=W4):=Gg;have Gm:Fc W4 V 45 (vC kd tx (.slice x1 ni y1) (.slice a2 np c2) (.slice a3 nr c3)):=by rw[<-Gg];exact Gk.set 2 _
 have Gr:Fc W4 w.heap.size 47 (kC nm kd tx (.slice a1 ni c1) (.slice a2 np c2) (.slice a3 nr c3) due):=by rw[<-Gg];exact(Below.heap_setCell _ _ _ _ (by simp only;omega)).trans Kc
 have Gy:Fc W4 (w.heap.size+1) 47 (kC ⟨#[]⟩ 0 ⟨#[]⟩ (.slice none 0 0) (.slice none 0 0) (.slice none 0 0) 0):=by rw[<-Gg];exact(Below.heap_setCell _ _ _ _ (by simp only;omega)).trans Kf
 have Kb:Fz W4 w.heap.size (.slice x1 ni y1) is:=by rw[<-Gg];exact Wh O1 Gk (by decide)
 have Gi:Bl w W4:=by rw[<-Gg];exact Ky.setCell (p:=⟨V,2,none⟩) (by simp only;omega) _
 have g2:=Gk.cell 2;have f2:=Gk.frozen 2;simp only[vC,Qm,Qk,Ql]at g2;clear Gg Gk Kc Kf O1 o1 b3 Ky Gt Gv r2 v2 Km;go_upto_region 3 with fail;rw[Sd.out];clear Sd g2 f2;have v3:=Gm.cell 3;simp only[vC,Qm,Qk,Ql]at v3;go_wp2_with fail;refine(Se.out W4 Gi).mono ?_;rintro e w5⟨x2,y2,rfl,o2,b5⟩;have Kj:=Gr.bw b5 Gr.lt;have Kd:=Gy.bw b5 Gy.lt;have Gh:=Gm.bw b5 Gm.lt;have Kz:=Fw Kb b5;have Sh:Bl w w5:=Gi.trans (b5.mono Gi.size);have O2:=Go.Joins.ownsRow_le o2 (base':=w.heap.size) Gi.size;obtain⟨W6,Gd⟩:∃W6,w5.setCell ⟨V,3,none⟩ (.slice x2 np y2)=W6:=⟨_,rfl⟩;have Sf:Hid (w5.setCell ⟨V,3,none⟩ (.slice x2 np y2)=W6):=Gd;have Gn:Fc W6 V 45 (vC kd tx (.slice x1 ni y1) (.slice x2 np y2) (.slice a3 nr c3)):=by rw[<-Gd];exact Gh.set 3 _
 have Gq:Fc W6 w.heap.size 47 (kC nm kd tx (.slice a1 ni c1) (.slice a2 np c2) (.slice a3 nr c3) due):=by rw[<-Gd];exact(Below.heap_setCell _ _ _ _ (by simp only;omega)).trans Kj
 have Gw:Fc W6 (w.heap.size+1) 47 (kC ⟨#[]⟩ 0 ⟨#[]⟩ (.slice none 0 0) (.slice none 0 0) (.slice none 0 0) 0):=by rw[<-Gd];exact(Below.heap_setCell _ _ _ _ (by simp only;omega)).trans Kd
 have Kl:Fz W6 w.heap.size (.slice x1 ni y1) is:=by rw[<-Gd];exact Wh Kz Gh (by decide)
 have Kn:G3 W6 w.heap.size (.slice x2 np y2) ps:=by rw[<-Gd];exact Wh O2 Gh (by decide)
 have Gl:Bl w W6:=by rw[<-Gd];exact Sh.setCell (p:=⟨V,3,none⟩) (by simp only;omega) _
 have g3:=Gh.cell 3;have f3:=Gh.frozen 3;simp only[vC,Qm,Qk,Ql]at g3;clear Gd Gh Kj Kd O2 o2 b5 Sh Gr Gy Gm v3 Se Kb Kz Gi;go_upto_region 4 with fail;rw[Sf.out];clear Sf g3 f3;have v4:=Gn.cell 4;simp only[vC,Qm,Qk,Ql]at v4;go_wp2_with fail;refine(Gz.out W6 Gl).mono ?_;rintro e w7⟨x3,y3,rfl,o3,b7⟩;have Kh:=Gq.bw b7 Gq.lt;have Sa:=Gw.bw b7 Gw.lt;have Ge:=Gn.bw b7 Gn.lt;have Kt:=Fw Kl b7;have Ka:=Fw Kn b7;have Kr:Bl w w7:=Gl.trans (b7.mono Gl.size);have O3:=Go.Joins.ownsRow_le o3 (base':=w.heap.size) Gl.size;obtain⟨W8,Gc⟩:∃W8,w7.setCell ⟨V,4,none⟩ (.slice x3 nr y3)=W8:=⟨_,rfl⟩;have Ko:Hid (w7.setCell ⟨V,4,none⟩ (.slice x3 nr y3)=W8):=Gc;have Kp:Fc W8 V 45 (vC kd tx (.slice x1 ni y1) (.slice x2 np y2) (.slice x3 nr y3)):=by rw[<-Gc];exact Ge.set 4 _
 have Si:Fc W8 w.heap.size 47 (kC nm kd tx (.slice a1 ni c1) (.slice a2 np c2) (.slice a3 nr c3) due):=by rw[<-Gc];exact(Below.heap_setCell _ _ _ _ (by simp only;omega)).trans Kh
 have Ga:Fc W8 (w.heap.size+1) 47 (kC ⟨#[]⟩ 0 ⟨#[]⟩ (.slice none 0 0) (.slice none 0 0) (.slice none 0 0) 0):=by rw[<-Gc];exact(Below.heap_setCell _ _ _ _ (by simp only;omega)).trans Sa
 have Kq:Fz W8 w.heap.size (.slice x1 ni y1) is:=by rw[<-Gc];exact Wh Kt Ge (by decide)
 have Ku:G3 W8 w.heap.size (.slice x2 np y2) ps:=by rw[<-Gc];exact Wh Ka Ge (by decide)
 have Sc:Fo W8 w.heap.size (.slice x3 nr y3) rs:=by rw[<-Gc];exact Wh O3 Ge (by decide)
 have Ki:Bl w W8:=by rw[<-Gc];exact Kr.setCell (p:=⟨V,4,none⟩) (by simp only;omega) _
 have g4:=Ge.cell 4;have f4:=Ge.frozen 4;simp only[vC,Qm,Qk,Ql]at g4;clear Gc Ge Kh Sa O3 o3 b7 Kr Gq Gw Gn v4 Gz Kl Kt Kn Ka Gl;go_upto_region 5 with fail;rw[Ko.out];clear Ko g4 f4;obtain⟨k0,k1,k2,k3,k4,k5,k6⟩:=F6 Si;obtain⟨v0,v1,v2,v3,v4⟩:=Nh Kp;obtain⟨m0,m1,m2,m3,m4,m5,m6⟩:=F6 Ga;have f0:=Ga.frozen 0;have f1:=Ga.frozen 1;have f2:=Ga.frozen 2;have f3:=Ga.frozen 3;have f4:=Ga.frozen 4;have f5:=Ga.frozen 5;have f6:=Ga.frozen 6;have hz:∀{e size n u xs},47≠e->W8.ownsRow w.heap.size e size u n xs->(Ra W8 (.string nm) (.int .i64 kd) (.string tx) (.slice x1 ni y1) (.slice x2 np y2) (.slice x3 nr y3) (.int .i64 due) (w.heap.size+1)).ownsRow w.heap.size e size u n xs:=fun he hh=>Lt hh fun g hg=>Dw W8 _ _ _ _ _ _ _ _ g (fun eq=>Hp.own_ne hh Ga he (by rw[hg,eq]));have Gj:Fc (Ra W8 (.string nm) (.int .i64 kd) (.string tx) (.slice x1 ni y1) (.slice x2 np y2) (.slice x3 nr y3) (.int .i64 due) (w.heap.size+1)) (w.heap.size+1) 47 (kC nm kd tx (.slice x1 ni y1) (.slice x2 np y2) (.slice x3 nr y3) due):=by
  have:=((((((Ga.set 0 (.string nm)).set 1 (.int .i64 kd)).set 2 (.string tx)).set 3 (.slice x1 ni y1)).set 4 (.slice x2 np y2)).set 5 (.slice x3 nr y3)).set 6 (.int .i64 due);simpa using this
 obtain⟨g0,g1,g2,g3,g4,g5,g6⟩:=F6 Gj;have HE:Hid (M (.returned (.agg (kC nm kd tx (.slice x1 ni y1) (.slice x2 np y2) (.slice x3 nr y3) due))) (Ra W8 (.string nm) (.int .i64 kd) (.string tx) (.slice x1 ni y1) (.slice x2 np y2) (.slice x3 nr y3) (.int .i64 due) (w.heap.size+1))):=Gf.out _ x1 y1 x2 y2 x3 y3 (hz (by decide) Kq) (hz (by decide) Ku) (hz (by decide) Sc) (Eh Ki (.string nm) (.int .i64 kd) (.string tx) (.slice x1 ni y1) (.slice x2 np y2) (.slice x3 nr y3) (.int .i64 due) (w.heap.size+1) (by omega));clear Gf hz Gj Kq Ku Sc Ki Si Ga Kp;go_wp2;exact bodyPost_ret (v:=.agg (kC nm kd tx (.slice x1 ni y1) (.slice x2 np y2) (.slice x3 nr y3) due)) (by simp[results,results124,go_sem,g0,g1,g2,g3,g4,g5,g6]) rfl HE.out
theorem yhs{b p:Nat}(h:Fc w p T C)(hg:w.grownBy w' (some b))(hpb:p≠b):Fc w' p T C:=
 (hg.block p h.lt (fun e=>by cases e;exact hpb rfl)).trans h
theorem yk0(b n p:Nat)(now:Int)(D:DataW Value)(w:World)(hown:w.ownsMap prog 9 RK b n D)(hp:Fc w p 2 #[.int .i64 now])(hpb:p≠b):
  Calls prog 88 #[.map (some b),.func (.func 89) #[] #[.pointer (some ⟨p,0,none⟩)]] w fun e w'=>e=.returned (.tuple #[])/\w'.ownsMap prog 9 RK b n (Lib.deleteFuncD (Tf now) D)/\w.grownBy w' (some b):=by
 obtain⟨Gf,rfl,Gp,Ge⟩:=hown.entries Ot;have HP:Hid (∀W,w.grownBy W (some b)->Fc W p 2 #[.int .i64 now]):=fun W hg=>yhs hp hg hpb;clear hp;go_enter func88,ntmps88
 go_wp2_with (first
  |(at_range;refine wpList_range_own _ rfl _ 70 rfl 9 47 Ot underlying70 RK b n _ rfl hown ?_;intro w0 hrg0 hg0 hs0)
  |go_in)
 go_frame;go_loopw [8] (fun _ wr=>∃(Ga:Lit->Bool) (Gg:Nat),wr.ranges prog 9 RK b w.heap.size n (Fk (Tf now) Gf Ga) Ga Gg/\w.grownBy wr (some b))
  (fun _ wr=>wr.rangeLeft b w.heap.size)
 case atStart=>exact⟨_,_,by rw[Fk_start Ge];exact hrg0,hg0.but _⟩
 case round=>
  obtain⟨Ga,Gg,Gh,Gm⟩:=hrel
  go_wp2_with (first
   |(at_next;refine wpList_next_ranges _ rfl _ rfl 9 Ot RK id Tb (fun key _ _=>⟨key,rfl⟩) (fun v y h=>by obtain⟨x,e,_⟩:=B6 h;exact⟨x,e⟩) b w.heap.size n _ _ _ rfl Gh ?_ ?_)
   |go_in)
  ·intro _ hl0;go_wp2;go_end0;exact⟨rfl,by rw[<-Fk_end hl0];exact Gh.owns,Gm⟩
  ·intro x c kl yd yp w1 cnt1 hkey hlx hv hat hrg1 hlt hg1 hs1 hen;have hy:(yd,yp)=(DataW.held (Tb c),[]):=Option.some.inj (hv.symm.trans (ykg c));injection hy with hy1 hy2;subst hy1 hy2;have Gc:=Gm.andThen hg1 (fun j hj=>by cases hj;exact Or.inl (Qc _));have Gw:=hrg1.owns.lt;have Gx:=hrg1.lt;have Gn:=HP.out w1 Gc;obtain⟨A1,Gv,Gi,bA,rA⟩:=boxed w1 (Cf c) 47;have Gj:=Gn.bw bA Gn.lt;have CL:Hid (Cp 89 (#[x,Tb c]++ #[.pointer (some ⟨p,0,none⟩)]) A1 fun e w'=>e=.returned (.bool (Me now c.due))/\A1.grownBy w' none):=yjp x c p now A1 (Gj.cell 0) Gj.lt;have gA:w1.grownBy A1 none:=⟨bA.os,bA.tape,bA.output,bA.size,fun k hk _=>bA.block k hk⟩;have Gt:Hid (A1.ranges prog 9 RK b w.heap.size n (Fk (Tf now) Gf Ga) (fun z=>Ga z&&!z.sameKey kl) cnt1):=hrg1.kept gA (by simp) (by simp);have Gu:Hid (w.grownBy A1 (some b)):=Gc.andThen gA (fun j hj=>by cases hj);have Gk:Hid (∀v,Me now c.due=v->Tf now kl (.held (Tb c))=v):=fun v h=>h;have Gl:Hid (∀zd,(Fk (Tf now) Gf Ga).atKey kl zd=.held (Tb c)):=hat;have Gs:Hid (cnt1<Gg):=hlt;have Gq:Hid (wr.ranges prog 9 RK b w.heap.size n (Fk (Tf now) Gf Ga) Ga Gg):=Gh;obtain⟨nm,kd,tx,a1,n1,k1,a2,n2,k2,a3,n3,k3,due⟩:=c;have c0:=rA.cell 0;have c1:=rA.cell 1;have c2:=rA.cell 2;have c3:=rA.cell 3;have c4:=rA.cell 4;have c5:=rA.cell 5;have c6:=rA.cell 6;simp only[Cf,kC,Qm,Qk,Ql]at c0 c1 c2 c3 c4 c5 c6;dsimp only at Gi CL Gk Gl;clear Gv bA rA gA hs1 Gn Gj Gh hrg1 hlt hat Gm Gc HP hv;generalize Me now due=gb at*;go_upto_region 3 with fail;rw[Gi.out];clear Gi;go_wp2_with fail;refine CL.out.mono ?_;rintro e w2⟨rfl,Gr⟩;have Gb:=Gt.out.kept Gr (by simp) (by simp);have Gd:=Gu.out.andThen Gr (fun j hj=>by cases hj);cases gb with
   |false=>
    go_wp2;go_roundw
    case rel=>exact⟨_,cnt1,by rw[<-Fk_stays Gp (Ot.key hkey) hlx (Gk.out _ rfl) Gl.out];exact Gb,Gd⟩
    case measure=>rw[Gb.left_eq,Gq.out.left_eq];exact Gs.out
   |true=>
    go_wp2_with (first
     |(at_delete;refine wpList_delete_ranges _ rfl _ _ 70 9 rfl 47 Ot underlying70 RK b w.heap.size n _ _ _ rfl Gb _ _ rfl hkey ?_;intro w3 cnt3 hrg3 hle hturn;go_frame)
     |go_in)
    rw[strike_twice]at hrg3;go_roundw
    case rel=>exact⟨_,cnt3,by rw[<-Fk_struck Gp (Ot.key hkey) hlx (Gk.out _ rfl) Gl.out];exact hrg3,Gd.andThen hturn.grown (fun j hj=>by cases hj;exact Or.inr rfl)⟩
    case measure=>rw[hrg3.left_eq,Gq.out.left_eq];have:=Gs.out;omega
end Ri
namespace Ri
open Tryz
open Go.RowKit Go.Maps
variable {x:KV} {a1 a2 a3:Option Addr} {n1 c1 n2 c2 n3 c3 B b k:Nat} {w wr w10:World} {ks:List Ke} {L':List KV}
def kvA (x:KV):Value:= .agg (kC x.key.name x.key.val.kind x.key.val.text x.vi x.vp x.vr x.key.due)
def Mm (x:KV):Lit×DataW Value:=(.string x.key.name.data.toList,.held (kvA x))
def F4 (L:List KV):DataW Value:= .map (L.map Mm)
theorem Ca:∀a b:List UInt8,bytesBefore a b=Op.bytesLess a b
 |[],[]=>rfl
 |[],_::_=>rfl
 |_::_,[]=>rfl
 |a::x,b::y=>by
  unfold bytesBefore Op.bytesLess;rw[Ca x y]
theorem zj2{a b:List UInt8}(h:bytesBefore a b=true):bytesBefore b a=false:=by
 cases hb:bytesBefore b a with
 |false=>rfl
 |true=>have:=WideShapes.bytes_trans _ _ _ h hb;rw[WideAt.bytes_irrefl]at this;cases this
theorem zk0(x:Lit×DataW Value):∀l:List (Lit×DataW Value),(∀p∈l,x.1.before p.1=false)->DataW.insert x l=l++ [x]
 |[],_=>rfl
 |y::r,h=>by
  rw[DataW.insert,if_neg (by rw[h y (by simp)];simp),zk0 x r (fun p hp=>h p (by simp[hp]))];rfl
theorem yei(L:List KV)(y:KV)(h:∀x∈L,bytesBefore x.key.name.data.toList y.key.name.data.toList=true):(F4 L).put (.string y.key.name.data.toList) (.held (kvA y))=F4 (L++ [y]):=by
 have Ga:∀p∈L.map Mm,(!p.1.sameKey (.string y.key.name.data.toList))=true:=fun p hp=>by
  obtain⟨x,hx,rfl⟩:=List.mem_map.1 hp;have h1:=h x hx;show(!(x.key.name.data.toList==y.key.name.data.toList))=true;rw[Bool.not_eq_true',beq_eq_false_iff_ne];intro e;rw[e,WideAt.bytes_irrefl]at h1;cases h1
 show DataW.map (DataW.insert _ ((L.map Mm).filter fun p=>!p.1.sameKey (.string y.key.name.data.toList)))=_;rw[List.filter_eq_self.2 Ga,zk0]
 ·show _=DataW.map ((L++ [y]).map Mm);rw[List.map_append];rfl
 ·intro p hp;obtain⟨x,hx,rfl⟩:=List.mem_map.1 hp;exact zj2 (h x hx)
theorem yh0(e1:x.vi=.slice a1 n1 c1)(e2:x.vp=.slice a2 n2 c2)(e3:x.vr=.slice a3 n3 c3):RK (kvA x)=some (.held (kvA x),[]):=by
 unfold kvA;rw[e1,e2,e3];rfl
theorem Rh(s:ByteArray)(h:s.size<=maxLen):keyOf prog 9 (.string s)=some (.string s.data.toList):=by
 unfold keyOf mapKey;simp[underlying9,h]
theorem zq8(h:Fm ks=true):∀(d i:Nat),i+d+1<ks.length->bytesBefore (ks.getD i ke0).name.data.toList (ks.getD (i+d+1) ke0).name.data.toList=true:=by
 unfold Fm at h;rw[Qh,Qh,Qw,Qw]at h;have Ga:∀i,i+1<ks.length->bytesBefore (ks.getD i ke0).name.data.toList (ks.getD (i+1) ke0).name.data.toList=true:=fun i hi=>by
  have:=h.2.1 (i+1) (List.mem_range.2 hi);unfold riK at this;rw[Nat.add_sub_cancel,Bool.or_eq_true]at this;rcases this with e|e
  ·simp at e
  ·rw[Ca];rwa[ByteArray.toList_eq,ByteArray.toList_eq]at e
 intro d;induction d with
 |zero=>intro i hi;exact Ga i hi
 |succ d ih=>
  intro i hi;have h1:=ih i (by omega);have h2:=Ga (i+d+1) (by omega);exact WideShapes.bytes_trans _ _ _ h1 h2
structure Pp (w:World) (b:Nat) (ks:List Ke) (k:Nat) (L':List KV) (wr:World):Prop where
 own:wr.ownsMap prog 9 RK b k (F4 L')
 vals:∃β,Rising wr w.heap.size L' wr.heap.size β
 keys:L'.map KV.key=ks.take k
 bel:Bl w wr
 hb:w.heap.size<=b
def B2 (w:World) (ok:Bool) (ks:List Ke) (e:Ending) (w':World):Prop:=
 (ok=false/\e= .returned (.tuple #[.map none,.bool false])/\Bl w w')\/(ok=true/\∃b L',e= .returned (.tuple #[.map (some b),.bool true])/\Pp w b ks ks.length L' w')
theorem zx4{A1 w11:World}{y:KV}(h:Pp w b ks k L' wr)(h1:Bl wr A1)(h10:Bl A1 w10)(hv:VOwn w10 A1.heap.size y.key.val y.vi y.vp y.vr)(hk:k<ks.length)(hy:y.key=ks.getD k ke0)(hr:Fm ks=true)
 (ho:w11.ownsMap prog 9 RK b (k+1) ((F4 L').put (.string y.key.name.data.toList) (.held (kvA y))))(ht:w10.mapTurned w11 b):Pp w b ks (k+1) (L'++ [y]) w11:=by
 obtain⟨β,hβ⟩:=h.vals;have Ga:Bl wr w10:=h1.trans (h10.mono h1.size);have hg:=ht.grown;have Gh:L'.length=k:=by have:=congrArg List.length h.keys;rw[Qp,Qn]at this;omega
 have Gc:∀g e C,e≠47->Fc w10 g e C->w11.heap[g]?=w10.heap[g]?:=fun g e C _ hC=>hg.block g hC.lt (fun eq=>by
  cases eq;obtain⟨es,Gg,hb,_⟩:=(h.own.kept (row:=none) ⟨Ga.os,Ga.tape,Ga.output,Ga.size,fun k hk _=>Ga.block k hk⟩ (by simp));have:=hC.symm.trans hb;cases this)
 have Gf:(F4 L').put (.string y.key.name.data.toList) (.held (kvA y))=F4 (L'++ [y]):=yei L' y fun x hx=>by
  obtain⟨i,hi,e⟩:=List.getElem_of_mem hx;have e2:x.key=ks.getD i ke0:=by
   have e3:(L'.map KV.key)[i]?=(ks.take k)[i]?:=by rw[h.keys]
   rw[List.getElem?_map,Qd hi,e,List.getElem?_take,if_pos (by omega)]at e3;rw[Qa,<-e3];rfl
  rw[e2,hy];have:=zq8 hr (k-i-1) i (by omega);rwa[show i+(k-i-1)+1=k by omega]at this
 rw[Gf]at ho;have Gd:Rising w10 w.heap.size L' A1.heap.size β:=(hβ.bw Ga).up h1.size;have Ge:Rising w11 w.heap.size L' A1.heap.size β:=Gd.kept Gc;have Gb:=Wf hv Gc;refine⟨ho,⟨_,Ge.snoc Gb (Qj h10.size hg.size) fun g hu=>?_⟩,?_,h.bel.trans ((Ga.mono h.bel.size).trans ⟨hg.os,hg.tape,hg.output,hg.size,fun j hj=>hg.block j (by have:=Ga.size;have:=h.bel.size;omega) (fun e=>by cases e;have:=h.hb;omega)⟩),h.hb⟩
 ·rcases hu with hu|hu|hu
  ·exact(Hf Gb.ia hu).2
  ·exact(Hf Gb.pj hu).2
  ·exact(Hf Gb.rq hu).2
 ·rw[List.map_append,h.keys,Qo hk];show _++ [y.key]=_;rw[hy,Qa,Qd hk];rfl
theorem yhu(h:Fm ks=true)(hk:k<ks.length):VSm (ks.getD k ke0).val:=by
 unfold Fm at h;rw[Qh,Qh,Qw,Qw]at h;have h1:=h.2.2 k (List.mem_range.2 hk);unfold Hh at h1;rw[Qh,Qh]at h1;exact Bo h1.2.1
theorem zwm(w w1:World)(ks:List Ke)(b1:Bl w w1):Pp w w1.heap.size ks 0 [] (w1.alloc (.map #[] 0)):=
 ⟨World.ownsMap_made w1 _ _ _,⟨fun _=>w.heap.size,⟨fun _ _=>Qc _,fun _ _ _ _=>Qc _,by have:=b1.size;simp;omega,fun i hi=>absurd hi (by simp),fun i hi=>absurd hi (by simp),fun i hi=>absurd hi (by simp),fun i hi=>absurd hi (by simp)⟩⟩,rfl,b1.alloc b1.size _,b1.size⟩
theorem zxk{W:World}(h:Pp w b ks k L' wr)(hW:Bl wr W)(h10:Bl W w10)(e1:x.vi=.slice a1 n1 c1)(e2:x.vp=.slice a2 n2 c2)(e3:x.vr=.slice a3 n3 c3)
 (hv:VOwn w10 W.heap.size x.key.val x.vi x.vp x.vr)(hk:k<ks.length)(hm:k<maxLen)(hx:x.key=ks.getD k ke0)(hr:Fm ks=true)(hn:x.key.name.size<=maxLen):
  ∃w11,(Instr.mapUpdate 70 (.map (some b)) (.string x.key.name) (kvA x)).run prog w10=.ok () w11/\Pp w b ks (k+1) (L'++ [x]) w11/\w10.mapTurned w11 b:=by
 have Ga:Bl wr w10:=hW.trans (h10.mono hW.size);have ho:w10.ownsMap prog 9 RK b k (F4 L'):=h.own.kept (row:=none) ⟨Ga.os,Ga.tape,Ga.output,Ga.size,fun k hk _=>Ga.block k hk⟩ (by simp);obtain⟨w11,Gc,Gb,ht⟩:=ho.store Ot underlying70 hm (Rh x.key.name hn) (yh0 e1 e2 e3);exact⟨w11,Gc,zx4 h hW h10 hv hk hx hr Gb ht,ht⟩
theorem zwv(a:Option Addr)(b n c:Nat)(L:List KV)(w:World)(h:Oc w a b n L)(hs:Small L)(hn:n<=1048577)(hR:Ready w):
  Calls prog 87 #[.slice a n c] w (B2 w (Fm (L.map KV.key)) (L.map KV.key)):=by
 have HD:Hid (Cp 20 #[.slice a n c] w fun e w'=>e=.returned (.bool (Fm (L.map KV.key)))/\Bl w w'):=Ip a b n c L w h hs hn hR;have H:Hid (Oc w a b n L):=h;have HS:Hid (Small L):=hs;obtain⟨O,hO⟩:∃O,Fm (L.map KV.key)=O:=⟨_,rfl⟩;have HO:Hid (Fm (L.map KV.key)=O):=hO;have HL:Hid (L.length=n):=h.ks.len;rw[hO]at HD ⊢;have Gf:Hid (∀W,O=false->Bl w W->B2 w O (L.map KV.key) (.returned (.tuple #[.map none,.bool false])) W):=fun W e hb=> .inl ⟨e,rfl,hb⟩;have Gg:Hid (∀W bb L',O=true->Pp w bb (L.map KV.key) n L' W->B2 w O (L.map KV.key) (.returned (.tuple #[.map (some bb),.bool true])) W):=fun W bb L' e hi=> .inr ⟨e,bb,L',rfl,by rw[Qp,HL.out];exact hi⟩;generalize hM:B2 w O (L.map KV.key)=M at Gf Gg ⊢;clear hM h hs hR hO;cases O with
 |false=>
  have Gi:Hid (∀W,Bl w W->M (.returned (.tuple #[.map none,.bool false])) W):=fun W hb=>Gf.out W rfl hb;clear Gf Gg;go_enter func87,ntmps87;go_wp2_with fail;refine HD.out.mono ?_;rintro e w1⟨rfl,b1⟩;go_wp2;exact Gi.out w1 b1
 |true=>
  have Gi:Hid (∀W bb L',Pp w bb (L.map KV.key) n L' W->M (.returned (.tuple #[.map (some bb),.bool true])) W):=fun W bb L' hi=>Gg.out W bb L' rfl hi;clear Gf Gg;have Gn:=@run_makeMap prog;go_enter func87,ntmps87;go_wp2_with fail;refine HD.out.mono ?_;rintro e w1⟨rfl,b1⟩;clear HD;go_wp2;clear Gn;have HZ:Hid (Pp w w1.heap.size (L.map KV.key) 0 [] (w1.alloc (.map #[] 0))):=zwm w w1 _ b1;clear b1;generalize w1.alloc (.map #[] 0)=wz at HZ ⊢;generalize w1.heap.size=bM at HZ ⊢;clear w1;go_loopw [13] (fun i wr=>∃(k:Nat) (L':List KV),k<=n/\i=.int .i64 k/\Hid (Pp w bM (L.map KV.key) k L' wr)) (fun i _=>n-(intOf i).toNat)
  case atStart=>exact⟨0,[],by omega,rfl,HZ⟩
  case round=>
   obtain⟨k,L',hk,rfl,hp⟩:=hrel;have bk:=hp.out.bel;have sk:=bk.size;by_cases hlt:k<n
   ·have HW:=H.out.bw bk;obtain⟨B,hv⟩:=HW.val k hlt;have hc:=HW.ks.cell k hlt;obtain rfl:=HW.ks.addr (by omega);obtain⟨q1,q2⟩:=HS.out k (by rw[HL.out];exact hlt);have Gb:=Wg L k;have Gv:(L.map KV.key).length=n:=by rw[Qp,HL.out]
    have Gj:=HO.out;generalize L.map KV.key=ks,L.getD k kv0=x at*;obtain⟨c0,c1,c2,c3,c4,c5,c6⟩:=hc;clear HW H HS HL;obtain⟨⟨nm,⟨kd,t,is,ps,rs⟩,d⟩,vi,vp,vr⟩:=x;dsimp only at c0 c1 c2 c3 c4 c5 c6 hv q1 q2 Gb;have Ge:VSm ⟨kd,t,is,ps,rs⟩:=by have:=yhu Gj (k:=k) (by omega);rwa[Gb]at this
    obtain⟨a1,k1,e1⟩:∃a1 k1,vi=.slice a1 is.length k1:=by obtain⟨⟨a1,_,_,k1,e1,_⟩,_,_⟩:=hv.rd (fun u hu=>Qj (Ge.ia u hu) (by decide));exact⟨a1,k1,e1⟩
    obtain⟨a2,k2,e2⟩:∃a2 k2,vp=.slice a2 ps.length k2:=by obtain⟨_,⟨a1,_,k1,e1,_⟩,_⟩:=hv.rd (fun u hu=>Qj (Ge.ia u hu) (by decide));exact⟨a1,k1,e1⟩
    obtain⟨a3,k3,e3⟩:∃a3 k3,vr=.slice a3 rs.length k3:=by obtain⟨_,_,⟨a1,_,_,k1,e1,_⟩⟩:=hv.rd (fun u hu=>Qj (Ge.ia u hu) (by decide));exact⟨a1,k1,e1⟩
    subst e1 e2 e3;obtain⟨A1,Gq,Gm,ba,ra⟩:=boxed wr (kC nm kd t (.slice a1 is.length k1) (.slice a2 ps.length k2) (.slice a3 rs.length k3) d) 47;have h1:is.length<=1048577:=by have:=q1.fit;have:=this.ia;simp at this;omega
    have h2:ps.length<=1048577:=by have:=q1.np;simp at this;omega
    have h3:rs.length<=1048577:=by have:=q1.fit;have:=this.rq;simp at this;omega
    have HC:Hid (∀W,Bl A1 W->Cp 124 #[.agg (kC nm kd t (.slice a1 is.length k1) (.slice a2 ps.length k2) (.slice a3 rs.length k3) d)] W fun e w'=>∃u1 c1 u2 c2 u3 c3,e=.returned (.agg (kC nm kd t (.slice u1 is.length c1) (.slice u2 ps.length c2) (.slice u3 rs.length c3) d))/\VOwn w' W.heap.size ⟨kd,t,is,ps,rs⟩ (.slice u1 is.length c1) (.slice u2 ps.length c2) (.slice u3 rs.length c3)/\Bl W w'):=fun W hW=>ydx ⟨nm,⟨kd,t,is,ps,rs⟩,d⟩ _ _ _ W (((hv.bw ba).bw hW).rd (fun u hu=>Qj (Ge.ia u hu) (by decide))) h1 h2 h3
    have Gp:Hid (∀W,Bl A1 W->∀x1 y1 x2 y2 x3 y3 Gd,VOwn Gd W.heap.size ⟨kd,t,is,ps,rs⟩ (.slice x1 is.length y1) (.slice x2 ps.length y2) (.slice x3 rs.length y3)->Bl W Gd->
       ∃Ga L2,(Instr.mapUpdate 70 (.map (some bM)) (.string nm) (.agg (kC nm kd t (.slice x1 is.length y1) (.slice x2 ps.length y2) (.slice x3 rs.length y3) d))).run prog Gd=.ok () Ga/\Pp w bM ks (k+1) L2 Ga/\(Ga.cell? ⟨wr.heap.size,0,none⟩=some (.string nm)/\Ga.cell? ⟨wr.heap.size,1,none⟩=some (.int .i64 kd)/\Ga.cell? ⟨wr.heap.size,2,none⟩=some (.string t)/\Ga.cell? ⟨wr.heap.size,3,none⟩=some (.slice a1 is.length k1)/\Ga.cell? ⟨wr.heap.size,4,none⟩=some (.slice a2 ps.length k2)/\Ga.cell? ⟨wr.heap.size,5,none⟩=some (.slice a3 rs.length k3)/\Ga.cell? ⟨wr.heap.size,6,none⟩=some (.int .i64 d))):=fun W hW x1 y1 x2 y2 x3 y3 Gd ho hb=>by
     obtain⟨Ga,e1,e2,ht⟩:=zxk (x:=⟨⟨nm,⟨kd,t,is,ps,rs⟩,d⟩,.slice x1 is.length y1,.slice x2 ps.length y2,.slice x3 rs.length y3⟩) hp.out (ba.trans (hW.mono ba.size)) hb rfl rfl rfl ho (by omega) (Qr (Qr hlt hn) (by decide)) Gb.symm Gj (Qj q2 (by decide));have Gk:=ra.bw (hW.trans (hb.mono hW.size)) ra.lt;have Gu:=hp.out.own.lt;have Gr:=(ht.grown.block _ Gk.lt (fun eq=>by cases eq;omega)).trans Gk;exact⟨Ga,_,e1,e2,F6 Gr⟩
    have KP:Hid (∀{W:World},Bl A1 W->(W.cell? ⟨wr.heap.size,0,none⟩=some (.string nm)/\W.cell? ⟨wr.heap.size,1,none⟩=some (.int .i64 kd)/\W.cell? ⟨wr.heap.size,2,none⟩=some (.string t)/\W.cell? ⟨wr.heap.size,3,none⟩=some (.slice a1 is.length k1)/\W.cell? ⟨wr.heap.size,4,none⟩=some (.slice a2 ps.length k2)/\W.cell? ⟨wr.heap.size,5,none⟩=some (.slice a3 rs.length k3)/\W.cell? ⟨wr.heap.size,6,none⟩=some (.int .i64 d))):=fun hW=>F6 (ra.bw hW ra.lt);have bx:Bl A1 A1.drew:=below_drewN (Qb _ _) 1;clear Gq ra ba hp hv q1 q2 Gb Gj h1 h2 h3 bk Ge;generalize is.length=ni,ps.length=np,rs.length=nr at*;go_upto_region 7 with fail;rw[Gm.out];clear c0 c1 c2 c3 c4 c5 c6;go_region_held3 (fun W=>W.cell? ⟨wr.heap.size,0,none⟩=some (.string nm)/\W.cell? ⟨wr.heap.size,1,none⟩=some (.int .i64 kd)/\W.cell? ⟨wr.heap.size,2,none⟩=some (.string t)/\W.cell? ⟨wr.heap.size,3,none⟩=some (.slice a1 ni k1)/\W.cell? ⟨wr.heap.size,4,none⟩=some (.slice a2 np k2)/\W.cell? ⟨wr.heap.size,5,none⟩=some (.slice a3 nr k3)/\W.cell? ⟨wr.heap.size,6,none⟩=some (.int .i64 d))
     (first|exact KP.out bx|exact Gh)
     (first
      |(go_at_call 124;refine(HC.out _ bx).mono ?_;rintro e Gd⟨x1,y1,x2,y2,x3,y3,rfl,ho,Gc⟩;obtain⟨Ga,L2,Gt,Gl,Gh⟩:=Gp.out _ bx x1 y1 x2 y2 x3 y3 Gd ho Gc;have bx:=bx.trans (Gc.mono bx.size);have Gs:Hid (Pp w bM ks (k+1) L2 Ga):=Gl;clear ho Gl Gc))
    all_goals
     go_wp2;go_roundw
     case rel=>exact⟨k+1,L2,by omega,by go_num,Gs⟩
     case measure=>simp[intOf];omega
   ·obtain rfl:k=n:=by omega
    go_wp2;exact Gi.out _ _ _ hp.out
theorem ydu(p:Nat)(w:World):Calls prog 88 #[.map none,.func (.func 89) #[] #[.pointer (some ⟨p,0,none⟩)]] w fun e w'=>e=.returned (.tuple #[])/\Bl w w':=by
 have Ga:=run_range_nilMap (P:=prog) w 70 _ _ underlying70;have Gb:∀ty,(Instr.next (.pointer (some ⟨w.heap.size,0,none⟩)) false ty).run prog (w.alloc (.mapIter none 0 #[] 0))=_:=fun ty=>run_next_nilMap _ ty 0 0 #[];go_enter func88,ntmps88;go_wp2;refine wp_loop_rounds 1 ?_;rw[rounds_succ];go_wp2;go_end0;exact⟨rfl,(Qb _ w).alloc (Qc _) _⟩
def Oy (now:Int) (k:Ke):Bool:=!Me now k.due
theorem yel(now:Int)(L:List KV):Lib.deleteFuncD (Tf now) (F4 L)=F4 (L.filter fun x=>Oy now x.key):=by
 show DataW.map ((L.map Mm).filter _)=DataW.map _;rw[List.filter_map];rfl
theorem _root_.Go.Proofs.YtokafonppgppdaaGreatDoor.Rising.init{N:Nat}{L:List KV}{β:Nat->Nat}(h:Rising w B (L++ [x]) N β):Rising w B L (β L.length) β/\VOwn w (β L.length) x.key.val x.vi x.vp x.vr/\β L.length<=N/\∀g,x.vi.ownBlock=some g\/x.vp.ownBlock=some g\/x.vr.ownBlock=some g->g<N:=by
 have hl:(L++ [x]).length=L.length+1:=by simp
 have g1:∀i,i<L.length->(L++ [x]).getD i kv0=L.getD i kv0:=fun i hi=>by rw[Qa,Qa,List.getElem?_append_left hi]
 have g2:(L++ [x]).getD L.length kv0=x:=by simp
 have ht:=h.top;have hm:=h.mono L.length (L.length+1) (by omega) (by omega);rw[hl]at ht;refine⟨⟨fun i hi=>h.low i (by omega),fun i j hij hj=>h.mono i j hij (by omega),Qc _,fun i hi=>?_,fun i hi=>?_,fun i hi=>?_,fun i hi=>?_⟩,?_,by omega,fun g hg=>?_⟩
 ·have:=h.own i (by omega);rwa[g1 i hi]at this
 ·have:=h.lt1 i (by omega);rwa[g1 i hi]at this
 ·have:=h.lt2 i (by omega);rwa[g1 i hi]at this
 ·have:=h.lt3 i (by omega);rwa[g1 i hi]at this
 ·have:=h.own L.length (by omega);rwa[g2]at this
 ·have h1:=h.lt1 L.length (by omega) g;have h2:=h.lt2 L.length (by omega) g;have h3:=h.lt3 L.length (by omega) g;rw[g2]at h1 h2 h3;rcases hg with e|e|e
  ·have:=h1 e;omega
  ·have:=h2 e;omega
  ·have:=h3 e;omega
theorem _root_.Go.Proofs.YtokafonppgppdaaGreatDoor.Rising.filter(p:KV->Bool):∀(m:Nat) (L:List KV) (N:Nat) (β:Nat->Nat),L.length=m->Rising w B L N β->∃β',Rising w B (L.filter p) N β'
 |0,L,N,β,hm,h=>by
  obtain rfl:=List.eq_nil_of_length_eq_zero hm;exact⟨β,h⟩
 |m+1,L,N,β,hm,h=>by
  obtain⟨L0,x,rfl⟩:∃L0 x,L=L0++ [x]:=⟨L.dropLast,L.getLast (by intro e;rw[e]at hm;cases hm),(List.dropLast_concat_getLast _).symm⟩;obtain⟨h1,h2,h3,h4⟩:=h.init;obtain⟨β',h5⟩:=Rising.filter p m L0 _ β (by simpa using hm) h1;rw[List.filter_append];cases hp:p x with
  |false=>rw[List.filter_cons_of_neg (by simp[hp])];simp only[List.filter_nil,List.append_nil];exact⟨β',h5.up h3⟩
  |true=>rw[List.filter_cons_of_pos hp];exact⟨_,h5.snoc h2 h3 h4⟩
structure Ts (w:World) (b n:Nat) (L:List KV) (wr:World):Prop where
 own:wr.ownsMap prog 9 RK b n (F4 L)
 vals:∃β,Rising wr w.heap.size L wr.heap.size β
 bel:Bl w wr
 hb:w.heap.size<=b
def Cv (w:World) (ok:Bool) (now:Int) (ks:List Ke) (e:Ending) (w':World):Prop:=
 (ok=false/\e= .returned (.map none)/\Bl w w')\/(ok=true/\∃b L',e= .returned (.map (some b))/\L'.map KV.key=ks.filter (Oy now)/\Ts w b ks.length L' w')
theorem ybi{W0 w1 w2:World}{n:Nat}{now:Int}(h0:Bl w W0)(h:Pp W0 b ks n L' w1)(hn:ks.length=n)(ho:w2.ownsMap prog 9 RK b n (Lib.deleteFuncD (Tf now) (F4 L')))(hg:w1.grownBy w2 (some b)):
  (L'.filter fun x=>Oy now x.key).map KV.key=ks.filter (Oy now)/\Ts w b n (L'.filter fun x=>Oy now x.key) w2:=by
 obtain⟨β,hβ⟩:=h.vals;obtain⟨β',Gc⟩:=Rising.filter (fun x=>Oy now x.key) _ L' _ β rfl hβ
 have Ga:∀g e C,e≠47->Fc w1 g e C->w2.heap[g]?=w1.heap[g]?:=fun g e C _ hC=>hg.block g hC.lt (fun eq=>by
  cases eq;obtain⟨es,Gb,hb,_⟩:=h.own;have:=hC.symm.trans hb;cases this)
 have hr:=(Gc.kept Ga).up hg.size;have bb:Bl w w1:=h0.trans (h.bel.mono h0.size);have Gd:=h.hb;have Ge:=h0.size;refine⟨?_,by rw[<-yel];exact ho,⟨β',⟨fun i hi=>Qj h0.size (hr.low i hi),hr.mono,hr.top,hr.own,hr.lt1,hr.lt2,hr.lt3⟩⟩,bb.trans ⟨hg.os,hg.tape,hg.output,hg.size,fun j hj=>hg.block j (by have:=bb.size;omega) (fun e=>by cases e;omega)⟩,by omega⟩;have hk:=h.keys;rw[<-hn,List.take_length]at hk;rw[<-hk,List.filter_map];rfl
theorem Ie(a:Option Addr)(b n c:Nat)(L:List KV)(now:Int)(w:World)(h:Oc w a b n L)(hs:Small L)(hn:n<=1048577)(hR:Ready w):
  Calls prog 47 #[.slice a n c,.int .i64 now] w (Cv w (Fm (L.map KV.key)) now (L.map KV.key)):=by
 obtain⟨W0,Gb,Ga,b0,r0⟩:=boxed w #[.int .i64 now] 2;have q0:W0.heap.size=w.heap.size+1:=by rw[<-Gb];simp
 have HC:Hid (Cp 87 #[.slice a n c] W0 (B2 W0 (Fm (L.map KV.key)) (L.map KV.key))):=zwv a b n c L W0 (h.bw b0) hs hn (hR.bw (b0.mono hR.six));have HL:Hid ((L.map KV.key).length=n):=by unfold Hid;rw[Qp,h.ks.len]
 clear h hs hR Gb;have HQ:Hid (W0.heap.size=w.heap.size+1):=q0;have HB:Hid (Bl w W0/\Fc W0 w.heap.size 2 #[.int .i64 now]):=⟨b0,r0⟩;clear b0 r0 q0;generalize L.map KV.key=ks at*;generalize hM:Cv w (Fm ks) now ks=M;have HM:Hid (Cv w (Fm ks) now ks=M):=hM;clear hM;go_enter func47,ntmps47;go_upto_region 1 with fail;rw[Ga.out];clear Ga;go_wp2_with fail;refine HC.out.mono ?_;rintro e w1 (⟨ho,rfl,b1⟩|⟨ho,bM,L',rfl,hi⟩)
 ·have HF:Hid (∀W,Bl w1 W->M (.returned (.map none)) W):=fun W hW=>by rw[<-HM.out];exact .inl ⟨ho,rfl,(HB.out.1.trans (b1.mono HB.out.1.size)).trans (hW.mono (by have:=HB.out.1.size;have:=b1.size;omega))⟩
  have HD:Hid (Cp 88 #[.map none,.func (.func 89) #[] #[.pointer (some ⟨w.heap.size,0,none⟩)]] w1 fun e w'=>e=.returned (.tuple #[])/\Bl w1 w'):=ydu _ _;clear HM ho b1 HC;go_wp2_with fail;refine HD.out.mono ?_;rintro e w2⟨rfl,b2⟩;go_wp2;exact HF.out _ b2
 ·have HF:Hid (∀W,W.ownsMap prog 9 RK bM n (Lib.deleteFuncD (Tf now) (F4 L'))->w1.grownBy W (some bM)->M (.returned (.map (some bM))) W):=fun W hW hg=>by
   have Gc:=hi;rw[HL.out]at Gc;rw[<-HM.out];obtain⟨e1,e2⟩:=ybi HB.out.1 Gc HL.out hW hg;exact .inr ⟨ho,bM,_,rfl,e1,by rw[HL.out];exact e2⟩
  have HD:Hid (Cp 88 #[.map (some bM),.func (.func 89) #[] #[.pointer (some ⟨w.heap.size,0,none⟩)]] w1 fun e w'=>e=.returned (.tuple #[])/\w'.ownsMap prog 9 RK bM n (Lib.deleteFuncD (Tf now) (F4 L'))/\w1.grownBy w' (some bM)):=by
   have ho:=hi.own;rw[HL.out]at ho;exact yk0 bM n w.heap.size now _ w1 ho (HB.out.2.bw hi.bel HB.out.2.lt) (by have:=hi.hb;have:=HQ.out;omega)
  clear HM ho HC hi;go_wp2_with fail;refine HD.out.mono ?_;rintro e w2⟨rfl,o2,g2⟩;go_wp2;exact HF.out _ o2 g2
end Ri
end Go.Proofs.YtokafonppgppdaaGreatDoor
namespace Go.Proofs
open Go.RowKit Go.Maps Go.Sort Go.Shelf
def Tryz.keys101_ren:Go.Shelf.Ren:=⟨fun|7=>135|10=>212|n=>n,fun|23=>70|26=>9|3=>47|28=>181|0=>0|27=>180|33=>150|4=>4|n=>n,fun|n=>n⟩
theorem Tryz.keys101:Go.Proofs.SlLaysZ.n7 Tryz.prog Tryz.keys101_ren:={
 mixed:=by kernel_rfl
 f7:=⟨Tryz.f135.name,by decide,Tryz.func135.trans (congrArg some (by kernel_rfl))⟩
 f10:=⟨Tryz.f212.name,by decide,Tryz.func212.trans (congrArg some (by kernel_rfl))⟩
 t0:=Tryz.underlying0
 a0:=Tryz.isAgg0
 z0:=Tryz.sizeOf0
 v0:=Tryz.zeroValue0
 t4:=Tryz.underlying4
 a4:=Tryz.isAgg4
 z4:=Tryz.sizeOf4
 v4:=Tryz.zeroValue4
 t23:=Tryz.underlying70
 a23:=Tryz.isAgg70
 z23:=Tryz.sizeOf70
 v23:=Tryz.zeroValue70
 t26:=Tryz.underlying9
 a26:=Tryz.isAgg9
 z26:=Tryz.sizeOf9
 v26:=Tryz.zeroValue9
 t27:=Tryz.underlying180
 a27:=Tryz.isAgg180
 z27:=Tryz.sizeOf180
 v27:=Tryz.zeroValue180
 t28:=Tryz.underlying181
 a28:=Tryz.isAgg181
 z28:=Tryz.sizeOf181
 v28:=Tryz.zeroValue181
 t33:=Tryz.underlying150
 a33:=Tryz.isAgg150
 z33:=Tryz.sizeOf150
 v33:=Tryz.zeroValue150 }
def Tryz.sorted100_ren:Go.Shelf.Ren:=⟨fun|6=>134|8=>210|9=>211|11=>259|13=>261|12=>260|23=>293|24=>268|14=>284|15=>285|16=>286|17=>287|18=>288|19=>289|20=>290|21=>291|22=>292|25=>310|26=>311|27=>312|28=>313|29=>314|30=>315|31=>328|n=>n,fun|26=>9|28=>181|24=>25|0=>0|3=>3|37=>160|48=>284|50=>158|4=>4|40=>299|39=>298|45=>264|5=>5|9=>9|51=>317|55=>320|57=>332|58=>333|33=>150|n=>n,fun|n=>n⟩
theorem Tryz.sorted100:Go.Proofs.SlLaysZ.n6 Tryz.prog Tryz.sorted100_ren:={
 mixed:=by kernel_rfl
 f6:=⟨Tryz.f134.name,by decide,Tryz.func134.trans (congrArg some (by kernel_rfl))⟩
 f8:=⟨Tryz.f210.name,by decide,Tryz.func210.trans (congrArg some (by kernel_rfl))⟩
 f11:=⟨Tryz.f259.name,by decide,Tryz.func259.trans (congrArg some (by kernel_rfl))⟩
 t0:=Tryz.underlying0
 a0:=Tryz.isAgg0
 z0:=Tryz.sizeOf0
 v0:=Tryz.zeroValue0
 t24:=Tryz.underlying25
 a24:=Tryz.isAgg25
 z24:=Tryz.sizeOf25
 v24:=Tryz.zeroValue25
 t26:=Tryz.underlying9
 a26:=Tryz.isAgg9
 z26:=Tryz.sizeOf9
 v26:=Tryz.zeroValue9
 t28:=Tryz.underlying181
 a28:=Tryz.isAgg181
 z28:=Tryz.sizeOf181
 v28:=Tryz.zeroValue181
 i26:=by kernel_rfl }
def Tryz.sort141_ren:Go.Shelf.Ren:=⟨fun|6=>211|8=>261|9=>260|19=>293|20=>268|21=>284|22=>285|23=>286|24=>287|25=>288|26=>289|27=>290|28=>291|29=>292|36=>310|31=>311|32=>312|37=>313|38=>314|39=>315|41=>328|n=>n,fun|27=>25|29=>9|3=>3|32=>160|26=>25|0=>0|44=>284|46=>158|4=>4|36=>299|35=>298|41=>264|5=>5|9=>9|53=>317|57=>320|63=>332|64=>333|n=>n,fun|n=>n⟩
theorem Tryz.sort141:Go.Proofs.SlLaysM.n6 Tryz.prog Tryz.sort141_ren:={
 mixed:=by kernel_rfl
 f6:=⟨Tryz.f211.name,by decide,Tryz.func211.trans (congrArg some (by kernel_rfl))⟩
 f8:=Tryz.func261.trans (congrArg some (by kernel_rfl))
 f9:=⟨Tryz.f260.name,by decide,Tryz.func260.trans (congrArg some (by kernel_rfl))⟩
 f19:=Tryz.func293.trans (congrArg some (by kernel_rfl))
 f20:=Tryz.func268.trans (congrArg some (by kernel_rfl))
 f21:=⟨Tryz.f284.name,by decide,Tryz.func284.trans (congrArg some (by kernel_rfl))⟩
 f22:=⟨Tryz.f285.name,by decide,Tryz.func285.trans (congrArg some (by kernel_rfl))⟩
 f23:=⟨Tryz.f286.name,by decide,Tryz.func286.trans (congrArg some (by kernel_rfl))⟩
 f24:=⟨Tryz.f287.name,by decide,Tryz.func287.trans (congrArg some (by kernel_rfl))⟩
 f25:=⟨Tryz.f288.name,by decide,Tryz.func288.trans (congrArg some (by kernel_rfl))⟩
 f26:=⟨Tryz.f289.name,by decide,Tryz.func289.trans (congrArg some (by kernel_rfl))⟩
 f27:=⟨Tryz.f290.name,by decide,Tryz.func290.trans (congrArg some (by kernel_rfl))⟩
 f28:=⟨Tryz.f291.name,by decide,Tryz.func291.trans (congrArg some (by kernel_rfl))⟩
 f29:=⟨Tryz.f292.name,by decide,Tryz.func292.trans (congrArg some (by kernel_rfl))⟩
 f31:=Tryz.func311.trans (congrArg some (by kernel_rfl))
 f32:=Tryz.func312.trans (congrArg some (by kernel_rfl))
 f36:=⟨Tryz.f310.name,by decide,Tryz.func310.trans (congrArg some (by kernel_rfl))⟩
 f37:=⟨Tryz.f313.name,by decide,Tryz.func313.trans (congrArg some (by kernel_rfl))⟩
 f38:=⟨Tryz.f314.name,by decide,Tryz.func314.trans (congrArg some (by kernel_rfl))⟩
 f39:=⟨Tryz.f315.name,by decide,Tryz.func315.trans (congrArg some (by kernel_rfl))⟩
 f41:=⟨Tryz.f328.name,by decide,Tryz.func328.trans (congrArg some (by kernel_rfl))⟩
 t0:=Tryz.underlying0
 a0:=Tryz.isAgg0
 z0:=Tryz.sizeOf0
 v0:=Tryz.zeroValue0
 t3:=Tryz.underlying3
 a3:=Tryz.isAgg3
 z3:=Tryz.sizeOf3
 v3:=Tryz.zeroValue3
 t4:=Tryz.underlying4
 a4:=Tryz.isAgg4
 z4:=Tryz.sizeOf4
 v4:=Tryz.zeroValue4
 t5:=Tryz.underlying5
 a5:=Tryz.isAgg5
 z5:=Tryz.sizeOf5
 v5:=Tryz.zeroValue5
 t9:=Tryz.underlying9
 a9:=Tryz.isAgg9
 z9:=Tryz.sizeOf9
 v9:=Tryz.zeroValue9
 t26:=Tryz.underlying25
 a26:=Tryz.isAgg25
 z26:=Tryz.sizeOf25
 v26:=Tryz.zeroValue25
 t27:=Tryz.underlying25
 a27:=Tryz.isAgg25
 z27:=Tryz.sizeOf25
 v27:=Tryz.zeroValue25
 t29:=Tryz.underlying9
 a29:=Tryz.isAgg9
 z29:=Tryz.sizeOf9
 v29:=Tryz.zeroValue9
 t32:=Tryz.underlying160
 a32:=Tryz.isAgg160
 z32:=Tryz.sizeOf160
 v32:=Tryz.zeroValue160
 t35:=Tryz.underlying298
 a35:=Tryz.isAgg298
 z35:=Tryz.sizeOf298
 v35:=Tryz.zeroValue298
 t36:=Tryz.underlying299
 a36:=Tryz.isAgg299
 z36:=Tryz.sizeOf299
 v36:=Tryz.zeroValue299
 t41:=Tryz.underlying264
 a41:=Tryz.isAgg264
 z41:=Tryz.sizeOf264
 v41:=Tryz.zeroValue264
 t44:=Tryz.underlying284
 a44:=Tryz.isAgg284
 z44:=Tryz.sizeOf284
 v44:=Tryz.zeroValue284
 t46:=Tryz.underlying158
 a46:=Tryz.isAgg158
 z46:=Tryz.sizeOf158
 v46:=Tryz.zeroValue158
 t53:=Tryz.underlying317
 a53:=Tryz.isAgg317
 z53:=Tryz.sizeOf317
 v53:=Tryz.zeroValue317
 t57:=Tryz.underlying320
 a57:=Tryz.isAgg320
 z57:=Tryz.sizeOf320
 v57:=Tryz.zeroValue320
 t63:=Tryz.underlying332
 a63:=Tryz.isAgg332
 z63:=Tryz.sizeOf332
 v63:=Tryz.zeroValue332
 t64:=Tryz.underlying333
 a64:=Tryz.isAgg333
 z64:=Tryz.sizeOf333
 v64:=Tryz.zeroValue333 }
theorem Tryz.sorts100(m:Nat):AnyZ.SortsIn Tryz.prog Tryz.sorted100_ren Fence.wide m:=
 ⟨fun blk off cap ss W hH hblk hsz=>callsIn_wide.2 (AnyM.slices_Sort_string Tryz.sort141 blk off cap ss W hH hblk hsz),
  fun p cap W=>callsIn_wide.2 (AnyM.slices_Sort_string_none Tryz.sort141 p cap W)⟩
theorem Tryz.maps_Keys_101(mb:Option Nat)(W:World):CallsIn Fence.wide 5 Tryz.prog 135 #[.map mb] W fun e w'=>e=.returned (.func (.func 212) #[] #[.pointer (some ⟨W.heap.size,0,none⟩)])/\w'=W.alloc (.cells #[.map mb] 70):=
 AnyZ.keys_in Tryz.keys101 Fence.wide 5 trivial rfl mb W
theorem Tryz.slices_Sorted_keys_100_101{H:Type}(b nn:Nat)(D0:DataW H)(R:Value->Option (DataW H×List MemPlace))(w:World)(hown:w.ownsMap Tryz.prog 9 R b nn D0)(hmax:Maps.size D0<=maxLen)(hbytes:Maps.size D0*16<=140737488355328):
  CallsIn Fence.wide 5 Tryz.prog 134 #[.func (.func 212) #[] #[.pointer (some ⟨w.heap.size,0,none⟩)]] (w.alloc (.cells #[.map (some b)] 70)) fun e w'=>∃(v:Value) (ss:List (List UInt8)),e=.returned v/\ss.Perm (strKeys D0)/\
   w'.ownsRow (w.alloc (.cells #[.map (some b)] 70)).heap.size 9 1 v ss.length ((ss.mergeSort (fun x y=>decide (x<=y))).map encStr)/\(v=.slice none 0 0↔ss=[])/\Below (w.alloc (.cells #[.map (some b)] 70)).heap.size (w.alloc (.cells #[.map (some b)] 70)) w':=by
 have Gc:=hown.lt;have Gb:SeqGives Fence.wide 2 Tryz.prog 212 #[.pointer (some ⟨w.heap.size,0,none⟩)] encStr (fun ss=>ss.Perm (strKeys D0)) (Maps.size D0) (w.alloc (.cells #[.map (some b)] 70)):=
  AnyZ.keys_gives (ρ:=Tryz.keys101_ren) { Tryz.keys101 with } Fence.wide _ trivial rfl (by omega) w.heap.size b nn D0 _ (by simp) (by simp) (by
   obtain⟨es,Ga,hb,Ft,hs,hD⟩:=hown;exact⟨es,Ga,(Below.heap_alloc _ _ b Gc).trans hb,Ft,hs,hD⟩)
 exact AnyZ.sorted_in Tryz.sorted100 Fence.wide 5 trivial trivial trivial trivial rfl (by omega) (Tryz.sorts100 _) (enters_of Tryz.func211 (by kernel_rfl) rfl) 212 #[.pointer (some ⟨w.heap.size,0,none⟩)] trivial (enters_of Tryz.func212 (by kernel_rfl) rfl) _ _ hmax hbytes _ Gb
theorem Tryz.slices_Sorted_keys_nil_100_101(w:World):
  CallsIn Fence.wide 5 Tryz.prog 134 #[.func (.func 212) #[] #[.pointer (some ⟨w.heap.size,0,none⟩)]] (w.alloc (.cells #[.map none] 70)) fun e w'=>∃(v:Value) (ss:List (List UInt8)),e=.returned v/\ss=[]/\
   w'.ownsRow (w.alloc (.cells #[.map none] 70)).heap.size 9 1 v ss.length ((ss.mergeSort (fun x y=>decide (x<=y))).map encStr)/\(v=.slice none 0 0↔ss=[])/\Below (w.alloc (.cells #[.map none] 70)).heap.size (w.alloc (.cells #[.map none] 70)) w':=by
 have Ga:SeqGives Fence.wide 2 Tryz.prog 212 #[.pointer (some ⟨w.heap.size,0,none⟩)] encStr (fun ss:List (List UInt8)=>ss=[]) 0 (w.alloc (.cells #[.map none] 70)):=
  AnyZ.keys_gives_nil (ρ:=Tryz.keys101_ren) { Tryz.keys101 with } Fence.wide _ trivial rfl w.heap.size _ (by simp) (by simp)
 exact AnyZ.sorted_in Tryz.sorted100 Fence.wide 5 trivial trivial trivial trivial rfl (by omega) (Tryz.sorts100 _) (enters_of Tryz.func211 (by kernel_rfl) rfl) 212 #[.pointer (some ⟨w.heap.size,0,none⟩)] trivial (enters_of Tryz.func212 (by kernel_rfl) rfl) _ 0 (Nat.zero_le _) (by omega) _ Ga
end Go.Proofs
namespace Go.Proofs.YtokafonppgppdaaGreatDoor
namespace Ri
open Tryz
open Go.RowKit Go.Maps
variable {ks:List Ke} {L:List KV} {x:KV} {w:World} {b n:Nat}
theorem zrw:∀a b:List UInt8,bytesBefore a b=true->a<=b
 |[],_,_=>List.nil_le _
 |_::_,[],h=>by simp[bytesBefore]at h
 |a::x,b::y,h=>by
  unfold bytesBefore at h;rw[List.cons_le_cons_iff];rw[Bool.or_eq_true,Qh]at h;rcases h with h|⟨h1,h2⟩
  ·exact .inl (Qg h)
  ·exact .inr ⟨eq_of_beq h1,zrw x y h2⟩
def UpK (ks:List Ke):Prop:=ks.Pairwise fun x y=>bytesBefore x.name.data.toList y.name.data.toList=true
theorem Wb(h:Fm ks=true):UpK ks:=by
 unfold UpK;rw[List.pairwise_iff_getElem];intro i j hi hj hij;have:=zq8 h (j-i-1) i (by omega);rw[show i+(j-i-1)+1=j by omega,Qa,Qa,Qd hi,Qd hj]at this;exact this
theorem Is(L:List KV):strKeys (F4 L)=L.map fun x=>x.key.name.data.toList:=by
 show(L.map Mm).map (fun p=>strOf p.1)=_;rw[List.map_map];rfl
theorem ztb{ss:List (List UInt8)}(hu:UpK (L.map KV.key))(hp:ss.Perm (strKeys (F4 L))):(ss.mergeSort fun x y=>decide (x<=y)).map encStr=G1 (L.map fun x=>x.key.name):=by
 have e:(ss.mergeSort fun x y=>decide (x<=y))=L.map fun x=>x.key.name.data.toList:=by
  have:=mergeSort_of_perm hp;rw[Is]at this;refine this.trans (List.mergeSort_of_pairwise ?_);rw[List.pairwise_map];unfold UpK at hu;rw[List.pairwise_map]at hu;exact hu.imp fun h=>Qe (zrw _ _ h)
 rw[e];unfold G1;rw[List.map_map,List.map_map];refine List.map_congr_left fun x _=>?_;simp[encStr]
theorem zqq(L:List KV):Maps.size (F4 L)=L.length:=by
 simp[F4,Maps.size]
theorem zqb(b n:Nat)(L:List KV)(w:World)(h:w.ownsMap prog 9 RK b n (F4 L))(hu:UpK (L.map KV.key))(hl:L.length<=1048576):
  Calls prog 94 #[.map (some b)] w fun e w'=>∃v,e=.returned v/\Fz w' w.heap.size v (L.map fun x=>x.key.name)/\Bl w w':=by
 have HS:Hid (Cp 134 #[.func (.func 212) #[] #[.pointer (some ⟨w.heap.size,0,none⟩)]] (w.alloc (.cells #[.map (some b)] 70)) fun e w'=>∃v,e=.returned v/\Fz w' w.heap.size v (L.map fun x=>x.key.name)/\Bl w w'):=by
  refine(callsIn_wide.1 (Tryz.slices_Sorted_keys_100_101 b n (F4 L) RK w h (by rw[zqq];exact Qj hl (by decide)) (by rw[zqq];omega))).mono ?_;rintro e w'⟨v,ss,rfl,hS,Ga,_,hb⟩;have Gc:ss.length=(L.map fun x=>x.key.name).length:=by rw[hS.length_eq,Is,Qp,Qp]
  have Gb:Bl w (w.alloc (.cells #[.map (some b)] 70)):=(Qb _ w).alloc (Qc _) _;refine⟨v,rfl,?_,Gb.trans (hb.mono Gb.size)⟩;rw[ztb hu hS,Gc]at Ga;exact Go.Joins.ownsRow_le Ga Gb.size
 have HK:Hid (Cp 135 #[.map (some b)] w fun e w'=>e=.returned (.func (.func 212) #[] #[.pointer (some ⟨w.heap.size,0,none⟩)])/\w'=w.alloc (.cells #[.map (some b)] 70)):=callsIn_wide.1 (Tryz.maps_Keys_101 (some b) w);clear h hu hl;go_enter func94,ntmps94;go_wp2_with fail;refine HK.out.mono ?_;rintro e w1⟨rfl,rfl⟩;clear HK;go_wp2_with fail;refine HS.out.mono ?_;rintro e w2⟨v,rfl,o2,b2⟩;go_wp2;go_ret;exact⟨v,rfl,o2,b2⟩
theorem zyk(w:World):
  Calls prog 94 #[.map none] w fun e w'=>∃v,e=.returned v/\Fz w' w.heap.size v []/\Bl w w':=by
 have HS:Hid (Cp 134 #[.func (.func 212) #[] #[.pointer (some ⟨w.heap.size,0,none⟩)]] (w.alloc (.cells #[.map none] 70)) fun e w'=>∃v,e=.returned v/\Fz w' w.heap.size v []/\Bl w w'):=by
  refine(callsIn_wide.1 (Tryz.slices_Sorted_keys_nil_100_101 w)).mono ?_;rintro e w'⟨v,ss,rfl,rfl,Gc,Ga,hb⟩;have Gb:Bl w (w.alloc (.cells #[.map none] 70)):=(Qb _ w).alloc (Qc _) _;obtain rfl:=Ga.2 rfl;exact⟨_,rfl,Uo _ _,Gb.trans (hb.mono Gb.size)⟩
 have HK:Hid (Cp 135 #[.map none] w fun e w'=>e=.returned (.func (.func 212) #[] #[.pointer (some ⟨w.heap.size,0,none⟩)])/\w'=w.alloc (.cells #[.map none] 70)):=callsIn_wide.1 (Tryz.maps_Keys_101 none w);go_enter func94,ntmps94;go_wp2_with fail;refine HK.out.mono ?_;rintro e w1⟨rfl,rfl⟩;clear HK;go_wp2_with fail;refine HS.out.mono ?_;rintro e w2⟨v,rfl,o2,b2⟩;go_wp2;go_ret;exact⟨v,rfl,o2,b2⟩
theorem zqu:∀(L:List KV),UpK (L.map KV.key)->∀x∈L,(L.map Mm).find? (fun p=>p.1.sameKey (.string x.key.name.data.toList))=some (Mm x)
 | [],_,_,h=>absurd h (by simp)
 |y::r,hu,x,hx=>by
  unfold UpK at hu;rw[List.map_cons,List.pairwise_cons]at hu;rw[List.map_cons];by_cases e:y.key.name.data.toList=x.key.name.data.toList
  ·rcases List.mem_cons.1 hx with rfl|hx
   ·rw[List.find?_cons_of_pos];show(x.key.name.data.toList==x.key.name.data.toList)=true;simp
   ·have:=hu.1 x.key (List.mem_map_of_mem hx);rw[e,WideAt.bytes_irrefl]at this;cases this
  ·rw[List.find?_cons_of_neg]
   ·rcases List.mem_cons.1 hx with rfl|hx
    ·exact absurd rfl e
    ·exact zqu r hu.2 x hx
   ·show ¬(y.key.name.data.toList==x.key.name.data.toList)=true;simpa using e
theorem yhl(hu:UpK (L.map KV.key))(hx:x∈L)(z:DataW Value):(F4 L).atKey (.string x.key.name.data.toList) z=.held (kvA x):=by
 unfold F4 DataW.atKey;simp only[zqu L hu x hx];rfl
theorem Ef(w:World):(zeroValue 47).run prog w=.ok (.agg z7) w:=by
 simp[go_sem,zeroValue,Tryz.t47]
theorem zy5(h:w.ownsMap prog 9 RK b n (F4 L))(hu:UpK (L.map KV.key))(hx:x∈L)(hn:x.key.name.size<=maxLen):
  (Instr.lookup 70 (.map (some b)) (.string x.key.name) false).run prog w=.ok (kvA x) w/\∃a1 n1 c1 a2 n2 c2 a3 n3 c3,x.vi=.slice a1 n1 c1/\x.vp=.slice a2 n2 c2/\x.vr=.slice a3 n3 c3:=by
 obtain⟨v,ps,Ga,hv⟩:=h.lookup Ot underlying70 (Ef w) (zd:=.held (.agg z7)) (zp:=[]) rfl (Rh x.key.name hn);rw[yhl hu hx]at hv;obtain⟨y,rfl,e⟩:=B6 hv;injection e with e _;injection e with e;refine⟨by rw[Ga,e],?_⟩;unfold kvA at e;injection e with e;have e:=Array.toList_inj.2 e;simp only[List.cons.injEq]at e;exact⟨_,_,_,_,_,_,_,_,_,e.2.2.2.1,e.2.2.2.2.1,e.2.2.2.2.2.1⟩
theorem U9(b n:Nat)(L:List KV)(w:World)(h:w.ownsMap prog 9 RK b n (F4 L))(hu:UpK (L.map KV.key))(hl:L.length<=1048576)(hz:∀x∈L,x.key.name.size<=1048576):
  Calls prog 50 #[.map (some b)] w fun e w'=>∃v,e=.returned v/\Nu w' w.heap.size v L/\Bl w w':=by
 have HN:Hid (Cp 94 #[.map (some b)] w fun e w'=>∃v,e=.returned v/\Fz w' w.heap.size v (L.map fun x=>x.key.name)/\Bl w w'):=zqb b n L w h hu hl;have H:Hid (w.ownsMap prog 9 RK b n (F4 L)):=h;have HU:Hid (UpK (L.map KV.key)):=hu;have HZ:Hid (∀x∈L,x.key.name.size<=1048576):=hz;clear h hu hz;go_enter func50,ntmps50;go_wp2_with fail;refine HN.out.mono ?_;rintro e w1⟨v,rfl,o1,b1⟩;obtain⟨a1,A1,c1,rfl,h1,_,_⟩:=N2 o1 (fun t ht=>by obtain⟨x,hx,rfl⟩:=List.mem_map.1 ht;exact HZ.out x hx);rw[Qp]at h1;have HT:Hid (Fs w1 a1 A1 0 L.length (L.map fun x=>x.key.name)):=h1;have Gc:Hid (Bl w w1):=b1;clear HN o1 h1 b1;go_wp2;go_loopw [3,9] (fun v i wr=>∃(k:Nat),k<=L.length/\i=.int .i64 k/\Hid (Nu wr w1.heap.size v (L.take k))/\Hid (Bl w1 wr)) (fun _ i _=>L.length-(intOf i).toNat)
 case atStart=>exact⟨0,by omega,rfl,Au _ _,Qb _ _⟩
 case round=>
  obtain⟨k,hk,rfl,ho,hb⟩:=hrel;have bk:=Gc.out.trans (hb.out.mono Gc.out.size);by_cases hlt:k<L.length
  ·have hc:=(hb.out.cell (p:=⟨A1,0+k,none⟩) (HT.out.low (by omega))).trans (HT.out.cell k hlt);obtain rfl:=HT.out.addr (by omega);have hx:L.getD k kv0∈L:=by rw[Qa,Qd hlt];exact Qv hlt
   have Gg:(L.map fun x=>x.key.name).getD k ByteArray.empty=(L.getD k kv0).key.name:=by
    rw[Qa,Qa,List.getElem?_map,Qd hlt];rfl
   obtain⟨Ga,a1,n1,k1,a2,n2,k2,a3,n3,k3,e1,e2,e3⟩:=zy5 (H.out.kept (row:=none) ⟨bk.os,bk.tape,bk.output,bk.size,fun k hk _=>bk.block k hk⟩ (by simp)) HU.out hx (Qj (HZ.out _ hx) (by decide));obtain⟨v',w',Gb,Gd,Gf,_⟩:=ya8 (L.getD k kv0).key a1 a2 a3 n1 k1 n2 k2 n3 k3 ho.out (by rw[Qn];omega) hb.out.size;have Gi:Hid (Nu w' w1.heap.size v' (L.take (k+1))):=by
    unfold Hid;have e4:L.getD k kv0=⟨(L.getD k kv0).key,.slice a1 n1 k1,.slice a2 n2 k2,.slice a3 n3 k3⟩:=by rw[<-e1,<-e2,<-e3]
    rw[Qo hlt];rw[<-e4]at Gd;have e5:L[k]=L.getD k kv0:=by rw[Qa,Qd hlt];rfl
    rw[e5];exact Gd
   have Gh:Hid (Bl w1 w'):=hb.out.trans Gf;unfold kvA at Ga;rw[e1,e2,e3]at Ga;rw[Gg]at hc;generalize(L.getD k kv0).key=key at*;obtain⟨nm,⟨kd,t,is,ps,rs⟩,d⟩:=key;dsimp only at Gb Ga hc;rw[Qq]at hc;clear ho Gd hb Gf bk Gg e1 e2 e3 hx;generalize L.length=nL at*;have Ge:Hid ((Builtin.append_ #[24,24] 24 #[u3,.slice (some ⟨wr.heap.size,0,none⟩) 1 1]).run prog (wr.alloc (.cells (kC nm kd t (.slice a1 n1 k1) (.slice a2 n2 k2) (.slice a3 n3 k3) d) 47))=.ok v' w'):=Gb;clear Gb;go_wp2_with (at_builtin;refine wpList_append_run' rfl _ _ 24 rfl rfl rfl Ge.out ?_);exact⟨⟨k+1,by omega,by go_num,Gi,Gh⟩,by simp[intOf];omega⟩
  ·obtain rfl:k=L.length:=by omega
   have HE:Hid (Nu wr w.heap.size u3 L/\Bl w wr):=by
    have:=ho.out;rw[List.take_length]at this;exact⟨Go.Joins.ownsRow_le this Gc.out.size,bk⟩
   clear ho hb bk;go_wp2;go_ret;exact⟨_,rfl,HE.out⟩
theorem yck(w:World):
  Calls prog 50 #[.map none] w fun e w'=>e=.returned (.slice none 0 0)/\Bl w w':=by
 have HN:Hid (Cp 94 #[.map none] w fun e w'=>∃v,e=.returned v/\Fz w' w.heap.size v []/\Bl w w'):=zyk w;go_enter func50,ntmps50;go_wp2_with fail;refine HN.out.mono ?_;rintro e w1⟨v,rfl,o1,b1⟩;obtain⟨a1,A1,c1,rfl,h1,_,_⟩:=N2 o1 (by simp);clear HN o1 h1;rw[List.length_nil];go_wp2;refine wp_loop_rounds 1 ?_;rw[rounds_succ];go_wp2;go_ret;exact⟨rfl,b1⟩
theorem zyh(h:Fm ks=true){k:Ke}(hk:k∈ks):k.name.size<=200:=by
 unfold Fm at h;rw[Qh,Qh,Qw,Qw]at h;obtain⟨i,hi,rfl⟩:=List.getElem_of_mem hk;have h1:=h.2.2 i (List.mem_range.2 hi);rw[Qa,Qd hi]at h1;unfold Hh at h1;rw[Qh]at h1;exact Qg h1.1
theorem yd9(h:Fm ks=true):ks.length<=20:=by
 unfold Fm at h;rw[Qh]at h;exact Qg h.1
def Cx (now:Int) (ks:List Ke):List Ke:=if Fm ks=true then ks.filter (Oy now) else []
def Z6 (w:World) (now:Int) (ks:List Ke) (e:Ending) (w':World):Prop:=
 ∃v L',e= .returned v/\Fv w' w.heap.size v L'/\L'.map KV.key=Cx now ks/\Bl w w'
theorem zwe{w1 w2:World}{v:Value}(h:Ts w b n L w1)(ho:Nu w2 w1.heap.size v L)(hb:Bl w1 w2):Fv w2 w.heap.size v L/\Bl w w2:=by
 obtain⟨β,hβ⟩:=h.vals;exact⟨⟨Go.Joins.ownsRow_le ho h.bel.size,β,(hβ.bw hb).up hb.size⟩,h.bel.trans (hb.mono h.bel.size)⟩
theorem E9(a:Option Addr)(b n c:Nat)(L:List KV)(now:Int)(w:World)(h:Oc w a b n L)(hs:Small L)(hn:n<=1048577)(hR:Ready w):
  Calls prog 19 #[.slice a n c,.int .i64 now] w (Z6 w now (L.map KV.key)):=by
 have HA:Hid (Cp 47 #[.slice a n c,.int .i64 now] w (Cv w (Fm (L.map KV.key)) now (L.map KV.key))):=Ie a b n c L now w h hs hn hR;clear h hs hR;generalize L.map KV.key=ks at*;generalize hM:Z6 w now ks=M;have HM:Hid (Z6 w now ks=M):=hM;clear hM;go_enter func19,ntmps19;go_wp2_with fail;refine HA.out.mono ?_;rintro e w1 (⟨ho,rfl,b1⟩|⟨ho,bM,L',rfl,hk,hi⟩)
 ·have HF:Hid (∀W,Bl w1 W->M (.returned (.slice none 0 0)) W):=fun W hW=>by
   have bb:=b1.trans (hW.mono b1.size);rw[<-HM.out];exact⟨_,[],rfl,zrg W _ bb.size,by unfold Cx;rw[ho,if_neg (by simp)];rfl,bb⟩
  clear HM ho b1 HA;go_wp2_with fail;refine(yck w1).mono ?_;rintro e w2⟨rfl,b2⟩;go_wp2;exact HF.out _ b2
 ·have Gb:UpK (L'.map KV.key):=by rw[hk];exact(Wb ho).filter _
  have Ga:L'.length<=20:=by
   have e1:(L'.map KV.key).length<=ks.length:=by rw[hk];exact Qt _ _
   rw[Qp]at e1;exact Qj e1 (yd9 ho)
  have Gc:∀x∈L',x.key.name.size<=1048576:=fun x hx=>by
   have:x.key∈ks.filter (Oy now):=by rw[<-hk];exact List.mem_map_of_mem hx
   exact Qj (zyh ho (List.mem_filter.1 this).1) (by decide)
  have HF:Hid (∀W v,Nu W w1.heap.size v L'->Bl w1 W->M (.returned v) W):=fun W v hv hW=>by
   obtain⟨e1,e2⟩:=zwe hi hv hW;rw[<-HM.out];exact⟨v,L',rfl,e1,by unfold Cx;rw[if_pos ho];exact hk,e2⟩
  have HL:Hid (Cp 50 #[.map (some bM)] w1 fun e w'=>∃v,e=.returned v/\Nu w' w1.heap.size v L'/\Bl w1 w'):=U9 bM _ L' w1 hi.own Gb (by omega) Gc;clear HM ho hi hk Gb Ga Gc HA;go_wp2_with fail;refine HL.out.mono ?_;rintro e w2⟨v,rfl,o2,b2⟩;go_wp2;exact HF.out _ _ o2 b2
end Ri
end Go.Proofs.YtokafonppgppdaaGreatDoor
