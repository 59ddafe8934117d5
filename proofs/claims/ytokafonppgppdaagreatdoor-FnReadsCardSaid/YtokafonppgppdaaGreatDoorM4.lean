import Derived.Test.YtokafonppgppdaaGreatDoorG2
import Derived.Maps.Ext
import Derived.Lib.SlMapFilter
set_option maxHeartbeats 4000000
set_option maxRecDepth 100000
namespace Go.Proofs.YtokafonppgppdaaGreatDoor.Ri
open Tryz
open Go.RowKit Go.Maps
variable {v:Value} {w w':World} {B A o n c:Nat} {a:Option Addr} {T:TypeId} {C:Array Value}
structure yje where
 nm:ByteArray
 kd:Int
 tx:ByteArray
 a1:Option Addr
 n1:Nat
 c1:Nat
 a2:Option Addr
 n2:Nat
 c2:Nat
 a3:Option Addr
 n3:Nat
 c3:Nat
 due:Int
abbrev yi7 (x:yje):Array Value:=kC x.nm x.kd x.tx (.slice x.a1 x.n1 x.c1) (.slice x.a2 x.n2 x.c2) (.slice x.a3 x.n3 x.c3) x.due
abbrev yce (x:yje):Value:= .agg (yi7 x)
def RK (v:Value):Option (DataW Value×List MemPlace):=
 match v with
 | .agg cs=> (match cs.toList with
  | [.string _,.int .i64 _,.string _,.slice _ _ _,.slice _ _ _,.slice _ _ _,.int .i64 _]=>some (.held v,[])
  |_=>none)
 |_=>none
theorem ykg (x:yje):RK (yce x)=some (.held (yce x),[]):=rfl
theorem zrd {y:DataW Value×List MemPlace} (h:RK v=some y):∃x,v=yce x/\y=(.held (yce x),[]):=by
 unfold RK at h;split at h
 ·rename_i cs;split at h
  ·rename_i nm kd tx a1 n1 c1 a2 n2 c2 a3 n3 c3 due e;cases h;have e2:cs=yi7 ⟨nm,kd,tx,a1,n1,c1,a2,n2,c2,a3,n3,c3,due⟩:=Array.toList_inj.1 e;subst e2;exact ⟨_,rfl,rfl⟩
  ·cases h
 ·cases h
theorem zr0:Keyed prog 9:=string_keyed underlying9
def zej (now:Int) (due:Int):Bool:=decide (due≠0)&&decide (due<=now)
def zms (now:Int) (_:Lit) (d:DataW Value):Bool:=
 match d with
 | .held (.agg cs)=> (match cs.toList with
  | [_,_,_,_,_,_,.int .i64 due]=>zej now due
  |_=>false)
 |_=>false
theorem yjp (key:Value) (x:yje) (p:Nat) (now:Int) (W:World) (hp:W.cell? ⟨p,0,none⟩=some (.int .i64 now)) (hlt:p < W.heap.size):
  Calls prog 89 (#[key,yce x]++ #[.pointer (some ⟨p,0,none⟩)]) W fun e w'=>e= .returned (.bool (zej now x.due))/\W.grownBy w' none:=by
 obtain ⟨W0,hW0,HW0,b0,r0⟩:=boxed W (yi7 x) 47;have p0:=(b0.cell (p:=⟨p,0,none⟩) hlt).trans hp;have c6:W0.cell? ⟨W.heap.size,6,none⟩=some (.int .i64 x.due):=r0.cell 6;have HG:Hid (W.grownBy W0 none):=⟨b0.os,b0.tape,b0.output,b0.size,fun k hk _=>b0.block k hk⟩;have HB:Hid (zej now x.due=(decide (x.due≠0) && decide (x.due<=now))):=rfl;obtain ⟨nm,kd,tx,a1,n1,k1,a2,n2,k2,a3,n3,k3,due⟩:=x;dsimp only at c6 HB HW0 ⊢;clear hW0 b0 r0 hp;rw [HB.out];clear HB;by_cases hd:due=0
 ·subst hd;go_enter func89,ntmps89;go_upto_region 1 with fail;rw [HW0.out];go_wp2;go_ret;exact ⟨rfl,HG.out⟩
 ·by_cases hn:due<=now
  ·rw [Qe (p:=due≠0) hd,Qe hn];go_enter func89,ntmps89;go_upto_region 1 with fail;rw [HW0.out];go_wp2;go_ret;exact ⟨zae (show (due !=0)=(true && true) by simpa using hd),HG.out⟩
  ·rw [Qe (p:=due≠0) hd,Qf hn];go_enter func89,ntmps89;go_upto_region 1 with fail;rw [HW0.out];go_wp2;go_ret;exact ⟨rfl,HG.out⟩
open Go.RowKit Go.Sort
open Kk (Rk rk0 za9 zbk zdh encR)
theorem yex {T:List ByteArray} (hs:zdg w a A o n T) (hc:a=none->c=0) (hn:n<=1048577) (hB:B<=w.heap.size):
  ∃a' c' w',(Builtin.append_ #[25,25] 25 #[.slice none 0 0,.slice a n c]).run prog w= .ok (.slice a' n c') w'/\zcx w' B (.slice a' n c') T/\w.grownBy w' none:=by
 obtain ⟨i0,hi,hz0,hz1,hz2⟩:=info_parts zmw;have hE:w.ownsRow B 9 1 (.slice none 0 0) 0 []:=World.ownsRow_nil _ _ _ _;have hl:=hs.len;cases a with
 |none=>
  obtain rfl:n=0:=by
   rcases Nat.eq_zero_or_pos n with h|h
   ·exact h
   ·have:=hs.addr h;cases this
  obtain rfl:=hc rfl;obtain rfl:T=[]:=List.eq_nil_of_length_eq_zero hl;exact ⟨none,0,w,run_append_owned_none (P:=prog) w B 25 25 9 i0 1 underlying25 hi _ 0 [] hE,hE,za0 _ _⟩
 |some ad=>
  obtain ⟨v',w',hrun,hown,hg,_,_⟩:=run_append_own_at (P:=prog) w B 25 25 9 i0 _ 1 16 underlying25 hi hz0 hz1 hz2 rfl (by decide) (.slice none 0 0) 0 [] hE ad n c (zdw T) (by simp [zdw,hl]) (fun j u hj=>by
   have hjn:j<n:=by
    have:=(List.getElem?_eq_some_iff.1 hj).1;simp [zdw] at this;omega
   obtain rfl:ad=⟨A,o,none⟩:=Option.some.inj (hs.addr (by omega));rw [Addr.add_lit];have hc:=hs.cell j hjn;rw [hc];simp [zdw] at hj;obtain ⟨t,ht,rfl⟩:=hj;rw [Qa,ht];rfl) (fun u hu=>by simp [zdw] at hu;obtain ⟨t,_,rfl⟩:=hu;rfl) (by unfold maxLen;omega) (by omega) hB
  rw [Qq] at hown;obtain ⟨a',c',e⟩:=zad hown;subst e;refine ⟨a',c',w',hrun,?_,hg⟩;unfold zcx;rw [hl];exact hown
theorem zzm {T:List Pr} (hs:za6 w a A n T) (hc:a=none->c=0) (hn:n<=1048577) (hB:B<=w.heap.size):
  ∃a' c' w',(Builtin.append_ #[42,42] 42 #[.slice none 0 0,.slice a n c]).run prog w= .ok (.slice a' n c') w'/\zd2 w' B (.slice a' n c') T/\w.grownBy w' none:=by
 obtain ⟨i0,hi,hz0,hz1,hz2⟩:=info_parts zj8;have hE:w.ownsRow B 145 2 (.slice none 0 0) 0 []:=World.ownsRow_nil _ _ _ _;have hl:=hs.len;cases a with
 |none=>
  obtain rfl:n=0:=by
   rcases Nat.eq_zero_or_pos n with h|h
   ·exact h
   ·have:=hs.addr h;cases this
  obtain rfl:=hc rfl;obtain rfl:T=[]:=List.eq_nil_of_length_eq_zero hl;exact ⟨none,0,w,run_append_owned_none (P:=prog) w B 42 42 145 i0 2 underlying42 hi _ 0 [] hE,hE,za0 _ _⟩
 |some ad=>
  obtain ⟨v',w',hrun,hown,hg,_,_⟩:=run_append_own_at (P:=prog) w B 42 42 145 i0 _ 2 32 underlying42 hi hz0 hz1 hz2 rfl (by decide) (.slice none 0 0) 0 [] hE ad n c (zal T) (by rw [zat,hl]) (fun j u hj=>by
   have hjn:j<T.length*2:=by
    have:=(List.getElem?_eq_some_iff.1 hj).1;rwa [zat] at this
   obtain rfl:ad=⟨A,0,none⟩:=Option.some.inj (hs.addr (by omega));rw [Addr.add_lit,Qq];have hi2:j/2<T.length:=by omega
   obtain ⟨f0,f1⟩:=zg0 T (j/2) hi2;rcases Nat.mod_two_eq_zero_or_one j with hm|hm
   ·rw [show j/2*2=j by omega] at f0;have:=hs.c0 (j/2) (by omega);rw [show j/2*2=j by omega] at this;rw [this,<-hj,f0]
   ·rw [show j/2*2+1=j by omega] at f1;have:=hs.c1 (j/2) (by omega);rw [show j/2*2+1=j by omega] at this;rw [this,<-hj,f1]) (fun u hu=>by
   unfold zal yf8 at hu;simp at hu;obtain ⟨x,y,_,h|h⟩:=hu<;> (subst h;rfl)) (by unfold maxLen;omega) (by omega) hB
  rw [Qq] at hown;obtain ⟨a',c',e⟩:=zad hown;subst e;refine ⟨a',c',w',hrun,?_,hg⟩;unfold zd2;rw [hl];exact hown
theorem yar {T:List Rk} (hs:zdh w a A o n T) (hc:a=none->c=0) (hn:n<=1048577) (hB:B<=w.heap.size):
  ∃a' c' w',(Builtin.append_ #[43,43] 43 #[.slice none 0 0,.slice a n c]).run prog w= .ok (.slice a' n c') w'/\za9 w' B (.slice a' n c') T/\w.grownBy w' none:=by
 obtain ⟨i0,hi,hz0,hz1,hz2⟩:=info_parts Kk.zk2;have hE:w.ownsRow B 147 2 (.slice none 0 0) 0 []:=World.ownsRow_nil _ _ _ _;have hl:=hs.len;cases a with
 |none=>
  obtain rfl:n=0:=by
   rcases Nat.eq_zero_or_pos n with h|h
   ·exact h
   ·have:=hs.addr h;cases this
  obtain rfl:=hc rfl;obtain rfl:T=[]:=List.eq_nil_of_length_eq_zero hl;exact ⟨none,0,w,run_append_owned_none (P:=prog) w B 43 43 147 i0 2 underlying43 hi _ 0 [] hE,hE,za0 _ _⟩
 |some ad=>
  obtain ⟨v',w',hrun,hown,hg,_,_⟩:=run_append_own_at (P:=prog) w B 43 43 147 i0 _ 2 24 underlying43 hi hz0 hz1 hz2 rfl (by decide) (.slice none 0 0) 0 [] hE ad n c (zbk T) (by rw [zgh,hl]) (fun j u hj=>by
   have hjn:j<T.length*2:=by
    have:=(List.getElem?_eq_some_iff.1 hj).1;rwa [zgh] at this
   obtain rfl:ad=⟨A,o,none⟩:=Option.some.inj (hs.addr (by omega));rw [Addr.add_lit];have hi2:j/2<T.length:=by omega
   obtain ⟨f0,f1⟩:=zk7 T (j/2) hi2;have hx:=hs.cell (j/2) (by omega);rcases Nat.mod_two_eq_zero_or_one j with hm|hm
   ·rw [show j/2*2=j by omega] at f0;have:=hx.c0;rw [show j/2*2=j by omega] at this;rw [this,<-hj,f0]
   ·rw [show j/2*2+1=j by omega] at f1;have:=hx.c1;rw [show o+j/2*2+1=o+j by omega] at this;rw [this,<-hj,f1]) (fun u hu=>by
   unfold zbk encR at hu;simp at hu;obtain ⟨x,_,h|h⟩:=hu<;> (subst h;rfl)) (by unfold maxLen;omega) (by omega) hB
  rw [Qq] at hown;obtain ⟨a',c',e⟩:=zad hown;subst e;refine ⟨a',c',w',hrun,?_,hg⟩;unfold za9;rw [hl];exact hown
theorem wpList_append_run' {P:Program} {ops:Array Oper} {rest:List Oper} {o:Oper} {a:Act} {Q:Exit->Act->World->Prop} (hgd:o.guard=none) (s x:Operand) (t:TypeId)
  (ho:o.op= .call { callee:= .builtin .append,args:= #[s,x],argTypes:= #[t,t] }) {v y v':Value} (hs:a.eval s=v) (hx:a.eval x=y) (hr:(Builtin.append_ #[t,t] o.type #[v,y]).run P w= .ok v' w')
  (h:wpList P ops Q rest (a.put o.dst v') w'):wpList P ops Q (o::rest) a w:=
 wpList_plain hgd fun _ hK=>by
  unfold Oper.wp;simp [execOp,ho,resolve,invoke,builtin,hs,hx,hr,Result.andThen];exact hK _ _ h
section
variable (a:Option Addr)
theorem yis (A o n c:Nat) (T:List ByteArray) (w:World) (hs:zdg w a A o n T) (hc:a=none->c=0) (hn:n<=1048577):
  Calls prog 168 #[.slice a n c] w fun e w'=>∃a' c',e= .returned (.slice a' n c')/\zcx w' w.heap.size (.slice a' n c') T/\Bl w w':=by
 obtain ⟨a',c',w1,hrun,ho,hg⟩:=yex (w:=w) (B:=w.heap.size) hs hc hn (Qc _);have HB:Hid (Bl w w1):=⟨hg.os,hg.tape,hg.output,hg.size,fun k hk=>hg.block k hk (by simp)⟩;have HR:Hid ((Builtin.append_ #[25,25] 25 #[.slice none 0 0,.slice a n c]).run prog w= .ok (.slice a' n c') w1):=hrun;have HO:Hid (zcx w1 w.heap.size (.slice a' n c') T):=ho;clear hs hc hrun ho hg;go_enter func168,ntmps168;go_wp2_with (at_builtin;refine wpList_append_run' rfl _ _ 25 rfl rfl rfl HR.out ?_);go_ret;exact ⟨a',c',rfl,HO.out,HB.out⟩
theorem yj1 (A n c:Nat) (T:List Pr) (w:World) (hs:za6 w a A n T) (hc:a=none->c=0) (hn:n<=1048577):
  Calls prog 169 #[.slice a n c] w fun e w'=>∃a' c',e= .returned (.slice a' n c')/\zd2 w' w.heap.size (.slice a' n c') T/\Bl w w':=by
 obtain ⟨a',c',w1,hrun,ho,hg⟩:=zzm (w:=w) (B:=w.heap.size) hs hc hn (Qc _);have HB:Hid (Bl w w1):=⟨hg.os,hg.tape,hg.output,hg.size,fun k hk=>hg.block k hk (by simp)⟩;have HR:Hid ((Builtin.append_ #[42,42] 42 #[.slice none 0 0,.slice a n c]).run prog w= .ok (.slice a' n c') w1):=hrun;have HO:Hid (zd2 w1 w.heap.size (.slice a' n c') T):=ho;clear hs hc hrun ho hg;go_enter func169,ntmps169;go_wp2_with (at_builtin;refine wpList_append_run' rfl _ _ 42 rfl rfl rfl HR.out ?_);go_ret;exact ⟨a',c',rfl,HO.out,HB.out⟩
theorem yjw (A o n c:Nat) (T:List Rk) (w:World) (hs:zdh w a A o n T) (hc:a=none->c=0) (hn:n<=1048577):
  Calls prog 170 #[.slice a n c] w fun e w'=>∃a' c',e= .returned (.slice a' n c')/\za9 w' w.heap.size (.slice a' n c') T/\Bl w w':=by
 obtain ⟨a',c',w1,hrun,ho,hg⟩:=yar (w:=w) (B:=w.heap.size) hs hc hn (Qc _);have HB:Hid (Bl w w1):=⟨hg.os,hg.tape,hg.output,hg.size,fun k hk=>hg.block k hk (by simp)⟩;have HR:Hid ((Builtin.append_ #[43,43] 43 #[.slice none 0 0,.slice a n c]).run prog w= .ok (.slice a' n c') w1):=hrun;have HO:Hid (za9 w1 w.heap.size (.slice a' n c') T):=ho;clear hs hc hrun ho hg;go_enter func170,ntmps170;go_wp2_with (at_builtin;refine wpList_append_run' rfl _ _ 43 rfl rfl rfl HR.out ?_);go_ret;exact ⟨a',c',rfl,HO.out,HB.out⟩
end
theorem zhi {W:World} {q j:Nat} {e:TypeId} {size:Nat} {u:Value} {xs:List Value} (h:W.ownsRow B e size v n xs) (hr:zab W q T C) (hT:T≠e):(W.setCell ⟨q,j,none⟩ u).ownsRow B e size v n xs:=
 ownsRow_setCell_other h (fun e=>Hp.own_ne h hr hT e.symm) _
abbrev zx8 (w:World) (v0 v1 v2 v3 v4 v5 v6:Value) (b:Nat):World:=((((((w.setCell ⟨b,0,none⟩ v0).setCell ⟨b,1,none⟩ v1).setCell ⟨b,2,none⟩ v2).setCell ⟨b,3,none⟩ v3).setCell ⟨b,4,none⟩ v4).setCell ⟨b,5,none⟩ v5).setCell ⟨b,6,none⟩ v6
theorem zg8 (w:World) (v0 v1 v2 v3 v4 v5 v6:Value) (b k:Nat) (h:k≠b):(zx8 w v0 v1 v2 v3 v4 v5 v6 b).heap[k]?=w.heap[k]?:=by
 have e:∀(w:World) (o:Nat) (v:Value),(w.setCell ⟨b,o,none⟩ v).heap[k]?=w.heap[k]?:=fun w o v=>Below.heap_setCell _ _ _ _ h;rw [e,e,e,e,e,e,e]
theorem zg7 {w1:World} (h:Below B w w1) (v0 v1 v2 v3 v4 v5 v6:Value) (b:Nat) (hb:B<=b):Below B w (zx8 w1 v0 v1 v2 v3 v4 v5 v6 b):=
 ((((((h.setCell hb _).setCell hb _).setCell hb _).setCell hb _).setCell hb _).setCell hb _).setCell hb _
abbrev z7:Array Value:= #[.string ⟨#[]⟩,.int .i64 0,.string ⟨#[]⟩,.slice none 0 0,.slice none 0 0,.slice none 0 0,.int .i64 0]
def yae (w:World) (k:Ke) (e:Ending) (w':World):Prop:=
 ∃a1 c1 a2 c2 a3 c3,e= .returned (.agg (kC k.name k.val.kind k.val.text (.slice a1 k.val.ia.length c1) (.slice a2 k.val.pj.length c2) (.slice a3 k.val.rq.length c3) k.due))/\VOwn w' w.heap.size k.val (.slice a1 k.val.ia.length c1) (.slice a2 k.val.pj.length c2) (.slice a3 k.val.rq.length c3)/\Bl w w'
theorem ydx (k:Ke) (vi vp vr:Value) (w:World) (h:VRd w k.val vi vp vr) (h1:k.val.ia.length<=1048577) (h2:k.val.pj.length<=1048577) (h3:k.val.rq.length<=1048577):
  Calls prog 124 #[.agg (kC k.name k.val.kind k.val.text vi vp vr k.due)] w (yae w k):=by
 obtain ⟨⟨a1,A1,o1,c1,e1,s1,z1⟩,⟨a2,A2,c2,e2,s2,z2⟩,⟨a3,A3,o3,c3,e3,s3,z3⟩⟩:=h;subst e1 e2 e3;obtain ⟨nm,⟨kd,tx,is,ps,rs⟩,due⟩:=k;dsimp only at s1 s2 s3 h1 h2 h3 ⊢;obtain ⟨W0,hW0,HW0,b0,r0⟩:=boxed w (kC nm kd tx (.slice a1 is.length c1) (.slice a2 ps.length c2) (.slice a3 rs.length c3) due) 47;obtain ⟨W1,hW1,HW1,b1,r1⟩:=boxed W0 (kC ⟨#[]⟩ 0 ⟨#[]⟩ (.slice none 0 0) (.slice none 0 0) (.slice none 0 0) 0) 47;obtain ⟨W2,hW2,HW2,b2,r2⟩:=boxed W1 (vC kd tx (.slice a1 is.length c1) (.slice a2 ps.length c2) (.slice a3 rs.length c3)) 45;have q0:W0.heap.size=w.heap.size+1:=by rw [<-hW0];simp
 have q1:W1.heap.size=w.heap.size+2:=by rw [<-hW1];simp [q0]
 rw [q0] at r1;have hV:w.heap.size+1<W1.heap.size:=by omega
 have b01:Bl w W1:=b0.trans (b1.mono b0.size);have b02:Bl w W2:=b01.trans (b2.mono b01.size);have r01:=r0.bw b1 r0.lt;have r02:=r01.bw b2 r01.lt;have r12:=r1.bw b2 r1.lt;have HC1:Hid (Cp 168 #[.slice a1 is.length c1] W2 fun e w'=>∃a' c',e= .returned (.slice a' is.length c')/\zcx w' W2.heap.size (.slice a' is.length c') is/\Bl W2 w'):=yis a1 A1 o1 is.length c1 is W2 (zdb s1 b02) z1 h1;have HC2:Hid (∀W,Bl w W->Cp 169 #[.slice a2 ps.length c2] W fun e w'=>∃a' c',e= .returned (.slice a' ps.length c')/\zd2 w' W.heap.size (.slice a' ps.length c') ps/\Bl W w'):=fun W hb=>yj1 a2 A2 ps.length c2 ps W (s2.bw hb) z2 h2;have HC3:Hid (∀W,Bl w W->Cp 170 #[.slice a3 rs.length c3] W fun e w'=>∃a' c',e= .returned (.slice a' rs.length c')/\za9 w' W.heap.size (.slice a' rs.length c') rs/\Bl W w'):=fun W hb=>yjw a3 A3 o3 rs.length c3 rs W (s3.bw hb) z3 h3
 have HFIN:Hid (∀(W:World) (x1:Option Addr) (y1:Nat) (x2:Option Addr) (y2:Nat) (x3:Option Addr) (y3:Nat),zcx W w.heap.size (.slice x1 is.length y1) is->zd2 W w.heap.size (.slice x2 ps.length y2) ps->za9 W w.heap.size (.slice x3 rs.length y3) rs->Bl w W->
   yae w ⟨nm,⟨kd,tx,is,ps,rs⟩,due⟩ (.returned (.agg (kC nm kd tx (.slice x1 is.length y1) (.slice x2 ps.length y2) (.slice x3 rs.length y3) due))) W):=fun W x1 y1 x2 y2 x3 y3 p1 p2 p3 pb=>⟨x1,y1,x2,y2,x3,y3,rfl,⟨p1,p2,p3⟩,pb⟩
 have HB2:Hid (Bl w W2):=b02;generalize hM:yae w ⟨nm,⟨kd,tx,is,ps,rs⟩,due⟩=M at HFIN ⊢;clear hM s1 s2 s3 hW0 hW1 hW2 b0 b1 b2 b01 b02 r0 r1 z1 z2 z3 q0 q1;have k0:=r01.cell 0;have k1:=r01.cell 1;have k2:=r01.cell 2;have k3:=r01.cell 3;have k4:=r01.cell 4;have k5:=r01.cell 5;have k6:=r01.cell 6;simp only [kC,Qm,Qk,Ql] at k0 k1 k2 k3 k4 k5 k6;generalize is.length=ni,ps.length=np,rs.length=nr at*;go_enter func124,ntmps124;go_upto_region 1 with fail;rw [HW0.out,HW1.out];clear HW0 HW1;go_upto_region 2 with fail;rw [HW2.out];clear HW2 k0 k1 k2 k3 k4 k5 k6 r01;generalize W1.heap.size=V at*;have v2:=r2.cell 2;simp only [vC,Qm,Qk,Ql] at v2;go_wp2_with fail;refine HC1.out.mono ?_;rintro e w3 ⟨x1,y1,rfl,o1,b3⟩;have r03:=r02.bw b3 r02.lt;have r13:=r12.bw b3 r12.lt;have r23:=r2.bw b3 r2.lt;have hb3:Bl w w3:=HB2.out.trans (b3.mono HB2.out.size);have hsz2:=HB2.out.size;have O1:=Go.Joins.ownsRow_le o1 (base':=w.heap.size) hsz2;obtain ⟨W4,hW4⟩:∃W4,w3.setCell ⟨V,2,none⟩ (.slice x1 ni y1)=W4:=⟨_,rfl⟩;have HW4:Hid (w3.setCell ⟨V,2,none⟩ (.slice x1 ni y1)=W4):=hW4;have r24:zab W4 V 45 (vC kd tx (.slice x1 ni y1) (.slice a2 np c2) (.slice a3 nr c3)):=by rw [<-hW4];exact r23.set 2 _
 have r04:zab W4 w.heap.size 47 (kC nm kd tx (.slice a1 ni c1) (.slice a2 np c2) (.slice a3 nr c3) due):=by rw [<-hW4];exact (Below.heap_setCell _ _ _ _ (by simp only;omega)).trans r03
 have r14:zab W4 (w.heap.size+1) 47 (kC ⟨#[]⟩ 0 ⟨#[]⟩ (.slice none 0 0) (.slice none 0 0) (.slice none 0 0) 0):=by rw [<-hW4];exact (Below.heap_setCell _ _ _ _ (by simp only;omega)).trans r13
 have O14:zcx W4 w.heap.size (.slice x1 ni y1) is:=by rw [<-hW4];exact zhi O1 r23 (by decide)
 have hb4:Bl w W4:=by rw [<-hW4];exact hb3.setCell (p:=⟨V,2,none⟩) (by simp only;omega) _
 have g2:=r23.cell 2;have f2:=r23.frozen 2;simp only [vC,Qm,Qk,Ql] at g2;clear hW4 r23 r03 r13 O1 o1 b3 hb3 r02 r12 r2 v2 HC1;go_upto_region 3 with fail;rw [HW4.out];clear HW4 g2 f2;have v3:=r24.cell 3;simp only [vC,Qm,Qk,Ql] at v3;go_wp2_with fail;refine (HC2.out W4 hb4).mono ?_;rintro e w5 ⟨x2,y2,rfl,o2,b5⟩;have r05:=r04.bw b5 r04.lt;have r15:=r14.bw b5 r14.lt;have r25:=r24.bw b5 r24.lt;have O15:=zaf O14 b5;have hb5:Bl w w5:=hb4.trans (b5.mono hb4.size);have O2:=Go.Joins.ownsRow_le o2 (base':=w.heap.size) hb4.size;obtain ⟨W6,hW6⟩:∃W6,w5.setCell ⟨V,3,none⟩ (.slice x2 np y2)=W6:=⟨_,rfl⟩;have HW6:Hid (w5.setCell ⟨V,3,none⟩ (.slice x2 np y2)=W6):=hW6;have r26:zab W6 V 45 (vC kd tx (.slice x1 ni y1) (.slice x2 np y2) (.slice a3 nr c3)):=by rw [<-hW6];exact r25.set 3 _
 have r06:zab W6 w.heap.size 47 (kC nm kd tx (.slice a1 ni c1) (.slice a2 np c2) (.slice a3 nr c3) due):=by rw [<-hW6];exact (Below.heap_setCell _ _ _ _ (by simp only;omega)).trans r05
 have r16:zab W6 (w.heap.size+1) 47 (kC ⟨#[]⟩ 0 ⟨#[]⟩ (.slice none 0 0) (.slice none 0 0) (.slice none 0 0) 0):=by rw [<-hW6];exact (Below.heap_setCell _ _ _ _ (by simp only;omega)).trans r15
 have O16:zcx W6 w.heap.size (.slice x1 ni y1) is:=by rw [<-hW6];exact zhi O15 r25 (by decide)
 have O26:zd2 W6 w.heap.size (.slice x2 np y2) ps:=by rw [<-hW6];exact zhi O2 r25 (by decide)
 have hb6:Bl w W6:=by rw [<-hW6];exact hb5.setCell (p:=⟨V,3,none⟩) (by simp only;omega) _
 have g3:=r25.cell 3;have f3:=r25.frozen 3;simp only [vC,Qm,Qk,Ql] at g3;clear hW6 r25 r05 r15 O2 o2 b5 hb5 r04 r14 r24 v3 HC2 O14 O15 hb4;go_upto_region 4 with fail;rw [HW6.out];clear HW6 g3 f3;have v4:=r26.cell 4;simp only [vC,Qm,Qk,Ql] at v4;go_wp2_with fail;refine (HC3.out W6 hb6).mono ?_;rintro e w7 ⟨x3,y3,rfl,o3,b7⟩;have r07:=r06.bw b7 r06.lt;have r17:=r16.bw b7 r16.lt;have r27:=r26.bw b7 r26.lt;have O17:=zaf O16 b7;have O27:=zaf O26 b7;have hb7:Bl w w7:=hb6.trans (b7.mono hb6.size);have O3:=Go.Joins.ownsRow_le o3 (base':=w.heap.size) hb6.size;obtain ⟨W8,hW8⟩:∃W8,w7.setCell ⟨V,4,none⟩ (.slice x3 nr y3)=W8:=⟨_,rfl⟩;have HW8:Hid (w7.setCell ⟨V,4,none⟩ (.slice x3 nr y3)=W8):=hW8;have r28:zab W8 V 45 (vC kd tx (.slice x1 ni y1) (.slice x2 np y2) (.slice x3 nr y3)):=by rw [<-hW8];exact r27.set 4 _
 have r08:zab W8 w.heap.size 47 (kC nm kd tx (.slice a1 ni c1) (.slice a2 np c2) (.slice a3 nr c3) due):=by rw [<-hW8];exact (Below.heap_setCell _ _ _ _ (by simp only;omega)).trans r07
 have r18:zab W8 (w.heap.size+1) 47 (kC ⟨#[]⟩ 0 ⟨#[]⟩ (.slice none 0 0) (.slice none 0 0) (.slice none 0 0) 0):=by rw [<-hW8];exact (Below.heap_setCell _ _ _ _ (by simp only;omega)).trans r17
 have O18:zcx W8 w.heap.size (.slice x1 ni y1) is:=by rw [<-hW8];exact zhi O17 r27 (by decide)
 have O28:zd2 W8 w.heap.size (.slice x2 np y2) ps:=by rw [<-hW8];exact zhi O27 r27 (by decide)
 have O38:za9 W8 w.heap.size (.slice x3 nr y3) rs:=by rw [<-hW8];exact zhi O3 r27 (by decide)
 have hb8:Bl w W8:=by rw [<-hW8];exact hb7.setCell (p:=⟨V,4,none⟩) (by simp only;omega) _
 have g4:=r27.cell 4;have f4:=r27.frozen 4;simp only [vC,Qm,Qk,Ql] at g4;clear hW8 r27 r07 r17 O3 o3 b7 hb7 r06 r16 r26 v4 HC3 O16 O17 O26 O27 hb6;go_upto_region 5 with fail;rw [HW8.out];clear HW8 g4 f4;obtain ⟨k0,k1,k2,k3,k4,k5,k6⟩:=zdo r08;obtain ⟨v0,v1,v2,v3,v4⟩:=zmn r28;obtain ⟨m0,m1,m2,m3,m4,m5,m6⟩:=zdo r18;have f0:=r18.frozen 0;have f1:=r18.frozen 1;have f2:=r18.frozen 2;have f3:=r18.frozen 3;have f4:=r18.frozen 4;have f5:=r18.frozen 5;have f6:=r18.frozen 6;have hz:∀{e size n u xs},47≠e->W8.ownsRow w.heap.size e size u n xs->(zx8 W8 (.string nm) (.int .i64 kd) (.string tx) (.slice x1 ni y1) (.slice x2 np y2) (.slice x3 nr y3) (.int .i64 due) (w.heap.size+1)).ownsRow w.heap.size e size u n xs:=fun he hh=>zai hh fun g hg=>zg8 W8 _ _ _ _ _ _ _ _ g (fun eq=>Hp.own_ne hh r18 he (by rw [hg,eq]));have hfin:zab (zx8 W8 (.string nm) (.int .i64 kd) (.string tx) (.slice x1 ni y1) (.slice x2 np y2) (.slice x3 nr y3) (.int .i64 due) (w.heap.size+1)) (w.heap.size+1) 47 (kC nm kd tx (.slice x1 ni y1) (.slice x2 np y2) (.slice x3 nr y3) due):=by
  have:=((((((r18.set 0 (.string nm)).set 1 (.int .i64 kd)).set 2 (.string tx)).set 3 (.slice x1 ni y1)).set 4 (.slice x2 np y2)).set 5 (.slice x3 nr y3)).set 6 (.int .i64 due);simpa using this
 obtain ⟨g0,g1,g2,g3,g4,g5,g6⟩:=zdo hfin;have HE:Hid (M (.returned (.agg (kC nm kd tx (.slice x1 ni y1) (.slice x2 np y2) (.slice x3 nr y3) due))) (zx8 W8 (.string nm) (.int .i64 kd) (.string tx) (.slice x1 ni y1) (.slice x2 np y2) (.slice x3 nr y3) (.int .i64 due) (w.heap.size+1))):=HFIN.out _ x1 y1 x2 y2 x3 y3 (hz (by decide) O18) (hz (by decide) O28) (hz (by decide) O38) (zg7 hb8 (.string nm) (.int .i64 kd) (.string tx) (.slice x1 ni y1) (.slice x2 np y2) (.slice x3 nr y3) (.int .i64 due) (w.heap.size+1) (by omega));clear HFIN hz hfin O18 O28 O38 hb8 r08 r18 r28;go_wp2;exact bodyPost_ret (v:= .agg (kC nm kd tx (.slice x1 ni y1) (.slice x2 np y2) (.slice x3 nr y3) due)) (by simp [results,results124,go_sem,g0,g1,g2,g3,g4,g5,g6]) rfl HE.out
theorem yhs {b p:Nat} (h:zab w p T C) (hg:w.grownBy w' (some b)) (hpb:p≠b):zab w' p T C:=
 (hg.block p h.lt (fun e=>by cases e;exact hpb rfl)).trans h
theorem yk0 (b n p:Nat) (now:Int) (D:DataW Value) (w:World) (hown:w.ownsMap prog 9 RK b n D) (hp:zab w p 2 #[.int .i64 now]) (hpb:p≠b):
  Calls prog 88 #[.map (some b),.func (.func 89) #[] #[.pointer (some ⟨p,0,none⟩)]] w fun e w'=>e= .returned (.tuple #[])/\w'.ownsMap prog 9 RK b n (Lib.deleteFuncD (zms now) D)/\w.grownBy w' (some b):=by
 obtain ⟨es0,rfl,hap,hkeys⟩:=hown.entries zr0;have HP:Hid (∀W,w.grownBy W (some b)->zab W p 2 #[.int .i64 now]):=fun W hg=>yhs hp hg hpb;clear hp;go_enter func88,ntmps88
 go_wp2_with (first
  |(at_range;refine wpList_range_own _ rfl _ 70 rfl 9 47 zr0 underlying70 RK b n _ rfl hown ?_;intro w0 hrg0 hg0 hs0)
  |go_in)
 go_frame;go_loopw [8] (fun _ wr=>∃(left:Lit->Bool) (cnt:Nat),wr.ranges prog 9 RK b w.heap.size n (Fk (zms now) es0 left) left cnt/\w.grownBy wr (some b))
  (fun _ wr=>wr.rangeLeft b w.heap.size)
 case atStart=>exact ⟨_,_,by rw [Fk_start hkeys];exact hrg0,hg0.but _⟩
 case round=>
  obtain ⟨left,cnt,hrg,hgw⟩:=hrel
  go_wp2_with (first
   |(at_next;refine wpList_next_ranges _ rfl _ rfl 9 zr0 RK id yce (fun key _ _=>⟨key,rfl⟩) (fun v y h=>by obtain ⟨x,e,_⟩:=zrd h;exact ⟨x,e⟩) b w.heap.size n _ _ _ rfl hrg ?_ ?_)
   |go_in)
  ·intro _ hl0;go_wp2;go_end0;exact ⟨rfl,by rw [<-Fk_end hl0];exact hrg.owns,hgw⟩
  ·intro x c kl yd yp w1 cnt1 hkey hlx hv hat hrg1 hlt hg1 hs1 hen;have hy:(yd,yp)=(DataW.held (yce c),[]):=Option.some.inj (hv.symm.trans (ykg c));injection hy with hy1 hy2;subst hy1 hy2;have hgw1:=hgw.andThen hg1 (fun j hj=>by cases hj;exact Or.inl (Qc _));have hbl:=hrg1.owns.lt;have hrl:=hrg1.lt;have hp1:=HP.out w1 hgw1;obtain ⟨A1,hA1,HA1,bA,rA⟩:=boxed w1 (yi7 c) 47;have hpA:=hp1.bw bA hp1.lt;have CL:Hid (Cp 89 (#[x,yce c]++ #[.pointer (some ⟨p,0,none⟩)]) A1 fun e w'=>e= .returned (.bool (zej now c.due))/\A1.grownBy w' none):=yjp x c p now A1 (hpA.cell 0) hpA.lt;have gA:w1.grownBy A1 none:=⟨bA.os,bA.tape,bA.output,bA.size,fun k hk _=>bA.block k hk⟩;have HRG:Hid (A1.ranges prog 9 RK b w.heap.size n (Fk (zms now) es0 left) (fun z=>left z&&!z.sameKey kl) cnt1):=hrg1.kept gA (by simp) (by simp);have HGW:Hid (w.grownBy A1 (some b)):=hgw1.andThen gA (fun j hj=>by cases hj);have HDP:Hid (∀v,zej now c.due=v->zms now kl (.held (yce c))=v):=fun v h=>h;have HAT:Hid (∀zd,(Fk (zms now) es0 left).atKey kl zd= .held (yce c)):=hat;have HLE:Hid (cnt1<cnt):=hlt;have HRC:Hid (wr.ranges prog 9 RK b w.heap.size n (Fk (zms now) es0 left) left cnt):=hrg;obtain ⟨nm,kd,tx,a1,n1,k1,a2,n2,k2,a3,n3,k3,due⟩:=c;have c0:=rA.cell 0;have c1:=rA.cell 1;have c2:=rA.cell 2;have c3:=rA.cell 3;have c4:=rA.cell 4;have c5:=rA.cell 5;have c6:=rA.cell 6;simp only [yi7,kC,Qm,Qk,Ql] at c0 c1 c2 c3 c4 c5 c6;dsimp only at HA1 CL HDP HAT;clear hA1 bA rA gA hs1 hp1 hpA hrg hrg1 hlt hat hgw hgw1 HP hv;generalize zej now due=gb at*;go_upto_region 3 with fail;rw [HA1.out];clear HA1;go_wp2_with fail;refine CL.out.mono ?_;rintro e w2 ⟨rfl,hg2⟩;have hrg2:=HRG.out.kept hg2 (by simp) (by simp);have hgw2:=HGW.out.andThen hg2 (fun j hj=>by cases hj);cases gb with
   |false=>
    go_wp2;go_roundw
    case rel=>exact ⟨_,cnt1,by rw [<-Fk_stays hap (zr0.key hkey) hlx (HDP.out _ rfl) HAT.out];exact hrg2,hgw2⟩
    case measure=>rw [hrg2.left_eq,HRC.out.left_eq];exact HLE.out
   |true=>
    go_wp2_with (first
     |(at_delete;refine wpList_delete_ranges _ rfl _ _ 70 9 rfl 47 zr0 underlying70 RK b w.heap.size n _ _ _ rfl hrg2 _ _ rfl hkey ?_;intro w3 cnt3 hrg3 hle hturn;go_frame)
     |go_in)
    rw [strike_twice] at hrg3;go_roundw
    case rel=>exact ⟨_,cnt3,by rw [<-Fk_struck hap (zr0.key hkey) hlx (HDP.out _ rfl) HAT.out];exact hrg3,hgw2.andThen hturn.grown (fun j hj=>by cases hj;exact Or.inr rfl)⟩
    case measure=>rw [hrg3.left_eq,HRC.out.left_eq];have:=HLE.out;omega
end Go.Proofs.YtokafonppgppdaaGreatDoor.Ri
