import Derived.Test.YtokafonppgppdaaGreatDoorR42
import Derived.Test.YtokafonppgppdaaGreatDoorC42
set_option maxHeartbeats 4000000
set_option maxRecDepth 100000
namespace Go.Proofs.YtokafonppgppdaaGreatDoor
namespace Rb
open Tryz
open Go.RowKit Go.Maps
open Ri (F4 RK UpK Fq G2 Nb Mk Ln kvA z7 Ow Rv Ou Ru)
variable {j d b n t k:Nat} {v c0 c1 c2 c3 c4:Value} {x y z:Int} {ad:Nat->Addr} {c:Cm} {W:World}
structure Tk where
 build::
 g:Nat
 a:Nat
 b:Nat
 c:Nat
abbrev Tk.ld (j:Nat):Tk:= .build 0 j 0 0
abbrev Tk.mk (a b c:Nat):Tk:= .build 1 a b c
abbrev Tk.on (n s:Nat):Tk:= .build 2 n s 0
def Tk.op (t:Tk):Op:=match t.g with
 |0=> .load 118 (.tmp (1+t.a))
 |1=> .build 118 #[(0,.const (.int .i64 t.a)),(1,.const (.int .i64 t.b)),(2,.const (.int .i64 t.c))]
 |_=> .call { callee:= .value (.func 177),args:= #[.const (.int .i64 t.a),.const (.int .i64 t.b)],argTypes:= #[3,3] }
def Tk.lo (t:Tk):Nat:=t.a
def Tk.hi (t:Tk):Nat:=match t.g with
 |0=>t.a
 |1=>t.b
 |_=>16
def Tk.st (t:Tk):Nat:=match t.g with
 |0=>1
 |1=>t.c
 |_=>t.b
def Tk.val (t:Tk):Value:= .agg #[.int .i64 t.lo,.int .i64 t.hi,.int .i64 t.st]
structure Rw where
 tk:Tk
 kd:Nat
 fn:Nat
 nm:ByteArray
def Rw.val (r:Rw):Value:= .agg #[.int .i64 r.kd,.int .i64 r.tk.lo,.int .i64 r.tk.hi,.int .i64 r.tk.st,.func (.func r.fn) #[] #[]]
def rw0:Rw:=⟨.ld 0,0,0,⟨#[]⟩⟩
def ykz:List Rw:=[
 ⟨.mk 0 1 1,0,172,⟨#[80,73,78,71]⟩⟩,
 ⟨.ld 1,0,173,⟨#[69,67,72,79]⟩⟩,
 ⟨.ld 0,0,174,⟨#[75,69,89,83]⟩⟩,
 ⟨.ld 0,0,175,⟨#[68,66,83,73,90,69]⟩⟩,
 ⟨.ld 0,0,176,⟨#[70,76,85,83,72,65,76,76]⟩⟩,
 ⟨.on 1 1,0,178,⟨#[68,69,76]⟩⟩,
 ⟨.on 1 1,0,179,⟨#[69,88,73,83,84,83]⟩⟩,
 ⟨.mk 2 4 2,0,180,⟨#[83,69,84]⟩⟩,
 ⟨.ld 2,0,181,⟨#[83,69,84,78,88]⟩⟩,
 ⟨.ld 1,0,182,⟨#[84,89,80,69]⟩⟩,
 ⟨.ld 1,0,183,⟨#[84,84,76]⟩⟩,
 ⟨.ld 1,0,184,⟨#[80,69,82,83,73,83,84]⟩⟩,
 ⟨.ld 2,0,185,⟨#[69,88,80,73,82,69]⟩⟩,
 ⟨.ld 1,1,186,⟨#[71,69,84]⟩⟩,
 ⟨.ld 1,1,187,⟨#[83,84,82,76,69,78]⟩⟩,
 ⟨.ld 3,1,188,⟨#[71,69,84,82,65,78,71,69]⟩⟩,
 ⟨.ld 2,1,189,⟨#[65,80,80,69,78,68]⟩⟩,
 ⟨.ld 2,1,190,⟨#[73,78,67,82,66,89]⟩⟩,
 ⟨.on 2 1,2,191,⟨#[76,80,85,83,72]⟩⟩,
 ⟨.on 2 1,2,192,⟨#[82,80,85,83,72]⟩⟩,
 ⟨.ld 1,2,193,⟨#[76,80,79,80]⟩⟩,
 ⟨.ld 1,2,194,⟨#[82,80,79,80]⟩⟩,
 ⟨.ld 1,2,195,⟨#[76,76,69,78]⟩⟩,
 ⟨.ld 3,2,196,⟨#[76,82,65,78,71,69]⟩⟩,
 ⟨.on 3 2,3,197,⟨#[72,83,69,84]⟩⟩,
 ⟨.ld 2,3,198,⟨#[72,71,69,84]⟩⟩,
 ⟨.on 2 1,3,199,⟨#[72,68,69,76]⟩⟩,
 ⟨.ld 1,3,200,⟨#[72,76,69,78]⟩⟩,
 ⟨.ld 1,3,201,⟨#[72,71,69,84,65,76,76]⟩⟩,
 ⟨.on 3 2,4,202,⟨#[90,65,68,68]⟩⟩,
 ⟨.on 2 1,4,203,⟨#[90,82,69,77]⟩⟩,
 ⟨.ld 1,4,204,⟨#[90,67,65,82,68]⟩⟩,
 ⟨.ld 2,4,205,⟨#[90,83,67,79,82,69]⟩⟩,
 ⟨.ld 2,4,206,⟨#[90,82,65,78,75]⟩⟩,
 ⟨.ld 3,4,207,⟨#[90,82,65,78,71,69]⟩⟩]
def Hi (k:Nat):Rw:=ykz.getD k rw0
def opsOf (f:Func):Array Oper:=match f.body with
 |some (.seq _ (.seq _ (.seq (.region _ ops _) _)))=>ops
 |_=>#[]
theorem S8:(opsOf Tryz.f125).size=108:=by kernel_rfl
theorem yke:∀k,k<35->∃o,(opsOf Tryz.f125)[3*k+1]?=some o/\o.guard=none/\o.dst=some (10+2*k)/\o.op=(Hi k).tk.op
 |0,_=>⟨_,rfl,rfl,rfl,rfl⟩
 |1,_=>⟨_,rfl,rfl,rfl,rfl⟩
 |2,_=>⟨_,rfl,rfl,rfl,rfl⟩
 |3,_=>⟨_,rfl,rfl,rfl,rfl⟩
 |4,_=>⟨_,rfl,rfl,rfl,rfl⟩
 |5,_=>⟨_,rfl,rfl,rfl,rfl⟩
 |6,_=>⟨_,rfl,rfl,rfl,rfl⟩
 |7,_=>⟨_,rfl,rfl,rfl,rfl⟩
 |8,_=>⟨_,rfl,rfl,rfl,rfl⟩
 |9,_=>⟨_,rfl,rfl,rfl,rfl⟩
 |10,_=>⟨_,rfl,rfl,rfl,rfl⟩
 |11,_=>⟨_,rfl,rfl,rfl,rfl⟩
 |12,_=>⟨_,rfl,rfl,rfl,rfl⟩
 |13,_=>⟨_,rfl,rfl,rfl,rfl⟩
 |14,_=>⟨_,rfl,rfl,rfl,rfl⟩
 |15,_=>⟨_,rfl,rfl,rfl,rfl⟩
 |16,_=>⟨_,rfl,rfl,rfl,rfl⟩
 |17,_=>⟨_,rfl,rfl,rfl,rfl⟩
 |18,_=>⟨_,rfl,rfl,rfl,rfl⟩
 |19,_=>⟨_,rfl,rfl,rfl,rfl⟩
 |20,_=>⟨_,rfl,rfl,rfl,rfl⟩
 |21,_=>⟨_,rfl,rfl,rfl,rfl⟩
 |22,_=>⟨_,rfl,rfl,rfl,rfl⟩
 |23,_=>⟨_,rfl,rfl,rfl,rfl⟩
 |24,_=>⟨_,rfl,rfl,rfl,rfl⟩
 |25,_=>⟨_,rfl,rfl,rfl,rfl⟩
 |26,_=>⟨_,rfl,rfl,rfl,rfl⟩
 |27,_=>⟨_,rfl,rfl,rfl,rfl⟩
 |28,_=>⟨_,rfl,rfl,rfl,rfl⟩
 |29,_=>⟨_,rfl,rfl,rfl,rfl⟩
 |30,_=>⟨_,rfl,rfl,rfl,rfl⟩
 |31,_=>⟨_,rfl,rfl,rfl,rfl⟩
 |32,_=>⟨_,rfl,rfl,rfl,rfl⟩
 |33,_=>⟨_,rfl,rfl,rfl,rfl⟩
 |34,_=>⟨_,rfl,rfl,rfl,rfl⟩
 |n+35,h=>absurd h (by omega)
theorem yju:∀k,k<35->∃o,(opsOf Tryz.f125)[3*k+2]?=some o/\o.guard=none/\o.dst=some (11+2*k)/\o.op= .build 122 #[(0,.const (.int .i64 (Hi k).kd)),(1,.tmp (10+2*k)),(2,.func (Hi k).fn)]
 |0,_=>⟨_,rfl,rfl,rfl,rfl⟩
 |1,_=>⟨_,rfl,rfl,rfl,rfl⟩
 |2,_=>⟨_,rfl,rfl,rfl,rfl⟩
 |3,_=>⟨_,rfl,rfl,rfl,rfl⟩
 |4,_=>⟨_,rfl,rfl,rfl,rfl⟩
 |5,_=>⟨_,rfl,rfl,rfl,rfl⟩
 |6,_=>⟨_,rfl,rfl,rfl,rfl⟩
 |7,_=>⟨_,rfl,rfl,rfl,rfl⟩
 |8,_=>⟨_,rfl,rfl,rfl,rfl⟩
 |9,_=>⟨_,rfl,rfl,rfl,rfl⟩
 |10,_=>⟨_,rfl,rfl,rfl,rfl⟩
 |11,_=>⟨_,rfl,rfl,rfl,rfl⟩
 |12,_=>⟨_,rfl,rfl,rfl,rfl⟩
 |13,_=>⟨_,rfl,rfl,rfl,rfl⟩
 |14,_=>⟨_,rfl,rfl,rfl,rfl⟩
 |15,_=>⟨_,rfl,rfl,rfl,rfl⟩
 |16,_=>⟨_,rfl,rfl,rfl,rfl⟩
 |17,_=>⟨_,rfl,rfl,rfl,rfl⟩
 |18,_=>⟨_,rfl,rfl,rfl,rfl⟩
 |19,_=>⟨_,rfl,rfl,rfl,rfl⟩
 |20,_=>⟨_,rfl,rfl,rfl,rfl⟩
 |21,_=>⟨_,rfl,rfl,rfl,rfl⟩
 |22,_=>⟨_,rfl,rfl,rfl,rfl⟩
 |23,_=>⟨_,rfl,rfl,rfl,rfl⟩
 |24,_=>⟨_,rfl,rfl,rfl,rfl⟩
 |25,_=>⟨_,rfl,rfl,rfl,rfl⟩
 |26,_=>⟨_,rfl,rfl,rfl,rfl⟩
 |27,_=>⟨_,rfl,rfl,rfl,rfl⟩
 |28,_=>⟨_,rfl,rfl,rfl,rfl⟩
 |29,_=>⟨_,rfl,rfl,rfl,rfl⟩
 |30,_=>⟨_,rfl,rfl,rfl,rfl⟩
 |31,_=>⟨_,rfl,rfl,rfl,rfl⟩
 |32,_=>⟨_,rfl,rfl,rfl,rfl⟩
 |33,_=>⟨_,rfl,rfl,rfl,rfl⟩
 |34,_=>⟨_,rfl,rfl,rfl,rfl⟩
 |n+35,h=>absurd h (by omega)
theorem yjl:∀k,k<35->∃o,(opsOf Tryz.f125)[3*k+3]?=some o/\o.guard=none/\o.dst=none/\o.op= .insert 162 (.tmp 9) (.const (.string (Hi k).nm)) (.tmp (11+2*k))
 |0,_=>⟨_,rfl,rfl,rfl,rfl⟩
 |1,_=>⟨_,rfl,rfl,rfl,rfl⟩
 |2,_=>⟨_,rfl,rfl,rfl,rfl⟩
 |3,_=>⟨_,rfl,rfl,rfl,rfl⟩
 |4,_=>⟨_,rfl,rfl,rfl,rfl⟩
 |5,_=>⟨_,rfl,rfl,rfl,rfl⟩
 |6,_=>⟨_,rfl,rfl,rfl,rfl⟩
 |7,_=>⟨_,rfl,rfl,rfl,rfl⟩
 |8,_=>⟨_,rfl,rfl,rfl,rfl⟩
 |9,_=>⟨_,rfl,rfl,rfl,rfl⟩
 |10,_=>⟨_,rfl,rfl,rfl,rfl⟩
 |11,_=>⟨_,rfl,rfl,rfl,rfl⟩
 |12,_=>⟨_,rfl,rfl,rfl,rfl⟩
 |13,_=>⟨_,rfl,rfl,rfl,rfl⟩
 |14,_=>⟨_,rfl,rfl,rfl,rfl⟩
 |15,_=>⟨_,rfl,rfl,rfl,rfl⟩
 |16,_=>⟨_,rfl,rfl,rfl,rfl⟩
 |17,_=>⟨_,rfl,rfl,rfl,rfl⟩
 |18,_=>⟨_,rfl,rfl,rfl,rfl⟩
 |19,_=>⟨_,rfl,rfl,rfl,rfl⟩
 |20,_=>⟨_,rfl,rfl,rfl,rfl⟩
 |21,_=>⟨_,rfl,rfl,rfl,rfl⟩
 |22,_=>⟨_,rfl,rfl,rfl,rfl⟩
 |23,_=>⟨_,rfl,rfl,rfl,rfl⟩
 |24,_=>⟨_,rfl,rfl,rfl,rfl⟩
 |25,_=>⟨_,rfl,rfl,rfl,rfl⟩
 |26,_=>⟨_,rfl,rfl,rfl,rfl⟩
 |27,_=>⟨_,rfl,rfl,rfl,rfl⟩
 |28,_=>⟨_,rfl,rfl,rfl,rfl⟩
 |29,_=>⟨_,rfl,rfl,rfl,rfl⟩
 |30,_=>⟨_,rfl,rfl,rfl,rfl⟩
 |31,_=>⟨_,rfl,rfl,rfl,rfl⟩
 |32,_=>⟨_,rfl,rfl,rfl,rfl⟩
 |33,_=>⟨_,rfl,rfl,rfl,rfl⟩
 |34,_=>⟨_,rfl,rfl,rfl,rfl⟩
 |n+35,h=>absurd h (by omega)
theorem yjv:∃o,(opsOf Tryz.f125)[0]?=some o/\o.guard=none/\o.dst=some 9/\o.op=.makeMap 162 none:=⟨_,rfl,rfl,rfl,rfl⟩
theorem yjx:∃o,(opsOf Tryz.f125)[106]?=some o/\o.guard=none/\o.dst=some 80/\o.op= .move (.tmp 9):=⟨_,rfl,rfl,rfl,rfl⟩
theorem yj4:∃o,(opsOf Tryz.f125)[107]?=some o/\o.guard=none/\o.dst=some 0/\o.op= .assign (.tmp 80):=⟨_,rfl,rfl,rfl,rfl⟩
def Us (O:Array Oper) (i j:Nat):Bool:=((O[i]?).map (·.after.any fun e=>Region.binds .any e&&decide (e.on=j))).getD false
theorem yhd:((List.range 35).all fun k=>Us (opsOf Tryz.f125) (3*k+2) (3*k+1)&&(Us (opsOf Tryz.f125) (3*k+3) 0&&Us (opsOf Tryz.f125) (3*k+3) (3*k+2)))=true:=by kernel_rfl
theorem ya1:(Us (opsOf Tryz.f125) 106 0&&Us (opsOf Tryz.f125) 107 106)=true:=by kernel_rfl
theorem Cq{l:Array Bool}{i:Nat}(h:i∈Region.ready .any (opsOf Tryz.f125) l)(hj:Us (opsOf Tryz.f125) i j=true):l.getD j false=true:=by
 have hr:=(Bw h).2.2;unfold Us at hj;cases ho:(opsOf Tryz.f125)[i]? with
 |none=>rw[ho]at hj;cases hj
 |some o=>
  rw[ho]at hj hr;have hj:(o.after.any fun e=>Region.binds .any e&&decide (e.on=j))=true:=hj;have hr:(o.after.all fun e=>!Region.binds .any e||l.getD e.on false)=true:=hr;rw[Array.any_eq_true]at hj;obtain⟨q,hq,h1⟩:=hj;rw[Qh,decide_eq_true_iff]at h1;have h2:=(Array.all_eq_true.1 hr) q hq;rw[h1.1,h1.2]at h2;simpa using h2
theorem zwl:(List.range (opsOf Tryz.f125).size).all (fun i=> (((opsOf Tryz.f125)[i]?).map (·.after.all fun e=>!Region.binds .any e||decide (e.on<i))).getD false)=true:=by kernel_rfl
theorem yj7:((List.range 35).all fun k=>decide (((List.range 35).find? fun j=>decide ((Hi j).nm=(Hi k).nm))=some k))=true:=by kernel_rfl
section
variable {Q : Exit -> Act -> World -> Prop} {K : Act -> World -> Prop} {i : Nat} {o : Oper} {a : Act} {w w' : World}
theorem Ws(ho:(opsOf Tryz.f125)[i]?=some o)(hg:o.guard=none)(hrun:(execOp a.eval o).run prog w=.ok (.value v) w')(hK:K (a.put o.dst v) w'):wpOp prog (opsOf Tryz.f125) Q i K a w:=
 wpOp_step ho fun K' hK'=>by
  rw[if_pos (by simp[Region.wanted,hg])];unfold Oper.wp;rw[hrun];exact hK' _ _ hK
theorem yhg(ho:(opsOf Tryz.f125)[i]?=some o)(hg:o.guard=none)(hrun:(execOp a.eval o).run prog w=.ok .skip w')(hK:K (a.put o.dst undef) w'):wpOp prog (opsOf Tryz.f125) Q i K a w:=
 wpOp_step ho fun K' hK'=>by
  rw[if_pos (by simp[Region.wanted,hg])];unfold Oper.wp;rw[hrun];exact hK' _ _ hK
theorem yd7{f:FuncId}{args:Array Value}(ho:(opsOf Tryz.f125)[i]?=some o)(hg:o.guard=none)(hrun:(execOp a.eval o).run prog w=.ok (.enter f args) w')(hK:Calls prog f args w' fun e w''=>∃v,e=.returned v/\K (a.put o.dst v) w''):wpOp prog (opsOf Tryz.f125) Q i K a w:=
 wpOp_step ho fun K' hK'=>by
  rw[if_pos (by simp[Region.wanted,hg])];unfold Oper.wp;rw[hrun];refine hK.mono ?_;rintro e w''⟨v,rfl,h⟩;exact hK' _ _ h
end
theorem zth(n s:Int)(w:World):Calls prog 177 #[.int .i64 n,.int .i64 s] w fun e w'=>e=.returned (.agg #[.int .i64 n,.int .i64 16,.int .i64 s])/\Bl w w':=by
 have hb:Bl w (w.alloc (.cells #[.int .i64 n,.int .i64 16,.int .i64 s] 118)):=(Qb _ w).alloc (Qc _) _;go_enter func177,ntmps177;go_wp2;exact bodyPost_ret (v:=.agg #[.int .i64 n,.int .i64 16,.int .i64 s]) (by simp[results,results177,go_sem]) rfl ⟨rfl,hb⟩
theorem zsv(n:Int)(w:World):Calls prog 171 #[.int .i64 n] w fun e w'=>e=.returned (.agg #[.int .i64 n,.int .i64 n,.int .i64 1])/\w'=w.alloc (.cells #[.int .i64 n,.int .i64 n,.int .i64 1] 118):=by
 go_enter func171,ntmps171;go_wp2;exact bodyPost_ret (v:=.agg #[.int .i64 n,.int .i64 n,.int .i64 1]) (by simp[results,results171,go_sem]) rfl ⟨rfl,rfl⟩
def RC (v:Value):Option (DataW Value×List MemPlace):=
 match v with
 | .agg cs=> (match cs.toList with
  | [.int .i64 _,.int .i64 _,.int .i64 _,.int .i64 _,.func _ _ _]=>some (.held v,[])
  | [.int .i64 _,.int .i64 _,.int .i64 _,.int .i64 _,.nilFunc]=>some (.held v,[])
  |_=>none)
 |_=>none
def Rc (l:Array Bool) (s:ByteArray) (z:DataW Value):DataW Value:=match (List.range 35).find? (fun j=>decide ((Hi j).nm=s)) with
 |some k=>if l.getD (3*k+3) false=true then .held (Hi k).val else z
 |none=>z
structure ykk (G:Nat) (l:Array Bool) (a:Act) (w:World) (b:Nat):Prop where
 low:G+3<b
 s9:a.tmps[9]?=some (.map (some b))
 s80:l.getD 106 false=true->a.tmps[80]?=some (.map (some b))
 s0:l.getD 107 false=true->a.tmps[0]?=some (.map (some b))
 own:∃n D,w.ownsMap prog 9 RC b n D/\n+unl l<=108/\IsMap D/\∀s z,D.atKey (.string s.data.toList) z=Rc l s z
structure Mv (w0:World) (G:Nat) (l:Array Bool) (a:Act) (w:World):Prop where
 ls:l.size=108
 sz:a.tmps.size=81
 df:a.defers=[]
 p:∀j,j<4->a.tmps[1+j]?=some (.pointer (some ⟨G+j,0,none⟩))
 r:∀j:Nat,j<4->Fc w (G+j) 118 #[.int .i64 j,.int .i64 j,.int .i64 1]
 t:∀k,k<35->l.getD (3*k+1) false=true->a.tmps[10+2*k]?=some (Hi k).tk.val
 b:∀k,k<35->l.getD (3*k+2) false=true->a.tmps[11+2*k]?=some (Hi k).val
 m:l.getD 0 false=true->∃b,ykk G l a w b
 i3:∀k,k<35->l.getD (3*k+3) false=true->l.getD 0 false=true
 i6:l.getD 106 false=true->l.getD 0 false=true
 i7:l.getD 107 false=true->l.getD 106 false=true
 bel:Bl w0 w
 up:w0.heap.size<=G
theorem yg5{a b:ByteArray}(h:a.data.toList=b.data.toList):a=b:=by
 obtain⟨x⟩:=a;obtain⟨y⟩:=b;have:x=y:=by simpa using congrArg List.toArray h
 rw[this]
theorem O4{a:Act}{x:Value}(h:a.tmps[j]?=some x)(hd:d≠j):(a.put (some d) v).tmps[j]?=some x:=by
 show(a.tmps.setIfInBounds d v)[j]?=_;rw[Array.getElem?_setIfInBounds_ne hd];exact h
theorem Ce{a:Act}(h:d<a.tmps.size):(a.put (some d) v).tmps[d]?=some v:=by
 show(a.tmps.setIfInBounds d v)[d]?=_;rw[Array.getElem?_setIfInBounds_self_of_lt h]
theorem V8{a:Act}:(a.put (some d) v).tmps.size=a.tmps.size:=by
 show(a.tmps.setIfInBounds d v).size=_;simp
theorem Dr{a:Act}(h:a.tmps[d]?=some v):a.eval (.tmp d)=v:=by
 show a.tmps.getD d undef=v;rw[Array.getD_eq_getD_getElem?,h];rfl
theorem Ap{l:Array Bool}{i:Nat}(h:l.getD i true=false):unl (l.setIfInBounds i true)<=unl l:=by have:=Dd h;omega
theorem Ai{l:Array Bool}{i:Nat}(h:∀k,k<35->i≠3*k+3)(s:ByteArray)(z:DataW Value):Rc (l.setIfInBounds i true) s z=Rc l s z:=by
 unfold Rc;split
 ·rename_i k hk;have:=List.mem_range.1 (List.mem_of_find?_eq_some hk);rw[getD_set_ne (h k this)]
 ·rfl
theorem zhn{w w':World}{D:DataW Value}(ho:w.ownsMap prog 9 RC b n D)(hb:Bl w w'):w'.ownsMap prog 9 RC b n D:=
 ho.kept (row:=none) ⟨hb.os,hb.tape,hb.output,hb.size,fun k hk _=>hb.block k hk⟩ (by simp)
theorem Mv.slot{w0 w w':World}{G i:Nat}{l:Array Bool}{a:Act}(h:Mv w0 G l a w)(hb:Bl w w')(hl:l.getD i true=false)(hi3:∀k,k<35->i≠3*k+3)(h0:i≠0)(h6:i≠106)(h7:i≠107)
 (hd:10<=d)(hd2:d<80)(ht:∀k,k<35->d=10+2*k->v=(Hi k).tk.val)(ht2:∀k,k<35->i=3*k+1->d=10+2*k)(hr:∀k,k<35->d=11+2*k->v=(Hi k).val)(hr2:∀k,k<35->i=3*k+2->d=11+2*k):Mv w0 G (l.setIfInBounds i true) (a.put (some d) v) w':=by
 have Ga:d<a.tmps.size:=by rw[h.sz];omega
 refine⟨by simp[h.ls],V8.trans h.sz,h.df,fun j hj=>O4 (h.p j hj) (by omega),fun j hj=>(h.r j hj).bw hb (h.r j hj).lt,fun k hk hu=>?_,fun k hk hu=>?_,?_,?_,?_,?_,h.bel.trans (hb.mono h.bel.size),h.up⟩
 ·by_cases e:d=10+2*k
  ·rw[<-e,Ce Ga,ht k hk e]
  ·refine O4 (h.t k hk ?_) e;by_cases e2:i=3*k+1
   ·exact absurd (ht2 k hk e2) e
   ·rwa[getD_set_ne e2]at hu
 ·by_cases e:d=11+2*k
  ·rw[<-e,Ce Ga,hr k hk e]
  ·refine O4 (h.b k hk ?_) e;by_cases e2:i=3*k+2
   ·exact absurd (hr2 k hk e2) e
   ·rwa[getD_set_ne e2]at hu
 ·rw[getD_set_ne h0];intro hu;obtain⟨b,hm⟩:=h.m hu;obtain⟨n,D,o1,o2,o3,o4⟩:=hm.own;refine⟨b,hm.low,O4 hm.s9 (by omega),?_,?_,n,D,zhn o1 hb,by have:=Ap hl;omega,o3,fun s z=>by rw[o4,Ai hi3]⟩
  ·rw[getD_set_ne h6];exact fun hu=>O4 (hm.s80 hu) (by omega)
  ·rw[getD_set_ne h7];exact fun hu=>O4 (hm.s0 hu) (by omega)
 ·intro k hk;rw[getD_set_ne (hi3 k hk),getD_set_ne h0];exact h.i3 k hk
 ·rw[getD_set_ne h6,getD_set_ne h0];exact h.i6
 ·rw[getD_set_ne h7,getD_set_ne h6];exact h.i7
section
variable {Q : Exit -> Act -> World -> Prop} {w0 w : World} {G : Nat} {l : Array Bool} {a : Act}
theorem zyn{o:Oper}{g:Nat}(hop:o.op=.load 118 (.tmp t))(ht:a.tmps[t]?=some (.pointer (some ⟨g,0,none⟩)))(hr:Fc w g 118 #[.int .i64 x,.int .i64 y,.int .i64 z]):(execOp a.eval o).run prog w=.ok (.value (.agg #[.int .i64 x,.int .i64 y,.int .i64 z])) w:=by
 have c0:=hr.cell 0;have c1:=hr.cell 1;have c2:=hr.cell 2;simp only[Qm,Qk,Ql]at c0 c1 c2;simp[execOp,hop,ht,go_sem,c0,c1,c2]
theorem zxw{o:Oper}(hop:o.op=.build 118 #[(0,.const (.int .i64 x)),(1,.const (.int .i64 y)),(2,.const (.int .i64 z))]):(execOp a.eval o).run prog w=.ok (.value (.agg #[.int .i64 x,.int .i64 y,.int .i64 z])) w:=by
 simp[execOp,hop,go_sem,Act.eval]
theorem zxj{o:Oper}{kd:Int}{f:Nat}(hop:o.op=.build 122 #[(0,.const (.int .i64 kd)),(1,.tmp t),(2,.func f)])(ht:a.tmps[t]?=some (.agg #[.int .i64 x,.int .i64 y,.int .i64 z])):(execOp a.eval o).run prog w=.ok (.value (.agg #[.int .i64 kd,.int .i64 x,.int .i64 y,.int .i64 z,.func (.func f) #[] #[]])) w:=by
 simp[execOp,hop,go_sem,ht]
theorem yi4{o:Oper}{n s:Int}(hop:o.op=.call { callee:=.value (.func 177),args:= #[.const (.int .i64 n),.const (.int .i64 s)],argTypes:= #[3,3] }):(execOp a.eval o).run prog w=.ok (.enter 177 #[.int .i64 n,.int .i64 s]) w:=by
 simp[execOp,hop,go_sem,Act.eval,resolve]
theorem yhx(h:Mv w0 G l a w)(hk:k<35)(hl:l.getD (3*k+1) true=false):wpOp prog (opsOf Tryz.f125) Q (3*k+1) (fun a' w'=>Mv w0 G (l.setIfInBounds (3*k+1) true) a' w') a w:=by
 obtain⟨o,ho,hg,hd,Ga⟩:=yke k hk;have HS:∀w',Bl w w'->Mv w0 G (l.setIfInBounds (3*k+1) true) (a.put o.dst (Hi k).tk.val) w':=fun w' hb=>by
  rw[hd];exact h.slot hb hl (fun q _=>by omega) (by omega) (by omega) (by omega) (by omega) (by omega) (fun q _ e=>by rw[show q=k by omega]) (fun q _ e=>by omega) (fun q _ e=>by omega) (fun q _ e=>by omega)
 have hv:(Hi k).tk.val=.agg #[.int .i64 (Hi k).tk.lo,.int .i64 (Hi k).tk.hi,.int .i64 (Hi k).tk.st]:=rfl;have Gc:((List.range 35).all fun k=>decide ((Hi k).tk.g=0->(Hi k).tk.a<4))=true:=by kernel_rfl
 have Gb:(Hi k).tk.g=0->(Hi k).tk.a<4:=Qg (Qw.1 Gc k (List.mem_range.2 hk));generalize(Hi k).tk=t at Ga hv HS Gb;obtain⟨tg,x,y,z⟩:=t;rcases tg with _|_|tg
 ·have hj:x<4:=Gb rfl;exact Ws ho hg (zyn Ga (h.p x hj) (h.r x hj)) (HS w (Qb _ _))
 ·exact Ws ho hg (zxw Ga) (HS w (Qb _ _))
 ·refine yd7 ho hg (yi4 Ga) ((zth x y w).mono ?_);rintro e w'⟨rfl,hb⟩;exact⟨_,rfl,HS w' hb⟩
theorem yfu(h:Mv w0 G l a w)(hk:k<35)(hl:l.getD (3*k+2) true=false)(hu:l.getD (3*k+1) false=true):wpOp prog (opsOf Tryz.f125) Q (3*k+2) (fun a' w'=>Mv w0 G (l.setIfInBounds (3*k+2) true) a' w') a w:=by
 obtain⟨o,ho,hg,hd,Ga⟩:=yju k hk;refine Ws ho hg (zxj Ga (h.t k hk hu)) ?_;rw[hd];exact h.slot (Qb _ _) hl (fun q _=>by omega) (by omega) (by omega) (by omega) (by omega) (by omega) (fun q _ e=>by omega) (fun q _ e=>by omega) (fun q _ e=>by rw[show q=k by omega];rfl) (fun q _ e=>by omega)
theorem ygk(h:Mv w0 G l a w)(hk:k<35)(hl:l.getD (3*k+3) true=false)(hu0:l.getD 0 false=true)(hu:l.getD (3*k+2) false=true):wpOp prog (opsOf Tryz.f125) Q (3*k+3) (fun a' w'=>Mv w0 G (l.setIfInBounds (3*k+3) true) a' w') a w:=by
 obtain⟨o,ho,hg,hd,Gg⟩:=yjl k hk;obtain⟨b,hm⟩:=h.m hu0;obtain⟨n,D,o1,o2,o3,o4⟩:=hm.own;have Gc:=h.b k hk hu;have Gj:((List.range 35).all fun k=>decide ((Hi k).nm.size<=100))=true:=by kernel_rfl
 have hs:(Hi k).nm.size<=100:=Qg (Qw.1 Gj k (List.mem_range.2 hk));have hR:RC (Hi k).val=some (.held (Hi k).val,[]):=rfl;obtain⟨w',Gd,r1,Gb⟩:=o1.update (string_keyed underlying9) underlying162 (by unfold maxLen;omega) (Ri.Rh (Hi k).nm (by unfold maxLen;omega)) hR;have Ga:(execOp a.eval o).run prog w=.ok .skip w':=by
  simp[execOp,Gg,Dr hm.s9,Dr Gc,show a.eval (.const (.string (Hi k).nm))=.string (Hi k).nm from rfl,Gd,Result.andThen]
 refine yhg ho hg Ga ?_;rw[hd];show Mv w0 G (l.setIfInBounds (3*k+3) true) a w';have Ge:∀q,q<w.heap.size->q≠b->w'.heap[q]?=w.heap[q]?:=fun q hq Gf=>Gb.block q hq (fun e=>Gf (Option.some.inj e));have Gk:=hm.low;have Gl:=h.up;have Gh:3*k+3<l.size:=by rw[h.ls];omega
 refine⟨by simp[h.ls],h.sz,h.df,h.p,fun j hj=>(Ge _ (h.r j hj).lt (by omega)).trans (h.r j hj),fun q hq hu=>?_,fun q hq hu=>?_,?_,fun q hq _=>?_,?_,?_,?_,h.up⟩
 ·rw[getD_set_ne (by omega)]at hu;exact h.t q hq hu
 ·rw[getD_set_ne (by omega)]at hu;exact h.b q hq hu
 ·intro _;refine⟨b,hm.low,hm.s9,?_,?_,n+1,_,r1,by have:=Dd hl;omega,o3.put _ _,fun s z=>?_⟩
  ·rw[getD_set_ne (by omega)];exact hm.s80
  ·rw[getD_set_ne (by omega)];exact hm.s0
  ·have Gi:((List.range 35).find? fun j=>decide ((Hi j).nm=(Hi k).nm))=some k:=Qg (Qw.1 yj7 k (List.mem_range.2 hk));by_cases e:(Hi k).nm=s
   ·subst e;rw[atKey_put_same o3 (by simp[WideAt.IsKeyLit])];unfold Rc;rw[Gi];show _=if(l.setIfInBounds (3*k+3) true).getD (3*k+3) false=true then _ else _;rw[Ua Gh,if_pos rfl]
   ·rw[atKey_put_other (fun h=>by injection h with h;exact e (yg5 h.symm)),o4];unfold Rc;cases hf:(List.range 35).find? (fun j=>decide ((Hi j).nm=s))with
    |none=>rfl
    |some q=>
     have hq:=List.find?_some hf;have hq:(Hi q).nm=s:=Qg hq;have Gf:k≠q:=fun e2=>e (e2 ▸ hq);show(if l.getD (3*q+3) false=true then _ else _)=if(l.setIfInBounds (3*k+3) true).getD (3*q+3) false=true then _ else _;rw[getD_set_ne (by omega)]
 ·rw[getD_set_ne (by omega)];exact hu0
 ·rw[getD_set_ne (by omega),getD_set_ne (by omega)];exact h.i6
 ·rw[getD_set_ne (by omega),getD_set_ne (by omega)];exact h.i7
 ·exact h.bel.trans ⟨Gb.os,Gb.tape,Gb.output,Gb.size,fun q hq=>Ge q (Qr hq h.bel.size) (by omega)⟩
theorem yhc(h:Mv w0 G l a w)(hl:l.getD 0 true=false):wpOp prog (opsOf Tryz.f125) Q 0 (fun a' w'=>Mv w0 G (l.setIfInBounds 0 true) a' w') a w:=by
 obtain⟨o,ho,hg,hd,Gf⟩:=yjv;have Gb:=ye9 hl;have Gd:(execOp a.eval o).run prog w=.ok (.value (.map (some w.heap.size))) (w.alloc (.map #[] 0)):=by
  have:=run_makeMap (P:=prog) 162 w;simp[execOp,Gf,this,Result.andThen]
 refine Ws ho hg Gd ?_;rw[hd];have hb:Bl w (w.alloc (.map #[] 0)):=(Qb _ _).alloc (Qc _) _;have Ga:l.getD 106 false=false:=by cases e:l.getD 106 false with|false=>rfl|true=>rw[h.i6 e]at Gb;cases Gb
 have Gc:l.getD 107 false=false:=by cases e:l.getD 107 false with|false=>rfl|true=>rw[h.i7 e]at Ga;cases Ga
 have n3:∀k,k<35->l.getD (3*k+3) false=false:=fun k hk=>by cases e:l.getD (3*k+3) false with|false=>rfl|true=>rw[h.i3 k hk e]at Gb;cases Gb
 have Ge:9<a.tmps.size:=by rw[h.sz];omega
 have Gg:0<l.size:=by rw[h.ls];omega
 have Gh:unl l<=108:=by unfold unl;exact Qj List.countP_le_length (by simp[h.ls])
 refine⟨by simp[h.ls],V8.trans h.sz,h.df,fun j hj=>O4 (h.p j hj) (by omega),fun j hj=>(h.r j hj).bw hb (h.r j hj).lt,fun k hk hu=>?_,fun k hk hu=>?_,fun _=>⟨w.heap.size,?_⟩,fun k hk _=>Ua Gg,?_,?_,h.bel.trans (hb.mono h.bel.size),h.up⟩
 ·rw[getD_set_ne (by omega)]at hu;exact O4 (h.t k hk hu) (by omega)
 ·rw[getD_set_ne (by omega)]at hu;exact O4 (h.b k hk hu) (by omega)
 ·refine⟨(h.r 3 (by omega)).lt,Ce Ge,fun hu=>?_,fun hu=>?_,0,.map [],World.ownsMap_made w _ _ _,by have:=Ap hl;omega,⟨[],rfl⟩,fun s z=>?_⟩
  ·rw[getD_set_ne (by omega),Ga]at hu;cases hu
  ·rw[getD_set_ne (by omega),Gc]at hu;cases hu
  ·rw[Ai (fun k _=>by omega)];unfold Rc;cases hf:(List.range 35).find? (fun j=>decide ((Hi j).nm=s))with
   |none=>rfl
   |some q=>
    have hq:=List.mem_range.1 (List.mem_of_find?_eq_some hf);show _=if l.getD (3*q+3) false=true then _ else _;rw[n3 q hq,if_neg (by simp)];rfl
 ·rw[getD_set_ne (by omega),Ga];intro e;cases e
 ·rw[getD_set_ne (by omega),Gc];intro e;cases e
theorem Mv.moved{i:Nat}(h:Mv w0 G l a w)(hl:l.getD i true=false)(hi:(i=106/\d=80)\/(i=107/\d=0/\l.getD 106 false=true))(h0:l.getD 0 false=true)(hm:ykk G l a w b):Mv w0 G (l.setIfInBounds i true) (a.put (some d) (.map (some b))) w:=by
 have Ga:d<a.tmps.size:=by rw[h.sz];omega
 have Gb:106<l.size:=by rw[h.ls];omega
 obtain⟨n,D,o1,o2,o3,o4⟩:=hm.own;refine⟨by simp[h.ls],V8.trans h.sz,h.df,fun j hj=>O4 (h.p j hj) (by omega),h.r,fun k hk hu=>?_,fun k hk hu=>?_,fun _=>⟨b,hm.low,O4 hm.s9 (by omega),fun hu=>?_,fun hu=>?_,n,D,o1,by have:=Ap hl;omega,o3,fun s z=>by rw[o4,Ai (fun k _=>by omega)]⟩,fun k hk _=>?_,fun _=>?_,fun hu=>?_,h.bel,h.up⟩
 ·rw[getD_set_ne (by omega)]at hu;exact O4 (h.t k hk hu) (by omega)
 ·rw[getD_set_ne (by omega)]at hu;exact O4 (h.b k hk hu) (by omega)
 ·rcases hi with⟨rfl,rfl⟩|⟨rfl,rfl,h6⟩
  ·exact Ce Ga
  ·exact O4 (hm.s80 h6) (by omega)
 ·rcases hi with⟨rfl,rfl⟩|⟨rfl,rfl,h6⟩
  ·rw[getD_set_ne (by omega)]at hu;exact O4 (hm.s0 hu) (by omega)
  ·exact Ce Ga
 ·rw[getD_set_ne (by omega)];exact h0
 ·rw[getD_set_ne (by omega)];exact h0
 ·rcases hi with⟨rfl,rfl⟩|⟨rfl,rfl,h6⟩
  ·exact Ua Gb
  ·rw[getD_set_ne (by omega)];exact h6
theorem ygt(h:Mv w0 G l a w)(hl:l.getD 106 true=false)(h0:l.getD 0 false=true):wpOp prog (opsOf Tryz.f125) Q 106 (fun a' w'=>Mv w0 G (l.setIfInBounds 106 true) a' w') a w:=by
 obtain⟨o,ho,hg,hd,Gb⟩:=yjx;obtain⟨b,hm⟩:=h.m h0;have Ga:(execOp a.eval o).run prog w=.ok (.value (.map (some b))) w:=by simp[execOp,Gb,Dr hm.s9]
 refine Ws ho hg Ga ?_;rw[hd];exact h.moved hl (.inl ⟨rfl,rfl⟩) h0 hm
theorem yga(h:Mv w0 G l a w)(hl:l.getD 107 true=false)(h6:l.getD 106 false=true):wpOp prog (opsOf Tryz.f125) Q 107 (fun a' w'=>Mv w0 G (l.setIfInBounds 107 true) a' w') a w:=by
 obtain⟨o,ho,hg,hd,Gb⟩:=yj4;have h0:=h.i6 h6;obtain⟨b,hm⟩:=h.m h0;have Ga:(execOp a.eval o).run prog w=.ok (.value (.map (some b))) w:=by simp[execOp,Gb,Dr (hm.s80 h6)]
 refine Ws ho hg Ga ?_;rw[hd];exact h.moved hl (.inr ⟨rfl,rfl,h6⟩) h0 hm
theorem yep(i:Nat)(h:Mv w0 G l a w)(hi:i∈Region.ready .any (opsOf Tryz.f125) l):wpOp prog (opsOf Tryz.f125) Q i (fun a' w'=>Mv w0 G (l.setIfInBounds i true) a' w') a w:=by
 obtain⟨h1,h2,-⟩:=Bw hi;rw[S8]at h1;by_cases e0:i=0
 ·subst e0;exact yhc h h2
 by_cases e6:i=106
 ·subst e6;exact ygt h h2 (Cq hi (by have:=ya1;rw[Qh]at this;exact this.1))
 by_cases e7:i=107
 ·subst e7;exact yga h h2 (Cq hi (by have:=ya1;rw[Qh]at this;exact this.2))
 obtain⟨k,hk,hd⟩:∃k,k<35/\(i=3*k+1\/i=3*k+2\/i=3*k+3):=⟨(i-1)/3,by omega,by omega⟩;have Ga:=Qw.1 yhd k (List.mem_range.2 hk);rw[Qh,Qh]at Ga;rcases hd with rfl|rfl|rfl
 ·exact yhx h hk h2
 ·exact yfu h hk h2 (Cq hi Ga.1)
 ·exact ygk h hk h2 (Cq hi Ga.2.1) (Cq hi Ga.2.2)
theorem zwf(h:Mv w0 G (Array.replicate 108 false) a w.drew)(hQ:∀a' w' b,a'.defers=[]->a'.tmps[0]?=some (.map (some b))->(∃n D,w'.ownsMap prog 9 RC b n D/\IsMap D/\∀s z,D.atKey (.string s.data.toList) z=Rc (Array.replicate 108 true) s z)->Bl w0 w'->Q .normal a' w'):(Code.region 2 (opsOf Tryz.f125) true).wp prog Q a w:=by
 refine zi2 (Mv w0 G) (by kernel_rfl) (by rw[S8];exact h) (fun l a w i hI hi=>yep i hI hi) zwl (fun l a' w' hI hall=>?_);rw[S8]at hall;have Ga:∀i,i<108->l.getD i false=true:=fun i hi=>yi8 (hall i hi) (by rw[hI.ls];exact hi);obtain⟨b,hm⟩:=hI.m (Ga 0 (by omega));obtain⟨n,D,o1,o2,o3,o4⟩:=hm.own;refine hQ a' w' b hI.df (hm.s0 (Ga 107 (by omega))) ⟨n,D,o1,o3,fun s z=>?_⟩ hI.bel;rw[o4];unfold Rc;cases hf:(List.range 35).find? (fun j=>decide ((Hi j).nm=s))with
 |none=>rfl
 |some q=>
  have hq:=List.mem_range.1 (List.mem_of_find?_eq_some hf);show(if l.getD (3*q+3) false=true then _ else _)=if(Array.replicate 108 true).getD (3*q+3) false=true then _ else _;rw[Ga _ (by omega),if_pos rfl,if_pos (by rw[Array.getD_eq_getD_getElem?,Array.getElem?_replicate,if_pos (by omega)];rfl)]
end
def Ph (w0:World) (b:Nat) (w:World):Prop:=(∃n D,w.ownsMap prog 9 RC b n D/\IsMap D/\∀s z,D.atKey (.string s.data.toList) z=Rc (Array.replicate 108 true) s z)/\Bl w0 w
theorem ycc{w0 W4 V4:World}{a:Act}(hb:Bl w0 V4)(hG:w0.heap.size<=W4.heap.size)(hsz:a.tmps.size=81)(hdf:a.defers=[])(hp:∀j,j<4->a.tmps[1+j]?=some (.pointer (some ⟨W4.heap.size+j,0,none⟩)))(hr:∀j:Nat,j<4->Fc V4 (W4.heap.size+j) 118 #[.int .i64 j,.int .i64 j,.int .i64 1]):Mv w0 W4.heap.size (Array.replicate 108 false) a V4.drew:=by
 have hf:∀i,(Array.replicate 108 false).getD i false=false:=fun i=>by
  rw[Array.getD_eq_getD_getElem?,Array.getElem?_replicate];split<;>rfl
 refine⟨by simp,hsz,hdf,hp,hr,fun k _ hu=>?_,fun k _ hu=>?_,fun hu=>?_,fun k _ hu=>?_,fun hu=>?_,fun hu=>?_,⟨hb.os,hb.tape,hb.output,hb.size,hb.block⟩,hG⟩;all_goals rw[hf]at hu;cases hu
theorem yjq(W:World):Bl W ((((W.alloc (.cells #[.int .i64 0,.int .i64 0,.int .i64 1] 118)).alloc (.cells #[.int .i64 1,.int .i64 1,.int .i64 1] 118)).alloc (.cells #[.int .i64 2,.int .i64 2,.int .i64 1] 118)).alloc (.cells #[.int .i64 3,.int .i64 3,.int .i64 1] 118))/\∀j:Nat,j<4->Fc ((((W.alloc (.cells #[.int .i64 0,.int .i64 0,.int .i64 1] 118)).alloc (.cells #[.int .i64 1,.int .i64 1,.int .i64 1] 118)).alloc (.cells #[.int .i64 2,.int .i64 2,.int .i64 1] 118)).alloc (.cells #[.int .i64 3,.int .i64 3,.int .i64 1] 118)) (W.heap.size+j) 118 #[.int .i64 j,.int .i64 j,.int .i64 1]:=by
 obtain⟨V1,Gb,-,v1,x1⟩:=boxed W #[.int .i64 0,.int .i64 0,.int .i64 1] 118;obtain⟨V2,Ge,-,v2,x2⟩:=boxed V1 #[.int .i64 1,.int .i64 1,.int .i64 1] 118;obtain⟨V3,Gc,-,v3,x3⟩:=boxed V2 #[.int .i64 2,.int .i64 2,.int .i64 1] 118;obtain⟨V4,Gf,-,v4,x4⟩:=boxed V3 #[.int .i64 3,.int .i64 3,.int .i64 1] 118;have z1:V1.heap.size=W.heap.size+1:=by rw[<-Gb];simp
 have z2:V2.heap.size=W.heap.size+2:=by rw[<-Ge];simp[z1]
 have z3:V3.heap.size=W.heap.size+3:=by rw[<-Gc];simp[z2]
 rw[Gb,Ge,Gc,Gf];rw[z1]at x2;rw[z2]at x3;rw[z3]at x4;have Ga:Bl V2 V4:=v3.trans (v4.mono v3.size);have Gd:Bl V1 V4:=v2.trans (Ga.mono v2.size);refine⟨v1.trans (Gd.mono v1.size),fun j hj=>?_⟩;match j,hj with
 |0,_=>exact x1.bw Gd x1.lt
 |1,_=>exact x2.bw Ga x2.lt
 |2,_=>exact x3.bw v4 x3.lt
 |3,_=>exact x4
theorem zrp(w:World):Calls prog 125 #[] w fun e w'=>∃b,e=.returned (.map (some b))/\Ph w b w':=by
 obtain⟨W4,Ga⟩:∃W4,(((w.alloc (.cells #[.int .i64 0,.int .i64 0,.int .i64 1] 118)).alloc (.cells #[.int .i64 1,.int .i64 1,.int .i64 1] 118)).alloc (.cells #[.int .i64 2,.int .i64 2,.int .i64 1] 118)).alloc (.cells #[.int .i64 3,.int .i64 3,.int .i64 1] 118)=W4:=⟨_,rfl⟩;have b4:Bl w W4:=by
  rw[<-Ga];exact((((Qb _ w).alloc (Qc _) _).alloc (by simp) _).alloc (by simp;omega) _).alloc (by simp;omega) _
 have s4:w.heap.size+4=W4.heap.size:=by rw[<-Ga];simp
 obtain⟨Gc,Gb⟩:=yjq W4;have H4:Hid _:=b4.trans (Gc.mono b4.size);have Ge:Hid _:=Gb;have Gd:Hid (w.heap.size<=W4.heap.size):=by unfold Hid;omega
 go_enter func125,ntmps125;go_upto_region 2 with(go_at_call 171;refine(zsv _ _).mono ?_;rintro e w'⟨rfl,rfl⟩);rename_i K hK;refine zwf (w0:=w) (G:=W4.heap.size) (ycc H4.out Gd.out rfl rfl (fun j hj=>?_) Ge.out) (fun a' w' b h1 h2 h3 h4=>?_)
 ·match j,hj with
  |0,_=>rfl
  |1,_=>rfl
  |2,_=>rfl
  |3,_=>rfl
 ·refine hK _ _ ?_;refine wp_ret ?_;show bodyPost prog Tryz.f125 (fun e w'=>∃b,e=.returned (.map (some b))/\Ph w b w') .ret a' w';refine bodyPost_ret (v:=.map (some b)) ?_ h1 ⟨b,rfl,h3,h4⟩;rw[results_tmp (t:=0) rfl,Array.getD_eq_getD_getElem?,h2];rfl
def okT (t:Tk) (n:Nat):Bool:=decide (t.lo<=n)&&(decide (n<=t.hi)&&decide ((n-t.lo)%t.st=0))
def ixC (c:Cm):Nat:=((List.range 35).find? (fun j=>decide ((Hi j).nm=c.text))).getD 0
def Hl (c:Cm):Rw:=Hi (ixC c)
theorem Wa:∀c:Cm,c∈Cm.all:=by decide
theorem yic:(Cm.all.all fun c=>decide ((List.range 35).find? (fun j=>decide ((Hi j).nm=c.text))=some (ixC c)))=true:=by kernel_rfl
theorem yi5:(Cm.all.all fun c=>decide ((Hl c).kd=c.kind))=true:=by kernel_rfl
theorem ygy:(Cm.all.all fun c=>(List.range 17).all fun n=>decide (okT (Hl c).tk n=c.fits n))=true:=by kernel_rfl
theorem yi1:(Cm.all.all fun c=>decide ((Hl c).tk.lo<=16/\(Hl c).tk.hi<=16/\1<=(Hl c).tk.st/\(Hl c).tk.st<=16))=true:=by kernel_rfl
theorem yip:((List.range 35).all fun j=>Cm.all.any fun c=>decide (c.text=(Hi j).nm))=true:=by kernel_rfl
theorem yin(c:Cm):(List.range 35).find? (fun j=>decide ((Hi j).nm=c.text))=some (ixC c):=Qg (Qw.1 yic c (Wa c))
theorem yjm(c:Cm):(Hl c).kd=c.kind:=Qg (Qw.1 yi5 c (Wa c))
theorem yi2(c:Cm)(hn:n<=16):okT (Hl c).tk n=c.fits n:=Qg (Qw.1 (Qw.1 ygy c (Wa c)) n (List.mem_range.2 (by omega)))
theorem yj3(c:Cm):(Hl c).tk.lo<=16/\(Hl c).tk.hi<=16/\1<=(Hl c).tk.st/\(Hl c).tk.st<=16:=Qg (Qw.1 yi1 c (Wa c))
theorem Az(s:ByteArray)(z:DataW Value):Rc (Array.replicate 108 true) s z=match Nn s with
  |some c=> .held (Hl c).val
  |none=>z:=by
 unfold Rc;cases h:Nn s with
 |some c=>
  have hs:c.text=s:=by have:=List.find?_some h;exact Qg this
  subst hs;rw[yin c];have hi:=List.mem_range.1 (List.mem_of_find?_eq_some (yin c));show(if(Array.replicate 108 true).getD (3*ixC c+3) false=true then _ else _)=_;rw[if_pos (by rw[Array.getD_eq_getD_getElem?,Array.getElem?_replicate,if_pos (by omega)];rfl)];rfl
 |none=>
  have:(List.range 35).find? (fun j=>decide ((Hi j).nm=s))=none:=by
   rw[List.find?_eq_none];intro j hj e;obtain⟨c,hc,e2⟩:=List.any_eq_true.1 (Qw.1 yip j hj);have e1:(Hi j).nm=s:=Qg e;have e2:c.text=(Hi j).nm:=Qg e2;exact(List.find?_eq_none.1 h) c hc (Qe (e2.trans e1))
  rw[this]
theorem zzt{v':Value}{ps:List MemPlace}(h:RC v=some (.held v',ps)):v=v':=by
 unfold RC at h;split at h
 ·split at h
  ·injection h with h;injection h with h1 h2;injection h1
  ·injection h with h;injection h with h1 h2;injection h1
  ·cases h
 ·cases h
def K8:Value:= .agg #[.int .i64 0,.int .i64 0,.int .i64 0,.int .i64 0,.nilFunc]
theorem yci{w0 w:World}(h:Ph w0 b w)(s:ByteArray)(hs:s.size<=1048576):(Instr.lookup 162 (.map (some b)) (.string s) true).run prog w=.ok (.tuple #[match Nn s with|some c=>(Hl c).val|none=>K8,.bool (Nn s).isSome]) w:=by
 obtain⟨⟨n,D,ho,hm,hD⟩,-⟩:=h;obtain⟨v,ps,Ga,hR⟩:=ho.look_ok (string_keyed underlying9) underlying162 (z:=K8) (by kernel_rfl) (zd:=.held K8) (zp:=[]) rfl (Ri.Rh s (by unfold maxLen;omega));rw[Ga];rw[hD,Az]at hR;have hh:Maps.has D (.string s.data.toList)=(Nn s).isSome:=by
  cases hc:Nn s with
  |none=>exact has_false_of_atKey (fun z=>by rw[hD,Az,hc])
  |some c=>exact has_true_of_atKey (y:=.held (Hl c).val) (fun z=>by rw[hD,Az,hc])
 rw[hh];cases hc:Nn s with
 |none=>rw[hc]at hR;rw[zzt hR]
 |some c=>rw[hc]at hR;rw[zzt hR]
theorem zqj(lo hi st n:Nat)(hst:1<=st)(h1:lo<=16)(_h2:hi<=16)(h3:st<=16)(h4:n<=16)(w:World):Calls prog 127 #[.agg #[.int .i64 lo,.int .i64 hi,.int .i64 st],.int .i64 n] w fun e w'=>e=.returned (.bool (decide (lo<=n)&&(decide (n<=hi)&&decide ((n-lo)%st=0))))/\Bl w w':=by
 obtain⟨W0,Gg,Ge,b0,q0⟩:=boxed w #[.int .i64 lo,.int .i64 hi,.int .i64 st] 118;have HB:Hid (Bl w W0):=b0;have y0:=q0.cell 0;have y1:=q0.cell 1;have y2:=q0.cell 2;simp only[Qm,Qk,Ql]at y0 y1 y2;by_cases g1:lo<=n
 ·have d1:decide ((lo:Int)<=(n:Int))=true:=Qe (by omega);by_cases g2:n<=hi
  ·have d2:decide ((n:Int)<=(hi:Int))=true:=Qe (by omega);have Gc:IntKind.i64.wrap ((n:Int)-(lo:Int))=((n-lo:Nat):Int):=by rw[IntKind.wrap_i64];omega
   obtain⟨q,hq⟩:∃q,n-lo=q:=⟨_,rfl⟩;rw[hq]at Gc ⊢;have Gf:¬(st:Int)=0:=by omega
   have Gb:¬st=0:=by omega
   have Ga:Int.tmod (q:Int) (st:Int)=((q%st:Nat):Int):=rfl;have Gd:IntKind.i64.wrap ((q%st:Nat):Int)=((q%st:Nat):Int):=by
    have:=Nat.mod_lt q hst;rw[IntKind.wrap_i64];omega
   obtain⟨r,hr⟩:∃r,q%st=r:=⟨_,rfl⟩;rw[hr]at Ga Gd ⊢;rw[Qe g1,Qe g2,Qz,Qz];go_enter func127,ntmps127;go_wp2;go_ret;exact⟨congrArg (fun b=>Ending.returned (.bool b)) (by by_cases h:r=0<;>simp[h]),HB.out⟩
  ·have d2:decide ((n:Int)<=(hi:Int))=false:=Qf (by omega);rw[Qf g2,Q0,Bool.and_false];go_enter func127,ntmps127;go_wp2;go_ret;exact⟨rfl,HB.out⟩
 ·have d1:decide ((lo:Int)<=(n:Int))=false:=Qf (by omega);rw[Qf g1,Q0];go_enter func127,ntmps127;go_wp2;go_ret;exact⟨rfl,HB.out⟩
theorem Ph.bw{w0 w w':World}(h:Ph w0 b w)(hb:Bl w w'):Ph w0 b w':=by
 obtain⟨⟨n,D,ho,q⟩,hB⟩:=h;exact⟨⟨n,D,zhn ho hb,q⟩,hB.trans (hb.mono hB.size)⟩
def Dl (w w':World) (A:Addr) (v:Value):Prop:=∃pb,v= .iface 125 (.pointer (some ⟨pb,0,none⟩))/\w.heap.size<=pb/\w'.cell? ⟨pb,0,none⟩=some (.iface 307 (.pointer (some A)))
def Dz (w:World) (ad:Nat->Addr) (oc:Option Cm) (n:Nat) (e:Ending) (w':World):Prop:=Bl w w'/\match oc with
 |none=>∃v,e= .returned (.tuple #[.agg #[.int .i64 0,.int .i64 0,.int .i64 0,.int .i64 0,.nilFunc],v])/\Dl w w' (ad 6) v
 |some c=>if c.fits n=true then e= .returned (.tuple #[(Hl c).val,.nilIface]) else ∃v,e= .returned (.tuple #[.agg #[.int .i64 0,.int .i64 0,.int .i64 0,.int .i64 0,.nilFunc],v])/\Dl w w' (ad 0) v
theorem U7{w:World}{z0 z1 z2 z3 z4:Value}(h:Fc w b 122 #[z0,z1,z2,z3,z4]):Fc (((((w.setCell ⟨b,0,none⟩ c0).setCell ⟨b,1,none⟩ c1).setCell ⟨b,2,none⟩ c2).setCell ⟨b,3,none⟩ c3).setCell ⟨b,4,none⟩ c4) b 122 #[c0,c1,c2,c3,c4]:=by
 have:=((((h.set 0 c0).set 1 c1).set 2 c2).set 3 c3).set 4 c4;simpa using this
theorem zxe(s:ByteArray):(H9 s).size=s.size:=by
 show(s.data.toList.map upB).toArray.size=s.data.size;simp
theorem yir{w w':World}(h:c.fits n=false)(hb:Bl w w')(hr:Dl w w' (ad 0) v):Dz w ad (some c) n (.returned (.tuple #[.agg #[.int .i64 0,.int .i64 0,.int .i64 0,.int .i64 0,.nilFunc],v])) w':=by
 refine⟨hb,?_⟩;show if c.fits n=true then _ else _;rw[h,if_neg (by simp)];exact⟨v,rfl,hr⟩
theorem yhi{w w':World}{e:Ending}(h:c.fits n=true)(hb:Bl w w')(he:e=.returned (.tuple #[(Hl c).val,.nilIface])):Dz w ad (some c) n e w':=by
 refine⟨hb,?_⟩;show if c.fits n=true then _ else _;rw[h,if_pos rfl];exact he
theorem K6{tmps:Array Value}(h4:tmps.getD 4 undef=.pointer (some ⟨b,0,none⟩))(h5:tmps.getD 5 undef=v)(hr:Fc W b 122 #[c0,c1,c2,c3,c4]):(results Tryz.f90 tmps).run prog W=.ok (.tuple #[.agg #[c0,c1,c2,c3,c4],v]) W:=by
 have x0:=hr.cell 0;have x1:=hr.cell 1;have x2:=hr.cell 2;have x3:=hr.cell 3;have x4:=hr.cell 4;simp only[Qm,Qk,Ql]at x0 x1 x2 x3 x4;have Ga:tmps[4]?.getD undef=.pointer (some ⟨b,0,none⟩):=by rw[<-Array.getD_eq_getD_getElem?];exact h4
 have Gb:tmps[5]?.getD undef=v:=by rw[<-Array.getD_eq_getD_getElem?];exact h5
 simp[results,results90,go_sem,Ga,Gb,x0,x1,x2,x3,x4]
theorem zyx{B:Nat}{w V:World}{C:Array Value}(bz:Below B w V)(rz:Fc V b 122 C)(hsz:V.heap.size=W.heap.size)(x:Value)(hB:B<=V.heap.size:=by exact Below.size (by assumption)):Fc (V.alloc (.cells #[x] 127)).drew b 122 C/\Below B w (V.alloc (.cells #[x] 127)).drew/\(V.alloc (.cells #[x] 127)).drew.cell? ⟨W.heap.size,0,none⟩=some x:=by
 have Ga:=Fc.new V 127 #[x];rw[hsz]at Ga;have hc:=Ga.cell 0;have h1:Bl V (V.alloc (.cells #[x] 127)):=(Qb _ _).alloc (Qc _) _;exact⟨Fc.drew (rz.bw h1 rz.lt),(bz.alloc hB _).drew,hc⟩
theorem zpr(word:ByteArray)(n:Nat)(ad:Nat->Addr)(w:World)(hw:word.size<=1048576)(hn:n<=16)(h0:w.cell? ⟨2,0,none⟩=some (.iface 307 (.pointer (some (ad 0)))))(h6:w.cell? ⟨1,0,none⟩=some (.iface 307 (.pointer (some (ad 6)))))(h25:22<=w.heap.size):
  Calls prog 90 #[.string word,.int .i64 n] w (Dz w ad (Nn (H9 word)) n):=by
 obtain⟨W0,Gv,Gt,b0,q0⟩:=boxed w #[.int .i64 0,.int .i64 0,.int .i64 0,.int .i64 0,.nilFunc] 122;have HC:=hid fun W=>zrp W;have HN:=hid fun W=>zjz word W hw;have HL:=hid fun W0 W b (h:Ph W0 b W)=>yci h (H9 word) (by rw[zxe];exact hw);have Gd:Hid (Bl w W0/\Fc W0 w.heap.size 122 #[.int .i64 0,.int .i64 0,.int .i64 0,.int .i64 0,.nilFunc]):=⟨b0,q0⟩;have Gl:Hid (∀W,Bl w W->W.cell? ⟨2,0,none⟩=some (.iface 307 (.pointer (some (ad 0))))/\W.cell? ⟨1,0,none⟩=some (.iface 307 (.pointer (some (ad 6))))):=fun W hb=>⟨(hb.cell (p:=⟨2,0,none⟩) (by show 2<_;omega)).trans h0,(hb.cell (p:=⟨1,0,none⟩) (by show 1<_;omega)).trans h6⟩;have HT:=hid fun W W' b (h:Ph W b W')=>h.2;have Gk:=hid fun W W' W'' b (h:Ph W b W') (hb:Bl W' W'')=>h.bw hb;generalize H9 word=nm at*;cases hoc:Nn nm with
 |none=>
  rw[hoc]at HL;have HL:Hid (∀W0 W b,Ph W0 b W->(Instr.lookup 162 (.map (some b)) (.string nm) true).run prog W=.ok (.tuple #[.agg #[.int .i64 0,.int .i64 0,.int .i64 0,.int .i64 0,.nilFunc],.bool false]) W):=HL;go_enter func90,ntmps90;go_wp2_with fail;refine(HC.out _).mono ?_;rintro e w1⟨b,rfl,t1⟩;have T1:Hid (Ph W0 b w1):=t1;go_wp2_with fail;refine(HN.out _).mono ?_;rintro e w2⟨rfl,b2⟩;have Gn:=HL.out _ _ _ (Gk.out _ _ _ _ T1.out b2);have Gf:Hid (Bl W0 w2):=(HT.out _ _ _ T1.out).trans (b2.mono (HT.out _ _ _ T1.out).size);obtain⟨W3,Gq,Gm,b3,q3⟩:=boxed w2 #[.int .i64 0,.int .i64 0,.int .i64 0,.int .i64 0,.nilFunc] 122;have y0:=q3.cell 0;have y1:=q3.cell 1;have y2:=q3.cell 2;have y3:=q3.cell 3;have y4:=q3.cell 4;have z0:=q3.frozen 0;have z1:=q3.frozen 1;have z2:=q3.frozen 2;have z3:=q3.frozen 3;have z4:=q3.frozen 4;simp only[Qm,Qk,Ql]at y0 y1 y2 y3 y4;have Gs:=fun(a:Addr) (w:World)=>run_store prog w a .nilFunc .plain rfl;have hl:=Qc w2.heap.size;have b4:Bl w2 (((((W3.setCell ⟨w2.heap.size,0,none⟩ (.int .i64 0)).setCell ⟨w2.heap.size,1,none⟩ (.int .i64 0)).setCell ⟨w2.heap.size,2,none⟩ (.int .i64 0)).setCell ⟨w2.heap.size,3,none⟩ (.int .i64 0)).setCell ⟨w2.heap.size,4,none⟩ .nilFunc):=((((b3.setCell hl _).setCell hl _).setCell hl _).setCell hl _).setCell hl _;have r3:=U7 (c0:=(.int .i64 0)) (c1:=(.int .i64 0)) (c2:=(.int .i64 0)) (c3:=(.int .i64 0)) (c4:=.nilFunc) q3;obtain⟨W4,Gi⟩:∃W4,(((((W3.setCell ⟨w2.heap.size,0,none⟩ (.int .i64 0)).setCell ⟨w2.heap.size,1,none⟩ (.int .i64 0)).setCell ⟨w2.heap.size,2,none⟩ (.int .i64 0)).setCell ⟨w2.heap.size,3,none⟩ (.int .i64 0)).setCell ⟨w2.heap.size,4,none⟩ .nilFunc)=W4:=⟨_,rfl⟩;rw[Gi]at b4 r3;have Gg:Bl W0 W4:=Gf.out.trans (b4.mono Gf.out.size);have Gc:Bl w W4:=Gd.out.1.trans (Gg.mono Gd.out.1.size);have r4:Fc W4 w.heap.size 122 #[.int .i64 0,.int .i64 0,.int .i64 0,.int .i64 0,.nilFunc]:=Gd.out.2.bw Gg Gd.out.2.lt;have Ga:Hid (Bl w W4/\Fc W4 w.heap.size 122 #[.int .i64 0,.int .i64 0,.int .i64 0,.int .i64 0,.nilFunc]/\Fc W4 w2.heap.size 122 #[.int .i64 0,.int .i64 0,.int .i64 0,.int .i64 0,.nilFunc]):=⟨Gc,r4,r3⟩;have u0:=r4.cell 0;have u1:=r4.cell 1;have u2:=r4.cell 2;have u3:=r4.cell 3;have u4:=r4.cell 4;have v0:=r4.frozen 0;have v1:=r4.frozen 1;have v2:=r4.frozen 2;have v3:=r4.frozen 3;have v4:=r4.frozen 4;have Gu:=r4.lt;simp only[Qm,Qk,Ql]at u0 u1 u2 u3 u4;obtain⟨e0,e6⟩:=Gl.out W4 Ga.out.1;have rz:=U7 (c0:=(.int .i64 0)) (c1:=(.int .i64 0)) (c2:=(.int .i64 0)) (c3:=(.int .i64 0)) (c4:=.nilFunc) Ga.out.2.1;have Gb:=Qc w.heap.size;have bz:Bl w (((((W4.setCell ⟨w.heap.size,0,none⟩ (.int .i64 0)).setCell ⟨w.heap.size,1,none⟩ (.int .i64 0)).setCell ⟨w.heap.size,2,none⟩ (.int .i64 0)).setCell ⟨w.heap.size,3,none⟩ (.int .i64 0)).setCell ⟨w.heap.size,4,none⟩ .nilFunc):=((((Ga.out.1.setCell Gb _).setCell Gb _).setCell Gb _).setCell Gb _).setCell Gb _;have Gj:(((((W4.setCell ⟨w.heap.size,0,none⟩ (.int .i64 0)).setCell ⟨w.heap.size,1,none⟩ (.int .i64 0)).setCell ⟨w.heap.size,2,none⟩ (.int .i64 0)).setCell ⟨w.heap.size,3,none⟩ (.int .i64 0)).setCell ⟨w.heap.size,4,none⟩ .nilFunc).heap.size=W4.heap.size:=by simp
  have HZ:Hid (Fc ((((((W4.setCell ⟨w.heap.size,0,none⟩ (.int .i64 0)).setCell ⟨w.heap.size,1,none⟩ (.int .i64 0)).setCell ⟨w.heap.size,2,none⟩ (.int .i64 0)).setCell ⟨w.heap.size,3,none⟩ (.int .i64 0)).setCell ⟨w.heap.size,4,none⟩ .nilFunc).alloc (.cells #[.iface 307 (.pointer (some (ad 6)))] 127)).drew w.heap.size 122 #[.int .i64 0,.int .i64 0,.int .i64 0,.int .i64 0,.nilFunc]/\Bl w ((((((W4.setCell ⟨w.heap.size,0,none⟩ (.int .i64 0)).setCell ⟨w.heap.size,1,none⟩ (.int .i64 0)).setCell ⟨w.heap.size,2,none⟩ (.int .i64 0)).setCell ⟨w.heap.size,3,none⟩ (.int .i64 0)).setCell ⟨w.heap.size,4,none⟩ .nilFunc).alloc (.cells #[.iface 307 (.pointer (some (ad 6)))] 127)).drew/\((((((W4.setCell ⟨w.heap.size,0,none⟩ (.int .i64 0)).setCell ⟨w.heap.size,1,none⟩ (.int .i64 0)).setCell ⟨w.heap.size,2,none⟩ (.int .i64 0)).setCell ⟨w.heap.size,3,none⟩ (.int .i64 0)).setCell ⟨w.heap.size,4,none⟩ .nilFunc).alloc (.cells #[.iface 307 (.pointer (some (ad 6)))] 127)).drew.cell? ⟨W4.heap.size,0,none⟩=some (.iface 307 (.pointer (some (ad 6))))):=zyx bz rz Gj _ bz.size;have Gh:Hid (w.heap.size<=W4.heap.size):=Ga.out.1.size;have Gx:6<W4.heap.size:=by have:=Gh.out;omega
  have Gw:0<W4.heap.size:=by have:=Gh.out;omega
  go_upto_region 3 with fail;go_region;go_wp2;refine bodyPost_ret (K6 rfl rfl HZ.out.1) rfl ?_;exact⟨HZ.out.2.1,⟨_,rfl,_,rfl,Gh.out,HZ.out.2.2⟩⟩
 |some c=>
  rw[hoc]at HL;obtain⟨s1,s2,s3,s4⟩:=yj3 c;have HK:Hid (∀W,Cp 127 #[.agg #[.int .i64 (Hl c).tk.lo,.int .i64 (Hl c).tk.hi,.int .i64 (Hl c).tk.st],.int .i64 n] W fun e w'=>e=.returned (.bool (c.fits n))/\Bl W w'):=fun W=>by
   rw[<-yi2 c hn];exact zqj _ _ _ n s3 s1 s2 s4 hn W
  have Gp:Hid (∃q,c.fits n=q):=⟨_,rfl⟩;obtain⟨q,hq⟩:=Gp.out;have Gp:=hid hq;rw[hq]at HK;have HL:Hid (∀W0 W b,Ph W0 b W->(Instr.lookup 162 (.map (some b)) (.string nm) true).run prog W=.ok (.tuple #[.agg #[.int .i64 (Hl c).kd,.int .i64 (Hl c).tk.lo,.int .i64 (Hl c).tk.hi,.int .i64 (Hl c).tk.st,.func (.func (Hl c).fn) #[] #[]],.bool true]) W):=HL;have Gr:Hid (c.fits n=true->∀w',Bl w w'->Dz w ad (some c) n (.returned (.tuple #[.agg #[.int .i64 (Hl c).kd,.int .i64 (Hl c).tk.lo,.int .i64 (Hl c).tk.hi,.int .i64 (Hl c).tk.st,.func (.func (Hl c).fn) #[] #[]],.nilIface])) w'):=fun h w' hb=>yhi h hb rfl;generalize((Hl c).kd:Int)=kd,((Hl c).tk.lo:Int)=lo,((Hl c).tk.hi:Int)=hi,((Hl c).tk.st:Int)=st,(Hl c).fn=f at*;have Gy:=fun(a:Addr) (w:World)=>run_store prog w a (.func (.func f) #[] #[]) .plain rfl;cases q with
  |false=>
   go_enter func90,ntmps90;go_wp2_with fail;refine(HC.out _).mono ?_;rintro e w1⟨b,rfl,t1⟩;have T1:Hid (Ph W0 b w1):=t1;go_wp2_with fail;refine(HN.out _).mono ?_;rintro e w2⟨rfl,b2⟩;have Gn:=HL.out _ _ _ (Gk.out _ _ _ _ T1.out b2);have Gf:Hid (Bl W0 w2):=(HT.out _ _ _ T1.out).trans (b2.mono (HT.out _ _ _ T1.out).size);obtain⟨W3,Gq,Gm,b3,q3⟩:=boxed w2 #[.int .i64 0,.int .i64 0,.int .i64 0,.int .i64 0,.nilFunc] 122;have y0:=q3.cell 0;have y1:=q3.cell 1;have y2:=q3.cell 2;have y3:=q3.cell 3;have y4:=q3.cell 4;have z0:=q3.frozen 0;have z1:=q3.frozen 1;have z2:=q3.frozen 2;have z3:=q3.frozen 3;have z4:=q3.frozen 4;simp only[Qm,Qk,Ql]at y0 y1 y2 y3 y4;have Gs:=fun(a:Addr) (w:World)=>run_store prog w a .nilFunc .plain rfl;have hl:=Qc w2.heap.size;have b4:Bl w2 (((((W3.setCell ⟨w2.heap.size,0,none⟩ (.int .i64 kd)).setCell ⟨w2.heap.size,1,none⟩ (.int .i64 lo)).setCell ⟨w2.heap.size,2,none⟩ (.int .i64 hi)).setCell ⟨w2.heap.size,3,none⟩ (.int .i64 st)).setCell ⟨w2.heap.size,4,none⟩ (.func (.func f) #[] #[])):=((((b3.setCell hl _).setCell hl _).setCell hl _).setCell hl _).setCell hl _;have r3:=U7 (c0:=(.int .i64 kd)) (c1:=(.int .i64 lo)) (c2:=(.int .i64 hi)) (c3:=(.int .i64 st)) (c4:=(.func (.func f) #[] #[])) q3;obtain⟨W4,Gi⟩:∃W4,(((((W3.setCell ⟨w2.heap.size,0,none⟩ (.int .i64 kd)).setCell ⟨w2.heap.size,1,none⟩ (.int .i64 lo)).setCell ⟨w2.heap.size,2,none⟩ (.int .i64 hi)).setCell ⟨w2.heap.size,3,none⟩ (.int .i64 st)).setCell ⟨w2.heap.size,4,none⟩ (.func (.func f) #[] #[]))=W4:=⟨_,rfl⟩;rw[Gi]at b4 r3;have Gg:Bl W0 W4:=Gf.out.trans (b4.mono Gf.out.size);have Gc:Bl w W4:=Gd.out.1.trans (Gg.mono Gd.out.1.size);have r4:Fc W4 w.heap.size 122 #[.int .i64 0,.int .i64 0,.int .i64 0,.int .i64 0,.nilFunc]:=Gd.out.2.bw Gg Gd.out.2.lt;have Ga:Hid (Bl w W4/\Fc W4 w.heap.size 122 #[.int .i64 0,.int .i64 0,.int .i64 0,.int .i64 0,.nilFunc]/\Fc W4 w2.heap.size 122 #[.int .i64 kd,.int .i64 lo,.int .i64 hi,.int .i64 st,.func (.func f) #[] #[]]):=⟨Gc,r4,r3⟩;have x0:=r3.cell 0;have x1:=r3.cell 1;have x2:=r3.cell 2;have x3:=r3.cell 3;have x4:=r3.cell 4;simp only[Qm,Qk,Ql]at x0 x1 x2 x3 x4;go_wp2_with fail;refine(HK.out _).mono ?_;rintro e w5⟨rfl,b5⟩;have Ge:Hid (Bl w w5/\Fc w5 w.heap.size 122 #[.int .i64 0,.int .i64 0,.int .i64 0,.int .i64 0,.nilFunc]/\Fc w5 w2.heap.size 122 #[.int .i64 kd,.int .i64 lo,.int .i64 hi,.int .i64 st,.func (.func f) #[] #[]]):=⟨Ga.out.1.trans (b5.mono Ga.out.1.size),Ga.out.2.1.bw b5 Ga.out.2.1.lt,Ga.out.2.2.bw b5 Ga.out.2.2.lt⟩;have r4:=Ge.out.2.1;have u0:=r4.cell 0;have u1:=r4.cell 1;have u2:=r4.cell 2;have u3:=r4.cell 3;have u4:=r4.cell 4;have v0:=r4.frozen 0;have v1:=r4.frozen 1;have v2:=r4.frozen 2;have v3:=r4.frozen 3;have v4:=r4.frozen 4;have Gu:=r4.lt;simp only[Qm,Qk,Ql]at u0 u1 u2 u3 u4;obtain⟨e0,e6⟩:=Gl.out w5 Ge.out.1;have rz:=U7 (c0:=(.int .i64 0)) (c1:=(.int .i64 0)) (c2:=(.int .i64 0)) (c3:=(.int .i64 0)) (c4:=.nilFunc) Ge.out.2.1;have Gb:=Qc w.heap.size;have bz:Bl w (((((w5.setCell ⟨w.heap.size,0,none⟩ (.int .i64 0)).setCell ⟨w.heap.size,1,none⟩ (.int .i64 0)).setCell ⟨w.heap.size,2,none⟩ (.int .i64 0)).setCell ⟨w.heap.size,3,none⟩ (.int .i64 0)).setCell ⟨w.heap.size,4,none⟩ .nilFunc):=((((Ge.out.1.setCell Gb _).setCell Gb _).setCell Gb _).setCell Gb _).setCell Gb _;have Gj:(((((w5.setCell ⟨w.heap.size,0,none⟩ (.int .i64 0)).setCell ⟨w.heap.size,1,none⟩ (.int .i64 0)).setCell ⟨w.heap.size,2,none⟩ (.int .i64 0)).setCell ⟨w.heap.size,3,none⟩ (.int .i64 0)).setCell ⟨w.heap.size,4,none⟩ .nilFunc).heap.size=w5.heap.size:=by simp
   have HZ:Hid (Fc ((((((w5.setCell ⟨w.heap.size,0,none⟩ (.int .i64 0)).setCell ⟨w.heap.size,1,none⟩ (.int .i64 0)).setCell ⟨w.heap.size,2,none⟩ (.int .i64 0)).setCell ⟨w.heap.size,3,none⟩ (.int .i64 0)).setCell ⟨w.heap.size,4,none⟩ .nilFunc).alloc (.cells #[.iface 307 (.pointer (some (ad 0)))] 127)).drew w.heap.size 122 #[.int .i64 0,.int .i64 0,.int .i64 0,.int .i64 0,.nilFunc]/\Bl w ((((((w5.setCell ⟨w.heap.size,0,none⟩ (.int .i64 0)).setCell ⟨w.heap.size,1,none⟩ (.int .i64 0)).setCell ⟨w.heap.size,2,none⟩ (.int .i64 0)).setCell ⟨w.heap.size,3,none⟩ (.int .i64 0)).setCell ⟨w.heap.size,4,none⟩ .nilFunc).alloc (.cells #[.iface 307 (.pointer (some (ad 0)))] 127)).drew/\((((((w5.setCell ⟨w.heap.size,0,none⟩ (.int .i64 0)).setCell ⟨w.heap.size,1,none⟩ (.int .i64 0)).setCell ⟨w.heap.size,2,none⟩ (.int .i64 0)).setCell ⟨w.heap.size,3,none⟩ (.int .i64 0)).setCell ⟨w.heap.size,4,none⟩ .nilFunc).alloc (.cells #[.iface 307 (.pointer (some (ad 0)))] 127)).drew.cell? ⟨w5.heap.size,0,none⟩=some (.iface 307 (.pointer (some (ad 0))))):=zyx bz rz Gj _ bz.size;have Gh:Hid (w.heap.size<=w5.heap.size):=Ge.out.1.size;have Gx:6<w5.heap.size:=by have:=Gh.out;omega
   have Gw:0<w5.heap.size:=by have:=Gh.out;omega
   go_upto_region 5 with fail;go_region;go_wp2;refine bodyPost_ret (K6 rfl rfl HZ.out.1) rfl ?_;exact yir Gp.out HZ.out.2.1 ⟨_,rfl,Gh.out,HZ.out.2.2⟩
  |true=>
   go_enter func90,ntmps90;go_wp2_with fail;refine(HC.out _).mono ?_;rintro e w1⟨b,rfl,t1⟩;have T1:Hid (Ph W0 b w1):=t1;go_wp2_with fail;refine(HN.out _).mono ?_;rintro e w2⟨rfl,b2⟩;have Gn:=HL.out _ _ _ (Gk.out _ _ _ _ T1.out b2);have Gf:Hid (Bl W0 w2):=(HT.out _ _ _ T1.out).trans (b2.mono (HT.out _ _ _ T1.out).size);obtain⟨W3,Gq,Gm,b3,q3⟩:=boxed w2 #[.int .i64 0,.int .i64 0,.int .i64 0,.int .i64 0,.nilFunc] 122;have y0:=q3.cell 0;have y1:=q3.cell 1;have y2:=q3.cell 2;have y3:=q3.cell 3;have y4:=q3.cell 4;have z0:=q3.frozen 0;have z1:=q3.frozen 1;have z2:=q3.frozen 2;have z3:=q3.frozen 3;have z4:=q3.frozen 4;simp only[Qm,Qk,Ql]at y0 y1 y2 y3 y4;have Gs:=fun(a:Addr) (w:World)=>run_store prog w a .nilFunc .plain rfl;have hl:=Qc w2.heap.size;have b4:Bl w2 (((((W3.setCell ⟨w2.heap.size,0,none⟩ (.int .i64 kd)).setCell ⟨w2.heap.size,1,none⟩ (.int .i64 lo)).setCell ⟨w2.heap.size,2,none⟩ (.int .i64 hi)).setCell ⟨w2.heap.size,3,none⟩ (.int .i64 st)).setCell ⟨w2.heap.size,4,none⟩ (.func (.func f) #[] #[])):=((((b3.setCell hl _).setCell hl _).setCell hl _).setCell hl _).setCell hl _;have r3:=U7 (c0:=(.int .i64 kd)) (c1:=(.int .i64 lo)) (c2:=(.int .i64 hi)) (c3:=(.int .i64 st)) (c4:=(.func (.func f) #[] #[])) q3;obtain⟨W4,Gi⟩:∃W4,(((((W3.setCell ⟨w2.heap.size,0,none⟩ (.int .i64 kd)).setCell ⟨w2.heap.size,1,none⟩ (.int .i64 lo)).setCell ⟨w2.heap.size,2,none⟩ (.int .i64 hi)).setCell ⟨w2.heap.size,3,none⟩ (.int .i64 st)).setCell ⟨w2.heap.size,4,none⟩ (.func (.func f) #[] #[]))=W4:=⟨_,rfl⟩;rw[Gi]at b4 r3;have Gg:Bl W0 W4:=Gf.out.trans (b4.mono Gf.out.size);have Gc:Bl w W4:=Gd.out.1.trans (Gg.mono Gd.out.1.size);have r4:Fc W4 w.heap.size 122 #[.int .i64 0,.int .i64 0,.int .i64 0,.int .i64 0,.nilFunc]:=Gd.out.2.bw Gg Gd.out.2.lt;have Ga:Hid (Bl w W4/\Fc W4 w.heap.size 122 #[.int .i64 0,.int .i64 0,.int .i64 0,.int .i64 0,.nilFunc]/\Fc W4 w2.heap.size 122 #[.int .i64 kd,.int .i64 lo,.int .i64 hi,.int .i64 st,.func (.func f) #[] #[]]):=⟨Gc,r4,r3⟩;have x0:=r3.cell 0;have x1:=r3.cell 1;have x2:=r3.cell 2;have x3:=r3.cell 3;have x4:=r3.cell 4;simp only[Qm,Qk,Ql]at x0 x1 x2 x3 x4;go_wp2_with fail;refine(HK.out _).mono ?_;rintro e w5⟨rfl,b5⟩;have Ge:Hid (Bl w w5/\Fc w5 w.heap.size 122 #[.int .i64 0,.int .i64 0,.int .i64 0,.int .i64 0,.nilFunc]/\Fc w5 w2.heap.size 122 #[.int .i64 kd,.int .i64 lo,.int .i64 hi,.int .i64 st,.func (.func f) #[] #[]]):=⟨Ga.out.1.trans (b5.mono Ga.out.1.size),Ga.out.2.1.bw b5 Ga.out.2.1.lt,Ga.out.2.2.bw b5 Ga.out.2.2.lt⟩;have r4:=Ge.out.2.1;have u0:=r4.cell 0;have u1:=r4.cell 1;have u2:=r4.cell 2;have u3:=r4.cell 3;have u4:=r4.cell 4;have v0:=r4.frozen 0;have v1:=r4.frozen 1;have v2:=r4.frozen 2;have v3:=r4.frozen 3;have v4:=r4.frozen 4;have Gu:=r4.lt;simp only[Qm,Qk,Ql]at u0 u1 u2 u3 u4;have r6:=Ge.out.2.2;have x0:=r6.cell 0;have x1:=r6.cell 1;have x2:=r6.cell 2;have x3:=r6.cell 3;have x4:=r6.cell 4;simp only[Qm,Qk,Ql]at x0 x1 x2 x3 x4;have rz:=U7 (c0:=(.int .i64 kd)) (c1:=(.int .i64 lo)) (c2:=(.int .i64 hi)) (c3:=(.int .i64 st)) (c4:=(.func (.func f) #[] #[])) Ge.out.2.1;have Gb:=Qc w.heap.size;have bz:Bl w (((((w5.setCell ⟨w.heap.size,0,none⟩ (.int .i64 kd)).setCell ⟨w.heap.size,1,none⟩ (.int .i64 lo)).setCell ⟨w.heap.size,2,none⟩ (.int .i64 hi)).setCell ⟨w.heap.size,3,none⟩ (.int .i64 st)).setCell ⟨w.heap.size,4,none⟩ (.func (.func f) #[] #[])):=((((Ge.out.1.setCell Gb _).setCell Gb _).setCell Gb _).setCell Gb _).setCell Gb _;have HZ:Hid (Fc (((((w5.setCell ⟨w.heap.size,0,none⟩ (.int .i64 kd)).setCell ⟨w.heap.size,1,none⟩ (.int .i64 lo)).setCell ⟨w.heap.size,2,none⟩ (.int .i64 hi)).setCell ⟨w.heap.size,3,none⟩ (.int .i64 st)).setCell ⟨w.heap.size,4,none⟩ (.func (.func f) #[] #[])) w.heap.size 122 #[.int .i64 kd,.int .i64 lo,.int .i64 hi,.int .i64 st,.func (.func f) #[] #[]]/\Bl w (((((w5.setCell ⟨w.heap.size,0,none⟩ (.int .i64 kd)).setCell ⟨w.heap.size,1,none⟩ (.int .i64 lo)).setCell ⟨w.heap.size,2,none⟩ (.int .i64 hi)).setCell ⟨w.heap.size,3,none⟩ (.int .i64 st)).setCell ⟨w.heap.size,4,none⟩ (.func (.func f) #[] #[]))):=⟨rz,bz⟩;go_wp2;refine bodyPost_ret (K6 rfl rfl HZ.out.1) rfl ?_;exact Gr.out Gp.out _ HZ.out.2
end Rb
namespace Er
open Tryz
open Go.RowKit Go.Extern.Stop Go.Stop Go.Extern
variable {a p:Addr} {W:World}
theorem yd8(t:Addr)(w:World):(ReflectliteValue.unpack (.iface 130 (.pointer (some t)))).run prog w=.ok (.agg #[.pointer (some ⟨22,130,none⟩),.pointer (some ⟨w.heap.size,0,none⟩),.int .u64 150]) (w.alloc (.cells #[.pointer (some t)] 130)):=by kernel_rfl
theorem yec(e:Addr)(w:World):(ReflectliteValue.unpack (.iface 125 (.pointer (some e)))).run prog w=.ok (.agg #[.pointer (some ⟨22,125,none⟩),.pointer (some ⟨w.heap.size,0,none⟩),.int .u64 150]) (w.alloc (.cells #[.pointer (some e)] 125)):=by kernel_rfl
theorem yf0(a:Addr)(w:World):(ReflectliteValue.methodAny (ReflectliteValue.valueError "reflectlite.Value.Type" 0) (fun t _ _ _=>ReflectliteType.toType t) #[.agg #[.pointer (some ⟨22,130,none⟩),.pointer (some a),.int .u64 150]]).run prog w=.ok (.iface 215 (.agg #[.pointer (some ⟨22,130,none⟩)])) w:=by kernel_rfl
theorem yfv(v:Value)(w:World):(ReflectliteType.typeOf #[.iface 125 v]).run prog w=.ok (.iface 215 (.agg #[.pointer (some ⟨22,125,none⟩)])) w:=by kernel_rfl
section
variable (w:World)
theorem yf1:((ReflectliteType.abiMethod fun t=> (fun a:Nat=>Value.int IntKind.u8 (a:Int))<$>Rtype.kind t) #[.pointer (some ⟨22,130,none⟩)]).run prog w= .ok (.int .u8 22) w:=by kernel_rfl
theorem yfw:((ReflectliteType.abiMethod fun t=> (fun a:Nat=>Value.int IntKind.u8 (a:Int))<$>Rtype.kind t) #[.pointer (some ⟨22,125,none⟩)]).run prog w= .ok (.int .u8 22) w:=by kernel_rfl
theorem yfs:(ReflectliteType.method ReflectliteType.elem #[.agg #[.pointer (some ⟨22,130,none⟩)]]).run prog w= .ok (.iface 215 (.agg #[.pointer (some ⟨22,125,none⟩)])) w:=by kernel_rfl
theorem ygz:(ReflectliteType.relation "Implements" ReflectliteType.implements_ #[.agg #[.pointer (some ⟨22,125,none⟩)],.iface 215 (.agg #[.pointer (some ⟨22,75,none⟩)])]).run prog w= .ok (.bool true) w:=by kernel_rfl
theorem zyl:(ReflectliteType.relation "AssignableTo" ReflectliteType.assignableTo #[.agg #[.pointer (some ⟨22,125,none⟩)],.iface 215 (.agg #[.pointer (some ⟨22,125,none⟩)])]).run prog w= .ok (.bool true) w:=by kernel_rfl
end
section
variable (h:Value) (w:World)
theorem yf2:(Go.method 482 215 (.agg #[h]) "Kind").run prog w= .ok (349,h) w:=by kernel_rfl
theorem ygg:(Go.method 482 215 (.agg #[h]) "Elem").run prog w= .ok (360,.agg #[h]) w:=by kernel_rfl
theorem ygm:(Go.method 482 215 (.agg #[h]) "Implements").run prog w= .ok (361,.agg #[h]) w:=by kernel_rfl
theorem zy3:(Go.method 482 215 (.agg #[h]) "AssignableTo").run prog w= .ok (358,.agg #[h]) w:=by kernel_rfl
end
section
variable (a:Addr) (w:World)
theorem zvb:(ReflectliteValue.parts (.agg #[.pointer (some ⟨22,130,none⟩),.pointer (some a),.int .u64 150])).run prog w= .ok (some (130,a,150)) w:=by kernel_rfl
theorem ycl:(ReflectliteValue.parts (.agg #[.pointer (some ⟨22,125,none⟩),.pointer (some a),.int .u64 150])).run prog w= .ok (some (125,a,150)) w:=by kernel_rfl
theorem ybs:(ReflectliteValue.parts (.agg #[.pointer (some ⟨22,125,none⟩),.pointer (some a),.int .u64 406])).run prog w= .ok (some (125,a,406)) w:=by kernel_rfl
end
theorem ydy(w:World):(Rtype.elem? 130).run prog w=.ok (some 125) w:=by kernel_rfl
theorem ykv(p:Addr)(w:World):(ReflectliteValue.mk 125 p ReflectliteValue.flagAddr).run prog w=.ok (.agg #[.pointer (some ⟨22,125,none⟩),.pointer (some p),.int .u64 406]) w:=by kernel_rfl
theorem ye1(w:World):(Rtype.directlyAssignable 125 125).run prog w=.ok true w:=by kernel_rfl
theorem yf7(ha:W.cell? a=some (.pointer (some p))):(ReflectliteValue.method (ReflectliteValue.valueError "reflectlite.Value.IsNil" 0) ReflectliteValue.isNil #[.agg #[.pointer (some ⟨22,130,none⟩),.pointer (some a),.int .u64 150]]).run prog W=.ok (.bool false) W:=by
 have hp:=zvb a W;rw[show ReflectliteValue.method (ReflectliteValue.valueError "reflectlite.Value.IsNil" 0) ReflectliteValue.isNil #[(.agg #[.pointer (some ⟨22,130,none⟩),.pointer (some a),.int .u64 150])]=(ReflectliteValue.parts (.agg #[.pointer (some ⟨22,130,none⟩),.pointer (some a),.int .u64 150])>>=_) from rfl];simp only[Sem.run_bind,hp,Result.andThen];simp[ReflectliteValue.isNil,loadVar,isAgg,underlying,underlying130,ha,Result.andThen]
theorem yht(ha:W.cell? a=some (.pointer (some p))):(ReflectliteValue.method (ReflectliteValue.valueError "reflectlite.Value.Elem" 0) ReflectliteValue.elem #[.agg #[.pointer (some ⟨22,130,none⟩),.pointer (some a),.int .u64 150]]).run prog W=.ok (.agg #[.pointer (some ⟨22,125,none⟩),.pointer (some p),.int .u64 406]) W:=by
 have hp:=zvb a W;rw[show ReflectliteValue.method (ReflectliteValue.valueError "reflectlite.Value.Elem" 0) ReflectliteValue.elem #[(.agg #[.pointer (some ⟨22,130,none⟩),.pointer (some a),.int .u64 150])]=(ReflectliteValue.parts (.agg #[.pointer (some ⟨22,130,none⟩),.pointer (some a),.int .u64 150])>>=_) from rfl];simp only[Sem.run_bind,hp,Result.andThen];simp[ReflectliteValue.elem,loadVar,isAgg,underlying,underlying130,ha,Result.andThen,ydy,ykv]
theorem yj6{t b e:Addr}{old:Value}(hb:W.cell? b=some (.pointer (some e)))(ht:W.cell? t=some old)(hf:W.frozen? t=false):(ReflectliteValue.set #[.agg #[.pointer (some ⟨22,125,none⟩),.pointer (some t),.int .u64 406],.agg #[.pointer (some ⟨22,125,none⟩),.pointer (some b),.int .u64 150]]).run prog W=.ok (.tuple #[]) (W.setCell t (.pointer (some e))):=by
 have h1:=ybs t W;have h2:=ycl b W;have hs:=run_store prog W t (.pointer (some e)) .plain rfl;rw[show ReflectliteValue.set #[(.agg #[.pointer (some ⟨22,125,none⟩),.pointer (some t),.int .u64 406]),(.agg #[.pointer (some ⟨22,125,none⟩),.pointer (some b),.int .u64 150])]=(ReflectliteValue.parts (.agg #[.pointer (some ⟨22,125,none⟩),.pointer (some t),.int .u64 406])>>=fun _=>ReflectliteValue.parts (.agg #[.pointer (some ⟨22,125,none⟩),.pointer (some b),.int .u64 150])>>=_) from rfl];simp only[Sem.run_bind,h1,h2,Result.andThen];simp[ ReflectliteValue.flagAddr,loadVar,isAgg,underlying,underlying125,hb,Result.andThen,ye1,storeVar,Value.cells,storeCells,Addr.add,hs,ht,hf]
theorem ycr(e:Addr)(t:Nat)(w:World)(hg:w.cell? ⟨3,0,none⟩=some (.iface 215 (.agg #[.pointer (some ⟨22,75,none⟩)])))(h7:3<w.heap.size)(ht:Fc w t 125 #[.pointer none]):
  Calls prog 93 #[.iface 125 (.pointer (some e)),.iface 130 (.pointer (some ⟨t,0,none⟩))] w fun ev w'=>ev=.returned (.bool true)/\w'=((((w.alloc (.cells #[.pointer (some ⟨t,0,none⟩)] 130)).alloc (.cells #[.pointer (some ⟨22,130,none⟩),.pointer (some ⟨w.heap.size,0,none⟩),.int .u64 150] 172)).alloc (.cells #[.pointer (some ⟨22,130,none⟩),.pointer (some ⟨w.heap.size,0,none⟩),.int .u64 150] 172)).alloc (.cells #[.pointer (some e)] 125)).setCell ⟨t,0,none⟩ (.pointer (some e)):=by
 have x1:=@run_callFunc_extern prog 130 _ (fun args=>ReflectliteValue.unpack (args.getD 0 (.tuple #[]))) func130 (by kernel_rfl) (by kernel_rfl) (by kernel_rfl) (by kernel_rfl);have x2:=@run_callFunc_extern prog 131 _ (ReflectliteValue.methodAny (ReflectliteValue.valueError "reflectlite.Value.Type" 0) (fun t _ _ _=>ReflectliteType.toType t)) func131 (by kernel_rfl) (by kernel_rfl) (by kernel_rfl) (by kernel_rfl);have x3:=@run_callFunc_extern prog 132 _ (ReflectliteValue.method (ReflectliteValue.valueError "reflectlite.Value.IsNil" 0) ReflectliteValue.isNil) func132 (by kernel_rfl) (by kernel_rfl) (by kernel_rfl) (by kernel_rfl);have x4:=@run_callFunc_extern prog 349 _ (ReflectliteType.abiMethod fun t=>do pure (.int .u8 (<-Rtype.kind t))) func349 (by kernel_rfl) (by kernel_rfl) (by kernel_rfl) (by kernel_rfl);have x5:=@run_callFunc_extern prog 360 _ (ReflectliteType.method ReflectliteType.elem) func360 (by kernel_rfl) (by kernel_rfl) (by kernel_rfl) (by kernel_rfl);have x6:=@run_callFunc_extern prog 361 _ (ReflectliteType.relation "Implements" ReflectliteType.implements_) func361 (by kernel_rfl) (by kernel_rfl) (by kernel_rfl) (by kernel_rfl);have x7:=@run_callFunc_extern prog 128 _ ReflectliteType.typeOf func128 (by kernel_rfl) (by kernel_rfl) (by kernel_rfl) (by kernel_rfl);have x8:=@run_callFunc_extern prog 358 _ (ReflectliteType.relation "AssignableTo" ReflectliteType.assignableTo) func358 (by kernel_rfl) (by kernel_rfl) (by kernel_rfl) (by kernel_rfl);have x9:=@run_callFunc_extern prog 208 _ (ReflectliteValue.method (ReflectliteValue.valueError "reflectlite.Value.Elem" 0) ReflectliteValue.elem) func208 (by kernel_rfl) (by kernel_rfl) (by kernel_rfl) (by kernel_rfl);have Gi:=@run_callFunc_extern prog 209 _ ReflectliteValue.set func209 (by kernel_rfl) (by kernel_rfl) (by kernel_rfl) (by kernel_rfl);have y1:=yec;have y2:=yd8;have y3:=yfv;have y4:=yf0;have y5:=yfw;have y6:=yf1;have y7:=yfs;have y8:=ygz;have y9:=zyl;have Gd:=yf2;have Gh:=ygg;have Gf:=ygm;have Ge:=zy3;have b1:Bl w (w.alloc (.cells #[.pointer (some ⟨t,0,none⟩)] 130)):=(Qb _ w).alloc (Qc _) _;have r1:Fc (w.alloc (.cells #[.pointer (some ⟨t,0,none⟩)] 130)) w.heap.size 130 #[.pointer (some ⟨t,0,none⟩)]:=Fc.new _ _ _;have Ga:Below (w.alloc (.cells #[.pointer (some ⟨t,0,none⟩)] 130)).heap.size (w.alloc (.cells #[.pointer (some ⟨t,0,none⟩)] 130)) ((w.alloc (.cells #[.pointer (some ⟨t,0,none⟩)] 130)).alloc (.cells #[.pointer (some ⟨22,130,none⟩),.pointer (some ⟨w.heap.size,0,none⟩),.int .u64 150] 172)):=(Qb _ _).alloc (Qc _) _;have Gb:Below ((w.alloc (.cells #[.pointer (some ⟨t,0,none⟩)] 130)).alloc (.cells #[.pointer (some ⟨22,130,none⟩),.pointer (some ⟨w.heap.size,0,none⟩),.int .u64 150] 172)).heap.size ((w.alloc (.cells #[.pointer (some ⟨t,0,none⟩)] 130)).alloc (.cells #[.pointer (some ⟨22,130,none⟩),.pointer (some ⟨w.heap.size,0,none⟩),.int .u64 150] 172)) (((w.alloc (.cells #[.pointer (some ⟨t,0,none⟩)] 130)).alloc (.cells #[.pointer (some ⟨22,130,none⟩),.pointer (some ⟨w.heap.size,0,none⟩),.int .u64 150] 172)).alloc (.cells #[.pointer (some ⟨22,130,none⟩),.pointer (some ⟨w.heap.size,0,none⟩),.int .u64 150] 172)):=(Qb _ _).alloc (Qc _) _;have Gc:Below (((w.alloc (.cells #[.pointer (some ⟨t,0,none⟩)] 130)).alloc (.cells #[.pointer (some ⟨22,130,none⟩),.pointer (some ⟨w.heap.size,0,none⟩),.int .u64 150] 172)).alloc (.cells #[.pointer (some ⟨22,130,none⟩),.pointer (some ⟨w.heap.size,0,none⟩),.int .u64 150] 172)).heap.size (((w.alloc (.cells #[.pointer (some ⟨t,0,none⟩)] 130)).alloc (.cells #[.pointer (some ⟨22,130,none⟩),.pointer (some ⟨w.heap.size,0,none⟩),.int .u64 150] 172)).alloc (.cells #[.pointer (some ⟨22,130,none⟩),.pointer (some ⟨w.heap.size,0,none⟩),.int .u64 150] 172)) ((((w.alloc (.cells #[.pointer (some ⟨t,0,none⟩)] 130)).alloc (.cells #[.pointer (some ⟨22,130,none⟩),.pointer (some ⟨w.heap.size,0,none⟩),.int .u64 150] 172)).alloc (.cells #[.pointer (some ⟨22,130,none⟩),.pointer (some ⟨w.heap.size,0,none⟩),.int .u64 150] 172)).alloc (.cells #[.pointer (some e)] 125)):=(Qb _ _).alloc (Qc _) _;have b2:=b1.trans (Ga.mono b1.size);have b3:=b2.trans (Gb.mono b2.size);have b4:=b3.trans (Gc.mono b3.size);have r2:=r1.bw Ga r1.lt;have r3:=r2.bw Gb r2.lt;have n3:=yf7 (r2.cell 0);have n9:=yht (r3.cell 0);have Gj:=(b2.cell (p:=⟨3,0,none⟩) h7).trans hg;have t4:=ht.bw b4 ht.lt;have h4:((((w.alloc (.cells #[.pointer (some ⟨t,0,none⟩)] 130)).alloc (.cells #[.pointer (some ⟨22,130,none⟩),.pointer (some ⟨w.heap.size,0,none⟩),.int .u64 150] 172)).alloc (.cells #[.pointer (some ⟨22,130,none⟩),.pointer (some ⟨w.heap.size,0,none⟩),.int .u64 150] 172)).alloc (.cells #[.pointer (some e)] 125)).cell? ⟨w.heap.size+1+1+1,0,none⟩=some (.pointer (some e)):=by
  rw[World.cell?_alloc_at _ _ _ _ (by simp)];rfl
 have Gg:=yj6 h4 (t4.cell 0) (t4.frozen 0);go_enter func93,ntmps93;go_wp2;refine wp_loop_rounds 1 ?_;rw[rounds_succ];go_wp2;go_ret;exact⟨rfl,rfl⟩
theorem yg0(pb po:Nat)(b:Addr)(w:World)(h1:w.cell? ⟨pb,po,none⟩=some (.iface 307 (.pointer (some b)))):
  Calls prog 92 #[.iface 125 (.pointer (some ⟨pb,po,none⟩)),.iface 307 (.pointer (some b))] w fun e w'=>e=.returned (.bool true)/\w'=w:=by
 obtain⟨i,hi,Ga⟩:=Option.map_eq_some_iff.1 ye7;obtain⟨j,hj,Gd⟩:=Option.map_eq_some_iff.1 ye2;have h8:=@run_callFunc_extern prog 128 _ Extern.ReflectliteType.typeOf func128 (by kernel_rfl) (by kernel_rfl) (by kernel_rfl) (by kernel_rfl);have Gb:=@run_callFunc_extern prog 359 _ (Extern.ReflectliteType.method fun t=>do Extern.Rtype.noPackHeld "Comparable" t;pure (.bool (<-typeInfo t).comparable)) func359 (by kernel_rfl) (by kernel_rfl) (by kernel_rfl) (by kernel_rfl);have tT:=zux;have cT:=fun w=>(Gb #[.agg #[.pointer (some ⟨22,307,none⟩)]] w);simp only[zj4]at cT;clear Gb;have mR:=zf1;have nW:=yim;have uW:=zno;have mU:=zj5;have Gc:=run_eql_iface_ptr_same (P:=prog) w b underlying75 underlying307 hi Ga hj;have Ge:=run_eql_iface_types (P:=prog) 125 307 (.pointer (some ⟨pb,po,none⟩)) (.pointer (some b)) underlying75 (by decide) w;go_enter func92,ntmps92;go_wp2;refine wp_loop_rounds 2 ?_;rw[rounds_succ];go_wp2;rw[rounds_succ];go_wp2;go_ret;exact⟨rfl,rfl⟩
theorem yil(e:Addr)(t:Nat)(w:World)(hg:w.cell? ⟨3,0,none⟩=some (.iface 215 (.agg #[.pointer (some ⟨22,75,none⟩)])))(h7:3<w.heap.size)(ht:Fc w t 125 #[.pointer none]):
  Calls prog 93 #[.iface 125 (.pointer (some e)),.iface 130 (.pointer (some ⟨t,0,none⟩))] w fun ev w'=>ev=.returned (.bool true)/\w'.cell? ⟨t,0,none⟩=some (.pointer (some e))/\Below t w w':=by
 refine(ycr e t w hg h7 ht).mono ?_;rintro ev w'⟨rfl,hw⟩;have b4:∃V,w'=V.setCell ⟨t,0,none⟩ (.pointer (some e))/\Bl w V:=by
  refine⟨_,hw,?_⟩;exact((((Qb _ w).alloc (Qc _) _).alloc (by simp) _).alloc (by simp;omega) _).alloc (by simp;omega) _
 obtain⟨V,rfl,hb⟩:=b4;have hr:=(ht.bw hb ht.lt).set 0 (.pointer (some e));exact⟨rfl,hr.cell 0,(hb.mono (Nat.le_of_lt ht.lt)).setCell (p:=⟨t,0,none⟩) (Qc _) _⟩
theorem zmg(pb:Nat)(b:Addr)(t:ByteArray)(w:World)(hpb:pb<w.heap.size)(hbb:b.block<w.heap.size)(h1:w.cell? ⟨pb,0,none⟩=some (.iface 307 (.pointer (some b))))(h2:w.cell? b=some (.string t))(ht:t.size<=200)(hk:w.cell? ⟨0,0,none⟩=some (.iface 307 (.pointer (some b))))(hg:w.cell? ⟨3,0,none⟩=some (.iface 215 (.agg #[.pointer (some ⟨22,75,none⟩)])))(h25:22<=w.heap.size):
  Calls prog 49 #[.iface 125 (.pointer (some ⟨pb,0,none⟩))] w fun e w'=>∃A,e=.returned (.slice (some ⟨A,0,none⟩) 1 1)/\Fc w' A 40 #[.int .i64 2,.int .i64 0,.string t,.slice none 0 0]/\w.heap.size<=A/\Bl w w':=by
 have hE:=hid (Ry pb b t w h1 h2 ht);obtain⟨W0,Gd,Gc,b0,r0⟩:=boxed w #[.pointer none] 125;have hI:=hid (yg0 pb 0 b W0 ((b0.cell (p:=⟨pb,0,none⟩) hpb).trans h1));have hA:=hid (yil ⟨pb,0,none⟩ w.heap.size W0 ((b0.cell (p:=⟨3,0,none⟩) (by show 3<_;omega)).trans hg) (by have:=b0.size;omega) r0);have HC:Hid (∀W,Bl w W->W.cell? ⟨pb,0,none⟩=some (.iface 307 (.pointer (some b)))/\W.cell? b=some (.string t)):=fun W hb=>⟨(hb.cell (p:=⟨pb,0,none⟩) hpb).trans h1,(hb.cell hbb).trans h2⟩;have Gb:=(b0.cell (p:=⟨0,0,none⟩) (by show 0<_;omega)).trans hk;have Ge:=hid b0;have mR:=zjs;have mE:=zjy;generalize hT:(⟨#[69,82,82,32]⟩++t:ByteArray)=T at*;go_enter func49,ntmps49;go_wp2_with fail;refine hE.out.mono ?_;rintro e w1⟨rfl,e1⟩;subst e1;go_wp2_with fail;refine hI.out.mono ?_;rintro e w2⟨rfl,e2⟩;subst e2;go_wp2_with fail;refine hA.out.mono ?_;rintro e w3⟨rfl,c3,b3⟩;have Ga:=hid (Ge.out.trans b3);obtain⟨q1,q2⟩:=HC.out w3 Ga.out;go_wp2;go_ret;exact⟨_,rfl,Fc.new _ _ _,Ga.out.size,Ga.out.alloc Ga.out.size _⟩
end Er
namespace Rb
open Tryz
open _root_.ByteArray (empty)
open Go.RowKit Go.Maps
open Ri (F4 RK UpK Fq G2 Nb Mk Ln kvA z7 Ow Rv Ou Ru)
variable {w w' W:World} {B ab ao m:Nat} {ad:Nat->Addr} {aa aw:Option Addr}
def kS (L:List KV) (nm:ByteArray) (kd:Nat):Ke:=if (Fq L nm).isSome=true then (Fb L nm).key else Mr nm kd
section
variable (L:List KV) (nm:ByteArray) (kd:Nat)
theorem Ei:(kS L nm kd).name=nm:=by
 unfold kS;rcases Oo L nm with⟨h,e⟩|⟨h,-,hn⟩
 ·rw[h,if_neg (by simp)];rfl
 ·rw[h,Option.isSome_some,if_pos rfl,hn]
theorem Mf:(kS L nm kd).val.text=(Fb L nm).key.val.text/\(kS L nm kd).val.ia=(Fb L nm).key.val.ia/\(kS L nm kd).val.pj=(Fb L nm).key.val.pj/\(kS L nm kd).val.rq=(Fb L nm).key.val.rq/\(kS L nm kd).due=(Fb L nm).key.due:=by
 unfold kS;rcases Oo L nm with⟨h,e⟩|⟨h,-,hn⟩
 ·rw[h,if_neg (by simp),e];exact⟨rfl,rfl,rfl,rfl,rfl⟩
 ·rw[h,Option.isSome_some,if_pos rfl];exact⟨rfl,rfl,rfl,rfl,rfl⟩
end
structure Only (v:Vl):Prop where
 k1:v.kind=1->v.ia=[]/\v.pj=[]/\v.rq=[]
 k2:v.kind=2->v.text=⟨#[]⟩/\v.pj=[]/\v.rq=[]/\v.ia≠ []
 k3:v.kind=3->v.text=⟨#[]⟩/\v.ia=[]/\v.rq=[]
 k4:v.kind=4->v.text=⟨#[]⟩/\v.ia=[]/\v.pj=[]
 le:1<=v.kind/\v.kind<=4
theorem Y9{t:ByteArray}(h:t.size=0):t=⟨#[]⟩:=by
 obtain⟨a⟩:=t;have:a.size=0:=h;rw[Array.eq_empty_of_size_eq_zero this]
theorem ydb{v:Vl}(h:Ls v=true):Only v:=by
 have Ga:∀{α:Type} {l:List α},l.length=0->l=[]:=fun h=>List.length_eq_zero_iff.1 h;unfold Ls Nq at h;by_cases e1:v.kind=1
 ·rw[if_pos e1,Qh,decide_eq_true_iff]at h;exact⟨fun _=>⟨Ga (by omega),Ga (by omega),Ga (by omega)⟩,fun e=>by omega,fun e=>by omega,fun e=>by omega,by omega⟩
 ·rw[if_neg e1]at h;by_cases e2:v.kind=2
  ·rw[if_pos e2,Qh,Qh,decide_eq_true_iff,decide_eq_true_iff]at h;refine⟨fun e=>by omega,fun _=>⟨Y9 h.1,Ga (by omega),Ga (by omega),fun e=>?_⟩,fun e=>by omega,fun e=>by omega,by omega⟩;have:=h.2.2;rw[e]at this;revert this;decide
  ·rw[if_neg e2]at h;by_cases e3:v.kind=3
   ·rw[if_pos e3,Qh,Qh,decide_eq_true_iff,decide_eq_true_iff]at h;exact⟨fun e=>by omega,fun e=>by omega,fun _=>⟨Y9 h.1,Ga (by omega),Ga (by omega)⟩,fun e=>by omega,by omega⟩
   ·rw[if_neg e3]at h;by_cases e4:v.kind=4
    ·rw[if_pos e4,Qh,Qh,decide_eq_true_iff,decide_eq_true_iff]at h;exact⟨fun e=>by omega,fun e=>by omega,fun e=>by omega,fun _=>⟨Y9 h.1,Ga (by omega),Ga (by omega)⟩,by omega⟩
    ·rw[if_neg e4]at h;cases h
theorem Wo{L:List KV}(hd:Fm (L.map KV.key)=true){nm:ByteArray}(hf:(Fq L nm).isSome=true):Only (Fb L nm).key.val:=by
 rcases Oo L nm with⟨h,-⟩|⟨-,hm,-⟩
 ·rw[h]at hf;cases hf
 ·have hk:=((Ns _).1 hd).2.2 _ (List.mem_map_of_mem hm);unfold Hh at hk;rw[Qh,Qh]at hk;exact ydb hk.2.1
section
variable {L : List KV} {nm : ByteArray}
theorem zyw(hd:Fm (L.map KV.key)=true)(hk:(Fq L nm).isSome=true->(Fb L nm).key.val.kind=1)(t:ByteArray):(kS L nm 1).withText t=(Ll L nm t).key:=by
 obtain⟨-,-,-,-,Ga⟩:=Mf L nm 1;have hn:=Ei L nm 1;unfold Ke.withText Ll;rw[hn,Ga];cases hf:(Fq L nm).isSome with
 |false=>unfold kS;rw[hf,if_neg (by simp)];rfl
 |true=>
  have ho:=(Wo hd hf).k1 (hk hf);unfold kS;rw[hf,if_pos rfl,hk hf,ho.1,ho.2.1,ho.2.2]
theorem Eq(hd:Fm (L.map KV.key)=true)(hk:(Fq L nm).isSome=true->(Fb L nm).key.val.kind=2)(X:List ByteArray):(kS L nm 2).withItems X=Nr L nm X:=by
 obtain⟨-,-,-,-,Ga⟩:=Mf L nm 2;have hn:=Ei L nm 2;unfold Ke.withItems Nr;rw[hn,Ga];cases hf:(Fq L nm).isSome with
 |false=>unfold kS;rw[hf,if_neg (by simp)];rfl
 |true=>
  have ho:=(Wo hd hf).k2 (hk hf);unfold kS;rw[hf,if_pos rfl,hk hf,ho.1,ho.2.1,ho.2.2.1]
theorem zve(hd:Fm (L.map KV.key)=true)(hk:(Fq L nm).isSome=true->(Fb L nm).key.val.kind=3)(X:List Pr):(kS L nm 3).withPairs X=Ti L nm X:=by
 obtain⟨-,-,-,-,Ga⟩:=Mf L nm 3;have hn:=Ei L nm 3;unfold Ke.withPairs Ti;rw[hn,Ga];cases hf:(Fq L nm).isSome with
 |false=>unfold kS;rw[hf,if_neg (by simp)];rfl
 |true=>
  have ho:=(Wo hd hf).k3 (hk hf);unfold kS;rw[hf,if_pos rfl,hk hf,ho.1,ho.2.1,ho.2.2]
theorem zue(hd:Fm (L.map KV.key)=true)(hk:(Fq L nm).isSome=true->(Fb L nm).key.val.kind=4)(X:List Kk.Rk):(kS L nm 4).withRanks X=Pe L nm X:=by
 obtain⟨-,-,-,-,Ga⟩:=Mf L nm 4;have hn:=Ei L nm 4;unfold Ke.withRanks Pe;rw[hn,Ga];cases hf:(Fq L nm).isSome with
 |false=>unfold kS;rw[hf,if_neg (by simp)];rfl
 |true=>
  have ho:=(Wo hd hf).k4 (hk hf);unfold kS;rw[hf,if_pos rfl,hk hf,ho.1,ho.2.1,ho.2.2]
theorem zla(hd:Fm (L.map KV.key)=true)(hk:(Fq L nm).isSome=true->(Fb L nm).key.val.kind=2):(Fb L nm).key.val.ia=[]↔(Fq L nm).isSome=false:=by
 cases hf:(Fq L nm).isSome with
 |true=>
  have ho:=(Wo hd hf).k2 (hk hf);exact⟨fun e=>absurd e ho.2.2.2,fun e=>by cases e⟩
 |false=>
  rcases Oo L nm with⟨h,e⟩|⟨h,-,-⟩
  ·rw[e];exact⟨fun _=>rfl,fun _=>rfl⟩
  ·rw[h]at hf;cases hf
end
theorem zkb:∀(W:List ByteArray) (X:List Kk.Rk),W.foldl Kk.without X=X.filter (fun p=>!(W.contains p.m))
 | [],X=> (List.filter_eq_self.2 fun _ _=>rfl).symm
 |m::W,X=>by
  rw[List.foldl_cons,zkb W];unfold Kk.without;rw[List.filter_filter];congr 1;funext p;rw[List.contains_cons,Cy];by_cases e:p.m=m
  ·simp[e]
  ·simp[e]
def tgt (c:Cm) (L:List KV) (now:Int) (T:List ByteArray):List Ke×List Rp:=if c.many=true then Oj c (L.map KV.key) T else Mh c (L.map KV.key) (kS L (T.getD 0 empty) c.kind) (Fq L (T.getD 0 empty)).isSome now T
theorem yfz(c:Cm){L:List KV}(now:Int)(T:List ByteArray)(hm:c.many=false):Np c (L.map KV.key) now T=if(decide (c.kind≠0)&&((Fq L (T.getD 0 empty)).isSome&&!((Fb L (T.getD 0 empty)).key.val.kind==(c.kind:Int))))=true then(L.map KV.key,R6) else tgt c L now T:=by
 unfold Np tgt;rw[hm,if_neg (by simp:¬false=true)];unfold kS;cases hf:Fq L (T.getD 0 empty)with
 |none=>
  have h1:=Ri.znd hf 0;rw[show Fa T 0=(T.getD 0 empty) from rfl,h1,if_pos (by omega)];simp
 |some x=>
  obtain⟨i,hi,hx,hn,Ga⟩:=Ri.Iq hf;have Gc:(L.map KV.key).getD i ke0=x.key:=by rw[Wg,hx]
  have Gb:Fb L (T.getD 0 empty)=x:=by unfold Fb;rw[hf];rfl
  rw[show Fa T 0=(T.getD 0 empty) from rfl,Ga,if_neg (by omega),Int.toNat_natCast,Gc,Gb];by_cases h1:c.kind=0
  ·simp[h1]
  ·by_cases h2:x.key.val.kind=(c.kind:Int)
   ·simp[h1,h2]
   ·simp[h1,h2]
def fnC (c:Cm):Nat:=[172,174,176,175,173,186,187,182,183,184,193,194,195,200,201,204,181,190,189,185,198,205,206,188,196,207,180,178,179,191,192,199,203,197,202].getD c.val 0
theorem yif:(Cm.all.all fun c=>decide ((Hl c).fn=fnC c))=true:=by kernel_rfl
theorem yka(c:Cm):(Hl c).fn=fnC c:=Qg (Qw.1 yif c (Wa c))
def Oq (c:Cm) (L:List KV) (nm:ByteArray):Prop:=c.kind≠0->(Fq L nm).isSome=true->(Fb L nm).key.val.kind=(c.kind:Int)
section
variable (L : List KV) (now : Int) (T : List ByteArray)
theorem tg5:tgt 5 L now T=((L.map KV.key),if(Fq L (T.getD 0 empty)).isSome=true then Fy (Fb L (T.getD 0 empty)).key.val.text else G7):=by
 show((L.map KV.key),if(Fq L (T.getD 0 empty)).isSome=true then Fy (kS L (T.getD 0 empty) 1).val.text else G7)=_;rw[(Mf L (T.getD 0 empty) 1).1]
theorem tg6:tgt 6 L now T=((L.map KV.key),Fe (Fb L (T.getD 0 empty)).key.val.text.size):=by
 show((L.map KV.key),Fe (kS L (T.getD 0 empty) 1).val.text.size)=_;rw[(Mf L (T.getD 0 empty) 1).1]
theorem ylb:tgt 23 L now T=(if M8 T=true then((L.map KV.key),Fy (R8 (Fb L (T.getD 0 empty)).key.val.text (Fg (T.getD 1 empty)).1 (Fg (T.getD 2 empty)).1)) else((L.map KV.key),Fl F3)):=by
 show(if((Fg (T.getD 2 empty)).2&&(Fg (T.getD 1 empty)).2)=true then((L.map KV.key),Fy (R8 (kS L (T.getD 0 empty) 1).val.text (Fg (T.getD 1 empty)).1 (Fg (T.getD 2 empty)).1)) else((L.map KV.key),Fl F3))=_;unfold M8;rw[(Mf L (T.getD 0 empty) 1).1,Bool.and_comm]
theorem tg7{kd:Nat}(hk:(Fb L (T.getD 0 empty)).key.val.kind=kd):tgt 7 L now T=((L.map KV.key),Hd (Py kd)):=by
 show((L.map KV.key),Hd (Py (kS L (T.getD 0 empty) 0).val.kind.toNat))=_;have:(kS L (T.getD 0 empty) 0).val.kind=kd:=by
  unfold kS;rcases Oo L (T.getD 0 empty)with⟨h,e⟩|⟨h,-,hn⟩
  ·rw[h,if_neg (by simp)];rw[e]at hk;exact hk
  ·rw[h,Option.isSome_some,if_pos rfl];exact hk
 rw[this,Int.toNat_natCast]
theorem tg8:tgt 8 L now T=((L.map KV.key),Fe (if(Fq L (T.getD 0 empty)).isSome=true then(if(Fb L (T.getD 0 empty)).key.due=0 then-1 else(Fb L (T.getD 0 empty)).key.due-now) else-2)):=by
 show((L.map KV.key),Fe (if(Fq L (T.getD 0 empty)).isSome=true then(if(kS L (T.getD 0 empty) 0).due=0 then-1 else(kS L (T.getD 0 empty) 0).due-now) else-2))=_;rw[(Mf L (T.getD 0 empty) 0).2.2.2.2]
theorem tg9:tgt 9 L now T=(if(Fb L (T.getD 0 empty)).key.due=0 then((L.map KV.key),Fe 0) else(G0 (L.map KV.key) ((Fb L (T.getD 0 empty)).key.withDue 0),Fe 1)):=by
 show(if(kS L (T.getD 0 empty) 0).due=0 then((L.map KV.key),Fe 0) else(G0 (L.map KV.key) ((kS L (T.getD 0 empty) 0).withDue 0),Fe 1))=_;rw[(Mf L (T.getD 0 empty) 0).2.2.2.2];by_cases h0:(Fb L (T.getD 0 empty)).key.due=0
 ·rw[if_pos h0,if_pos h0]
 ·rw[if_neg h0,if_neg h0];rcases Oo L (T.getD 0 empty)with⟨h,e⟩|⟨h,-,hn⟩
  ·rw[e]at h0;exact absurd rfl h0
  ·unfold kS;rw[h,Option.isSome_some,if_pos rfl]
theorem yk6:tgt 19 L now T=(if(Fg (T.getD 1 empty)).2=true then(if 1000000000-now<(Fg (T.getD 1 empty)).1 then((L.map KV.key),Fl M9) else if(Fq L (T.getD 0 empty)).isSome=true then(if(Fg (T.getD 1 empty)).1<=0 then(G5 (L.map KV.key) (T.getD 0 empty),Fe 1) else(G0 (L.map KV.key) ((Fb L (T.getD 0 empty)).key.withDue (now+(Fg (T.getD 1 empty)).1)),Fe 1)) else((L.map KV.key),Fe 0)) else((L.map KV.key),Fl F3)):=by
 show(if(Fg (T.getD 1 empty)).2=true then(if 1000000000-now<(Fg (T.getD 1 empty)).1 then((L.map KV.key),Fl M9) else if(Fq L (T.getD 0 empty)).isSome=true then(if(Fg (T.getD 1 empty)).1<=0 then(G5 (L.map KV.key) (T.getD 0 empty),Fe 1) else(G0 (L.map KV.key) ((kS L (T.getD 0 empty) 0).withDue (now+(Fg (T.getD 1 empty)).1)),Fe 1)) else((L.map KV.key),Fe 0)) else((L.map KV.key),Fl F3))=_;cases hf:(Fq L (T.getD 0 empty)).isSome with
 |false=>rfl
 |true=>simp only[kS,hf,if_true]
theorem ykn:tgt 16 L now T=(if(Fq L (T.getD 0 empty)).isSome=true then((L.map KV.key),Fe 0) else Fj (L.map KV.key) (M0 (T.getD 0 empty) (T.getD 1 empty) 0).key (Fe 1)):=rfl
theorem ykw:tgt 26 L now T=(if(Mq now T).2=0 then Fj (L.map KV.key) (M0 (T.getD 0 empty) (T.getD 1 empty) (Mq now T).1).key (Hd sOK) else((L.map KV.key),Fl (P7 (Mq now T).2))):=by
 show(if T.length=4 then(if H9 (T.getD 2 empty)=sEX then(if(Fg (T.getD 3 empty)).2=true then(if 1<=(Fg (T.getD 3 empty)).1/\(Fg (T.getD 3 empty)).1<=1000000000-now then Fj (L.map KV.key) (M0 (T.getD 0 empty) (T.getD 1 empty) (now+(Fg (T.getD 3 empty)).1)).key (Hd sOK) else((L.map KV.key),Fl M9)) else((L.map KV.key),Fl F3)) else((L.map KV.key),Fl Rq)) else Fj (L.map KV.key) (M0 (T.getD 0 empty) (T.getD 1 empty) 0).key (Hd sOK))=_;unfold Mq;by_cases h4:T.length=4
 ·rw[if_pos h4,if_pos h4];by_cases h2:H9 (T.getD 2 empty)=sEX
  ·rw[if_pos h2,if_pos h2];by_cases h3:(Fg (T.getD 3 empty)).2=true
   ·rw[if_pos h3,if_pos h3];by_cases h5:1<=(Fg (T.getD 3 empty)).1/\(Fg (T.getD 3 empty)).1<=1000000000-now
    ·rw[if_pos h5,if_pos h5];rfl
    ·rw[if_neg h5,if_neg h5];rfl
   ·rw[if_neg h3,if_neg h3];rfl
  ·rw[if_neg h2,if_neg h2];rfl
 ·rw[if_neg h4,if_neg h4];rfl
section
theorem yk2(hd:Fm (L.map KV.key)=true)(hk:Oq 18 L (T.getD 0 empty)):tgt 18 L now T=Fj (L.map KV.key) (Ll L (T.getD 0 empty) ((Fb L (T.getD 0 empty)).key.val.text++(T.getD 1 empty))).key (Fe ((Fb L (T.getD 0 empty)).key.val.text++(T.getD 1 empty)).size):=by
 show Fj (L.map KV.key) ((kS L (T.getD 0 empty) 1).withText ((kS L (T.getD 0 empty) 1).val.text++(T.getD 1 empty))) (Fe ((kS L (T.getD 0 empty) 1).val.text++(T.getD 1 empty)).size)=_;rw[(Mf L (T.getD 0 empty) 1).1,zyw hd (fun h=>hk (by decide) h)]
theorem yko(hd:Fm (L.map KV.key)=true)(hk:Oq 17 L (T.getD 0 empty)):tgt 17 L now T=(if((Fg (T.getD 1 empty)).2&&(M4 (Fb L (T.getD 0 empty)).key.val.text (Fq L (T.getD 0 empty)).isSome).2)=true then(if Sl.Ha ((M4 (Fb L (T.getD 0 empty)).key.val.text (Fq L (T.getD 0 empty)).isSome).1+(Fg (T.getD 1 empty)).1)=true then Fj (L.map KV.key) (Ll L (T.getD 0 empty) (Kk.F1 ((M4 (Fb L (T.getD 0 empty)).key.val.text (Fq L (T.getD 0 empty)).isSome).1+(Fg (T.getD 1 empty)).1))).key (Fe ((M4 (Fb L (T.getD 0 empty)).key.val.text (Fq L (T.getD 0 empty)).isSome).1+(Fg (T.getD 1 empty)).1)) else((L.map KV.key),Fl On)) else((L.map KV.key),Fl F3)):=by
 show(if((Fg (T.getD 1 empty)).2&&(M4 (kS L (T.getD 0 empty) 1).val.text (Fq L (T.getD 0 empty)).isSome).2)=true then(if Sl.Ha ((M4 (kS L (T.getD 0 empty) 1).val.text (Fq L (T.getD 0 empty)).isSome).1+(Fg (T.getD 1 empty)).1)=true then Fj (L.map KV.key) ((kS L (T.getD 0 empty) 1).withText (Kk.F1 ((M4 (kS L (T.getD 0 empty) 1).val.text (Fq L (T.getD 0 empty)).isSome).1+(Fg (T.getD 1 empty)).1))) (Fe ((M4 (kS L (T.getD 0 empty) 1).val.text (Fq L (T.getD 0 empty)).isSome).1+(Fg (T.getD 1 empty)).1)) else((L.map KV.key),Fl On)) else((L.map KV.key),Fl F3))=_;rw[(Mf L (T.getD 0 empty) 1).1,zyw hd (fun h=>hk (by decide) h)]
theorem ykp:tgt 12 L now T=((L.map KV.key),Fe ((Fb L (T.getD 0 empty)).key.val.ia.length:Int)):=by
 show((L.map KV.key),Fe ((kS L (T.getD 0 empty) 2).val.ia.length:Int))=_;rw[(Mf L (T.getD 0 empty) 2).2.1]
theorem yla:tgt 24 L now T=(if M8 T=true then((L.map KV.key),He (N3 (Fb L (T.getD 0 empty)).key.val.ia (Fg (T.getD 1 empty)).1 (Fg (T.getD 2 empty)).1)) else((L.map KV.key),Fl F3)):=by
 show(if((Fg (T.getD 1 empty)).2&&(Fg (T.getD 2 empty)).2)=true then((L.map KV.key),He (N3 (kS L (T.getD 0 empty) 2).val.ia (Fg (T.getD 1 empty)).1 (Fg (T.getD 2 empty)).1)) else((L.map KV.key),Fl F3))=_;rw[(Mf L (T.getD 0 empty) 2).2.1];rfl
theorem yku(hd:Fm (L.map KV.key)=true)(hk:Oq 10 L (T.getD 0 empty)):tgt 10 L now T=(if(Fb L (T.getD 0 empty)).key.val.ia=[] then((L.map KV.key),G7) else Fj (L.map KV.key) (Nr L (T.getD 0 empty) ((Fb L (T.getD 0 empty)).key.val.ia.take 0++(Fb L (T.getD 0 empty)).key.val.ia.drop (0+1))) (Fy ((Fb L (T.getD 0 empty)).key.val.ia.getD 0 empty))):=by
 show(if(Fq L (T.getD 0 empty)).isSome=true then Fj (L.map KV.key) ((kS L (T.getD 0 empty) 2).withItems (kS L (T.getD 0 empty) 2).val.ia.tail) (Fy ((kS L (T.getD 0 empty) 2).val.ia.getD 0 empty)) else((L.map KV.key),G7))=_;have Ga:(Fq L (T.getD 0 empty)).isSome=true->(Fb L (T.getD 0 empty)).key.val.kind=2:=fun h=>hk (by decide) h;rw[(Mf L (T.getD 0 empty) 2).2.1,Eq hd Ga];have hi:=zla hd Ga;cases hf:(Fq L (T.getD 0 empty)).isSome with
 |false=>rw[hf]at hi;rw[if_pos (hi.2 rfl),if_neg (by simp)]
 |true=>
  rw[hf]at hi;rw[if_pos rfl,if_neg (fun e=>by cases hi.1 e),List.take_zero,List.nil_append,List.drop_one]
theorem yks(hd:Fm (L.map KV.key)=true)(hk:Oq 11 L (T.getD 0 empty)):tgt 11 L now T=(if(Fb L (T.getD 0 empty)).key.val.ia=[] then((L.map KV.key),G7) else Fj (L.map KV.key) (Nr L (T.getD 0 empty) ((Fb L (T.getD 0 empty)).key.val.ia.take ((Fb L (T.getD 0 empty)).key.val.ia.length-1)++(Fb L (T.getD 0 empty)).key.val.ia.drop (((Fb L (T.getD 0 empty)).key.val.ia.length-1)+1))) (Fy ((Fb L (T.getD 0 empty)).key.val.ia.getD ((Fb L (T.getD 0 empty)).key.val.ia.length-1) empty))):=by
 show(if(Fq L (T.getD 0 empty)).isSome=true then Fj (L.map KV.key) ((kS L (T.getD 0 empty) 2).withItems (kS L (T.getD 0 empty) 2).val.ia.dropLast) (Fy ((kS L (T.getD 0 empty) 2).val.ia.getD ((kS L (T.getD 0 empty) 2).val.ia.length-1) empty)) else((L.map KV.key),G7))=_;have Ga:(Fq L (T.getD 0 empty)).isSome=true->(Fb L (T.getD 0 empty)).key.val.kind=2:=fun h=>hk (by decide) h;rw[(Mf L (T.getD 0 empty) 2).2.1,Eq hd Ga];have hi:=zla hd Ga;cases hf:(Fq L (T.getD 0 empty)).isSome with
 |false=>rw[hf]at hi;rw[if_pos (hi.2 rfl),if_neg (by simp)]
 |true=>
  rw[hf]at hi;rw[if_pos rfl,if_neg (fun e=>by cases hi.1 e),List.drop_eq_nil_of_le (by omega),List.append_nil,List.dropLast_eq_take]
theorem yk8(hd:Fm (L.map KV.key)=true)(hk:Oq 29 L (T.getD 0 empty)):tgt 29 L now T=Fj (L.map KV.key) (Nr L (T.getD 0 empty) (T.tail.reverse++(Fb L (T.getD 0 empty)).key.val.ia)) (Fe (T.tail.reverse++(Fb L (T.getD 0 empty)).key.val.ia).length):=by
 show Fj (L.map KV.key) ((kS L (T.getD 0 empty) 2).withItems (T.tail.reverse++(kS L (T.getD 0 empty) 2).val.ia)) (Fe ((T.tail.length+(kS L (T.getD 0 empty) 2).val.ia.length:Nat):Int))=_;rw[(Mf L (T.getD 0 empty) 2).2.1,Eq hd (fun h=>hk (by decide) h),Qi,List.length_reverse]
theorem yk3(hd:Fm (L.map KV.key)=true)(hk:Oq 30 L (T.getD 0 empty)):tgt 30 L now T=Fj (L.map KV.key) (Nr L (T.getD 0 empty) ((Fb L (T.getD 0 empty)).key.val.ia++T.tail)) (Fe ((Fb L (T.getD 0 empty)).key.val.ia++T.tail).length):=by
 show Fj (L.map KV.key) ((kS L (T.getD 0 empty) 2).withItems ((kS L (T.getD 0 empty) 2).val.ia++T.tail)) (Fe (((kS L (T.getD 0 empty) 2).val.ia.length+T.tail.length:Nat):Int))=_;rw[(Mf L (T.getD 0 empty) 2).2.1,Eq hd (fun h=>hk (by decide) h),Qi]
theorem yk1:tgt 13 L now T=((L.map KV.key),Fe ((Fb L (T.getD 0 empty)).key.val.pj.length:Int)):=by
 show((L.map KV.key),Fe ((kS L (T.getD 0 empty) 3).val.pj.length:Int))=_;rw[(Mf L (T.getD 0 empty) 3).2.2.1]
theorem ykl:tgt 20 L now T=(if Mc (Fb L (T.getD 0 empty)).key.val.pj (T.getD 1 empty) 0<0 then((L.map KV.key),G7) else((L.map KV.key),Fy ((Fb L (T.getD 0 empty)).key.val.pj.getD (Mc (Fb L (T.getD 0 empty)).key.val.pj (T.getD 1 empty) 0).toNat (bz,bz)).2)):=by
 show(if Mc (kS L (T.getD 0 empty) 3).val.pj (T.getD 1 empty) 0<0 then((L.map KV.key),G7) else((L.map KV.key),Fy ((kS L (T.getD 0 empty) 3).val.pj.getD (Mc (kS L (T.getD 0 empty) 3).val.pj (T.getD 1 empty) 0).toNat (bz,bz)).2))=_;rw[(Mf L (T.getD 0 empty) 3).2.2.1]
theorem ykt:tgt 14 L now T=((L.map KV.key),He (Hj (Fb L (T.getD 0 empty)).key.val.pj)):=by
 show((L.map KV.key),He (Hj (kS L (T.getD 0 empty) 3).val.pj))=_;rw[(Mf L (T.getD 0 empty) 3).2.2.1]
theorem ykx(hd:Fm (L.map KV.key)=true)(hk:Oq 31 L (T.getD 0 empty)):tgt 31 L now T=Fj (L.map KV.key) (Ti L (T.getD 0 empty) ((Fb L (T.getD 0 empty)).key.val.pj.filter (fun p=>!(T.tail.contains p.1)))) (Fe (((Fb L (T.getD 0 empty)).key.val.pj.length:Int)-(((Fb L (T.getD 0 empty)).key.val.pj.filter (fun p=>!(T.tail.contains p.1))).length:Int))):=by
 show Fj (L.map KV.key) ((kS L (T.getD 0 empty) 3).withPairs ((kS L (T.getD 0 empty) 3).val.pj.filter fun p=>!(T.tail.contains p.1))) (Fe (((kS L (T.getD 0 empty) 3).val.pj.length:Int)-(((kS L (T.getD 0 empty) 3).val.pj.filter fun p=>!(T.tail.contains p.1)).length:Int)))=_;rw[(Mf L (T.getD 0 empty) 3).2.2.1,zve hd (fun h=>hk (by decide) h)]
theorem yky(hd:Fm (L.map KV.key)=true)(hk:Oq 33 L (T.getD 0 empty)):tgt 33 L now T=Fj (L.map KV.key) (Ti L (T.getD 0 empty) (Hm (Fb L (T.getD 0 empty)).key.val.pj T.tail)) (Fe (((Hm (Fb L (T.getD 0 empty)).key.val.pj T.tail).length:Int)-((Fb L (T.getD 0 empty)).key.val.pj.length:Int))):=by
 show Fj (L.map KV.key) ((kS L (T.getD 0 empty) 3).withPairs (Hm (kS L (T.getD 0 empty) 3).val.pj T.tail)) (Fe (((Hm (kS L (T.getD 0 empty) 3).val.pj T.tail).length:Int)-((kS L (T.getD 0 empty) 3).val.pj.length:Int)))=_;rw[(Mf L (T.getD 0 empty) 3).2.2.1,zve hd (fun h=>hk (by decide) h)]
theorem yk4:tgt 15 L now T=((L.map KV.key),Fe ((Fb L (T.getD 0 empty)).key.val.rq.length:Int)):=by
 show((L.map KV.key),Fe ((kS L (T.getD 0 empty) 4).val.rq.length:Int))=_;rw[(Mf L (T.getD 0 empty) 4).2.2.2.1]
theorem yk9:tgt 21 L now T=(if Hg (Fb L (T.getD 0 empty)).key.val.rq (T.getD 1 empty) 0<0 then((L.map KV.key),G7) else((L.map KV.key),Fy (Kk.F1 ((Fb L (T.getD 0 empty)).key.val.rq.getD (Hg (Fb L (T.getD 0 empty)).key.val.rq (T.getD 1 empty) 0).toNat Kk.rk0).s))):=by
 show(if Hg (kS L (T.getD 0 empty) 4).val.rq (T.getD 1 empty) 0<0 then((L.map KV.key),G7) else((L.map KV.key),Fy (Kk.F1 ((kS L (T.getD 0 empty) 4).val.rq.getD (Hg (kS L (T.getD 0 empty) 4).val.rq (T.getD 1 empty) 0).toNat Kk.rk0).s)))=_;rw[(Mf L (T.getD 0 empty) 4).2.2.2.1]
theorem ykq:tgt 22 L now T=(if Hg (Fb L (T.getD 0 empty)).key.val.rq (T.getD 1 empty) 0<0 then((L.map KV.key),G7) else((L.map KV.key),Fe (Hg (Fb L (T.getD 0 empty)).key.val.rq (T.getD 1 empty) 0))):=by
 show(if Hg (kS L (T.getD 0 empty) 4).val.rq (T.getD 1 empty) 0<0 then((L.map KV.key),G7) else((L.map KV.key),Fe (Hg (kS L (T.getD 0 empty) 4).val.rq (T.getD 1 empty) 0)))=_;rw[(Mf L (T.getD 0 empty) 4).2.2.2.1]
theorem yk7:tgt 25 L now T=(if M8 T=true then((L.map KV.key),He (Pc (Fb L (T.getD 0 empty)).key.val.rq (Fg (T.getD 1 empty)).1 (Fg (T.getD 2 empty)).1)) else((L.map KV.key),Fl F3)):=by
 show(if((Fg (T.getD 1 empty)).2&&(Fg (T.getD 2 empty)).2)=true then((L.map KV.key),He (Pc (kS L (T.getD 0 empty) 4).val.rq (Fg (T.getD 1 empty)).1 (Fg (T.getD 2 empty)).1)) else((L.map KV.key),Fl F3))=_;rw[(Mf L (T.getD 0 empty) 4).2.2.2.1];rfl
theorem ykr(hd:Fm (L.map KV.key)=true)(hk:Oq 32 L (T.getD 0 empty)):tgt 32 L now T=Fj (L.map KV.key) (Pe L (T.getD 0 empty) ((Fb L (T.getD 0 empty)).key.val.rq.filter (fun p=>!(T.tail.contains p.m)))) (Fe (((Fb L (T.getD 0 empty)).key.val.rq.length:Int)-(((Fb L (T.getD 0 empty)).key.val.rq.filter (fun p=>!(T.tail.contains p.m))).length:Int))):=by
 show Fj (L.map KV.key) ((kS L (T.getD 0 empty) 4).withRanks (T.tail.foldl Kk.without (kS L (T.getD 0 empty) 4).val.rq)) (Fe (((kS L (T.getD 0 empty) 4).val.rq.length:Int)-((T.tail.foldl Kk.without (kS L (T.getD 0 empty) 4).val.rq).length:Int)))=_;rw[(Mf L (T.getD 0 empty) 4).2.2.2.1,zue hd (fun h=>hk (by decide) h),zkb]
theorem yk5(hd:Fm (L.map KV.key)=true)(hk:Oq 34 L (T.getD 0 empty)):tgt 34 L now T=(match Mw (Fb L (T.getD 0 empty)).key.val.rq T.tail with|some X=>Fj (L.map KV.key) (Pe L (T.getD 0 empty) X) (Fe ((X.length:Int)-((Fb L (T.getD 0 empty)).key.val.rq.length:Int)))|none=>((L.map KV.key),Fl F3)):=by
 show(match Mw (kS L (T.getD 0 empty) 4).val.rq T.tail with|some X=>Fj (L.map KV.key) ((kS L (T.getD 0 empty) 4).withRanks X) (Fe ((X.length:Int)-((kS L (T.getD 0 empty) 4).val.rq.length:Int)))|none=>((L.map KV.key),Fl F3))=_;rw[(Mf L (T.getD 0 empty) 4).2.2.2.1];cases Mw (Fb L (T.getD 0 empty)).key.val.rq T.tail with
 |none=>rfl
 |some X=>
  show Fj (L.map KV.key) ((kS L (T.getD 0 empty) 4).withRanks X) _=Fj (L.map KV.key) (Pe L (T.getD 0 empty) X) _;rw[zue hd (fun h=>hk (by decide) h)]
end
end
theorem ydo{L:List KV}(hd:Fm (L.map KV.key)=true)(nm:ByteArray):∃kd:Nat,(Fb L nm).key.val.kind=(kd:Int)/\kd<=4:=by
 cases hf:(Fq L nm).isSome with
 |true=>
  have h:=(Wo hd hf).le;exact⟨(Fb L nm).key.val.kind.toNat,by omega,by omega⟩
 |false=>
  rcases Oo L nm with⟨h,e⟩|⟨h,-,-⟩
  ·rw[e];exact⟨0,rfl,by omega⟩
  ·rw[h]at hf;cases hf
theorem ygn(B g b n:Nat)(now:Int)(aa:Option Addr)(ab ao ac:Nat)(L:List KV)(T:List ByteArray)(ad:Nat->Addr)(w:World)(h:Fu w B g b n now aa ab ao ac L L T)(hd:Fm (L.map KV.key)=true)(hE:Lk w B ad)(hn:n<=1000)(hs:∀t∈T,t.size<=200)(hm:T.length<=16)(hac:T.length<=ac)(hnow:0<=now/\now<=1000000000)(c:Cm):
  c.fits T.length=true->Oq c L (T.getD 0 empty)->Calls prog (fnC c) #[.pointer (some ⟨g,0,none⟩)] w (F2 w B g b now aa ab ao ac T ad (L.map KV.key) (tgt c L now T)):=by
 have hz:(T.getD 0 empty).size<=maxLen:=by have:=Lh hs 0;unfold maxLen;omega
 have Gc:=N4 hd (T.getD 0 empty);refine Cm.elim (motive:=fun c=>c.fits T.length=true->Oq c L (T.getD 0 empty)->Calls prog (fnC c) #[.pointer (some ⟨g,0,none⟩)] w (F2 w B g b now aa ab ao ac T ad (L.map KV.key) (tgt c L now T))) ?PINGx ?KEYSx ?FLUSHALLx ?DBSIZEx ?ECHOx ?GETx ?STRLENx ?TYPEx ?TTLx ?PERSISTx ?LPOPx ?RPOPx ?LLENx ?HLENx ?HGETALLx ?ZCARDx ?SETNXx ?INCRBYx ?APPENDx ?EXPIREx ?HGETx ?ZSCOREx ?ZRANKx ?GETRANGEx ?LRANGEx ?ZRANGEx ?SETx ?DELx ?EXISTSx ?LPUSHx ?RPUSHx ?HDELx ?ZREMx ?HSETx ?ZADDx c
 case PINGx=>
  intro hf hk;have hT:=Qg hf;exact(zxq g b n now aa ab ao ac L T w h.call (by omega)).mono fun e w' he=>M7 h he
 case KEYSx=>
  intro hf hk;have hT:=Qg hf;exact zxd B g b n now aa ab ao ac L T ad w h hd
 case FLUSHALLx=>
  intro hf hk;have hT:=Qg hf;exact zm1 B g b n now aa ab ao ac L T ad w h
 case DBSIZEx=>
  intro hf hk;have e0:(L.map KV.key).length=L.length:=Qp ..;have e1:tgt 3 L now T=(L.map KV.key,Fe L.length):=by
   show(L.map KV.key,Fe (L.map KV.key).length)=_;rw[e0]
  rw[e1];exact(zp9 g b n now aa ab ao ac L T w h.call).mono fun e w' he=>M7 h he
 case ECHOx=>
  intro hf hk;have hT:=Qg hf;exact(zm7 g b n now aa ab ao ac L T w h.call (by omega)).mono fun e w' he=>M7 h he
 case GETx=>
  intro hf hk;have hT:=Qg hf;rw[tg5];exact(ybk g b n now aa ab ao ac L T w h.call (by omega) hz).mono fun e w' he=>M7 h he
 case STRLENx=>
  intro hf hk;have hT:=Qg hf;rw[tg6];exact(zqe g b n now aa ab ao ac L T w h.call (by omega) hz).mono fun e w' he=>M7 h he
 case TYPEx=>
  intro hf hk;have hT:=Qg hf;obtain⟨kd,Ga,Gb⟩:=ydo hd (T.getD 0 empty);rw[tg7 L now T Ga];exact(zv6 g b n now aa ab ao ac L T w h.call (by omega) hz kd Ga Gb).mono fun e w' he=>M7 h he
 case TTLx=>
  intro hf hk;have hT:=Qg hf;rw[tg8];exact(yag g b n now aa ab ao ac L T w h.call (by omega) hz hnow Gc.due).mono fun e w' he=>M7 h he
 case PERSISTx=>
  intro hf hk;have hT:=Qg hf;rw[tg9];exact zpk B g b n now aa ab ao ac L T ad w h hd hE hn hs hT
 case LPOPx=>
  intro hf hk;have hT:=Qg hf;rw[yku L now T hd hk];exact zxl B g b n now aa ab ao ac L T ad w h hd hE hn hs hT
 case RPOPx=>
  intro hf hk;have hT:=Qg hf;rw[yks L now T hd hk];exact zv4 B g b n now aa ab ao ac L T ad w h hd hE hn hs hT
 case LLENx=>
  intro hf hk;have hT:=Qg hf;rw[ykp];obtain⟨xa,xc,xe⟩:=Fx (h.keyOwn (T.getD 0 empty)).ia;exact(zwx g b n now aa ab ao ac L T w h.call (by omega) hz xe).mono fun e w' he=>M7 h he
 case HLENx=>
  intro hf hk;have hT:=Qg hf;rw[yk1];obtain⟨xa,xc,xe⟩:=Fx (h.keyOwn (T.getD 0 empty)).pj;exact(zwr g b n now aa ab ao ac L T w h.call (by omega) hz xe).mono fun e w' he=>M7 h he
 case HGETALLx=>
  intro hf hk;have hT:=Qg hf;rw[ykt];exact zoh B g b n now aa ab ao ac L T ad w h hd hs hT
 case ZCARDx=>
  intro hf hk;have hT:=Qg hf;rw[yk4];obtain⟨xa,xc,xe⟩:=Fx (h.keyOwn (T.getD 0 empty)).rq;exact(zt3 g b n now aa ab ao ac L T w h.call (by omega) hz xe).mono fun e w' he=>M7 h he
 case SETNXx=>
  intro hf hk;have hT:=Qg hf;rw[ykn];exact zr9 B g b n now aa ab ao ac L T ad w h hd hE hn hs hT
 case INCRBYx=>
  intro hf hk;have hT:=Qg hf;rw[yko L now T hd hk];exact zqs B g b n now aa ab ao ac L T ad w h hd hE hn hs hT
 case APPENDx=>
  intro hf hk;have hT:=Qg hf;rw[yk2 L now T hd hk];exact zpv B g b n now aa ab ao ac L T ad w h hd hE hn hs hT
 case EXPIREx=>
  intro hf hk;have hT:=Qg hf;rw[yk6];exact zpu B g b n now aa ab ao ac L T ad w h hd hE hn hs hT hnow
 case HGETx=>
  intro hf hk;have hT:=Qg hf;rw[ykl];exact zw8 B g b n now aa ab ao ac L T ad w h hd hs hT
 case ZSCOREx=>
  intro hf hk;have hT:=Qg hf;rw[yk9];exact zp8 B g b n now aa ab ao ac L T ad w h hd hE hs hT
 case ZRANKx=>
  intro hf hk;have hT:=Qg hf;rw[ykq];exact ztr B g b n now aa ab ao ac L T ad w h hd hs hT
 case GETRANGEx=>
  intro hf hk;have hT:=Qg hf;rw[ylb];exact zmy B g b n now aa ab ao ac L T ad w h hd hE hs hT
 case LRANGEx=>
  intro hf hk;have hT:=Qg hf;rw[yla];exact zqf B g b n now aa ab ao ac L T ad w h hd hE hs hT
 case ZRANGEx=>
  intro hf hk;have hT:=Qg hf;rw[yk7];exact zro B g b n now aa ab ao ac L T ad w h hd hE hs hT
 case SETx=>
  intro hf hk;have hT:=Qg hf;rw[ykw];exact zym B g b n now aa ab ao ac L T ad w h hd hE hn hs hT hac hnow
 case DELx=>
  intro hf hk;have hT:=Qg hf;exact yb5 B g b n now aa ab ao ac L T ad w h hd hs hm
 case EXISTSx=>
  intro hf hk;have hT:=Qg hf;exact zqd B g b n now aa ab ao ac L T ad w h hs hm
 case LPUSHx=>
  intro hf hk;have hT:=Qg hf;rw[yk8 L now T hd hk];exact zsz B g b n now aa ab ao ac L T ad w h hd hE hn hs hT hm hac
 case RPUSHx=>
  intro hf hk;have hT:=Qg hf;rw[yk3 L now T hd hk];exact ztw B g b n now aa ab ao ac L T ad w h hd hE hn hs hT hm hac
 case HDELx=>
  intro hf hk;have hT:=Qg hf;rw[ykx L now T hd hk];exact zx3 B g b n now aa ab ao ac L T ad w h hd hE hn hs hT hm hac
 case ZREMx=>
  intro hf hk;have hT:=Qg hf;rw[ykr L now T hd hk];exact zw6 B g b n now aa ab ao ac L T ad w h hd hE hn hs hT hm hac
 case HSETx=>
  intro hf hk;have hT:=Qg hf;rw[yky L now T hd hk];exact zxc B g b n now aa ab ao ac L T ad w h hd hE hn hs hT.1 hm hT.2 hac
 case ZADDx=>
  intro hf hk;have hT:=Qg hf;rw[yk5 L now T hd hk];exact zwy B g b n now aa ab ao ac L T ad w h hd hE hn hs hT.1 hm hT.2 hac
theorem yd2(c:Cm):∀args w,(callFunc (fnC c) args).run prog w=.ok (.enter (fnC c) args) w:=
 Cm.elim (motive:=fun c=>∀args w,(callFunc (fnC c) args).run prog w=.ok (.enter (fnC c) args) w) (enters_of func172 (by kernel_rfl) rfl) (enters_of func174 (by kernel_rfl) rfl) (enters_of func176 (by kernel_rfl) rfl) (enters_of func175 (by kernel_rfl) rfl) (enters_of func173 (by kernel_rfl) rfl) (enters_of func186 (by kernel_rfl) rfl) (enters_of func187 (by kernel_rfl) rfl) (enters_of func182 (by kernel_rfl) rfl) (enters_of func183 (by kernel_rfl) rfl) (enters_of func184 (by kernel_rfl) rfl) (enters_of func193 (by kernel_rfl) rfl) (enters_of func194 (by kernel_rfl) rfl) (enters_of func195 (by kernel_rfl) rfl) (enters_of func200 (by kernel_rfl) rfl) (enters_of func201 (by kernel_rfl) rfl) (enters_of func204 (by kernel_rfl) rfl) (enters_of func181 (by kernel_rfl) rfl) (enters_of func190 (by kernel_rfl) rfl) (enters_of func189 (by kernel_rfl) rfl) (enters_of func185 (by kernel_rfl) rfl) (enters_of func198 (by kernel_rfl) rfl) (enters_of func205 (by kernel_rfl) rfl) (enters_of func206 (by kernel_rfl) rfl) (enters_of func188 (by kernel_rfl) rfl) (enters_of func196 (by kernel_rfl) rfl) (enters_of func207 (by kernel_rfl) rfl) (enters_of func180 (by kernel_rfl) rfl) (enters_of func178 (by kernel_rfl) rfl) (enters_of func179 (by kernel_rfl) rfl) (enters_of func191 (by kernel_rfl) rfl) (enters_of func192 (by kernel_rfl) rfl) (enters_of func199 (by kernel_rfl) rfl) (enters_of func203 (by kernel_rfl) rfl) (enters_of func197 (by kernel_rfl) rfl) (enters_of func202 (by kernel_rfl) rfl) c
def Tz:Nat->List Rp
 |0=>Fl Pk
 |5=>R6
 |6=>Fl Pz
 |i=>Fl (P7 i)
structure Cg (w:World) (B:Nat) (ad:Nat->Addr):Prop where
 er:Lk w B ad
 ms:∀i,i=0\/i=5\/i=6->w.cell? ⟨gi i,0,none⟩=some (.iface 307 (.pointer (some (ad i))))
theorem yjj{i:Nat}(hi:i=0\/i=5\/i=6):gi i<22:=by
 rcases hi with rfl|rfl|rfl<;>decide
theorem Cg.bw(h:Cg w B ad)(hb:Below B w w'):Cg w' B ad:=
 ⟨h.er.bw hb,fun i hi=>(hb.cell (p:=⟨gi i,0,none⟩) (by have:=h.er.n25;have:=yjj hi;show gi i<B;omega)).trans (h.ms i hi)⟩
def Ud (w:World) (B g b:Nat) (now:Int) (aa:Option Addr) (ab ao ac:Nat) (T:List ByteArray) (ad:Nat->Addr) (ks:List Ke) (p:List Ke×List Rp) (e:Ending) (w':World):Prop:=
 ∃r er,e= .returned (.tuple #[r,er])/\Below B w w'/\
  ((er= .nilIface/\Fr w' w.heap.size r p.2/\∃n' L',L'.map KV.key=p.1/\Fu w' B g b n' now aa ab ao ac L' L' T)
   \/∃i pb,(i=0\/i=1\/i=5\/i=6\/i=9\/i=10\/i=11\/i=12)/\er= .iface 125 (.pointer (some ⟨pb,0,none⟩))/\B<=pb/\pb<w'.heap.size/\w'.cell? ⟨pb,0,none⟩=some (.iface 307 (.pointer (some (ad i))))/\p=(ks,Tz i))
def Nv (word:ByteArray) (ks:List Ke) (now:Int) (T:List ByteArray):List Ke×List Rp:=match Nn (H9 word) with
 |none=> (ks,Fl Pz)
 |some c=>if c.fits T.length=true then (if c.many=true then Oj c ks T else Np c ks now T) else (ks,Fl Pk)
theorem yay{p:Addr}{v:Value}(h:w.cell? p=some v):p.block<w.heap.size:=by
 rcases Nat.lt_or_ge p.block w.heap.size with h1|h1
 ·exact h1
 ·simp[World.cell?,Array.getElem?_eq_none h1]at h
theorem zzl:(Cm.all.all fun c=>!c.many||decide (c.kind=0))=true:=by kernel_rfl
theorem Ad:(Cm.all.all fun c=>decide (c.kind=0)||!c.fits 0)=true:=by kernel_rfl
theorem Bm(w:World)(v0 v1 v2 v3 v4:Value):∃W,(((((w.alloc (.cells #[.int .i64 0,.int .i64 0,.int .i64 0,.int .i64 0,.nilFunc] 122)).setCell ⟨w.heap.size,0,none⟩ v0).setCell ⟨w.heap.size,1,none⟩ v1).setCell ⟨w.heap.size,2,none⟩ v2).setCell ⟨w.heap.size,3,none⟩ v3).setCell ⟨w.heap.size,4,none⟩ v4=W/\Bl w W/\Fc W w.heap.size 122 #[v0,v1,v2,v3,v4]:=by
 obtain⟨W0,Ga,-,b0,q0⟩:=boxed w #[.int .i64 0,.int .i64 0,.int .i64 0,.int .i64 0,.nilFunc] 122;rw[Ga];have hl:=Qc w.heap.size;exact⟨_,rfl,((((b0.setCell hl _).setCell hl _).setCell hl _).setCell hl _).setCell hl _,U7 q0⟩
theorem yid(word:ByteArray)(B g b n:Nat)(now:Int)(aa:Option Addr)(ab ao ac:Nat)(L:List KV)(T:List ByteArray)(ad:Nat->Addr)(w:World)(h:Fu w B g b n now aa ab ao ac L L T)(hd:Fm (L.map KV.key)=true)(hE:Cg w B ad)(hn:n<=1000)(hs:∀t∈T,t.size<=200)(hw:word.size<=200)(hm:T.length<=16)(hac:T.length<=ac)(hnow:0<=now/\now<=1000000000):
  Calls prog 48 #[.pointer (some ⟨g,0,none⟩),.string word] w (Ud w B g b now aa ab ao ac T ad (L.map KV.key) (Nv word (L.map KV.key) now T)):=by
 have HC:=hid (zpr word T.length ad w (by omega) hm (hE.ms 0 (by omega)) (hE.ms 6 (by omega)) (Qj hE.er.n25 h.le));have c2:=h.call.c2;have Gd:=hid h.le;have Gz:=fun(a:Addr) (w:World)=>run_store prog w a .nilFunc .plain rfl;cases hoc:Nn (H9 word)with
 |none=>
  have hp:Nv word (L.map KV.key) now T=(L.map KV.key,Tz 6):=by unfold Nv;rw[hoc];rfl
  rw[hp];rw[hoc]at HC;generalize L.map KV.key=ks at*;generalize hmm:T.length=m at*;go_enter func48,ntmps48;go_wp2_with fail;refine HC.out.mono ?_;rintro e w1⟨b1,v,rfl,pb,rfl,Gj,Ge⟩;obtain⟨W0,Gc,Gn,b0,q0⟩:=boxed w1 #[.int .i64 0,.int .i64 0,.int .i64 0,.int .i64 0,.nilFunc] 122;have y0:=q0.cell 0;have y1:=q0.cell 1;have y2:=q0.cell 2;have y3:=q0.cell 3;have y4:=q0.cell 4;have z0:=q0.frozen 0;have z1:=q0.frozen 1;have z2:=q0.frozen 2;have z3:=q0.frozen 3;have z4:=q0.frozen 4;simp only[Qm,Qk,Ql]at y0 y1 y2 y3 y4;obtain⟨W,hW,bW,rW⟩:=Bm w1 (.int .i64 0) (.int .i64 0) (.int .i64 0) (.int .i64 0) .nilFunc;rw[Gc]at hW;have HF:Hid (Ud w B g b now aa ab ao ac T ad ks (ks,Tz 6) (.returned (.tuple #[.slice none 0 0,.iface 125 (.pointer (some ⟨pb,0,none⟩))])) W):=by
   have Gh:=yay Ge;have hb:=b1.trans (bW.mono b1.size);exact⟨_,_,rfl,hb.mono Gd.out,.inr ⟨6,pb,by omega,rfl,Qj Gd.out Gj,Qr Gh bW.size,(bW.cell (p:=⟨pb,0,none⟩) Gh).trans Ge,rfl⟩⟩
  go_wp2;go_ret2;exact HF.out
 |some c=>
  cases hft:c.fits T.length with
  |false=>
   have hp:Nv word (L.map KV.key) now T=(L.map KV.key,Tz 0):=by
    unfold Nv;rw[hoc];show(if c.fits T.length=true then _ else _)=_;rw[hft,if_neg (by simp)];rfl
   rw[hp];have HC:Hid (Cp 90 #[.string word,.int .i64 T.length] w fun e w'=>Bl w w'/\∃v,e=.returned (.tuple #[.agg #[.int .i64 0,.int .i64 0,.int .i64 0,.int .i64 0,.nilFunc],v])/\Dl w w' (ad 0) v):=by
    refine HC.out.mono ?_;rintro e w'⟨hb,h1⟩;rw[hoc]at h1;have h1:if c.fits T.length=true then _ else _:=h1;rw[hft,if_neg (by simp)]at h1;exact⟨hb,h1⟩
   generalize L.map KV.key=ks at*;generalize hmm:T.length=m at*;go_enter func48,ntmps48;go_wp2_with fail;refine HC.out.mono ?_;rintro e w1⟨b1,v,rfl,pb,rfl,Gj,Ge⟩;obtain⟨W0,Gc,Gn,b0,q0⟩:=boxed w1 #[.int .i64 0,.int .i64 0,.int .i64 0,.int .i64 0,.nilFunc] 122;have y0:=q0.cell 0;have y1:=q0.cell 1;have y2:=q0.cell 2;have y3:=q0.cell 3;have y4:=q0.cell 4;have z0:=q0.frozen 0;have z1:=q0.frozen 1;have z2:=q0.frozen 2;have z3:=q0.frozen 3;have z4:=q0.frozen 4;simp only[Qm,Qk,Ql]at y0 y1 y2 y3 y4;obtain⟨W,hW,bW,rW⟩:=Bm w1 (.int .i64 0) (.int .i64 0) (.int .i64 0) (.int .i64 0) .nilFunc;rw[Gc]at hW;have HF:Hid (Ud w B g b now aa ab ao ac T ad ks (ks,Tz 0) (.returned (.tuple #[.slice none 0 0,.iface 125 (.pointer (some ⟨pb,0,none⟩))])) W):=by
    have Gh:=yay Ge;have hb:=b1.trans (bW.mono b1.size);exact⟨_,_,rfl,hb.mono Gd.out,.inr ⟨0,pb,by omega,rfl,Qj Gd.out Gj,Qr Gh bW.size,(bW.cell (p:=⟨pb,0,none⟩) Gh).trans Ge,rfl⟩⟩
   go_wp2;go_ret2;exact HF.out
  |true=>
   have HC:Hid (Cp 90 #[.string word,.int .i64 T.length] w fun e w'=>Bl w w'/\e=.returned (.tuple #[.agg #[.int .i64 (Hl c).kd,.int .i64 (Hl c).tk.lo,.int .i64 (Hl c).tk.hi,.int .i64 (Hl c).tk.st,.func (.func (Hl c).fn) #[] #[]],.nilIface])):=by
    refine HC.out.mono ?_;rintro e w'⟨hb,h1⟩;rw[hoc]at h1;have h1:if c.fits T.length=true then _ else _:=h1;rw[hft,if_pos rfl]at h1;exact⟨hb,h1⟩
   rw[yjm c,yka c]at HC;have Gv:=yd2 c;have Gi:c.kind≠0->0<T.length:=fun h0=>by
    rcases Nat.eq_zero_or_pos T.length with e|e
    ·have:=Qw.1 Ad c (Wa c);rw[e]at hft;rw[hft,Qf h0]at this;cases this
    ·exact e
   have Gs:c.many=true->c.kind=0:=fun h0=>by
    have:=Qw.1 zzl c (Wa c);rw[h0]at this;exact Qg this
   have hz:(T.getD 0 empty).size<=maxLen:=by have:=Lh hs 0;unfold maxLen;omega
   have Gk:Nv word (L.map KV.key) now T=if(decide (c.kind≠0)&&((Fq L (T.getD 0 empty)).isSome&&!((Fb L (T.getD 0 empty)).key.val.kind==(c.kind:Int))))=true then(L.map KV.key,R6) else tgt c L now T:=by
    unfold Nv;rw[hoc];show(if c.fits T.length=true then _ else _)=_;rw[hft,if_pos rfl];cases hmn:c.many with
    |false=>rw[if_neg (by simp),yfz c now T hmn]
    |true=>
     rw[if_pos rfl,Gs hmn,Qf (by simp),Q0,if_neg (by simp)];unfold tgt;rw[hmn,if_pos rfl]
   have Gb:Hid (Oq c L (T.getD 0 empty)->∀W,Bl w W->Cp (fnC c) #[.pointer (some ⟨g,0,none⟩)] W fun e w'=>∃r er,e=.returned (.tuple #[r,er])/\Below B w w'/\W.heap.size<=w'.heap.size/\((er=.nilIface/\Fr w' w.heap.size r (tgt c L now T).2/\∃n' L',L'.map KV.key=(tgt c L now T).1/\Fu w' B g b n' now aa ab ao ac L' L' T)\/∃i,(i=1\/i=9\/i=10\/i=11\/i=12)/\er=.iface 307 (.pointer (some (ad i)))/\tgt c L now T=(L.map KV.key,Fl (P7 i)))):=fun hfit W hb=>by
    have Gy:=(hE.bw (hb.mono h.le)).er;refine(ygn B g b n now aa ab ao ac L T ad W (h.bw hb) hd Gy hn hs hm hac hnow c hft hfit).mono ?_;rintro e w'⟨r,er,rfl,Gt,hh⟩;refine⟨r,er,rfl,(hb.mono h.le).trans Gt,Gt.size,?_⟩;rcases hh with⟨h1,h2,h3⟩|h1
    ·exact .inl ⟨h1,h2.le hb.size,h3⟩
    ·exact .inr h1
   have Gl:Hid (c.kind≠0->∀W,Bl w W->Cp 91 #[.pointer (some ⟨g,0,none⟩),.int .i64 (c.kind:Int)] W fun e w'=>e=.returned (.bool ((Fq L (T.getD 0 empty)).isSome&&!((Fb L (T.getD 0 empty)).key.val.kind==(c.kind:Int))))/\Bl W w'):=fun h0 W hb=>ztu g b n now c.kind aa ab ao ac L T W (h.bw hb).call (Gi h0) hz;have Gr:Hid (∀W,Bl w W->W.cell? ⟨0,0,none⟩=some (.iface 307 (.pointer (some (ad 5))))/\5<W.heap.size):=fun W hb=>⟨(hE.bw (hb.mono h.le)).ms 5 (by omega),by have:=hE.er.n25;have:=h.le;have:=hb.size;omega⟩;have Gq:Hid (c.kind≠0->((Fq L (T.getD 0 empty)).isSome&&!((Fb L (T.getD 0 empty)).key.val.kind==(c.kind:Int)))=false->Oq c L (T.getD 0 empty)):=fun _ hx _ hf=>by
    rw[hf,Qz]at hx;simpa using hx
   have Gp:Hid (c.kind=0->Oq c L (T.getD 0 empty)):=fun h0 h1=>absurd h0 h1;rw[Gk];generalize((Fq L (T.getD 0 empty)).isSome&&!((Fb L (T.getD 0 empty)).key.val.kind==(c.kind:Int)))=ot,Oq c L (T.getD 0 empty)=FT,tgt c L now T=tg,L.map KV.key=ks at*;generalize hmm:T.length=m at*;generalize((Hl c).tk.lo:Int)=lo,((Hl c).tk.hi:Int)=hi,((Hl c).tk.st:Int)=st,fnC c=f at*;have Ka:=fun(a:Addr) (w:World)=>run_store prog w a (.func (.func f) #[] #[]) .plain rfl;generalize c.kind=kn at*;have Gx:∀(a:Addr) (W:World),W.cell? a=some (.func (.func f) #[] #[])->True:=fun _ _ _=>trivial;by_cases hk0:kn=0
   ·subst hk0;rw[Qf (by simp),Q0,if_neg (by simp)];have Gf:Hid FT:=Gp.out rfl;go_enter func48,ntmps48;go_wp2_with fail;refine HC.out.mono ?_;rintro e w1⟨b1,rfl⟩;obtain⟨W0,Gc,Gn,b0,q0⟩:=boxed w1 #[.int .i64 0,.int .i64 0,.int .i64 0,.int .i64 0,.nilFunc] 122;have y0:=q0.cell 0;have y1:=q0.cell 1;have y2:=q0.cell 2;have y3:=q0.cell 3;have y4:=q0.cell 4;have z0:=q0.frozen 0;have z1:=q0.frozen 1;have z2:=q0.frozen 2;have z3:=q0.frozen 3;have z4:=q0.frozen 4;simp only[Qm,Qk,Ql]at y0 y1 y2 y3 y4;obtain⟨W,hW,bW,rW⟩:=Bm w1 (.int .i64 0) (.int .i64 lo) (.int .i64 hi) (.int .i64 st) (.func (.func f) #[] #[]);rw[Gc]at hW;have Ga:=b1.trans (bW.mono b1.size);have HW:Hid (Bl w W/\Fc W w1.heap.size 122 #[.int .i64 0,.int .i64 lo,.int .i64 hi,.int .i64 st,.func (.func f) #[] #[]]):=⟨Ga,rW⟩;have u0:=rW.cell 0;have u1:=rW.cell 1;have u2:=rW.cell 2;have u3:=rW.cell 3;have u4:=rW.cell 4;simp only[Qm,Qk,Ql]at u0 u1 u2 u3 u4;have HA:Hid (Cp f #[.pointer (some ⟨g,0,none⟩)] W _):=Gb.out Gf.out W HW.out.1;go_wp2_with fail;refine HA.out.mono ?_;rintro e w6⟨r,er,rfl,b6,s6,hh⟩;rcases hh with⟨rfl,hr,hx⟩|⟨i,hi9,rfl,hp⟩
    ·have HF:Hid (Ud w B g b now aa ab ao ac T ad ks tg (.returned (.tuple #[r,.nilIface])) w6):=⟨_,_,rfl,b6,.inl ⟨rfl,hr,hx⟩⟩;go_wp2;go_ret2;exact HF.out
    ·have HF:Hid (Ud w B g b now aa ab ao ac T ad ks tg (.returned (.tuple #[.slice none 0 0,.iface 125 (.pointer (some ⟨w6.heap.size,0,none⟩))])) (w6.alloc (.cells #[.iface 307 (.pointer (some (ad i)))] 127))):=by
      have Gm:B<=w6.heap.size:=Qj Gd.out b6.size;refine⟨_,_,rfl,b6.alloc Gm _,.inr ⟨i,w6.heap.size,by omega,rfl,Gm,by simp,(Fc.new w6 127 #[.iface 307 (.pointer (some (ad i)))]).cell 0,?_⟩⟩;rw[hp];rcases hi9 with rfl|rfl|rfl|rfl|rfl<;>rfl
     go_wp2;go_ret2;exact HF.out
   ·have Gw:¬(kn:Int)=0:=by omega
    have Kb:((kn:Int)==0)=false:=by simpa using Gw
    rw[Qe (by simpa using hk0),Qz];cases ot with
    |true=>
     rw[if_pos rfl];go_enter func48,ntmps48;go_wp2_with fail;refine HC.out.mono ?_;rintro e w1⟨b1,rfl⟩;obtain⟨W0,Gc,Gn,b0,q0⟩:=boxed w1 #[.int .i64 0,.int .i64 0,.int .i64 0,.int .i64 0,.nilFunc] 122;have y0:=q0.cell 0;have y1:=q0.cell 1;have y2:=q0.cell 2;have y3:=q0.cell 3;have y4:=q0.cell 4;have z0:=q0.frozen 0;have z1:=q0.frozen 1;have z2:=q0.frozen 2;have z3:=q0.frozen 3;have z4:=q0.frozen 4;simp only[Qm,Qk,Ql]at y0 y1 y2 y3 y4;obtain⟨W,hW,bW,rW⟩:=Bm w1 (.int .i64 kn) (.int .i64 lo) (.int .i64 hi) (.int .i64 st) (.func (.func f) #[] #[]);rw[Gc]at hW;have Ga:=b1.trans (bW.mono b1.size);have HW:Hid (Bl w W/\Fc W w1.heap.size 122 #[.int .i64 kn,.int .i64 lo,.int .i64 hi,.int .i64 st,.func (.func f) #[] #[]]):=⟨Ga,rW⟩;have u0:=rW.cell 0;have u1:=rW.cell 1;have u2:=rW.cell 2;have u3:=rW.cell 3;have u4:=rW.cell 4;simp only[Qm,Qk,Ql]at u0 u1 u2 u3 u4;have HO:=hid (Gl.out hk0 W HW.out.1);go_wp2_with fail;refine HO.out.mono ?_;rintro e w5⟨rfl,b5⟩;have Gg:Bl w w5:=HW.out.1.trans (b5.mono HW.out.1.size);obtain⟨k5,l5⟩:=Gr.out w5 Gg;have HF:Hid (Ud w B g b now aa ab ao ac T ad ks (ks,R6) (.returned (.tuple #[.slice none 0 0,.iface 125 (.pointer (some ⟨w5.heap.size,0,none⟩))])) (w5.alloc (.cells #[.iface 307 (.pointer (some (ad 5)))] 127)).drew):=by
      have Gu:B<=w5.heap.size:=Qj Gd.out Gg.size;have hc:=(Fc.new w5 127 #[.iface 307 (.pointer (some (ad 5)))]).cell 0;exact⟨_,_,rfl,((Gg.mono Gd.out).alloc Gu _).drew,.inr ⟨5,w5.heap.size,by omega,rfl,Gu,by simp[World.drew],hc,rfl⟩⟩
     go_upto_region 5 with fail;go_region;go_wp2;go_ret2;exact HF.out
    |false=>
     rw[if_neg (by simp)];have Gf:Hid FT:=Gq.out hk0 rfl;go_enter func48,ntmps48;go_wp2_with fail;refine HC.out.mono ?_;rintro e w1⟨b1,rfl⟩;obtain⟨W0,Gc,Gn,b0,q0⟩:=boxed w1 #[.int .i64 0,.int .i64 0,.int .i64 0,.int .i64 0,.nilFunc] 122;have y0:=q0.cell 0;have y1:=q0.cell 1;have y2:=q0.cell 2;have y3:=q0.cell 3;have y4:=q0.cell 4;have z0:=q0.frozen 0;have z1:=q0.frozen 1;have z2:=q0.frozen 2;have z3:=q0.frozen 3;have z4:=q0.frozen 4;simp only[Qm,Qk,Ql]at y0 y1 y2 y3 y4;obtain⟨W,hW,bW,rW⟩:=Bm w1 (.int .i64 kn) (.int .i64 lo) (.int .i64 hi) (.int .i64 st) (.func (.func f) #[] #[]);rw[Gc]at hW;have Ga:=b1.trans (bW.mono b1.size);have HW:Hid (Bl w W/\Fc W w1.heap.size 122 #[.int .i64 kn,.int .i64 lo,.int .i64 hi,.int .i64 st,.func (.func f) #[] #[]]):=⟨Ga,rW⟩;have u0:=rW.cell 0;have u1:=rW.cell 1;have u2:=rW.cell 2;have u3:=rW.cell 3;have u4:=rW.cell 4;simp only[Qm,Qk,Ql]at u0 u1 u2 u3 u4;have HO:=hid (Gl.out hk0 W HW.out.1);go_wp2_with fail;refine HO.out.mono ?_;rintro e w5⟨rfl,b5⟩;have Gg:Bl w w5:=HW.out.1.trans (b5.mono HW.out.1.size);have r5:=HW.out.2.bw b5 HW.out.2.lt;have x0:=r5.cell 0;have x4:=r5.cell 4;simp only[Qm,Qk,Ql]at x0 x4;have HA:Hid (Cp f #[.pointer (some ⟨g,0,none⟩)] w5 _):=Gb.out Gf.out w5 Gg;go_wp2_with fail;refine HA.out.mono ?_;rintro e w6⟨r,er,rfl,b6,s6,hh⟩;rcases hh with⟨rfl,hr,hx⟩|⟨i,hi9,rfl,hp⟩
     ·have HF:Hid (Ud w B g b now aa ab ao ac T ad ks tg (.returned (.tuple #[r,.nilIface])) w6):=⟨_,_,rfl,b6,.inl ⟨rfl,hr,hx⟩⟩;go_wp2;go_ret2;exact HF.out
     ·have HF:Hid (Ud w B g b now aa ab ao ac T ad ks tg (.returned (.tuple #[.slice none 0 0,.iface 125 (.pointer (some ⟨w6.heap.size,0,none⟩))])) (w6.alloc (.cells #[.iface 307 (.pointer (some (ad i)))] 127))):=by
       have Gm:B<=w6.heap.size:=Qj Gd.out b6.size;refine⟨_,_,rfl,b6.alloc Gm _,.inr ⟨i,w6.heap.size,by omega,rfl,Gm,by simp,(Fc.new w6 127 #[.iface 307 (.pointer (some (ad i)))]).cell 0,?_⟩⟩;rw[hp];rcases hi9 with rfl|rfl|rfl|rfl|rfl<;>rfl
      go_wp2;go_ret2;exact HF.out
def Bu (w:World) (p:List Ke×List Rp) (e:Ending) (w':World):Prop:=∃v r L',e= .returned (.tuple #[v,r])/\L'.map KV.key=p.1/\Nu w' w.heap.size v L'/\Mu w' w.heap.size L'/\Fr w' w.heap.size r p.2/\Bl w w'
theorem yh9(T:List ByteArray):(decide (1<=T.length)&&Fd.Tr T)=(decide (1<=T.length)&&Oe T):=by
 congr 1;unfold Fd.Tr Oe;rw[Bool.and_comm];congr 1;rw[Bool.eq_iff_iff,Qw,Qw];constructor
 ·intro h i hi;have hi:=List.mem_range.1 hi;rw[Qa,Qd hi];exact h _ (Qv hi)
 ·intro h t ht;obtain⟨i,hi,rfl⟩:=List.getElem_of_mem ht;have:=h i (List.mem_range.2 hi);rw[Qa,Qd hi]at this;exact this
theorem ycy(a:Option Addr)(b off n c:Nat)(T:List ByteArray)(w:World)(h:Fs w a b off n T)(hn:n<=1048576):Calls prog 46 #[.slice a n c] w fun e w'=>e=.returned (.bool (!(decide (1<=T.length)&&Oe T)))/\w'=w:=by
 rw[<-yh9];have hl:=h.len;have h':Fd.Y1 w a b off n T:=⟨h.len,h.addr,h.low,h.cell,h.fit⟩;by_cases h0:n=0
 ·have HR:Hid ((decide (1<=T.length)&&Fd.Tr T)=false):=by unfold Hid;rw[Qf (by omega),Q0]
  subst h0;go_enter func46,ntmps46;go_wp2;go_ret;exact⟨by rw[HR.out];rfl,rfl⟩
 ·have HR:Hid ((decide (1<=T.length)&&Fd.Tr T)=Fd.Tr T):=by unfold Hid;rw[Qe (by omega),Qz]
  have hd:((n:Int)==0)=false:=by simp;omega
  have Ga:¬(n:Int)=0:=by omega
  have HA:=Fd.yik a b off n c T w h' (by omega);go_enter func46,ntmps46;go_wp2_with fail;refine HA.mono ?_;rintro e w1⟨rfl,rfl⟩;go_wp2;go_ret;exact⟨F0 (by rw[HR.out]),rfl⟩
theorem Id(now:Int)(ks:List Ke):ks.filter (Ri.Oy now)=Hb ks now:=by
 unfold Hb;congr 1;funext k;unfold Ri.Oy Ri.Me Hs;by_cases h0:k.due=0
 ·simp[h0]
 ·by_cases h1:k.due<=now
  ·simp[h0,h1]
  ·have:now<k.due:=by omega
   simp[h0,h1,this]
theorem zvh(ks:List Ke)(now:Int)(T:List ByteArray):Lc ks now T=Nv (T.getD 0 empty) ks now T.tail:=by
 unfold Lc Nv;rw[show Fa T 0=T.getD 0 empty from rfl];cases Nn (H9 (T.getD 0 empty))with
 |none=>rfl
 |some c=>rw[List.length_tail]
theorem ycb{A:Nat}{k n:Int}{s:ByteArray}(hr:Fc w A 40 #[.int .i64 k,.int .i64 n,.string s,.slice none 0 0])(hA:B<=A):Fr w B (.slice (some ⟨A,0,none⟩) 1 1) [⟨k,n,s,[]⟩]:=
 ⟨[⟨⟨k,n,s,[]⟩,.slice none 0 0⟩],rfl,⟨rfl,.inr ⟨A,1,_,rfl,hA,hr,Qc _,by unfold maxLen;omega,rfl,rfl⟩⟩,fun x hx=>by
  rcases List.mem_singleton.1 hx with rfl;exact World.ownsRow_nil _ _ _ _⟩
def T0:ByteArray:=⟨#[87,82,79,78,71,84,89,80,69]⟩
def U4:Nat->ByteArray
 |0=>Pk
 |5=>T0
 |6=>Pz
 |i=>P7 i
structure Px (w:World) (ad:Nat->Addr):Prop where
 es:Cg w w.heap.size ad
 ev:∀i,i=0\/i=5\/i=6->Ny w i (ad i) (U4 i)
 ne:∀i,i=0\/i=1\/i=6\/i=9\/i=10\/i=11\/i=12->ad i≠ad 5
 g7:w.cell? ⟨3,0,none⟩=some (.iface 215 (.agg #[.pointer (some ⟨22,75,none⟩)]))
theorem Px.at(h:Px w ad)(hb:Bl w W)(i:Nat)(hi:i=0\/i=1\/i=5\/i=6\/i=9\/i=10\/i=11\/i=12):Ny W i (ad i) (U4 i):=by
 have Ga:=h.es.er.n25;have:Ny w i (ad i) (U4 i):=by
  rcases hi with rfl|rfl|rfl|rfl|rfl|rfl|rfl|rfl
  ·exact h.ev 0 (by omega)
  ·exact(h.es.er.er 1 (by omega)).1
  ·exact h.ev 5 (by omega)
  ·exact h.ev 6 (by omega)
  ·exact(h.es.er.er 9 (by omega)).1
  ·exact(h.es.er.er 10 (by omega)).1
  ·exact(h.es.er.er 11 (by omega)).1
  ·exact(h.es.er.er 12 (by omega)).1
 exact this.bw hb Ga this.low
theorem ybn(i:Nat)(hi:i=0\/i=1\/i=5\/i=6\/i=9\/i=10\/i=11\/i=12):(U4 i).size<=200:=by
 rcases hi with rfl|rfl|rfl|rfl|rfl|rfl|rfl|rfl<;>decide
theorem zn6(h:Px w ad)(hb:Bl w W)(i pb:Nat)(hi:i=0\/i=1\/i=5\/i=6\/i=9\/i=10\/i=11\/i=12)(hpb:pb<W.heap.size)(hc:W.cell? ⟨pb,0,none⟩=some (.iface 307 (.pointer (some (ad i))))):
  Calls prog 49 #[.iface 125 (.pointer (some ⟨pb,0,none⟩))] W (F9 W (Tz i)):=by
 have Gd:=h.es.er.n25;have hs:=hb.size;have e5:=h.at hb 5 (by omega);have ei:=h.at hb i hi;have Gb:=ybn i hi;by_cases h5:i=5
 ·subst h5;refine(Er.zmg pb (ad 5) (U4 5) W hpb ei.low hc ei.t Gb e5.v ((hb.cell (p:=⟨3,0,none⟩) (by show 3<_;omega)).trans h.g7) (by omega)).mono ?_;rintro e w'⟨A,rfl,hr,hA,Ga⟩;exact⟨_,rfl,ycb hr hA,Ga⟩
 ·have Gc:i=0\/i=1\/i=6\/i=9\/i=10\/i=11\/i=12:=by omega
  obtain⟨c1,t1,r1⟩:=ei.row;obtain⟨c2,t2,r2⟩:=e5.row;refine(Er.zki pb (ad i) (ad 5) (U4 i) c1 c2 t1 t2 W hpb hc ei.t Gb e5.v (by omega) (h.ne i Gc) r1 r2).mono ?_;rintro e w'⟨A,rfl,hr,hA,Ga⟩;have:Tz i=Fl (U4 i):=by rcases Gc with rfl|rfl|rfl|rfl|rfl|rfl|rfl<;>rfl
  rw[this];exact⟨_,rfl,ycb hr hA,Ga⟩
theorem yab(hb:Bl w w'):Bu w ([],[]) (.returned (.tuple #[.slice none 0 0,.slice none 0 0])) w':=
 ⟨_,_,[],rfl,rfl,Au _ _,⟨fun x hx=>(by cases hx),List.Pairwise.nil⟩,⟨[],rfl,World.ownsRow_nil _ _ _ _,fun x hx=>(by cases hx)⟩,hb⟩
theorem Mu.le{B':Nat}{L:List KV}(h:Mu w B L)(hb:B'<=B):Mu w B' L:=
 ⟨fun x hx=>⟨L5 (h.own x hx).ia hb,L5 (h.own x hx).pj hb,L5 (h.own x hx).rq hb⟩,h.ap⟩
theorem E7{ks:List Ke}(h:Fm ks=true)(now:Int):Fm (Hb ks now)=true:=by
 rw[Ns]at h ⊢;exact⟨Qj (Qt _ _) h.1,h.2.1.sublist List.filter_sublist,fun k hk=>h.2.2 k (List.mem_filter.1 hk).1⟩
theorem ygl{T:List ByteArray}(h:Fs w aa ab ao m T)(h1:1<=m)(hw:1<m->aw=some ⟨ab,ao+1,none⟩):Fs w aw ab (ao+1) T.tail.length T.tail:=by
 have hs:=Bi h h1;have hl:T.tail.length=m-1:=by rw[List.length_tail,h.len]
 rw[hl];exact⟨hs.len,fun h0=>hw (by omega),hs.low,hs.cell,hs.fit⟩
theorem zws{w2:World}{b n:Nat}{now:Int}{T:List ByteArray}{L':List KV}{cw:Nat}(hW:Bl w W)(hr:Ri.Ts W b n L' w2)(hu:UpK (L'.map KV.key))(ha:Fs w aa ab ao m T)(h1:1<=m)(hw:1<m->aw=some ⟨ab,ao+1,none⟩)(h25:22<=w.heap.size):
  Fu (w2.alloc (.cells #[.map (some b),.int .i64 now,.slice aw T.tail.length cw] 73)) w.heap.size w2.heap.size b n now aw ab (ao+1) cw L' L' T.tail:=by
 have Ga:=hW.trans (hr.bel.mono hW.size);have Gb:Bl w2 (w2.alloc (.cells #[.map (some b),.int .i64 now,.slice aw T.tail.length cw] 73)):=(Qb _ _).alloc (Qc _) _;have hb:=Ga.trans (Gb.mono Ga.size);obtain⟨β,hβ⟩:=hr.vals;refine⟨⟨Fc.new _ _ _,hr.own.alloc _,hu,Lb (ygl ha h1 hw) hb⟩,(((Mu.rising hβ).bw Gb).le hW.size),Ga.size,Qj hW.size hr.hb,fun h0=>ha.low (by omega),h25,hb.size⟩
theorem zs4(a:Option Addr)(A n c:Nat)(L:List KV)(now:Int)(aa:Option Addr)(ab ao m ac:Nat)(T:List ByteArray)(ad:Nat->Addr)(w:World)(h:Oc w a A n L)(hs:Small L)(hn:n<=1048577)(ha:Fs w aa ab ao m T)(hm:m<=1048576)(hac:m<=ac)(hE:Px w ad):
    Calls prog 14 #[.slice a n c,.int .i64 now,.slice aa m ac] w (Bu w (Nj (L.map KV.key) now T)):=by
  have hR:=hE.es.er.rd;have Ko:=hE.es.er.n25;have HD:=hid (Ip a A n c L w h hs hn hR);have HI:=hid fun W=>znn now W;have HW:=hid fun W (hb:Bl w W)=>ycy aa ab ao m ac T W (Lb ha hb) (by omega);have Gq:=hid fun W (hb:Bl w W)=>Ri.Ie a A n c L now W (h.bw hb) hs hn (hR.bw (hb.mono hR.six));have Ka:=hid fun W (hb:Bl w W)=>Ri.E9 a A n c L now W (h.bw hb) hs hn (hR.bw (hb.mono hR.six));have HE:Hid (Nj (L.map KV.key) now T=if(Fm (L.map KV.key) && (Lp now && (decide (1<=T.length) && Oe T)))=true then Nv (T.getD 0 empty) (Hb (L.map KV.key) now) now T.tail else([],[])):=by
    unfold Hid Nj Tt;rw[zvh]
  have HZ:=hid fun w' (hb:Bl w w')=>yab hb;have Km:=ha.len;cases q1:Fm (L.map KV.key)with
  | false=>
    rw[q1,Q0,if_neg (by simp)]at HE;rw[HE.out];rw[q1]at HD;clear h hs ha hE hR HE q1;go_enter func14,ntmps14;go_wp2_with fail;refine HD.out.mono ?_;rintro e w1⟨rfl,b1⟩;have HF:Hid _:=HZ.out w1 b1;clear b1 HZ HD;go_wp2;go_ret2;exact HF.out
  | true=>
    rw[q1,Qz]at HE;have Gi:Hid (Cp 20 #[.slice a n c] w fun e w'=>e=.returned (.bool true)/\Bl w w'):=by rw[<- q1];exact HD.out
    clear HD;cases q2:Lp now with
    | false=>
      rw[q2,Q0,if_neg (by simp)]at HE;rw[HE.out];rw[q2]at HI;clear h hs ha hE hR HE q1 q2;go_enter func14,ntmps14;go_wp2_with fail;refine Gi.out.mono ?_;rintro e w1⟨rfl,b1⟩;have HF:Hid _:=HZ.out w1 b1;clear b1 HZ Gi;go_wp2_with fail;refine(HI.out _).mono ?_;rintro e w2⟨rfl,e2⟩;subst e2;go_wp2;go_ret2;exact HF.out
    | true=>
      rw[q2,Qz]at HE;rw[q2]at HI;cases q3:(decide (1<=T.length) && Oe T)with
      | false=>
        rw[q3,if_neg (by simp)]at HE;rw[HE.out];rw[q3]at HW;have Gj:=hid HW;clear HW;clear h hs ha hE hR HE q1 q2 q3;go_enter func14,ntmps14;go_wp2_with fail;refine Gi.out.mono ?_;rintro e w1⟨rfl,b1⟩;have HF:Hid _:=HZ.out w1 b1;have Gl:=hid (Gj.out w1 b1);clear b1 HZ Gi Gj;go_wp2_with fail;refine(HI.out _).mono ?_;rintro e w2⟨rfl,e2⟩;subst e2;go_wp2_with fail;refine Gl.out.mono ?_;rintro e w3⟨rfl,e3⟩;subst e3;go_wp2;go_ret2;exact HF.out
      | true=>
        rw[q3,if_pos rfl]at HE;rw[q3]at HW;have Gj:=hid HW;clear HW;rw[Qh,decide_eq_true_iff]at q3;obtain⟨t1,t2⟩:=q3;obtain⟨u1,u2⟩:=E6 t2;have Ki:1<=m:=by omega
        unfold Lp at q2;rw[Qh,decide_eq_true_iff,decide_eq_true_iff]at q2;have Kd:=((Ns _).1 q1).1;have Gv:∀t∈T,t.size<=200:=fun t ht=>by
          obtain⟨i,hi,rfl⟩:=List.getElem_of_mem ht;have:=u2 i hi;rw[show Fa T i=T.getD i empty from rfl,Qa,Qd hi]at this;exact this
        have Gx:UpK (Hb (L.map KV.key) now):=((Ns _).1 q1).2.1.sublist List.filter_sublist;have Kb:=Lh Gv 0;rw[q1]at Gq;have Gs:Hid (∀W w2 b L' aw cw,Bl w W->Ri.Ts W b (L.map KV.key).length L' w2->L'.map KV.key=(L.map KV.key).filter (Ri.Oy now)->(1 < m->aw=some ⟨ab,ao+1,none⟩)->m - 1<=cw->Cp 48 #[.pointer (some ⟨w2.heap.size,0,none⟩),.string (T.getD 0 empty)] (w2.alloc (.cells #[.map (some b),.int .i64 now,.slice aw (m - 1) cw] 73)) fun e w4=>∃r er,e=.returned (.tuple #[r,er])/\Bl w w4/\((er=.nilIface/\Fr w4 w.heap.size r (Nv (T.getD 0 empty) (Hb (L.map KV.key) now) now T.tail).2/\w4.cell? ⟨w2.heap.size,0,none⟩=some (.map (some b))/\∃n' L2,L2.map KV.key=(Nv (T.getD 0 empty) (Hb (L.map KV.key) now) now T.tail).1/\w4.ownsMap prog 9 RK b n' (F4 L2)/\UpK (L2.map KV.key)/\Mu w4 w.heap.size L2)\/∃i pb,(i=0\/i=1\/i=5\/i=6\/i=9\/i=10\/i=11\/i=12)/\er=.iface 125 (.pointer (some ⟨pb,0,none⟩))/\pb < w4.heap.size/\w4.cell? ⟨pb,0,none⟩=some (.iface 307 (.pointer (some (ad i))))/\Nv (T.getD 0 empty) (Hb (L.map KV.key) now) now T.tail=(Hb (L.map KV.key) now,Tz i))):=fun W w2 b L' aw cw hbW hr hk haw hcw=>by
          rw[Id]at hk;have Gy:=zws (now:=now) (cw:=cw) hbW hr (by rw[hk];exact Gx) ha Ki haw Ko;have Kf:T.tail.length=m - 1:=by rw[List.length_tail,ha.len]
          rw[Kf]at Gy;have Gz:=hbW.trans (hr.bel.mono hbW.size);have Gt:Bl w (w2.alloc (.cells #[.map (some b),.int .i64 now,.slice aw (m - 1) cw] 73)):=Gz.alloc Gz.size _;refine(yid (T.getD 0 empty) w.heap.size w2.heap.size b (L.map KV.key).length now aw ab (ao+1) cw L' T.tail ad _ Gy (by rw[hk];exact E7 q1 now) (hE.es.bw Gt) (by omega) (fun t ht=>Gv t (List.mem_of_mem_tail ht)) Kb (by omega) (by omega) q2).mono ?_;rintro e w4⟨r,er,rfl,Kh,hh⟩;rw[hk]at hh;refine⟨r,er,rfl,Gt.trans Kh,?_⟩;rcases hh with⟨h1,h2,n',L2,h3,h4⟩ | ⟨i,pb,h1,h2, -,h3,h4,h5⟩
          · exact .inl ⟨h1,h2.le Gt.size,h4.call.c0,n',L2,h3,h4.call.ring,h4.call.up,h4.vals⟩
          · exact .inr ⟨i,pb,h1,h2,h3,h4,h5⟩
        have Kc:Hid (Er.Lw (Nv (T.getD 0 empty) (Hb (L.map KV.key) now) now T.tail).1):=by
          unfold Hid;rw[<- zvh];exact Er.zy7 (Er.zn0 ⟨Kd,((Ns _).1 q1).2.2⟩) q2
        have Gn:Hid (∀w4 b n' L2 r,Bl w w4->Fr w4 w.heap.size r (Nv (T.getD 0 empty) (Hb (L.map KV.key) now) now T.tail).2->L2.map KV.key=(Nv (T.getD 0 empty) (Hb (L.map KV.key) now) now T.tail).1->w4.ownsMap prog 9 RK b n' (F4 L2)->UpK (L2.map KV.key)->Mu w4 w.heap.size L2->Cp 50 #[.map (some b)] w4 fun e w5=>∃v,e=.returned v/\Bu w (Nv (T.getD 0 empty) (Hb (L.map KV.key) now) now T.tail) (.returned (.tuple #[v,r])) w5):=fun w4 b n' L2 r hb hr hk ho hu hv=>by
          have Gu:=Kc.out;rw[<- hk]at Gu;have Kq:L2.length<=20:=by have:=Gu.1;rwa[Qp]at this
          refine(Ri.U9 b n' L2 w4 ho hu (by omega) (fun x hx=>?_)).mono ?_
          · have:=Gu.2 x.key (List.mem_map_of_mem hx);unfold Hh at this;rw[Qh,decide_eq_true_iff]at this;omega
          · rintro e w5⟨v,rfl,Kl,Gm⟩;exact⟨v,rfl,v,r,L2,rfl,hk,L5 Kl hb.size,hv.bw Gm,hr.bw Gm,hb.trans (Gm.mono hb.size)⟩
        have Gp:Hid (∀w4 i pb,(i=0\/i=1\/i=5\/i=6\/i=9\/i=10\/i=11\/i=12)->Bl w w4->pb < w4.heap.size->w4.cell? ⟨pb,0,none⟩=some (.iface 307 (.pointer (some (ad i))))->Nv (T.getD 0 empty) (Hb (L.map KV.key) now) now T.tail=(Hb (L.map KV.key) now,Tz i)->Cp 19 #[.slice a n c,.int .i64 now] w4 fun e w5=>∃v,e=.returned v/\Cp 49 #[.iface 125 (.pointer (some ⟨pb,0,none⟩))] w5 fun e2 w6=>∃r,e2=.returned r/\Bu w (Nv (T.getD 0 empty) (Hb (L.map KV.key) now) now T.tail) (.returned (.tuple #[v,r])) w6):=fun w4 i pb hi hb hpb hc hp=>by
          refine(Ka.out w4 hb).mono ?_;rintro e w5⟨v,L2,rfl,ho,hk,Gm⟩;refine⟨v,rfl,?_⟩;have Gh:=hb.trans (Gm.mono hb.size);refine(zn6 hE Gh i pb hi (Qr hpb Gm.size) ((Gm.cell (p:=⟨pb,0,none⟩) hpb).trans hc)).mono ?_;rintro e2 w6⟨r,rfl,hr,Gw⟩;refine⟨r,rfl,v,r,L2,rfl,?_,?_,?_,?_,Gh.trans (Gw.mono Gh.size)⟩
          · rw[hp,hk];unfold Ri.Cx;rw[q1,if_pos rfl,Id]
          · exact L5 (Fw ho.row Gw) hb.size
          · obtain⟨β,hβ⟩:=ho.vals;exact((Mu.rising hβ).bw Gw).le hb.size
          · rw[hp];exact hr.le Gh.size
        rw[HE.out];have Gr:Hid (∀W,Bl w W->W.cell? ⟨ab,ao,none⟩=some (.string (T.getD 0 empty))):=fun W hb=>by
          have:=(Lb ha hb).cell 0 (by omega);rwa[Qy]at this
        obtain rfl:=ha.addr (by omega);clear h hs ha hE hR HE q1 q2 t1 t2 u1 u2 Gv Gx Kb Kd Kc Ka HZ Km;generalize Nv (T.getD 0 empty) (Hb (L.map KV.key) now) now T.tail=pp at*;generalize Hb (L.map KV.key) now=al at*;generalize L.map KV.key=ks,T.getD 0 empty=word at*;have Kp:(1:Int)<=(m:Int):=by omega
        have Kr:(m:Int)<=(ac:Int):=by omega
        have Ku:(0:Int) < (m:Int):=by omega
        have Kt:0 < m:=by omega
        by_cases hac1:ac=1
        · obtain rfl:m=1:=by omega
          subst hac1;go_enter func14,ntmps14;go_wp2_with fail;refine Gi.out.mono ?_;rintro e w1⟨rfl,b1⟩;have Gb:=hid b1;have Gl:=hid (Gj.out w1 b1);clear b1 Gi Gj;go_wp2_with fail;refine(HI.out _).mono ?_;rintro e w2⟨rfl,e2⟩;subst e2;go_wp2_with fail;refine Gl.out.mono ?_;rintro e w3⟨rfl,e3⟩;subst e3;clear Gl HI;have Gd:Hid (Cp 47 #[.slice a n c,.int .i64 now] w3.drew fun e w4=>∃bm L',e=.returned (.map (some bm))/\L'.map KV.key=ks.filter (Ri.Oy now)/\Ri.Ts w3.drew bm ks.length L' w4):=by
            refine(Gq.out w3.drew ⟨Gb.out.os,Gb.out.tape,Gb.out.output,Gb.out.size,Gb.out.block⟩).mono ?_;rintro e w4 (⟨ho, -, -⟩|⟨-,bm,L',rfl,hk,Ga⟩)
            · cases ho
            · exact⟨bm,L',rfl,hk,Ga⟩
          have Gg:Hid (Bl w w3.drew):=⟨Gb.out.os,Gb.out.tape,Gb.out.output,Gb.out.size,Gb.out.block⟩;clear Gq;go_upto_region 3 with fail
          go_region_with (go_at_call 47
                          refine Gd.out.mono ?_;rintro e w4⟨bm,L',rfl,hk,Ga⟩;have Ge:Hid (L'.map KV.key=ks.filter (Ri.Oy now)/\Ri.Ts w3.drew bm ks.length L' w4):=⟨hk,Ga⟩;clear hk Ga)
          obtain⟨W5,Gf⟩:∃W5,w4.alloc (.cells #[.map (some bm),.int .i64 now,.slice (some ⟨ab,ao,none⟩) 0 0] 73)=W5:=⟨_,rfl⟩;have b4:=Gg.out.trans (Ge.out.2.bel.mono Gg.out.size);have b5:Bl w W5:=by rw[<- Gf];exact b4.alloc b4.size _
          have Gk:=Gs.out w3.drew w4 bm L' (some ⟨ab,ao,none⟩) 0 Gg.out Ge.out.2 Ge.out.1 (fun h=>absurd h (by omega)) (by omega);rw[Gf]at Gk;have Gc:=hid Gk;have c5:=Gr.out W5 b5;rw[Gf];clear Gf b4 b5 Gk Gs Gd Gg Ge Gr;go_wp2_with fail;refine Gc.out.mono ?_;rintro e w6⟨r,er,rfl,b6,hh⟩;rcases hh with⟨rfl,hr,c6,n',L2,hk2,ho2,hu2,hv2⟩ | ⟨i,pb,hi,rfl,hpb,hc6,hp⟩
          · have HL:=hid (Gn.out w6 bm n' L2 r b6 hr hk2 ho2 hu2 hv2);clear hr hk2 ho2 hu2 hv2 b6 Gn Gp Gc;go_wp2_with fail;refine HL.out.mono ?_;rintro e w7⟨v,rfl,hF⟩;have HF:Hid _:=hF;clear hF HL;go_wp2;go_ret2;exact HF.out
          · have HL:=hid (Gp.out w6 i pb hi b6 hpb hc6 hp);clear hi hpb hc6 hp b6 Gn Gp Gc;go_wp2_with fail;refine HL.out.mono ?_;rintro e w7⟨v,rfl,hC⟩;have HC:=hid hC;clear hC HL;go_wp2_with fail;refine HC.out.mono ?_;rintro e w8⟨r2,rfl,hF⟩;have HF:Hid _:=hF;clear hF HC;go_wp2;go_ret2;exact HF.out
        · have Kn:(1:Int) < (ac:Int):=by omega
          have Kj:1 < ac:=by omega
          go_enter func14,ntmps14;go_wp2_with fail;refine Gi.out.mono ?_;rintro e w1⟨rfl,b1⟩;have Gb:=hid b1;have Gl:=hid (Gj.out w1 b1);clear b1 Gi Gj;go_wp2_with fail;refine(HI.out _).mono ?_;rintro e w2⟨rfl,e2⟩;subst e2;go_wp2_with fail;refine Gl.out.mono ?_;rintro e w3⟨rfl,e3⟩;subst e3;clear Gl HI;have Gd:Hid (Cp 47 #[.slice a n c,.int .i64 now] w3.drew fun e w4=>∃bm L',e=.returned (.map (some bm))/\L'.map KV.key=ks.filter (Ri.Oy now)/\Ri.Ts w3.drew bm ks.length L' w4):=by
            refine(Gq.out w3.drew ⟨Gb.out.os,Gb.out.tape,Gb.out.output,Gb.out.size,Gb.out.block⟩).mono ?_;rintro e w4 (⟨ho, -, -⟩|⟨-,bm,L',rfl,hk,Ga⟩)
            · cases ho
            · exact⟨bm,L',rfl,hk,Ga⟩
          have Gg:Hid (Bl w w3.drew):=⟨Gb.out.os,Gb.out.tape,Gb.out.output,Gb.out.size,Gb.out.block⟩;clear Gq;go_upto_region 3 with fail
          go_region_with (go_at_call 47
                          refine Gd.out.mono ?_;rintro e w4⟨bm,L',rfl,hk,Ga⟩;have Ge:Hid (L'.map KV.key=ks.filter (Ri.Oy now)/\Ri.Ts w3.drew bm ks.length L' w4):=⟨hk,Ga⟩;clear hk Ga)
          obtain⟨W5,Gf⟩:∃W5,w4.alloc (.cells #[.map (some bm),.int .i64 now,.slice (some ⟨ab,ao+1,none⟩) (m - 1) (ac - 1)] 73)=W5:=⟨_,rfl⟩;have b4:=Gg.out.trans (Ge.out.2.bel.mono Gg.out.size);have b5:Bl w W5:=by rw[<- Gf];exact b4.alloc b4.size _
          have Gk:=Gs.out w3.drew w4 bm L' (some ⟨ab,ao+1,none⟩) (ac - 1) Gg.out Ge.out.2 Ge.out.1 (fun _=>rfl) (by omega);rw[Gf]at Gk;have Gc:=hid Gk;have c5:=Gr.out W5 b5;rw[Gf];clear Gf b4 b5 Gk Gs Gd Gg Ge Gr;go_wp2_with fail;refine Gc.out.mono ?_;rintro e w6⟨r,er,rfl,b6,hh⟩;rcases hh with⟨rfl,hr,c6,n',L2,hk2,ho2,hu2,hv2⟩ | ⟨i,pb,hi,rfl,hpb,hc6,hp⟩
          · have HL:=hid (Gn.out w6 bm n' L2 r b6 hr hk2 ho2 hu2 hv2);clear hr hk2 ho2 hu2 hv2 b6 Gn Gp Gc;go_wp2_with fail;refine HL.out.mono ?_;rintro e w7⟨v,rfl,hF⟩;have HF:Hid _:=hF;clear hF HL;go_wp2;go_ret2;exact HF.out
          · have HL:=hid (Gp.out w6 i pb hi b6 hpb hc6 hp);clear hi hpb hc6 hp b6 Gn Gp Gc;go_wp2_with fail;refine HL.out.mono ?_;rintro e w7⟨v,rfl,hC⟩;have HC:=hid hC;clear hC HL;go_wp2_with fail;refine HC.out.mono ?_;rintro e w8⟨r2,rfl,hF⟩;have HF:Hid _:=hF;clear hF HC;go_wp2;go_ret2;exact HF.out
end Rb
end Go.Proofs.YtokafonppgppdaaGreatDoor
