import Derived.Test.YtokafonppgppdaaGreatDoorR42
set_option maxHeartbeats 2000000
set_option maxRecDepth 100000
namespace Go.Proofs.YtokafonppgppdaaGreatDoor.Rb
open Tryz
open Go.RowKit Go.Maps
open Ri (za3 RK UpK zao zbb zlj zi6 zhd kvA z7 zb0 zdv zcp zez)
variable {j d b n t k:Nat} {v c0 c1 c2 c3 c4:Value} {x y z:Int} {ad:Nat->Addr} {c:Cm} {W:World}
structure Tk where
 build::
 g:Nat
 a:Nat
 b:Nat
 c:Nat
abbrev Tk.ld (j:Nat):Tk:= .build 0 j 0 0
abbrev Tk.mk (a b c:Nat):Tk:= .build 1 a b c
abbrev Tk.on (n s:Nat):Tk:= .build 2 n s 0
def Tk.op (t:Tk):Op:=match t.g with
 |0=> .load 118 (.tmp (1+t.a))
 |1=> .build 118 #[(0,.const (.int .i64 t.a)),(1,.const (.int .i64 t.b)),(2,.const (.int .i64 t.c))]
 |_=> .call { callee:= .value (.func 177),args:= #[.const (.int .i64 t.a),.const (.int .i64 t.b)],argTypes:= #[3,3] }
def Tk.lo (t:Tk):Nat:=t.a
def Tk.hi (t:Tk):Nat:=match t.g with
 |0=>t.a
 |1=>t.b
 |_=>16
def Tk.st (t:Tk):Nat:=match t.g with
 |0=>1
 |1=>t.c
 |_=>t.b
def Tk.val (t:Tk):Value:= .agg #[.int .i64 t.lo,.int .i64 t.hi,.int .i64 t.st]
structure Rw where
 tk:Tk
 kd:Nat
 fn:Nat
 nm:ByteArray
def Rw.val (r:Rw):Value:= .agg #[.int .i64 r.kd,.int .i64 r.tk.lo,.int .i64 r.tk.hi,.int .i64 r.tk.st,.func (.func r.fn) #[] #[]]
def rw0:Rw:=⟨.ld 0,0,0,⟨#[]⟩⟩
def ykz:List Rw:=[
 ⟨.mk 0 1 1,0,172,⟨#[80,73,78,71]⟩⟩,
 ⟨.ld 1,0,173,⟨#[69,67,72,79]⟩⟩,
 ⟨.ld 0,0,174,⟨#[75,69,89,83]⟩⟩,
 ⟨.ld 0,0,175,⟨#[68,66,83,73,90,69]⟩⟩,
 ⟨.ld 0,0,176,⟨#[70,76,85,83,72,65,76,76]⟩⟩,
 ⟨.on 1 1,0,178,⟨#[68,69,76]⟩⟩,
 ⟨.on 1 1,0,179,⟨#[69,88,73,83,84,83]⟩⟩,
 ⟨.mk 2 4 2,0,180,⟨#[83,69,84]⟩⟩,
 ⟨.ld 2,0,181,⟨#[83,69,84,78,88]⟩⟩,
 ⟨.ld 1,0,182,⟨#[84,89,80,69]⟩⟩,
 ⟨.ld 1,0,183,⟨#[84,84,76]⟩⟩,
 ⟨.ld 1,0,184,⟨#[80,69,82,83,73,83,84]⟩⟩,
 ⟨.ld 2,0,185,⟨#[69,88,80,73,82,69]⟩⟩,
 ⟨.ld 1,1,186,⟨#[71,69,84]⟩⟩,
 ⟨.ld 1,1,187,⟨#[83,84,82,76,69,78]⟩⟩,
 ⟨.ld 3,1,188,⟨#[71,69,84,82,65,78,71,69]⟩⟩,
 ⟨.ld 2,1,189,⟨#[65,80,80,69,78,68]⟩⟩,
 ⟨.ld 2,1,190,⟨#[73,78,67,82,66,89]⟩⟩,
 ⟨.on 2 1,2,191,⟨#[76,80,85,83,72]⟩⟩,
 ⟨.on 2 1,2,192,⟨#[82,80,85,83,72]⟩⟩,
 ⟨.ld 1,2,193,⟨#[76,80,79,80]⟩⟩,
 ⟨.ld 1,2,194,⟨#[82,80,79,80]⟩⟩,
 ⟨.ld 1,2,195,⟨#[76,76,69,78]⟩⟩,
 ⟨.ld 3,2,196,⟨#[76,82,65,78,71,69]⟩⟩,
 ⟨.on 3 2,3,197,⟨#[72,83,69,84]⟩⟩,
 ⟨.ld 2,3,198,⟨#[72,71,69,84]⟩⟩,
 ⟨.on 2 1,3,199,⟨#[72,68,69,76]⟩⟩,
 ⟨.ld 1,3,200,⟨#[72,76,69,78]⟩⟩,
 ⟨.ld 1,3,201,⟨#[72,71,69,84,65,76,76]⟩⟩,
 ⟨.on 3 2,4,202,⟨#[90,65,68,68]⟩⟩,
 ⟨.on 2 1,4,203,⟨#[90,82,69,77]⟩⟩,
 ⟨.ld 1,4,204,⟨#[90,67,65,82,68]⟩⟩,
 ⟨.ld 2,4,205,⟨#[90,83,67,79,82,69]⟩⟩,
 ⟨.ld 2,4,206,⟨#[90,82,65,78,75]⟩⟩,
 ⟨.ld 3,4,207,⟨#[90,82,65,78,71,69]⟩⟩]
def zfn (k:Nat):Rw:=ykz.getD k rw0
def opsOf (f:Func):Array Oper:=match f.body with
 |some (.seq _ (.seq _ (.seq (.region _ ops _) _)))=>ops
 |_=>#[]
theorem zk3:(opsOf Tryz.f125).size=108:=by kernel_rfl
theorem yke:∀k,k<35->∃o,(opsOf Tryz.f125)[3*k+1]?=some o/\o.guard=none/\o.dst=some (10+2*k)/\o.op=(zfn k).tk.op
 |0,_=>⟨_,rfl,rfl,rfl,rfl⟩
 |1,_=>⟨_,rfl,rfl,rfl,rfl⟩
 |2,_=>⟨_,rfl,rfl,rfl,rfl⟩
 |3,_=>⟨_,rfl,rfl,rfl,rfl⟩
 |4,_=>⟨_,rfl,rfl,rfl,rfl⟩
 |5,_=>⟨_,rfl,rfl,rfl,rfl⟩
 |6,_=>⟨_,rfl,rfl,rfl,rfl⟩
 |7,_=>⟨_,rfl,rfl,rfl,rfl⟩
 |8,_=>⟨_,rfl,rfl,rfl,rfl⟩
 |9,_=>⟨_,rfl,rfl,rfl,rfl⟩
 |10,_=>⟨_,rfl,rfl,rfl,rfl⟩
 |11,_=>⟨_,rfl,rfl,rfl,rfl⟩
 |12,_=>⟨_,rfl,rfl,rfl,rfl⟩
 |13,_=>⟨_,rfl,rfl,rfl,rfl⟩
 |14,_=>⟨_,rfl,rfl,rfl,rfl⟩
 |15,_=>⟨_,rfl,rfl,rfl,rfl⟩
 |16,_=>⟨_,rfl,rfl,rfl,rfl⟩
 |17,_=>⟨_,rfl,rfl,rfl,rfl⟩
 |18,_=>⟨_,rfl,rfl,rfl,rfl⟩
 |19,_=>⟨_,rfl,rfl,rfl,rfl⟩
 |20,_=>⟨_,rfl,rfl,rfl,rfl⟩
 |21,_=>⟨_,rfl,rfl,rfl,rfl⟩
 |22,_=>⟨_,rfl,rfl,rfl,rfl⟩
 |23,_=>⟨_,rfl,rfl,rfl,rfl⟩
 |24,_=>⟨_,rfl,rfl,rfl,rfl⟩
 |25,_=>⟨_,rfl,rfl,rfl,rfl⟩
 |26,_=>⟨_,rfl,rfl,rfl,rfl⟩
 |27,_=>⟨_,rfl,rfl,rfl,rfl⟩
 |28,_=>⟨_,rfl,rfl,rfl,rfl⟩
 |29,_=>⟨_,rfl,rfl,rfl,rfl⟩
 |30,_=>⟨_,rfl,rfl,rfl,rfl⟩
 |31,_=>⟨_,rfl,rfl,rfl,rfl⟩
 |32,_=>⟨_,rfl,rfl,rfl,rfl⟩
 |33,_=>⟨_,rfl,rfl,rfl,rfl⟩
 |34,_=>⟨_,rfl,rfl,rfl,rfl⟩
 |n+35,h=>absurd h (by omega)
theorem yju:∀k,k<35->∃o,(opsOf Tryz.f125)[3*k+2]?=some o/\o.guard=none/\o.dst=some (11+2*k)/\o.op= .build 122 #[(0,.const (.int .i64 (zfn k).kd)),(1,.tmp (10+2*k)),(2,.func (zfn k).fn)]
 |0,_=>⟨_,rfl,rfl,rfl,rfl⟩
 |1,_=>⟨_,rfl,rfl,rfl,rfl⟩
 |2,_=>⟨_,rfl,rfl,rfl,rfl⟩
 |3,_=>⟨_,rfl,rfl,rfl,rfl⟩
 |4,_=>⟨_,rfl,rfl,rfl,rfl⟩
 |5,_=>⟨_,rfl,rfl,rfl,rfl⟩
 |6,_=>⟨_,rfl,rfl,rfl,rfl⟩
 |7,_=>⟨_,rfl,rfl,rfl,rfl⟩
 |8,_=>⟨_,rfl,rfl,rfl,rfl⟩
 |9,_=>⟨_,rfl,rfl,rfl,rfl⟩
 |10,_=>⟨_,rfl,rfl,rfl,rfl⟩
 |11,_=>⟨_,rfl,rfl,rfl,rfl⟩
 |12,_=>⟨_,rfl,rfl,rfl,rfl⟩
 |13,_=>⟨_,rfl,rfl,rfl,rfl⟩
 |14,_=>⟨_,rfl,rfl,rfl,rfl⟩
 |15,_=>⟨_,rfl,rfl,rfl,rfl⟩
 |16,_=>⟨_,rfl,rfl,rfl,rfl⟩
 |17,_=>⟨_,rfl,rfl,rfl,rfl⟩
 |18,_=>⟨_,rfl,rfl,rfl,rfl⟩
 |19,_=>⟨_,rfl,rfl,rfl,rfl⟩
 |20,_=>⟨_,rfl,rfl,rfl,rfl⟩
 |21,_=>⟨_,rfl,rfl,rfl,rfl⟩
 |22,_=>⟨_,rfl,rfl,rfl,rfl⟩
 |23,_=>⟨_,rfl,rfl,rfl,rfl⟩
 |24,_=>⟨_,rfl,rfl,rfl,rfl⟩
 |25,_=>⟨_,rfl,rfl,rfl,rfl⟩
 |26,_=>⟨_,rfl,rfl,rfl,rfl⟩
 |27,_=>⟨_,rfl,rfl,rfl,rfl⟩
 |28,_=>⟨_,rfl,rfl,rfl,rfl⟩
 |29,_=>⟨_,rfl,rfl,rfl,rfl⟩
 |30,_=>⟨_,rfl,rfl,rfl,rfl⟩
 |31,_=>⟨_,rfl,rfl,rfl,rfl⟩
 |32,_=>⟨_,rfl,rfl,rfl,rfl⟩
 |33,_=>⟨_,rfl,rfl,rfl,rfl⟩
 |34,_=>⟨_,rfl,rfl,rfl,rfl⟩
 |n+35,h=>absurd h (by omega)
theorem yjl:∀k,k<35->∃o,(opsOf Tryz.f125)[3*k+3]?=some o/\o.guard=none/\o.dst=none/\o.op= .insert 162 (.tmp 9) (.const (.string (zfn k).nm)) (.tmp (11+2*k))
 |0,_=>⟨_,rfl,rfl,rfl,rfl⟩
 |1,_=>⟨_,rfl,rfl,rfl,rfl⟩
 |2,_=>⟨_,rfl,rfl,rfl,rfl⟩
 |3,_=>⟨_,rfl,rfl,rfl,rfl⟩
 |4,_=>⟨_,rfl,rfl,rfl,rfl⟩
 |5,_=>⟨_,rfl,rfl,rfl,rfl⟩
 |6,_=>⟨_,rfl,rfl,rfl,rfl⟩
 |7,_=>⟨_,rfl,rfl,rfl,rfl⟩
 |8,_=>⟨_,rfl,rfl,rfl,rfl⟩
 |9,_=>⟨_,rfl,rfl,rfl,rfl⟩
 |10,_=>⟨_,rfl,rfl,rfl,rfl⟩
 |11,_=>⟨_,rfl,rfl,rfl,rfl⟩
 |12,_=>⟨_,rfl,rfl,rfl,rfl⟩
 |13,_=>⟨_,rfl,rfl,rfl,rfl⟩
 |14,_=>⟨_,rfl,rfl,rfl,rfl⟩
 |15,_=>⟨_,rfl,rfl,rfl,rfl⟩
 |16,_=>⟨_,rfl,rfl,rfl,rfl⟩
 |17,_=>⟨_,rfl,rfl,rfl,rfl⟩
 |18,_=>⟨_,rfl,rfl,rfl,rfl⟩
 |19,_=>⟨_,rfl,rfl,rfl,rfl⟩
 |20,_=>⟨_,rfl,rfl,rfl,rfl⟩
 |21,_=>⟨_,rfl,rfl,rfl,rfl⟩
 |22,_=>⟨_,rfl,rfl,rfl,rfl⟩
 |23,_=>⟨_,rfl,rfl,rfl,rfl⟩
 |24,_=>⟨_,rfl,rfl,rfl,rfl⟩
 |25,_=>⟨_,rfl,rfl,rfl,rfl⟩
 |26,_=>⟨_,rfl,rfl,rfl,rfl⟩
 |27,_=>⟨_,rfl,rfl,rfl,rfl⟩
 |28,_=>⟨_,rfl,rfl,rfl,rfl⟩
 |29,_=>⟨_,rfl,rfl,rfl,rfl⟩
 |30,_=>⟨_,rfl,rfl,rfl,rfl⟩
 |31,_=>⟨_,rfl,rfl,rfl,rfl⟩
 |32,_=>⟨_,rfl,rfl,rfl,rfl⟩
 |33,_=>⟨_,rfl,rfl,rfl,rfl⟩
 |34,_=>⟨_,rfl,rfl,rfl,rfl⟩
 |n+35,h=>absurd h (by omega)
theorem yjv:∃o,(opsOf Tryz.f125)[0]?=some o/\o.guard=none/\o.dst=some 9/\o.op= .makeMap 162 none:=⟨_,rfl,rfl,rfl,rfl⟩
theorem yjx:∃o,(opsOf Tryz.f125)[106]?=some o/\o.guard=none/\o.dst=some 80/\o.op= .move (.tmp 9):=⟨_,rfl,rfl,rfl,rfl⟩
theorem yj4:∃o,(opsOf Tryz.f125)[107]?=some o/\o.guard=none/\o.dst=some 0/\o.op= .assign (.tmp 80):=⟨_,rfl,rfl,rfl,rfl⟩
def zti (O:Array Oper) (i j:Nat):Bool:=((O[i]?).map (·.after.any fun e=>Region.binds .any e&&decide (e.on=j))).getD false
theorem yhd:((List.range 35).all fun k=>zti (opsOf Tryz.f125) (3*k+2) (3*k+1)&&(zti (opsOf Tryz.f125) (3*k+3) 0&&zti (opsOf Tryz.f125) (3*k+3) (3*k+2)))=true:=by kernel_rfl
theorem ya1:(zti (opsOf Tryz.f125) 106 0&&zti (opsOf Tryz.f125) 107 106)=true:=by kernel_rfl
theorem zrl {l:Array Bool} {i:Nat} (h:i∈Region.ready .any (opsOf Tryz.f125) l) (hj:zti (opsOf Tryz.f125) i j=true):l.getD j false=true:=by
 have hr:=(zg5 h).2.2;unfold zti at hj;cases ho:(opsOf Tryz.f125)[i]? with
 |none=>rw [ho] at hj;cases hj
 |some o=>
  rw [ho] at hj hr;have hj:(o.after.any fun e=>Region.binds .any e&&decide (e.on=j))=true:=hj;have hr:(o.after.all fun e=>!Region.binds .any e||l.getD e.on false)=true:=hr;rw [Array.any_eq_true] at hj;obtain ⟨q,hq,h1⟩:=hj;rw [Qh,decide_eq_true_iff] at h1;have h2:=(Array.all_eq_true.1 hr) q hq;rw [h1.1,h1.2] at h2;simpa using h2
theorem zwl:(List.range (opsOf Tryz.f125).size).all (fun i=> (((opsOf Tryz.f125)[i]?).map (·.after.all fun e=>!Region.binds .any e||decide (e.on<i))).getD false)=true:=by kernel_rfl
theorem yj7:((List.range 35).all fun k=>decide (((List.range 35).find? fun j=>decide ((zfn j).nm=(zfn k).nm))=some k))=true:=by kernel_rfl
section
variable {Q : Exit -> Act -> World -> Prop} {K : Act -> World -> Prop} {i : Nat} {o : Oper} {a : Act} {w w' : World}
theorem zm8 (ho:(opsOf Tryz.f125)[i]?=some o) (hg:o.guard=none) (hrun:(execOp a.eval o).run prog w= .ok (.value v) w') (hK:K (a.put o.dst v) w'):wpOp prog (opsOf Tryz.f125) Q i K a w:=
 wpOp_step ho fun K' hK'=>by
  rw [if_pos (by simp [Region.wanted,hg])];unfold Oper.wp;rw [hrun];exact hK' _ _ hK
theorem yhg (ho:(opsOf Tryz.f125)[i]?=some o) (hg:o.guard=none) (hrun:(execOp a.eval o).run prog w= .ok .skip w') (hK:K (a.put o.dst undef) w'):wpOp prog (opsOf Tryz.f125) Q i K a w:=
 wpOp_step ho fun K' hK'=>by
  rw [if_pos (by simp [Region.wanted,hg])];unfold Oper.wp;rw [hrun];exact hK' _ _ hK
theorem yd7 {f:FuncId} {args:Array Value} (ho:(opsOf Tryz.f125)[i]?=some o) (hg:o.guard=none) (hrun:(execOp a.eval o).run prog w= .ok (.enter f args) w') (hK:Calls prog f args w' fun e w''=>∃v,e= .returned v/\K (a.put o.dst v) w''):wpOp prog (opsOf Tryz.f125) Q i K a w:=
 wpOp_step ho fun K' hK'=>by
  rw [if_pos (by simp [Region.wanted,hg])];unfold Oper.wp;rw [hrun];refine hK.mono ?_;rintro e w'' ⟨v,rfl,h⟩;exact hK' _ _ h
end
theorem zth (n s:Int) (w:World):Calls prog 177 #[.int .i64 n,.int .i64 s] w fun e w'=>e= .returned (.agg #[.int .i64 n,.int .i64 16,.int .i64 s])/\Bl w w':=by
 have hb:Bl w (w.alloc (.cells #[.int .i64 n,.int .i64 16,.int .i64 s] 118)):=(Qb _ w).alloc (Qc _) _;go_enter func177,ntmps177;go_wp2;exact bodyPost_ret (v:= .agg #[.int .i64 n,.int .i64 16,.int .i64 s]) (by simp [results,results177,go_sem]) rfl ⟨rfl,hb⟩
theorem zsv (n:Int) (w:World):Calls prog 171 #[.int .i64 n] w fun e w'=>e= .returned (.agg #[.int .i64 n,.int .i64 n,.int .i64 1])/\w'=w.alloc (.cells #[.int .i64 n,.int .i64 n,.int .i64 1] 118):=by
 go_enter func171,ntmps171;go_wp2;exact bodyPost_ret (v:= .agg #[.int .i64 n,.int .i64 n,.int .i64 1]) (by simp [results,results171,go_sem]) rfl ⟨rfl,rfl⟩
def RC (v:Value):Option (DataW Value×List MemPlace):=
 match v with
 | .agg cs=> (match cs.toList with
  | [.int .i64 _,.int .i64 _,.int .i64 _,.int .i64 _,.func _ _ _]=>some (.held v,[])
  | [.int .i64 _,.int .i64 _,.int .i64 _,.int .i64 _,.nilFunc]=>some (.held v,[])
  |_=>none)
 |_=>none
def zkg (l:Array Bool) (s:ByteArray) (z:DataW Value):DataW Value:=match (List.range 35).find? (fun j=>decide ((zfn j).nm=s)) with
 |some k=>if l.getD (3*k+3) false=true then .held (zfn k).val else z
 |none=>z
structure ykk (G:Nat) (l:Array Bool) (a:Act) (w:World) (b:Nat):Prop where
 low:G+3<b
 s9:a.tmps[9]?=some (.map (some b))
 s80:l.getD 106 false=true->a.tmps[80]?=some (.map (some b))
 s0:l.getD 107 false=true->a.tmps[0]?=some (.map (some b))
 own:∃n D,w.ownsMap prog 9 RC b n D/\n+unl l<=108/\IsMap D/\∀s z,D.atKey (.string s.data.toList) z=zkg l s z
structure zkd (w0:World) (G:Nat) (l:Array Bool) (a:Act) (w:World):Prop where
 ls:l.size=108
 sz:a.tmps.size=81
 df:a.defers=[]
 p:∀j,j<4->a.tmps[1+j]?=some (.pointer (some ⟨G+j,0,none⟩))
 r:∀j:Nat,j<4->zab w (G+j) 118 #[.int .i64 j,.int .i64 j,.int .i64 1]
 t:∀k,k<35->l.getD (3*k+1) false=true->a.tmps[10+2*k]?=some (zfn k).tk.val
 b:∀k,k<35->l.getD (3*k+2) false=true->a.tmps[11+2*k]?=some (zfn k).val
 m:l.getD 0 false=true->∃b,ykk G l a w b
 i3:∀k,k<35->l.getD (3*k+3) false=true->l.getD 0 false=true
 i6:l.getD 106 false=true->l.getD 0 false=true
 i7:l.getD 107 false=true->l.getD 106 false=true
 bel:Bl w0 w
 up:w0.heap.size<=G
theorem yg5 {a b:ByteArray} (h:a.data.toList=b.data.toList):a=b:=by
 obtain ⟨x⟩:=a;obtain ⟨y⟩:=b;have:x=y:=by simpa using congrArg List.toArray h
 rw [this]
theorem zhu {a:Act} {x:Value} (h:a.tmps[j]?=some x) (hd:d≠j):(a.put (some d) v).tmps[j]?=some x:=by
 show (a.tmps.setIfInBounds d v)[j]?=_;rw [Array.getElem?_setIfInBounds_ne hd];exact h
theorem yas {a:Act} (h:d<a.tmps.size):(a.put (some d) v).tmps[d]?=some v:=by
 show (a.tmps.setIfInBounds d v)[d]?=_;rw [Array.getElem?_setIfInBounds_self_of_lt h]
theorem ygr {a:Act}:(a.put (some d) v).tmps.size=a.tmps.size:=by
 show (a.tmps.setIfInBounds d v).size=_;simp
theorem zuu {a:Act} (h:a.tmps[d]?=some v):a.eval (.tmp d)=v:=by
 show a.tmps.getD d undef=v;rw [Array.getD_eq_getD_getElem?,h];rfl
theorem yb2 {l:Array Bool} {i:Nat} (h:l.getD i true=false):unl (l.setIfInBounds i true)<=unl l:=by have:=zpb h;omega
theorem zpa {l:Array Bool} {i:Nat} (h:∀k,k<35->i≠3*k+3) (s:ByteArray) (z:DataW Value):zkg (l.setIfInBounds i true) s z=zkg l s z:=by
 unfold zkg;split
 ·rename_i k hk;have:=List.mem_range.1 (List.mem_of_find?_eq_some hk);rw [getD_set_ne (h k this)]
 ·rfl
theorem zhn {w w':World} {D:DataW Value} (ho:w.ownsMap prog 9 RC b n D) (hb:Bl w w'):w'.ownsMap prog 9 RC b n D:=
 ho.kept (row:=none) ⟨hb.os,hb.tape,hb.output,hb.size,fun k hk _=>hb.block k hk⟩ (by simp)
theorem zkd.slot {w0 w w':World} {G i:Nat} {l:Array Bool} {a:Act} (h:zkd w0 G l a w) (hb:Bl w w') (hl:l.getD i true=false) (hi3:∀k,k<35->i≠3*k+3) (h0:i≠0) (h6:i≠106) (h7:i≠107)
  (hd:10<=d) (hd2:d<80) (ht:∀k,k<35->d=10+2*k->v=(zfn k).tk.val) (ht2:∀k,k<35->i=3*k+1->d=10+2*k) (hr:∀k,k<35->d=11+2*k->v=(zfn k).val) (hr2:∀k,k<35->i=3*k+2->d=11+2*k):zkd w0 G (l.setIfInBounds i true) (a.put (some d) v) w':=by
 have hds:d<a.tmps.size:=by rw [h.sz];omega
 refine ⟨by simp [h.ls],ygr.trans h.sz,h.df,fun j hj=>zhu (h.p j hj) (by omega),fun j hj=> (h.r j hj).bw hb (h.r j hj).lt,fun k hk hu=>?_,fun k hk hu=>?_,?_,?_,?_,?_,h.bel.trans (hb.mono h.bel.size),h.up⟩
 ·by_cases e:d=10+2*k
  ·rw [<-e,yas hds,ht k hk e]
  ·refine zhu (h.t k hk ?_) e;by_cases e2:i=3*k+1
   ·exact absurd (ht2 k hk e2) e
   ·rwa [getD_set_ne e2] at hu
 ·by_cases e:d=11+2*k
  ·rw [<-e,yas hds,hr k hk e]
  ·refine zhu (h.b k hk ?_) e;by_cases e2:i=3*k+2
   ·exact absurd (hr2 k hk e2) e
   ·rwa [getD_set_ne e2] at hu
 ·rw [getD_set_ne h0];intro hu;obtain ⟨b,hm⟩:=h.m hu;obtain ⟨n,D,o1,o2,o3,o4⟩:=hm.own;refine ⟨b,hm.low,zhu hm.s9 (by omega),?_,?_,n,D,zhn o1 hb,by have:=yb2 hl;omega,o3,fun s z=>by rw [o4,zpa hi3]⟩
  ·rw [getD_set_ne h6];exact fun hu=>zhu (hm.s80 hu) (by omega)
  ·rw [getD_set_ne h7];exact fun hu=>zhu (hm.s0 hu) (by omega)
 ·intro k hk;rw [getD_set_ne (hi3 k hk),getD_set_ne h0];exact h.i3 k hk
 ·rw [getD_set_ne h6,getD_set_ne h0];exact h.i6
 ·rw [getD_set_ne h7,getD_set_ne h6];exact h.i7
section
variable {Q : Exit -> Act -> World -> Prop} {w0 w : World} {G : Nat} {l : Array Bool} {a : Act}
theorem zyn {o:Oper} {g:Nat} (hop:o.op= .load 118 (.tmp t)) (ht:a.tmps[t]?=some (.pointer (some ⟨g,0,none⟩))) (hr:zab w g 118 #[.int .i64 x,.int .i64 y,.int .i64 z]):(execOp a.eval o).run prog w= .ok (.value (.agg #[.int .i64 x,.int .i64 y,.int .i64 z])) w:=by
 have c0:=hr.cell 0;have c1:=hr.cell 1;have c2:=hr.cell 2;simp only [Qm,Qk,Ql] at c0 c1 c2;simp [execOp,hop,ht,go_sem,c0,c1,c2]
theorem zxw {o:Oper} (hop:o.op= .build 118 #[(0,.const (.int .i64 x)),(1,.const (.int .i64 y)),(2,.const (.int .i64 z))]):(execOp a.eval o).run prog w= .ok (.value (.agg #[.int .i64 x,.int .i64 y,.int .i64 z])) w:=by
 simp [execOp,hop,go_sem,Act.eval]
theorem zxj {o:Oper} {kd:Int} {f:Nat} (hop:o.op= .build 122 #[(0,.const (.int .i64 kd)),(1,.tmp t),(2,.func f)]) (ht:a.tmps[t]?=some (.agg #[.int .i64 x,.int .i64 y,.int .i64 z])):(execOp a.eval o).run prog w= .ok (.value (.agg #[.int .i64 kd,.int .i64 x,.int .i64 y,.int .i64 z,.func (.func f) #[] #[]])) w:=by
 simp [execOp,hop,go_sem,ht]
theorem yi4 {o:Oper} {n s:Int} (hop:o.op= .call { callee:= .value (.func 177),args:= #[.const (.int .i64 n),.const (.int .i64 s)],argTypes:= #[3,3] }):(execOp a.eval o).run prog w= .ok (.enter 177 #[.int .i64 n,.int .i64 s]) w:=by
 simp [execOp,hop,go_sem,Act.eval,resolve]
theorem yhx (h:zkd w0 G l a w) (hk:k<35) (hl:l.getD (3*k+1) true=false):wpOp prog (opsOf Tryz.f125) Q (3*k+1) (fun a' w'=>zkd w0 G (l.setIfInBounds (3*k+1) true) a' w') a w:=by
 obtain ⟨o,ho,hg,hd,hop⟩:=yke k hk;have HS:∀w',Bl w w'->zkd w0 G (l.setIfInBounds (3*k+1) true) (a.put o.dst (zfn k).tk.val) w':=fun w' hb=>by
  rw [hd];exact h.slot hb hl (fun q _=>by omega) (by omega) (by omega) (by omega) (by omega) (by omega) (fun q _ e=>by rw [show q=k by omega]) (fun q _ e=>by omega) (fun q _ e=>by omega) (fun q _ e=>by omega)
 have hv:(zfn k).tk.val= .agg #[.int .i64 (zfn k).tk.lo,.int .i64 (zfn k).tk.hi,.int .i64 (zfn k).tk.st]:=rfl;have hla:((List.range 35).all fun k=>decide ((zfn k).tk.g=0->(zfn k).tk.a<4))=true:=by kernel_rfl
 have hld:(zfn k).tk.g=0->(zfn k).tk.a<4:=Qg (Qw.1 hla k (List.mem_range.2 hk));clear hla;generalize (zfn k).tk=t at hop hv HS hld;obtain ⟨tg,x,y,z⟩:=t;rcases tg with _|_|tg
 ·have hj:x<4:=hld rfl;exact zm8 ho hg (zyn hop (h.p x hj) (h.r x hj)) (HS w (Qb _ _))
 ·exact zm8 ho hg (zxw hop) (HS w (Qb _ _))
 ·refine yd7 ho hg (yi4 hop) ((zth x y w).mono ?_);rintro e w' ⟨rfl,hb⟩;exact ⟨_,rfl,HS w' hb⟩
theorem yfu (h:zkd w0 G l a w) (hk:k<35) (hl:l.getD (3*k+2) true=false) (hu:l.getD (3*k+1) false=true):wpOp prog (opsOf Tryz.f125) Q (3*k+2) (fun a' w'=>zkd w0 G (l.setIfInBounds (3*k+2) true) a' w') a w:=by
 obtain ⟨o,ho,hg,hd,hop⟩:=yju k hk;refine zm8 ho hg (zxj hop (h.t k hk hu)) ?_;rw [hd];exact h.slot (Qb _ _) hl (fun q _=>by omega) (by omega) (by omega) (by omega) (by omega) (by omega) (fun q _ e=>by omega) (fun q _ e=>by omega) (fun q _ e=>by rw [show q=k by omega];rfl) (fun q _ e=>by omega)
theorem ygk (h:zkd w0 G l a w) (hk:k<35) (hl:l.getD (3*k+3) true=false) (hu0:l.getD 0 false=true) (hu:l.getD (3*k+2) false=true):wpOp prog (opsOf Tryz.f125) Q (3*k+3) (fun a' w'=>zkd w0 G (l.setIfInBounds (3*k+3) true) a' w') a w:=by
 obtain ⟨o,ho,hg,hd,hop⟩:=yjl k hk;obtain ⟨b,hm⟩:=h.m hu0;obtain ⟨n,D,o1,o2,o3,o4⟩:=hm.own;have hval:=h.b k hk hu;have hsz:((List.range 35).all fun k=>decide ((zfn k).nm.size<=100))=true:=by kernel_rfl
 have hs:(zfn k).nm.size<=100:=Qg (Qw.1 hsz k (List.mem_range.2 hk));have hR:RC (zfn k).val=some (.held (zfn k).val,[]):=rfl;obtain ⟨w',hrun,r1,hgr⟩:=o1.update (string_keyed underlying9) underlying162 (by unfold maxLen;omega) (Ri.zey (zfn k).nm (by unfold maxLen;omega)) hR;have hrun2:(execOp a.eval o).run prog w= .ok .skip w':=by
  simp [execOp,hop,zuu hm.s9,zuu hval,show a.eval (.const (.string (zfn k).nm))= .string (zfn k).nm from rfl,hrun,Result.andThen]
 refine yhg ho hg hrun2 ?_;rw [hd];show zkd w0 G (l.setIfInBounds (3*k+3) true) a w';have hbk:∀q,q<w.heap.size->q≠b->w'.heap[q]?=w.heap[q]?:=fun q hq hne=>hgr.block q hq (fun e=>hne (Option.some.inj e));have hlw:=hm.low;have hup:=h.up;have hls:3*k+3<l.size:=by rw [h.ls];omega
 refine ⟨by simp [h.ls],h.sz,h.df,h.p,fun j hj=> (hbk _ (h.r j hj).lt (by omega)).trans (h.r j hj),fun q hq hu=>?_,fun q hq hu=>?_,?_,fun q hq _=>?_,?_,?_,?_,h.up⟩
 ·rw [getD_set_ne (by omega)] at hu;exact h.t q hq hu
 ·rw [getD_set_ne (by omega)] at hu;exact h.b q hq hu
 ·intro _;refine ⟨b,hm.low,hm.s9,?_,?_,n+1,_,r1,by have:=zpb hl;omega,o3.put _ _,fun s z=>?_⟩
  ·rw [getD_set_ne (by omega)];exact hm.s80
  ·rw [getD_set_ne (by omega)];exact hm.s0
  ·have hnm:((List.range 35).find? fun j=>decide ((zfn j).nm=(zfn k).nm))=some k:=Qg (Qw.1 yj7 k (List.mem_range.2 hk));by_cases e:(zfn k).nm=s
   ·subst e;rw [atKey_put_same o3 (by simp [WideAt.IsKeyLit])];unfold zkg;rw [hnm];show _=if (l.setIfInBounds (3*k+3) true).getD (3*k+3) false=true then _ else _;rw [zcq hls,if_pos rfl]
   ·rw [atKey_put_other (fun h=>by injection h with h;exact e (yg5 h.symm)),o4];unfold zkg;cases hf:(List.range 35).find? (fun j=>decide ((zfn j).nm=s)) with
    |none=>rfl
    |some q=>
     have hq:=List.find?_some hf;have hq:(zfn q).nm=s:=Qg hq;have hne:k≠q:=fun e2=>e (e2 ▸ hq);show (if l.getD (3*q+3) false=true then _ else _)=if (l.setIfInBounds (3*k+3) true).getD (3*q+3) false=true then _ else _;rw [getD_set_ne (by omega)]
 ·rw [getD_set_ne (by omega)];exact hu0
 ·rw [getD_set_ne (by omega),getD_set_ne (by omega)];exact h.i6
 ·rw [getD_set_ne (by omega),getD_set_ne (by omega)];exact h.i7
 ·exact h.bel.trans ⟨hgr.os,hgr.tape,hgr.output,hgr.size,fun q hq=>hbk q (Qr hq h.bel.size) (by omega)⟩
theorem yhc (h:zkd w0 G l a w) (hl:l.getD 0 true=false):wpOp prog (opsOf Tryz.f125) Q 0 (fun a' w'=>zkd w0 G (l.setIfInBounds 0 true) a' w') a w:=by
 obtain ⟨o,ho,hg,hd,hop⟩:=yjv;have hoff:=ye9 hl;have hrun:(execOp a.eval o).run prog w= .ok (.value (.map (some w.heap.size))) (w.alloc (.map #[] 0)):=by
  have:=run_makeMap (P:=prog) 162 w;simp [execOp,hop,this,Result.andThen]
 refine zm8 ho hg hrun ?_;rw [hd];have hb:Bl w (w.alloc (.map #[] 0)):=(Qb _ _).alloc (Qc _) _;have n106:l.getD 106 false=false:=by cases e:l.getD 106 false with|false=>rfl|true=>rw [h.i6 e] at hoff;cases hoff
 have n107:l.getD 107 false=false:=by cases e:l.getD 107 false with|false=>rfl|true=>rw [h.i7 e] at n106;cases n106
 have n3:∀k,k<35->l.getD (3*k+3) false=false:=fun k hk=>by cases e:l.getD (3*k+3) false with|false=>rfl|true=>rw [h.i3 k hk e] at hoff;cases hoff
 have hsz:9<a.tmps.size:=by rw [h.sz];omega
 have hls:0<l.size:=by rw [h.ls];omega
 have hun:unl l<=108:=by unfold unl;exact Qj List.countP_le_length (by simp [h.ls])
 refine ⟨by simp [h.ls],ygr.trans h.sz,h.df,fun j hj=>zhu (h.p j hj) (by omega),fun j hj=> (h.r j hj).bw hb (h.r j hj).lt,fun k hk hu=>?_,fun k hk hu=>?_,fun _=>⟨w.heap.size,?_⟩,fun k hk _=>zcq hls,?_,?_,h.bel.trans (hb.mono h.bel.size),h.up⟩
 ·rw [getD_set_ne (by omega)] at hu;exact zhu (h.t k hk hu) (by omega)
 ·rw [getD_set_ne (by omega)] at hu;exact zhu (h.b k hk hu) (by omega)
 ·refine ⟨(h.r 3 (by omega)).lt,yas hsz,fun hu=>?_,fun hu=>?_,0,.map [],World.ownsMap_made w _ _ _,by have:=yb2 hl;omega,⟨[],rfl⟩,fun s z=>?_⟩
  ·rw [getD_set_ne (by omega),n106] at hu;cases hu
  ·rw [getD_set_ne (by omega),n107] at hu;cases hu
  ·rw [zpa (fun k _=>by omega)];unfold zkg;cases hf:(List.range 35).find? (fun j=>decide ((zfn j).nm=s)) with
   |none=>rfl
   |some q=>
    have hq:=List.mem_range.1 (List.mem_of_find?_eq_some hf);show _=if l.getD (3*q+3) false=true then _ else _;rw [n3 q hq,if_neg (by simp)];rfl
 ·rw [getD_set_ne (by omega),n106];intro e;cases e
 ·rw [getD_set_ne (by omega),n107];intro e;cases e
theorem zkd.moved {i:Nat} (h:zkd w0 G l a w) (hl:l.getD i true=false) (hi:(i=106/\d=80)\/(i=107/\d=0/\l.getD 106 false=true)) (h0:l.getD 0 false=true) (hm:ykk G l a w b):zkd w0 G (l.setIfInBounds i true) (a.put (some d) (.map (some b))) w:=by
 have hds:d<a.tmps.size:=by rw [h.sz];omega
 have hls:106<l.size:=by rw [h.ls];omega
 obtain ⟨n,D,o1,o2,o3,o4⟩:=hm.own;refine ⟨by simp [h.ls],ygr.trans h.sz,h.df,fun j hj=>zhu (h.p j hj) (by omega),h.r,fun k hk hu=>?_,fun k hk hu=>?_,fun _=>⟨b,hm.low,zhu hm.s9 (by omega),fun hu=>?_,fun hu=>?_,n,D,o1,by have:=yb2 hl;omega,o3,fun s z=>by rw [o4,zpa (fun k _=>by omega)]⟩,fun k hk _=>?_,fun _=>?_,fun hu=>?_,h.bel,h.up⟩
 ·rw [getD_set_ne (by omega)] at hu;exact zhu (h.t k hk hu) (by omega)
 ·rw [getD_set_ne (by omega)] at hu;exact zhu (h.b k hk hu) (by omega)
 ·rcases hi with ⟨rfl,rfl⟩|⟨rfl,rfl,h6⟩
  ·exact yas hds
  ·exact zhu (hm.s80 h6) (by omega)
 ·rcases hi with ⟨rfl,rfl⟩|⟨rfl,rfl,h6⟩
  ·rw [getD_set_ne (by omega)] at hu;exact zhu (hm.s0 hu) (by omega)
  ·exact yas hds
 ·rw [getD_set_ne (by omega)];exact h0
 ·rw [getD_set_ne (by omega)];exact h0
 ·rcases hi with ⟨rfl,rfl⟩|⟨rfl,rfl,h6⟩
  ·exact zcq hls
  ·rw [getD_set_ne (by omega)];exact h6
theorem ygt (h:zkd w0 G l a w) (hl:l.getD 106 true=false) (h0:l.getD 0 false=true):wpOp prog (opsOf Tryz.f125) Q 106 (fun a' w'=>zkd w0 G (l.setIfInBounds 106 true) a' w') a w:=by
 obtain ⟨o,ho,hg,hd,hop⟩:=yjx;obtain ⟨b,hm⟩:=h.m h0;have hrun:(execOp a.eval o).run prog w= .ok (.value (.map (some b))) w:=by simp [execOp,hop,zuu hm.s9]
 refine zm8 ho hg hrun ?_;rw [hd];exact h.moved hl (.inl ⟨rfl,rfl⟩) h0 hm
theorem yga (h:zkd w0 G l a w) (hl:l.getD 107 true=false) (h6:l.getD 106 false=true):wpOp prog (opsOf Tryz.f125) Q 107 (fun a' w'=>zkd w0 G (l.setIfInBounds 107 true) a' w') a w:=by
 obtain ⟨o,ho,hg,hd,hop⟩:=yj4;have h0:=h.i6 h6;obtain ⟨b,hm⟩:=h.m h0;have hrun:(execOp a.eval o).run prog w= .ok (.value (.map (some b))) w:=by simp [execOp,hop,zuu (hm.s80 h6)]
 refine zm8 ho hg hrun ?_;rw [hd];exact h.moved hl (.inr ⟨rfl,rfl,h6⟩) h0 hm
theorem yep (i:Nat) (h:zkd w0 G l a w) (hi:i∈Region.ready .any (opsOf Tryz.f125) l):wpOp prog (opsOf Tryz.f125) Q i (fun a' w'=>zkd w0 G (l.setIfInBounds i true) a' w') a w:=by
 obtain ⟨h1,h2,-⟩:=zg5 hi;rw [zk3] at h1;by_cases e0:i=0
 ·subst e0;exact yhc h h2
 by_cases e6:i=106
 ·subst e6;exact ygt h h2 (zrl hi (by have:=ya1;rw [Qh] at this;exact this.1))
 by_cases e7:i=107
 ·subst e7;exact yga h h2 (zrl hi (by have:=ya1;rw [Qh] at this;exact this.2))
 obtain ⟨k,hk,hd⟩:∃k,k<35/\(i=3*k+1\/i=3*k+2\/i=3*k+3):=⟨(i-1)/3,by omega,by omega⟩;have hda:=Qw.1 yhd k (List.mem_range.2 hk);rw [Qh,Qh] at hda;rcases hd with rfl|rfl|rfl
 ·exact yhx h hk h2
 ·exact yfu h hk h2 (zrl hi hda.1)
 ·exact ygk h hk h2 (zrl hi hda.2.1) (zrl hi hda.2.2)
theorem zwf (h:zkd w0 G (Array.replicate 108 false) a w.drew) (hQ:∀a' w' b,a'.defers=[]->a'.tmps[0]?=some (.map (some b))->(∃n D,w'.ownsMap prog 9 RC b n D/\IsMap D/\∀s z,D.atKey (.string s.data.toList) z=zkg (Array.replicate 108 true) s z)->Bl w0 w'->Q .normal a' w'):(Code.region 2 (opsOf Tryz.f125) true).wp prog Q a w:=by
 refine zi2 (zkd w0 G) (by kernel_rfl) (by rw [zk3];exact h) (fun l a w i hI hi=>yep i hI hi) zwl (fun l a' w' hI hall=>?_);rw [zk3] at hall;have hon:∀i,i<108->l.getD i false=true:=fun i hi=>yi8 (hall i hi) (by rw [hI.ls];exact hi);obtain ⟨b,hm⟩:=hI.m (hon 0 (by omega));obtain ⟨n,D,o1,o2,o3,o4⟩:=hm.own;refine hQ a' w' b hI.df (hm.s0 (hon 107 (by omega))) ⟨n,D,o1,o3,fun s z=>?_⟩ hI.bel;rw [o4];unfold zkg;cases hf:(List.range 35).find? (fun j=>decide ((zfn j).nm=s)) with
 |none=>rfl
 |some q=>
  have hq:=List.mem_range.1 (List.mem_of_find?_eq_some hf);show (if l.getD (3*q+3) false=true then _ else _)=if (Array.replicate 108 true).getD (3*q+3) false=true then _ else _;rw [hon _ (by omega),if_pos rfl,if_pos (by rw [Array.getD_eq_getD_getElem?,Array.getElem?_replicate,if_pos (by omega)];rfl)]
end
def zuw (w0:World) (b:Nat) (w:World):Prop:=(∃n D,w.ownsMap prog 9 RC b n D/\IsMap D/\∀s z,D.atKey (.string s.data.toList) z=zkg (Array.replicate 108 true) s z)/\Bl w0 w
theorem ycc {w0 W4 V4:World} {a:Act} (hb:Bl w0 V4) (hG:w0.heap.size<=W4.heap.size) (hsz:a.tmps.size=81) (hdf:a.defers=[]) (hp:∀j,j<4->a.tmps[1+j]?=some (.pointer (some ⟨W4.heap.size+j,0,none⟩))) (hr:∀j:Nat,j<4->zab V4 (W4.heap.size+j) 118 #[.int .i64 j,.int .i64 j,.int .i64 1]):zkd w0 W4.heap.size (Array.replicate 108 false) a V4.drew:=by
 have hf:∀i,(Array.replicate 108 false).getD i false=false:=fun i=>by
  rw [Array.getD_eq_getD_getElem?,Array.getElem?_replicate];split<;>rfl
 refine ⟨by simp,hsz,hdf,hp,hr,fun k _ hu=>?_,fun k _ hu=>?_,fun hu=>?_,fun k _ hu=>?_,fun hu=>?_,fun hu=>?_,⟨hb.os,hb.tape,hb.output,hb.size,hb.block⟩,hG⟩;all_goals rw [hf] at hu;cases hu
theorem yjq (W:World):Bl W ((((W.alloc (.cells #[.int .i64 0,.int .i64 0,.int .i64 1] 118)).alloc (.cells #[.int .i64 1,.int .i64 1,.int .i64 1] 118)).alloc (.cells #[.int .i64 2,.int .i64 2,.int .i64 1] 118)).alloc (.cells #[.int .i64 3,.int .i64 3,.int .i64 1] 118))/\∀j:Nat,j<4->zab ((((W.alloc (.cells #[.int .i64 0,.int .i64 0,.int .i64 1] 118)).alloc (.cells #[.int .i64 1,.int .i64 1,.int .i64 1] 118)).alloc (.cells #[.int .i64 2,.int .i64 2,.int .i64 1] 118)).alloc (.cells #[.int .i64 3,.int .i64 3,.int .i64 1] 118)) (W.heap.size+j) 118 #[.int .i64 j,.int .i64 j,.int .i64 1]:=by
 obtain ⟨V1,hV1,-,v1,x1⟩:=boxed W #[.int .i64 0,.int .i64 0,.int .i64 1] 118;obtain ⟨V2,hV2,-,v2,x2⟩:=boxed V1 #[.int .i64 1,.int .i64 1,.int .i64 1] 118;obtain ⟨V3,hV3,-,v3,x3⟩:=boxed V2 #[.int .i64 2,.int .i64 2,.int .i64 1] 118;obtain ⟨V4,hV4,-,v4,x4⟩:=boxed V3 #[.int .i64 3,.int .i64 3,.int .i64 1] 118;have z1:V1.heap.size=W.heap.size+1:=by rw [<-hV1];simp
 have z2:V2.heap.size=W.heap.size+2:=by rw [<-hV2];simp [z1]
 have z3:V3.heap.size=W.heap.size+3:=by rw [<-hV3];simp [z2]
 rw [hV1,hV2,hV3,hV4];rw [z1] at x2;rw [z2] at x3;rw [z3] at x4;have v24:Bl V2 V4:=v3.trans (v4.mono v3.size);have v14:Bl V1 V4:=v2.trans (v24.mono v2.size);refine ⟨v1.trans (v14.mono v1.size),fun j hj=>?_⟩;match j,hj with
 |0,_=>exact x1.bw v14 x1.lt
 |1,_=>exact x2.bw v24 x2.lt
 |2,_=>exact x3.bw v4 x3.lt
 |3,_=>exact x4
theorem zrp (w:World):Calls prog 125 #[] w fun e w'=>∃b,e= .returned (.map (some b))/\zuw w b w':=by
 obtain ⟨W4,hW4⟩:∃W4,(((w.alloc (.cells #[.int .i64 0,.int .i64 0,.int .i64 1] 118)).alloc (.cells #[.int .i64 1,.int .i64 1,.int .i64 1] 118)).alloc (.cells #[.int .i64 2,.int .i64 2,.int .i64 1] 118)).alloc (.cells #[.int .i64 3,.int .i64 3,.int .i64 1] 118)=W4:=⟨_,rfl⟩;have b4:Bl w W4:=by
  rw [<-hW4];exact ((((Qb _ w).alloc (Qc _) _).alloc (by simp) _).alloc (by simp;omega) _).alloc (by simp;omega) _
 have s4:w.heap.size+4=W4.heap.size:=by rw [<-hW4];simp
 obtain ⟨hb4,hr4⟩:=yjq W4;have H4:Hid _:=b4.trans (hb4.mono b4.size);have HR4:Hid _:=hr4;have HS4:Hid (w.heap.size<=W4.heap.size):=by unfold Hid;omega
 clear b4 s4 hb4 hr4;go_enter func125,ntmps125;go_upto_region 2 with (go_at_call 171;refine (zsv _ _).mono ?_;rintro e w' ⟨rfl,rfl⟩);rename_i K hK;refine zwf (w0:=w) (G:=W4.heap.size) (ycc H4.out HS4.out rfl rfl (fun j hj=>?_) HR4.out) (fun a' w' b h1 h2 h3 h4=>?_)
 ·match j,hj with
  |0,_=>rfl
  |1,_=>rfl
  |2,_=>rfl
  |3,_=>rfl
 ·refine hK _ _ ?_;refine wp_ret ?_;show bodyPost prog Tryz.f125 (fun e w'=>∃b,e= .returned (.map (some b))/\zuw w b w') .ret a' w';refine bodyPost_ret (v:= .map (some b)) ?_ h1 ⟨b,rfl,h3,h4⟩;rw [results_tmp (t:=0) rfl,Array.getD_eq_getD_getElem?,h2];rfl
def okT (t:Tk) (n:Nat):Bool:=decide (t.lo<=n)&&(decide (n<=t.hi)&&decide ((n-t.lo)%t.st=0))
def ixC (c:Cm):Nat:=((List.range 35).find? (fun j=>decide ((zfn j).nm=c.text))).getD 0
def zfs (c:Cm):Rw:=zfn (ixC c)
theorem zml:∀c:Cm,c∈Cm.all:=by decide
theorem yic:(Cm.all.all fun c=>decide ((List.range 35).find? (fun j=>decide ((zfn j).nm=c.text))=some (ixC c)))=true:=by kernel_rfl
theorem yi5:(Cm.all.all fun c=>decide ((zfs c).kd=c.kind))=true:=by kernel_rfl
theorem ygy:(Cm.all.all fun c=> (List.range 17).all fun n=>decide (okT (zfs c).tk n=c.fits n))=true:=by kernel_rfl
theorem yi1:(Cm.all.all fun c=>decide ((zfs c).tk.lo<=16/\(zfs c).tk.hi<=16/\1<=(zfs c).tk.st/\(zfs c).tk.st<=16))=true:=by kernel_rfl
theorem yip:((List.range 35).all fun j=>Cm.all.any fun c=>decide (c.text=(zfn j).nm))=true:=by kernel_rfl
theorem yin (c:Cm):(List.range 35).find? (fun j=>decide ((zfn j).nm=c.text))=some (ixC c):=Qg (Qw.1 yic c (zml c))
theorem yjm (c:Cm):(zfs c).kd=c.kind:=Qg (Qw.1 yi5 c (zml c))
theorem yi2 (c:Cm) (hn:n<=16):okT (zfs c).tk n=c.fits n:=Qg (Qw.1 (Qw.1 ygy c (zml c)) n (List.mem_range.2 (by omega)))
theorem yj3 (c:Cm):(zfs c).tk.lo<=16/\(zfs c).tk.hi<=16/\1<=(zfs c).tk.st/\(zfs c).tk.st<=16:=Qg (Qw.1 yi1 c (zml c))
theorem zs1 (s:ByteArray) (z:DataW Value):zkg (Array.replicate 108 true) s z=match zlt s with
  |some c=> .held (zfs c).val
  |none=>z:=by
 unfold zkg;cases h:zlt s with
 |some c=>
  have hs:c.text=s:=by have:=List.find?_some h;exact Qg this
  subst hs;rw [yin c];have hi:=List.mem_range.1 (List.mem_of_find?_eq_some (yin c));show (if (Array.replicate 108 true).getD (3*ixC c+3) false=true then _ else _)=_;rw [if_pos (by rw [Array.getD_eq_getD_getElem?,Array.getElem?_replicate,if_pos (by omega)];rfl)];rfl
 |none=>
  have:(List.range 35).find? (fun j=>decide ((zfn j).nm=s))=none:=by
   rw [List.find?_eq_none];intro j hj e;obtain ⟨c,hc,e2⟩:=List.any_eq_true.1 (Qw.1 yip j hj);have e1:(zfn j).nm=s:=Qg e;have e2:c.text=(zfn j).nm:=Qg e2;exact (List.find?_eq_none.1 h) c hc (Qe (e2.trans e1))
  rw [this]
theorem zzt {v':Value} {ps:List MemPlace} (h:RC v=some (.held v',ps)):v=v':=by
 unfold RC at h;split at h
 ·split at h
  ·injection h with h;injection h with h1 h2;injection h1
  ·injection h with h;injection h with h1 h2;injection h1
  ·cases h
 ·cases h
def ykc:Value:= .agg #[.int .i64 0,.int .i64 0,.int .i64 0,.int .i64 0,.nilFunc]
theorem yci {w0 w:World} (h:zuw w0 b w) (s:ByteArray) (hs:s.size<=1048576):(Instr.lookup 162 (.map (some b)) (.string s) true).run prog w= .ok (.tuple #[match zlt s with|some c=> (zfs c).val|none=>ykc,.bool (zlt s).isSome]) w:=by
 obtain ⟨⟨n,D,ho,hm,hD⟩,-⟩:=h;obtain ⟨v,ps,hrun,hR⟩:=ho.look_ok (string_keyed underlying9) underlying162 (z:=ykc) (by kernel_rfl) (zd:= .held ykc) (zp:=[]) rfl (Ri.zey s (by unfold maxLen;omega));rw [hrun];rw [hD,zs1] at hR;have hh:Maps.has D (.string s.data.toList)=(zlt s).isSome:=by
  cases hc:zlt s with
  |none=>exact has_false_of_atKey (fun z=>by rw [hD,zs1,hc])
  |some c=>exact has_true_of_atKey (y:= .held (zfs c).val) (fun z=>by rw [hD,zs1,hc])
 rw [hh];cases hc:zlt s with
 |none=>rw [hc] at hR;rw [zzt hR]
 |some c=>rw [hc] at hR;rw [zzt hR]
theorem zqj (lo hi st n:Nat) (hst:1<=st) (h1:lo<=16) (_h2:hi<=16) (h3:st<=16) (h4:n<=16) (w:World):Calls prog 127 #[.agg #[.int .i64 lo,.int .i64 hi,.int .i64 st],.int .i64 n] w fun e w'=>e= .returned (.bool (decide (lo<=n)&&(decide (n<=hi)&&decide ((n-lo)%st=0))))/\Bl w w':=by
 obtain ⟨W0,hW0,HW0,b0,q0⟩:=boxed w #[.int .i64 lo,.int .i64 hi,.int .i64 st] 118;have HB:Hid (Bl w W0):=b0;have y0:=q0.cell 0;have y1:=q0.cell 1;have y2:=q0.cell 2;simp only [Qm,Qk,Ql] at y0 y1 y2;clear b0 q0;by_cases g1:lo<=n
 ·have d1:decide ((lo:Int)<=(n:Int))=true:=Qe (by omega);by_cases g2:n<=hi
  ·have d2:decide ((n:Int)<=(hi:Int))=true:=Qe (by omega);have hwr:IntKind.i64.wrap ((n:Int)-(lo:Int))=((n-lo:Nat):Int):=by rw [IntKind.wrap_i64];omega
   obtain ⟨q,hq⟩:∃q,n-lo=q:=⟨_,rfl⟩;rw [hq] at hwr ⊢;have hne:¬(st:Int)=0:=by omega
   have hne2:¬st=0:=by omega
   have hmod:Int.tmod (q:Int) (st:Int)=((q%st:Nat):Int):=rfl;have hw2:IntKind.i64.wrap ((q%st:Nat):Int)=((q%st:Nat):Int):=by
    have:=Nat.mod_lt q hst;rw [IntKind.wrap_i64];omega
   obtain ⟨r,hr⟩:∃r,q%st=r:=⟨_,rfl⟩;rw [hr] at hmod hw2 ⊢;rw [Qe g1,Qe g2,Qz,Qz];clear hq hr;go_enter func127,ntmps127;go_wp2;go_ret;exact ⟨congrArg (fun b=>Ending.returned (.bool b)) (by by_cases h:r=0<;>simp [h]),HB.out⟩
  ·have d2:decide ((n:Int)<=(hi:Int))=false:=Qf (by omega);rw [Qf g2,Q0,Bool.and_false];go_enter func127,ntmps127;go_wp2;go_ret;exact ⟨rfl,HB.out⟩
 ·have d1:decide ((lo:Int)<=(n:Int))=false:=Qf (by omega);rw [Qf g1,Q0];go_enter func127,ntmps127;go_wp2;go_ret;exact ⟨rfl,HB.out⟩
theorem zuw.bw {w0 w w':World} (h:zuw w0 b w) (hb:Bl w w'):zuw w0 b w':=by
 obtain ⟨⟨n,D,ho,q⟩,hB⟩:=h;exact ⟨⟨n,D,zhn ho hb,q⟩,hB.trans (hb.mono hB.size)⟩
def yjc (w w':World) (A:Addr) (v:Value):Prop:=∃pb,v= .iface 125 (.pointer (some ⟨pb,0,none⟩))/\w.heap.size<=pb/\w'.cell? ⟨pb,0,none⟩=some (.iface 307 (.pointer (some A)))
def zul (w:World) (ad:Nat->Addr) (oc:Option Cm) (n:Nat) (e:Ending) (w':World):Prop:=Bl w w'/\match oc with
 |none=>∃v,e= .returned (.tuple #[.agg #[.int .i64 0,.int .i64 0,.int .i64 0,.int .i64 0,.nilFunc],v])/\yjc w w' (ad 6) v
 |some c=>if c.fits n=true then e= .returned (.tuple #[(zfs c).val,.nilIface]) else ∃v,e= .returned (.tuple #[.agg #[.int .i64 0,.int .i64 0,.int .i64 0,.int .i64 0,.nilFunc],v])/\yjc w w' (ad 0) v
theorem yfq {w:World} {z0 z1 z2 z3 z4:Value} (h:zab w b 122 #[z0,z1,z2,z3,z4]):zab (((((w.setCell ⟨b,0,none⟩ c0).setCell ⟨b,1,none⟩ c1).setCell ⟨b,2,none⟩ c2).setCell ⟨b,3,none⟩ c3).setCell ⟨b,4,none⟩ c4) b 122 #[c0,c1,c2,c3,c4]:=by
 have:=((((h.set 0 c0).set 1 c1).set 2 c2).set 3 c3).set 4 c4;simpa using this
theorem zxe (s:ByteArray):(zcv s).size=s.size:=by
 show (s.data.toList.map upB).toArray.size=s.data.size;simp
theorem yir {w w':World} (h:c.fits n=false) (hb:Bl w w') (hr:yjc w w' (ad 0) v):zul w ad (some c) n (.returned (.tuple #[.agg #[.int .i64 0,.int .i64 0,.int .i64 0,.int .i64 0,.nilFunc],v])) w':=by
 refine ⟨hb,?_⟩;show if c.fits n=true then _ else _;rw [h,if_neg (by simp)];exact ⟨v,rfl,hr⟩
theorem yhi {w w':World} {e:Ending} (h:c.fits n=true) (hb:Bl w w') (he:e= .returned (.tuple #[(zfs c).val,.nilIface])):zul w ad (some c) n e w':=by
 refine ⟨hb,?_⟩;show if c.fits n=true then _ else _;rw [h,if_pos rfl];exact he
theorem ygs {tmps:Array Value} (h4:tmps.getD 4 undef= .pointer (some ⟨b,0,none⟩)) (h5:tmps.getD 5 undef=v) (hr:zab W b 122 #[c0,c1,c2,c3,c4]):(results Tryz.f90 tmps).run prog W= .ok (.tuple #[.agg #[c0,c1,c2,c3,c4],v]) W:=by
 have x0:=hr.cell 0;have x1:=hr.cell 1;have x2:=hr.cell 2;have x3:=hr.cell 3;have x4:=hr.cell 4;simp only [Qm,Qk,Ql] at x0 x1 x2 x3 x4;have h4':tmps[4]?.getD undef= .pointer (some ⟨b,0,none⟩):=by rw [<-Array.getD_eq_getD_getElem?];exact h4
 have h5':tmps[5]?.getD undef=v:=by rw [<-Array.getD_eq_getD_getElem?];exact h5
 simp [results,results90,go_sem,h4',h5',x0,x1,x2,x3,x4]
theorem zyx {B:Nat} {w V:World} {C:Array Value} (bz:Below B w V) (rz:zab V b 122 C) (hsz:V.heap.size=W.heap.size) (x:Value) (hB:B<=V.heap.size:=by exact Below.size (by assumption)):zab (V.alloc (.cells #[x] 127)).drew b 122 C/\Below B w (V.alloc (.cells #[x] 127)).drew/\(V.alloc (.cells #[x] 127)).drew.cell? ⟨W.heap.size,0,none⟩=some x:=by
 have hnew:=zab.new V 127 #[x];rw [hsz] at hnew;have hc:=hnew.cell 0;have h1:Bl V (V.alloc (.cells #[x] 127)):=(Qb _ _).alloc (Qc _) _;exact ⟨zab.drew (rz.bw h1 rz.lt),(bz.alloc hB _).drew,hc⟩
theorem zpr (word:ByteArray) (n:Nat) (ad:Nat->Addr) (w:World) (hw:word.size<=1048576) (hn:n<=16) (h0:w.cell? ⟨2,0,none⟩=some (.iface 307 (.pointer (some (ad 0))))) (h6:w.cell? ⟨1,0,none⟩=some (.iface 307 (.pointer (some (ad 6))))) (h25:22<=w.heap.size):
  Calls prog 90 #[.string word,.int .i64 n] w (zul w ad (zlt (zcv word)) n):=by
 obtain ⟨W0,hW0,HW0,b0,q0⟩:=boxed w #[.int .i64 0,.int .i64 0,.int .i64 0,.int .i64 0,.nilFunc] 122;have HC:=hid fun W=>zrp W;have HN:=hid fun W=>zjz word W hw;have HL:=hid fun W0 W b (h:zuw W0 b W)=>yci h (zcv word) (by rw [zxe];exact hw);have HB0:Hid (Bl w W0/\zab W0 w.heap.size 122 #[.int .i64 0,.int .i64 0,.int .i64 0,.int .i64 0,.nilFunc]):=⟨b0,q0⟩;have H06:Hid (∀W,Bl w W->W.cell? ⟨2,0,none⟩=some (.iface 307 (.pointer (some (ad 0))))/\W.cell? ⟨1,0,none⟩=some (.iface 307 (.pointer (some (ad 6))))):=fun W hb=>⟨(hb.cell (p:=⟨2,0,none⟩) (by show 2<_;omega)).trans h0,(hb.cell (p:=⟨1,0,none⟩) (by show 1<_;omega)).trans h6⟩;have HT:=hid fun W W' b (h:zuw W b W')=>h.2;have HTB:=hid fun W W' W'' b (h:zuw W b W') (hb:Bl W' W'')=>h.bw hb;clear b0 q0 h0 h6 hw;generalize zcv word=nm at*;cases hoc:zlt nm with
 |none=>
  rw [hoc] at HL;have HL:Hid (∀W0 W b,zuw W0 b W->(Instr.lookup 162 (.map (some b)) (.string nm) true).run prog W= .ok (.tuple #[.agg #[.int .i64 0,.int .i64 0,.int .i64 0,.int .i64 0,.nilFunc],.bool false]) W):=HL;clear hoc;go_enter func90,ntmps90;go_wp2_with fail;refine (HC.out _).mono ?_;rintro e w1 ⟨b,rfl,t1⟩;have T1:Hid (zuw W0 b w1):=t1;clear t1 HC;go_wp2_with fail;refine (HN.out _).mono ?_;rintro e w2 ⟨rfl,b2⟩;have hlk:=HL.out _ _ _ (HTB.out _ _ _ _ T1.out b2);have HB2:Hid (Bl W0 w2):=(HT.out _ _ _ T1.out).trans (b2.mono (HT.out _ _ _ T1.out).size);clear b2 HN HL T1;obtain ⟨W3,hW3,HW3,b3,q3⟩:=boxed w2 #[.int .i64 0,.int .i64 0,.int .i64 0,.int .i64 0,.nilFunc] 122;have y0:=q3.cell 0;have y1:=q3.cell 1;have y2:=q3.cell 2;have y3:=q3.cell 3;have y4:=q3.cell 4;have z0:=q3.frozen 0;have z1:=q3.frozen 1;have z2:=q3.frozen 2;have z3:=q3.frozen 3;have z4:=q3.frozen 4;simp only [Qm,Qk,Ql] at y0 y1 y2 y3 y4;have hsN:=fun (a:Addr) (w:World)=>run_store prog w a .nilFunc .plain rfl;have hl:=Qc w2.heap.size;have b4:Bl w2 (((((W3.setCell ⟨w2.heap.size,0,none⟩ (.int .i64 0)).setCell ⟨w2.heap.size,1,none⟩ (.int .i64 0)).setCell ⟨w2.heap.size,2,none⟩ (.int .i64 0)).setCell ⟨w2.heap.size,3,none⟩ (.int .i64 0)).setCell ⟨w2.heap.size,4,none⟩ .nilFunc):=((((b3.setCell hl _).setCell hl _).setCell hl _).setCell hl _).setCell hl _;have r3:=yfq (c0:=(.int .i64 0)) (c1:=(.int .i64 0)) (c2:=(.int .i64 0)) (c3:=(.int .i64 0)) (c4:= .nilFunc) q3;obtain ⟨W4,hW4⟩:∃W4,(((((W3.setCell ⟨w2.heap.size,0,none⟩ (.int .i64 0)).setCell ⟨w2.heap.size,1,none⟩ (.int .i64 0)).setCell ⟨w2.heap.size,2,none⟩ (.int .i64 0)).setCell ⟨w2.heap.size,3,none⟩ (.int .i64 0)).setCell ⟨w2.heap.size,4,none⟩ .nilFunc)=W4:=⟨_,rfl⟩;rw [hW4] at b4 r3;have b04:Bl W0 W4:=HB2.out.trans (b4.mono HB2.out.size);have hbw4:Bl w W4:=HB0.out.1.trans (b04.mono HB0.out.1.size);have r4:zab W4 w.heap.size 122 #[.int .i64 0,.int .i64 0,.int .i64 0,.int .i64 0,.nilFunc]:=HB0.out.2.bw b04 HB0.out.2.lt;have HB4:Hid (Bl w W4/\zab W4 w.heap.size 122 #[.int .i64 0,.int .i64 0,.int .i64 0,.int .i64 0,.nilFunc]/\zab W4 w2.heap.size 122 #[.int .i64 0,.int .i64 0,.int .i64 0,.int .i64 0,.nilFunc]):=⟨hbw4,r4,r3⟩;clear b4 b04 hbw4 b3 q3 HB2 HB0 r3;have u0:=r4.cell 0;have u1:=r4.cell 1;have u2:=r4.cell 2;have u3:=r4.cell 3;have u4:=r4.cell 4;have v0:=r4.frozen 0;have v1:=r4.frozen 1;have v2:=r4.frozen 2;have v3:=r4.frozen 3;have v4:=r4.frozen 4;have hlt:=r4.lt;simp only [Qm,Qk,Ql] at u0 u1 u2 u3 u4;clear r4;obtain ⟨e0,e6⟩:=H06.out W4 HB4.out.1;have rz:=yfq (c0:=(.int .i64 0)) (c1:=(.int .i64 0)) (c2:=(.int .i64 0)) (c3:=(.int .i64 0)) (c4:= .nilFunc) HB4.out.2.1;have hl2:=Qc w.heap.size;have bz:Bl w (((((W4.setCell ⟨w.heap.size,0,none⟩ (.int .i64 0)).setCell ⟨w.heap.size,1,none⟩ (.int .i64 0)).setCell ⟨w.heap.size,2,none⟩ (.int .i64 0)).setCell ⟨w.heap.size,3,none⟩ (.int .i64 0)).setCell ⟨w.heap.size,4,none⟩ .nilFunc):=((((HB4.out.1.setCell hl2 _).setCell hl2 _).setCell hl2 _).setCell hl2 _).setCell hl2 _;have hsz:(((((W4.setCell ⟨w.heap.size,0,none⟩ (.int .i64 0)).setCell ⟨w.heap.size,1,none⟩ (.int .i64 0)).setCell ⟨w.heap.size,2,none⟩ (.int .i64 0)).setCell ⟨w.heap.size,3,none⟩ (.int .i64 0)).setCell ⟨w.heap.size,4,none⟩ .nilFunc).heap.size=W4.heap.size:=by simp
  have HZ:Hid (zab ((((((W4.setCell ⟨w.heap.size,0,none⟩ (.int .i64 0)).setCell ⟨w.heap.size,1,none⟩ (.int .i64 0)).setCell ⟨w.heap.size,2,none⟩ (.int .i64 0)).setCell ⟨w.heap.size,3,none⟩ (.int .i64 0)).setCell ⟨w.heap.size,4,none⟩ .nilFunc).alloc (.cells #[.iface 307 (.pointer (some (ad 6)))] 127)).drew w.heap.size 122 #[.int .i64 0,.int .i64 0,.int .i64 0,.int .i64 0,.nilFunc]/\Bl w ((((((W4.setCell ⟨w.heap.size,0,none⟩ (.int .i64 0)).setCell ⟨w.heap.size,1,none⟩ (.int .i64 0)).setCell ⟨w.heap.size,2,none⟩ (.int .i64 0)).setCell ⟨w.heap.size,3,none⟩ (.int .i64 0)).setCell ⟨w.heap.size,4,none⟩ .nilFunc).alloc (.cells #[.iface 307 (.pointer (some (ad 6)))] 127)).drew/\((((((W4.setCell ⟨w.heap.size,0,none⟩ (.int .i64 0)).setCell ⟨w.heap.size,1,none⟩ (.int .i64 0)).setCell ⟨w.heap.size,2,none⟩ (.int .i64 0)).setCell ⟨w.heap.size,3,none⟩ (.int .i64 0)).setCell ⟨w.heap.size,4,none⟩ .nilFunc).alloc (.cells #[.iface 307 (.pointer (some (ad 6)))] 127)).drew.cell? ⟨W4.heap.size,0,none⟩=some (.iface 307 (.pointer (some (ad 6))))):=zyx bz rz hsz _ bz.size;have HSZ:Hid (w.heap.size<=W4.heap.size):=HB4.out.1.size;clear rz bz hsz H06 HB4;have hl6:6<W4.heap.size:=by have:=HSZ.out;omega
  have hl0:0<W4.heap.size:=by have:=HSZ.out;omega
  go_upto_region 3 with fail;go_region;go_wp2;refine bodyPost_ret (ygs rfl rfl HZ.out.1) rfl ?_;exact ⟨HZ.out.2.1,⟨_,rfl,_,rfl,HSZ.out,HZ.out.2.2⟩⟩
 |some c=>
  rw [hoc] at HL;obtain ⟨s1,s2,s3,s4⟩:=yj3 c;have HK:Hid (∀W,Cp 127 #[.agg #[.int .i64 (zfs c).tk.lo,.int .i64 (zfs c).tk.hi,.int .i64 (zfs c).tk.st],.int .i64 n] W fun e w'=>e= .returned (.bool (c.fits n))/\Bl W w'):=fun W=>by
   rw [<-yi2 c hn];exact zqj _ _ _ n s3 s1 s2 s4 hn W
  have HFT:Hid (∃q,c.fits n=q):=⟨_,rfl⟩;obtain ⟨q,hq⟩:=HFT.out;have HFT:=hid hq;rw [hq] at HK;have HL:Hid (∀W0 W b,zuw W0 b W->(Instr.lookup 162 (.map (some b)) (.string nm) true).run prog W= .ok (.tuple #[.agg #[.int .i64 (zfs c).kd,.int .i64 (zfs c).tk.lo,.int .i64 (zfs c).tk.hi,.int .i64 (zfs c).tk.st,.func (.func (zfs c).fn) #[] #[]],.bool true]) W):=HL;have HVAL:Hid (c.fits n=true->∀w',Bl w w'->zul w ad (some c) n (.returned (.tuple #[.agg #[.int .i64 (zfs c).kd,.int .i64 (zfs c).tk.lo,.int .i64 (zfs c).tk.hi,.int .i64 (zfs c).tk.st,.func (.func (zfs c).fn) #[] #[]],.nilIface])) w'):=fun h w' hb=>yhi h hb rfl;clear hoc hq s1 s2 s3 s4;generalize ((zfs c).kd:Int)=kd,((zfs c).tk.lo:Int)=lo,((zfs c).tk.hi:Int)=hi,((zfs c).tk.st:Int)=st,(zfs c).fn=f at*;have hsF:=fun (a:Addr) (w:World)=>run_store prog w a (.func (.func f) #[] #[]) .plain rfl;cases q with
  |false=>
   go_enter func90,ntmps90;go_wp2_with fail;refine (HC.out _).mono ?_;rintro e w1 ⟨b,rfl,t1⟩;have T1:Hid (zuw W0 b w1):=t1;clear t1 HC;go_wp2_with fail;refine (HN.out _).mono ?_;rintro e w2 ⟨rfl,b2⟩;have hlk:=HL.out _ _ _ (HTB.out _ _ _ _ T1.out b2);have HB2:Hid (Bl W0 w2):=(HT.out _ _ _ T1.out).trans (b2.mono (HT.out _ _ _ T1.out).size);clear b2 HN HL T1;obtain ⟨W3,hW3,HW3,b3,q3⟩:=boxed w2 #[.int .i64 0,.int .i64 0,.int .i64 0,.int .i64 0,.nilFunc] 122;have y0:=q3.cell 0;have y1:=q3.cell 1;have y2:=q3.cell 2;have y3:=q3.cell 3;have y4:=q3.cell 4;have z0:=q3.frozen 0;have z1:=q3.frozen 1;have z2:=q3.frozen 2;have z3:=q3.frozen 3;have z4:=q3.frozen 4;simp only [Qm,Qk,Ql] at y0 y1 y2 y3 y4;have hsN:=fun (a:Addr) (w:World)=>run_store prog w a .nilFunc .plain rfl;have hl:=Qc w2.heap.size;have b4:Bl w2 (((((W3.setCell ⟨w2.heap.size,0,none⟩ (.int .i64 kd)).setCell ⟨w2.heap.size,1,none⟩ (.int .i64 lo)).setCell ⟨w2.heap.size,2,none⟩ (.int .i64 hi)).setCell ⟨w2.heap.size,3,none⟩ (.int .i64 st)).setCell ⟨w2.heap.size,4,none⟩ (.func (.func f) #[] #[])):=((((b3.setCell hl _).setCell hl _).setCell hl _).setCell hl _).setCell hl _;have r3:=yfq (c0:=(.int .i64 kd)) (c1:=(.int .i64 lo)) (c2:=(.int .i64 hi)) (c3:=(.int .i64 st)) (c4:=(.func (.func f) #[] #[])) q3;obtain ⟨W4,hW4⟩:∃W4,(((((W3.setCell ⟨w2.heap.size,0,none⟩ (.int .i64 kd)).setCell ⟨w2.heap.size,1,none⟩ (.int .i64 lo)).setCell ⟨w2.heap.size,2,none⟩ (.int .i64 hi)).setCell ⟨w2.heap.size,3,none⟩ (.int .i64 st)).setCell ⟨w2.heap.size,4,none⟩ (.func (.func f) #[] #[]))=W4:=⟨_,rfl⟩;rw [hW4] at b4 r3;have b04:Bl W0 W4:=HB2.out.trans (b4.mono HB2.out.size);have hbw4:Bl w W4:=HB0.out.1.trans (b04.mono HB0.out.1.size);have r4:zab W4 w.heap.size 122 #[.int .i64 0,.int .i64 0,.int .i64 0,.int .i64 0,.nilFunc]:=HB0.out.2.bw b04 HB0.out.2.lt;have HB4:Hid (Bl w W4/\zab W4 w.heap.size 122 #[.int .i64 0,.int .i64 0,.int .i64 0,.int .i64 0,.nilFunc]/\zab W4 w2.heap.size 122 #[.int .i64 kd,.int .i64 lo,.int .i64 hi,.int .i64 st,.func (.func f) #[] #[]]):=⟨hbw4,r4,r3⟩;have x0:=r3.cell 0;have x1:=r3.cell 1;have x2:=r3.cell 2;have x3:=r3.cell 3;have x4:=r3.cell 4;simp only [Qm,Qk,Ql] at x0 x1 x2 x3 x4;clear b4 b04 hbw4 r4 b3 q3 HB2 HB0 r3;go_wp2_with fail;refine (HK.out _).mono ?_;rintro e w5 ⟨rfl,b5⟩;have HB5:Hid (Bl w w5/\zab w5 w.heap.size 122 #[.int .i64 0,.int .i64 0,.int .i64 0,.int .i64 0,.nilFunc]/\zab w5 w2.heap.size 122 #[.int .i64 kd,.int .i64 lo,.int .i64 hi,.int .i64 st,.func (.func f) #[] #[]]):=⟨HB4.out.1.trans (b5.mono HB4.out.1.size),HB4.out.2.1.bw b5 HB4.out.2.1.lt,HB4.out.2.2.bw b5 HB4.out.2.2.lt⟩;clear b5 HK HB4 hlk y0 y1 y2 y3 y4 z0 z1 z2 z3 z4 hW3 HW3 hW4 HT HTB hW0 HW0 x0 x1 x2 x3 x4;have r4:=HB5.out.2.1;have u0:=r4.cell 0;have u1:=r4.cell 1;have u2:=r4.cell 2;have u3:=r4.cell 3;have u4:=r4.cell 4;have v0:=r4.frozen 0;have v1:=r4.frozen 1;have v2:=r4.frozen 2;have v3:=r4.frozen 3;have v4:=r4.frozen 4;have hlt:=r4.lt;simp only [Qm,Qk,Ql] at u0 u1 u2 u3 u4;clear r4;obtain ⟨e0,e6⟩:=H06.out w5 HB5.out.1;have rz:=yfq (c0:=(.int .i64 0)) (c1:=(.int .i64 0)) (c2:=(.int .i64 0)) (c3:=(.int .i64 0)) (c4:= .nilFunc) HB5.out.2.1;have hl2:=Qc w.heap.size;have bz:Bl w (((((w5.setCell ⟨w.heap.size,0,none⟩ (.int .i64 0)).setCell ⟨w.heap.size,1,none⟩ (.int .i64 0)).setCell ⟨w.heap.size,2,none⟩ (.int .i64 0)).setCell ⟨w.heap.size,3,none⟩ (.int .i64 0)).setCell ⟨w.heap.size,4,none⟩ .nilFunc):=((((HB5.out.1.setCell hl2 _).setCell hl2 _).setCell hl2 _).setCell hl2 _).setCell hl2 _;have hsz:(((((w5.setCell ⟨w.heap.size,0,none⟩ (.int .i64 0)).setCell ⟨w.heap.size,1,none⟩ (.int .i64 0)).setCell ⟨w.heap.size,2,none⟩ (.int .i64 0)).setCell ⟨w.heap.size,3,none⟩ (.int .i64 0)).setCell ⟨w.heap.size,4,none⟩ .nilFunc).heap.size=w5.heap.size:=by simp
   have HZ:Hid (zab ((((((w5.setCell ⟨w.heap.size,0,none⟩ (.int .i64 0)).setCell ⟨w.heap.size,1,none⟩ (.int .i64 0)).setCell ⟨w.heap.size,2,none⟩ (.int .i64 0)).setCell ⟨w.heap.size,3,none⟩ (.int .i64 0)).setCell ⟨w.heap.size,4,none⟩ .nilFunc).alloc (.cells #[.iface 307 (.pointer (some (ad 0)))] 127)).drew w.heap.size 122 #[.int .i64 0,.int .i64 0,.int .i64 0,.int .i64 0,.nilFunc]/\Bl w ((((((w5.setCell ⟨w.heap.size,0,none⟩ (.int .i64 0)).setCell ⟨w.heap.size,1,none⟩ (.int .i64 0)).setCell ⟨w.heap.size,2,none⟩ (.int .i64 0)).setCell ⟨w.heap.size,3,none⟩ (.int .i64 0)).setCell ⟨w.heap.size,4,none⟩ .nilFunc).alloc (.cells #[.iface 307 (.pointer (some (ad 0)))] 127)).drew/\((((((w5.setCell ⟨w.heap.size,0,none⟩ (.int .i64 0)).setCell ⟨w.heap.size,1,none⟩ (.int .i64 0)).setCell ⟨w.heap.size,2,none⟩ (.int .i64 0)).setCell ⟨w.heap.size,3,none⟩ (.int .i64 0)).setCell ⟨w.heap.size,4,none⟩ .nilFunc).alloc (.cells #[.iface 307 (.pointer (some (ad 0)))] 127)).drew.cell? ⟨w5.heap.size,0,none⟩=some (.iface 307 (.pointer (some (ad 0))))):=zyx bz rz hsz _ bz.size;have HSZ:Hid (w.heap.size<=w5.heap.size):=HB5.out.1.size;clear rz bz hsz H06 HB5;have hl6:6<w5.heap.size:=by have:=HSZ.out;omega
   have hl0:0<w5.heap.size:=by have:=HSZ.out;omega
   go_upto_region 5 with fail;go_region;go_wp2;refine bodyPost_ret (ygs rfl rfl HZ.out.1) rfl ?_;exact yir HFT.out HZ.out.2.1 ⟨_,rfl,HSZ.out,HZ.out.2.2⟩
  |true=>
   go_enter func90,ntmps90;go_wp2_with fail;refine (HC.out _).mono ?_;rintro e w1 ⟨b,rfl,t1⟩;have T1:Hid (zuw W0 b w1):=t1;clear t1 HC;go_wp2_with fail;refine (HN.out _).mono ?_;rintro e w2 ⟨rfl,b2⟩;have hlk:=HL.out _ _ _ (HTB.out _ _ _ _ T1.out b2);have HB2:Hid (Bl W0 w2):=(HT.out _ _ _ T1.out).trans (b2.mono (HT.out _ _ _ T1.out).size);clear b2 HN HL T1;obtain ⟨W3,hW3,HW3,b3,q3⟩:=boxed w2 #[.int .i64 0,.int .i64 0,.int .i64 0,.int .i64 0,.nilFunc] 122;have y0:=q3.cell 0;have y1:=q3.cell 1;have y2:=q3.cell 2;have y3:=q3.cell 3;have y4:=q3.cell 4;have z0:=q3.frozen 0;have z1:=q3.frozen 1;have z2:=q3.frozen 2;have z3:=q3.frozen 3;have z4:=q3.frozen 4;simp only [Qm,Qk,Ql] at y0 y1 y2 y3 y4;have hsN:=fun (a:Addr) (w:World)=>run_store prog w a .nilFunc .plain rfl;have hl:=Qc w2.heap.size;have b4:Bl w2 (((((W3.setCell ⟨w2.heap.size,0,none⟩ (.int .i64 kd)).setCell ⟨w2.heap.size,1,none⟩ (.int .i64 lo)).setCell ⟨w2.heap.size,2,none⟩ (.int .i64 hi)).setCell ⟨w2.heap.size,3,none⟩ (.int .i64 st)).setCell ⟨w2.heap.size,4,none⟩ (.func (.func f) #[] #[])):=((((b3.setCell hl _).setCell hl _).setCell hl _).setCell hl _).setCell hl _;have r3:=yfq (c0:=(.int .i64 kd)) (c1:=(.int .i64 lo)) (c2:=(.int .i64 hi)) (c3:=(.int .i64 st)) (c4:=(.func (.func f) #[] #[])) q3;obtain ⟨W4,hW4⟩:∃W4,(((((W3.setCell ⟨w2.heap.size,0,none⟩ (.int .i64 kd)).setCell ⟨w2.heap.size,1,none⟩ (.int .i64 lo)).setCell ⟨w2.heap.size,2,none⟩ (.int .i64 hi)).setCell ⟨w2.heap.size,3,none⟩ (.int .i64 st)).setCell ⟨w2.heap.size,4,none⟩ (.func (.func f) #[] #[]))=W4:=⟨_,rfl⟩;rw [hW4] at b4 r3;have b04:Bl W0 W4:=HB2.out.trans (b4.mono HB2.out.size);have hbw4:Bl w W4:=HB0.out.1.trans (b04.mono HB0.out.1.size);have r4:zab W4 w.heap.size 122 #[.int .i64 0,.int .i64 0,.int .i64 0,.int .i64 0,.nilFunc]:=HB0.out.2.bw b04 HB0.out.2.lt;have HB4:Hid (Bl w W4/\zab W4 w.heap.size 122 #[.int .i64 0,.int .i64 0,.int .i64 0,.int .i64 0,.nilFunc]/\zab W4 w2.heap.size 122 #[.int .i64 kd,.int .i64 lo,.int .i64 hi,.int .i64 st,.func (.func f) #[] #[]]):=⟨hbw4,r4,r3⟩;have x0:=r3.cell 0;have x1:=r3.cell 1;have x2:=r3.cell 2;have x3:=r3.cell 3;have x4:=r3.cell 4;simp only [Qm,Qk,Ql] at x0 x1 x2 x3 x4;clear b4 b04 hbw4 r4 b3 q3 HB2 HB0 r3;go_wp2_with fail;refine (HK.out _).mono ?_;rintro e w5 ⟨rfl,b5⟩;have HB5:Hid (Bl w w5/\zab w5 w.heap.size 122 #[.int .i64 0,.int .i64 0,.int .i64 0,.int .i64 0,.nilFunc]/\zab w5 w2.heap.size 122 #[.int .i64 kd,.int .i64 lo,.int .i64 hi,.int .i64 st,.func (.func f) #[] #[]]):=⟨HB4.out.1.trans (b5.mono HB4.out.1.size),HB4.out.2.1.bw b5 HB4.out.2.1.lt,HB4.out.2.2.bw b5 HB4.out.2.2.lt⟩;clear b5 HK HB4 hlk y0 y1 y2 y3 y4 z0 z1 z2 z3 z4 hW3 HW3 hW4 HT HTB hW0 HW0 x0 x1 x2 x3 x4;have r4:=HB5.out.2.1;have u0:=r4.cell 0;have u1:=r4.cell 1;have u2:=r4.cell 2;have u3:=r4.cell 3;have u4:=r4.cell 4;have v0:=r4.frozen 0;have v1:=r4.frozen 1;have v2:=r4.frozen 2;have v3:=r4.frozen 3;have v4:=r4.frozen 4;have hlt:=r4.lt;simp only [Qm,Qk,Ql] at u0 u1 u2 u3 u4;clear r4;have r6:=HB5.out.2.2;have x0:=r6.cell 0;have x1:=r6.cell 1;have x2:=r6.cell 2;have x3:=r6.cell 3;have x4:=r6.cell 4;simp only [Qm,Qk,Ql] at x0 x1 x2 x3 x4;have rz:=yfq (c0:=(.int .i64 kd)) (c1:=(.int .i64 lo)) (c2:=(.int .i64 hi)) (c3:=(.int .i64 st)) (c4:=(.func (.func f) #[] #[])) HB5.out.2.1;have hl2:=Qc w.heap.size;have bz:Bl w (((((w5.setCell ⟨w.heap.size,0,none⟩ (.int .i64 kd)).setCell ⟨w.heap.size,1,none⟩ (.int .i64 lo)).setCell ⟨w.heap.size,2,none⟩ (.int .i64 hi)).setCell ⟨w.heap.size,3,none⟩ (.int .i64 st)).setCell ⟨w.heap.size,4,none⟩ (.func (.func f) #[] #[])):=((((HB5.out.1.setCell hl2 _).setCell hl2 _).setCell hl2 _).setCell hl2 _).setCell hl2 _;have HZ:Hid (zab (((((w5.setCell ⟨w.heap.size,0,none⟩ (.int .i64 kd)).setCell ⟨w.heap.size,1,none⟩ (.int .i64 lo)).setCell ⟨w.heap.size,2,none⟩ (.int .i64 hi)).setCell ⟨w.heap.size,3,none⟩ (.int .i64 st)).setCell ⟨w.heap.size,4,none⟩ (.func (.func f) #[] #[])) w.heap.size 122 #[.int .i64 kd,.int .i64 lo,.int .i64 hi,.int .i64 st,.func (.func f) #[] #[]]/\Bl w (((((w5.setCell ⟨w.heap.size,0,none⟩ (.int .i64 kd)).setCell ⟨w.heap.size,1,none⟩ (.int .i64 lo)).setCell ⟨w.heap.size,2,none⟩ (.int .i64 hi)).setCell ⟨w.heap.size,3,none⟩ (.int .i64 st)).setCell ⟨w.heap.size,4,none⟩ (.func (.func f) #[] #[]))):=⟨rz,bz⟩;clear rz bz r6;go_wp2;refine bodyPost_ret (ygs rfl rfl HZ.out.1) rfl ?_;exact HVAL.out HFT.out _ HZ.out.2
end Go.Proofs.YtokafonppgppdaaGreatDoor.Rb
