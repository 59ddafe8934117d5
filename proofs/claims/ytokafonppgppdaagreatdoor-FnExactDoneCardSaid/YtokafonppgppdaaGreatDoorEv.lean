import Derived.Test.YtokafonppgppdaaGreatDoorR56
import Derived.Test.YtokafonppgppdaaGreatDoorRows
import Derived.HandedShaped
import Derived.LaidMore
import Derived.LaidSub
import Derived.SevenTiedAt
import Derived.Stop.LaidTwo
import Derived.OpenVars
set_option maxHeartbeats 4000000
set_option maxRecDepth 100000
namespace Go.Proofs.YtokafonppgppdaaGreatDoor
namespace Ev
open _root_.Go.Proofs.Tryz
open Go.RowKit
variable {W:World} {s t:ByteArray}
theorem own:ownKnob prog.godebug=none:=by kernel_rfl
theorem laidOut:laidOutB prog=true:=by kernel_rfl
theorem ye3:prog.cellsOf 9=1:=by kernel_rfl
theorem zvq:prog.cellsOf 309=1:=by kernel_rfl
theorem yjr:prog.globalNamed "internal/strconv.uint64pow10" =some 10:=by kernel_rfl
theorem ydn:(prog.globals[10]?).map (·.type)=some 283:=by kernel_rfl
theorem yjy:prog.globalNamed "strconv.ErrSyntax" =some 8:=by kernel_rfl
theorem ydz:(prog.globals[8]?).map (·.type)=some 75:=by kernel_rfl
theorem yjh:prog.globalNamed "strconv.ErrRange" =some 9:=by kernel_rfl
theorem yct:(prog.globals[9]?).map (·.type)=some 75:=by kernel_rfl
theorem zvk: "*" ++ "errors.errorString" = "*errors.errorString" :=by decide
theorem yfm(u:TypeId)(h:prog.typeName? 3 u=some "*errors.errorString"):u=307:=
 typeName_ptr_named (nm:= "errors.errorString") (by rw[zvk];kernel_rfl) (by kernel_rfl) (by decide) u (by rw[zvk];exact h)
def Ne:List (String×DataW Unit):=Rows.fnDoneRow.laid
theorem Iw(h:laidMetH prog Ne W):Tab W:=by
 have h1:=h.filter (fun x=>x.1== "internal/strconv.uint64pow10");have e:Ne.filter (fun x=>x.1== "internal/strconv.uint64pow10")=[("internal/strconv.uint64pow10",Lib.tabData .u64 Lib.pow10Tab)]:=by kernel_rfl
 rw[e,MakeChecks.laidMetH_plain _ _ _ (by kernel_rfl)]at h1;exact Lib.tabIs_of_head yjr ydn underlying283 underlying158 (by kernel_rfl) (by kernel_rfl) h1
theorem ziq(h:laidMetH prog Ne W):
  (∃tp p,W.var? prog "strconv.ErrRange" =some #[.iface tp p])/\(∃tp p,W.var? prog "strconv.ErrSyntax" =some #[.iface tp p]):=by
 have h1:=h.filter (fun x=>x.1== "strconv.ErrRange"||x.1== "strconv.ErrSyntax");have e:Ne.filter (fun x=>x.1== "strconv.ErrRange"||x.1== "strconv.ErrSyntax")=[("strconv.ErrRange",Rows.laid_strconv_ErrRange),("strconv.ErrSyntax",Rows.laid_strconv_ErrSyntax)]:=by kernel_rfl
 rw[e,MakeChecks.laidMetH_plain _ _ _ (by kernel_rfl)]at h1;obtain⟨a0,a1,s0,s1,c0,c1,t0,t1,hv0,hv1,_⟩:=laid_sentinels2 h1 yjh yct yjy ydz underlying75 yfm underlying307 underlying309 rfl rfl underlying9 zvq ye3;exact⟨⟨_,_,hv0⟩,⟨_,_,hv1⟩⟩
theorem X0(hsh:W.ShapedOpen prog):22<=W.heap.size:=by
 have h5:(((begin prog (fun _ _=>0) default).world.heap[21]?).bind Obj.row?).isSome=true:=by kernel_rfl
 obtain⟨⟨zero,t⟩,hz⟩:=Option.isSome_iff_exists.1 h5;obtain⟨cs,hh,_,_⟩:=hsh.1 21 zero t (by decide+kernel) hz;have:=(Array.getElem?_eq_some_iff.1 hh).1;omega
theorem ye0(h:laidMetH prog Ne W)(hsh:W.ShapedOpen prog):Ready W:=by
 obtain⟨hr,hsy⟩:=ziq h;exact⟨Iw h,hsy,hr,X0 hsh⟩
theorem zzr(h:laidMetH prog Ne W)(hsh:W.ShapedOpen prog):Fd.Ready W:=by
 obtain⟨hr,hsy⟩:=ziq h;exact⟨Iw h,cell_of_shapedOpen_int (g:=4) (t:=3) (zero:= #[.int .i64 0]) hsh (by decide+kernel) (by kernel_rfl) rfl (by kernel_rfl) (by kernel_rfl) underlying3,hsy,hr,X0 hsh⟩
theorem zu0(h:s.data.toList=t.data.toList):s=t:=by
 obtain⟨⟨l⟩⟩:=s;obtain⟨⟨m⟩⟩:=t;have:l=m:=h;rw[this]
theorem Ux:prog.globalNamed "loop.example/g00302/impl.errKind" =some 0:=by kernel_rfl
theorem U6:(prog.globals[0]?).map (·.type)=some 75:=by kernel_rfl
def Both (W:World) (i:Nat) (t:ByteArray):Prop:=∃a b,Rb.Ny W 5 a Rb.T0/\Rb.Ny W i b t/\b≠a
theorem Uz(h:laidMetH prog Ne W){n0 n1:String}{g0 g1 i0 i1:Nat}{s0 s1:ByteArray}(e:Ne.filter (fun x=>x.1==n0||x.1==n1)=[(n0,.iface "*errors.errorString" (.ptr (.agg [.lit (.string s0.data.toList)]))),(n1,.iface "*errors.errorString" (.ptr (.agg [.lit (.string s1.data.toList)])))])(hg0:prog.globalNamed n0=some g0)(ht0:(prog.globals[g0]?).map (·.type)=some 75)(hg1:prog.globalNamed n1=some g1)(ht1:(prog.globals[g1]?).map (·.type)=some 75)(e0:Rb.gi i0=g0)(e1:Rb.gi i1=g1)(l0:g0<22)(l1:g1<22):∃a0 a1,Rb.Ny W i0 a0 s0/\Rb.Ny W i1 a1 s1/\a0≠a1:=by
 have h1:=h.filter (fun x=>x.1==n0||x.1==n1);rw[e,MakeChecks.laidMetH_plain _ _ _ rfl]at h1;obtain⟨a0,a1,s2,s3,c0,c1,t0,t1,hv0,hv1,q0,q1,_,q3,q4,_,q6,q7,q8⟩:=laid_sentinels2 h1 hg0 ht0 hg1 ht1 underlying75 yfm underlying307 underlying309 rfl rfl underlying9 zvq ye3;obtain rfl:s2=s0:=zu0 q1;obtain rfl:s3=s1:=zu0 q4;subst e0;subst e1;exact⟨a0,a1,⟨World.var?_cell hg0 hv0 0,q0,l0,_,_,q7⟩,⟨World.var?_cell hg1 hv1 0,q3,l1,_,_,q8⟩,q6⟩
theorem yjt(h:laidMetH prog Ne W):Both W 0 Pk:=by
 obtain⟨a,b,x,y,z⟩:=Uz (n0:= "loop.example/g00302/impl.errCount") (n1:= "loop.example/g00302/impl.errKind") (i0:=0) (i1:=5) (s0:=Pk) (s1:=Rb.T0) h (by kernel_rfl) (by kernel_rfl) (by kernel_rfl) Ux U6 rfl rfl (by decide) (by decide);exact⟨b,a,y,x,z⟩
theorem yjo(h:laidMetH prog Ne W):Both W 1 My:=by
 obtain⟨a,b,x,y,z⟩:=Uz (n0:= "loop.example/g00302/impl.errKind") (n1:= "loop.example/g00302/impl.errFull") (i0:=5) (i1:=1) (s0:=Rb.T0) (s1:=My) h (by kernel_rfl) Ux U6 (by kernel_rfl) (by kernel_rfl) rfl rfl (by decide) (by decide);exact⟨a,b,x,y,fun e=>z e.symm⟩
theorem yj8(h:laidMetH prog Ne W):Both W 6 Pz:=by
 obtain⟨a,b,x,y,z⟩:=Uz (n0:= "loop.example/g00302/impl.errUnknown") (n1:= "loop.example/g00302/impl.errKind") (i0:=6) (i1:=5) (s0:=Pz) (s1:=Rb.T0) h (by kernel_rfl) (by kernel_rfl) (by kernel_rfl) Ux U6 rfl rfl (by decide) (by decide);exact⟨b,a,y,x,z⟩
theorem yj0(h:laidMetH prog Ne W):Both W 9 M9:=by
 obtain⟨a,b,x,y,z⟩:=Uz (n0:= "loop.example/g00302/impl.errKind") (n1:= "loop.example/g00302/impl.errExpire") (i0:=5) (i1:=9) (s0:=Rb.T0) (s1:=M9) h (by kernel_rfl) Ux U6 (by kernel_rfl) (by kernel_rfl) rfl rfl (by decide) (by decide);exact⟨a,b,x,y,fun e=>z e.symm⟩
theorem yi6(h:laidMetH prog Ne W):Both W 10 On:=by
 obtain⟨a,b,x,y,z⟩:=Uz (n0:= "loop.example/g00302/impl.errKind") (n1:= "loop.example/g00302/impl.errRange") (i0:=5) (i1:=10) (s0:=Rb.T0) (s1:=On) h (by kernel_rfl) Ux U6 (by kernel_rfl) (by kernel_rfl) rfl rfl (by decide) (by decide);exact⟨a,b,x,y,fun e=>z e.symm⟩
theorem yi3(h:laidMetH prog Ne W):Both W 11 Rq:=by
 obtain⟨a,b,x,y,z⟩:=Uz (n0:= "loop.example/g00302/impl.errKind") (n1:= "loop.example/g00302/impl.errSyntax") (i0:=5) (i1:=11) (s0:=Rb.T0) (s1:=Rq) h (by kernel_rfl) Ux U6 (by kernel_rfl) (by kernel_rfl) rfl rfl (by decide) (by decide);exact⟨a,b,x,y,fun e=>z e.symm⟩
theorem yh3(h:laidMetH prog Ne W):Both W 12 F3:=by
 obtain⟨a,b,x,y,z⟩:=Uz (n0:= "loop.example/g00302/impl.errKind") (n1:= "loop.example/g00302/impl.errInteger") (i0:=5) (i1:=12) (s0:=Rb.T0) (s1:=F3) h (by kernel_rfl) Ux U6 (by kernel_rfl) (by kernel_rfl) rfl rfl (by decide) (by decide);exact⟨a,b,x,y,fun e=>z e.symm⟩
theorem Wr{a b:Addr}(h:Rb.Ny W 5 a s)(h':Rb.Ny W 5 b t):b=a:=by
 have e:=h'.v.symm.trans h.v;injection e with e;injection e with _ e;injection e with e;injection e
theorem zw4:((List.range prog.types.size).all fun t=>!(prog.rowNamed t [101,114,114,111,114])||t==75)=true:=by kernel_rfl
theorem yh8:prog.globalNamed "errors.errorType" =some 3:=by kernel_rfl
theorem ygi(h:laidMetH prog Ne W):W.cell? ⟨3,0,none⟩=some (.iface 215 (.agg #[.pointer (some ⟨22,75,none⟩)])):=by
 have h1:=h.filter (fun x=>x.1== "errors.errorType");have e:Ne.filter (fun x=>x.1== "errors.errorType")=[("errors.errorType",Rows.laid_errors_errorType)]:=by kernel_rfl
 rw[e]at h1;have h2:handlesMet prog [("errors.errorType",Rows.laid_errors_errorType)] W:=h1.2;obtain⟨name,u,ty,e1,e2,h3,h4,h5⟩:=h2 _ (List.mem_singleton.2 rfl);have en:name=[101,114,114,111,114]:=by
  have:(Rows.laid_errors_errorType:DataW Unit).handleName?=some [101,114,114,111,114]:=by kernel_rfl
  rw[this]at e1;injection e1 with e1;exact e1.symm
 have eu:u=215:=by
  have:(prog.cutTypes.find? (·.1== "internal/reflectlite.rtype")).map (·.2)=some 215:=by kernel_rfl
  rw[this]at e2;injection e2 with e2;exact e2.symm
 subst en;subst eu;have hty:ty=75:=by
  have:=List.all_eq_true.1 zw4 ty (List.mem_range.2 h3);rw[h4]at this;simpa using this
 subst hty;exact World.var?_cell yh8 h5 0
theorem yhj(h:laidMetH prog Ne W)(hsh:W.ShapedOpen prog):∃ad,Rb.Px W ad:=by
 have hR:=ye0 h hsh;have hF:=zzr h hsh;have h22:=X0 hsh;obtain⟨a,b0,k,v0,n0⟩:=yjt h;obtain⟨a1,b1,k1,v1,n1⟩:=yjo h;obtain rfl:=Wr k k1;obtain⟨a6,b6,k6,v6,n6⟩:=yj8 h;obtain rfl:=Wr k k6;obtain⟨a9,b9,k9,v9,n9⟩:=yj0 h;obtain rfl:=Wr k k9;obtain⟨a10,b10,k10,v10,n10⟩:=yi6 h;obtain rfl:=Wr k k10;obtain⟨a11,b11,k11,v11,n11⟩:=yi3 h;obtain rfl:=Wr k k11;obtain⟨a12,b12,k12,v12,n12⟩:=yh3 h;obtain rfl:=Wr k k12;refine⟨fun i=>match i with|0=>b0|1=>b1|6=>b6|9=>b9|10=>b10|11=>b11|12=>b12|_=>a12,⟨⟨hR,hF,fun i hi=>?_,h22⟩,fun i hi=>?_⟩,fun i hi=>?_,fun i hi=>?_,ygi h⟩
 ·rcases hi with rfl|rfl|rfl|rfl|rfl
  ·exact⟨v1,v1.low⟩
  ·exact⟨v9,v9.low⟩
  ·exact⟨v10,v10.low⟩
  ·exact⟨v11,v11.low⟩
  ·exact⟨v12,v12.low⟩
 ·rcases hi with rfl|rfl|rfl
  ·exact v0.v
  ·exact k.v
  ·exact v6.v
 ·rcases hi with rfl|rfl|rfl
  ·exact v0
  ·exact k
  ·exact v6
 ·rcases hi with rfl|rfl|rfl|rfl|rfl|rfl|rfl
  ·exact n0
  ·exact n1
  ·exact n6
  ·exact n9
  ·exact n10
  ·exact n11
  ·exact n12
end Ev
end Go.Proofs.YtokafonppgppdaaGreatDoor
