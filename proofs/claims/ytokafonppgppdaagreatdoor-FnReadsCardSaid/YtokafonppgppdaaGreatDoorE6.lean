import Derived.Test.YtokafonppgppdaaGreatDoorG2
import Derived.Test.YtokafonppgppdaaGreatDoorHb
import Derived.Stop.Asserts
set_option maxHeartbeats 4000000
set_option maxRecDepth 100000
namespace Go.Proofs.YtokafonppgppdaaGreatDoor.Er
open Tryz
open Go.RowKit Go.Extern.Stop Go.Stop Go.Extern
theorem zux (v:Value) (w:World):(Extern.ReflectliteType.typeOf #[.iface 307 v]).run prog w= .ok (.iface 215 (.agg #[.pointer (some ⟨22,307,none⟩)])) w:=by kernel_rfl
theorem zj4 (w:World):((Extern.ReflectliteType.method fun t=>do Extern.Rtype.noPackHeld "Comparable" t;pure (.bool (<-typeInfo t).comparable)) #[.agg #[.pointer (some ⟨22,307,none⟩)]]).run prog w= .ok (.bool true) w:=by kernel_rfl
theorem zf1 (v:Value) (w:World):(Go.method 482 215 v "Comparable").run prog w= .ok (359,v) w:=by kernel_rfl
theorem ye7:(prog.info? 307).map (·.comparable)=some true:=by kernel_rfl
theorem ye2:(prog.info? 309).map (·.size)=some 1:=by kernel_rfl
section
variable (v:Value) (xT:TypeId) (w:World)
theorem yjs:(Instr.typeAssert (.iface 307 v) xT 217 true).run prog w= .ok (.tuple #[.nilIface,.bool false]) w:=run_typeAssert_lacksB underlying217 (by kernel_rfl) (by kernel_rfl) v xT w
theorem zzu:(Instr.typeAssert (.iface 307 v) xT 220 true).run prog w= .ok (.tuple #[.nilIface,.bool false]) w:=run_typeAssert_lacksB underlying220 (by kernel_rfl) (by kernel_rfl) v xT w
theorem zw1:(Instr.typeAssert (.iface 307 v) xT 222 true).run prog w= .ok (.tuple #[.nilIface,.bool false]) w:=run_typeAssert_lacksB underlying222 (by kernel_rfl) (by kernel_rfl) v xT w
theorem yim:(Instr.typeAssert (.iface 125 v) xT 217 true).run prog w= .ok (.tuple #[.nilIface,.bool false]) w:=run_typeAssert_lacksB underlying217 (by kernel_rfl) (by kernel_rfl) v xT w
theorem zno:(Instr.typeAssert (.iface 125 v) xT 220 true).run prog w= .ok (.tuple #[.iface 125 v,.bool true]) w:=run_typeAssert_hasB underlying220 (by kernel_rfl) v xT w
end
section
variable (v:Value) (w:World)
theorem zj5:(Go.method 482 125 v "Unwrap").run prog w= .ok (353,v) w:=by kernel_rfl
theorem zjs:(Go.method 482 125 v "Error").run prog w= .ok (352,v) w:=by kernel_rfl
theorem zjy:(Go.method 482 307 v "Error").run prog w= .ok (390,v) w:=by kernel_rfl
end
theorem yc8 (pb po:Nat) (b a:Addr) (ca cb:Array Value) (ta tb:TypeId) (w:World) (h1:w.cell? ⟨pb,po,none⟩=some (.iface 307 (.pointer (some a)))) (hne:a≠b) (ha:w.heap[a.block]?=some (.cells ca ta (0,0))) (hb:w.heap[b.block]?=some (.cells cb tb (0,0))):
  Calls prog 92 #[.iface 125 (.pointer (some ⟨pb,po,none⟩)),.iface 307 (.pointer (some b))] w fun e w'=>e= .returned (.bool false)/\w'=w:=by
 obtain ⟨i,hi,hcmp⟩:=Option.map_eq_some_iff.1 ye7;obtain ⟨j,hj,hjs⟩:=Option.map_eq_some_iff.1 ye2;have h8:=@run_callFunc_extern prog 128 _ Extern.ReflectliteType.typeOf func128 (by kernel_rfl) (by kernel_rfl) (by kernel_rfl) (by kernel_rfl);have h32:=@run_callFunc_extern prog 359 _ (Extern.ReflectliteType.method fun t=>do Extern.Rtype.noPackHeld "Comparable" t;pure (.bool (<-typeInfo t).comparable)) func359 (by kernel_rfl) (by kernel_rfl) (by kernel_rfl) (by kernel_rfl);have tT:=zux;have cT:=fun w=> (h32 #[.agg #[.pointer (some ⟨22,307,none⟩)]] w);simp only [zj4] at cT;clear h32;have mR:=zf1;have nE:=yjs;have uE:=zzu;have vE:=zw1;have nW:=yim;have uW:=zno;have mU:=zj5;have heq:=run_eql_iface_ptr_other (P:=prog) w underlying75 underlying307 hi hcmp hj (by rw [hjs];decide) hne ha hb;have hty:=run_eql_iface_types (P:=prog) 125 307 (.pointer (some ⟨pb,po,none⟩)) (.pointer (some b)) underlying75 (by decide) w;go_enter func92,ntmps92;go_wp2;refine wp_loop_rounds 2 ?_;rw [rounds_succ];go_wp2;rw [rounds_succ];go_wp2;go_ret;exact ⟨rfl,rfl⟩
theorem zdf (pb:Nat) (a:Addr) (t:ByteArray) (w:World) (h1:w.cell? ⟨pb,0,none⟩=some (.iface 307 (.pointer (some a)))) (h2:w.cell? a=some (.string t)) (ht:t.size<=200):
  Calls prog 352 #[.pointer (some ⟨pb,0,none⟩)] w fun e w'=>e= .returned (.string (⟨#[69,82,82,32]⟩++t))/\w'=w:=by
 have mE:=zjy;have hz:¬9223372036854775807<4+t.size:=by omega
 go_enter func352,ntmps352;go_wp2;go_ret;exact ⟨rfl,rfl⟩
open Go.RowKit
theorem zki (pb:Nat) (a b:Addr) (t:ByteArray) (ca cb:Array Value) (ta tb:TypeId) (w:World) (hpb:pb<w.heap.size) (h1:w.cell? ⟨pb,0,none⟩=some (.iface 307 (.pointer (some a)))) (h2:w.cell? a=some (.string t)) (ht:t.size<=200)
  (hk:w.cell? ⟨0,0,none⟩=some (.iface 307 (.pointer (some b)))) (h5:0<w.heap.size) (hne:a≠b) (ha:w.heap[a.block]?=some (.cells ca ta (0,0))) (hb:w.heap[b.block]?=some (.cells cb tb (0,0))):
  Calls prog 49 #[.iface 125 (.pointer (some ⟨pb,0,none⟩))] w fun e w'=>∃A,e= .returned (.slice (some ⟨A,0,none⟩) 1 1)/\zab w' A 40 #[.int .i64 2,.int .i64 0,.string (⟨#[69,82,82,32]⟩++t),.slice none 0 0]/\w.heap.size<=A/\Bl w w':=by
 have hE:Hid (Cp 352 #[.pointer (some ⟨pb,0,none⟩)] w fun e w'=>e= .returned (.string (⟨#[69,82,82,32]⟩++t))/\w'=w):=zdf pb a t w h1 h2 ht;have b0:Bl w (w.alloc (.cells #[.pointer none] 125)):=(Qb _ w).alloc (Qc _) _;have hab:=(Array.getElem?_eq_some_iff.1 ha).1;have hbb:=(Array.getElem?_eq_some_iff.1 hb).1;have hI:Hid (Cp 92 #[.iface 125 (.pointer (some ⟨pb,0,none⟩)),.iface 307 (.pointer (some b))] (w.alloc (.cells #[.pointer none] 125)) fun e w'=>e= .returned (.bool false)/\w'=w.alloc (.cells #[.pointer none] 125)):=
  yc8 pb 0 b a ca cb ta tb _ ((b0.cell (p:=⟨pb,0,none⟩) hpb).trans h1) hne ((b0.block _ hab).trans ha) ((b0.block _ hbb).trans hb)
 have hk0:=(b0.cell (p:=⟨0,0,none⟩) h5).trans hk;have mR:=zjs;generalize hT:(⟨#[69,82,82,32]⟩++t:ByteArray)=T at*;clear ha hb h1 h2 hT b0;go_enter func49,ntmps49;go_wp2_with fail;refine hE.out.mono ?_;rintro e w1 ⟨rfl,e1⟩;subst e1;clear hE;go_wp2_with fail;refine hI.out.mono ?_;rintro e w2 ⟨rfl,e2⟩;have b2:Bl w1 w2:=by rw [e2];exact (Qb _ w1).alloc (Qc _) _
 clear hI e2 hk0;go_wp2;go_ret;exact ⟨_,rfl,zab.new _ _ _,b2.size,b2.alloc b2.size _⟩
end Go.Proofs.YtokafonppgppdaaGreatDoor.Er
namespace Go.Proofs.YtokafonppgppdaaGreatDoor
open Tryz
open Go.RowKit Go.Sort
theorem zjz (s:ByteArray) (w:World) (hs:s.size<=1048576):Calls prog 126 #[.string s] w fun e w'=>e= .returned (.string (zcv s))/\Bl w w':=by
 obtain ⟨cap,W1,D0,hconv,hrow0,hD0,b0⟩:=zm3 s w;have hlen:s.data.toList.length=s.size:=by rw [Lib.size_eq]
 have HD0:Hid (zx6 D0 s.data.toList 0/\s.data.toList.length<=D0.size):=⟨fun j hj=>by rw [if_neg (by omega)];exact hD0 j hj,by
  by_cases h0:s.data.toList.length=0
  ·omega
  ·have:=hD0 (s.data.toList.length-1) (by omega);have:=(Array.getElem?_eq_some_iff.1 this).1;omega⟩
 have HN:Hid (zcv s=⟨(s.data.toList.map upB).toArray⟩):=rfl;have HLEN:Hid (s.data.toList.length=s.size):=hlen;generalize zcv s=NM,s.data.toList=l at*;have hconv':Hid ((convert 9 22 (.string s)).run prog w= .ok (.slice (some ⟨w.heap.size,0,none⟩) s.size cap) W1):=hconv;generalize hn:s.size=n at*;clear hD0 hlen;go_enter func126,ntmps126;go_wp2;go_loopw [10] (fun i wr=>∃(k:Nat) (D:Array Value),k<=n/\i= .int .i64 k/\Hid (zx6 D l k/\l.length<=D.size/\zqy wr w.heap.size 5 D)/\Bl w wr) (fun i _=>n-(intOf i).toNat)
 case atStart=>exact ⟨0,D0,by omega,rfl,⟨HD0.out.1,HD0.out.2,hrow0⟩,b0⟩
 case round=>
  obtain ⟨k,D,hk,rfl,hI,bk⟩:=hrel;clear hconv hconv' hrow0 b0;obtain ⟨hp,hds,hr⟩:=hI.out;by_cases hlt:k<n
  ·have hkl:k<l.length:=by rw [HLEN.out];exact hlt
   have hc:wr.cell? ⟨w.heap.size,k,none⟩=some (.int .u8 (((l[k]).toNat:Nat):Int)):=by
    rw [hr.cell,hp k hkl,if_neg (by omega)]
   have hfz:=hr.frozen k (by omega);have H1:Hid (upN (l[k]).toNat=(l[k]).toNat->zx6 D l (k+1)/\l.length<=D.size/\zqy wr w.heap.size 5 D):=fun e=>⟨zp1 hp hkl e,hds,hr⟩;have H2:Hid (∀y:Nat,upN (l[k]).toNat=y->zx6 (D.setIfInBounds k (.int .u8 (y:Int))) l (k+1)/\l.length<=(D.setIfInBounds k (.int .u8 (y:Int))).size/\zqy (wr.setCell ⟨w.heap.size,k,none⟩ (.int .u8 (y:Int))) w.heap.size 5 (D.setIfInBounds k (.int .u8 (y:Int)))):=fun y hy=>by
    subst hy;exact ⟨zrk hp hkl hds,by rw [Array.size_setIfInBounds];exact hds,hr.set k _⟩
   have hx8:=(l[k]).toNat_lt;generalize (l[k]).toNat=x at*;clear hI hp hds hr;have hk0:(0:Int)<=(k:Int):=by omega
   have hkn:(k:Int)<(n:Int):=by omega
   by_cases h1:97<=x
   ·have g1:decide ((97:Int)<=(x:Int))=true:=Qe (by omega);by_cases h2:x<=122
    ·have g2:decide ((x:Int)<=122)=true:=Qe (by omega);have hw7:IntKind.u8.wrap ((x:Int)-97)=((x:Int)-97):=by
      rw [show (x:Int)-97=((x-97:Nat):Int) by omega];exact wrap_u8 (by omega) (by omega)
     have hw8:IntKind.u8.wrap ((x:Int)-97+65)=((x-32:Nat):Int):=by
      rw [show (x:Int)-97+65=((x-32:Nat):Int) by omega];exact wrap_u8 (by omega) (by omega)
     have HN2:Hid _:=H2.out (x-32) (by unfold upN;rw [if_pos ⟨h1,h2⟩]);generalize x-32=y at*;clear H1 H2;go_wp2;go_roundw
     case rel=>exact ⟨k+1,_,by omega,by go_num,HN2,bk.setCell (Qc _) _⟩
     case measure=>simp [intOf];omega
    ·have g2:decide ((x:Int)<=122)=false:=Qf (by omega);have HN2:Hid _:=H1.out (by unfold upN;rw [if_neg (by omega)]);clear H1 H2;go_wp2;go_roundw
     case rel=>exact ⟨k+1,_,by omega,by go_num,HN2,bk⟩
     case measure=>simp [intOf];omega
   ·have g1:decide ((97:Int)<=(x:Int))=false:=Qf (by omega);have HN2:Hid _:=H1.out (by unfold upN;rw [if_neg (by omega)]);clear H1 H2;go_wp2;go_roundw
    case rel=>exact ⟨k+1,_,by omega,by go_num,HN2,bk⟩
    case measure=>simp [intOf];omega
  ·obtain rfl:k=n:=by omega
   have hll:(l.map upB).length=k:=by rw [Qp,HLEN.out]
   have hback:=run_convert_bytes_back (P:=prog) wr 22 9 5 ⟨w.heap.size,0,none⟩ cap (l.map upB) underlying22 underlying5 underlying9 (fun j hj=>by
    have hj':j<l.length:=by rw [Qp] at hj;exact hj
    rw [Addr.add_lit,Qq,hr.cell,hp j hj',if_pos (by rw [HLEN.out] at hj';exact hj'),List.getElem_map,zyq])
   rw [hll] at hback;rw [<-HN.out] at hback;clear hI hp hds hr hll;go_wp2;go_ret;exact ⟨rfl,bk⟩
end Go.Proofs.YtokafonppgppdaaGreatDoor
