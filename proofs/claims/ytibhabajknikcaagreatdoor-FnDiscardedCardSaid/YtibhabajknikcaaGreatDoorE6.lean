import Derived.Test.YtibhabajknikcaaGreatDoorG2
import Derived.Test.YtibhabajknikcaaGreatDoorHb
import Derived.WalkKit
import Derived.LaidEql
import Derived.Stop.Asserts
import Derived.RowKitTokens
import Derived.KernelRfl
import Derived.RowKit
import Derived.Test.YtibhabajknikcaaGreatDoorProg
set_option maxHeartbeats 4000000
set_option maxRecDepth 100000
namespace Go.Proofs.YtibhabajknikcaaGreatDoor.Er
open Go.RowKit Go.Extern.Stop Go.Stop Go.Extern
theorem isTypeOf (v:Value) (w:World):(Extern.ReflectliteType.typeOf #[.iface 343 v]).run Tryz.prog w= .ok (.iface 221 (.agg #[.pointer (some ⟨25,343,none⟩)])) w:=by kernel_rfl
theorem isComparable (w:World):((Extern.ReflectliteType.method fun t=>do Extern.Rtype.noPackHeld "Comparable" t;pure (.bool (←typeInfo t).comparable)) #[.agg #[.pointer (some ⟨25,343,none⟩)]]).run Tryz.prog w= .ok (.bool true) w:=by kernel_rfl
theorem isMethodComparable (v:Value) (w:World):(Go.method 489 221 v "Comparable").run Tryz.prog w= .ok (376,v) w:=by kernel_rfl
theorem isComp:(Tryz.prog.info? 343).map (·.comparable)=some true:=by kernel_rfl
theorem isSize:(Tryz.prog.info? 345).map (·.size)=some 1:=by kernel_rfl
theorem noIsE (v:Value) (xT:TypeId) (w:World):(Instr.typeAssert (.iface 343 v) xT 223 true).run Tryz.prog w= .ok (.tuple #[.nilIface,.bool false]) w:=run_typeAssert_lacksB Tryz.underlying223 (by kernel_rfl) (by kernel_rfl) v xT w
theorem noUnwrapE (v:Value) (xT:TypeId) (w:World):(Instr.typeAssert (.iface 343 v) xT 226 true).run Tryz.prog w= .ok (.tuple #[.nilIface,.bool false]) w:=run_typeAssert_lacksB Tryz.underlying226 (by kernel_rfl) (by kernel_rfl) v xT w
theorem noUnwrapsE (v:Value) (xT:TypeId) (w:World):(Instr.typeAssert (.iface 343 v) xT 228 true).run Tryz.prog w= .ok (.tuple #[.nilIface,.bool false]) w:=run_typeAssert_lacksB Tryz.underlying228 (by kernel_rfl) (by kernel_rfl) v xT w
theorem noIsW (v:Value) (xT:TypeId) (w:World):(Instr.typeAssert (.iface 87 v) xT 223 true).run Tryz.prog w= .ok (.tuple #[.nilIface,.bool false]) w:=run_typeAssert_lacksB Tryz.underlying223 (by kernel_rfl) (by kernel_rfl) v xT w
theorem hasUnwrapW (v:Value) (xT:TypeId) (w:World):(Instr.typeAssert (.iface 87 v) xT 226 true).run Tryz.prog w= .ok (.tuple #[.iface 87 v,.bool true]) w:=run_typeAssert_hasB Tryz.underlying226 (by kernel_rfl) v xT w
theorem methodUnwrap (v:Value) (w:World):(Go.method 489 87 v "Unwrap").run Tryz.prog w= .ok (364,v) w:=by kernel_rfl
theorem methodErrorR (v:Value) (w:World):(Go.method 489 87 v "Error").run Tryz.prog w= .ok (363,v) w:=by kernel_rfl
theorem methodErrorE (v:Value) (w:World):(Go.method 489 343 v "Error").run Tryz.prog w= .ok (401,v) w:=by kernel_rfl
theorem is_other (pb po:Nat) (b a:Addr) (ca cb:Array Value) (ta tb:TypeId) (w:World) (h1:w.cell? ⟨pb,po,none⟩=some (.iface 343 (.pointer (some a)))) (hne:a≠b) (ha:w.heap[a.block]?=some (.cells ca ta (0,0))) (hb:w.heap[b.block]?=some (.cells cb tb (0,0))):
  Calls Tryz.prog 119 #[.iface 87 (.pointer (some ⟨pb,po,none⟩)),.iface 343 (.pointer (some b))] w fun e w'=>e= .returned (.bool false)∧w'=w:=by
 obtain ⟨i,hi,hcmp⟩:=Option.map_eq_some_iff.1 isComp;obtain ⟨j,hj,hjs⟩:=Option.map_eq_some_iff.1 isSize;have h8:=@run_callFunc_extern Tryz.prog 151 _ Extern.ReflectliteType.typeOf Tryz.func151 (by kernel_rfl) (by kernel_rfl) (by kernel_rfl) (by kernel_rfl);have h32:=@run_callFunc_extern Tryz.prog 376 _ (Extern.ReflectliteType.method fun t=>do Extern.Rtype.noPackHeld "Comparable" t;pure (.bool (←typeInfo t).comparable)) Tryz.func376 (by kernel_rfl) (by kernel_rfl) (by kernel_rfl) (by kernel_rfl);have tT:=isTypeOf;have cT:=fun w=> (h32 #[.agg #[.pointer (some ⟨25,343,none⟩)]] w);simp only [isComparable] at cT;clear h32;have mR:=isMethodComparable;have nE:=noIsE;have uE:=noUnwrapE;have vE:=noUnwrapsE;have nW:=noIsW;have uW:=hasUnwrapW;have mU:=methodUnwrap;have heq:=run_eql_iface_ptr_other (P:=Tryz.prog) w Tryz.underlying89 Tryz.underlying343 hi hcmp hj (by rw [hjs];decide) hne ha hb;have hty:=run_eql_iface_types (P:=Tryz.prog) 87 343 (.pointer (some ⟨pb,po,none⟩)) (.pointer (some b)) Tryz.underlying89 (by decide) w;go_enter Tryz.func119,Tryz.ntmps119;go_wp2;refine wp_loop_rounds 2 ?_;rw [rounds_succ];go_wp2;rw [rounds_succ];go_wp2;go_ret;exact ⟨rfl,rfl⟩
theorem error_any (pb:Nat) (a:Addr) (t:ByteArray) (w:World) (h1:w.cell? ⟨pb,0,none⟩=some (.iface 343 (.pointer (some a)))) (h2:w.cell? a=some (.string t)) (ht:t.size≤200):
  Calls Tryz.prog 363 #[.pointer (some ⟨pb,0,none⟩)] w fun e w'=>e= .returned (.string (⟨#[69,82,82,32]⟩++t))∧w'=w:=by
 have mE:=methodErrorE;have hz:¬9223372036854775807<4+t.size:=by omega
 go_enter Tryz.func363,Tryz.ntmps363;go_wp2;go_ret;exact ⟨rfl,rfl⟩
end Go.Proofs.YtibhabajknikcaaGreatDoor.Er
namespace Go.Proofs.YtibhabajknikcaaGreatDoor.Er
open Go.RowKit
theorem errorReply_other (pb:Nat) (a b:Addr) (t:ByteArray) (ca cb:Array Value) (ta tb:TypeId) (w:World) (hpb:pb<w.heap.size) (h1:w.cell? ⟨pb,0,none⟩=some (.iface 343 (.pointer (some a)))) (h2:w.cell? a=some (.string t)) (ht:t.size≤200)
  (hk:w.cell? ⟨5,0,none⟩=some (.iface 343 (.pointer (some b)))) (h5:5<w.heap.size) (hne:a≠b) (ha:w.heap[a.block]?=some (.cells ca ta (0,0))) (hb:w.heap[b.block]?=some (.cells cb tb (0,0))):
  Calls Tryz.prog 85 #[.iface 87 (.pointer (some ⟨pb,0,none⟩))] w fun e w'=>∃A,e= .returned (.slice (some ⟨A,0,none⟩) 1 1)∧RowAt w' A 53 #[.int .i64 2,.int .i64 0,.string (⟨#[69,82,82,32]⟩++t),.slice none 0 0]∧w.heap.size≤A∧Below w.heap.size w w':=by
 have hE:Hid (Calls Tryz.prog 363 #[.pointer (some ⟨pb,0,none⟩)] w fun e w'=>e= .returned (.string (⟨#[69,82,82,32]⟩++t))∧w'=w):=error_any pb a t w h1 h2 ht;have b0:Below w.heap.size w (w.alloc (.cells #[.pointer none] 87)):=(Below.refl _ w).alloc (Nat.le_refl _) _;have hab:=(Array.getElem?_eq_some_iff.1 ha).1;have hbb:=(Array.getElem?_eq_some_iff.1 hb).1;have hI:Hid (Calls Tryz.prog 119 #[.iface 87 (.pointer (some ⟨pb,0,none⟩)),.iface 343 (.pointer (some b))] (w.alloc (.cells #[.pointer none] 87)) fun e w'=>e= .returned (.bool false)∧w'=w.alloc (.cells #[.pointer none] 87)):=
  is_other pb 0 b a ca cb ta tb _ ((b0.cell (p:=⟨pb,0,none⟩) hpb).trans h1) hne ((b0.block _ hab).trans ha) ((b0.block _ hbb).trans hb)
 have hk0:=(b0.cell (p:=⟨5,0,none⟩) h5).trans hk;have mR:=methodErrorR;generalize hT:(⟨#[69,82,82,32]⟩++t:ByteArray)=T at*;clear ha hb h1 h2 hT b0;go_enter Tryz.func85,Tryz.ntmps85;go_wp2_with fail;refine hE.out.mono ?_;rintro e w1 ⟨rfl,e1⟩;subst e1;clear hE;go_wp2_with fail;refine hI.out.mono ?_;rintro e w2 ⟨rfl,e2⟩;have b2:Below w1.heap.size w1 w2:=by rw [e2];exact (Below.refl _ w1).alloc (Nat.le_refl _) _
 clear hI e2 hk0;go_wp2;go_ret;exact ⟨_,rfl,RowAt.new _ _ _,b2.size,b2.alloc b2.size _⟩
end Go.Proofs.YtibhabajknikcaaGreatDoor.Er
namespace Go.Proofs.YtibhabajknikcaaGreatDoor.Er
open Go.RowKit
abbrev tkC (k:Value) (r:ByteArray) (m:Bool) (q:Value) (d x:Bool) (now:Int):Array Value:= #[k,.string r,.bool m,q,.bool d,.bool x,.int .i64 now]
def OneEnd (w:World) (kind:Int) (t:ByteArray) (e:Ending) (w':World):Prop:=
 ∃A,e= .returned (.slice (some ⟨A,0,none⟩) 1 1)∧RowAt w' A 53 #[.int .i64 kind,.int .i64 0,.string t,.slice none 0 0]∧w.heap.size≤A
theorem grown_set {w w':World} {g:Nat} (h:w.grownBy w' (some g)) (o:Nat) (v:Value):w.grownBy (w'.setCell ⟨g,o,none⟩ v) (some g):=
 ⟨h.os,h.tape,h.output,by have:=h.size;simpa [World.setCell] using this,fun k hk hne=> (Below.heap_setCell _ _ _ _ (fun e=>hne (by rw [e]))).trans (h.block k hk hne)⟩
theorem grown_new {w w':World} {g:Nat} (h:w.grownBy w' (some g)) (o:Obj):w.grownBy (w'.alloc o) (some g):=
 ⟨h.os,h.tape,h.output,by have:=h.size;simp;omega,fun k hk hne=> (Below.heap_alloc _ _ _ (by have:=h.size;omega)).trans (h.block k hk hne)⟩
theorem wordReply_any (s:ByteArray) (w:World):Calls Tryz.prog 87 #[.string s] w fun e w'=>OneEnd w 1 s e w'∧Below w.heap.size w w':=by
 go_enter Tryz.func87,Tryz.ntmps87;go_wp2;go_ret;exact ⟨⟨_,rfl,RowAt.new _ _ _,Nat.le_refl _⟩,(Below.refl _ w).alloc (Nat.le_refl _) _⟩
theorem letGo_any (g:Nat) (k1:Option Addr) (k2 k3:Nat) (r:ByteArray) (m:Bool) (q1:Option Addr) (q2 q3:Nat) (d x:Bool) (now:Int) (w:World) (h:RowAt w g 50 (tkC (.slice k1 k2 k3) r m (.slice q1 q2 q3) d x now)):
  Calls Tryz.prog 116 #[.pointer (some ⟨g,0,none⟩)] w fun e w'=>e= .returned (.agg #[.string r,.bool m,.slice q1 q2 q3,.bool d,.bool x])∧RowAt w' g 50 (tkC (.slice k1 k2 k3) r false (.slice none 0 0) false false now)∧w.grownBy w' (some g):=by
 have hlt:=h.lt;have c1:=h.cell 1;have c2:=h.cell 2;have c3:=h.cell 3;have c4:=h.cell 4;have c5:=h.cell 5;have f1:=h.frozen 1;have f2:=h.frozen 2;have f3:=h.frozen 3;have f4:=h.frozen 4;have f5:=h.frozen 5;simp only [tkC,List.getElem?_toArray,List.getElem?_cons_zero,List.getElem?_cons_succ] at c1 c2 c3 c4 c5;have hr:RowAt (((((w.setCell ⟨g,1,none⟩ (.string r)).setCell ⟨g,2,none⟩ (.bool false)).setCell ⟨g,3,none⟩ (.slice none 0 0)).setCell ⟨g,4,none⟩ (.bool false)).setCell ⟨g,5,none⟩ (.bool false)) g 50 (tkC (.slice k1 k2 k3) r false (.slice none 0 0) false false now):=by
  have:=((((h.set 1 (.string r)).set 2 (.bool false)).set 3 (.slice none 0 0)).set 4 (.bool false)).set 5 (.bool false);simpa using this
 have hg:=grown_set (grown_set (grown_set (grown_set (grown_set (World.grownBy.refl w (some g)) 1 (.string r)) 2 (.bool false)) 3 (.slice none 0 0)) 4 (.bool false)) 5 (.bool false);have HE:Hid (∀o1 o2,RowAt (((((((w.setCell ⟨g,1,none⟩ (.string r)).setCell ⟨g,2,none⟩ (.bool false)).setCell ⟨g,3,none⟩ (.slice none 0 0)).setCell ⟨g,4,none⟩ (.bool false)).setCell ⟨g,5,none⟩ (.bool false)).alloc o1).alloc o2) g 50 (tkC (.slice k1 k2 k3) r false (.slice none 0 0) false false now)∧w.grownBy (((((((w.setCell ⟨g,1,none⟩ (.string r)).setCell ⟨g,2,none⟩ (.bool false)).setCell ⟨g,3,none⟩ (.slice none 0 0)).setCell ⟨g,4,none⟩ (.bool false)).setCell ⟨g,5,none⟩ (.bool false)).alloc o1).alloc o2) (some g)):=fun o1 o2=>by
  have q1:=hr.below ((Below.refl _ _).alloc (Nat.le_refl _) o1) hr.lt;exact ⟨q1.below ((Below.refl _ _).alloc (Nat.le_refl _) o2) q1.lt,grown_new (grown_new hg o1) o2⟩
 clear hr hg h;go_enter Tryz.func116,Tryz.ntmps116;go_wp2;exact bodyPost_ret (v:= .agg #[.string r,.bool m,.slice q1 q2 q3,.bool d,.bool x]) (by simp [results,Tryz.results116,go_sem]) rfl ⟨rfl,HE.out _ _⟩
end Go.Proofs.YtibhabajknikcaaGreatDoor.Er
namespace Go.Proofs.YtibhabajknikcaaGreatDoor.Er
open Go.RowKit
structure Errs (w:World) (a b:Addr) (t:ByteArray):Prop where
 no:w.cell? ⟨3,0,none⟩=some (.iface 343 (.pointer (some a)))
 kind:w.cell? ⟨5,0,none⟩=some (.iface 343 (.pointer (some b)))
 text:w.cell? a=some (.string t)
 size:t.size≤200
 ne:a≠b
 ab:∃c T,w.heap[a.block]?=some (.cells c T (0,0))
 bb:∃c T,w.heap[b.block]?=some (.cells c T (0,0))
 six:6≤w.heap.size
theorem Errs.below {w w':World} {a b:Addr} {t:ByteArray} (h:Errs w a b t) (hb:Below w.heap.size w w'):Errs w' a b t:=by
 obtain ⟨c1,T1,h1⟩:=h.ab;obtain ⟨c2,T2,h2⟩:=h.bb;have l1:=(Array.getElem?_eq_some_iff.1 h1).1;have l2:=(Array.getElem?_eq_some_iff.1 h2).1;have h6:=h.six;exact ⟨(hb.cell (p:=⟨3,0,none⟩) (by show 3<_;omega)).trans h.no,(hb.cell (p:=⟨5,0,none⟩) (by show 5<_;omega)).trans h.kind,(hb.cell (p:=a) l1).trans h.text,h.size,h.ne,⟨c1,T1,(hb.block _ l1).trans h1⟩,⟨c2,T2,(hb.block _ l2).trans h2⟩,Nat.le_trans h6 hb.size⟩
theorem discard_no (g:Nat) (k:Value) (r:ByteArray) (q:Value) (d x:Bool) (now:Int) (a b:Addr) (t:ByteArray) (w:World) (h:RowAt w g 50 (tkC k r false q d x now)) (hE:Errs w a b t):
  Calls Tryz.prog 84 #[.pointer (some ⟨g,0,none⟩)] w fun e w'=>OneEnd w 2 (⟨#[69,82,82,32]⟩++t) e w'∧Below w.heap.size w w':=by
 obtain ⟨W0,hW0,HW0,b0,r0⟩:=boxed w #[.iface 343 (.pointer (some a))] 91;have hE0:=hE.below b0;obtain ⟨c1,T1,e1⟩:=hE0.ab;obtain ⟨c2,T2,e2⟩:=hE0.bb;have HR:Hid (Calls Tryz.prog 85 #[.iface 87 (.pointer (some ⟨w.heap.size,0,none⟩))] W0 fun e w'=>∃A,e= .returned (.slice (some ⟨A,0,none⟩) 1 1)∧RowAt w' A 53 #[.int .i64 2,.int .i64 0,.string (⟨#[69,82,82,32]⟩++t),.slice none 0 0]∧W0.heap.size≤A∧Below W0.heap.size W0 w'):=
  errorReply_other w.heap.size a b t c1 c2 T1 T2 W0 r0.lt (r0.cell 0) hE0.text hE0.size hE0.kind (by have:=hE0.six;omega) hE0.ne e1 e2
 have m2:=h.cell 2;simp only [tkC,List.getElem?_toArray,List.getElem?_cons_zero,List.getElem?_cons_succ] at m2;have hno:=hE.no;have HB:Hid (Below w.heap.size w W0):=b0;clear hE hE0 e1 e2 hW0 b0 r0 h;go_enter Tryz.func84,Tryz.ntmps84;go_wp2_with fail;rw [HW0.out];refine HR.out.mono ?_;rintro e w1 ⟨A,rfl,hA,hs,b1⟩;go_wp2;go_ret;exact ⟨⟨A,rfl,hA,Nat.le_trans HB.out.size hs⟩,HB.out.trans (b1.mono HB.out.size)⟩
theorem discard_yes (g:Nat) (k1:Option Addr) (k2 k3:Nat) (r:ByteArray) (q1:Option Addr) (q2 q3:Nat) (d x:Bool) (now:Int) (w:World) (h:RowAt w g 50 (tkC (.slice k1 k2 k3) r true (.slice q1 q2 q3) d x now)):
  Calls Tryz.prog 84 #[.pointer (some ⟨g,0,none⟩)] w fun e w'=>OneEnd w 1 ⟨#[79,75]⟩ e w'∧RowAt w' g 50 (tkC (.slice k1 k2 k3) r false (.slice none 0 0) false false now)∧w.grownBy w' (some g):=by
 have HL:Hid (Calls Tryz.prog 116 #[.pointer (some ⟨g,0,none⟩)] w fun e w'=>e= .returned (.agg #[.string r,.bool true,.slice q1 q2 q3,.bool d,.bool x])∧RowAt w' g 50 (tkC (.slice k1 k2 k3) r false (.slice none 0 0) false false now)∧w.grownBy w' (some g)):=letGo_any g k1 k2 k3 r true q1 q2 q3 d x now w h;have m2:=h.cell 2;simp only [tkC,List.getElem?_toArray,List.getElem?_cons_zero,List.getElem?_cons_succ] at m2;clear h;go_enter Tryz.func84,Tryz.ntmps84;go_wp2_with fail;refine HL.out.mono ?_;rintro e w1 ⟨rfl,h1,g1⟩;go_wp2_with fail;refine (wordReply_any ⟨#[79,75]⟩ w1).mono ?_;rintro e w2 ⟨⟨A,rfl,hA,hs⟩,b2⟩;go_wp2;go_ret;exact ⟨⟨A,rfl,hA,Nat.le_trans g1.size hs⟩,h1.below b2 h1.lt,⟨b2.os.trans g1.os,b2.tape.trans g1.tape,b2.output.trans g1.output,Nat.le_trans g1.size b2.size,fun k hk hne=> (b2.block k (Nat.lt_of_lt_of_le hk g1.size)).trans (g1.block k hk hne)⟩⟩
end Go.Proofs.YtibhabajknikcaaGreatDoor.Er
namespace Go.Proofs.YtibhabajknikcaaGreatDoor
open Go.RowKit Go.Sort
theorem capitals_any (s:ByteArray) (w:World) (hs:s.size≤1048576):Calls Tryz.prog 81 #[.string s] w fun e w'=>e= .returned (.string (nameM s))∧Below w.heap.size w w':=by
 obtain ⟨cap,W1,D0,hconv,hrow0,hD0,b0⟩:=conv_bytes s w;have hlen:s.data.toList.length=s.size:=by rw [Lib.size_eq]
 have HD0:Hid (PreN D0 s.data.toList 0∧s.data.toList.length≤D0.size):=⟨fun j hj=>by rw [if_neg (by omega)];exact hD0 j hj,by
  by_cases h0:s.data.toList.length=0
  ·omega
  ·have:=hD0 (s.data.toList.length-1) (by omega);have:=(Array.getElem?_eq_some_iff.1 this).1;omega⟩
 have HN:Hid (nameM s=⟨(s.data.toList.map upB).toArray⟩):=rfl;have HLEN:Hid (s.data.toList.length=s.size):=hlen;generalize nameM s=NM at*;generalize s.data.toList=l at*;have hconv':Hid ((convert 9 22 (.string s)).run Tryz.prog w= .ok (.slice (some ⟨w.heap.size,0,none⟩) s.size cap) W1):=hconv;generalize hn:s.size=n at*;clear hD0 hlen;go_enter Tryz.func81,Tryz.ntmps81;go_wp2;go_loopw [10] (fun i wr=>∃(k:Nat) (D:Array Value),k≤n∧i= .int .i64 k∧Hid (PreN D l k∧l.length≤D.size∧RowM wr w.heap.size 5 D)∧Below w.heap.size w wr) (fun i _=>n-(intOf i).toNat)
 case atStart=>exact ⟨0,D0,by omega,rfl,⟨HD0.out.1,HD0.out.2,hrow0⟩,b0⟩
 case round=>
  obtain ⟨k,D,hk,rfl,hI,bk⟩:=hrel;clear hconv hconv' hrow0 b0;obtain ⟨hp,hds,hr⟩:=hI.out;by_cases hlt:k<n
  ·have hkl:k<l.length:=by rw [HLEN.out];exact hlt
   have hc:wr.cell? ⟨w.heap.size,k,none⟩=some (.int .u8 (((l[k]).toNat:Nat):Int)):=by
    rw [hr.cell,hp k hkl,if_neg (by omega)]
   have hfz:=hr.frozen k (by omega);have H1:Hid (upN (l[k]).toNat=(l[k]).toNat→PreN D l (k+1)∧l.length≤D.size∧RowM wr w.heap.size 5 D):=fun e=>⟨preN_same hp hkl e,hds,hr⟩;have H2:Hid (∀y:Nat,upN (l[k]).toNat=y→PreN (D.setIfInBounds k (.int .u8 (y:Int))) l (k+1)∧l.length≤(D.setIfInBounds k (.int .u8 (y:Int))).size∧RowM (wr.setCell ⟨w.heap.size,k,none⟩ (.int .u8 (y:Int))) w.heap.size 5 (D.setIfInBounds k (.int .u8 (y:Int)))):=fun y hy=>by
    subst hy;exact ⟨preN_next hp hkl hds,by rw [Array.size_setIfInBounds];exact hds,hr.set k _⟩
   have hx8:=(l[k]).toNat_lt;generalize (l[k]).toNat=x at*;clear hI hp hds hr;have hk0:(0:Int)≤(k:Int):=by omega
   have hkn:(k:Int)<(n:Int):=by omega
   by_cases h1:97≤x
   ·have g1:decide ((97:Int)≤(x:Int))=true:=decide_eq_true (by omega);by_cases h2:x≤122
    ·have g2:decide ((x:Int)≤122)=true:=decide_eq_true (by omega);have hw7:IntKind.u8.wrap ((x:Int)-97)=((x:Int)-97):=by
      rw [show (x:Int)-97=((x-97:Nat):Int) by omega];exact wrap_u8 (by omega) (by omega)
     have hw8:IntKind.u8.wrap ((x:Int)-97+65)=((x-32:Nat):Int):=by
      rw [show (x:Int)-97+65=((x-32:Nat):Int) by omega];exact wrap_u8 (by omega) (by omega)
     have HN2:Hid _:=H2.out (x-32) (by unfold upN;rw [if_pos ⟨h1,h2⟩]);generalize x-32=y at*;clear H1 H2;go_wp2;go_roundw
     case rel=>exact ⟨k+1,_,by omega,by go_num,HN2,bk.setCell (Nat.le_refl _) _⟩
     case measure=>simp [intOf];omega
    ·have g2:decide ((x:Int)≤122)=false:=decide_eq_false (by omega);have HN2:Hid _:=H1.out (by unfold upN;rw [if_neg (by omega)]);clear H1 H2;go_wp2;go_roundw
     case rel=>exact ⟨k+1,_,by omega,by go_num,HN2,bk⟩
     case measure=>simp [intOf];omega
   ·have g1:decide ((97:Int)≤(x:Int))=false:=decide_eq_false (by omega);have HN2:Hid _:=H1.out (by unfold upN;rw [if_neg (by omega)]);clear H1 H2;go_wp2;go_roundw
    case rel=>exact ⟨k+1,_,by omega,by go_num,HN2,bk⟩
    case measure=>simp [intOf];omega
  ·obtain rfl:k=n:=by omega
   have hll:(l.map upB).length=k:=by rw [List.length_map,HLEN.out]
   have hback:=run_convert_bytes_back (P:=Tryz.prog) wr 22 9 5 ⟨w.heap.size,0,none⟩ cap (l.map upB) Tryz.underlying22 Tryz.underlying5 Tryz.underlying9 (fun j hj=>by
    have hj':j<l.length:=by rw [List.length_map] at hj;exact hj
    rw [Addr.add_lit,Nat.zero_add,hr.cell,hp j hj',if_pos (by rw [HLEN.out] at hj';exact hj'),List.getElem_map,upB_nat])
   rw [hll] at hback;rw [←HN.out] at hback;clear hI hp hds hr hll;go_wp2;go_ret;exact ⟨rfl,bk⟩
end Go.Proofs.YtibhabajknikcaaGreatDoor
namespace Go.Proofs.YtibhabajknikcaaGreatDoor.Er
open Go.RowKit
abbrev sDiscard:ByteArray:=⟨#[68,73,83,67,65,82,68]⟩
theorem func_not_nil (g:Nat) (w:World):(binOp .neq 84 (.func (.func 84) #[.pointer (some ⟨g,0,none⟩)] #[]) .nilFunc).run Tryz.prog w= .ok (.bool true) w:=by kernel_rfl
theorem steering_discard (g:Nat) (w:World):
  Calls Tryz.prog 44 #[.pointer (some ⟨g,0,none⟩),.string sDiscard] w fun e w'=>e= .returned (.func (.func 84) #[.pointer (some ⟨g,0,none⟩)] #[])∧Below w.heap.size w w':=by
 have HC:Hid (Calls Tryz.prog 81 #[.string sDiscard] w fun e w'=>e= .returned (.string sDiscard)∧Below w.heap.size w w'):=capitals_any sDiscard w (by decide);go_enter Tryz.func44,Tryz.ntmps44;go_wp2_with fail;refine HC.out.mono ?_;rintro e w1 ⟨rfl,b1⟩;clear HC;go_wp2;go_ret;exact ⟨rfl,b1⟩
theorem ask_no (g:Nat) (k:Value) (r:ByteArray) (q:Value) (d x:Bool) (now:Int) (a b:Addr) (t:ByteArray) (A c:Nat) (w:World) (h:RowAt w g 50 (tkC k r false q d x now)) (hE:Errs w a b t) (hA:w.cell? ⟨A,0,none⟩=some (.string sDiscard)):
  Calls Tryz.prog 20 #[.pointer (some ⟨g,0,none⟩),.slice (some ⟨A,0,none⟩) 1 c] w fun e w'=>OneEnd w 2 (⟨#[69,82,82,32]⟩++t) e w'∧Below w.heap.size w w':=by
 have HS:Hid (Calls Tryz.prog 44 #[.pointer (some ⟨g,0,none⟩),.string sDiscard] w fun e w'=>e= .returned (.func (.func 84) #[.pointer (some ⟨g,0,none⟩)] #[])∧Below w.heap.size w w'):=steering_discard g w
 have HD:Hid (∀W,Below w.heap.size w W→Calls Tryz.prog 84 #[.pointer (some ⟨g,0,none⟩)] W fun e w'=>OneEnd w 2 (⟨#[69,82,82,32]⟩++t) e w'∧Below w.heap.size w w'):=fun W hW=> (discard_no g k r q d x now a b t W (h.below hW h.lt) (hE.below hW)).mono (by
  rintro e w' ⟨⟨A',e1,e2,e3⟩,e4⟩;exact ⟨⟨A',e1,e2,Nat.le_trans hW.size e3⟩,hW.trans (e4.mono hW.size)⟩)
 clear h hE;have hnn:=func_not_nil g;go_enter Tryz.func20,Tryz.ntmps20;go_wp2_with fail;refine HS.out.mono ?_;rintro e w1 ⟨rfl,b1⟩;clear HS;go_wp2_with fail;refine (HD.out w1 b1).mono ?_;rintro e w2 ⟨⟨A',rfl,e2,e3⟩,e4⟩;go_wp2;go_ret;exact ⟨⟨A',rfl,e2,e3⟩,e4⟩
theorem ask_yes (g:Nat) (k1:Option Addr) (k2 k3:Nat) (r:ByteArray) (q1:Option Addr) (q2 q3:Nat) (d x:Bool) (now:Int) (A c:Nat) (w:World) (h:RowAt w g 50 (tkC (.slice k1 k2 k3) r true (.slice q1 q2 q3) d x now)) (hA:w.cell? ⟨A,0,none⟩=some (.string sDiscard)):
  Calls Tryz.prog 20 #[.pointer (some ⟨g,0,none⟩),.slice (some ⟨A,0,none⟩) 1 c] w fun e w'=>OneEnd w 1 ⟨#[79,75]⟩ e w'∧RowAt w' g 50 (tkC (.slice k1 k2 k3) r false (.slice none 0 0) false false now)∧w.grownBy w' (some g):=by
 have HS:Hid (Calls Tryz.prog 44 #[.pointer (some ⟨g,0,none⟩),.string sDiscard] w fun e w'=>e= .returned (.func (.func 84) #[.pointer (some ⟨g,0,none⟩)] #[])∧Below w.heap.size w w'):=steering_discard g w
 have HD:Hid (∀W,Below w.heap.size w W→Calls Tryz.prog 84 #[.pointer (some ⟨g,0,none⟩)] W fun e w'=>OneEnd w 1 ⟨#[79,75]⟩ e w'∧RowAt w' g 50 (tkC (.slice k1 k2 k3) r false (.slice none 0 0) false false now)∧w.grownBy w' (some g)):=fun W hW=> (discard_yes g k1 k2 k3 r q1 q2 q3 d x now W (h.below hW h.lt)).mono (by
  rintro e w' ⟨⟨A',e1,e2,e3⟩,e4,e5⟩;exact ⟨⟨A',e1,e2,Nat.le_trans hW.size e3⟩,e4,⟨e5.os.trans hW.os,e5.tape.trans hW.tape,e5.output.trans hW.output,Nat.le_trans hW.size e5.size,fun k hk hne=> (e5.block k (Nat.lt_of_lt_of_le hk hW.size) hne).trans (hW.block k hk)⟩⟩)
 clear h;have hnn:=func_not_nil g;go_enter Tryz.func20,Tryz.ntmps20;go_wp2_with fail;refine HS.out.mono ?_;rintro e w1 ⟨rfl,b1⟩;clear HS;go_wp2_with fail;refine (HD.out w1 b1).mono ?_;rintro e w2 ⟨⟨A',rfl,e2,e3⟩,e4,e5⟩;go_wp2;go_ret;exact ⟨⟨A',rfl,e2,e3⟩,e4,e5⟩
end Go.Proofs.YtibhabajknikcaaGreatDoor.Er
