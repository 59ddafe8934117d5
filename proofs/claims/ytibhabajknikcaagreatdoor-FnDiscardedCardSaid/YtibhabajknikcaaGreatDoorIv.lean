import GoSem.Claim
import GoSem.ClaimJoined
import GoSem.ClaimMapViews
import Derived.JoinedTies
import Derived.KernelRfl
import Derived.RowKit
import Derived.Shelf.Strings.BuilderK
import Derived.Shelf.LaysM
import Derived.Shelf.Strconv.Itoa4
import Derived.Shelf.Strconv.Itoa0
import Derived.Shelf.Strconv.Itoa1
import Derived.Shelf.Strconv.Itoa2
import Derived.Shelf.Strconv.Itoa3
import Derived.Shelf.Strconv.ParseIntEmpty
import Derived.Shelf.Strconv.Clone
import Derived.Shelf.Strconv.SyntaxError
import Derived.Shelf.LaysC
import Derived.Shelf.Strconv.ToError
import Derived.Shelf.Strconv.Lower
import Derived.Shelf.Strconv.ParseUint10
import Derived.Shelf.Strconv.ParseUint10Empty
import Derived.Shelf.Strconv.ParseUint10Any
import Derived.Shelf.Strconv.ParseInt10
import Derived.Shelf.Strconv.RangeError
import Derived.Shelf.Strconv.ToErrorRange
import Derived.Shelf.Strconv.ParseUintEmpty
import Derived.Shelf.Strconv.ParseUint10b64
import Derived.Shelf.Strconv.ParseUint10b32
import Derived.Shelf.Strconv.ParseUint10b16
import Derived.Shelf.Strconv.ParseUint10b8
import Derived.Shelf.Strconv.ParseUint10At
import Derived.Shelf.Strconv.ParseInt10At64
import Derived.Shelf.Strconv.ParseInt10At32
import Derived.Shelf.Strconv.ParseInt10At16
import Derived.Shelf.Strconv.ParseInt10At8
import Derived.Shelf.Strconv.ParseInt10All
import Derived.Shelf.Strconv.ParseIntPublic10
import Derived.Shelf.Strconv.ErrVarParseInt
import Derived.WalkKit
import Derived.WalkSpells
import Derived.WalkLawsBesides
import Derived.Deep.QuietTactic
import Derived.BigQuiet
import Derived.Laws.IdiomStrings
import Derived.Lib.QuietBelow
import Derived.Lib.ParseIntBCases
import Derived.Deep.RegionHeldLaw
import Derived.Test.YtibhabajknikcaaGreatDoorProg
set_option maxHeartbeats 1000000
set_option maxRecDepth 100000
namespace Go.Proofs
open Go.Shelf
def Tryz.laysM173_ren:Go.Shelf.Ren:=⟨fun|173=>221|246=>253|283=>276|284=>277|285=>278|286=>279|129=>246|317=>299|318=>300|319=>301|320=>302|337=>319|338=>320|n=>n,fun|2=>2|3=>3|9=>9|4=>4|171=>293|0=>0|53=>143|37=>22|5=>5|173=>295|212=>314|51=>269|20=>20|213=>315|46=>145|232=>336|233=>337|n=>n,fun|17=>13|18=>14|19=>15|n=>n⟩
theorem Tryz.laysM173:Go.Proofs.LaysM.n173 Tryz.prog Tryz.laysM173_ren:={
 mixed:=by kernel_rfl
 f129:=Tryz.func246.trans (congrArg some (by kernel_rfl))
 f173:=Tryz.func221.trans (congrArg some (by kernel_rfl))
 f246:=Tryz.func253.trans (congrArg some (by kernel_rfl))
 f283:=Tryz.func276.trans (congrArg some (by kernel_rfl))
 f284:=Tryz.func277.trans (congrArg some (by kernel_rfl))
 f285:=Tryz.func278.trans (congrArg some (by kernel_rfl))
 f286:=Tryz.func279.trans (congrArg some (by kernel_rfl))
 f317:=Tryz.func299.trans (congrArg some (by kernel_rfl))
 f318:=Tryz.func300.trans (congrArg some (by kernel_rfl))
 f319:=Tryz.func301.trans (congrArg some (by kernel_rfl))
 f320:=Tryz.func302.trans (congrArg some (by kernel_rfl))
 f337:=Tryz.func319.trans (congrArg some (by kernel_rfl))
 f338:=Tryz.func320.trans (congrArg some (by kernel_rfl))
 t0:=Tryz.underlying0
 a0:=Tryz.isAgg0
 z0:=Tryz.sizeOf0
 v0:=Tryz.zeroValue0
 t2:=Tryz.underlying2
 a2:=Tryz.isAgg2
 z2:=Tryz.sizeOf2
 v2:=Tryz.zeroValue2
 t3:=Tryz.underlying3
 a3:=Tryz.isAgg3
 z3:=Tryz.sizeOf3
 v3:=Tryz.zeroValue3
 t4:=Tryz.underlying4
 a4:=Tryz.isAgg4
 z4:=Tryz.sizeOf4
 v4:=Tryz.zeroValue4
 t5:=Tryz.underlying5
 a5:=Tryz.isAgg5
 z5:=Tryz.sizeOf5
 v5:=Tryz.zeroValue5
 t9:=Tryz.underlying9
 a9:=Tryz.isAgg9
 z9:=Tryz.sizeOf9
 v9:=Tryz.zeroValue9
 t20:=Tryz.underlying20
 a20:=Tryz.isAgg20
 z20:=Tryz.sizeOf20
 v20:=Tryz.zeroValue20
 t37:=Tryz.underlying22
 a37:=Tryz.isAgg22
 z37:=Tryz.sizeOf22
 v37:=Tryz.zeroValue22
 t46:=Tryz.underlying145
 a46:=Tryz.isAgg145
 z46:=Tryz.sizeOf145
 v46:=Tryz.zeroValue145
 t51:=Tryz.underlying269
 a51:=Tryz.isAgg269
 z51:=Tryz.sizeOf269
 v51:=Tryz.zeroValue269
 t53:=Tryz.underlying143
 a53:=Tryz.isAgg143
 z53:=Tryz.sizeOf143
 v53:=Tryz.zeroValue143
 t171:=Tryz.underlying293
 a171:=Tryz.isAgg293
 z171:=Tryz.sizeOf293
 v171:=Tryz.zeroValue293
 t173:=Tryz.underlying295
 a173:=Tryz.isAgg295
 z173:=Tryz.sizeOf295
 v173:=Tryz.zeroValue295
 t212:=Tryz.underlying314
 a212:=Tryz.isAgg314
 z212:=Tryz.sizeOf314
 v212:=Tryz.zeroValue314
 t213:=Tryz.underlying315
 a213:=Tryz.isAgg315
 z213:=Tryz.sizeOf315
 t232:=Tryz.underlying336
 a232:=Tryz.isAgg336
 z232:=Tryz.sizeOf336
 v232:=Tryz.zeroValue336
 t233:=Tryz.underlying337
 a233:=Tryz.isAgg337
 z233:=Tryz.sizeOf337
 v233:=Tryz.zeroValue337
 g17:=by kernel_rfl
 g18:=by kernel_rfl
 g19:=by kernel_rfl
 i0:=by kernel_rfl
 i2:=by kernel_rfl
 i3:=by kernel_rfl
 i4:=by kernel_rfl
 i5:=by kernel_rfl
 i9:=by kernel_rfl
 i20:=by kernel_rfl
 i37:=by kernel_rfl
 i46:=by kernel_rfl
 i51:=by kernel_rfl
 i53:=by kernel_rfl
 i171:=by kernel_rfl
 i173:=by kernel_rfl
 i212:=by kernel_rfl
 i232:=by kernel_rfl
 i233:=by kernel_rfl
 m17:=by kernel_rfl
 m18:=by kernel_rfl
 m19:=by kernel_rfl }
open Go.RowKit Go.Sort Go.Lib in
theorem Tryz.strconv_FormatInt_10 (n:Int) (h0:-9223372036854775808≤n) (h1:n≤9223372036854775807) (w:World) (htab:Lib.TabIs Tryz.prog w "internal/strconv.uint64pow10" .u64 Lib.pow10Tab):
 Calls Tryz.prog 221 #[.int .i64 n,.int .i64 10] w fun e w'=>e= .returned (.string ⟨(Lib.itoa n).toArray⟩)∧∃k os,w'=grow (w.drewN k) os:=Any.strconv_FormatInt_10 Tryz.laysM173 n h0 h1 w htab
end Go.Proofs
namespace Go.Proofs.YtibhabajknikcaaGreatDoor
open Go.RowKit Go.Sort
structure zdg (w:World) (a:Option Addr) (b off n:Nat) (ss:List ByteArray):Prop where
 len:ss.length=n
 addr:0<n→a=some ⟨b,off,none⟩
 low:0<n→b<w.heap.size
 cell:∀i,i<n→w.cell? ⟨b,off+i,none⟩=some (.string (ss.getD i ByteArray.empty))
 fit:∀i,i<n→(ss.getD i ByteArray.empty).size≤9223372036854775807
theorem zae {a b:Bool} (h:a=b):Ending.returned (.bool a)= .returned (.bool b):=by rw [h]
theorem ret_str {a b:ByteArray} (h:a=b):Ending.returned (.string a)= .returned (.string b):=by rw [h]
theorem gPow:Tryz.prog.globalNamed "internal/strconv.uint64pow10" =some 13:=by kernel_rfl
abbrev Tab (w:World):Prop:=Lib.TabIs Tryz.prog w "internal/strconv.uint64pow10" .u64 Lib.pow10Tab
theorem Tab.below {B:Nat} {w w':World} (h:Tab w) (hb:Below B w w') (hB:13<B):Tab w':=var?_below hb gPow hB h
theorem zdb {w w':World} {a:Option Addr} {b off n:Nat} {ss:List ByteArray} (h:zdg w a b off n ss) (hb:Below w.heap.size w w'):zdg w' a b off n ss:=
 ⟨h.len,h.addr,fun h0=>by have:=h.low h0;have:=hb.size;omega,fun i hi=> (hb.cell (p:=⟨b,off+i,none⟩) (h.low (by omega))).trans (h.cell i hi),h.fit⟩
theorem info9:(Tryz.prog.info? 9).map (fun i=> (i.zero,i.size,i.bytes))=some (some (.string ⟨#[]⟩),1,16):=by kernel_rfl
def RowAt (w:World) (g:Nat) (T:TypeId) (C:Array Value):Prop:=w.heap[g]?=some (.cells C T (0,0))
theorem RowAt.cell {w:World} {g:Nat} {T:TypeId} {C:Array Value} (h:RowAt w g T C) (j:Nat):w.cell? ⟨g,j,none⟩=C[j]?:=Lib.cell_of_heap h j
theorem RowAt.frozen {w:World} {g:Nat} {T:TypeId} {C:Array Value} (h:RowAt w g T C) (j:Nat):w.frozen? ⟨g,j,none⟩=false:=Lib.frozen_of_heap h j
theorem RowAt.set {w:World} {g:Nat} {T:TypeId} {C:Array Value} (h:RowAt w g T C) (j:Nat) (v:Value):RowAt (w.setCell ⟨g,j,none⟩ v) g T (C.setIfInBounds j v):=by
 unfold RowAt at*;simp [World.setCell,Array.getElem?_modify,h]
theorem RowAt.lt {w:World} {g:Nat} {T:TypeId} {C:Array Value} (h:RowAt w g T C):g<w.heap.size:=(Array.getElem?_eq_some_iff.1 h).1
theorem RowAt.new (w:World) (T:TypeId) (C:Array Value):RowAt (w.alloc (.cells C T)) w.heap.size T C:=by
 show (w.heap.push (.cells C T (0,0)))[w.heap.size]?=_;simp
theorem grown_refl (w:World) (r:Option Nat):w.grownBy w r:=⟨rfl,rfl,rfl,Nat.le_refl _,fun _ _ _=>rfl⟩
theorem grown_drewN (w:World) (q:Nat) (r:Option Nat):w.grownBy (w.drewN q) r:=⟨rfl,rfl,rfl,Nat.le_refl _,fun _ _ _=>rfl⟩
theorem zcc {w w1 w2:World} {r:Option Nat} (h:w.grownBy w1 r) (hb:Below w1.heap.size w1 w2):w.grownBy w2 r:=
 ⟨hb.os.trans h.os,hb.tape.trans h.tape,hb.output.trans h.output,Nat.le_trans h.size hb.size,fun k hk hr=> (hb.block k (Nat.lt_of_lt_of_le hk h.size)).trans (h.block k hk hr)⟩
theorem zah {w w1 w2:World} {r:Option Nat} (h:w.grownBy w1 r) (h2:w1.grownBy w2 r):w.grownBy w2 r:=
 ⟨h2.os.trans h.os,h2.tape.trans h.tape,h2.output.trans h.output,Nat.le_trans h.size h2.size,fun k hk hr=> (h2.block k (Nat.lt_of_lt_of_le hk h.size) hr).trans (h.block k hk hr)⟩
theorem grown_set (w:World) (b o:Nat) (v:Value):w.grownBy (w.setCell ⟨b,o,none⟩ v) (some b):=
 ⟨rfl,rfl,rfl,by simp [World.setCell],fun k _ hk=>Below.heap_setCell _ _ _ _ (fun e=>hk (by simp [e]))⟩
theorem RowAt.below {w w':World} {g:Nat} {T:TypeId} {C:Array Value} {B:Nat} (h:RowAt w g T C) (hb:Below B w w') (hg:g<B):RowAt w' g T C:=(hb.block g hg).trans h
structure Ready (w:World):Prop where
 tab:Tab w
 syn:∃tp p,w.var? Tryz.prog "strconv.ErrSyntax" =some #[.iface tp p]
 rng:∃tp p,w.var? Tryz.prog "strconv.ErrRange" =some #[.iface tp p]
 six:25≤w.heap.size
theorem gSyn:Tryz.prog.globalNamed "strconv.ErrSyntax" =some 16:=by kernel_rfl
theorem gRng:Tryz.prog.globalNamed "strconv.ErrRange" =some 17:=by kernel_rfl
theorem Ready.below {w w':World} (h:Ready w) (hb:Below 25 w w'):Ready w':=by
 obtain ⟨t1,p1,h1⟩:=h.syn;obtain ⟨t2,p2,h2⟩:=h.rng;exact ⟨h.tab.below hb (by omega),⟨t1,p1,var?_below hb gSyn (by omega) h1⟩,⟨t2,p2,var?_below hb gRng (by omega) h2⟩,by have:=h.six;have:=hb.size;omega⟩
def inNum (n:Int):Bool:=decide (-1000000000000000000≤n∧n≤1000000000000000000)
theorem dec_step (n:Nat) (h:10≤n):Lib.decDigits n=Lib.decDigits (n/10)++ [UInt8.ofNat (48+n%10)]:=by
 rw [Lib.decDigits,dif_neg (by omega)]
theorem conv_one (w:World) (z:Int) (h0:0≤z) (h1:z<256):
  (convert 22 9 (.slice (some ⟨w.heap.size,0,none⟩) 1 1)).run Tryz.prog (w.alloc (.cells #[.int .u8 z] 5))= .ok (.string ⟨[UInt8.ofNat z.toNat].toArray⟩) (w.alloc (.cells #[.int .u8 z] 5)):=by
 refine run_convert_bytes_back _ 22 9 5 ⟨w.heap.size,0,none⟩ 1 [UInt8.ofNat z.toNat] Tryz.underlying22 Tryz.underlying5 Tryz.underlying9 ?_;intro j hj;obtain rfl:j=0:=by simpa using hj
 have e:((UInt8.ofNat z.toNat).toNat:Int)=z:=by
  rw [UInt8.toNat_ofNat'];omega
 simp only [List.getElem_cons_zero,e];exact cell_one_new w (.int .u8 z) 5 0 _ rfl
theorem dec_last (k:Nat) (h:k<10):Lib.decDigits k=[UInt8.ofNat (48+k)]:=Lib.decDigits_one h
theorem dec_any (n:Nat) (w:World) (hn:n≤9223372036854775807):
  Calls Tryz.prog 71 #[.int .i64 n] w fun e w'=>e= .returned (.string ⟨(Lib.decDigits n).toArray⟩)∧Below w.heap.size w w':=by
 have hneg:decide ((n:Int)<0)=false:=by simp
 go_enter Tryz.func71,Tryz.ntmps71;go_wp2;go_loopw [0,3] (fun m s wr=>∃(k:Nat) (acc:List UInt8),k≤n∧m= .int .i64 k∧s= .string ⟨acc.toArray⟩∧Lib.decDigits k++acc=Lib.decDigits n∧2*acc.length+k≤n∧Below w.heap.size w wr) (fun m _ _=> (intOf m).toNat)
 case atStart=>exact ⟨n,[],by omega,rfl,rfl,by simp,by simp,Below.refl _ _⟩
 case round=>
  obtain ⟨k,acc,hk,rfl,rfl,hacc,hal,bk⟩:=hrel;have HA:Hid (Lib.decDigits k++acc=Lib.decDigits n):=hacc;clear hacc;have sk:=bk.size;by_cases hlt:10≤k
  ·have hcv:=conv_one wr (48+(k:Int)%10) (by omega) (by omega);go_wp2;go_roundw
   case rel=>
    refine ⟨k/10,[UInt8.ofNat (48+k%10)]++acc,by omega,by go_num,?_,?_,by simp;omega,bk.alloc sk _⟩
    ·exact congrArg Value.string (by rw [show (48+UInt8.ofNat (k%10))=UInt8.ofNat (48+k%10) from by simp];exact ByteArray.mk_append_mk [UInt8.ofNat (48+k%10)] acc)
    ·rw [←HA.out,dec_step k hlt];simp
   case measure=>simp [intOf];omega
  ·have hcv:=conv_one wr (48+(k:Int)) (by omega) (by omega);go_wp2;go_ret;refine ⟨ret_str ?_,bk.alloc sk _⟩;rw [show (48+UInt8.ofNat k)=UInt8.ofNat (48+k) from by simp,←HA.out,dec_last k (by omega)];exact ByteArray.mk_append_mk [UInt8.ofNat (48+k)] acc
def digI:Nat→List UInt8→Option Nat
 |acc,[]=>some acc
 |acc,c::r=>if c.toNat<48∨57<c.toNat∨100000000000000000<acc then none else digI (acc*10+(c.toNat-48)) r
def negI (l:List UInt8):Bool:=decide (1<l.length)&&decide (l.head?=some 45)
def bodyI (l:List UInt8):List UInt8:=if negI l then l.tail else l
def intI (l:List UInt8):Int×Bool:=
 if (bodyI l).length<1∨19<(bodyI l).length∨((bodyI l).head?=some 48∧(1<(bodyI l).length∨negI l=true)) then (0,false)
 else match digI 0 (bodyI l) with
  |none=> (0,false)
  |some n=> (if negI l then-(n:Int) else n,inNum (if negI l then-(n:Int) else n))
section
variable {P : Program} {ops : Array Oper} {Q : Exit → Act → World → Prop} {md : Region.Mode}
theorem ready_mem {l:Array Bool} {i:Nat} (h:i∈Region.ready md ops l):i<ops.size∧l.getD i true=false∧((ops[i]?).map (·.after.all fun e=>!Region.binds md e||l.getD e.on false)).getD false=true:=by
 unfold Region.ready at h;rw [List.mem_filter,List.mem_range,Bool.and_eq_true] at h;exact ⟨h.1,by simpa using h.2.1,h.2.2⟩
def unl (l:Array Bool):Nat:=l.toList.countP (fun b=>!b)
theorem unl_set {l:Array Bool} {i:Nat} (h:l.getD i true=false):unl (l.setIfInBounds i true)+1=unl l:=by
 have hi:i<l.size:=by
  by_cases hi:i<l.size
  ·exact hi
  ·rw [Array.getD_eq_getD_getElem?,Array.getElem?_eq_none (by omega)] at h;cases h
 have hi':i<l.toList.length:=by simpa using hi
 have hv:l.toList[i]=false:=by
  rw [Array.getD_eq_getD_getElem?,Array.getElem?_eq_getElem hi] at h;simpa using h
 have hpos:0<l.toList.countP (fun b=>!b):=List.countP_pos_iff.2 ⟨_,List.getElem_mem hi',by rw [hv];rfl⟩;unfold unl;rw [Array.toList_setIfInBounds,List.countP_set hi',hv,show (if (!false)=true then 1 else 0)=1 from rfl,show (if (!true)=true then 1 else 0)=0 from rfl];omega
theorem ready_none {l:Array Bool} (h:unl l=0):Region.ready md ops l=[]:=by
 apply List.eq_nil_iff_forall_not_mem.2;intro i hi;have hm:=(ready_mem hi).2.1;have:=unl_set hm;omega
theorem wpAnyH_inv (I:Array Bool→Act→World→Prop)
  (hstep:∀l a w i,I l a w→i∈Region.ready md ops l→wpOp P ops Q i (fun a' w'=>I (l.setIfInBounds i true) a' w') a w)
  (hdone:∀l a w,I l a w→Region.ready md ops l=[]→Q .normal a w):∀(fuel:Nat) l a w,I l a w→unl l≤fuel→wpAnyH P md ops Q (fun _=>True) fuel l a w
 |0,l,a,w,h,hu=>⟨ready_none (by omega),hdone l a w h (ready_none (by omega))⟩
 |fuel+1,l,a,w,h,hu=>⟨fun h0=>hdone l a w h h0,fun i hi=>wpOp_mono (fun a' w' h'=>⟨trivial,wpAnyH_inv I hstep hdone fuel _ a' w' h' (by have:=unl_set (ready_mem hi).2.1;omega)⟩) (hstep l a w i h hi)⟩
theorem all_listed {l:Array Bool} (hb:(List.range ops.size).all (fun i=> ((ops[i]?).map (·.after.all fun e=>!Region.binds md e||decide (e.on<i))).getD false)=true) (h:Region.ready md ops l=[]):∀i,i<ops.size→l.getD i true=true:=by
 intro i;induction i using Nat.strongRecOn with
 |_ i ih=>
  intro hi;cases hl:l.getD i true with
  |true=>rfl
  |false=>
   exfalso;have hm:i∈Region.ready md ops l:=by
    unfold Region.ready;rw [List.mem_filter,List.mem_range,Bool.and_eq_true];refine ⟨hi,by rw [hl];rfl,?_⟩;have hb':=List.all_eq_true.1 hb i (List.mem_range.2 hi);rw [Array.getElem?_eq_getElem hi] at hb' ⊢;show (ops[i].after.all fun e=>!Region.binds md e||l.getD e.on false)=true;have hb2:(ops[i].after.all fun e=>!Region.binds md e||decide (e.on<i))=true:=hb';rw [Array.all_eq_true] at hb2 ⊢;intro j hj;have hj2:=hb2 j hj;rw [Bool.or_eq_true] at hj2 ⊢;rcases hj2 with hj2|hj2
    ·exact .inl hj2
    have hlt:=of_decide_eq_true hj2;have:=ih _ hlt (by omega);right;have hi2:i<l.size:=by
     by_cases h2:i<l.size
     ·exact h2
     ·rw [Array.getD_eq_getD_getElem?,Array.getElem?_eq_none (by omega)] at hl;cases hl
    rw [Array.getD_eq_getD_getElem?,Array.getElem?_eq_getElem (by omega)] at this ⊢;exact this
   rw [h] at hm;cases hm
theorem wp_region_inv (I:Array Bool→Act→World→Prop) {id:Nat} {a:Act} {w:World} (hm:P.follows .mixedOrders=true) (h0:I (Array.replicate ops.size false) a w.drew)
  (hstep:∀l a w i,I l a w→i∈Region.ready .any ops l→wpOp P ops Q i (fun a' w'=>I (l.setIfInBounds i true) a' w') a w)
  (hb:(List.range ops.size).all (fun i=> ((ops[i]?).map (·.after.all fun e=>!Region.binds .any e||decide (e.on<i))).getD false)=true)
  (hdone:∀l a w,I l a w→(∀i,i<ops.size→l.getD i true=true)→Q .normal a w):(Code.region id ops true).wp P Q a w:=
 wp_region_held hm (wpAnyH_inv I hstep (fun l a w h hr=>hdone l a w h (all_listed hb hr)) _ _ _ _ h0 (by unfold unl;rw [Array.toList_replicate];exact Nat.le_trans List.countP_le_length (by simp)))
end
def sl (l:Array Bool) (j:Nat) (v:Value):Value:=if l.getD j false=true then v else undef
theorem zbi {l:Array Bool} {j:Nat} {v:Value} (h:l.getD j false=true):sl l j v=v:=if_pos h
theorem sl_off {l:Array Bool} {j:Nat} {v:Value} (h:l.getD j false=false):sl l j v=undef:=if_neg (by rw [h];simp)
theorem getD_set_ne {l:Array Bool} {i j:Nat} {b:Bool} (h:i≠j):(l.setIfInBounds i true).getD j b=l.getD j b:=by
 rw [Array.getD_eq_getD_getElem?,Array.getD_eq_getD_getElem?,Array.getElem?_setIfInBounds_ne h]
theorem getD_set_self {l:Array Bool} {i:Nat} {b:Bool} (h:i<l.size):(l.setIfInBounds i true).getD i b=true:=by
 rw [Array.getD_eq_getD_getElem?,Array.getElem?_setIfInBounds_self_of_lt h];rfl
theorem zaa {l:Array Bool} {i j:Nat} {v:Value} (h:i≠j):sl (l.setIfInBounds i true) j v=sl l j v:=by
 unfold sl;rw [getD_set_ne h]
theorem zch {l:Array Bool} {i:Nat} {v:Value} (h:i<l.size):sl (l.setIfInBounds i true) i v=v:=zbi (getD_set_self h)
theorem off_of {l:Array Bool} {i:Nat} (h:l.getD i true=false):l.getD i false=false:=by
 rw [Array.getD_eq_getD_getElem?] at h ⊢;cases hx:l[i]? with
 |none=>rfl
 |some b=>rw [hx] at h;exact h
theorem on_of {l:Array Bool} {i:Nat} (h:l.getD i true=true) (hi:i<l.size):l.getD i false=true:=by
 rw [Array.getD_eq_getD_getElem?,Array.getElem?_eq_getElem hi] at h ⊢;exact h
def LastUp (t:Nat) (l:Array Bool):Prop:=l.getD t false=true→∀j,j<t→l.getD j false=true
theorem last_rep {n t:Nat}:LastUp t (Array.replicate n false):=fun h=>by
 rw [Array.getD_eq_getD_getElem?,Array.getElem?_replicate] at h;split at h<;>cases h
theorem LastUp.off {t i:Nat} {l:Array Bool} (h:LastUp t l) (hi:i<t) (ho:l.getD i false=false):l.getD t false=false:=by
 cases hx:l.getD t false with
 |false=>rfl
 |true=>rw [h hx i hi] at ho;cases ho
theorem LastUp.next {t i:Nat} {l:Array Bool} (h:LastUp t l) (hi:i<t) (ho:l.getD i false=false):LastUp t (l.setIfInBounds i true):=fun hx=>by
 rw [getD_set_ne (show i≠t by omega),h.off hi ho] at hx;cases hx
theorem LastUp.last {t:Nat} {l:Array Bool} (h:∀j,j<t→l.getD j false=true):LastUp t (l.setIfInBounds t true):=fun _ j hj=>by
 rw [getD_set_ne (show t≠j by omega)];exact h j hj
end Go.Proofs.YtibhabajknikcaaGreatDoor
