import Derived.Test.YtokafonppgppdaaGreatDoorA0
import Derived.JoinedTies
import Derived.Shelf.Strings.BuilderK
import Derived.Shelf.Strconv.Itoa4
import Derived.Shelf.Strconv.ErrVarParseInt
import Derived.WalkSpells
import Derived.WalkLawsBesides
import Derived.BigQuiet
import Derived.Lib.QuietBelow
import Derived.Deep.RegionHeldLaw
import Derived.Test.YtokafonppgppdaaGreatDoorProg
set_option maxHeartbeats 1000000
set_option maxRecDepth 100000
namespace Go.Proofs
open Go.Shelf
def Tryz.laysM173_ren:Go.Shelf.Ren:=⟨fun|173=>115|246=>160|283=>220|284=>221|285=>222|286=>223|129=>268|317=>267|318=>269|319=>270|320=>271|337=>295|338=>296|n=>n,fun|2=>2|3=>3|9=>9|4=>4|171=>242|0=>0|53=>158|37=>22|5=>5|173=>245|212=>283|51=>284|20=>20|213=>285|46=>160|232=>322|233=>323|n=>n,fun|17=>10|18=>13|19=>14|n=>n⟩
theorem Tryz.laysM173:Go.Proofs.LaysM.n173 Tryz.prog Tryz.laysM173_ren:={
 mixed:=by kernel_rfl
 f129:=Tryz.func268.trans (congrArg some (by kernel_rfl))
 f173:=Tryz.func115.trans (congrArg some (by kernel_rfl))
 f246:=Tryz.func160.trans (congrArg some (by kernel_rfl))
 f283:=Tryz.func220.trans (congrArg some (by kernel_rfl))
 f284:=Tryz.func221.trans (congrArg some (by kernel_rfl))
 f285:=Tryz.func222.trans (congrArg some (by kernel_rfl))
 f286:=Tryz.func223.trans (congrArg some (by kernel_rfl))
 f317:=Tryz.func267.trans (congrArg some (by kernel_rfl))
 f318:=Tryz.func269.trans (congrArg some (by kernel_rfl))
 f319:=Tryz.func270.trans (congrArg some (by kernel_rfl))
 f320:=Tryz.func271.trans (congrArg some (by kernel_rfl))
 f337:=Tryz.func295.trans (congrArg some (by kernel_rfl))
 f338:=Tryz.func296.trans (congrArg some (by kernel_rfl))
 t0:=Tryz.underlying0
 a0:=Tryz.isAgg0
 z0:=Tryz.sizeOf0
 v0:=Tryz.zeroValue0
 t2:=Tryz.underlying2
 a2:=Tryz.isAgg2
 z2:=Tryz.sizeOf2
 v2:=Tryz.zeroValue2
 t3:=Tryz.underlying3
 a3:=Tryz.isAgg3
 z3:=Tryz.sizeOf3
 v3:=Tryz.zeroValue3
 t4:=Tryz.underlying4
 a4:=Tryz.isAgg4
 z4:=Tryz.sizeOf4
 v4:=Tryz.zeroValue4
 t5:=Tryz.underlying5
 a5:=Tryz.isAgg5
 z5:=Tryz.sizeOf5
 v5:=Tryz.zeroValue5
 t9:=Tryz.underlying9
 a9:=Tryz.isAgg9
 z9:=Tryz.sizeOf9
 v9:=Tryz.zeroValue9
 t20:=Tryz.underlying20
 a20:=Tryz.isAgg20
 z20:=Tryz.sizeOf20
 v20:=Tryz.zeroValue20
 t37:=Tryz.underlying22
 a37:=Tryz.isAgg22
 z37:=Tryz.sizeOf22
 v37:=Tryz.zeroValue22
 t46:=Tryz.underlying160
 a46:=Tryz.isAgg160
 z46:=Tryz.sizeOf160
 v46:=Tryz.zeroValue160
 t51:=Tryz.underlying284
 a51:=Tryz.isAgg284
 z51:=Tryz.sizeOf284
 v51:=Tryz.zeroValue284
 t53:=Tryz.underlying158
 a53:=Tryz.isAgg158
 z53:=Tryz.sizeOf158
 v53:=Tryz.zeroValue158
 t171:=Tryz.underlying242
 a171:=Tryz.isAgg242
 z171:=Tryz.sizeOf242
 v171:=Tryz.zeroValue242
 t173:=Tryz.underlying245
 a173:=Tryz.isAgg245
 z173:=Tryz.sizeOf245
 v173:=Tryz.zeroValue245
 t212:=Tryz.underlying283
 a212:=Tryz.isAgg283
 z212:=Tryz.sizeOf283
 v212:=Tryz.zeroValue283
 t213:=Tryz.underlying285
 a213:=Tryz.isAgg285
 z213:=Tryz.sizeOf285
 t232:=Tryz.underlying322
 a232:=Tryz.isAgg322
 z232:=Tryz.sizeOf322
 v232:=Tryz.zeroValue322
 t233:=Tryz.underlying323
 a233:=Tryz.isAgg323
 z233:=Tryz.sizeOf323
 v233:=Tryz.zeroValue323
 g17:=by kernel_rfl
 g18:=by kernel_rfl
 g19:=by kernel_rfl
 i0:=by kernel_rfl
 i2:=by kernel_rfl
 i3:=by kernel_rfl
 i4:=by kernel_rfl
 i5:=by kernel_rfl
 i9:=by kernel_rfl
 i20:=by kernel_rfl
 i37:=by kernel_rfl
 i46:=by kernel_rfl
 i51:=by kernel_rfl
 i53:=by kernel_rfl
 i171:=by kernel_rfl
 i173:=by kernel_rfl
 i212:=by kernel_rfl
 i232:=by kernel_rfl
 i233:=by kernel_rfl
 m17:=by kernel_rfl
 m18:=by kernel_rfl
 m19:=by kernel_rfl }
open Go.RowKit Go.Sort Go.Lib in
theorem Tryz.strconv_FormatInt_10 (n:Int) (h0:-9223372036854775808<=n) (h1:n<=9223372036854775807) (w:World) (htab:Lib.TabIs Tryz.prog w "internal/strconv.uint64pow10" .u64 Lib.pow10Tab):
 Calls Tryz.prog 115 #[.int .i64 n,.int .i64 10] w fun e w'=>e= .returned (.string ⟨(Lib.itoa n).toArray⟩)/\∃k os,w'=grow (w.drewN k) os:=Any.strconv_FormatInt_10 Tryz.laysM173 n h0 h1 w htab
end Go.Proofs
namespace Go.Proofs.YtokafonppgppdaaGreatDoor
open Tryz
open Go.RowKit Go.Sort
variable {b:Bool} {B n g i j t:Nat} {w w' w1 w2:World} {T:TypeId} {C:Array Value} {r:Option Nat} {l:Array Bool} {v:Value}
structure zdg (w:World) (a:Option Addr) (b off n:Nat) (ss:List ByteArray):Prop where
 len:ss.length=n
 addr:0<n->a=some ⟨b,off,none⟩
 low:0<n->b<w.heap.size
 cell:∀i,i<n->w.cell? ⟨b,off+i,none⟩=some (.string (ss.getD i ByteArray.empty))
 fit:∀i,i<n->(ss.getD i ByteArray.empty).size<=9223372036854775807
theorem zae {a:Bool} (h:a=b):Ending.returned (.bool a)= .returned (.bool b):=by rw [h]
theorem zye {a b:ByteArray} (h:a=b):Ending.returned (.string a)= .returned (.string b):=by rw [h]
theorem yi0:prog.globalNamed "internal/strconv.uint64pow10" =some 10:=by kernel_rfl
abbrev Tab (w:World):Prop:=Lib.TabIs prog w "internal/strconv.uint64pow10" .u64 Lib.pow10Tab
theorem Tab.bw (h:Tab w) (hb:Below B w w') (hB:10<B):Tab w':=var?_below hb yi0 hB h
theorem zdb {a:Option Addr} {b off:Nat} {ss:List ByteArray} (h:zdg w a b off n ss) (hb:Bl w w'):zdg w' a b off n ss:=
 ⟨h.len,h.addr,fun h0=>by have:=h.low h0;have:=hb.size;omega,fun i hi=> (hb.cell (p:=⟨b,off+i,none⟩) (h.low (by omega))).trans (h.cell i hi),h.fit⟩
theorem zmw:(prog.info? 9).map (fun i=> (i.zero,i.size,i.bytes))=some (some (.string ⟨#[]⟩),1,16):=by kernel_rfl
def zab (w:World) (g:Nat) (T:TypeId) (C:Array Value):Prop:=w.heap[g]?=some (.cells C T (0,0))
theorem zab.cell (h:zab w g T C) (j:Nat):w.cell? ⟨g,j,none⟩=C[j]?:=Lib.cell_of_heap h j
theorem zab.frozen (h:zab w g T C) (j:Nat):w.frozen? ⟨g,j,none⟩=false:=Lib.frozen_of_heap h j
theorem zab.set (h:zab w g T C) (j:Nat) (v:Value):zab (w.setCell ⟨g,j,none⟩ v) g T (C.setIfInBounds j v):=by
 unfold zab at*;simp [World.setCell,Array.getElem?_modify,h]
theorem zab.lt (h:zab w g T C):g<w.heap.size:=(Array.getElem?_eq_some_iff.1 h).1
theorem zab.new (w:World) (T:TypeId) (C:Array Value):zab (w.alloc (.cells C T)) w.heap.size T C:=by
 show (w.heap.push (.cells C T (0,0)))[w.heap.size]?=_;simp
theorem za0 (w:World) (r:Option Nat):w.grownBy w r:=⟨rfl,rfl,rfl,Qc _,fun _ _ _=>rfl⟩
theorem zd0 (w:World) (q:Nat) (r:Option Nat):w.grownBy (w.drewN q) r:=⟨rfl,rfl,rfl,Qc _,fun _ _ _=>rfl⟩
theorem zcc (h:w.grownBy w1 r) (hb:Bl w1 w2):w.grownBy w2 r:=
 ⟨hb.os.trans h.os,hb.tape.trans h.tape,hb.output.trans h.output,Qj h.size hb.size,fun k hk hr=> (hb.block k (Qr hk h.size)).trans (h.block k hk hr)⟩
theorem zah (h:w.grownBy w1 r) (h2:w1.grownBy w2 r):w.grownBy w2 r:=
 ⟨h2.os.trans h.os,h2.tape.trans h.tape,h2.output.trans h.output,Qj h.size h2.size,fun k hk hr=> (h2.block k (Qr hk h.size) hr).trans (h.block k hk hr)⟩
theorem zzx (w:World) (b o:Nat) (v:Value):w.grownBy (w.setCell ⟨b,o,none⟩ v) (some b):=
 ⟨rfl,rfl,rfl,by simp [World.setCell],fun k _ hk=>Below.heap_setCell _ _ _ _ (fun e=>hk (by simp [e]))⟩
theorem zab.bw (h:zab w g T C) (hb:Below B w w') (hg:g<B):zab w' g T C:=(hb.block g hg).trans h
structure Ready (w:World):Prop where
 tab:Tab w
 syn:∃tp p,w.var? prog "strconv.ErrSyntax" =some #[.iface tp p]
 rng:∃tp p,w.var? prog "strconv.ErrRange" =some #[.iface tp p]
 six:22<=w.heap.size
theorem yjn:prog.globalNamed "strconv.ErrSyntax" =some 8:=by kernel_rfl
theorem ykf:prog.globalNamed "strconv.ErrRange" =some 9:=by kernel_rfl
theorem Ready.bw (h:Ready w) (hb:Below 22 w w'):Ready w':=by
 obtain ⟨t1,p1,h1⟩:=h.syn;obtain ⟨t2,p2,h2⟩:=h.rng;exact ⟨h.tab.bw hb (by omega),⟨t1,p1,var?_below hb yjn (by omega) h1⟩,⟨t2,p2,var?_below hb ykf (by omega) h2⟩,by have:=h.six;have:=hb.size;omega⟩
def zbw (n:Int):Bool:=decide (-1000000000000000000<=n/\n<=1000000000000000000)
theorem yc7 (n:Nat) (h:10<=n):Lib.decDigits n=Lib.decDigits (n/10)++ [UInt8.ofNat (48+n%10)]:=by
 rw [Lib.decDigits,dif_neg (by omega)]
theorem zuz (w:World) (z:Int) (h0:0<=z) (h1:z<256):
  (convert 22 9 (.slice (some ⟨w.heap.size,0,none⟩) 1 1)).run prog (w.alloc (.cells #[.int .u8 z] 5))= .ok (.string ⟨[UInt8.ofNat z.toNat].toArray⟩) (w.alloc (.cells #[.int .u8 z] 5)):=by
 refine run_convert_bytes_back _ 22 9 5 ⟨w.heap.size,0,none⟩ 1 [UInt8.ofNat z.toNat] underlying22 underlying5 underlying9 ?_;intro j hj;obtain rfl:j=0:=by simpa using hj
 have e:((UInt8.ofNat z.toNat).toNat:Int)=z:=by
  rw [UInt8.toNat_ofNat'];omega
 simp only [List.getElem_cons_zero,e];exact cell_one_new w (.int .u8 z) 5 0 _ rfl
theorem ycx (k:Nat) (h:k<10):Lib.decDigits k=[UInt8.ofNat (48+k)]:=Lib.decDigits_one h
theorem yba (n:Nat) (w:World) (hn:n<=9223372036854775807):
  Calls prog 148 #[.int .i64 n] w fun e w'=>e= .returned (.string ⟨(Lib.decDigits n).toArray⟩)/\Bl w w':=by
 have hneg:decide ((n:Int)<0)=false:=by simp
 go_enter func148,ntmps148;go_wp2;go_loopw [0,3] (fun m s wr=>∃(k:Nat) (acc:List UInt8),k<=n/\m= .int .i64 k/\s= .string ⟨acc.toArray⟩/\Lib.decDigits k++acc=Lib.decDigits n/\2*acc.length+k<=n/\Bl w wr) (fun m _ _=> (intOf m).toNat)
 case atStart=>exact ⟨n,[],by omega,rfl,rfl,by simp,by simp,Qb _ _⟩
 case round=>
  obtain ⟨k,acc,hk,rfl,rfl,hacc,hal,bk⟩:=hrel;have HA:Hid (Lib.decDigits k++acc=Lib.decDigits n):=hacc;clear hacc;have sk:=bk.size;by_cases hlt:10<=k
  ·have hcv:=zuz wr (48+(k:Int)%10) (by omega) (by omega);go_wp2;go_roundw
   case rel=>
    refine ⟨k/10,[UInt8.ofNat (48+k%10)]++acc,by omega,by go_num,?_,?_,by simp;omega,bk.alloc sk _⟩
    ·exact congrArg Value.string (by rw [show (48+UInt8.ofNat (k%10))=UInt8.ofNat (48+k%10) from by simp];exact ByteArray.mk_append_mk [UInt8.ofNat (48+k%10)] acc)
    ·rw [<-HA.out,yc7 k hlt];simp
   case measure=>simp [intOf];omega
  ·have hcv:=zuz wr (48+(k:Int)) (by omega) (by omega);go_wp2;go_ret;refine ⟨zye ?_,bk.alloc sk _⟩;rw [show (48+UInt8.ofNat k)=UInt8.ofNat (48+k) from by simp,<-HA.out,ycx k (by omega)];exact ByteArray.mk_append_mk [UInt8.ofNat (48+k)] acc
def zft:Nat->List UInt8->Option Nat
 |acc,[]=>some acc
 |acc,c::r=>if c.toNat<48\/57<c.toNat\/100000000000000000<acc then none else zft (acc*10+(c.toNat-48)) r
def zjc (l:List UInt8):Bool:=decide (1<l.length)&&decide (l.head?=some 45)
def zd9 (l:List UInt8):List UInt8:=if zjc l then l.tail else l
def zeq (l:List UInt8):Int×Bool:=
 if (zd9 l).length<1\/19<(zd9 l).length\/((zd9 l).head?=some 48/\(1<(zd9 l).length\/zjc l=true)) then (0,false)
 else match zft 0 (zd9 l) with
  |none=> (0,false)
  |some n=> (if zjc l then-(n:Int) else n,zbw (if zjc l then-(n:Int) else n))
section
variable {P : Program} {ops : Array Oper} {Q : Exit -> Act -> World -> Prop} {md : Region.Mode}
theorem zg5 (h:i∈Region.ready md ops l):i<ops.size/\l.getD i true=false/\((ops[i]?).map (·.after.all fun e=>!Region.binds md e||l.getD e.on false)).getD false=true:=by
 unfold Region.ready at h;rw [List.mem_filter,List.mem_range,Qh] at h;exact ⟨h.1,by simpa using h.2.1,h.2.2⟩
def unl (l:Array Bool):Nat:=l.toList.countP (fun b=>!b)
theorem zpb (h:l.getD i true=false):unl (l.setIfInBounds i true)+1=unl l:=by
 have hi:i<l.size:=by
  by_cases hi:i<l.size
  ·exact hi
  ·rw [Array.getD_eq_getD_getElem?,Array.getElem?_eq_none (by omega)] at h;cases h
 have hi':i<l.toList.length:=by simpa using hi
 have hv:l.toList[i]=false:=by
  rw [Array.getD_eq_getD_getElem?,Array.getElem?_eq_getElem hi] at h;simpa using h
 have hpos:0<l.toList.countP (fun b=>!b):=List.countP_pos_iff.2 ⟨_,Qv hi',by rw [hv];rfl⟩;unfold unl;rw [Array.toList_setIfInBounds,List.countP_set hi',hv,show (if (!false)=true then 1 else 0)=1 from rfl,show (if (!true)=true then 1 else 0)=0 from rfl];omega
theorem znr (h:unl l=0):Region.ready md ops l=[]:=by
 apply List.eq_nil_iff_forall_not_mem.2;intro i hi;have hm:=(zg5 hi).2.1;have:=zpb hm;omega
theorem zm9 (I:Array Bool->Act->World->Prop)
  (hstep:∀l a w i,I l a w->i∈Region.ready md ops l->wpOp P ops Q i (fun a' w'=>I (l.setIfInBounds i true) a' w') a w)
  (hdone:∀l a w,I l a w->Region.ready md ops l=[]->Q .normal a w):∀(fuel:Nat) l a w,I l a w->unl l<=fuel->wpAnyH P md ops Q (fun _=>True) fuel l a w
 |0,l,a,w,h,hu=>⟨znr (by omega),hdone l a w h (znr (by omega))⟩
 |fuel+1,l,a,w,h,hu=>⟨fun h0=>hdone l a w h h0,fun i hi=>wpOp_mono (fun a' w' h'=>⟨trivial,zm9 I hstep hdone fuel _ a' w' h' (by have:=zpb (zg5 hi).2.1;omega)⟩) (hstep l a w i h hi)⟩
theorem zv9 (hb:(List.range ops.size).all (fun i=> ((ops[i]?).map (·.after.all fun e=>!Region.binds md e||decide (e.on<i))).getD false)=true) (h:Region.ready md ops l=[]):∀i,i<ops.size->l.getD i true=true:=by
 intro i;induction i using Nat.strongRecOn with
 |_ i ih=>
  intro hi;cases hl:l.getD i true with
  |true=>rfl
  |false=>
   exfalso;have hm:i∈Region.ready md ops l:=by
    unfold Region.ready;rw [List.mem_filter,List.mem_range,Qh];refine ⟨hi,by rw [hl];rfl,?_⟩;have hb':=Qw.1 hb i (List.mem_range.2 hi);rw [Array.getElem?_eq_getElem hi] at hb' ⊢;show (ops[i].after.all fun e=>!Region.binds md e||l.getD e.on false)=true;have hb2:(ops[i].after.all fun e=>!Region.binds md e||decide (e.on<i))=true:=hb';rw [Array.all_eq_true] at hb2 ⊢;intro j hj;have hj2:=hb2 j hj;rw [Bool.or_eq_true] at hj2 ⊢;rcases hj2 with hj2|hj2
    ·exact .inl hj2
    have hlt:=Qg hj2;have:=ih _ hlt (by omega);right;have hi2:i<l.size:=by
     by_cases h2:i<l.size
     ·exact h2
     ·rw [Array.getD_eq_getD_getElem?,Array.getElem?_eq_none (by omega)] at hl;cases hl
    rw [Array.getD_eq_getD_getElem?,Array.getElem?_eq_getElem (by omega)] at this ⊢;exact this
   rw [h] at hm;cases hm
theorem zi2 (I:Array Bool->Act->World->Prop) {id:Nat} {a:Act} (hm:P.follows .mixedOrders=true) (h0:I (Array.replicate ops.size false) a w.drew)
  (hstep:∀l a w i,I l a w->i∈Region.ready .any ops l->wpOp P ops Q i (fun a' w'=>I (l.setIfInBounds i true) a' w') a w)
  (hb:(List.range ops.size).all (fun i=> ((ops[i]?).map (·.after.all fun e=>!Region.binds .any e||decide (e.on<i))).getD false)=true)
  (hdone:∀l a w,I l a w->(∀i,i<ops.size->l.getD i true=true)->Q .normal a w):(Code.region id ops true).wp P Q a w:=
 wp_region_held hm (zm9 I hstep (fun l a w h hr=>hdone l a w h (zv9 hb hr)) _ _ _ _ h0 (by unfold unl;rw [Array.toList_replicate];exact Qj List.countP_le_length (by simp)))
end
def sl (l:Array Bool) (j:Nat) (v:Value):Value:=if l.getD j false=true then v else undef
theorem zbi (h:l.getD j false=true):sl l j v=v:=if_pos h
theorem zyv (h:l.getD j false=false):sl l j v=undef:=if_neg (by rw [h];simp)
theorem getD_set_ne (h:i≠j):(l.setIfInBounds i true).getD j b=l.getD j b:=by
 rw [Array.getD_eq_getD_getElem?,Array.getD_eq_getD_getElem?,Array.getElem?_setIfInBounds_ne h]
theorem zcq (h:i<l.size):(l.setIfInBounds i true).getD i b=true:=by
 rw [Array.getD_eq_getD_getElem?,Array.getElem?_setIfInBounds_self_of_lt h];rfl
theorem zaa (h:i≠j):sl (l.setIfInBounds i true) j v=sl l j v:=by
 unfold sl;rw [getD_set_ne h]
theorem zch (h:i<l.size):sl (l.setIfInBounds i true) i v=v:=zbi (zcq h)
theorem ye9 (h:l.getD i true=false):l.getD i false=false:=by
 rw [Array.getD_eq_getD_getElem?] at h ⊢;cases hx:l[i]? with
 |none=>rfl
 |some b=>rw [hx] at h;exact h
theorem yi8 (h:l.getD i true=true) (hi:i<l.size):l.getD i false=true:=by
 rw [Array.getD_eq_getD_getElem?,Array.getElem?_eq_getElem hi] at h ⊢;exact h
def zhq (t:Nat) (l:Array Bool):Prop:=l.getD t false=true->∀j,j<t->l.getD j false=true
theorem ydf:zhq t (Array.replicate n false):=fun h=>by
 rw [Array.getD_eq_getD_getElem?,Array.getElem?_replicate] at h;split at h<;>cases h
theorem zhq.off (h:zhq t l) (hi:i<t) (ho:l.getD i false=false):l.getD t false=false:=by
 cases hx:l.getD t false with
 |false=>rfl
 |true=>rw [h hx i hi] at ho;cases ho
theorem zhq.next (h:zhq t l) (hi:i<t) (ho:l.getD i false=false):zhq t (l.setIfInBounds i true):=fun hx=>by
 rw [getD_set_ne (show i≠t by omega),h.off hi ho] at hx;cases hx
theorem zhq.last (h:∀j,j<t->l.getD j false=true):zhq t (l.setIfInBounds t true):=fun _ j hj=>by
 rw [getD_set_ne (show t≠j by omega)];exact h j hj
end Go.Proofs.YtokafonppgppdaaGreatDoor
