import GoSem.Claim
import GoSem.ClaimJoined
import GoSem.ClaimMapViews
import Derived.JoinedTies
import Derived.KernelRfl
import Derived.RowKit
import Derived.WalkKit
import Derived.WalkSpells
import Derived.WalkLawsBesides
import Derived.Deep.QuietTactic
import Derived.BigQuiet
import Derived.Test.YtibhabajknikcaaGreatDoorProg
import Derived.Shelf.Strings.BuilderK
import Derived.Shelf.LaysM
import Derived.Shelf.Strconv.Itoa4
import Derived.Laws.IdiomStrings
import Derived.Lib.QuietBelow
import Derived.Shelf.Strings.Builder1
import Derived.Shelf.Small.Strs
import Derived.Shelf.Strings.BuilderF
import Derived.Shelf.Strconv.Itoa0
import Derived.Shelf.Strconv.Itoa1
import Derived.Shelf.Strconv.Itoa2
import Derived.Shelf.Strconv.Itoa3
import Derived.Shelf.Strconv.ParseIntEmpty
import Derived.Shelf.Strconv.Clone
import Derived.Shelf.Strconv.SyntaxError
import Derived.Shelf.LaysC
import Derived.Shelf.Strconv.ToError
import Derived.Shelf.Strconv.Lower
import Derived.Shelf.Strconv.ParseUint10
import Derived.Shelf.Strconv.ParseUint10Empty
import Derived.Shelf.Strconv.ParseUint10Any
import Derived.Shelf.Strconv.ParseInt10
import Derived.Shelf.Strconv.RangeError
import Derived.Shelf.Strconv.ToErrorRange
import Derived.Shelf.Strconv.ParseUintEmpty
import Derived.Shelf.Strconv.ParseUint10b64
import Derived.Shelf.Strconv.ParseUint10b32
import Derived.Shelf.Strconv.ParseUint10b16
import Derived.Shelf.Strconv.ParseUint10b8
import Derived.Shelf.Strconv.ParseUint10At
import Derived.Shelf.Strconv.ParseInt10At64
import Derived.Shelf.Strconv.ParseInt10At32
import Derived.Shelf.Strconv.ParseInt10At16
import Derived.Shelf.Strconv.ParseInt10At8
import Derived.Shelf.Strconv.ParseInt10All
import Derived.Shelf.Strconv.ParseIntPublic10
import Derived.Shelf.Strconv.ErrVarParseInt
import Derived.Shelf.Strings.Search1
import Derived.Shelf.Strings.Search2
import Derived.Shelf.Strings.Search3
import Derived.Shelf.Strings.Shaped
import Derived.Shelf.Strings.Prefix
import Derived.Shelf.Strings.FieldsFuncAny
set_option maxHeartbeats 400000
set_option maxRecDepth 100000
namespace Go.Proofs.YtibhabajknikcaaGreatDoor.Fd
open Go.RowKit
structure StrsIn (w:World) (a:Option Addr) (b off n:Nat) (ss:List ByteArray):Prop where
 len:ss.length=n
 addr:0<n→a=some ⟨b,off,none⟩
 low:0<n→b<w.heap.size
 cell:∀i,i<n→w.cell? ⟨b,off+i,none⟩=some (.string (ss.getD i ByteArray.empty))
 fit:∀i,i<n→(ss.getD i ByteArray.empty).size≤9223372036854775807
theorem ret_bool {a b:Bool} (h:a=b):Ending.returned (.bool a)= .returned (.bool b):=by rw [h]
def okArgs (ss:List ByteArray):Bool:=decide (ss.length≤16)&&ss.all fun s=>decide (s.size≤200)
theorem all_take_succ (ss:List ByteArray) (p:ByteArray→Bool) (k:Nat) (h:k<ss.length):(ss.take (k+1)).all p=((ss.take k).all p&&p (ss.getD k ByteArray.empty)):=by
 rw [List.take_succ_eq_append_getElem h,List.all_append,List.getD_eq_getElem?_getD,List.getElem?_eq_getElem h];simp
theorem all_false_of_take (ss:List ByteArray) (p:ByteArray→Bool) (k:Nat) (h:(ss.take k).all p=false):ss.all p=false:=by
 rw [←List.take_append_drop k ss,List.all_append,h,Bool.false_and]
theorem args46 (a:Option Addr) (b off n c:Nat) (ss:List ByteArray) (w:World) (h:StrsIn w a b off n ss) (hn:n≤2097152):
  Calls Tryz.prog 22 #[.slice a n c] w fun e w'=>e= .returned (.bool (okArgs ss))∧w'=w:=by
 go_enter Tryz.func22,Tryz.ntmps22;go_wp2;go_loop [3] (fun i=>∃(k:Nat),k≤n∧i= .int .i64 k∧((ss.take k).all fun s=>decide (s.size≤200))=true) (fun i=>n-(intOf i).toNat)
 case atStart=>exact ⟨0,by omega,rfl,by simp⟩
 case round=>
  obtain ⟨k,hk,rfl,hall⟩:=hrel;by_cases hlt:k<n
  ·obtain rfl:=h.addr (by omega);have hc:=h.cell k hlt;have hf:=h.fit k hlt;have HA:Hid (((ss.take (k+1)).all fun s=>decide (s.size≤200))=(true&&decide ((ss.getD k ByteArray.empty).size≤200))):=by
    unfold Hid;rw [all_take_succ ss _ k (by rw [h.len];exact hlt),hall]
   clear hall;generalize ss.getD k ByteArray.empty=s at*;go_wp2
   ·go_ret;have hbig:200<(s.size:Int):=by assumption
    have e1:=all_false_of_take ss _ (k+1) (HA.out.trans (by simp;omega));exact ⟨ret_bool (by rw [okArgs,e1,Bool.and_false]),rfl⟩
   ·go_round
    case rel=>exact ⟨k+1,by omega,by go_num,HA.out.trans (by simp;omega)⟩
    case measure=>simp [intOf];omega
  ·have HA:Hid ((ss.take k).all (fun s=>decide (s.size≤200))=true):=hall;clear hall;go_wp2;go_ret;have:k=n:=by omega
   subst this;have e1:=HA.out;rw [List.take_of_length_le (by rw [h.len];exact Nat.le_refl _)] at e1;have hl:=h.len;refine ⟨ret_bool ?_,rfl⟩;rw [okArgs,e1,Bool.and_true,Bool.eq_iff_iff];simp;omega
theorem bulks76 (a:Option Addr) (b off n c:Nat) (ss:List ByteArray) (w:World) (h:StrsIn w a b off n ss) (hn:n≤2097152):
  Calls Tryz.prog 78 #[.slice a n c] w fun e w'=>e= .returned (.bool (ss.all fun s=>decide (s.size≤200)))∧w'=w:=by
 go_enter Tryz.func78,Tryz.ntmps78;go_wp2;go_loop [4,7] (fun _ i=>∃(k:Nat),k≤n∧i= .int .i64 k∧((ss.take k).all fun s=>decide (s.size≤200))=true) (fun _ i=>n-(intOf i).toNat)
 case atStart=>exact ⟨0,by omega,rfl,by simp⟩
 case round=>
  obtain ⟨k,hk,rfl,hall⟩:=hrel;by_cases hlt:k<n
  ·obtain rfl:=h.addr (by omega);have hc:=h.cell k hlt;have hf:=h.fit k hlt;have HA:Hid (((ss.take (k+1)).all fun s=>decide (s.size≤200))=(true&&decide ((ss.getD k ByteArray.empty).size≤200))):=by
    unfold Hid;rw [all_take_succ ss _ k (by rw [h.len];exact hlt),hall]
   clear hall;generalize ss.getD k ByteArray.empty=s at*;go_wp2
   ·go_ret;have hbig:200<(s.size:Int):=by assumption
    have e1:=all_false_of_take ss _ (k+1) (HA.out.trans (by simp;omega));exact ⟨ret_bool e1.symm,rfl⟩
   ·go_round
    case rel=>exact ⟨k+1,by omega,by go_num,HA.out.trans (by simp;omega)⟩
    case measure=>simp [intOf];omega
  ·have HA:Hid ((ss.take k).all (fun s=>decide (s.size≤200))=true):=hall;clear hall;go_wp2;go_ret;have:k=n:=by omega
   subst this;have e1:=HA.out;rw [List.take_of_length_le (by rw [h.len];exact Nat.le_refl _)] at e1;exact ⟨ret_bool e1.symm,rfl⟩
theorem args48 (a:Option Addr) (b off n c:Nat) (ss:List ByteArray) (w:World) (h:StrsIn w a b off n ss) (hn:n≤2097152):
  Calls Tryz.prog 42 #[.slice a n c] w fun e w'=>e= .returned (.bool (okArgs ss))∧w'=w:=by
 have hl:=h.len;by_cases h16:(n:Int)≤16
 ·have hd:decide ((n:Int)≤16)=true:=decide_eq_true h16;have HE:Hid (okArgs ss=ss.all fun s=>decide (s.size≤200)):=by
   unfold Hid;rw [okArgs,decide_eq_true (by omega),Bool.true_and]
  go_enter Tryz.func42,Tryz.ntmps42;go_wp2_with fail;refine (bulks76 a b off n c ss w h hn).mono ?_;rintro e w1 ⟨rfl,rfl⟩;rw [←HE.out];go_wp2;go_ret;exact ⟨rfl,rfl⟩
 ·have hd:decide ((n:Int)≤16)=false:=decide_eq_false h16;have HE:Hid (okArgs ss=false):=by
   unfold Hid;rw [okArgs,decide_eq_false (by omega),Bool.false_and]
  go_enter Tryz.func42,Tryz.ntmps42;go_wp2;go_ret;exact ⟨ret_bool HE.out.symm,rfl⟩
end Go.Proofs.YtibhabajknikcaaGreatDoor.Fd
namespace Go.Proofs
open Go.Shelf
def Tryz.fdlaysM173_ren:Go.Shelf.Ren:=⟨fun|173=>221|246=>253|283=>276|284=>277|285=>278|286=>279|129=>246|317=>299|318=>300|319=>301|320=>302|337=>319|338=>320|n=>n,fun|2=>2|3=>3|9=>9|4=>4|171=>293|0=>0|53=>143|37=>22|5=>5|173=>295|212=>314|51=>269|20=>20|213=>315|46=>145|232=>336|233=>337|n=>n,fun|17=>13|18=>14|19=>15|n=>n⟩
theorem Tryz.fdlaysM173:Go.Proofs.LaysM.n173 Tryz.prog Tryz.fdlaysM173_ren:={
 mixed:=by kernel_rfl
 f129:=Tryz.func246.trans (congrArg some (by kernel_rfl))
 f173:=Tryz.func221.trans (congrArg some (by kernel_rfl))
 f246:=Tryz.func253.trans (congrArg some (by kernel_rfl))
 f283:=Tryz.func276.trans (congrArg some (by kernel_rfl))
 f284:=Tryz.func277.trans (congrArg some (by kernel_rfl))
 f285:=Tryz.func278.trans (congrArg some (by kernel_rfl))
 f286:=Tryz.func279.trans (congrArg some (by kernel_rfl))
 f317:=Tryz.func299.trans (congrArg some (by kernel_rfl))
 f318:=Tryz.func300.trans (congrArg some (by kernel_rfl))
 f319:=Tryz.func301.trans (congrArg some (by kernel_rfl))
 f320:=Tryz.func302.trans (congrArg some (by kernel_rfl))
 f337:=Tryz.func319.trans (congrArg some (by kernel_rfl))
 f338:=Tryz.func320.trans (congrArg some (by kernel_rfl))
 t0:=Tryz.underlying0
 a0:=Tryz.isAgg0
 z0:=Tryz.sizeOf0
 v0:=Tryz.zeroValue0
 t2:=Tryz.underlying2
 a2:=Tryz.isAgg2
 z2:=Tryz.sizeOf2
 v2:=Tryz.zeroValue2
 t3:=Tryz.underlying3
 a3:=Tryz.isAgg3
 z3:=Tryz.sizeOf3
 v3:=Tryz.zeroValue3
 t4:=Tryz.underlying4
 a4:=Tryz.isAgg4
 z4:=Tryz.sizeOf4
 v4:=Tryz.zeroValue4
 t5:=Tryz.underlying5
 a5:=Tryz.isAgg5
 z5:=Tryz.sizeOf5
 v5:=Tryz.zeroValue5
 t9:=Tryz.underlying9
 a9:=Tryz.isAgg9
 z9:=Tryz.sizeOf9
 v9:=Tryz.zeroValue9
 t20:=Tryz.underlying20
 a20:=Tryz.isAgg20
 z20:=Tryz.sizeOf20
 v20:=Tryz.zeroValue20
 t37:=Tryz.underlying22
 a37:=Tryz.isAgg22
 z37:=Tryz.sizeOf22
 v37:=Tryz.zeroValue22
 t46:=Tryz.underlying145
 a46:=Tryz.isAgg145
 z46:=Tryz.sizeOf145
 v46:=Tryz.zeroValue145
 t51:=Tryz.underlying269
 a51:=Tryz.isAgg269
 z51:=Tryz.sizeOf269
 v51:=Tryz.zeroValue269
 t53:=Tryz.underlying143
 a53:=Tryz.isAgg143
 z53:=Tryz.sizeOf143
 v53:=Tryz.zeroValue143
 t171:=Tryz.underlying293
 a171:=Tryz.isAgg293
 z171:=Tryz.sizeOf293
 v171:=Tryz.zeroValue293
 t173:=Tryz.underlying295
 a173:=Tryz.isAgg295
 z173:=Tryz.sizeOf295
 v173:=Tryz.zeroValue295
 t212:=Tryz.underlying314
 a212:=Tryz.isAgg314
 z212:=Tryz.sizeOf314
 v212:=Tryz.zeroValue314
 t213:=Tryz.underlying315
 a213:=Tryz.isAgg315
 z213:=Tryz.sizeOf315
 t232:=Tryz.underlying336
 a232:=Tryz.isAgg336
 z232:=Tryz.sizeOf336
 v232:=Tryz.zeroValue336
 t233:=Tryz.underlying337
 a233:=Tryz.isAgg337
 z233:=Tryz.sizeOf337
 v233:=Tryz.zeroValue337
 g17:=by kernel_rfl
 g18:=by kernel_rfl
 g19:=by kernel_rfl
 i0:=by kernel_rfl
 i2:=by kernel_rfl
 i3:=by kernel_rfl
 i4:=by kernel_rfl
 i5:=by kernel_rfl
 i9:=by kernel_rfl
 i20:=by kernel_rfl
 i37:=by kernel_rfl
 i46:=by kernel_rfl
 i51:=by kernel_rfl
 i53:=by kernel_rfl
 i171:=by kernel_rfl
 i173:=by kernel_rfl
 i212:=by kernel_rfl
 i232:=by kernel_rfl
 i233:=by kernel_rfl
 m17:=by kernel_rfl
 m18:=by kernel_rfl
 m19:=by kernel_rfl }
open Go.RowKit Go.Sort Go.Lib in
theorem Tryz.fdstrconv_FormatInt_10 (n:Int) (h0:-9223372036854775808≤n) (h1:n≤9223372036854775807) (w:World) (htab:Lib.TabIs Tryz.prog w "internal/strconv.uint64pow10" .u64 Lib.pow10Tab):
 Calls Tryz.prog 221 #[.int .i64 n,.int .i64 10] w fun e w'=>e= .returned (.string ⟨(Lib.itoa n).toArray⟩)∧∃k os,w'=grow (w.drewN k) os:=Any.strconv_FormatInt_10 Tryz.fdlaysM173 n h0 h1 w htab
end Go.Proofs
namespace Go.Proofs.YtibhabajknikcaaGreatDoor.Fd
open Go.RowKit Go.Sort
theorem gPow:Tryz.prog.globalNamed "internal/strconv.uint64pow10" =some 13:=by kernel_rfl
abbrev Tab (w:World):Prop:=Lib.TabIs Tryz.prog w "internal/strconv.uint64pow10" .u64 Lib.pow10Tab
theorem Tab.below {B:Nat} {w w':World} (h:Tab w) (hb:Below B w w') (hB:13<B):Tab w':=var?_below hb gPow hB h
theorem below_grow (B:Nat) (w:World) (hB:B≤w.heap.size) (k:Nat) (os:Array Obj):Below B w (grow (w.drewN k) os):=
 ⟨rfl,rfl,rfl,by show w.heap.size≤(w.heap++os).size;rw [Array.size_append];omega,fun j hj=>by show (w.heap++os)[j]?=w.heap[j]?;exact Array.getElem?_append_left (by omega)⟩
theorem size_mk (l:List UInt8):(⟨l.toArray⟩:ByteArray).size=l.length:=by show l.toArray.size=_;simp
theorem dec_len_le (n:Nat) (h:n≤2097152):(Lib.decDigits n).length≤20:=by
 rw [Lib.decDigits_length];rcases Nat.lt_or_ge n 10 with h0|h0
 ·rw [Lib.nDigits_small h0];omega
 ·have h1:Lib.nDigits n≤7:=by
   have:=Lib.nDigits_pos n;rcases Nat.lt_or_ge n 100 with h2|h2
   ·rw [Lib.nDigits_unique 1 n (by omega) (by omega)];omega
   rcases Nat.lt_or_ge n 1000 with h3|h3
   ·rw [Lib.nDigits_unique 2 n (by omega) (by omega)];omega
   rcases Nat.lt_or_ge n 10000 with h4|h4
   ·rw [Lib.nDigits_unique 3 n (by omega) (by omega)];omega
   rcases Nat.lt_or_ge n 100000 with h5|h5
   ·rw [Lib.nDigits_unique 4 n (by omega) (by omega)];omega
   rcases Nat.lt_or_ge n 1000000 with h6|h6
   ·rw [Lib.nDigits_unique 5 n (by omega) (by omega)];omega
   ·rw [Lib.nDigits_unique 6 n (by omega) (by omega)];omega
  omega
theorem strs_below {w w':World} {a:Option Addr} {b off n:Nat} {ss:List ByteArray} (h:StrsIn w a b off n ss) (hb:Below w.heap.size w w'):StrsIn w' a b off n ss:=
 ⟨h.len,h.addr,fun h0=>by have:=h.low h0;have:=hb.size;omega,fun i hi=> (hb.cell (p:=⟨b,off+i,none⟩) (h.low (by omega))).trans (h.cell i hi),h.fit⟩
end Go.Proofs.YtibhabajknikcaaGreatDoor.Fd
namespace Go.Proofs.YtibhabajknikcaaGreatDoor.Fd
open Go.RowKit
theorem info9:(Tryz.prog.info? 9).map (fun i=> (i.zero,i.size,i.bytes))=some (some (.string ⟨#[]⟩),1,16):=by kernel_rfl
def RowAt (w:World) (g:Nat) (T:TypeId) (C:Array Value):Prop:=w.heap[g]?=some (.cells C T (0,0))
theorem RowAt.cell {w:World} {g:Nat} {T:TypeId} {C:Array Value} (h:RowAt w g T C) (j:Nat):w.cell? ⟨g,j,none⟩=C[j]?:=Lib.cell_of_heap h j
theorem RowAt.frozen {w:World} {g:Nat} {T:TypeId} {C:Array Value} (h:RowAt w g T C) (j:Nat):w.frozen? ⟨g,j,none⟩=false:=Lib.frozen_of_heap h j
theorem RowAt.set {w:World} {g:Nat} {T:TypeId} {C:Array Value} (h:RowAt w g T C) (j:Nat) (v:Value):RowAt (w.setCell ⟨g,j,none⟩ v) g T (C.setIfInBounds j v):=by
 unfold RowAt at*;simp [World.setCell,Array.getElem?_modify,h]
theorem RowAt.lt {w:World} {g:Nat} {T:TypeId} {C:Array Value} (h:RowAt w g T C):g<w.heap.size:=(Array.getElem?_eq_some_iff.1 h).1
theorem RowAt.new (w:World) (T:TypeId) (C:Array Value):RowAt (w.alloc (.cells C T)) w.heap.size T C:=by
 show (w.heap.push (.cells C T (0,0)))[w.heap.size]?=_;simp
end Go.Proofs.YtibhabajknikcaaGreatDoor.Fd
namespace Go.Proofs
open Go.Shelf
def Tryz.fdlays137_ren:Go.Shelf.Ren:=⟨fun|137=>294|217=>315|266=>327|n=>n,fun|9=>9|5=>5|3=>3|n=>n,fun|n=>n⟩
theorem Tryz.fdlays137:Go.Proofs.Lays.n137 Tryz.prog Tryz.fdlays137_ren:={
 mixed:=by kernel_rfl
 f137:=Tryz.func294.trans (congrArg some (by kernel_rfl))
 f217:=Tryz.func315.trans (congrArg some (by kernel_rfl))
 f266:=Tryz.func327.trans (congrArg some (by kernel_rfl))
 t3:=Tryz.underlying3
 a3:=Tryz.isAgg3
 z3:=Tryz.sizeOf3
 v3:=Tryz.zeroValue3
 t5:=Tryz.underlying5
 a5:=Tryz.isAgg5
 z5:=Tryz.sizeOf5
 v5:=Tryz.zeroValue5
 t9:=Tryz.underlying9
 a9:=Tryz.isAgg9
 z9:=Tryz.sizeOf9
 v9:=Tryz.zeroValue9 }
open Go.RowKit in
theorem Tryz.fdstrings_IndexByte (s:ByteArray) (c:Int) (w:World):
 Calls Tryz.prog 294 #[.string s,.int .u8 c] w fun e w'=>e= .returned (.int .i64 (Lib.indexByte s.data.toList c.toNat.toUInt8))∧w'=w:=Any.strings_IndexByte Tryz.fdlays137 s c w
def Tryz.fdlaysM316_ren:Go.Shelf.Ren:=⟨fun|316=>201|n=>n,fun|9=>9|3=>3|4=>4|37=>22|0=>0|127=>275|5=>5|n=>n,fun|n=>n⟩
theorem Tryz.fdlaysM316:Go.Proofs.LaysM.n316 Tryz.prog Tryz.fdlaysM316_ren:={
 mixed:=by kernel_rfl
 f316:=Tryz.func201.trans (congrArg some (by kernel_rfl))
 t0:=Tryz.underlying0
 a0:=Tryz.isAgg0
 z0:=Tryz.sizeOf0
 v0:=Tryz.zeroValue0
 t3:=Tryz.underlying3
 a3:=Tryz.isAgg3
 z3:=Tryz.sizeOf3
 v3:=Tryz.zeroValue3
 t4:=Tryz.underlying4
 a4:=Tryz.isAgg4
 z4:=Tryz.sizeOf4
 v4:=Tryz.zeroValue4
 t9:=Tryz.underlying9
 a9:=Tryz.isAgg9
 z9:=Tryz.sizeOf9
 v9:=Tryz.zeroValue9
 t37:=Tryz.underlying22
 a37:=Tryz.isAgg22
 z37:=Tryz.sizeOf22
 v37:=Tryz.zeroValue22
 t127:=Tryz.underlying275
 a127:=Tryz.isAgg275
 z127:=Tryz.sizeOf275
 v127:=Tryz.zeroValue275
 t5:=Tryz.underlying5
 a5:=Tryz.isAgg5
 z5:=Tryz.sizeOf5
 v5:=Tryz.zeroValue5
 i0:=by kernel_rfl
 i3:=by kernel_rfl
 i4:=by kernel_rfl
 i5:=by kernel_rfl
 i9:=by kernel_rfl
 i37:=by kernel_rfl
 i127:=by kernel_rfl }
open Go.RowKit in
theorem Tryz.fdstringslite_Clone (s:ByteArray) (w:World) (hlim:s.size≤281474976710656):
 Calls Tryz.prog 201 #[.string s] w fun e w'=>e= .returned (.string s)∧Below w.heap.size w w':=Any.stringslite_Clone Tryz.fdlaysM316 s w hlim
def Tryz.fdlaysC174_ren:Go.Shelf.Ren:=⟨fun|174=>298|247=>317|245=>318|287=>329|279=>330|280=>331|281=>332|282=>333|321=>336|322=>337|316=>201|171=>339|205=>338|243=>343|246=>253|283=>276|284=>277|285=>278|286=>279|129=>246|317=>299|318=>300|319=>301|320=>302|337=>319|338=>320|n=>n,fun|9=>9|3=>3|2=>2|75=>89|85=>238|4=>4|167=>330|5=>5|53=>143|175=>331|46=>145|168=>333|37=>22|0=>0|210=>341|21=>21|127=>275|145=>345|143=>343|171=>293|173=>295|212=>314|51=>269|20=>20|213=>315|232=>336|233=>337|80=>72|n=>n,fun|15=>16|16=>17|17=>13|18=>14|19=>15|n=>n⟩
theorem Tryz.fdlaysC174:Go.Proofs.LaysC.n174 Tryz.prog Tryz.fdlaysC174_ren:={
 mixed:=by kernel_rfl
 f129:=Tryz.func246.trans (congrArg some (by kernel_rfl))
 f171:=Tryz.func339.trans (congrArg some (by kernel_rfl))
 f174:=Tryz.func298.trans (congrArg some (by kernel_rfl))
 f205:=Tryz.func338.trans (congrArg some (by kernel_rfl))
 f243:=Tryz.func343.trans (congrArg some (by kernel_rfl))
 f245:=Tryz.func318.trans (congrArg some (by kernel_rfl))
 f246:=Tryz.func253.trans (congrArg some (by kernel_rfl))
 f247:=Tryz.func317.trans (congrArg some (by kernel_rfl))
 f279:=Tryz.func330.trans (congrArg some (by kernel_rfl))
 f280:=Tryz.func331.trans (congrArg some (by kernel_rfl))
 f281:=Tryz.func332.trans (congrArg some (by kernel_rfl))
 f282:=Tryz.func333.trans (congrArg some (by kernel_rfl))
 f283:=Tryz.func276.trans (congrArg some (by kernel_rfl))
 f284:=Tryz.func277.trans (congrArg some (by kernel_rfl))
 f285:=Tryz.func278.trans (congrArg some (by kernel_rfl))
 f286:=Tryz.func279.trans (congrArg some (by kernel_rfl))
 f287:=Tryz.func329.trans (congrArg some (by kernel_rfl))
 f316:=Tryz.func201.trans (congrArg some (by kernel_rfl))
 f317:=Tryz.func299.trans (congrArg some (by kernel_rfl))
 f318:=Tryz.func300.trans (congrArg some (by kernel_rfl))
 f319:=Tryz.func301.trans (congrArg some (by kernel_rfl))
 f320:=Tryz.func302.trans (congrArg some (by kernel_rfl))
 f321:=Tryz.func336.trans (congrArg some (by kernel_rfl))
 f322:=Tryz.func337.trans (congrArg some (by kernel_rfl))
 f337:=Tryz.func319.trans (congrArg some (by kernel_rfl))
 f338:=Tryz.func320.trans (congrArg some (by kernel_rfl))
 t0:=Tryz.underlying0
 a0:=Tryz.isAgg0
 z0:=Tryz.sizeOf0
 v0:=Tryz.zeroValue0
 t2:=Tryz.underlying2
 a2:=Tryz.isAgg2
 z2:=Tryz.sizeOf2
 v2:=Tryz.zeroValue2
 t3:=Tryz.underlying3
 a3:=Tryz.isAgg3
 z3:=Tryz.sizeOf3
 v3:=Tryz.zeroValue3
 t4:=Tryz.underlying4
 a4:=Tryz.isAgg4
 z4:=Tryz.sizeOf4
 v4:=Tryz.zeroValue4
 t5:=Tryz.underlying5
 a5:=Tryz.isAgg5
 z5:=Tryz.sizeOf5
 v5:=Tryz.zeroValue5
 t9:=Tryz.underlying9
 a9:=Tryz.isAgg9
 z9:=Tryz.sizeOf9
 v9:=Tryz.zeroValue9
 t20:=Tryz.underlying20
 a20:=Tryz.isAgg20
 z20:=Tryz.sizeOf20
 v20:=Tryz.zeroValue20
 t21:=Tryz.underlying21
 a21:=Tryz.isAgg21
 z21:=Tryz.sizeOf21
 v21:=Tryz.zeroValue21
 t37:=Tryz.underlying22
 a37:=Tryz.isAgg22
 z37:=Tryz.sizeOf22
 v37:=Tryz.zeroValue22
 t46:=Tryz.underlying145
 a46:=Tryz.isAgg145
 z46:=Tryz.sizeOf145
 v46:=Tryz.zeroValue145
 t51:=Tryz.underlying269
 a51:=Tryz.isAgg269
 z51:=Tryz.sizeOf269
 v51:=Tryz.zeroValue269
 t53:=Tryz.underlying143
 a53:=Tryz.isAgg143
 z53:=Tryz.sizeOf143
 v53:=Tryz.zeroValue143
 t75:=Tryz.underlying89
 a75:=Tryz.isAgg89
 z75:=Tryz.sizeOf89
 v75:=Tryz.zeroValue89
 t85:=Tryz.underlying238
 a85:=Tryz.isAgg238
 z85:=Tryz.sizeOf238
 v85:=Tryz.zeroValue238
 t127:=Tryz.underlying275
 a127:=Tryz.isAgg275
 z127:=Tryz.sizeOf275
 v127:=Tryz.zeroValue275
 t143:=Tryz.underlying343
 a143:=Tryz.isAgg343
 z143:=Tryz.sizeOf343
 v143:=Tryz.zeroValue343
 t145:=Tryz.underlying345
 a145:=Tryz.isAgg345
 z145:=Tryz.sizeOf345
 v145:=Tryz.zeroValue345
 t167:=Tryz.underlying330
 a167:=Tryz.isAgg330
 z167:=Tryz.sizeOf330
 v167:=Tryz.zeroValue330
 t168:=Tryz.underlying333
 a168:=Tryz.isAgg333
 z168:=Tryz.sizeOf333
 v168:=Tryz.zeroValue333
 t171:=Tryz.underlying293
 a171:=Tryz.isAgg293
 z171:=Tryz.sizeOf293
 v171:=Tryz.zeroValue293
 t173:=Tryz.underlying295
 a173:=Tryz.isAgg295
 z173:=Tryz.sizeOf295
 v173:=Tryz.zeroValue295
 t175:=Tryz.underlying331
 a175:=Tryz.isAgg331
 z175:=Tryz.sizeOf331
 v175:=Tryz.zeroValue331
 t210:=Tryz.underlying341
 a210:=Tryz.isAgg341
 z210:=Tryz.sizeOf341
 v210:=Tryz.zeroValue341
 t212:=Tryz.underlying314
 a212:=Tryz.isAgg314
 z212:=Tryz.sizeOf314
 v212:=Tryz.zeroValue314
 t213:=Tryz.underlying315
 a213:=Tryz.isAgg315
 z213:=Tryz.sizeOf315
 t232:=Tryz.underlying336
 a232:=Tryz.isAgg336
 z232:=Tryz.sizeOf336
 v232:=Tryz.zeroValue336
 t233:=Tryz.underlying337
 a233:=Tryz.isAgg337
 z233:=Tryz.sizeOf337
 v233:=Tryz.zeroValue337
 g15:=by kernel_rfl
 g16:=by kernel_rfl
 g17:=by kernel_rfl
 g18:=by kernel_rfl
 g19:=by kernel_rfl
 t80:=Tryz.underlying72
 a80:=Tryz.isAgg72
 z80:=Tryz.sizeOf72
 v80:=Tryz.zeroValue72
 i0:=by kernel_rfl
 i2:=by kernel_rfl
 i3:=by kernel_rfl
 i4:=by kernel_rfl
 i5:=by kernel_rfl
 i9:=by kernel_rfl
 i20:=by kernel_rfl
 i21:=by kernel_rfl
 i37:=by kernel_rfl
 i46:=by kernel_rfl
 i51:=by kernel_rfl
 i53:=by kernel_rfl
 i75:=by kernel_rfl
 i80:=by kernel_rfl
 i85:=by kernel_rfl
 i127:=by kernel_rfl
 i143:=by kernel_rfl
 i145:=by kernel_rfl
 i167:=by kernel_rfl
 i168:=by kernel_rfl
 i171:=by kernel_rfl
 i173:=by kernel_rfl
 i175:=by kernel_rfl
 i210:=by kernel_rfl
 i212:=by kernel_rfl
 i232:=by kernel_rfl
 i233:=by kernel_rfl
 m15:=by kernel_rfl
 m16:=by kernel_rfl
 m17:=by kernel_rfl
 m18:=by kernel_rfl
 m19:=by kernel_rfl
 c0:=by kernel_rfl
 c2:=by kernel_rfl
 c3:=by kernel_rfl
 c4:=by kernel_rfl
 c5:=by kernel_rfl
 c9:=by kernel_rfl
 c20:=by kernel_rfl
 c21:=by kernel_rfl
 c37:=by kernel_rfl
 c46:=by kernel_rfl
 c51:=by kernel_rfl
 c53:=by kernel_rfl
 c75:=by kernel_rfl
 c80:=by kernel_rfl
 c85:=by kernel_rfl
 c127:=by kernel_rfl
 c143:=by kernel_rfl
 c145:=by kernel_rfl
 c167:=by kernel_rfl
 c168:=by kernel_rfl
 c171:=by kernel_rfl
 c173:=by kernel_rfl
 c175:=by kernel_rfl
 c210:=by kernel_rfl
 c212:=by kernel_rfl
 c213:=by kernel_rfl
 c232:=by kernel_rfl
 c233:=by kernel_rfl }
open Go.RowKit in
theorem Tryz.fdstrconv_ParseInt_10_at64_ok (s:ByteArray) (hmax:s.size≤9223372036854775806) (v:Int) (h:Lib.parseIntB 64 s.data.toList= .ok v) (w:World):
 Calls Tryz.prog 298 #[.string s,.int .i64 10,.int .i64 64] w fun e w'=>e= .returned (.tuple #[.int .i64 v,.nilIface])∧(w'=w∨∃t,w'=Lib.bytesWorld w 5 t):=Any.strconv_ParseInt_10_at64_ok Tryz.fdlaysC174 s hmax v h w
open Go.RowKit in
theorem Tryz.fdstrconv_ParseInt_10_at64_syntax_var (s:ByteArray) (hlim:s.size≤281474976710656) (h:Lib.parseIntB 64 s.data.toList= .«syntax») (tp:TypeId) (p:Value) (w:World) (hvar:w.var? Tryz.prog "strconv.ErrSyntax" =some #[.iface tp p]):
 Calls Tryz.prog 298 #[.string s,.int .i64 10,.int .i64 64] w fun e w'=>∃N,e= .returned (.tuple #[.int .i64 (0),.iface 333 (.pointer (some ⟨N,0,none⟩))])∧w.heap.size≤N∧w'.heap[N]?=some (.cells #[.string ⟨#[80,97,114,115,101,73,110,116]⟩,.string s,.iface tp p] 341 (0,0))∧Below w.heap.size w w':=Any.strconv_ParseInt_10_at64_syntax_var Tryz.fdlaysC174 s hlim h tp p w hvar
open Go.RowKit in
theorem Tryz.fdstrconv_ParseInt_10_at64_range_var (s:ByteArray) (hlim:s.size≤281474976710656) (h:Lib.parseIntB 64 s.data.toList= .range) (tp:TypeId) (p:Value) (w:World) (hvar:w.var? Tryz.prog "strconv.ErrRange" =some #[.iface tp p]):
 Calls Tryz.prog 298 #[.string s,.int .i64 10,.int .i64 64] w fun e w'=>∃N,e= .returned (.tuple #[.int .i64 (Lib.intSat 64 s.data.toList),.iface 333 (.pointer (some ⟨N,0,none⟩))])∧w.heap.size≤N∧w'.heap[N]?=some (.cells #[.string ⟨#[80,97,114,115,101,73,110,116]⟩,.string s,.iface tp p] 341 (0,0))∧Below w.heap.size w w':=Any.strconv_ParseInt_10_at64_range_var Tryz.fdlaysC174 s hlim h tp p w hvar
def Tryz.fdlays143_ren:Go.Shelf.Ren:=⟨fun|143=>325|219=>335|217=>315|225=>340|224=>341|267=>342|266=>327|314=>344|n=>n,fun|9=>9|3=>3|4=>4|5=>5|46=>145|146=>346|51=>269|n=>n,fun|1=>8|n=>n⟩
theorem Tryz.fdlays143:Go.Proofs.Lays.n143 Tryz.prog Tryz.fdlays143_ren:={
 mixed:=by kernel_rfl
 f143:=Tryz.func325.trans (congrArg some (by kernel_rfl))
 f217:=Tryz.func315.trans (congrArg some (by kernel_rfl))
 f219:=Tryz.func335.trans (congrArg some (by kernel_rfl))
 f224:=Tryz.func341.trans (congrArg some (by kernel_rfl))
 f225:=Tryz.func340.trans (congrArg some (by kernel_rfl))
 f266:=Tryz.func327.trans (congrArg some (by kernel_rfl))
 f267:=Tryz.func342.trans (congrArg some (by kernel_rfl))
 f314:=Tryz.func344.trans (congrArg some (by kernel_rfl))
 t3:=Tryz.underlying3
 a3:=Tryz.isAgg3
 z3:=Tryz.sizeOf3
 v3:=Tryz.zeroValue3
 t4:=Tryz.underlying4
 a4:=Tryz.isAgg4
 z4:=Tryz.sizeOf4
 v4:=Tryz.zeroValue4
 t5:=Tryz.underlying5
 a5:=Tryz.isAgg5
 z5:=Tryz.sizeOf5
 v5:=Tryz.zeroValue5
 t9:=Tryz.underlying9
 a9:=Tryz.isAgg9
 z9:=Tryz.sizeOf9
 v9:=Tryz.zeroValue9
 t46:=Tryz.underlying145
 a46:=Tryz.isAgg145
 z46:=Tryz.sizeOf145
 v46:=Tryz.zeroValue145
 t51:=Tryz.underlying269
 a51:=Tryz.isAgg269
 z51:=Tryz.sizeOf269
 v51:=Tryz.zeroValue269
 t146:=Tryz.underlying346
 a146:=Tryz.isAgg346
 z146:=Tryz.sizeOf346
 v146:=Tryz.zeroValue346
 g1:=by kernel_rfl }
open Go.RowKit Go.Lib in
theorem Tryz.fdstrings_Index (s sub:ByteArray) (m:Int) (w:World) (hs:s.size<4294967281) (hm:w.cell? ⟨8,0,none⟩=some (.int .i64 m)):
 Calls Tryz.prog 325 #[.string s,.string sub] w fun e w'=>e= .returned (.int .i64 (Lib.index s.data.toList sub.data.toList))∧w'=w:=Any.strings_Index Tryz.fdlays143 s sub m w hs hm
def Tryz.fdlays102_ren:Go.Shelf.Ren:=⟨fun|102=>295|209=>316|207=>328|n=>n,fun|9=>9|4=>4|3=>3|n=>n,fun|n=>n⟩
theorem Tryz.fdlays102:Go.Proofs.Lays.n102 Tryz.prog Tryz.fdlays102_ren:={
 mixed:=by kernel_rfl
 f102:=Tryz.func295.trans (congrArg some (by kernel_rfl))
 f207:=Tryz.func328.trans (congrArg some (by kernel_rfl))
 f209:=Tryz.func316.trans (congrArg some (by kernel_rfl))
 t3:=Tryz.underlying3
 a3:=Tryz.isAgg3
 z3:=Tryz.sizeOf3
 v3:=Tryz.zeroValue3
 t4:=Tryz.underlying4
 a4:=Tryz.isAgg4
 z4:=Tryz.sizeOf4
 v4:=Tryz.zeroValue4
 t9:=Tryz.underlying9
 a9:=Tryz.isAgg9
 z9:=Tryz.sizeOf9
 v9:=Tryz.zeroValue9 }
open Go.RowKit Go.Lib in
theorem Tryz.fdstrings_TrimSuffix (s p:ByteArray) (w:World) (hs:s.size≤9223372036854775807):
 Calls Tryz.prog 295 #[.string s,.string p] w fun e w'=>e= .returned (.string ⟨(Lib.trimSuffix s.data.toList p.data.toList).toArray⟩)∧w'=w:=Any.strings_TrimSuffix Tryz.fdlays102 s p w hs
def Tryz.fdlays229_ren:Go.Shelf.Ren:=⟨fun|229=>296|n=>n,fun|9=>9|40=>311|31=>28|152=>323|3=>3|0=>0|4=>4|21=>21|154=>325|n=>n,fun|n=>n⟩
theorem Tryz.fdlays229:Go.Proofs.Lays.n229 Tryz.prog Tryz.fdlays229_ren:={
 mixed:=by kernel_rfl
 f229:=Tryz.func296.trans (congrArg some (by kernel_rfl))
 t0:=Tryz.underlying0
 a0:=Tryz.isAgg0
 z0:=Tryz.sizeOf0
 v0:=Tryz.zeroValue0
 t3:=Tryz.underlying3
 a3:=Tryz.isAgg3
 z3:=Tryz.sizeOf3
 v3:=Tryz.zeroValue3
 t4:=Tryz.underlying4
 a4:=Tryz.isAgg4
 z4:=Tryz.sizeOf4
 v4:=Tryz.zeroValue4
 t9:=Tryz.underlying9
 a9:=Tryz.isAgg9
 z9:=Tryz.sizeOf9
 v9:=Tryz.zeroValue9
 t21:=Tryz.underlying21
 a21:=Tryz.isAgg21
 z21:=Tryz.sizeOf21
 v21:=Tryz.zeroValue21
 t31:=Tryz.underlying28
 a31:=Tryz.isAgg28
 z31:=Tryz.sizeOf28
 v31:=Tryz.zeroValue28
 t40:=Tryz.underlying311
 a40:=Tryz.isAgg311
 z40:=Tryz.sizeOf311
 v40:=Tryz.zeroValue311
 t152:=Tryz.underlying323
 a152:=Tryz.isAgg323
 z152:=Tryz.sizeOf323
 v152:=Tryz.zeroValue323
 t154:=Tryz.underlying325
 a154:=Tryz.isAgg325
 z154:=Tryz.sizeOf325
 v154:=Tryz.zeroValue325 }
open Go.RowKit Go.Lib in
theorem Tryz.fdstrings_FieldsFunc (g:Nat) (lb:Array Value) (eg:∀args w,(callFunc g args).run Tryz.prog w= .ok (.enter g args) w) (p:Nat→Bool) (s:ByteArray) (w:World) (hs:s.size≤4294967296) (hp:PredAt Tryz.prog g lb encR p w):
 Calls Tryz.prog 296 #[.string s,.func (.func g) #[] lb] w fun e w'=>∃A,e= .returned (.slice (some ⟨A,0,none⟩) (Lib.goFieldsP p s).length (Lib.goFieldsP p s).length)∧w.heap.size≤A∧
  w'.ownsRow w.heap.size 9 1 (.slice (some ⟨A,0,none⟩) (Lib.goFieldsP p s).length (Lib.goFieldsP p s).length) (Lib.goFieldsP p s).length ((Lib.goFieldsP p s).map Value.string)∧Below w.heap.size w w':=Any.strings_FieldsFunc Tryz.fdlays229 g lb eg p s w hs hp (by kernel_rfl) (by kernel_rfl)
end Go.Proofs
