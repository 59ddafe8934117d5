import Derived.Test.YtjpeglkkkllagaaGreatDoorProg
import Derived.Test.YtjpeglkkkllagaaGreatDoorRows
import Derived.Shelf.Strings.BuilderK
import Derived.Shelf.LaysM
import Derived.Shelf.Strconv.Itoa4
import Derived.Shelf.Strconv.Itoa0
import Derived.Shelf.Strconv.Itoa1
import Derived.Shelf.Strconv.Itoa2
import Derived.Shelf.Strconv.Itoa3
import Derived.Shelf.Strconv.ParseIntEmpty
import Derived.Shelf.Strconv.Clone
import Derived.Shelf.Strconv.SyntaxError
import Derived.Shelf.LaysC
import Derived.Shelf.Strconv.ToError
import Derived.Shelf.Strconv.Lower
import Derived.Shelf.Strconv.ParseUint10
import Derived.Shelf.Strconv.ParseUint10Empty
import Derived.Shelf.Strconv.ParseUint10Any
import Derived.Shelf.Strconv.ParseInt10
import Derived.Shelf.Strconv.RangeError
import Derived.Shelf.Strconv.ToErrorRange
import Derived.Shelf.Strconv.ParseUintEmpty
import Derived.Shelf.Strconv.ParseUint10b64
import Derived.Shelf.Strconv.ParseUint10b32
import Derived.Shelf.Strconv.ParseUint10b16
import Derived.Shelf.Strconv.ParseUint10b8
import Derived.Shelf.Strconv.ParseUint10At
import Derived.Shelf.Strconv.ParseInt10At64
import Derived.Shelf.Strconv.ParseInt10At32
import Derived.Shelf.Strconv.ParseInt10At16
import Derived.Shelf.Strconv.ParseInt10At8
import Derived.Shelf.Strconv.ParseInt10All
import Derived.Shelf.Strconv.ParseIntPublic10
import Derived.Shelf.Strconv.ErrVarParseInt
import Derived.WalkKit
import Derived.WalkSpells
import Derived.WalkLawsBesides
import Derived.Deep.QuietTactic
import Derived.BigQuiet
import Derived.Laws.IdiomStrings
import Derived.Lib.QuietBelow
import Derived.Lib.ParseIntBCases
import Derived.Deep.RegionHeldLaw
set_option maxHeartbeats 1000000
set_option maxRecDepth 100000
namespace Go.Proofs
open Go.Shelf
def Tryz.laysM173_ren:Go.Shelf.Ren:=⟨fun|173=>142|246=>145|283=>151|284=>152|285=>153|286=>154|129=>116|317=>159|318=>160|319=>161|320=>162|337=>164|338=>165|n=>n,fun|2=>2|3=>3|9=>9|4=>4|171=>222|0=>0|53=>138|37=>22|5=>5|173=>224|212=>232|51=>186|20=>20|213=>233|46=>140|232=>237|233=>238|n=>n,fun|17=>3|18=>4|19=>5|n=>n⟩
theorem Tryz.laysM173:Go.Proofs.LaysM.n173 Tryz.prog Tryz.laysM173_ren:={
 mixed:=by kernel_rfl
 f129:=Tryz.func116.trans (congrArg some (by kernel_rfl))
 f173:=Tryz.func142.trans (congrArg some (by kernel_rfl))
 f246:=Tryz.func145.trans (congrArg some (by kernel_rfl))
 f283:=Tryz.func151.trans (congrArg some (by kernel_rfl))
 f284:=Tryz.func152.trans (congrArg some (by kernel_rfl))
 f285:=Tryz.func153.trans (congrArg some (by kernel_rfl))
 f286:=Tryz.func154.trans (congrArg some (by kernel_rfl))
 f317:=Tryz.func159.trans (congrArg some (by kernel_rfl))
 f318:=Tryz.func160.trans (congrArg some (by kernel_rfl))
 f319:=Tryz.func161.trans (congrArg some (by kernel_rfl))
 f320:=Tryz.func162.trans (congrArg some (by kernel_rfl))
 f337:=Tryz.func164.trans (congrArg some (by kernel_rfl))
 f338:=Tryz.func165.trans (congrArg some (by kernel_rfl))
 t0:=Tryz.underlying0
 a0:=Tryz.isAgg0
 z0:=Tryz.sizeOf0
 v0:=Tryz.zeroValue0
 t2:=Tryz.underlying2
 a2:=Tryz.isAgg2
 z2:=Tryz.sizeOf2
 v2:=Tryz.zeroValue2
 t3:=Tryz.underlying3
 a3:=Tryz.isAgg3
 z3:=Tryz.sizeOf3
 v3:=Tryz.zeroValue3
 t4:=Tryz.underlying4
 a4:=Tryz.isAgg4
 z4:=Tryz.sizeOf4
 v4:=Tryz.zeroValue4
 t5:=Tryz.underlying5
 a5:=Tryz.isAgg5
 z5:=Tryz.sizeOf5
 v5:=Tryz.zeroValue5
 t9:=Tryz.underlying9
 a9:=Tryz.isAgg9
 z9:=Tryz.sizeOf9
 v9:=Tryz.zeroValue9
 t20:=Tryz.underlying20
 a20:=Tryz.isAgg20
 z20:=Tryz.sizeOf20
 v20:=Tryz.zeroValue20
 t37:=Tryz.underlying22
 a37:=Tryz.isAgg22
 z37:=Tryz.sizeOf22
 v37:=Tryz.zeroValue22
 t46:=Tryz.underlying140
 a46:=Tryz.isAgg140
 z46:=Tryz.sizeOf140
 v46:=Tryz.zeroValue140
 t51:=Tryz.underlying186
 a51:=Tryz.isAgg186
 z51:=Tryz.sizeOf186
 v51:=Tryz.zeroValue186
 t53:=Tryz.underlying138
 a53:=Tryz.isAgg138
 z53:=Tryz.sizeOf138
 v53:=Tryz.zeroValue138
 t171:=Tryz.underlying222
 a171:=Tryz.isAgg222
 z171:=Tryz.sizeOf222
 v171:=Tryz.zeroValue222
 t173:=Tryz.underlying224
 a173:=Tryz.isAgg224
 z173:=Tryz.sizeOf224
 v173:=Tryz.zeroValue224
 t212:=Tryz.underlying232
 a212:=Tryz.isAgg232
 z212:=Tryz.sizeOf232
 v212:=Tryz.zeroValue232
 t213:=Tryz.underlying233
 a213:=Tryz.isAgg233
 z213:=Tryz.sizeOf233
 t232:=Tryz.underlying237
 a232:=Tryz.isAgg237
 z232:=Tryz.sizeOf237
 v232:=Tryz.zeroValue237
 t233:=Tryz.underlying238
 a233:=Tryz.isAgg238
 z233:=Tryz.sizeOf238
 v233:=Tryz.zeroValue238
 g17:=by kernel_rfl
 g18:=by kernel_rfl
 g19:=by kernel_rfl
 i0:=by kernel_rfl
 i2:=by kernel_rfl
 i3:=by kernel_rfl
 i4:=by kernel_rfl
 i5:=by kernel_rfl
 i9:=by kernel_rfl
 i20:=by kernel_rfl
 i37:=by kernel_rfl
 i46:=by kernel_rfl
 i51:=by kernel_rfl
 i53:=by kernel_rfl
 i171:=by kernel_rfl
 i173:=by kernel_rfl
 i212:=by kernel_rfl
 i232:=by kernel_rfl
 i233:=by kernel_rfl
 m17:=by kernel_rfl
 m18:=by kernel_rfl
 m19:=by kernel_rfl }
open Go.RowKit Go.Sort Go.Lib in
theorem Tryz.strconv_FormatInt_10 (n:Int) (h0:-9223372036854775808≤n) (h1:n≤9223372036854775807) (w:World) (htab:Lib.TabIs Tryz.prog w "internal/strconv.uint64pow10" .u64 Lib.pow10Tab):
 Calls Tryz.prog 142 #[.int .i64 n,.int .i64 10] w fun e w'=>e= .returned (.string ⟨(Lib.itoa n).toArray⟩)∧∃k os,w'=grow (w.drewN k) os:=Any.strconv_FormatInt_10 Tryz.laysM173 n h0 h1 w htab
def Tryz.laysM316_ren:Go.Shelf.Ren:=⟨fun|316=>130|n=>n,fun|9=>9|3=>3|4=>4|37=>22|0=>0|127=>205|5=>5|n=>n,fun|n=>n⟩
theorem Tryz.laysM316:Go.Proofs.LaysM.n316 Tryz.prog Tryz.laysM316_ren:={
 mixed:=by kernel_rfl
 f316:=Tryz.func130.trans (congrArg some (by kernel_rfl))
 t0:=Tryz.underlying0
 a0:=Tryz.isAgg0
 z0:=Tryz.sizeOf0
 v0:=Tryz.zeroValue0
 t3:=Tryz.underlying3
 a3:=Tryz.isAgg3
 z3:=Tryz.sizeOf3
 v3:=Tryz.zeroValue3
 t4:=Tryz.underlying4
 a4:=Tryz.isAgg4
 z4:=Tryz.sizeOf4
 v4:=Tryz.zeroValue4
 t9:=Tryz.underlying9
 a9:=Tryz.isAgg9
 z9:=Tryz.sizeOf9
 v9:=Tryz.zeroValue9
 t37:=Tryz.underlying22
 a37:=Tryz.isAgg22
 z37:=Tryz.sizeOf22
 v37:=Tryz.zeroValue22
 t127:=Tryz.underlying205
 a127:=Tryz.isAgg205
 z127:=Tryz.sizeOf205
 v127:=Tryz.zeroValue205
 t5:=Tryz.underlying5
 a5:=Tryz.isAgg5
 z5:=Tryz.sizeOf5
 v5:=Tryz.zeroValue5
 i0:=by kernel_rfl
 i3:=by kernel_rfl
 i4:=by kernel_rfl
 i5:=by kernel_rfl
 i9:=by kernel_rfl
 i37:=by kernel_rfl
 i127:=by kernel_rfl }
open Go.RowKit in
theorem Tryz.stringslite_Clone (s:ByteArray) (w:World) (hlim:s.size≤281474976710656):
 Calls Tryz.prog 130 #[.string s] w fun e w'=>e= .returned (.string s)∧Below w.heap.size w w':=Any.stringslite_Clone Tryz.laysM316 s w hlim
def Tryz.laysC174_ren:Go.Shelf.Ren:=⟨fun|174=>140|247=>143|245=>144|287=>146|279=>147|280=>148|281=>149|282=>150|321=>155|322=>156|316=>130|171=>158|205=>157|243=>163|246=>145|283=>151|284=>152|285=>153|286=>154|129=>116|317=>159|318=>160|319=>161|320=>162|337=>164|338=>165|n=>n,fun|9=>9|3=>3|2=>2|75=>210|85=>211|4=>4|167=>215|5=>5|53=>138|175=>216|46=>140|168=>218|37=>22|0=>0|210=>229|21=>21|127=>205|145=>236|143=>234|171=>222|173=>224|212=>232|51=>186|20=>20|213=>233|232=>237|233=>238|80=>95|n=>n,fun|15=>1|16=>2|17=>3|18=>4|19=>5|n=>n⟩
theorem Tryz.laysC174:Go.Proofs.LaysC.n174 Tryz.prog Tryz.laysC174_ren:={
 mixed:=by kernel_rfl
 f129:=Tryz.func116.trans (congrArg some (by kernel_rfl))
 f171:=Tryz.func158.trans (congrArg some (by kernel_rfl))
 f174:=Tryz.func140.trans (congrArg some (by kernel_rfl))
 f205:=Tryz.func157.trans (congrArg some (by kernel_rfl))
 f243:=Tryz.func163.trans (congrArg some (by kernel_rfl))
 f245:=Tryz.func144.trans (congrArg some (by kernel_rfl))
 f246:=Tryz.func145.trans (congrArg some (by kernel_rfl))
 f247:=Tryz.func143.trans (congrArg some (by kernel_rfl))
 f279:=Tryz.func147.trans (congrArg some (by kernel_rfl))
 f280:=Tryz.func148.trans (congrArg some (by kernel_rfl))
 f281:=Tryz.func149.trans (congrArg some (by kernel_rfl))
 f282:=Tryz.func150.trans (congrArg some (by kernel_rfl))
 f283:=Tryz.func151.trans (congrArg some (by kernel_rfl))
 f284:=Tryz.func152.trans (congrArg some (by kernel_rfl))
 f285:=Tryz.func153.trans (congrArg some (by kernel_rfl))
 f286:=Tryz.func154.trans (congrArg some (by kernel_rfl))
 f287:=Tryz.func146.trans (congrArg some (by kernel_rfl))
 f316:=Tryz.func130.trans (congrArg some (by kernel_rfl))
 f317:=Tryz.func159.trans (congrArg some (by kernel_rfl))
 f318:=Tryz.func160.trans (congrArg some (by kernel_rfl))
 f319:=Tryz.func161.trans (congrArg some (by kernel_rfl))
 f320:=Tryz.func162.trans (congrArg some (by kernel_rfl))
 f321:=Tryz.func155.trans (congrArg some (by kernel_rfl))
 f322:=Tryz.func156.trans (congrArg some (by kernel_rfl))
 f337:=Tryz.func164.trans (congrArg some (by kernel_rfl))
 f338:=Tryz.func165.trans (congrArg some (by kernel_rfl))
 t0:=Tryz.underlying0
 a0:=Tryz.isAgg0
 z0:=Tryz.sizeOf0
 v0:=Tryz.zeroValue0
 t2:=Tryz.underlying2
 a2:=Tryz.isAgg2
 z2:=Tryz.sizeOf2
 v2:=Tryz.zeroValue2
 t3:=Tryz.underlying3
 a3:=Tryz.isAgg3
 z3:=Tryz.sizeOf3
 v3:=Tryz.zeroValue3
 t4:=Tryz.underlying4
 a4:=Tryz.isAgg4
 z4:=Tryz.sizeOf4
 v4:=Tryz.zeroValue4
 t5:=Tryz.underlying5
 a5:=Tryz.isAgg5
 z5:=Tryz.sizeOf5
 v5:=Tryz.zeroValue5
 t9:=Tryz.underlying9
 a9:=Tryz.isAgg9
 z9:=Tryz.sizeOf9
 v9:=Tryz.zeroValue9
 t20:=Tryz.underlying20
 a20:=Tryz.isAgg20
 z20:=Tryz.sizeOf20
 v20:=Tryz.zeroValue20
 t21:=Tryz.underlying21
 a21:=Tryz.isAgg21
 z21:=Tryz.sizeOf21
 v21:=Tryz.zeroValue21
 t37:=Tryz.underlying22
 a37:=Tryz.isAgg22
 z37:=Tryz.sizeOf22
 v37:=Tryz.zeroValue22
 t46:=Tryz.underlying140
 a46:=Tryz.isAgg140
 z46:=Tryz.sizeOf140
 v46:=Tryz.zeroValue140
 t51:=Tryz.underlying186
 a51:=Tryz.isAgg186
 z51:=Tryz.sizeOf186
 v51:=Tryz.zeroValue186
 t53:=Tryz.underlying138
 a53:=Tryz.isAgg138
 z53:=Tryz.sizeOf138
 v53:=Tryz.zeroValue138
 t75:=Tryz.underlying210
 a75:=Tryz.isAgg210
 z75:=Tryz.sizeOf210
 v75:=Tryz.zeroValue210
 t85:=Tryz.underlying211
 a85:=Tryz.isAgg211
 z85:=Tryz.sizeOf211
 v85:=Tryz.zeroValue211
 t127:=Tryz.underlying205
 a127:=Tryz.isAgg205
 z127:=Tryz.sizeOf205
 v127:=Tryz.zeroValue205
 t143:=Tryz.underlying234
 a143:=Tryz.isAgg234
 z143:=Tryz.sizeOf234
 v143:=Tryz.zeroValue234
 t145:=Tryz.underlying236
 a145:=Tryz.isAgg236
 z145:=Tryz.sizeOf236
 v145:=Tryz.zeroValue236
 t167:=Tryz.underlying215
 a167:=Tryz.isAgg215
 z167:=Tryz.sizeOf215
 v167:=Tryz.zeroValue215
 t168:=Tryz.underlying218
 a168:=Tryz.isAgg218
 z168:=Tryz.sizeOf218
 v168:=Tryz.zeroValue218
 t171:=Tryz.underlying222
 a171:=Tryz.isAgg222
 z171:=Tryz.sizeOf222
 v171:=Tryz.zeroValue222
 t173:=Tryz.underlying224
 a173:=Tryz.isAgg224
 z173:=Tryz.sizeOf224
 v173:=Tryz.zeroValue224
 t175:=Tryz.underlying216
 a175:=Tryz.isAgg216
 z175:=Tryz.sizeOf216
 v175:=Tryz.zeroValue216
 t210:=Tryz.underlying229
 a210:=Tryz.isAgg229
 z210:=Tryz.sizeOf229
 v210:=Tryz.zeroValue229
 t212:=Tryz.underlying232
 a212:=Tryz.isAgg232
 z212:=Tryz.sizeOf232
 v212:=Tryz.zeroValue232
 t213:=Tryz.underlying233
 a213:=Tryz.isAgg233
 z213:=Tryz.sizeOf233
 t232:=Tryz.underlying237
 a232:=Tryz.isAgg237
 z232:=Tryz.sizeOf237
 v232:=Tryz.zeroValue237
 t233:=Tryz.underlying238
 a233:=Tryz.isAgg238
 z233:=Tryz.sizeOf238
 v233:=Tryz.zeroValue238
 g15:=by kernel_rfl
 g16:=by kernel_rfl
 g17:=by kernel_rfl
 g18:=by kernel_rfl
 g19:=by kernel_rfl
 t80:=Tryz.underlying95
 a80:=Tryz.isAgg95
 z80:=Tryz.sizeOf95
 v80:=Tryz.zeroValue95
 i0:=by kernel_rfl
 i2:=by kernel_rfl
 i3:=by kernel_rfl
 i4:=by kernel_rfl
 i5:=by kernel_rfl
 i9:=by kernel_rfl
 i20:=by kernel_rfl
 i21:=by kernel_rfl
 i37:=by kernel_rfl
 i46:=by kernel_rfl
 i51:=by kernel_rfl
 i53:=by kernel_rfl
 i75:=by kernel_rfl
 i80:=by kernel_rfl
 i85:=by kernel_rfl
 i127:=by kernel_rfl
 i143:=by kernel_rfl
 i145:=by kernel_rfl
 i167:=by kernel_rfl
 i168:=by kernel_rfl
 i171:=by kernel_rfl
 i173:=by kernel_rfl
 i175:=by kernel_rfl
 i210:=by kernel_rfl
 i212:=by kernel_rfl
 i232:=by kernel_rfl
 i233:=by kernel_rfl
 m15:=by kernel_rfl
 m16:=by kernel_rfl
 m17:=by kernel_rfl
 m18:=by kernel_rfl
 m19:=by kernel_rfl
 c0:=by kernel_rfl
 c2:=by kernel_rfl
 c3:=by kernel_rfl
 c4:=by kernel_rfl
 c5:=by kernel_rfl
 c9:=by kernel_rfl
 c20:=by kernel_rfl
 c21:=by kernel_rfl
 c37:=by kernel_rfl
 c46:=by kernel_rfl
 c51:=by kernel_rfl
 c53:=by kernel_rfl
 c75:=by kernel_rfl
 c80:=by kernel_rfl
 c85:=by kernel_rfl
 c127:=by kernel_rfl
 c143:=by kernel_rfl
 c145:=by kernel_rfl
 c167:=by kernel_rfl
 c168:=by kernel_rfl
 c171:=by kernel_rfl
 c173:=by kernel_rfl
 c175:=by kernel_rfl
 c210:=by kernel_rfl
 c212:=by kernel_rfl
 c213:=by kernel_rfl
 c232:=by kernel_rfl
 c233:=by kernel_rfl }
open Go.RowKit in
theorem Tryz.strconv_ParseInt_10_at64_ok (s:ByteArray) (hmax:s.size≤9223372036854775806) (v:Int) (h:Lib.parseIntB 64 s.data.toList= .ok v) (w:World):
 Calls Tryz.prog 140 #[.string s,.int .i64 10,.int .i64 64] w fun e w'=>e= .returned (.tuple #[.int .i64 v,.nilIface])∧(w'=w∨∃t,w'=Lib.bytesWorld w 5 t):=Any.strconv_ParseInt_10_at64_ok Tryz.laysC174 s hmax v h w
open Go.RowKit in
theorem Tryz.strconv_ParseInt_10_at64_syntax_var (s:ByteArray) (hlim:s.size≤281474976710656) (h:Lib.parseIntB 64 s.data.toList= .«syntax») (tp:TypeId) (p:Value) (w:World) (hvar:w.var? Tryz.prog "strconv.ErrSyntax" =some #[.iface tp p]):
 Calls Tryz.prog 140 #[.string s,.int .i64 10,.int .i64 64] w fun e w'=>∃N,e= .returned (.tuple #[.int .i64 (0),.iface 218 (.pointer (some ⟨N,0,none⟩))])∧w.heap.size≤N∧w'.heap[N]?=some (.cells #[.string ⟨#[80,97,114,115,101,73,110,116]⟩,.string s,.iface tp p] 229 (0,0))∧Below w.heap.size w w':=Any.strconv_ParseInt_10_at64_syntax_var Tryz.laysC174 s hlim h tp p w hvar
open Go.RowKit in
theorem Tryz.strconv_ParseInt_10_at64_range_var (s:ByteArray) (hlim:s.size≤281474976710656) (h:Lib.parseIntB 64 s.data.toList= .range) (tp:TypeId) (p:Value) (w:World) (hvar:w.var? Tryz.prog "strconv.ErrRange" =some #[.iface tp p]):
 Calls Tryz.prog 140 #[.string s,.int .i64 10,.int .i64 64] w fun e w'=>∃N,e= .returned (.tuple #[.int .i64 (Lib.intSat 64 s.data.toList),.iface 218 (.pointer (some ⟨N,0,none⟩))])∧w.heap.size≤N∧w'.heap[N]?=some (.cells #[.string ⟨#[80,97,114,115,101,73,110,116]⟩,.string s,.iface tp p] 229 (0,0))∧Below w.heap.size w w':=Any.strconv_ParseInt_10_at64_range_var Tryz.laysC174 s hlim h tp p w hvar
end Go.Proofs
namespace Go.Proofs.YtjpeglkkkllagaaGreatDoor
open Go.RowKit Go.Sort
structure zdg (w:World) (a:Option Addr) (b off n:Nat) (ss:List ByteArray):Prop where
 len:ss.length=n
 addr:0<n→a=some ⟨b,off,none⟩
 low:0<n→b<w.heap.size
 cell:∀i,i<n→w.cell? ⟨b,off+i,none⟩=some (.string (ss.getD i ByteArray.empty))
 fit:∀i,i<n→(ss.getD i ByteArray.empty).size≤9223372036854775807
theorem zae {a b:Bool} (h:a=b):Ending.returned (.bool a)= .returned (.bool b):=by rw [h]
theorem ret_str {a b:ByteArray} (h:a=b):Ending.returned (.string a)= .returned (.string b):=by rw [h]
theorem gPow:Tryz.prog.globalNamed "internal/strconv.uint64pow10" =some 3:=by kernel_rfl
abbrev Tab (w:World):Prop:=Lib.TabIs Tryz.prog w "internal/strconv.uint64pow10" .u64 Lib.pow10Tab
theorem Tab.below {B:Nat} {w w':World} (h:Tab w) (hb:Below B w w') (hB:3<B):Tab w':=var?_below hb gPow hB h
theorem below_grow (B:Nat) (w:World) (hB:B≤w.heap.size) (k:Nat) (os:Array Obj):Below B w (grow (w.drewN k) os):=
 ⟨rfl,rfl,rfl,by show w.heap.size≤(w.heap++os).size;rw [Array.size_append];omega,fun j hj=>by show (w.heap++os)[j]?=w.heap[j]?;exact Array.getElem?_append_left (by omega)⟩
theorem size_mk (l:List UInt8):(⟨l.toArray⟩:ByteArray).size=l.length:=by show l.toArray.size=_;simp
theorem zdb {w w':World} {a:Option Addr} {b off n:Nat} {ss:List ByteArray} (h:zdg w a b off n ss) (hb:Below w.heap.size w w'):zdg w' a b off n ss:=
 ⟨h.len,h.addr,fun h0=>by have:=h.low h0;have:=hb.size;omega,fun i hi=> (hb.cell (p:=⟨b,off+i,none⟩) (h.low (by omega))).trans (h.cell i hi),h.fit⟩
theorem info9:(Tryz.prog.info? 9).map (fun i=> (i.zero,i.size,i.bytes))=some (some (.string ⟨#[]⟩),1,16):=by kernel_rfl
def RowAt (w:World) (g:Nat) (T:TypeId) (C:Array Value):Prop:=w.heap[g]?=some (.cells C T (0,0))
theorem RowAt.cell {w:World} {g:Nat} {T:TypeId} {C:Array Value} (h:RowAt w g T C) (j:Nat):w.cell? ⟨g,j,none⟩=C[j]?:=Lib.cell_of_heap h j
theorem RowAt.frozen {w:World} {g:Nat} {T:TypeId} {C:Array Value} (h:RowAt w g T C) (j:Nat):w.frozen? ⟨g,j,none⟩=false:=Lib.frozen_of_heap h j
theorem RowAt.set {w:World} {g:Nat} {T:TypeId} {C:Array Value} (h:RowAt w g T C) (j:Nat) (v:Value):RowAt (w.setCell ⟨g,j,none⟩ v) g T (C.setIfInBounds j v):=by
 unfold RowAt at*;simp [World.setCell,Array.getElem?_modify,h]
theorem RowAt.lt {w:World} {g:Nat} {T:TypeId} {C:Array Value} (h:RowAt w g T C):g<w.heap.size:=(Array.getElem?_eq_some_iff.1 h).1
theorem RowAt.new (w:World) (T:TypeId) (C:Array Value):RowAt (w.alloc (.cells C T)) w.heap.size T C:=by
 show (w.heap.push (.cells C T (0,0)))[w.heap.size]?=_;simp
theorem grown_refl (w:World) (r:Option Nat):w.grownBy w r:=⟨rfl,rfl,rfl,Nat.le_refl _,fun _ _ _=>rfl⟩
theorem grown_drewN (w:World) (q:Nat) (r:Option Nat):w.grownBy (w.drewN q) r:=⟨rfl,rfl,rfl,Nat.le_refl _,fun _ _ _=>rfl⟩
theorem zcc {w w1 w2:World} {r:Option Nat} (h:w.grownBy w1 r) (hb:Below w1.heap.size w1 w2):w.grownBy w2 r:=
 ⟨hb.os.trans h.os,hb.tape.trans h.tape,hb.output.trans h.output,Nat.le_trans h.size hb.size,fun k hk hr=> (hb.block k (Nat.lt_of_lt_of_le hk h.size)).trans (h.block k hk hr)⟩
theorem zah {w w1 w2:World} {r:Option Nat} (h:w.grownBy w1 r) (h2:w1.grownBy w2 r):w.grownBy w2 r:=
 ⟨h2.os.trans h.os,h2.tape.trans h.tape,h2.output.trans h.output,Nat.le_trans h.size h2.size,fun k hk hr=> (h2.block k (Nat.lt_of_lt_of_le hk h.size) hr).trans (h.block k hk hr)⟩
theorem grown_set (w:World) (b o:Nat) (v:Value):w.grownBy (w.setCell ⟨b,o,none⟩ v) (some b):=
 ⟨rfl,rfl,rfl,by simp [World.setCell],fun k _ hk=>Below.heap_setCell _ _ _ _ (fun e=>hk (by simp [e]))⟩
theorem below_of_grown {B b:Nat} {w w1:World} (h:w.grownBy w1 (some b)) (hB:B≤b) (hw:B≤w.heap.size):Below B w w1:=
 ⟨h.os,h.tape,h.output,h.size,fun k hk=>h.block k (by omega) (by simp;omega)⟩
theorem RowAt.below {w w':World} {g:Nat} {T:TypeId} {C:Array Value} {B:Nat} (h:RowAt w g T C) (hb:Below B w w') (hg:g<B):RowAt w' g T C:=(hb.block g hg).trans h
theorem str_of (t:ByteArray) (l:List UInt8) (h:t.data.toList=l):t=⟨l.toArray⟩:=by
 apply ByteArray.ext;rw [←h]
structure Ready (w:World):Prop where
 tab:Tab w
 syn:∃tp p,w.var? Tryz.prog "strconv.ErrSyntax" =some #[.iface tp p]
 rng:∃tp p,w.var? Tryz.prog "strconv.ErrRange" =some #[.iface tp p]
 six:6≤w.heap.size
theorem gSyn:Tryz.prog.globalNamed "strconv.ErrSyntax" =some 1:=by kernel_rfl
theorem gRng:Tryz.prog.globalNamed "strconv.ErrRange" =some 2:=by kernel_rfl
theorem Ready.below {w w':World} (h:Ready w) (hb:Below 6 w w'):Ready w':=by
 obtain ⟨t1,p1,h1⟩:=h.syn;obtain ⟨t2,p2,h2⟩:=h.rng;exact ⟨h.tab.below hb (by omega),⟨t1,p1,var?_below hb gSyn (by omega) h1⟩,⟨t2,p2,var?_below hb gRng (by omega) h2⟩,by have:=h.six;have:=hb.size;omega⟩
def inNum (n:Int):Bool:=decide (-1000000000000000000≤n∧n≤1000000000000000000)
def decM (l:List UInt8):Option Int:=
 match Lib.parseIntB 64 l with
 | .ok v=>if inNum v=true∧Lib.itoa v=l then some v else none
 |_=>none
theorem numberOk_any (n:Int) (w:World):
  Calls Tryz.prog 141 #[.int .i64 n] w fun e w'=>e= .returned (.bool (inNum n))∧w'=w:=by
 by_cases h:-1000000000000000000≤n
 ·go_enter Tryz.func141,Tryz.ntmps141;go_wp2;go_ret;exact ⟨zae (by simp [inNum,h]),rfl⟩
 ·have hd:decide (-1000000000000000000≤n)=false:=by simpa using h
  go_enter Tryz.func141,Tryz.ntmps141;go_wp2;go_ret;exact ⟨zae (by simp [inNum];omega),rfl⟩
theorem parseInt_range (l:List UInt8) (v:Int) (h:Lib.parseIntB 64 l= .ok v):-9223372036854775808≤v∧v≤9223372036854775807:=by
 have e63:(2:Nat)^(64-1)=9223372036854775808:=by decide
 unfold Lib.parseIntB at h;cases l with
 |nil=>cases h
 |cons c r=>
  simp only at h;split at h
  ·cases h
  ·cases h
  ·rename_i u _;rw [e63] at h;split at h
   ·cases h
   ·split at h
    ·cases h
    ·injection h with h;subst h;split<;>omega
theorem bytesW_below (w:World) (s:ByteArray):Below w.heap.size w (Lib.bytesWorld w 5 s):=⟨rfl,rfl,rfl,by rw [Lib.bytesWorld_size];omega,fun k hk=>Lib.bytesWorld_at_old w 5 s k hk⟩
theorem decimal_any (s:ByteArray) (w:World) (hs:s.size≤1048576) (hr:Ready w):
  Calls Tryz.prog 138 #[.string s] w fun e w'=>e= .returned (.tuple #[.int .i64 ((decM s.data.toList).getD 0),.bool (decM s.data.toList).isSome])∧Below w.heap.size w w':=by
 have h6:=hr.six;cases hp:Lib.parseIntB 64 s.data.toList with
 |ok v=>
  obtain ⟨v0,v1⟩:=parseInt_range _ _ hp;have HC:Hid (Calls Tryz.prog 140 #[.string s,.int .i64 10,.int .i64 64] w fun e w'=>e= .returned (.tuple #[.int .i64 v,.nilIface])∧(w'=w∨∃t,w'=Lib.bytesWorld w 5 t)):=Tryz.strconv_ParseInt_10_at64_ok s (by omega) v hp w;have HD:Hid (decM s.data.toList=if inNum v=true∧Lib.itoa v=s.data.toList then some v else none):=by
   unfold Hid decM;rw [hp]
  clear hp;go_enter Tryz.func138,Tryz.ntmps138;go_wp2_with fail;refine HC.out.mono ?_;rintro e w1 ⟨rfl,hw1⟩;have b1:Below w.heap.size w w1:=by
   rcases hw1 with rfl|⟨t,rfl⟩
   ·exact Below.refl _ _
   ·exact bytesW_below w t
  clear hw1 HC;have hr1:=hr.below (b1.mono h6);go_wp2_with fail;refine (numberOk_any v w1).mono ?_;rintro e w2 ⟨rfl,hw2⟩;have hw3:=hw2.symm;subst hw3;cases hin:inNum v with
  |false=>
   have HN:Hid (decM s.data.toList=none):=by unfold Hid;rw [HD.out,hin];simp
   clear hin;go_wp2;go_ret2;exact ⟨by rw [HN.out];rfl,b1⟩
  |true=>
   have HN:Hid (decM s.data.toList=if Lib.itoa v=s.data.toList then some v else none):=by unfold Hid;rw [HD.out,hin];simp
   clear hin HD;have htab:=hr1.tab;go_wp2_with fail;refine (Tryz.strconv_FormatInt_10 v v0 v1 _ htab).mono ?_;rintro e w3 ⟨rfl,k1,os1,rfl⟩;have b2:=below_grow w1.heap.size w1 (Nat.le_refl _) k1 os1;generalize grow (w1.drewN k1) os1=w3 at*;have b02:=b1.trans (b2.mono b1.size);clear b2 b1 hr1 htab;generalize Lib.itoa v=D at*;by_cases hD:D=s.data.toList
   ·have hb:(D==s.toList)=true:=by simp [hD,ByteArray.toList_eq]
    have HV:Hid (decM s.data.toList=some v):=by unfold Hid;rw [HN.out,if_pos hD]
    clear hD HN;go_wp2;go_ret2;exact ⟨by rw [HV.out];rfl,b02⟩
   ·have hb:(D==s.toList)=false:=by simp [hD,ByteArray.toList_eq]
    have HV:Hid (decM s.data.toList=none):=by unfold Hid;rw [HN.out,if_neg hD]
    clear hD HN;go_wp2;go_ret2;exact ⟨by rw [HV.out];rfl,b02⟩
 |range=>
  obtain ⟨tp,pv,hv⟩:=hr.rng;have HC:Hid (Calls Tryz.prog 140 #[.string s,.int .i64 10,.int .i64 64] w fun e w'=>∃N,e= .returned (.tuple #[.int .i64 (Lib.intSat 64 s.data.toList),.iface 218 (.pointer (some ⟨N,0,none⟩))])∧w.heap.size≤N∧w'.heap[N]?=some (.cells #[.string ⟨#[80,97,114,115,101,73,110,116]⟩,.string s,.iface tp pv] 229 (0,0))∧Below w.heap.size w w'):=Tryz.strconv_ParseInt_10_at64_range_var s (by omega) hp tp pv w hv;have HV:Hid (decM s.data.toList=none):=by unfold Hid decM;rw [hp]
  clear hp hv;generalize Lib.intSat 64 s.data.toList=iv at*;go_enter Tryz.func138,Tryz.ntmps138;go_wp2_with fail;refine HC.out.mono ?_;rintro e w1 ⟨N,rfl,_,_,b1⟩;go_wp2;go_ret2;exact ⟨by rw [HV.out];rfl,b1⟩
 |_=>
  obtain ⟨tp,pv,hv⟩:=hr.syn;have HC:Hid (Calls Tryz.prog 140 #[.string s,.int .i64 10,.int .i64 64] w fun e w'=>∃N,e= .returned (.tuple #[.int .i64 (0),.iface 218 (.pointer (some ⟨N,0,none⟩))])∧w.heap.size≤N∧w'.heap[N]?=some (.cells #[.string ⟨#[80,97,114,115,101,73,110,116]⟩,.string s,.iface tp pv] 229 (0,0))∧Below w.heap.size w w'):=Tryz.strconv_ParseInt_10_at64_syntax_var s (by omega) hp tp pv w hv;have HV:Hid (decM s.data.toList=none):=by unfold Hid decM;rw [hp]
  clear hp hv;go_enter Tryz.func138,Tryz.ntmps138;go_wp2_with fail;refine HC.out.mono ?_;rintro e w1 ⟨N,rfl,_,_,b1⟩;go_wp2;go_ret2;exact ⟨by rw [HV.out];rfl,b1⟩
theorem dec_step (n:Nat) (h:10≤n):Lib.decDigits n=Lib.decDigits (n/10)++ [UInt8.ofNat (48+n%10)]:=by
 rw [Lib.decDigits,dif_neg (by omega)]
theorem conv_one (w:World) (z:Int) (h0:0≤z) (h1:z<256):
  (convert 22 9 (.slice (some ⟨w.heap.size,0,none⟩) 1 1)).run Tryz.prog (w.alloc (.cells #[.int .u8 z] 5))= .ok (.string ⟨[UInt8.ofNat z.toNat].toArray⟩) (w.alloc (.cells #[.int .u8 z] 5)):=by
 refine run_convert_bytes_back _ 22 9 5 ⟨w.heap.size,0,none⟩ 1 [UInt8.ofNat z.toNat] Tryz.underlying22 Tryz.underlying5 Tryz.underlying9 ?_;intro j hj;obtain rfl:j=0:=by simpa using hj
 have e:((UInt8.ofNat z.toNat).toNat:Int)=z:=by
  rw [UInt8.toNat_ofNat'];omega
 simp only [List.getElem_cons_zero,e];exact cell_one_new w (.int .u8 z) 5 0 _ rfl
theorem dec_last (k:Nat) (h:k<10):Lib.decDigits k=[UInt8.ofNat (48+k)]:=Lib.decDigits_one h
theorem dec_any (n:Nat) (w:World) (hn:n≤9223372036854775807):
  Calls Tryz.prog 48 #[.int .i64 n] w fun e w'=>e= .returned (.string ⟨(Lib.decDigits n).toArray⟩)∧Below w.heap.size w w':=by
 have hneg:decide ((n:Int)<0)=false:=by simp
 go_enter Tryz.func48,Tryz.ntmps48;go_wp2;go_loopw [0,3] (fun m s wr=>∃(k:Nat) (acc:List UInt8),k≤n∧m= .int .i64 k∧s= .string ⟨acc.toArray⟩∧Lib.decDigits k++acc=Lib.decDigits n∧2*acc.length+k≤n∧Below w.heap.size w wr) (fun m _ _=> (intOf m).toNat)
 case atStart=>exact ⟨n,[],by omega,rfl,rfl,by simp,by simp,Below.refl _ _⟩
 case round=>
  obtain ⟨k,acc,hk,rfl,rfl,hacc,hal,bk⟩:=hrel;have HA:Hid (Lib.decDigits k++acc=Lib.decDigits n):=hacc;clear hacc;have sk:=bk.size;by_cases hlt:10≤k
  ·have hcv:=conv_one wr (48+(k:Int)%10) (by omega) (by omega);go_wp2;go_roundw
   case rel=>
    refine ⟨k/10,[UInt8.ofNat (48+k%10)]++acc,by omega,by go_num,?_,?_,by simp;omega,bk.alloc sk _⟩
    ·exact congrArg Value.string (by rw [show (48+UInt8.ofNat (k%10))=UInt8.ofNat (48+k%10) from by simp];exact ByteArray.mk_append_mk [UInt8.ofNat (48+k%10)] acc)
    ·rw [←HA.out,dec_step k hlt];simp
   case measure=>simp [intOf];omega
  ·have hcv:=conv_one wr (48+(k:Int)) (by omega) (by omega);go_wp2;go_ret;refine ⟨ret_str ?_,bk.alloc sk _⟩;rw [show (48+UInt8.ofNat k)=UInt8.ofNat (48+k) from by simp,←HA.out,dec_last k (by omega)];exact ByteArray.mk_append_mk [UInt8.ofNat (48+k)] acc
theorem clone60 (s:ByteArray) (w:World) (hs:s.size≤1048576):Calls Tryz.prog 103 #[.string s] w fun e w'=>e= .returned (.string s)∧Below w.heap.size w w':=by
 go_enter Tryz.func103,Tryz.ntmps103;go_wp2_with fail;refine (Tryz.stringslite_Clone s w (by omega)).mono ?_;rintro e w1 ⟨rfl,b1⟩;go_wp2;go_ret;exact ⟨rfl,b1⟩
def digI:Nat→List UInt8→Option Nat
 |acc,[]=>some acc
 |acc,c::r=>if c.toNat<48∨57<c.toNat∨100000000000000000<acc then none else digI (acc*10+(c.toNat-48)) r
def negI (l:List UInt8):Bool:=decide (1<l.length)&&decide (l.head?=some 45)
def bodyI (l:List UInt8):List UInt8:=if negI l then l.tail else l
def intI (l:List UInt8):Int×Bool:=
 if (bodyI l).length<1∨19<(bodyI l).length∨((bodyI l).head?=some 48∧(1<(bodyI l).length∨negI l=true)) then (0,false)
 else match digI 0 (bodyI l) with
  |none=> (0,false)
  |some n=> (if negI l then-(n:Int) else n,inNum (if negI l then-(n:Int) else n))
theorem dig_step (n:Nat) (h:10≤n):Lib.decDigits n=Lib.decDigits (n/10)++ [UInt8.ofNat (48+n%10)]:=by
 rw [Lib.decDigits,dif_neg (by omega)]
theorem dig_byte (c:UInt8) (h:¬c.toNat<48) (h2:¬57<c.toNat):UInt8.ofNat (48+(c.toNat-48))=c:=by
 have:48+(c.toNat-48)=c.toNat:=by omega
 rw [this];simp
theorem digI_to:∀(l:List UInt8) (acc n:Nat),1≤acc→digI acc l=some n→Lib.decDigits acc++l=Lib.decDigits n
 | [],acc,n,_,h=>by simp only [digI] at h;injection h with h;subst h;simp
 |c::r,acc,n,ha,h=>by
  simp only [digI] at h;split at h
  ·cases h
  ·rename_i hc;have hd:=dig_step (acc*10+(c.toNat-48)) (by omega);have e1:(acc*10+(c.toNat-48))/10=acc:=by omega
   have e2:(acc*10+(c.toNat-48))%10=c.toNat-48:=by omega
   rw [e1,e2,dig_byte c (by omega) (by omega)] at hd;rw [←digI_to r _ n (by omega) h,hd];simp
theorem digI_body (l:List UInt8) (n:Nat) (hl:l≠ []) (h0:l.head?=some 48→l.length≤1) (h:digI 0 l=some n):l=Lib.decDigits n:=by
 match l,hl,h0,h with
 |c::r,_,h0,h=>
  simp only [digI] at h;split at h
  ·cases h
  ·rename_i hc;by_cases e:c.toNat=48
   ·have:c=48:=UInt8.toNat_inj.mp (by rw [e];rfl);subst this;have hr:r=[]:=by
     have:=h0 rfl;simpa using this
    subst hr;simp only [digI] at h;injection h with h;subst h;exact (Lib.decDigits_one (i:=0) (by omega)).symm
   ·have hd:Lib.decDigits (0*10+(c.toNat-48))=[c]:=by
     rw [Lib.decDigits_one (by omega)];rw [Nat.zero_mul,Nat.zero_add,dig_byte c (by omega) (by omega)]
    rw [←digI_to r _ n (by omega) h,hd];simp
theorem digI_snoc:∀(l:List UInt8) (c:UInt8) (acc:Nat),digI acc (l++ [c])=(digI acc l).bind fun m=>digI m [c]
 | [],c,acc=>by simp [digI]
 |b::l,c,acc=>by
  simp only [List.cons_append,digI];split
  ·rfl
  ·rw [digI_snoc l c];rfl
theorem ofNat_dig (k:Nat) (h:k<10):(UInt8.ofNat (48+k)).toNat=48+k:=by
 simp;omega
theorem digI_of (n:Nat) (h:n≤1000000000000000000):digI 0 (Lib.decDigits n)=some n:=by
 induction n using Nat.strongRecOn with
 |_ n ih=>
  by_cases h10:n<10
  ·rw [Lib.decDigits_one h10];simp only [digI];rw [ofNat_dig n h10,if_neg (by omega)];congr 1;omega
  ·rw [dig_step n (by omega),digI_snoc,ih (n/10) (by omega) (by omega)];simp only [Option.bind,digI];rw [ofNat_dig _ (by omega),if_neg (by omega)];congr 1;omega
theorem dec_ne (n:Nat):Lib.decDigits n≠ []:=by
 by_cases h10:n<10
 ·rw [Lib.decDigits_one h10];simp
 ·rw [dig_step n (by omega)];simp
theorem dec_head (n:Nat) (h:1≤n):∃c r,Lib.decDigits n=c::r∧49≤c.toNat∧c.toNat≤57:=by
 induction n using Nat.strongRecOn with
 |_ n ih=>
  by_cases h10:n<10
  ·exact ⟨_,_,Lib.decDigits_one h10,by rw [ofNat_dig n h10];omega,by rw [ofNat_dig n h10];omega⟩
  ·obtain ⟨c,r,e,h1,h2⟩:=ih (n/10) (by omega) (by omega);exact ⟨c,r++ [UInt8.ofNat (48+n%10)],by rw [dig_step n (by omega),e];rfl,h1,h2⟩
theorem dec_head' (n:Nat):∃c r,Lib.decDigits n=c::r∧48≤c.toNat∧c.toNat≤57:=by
 by_cases h:1≤n
 ·obtain ⟨c,r,e,h1,h2⟩:=dec_head n h;exact ⟨c,r,e,by omega,h2⟩
 ·have:n=0:=by omega
  subst this;exact ⟨48,[],Lib.decDigits_one (by omega),by decide,by decide⟩
theorem dec_len:∀(k n:Nat),n<10^(k+1)→(Lib.decDigits n).length≤k+1
 |0,n,h=>by rw [Lib.decDigits_one (by simpa using h)];simp
 |k+1,n,h=>by
  by_cases h10:n<10
  ·rw [Lib.decDigits_one h10];simp
  ·rw [dig_step n (by omega)];have:=dec_len k (n/10) (by rw [Nat.pow_succ] at h;omega);simp;omega
theorem puM_snoc (M:Nat):∀(l:List UInt8) (c:UInt8) (acc m:Nat),Lib.parseUintM M acc l= .ok m→Lib.parseUintM M acc (l++ [c])=Lib.parseUintM M m [c]
 | [],c,acc,m,h=>by simp only [Lib.parseUintM] at h;injection h with h;subst h;rfl
 |b::l,c,acc,m,h=>by
  simp only [Lib.parseUintM] at h;simp only [List.cons_append];rw [Lib.parseUintM];split at h
  ·rename_i h1;rw [if_pos h1];split at h
   ·cases h
   ·rename_i h2;rw [if_neg h2];split at h
    ·cases h
    ·rename_i h3;rw [if_neg h3];exact puM_snoc M l c _ m h
  ·cases h
theorem puM_of (n:Nat) (h:n≤1000000000000000000):Lib.parseUintM 18446744073709551615 0 (Lib.decDigits n)= .ok n:=by
 induction n using Nat.strongRecOn with
 |_ n ih=>
  by_cases h10:n<10
  ·rw [Lib.decDigits_one h10];simp only [Lib.parseUintM];rw [ofNat_dig n h10,if_pos (by omega),if_neg (by omega),if_neg (by omega)];congr 1;omega
  ·rw [dig_step n (by omega),puM_snoc _ _ _ _ _ (ih (n/10) (by omega) (by omega))];simp only [Lib.parseUintM];rw [ofNat_dig _ (by omega),if_pos (by omega),if_neg (by omega),if_neg (by omega)];congr 1;omega
theorem puB_of (n:Nat) (h:n≤1000000000000000000):Lib.parseUintB 64 (Lib.decDigits n)= .ok n:=by
 unfold Lib.parseUintB;rw [if_neg (dec_ne n)];exact puM_of n h
theorem piB_itoa (v:Int) (h:inNum v=true):Lib.parseIntB 64 (Lib.itoa v)= .ok v:=by
  have hv: -1000000000000000000≤v∧v≤1000000000000000000:=of_decide_eq_true h;unfold Lib.itoa;by_cases hn:v < 0
  · rw [if_pos hn,Lib.parseIntB_minus,puB_of _ (by omega)];simp only [Lib.signedC]
    rw [if_neg (by have:(2:Nat) ^ (64 - 1)=9223372036854775808:=by decide
                   omega)]
    congr 1;omega
  · rw [if_neg hn];obtain ⟨c,r,e,h1,h2⟩:=dec_head' v.toNat;have hp:=puB_of v.toNat (by omega);rw [e] at hp ⊢;rw [Lib.parseIntB_plain 64 c r (by omega) (by omega),hp];simp only [Lib.signlessC]
    rw [if_neg (by have:(2:Nat) ^ (64 - 1)=9223372036854775808:=by decide
                   omega)]
    congr 1;omega
theorem decM_itoa (v:Int) (h:inNum v=true):decM (Lib.itoa v)=some v:=by
 unfold decM;rw [piB_itoa v h];simp [h]
theorem intI_itoa (v:Int) (h:inNum v=true):intI (Lib.itoa v)=(v,true):=by
 have hv:-1000000000000000000≤v∧v≤1000000000000000000:=of_decide_eq_true h;by_cases hn:v<0
 ·have e:Lib.itoa v=45::Lib.decDigits v.natAbs:=by unfold Lib.itoa;rw [if_pos hn]
  obtain ⟨c,r,e2,h1,h2⟩:=dec_head v.natAbs (by omega);have hl:=dec_len 18 v.natAbs (by omega);have hneg:negI (Lib.itoa v)=true:=by rw [e,e2];simp [negI]
  have hb:bodyI (Lib.itoa v)=Lib.decDigits v.natAbs:=by unfold bodyI;rw [if_pos hneg,e];rfl
  unfold intI;rw [hb,hneg,digI_of v.natAbs (by omega)];have hc:c≠48:=fun hc=>by subst hc;revert h1;decide
  rw [if_neg (by rw [e2] at hl ⊢;simp [hc] at hl ⊢;omega)];have:-(v.natAbs:Int)=v:=by omega
  simp [this,h]
 ·have e:Lib.itoa v=Lib.decDigits v.toNat:=by unfold Lib.itoa;rw [if_neg hn]
  obtain ⟨c,r,e2,h1,h2⟩:=dec_head' v.toNat;have hl:=dec_len 18 v.toNat (by omega);have hc:c≠45:=fun hc=>by subst hc;revert h1;decide
  have hneg:negI (Lib.itoa v)=false:=by rw [e,e2];simp [negI,hc]
  have hb:bodyI (Lib.itoa v)=Lib.decDigits v.toNat:=by unfold bodyI;rw [hneg,e];rfl
  unfold intI;rw [hb,hneg,digI_of v.toNat (by omega)];have h0:(Lib.decDigits v.toNat).head?=some 48→(Lib.decDigits v.toNat).length≤1:=fun h48=>by
   by_cases hz:1≤v.toNat
   ·obtain ⟨c',r',e3,h3,_⟩:=dec_head v.toNat hz;rw [e3] at h48;simp at h48;subst h48;exfalso;revert h3;decide
   ·have:v.toNat=0:=by omega
    rw [this,Lib.decDigits_one (by omega)];simp
  have hne:(Lib.decDigits v.toNat).length≥1:=by rw [e2];simp
  rw [if_neg (by
   rintro (h|h|⟨h,h'|h'⟩)
   ·omega
   ·omega
   ·have:=h0 h;omega
   ·cases h')]
  have:(v.toNat:Int)=v:=by omega
  simp [this,h]
theorem intI_to (l:List UInt8) (h:(intI l).2=true):inNum (intI l).1=true∧Lib.itoa (intI l).1=l:=by
 unfold intI at h ⊢;split at h
 ·cases h
 ·rename_i hc;rw [if_neg hc];cases hd:digI 0 (bodyI l) with
  |none=>rw [hd] at h;cases h
  |some n=>
   rw [hd] at h;refine ⟨h,?_⟩;have hin:inNum (if negI l=true then-(n:Int) else n)=true:=h
   have hb:bodyI l=Lib.decDigits n:=digI_body (bodyI l) n (fun e=>hc (by rw [e];simp)) (fun e=>by
    rcases Nat.lt_or_ge 1 (bodyI l).length with h1|h1
    ·exact absurd (Or.inr (Or.inr ⟨e,Or.inl h1⟩)) hc
    ·omega) hd
   show Lib.itoa (if negI l=true then-(n:Int) else n)=l;cases hneg:negI l with
   |true=>
    have hl:l=45::bodyI l:=by
     unfold bodyI;rw [hneg];unfold negI at hneg;simp at hneg;obtain ⟨_,h45⟩:=hneg;match l,h45 with
     |c::r,h45=>simp at h45;subst h45;rfl
    have hn0:1≤n:=by
     rcases Nat.eq_zero_or_pos n with e|e
     ·subst e;exfalso;rw [Lib.decDigits_one (by omega)] at hb;exact hc (Or.inr (Or.inr ⟨by rw [hb];rfl,Or.inr hneg⟩))
     ·exact e
    rw [if_pos rfl];unfold Lib.itoa;rw [if_pos (by omega),hl,hb];congr 1;simp
   |false=>
    have hl:bodyI l=l:=by unfold bodyI;rw [hneg];rfl
    rw [if_neg (by simp)];unfold Lib.itoa;rw [if_neg (by omega),←hl,hb];congr 1
theorem decM_intI (l:List UInt8):decM l=if (intI l).2 then some (intI l).1 else none:=by
 by_cases h:(intI l).2=true
 ·obtain ⟨h1,h2⟩:=intI_to l h;rw [if_pos h];have:=decM_itoa _ h1;rwa [h2] at this
 ·rw [if_neg h];cases hd:decM l with
  |none=>rfl
  |some v=>
   exfalso;unfold decM at hd;split at hd
   ·split at hd
    ·rename_i hx;injection hd with hd;subst hd;apply h;rw [←hx.2,intI_itoa _ hx.1]
    ·cases hd
   ·cases hd
section
variable {P : Program} {ops : Array Oper} {Q : Exit → Act → World → Prop} {md : Region.Mode}
theorem ready_mem {l:Array Bool} {i:Nat} (h:i∈Region.ready md ops l):i<ops.size∧l.getD i true=false∧((ops[i]?).map (·.after.all fun e=>!Region.binds md e||l.getD e.on false)).getD false=true:=by
 unfold Region.ready at h;rw [List.mem_filter,List.mem_range,Bool.and_eq_true] at h;exact ⟨h.1,by simpa using h.2.1,h.2.2⟩
def unl (l:Array Bool):Nat:=l.toList.countP (fun b=>!b)
theorem unl_set {l:Array Bool} {i:Nat} (h:l.getD i true=false):unl (l.setIfInBounds i true)+1=unl l:=by
 have hi:i<l.size:=by
  by_cases hi:i<l.size
  ·exact hi
  ·rw [Array.getD_eq_getD_getElem?,Array.getElem?_eq_none (by omega)] at h;cases h
 have hi':i<l.toList.length:=by simpa using hi
 have hv:l.toList[i]=false:=by
  rw [Array.getD_eq_getD_getElem?,Array.getElem?_eq_getElem hi] at h;simpa using h
 have hpos:0<l.toList.countP (fun b=>!b):=List.countP_pos_iff.2 ⟨_,List.getElem_mem hi',by rw [hv];rfl⟩;unfold unl;rw [Array.toList_setIfInBounds,List.countP_set hi',hv,show (if (!false)=true then 1 else 0)=1 from rfl,show (if (!true)=true then 1 else 0)=0 from rfl];omega
theorem ready_none {l:Array Bool} (h:unl l=0):Region.ready md ops l=[]:=by
 apply List.eq_nil_iff_forall_not_mem.2;intro i hi;have hm:=(ready_mem hi).2.1;have:=unl_set hm;omega
theorem wpAnyH_inv (I:Array Bool→Act→World→Prop)
  (hstep:∀l a w i,I l a w→i∈Region.ready md ops l→wpOp P ops Q i (fun a' w'=>I (l.setIfInBounds i true) a' w') a w)
  (hdone:∀l a w,I l a w→Region.ready md ops l=[]→Q .normal a w):∀(fuel:Nat) l a w,I l a w→unl l≤fuel→wpAnyH P md ops Q (fun _=>True) fuel l a w
 |0,l,a,w,h,hu=>⟨ready_none (by omega),hdone l a w h (ready_none (by omega))⟩
 |fuel+1,l,a,w,h,hu=>⟨fun h0=>hdone l a w h h0,fun i hi=>wpOp_mono (fun a' w' h'=>⟨trivial,wpAnyH_inv I hstep hdone fuel _ a' w' h' (by have:=unl_set (ready_mem hi).2.1;omega)⟩) (hstep l a w i h hi)⟩
theorem all_listed {l:Array Bool} (hb:(List.range ops.size).all (fun i=> ((ops[i]?).map (·.after.all fun e=>!Region.binds md e||decide (e.on<i))).getD false)=true) (h:Region.ready md ops l=[]):∀i,i<ops.size→l.getD i true=true:=by
 intro i;induction i using Nat.strongRecOn with
 |_ i ih=>
  intro hi;cases hl:l.getD i true with
  |true=>rfl
  |false=>
   exfalso;have hm:i∈Region.ready md ops l:=by
    unfold Region.ready;rw [List.mem_filter,List.mem_range,Bool.and_eq_true];refine ⟨hi,by rw [hl];rfl,?_⟩;have hb':=List.all_eq_true.1 hb i (List.mem_range.2 hi);rw [Array.getElem?_eq_getElem hi] at hb' ⊢;show (ops[i].after.all fun e=>!Region.binds md e||l.getD e.on false)=true;have hb2:(ops[i].after.all fun e=>!Region.binds md e||decide (e.on<i))=true:=hb';rw [Array.all_eq_true] at hb2 ⊢;intro j hj;have hj2:=hb2 j hj;rw [Bool.or_eq_true] at hj2 ⊢;rcases hj2 with hj2|hj2
    ·exact .inl hj2
    have hlt:=of_decide_eq_true hj2;have:=ih _ hlt (by omega);right;have hi2:i<l.size:=by
     by_cases h2:i<l.size
     ·exact h2
     ·rw [Array.getD_eq_getD_getElem?,Array.getElem?_eq_none (by omega)] at hl;cases hl
    rw [Array.getD_eq_getD_getElem?,Array.getElem?_eq_getElem (by omega)] at this ⊢;exact this
   rw [h] at hm;cases hm
theorem wp_region_inv (I:Array Bool→Act→World→Prop) {id:Nat} {a:Act} {w:World} (hm:P.follows .mixedOrders=true) (h0:I (Array.replicate ops.size false) a w.drew)
  (hstep:∀l a w i,I l a w→i∈Region.ready .any ops l→wpOp P ops Q i (fun a' w'=>I (l.setIfInBounds i true) a' w') a w)
  (hb:(List.range ops.size).all (fun i=> ((ops[i]?).map (·.after.all fun e=>!Region.binds .any e||decide (e.on<i))).getD false)=true)
  (hdone:∀l a w,I l a w→(∀i,i<ops.size→l.getD i true=true)→Q .normal a w):(Code.region id ops true).wp P Q a w:=
 wp_region_held hm (wpAnyH_inv I hstep (fun l a w h hr=>hdone l a w h (all_listed hb hr)) _ _ _ _ h0 (by unfold unl;rw [Array.toList_replicate];exact Nat.le_trans List.countP_le_length (by simp)))
end
def sl (l:Array Bool) (j:Nat) (v:Value):Value:=if l.getD j false=true then v else undef
theorem zbi {l:Array Bool} {j:Nat} {v:Value} (h:l.getD j false=true):sl l j v=v:=if_pos h
theorem sl_off {l:Array Bool} {j:Nat} {v:Value} (h:l.getD j false=false):sl l j v=undef:=if_neg (by rw [h];simp)
theorem getD_set_ne {l:Array Bool} {i j:Nat} {b:Bool} (h:i≠j):(l.setIfInBounds i true).getD j b=l.getD j b:=by
 rw [Array.getD_eq_getD_getElem?,Array.getD_eq_getD_getElem?,Array.getElem?_setIfInBounds_ne h]
theorem getD_set_self {l:Array Bool} {i:Nat} {b:Bool} (h:i<l.size):(l.setIfInBounds i true).getD i b=true:=by
 rw [Array.getD_eq_getD_getElem?,Array.getElem?_setIfInBounds_self_of_lt h];rfl
theorem zaa {l:Array Bool} {i j:Nat} {v:Value} (h:i≠j):sl (l.setIfInBounds i true) j v=sl l j v:=by
 unfold sl;rw [getD_set_ne h]
theorem zch {l:Array Bool} {i:Nat} {v:Value} (h:i<l.size):sl (l.setIfInBounds i true) i v=v:=zbi (getD_set_self h)
theorem off_of {l:Array Bool} {i:Nat} (h:l.getD i true=false):l.getD i false=false:=by
 rw [Array.getD_eq_getD_getElem?] at h ⊢;cases hx:l[i]? with
 |none=>rfl
 |some b=>rw [hx] at h;exact h
theorem on_of {l:Array Bool} {i:Nat} (h:l.getD i true=true) (hi:i<l.size):l.getD i false=true:=by
 rw [Array.getD_eq_getD_getElem?,Array.getElem?_eq_getElem hi] at h ⊢;exact h
def LastUp (t:Nat) (l:Array Bool):Prop:=l.getD t false=true→∀j,j<t→l.getD j false=true
theorem last_rep {n t:Nat}:LastUp t (Array.replicate n false):=fun h=>by
 rw [Array.getD_eq_getD_getElem?,Array.getElem?_replicate] at h;split at h<;>cases h
theorem LastUp.off {t i:Nat} {l:Array Bool} (h:LastUp t l) (hi:i<t) (ho:l.getD i false=false):l.getD t false=false:=by
 cases hx:l.getD t false with
 |false=>rfl
 |true=>rw [h hx i hi] at ho;cases ho
theorem LastUp.next {t i:Nat} {l:Array Bool} (h:LastUp t l) (hi:i<t) (ho:l.getD i false=false):LastUp t (l.setIfInBounds i true):=fun hx=>by
 rw [getD_set_ne (show i≠t by omega),h.off hi ho] at hx;cases hx
theorem LastUp.last {t:Nat} {l:Array Bool} (h:∀j,j<t→l.getD j false=true):LastUp t (l.setIfInBounds t true):=fun _ j hj=>by
 rw [getD_set_ne (show t≠j by omega)];exact h j hj
end Go.Proofs.YtjpeglkkkllagaaGreatDoor
