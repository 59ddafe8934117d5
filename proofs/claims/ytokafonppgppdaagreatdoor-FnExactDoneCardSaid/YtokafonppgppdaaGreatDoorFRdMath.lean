import Derived.Test.YtokafonppgppdaaGreatDoorKa
import Derived.Shelf.Small.Strs
import Derived.Shelf.Strings.Shaped
import Derived.Shelf.Strings.Prefix
import Derived.Shelf.Strings.FieldsFuncAny
import Derived.Lib.MapLaws
set_option maxHeartbeats 1000000
set_option maxRecDepth 100000
namespace Go.Proofs.YtokafonppgppdaaGreatDoor
namespace Fd
open Tryz
open _root_.ByteArray (empty)
open Go.RowKit
structure Y1 (w:World) (a:Option Addr) (b off n:Nat) (ss:List ByteArray):Prop where
 len:ss.length=n
 addr:0<n->a=some ⟨b,off,none⟩
 low:0<n->b<w.heap.size
 cell:∀i,i<n->w.cell? ⟨b,off+i,none⟩=some (.string (ss.getD i empty))
 fit:∀i,i<n->(ss.getD i empty).size<=9223372036854775807
theorem R9{a b:Bool}(h:a=b):Ending.returned (.bool a)=.returned (.bool b):=by rw[h]
def Tr (ss:List ByteArray):Bool:=decide (ss.length<=16)&&ss.all fun s=>decide (s.size<=200)
theorem zpn(ss:List ByteArray)(p:ByteArray->Bool)(k:Nat)(h:k<ss.length):(ss.take (k+1)).all p=((ss.take k).all p&&p (ss.getD k empty)):=by
 rw[Qo h,List.all_append,Qa,Qd h];simp
theorem zi9(ss:List ByteArray)(p:ByteArray->Bool)(k:Nat)(h:(ss.take k).all p=false):ss.all p=false:=by
 rw[<-List.take_append_drop k ss,List.all_append,h,Q0]
section
variable (a:Option Addr) (b off n c:Nat) (ss:List ByteArray) (w:World)
theorem yf4(h:Y1 w a b off n ss)(hn:n<=2097152):
  Calls prog 123 #[.slice a n c] w fun e w'=>e=.returned (.bool (ss.all fun s=>decide (s.size<=200)))/\w'=w:=by
 go_enter func123,ntmps123;go_wp2;go_loop [4,7] (fun _ i=>∃(k:Nat),k<=n/\i=.int .i64 k/\((ss.take k).all fun s=>decide (s.size<=200))=true) (fun _ i=>n-(intOf i).toNat)
 case atStart=>exact⟨0,by omega,rfl,by simp⟩
 case round=>
  obtain⟨k,hk,rfl,Ga⟩:=hrel;by_cases hlt:k<n
  ·obtain rfl:=h.addr (by omega);have hc:=h.cell k hlt;have hf:=h.fit k hlt;have HA:Hid (((ss.take (k+1)).all fun s=>decide (s.size<=200))=(true&&decide ((ss.getD k empty).size<=200))):=by
    unfold Hid;rw[zpn ss _ k (by rw[h.len];exact hlt),Ga]
   clear Ga;generalize ss.getD k empty=s at*;go_wp2
   ·go_ret;have Gb:200<(s.size:Int):=by assumption
    have e1:=zi9 ss _ (k+1) (HA.out.trans (by simp;omega));exact⟨R9 e1.symm,rfl⟩
   ·go_round
    case rel=>exact⟨k+1,by omega,by go_num,HA.out.trans (by simp;omega)⟩
    case measure=>simp[intOf];omega
  ·have HA:Hid ((ss.take k).all (fun s=>decide (s.size<=200))=true):=Ga;clear Ga;go_wp2;go_ret;have:k=n:=by omega
   subst this;have e1:=HA.out;rw[List.take_of_length_le (by rw[h.len];exact Qc _)]at e1;exact⟨R9 e1.symm,rfl⟩
theorem yik(h:Y1 w a b off n ss)(hn:n<=2097152):
  Calls prog 86 #[.slice a n c] w fun e w'=>e=.returned (.bool (Tr ss))/\w'=w:=by
 have hl:=h.len;by_cases h16:(n:Int)<=16
 ·have hd:decide ((n:Int)<=16)=true:=Qe h16;have HE:Hid (Tr ss=ss.all fun s=>decide (s.size<=200)):=by
   unfold Hid;rw[Tr,Qe (by omega),Qz]
  go_enter func86,ntmps86;go_wp2_with fail;refine(yf4 a b off n c ss w h hn).mono ?_;rintro e w1⟨rfl,rfl⟩;rw[<-HE.out];go_wp2;go_ret;exact⟨rfl,rfl⟩
 ·have hd:decide ((n:Int)<=16)=false:=Qf h16;have HE:Hid (Tr ss=false):=by
   unfold Hid;rw[Tr,Qf (by omega),Q0]
  go_enter func86,ntmps86;go_wp2;go_ret;exact⟨R9 HE.out.symm,rfl⟩
end
end Fd
end Go.Proofs.YtokafonppgppdaaGreatDoor
namespace Go.Proofs
open Go.Shelf
def Tryz.fdlaysM173_ren:Go.Shelf.Ren:=⟨fun|173=>115|246=>160|283=>220|284=>221|285=>222|286=>223|129=>268|317=>267|318=>269|319=>270|320=>271|337=>295|338=>296|n=>n,fun|2=>2|3=>3|9=>9|4=>4|171=>242|0=>0|53=>158|37=>22|5=>5|173=>245|212=>283|51=>284|20=>20|213=>285|46=>160|232=>322|233=>323|n=>n,fun|17=>10|18=>13|19=>14|n=>n⟩
theorem Tryz.fdlaysM173:Go.Proofs.LaysM.n173 Tryz.prog Tryz.fdlaysM173_ren:={
 mixed:=by kernel_rfl
 f129:=Tryz.func268.trans (congrArg some (by kernel_rfl))
 f173:=Tryz.func115.trans (congrArg some (by kernel_rfl))
 f246:=Tryz.func160.trans (congrArg some (by kernel_rfl))
 f283:=Tryz.func220.trans (congrArg some (by kernel_rfl))
 f284:=Tryz.func221.trans (congrArg some (by kernel_rfl))
 f285:=Tryz.func222.trans (congrArg some (by kernel_rfl))
 f286:=Tryz.func223.trans (congrArg some (by kernel_rfl))
 f317:=Tryz.func267.trans (congrArg some (by kernel_rfl))
 f318:=Tryz.func269.trans (congrArg some (by kernel_rfl))
 f319:=Tryz.func270.trans (congrArg some (by kernel_rfl))
 f320:=Tryz.func271.trans (congrArg some (by kernel_rfl))
 f337:=Tryz.func295.trans (congrArg some (by kernel_rfl))
 f338:=Tryz.func296.trans (congrArg some (by kernel_rfl))
 t0:=Tryz.underlying0
 a0:=Tryz.isAgg0
 z0:=Tryz.sizeOf0
 v0:=Tryz.zeroValue0
 t2:=Tryz.underlying2
 a2:=Tryz.isAgg2
 z2:=Tryz.sizeOf2
 v2:=Tryz.zeroValue2
 t3:=Tryz.underlying3
 a3:=Tryz.isAgg3
 z3:=Tryz.sizeOf3
 v3:=Tryz.zeroValue3
 t4:=Tryz.underlying4
 a4:=Tryz.isAgg4
 z4:=Tryz.sizeOf4
 v4:=Tryz.zeroValue4
 t5:=Tryz.underlying5
 a5:=Tryz.isAgg5
 z5:=Tryz.sizeOf5
 v5:=Tryz.zeroValue5
 t9:=Tryz.underlying9
 a9:=Tryz.isAgg9
 z9:=Tryz.sizeOf9
 v9:=Tryz.zeroValue9
 t20:=Tryz.underlying20
 a20:=Tryz.isAgg20
 z20:=Tryz.sizeOf20
 v20:=Tryz.zeroValue20
 t37:=Tryz.underlying22
 a37:=Tryz.isAgg22
 z37:=Tryz.sizeOf22
 v37:=Tryz.zeroValue22
 t46:=Tryz.underlying160
 a46:=Tryz.isAgg160
 z46:=Tryz.sizeOf160
 v46:=Tryz.zeroValue160
 t51:=Tryz.underlying284
 a51:=Tryz.isAgg284
 z51:=Tryz.sizeOf284
 v51:=Tryz.zeroValue284
 t53:=Tryz.underlying158
 a53:=Tryz.isAgg158
 z53:=Tryz.sizeOf158
 v53:=Tryz.zeroValue158
 t171:=Tryz.underlying242
 a171:=Tryz.isAgg242
 z171:=Tryz.sizeOf242
 v171:=Tryz.zeroValue242
 t173:=Tryz.underlying245
 a173:=Tryz.isAgg245
 z173:=Tryz.sizeOf245
 v173:=Tryz.zeroValue245
 t212:=Tryz.underlying283
 a212:=Tryz.isAgg283
 z212:=Tryz.sizeOf283
 v212:=Tryz.zeroValue283
 t213:=Tryz.underlying285
 a213:=Tryz.isAgg285
 z213:=Tryz.sizeOf285
 t232:=Tryz.underlying322
 a232:=Tryz.isAgg322
 z232:=Tryz.sizeOf322
 v232:=Tryz.zeroValue322
 t233:=Tryz.underlying323
 a233:=Tryz.isAgg323
 z233:=Tryz.sizeOf323
 v233:=Tryz.zeroValue323
 g17:=by kernel_rfl
 g18:=by kernel_rfl
 g19:=by kernel_rfl
 i0:=by kernel_rfl
 i2:=by kernel_rfl
 i3:=by kernel_rfl
 i4:=by kernel_rfl
 i5:=by kernel_rfl
 i9:=by kernel_rfl
 i20:=by kernel_rfl
 i37:=by kernel_rfl
 i46:=by kernel_rfl
 i51:=by kernel_rfl
 i53:=by kernel_rfl
 i171:=by kernel_rfl
 i173:=by kernel_rfl
 i212:=by kernel_rfl
 i232:=by kernel_rfl
 i233:=by kernel_rfl
 m17:=by kernel_rfl
 m18:=by kernel_rfl
 m19:=by kernel_rfl }
open Go.RowKit Go.Sort Go.Lib in
theorem Tryz.fdstrconv_FormatInt_10(n:Int)(h0:-9223372036854775808<=n)(h1:n<=9223372036854775807)(w:World)(htab:Lib.TabIs Tryz.prog w "internal/strconv.uint64pow10" .u64 Lib.pow10Tab):
 Calls Tryz.prog 115 #[.int .i64 n,.int .i64 10] w fun e w'=>e=.returned (.string ⟨(Lib.itoa n).toArray⟩)/\∃k os,w'=grow (w.drewN k) os:=Any.strconv_FormatInt_10 Tryz.fdlaysM173 n h0 h1 w htab
end Go.Proofs
namespace Go.Proofs.YtokafonppgppdaaGreatDoor
namespace Fd
open Go.RowKit Go.Sort
theorem Bv:Tryz.prog.globalNamed "internal/strconv.uint64pow10" =some 10:=by kernel_rfl
abbrev Tab (w:World):Prop:=Lib.TabIs Tryz.prog w "internal/strconv.uint64pow10" .u64 Lib.pow10Tab
theorem Tab.bw{B:Nat}{w w':World}(h:Tab w)(hb:Below B w w')(hB:10<B):Tab w':=var?_below hb Bv hB h
theorem below_grow(B:Nat)(w:World)(hB:B<=w.heap.size)(k:Nat)(os:Array Obj):Below B w (grow (w.drewN k) os):=
 ⟨rfl,rfl,rfl,by show w.heap.size<=(w.heap++os).size;rw[Array.size_append];omega,fun j hj=>by show(w.heap++os)[j]?=w.heap[j]?;exact Array.getElem?_append_left (by omega)⟩
end Fd
end Go.Proofs.YtokafonppgppdaaGreatDoor
namespace Go.Proofs
open Go.Shelf
def Tryz.fdlaysC174_ren:Go.Shelf.Ren:=⟨fun|174=>114|247=>158|245=>159|287=>215|279=>216|280=>217|281=>218|282=>219|321=>262|322=>263|316=>264|171=>266|205=>265|243=>294|246=>160|283=>220|284=>221|285=>222|286=>223|129=>268|317=>267|318=>269|319=>270|320=>271|337=>295|338=>296|n=>n,fun|9=>9|3=>3|2=>2|75=>75|85=>151|4=>4|167=>236|5=>5|53=>158|175=>237|46=>160|168=>239|37=>22|0=>0|210=>280|21=>21|127=>306|145=>309|143=>307|171=>242|173=>245|212=>283|51=>284|20=>20|213=>285|232=>322|233=>323|80=>110|n=>n,fun|15=>8|16=>9|17=>10|18=>13|19=>14|n=>n⟩
theorem Tryz.fdlaysC174:Go.Proofs.LaysC.n174 Tryz.prog Tryz.fdlaysC174_ren:={
 mixed:=by kernel_rfl
 f129:=Tryz.func268.trans (congrArg some (by kernel_rfl))
 f171:=Tryz.func266.trans (congrArg some (by kernel_rfl))
 f174:=Tryz.func114.trans (congrArg some (by kernel_rfl))
 f205:=Tryz.func265.trans (congrArg some (by kernel_rfl))
 f243:=Tryz.func294.trans (congrArg some (by kernel_rfl))
 f245:=Tryz.func159.trans (congrArg some (by kernel_rfl))
 f246:=Tryz.func160.trans (congrArg some (by kernel_rfl))
 f247:=Tryz.func158.trans (congrArg some (by kernel_rfl))
 f279:=Tryz.func216.trans (congrArg some (by kernel_rfl))
 f280:=Tryz.func217.trans (congrArg some (by kernel_rfl))
 f281:=Tryz.func218.trans (congrArg some (by kernel_rfl))
 f282:=Tryz.func219.trans (congrArg some (by kernel_rfl))
 f283:=Tryz.func220.trans (congrArg some (by kernel_rfl))
 f284:=Tryz.func221.trans (congrArg some (by kernel_rfl))
 f285:=Tryz.func222.trans (congrArg some (by kernel_rfl))
 f286:=Tryz.func223.trans (congrArg some (by kernel_rfl))
 f287:=Tryz.func215.trans (congrArg some (by kernel_rfl))
 f316:=Tryz.func264.trans (congrArg some (by kernel_rfl))
 f317:=Tryz.func267.trans (congrArg some (by kernel_rfl))
 f318:=Tryz.func269.trans (congrArg some (by kernel_rfl))
 f319:=Tryz.func270.trans (congrArg some (by kernel_rfl))
 f320:=Tryz.func271.trans (congrArg some (by kernel_rfl))
 f321:=Tryz.func262.trans (congrArg some (by kernel_rfl))
 f322:=Tryz.func263.trans (congrArg some (by kernel_rfl))
 f337:=Tryz.func295.trans (congrArg some (by kernel_rfl))
 f338:=Tryz.func296.trans (congrArg some (by kernel_rfl))
 t0:=Tryz.underlying0
 a0:=Tryz.isAgg0
 z0:=Tryz.sizeOf0
 v0:=Tryz.zeroValue0
 t2:=Tryz.underlying2
 a2:=Tryz.isAgg2
 z2:=Tryz.sizeOf2
 v2:=Tryz.zeroValue2
 t3:=Tryz.underlying3
 a3:=Tryz.isAgg3
 z3:=Tryz.sizeOf3
 v3:=Tryz.zeroValue3
 t4:=Tryz.underlying4
 a4:=Tryz.isAgg4
 z4:=Tryz.sizeOf4
 v4:=Tryz.zeroValue4
 t5:=Tryz.underlying5
 a5:=Tryz.isAgg5
 z5:=Tryz.sizeOf5
 v5:=Tryz.zeroValue5
 t9:=Tryz.underlying9
 a9:=Tryz.isAgg9
 z9:=Tryz.sizeOf9
 v9:=Tryz.zeroValue9
 t20:=Tryz.underlying20
 a20:=Tryz.isAgg20
 z20:=Tryz.sizeOf20
 v20:=Tryz.zeroValue20
 t21:=Tryz.underlying21
 a21:=Tryz.isAgg21
 z21:=Tryz.sizeOf21
 v21:=Tryz.zeroValue21
 t37:=Tryz.underlying22
 a37:=Tryz.isAgg22
 z37:=Tryz.sizeOf22
 v37:=Tryz.zeroValue22
 t46:=Tryz.underlying160
 a46:=Tryz.isAgg160
 z46:=Tryz.sizeOf160
 v46:=Tryz.zeroValue160
 t51:=Tryz.underlying284
 a51:=Tryz.isAgg284
 z51:=Tryz.sizeOf284
 v51:=Tryz.zeroValue284
 t53:=Tryz.underlying158
 a53:=Tryz.isAgg158
 z53:=Tryz.sizeOf158
 v53:=Tryz.zeroValue158
 t75:=Tryz.underlying75
 a75:=Tryz.isAgg75
 z75:=Tryz.sizeOf75
 v75:=Tryz.zeroValue75
 t85:=Tryz.underlying151
 a85:=Tryz.isAgg151
 z85:=Tryz.sizeOf151
 v85:=Tryz.zeroValue151
 t127:=Tryz.underlying306
 a127:=Tryz.isAgg306
 z127:=Tryz.sizeOf306
 v127:=Tryz.zeroValue306
 t143:=Tryz.underlying307
 a143:=Tryz.isAgg307
 z143:=Tryz.sizeOf307
 v143:=Tryz.zeroValue307
 t145:=Tryz.underlying309
 a145:=Tryz.isAgg309
 z145:=Tryz.sizeOf309
 v145:=Tryz.zeroValue309
 t167:=Tryz.underlying236
 a167:=Tryz.isAgg236
 z167:=Tryz.sizeOf236
 v167:=Tryz.zeroValue236
 t168:=Tryz.underlying239
 a168:=Tryz.isAgg239
 z168:=Tryz.sizeOf239
 v168:=Tryz.zeroValue239
 t171:=Tryz.underlying242
 a171:=Tryz.isAgg242
 z171:=Tryz.sizeOf242
 v171:=Tryz.zeroValue242
 t173:=Tryz.underlying245
 a173:=Tryz.isAgg245
 z173:=Tryz.sizeOf245
 v173:=Tryz.zeroValue245
 t175:=Tryz.underlying237
 a175:=Tryz.isAgg237
 z175:=Tryz.sizeOf237
 v175:=Tryz.zeroValue237
 t210:=Tryz.underlying280
 a210:=Tryz.isAgg280
 z210:=Tryz.sizeOf280
 v210:=Tryz.zeroValue280
 t212:=Tryz.underlying283
 a212:=Tryz.isAgg283
 z212:=Tryz.sizeOf283
 v212:=Tryz.zeroValue283
 t213:=Tryz.underlying285
 a213:=Tryz.isAgg285
 z213:=Tryz.sizeOf285
 t232:=Tryz.underlying322
 a232:=Tryz.isAgg322
 z232:=Tryz.sizeOf322
 v232:=Tryz.zeroValue322
 t233:=Tryz.underlying323
 a233:=Tryz.isAgg323
 z233:=Tryz.sizeOf323
 v233:=Tryz.zeroValue323
 g15:=by kernel_rfl
 g16:=by kernel_rfl
 g17:=by kernel_rfl
 g18:=by kernel_rfl
 g19:=by kernel_rfl
 t80:=Tryz.underlying110
 a80:=Tryz.isAgg110
 z80:=Tryz.sizeOf110
 v80:=Tryz.zeroValue110
 i0:=by kernel_rfl
 i2:=by kernel_rfl
 i3:=by kernel_rfl
 i4:=by kernel_rfl
 i5:=by kernel_rfl
 i9:=by kernel_rfl
 i20:=by kernel_rfl
 i21:=by kernel_rfl
 i37:=by kernel_rfl
 i46:=by kernel_rfl
 i51:=by kernel_rfl
 i53:=by kernel_rfl
 i75:=by kernel_rfl
 i80:=by kernel_rfl
 i85:=by kernel_rfl
 i127:=by kernel_rfl
 i143:=by kernel_rfl
 i145:=by kernel_rfl
 i167:=by kernel_rfl
 i168:=by kernel_rfl
 i171:=by kernel_rfl
 i173:=by kernel_rfl
 i175:=by kernel_rfl
 i210:=by kernel_rfl
 i212:=by kernel_rfl
 i232:=by kernel_rfl
 i233:=by kernel_rfl
 m15:=by kernel_rfl
 m16:=by kernel_rfl
 m17:=by kernel_rfl
 m18:=by kernel_rfl
 m19:=by kernel_rfl
 c0:=by kernel_rfl
 c2:=by kernel_rfl
 c3:=by kernel_rfl
 c4:=by kernel_rfl
 c5:=by kernel_rfl
 c9:=by kernel_rfl
 c20:=by kernel_rfl
 c21:=by kernel_rfl
 c37:=by kernel_rfl
 c46:=by kernel_rfl
 c51:=by kernel_rfl
 c53:=by kernel_rfl
 c75:=by kernel_rfl
 c80:=by kernel_rfl
 c85:=by kernel_rfl
 c127:=by kernel_rfl
 c143:=by kernel_rfl
 c145:=by kernel_rfl
 c167:=by kernel_rfl
 c168:=by kernel_rfl
 c171:=by kernel_rfl
 c173:=by kernel_rfl
 c175:=by kernel_rfl
 c210:=by kernel_rfl
 c212:=by kernel_rfl
 c213:=by kernel_rfl
 c232:=by kernel_rfl
 c233:=by kernel_rfl }
open Go.RowKit in
theorem Tryz.fdstrconv_ParseInt_10_at64_ok(s:ByteArray)(hmax:s.size<=9223372036854775806)(v:Int)(h:Lib.parseIntB 64 s.data.toList=.ok v)(w:World):
 Calls Tryz.prog 114 #[.string s,.int .i64 10,.int .i64 64] w fun e w'=>e=.returned (.tuple #[.int .i64 v,.nilIface])/\(w'=w\/∃t,w'=Lib.bytesWorld w 5 t):=Any.strconv_ParseInt_10_at64_ok Tryz.fdlaysC174 s hmax v h w
open Go.RowKit in
theorem Tryz.fdstrconv_ParseInt_10_at64_syntax_var(s:ByteArray)(hlim:s.size<=281474976710656)(h:Lib.parseIntB 64 s.data.toList= .«syntax»)(tp:TypeId)(p:Value)(w:World)(hvar:w.var? Tryz.prog "strconv.ErrSyntax" =some #[.iface tp p]):
 Calls Tryz.prog 114 #[.string s,.int .i64 10,.int .i64 64] w fun e w'=>∃N,e=.returned (.tuple #[.int .i64 (0),.iface 239 (.pointer (some ⟨N,0,none⟩))])/\w.heap.size<=N/\w'.heap[N]?=some (.cells #[.string ⟨#[80,97,114,115,101,73,110,116]⟩,.string s,.iface tp p] 280 (0,0))/\Below w.heap.size w w':=Any.strconv_ParseInt_10_at64_syntax_var Tryz.fdlaysC174 s hlim h tp p w hvar
open Go.RowKit in
theorem Tryz.fdstrconv_ParseInt_10_at64_range_var(s:ByteArray)(hlim:s.size<=281474976710656)(h:Lib.parseIntB 64 s.data.toList=.range)(tp:TypeId)(p:Value)(w:World)(hvar:w.var? Tryz.prog "strconv.ErrRange" =some #[.iface tp p]):
 Calls Tryz.prog 114 #[.string s,.int .i64 10,.int .i64 64] w fun e w'=>∃N,e=.returned (.tuple #[.int .i64 (Lib.intSat 64 s.data.toList),.iface 239 (.pointer (some ⟨N,0,none⟩))])/\w.heap.size<=N/\w'.heap[N]?=some (.cells #[.string ⟨#[80,97,114,115,101,73,110,116]⟩,.string s,.iface tp p] 280 (0,0))/\Below w.heap.size w w':=Any.strconv_ParseInt_10_at64_range_var Tryz.fdlaysC174 s hlim h tp p w hvar
end Go.Proofs
namespace Go.Proofs.YtokafonppgppdaaGreatDoor
namespace Fd
open Tryz
open Go.RowKit Go.Sort
structure Ready (w:World):Prop where
 tab:Tab w
 mx:∃m,w.cell? ⟨4,0,none⟩=some (.int .i64 m)
 syn:∃tp p,w.var? prog "strconv.ErrSyntax" =some #[.iface tp p]
 rng:∃tp p,w.var? prog "strconv.ErrRange" =some #[.iface tp p]
 six:22<=w.heap.size
theorem S0:prog.globalNamed "strconv.ErrSyntax" =some 8:=by kernel_rfl
theorem Aq:prog.globalNamed "strconv.ErrRange" =some 9:=by kernel_rfl
theorem Ready.bw{w w':World}(h:Ready w)(hb:Below 22 w w'):Ready w':=by
 obtain⟨m,hm⟩:=h.mx;obtain⟨t1,p1,h1⟩:=h.syn;obtain⟨t2,p2,h2⟩:=h.rng;exact⟨h.tab.bw hb (by omega),⟨m,(hb.cell (p:=⟨4,0,none⟩) (by show 4<22;omega)).trans hm⟩,⟨t1,p1,var?_below hb S0 (by omega) h1⟩,⟨t2,p2,var?_below hb Aq (by omega) h2⟩,by have:=h.six;have:=hb.size;omega⟩
def Ha (n:Int):Bool:=decide (-1000000000000000000<=n/\n<=1000000000000000000)
def Og (l:List UInt8):Option Int:=
 match Lib.parseIntB 64 l with
 | .ok v=>if Ha v=true/\Lib.itoa v=l then some v else none
 |_=>none
theorem Rj(n:Int)(w:World):
  Calls prog 113 #[.int .i64 n] w fun e w'=>e=.returned (.bool (Ha n))/\w'=w:=by
 by_cases h:-1000000000000000000<=n
 ·go_enter func113,ntmps113;go_wp2;go_ret;exact⟨R9 (by simp[Ha,h]),rfl⟩
 ·have hd:decide (-1000000000000000000<=n)=false:=by simpa using h
  go_enter func113,ntmps113;go_wp2;go_ret;exact⟨R9 (by simp[Ha];omega),rfl⟩
theorem zmr(l:List UInt8)(v:Int)(h:Lib.parseIntB 64 l=.ok v):-9223372036854775808<=v/\v<=9223372036854775807:=by
 have Ga:(2:Nat)^(64-1)=9223372036854775808:=by decide
 unfold Lib.parseIntB at h;cases l with
 |nil=>cases h
 |cons c r=>
  simp only at h;split at h
  ·cases h
  ·cases h
  ·rename_i u _;rw[Ga]at h;split at h
   ·cases h
   ·split at h
    ·cases h
    ·injection h with h;subst h;split<;>omega
theorem zrq(w:World)(s:ByteArray):Bl w (Lib.bytesWorld w 5 s):=⟨rfl,rfl,rfl,by rw[Lib.bytesWorld_size];omega,fun k hk=>Lib.bytesWorld_at_old w 5 s k hk⟩
theorem zsu(s:ByteArray)(w:World)(hs:s.size<=2097152)(hr:Ready w):
  Calls prog 66 #[.string s] w fun e w'=>e=.returned (.tuple #[.int .i64 ((Og s.data.toList).getD 0),.bool (Og s.data.toList).isSome])/\Bl w w':=by
 have h6:=hr.six;cases hp:Lib.parseIntB 64 s.data.toList with
 |ok v=>
  obtain⟨v0,v1⟩:=zmr _ _ hp;have HC:Hid (Cp 114 #[.string s,.int .i64 10,.int .i64 64] w fun e w'=>e=.returned (.tuple #[.int .i64 v,.nilIface])/\(w'=w\/∃t,w'=Lib.bytesWorld w 5 t)):=Tryz.fdstrconv_ParseInt_10_at64_ok s (by omega) v hp w;have HD:Hid (Og s.data.toList=if Ha v=true/\Lib.itoa v=s.data.toList then some v else none):=by
   unfold Hid Og;rw[hp]
  clear hp;go_enter func66,ntmps66;go_wp2_with fail;refine HC.out.mono ?_;rintro e w1⟨rfl,Gc⟩;have b1:Bl w w1:=by
   rcases Gc with rfl|⟨t,rfl⟩
   ·exact Qb _ _
   ·exact zrq w t
  clear Gc HC;have Gb:=hr.bw (b1.mono h6);go_wp2_with fail;refine(Rj v w1).mono ?_;rintro e w2⟨rfl,Gg⟩;have Gf:=Gg.symm;subst Gf;cases hin:Ha v with
  |false=>
   have HN:Hid (Og s.data.toList=none):=by unfold Hid;rw[HD.out,hin];simp
   clear hin;go_wp2;go_ret2;exact⟨by rw[HN.out];rfl,b1⟩
  |true=>
   have HN:Hid (Og s.data.toList=if Lib.itoa v=s.data.toList then some v else none):=by unfold Hid;rw[HD.out,hin];simp
   clear hin HD;have Ga:=Gb.tab;go_wp2_with fail;refine(Tryz.fdstrconv_FormatInt_10 v v0 v1 _ Ga).mono ?_;rintro e w3⟨rfl,k1,Ge,rfl⟩;have b2:=below_grow w1.heap.size w1 (Qc _) k1 Ge;generalize grow (w1.drewN k1) Ge=w3 at*;have Gd:=b1.trans (b2.mono b1.size);clear b2 b1 Gb Ga;generalize Lib.itoa v=D at*;by_cases hD:D=s.data.toList
   ·have hb:(D==s.toList)=true:=by simp[hD,ByteArray.toList_eq]
    have HV:Hid (Og s.data.toList=some v):=by unfold Hid;rw[HN.out,if_pos hD]
    clear hD HN;go_wp2;go_ret2;exact⟨by rw[HV.out];rfl,Gd⟩
   ·have hb:(D==s.toList)=false:=by simp[hD,ByteArray.toList_eq]
    have HV:Hid (Og s.data.toList=none):=by unfold Hid;rw[HN.out,if_neg hD]
    clear hD HN;go_wp2;go_ret2;exact⟨by rw[HV.out];rfl,Gd⟩
 |«syntax»=>
  obtain⟨tp,pv,hv⟩:=hr.syn;have HC:Hid (Cp 114 #[.string s,.int .i64 10,.int .i64 64] w fun e w'=>∃N,e=.returned (.tuple #[.int .i64 (0),.iface 239 (.pointer (some ⟨N,0,none⟩))])/\w.heap.size<=N/\w'.heap[N]?=some (.cells #[.string ⟨#[80,97,114,115,101,73,110,116]⟩,.string s,.iface tp pv] 280 (0,0))/\Bl w w'):=Tryz.fdstrconv_ParseInt_10_at64_syntax_var s (by omega) hp tp pv w hv;have HV:Hid (Og s.data.toList=none):=by unfold Hid Og;rw[hp]
  clear hp hv;go_enter func66,ntmps66;go_wp2_with fail;refine HC.out.mono ?_;rintro e w1⟨N,rfl,_,_,b1⟩;go_wp2;go_ret2;exact⟨by rw[HV.out];rfl,b1⟩
 |range=>
  obtain⟨tp,pv,hv⟩:=hr.rng;have HC:Hid (Cp 114 #[.string s,.int .i64 10,.int .i64 64] w fun e w'=>∃N,e=.returned (.tuple #[.int .i64 (Lib.intSat 64 s.data.toList),.iface 239 (.pointer (some ⟨N,0,none⟩))])/\w.heap.size<=N/\w'.heap[N]?=some (.cells #[.string ⟨#[80,97,114,115,101,73,110,116]⟩,.string s,.iface tp pv] 280 (0,0))/\Bl w w'):=Tryz.fdstrconv_ParseInt_10_at64_range_var s (by omega) hp tp pv w hv;have HV:Hid (Og s.data.toList=none):=by unfold Hid Og;rw[hp]
  clear hp hv;generalize Lib.intSat 64 s.data.toList=iv at*;go_enter func66,ntmps66;go_wp2_with fail;refine HC.out.mono ?_;rintro e w1⟨N,rfl,_,_,b1⟩;go_wp2;go_ret2;exact⟨by rw[HV.out];rfl,b1⟩
end Fd
namespace Fd
open Go.Lib
def Hn:Nat->List UInt8->Option Nat
 |acc,[]=>some acc
 |acc,c::r=>if c.toNat<48\/57<c.toNat\/100000000000000000<acc then none else Hn (acc*10+(c.toNat-48)) r
def Mj (l:List UInt8):Bool:=decide (1<l.length)&&decide (l.head?=some 45)
def Lx (l:List UInt8):List UInt8:=if Mj l then l.tail else l
def Hc (l:List UInt8):Int×Bool:=
 if (Lx l).length<1\/19<(Lx l).length\/((Lx l).head?=some 48/\(1<(Lx l).length\/Mj l=true)) then (0,false)
 else match Hn 0 (Lx l) with
  |none=> (0,false)
  |some n=> (if Mj l then-(n:Int) else n,Ha (if Mj l then-(n:Int) else n))
theorem Wp(n:Nat)(h:10<=n):Lib.decDigits n=Lib.decDigits (n/10)++ [UInt8.ofNat (48+n%10)]:=by
 rw[Lib.decDigits,dif_neg (by omega)]
theorem zu9(c:UInt8)(h:¬c.toNat<48)(h2:¬57<c.toNat):UInt8.ofNat (48+(c.toNat-48))=c:=by
 have:48+(c.toNat-48)=c.toNat:=by omega
 rw[this];simp
theorem zzz:∀(l:List UInt8)(acc n:Nat),1<=acc->Hn acc l=some n->Lib.decDigits acc++l=Lib.decDigits n
 |[],acc,n,_,h=>by simp only[Hn]at h;injection h with h;subst h;simp
 |c::r,acc,n,ha,h=>by
  simp only[Hn]at h;split at h
  ·cases h
  ·rename_i hc;have hd:=Wp (acc*10+(c.toNat-48)) (by omega);have e1:(acc*10+(c.toNat-48))/10=acc:=by omega
   have e2:(acc*10+(c.toNat-48))%10=c.toNat-48:=by omega
   rw[e1,e2,zu9 c (by omega) (by omega)]at hd;rw[<-zzz r _ n (by omega) h,hd];simp
theorem yax(l:List UInt8)(n:Nat)(hl:l≠ [])(h0:l.head?=some 48->l.length<=1)(h:Hn 0 l=some n):l=Lib.decDigits n:=by
 match l,hl,h0,h with
 |c::r,_,h0,h=>
  simp only[Hn]at h;split at h
  ·cases h
  ·rename_i hc;by_cases e:c.toNat=48
   ·have:c=48:=UInt8.toNat_inj.mp (by rw[e];rfl);subst this;have hr:r=[]:=by
     have:=h0 rfl;simpa using this
    subst hr;simp only[Hn]at h;injection h with h;subst h;exact(Lib.decDigits_one (i:=0) (by omega)).symm
   ·have hd:Lib.decDigits (0*10+(c.toNat-48))=[c]:=by
     rw[Lib.decDigits_one (by omega)];rw[Nat.zero_mul,Qq,zu9 c (by omega) (by omega)]
    rw[<-zzz r _ n (by omega) h,hd];simp
theorem zp3:∀(l:List UInt8) (c:UInt8) (acc:Nat),Hn acc (l++ [c])=(Hn acc l).bind fun m=>Hn m [c]
 | [],c,acc=>by simp[Hn]
 |b::l,c,acc=>by
  simp only[List.cons_append,Hn];split
  ·rfl
  ·rw[zp3 l c];rfl
theorem Wl(k:Nat)(h:k<10):(UInt8.ofNat (48+k)).toNat=48+k:=by
 simp;omega
theorem yaj(n:Nat)(h:n<=1000000000000000000):Hn 0 (Lib.decDigits n)=some n:=by
 induction n using Nat.strongRecOn with
 |_ n ih=>
  by_cases h10:n<10
  ·rw[Lib.decDigits_one h10];simp only[Hn];rw[Wl n h10,if_neg (by omega)];congr 1;omega
  ·rw[Wp n (by omega),zp3,ih (n/10) (by omega) (by omega)];simp only[Option.bind,Hn];rw[Wl _ (by omega),if_neg (by omega)];congr 1;omega
theorem yh5(n:Nat):Lib.decDigits n≠ []:=by
 by_cases h10:n<10
 ·rw[Lib.decDigits_one h10];simp
 ·rw[Wp n (by omega)];simp
theorem S6(n:Nat)(h:1<=n):∃c r,Lib.decDigits n=c::r/\49<=c.toNat/\c.toNat<=57:=by
 induction n using Nat.strongRecOn with
 |_ n ih=>
  by_cases h10:n<10
  ·exact⟨_,_,Lib.decDigits_one h10,by rw[Wl n h10];omega,by rw[Wl n h10];omega⟩
  ·obtain⟨c,r,e,h1,h2⟩:=ih (n/10) (by omega) (by omega);exact⟨c,r++ [UInt8.ofNat (48+n%10)],by rw[Wp n (by omega),e];rfl,h1,h2⟩
theorem zru(n:Nat):∃c r,Lib.decDigits n=c::r/\48<=c.toNat/\c.toNat<=57:=by
 by_cases h:1<=n
 ·obtain⟨c,r,e,h1,h2⟩:=S6 n h;exact⟨c,r,e,by omega,h2⟩
 ·have:n=0:=by omega
  subst this;exact⟨48,[],Lib.decDigits_one (by omega),by decide,by decide⟩
theorem Y3:∀(k n:Nat),n<10^(k+1)->(Lib.decDigits n).length<=k+1
 |0,n,h=>by rw[Lib.decDigits_one (by simpa using h)];simp
 |k+1,n,h=>by
  by_cases h10:n<10
  ·rw[Lib.decDigits_one h10];simp
  ·rw[Wp n (by omega)];have:=Y3 k (n/10) (by rw[Nat.pow_succ]at h;omega);simp;omega
theorem zu4(M:Nat):∀(l:List UInt8) (c:UInt8) (acc m:Nat),Lib.parseUintM M acc l=.ok m->Lib.parseUintM M acc (l++ [c])=Lib.parseUintM M m [c]
 |[],c,acc,m,h=>by simp only[Lib.parseUintM]at h;injection h with h;subst h;rfl
 |b::l,c,acc,m,h=>by
  simp only[Lib.parseUintM]at h;simp only[List.cons_append];rw[Lib.parseUintM];split at h
  ·rename_i h1;rw[if_pos h1];split at h
   ·cases h
   ·rename_i h2;rw[if_neg h2];split at h
    ·cases h
    ·rename_i h3;rw[if_neg h3];exact zu4 M l c _ m h
  ·cases h
theorem yiz(n:Nat)(h:n<=1000000000000000000):Lib.parseUintM 18446744073709551615 0 (Lib.decDigits n)=.ok n:=by
 induction n using Nat.strongRecOn with
 |_ n ih=>
  by_cases h10:n<10
  ·rw[Lib.decDigits_one h10];simp only[Lib.parseUintM];rw[Wl n h10,if_pos (by omega),if_neg (by omega),if_neg (by omega)];congr 1;omega
  ·rw[Wp n (by omega),zu4 _ _ _ _ _ (ih (n/10) (by omega) (by omega))];simp only[Lib.parseUintM];rw[Wl _ (by omega),if_pos (by omega),if_neg (by omega),if_neg (by omega)];congr 1;omega
theorem yfj(n:Nat)(h:n<=1000000000000000000):Lib.parseUintB 64 (Lib.decDigits n)=.ok n:=by
 unfold Lib.parseUintB;rw[if_neg (yh5 n)];exact yiz n h
theorem ydw(v:Int)(h:Ha v=true):Lib.parseIntB 64 (Lib.itoa v)= .ok v:=by
  have hv: -1000000000000000000<=v/\v<=1000000000000000000:=Qg h;unfold Lib.itoa;by_cases hn:v < 0
  · rw [if_pos hn,Lib.parseIntB_minus,yfj _ (by omega)];simp only [Lib.signedC]
    rw [if_neg (by have:(2:Nat) ^ (64 - 1)=9223372036854775808:=by decide
                   omega)]
    congr 1;omega
  · rw [if_neg hn];obtain ⟨c,r,e,h1,h2⟩:=zru v.toNat;have hp:=yfj v.toNat (by omega);rw [e] at hp ⊢;rw [Lib.parseIntB_plain 64 c r (by omega) (by omega),hp];simp only [Lib.signlessC]
    rw [if_neg (by have:(2:Nat) ^ (64 - 1)=9223372036854775808:=by decide
                   omega)]
    congr 1;omega
theorem zz2(v:Int)(h:Ha v=true):Og (Lib.itoa v)=some v:=by
 unfold Og;rw[ydw v h];simp[h]
theorem zze(v:Int)(h:Ha v=true):Hc (Lib.itoa v)=(v,true):=by
 have hv:-1000000000000000000<=v/\v<=1000000000000000000:=Qg h;by_cases hn:v<0
 ·have e:Lib.itoa v=45::Lib.decDigits v.natAbs:=by unfold Lib.itoa;rw[if_pos hn]
  obtain⟨c,r,e2,h1,h2⟩:=S6 v.natAbs (by omega);have hl:=Y3 18 v.natAbs (by omega);have Ga:Mj (Lib.itoa v)=true:=by rw[e,e2];simp[Mj]
  have hb:Lx (Lib.itoa v)=Lib.decDigits v.natAbs:=by unfold Lx;rw[if_pos Ga,e];rfl
  unfold Hc;rw[hb,Ga,yaj v.natAbs (by omega)];have hc:c≠48:=fun hc=>by subst hc;revert h1;decide
  rw[if_neg (by rw[e2]at hl ⊢;simp[hc]at hl ⊢;omega)];have:-(v.natAbs:Int)=v:=by omega
  simp[this,h]
 ·have e:Lib.itoa v=Lib.decDigits v.toNat:=by unfold Lib.itoa;rw[if_neg hn]
  obtain⟨c,r,e2,h1,h2⟩:=zru v.toNat;have hl:=Y3 18 v.toNat (by omega);have hc:c≠45:=fun hc=>by subst hc;revert h1;decide
  have Ga:Mj (Lib.itoa v)=false:=by rw[e,e2];simp[Mj,hc]
  have hb:Lx (Lib.itoa v)=Lib.decDigits v.toNat:=by unfold Lx;rw[Ga,e];rfl
  unfold Hc;rw[hb,Ga,yaj v.toNat (by omega)];have h0:(Lib.decDigits v.toNat).head?=some 48->(Lib.decDigits v.toNat).length<=1:=fun h48=>by
   by_cases hz:1<=v.toNat
   ·obtain⟨c',r',e3,h3,_⟩:=S6 v.toNat hz;rw[e3]at h48;simp at h48;subst h48;exfalso;revert h3;decide
   ·have:v.toNat=0:=by omega
    rw[this,Lib.decDigits_one (by omega)];simp
  have Gb:(Lib.decDigits v.toNat).length≥1:=by rw[e2];simp
  rw[if_neg (by
   rintro(h|h|⟨h,h'|h'⟩)
   ·omega
   ·omega
   ·have:=h0 h;omega
   ·cases h')]
  have:(v.toNat:Int)=v:=by omega
  simp[this,h]
theorem yhb(l:List UInt8)(h:(Hc l).2=true):Ha (Hc l).1=true/\Lib.itoa (Hc l).1=l:=by
 unfold Hc at h ⊢;split at h
 ·cases h
 ·rename_i hc;rw[if_neg hc];cases hd:Hn 0 (Lx l)with
  |none=>rw[hd]at h;cases h
  |some n=>
   rw[hd]at h;refine⟨h,?_⟩;have Gc:Ha (if Mj l=true then-(n:Int) else n)=true:=h
   have hb:Lx l=Lib.decDigits n:=yax (Lx l) n (fun e=>hc (by rw[e];simp)) (fun e=>by
    rcases Nat.lt_or_ge 1 (Lx l).length with h1|h1
    ·exact absurd (Or.inr (Or.inr ⟨e,Or.inl h1⟩)) hc
    ·omega) hd
   show Lib.itoa (if Mj l=true then-(n:Int) else n)=l;cases hneg:Mj l with
   |true=>
    have hl:l=45::Lx l:=by
     unfold Lx;rw[hneg];unfold Mj at hneg;simp at hneg;obtain⟨_,Ga⟩:=hneg;match l,Ga with
     |c::r,Ga=>simp at Ga;subst Ga;rfl
    have Gb:1<=n:=by
     rcases Nat.eq_zero_or_pos n with e|e
     ·subst e;exfalso;rw[Lib.decDigits_one (by omega)]at hb;exact hc (Or.inr (Or.inr ⟨by rw[hb];rfl,Or.inr hneg⟩))
     ·exact e
    rw[if_pos rfl];unfold Lib.itoa;rw[if_pos (by omega),hl,hb];congr 1;simp
   |false=>
    have hl:Lx l=l:=by unfold Lx;rw[hneg];rfl
    rw[if_neg (by simp)];unfold Lib.itoa;rw[if_neg (by omega),<-hl,hb];congr 1
theorem yb4(l:List UInt8):Og l=if(Hc l).2 then some (Hc l).1 else none:=by
 by_cases h:(Hc l).2=true
 ·obtain⟨h1,h2⟩:=yhb l h;rw[if_pos h];have:=zz2 _ h1;rwa[h2]at this
 ·rw[if_neg h];cases hd:Og l with
  |none=>rfl
  |some v=>
   exfalso;unfold Og at hd;split at hd
   ·split at hd
    ·rename_i hx;injection hd with hd;subst hd;apply h;rw[<-hx.2,zze _ hx.1]
    ·cases hd
   ·cases hd
end Fd
end Go.Proofs.YtokafonppgppdaaGreatDoor
