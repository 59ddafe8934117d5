import Derived.Test.YtibhabajknikcaaGreatDoorFShelf2
import Derived.Defers
import Derived.Recover
set_option maxHeartbeats 1000000
set_option maxRecDepth 100000
namespace Go.Proofs.YtibhabajknikcaaGreatDoor.Fd
open Go.RowKit
def gaveUp (c:Int):Ending:= .panicked [{ v:= .iface 291 (.int .i64 c),recovered:=false }]
theorem giveUp_any (c:Int) (w:World):Calls Tryz.prog 271 #[.int .i64 c] w fun e w'=>e=gaveUp c∧w'=w:=by
 go_enter Tryz.func271,Tryz.ntmps271;go_wp2;exact ⟨rfl,rfl,rfl⟩
theorem catch_panicking (p:Addr) (x c:Int) (w:World) (hc:w.cell? p=some (.int .i64 x)) (hz:w.frozen? p=false):
  CallsD Tryz.prog 270 #[.pointer (some p)] (.panicking [{ v:= .iface 291 (.int .i64 c),recovered:=false }]) w fun e u' w'=>
   e= .returned (.tuple #[])∧u'= .panicking [{ v:= .iface 291 (.int .i64 c),recovered:=true }]∧w'=w.setCell p (.int .i64 c):=by
 refine callsD_of_wpS Tryz.func270 rfl fun c₀ cs hu=>?_;apply wpS_seq;apply wpS_region;simp [wpOpsS,go_sem,recoverD,hu,Tryz.ntmps270,Exit.thenS];refine wpS_of_wp ?_;have hta:∀(w:World),(Instr.typeAssert (.iface 291 (.int .i64 c)) 20 291 false).run Tryz.prog w= .ok (.int .i64 c) w:=fun _=>by kernel_rfl
 change Code.wp _ _ _ ⟨#[.pointer (some p),.iface 291 (.int .i64 c),.iface 291 (.int .i64 c),undef,undef,undef,undef],[]⟩ _;go_wp2;cases c₀;simp_all [bodyPostS,results,Tryz.results270]
theorem catch_idle (p:Addr) (w:World):
  CallsD Tryz.prog 270 #[.pointer (some p)] .returning w fun e u' w'=>e= .returned (.tuple #[])∧u'= .returning∧w'=w:=by
 refine callsD_of_wpS Tryz.func270 rfl fun c₀ cs hu=>?_;apply wpS_seq;apply wpS_region;simp [wpOpsS,go_sem,recoverD,hu,Tryz.ntmps270,Exit.thenS];refine wpS_of_wp ?_;change Code.wp _ _ _ ⟨#[.pointer (some p),.nilIface,.nilIface,undef,undef,undef,undef],[]⟩ _;go_wp2;cases c₀;simp_all [bodyPostS,results,Tryz.results270]
theorem attempt_done (f:FuncId) (caps:Array Value) (w:World) (R:World→Prop) (hent:∀w,(callFunc f caps).run Tryz.prog w= .ok (.enter f caps) w) (hR:∀w',R w'→w'.cell? ⟨w.heap.size,0,none⟩=some (.int .i64 0)∧w'.frozen? ⟨w.heap.size,0,none⟩=false)
  (h:Calls Tryz.prog f caps (w.alloc (.cells #[.int .i64 0] 2)) fun e w'=>e= .returned (.tuple #[])∧R w'):
  Calls Tryz.prog 247 #[.func (.func f) #[] caps] w fun e w'=>e= .returned (.int .i64 0)∧∃w1,R w1∧w'=w1.setCell ⟨w.heap.size,0,none⟩ (.int .i64 0):=by
 have hmf:∀(fn:Fn) (first cap:Array Value) (w:World),(Instr.makeFunc fn first cap).run Tryz.prog w= .ok (.func fn first cap) w:=fun _ _ _ _=>rfl;have H:Hid (Calls Tryz.prog f caps (w.alloc (.cells #[.int .i64 0] 2)) fun e w'=>e= .returned (.tuple #[])∧R w'):=h;have HR:Hid (∀w',R w'→w'.cell? ⟨w.heap.size,0,none⟩=some (.int .i64 0)∧w'.frozen? ⟨w.heap.size,0,none⟩=false):=hR;clear h hR;go_enter_defers Tryz.func247,Tryz.ntmps247;go_wp2_with fail;refine H.out.mono ?_;rintro e w1 ⟨rfl,hr⟩;obtain ⟨hc,hz⟩:=HR.out w1 hr;go_wp2;refine leaves_cons (f:=270) (args:= #[.pointer (some ⟨w.heap.size,0,none⟩)]) (by simp) (by simp [go_sem]) ?_;refine (catch_idle ⟨w.heap.size,0,none⟩ _).mono ?_;rintro e u' w'' ⟨rfl,rfl,rfl⟩;have hsame:(w1.setCell ⟨w.heap.size,0,none⟩ (.int .i64 0)).cell? ⟨w.heap.size,0,none⟩=some (.int .i64 0):=World.cell?_setCell_same _ _ _ hc;simp [Leaves,settle,results,Tryz.results247,go_sem,hsame];exact ⟨w1,hr,rfl⟩
theorem attempt_gave (f:FuncId) (caps:Array Value) (c:Int) (w:World) (R:World→Prop) (hent:∀w,(callFunc f caps).run Tryz.prog w= .ok (.enter f caps) w) (hR:∀w',R w'→w'.cell? ⟨w.heap.size,0,none⟩=some (.int .i64 0)∧w'.frozen? ⟨w.heap.size,0,none⟩=false)
  (h:Calls Tryz.prog f caps (w.alloc (.cells #[.int .i64 0] 2)) fun e w'=>e=gaveUp c∧R w'):
  Calls Tryz.prog 247 #[.func (.func f) #[] caps] w fun e w'=>e= .returned (.int .i64 c)∧∃w1,R w1∧w'=w1.setCell ⟨w.heap.size,0,none⟩ (.int .i64 c):=by
 have hmf:∀(fn:Fn) (first cap:Array Value) (w:World),(Instr.makeFunc fn first cap).run Tryz.prog w= .ok (.func fn first cap) w:=fun _ _ _ _=>rfl;have H:Hid (Calls Tryz.prog f caps (w.alloc (.cells #[.int .i64 0] 2)) fun e w'=>e=gaveUp c∧R w'):=h;have HR:Hid (∀w',R w'→w'.cell? ⟨w.heap.size,0,none⟩=some (.int .i64 0)∧w'.frozen? ⟨w.heap.size,0,none⟩=false):=hR;clear h hR;go_enter_defers Tryz.func247,Tryz.ntmps247;go_wp2_with fail;refine H.out.mono ?_;rintro e w1 ⟨rfl,hr⟩;obtain ⟨hc,hz⟩:=HR.out w1 hr;unfold gaveUp;go_wp2;refine leaves_cons (f:=270) (args:= #[.pointer (some ⟨w.heap.size,0,none⟩)]) (by simp) (by simp [go_sem]) ?_;refine (catch_panicking ⟨w.heap.size,0,none⟩ 0 c _ hc hz).mono ?_;rintro e u' w'' ⟨rfl,rfl,rfl⟩;have hsame:(w1.setCell ⟨w.heap.size,0,none⟩ (.int .i64 c)).cell? ⟨w.heap.size,0,none⟩=some (.int .i64 c):=World.cell?_setCell_same _ _ _ hc;simp [Leaves,settle,results,Tryz.results247,go_sem,hsame];exact ⟨w1,hr,rfl⟩
end Go.Proofs.YtibhabajknikcaaGreatDoor.Fd
namespace Go.Proofs.YtibhabajknikcaaGreatDoor.Fd
open Go.RowKit Go.Sort
structure Ready (w:World):Prop where
 tab:Tab w
 mx:∃m,w.cell? ⟨8,0,none⟩=some (.int .i64 m)
 syn:∃tp p,w.var? Tryz.prog "strconv.ErrSyntax" =some #[.iface tp p]
 rng:∃tp p,w.var? Tryz.prog "strconv.ErrRange" =some #[.iface tp p]
 six:25≤w.heap.size
theorem gSyn:Tryz.prog.globalNamed "strconv.ErrSyntax" =some 16:=by kernel_rfl
theorem gRng:Tryz.prog.globalNamed "strconv.ErrRange" =some 17:=by kernel_rfl
theorem Ready.below {w w':World} (h:Ready w) (hb:Below 25 w w'):Ready w':=by
 obtain ⟨m,hm⟩:=h.mx;obtain ⟨t1,p1,h1⟩:=h.syn;obtain ⟨t2,p2,h2⟩:=h.rng;exact ⟨h.tab.below hb (by omega),⟨m,(hb.cell (p:=⟨8,0,none⟩) (by show 8<25;omega)).trans hm⟩,⟨t1,p1,var?_below hb gSyn (by omega) h1⟩,⟨t2,p2,var?_below hb gRng (by omega) h2⟩,by have:=h.six;have:=hb.size;omega⟩
def inNum (n:Int):Bool:=decide (-1000000000000000000≤n∧n≤1000000000000000000)
def decM (l:List UInt8):Option Int:=
 match Lib.parseIntB 64 l with
 | .ok v=>if inNum v=true∧Lib.itoa v=l then some v else none
 |_=>none
theorem numberOk_any (n:Int) (w:World):
  Calls Tryz.prog 220 #[.int .i64 n] w fun e w'=>e= .returned (.bool (inNum n))∧w'=w:=by
 by_cases h:-1000000000000000000≤n
 ·go_enter Tryz.func220,Tryz.ntmps220;go_wp2;go_ret;exact ⟨ret_bool (by simp [inNum,h]),rfl⟩
 ·have hd:decide (-1000000000000000000≤n)=false:=by simpa using h
  go_enter Tryz.func220,Tryz.ntmps220;go_wp2;go_ret;exact ⟨ret_bool (by simp [inNum];omega),rfl⟩
theorem parseInt_range (l:List UInt8) (v:Int) (h:Lib.parseIntB 64 l= .ok v):-9223372036854775808≤v∧v≤9223372036854775807:=by
 have e63:(2:Nat)^(64-1)=9223372036854775808:=by decide
 unfold Lib.parseIntB at h;cases l with
 |nil=>cases h
 |cons c r=>
  simp only at h;split at h
  ·cases h
  ·cases h
  ·rename_i u _;rw [e63] at h;split at h
   ·cases h
   ·split at h
    ·cases h
    ·injection h with h;subst h;split<;>omega
theorem bytesW_below (w:World) (s:ByteArray):Below w.heap.size w (Lib.bytesWorld w 5 s):=⟨rfl,rfl,rfl,by rw [Lib.bytesWorld_size];omega,fun k hk=>Lib.bytesWorld_at_old w 5 s k hk⟩
theorem decimal_any (s:ByteArray) (w:World) (hs:s.size≤2097152) (hr:Ready w):
  Calls Tryz.prog 274 #[.string s] w fun e w'=>e= .returned (.tuple #[.int .i64 ((decM s.data.toList).getD 0),.bool (decM s.data.toList).isSome])∧Below w.heap.size w w':=by
 have h6:=hr.six;cases hp:Lib.parseIntB 64 s.data.toList with
 |ok v=>
  obtain ⟨v0,v1⟩:=parseInt_range _ _ hp;have HC:Hid (Calls Tryz.prog 298 #[.string s,.int .i64 10,.int .i64 64] w fun e w'=>e= .returned (.tuple #[.int .i64 v,.nilIface])∧(w'=w∨∃t,w'=Lib.bytesWorld w 5 t)):=Tryz.fdstrconv_ParseInt_10_at64_ok s (by omega) v hp w;have HD:Hid (decM s.data.toList=if inNum v=true∧Lib.itoa v=s.data.toList then some v else none):=by
   unfold Hid decM;rw [hp]
  clear hp;go_enter Tryz.func274,Tryz.ntmps274;go_wp2_with fail;refine HC.out.mono ?_;rintro e w1 ⟨rfl,hw1⟩;have b1:Below w.heap.size w w1:=by
   rcases hw1 with rfl|⟨t,rfl⟩
   ·exact Below.refl _ _
   ·exact bytesW_below w t
  clear hw1 HC;have hr1:=hr.below (b1.mono h6);go_wp2_with fail;refine (numberOk_any v w1).mono ?_;rintro e w2 ⟨rfl,hw2⟩;have hw3:=hw2.symm;subst hw3;cases hin:inNum v with
  |false=>
   have HN:Hid (decM s.data.toList=none):=by unfold Hid;rw [HD.out,hin];simp
   clear hin;go_wp2;go_ret2;exact ⟨by rw [HN.out];rfl,b1⟩
  |true=>
   have HN:Hid (decM s.data.toList=if Lib.itoa v=s.data.toList then some v else none):=by unfold Hid;rw [HD.out,hin];simp
   clear hin HD;have htab:=hr1.tab;go_wp2_with fail;refine (Tryz.fdstrconv_FormatInt_10 v v0 v1 _ htab).mono ?_;rintro e w3 ⟨rfl,k1,os1,rfl⟩;have b2:=below_grow w1.heap.size w1 (Nat.le_refl _) k1 os1;generalize grow (w1.drewN k1) os1=w3 at*;have b02:=b1.trans (b2.mono b1.size);clear b2 b1 hr1 htab;generalize Lib.itoa v=D at*;by_cases hD:D=s.data.toList
   ·have hb:(D==s.toList)=true:=by simp [hD,ByteArray.toList_eq]
    have HV:Hid (decM s.data.toList=some v):=by unfold Hid;rw [HN.out,if_pos hD]
    clear hD HN;go_wp2;go_ret2;exact ⟨by rw [HV.out];rfl,b02⟩
   ·have hb:(D==s.toList)=false:=by simp [hD,ByteArray.toList_eq]
    have HV:Hid (decM s.data.toList=none):=by unfold Hid;rw [HN.out,if_neg hD]
    clear hD HN;go_wp2;go_ret2;exact ⟨by rw [HV.out];rfl,b02⟩
 |«syntax»=>
  obtain ⟨tp,pv,hv⟩:=hr.syn;have HC:Hid (Calls Tryz.prog 298 #[.string s,.int .i64 10,.int .i64 64] w fun e w'=>∃N,e= .returned (.tuple #[.int .i64 (0),.iface 333 (.pointer (some ⟨N,0,none⟩))])∧w.heap.size≤N∧w'.heap[N]?=some (.cells #[.string ⟨#[80,97,114,115,101,73,110,116]⟩,.string s,.iface tp pv] 341 (0,0))∧Below w.heap.size w w'):=Tryz.fdstrconv_ParseInt_10_at64_syntax_var s (by omega) hp tp pv w hv;have HV:Hid (decM s.data.toList=none):=by unfold Hid decM;rw [hp]
  clear hp hv;go_enter Tryz.func274,Tryz.ntmps274;go_wp2_with fail;refine HC.out.mono ?_;rintro e w1 ⟨N,rfl,_,_,b1⟩;go_wp2;go_ret2;exact ⟨by rw [HV.out];rfl,b1⟩
 |range=>
  obtain ⟨tp,pv,hv⟩:=hr.rng;have HC:Hid (Calls Tryz.prog 298 #[.string s,.int .i64 10,.int .i64 64] w fun e w'=>∃N,e= .returned (.tuple #[.int .i64 (Lib.intSat 64 s.data.toList),.iface 333 (.pointer (some ⟨N,0,none⟩))])∧w.heap.size≤N∧w'.heap[N]?=some (.cells #[.string ⟨#[80,97,114,115,101,73,110,116]⟩,.string s,.iface tp pv] 341 (0,0))∧Below w.heap.size w w'):=Tryz.fdstrconv_ParseInt_10_at64_range_var s (by omega) hp tp pv w hv;have HV:Hid (decM s.data.toList=none):=by unfold Hid decM;rw [hp]
  clear hp hv;generalize Lib.intSat 64 s.data.toList=iv at*;go_enter Tryz.func274,Tryz.ntmps274;go_wp2_with fail;refine HC.out.mono ?_;rintro e w1 ⟨N,rfl,_,_,b1⟩;go_wp2;go_ret2;exact ⟨by rw [HV.out];rfl,b1⟩
theorem numberOf_some (s:ByteArray) (v:Int) (w:World) (hs:s.size≤2097152) (hr:Ready w) (h:decM s.data.toList=some v):
  Calls Tryz.prog 326 #[.string s] w fun e w'=>e= .returned (.int .i64 v)∧Below w.heap.size w w':=by
 have HC:=decimal_any s w hs hr;rw [h] at HC;have H:Hid (Calls Tryz.prog 274 #[.string s] w fun e w'=>e= .returned (.tuple #[.int .i64 v,.bool true])∧Below w.heap.size w w'):=HC;clear HC h;go_enter Tryz.func326,Tryz.ntmps326;go_wp2_with fail;refine H.out.mono ?_;rintro e w1 ⟨rfl,b1⟩;go_wp2;go_ret;exact ⟨rfl,b1⟩
theorem numberOf_none (s:ByteArray) (w:World) (hs:s.size≤2097152) (hr:Ready w) (h:decM s.data.toList=none):
  Calls Tryz.prog 326 #[.string s] w fun e w'=>e=gaveUp 2∧Below w.heap.size w w':=by
 have HC:=decimal_any s w hs hr;rw [h] at HC;have H:Hid (Calls Tryz.prog 274 #[.string s] w fun e w'=>e= .returned (.tuple #[.int .i64 0,.bool false])∧Below w.heap.size w w'):=HC;clear HC h;go_enter Tryz.func326,Tryz.ntmps326;go_wp2_with fail;refine H.out.mono ?_;rintro e w1 ⟨rfl,b1⟩;go_wp2_with fail;refine (giveUp_any 2 w1).mono ?_;rintro e w2 ⟨rfl,rfl⟩;unfold gaveUp;go_wp2;exact ⟨rfl,rfl,b1⟩
def countM (l:List UInt8) (most:Int):Option Nat:=(decM l).bind fun n=>if 0≤n∧n≤most then some n.toNat else none
theorem countOf_some (s:ByteArray) (most:Int) (k:Nat) (w:World) (hs:s.size≤2097152) (hr:Ready w) (h:countM s.data.toList most=some k):
  Calls Tryz.prog 314 #[.string s,.int .i64 most] w fun e w'=>e= .returned (.int .i64 k)∧Below w.heap.size w w':=by
 obtain ⟨v,hv,hk⟩:∃v,decM s.data.toList=some v∧(if 0≤v∧v≤most then some v.toNat else none)=some k:=Option.bind_eq_some_iff.1 h;have hb:0≤v∧v≤most:=by
  by_cases hb:0≤v∧v≤most
  ·exact hb
  ·rw [if_neg hb] at hk;cases hk
 rw [if_pos hb] at hk;have hvk:v=k:=by injection hk with hk;omega
 subst hvk;obtain ⟨hb0,hb1⟩:=hb;have hd:decide ((k:Int)<0)=false:=by simp
 have H:Hid (_):=numberOf_some s k w hs hr hv;clear hv hk h;go_enter Tryz.func314,Tryz.ntmps314;go_wp2_with fail;refine (show Calls Tryz.prog 326 #[.string s] w fun e w'=>e= .returned (.int .i64 k)∧Below w.heap.size w w' from H).mono ?_;rintro e w1 ⟨rfl,b1⟩;go_wp2;go_ret;exact ⟨rfl,b1⟩
theorem countOf_none (s:ByteArray) (most:Int) (w:World) (hs:s.size≤2097152) (hr:Ready w) (h:countM s.data.toList most=none):
  Calls Tryz.prog 314 #[.string s,.int .i64 most] w fun e w'=>e=gaveUp 2∧Below w.heap.size w w':=by
 cases hv:decM s.data.toList with
 |none=>
  have H:Hid (Calls Tryz.prog 326 #[.string s] w fun e w'=>e=gaveUp 2∧Below w.heap.size w w'):=numberOf_none s w hs hr hv;clear hv h;go_enter Tryz.func314,Tryz.ntmps314;go_wp2_with fail;refine H.out.mono ?_;rintro e w1 ⟨rfl,b1⟩;unfold gaveUp;go_wp2;exact ⟨rfl,rfl,b1⟩
 |some v=>
  have hb:¬(0≤v∧v≤most):=by
   intro hb;rw [countM,hv,Option.bind_some,if_pos hb] at h;cases h
  have H:Hid (Calls Tryz.prog 326 #[.string s] w fun e w'=>e= .returned (.int .i64 v)∧Below w.heap.size w w'):=numberOf_some s v w hs hr hv;clear hv h;by_cases h0:v<0
  ·clear hb;go_enter Tryz.func314,Tryz.ntmps314;go_wp2_with fail;refine H.out.mono ?_;rintro e w1 ⟨rfl,b1⟩;go_wp2_with fail;refine (giveUp_any 2 w1).mono ?_;rintro e w2 ⟨rfl,rfl⟩;unfold gaveUp;go_wp2;exact ⟨rfl,rfl,b1⟩
  ·have hd:decide (v<0)=false:=by simpa using h0
   have h2:most<v:=by omega
   clear hb;go_enter Tryz.func314,Tryz.ntmps314;go_wp2_with fail;refine H.out.mono ?_;rintro e w1 ⟨rfl,b1⟩;go_wp2_with fail;refine (giveUp_any 2 w1).mono ?_;rintro e w2 ⟨rfl,rfl⟩;unfold gaveUp;go_wp2;exact ⟨rfl,rfl,b1⟩
end Go.Proofs.YtibhabajknikcaaGreatDoor.Fd
namespace Go.Proofs.YtibhabajknikcaaGreatDoor.Fd
open Go.RowKit Go.Sort
theorem grown_refl (w:World) (r:Option Nat):w.grownBy w r:=⟨rfl,rfl,rfl,Nat.le_refl _,fun _ _ _=>rfl⟩
theorem grown_drewN (w:World) (q:Nat) (r:Option Nat):w.grownBy (w.drewN q) r:=⟨rfl,rfl,rfl,Nat.le_refl _,fun _ _ _=>rfl⟩
theorem grown_below {w w1 w2:World} {r:Option Nat} (h:w.grownBy w1 r) (hb:Below w1.heap.size w1 w2):w.grownBy w2 r:=
 ⟨hb.os.trans h.os,hb.tape.trans h.tape,hb.output.trans h.output,Nat.le_trans h.size hb.size,fun k hk hr=> (hb.block k (Nat.lt_of_lt_of_le hk h.size)).trans (h.block k hk hr)⟩
theorem grown_trans {w w1 w2:World} {r:Option Nat} (h:w.grownBy w1 r) (h2:w1.grownBy w2 r):w.grownBy w2 r:=
 ⟨h2.os.trans h.os,h2.tape.trans h.tape,h2.output.trans h.output,Nat.le_trans h.size h2.size,fun k hk hr=> (h2.block k (Nat.lt_of_lt_of_le hk h.size) hr).trans (h.block k hk hr)⟩
theorem grown_set (w:World) (b o:Nat) (v:Value):w.grownBy (w.setCell ⟨b,o,none⟩ v) (some b):=
 ⟨rfl,rfl,rfl,by simp [World.setCell],fun k _ hk=>Below.heap_setCell _ _ _ _ (fun e=>hk (by simp [e]))⟩
theorem below_of_grown {B b:Nat} {w w1:World} (h:w.grownBy w1 (some b)) (hB:B≤b) (hw:B≤w.heap.size):Below B w w1:=
 ⟨h.os,h.tape,h.output,h.size,fun k hk=>h.block k (by omega) (by simp;omega)⟩
theorem RowAt.below {w w':World} {g:Nat} {T:TypeId} {C:Array Value} {B:Nat} (h:RowAt w g T C) (hb:Below B w w') (hg:g<B):RowAt w' g T C:=(hb.block g hg).trans h
def RdAt (w:World) (rb:Nat) (s:ByteArray) (at_:Nat):Prop:=RowAt w rb 273 #[.string s,.int .i64 at_]
theorem index_fits:∀(l:List UInt8),0≤Lib.index l [13,10]→Lib.index l [13,10]+2≤l.length
 | [],h=>by simp [Lib.index] at h
 |b::l,h=>by
  unfold Lib.index at h ⊢;by_cases hp:List.isPrefixOf [13,10] (b::l)=true
  ·rw [if_pos hp];cases l with
   |nil=>simp [List.isPrefixOf] at hp
   |cons c l=>simp only [List.length_cons];omega
  ·rw [if_neg hp] at h ⊢;by_cases hi:(Lib.index l [13,10]== -1)=true
   ·rw [if_pos hi] at h;omega
   ·rw [if_neg hi] at h ⊢;have hge:-1≤Lib.index l [13,10]:=by
     clear h hi hp;induction l with
     |nil=>simp [Lib.index]
     |cons c l ih=>unfold Lib.index;split<;> (try split)<;>omega
    have hne:Lib.index l [13,10]≠-1:=by simpa using hi
    have:=index_fits l (by omega);simp only [List.length_cons];omega
theorem clone60 (s:ByteArray) (w:World) (hs:s.size≤2097152):Calls Tryz.prog 147 #[.string s] w fun e w'=>e= .returned (.string s)∧Below w.heap.size w w':=by
 go_enter Tryz.func147,Tryz.ntmps147;go_wp2_with fail;refine (Tryz.fdstringslite_Clone s w (by omega)).mono ?_;rintro e w1 ⟨rfl,b1⟩;go_wp2;go_ret;exact ⟨rfl,b1⟩
def lineM (l:List UInt8):Int ⊕ List UInt8:=
 if 0≤Lib.index l [13,10] then .inr (l.take (Lib.index l [13,10]).toNat) else if 300<l.length then .inl 2 else .inl 1
theorem str_of (t:ByteArray) (l:List UInt8) (h:t.data.toList=l):t=⟨l.toArray⟩:=by
 apply ByteArray.ext;rw [←h]
theorem line_inl (s:ByteArray) (at_ rb:Nat) (c:Int) (w:World) (hs:s.size≤2097152) (ha:at_≤s.size) (hr:Ready w) (h:RdAt w rb s at_) (hl:lineM (s.data.toList.drop at_)= .inl c):
  Calls Tryz.prog 313 #[.pointer (some ⟨rb,0,none⟩)] w fun e w'=>e=gaveUp c∧Below w.heap.size w w':=by
 have c0:=h.cell 0;have c1:=h.cell 1;simp at c0 c1;have hai:(at_:Int)≤(s.size:Int):=by omega
 obtain ⟨m,hm⟩:=hr.mx;have ht:(s.extract at_ s.size).data.toList=s.data.toList.drop at_:=Lib.extract_to_end s at_;have hsz:(s.extract at_ s.size).size=s.size-at_:=by rw [Lib.size_eq,ht,List.length_drop,←Lib.size_eq]
 have HC:Hid (∀q,Calls Tryz.prog 325 #[.string (s.extract at_ s.size),.string ⟨#[13,10]⟩] (w.drewN q) fun e w'=>e= .returned (.int .i64 (Lib.index (s.data.toList.drop at_) [13,10]))∧w'=w.drewN q):=fun q=>by
  have:=Tryz.fdstrings_Index (s.extract at_ s.size) ⟨#[13,10]⟩ m (w.drewN q) (by omega) hm;rw [ht] at this;exact this
 have HZ:Hid ((s.data.toList.drop at_).length=s.size-at_):=by unfold Hid;rw [List.length_drop,←Lib.size_eq]
 unfold lineM at hl;rw [HZ.out] at hl;have H2:Hid _:=hl;clear hl ht hr hm;generalize Lib.index (s.data.toList.drop at_) [13,10]=n at*;have hn:n<0:=by
  by_cases hn:0≤n
  ·have:=H2.out;rw [if_pos hn] at this;cases this
  ·omega
 have hd:decide (n<0)=true:=by simpa using hn
 have H3:=H2.out;rw [if_neg (by omega)] at H3;by_cases hb:300<s.size-at_
 ·rw [if_pos hb] at H3;injection H3 with H3;have hbi:(300:Int)<((s.size-at_:Nat):Int):=by omega
  subst H3;clear H2 HZ;go_enter Tryz.func313,Tryz.ntmps313;go_wp2;go_quiet ((fail));go_wp2_with fail;refine (HC.out _).mono ?_;rintro e w1 ⟨rfl,rfl⟩;go_wp2_with fail;refine (giveUp_any 2 _).mono ?_;rintro e w2 ⟨rfl,rfl⟩;unfold gaveUp;go_wp2;exact ⟨rfl,rfl,below_drewN (Below.refl _ _) _⟩
 ·rw [if_neg hb] at H3;injection H3 with H3;have hbi:¬(300:Int)<((s.size-at_:Nat):Int):=by omega
  subst H3;clear H2 HZ;go_enter Tryz.func313,Tryz.ntmps313;go_wp2;go_quiet ((fail));go_wp2_with fail;refine (HC.out _).mono ?_;rintro e w1 ⟨rfl,rfl⟩;go_wp2_with fail;refine (giveUp_any 1 _).mono ?_;rintro e w2 ⟨rfl,rfl⟩;unfold gaveUp;go_wp2;exact ⟨rfl,rfl,below_drewN (Below.refl _ _) _⟩
theorem line_inr (s:ByteArray) (at_ rb:Nat) (l:List UInt8) (w:World) (hs:s.size≤2097152) (ha:at_≤s.size) (hr:Ready w) (h:RdAt w rb s at_) (hl:lineM (s.data.toList.drop at_)= .inr l):
  at_+l.length+2≤s.size∧Calls Tryz.prog 313 #[.pointer (some ⟨rb,0,none⟩)] w fun e w'=>e= .returned (.string ⟨l.toArray⟩)∧RdAt w' rb s (at_+l.length+2)∧w.grownBy w' (some rb):=by
 have c0:=h.cell 0;have c1:=h.cell 1;simp at c0 c1;have fz:=h.frozen 1;have hai:(at_:Int)≤(s.size:Int):=by omega
 obtain ⟨m,hm⟩:=hr.mx;have ht:(s.extract at_ s.size).data.toList=s.data.toList.drop at_:=Lib.extract_to_end s at_;have hsz:(s.extract at_ s.size).size=s.size-at_:=by rw [Lib.size_eq,ht,List.length_drop,←Lib.size_eq]
 have HC:Hid (∀q,Calls Tryz.prog 325 #[.string (s.extract at_ s.size),.string ⟨#[13,10]⟩] (w.drewN q) fun e w'=>e= .returned (.int .i64 (Lib.index (s.data.toList.drop at_) [13,10]))∧w'=w.drewN q):=fun q=>by
  have:=Tryz.fdstrings_Index (s.extract at_ s.size) ⟨#[13,10]⟩ m (w.drewN q) (by omega) hm;rw [ht] at this;exact this
 have hlen:(s.data.toList.drop at_).length=s.size-at_:=by rw [List.length_drop,←Lib.size_eq]
 have hn:0≤Lib.index (s.data.toList.drop at_) [13,10]:=by
  unfold lineM at hl;by_cases hn:0≤Lib.index (s.data.toList.drop at_) [13,10]
  ·exact hn
  ·rw [if_neg hn] at hl;split at hl<;>cases hl
 have hfit:=index_fits _ hn;rw [hlen] at hfit;unfold lineM at hl;rw [if_pos hn] at hl;injection hl with hl;generalize Lib.index (s.data.toList.drop at_) [13,10]=n at*;obtain ⟨k,rfl⟩:=Int.eq_ofNat_of_zero_le hn;rw [Int.toNat_natCast] at hl;have hll:l.length=k:=by rw [←hl,List.length_take,hlen];omega
 have HE:Hid (((s.extract at_ s.size).extract 0 k)=⟨l.toArray⟩):=str_of _ _ (by rw [Lib.extract_data,ht,←hl];simp);rw [hll];refine ⟨by omega,?_⟩;have hd:decide ((k:Int)<0)=false:=by simp
 have hr1:∀q,RdAt ((w.drewN q).setCell ⟨rb,1,none⟩ (.int .i64 ((at_:Int)+((k:Int)+2)))) rb s (at_+k+2):=fun q=>by
  have:=RowAt.set (w:=w.drewN q) h 1 (.int .i64 ((at_:Int)+((k:Int)+2)));unfold RdAt;rw [show ((at_+k+2:Nat):Int)=(at_:Int)+((k:Int)+2) from by omega];simpa using this
 have HR1:Hid (∀q,RdAt ((w.drewN q).setCell ⟨rb,1,none⟩ (.int .i64 ((at_:Int)+((k:Int)+2)))) rb s (at_+k+2)):=hr1;have hlt:=h.lt;have hkz:(k:Int)≤((s.size-at_:Nat):Int):=by omega
 clear hr1 hl hll hlen hr hm ht;go_enter Tryz.func313,Tryz.ntmps313;go_wp2;go_quiet ((fail));go_wp2_with fail;refine (HC.out _).mono ?_;rintro e w1 ⟨rfl,rfl⟩;go_wp2_with fail;rw [HE.out];refine (clone60 ⟨l.toArray⟩ _ (by rw [←HE.out];simp;omega)).mono ?_;rintro e w2 ⟨rfl,b2⟩;have hsz2:∀q,((w.drewN q).setCell ⟨rb,1,none⟩ (.int .i64 ((at_:Int)+((k:Int)+2)))).heap.size=w.heap.size:=fun q=>by simp [World.setCell]
 have r2:=RowAt.below (HR1.out nq) b2 (by rw [hsz2];exact hlt);have g2:=grown_below (grown_trans (grown_drewN w nq (some rb)) (grown_set (w.drewN nq) rb 1 (.int .i64 ((at_:Int)+((k:Int)+2))))) b2;clear b2;go_wp2;go_ret;exact ⟨rfl,r2,g2⟩
end Go.Proofs.YtibhabajknikcaaGreatDoor.Fd
