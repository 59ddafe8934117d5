import Derived.Test.YtibhabajknikcaaGreatDoorC25
import Derived.Test.YtibhabajknikcaaGreatDoorC28
import Derived.Test.YtibhabajknikcaaGreatDoorC34
import Derived.Test.YtibhabajknikcaaGreatDoorC36
set_option maxHeartbeats 4000000
set_option maxRecDepth 100000
namespace Go.Proofs.YtibhabajknikcaaGreatDoor
open Go.RowKit Go.Sort
structure KeyIn (w:World) (B B':Nat) (v:Value) (L:List KV) (x:KV) (there:Bool) (aa:Option Addr) (ab ao m:Nat) (T:List ByteArray):Prop where
 db:DbOwn w B v L
 fit:FitsK (L.map KV.key)
 few:L.length≤500000
 key:VOwn w B' x.key.val x.vi x.vp x.vr
 small:KSml x.key
 args:zdg w aa ab ao m T
 m20:m≤20
 short:∀i,i<m→(argN T i).size≤200
 low:B≤w.heap.size
theorem KeyIn.rd {w:World} {B B':Nat} {v:Value} {L:List KV} {x:KV} {there:Bool} {aa:Option Addr} {ab ao m:Nat} {T:List ByteArray} (h:KeyIn w B B' v L x there aa ab ao m T):VRd w x.key.val x.vi x.vp x.vr:=
 h.key.rd (fun t ht=>by have:=h.small.items t ht;omega)
theorem text_all (c:Cm) (hc:c.kind=1) (B B':Nat) (v:Value) (L:List KV) (x:KV) (there:Bool) (aa:Option Addr) (ab ao m ac:Nat) (T:List ByteArray) (w:World) (h:KeyIn w B B' v L x there aa ab ao m T) (hm:c.fits m=true):
  Calls Tryz.prog 94 #[v,kvV x,.bool there,.string c.text,.slice aa m ac] w (zbd w B (textM c (L.map KV.key) x.key there T)):=by
 cases c using Cm.elim
 case GET=>
  obtain rfl:m=1:=of_decide_eq_true hm;exact text_GET B v L x there aa ab ao ac T w h.db h.rd h.small h.args h.short h.low
 case STRLEN=>
  obtain rfl:m=1:=of_decide_eq_true hm;exact text_STRLEN B v L x there aa ab ao ac T w h.db h.rd h.small h.args h.short h.low
 case GETRANGE=>
  obtain rfl:m=3:=of_decide_eq_true hm;exact text_GETRANGE B v L x there aa ab ao ac T w h.db h.rd h.small h.args h.short h.low
 case APPEND=>
  obtain rfl:m=2:=of_decide_eq_true hm;exact text_APPEND B v L x there aa ab ao ac T w h.db h.fit h.few h.rd h.small h.args h.short h.low
 case INCRBY=>
  obtain rfl:m=2:=of_decide_eq_true hm;exact text_INCRBY B v L x there aa ab ao ac T w h.db h.fit h.few h.rd h.small h.args h.short h.low
 all_goals cases hc
theorem lists_all (c:Cm) (hc:c.kind=2) (B B':Nat) (v:Value) (L:List KV) (x:KV) (there:Bool) (aa:Option Addr) (ab ao m ac:Nat) (T:List ByteArray) (w:World) (h:KeyIn w B B' v L x there aa ab ao m T) (hm:c.fits m=true) (hne:there=true→0<x.key.val.items.length):
  Calls Tryz.prog 95 #[v,kvV x,.bool there,.string c.text,.slice aa m ac] w (zbd w B (listsM c (L.map KV.key) x.key there T)):=by
 cases c using Cm.elim
 case LLEN=>
  obtain rfl:m=1:=of_decide_eq_true hm;exact lists_LLEN B B' v L x there aa ab ao ac T w h.db h.key h.small h.args h.short h.low
 case LRANGE=>
  obtain rfl:m=3:=of_decide_eq_true hm;exact lists_LRANGE B B' v L x there aa ab ao ac T w h.db h.key h.small h.args h.short h.low
 case LPOP=>
  obtain rfl:m=1:=of_decide_eq_true hm;exact lists_LPOP B B' v L x there aa ab ao ac T w h.db h.fit h.few h.key h.small hne h.args h.short h.low
 case RPOP=>
  obtain rfl:m=1:=of_decide_eq_true hm;exact lists_RPOP B B' v L x there aa ab ao ac T w h.db h.fit h.few h.key h.small hne h.args h.short h.low
 case LPUSH=>
  exact lists_LPUSH B B' v L x there aa ab ao m ac T w h.db h.fit h.few h.key h.small h.args (of_decide_eq_true hm) h.m20 h.short h.low
 case RPUSH=>
  exact lists_RPUSH B B' v L x there aa ab ao m ac T w h.db h.fit h.few h.key h.small h.args (of_decide_eq_true hm) h.m20 h.short h.low
 all_goals cases hc
theorem hash_all (c:Cm) (hc:c.kind=3) (B B':Nat) (v:Value) (L:List KV) (x:KV) (there:Bool) (aa:Option Addr) (ab ao m ac:Nat) (T:List ByteArray) (w:World) (h:KeyIn w B B' v L x there aa ab ao m T) (hm:c.fits m=true):
  Calls Tryz.prog 96 #[v,kvV x,.string c.text,.slice aa m ac] w (zbd w B (hashM c (L.map KV.key) x.key T)):=by
 cases c using Cm.elim
 case HLEN=>
  obtain rfl:m=1:=of_decide_eq_true hm;exact hash_HLEN B B' v L x aa ab ao ac T w h.db h.key h.small h.args h.short h.low
 case HGET=>
  obtain rfl:m=2:=of_decide_eq_true hm;exact hash_HGET B B' v L x aa ab ao ac T w h.db h.key h.small h.args h.short h.low
 case HGETALL=>
  obtain rfl:m=1:=of_decide_eq_true hm;exact hash_HGETALL B B' v L x aa ab ao ac T w h.db h.key h.small h.args h.short h.low
 case HDEL=>
  exact hash_HDEL B B' v L x aa ab ao m ac T w h.db h.fit h.few h.key h.small h.args (of_decide_eq_true hm) h.m20 h.low
 case HSET=>
  exact hash_HSET B B' v L x aa ab ao m ac T w h.db h.fit h.few h.key h.small h.args (by have:=(of_decide_eq_true hm:3≤m∧m%2=1);omega) h.m20 h.low
 all_goals cases hc
theorem zset_all (c:Cm) (hc:c.kind=4) (B B':Nat) (v:Value) (L:List KV) (x:KV) (there:Bool) (aa:Option Addr) (ab ao m ac:Nat) (T:List ByteArray) (w:World) (h:KeyIn w B B' v L x there aa ab ao m T) (hm:c.fits m=true):
  Calls Tryz.prog 97 #[v,kvV x,.string c.text,.slice aa m ac] w (zbd w B (zsetM c (L.map KV.key) x.key T)):=by
 cases c using Cm.elim
 case ZCARD=>
  obtain rfl:m=1:=of_decide_eq_true hm;exact zset_ZCARD B B' v L x aa ab ao ac T w h.db h.key h.small h.args h.short h.low
 case ZSCORE=>
  obtain rfl:m=2:=of_decide_eq_true hm;exact zset_ZSCORE B B' v L x aa ab ao ac T w h.db h.key h.small h.args h.short h.low
 case ZRANK=>
  obtain rfl:m=2:=of_decide_eq_true hm;exact zset_ZRANK B B' v L x aa ab ao ac T w h.db h.key h.small h.args h.short h.low
 case ZRANGE=>
  obtain rfl:m=3:=of_decide_eq_true hm;exact zset_ZRANGE B B' v L x aa ab ao ac T w h.db h.key h.small h.args h.short h.low
 case ZREM=>
  exact zset_ZREM B B' v L x aa ab ao m ac T w h.db h.fit h.few h.key h.small h.args (of_decide_eq_true hm) h.m20 h.low
 case ZADD=>
  exact zset_ZADD B B' v L x aa ab ao m ac T w h.db h.fit h.few h.key h.small h.args (by have:=(of_decide_eq_true hm:3≤m∧m%2=1);omega) h.m20 h.short h.low
 all_goals cases hc
theorem any_all (c:Cm) (hc:c.kind=0) (B B':Nat) (v:Value) (L:List KV) (x:KV) (there:Bool) (aa:Option Addr) (ab ao m ac:Nat) (T:List ByteArray) (w:World) (h:KeyIn w B B' v L x there aa ab ao m T) (hm:c.fits m=true) (hy:c.many=false) (now:Int) (hnow:0≤now∧now≤1000000000):
  Calls Tryz.prog 98 #[v,kvV x,.bool there,.int .i64 now,.string c.text,.slice aa m ac] w (zbd w B (anyM c (L.map KV.key) x.key there now T)):=by
 cases c using Cm.elim
 case TYPE=>
  obtain rfl:m=1:=of_decide_eq_true hm;exact any_TYPE B v L x there now aa ab ao ac T w h.db h.rd h.small hnow h.args h.short h.low
 case TTL=>
  obtain rfl:m=1:=of_decide_eq_true hm;exact any_TTL B v L x there now aa ab ao ac T w h.db h.rd h.small hnow h.args h.short h.low
 case PERSIST=>
  obtain rfl:m=1:=of_decide_eq_true hm;exact any_PERSIST B v L x there now aa ab ao ac T w h.db h.fit h.few h.rd h.small hnow h.args h.short h.low
 case EXPIRE=>
  obtain rfl:m=2:=of_decide_eq_true hm;exact any_EXPIRE B v L x there now aa ab ao ac T w h.db h.fit h.few h.rd h.small hnow h.args h.short h.low
 case SETNX=>
  obtain rfl:m=2:=of_decide_eq_true hm;exact any_SETNX B v L x there now aa ab ao ac T w h.db h.fit h.few h.rd h.small hnow h.args h.short h.low
 case SET=>
  rcases (of_decide_eq_true hm:m=2∨m=4) with rfl|rfl
  ·exact any_SET2 B v L x there now aa ab ao ac T w h.db h.fit h.few h.rd h.small hnow h.args h.short h.low
  ·exact any_SET4 B v L x there now aa ab ao ac T w h.db h.fit h.few h.rd h.small hnow h.args h.short h.low
 all_goals first|exact absurd hc (by decide)|exact absurd hy (by decide)
def sUnknown:ByteArray:=⟨#[117,110,107,110,111,119,110,32,99,111,109,109,97,110,100]⟩
def sWrongNum:ByteArray:=⟨#[119,114,111,110,103,32,110,117,109,98,101,114,32,111,102,32,97,114,103,117,109,101,110,116,115]⟩
theorem strs_tail {w:World} {aa:Option Addr} {ab ao m:Nat} {T:List ByteArray} (h:zdg w aa ab ao m T) (h1:1≤m):zdg w (some ⟨ab,ao+1,none⟩) ab (ao+1) (m-1) T.tail:=
 ⟨by rw [List.length_tail,h.len],fun _=>rfl,fun _=>h.low (by omega),fun i hi=>by
  have:=h.cell (i+1) (by omega);rw [show ao+1+i=ao+(i+1) by omega,this];congr 2;cases T with
  |nil=>have:=h.len;simp at this;omega
  |cons t T=>simp,fun i hi=>by
  have:=h.fit (i+1) (by omega);cases T with
  |nil=>have:=h.len;simp at this;omega
  |cons t T=>simpa using this⟩
theorem done_none (B:Nat) (v:Value) (L:List KV) (now:Int) (aa:Option Addr) (ab ao m ac:Nat) (T:List ByteArray) (w:World) (h:DbOwn w B v L) (ha:zdg w aa ab ao m T) (h1:1≤m) (hm:m≤21) (hac:m≤ac) (hT:(argN T 0).size≤1048576) (hB:B≤w.heap.size) (hc:cmOf (nameM (argN T 0))=none):
  Calls Tryz.prog 57 #[v,.int .i64 now,.slice aa m ac] w (zbd w B (L.map KV.key,zcb sUnknown)):=by
 obtain rfl:=ha.addr (by omega);have c0:=ha.cell 0 (by omega);rw [Nat.add_zero] at c0;change w.cell? _=some (.string (argN T 0)) at c0;have HN:Hid (Calls Tryz.prog 53 #[.string (argN T 0)] w fun e w'=>e= .returned (.string (nameM (argN T 0)))∧Below w.heap.size w w'):=name_any (argN T 0) w hT;have HTL:Hid (zdg w (some ⟨ab,ao+1,none⟩) ab (ao+1) (m-1) T.tail):=strs_tail ha h1;have h1i:(1:Int)≤(m:Int):=by omega
 have h0i:(0:Int)<(m:Int):=by omega
 have hmi:(m:Int)≤(ac:Int):=by omega
 have HFT:Hid (∀W,Calls Tryz.prog 58 #[.string (nameM (argN T 0)),.int .i64 (m-1:Nat)] W fun e w'=>e= .returned (.tuple #[.bool false,.bool false])∧w'=W):=fun W=>fits_none _ hc _ W;have HER:Hid (∀W,Calls Tryz.prog 54 #[.string ⟨#[117,110,107,110,111,119,110,32,99,111,109,109,97,110,100]⟩] W (zci W (zcb sUnknown))):=fun W=>error_any sUnknown (by decide) W;have ES:Hid (∀r w1 w2,Below w.heap.size w w1→zbe w2 w1.heap.size r (zcb sUnknown)→Below w1.heap.size w1 w2→zbd w B (L.map KV.key,zcb sUnknown) (.returned (.tuple #[v,r])) w2):=fun r w1 w2 h1 h2 h3=>zbd.same h hB h1 h2 h3;clear h ha HTL hT hc;generalize L.map KV.key=K0 at*;generalize nameM (argN T 0)=nm at*;generalize argN T 0=t0 at*;by_cases hac1:1<ac
 ·go_enter Tryz.func57,Tryz.ntmps57;go_wp2_with fail;refine HN.out.mono ?_;rintro e w1 ⟨rfl,b1⟩;clear HN;go_wp2_with fail;refine (HFT.out w1).mono ?_;rintro e w2 ⟨rfl,hw2⟩;subst hw2;clear HFT;go_wp2_with fail;refine (HER.out _).mono ?_;rintro e w3 ⟨r,rfl,hr,hb⟩;have HF:Hid _:=ES.out r w2 w3 b1 hr hb;clear hr hb ES;go_wp2;go_ret2;exact HF.out
 ·obtain rfl:ac=1:=by omega
  obtain rfl:m=1:=by omega
  go_enter Tryz.func57,Tryz.ntmps57;go_wp2_with fail;refine HN.out.mono ?_;rintro e w1 ⟨rfl,b1⟩;clear HN;go_wp2_with fail;refine (HFT.out w1).mono ?_;rintro e w2 ⟨rfl,hw2⟩;subst hw2;clear HFT;go_wp2_with fail;refine (HER.out _).mono ?_;rintro e w3 ⟨r,rfl,hr,hb⟩;have HF:Hid _:=ES.out r w2 w3 b1 hr hb;clear hr hb ES;go_wp2;go_ret2;exact HF.out
theorem done_unfit (B:Nat) (v:Value) (L:List KV) (now:Int) (aa:Option Addr) (ab ao m ac:Nat) (T:List ByteArray) (w:World) (h:DbOwn w B v L) (ha:zdg w aa ab ao m T) (h1:1≤m) (hm:m≤21) (hac:m≤ac) (hT:(argN T 0).size≤1048576) (hB:B≤w.heap.size) (c:Cm) (hc:nameM (argN T 0)=c.text) (hn:c.fits (m-1)=false):
  Calls Tryz.prog 57 #[v,.int .i64 now,.slice aa m ac] w (zbd w B (L.map KV.key,zcb sWrongNum)):=by
 obtain rfl:=ha.addr (by omega);have c0:=ha.cell 0 (by omega);rw [Nat.add_zero] at c0;change w.cell? _=some (.string (argN T 0)) at c0;have HN:Hid (Calls Tryz.prog 53 #[.string (argN T 0)] w fun e w'=>e= .returned (.string (nameM (argN T 0)))∧Below w.heap.size w w'):=name_any (argN T 0) w hT;have HTL:Hid (zdg w (some ⟨ab,ao+1,none⟩) ab (ao+1) (m-1) T.tail):=strs_tail ha h1;have h1i:(1:Int)≤(m:Int):=by omega
 have h0i:(0:Int)<(m:Int):=by omega
 have hmi:(m:Int)≤(ac:Int):=by omega
 have HFT:Hid (∀W,Calls Tryz.prog 58 #[.string (nameM (argN T 0)),.int .i64 (m-1:Nat)] W fun e w'=>e= .returned (.tuple #[.bool true,.bool false])∧w'=W):=fun W=>by
  have:=fits_some c (m-1) (by omega) W;rw [hn] at this;rw [hc];exact this
 have HER:Hid (∀W,Calls Tryz.prog 54 #[.string ⟨#[119,114,111,110,103,32,110,117,109,98,101,114,32,111,102,32,97,114,103,117,109,101,110,116,115]⟩] W (zci W (zcb sWrongNum))):=fun W=>error_any sWrongNum (by decide) W;have ES:Hid (∀r w1 w2,Below w.heap.size w w1→zbe w2 w1.heap.size r (zcb sWrongNum)→Below w1.heap.size w1 w2→zbd w B (L.map KV.key,zcb sWrongNum) (.returned (.tuple #[v,r])) w2):=fun r w1 w2 h1 h2 h3=>zbd.same h hB h1 h2 h3;clear h ha HTL hT hc hn;generalize L.map KV.key=K0 at*;generalize nameM (argN T 0)=nm at*;generalize argN T 0=t0 at*;by_cases hac1:1<ac
 ·go_enter Tryz.func57,Tryz.ntmps57;go_wp2_with fail;refine HN.out.mono ?_;rintro e w1 ⟨rfl,b1⟩;clear HN;go_wp2_with fail;refine (HFT.out w1).mono ?_;rintro e w2 ⟨rfl,hw2⟩;subst hw2;clear HFT;go_wp2_with fail;refine (HER.out _).mono ?_;rintro e w3 ⟨r,rfl,hr,hb⟩;have HF:Hid _:=ES.out r w2 w3 b1 hr hb;clear hr hb ES;go_wp2;go_ret2;exact HF.out
 ·obtain rfl:ac=1:=by omega
  obtain rfl:m=1:=by omega
  go_enter Tryz.func57,Tryz.ntmps57;go_wp2_with fail;refine HN.out.mono ?_;rintro e w1 ⟨rfl,b1⟩;clear HN;go_wp2_with fail;refine (HFT.out w1).mono ?_;rintro e w2 ⟨rfl,hw2⟩;subst hw2;clear HFT;go_wp2_with fail;refine (HER.out _).mono ?_;rintro e w3 ⟨r,rfl,hr,hb⟩;have HF:Hid _:=ES.out r w2 w3 b1 hr hb;clear hr hb ES;go_wp2;go_ret2;exact HF.out
theorem done_many (B:Nat) (v:Value) (L:List KV) (now:Int) (aa:Option Addr) (ab ao m ac:Nat) (T:List ByteArray) (w:World) (h:DbOwn w B v L) (hf:FitsK (L.map KV.key)) (hl:L.length≤500000) (ha:zdg w aa ab ao m T) (h1:1≤m) (hm:m≤21) (hac:m≤ac) (hT:(argN T 0).size≤1048576) (hB:B≤w.heap.size) (c:Cm) (hc:nameM (argN T 0)=c.text) (hn:c.fits (m-1)=true) (hy:c.many=true):
  Calls Tryz.prog 57 #[v,.int .i64 now,.slice aa m ac] w (zbd w B (manyM c (L.map KV.key) T.tail)):=by
 obtain rfl:=ha.addr (by omega);have c0:=ha.cell 0 (by omega);rw [Nat.add_zero] at c0;change w.cell? _=some (.string (argN T 0)) at c0;have HN:Hid (Calls Tryz.prog 53 #[.string (argN T 0)] w fun e w'=>e= .returned (.string (nameM (argN T 0)))∧Below w.heap.size w w'):=name_any (argN T 0) w hT;have HTL:Hid (zdg w (some ⟨ab,ao+1,none⟩) ab (ao+1) (m-1) T.tail):=strs_tail ha h1;have h1i:(1:Int)≤(m:Int):=by omega
 have h0i:(0:Int)<(m:Int):=by omega
 have hmi:(m:Int)≤(ac:Int):=by omega
 have HFT:Hid (∀W,Calls Tryz.prog 58 #[.string c.text,.int .i64 (m-1:Nat)] W fun e w'=>e= .returned (.tuple #[.bool true,.bool true])∧w'=W):=fun W=>by
  have:=fits_some c (m-1) (by omega) W;rw [hn] at this;exact this
 have HMY:Hid (∀W ab' ao' ac',Below w.heap.size w W→zdg w (some ⟨ab',ao',none⟩) ab' ao' (m-1) T.tail→Calls Tryz.prog 90 #[v,.string c.text,.slice (some ⟨ab',ao',none⟩) (m-1) ac'] W (zbd w B (manyM c (L.map KV.key) T.tail))):=fun W ab' ao' ac' hb hs=>
  (many_any c hy B v L _ ab' ao' (m-1) ac' T.tail W hn (h.below hb) hf (by omega) (zdb hs hb) (by omega) (Nat.le_trans hB hb.size)).mono fun e w' he=>zbd.wide he hb
 have HT0:Hid (m=1→zdg w (some ⟨ab,ao,none⟩) ab ao (m-1) T.tail):=fun e=>⟨by rw [List.length_tail,ha.len],fun _=>rfl,fun h=>by omega,fun i hi=>by omega,fun i hi=>by omega⟩;rw [hc] at HN;clear h ha hT hc hn hf hl;generalize manyM c (L.map KV.key) T.tail=MM at*;generalize argN T 0=t0 at*;generalize T.tail=TT at*;cases c using Cm.elim;all_goals try (exact absurd hy (by decide))
 all_goals
  simp only [Cm.text] at HN HFT HMY;by_cases hac1:1<ac
  ·go_enter Tryz.func57,Tryz.ntmps57;go_wp2_with fail;refine HN.out.mono ?_;rintro e w1 ⟨rfl,b1⟩;clear HN;go_wp2_with fail;refine (HFT.out w1).mono ?_;rintro e w2 ⟨rfl,hw2⟩;subst hw2;clear HFT;go_wp2_with fail;refine (HMY.out _ _ _ _ b1 (HTL.out)).mono ?_;rintro e w3 ⟨v',r',L',rfl,q1,q2,q3,q4⟩;have HF:Hid (zbd w B MM (.returned (.tuple #[v',r'])) w3):=⟨v',r',L',rfl,q1,q2,q3,q4⟩;clear q1 q2 q3 q4 HMY HT0 HTL;go_wp2;go_ret2;exact HF.out
  ·obtain rfl:ac=1:=by omega
   obtain rfl:m=1:=by omega
   go_enter Tryz.func57,Tryz.ntmps57;go_wp2_with fail;refine HN.out.mono ?_;rintro e w1 ⟨rfl,b1⟩;clear HN;go_wp2_with fail;refine (HFT.out w1).mono ?_;rintro e w2 ⟨rfl,hw2⟩;subst hw2;clear HFT;go_wp2_with fail;refine (HMY.out _ _ _ _ b1 (HT0.out (by simp))).mono ?_;rintro e w3 ⟨v',r',L',rfl,q1,q2,q3,q4⟩;have HF:Hid (zbd w B MM (.returned (.tuple #[v',r'])) w3):=⟨v',r',L',rfl,q1,q2,q3,q4⟩;clear q1 q2 q3 q4 HMY HT0 HTL;go_wp2;go_ret2;exact HF.out
end Go.Proofs.YtibhabajknikcaaGreatDoor
namespace Go.Proofs.YtibhabajknikcaaGreatDoor
open Go.RowKit Go.Sort
open Kk (str_ne)
theorem ksml_of {k:Ke} (h:keyB k=true):KSml k:=by
 unfold keyB timeB at h;simp only [Bool.and_eq_true,decide_eq_true_eq] at h;obtain ⟨h1,h2,h3,h4⟩:=h;have s:=small_of_ok h2;exact ⟨h1,s.text,s.ni,s.np,s.nr,s.items,s.pairs,s.ranks,⟨by have:=s.kind;omega,s.kind.2⟩,⟨h3,h4⟩⟩
theorem items_of {k:Ke} (h:keyB k=true) (hk:k.val.kind=2):0<k.val.items.length:=by
 unfold keyB vokB at h;rw [if_neg (by omega),if_pos hk] at h;unfold itemsB countB at h;simp only [Bool.and_eq_true,decide_eq_true_eq] at h;omega
theorem find_cases:∀(ks:List Ke) (nm:ByteArray) (s:Nat),findK ks nm s= -1∨∃i,i<ks.length∧findK ks nm s=((s+i:Nat):Int)
 | [],_,_=> .inl rfl
 |k::ks,nm,s=>by
  unfold findK;by_cases h:k.name=nm
  ·rw [if_pos h];exact .inr ⟨0,by simp,by simp⟩
  ·rw [if_neg h];rcases find_cases ks nm (s+1) with e|⟨i,hi,e⟩
   ·exact .inl e
   ·exact .inr ⟨i+1,by simpa using hi,by rw [e];congr 1;omega⟩
theorem tail_arg (T:List ByteArray) (i:Nat):argN T.tail i=argN T (i+1):=by cases T<;>simp [argN]
theorem cm_text (c:Cm):cmOf c.text=some c:=by cases c using Cm.elim<;>decide
theorem not_many (c:Cm) (h:c.many=false):NotMany c.text:=by
 have t:∀d:Cm,d.many=true→(c.text.toList==d.text.data.toList)=false:=fun d hd=>by
  have:=str_ne (a:=c.text) (b:=d.text) (fun e=>by
   have h1:=cm_text c;rw [e,cm_text d] at h1;cases h1;rw [hd] at h;cases h)
  rwa [ByteArray.toList_eq d.text] at this
 exact ⟨t .PING rfl,t .ECHO rfl,t .FLUSHALL rfl,t .DBSIZE rfl,t .KEYS rfl,t .DEL rfl,t .EXISTS rfl⟩
theorem fits_pos {c:Cm} {n:Nat} (h:c.many=false) (hf:c.fits n=true):1≤n:=by
 cases c using Cm.elim<;>first|(cases h;done)|(simp [Cm.fits] at hf;omega)
theorem kind_five (c:Cm):(c.kind:Int)=0∨(c.kind:Int)=1∨(c.kind:Int)=2∨(c.kind:Int)=3∨(c.kind:Int)=4:=by cases c using Cm.elim<;>decide
def newK (nm:ByteArray) (kd:Int):Ke:=⟨nm,⟨kd,⟨#[]⟩,[],[],[]⟩,0⟩
def keyedM (c:Cm) (ks:List Ke) (k:Ke) (there:Bool) (now:Int) (T:List ByteArray):List Ke×List Rp:=match c.kind with
 |1=>textM c ks k there T
 |2=>listsM c ks k there T
 |3=>hashM c ks k T
 |4=>zsetM c ks k T
 |_=>anyM c ks k there now T
def oneM (c:Cm) (ks:List Ke) (now:Int) (T:List ByteArray):List Ke×List Rp:=
 if findK ks (argN T 0) 0<0 then keyedM c ks (newK (argN T 0) c.kind) false now T
 else if (c.kind:Int)≠0∧(ks.getD (findK ks (argN T 0) 0).toNat ke0).val.kind≠c.kind then (ks,rWrong)
 else keyedM c ks (ks.getD (findK ks (argN T 0) 0).toNat ke0) true now T
def doneM (ks:List Ke) (now:Int) (T:List ByteArray):List Ke×List Rp:=match cmOf (nameM (argN T 0)) with
 |none=> (ks,zcb sUnknown)
 |some c=>if c.fits (T.length-1)=true then (if c.many=true then manyM c ks T.tail else oneM c ks now T.tail) else (ks,zcb sWrongNum)
theorem vown_nil (w:World) (B:Nat) (kd:Int):VOwn w B ⟨kd,⟨#[]⟩,[],[],[]⟩ (.slice none 0 0) (.slice none 0 0) (.slice none 0 0):=⟨World.ownsRow_nil _ _ _ _,World.ownsRow_nil _ _ _ _,World.ownsRow_nil _ _ _ _⟩
theorem key_tail (c:Cm) (hy:c.many=false) (B B':Nat) (v:Value) (L:List KV) (x:KV) (there:Bool) (now:Int) (ab ao n:Nat) (T:List ByteArray) (w W:World) (h:KeyIn W B B' v L x there (some ⟨ab,ao+1,none⟩) ab (ao+1) n T) (hb:Below w.heap.size w W) (hn:c.fits n=true) (hnow:0≤now∧now≤1000000000) (hne:c.kind=2→there=true→0<x.key.val.items.length):
  KeyTail c.kind now w B (keyedM c (L.map KV.key) x.key there now T) v c.text there ab ao n #[.string x.key.name,.int .i64 x.key.val.kind,.string x.key.val.text,x.vi,x.vp,x.vr,.int .i64 x.key.due] W:=by
 intro ac';refine ⟨fun e=>?_,fun e=>?_,fun e=>?_,fun e=>?_,fun e=>?_⟩
 ·have e:c.kind=1:=by omega
  have:keyedM c (L.map KV.key) x.key there now T=textM c (L.map KV.key) x.key there T:=by unfold keyedM;rw [e];rfl
  rw [this];exact (text_all c e B B' v L x there _ ab _ n ac' T W h hn).mono fun e w' he=>zbd.wide he hb
 ·have e:c.kind=2:=by omega
  have:keyedM c (L.map KV.key) x.key there now T=listsM c (L.map KV.key) x.key there T:=by unfold keyedM;rw [e];rfl
  rw [this];exact (lists_all c e B B' v L x there _ ab _ n ac' T W h hn (hne e)).mono fun e w' he=>zbd.wide he hb
 ·have e:c.kind=3:=by omega
  have:keyedM c (L.map KV.key) x.key there now T=hashM c (L.map KV.key) x.key T:=by unfold keyedM;rw [e];rfl
  rw [this];exact (hash_all c e B B' v L x there _ ab _ n ac' T W h hn).mono fun e w' he=>zbd.wide he hb
 ·have e:c.kind=4:=by omega
  have:keyedM c (L.map KV.key) x.key there now T=zsetM c (L.map KV.key) x.key T:=by unfold keyedM;rw [e];rfl
  rw [this];exact (zset_all c e B B' v L x there _ ab _ n ac' T W h hn).mono fun e w' he=>zbd.wide he hb
 ·have e:c.kind=0:=by omega
  have:keyedM c (L.map KV.key) x.key there now T=anyM c (L.map KV.key) x.key there now T:=by unfold keyedM;rw [e];rfl
  rw [this];exact (any_all c e B B' v L x there _ ab _ n ac' T W h hn hy now hnow).mono fun e w' he=>zbd.wide he hb
theorem done_one (B:Nat) (v:Value) (L:List KV) (now:Int) (aa:Option Addr) (ab ao m ac:Nat) (T:List ByteArray) (w:World) (h:DbOwn w B v L) (hk:∀k∈L.map KV.key,keyB k=true) (hl:L.length≤20) (ha:zdg w aa ab ao m T) (h1:1≤m) (hm:m≤20) (hac:m≤ac) (hT:∀i,i<m→(argN T i).size≤200) (hnow:0≤now∧now≤1000000000) (hB:B≤w.heap.size) (c:Cm) (hc:nameM (argN T 0)=c.text) (hn:c.fits (m-1)=true) (hy:c.many=false):
  Calls Tryz.prog 57 #[v,.int .i64 now,.slice aa m ac] w (zbd w B (oneM c (L.map KV.key) now T.tail)):=by
 have hp:=fits_pos hy hn;have hf:FitsK (L.map KV.key):=fun k hk1=> (ksml_of (hk k hk1)).fit;obtain ⟨a,A,c',ev,hdi,hda⟩:=h.din hf.fits;obtain rfl:=ha.addr (by omega);have c0:=ha.cell 0 (by omega);rw [Nat.add_zero] at c0;change w.cell? _=some (.string (argN T 0)) at c0;have c1:=ha.cell 1 (by omega);change w.cell? _=some (.string (argN T 1)) at c1;have t1:argN T.tail 0=argN T 1:=tail_arg T 0;have HN:Calls Tryz.prog 53 #[.string (argN T 0)] w fun e w'=>e= .returned (.string c.text)∧Below w.heap.size w w':=by
  have:=name_any (argN T 0) w (by have:=hT 0 (by omega);omega);rwa [hc] at this
 have HFT:∀W,Calls Tryz.prog 58 #[.string c.text,.int .i64 (m-1:Nat)] W fun e w'=>e= .returned (.tuple #[.bool true,.bool true])∧w'=W:=fun W=>by
  have:=fits_some c (m-1) (by omega) W;rw [hn] at this;exact this
 have HK:∀W,Calls Tryz.prog 91 #[.string c.text] W fun e w'=>e= .returned (.int .i64 (c.kind:Int))∧w'=W:=fun W=>kind_some c W;have HF:∀W,Below w.heap.size w W→Calls Tryz.prog 92 #[v,.string (argN T 1)] W fun e w'=>e= .returned (.int .i64 (findK (L.map KV.key) (argN T 1) 0))∧w'=W:=fun W hb=>by
  rw [ev];exact find_any a A L.length c' L (argN T 1) W (hdi.ks.below hb) (by omega)
 have HKI:∀W x there,Below w.heap.size w W→(∃B',VOwn W B' x.key.val x.vi x.vp x.vr)→KSml x.key→∃B',KeyIn W B B' v L x there (some ⟨ab,ao+1,none⟩) ab (ao+1) (m-1) T.tail:=fun W x there hb hv hs=>by
  obtain ⟨B',hv⟩:=hv;exact ⟨B',h.below hb,hf,by omega,hv,hs,zdb (strs_tail ha h1) hb,by omega,fun i hi=>by rw [tail_arg];exact hT (i+1) (by omega),Nat.le_trans hB hb.size⟩
 have hab:=ha.low (by omega);rcases find_cases (L.map KV.key) (argN T 1) 0 with e|⟨i,hi,e⟩
 ·have eM:oneM c (L.map KV.key) now T.tail=keyedM c (L.map KV.key) (newK (argN T 1) c.kind) false now T.tail:=by
   unfold oneM;rw [t1,e,if_pos (by omega)]
  rw [eM];rw [e] at HF;refine done_new B v now ab ao m ac (argN T 0) (argN T 1) c.text w _ c.kind c0 c1 hab (by omega) (by omega) hac (not_many c hy) HN HFT HK (kind_five c) HF (fun W hb=>?_);have hs:KSml (newK (argN T 1) c.kind):=⟨hT 1 (by omega),by simp [newK];exact Nat.zero_le _,by simp [newK],by simp [newK],by simp [newK],by simp [newK],by simp [newK],by simp [newK],by have:=kind_five c;simp only [newK];omega,by simp [newK]⟩;obtain ⟨B',hi⟩:=HKI W ⟨newK (argN T 1) c.kind,.slice none 0 0,.slice none 0 0,.slice none 0 0⟩ false hb ⟨0,vown_nil W 0 _⟩ hs;exact key_tail c hy B B' v L _ false now ab ao (m-1) T.tail w W hi hb hn hnow (fun _ h=>by cases h)
 ·rw [List.length_map] at hi;rw [Nat.zero_add] at e;have ek:(L.map KV.key).getD i ke0=(L.getD i kv0).key:=key_at L i;have eM:oneM c (L.map KV.key) now T.tail=if (c.kind:Int)≠0∧(L.getD i kv0).key.val.kind≠c.kind then (L.map KV.key,rWrong) else keyedM c (L.map KV.key) (L.getD i kv0).key true now T.tail:=by
   unfold oneM;rw [t1,e,if_neg (by omega),Int.toNat_natCast,ek]
  have hx:keyB (L.getD i kv0).key=true:=hk _ (List.mem_map.2 ⟨L.getD i kv0,by rw [List.getD_eq_getElem?_getD,List.getElem?_eq_getElem hi];exact List.getElem_mem hi,rfl⟩);rw [e] at HF;have ea:=hdi.ks.addr (by omega);have hcell:=hdi.ks.cell i hi;have hval:=hdi.val i hi;have z1:=hdi.z1 i hi;have z2:=hdi.z2 i hi;have z3:=hdi.z3 i hi;have hlow:=hdi.ks.low (by omega);generalize L.getD i kv0=x0 at*;refine done_old B v now ab ao m ac (argN T 0) (argN T 1) c.text w _ c.kind c0 c1 hab (by omega) (by omega) hac (not_many c hy) HN HFT HK i L.length A c' x0 hcell hlow hi (by rw [ev,ea]) HF (fun W hb=>copyKey_any _ W (hval.below hb) z1 z2 z3) (kind_five c) (fun hkk W G p1 n1 d1 p2 n2 d2 p3 n3 d3 hb hv e1 e2 e3=>?_) (fun hkk W r w' hb hr hb2=>?_)
  ·rw [eM,if_neg (by omega)];obtain ⟨B',hi⟩:=HKI W ⟨x0.key,.slice p1 n1 d1,.slice p2 n2 d2,.slice p3 n3 d3⟩ true hb ⟨G,hv⟩ (ksml_of hx);exact key_tail c hy B B' v L ⟨x0.key,.slice p1 n1 d1,.slice p2 n2 d2,.slice p3 n3 d3⟩ true now ab ao (m-1) T.tail w W hi hb hn hnow (fun h2 _=>items_of hx (by rcases hkk with h|h<;>rw [h2] at h;cases h;exact h))
  ·rw [eM,if_pos hkk];exact zbd.same h hB hb hr hb2
theorem l6Done_any (B:Nat) (v:Value) (L:List KV) (now:Int) (aa:Option Addr) (ab ao m ac:Nat) (T:List ByteArray) (w:World) (h:DbOwn w B v L) (hk:∀k∈L.map KV.key,keyB k=true) (hl:L.length≤20) (ha:zdg w aa ab ao m T) (h1:1≤m) (hm:m≤20) (hac:m≤ac) (hT:∀i,i<m→(argN T i).size≤200) (hnow:0≤now∧now≤1000000000) (hB:B≤w.heap.size):
  Calls Tryz.prog 57 #[v,.int .i64 now,.slice aa m ac] w (zbd w B (doneM (L.map KV.key) now T)):=by
 have hf:FitsK (L.map KV.key):=fun k hk1=> (ksml_of (hk k hk1)).fit;have h0:(argN T 0).size≤1048576:=by have:=hT 0 (by omega);omega
 cases hc:cmOf (nameM (argN T 0)) with
 |none=>
  have:doneM (L.map KV.key) now T=(L.map KV.key,zcb sUnknown):=by unfold doneM;rw [hc]
  rw [this];exact done_none B v L now aa ab ao m ac T w h ha h1 (by omega) hac h0 hB hc
 |some c=>
  have he:doneM (L.map KV.key) now T=if c.fits (m-1)=true then (if c.many=true then manyM c (L.map KV.key) T.tail else oneM c (L.map KV.key) now T.tail) else (L.map KV.key,zcb sWrongNum):=by unfold doneM;rw [hc,ha.len]
  have hc':=(cm_some hc).symm;cases hn:c.fits (m-1) with
  |false=>
   rw [he,hn,if_neg (by simp)];exact done_unfit B v L now aa ab ao m ac T w h ha h1 (by omega) hac h0 hB c hc' hn
  |true=>
   rw [he,hn,if_pos rfl];cases hy:c.many with
   |true=>
    rw [if_pos rfl];exact done_many B v L now aa ab ao m ac T w h hf (by omega) ha h1 (by omega) hac h0 hB c hc' hn hy
   |false=>
    rw [if_neg (by simp)];exact done_one B v L now aa ab ao m ac T w h hk hl ha h1 hm hac hT hnow hB c hc' hn hy
theorem dbOk_key {ks:List Ke} (h:dbOkB ks=true):ks.length≤20∧∀k∈ks,keyB k=true:=by
 unfold dbOkB at h;rw [Bool.and_eq_true,Bool.and_eq_true,List.all_eq_true] at h;refine ⟨of_decide_eq_true h.1,fun k hk=>?_⟩;obtain ⟨i,hi,e⟩:=List.getElem_of_mem hk;have:=(List.all_eq_true.1 h.2.2) i (List.mem_range.2 hi);rwa [List.getD_eq_getElem?_getD,List.getElem?_eq_getElem hi,Option.getD_some,e] at this
theorem args_ok {T:List ByteArray} (h:argsB T=true):T.length≤16∧∀i,i<T.length→(argN T i).size≤200:=by
 unfold argsB at h;rw [Bool.and_eq_true,List.all_eq_true] at h;exact ⟨of_decide_eq_true h.2,fun i hi=>of_decide_eq_true (h.1 i (List.mem_range.2 hi))⟩
def doneOkB (ks:List Ke) (now:Int) (T:List ByteArray):Bool:=dbOkB ks&&(timeB now&&(decide (1≤T.length)&&argsB T))
def specDoneM (ks:List Ke) (now:Int) (T:List ByteArray):List Ke×List Rp:=if doneOkB ks now T=true then doneM (aliveK ks now) now T else ([],[])
theorem done_nil (w w':World) (hb:Below w.heap.size w w'):zbd w w.heap.size ([],[]) (.returned (.tuple #[.slice none 0 0,.slice none 0 0])) w':=
 ⟨_,_,[],rfl,rfl,dbown_nil _ _ hb.size,⟨[],rfl,World.ownsRow_nil _ _ _ _,fun x hx=>by cases hx⟩,hb⟩
theorem specDone_any (B:Nat) (v:Value) (L:List KV) (now:Int) (aa:Option Addr) (ab ao m ac:Nat) (T:List ByteArray) (w:World) (h:DbOwn w B v L) (hf:FitsK (L.map KV.key)) (hl:L.length≤1000) (ha:zdg w aa ab ao m T) (hm:m≤1000) (hac:m≤ac):
  Calls Tryz.prog 28 #[v,.int .i64 now,.slice aa m ac] w (zbd w w.heap.size (specDoneM (L.map KV.key) now T)):=by
 obtain ⟨a,A,c,ev,hdi,hda⟩:=h.din hf.fits;subst ev;have HD:Hid (Calls Tryz.prog 48 #[.slice a L.length c] w fun e w'=>e= .returned (.bool (dbOkB (L.map KV.key)))∧Below w.heap.size w w'):=specDbOkF_any a A L.length c L w hda hf.fits (by omega);have HI:Hid (∀W,Calls Tryz.prog 50 #[.int .i64 now,.int .i64 0,.int .i64 1000000000] W fun e w'=>e= .returned (.bool (timeB now))∧Below W.heap.size W w'):=fun W=>l1In_time now W;have HA:Hid (∀W,Below w.heap.size w W→Calls Tryz.prog 22 #[.slice aa m ac] W fun e w'=>e= .returned (.bool (argsB T))∧w'=W):=fun W hb=>l2Args_any aa ab ao m ac T W (zdb ha hb) (by omega);have HE:Hid (specDoneM (L.map KV.key) now T=if (dbOkB (L.map KV.key)&&(timeB now&&(decide (1≤m)&&argsB T)))=true then doneM (aliveK (L.map KV.key) now) now T else ([],[])):=by
  unfold Hid specDoneM doneOkB;rw [ha.len]
 have HL:Hid (∀W,Below w.heap.size w W→Calls Tryz.prog 51 #[.slice a L.length c,.int .i64 now] W (KeysEnd W (aliveK (L.map KV.key) now))):=fun W hb=>alive_any a A L.length c L now W (hdi.below hb) (by omega);have HW:Hid (dbOkB (L.map KV.key)=true→timeB now=true→1≤m→argsB T=true→∀W W' v' L',Below w.heap.size w W→L'.map KV.key=aliveK (L.map KV.key) now→DbOwn W' W.heap.size v' L'→Below W.heap.size W W'→Calls Tryz.prog 57 #[v',.int .i64 now,.slice aa m ac] W' (zbd w w.heap.size (doneM (aliveK (L.map KV.key) now) now T))):=fun q1 q2 q3 q4 W W' v' L' hb hm' hd hb2=>by
  obtain ⟨k1,k2⟩:=dbOk_key q1;obtain ⟨u1,u2⟩:=args_ok q4;rw [ha.len] at u1 u2;unfold timeB at q2;rw [Bool.and_eq_true] at q2;have hbb:Below w.heap.size w W':=hb.trans (hb2.mono hb.size);have hlen:L'.length≤20:=by
   have e1:L'.length=(L'.map KV.key).length:=by rw [List.length_map]
   have e2:=List.length_filter_le (aliveB now) (L.map KV.key);rw [e1,hm'];unfold aliveK;omega
  have:=l6Done_any W.heap.size v' L' now aa ab ao m ac T W' hd (fun k hk=>by rw [hm'] at hk;exact k2 k (List.mem_filter.1 hk).1) hlen (zdb ha hbb) q3 (by omega) hac u2 ⟨of_decide_eq_true q2.1,of_decide_eq_true q2.2⟩ hb2.size;rw [hm'] at this;refine this.mono fun e w' he=>?_;obtain ⟨v2,r2,L2,rfl,g1,g2,g3,g4⟩:=zbd.wide he hbb;exact ⟨v2,r2,L2,rfl,g1,DbOwn.le g2 hb.size,g3,g4⟩
 have HZ:Hid (∀w',Below w.heap.size w w'→zbd w w.heap.size ([],[]) (.returned (.tuple #[.slice none 0 0,.slice none 0 0])) w'):=fun w' hb=>done_nil w w' hb;obtain ⟨MM,hMM⟩:∃MM,specDoneM (L.map KV.key) now T=MM:=⟨_,rfl⟩;rw [hMM] at HE ⊢;clear h hf hl ha hdi hda hMM;generalize L.length=n at*;generalize doneM (aliveK (L.map KV.key) now) now T=DM at*;generalize aliveK (L.map KV.key) now=AL at*;generalize argsB T=q4 at*;generalize timeB now=q2 at*;cases q1:dbOkB (L.map KV.key) with
 |false=>
  rw [q1] at HD HE;have HM:Hid (MM=([],[])):=HE.out;clear HE q1;go_enter Tryz.func28,Tryz.ntmps28;go_wp2_with fail;refine HD.out.mono ?_;rintro e w1 ⟨rfl,b1⟩;have HF:Hid (zbd w w.heap.size MM (.returned (.tuple #[.slice none 0 0,.slice none 0 0])) w1):=by rw [HM.out];exact HZ.out w1 b1
  clear HM HZ;go_wp2;go_ret2;exact HF.out
 |true=>
  rw [q1] at HD HE;cases q2 with
  |false=>
   have HM:Hid (MM=([],[])):=HE.out;clear HE q1;go_enter Tryz.func28,Tryz.ntmps28;go_wp2_with fail;refine HD.out.mono ?_;rintro e w1 ⟨rfl,b1⟩;go_wp2_with fail;refine (HI.out w1).mono ?_;rintro e w2 ⟨rfl,b2⟩;have HF:Hid (zbd w w.heap.size MM (.returned (.tuple #[.slice none 0 0,.slice none 0 0])) w2):=by rw [HM.out];exact HZ.out w2 (b1.trans (b2.mono b1.size))
   clear HM HZ;go_wp2;go_ret2;exact HF.out
  |true=>
   by_cases hm1:1≤m
   ·have hg:decide ((m:Int)<1)=false:=decide_eq_false (by omega);have hg':decide (m<1)=false:=decide_eq_false (by omega);have hg0:(m==0)=false:=by simp;omega
    rw [decide_eq_true hm1] at HE;cases q4 with
    |false=>
     have HM:Hid (MM=([],[])):=HE.out;clear HE q1;go_enter Tryz.func28,Tryz.ntmps28;go_wp2_with fail;refine HD.out.mono ?_;rintro e w1 ⟨rfl,b1⟩;go_wp2_with fail;refine (HI.out w1).mono ?_;rintro e w2 ⟨rfl,b2⟩;have b2w:Below w.heap.size w w2:=b1.trans (b2.mono b1.size);go_wp2_with fail;refine (HA.out w2 b2w).mono ?_;rintro e w3 ⟨rfl,hw3⟩;subst hw3;have HF:Hid (zbd w w.heap.size MM (.returned (.tuple #[.slice none 0 0,.slice none 0 0])) w3):=by rw [HM.out];exact HZ.out w3 b2w
     clear HM HZ;go_wp2;go_ret2;exact HF.out
    |true=>
     have HM:Hid (MM=DM):=HE.out;have HW':Hid (∀W W' v' L',Below w.heap.size w W→L'.map KV.key=AL→DbOwn W' W.heap.size v' L'→Below W.heap.size W W'→Calls Tryz.prog 57 #[v',.int .i64 now,.slice aa m ac] W' (zbd w w.heap.size DM)):=HW.out q1 rfl hm1 rfl;clear HE q1 HW HZ;go_enter Tryz.func28,Tryz.ntmps28;go_wp2_with fail;refine HD.out.mono ?_;rintro e w1 ⟨rfl,b1⟩;go_wp2_with fail;refine (HI.out w1).mono ?_;rintro e w2 ⟨rfl,b2⟩;have b2w:Below w.heap.size w w2:=b1.trans (b2.mono b1.size);go_wp2_with fail;refine (HA.out w2 b2w).mono ?_;rintro e w3 ⟨rfl,hw3⟩;subst hw3;go_wp2_with fail;refine (HL.out w3 b2w).mono ?_;rintro e w4 ⟨v',L',rfl,hm',hd',b4⟩;have HW2:Hid (Calls Tryz.prog 57 #[v',.int .i64 now,.slice aa m ac] w4 (zbd w w.heap.size DM)):=HW'.out w3 w4 v' L' b2w hm' hd' b4;clear hm' hd' HW' HL HA HI HD;go_wp2_with fail;refine HW2.out.mono ?_;rintro e w9 ⟨v2,r2,L2,rfl,y1,y2,y3,y4⟩;have HF:Hid (zbd w w.heap.size MM (.returned (.tuple #[v2,r2])) w9):=by rw [HM.out];exact ⟨v2,r2,L2,rfl,y1,y2,y3,y4⟩
     clear y1 y2 y3 y4 HW2 HM;go_wp2;go_ret2;exact HF.out
   ·have hg:decide ((m:Int)<1)=true:=decide_eq_true (by omega);have hg':decide (m<1)=true:=decide_eq_true (by omega);have hg0:m=0:=by omega
    subst hg0;have HM:Hid (MM=([],[])):=HE.out;clear HE q1;go_enter Tryz.func28,Tryz.ntmps28;go_wp2_with fail;refine HD.out.mono ?_;rintro e w1 ⟨rfl,b1⟩;go_wp2_with fail;refine (HI.out w1).mono ?_;rintro e w2 ⟨rfl,b2⟩;have HF:Hid (zbd w w.heap.size MM (.returned (.tuple #[.slice none 0 0,.slice none 0 0])) w2):=by rw [HM.out];exact HZ.out w2 (b1.trans (b2.mono b1.size))
    clear HM HZ;go_wp2;go_ret2;exact HF.out
structure KGd (k:Ke):Prop where
 fit:KFit k
 np:k.val.pairs.length≤500000
 nums:Kk.FitL k.val.ranks
def FitsG (ks:List Ke):Prop:=∀k∈ks,KGd k
theorem FitsG.k {ks:List Ke} (h:FitsG ks):FitsK ks:=fun k hk=> (h k hk).fit
theorem FitsG.stored {ks:List Ke} {k:Ke} (h:FitsG ks) (hk:KGd k):FitsG (storedK ks k):=fun y hy=>by
 rcases stored_mem hy with h1|h1
 ·exact h y h1
 ·rw [h1];exact hk
theorem key_gd {k:Ke} (h:keyB k=true):KGd k:=by
 have x:=h;unfold keyB at x;simp only [Bool.and_eq_true] at x;have s:=vok_small x.2.1;exact ⟨(ksml_of h).fit,s.np,s.nums⟩
def GoodK (n:Nat) (ks:List Ke):Prop:=FitsG ks∧ks.length≤n
theorem GoodK.gone {n:Nat} {ks:List Ke} (h:GoodK n ks) (nm:ByteArray):GoodK n (goneK ks nm):=⟨fun y hy=>h.1 y (List.mem_filter.1 hy).1,Nat.le_trans (List.length_filter_le _ _) h.2⟩
theorem dbOk_good {ks:List Ke} (h:dbOkB ks=true):GoodK 41 ks:=⟨fun k hk=>key_gd ((dbOk_key h).2 k hk),by have:=(dbOk_key h).1;omega⟩
theorem set_good {ks:List Ke} {k:Ke} {R:List Rp} (h:GoodK 41 ks):GoodK 41 (setM ks k R).1:=by
 unfold setM;split
 ·exact h.gone _
 ·split
  ·rename_i h2;exact dbOk_good h2
  ·exact h
theorem stored_good {ks:List Ke} {k:Ke} (h:GoodK 20 ks) (hk:KGd k):GoodK 41 (storedK ks k):=⟨h.1.stored hk,by have:=stored_len ks k;have:=h.2;omega⟩
theorem del_good:∀(T:List ByteArray) (s:List Ke×Nat),GoodK 41 s.1→GoodK 41 (T.foldl (delStep true) s).1
 | [],_,h=>h
 |t::T,s,h=>by
  rw [List.foldl_cons];refine del_good T _ ?_;unfold delStep;split
  ·exact h
  ·exact h.gone t
theorem many_good {c:Cm} {ks:List Ke} {T:List ByteArray} (h:GoodK 41 ks):GoodK 41 (manyM c ks T).1:=by
 cases c using Cm.elim
 case DEL=>exact del_good T (ks,0) h
 case FLUSHALL=>exact ⟨fun k hk=> (by cases hk),Nat.zero_le _⟩
 all_goals exact h
theorem text_good {c:Cm} {ks:List Ke} {k:Ke} {th:Bool} {T:List ByteArray} (h:GoodK 41 ks):GoodK 41 (textM c ks k th T).1:=by
 unfold textM;split<;>repeat (first|exact h|exact set_good h|split)
theorem lists_good {c:Cm} {ks:List Ke} {k:Ke} {th:Bool} {T:List ByteArray} (h:GoodK 41 ks):GoodK 41 (listsM c ks k th T).1:=by
 unfold listsM;split<;>repeat (first|exact h|exact set_good h|split)
theorem hash_good {c:Cm} {ks:List Ke} {k:Ke} {T:List ByteArray} (h:GoodK 41 ks):GoodK 41 (hashM c ks k T).1:=by
 unfold hashM;split<;>repeat (first|exact h|exact set_good h|split)
theorem zset_good {c:Cm} {ks:List Ke} {k:Ke} {T:List ByteArray} (h:GoodK 41 ks):GoodK 41 (zsetM c ks k T).1:=by
 unfold zsetM;split<;>repeat (first|exact h|exact set_good h|split)
theorem KGd.withDue {k:Ke} (h:KGd k) (d:Int):KGd (k.withDue d):=⟨⟨h.fit.fit,h.fit.name,h.fit.items⟩,h.np,h.nums⟩
theorem any_good {c:Cm} {ks:List Ke} {k:Ke} {th:Bool} {now:Int} {T:List ByteArray} (h0:GoodK 20 ks) (hk:KGd k):GoodK 41 (anyM c ks k th now T).1:=by
 have h:GoodK 41 ks:=⟨h0.1,by have:=h0.2;omega⟩;unfold anyM;split<;>repeat (first|exact h|exact set_good h|exact stored_good h0 (hk.withDue _)|exact h.gone _|split)
theorem keyed_good {c:Cm} {ks:List Ke} {k:Ke} {th:Bool} {now:Int} {T:List ByteArray} (h0:GoodK 20 ks) (hk:KGd k):GoodK 41 (keyedM c ks k th now T).1:=by
 have h:GoodK 41 ks:=⟨h0.1,by have:=h0.2;omega⟩;unfold keyedM;split
 ·exact text_good h
 ·exact lists_good h
 ·exact hash_good h
 ·exact zset_good h
 ·exact any_good h0 hk
theorem kfit_zero:KGd ke0:=⟨⟨⟨by decide,by decide,by decide,by decide⟩,by decide,(fun t ht=>by cases ht)⟩,by decide,(fun t ht=>by cases ht)⟩
theorem FitsG.getD {ks:List Ke} (h:FitsG ks) (i:Nat):KGd (ks.getD i ke0):=by
 rw [List.getD_eq_getElem?_getD];by_cases hi:i<ks.length
 ·rw [List.getElem?_eq_getElem hi];exact h _ (List.getElem_mem hi)
 ·rw [List.getElem?_eq_none (by omega)];exact kfit_zero
theorem done_good {ks:List Ke} {now:Int} {T:List ByteArray} (h0:GoodK 20 ks) (hT:∀i,i<T.length→(argN T i).size≤200):GoodK 41 (doneM ks now T).1:=by
 have h:GoodK 41 ks:=⟨h0.1,by have:=h0.2;omega⟩;unfold doneM;split
 ·exact h
 ·split
  ·split
   ·exact many_good h
   ·unfold oneM;split
    ·refine keyed_good h0 ⟨⟨⟨by show 0≤_;omega,by show 0≤_;omega,by show 0≤_;omega,by show 0≤_;omega⟩,?_,(fun t ht=>by cases ht)⟩,by show 0≤_;omega,(fun t ht=>by cases ht)⟩;show (argN T.tail 0).size≤_;rw [tail_arg];by_cases h1:1<T.length
     ·have:=hT (0+1) h1;omega
     ·unfold argN;rw [List.getD_eq_getElem?_getD,List.getElem?_eq_none (by omega)];exact Nat.zero_le _
    ·split
     ·exact h
     ·exact keyed_good h0 (h0.1.getD _)
  ·exact h
theorem specDone_good (ks:List Ke) (now:Int) (T:List ByteArray):GoodK 41 (specDoneM ks now T).1:=by
 unfold specDoneM;split
 ·rename_i h;unfold doneOkB at h;simp only [Bool.and_eq_true] at h;obtain ⟨h1,h2,h3,h4⟩:=h;obtain ⟨k1,k2⟩:=dbOk_key h1;exact done_good ⟨fun k hk=>key_gd (k2 k (List.mem_filter.1 hk).1),Nat.le_trans (List.length_filter_le _ _) k1⟩ (args_ok h4).2
 ·exact ⟨fun k hk=> (by cases hk),Nat.zero_le _⟩
end Go.Proofs.YtibhabajknikcaaGreatDoor
