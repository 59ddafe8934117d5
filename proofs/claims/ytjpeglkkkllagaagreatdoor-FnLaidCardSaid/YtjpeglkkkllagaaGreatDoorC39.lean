import Derived.Test.YtjpeglkkkllagaaGreatDoorC25
import Derived.Test.YtjpeglkkkllagaaGreatDoorC28
import Derived.Test.YtjpeglkkkllagaaGreatDoorC34
import Derived.Test.YtjpeglkkkllagaaGreatDoorC36
set_option maxHeartbeats 4000000
set_option maxRecDepth 100000
namespace Go.Proofs.YtjpeglkkkllagaaGreatDoor
open Go.RowKit Go.Sort
structure KeyIn (w:World) (B B':Nat) (v:Value) (L:List KV) (x:KV) (there:Bool) (aa:Option Addr) (ab ao m:Nat) (T:List ByteArray):Prop where
 db:DbOwn w B v L
 fit:FitsK (L.map KV.key)
 few:L.length≤500000
 key:VOwn w B' x.key.val x.vi x.vp x.vr
 small:KSml x.key
 args:zdg w aa ab ao m T
 m20:m≤20
 short:∀i,i<m→(argN T i).size≤200
 low:B≤w.heap.size
theorem KeyIn.rd {w:World} {B B':Nat} {v:Value} {L:List KV} {x:KV} {there:Bool} {aa:Option Addr} {ab ao m:Nat} {T:List ByteArray} (h:KeyIn w B B' v L x there aa ab ao m T):VRd w x.key.val x.vi x.vp x.vr:=
 h.key.rd (fun t ht=>by have:=h.small.items t ht;omega)
theorem text_all (c:Cm) (hc:c.kind=1) (B B':Nat) (v:Value) (L:List KV) (x:KV) (there:Bool) (aa:Option Addr) (ab ao m ac:Nat) (T:List ByteArray) (w:World) (h:KeyIn w B B' v L x there aa ab ao m T) (hm:c.fits m=true):
  Calls Tryz.prog 94 #[v,kvV x,.bool there,.string c.text,.slice aa m ac] w (zbd w B (textM c (L.map KV.key) x.key there T)):=by
 cases c using Cm.elim
 case GET=>
  obtain rfl:m=1:=of_decide_eq_true hm;exact text_GET B v L x there aa ab ao ac T w h.db h.rd h.small h.args h.short h.low
 case STRLEN=>
  obtain rfl:m=1:=of_decide_eq_true hm;exact text_STRLEN B v L x there aa ab ao ac T w h.db h.rd h.small h.args h.short h.low
 case GETRANGE=>
  obtain rfl:m=3:=of_decide_eq_true hm;exact text_GETRANGE B v L x there aa ab ao ac T w h.db h.rd h.small h.args h.short h.low
 case APPEND=>
  obtain rfl:m=2:=of_decide_eq_true hm;exact text_APPEND B v L x there aa ab ao ac T w h.db h.fit h.few h.rd h.small h.args h.short h.low
 case INCRBY=>
  obtain rfl:m=2:=of_decide_eq_true hm;exact text_INCRBY B v L x there aa ab ao ac T w h.db h.fit h.few h.rd h.small h.args h.short h.low
 all_goals cases hc
theorem lists_all (c:Cm) (hc:c.kind=2) (B B':Nat) (v:Value) (L:List KV) (x:KV) (there:Bool) (aa:Option Addr) (ab ao m ac:Nat) (T:List ByteArray) (w:World) (h:KeyIn w B B' v L x there aa ab ao m T) (hm:c.fits m=true) (hne:there=true→0<x.key.val.items.length):
  Calls Tryz.prog 95 #[v,kvV x,.bool there,.string c.text,.slice aa m ac] w (zbd w B (listsM c (L.map KV.key) x.key there T)):=by
 cases c using Cm.elim
 case LLEN=>
  obtain rfl:m=1:=of_decide_eq_true hm;exact lists_LLEN B B' v L x there aa ab ao ac T w h.db h.key h.small h.args h.short h.low
 case LRANGE=>
  obtain rfl:m=3:=of_decide_eq_true hm;exact lists_LRANGE B B' v L x there aa ab ao ac T w h.db h.key h.small h.args h.short h.low
 case LPOP=>
  obtain rfl:m=1:=of_decide_eq_true hm;exact lists_LPOP B B' v L x there aa ab ao ac T w h.db h.fit h.few h.key h.small hne h.args h.short h.low
 case RPOP=>
  obtain rfl:m=1:=of_decide_eq_true hm;exact lists_RPOP B B' v L x there aa ab ao ac T w h.db h.fit h.few h.key h.small hne h.args h.short h.low
 case LPUSH=>
  exact lists_LPUSH B B' v L x there aa ab ao m ac T w h.db h.fit h.few h.key h.small h.args (of_decide_eq_true hm) h.m20 h.short h.low
 case RPUSH=>
  exact lists_RPUSH B B' v L x there aa ab ao m ac T w h.db h.fit h.few h.key h.small h.args (of_decide_eq_true hm) h.m20 h.short h.low
 all_goals cases hc
theorem hash_all (c:Cm) (hc:c.kind=3) (B B':Nat) (v:Value) (L:List KV) (x:KV) (there:Bool) (aa:Option Addr) (ab ao m ac:Nat) (T:List ByteArray) (w:World) (h:KeyIn w B B' v L x there aa ab ao m T) (hm:c.fits m=true):
  Calls Tryz.prog 96 #[v,kvV x,.string c.text,.slice aa m ac] w (zbd w B (hashM c (L.map KV.key) x.key T)):=by
 cases c using Cm.elim
 case HLEN=>
  obtain rfl:m=1:=of_decide_eq_true hm;exact hash_HLEN B B' v L x aa ab ao ac T w h.db h.key h.small h.args h.short h.low
 case HGET=>
  obtain rfl:m=2:=of_decide_eq_true hm;exact hash_HGET B B' v L x aa ab ao ac T w h.db h.key h.small h.args h.short h.low
 case HGETALL=>
  obtain rfl:m=1:=of_decide_eq_true hm;exact hash_HGETALL B B' v L x aa ab ao ac T w h.db h.key h.small h.args h.short h.low
 case HDEL=>
  exact hash_HDEL B B' v L x aa ab ao m ac T w h.db h.fit h.few h.key h.small h.args (of_decide_eq_true hm) h.m20 h.low
 case HSET=>
  exact hash_HSET B B' v L x aa ab ao m ac T w h.db h.fit h.few h.key h.small h.args (by have:=(of_decide_eq_true hm:3≤m∧m%2=1);omega) h.m20 h.low
 all_goals cases hc
theorem zset_all (c:Cm) (hc:c.kind=4) (B B':Nat) (v:Value) (L:List KV) (x:KV) (there:Bool) (aa:Option Addr) (ab ao m ac:Nat) (T:List ByteArray) (w:World) (h:KeyIn w B B' v L x there aa ab ao m T) (hm:c.fits m=true):
  Calls Tryz.prog 97 #[v,kvV x,.string c.text,.slice aa m ac] w (zbd w B (zsetM c (L.map KV.key) x.key T)):=by
 cases c using Cm.elim
 case ZCARD=>
  obtain rfl:m=1:=of_decide_eq_true hm;exact zset_ZCARD B B' v L x aa ab ao ac T w h.db h.key h.small h.args h.short h.low
 case ZSCORE=>
  obtain rfl:m=2:=of_decide_eq_true hm;exact zset_ZSCORE B B' v L x aa ab ao ac T w h.db h.key h.small h.args h.short h.low
 case ZRANK=>
  obtain rfl:m=2:=of_decide_eq_true hm;exact zset_ZRANK B B' v L x aa ab ao ac T w h.db h.key h.small h.args h.short h.low
 case ZRANGE=>
  obtain rfl:m=3:=of_decide_eq_true hm;exact zset_ZRANGE B B' v L x aa ab ao ac T w h.db h.key h.small h.args h.short h.low
 case ZREM=>
  exact zset_ZREM B B' v L x aa ab ao m ac T w h.db h.fit h.few h.key h.small h.args (of_decide_eq_true hm) h.m20 h.low
 case ZADD=>
  exact zset_ZADD B B' v L x aa ab ao m ac T w h.db h.fit h.few h.key h.small h.args (by have:=(of_decide_eq_true hm:3≤m∧m%2=1);omega) h.m20 h.short h.low
 all_goals cases hc
theorem any_all (c:Cm) (hc:c.kind=0) (B B':Nat) (v:Value) (L:List KV) (x:KV) (there:Bool) (aa:Option Addr) (ab ao m ac:Nat) (T:List ByteArray) (w:World) (h:KeyIn w B B' v L x there aa ab ao m T) (hm:c.fits m=true) (hy:c.many=false) (now:Int) (hnow:0≤now∧now≤1000000000):
  Calls Tryz.prog 98 #[v,kvV x,.bool there,.int .i64 now,.string c.text,.slice aa m ac] w (zbd w B (anyM c (L.map KV.key) x.key there now T)):=by
 cases c using Cm.elim
 case TYPE=>
  obtain rfl:m=1:=of_decide_eq_true hm;exact any_TYPE B v L x there now aa ab ao ac T w h.db h.rd h.small hnow h.args h.short h.low
 case TTL=>
  obtain rfl:m=1:=of_decide_eq_true hm;exact any_TTL B v L x there now aa ab ao ac T w h.db h.rd h.small hnow h.args h.short h.low
 case PERSIST=>
  obtain rfl:m=1:=of_decide_eq_true hm;exact any_PERSIST B v L x there now aa ab ao ac T w h.db h.fit h.few h.rd h.small hnow h.args h.short h.low
 case EXPIRE=>
  obtain rfl:m=2:=of_decide_eq_true hm;exact any_EXPIRE B v L x there now aa ab ao ac T w h.db h.fit h.few h.rd h.small hnow h.args h.short h.low
 case SETNX=>
  obtain rfl:m=2:=of_decide_eq_true hm;exact any_SETNX B v L x there now aa ab ao ac T w h.db h.fit h.few h.rd h.small hnow h.args h.short h.low
 case SET=>
  rcases (of_decide_eq_true hm:m=2∨m=4) with rfl|rfl
  ·exact any_SET2 B v L x there now aa ab ao ac T w h.db h.fit h.few h.rd h.small hnow h.args h.short h.low
  ·exact any_SET4 B v L x there now aa ab ao ac T w h.db h.fit h.few h.rd h.small hnow h.args h.short h.low
 all_goals first|exact absurd hc (by decide)|exact absurd hy (by decide)
def sUnknown:ByteArray:=⟨#[117,110,107,110,111,119,110,32,99,111,109,109,97,110,100]⟩
def sWrongNum:ByteArray:=⟨#[119,114,111,110,103,32,110,117,109,98,101,114,32,111,102,32,97,114,103,117,109,101,110,116,115]⟩
theorem strs_tail {w:World} {aa:Option Addr} {ab ao m:Nat} {T:List ByteArray} (h:zdg w aa ab ao m T) (h1:1≤m):zdg w (some ⟨ab,ao+1,none⟩) ab (ao+1) (m-1) T.tail:=
 ⟨by rw [List.length_tail,h.len],fun _=>rfl,fun _=>h.low (by omega),fun i hi=>by
  have:=h.cell (i+1) (by omega);rw [show ao+1+i=ao+(i+1) by omega,this];congr 2;cases T with
  |nil=>have:=h.len;simp at this;omega
  |cons t T=>simp,fun i hi=>by
  have:=h.fit (i+1) (by omega);cases T with
  |nil=>have:=h.len;simp at this;omega
  |cons t T=>simpa using this⟩
theorem done_none (B:Nat) (v:Value) (L:List KV) (now:Int) (aa:Option Addr) (ab ao m ac:Nat) (T:List ByteArray) (w:World) (h:DbOwn w B v L) (ha:zdg w aa ab ao m T) (h1:1≤m) (hm:m≤21) (hac:m≤ac) (hT:(argN T 0).size≤1048576) (hB:B≤w.heap.size) (hc:cmOf (nameM (argN T 0))=none):
  Calls Tryz.prog 62 #[v,.int .i64 now,.slice aa m ac] w (zbd w B (L.map KV.key,zcb sUnknown)):=by
 obtain rfl:=ha.addr (by omega);have c0:=ha.cell 0 (by omega);rw [Nat.add_zero] at c0;change w.cell? _=some (.string (argN T 0)) at c0;have HN:Hid (Calls Tryz.prog 87 #[.string (argN T 0)] w fun e w'=>e= .returned (.string (nameM (argN T 0)))∧Below w.heap.size w w'):=name_any (argN T 0) w hT;have HTL:Hid (zdg w (some ⟨ab,ao+1,none⟩) ab (ao+1) (m-1) T.tail):=strs_tail ha h1;have h1i:(1:Int)≤(m:Int):=by omega
 have h0i:(0:Int)<(m:Int):=by omega
 have hmi:(m:Int)≤(ac:Int):=by omega
 have HFT:Hid (∀W,Calls Tryz.prog 88 #[.string (nameM (argN T 0)),.int .i64 (m-1:Nat)] W fun e w'=>e= .returned (.tuple #[.bool false,.bool false])∧w'=W):=fun W=>fits_none _ hc _ W;have HER:Hid (∀W,Calls Tryz.prog 89 #[.string ⟨#[117,110,107,110,111,119,110,32,99,111,109,109,97,110,100]⟩] W (zci W (zcb sUnknown))):=fun W=>error_any sUnknown (by decide) W;have ES:Hid (∀r w1 w2,Below w.heap.size w w1→zbe w2 w1.heap.size r (zcb sUnknown)→Below w1.heap.size w1 w2→zbd w B (L.map KV.key,zcb sUnknown) (.returned (.tuple #[v,r])) w2):=fun r w1 w2 h1 h2 h3=>zbd.same h hB h1 h2 h3;clear h ha HTL hT hc;generalize L.map KV.key=K0 at*;generalize nameM (argN T 0)=nm at*;generalize argN T 0=t0 at*;by_cases hac1:1<ac
 ·go_enter Tryz.func62,Tryz.ntmps62;go_wp2_with fail;refine HN.out.mono ?_;rintro e w1 ⟨rfl,b1⟩;clear HN;go_wp2_with fail;refine (HFT.out w1).mono ?_;rintro e w2 ⟨rfl,hw2⟩;subst hw2;clear HFT;go_wp2_with fail;refine (HER.out _).mono ?_;rintro e w3 ⟨r,rfl,hr,hb⟩;have HF:Hid _:=ES.out r w2 w3 b1 hr hb;clear hr hb ES;go_wp2;go_ret2;exact HF.out
 ·obtain rfl:ac=1:=by omega
  obtain rfl:m=1:=by omega
  go_enter Tryz.func62,Tryz.ntmps62;go_wp2_with fail;refine HN.out.mono ?_;rintro e w1 ⟨rfl,b1⟩;clear HN;go_wp2_with fail;refine (HFT.out w1).mono ?_;rintro e w2 ⟨rfl,hw2⟩;subst hw2;clear HFT;go_wp2_with fail;refine (HER.out _).mono ?_;rintro e w3 ⟨r,rfl,hr,hb⟩;have HF:Hid _:=ES.out r w2 w3 b1 hr hb;clear hr hb ES;go_wp2;go_ret2;exact HF.out
theorem done_unfit (B:Nat) (v:Value) (L:List KV) (now:Int) (aa:Option Addr) (ab ao m ac:Nat) (T:List ByteArray) (w:World) (h:DbOwn w B v L) (ha:zdg w aa ab ao m T) (h1:1≤m) (hm:m≤21) (hac:m≤ac) (hT:(argN T 0).size≤1048576) (hB:B≤w.heap.size) (c:Cm) (hc:nameM (argN T 0)=c.text) (hn:c.fits (m-1)=false):
  Calls Tryz.prog 62 #[v,.int .i64 now,.slice aa m ac] w (zbd w B (L.map KV.key,zcb sWrongNum)):=by
 obtain rfl:=ha.addr (by omega);have c0:=ha.cell 0 (by omega);rw [Nat.add_zero] at c0;change w.cell? _=some (.string (argN T 0)) at c0;have HN:Hid (Calls Tryz.prog 87 #[.string (argN T 0)] w fun e w'=>e= .returned (.string (nameM (argN T 0)))∧Below w.heap.size w w'):=name_any (argN T 0) w hT;have HTL:Hid (zdg w (some ⟨ab,ao+1,none⟩) ab (ao+1) (m-1) T.tail):=strs_tail ha h1;have h1i:(1:Int)≤(m:Int):=by omega
 have h0i:(0:Int)<(m:Int):=by omega
 have hmi:(m:Int)≤(ac:Int):=by omega
 have HFT:Hid (∀W,Calls Tryz.prog 88 #[.string (nameM (argN T 0)),.int .i64 (m-1:Nat)] W fun e w'=>e= .returned (.tuple #[.bool true,.bool false])∧w'=W):=fun W=>by
  have:=fits_some c (m-1) (by omega) W;rw [hn] at this;rw [hc];exact this
 have HER:Hid (∀W,Calls Tryz.prog 89 #[.string ⟨#[119,114,111,110,103,32,110,117,109,98,101,114,32,111,102,32,97,114,103,117,109,101,110,116,115]⟩] W (zci W (zcb sWrongNum))):=fun W=>error_any sWrongNum (by decide) W;have ES:Hid (∀r w1 w2,Below w.heap.size w w1→zbe w2 w1.heap.size r (zcb sWrongNum)→Below w1.heap.size w1 w2→zbd w B (L.map KV.key,zcb sWrongNum) (.returned (.tuple #[v,r])) w2):=fun r w1 w2 h1 h2 h3=>zbd.same h hB h1 h2 h3;clear h ha HTL hT hc hn;generalize L.map KV.key=K0 at*;generalize nameM (argN T 0)=nm at*;generalize argN T 0=t0 at*;by_cases hac1:1<ac
 ·go_enter Tryz.func62,Tryz.ntmps62;go_wp2_with fail;refine HN.out.mono ?_;rintro e w1 ⟨rfl,b1⟩;clear HN;go_wp2_with fail;refine (HFT.out w1).mono ?_;rintro e w2 ⟨rfl,hw2⟩;subst hw2;clear HFT;go_wp2_with fail;refine (HER.out _).mono ?_;rintro e w3 ⟨r,rfl,hr,hb⟩;have HF:Hid _:=ES.out r w2 w3 b1 hr hb;clear hr hb ES;go_wp2;go_ret2;exact HF.out
 ·obtain rfl:ac=1:=by omega
  obtain rfl:m=1:=by omega
  go_enter Tryz.func62,Tryz.ntmps62;go_wp2_with fail;refine HN.out.mono ?_;rintro e w1 ⟨rfl,b1⟩;clear HN;go_wp2_with fail;refine (HFT.out w1).mono ?_;rintro e w2 ⟨rfl,hw2⟩;subst hw2;clear HFT;go_wp2_with fail;refine (HER.out _).mono ?_;rintro e w3 ⟨r,rfl,hr,hb⟩;have HF:Hid _:=ES.out r w2 w3 b1 hr hb;clear hr hb ES;go_wp2;go_ret2;exact HF.out
theorem done_many (B:Nat) (v:Value) (L:List KV) (now:Int) (aa:Option Addr) (ab ao m ac:Nat) (T:List ByteArray) (w:World) (h:DbOwn w B v L) (hf:FitsK (L.map KV.key)) (hl:L.length≤500000) (ha:zdg w aa ab ao m T) (h1:1≤m) (hm:m≤21) (hac:m≤ac) (hT:(argN T 0).size≤1048576) (hB:B≤w.heap.size) (c:Cm) (hc:nameM (argN T 0)=c.text) (hn:c.fits (m-1)=true) (hy:c.many=true):
  Calls Tryz.prog 62 #[v,.int .i64 now,.slice aa m ac] w (zbd w B (manyM c (L.map KV.key) T.tail)):=by
 obtain rfl:=ha.addr (by omega);have c0:=ha.cell 0 (by omega);rw [Nat.add_zero] at c0;change w.cell? _=some (.string (argN T 0)) at c0;have HN:Hid (Calls Tryz.prog 87 #[.string (argN T 0)] w fun e w'=>e= .returned (.string (nameM (argN T 0)))∧Below w.heap.size w w'):=name_any (argN T 0) w hT;have HTL:Hid (zdg w (some ⟨ab,ao+1,none⟩) ab (ao+1) (m-1) T.tail):=strs_tail ha h1;have h1i:(1:Int)≤(m:Int):=by omega
 have h0i:(0:Int)<(m:Int):=by omega
 have hmi:(m:Int)≤(ac:Int):=by omega
 have HFT:Hid (∀W,Calls Tryz.prog 88 #[.string c.text,.int .i64 (m-1:Nat)] W fun e w'=>e= .returned (.tuple #[.bool true,.bool true])∧w'=W):=fun W=>by
  have:=fits_some c (m-1) (by omega) W;rw [hn] at this;exact this
 have HMY:Hid (∀W ab' ao' ac',Below w.heap.size w W→zdg w (some ⟨ab',ao',none⟩) ab' ao' (m-1) T.tail→Calls Tryz.prog 90 #[v,.string c.text,.slice (some ⟨ab',ao',none⟩) (m-1) ac'] W (zbd w B (manyM c (L.map KV.key) T.tail))):=fun W ab' ao' ac' hb hs=>
  (many_any c hy B v L _ ab' ao' (m-1) ac' T.tail W hn (h.below hb) hf (by omega) (zdb hs hb) (by omega) (Nat.le_trans hB hb.size)).mono fun e w' he=>zbd.wide he hb
 have HT0:Hid (m=1→zdg w (some ⟨ab,ao,none⟩) ab ao (m-1) T.tail):=fun e=>⟨by rw [List.length_tail,ha.len],fun _=>rfl,fun h=>by omega,fun i hi=>by omega,fun i hi=>by omega⟩;rw [hc] at HN;clear h ha hT hc hn hf hl;generalize manyM c (L.map KV.key) T.tail=MM at*;generalize argN T 0=t0 at*;generalize T.tail=TT at*;cases c using Cm.elim;all_goals try (exact absurd hy (by decide))
 all_goals
  simp only [Cm.text] at HN HFT HMY;by_cases hac1:1<ac
  ·go_enter Tryz.func62,Tryz.ntmps62;go_wp2_with fail;refine HN.out.mono ?_;rintro e w1 ⟨rfl,b1⟩;clear HN;go_wp2_with fail;refine (HFT.out w1).mono ?_;rintro e w2 ⟨rfl,hw2⟩;subst hw2;clear HFT;go_wp2_with fail;refine (HMY.out _ _ _ _ b1 (HTL.out)).mono ?_;rintro e w3 ⟨v',r',L',rfl,q1,q2,q3,q4⟩;have HF:Hid (zbd w B MM (.returned (.tuple #[v',r'])) w3):=⟨v',r',L',rfl,q1,q2,q3,q4⟩;clear q1 q2 q3 q4 HMY HT0 HTL;go_wp2;go_ret2;exact HF.out
  ·obtain rfl:ac=1:=by omega
   obtain rfl:m=1:=by omega
   go_enter Tryz.func62,Tryz.ntmps62;go_wp2_with fail;refine HN.out.mono ?_;rintro e w1 ⟨rfl,b1⟩;clear HN;go_wp2_with fail;refine (HFT.out w1).mono ?_;rintro e w2 ⟨rfl,hw2⟩;subst hw2;clear HFT;go_wp2_with fail;refine (HMY.out _ _ _ _ b1 (HT0.out (by simp))).mono ?_;rintro e w3 ⟨v',r',L',rfl,q1,q2,q3,q4⟩;have HF:Hid (zbd w B MM (.returned (.tuple #[v',r'])) w3):=⟨v',r',L',rfl,q1,q2,q3,q4⟩;clear q1 q2 q3 q4 HMY HT0 HTL;go_wp2;go_ret2;exact HF.out
end Go.Proofs.YtjpeglkkkllagaaGreatDoor
