import Derived.Test.YtokafonppgppdaaGreatDoorC25
import Derived.Test.YtokafonppgppdaaGreatDoorC34
import Derived.Test.YtokafonppgppdaaGreatDoorC36
set_option maxHeartbeats 4000000
set_option maxRecDepth 100000
namespace Go.Proofs.YtokafonppgppdaaGreatDoor
open Tryz
open Go.RowKit Go.Sort
variable {w:World} {aa:Option Addr} {ab ao m n:Nat} {T:List ByteArray} {c:Cm} {ks:List Ke} {th:Bool} {now:Int}
structure zn2 (w:World) (B B':Nat) (v:Value) (L:List KV) (x:KV) (there:Bool) (aa:Option Addr) (ab ao m:Nat) (T:List ByteArray):Prop where
 db:zaw w B v L
 fit:zda (L.map KV.key)
 few:L.length<=500000
 key:VOwn w B' x.key.val x.vi x.vp x.vr
 small:zf8 x.key
 args:zdg w aa ab ao m T
 m20:m<=20
 short:∀i,i<m->(zaj T i).size<=200
 low:B<=w.heap.size
theorem zn2.rd {B B':Nat} {v:Value} {L:List KV} {x:KV} {there:Bool} (h:zn2 w B B' v L x there aa ab ao m T):VRd w x.key.val x.vi x.vp x.vr:=
 h.key.rd (fun t ht=>by have:=h.small.ia t ht;omega)
section
variable (c:Cm)
theorem ydk (hc:c.kind=1) (B B':Nat) (v:Value) (L:List KV) (x:KV) (there:Bool) (aa:Option Addr) (ab ao m ac:Nat) (T:List ByteArray) (w:World) (h:zn2 w B B' v L x there aa ab ao m T) (hm:c.fits m=true):
  Calls prog 104 #[v,kvV x,.bool there,.string c.text,.slice aa m ac] w (zbd w B (zhk c (L.map KV.key) x.key there T)):=by
 cases c using Cm.elim
 case GET=>
  obtain rfl:m=1:=Qg hm;exact yee B v L x there aa ab ao ac T w h.db h.rd h.small h.args h.short h.low
 case STRLEN=>
  obtain rfl:m=1:=Qg hm;exact zt1 B v L x there aa ab ao ac T w h.db h.rd h.small h.args h.short h.low
 case GETRANGE=>
  obtain rfl:m=3:=Qg hm;exact zo0 B v L x there aa ab ao ac T w h.db h.rd h.small h.args h.short h.low
 case APPEND=>
  obtain rfl:m=2:=Qg hm;exact ztd B v L x there aa ab ao ac T w h.db h.fit h.few h.rd h.small h.args h.short h.low
 case INCRBY=>
  obtain rfl:m=2:=Qg hm;exact zs3 B v L x there aa ab ao ac T w h.db h.fit h.few h.rd h.small h.args h.short h.low
 all_goals cases hc
theorem yb7 (hc:c.kind=2) (B B':Nat) (v:Value) (L:List KV) (x:KV) (there:Bool) (aa:Option Addr) (ab ao m ac:Nat) (T:List ByteArray) (w:World) (h:zn2 w B B' v L x there aa ab ao m T) (hm:c.fits m=true) (hne:there=true->0<x.key.val.ia.length):
  Calls prog 105 #[v,kvV x,.bool there,.string c.text,.slice aa m ac] w (zbd w B (zet c (L.map KV.key) x.key there T)):=by
 cases c using Cm.elim
 case LLEN=>
  obtain rfl:m=1:=Qg hm;exact zw9 B B' v L x there aa ab ao ac T w h.db h.key h.small h.args h.short h.low
 case LRANGE=>
  obtain rfl:m=3:=Qg hm;exact zp5 B B' v L x there aa ab ao ac T w h.db h.key h.small h.args h.short h.low
 case LPOP=>
  obtain rfl:m=1:=Qg hm;exact zxg B B' v L x there aa ab ao ac T w h.db h.fit h.few h.key h.small hne h.args h.short h.low
 case RPOP=>
  obtain rfl:m=1:=Qg hm;exact zx2 B B' v L x there aa ab ao ac T w h.db h.fit h.few h.key h.small hne h.args h.short h.low
 case LPUSH=>
  exact ztp B B' v L x there aa ab ao m ac T w h.db h.fit h.few h.key h.small h.args (Qg hm) h.m20 h.short h.low
 case RPUSH=>
  exact ztn B B' v L x there aa ab ao m ac T w h.db h.fit h.few h.key h.small h.args (Qg hm) h.m20 h.short h.low
 all_goals cases hc
theorem ydh (hc:c.kind=3) (B B':Nat) (v:Value) (L:List KV) (x:KV) (there:Bool) (aa:Option Addr) (ab ao m ac:Nat) (T:List ByteArray) (w:World) (h:zn2 w B B' v L x there aa ab ao m T) (hm:c.fits m=true):
  Calls prog 106 #[v,kvV x,.string c.text,.slice aa m ac] w (zbd w B (zhl c (L.map KV.key) x.key T)):=by
 cases c using Cm.elim
 case HLEN=>
  obtain rfl:m=1:=Qg hm;exact zzk B B' v L x aa ab ao ac T w h.db h.key h.small h.args h.short h.low
 case HGET=>
  obtain rfl:m=2:=Qg hm;exact ybz B B' v L x aa ab ao ac T w h.db h.key h.small h.args h.short h.low
 case HGETALL=>
  obtain rfl:m=1:=Qg hm;exact zqr B B' v L x aa ab ao ac T w h.db h.key h.small h.args h.short h.low
 case HDEL=>
  exact zyi B B' v L x aa ab ao m ac T w h.db h.fit h.few h.key h.small h.args (Qg hm) h.m20 h.low
 case HSET=>
  exact yb6 B B' v L x aa ab ao m ac T w h.db h.fit h.few h.key h.small h.args (by have:=(Qg hm:3<=m/\m%2=1);omega) h.m20 h.low
 all_goals cases hc
theorem yeh (hc:c.kind=4) (B B':Nat) (v:Value) (L:List KV) (x:KV) (there:Bool) (aa:Option Addr) (ab ao m ac:Nat) (T:List ByteArray) (w:World) (h:zn2 w B B' v L x there aa ab ao m T) (hm:c.fits m=true):
  Calls prog 107 #[v,kvV x,.string c.text,.slice aa m ac] w (zbd w B (zfl c (L.map KV.key) x.key T)):=by
 cases c using Cm.elim
 case ZCARD=>
  obtain rfl:m=1:=Qg hm;exact zxm B B' v L x aa ab ao ac T w h.db h.key h.small h.args h.short h.low
 case ZSCORE=>
  obtain rfl:m=2:=Qg hm;exact zs5 B B' v L x aa ab ao ac T w h.db h.key h.small h.args h.short h.low
 case ZRANK=>
  obtain rfl:m=2:=Qg hm;exact zvw B B' v L x aa ab ao ac T w h.db h.key h.small h.args h.short h.low
 case ZRANGE=>
  obtain rfl:m=3:=Qg hm;exact zsx B B' v L x aa ab ao ac T w h.db h.key h.small h.args h.short h.low
 case ZREM=>
  exact zzh B B' v L x aa ab ao m ac T w h.db h.fit h.few h.key h.small h.args (Qg hm) h.m20 h.low
 case ZADD=>
  exact yb1 B B' v L x aa ab ao m ac T w h.db h.fit h.few h.key h.small h.args (by have:=(Qg hm:3<=m/\m%2=1);omega) h.m20 h.short h.low
 all_goals cases hc
theorem ygh (hc:c.kind=0) (B B':Nat) (v:Value) (L:List KV) (x:KV) (there:Bool) (aa:Option Addr) (ab ao m ac:Nat) (T:List ByteArray) (w:World) (h:zn2 w B B' v L x there aa ab ao m T) (hm:c.fits m=true) (hy:c.many=false) (now:Int) (hnow:0<=now/\now<=1000000000):
  Calls prog 108 #[v,kvV x,.bool there,.int .i64 now,.string c.text,.slice aa m ac] w (zbd w B (anyM c (L.map KV.key) x.key there now T)):=by
 cases c using Cm.elim
 case TYPE=>
  obtain rfl:m=1:=Qg hm;exact yej B v L x there now aa ab ao ac T w h.db h.rd h.small hnow h.args h.short h.low
 case TTL=>
  obtain rfl:m=1:=Qg hm;exact yhw B v L x there now aa ab ao ac T w h.db h.rd h.small hnow h.args h.short h.low
 case PERSIST=>
  obtain rfl:m=1:=Qg hm;exact zsn B v L x there now aa ab ao ac T w h.db h.fit h.few h.rd h.small hnow h.args h.short h.low
 case EXPIRE=>
  obtain rfl:m=2:=Qg hm;exact zw3 B v L x there now aa ab ao ac T w h.db h.fit h.few h.rd h.small hnow h.args h.short h.low
 case SETNX=>
  obtain rfl:m=2:=Qg hm;exact ya7 B v L x there now aa ab ao ac T w h.db h.fit h.few h.rd h.small hnow h.args h.short h.low
 case SET=>
  rcases (Qg hm:m=2\/m=4) with rfl|rfl
  ·exact yc6 B v L x there now aa ab ao ac T w h.db h.fit h.few h.rd h.small hnow h.args h.short h.low
  ·exact ycn B v L x there now aa ab ao ac T w h.db h.fit h.few h.rd h.small hnow h.args h.short h.low
 all_goals first|exact absurd hc (by decide)|exact absurd hy (by decide)
end
def zdu:ByteArray:=⟨#[117,110,107,110,111,119,110,32,99,111,109,109,97,110,100]⟩
def zc4:ByteArray:=⟨#[119,114,111,110,103,32,110,117,109,98,101,114,32,111,102,32,97,114,103,117,109,101,110,116,115]⟩
theorem zgy (h:zdg w aa ab ao m T) (h1:1<=m):zdg w (some ⟨ab,ao+1,none⟩) ab (ao+1) (m-1) T.tail:=
 ⟨by rw [List.length_tail,h.len],fun _=>rfl,fun _=>h.low (by omega),fun i hi=>by
  have:=h.cell (i+1) (by omega);rw [show ao+1+i=ao+(i+1) by omega,this];congr 2;cases T with
  |nil=>have:=h.len;simp at this;omega
  |cons t T=>simp,fun i hi=>by
  have:=h.fit (i+1) (by omega);cases T with
  |nil=>have:=h.len;simp at this;omega
  |cons t T=>simpa using this⟩
section
variable (B:Nat) (v:Value) (L:List KV) (now:Int) (aa:Option Addr) (ab ao m ac:Nat) (T:List ByteArray) (w:World)
theorem yb0 (h:zaw w B v L) (ha:zdg w aa ab ao m T) (h1:1<=m) (hm:m<=21) (hac:m<=ac) (hT:(zaj T 0).size<=1048576) (hB:B<=w.heap.size) (hc:zlt (zcv (zaj T 0))=none):
  Calls prog 54 #[v,.int .i64 now,.slice aa m ac] w (zbd w B (L.map KV.key,zcb zdu)):=by
 obtain rfl:=ha.addr (by omega);have c0:=ha.cell 0 (by omega);rw [Qy] at c0;change w.cell? _=some (.string (zaj T 0)) at c0;have HN:=hid (zia (zaj T 0) w hT);have HTL:=hid (zgy ha h1);have h1i:(1:Int)<=(m:Int):=by omega
 have h0i:(0:Int)<(m:Int):=by omega
 have hmi:(m:Int)<=(ac:Int):=by omega
 have HFT:Hid (∀W,Cp 97 #[.string (zcv (zaj T 0)),.int .i64 (m-1:Nat)] W fun e w'=>e= .returned (.tuple #[.bool false,.bool false])/\w'=W):=fun W=>ybg _ hc _ W;have HER:Hid (∀W,Cp 98 #[.string ⟨#[117,110,107,110,111,119,110,32,99,111,109,109,97,110,100]⟩] W (zci W (zcb zdu))):=fun W=>zdf zdu (by decide) W;have ES:Hid (∀r w1 w2,Bl w w1->zbe w2 w1.heap.size r (zcb zdu)->Bl w1 w2->zbd w B (L.map KV.key,zcb zdu) (.returned (.tuple #[v,r])) w2):=fun r w1 w2 h1 h2 h3=>zbd.same h hB h1 h2 h3;clear h ha HTL hT hc;generalize L.map KV.key=K0,zcv (zaj T 0)=nm at*;generalize zaj T 0=t0 at*;by_cases hac1:1<ac
 ·go_enter func54,ntmps54;go_wp2_with fail;refine HN.out.mono ?_;rintro e w1 ⟨rfl,b1⟩;clear HN;go_wp2_with fail;refine (HFT.out w1).mono ?_;rintro e w2 ⟨rfl,hw2⟩;subst hw2;clear HFT;go_wp2_with fail;refine (HER.out _).mono ?_;rintro e w3 ⟨r,rfl,hr,hb⟩;have HF:Hid _:=ES.out r w2 w3 b1 hr hb;clear hr hb ES;go_wp2;go_ret2;exact HF.out
 ·obtain rfl:ac=1:=by omega
  obtain rfl:m=1:=by omega
  go_enter func54,ntmps54;go_wp2_with fail;refine HN.out.mono ?_;rintro e w1 ⟨rfl,b1⟩;clear HN;go_wp2_with fail;refine (HFT.out w1).mono ?_;rintro e w2 ⟨rfl,hw2⟩;subst hw2;clear HFT;go_wp2_with fail;refine (HER.out _).mono ?_;rintro e w3 ⟨r,rfl,hr,hb⟩;have HF:Hid _:=ES.out r w2 w3 b1 hr hb;clear hr hb ES;go_wp2;go_ret2;exact HF.out
theorem zxn (h:zaw w B v L) (ha:zdg w aa ab ao m T) (h1:1<=m) (hm:m<=21) (hac:m<=ac) (hT:(zaj T 0).size<=1048576) (hB:B<=w.heap.size) (c:Cm) (hc:zcv (zaj T 0)=c.text) (hn:c.fits (m-1)=false):
  Calls prog 54 #[v,.int .i64 now,.slice aa m ac] w (zbd w B (L.map KV.key,zcb zc4)):=by
 obtain rfl:=ha.addr (by omega);have c0:=ha.cell 0 (by omega);rw [Qy] at c0;change w.cell? _=some (.string (zaj T 0)) at c0;have HN:=hid (zia (zaj T 0) w hT);have HTL:=hid (zgy ha h1);have h1i:(1:Int)<=(m:Int):=by omega
 have h0i:(0:Int)<(m:Int):=by omega
 have hmi:(m:Int)<=(ac:Int):=by omega
 have HFT:Hid (∀W,Cp 97 #[.string (zcv (zaj T 0)),.int .i64 (m-1:Nat)] W fun e w'=>e= .returned (.tuple #[.bool true,.bool false])/\w'=W):=fun W=>by
  have:=zlg c (m-1) (by omega) W;rw [hn] at this;rw [hc];exact this
 have HER:Hid (∀W,Cp 98 #[.string ⟨#[119,114,111,110,103,32,110,117,109,98,101,114,32,111,102,32,97,114,103,117,109,101,110,116,115]⟩] W (zci W (zcb zc4))):=fun W=>zdf zc4 (by decide) W;have ES:Hid (∀r w1 w2,Bl w w1->zbe w2 w1.heap.size r (zcb zc4)->Bl w1 w2->zbd w B (L.map KV.key,zcb zc4) (.returned (.tuple #[v,r])) w2):=fun r w1 w2 h1 h2 h3=>zbd.same h hB h1 h2 h3;clear h ha HTL hT hc hn;generalize L.map KV.key=K0,zcv (zaj T 0)=nm at*;generalize zaj T 0=t0 at*;by_cases hac1:1<ac
 ·go_enter func54,ntmps54;go_wp2_with fail;refine HN.out.mono ?_;rintro e w1 ⟨rfl,b1⟩;clear HN;go_wp2_with fail;refine (HFT.out w1).mono ?_;rintro e w2 ⟨rfl,hw2⟩;subst hw2;clear HFT;go_wp2_with fail;refine (HER.out _).mono ?_;rintro e w3 ⟨r,rfl,hr,hb⟩;have HF:Hid _:=ES.out r w2 w3 b1 hr hb;clear hr hb ES;go_wp2;go_ret2;exact HF.out
 ·obtain rfl:ac=1:=by omega
  obtain rfl:m=1:=by omega
  go_enter func54,ntmps54;go_wp2_with fail;refine HN.out.mono ?_;rintro e w1 ⟨rfl,b1⟩;clear HN;go_wp2_with fail;refine (HFT.out w1).mono ?_;rintro e w2 ⟨rfl,hw2⟩;subst hw2;clear HFT;go_wp2_with fail;refine (HER.out _).mono ?_;rintro e w3 ⟨r,rfl,hr,hb⟩;have HF:Hid _:=ES.out r w2 w3 b1 hr hb;clear hr hb ES;go_wp2;go_ret2;exact HF.out
theorem zy9 (h:zaw w B v L) (hf:zda (L.map KV.key)) (hl:L.length<=500000) (ha:zdg w aa ab ao m T) (h1:1<=m) (hm:m<=21) (hac:m<=ac) (hT:(zaj T 0).size<=1048576) (hB:B<=w.heap.size) (c:Cm) (hc:zcv (zaj T 0)=c.text) (hn:c.fits (m-1)=true) (hy:c.many=true):
  Calls prog 54 #[v,.int .i64 now,.slice aa m ac] w (zbd w B (zgr c (L.map KV.key) T.tail)):=by
 obtain rfl:=ha.addr (by omega);have c0:=ha.cell 0 (by omega);rw [Qy] at c0;change w.cell? _=some (.string (zaj T 0)) at c0;have HN:=hid (zia (zaj T 0) w hT);have HTL:=hid (zgy ha h1);have h1i:(1:Int)<=(m:Int):=by omega
 have h0i:(0:Int)<(m:Int):=by omega
 have hmi:(m:Int)<=(ac:Int):=by omega
 have HFT:Hid (∀W,Cp 97 #[.string c.text,.int .i64 (m-1:Nat)] W fun e w'=>e= .returned (.tuple #[.bool true,.bool true])/\w'=W):=fun W=>by
  have:=zlg c (m-1) (by omega) W;rw [hn] at this;exact this
 have HMY:Hid (∀W ab' ao' ac',Bl w W->zdg w (some ⟨ab',ao',none⟩) ab' ao' (m-1) T.tail->Cp 99 #[v,.string c.text,.slice (some ⟨ab',ao',none⟩) (m-1) ac'] W (zbd w B (zgr c (L.map KV.key) T.tail))):=fun W ab' ao' ac' hb hs=>
  (yeq c hy B v L _ ab' ao' (m-1) ac' T.tail W hn (h.bw hb) hf (by omega) (zdb hs hb) (by omega) (Qj hB hb.size)).mono fun e w' he=>zbd.wide he hb
 have HT0:Hid (m=1->zdg w (some ⟨ab,ao,none⟩) ab ao (m-1) T.tail):=fun e=>⟨by rw [List.length_tail,ha.len],fun _=>rfl,fun h=>by omega,fun i hi=>by omega,fun i hi=>by omega⟩;rw [hc] at HN;clear h ha hT hc hn hf hl;generalize zgr c (L.map KV.key) T.tail=MM,zaj T 0=t0 at*;generalize T.tail=TT at*;cases c using Cm.elim;all_goals try (exact absurd hy (by decide))
 all_goals
  simp only [Cm.text] at HN HFT HMY;by_cases hac1:1<ac
  ·go_enter func54,ntmps54;go_wp2_with fail;refine HN.out.mono ?_;rintro e w1 ⟨rfl,b1⟩;clear HN;go_wp2_with fail;refine (HFT.out w1).mono ?_;rintro e w2 ⟨rfl,hw2⟩;subst hw2;clear HFT;go_wp2_with fail;refine (HMY.out _ _ _ _ b1 (HTL.out)).mono ?_;rintro e w3 ⟨v',r',L',rfl,q1,q2,q3,q4⟩;have HF:Hid (zbd w B MM (.returned (.tuple #[v',r'])) w3):=⟨v',r',L',rfl,q1,q2,q3,q4⟩;clear q1 q2 q3 q4 HMY HT0 HTL;go_wp2;go_ret2;exact HF.out
  ·obtain rfl:ac=1:=by omega
   obtain rfl:m=1:=by omega
   go_enter func54,ntmps54;go_wp2_with fail;refine HN.out.mono ?_;rintro e w1 ⟨rfl,b1⟩;clear HN;go_wp2_with fail;refine (HFT.out w1).mono ?_;rintro e w2 ⟨rfl,hw2⟩;subst hw2;clear HFT;go_wp2_with fail;refine (HMY.out _ _ _ _ b1 (HT0.out (by simp))).mono ?_;rintro e w3 ⟨v',r',L',rfl,q1,q2,q3,q4⟩;have HF:Hid (zbd w B MM (.returned (.tuple #[v',r'])) w3):=⟨v',r',L',rfl,q1,q2,q3,q4⟩;clear q1 q2 q3 q4 HMY HT0 HTL;go_wp2;go_ret2;exact HF.out
end
open Kk (zbz)
theorem zi8 {k:Ke} (h:zfo k=true):zf8 k:=by
 unfold zfo zdr at h;simp only [Qh,decide_eq_true_eq] at h;obtain ⟨h1,h2,h3,h4⟩:=h;have s:=zff h2;exact ⟨h1,s.text,s.ni,s.np,s.nr,s.ia,s.pj,s.rq,⟨by have:=s.kind;omega,s.kind.2⟩,⟨h3,h4⟩⟩
theorem yeo {k:Ke} (h:zfo k=true) (hk:k.val.kind=2):0<k.val.ia.length:=by
 unfold zfo zh4 at h;rw [if_neg (by omega),if_pos hk] at h;unfold zdl countB at h;simp only [Qh,decide_eq_true_eq] at h;omega
theorem zgj:∀(ks:List Ke) (nm:ByteArray) (s:Nat),zd1 ks nm s= -1\/∃i,i<ks.length/\zd1 ks nm s=((s+i:Nat):Int)
 | [],_,_=> .inl rfl
 |k::ks,nm,s=>by
  unfold zd1;by_cases h:k.name=nm
  ·rw [if_pos h];exact .inr ⟨0,by simp,by simp⟩
  ·rw [if_neg h];rcases zgj ks nm (s+1) with e|⟨i,hi,e⟩
   ·exact .inl e
   ·exact .inr ⟨i+1,by simpa using hi,by rw [e];congr 1;omega⟩
theorem zks (T:List ByteArray) (i:Nat):zaj T.tail i=zaj T (i+1):=by cases T<;>simp [zaj]
theorem yb9 (c:Cm):zlt c.text=some c:=by cases c using Cm.elim<;>decide
theorem zu8 (c:Cm) (h:c.many=false):zsh c.text:=by
 have t:∀d:Cm,d.many=true->(c.text.toList==d.text.data.toList)=false:=fun d hd=>by
  have:=zbz (a:=c.text) (b:=d.text) (fun e=>by
   have h1:=yb9 c;rw [e,yb9 d] at h1;cases h1;rw [hd] at h;cases h)
  rwa [ByteArray.toList_eq d.text] at this
 exact ⟨t .PING rfl,t .ECHO rfl,t .FLUSHALL rfl,t .DBSIZE rfl,t .KEYS rfl,t .DEL rfl,t .EXISTS rfl⟩
theorem zpp (h:c.many=false) (hf:c.fits n=true):1<=n:=by
 cases c using Cm.elim<;>first|(cases h;done)|(simp [Cm.fits] at hf;omega)
theorem zh9 (c:Cm):(c.kind:Int)=0\/(c.kind:Int)=1\/(c.kind:Int)=2\/(c.kind:Int)=3\/(c.kind:Int)=4:=by cases c using Cm.elim<;>decide
def zkh (nm:ByteArray) (kd:Int):Ke:=⟨nm,⟨kd,⟨#[]⟩,[],[],[]⟩,0⟩
def zc3 (c:Cm) (ks:List Ke) (k:Ke) (there:Bool) (now:Int) (T:List ByteArray):List Ke×List Rp:=match c.kind with
 |1=>zhk c ks k there T
 |2=>zet c ks k there T
 |3=>zhl c ks k T
 |4=>zfl c ks k T
 |_=>anyM c ks k there now T
def ztx (c:Cm) (ks:List Ke) (now:Int) (T:List ByteArray):List Ke×List Rp:=
 if zd1 ks (zaj T 0) 0<0 then zc3 c ks (zkh (zaj T 0) c.kind) false now T
 else if (c.kind:Int)≠0/\(ks.getD (zd1 ks (zaj T 0) 0).toNat ke0).val.kind≠c.kind then (ks,zhs)
 else zc3 c ks (ks.getD (zd1 ks (zaj T 0) 0).toNat ke0) true now T
def ze2 (ks:List Ke) (now:Int) (T:List ByteArray):List Ke×List Rp:=match zlt (zcv (zaj T 0)) with
 |none=> (ks,zcb zdu)
 |some c=>if c.fits (T.length-1)=true then (if c.many=true then zgr c ks T.tail else ztx c ks now T.tail) else (ks,zcb zc4)
theorem ydv (w:World) (B:Nat) (kd:Int):VOwn w B ⟨kd,⟨#[]⟩,[],[],[]⟩ (.slice none 0 0) (.slice none 0 0) (.slice none 0 0):=⟨World.ownsRow_nil _ _ _ _,World.ownsRow_nil _ _ _ _,World.ownsRow_nil _ _ _ _⟩
theorem zuf (c:Cm) (hy:c.many=false) (B B':Nat) (v:Value) (L:List KV) (x:KV) (there:Bool) (now:Int) (ab ao n:Nat) (T:List ByteArray) (w W:World) (h:zn2 W B B' v L x there (some ⟨ab,ao+1,none⟩) ab (ao+1) n T) (hb:Bl w W) (hn:c.fits n=true) (hnow:0<=now/\now<=1000000000) (hne:c.kind=2->there=true->0<x.key.val.ia.length):
  zl4 c.kind now w B (zc3 c (L.map KV.key) x.key there now T) v c.text there ab ao n #[.string x.key.name,.int .i64 x.key.val.kind,.string x.key.val.text,x.vi,x.vp,x.vr,.int .i64 x.key.due] W:=by
 intro ac';refine ⟨fun e=>?_,fun e=>?_,fun e=>?_,fun e=>?_,fun e=>?_⟩
 ·have e:c.kind=1:=by omega
  have:zc3 c (L.map KV.key) x.key there now T=zhk c (L.map KV.key) x.key there T:=by unfold zc3;rw [e];rfl
  rw [this];exact (ydk c e B B' v L x there _ ab _ n ac' T W h hn).mono fun e w' he=>zbd.wide he hb
 ·have e:c.kind=2:=by omega
  have:zc3 c (L.map KV.key) x.key there now T=zet c (L.map KV.key) x.key there T:=by unfold zc3;rw [e];rfl
  rw [this];exact (yb7 c e B B' v L x there _ ab _ n ac' T W h hn (hne e)).mono fun e w' he=>zbd.wide he hb
 ·have e:c.kind=3:=by omega
  have:zc3 c (L.map KV.key) x.key there now T=zhl c (L.map KV.key) x.key T:=by unfold zc3;rw [e];rfl
  rw [this];exact (ydh c e B B' v L x there _ ab _ n ac' T W h hn).mono fun e w' he=>zbd.wide he hb
 ·have e:c.kind=4:=by omega
  have:zc3 c (L.map KV.key) x.key there now T=zfl c (L.map KV.key) x.key T:=by unfold zc3;rw [e];rfl
  rw [this];exact (yeh c e B B' v L x there _ ab _ n ac' T W h hn).mono fun e w' he=>zbd.wide he hb
 ·have e:c.kind=0:=by omega
  have:zc3 c (L.map KV.key) x.key there now T=anyM c (L.map KV.key) x.key there now T:=by unfold zc3;rw [e];rfl
  rw [this];exact (ygh c e B B' v L x there _ ab _ n ac' T W h hn hy now hnow).mono fun e w' he=>zbd.wide he hb
section
variable (B:Nat) (v:Value) (L:List KV) (now:Int) (aa:Option Addr) (ab ao m ac:Nat) (T:List ByteArray) (w:World)
theorem yd0 (h:zaw w B v L) (hk:∀k∈L.map KV.key,zfo k=true) (hl:L.length<=20) (ha:zdg w aa ab ao m T) (h1:1<=m) (hm:m<=20) (hac:m<=ac) (hT:∀i,i<m->(zaj T i).size<=200) (hnow:0<=now/\now<=1000000000) (hB:B<=w.heap.size) (c:Cm) (hc:zcv (zaj T 0)=c.text) (hn:c.fits (m-1)=true) (hy:c.many=false):
  Calls prog 54 #[v,.int .i64 now,.slice aa m ac] w (zbd w B (ztx c (L.map KV.key) now T.tail)):=by
 have hp:=zpp hy hn;have hf:zda (L.map KV.key):=fun k hk1=> (zi8 (hk k hk1)).fit;obtain ⟨a,A,c',ev,hdi,hda⟩:=h.din hf.fits;obtain rfl:=ha.addr (by omega);have c0:=ha.cell 0 (by omega);rw [Qy] at c0;change w.cell? _=some (.string (zaj T 0)) at c0;have c1:=ha.cell 1 (by omega);change w.cell? _=some (.string (zaj T 1)) at c1;have t1:=zks T 0;have HN:Calls prog 96 #[.string (zaj T 0)] w fun e w'=>e= .returned (.string c.text)/\Bl w w':=by
  have:=zia (zaj T 0) w (by have:=hT 0 (by omega);omega);rwa [hc] at this
 have HFT:∀W,Calls prog 97 #[.string c.text,.int .i64 (m-1:Nat)] W fun e w'=>e= .returned (.tuple #[.bool true,.bool true])/\w'=W:=fun W=>by
  have:=zlg c (m-1) (by omega) W;rw [hn] at this;exact this
 have HK:∀W,Calls prog 100 #[.string c.text] W fun e w'=>e= .returned (.int .i64 (c.kind:Int))/\w'=W:=fun W=>zzy c W;have HF:∀W,Bl w W->Calls prog 101 #[v,.string (zaj T 1)] W fun e w'=>e= .returned (.int .i64 (zd1 (L.map KV.key) (zaj T 1) 0))/\w'=W:=fun W hb=>by
  rw [ev];exact zph a A L.length c' L (zaj T 1) W (hdi.ks.bw hb) (by omega)
 have HKI:∀W x there,Bl w W->(∃B',VOwn W B' x.key.val x.vi x.vp x.vr)->zf8 x.key->∃B',zn2 W B B' v L x there (some ⟨ab,ao+1,none⟩) ab (ao+1) (m-1) T.tail:=fun W x there hb hv hs=>by
  obtain ⟨B',hv⟩:=hv;exact ⟨B',h.bw hb,hf,by omega,hv,hs,zdb (zgy ha h1) hb,by omega,fun i hi=>by rw [zks];exact hT (i+1) (by omega),Qj hB hb.size⟩
 have hab:=ha.low (by omega);rcases zgj (L.map KV.key) (zaj T 1) 0 with e|⟨i,hi,e⟩
 ·have eM:ztx c (L.map KV.key) now T.tail=zc3 c (L.map KV.key) (zkh (zaj T 1) c.kind) false now T.tail:=by
   unfold ztx;rw [t1,e,if_pos (by omega)]
  rw [eM];rw [e] at HF;refine ycw B v now ab ao m ac (zaj T 0) (zaj T 1) c.text w _ c.kind c0 c1 hab (by omega) (by omega) hac (zu8 c hy) HN HFT HK (zh9 c) HF (fun W hb=>?_);have hs:zf8 (zkh (zaj T 1) c.kind):=⟨hT 1 (by omega),by simp [zkh];exact Qs _,by simp [zkh],by simp [zkh],by simp [zkh],by simp [zkh],by simp [zkh],by simp [zkh],by have:=zh9 c;simp only [zkh];omega,by simp [zkh]⟩;obtain ⟨B',hi⟩:=HKI W ⟨zkh (zaj T 1) c.kind,.slice none 0 0,.slice none 0 0,.slice none 0 0⟩ false hb ⟨0,ydv W 0 _⟩ hs;exact zuf c hy B B' v L _ false now ab ao (m-1) T.tail w W hi hb hn hnow (fun _ h=>by cases h)
 ·rw [Qp] at hi;rw [Qq] at e;have ek:=zjv L i;have eM:ztx c (L.map KV.key) now T.tail=if (c.kind:Int)≠0/\(L.getD i kv0).key.val.kind≠c.kind then (L.map KV.key,zhs) else zc3 c (L.map KV.key) (L.getD i kv0).key true now T.tail:=by
   unfold ztx;rw [t1,e,if_neg (by omega),Int.toNat_natCast,ek]
  have hx:=hk _ (List.mem_map.2 ⟨L.getD i kv0,by rw [Qa,Qd hi];exact Qv hi,rfl⟩);rw [e] at HF;have ea:=hdi.ks.addr (by omega);have hcell:=hdi.ks.cell i hi;have hval:=hdi.val i hi;have z1:=hdi.z1 i hi;have z2:=hdi.z2 i hi;have z3:=hdi.z3 i hi;have hlow:=hdi.ks.low (by omega);generalize L.getD i kv0=x0 at*;refine yd6 B v now ab ao m ac (zaj T 0) (zaj T 1) c.text w _ c.kind c0 c1 hab (by omega) (by omega) hac (zu8 c hy) HN HFT HK i L.length A c' x0 hcell hlow hi (by rw [ev,ea]) HF (fun W hb=>zfj _ W (hval.bw hb) z1 z2 z3) (zh9 c) (fun hkk W G p1 n1 d1 p2 n2 d2 p3 n3 d3 hb hv e1 e2 e3=>?_) (fun hkk W r w' hb hr hb2=>?_)
  ·rw [eM,if_neg (by omega)];obtain ⟨B',hi⟩:=HKI W ⟨x0.key,.slice p1 n1 d1,.slice p2 n2 d2,.slice p3 n3 d3⟩ true hb ⟨G,hv⟩ (zi8 hx);exact zuf c hy B B' v L ⟨x0.key,.slice p1 n1 d1,.slice p2 n2 d2,.slice p3 n3 d3⟩ true now ab ao (m-1) T.tail w W hi hb hn hnow (fun h2 _=>yeo hx (by rcases hkk with h|h<;>rw [h2] at h;cases h;exact h))
  ·rw [eM,if_pos hkk];exact zbd.same h hB hb hr hb2
theorem zvy (h:zaw w B v L) (hk:∀k∈L.map KV.key,zfo k=true) (hl:L.length<=20) (ha:zdg w aa ab ao m T) (h1:1<=m) (hm:m<=20) (hac:m<=ac) (hT:∀i,i<m->(zaj T i).size<=200) (hnow:0<=now/\now<=1000000000) (hB:B<=w.heap.size):
  Calls prog 54 #[v,.int .i64 now,.slice aa m ac] w (zbd w B (ze2 (L.map KV.key) now T)):=by
 have hf:zda (L.map KV.key):=fun k hk1=> (zi8 (hk k hk1)).fit;have h0:(zaj T 0).size<=1048576:=by have:=hT 0 (by omega);omega
 cases hc:zlt (zcv (zaj T 0)) with
 |none=>
  have:ze2 (L.map KV.key) now T=(L.map KV.key,zcb zdu):=by unfold ze2;rw [hc]
  rw [this];exact yb0 B v L now aa ab ao m ac T w h ha h1 (by omega) hac h0 hB hc
 |some c=>
  have he:ze2 (L.map KV.key) now T=if c.fits (m-1)=true then (if c.many=true then zgr c (L.map KV.key) T.tail else ztx c (L.map KV.key) now T.tail) else (L.map KV.key,zcb zc4):=by unfold ze2;rw [hc,ha.len]
  have hc':=(yf9 hc).symm;cases hn:c.fits (m-1) with
  |false=>
   rw [he,hn,if_neg (by simp)];exact zxn B v L now aa ab ao m ac T w h ha h1 (by omega) hac h0 hB c hc' hn
  |true=>
   rw [he,hn,if_pos rfl];cases hy:c.many with
   |true=>
    rw [if_pos rfl];exact zy9 B v L now aa ab ao m ac T w h hf (by omega) ha h1 (by omega) hac h0 hB c hc' hn hy
   |false=>
    rw [if_neg (by simp)];exact yd0 B v L now aa ab ao m ac T w h hk hl ha h1 hm hac hT hnow hB c hc' hn hy
end
theorem zfu (h:zan ks=true):ks.length<=20/\∀k∈ks,zfo k=true:=by
 unfold zan at h;rw [Qh,Qh,Qw] at h;refine ⟨Qg h.1,fun k hk=>?_⟩;obtain ⟨i,hi,e⟩:=List.getElem_of_mem hk;have:=(Qw.1 h.2.2) i (List.mem_range.2 hi);rwa [Qa,Qd hi,Option.getD_some,e] at this
theorem zpq (h:zgs T=true):T.length<=16/\∀i,i<T.length->(zaj T i).size<=200:=by
 unfold zgs at h;rw [Qh,Qw] at h;exact ⟨Qg h.2,fun i hi=>Qg (h.1 i (List.mem_range.2 hi))⟩
def zf6 (ks:List Ke) (now:Int) (T:List ByteArray):Bool:=zan ks&&(zdr now&&(decide (1<=T.length)&&zgs T))
def za2 (ks:List Ke) (now:Int) (T:List ByteArray):List Ke×List Rp:=if zf6 ks now T=true then ze2 (za5 ks now) now T else ([],[])
theorem ydg (w w':World) (hb:Bl w w'):zbd w w.heap.size ([],[]) (.returned (.tuple #[.slice none 0 0,.slice none 0 0])) w':=
 ⟨_,_,[],rfl,rfl,zrg _ _ hb.size,⟨[],rfl,World.ownsRow_nil _ _ _ _,fun x hx=>by cases hx⟩,hb⟩
theorem zj3 (B:Nat) (v:Value) (L:List KV) (now:Int) (aa:Option Addr) (ab ao m ac:Nat) (T:List ByteArray) (w:World) (h:zaw w B v L) (hf:zda (L.map KV.key)) (hl:L.length<=1000) (ha:zdg w aa ab ao m T) (hm:m<=1000) (hac:m<=ac):
  Calls prog 15 #[v,.int .i64 now,.slice aa m ac] w (zbd w w.heap.size (za2 (L.map KV.key) now T)):=by
 obtain ⟨a,A,c,ev,hdi,hda⟩:=h.din hf.fits;subst ev;have HD:=hid (zin a A L.length c L w hda hf.fits (by omega));have HI:Hid (∀W,Cp 52 #[.int .i64 now,.int .i64 0,.int .i64 1000000000] W fun e w'=>e= .returned (.bool (zdr now))/\Bl W w'):=fun W=>zqa now W;have HA:Hid (∀W,Bl w W->Cp 53 #[.slice aa m ac] W fun e w'=>e= .returned (.bool (zgs T))/\w'=W):=fun W hb=>zv1 aa ab ao m ac T W (zdb ha hb) (by omega);have HE:Hid (za2 (L.map KV.key) now T=if (zan (L.map KV.key)&&(zdr now&&(decide (1<=m)&&zgs T)))=true then ze2 (za5 (L.map KV.key) now) now T else ([],[])):=by
  unfold Hid za2 zf6;rw [ha.len]
 have HL:Hid (∀W,Bl w W->Cp 55 #[.slice a L.length c,.int .i64 now] W (zc1 W (za5 (L.map KV.key) now))):=fun W hb=>zih a A L.length c L now W (hdi.bw hb) (by omega);have HW:Hid (zan (L.map KV.key)=true->zdr now=true->1<=m->zgs T=true->∀W W' v' L',Bl w W->L'.map KV.key=za5 (L.map KV.key) now->zaw W' W.heap.size v' L'->Bl W W'->Cp 54 #[v',.int .i64 now,.slice aa m ac] W' (zbd w w.heap.size (ze2 (za5 (L.map KV.key) now) now T))):=fun q1 q2 q3 q4 W W' v' L' hb hm' hd hb2=>by
  obtain ⟨k1,k2⟩:=zfu q1;obtain ⟨u1,u2⟩:=zpq q4;rw [ha.len] at u1 u2;unfold zdr at q2;rw [Qh] at q2;have hbb:=hb.trans (hb2.mono hb.size);have hlen:L'.length<=20:=by
   have e1:L'.length=(L'.map KV.key).length:=by rw [Qp]
   have e2:=Qt (zbq now) (L.map KV.key);rw [e1,hm'];unfold za5;omega
  have:=zvy W.heap.size v' L' now aa ab ao m ac T W' hd (fun k hk=>by rw [hm'] at hk;exact k2 k (List.mem_filter.1 hk).1) hlen (zdb ha hbb) q3 (by omega) hac u2 ⟨Qg q2.1,Qg q2.2⟩ hb2.size;rw [hm'] at this;refine this.mono fun e w' he=>?_;obtain ⟨v2,r2,L2,rfl,g1,g2,g3,g4⟩:=zbd.wide he hbb;exact ⟨v2,r2,L2,rfl,g1,zaw.le g2 hb.size,g3,g4⟩
 have HZ:Hid (∀w',Bl w w'->zbd w w.heap.size ([],[]) (.returned (.tuple #[.slice none 0 0,.slice none 0 0])) w'):=fun w' hb=>ydg w w' hb;obtain ⟨MM,hMM⟩:∃MM,za2 (L.map KV.key) now T=MM:=⟨_,rfl⟩;rw [hMM] at HE ⊢;clear h hf hl ha hdi hda hMM;generalize L.length=n,ze2 (za5 (L.map KV.key) now) now T=DM at*;generalize za5 (L.map KV.key) now=AL,zgs T=q4,zdr now=q2 at*;cases q1:zan (L.map KV.key) with
 |false=>
  rw [q1] at HD HE;have HM:=hid HE.out;clear HE q1;go_enter func15,ntmps15;go_wp2_with fail;refine HD.out.mono ?_;rintro e w1 ⟨rfl,b1⟩;have HF:Hid (zbd w w.heap.size MM (.returned (.tuple #[.slice none 0 0,.slice none 0 0])) w1):=by rw [HM.out];exact HZ.out w1 b1
  clear HM HZ;go_wp2;go_ret2;exact HF.out
 |true=>
  rw [q1] at HD HE;cases q2 with
  |false=>
   have HM:=hid HE.out;clear HE q1;go_enter func15,ntmps15;go_wp2_with fail;refine HD.out.mono ?_;rintro e w1 ⟨rfl,b1⟩;go_wp2_with fail;refine (HI.out w1).mono ?_;rintro e w2 ⟨rfl,b2⟩;have HF:Hid (zbd w w.heap.size MM (.returned (.tuple #[.slice none 0 0,.slice none 0 0])) w2):=by rw [HM.out];exact HZ.out w2 (b1.trans (b2.mono b1.size))
   clear HM HZ;go_wp2;go_ret2;exact HF.out
  |true=>
   by_cases hm1:1<=m
   ·have hg:decide ((m:Int)<1)=false:=Qf (by omega);have hg':decide (m<1)=false:=Qf (by omega);have hg0:(m==0)=false:=by simp;omega
    rw [Qe hm1] at HE;cases q4 with
    |false=>
     have HM:=hid HE.out;clear HE q1;go_enter func15,ntmps15;go_wp2_with fail;refine HD.out.mono ?_;rintro e w1 ⟨rfl,b1⟩;go_wp2_with fail;refine (HI.out w1).mono ?_;rintro e w2 ⟨rfl,b2⟩;have b2w:=b1.trans (b2.mono b1.size);go_wp2_with fail;refine (HA.out w2 b2w).mono ?_;rintro e w3 ⟨rfl,hw3⟩;subst hw3;have HF:Hid (zbd w w.heap.size MM (.returned (.tuple #[.slice none 0 0,.slice none 0 0])) w3):=by rw [HM.out];exact HZ.out w3 b2w
     clear HM HZ;go_wp2;go_ret2;exact HF.out
    |true=>
     have HM:=hid HE.out;have HW':=hid (HW.out q1 rfl hm1 rfl);clear HE q1 HW HZ;go_enter func15,ntmps15;go_wp2_with fail;refine HD.out.mono ?_;rintro e w1 ⟨rfl,b1⟩;go_wp2_with fail;refine (HI.out w1).mono ?_;rintro e w2 ⟨rfl,b2⟩;have b2w:=b1.trans (b2.mono b1.size);go_wp2_with fail;refine (HA.out w2 b2w).mono ?_;rintro e w3 ⟨rfl,hw3⟩;subst hw3;go_wp2_with fail;refine (HL.out w3 b2w).mono ?_;rintro e w4 ⟨v',L',rfl,hm',hd',b4⟩;have HW2:=hid (HW'.out w3 w4 v' L' b2w hm' hd' b4);clear hm' hd' HW' HL HA HI HD;go_wp2_with fail;refine HW2.out.mono ?_;rintro e w9 ⟨v2,r2,L2,rfl,y1,y2,y3,y4⟩;have HF:Hid (zbd w w.heap.size MM (.returned (.tuple #[v2,r2])) w9):=by rw [HM.out];exact ⟨v2,r2,L2,rfl,y1,y2,y3,y4⟩
     clear y1 y2 y3 y4 HW2 HM;go_wp2;go_ret2;exact HF.out
   ·have hg:decide ((m:Int)<1)=true:=Qe (by omega);have hg':decide (m<1)=true:=Qe (by omega);have hg0:m=0:=by omega
    subst hg0;have HM:=hid HE.out;clear HE q1;go_enter func15,ntmps15;go_wp2_with fail;refine HD.out.mono ?_;rintro e w1 ⟨rfl,b1⟩;go_wp2_with fail;refine (HI.out w1).mono ?_;rintro e w2 ⟨rfl,b2⟩;have HF:Hid (zbd w w.heap.size MM (.returned (.tuple #[.slice none 0 0,.slice none 0 0])) w2):=by rw [HM.out];exact HZ.out w2 (b1.trans (b2.mono b1.size))
    clear HM HZ;go_wp2;go_ret2;exact HF.out
structure KGd (k:Ke):Prop where
 fit:zo7 k
 np:k.val.pj.length<=500000
 nums:Kk.zi5 k.val.rq
def zhw (ks:List Ke):Prop:=∀k∈ks,KGd k
theorem zhw.k (h:zhw ks):zda ks:=fun k hk=> (h k hk).fit
theorem zhw.stored {k:Ke} (h:zhw ks) (hk:KGd k):zhw (zaq ks k):=fun y hy=>by
 rcases zg9 hy with h1|h1
 ·exact h y h1
 ·rw [h1];exact hk
theorem yfe {k:Ke} (h:zfo k=true):KGd k:=by
 have x:=h;unfold zfo at x;simp only [Qh] at x;have s:=zpz x.2.1;exact ⟨(zi8 h).fit,s.np,s.nums⟩
def zdy (n:Nat) (ks:List Ke):Prop:=zhw ks/\ks.length<=n
theorem zdy.gone (h:zdy n ks) (nm:ByteArray):zdy n (zbl ks nm):=⟨fun y hy=>h.1 y (List.mem_filter.1 hy).1,Qj (Qt _ _) h.2⟩
theorem zrs (h:zan ks=true):zdy 41 ks:=⟨fun k hk=>yfe ((zfu h).2 k hk),by have:=(zfu h).1;omega⟩
theorem zi4 {k:Ke} {R:List Rp} (h:zdy 41 ks):zdy 41 (za1 ks k R).1:=by
 unfold za1;split
 ·exact h.gone _
 ·split
  ·rename_i h2;exact zrs h2
  ·exact h
theorem zt4 {k:Ke} (h:zdy 20 ks) (hk:KGd k):zdy 41 (zaq ks k):=⟨h.1.stored hk,by have:=zje ks k;have:=h.2;omega⟩
theorem zt7:∀(T:List ByteArray) (s:List Ke×Nat),zdy 41 s.1->zdy 41 (T.foldl (zcs true) s).1
 | [],_,h=>h
 |t::T,s,h=>by
  rw [List.foldl_cons];refine zt7 T _ ?_;unfold zcs;split
  ·exact h
  ·exact h.gone t
theorem ybw (h:zdy 41 ks):zdy 41 (zgr c ks T).1:=by
 cases c using Cm.elim
 case DEL=>exact zt7 T (ks,0) h
 case FLUSHALL=>exact ⟨fun k hk=> (by cases hk),Qs _⟩
 all_goals exact h
theorem zza {k:Ke} (h:zdy 41 ks):zdy 41 (zhk c ks k th T).1:=by
 unfold zhk;split<;>repeat (first|exact h|exact zi4 h|split)
theorem zxv {k:Ke} (h:zdy 41 ks):zdy 41 (zet c ks k th T).1:=by
 unfold zet;split<;>repeat (first|exact h|exact zi4 h|split)
theorem zzn {k:Ke} (h:zdy 41 ks):zdy 41 (zhl c ks k T).1:=by
 unfold zhl;split<;>repeat (first|exact h|exact zi4 h|split)
theorem zyu {k:Ke} (h:zdy 41 ks):zdy 41 (zfl c ks k T).1:=by
 unfold zfl;split<;>repeat (first|exact h|exact zi4 h|split)
theorem KGd.withDue {k:Ke} (h:KGd k) (d:Int):KGd (k.withDue d):=⟨⟨h.fit.fit,h.fit.name,h.fit.ia⟩,h.np,h.nums⟩
theorem yc2 {k:Ke} (h0:zdy 20 ks) (hk:KGd k):zdy 41 (anyM c ks k th now T).1:=by
 have h:zdy 41 ks:=⟨h0.1,by have:=h0.2;omega⟩;unfold anyM;split<;>repeat (first|exact h|exact zi4 h|exact zt4 h0 (hk.withDue _)|exact h.gone _|split)
theorem zni {k:Ke} (h0:zdy 20 ks) (hk:KGd k):zdy 41 (zc3 c ks k th now T).1:=by
 have h:zdy 41 ks:=⟨h0.1,by have:=h0.2;omega⟩;unfold zc3;split
 ·exact zza h
 ·exact zxv h
 ·exact zzn h
 ·exact zyu h
 ·exact yc2 h0 hk
theorem zy1:KGd ke0:=⟨⟨⟨by decide,by decide,by decide,by decide⟩,by decide,(fun t ht=>by cases ht)⟩,by decide,(fun t ht=>by cases ht)⟩
theorem zhw.getD (h:zhw ks) (i:Nat):KGd (ks.getD i ke0):=by
 rw [Qa];by_cases hi:i<ks.length
 ·rw [Qd hi];exact h _ (Qv hi)
 ·rw [List.getElem?_eq_none (by omega)];exact zy1
theorem yaw (h0:zdy 20 ks) (hT:∀i,i<T.length->(zaj T i).size<=200):zdy 41 (ze2 ks now T).1:=by
 have h:zdy 41 ks:=⟨h0.1,by have:=h0.2;omega⟩;unfold ze2;split
 ·exact h
 ·split
  ·split
   ·exact ybw h
   ·unfold ztx;split
    ·refine zni h0 ⟨⟨⟨by show 0<=_;omega,by show 0<=_;omega,by show 0<=_;omega,by show 0<=_;omega⟩,?_,(fun t ht=>by cases ht)⟩,by show 0<=_;omega,(fun t ht=>by cases ht)⟩;show (zaj T.tail 0).size<=_;rw [zks];by_cases h1:1<T.length
     ·have:=hT (0+1) h1;omega
     ·unfold zaj;rw [Qa,List.getElem?_eq_none (by omega)];exact Qs _
    ·split
     ·exact h
     ·exact zni h0 (h0.1.getD _)
  ·exact h
theorem zoa (ks:List Ke) (now:Int) (T:List ByteArray):zdy 41 (za2 ks now T).1:=by
 unfold za2;split
 ·rename_i h;unfold zf6 at h;simp only [Qh] at h;obtain ⟨h1,h2,h3,h4⟩:=h;obtain ⟨k1,k2⟩:=zfu h1;exact yaw ⟨fun k hk=>yfe (k2 k (List.mem_filter.1 hk).1),Qj (Qt _ _) k1⟩ (zpq h4).2
 ·exact ⟨fun k hk=> (by cases hk),Qs _⟩
end Go.Proofs.YtokafonppgppdaaGreatDoor
