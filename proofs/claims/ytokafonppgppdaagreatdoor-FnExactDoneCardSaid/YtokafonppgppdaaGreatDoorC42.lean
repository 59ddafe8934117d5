import Derived.Test.YtokafonppgppdaaGreatDoorC25
import Derived.Test.YtokafonppgppdaaGreatDoorC36
set_option maxHeartbeats 4000000
set_option maxRecDepth 100000
namespace Go.Proofs.YtokafonppgppdaaGreatDoor
section
open Tryz
open Go.RowKit Go.Sort
variable {w:World} {aa:Option Addr} {ab ao m n:Nat} {T:List ByteArray} {c:Cm} {ks:List Ke} {th:Bool} {now:Int}
structure T6 (w:World) (B B':Nat) (v:Value) (L:List KV) (x:KV) (there:Bool) (aa:Option Addr) (ab ao m:Nat) (T:List ByteArray):Prop where
 db:Fv w B v L
 fit:Lg (L.map KV.key)
 few:L.length<=500000
 key:VOwn w B' x.key.val x.vi x.vp x.vr
 small:Hu x.key
 args:Fs w aa ab ao m T
 m20:m<=20
 short:∀i,i<m->(Fa T i).size<=200
 low:B<=w.heap.size
theorem T6.rd{B B':Nat}{v:Value}{L:List KV}{x:KV}{there:Bool}(h:T6 w B B' v L x there aa ab ao m T):VRd w x.key.val x.vi x.vp x.vr:=
 h.key.rd (fun t ht=>by have:=h.small.ia t ht;omega)
section
variable (c:Cm)
theorem ydk(hc:c.kind=1)(B B':Nat)(v:Value)(L:List KV)(x:KV)(there:Bool)(aa:Option Addr)(ab ao m ac:Nat)(T:List ByteArray)(w:World)(h:T6 w B B' v L x there aa ab ao m T)(hm:c.fits m=true):
  Calls prog 104 #[v,kvV x,.bool there,.string c.text,.slice aa m ac] w (Fh w B (Ol c (L.map KV.key) x.key there T)):=by
 cases c using Cm.elim
 case GET=>
  obtain rfl:m=1:=Qg hm;exact yee B v L x there aa ab ao ac T w h.db h.rd h.small h.args h.short h.low
 case STRLEN=>
  obtain rfl:m=1:=Qg hm;exact zt1 B v L x there aa ab ao ac T w h.db h.rd h.small h.args h.short h.low
 case GETRANGE=>
  obtain rfl:m=3:=Qg hm;exact zo0 B v L x there aa ab ao ac T w h.db h.rd h.small h.args h.short h.low
 case APPEND=>
  obtain rfl:m=2:=Qg hm;exact ztd B v L x there aa ab ao ac T w h.db h.fit h.few h.rd h.small h.args h.short h.low
 case INCRBY=>
  obtain rfl:m=2:=Qg hm;exact zs3 B v L x there aa ab ao ac T w h.db h.fit h.few h.rd h.small h.args h.short h.low
 all_goals cases hc
theorem yb7(hc:c.kind=2)(B B':Nat)(v:Value)(L:List KV)(x:KV)(there:Bool)(aa:Option Addr)(ab ao m ac:Nat)(T:List ByteArray)(w:World)(h:T6 w B B' v L x there aa ab ao m T)(hm:c.fits m=true)(hne:there=true->0<x.key.val.ia.length):
  Calls prog 105 #[v,kvV x,.bool there,.string c.text,.slice aa m ac] w (Fh w B (Od c (L.map KV.key) x.key there T)):=by
 cases c using Cm.elim
 case LLEN=>
  obtain rfl:m=1:=Qg hm;exact zw9 B B' v L x there aa ab ao ac T w h.db h.key h.small h.args h.short h.low
 case LRANGE=>
  obtain rfl:m=3:=Qg hm;exact zp5 B B' v L x there aa ab ao ac T w h.db h.key h.small h.args h.short h.low
 case LPOP=>
  obtain rfl:m=1:=Qg hm;exact zxg B B' v L x there aa ab ao ac T w h.db h.fit h.few h.key h.small hne h.args h.short h.low
 case RPOP=>
  obtain rfl:m=1:=Qg hm;exact zx2 B B' v L x there aa ab ao ac T w h.db h.fit h.few h.key h.small hne h.args h.short h.low
 case LPUSH=>
  exact ztp B B' v L x there aa ab ao m ac T w h.db h.fit h.few h.key h.small h.args (Qg hm) h.m20 h.short h.low
 case RPUSH=>
  exact ztn B B' v L x there aa ab ao m ac T w h.db h.fit h.few h.key h.small h.args (Qg hm) h.m20 h.short h.low
 all_goals cases hc
theorem ydh(hc:c.kind=3)(B B':Nat)(v:Value)(L:List KV)(x:KV)(there:Bool)(aa:Option Addr)(ab ao m ac:Nat)(T:List ByteArray)(w:World)(h:T6 w B B' v L x there aa ab ao m T)(hm:c.fits m=true):
  Calls prog 106 #[v,kvV x,.string c.text,.slice aa m ac] w (Fh w B (Om c (L.map KV.key) x.key T)):=by
 cases c using Cm.elim
 case HLEN=>
  obtain rfl:m=1:=Qg hm;exact zzk B B' v L x aa ab ao ac T w h.db h.key h.small h.args h.short h.low
 case HGET=>
  obtain rfl:m=2:=Qg hm;exact ybz B B' v L x aa ab ao ac T w h.db h.key h.small h.args h.short h.low
 case HGETALL=>
  obtain rfl:m=1:=Qg hm;exact zqr B B' v L x aa ab ao ac T w h.db h.key h.small h.args h.short h.low
 case HDEL=>
  exact zyi B B' v L x aa ab ao m ac T w h.db h.fit h.few h.key h.small h.args (Qg hm) h.m20 h.low
 case HSET=>
  exact yb6 B B' v L x aa ab ao m ac T w h.db h.fit h.few h.key h.small h.args (by have:=(Qg hm:3<=m/\m%2=1);omega) h.m20 h.low
 all_goals cases hc
theorem yeh(hc:c.kind=4)(B B':Nat)(v:Value)(L:List KV)(x:KV)(there:Bool)(aa:Option Addr)(ab ao m ac:Nat)(T:List ByteArray)(w:World)(h:T6 w B B' v L x there aa ab ao m T)(hm:c.fits m=true):
  Calls prog 107 #[v,kvV x,.string c.text,.slice aa m ac] w (Fh w B (M5 c (L.map KV.key) x.key T)):=by
 cases c using Cm.elim
 case ZCARD=>
  obtain rfl:m=1:=Qg hm;exact zxm B B' v L x aa ab ao ac T w h.db h.key h.small h.args h.short h.low
 case ZSCORE=>
  obtain rfl:m=2:=Qg hm;exact zs5 B B' v L x aa ab ao ac T w h.db h.key h.small h.args h.short h.low
 case ZRANK=>
  obtain rfl:m=2:=Qg hm;exact zvw B B' v L x aa ab ao ac T w h.db h.key h.small h.args h.short h.low
 case ZRANGE=>
  obtain rfl:m=3:=Qg hm;exact zsx B B' v L x aa ab ao ac T w h.db h.key h.small h.args h.short h.low
 case ZREM=>
  exact zzh B B' v L x aa ab ao m ac T w h.db h.fit h.few h.key h.small h.args (Qg hm) h.m20 h.low
 case ZADD=>
  exact yb1 B B' v L x aa ab ao m ac T w h.db h.fit h.few h.key h.small h.args (by have:=(Qg hm:3<=m/\m%2=1);omega) h.m20 h.short h.low
 all_goals cases hc
theorem ygh(hc:c.kind=0)(B B':Nat)(v:Value)(L:List KV)(x:KV)(there:Bool)(aa:Option Addr)(ab ao m ac:Nat)(T:List ByteArray)(w:World)(h:T6 w B B' v L x there aa ab ao m T)(hm:c.fits m=true)(hy:c.many=false)(now:Int)(hnow:0<=now/\now<=1000000000):
  Calls prog 108 #[v,kvV x,.bool there,.int .i64 now,.string c.text,.slice aa m ac] w (Fh w B (anyM c (L.map KV.key) x.key there now T)):=by
 cases c using Cm.elim
 case TYPE=>
  obtain rfl:m=1:=Qg hm;exact yej B v L x there now aa ab ao ac T w h.db h.rd h.small hnow h.args h.short h.low
 case TTL=>
  obtain rfl:m=1:=Qg hm;exact yhw B v L x there now aa ab ao ac T w h.db h.rd h.small hnow h.args h.short h.low
 case PERSIST=>
  obtain rfl:m=1:=Qg hm;exact zsn B v L x there now aa ab ao ac T w h.db h.fit h.few h.rd h.small hnow h.args h.short h.low
 case EXPIRE=>
  obtain rfl:m=2:=Qg hm;exact zw3 B v L x there now aa ab ao ac T w h.db h.fit h.few h.rd h.small hnow h.args h.short h.low
 case SETNX=>
  obtain rfl:m=2:=Qg hm;exact ya7 B v L x there now aa ab ao ac T w h.db h.fit h.few h.rd h.small hnow h.args h.short h.low
 case SET=>
  rcases(Qg hm:m=2\/m=4)with rfl|rfl
  ·exact yc6 B v L x there now aa ab ao ac T w h.db h.fit h.few h.rd h.small hnow h.args h.short h.low
  ·exact ycn B v L x there now aa ab ao ac T w h.db h.fit h.few h.rd h.small hnow h.args h.short h.low
 all_goals first|exact absurd hc (by decide)|exact absurd hy (by decide)
end
def Pz:ByteArray:=⟨#[117,110,107,110,111,119,110,32,99,111,109,109,97,110,100]⟩
def Pk:ByteArray:=⟨#[119,114,111,110,103,32,110,117,109,98,101,114,32,111,102,32,97,114,103,117,109,101,110,116,115]⟩
theorem Bi(h:Fs w aa ab ao m T)(h1:1<=m):Fs w (some ⟨ab,ao+1,none⟩) ab (ao+1) (m-1) T.tail:=
 ⟨by rw[List.length_tail,h.len],fun _=>rfl,fun _=>h.low (by omega),fun i hi=>by
  have:=h.cell (i+1) (by omega);rw[show ao+1+i=ao+(i+1) by omega,this];congr 2;cases T with
  |nil=>have:=h.len;simp at this;omega
  |cons t T=>simp,fun i hi=>by
  have:=h.fit (i+1) (by omega);cases T with
  |nil=>have:=h.len;simp at this;omega
  |cons t T=>simpa using this⟩
section
variable (B:Nat) (v:Value) (L:List KV) (now:Int) (aa:Option Addr) (ab ao m ac:Nat) (T:List ByteArray) (w:World)
theorem yb0(h:Fv w B v L)(ha:Fs w aa ab ao m T)(h1:1<=m)(hm:m<=21)(hac:m<=ac)(hT:(Fa T 0).size<=1048576)(hB:B<=w.heap.size)(hc:Nn (H9 (Fa T 0))=none):
  Calls prog 54 #[v,.int .i64 now,.slice aa m ac] w (Fh w B (L.map KV.key,Fl Pz)):=by
 obtain rfl:=ha.addr (by omega);have c0:=ha.cell 0 (by omega);rw[Qy]at c0;change w.cell? _=some (.string (Fa T 0))at c0;have HN:=hid (Bs (Fa T 0) w hT);have Gd:=hid (Bi ha h1);have Ge:(1:Int)<=(m:Int):=by omega
 have Gf:(0:Int)<(m:Int):=by omega
 have Gg:(m:Int)<=(ac:Int):=by omega
 have Ga:Hid (∀W,Cp 97 #[.string (H9 (Fa T 0)),.int .i64 (m-1:Nat)] W fun e w'=>e=.returned (.tuple #[.bool false,.bool false])/\w'=W):=fun W=>ybg _ hc _ W;have Gc:Hid (∀W,Cp 98 #[.string ⟨#[117,110,107,110,111,119,110,32,99,111,109,109,97,110,100]⟩] W (F9 W (Fl Pz))):=fun W=>Ry Pz (by decide) W;have ES:Hid (∀r w1 w2,Bl w w1->Fr w2 w1.heap.size r (Fl Pz)->Bl w1 w2->Fh w B (L.map KV.key,Fl Pz) (.returned (.tuple #[v,r])) w2):=fun r w1 w2 h1 h2 h3=>Fh.same h hB h1 h2 h3;clear h ha Gd hT hc;generalize L.map KV.key=K0,H9 (Fa T 0)=nm at*;generalize Fa T 0=t0 at*;by_cases hac1:1<ac
 ·go_enter func54,ntmps54;go_wp2_with fail;refine HN.out.mono ?_;rintro e w1⟨rfl,b1⟩;clear HN;go_wp2_with fail;refine(Ga.out w1).mono ?_;rintro e w2⟨rfl,Gb⟩;subst Gb;clear Ga;go_wp2_with fail;refine(Gc.out _).mono ?_;rintro e w3⟨r,rfl,hr,hb⟩;have HF:Hid _:=ES.out r w2 w3 b1 hr hb;clear hr hb ES;go_wp2;go_ret2;exact HF.out
 ·obtain rfl:ac=1:=by omega
  obtain rfl:m=1:=by omega
  go_enter func54,ntmps54;go_wp2_with fail;refine HN.out.mono ?_;rintro e w1⟨rfl,b1⟩;clear HN;go_wp2_with fail;refine(Ga.out w1).mono ?_;rintro e w2⟨rfl,Gb⟩;subst Gb;clear Ga;go_wp2_with fail;refine(Gc.out _).mono ?_;rintro e w3⟨r,rfl,hr,hb⟩;have HF:Hid _:=ES.out r w2 w3 b1 hr hb;clear hr hb ES;go_wp2;go_ret2;exact HF.out
theorem zxn(h:Fv w B v L)(ha:Fs w aa ab ao m T)(h1:1<=m)(hm:m<=21)(hac:m<=ac)(hT:(Fa T 0).size<=1048576)(hB:B<=w.heap.size)(c:Cm)(hc:H9 (Fa T 0)=c.text)(hn:c.fits (m-1)=false):
  Calls prog 54 #[v,.int .i64 now,.slice aa m ac] w (Fh w B (L.map KV.key,Fl Pk)):=by
 obtain rfl:=ha.addr (by omega);have c0:=ha.cell 0 (by omega);rw[Qy]at c0;change w.cell? _=some (.string (Fa T 0))at c0;have HN:=hid (Bs (Fa T 0) w hT);have Gd:=hid (Bi ha h1);have Ge:(1:Int)<=(m:Int):=by omega
 have Gf:(0:Int)<(m:Int):=by omega
 have Gg:(m:Int)<=(ac:Int):=by omega
 have Ga:Hid (∀W,Cp 97 #[.string (H9 (Fa T 0)),.int .i64 (m-1:Nat)] W fun e w'=>e=.returned (.tuple #[.bool true,.bool false])/\w'=W):=fun W=>by
  have:=Aj c (m-1) (by omega) W;rw[hn]at this;rw[hc];exact this
 have Gc:Hid (∀W,Cp 98 #[.string ⟨#[119,114,111,110,103,32,110,117,109,98,101,114,32,111,102,32,97,114,103,117,109,101,110,116,115]⟩] W (F9 W (Fl Pk))):=fun W=>Ry Pk (by decide) W;have ES:Hid (∀r w1 w2,Bl w w1->Fr w2 w1.heap.size r (Fl Pk)->Bl w1 w2->Fh w B (L.map KV.key,Fl Pk) (.returned (.tuple #[v,r])) w2):=fun r w1 w2 h1 h2 h3=>Fh.same h hB h1 h2 h3;clear h ha Gd hT hc hn;generalize L.map KV.key=K0,H9 (Fa T 0)=nm at*;generalize Fa T 0=t0 at*;by_cases hac1:1<ac
 ·go_enter func54,ntmps54;go_wp2_with fail;refine HN.out.mono ?_;rintro e w1⟨rfl,b1⟩;clear HN;go_wp2_with fail;refine(Ga.out w1).mono ?_;rintro e w2⟨rfl,Gb⟩;subst Gb;clear Ga;go_wp2_with fail;refine(Gc.out _).mono ?_;rintro e w3⟨r,rfl,hr,hb⟩;have HF:Hid _:=ES.out r w2 w3 b1 hr hb;clear hr hb ES;go_wp2;go_ret2;exact HF.out
 ·obtain rfl:ac=1:=by omega
  obtain rfl:m=1:=by omega
  go_enter func54,ntmps54;go_wp2_with fail;refine HN.out.mono ?_;rintro e w1⟨rfl,b1⟩;clear HN;go_wp2_with fail;refine(Ga.out w1).mono ?_;rintro e w2⟨rfl,Gb⟩;subst Gb;clear Ga;go_wp2_with fail;refine(Gc.out _).mono ?_;rintro e w3⟨r,rfl,hr,hb⟩;have HF:Hid _:=ES.out r w2 w3 b1 hr hb;clear hr hb ES;go_wp2;go_ret2;exact HF.out
theorem zy9(h:Fv w B v L)(hf:Lg (L.map KV.key))(hl:L.length<=500000)(ha:Fs w aa ab ao m T)(h1:1<=m)(hm:m<=21)(hac:m<=ac)(hT:(Fa T 0).size<=1048576)(hB:B<=w.heap.size)(c:Cm)(hc:H9 (Fa T 0)=c.text)(hn:c.fits (m-1)=true)(hy:c.many=true):
  Calls prog 54 #[v,.int .i64 now,.slice aa m ac] w (Fh w B (Oj c (L.map KV.key) T.tail)):=by
 obtain rfl:=ha.addr (by omega);have c0:=ha.cell 0 (by omega);rw[Qy]at c0;change w.cell? _=some (.string (Fa T 0))at c0;have HN:=hid (Bs (Fa T 0) w hT);have Gd:=hid (Bi ha h1);have Gf:(1:Int)<=(m:Int):=by omega
 have Gg:(0:Int)<(m:Int):=by omega
 have Gh:(m:Int)<=(ac:Int):=by omega
 have Ga:Hid (∀W,Cp 97 #[.string c.text,.int .i64 (m-1:Nat)] W fun e w'=>e=.returned (.tuple #[.bool true,.bool true])/\w'=W):=fun W=>by
  have:=Aj c (m-1) (by omega) W;rw[hn]at this;exact this
 have Gb:Hid (∀W ab' ao' ac',Bl w W->Fs w (some ⟨ab',ao',none⟩) ab' ao' (m-1) T.tail->Cp 99 #[v,.string c.text,.slice (some ⟨ab',ao',none⟩) (m-1) ac'] W (Fh w B (Oj c (L.map KV.key) T.tail))):=fun W ab' ao' ac' hb hs=>
  (yeq c hy B v L _ ab' ao' (m-1) ac' T.tail W hn (h.bw hb) hf (by omega) (Lb hs hb) (by omega) (Qj hB hb.size)).mono fun e w' he=>Fh.wide he hb
 have Gc:Hid (m=1->Fs w (some ⟨ab,ao,none⟩) ab ao (m-1) T.tail):=fun e=>⟨by rw[List.length_tail,ha.len],fun _=>rfl,fun h=>by omega,fun i hi=>by omega,fun i hi=>by omega⟩;rw[hc]at HN;clear h ha hT hc hn hf hl;generalize Oj c (L.map KV.key) T.tail=MM,Fa T 0=t0 at*;generalize T.tail=TT at*;cases c using Cm.elim;all_goals try(exact absurd hy (by decide))
 all_goals
  simp only[Cm.text]at HN Ga Gb;by_cases hac1:1<ac
  ·go_enter func54,ntmps54;go_wp2_with fail;refine HN.out.mono ?_;rintro e w1⟨rfl,b1⟩;clear HN;go_wp2_with fail;refine(Ga.out w1).mono ?_;rintro e w2⟨rfl,Ge⟩;subst Ge;clear Ga;go_wp2_with fail;refine(Gb.out _ _ _ _ b1 (Gd.out)).mono ?_;rintro e w3⟨v',r',L',rfl,q1,q2,q3,q4⟩;have HF:Hid (Fh w B MM (.returned (.tuple #[v',r'])) w3):=⟨v',r',L',rfl,q1,q2,q3,q4⟩;clear q1 q2 q3 q4 Gb Gc Gd;go_wp2;go_ret2;exact HF.out
  ·obtain rfl:ac=1:=by omega
   obtain rfl:m=1:=by omega
   go_enter func54,ntmps54;go_wp2_with fail;refine HN.out.mono ?_;rintro e w1⟨rfl,b1⟩;clear HN;go_wp2_with fail;refine(Ga.out w1).mono ?_;rintro e w2⟨rfl,Ge⟩;subst Ge;clear Ga;go_wp2_with fail;refine(Gb.out _ _ _ _ b1 (Gc.out (by simp))).mono ?_;rintro e w3⟨v',r',L',rfl,q1,q2,q3,q4⟩;have HF:Hid (Fh w B MM (.returned (.tuple #[v',r'])) w3):=⟨v',r',L',rfl,q1,q2,q3,q4⟩;clear q1 q2 q3 q4 Gb Gc Gd;go_wp2;go_ret2;exact HF.out
end
open Kk (Le)
theorem We{k:Ke}(h:Hh k=true):Hu k:=by
 unfold Hh Lp at h;simp only[Qh,decide_eq_true_eq]at h;obtain⟨h1,h2,h3,h4⟩:=h;have s:=Bo h2;exact⟨h1,s.text,s.ni,s.np,s.nr,s.ia,s.pj,s.rq,⟨by have:=s.kind;omega,s.kind.2⟩,⟨h3,h4⟩⟩
theorem yeo{k:Ke}(h:Hh k=true)(hk:k.val.kind=2):0<k.val.ia.length:=by
 unfold Hh Ls at h;rw[if_neg (by omega),if_pos hk]at h;unfold Na countB at h;simp only[Qh,decide_eq_true_eq]at h;omega
theorem Ba:∀(ks:List Ke)(nm:ByteArray)(s:Nat),Lm ks nm s= -1\/∃i,i<ks.length/\Lm ks nm s=((s+i:Nat):Int)
 |[],_,_=> .inl rfl
 |k::ks,nm,s=>by
  unfold Lm;by_cases h:k.name=nm
  ·rw[if_pos h];exact .inr ⟨0,by simp,by simp⟩
  ·rw[if_neg h];rcases Ba ks nm (s+1)with e|⟨i,hi,e⟩
   ·exact .inl e
   ·exact .inr ⟨i+1,by simpa using hi,by rw[e];congr 1;omega⟩
theorem Cu(T:List ByteArray)(i:Nat):Fa T.tail i=Fa T (i+1):=by cases T<;>simp[Fa]
theorem yb9(c:Cm):Nn c.text=some c:=by cases c using Cm.elim<;>decide
theorem zu8(c:Cm)(h:c.many=false):J2 c.text:=by
 have t:∀d:Cm,d.many=true->(c.text.toList==d.text.data.toList)=false:=fun d hd=>by
  have:=Le (a:=c.text) (b:=d.text) (fun e=>by
   have h1:=yb9 c;rw[e,yb9 d]at h1;cases h1;rw[hd]at h;cases h)
  rwa[ByteArray.toList_eq d.text]at this
 exact⟨t .PING rfl,t .ECHO rfl,t .FLUSHALL rfl,t .DBSIZE rfl,t .KEYS rfl,t .DEL rfl,t .EXISTS rfl⟩
theorem Ad(h:c.many=false)(hf:c.fits n=true):1<=n:=by
 cases c using Cm.elim<;>first|(cases h;done)|(simp[Cm.fits]at hf;omega)
theorem Es(c:Cm):(c.kind:Int)=0\/(c.kind:Int)=1\/(c.kind:Int)=2\/(c.kind:Int)=3\/(c.kind:Int)=4:=by cases c using Cm.elim<;>decide
def Mr (nm:ByteArray) (kd:Int):Ke:=⟨nm,⟨kd,⟨#[]⟩,[],[],[]⟩,0⟩
def Mh (c:Cm) (ks:List Ke) (k:Ke) (there:Bool) (now:Int) (T:List ByteArray):List Ke×List Rp:=match c.kind with
 |1=>Ol c ks k there T
 |2=>Od c ks k there T
 |3=>Om c ks k T
 |4=>M5 c ks k T
 |_=>anyM c ks k there now T
def Np (c:Cm) (ks:List Ke) (now:Int) (T:List ByteArray):List Ke×List Rp:=
 if Lm ks (Fa T 0) 0<0 then Mh c ks (Mr (Fa T 0) c.kind) false now T
 else if (c.kind:Int)≠0/\(ks.getD (Lm ks (Fa T 0) 0).toNat ke0).val.kind≠c.kind then (ks,R6)
 else Mh c ks (ks.getD (Lm ks (Fa T 0) 0).toNat ke0) true now T
def Lc (ks:List Ke) (now:Int) (T:List ByteArray):List Ke×List Rp:=match Nn (H9 (Fa T 0)) with
 |none=> (ks,Fl Pz)
 |some c=>if c.fits (T.length-1)=true then (if c.many=true then Oj c ks T.tail else Np c ks now T.tail) else (ks,Fl Pk)
theorem ydv(w:World)(B:Nat)(kd:Int):VOwn w B ⟨kd,⟨#[]⟩,[],[],[]⟩ (.slice none 0 0) (.slice none 0 0) (.slice none 0 0):=⟨World.ownsRow_nil _ _ _ _,World.ownsRow_nil _ _ _ _,World.ownsRow_nil _ _ _ _⟩
theorem zuf(c:Cm)(hy:c.many=false)(B B':Nat)(v:Value)(L:List KV)(x:KV)(there:Bool)(now:Int)(ab ao n:Nat)(T:List ByteArray)(w W:World)(h:T6 W B B' v L x there (some ⟨ab,ao+1,none⟩) ab (ao+1) n T)(hb:Bl w W)(hn:c.fits n=true)(hnow:0<=now/\now<=1000000000)(hne:c.kind=2->there=true->0<x.key.val.ia.length):
  Cb c.kind now w B (Mh c (L.map KV.key) x.key there now T) v c.text there ab ao n #[.string x.key.name,.int .i64 x.key.val.kind,.string x.key.val.text,x.vi,x.vp,x.vr,.int .i64 x.key.due] W:=by
 intro ac';refine⟨fun e=>?_,fun e=>?_,fun e=>?_,fun e=>?_,fun e=>?_⟩
 ·have e:c.kind=1:=by omega
  have:Mh c (L.map KV.key) x.key there now T=Ol c (L.map KV.key) x.key there T:=by unfold Mh;rw[e];rfl
  rw[this];exact(ydk c e B B' v L x there _ ab _ n ac' T W h hn).mono fun e w' he=>Fh.wide he hb
 ·have e:c.kind=2:=by omega
  have:Mh c (L.map KV.key) x.key there now T=Od c (L.map KV.key) x.key there T:=by unfold Mh;rw[e];rfl
  rw[this];exact(yb7 c e B B' v L x there _ ab _ n ac' T W h hn (hne e)).mono fun e w' he=>Fh.wide he hb
 ·have e:c.kind=3:=by omega
  have:Mh c (L.map KV.key) x.key there now T=Om c (L.map KV.key) x.key T:=by unfold Mh;rw[e];rfl
  rw[this];exact(ydh c e B B' v L x there _ ab _ n ac' T W h hn).mono fun e w' he=>Fh.wide he hb
 ·have e:c.kind=4:=by omega
  have:Mh c (L.map KV.key) x.key there now T=M5 c (L.map KV.key) x.key T:=by unfold Mh;rw[e];rfl
  rw[this];exact(yeh c e B B' v L x there _ ab _ n ac' T W h hn).mono fun e w' he=>Fh.wide he hb
 ·have e:c.kind=0:=by omega
  have:Mh c (L.map KV.key) x.key there now T=anyM c (L.map KV.key) x.key there now T:=by unfold Mh;rw[e];rfl
  rw[this];exact(ygh c e B B' v L x there _ ab _ n ac' T W h hn hy now hnow).mono fun e w' he=>Fh.wide he hb
section
variable (B:Nat) (v:Value) (L:List KV) (now:Int) (aa:Option Addr) (ab ao m ac:Nat) (T:List ByteArray) (w:World)
theorem yd0(h:Fv w B v L)(hk:∀k∈L.map KV.key,Hh k=true)(hl:L.length<=20)(ha:Fs w aa ab ao m T)(h1:1<=m)(hm:m<=20)(hac:m<=ac)(hT:∀i,i<m->(Fa T i).size<=200)(hnow:0<=now/\now<=1000000000)(hB:B<=w.heap.size)(c:Cm)(hc:H9 (Fa T 0)=c.text)(hn:c.fits (m-1)=true)(hy:c.many=false):
  Calls prog 54 #[v,.int .i64 now,.slice aa m ac] w (Fh w B (Np c (L.map KV.key) now T.tail)):=by
 have hp:=Ad hy hn;have hf:Lg (L.map KV.key):=fun k hk1=>(We (hk k hk1)).fit;obtain⟨a,A,c',ev,Ga,Gh⟩:=h.din hf.fits;obtain rfl:=ha.addr (by omega);have c0:=ha.cell 0 (by omega);rw[Qy]at c0;change w.cell? _=some (.string (Fa T 0))at c0;have c1:=ha.cell 1 (by omega);change w.cell? _=some (.string (Fa T 1))at c1;have t1:=Cu T 0;have HN:Calls prog 96 #[.string (Fa T 0)] w fun e w'=>e=.returned (.string c.text)/\Bl w w':=by
  have:=Bs (Fa T 0) w (by have:=hT 0 (by omega);omega);rwa[hc]at this
 have Gf:∀W,Calls prog 97 #[.string c.text,.int .i64 (m-1:Nat)] W fun e w'=>e=.returned (.tuple #[.bool true,.bool true])/\w'=W:=fun W=>by
  have:=Aj c (m-1) (by omega) W;rw[hn]at this;exact this
 have HK:∀W,Calls prog 100 #[.string c.text] W fun e w'=>e=.returned (.int .i64 (c.kind:Int))/\w'=W:=fun W=>zzy c W;have HF:∀W,Bl w W->Calls prog 101 #[v,.string (Fa T 1)] W fun e w'=>e=.returned (.int .i64 (Lm (L.map KV.key) (Fa T 1) 0))/\w'=W:=fun W hb=>by
  rw[ev];exact Af a A L.length c' L (Fa T 1) W (Ga.ks.bw hb) (by omega)
 have Ge:∀W x there,Bl w W->(∃B',VOwn W B' x.key.val x.vi x.vp x.vr)->Hu x.key->∃B',T6 W B B' v L x there (some ⟨ab,ao+1,none⟩) ab (ao+1) (m-1) T.tail:=fun W x there hb hv hs=>by
  obtain⟨B',hv⟩:=hv;exact⟨B',h.bw hb,hf,by omega,hv,hs,Lb (Bi ha h1) hb,by omega,fun i hi=>by rw[Cu];exact hT (i+1) (by omega),Qj hB hb.size⟩
 have Gg:=ha.low (by omega);rcases Ba (L.map KV.key) (Fa T 1) 0 with e|⟨i,hi,e⟩
 ·have eM:Np c (L.map KV.key) now T.tail=Mh c (L.map KV.key) (Mr (Fa T 1) c.kind) false now T.tail:=by
   unfold Np;rw[t1,e,if_pos (by omega)]
  rw[eM];rw[e]at HF;refine ycw B v now ab ao m ac (Fa T 0) (Fa T 1) c.text w _ c.kind c0 c1 Gg (by omega) (by omega) hac (zu8 c hy) HN Gf HK (Es c) HF (fun W hb=>?_);have hs:Hu (Mr (Fa T 1) c.kind):=⟨hT 1 (by omega),by simp[Mr];exact Qs _,by simp[Mr],by simp[Mr],by simp[Mr],by simp[Mr],by simp[Mr],by simp[Mr],by have:=Es c;simp only[Mr];omega,by simp[Mr]⟩;obtain⟨B',hi⟩:=Ge W ⟨Mr (Fa T 1) c.kind,.slice none 0 0,.slice none 0 0,.slice none 0 0⟩ false hb ⟨0,ydv W 0 _⟩ hs;exact zuf c hy B B' v L _ false now ab ao (m-1) T.tail w W hi hb hn hnow (fun _ h=>by cases h)
 ·rw[Qp]at hi;rw[Qq]at e;have ek:=Wg L i;have eM:Np c (L.map KV.key) now T.tail=if(c.kind:Int)≠0/\(L.getD i kv0).key.val.kind≠c.kind then(L.map KV.key,R6) else Mh c (L.map KV.key) (L.getD i kv0).key true now T.tail:=by
   unfold Np;rw[t1,e,if_neg (by omega),Int.toNat_natCast,ek]
  have hx:=hk _ (List.mem_map.2 ⟨L.getD i kv0,by rw[Qa,Qd hi];exact Qv hi,rfl⟩);rw[e]at HF;have ea:=Ga.ks.addr (by omega);have Gb:=Ga.ks.cell i hi;have Gd:=Ga.val i hi;have z1:=Ga.z1 i hi;have z2:=Ga.z2 i hi;have z3:=Ga.z3 i hi;have Gc:=Ga.ks.low (by omega);generalize L.getD i kv0=x0 at*;refine yd6 B v now ab ao m ac (Fa T 0) (Fa T 1) c.text w _ c.kind c0 c1 Gg (by omega) (by omega) hac (zu8 c hy) HN Gf HK i L.length A c' x0 Gb Gc hi (by rw[ev,ea]) HF (fun W hb=>Bd _ W (Gd.bw hb) z1 z2 z3) (Es c) (fun hkk W G p1 n1 d1 p2 n2 d2 p3 n3 d3 hb hv e1 e2 e3=>?_) (fun hkk W r w' hb hr hb2=>?_)
  ·rw[eM,if_neg (by omega)];obtain⟨B',hi⟩:=Ge W ⟨x0.key,.slice p1 n1 d1,.slice p2 n2 d2,.slice p3 n3 d3⟩ true hb ⟨G,hv⟩ (We hx);exact zuf c hy B B' v L ⟨x0.key,.slice p1 n1 d1,.slice p2 n2 d2,.slice p3 n3 d3⟩ true now ab ao (m-1) T.tail w W hi hb hn hnow (fun h2 _=>yeo hx (by rcases hkk with h|h<;>rw[h2]at h;cases h;exact h))
  ·rw[eM,if_pos hkk];exact Fh.same h hB hb hr hb2
theorem zvy(h:Fv w B v L)(hk:∀k∈L.map KV.key,Hh k=true)(hl:L.length<=20)(ha:Fs w aa ab ao m T)(h1:1<=m)(hm:m<=20)(hac:m<=ac)(hT:∀i,i<m->(Fa T i).size<=200)(hnow:0<=now/\now<=1000000000)(hB:B<=w.heap.size):
  Calls prog 54 #[v,.int .i64 now,.slice aa m ac] w (Fh w B (Lc (L.map KV.key) now T)):=by
 have hf:Lg (L.map KV.key):=fun k hk1=>(We (hk k hk1)).fit;have h0:(Fa T 0).size<=1048576:=by have:=hT 0 (by omega);omega
 cases hc:Nn (H9 (Fa T 0))with
 |none=>
  have:Lc (L.map KV.key) now T=(L.map KV.key,Fl Pz):=by unfold Lc;rw[hc]
  rw[this];exact yb0 B v L now aa ab ao m ac T w h ha h1 (by omega) hac h0 hB hc
 |some c=>
  have he:Lc (L.map KV.key) now T=if c.fits (m-1)=true then(if c.many=true then Oj c (L.map KV.key) T.tail else Np c (L.map KV.key) now T.tail) else(L.map KV.key,Fl Pk):=by unfold Lc;rw[hc,ha.len]
  have Ga:=(yf9 hc).symm;cases hn:c.fits (m-1)with
  |false=>
   rw[he,hn,if_neg (by simp)];exact zxn B v L now aa ab ao m ac T w h ha h1 (by omega) hac h0 hB c Ga hn
  |true=>
   rw[he,hn,if_pos rfl];cases hy:c.many with
   |true=>
    rw[if_pos rfl];exact zy9 B v L now aa ab ao m ac T w h hf (by omega) ha h1 (by omega) hac h0 hB c Ga hn hy
   |false=>
    rw[if_neg (by simp)];exact yd0 B v L now aa ab ao m ac T w h hk hl ha h1 hm hac hT hnow hB c Ga hn hy
end
theorem T8(h:Fm ks=true):ks.length<=20/\∀k∈ks,Hh k=true:=by
 unfold Fm at h;rw[Qh,Qh,Qw]at h;refine⟨Qg h.1,fun k hk=>?_⟩;obtain⟨i,hi,e⟩:=List.getElem_of_mem hk;have:=(Qw.1 h.2.2) i (List.mem_range.2 hi);rwa[Qa,Qd hi,Option.getD_some,e]at this
theorem E6(h:Oe T=true):T.length<=16/\∀i,i<T.length->(Fa T i).size<=200:=by
 unfold Oe at h;rw[Qh,Qw]at h;exact⟨Qg h.2,fun i hi=>Qg (h.1 i (List.mem_range.2 hi))⟩
def Tt (ks:List Ke) (now:Int) (T:List ByteArray):Bool:=Fm ks&&(Lp now&&(decide (1<=T.length)&&Oe T))
def Nj (ks:List Ke) (now:Int) (T:List ByteArray):List Ke×List Rp:=if Tt ks now T=true then Lc (Hb ks now) now T else ([],[])
theorem ydg(w w':World)(hb:Bl w w'):Fh w w.heap.size ([],[]) (.returned (.tuple #[.slice none 0 0,.slice none 0 0])) w':=
 ⟨_,_,[],rfl,rfl,zrg _ _ hb.size,⟨[],rfl,World.ownsRow_nil _ _ _ _,fun x hx=>by cases hx⟩,hb⟩
theorem zj3(a:Option Addr)(A c:Nat)(L:List KV)(now:Int)(aa:Option Addr)(ab ao m ac:Nat)(T:List ByteArray)(w:World)(Gi:Th w a A L.length L)(Gf:Oc w a A L.length L)(hf:Lg (L.map KV.key))(hl:L.length<=1048576)(ha:Fs w aa ab ao m T)(hm:m<=1048576)(hac:m<=ac):
  Calls prog 15 #[.slice a L.length c,.int .i64 now,.slice aa m ac] w (Fh w w.heap.size (Nj (L.map KV.key) now T)):=by
 have HD:=hid (zin a A L.length c L w Gf hf.fits (by omega));have HI:Hid (∀W,Cp 52 #[.int .i64 now,.int .i64 0,.int .i64 1000000000] W fun e w'=>e=.returned (.bool (Lp now))/\Bl W w'):=fun W=>zqa now W;have HA:Hid (∀W,Bl w W->Cp 53 #[.slice aa m ac] W fun e w'=>e=.returned (.bool (Oe T))/\w'=W):=fun W hb=>zv1 aa ab ao m ac T W (Lb ha hb) (by omega);have HE:Hid (Nj (L.map KV.key) now T=if(Fm (L.map KV.key)&&(Lp now&&(decide (1<=m)&&Oe T)))=true then Lc (Hb (L.map KV.key) now) now T else([],[])):=by
  unfold Hid Nj Tt;rw[ha.len]
 have HL:Hid (∀W,Bl w W->Cp 55 #[.slice a L.length c,.int .i64 now] W (N0 W (Hb (L.map KV.key) now))):=fun W hb=>E9 a A L.length c L now W (Gi.bw hb) (by omega);have HW:Hid (Fm (L.map KV.key)=true->Lp now=true->1<=m->Oe T=true->∀W W' v' L',Bl w W->L'.map KV.key=Hb (L.map KV.key) now->Fv W' W.heap.size v' L'->Bl W W'->Cp 54 #[v',.int .i64 now,.slice aa m ac] W' (Fh w w.heap.size (Lc (Hb (L.map KV.key) now) now T))):=fun q1 q2 q3 q4 W W' v' L' hb Ga hd hb2=>by
  obtain⟨k1,k2⟩:=T8 q1;obtain⟨u1,u2⟩:=E6 q4;rw[ha.len]at u1 u2;unfold Lp at q2;rw[Qh]at q2;have Gk:=hb.trans (hb2.mono hb.size);have Gd:L'.length<=20:=by
   have e1:L'.length=(L'.map KV.key).length:=by rw[Qp]
   have e2:=Qt (Hs now) (L.map KV.key);rw[e1,Ga];unfold Hb;omega
  have:=zvy W.heap.size v' L' now aa ab ao m ac T W' hd (fun k hk=>by rw[Ga]at hk;exact k2 k (List.mem_filter.1 hk).1) Gd (Lb ha Gk) q3 (by omega) hac u2 ⟨Qg q2.1,Qg q2.2⟩ hb2.size;rw[Ga]at this;refine this.mono fun e w' he=>?_;obtain⟨v2,r2,L2,rfl,g1,g2,g3,g4⟩:=Fh.wide he Gk;exact⟨v2,r2,L2,rfl,g1,Fv.le g2 hb.size,g3,g4⟩
 have HZ:Hid (∀w',Bl w w'->Fh w w.heap.size ([],[]) (.returned (.tuple #[.slice none 0 0,.slice none 0 0])) w'):=fun w' hb=>ydg w w' hb;obtain⟨MM,Gg⟩:∃MM,Nj (L.map KV.key) now T=MM:=⟨_,rfl⟩;rw[Gg]at HE ⊢;clear hf hl ha Gi Gf Gg;generalize L.length=n,Lc (Hb (L.map KV.key) now) now T=DM at*;generalize Hb (L.map KV.key) now=AL,Oe T=q4,Lp now=q2 at*;cases q1:Fm (L.map KV.key)with
 |false=>
  rw[q1]at HD HE;have HM:=hid HE.out;clear HE q1;go_enter func15,ntmps15;go_wp2_with fail;refine HD.out.mono ?_;rintro e w1⟨rfl,b1⟩;have HF:Hid (Fh w w.heap.size MM (.returned (.tuple #[.slice none 0 0,.slice none 0 0])) w1):=by rw[HM.out];exact HZ.out w1 b1
  clear HM HZ;go_wp2;go_ret2;exact HF.out
 |true=>
  rw[q1]at HD HE;cases q2 with
  |false=>
   have HM:=hid HE.out;clear HE q1;go_enter func15,ntmps15;go_wp2_with fail;refine HD.out.mono ?_;rintro e w1⟨rfl,b1⟩;go_wp2_with fail;refine(HI.out w1).mono ?_;rintro e w2⟨rfl,b2⟩;have HF:Hid (Fh w w.heap.size MM (.returned (.tuple #[.slice none 0 0,.slice none 0 0])) w2):=by rw[HM.out];exact HZ.out w2 (b1.trans (b2.mono b1.size))
   clear HM HZ;go_wp2;go_ret2;exact HF.out
  |true=>
   by_cases hm1:1<=m
   ·have hg:decide ((m:Int)<1)=false:=Qf (by omega);have Gm:decide (m<1)=false:=Qf (by omega);have Ge:(m==0)=false:=by simp;omega
    rw[Qe hm1]at HE;cases q4 with
    |false=>
     have HM:=hid HE.out;clear HE q1;go_enter func15,ntmps15;go_wp2_with fail;refine HD.out.mono ?_;rintro e w1⟨rfl,b1⟩;go_wp2_with fail;refine(HI.out w1).mono ?_;rintro e w2⟨rfl,b2⟩;have Gb:=b1.trans (b2.mono b1.size);go_wp2_with fail;refine(HA.out w2 Gb).mono ?_;rintro e w3⟨rfl,Gc⟩;subst Gc;have HF:Hid (Fh w w.heap.size MM (.returned (.tuple #[.slice none 0 0,.slice none 0 0])) w3):=by rw[HM.out];exact HZ.out w3 Gb
     clear HM HZ;go_wp2;go_ret2;exact HF.out
    |true=>
     have HM:=hid HE.out;have Gl:=hid (HW.out q1 rfl hm1 rfl);clear HE q1 HW HZ;go_enter func15,ntmps15;go_wp2_with fail;refine HD.out.mono ?_;rintro e w1⟨rfl,b1⟩;go_wp2_with fail;refine(HI.out w1).mono ?_;rintro e w2⟨rfl,b2⟩;have Gb:=b1.trans (b2.mono b1.size);go_wp2_with fail;refine(HA.out w2 Gb).mono ?_;rintro e w3⟨rfl,Gc⟩;subst Gc;go_wp2_with fail;refine(HL.out w3 Gb).mono ?_;rintro e w4⟨v',L',rfl,Ga,Gh,b4⟩;have Gj:=hid (Gl.out w3 w4 v' L' Gb Ga Gh b4);clear Ga Gh Gl HL HA HI HD;go_wp2_with fail;refine Gj.out.mono ?_;rintro e w9⟨v2,r2,L2,rfl,y1,y2,y3,y4⟩;have HF:Hid (Fh w w.heap.size MM (.returned (.tuple #[v2,r2])) w9):=by rw[HM.out];exact⟨v2,r2,L2,rfl,y1,y2,y3,y4⟩
     clear y1 y2 y3 y4 Gj HM;go_wp2;go_ret2;exact HF.out
   ·have hg:decide ((m:Int)<1)=true:=Qe (by omega);have Gm:decide (m<1)=true:=Qe (by omega);have Ge:m=0:=by omega
    subst Ge;have HM:=hid HE.out;clear HE q1;go_enter func15,ntmps15;go_wp2_with fail;refine HD.out.mono ?_;rintro e w1⟨rfl,b1⟩;go_wp2_with fail;refine(HI.out w1).mono ?_;rintro e w2⟨rfl,b2⟩;have HF:Hid (Fh w w.heap.size MM (.returned (.tuple #[.slice none 0 0,.slice none 0 0])) w2):=by rw[HM.out];exact HZ.out w2 (b1.trans (b2.mono b1.size))
    clear HM HZ;go_wp2;go_ret2;exact HF.out
end
namespace Er
open Go.RowKit
variable {ks:List Ke} {k:Ke} {R:List Rp} {c:Cm} {T:List ByteArray} {th:Bool} {now:Int} {w:World} {B:Nat} {v:Value}
def Lw (ks:List Ke):Prop:=ks.length<=20/\∀k∈ks,Hh k=true
theorem zu3(k:Ke):∀(ks:List Ke) (s:List Ke×Bool),(ks.foldl (Lo k) s).1.length+(bif (ks.foldl (Lo k) s).2 then 0 else 1)=s.1.length+(G5 ks k.name).length+(bif s.2 then 0 else 1)
 |[],s=>rfl
 |x::ks,(o,b)=>by
  rw[List.foldl_cons,zu3 k ks];unfold Lo G5;by_cases h:x.name=k.name
  ·rw[if_pos h,List.filter_cons_of_neg (by simp[h])];cases b<;>cases hg:geB x k<;>simp;omega
  ·rw[if_neg h,List.filter_cons_of_pos (by simp[h])];cases b<;>cases hg:geB x k<;>simp<;>omega
theorem zq4(ks:List Ke)(k:Ke):(G0 ks k).length=(G5 ks k.name).length+1:=by
 have h:=zu3 k ks ([],false);unfold G0 stS;cases hb:(ks.foldl (Lo k) ([],false)).2 with
 |true=>
  rw[hb]at h;rw[if_pos rfl];simpa using h
 |false=>
  rw[hb]at h;rw[if_neg (by simp),Qi];simpa using h
theorem zz9(h:k∈ks):(G5 ks k.name).length+1<=ks.length:=by
 unfold G5;induction ks with
 |nil=>cases h
 |cons x ks ih=>
  by_cases hx:x.name=k.name
  ·rw[List.filter_cons_of_neg (by simp[hx])];have:=Qt (fun k':Ke=>!decide (k'.name=k.name)) ks;simp only[Q1];omega
  ·rw[List.filter_cons_of_pos (by simp[hx])];rcases List.mem_cons.1 h with e|e
   ·exact absurd (by rw[e]) hx
   ·have:=ih e;simp only[Q1];omega
theorem Lw.gone(h:Lw ks)(nm:ByteArray):Lw (G5 ks nm):=⟨Qj (Qt _ _) h.1,fun k hk=>h.2 k (List.mem_filter.1 hk).1⟩
theorem Be(h:Lw ks):Lw (Fj ks k R).1:=by
 unfold Fj;split
 ·exact h.gone _
 ·split
  ·rename_i h2;exact T8 h2
  ·exact h
theorem An{d:Int}(h:Lw ks)(hk:k∈ks)(h0:0<=d)(h1:d<=1000000000):Lw (G0 ks (k.withDue d)):=by
 refine⟨?_,fun y hy=>?_⟩
 ·rw[zq4];have:=zz9 hk;have:=h.1;show(G5 ks k.name).length+1<=20;omega
 ·rcases Df hy with q|q
  ·exact h.2 y q
  ·subst q;have:=h.2 k hk;unfold Hh Lp at this ⊢;simp only[Qh,decide_eq_true_eq]at this ⊢;exact⟨this.1,this.2.1,h0,h1⟩
theorem zuo:∀(T:List ByteArray) (s:List Ke×Nat),Lw s.1->Lw (T.foldl (Ni true) s).1
 | [],_,h=>h
 |t::T,s,h=>by
  rw[List.foldl_cons];refine zuo T _ ?_;unfold Ni;split
  ·exact h
  ·exact h.gone t
theorem ybm(h:Lw ks):Lw (Oj c ks T).1:=by
 cases c using Cm.elim
 case DEL=>exact zuo T (ks,0) h
 case FLUSHALL=>exact⟨Qs _,fun k hk=>(by cases hk)⟩
 all_goals exact h
theorem yal(h:Lw ks):Lw (Ol c ks k th T).1:=by
 unfold Ol;split<;>repeat(first|exact h|exact Be h|split)
theorem zxi(h:Lw ks):Lw (Od c ks k th T).1:=by
 unfold Od;split<;>repeat(first|exact h|exact Be h|split)
theorem zyt(h:Lw ks):Lw (Om c ks k T).1:=by
 unfold Om;split<;>repeat(first|exact h|exact Be h|split)
theorem ybh(h:Lw ks):Lw (M5 c ks k T).1:=by
 unfold M5;split<;>repeat(first|exact h|exact Be h|split)
theorem yc0(h:Lw ks)(h1:k.due≠0->k∈ks)(h2:th=true->k∈ks)(hn:0<=now/\now<=1000000000):Lw (anyM c ks k th now T).1:=by
 unfold anyM;split<;>repeat(first|exact h|exact Be h|exact An h (h1 (by assumption)) (by omega) (by omega)|exact An h (h2 (by assumption)) (by omega) (by omega)|exact h.gone _|split)
theorem zm6(h:Lw ks)(h1:k.due≠0->k∈ks)(h2:th=true->k∈ks)(hn:0<=now/\now<=1000000000):Lw (Mh c ks k th now T).1:=by
 unfold Mh;split
 ·exact yal h
 ·exact zxi h
 ·exact zyt h
 ·exact ybh h
 ·exact yc0 h h1 h2 hn
theorem zy7(h:Lw ks)(hn:0<=now/\now<=1000000000):Lw (Lc ks now T).1:=by
 unfold Lc;split
 ·exact h
 ·split
  ·split
   ·exact ybm h
   ·unfold Np;split
    ·exact zm6 h (fun e=>absurd rfl e) (fun e=>by cases e) hn
    ·rename_i hf;split
     ·exact h
     ·have hm:ks.getD (Lm ks (Fa T.tail 0) 0).toNat ke0∈ks:=by
       rcases Ba ks (Fa T.tail 0) 0 with e|⟨i,hi,e⟩
       ·exact absurd (by rw[e];decide) hf
       ·rw[e,Int.toNat_natCast,Qq,Qa,Qd hi];exact Qv hi
      exact zm6 h (fun _=>hm) (fun _=>hm) hn
  ·exact h
theorem zn0(h:Lw ks):Lw (Hb ks now):=⟨Qj (Qt _ _) h.1,fun k hk=>h.2 k (List.mem_filter.1 hk).1⟩
theorem ygw{t:ByteArray}(c:Cm)(h:t.size<=200):Hu (Mr t c.kind):=⟨h,by simp[Mr];exact Qs _,by simp[Mr],by simp[Mr],by simp[Mr],by simp[Mr],by simp[Mr],by simp[Mr],by have:=Es c;simp only[Mr];omega,by simp[Mr]⟩
end Er
end Go.Proofs.YtokafonppgppdaaGreatDoor
