import Derived.Test.YtokafonppgppdaaGreatDoorC6
set_option maxHeartbeats 8000000
set_option maxRecDepth 100000
namespace Go.Proofs.YtokafonppgppdaaGreatDoor
open Tryz
open Go.RowKit Go.Sort
open Kk (Le str_eq)
variable {s:ByteArray} {w:World} {B B':Nat} {v:Value} {L:List KV} {ks:List Ke} {k:Ke}
abbrev Cm:=Fin 35
abbrev Cm.PING:Cm:=0
abbrev Cm.KEYS:Cm:=1
abbrev Cm.FLUSHALL:Cm:=2
abbrev Cm.DBSIZE:Cm:=3
abbrev Cm.ECHO:Cm:=4
abbrev Cm.GET:Cm:=5
abbrev Cm.STRLEN:Cm:=6
abbrev Cm.TYPE:Cm:=7
abbrev Cm.TTL:Cm:=8
abbrev Cm.PERSIST:Cm:=9
abbrev Cm.LPOP:Cm:=10
abbrev Cm.RPOP:Cm:=11
abbrev Cm.LLEN:Cm:=12
abbrev Cm.HLEN:Cm:=13
abbrev Cm.HGETALL:Cm:=14
abbrev Cm.ZCARD:Cm:=15
abbrev Cm.SETNX:Cm:=16
abbrev Cm.INCRBY:Cm:=17
abbrev Cm.APPEND:Cm:=18
abbrev Cm.EXPIRE:Cm:=19
abbrev Cm.HGET:Cm:=20
abbrev Cm.ZSCORE:Cm:=21
abbrev Cm.ZRANK:Cm:=22
abbrev Cm.GETRANGE:Cm:=23
abbrev Cm.LRANGE:Cm:=24
abbrev Cm.ZRANGE:Cm:=25
abbrev Cm.SET:Cm:=26
abbrev Cm.DEL:Cm:=27
abbrev Cm.EXISTS:Cm:=28
abbrev Cm.LPUSH:Cm:=29
abbrev Cm.RPUSH:Cm:=30
abbrev Cm.HDEL:Cm:=31
abbrev Cm.ZREM:Cm:=32
abbrev Cm.HSET:Cm:=33
abbrev Cm.ZADD:Cm:=34
def Cm.text (c:Cm):ByteArray:=match c with
 |0=>⟨#[80,73,78,71]⟩
 |1=>⟨#[75,69,89,83]⟩
 |2=>⟨#[70,76,85,83,72,65,76,76]⟩
 |3=>⟨#[68,66,83,73,90,69]⟩
 |4=>⟨#[69,67,72,79]⟩
 |5=>⟨#[71,69,84]⟩
 |6=>⟨#[83,84,82,76,69,78]⟩
 |7=>⟨#[84,89,80,69]⟩
 |8=>⟨#[84,84,76]⟩
 |9=>⟨#[80,69,82,83,73,83,84]⟩
 |10=>⟨#[76,80,79,80]⟩
 |11=>⟨#[82,80,79,80]⟩
 |12=>⟨#[76,76,69,78]⟩
 |13=>⟨#[72,76,69,78]⟩
 |14=>⟨#[72,71,69,84,65,76,76]⟩
 |15=>⟨#[90,67,65,82,68]⟩
 |16=>⟨#[83,69,84,78,88]⟩
 |17=>⟨#[73,78,67,82,66,89]⟩
 |18=>⟨#[65,80,80,69,78,68]⟩
 |19=>⟨#[69,88,80,73,82,69]⟩
 |20=>⟨#[72,71,69,84]⟩
 |21=>⟨#[90,83,67,79,82,69]⟩
 |22=>⟨#[90,82,65,78,75]⟩
 |23=>⟨#[71,69,84,82,65,78,71,69]⟩
 |24=>⟨#[76,82,65,78,71,69]⟩
 |25=>⟨#[90,82,65,78,71,69]⟩
 |26=>⟨#[83,69,84]⟩
 |27=>⟨#[68,69,76]⟩
 |28=>⟨#[69,88,73,83,84,83]⟩
 |29=>⟨#[76,80,85,83,72]⟩
 |30=>⟨#[82,80,85,83,72]⟩
 |31=>⟨#[72,68,69,76]⟩
 |32=>⟨#[90,82,69,77]⟩
 |33=>⟨#[72,83,69,84]⟩
 |_=>⟨#[90,65,68,68]⟩
def Cm.fits (c:Cm) (n:Nat):Bool:=match c with
 |0=>decide (n<=1)
 |1=>decide (n=0)
 |2=>decide (n=0)
 |3=>decide (n=0)
 |16=>decide (n=2)
 |17=>decide (n=2)
 |18=>decide (n=2)
 |19=>decide (n=2)
 |20=>decide (n=2)
 |21=>decide (n=2)
 |22=>decide (n=2)
 |23=>decide (n=3)
 |24=>decide (n=3)
 |25=>decide (n=3)
 |26=>decide (n=2\/n=4)
 |27=>decide (1<=n)
 |28=>decide (1<=n)
 |29=>decide (2<=n)
 |30=>decide (2<=n)
 |31=>decide (2<=n)
 |32=>decide (2<=n)
 |33=>decide (3<=n/\n%2=1)
 |34=>decide (3<=n/\n%2=1)
 |_=>decide (n=1)
def Cm.kind (c:Cm):Nat:=match c with
 |5=>1
 |6=>1
 |10=>2
 |11=>2
 |12=>2
 |13=>3
 |14=>3
 |15=>4
 |17=>1
 |18=>1
 |20=>3
 |21=>4
 |22=>4
 |23=>1
 |24=>2
 |25=>4
 |29=>2
 |30=>2
 |31=>3
 |32=>4
 |33=>3
 |34=>4
 |_=>0
def Cm.many (c:Cm):Bool:=match c with
 |0=>true
 |1=>true
 |2=>true
 |3=>true
 |4=>true
 |27=>true
 |28=>true
 |_=>false
def Cm.all:List Cm:=[0,1,2,3,4,5,6,7,8,9,10,11,12,13,14,15,16,17,18,19,20,21,22,23,24,25,26,27,28,29,30,31,32,33,34]
def Nn (s:ByteArray):Option Cm:=Cm.all.find? fun c=>decide (c.text=s)
theorem Cm.elim{motive:Cm->Prop}(PING:motive 0)(KEYS:motive 1)(FLUSHALL:motive 2)(DBSIZE:motive 3)(ECHO:motive 4)(GET:motive 5)(STRLEN:motive 6)(TYPE:motive 7)(TTL:motive 8)(PERSIST:motive 9)(LPOP:motive 10)(RPOP:motive 11)(LLEN:motive 12)(HLEN:motive 13)(HGETALL:motive 14)(ZCARD:motive 15)(SETNX:motive 16)(INCRBY:motive 17)(APPEND:motive 18)(EXPIRE:motive 19)(HGET:motive 20)(ZSCORE:motive 21)(ZRANK:motive 22)(GETRANGE:motive 23)(LRANGE:motive 24)(ZRANGE:motive 25)(SET:motive 26)(DEL:motive 27)(EXISTS:motive 28)(LPUSH:motive 29)(RPUSH:motive 30)(HDEL:motive 31)(ZREM:motive 32)(HSET:motive 33)(ZADD:motive 34)(c:Cm):motive c:=by
 match c with
 |0=>exact PING
 |1=>exact KEYS
 |2=>exact FLUSHALL
 |3=>exact DBSIZE
 |4=>exact ECHO
 |5=>exact GET
 |6=>exact STRLEN
 |7=>exact TYPE
 |8=>exact TTL
 |9=>exact PERSIST
 |10=>exact LPOP
 |11=>exact RPOP
 |12=>exact LLEN
 |13=>exact HLEN
 |14=>exact HGETALL
 |15=>exact ZCARD
 |16=>exact SETNX
 |17=>exact INCRBY
 |18=>exact APPEND
 |19=>exact EXPIRE
 |20=>exact HGET
 |21=>exact ZSCORE
 |22=>exact ZRANK
 |23=>exact GETRANGE
 |24=>exact LRANGE
 |25=>exact ZRANGE
 |26=>exact SET
 |27=>exact DEL
 |28=>exact EXISTS
 |29=>exact LPUSH
 |30=>exact RPUSH
 |31=>exact HDEL
 |32=>exact ZREM
 |33=>exact HSET
 |34=>exact ZADD
 |⟨n+35,h⟩=>exact absurd h (by omega)
theorem yf9{c:Cm}(h:Nn s=some c):c.text=s:=by
 have:=List.find?_some h;simpa using this
theorem yg7(h:Nn s=none)(c:Cm):s≠c.text:=by
 have:=List.find?_eq_none.1 h c (by cases c using Cm.elim<;>decide);intro e;exact this (by simp[e])
theorem H6(h:Nn s=none)(c:Cm):(s.toList==c.text.data.toList)=false:=by
 have:=Le (yg7 h c);rwa[ByteArray.toList_eq c.text]at this
theorem ybg(s:ByteArray)(h:Nn s=none)(n:Nat)(w:World):Calls prog 97 #[.string s,.int .i64 n] w (fun e w'=>e=.returned (.tuple #[.bool false,.bool false])/\w'=w):=by
 have Gy:(s.toList==[80,73,78,71])=false:=H6 h .PING;have Kb:(s.toList==[75,69,89,83])=false:=H6 h .KEYS;have Gb:(s.toList==[70,76,85,83,72,65,76,76])=false:=H6 h .FLUSHALL;have Gi:(s.toList==[68,66,83,73,90,69])=false:=H6 h .DBSIZE;have Gw:(s.toList==[69,67,72,79])=false:=H6 h .ECHO;have Kj:(s.toList==[71,69,84])=false:=H6 h .GET;have Gk:(s.toList==[83,84,82,76,69,78])=false:=H6 h .STRLEN;have Gx:(s.toList==[84,89,80,69])=false:=H6 h .TYPE;have Ki:(s.toList==[84,84,76])=false:=H6 h .TTL;have Gc:(s.toList==[80,69,82,83,73,83,84])=false:=H6 h .PERSIST;have Gt:(s.toList==[76,80,79,80])=false:=H6 h .LPOP;have Gu:(s.toList==[82,80,79,80])=false:=H6 h .RPOP;have Gv:(s.toList==[76,76,69,78])=false:=H6 h .LLEN;have Kh:(s.toList==[72,76,69,78])=false:=H6 h .HLEN;have Gd:(s.toList==[72,71,69,84,65,76,76])=false:=H6 h .HGETALL;have Gq:(s.toList==[90,67,65,82,68])=false:=H6 h .ZCARD;have Gp:(s.toList==[83,69,84,78,88])=false:=H6 h .SETNX;have Ge:(s.toList==[73,78,67,82,66,89])=false:=H6 h .INCRBY;have Gg:(s.toList==[65,80,80,69,78,68])=false:=H6 h .APPEND;have Gm:(s.toList==[69,88,80,73,82,69])=false:=H6 h .EXPIRE;have Gz:(s.toList==[72,71,69,84])=false:=H6 h .HGET;have Gh:(s.toList==[90,83,67,79,82,69])=false:=H6 h .ZSCORE;have Gs:(s.toList==[90,82,65,78,75])=false:=H6 h .ZRANK;have Ga:(s.toList==[71,69,84,82,65,78,71,69])=false:=H6 h .GETRANGE;have Gf:(s.toList==[76,82,65,78,71,69])=false:=H6 h .LRANGE;have Gj:(s.toList==[90,82,65,78,71,69])=false:=H6 h .ZRANGE;have Km:(s.toList==[83,69,84])=false:=H6 h .SET;have Kl:(s.toList==[68,69,76])=false:=H6 h .DEL;have Gl:(s.toList==[69,88,73,83,84,83])=false:=H6 h .EXISTS;have Gn:(s.toList==[76,80,85,83,72])=false:=H6 h .LPUSH;have Gr:(s.toList==[82,80,85,83,72])=false:=H6 h .RPUSH;have Ka:(s.toList==[72,68,69,76])=false:=H6 h .HDEL;have Kd:(s.toList==[90,82,69,77])=false:=H6 h .ZREM;have Kc:(s.toList==[72,83,69,84])=false:=H6 h .HSET;have Kf:(s.toList==[90,65,68,68])=false:=H6 h .ZADD;clear h;go_enter func97,ntmps97;go_wp2;go_ret2;exact⟨rfl,rfl⟩
theorem Ex{a b:Bool}(h:a=b):Ending.returned (.tuple #[.bool true,.bool a])=.returned (.tuple #[.bool true,.bool b]):=by rw[h]
theorem Aj(c:Cm)(n:Nat)(hn:n<=2097152)(w:World):Calls prog 97 #[.string c.text,.int .i64 n] w (fun e w'=>e=.returned (.tuple #[.bool true,.bool (c.fits n)])/\w'=w):=by
 have _:=hn;cases c using Cm.elim;all_goals simp only[Cm.text,Cm.fits]
 case SET=>
  by_cases h2:n=2
  ·subst h2;go_enter func97,ntmps97;go_wp2;go_ret2;exact⟨rfl,rfl⟩
  ·have HE:Hid (decide (n=2\/n=4)=decide ((n:Int)=4)):=decide_eq_decide.2 (by omega);have h3:((n:Int)==2)=false:=by simp;omega
   go_enter func97,ntmps97;go_wp2;go_ret2;exact⟨Ex HE.out.symm,rfl⟩
 case HSET|ZADD=>
  by_cases h2:3<=n
  ·have HE:Hid (decide (3<=n/\n%2=1)=decide ((n:Int).tmod 2=1)):=decide_eq_decide.2 (by rw[Int.tmod_eq_emod_of_nonneg (by omega)];omega);have h3:decide ((3:Int)<=n)=true:=Qe (by omega);go_enter func97,ntmps97;go_wp2;go_ret2;exact⟨Ex HE.out.symm,rfl⟩
  ·have HE:Hid (decide (3<=n/\n%2=1)=false):=Qf (by omega);have h3:decide ((3:Int)<=n)=false:=Qf (by omega);go_enter func97,ntmps97;go_wp2;go_ret2;exact⟨Ex HE.out.symm,rfl⟩
 all_goals
  go_enter func97,ntmps97;go_wp2;go_ret2;exact⟨Ex (decide_eq_decide.2 (by omega)),rfl⟩
theorem zzy(c:Cm)(w:World):Calls prog 100 #[.string c.text] w (fun e w'=>e=.returned (.int .i64 c.kind)/\w'=w):=by
 cases c using Cm.elim;all_goals
  simp only[Cm.text,Cm.kind];go_enter func100,ntmps100;go_wp2;go_ret;exact⟨rfl,rfl⟩
structure Rp where
 kind:Int
 n:Int
 s:ByteArray
 kids:List Nat
structure RV where
 r:Rp
 kv:Value
def rvC (x:RV):List Value:=[.int .i64 x.r.kind,.int .i64 x.r.n,.string x.r.s,x.kv]
def Tn (M:List RV):List Value:=M.flatMap rvC
def U8 (ks:List Nat):List Value:=ks.map fun (k:Nat)=> .int .i64 (k:Int)
abbrev Um (w:World) (B:Nat) (v:Value) (M:List RV):Prop:=w.ownsRow B 40 4 v M.length (Tn M)
abbrev Ue (w:World) (B:Nat) (v:Value) (ks:List Nat):Prop:=w.ownsRow B 2 1 v ks.length (U8 ks)
def Fr (w:World) (B:Nat) (v:Value) (R:List Rp):Prop:=∃M:List RV,M.map RV.r=R/\Um w B v M/\∀x∈M,Ue w B x.kv x.r.kids
theorem Fr.bw{w':World}{R:List Rp}(h:Fr w B v R)(hb:Bl w w'):Fr w' B v R:=by
 obtain⟨M,e,o,k⟩:=h;exact⟨M,e,Fw o hb,fun x hx=>Fw (k x hx) hb⟩
theorem L5{e:TypeId}{size n:Nat}{xs:List Value}(h:w.ownsRow B e size v n xs)(hb:B'<=B):w.ownsRow B' e size v n xs:=by
 obtain⟨h1,h2|⟨g,Ga,Gb,a1,a2,a3⟩⟩:=h
 ·exact⟨h1,.inl h2⟩
 ·exact⟨h1,.inr ⟨g,Ga,Gb,a1,Qj hb a2,a3⟩⟩
theorem Fr.le{R:List Rp}(h:Fr w B v R)(hb:B'<=B):Fr w B' v R:=by
 obtain⟨M,e,o,k⟩:=h;exact⟨M,e,L5 o hb,fun x hx=>L5 (k x hx) hb⟩
def F9 (w:World) (R:List Rp) (e:Ending) (w':World):Prop:=∃v,e= .returned v/\Fr w' w.heap.size v R/\Bl w w'
theorem Rt(w:World)(k n:Int)(s:ByteArray):F9 w [⟨k,n,s,[]⟩] (.returned (.slice (some ⟨w.heap.size,0,none⟩) 1 1)) (w.alloc (.cells #[.int .i64 k,.int .i64 n,.string s,.slice none 0 0] 40)):=
 ⟨_,rfl,⟨[⟨⟨k,n,s,[]⟩,.slice none 0 0⟩],rfl,⟨rfl,.inr ⟨w.heap.size,1,_,rfl,Qc _,Fc.new w 40 _,Qc _,by unfold maxLen;omega,rfl,rfl⟩⟩,fun x hx=>by
  rcases List.mem_singleton.1 hx with rfl;exact World.ownsRow_nil _ _ _ _⟩,(Qb _ w).alloc (Qc _) _⟩
def ykj:ByteArray:=⟨#[69,82,82,32]⟩
def Hd (s:ByteArray):List Rp:=[⟨1,0,s,[]⟩]
def Fl (s:ByteArray):List Rp:=[⟨2,0,ykj++s,[]⟩]
def R6:List Rp:=[⟨2,0,⟨#[87,82,79,78,71,84,89,80,69]⟩,[]⟩]
def Fe (n:Int):List Rp:=[⟨3,n,⟨#[]⟩,[]⟩]
def Fy (s:ByteArray):List Rp:=[⟨4,0,s,[]⟩]
def G7:List Rp:=[⟨5,0,⟨#[]⟩,[]⟩]
theorem Bz(s:ByteArray)(w:World):Calls prog 139 #[.string s] w (F9 w (Hd s)):=by
 have HE:Hid (F9 w (Hd s) _ _):=Rt w 1 0 s;go_enter func139,ntmps139;go_wp2;go_ret;exact HE.out
theorem Bg(s:ByteArray)(w:World):Calls prog 140 #[.string s] w (F9 w (Fy s)):=by
 have HE:Hid (F9 w (Fy s) _ _):=Rt w 4 0 s;go_enter func140,ntmps140;go_wp2;go_ret;exact HE.out
theorem Wm(n:Int)(w:World):Calls prog 141 #[.int .i64 n] w (F9 w (Fe n)):=by
 have HE:Hid (F9 w (Fe n) _ _):=Rt w 3 n ⟨#[]⟩;go_enter func141,ntmps141;go_wp2;go_ret;exact HE.out
theorem ydl(w:World):Calls prog 145 #[] w (F9 w G7):=by
 have HE:Hid (F9 w G7 _ _):=Rt w 5 0 ⟨#[]⟩;go_enter func145,ntmps145;go_wp2;go_ret;exact HE.out
theorem ya5(w:World):Calls prog 103 #[] w (F9 w R6):=by
 have HE:Hid (F9 w R6 _ _):=Rt w 2 0 ⟨#[87,82,79,78,71,84,89,80,69]⟩;go_enter func103,ntmps103;go_wp2;go_ret;exact HE.out
theorem Ry(s:ByteArray)(hs:s.size<=1048576)(w:World):Calls prog 98 #[.string s] w (F9 w (Fl s)):=by
 have HE:Hid (F9 w (Fl s) _ _):=Rt w 2 0 (ykj++s);go_enter func98,ntmps98;go_wp2;go_ret;exact HE.out
def Py (k:Nat):ByteArray:=match k with
 |0=>⟨#[110,111,110,101]⟩
 |1=>⟨#[115,116,114,105,110,103]⟩
 |2=>⟨#[108,105,115,116]⟩
 |3=>⟨#[104,97,115,104]⟩
 |_=>⟨#[122,115,101,116]⟩
theorem zq2(k:Nat)(hk:k<=4)(w:World):Calls prog 153 #[.int .i64 k] w (fun e w'=>e=.returned (.string (Py k))/\Bl w w'):=by
 have HB:Hid (∀C T,Bl w (w.alloc (.cells C T))):=fun C T=>(Qb _ w).alloc (Qc _) _;obtain rfl|rfl|rfl|rfl|rfl:k=0\/k=1\/k=2\/k=3\/k=4:=by omega
 all_goals
  go_enter func153,ntmps153;go_wp2;go_ret;exact⟨rfl,HB.out _ _⟩
open Kk (Rk rk0 G8 Mp F1 L7 Hv G9 Fo G6 encR F7 Le str_eq)
structure N1 (k:Ke):Prop where
 fit:Ek k.val
 name:k.name.size<=1048576
 ia:∀t∈k.val.ia,t.size<=1048576
def Lg (ks:List Ke):Prop:=∀k∈ks,N1 k
def Fits (L:List KV):Prop:=∀i,i<L.length->N1 (L.getD i kv0).key
theorem Lg.fits(h:Lg (L.map KV.key)):Fits L:=fun i hi=>h _ (List.mem_map.2 ⟨L.getD i kv0,by rw[Qa,Qd hi];exact Qv hi,rfl⟩)
theorem zin(a:Option Addr)(b n c:Nat)(L:List KV)(w:World)(h:Oc w a b n L)(hs:Fits L)(hn:n<=1048577):
  Calls prog 51 #[.slice a n c] w fun e w'=>e=.returned (.bool (Fm (L.map KV.key)))/\Bl w w':=by
 have HE:Hid (Fm (L.map KV.key)=(decide (n<=20)&&(List.range n).all (okV L))):=ydi L n h.ks.len;obtain⟨O,hO⟩:∃O,Fm (L.map KV.key)=O:=⟨_,rfl⟩;rw[hO]at HE ⊢;have HD:Hid (Oc w a b n L):=h;have HS:Hid (Fits L):=hs;have HL:Hid (L.length=n):=h.ks.len;clear h hs hO;by_cases h20:n<=20
 ·have hg:decide ((20:Int)<(n:Int))=false:=Qf (by omega);rw[Qe h20,Qz]at HE;go_enter func51,ntmps51;go_wp2;go_loopw [3] (fun i wr=>∃(k:Nat),k<=n/\i=.int .i64 k/\Hid (∀j,j<k->okV L j=true)/\Bl w wr) (fun i _=>n-(intOf i).toNat)
  case atStart=>exact⟨0,by omega,rfl,(fun j hj=>by omega),Qb _ _⟩
  case round=>
   obtain⟨k,hk,rfl,hp,bk⟩:=hrel;have sk:=bk.size;by_cases hlt:k<n
   ·have HW:=HD.out.bw bk;obtain⟨B,hv⟩:=HW.val k hlt;have hc:=HW.ks.cell k hlt;have Gf:0<k->wr.cell? ⟨b,(k-1)*7,none⟩=some (.string (L.getD (k-1) kv0).key.name):=fun h0=>(HW.ks.cell (k-1) (by omega)).c0;obtain rfl:=HW.ks.addr (by omega);obtain⟨q1,q2,_⟩:=HS.out k (by rw[HL.out];exact hlt);have Gc:Hid (okV L k=(decide ((L.getD k kv0).key.name.size<=200)&&(Ls (L.getD k kv0).key.val&&Lp (L.getD k kv0).key.due)&&(decide (k=0)||Op.bytesLess (L.getD (k-1) kv0).key.name.toList (L.getD k kv0).key.name.toList))):=rfl;have Gd:Hid (okV L k=false->O=false):=fun h=>by rw[HE.out];exact Kk.Rz hlt h
    have Ge:Hid (okV L k=true->∀j,j<k+1->okV L j=true):=fun h j hj=>by
     by_cases e:j=k
     ·subst e;exact h
     ·exact hp.out j (by omega)
    clear hp;have cV:∀d os,Calls prog 95 #[vlV (L.getD k kv0).key.val.kind (L.getD k kv0).key.val.text (L.getD k kv0).vi (L.getD k kv0).vp (L.getD k kv0).vr] (grow (redrawn wr d) os) fun e w''=>e=.returned (.bool (Ls (L.getD k kv0).key.val))/\∃p:Regrown,w''=grow (redrawn wr p.d) p.os:=fun d os=>Calls.regrown_of (zx1 _ _ _ _ B _ (hv.bw (below_regrown wr d os)) q1);have cI:∀d os,Calls prog 52 #[.int .i64 (L.getD k kv0).key.due,.int .i64 0,.int .i64 1000000000] (grow (redrawn wr d) os) fun e w''=>e=.returned (.bool (Lp (L.getD k kv0).key.due))/\∃p:Regrown,w''=grow (redrawn wr p.d) p.os:=fun d os=>Calls.regrown_of (zqa _ _);generalize L.getD k kv0=y,(L.getD (k-1) kv0).key.name=xn,okV L k=ok at*;generalize Ls y.key.val=o2,Lp y.key.due=o3 at*;obtain⟨c0,c1,c2,c3,c4,c5,c6⟩:=hc;clear HW q1 hv;obtain⟨⟨nm,⟨kd,t,_,_,_⟩,d⟩,vi,vp,vr⟩:=y;dsimp only at c0 c1 c2 c3 c4 c5 c6 cV cI Gc q2;have Gx:=cell_regrown c0;have Gv:=cell_regrown c1;have Gl:=cell_regrown c2;have Gj:=cell_regrown c3;have Gm:=cell_regrown c4;have Gw:=cell_regrown c5;have Gp:=cell_regrown c6;have Gs:(0:Int)<=(k:Int):=by omega
    have Gk:(k:Int)<(n:Int):=by omega
    clear c0 c1 c2 c3 c4 c5 c6;by_cases h1:nm.size<=200
    ·have g1:decide ((200:Int)<(nm.size:Int))=false:=Qf (by omega);have Gg:decide (200<nm.size)=false:=Qf (by omega);rw[Qe h1,Qz]at Gc;cases o2 with
     |false=>
      have HY:Hid (O=false):=Gd.out (by rw[Gc.out];rfl);clear Gc Gd Ge Gf h1;go_wp2;refine wp_region_quiet_below (by kernel_rfl) (by kernel_rfl) ?_;repeat(first|go_big_quiet_skip|quiet_step (first|with_reducible exact cV _ _|with_reducible exact cI _ _)|(go_big_quiet_want;go_big_quiet_op;go_big_quiet_on))
      refine wpQuiet_nil ?_;intro _ hw';obtain⟨⟨dq,Gb⟩,Ga⟩:=hw';subst Ga;have bq:=below_regrown wr dq Gb;generalize grow (redrawn wr dq) Gb=wq at*;go_wp2;go_ret;exact⟨F0 HY.out.symm,bk.trans (bq.mono sk)⟩
     |true=>
      rw[Qz]at Gc;cases o3 with
      |false=>
       have HY:Hid (O=false):=Gd.out (by rw[Gc.out];rfl);clear Gc Gd Ge Gf h1;go_wp2;refine wp_region_quiet_below (by kernel_rfl) (by kernel_rfl) ?_;repeat(first|go_big_quiet_skip|quiet_step (first|with_reducible exact cV _ _|with_reducible exact cI _ _)|(go_big_quiet_want;go_big_quiet_op;go_big_quiet_on))
       refine wpQuiet_nil ?_;intro _ hw';obtain⟨⟨dq,Gb⟩,Ga⟩:=hw';subst Ga;have bq:=below_regrown wr dq Gb;generalize grow (redrawn wr dq) Gb=wq at*;go_wp2;go_ret;exact⟨F0 HY.out.symm,bk.trans (bq.mono sk)⟩
      |true=>
       rw[Qz]at Gc;by_cases hk1:k=0
       ·have g3:decide ((0:Int)<(k:Int))=false:=Qf (by omega);have Gh:decide (0<k)=false:=Qf (by omega);have HY:Hid (∀j,j<k+1->okV L j=true):=Ge.out (by rw[Gc.out,Qe hk1];rfl);clear Gc Gd Ge Gf h1 hk1;go_wp2;refine wp_region_quiet_below (by kernel_rfl) (by kernel_rfl) ?_;repeat(first|go_big_quiet_skip|quiet_step (first|with_reducible exact cV _ _|with_reducible exact cI _ _)|(go_big_quiet_want;go_big_quiet_op;go_big_quiet_on))
        refine wpQuiet_nil ?_;intro _ hw';obtain⟨⟨dq,Gb⟩,Ga⟩:=hw';subst Ga;have bq:=below_regrown wr dq Gb;generalize grow (redrawn wr dq) Gb=wq at*;go_wp2;go_roundw
        case rel=>exact⟨k+1,by omega,by go_num,HY,bk.trans (bq.mono sk)⟩
        case measure=>simp[intOf];omega
       ·have g3:decide ((0:Int)<(k:Int))=true:=Qe (by omega);have Gh:decide (0<k)=true:=Qe (by omega);have Gn:=cell_regrown (Gf (by omega));have Gq:(1:Int)<=(k:Int):=by omega
        have Gu:(0:Int)<=(k:Int)-1:=by omega
        have Gr:(k:Int)-1<(n:Int):=by omega
        have Gt:((k:Int)-1).toNat=k-1:=by omega
        have hw:IntKind.i64.wrap ((k:Int)-1)=(k:Int)-1:=Kk.wrap_small (by omega) (by omega);rw[Qf hk1,Bool.false_or]at Gc;clear Gf h1 hk1;cases hlss:Op.bytesLess xn.toList nm.toList with
        |true=>
         have HY:Hid (∀j,j<k+1->okV L j=true):=Ge.out (by rw[Gc.out,hlss]);clear Gc Gd Ge;go_wp2;refine wp_region_quiet_below (by kernel_rfl) (by kernel_rfl) ?_;repeat(first|go_big_quiet_skip|quiet_step (first|with_reducible exact cV _ _|with_reducible exact cI _ _)|(go_big_quiet_want;go_big_quiet_op;go_big_quiet_on))
         refine wpQuiet_nil ?_;intro _ hw';obtain⟨⟨dq,Gb⟩,Ga⟩:=hw';subst Ga;have bq:=below_regrown wr dq Gb;generalize grow (redrawn wr dq) Gb=wq at*;go_wp2;go_roundw
         case rel=>exact⟨k+1,by omega,by go_num,HY,bk.trans (bq.mono sk)⟩
         case measure=>simp[intOf];omega
        |false=>
         have HY:Hid (O=false):=Gd.out (by rw[Gc.out,hlss]);clear Gc Gd Ge;go_wp2;refine wp_region_quiet_below (by kernel_rfl) (by kernel_rfl) ?_;repeat(first|go_big_quiet_skip|quiet_step (first|with_reducible exact cV _ _|with_reducible exact cI _ _)|(go_big_quiet_want;go_big_quiet_op;go_big_quiet_on))
         refine wpQuiet_nil ?_;intro _ hw';obtain⟨⟨dq,Gb⟩,Ga⟩:=hw';subst Ga;have bq:=below_regrown wr dq Gb;generalize grow (redrawn wr dq) Gb=wq at*;go_wp2;go_ret;exact⟨F0 HY.out.symm,bk.trans (bq.mono sk)⟩
    ·have g1:decide ((200:Int)<(nm.size:Int))=true:=Qe (by omega);have Gg:decide (200<nm.size)=true:=Qe (by omega);have HY:Hid (O=false):=Gd.out (by rw[Gc.out,Qf h1];rfl);clear Gc Gd Ge Gf h1;go_wp2;refine wp_region_quiet_below (by kernel_rfl) (by kernel_rfl) ?_;repeat(first|go_big_quiet_skip|quiet_step (first|with_reducible exact cV _ _|with_reducible exact cI _ _)|(go_big_quiet_want;go_big_quiet_op;go_big_quiet_on))
     refine wpQuiet_nil ?_;intro _ hw';obtain⟨⟨dq,Gb⟩,Ga⟩:=hw';subst Ga;have bq:=below_regrown wr dq Gb;generalize grow (redrawn wr dq) Gb=wq at*;go_wp2;go_ret;exact⟨F0 HY.out.symm,bk.trans (bq.mono sk)⟩
   ·have HT:Hid (O=true):=by unfold Hid;rw[HE.out];exact Kk.R5 fun j hj=>hp.out j (by omega)
    clear hp;go_wp2;go_ret;exact⟨F0 HT.out.symm,bk⟩
 ·have hg:decide ((20:Int)<(n:Int))=true:=Qe (by omega);have Gi:Hid (O=false):=by unfold Hid;rw[HE.out,Qf h20];rfl
  go_enter func51,ntmps51;go_wp2;go_ret;exact⟨F0 Gi.out.symm,Qb _ _⟩
theorem Fv.din(h:Fv w B v L)(hf:Fits L):∃a A c,v=.slice a L.length c/\Th w a A L.length L/\Oc w a A L.length L:=by
 obtain⟨a,A,c,e,hk⟩:=Uw h.row;obtain⟨β,hr⟩:=h.vals;exact⟨a,A,c,e,⟨hk,fun i hi=>(hr.own i hi).rd (hf i hi).ia,fun i hi=>by have:=(hf i hi).fit.ia;omega,fun i hi=>by have:=(hf i hi).fit.pj;omega,fun i hi=>by have:=(hf i hi).fit.rq;omega⟩,hk,fun i hi=>⟨_,hr.own i hi⟩⟩
theorem A9(k:Ke):∀(ks:List Ke) (s:List Ke×Bool) (y:Ke),y∈(ks.foldl (Lo k) s).1->y∈s.1\/y∈ks\/y=k
 |[],s,y,h=> .inl h
 |x::xs,s,y,h=>by
  rw[List.foldl_cons]at h;rcases A9 k xs _ y h with h1|h1|h1
  ·unfold Lo at h1;split at h1<;>split at h1<;>try simp at h1
   ·rcases h1 with h1|h1
    ·exact .inl h1
    ·exact .inr (.inr h1)
   ·exact .inl h1
   ·rcases h1 with h1|h1|h1
    ·exact .inl h1
    ·exact .inr (.inr h1)
    ·exact .inr (.inl (by rw[h1];exact List.mem_cons_self ..))
   ·rcases h1 with h1|h1
    ·exact .inl h1
    ·exact .inr (.inl (by rw[h1];exact List.mem_cons_self ..))
  ·exact .inr (.inl (List.mem_cons_of_mem _ h1))
  ·exact .inr (.inr h1)
theorem Df{y:Ke}(h:y∈G0 ks k):y∈ks\/y=k:=by
 unfold G0 stS at h;split at h
 ·rcases A9 k ks _ y h with h1|h1|h1
  ·cases h1
  ·exact .inl h1
  ·exact .inr h1
 ·rw[List.mem_append]at h;rcases h with h|h
  ·rcases A9 k ks _ y h with h1|h1|h1
   ·cases h1
   ·exact .inl h1
   ·exact .inr h1
  ·exact .inr (List.mem_singleton.1 h)
theorem Lg.stored(h:Lg ks)(hk:N1 k):Lg (G0 ks k):=fun y hy=>by
 rcases Df hy with h1|h1
 ·exact h y h1
 ·rw[h1];exact hk
theorem Lg.gone(h:Lg ks)(nm:ByteArray):Lg (G5 ks nm):=fun y hy=>h y (List.mem_filter.1 hy).1
def Mg (w:World) (B Br:Nat) (p:List Ke×List Rp) (e:Ending) (w':World):Prop:=∃v r L,e= .returned (.tuple #[v,r])/\L.map KV.key=p.1/\Fv w' B v L/\Fr w' Br r p.2/\Bl w w'
def Fh (w:World) (B:Nat) (p:List Ke×List Rp) (e:Ending) (w':World):Prop:=∃v r L,e= .returned (.tuple #[v,r])/\L.map KV.key=p.1/\Fv w' B v L/\Fr w' w.heap.size r p.2/\Bl w w'
def Ml (k:Ke):Bool:=decide (k.val.ia.length+k.val.pj.length+k.val.rq.length=0)&&!decide (k.val.kind=1)
def My:ByteArray:=⟨#[102,117,108,108]⟩
def Fj (ks:List Ke) (k:Ke) (R:List Rp):List Ke×List Rp:=if Ml k=true then (G5 ks k.name,R) else if Fm (G0 ks k)=true then (G0 ks k,R) else (ks,Fl My)
end Go.Proofs.YtokafonppgppdaaGreatDoor
