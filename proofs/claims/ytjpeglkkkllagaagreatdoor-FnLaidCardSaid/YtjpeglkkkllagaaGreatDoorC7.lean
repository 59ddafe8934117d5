import Derived.Test.YtjpeglkkkllagaaGreatDoorC6
set_option maxHeartbeats 4000000
set_option maxRecDepth 100000
namespace Go.Proofs.YtjpeglkkkllagaaGreatDoor
open Go.RowKit Go.Sort
open Kk (str_ne str_eq)
abbrev Cm:=Fin 35
abbrev Cm.PING:Cm:=0
abbrev Cm.KEYS:Cm:=1
abbrev Cm.FLUSHALL:Cm:=2
abbrev Cm.DBSIZE:Cm:=3
abbrev Cm.ECHO:Cm:=4
abbrev Cm.GET:Cm:=5
abbrev Cm.STRLEN:Cm:=6
abbrev Cm.TYPE:Cm:=7
abbrev Cm.TTL:Cm:=8
abbrev Cm.PERSIST:Cm:=9
abbrev Cm.LPOP:Cm:=10
abbrev Cm.RPOP:Cm:=11
abbrev Cm.LLEN:Cm:=12
abbrev Cm.HLEN:Cm:=13
abbrev Cm.HGETALL:Cm:=14
abbrev Cm.ZCARD:Cm:=15
abbrev Cm.SETNX:Cm:=16
abbrev Cm.INCRBY:Cm:=17
abbrev Cm.APPEND:Cm:=18
abbrev Cm.EXPIRE:Cm:=19
abbrev Cm.HGET:Cm:=20
abbrev Cm.ZSCORE:Cm:=21
abbrev Cm.ZRANK:Cm:=22
abbrev Cm.GETRANGE:Cm:=23
abbrev Cm.LRANGE:Cm:=24
abbrev Cm.ZRANGE:Cm:=25
abbrev Cm.SET:Cm:=26
abbrev Cm.DEL:Cm:=27
abbrev Cm.EXISTS:Cm:=28
abbrev Cm.LPUSH:Cm:=29
abbrev Cm.RPUSH:Cm:=30
abbrev Cm.HDEL:Cm:=31
abbrev Cm.ZREM:Cm:=32
abbrev Cm.HSET:Cm:=33
abbrev Cm.ZADD:Cm:=34
def Cm.text (c:Cm):ByteArray:=match c with
 |0=>⟨#[80,73,78,71]⟩
 |1=>⟨#[75,69,89,83]⟩
 |2=>⟨#[70,76,85,83,72,65,76,76]⟩
 |3=>⟨#[68,66,83,73,90,69]⟩
 |4=>⟨#[69,67,72,79]⟩
 |5=>⟨#[71,69,84]⟩
 |6=>⟨#[83,84,82,76,69,78]⟩
 |7=>⟨#[84,89,80,69]⟩
 |8=>⟨#[84,84,76]⟩
 |9=>⟨#[80,69,82,83,73,83,84]⟩
 |10=>⟨#[76,80,79,80]⟩
 |11=>⟨#[82,80,79,80]⟩
 |12=>⟨#[76,76,69,78]⟩
 |13=>⟨#[72,76,69,78]⟩
 |14=>⟨#[72,71,69,84,65,76,76]⟩
 |15=>⟨#[90,67,65,82,68]⟩
 |16=>⟨#[83,69,84,78,88]⟩
 |17=>⟨#[73,78,67,82,66,89]⟩
 |18=>⟨#[65,80,80,69,78,68]⟩
 |19=>⟨#[69,88,80,73,82,69]⟩
 |20=>⟨#[72,71,69,84]⟩
 |21=>⟨#[90,83,67,79,82,69]⟩
 |22=>⟨#[90,82,65,78,75]⟩
 |23=>⟨#[71,69,84,82,65,78,71,69]⟩
 |24=>⟨#[76,82,65,78,71,69]⟩
 |25=>⟨#[90,82,65,78,71,69]⟩
 |26=>⟨#[83,69,84]⟩
 |27=>⟨#[68,69,76]⟩
 |28=>⟨#[69,88,73,83,84,83]⟩
 |29=>⟨#[76,80,85,83,72]⟩
 |30=>⟨#[82,80,85,83,72]⟩
 |31=>⟨#[72,68,69,76]⟩
 |32=>⟨#[90,82,69,77]⟩
 |33=>⟨#[72,83,69,84]⟩
 |_=>⟨#[90,65,68,68]⟩
def Cm.fits (c:Cm) (n:Nat):Bool:=match c with
 |0=>decide (n≤1)
 |1=>decide (n=0)
 |2=>decide (n=0)
 |3=>decide (n=0)
 |16=>decide (n=2)
 |17=>decide (n=2)
 |18=>decide (n=2)
 |19=>decide (n=2)
 |20=>decide (n=2)
 |21=>decide (n=2)
 |22=>decide (n=2)
 |23=>decide (n=3)
 |24=>decide (n=3)
 |25=>decide (n=3)
 |26=>decide (n=2∨n=4)
 |27=>decide (1≤n)
 |28=>decide (1≤n)
 |29=>decide (2≤n)
 |30=>decide (2≤n)
 |31=>decide (2≤n)
 |32=>decide (2≤n)
 |33=>decide (3≤n∧n%2=1)
 |34=>decide (3≤n∧n%2=1)
 |_=>decide (n=1)
def Cm.kind (c:Cm):Nat:=match c with
 |5=>1
 |6=>1
 |10=>2
 |11=>2
 |12=>2
 |13=>3
 |14=>3
 |15=>4
 |17=>1
 |18=>1
 |20=>3
 |21=>4
 |22=>4
 |23=>1
 |24=>2
 |25=>4
 |29=>2
 |30=>2
 |31=>3
 |32=>4
 |33=>3
 |34=>4
 |_=>0
def Cm.many (c:Cm):Bool:=match c with
 |0=>true
 |1=>true
 |2=>true
 |3=>true
 |4=>true
 |27=>true
 |28=>true
 |_=>false
def Cm.all:List Cm:=[0,1,2,3,4,5,6,7,8,9,10,11,12,13,14,15,16,17,18,19,20,21,22,23,24,25,26,27,28,29,30,31,32,33,34]
def cmOf (s:ByteArray):Option Cm:=Cm.all.find? fun c=>decide (c.text=s)
theorem Cm.elim {motive:Cm→Prop} (PING:motive 0) (KEYS:motive 1) (FLUSHALL:motive 2) (DBSIZE:motive 3) (ECHO:motive 4) (GET:motive 5) (STRLEN:motive 6) (TYPE:motive 7) (TTL:motive 8) (PERSIST:motive 9) (LPOP:motive 10) (RPOP:motive 11) (LLEN:motive 12) (HLEN:motive 13) (HGETALL:motive 14) (ZCARD:motive 15) (SETNX:motive 16) (INCRBY:motive 17) (APPEND:motive 18) (EXPIRE:motive 19) (HGET:motive 20) (ZSCORE:motive 21) (ZRANK:motive 22) (GETRANGE:motive 23) (LRANGE:motive 24) (ZRANGE:motive 25) (SET:motive 26) (DEL:motive 27) (EXISTS:motive 28) (LPUSH:motive 29) (RPUSH:motive 30) (HDEL:motive 31) (ZREM:motive 32) (HSET:motive 33) (ZADD:motive 34) (c:Cm):motive c:=by
 match c with
 |0=>exact PING
 |1=>exact KEYS
 |2=>exact FLUSHALL
 |3=>exact DBSIZE
 |4=>exact ECHO
 |5=>exact GET
 |6=>exact STRLEN
 |7=>exact TYPE
 |8=>exact TTL
 |9=>exact PERSIST
 |10=>exact LPOP
 |11=>exact RPOP
 |12=>exact LLEN
 |13=>exact HLEN
 |14=>exact HGETALL
 |15=>exact ZCARD
 |16=>exact SETNX
 |17=>exact INCRBY
 |18=>exact APPEND
 |19=>exact EXPIRE
 |20=>exact HGET
 |21=>exact ZSCORE
 |22=>exact ZRANK
 |23=>exact GETRANGE
 |24=>exact LRANGE
 |25=>exact ZRANGE
 |26=>exact SET
 |27=>exact DEL
 |28=>exact EXISTS
 |29=>exact LPUSH
 |30=>exact RPUSH
 |31=>exact HDEL
 |32=>exact ZREM
 |33=>exact HSET
 |34=>exact ZADD
 |⟨n+35,h⟩=>exact absurd h (by omega)
theorem cm_some {s:ByteArray} {c:Cm} (h:cmOf s=some c):c.text=s:=by
 have:=List.find?_some h;simpa using this
theorem cm_none {s:ByteArray} (h:cmOf s=none) (c:Cm):s≠c.text:=by
 have:=List.find?_eq_none.1 h c (by cases c using Cm.elim<;>decide);intro e;exact this (by simp [e])
theorem zcf {s:ByteArray} (h:cmOf s=none) (c:Cm):(s.toList==c.text.data.toList)=false:=by
 have:=str_ne (cm_none h c);rwa [ByteArray.toList_eq c.text] at this
theorem fits_none (s:ByteArray) (h:cmOf s=none) (n:Nat) (w:World):Calls Tryz.prog 88 #[.string s,.int .i64 n] w (fun e w'=>e= .returned (.tuple #[.bool false,.bool false])∧w'=w):=by
 have nPING:(s.toList==[80,73,78,71])=false:=zcf h .PING;have nKEYS:(s.toList==[75,69,89,83])=false:=zcf h .KEYS;have nFLUSHALL:(s.toList==[70,76,85,83,72,65,76,76])=false:=zcf h .FLUSHALL;have nDBSIZE:(s.toList==[68,66,83,73,90,69])=false:=zcf h .DBSIZE;have nECHO:(s.toList==[69,67,72,79])=false:=zcf h .ECHO;have nGET:(s.toList==[71,69,84])=false:=zcf h .GET;have nSTRLEN:(s.toList==[83,84,82,76,69,78])=false:=zcf h .STRLEN;have nTYPE:(s.toList==[84,89,80,69])=false:=zcf h .TYPE;have nTTL:(s.toList==[84,84,76])=false:=zcf h .TTL;have nPERSIST:(s.toList==[80,69,82,83,73,83,84])=false:=zcf h .PERSIST;have nLPOP:(s.toList==[76,80,79,80])=false:=zcf h .LPOP;have nRPOP:(s.toList==[82,80,79,80])=false:=zcf h .RPOP;have nLLEN:(s.toList==[76,76,69,78])=false:=zcf h .LLEN;have nHLEN:(s.toList==[72,76,69,78])=false:=zcf h .HLEN;have nHGETALL:(s.toList==[72,71,69,84,65,76,76])=false:=zcf h .HGETALL;have nZCARD:(s.toList==[90,67,65,82,68])=false:=zcf h .ZCARD;have nSETNX:(s.toList==[83,69,84,78,88])=false:=zcf h .SETNX;have nINCRBY:(s.toList==[73,78,67,82,66,89])=false:=zcf h .INCRBY;have nAPPEND:(s.toList==[65,80,80,69,78,68])=false:=zcf h .APPEND;have nEXPIRE:(s.toList==[69,88,80,73,82,69])=false:=zcf h .EXPIRE;have nHGET:(s.toList==[72,71,69,84])=false:=zcf h .HGET;have nZSCORE:(s.toList==[90,83,67,79,82,69])=false:=zcf h .ZSCORE;have nZRANK:(s.toList==[90,82,65,78,75])=false:=zcf h .ZRANK;have nGETRANGE:(s.toList==[71,69,84,82,65,78,71,69])=false:=zcf h .GETRANGE;have nLRANGE:(s.toList==[76,82,65,78,71,69])=false:=zcf h .LRANGE;have nZRANGE:(s.toList==[90,82,65,78,71,69])=false:=zcf h .ZRANGE;have nSET:(s.toList==[83,69,84])=false:=zcf h .SET;have nDEL:(s.toList==[68,69,76])=false:=zcf h .DEL;have nEXISTS:(s.toList==[69,88,73,83,84,83])=false:=zcf h .EXISTS;have nLPUSH:(s.toList==[76,80,85,83,72])=false:=zcf h .LPUSH;have nRPUSH:(s.toList==[82,80,85,83,72])=false:=zcf h .RPUSH;have nHDEL:(s.toList==[72,68,69,76])=false:=zcf h .HDEL;have nZREM:(s.toList==[90,82,69,77])=false:=zcf h .ZREM;have nHSET:(s.toList==[72,83,69,84])=false:=zcf h .HSET;have nZADD:(s.toList==[90,65,68,68])=false:=zcf h .ZADD;clear h;go_enter Tryz.func88,Tryz.ntmps88;go_wp2;go_ret2;exact ⟨rfl,rfl⟩
theorem ret_fits {a b:Bool} (h:a=b):Ending.returned (.tuple #[.bool true,.bool a])= .returned (.tuple #[.bool true,.bool b]):=by rw [h]
theorem fits_some (c:Cm) (n:Nat) (hn:n≤2097152) (w:World):Calls Tryz.prog 88 #[.string c.text,.int .i64 n] w (fun e w'=>e= .returned (.tuple #[.bool true,.bool (c.fits n)])∧w'=w):=by
 have _:=hn;cases c using Cm.elim;all_goals simp only [Cm.text,Cm.fits]
 case SET=>
  by_cases h2:n=2
  ·subst h2;go_enter Tryz.func88,Tryz.ntmps88;go_wp2;go_ret2;exact ⟨rfl,rfl⟩
  ·have HE:Hid (decide (n=2∨n=4)=decide ((n:Int)=4)):=decide_eq_decide.2 (by omega);have h3:((n:Int)==2)=false:=by simp;omega
   go_enter Tryz.func88,Tryz.ntmps88;go_wp2;go_ret2;exact ⟨ret_fits HE.out.symm,rfl⟩
 case HSET|ZADD=>
  by_cases h2:3≤n
  ·have HE:Hid (decide (3≤n∧n%2=1)=decide ((n:Int).tmod 2=1)):=decide_eq_decide.2 (by rw [Int.tmod_eq_emod_of_nonneg (by omega)];omega);have h3:decide ((3:Int)≤n)=true:=decide_eq_true (by omega);go_enter Tryz.func88,Tryz.ntmps88;go_wp2;go_ret2;exact ⟨ret_fits HE.out.symm,rfl⟩
  ·have HE:Hid (decide (3≤n∧n%2=1)=false):=decide_eq_false (by omega);have h3:decide ((3:Int)≤n)=false:=decide_eq_false (by omega);go_enter Tryz.func88,Tryz.ntmps88;go_wp2;go_ret2;exact ⟨ret_fits HE.out.symm,rfl⟩
 all_goals
  go_enter Tryz.func88,Tryz.ntmps88;go_wp2;go_ret2;exact ⟨ret_fits (decide_eq_decide.2 (by omega)),rfl⟩
theorem kind_some (c:Cm) (w:World):Calls Tryz.prog 91 #[.string c.text] w (fun e w'=>e= .returned (.int .i64 c.kind)∧w'=w):=by
 cases c using Cm.elim;all_goals
  simp only [Cm.text,Cm.kind];go_enter Tryz.func91,Tryz.ntmps91;go_wp2;go_ret;exact ⟨rfl,rfl⟩
end Go.Proofs.YtjpeglkkkllagaaGreatDoor
