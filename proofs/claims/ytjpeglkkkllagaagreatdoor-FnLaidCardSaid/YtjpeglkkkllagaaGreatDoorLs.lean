import Derived.Test.YtjpeglkkkllagaaGreatDoorBc
import Derived.Test.YtjpeglkkkllagaaGreatDoorC21
set_option maxHeartbeats 4000000
set_option maxRecDepth 100000
namespace Go.Proofs.YtjpeglkkkllagaaGreatDoor
open Go.RowKit Go.Sort
theorem big_any (a:Option Addr) (n c:Nat) (w:World) (hn:n≤9223372036854775807):Calls Tryz.prog 4 #[.slice a n c] w fun e w'=>e= .returned (.bool (decide (1048576<n)))∧w'=w:=by
 go_enter Tryz.func4,Tryz.ntmps4;go_wp2;go_ret;exact ⟨zae (decide_eq_decide.2 (by omega)),rfl⟩
theorem sameDb_any (a a':Option Addr) (b b' n c c':Nat) (L L':List KV) (w:World) (h:DbAt w a b n L) (h':DbAt w a' b' n L') (he:L'.map KV.key=L.map KV.key) (hs:∀i,i<n→KSml (L.getD i kv0).key) (hn:n≤1000):
  Calls Tryz.prog 12 #[.slice a n c,.slice a' n c'] w fun e w'=>e= .returned (.bool true)∧Below w.heap.size w w':=by
 have HD:Hid (DbAt w a b n L):=h;have HD':Hid (DbAt w a' b' n L'):=h';have HE:Hid (∀i,(L'.getD i kv0).key=(L.getD i kv0).key):=fun i=>by rw [←key_at,←key_at,he]
 have HS:Hid (∀i,i<n→KSml (L.getD i kv0).key):=hs;clear h h' he hs;go_enter Tryz.func12,Tryz.ntmps12;go_wp2;go_loopw [5] (fun i wr=>∃(k:Nat),k≤n∧i= .int .i64 k∧Below w.heap.size w wr) (fun i _=>n-(intOf i).toNat)
 case atStart=>exact ⟨0,by omega,rfl,Below.refl _ _⟩
 case round=>
  obtain ⟨k,hk,rfl,bk⟩:=hrel;have sk:=bk.size;by_cases hlt:k<n
  ·have HW:=HD.out.below bk;have HW':=HD'.out.below bk;obtain ⟨B,hv⟩:=HW.val k hlt;obtain ⟨B',hv'⟩:=HW'.val k hlt;have hc:=HW.ks.cell k hlt;have hc':=HW'.ks.cell k hlt;obtain rfl:=HW.ks.addr (by omega);obtain rfl:=HW'.ks.addr (by omega);have q:=HS.out k hlt;have e:=HE.out k;generalize L.getD k kv0=y at*;generalize L'.getD k kv0=y' at*;obtain ⟨ky,vi,vp,vr⟩:=y;obtain ⟨ky',vi',vp',vr'⟩:=y';dsimp only at e hv hv' hc hc' q;have e2:=e.symm;subst e2;have n1:ky.val.items.length≤1000:=Nat.le_trans q.ni (by decide);have n2:ky.val.pairs.length≤1000:=Nat.le_trans q.np (by decide);have n3:ky.val.ranks.length≤1000:=Nat.le_trans q.nr (by decide);have hz:∀t∈ky.val.items,t.size≤1048576:=fun t ht=>Nat.le_trans (q.items t ht) (by decide);have cV:∀d os,Calls Tryz.prog 32 #[vlV ky.val.kind ky.val.text vi vp vr,vlV ky.val.kind ky.val.text vi' vp' vr'] (grow (redrawn wr d) os) fun e w''=>e= .returned (.bool true)∧∃p:Regrown,w''=grow (redrawn wr p.d) p.os:=fun d os=>Calls.regrown_of (sameValue_any ky.val vi vp vr vi' vp' vr' _ ((hv.below (below_regrown wr d os)).at hz) ((hv'.below (below_regrown wr d os)).at hz) n1 n2 n3);obtain ⟨c0,c1,c2,c3,c4,c5,c6⟩:=hc;obtain ⟨d0,d1,d2,d3,d4,d5,d6⟩:=hc';dsimp only at c0 c1 c2 c3 c4 c5 c6 d0 d1 d2 d3 d4 d5 d6;clear HW HW' hv hv' q n1 n2 n3 hz;obtain ⟨nm,⟨kd,t,_,_,_⟩,du⟩:=ky;dsimp only at c0 c1 c2 c3 c4 c5 c6 d0 d1 d2 d3 d4 d5 d6 cV;have kc0:=cell_regrown c0;have kc1:=cell_regrown c1;have kc2:=cell_regrown c2;have kc3:=cell_regrown c3;have kc4:=cell_regrown c4;have kc5:=cell_regrown c5;have kc6:=cell_regrown c6;have ke0:=cell_regrown d0;have ke1:=cell_regrown d1;have ke2:=cell_regrown d2;have ke3:=cell_regrown d3;have ke4:=cell_regrown d4;have ke5:=cell_regrown d5;have ke6:=cell_regrown d6;have hk0:(0:Int)≤(k:Int):=by omega
   have hkn:(k:Int)<(n:Int):=by omega
   clear c0 c1 c2 c3 c4 c5 c6 d0 d1 d2 d3 d4 d5 d6;go_wp2;refine wp_region_quiet_below (by kernel_rfl) (by kernel_rfl) ?_;repeat (first|go_big_quiet_skip|quiet_step (first|with_reducible exact cV _ _)|(go_big_quiet_want;go_big_quiet_op;go_big_quiet_on))
   refine wpQuiet_nil ?_;intro _ hw';obtain ⟨⟨dq,osq⟩,hw''⟩:=hw';subst hw'';have bq:=below_regrown wr dq osq;generalize grow (redrawn wr dq) osq=wq at*;go_wp2;go_roundw
   case rel=>exact ⟨k+1,by omega,by go_num,bk.trans (bq.mono sk)⟩
   case measure=>simp [intOf];omega
  ·go_wp2;go_ret;exact ⟨rfl,bk⟩
end Go.Proofs.YtjpeglkkkllagaaGreatDoor
