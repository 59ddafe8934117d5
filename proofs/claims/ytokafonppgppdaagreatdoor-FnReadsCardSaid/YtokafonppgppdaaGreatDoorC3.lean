import Derived.Test.YtokafonppgppdaaGreatDoorG2
set_option maxHeartbeats 4000000
set_option maxRecDepth 100000
namespace Go.Proofs.YtokafonppgppdaaGreatDoor
open Tryz
open Go.RowKit Go.Sort
open Kk (Rk rk0 zd7 zju zc6 zea zeb zec za9 zbk encR zdh)
variable {w w':World} {B B':Nat} {L:List KV} {v:Vl} {vi vp vr:Value}
theorem wpList_append_run {P:Program} {ops:Array Oper} {rest:List Oper} {o:Oper} {a:Act} {Q:Exit->Act->World->Prop} (hgd:o.guard=none) (s x:Operand) (t:TypeId)
  (ho:o.op= .call { callee:= .builtin .append,args:= #[s,x],argTypes:= #[t,t] }) {v y v':Value} (hs:a.eval s=v) (hx:a.eval x=y) (hr:(Builtin.append_ #[t,t] o.type #[v,y]).run P w= .ok v' w')
  (h:wpList P ops Q rest (a.put o.dst v') w'):wpList P ops Q (o::rest) a w:=
 wpList_plain hgd fun _ hK=>by
  unfold Oper.wp;simp [execOp,ho,resolve,invoke,builtin,hs,hx,hr,Result.andThen];exact hK _ _ h
theorem Rising.le {N:Nat} {β:Nat->Nat} (h:Rising w B L N β) (hB:B'<=B):Rising w B' L N β:=
 ⟨fun i hi=>Qj hB (h.low i hi),h.mono,h.top,h.own,h.lt1,h.lt2,h.lt3⟩
theorem zaw.le {v:Value} (h:zaw w B v L) (hB:B'<=B):zaw w B' v L:=by
 obtain ⟨β,hr⟩:=h.vals;exact ⟨Go.Joins.ownsRow_le h.row hB,β,hr.le hB⟩
theorem VRd.bw (h:VRd w v vi vp vr) (hb:Bl w w'):VRd w' v vi vp vr:=by
 obtain ⟨⟨a1,A1,o1,c1,e1,h1,f1⟩,⟨a2,A2,c2,e2,h2,f2⟩,⟨a3,A3,o3,c3,e3,h3,f3⟩⟩:=h;exact ⟨⟨a1,A1,o1,c1,e1,zdb h1 hb,f1⟩,⟨a2,A2,c2,e2,h2.bw hb,f2⟩,⟨a3,A3,o3,c3,e3,h3.bw hb,f3⟩⟩
theorem VOwn.rd (h:VOwn w B v vi vp vr) (hz:∀t∈v.ia,t.size<=1048576):VRd w v vi vp vr:=by
 have nil0:∀{e size n xs} {u:Value} {a:Option Addr} {m c:Nat},w.ownsRow B e size u n xs->u= .slice a m c->a=none->c=0:=by
  intro e size n xs u a m c ho hu ha;subst ha;obtain ⟨_,⟨hv,_⟩|⟨g,cap,cur,hv,_⟩⟩:=ho
  ·rw [hu] at hv;injection hv with _ _ hv
  ·rw [hu] at hv;injection hv with hv;cases hv
 obtain ⟨a1,A1,c1,e1,h1,_,_⟩:=zc0 h.ia hz;obtain ⟨a2,A2,c2,e2,h2⟩:=zdn h.pj;obtain ⟨a3,A3,c3,e3,h3⟩:=Kk.zcl h.rq;exact ⟨⟨a1,A1,0,c1,e1,h1,nil0 h.ia e1⟩,⟨a2,A2,c2,e2,h2,nil0 h.pj e2⟩,⟨a3,A3,0,c3,e3,h3,nil0 h.rq e3⟩⟩
abbrev zx8 (w:World) (v0 v1 v2 v3 v4 v5 v6:Value) (b:Nat):World:=((((((w.setCell ⟨b,0,none⟩ v0).setCell ⟨b,1,none⟩ v1).setCell ⟨b,2,none⟩ v2).setCell ⟨b,3,none⟩ v3).setCell ⟨b,4,none⟩ v4).setCell ⟨b,5,none⟩ v5).setCell ⟨b,6,none⟩ v6
theorem zg8 (w:World) (v0 v1 v2 v3 v4 v5 v6:Value) (b k:Nat) (h:k≠b):(zx8 w v0 v1 v2 v3 v4 v5 v6 b).heap[k]?=w.heap[k]?:=by
 have e:∀(w:World) (o:Nat) (v:Value),(w.setCell ⟨b,o,none⟩ v).heap[k]?=w.heap[k]?:=fun w o v=>Below.heap_setCell _ _ _ _ h;rw [e,e,e,e,e,e,e]
theorem zg7 {w1:World} (h:Below B w w1) (v0 v1 v2 v3 v4 v5 v6:Value) (b:Nat) (hb:B<=b):Below B w (zx8 w1 v0 v1 v2 v3 v4 v5 v6 b):=
 ((((((h.setCell hb _).setCell hb _).setCell hb _).setCell hb _).setCell hb _).setCell hb _).setCell hb _
abbrev z7:Array Value:= #[.string ⟨#[]⟩,.int .i64 0,.string ⟨#[]⟩,.slice none 0 0,.slice none 0 0,.slice none 0 0,.int .i64 0]
def zf5 (w:World) (k:Ke) (e:Ending) (w':World):Prop:=∃p1 d1 p2 d2 p3 d3,e= .returned (kvV ⟨k,.slice p1 k.val.ia.length d1,.slice p2 k.val.pj.length d2,.slice p3 k.val.rq.length d3⟩)/\VOwn w' w.heap.size k.val (.slice p1 k.val.ia.length d1) (.slice p2 k.val.pj.length d2) (.slice p3 k.val.rq.length d3)/\Bl w w'
theorem zfj (x:KV) (w:World) (h:VRd w x.key.val x.vi x.vp x.vr) (s1:x.key.val.ia.length<=1048577) (s2:x.key.val.pj.length<=1048577) (s3:x.key.val.rq.length<=1048577):
  Calls prog 102 #[kvV x] w (zf5 w x.key):=by
 obtain ⟨⟨nm,v,due⟩,vi,vp,vr⟩:=x;dsimp only at s1 s2 s3;show Calls prog 102 #[.agg (kC nm v.kind v.text vi vp vr due)] w (zf5 w ⟨nm,v,due⟩);have CV:Hid (∀W,Bl w W->Cp 144 #[vlV v.kind v.text vi vp vr] W fun e w'=>∃p1 d1 p2 d2 p3 d3,e= .returned (vlV v.kind v.text (.slice p1 v.ia.length d1) (.slice p2 v.pj.length d2) (.slice p3 v.rq.length d3))/\zcx w' W.heap.size (.slice p1 v.ia.length d1) v.ia/\zd2 w' W.heap.size (.slice p2 v.pj.length d2) v.pj/\za9 w' W.heap.size (.slice p3 v.rq.length d3) v.rq/\Bl W w'):=fun W hb=>by
  obtain ⟨⟨a1,A1,o1,c1,e1,h1,f1⟩,⟨a2,A2,c2,e2,h2,f2⟩,⟨a3,A3,o3,c3,e3,h3,f3⟩⟩:=h.bw hb;have e1':vi= .slice a1 v.ia.length c1:=e1;have e2':vp= .slice a2 v.pj.length c2:=e2;have e3':vr= .slice a3 v.rq.length c3:=e3;rw [e1',e2',e3'];exact zmq v.kind v.text a1 a2 a3 _ c1 _ c2 _ c3 A1 o1 A2 A3 o3 v.ia v.pj v.rq W h1 h2 h3 f1 f2 f3 s1 s2 s3
 have HEND:Hid (∀p1 d1 p2 d2 p3 d3 W',VOwn W' w.heap.size v (.slice p1 v.ia.length d1) (.slice p2 v.pj.length d2) (.slice p3 v.rq.length d3)->Bl w W'->zf5 w ⟨nm,v,due⟩ (.returned (.agg (kC nm v.kind v.text (.slice p1 v.ia.length d1) (.slice p2 v.pj.length d2) (.slice p3 v.rq.length d3) due))) W'):=fun p1 d1 p2 d2 p3 d3 W' u1 u2=>⟨p1,d1,p2,d2,p3,d3,rfl,u1,u2⟩;have hVO:Hid (∀W' p1 d1 p2 d2 p3 d3,zcx W' w.heap.size (.slice p1 v.ia.length d1) v.ia->zd2 W' w.heap.size (.slice p2 v.pj.length d2) v.pj->za9 W' w.heap.size (.slice p3 v.rq.length d3) v.rq->VOwn W' w.heap.size v (.slice p1 v.ia.length d1) (.slice p2 v.pj.length d2) (.slice p3 v.rq.length d3)):=fun W' p1 d1 p2 d2 p3 d3 u1 u2 u3=>⟨u1,u2,u3⟩;clear h;generalize v.ia.length=n1,v.pj.length=n2,v.rq.length=n3,v.kind=kd,v.text=t at*;have r1:=(zab.new w 47 (kC nm kd t vi vp vr due)).bw ((Qb _ _).alloc (Qc _) (.cells z7 47)) (by simp);have r2:=zab.new (w.alloc (.cells (kC nm kd t vi vp vr due) 47)) 47 z7;have bw:Bl w ((w.alloc (.cells (kC nm kd t vi vp vr due) 47)).alloc (.cells z7 47)):=Go.Joins.below_alloc2 _ _ _;have sw:((w.alloc (.cells (kC nm kd t vi vp vr due) 47)).alloc (.cells z7 47)).heap.size=w.heap.size+2:=by simp
 simp only [World.size_alloc] at r2;go_enter func102,ntmps102;go_wp2_with fail;generalize (w.alloc (.cells (kC nm kd t vi vp vr due) 47)).alloc (.cells z7 47)=w4 at*;obtain ⟨a0,a1,a2,a3,a4,a5,a6⟩:=zdo r1;have bd:Bl w4 w4.drew:=Hp.below_drewN w4 1;have bwd:Bl w w4.drew:=bw.trans (bd.mono (by omega));have l1:=r1.lt;have l2:=r2.lt
 go_region_with (first
  |(go_at_call 144;refine (CV.out _ bwd).mono ?_;rintro e w5 ⟨p1,d1,p2,d2,p3,d3,rfl,o1,o2,o3,b5⟩;have b45:Bl w4 w5:=bd.trans b5;obtain ⟨i0,i1,i2,i3,i4,i5,i6⟩:=zdo (r1.bw b45 l1);have q2:=r2.bw b45 l2;obtain ⟨m0,m1,m2,m3,m4,m5,m6⟩:=zdo q2;have f0:=q2.frozen 0;have f1:=q2.frozen 1;have f2:=q2.frozen 2;have f3:=q2.frozen 3;have f4:=q2.frozen 4;have f5:=q2.frozen 5;have f6:=q2.frozen 6))
 all_goals
  have hz:∀{e size n u xs},w5.ownsRow w4.heap.size e size u n xs->(zx8 w5 (.string nm) (.int .i64 kd) (.string t) (.slice p1 n1 d1) (.slice p2 n2 d2) (.slice p3 n3 d3) (.int .i64 due) (w.heap.size+1)).ownsRow w.heap.size e size u n xs:=fun hh=>Go.Joins.ownsRow_le (zai hh fun g hg=>zg8 w5 _ _ _ _ _ _ _ _ g (by have:=(zaz hh hg).1;omega)) (by omega);have hfin:zab (zx8 w5 (.string nm) (.int .i64 kd) (.string t) (.slice p1 n1 d1) (.slice p2 n2 d2) (.slice p3 n3 d3) (.int .i64 due) (w.heap.size+1)) (w.heap.size+1) 47 (kC nm kd t (.slice p1 n1 d1) (.slice p2 n2 d2) (.slice p3 n3 d3) due):=by
   have:=((((((q2.set 0 (.string nm)).set 1 (.int .i64 kd)).set 2 (.string t)).set 3 (.slice p1 n1 d1)).set 4 (.slice p2 n2 d2)).set 5 (.slice p3 n3 d3)).set 6 (.int .i64 due);simpa using this
  obtain ⟨g0,g1,g2,g3,g4,g5,g6⟩:=zdo hfin;have HE:Hid _:=HEND.out p1 d1 p2 d2 p3 d3 _ (hVO.out _ _ _ _ _ _ _ (hz o1) (hz o2) (hz o3)) (zg7 (bw.trans (b45.mono (by omega))) (.string nm) (.int .i64 kd) (.string t) (.slice p1 n1 d1) (.slice p2 n2 d2) (.slice p3 n3 d3) (.int .i64 due) (w.heap.size+1) (by omega));clear o1 o2 o3 b5 b45 HEND hVO CV q2 hz hfin;go_wp2;exact bodyPost_ret (v:= .agg (kC nm kd t (.slice p1 n1 d1) (.slice p2 n2 d2) (.slice p3 n3 d3) due)) (by simp [results,results102,go_sem,g0,g1,g2,g3,g4,g5,g6]) rfl HE.out
end Go.Proofs.YtokafonppgppdaaGreatDoor
