/- PROVED: FnExactDone returns true at every list of keys, time and list of words, and leaves them as they were: where their bulk is at most 1048576 impl.Done answers as spec.Done, writes into no argument, and its answer owns its memory (beyond that bulk the law itself says true). No condition beside those that the statement names. -/
import Derived.Test.YtokafonppgppdaaGreatDoorEX
import Derived.Test.YtokafonppgppdaaGreatDoorEv
import Derived.Test.YtokafonppgppdaaGreatDoorQ11
import Derived.Test.YtokafonppgppdaaGreatDoorTie
set_option maxHeartbeats 40000000
set_option maxRecDepth 100000
namespace Go.Proofs.YtokafonppgppdaaGreatDoor.Ev
open Go.ChangeShapes Go.WideShapes Go.ChangeAt Go.WideMaps Go.WideElems Go.RowKit Go.Deep
variable {H:Type}
theorem ya0 (os:Os) (args:Array Value):laidMetH Tryz.prog Ne ((World.doorLaid Tryz.prog 4001 os).forCall (fun _ _=>0) ⟨#[],args,[]⟩).memory:=
 laidMetH_of_parts3 (fuel:=8) (laidMet_of_run' 8 (by kernel_rfl) (by kernel_rfl)) (by kernel_rfl) (by kernel_rfl)
theorem Uh {enc:TypeId×Value->H} {P:Program} {w:World} {sp:Nat->Bool} {n:String} {ns:List String} {gs:List (DataW H)} {ps:List MemPlace} (h:DataW.TrodVars enc P w sp (n::ns) gs ps):∃d ds q,gs=d::ds/\DataW.TrodVars enc P w sp ns ds q:=by
 cases gs with
 |nil=>exact h.elim
 |cons d ds=>
  obtain ⟨g,t,cs,fuel,p,q,_,_,_,_,hs,_⟩:=h;exact ⟨d,ds,q,rfl,hs⟩
theorem lw (os:Os) (started:os.Started) (H:Type) (enc:TypeId×Value->H):
  ReturnsInHanded {} Tryz.checked os 11 .any (fun w args=> (Rows.fnExactDoneSpec.pre enc Tryz.prog Tryz.f11 [] false w args/\laidMetH Tryz.prog Ne w)/\sizedMet enc Tryz.prog Tryz.f11 (OpenSpec.ofChange Rows.fnExactDoneSpec) false w args)
   (Rows.fnExactDoneSpec.post enc Tryz.prog Tryz.f11 false true false false):=by
 refine returnsInHanded_of_calls (C:=Tryz.checked) own started (by kernel_rfl)
  (ChangeSpec.witness_shaped (enc:=enc) (C:=Tryz.checked) (os:=os) (X:=fun w _=>laidMetH Tryz.prog Ne w) false (World.doorLaid Tryz.prog 4001 os) #[.slice none 0 0,.int .i64 0,.slice none 0 0] 8 rfl (World.shaped_of_RefB (by kernel_rfl) (by kernel_rfl)) (by kernel_rfl) (by kernel_rfl) (by kernel_rfl) (ya0 os _)) ?_
 intro w0 tape inp _ hsh _ hok hpre _;obtain ⟨_,_,_,fn,hfn,_,_,_,_,hval0⟩:=hok;obtain rfl:fn=Tryz.f11:=Option.some.inj (hfn.symm.trans Tryz.func11);obtain ⟨⟨⟨ds,gs,before,hw0,_⟩,hL0⟩,_⟩:=hpre;have hW:=DataW.Whole.of_heap (w':=w0.forCall tape inp) (by rfl) hw0;have hL:laidMetH Tryz.prog Ne (w0.forCall tape inp):=hL0.of_heap (by rfl);obtain ⟨ad,hE⟩:=yhj hL hsh;generalize w0.forCall tape inp=W,w0.heap.size=base,inp.args=args at*;have hval:∀(j:Nat) t v,Tryz.f11.params[j]?=some t->args[j]?=some v->Value.okWide Tryz.prog W .any base t v:=hval0;have hW':=hW;obtain ⟨p,q,hA0,hV,rfl,hfz,hnd⟩:=hW;have hA:DataW.TrodAll enc Tryz.prog W 0 (fun _=>true) true Tryz.f11.params.toList args.toList ds p:=hA0;rw [Tryz.params11] at hA hval;obtain ⟨v0,v1,v2,d0,d1,d2,p0,p1,p2,rfl,rfl,rfl,h0,h1,h2⟩:=trodAll_three hA;obtain ⟨g1,gs1,q1,rfl,hV1⟩:=Uh hV;obtain ⟨g2,gs2,q2,rfl,hV2⟩:=Uh hV1;obtain ⟨g3,gs3,q3,rfl,hV3⟩:=Uh hV2;obtain ⟨g4,gs4,q4,rfl,hV4⟩:=Uh hV3;obtain ⟨g5,gs5,q5,rfl,hV5⟩:=Uh hV4;obtain ⟨g6,gs6,q6,rfl,hV6⟩:=Uh hV5;obtain ⟨g7,gs7,q7,rfl,hV7⟩:=Uh hV6;obtain ⟨g8,gs8,q8,rfl,hV8⟩:=Uh hV7;obtain ⟨rfl,_⟩:=trodVars_none hV8;obtain ⟨a0,l0,c0,rfl⟩:=okWide_slice Tryz.underlying51 (hval 0 51 v0 rfl rfl);obtain ⟨now,rfl⟩:=okWide_int Tryz.underlying2 (hval 1 2 v1 rfl rfl);obtain ⟨a2,l2,c2,rfl⟩:=okWide_slice Tryz.underlying25 (hval 2 25 v2 rfl rfl)
 have lt:∀{t:TypeId} {v:Value} {d:DataW H} {p:List MemPlace},DataW.Trod enc Tryz.prog W 0 (fun _=>true) true t v d p->∀x∈p,x.block<W.heap.size:=fun h=>by
  obtain ⟨m,hm⟩:=h;exact DataW.trod_lt m _ _ _ hm
 have k0:=h0;have k1:=h1;have k2:=h2;obtain ⟨f0,u0⟩:=k0;obtain ⟨f2,u2⟩:=k2;simp only [Value.cells] at u0 u2
 obtain ⟨a,n,c,L,e0,⟨b,off,hK⟩,hn,hKL,hFt⟩:=keys_of_read u0;obtain ⟨aa,ab,ao,ac,T,e2,hS,hm⟩:=strs_of_read u2;injection e0 with e01 e02 e03;injection e2 with e21 e22 e23;subst e01 e02 e03 e21 e22 e23
 clear hA0 hval0 hV1 hV2 hV3 hV4 hV5 hV6 hV7 hV8 u0 u2;refine (exact_walk _ b off _ _ L now _ ab ao _ _ T ad W hK hn hKL hFt hS hm hE).mono fun e W' ⟨he,bel⟩=>?_;subst he
 exact ChangeSpec.post_blind ⟨_,_,_,[],_,_,hW',trodAll_mk1 (shut_bool Tryz.underlying4 _),trodAll_mk3 (Below.trod laidOut (by kernel_rfl) (of_decide_eq_true (by kernel_rfl)) h0 bel (lt h0)) (Below.trod laidOut (by kernel_rfl) (of_decide_eq_true (by kernel_rfl)) h1 bel (lt h1)) (Below.trod laidOut (by kernel_rfl) (of_decide_eq_true (by kernel_rfl)) h2 bel (lt h2)),Below.trodVars laidOut bel (by kernel_rfl) hV,bel.frame _,fun h=>by cases h⟩
theorem lr:Rows.FnExactDoneSaid:=
 OpenClaim.holds_of_wide 11 Tryz.f11 rfl rfl rfl rfl rfl rfl rfl ⟨rfl,rfl,rfl,rfl,rfl⟩ rfl rfl rfl rfl rfl yfl Tryz.func11 yiy yjk yji
  (fun os started H enc _=>lw os started H enc)
end Go.Proofs.YtokafonppgppdaaGreatDoor.Ev
namespace Go.Proofs.YtokafonppgppdaaGreatDoor
open Go.ChangeShapes Go.WideShapes Go.ChangeAt Go.WideMaps Go.WideElems Go.RowKit Go.Deep
theorem law_holds:Rows.FnExactDoneCardSaid:=
 Claim7.holds_tied_plain_at .later [] [.data,.data,.data,.handle,.sentinel,.sentinel,.sentinel,.sentinel,.sentinel,.sentinel,.sentinel,.sentinel,.sentinel,.sentinel] true (true, "69c08158771bc1fd936d6d5fe8cec2f5f125db736789279105a448f9555d6864") true
  Ev.lr (fun _ h=>by cases h) Ev.wf4 (fun _ h=>by cases h) fnExactDone_row_tie rfl ⟨rfl,rfl⟩ Ev.ykd rfl
  (fun f fn hf hfn=>by
   obtain rfl:f=11:=Option.some.inj (Ev.yfl.symm.trans hf)|>.symm;obtain rfl:fn=Tryz.f11:=(Option.some.inj (Tryz.func11.symm.trans hfn)).symm
   exact ⟨Ev.yiu,fun j t ht=>by
    rw [Tryz.params11] at ht;have hm:t∈ [51,2,25]:=by simpa using Array.mem_of_getElem? ht
    have hall:([51,2,25].all fun u=>!Tryz.prog.wantsStandIn u)=true:=by kernel_rfl
    exact (show Tryz.prog.wantsStandIn t=false by simpa using List.all_eq_true.1 hall t hm)⟩)
  Ev.yj2
end Go.Proofs.YtokafonppgppdaaGreatDoor
