/- PROVED: FnExpires returns true at every list of bytes and leaves it as it was. No condition beside the statement's own. -/
import Derived.Test.YtokafonppgppdaaGreatDoorLX
import Derived.Test.YtokafonppgppdaaGreatDoorEv
import Derived.Test.YtokafonppgppdaaGreatDoorQ10
import Derived.Test.YtokafonppgppdaaGreatDoorTie
set_option maxHeartbeats 40000000
set_option maxRecDepth 100000
namespace Go.Proofs.YtokafonppgppdaaGreatDoor.Ev
open Go.ChangeShapes Go.WideShapes Go.ChangeAt Go.WideMaps Go.WideElems Go.RowKit Go.Deep
variable {H:Type}
theorem ya0 (os:Os) (args:Array Value):laidMetH Tryz.prog Ne ((World.doorLaid Tryz.prog 4001 os).forCall (fun _ _=>0) ⟨#[],args,[]⟩).memory:=
 laidMetH_of_parts3 (fuel:=8) (laidMet_of_run' 8 (by kernel_rfl) (by kernel_rfl)) (by kernel_rfl) (by kernel_rfl)
theorem zow {enc:TypeId×Value->H} {W:World} {a:Option Addr} {n c:Nat} {d:DataW H} {p:List MemPlace}
  (h:DataW.Trod enc Tryz.prog W 0 (fun _=>true) true 22 (.slice a n c) d p):
  BytesIn W a n W.heap.size/\n<=9223372036854775807:=by
 obtain ⟨fuel,hf⟩:=h;rcases open_ints Tryz.underlying22 Tryz.underlying5 cells5 hf with ⟨hcs,_⟩|⟨x,l,c,zs,hcs,_,hl,hm,hz,_,hcell,hw⟩
 ·simp [Value.cells] at hcs;obtain ⟨rfl,rfl,rfl⟩:=hcs;exact ⟨⟨fun h=>by omega⟩,by omega⟩
 ·simp [Value.cells] at hcs;obtain ⟨rfl,rfl,rfl⟩:=hcs;simp only [if_true] at hz;have hm':c<=9223372036854775807:=by simpa [maxLen] using hm
  refine ⟨⟨fun h0=>?_⟩,by omega⟩;obtain ⟨xb,xo,spot⟩:=x;have hspot:spot=none:=by simpa [Addr.add] using World.cell?_spot (hcell 0 (by omega))
  subst hspot;have hc:∀i,i<n->W.cell? ⟨xb,xo+i,none⟩=some (.int .u8 (zs.getD i 0)):=fun i hi=>by
   rw [<-hcell i (by omega),Addr.add_lit]
  refine ⟨xb,xo,rfl,block_lt_of_cell (hc 0 (by omega)),fun i hi=>?_⟩;have hmem:zs.getD i 0∈zs:=by
   rw [List.getD_eq_getElem?_getD,List.getElem?_eq_getElem (by omega)];exact List.getElem_mem _
  obtain ⟨b0,b1⟩:=bounds_u8 (hw _ hmem);exact ⟨(zs.getD i 0).toNat,by omega,by rw [hc i hi,Int.toNat_of_nonneg b0]⟩
theorem Uh {enc:TypeId×Value->H} {P:Program} {w:World} {sp:Nat->Bool} {n:String} {ns:List String} {gs:List (DataW H)} {ps:List MemPlace} (h:DataW.TrodVars enc P w sp (n::ns) gs ps):∃d ds q,gs=d::ds/\DataW.TrodVars enc P w sp ns ds q:=by
 cases gs with
 |nil=>exact h.elim
 |cons d ds=>
  obtain ⟨g,t,cs,fuel,p,q,_,_,_,_,hs,_⟩:=h;exact ⟨d,ds,q,rfl,hs⟩
theorem lw (os:Os) (started:os.Started) (H:Type) (enc:TypeId×Value->H):
  ReturnsInHanded {} Tryz.checked os 10 .any (fun w args=> (Rows.fnExpiresSpec.pre enc Tryz.prog Tryz.f10 [] false w args/\laidMetH Tryz.prog Ne w)/\sizedMet enc Tryz.prog Tryz.f10 (OpenSpec.ofChange Rows.fnExpiresSpec) false w args)
   (Rows.fnExpiresSpec.post enc Tryz.prog Tryz.f10 false true false false):=by
 refine returnsInHanded_of_calls (C:=Tryz.checked) own started (by kernel_rfl)
  (ChangeSpec.witness_shaped (enc:=enc) (C:=Tryz.checked) (os:=os) (X:=fun w _=>laidMetH Tryz.prog Ne w) false (World.doorLaid Tryz.prog 4001 os) #[.slice none 0 0] 8 rfl (World.shaped_of_RefB (by kernel_rfl) (by kernel_rfl)) (by kernel_rfl) (by kernel_rfl) (by kernel_rfl) (ya0 os _)) ?_
 intro w0 tape inp _ hsh _ hok hpre _;obtain ⟨_,_,_,fn,hfn,_,_,_,_,hval0⟩:=hok;obtain rfl:fn=Tryz.f10:=Option.some.inj (hfn.symm.trans Tryz.func10);obtain ⟨⟨⟨ds,gs,before,hw0,_⟩,hL0⟩,_⟩:=hpre;have hW:=DataW.Whole.of_heap (w':=w0.forCall tape inp) (by rfl) hw0;have hL:laidMetH Tryz.prog Ne (w0.forCall tape inp):=hL0.of_heap (by rfl);obtain ⟨ad,hE⟩:=yhj hL hsh;generalize w0.forCall tape inp=W,w0.heap.size=base,inp.args=args at*;have hval:∀(j:Nat) t v,Tryz.f10.params[j]?=some t->args[j]?=some v->Value.okWide Tryz.prog W .any base t v:=hval0;have hW':=hW;obtain ⟨p,q,hA0,hV,rfl,hfz,hnd⟩:=hW;have hA:DataW.TrodAll enc Tryz.prog W 0 (fun _=>true) true Tryz.f10.params.toList args.toList ds p:=hA0;rw [Tryz.params10] at hA hval;obtain ⟨v0,d0,rfl,rfl,h0⟩:=trodAll_one hA;obtain ⟨g1,gs1,q1,rfl,hV1⟩:=Uh hV;obtain ⟨g2,gs2,q2,rfl,hV2⟩:=Uh hV1;obtain ⟨g3,gs3,q3,rfl,hV3⟩:=Uh hV2;obtain ⟨g4,gs4,q4,rfl,hV4⟩:=Uh hV3;obtain ⟨g5,gs5,q5,rfl,hV5⟩:=Uh hV4;obtain ⟨g6,gs6,q6,rfl,hV6⟩:=Uh hV5;obtain ⟨g7,gs7,q7,rfl,hV7⟩:=Uh hV6;obtain ⟨g8,gs8,q8,rfl,hV8⟩:=Uh hV7;obtain ⟨rfl,_⟩:=trodVars_none hV8;obtain ⟨a0,len0,cap0,rfl⟩:=okWide_slice Tryz.underlying22 (hval 0 22 v0 rfl rfl);have k0:=h0;have lt0:∀x∈p,x.block<W.heap.size:=by
  obtain ⟨m,hm⟩:=k0;exact DataW.trod_lt m _ _ _ hm
 obtain ⟨hs,hn⟩:=zow h0;clear hA0 hval0 hV1 hV2 hV3 hV4 hV5 hV6 hV7 hV8;refine (Er.yl2 a0 len0 cap0 W hn hs ad hE).mono fun e W' ⟨he,bel⟩=>?_;subst he;exact ChangeSpec.post_blind ⟨_,_,_,[],_,_,hW',trodAll_mk1 (shut_bool Tryz.underlying4 _),trodAll_mk1 (Below.trod laidOut (by kernel_rfl) (of_decide_eq_true (by kernel_rfl)) k0 bel lt0),Below.trodVars laidOut bel (by kernel_rfl) hV,bel.frame _,fun h=>by cases h⟩
theorem lr:Rows.FnExpiresSaid:=
 OpenClaim.holds_of_wide 10 Tryz.f10 rfl rfl rfl rfl rfl rfl rfl ⟨rfl,rfl,rfl,rfl,rfl⟩ rfl rfl rfl rfl rfl yfl Tryz.func10 yiy yjk yji
  (fun os started H enc _=>lw os started H enc)
end Go.Proofs.YtokafonppgppdaaGreatDoor.Ev
namespace Go.Proofs.YtokafonppgppdaaGreatDoor
open Go.ChangeShapes Go.WideShapes Go.ChangeAt Go.WideMaps Go.WideElems Go.RowKit Go.Deep
theorem law_holds:Rows.FnExpiresCardSaid:=
 Claim7.holds_tied_plain_at .later [] [.data,.data,.data,.handle,.sentinel,.sentinel,.sentinel,.sentinel,.sentinel,.sentinel,.sentinel,.sentinel,.sentinel,.sentinel] true (true, "69c08158771bc1fd936d6d5fe8cec2f5f125db736789279105a448f9555d6864") true
  Ev.lr (fun _ h=>by cases h) Ev.wf4 (fun _ h=>by cases h) fnExpires_row_tie rfl ⟨rfl,rfl⟩ Ev.ykd rfl
  (fun f fn hf hfn=>by
   obtain rfl:f=10:=Option.some.inj (Ev.yfl.symm.trans hf)|>.symm;obtain rfl:fn=Tryz.f10:=(Option.some.inj (Tryz.func10.symm.trans hfn)).symm
   exact ⟨Ev.yiu,fun j t ht=>by
    rw [Tryz.params10] at ht;have hm:t∈ [22]:=by simpa using Array.mem_of_getElem? ht
    have hall:([22].all fun u=>!Tryz.prog.wantsStandIn u)=true:=by kernel_rfl
    exact (show Tryz.prog.wantsStandIn t=false by simpa using List.all_eq_true.1 hall t hm)⟩)
  Ev.yj2
end Go.Proofs.YtokafonppgppdaaGreatDoor
