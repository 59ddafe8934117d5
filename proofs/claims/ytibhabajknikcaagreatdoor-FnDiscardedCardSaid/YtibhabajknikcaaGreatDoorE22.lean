/- PROVED: FnDiscarded returns true at every list of bytes, and leaves it, and the errors that the program keeps, as they were: of keys, a session and a time drawn from it impl.Asked and spec.Asked give the same reply to DISCARD; where they are right and the session is not dead, the keys are just those that are alive, nothing waits any more, and the reply is an error just where nothing was waiting. No condition beside those that the statement names. -/
import Derived.Test.YtibhabajknikcaaGreatDoorE21
import Derived.Test.YtibhabajknikcaaGreatDoorEf
import Derived.Test.YtibhabajknikcaaGreatDoorTie
import Derived.Test.YtibhabajknikcaaGreatDoorCards
import Derived.HandedShaped
import Derived.LaidMore
import Derived.Lib.LaidTab
import Derived.SevenTiedAt
import Derived.Shelf.Vars
import Derived.Stop.ErrReads
import Derived.Stop.LaidTwo
import Derived.OpenVars
set_option maxHeartbeats 40000000
set_option maxRecDepth 100000
namespace Go.Proofs.YtibhabajknikcaaGreatDoor.Er
open Go.ChangeShapes Go.WideShapes Go.ChangeAt Go.WideMaps Go.WideElems Go.RowKit Go.Deep
theorem own:ownKnob Tryz.prog.godebug=none:=by kernel_rfl
theorem laidOut:laidOutB Tryz.prog=true:=by kernel_rfl
theorem cells9:Tryz.prog.cellsOf 9=1:=by kernel_rfl
theorem cells5:Tryz.prog.cellsOf 5=1:=by kernel_rfl
theorem cells345:Tryz.prog.cellsOf 345=1:=by kernel_rfl
theorem gPow':Tryz.prog.globalNamed "internal/strconv.uint64pow10" =some 13:=by kernel_rfl
theorem gPowType:(Tryz.prog.globals[13]?).map (·.type)=some 314:=by kernel_rfl
theorem gSyn':Tryz.prog.globalNamed "strconv.ErrSyntax" =some 16:=by kernel_rfl
theorem gSynType:(Tryz.prog.globals[16]?).map (·.type)=some 89:=by kernel_rfl
theorem gRng':Tryz.prog.globalNamed "strconv.ErrRange" =some 17:=by kernel_rfl
theorem gRngType:(Tryz.prog.globals[17]?).map (·.type)=some 89:=by kernel_rfl
theorem gNo:Tryz.prog.globalNamed "loop.example/g00302/impl.errNoMulti" =some 3:=by kernel_rfl
theorem gNoType:(Tryz.prog.globals[3]?).map (·.type)=some 89:=by kernel_rfl
theorem gKind:Tryz.prog.globalNamed "loop.example/g00302/impl.errKind" =some 5:=by kernel_rfl
theorem gKindType:(Tryz.prog.globals[5]?).map (·.type)=some 89:=by kernel_rfl
theorem starName: "*" ++ "errors.errorString" = "*errors.errorString" :=by decide
theorem row343 (u:TypeId) (h:Tryz.prog.typeName? 3 u=some "*errors.errorString"):u=343:=
 typeName_ptr_named (nm:= "errors.errorString") (by rw [starName];kernel_rfl) (by kernel_rfl) (by decide) u (by rw [starName];exact h)
def laidR:List (String×DataW Unit):=Rows.fnDiscardedRow.laid
theorem tab_of_laidR {W:World} (h:laidMetH Tryz.prog laidR W):Tab W:=by
 have h1:=h.filter (fun x=>x.1== "internal/strconv.uint64pow10");have e:laidR.filter (fun x=>x.1== "internal/strconv.uint64pow10")=[("internal/strconv.uint64pow10",Lib.tabData .u64 Lib.pow10Tab)]:=by kernel_rfl
 rw [e,MakeChecks.laidMetH_plain _ _ _ (by kernel_rfl)] at h1;exact Lib.tabIs_of_head gPow' gPowType Tryz.underlying314 Tryz.underlying143 (by kernel_rfl) (by kernel_rfl) h1
theorem errs_of_laidR {W:World} (h:laidMetH Tryz.prog laidR W):
  (∃tp p,W.var? Tryz.prog "strconv.ErrRange" =some #[.iface tp p])∧(∃tp p,W.var? Tryz.prog "strconv.ErrSyntax" =some #[.iface tp p]):=by
 have h1:=h.filter (fun x=>x.1== "strconv.ErrRange"||x.1== "strconv.ErrSyntax");have e:laidR.filter (fun x=>x.1== "strconv.ErrRange"||x.1== "strconv.ErrSyntax")=[("strconv.ErrRange",Rows.laid_strconv_ErrRange),("strconv.ErrSyntax",Rows.laid_strconv_ErrSyntax)]:=by kernel_rfl
 rw [e,MakeChecks.laidMetH_plain _ _ _ (by kernel_rfl)] at h1;obtain ⟨a0,a1,s0,s1,c0,c1,t0,t1,hv0,hv1,_⟩:=laid_sentinels2 h1 gRng' gRngType gSyn' gSynType Tryz.underlying89 row343 Tryz.underlying343 Tryz.underlying345 rfl rfl Tryz.underlying9 cells345 cells9;exact ⟨⟨_,_,hv0⟩,⟨_,_,hv1⟩⟩
theorem six_of {W:World} (hsh:W.ShapedOpen Tryz.prog):25≤W.heap.size:=by
 have h5:(((begin Tryz.prog (fun _ _=>0) default).world.heap[24]?).bind Obj.row?).isSome=true:=by kernel_rfl
 obtain ⟨⟨zero,t⟩,hz⟩:=Option.isSome_iff_exists.1 h5;obtain ⟨cs,hh,_,_⟩:=hsh.1 24 zero t (by decide+kernel) hz;have:=(Array.getElem?_eq_some_iff.1 hh).1;omega
theorem no_of_laidR {W:World} (h:laidMetH Tryz.prog laidR W) (hsh:W.ShapedOpen Tryz.prog):∃pa pb,Errs W pa pb sNoMulti:=by
 have h1:=h.filter (fun x=>x.1== "loop.example/g00302/impl.errKind"||x.1== "loop.example/g00302/impl.errNoMulti");have e:laidR.filter (fun x=>x.1== "loop.example/g00302/impl.errKind"||x.1== "loop.example/g00302/impl.errNoMulti")=[("loop.example/g00302/impl.errKind",Rows.laid_loop_example_g00302_impl_errKind),("loop.example/g00302/impl.errNoMulti",Rows.laid_loop_example_g00302_impl_errNoMulti)]:=by kernel_rfl
 rw [e,MakeChecks.laidMetH_plain _ _ _ (by kernel_rfl)] at h1;obtain ⟨a0,a1,s0,s1,c0,c1,t0,t1,hv0,hv1,_,_,_,q3,q4,_,q6,q7,q8⟩:=laid_sentinels2 h1 gKind gKindType gNo gNoType Tryz.underlying89 row343 Tryz.underlying343 Tryz.underlying345 rfl rfl Tryz.underlying9 cells345 cells9;have e1:s1=sNoMulti:=by
  obtain ⟨d⟩:=s1;have:d=[110,111,32,109,117,108,116,105].toArray:=by
   rw [←q4]
  rw [this]
 subst e1;exact ⟨a1,a0,World.var?_cell gNo hv1 0,World.var?_cell gKind hv0 0,q3,by decide,fun e=>q6 e.symm,⟨_,_,q8⟩,⟨_,_,q7⟩,by have:=six_of hsh;omega⟩
theorem ready_of {W:World} (h:laidMetH Tryz.prog laidR W) (hsh:W.ShapedOpen Tryz.prog):Ready W:=by
 obtain ⟨hr,hsy⟩:=errs_of_laidR h;exact ⟨tab_of_laidR h,hsy,hr,six_of hsh⟩
theorem readyF_of {W:World} (h:laidMetH Tryz.prog laidR W) (hsh:W.ShapedOpen Tryz.prog):Fd.Ready W:=by
 obtain ⟨hr,hsy⟩:=errs_of_laidR h;exact ⟨tab_of_laidR h,cell_of_shapedOpen_int (g:=8) (t:=3) (zero:= #[.int .i64 0]) hsh (by decide+kernel) (by kernel_rfl) rfl (by kernel_rfl) (by kernel_rfl) Tryz.underlying3,hsy,hr,six_of hsh⟩
theorem door_met5 (os:Os) (args:Array Value):laidMetH Tryz.prog laidR ((World.doorLaid Tryz.prog 4001 os).forCall (fun _ _=>0) ⟨#[],args,[]⟩).memory:=
 laidMetH_of_parts3 (fuel:=8) (laidMet_of_run' 8 (by kernel_rfl) (by kernel_rfl)) (by kernel_rfl) (by kernel_rfl)
theorem bytes_of_open {H:Type} {enc:TypeId×Value→H} {W:World} {a:Option Addr} {n c:Nat} {d:DataW H} {p:List MemPlace}
  (h:DataW.Trod enc Tryz.prog W 0 (fun _=>true) true 22 (.slice a n c) d p):
  BytesIn W a n W.heap.size∧n≤9223372036854775807:=by
 obtain ⟨fuel,hf⟩:=h;rcases open_ints Tryz.underlying22 Tryz.underlying5 cells5 hf with ⟨hcs,_⟩|⟨x,l,c,zs,hcs,_,hl,hm,hz,_,hcell,hw⟩
 ·simp [Value.cells] at hcs;obtain ⟨rfl,rfl,rfl⟩:=hcs;exact ⟨⟨fun h=>by omega⟩,by omega⟩
 ·simp [Value.cells] at hcs;obtain ⟨rfl,rfl,rfl⟩:=hcs;simp only [if_true] at hz;have hm':c≤9223372036854775807:=by simpa [maxLen] using hm
  refine ⟨⟨fun h0=>?_⟩,by omega⟩;obtain ⟨xb,xo,spot⟩:=x;have hspot:spot=none:=by simpa [Addr.add] using World.cell?_spot (hcell 0 (by omega))
  subst hspot;have hc:∀i,i<n→W.cell? ⟨xb,xo+i,none⟩=some (.int .u8 (zs.getD i 0)):=fun i hi=>by
   rw [←hcell i (by omega),Addr.add_lit]
  refine ⟨xb,xo,rfl,block_lt_of_cell (hc 0 (by omega)),fun i hi=>?_⟩;have hmem:zs.getD i 0∈zs:=by
   rw [List.getD_eq_getElem?_getD,List.getElem?_eq_getElem (by omega)];exact List.getElem_mem _
  obtain ⟨b0,b1⟩:=bounds_u8 (hw _ hmem);exact ⟨(zs.getD i 0).toNat,by omega,by rw [hc i hi,Int.toNat_of_nonneg b0]⟩
theorem vars_cons {H:Type} {enc:TypeId×Value→H} {P:Program} {w:World} {sp:Nat→Bool} {n:String} {ns:List String} {gs:List (DataW H)} {ps:List MemPlace} (h:DataW.TrodVars enc P w sp (n::ns) gs ps):∃d ds q,gs=d::ds∧DataW.TrodVars enc P w sp ns ds q:=by
 cases gs with
 |nil=>exact h.elim
 |cons d ds=>
  obtain ⟨g,t,cs,fuel,p,q,_,_,_,_,hs,_⟩:=h;exact ⟨d,ds,q,rfl,hs⟩
theorem discLaw_lifted (os:Os) (started:os.Started) (H:Type) (enc:TypeId×Value→H):
  ReturnsInHanded {} Tryz.checked os 3 .any (fun w args=> (Rows.fnDiscardedSpec.pre enc Tryz.prog Tryz.f3 [] false w args∧laidMetH Tryz.prog laidR w)∧sizedMet enc Tryz.prog Tryz.f3 (OpenSpec.ofChange Rows.fnDiscardedSpec) false w args)
   (Rows.fnDiscardedSpec.post enc Tryz.prog Tryz.f3 false true false false):=by
 refine returnsInHanded_of_calls (C:=Tryz.checked) own started (by kernel_rfl)
  (ChangeSpec.witness_shaped (enc:=enc) (C:=Tryz.checked) (os:=os) (X:=fun w _=>laidMetH Tryz.prog laidR w) false (World.doorLaid Tryz.prog 4001 os) #[.slice none 0 0] 8 rfl (World.shaped_of_RefB (by kernel_rfl) (by kernel_rfl)) (by kernel_rfl) (by kernel_rfl) (by kernel_rfl) (door_met5 os _)) ?_
 intro w0 tape inp _ hsh _ hok hpre _;obtain ⟨_,_,_,fn,hfn,_,_,_,_,hval0⟩:=hok;obtain rfl:fn=Tryz.f3:=Option.some.inj (hfn.symm.trans Tryz.func3);obtain ⟨⟨⟨ds,gs,before,hw0,_⟩,hL0⟩,_⟩:=hpre;have hW:=DataW.Whole.of_heap (w':=w0.forCall tape inp) (by rfl) hw0;have hL:laidMetH Tryz.prog laidR (w0.forCall tape inp):=hL0.of_heap (by rfl);have hR:=ready_of hL hsh;have hF:=readyF_of hL hsh;obtain ⟨pa,pb,hE⟩:=no_of_laidR hL hsh;generalize w0.forCall tape inp=W at*;generalize w0.heap.size=base at*;generalize inp.args=args at*;have hval:∀(j:Nat) t v,Tryz.f3.params[j]?=some t→args[j]?=some v→Value.okWide Tryz.prog W .any base t v:=hval0;have hW':=hW;obtain ⟨p,q,hA0,hV,rfl,hfz,hnd⟩:=hW;have hA:DataW.TrodAll enc Tryz.prog W 0 (fun _=>true) true Tryz.f3.params.toList args.toList ds p:=hA0;rw [Tryz.params3] at hA hval;obtain ⟨v0,d0,rfl,rfl,h0⟩:=trodAll_one hA;obtain ⟨g1,gs1,q1,rfl,hV1⟩:=vars_cons hV;obtain ⟨g2,gs2,q2,rfl,hV2⟩:=vars_cons hV1;obtain ⟨g3,gs3,q3,rfl,hV3⟩:=vars_cons hV2;obtain ⟨g4,gs4,q4,rfl,hV4⟩:=vars_cons hV3;obtain ⟨g5,gs5,q5,rfl,hV5⟩:=vars_cons hV4;obtain ⟨g6,gs6,q6,rfl,hV6⟩:=vars_cons hV5;obtain ⟨g7,gs7,q7,rfl,hV7⟩:=vars_cons hV6;obtain ⟨g8,gs8,q8,rfl,hV8⟩:=vars_cons hV7;obtain ⟨g9,gs9,q9,rfl,hV9⟩:=vars_cons hV8;obtain ⟨g10,gs10,q10,rfl,hV10⟩:=vars_cons hV9;obtain ⟨g11,gs11,q11,rfl,hV11⟩:=vars_cons hV10;obtain ⟨rfl,_⟩:=trodVars_none hV11;obtain ⟨a0,len0,cap0,rfl⟩:=okWide_slice Tryz.underlying22 (hval 0 22 v0 rfl rfl);have k0:=h0;have lt0:∀x∈p,x.block<W.heap.size:=by
  obtain ⟨m,hm⟩:=k0;exact DataW.trod_lt m _ _ _ hm
 obtain ⟨hs,hn⟩:=bytes_of_open h0;clear hA0 hval0 hV1 hV2 hV3 hV4 hV5 hV6 hV7 hV8 hV9 hV10 hV11;refine (disc_walk a0 len0 cap0 W hn hs hR hF pa pb hE).mono fun e W' ⟨he,bel⟩=>?_;subst he;exact ChangeSpec.post_blind ⟨_,_,_,[],_,_,hW',trodAll_mk1 (shut_bool Tryz.underlying4 _),trodAll_mk1 (Below.trod laidOut (by kernel_rfl) (of_decide_eq_true (by kernel_rfl)) k0 bel lt0),Below.trodVars laidOut bel (by kernel_rfl) hV,bel.frame _,fun h=>by cases h⟩
theorem discLaw_row:Rows.FnDiscardedSaid:=
 OpenClaim.holds_of_wide 3 Tryz.f3 rfl rfl rfl rfl rfl rfl rfl ⟨rfl,rfl,rfl,rfl,rfl⟩ rfl rfl rfl rfl rfl named3 Tryz.func3 facts3 inst3 wrap3
  (fun os started H enc _=>discLaw_lifted os started H enc)
end Go.Proofs.YtibhabajknikcaaGreatDoor.Er
namespace Go.Proofs.YtibhabajknikcaaGreatDoor
open Go.ChangeShapes Go.WideShapes Go.ChangeAt Go.WideMaps Go.WideElems Go.RowKit Go.Deep
theorem discarded_holds:Rows.FnDiscardedCardSaid:=
 Claim7.holds_tied_plain_at .later [] [.data,.data,.data,.handle,.sentinel,.sentinel,.sentinel,.sentinel,.sentinel,.sentinel,.sentinel,.sentinel,.sentinel,.sentinel,.sentinel,.sentinel,.sentinel] true (true, "1352a90433190fb170125af28a82aae13d96e5f4aa36b3bee9ce4ae9e591e91e") true
  Er.discLaw_row (fun _ h=>by cases h) Er.wf3 (fun _ h=>by cases h) fnDiscarded_row_tie rfl ⟨rfl,rfl⟩ Er.main3 rfl
  (fun f fn hf hfn=>by
   obtain rfl:f=3:=Option.some.inj (Er.named3.symm.trans hf)|>.symm;obtain rfl:fn=Tryz.f3:=(Option.some.inj (Tryz.func3.symm.trans hfn)).symm
   exact ⟨Er.looks3,fun j t ht=>by
    rw [Tryz.params3] at ht;have hm:t∈ [22]:=by simpa using Array.mem_of_getElem? ht
    have hall:([22].all fun u=>!Tryz.prog.wantsStandIn u)=true:=by kernel_rfl
    exact (show Tryz.prog.wantsStandIn t=false by simpa using List.all_eq_true.1 hall t hm)⟩)
  Er.goes3
#print axioms discarded_holds
end Go.Proofs.YtibhabajknikcaaGreatDoor
