/- PROVED: FnLaid returns true at every list of bytes, and leaves it as it was: of keys and a size drawn from it impl.Laid and impl.NeedOf answer as the specification, and where the keys are laid they are read again, also from the packed heap, which is right and has just the room that is left. No condition beside those that the statement names. -/
import Derived.Test.YtjpeglkkkllagaaGreatDoorLW
import Derived.Test.YtjpeglkkkllagaaGreatDoorTie
import Derived.Test.YtjpeglkkkllagaaGreatDoorCards
import Derived.HandedShaped
import Derived.LaidMore
import Derived.Lib.LaidTab
import Derived.SevenTiedAt
import Derived.Shelf.Vars
import Derived.Stop.ErrReads
import Derived.Stop.LaidTwo
set_option maxRecDepth 100000
namespace Go.Proofs.YtjpeglkkkllagaaGreatDoor
open Go.ChangeShapes Go.WideShapes Go.ChangeAt Go.WideMaps Go.WideElems Go.RowKit Go.Deep
theorem own:ownKnob Tryz.prog.godebug=none:=by kernel_rfl
theorem laidOut:laidOutB Tryz.prog=true:=by kernel_rfl
theorem cells9:Tryz.prog.cellsOf 9=1:=by kernel_rfl
theorem cells241:Tryz.prog.cellsOf 236=1:=by kernel_rfl
theorem gPowType:(Tryz.prog.globals[3]?).map (·.type)=some 232:=by kernel_rfl
theorem gSynType:(Tryz.prog.globals[1]?).map (·.type)=some 210:=by kernel_rfl
theorem gRngType:(Tryz.prog.globals[2]?).map (·.type)=some 210:=by kernel_rfl
theorem starName: "*" ++ "errors.errorString" = "*errors.errorString" :=by decide
theorem row239 (u:TypeId) (h:Tryz.prog.typeName? 3 u=some "*errors.errorString"):u=234:=
 typeName_ptr_named (nm:= "errors.errorString") (by rw [starName];kernel_rfl) (by kernel_rfl) (by decide) u (by rw [starName];exact h)
def laidR:List (String×DataW Unit):=Rows.fnLaidRow.laid
theorem tab_of_laidR {W:World} (h:laidMetH Tryz.prog laidR W):Tab W:=by
 have h1:=h.filter (fun x=>x.1== "internal/strconv.uint64pow10");have e:laidR.filter (fun x=>x.1== "internal/strconv.uint64pow10")=[("internal/strconv.uint64pow10",Lib.tabData .u64 Lib.pow10Tab)]:=by kernel_rfl
 rw [e,MakeChecks.laidMetH_plain _ _ _ (by kernel_rfl)] at h1;exact Lib.tabIs_of_head gPow gPowType Tryz.underlying232 Tryz.underlying138 (by kernel_rfl) (by kernel_rfl) h1
theorem errs_of_laidR {W:World} (h:laidMetH Tryz.prog laidR W):
  (∃tp p,W.var? Tryz.prog "strconv.ErrRange" =some #[.iface tp p])∧(∃tp p,W.var? Tryz.prog "strconv.ErrSyntax" =some #[.iface tp p]):=by
 have h1:=h.filter (fun x=>x.1== "strconv.ErrRange"||x.1== "strconv.ErrSyntax");have e:laidR.filter (fun x=>x.1== "strconv.ErrRange"||x.1== "strconv.ErrSyntax")=[("strconv.ErrRange",Rows.laid_strconv_ErrRange),("strconv.ErrSyntax",Rows.laid_strconv_ErrSyntax)]:=by kernel_rfl
 rw [e,MakeChecks.laidMetH_plain _ _ _ (by kernel_rfl)] at h1;obtain ⟨a0,a1,s0,s1,c0,c1,t0,t1,hv0,hv1,_⟩:=laid_sentinels2 h1 gRng gRngType gSyn gSynType Tryz.underlying210 row239 Tryz.underlying234 Tryz.underlying236 rfl rfl Tryz.underlying9 cells241 cells9;exact ⟨⟨_,_,hv0⟩,⟨_,_,hv1⟩⟩
theorem six_of {W:World} (hsh:W.ShapedOpen Tryz.prog):6≤W.heap.size:=by
 have h5:(((begin Tryz.prog (fun _ _=>0) default).world.heap[5]?).bind Obj.row?).isSome=true:=by kernel_rfl
 obtain ⟨⟨zero,t⟩,hz⟩:=Option.isSome_iff_exists.1 h5;obtain ⟨cs,hh,_,_⟩:=hsh.1 5 zero t (by decide+kernel) hz;have:=(Array.getElem?_eq_some_iff.1 hh).1;omega
theorem ready_of {W:World} (h:laidMetH Tryz.prog laidR W) (hsh:W.ShapedOpen Tryz.prog):Ready W:=by
 obtain ⟨hr,hsy⟩:=errs_of_laidR h;exact ⟨tab_of_laidR h,hsy,hr,six_of hsh⟩
theorem door_met5 (os:Os) (args:Array Value):laidMetH Tryz.prog laidR ((World.doorLaid Tryz.prog 4001 os).forCall (fun _ _=>0) ⟨#[],args,[]⟩).memory:=
 laidMetH_of_parts3 (fuel:=8) (laidMet_of_run' 8 (by kernel_rfl) (by kernel_rfl)) (by kernel_rfl) (by kernel_rfl)
theorem cells5:Tryz.prog.cellsOf 5=1:=by kernel_rfl
theorem bytes_of_open {H:Type} {enc:TypeId×Value→H} {W:World} {a:Option Addr} {n c:Nat} {d:DataW H} {p:List MemPlace}
  (h:DataW.Trod enc Tryz.prog W 0 (fun _=>true) true 22 (.slice a n c) d p):
  BytesIn W a n W.heap.size∧n≤9223372036854775807:=by
 obtain ⟨fuel,hf⟩:=h;rcases open_ints Tryz.underlying22 Tryz.underlying5 cells5 hf with ⟨hcs,_⟩|⟨x,l,c,zs,hcs,_,hl,hm,hz,_,hcell,hw⟩
 ·simp [Value.cells] at hcs;obtain ⟨rfl,rfl,rfl⟩:=hcs;exact ⟨⟨fun h=>by omega⟩,by omega⟩
 ·simp [Value.cells] at hcs;obtain ⟨rfl,rfl,rfl⟩:=hcs;simp only [if_true] at hz;have hm':c≤9223372036854775807:=by simpa [maxLen] using hm
  refine ⟨⟨fun h0=>?_⟩,by omega⟩;obtain ⟨xb,xo,spot⟩:=x;have hspot:spot=none:=by simpa [Addr.add] using World.cell?_spot (hcell 0 (by omega))
  subst hspot;have hc:∀i,i<n→W.cell? ⟨xb,xo+i,none⟩=some (.int .u8 (zs.getD i 0)):=fun i hi=>by
   rw [←hcell i (by omega),Addr.add_lit]
  refine ⟨xb,xo,rfl,block_lt_of_cell (hc 0 (by omega)),fun i hi=>?_⟩;have hmem:zs.getD i 0∈zs:=by
   rw [List.getD_eq_getElem?_getD,List.getElem?_eq_getElem (by omega)];exact List.getElem_mem _
  obtain ⟨b0,b1⟩:=bounds_u8 (hw _ hmem);exact ⟨(zs.getD i 0).toNat,by omega,by rw [hc i hi,Int.toNat_of_nonneg b0]⟩
theorem laidLaw_lifted (os:Os) (started:os.Started) (H:Type) (enc:TypeId×Value→H):
  ReturnsInHanded {} Tryz.checked os 3 .any (fun w args=> (Rows.fnLaidSpec.pre enc Tryz.prog Tryz.f3 [] false w args∧laidMetH Tryz.prog laidR w)∧sizedMet enc Tryz.prog Tryz.f3 (OpenSpec.ofChange Rows.fnLaidSpec) false w args)
   (Rows.fnLaidSpec.post enc Tryz.prog Tryz.f3 false true false false):=by
 refine returnsInHanded_of_calls (C:=Tryz.checked) own started (by kernel_rfl)
  (ChangeSpec.witness_shaped (enc:=enc) (C:=Tryz.checked) (os:=os) (X:=fun w _=>laidMetH Tryz.prog laidR w) false (World.doorLaid Tryz.prog 4001 os) #[.slice none 0 0] 8 rfl (World.shaped_of_RefB (by kernel_rfl) (by kernel_rfl)) (by kernel_rfl) (by kernel_rfl) (by kernel_rfl) (door_met5 os _)) ?_
 intro w0 tape inp _ hsh _ hok hpre _;obtain ⟨_,_,_,fn,hfn,_,_,_,_,hval0⟩:=hok;obtain rfl:fn=Tryz.f3:=Option.some.inj (hfn.symm.trans Tryz.func3);obtain ⟨⟨⟨ds,gs,before,hw0,_⟩,hL0⟩,_⟩:=hpre;have hW:=DataW.Whole.of_heap (w':=w0.forCall tape inp) (by rfl) hw0;have hL:laidMetH Tryz.prog laidR (w0.forCall tape inp):=hL0.of_heap (by rfl);have hR:=ready_of hL hsh;generalize w0.forCall tape inp=W at*;generalize w0.heap.size=base at*;generalize inp.args=args at*;have hval:∀(j:Nat) t v,Tryz.f3.params[j]?=some t→args[j]?=some v→Value.okWide Tryz.prog W .any base t v:=hval0;have hW':=hW;obtain ⟨p,q,hA0,hV,rfl,hfz,hnd⟩:=hW;have hA:DataW.TrodAll enc Tryz.prog W 0 (fun _=>true) true Tryz.f3.params.toList args.toList ds p:=hA0;rw [Tryz.params3] at hA hval;obtain ⟨v0,d0,rfl,rfl,h0⟩:=trodAll_one hA;obtain ⟨rfl,rfl⟩:=trodVars_none hV;obtain ⟨a0,len0,cap0,rfl⟩:=okWide_slice Tryz.underlying22 (hval 0 22 v0 rfl rfl);have k0:=h0;have lt0:∀x∈p,x.block<W.heap.size:=by obtain ⟨m,hm⟩:=k0;exact DataW.trod_lt m _ _ _ hm
 obtain ⟨hs,hn⟩:=bytes_of_open h0;clear hA0 hval0;refine (laid_walk a0 len0 cap0 W hn hs hR).mono fun e W' ⟨he,bel⟩=>?_;subst he;exact ChangeSpec.post_blind ⟨_,_,_,[],_,[],hW',trodAll_mk1 (shut_bool Tryz.underlying4 _),trodAll_mk1 (Below.trod laidOut (by kernel_rfl) (of_decide_eq_true (by kernel_rfl)) k0 bel lt0),rfl,bel.frame _,fun h=>by cases h⟩
theorem laidLaw_row:Rows.FnLaidSaid:=
 OpenClaim.holds_of_wide 3 Tryz.f3 rfl rfl rfl rfl rfl rfl rfl ⟨rfl,rfl,rfl,rfl,rfl⟩ rfl rfl rfl rfl rfl (by kernel_rfl) Tryz.func3 (by kernel_rfl)
  (of_decide_eq_true (by kernel_rfl)) (by unfold Func.isWrapper;first|(rw [if_pos (by decide+kernel)];kernel_rfl)|(rw [if_neg (by decide+kernel)];exact ⟨rfl,rfl⟩))
  (fun os started H enc _=>laidLaw_lifted os started H enc)
theorem laidLaw_holds:Rows.FnLaidCardSaid:=
 Claim7.holds_tied_plain_at .later [] [.data,.data,.data,.sentinel,.sentinel] true (true, "34060a086c02d7a48fea74ab8d4683d7d7cfd76ab02742f057872704f6dfed3e") true
  laidLaw_row (fun _ h=>by cases h) (by kernel_rfl) (fun _ h=>by cases h) fnLaid_row_tie rfl ⟨rfl,rfl⟩ (by kernel_rfl) rfl
  (fun f fn hf hfn=>by
   obtain rfl:f=3:=Option.some.inj ((show Tryz.prog.funcNamed Rows.fnLaidRow.func=some 3 by kernel_rfl).symm.trans hf)|>.symm;obtain rfl:fn=Tryz.f3:=(Option.some.inj (Tryz.func3.symm.trans hfn)).symm
   exact ⟨by kernel_rfl,fun j t ht=>by
    rw [Tryz.params3] at ht;have hm:t∈ [22]:=by simpa using Array.mem_of_getElem? ht
    have hall:([22].all fun u=>!Tryz.prog.wantsStandIn u)=true:=by kernel_rfl
    exact (show Tryz.prog.wantsStandIn t=false by simpa using List.all_eq_true.1 hall t hm)⟩)
  (by kernel_rfl)
#print axioms laidLaw_holds
end Go.Proofs.YtjpeglkkkllagaaGreatDoor
