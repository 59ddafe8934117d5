import Derived.Test.YtibhabajknikcaaGreatDoorFO
import Derived.RangeFuncNested
import Derived.RangeFuncBound
import Derived.RangeFuncCalls
import Derived.RangeFuncLeaves
import Derived.Shelf.Abstract
import Derived.Shelf.RegionOpen
import Derived.WalkKit
import Derived.OwnWalkIn
import Derived.TacticsInMore
import Derived.LoopNIn
import Derived.LoopIn
import Derived.Maps.AppendAt
import Derived.Deep.RegionWith
import Derived.Deep.RegionHeld3
import Derived.Deep.Cut
set_option maxHeartbeats 4000000
set_option maxRecDepth 100000
namespace Go.Proofs.YtibhabajknikcaaGreatDoor.Fd
open Go.RowKit Go.Sort Go.Shelf
attribute [local go_sem] Oper.semAt_some
structure InvF (w:World) (R:Loop) (t:ByteArray) (c:Int) (acc:List (List (List UInt8))) (v:Value) (xs:List Value) (W:World):Prop where
 feed:RowAt W w.heap.size 190 #[.string t,.int .i64 c]
 box:RowAt W (w.heap.size+1) 25 #[v]
 own:Own2 W (w.heap.size+4) v xs (rowsOf acc)
 loop:W.heap[w.heap.size+3]?=some (.loop R)
 defs:W.heap[w.heap.size+2]?=some (.deferred (some []))
 low:Below w.heap.size w W
theorem InvF.size {w:World} {R:Loop} {t:ByteArray} {c:Int} {acc:List (List (List UInt8))} {v:Value} {xs:List Value} {W:World} (h:InvF w R t c acc v xs W):w.heap.size+4≤W.heap.size:=by
 have:=(Array.getElem?_eq_some_iff.1 h.loop).1;omega
theorem InvF.grow {w:World} {R:Loop} {t:ByteArray} {c:Int} {acc:List (List (List UInt8))} {v:Value} {xs:List Value} {W W':World} (h:InvF w R t c acc v xs W) (b:Below W.heap.size W W'):InvF w R t c acc v xs W':=by
 have hs:=h.size;exact ⟨h.feed.below b h.feed.lt,h.box.below b h.box.lt,h.own.below b,(b.block _ (by omega)).trans h.loop,(b.block _ (by omega)).trans h.defs,h.low.trans (b.mono (by omega))⟩
theorem Own2.grown {W W':World} {B g:Nat} {v:Value} {xs:List Value} {rows:List (List Value)} (h:Own2 W B v xs rows) (hg:W.grownBy W' (some g)) (hB:g<B):Own2 W' B v xs rows:=
 ⟨h.outer.kept hg (.inr fun e=>by have:=(h.outer.lt g e).1;omega),fun i r hr=>by
  obtain ⟨x,h1,h2⟩:=h.inner i r hr;exact ⟨x,h1,h2.kept hg (.inr fun e=>by have:=(h2.lt g e).1;omega)⟩,h.up⟩
theorem InvF.text {w:World} {R:Loop} {t:ByteArray} {c:Int} {acc:List (List (List UInt8))} {v:Value} {xs:List Value} {W:World} (h:InvF w R t c acc v xs W) (t':ByteArray):InvF w R t' c acc v xs (W.setCell ⟨w.heap.size,0,none⟩ (.string t')):=by
 refine ⟨?_,(Below.heap_setCell _ _ _ _ (by simp only;omega)).trans h.box,h.own.grown (grown_set W w.heap.size 0 _) (by omega),(Below.heap_setCell _ _ _ _ (by simp only;omega)).trans h.loop,(Below.heap_setCell _ _ _ _ (by simp only;omega)).trans h.defs,h.low.setCell (p:=⟨w.heap.size,0,none⟩) (Nat.le_refl _) _⟩;have:=h.feed.set 0 (.string t');simpa using this
theorem InvF.code {w:World} {R:Loop} {t:ByteArray} {c:Int} {acc:List (List (List UInt8))} {v:Value} {xs:List Value} {W:World} (h:InvF w R t c acc v xs W) (c':Int):InvF w R t c' acc v xs (W.setCell ⟨w.heap.size,1,none⟩ (.int .i64 c')):=by
 refine ⟨?_,(Below.heap_setCell _ _ _ _ (by simp only;omega)).trans h.box,h.own.grown (grown_set W w.heap.size 1 _) (by omega),(Below.heap_setCell _ _ _ _ (by simp only;omega)).trans h.loop,(Below.heap_setCell _ _ _ _ (by simp only;omega)).trans h.defs,h.low.setCell (p:=⟨w.heap.size,1,none⟩) (Nat.le_refl _) _⟩;have:=h.feed.set 1 (.int .i64 c');simpa using this
def lenAt (W:World) (b:Nat):Nat:=match W.cell? ⟨b,0,none⟩ with
 |some v=>strLen v
 |none=>0
theorem lenAt_of {W:World} {b:Nat} {t:ByteArray} {x:Value} (h:RowAt W b 190 #[.string t,x]):lenAt W b=t.size:=by
 have:=h.cell 0;simp at this;unfold lenAt;rw [this];rfl
def IterEnd (w:World) (R:Loop) (l:List UInt8) (W:World):Prop:=
 ∃t c acc v xs,InvF w R t c acc v xs W∧((c=2∧fedM l=(acc,[],false))∨(c=1∧fedM l=(acc,t.data.toList,true)))
def Takes (w:World) (R:Loop):Prop:=
 ∀(t:ByteArray) (c:Int) (acc:List (List (List UInt8))) (v:Value) (xs:List Value) (ts:List (List UInt8)) (a1:Option Addr) (c1 M:Nat) (W:World),InvF w R t c acc v xs W→W.ownsRow M 9 1 (.slice a1 ts.length c1) ts.length (strVals ts)→w.heap.size+4≤M→(∀y∈xs,∀a,y.ownBlock=some a→a<M)→acc.length≤2097152→
  YieldAt Fence.wide 3 Tryz.prog (w.heap.size+3) #[.slice a1 ts.length c1] W (fun e W'=>e= .returned (.bool true)∧∃v' xs',InvF w R t c (acc++ [ts]) v' xs' W')
theorem iter_in (w:World) (R:Loop) (t0:ByteArray) (l:List UInt8) (W:World) (hr:Ready w) (hl:t0.data.toList=l) (hs:t0.size≤2097152) (hT:Takes w R) (h0:InvF w R t0 0 [] (.slice none 0 0) [] W):
  CallsIn Fence.wide 4 Tryz.prog 146 #[.pointer (some ⟨w.heap.size,0,none⟩),.func (.yield (w.heap.size+3)) #[] #[]] W (fun e W'=> (∃v,e= .returned v)∧IterEnd w R l W'):=by
 have HT:Hid (Takes w R):=hT;have HR:Hid (Ready w):=hr;have hsix:=hr.six;clear hT hr;refine callsIn_of_wp Tryz.func146 rfl trivial ?_;simp only [Tryz.ntmps146,List.size_toArray,List.length_cons,List.length_nil,Nat.reduceAdd,Nat.reduceSub,Array.replicate_succ,Array.replicate_zero,List.push_toArray,List.append_toArray,List.nil_append,List.cons_append];gi_wp2;gi_loopw [4] (fun _ wr=>∃(t:ByteArray) (c:Int) (acc:List (List (List UInt8))) (v:Value) (xs:List Value),InvF w R t c acc v xs wr∧acc.length+t.size≤t0.size∧Hid (fedM l=addReqs acc (fedM t.data.toList))) (fun _ wr=>lenAt wr w.heap.size)
 case atStart=>exact ⟨t0,0,[],_,[],h0,by simp,by unfold Hid;rw [hl,add_nil]⟩
 case round=>
  obtain ⟨t,c,acc,v,xs,hI,hlen,hf⟩:=hrel;clear h0 hl;have c0:=hI.feed.cell 0;have c1:=hI.feed.cell 1;simp at c0 c1;have HC:=readReq t wr (by omega) (HR.out.below (hI.low.mono hsix));cases hm:requestM t.data.toList with
  | inl k=>
   rw [hm] at HC;have HC':Hid (Calls Tryz.prog 200 #[.string t] wr fun e w'=>e= .returned (.tuple #[.slice none 0 0,.int .i64 0,.int .i64 k])∧Below wr.heap.size wr w'):=HC;have hk:=requestM_codes hm;have hkz:(k !=0)=true:=by simp;omega
   have HE:Hid ((k=2∧fedM l=(acc,[],false))∨(k=1∧fedM l=(acc,t.data.toList,true))):=by
    unfold Hid;rcases hk with rfl | rfl
    ·right;rw [hf.out,fed_more hm (by omega)];simp [addReqs]
    ·left;rw [hf.out,fed_bad hm];simp [addReqs]
   clear HC hm hk hf;gi_wp2_with fail;refine ⟨trivial,(callsIn_wide.2 HC'.out).mono ?_⟩;rintro e w1 ⟨rfl,b1⟩;have hI1:=hI.grow b1;have d0:=hI1.feed.cell 0;have d1:=hI1.feed.cell 1;simp at d0 d1;have f1:=hI1.feed.frozen 1;have H2:Hid _:=hI1.code k;clear hI hI1 b1 HC' c0 c1;gi_wp2;exact bodyPost_ret (results_none rfl _ _ _) rfl ⟨⟨_,rfl⟩,_,_,_,_,_,H2.out,HE.out⟩
  | inr p=>
   obtain ⟨ts,u⟩:=p;rw [hm] at HC;obtain ⟨h16,_,hu0,hu1⟩:=request_fits hm;rw [← Lib.size_eq] at hu1;have HC':Hid (Calls Tryz.prog 200 #[.string t] wr fun e w'=>∃v,e= .returned (.tuple #[v,.int .i64 u,.int .i64 0])∧w'.ownsRow wr.heap.size 9 1 v ts.length (strVals ts)∧Below wr.heap.size wr w'):=HC;have HF:Hid (fedM l=addReqs (acc++if ts=[] then [] else [ts]) (fedM (t.extract u t.size).data.toList)):=by
    unfold Hid;rw [hf.out,fed_step hm,add_put,drop_str t u hu1]
   have HX:Hid (∀y∈xs,∀a,y.ownBlock=some a→a < wr.heap.size):=fun y hy a ha=> (hI.own.blocks y hy a ha).2;have hui:(u:Int)≤(t.size:Int):=by omega
   have hsz1:(t.extract u t.size).size=t.size - u:=by simp
   have hsr:=hI.size;have LT:Hid (lenAt wr w.heap.size=t.size):=lenAt_of hI.feed;clear HC hm hf;gi_wp2_with fail;refine ⟨trivial,(callsIn_wide.2 HC'.out).mono ?_⟩;rintro e w1 ⟨v1,rfl,o1,b1⟩;obtain ⟨a1,k1,rfl⟩:=slice_any o1;have hI1:=hI.grow b1;have d0:=hI1.feed.cell 0;have d1:=hI1.feed.cell 1;simp at d0 d1;have f1:=hI1.feed.frozen 1;have f0:=hI1.feed.frozen 0;have HI1:Hid _:=hI1;clear hI hI1 b1 HC' c0 c1;have H2:Hid _:=(HI1.out.code 0).text (t.extract u t.size);have O2:Hid _:=ownsRow_setCell_below (ownsRow_setCell_below o1 (a:=⟨w.heap.size,1,none⟩) (by simp only;omega) (.int .i64 0)) (a:=⟨w.heap.size,0,none⟩) (by simp only;omega) (.string (t.extract u t.size));have L1:=LT;by_cases ht:ts=[]
   ·subst ht;have HF':Hid (fedM l=addReqs acc (fedM (t.extract u t.size).data.toList)):=by
     have:=HF.out;rwa [if_pos rfl,List.append_nil] at this
    have L2:Hid _:=lenAt_of H2.out.feed;clear HF o1 HI1 O2 HT;gi_wp2_with fail;refine ⟨fun _ h=> (by cases h),?_⟩;gi_wp2;go_roundw
    case rel=>exact ⟨_,0,acc,v,xs,H2.out,by rw [hsz1];omega,HF'⟩
    case measure=>
     have e1:=L1.out;have e2:=L2.out;rw [e1,e2,hsz1];omega
   ·have HF':Hid (fedM l=addReqs (acc++ [ts]) (fedM (t.extract u t.size).data.toList)):=by
     have:=HF.out;rwa [if_neg ht] at this
    have hpos:0 < ts.length:=List.length_pos_iff.2 ht;have hdp:(0:Int) < (ts.length:Int):=by omega
    obtain ⟨fn,tmps,assign,body,hy,hR⟩:=HT.out (t.extract u t.size) 0 acc v xs ts a1 k1 wr.heap.size _ H2.out O2.out hsr HX.out (by omega);clear HF ht o1 HI1 O2 HT H2 HX;gi_wp2;refine hR.mono ?_;rintro e W3 ⟨rfl,v',xs',hI3⟩;have L3:Hid _:=lenAt_of hI3.feed;have HI3:Hid _:=hI3;clear hI3 hy;gi_wp2;go_roundw
    case rel=>exact ⟨_,0,acc++ [ts],v',xs',HI3.out,by rw [hsz1,List.length_append,List.length_singleton];omega,HF'⟩
    case measure=>
     have e1:=L1.out;have e2:=L3.out;rw [e1,e2,hsz1];omega
end Go.Proofs.YtibhabajknikcaaGreatDoor.Fd
namespace Go.Proofs.YtibhabajknikcaaGreatDoor.Fd
open Go.RowKit Go.Sort Go.Shelf
attribute [local go_sem] Oper.semAt_some
theorem InvF.put {w:World} {R:Loop} {t:ByteArray} {c:Int} {acc:List (List (List UInt8))} {v:Value} {xs:List Value} {W:World} (h:InvF w R t c acc v xs W) (R':Loop):InvF w R' t c acc v xs (W.putObj (w.heap.size+3) (.loop R')):=by
 have hs:=h.size;have hg:=grownBy_putObj' W (w.heap.size+3) (.loop R');exact ⟨(World.putObj_heap_other (by omega)).trans h.feed,(World.putObj_heap_other (by omega)).trans h.box,h.own.grown hg (by omega),World.putObj_heap_same (by omega),(World.putObj_heap_other (by omega)).trans h.defs,⟨hg.os.trans h.low.os,hg.tape.trans h.low.tape,hg.output.trans h.low.output,by have:=h.low.size;have:=hg.size;omega,fun k hk=> (World.putObj_heap_other (by omega)).trans (h.low.block k hk)⟩⟩
def Bodied (w:World) (R:Loop) (Rb:Loop) (a1f:Value→Act):Prop:=
 ∀(t:ByteArray) (c:Int) (acc:List (List (List UInt8))) (v:Value) (xs:List Value) (ts:List (List UInt8)) (a1:Option Addr) (c1 M:Nat) (W:World),InvF w Rb t c acc v xs W→W.ownsRow M 9 1 (.slice a1 ts.length c1) ts.length (strVals ts)→w.heap.size+4≤M→(∀y∈xs,∀a,y.ownBlock=some a→a<M)→acc.length≤2097152→
  R.body.wpIn (Fence.wide.inRound (w.heap.size+3)) 3 Tryz.prog (fun e _ W'=>e= .normal∧∃v' xs',InvF w Rb t c (acc++ [ts]) v' xs' W') (a1f (.slice a1 ts.length c1)) W
theorem takes_of (w:World) (R:Loop) (a1f:Value→Act) (hst:R.state= .ready) (hpe:R.pending=none) (hps:R.params.size=1)
  (hassign:∀(x:Value) (W:World) (K:Act→World→Prop),K (a1f x) W→R.assign.wpIn (Fence.wide.inRound (w.heap.size+3)) 3 Tryz.prog (Exit.then K (fun _ _ _=>False)) { tmps:=(R.params.zip #[x]).foldl (fun t (p,v)=>t.setIfInBounds p v) R.tmps,defers:=[] } W)
  (hbody:Bodied w R { R with state:= .busy } a1f):Takes w R:=by
 intro t c acc v xs ts a1 c1 M W hI hx hM hX hacc;refine ⟨R.fn,_,R.assign,R.body,run_yield (P:=Tryz.prog) hI.loop (by simpa using hps.symm),roundIn_of_wpIn trivial (hassign _ W _ ⟨_,run_beginRound hI.loop hst,?_⟩)⟩;have hI2:=hI.put { R with state:= .busy };have hx2:(W.putObj (w.heap.size+3) (.loop { R with state:= .busy })).ownsRow M 9 1 (.slice a1 ts.length c1) ts.length (strVals ts):=hx.kept (grownBy_putObj' W (w.heap.size+3) _) (.inr fun e=>by have:=(hx.lt _ e).1;omega);refine wpIn_mono (hbody t c acc v xs ts a1 c1 M _ hI2 hx2 hM hX hacc) ?_;rintro e a3 W3 ⟨rfl,v',xs',hI3⟩;have hr:=run_endRound (P:=Tryz.prog) none hI3.loop;have hR:({ { R with state:= .busy } with state:=if (none:Option Code).isNone then .ready else .done,pending:=none }:Loop)=R:=by
  cases R;simp at hst hpe;simp [hst,hpe]
 rw [hR] at hr;exact ⟨_,_,hr,rfl,v',xs',hI3.put R⟩
theorem wp_calm {F:Fence} {n:Nat} {P:Program} {c:Code} {Q:Exit→Act→World→Prop} {a:Act} {w:World} (h:c.wpIn F n P (Exit.then (fun a' w'=>Q .normal a' w') (fun _ _ _=>False)) a w):c.wpIn F n P Q a w:=
 wpIn_mono h (fun e a' w' hq=>by
  cases e with
  |normal=>exact hq
  |_=>exact hq.elim)
theorem range_bound {g:Operand} {ps:Array Tmp} {assign body:Code} {Q:Exit→Act→World→Prop} {a:Act} {w:World} (gf:Nat) (x:Value)
  (hg:a.eval g= .func (.func gf) #[x] #[]) (eg:∀args w,(callFunc gf args).run Tryz.prog w= .ok (.enter gf args) w)
  (h:∀(fn:FuncId) (R:Loop) (W1:World),R={ state:= .ready,pending:=none,fn,tmps:=a.tmps,params:=ps,assign,body,defers:=w.heap.size }→W1=(w.alloc (.deferred (some []))).alloc (.loop R)→
   CallsIn Fence.wide 4 Tryz.prog gf #[x,.func (.yield (w.heap.size+1)) #[] #[]] W1 (rangePost Fence.wide 5 Tryz.prog (w.heap.size+1) Q { a with defers:={ target:= .collected w.heap.size,args:= #[] }::a.defers })):
  (Code.rangeFunc g ps assign body).wpIn Fence.wide 5 Tryz.prog Q a w:=by
 refine wpIn_rangeFunc ?_;intro fn hfn;obtain ⟨R,hR⟩:∃R:Loop,R={ state:= .ready,pending:=none,fn,tmps:=a.tmps,params:=ps,assign,body,defers:=w.heap.size }:=⟨_,rfl⟩;obtain ⟨W1,hW1⟩:∃W1,W1=(w.alloc (.deferred (some []))).alloc (.loop R):=⟨_,rfl⟩;refine ⟨w.heap.size+1,[{ target:= .collected w.heap.size,args:= #[] }],W1,{ target:= .fn (.func gf) #[],args:= #[x,.func (.yield (w.heap.size+1)) #[] #[]] },W1,gf, #[x,.func (.yield (w.heap.size+1)) #[] #[]],W1,?_,?_,?_,?_,fun _=>by omega,h fn R W1 hR hW1⟩
 ·rw [hW1,hR];exact run_enterLoop_outer _ _ _ _ _
 ·simp only [resolve,hg];simp [go_sem]
 ·intro f' hf';trivial
 ·simp [invoke,go_sem,eg]
theorem implFed (a b:ByteArray) (w:World) (hr:Ready w) (hs:a.size+b.size≤2097152):
    Calls Tryz.prog 113 #[.string a,.string b] w (FedEnd w (fedM (a.data.toList++b.data.toList))):=by
  obtain ⟨i0,hi,hz0,hz1,hz2⟩:=info_parts info30;have hd:(a++b).data.toList=a.data.toList++b.data.toList:=by simp
  have hsz:(a++b).size=a.size+b.size:=ByteArray.size_append;rw [← hd];obtain ⟨l,hl⟩:∃l,(a++b).data.toList=l:=⟨_,rfl⟩;rw [hl];have hs0:(a++b).size≤2097152:=by omega
  refine (callsIn_wide (n:=5)).1 ?_;refine callsIn_of_wp_marks Tryz.func113 rfl trivial ?_;simp only [Tryz.ntmps113,List.size_toArray,List.length_cons,List.length_nil,Nat.reduceAdd,Nat.reduceSub,Array.replicate_succ,Array.replicate_zero,List.push_toArray,List.append_toArray,List.nil_append,List.cons_append];gi_wp2;generalize a++b=t0 at*;have z0:((w.alloc (.cells #[.string t0,.int .i64 0] 190)).alloc (.cells #[.slice none 0 0] 25)).heap.size=w.heap.size+2:=by simp
  have q0:RowAt ((w.alloc (.cells #[.string t0,.int .i64 0] 190)).alloc (.cells #[.slice none 0 0] 25)) w.heap.size 190 #[.string t0,.int .i64 0]:=RowAt.below (RowAt.new w 190 #[.string t0,.int .i64 0]) ((Below.refl _ _).alloc (Nat.le_refl _) _) (by simp);have q1:RowAt ((w.alloc (.cells #[.string t0,.int .i64 0] 190)).alloc (.cells #[.slice none 0 0] 25)) (w.heap.size+1) 25 #[.slice none 0 0]:=by
    have:=RowAt.new (w.alloc (.cells #[.string t0,.int .i64 0] 190)) 25 #[.slice none 0 0];simpa using this
  have bw:Below w.heap.size w ((w.alloc (.cells #[.string t0,.int .i64 0] 190)).alloc (.cells #[.slice none 0 0] 25)):=Joins.below_alloc2 _ _ _;generalize (w.alloc (.cells #[.string t0,.int .i64 0] 190)).alloc (.cells #[.slice none 0 0] 25)=W0 at*;refine range_bound 146 (.pointer (some ⟨w.heap.size,0,none⟩)) rfl (enters_of Tryz.func146 (by kernel_rfl) rfl) ?_;intro fn R W1 hR hW1;rw [z0] at hR ⊢;have h0:InvF w R t0 0 [] (.slice none 0 0) [] W1:=by
    have b1:Below W0.heap.size W0 W1:=by rw [hW1];exact Joins.below_alloc2 _ _ _
    refine ⟨q0.below b1 q0.lt,q1.below b1 q1.lt,Own2.nil _ _,?_,?_,bw.trans (b1.mono (by omega))⟩
    · rw [hW1];have:=World.alloc_heap_new (W0.alloc (.deferred (some []))) (.loop R);rwa [World.size_alloc,z0] at this
    · rw [hW1];have:=(Below.heap_alloc (W0.alloc (.deferred (some []))) (.loop R) W0.heap.size (by simp)).trans (World.alloc_heap_new W0 (.deferred (some [])));rwa [z0] at this
  have hT:Takes w R:=by
    refine takes_of w R ?_ (by rw [hR]) (by rw [hR]) (by rw [hR];rfl) ?_ ?_
    · exact fun x=>{ tmps:= #[.string a,.string b,undef,undef,.slice none 0 0,.string ⟨#[]⟩,.bool false,.pointer (some ⟨w.heap.size,0,none⟩),.pointer (some ⟨w.heap.size+1,0,none⟩),x,.string a,.string b,.string t0,.agg #[.string t0,.int .i64 0],.pointer (some ⟨w.heap.size,0,none⟩),.pointer (some ⟨w.heap.size,0,none⟩),.func (.func 146) #[.pointer (some ⟨w.heap.size,0,none⟩)] #[],x,undef,undef,undef,undef,undef,undef,undef,undef,undef,undef,undef,undef,undef,undef,undef,undef],defers:=[] }
    · intro x W K hK;subst hR;gi_wp2;exact hK
    · have hbd:=congrArg Loop.body hR;simp only at hbd;unfold Bodied;generalize ({ R with state:= .busy }:Loop)=Rb;rw [hbd];clear hbd hR hW1 h0;intro t c acc v xs ts a1 c1 M W hI hx hM hX hacc;have HI:Hid _:=hI;have hsw:=hI.size;have e0:=hI.box.cell 0;simp at e0;obtain ⟨o1,o2,hov⟩:=slice_any hI.own.outer;have hrl:(rowsOf acc).length≤2097152:=by rw [rowsOf_len];omega
      have HOut:W.ownsRow (w.heap.size+4) 28 1 v (rowsOf acc).length xs:=hI.own.outer;have HHx:Hid (W.ownsRow M 9 1 (.slice a1 ts.length c1) ts.length (strVals ts)):=hx;have HX:Hid (∀y∈xs,∀a,y.ownBlock=some a→a < M):=hX;clear hI hx hX;subst hov
      gi_wp2_with (gi_at_builtin;refine wpListIn_append_own _ rfl _ _ 25 rfl (w.heap.size+4) 28 i0 _ 1 24 Tryz.underlying25 hi hz0 hz1 hz2 rfl (by decide) _ _ _ rfl (HOut.alloc _) ⟨W.heap.size,0,none⟩ 1 1 [.slice a1 ts.length c1] rfl rfl (cell_one_new _ _ _) (by intro y hy;simp at hy;subst hy;rfl) (by unfold maxLen;omega) (by omega) (by simp;omega) ?_;intro v' w5 hown' hgrow hnil;obtain ⟨g',cap',rfl⟩:=ownsRow_succ hown'
                   have hold:∀k,k < W.heap.size→some k≠Value.ownBlock (.slice o1 (rowsOf acc).length o2)→w5.heap[k]?=W.heap[k]?:=fun k hk hne=>by
                     rw [hgrow.block k (by simp;omega) hne];exact Below.heap_alloc _ _ _ hk
                   have hnb:∀k,k < w.heap.size+4→some k≠Value.ownBlock (.slice o1 (rowsOf acc).length o2):=fun k hk e=>by have:=(HOut.lt k e.symm).1;omega
                   have bx:RowAt w5 (w.heap.size+1) 25 #[.slice o1 (rowsOf acc).length o2]:=(hold _ (by omega) (hnb _ (by omega))).trans HI.out.box;have bc:=bx.cell 0;have bf:=bx.frozen 0;simp at bc)
      have hsz5:W.heap.size≤w5.heap.size:=by have:=hgrow.size;simp at this;omega
      have HN:Hid (InvF w Rb t c (acc++ [ts]) (.slice (some ⟨g',0,none⟩) ((rowsOf acc).length+1) cap') (xs++ [.slice a1 ts.length c1]) (w5.setCell ⟨w.heap.size+1,0,none⟩ (.slice (some ⟨g',0,none⟩) ((rowsOf acc).length+1) cap'))):=by
        have hI:=HI.out;have H5:Own2 w5 (w.heap.size+4) (.slice (some ⟨g',0,none⟩) ((rowsOf acc).length+1) cap') (xs++ [.slice a1 ts.length c1]) (rowsOf (acc++ [ts])):=by
          rw [rowsOf_snoc];exact hI.own.more (by rw [strVals_len];exact HHx.out) HX.out hM hown' hold hgrow.os hgrow.tape hgrow.output hsz5
        refine ⟨(Below.heap_setCell _ _ _ _ (by simp only;omega)).trans ((hold _ (by omega) (hnb _ (by omega))).trans hI.feed),?_,H5.grown (grown_set w5 (w.heap.size+1) 0 _) (by omega),(Below.heap_setCell _ _ _ _ (by simp only;omega)).trans ((hold _ (by omega) (hnb _ (by omega))).trans hI.loop),(Below.heap_setCell _ _ _ _ (by simp only;omega)).trans ((hold _ (by omega) (hnb _ (by omega))).trans hI.defs),?_⟩
        · have:=bx.set 0 (.slice (some ⟨g',0,none⟩) ((rowsOf acc).length+1) cap');simpa using this
        · exact Below.setCell (p:=⟨w.heap.size+1,0,none⟩) ⟨hgrow.os.trans hI.low.os,hgrow.tape.trans hI.low.tape,hgrow.output.trans hI.low.output,by have:=hI.low.size;omega,fun k hk=> (hold k (by omega) (hnb k (by omega))).trans (hI.low.block k hk)⟩ (Nat.le_succ _) _
      exact ⟨_,_,HN.out⟩
  refine (iter_in w R t0 l W1 hr hl hs0 hT h0).mono ?_;rintro e W2 ⟨⟨v,rfl⟩,t,c,acc,vl,xs,hI,hE⟩;obtain ⟨Rx,hRx⟩:∃Rx:Loop,Rx={ R with state:= .exhausted }:=⟨_,rfl⟩;have hI4:=hI.put Rx;obtain ⟨W4,hW4⟩:∃W4,W4=W2.putObj (w.heap.size+3) (.loop Rx):=⟨_,rfl⟩;have hpe:R.pending=none:=by rw [hR]
  have hrun:(Instr.endLoop (w.heap.size+3)).run Tryz.prog W2= .ok R.pending W4:=by
    rw [hW4,hRx];exact run_endLoop (P:=Tryz.prog) hI.loop (by rw [hR];simp)
  rw [hpe] at hrun;rw [← hW4] at hI4;refine ⟨none,W4,hrun,?_⟩;clear hT h0 hrun hI hW4 hW1 hpe hRx hR;have e0:=hI4.feed.cell 0;have e1:=hI4.feed.cell 1;have e2:=hI4.box.cell 0;simp at e0 e1 e2;have hK:=hI4.defs;have hOut:Hid (∀W5,Below W4.heap.size W4 W5→W5.heap[w.heap.size+2]?=some (.deferred (some []))∧Own2 (W5.putObj (w.heap.size+2) (.deferred none)) w.heap.size vl xs (rowsOf acc)∧Below w.heap.size w (W5.putObj (w.heap.size+2) (.deferred none))):=fun W5 b5=>by
    have hI5:=hI4.grow b5;have hg:=grownBy_putObj' W5 (w.heap.size+2) (.deferred none);have hs5:=hI5.size;exact ⟨hI5.defs,(hI5.own.grown hg (by omega)).base (by omega),⟨hg.os.trans hI5.low.os,hg.tape.trans hI5.low.tape,hg.output.trans hI5.low.output,by have:=hI5.low.size;have:=hg.size;omega,fun k hk=> (World.putObj_heap_other (by omega)).trans (hI5.low.block k hk)⟩⟩
  obtain ⟨o1,o2,hov⟩:=slice_any hI4.own.outer;subst hov;have HI4:Hid _:=hI4;clear hI4;rcases hE with ⟨rfl,hF⟩ | ⟨rfl,hF⟩
  · have HF:Hid (fedM l=(acc,[],false)):=hF;clear hF;gi_wp2;obtain ⟨k1,k2,k3⟩:=hOut.out W4 (Below.refl _ _);refine ⟨by simp,.inl ⟨_,_,rfl,run_takeDeferred k1,?_⟩⟩;refine ⟨.tuple #[.slice o1 (rowsOf acc).length o2,.string ⟨#[]⟩,.bool false],by simp [results,Tryz.results113,go_sem],?_⟩;show FedEnd w (fedM l) _ _;rw [HF.out];exact ⟨_,xs,rfl,k2,k3⟩
  · have HF:Hid (fedM l=(acc,t.data.toList,true)):=hF;have hts:t.size≤2097152:=by
      have h1:=fed_len l;rw [HF.out] at h1;have h2:t.data.toList.length≤l.length:=h1;rw [← Lib.size_eq,← hl,← Lib.size_eq] at h2;omega
    clear hF;gi_wp2_with fail;refine wp_calm ?_;refine wpIn_wide.2 ?_
    go_region_with (go_at_call 147
                    refine (clone60 t _ hts).mono ?_;rintro e w5 ⟨rfl,b5⟩;have b6:Below W4.heap.size W4 w5:=⟨b5.os,b5.tape,b5.output,b5.size,b5.block⟩;have e5:=(HI4.out.grow b6).box.cell 0;simp at e5)
    all_goals
      obtain ⟨k1,k2,k3⟩:=hOut.out w5 b6;clear b5 hOut;gi_wp2;refine ⟨by simp,.inl ⟨_,_,rfl,run_takeDeferred k1,?_⟩⟩;refine ⟨.tuple #[.slice o1 (rowsOf acc).length o2,.string t,.bool true],by simp [results,Tryz.results113,go_sem],?_⟩;show FedEnd w (fedM l) _ _;rw [HF.out];exact ⟨_,xs,rfl,k2,k3⟩
end Go.Proofs.YtibhabajknikcaaGreatDoor.Fd
