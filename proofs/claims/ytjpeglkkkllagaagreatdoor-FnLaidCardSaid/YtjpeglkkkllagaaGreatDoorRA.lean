import Derived.Test.YtjpeglkkkllagaaGreatDoorHc
import Derived.WalkKit
import Derived.WalkSpells
import Derived.WalkLawsBesides
import Derived.Deep.QuietTactic
import Derived.BigQuiet
import Derived.Lib.QuietBelow
import Derived.Lib.Builder
import Derived.OpenShut
import Derived.Lib.SmallJoins
import Derived.Deep.DeepCutAuto
import Derived.Deep.RegionWith
set_option maxHeartbeats 4000000
set_option maxRecDepth 100000
namespace Go.Proofs.YtjpeglkkkllagaaGreatDoor.Hp
open Go.RowKit
theorem heap_none (g n:Nat) (d:Nat→UInt8) (t:Nat→Bool) (w:World) (h:Arena w g d t n (.slice none 0 0)) (hn:n≤3000):
  Calls Tryz.prog 31 #[.pointer (some ⟨g,0,none⟩)] w fun e w'=>e= .returned (.agg #[.string ⟨((List.range n).map d).toArray⟩,.slice none 0 0])∧Below w.heap.size w w':=by
 obtain ⟨C,hr,hsz,hd,ht,hs,hc⟩:=h.row;have hlt:=hr.lt;have cs:=(hr.cell 6000).trans hs;have cc:=(hr.cell 6001).trans hc;go_enter Tryz.func31,Tryz.ntmps31;go_wp2;refine wp_loop_rounds 1 ?_;rw [rounds_succ];go_wp2;have hb:Below w.heap.size w (w.alloc (.cells #[.string ⟨#[]⟩,.slice none 0 0] 29)):=(Below.refl _ w).alloc (Nat.le_refl _) _;have hr1:=hr.below hb hlt;have hn1:=RowAt.new w 29 #[.string ⟨#[]⟩,.slice none 0 0];generalize w.alloc (.cells #[.string ⟨#[]⟩,.slice none 0 0] 29)=w1 at*;clear cs cc;have cs:=(hr1.cell 6000).trans hs;have d0:=hn1.cell 0;have d1:=hn1.cell 1;simp at d0 d1;have f0:=hn1.frozen 0;have f1:=hn1.frozen 1;have hcv:(convert 22 9 (.slice (some ⟨g,0,none⟩) n 3000)).run Tryz.prog w1.drew= .ok (.string ⟨((List.range n).map d).toArray⟩) w1.drew:=by
  have:=run_convert_bytes_back (P:=Tryz.prog) w1.drew 22 9 5 ⟨g,0,none⟩ 3000 ((List.range n).map d) Tryz.underlying22 Tryz.underlying5 Tryz.underlying9 ?_
  ·simpa using this
  ·intro j hj;have hj':j<n:=by simpa using hj
   rw [show w1.drew.cell? _=w1.cell? _ from rfl];have:=(hr1.cell j).trans (hd j (by omega));rw [Addr.add_lit,Nat.zero_add];simpa using this
 have HR1:Hid (RowAt w1 g 79 C):=hr1;have HN1:Hid (RowAt w1 w.heap.size 29 #[.string ⟨#[]⟩,.slice none 0 0]):=hn1;have hni:(n:Int)≤3000:=by omega
 clear hr1 hn1 hr hd ht hs hc h;have hb2:Below w.heap.size w ((w1.setCell ⟨w.heap.size,0,none⟩ (.string ⟨((List.range n).map d).toArray⟩)).setCell ⟨w.heap.size,1,none⟩ (.slice none 0 0)):=
  (hb.setCell (p:=⟨w.heap.size,0,none⟩) (Nat.le_refl _) _).setCell (p:=⟨w.heap.size,1,none⟩) (Nat.le_refl _) _
 have hr2:RowAt ((w1.setCell ⟨w.heap.size,0,none⟩ (.string ⟨((List.range n).map d).toArray⟩)).setCell ⟨w.heap.size,1,none⟩ (.slice none 0 0)) w.heap.size 29 #[.string ⟨((List.range n).map d).toArray⟩,.slice none 0 0]:=by
  have:=(HN1.out.set 0 (.string ⟨((List.range n).map d).toArray⟩)).set 1 (.slice none 0 0);simpa using this
 have e0:=hr2.cell 0;have e1:=hr2.cell 1;simp at e0 e1;go_region;go_wp2;refine bodyPost_ret (v:= .agg #[.string ⟨((List.range n).map d).toArray⟩,.slice none 0 0]) (by simp [results,Tryz.results31,go_sem,e0,e1]) rfl ⟨rfl,hb2.drew⟩
theorem implNew (n:Int) (w:World):
  Calls Tryz.prog 20 #[.int .i64 n] w fun e w'=>e= .returned (.tuple #[.agg #[.string (newM n).1,.slice none 0 0],.bool (newM n).2])∧Below w.heap.size w w':=by
 by_cases h:0≤n∧n≤3000
 ·obtain ⟨k,hk⟩:∃k:Nat,n=k:=⟨n.toNat,by omega⟩;subst hk;have hm:newM (k:Int)=(dataZ k,true):=by unfold newM;rw [if_pos h];rfl
  rw [hm];have d0:decide ((k:Int)<0)=false:=by simp
  have hzv:=zeroV56;have hzs:=zeros_len;have hzn:¬zc56= #[]:=fun e=>by rw [e] at hzs;cases hzs
  go_enter Tryz.func20,Tryz.ntmps20;go_wp2_with fail;have hb0:Below w.heap.size w (w.alloc (.cells #[.string ⟨#[]⟩,.slice none 0 0] 29)):=(Below.refl _ w).alloc (Nat.le_refl _) _;have hn0:=RowAt.new w 29 #[.string ⟨#[]⟩,.slice none 0 0];have hs0:(w.alloc (.cells #[.string ⟨#[]⟩,.slice none 0 0] 29)).heap.size=w.heap.size+1:=by simp
  generalize w.alloc (.cells #[.string ⟨#[]⟩,.slice none 0 0] 29)=w1 at*;have ha:Arena (w1.alloc (.cells (zc56.setIfInBounds 6000 (.int .i64 (k:Int))) 79)) (w.heap.size+1) (fun _=>0) (fun _=>false) k (.slice none 0 0):=by
   have:=Arena.new w1 k;rwa [hs0] at this
  have hb1:Below w1.heap.size w1 (w1.alloc (.cells (zc56.setIfInBounds 6000 (.int .i64 (k:Int))) 79)):=(Below.refl _ w1).alloc (Nat.le_refl _) _;generalize w1.alloc (.cells (zc56.setIfInBounds 6000 (.int .i64 (k:Int))) 79)=w2 at*;have hs2:=hb1.size;refine (heap_none (w.heap.size+1) k _ _ w2 ha (by omega)).mono ?_;rintro e w3 ⟨rfl,hb3⟩;have hn3:=(hn0.below hb1 (by omega)).below hb3 (by omega);have hbb:=hb0.trans ((hb1.mono (by omega)).trans (hb3.mono (by omega)));have c0:=hn3.cell 0;have c1:=hn3.cell 1;simp at c0 c1;have f0:=hn3.frozen 0;have f1:=hn3.frozen 1;have hr4:RowAt ((w3.setCell ⟨w.heap.size,0,none⟩ (.string (dataZ k))).setCell ⟨w.heap.size,1,none⟩ (.slice none 0 0)) w.heap.size 29 #[.string (dataZ k),.slice none 0 0]:=by
   have:=(hn3.set 0 (.string (dataZ k))).set 1 (.slice none 0 0);simpa using this
  have e0:=hr4.cell 0;have e1:=hr4.cell 1;simp at e0 e1;have HB:Hid (Below w.heap.size w w3):=hbb;clear hbb hn3 hr4;have hz:(⟨((List.range k).map fun _=> (0:UInt8)).toArray⟩:ByteArray)=dataZ k:=rfl;rw [hz];clear hz;go_wp2;exact bodyPost_ret (v:= .tuple #[.agg #[.string (dataZ k),.slice none 0 0],.bool true]) (by simp [results,Tryz.results20,go_sem,e0,e1]) rfl ⟨rfl,(HB.out.setCell (p:=⟨w.heap.size,0,none⟩) (Nat.le_refl _) _).setCell (p:=⟨w.heap.size,1,none⟩) (Nat.le_refl _) _⟩
 ·have hm:newM n=(⟨#[]⟩,false):=by unfold newM;rw [if_neg h]
  rw [hm];go_enter Tryz.func20,Tryz.ntmps20;go_wp2;all_goals
   exact bodyPost_ret (v:= .tuple #[.agg #[.string ⟨#[]⟩,.slice none 0 0],.bool false]) (by simp [results,Tryz.results20,go_sem]) rfl ⟨rfl,(Below.refl _ w).alloc (Nat.le_refl _) _⟩
end Go.Proofs.YtjpeglkkkllagaaGreatDoor.Hp
namespace Go.Proofs.YtjpeglkkkllagaaGreatDoor.Hp
open Go.RowKit Go.Sort
theorem ret_int {a b:Int} (h:a=b):Ending.returned (.int .i64 a)= .returned (.int .i64 b):=by rw [h]
end Go.Proofs.YtjpeglkkkllagaaGreatDoor.Hp
namespace Go.Proofs.YtjpeglkkkllagaaGreatDoor.Hp
def sumG (l:List (Nat×Nat)):Int:=l.foldl (fun a g=>a+(g.2:Int)) 0
def maxG (l:List (Nat×Nat)):Int:=l.foldl (fun a g=>max a (g.2:Int)) 0
theorem foldl_nz (f:Int→Int→Int) (P:Int→Prop) (h0:∀a,P a→f a 0=a) (hP:∀a (k:Nat),P a→P (f a k)):∀(l:List (Nat×Nat)) (a:Int),P a→(nz l).foldl (fun a g=>f a (g.2:Int)) a=l.foldl (fun a g=>f a (g.2:Int)) a
 | [],a,_=>rfl
 |g::r,a,ha=>by
  obtain ⟨e,k⟩:=g;rw [nz_cons,List.foldl_cons];by_cases hk:k=0
  ·subst hk;rw [if_pos rfl,List.nil_append,foldl_nz f P h0 hP r a ha];show _=List.foldl _ (f a 0) r;rw [h0 a ha]
  ·rw [if_neg hk,List.singleton_append,List.foldl_cons];exact foldl_nz f P h0 hP r _ (hP a k ha)
theorem sum_nz (l:List (Nat×Nat)):sumG (nz l)=sumG l:=foldl_nz (fun a k=>a+k) (fun _=>True) (fun a _=>by simp) (fun _ _ _=>trivial) l 0 trivial
def lens (S:List Cl):Int:=(S.map (·.len)).sum
theorem sum_all (n:Nat):∀(S:List Cl) (e:Nat) (a:Int),(∀c∈S,Ok n c)→Sorted S→S.Pairwise Disj→(∀c∈S,(e:Int)≤c.pos)→e≤n→(gapsAll n S e).foldl (fun a g=>a+(g.2:Int)) a=a+n-e-lens S
 | [],e,a,_,_,_,_,he=>by
  simp [gapsAll,lens];omega
 |c::r,e,a,hok,hso,hd,hp,he=>by
  obtain ⟨hl,h1,h2,h3⟩:=hok c (by simp);rw [Sorted,List.pairwise_cons] at hso;rw [List.pairwise_cons] at hd;have hpc:=hp c (by simp);have hr:∀x∈r,(((c.pos+c.len).toNat:Nat):Int)≤x.pos:=fun x hx=>by
   have hx2:=hso.1 x hx;obtain ⟨_,q1,q2,q3⟩:=hok x (by simp [hx]);rcases hd.1 x hx with h|h<;>omega
  rw [gapsAll,List.foldl_cons,sum_all n r _ _ (fun x hx=>hok x (by simp [hx])) hso.2 hd.2 hr (by omega)];simp only [lens,List.map_cons,List.sum_cons];omega
theorem sum_perm {a b:List Int} (h:a.Perm b):a.sum=b.sum:=by
 induction h with
 |nil=>rfl
 |cons x _ ih=>rw [List.sum_cons,List.sum_cons,ih]
 |swap x y l=>simp only [List.sum_cons];omega
 |trans _ _ ih1 ih2=>exact ih1.trans ih2
theorem lens_live (n:Nat):∀L:List Cl,L.all (admitB n)=true→lens (L.filter (·.live))=lens L
 | [],_=>rfl
 |c::r,h=>by
  rw [List.all_cons,Bool.and_eq_true] at h;have ih:=lens_live n r h.2;cases hl:c.live with
  |true=>
   rw [List.filter_cons_of_pos hl];simp only [lens,List.map_cons,List.sum_cons] at ih ⊢;rw [ih]
  |false=>
   rw [List.filter_cons_of_neg (by simp [hl])];have:c.len=0:=by
    have h1:=h.1;unfold admitB at h1;rw [hl] at h1;simp at h1;omega
   simp only [lens,List.map_cons,List.sum_cons] at ih ⊢;rw [ih,this];omega
theorem Right.room {n:Nat} {L:List Cl} {t:Nat→Bool} (h:Right n L t):sumG (scanM t n).1=n-lens L:=by
 rw [h.scan,sum_nz];have:=sum_all n (liveC [] L) 0 0 h.ok h.sorted h.disj h.low (by omega);unfold sumG;rw [this];have hP:=liveC_perm L [];rw [List.nil_append] at hP;have:lens (liveC [] L)=lens L:=by
  rw [←lens_live n L h.all];exact sum_perm (hP.map _)
 rw [this];simp
end Go.Proofs.YtjpeglkkkllagaaGreatDoor.Hp
namespace Go.Proofs.YtjpeglkkkllagaaGreatDoor.Hp
open Go.RowKit Go.Sort
def flatG (G:List (Nat×Nat)):List Value:=G.flatMap fun x=> [.int .i64 x.1,.int .i64 x.2]
theorem flatG_len:∀G:List (Nat×Nat),(flatG G).length=G.length*2
 | []=>rfl
 |x::r=>by
  have:=flatG_len r;simp only [flatG,List.flatMap_cons,List.length_append,List.length_cons,List.length_nil] at this ⊢;omega
theorem flatG_app (G H:List (Nat×Nat)):flatG (G++H)=flatG G++flatG H:=by
 unfold flatG;rw [List.flatMap_append]
theorem flatG_last (G:List (Nat×Nat)) (a k:Nat):(flatG (G++ [(a,k)]))[G.length*2+1]?=some (.int .i64 k):=by
 rw [flatG_app,List.getElem?_append_right (by rw [flatG_len];omega),flatG_len];rw [show G.length*2+1-G.length*2=1 from by omega];rfl
theorem flatG_set (G:List (Nat×Nat)) (a k m:Nat):(flatG (G++ [(a,k)])).set (G.length*2+1) (.int .i64 m)=flatG (G++ [(a,m)]):=by
 rw [flatG_app,flatG_app,List.set_append_right _ _ (by rw [flatG_len];omega),flatG_len];rw [show G.length*2+1-G.length*2=1 from by omega];rfl
theorem scan_shape (t:Nat→Bool):∀k,((scanM t k).2=true→∃G a l,(scanM t k).1=G++ [(a,l)]∧l≤k)∧(scanM t k).1.length≤k
 |0=>⟨fun h=>by simp [scanM] at h,by simp [scanM]⟩
 |k+1=>by
  obtain ⟨h1,h2⟩:=scan_shape t k;rw [scanM,stepG];split
  ·exact ⟨fun h=> (by simp at h),by show (scanM t k).1.length≤_;omega⟩
  ·split
   ·rename_i h;obtain ⟨G,a,l,e,hl⟩:=h1 h;rw [e,bump_last];rw [e] at h2;simp at h2;exact ⟨fun _=>⟨G,a,l+1,rfl,by omega⟩,by simp;omega⟩
   ·exact ⟨fun _=>⟨_,k,1,rfl,by omega⟩,by simp;omega⟩
theorem info89:(Tryz.prog.info? 132).map (fun i=> (i.zero,i.size,i.bytes))=some (some (.agg #[.int .i64 0,.int .i64 0]),2,16):=by kernel_rfl
theorem gaps_any (g n:Nat) (d:Nat→UInt8) (t:Nat→Bool) (cs:Value) (w:World) (h:Arena w g d t n cs) (hn:n≤3000):
  Calls Tryz.prog 60 #[.pointer (some ⟨g,0,none⟩)] w fun e w'=>∃v,e= .returned v∧w'.ownsRow w.heap.size 132 2 v (scanM t n).1.length (flatG (scanM t n).1)∧Below w.heap.size w w':=by
 obtain ⟨i0,hi,hz0,hz1,hz2⟩:=info_parts info89;have hsz:=h.size;go_enter Tryz.func60,Tryz.ntmps60;go_wp2;go_loopw [3,4,5,10] (fun v ins _ i wr=>∃(k:Nat),k≤n∧i= .int .i64 k∧ins= .bool (scanM t k).2∧wr.ownsRow w.heap.size 132 2 v (scanM t k).1.length (flatG (scanM t k).1)∧Below w.heap.size w wr) (fun _ _ _ i _=>n-(intOf i).toNat)
 case atStart=>exact ⟨0,by omega,rfl,rfl,World.ownsRow_nil _ _ _ _,Below.refl _ _⟩
 case round=>
  obtain ⟨k,hk,rfl,rfl,hown,bk⟩:=hrel;have ha:=h.below bk h.lt;by_cases hlt:k<n
  ·have ct:=ha.taken k (by omega);have hki:(k:Int)<3000:=by omega
   obtain ⟨sh1,sh2⟩:=scan_shape t k;cases htk:t k with
   |true=>
    rw [htk] at ct;have HS:Hid (scanM t (k+1)=((scanM t k).1,false)):=by unfold Hid;rw [scanM,htk];rfl
    clear sh1 sh2 htk ha;go_wp2;go_roundw
    case rel=>exact ⟨k+1,by omega,by go_num,by rw [HS.out],by rw [HS.out];exact hown,bk⟩
    case measure=>simp [intOf];omega
   |false=>
    rw [htk] at ct;cases hin:(scanM t k).2 with
    |true=>
     obtain ⟨G,a,l,e,hl⟩:=sh1 hin;have HS:Hid (scanM t (k+1)=(G++ [(a,l+1)],true)):=by unfold Hid;rw [scanM,htk,stepG,hin,e,bump_last];rfl
     rw [e] at hown sh2;rw [List.length_append] at hown sh2;simp only [List.length_cons,List.length_nil,Nat.zero_add] at hown sh2;obtain ⟨A,cap,rfl⟩:=Go.Joins.ownsRow_form hown (by omega);have cl:wr.cell? ⟨A,G.length*2+1,none⟩=some (.int .i64 (l:Nat)):=by
      have:=hown.cells rfl (G.length*2+1) _ (flatG_last G a l);rw [Addr.add_lit,Nat.zero_add] at this;exact this
     have fz:=owns_frozen hown (G.length*2+1);have HO:Hid ((wr.setCell ⟨A,G.length*2+1,none⟩ (.int .i64 ((l:Int)+1))).ownsRow w.heap.size 132 2 (.slice (some ⟨A,0,none⟩) (G.length+1) cap) (G.length+1) (flatG (G++ [(a,l+1)]))):=by
      have:=owns_set (j:=G.length*2+1) (u:= .int .i64 (l+1:Nat)) hown;rw [flatG_set] at this;exact this
     have hAlt:=hown.lt A rfl;have HB:Hid (Below w.heap.size w (wr.setCell ⟨A,G.length*2+1,none⟩ (.int .i64 ((l:Int)+1)))):=bk.setCell hAlt.1 _;clear hown htk hin sh1 e ha;go_wp2;go_roundw
     case rel=>exact ⟨k+1,by omega,by go_num,by rw [HS.out],by rw [HS.out,List.length_append];exact HO.out,HB.out⟩
     case measure=>simp [intOf];omega
    |false=>
     have HS:Hid (scanM t (k+1)=((scanM t k).1++ [(k,1)],true)):=by unfold Hid;rw [scanM,htk,stepG,hin];rfl
     generalize (scanM t k).1=G at*;generalize (scanM t k).2=ins at*;subst hin;have hbk:=bk.size;clear htk sh1 ha;go_wp2_with (at_builtin;refine wpList_append_own _ rfl _ _ 129 rfl w.heap.size 132 i0 _ 2 16 Tryz.underlying129 hi hz0 hz1 hz2 rfl (by decide) _ _ _ rfl (hown.alloc _) ⟨wr.heap.size,0,none⟩ 1 1 [.int .i64 k,.int .i64 0] rfl rfl ?c1 ?c2 ?c3 ?c4 ?c5 ?_)
     case c1=>
      intro j u hj;rw [Addr.add_lit,Nat.zero_add];exact ((RowAt.new wr 132 #[.int .i64 k,.int .i64 0]).cell j).trans (by simpa using hj)
     case c2=>exact fun u hu=>by simp at hu;rcases hu with rfl|rfl<;>rfl
     case c3=>unfold maxLen;omega
     case c4=>omega
     case c5=>simp;omega
     intro v0' w5 hown' hgrow _;obtain ⟨A,cap,hv'⟩:∃A cap,v0'= .slice (some ⟨A,0,none⟩) (G.length+1) cap:=Go.Joins.ownsRow_form hown' (by omega);subst hv';have b5:Below w.heap.size w w5:=below_grown (bk.alloc (by omega) _) hgrow (fun x hx=> (hown.lt x hx).1) (by simp;omega);have hown5:w5.ownsRow w.heap.size 132 2 (.slice (some ⟨A,0,none⟩) (G.length+1) cap) (G.length+1) (flatG (G++ [(k,0)])):=by
      rw [flatG_app];exact hown'
     have cl:w5.cell? ⟨A,G.length*2+1,none⟩=some (.int .i64 0):=by
      have:=hown5.cells rfl (G.length*2+1) _ (flatG_last G k 0);rw [Addr.add_lit,Nat.zero_add] at this;exact this
     have fz:=owns_frozen hown5 (G.length*2+1);have HO:Hid ((w5.setCell ⟨A,G.length*2+1,none⟩ (.int .i64 1)).ownsRow w.heap.size 132 2 (.slice (some ⟨A,0,none⟩) (G.length+1) cap) (G.length+1) (flatG (G++ [(k,1)]))):=by
      have:=owns_set (j:=G.length*2+1) (u:= .int .i64 (1:Nat)) hown5;rw [flatG_set] at this;exact this
     have hAlt:=hown5.lt A rfl;have HB:Hid (Below w.heap.size w (w5.setCell ⟨A,G.length*2+1,none⟩ (.int .i64 1))):=b5.setCell hAlt.1 _;clear hown' hown5 hgrow b5 hown;go_wp2;go_roundw
     case rel=>exact ⟨k+1,by omega,by go_num,by rw [HS.out],by rw [HS.out,List.length_append];exact HO.out,HB.out⟩
     case measure=>simp [intOf];omega
  ·obtain rfl:k=n:=by omega
   clear ha;go_wp2;go_ret;exact ⟨_,rfl,hown,bk⟩
end Go.Proofs.YtjpeglkkkllagaaGreatDoor.Hp
namespace Go.Proofs.YtjpeglkkkllagaaGreatDoor.Hp
open Go.RowKit Go.Sort
theorem scan_bound (t:Nat→Bool):∀k,∀x∈(scanM t k).1,x.1≤k∧x.2≤k
 |0,x,hx=>by simp [scanM] at hx
 |k+1,x,hx=>by
  have ih:=scan_bound t k;rw [scanM,stepG] at hx;split at hx
  ·have:=ih x hx;omega
  ·split at hx
   ·rename_i h;obtain ⟨G,a,l,e,hl⟩:=(scan_shape t k).1 h;rw [e] at ih;rw [e,bump_last] at hx;rcases List.mem_append.1 hx with h|h
    ·have:=ih x (by simp [h]);omega
    ·simp at h;subst h;have:=ih (a,l) (by simp);simp at this ⊢;omega
   ·rcases List.mem_append.1 hx with h|h
    ·have:=ih x h;omega
    ·simp at h;subst h;exact ⟨by simp,by simp⟩
def OpenAll (w:World) (s:ByteArray) (L:List Cl) (e:Ending) (w':World):Prop:=
 ∃p:Option Addr,e= .returned (.tuple #[.pointer p,.bool (heapB s L)])∧
  (heapB s L=true→∃g t,p=some ⟨g,0,none⟩∧openM s.size L (fun _=>false)=some t∧Opens w' g (byteAt s) t s.size L.length)∧Below w.heap.size w w'
theorem opened_all (s:ByteArray) (a:Option Addr) (b off n c:Nat) (L:List Cl) (w:World) (h:CellsIn w a b off n L) (hs:s.size≤1048576) (hn:n≤1048576) (hf:∀i,i<n→Fit (L.getD i cl0)):
  Calls Tryz.prog 28 #[.agg #[.string s,.slice a n c]] w (OpenAll w s L):=by
 have hl:=h.len;by_cases hr:s.size≤3000∧n≤40
 ·have HR:heapB s L=implB (byteAt s) s.size L:=by
   unfold heapB;rw [decide_eq_true (by omega),Bool.true_and]
  unfold OpenAll;rw [HR];exact opened_any s a b off n c L w h hr.1 hr.2 hf
 ·have HR:Hid (heapB s L=false):=by
   unfold Hid heapB;rw [decide_eq_false (by omega),Bool.false_and]
  have hb:Below w.heap.size w (w.alloc (.cells #[.string s,.slice a n c] 29)):=(Below.refl _ w).alloc (Nat.le_refl _) _;by_cases h1:(3000:Int)<(s.size:Int)
  ·go_enter Tryz.func28,Tryz.ntmps28;go_wp2;go_ret2;exact ⟨none,by rw [HR.out];rfl,(fun h=>by rw [HR.out] at h;cases h),hb⟩
  ·have h2:(40:Int)<(n:Int):=by omega
   go_enter Tryz.func28,Tryz.ntmps28;go_wp2;go_ret2;exact ⟨none,by rw [HR.out];rfl,(fun h=>by rw [HR.out] at h;cases h),hb⟩
def gapsOf (s:ByteArray) (L:List Cl):List (Nat×Nat):=match openM s.size L (fun _=>false) with|none=> []|some t=> (scanM t s.size).1
def foldG (f:Int→Int→Int) (G:List (Nat×Nat)):Int:=G.foldl (fun a g=>f a (g.2:Int)) 0
def overB (f:Int→Int→Int) (s:ByteArray) (L:List Cl):Int:=if heapB s L=true then foldG f (gapsOf s L) else-1
theorem fold_step (f:Int→Int→Int) (G:List (Nat×Nat)) (k:Nat) (h:k<G.length):foldG f (G.take (k+1))=f (foldG f (G.take k)) ((G.getD k (0,0)).2:Int):=by
 unfold foldG;rw [List.take_succ_eq_append_getElem h,List.foldl_append,List.getD_eq_getElem?_getD,List.getElem?_eq_getElem h];rfl
theorem flatG_at (G:List (Nat×Nat)) (k:Nat) (h:k<G.length):(flatG G)[k*2]?=some (.int .i64 ((G.getD k (0,0)).1:Nat))∧(flatG G)[k*2+1]?=some (.int .i64 ((G.getD k (0,0)).2:Nat)):=by
 have e:G=G.take k++(G.getD k (0,0)::G.drop (k+1)):=by
  rw [List.getD_eq_getElem?_getD,List.getElem?_eq_getElem h];simp
 have hl:(flatG (G.take k)).length=k*2:=by rw [flatG_len,List.length_take];omega
 generalize G.getD k (0,0)=x at*;rw [e,flatG_app];constructor
 ·rw [List.getElem?_append_right (by rw [hl];omega),hl,Nat.sub_self];rfl
 ·rw [List.getElem?_append_right (by rw [hl];omega),hl,show k*2+1-k*2=1 from by omega];rfl
theorem over38 (f:Int→Int→Int) (hfb:∀x y:Int,0≤x→0≤y→0≤f x y∧f x y≤x+y) (hJ:∀(x y:Int) (w:World),0≤x→x≤100000000→0≤y→y≤100000000→Calls Tryz.prog 34 #[.int .i64 x,.int .i64 y] w fun e w'=>e= .returned (.int .i64 (f x y))∧w'=w)
  (s:ByteArray) (a:Option Addr) (b off n c:Nat) (L:List Cl) (w:World) (h:CellsIn w a b off n L) (hs:s.size≤1048576) (hn:n≤1048576) (hf:∀i,i<n→Fit (L.getD i cl0)):
  Calls Tryz.prog 33 #[.agg #[.string s,.slice a n c],.func (.func 34) #[] #[]] w fun e w'=>e= .returned (.int .i64 (overB f s L))∧Below w.heap.size w w':=by
 have hb0:Below w.heap.size w (w.alloc (.cells #[.string s,.slice a n c] 29)):=(Below.refl _ w).alloc (Nat.le_refl _) _;have h0:=zaj h hb0;have HO:Hid (Calls Tryz.prog 28 #[.agg #[.string s,.slice a n c]] (w.alloc (.cells #[.string s,.slice a n c] 29)) (OpenAll (w.alloc (.cells #[.string s,.slice a n c] 29)) s L)):=opened_all s a b off n c L _ h0 hs hn hf;have HJ:Hid _:=hJ;have HFB:Hid _:=hfb;clear hJ hfb hf h0;go_enter Tryz.func33,Tryz.ntmps33;go_wp2_with fail;refine HO.out.mono ?_;clear HO;rintro e w1 ⟨p,rfl,hop,b1⟩;have bb:=hb0.trans (b1.mono (by simp));clear b1 hb0;cases hr:heapB s L with
 |false=>
  have HR:Hid (overB f s L= -1):=by unfold Hid overB;rw [hr];rfl
  clear hop hr;go_wp2;go_ret;exact ⟨ret_int HR.out.symm,bb⟩
 |true=>
  obtain ⟨hs3,hL⟩:=heap_small hr;obtain ⟨g,t,rfl,ho,cs,xs,har,_⟩:=hop hr;have HR:Hid (overB f s L=foldG f (scanM t s.size).1):=by unfold Hid overB gapsOf;rw [hr,ho];rfl
  clear hop hr ho;go_wp2_with fail;refine (gaps_any g s.size (byteAt s) t cs w1 har hs3).mono ?_;rintro e w2 ⟨v,rfl,hown,b2⟩;have bb2:=bb.trans (b2.mono bb.size);have HBd:Hid (∀x∈(scanM t s.size).1,x.1≤s.size∧x.2≤s.size):=scan_bound t s.size;have hlen:=(scan_shape t s.size).2;generalize (scanM t s.size).1=G at*;clear har b2;by_cases hG:G.length=0
  ·have hG0:G=[]:=List.eq_nil_of_length_eq_zero hG;subst hG0;rcases Go.Joins.ownsRow_forms hown with ⟨rfl,_⟩|⟨A,cap,rfl⟩
   ·clear hown HBd;go_wp2;refine wp_loop_rounds 1 ?_;rw [rounds_succ];go_wp2;go_ret;exact ⟨ret_int HR.out.symm,bb2⟩
   ·clear hown HBd;go_wp2;refine wp_loop_rounds 1 ?_;rw [rounds_succ];go_wp2;go_ret;exact ⟨ret_int HR.out.symm,bb2⟩
  ·obtain ⟨A,cap,rfl⟩:=Go.Joins.ownsRow_form hown (by omega);have HC:Hid (∀k,k<G.length→w2.cell? ⟨A,k*2,none⟩=some (.int .i64 ((G.getD k (0,0)).1:Nat))∧w2.cell? ⟨A,k*2+1,none⟩=some (.int .i64 ((G.getD k (0,0)).2:Nat))):=fun k hk=>by
    have h1:=hown.cells rfl (k*2) _ (flatG_at G k hk).1;have h2:=hown.cells rfl (k*2+1) _ (flatG_at G k hk).2;rw [Addr.add_lit,Nat.zero_add] at h1 h2;exact ⟨h1,h2⟩
   have HA:Hid (A<w2.heap.size):=(hown.lt A rfl).2;clear hown hG;go_wp2;go_loopw [7,9,20] (fun tot _ i wr=>∃k:Nat,k≤G.length∧i= .int .i64 k∧tot= .int .i64 (foldG f (G.take k))∧0≤foldG f (G.take k)∧foldG f (G.take k)≤3000*k∧Below w2.heap.size w2 wr) (fun _ _ i _=>G.length-(intOf i).toNat)
   case atStart=>exact ⟨0,by omega,rfl,rfl,by simp [foldG],by simp [foldG],Below.refl _ _⟩
   case round=>
    obtain ⟨k,hk,rfl,rfl,hf0,hf1,bk⟩:=hrel;by_cases hlt:k<G.length
    ·obtain ⟨c0',c1'⟩:=HC.out k hlt;have c0:=(bk.cell (p:=⟨A,k*2,none⟩) HA.out).trans c0';have c1:=(bk.cell (p:=⟨A,k*2+1,none⟩) HA.out).trans c1';clear c0' c1';have hbd:=HBd.out (G.getD k (0,0)) (by rw [List.getD_eq_getElem?_getD,List.getElem?_eq_getElem hlt];exact List.getElem_mem hlt);have HS:Hid (foldG f (G.take (k+1))=f (foldG f (G.take k)) ((G.getD k (0,0)).2:Int)):=fold_step f G k hlt;generalize G.getD k (0,0)=x at*;obtain ⟨x1,x2⟩:=x;simp only at c0 c1 hbd HS;generalize foldG f (G.take k)=T at*;go_wp2_with fail;refine (HJ.out T (x2:Int) _ hf0 (by omega) (by omega) (by omega)).mono ?_;rintro e w3 ⟨rfl,rfl⟩;obtain ⟨q1,q2⟩:=HFB.out T (x2:Int) hf0 (by omega);go_wp2;go_roundw
     case rel=>exact ⟨k+1,by omega,by go_num,by rw [HS.out],by rw [HS.out];exact q1,by rw [HS.out];omega,bk.alloc bk.size _⟩
     case measure=>simp [intOf];omega
    ·have hkG:k=G.length:=by omega
     have HT:Hid (foldG f (G.take k)=foldG f G):=by unfold Hid;rw [hkG,List.take_length]
     clear hkG;go_wp2;go_ret;exact ⟨ret_int (HT.out.trans HR.out.symm),bb2.trans (bk.mono bb2.size)⟩
theorem join38 (x y:Int) (w:World) (h0:0≤x) (h1:x≤100000000) (h2:0≤y) (h3:y≤100000000):Calls Tryz.prog 34 #[.int .i64 x,.int .i64 y] w fun e w'=>e= .returned (.int .i64 (x+y))∧w'=w:=by
 go_enter Tryz.func34,Tryz.ntmps34;go_wp2;go_ret;exact ⟨rfl,rfl⟩
theorem implRoom_any (s:ByteArray) (a:Option Addr) (b off n c:Nat) (L:List Cl) (w:World) (h:CellsIn w a b off n L) (hs:s.size≤1048576) (hn:n≤1048576) (hf:∀i,i<n→Fit (L.getD i cl0)):
  Calls Tryz.prog 14 #[.agg #[.string s,.slice a n c]] w fun e w'=>e= .returned (.int .i64 (overB (fun x y=>x+y) s L))∧Below w.heap.size w w':=by
 have hb0:Below w.heap.size w (w.alloc (.cells #[.string s,.slice a n c] 29)):=(Below.refl _ w).alloc (Nat.le_refl _) _;have h0:=zaj h hb0;have HO:Hid (Calls Tryz.prog 33 #[.agg #[.string s,.slice a n c],.func (.func 34) #[] #[]] (w.alloc (.cells #[.string s,.slice a n c] 29)) _):=over38 (fun x y=>x+y) (fun x y h1 h2=>⟨Int.add_nonneg h1 h2,Int.le_refl _⟩) (fun x y w=>join38 x y w) s a b off n c L _ h0 hs hn hf;clear h0;go_enter Tryz.func14,Tryz.ntmps14;go_wp2_with fail;refine HO.out.mono ?_;rintro e w1 ⟨rfl,b1⟩;have bb:=hb0.trans (b1.mono (by simp));go_wp2;go_ret;exact ⟨rfl,bb⟩
end Go.Proofs.YtjpeglkkkllagaaGreatDoor.Hp
namespace Go.Proofs.YtjpeglkkkllagaaGreatDoor.Hp
open Go.RowKit Go.Sort
def roomB (s:ByteArray) (L:List Cl):Int:=if heapB s L=true then s.size-lens L else-1
theorem room_one (s:ByteArray) (L:List Cl):overB (fun x y=>x+y) s L=roomB s L:=by
 unfold overB roomB;by_cases h:heapB s L=true
 ·rw [if_pos h,if_pos h];obtain ⟨t,ho,hr⟩:=heap_right h;unfold gapsOf;rw [ho,←hr.room];rfl
 ·rw [if_neg h,if_neg h]
end Go.Proofs.YtjpeglkkkllagaaGreatDoor.Hp
namespace Go.Proofs.YtjpeglkkkllagaaGreatDoor.Hp
open Go.RowKit Go.Sort
def dataOf (d:Nat→UInt8) (n:Nat):ByteArray:=⟨((List.range n).map d).toArray⟩
theorem form_any {w:World} {B e size n:Nat} {v:Value} {xs:List Value} (h:w.ownsRow B e size v n xs):∃a A cap,v= .slice a n cap∧(0<n→a=some ⟨A,0,none⟩):=by
 rcases Go.Joins.ownsRow_forms h with ⟨rfl,rfl⟩|⟨A,cap,rfl⟩
 ·exact ⟨none,0,0,rfl,fun h=>by omega⟩
 ·exact ⟨some ⟨A,0,none⟩,A,cap,rfl,fun _=>rfl⟩
theorem heap_any (g n:Nat) (d:Nat→UInt8) (t:Nat→Bool) (L:List Cl) (cs:Value) (ps:List Nat) (w:World) (ha:Arena w g d t n cs) (ho:w.ownsRow (g+1) 81 1 cs L.length (ps.map ptrV)) (hpl:ps.length=L.length)
  (hpc:∀i,i<L.length→RowAt w (ps.getD i 0) 84 (clV (L.getD i cl0))) (hL:L.length≤40) (hn:n≤3000):
  Calls Tryz.prog 31 #[.pointer (some ⟨g,0,none⟩)] w fun e w'=>∃v,e= .returned (.agg #[.string (dataOf d n),v])∧w'.ownsRow w.heap.size 84 4 v L.length (flatC L)∧Below w.heap.size w w':=by
 obtain ⟨i0,hi,hz0,hz1,hz2⟩:=info_parts info62x;have hb:Below w.heap.size w (w.alloc (.cells #[.string ⟨#[]⟩,.slice none 0 0] 29)):=(Below.refl _ w).alloc (Nat.le_refl _) _;have hn1:=RowAt.new w 29 #[.string ⟨#[]⟩,.slice none 0 0];have hs1:(w.alloc (.cells #[.string ⟨#[]⟩,.slice none 0 0] 29)).heap.size=w.heap.size+1:=by simp
 have ha1:=ha.below hb ha.lt;have ho1:=zaf ho hb;have HP:Hid (∀i,i<L.length→RowAt (w.alloc (.cells #[.string ⟨#[]⟩,.slice none 0 0] 29)) (ps.getD i 0) 84 (clV (L.getD i cl0))):=fun i hi=> (hpc i hi).below hb (hpc i hi).lt;obtain ⟨a,A,cap,rfl,hA⟩:=form_any ho;have HA:Hid (∀k,k<L.length→(w.alloc (.cells #[.string ⟨#[]⟩,.slice none 0 0] 29)).cell? ⟨A,k,none⟩=some (.pointer (some ⟨ps.getD k 0,0,none⟩))∧A<(w.alloc (.cells #[.string ⟨#[]⟩,.slice none 0 0] 29)).heap.size):=fun k hk=>by
  obtain rfl:=hA (by omega);have:=ho1.cells rfl k (ptrV (ps.getD k 0)) (by rw [List.getElem?_map,List.getD_eq_getElem?_getD,List.getElem?_eq_getElem (by omega)];rfl);rw [Addr.add_lit,Nat.zero_add] at this;exact ⟨this,(ho1.lt A rfl).2⟩
 have cc:=ha1.cells;have HA1:Hid (Arena (w.alloc (.cells #[.string ⟨#[]⟩,.slice none 0 0] 29)) g d t n (.slice a L.length cap)):=ha1;have hglt:=ha1.lt;clear ha ha1 ho ho1 hpc;go_enter Tryz.func31,Tryz.ntmps31;go_wp2;generalize w.alloc (.cells #[.string ⟨#[]⟩,.slice none 0 0] 29)=w1 at*;have HS1:Hid (w1.heap.size=w.heap.size+1):=hs1;clear hs1;go_loopw [3,5,11] (fun v _ i wr=>∃k:Nat,k≤L.length∧i= .int .i64 k∧wr.ownsRow w1.heap.size 84 4 v k (flatC (L.take k))∧Below w1.heap.size w1 wr) (fun _ _ i _=>L.length-(intOf i).toNat)
 case atStart=>exact ⟨0,by omega,rfl,World.ownsRow_nil _ _ _ _,Below.refl _ _⟩
 case round=>
  obtain ⟨k,hk,rfl,hown,bk⟩:=hrel;by_cases hlt:k<L.length
  ·obtain rfl:=hA (by omega);have hcp:=HA.out k hlt;have cp:=(bk.cell (p:=⟨A,k,none⟩) hcp.2).trans hcp.1;have hx:=(HP.out k hlt).below bk (HP.out k hlt).lt;have HT:Hid (L.take (k+1)=L.take k++ [L.getD k cl0]):=take_next hlt;have c0:wr.cell? ⟨ps.getD k 0,0,none⟩=some (.int .i64 (L.getD k cl0).pos):=hx.cell 0;have c1:wr.cell? ⟨ps.getD k 0,1,none⟩=some (.int .i64 (L.getD k cl0).len):=hx.cell 1;have c2:wr.cell? ⟨ps.getD k 0,2,none⟩=some (.int .i64 (L.getD k cl0).gen):=hx.cell 2;have c3:wr.cell? ⟨ps.getD k 0,3,none⟩=some (.bool (L.getD k cl0).live):=hx.cell 3;generalize L.getD k cl0=x at*;generalize ps.getD k 0=p at*;have hbk:=bk.size;clear hx hcp cc;go_wp2_with (at_builtin;refine wpList_append_own _ rfl _ _ 27 rfl w1.heap.size 84 i0 _ 4 32 Tryz.underlying27 hi hz0 hz1 hz2 rfl (by decide) _ _ _ rfl (hown.alloc _) ⟨wr.heap.size,0,none⟩ 1 1 [.int .i64 x.pos,.int .i64 x.len,.int .i64 x.gen,.bool x.live] rfl rfl ?c1 ?c2 ?c3 ?c4 ?c5 ?_)
   case c2=>exact ⟨rfl,rfl,rfl,rfl⟩
   case c3=>unfold maxLen;omega
   case c4=>omega
   case c5=>omega
   intro v0' w5 hown' hgrow _;have b5:Below w1.heap.size w1 w5:=below_grown (bk.alloc (by omega) _) hgrow (fun x hx=> (hown.lt x hx).1) (by simp;omega);have HO:Hid (w5.ownsRow w1.heap.size 84 4 v0' (k+1) (flatC (L.take (k+1)))):=by
    unfold Hid;rw [HT.out,flatC_app];exact hown'
   have HB:Hid (Below w1.heap.size w1 w5):=b5;clear hown' hgrow b5 hown;go_wp2;go_roundw
   case rel=>exact ⟨k+1,by omega,by go_num,HO.out,HB.out⟩
   case measure=>simp [intOf];omega
  ·obtain rfl:k=L.length:=by omega
   rw [List.take_length] at hown;clear cc;have ha4:=HA1.out.below bk hglt;have hs1:=HS1.out;have hn4:=hn1.below bk (by omega);obtain ⟨C,hr4,hsz,hd,ht,hs,hc⟩:=ha4.row;have s6:=(hr4.cell 6000).trans hs;have d0:=hn4.cell 0;have d1:=hn4.cell 1;simp at d0 d1;have f0:=hn4.frozen 0;have f1:=hn4.frozen 1;have hcv:(convert 22 9 (.slice (some ⟨g,0,none⟩) n 3000)).run Tryz.prog wr.drew= .ok (.string (dataOf d n)) wr.drew:=by
    have:=run_convert_bytes_back (P:=Tryz.prog) wr.drew 22 9 5 ⟨g,0,none⟩ 3000 ((List.range n).map d) Tryz.underlying22 Tryz.underlying5 Tryz.underlying9 ?_
    ·simpa [dataOf] using this
    ·intro j hj;have hj':j<n:=by simpa using hj
     rw [show wr.drew.cell? _=wr.cell? _ from rfl];have:=(hr4.cell j).trans (hd j (by omega));rw [Addr.add_lit,Nat.zero_add];simpa using this
   have hni:(n:Int)≤3000:=by omega
   obtain ⟨a',A',cap',rfl,hA'⟩:=form_any hown;have hbw:Below w.heap.size w wr:=hb.trans (bk.mono (by omega));have hb2:Below w.heap.size w ((wr.setCell ⟨w.heap.size,0,none⟩ (.string (dataOf d n))).setCell ⟨w.heap.size,1,none⟩ (.slice a' L.length cap')):=
    (hbw.setCell (p:=⟨w.heap.size,0,none⟩) (Nat.le_refl _) _).setCell (p:=⟨w.heap.size,1,none⟩) (Nat.le_refl _) _
   have hr2:RowAt ((wr.setCell ⟨w.heap.size,0,none⟩ (.string (dataOf d n))).setCell ⟨w.heap.size,1,none⟩ (.slice a' L.length cap')) w.heap.size 29 #[.string (dataOf d n),.slice a' L.length cap']:=by
    have:=(hn4.set 0 (.string (dataOf d n))).set 1 (.slice a' L.length cap');simpa using this
   have e0:=hr2.cell 0;have e1:=hr2.cell 1;simp at e0 e1;have HO:Hid (((wr.setCell ⟨w.heap.size,0,none⟩ (.string (dataOf d n))).setCell ⟨w.heap.size,1,none⟩ (.slice a' L.length cap')).ownsRow w.heap.size 84 4 (.slice a' L.length cap') L.length (flatC L)):=
    Go.Joins.ownsRow_le (ownsRow_setCell_below (ownsRow_setCell_below hown (by simp;omega) _) (by simp;omega) _) (by omega)
   have HB2:Hid (Below w.heap.size w ((wr.setCell ⟨w.heap.size,0,none⟩ (.string (dataOf d n))).setCell ⟨w.heap.size,1,none⟩ (.slice a' L.length cap'))):=hb2;clear hown hr4 hd ht hs hc ha4 hn4 hr2 hb2 hbw bk hs1;go_wp2;go_region;go_wp2;refine bodyPost_ret (v:= .agg #[.string (dataOf d n),.slice a' L.length cap']) (by simp [results,Tryz.results31,go_sem,e0,e1]) rfl ⟨_,rfl,HO.out,HB2.out.drew⟩
end Go.Proofs.YtjpeglkkkllagaaGreatDoor.Hp
namespace Go.Proofs.YtjpeglkkkllagaaGreatDoor.Hp
open Go.RowKit Go.Sort
def dPut (s:ByteArray) (p:Nat) (x:ByteArray):Nat→UInt8:=fun i=>if p≤i∧i<p+x.size then byteAt x (i-p) else byteAt s i
theorem bytes_list (s:ByteArray):s.data.toList=(List.range s.size).map (byteAt s):=by
 apply List.ext_getElem?;intro i;rw [List.getElem?_map];by_cases h:i<s.size
 ·have hl:i<s.data.toList.length:=by rw [Array.length_toList];exact h
  rw [List.getElem?_range h,List.getElem?_eq_getElem hl];show _=some (byteAt s i);unfold byteAt;rw [List.getD_eq_getElem?_getD,List.getElem?_eq_getElem hl];rfl
 ·have hl:s.data.toList.length≤i:=by rw [Array.length_toList];exact Nat.le_of_not_lt h
  rw [List.getElem?_eq_none hl,List.getElem?_eq_none (by simp;omega)];rfl
theorem put_data (s:ByteArray) (p:Nat) (x:ByteArray) (h:p+x.size≤s.size):dataOf (dPut s p x) s.size=putData s p x:=by
 apply ByteArray.ext;apply Array.ext';show (List.range s.size).map (dPut s p x)=_;unfold putData;rw [ByteArray.data_append,ByteArray.data_append,Array.toList_append,Array.toList_append,ByteArray.data_extract,ByteArray.data_extract,Array.toList_extract,Array.toList_extract,List.extract_eq_take_drop,List.extract_eq_take_drop,bytes_list s,bytes_list x];apply List.ext_getElem?;intro i;rw [List.getElem?_map];by_cases h1:i<p
 ·rw [List.append_assoc,List.getElem?_append_left (by simp;omega),List.getElem?_range (by omega),List.drop_zero,List.getElem?_take,if_pos (by omega),List.getElem?_map,List.getElem?_range (by omega)];show some (dPut s p x i)=some _;unfold dPut;rw [if_neg (by omega)]
 ·by_cases h2:i<p+x.size
  ·rw [List.append_assoc,List.getElem?_append_right (by simp;omega),List.getElem?_append_left (by simp;omega),List.getElem?_range (by omega),List.getElem?_map,List.getElem?_range (by simp;omega)];show some (dPut s p x i)=some _;unfold dPut;rw [if_pos (by omega)];congr 2;simp;omega
  ·by_cases h3:i<s.size
   ·rw [List.getElem?_append_right (by simp;omega),List.getElem?_range h3,List.getElem?_take,if_pos (by simp;omega),List.getElem?_drop,List.getElem?_map,List.getElem?_range (by simp;omega)];show some (dPut s p x i)=some _;unfold dPut;rw [if_neg (by omega)];congr 2;simp;omega
   ·rw [List.getElem?_eq_none (by simp;omega),List.getElem?_eq_none (by simp;omega)];rfl
end Go.Proofs.YtjpeglkkkllagaaGreatDoor.Hp
namespace Go.Proofs.YtjpeglkkkllagaaGreatDoor.Hp
open Go.RowKit Go.Sort
theorem first_drop (want:Nat) (G:List (Nat×Nat)) (k:Nat) (h:k<G.length):firstG want (G.drop k)=if want≤(G.getD k (0,0)).2 then ((G.getD k (0,0)).1:Int) else firstG want (G.drop (k+1)):=by
 rw [List.drop_eq_getElem_cons h,firstG,List.getD_eq_getElem?_getD,List.getElem?_eq_getElem h];rfl
def gapI (want:Nat) (G:List (Nat×Nat)):Int:=if 0≤firstG want G then firstG want G else 0
def gapO (want:Nat) (G:List (Nat×Nat)):Bool:=decide (0≤firstG want G)
def freeI (L:List Cl):Int:=if freeAt L=40 then 0 else (freeAt L:Int)
def freeO (L:List Cl):Bool:=decide (freeAt L≠40)
theorem ret_at {a b:Int} {p q:Bool} (h1:a=b) (h2:p=q):Ending.returned (.tuple #[.int .i64 a,.bool p])= .returned (.tuple #[.int .i64 b,.bool q]):=by rw [h1,h2]
theorem gapFor_any (g n want:Nat) (d:Nat→UInt8) (t:Nat→Bool) (cs:Value) (w:World) (h:Arena w g d t n cs) (hn:n≤3000) (_:want≤1048576):
  Calls Tryz.prog 186 #[.pointer (some ⟨g,0,none⟩),.int .i64 want] w fun e w'=>e= .returned (.tuple #[.int .i64 (gapI want (scanM t n).1),.bool (gapO want (scanM t n).1)])∧Below w.heap.size w w':=by
 have HBd:Hid (∀x∈(scanM t n).1,x.1≤n∧x.2≤n):=scan_bound t n;have hlen:=(scan_shape t n).2;have hga:=gaps_any g n d t cs w h hn;generalize (scanM t n).1=G at*;have HGA:Hid (Calls Tryz.prog 60 #[.pointer (some ⟨g,0,none⟩)] w _):=hga;clear hga;go_enter Tryz.func186,Tryz.ntmps186;go_wp2_with fail;refine HGA.out.mono ?_;clear HGA;rintro e w2 ⟨v,rfl,hown,b2⟩;obtain ⟨a,A,cap,rfl,hA⟩:=form_any hown;have HC:Hid (∀k,k<G.length→w2.cell? ⟨A,k*2,none⟩=some (.int .i64 ((G.getD k (0,0)).1:Nat))∧w2.cell? ⟨A,k*2+1,none⟩=some (.int .i64 ((G.getD k (0,0)).2:Nat))∧A<w2.heap.size):=fun k hk=>by
  obtain rfl:=hA (by omega);have h1:=hown.cells rfl (k*2) _ (flatG_at G k hk).1;have h2:=hown.cells rfl (k*2+1) _ (flatG_at G k hk).2;rw [Addr.add_lit,Nat.zero_add] at h1 h2;exact ⟨h1,h2,(hown.lt A rfl).2⟩
 clear hown;go_wp2;go_loopw [7,11] (fun _ i wr=>∃k:Nat,k≤G.length∧i= .int .i64 k∧Hid (firstG want G=firstG want (G.drop k))∧Below w2.heap.size w2 wr) (fun _ i _=>G.length-(intOf i).toNat)
 case atStart=>exact ⟨0,by omega,rfl,(by unfold Hid;rw [List.drop_zero]),Below.refl _ _⟩
 case round=>
  obtain ⟨k,hk,rfl,hfd,bk⟩:=hrel;by_cases hlt:k<G.length
  ·obtain rfl:=hA (by omega);obtain ⟨c0',c1',hAl⟩:=HC.out k hlt;have c0:=(bk.cell (p:=⟨A,k*2,none⟩) hAl).trans c0';have c1:=(bk.cell (p:=⟨A,k*2+1,none⟩) hAl).trans c1';clear c0' c1';have hbd:=HBd.out (G.getD k (0,0)) (by rw [List.getD_eq_getElem?_getD,List.getElem?_eq_getElem hlt];exact List.getElem_mem hlt);have HS:=first_drop want G k hlt;rw [←hfd.out] at HS;generalize G.getD k (0,0)=y at*;obtain ⟨y1,y2⟩:=y;simp only at c0 c1 hbd HS;by_cases hyes:want≤y2
   ·rw [if_pos hyes] at HS;have HF:Hid (firstG want G=(y1:Int)):=HS;have hwi:(want:Int)≤(y2:Int):=by omega
    clear HS hfd;go_wp2;go_ret2;exact ⟨ret_at (by unfold gapI;rw [HF.out,if_pos (by omega)]) (by unfold gapO;rw [HF.out];exact (decide_eq_true (by omega)).symm),b2.trans ((bk.alloc bk.size _).mono b2.size)⟩
   ·rw [if_neg hyes] at HS;have HF:Hid (firstG want G=firstG want (G.drop (k+1))):=HS;have hwi:¬(want:Int)≤(y2:Int):=by omega
    clear HS hfd;go_wp2;go_roundw
    case rel=>exact ⟨k+1,by omega,by go_num,HF,bk.alloc bk.size _⟩
    case measure=>simp [intOf];omega
  ·have HF:Hid (firstG want G= -1):=by
    unfold Hid;rw [hfd.out,List.drop_eq_nil_of_le (by omega)];rfl
   clear hfd;go_wp2;go_ret2;exact ⟨ret_at (by unfold gapI;rw [HF.out,if_neg (by omega)]) (by unfold gapO;rw [HF.out];exact (decide_eq_false (by omega)).symm),b2.trans (bk.mono b2.size)⟩
theorem freeCell_any (g n:Nat) (d:Nat→UInt8) (t:Nat→Bool) (L:List Cl) (w:World) (h:OpenC w g d t n L) (hL:L.length≤40) (hf:∀i,i<L.length→Fit (L.getD i cl0)):
  Calls Tryz.prog 187 #[.pointer (some ⟨g,0,none⟩)] w fun e w'=>e= .returned (.tuple #[.int .i64 (freeI L),.bool (freeO L)])∧(freeAt L≠40→OpenC w' g d t n (roomC L))∧Below g w w':=by
 obtain ⟨i0,hi,hz0,hz1,hz2⟩:=info_parts info76;have HOp:Hid (OpenC w g d t n L):=h;obtain ⟨cs,ps,ha,ho,hpl,hpc,hpn⟩:=h;have hglt:=ha.lt;obtain ⟨a,A,cap,rfl,hA⟩:=form_any ho;have cc:=ha.cells;have HA:Hid (∀k,k<L.length→w.cell? ⟨A,k,none⟩=some (.pointer (some ⟨ps.getD k 0,0,none⟩))):=fun k hk=>by
  obtain rfl:=hA (by omega);have:=ho.cells rfl k (ptrV (ps.getD k 0)) (by rw [List.getElem?_map,List.getD_eq_getElem?_getD,List.getElem?_eq_getElem (by omega)];rfl);rw [Addr.add_lit,Nat.zero_add] at this;exact this
 have HPC:Hid (∀i,i<L.length→g<ps.getD i 0∧RowAt w (ps.getD i 0) 84 (clV (L.getD i cl0))):=hpc;have HFit:Hid (∀i,i<L.length→Fit (L.getD i cl0)):=hf;clear hpc hf;go_enter Tryz.func187,Tryz.ntmps187;go_wp2;go_loop [4,5,11] (fun _ _ i=>∃k:Nat,k≤L.length∧i= .int .i64 k∧Hid (∀i,i<k→¬((L.getD i cl0).live=false∧(L.getD i cl0).gen<1000000000))) (fun _ _ i=>L.length-(intOf i).toNat)
 case atStart=>exact ⟨0,by omega,rfl,fun i hi=>by omega⟩
 case round=>
  obtain ⟨k,hk,rfl,hno⟩:=hrel;by_cases hlt:k<L.length
  ·obtain rfl:=hA (by omega);have cp:=HA.out k hlt;have hx:=(HPC.out k hlt).2;have hfit:=HFit.out k hlt;have c2:w.cell? ⟨ps.getD k 0,2,none⟩=some (.int .i64 (L.getD k cl0).gen):=hx.cell 2;have c3:w.cell? ⟨ps.getD k 0,3,none⟩=some (.bool (L.getD k cl0).live):=hx.cell 3;have HY:Hid ((L.getD k cl0).live=false∧(L.getD k cl0).gen<1000000000→freeAt L=k):=free_step L k hlt hno.out;have HN:Hid (¬((L.getD k cl0).live=false∧(L.getD k cl0).gen<1000000000)→∀i,i<k+1→¬((L.getD i cl0).live=false∧(L.getD i cl0).gen<1000000000)):=fun hn i hi2=>by
    rcases Nat.lt_succ_iff_lt_or_eq.1 hi2 with h|h
    ·exact hno.out i h
    ·rw [h];exact hn
   generalize L.getD k cl0=x at*;generalize ps.getD k 0=p at*;clear hx hno;cases hlv:x.live with
   |true=>
    rw [hlv] at c3;have HN2:=HN.out (fun h=>by rw [hlv] at h;cases h.1);have HN3:Hid _:=HN2;clear HN HN2 HY;go_wp2;go_round
    ·exact ⟨k+1,by omega,by go_num,HN3.out⟩
    ·simp [intOf];omega
   |false=>
    rw [hlv] at c3;by_cases hgen:x.gen<1000000000
    ·have HE:Hid (freeAt L=k):=HY.out ⟨hlv,hgen⟩;have dg:decide (x.gen<1000000000)=true:=decide_eq_true hgen;clear HN HY;go_wp2;go_ret2;refine ⟨ret_at ?_ ?_,fun _=>?_,Below.refl _ _⟩
     ·unfold freeI;rw [HE.out,if_neg (by omega)]
     ·unfold freeO;rw [HE.out];exact (decide_eq_true (by omega)).symm
     ·unfold roomC;rw [HE.out,if_neg (by omega)];exact HOp.out
    ·have HN2:=HN.out (fun h=>hgen h.2);have HN3:Hid _:=HN2;have dg:decide (x.gen<1000000000)=false:=decide_eq_false hgen;clear HN HN2 HY;go_wp2;go_round
     ·exact ⟨k+1,by omega,by go_num,HN3.out⟩
     ·simp [intOf];omega
  ·obtain rfl:k=L.length:=by omega
   have HE:Hid (freeAt L=L.length):=free_none L hno.out;clear hno;by_cases h40:L.length=40
   ·have HE2:Hid (freeAt L=40):=HE.out.trans h40;have e40:((L.length:Int)==40)=true:=by simp;omega
    clear h40;go_wp2;go_ret2;refine ⟨ret_at ?_ ?_,fun h=>absurd HE2.out h,Below.refl _ _⟩
    ·unfold freeI;rw [if_pos HE2.out]
    ·unfold freeO;rw [HE2.out];rfl
   ·have e40:((L.length:Int)==40)=false:=by simp;omega
    have HADD:Hid (∀w' cs',Arena w' g d t n cs'→w'.ownsRow (g+1) 81 1 cs' (L.length+1) (ps.map ptrV++ [.pointer (some ⟨w.heap.size,0,none⟩)])→(∀j,j<w.heap.size+1→j≠g→some j≠Value.ownBlock (.slice a L.length cap)→w'.heap[j]?=(w.alloc (.cells (clV cl0) 84)).heap[j]?)→OpenC w' g d t n (L++ [cl0])):=
     fun w' cs' h1 h2 h3=>openC_add ha ho hpl HPC.out hpn h1 h2 h3
    have hb1:Below w.heap.size w (w.alloc (.cells (clV cl0) 84)):=(Below.refl _ w).alloc (Nat.le_refl _) _;have ho1:=ho.alloc (.cells (clV cl0) 84);have ha1:=ha.below hb1 hglt;have c1:=ha1.cells;generalize ps.map ptrV=xs at*;go_wp2_with (at_builtin;refine wpList_append_own _ rfl _ _ 77 rfl (g+1) 81 i0 _ 1 8 Tryz.underlying77 hi hz0 hz1 hz2 rfl (by decide) _ _ _ rfl (ho1.alloc _) ⟨w.heap.size+1,0,none⟩ 1 1 [.pointer (some ⟨w.heap.size,0,none⟩)] rfl rfl ?c1 ?c2 ?c3 ?c4 ?c5 ?_)
    case c2=>rfl
    case c3=>unfold maxLen;omega
    case c4=>omega
    case c5=>omega
    intro v0' w5 hown' hgrow _;obtain ⟨A',cap',hv'⟩:=Go.Joins.ownsRow_form hown' (by omega);subst hv';have hgrow1:((w.alloc (.cells (clV cl0) 84)).alloc (.cells #[.pointer (some ⟨w.heap.size,0,none⟩)] 81)).grownBy w5 (Value.ownBlock (.slice a L.length cap)):=hgrow;have hsz5:w.heap.size+2≤w5.heap.size:=by have:=hgrow1.size;simp at this;omega
    have hblk:∀j,j<w.heap.size+1→some j≠Value.ownBlock (.slice a L.length cap)→w5.heap[j]?=(w.alloc (.cells (clV cl0) 84)).heap[j]?:=fun j hj hne=>by
     rw [hgrow1.block j (by simp;omega) hne];exact Below.heap_alloc _ _ _ (by simp;omega)
    have hcsg:some g≠Value.ownBlock (.slice a L.length cap):=fun e=>by have:=(ho.lt g e.symm).1;omega
    have ha5:Arena w5 g d t n (.slice a L.length cap):=by
     obtain ⟨C,hr,hrest⟩:=ha1.row;exact ⟨C,(hblk g (by omega) hcsg).trans hr,hrest⟩
    have hb5:Below g w w5:=⟨hgrow1.os,hgrow1.tape,hgrow1.output,by omega,fun j hj=> (hblk j (by omega) (fun e=>by have:=(ho.lt j e.symm).1;omega)).trans (Below.heap_alloc _ _ _ (by omega))⟩;have cc5:=ha5.cells;have fz5:=ha5.frozen 6001;have HA6:Hid (Arena (w5.setCell ⟨g,6001,none⟩ (.slice (some ⟨A',0,none⟩) (L.length+1) cap')) g d t n (.slice (some ⟨A',0,none⟩) (L.length+1) cap')):=ha5.setCells;have HO6:Hid ((w5.setCell ⟨g,6001,none⟩ (.slice (some ⟨A',0,none⟩) (L.length+1) cap')).ownsRow (g+1) 81 1 (.slice (some ⟨A',0,none⟩) (L.length+1) cap') (L.length+1) (xs++ [.pointer (some ⟨w.heap.size,0,none⟩)])):=ownsRow_setCell_below hown' (by simp) _;have HB6:Hid (Below g w (w5.setCell ⟨g,6001,none⟩ (.slice (some ⟨A',0,none⟩) (L.length+1) cap'))):=hb5.setCell (p:=⟨g,6001,none⟩) (Nat.le_refl _) _;have HK6:Hid (∀j,j<w.heap.size+1→j≠g→some j≠Value.ownBlock (.slice a L.length cap)→(w5.setCell ⟨g,6001,none⟩ (.slice (some ⟨A',0,none⟩) (L.length+1) cap')).heap[j]?=(w.alloc (.cells (clV cl0) 84)).heap[j]?):=fun j hj hjg hjo=>
     (Below.heap_setCell _ _ _ _ (by simpa using hjg)).trans (hblk j hj hjo)
    have c6:=HA6.out.cells;clear hown' hgrow hgrow1 hblk ha5 hb5 hcsg ha ha1 ho ho1 c1 cc;go_wp2;go_ret2;refine ⟨ret_at ?_ ?_,fun _=>?_,HB6.out⟩
    ·unfold freeI;rw [HE.out,if_neg h40]
    ·unfold freeO;rw [HE.out];exact (decide_eq_true h40).symm
    ·unfold roomC;rw [HE.out,if_pos rfl];exact HADD.out _ _ HA6.out HO6.out HK6.out
end Go.Proofs.YtjpeglkkkllagaaGreatDoor.Hp
namespace Go.Proofs.YtjpeglkkkllagaaGreatDoor.Hp
open Go.RowKit Go.Sort
abbrev putCell (w:World) (q:Nat) (x:Cl):World:=(((w.setCell ⟨q,0,none⟩ (.int .i64 x.pos)).setCell ⟨q,1,none⟩ (.int .i64 x.len)).setCell ⟨q,3,none⟩ (.bool x.live)).setCell ⟨q,2,none⟩ (.int .i64 x.gen)
theorem putCell_other (w:World) (q:Nat) (x:Cl) (j:Nat) (h:j≠q):(putCell w q x).heap[j]?=w.heap[j]?:=
 (Below.heap_setCell _ _ _ _ (by simpa using h)).trans ((Below.heap_setCell _ _ _ _ (by simpa using h)).trans ((Below.heap_setCell _ _ _ _ (by simpa using h)).trans (Below.heap_setCell _ _ _ _ (by simpa using h))))
theorem putCell_row {w:World} {q:Nat} {y:Cl} (x:Cl) (h:RowAt w q 84 (clV y)):RowAt (putCell w q x) q 84 (clV x):=by
 have:=(((h.set 0 (.int .i64 x.pos)).set 1 (.int .i64 x.len)).set 3 (.bool x.live)).set 2 (.int .i64 x.gen);simpa using this
theorem openC_set {w:World} {g n k:Nat} {d:Nat→UInt8} {t:Nat→Bool} {L:List Cl} {cs:Value} {ps:List Nat} (x:Cl) (ha:Arena w g d t n cs) (ho:w.ownsRow (g+1) 81 1 cs L.length (ps.map ptrV)) (hpl:ps.length=L.length)
  (hpc:∀i,i<L.length→g<ps.getD i 0∧RowAt w (ps.getD i 0) 84 (clV (L.getD i cl0))) (hpn:ps.Nodup) (hk:k<L.length):
  Arena (putCell w (ps.getD k 0) x) g d t n cs∧(putCell w (ps.getD k 0) x).ownsRow (g+1) 81 1 cs L.length (ps.map ptrV)∧∀i,i<L.length→g<ps.getD i 0∧RowAt (putCell w (ps.getD k 0) x) (ps.getD i 0) 84 (clV ((L.set k x).getD i cl0)):=by
 obtain ⟨q1,q2⟩:=hpc k hk;refine ⟨?_,?_,fun i hi=>⟨(hpc i hi).1,?_⟩⟩
 ·obtain ⟨C,hr,hrest⟩:=ha.row;exact ⟨C,(putCell_other _ _ _ _ (by omega)).trans hr,hrest⟩
 ·exact ho.kept (row:=some (ps.getD k 0)) ⟨rfl,rfl,rfl,by simp [World.setCell],fun j _ hj=>putCell_other _ _ _ _ (fun e=>hj (by rw [e]))⟩ (.inr fun e=>own_ne ho q2 (by decide) e.symm)
 ·by_cases hik:i=k
  ·subst hik;have e:(L.set i x).getD i cl0=x:=by
    rw [List.getD_eq_getElem?_getD,List.getElem?_set_self hk];rfl
   rw [e];exact putCell_row x q2
  ·have e:(L.set k x).getD i cl0=L.getD i cl0:=by
    rw [List.getD_eq_getElem?_getD,List.getD_eq_getElem?_getD,List.getElem?_set_ne (fun e=>hik e.symm)]
   rw [e];refine (putCell_other _ _ _ _ (fun h=>hik ?_)).trans (hpc i hi).2;have hi':i<ps.length:=by omega
   have hk':k<ps.length:=by omega
   rw [List.getD_eq_getElem?_getD,List.getD_eq_getElem?_getD,List.getElem?_eq_getElem hi',List.getElem?_eq_getElem hk'] at h;rcases Nat.lt_trichotomy i k with hl|hl|hl
   ·exact absurd h (List.pairwise_iff_getElem.1 hpn i k hi' hk' hl)
   ·exact hl
   ·exact absurd h.symm (List.pairwise_iff_getElem.1 hpn k i hk' hi' hl)
theorem Arena.copiedAt {w':World} {g n P:Nat} {s x:ByteArray} {t:Nat→Bool} {cs:Value} {C:Array Value} (hsz:C.size=6002) (hd:∀i,i<3000→C[i]?=some (.int .u8 (byteAt s i).toNat))
  (ht:∀i,i<3000→C[3000+i]?=some (.bool (t i))) (hs:C[6000]?=some (.int .i64 n)) (hc:C[6001]?=some cs) (hn:P+x.size≤3000)
  (hw:RowAt w' g 79 (C.toList.take P++Lib.byteCells x.data.toList++C.toList.drop (P+x.size)).toArray):Arena w' g (dPut s P x) t n cs:=by
 have hlen:(Lib.byteCells x.data.toList).length=x.size:=by rw [Lib.byteCells_length,←Lib.size_eq]
 have htl:(C.toList.take P).length=P:=by rw [List.length_take,Array.length_toList,hsz];omega
 have hget:∀i,(C.toList.take P++Lib.byteCells x.data.toList++C.toList.drop (P+x.size)).toArray[i]?=if P≤i∧i<P+x.size then (Lib.byteCells x.data.toList)[i-P]? else C[i]?:=fun i=>by
  rw [List.getElem?_toArray,List.append_assoc];by_cases h1:i<P
  ·rw [if_neg (by omega),List.getElem?_append_left (by rw [htl];exact h1),List.getElem?_take,if_pos h1,Array.getElem?_toList]
  ·rw [List.getElem?_append_right (by rw [htl];omega),htl];by_cases h2:i<P+x.size
   ·rw [if_pos (by omega),List.getElem?_append_left (by rw [hlen];omega)]
   ·rw [if_neg (by omega),List.getElem?_append_right (by rw [hlen];omega),hlen,List.getElem?_drop,Array.getElem?_toList];congr 1;omega
 refine ⟨_,hw,?_,fun i hi=>?_,fun i hi=>?_,?_,?_⟩
 ·rw [List.size_toArray,List.length_append,List.length_append,htl,hlen,List.length_drop,Array.length_toList,hsz];omega
 ·rw [hget i];by_cases h:P≤i∧i<P+x.size
  ·have hl:i-P<x.data.toList.length:=by rw [←Lib.size_eq];omega
   rw [if_pos h,Lib.byteCells,List.getElem?_map,List.getElem?_eq_getElem hl,dPut,if_pos h,byteAt,List.getD_eq_getElem?_getD,List.getElem?_eq_getElem hl];rfl
  ·rw [if_neg h,hd i hi,dPut,if_neg h]
 ·rw [hget,if_neg (by omega),ht i hi]
 ·rw [hget,if_neg (by omega),hs]
 ·rw [hget,if_neg (by omega),hc]
theorem implPut_any (s x:ByteArray) (a:Option Addr) (b off n c:Nat) (L:List Cl) (w:World) (h:CellsIn w a b off n L) (hf:∀i,i<n→Fit (L.getD i cl0)) (hx:x.size≤1048576):
  Calls Tryz.prog 184 #[.agg #[.string s,.slice a n c],.string x] w (PutEnd w s L x):=by
 have bw:Below w.heap.size w (((w.alloc (.cells #[.string s,.slice a n c] 29)).alloc (.cells #[.string ⟨#[]⟩,.slice none 0 0] 29)).alloc (.cells #[.int .i64 0,.int .i64 0] 55)):=Go.Joins.below_alloc3 _ _ _ _;have r1:=(RowAt.new (w.alloc (.cells #[.string s,.slice a n c] 29)) 29 #[.string ⟨#[]⟩,.slice none 0 0]).below ((Below.refl _ _).alloc (Nat.le_refl _) (.cells #[.int .i64 0,.int .i64 0] 55)) (by simp);have r2:=RowAt.new ((w.alloc (.cells #[.string s,.slice a n c] 29)).alloc (.cells #[.string ⟨#[]⟩,.slice none 0 0] 29)) 55 #[.int .i64 0,.int .i64 0];simp only [World.size_alloc] at r1 r2;have h2:=zaj h bw;have l1:=r1.lt;have l2:=r2.lt;have HL:Hid (L.length=n):=h.len;go_enter Tryz.func184,Tryz.ntmps184;go_wp2_with fail;generalize ((w.alloc (.cells #[.string s,.slice a n c] 29)).alloc (.cells #[.string ⟨#[]⟩,.slice none 0 0] 29)).alloc (.cells #[.int .i64 0,.int .i64 0] 55)=w1 at*;refine (openedC_all s a b off n c L w1 h2 hf).mono ?_;rintro e w2 ⟨p,rfl,hop,b2⟩;have bb:=bw.trans (b2.mono bw.size);have q1:=r1.below b2 l1;have q2:=r2.below b2 l2;have s2:=b2.size;clear r1 r2 h2 bw;cases hr:heapB s L with
 |false=>
  have HR:Hid (putOk s L x=false):=by unfold Hid putOk;rw [hr];rfl
  obtain ⟨u1,u2⟩:=rows_ret (D:= .string ⟨#[]⟩) (v:= .slice none 0 0) (rc:= .int .i64 0) (rg:= .int .i64 0) q1 q2 rfl rfl (by omega);obtain ⟨e0,e1⟩:=zbb q1;obtain ⟨e2,e3⟩:=zbb q2;obtain ⟨g0,g1⟩:=zbb u1;obtain ⟨g2,g3⟩:=zbb u2;have f0:=q1.frozen 0;have f1:=q1.frozen 1;have f2:=q2.frozen 0;have f3:=q2.frozen 1;clear hr hop q1 q2 u1 u2;go_wp2;exact bodyPost_ret (v:= .tuple #[.agg #[.string ⟨#[]⟩,.slice none 0 0],refV 0 0,.bool false]) (by simp [results,Tryz.results184,go_sem,g0,g1,g2,g3]) rfl (put_no HR.out ((((bb.setCell (by simp) _).setCell (by simp) _).setCell (by simp;omega) _).setCell (by simp;omega) _))
 |true=>
  obtain ⟨g,t,rfl,hom,hoc,hg⟩:=hop hr;have hR:=right_of_open hom;obtain ⟨hs3,hL⟩:=heap_small hr;have HH:Hid (heapB s L=true):=hr;clear hr hop;by_cases hx0:x.size=0
  ·obtain rfl:=empty_of hx0;have HR:Hid (putOk s L ⟨#[]⟩=false):=put_no_empty s L;obtain ⟨u1,u2⟩:=rows_ret (D:= .string ⟨#[]⟩) (v:= .slice none 0 0) (rc:= .int .i64 0) (rg:= .int .i64 0) q1 q2 rfl rfl (by omega);obtain ⟨e0,e1⟩:=zbb q1;obtain ⟨e2,e3⟩:=zbb q2;obtain ⟨g0,g1⟩:=zbb u1;obtain ⟨g2,g3⟩:=zbb u2;have f0:=q1.frozen 0;have f1:=q1.frozen 1;have f2:=q2.frozen 0;have f3:=q2.frozen 1;clear hom hoc q1 q2 u1 u2;go_wp2;exact bodyPost_ret (v:= .tuple #[.agg #[.string ⟨#[]⟩,.slice none 0 0],refV 0 0,.bool false]) (by simp [results,Tryz.results184,go_sem,g0,g1,g2,g3]) rfl (put_no HR.out ((((bb.setCell (by simp) _).setCell (by simp) _).setCell (by simp;omega) _).setCell (by simp;omega) _))
  ·have hxb:x.toList.isEmpty=false:=not_empty hx0;have HP:Hid ((gapFold x.size s.size (liveC [] L) 0 (-1,0)).1=firstG x.size (scanM t s.size).1):=put_at hR (by omega);have HRm:Hid (∀y∈(scanM t s.size).1,y.1+y.2≤s.size):=(scan_room t s.size).1;obtain ⟨cs,ha2⟩:∃cs,Arena w2 g (byteAt s) t s.size cs:=by
    obtain ⟨cs,_,h1,_⟩:=hoc;exact ⟨cs,h1⟩
   have hGF:=gapFor_any g s.size x.size (byteAt s) t cs w2 ha2 hs3 hx;generalize (scanM t s.size).1=G at*;go_wp2_with fail;refine hGF.mono ?_;clear hGF;rintro e w3 ⟨rfl,b3⟩;have bb3:=bb.trans (b3.mono bb.size);have s3:=b3.size;have p1:=q1.below b3 (by omega);have p2:=q2.below b3 (by omega);have ho3:=hoc.below b3;clear q1 q2 ha2 hoc;by_cases hat:0≤firstG x.size G
   ·have HI:Hid (gapI x.size G=firstG x.size G):=if_pos hat;have HO:gapO x.size G=true:=decide_eq_true hat;rw [HO];clear HO;have hroom:=first_room x.size s.size G HRm.out hat;rw [HI.out];obtain ⟨P,hP⟩:∃P:Nat,firstG x.size G=P:=⟨_,(Int.toNat_of_nonneg hat).symm⟩;rw [hP] at hroom ⊢;have HPos:Hid (putPos s L x=P):=by unfold Hid putPos;rw [HP.out,hP];rfl
    have HGe:Hid (0≤(gapFold x.size s.size (liveC [] L) 0 (-1,0)).1):=by unfold Hid;rw [HP.out];exact hat
    clear hP hat HP HI;have hFC:=freeCell_any g s.size (byteAt s) t L w3 ho3 hL (fun i hi=>hf i (by rw [←HL.out];exact hi));go_wp2_with fail;refine hFC.mono ?_;clear hFC;rintro e w4 ⟨rfl,hop4,b4⟩;have bb4:=bb3.trans (b4.mono (by omega));have s4:=b4.size;have o1:=p1.below b4 (by omega);have o2:=p2.below b4 (by omega);clear p1 p2;by_cases h40:freeAt L=40
    ·have HR:Hid (putOk s L x=false):=by
      unfold Hid putOk;rw [decide_eq_false (p:=freeAt L≠40) (by omega),Bool.and_false]
     have HFo:freeO L=false:=decide_eq_false (by omega);rw [HFo];clear HFo;obtain ⟨u1,u2⟩:=rows_ret (D:= .string ⟨#[]⟩) (v:= .slice none 0 0) (rc:= .int .i64 0) (rg:= .int .i64 0) o1 o2 rfl rfl (by omega);obtain ⟨e0,e1⟩:=zbb o1;obtain ⟨e2,e3⟩:=zbb o2;obtain ⟨g0,g1⟩:=zbb u1;obtain ⟨g2,g3⟩:=zbb u2;have f0:=o1.frozen 0;have f1:=o1.frozen 1;have f2:=o2.frozen 0;have f3:=o2.frozen 1;clear hop4 o1 o2 u1 u2;go_wp2;exact bodyPost_ret (v:= .tuple #[.agg #[.string ⟨#[]⟩,.slice none 0 0],refV 0 0,.bool false]) (by simp [results,Tryz.results184,go_sem,g0,g1,g2,g3]) rfl (put_no HR.out ((((bb4.setCell (by simp) _).setCell (by simp) _).setCell (by simp;omega) _).setCell (by simp;omega) _))
    ·have HFo:freeO L=true:=decide_eq_true h40;rw [HFo];clear HFo;have HFi:Hid (freeI L=freeAt L):=if_neg h40;rw [HFi.out];have HOK:Hid (putOk s L x=true):=by
      unfold Hid putOk;rw [HH.out,decide_eq_true (p:=x.size≠0) hx0,decide_eq_true HGe.out,decide_eq_true (p:=freeAt L≠40) h40];rfl
     obtain ⟨cs4,ps,ha4,ho4,hpl,hpc,hpn⟩:=hop4 h40;have hkr:=room_len L;have hMl:(roomC L).length≤40:=by
      have:=free_le L;unfold roomC;split
      ·rw [List.length_append];simp only [List.length_cons,List.length_nil];omega
      ·exact hL
     have hgen:=room_gen HH.out;obtain ⟨k,hk⟩:∃k,freeAt L=k:=⟨_,rfl⟩;have HKe:Hid (freeAt L=k):=hk;rw [hk] at hkr hgen ⊢;have HMe:Hid (∃M,roomC L=M):=⟨_,rfl⟩;obtain ⟨M,hM⟩:=HMe.out;rw [hM] at ho4 hpl hpc hkr hgen hMl;have HMe2:Hid (roomC L=M):=hM;clear hop4 hM hk HMe HFi h40;obtain ⟨A,cap,rfl⟩:=Go.Joins.ownsRow_form ho4 (by omega);have cc:=ha4.cells;have cp:w4.cell? ⟨A,k,none⟩=some (.pointer (some ⟨ps.getD k 0,0,none⟩)):=by
      have:=ho4.cells rfl k (ptrV (ps.getD k 0)) (by rw [List.getElem?_map,List.getD_eq_getElem?_getD,List.getElem?_eq_getElem (by omega)];rfl);rw [Addr.add_lit,Nat.zero_add] at this;exact this
     have hy:=(hpc k hkr).2;have hqg:=(hpc k hkr).1;have hset:=openC_set (k:=k) ⟨P,x.size,(M.getD k cl0).gen+1,true⟩ ha4 ho4 hpl hpc hpn hkr;have c0:w4.cell? ⟨ps.getD k 0,0,none⟩=some (.int .i64 (M.getD k cl0).pos):=hy.cell 0;have c1:w4.cell? ⟨ps.getD k 0,1,none⟩=some (.int .i64 (M.getD k cl0).len):=hy.cell 1;have c2:w4.cell? ⟨ps.getD k 0,2,none⟩=some (.int .i64 (M.getD k cl0).gen):=hy.cell 2;have c3:w4.cell? ⟨ps.getD k 0,3,none⟩=some (.bool (M.getD k cl0).live):=hy.cell 3;have f0:=hy.frozen 0;have f1:=hy.frozen 1;have f2:=hy.frozen 2;have f3:=hy.frozen 3;generalize hqe:ps.getD k 0=q at*;generalize hye:M.getD k cl0=y at*;have HYe:Hid (M.getD k cl0=y):=hye;clear hy hpc;obtain ⟨ha5,ho5,hpc5⟩:=hset;obtain ⟨C,hr5,hsz,hd,ht,hs,hc⟩:=ha5.row;have hP3:(P:Int)≤3000:=by omega
     have hPn:¬3000=P:=by omega
     have hP4:(0:Int)≤(P:Int):=by omega
     have hcp:∀ty,(Builtin.copy_ #[22,9] ty #[.slice (some ⟨g,P,none⟩) (3000-P) (3000-P),.string x]).run Tryz.prog (putCell w4 q ⟨P,x.size,y.gen+1,true⟩)= .ok (goInt x.size) ((putCell w4 q ⟨P,x.size,y.gen+1,true⟩).setRow g (C.toList.take P++Lib.byteCells x.data.toList++C.toList.drop (P+x.size)).toArray):=fun ty=>
      Lib.run_copy_row_string _ 22 9 ty 5 g P (3000-P) (3000-P) x C 79 Tryz.underlying22 info5s hr5 (by omega) (by omega)
     have hr6:RowAt ((putCell w4 q ⟨P,x.size,y.gen+1,true⟩).setRow g (C.toList.take P++Lib.byteCells x.data.toList++C.toList.drop (P+x.size)).toArray) g 79 (C.toList.take P++Lib.byteCells x.data.toList++C.toList.drop (P+x.size)).toArray:=
      setRow_heap _ g C _ 79 _ hr5
     have ha6:=Arena.copiedAt (s:=s) hsz hd ht hs hc (by omega) hr6;have hg6:(putCell w4 q ⟨P,x.size,y.gen+1,true⟩).grownBy ((putCell w4 q ⟨P,x.size,y.gen+1,true⟩).setRow g (C.toList.take P++Lib.byteCells x.data.toList++C.toList.drop (P+x.size)).toArray) (some g):=
      ⟨rfl,rfl,rfl,by simp [World.setRow],fun k _ hk=>by rw [setRow_other _ _ _ _ (fun e=>hk (by rw [e]))]⟩
     generalize (C.toList.take P++Lib.byteCells x.data.toList++C.toList.drop (P+x.size)).toArray=D at*;have HA6:Hid (Arena _ g (dPut s P x) t s.size (.slice (some ⟨A,0,none⟩) M.length cap)):=ha6;clear ha5 hr5 hsz hd ht hs hc hr6 ha6;go_wp2_with fail;have hLs:(M.set k ⟨P,x.size,y.gen+1,true⟩).length=M.length:=List.length_set;have ho6:=ho5.kept hg6 (.inr fun e=>by have:=(ho5.lt _ e).1;omega);have hpc6:∀i,i<M.length→RowAt ((putCell w4 q ⟨P,x.size,y.gen+1,true⟩).setRow g D) (ps.getD i 0) 84 (clV ((M.set k ⟨P,x.size,y.gen+1,true⟩).getD i cl0)):=fun i hi=>
      (hg6.block _ (hpc5 i hi).2.lt (fun e=>by have:=(hpc5 i hi).1;have:=Option.some.inj e;omega)).trans (hpc5 i hi).2
     have hb6:Below w1.heap.size w4 ((putCell w4 q ⟨P,x.size,y.gen+1,true⟩).setRow g D):=
      ⟨hg6.os,hg6.tape,hg6.output,by have:=hg6.size;simp [World.setCell] at this ⊢,fun j hj=> (hg6.block j (by simp [World.setCell];omega) (by simp;omega)).trans (putCell_other _ _ _ _ (by omega))⟩
     have t1:=o1.below hb6 l1;have t2:=o2.below hb6 l2;have bb6:=bb4.trans (hb6.mono (by omega));have hget:(M.set k ⟨P,x.size,y.gen+1,true⟩).getD k cl0=⟨P,x.size,y.gen+1,true⟩:=by
      rw [List.getD_eq_getElem?_getD,List.getElem?_set_self hkr];rfl
     have hq6:=hpc6 k hkr;rw [hqe,hget] at hq6;clear c0 c1 c2 c3 f0 f1 f2 f3 cc cp ho5 hpc5 o1 o2 ha4 ho4 hb6 hcp;generalize (putCell w4 q ⟨P,x.size,y.gen+1,true⟩).setRow g D=w6 at*;have s6:w1.heap.size≤w6.heap.size:=by have:=HA6.out.lt;omega
     have bd:Below w6.heap.size w6 w6.drew:=below_drewN w6 1;have hHP:=heap_any g s.size (dPut s P x) t (M.set k ⟨P,x.size,y.gen+1,true⟩) (.slice (some ⟨A,0,none⟩) M.length cap) ps w6.drew (HA6.out.below bd HA6.out.lt) (by rw [hLs];exact zaf ho6 bd) (by rw [hLs];exact hpl) (fun i hi=>by rw [hLs] at hi;exact (hpc6 i hi).below bd (hpc6 i hi).lt) (by rw [hLs];exact hMl) hs3;have hql:=hq6.lt;have k2:w6.cell? ⟨q,2,none⟩=some (.int .i64 (y.gen+1)):=hq6.cell 2;have HPO:Hid (∀j,w6.drew.heap.size=j→w6.heap.size=j):=fun j h=>h;clear ho6 hpc6 hg6 hLs hget hpl hpn
     go_region_with (first
      |(go_at_call 31;refine hHP.mono ?_;rintro e w7 ⟨v,rfl,ho7,b7⟩;rw [List.length_set] at ho7;obtain ⟨A7,cap7,hv7⟩:=Go.Joins.ownsRow_form ho7 (by omega);subst hv7;have b67:Below w6.heap.size w6 w7:=bd.trans b7;have m2:w7.cell? ⟨q,2,none⟩=some (.int .i64 (y.gen+1)):=(hq6.below b67 hql).cell 2;have t1':=t1.below b67 (by omega);have t2':=t2.below b67 (by omega);have e0:=(zbb t1').1;have e1:=(zbb t1').2;have e2:=(zbb t2').1;have e3:=(zbb t2').2;have f0:=t1'.frozen 0;have f1:=t1'.frozen 1;have f2:=t2'.frozen 0;have f3:=t2'.frozen 1;have bb7:=bb6.trans (b67.mono (by omega))))
     all_goals
      obtain ⟨u1,u2⟩:=rows_ret (D:= .string (dataOf (dPut s P x) s.size)) (v:= .slice (some ⟨A7,0,none⟩) M.length cap7) (rc:= .int .i64 k) (rg:= .int .i64 (y.gen+1)) t1' t2' rfl rfl (by omega);have g0:=(zbb u1).1;have g1:=(zbb u1).2;have g2:=(zbb u2).1;have g3:=(zbb u2).2;have hb7:w6.heap.size≤w6.drew.heap.size:=Nat.le_refl _;have ho8:=Go.Joins.ownsRow_le (ownsRow_setCell_below (ownsRow_setCell_below (ownsRow_setCell_below (ownsRow_setCell_below ho7 (a:=⟨w.heap.size+1,0,none⟩) (by simp only;omega) (.string (dataOf (dPut s P x) s.size))) (a:=⟨w.heap.size+1,1,none⟩) (by simp only;omega) (.slice (some ⟨A7,0,none⟩) M.length cap7)) (a:=⟨w.heap.size+1+1,0,none⟩) (by simp only;omega) (.int .i64 k)) (a:=⟨w.heap.size+1+1,1,none⟩) (by simp only;omega) (.int .i64 (y.gen+1))) (base':=w.heap.size) (by omega);clear u1 u2 t1' t2' ho7 t1 t2;go_wp2;exact bodyPost_ret (v:= .tuple #[.agg #[.string (dataOf (dPut s P x) s.size),.slice (some ⟨A7,0,none⟩) M.length cap7],refV k (y.gen+1),.bool true]) (by simp [results,Tryz.results184,go_sem,g0,g1,g2,g3]) rfl
       (put_end HOK.out (by rw [HPos.out];exact put_data s P x (by omega)) (by unfold putCells;rw [HPos.out,HMe2.out,HKe.out,HYe.out]) (by rw [HKe.out]) (by rw [HMe2.out,HKe.out,HYe.out]) (by rw [List.length_set];exact ho8) ((((bb7.setCell (by simp) _).setCell (by simp) _).setCell (by simp;omega) _).setCell (by simp;omega) _))
   ·have HR:Hid (putOk s L x=false):=by
     unfold Hid putOk;rw [HP.out,decide_eq_false hat,Bool.and_false,Bool.false_and]
    have HO:gapO x.size G=false:=decide_eq_false hat;rw [HO];clear HO;obtain ⟨u1,u2⟩:=rows_ret (D:= .string ⟨#[]⟩) (v:= .slice none 0 0) (rc:= .int .i64 0) (rg:= .int .i64 0) p1 p2 rfl rfl (by omega);obtain ⟨e0,e1⟩:=zbb p1;obtain ⟨e2,e3⟩:=zbb p2;obtain ⟨g0,g1⟩:=zbb u1;obtain ⟨g2,g3⟩:=zbb u2;have f0:=p1.frozen 0;have f1:=p1.frozen 1;have f2:=p2.frozen 0;have f3:=p2.frozen 1;clear ho3 p1 p2 u1 u2;go_wp2;exact bodyPost_ret (v:= .tuple #[.agg #[.string ⟨#[]⟩,.slice none 0 0],refV 0 0,.bool false]) (by simp [results,Tryz.results184,go_sem,g0,g1,g2,g3]) rfl (put_no HR.out ((((bb3.setCell (by simp) _).setCell (by simp) _).setCell (by simp;omega) _).setCell (by simp;omega) _))
end Go.Proofs.YtjpeglkkkllagaaGreatDoor.Hp
