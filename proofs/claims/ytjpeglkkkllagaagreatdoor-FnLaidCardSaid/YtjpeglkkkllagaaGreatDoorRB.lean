import Derived.Test.YtjpeglkkkllagaaGreatDoorRA
import Derived.Lib.SliceRun
import Derived.Shelf.SlSortCmp.Whole1
import Derived.Ground.SlsfProg
import Derived.Shelf.SlSortCmp.NoneTotal
import Derived.Laws.CopyRow
import Derived.Deep.RegionHeldLaw
import Derived.Deep.RegionWith
import Derived.Deep.DeepCutAuto
set_option maxHeartbeats 4000000
set_option maxRecDepth 100000
namespace Go.Proofs.YtjpeglkkkllagaaGreatDoor.Hp
open Go.RowKit Go.Sort
theorem openC_upd {w w':World} {g n k:Nat} {d:Nat→UInt8} {t:Nat→Bool} {L:List Cl} {cs:Value} {ps:List Nat} (x:Cl) (ha:Arena w g d t n cs) (ho:w.ownsRow (g+1) 81 1 cs L.length (ps.map ptrV)) (hpl:ps.length=L.length)
  (hpc:∀i,i<L.length→g<ps.getD i 0∧RowAt w (ps.getD i 0) 84 (clV (L.getD i cl0))) (hpn:ps.Nodup) (hk:k<L.length) (hg:w.grownBy w' (some (ps.getD k 0))) (hx:RowAt w' (ps.getD k 0) 84 (clV x)):
  Arena w' g d t n cs∧w'.ownsRow (g+1) 81 1 cs L.length (ps.map ptrV)∧∀i,i<L.length→g<ps.getD i 0∧RowAt w' (ps.getD i 0) 84 (clV ((L.set k x).getD i cl0)):=by
 obtain ⟨q1,q2⟩:=hpc k hk;refine ⟨?_,ho.kept hg (.inr fun e=>own_ne ho q2 (by decide) e.symm),fun i hi=>⟨(hpc i hi).1,?_⟩⟩
 ·obtain ⟨C,hr,hrest⟩:=ha.row;exact ⟨C,(hg.block g hr.lt (fun e=>by have:=Option.some.inj e;omega)).trans hr,hrest⟩
 ·by_cases hik:i=k
  ·subst hik;have e:(L.set i x).getD i cl0=x:=by
    rw [List.getD_eq_getElem?_getD,List.getElem?_set_self hk];rfl
   rw [e];exact hx
  ·have e:(L.set k x).getD i cl0=L.getD i cl0:=by
    rw [List.getD_eq_getElem?_getD,List.getD_eq_getElem?_getD,List.getElem?_set_ne (fun e=>hik e.symm)]
   rw [e];refine (hg.block _ (hpc i hi).2.lt (fun h=>hik ?_)).trans (hpc i hi).2;have h:=Option.some.inj h;have hi':i<ps.length:=by omega
   have hk':k<ps.length:=by omega
   rw [List.getD_eq_getElem?_getD,List.getD_eq_getElem?_getD,List.getElem?_eq_getElem hi',List.getElem?_eq_getElem hk'] at h;rcases Nat.lt_trichotomy i k with hl|hl|hl
   ·exact absurd h (List.pairwise_iff_getElem.1 hpn i k hi' hk' hl)
   ·exact hl
   ·exact absurd h.symm (List.pairwise_iff_getElem.1 hpn k i hk' hi' hl)
end Go.Proofs.YtjpeglkkkllagaaGreatDoor.Hp
namespace Go.Proofs.YtjpeglkkkllagaaGreatDoor.Hp
open Go.RowKit Go.Sort
theorem ins_perm (L:List Cl) (i:Nat):∀S:List Nat,(insI L i S).Perm (i::S)
 | []=> .refl _
 |x::r=>by
  rw [insI];split
  ·exact ((ins_perm L i r).cons x).trans (.swap i x r)
  ·exact .refl _
theorem st_nodup (L:List Cl):∀k,(stI L k).Nodup
 |0=>by rw [stI];exact List.nodup_nil
 |k+1=>by
  rw [stI];split
  ·rw [(ins_perm L k (stI L k)).nodup_iff,List.nodup_cons];exact ⟨fun h=>by have:=(st_bound L k).2 k h;omega,st_nodup L k⟩
  ·exact st_nodup L k
theorem liveS_nodup (L:List Cl):(liveS L).Nodup:=st_nodup L _
theorem liveS_ne {L:List Cl} {m j:Nat} (h:m<j) (hj:j<(liveS L).length):(liveS L).getD m 0≠(liveS L).getD j 0:=by
 rw [List.getD_eq_getElem?_getD,List.getD_eq_getElem?_getD,List.getElem?_eq_getElem hj,List.getElem?_eq_getElem (Nat.lt_trans h hj)];exact List.pairwise_iff_getElem.1 (liveS_nodup L) m j _ hj h
theorem pk_fresh (s:ByteArray) (L:List Cl):∀(m j:Nat),m≤j→j<(liveS L).length→(pkSt s L m).1.getD ((liveS L).getD j 0) cl0=clOf L ((liveS L).getD j 0)
 |0,_,_,_=>rfl
 |m+1,j,hm,hj=>by
  rw [pkSt_next s L (by omega)];show (moveC _ _ _).getD _ cl0=_;unfold moveC;rw [List.getD_eq_getElem?_getD,List.getElem?_set_ne (liveS_ne (by omega) hj),←List.getD_eq_getElem?_getD];exact pk_fresh s L m j (by omega) hj
theorem pack_data (D:ByteArray) (n:Nat) (h:D.size≤n):dataOf (byteAt D) n=D++dataZ (n-D.size):=by
 apply ByteArray.ext;apply Array.ext';rw [ByteArray.data_append,Array.toList_append,bytes_list D];show (List.range n).map (byteAt D)=(List.range D.size).map (byteAt D)++(List.range (n-D.size)).map fun _=> (0:UInt8);apply List.ext_getElem?;intro i;by_cases h1:i<D.size
 ·rw [List.getElem?_append_left (by simpa using h1),List.getElem?_map,List.getElem?_map,List.getElem?_range (by omega),List.getElem?_range h1]
 ·rw [List.getElem?_append_right (by simp;omega)];by_cases h2:i<n
  ·rw [List.getElem?_map,List.getElem?_map,List.getElem?_range h2,List.length_map,List.length_range,List.getElem?_range (by omega)];show some (byteAt D i)=some 0;unfold byteAt;rw [List.getD_eq_getElem?_getD,List.getElem?_eq_none (by rw [Array.length_toList];exact Nat.le_of_not_lt h1)];rfl
  ·rw [List.getElem?_eq_none (by simp;omega),List.getElem?_eq_none (by simp;omega)]
end Go.Proofs.YtjpeglkkkllagaaGreatDoor.Hp
namespace Go.Proofs
open Go.Shelf
def Tryz.sortL_ren:Go.Shelf.Ren:=⟨fun|6=>56|15=>85|14=>84|28=>115|29=>116|20=>107|21=>108|22=>109|23=>110|24=>111|25=>112|26=>113|27=>114|46=>133|47=>134|48=>135|49=>136|50=>137|57=>139|n=>n,fun|22=>77|24=>81|25=>127|3=>3|39=>140|0=>0|53=>186|55=>138|4=>4|46=>179|45=>178|50=>183|5=>5|9=>9|66=>200|70=>203|76=>206|77=>207|n=>n,fun|n=>n⟩
theorem Tryz.sortL:Go.Proofs.SlLaysF.n6 Tryz.prog Tryz.sortL_ren:={
 mixed:=by kernel_rfl
 f6:=⟨Tryz.f56.name,by decide,Tryz.func56.trans (congrArg some (by kernel_rfl))⟩
 f14:=⟨Tryz.f84.name,by decide,Tryz.func84.trans (congrArg some (by kernel_rfl))⟩
 f15:=Tryz.func85.trans (congrArg some (by kernel_rfl))
 f20:=⟨Tryz.f107.name,by decide,Tryz.func107.trans (congrArg some (by kernel_rfl))⟩
 f21:=⟨Tryz.f108.name,by decide,Tryz.func108.trans (congrArg some (by kernel_rfl))⟩
 f22:=⟨Tryz.f109.name,by decide,Tryz.func109.trans (congrArg some (by kernel_rfl))⟩
 f23:=⟨Tryz.f110.name,by decide,Tryz.func110.trans (congrArg some (by kernel_rfl))⟩
 f24:=⟨Tryz.f111.name,by decide,Tryz.func111.trans (congrArg some (by kernel_rfl))⟩
 f25:=⟨Tryz.f112.name,by decide,Tryz.func112.trans (congrArg some (by kernel_rfl))⟩
 f26:=⟨Tryz.f113.name,by decide,Tryz.func113.trans (congrArg some (by kernel_rfl))⟩
 f27:=⟨Tryz.f114.name,by decide,Tryz.func114.trans (congrArg some (by kernel_rfl))⟩
 f28:=Tryz.func115.trans (congrArg some (by kernel_rfl))
 f29:=Tryz.func116.trans (congrArg some (by kernel_rfl))
 f46:=⟨Tryz.f133.name,by decide,Tryz.func133.trans (congrArg some (by kernel_rfl))⟩
 f47:=Tryz.func134.trans (congrArg some (by kernel_rfl))
 f48:=Tryz.func135.trans (congrArg some (by kernel_rfl))
 f49:=⟨Tryz.f136.name,by decide,Tryz.func136.trans (congrArg some (by kernel_rfl))⟩
 f50:=⟨Tryz.f137.name,by decide,Tryz.func137.trans (congrArg some (by kernel_rfl))⟩
 f57:=⟨Tryz.f139.name,by decide,Tryz.func139.trans (congrArg some (by kernel_rfl))⟩
 t0:=Tryz.underlying0
 a0:=Tryz.isAgg0
 z0:=Tryz.sizeOf0
 v0:=Tryz.zeroValue0
 t3:=Tryz.underlying3
 a3:=Tryz.isAgg3
 z3:=Tryz.sizeOf3
 v3:=Tryz.zeroValue3
 t4:=Tryz.underlying4
 a4:=Tryz.isAgg4
 z4:=Tryz.sizeOf4
 v4:=Tryz.zeroValue4
 t5:=Tryz.underlying5
 a5:=Tryz.isAgg5
 z5:=Tryz.sizeOf5
 v5:=Tryz.zeroValue5
 t9:=Tryz.underlying9
 a9:=Tryz.isAgg9
 z9:=Tryz.sizeOf9
 v9:=Tryz.zeroValue9
 t22:=Tryz.underlying77
 a22:=Tryz.isAgg77
 z22:=Tryz.sizeOf77
 v22:=Tryz.zeroValue77
 a24:=Tryz.isAgg81
 z24:=Tryz.sizeOf81
 t25:=Tryz.underlying127
 a25:=Tryz.isAgg127
 z25:=Tryz.sizeOf127
 v25:=Tryz.zeroValue127
 t39:=Tryz.underlying140
 a39:=Tryz.isAgg140
 z39:=Tryz.sizeOf140
 v39:=Tryz.zeroValue140
 t45:=Tryz.underlying178
 a45:=Tryz.isAgg178
 z45:=Tryz.sizeOf178
 v45:=Tryz.zeroValue178
 t46:=Tryz.underlying179
 a46:=Tryz.isAgg179
 z46:=Tryz.sizeOf179
 v46:=Tryz.zeroValue179
 t50:=Tryz.underlying183
 a50:=Tryz.isAgg183
 z50:=Tryz.sizeOf183
 v50:=Tryz.zeroValue183
 t53:=Tryz.underlying186
 a53:=Tryz.isAgg186
 z53:=Tryz.sizeOf186
 v53:=Tryz.zeroValue186
 t55:=Tryz.underlying138
 a55:=Tryz.isAgg138
 z55:=Tryz.sizeOf138
 v55:=Tryz.zeroValue138
 t66:=Tryz.underlying200
 a66:=Tryz.isAgg200
 z66:=Tryz.sizeOf200
 v66:=Tryz.zeroValue200
 t70:=Tryz.underlying203
 a70:=Tryz.isAgg203
 z70:=Tryz.sizeOf203
 v70:=Tryz.zeroValue203
 t76:=Tryz.underlying206
 a76:=Tryz.isAgg206
 z76:=Tryz.sizeOf206
 v76:=Tryz.zeroValue206
 t77:=Tryz.underlying207
 a77:=Tryz.isAgg207
 z77:=Tryz.sizeOf207
 v77:=Tryz.zeroValue207 }
end Go.Proofs
namespace Go.Proofs.YtjpeglkkkllagaaGreatDoor.Hp
open Go.RowKit Go.Sort Go.Shelf
def cmpI (x y:Int):Int:=if x<y then-1 else if y<x then 1 else 0
theorem compare_any (x y:Int) (w:World):Calls Tryz.prog 58 #[.int .i64 x,.int .i64 y] w fun e w'=>e= .returned (.int .i64 (cmpI x y))∧w'=w:=by
 by_cases h1:x<y
 ·have H:Hid (cmpI x y= -1):=if_pos h1;go_enter Tryz.func58,Tryz.ntmps58;go_wp2;go_ret;exact ⟨ret_int H.out.symm,rfl⟩
 ·by_cases h2:y<x
  ·have H:Hid (cmpI x y=1):=by unfold Hid cmpI;rw [if_neg h1,if_pos h2]
   go_enter Tryz.func58,Tryz.ntmps58;go_wp2;go_ret;exact ⟨ret_int H.out.symm,rfl⟩
  ·have H:Hid (cmpI x y=0):=by unfold Hid cmpI;rw [if_neg h1,if_neg h2]
   go_enter Tryz.func58,Tryz.ntmps58;go_wp2;go_ret;exact ⟨ret_int H.out.symm,rfl⟩
theorem byPos_any (p q:Nat) (x y:Int) (w:World) (hp:w.cell? ⟨p,0,none⟩=some (.int .i64 x)) (hq:w.cell? ⟨q,0,none⟩=some (.int .i64 y)):
  Calls Tryz.prog 57 #[.pointer (some ⟨p,0,none⟩),.pointer (some ⟨q,0,none⟩)] w fun e w'=>e= .returned (.int .i64 (cmpI x y))∧∃m,w'=w.drewN m:=by
 have hc:=fun W=>compare_any x y W;generalize cmpI x y=r at hc ⊢;go_enter Tryz.func57,Tryz.ntmps57;go_wp2;go_quiet ((exact Calls.quiet_of_same (hc _)));go_wp2;go_ret;exact ⟨rfl,_,rfl⟩
def liveF (L:List Cl) (k:Nat):List Nat:=(List.range k).filter fun i=> (L.getD i cl0).live
theorem liveF_next (L:List Cl) (k:Nat):liveF L (k+1)=if (L.getD k cl0).live=true then liveF L k++ [k] else liveF L k:=by
 unfold liveF;rw [List.range_succ,List.filter_append];by_cases h:(L.getD k cl0).live=true
 ·rw [if_pos h,List.filter_cons_of_pos (p:=fun i=> (L.getD i cl0).live) h];rfl
 ·rw [if_neg h,List.filter_cons_of_neg (p:=fun i=> (L.getD i cl0).live) h];simp
theorem liveF_lt (L:List Cl) (k:Nat):∀i∈liveF L k,i<k:=fun _ hi=>List.mem_range.1 (List.mem_filter.1 hi).1
theorem liveF_len (L:List Cl) (k:Nat):(liveF L k).length≤k:=by
 have:=List.length_filter_le (fun i=> (L.getD i cl0).live) (List.range k);rw [List.length_range] at this;exact this
theorem live_perm (L:List Cl):∀k,(stI L k).Perm (liveF L k)
 |0=> .refl _
 |k+1=>by
  rw [stI,liveF_next];show (if (clOf L k).live=true then _ else _:List Nat).Perm _;unfold clOf;by_cases h:(L.getD k cl0).live=true
  ·rw [if_pos h,if_pos h];exact ((ins_perm L k _).trans ((live_perm L k).cons k)).trans (List.perm_append_singleton k _).symm
  ·rw [if_neg h,if_neg h];exact live_perm L k
theorem one_order {n:Nat} {L:List Cl} {t:Nat→Bool} (h:Right n L t) {S:List Nat} (hp:S.Perm (liveF L L.length)) (hs:S.Pairwise fun i j=> (L.getD i cl0).pos≤(L.getD j cl0).pos):S=liveS L:=by
 have hl:(liveS L).Pairwise fun i j=> (L.getD i cl0).pos≤(L.getD j cl0).pos:=by
  have:=h.sorted;rw [live_all L] at this;unfold Sorted at this;rw [List.pairwise_map] at this;exact this
 have hd:(liveS L).Pairwise fun i j=>Disj (clOf L i) (clOf L j):=by
  have:=h.disj;rw [live_all L,List.pairwise_map] at this;exact this
 refine List.Perm.eq_of_pairwise ?_ hs hl (hp.trans (live_perm L L.length).symm);intro i j hi hj h1 h2;have hi':i∈liveS L:=(live_perm L L.length).mem_iff.2 (hp.mem_iff.1 hi);have oi:=live_ok h hi';have oj:=live_ok h hj;obtain ⟨_,i1,_,_⟩:=oi;obtain ⟨_,j1,_,_⟩:=oj;have e:(clOf L i).pos=(clOf L j).pos:=Int.le_antisymm h1 h2;by_cases hij:i=j
 ·exact hij
 ·exfalso;obtain ⟨a,ha,rfl⟩:=List.getElem_of_mem hi';obtain ⟨b,hb,rfl⟩:=List.getElem_of_mem hj;rcases Nat.lt_trichotomy a b with hab|hab|hab
  ·have:=List.pairwise_iff_getElem.1 hd a b ha hb hab;unfold Disj at this;omega
  ·subst hab;exact hij rfl
  ·have:=List.pairwise_iff_getElem.1 hd b a hb ha hab;unfold Disj at this;omega
theorem putRow_self' {α:Type} [Inhabited α] (enc:α→Value) (w:World) (blk off:Nat) (d:Array α) {c:Array Value} {e:TypeId} {fr:Nat×Nat} (h:w.heap[blk]?=some (.cells c e fr)):(putRow enc w blk off d).heap[blk]?=some (.cells (Go.Sort.putCells enc off d c) e fr):=by
 unfold putRow mapBlock;rw [Array.getElem?_modify,if_pos rfl,h];rfl
theorem putRow_other' {α:Type} [Inhabited α] (enc:α→Value) (w:World) (blk off j:Nat) (d:Array α) (h:j≠blk):(putRow enc w blk off d).heap[j]?=w.heap[j]?:=by
 unfold putRow mapBlock;rw [Array.getElem?_modify,if_neg (fun e=>h e.symm)]
theorem putRow_size' {α:Type} [Inhabited α] (enc:α→Value) (w:World) (blk off:Nat) (d:Array α):(putRow enc w blk off d).heap.size=w.heap.size:=by
 unfold putRow mapBlock;exact Array.size_modify
theorem owns_sorted {α:Type} [Inhabited α] {enc:α→Value} {w:World} {B A cap m:Nat} {d d':Array α} {os:Array Obj} (h:w.ownsRow B 81 1 (.slice (some ⟨A,0,none⟩) d.size cap) d.size (d.toList.map enc)) (hd:d'.size=d.size):
  (sortWorld enc w A 0 m d' os).ownsRow B 81 1 (.slice (some ⟨A,0,none⟩) d.size cap) d.size (d'.toList.map enc)∧w.grownBy (sortWorld enc w A 0 m d' os) (some A):=by
 have hlt:=h.lt A rfl;obtain ⟨h1,h2|⟨A',cap',cur,he,hB,hg,hc1,hc2,hsz,htk⟩⟩:=h
 ·cases h2.1
 ·simp at he;obtain ⟨rfl,rfl⟩:=he;have hrow:(sortWorld enc w A 0 m d' os).heap[A]?=some (.cells (Go.Sort.putCells enc 0 d' cur) 81 (0,0)):=by
   unfold sortWorld grow;show ((putRow enc (Go.Sort.ahead w m) A 0 d').heap++os)[A]?=_;rw [Array.getElem?_append_left (by rw [putRow_size'];exact hlt.2)];exact putRow_self' enc (Go.Sort.ahead w m) A 0 d' hg
  refine ⟨⟨by simp [hd],.inr ⟨A,cap,Go.Sort.putCells enc 0 d' cur,rfl,hB,hrow,hc1,hc2,by simp [Go.Sort.putCells,hsz],?_⟩⟩,⟨rfl,rfl,rfl,?_,fun j hj hne=>?_⟩⟩
  ·apply List.ext_getElem?;intro i;by_cases hi:i<d.size
   ·rw [List.getElem?_take,if_pos (by omega),Array.getElem?_toList];unfold Go.Sort.putCells;have hic:i<cur.size:=by omega
    rw [Array.getElem?_mapIdx,Array.getElem?_eq_getElem hic,Option.map_some,if_pos (by omega),List.getElem?_map,Array.getElem?_toList,Array.getElem?_eq_getElem (by omega),Nat.sub_zero,getElem!_pos d' i (by omega)];rfl
   ·rw [List.getElem?_take,if_neg (by omega),List.getElem?_eq_none (by simp;omega)]
  ·unfold sortWorld grow;show w.heap.size≤((putRow enc (Go.Sort.ahead w m) A 0 d').heap++os).size;rw [Array.size_append,putRow_size'];exact Nat.le_add_right _ _
  ·unfold sortWorld grow;show ((putRow enc (Go.Sort.ahead w m) A 0 d').heap++os)[j]?=_;rw [Array.getElem?_append_left (by rw [putRow_size'];exact hj),putRow_other' enc _ A 0 j d' (fun e=>hne (by rw [e]))];rfl
end Go.Proofs.YtjpeglkkkllagaaGreatDoor.Hp
namespace Go.Proofs.YtjpeglkkkllagaaGreatDoor.Hp
open Go.RowKit Go.Sort Go.Shelf
def cfL (L:List Cl) (x y:{ i:Nat//i<L.length }):Int:=cmpI (L.getD x.1 cl0).pos (L.getD y.1 cl0).pos
theorem lt_cfL (L:List Cl) (x y:{ i:Nat//i<L.length }):ltOf (cfL L) x y=decide ((L.getD x.1 cl0).pos<(L.getD y.1 cl0).pos):=by
 unfold ltOf cfL cmpI;by_cases h1:(L.getD x.1 cl0).pos<(L.getD y.1 cl0).pos
 ·rw [if_pos h1,decide_eq_true h1];rfl
 ·rw [if_neg h1,decide_eq_false h1];split<;>rfl
theorem swo_cfL (L:List Cl):SWO (ltOf (cfL L)) where
 irrefl x:=by rw [lt_cfL];simp
 trans x y z h1 h2:=by rw [lt_cfL] at*;simp at*;omega
 ntrans x y z h1 h2:=by rw [lt_cfL] at*;simp at*;omega
def encP (L:List Cl) (ps:List Nat) (x:{ i:Nat//i<L.length }):Value:=ptrV (ps.getD x.1 0)
theorem sort_any (L:List Cl) (ps:List Nat) (B A cap nn:Nat) (t2:Nat→Bool) (w:World) (hL:L.length≤40) (hR:Right nn L t2) (h0:0<(liveF L L.length).length)
  (hpc:∀i,i<L.length→RowAt w (ps.getD i 0) 84 (clV (L.getD i cl0)))
  (ho:w.ownsRow B 81 1 (.slice (some ⟨A,0,none⟩) (liveF L L.length).length cap) (liveF L L.length).length ((liveF L L.length).map fun i=>ptrV (ps.getD i 0))):
  Calls Tryz.prog 56 #[.slice (some ⟨A,0,none⟩) (liveF L L.length).length cap,.func (.func 57) #[] #[]] w fun e w'=>e= .returned (.tuple #[])∧w'.ownsRow B 81 1 (.slice (some ⟨A,0,none⟩) (liveF L L.length).length cap) (liveF L L.length).length ((liveS L).map fun i=>ptrV (ps.getD i 0))∧w.grownBy w' (some A):=by
 have hin:∀i∈liveF L L.length,i<L.length:=liveF_lt L L.length;obtain ⟨i1,hi1⟩:∃i,i∈liveF L L.length:=List.exists_mem_of_length_pos h0;haveI:Inhabited { i:Nat//i<L.length }:=⟨⟨i1,hin i1 hi1⟩⟩;have hfl:=liveF_len L L.length;obtain ⟨d,hd⟩:∃d:Array { i:Nat//i<L.length },d=((liveF L L.length).attachWith _ hin).toArray:=⟨_,rfl⟩;have hdv:d.toList.map (fun x=>x.1)=liveF L L.length:=by
  rw [hd];exact List.attachWith_map_subtype_val hin
 have hde:d.toList.map (encP L ps)=(liveF L L.length).map fun i=>ptrV (ps.getD i 0):=by
  rw [←hdv,List.map_map];rfl
 have hds:d.size=(liveF L L.length).length:=by
  have:=congrArg List.length hdv;rwa [List.length_map,Array.length_toList] at this
 clear hd;rw [←hde,←hds] at ho;rw [←hds];have eg:∀args w,(callFunc 57 args).run Tryz.prog w= .ok (.enter 57 args) w:=enters_of Tryz.func57 (by kernel_rfl) rfl;have hAlt:=(ho.lt A rfl).2;have hH:Holds (encP L ps) w A 0 d:=fun j hj=>by
  refine ⟨?_,owns_frozen ho _⟩;have:=ho.cells rfl j (encP L ps d[j]!) (by rw [List.getElem?_map,Array.getElem?_toList,Array.getElem?_eq_getElem hj,getElem!_pos d j hj];rfl);rwa [Addr.add_lit] at this
 have hcmp:CmpReads Tryz.prog 57 #[] (encP L ps) (cfL L) A 0 d.size w:=fun m os dk hs x y=>by
  have hg:=(owns_sorted (m:=m) (os:=os) ho hs).2;have row:∀z:{ i:Nat//i<L.length },(sortWorld (encP L ps) w A 0 m dk os).cell? ⟨ps.getD z.1 0,0,none⟩=some (.int .i64 (L.getD z.1 cl0).pos):=fun z=>by
   have hz:=hpc z.1 z.2;have hz':RowAt (sortWorld (encP L ps) w A 0 m dk os) (ps.getD z.1 0) 84 (clV (L.getD z.1 cl0)):=(hg.block _ hz.lt (fun e=>own_ne ho hz (by decide) e)).trans hz;exact hz'.cell 0
  exact byPos_any _ _ _ _ _ (row x) (row y)
 have hS:=Any.slices_SortFunc Tryz.sortL (encP L ps) (fun _=>rfl) (cfL L) (swo_cfL L) 57 #[] A 0 cap d w eg hcmp.lays hH hAlt (by omega);change Calls Tryz.prog 56 _ _ _ at hS;refine hS.mono ?_;rintro e w' ⟨rfl,d',m,os,⟨hs',_,hperm⟩,hsort,rfl⟩;have hown:=owns_sorted (m:=m) (os:=os) ho hs';refine ⟨rfl,?_,hown.2⟩;have hperm':d'.toList.Perm d.toList:=by
  have e1:d'.extract 0 d.size=d':=by rw [←hs'];exact Array.extract_size
  have e2:d.extract 0 d.size=d:=Array.extract_size;rw [e1,e2] at hperm;exact hperm
 have hone:d'.toList.map (fun x=>x.1)=liveS L:=by
  refine one_order hR ?_ ?_
  ·rw [←hdv];exact hperm'.map _
  ·rw [List.pairwise_map,List.pairwise_iff_getElem];intro i j hi hj hij;have hi':i<d'.size:=by simpa using hi
   have hj':j<d'.size:=by simpa using hj
   have:=hsort i j (by omega) hij (by omega);rw [lt_cfL,getElem!_pos d' i hi',getElem!_pos d' j hj'] at this;have:=of_decide_eq_false this;rw [Array.getElem_toList,Array.getElem_toList];omega
 have he:(liveS L).map (fun i=>ptrV (ps.getD i 0))=d'.toList.map (encP L ps):=by
  rw [←hone,List.map_map];rfl
 rw [he];exact hown.1
theorem byPlace_any (g n nn:Nat) (d:Nat→UInt8) (t t2:Nat→Bool) (L:List Cl) (cs:Value) (ps:List Nat) (w:World) (ha:Arena w g d t n cs) (ho:w.ownsRow (g+1) 81 1 cs L.length (ps.map ptrV)) (hpl:ps.length=L.length)
  (hpc:∀i,i<L.length→RowAt w (ps.getD i 0) 84 (clV (L.getD i cl0))) (hL:L.length≤40) (hR:Right nn L t2):
  Calls Tryz.prog 29 #[.pointer (some ⟨g,0,none⟩)] w fun e w'=>∃v,e= .returned v∧w'.ownsRow w.heap.size 81 1 v (liveS L).length ((liveS L).map fun i=>ptrV (ps.getD i 0))∧Below w.heap.size w w':=by
 obtain ⟨i0,hi,hz0,hz1,hz2⟩:=info_parts info76;obtain ⟨a,A,cap,rfl,hA⟩:=form_any ho;have HA:Hid (∀k,k<L.length→w.cell? ⟨A,k,none⟩=some (.pointer (some ⟨ps.getD k 0,0,none⟩))∧A<w.heap.size∧a=some ⟨A,0,none⟩):=fun k hk=>by
  obtain rfl:=hA (by omega);have:=ho.cells rfl k (ptrV (ps.getD k 0)) (by rw [List.getElem?_map,List.getD_eq_getElem?_getD,List.getElem?_eq_getElem (by omega)];rfl);rw [Addr.add_lit,Nat.zero_add] at this;exact ⟨this,(ho.lt A rfl).2,rfl⟩
 have HP:Hid (∀i,i<L.length→RowAt w (ps.getD i 0) 84 (clV (L.getD i cl0))):=hpc;have HSP:Hid ((liveS L).length=(liveF L L.length).length):=(live_perm L L.length).length_eq;have cc:=ha.cells;clear ha ho hpc hA hpl;go_enter Tryz.func29,Tryz.ntmps29;go_wp2;go_loopw [3,5,11] (fun v _ i wr=>∃k:Nat,k≤L.length∧i= .int .i64 k∧wr.ownsRow w.heap.size 81 1 v (liveF L k).length ((liveF L k).map fun i=>ptrV (ps.getD i 0))∧Below w.heap.size w wr) (fun _ _ i _=>L.length-(intOf i).toNat)
 case atStart=>exact ⟨0,by omega,rfl,World.ownsRow_nil _ _ _ _,Below.refl _ _⟩
 case round=>
  obtain ⟨k,hk,rfl,hown,bk⟩:=hrel;by_cases hlt:k<L.length
  ·obtain ⟨hp0,hAlt,rfl⟩:=HA.out k hlt;have hx0:=HP.out k hlt;have hx:=hx0.below bk hx0.lt;have hp:wr.cell? ⟨A,k,none⟩=some (.pointer (some ⟨ps.getD k 0,0,none⟩)):=(bk.cell (p:=⟨A,k,none⟩) hAlt).trans hp0;have c3:wr.cell? ⟨ps.getD k 0,3,none⟩=some (.bool (L.getD k cl0).live):=hx.cell 3;have HN:=liveF_next L k;have hfl:=liveF_len L k;have hbk:=bk.size;cases hlv:(L.getD k cl0).live with
   |false=>
    rw [hlv] at c3;have HN2:Hid (liveF L (k+1)=liveF L k):=by unfold Hid;rw [HN,if_neg (by rw [hlv];simp)]
    generalize ps.getD k 0=p at*;clear HN hlv hx hx0 hp0;go_wp2;go_roundw
    case rel=>exact ⟨k+1,by omega,by go_num,by rw [HN2.out];exact hown,bk⟩
    case measure=>simp [intOf];omega
   |true=>
    rw [hlv] at c3;have HN2:Hid (liveF L (k+1)=liveF L k++ [k]):=by unfold Hid;rw [HN,if_pos hlv]
    have HPK:Hid (∃p,ps.getD k 0=p):=⟨_,rfl⟩;obtain ⟨p,hpe⟩:=HPK.out;have HPE:Hid (ps.getD k 0=p):=hpe;rw [hpe] at hp c3;clear HN hlv hx hx0 hp0 HPK hpe;generalize hXS:(liveF L k).map (fun i=>ptrV (ps.getD i 0))=xs at*;generalize hNS:(liveF L k).length=ns at*;go_wp2_with (at_builtin;refine wpList_append_own _ rfl _ _ 77 rfl w.heap.size 81 i0 _ 1 8 Tryz.underlying77 hi hz0 hz1 hz2 rfl (by decide) _ _ _ rfl (hown.alloc _) ⟨wr.heap.size,0,none⟩ 1 1 [.pointer (some ⟨p,0,none⟩)] rfl rfl ?c1 ?c2 ?c3 ?c4 ?c5 ?_)
    case c2=>rfl
    case c3=>unfold maxLen;omega
    case c4=>omega
    case c5=>omega
    intro v0' w5 hown' hgrow _;have b5:Below w.heap.size w w5:=below_grown (bk.alloc (by omega) _) hgrow (fun x hx=> (hown.lt x hx).1) (by simp;omega);have HO:Hid (w5.ownsRow w.heap.size 81 1 v0' (liveF L (k+1)).length ((liveF L (k+1)).map fun i=>ptrV (ps.getD i 0))):=by
     unfold Hid;rw [HN2.out,List.length_append,List.map_append,hXS,hNS];show w5.ownsRow w.heap.size 81 1 v0' (ns+1) (xs++ [ptrV (ps.getD k 0)]);rw [HPE.out];exact hown'
    have HB:Hid (Below w.heap.size w w5):=b5;clear hown' hgrow b5 hown hXS hNS;go_wp2;go_roundw
    case rel=>exact ⟨k+1,by omega,by go_num,HO.out,HB.out⟩
    case measure=>simp [intOf];omega
  ·obtain rfl:k=L.length:=by omega
   have hpcr:∀i,i<L.length→RowAt wr (ps.getD i 0) 84 (clV (L.getD i cl0)):=fun i hi=> (HP.out i hi).below bk (HP.out i hi).lt;by_cases h0:(liveF L L.length).length=0
   ·have hE:liveS L=[]:=List.eq_nil_of_length_eq_zero (by rw [HSP.out,h0]);have HE:Hid (liveS L=[]):=hE;rw [h0] at hown;obtain ⟨p,A',cap',rfl,_⟩:=form_any hown;have hS:=AnyF.slices_SortFunc_none (P:=Tryz.prog) (ρ:=Tryz.sortL_ren) { Tryz.sortL with } p cap' (.func (.func 57) #[] #[]) wr;change Calls Tryz.prog 56 _ _ _ at hS;have HOW:Hid (wr.ownsRow w.heap.size 81 1 (.slice p 0 cap') 0 ((liveF L L.length).map fun i=>ptrV (ps.getD i 0))):=hown;have HF:Hid (liveF L L.length=[]):=List.eq_nil_of_length_eq_zero h0;clear hown hpcr hE h0;go_wp2_with fail;refine hS.mono ?_;rintro e w' ⟨rfl,rfl⟩;go_wp2;go_ret;exact ⟨_,rfl,by rw [HE.out];have:=HOW.out;rw [HF.out] at this;exact this,bk⟩
   ·obtain ⟨A',cap',rfl⟩:=Go.Joins.ownsRow_form hown (by omega);have hS:=sort_any L ps w.heap.size A' cap' nn t2 wr hL hR (by omega) hpcr hown;have hA':=(hown.lt A' rfl).1;clear hown hpcr;generalize (liveF L L.length).length=ns at*;go_wp2_with fail;refine hS.mono ?_;rintro e w' ⟨rfl,ho',gr'⟩;have b':Below w.heap.size w w':=below_grown bk gr' (fun y hy=>by have:=Option.some.inj hy;omega) bk.size;go_wp2;go_ret;exact ⟨_,rfl,by rw [HSP.out];exact ho',b'⟩
end Go.Proofs.YtjpeglkkkllagaaGreatDoor.Hp
namespace Go.Proofs.YtjpeglkkkllagaaGreatDoor.Hp
open Go.RowKit Go.Sort
theorem heapO_any (g n B0:Nat) (d:Nat→UInt8) (t:Nat→Bool) (L:List Cl) (cs:Value) (ps:List Nat) (w:World) (ha:Arena w g d t n cs) (ho:w.ownsRow B0 81 1 cs L.length (ps.map ptrV)) (hpl:ps.length=L.length)
  (hpc:∀i,i<L.length→RowAt w (ps.getD i 0) 84 (clV (L.getD i cl0))) (hL:L.length≤40) (hn:n≤3000):
  Calls Tryz.prog 31 #[.pointer (some ⟨g,0,none⟩)] w fun e w'=>∃v,e= .returned (.agg #[.string (dataOf d n),v])∧w'.ownsRow w.heap.size 84 4 v L.length (flatC L)∧Below w.heap.size w w':=by
 obtain ⟨i0,hi,hz0,hz1,hz2⟩:=info_parts info62x;have hb:Below w.heap.size w (w.alloc (.cells #[.string ⟨#[]⟩,.slice none 0 0] 29)):=(Below.refl _ w).alloc (Nat.le_refl _) _;have hn1:=RowAt.new w 29 #[.string ⟨#[]⟩,.slice none 0 0];have hs1:(w.alloc (.cells #[.string ⟨#[]⟩,.slice none 0 0] 29)).heap.size=w.heap.size+1:=by simp
 have ha1:=ha.below hb ha.lt;have ho1:=zaf ho hb;have HP:Hid (∀i,i<L.length→RowAt (w.alloc (.cells #[.string ⟨#[]⟩,.slice none 0 0] 29)) (ps.getD i 0) 84 (clV (L.getD i cl0))):=fun i hi=> (hpc i hi).below hb (hpc i hi).lt;obtain ⟨a,A,cap,rfl,hA⟩:=form_any ho;have HA:Hid (∀k,k<L.length→(w.alloc (.cells #[.string ⟨#[]⟩,.slice none 0 0] 29)).cell? ⟨A,k,none⟩=some (.pointer (some ⟨ps.getD k 0,0,none⟩))∧A<(w.alloc (.cells #[.string ⟨#[]⟩,.slice none 0 0] 29)).heap.size):=fun k hk=>by
  obtain rfl:=hA (by omega);have:=ho1.cells rfl k (ptrV (ps.getD k 0)) (by rw [List.getElem?_map,List.getD_eq_getElem?_getD,List.getElem?_eq_getElem (by omega)];rfl);rw [Addr.add_lit,Nat.zero_add] at this;exact ⟨this,(ho1.lt A rfl).2⟩
 have cc:=ha1.cells;have HA1:Hid (Arena (w.alloc (.cells #[.string ⟨#[]⟩,.slice none 0 0] 29)) g d t n (.slice a L.length cap)):=ha1;have hglt:=ha1.lt;clear ha ha1 ho ho1 hpc;go_enter Tryz.func31,Tryz.ntmps31;go_wp2;generalize w.alloc (.cells #[.string ⟨#[]⟩,.slice none 0 0] 29)=w1 at*;have HS1:Hid (w1.heap.size=w.heap.size+1):=hs1;clear hs1;go_loopw [3,5,11] (fun v _ i wr=>∃k:Nat,k≤L.length∧i= .int .i64 k∧wr.ownsRow w1.heap.size 84 4 v k (flatC (L.take k))∧Below w1.heap.size w1 wr) (fun _ _ i _=>L.length-(intOf i).toNat)
 case atStart=>exact ⟨0,by omega,rfl,World.ownsRow_nil _ _ _ _,Below.refl _ _⟩
 case round=>
  obtain ⟨k,hk,rfl,hown,bk⟩:=hrel;by_cases hlt:k<L.length
  ·obtain rfl:=hA (by omega);have hcp:=HA.out k hlt;have cp:=(bk.cell (p:=⟨A,k,none⟩) hcp.2).trans hcp.1;have hx:=(HP.out k hlt).below bk (HP.out k hlt).lt;have HT:Hid (L.take (k+1)=L.take k++ [L.getD k cl0]):=take_next hlt;have c0:wr.cell? ⟨ps.getD k 0,0,none⟩=some (.int .i64 (L.getD k cl0).pos):=hx.cell 0;have c1:wr.cell? ⟨ps.getD k 0,1,none⟩=some (.int .i64 (L.getD k cl0).len):=hx.cell 1;have c2:wr.cell? ⟨ps.getD k 0,2,none⟩=some (.int .i64 (L.getD k cl0).gen):=hx.cell 2;have c3:wr.cell? ⟨ps.getD k 0,3,none⟩=some (.bool (L.getD k cl0).live):=hx.cell 3;generalize L.getD k cl0=x at*;generalize ps.getD k 0=p at*;have hbk:=bk.size;clear hx hcp cc;go_wp2_with (at_builtin;refine wpList_append_own _ rfl _ _ 27 rfl w1.heap.size 84 i0 _ 4 32 Tryz.underlying27 hi hz0 hz1 hz2 rfl (by decide) _ _ _ rfl (hown.alloc _) ⟨wr.heap.size,0,none⟩ 1 1 [.int .i64 x.pos,.int .i64 x.len,.int .i64 x.gen,.bool x.live] rfl rfl ?c1 ?c2 ?c3 ?c4 ?c5 ?_)
   case c2=>exact ⟨rfl,rfl,rfl,rfl⟩
   case c3=>unfold maxLen;omega
   case c4=>omega
   case c5=>omega
   intro v0' w5 hown' hgrow _;have b5:Below w1.heap.size w1 w5:=below_grown (bk.alloc (by omega) _) hgrow (fun x hx=> (hown.lt x hx).1) (by simp;omega);have HO:Hid (w5.ownsRow w1.heap.size 84 4 v0' (k+1) (flatC (L.take (k+1)))):=by
    unfold Hid;rw [HT.out,flatC_app];exact hown'
   have HB:Hid (Below w1.heap.size w1 w5):=b5;clear hown' hgrow b5 hown;go_wp2;go_roundw
   case rel=>exact ⟨k+1,by omega,by go_num,HO.out,HB.out⟩
   case measure=>simp [intOf];omega
  ·obtain rfl:k=L.length:=by omega
   rw [List.take_length] at hown;clear cc;have ha4:=HA1.out.below bk hglt;have hs1:=HS1.out;have hn4:=hn1.below bk (by omega);obtain ⟨C,hr4,hsz,hd,ht,hs,hc⟩:=ha4.row;have s6:=(hr4.cell 6000).trans hs;have d0:=hn4.cell 0;have d1:=hn4.cell 1;simp at d0 d1;have f0:=hn4.frozen 0;have f1:=hn4.frozen 1;have hcv:(convert 22 9 (.slice (some ⟨g,0,none⟩) n 3000)).run Tryz.prog wr.drew= .ok (.string (dataOf d n)) wr.drew:=by
    have:=run_convert_bytes_back (P:=Tryz.prog) wr.drew 22 9 5 ⟨g,0,none⟩ 3000 ((List.range n).map d) Tryz.underlying22 Tryz.underlying5 Tryz.underlying9 ?_
    ·simpa [dataOf] using this
    ·intro j hj;have hj':j<n:=by simpa using hj
     rw [show wr.drew.cell? _=wr.cell? _ from rfl];have:=(hr4.cell j).trans (hd j (by omega));rw [Addr.add_lit,Nat.zero_add];simpa using this
   have hni:(n:Int)≤3000:=by omega
   obtain ⟨a',A',cap',rfl,hA'⟩:=form_any hown;have hbw:Below w.heap.size w wr:=hb.trans (bk.mono (by omega));have hb2:Below w.heap.size w ((wr.setCell ⟨w.heap.size,0,none⟩ (.string (dataOf d n))).setCell ⟨w.heap.size,1,none⟩ (.slice a' L.length cap')):=
    (hbw.setCell (p:=⟨w.heap.size,0,none⟩) (Nat.le_refl _) _).setCell (p:=⟨w.heap.size,1,none⟩) (Nat.le_refl _) _
   have hr2:RowAt ((wr.setCell ⟨w.heap.size,0,none⟩ (.string (dataOf d n))).setCell ⟨w.heap.size,1,none⟩ (.slice a' L.length cap')) w.heap.size 29 #[.string (dataOf d n),.slice a' L.length cap']:=by
    have:=(hn4.set 0 (.string (dataOf d n))).set 1 (.slice a' L.length cap');simpa using this
   have e0:=hr2.cell 0;have e1:=hr2.cell 1;simp at e0 e1;have HO:Hid (((wr.setCell ⟨w.heap.size,0,none⟩ (.string (dataOf d n))).setCell ⟨w.heap.size,1,none⟩ (.slice a' L.length cap')).ownsRow w.heap.size 84 4 (.slice a' L.length cap') L.length (flatC L)):=
    Go.Joins.ownsRow_le (ownsRow_setCell_below (ownsRow_setCell_below hown (by simp;omega) _) (by simp;omega) _) (by omega)
   have HB2:Hid (Below w.heap.size w ((wr.setCell ⟨w.heap.size,0,none⟩ (.string (dataOf d n))).setCell ⟨w.heap.size,1,none⟩ (.slice a' L.length cap'))):=hb2;clear hown hr4 hd ht hs hc ha4 hn4 hr2 hb2 hbw bk hs1;go_wp2;go_region;go_wp2;refine bodyPost_ret (v:= .agg #[.string (dataOf d n),.slice a' L.length cap']) (by simp [results,Tryz.results31,go_sem,e0,e1]) rfl ⟨_,rfl,HO.out,HB2.out.drew⟩
end Go.Proofs.YtjpeglkkkllagaaGreatDoor.Hp
namespace Go.Proofs.YtjpeglkkkllagaaGreatDoor.Hp
open Go.RowKit Go.Sort
theorem Arena.made (w:World) (n:Nat) (cs:Value):Arena (w.alloc (.cells ((zc56.setIfInBounds 6000 (.int .i64 n)).setIfInBounds 6001 cs) 79)) w.heap.size (fun _=>0) (fun _=>false) n cs:=by
 refine ⟨_,RowAt.new w 79 _,by rw [Array.size_setIfInBounds,Array.size_setIfInBounds,zeros_len],fun i hi=>?_,fun i hi=>?_,?_,?_⟩
 ·rw [Array.getElem?_setIfInBounds_ne (by omega),Array.getElem?_setIfInBounds_ne (by omega),zero56_get,zeros_data i hi];rfl
 ·rw [Array.getElem?_setIfInBounds_ne (by omega),Array.getElem?_setIfInBounds_ne (by omega),zero56_get,zeros_taken i hi]
 ·rw [Array.getElem?_setIfInBounds_ne (by omega),Array.getElem?_setIfInBounds_self_of_lt (by rw [zeros_len];omega)]
 ·rw [Array.getElem?_setIfInBounds_self_of_lt (by rw [Array.size_setIfInBounds,zeros_len];omega)]
theorem Arena.kept {w w':World} {g n:Nat} {d:Nat→UInt8} {t:Nat→Bool} {cs:Value} {r:Option Nat} (h:Arena w g d t n cs) (hg:w.grownBy w' r) (hr:some g≠r):Arena w' g d t n cs:=by
 obtain ⟨C,hr1,hrest⟩:=h.row;exact ⟨C,(hg.block g hr1.lt hr).trans hr1,hrest⟩
structure PackI (w:World) (s:ByteArray) (L:List Cl) (t:Nat→Bool) (cs v:Value) (ps:List Nat) (g G B m:Nat) (wr:World):Prop where
 ag:Arena wr g (byteAt s) t s.size cs
 aG:Arena wr G (byteAt (pkSt s L m).2) (fun _=>false) s.size cs
 oc:wr.ownsRow (g+1) 81 1 cs L.length (ps.map ptrV)
 ov:wr.ownsRow B 81 1 v (liveS L).length ((liveS L).map fun i=>ptrV (ps.getD i 0))
 pc:∀i,i<L.length→g<ps.getD i 0∧RowAt wr (ps.getD i 0) 84 (clV ((pkSt s L m).1.getD i cl0))
 p2:RowAt wr (w.heap.size+1) 29 #[.string ⟨#[]⟩,.slice none 0 0]
 bb:Below w.heap.size w wr
theorem byte_more (D x:ByteArray) (i:Nat):dPut D D.size x i=byteAt (D++x) i:=by
 unfold dPut byteAt;rw [ByteArray.data_append,Array.toList_append,List.getD_eq_getElem?_getD,List.getD_eq_getElem?_getD,List.getD_eq_getElem?_getD];have hl:D.data.toList.length=D.size:=by rw [Array.length_toList];rfl
 have hx:x.data.toList.length=x.size:=by rw [Array.length_toList];rfl
 by_cases h1:i<D.size
 ·rw [if_neg (by omega),List.getElem?_append_left (by omega)]
 ·by_cases h2:i<D.size+x.size
  ·rw [if_pos (by omega),List.getElem?_append_right (by omega),hl]
  ·rw [if_neg (by omega),List.getElem?_eq_none (by omega),List.getElem?_eq_none (by rw [List.length_append];omega)]
theorem PackI.next {w:World} {s:ByteArray} {L:List Cl} {t:Nat→Bool} {cs v:Value} {ps:List Nat} {g G B m i:Nat} {wr w9:World} {x:Cl} {C:Array Value} (h:PackI w s L t cs v ps g G B m wr) (hm:m<(liveS L).length) (hi:(liveS L).getD m 0=i) (hx:clOf L i=x)
  (hpl:ps.length=L.length) (hpn:ps.Nodup) (hgw:w.heap.size≤g) (hgG:g<G) (hG:w.heap.size+1<G) (hok:Ok s.size x) (hroom:(pkSt s L m).2.size+x.len.toNat≤s.size) (hs3:s.size≤3000)
  (hC:RowAt wr G 79 C) (hsz:C.size=6002) (hd:∀i,i<3000→C[i]?=some (.int .u8 (byteAt (pkSt s L m).2 i).toNat)) (ht:∀i,i<3000→C[3000+i]?=some (.bool ((fun _=>false:Nat→Bool) i))) (hss:C[6000]?=some (.int .i64 s.size)) (hcc:C[6001]?=some cs)
  (hg9:wr.grownBy w9 (some G)) (hr9:RowAt w9 G 79 (C.toList.take (pkSt s L m).2.size++Lib.byteCells (cutOf s x).data.toList++C.toList.drop ((pkSt s L m).2.size+(cutOf s x).size)).toArray):
  RowAt w9 (ps.getD i 0) 84 (clV x)∧PackI w s L t cs v ps g G B (m+1) (w9.setCell ⟨ps.getD i 0,0,none⟩ (.int .i64 (pkSt s L m).2.size)):=by
 have hmem:=liveS_at hm;rw [hi] at hmem;have hiL:=liveS_lt L i hmem;have hfr:=pk_fresh s L m m (Nat.le_refl _) hm;rw [hi,hx] at hfr;have hMl:=pk_len s L m (by omega);have hcs:=cut_size hok;have a9:Arena w9 G (byteAt ((pkSt s L m).2++cutOf s x)) (fun _=>false) s.size cs:=by
  have:=Arena.copiedAt (s:=(pkSt s L m).2) (x:=cutOf s x) (P:=(pkSt s L m).2.size) (t:=fun _=>false) hsz hd ht hss hcc (by rw [hcs];omega) hr9;have e:dPut (pkSt s L m).2 (pkSt s L m).2.size (cutOf s x)=byteAt ((pkSt s L m).2++cutOf s x):=funext (byte_more _ _);rwa [e] at this
 have g9:=h.ag.kept hg9 (fun e=>by have:=Option.some.inj e;omega);have oc9:=h.oc.kept hg9 (.inr fun e=>own_ne h.oc hC (by decide) e.symm);have ov9:=h.ov.kept hg9 (.inr fun e=>own_ne h.ov hC (by decide) e.symm);have pc9:∀j,j<(pkSt s L m).1.length→g<ps.getD j 0∧RowAt w9 (ps.getD j 0) 84 (clV ((pkSt s L m).1.getD j cl0)):=fun j hj=>by
  have hj':=h.pc j (by omega);refine ⟨hj'.1,(hg9.block _ hj'.2.lt (fun e=>?_)).trans hj'.2⟩;have e:=Option.some.inj e;rw [e] at hj';exact absurd (row_type hj'.2 hC) (by decide)
 have p9:RowAt w9 (w.heap.size+1) 29 #[.string ⟨#[]⟩,.slice none 0 0]:=(hg9.block _ h.p2.lt (fun e=>by have:=Option.some.inj e;omega)).trans h.p2;have b9:Below w.heap.size w w9:=below_grown h.bb hg9 (fun y hy=>by have:=Option.some.inj hy;omega) h.bb.size;have hp:=(pc9 i (by omega)).2;have hpg:=(pc9 i (by omega)).1;have hp':=hp;rw [hfr] at hp';refine ⟨hp',?_⟩;have hgr:w9.grownBy (w9.setCell ⟨ps.getD i 0,0,none⟩ (.int .i64 (pkSt s L m).2.size)) (some (ps.getD i 0)):=⟨rfl,rfl,rfl,by simp [World.setCell],fun j _ hj=>Below.heap_setCell _ _ _ _ (fun e=>hj (by rw [e]))⟩;have hrow:RowAt (w9.setCell ⟨ps.getD i 0,0,none⟩ (.int .i64 (pkSt s L m).2.size)) (ps.getD i 0) 84 (clV ⟨(pkSt s L m).2.size,((pkSt s L m).1.getD i cl0).len,((pkSt s L m).1.getD i cl0).gen,((pkSt s L m).1.getD i cl0).live⟩):=by
  have:=hp.set 0 (.int .i64 (pkSt s L m).2.size);simpa using this
 have hup:=openC_upd (w':=w9.setCell ⟨ps.getD i 0,0,none⟩ (.int .i64 (pkSt s L m).2.size)) (k:=i) ⟨(pkSt s L m).2.size,((pkSt s L m).1.getD i cl0).len,((pkSt s L m).1.getD i cl0).gen,((pkSt s L m).1.getD i cl0).live⟩ g9 (by rw [hMl];exact oc9) (by rw [hMl];exact hpl) pc9 hpn (by omega) hgr hrow;have hnx:=pkSt_next s L hm;rw [hi] at hnx;unfold pkStep at hnx;rw [hx] at hnx;refine ⟨hup.1,?_,by rw [hMl] at hup;exact hup.2.1,ov9.kept hgr (.inr fun e=>own_ne ov9 hp (by decide) e.symm),fun j hj=>?_,(Below.heap_setCell _ _ _ _ ?_).trans p9,b9.setCell (p:=⟨ps.getD i 0,0,none⟩) ?_ _⟩
 ·rw [hnx]
  exact a9.kept hgr (fun e=>by
   have e:=Option.some.inj e;obtain ⟨C2,hr2,_⟩:=a9.row;rw [e] at hr2;exact absurd (row_type hr2 hp) (by decide))
 ·rw [hnx];exact hup.2.2 j (by omega)
 ·intro e;have e:w.heap.size+1=ps.getD i 0:=e;rw [e] at p9;exact absurd (row_type p9 hp) (by decide)
 ·show w.heap.size≤ps.getD i 0;omega
end Go.Proofs.YtjpeglkkkllagaaGreatDoor.Hp
namespace Go.Proofs.YtjpeglkkkllagaaGreatDoor.Hp
open Go.RowKit Go.Sort
theorem implPacked_any (s:ByteArray) (a:Option Addr) (b off n c:Nat) (L:List Cl) (w:World) (h:CellsIn w a b off n L) (hf:∀i,i<n→Fit (L.getD i cl0)):
  Calls Tryz.prog 11 #[.agg #[.string s,.slice a n c]] w (HeapEnd w (packD s L) (packL s L) (heapB s L)):=by
 have bw:Below w.heap.size w ((w.alloc (.cells #[.string s,.slice a n c] 29)).alloc (.cells #[.string ⟨#[]⟩,.slice none 0 0] 29)):=Go.Joins.below_alloc2 _ _ _;have r2:=RowAt.new (w.alloc (.cells #[.string s,.slice a n c] 29)) 29 #[.string ⟨#[]⟩,.slice none 0 0];simp only [World.size_alloc] at r2;have h2:=zaj h bw;have l2:=r2.lt;go_enter Tryz.func11,Tryz.ntmps11;go_wp2_with fail;generalize (w.alloc (.cells #[.string s,.slice a n c] 29)).alloc (.cells #[.string ⟨#[]⟩,.slice none 0 0] 29)=w1 at*;refine (openedC_all s a b off n c L w1 h2 hf).mono ?_;rintro e w2 ⟨p,rfl,hop,b2⟩;have bb:=bw.trans (b2.mono bw.size);have q2:=r2.below b2 l2;have s2:=b2.size;clear r2 h2 bw b2;cases hr:heapB s L with
 |false=>
  have HR1:Hid (packD s L=⟨#[]⟩):=(pack_no hr).1;have HR2:Hid (packL s L=[]):=(pack_no hr).2;have HR3:Hid (heapB s L=false):=hr;have u2:=row_ret (D:= .string ⟨#[]⟩) (v:= .slice none 0 0) q2 rfl;obtain ⟨e0,e1⟩:=zbb q2;obtain ⟨g0,g1⟩:=zbb u2;have z0:=q2.frozen 0;have z1:=q2.frozen 1;clear hr q2 u2 hop;go_wp2;exact bodyPost_ret (v:= .tuple #[.agg #[.string ⟨#[]⟩,.slice none 0 0],.bool false]) (by simp [results,Tryz.results11,go_sem,g0,g1]) rfl (by rw [HR1.out,HR2.out,HR3.out];exact heap_no ((bb.setCell (p:=⟨w.heap.size+1,0,none⟩) (by simp) _).setCell (p:=⟨w.heap.size+1,1,none⟩) (by simp) _))
 |true=>
  have HH:Hid (heapB s L=true):=hr;have HD:Hid (packD s L=(pkSt s L (liveS L).length).2++dataZ (s.size-(pkSt s L (liveS L).length).2.size)):=if_pos hr;have HM:Hid (packL s L=(pkSt s L (liveS L).length).1):=if_pos hr;obtain ⟨g,t,rfl,hom,⟨cs,ps,ha,ho,hpl,hpc,hpn⟩,hg⟩:=hop hr;have hR:=right_of_open hom;obtain ⟨hs3,hL⟩:=heap_small hr;clear hr hop hom;obtain ⟨a',A',cap',rfl,_⟩:=form_any ho;have hzv:=zeroV56;have hzs:=zeros_len;have hzn:¬zc56= #[]:=fun e=>by rw [e] at hzs;cases hzs
  obtain ⟨C0,hr0,hsz0,hd0,ht0,hss0,hcc0⟩:=ha.row;have c6:w2.cell? ⟨g,6000,none⟩=some (.int .i64 s.size):=(hr0.cell _).trans hss0;have c7:w2.cell? ⟨g,6001,none⟩=some (.slice a' L.length cap'):=(hr0.cell _).trans hcc0;clear hr0 hsz0 hd0 ht0 hss0 hcc0;go_upto_region 4 with fail;go_region_held_law (fun w'=>w'.cell? ⟨g,6000,none⟩=some (.int .i64 s.size)∧w'.cell? ⟨g,6001,none⟩=some (.slice a' L.length cap')) (go_keep) (fail);have b3:Below w2.heap.size w2 (w2.alloc (.cells ((zc56.setIfInBounds 6000 (.int .i64 (s.size:Int))).setIfInBounds 6001 (.slice a' L.length cap')) 79)).drew:=((Below.refl _ w2).alloc (Nat.le_refl _) _).drew;have aG:Arena (w2.alloc (.cells ((zc56.setIfInBounds 6000 (.int .i64 (s.size:Int))).setIfInBounds 6001 (.slice a' L.length cap')) 79)).drew w2.heap.size (byteAt ⟨#[]⟩) (fun _=>false) s.size (.slice a' L.length cap'):=by
   have e:byteAt ⟨#[]⟩=fun _=>0:=by funext i;simp [byteAt]
   rw [e];exact (Arena.made w2 s.size (.slice a' L.length cap')).below (below_drewN _ 1) (by simp)
  have ag:=ha.below b3 ha.lt;have oc:=zaf ho b3;have pc:∀i,i<L.length→g<ps.getD i 0∧RowAt (w2.alloc (.cells ((zc56.setIfInBounds 6000 (.int .i64 (s.size:Int))).setIfInBounds 6001 (.slice a' L.length cap')) 79)).drew (ps.getD i 0) 84 (clV (L.getD i cl0)):=fun i hi=>⟨(hpc i hi).1,(hpc i hi).2.below b3 (hpc i hi).2.lt⟩;have p2:=q2.below b3 q2.lt;have bb3:=bb.trans (b3.mono bb.size);have hgw2:=ha.lt;have s3:=b3.size;clear c6 c7 ha ho hpc q2 hzv hzs hzn b3 bb;generalize hGe:w2.heap.size=G at*;generalize (w2.alloc (.cells ((zc56.setIfInBounds 6000 (.int .i64 (s.size:Int))).setIfInBounds 6001 (.slice a' L.length cap')) 79)).drew=w3 at*;have hBP:=byPlace_any g s.size s.size (byteAt s) t t L (.slice a' L.length cap') ps w3 ag oc hpl (fun i hi=> (pc i hi).2) hL hR;go_wp2_with fail;refine hBP.mono ?_;clear hBP;rintro e w4 ⟨v,rfl,ov,b4⟩;have hI0:PackI w s L t (.slice a' L.length cap') v ps g G w3.heap.size 0 w4:=⟨ag.below b4 ag.lt,aG.below b4 aG.lt,zaf oc b4,ov,fun i hi=>⟨(pc i hi).1,(pc i hi).2.below b4 (pc i hi).2.lt⟩,p2.below b4 p2.lt,bb3.trans (b4.mono bb3.size)⟩;obtain ⟨av,Av,capv,rfl,hav⟩:=form_any ov;have HAV:Hid (0<(liveS L).length→av=some ⟨Av,0,none⟩):=hav;have hgw:w.heap.size≤g:=by omega
  have hgG:g<G:=by omega
  have hG1:w.heap.size+1<G:=by omega
  clear ag aG oc ov pc p2 b4 bb3 hav;have HI0:Hid (PackI w s L t (.slice a' L.length cap') (.slice av (liveS L).length capv) ps g G w3.heap.size 0 w4):=hI0;clear hI0;go_wp2_with fail;go_loopw [7,9,31] (fun e _ i wr=>∃m:Nat,m≤(liveS L).length∧i= .int .i64 m∧e= .int .i64 ((pkSt s L m).2.size:Nat)∧PackI w s L t (.slice a' L.length cap') (.slice av (liveS L).length capv) ps g G w3.heap.size m wr) (fun _ _ i _=> (liveS L).length-(intOf i).toNat)
  case atStart=>exact ⟨0,Nat.zero_le _,rfl,rfl,HI0.out⟩
  case round=>
   obtain ⟨m,hm,rfl,rfl,hI⟩:=hrel;have hSl:=liveS_len L;have hm40:m≤40:=by omega
   by_cases hlt:m<(liveS L).length
   ·obtain rfl:=HAV.out (by omega);have hmem:=liveS_at hlt;have hiL:=liveS_lt L _ hmem;have hok:=live_ok hR hmem;have hroom:=pk_room hR hlt;have hDz:=pk_size hR m hm;have HSZ0:=(pk_size hR (m+1) (by omega)).trans (pkN_next L hlt);have hfr:=pk_fresh s L m m (Nat.le_refl _) hlt;obtain ⟨i,hie⟩:∃i,(liveS L).getD m 0=i:=⟨_,rfl⟩;rw [hie] at hmem hiL hok hroom HSZ0 hfr;obtain ⟨x,hxe⟩:∃x,clOf L i=x:=⟨_,rfl⟩;rw [hxe] at hok hroom HSZ0 hfr;rw [←hDz] at hroom HSZ0;obtain ⟨C,hC,hszC,hdC,htC,hssC,hccC⟩:=hI.aG.row;have HNX:Hid (∀w9,wr.grownBy w9 (some G)→RowAt w9 G 79 (C.toList.take (pkSt s L m).2.size++Lib.byteCells (cutOf s x).data.toList++C.toList.drop ((pkSt s L m).2.size+(cutOf s x).size)).toArray→RowAt w9 (ps.getD i 0) 84 (clV x)∧PackI w s L t (.slice a' L.length cap') (.slice (some ⟨Av,0,none⟩) (liveS L).length capv) ps g G w3.heap.size (m+1) (w9.setCell ⟨ps.getD i 0,0,none⟩ (.int .i64 (pkSt s L m).2.size))):=
     fun w9 h1 h2=>hI.next hlt hie hxe hpl hpn hgw hgG hG1 hok hroom hs3 hC hszC hdC htC hssC hccC h1 h2
    have hcz:=cut_size hok;have hrowp:=(hI.pc i hiL).2;rw [hfr] at hrowp;have cp:wr.cell? ⟨Av,m,none⟩=some (.pointer (some ⟨ps.getD i 0,0,none⟩)):=by
     have:=hI.ov.cells rfl m (ptrV (ps.getD i 0)) (by
      have e:(liveS L)[m]?=some i:=by rw [←hie,List.getD_eq_getElem?_getD,List.getElem?_eq_getElem hlt];rfl
      rw [List.getElem?_map,e];rfl)
     rwa [Addr.add_lit,Nat.zero_add] at this
    have hdat:∀j,j<3000→wr.cell? ⟨g,j,none⟩=some (.int .u8 (byteAt s j).toNat):=fun j hj=>hI.ag.data j hj;obtain ⟨_,g1,g2,g3⟩:=hok;obtain ⟨P,hP⟩:∃P:Nat,x.pos=P:=⟨_,(Int.toNat_of_nonneg g2).symm⟩;obtain ⟨W,hW⟩:∃W:Nat,x.len=W:=⟨_,(Int.toNat_of_nonneg (by omega)).symm⟩;have HCU:Hid (cutOf s x=s.extract P (P+W)):=by unfold Hid cutOf;rw [hP,hW];rfl
    have c0:wr.cell? ⟨ps.getD i 0,0,none⟩=some (.int .i64 P):=by rw [←hP];exact hrowp.cell 0
    have c1:wr.cell? ⟨ps.getD i 0,1,none⟩=some (.int .i64 W):=by rw [←hW];exact hrowp.cell 1
    rw [hW,Int.toNat_natCast] at hroom hcz HSZ0;rw [hP,hW] at g3;rw [hW] at g1;obtain ⟨Ds,hDe⟩:∃Ds,(pkSt s L m).2.size=Ds:=⟨_,rfl⟩;rw [hDe] at hroom HSZ0 HNX ⊢;have HSZ:Hid ((pkSt s L (m+1)).2.size=Ds+W):=HSZ0;have HWx:Hid (x.len=W):=hW;have hbl:(Lib.byteCells (cutOf s x).data.toList).length=W:=by rw [Lib.byteCells_length,←Lib.size_eq,hcz]
    have hcp:∀ty q,(Builtin.copy_ #[22,22] ty #[.slice (some ⟨G,Ds,none⟩) (3000-Ds) (3000-Ds),.slice (some ⟨g,P,none⟩) W (3000-P)]).run Tryz.prog (wr.drewN q)= .ok (goInt W) ((wr.drewN q).setRow G (C.toList.take Ds++Lib.byteCells (cutOf s x).data.toList++C.toList.drop (Ds+(cutOf s x).size)).toArray):=fun ty q=>by
     have:=run_copy_row Tryz.prog (wr.drewN q) 22 22 ty 5 G Ds (3000-Ds) (3000-Ds) ⟨g,P,none⟩ W (3000-P) C 79 (Lib.byteCells (cutOf s x).data.toList) Tryz.underlying22 info5s hC (by rw [hbl];exact (Nat.min_eq_left (by omega)).symm) (fun j u hj=>?_) (by rw [hbl];omega) (fun u hu=>?_)
     ·rw [hbl] at this;rw [hcz];exact this
     ·have hj':j<W:=by
       have:=(List.getElem?_eq_some_iff.1 hj).1;omega
      rw [Addr.add_lit];show wr.cell? ⟨g,P+j,none⟩=some u;rw [hdat (P+j) (by omega)];have hjl:j<(cutOf s x).data.toList.length:=by rw [←Lib.size_eq,hcz];exact hj'
      rw [Lib.byteCells,List.getElem?_map,List.getElem?_eq_getElem hjl] at hj;have hcut:(cutOf s x).data.toList[j]=byteAt s (P+j):=by
       have e:=HCU.out;have e2:(cutOf s x).data.toList[j]?=some (byteAt s (P+j)):=by
        rw [e,←extract_range s P W (by omega)];show ((List.range W).map fun i=>byteAt s (P+i))[j]?=_;rw [List.getElem?_map,List.getElem?_range hj'];rfl
       rw [List.getElem?_eq_getElem hjl] at e2;exact Option.some.inj e2
      rw [hcut] at hj;exact hj
     ·unfold Lib.byteCells at hu;obtain ⟨y,_,rfl⟩:=List.mem_map.1 hu;rfl
    obtain ⟨p,hpe⟩:∃p,ps.getD i 0=p:=⟨_,rfl⟩;rw [hpe] at cp c0 c1 HNX;have dk:decide ((m:Int)<((liveS L).length:Int))=true:=decide_eq_true (by omega);have hP3:(Ds:Int)≤3000:=by omega
    have hPn:¬3000=Ds:=by omega
    have hP4:(0:Int)≤(Ds:Int):=by omega
    have HBY:=bytesOf_any g p P W wr.drew (by omega) (by omega) c0 c1;have HC:Hid (RowAt wr G 79 C):=hC;clear hI hmem hfr hie hxe hC hszC hdC htC hssC hccC hrowp hdat hP hW hDe hbl hpe HSZ0 hDz hcz;generalize (C.toList.take Ds++Lib.byteCells (cutOf s x).data.toList++C.toList.drop (Ds+(cutOf s x).size)).toArray=NR at*;go_upto_region 9 with fail
    go_region_with (first
     |(go_at_call 30;refine HBY.mono ?_;rintro e w8 ⟨rfl,q,rfl⟩;have hcp1:=fun ty=>hcp ty (1+q)))
    have hg9:wr.grownBy ((wr.drewN (1+q)).setRow G NR) (some G):=⟨rfl,rfl,rfl,by simp [World.setRow],fun k _ hk=>by rw [setRow_other _ _ _ _ (fun e=>hk (by rw [e]))];rfl⟩;have hr9:RowAt ((wr.drewN (1+q)).setRow G NR) G 79 NR:=setRow_heap (wr.drewN (1+q)) G C NR 79 _ HC.out;obtain ⟨hrp,hI9⟩:=HNX.out _ hg9 hr9;have HI9:Hid _:=hI9;have HLT:Hid (m<(liveS L).length):=hlt;have t0:((wr.drewN (1+q)).setRow G NR).cell? ⟨p,0,none⟩=some (.int .i64 x.pos):=hrp.cell 0;have t1:((wr.drewN (1+q)).setRow G NR).cell? ⟨p,1,none⟩=some (.int .i64 W):=by rw [←HWx.out];exact hrp.cell 1
    have z0:=hrp.frozen 0;clear hI9 hrp hr9 hg9 cp c0 c1 HBY hcp hcp1 HNX HC;generalize ((wr.drewN (1+q)).setRow G NR)=w9 at*;generalize x.pos=xp at*;go_wp2;go_roundw
    case rel=>exact ⟨m+1,by have e:m<(liveS L).length:=HLT.out;omega,by go_num,congrArg (Value.int .i64) (by have e:(pkSt s L (m+1)).2.size=Ds+W:=HSZ.out;omega),HI9.out⟩
    case measure=>have e:m<(liveS L).length:=HLT.out;simp [intOf];omega
   ·obtain rfl:m=(liveS L).length:=by omega
    have dk:decide ((((liveS L).length:Nat):Int)<((liveS L).length:Int))=false:=decide_eq_false (by omega);have hDz:=pk_size hR _ hm;have hDle:=pk_le hR hm;have hMl:=pk_len s L _ hm;rw [←hDz] at hDle;obtain ⟨M,hMe⟩:∃M,(pkSt s L (liveS L).length).1=M:=⟨_,rfl⟩;obtain ⟨D,hDe⟩:∃D,(pkSt s L (liveS L).length).2=D:=⟨_,rfl⟩;have aG:=hI.aG;have pc:=hI.pc;rw [hMe] at hMl HM pc;rw [hDe] at hDle HD aG;have HA:=heapO_any G s.size (g+1) (byteAt D) (fun _=>false) M (.slice a' L.length cap') ps wr aG (by rw [hMl];exact hI.oc) (by rw [hMl];exact hpl) (fun i hi=> (pc i (by omega)).2) (by omega) hs3;have HPD:Hid (dataOf (byteAt D) s.size=D++dataZ (s.size-D.size)):=pack_data D s.size hDle;have p2:=hI.p2;have bb:=hI.bb;obtain ⟨Dn,hDn⟩:∃Dn,(pkSt s L (liveS L).length).2.size=Dn:=⟨_,rfl⟩;rw [hDn];clear hI aG pc hDz hMe hDe hDn;go_wp2_with fail;refine HA.mono ?_;clear HA;rintro e w7 ⟨v7,rfl,ho7,b7⟩;rw [HPD.out];rw [hMl] at ho7;obtain ⟨a7,A7,cap7,rfl,_⟩:=form_any ho7;have p7:=p2.below b7 p2.lt;have bb7:=bb.trans (b7.mono bb.size);have hl7:=p2.lt;generalize hZ:D++dataZ (s.size-D.size)=Z at*;have u2:=row_ret (D:= .string Z) (v:= .slice a7 L.length cap7) p7 rfl;obtain ⟨e0,e1⟩:=zbb p7;obtain ⟨k0,k1⟩:=zbb u2;have z0:=p7.frozen 0;have z1:=p7.frozen 1;have o8:=Go.Joins.ownsRow_le (ownsRow_setCell_below (ownsRow_setCell_below ho7 (a:=⟨w.heap.size+1,0,none⟩) (by simp only;omega) (.string Z)) (a:=⟨w.heap.size+1,1,none⟩) (by simp only;omega) (.slice a7 L.length cap7)) (base':=w.heap.size) (by have:=bb.size;omega);clear u2 p7 ho7;go_wp2;exact bodyPost_ret (v:= .tuple #[.agg #[.string Z,.slice a7 L.length cap7],.bool true]) (by simp [results,Tryz.results11,go_sem,k0,k1]) rfl (by rw [HH.out,HD.out,HM.out];exact ⟨_,rfl,by rw [hMl];exact o8,(bb7.setCell (p:=⟨w.heap.size+1,0,none⟩) (by simp) _).setCell (p:=⟨w.heap.size+1,1,none⟩) (by simp) _⟩)
end Go.Proofs.YtjpeglkkkllagaaGreatDoor.Hp
namespace Go.Proofs.YtjpeglkkkllagaaGreatDoor.Hp
open Go.RowKit Go.Sort
structure RightX (s:ByteArray) (L:List Cl):Prop where
 small:s.size≤3000
 few:L.length≤40
 adm:∀i,i<L.length→admitB s.size (L.getD i cl0)=true
 apart:∀i j,i<L.length→j<L.length→i≠j→(L.getD i cl0).live=true→(L.getD j cl0).live=true→Disj (L.getD i cl0) (L.getD j cl0)
 clean:∀p,p<s.size→(∀i,i<L.length→covers (L.getD i cl0) p=false)→byteAt s p=0
theorem getD_get {L:List Cl} {i:Nat} (h:i<L.length):L.getD i cl0=L[i]:=by
 rw [List.getD_eq_getElem?_getD,List.getElem?_eq_getElem h];rfl
theorem any_cover (L:List Cl) (p:Nat):((L.filter (·.live)).any fun c=>covers c p)=false↔∀i,i<L.length→covers (L.getD i cl0) p=false:=by
 constructor
 ·intro h i hi;rw [getD_get hi];rw [Bool.eq_false_iff];intro hc;have hl:L[i].live=true:=by
   unfold covers at hc;rw [Bool.and_eq_true] at hc;exact hc.1
  have:((L.filter (·.live)).any fun c=>covers c p)=true:=List.any_eq_true.2 ⟨L[i],List.mem_filter.2 ⟨List.getElem_mem hi,hl⟩,hc⟩;rw [h] at this;cases this
 ·intro h;rw [Bool.eq_false_iff];intro ht;obtain ⟨c,hc,hcp⟩:=List.any_eq_true.1 ht;obtain ⟨i,hi,rfl⟩:=List.getElem_of_mem (List.mem_filter.1 hc).1;have:=h i hi;rw [getD_get hi,hcp] at this;cases this
theorem heap_iff (s:ByteArray) (L:List Cl):heapB s L=true↔RightX s L:=by
 unfold heapB;rw [Bool.and_eq_true,decide_eq_true_iff];constructor
 ·rintro ⟨⟨h1,h2⟩,h3⟩;unfold implB at h3;cases ho:openM s.size L (fun _=>false) with
  |none=>rw [ho] at h3;cases h3
  |some t=>
   rw [ho] at h3;obtain ⟨a1,a2,_,a4⟩:=(open_iff s.size L _ t).1 ho;refine ⟨h1,h2,fun i hi=>?_,?_,fun p hp hc=>?_⟩
   ·rw [getD_get hi];exact List.all_eq_true.1 a1 _ (List.getElem_mem hi)
   ·rw [List.pairwise_filter,List.pairwise_iff_getElem] at a2;intro i j hi hj hij li lj;rw [getD_get hi] at li ⊢;rw [getD_get hj] at lj ⊢;rcases Nat.lt_or_gt_of_ne hij with h|h
    ·exact a2 i j hi hj h li lj
    ·exact (a2 j i hj hi h lj li).symm
   ·have h3':cleanM (byteAt s) t s.size=true:=h3;unfold cleanM at h3';have:=List.all_eq_true.1 h3' p (List.mem_range.2 hp);rw [a4] at this;have hn:=(any_cover L p).2 hc;simp only [hn,Bool.or_false,Bool.false_or] at this;simpa using this
 ·intro h;refine ⟨⟨h.small,h.few⟩,?_⟩;have ho:=(open_iff s.size L (fun _=>false) (fun i=>false||(L.filter (·.live)).any fun c=>covers c i)).2 ⟨?_,?_,fun _ _ _ _=>rfl,rfl⟩
  ·unfold implB;rw [ho];show cleanM (byteAt s) _ s.size=true;unfold cleanM;rw [List.all_eq_true];intro p hp;rw [List.mem_range] at hp;cases hc:(L.filter (·.live)).any fun c=>covers c p with
   |true=>simp [hc]
   |false=>
    have:=h.clean p hp ((any_cover L p).1 hc);simp [this]
  ·rw [List.all_eq_true];intro c hc;obtain ⟨i,hi,rfl⟩:=List.getElem_of_mem hc;have:=h.adm i hi;rwa [getD_get hi] at this
  ·rw [List.pairwise_filter,List.pairwise_iff_getElem];intro i j hi hj hij li lj;have:=h.apart i j hi hj (by omega) (by rw [getD_get hi];exact li) (by rw [getD_get hj];exact lj);rwa [getD_get hi,getD_get hj] at this
theorem RightX.ok {s:ByteArray} {L:List Cl} (h:RightX s L) {i:Nat} (hi:i<L.length) (hl:(L.getD i cl0).live=true):Ok s.size (L.getD i cl0):=admit_ok (h.adm i hi) hl
theorem getD_set {L:List Cl} {k:Nat} (x:Cl) (hk:k<L.length) (i:Nat):(L.set k x).getD i cl0=if i=k then x else L.getD i cl0:=by
 by_cases h:i=k
 ·rw [if_pos h,h,List.getD_eq_getElem?_getD,List.getElem?_set_self hk];rfl
 ·rw [if_neg h,List.getD_eq_getElem?_getD,List.getD_eq_getElem?_getD,List.getElem?_set_ne (fun e=>h e.symm)]
theorem byte_zero (n i:Nat):byteAt (dataZ n) i=0:=by
 unfold byteAt dataZ;rw [List.getD_eq_getElem?_getD];show (((List.range n).map fun _=> (0:UInt8))[i]?).getD 0=0;rw [List.getElem?_map];cases (List.range n)[i]?<;>rfl
theorem byte_put {s x:ByteArray} {p:Nat} (h:p+x.size≤s.size) (i:Nat) (hi:i < s.size):byteAt (putData s p x) i=if p≤i∧i < p+x.size then byteAt x (i - p) else byteAt s i:=by
 rw [← put_data s p x h]
 unfold dataOf
 conv=>lhs;unfold byteAt
 rw [List.getD_eq_getElem?_getD]
 show (((List.range s.size).map (dPut s p x))[i]?).getD 0=_
 rw [List.getElem?_map,List.getElem?_range hi]
 rfl
theorem size_put {s x:ByteArray} {p:Nat} (h:p+x.size≤s.size):(putData s p x).size=s.size:=by
 unfold putData;rw [ByteArray.size_append,ByteArray.size_append,ByteArray.size_extract,ByteArray.size_extract];omega
end Go.Proofs.YtjpeglkkkllagaaGreatDoor.Hp
namespace Go.Proofs.YtjpeglkkkllagaaGreatDoor.Hp
open Go.RowKit Go.Sort
theorem byte_get {s:ByteArray} {i:Nat} (h:i<s.size):byteAt s i=s[i]:=by
 unfold byteAt;have hl:i<s.data.toList.length:=by rw [Array.length_toList];exact h
 rw [List.getD_eq_getElem?_getD,List.getElem?_eq_getElem hl];rfl
theorem ext_bytes {s x:ByteArray} (hs:s.size=x.size) (h:∀i,i<s.size→byteAt s i=byteAt x i):s=x:=by
 apply ByteArray.ext;apply Array.ext';rw [bytes_list s,bytes_list x,hs];apply List.map_congr_left;intro i hi;exact h i (by rw [hs];exact List.mem_range.1 hi)
theorem byte_extract {s:ByteArray} {P Q i:Nat} (hQ:Q≤s.size) (h:i<Q-P):byteAt (s.extract P Q) i=byteAt s (P+i):=by
 have hz:(s.extract P Q).size=Q-P:=by rw [ByteArray.size_extract];omega
 rw [byte_get (by rw [hz];exact h),byte_get (show P+i<s.size by omega),ByteArray.getElem_extract]
theorem byte_left {s x:ByteArray} {i:Nat} (h:i<s.size):byteAt (s++x) i=byteAt s i:=by
 rw [byte_get h,byte_get (by rw [ByteArray.size_append];omega),ByteArray.getElem_append_left h]
theorem byte_right {s x:ByteArray} {i:Nat} (h:s.size≤i) (h2:i-s.size<x.size):byteAt (s++x) i=byteAt x (i-s.size):=by
 rw [byte_get h2,byte_get (by rw [ByteArray.size_append];omega),ByteArray.getElem_append_right h]
theorem cut_same {s x:ByteArray} {P Q W:Nat} (h1:P+W≤s.size) (h2:Q+W≤x.size) (h:∀j,j<W→byteAt s (P+j)=byteAt x (Q+j)):s.extract P (P+W)=x.extract Q (Q+W):=by
 have z1:(s.extract P (P+W)).size=W:=by rw [ByteArray.size_extract];omega
 have z2:(x.extract Q (Q+W)).size=W:=by rw [ByteArray.size_extract];omega
 refine ext_bytes (by rw [z1,z2]) (fun i hi=>?_);rw [z1] at hi;rw [byte_extract h1 (by omega),byte_extract h2 (by omega)];exact h i hi
theorem cut_is {s x:ByteArray} {P:Nat} (h1:P+x.size≤s.size) (h:∀j,j<x.size→byteAt s (P+j)=byteAt x j):s.extract P (P+x.size)=x:=by
 have z1:(s.extract P (P+x.size)).size=x.size:=by rw [ByteArray.size_extract];omega
 refine ext_bytes z1 (fun i hi=>?_);rw [z1] at hi;rw [byte_extract h1 (by omega)];exact h i hi
theorem get_at {s:ByteArray} {L:List Cl} {k:Nat} (h:RightX s L) (hk:k<L.length) (hl:(L.getD k cl0).live=true):
  getB s L k (L.getD k cl0).gen=(s.extract (L.getD k cl0).pos.toNat ((L.getD k cl0).pos.toNat+(L.getD k cl0).len.toNat),true):=by
 have hi:isB L k (L.getD k cl0).gen=true:=by
  unfold isB;rw [Bool.and_eq_true,Bool.and_eq_true];exact ⟨decide_eq_true (by omega),by simpa using hl,by simp⟩
 unfold getB;rw [if_pos ⟨(heap_iff s L).2 h,hi⟩];simp
theorem get_none {s:ByteArray} {L:List Cl} {rc rg:Int} (h:isB L rc rg=false):getB s L rc rg=(⟨#[]⟩,false):=by
 unfold getB;rw [if_neg (by rw [h];simp)]
theorem is_dead {L:List Cl} {k:Nat} {rg:Int} (h:(L.getD k cl0).live=false∨(L.getD k cl0).gen≠rg):isB L k rg=false:=by
 unfold isB;rw [Bool.eq_false_iff];intro hx;rw [Bool.and_eq_true,Bool.and_eq_true] at hx;obtain ⟨_,h1,h2⟩:=hx;simp at h1 h2;rcases h with h|h
 ·rw [List.getD_eq_getElem?_getD] at h;rw [h] at h1;cases h1
 ·rw [List.getD_eq_getElem?_getD] at h;exact h h2
theorem get_same {s x:ByteArray} {L M:List Cl} {k:Nat} {rg:Int} (h1:RightX s L) (h2:RightX x M) (hk:k<L.length) (hk2:k<M.length)
  (hl:(M.getD k cl0).live=(L.getD k cl0).live) (hg:(M.getD k cl0).gen=(L.getD k cl0).gen) (hn:(M.getD k cl0).len=(L.getD k cl0).len)
  (hb:(L.getD k cl0).live=true→∀j,j<(L.getD k cl0).len.toNat→byteAt s ((L.getD k cl0).pos.toNat+j)=byteAt x ((M.getD k cl0).pos.toNat+j)):
  getB s L k rg=getB x M k rg:=by
 by_cases hlive:(L.getD k cl0).live=true
 ·by_cases hgen:(L.getD k cl0).gen=rg
  ·subst hgen;have e2:=get_at h2 hk2 (by rw [hl];exact hlive);rw [hg] at e2;rw [get_at h1 hk hlive,e2,hn];obtain ⟨_,a1,a2,a3⟩:=h1.ok hk hlive;obtain ⟨_,b1,b2,b3⟩:=h2.ok hk2 (by rw [hl];exact hlive);rw [hn] at b1 b3;rw [cut_same (by omega) (by omega) (hb hlive)]
  ·rw [get_none (is_dead (.inr hgen)),get_none (is_dead (.inr (by rw [hg];exact hgen)))]
 ·have hlive':(L.getD k cl0).live=false:=by simpa using hlive
  rw [get_none (is_dead (.inl hlive')),get_none (is_dead (.inl (by rw [hl];exact hlive')))]
theorem le_max (l:List (Nat×Nat)):∀a:Int,(∀g∈l,(g.2:Int)≤l.foldl (fun a g=>max a (g.2:Int)) a)∧a≤l.foldl (fun a g=>max a (g.2:Int)) a:=by
 induction l with
 |nil=>intro a;exact ⟨fun g hg=>by simp at hg,Int.le_refl _⟩
 |cons y r ih=>
  intro a;rw [List.foldl_cons];obtain ⟨h1,h2⟩:=ih (max a (y.2:Int));refine ⟨fun g hg=>?_,Int.le_trans (Int.le_max_left _ _) h2⟩;rcases List.mem_cons.1 hg with rfl|hg
  ·exact Int.le_trans (Int.le_max_right _ _) h2
  ·exact h1 g hg
theorem max_le_sum (l:List (Nat×Nat)):∀a b:Int,a≤b→0≤a→l.foldl (fun a g=>max a (g.2:Int)) a≤l.foldl (fun a g=>a+(g.2:Int)) b:=by
 induction l with
 |nil=>intro a b h _;exact h
 |cons y r ih=>
  intro a b h h0;rw [List.foldl_cons,List.foldl_cons];exact ih _ _ (by omega) (by omega)
theorem first_yes (want:Nat):∀l:List (Nat×Nat),0≤firstG want l→∃g∈l,want≤g.2∧firstG want l=g.1
 | [],h=>by simp [firstG] at h
 |y::r,h=>by
  rw [firstG] at h ⊢;split
  ·rename_i hw;exact ⟨y,by simp,hw,rfl⟩
  ·rename_i hw;rw [if_neg hw] at h;obtain ⟨g,h1,h2,h3⟩:=first_yes want r h;exact ⟨g,by simp [h1],h2,h3⟩
theorem scan_all_free (t:Nat→Bool):∀k,(∀g∈(scanM t k).1,∀i,g.1≤i→i<g.1+g.2→t i=false)∧((scanM t k).2=true→∃G a l,(scanM t k).1=G++ [(a,l)]∧a+l=k)
 |0=>⟨fun x hx=>by simp [scanM] at hx,fun h=>by simp [scanM] at h⟩
 |k+1=>by
  obtain ⟨h1,h2⟩:=scan_all_free t k;refine ⟨?_,(scan_room t (k+1)).2⟩;rw [scanM,stepG];split
  ·exact h1
  ·rename_i hb;have hb':t k=false:=by simpa using hb
   split
   ·rename_i h;obtain ⟨G,a,l,e,hl⟩:=h2 h;rw [e] at h1;rw [e,bump_last];intro g hg i hi1 hi2;rcases List.mem_append.1 hg with h|h
    ·exact h1 g (by simp [h]) i hi1 hi2
    ·simp at h;subst h;simp only at hi1 hi2;by_cases hik:i<k
     ·exact h1 (a,l) (by simp) i hi1 (by simp only;omega)
     ·rw [show i=k by omega];exact hb'
   ·intro g hg i hi1 hi2;rcases List.mem_append.1 hg with h|h
    ·exact h1 g h i hi1 hi2
    ·simp at h;subst h;simp only at hi1 hi2;rw [show i=k by omega];exact hb'
theorem scan_run (t:Nat→Bool) (P:Nat):∀j,(∀i,P≤i→i<P+(j+1)→t i=false)→∃G a l,scanM t (P+(j+1))=(G++ [(a,l)],true)∧a+l=P+(j+1)∧a≤P
 |0,h=>by
  have hP:=h P (Nat.le_refl _) (by omega);rw [show P+(0+1)=P+1 from rfl,scanM,stepG,hP];cases hb:(scanM t P).2 with
  |true=>
   obtain ⟨G,a,l,e,hl⟩:=(scan_room t P).2 hb;refine ⟨G,a,l+1,?_,by omega,by omega⟩;rw [e,bump_last];rfl
  |false=>exact ⟨_,P,1,rfl,rfl,Nat.le_refl _⟩
 |j+1,h=>by
  obtain ⟨G,a,l,e,h1,h2⟩:=scan_run t P j (fun i hi1 hi2=>h i hi1 (by omega));have hP:=h (P+(j+1)) (by omega) (by omega);refine ⟨G,a,l+1,?_,by omega,h2⟩;rw [show P+(j+1+1)=(P+(j+1))+1 from rfl,scanM,e,stepG,hP];show (bump (G++ [(a,l)]),true)=_;rw [bump_last]
theorem scan_keep (t:Nat→Bool) (W k:Nat):∀d,(∃g∈(scanM t k).1,W≤g.2)→∃g∈(scanM t (k+d)).1,W≤g.2
 |0,h=>h
 |d+1,h=>by
  obtain ⟨g,hg,hw⟩:=scan_keep t W k d h;rw [show k+(d+1)=(k+d)+1 from rfl,scanM,stepG];split
  ·exact ⟨g,hg,hw⟩
  ·split
   ·rename_i hb;obtain ⟨G,a,l,e,hl⟩:=(scan_room t (k+d)).2 hb;rw [e] at hg;show ∃g∈bump (scanM t (k+d)).1,W≤g.2;rw [e,bump_last];rcases List.mem_append.1 hg with h|h
    ·exact ⟨g,by simp [h],hw⟩
    ·simp at h;subst h;exact ⟨(a,l+1),by simp,by simp only at hw ⊢;omega⟩
   ·exact ⟨g,by simp [hg],hw⟩
theorem scan_found {t:Nat→Bool} {P W n:Nat} (hW:1≤W) (hn:P+W≤n) (h:∀i,P≤i→i<P+W→t i=false):∃g∈(scanM t n).1,W≤g.2:=by
 obtain ⟨G,a,l,e,h1,h2⟩:=scan_run t P (W-1) (fun i hi1 hi2=>h i hi1 (by omega));rw [show P+(W-1+1)=P+W by omega] at e h1;have:=scan_keep t W (P+W) (n-(P+W)) ⟨(a,l),by rw [e];simp,by simp only;omega⟩;rwa [show P+W+(n-(P+W))=n by omega] at this
theorem taken_no {n:Nat} {L:List Cl} {t:Nat→Bool} (h:Right n L t) (i:Nat):t i=false↔∀k,k<L.length→covers (L.getD k cl0) i=false:=by
 rw [h.taken i,←any_cover L i];have hP:=liveC_perm L [];rw [List.nil_append] at hP;have e:((liveC [] L).any fun c=>covers c i)=((L.filter (·.live)).any fun c=>covers c i):=by
  rw [Bool.eq_iff_iff,List.any_eq_true,List.any_eq_true];exact ⟨fun ⟨x,hx,h⟩=>⟨x,hP.mem_iff.1 hx,h⟩,fun ⟨x,hx,h⟩=>⟨x,hP.mem_iff.2 hx,h⟩⟩
 rw [e]
theorem gap_val {s:ByteArray} {L:List Cl} (h:heapB s L=true):∃t,Right s.size L t∧overB (fun x y=>max x y) s L=maxG (scanM t s.size).1∧overB (fun x y=>x+y) s L=sumG (scanM t s.size).1:=by
 obtain ⟨t,ho,hr⟩:=heap_right h;refine ⟨t,hr,?_,?_⟩<;> (unfold overB gapsOf;rw [if_pos h,ho];rfl)
theorem gap_le_room {s:ByteArray} {L:List Cl} (h:heapB s L=true):overB (fun x y=>max x y) s L≤overB (fun x y=>x+y) s L:=by
 obtain ⟨t,_,h1,h2⟩:=gap_val h;rw [h1,h2];exact max_le_sum _ 0 0 (Int.le_refl _) (Int.le_refl _)
structure PutX (s:ByteArray) (L:List Cl) (x:ByteArray) (P k:Nat) (M:List Cl) (g:Int):Prop where
 right:RightX s L
 room:P+x.size≤s.size
 some:1≤x.size
 clear:∀i,i<L.length→∀p,P≤p→p<P+x.size→covers (L.getD i cl0) p=false
 klt:k<M.length
 dead:(L.getD k cl0).live=false
 now:M.getD k cl0=⟨P,x.size,g+1,true⟩
 gen:(L.getD k cl0).gen=g
 low:0≤g∧g<1000000000
 rest:∀i,i≠k→M.getD i cl0=L.getD i cl0
 back:∀i,i<M.length→i≠k→i<L.length
 more:L.length≤M.length
 few:M.length≤40
theorem free_is:∀L:List Cl,freeAt L<L.length→(L.getD (freeAt L) cl0).live=false∧(L.getD (freeAt L) cl0).gen<1000000000
 | [],h=>by simp at h
 |c::r,h=>by
  rw [freeAt] at h ⊢;split
  ·rename_i hc;exact hc
  ·rename_i hc;rw [if_neg hc] at h;rw [List.getD_cons_succ];exact free_is r (by simp at h;omega)
theorem put_x {s:ByteArray} {L:List Cl} {x:ByteArray} (h:putOk s L x=true):PutX s L x (putPos s L x) (freeAt L) (putCells L (putPos s L x) x.size) ((roomC L).getD (freeAt L) cl0).gen:=by
 unfold putOk at h;rw [Bool.and_eq_true,Bool.and_eq_true,Bool.and_eq_true] at h;obtain ⟨⟨⟨h1,h2⟩,h3⟩,h4⟩:=h;have h2:=of_decide_eq_true h2;have h3:=of_decide_eq_true h3;have h4:=of_decide_eq_true h4;have hX:=(heap_iff s L).1 h1;obtain ⟨t,_,hr⟩:=heap_right h1;rw [put_at hr (by omega)] at h3;obtain ⟨g,hg,hw,he⟩:=first_yes _ _ h3;have hP:putPos s L x=g.1:=by
  unfold putPos;rw [put_at hr (by omega),he];rfl
 have hroom:=(scan_room t s.size).1 g hg;have hle:=free_le L;have hlen:(putCells L (putPos s L x) x.size).length=(roomC L).length:=by unfold putCells;rw [List.length_set]
 have hrl:=room_len L;have hnow:(putCells L (putPos s L x) x.size).getD (freeAt L) cl0=⟨(putPos s L x:Nat),(x.size:Nat),((roomC L).getD (freeAt L) cl0).gen+1,true⟩:=by
  unfold putCells;rw [getD_set _ hrl,if_pos rfl]
 have hrest:∀i,i≠freeAt L→(putCells L (putPos s L x) x.size).getD i cl0=L.getD i cl0:=fun i hi=>by
  unfold putCells;rw [getD_set _ hrl,if_neg hi];unfold roomC;split
  ·rename_i hf;rw [List.getD_eq_getElem?_getD,List.getD_eq_getElem?_getD];by_cases hil:i<L.length
   ·rw [List.getElem?_append_left hil]
   ·rw [List.getElem?_eq_none (by simp;omega),List.getElem?_eq_none (by omega)]
  ·rfl
 by_cases hf:freeAt L=L.length
 ·have hrc:roomC L=L++ [cl0]:=if_pos hf;have hz:(roomC L).getD (freeAt L) cl0=cl0:=by
   rw [hrc,hf,List.getD_eq_getElem?_getD,List.getElem?_append_right (Nat.le_refl _),Nat.sub_self];rfl
  have hz2:L.getD (freeAt L) cl0=cl0:=by
   rw [hf,List.getD_eq_getElem?_getD,List.getElem?_eq_none (Nat.le_refl _)];rfl
  have hl2:(roomC L).length=L.length+1:=by rw [hrc];simp
  refine ⟨hX,by rw [hP];omega,by omega,?_,by rw [hlen];exact hrl,by rw [hz2];rfl,hnow,by rw [hz,hz2],by rw [hz];decide,hrest,?_,by rw [hlen,hl2];omega,?_⟩
  ·intro i hi p hp1 hp2;rw [hP] at hp1 hp2;exact (taken_no hr p).1 ((scan_all_free t s.size).1 g hg p hp1 (by omega)) i hi
  ·intro i hi hne;rw [hlen,hl2] at hi;omega
  ·rw [hlen,hl2];have:=hX.few;omega
 ·have hrc:roomC L=L:=if_neg hf;have hfl:freeAt L<L.length:=by omega
  obtain ⟨d1,d2⟩:=free_is L hfl;have hadm:=hX.adm _ hfl;unfold admitB at hadm;rw [Bool.and_eq_true] at hadm;have hg1:=of_decide_eq_true hadm.1;refine ⟨hX,by rw [hP];omega,by omega,?_,by rw [hlen];exact hrl,d1,hnow,by rw [hrc],by rw [hrc];omega,hrest,?_,by rw [hlen,hrc];omega,?_⟩
  ·intro i hi p hp1 hp2;rw [hP] at hp1 hp2;exact (taken_no hr p).1 ((scan_all_free t s.size).1 g hg p hp1 (by omega)) i hi
  ·intro i hi _;rw [hlen,hrc] at hi;exact hi
  ·rw [hlen,hrc];exact hX.few
theorem PutX.right' {s:ByteArray} {L:List Cl} {x:ByteArray} {P k:Nat} {M:List Cl} {g:Int} (h:PutX s L x P k M g):RightX (putData s P x) M:=by
 have hsz:=size_put h.room;have hk:covers (M.getD k cl0)=fun p=>decide (P≤p∧p<P+x.size):=by
  rw [h.now];funext p;unfold covers;rw [Bool.eq_iff_iff];simp;omega
 have hdis:∀i,i<L.length→(L.getD i cl0).live=true→Disj (L.getD i cl0) ⟨P,x.size,g+1,true⟩:=fun i hi hl=>by
  obtain ⟨_,a1,a2,a3⟩:=h.right.ok hi hl;have hc:=h.clear i hi;unfold Disj;simp only;have hs:=h.some;by_cases h1:(L.getD i cl0).pos+(L.getD i cl0).len≤P
  ·exact .inl h1
  ·right;by_cases h2:(P:Int)+x.size≤(L.getD i cl0).pos
   ·exact h2
   ·exfalso;have:=hc (max P (L.getD i cl0).pos.toNat) (by omega) (by omega);rw [Bool.eq_false_iff] at this;exact this ((covers_iff _ _ hl).2 (by omega))
 refine ⟨by rw [hsz];exact h.right.small,h.few,fun i hi=>?_,fun i j hi hj hij li lj=>?_,fun p hp hc=>?_⟩
 ·rw [hsz];by_cases hik:i=k
  ·rw [hik,h.now];have:=h.low;have:=h.room;have:=h.some;unfold admitB;simp;omega
  ·rw [h.rest i hik];exact h.right.adm i (h.back i hi hik)
 ·by_cases hik:i=k
  ·by_cases hjk:j=k
   ·omega
   ·rw [hik,h.now,h.rest j hjk];rw [h.rest j hjk] at lj;exact (hdis j (h.back j hj hjk) lj).symm
  ·rw [h.rest i hik] at li ⊢;by_cases hjk:j=k
   ·rw [hjk,h.now];exact hdis i (h.back i hi hik) li
   ·rw [h.rest j hjk] at lj ⊢;exact h.right.apart i j (h.back i hi hik) (h.back j hj hjk) hij li lj
 ·rw [hsz] at hp;rw [byte_put h.room p hp];have:=hc k h.klt;rw [hk] at this;have:=of_decide_eq_false this;rw [if_neg this];refine h.right.clean p hp (fun i hi=>?_);by_cases hik:i=k
  ·subst hik;unfold covers;rw [h.dead];rfl
  ·have:=hc i (by have:=h.more;omega);rwa [h.rest i hik] at this
theorem PutX.got {s:ByteArray} {L:List Cl} {x:ByteArray} {P k:Nat} {M:List Cl} {g:Int} (h:PutX s L x P k M g):getB (putData s P x) M k (g+1)=(x,true):=by
 have:=get_at h.right' h.klt (by rw [h.now]);rw [h.now] at this;simp only at this;rw [this];congr 1;have hz:=size_put h.room;refine cut_is (by rw [hz];simpa using h.room) (fun j hj=>?_);have:=h.room;simp only [Int.toNat_natCast];rw [byte_put h.room _ (by omega),if_pos (by omega),show P+j-P=j by omega]
theorem PutX.was {s:ByteArray} {L:List Cl} {x:ByteArray} {P k:Nat} {M:List Cl} {g:Int} (h:PutX s L x P k M g) (rg:Int):getB s L k rg=(⟨#[]⟩,false):=get_none (is_dead (.inl h.dead))
theorem PutX.else {s:ByteArray} {L:List Cl} {x:ByteArray} {P k:Nat} {M:List Cl} {g:Int} (h:PutX s L x P k M g) {i:Nat} (hi:i<L.length) (hik:i≠k) (rg:Int):getB s L i rg=getB (putData s P x) M i rg:=by
 have e:=h.rest i hik;refine get_same h.right h.right' hi (by have:=h.more;omega) (by rw [e]) (by rw [e]) (by rw [e]) (fun hl j hj=>?_);rw [e];obtain ⟨_,a1,a2,a3⟩:=h.right.ok hi hl;rw [byte_put h.room _ (by omega),if_neg];intro hp;have:=h.clear i hi _ hp.1 hp.2;rw [Bool.eq_false_iff] at this;exact this ((covers_iff _ _ hl).2 (by omega))
theorem lens_set (L:List Cl) (y:Cl):∀k,k<L.length→lens (L.set k y)=lens L-(L.getD k cl0).len+y.len:=by
 induction L with
 |nil=>intro k h;simp at h
 |cons c r ih=>
  intro k h;cases k with
  |zero=>simp [lens];omega
  |succ k=>
   have:=ih k (by simpa using h);simp only [lens,List.set_cons_succ,List.map_cons,List.sum_cons,List.getD_cons_succ] at this ⊢;omega
theorem dead_len {s:ByteArray} {L:List Cl} (h:RightX s L) {k:Nat} (hk:k<L.length) (hl:(L.getD k cl0).live=false):(L.getD k cl0).len=0:=by
 have:=h.adm k hk;unfold admitB at this;rw [hl] at this;simp at this;have e:(L.getD k cl0)=(L[k]?.getD cl0):=List.getD_eq_getElem?_getD;rw [e];omega
theorem put_room {s:ByteArray} {L:List Cl} {x:ByteArray} (h:putOk s L x=true):lens (putCells L (putPos s L x) x.size)=lens L+x.size:=by
 have hX:=put_x h;have hrl:=room_len L;unfold putCells;rw [lens_set _ _ _ hrl];have hle:=free_le L;by_cases hf:freeAt L=L.length
 ·have hrc:roomC L=L++ [cl0]:=if_pos hf;have hz:(roomC L).getD (freeAt L) cl0=cl0:=by
   rw [hrc,hf,List.getD_eq_getElem?_getD,List.getElem?_append_right (Nat.le_refl _),Nat.sub_self];rfl
  rw [hz,hrc];simp [lens,cl0]
 ·have hrc:roomC L=L:=if_neg hf;rw [hrc,dead_len hX.right (by omega) hX.dead];simp
theorem room_of {s:ByteArray} {L:List Cl} (h:RightX s L):overB (fun x y=>x+y) s L=s.size-lens L:=by
 rw [room_one];unfold roomB;rw [if_pos ((heap_iff s L).2 h)]
structure PutLaw (s:ByteArray) (L:List Cl) (x:ByteArray):Prop where
 got:getB (putD s L x) (putL s L x) (putRc s L x) (putRg s L x)=(x,true)
 right:heapB (putD s L x) (putL s L x)=true
 room:overB (fun x y=>x+y) (putD s L x) (putL s L x)=overB (fun x y=>x+y) s L-x.size
 was:(getB s L (putRc s L x) (putRg s L x)).2=false
 rest:∀i:Nat,i<L.length→(getB s L i (L.getD i cl0).gen).2=true→getB (putD s L x) (putL s L x) i (L.getD i cl0).gen=getB s L i (L.getD i cl0).gen
theorem put_law {s:ByteArray} {L:List Cl} {x:ByteArray} (h:putOk s L x=true):PutLaw s L x:=by
 have hX:=put_x h;have eD:putD s L x=putData s (putPos s L x) x:=by unfold putD;rw [if_pos h]
 have eL:putL s L x=putCells L (putPos s L x) x.size:=by unfold putL;rw [if_pos h]
 have eC:putRc s L x=(freeAt L:Nat):=by unfold putRc;rw [if_pos h]
 have eG:putRg s L x=((roomC L).getD (freeAt L) cl0).gen+1:=by unfold putRg;rw [if_pos h]
 refine ⟨?_,?_,?_,?_,?_⟩
 ·rw [eD,eL,eC,eG];exact hX.got
 ·rw [eD,eL];exact (heap_iff _ _).2 hX.right'
 ·rw [eD,eL,room_of hX.right',room_of hX.right,size_put hX.room,put_room h];omega
 ·rw [eC,hX.was]
 ·intro i hi hg;rw [eD,eL];by_cases hik:i=freeAt L
  ·rw [hik,hX.was] at hg;cases hg
  ·exact (hX.else hi hik _).symm
end Go.Proofs.YtjpeglkkkllagaaGreatDoor.Hp
namespace Go.Proofs.YtjpeglkkkllagaaGreatDoor.Hp
open Go.RowKit Go.Sort
theorem st_mem (L:List Cl) {i:Nat} (hl:(clOf L i).live=true):∀k,i<k→i∈stI L k
 |0,h=>by omega
 |k+1,h=>by
  rw [stI];by_cases hik:i=k
  ·subst hik;rw [if_pos hl,(ins_perm L i _).mem_iff];exact List.mem_cons_self
  ·have ih:=st_mem L hl k (by omega);split
   ·rw [(ins_perm L k _).mem_iff];exact List.mem_cons_of_mem _ ih
   ·exact ih
theorem liveS_mem {L:List Cl} {i:Nat} (hi:i<L.length) (hl:(L.getD i cl0).live=true):i∈liveS L:=st_mem L hl _ hi
theorem liveS_idx {L:List Cl} {i:Nat} (h:i∈liveS L):∃q,q<(liveS L).length∧(liveS L).getD q 0=i:=by
 obtain ⟨q,hq,e⟩:=List.getElem_of_mem h;exact ⟨q,hq,by rw [List.getD_eq_getElem?_getD,List.getElem?_eq_getElem hq];exact e⟩
theorem pk_cell {s:ByteArray} {L:List Cl} {t:Nat→Bool} (h:Right s.size L t):∀(m q:Nat),m≤(liveS L).length→q<m→
  (pkSt s L m).1.getD ((liveS L).getD q 0) cl0=⟨(pkN L q:Nat),(clOf L ((liveS L).getD q 0)).len,(clOf L ((liveS L).getD q 0)).gen,(clOf L ((liveS L).getD q 0)).live⟩
 |0,q,_,hq=>by omega
 |m+1,q,hm,hq=>by
  have hb:(liveS L).getD m 0<(pkSt s L m).1.length:=by
   rw [pk_len s L m (by omega)];exact liveS_lt L _ (liveS_at (by omega))
  rw [pkSt_next s L (by omega)];show (moveC _ _ _).getD _ cl0=_;unfold moveC;rw [getD_set _ hb];by_cases hqm:q=m
  ·subst hqm;rw [if_pos rfl,pk_size h q (by omega),pk_fresh s L q q (Nat.le_refl _) (by omega)]
  ·rw [if_neg (liveS_ne (by omega) (by omega))];exact pk_cell h m q (by omega) (by omega)
theorem pk_other (s:ByteArray) (L:List Cl) {i:Nat} (hi:i ∉ liveS L):∀m,m≤(liveS L).length→(pkSt s L m).1.getD i cl0=L.getD i cl0
 |0,_=>rfl
 |m+1,hm=>by
  have hb:(liveS L).getD m 0<(pkSt s L m).1.length:=by
   rw [pk_len s L m (by omega)];exact liveS_lt L _ (liveS_at (by omega))
  rw [pkSt_next s L (by omega)];show (moveC _ _ _).getD _ cl0=_;unfold moveC;rw [getD_set _ hb,if_neg (fun e=>hi (by rw [e];exact liveS_at (by omega)))];exact pk_other s L hi m (by omega)
theorem pk_bytes {s:ByteArray} {L:List Cl} {t:Nat→Bool} (h:Right s.size L t):∀(m q:Nat),m≤(liveS L).length→q<m→∀b,b<(clOf L ((liveS L).getD q 0)).len.toNat→
  byteAt (pkSt s L m).2 (pkN L q+b)=byteAt s ((clOf L ((liveS L).getD q 0)).pos.toNat+b)
 |0,q,_,hq,_,_=>by omega
 |m+1,q,hm,hq,b,hb=>by
  rw [pkSt_next s L (by omega)];show byteAt (_++cutOf s _) _=_;have hsz:=pk_size h m (by omega);by_cases hqm:q=m
  ·subst hqm;have hok:=live_ok h (liveS_at (L:=L) (m:=q) (by omega));have hc:=cut_size hok;rw [byte_right (by omega) (by rw [hc];omega),hsz,show pkN L q+b-pkN L q=b by omega];obtain ⟨_,a1,a2,a3⟩:=hok;unfold cutOf;rw [byte_extract (by omega) (by omega)]
  ·have h1:=pkN_next L (m:=q) (by omega);have h2:=pkN_mono L (q+1) (m-(q+1)) (by omega);rw [show q+1+(m-(q+1))=m by omega] at h2;rw [byte_left (by omega)];exact pk_bytes h m q (by omega) (by omega) b hb
theorem pk_find {L:List Cl}:∀(m p:Nat),m≤(liveS L).length→p<pkN L m→∃q,q<m∧pkN L q≤p∧p<pkN L q+(clOf L ((liveS L).getD q 0)).len.toNat
 |0,p,_,h=>by simp [pkN] at h
 |m+1,p,hm,h=>by
  by_cases hp:p<pkN L m
  ·obtain ⟨q,h1,h2,h3⟩:=pk_find m p (by omega) hp;exact ⟨q,by omega,h2,h3⟩
  ·have:=pkN_next L (m:=m) (by omega);exact ⟨m,by omega,by omega,by omega⟩
theorem lens_ext:∀(L M:List Cl),L.length=M.length→(∀i,(L.getD i cl0).len=(M.getD i cl0).len)→lens L=lens M
 | [],[],_,_=>rfl
 | [],_::_,h,_=>by simp at h
 |_::_,[],h,_=>by simp at h
 |a::r,b::r',h,he=>by
  have h0:=he 0;have:=lens_ext r r' (by simpa using h) (fun i=>by have:=he (i+1);simpa using this);simp only [lens,List.map_cons,List.sum_cons] at this ⊢;simp at h0;omega
theorem sum_nat (f:Nat→Int):∀l:List Nat,(∀i∈l,0≤f i)→(((l.map fun i=> (f i).toNat).sum:Nat):Int)=(l.map f).sum
 | [],_=>rfl
 |i::r,h=>by
  have h0:=h i (by simp);have:=sum_nat f r (fun j hj=>h j (by simp [hj]));simp only [List.map_cons,List.sum_cons];omega
theorem pkN_lens {n:Nat} {L:List Cl} {t:Nat→Bool} (h:Right n L t):((pkN L (liveS L).length:Nat):Int)=lens L:=by
 have hP:=liveC_perm L [];rw [List.nil_append] at hP;have e1:lens (liveC [] L)=lens L:=by
  rw [←lens_live n L h.all];exact sum_perm (hP.map _)
 rw [←e1,live_all L];unfold pkN lens;rw [List.take_length,sum_nat (fun i=> (clOf L i).len) _ (fun i hi=>by have:=(live_ok h hi).2.1;omega),List.map_map];rfl
theorem tile (T:Nat):∀(S:List Cl) (e:Nat),Ahead T S e→e+(S.map fun c=>c.len.toNat).sum=T→∀q,q<S.length→(S.getD q cl0).pos=((e+((S.take q).map fun c=>c.len.toNat).sum:Nat):Int)
 | [],_,_,_,q,hq=>by simp at hq
 |c::r,e,h,hs,q,hq=>by
  have f:=h.facts;have hn:=sum_ahead T r _ h.next;rw [List.map_cons,List.sum_cons] at hs;have hpos:c.pos=e:=by omega
  cases q with
  |zero=>simpa using hpos
  |succ q=>
   have ih:=tile T r _ h.next (by omega) q (by simpa using hq);rw [List.getD_cons_succ,ih,List.take_succ_cons,List.map_cons,List.sum_cons];omega
theorem extract_join {s:ByteArray} {a b:Nat} (h1:a≤b) (h2:b≤s.size):s.extract 0 a++s.extract a b=s.extract 0 b:=by
 have z1:(s.extract 0 a).size=a:=by rw [ByteArray.size_extract];omega
 have z2:(s.extract a b).size=b-a:=by rw [ByteArray.size_extract];omega
 have z3:(s.extract 0 b).size=b:=by rw [ByteArray.size_extract];omega
 refine ext_bytes (by rw [ByteArray.size_append];omega) (fun i hi=>?_);rw [ByteArray.size_append,z1,z2] at hi;rw [byte_extract (s:=s) (P:=0) (Q:=b) h2 (by omega)];by_cases hia:i<a
 ·rw [byte_left (by omega),byte_extract (by omega) (by omega)]
 ·rw [byte_right (by omega) (by omega),byte_extract (by omega) (by omega),z1];congr 1;omega
theorem pack_yes {s:ByteArray} {L:List Cl} (h:heapB s L=true):packD s L=(pkSt s L (liveS L).length).2++dataZ (s.size-(pkSt s L (liveS L).length).2.size):=by
 unfold packD;rw [if_pos h]
structure PackLaw (s:ByteArray) (L:List Cl):Prop where
 len:(packL s L).length=L.length
 rest:∀i:Nat,i<L.length→getB (packD s L) (packL s L) i (L.getD i cl0).gen=getB s L i (L.getD i cl0).gen
 right:heapB (packD s L) (packL s L)=true
 room:overB (fun x y=>x+y) (packD s L) (packL s L)=overB (fun x y=>x+y) s L
 gap:overB (fun x y=>max x y) (packD s L) (packL s L)=overB (fun x y=>x+y) (packD s L) (packL s L)
 again:packD (packD s L) (packL s L)=packD s L
 under:overB (fun x y=>max x y) s L≤overB (fun x y=>x+y) s L
theorem pack_law {s:ByteArray} {L:List Cl} (h:heapB s L=true):PackLaw s L:=by
 have hX:=(heap_iff s L).1 h;obtain ⟨t,_,hr⟩:=heap_right h;have eD:packD s L=(pkSt s L (liveS L).length).2++dataZ (s.size-(pkSt s L (liveS L).length).2.size):=by unfold packD;rw [if_pos h]
 have eL:packL s L=(pkSt s L (liveS L).length).1:=by unfold packL;rw [if_pos h]
 have hps:=pk_size hr (liveS L).length (Nat.le_refl _);have hT:=pk_le hr (Nat.le_refl (liveS L).length);have hll:(pkSt s L (liveS L).length).1.length=L.length:=pk_len s L _ (Nat.le_refl _);have hTl:=pkN_lens hr;rw [hps] at eD;have hDs:(packD s L).size=s.size:=by
  rw [eD,ByteArray.size_append,dataZ_size,hps];omega
 have hin:∀i,i∈liveS L→∃q,q<(liveS L).length∧(liveS L).getD q 0=i∧(packL s L).getD i cl0=⟨(pkN L q:Nat),(L.getD i cl0).len,(L.getD i cl0).gen,true⟩∧pkN L q+(L.getD i cl0).len.toNat≤pkN L (liveS L).length∧(L.getD i cl0).live=true∧1≤(L.getD i cl0).len:=fun i hi=>by
  obtain ⟨q,hq,e⟩:=liveS_idx hi;have hok:=live_ok hr hi;have:=pk_cell hr (liveS L).length q (Nat.le_refl _) hq;rw [e] at this;have h1:=pkN_next L (m:=q) hq;have h2:=pkN_mono L (q+1) ((liveS L).length-(q+1)) (by omega);rw [show q+1+((liveS L).length-(q+1))=(liveS L).length by omega] at h2;rw [e] at h1;refine ⟨q,hq,e,?_,?_,hok.1,hok.2.1⟩
  ·rw [eL,this];have:(clOf L i).live=true:=hok.1;rw [this];rfl
  ·have e3:(clOf L i).len.toNat=(L.getD i cl0).len.toNat:=rfl;omega
 have hout:∀i,i ∉ liveS L→(packL s L).getD i cl0=L.getD i cl0:=fun i hi=>by
  rw [eL];exact pk_other s L hi _ (Nat.le_refl _)
 have hlv:∀i,(packL s L).getD i cl0=⟨((packL s L).getD i cl0).pos,(L.getD i cl0).len,(L.getD i cl0).gen,(L.getD i cl0).live⟩:=fun i=>by
  by_cases hi:i∈liveS L
  ·obtain ⟨q,_,_,e,_,e2,_⟩:=hin i hi;rw [e,e2]
  ·rw [hout i hi]
 have hmem:∀i,i<L.length→((packL s L).getD i cl0).live=true→i∈liveS L:=fun i hi hl=>by
  rw [hlv i] at hl;exact liveS_mem hi hl
 have hR:RightX (packD s L) (packL s L):=by
  refine ⟨by rw [hDs];exact hX.small,by rw [eL,hll];exact hX.few,fun i hi=>?_,fun i j hi hj hij li lj=>?_,fun p hp hc=>?_⟩
  ·rw [eL,hll] at hi;have hadm:=hX.adm i hi;rw [hDs];by_cases hm:i∈liveS L
   ·obtain ⟨q,hq,e,e1,e2,e3,e4⟩:=hin i hm;rw [e1];unfold admitB at hadm ⊢;rw [Bool.and_eq_true] at hadm ⊢;refine ⟨hadm.1,?_⟩;simp;have e5:(L.getD i cl0)=(L[i]?.getD cl0):=List.getD_eq_getElem?_getD;rw [←e5];omega
   ·rw [hout i hm];exact hadm
  ·rw [eL,hll] at hi hj;obtain ⟨q,hq,e,e1,e2,e3,e4⟩:=hin i (hmem i hi li);obtain ⟨q',hq',e',e1',e2',e3',e4'⟩:=hin j (hmem j hj lj);have hne:q≠q':=fun hh=>hij (by rw [←e,←e',hh]);rw [e1,e1'];unfold Disj;simp only;have n1:=pkN_next L (m:=q) hq;have n2:=pkN_next L (m:=q') hq';rw [e] at n1;rw [e'] at n2;have c1:(clOf L i).len.toNat=(L.getD i cl0).len.toNat:=rfl;have c2:(clOf L j).len.toNat=(L.getD j cl0).len.toNat:=rfl;rcases Nat.lt_or_gt_of_ne hne with hlt|hlt
   ·have m1:=pkN_mono L (q+1) (q'-(q+1)) (by omega);rw [show q+1+(q'-(q+1))=q' by omega] at m1;left;omega
   ·have m1:=pkN_mono L (q'+1) (q-(q'+1)) (by omega);rw [show q'+1+(q-(q'+1))=q by omega] at m1;right;omega
  ·by_cases hpT:p<pkN L (liveS L).length
   ·exfalso;obtain ⟨q,hq,h1,h2⟩:=pk_find _ p (Nat.le_refl _) hpT;have hm:=liveS_at (L:=L) hq;obtain ⟨q',hq',e',e1',e2',e3',e4'⟩:=hin _ hm;have hqq:q'=q:=by
     rcases Nat.lt_trichotomy q' q with hx|hx|hx
     ·exact absurd e' (liveS_ne hx hq)
     ·exact hx
     ·exact absurd e'.symm (liveS_ne hx hq')
    subst hqq;have hlt:=liveS_lt L _ hm;have:=hc _ (by rw [eL,hll];exact hlt);rw [Bool.eq_false_iff] at this;apply this;rw [e1',covers_iff _ _ rfl];have c1:(clOf L ((liveS L).getD q' 0)).len.toNat=(L.getD ((liveS L).getD q' 0) cl0).len.toNat:=rfl;simp only;omega
   ·rw [hDs] at hp;rw [eD,byte_right (by omega) (by rw [dataZ_size];omega)];exact byte_zero _ _
 have hbyte:∀i,i∈liveS L→∀b,b<(L.getD i cl0).len.toNat→byteAt (packD s L) (((packL s L).getD i cl0).pos.toNat+b)=byteAt s ((L.getD i cl0).pos.toNat+b):=fun i hi b hb=>by
  obtain ⟨q,hq,e,e1,e2,e3,e4⟩:=hin i hi;rw [e1];simp only [Int.toNat_natCast];rw [eD,byte_left (by omega)];have:=pk_bytes hr (liveS L).length q (Nat.le_refl _) hq b (by rw [e];exact hb);rw [e] at this;exact this
 have hlens:lens (packL s L)=lens L:=lens_ext _ _ (by rw [eL,hll]) (fun i=>by rw [hlv i]);have hroom:overB (fun x y=>x+y) (packD s L) (packL s L)=overB (fun x y=>x+y) s L:=by rw [room_of hR,room_of hX,hDs,hlens]
 have hb':=(heap_iff _ _).2 hR;refine ⟨by rw [eL,hll],fun i hi=>?_,hb',hroom,?_,?_,gap_le_room h⟩
 ·refine (get_same hX hR hi (by rw [eL,hll];exact hi) (by rw [hlv i]) (by rw [hlv i]) (by rw [hlv i]) (fun hl j hj=>?_)).symm;exact (hbyte i (liveS_mem hi hl) j hj).symm
 ·apply Int.le_antisymm (gap_le_room hb');obtain ⟨t',hr',g1,_⟩:=gap_val hb';rw [room_of hR,hlens,hDs,←hTl,g1];have hmax:=le_max (scanM t' (packD s L).size).1 0;by_cases hz:s.size=pkN L (liveS L).length
  ·have:(0:Int)≤maxG (scanM t' (packD s L).size).1:=hmax.2;omega
  ·obtain ⟨g,hg,hw⟩:=scan_found (t:=t') (P:=pkN L (liveS L).length) (W:=s.size-pkN L (liveS L).length) (n:=(packD s L).size) (by omega) (by omega) (fun p hp1 hp2=> (taken_no hr' p).2 (fun k hk=>by
    rw [eL,hll] at hk;rw [Bool.eq_false_iff];intro hc;have hl:((packL s L).getD k cl0).live=true:=by
     unfold covers at hc;rw [Bool.and_eq_true] at hc;exact hc.1
    obtain ⟨q,hq,e,e1,e2,e3,e4⟩:=hin k (hmem k hk hl);have:=(covers_iff _ _ hl).1 hc;rw [e1] at this;simp only at this;omega))
   have h2:(g.2:Int)≤maxG (scanM t' (packD s L).size).1:=hmax.1 g hg;omega
 ·obtain ⟨t',_,hr'⟩:=heap_right hb';have hTl':=pkN_lens hr';rw [hlens,←hTl] at hTl';have hTT:pkN (packL s L) (liveS (packL s L)).length=pkN L (liveS L).length:=by omega
  have hah:Ahead (pkN L (liveS L).length) (liveC [] (packL s L)) 0:=by
   refine ⟨by omega,fun c hc=>?_,hr'.sorted,hr'.disj,hr'.low⟩;rw [live_all] at hc;obtain ⟨i,hi,rfl⟩:=List.mem_map.1 hc;have hok:=live_ok hr' hi;have hlt:=liveS_lt _ i hi;rw [eL,hll] at hlt;obtain ⟨q,hq,e,e1,e2,e3,e4⟩:=hin i (hmem i hlt hok.1);have e5:clOf (packL s L) i=(packL s L).getD i cl0:=rfl;rw [e5,e1];refine ⟨rfl,e4,by simp only;omega,by simp only;omega⟩
  have hsum:∀q,q≤(liveS (packL s L)).length→(((liveC [] (packL s L)).take q).map fun c=>c.len.toNat).sum=pkN (packL s L) q:=fun q hq=>by
   rw [live_all];unfold pkN;rw [←List.map_take,List.map_map];rfl
  have hlen:(liveC [] (packL s L)).length=(liveS (packL s L)).length:=by rw [live_all,List.length_map];rfl
  have htile:=tile _ _ 0 hah (by
   have:=hsum (liveS (packL s L)).length (Nat.le_refl _);rw [←hlen,List.take_length,hlen] at this;omega)
  have hpos:∀q,q<(liveS (packL s L)).length→(clOf (packL s L) ((liveS (packL s L)).getD q 0)).pos=(pkN (packL s L) q:Nat):=fun q hq=>by
   have:=htile q (by rw [hlen];exact hq);rw [hsum q (by omega),Nat.zero_add] at this;rw [←this,live_all];have e6:(stI (packL s L) (packL s L).length)[q]?=some ((liveS (packL s L)).getD q 0):=by
    rw [List.getD_eq_getElem?_getD];show (liveS (packL s L))[q]?=_;rw [List.getElem?_eq_getElem hq];rfl
   generalize (liveS (packL s L)).getD q 0=z at*;rw [List.getD_eq_getElem?_getD,List.getElem?_map,e6];rfl
  have hst:∀m,m≤(liveS (packL s L)).length→(pkSt (packD s L) (packL s L) m).2=(packD s L).extract 0 (pkN (packL s L) m):=fun m=>by
   induction m with
   |zero=>
    intro _;refine ext_bytes ?_ (fun i hi=>?_)
    ·rw [ByteArray.size_extract];show 0=min (pkN (packL s L) 0) _-0;simp [pkN]
    ·exact absurd hi (Nat.not_lt_zero i)
   |succ m ih=>
    intro hm;have hok:=live_ok hr' (liveS_at (L:=packL s L) (m:=m) (by omega));have hp:=hpos m (by omega);rw [pkSt_next _ _ (by omega),pkN_next _ (by omega)];show _++cutOf _ _=_;rw [ih (by omega)];unfold cutOf;obtain ⟨_,a1,a2,a3⟩:=hok;rw [hp];simp only [Int.toNat_natCast];exact extract_join (by omega) (by omega)
  have eAll:=pack_yes hb';rw [eAll,hst _ (Nat.le_refl _),hTT];have z1:((packD s L).extract 0 (pkN L (liveS L).length)).size=pkN L (liveS L).length:=by rw [ByteArray.size_extract];omega
  rw [z1];refine ext_bytes (by rw [ByteArray.size_append,z1,dataZ_size,hDs];omega) (fun i hi=>?_);rw [ByteArray.size_append,z1,dataZ_size] at hi;by_cases hiT:i<pkN L (liveS L).length
  ·rw [byte_left (by omega),byte_extract (by omega) (by omega),Nat.zero_add]
  ·rw [byte_right (by omega) (by rw [dataZ_size];omega),byte_zero,eD,byte_right (by omega) (by rw [dataZ_size];omega),byte_zero]
end Go.Proofs.YtjpeglkkkllagaaGreatDoor.Hp
