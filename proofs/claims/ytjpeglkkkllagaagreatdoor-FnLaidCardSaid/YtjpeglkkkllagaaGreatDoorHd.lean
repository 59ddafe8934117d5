import Derived.Test.YtjpeglkkkllagaaGreatDoorC9
import Derived.Test.YtjpeglkkkllagaaGreatDoorHc
set_option maxHeartbeats 4000000
set_option maxRecDepth 100000
namespace Go.Proofs.YtjpeglkkkllagaaGreatDoor
open Go.RowKit Go.Sort
open Kk (texL_len)
def enL (x:En):List Value:=[.string x.name,.int .i64 x.rc,.int .i64 x.rg,.int .i64 x.due]
def flatE (E:List En):List Value:=E.flatMap enL
abbrev OwnE (w:World) (B:Nat) (v:Value) (E:List En):Prop:=w.ownsRow B 67 4 v E.length (flatE E)
theorem flatE_cons (x:En) (E:List En):flatE (x::E)=enL x++flatE E:=rfl
theorem flatE_at:∀(E:List En) (i j:Nat),i<E.length→j<4→(flatE E)[i*4+j]?=(enL (E.getD i en0))[j]?
 | [],i,j,h,_=>by simp at h
 |x::E,0,j,_,hj=>by
  rw [flatE_cons,List.getElem?_append_left (by simp [enL];omega)];simp
 |x::E,i+1,j,h,hj=>by
  rw [flatE_cons,List.getElem?_append_right (by simp [enL];omega)];have:=flatE_at E i j (by simpa using h) hj;rw [show (i+1)*4+j-(enL x).length=i*4+j from by simp [enL];omega,this];simp
theorem app_ent {w:World} {B:Nat} {V:Value} {E:List En} (x:En) (h:OwnE w B V E) (hn:E.length≤1048576) (hB:B≤w.heap.size):
  ∃v' w',(Builtin.append_ #[30,30] 30 #[V,.slice (some ⟨w.heap.size,0,none⟩) 1 1]).run Tryz.prog (w.alloc (.cells #[.string x.name,.int .i64 x.rc,.int .i64 x.rg,.int .i64 x.due] 67))= .ok v' w'∧OwnE w' B v' (E++ [x])∧Below B w w'∧w.grownBy w' V.ownBlock:=by
 obtain ⟨i0,hi,hz0,hz1,hz2⟩:=info_parts info39;have hbl:Below w.heap.size w (w.alloc (.cells #[.string x.name,.int .i64 x.rc,.int .i64 x.rg,.int .i64 x.due] 67)):=(Below.refl _ w).alloc (Nat.le_refl _) _;have oA:=zaf h hbl
 obtain ⟨v',w',hrun,hown,hg,_,hblk⟩:=run_append_own_at (P:=Tryz.prog) (w.alloc (.cells #[.string x.name,.int .i64 x.rc,.int .i64 x.rg,.int .i64 x.due] 67)) B 30 30 67 i0 _ 4 40 Tryz.underlying30 hi hz0 hz1 hz2 rfl (by decide) V E.length (flatE E) oA ⟨w.heap.size,0,none⟩ 1 1 [.string x.name,.int .i64 x.rc,.int .i64 x.rg,.int .i64 x.due] rfl (fun j u hj=>by
  rw [Addr.add_lit,Nat.zero_add];exact ((RowAt.new w 67 #[.string x.name,.int .i64 x.rc,.int .i64 x.rg,.int .i64 x.due]).cell j).trans (by simpa using hj)) (fun u hu=>by simp at hu;rcases hu with rfl|rfl|rfl|rfl<;>rfl) (by unfold maxLen;omega) (by omega) (by simp;omega)
 refine ⟨v',w',hrun,?_,below_own (Below.refl _ w) hB h hg,?_⟩
 ·have e:flatE (E++ [x])=flatE E++ [.string x.name,.int .i64 x.rc,.int .i64 x.rg,.int .i64 x.due]:=by unfold flatE;rw [List.flatMap_append];rfl
  unfold OwnE;rw [List.length_append,e];exact hown
 ·have hs:(w.alloc (.cells #[.string x.name,.int .i64 x.rc,.int .i64 x.rg,.int .i64 x.due] 67)).heap.size=w.heap.size+1:=by simp
  have h2:=hg.size;exact ⟨hg.os,hg.tape,hg.output,by omega,fun k hk hr=> (hg.block k (by omega) hr).trans (Below.heap_alloc _ _ _ (by omega))⟩
theorem ownE_in {w:World} {B:Nat} {v:Value} {E:List En} (h:OwnE w B v E):∃a A c,v= .slice a E.length c∧EntsIn w a A 0 E.length E:=by
 obtain ⟨hxl,⟨rfl,h0⟩|⟨g,cap,cur,rfl,hg,hh,hcap,hmax,hcs,htk⟩⟩:=h
 ·rw [h0];exact ⟨none,0,0,rfl,⟨h0,fun h=>by omega,fun h=>by omega,fun i hi=>by omega⟩⟩
 ·refine ⟨some ⟨g,0,none⟩,g,cap,rfl,⟨rfl,fun _=>rfl,fun _=> (Array.getElem?_eq_some_iff.1 hh).1,fun i hi=>?_⟩⟩;have hr:RowAt w g 67 cur:=hh;have e:∀j,j<4→w.cell? ⟨g,0+i*4+j,none⟩=(enL (E.getD i en0))[j]?:=fun j hj=>by
   rw [Nat.zero_add,hr.cell,←flatE_at E i j hi hj,←htk,List.getElem?_take,if_pos (by omega),Array.getElem?_toList]
  exact ⟨e 0 (by omega),e 1 (by omega),e 2 (by omega),e 3 (by omega)⟩
theorem dbOk_key {ks:List Ke} (h:dbOkB ks=true):ks.length≤20∧∀k∈ks,keyB k=true:=by
 unfold dbOkB at h;rw [Bool.and_eq_true,Bool.and_eq_true,List.all_eq_true] at h;refine ⟨of_decide_eq_true h.1,fun k hk=>?_⟩;obtain ⟨i,hi,e⟩:=List.getElem_of_mem hk;have:=(List.all_eq_true.1 h.2.2) i (List.mem_range.2 hi);rwa [List.getD_eq_getElem?_getD,List.getElem?_eq_getElem hi,Option.getD_some,e] at this
theorem vb_size (v:Vl):(⟨(zdj v).toArray⟩:ByteArray).size≤21000:=by
 rw [size_mk];unfold zdj;split
 ·rename_i h;have s:=small_of_ok h;rw [List.length_cons];split
  ·have h3:=twoS_size v.text;have h4:=s.text;have h5:oneT v.text=twoT v.text++v.text.data.toList:=rfl;have h6:=encT_len [v.text] (by simpa using h4);have h7:encT [v.text]=oneT v.text:=by simp [encT]
   rw [h7] at h6;simp at h6;omega
  ·have h1:=encT_len (vtexts v) (fun t ht=>by
    unfold vtexts at ht;rcases List.mem_append.1 ht with h1|h1
    ·exact s.items t h1
    ·rcases List.mem_append.1 h1 with h2|h2
     ·exact flatP_short s.pairs t h2
     ·exact texL_short s.ranks t h2)
   have h2:(vtexts v).length=v.items.length+(2*v.pairs.length+2*v.ranks.length):=by
    unfold vtexts;rw [List.length_append,List.length_append,flatP_len,texL_len]
   have:=s.ni;have:=s.np;have:=s.nr;omega
 ·exact Nat.zero_le _
end Go.Proofs.YtjpeglkkkllagaaGreatDoor
namespace Go.Proofs.YtjpeglkkkllagaaGreatDoor.Hp
open Go.RowKit Go.Sort
structure FitH (s:ByteArray) (L:List Cl):Prop where
 size:s.size≤130000
 len:L.length≤41
 fit:∀i,i<L.length→Fit (L.getD i cl0)
theorem fit_nil:FitH ⟨#[]⟩ []:=⟨by decide,by decide,fun i hi=>by simp at hi⟩
theorem getD_set' (L:List Cl) (i j:Nat) (c:Cl) (h:j<L.length):(L.set i c).getD j cl0=if i=j then c else L.getD j cl0:=by
 rw [List.getD_eq_getElem?_getD,List.getD_eq_getElem?_getD,List.getElem?_set];split
 ·rename_i e;subst e;rw [if_pos h];rfl
 ·rfl
theorem put_pos {s:ByteArray} {L:List Cl} {x:ByteArray} (h:putOk s L x=true):putPos s L x≤3000∧heapB s L=true∧x.size≤3000:=by
 unfold putOk at h;simp only [Bool.and_eq_true,decide_eq_true_eq] at h;obtain ⟨⟨⟨h1,h2⟩,h3⟩,h4⟩:=h;obtain ⟨t,_,hR⟩:=heap_right h1;obtain ⟨hs,_⟩:=heap_small h1;have e:=put_at (want:=x.size) hR (by omega);have r:=first_room x.size s.size _ (scan_room t s.size).1 (by rw [←e];exact h3);unfold putPos;rw [e];rw [e] at h3;exact ⟨by omega,h1,by omega⟩
theorem data_size (s:ByteArray) (p:Nat) (x:ByteArray):(putData s p x).size≤s.size+x.size+s.size:=by
 unfold putData;rw [ByteArray.size_append,ByteArray.size_append,ByteArray.size_extract,ByteArray.size_extract];omega
theorem put_fit {s:ByteArray} {L:List Cl} (h:FitH s L) (x:ByteArray):FitH (putD s L x) (putL s L x):=by
 unfold putD putL;cases hp:putOk s L x with
 |false=>exact fit_nil
 |true=>
  obtain ⟨h1,h2,h3⟩:=put_pos hp;obtain ⟨h4,h5⟩:=heap_small h2;have h6:=room_gen h2;rw [if_pos rfl,if_pos rfl];refine ⟨by have:=data_size s (putPos s L x) x;omega,?_,fun i hi=>?_⟩
  ·unfold putCells roomC;rw [List.length_set];split
   ·simp;omega
   ·omega
  ·unfold putCells at hi ⊢;rw [List.length_set] at hi;rw [getD_set' _ _ _ _ hi];split
   ·exact ⟨⟨by show (-9223372036854775808:Int)≤(putPos s L x:Int);omega,by show (putPos s L x:Int)≤9223372036854775807;omega⟩,⟨by show (-9223372036854775808:Int)≤(x.size:Int);omega,by show (x.size:Int)≤9223372036854775807;omega⟩,⟨by dsimp only;omega,by dsimp only;omega⟩⟩
   ·unfold roomC at hi ⊢;split
    ·rename_i e;rw [if_pos e] at hi;by_cases hl:i<L.length
     ·have:=h.fit i hl;rw [List.getD_eq_getElem?_getD] at this ⊢;rwa [List.getElem?_append_left hl]
     ·rw [List.getD_eq_getElem?_getD,List.getElem?_append_right (by omega)];have:i-L.length=0:=by simp at hi;omega
      rw [this];exact ⟨⟨by decide,by decide⟩,⟨by decide,by decide⟩,⟨by decide,by decide⟩⟩
    ·rename_i e;rw [if_neg e] at hi;exact h.fit i hi
theorem new_fit (n:Int):FitH (newM n).1 []:=by
 unfold newM;split
 ·exact ⟨by rw [dataZ_size];omega,by decide,fun i hi=>by simp at hi⟩
 ·exact fit_nil
end Go.Proofs.YtjpeglkkkllagaaGreatDoor.Hp
