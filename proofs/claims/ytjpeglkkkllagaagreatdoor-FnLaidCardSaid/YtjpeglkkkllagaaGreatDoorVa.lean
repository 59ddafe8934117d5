import Derived.Test.YtjpeglkkkllagaaGreatDoorKa
import Derived.Test.YtjpeglkkkllagaaGreatDoorIv
import Derived.Lib.ItoaLen
import Derived.Deep.RegionHeldLaw
import Derived.Maps.AppendAt
import Derived.Lib.EndianBits
import Derived.Lib.IndexBytes
import Derived.Lib.SmallJoins
import Derived.Deep.CutBlock
import Derived.Deep.RegionLaw
set_option maxHeartbeats 4000000
set_option maxRecDepth 100000
namespace Go.Proofs.YtjpeglkkkllagaaGreatDoor.Kk
open Go.RowKit Go.Sort
abbrev Tab (w:World):Prop:=Lib.TabIs Tryz.prog w "internal/strconv.uint64pow10" .u64 Lib.pow10Tab
theorem gPow:∃g,Tryz.prog.globalNamed "internal/strconv.uint64pow10" =some g∧g<4:=⟨3,by kernel_rfl,by decide⟩
theorem Tab.below {B:Nat} {w w':World} (h:Tab w) (hb:Below B w w') (hB:4≤B):Tab w':=by
 obtain ⟨g,hg,hl⟩:=gPow;exact var?_below hb hg (by omega) h
def fitS (s:Int):Prop:= -9223372036854775808≤s∧s≤9223372036854775807
def FitL (L:List Rk):Prop:=∀x∈L,fitS x.s
def decS (s:Int):ByteArray:=⟨(Lib.itoa s).toArray⟩
def texR (x:Rk):List ByteArray:=[x.m,decS x.s]
def texL (L:List Rk):List ByteArray:=L.flatMap texR
def strV (T:List ByteArray):List Value:=T.map Value.string
theorem decS_len {s:Int} (h:fitS s):(decS s).size≤21:=by
 show (Lib.itoa s).toArray.size≤21;rw [List.size_toArray];exact Lib.itoa_length_le s h.1 h.2
theorem texL_len (L:List Rk):(texL L).length=2*L.length:=by
 unfold texL;induction L with
 |nil=>rfl
 |cons x l ih=>rw [List.flatMap_cons,List.length_append,ih,List.length_cons];show 2+2*l.length=_;omega
theorem texL_next (L:List Rk) (k:Nat) (h:k<L.length):texL (L.take (k+1))=texL (L.take k)++texR (L.getD k rk0):=by
 unfold texL;rw [List.take_succ_eq_append_getElem h,List.flatMap_append,List.getD_eq_getElem?_getD,List.getElem?_eq_getElem h,Option.getD_some];simp
theorem fit_at {L:List Rk} (h:FitL L) (k:Nat) (hk:k<L.length):fitS (L.getD k rk0).s:=by
 rw [List.getD_eq_getElem?_getD,List.getElem?_eq_getElem hk,Option.getD_some];exact h _ (List.getElem_mem hk)
theorem range_all {α:Type} (T:List α) (d:α) (p:α→Bool):((List.range T.length).all fun i=>p (T.getD i d))=T.all p:=by
 rw [Bool.eq_iff_iff,List.all_eq_true,List.all_eq_true];constructor
 ·intro h x hx;obtain ⟨i,hi,rfl⟩:=List.getElem_of_mem hx;have:=h i (List.mem_range.2 hi);rwa [List.getD_eq_getElem?_getD,List.getElem?_eq_getElem hi] at this
 ·intro h i hi;have hi':=List.mem_range.1 hi;rw [List.getD_eq_getElem?_getD,List.getElem?_eq_getElem hi',Option.getD_some];exact h _ (List.getElem_mem hi')
theorem short_bu {L:List Rk} (h:FitL L):(List.range (texL L).length).all (shortAt (texL L))=(List.range L.length).all (buAt L):=by
 have e1:(List.range (texL L).length).all (shortAt (texL L))=(texL L).all fun t=>decide (t.size≤200):=range_all (texL L) ByteArray.empty fun t=>decide (t.size≤200);have e2:(List.range L.length).all (buAt L)=L.all fun x=>decide (x.m.size≤200):=range_all L rk0 fun x=>decide (x.m.size≤200);rw [e1,e2];clear e1 e2;induction L with
 |nil=>rfl
 |cons x l ih=>
  have hx:=decS_len (h x (by simp));have e:texL (x::l)=x.m::decS x.s::texL l:=rfl;rw [e,List.all_cons,List.all_cons,List.all_cons,ih (fun y hy=>h y (by simp [hy])),decide_eq_true (p:=(decS x.s).size≤200) (by omega),Bool.true_and]
theorem info9:(Tryz.prog.info? 9).map (fun i=> (i.zero,i.size,i.bytes))=some (some (.string ⟨#[]⟩),1,16):=by kernel_rfl
theorem format_any (s:Int) (w:World) (h:fitS s) (ht:Tab w):Calls Tryz.prog 142 #[.int .i64 s,.int .i64 10] w fun e w'=>e= .returned (.string (decS s))∧Below w.heap.size w w':=
 (Tryz.strconv_FormatInt_10 s h.1 h.2 w ht).mono fun e w' ⟨he,k,os,hw⟩=>⟨he,by
  rw [hw];exact ⟨rfl,rfl,rfl,by show w.heap.size≤(w.heap++os).size;rw [Array.size_append];omega,fun j hj=>by show (w.heap++os)[j]?=w.heap[j]?;exact Array.getElem?_append_left (by omega)⟩⟩
theorem zba {P:Program} {ops:Array Oper} {o:Oper} {a:Act} {w w':World} {K:Act→World→Prop} {Q:Exit→Act→World→Prop} {E:Prop} (hg:o.guard=none) (s x:Operand) (t:TypeId)
  (hop:o.op=Op.call { callee:=Callee.builtin Builtin.append,args:= #[s,x],argTypes:= #[t,t] }) {v y v':Value} (hs:a.eval s=v) (hx:a.eval x=y) (hr:(Builtin.append_ #[t,t] o.type #[v,y]).run P w= .ok v' w')
  (hK:K (a.put o.dst v') w'):if Region.wanted o (yielded ops a.tmps)=true then Oper.wp P o a w K Q else E:=by
 have hw:Region.wanted o (yielded ops a.tmps)=true:=by simp [Region.wanted,hg]
 rw [if_pos hw];unfold Oper.wp;simp [execOp,hop,resolve,invoke,builtin,hs,hx,hr,Result.andThen];exact hK
theorem own_kept {w w':World} {B n size:Nat} {e:TypeId} {v:Value} {xs:List Value} (h:w.ownsRow B e size v n xs) (hb:Below w.heap.size w w'):w'.ownsRow B e size v n xs:=
 h.kept (row:=none) ⟨hb.os,hb.tape,hb.output,hb.size,fun k hk _=>hb.block k hk⟩ (by rcases Joins.ownsRow_forms h with ⟨rfl,_⟩|⟨g,cc,rfl⟩<;>simp [Value.ownBlock])
theorem own_below {W W':World} {B n size:Nat} {e:TypeId} {x:Value} {xs:List Value} (h:W.ownsRow B e size x n xs) (hg:W.grownBy W' x.ownBlock) (hB:B≤W.heap.size):Below B W W':=
 ⟨hg.os,hg.tape,hg.output,hg.size,fun k hk=>hg.block k (by omega) fun e=>by have:=(h.lt k e.symm).1;omega⟩
theorem app_two {w:World} {B n:Nat} {v:Value} {T:List ByteArray} (m t:ByteArray) (h:w.ownsRow B 9 1 v n (strV T)) (hn:n≤4194304) (hB:B≤w.heap.size):
  ∃v' w',(Builtin.append_ #[59,59] 59 #[v,.slice (some ⟨w.heap.size,0,none⟩) 2 2]).run Tryz.prog (w.alloc (.cells #[.string m,.string t] 9))= .ok v' w'∧w'.ownsRow B 9 1 v' (n+2) (strV (T++ [m,t]))∧Below B w w'∧(∀j,j<w.heap.size→v.ownBlock≠some j→w'.heap[j]?=w.heap[j]?):=by
 obtain ⟨i0,hi,hz0,hz1,hz2⟩:=info_parts info9;have ha:=h.alloc (.cells #[.string m,.string t] 9)
 obtain ⟨v',w',hrun,hown,hg,_⟩:=run_append_own (P:=Tryz.prog) (w.alloc (.cells #[.string m,.string t] 9)) B 59 59 9 i0 _ 1 16 Tryz.underlying59 hi hz0 hz1 hz2 rfl (by decide) v n (strV T) ha ⟨w.heap.size,0,none⟩ 2 2 [.string m,.string t] rfl (fun j u hj=>by
  rw [Addr.add_lit,Nat.zero_add];exact ((RowAt.new w 9 #[.string m,.string t]).cell j).trans (by simpa using hj)) (fun u hu=>by simp at hu;rcases hu with rfl|rfl<;>rfl) (by unfold maxLen;omega) (by omega) (by simp;omega)
 refine ⟨v',w',hrun,?_,?_,?_⟩
 ·have e:strV (T++ [m,t])=strV T++ [.string m,.string t]:=by simp [strV]
  rw [e];exact hown
 ·exact ((Below.refl _ w).alloc hB _).trans (own_below ha hg (by simp;omega))
 ·intro j hj hne;rw [hg.block j (by simp;omega) (fun e=>hne e.symm)];exact Below.heap_alloc _ _ _ hj
theorem texts_any (a:Option Addr) (b off n c:Nat) (L:List Rk) (w:World) (h:zdh w a b off n L) (hn:n≤1048577) (hf:FitL L) (ht:Tab w) (hw10:4≤w.heap.size):
    Calls Tryz.prog 201 #[.slice a n c] w fun e w'=>∃v,e= .returned v∧w'.ownsRow w.heap.size 9 1 v (texL L).length (strV (texL L))∧Below w.heap.size w w':=by
  have H:Hid (zdh w a b off n L):=h;have HL:Hid (L.length=n):=h.len;have HF:Hid (FitL L):=hf;have HT:Hid (Tab w):=ht;clear h hf ht;go_enter Tryz.func201,Tryz.ntmps201;go_wp2;go_loopw [3,8] (fun v i wr=>∃(k:Nat),k≤n∧i= .int .i64 k∧wr.ownsRow w.heap.size 9 1 v (texL (L.take k)).length (strV (texL (L.take k)))∧Below w.heap.size w wr) (fun _ i _=>n - (intOf i).toNat)
  case atStart=>exact ⟨0,by omega,rfl,⟨rfl,.inl ⟨rfl,rfl⟩⟩,Below.refl _ _⟩
  case round=>
    obtain ⟨k,hk,rfl,hown,bk⟩:=hrel;have sk:=bk.size;by_cases hlt:k < n
    · have HW:=H.out.below bk;have hy:=HW.cell k hlt;obtain rfl:=HW.addr (by omega);have d0:=hy.c0;have d1:=hy.c1;have HN:Hid (texL (L.take (k+1))=texL (L.take k)++texR (L.getD k rk0)):=texL_next L k (by rw [HL.out];exact hlt);have hfit:=fit_at HF.out k (by rw [HL.out];exact hlt);have htl:(texL (L.take k)).length≤2097154:=by rw [texL_len,List.length_take];omega
      have TB:=HT.out.below bk hw10;generalize L.getD k rk0=y at*;obtain ⟨ym,ys⟩:=y;dsimp only at d0 d1 hfit;have HN2:Hid (texL (L.take (k+1))=texL (L.take k)++ [ym,decS ys]):=HN.out;generalize texL (L.take k)=T at*;clear HW hy HN;have r0:=RowAt.new wr 111 #[.string ym,.int .i64 ys];have b1:Below w.heap.size w (wr.alloc (.cells #[.string ym,.int .i64 ys] 111)):=bk.alloc sk _;have b01:Below wr.heap.size wr (wr.alloc (.cells #[.string ym,.int .i64 ys] 111)):=(Below.refl _ wr).alloc (Nat.le_refl _) _;have o1:=own_kept hown b01;have T1:=TB.below b01 (by omega);have hs1:wr.heap.size < (wr.alloc (.cells #[.string ym,.int .i64 ys] 111)).heap.size:=by simp
      have hob:∀g,Value.ownBlock u3=some g→g < wr.heap.size:=fun g hg=> (hown.lt g hg).2;go_wp2_with fail;generalize wr.alloc (.cells #[.string ym,.int .i64 ys] 111)=W at*;have c0:=r0.cell 0;have c1:=r0.cell 1;simp only [List.getElem?_toArray,List.getElem?_cons_zero,List.getElem?_cons_succ] at c0 c1;have TD:Tab W.drew:=T1;have oD:W.drew.ownsRow w.heap.size 9 1 u3 T.length (strV T):=own_kept o1 (below_drewN (Below.refl _ W) 1);clear hown TB T1 o1 d0 d1;go_region_held_law (fun W'=>W'.cell? ⟨wr.heap.size,0,none⟩=some (.string ym)∧W'.cell? ⟨wr.heap.size,1,none⟩=some (.int .i64 ys))
        (first | exact ⟨c0,c1⟩ | exact S2 | exact S3 | exact S4)
        (first
          | refine zba rfl (.tmp 12) (.tmp 18) 59 rfl (by simp [Act.eval]) (by simp [Act.eval]) hrun ?_
          | (go_simp;go_at_call 142;refine (format_any ys _ hfit TD).mono ?_;rintro e w2 ⟨rfl,b2⟩;have z2:W.heap.size≤w2.heap.size:=b2.size;have S2:w2.cell? ⟨wr.heap.size,0,none⟩=some (.string ym)∧w2.cell? ⟨wr.heap.size,1,none⟩=some (.int .i64 ys):=⟨(b2.cell (p:=⟨wr.heap.size,0,none⟩) hs1).trans c0,(b2.cell (p:=⟨wr.heap.size,1,none⟩) hs1).trans c1⟩;have o2:=own_kept oD b2;obtain ⟨v',w3,hrun,hown',b3,hk3⟩:=app_two ym (decS ys) o2 (by omega) (by omega);have S3:(w2.alloc (.cells #[.string ym,.string (decS ys)] 9)).cell? ⟨wr.heap.size,0,none⟩=some (.string ym)∧(w2.alloc (.cells #[.string ym,.string (decS ys)] 9)).cell? ⟨wr.heap.size,1,none⟩=some (.int .i64 ys):=by
               have hbb:Below w2.heap.size w2 (w2.alloc (.cells #[.string ym,.string (decS ys)] 9)):=(Below.refl _ w2).alloc (Nat.le_refl _) _;exact ⟨(hbb.cell (p:=⟨wr.heap.size,0,none⟩) (show wr.heap.size < _ by omega)).trans S2.1,(hbb.cell (p:=⟨wr.heap.size,1,none⟩) (show wr.heap.size < _ by omega)).trans S2.2⟩
             have S4:w3.cell? ⟨wr.heap.size,0,none⟩=some (.string ym)∧w3.cell? ⟨wr.heap.size,1,none⟩=some (.int .i64 ys):=by
               have he:=hk3 wr.heap.size (by omega) (fun e=>by have:=hob _ e;omega);exact ⟨(World.cell?_of_block (w:=w2) he).trans S2.1,(World.cell?_of_block (w:=w2) he).trans S2.2⟩
             have HO:Hid (w3.ownsRow w.heap.size 9 1 v' (T.length+2) (strV (T++ [ym,decS ys]))):=hown';have b13:Below w.heap.size w w3:=((below_drewN b1 1).trans (b2.mono (show w.heap.size≤W.heap.size by omega))).trans b3;clear hown' b3 b2))
      all_goals go_wp2
      all_goals
        go_roundw
        case rel=>exact ⟨k+1,by omega,by go_num,by rw [HN2.out,List.length_append];exact HO.out,b13⟩
        case measure=>simp [intOf];omega
    · obtain rfl:k=n:=by omega
      have HE:Hid (L.take k=L):=by unfold Hid;rw [← HL.out];exact List.take_length
      rw [HE.out] at hown;have HO:Hid _:=hown;clear hown;go_wp2;go_ret;exact ⟨_,rfl,HO.out,bk⟩
theorem all_and {n:Nat} (p q:Nat→Bool):((List.range n).all fun i=>p i&&q i)=((List.range n).all p&&(List.range n).all q):=by
 rw [Bool.eq_iff_iff,Bool.and_eq_true,List.all_eq_true,List.all_eq_true,List.all_eq_true];constructor
 ·intro h;exact ⟨fun x hx=> ((Bool.and_eq_true _ _).mp (h x hx)).1,fun x hx=> ((Bool.and_eq_true _ _).mp (h x hx)).2⟩
 ·rintro ⟨h1,h2⟩ x hx;exact (Bool.and_eq_true _ _).mpr ⟨h1 x hx,h2 x hx⟩
def zeb (L:List Rk):Bool:=decide (1≤L.length)&&zec L
theorem right_eq (L:List Rk):zeb L=((decide (1≤L.length)&&decide (L.length≤20))&&((List.range L.length).all (buAt L)&&((List.range L.length).all (scAt L)&&((List.range L.length).all (riAt L)&&(List.range L.length).all (frAt L))))):=by
 unfold zeb zec;have e:(List.range L.length).all (okAt L)=((List.range L.length).all (buAt L)&&((List.range L.length).all (scAt L)&&((List.range L.length).all (riAt L)&&(List.range L.length).all (frAt L)))):=by
  show ((List.range L.length).all fun i=>buAt L i&&(scAt L i&&(riAt L i&&frAt L i)))=_;rw [all_and (buAt L),all_and (scAt L),all_and (riAt L)]
 rw [e,Bool.and_assoc]
theorem right_any (a:Option Addr) (b off n c:Nat) (L:List Rk) (w:World) (h:zdh w a b off n L) (hn:n≤1048577) (hf:FitL L) (ht:Tab w) (hw10:4≤w.heap.size):
  Calls Tryz.prog 200 #[.slice a n c] w fun e w'=>e= .returned (.bool (zeb L))∧Below w.heap.size w w':=by
 have HR:Hid (zeb L=((decide (1≤n)&&decide (n≤20))&&((List.range n).all (buAt L)&&((List.range n).all (scAt L)&&((List.range n).all (riAt L)&&(List.range n).all (frAt L)))))):=by
  have:=right_eq L;rw [h.len] at this;exact this
 have cC:=fun w=>count_any n w;have cT:=texts_any a b off n c L w h hn hf ht hw10;have hsb:=short_bu hf;rw [h.len] at hsb;have HL:Hid ((List.range (texL L).length).all (shortAt (texL L))=(List.range n).all (buAt L)):=hsb;have htl:=texL_len L;rw [h.len] at htl;have HTL:Hid ((texL L).length=2*n):=htl;clear hsb htl;have H:Hid (zdh w a b off n L):=h;clear h hf ht;generalize hb1:(decide (1≤n)&&decide (n≤20))=b1 at*;have HB1:Hid ((decide (1≤n)&&decide (n≤20))=b1):=hb1;clear hb1;cases b1 with
 |false=>
  have HE:Hid (zeb L=false):=by unfold Hid;rw [HR.out,Bool.false_and]
  clear HR cT;go_enter Tryz.func200,Tryz.ntmps200;go_wp2_with fail;refine (cC _).mono ?_;rintro e w1 ⟨rfl,rfl⟩;go_wp2;go_ret;exact ⟨zae HE.out.symm,Below.refl _ _⟩
 |true=>
  have hn20:n≤20:=by
   have:=HB1.out;simp at this;exact this.2
  have HR2:Hid (zeb L=((List.range n).all (buAt L)&&((List.range n).all (scAt L)&&((List.range n).all (riAt L)&&(List.range n).all (frAt L))))):=by unfold Hid;rw [HR.out,Bool.true_and]
  clear HR HB1;go_enter Tryz.func200,Tryz.ntmps200;go_wp2_with fail;refine (cC _).mono ?_;rintro e w0 ⟨rfl,hw0⟩;have hw1:=hw0.symm;clear hw0;subst hw1;go_wp2_with fail;refine cT.mono ?_;rintro e w2 ⟨v,rfl,hown,b2⟩;have z2:=b2.size;obtain ⟨av,cv,hv⟩:∃av cv,v= .slice av (texL L).length cv:=by
   rcases Joins.ownsRow_forms hown with ⟨h1,h2⟩|⟨A,c,h1⟩
   ·exact ⟨none,0,by rw [h2,h1]⟩
   ·exact ⟨_,_,h1⟩
  obtain ⟨A,hA⟩:∃A,0<(texL L).length→av=some ⟨A,0,none⟩:=by
   rcases Joins.ownsRow_forms hown with ⟨h1,h2⟩|⟨A,c,h1⟩
   ·exact ⟨0,fun h=>by omega⟩
   ·rw [hv] at h1;injection h1 with h1;exact ⟨A,fun _=>h1⟩
  have hcells:∀i,i<(texL L).length→w2.cell? ⟨A,i,none⟩=some (.string ((texL L).getD i ByteArray.empty)):=fun i hi=>by
   have e:=hA (by omega);subst hv;subst e
   have:=hown.cells rfl i (.string ((texL L).getD i ByteArray.empty)) (by
    rw [List.getD_eq_getElem?_getD,List.getElem?_eq_getElem hi];simp [strV,hi])
   rwa [Addr.add_lit,Nat.zero_add] at this
  have htl:(texL L).length≤40:=by have:=HTL.out;omega
  have cB:=bulks_any av A (texL L).length cv (texL L) w2 hA hcells (by omega);rw [HL.out] at cB;subst hv;clear hown hcells hA cT HTL;generalize (texL L).length=tl at*;go_wp2_with fail;refine cB.mono ?_;rintro e w3 ⟨rfl,hw3⟩;have hw4:=hw3.symm;clear hw3;subst hw4;clear cB HL;have H2:=H.out.below b2;have cS:=scores_any a b off n c L w2 H2 hn;generalize hb2:(List.range n).all (buAt L)=c2 at*;clear hb2;cases c2 with
  |false=>
   have HE:Hid (zeb L=false):=by unfold Hid;rw [HR2.out,Bool.false_and]
   clear HR2 cS H2;go_wp2;go_ret;exact ⟨zae HE.out.symm,b2⟩
  |true=>
   have HR3:Hid (zeb L=((List.range n).all (scAt L)&&((List.range n).all (riAt L)&&(List.range n).all (frAt L)))):=by unfold Hid;rw [HR2.out,Bool.true_and]
   clear HR2;go_wp2_with fail;refine cS.mono ?_;rintro e w4 ⟨rfl,b4'⟩;have b4:=b2.trans (b4'.mono z2);have z4:=b4.size;clear cS b4' H2;have H4:=H.out.below b4;have cR:=rises_any a b off n c L w4 H4 hn;generalize hb2:(List.range n).all (scAt L)=c2 at*;clear hb2;cases c2 with
   |false=>
    have HE:Hid (zeb L=false):=by unfold Hid;rw [HR3.out,Bool.false_and]
    clear HR3 cR H4;go_wp2;go_ret;exact ⟨zae HE.out.symm,b4⟩
   |true=>
    have HR4:Hid (zeb L=((List.range n).all (riAt L)&&(List.range n).all (frAt L))):=by unfold Hid;rw [HR3.out,Bool.true_and]
    clear HR3;go_wp2_with fail;refine cR.mono ?_;rintro e w5 ⟨rfl,b5'⟩;have b5:=b4.trans (b5'.mono z4);have z5:=b5.size;clear cR b5' H4;have H5:=H.out.below b5;have cD:=differ_any a b off n c L w5 H5 hn;generalize hb2:(List.range n).all (riAt L)=c2 at*;clear hb2;cases c2 with
    |false=>
     have HE:Hid (zeb L=false):=by unfold Hid;rw [HR4.out,Bool.false_and]
     clear HR4 cD H5;go_wp2;go_ret;exact ⟨zae HE.out.symm,b5⟩
    |true=>
     have HE:Hid (zeb L=(List.range n).all (frAt L)):=by unfold Hid;rw [HR4.out,Bool.true_and]
     clear HR4;go_wp2_with fail;refine cD.mono ?_;rintro e w6 ⟨rfl,b6'⟩;have b6:=b5.trans (b6'.mono z5);clear cD b6' H5;generalize (List.range n).all (frAt L)=rr at*;go_wp2;go_ret;exact ⟨zae HE.out.symm,b6⟩
end Go.Proofs.YtjpeglkkkllagaaGreatDoor.Kk
namespace Go.Proofs.YtjpeglkkkllagaaGreatDoor
open Go.Lib
open Kk (Rk rk0 texL texR decS zea zeb zec okAt scAt fitS decS_len)
def twoT (t:ByteArray):List UInt8:=[UInt8.ofNat (t.size/256),UInt8.ofNat t.size]
def oneT (t:ByteArray):List UInt8:=twoT t++t.data.toList
def encT (ts:List ByteArray):List UInt8:=ts.flatMap oneT
theorem encT_cons (t:ByteArray) (ts:List ByteArray):encT (t::ts)=oneT t++encT ts:=rfl
theorem encT_app (ts us:List ByteArray):encT (ts++us)=encT ts++encT us:=List.flatMap_append
abbrev TxR:=Option (List ByteArray×List UInt8)
def preT (t:List ByteArray):TxR→TxR
 |none=>none
 |some (ts,r)=>some (t++ts,r)
def textsF:Nat→List UInt8→TxR
 |0,l=>some ([],l)
 |n+1,l=>match l with
  | []=>some ([],[])
  | [a]=>some ([],[a])
  |a::b::l=>if l.length<256*a.toNat+b.toNat then none else preT [⟨(l.take (256*a.toNat+b.toNat)).toArray⟩] (textsF n (l.drop (256*a.toNat+b.toNat)))
theorem textsF_more:∀(n m:Nat) (l:List UInt8),l.length<n→l.length<m→textsF n l=textsF m l
 |0,_,_,h,_=>by omega
 |_,0,_,_,h=>by omega
 |n+1,m+1,[],_,_=>rfl
 |n+1,m+1,[a],_,_=>rfl
 |n+1,m+1,a::b::l,h,h2=>by
  simp only [List.length_cons] at h h2;have:=textsF_more n m (l.drop (256*a.toNat+b.toNat)) (by rw [List.length_drop];omega) (by rw [List.length_drop];omega);simp only [textsF];rw [this]
def zdi (l:List UInt8):TxR:=textsF (l.length+1) l
theorem textsM_nil:zdi []=some ([],[]):=rfl
theorem textsM_one (a:UInt8):zdi [a]=some ([],[a]):=rfl
theorem preT_preT (s t:List ByteArray) (r:TxR):preT s (preT t r)=preT (s++t) r:=by
 cases r with
 |none=>rfl
 |some q=>obtain ⟨a,b⟩:=q;simp [preT]
theorem preT_nil (r:TxR):preT [] r=r:=by
 cases r with
 |none=>rfl
 |some q=>obtain ⟨a,b⟩:=q;simp [preT]
theorem textsM_two (a b:UInt8) (l:List UInt8):zdi (a::b::l)=if l.length<256*a.toNat+b.toNat then none else preT [⟨(l.take (256*a.toNat+b.toNat)).toArray⟩] (zdi (l.drop (256*a.toNat+b.toNat))):=by
 show (if l.length<256*a.toNat+b.toNat then none else preT [⟨(l.take (256*a.toNat+b.toNat)).toArray⟩] (textsF (l.length+1+1) (l.drop (256*a.toNat+b.toNat))))=_;rw [textsF_more (l.length+1+1) ((l.drop (256*a.toNat+b.toNat)).length+1) _ (by rw [List.length_drop];omega) (by omega)];rfl
theorem textsM_enc:∀(n:Nat) (l:List UInt8) (ts:List ByteArray) (r:List UInt8),l.length≤n→zdi l=some (ts,r)→l=encT ts++r∧r.length≤1∧∀t∈ts,t.size≤65535:=by
 intro n;induction n with
 |zero=>
  intro l ts r hn h;have:l=[]:=List.eq_nil_of_length_eq_zero (by omega);subst this;rw [textsM_nil] at h;injection h with h;injection h with h1 h2;subst h1 h2;exact ⟨rfl,by simp,fun t ht=>by cases ht⟩
 |succ n ih=>
  intro l ts r hn h;match l,hn,h with
  | [],_,h=>
   rw [textsM_nil] at h;injection h with h;injection h with h1 h2;subst h1 h2;exact ⟨rfl,by simp,fun t ht=>by cases ht⟩
  | [a],_,h=>
   rw [textsM_one] at h;injection h with h;injection h with h1 h2;subst h1 h2;exact ⟨rfl,by simp,fun t ht=>by cases ht⟩
  |a::b::l,hn,h=>
   rw [textsM_two] at h;split at h
   ·cases h
   ·rename_i hlen;have ha:=a.toNat_lt;have hb:=b.toNat_lt;generalize hk:256*a.toNat+b.toNat=k at*;cases hm:zdi (l.drop k) with
    |none=>rw [hm] at h;cases h
    |some q=>
     obtain ⟨us,r'⟩:=q;rw [hm] at h;simp only [preT] at h;injection h with h;injection h with h1 h2;subst h1 h2;rw [List.length_cons,List.length_cons] at hn;obtain ⟨i1,i2,i3⟩:=ih (l.drop k) us r' (by rw [List.length_drop];omega) hm;have hs:(⟨(l.take k).toArray⟩:ByteArray).size=k:=by
      show (l.take k).toArray.size=k;simp;omega
     refine ⟨?_,i2,?_⟩
     ·rw [List.singleton_append,encT_cons,List.append_assoc,←i1];unfold oneT twoT;rw [hs];have e1:UInt8.ofNat (k/256)=a:=by
       rw [←hk,show (256*a.toNat+b.toNat)/256=a.toNat from by omega];exact UInt8.ofNat_toNat
      have e2:UInt8.ofNat k=b:=by
       apply UInt8.toNat_inj.1;rw [UInt8.toNat_ofNat',←hk];omega
      rw [e1,e2];simp
     ·intro t ht;rcases List.mem_append.1 ht with ht|ht
      ·simp at ht;subst ht;rw [hs];omega
      ·exact i3 t ht
theorem oneT_read (t:ByteArray) (h:t.size≤65535) (l:List UInt8):zdi (oneT t++l)=preT [t] (zdi l):=by
 unfold oneT twoT;rw [List.append_assoc];show zdi (UInt8.ofNat (t.size/256)::UInt8.ofNat t.size::(t.data.toList++l))=_;have hsz:t.data.toList.length=t.size:=(Lib.size_eq t).symm;have e:256*(UInt8.ofNat (t.size/256)).toNat+(UInt8.ofNat t.size).toNat=t.size:=by
  rw [UInt8.toNat_ofNat',UInt8.toNat_ofNat'];omega
 rw [textsM_two,e,if_neg (by rw [List.length_append];omega),←hsz,List.take_left,List.drop_left]
theorem enc_read:∀(ts:List ByteArray) (r:List UInt8),(∀t∈ts,t.size≤65535)→r.length≤1→zdi (encT ts++r)=some (ts,r)
 | [],r,_,hr=>by
  match r,hr with
  | [],_=>rw [List.append_nil];show zdi []=_;rw [textsM_nil]
  | [a],_=>show zdi [a]=_;rw [textsM_one]
 |t::ts,r,h,hr=>by
  rw [encT_cons,List.append_assoc,oneT_read t (h t (by simp)),enc_read ts r (fun x hx=>h x (by simp [hx])) hr];rfl
theorem enc_inj {xs ts:List ByteArray} {r:List UInt8} (hx:∀t∈xs,t.size≤65535) (ht:∀t∈ts,t.size≤65535) (hr:r.length≤1):encT xs=encT ts++r↔xs=ts∧r=[]:=by
 refine ⟨fun h=>?_,fun ⟨h1,h2⟩=>by rw [h1,h2,List.append_nil]⟩;have h1:=enc_read xs [] hx (by simp);have h2:=enc_read ts r ht hr;rw [List.append_nil,h] at h1;rw [h1] at h2;injection h2 with h2;injection h2 with h2 h3;exact ⟨h2,h3.symm⟩
structure Vl where
 kind:Int
 text:ByteArray
 items:List ByteArray
 pairs:List (ByteArray×ByteArray)
 ranks:List Rk
def bz:ByteArray:=⟨#[]⟩
def vl0:Vl:=⟨0,bz,[],[],[]⟩
def pairUp:List ByteArray→List (ByteArray×ByteArray)
 |a::b::l=> (a,b)::pairUp l
 |_=> []
def flatP (ps:List (ByteArray×ByteArray)):List ByteArray:=ps.flatMap fun p=> [p.1,p.2]
def rankUp:List ByteArray→List Rk
 |a::b::l=>⟨a,(intI b.data.toList).1⟩::rankUp l
 |_=> []
def rankDec:List ByteArray→Option (List Rk)
 |a::b::l=>match decM b.data.toList with
  |none=>none
  |some n=> (rankDec l).map fun rs=>⟨a,n⟩::rs
 | []=>some []
 | [_]=>none
def shortB (t:ByteArray):Bool:=decide (t.size≤200)
def countB (n:Nat):Bool:=decide (1≤n)&&decide (n≤20)
def risePB (ps:List (ByteArray×ByteArray)):Bool:=(List.range ps.length).all fun i=>decide (i=0)||Op.bytesLess (ps.getD (i-1) (bz,bz)).1.toList (ps.getD i (bz,bz)).1.toList
def itemsB (ts:List ByteArray):Bool:=countB ts.length&&ts.all shortB
def pairsB (ps:List (ByteArray×ByteArray)):Bool:=countB ps.length&&((flatP ps).all shortB&&risePB ps)
def specV (b:UInt8) (ts:List ByteArray):Vl:=
 if b=49 then ⟨1,ts.headD bz,[],[],[]⟩
 else if b=50 then ⟨2,bz,ts,[],[]⟩
 else if b=51 then ⟨3,bz,[],pairUp ts,[]⟩
 else if b=52 then ⟨4,bz,[],[],rankUp ts⟩
 else ⟨(b.toNat:Int)-48,bz,[],[],[]⟩
def specOkB (b:UInt8) (ts:List ByteArray):Bool:=
 if b=49 then shortB (ts.headD bz)
 else if b=50 then itemsB ts
 else if b=51 then pairsB (pairUp ts)
 else if b=52 then zeb (rankUp ts)
 else false
def specTx (b:UInt8) (ts:List ByteArray):List ByteArray:=
 if b=49 then [ts.headD bz]
 else if b=50 then ts
 else if b=51 then flatP (pairUp ts)
 else texL (rankUp ts)
def readS1 (b:UInt8):TxR→Vl×Bool
 |none=> (vl0,false)
 |some (ts,r)=>if specOkB b ts=true∧encT (specTx b ts)=encT ts++r then (specV b ts,true) else (vl0,false)
def readS:List UInt8→Vl×Bool
 | []=> (vl0,false)
 |b::l=>readS1 b (zdi l)
def readC (b:UInt8) (ts:List ByteArray):Vl×Bool:=
 if b=49 then (match ts with
  | [t]=>if shortB t then (⟨1,t,[],[],[]⟩,true) else (vl0,false)
  |_=> (vl0,false))
 else if b=50 then (if itemsB ts then (⟨2,bz,ts,[],[]⟩,true) else (vl0,false))
 else if b=51 then (if ts.length%2=0∧pairsB (pairUp ts)=true then (⟨3,bz,[],pairUp ts,[]⟩,true) else (vl0,false))
 else if b=52 then (match rankDec ts with
  |none=> (vl0,false)
  |some rs=>if zeb rs then (⟨4,bz,[],[],rs⟩,true) else (vl0,false))
 else (vl0,false)
def readI1 (b:UInt8):TxR→Vl×Bool
 |some (ts,[])=>readC b ts
 |_=> (vl0,false)
def readI:List UInt8→Vl×Bool
 | []=> (vl0,false)
 |b::l=>readI1 b (zdi l)
theorem flat_up:∀(ts:List ByteArray),flatP (pairUp ts)=ts↔ts.length%2=0
 | []=>by simp [pairUp,flatP]
 | [a]=>by simp [pairUp,flatP]
 |a::b::l=>by
  have ih:=flat_up l;have e:flatP (pairUp (a::b::l))=a::b::flatP (pairUp l):=rfl;rw [e,List.length_cons,List.length_cons,show (l.length+1+1)%2=l.length%2 from by omega,←ih];constructor
  ·intro h;injection h with _ h;injection h with _ h
  ·intro h;rw [h]
theorem dec_back {b:ByteArray} {n:Int} (h:decM b.data.toList=some n):n=(intI b.data.toList).1∧decS n=b:=by
 rw [decM_intI] at h;split at h
 ·rename_i h2;injection h with h;obtain ⟨_,h3⟩:=intI_to _ h2;refine ⟨h.symm,?_⟩;rw [←h];unfold decS;rw [h3]
 ·cases h
theorem rank_dec:∀(ts:List ByteArray) (rs:List Rk),rankDec ts=some rs→rs=rankUp ts∧texL (rankUp ts)=ts
 | [],rs,h=>by simp [rankDec] at h;subst h;exact ⟨rfl,rfl⟩
 | [a],rs,h=>by simp [rankDec] at h
 |a::b::l,rs,h=>by
  simp only [rankDec] at h;split at h
  ·cases h
  ·rename_i n hn;obtain ⟨h1,h2⟩:=dec_back hn;cases hr:rankDec l with
   |none=>rw [hr] at h;cases h
   |some qs=>
    rw [hr] at h;simp only [Option.map_some] at h;injection h with h;obtain ⟨i1,i2⟩:=rank_dec l qs hr;refine ⟨by rw [←h,i1,h1];rfl,?_⟩;show [a,decS (intI b.data.toList).1]++texL (rankUp l)=_;rw [i2,←h1,h2];rfl
theorem dec_rank:∀(ts:List ByteArray),(∀x∈rankUp ts,zea x=true)→texL (rankUp ts)=ts→rankDec ts=some (rankUp ts)
 | [],_,_=>rfl
 | [a],_,h=>by simp [rankUp,texL] at h
 | a::b::l,hs,h=>by
  have e:[a,decS (intI b.data.toList).1]++texL (rankUp l)=a::b::l:=h
  injection e with _ e
  injection e with e1 e2
  have hb:b.data.toList=Lib.itoa (intI b.data.toList).1:=by
   conv=>lhs;rw [← e1]
   rfl
  have hn:=hs ⟨a,(intI b.data.toList).1⟩ (by simp [rankUp])
  have hin:inNum (intI b.data.toList).1=true:=by
   unfold zea at hn
   unfold inNum
   simp at hn ⊢
   exact hn
  have hd:=decM_itoa _ hin
  rw [← hb] at hd
  have ih:=dec_rank l (fun x hx=>hs x (by simp [rankUp,hx])) e2
  simp only [rankDec,hd,ih]
  rfl
theorem right_scores {L:List Rk} (h:zeb L=true):∀x∈L,zea x=true:=by
 intro x hx;unfold zeb zec at h;simp only [Bool.and_eq_true,List.all_eq_true,List.mem_range] at h;obtain ⟨i,hi,rfl⟩:=List.getElem_of_mem hx;have:=h.2.2 i hi;unfold okAt at this;simp only [Bool.and_eq_true] at this;have h2:=this.2.1;unfold scAt at h2;rwa [List.getD_eq_getElem?_getD,List.getElem?_eq_getElem hi] at h2
theorem up_mem:∀(ts:List ByteArray),∀t∈flatP (pairUp ts),t∈ts
 | [],t,h=>by simp [pairUp,flatP] at h
 | [a],t,h=>by simp [pairUp,flatP] at h
 |a::b::l,t,h=>by
  have e:flatP (pairUp (a::b::l))=a::b::flatP (pairUp l):=rfl;rw [e] at h;rcases List.mem_cons.1 h with rfl|h
  ·simp
  ·rcases List.mem_cons.1 h with rfl|h
   ·simp
   ·have:=up_mem l t h;simp [this]
theorem rank_mem:∀(ts:List ByteArray),(∀x∈rankUp ts,zea x=true)→(∀t∈ts,t.size≤65535)→∀t∈texL (rankUp ts),t.size≤65535
 | [],_,_,t,h=>by simp [rankUp,texL] at h
 | [a],_,_,t,h=>by simp [rankUp,texL] at h
 |a::b::l,hs,hz,t,h=>by
  have e:texL (rankUp (a::b::l))=a::decS (intI b.data.toList).1::texL (rankUp l):=rfl;rw [e] at h;rcases List.mem_cons.1 h with rfl|h
  ·exact hz t (by simp)
  ·rcases List.mem_cons.1 h with rfl|h
   ·have hn:=hs ⟨a,(intI b.data.toList).1⟩ (by simp [rankUp]);unfold zea at hn;simp at hn;have:=decS_len (s:=(intI b.data.toList).1) ⟨by omega,by omega⟩;omega
   ·exact rank_mem l (fun x hx=>hs x (by simp [rankUp,hx])) (fun x hx=>hz x (by simp [hx])) t h
theorem spec_small {b:UInt8} {ts:List ByteArray} (hok:specOkB b ts=true) (hz:∀t∈ts,t.size≤65535):∀t∈specTx b ts,t.size≤65535:=by
 unfold specOkB at hok;unfold specTx;split
 ·rename_i h;rw [if_pos h] at hok;intro t ht;rw [List.mem_singleton] at ht;rw [ht];have:(ts.headD bz).size≤200:=of_decide_eq_true hok;exact Nat.le_trans this (by decide)
 ·rename_i h1;rw [if_neg h1] at hok;split
  ·exact hz
  ·rename_i h2;rw [if_neg h2] at hok;split
   ·exact fun t ht=>hz t (up_mem ts t ht)
   ·rename_i h3;rw [if_neg h3] at hok;split at hok
    ·exact rank_mem ts (right_scores hok) hz
    ·cases hok
theorem readC_same (b:UInt8) (ts:List ByteArray) (hz:∀t∈ts,t.size≤65535):(if specOkB b ts=true∧encT (specTx b ts)=encT ts++ [] then (specV b ts,true) else (vl0,false))=readC b ts:=by
 unfold readC;by_cases hok:specOkB b ts=true
 ·have hiff:=enc_inj (r:=[]) (spec_small hok hz) hz (by simp);have hc:(specOkB b ts=true∧encT (specTx b ts)=encT ts++ [])↔specTx b ts=ts:=⟨fun h=> (hiff.1 h.2).1,fun h=>⟨hok,hiff.2 ⟨h,rfl⟩⟩⟩;have hcc:(if specOkB b ts=true∧encT (specTx b ts)=encT ts++ [] then (specV b ts,true) else (vl0,false))=if specTx b ts=ts then (specV b ts,true) else (vl0,false):=by
   by_cases h:specTx b ts=ts
   ·rw [if_pos h,if_pos (hc.2 h)]
   ·rw [if_neg h,if_neg (fun h'=>h (hc.1 h'))]
  rw [hcc];unfold specOkB at hok;unfold specTx specV;by_cases b1:b=49
  ·rw [if_pos b1] at hok;simp only [if_pos b1];match ts,hok with
   | [],hok=>rw [if_neg (by simp)]
   | [t],hok=>rw [if_pos (show [[t].headD bz]=[t] from rfl)];show _=if shortB t=true then _ else _;rw [if_pos (show shortB t=true from hok)];rfl
   |t::u::l,hok=>rw [if_neg (by simp)]
  rw [if_neg b1] at hok;simp only [if_neg b1];by_cases b2:b=50
  ·rw [if_pos b2] at hok;simp only [if_pos b2];rw [if_pos trivial,if_pos hok]
  rw [if_neg b2] at hok;simp only [if_neg b2];by_cases b3:b=51
  ·rw [if_pos b3] at hok;simp only [if_pos b3];by_cases he:ts.length%2=0
   ·rw [if_pos ((flat_up ts).2 he),if_pos ⟨he,hok⟩]
   ·rw [if_neg (fun h=>he ((flat_up ts).1 h)),if_neg (fun h=>he h.1)]
  rw [if_neg b3] at hok;simp only [if_neg b3];by_cases b4:b=52
  ·rw [if_pos b4] at hok;simp only [if_pos b4];cases hd:rankDec ts with
   |none=>
    rw [if_neg (fun h=>by have:=dec_rank ts (right_scores hok) h;rw [hd] at this;cases this)]
   |some rs=>
    obtain ⟨h1,h2⟩:=rank_dec ts rs hd;subst h1;simp only;rw [if_pos h2,if_pos hok]
  ·rw [if_neg b4] at hok;cases hok
 ·rw [if_neg (fun h=>hok h.1)];unfold specOkB at hok;by_cases b1:b=49
  ·rw [if_pos b1] at hok;rw [if_pos b1];match ts,hok with
   | [],hok=>rfl
   | [t],hok=>show _=if shortB t=true then _ else _;rw [if_neg (show ¬shortB t=true from hok)]
   |t::u::l,hok=>rfl
  rw [if_neg b1] at hok;rw [if_neg b1];by_cases b2:b=50
  ·rw [if_pos b2] at hok;rw [if_pos b2,if_neg hok]
  rw [if_neg b2] at hok;rw [if_neg b2];by_cases b3:b=51
  ·rw [if_pos b3] at hok;rw [if_pos b3,if_neg (fun h=>hok h.2)]
  rw [if_neg b3] at hok;rw [if_neg b3];by_cases b4:b=52
  ·rw [if_pos b4] at hok;rw [if_pos b4];cases hd:rankDec ts with
   |none=>rfl
   |some rs=>
    obtain ⟨h1,h2⟩:=rank_dec ts rs hd;subst h1;simp only;rw [if_neg hok]
  ·rw [if_neg b4]
theorem read_same (l:List UInt8):readS l=readI l:=by
 cases l with
 |nil=>rfl
 |cons b l=>
  show readS1 b (zdi l)=readI1 b (zdi l);cases hm:zdi l with
  |none=>rfl
  |some q=>
   obtain ⟨ts,r⟩:=q;obtain ⟨_,hr,hz⟩:=textsM_enc l.length l ts r (Nat.le_refl _) hm;cases r with
   |nil=>exact readC_same b ts hz
   |cons x r=>
    show (if _ then _ else _)=_;rw [if_neg (fun h=>by have:=(enc_inj (spec_small h.1 hz) hz hr).1 h.2;cases this.2)];rfl
end Go.Proofs.YtjpeglkkkllagaaGreatDoor
namespace Go.Proofs.YtjpeglkkkllagaaGreatDoor
open Go.RowKit Go.Sort
def strV (ts:List ByteArray):List Value:=ts.map Value.string
abbrev OwnS (w:World) (B:Nat) (v:Value) (ts:List ByteArray):Prop:=w.ownsRow B 9 1 v ts.length (strV ts)
theorem ownS_nil (w:World) (B:Nat):OwnS w B (.slice none 0 0) []:=World.ownsRow_nil _ _ _ _
theorem own_lt {w:World} {B:Nat} {e:TypeId} {size n:Nat} {v:Value} {xs:List Value} (h:w.ownsRow B e size v n xs) {g:Nat} (hg:v.ownBlock=some g):B≤g∧g<w.heap.size:=h.lt g hg
theorem zai {w w':World} {B:Nat} {e:TypeId} {size n:Nat} {v:Value} {xs:List Value} (h:w.ownsRow B e size v n xs) (hb:∀g,v.ownBlock=some g→w'.heap[g]?=w.heap[g]?):w'.ownsRow B e size v n xs:=by
 rcases h with ⟨h1,h2|⟨g,cap,cur,rfl,q1,q2,q3⟩⟩
 ·exact ⟨h1,.inl h2⟩
 ·exact ⟨h1,.inr ⟨g,cap,cur,rfl,q1,(hb g rfl).trans q2,q3⟩⟩
theorem zaf {w w':World} {B:Nat} {e:TypeId} {size n:Nat} {v:Value} {xs:List Value} (h:w.ownsRow B e size v n xs) (hb:Below w.heap.size w w'):w'.ownsRow B e size v n xs:=
 zai h fun g hg=>hb.block g (own_lt h hg).2
theorem zad {w:World} {B:Nat} {e:TypeId} {size n:Nat} {v:Value} {xs:List Value} (h:w.ownsRow B e size v n xs):∃a c,v= .slice a n c:=by
 rcases Joins.ownsRow_forms h with ⟨h1,h2⟩|⟨A,c,rfl⟩
 ·exact ⟨none,0,by rw [h2,h1]⟩
 ·exact ⟨some ⟨A,0,none⟩,c,rfl⟩
theorem below_own {B:Nat} {w w1 w2:World} {e:TypeId} {size n:Nat} {v:Value} {xs:List Value} {o:Obj} (hb:Below B w w1) (hB:B≤w1.heap.size) (h:w1.ownsRow B e size v n xs) (hg:(w1.alloc o).grownBy w2 v.ownBlock):Below B w w2:=by
 have hs:(w1.alloc o).heap.size=w1.heap.size+1:=by simp
 have h2:=hg.size;have h3:=hb.size;exact ⟨hg.os.trans hb.os,hg.tape.trans hb.tape,hg.output.trans hb.output,by omega,fun k hk=> (hg.block k (by omega) (fun e=>by have:=(own_lt h e.symm).1;omega)).trans ((Below.heap_alloc _ _ _ (by omega)).trans (hb.block k hk))⟩
theorem or256 (a b:Nat) (ha:a<256) (hb:b<256):bits .or .i64 ((a:Int)*256) (b:Int)=(a:Int)*256+(b:Int):=
 bits_join .i64 16 (by decide) (fun n h0 h1=>by rw [IntKind.wrap_i64];omega) 8 _ _ (by omega) (by omega) (by omega) (by omega) (by omega) (by omega)
def lenV:Value→Nat
 | .slice _ n _=>n
 |_=>0
def sizeV:Value→Nat
 | .string s=>s.size
 |_=>0
def TextsEnd (w:World):TxR→Ending→World→Prop
 |some (ts,[]),e,w'=>∃v,e= .returned (.tuple #[v,.bool true])∧OwnS w' w.heap.size v ts∧Below w.heap.size w w'
 |_,e,w'=>e= .returned (.tuple #[.slice none 0 0,.bool false])∧Below w.heap.size w w'
theorem empty_no {s:ByteArray} (h:0<s.size):s.toList.isEmpty=false:=by
 rw [ByteArray.toList_eq];rw [Lib.size_eq] at h;cases hd:s.data.toList with
 |nil=>rw [hd] at h;cases h
 |cons b r=>rfl
theorem empty_yes {s:ByteArray} (h:s.size=0):s.toList.isEmpty=true:=by
 rw [ByteArray.toList_eq];rw [Lib.size_eq] at h;cases hd:s.data.toList with
 |nil=>rfl
 |cons b r=>rw [hd] at h;cases h
theorem strV_app (ts us:List ByteArray):strV (ts++us)=strV ts++strV us:=List.map_append
theorem two_of {s:ByteArray} (h:2≤s.size):∃a b l,s.data.toList=a::b::l∧l.length=s.size-2∧(∀hx,s[0]'hx=a)∧(∀hx,s[1]'hx=b):=by
 have hl:s.data.toList.length=s.size:=(Lib.size_eq s).symm;obtain ⟨⟨d⟩⟩:=s;match d,hl with
 | [],hl=>simp at hl;have:(0:Nat)=ByteArray.size ⟨⟨[]⟩⟩:=hl;omega
 | [a],hl=>have h1:ByteArray.size ⟨⟨[a]⟩⟩=1:=rfl;omega
 |a::b::l,hl=>exact ⟨a,b,l,rfl,by rw [←hl];simp,fun _=>rfl,fun _=>rfl⟩
theorem textsIn_any (s:ByteArray) (w:World) (hs:s.size≤1048576):
  Calls Tryz.prog 76 #[.string s] w (TextsEnd w (zdi s.data.toList)):=by
 obtain ⟨i0,hi,hz0,hz1,hz2⟩:=info_parts info9;obtain ⟨T,hT⟩:∃T,zdi s.data.toList=T:=⟨_,rfl⟩;have HT:Hid (T=preT [] (zdi s.data.toList)):=by unfold Hid;rw [preT_nil,hT]
 rw [hT];clear hT;go_enter Tryz.func76,Tryz.ntmps76;go_wp2;go_loopw [0,4] (fun r v wr=>∃(rest:ByteArray) (acc:List ByteArray),r= .string rest∧rest.size≤s.size∧acc.length+rest.size≤s.size∧OwnS wr w.heap.size v acc∧Below w.heap.size w wr∧T=preT acc (zdi rest.data.toList)) (fun r _ _=>sizeV r)
 case atStart=>exact ⟨s,[],rfl,Nat.le_refl _,by simp,ownS_nil _ _,Below.refl _ _,HT.out⟩
 case round=>
  obtain ⟨rest,acc,rfl,hr1,hr2,hown,bk,hpre⟩:=hrel;have HP:Hid (T=preT acc (zdi rest.data.toList)):=hpre;have sk:=bk.size;clear hpre HT;by_cases h0:rest.size=0
  ·have he:=empty_yes h0;have HE:Hid (TextsEnd w T (.returned (.tuple #[u4,.bool true])) wr):=by
    unfold Hid;have:rest.data.toList=[]:=List.eq_nil_of_length_eq_zero (by rw [←Lib.size_eq];exact h0);rw [HP.out,this];rw [textsM_nil];show TextsEnd w (some (acc++ [],[])) _ _;rw [List.append_nil];exact ⟨u4,rfl,hown,bk⟩
   clear hown bk;go_wp2;go_ret2;exact HE.out
  ·have he:=empty_no (s:=rest) (by omega);by_cases h1:rest.size=1
   ·have hlt:(rest.size:Int)<2:=by omega
    have HE:Hid (TextsEnd w T (.returned (.tuple #[.slice none 0 0,.bool false])) wr):=by
     unfold Hid;have hl:rest.data.toList.length=1:=by rw [←Lib.size_eq];exact h1
     obtain ⟨a,ha⟩:=List.length_eq_one_iff.1 hl;rw [HP.out,ha,textsM_one];exact ⟨rfl,bk⟩
    clear hown bk;go_wp2;go_ret2;exact HE.out
   ·have hge:¬(rest.size:Int)<2:=by omega
    obtain ⟨a,b,l,hl,hll,ha,hb⟩:=two_of (s:=rest) (by omega);have ha256:a.toNat<256:=a.toNat_lt;have hb256:b.toNat<256:=b.toNat_lt;have hor:=or256 a.toNat b.toNat ha256 hb256;have z0:0<rest.size:=by omega
    have z1:1<rest.size:=by omega
    have z0i:(0:Int)<(rest.size:Int):=by omega
    have z1i:(1:Int)<(rest.size:Int):=by omega
    obtain ⟨n,hn⟩:∃n,256*a.toNat+b.toNat=n:=⟨_,rfl⟩;have hn2:(a.toNat:Int)*256+(b.toNat:Int)=(n:Int):=by omega
    rw [hn2] at hor;have hnb:n≤65535:=by omega
    have HN:Hid (zdi rest.data.toList=if l.length<n then none else preT [⟨(l.take n).toArray⟩] (zdi (l.drop n))):=by
     unfold Hid;rw [hl,textsM_two,hn]
    by_cases hlen:rest.size<n+2
    ·have hc:decide ((rest.size:Int)<2+(n:Int))=true:=by simp;omega
     have HE:Hid (∀W,Below w.heap.size w W→TextsEnd w T (.returned (.tuple #[.slice none 0 0,.bool false])) W):=fun W bW=>by
      rw [HP.out,HN.out,if_pos (by omega)];exact ⟨rfl,bW⟩
     clear hown HN HP hn hl;go_wp2;go_quiet ((fail));go_wp2;go_ret2;exact HE.out _ (below_drewN bk _)
    ·have hc:decide ((rest.size:Int)<2+(n:Int))=false:=by simp;omega
     have hn2s:n+2≤rest.size:=by omega
     have e2:(2:Int)+(n:Int)≤(rest.size:Int):=by omega
     have e20:(0:Int)≤2+(n:Int):=by omega
     have e21:(2:Int)≤2+(n:Int):=by omega
     have HX:Hid (rest.extract 2 (2+n)=⟨(l.take n).toArray⟩):=str_of _ _ (by rw [Lib.extract_data,hl];simp);have HY:Hid ((rest.extract (2+n) rest.size).data.toList=l.drop n):=by
      unfold Hid;rw [Lib.extract_to_end,hl,Nat.add_comm 2 n];rfl
     have HN2:Hid (T=preT (acc++ [⟨(l.take n).toArray⟩]) (zdi (l.drop n))):=by
      unfold Hid;rw [HP.out,HN.out,if_neg (by omega),preT_preT]
     have hts:(⟨(l.take n).toArray⟩:ByteArray).size=n:=by
      rw [size_mk,List.length_take];omega
     obtain ⟨t,ht⟩:∃t:ByteArray,t=⟨(l.take n).toArray⟩:=⟨_,rfl⟩;rw [←ht] at HX HN2 hts;have wn:IntKind.i64.wrap (2+(n:Int))=2+(n:Int):=by rw [IntKind.wrap_i64];omega
     have tn:((2:Int)+(n:Int)).toNat=2+n:=by omega
     clear HN HP hn hl ht hlen;go_wp2;go_quiet ((fail));go_wp2_with fail;have b1:Below w.heap.size w (wr.drewN nq):=below_drewN bk _;have o1:OwnS (wr.drewN nq) w.heap.size u4 acc:=zai hown (fun _ _=>rfl);have s1:w.heap.size≤(wr.drewN nq).heap.size:=sk;generalize wr.drewN nq=w1 at*;rw [HX.out];refine (clone60 t w1 (by omega)).mono ?_;rintro e w2 ⟨rfl,b2⟩;have o2:=zaf o1 b2;have b02:=b1.trans (b2.mono s1);have s2:=b2.size;clear hown bk o1 b1 b2;have ha20:acc.length≤1048576:=by omega
     go_wp2_with (at_builtin;refine wpList_append_own _ rfl _ _ 59 rfl w.heap.size 9 i0 _ 1 16 Tryz.underlying59 hi hz0 hz1 hz2 rfl (by decide) _ _ _ rfl (o2.alloc _) ⟨w2.heap.size,0,none⟩ 1 1 [.string t] rfl rfl ?c1 ?c2 ?c3 ?c4 ?c5 ?_)
     case c1=>exact cell_one_new _ _ _
     case c2=>intro y hy;simp at hy;subst hy;rfl
     case c3=>unfold maxLen;omega
     case c4=>omega
     case c5=>simp;omega
     intro v' w5 hown' hgrow _;have b05:Hid (Below w.heap.size w w5):=below_own b02 (by omega) o2 hgrow;have HO:Hid (OwnS w5 w.heap.size v' (acc++ [t])):=by
      unfold Hid OwnS;rw [List.length_append,strV_app];exact hown'
     clear hown' hgrow o2 b02;go_wp2;go_roundw
     case rel=>
      refine ⟨rest.extract (2+n) rest.size,acc++ [t],rfl,?_,?_,HO.out,b05.out,?_⟩
      ·rw [ByteArray.size_extract];omega
      ·rw [ByteArray.size_extract,List.length_append,List.length_singleton];omega
      ·rw [HY.out];exact HN2.out
     case measure=>show ByteArray.size (rest.extract (2+n) rest.size)<rest.size;rw [ByteArray.size_extract];omega
abbrev Pr:=ByteArray×ByteArray
def encP (p:Pr):List Value:=[.string p.1,.string p.2]
def flatPV (ps:List Pr):List Value:=ps.flatMap encP
abbrev OwnP (w:World) (B:Nat) (v:Value) (ps:List Pr):Prop:=w.ownsRow B 109 2 v ps.length (flatPV ps)
theorem flatPV_app (ps qs:List Pr):flatPV (ps++qs)=flatPV ps++flatPV qs:=List.flatMap_append
theorem ownP_nil (w:World) (B:Nat):OwnP w B (.slice none 0 0) []:=World.ownsRow_nil _ _ _ _
theorem info33:(Tryz.prog.info? 109).map (fun i=> (i.zero,i.size,i.bytes))=some (some (.agg #[.string ⟨#[]⟩,.string ⟨#[]⟩]),2,32):=by kernel_rfl
theorem zba {P:Program} {ops:Array Oper} {o:Oper} {a:Act} {w w':World} {K:Act→World→Prop} {Q:Exit→Act→World→Prop} {E:Prop} (hg:o.guard=none) (s x:Operand) (t:TypeId)
  (hop:o.op=Op.call { callee:=Callee.builtin Builtin.append,args:= #[s,x],argTypes:= #[t,t] }) {v y v':Value} (hs:a.eval s=v) (hx:a.eval x=y) (hr:(Builtin.append_ #[t,t] o.type #[v,y]).run P w= .ok v' w')
  (hK:K (a.put o.dst v') w'):if Region.wanted o (yielded ops a.tmps)=true then Oper.wp P o a w K Q else E:=by
 have hw:Region.wanted o (yielded ops a.tmps)=true:=by simp [Region.wanted,hg]
 rw [if_pos hw];unfold Oper.wp;simp [execOp,hop,resolve,invoke,builtin,hs,hx,hr,Result.andThen];exact hK
theorem ret_tb {x:Value} {a b:Bool} (h:a=b):Ending.returned (.tuple #[x,.bool a])= .returned (.tuple #[x,.bool b]):=by rw [h]
theorem app_pair {w:World} {B:Nat} {V:Value} {ps:List Pr} (x y:ByteArray) (t:TypeId) (ht:Tryz.prog.underlying t=some (.slice 109)) (h:OwnP w B V ps) (hn:ps.length≤1048576) (hB:B≤w.heap.size):
  ∃v' w',(Builtin.append_ #[t,t] t #[V,.slice (some ⟨w.heap.size,0,none⟩) 1 1]).run Tryz.prog (w.alloc (.cells #[.string x,.string y] 109))= .ok v' w'∧OwnP w' B v' (ps++ [(x,y)])∧Below B w w':=by
 obtain ⟨i0,hi,hz0,hz1,hz2⟩:=info_parts info33;have hbl:Below w.heap.size w (w.alloc (.cells #[.string x,.string y] 109)):=(Below.refl _ w).alloc (Nat.le_refl _) _;have oA:=zaf h hbl
 obtain ⟨v',w',hrun,hown,hg,_,hblk⟩:=run_append_own_at (P:=Tryz.prog) (w.alloc (.cells #[.string x,.string y] 109)) B t t 109 i0 _ 2 32 ht hi hz0 hz1 hz2 rfl (by decide) V ps.length (flatPV ps) oA ⟨w.heap.size,0,none⟩ 1 1 [.string x,.string y] rfl (fun j u hj=>by
  rw [Addr.add_lit,Nat.zero_add];exact ((RowAt.new w 109 #[.string x,.string y]).cell j).trans (by simpa using hj)) (fun u hu=>by simp at hu;rcases hu with rfl|rfl<;>rfl) (by unfold maxLen;omega) (by omega) (by simp;omega)
 refine ⟨v',w',hrun,?_,below_own (Below.refl _ w) hB h hg⟩;unfold OwnP;rw [List.length_append,flatPV_app];exact hown
theorem pairsFrom_any (a:Option Addr) (b off n c:Nat) (ts:List ByteArray) (w:World) (h:zdg w a b off n ts) (hn:n≤1048576) (hc:n≤c) (hc2:c≤9223372036854775807):
  Calls Tryz.prog 104 #[.slice a n c] w fun e w'=>∃v,e= .returned (.tuple #[.iface 174 v,.bool (decide (ts.length%2=0))])∧OwnP w' w.heap.size v (pairUp ts)∧Below w.heap.size w w':=by
 have H0:Hid (zdg w a b off n ts):=h;have HL:Hid (n=ts.length):=h.len.symm;clear h;go_enter Tryz.func104,Tryz.ntmps104;go_wp2;go_loopw [0,4] (fun r v wr=>∃(x:Option Addr) (o m d:Nat) (rest:List ByteArray) (acc:List Pr),r= .slice x m d∧m≤n∧m≤d∧d≤9223372036854775807∧zdg wr x b o m rest∧(0<m→b<w.heap.size)∧rest.length%2=ts.length%2∧acc.length≤n-m∧pairUp ts=acc++pairUp rest∧OwnP wr w.heap.size v acc∧Below w.heap.size w wr) (fun r _ _=>lenV r)
 case atStart=>exact ⟨a,off,n,c,ts,[],rfl,Nat.le_refl _,hc,hc2,H0.out,H0.out.low,rfl,by simp,rfl,ownP_nil _ _,Below.refl _ _⟩
 case round=>
  obtain ⟨x,o,m,d,rest,acc,rfl,hm,hmd,hd2,hs,hlow,hpar,hacc,hpu,hown,bk⟩:=hrel;have sk:=bk.size;clear H0;by_cases h2:2≤m
  ·obtain rfl:=hs.addr (by omega);have hrl:=hs.len;match rest,hrl,hs,hpar,hpu with
   | [],hrl,_,_,_=>simp at hrl;omega
   | [_],hrl,_,_,_=>simp at hrl;omega
   |p::q::rest,hrl,hs,hpar,hpu=>
    have c0:=hs.cell 0 (by omega);have c1:=hs.cell 1 (by omega);simp at c0 c1;have hlt:b<wr.heap.size:=hs.low (by omega);have bA:Below wr.heap.size wr (wr.alloc (.cells #[.string p,.string q] 109)):=(Below.refl _ wr).alloc (Nat.le_refl _) _;have d0:=(bA.cell (p:=⟨b,o,none⟩) hlt).trans c0;have d1:=(bA.cell (p:=⟨b,o+1,none⟩) hlt).trans c1;have od:OwnP wr.drew w.heap.size u4 acc:=zai hown (fun _ _=>rfl);obtain ⟨v',w5,hrun0,o5,b5⟩:=app_pair p q 174 Tryz.underlying174 od (by omega) (show w.heap.size≤wr.heap.size from sk);have hrun:(Builtin.append_ #[174,174] 174 #[u4,.slice (some ⟨wr.heap.size,0,none⟩) 1 1]).run Tryz.prog (wr.alloc (.cells #[.string p,.string q] 109)).drew= .ok v' w5:=hrun0;have b05:Hid (Below w.heap.size w w5):=bk.trans ((below_drewN (Below.refl _ wr) 1:Below w.heap.size wr wr.drew).trans b5);have S5:Hid (zdg w5 (if d=2 then some ⟨b,o,none⟩ else some ⟨b,o+2,none⟩) b (o+2) (m-2) rest):=by
     have hbl:=hlow (by omega);refine ⟨by simp at hrl;omega,fun hp=>if_neg (by omega),fun _=>by have:=b05.out.size;omega,fun i hi=>?_,fun i hi=>?_⟩
     ·have:=hs.cell (i+2) (by omega);rw [show o+(i+2)=o+2+i from by omega] at this;have e1:=(b05.out.cell (p:=⟨b,o+2+i,none⟩) hbl).trans ((bk.cell (p:=⟨b,o+2+i,none⟩) hbl).symm.trans this);simpa using e1
     ·have:=hs.fit (i+2) (by omega);simpa using this
    have HPU:Hid (pairUp ts=(acc++ [(p,q)])++pairUp rest):=by unfold Hid;rw [hpu];simp [pairUp]
    have HPA:Hid (rest.length%2=ts.length%2):=by unfold Hid;rw [←hpar];simp;omega
    have O5:Hid (OwnP w5 w.heap.size v' (acc++ [(p,q)])):=o5;have h0n:0<m:=by omega
    have h1n:1<m:=by omega
    have h0i:(0:Int)<(m:Int):=by omega
    have h1i:(1:Int)<(m:Int):=by omega
    have h2i:(2:Int)≤(m:Int):=by omega
    clear hs hpu hpar hown od hrun0 o5 b5 bk bA hrl;go_wp2_with fail
    go_region_law (first
     |refine zba rfl (.tmp 10) (.tmp 18) 174 rfl (by simp [Act.eval]) (by simp [Act.eval]) hrun ?_)
    all_goals
     go_wp2;go_roundw
     case rel=>exact ⟨_,o+2,m-2,d-2,rest,acc++ [(p,q)],rfl,by omega,by omega,by omega,S5.out,fun _=>hlow (by omega),HPA.out,by rw [List.length_append,List.length_singleton];omega,HPU.out,O5.out,b05.out⟩
     case measure=>simp [lenV];omega
  ·have hlt:¬(2:Int)≤(m:Int):=by omega
   have HE:Hid (pairUp ts=acc∧((m:Int)==0)=decide (ts.length%2=0)):=by
    have hrl:=hs.len;unfold Hid;rw [hpu,←hpar];match rest,hrl with
    | [],hrl=>simp at hrl;subst hrl;simp [pairUp]
    | [_],hrl=>simp at hrl;subst hrl;simp [pairUp]
    |_::_::_,hrl=>simp at hrl;omega
   clear hs hpu hpar;go_wp2;go_ret2;exact ⟨u4,ret_tb HE.out.2,by rw [HE.out.1];exact hown,bk⟩
end Go.Proofs.YtjpeglkkkllagaaGreatDoor
