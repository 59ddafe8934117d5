import Derived.Test.YtokafonppgppdaaGreatDoorKa
import Derived.Test.YtokafonppgppdaaGreatDoorIv
import Derived.Lib.ItoaLen
import Derived.Lib.EndianBits
import Derived.Lib.IndexBytes
import Derived.Deep.CutBlock
set_option maxHeartbeats 4000000
set_option maxRecDepth 100000
namespace Go.Proofs.YtokafonppgppdaaGreatDoor.Kk
open Tryz
open Go.RowKit Go.Sort
variable {B n size:Nat} {w w':World} {L:List Rk} {e:TypeId} {v:Value} {xs:List Value}
abbrev Tab (w:World):Prop:=Lib.TabIs prog w "internal/strconv.uint64pow10" .u64 Lib.pow10Tab
theorem yi0:∃g,prog.globalNamed "internal/strconv.uint64pow10" =some g/\g<22:=⟨10,by kernel_rfl,by decide⟩
theorem Tab.bw (h:Tab w) (hb:Below B w w') (hB:22<=B):Tab w':=by
 obtain ⟨g,hg,hl⟩:=yi0;exact var?_below hb hg (by omega) h
def zjw (s:Int):Prop:= -9223372036854775808<=s/\s<=9223372036854775807
def zi5 (L:List Rk):Prop:=∀x∈L,zjw x.s
def zc6 (s:Int):ByteArray:=⟨(Lib.itoa s).toArray⟩
def zju (x:Rk):List ByteArray:=[x.m,zc6 x.s]
def zd7 (L:List Rk):List ByteArray:=L.flatMap zju
def zdw (T:List ByteArray):List Value:=T.map Value.string
theorem zou {s:Int} (h:zjw s):(zc6 s).size<=21:=by
 show (Lib.itoa s).toArray.size<=21;rw [List.size_toArray];exact Lib.itoa_length_le s h.1 h.2
theorem zit (L:List Rk):(zd7 L).length=2*L.length:=by
 unfold zd7;induction L with
 |nil=>rfl
 |cons x l ih=>rw [List.flatMap_cons,Qi,ih,Q1];show 2+2*l.length=_;omega
theorem zz8 (L:List Rk) (k:Nat) (h:k<L.length):zd7 (L.take (k+1))=zd7 (L.take k)++zju (L.getD k rk0):=by
 unfold zd7;rw [Qo h,List.flatMap_append,Qa,Qd h,Option.getD_some];simp
theorem yii (h:zi5 L) (k:Nat) (hk:k<L.length):zjw (L.getD k rk0).s:=by
 rw [Qa,Qd hk,Option.getD_some];exact h _ (Qv hk)
theorem zik {α:Type} (T:List α) (d:α) (p:α->Bool):((List.range T.length).all fun i=>p (T.getD i d))=T.all p:=by
 rw [Bool.eq_iff_iff,Qw,Qw];constructor
 ·intro h x hx;obtain ⟨i,hi,rfl⟩:=List.getElem_of_mem hx;have:=h i (List.mem_range.2 hi);rwa [Qa,Qd hi] at this
 ·intro h i hi;have hi':=List.mem_range.1 hi;rw [Qa,Qd hi',Option.getD_some];exact h _ (Qv hi')
theorem yd1 (h:zi5 L):(List.range (zd7 L).length).all (zef (zd7 L))=(List.range L.length).all (zpt L):=by
 have e1:(List.range (zd7 L).length).all (zef (zd7 L))=(zd7 L).all fun t=>decide (t.size<=200):=zik (zd7 L) ByteArray.empty fun t=>decide (t.size<=200);have e2:(List.range L.length).all (zpt L)=L.all fun x=>decide (x.m.size<=200):=zik L rk0 fun x=>decide (x.m.size<=200);rw [e1,e2];clear e1 e2;induction L with
 |nil=>rfl
 |cons x l ih=>
  have hx:=zou (h x (by simp));have e:zd7 (x::l)=x.m::zc6 x.s::zd7 l:=rfl;rw [e,List.all_cons,List.all_cons,List.all_cons,ih (fun y hy=>h y (by simp [hy])),Qe (p:=(zc6 x.s).size<=200) (by omega),Qz]
theorem zmw:(prog.info? 9).map (fun i=> (i.zero,i.size,i.bytes))=some (some (.string ⟨#[]⟩),1,16):=by kernel_rfl
theorem zjl (s:Int) (w:World) (h:zjw s) (ht:Tab w):Calls prog 115 #[.int .i64 s,.int .i64 10] w fun e w'=>e= .returned (.string (zc6 s))/\Bl w w':=
 (Tryz.strconv_FormatInt_10 s h.1 h.2 w ht).mono fun e w' ⟨he,k,os,hw⟩=>⟨he,by
  rw [hw];exact ⟨rfl,rfl,rfl,by show w.heap.size<=(w.heap++os).size;rw [Array.size_append];omega,fun j hj=>by show (w.heap++os)[j]?=w.heap[j]?;exact Array.getElem?_append_left (by omega)⟩⟩
theorem zba {P:Program} {ops:Array Oper} {o:Oper} {a:Act} {K:Act->World->Prop} {Q:Exit->Act->World->Prop} {E:Prop} (hg:o.guard=none) (s x:Operand) (t:TypeId)
  (hop:o.op=Op.call { callee:=Callee.builtin Builtin.append,args:= #[s,x],argTypes:= #[t,t] }) {v y v':Value} (hs:a.eval s=v) (hx:a.eval x=y) (hr:(Builtin.append_ #[t,t] o.type #[v,y]).run P w= .ok v' w')
  (hK:K (a.put o.dst v') w'):if Region.wanted o (yielded ops a.tmps)=true then Oper.wp P o a w K Q else E:=by
 have hw:Region.wanted o (yielded ops a.tmps)=true:=by simp [Region.wanted,hg]
 rw [if_pos hw];unfold Oper.wp;simp [execOp,hop,resolve,invoke,builtin,hs,hx,hr,Result.andThen];exact hK
theorem zep (h:w.ownsRow B e size v n xs) (hb:Bl w w'):w'.ownsRow B e size v n xs:=
 h.kept (row:=none) ⟨hb.os,hb.tape,hb.output,hb.size,fun k hk _=>hb.block k hk⟩ (by rcases Joins.ownsRow_forms h with ⟨rfl,_⟩|⟨g,cc,rfl⟩<;>simp [Value.ownBlock])
theorem own_below {W W':World} {x:Value} (h:W.ownsRow B e size x n xs) (hg:W.grownBy W' x.ownBlock) (hB:B<=W.heap.size):Below B W W':=
 ⟨hg.os,hg.tape,hg.output,hg.size,fun k hk=>hg.block k (by omega) fun e=>by have:=(h.lt k e.symm).1;omega⟩
theorem ygj {T:List ByteArray} (m t:ByteArray) (h:w.ownsRow B 9 1 v n (zdw T)) (hn:n<=4194304) (hB:B<=w.heap.size):
  ∃v' w',(Builtin.append_ #[25,25] 25 #[v,.slice (some ⟨w.heap.size,0,none⟩) 2 2]).run prog (w.alloc (.cells #[.string m,.string t] 9))= .ok v' w'/\w'.ownsRow B 9 1 v' (n+2) (zdw (T++ [m,t]))/\Below B w w'/\(∀j,j<w.heap.size->v.ownBlock≠some j->w'.heap[j]?=w.heap[j]?):=by
 obtain ⟨i0,hi,hz0,hz1,hz2⟩:=info_parts zmw;have ha:=h.alloc (.cells #[.string m,.string t] 9)
 obtain ⟨v',w',hrun,hown,hg,_⟩:=run_append_own (P:=prog) (w.alloc (.cells #[.string m,.string t] 9)) B 25 25 9 i0 _ 1 16 underlying25 hi hz0 hz1 hz2 rfl (by decide) v n (zdw T) ha ⟨w.heap.size,0,none⟩ 2 2 [.string m,.string t] rfl (fun j u hj=>by
  rw [Addr.add_lit,Qq];exact ((zab.new w 9 #[.string m,.string t]).cell j).trans (by simpa using hj)) (fun u hu=>by simp at hu;rcases hu with rfl|rfl<;>rfl) (by unfold maxLen;omega) (by omega) (by simp;omega)
 refine ⟨v',w',hrun,?_,?_,?_⟩
 ·have e:zdw (T++ [m,t])=zdw T++ [.string m,.string t]:=by simp [zdw]
  rw [e];exact hown
 ·exact ((Qb _ w).alloc hB _).trans (own_below ha hg (by simp;omega))
 ·intro j hj hne;rw [hg.block j (by simp;omega) (fun e=>hne e.symm)];exact Below.heap_alloc _ _ _ hj
theorem zrx (a:Option Addr) (b off n c:Nat) (L:List Rk) (w:World) (h:zdh w a b off n L) (hn:n<=1048577) (hf:zi5 L) (ht:Tab w) (hw10:22<=w.heap.size):
    Calls prog 303 #[.slice a n c] w fun e w'=>∃v,e= .returned v/\w'.ownsRow w.heap.size 9 1 v (zd7 L).length (zdw (zd7 L))/\Bl w w':=by
  have H:Hid (zdh w a b off n L):=h;have HL:Hid (L.length=n):=h.len;have HF:Hid (zi5 L):=hf;have HT:Hid (Tab w):=ht;clear h hf ht;go_enter func303,ntmps303;go_wp2;go_loopw [3,8] (fun v i wr=>∃(k:Nat),k<=n/\i= .int .i64 k/\wr.ownsRow w.heap.size 9 1 v (zd7 (L.take k)).length (zdw (zd7 (L.take k)))/\Bl w wr) (fun _ i _=>n - (intOf i).toNat)
  case atStart=>exact ⟨0,by omega,rfl,⟨rfl,.inl ⟨rfl,rfl⟩⟩,Qb _ _⟩
  case round=>
    obtain ⟨k,hk,rfl,hown,bk⟩:=hrel;have sk:=bk.size;by_cases hlt:k < n
    · have HW:=H.out.bw bk;have hy:=HW.cell k hlt;obtain rfl:=HW.addr (by omega);have d0:=hy.c0;have d1:=hy.c1;have HN:Hid (zd7 (L.take (k+1))=zd7 (L.take k)++zju (L.getD k rk0)):=zz8 L k (by rw [HL.out];exact hlt);have hfit:=yii HF.out k (by rw [HL.out];exact hlt);have htl:(zd7 (L.take k)).length<=2097154:=by rw [zit,Qn];omega
      have TB:=HT.out.bw bk hw10;generalize L.getD k rk0=y at*;obtain ⟨ym,ys⟩:=y;dsimp only at d0 d1 hfit;have HN2:Hid (zd7 (L.take (k+1))=zd7 (L.take k)++ [ym,zc6 ys]):=HN.out;generalize zd7 (L.take k)=T at*;clear HW hy HN;have r0:=zab.new wr 147 #[.string ym,.int .i64 ys];have b1:Bl w (wr.alloc (.cells #[.string ym,.int .i64 ys] 147)):=bk.alloc sk _;have b01:Bl wr (wr.alloc (.cells #[.string ym,.int .i64 ys] 147)):=(Qb _ wr).alloc (Qc _) _;have o1:=zep hown b01;have T1:=TB.bw b01 (by omega);have hs1:wr.heap.size < (wr.alloc (.cells #[.string ym,.int .i64 ys] 147)).heap.size:=by simp
      have hob:∀g,Value.ownBlock u3=some g->g < wr.heap.size:=fun g hg=> (hown.lt g hg).2;go_wp2_with fail;generalize wr.alloc (.cells #[.string ym,.int .i64 ys] 147)=W at*;have c0:=r0.cell 0;have c1:=r0.cell 1;simp only [Qm,Qk,Ql] at c0 c1;have TD:Tab W.drew:=T1;have oD:W.drew.ownsRow w.heap.size 9 1 u3 T.length (zdw T):=zep o1 (below_drewN (Qb _ W) 1);clear hown TB T1 o1 d0 d1;go_region_held_law (fun W'=>W'.cell? ⟨wr.heap.size,0,none⟩=some (.string ym)/\W'.cell? ⟨wr.heap.size,1,none⟩=some (.int .i64 ys))
        (first | exact ⟨c0,c1⟩ | exact S2 | exact S3 | exact S4)
        (first
          | refine zba rfl (.tmp 12) (.tmp 18) 25 rfl (by simp [Act.eval]) (by simp [Act.eval]) hrun ?_
          | (go_simp;go_at_call 115;refine (zjl ys _ hfit TD).mono ?_;rintro e w2 ⟨rfl,b2⟩;have z2:W.heap.size<=w2.heap.size:=b2.size;have S2:w2.cell? ⟨wr.heap.size,0,none⟩=some (.string ym)/\w2.cell? ⟨wr.heap.size,1,none⟩=some (.int .i64 ys):=⟨(b2.cell (p:=⟨wr.heap.size,0,none⟩) hs1).trans c0,(b2.cell (p:=⟨wr.heap.size,1,none⟩) hs1).trans c1⟩;have o2:=zep oD b2;obtain ⟨v',w3,hrun,hown',b3,hk3⟩:=ygj ym (zc6 ys) o2 (by omega) (by omega);have S3:(w2.alloc (.cells #[.string ym,.string (zc6 ys)] 9)).cell? ⟨wr.heap.size,0,none⟩=some (.string ym)/\(w2.alloc (.cells #[.string ym,.string (zc6 ys)] 9)).cell? ⟨wr.heap.size,1,none⟩=some (.int .i64 ys):=by
               have hbb:Bl w2 (w2.alloc (.cells #[.string ym,.string (zc6 ys)] 9)):=(Qb _ w2).alloc (Qc _) _;exact ⟨(hbb.cell (p:=⟨wr.heap.size,0,none⟩) (show wr.heap.size < _ by omega)).trans S2.1,(hbb.cell (p:=⟨wr.heap.size,1,none⟩) (show wr.heap.size < _ by omega)).trans S2.2⟩
             have S4:w3.cell? ⟨wr.heap.size,0,none⟩=some (.string ym)/\w3.cell? ⟨wr.heap.size,1,none⟩=some (.int .i64 ys):=by
               have he:=hk3 wr.heap.size (by omega) (fun e=>by have:=hob _ e;omega);exact ⟨(World.cell?_of_block (w:=w2) he).trans S2.1,(World.cell?_of_block (w:=w2) he).trans S2.2⟩
             have HO:Hid (w3.ownsRow w.heap.size 9 1 v' (T.length+2) (zdw (T++ [ym,zc6 ys]))):=hown';have b13:Bl w w3:=((below_drewN b1 1).trans (b2.mono (show w.heap.size<=W.heap.size by omega))).trans b3;clear hown' b3 b2))
      all_goals go_wp2
      all_goals
        go_roundw
        case rel=>exact ⟨k+1,by omega,by go_num,by rw [HN2.out,Qi];exact HO.out,b13⟩
        case measure=>simp [intOf];omega
    · obtain rfl:k=n:=by omega
      have HE:Hid (L.take k=L):=by unfold Hid;rw [<- HL.out];exact List.take_length
      rw [HE.out] at hown;have HO:Hid _:=hown;clear hown;go_wp2;go_ret;exact ⟨_,rfl,HO.out,bk⟩
theorem zn4 (p q:Nat->Bool):((List.range n).all fun i=>p i&&q i)=((List.range n).all p&&(List.range n).all q):=by
 rw [Bool.eq_iff_iff,Qh,Qw,Qw,Qw];constructor
 ·intro h;exact ⟨fun x hx=> ((Qh _ _).mp (h x hx)).1,fun x hx=> ((Qh _ _).mp (h x hx)).2⟩
 ·rintro ⟨h1,h2⟩ x hx;exact (Qh _ _).mpr ⟨h1 x hx,h2 x hx⟩
def zeb (L:List Rk):Bool:=decide (1<=L.length)&&zec L
theorem right_eq (L:List Rk):zeb L=((decide (1<=L.length)&&decide (L.length<=20))&&((List.range L.length).all (zpt L)&&((List.range L.length).all (zke L)&&((List.range L.length).all (zhc L)&&(List.range L.length).all (zib L))))):=by
 unfold zeb zec;have e:(List.range L.length).all (zsj L)=((List.range L.length).all (zpt L)&&((List.range L.length).all (zke L)&&((List.range L.length).all (zhc L)&&(List.range L.length).all (zib L)))):=by
  show ((List.range L.length).all fun i=>zpt L i&&(zke L i&&(zhc L i&&zib L i)))=_;rw [zn4 (zpt L),zn4 (zke L),zn4 (zhc L)]
 rw [e,Bool.and_assoc]
theorem zg3 (a:Option Addr) (b off n c:Nat) (L:List Rk) (w:World) (h:zdh w a b off n L) (hn:n<=1048577) (hf:zi5 L) (ht:Tab w) (hw10:22<=w.heap.size):
  Calls prog 279 #[.slice a n c] w fun e w'=>e= .returned (.bool (zeb L))/\Bl w w':=by
 have HR:Hid (zeb L=((decide (1<=n)&&decide (n<=20))&&((List.range n).all (zpt L)&&((List.range n).all (zke L)&&((List.range n).all (zhc L)&&(List.range n).all (zib L)))))):=by
  have:=right_eq L;rw [h.len] at this;exact this
 have cC:=fun w=>zlf n w;have cT:=zrx a b off n c L w h hn hf ht hw10;have hsb:=yd1 hf;rw [h.len] at hsb;have HL:Hid ((List.range (zd7 L).length).all (zef (zd7 L))=(List.range n).all (zpt L)):=hsb;have htl:=zit L;rw [h.len] at htl;have HTL:Hid ((zd7 L).length=2*n):=htl;clear hsb htl;have H:Hid (zdh w a b off n L):=h;clear h hf ht;generalize hb1:(decide (1<=n)&&decide (n<=20))=b1 at*;have HB1:Hid ((decide (1<=n)&&decide (n<=20))=b1):=hb1;clear hb1;cases b1 with
 |false=>
  have HE:Hid (zeb L=false):=by unfold Hid;rw [HR.out,Q0]
  clear HR cT;go_enter func279,ntmps279;go_wp2_with fail;refine (cC _).mono ?_;rintro e w1 ⟨rfl,rfl⟩;go_wp2;go_ret;exact ⟨zae HE.out.symm,Qb _ _⟩
 |true=>
  have hn20:n<=20:=by
   have:=HB1.out;simp at this;exact this.2
  have HR2:Hid (zeb L=((List.range n).all (zpt L)&&((List.range n).all (zke L)&&((List.range n).all (zhc L)&&(List.range n).all (zib L))))):=by unfold Hid;rw [HR.out,Qz]
  clear HR HB1;go_enter func279,ntmps279;go_wp2_with fail;refine (cC _).mono ?_;rintro e w0 ⟨rfl,hw0⟩;have hw1:=hw0.symm;clear hw0;subst hw1;go_wp2_with fail;refine cT.mono ?_;rintro e w2 ⟨v,rfl,hown,b2⟩;have z2:=b2.size;obtain ⟨av,cv,hv⟩:∃av cv,v= .slice av (zd7 L).length cv:=by
   rcases Joins.ownsRow_forms hown with ⟨h1,h2⟩|⟨A,c,h1⟩
   ·exact ⟨none,0,by rw [h2,h1]⟩
   ·exact ⟨_,_,h1⟩
  obtain ⟨A,hA⟩:∃A,0<(zd7 L).length->av=some ⟨A,0,none⟩:=by
   rcases Joins.ownsRow_forms hown with ⟨h1,h2⟩|⟨A,c,h1⟩
   ·exact ⟨0,fun h=>by omega⟩
   ·rw [hv] at h1;injection h1 with h1;exact ⟨A,fun _=>h1⟩
  have hcells:∀i,i<(zd7 L).length->w2.cell? ⟨A,i,none⟩=some (.string ((zd7 L).getD i ByteArray.empty)):=fun i hi=>by
   have e:=hA (by omega);subst hv;subst e
   have:=hown.cells rfl i (.string ((zd7 L).getD i ByteArray.empty)) (by
    rw [Qa,Qd hi];simp [zdw,hi])
   rwa [Addr.add_lit,Qq] at this
  have htl:(zd7 L).length<=40:=by have:=HTL.out;omega
  have cB:=zqp av A (zd7 L).length cv (zd7 L) w2 hA hcells (by omega);rw [HL.out] at cB;subst hv;clear hown hcells hA cT HTL;generalize (zd7 L).length=tl at*;go_wp2_with fail;refine cB.mono ?_;rintro e w3 ⟨rfl,hw3⟩;have hw4:=hw3.symm;clear hw3;subst hw4;clear cB HL;have H2:=H.out.bw b2;have cS:=zxb a b off n c L w2 H2 hn;generalize hb2:(List.range n).all (zpt L)=c2 at*;clear hb2;cases c2 with
  |false=>
   have HE:Hid (zeb L=false):=by unfold Hid;rw [HR2.out,Q0]
   clear HR2 cS H2;go_wp2;go_ret;exact ⟨zae HE.out.symm,b2⟩
  |true=>
   have HR3:Hid (zeb L=((List.range n).all (zke L)&&((List.range n).all (zhc L)&&(List.range n).all (zib L)))):=by unfold Hid;rw [HR2.out,Qz]
   clear HR2;go_wp2_with fail;refine cS.mono ?_;rintro e w4 ⟨rfl,b4'⟩;have b4:=b2.trans (b4'.mono z2);have z4:=b4.size;clear cS b4' H2;have H4:=H.out.bw b4;have cR:=yap a b off n c L w4 H4 hn;generalize hb2:(List.range n).all (zke L)=c2 at*;clear hb2;cases c2 with
   |false=>
    have HE:Hid (zeb L=false):=by unfold Hid;rw [HR3.out,Q0]
    clear HR3 cR H4;go_wp2;go_ret;exact ⟨zae HE.out.symm,b4⟩
   |true=>
    have HR4:Hid (zeb L=((List.range n).all (zhc L)&&(List.range n).all (zib L))):=by unfold Hid;rw [HR3.out,Qz]
    clear HR3;go_wp2_with fail;refine cR.mono ?_;rintro e w5 ⟨rfl,b5'⟩;have b5:=b4.trans (b5'.mono z4);have z5:=b5.size;clear cR b5' H4;have H5:=H.out.bw b5;have cD:=zwn a b off n c L w5 H5 hn;generalize hb2:(List.range n).all (zhc L)=c2 at*;clear hb2;cases c2 with
    |false=>
     have HE:Hid (zeb L=false):=by unfold Hid;rw [HR4.out,Q0]
     clear HR4 cD H5;go_wp2;go_ret;exact ⟨zae HE.out.symm,b5⟩
    |true=>
     have HE:Hid (zeb L=(List.range n).all (zib L)):=by unfold Hid;rw [HR4.out,Qz]
     clear HR4;go_wp2_with fail;refine cD.mono ?_;rintro e w6 ⟨rfl,b6'⟩;have b6:=b5.trans (b6'.mono z5);clear cD b6' H5;generalize (List.range n).all (zib L)=rr at*;go_wp2;go_ret;exact ⟨zae HE.out.symm,b6⟩
end Go.Proofs.YtokafonppgppdaaGreatDoor.Kk
namespace Go.Proofs.YtokafonppgppdaaGreatDoor
open Tryz
open Go.Lib
open Kk (Rk rk0 zd7 zju zc6 zea zeb zec zsj zke zjw zou)
variable {w w':World} {B size n:Nat} {e:TypeId} {v:Value} {xs:List Value} {s:ByteArray}
structure Vl where
 kind:Int
 text:ByteArray
 ia:List ByteArray
 pj:List (ByteArray×ByteArray)
 rq:List Rk
def bz:ByteArray:=⟨#[]⟩
def vl0:Vl:=⟨0,bz,[],[],[]⟩
def zco (ps:List (ByteArray×ByteArray)):List ByteArray:=ps.flatMap fun p=> [p.1,p.2]
def zcy (t:ByteArray):Bool:=decide (t.size<=200)
def countB (n:Nat):Bool:=decide (1<=n)&&decide (n<=20)
def zt8 (ps:List (ByteArray×ByteArray)):Bool:=(List.range ps.length).all fun i=>decide (i=0)||Op.bytesLess (ps.getD (i-1) (bz,bz)).1.toList (ps.getD i (bz,bz)).1.toList
def zdl (ts:List ByteArray):Bool:=countB ts.length&&ts.all zcy
def zcu (ps:List (ByteArray×ByteArray)):Bool:=countB ps.length&&((zco ps).all zcy&&zt8 ps)
open Go.RowKit Go.Sort
def zdw (ts:List ByteArray):List Value:=ts.map Value.string
abbrev zcx (w:World) (B:Nat) (v:Value) (ts:List ByteArray):Prop:=w.ownsRow B 9 1 v ts.length (zdw ts)
theorem zfx (w:World) (B:Nat):zcx w B (.slice none 0 0) []:=World.ownsRow_nil _ _ _ _
theorem zaz (h:w.ownsRow B e size v n xs) {g:Nat} (hg:v.ownBlock=some g):B<=g/\g<w.heap.size:=h.lt g hg
theorem zai (h:w.ownsRow B e size v n xs) (hb:∀g,v.ownBlock=some g->w'.heap[g]?=w.heap[g]?):w'.ownsRow B e size v n xs:=by
 rcases h with ⟨h1,h2|⟨g,cap,cur,rfl,q1,q2,q3⟩⟩
 ·exact ⟨h1,.inl h2⟩
 ·exact ⟨h1,.inr ⟨g,cap,cur,rfl,q1,(hb g rfl).trans q2,q3⟩⟩
theorem zaf (h:w.ownsRow B e size v n xs) (hb:Bl w w'):w'.ownsRow B e size v n xs:=
 zai h fun g hg=>hb.block g (zaz h hg).2
theorem zad (h:w.ownsRow B e size v n xs):∃a c,v= .slice a n c:=by
 rcases Joins.ownsRow_forms h with ⟨h1,h2⟩|⟨A,c,rfl⟩
 ·exact ⟨none,0,by rw [h2,h1]⟩
 ·exact ⟨some ⟨A,0,none⟩,c,rfl⟩
theorem zdd {w1 w2:World} {o:Obj} (hb:Below B w w1) (hB:B<=w1.heap.size) (h:w1.ownsRow B e size v n xs) (hg:(w1.alloc o).grownBy w2 v.ownBlock):Below B w w2:=by
 have hs:(w1.alloc o).heap.size=w1.heap.size+1:=by simp
 have h2:=hg.size;have h3:=hb.size;exact ⟨hg.os.trans hb.os,hg.tape.trans hb.tape,hg.output.trans hb.output,by omega,fun k hk=> (hg.block k (by omega) (fun e=>by have:=(zaz h e.symm).1;omega)).trans ((Below.heap_alloc _ _ _ (by omega)).trans (hb.block k hk))⟩
theorem zos (h:0<s.size):s.toList.isEmpty=false:=by
 rw [ByteArray.toList_eq];rw [Lib.size_eq] at h;cases hd:s.data.toList with
 |nil=>rw [hd] at h;cases h
 |cons b r=>rfl
theorem zlz (h:s.size=0):s.toList.isEmpty=true:=by
 rw [ByteArray.toList_eq];rw [Lib.size_eq] at h;cases hd:s.data.toList with
 |nil=>rfl
 |cons b r=>rw [hd] at h;cases h
theorem zut (ts us:List ByteArray):zdw (ts++us)=zdw ts++zdw us:=List.map_append
abbrev Pr:=ByteArray×ByteArray
def yf8 (p:Pr):List Value:=[.string p.1,.string p.2]
def zal (ps:List Pr):List Value:=ps.flatMap yf8
abbrev zd2 (w:World) (B:Nat) (v:Value) (ps:List Pr):Prop:=w.ownsRow B 145 2 v ps.length (zal ps)
theorem zc5 (ps qs:List Pr):zal (ps++qs)=zal ps++zal qs:=List.flatMap_append
theorem zh7 (w:World) (B:Nat):zd2 w B (.slice none 0 0) []:=World.ownsRow_nil _ _ _ _
theorem zj8:(prog.info? 145).map (fun i=> (i.zero,i.size,i.bytes))=some (some (.agg #[.string ⟨#[]⟩,.string ⟨#[]⟩]),2,32):=by kernel_rfl
theorem zba {P:Program} {ops:Array Oper} {o:Oper} {a:Act} {K:Act->World->Prop} {Q:Exit->Act->World->Prop} {E:Prop} (hg:o.guard=none) (s x:Operand) (t:TypeId)
  (hop:o.op=Op.call { callee:=Callee.builtin Builtin.append,args:= #[s,x],argTypes:= #[t,t] }) {v y v':Value} (hs:a.eval s=v) (hx:a.eval x=y) (hr:(Builtin.append_ #[t,t] o.type #[v,y]).run P w= .ok v' w')
  (hK:K (a.put o.dst v') w'):if Region.wanted o (yielded ops a.tmps)=true then Oper.wp P o a w K Q else E:=by
 have hw:Region.wanted o (yielded ops a.tmps)=true:=by simp [Region.wanted,hg]
 rw [if_pos hw];unfold Oper.wp;simp [execOp,hop,resolve,invoke,builtin,hs,hx,hr,Result.andThen];exact hK
theorem yek {V:Value} {ps:List Pr} (x y:ByteArray) (t:TypeId) (ht:prog.underlying t=some (.slice 145)) (h:zd2 w B V ps) (hn:ps.length<=1048576) (hB:B<=w.heap.size):
  ∃v' w',(Builtin.append_ #[t,t] t #[V,.slice (some ⟨w.heap.size,0,none⟩) 1 1]).run prog (w.alloc (.cells #[.string x,.string y] 145))= .ok v' w'/\zd2 w' B v' (ps++ [(x,y)])/\Below B w w':=by
 obtain ⟨i0,hi,hz0,hz1,hz2⟩:=info_parts zj8;have hbl:Bl w (w.alloc (.cells #[.string x,.string y] 145)):=(Qb _ w).alloc (Qc _) _;have oA:=zaf h hbl
 obtain ⟨v',w',hrun,hown,hg,_,hblk⟩:=run_append_own_at (P:=prog) (w.alloc (.cells #[.string x,.string y] 145)) B t t 145 i0 _ 2 32 ht hi hz0 hz1 hz2 rfl (by decide) V ps.length (zal ps) oA ⟨w.heap.size,0,none⟩ 1 1 [.string x,.string y] rfl (fun j u hj=>by
  rw [Addr.add_lit,Qq];exact ((zab.new w 145 #[.string x,.string y]).cell j).trans (by simpa using hj)) (fun u hu=>by simp at hu;rcases hu with rfl|rfl<;>rfl) (by unfold maxLen;omega) (by omega) (by simp;omega)
 refine ⟨v',w',hrun,?_,zdd (Qb _ w) hB h hg⟩;unfold zd2;rw [Qi,zc5];exact hown
end Go.Proofs.YtokafonppgppdaaGreatDoor
