import Derived.Test.YtokafonppgppdaaGreatDoorKa
import Derived.Lib.ItoaLen
import Derived.Lib.EndianBits
import Derived.Lib.IndexBytes
import Derived.Deep.CutBlock
set_option maxHeartbeats 8000000
set_option maxRecDepth 100000
namespace Go.Proofs.YtokafonppgppdaaGreatDoor
namespace Kk
open Tryz
open Go.RowKit Go.Sort
variable {B n size:Nat} {w w':World} {L:List Rk} {e:TypeId} {v:Value} {xs:List Value}
abbrev Tab (w:World):Prop:=Lib.TabIs prog w "internal/strconv.uint64pow10" .u64 Lib.pow10Tab
theorem Bv:∃g,prog.globalNamed "internal/strconv.uint64pow10" =some g/\g<22:=⟨10,by kernel_rfl,by decide⟩
theorem Tab.bw(h:Tab w)(hb:Below B w w')(hB:22<=B):Tab w':=by
 obtain⟨g,hg,hl⟩:=Bv;exact var?_below hb hg (by omega) h
def Mn (s:Int):Prop:= -9223372036854775808<=s/\s<=9223372036854775807
def Md (L:List Rk):Prop:=∀x∈L,Mn x.s
def F1 (s:Int):ByteArray:=⟨(Lib.itoa s).toArray⟩
def Mp (x:Rk):List ByteArray:=[x.m,F1 x.s]
def G8 (L:List Rk):List ByteArray:=L.flatMap Mp
def G1 (T:List ByteArray):List Value:=T.map Value.string
theorem Z7{s:Int}(h:Mn s):(F1 s).size<=21:=by
 show(Lib.itoa s).toArray.size<=21;rw[List.size_toArray];exact Lib.itoa_length_le s h.1 h.2
theorem Bc(L:List Rk):(G8 L).length=2*L.length:=by
 unfold G8;induction L with
 |nil=>rfl
 |cons x l ih=>rw[List.flatMap_cons,Qi,ih,Q1];show 2+2*l.length=_;omega
theorem zz8(L:List Rk)(k:Nat)(h:k<L.length):G8 (L.take (k+1))=G8 (L.take k)++Mp (L.getD k rk0):=by
 unfold G8;rw[Qo h,List.flatMap_append,Qa,Qd h,Option.getD_some];simp
theorem yii(h:Md L)(k:Nat)(hk:k<L.length):Mn (L.getD k rk0).s:=by
 rw[Qa,Qd hk,Option.getD_some];exact h _ (Qv hk)
theorem Et{α:Type}(T:List α)(d:α)(p:α->Bool):((List.range T.length).all fun i=>p (T.getD i d))=T.all p:=by
 rw[Bool.eq_iff_iff,Qw,Qw];constructor
 ·intro h x hx;obtain⟨i,hi,rfl⟩:=List.getElem_of_mem hx;have:=h i (List.mem_range.2 hi);rwa[Qa,Qd hi]at this
 ·intro h i hi;have Ga:=List.mem_range.1 hi;rw[Qa,Qd Ga,Option.getD_some];exact h _ (Qv Ga)
theorem yd1(h:Md L):(List.range (G8 L).length).all (Pf (G8 L))=(List.range L.length).all (N5 L):=by
 have e1:(List.range (G8 L).length).all (Pf (G8 L))=(G8 L).all fun t=>decide (t.size<=200):=Et (G8 L) ByteArray.empty fun t=>decide (t.size<=200);have e2:(List.range L.length).all (N5 L)=L.all fun x=>decide (x.m.size<=200):=Et L rk0 fun x=>decide (x.m.size<=200);rw[e1,e2];clear e1 e2;induction L with
 |nil=>rfl
 |cons x l ih=>
  have hx:=Z7 (h x (by simp));have e:G8 (x::l)=x.m::F1 x.s::G8 l:=rfl;rw[e,List.all_cons,List.all_cons,List.all_cons,ih (fun y hy=>h y (by simp[hy])),Qe (p:=(F1 x.s).size<=200) (by omega),Qz]
theorem Tg:(prog.info? 9).map (fun i=> (i.zero,i.size,i.bytes))=some (some (.string ⟨#[]⟩),1,16):=by kernel_rfl
theorem Ab(s:Int)(w:World)(h:Mn s)(ht:Tab w):Calls prog 115 #[.int .i64 s,.int .i64 10] w fun e w'=>e=.returned (.string (F1 s))/\Bl w w':=
 (Tryz.strconv_FormatInt_10 s h.1 h.2 w ht).mono fun e w' ⟨he,k,os,hw⟩=>⟨he,by
  rw[hw];exact⟨rfl,rfl,rfl,by show w.heap.size<=(w.heap++os).size;rw[Array.size_append];omega,fun j hj=>by show(w.heap++os)[j]?=w.heap[j]?;exact Array.getElem?_append_left (by omega)⟩⟩
theorem Ob{P:Program}{ops:Array Oper}{o:Oper}{a:Act}{K:Act->World->Prop}{Q:Exit->Act->World->Prop}{E:Prop}(hg:o.guard=none)(s x:Operand)(t:TypeId)
 (hop:o.op=Op.call { callee:=Callee.builtin Builtin.append,args:= #[s,x],argTypes:= #[t,t] }){v y v':Value}(hs:a.eval s=v)(hx:a.eval x=y)(hr:(Builtin.append_ #[t,t] o.type #[v,y]).run P w=.ok v' w')
 (hK:K (a.put o.dst v') w'):if Region.wanted o (yielded ops a.tmps)=true then Oper.wp P o a w K Q else E:=by
 have hw:Region.wanted o (yielded ops a.tmps)=true:=by simp[Region.wanted,hg]
 rw[if_pos hw];unfold Oper.wp;simp[execOp,hop,resolve,invoke,builtin,hs,hx,hr,Result.andThen];exact hK
theorem Tc(h:w.ownsRow B e size v n xs)(hb:Bl w w'):w'.ownsRow B e size v n xs:=
 h.kept (row:=none) ⟨hb.os,hb.tape,hb.output,hb.size,fun k hk _=>hb.block k hk⟩ (by rcases Joins.ownsRow_forms h with⟨rfl,_⟩|⟨g,cc,rfl⟩<;>simp[Value.ownBlock])
theorem own_below{W W':World}{x:Value}(h:W.ownsRow B e size x n xs)(hg:W.grownBy W' x.ownBlock)(hB:B<=W.heap.size):Below B W W':=
 ⟨hg.os,hg.tape,hg.output,hg.size,fun k hk=>hg.block k (by omega) fun e=>by have:=(h.lt k e.symm).1;omega⟩
theorem ygj{T:List ByteArray}(m t:ByteArray)(h:w.ownsRow B 9 1 v n (G1 T))(hn:n<=4194304)(hB:B<=w.heap.size):
  ∃v' w',(Builtin.append_ #[25,25] 25 #[v,.slice (some ⟨w.heap.size,0,none⟩) 2 2]).run prog (w.alloc (.cells #[.string m,.string t] 9))=.ok v' w'/\w'.ownsRow B 9 1 v' (n+2) (G1 (T++ [m,t]))/\Below B w w'/\(∀j,j<w.heap.size->v.ownBlock≠some j->w'.heap[j]?=w.heap[j]?):=by
 obtain⟨i0,hi,Ge,Gd,Gc⟩:=info_parts Tg;have ha:=h.alloc (.cells #[.string m,.string t] 9)
 obtain⟨v',w',Gb,Ga,hg,_⟩:=run_append_own (P:=prog) (w.alloc (.cells #[.string m,.string t] 9)) B 25 25 9 i0 _ 1 16 underlying25 hi Ge Gd Gc rfl (by decide) v n (G1 T) ha ⟨w.heap.size,0,none⟩ 2 2 [.string m,.string t] rfl (fun j u hj=>by
  rw[Addr.add_lit,Qq];exact((Fc.new w 9 #[.string m,.string t]).cell j).trans (by simpa using hj)) (fun u hu=>by simp at hu;rcases hu with rfl|rfl<;>rfl) (by unfold maxLen;omega) (by omega) (by simp;omega)
 refine⟨v',w',Gb,?_,?_,?_⟩
 ·have e:G1 (T++ [m,t])=G1 T++ [.string m,.string t]:=by simp[G1]
  rw[e];exact Ga
 ·exact((Qb _ w).alloc hB _).trans (own_below ha hg (by simp;omega))
 ·intro j hj hne;rw[hg.block j (by simp;omega) (fun e=>hne e.symm)];exact Below.heap_alloc _ _ _ hj
theorem zrx(a:Option Addr)(b off n c:Nat)(L:List Rk)(w:World)(h:F7 w a b off n L)(hn:n<=1048577)(hf:Md L)(ht:Tab w)(hw10:22<=w.heap.size):
    Calls prog 303 #[.slice a n c] w fun e w'=>∃v,e=.returned v/\w'.ownsRow w.heap.size 9 1 v (G8 L).length (G1 (G8 L))/\Bl w w':=by
  have H:Hid (F7 w a b off n L):=h;have HL:Hid (L.length=n):=h.len;have HF:Hid (Md L):=hf;have HT:Hid (Tab w):=ht;clear h hf ht;go_enter func303,ntmps303;go_wp2;go_loopw [3,8] (fun v i wr=>∃(k:Nat),k<=n/\i=.int .i64 k/\wr.ownsRow w.heap.size 9 1 v (G8 (L.take k)).length (G1 (G8 (L.take k)))/\Bl w wr) (fun _ i _=>n - (intOf i).toNat)
  case atStart=>exact⟨0,by omega,rfl,⟨rfl,.inl ⟨rfl,rfl⟩⟩,Qb _ _⟩
  case round=>
    obtain⟨k,hk,rfl,Ga,bk⟩:=hrel;have sk:=bk.size;by_cases hlt:k < n
    · have HW:=H.out.bw bk;have hy:=HW.cell k hlt;obtain rfl:=HW.addr (by omega);have d0:=hy.c0;have d1:=hy.c1;have HN:Hid (G8 (L.take (k+1))=G8 (L.take k)++Mp (L.getD k rk0)):=zz8 L k (by rw[HL.out];exact hlt);have Gc:=yii HF.out k (by rw[HL.out];exact hlt);have Gl:(G8 (L.take k)).length<=2097154:=by rw[Bc,Qn];omega
      have TB:=HT.out.bw bk hw10;generalize L.getD k rk0=y at*;obtain⟨ym,ys⟩:=y;dsimp only at d0 d1 Gc;have Gi:Hid (G8 (L.take (k+1))=G8 (L.take k)++ [ym,F1 ys]):=HN.out;generalize G8 (L.take k)=T at*;clear HW hy HN;have r0:=Fc.new wr 147 #[.string ym,.int .i64 ys];have b1:Bl w (wr.alloc (.cells #[.string ym,.int .i64 ys] 147)):=bk.alloc sk _;have Ge:Bl wr (wr.alloc (.cells #[.string ym,.int .i64 ys] 147)):=(Qb _ wr).alloc (Qc _) _;have o1:=Tc Ga Ge;have T1:=TB.bw Ge (by omega);have Gf:wr.heap.size < (wr.alloc (.cells #[.string ym,.int .i64 ys] 147)).heap.size:=by simp
      have Gh:∀g,Value.ownBlock u3=some g->g < wr.heap.size:=fun g hg=>(Ga.lt g hg).2;go_wp2_with fail;generalize wr.alloc (.cells #[.string ym,.int .i64 ys] 147)=W at*;have c0:=r0.cell 0;have c1:=r0.cell 1;simp only[Qm,Qk,Ql]at c0 c1;have TD:Tab W.drew:=T1;have oD:W.drew.ownsRow w.heap.size 9 1 u3 T.length (G1 T):=Tc o1 (below_drewN (Qb _ W) 1);clear Ga TB T1 o1 d0 d1;go_region_held_law (fun W'=>W'.cell? ⟨wr.heap.size,0,none⟩=some (.string ym)/\W'.cell? ⟨wr.heap.size,1,none⟩=some (.int .i64 ys))
        (first | exact⟨c0,c1⟩ | exact S2 | exact S3 | exact S4)
        (first
          | refine Ob rfl (.tmp 12) (.tmp 18) 25 rfl (by simp[Act.eval]) (by simp[Act.eval]) Gd ?_
          | (go_simp;go_at_call 115;refine(Ab ys _ Gc TD).mono ?_;rintro e w2⟨rfl,b2⟩;have z2:W.heap.size<=w2.heap.size:=b2.size;have S2:w2.cell? ⟨wr.heap.size,0,none⟩=some (.string ym)/\w2.cell? ⟨wr.heap.size,1,none⟩=some (.int .i64 ys):=⟨(b2.cell (p:=⟨wr.heap.size,0,none⟩) Gf).trans c0,(b2.cell (p:=⟨wr.heap.size,1,none⟩) Gf).trans c1⟩;have o2:=Tc oD b2;obtain⟨v',w3,Gd,Gb,b3,Gk⟩:=ygj ym (F1 ys) o2 (by omega) (by omega);have S3:(w2.alloc (.cells #[.string ym,.string (F1 ys)] 9)).cell? ⟨wr.heap.size,0,none⟩=some (.string ym)/\(w2.alloc (.cells #[.string ym,.string (F1 ys)] 9)).cell? ⟨wr.heap.size,1,none⟩=some (.int .i64 ys):=by
               have Gg:Bl w2 (w2.alloc (.cells #[.string ym,.string (F1 ys)] 9)):=(Qb _ w2).alloc (Qc _) _;exact⟨(Gg.cell (p:=⟨wr.heap.size,0,none⟩) (show wr.heap.size < _ by omega)).trans S2.1,(Gg.cell (p:=⟨wr.heap.size,1,none⟩) (show wr.heap.size < _ by omega)).trans S2.2⟩
             have S4:w3.cell? ⟨wr.heap.size,0,none⟩=some (.string ym)/\w3.cell? ⟨wr.heap.size,1,none⟩=some (.int .i64 ys):=by
               have he:=Gk wr.heap.size (by omega) (fun e=>by have:=Gh _ e;omega);exact⟨(World.cell?_of_block (w:=w2) he).trans S2.1,(World.cell?_of_block (w:=w2) he).trans S2.2⟩
             have HO:Hid (w3.ownsRow w.heap.size 9 1 v' (T.length+2) (G1 (T++ [ym,F1 ys]))):=Gb;have Gj:Bl w w3:=((below_drewN b1 1).trans (b2.mono (show w.heap.size<=W.heap.size by omega))).trans b3;clear Gb b3 b2))
      all_goals go_wp2
      all_goals
        go_roundw
        case rel=>exact⟨k+1,by omega,by go_num,by rw[Gi.out,Qi];exact HO.out,Gj⟩
        case measure=>simp[intOf];omega
    · obtain rfl:k=n:=by omega
      have HE:Hid (L.take k=L):=by unfold Hid;rw[<- HL.out];exact List.take_length
      rw[HE.out]at Ga;have HO:Hid _:=Ga;clear Ga;go_wp2;go_ret;exact⟨_,rfl,HO.out,bk⟩
theorem De(p q:Nat->Bool):((List.range n).all fun i=>p i&&q i)=((List.range n).all p&&(List.range n).all q):=by
 rw[Bool.eq_iff_iff,Qh,Qw,Qw,Qw];constructor
 ·intro h;exact⟨fun x hx=>((Qh _ _).mp (h x hx)).1,fun x hx=>((Qh _ _).mp (h x hx)).2⟩
 ·rintro⟨h1,h2⟩x hx;exact(Qh _ _).mpr ⟨h1 x hx,h2 x hx⟩
def Hv (L:List Rk):Bool:=decide (1<=L.length)&&G9 L
theorem right_eq(L:List Rk):Hv L=((decide (1<=L.length)&&decide (L.length<=20))&&((List.range L.length).all (N5 L)&&((List.range L.length).all (Mt L)&&((List.range L.length).all (Lj L)&&(List.range L.length).all (Lz L))))):=by
 unfold Hv G9;have e:(List.range L.length).all (O6 L)=((List.range L.length).all (N5 L)&&((List.range L.length).all (Mt L)&&((List.range L.length).all (Lj L)&&(List.range L.length).all (Lz L)))):=by
  show((List.range L.length).all fun i=>N5 L i&&(Mt L i&&(Lj L i&&Lz L i)))=_;rw[De (N5 L),De (Mt L),De (Lj L)]
 rw[e,Bool.and_assoc]
theorem Cs(a:Option Addr)(b off n c:Nat)(L:List Rk)(w:World)(h:F7 w a b off n L)(hn:n<=1048577)(hf:Md L)(ht:Tab w)(hw10:22<=w.heap.size):
  Calls prog 279 #[.slice a n c] w fun e w'=>e=.returned (.bool (Hv L))/\Bl w w':=by
 have HR:Hid (Hv L=((decide (1<=n)&&decide (n<=20))&&((List.range n).all (N5 L)&&((List.range n).all (Mt L)&&((List.range n).all (Lj L)&&(List.range n).all (Lz L)))))):=by
  have:=right_eq L;rw[h.len]at this;exact this
 have cC:=fun w=>K3 n w;have cT:=zrx a b off n c L w h hn hf ht hw10;have Gg:=yd1 hf;rw[h.len]at Gg;have HL:Hid ((List.range (G8 L).length).all (Pf (G8 L))=(List.range n).all (N5 L)):=Gg;have Gc:=Bc L;rw[h.len]at Gc;have Gk:Hid ((G8 L).length=2*n):=Gc;clear Gg Gc;have H:Hid (F7 w a b off n L):=h;clear h hf ht;generalize hb1:(decide (1<=n)&&decide (n<=20))=b1 at*;have Gl:Hid ((decide (1<=n)&&decide (n<=20))=b1):=hb1;clear hb1;cases b1 with
 |false=>
  have HE:Hid (Hv L=false):=by unfold Hid;rw[HR.out,Q0]
  clear HR cT;go_enter func279,ntmps279;go_wp2_with fail;refine(cC _).mono ?_;rintro e w1⟨rfl,rfl⟩;go_wp2;go_ret;exact⟨F0 HE.out.symm,Qb _ _⟩
 |true=>
  have Gq:n<=20:=by
   have:=Gl.out;simp at this;exact this.2
  have Gf:Hid (Hv L=((List.range n).all (N5 L)&&((List.range n).all (Mt L)&&((List.range n).all (Lj L)&&(List.range n).all (Lz L))))):=by unfold Hid;rw[HR.out,Qz]
  clear HR Gl;go_enter func279,ntmps279;go_wp2_with fail;refine(cC _).mono ?_;rintro e w0⟨rfl,Gm⟩;have Gp:=Gm.symm;clear Gm;subst Gp;go_wp2_with fail;refine cT.mono ?_;rintro e w2⟨v,rfl,Gb,b2⟩;have z2:=b2.size;obtain⟨av,cv,hv⟩:∃av cv,v=.slice av (G8 L).length cv:=by
   rcases Joins.ownsRow_forms Gb with⟨h1,h2⟩|⟨A,c,h1⟩
   ·exact⟨none,0,by rw[h2,h1]⟩
   ·exact⟨_,_,h1⟩
  obtain⟨A,hA⟩:∃A,0<(G8 L).length->av=some ⟨A,0,none⟩:=by
   rcases Joins.ownsRow_forms Gb with⟨h1,h2⟩|⟨A,c,h1⟩
   ·exact⟨0,fun h=>by omega⟩
   ·rw[hv]at h1;injection h1 with h1;exact⟨A,fun _=>h1⟩
  have Ga:∀i,i<(G8 L).length->w2.cell? ⟨A,i,none⟩=some (.string ((G8 L).getD i ByteArray.empty)):=fun i hi=>by
   have e:=hA (by omega);subst hv;subst e
   have:=Gb.cells rfl i (.string ((G8 L).getD i ByteArray.empty)) (by
    rw[Qa,Qd hi];simp[G1,hi])
   rwa[Addr.add_lit,Qq]at this
  have Gc:(G8 L).length<=40:=by have:=Gk.out;omega
  have cB:=zqp av A (G8 L).length cv (G8 L) w2 hA Ga (by omega);rw[HL.out]at cB;subst hv;clear Gb Ga hA cT Gk;generalize(G8 L).length=tl at*;go_wp2_with fail;refine cB.mono ?_;rintro e w3⟨rfl,Gh⟩;have Gr:=Gh.symm;clear Gh;subst Gr;clear cB HL;have H2:=H.out.bw b2;have cS:=zxb a b off n c L w2 H2 hn;generalize hb2:(List.range n).all (N5 L)=c2 at*;clear hb2;cases c2 with
  |false=>
   have HE:Hid (Hv L=false):=by unfold Hid;rw[Gf.out,Q0]
   clear Gf cS H2;go_wp2;go_ret;exact⟨F0 HE.out.symm,b2⟩
  |true=>
   have Ge:Hid (Hv L=((List.range n).all (Mt L)&&((List.range n).all (Lj L)&&(List.range n).all (Lz L)))):=by unfold Hid;rw[Gf.out,Qz]
   clear Gf;go_wp2_with fail;refine cS.mono ?_;rintro e w4⟨rfl,Gj⟩;have b4:=b2.trans (Gj.mono z2);have z4:=b4.size;clear cS Gj H2;have H4:=H.out.bw b4;have cR:=yap a b off n c L w4 H4 hn;generalize hb2:(List.range n).all (Mt L)=c2 at*;clear hb2;cases c2 with
   |false=>
    have HE:Hid (Hv L=false):=by unfold Hid;rw[Ge.out,Q0]
    clear Ge cR H4;go_wp2;go_ret;exact⟨F0 HE.out.symm,b4⟩
   |true=>
    have Gd:Hid (Hv L=((List.range n).all (Lj L)&&(List.range n).all (Lz L))):=by unfold Hid;rw[Ge.out,Qz]
    clear Ge;go_wp2_with fail;refine cR.mono ?_;rintro e w5⟨rfl,Gn⟩;have b5:=b4.trans (Gn.mono z4);have z5:=b5.size;clear cR Gn H4;have H5:=H.out.bw b5;have cD:=zwn a b off n c L w5 H5 hn;generalize hb2:(List.range n).all (Lj L)=c2 at*;clear hb2;cases c2 with
    |false=>
     have HE:Hid (Hv L=false):=by unfold Hid;rw[Gd.out,Q0]
     clear Gd cD H5;go_wp2;go_ret;exact⟨F0 HE.out.symm,b5⟩
    |true=>
     have HE:Hid (Hv L=(List.range n).all (Lz L)):=by unfold Hid;rw[Gd.out,Qz]
     clear Gd;go_wp2_with fail;refine cD.mono ?_;rintro e w6⟨rfl,Gi⟩;have b6:=b5.trans (Gi.mono z5);clear cD Gi H5;generalize(List.range n).all (Lz L)=rr at*;go_wp2;go_ret;exact⟨F0 HE.out.symm,b6⟩
end Kk
section
open Tryz
open Go.Lib
open Kk (Rk rk0 G8 Mp F1 L7 Hv G9 O6 Mt Mn Z7)
variable {w w':World} {B size n:Nat} {e:TypeId} {v:Value} {xs:List Value} {s:ByteArray}
structure Vl where
 kind:Int
 text:ByteArray
 ia:List ByteArray
 pj:List (ByteArray×ByteArray)
 rq:List Rk
def bz:ByteArray:=⟨#[]⟩
def vl0:Vl:=⟨0,bz,[],[],[]⟩
def Hj (ps:List (ByteArray×ByteArray)):List ByteArray:=ps.flatMap fun p=> [p.1,p.2]
def Mo (t:ByteArray):Bool:=decide (t.size<=200)
def countB (n:Nat):Bool:=decide (1<=n)&&decide (n<=20)
def Cz (ps:List (ByteArray×ByteArray)):Bool:=(List.range ps.length).all fun i=>decide (i=0)||Op.bytesLess (ps.getD (i-1) (bz,bz)).1.toList (ps.getD i (bz,bz)).1.toList
def Na (ts:List ByteArray):Bool:=countB ts.length&&ts.all Mo
def Ma (ps:List (ByteArray×ByteArray)):Bool:=countB ps.length&&((Hj ps).all Mo&&Cz ps)
open Go.RowKit Go.Sort
def G1 (ts:List ByteArray):List Value:=ts.map Value.string
abbrev Fz (w:World) (B:Nat) (v:Value) (ts:List ByteArray):Prop:=w.ownsRow B 9 1 v ts.length (G1 ts)
theorem Uo(w:World)(B:Nat):Fz w B (.slice none 0 0) []:=World.ownsRow_nil _ _ _ _
theorem Hf(h:w.ownsRow B e size v n xs){g:Nat}(hg:v.ownBlock=some g):B<=g/\g<w.heap.size:=h.lt g hg
theorem Lt(h:w.ownsRow B e size v n xs)(hb:∀g,v.ownBlock=some g->w'.heap[g]?=w.heap[g]?):w'.ownsRow B e size v n xs:=by
 rcases h with⟨h1,h2|⟨g,cap,cur,rfl,q1,q2,q3⟩⟩
 ·exact⟨h1,.inl h2⟩
 ·exact⟨h1,.inr ⟨g,cap,cur,rfl,q1,(hb g rfl).trans q2,q3⟩⟩
theorem Fw(h:w.ownsRow B e size v n xs)(hb:Bl w w'):w'.ownsRow B e size v n xs:=
 Lt h fun g hg=>hb.block g (Hf h hg).2
theorem Fx(h:w.ownsRow B e size v n xs):∃a c,v=.slice a n c:=by
 rcases Joins.ownsRow_forms h with⟨h1,h2⟩|⟨A,c,rfl⟩
 ·exact⟨none,0,by rw[h2,h1]⟩
 ·exact⟨some ⟨A,0,none⟩,c,rfl⟩
theorem R4{w1 w2:World}{o:Obj}(hb:Below B w w1)(hB:B<=w1.heap.size)(h:w1.ownsRow B e size v n xs)(hg:(w1.alloc o).grownBy w2 v.ownBlock):Below B w w2:=by
 have hs:(w1.alloc o).heap.size=w1.heap.size+1:=by simp
 have h2:=hg.size;have h3:=hb.size;exact⟨hg.os.trans hb.os,hg.tape.trans hb.tape,hg.output.trans hb.output,by omega,fun k hk=>(hg.block k (by omega) (fun e=>by have:=(Hf h e.symm).1;omega)).trans ((Below.heap_alloc _ _ _ (by omega)).trans (hb.block k hk))⟩
theorem X5(h:0<s.size):s.toList.isEmpty=false:=by
 rw[ByteArray.toList_eq];rw[Lib.size_eq]at h;cases hd:s.data.toList with
 |nil=>rw[hd]at h;cases h
 |cons b r=>rfl
theorem Y5(h:s.size=0):s.toList.isEmpty=true:=by
 rw[ByteArray.toList_eq];rw[Lib.size_eq]at h;cases hd:s.data.toList with
 |nil=>rfl
 |cons b r=>rw[hd]at h;cases h
theorem zut(ts us:List ByteArray):G1 (ts++us)=G1 ts++G1 us:=List.map_append
abbrev Pr:=ByteArray×ByteArray
def Uy (p:Pr):List Value:=[.string p.1,.string p.2]
def Fn (ps:List Pr):List Value:=ps.flatMap Uy
abbrev G3 (w:World) (B:Nat) (v:Value) (ps:List Pr):Prop:=w.ownsRow B 145 2 v ps.length (Fn ps)
theorem Ta(ps qs:List Pr):Fn (ps++qs)=Fn ps++Fn qs:=List.flatMap_append
theorem Ch(w:World)(B:Nat):G3 w B (.slice none 0 0) []:=World.ownsRow_nil _ _ _ _
theorem Ub:(prog.info? 145).map (fun i=> (i.zero,i.size,i.bytes))=some (some (.agg #[.string ⟨#[]⟩,.string ⟨#[]⟩]),2,32):=by kernel_rfl
theorem Ob{P:Program}{ops:Array Oper}{o:Oper}{a:Act}{K:Act->World->Prop}{Q:Exit->Act->World->Prop}{E:Prop}(hg:o.guard=none)(s x:Operand)(t:TypeId)
 (hop:o.op=Op.call { callee:=Callee.builtin Builtin.append,args:= #[s,x],argTypes:= #[t,t] }){v y v':Value}(hs:a.eval s=v)(hx:a.eval x=y)(hr:(Builtin.append_ #[t,t] o.type #[v,y]).run P w=.ok v' w')
 (hK:K (a.put o.dst v') w'):if Region.wanted o (yielded ops a.tmps)=true then Oper.wp P o a w K Q else E:=by
 have hw:Region.wanted o (yielded ops a.tmps)=true:=by simp[Region.wanted,hg]
 rw[if_pos hw];unfold Oper.wp;simp[execOp,hop,resolve,invoke,builtin,hs,hx,hr,Result.andThen];exact hK
end
namespace Hp
open Tryz
open Go.RowKit
variable {w w1 w2:World} {r:Option Nat}
theorem N6(n a b:Int)(w:World):
  Calls prog 52 #[.int .i64 n,.int .i64 a,.int .i64 b] w fun e w'=>e=.returned (.bool (decide (a<=n/\n<=b)))/\w'=w:=by
 by_cases h1:a<=n
 ·by_cases h2:n<=b;all_goals
   go_enter func52,ntmps52;go_wp2;go_ret;exact⟨by simp[h1,h2],rfl⟩
 ·go_enter func52,ntmps52;go_wp2;go_ret;exact⟨by simp;omega,rfl⟩
end Hp
namespace Kk
open Go.RowKit Go.Sort
variable {w:World} {B:Nat} {L:List Rk}
theorem Up(w:World)(B:Nat):Fo w B (.slice none 0 0) []:=⟨rfl,.inl ⟨rfl,rfl⟩⟩
theorem En{A cap:Nat}(h:Fo w B (.slice (some ⟨A,0,none⟩) L.length cap) L):F7 w (some ⟨A,0,none⟩) A 0 L.length L:=
 ⟨rfl,fun _=>rfl,fun _=>(h.lt A rfl).2,fun i hi=>by rw[Qq];exact ybo h i hi⟩
theorem N7{v:Value}(h:Fo w B v L):∃a A c,v=.slice a L.length c/\F7 w a A 0 L.length L:=by
 rcases Joins.ownsRow_forms h with⟨h1,h2⟩|⟨A,c,rfl⟩
 ·obtain rfl:L=[]:=List.length_eq_zero_iff.mp h2;exact⟨none,0,0,h1,⟨rfl,fun h=>by simp at h,fun h=>by simp at h,fun i hi=>by simp at hi⟩⟩
 ·exact⟨_,A,c,rfl,En h⟩
end Kk
section
open Tryz
open _root_.ByteArray (empty)
open Go.RowKit Go.Sort
open Kk (Rk rk0 G8 Mp F1 L7 Hv G9 Fo G6 encR)
variable {w:World} {B:Nat} {v:Value} {T:List ByteArray} {ps:List Pr}
theorem zq7(T:List ByteArray):(List.range T.length).all (Kk.Pf T)=T.all Mo:=Kk.Et T empty Mo
theorem Ar(h:Fz w B v T):∃a A c,v=.slice a T.length c/\(0<T.length->a=some ⟨A,0,none⟩/\B<=A/\A<w.heap.size)/\T.length<=c/\c<=9223372036854775807/\∀i,i<T.length->w.cell? ⟨A,i,none⟩=some (.string (T.getD i empty)):=by
 obtain⟨h1,⟨h2,h3⟩|⟨g,Ga,Gb,rfl,q1,q2,q3,q4,q5⟩⟩:=h
 ·refine⟨none,0,0,by rw[h2,h3],fun h=>by omega,by omega,by omega,fun i hi=>by omega⟩
 ·have h:Fz w B (.slice (some ⟨g,0,none⟩) T.length Ga) T:=⟨h1,.inr ⟨g,Ga,Gb,rfl,q1,q2,q3,q4,q5⟩⟩;refine⟨some ⟨g,0,none⟩,g,Ga,rfl,fun _=>⟨rfl,(Hf h rfl).1,(Hf h rfl).2⟩,q3,by simpa[maxLen]using q4,fun i hi=>?_⟩
  have:=World.ownsRow.cells h rfl i (.string (T.getD i empty)) (by
   rw[Qa,Qd hi];simp[G1,hi])
  rwa[Addr.add_lit,Qq]at this
theorem N2(h:Fz w B v T)(hz:∀t∈T,t.size<=1048576):∃a A c,v=.slice a T.length c/\Fs w a A 0 T.length T/\T.length<=c/\c<=9223372036854775807:=by
 obtain⟨a,A,c,h1,h2,h3,h4,h5⟩:=Ar h;refine⟨a,A,c,h1,⟨rfl,fun hp=>(h2 hp).1,fun hp=>(h2 hp).2.2,fun i hi=>by rw[Qq];exact h5 i hi,fun i hi=>?_⟩,h3,h4⟩;have:=hz (T.getD i empty) (by rw[Qa,Qd hi];simp);omega
theorem X6(h:Fz w B v T)(hn:T.length<=4194304):Calls prog 123 #[v] w fun e w'=>e=.returned (.bool (T.all Mo))/\w'=w:=by
 obtain⟨a,A,c,rfl,h2,_,_,h5⟩:=Ar h;have:=Kk.zqp a A T.length c T w (fun hp=>(h2 hp).1) h5 hn;rw[zq7]at this;exact this
theorem zv8(t:ByteArray)(w:World):Calls prog 368 #[.string t] w fun e w'=>e=.returned (.bool (Mo t))/\Bl w w':=by
 have ho:Fz (w.alloc (.cells #[.string t] 9)) w.heap.size (.slice (some ⟨w.heap.size,0,none⟩) 1 1) [t]:=⟨rfl,.inr ⟨w.heap.size,1, #[.string t],rfl,Qc _,Fc.new w 9 #[.string t],by simp,by unfold maxLen;omega,by simp,by simp[G1]⟩⟩;have hb:Bl w (w.alloc (.cells #[.string t] 9)):=(Qb _ w).alloc (Qc _) _;have HC:Hid (Cp 123 #[.slice (some ⟨w.heap.size,0,none⟩) 1 1] (w.alloc (.cells #[.string t] 9)) fun e w'=>e=.returned (.bool (Mo t))/\w'=w.alloc (.cells #[.string t] 9)):=by
  have:=X6 ho (by simp);have e:[t].all Mo=Mo t:=by simp
  rw[e]at this;exact this
 have HT:Hid (Cp 369 #[.string t] w fun e w'=>e=.returned (.slice (some ⟨w.heap.size,0,none⟩) 1 1)/\w'=w.alloc (.cells #[.string t] 9)):=by
  unfold Hid;go_enter func369,ntmps369;go_wp2;go_ret;exact⟨rfl,rfl⟩
 generalize Mo t=o at*;clear ho;go_enter func368,ntmps368;go_wp2_with fail;refine HT.out.mono ?_;rintro e w1⟨rfl,rfl⟩;go_wp2_with fail;refine HC.out.mono ?_;rintro e w2⟨rfl,rfl⟩;go_wp2;go_ret;exact⟨rfl,hb⟩
theorem zt6(h:Fz w B v T)(hn:T.length<=1048577):Calls prog 370 #[v] w fun e w'=>e=.returned (.bool (Na T))/\w'=w:=by
 have HB:Hid (Cp 123 #[v] w fun e w'=>e=.returned (.bool (T.all Mo))/\w'=w):=X6 h (by omega);have HT:Hid (Cp 371 #[v] w fun e w'=>e=.returned v/\w'=w):=by
  unfold Hid;go_enter func371,ntmps371;go_wp2;go_ret;exact⟨rfl,rfl⟩
 have HC:Hid (Cp 302 #[.int .i64 T.length] w fun e w'=>e=.returned (.bool (countB T.length))/\w'=w):=Kk.K3 T.length w;obtain⟨a,c,hv⟩:=Fx h;have HE:Hid (Na T=(countB T.length&&T.all Mo)):=rfl;generalize T.all Mo=o2,countB T.length=o1 at*;generalize T.length=n at*;subst hv;clear h;cases o1 with
 |false=>
  have Ga:Hid (Na T=false):=by unfold Hid;rw[HE.out];rfl
  go_enter func370,ntmps370;go_wp2_with fail;refine HC.out.mono ?_;rintro e w1⟨rfl,rfl⟩;go_wp2;go_ret;exact⟨F0 Ga.out.symm,rfl⟩
 |true=>
  have Ga:Hid (Na T=o2):=by unfold Hid;rw[HE.out];rfl
  go_enter func370,ntmps370;go_wp2_with fail;refine HC.out.mono ?_;rintro e w1⟨rfl,rfl⟩;go_wp2_with fail;refine HT.out.mono ?_;rintro e w2⟨rfl,rfl⟩;go_wp2_with fail;refine HB.out.mono ?_;rintro e w3⟨rfl,rfl⟩;go_wp2;go_ret;exact⟨F0 Ga.out.symm,rfl⟩
structure Li (w:World) (a:Option Addr) (b n:Nat) (ps:List Pr):Prop where
 len:ps.length=n
 addr:0<n->a=some ⟨b,0,none⟩
 low:0<n->b<w.heap.size
 c0:∀i,i<n->w.cell? ⟨b,i*2,none⟩=some (.string (ps.getD i (bz,bz)).1)
 c1:∀i,i<n->w.cell? ⟨b,i*2+1,none⟩=some (.string (ps.getD i (bz,bz)).2)
theorem Li.bw{w':World}{a:Option Addr}{b n:Nat}(h:Li w a b n ps)(hb:Bl w w'):Li w' a b n ps:=
 ⟨h.len,h.addr,fun h0=>by have:=h.low h0;have:=hb.size;omega,fun i hi=>(hb.cell (p:=⟨b,i*2,none⟩) (h.low (by omega))).trans (h.c0 i hi),fun i hi=>(hb.cell (p:=⟨b,i*2+1,none⟩) (h.low (by omega))).trans (h.c1 i hi)⟩
theorem Cd:∀(ps:List Pr) (i:Nat),i<ps.length->(Fn ps)[i*2]?=some (.string (ps.getD i (bz,bz)).1)/\(Fn ps)[i*2+1]?=some (.string (ps.getD i (bz,bz)).2)
 | [],i,h=>by simp at h
 |p::ps,0,_=>⟨rfl,rfl⟩
 |p::ps,i+1,h=>by
  have ih:=Cd ps i (by simpa using h);have e:Fn (p::ps)= .string p.1:: .string p.2::Fn ps:=rfl;rw[e,show(i+1)*2=i*2+1+1 from by omega];simpa using ih
theorem Ox(h:G3 w B v ps):∃a A c,v=.slice a ps.length c/\Li w a A ps.length ps:=by
 rcases Joins.ownsRow_forms h with⟨h1,h2⟩|⟨A,c,hv⟩
 ·exact⟨none,0,0,by rw[h1,h2],⟨rfl,fun h=>by omega,fun h=>by omega,fun i hi=>by omega,fun i hi=>by omega⟩⟩
 ·subst hv;refine⟨some ⟨A,0,none⟩,A,c,rfl,⟨rfl,fun _=>rfl,fun _=>(Hf h rfl).2,fun i hi=>?_,fun i hi=>?_⟩⟩
  ·have:=World.ownsRow.cells h rfl (i*2) _ (Cd ps i hi).1;rwa[Addr.add_lit,Qq]at this
  ·have:=World.ownsRow.cells h rfl (i*2+1) _ (Cd ps i hi).2;rwa[Addr.add_lit,Qq]at this
theorem znc(ps:List Pr)(k:Nat)(h:k<ps.length):Hj (ps.take (k+1))=Hj (ps.take k)++ [(ps.getD k (bz,bz)).1,(ps.getD k (bz,bz)).2]:=by
 unfold Hj;rw[Qo h,List.flatMap_append,Qa,Qd h];simp
theorem Tu(ps:List Pr):(Hj ps).length=2*ps.length:=by
 induction ps with
 |nil=>rfl
 |cons p ps ih=>
  have e:Hj (p::ps)=p.1::p.2::Hj ps:=rfl;rw[e,Q1,Q1,ih,Q1];omega
theorem A8(a:Option Addr)(b n c:Nat)(ps:List Pr)(w:World)(h:Li w a b n ps)(hn:n<=1048577):
  Calls prog 253 #[.slice a n c] w fun e w'=>∃v,e=.returned v/\Fz w' w.heap.size v (Hj ps)/\Bl w w':=by
 obtain⟨i0,hi,Ge,Gg,Gc⟩:=info_parts Tg;have H:Hid (Li w a b n ps):=h;have HL:Hid (ps.length=n):=h.len;clear h;go_enter func253,ntmps253;go_wp2;go_loopw [3,8] (fun v i wr=>∃(k:Nat),k<=n/\i=.int .i64 k/\Fz wr w.heap.size v (Hj (ps.take k))/\Bl w wr) (fun _ i _=>n-(intOf i).toNat)
 case atStart=>exact⟨0,by omega,rfl,Uo _ _,Qb _ _⟩
 case round=>
  obtain⟨k,hk,rfl,Ga,bk⟩:=hrel;have sk:=bk.size;by_cases hlt:k<n
  ·have HW:=H.out.bw bk;have d0:=HW.c0 k hlt;have d1:=HW.c1 k hlt;obtain rfl:=HW.addr (by omega);have HN:Hid (Hj (ps.take (k+1))=Hj (ps.take k)++ [(ps.getD k (bz,bz)).1,(ps.getD k (bz,bz)).2]):=znc ps k (by rw[HL.out];exact hlt);have Gh:(Hj (ps.take k)).length<=2097154:=by rw[Tu,Qn];omega
   generalize ps.getD k (bz,bz)=y at*;obtain⟨p,q⟩:=y;have Gd:Hid (Hj (ps.take (k+1))=Hj (ps.take k)++ [p,q]):=HN.out;dsimp only at d0 d1;generalize Hj (ps.take k)=T at*;clear HW HN;have b1:Bl w (wr.alloc (.cells #[.string p,.string q] 145)):=bk.alloc sk _;have Gb:Bl wr (wr.alloc (.cells #[.string p,.string q] 145)):=(Qb _ wr).alloc (Qc _) _;have o1:Fz (wr.alloc (.cells #[.string p,.string q] 145)) w.heap.size u3 T:=Fw Ga Gb;have s1:=Gb.size;go_wp2_with (at_builtin;refine wpList_append_own _ rfl _ _ 25 rfl w.heap.size 9 i0 _ 1 16 underlying25 hi Ge Gg Gc rfl (by decide) _ _ _ rfl (o1.alloc _) ⟨(wr.alloc (.cells #[.string p,.string q] 145)).heap.size,0,none⟩ 2 2 [.string p,.string q] (by simp[Act.eval]) rfl ?c1 ?c2 ?c3 ?c4 ?c5 ?_)
   case c1=>
    intro j u hj;rw[Addr.add_lit,Qq];exact((Fc.new (wr.alloc (.cells #[.string p,.string q] 145)) 9 #[.string p,.string q]).cell j).trans (by simpa using hj)
   case c2=>intro y hy;simp at hy;rcases hy with rfl|rfl<;>rfl
   case c3=>unfold maxLen;omega
   case c4=>omega
   case c5=>simp;omega
   intro v' w5 hown' hgrow _;have Gf:Hid (Bl w w5):=R4 b1 (by omega) o1 hgrow;have O5:Hid (Fz w5 w.heap.size v' (T++ [p,q])):=by
    unfold Hid Fz;rw[Qi,zut];exact hown'
   clear hown' hgrow o1 b1 bk Ga Gb;go_wp2;go_roundw
   case rel=>exact⟨k+1,by omega,by go_num,by rw[Gd.out];exact O5.out,Gf.out⟩
   case measure=>simp[intOf];omega
  ·obtain rfl:k=n:=by omega
   have HE:Hid (ps.take k=ps):=by unfold Hid;rw[<-HL.out];exact List.take_length
   rw[HE.out]at Ga;have HO:Hid _:=Ga;clear Ga;go_wp2;go_ret;exact⟨_,rfl,HO.out,bk⟩
def Rl (x y:Pr):Int:=Lib.compareBytes x.1.data.toList y.1.data.toList
abbrev prV (x:Pr):Value:= .agg #[.string x.1,.string x.2]
theorem znp(x y:Pr)(w:World):Calls prog 277 #[prV x,prV y] w fun e w'=>e=.returned (.int .i64 (Rl x y))/\Bl w w':=by
 obtain⟨x1,x2⟩:=x;obtain⟨y1,y2⟩:=y;have HC:Hid (∀W,Cp 109 #[.string x1,.string y1] W fun e w'=>e=.returned (.int .i64 (Rl (x1,x2) (y1,y2)))/\w'=W):=fun W=>Kk.Dm x1 y1 W;generalize Rl (x1,x2) (y1,y2)=z at*;have hb:Bl w ((w.alloc (.cells #[.string x1,.string x2] 145)).alloc (.cells #[.string y1,.string y2] 145)):=((Qb _ _).alloc (Qc _) _).alloc (by simp) _;go_enter func277,ntmps277;go_wp2_with fail;refine(HC.out _).mono ?_;rintro e w1⟨rfl,rfl⟩;go_wp2;go_ret;exact⟨rfl,hb⟩
def riP (ps:List Pr) (i:Nat):Bool:=decide (i=0)||Op.bytesLess (ps.getD (i-1) (bz,bz)).1.toList (ps.getD i (bz,bz)).1.toList
theorem zrt(ps:List Pr):Cz ps=(List.range ps.length).all (riP ps):=rfl
theorem yaz(x y:Pr):decide (Rl x y<0)=Op.bytesLess x.1.toList y.1.toList:=by
 unfold Rl;rw[Kk.Bk,ByteArray.toList_eq,ByteArray.toList_eq]
section
variable (a:Option Addr) (b n c:Nat) (ps:List Pr) (w:World)
theorem zxf(h:Li w a b n ps)(hn:n<=1048577):
  Calls prog 373 #[.slice a n c,.func (.func 277) #[] #[]] w fun e w'=>e=.returned (.bool ((List.range n).all (riP ps)))/\Bl w w':=by
 have H:Hid (Li w a b n ps):=h;clear h;go_enter func373,ntmps373;go_wp2;go_loopw [5] (fun i wr=>∃(k:Nat),1<=k/\(k<=n\/k=1)/\i=.int .i64 k/\Hid (∀j,j<k->riP ps j=true)/\Bl w wr) (fun i _=>n-(intOf i).toNat)
 case atStart=>exact⟨1,by omega,.inr rfl,rfl,(fun j hj=>by cases (by omega:j=0);rfl),Qb _ _⟩
 case round=>
  obtain⟨k,Gg,hk,rfl,hp,bk⟩:=hrel;by_cases hlt:k<n
  ·have HW:=H.out.bw bk;have c0:=HW.c0 (k-1) (by omega);have c1:=HW.c1 (k-1) (by omega);have d0:=HW.c0 k hlt;have d1:=HW.c1 k hlt;obtain rfl:=HW.addr (by omega);have HS:Hid (riP ps k=decide (Rl (ps.getD (k-1) (bz,bz)) (ps.getD k (bz,bz))<0)):=by
    unfold Hid;rw[yaz];unfold riP;rw[Qf (by omega)];rfl
   generalize ps.getD (k-1) (bz,bz)=x,ps.getD k (bz,bz)=y at*;have HC:Hid (∀W,Cp 277 #[prV x,prV y] W fun e w'=>e=.returned (.int .i64 (Rl x y))/\Bl W w'):=fun W=>znp x y W;generalize Rl x y=z at*;obtain⟨xm,xs⟩:=x;obtain⟨ym,ys⟩:=y;have sk:=bk.size;have hb:=HW.low (by omega);clear HW;dsimp only at c0 c1 d0 d1;have Gh:(1:Int)<=(k:Int):=by omega
   have Ge:(0:Int)<=(k:Int)-1:=by omega
   have Gb:(k:Int)-1<(n:Int):=by omega
   have Gc:(0:Int)<=(k:Int):=by omega
   have Gf:(k:Int)<(n:Int):=by omega
   have Gd:((k:Int)-1).toNat=k-1:=by omega
   have hw:IntKind.i64.wrap ((k:Int)-1)=(k:Int)-1:=Kk.wrap_small (by omega) (by omega);go_upto_region 4 with fail;go_region_held3 (fun W=>W.cell? ⟨b,(k-1)*2,none⟩=some (.string xm)/\W.cell? ⟨b,(k-1)*2+1,none⟩=some (.string xs)/\W.cell? ⟨b,k*2,none⟩=some (.string ym)/\W.cell? ⟨b,k*2+1,none⟩=some (.string ys))
    (first
     |exact⟨c0,c1,d0,d1⟩
     |exact⟨(b1.cell (p:=⟨b,_,none⟩) hb).trans c0,(b1.cell (p:=⟨b,_,none⟩) hb).trans c1,(b1.cell (p:=⟨b,_,none⟩) hb).trans d0,(b1.cell (p:=⟨b,_,none⟩) hb).trans d1⟩)
    (first
     |(go_at_call 277;refine(HC.out _).mono ?_;rintro e w1⟨rfl,b1⟩))
   have b2:Bl w w1:=bk.trans ((Below.trans (below_drewN (Qb _ wr) 1) b1).mono sk);clear b1 Gd hw Ge Gb c0 c1 d0 d1 HC Gc;by_cases hz:z<0
   ·have hd:decide (0<=z)=false:=Qf (by omega);have Ga:Hid (∀j,j<k+1->riP ps j=true):=fun j hj=>by
     by_cases e:j=k
     ·subst e;rw[HS.out,Qe hz]
     ·exact hp.out j (by omega)
    clear hp HS;go_wp2;go_roundw
    case rel=>exact⟨k+1,by omega,.inl (by omega),by go_num,Ga,b2⟩
    case measure=>simp[intOf];omega
   ·have hd:decide (0<=z)=true:=Qe (by omega);have HF:Hid ((List.range n).all (riP ps)=false):=Kk.Rz hlt (by rw[HS.out,Qf hz]);clear hp HS;go_wp2;go_ret;exact⟨F0 HF.out.symm,b2⟩
  ·have HT:Hid ((List.range n).all (riP ps)=true):=Kk.R5 fun j hj=>hp.out j (by omega);clear hp;go_wp2;go_ret;exact⟨F0 HT.out.symm,bk⟩
theorem zt5(h:Li w a b n ps)(hn:n<=1048576):
  Calls prog 372 #[.slice a n c] w fun e w'=>e=.returned (.bool (Ma ps))/\Bl w w':=by
 have Ga:=h.len;have HC:Hid (Cp 302 #[.int .i64 n] w fun e w'=>e=.returned (.bool (countB n))/\w'=w):=Kk.K3 n w;have HE:Hid (Ma ps=(countB n&&((Hj ps).all Mo&&(List.range n).all (riP ps)))):=by
  unfold Hid Ma;rw[zrt,Ga]
 have HT:Hid (Cp 253 #[.slice a n c] w fun e w'=>∃v,e=.returned v/\Fz w' w.heap.size v (Hj ps)/\Bl w w'):=A8 a b n c ps w h (by omega);have Ge:=Tu ps;have HB:Hid (∀v W,Fz W w.heap.size v (Hj ps)->Cp 123 #[v] W fun e w'=>e=.returned (.bool ((Hj ps).all Mo))/\w'=W):=fun v W ho=>X6 ho (by rw[Ge,Ga];omega);have HR:Hid (∀W,Bl w W->Cp 373 #[.slice a n c,.func (.func 277) #[] #[]] W fun e w'=>e=.returned (.bool ((List.range n).all (riP ps)))/\Bl W w'):=fun W hb=>zxf a b n c ps W (h.bw hb) (by omega);clear h Ge Ga;generalize(List.range n).all (riP ps)=o3,countB n=o1,(Hj ps).all Mo=o2 at*;cases o1 with
 |false=>
  have Gb:Hid (Ma ps=false):=by unfold Hid;rw[HE.out];rfl
  go_enter func372,ntmps372;go_wp2_with fail;refine HC.out.mono ?_;rintro e w1⟨rfl,rfl⟩;go_wp2;go_ret;exact⟨F0 Gb.out.symm,Qb _ _⟩
 |true=>
  cases o2 with
  |false=>
   have Gb:Hid (Ma ps=false):=by unfold Hid;rw[HE.out];rfl
   go_enter func372,ntmps372;go_wp2_with fail;refine HC.out.mono ?_;rintro e w1⟨rfl,hw⟩;have Gc:=hw.symm;subst Gc;clear hw;go_wp2_with fail;refine HT.out.mono ?_;rintro e w2⟨v,rfl,o,b2⟩;have Gd:Hid (Cp 123 #[v] w2 fun e w'=>e=.returned (.bool false)/\w'=w2):=HB.out v w2 o;clear o;go_wp2_with fail;refine Gd.out.mono ?_;rintro e w3⟨rfl,rfl⟩;go_wp2;go_ret;exact⟨F0 Gb.out.symm,b2⟩
  |true=>
   have Gb:Hid (Ma ps=o3):=by unfold Hid;rw[HE.out];rfl
   go_enter func372,ntmps372;go_wp2_with fail;refine HC.out.mono ?_;rintro e w1⟨rfl,hw⟩;have Gc:=hw.symm;subst Gc;clear hw;go_wp2_with fail;refine HT.out.mono ?_;rintro e w2⟨v,rfl,o,b2⟩;have Gd:Hid (Cp 123 #[v] w2 fun e w'=>e=.returned (.bool true)/\w'=w2):=HB.out v w2 o;clear o;go_wp2_with fail;refine Gd.out.mono ?_;rintro e w3⟨rfl,hw⟩;have Gc:=hw.symm;subst Gc;clear hw;go_wp2_with fail;refine(HR.out w2 b2).mono ?_;rintro e w4⟨rfl,b4⟩;have Gf:=b2.trans (b4.mono b2.size);go_wp2;go_ret;exact⟨F0 Gb.out.symm,Gf⟩
end
end
section
open Tryz
open _root_.ByteArray (empty)
open Go.RowKit Go.Sort
open Kk (Rk rk0 G8 Mp F1 L7 Hv G9 Fo G6 encR)
variable {B:Nat} {w:World} {v vi vp vr:Value} {ps:List Pr} {rs:List Rk}
theorem zte(a:Option Addr)(A n c:Nat)(T:List ByteArray)(w:World)(hl:T.length=n)(ha:0<n->a=some ⟨A,0,none⟩)(hc:∀i,i<n->w.cell? ⟨A,i,none⟩=some (.string (T.getD i empty)))(hn:n<=1048577):
  Calls prog 136 #[.slice a n c] w fun e w'=>e=.returned (.bool (Na T))/\w'=w:=by
 have HA:Hid (0<n->a=some ⟨A,0,none⟩):=ha;have HC:Hid (∀i,i<n->w.cell? ⟨A,i,none⟩=some (.string (T.getD i empty))):=hc;have HE:Hid (Na T=(countB n&&(List.range n).all (Kk.Pf T))):=by unfold Hid Na;rw[<-hl,zq7]
 have Gb:Hid (countB n=(decide (1<=n)&&decide (n<=20))):=rfl;clear ha hc hl;go_enter func136,ntmps136;go_wp2;go_loopw [3] (fun i wr=>∃(k:Nat),k<=n/\i=.int .i64 k/\Hid (∀j,j<k->Kk.Pf T j=true)/\wr=w) (fun i _=>n-(intOf i).toNat)
 case atStart=>exact⟨0,by omega,rfl,fun j hj=>by omega,rfl⟩
 case round=>
  obtain⟨k,hk,rfl,hp,rfl⟩:=hrel;by_cases hlt:k<n
  ·have c0:=HC.out k hlt;obtain rfl:=HA.out (by omega);have HS:Hid (Kk.Pf T k=decide ((T.getD k empty).size<=200)):=rfl;generalize T.getD k empty=t at*;by_cases hsz:t.size<=200
   ·have Gc:¬(200:Int)<(t.size:Int):=by omega
    have Gd:Hid (∀j,j<k+1->Kk.Pf T j=true):=fun j hj=>by
     by_cases e:j=k
     ·subst e;rw[HS.out,Qe hsz]
     ·exact hp.out j (by omega)
    clear hp HS;go_wp2;go_roundw
    case rel=>exact⟨k+1,by omega,by go_num,Gd,trivial⟩
    case measure=>simp[intOf];omega
   ·have Gc:(200:Int)<(t.size:Int):=by omega
    have HF:Hid (Na T=false):=by unfold Hid;rw[HE.out,Kk.Rz hlt (by rw[HS.out,Qf hsz]),Bool.and_false]
    clear hp HS;go_wp2;go_ret;exact⟨F0 HF.out.symm,rfl⟩
  ·obtain rfl:k=n:=by omega
   have HT:Hid (Na T=(decide (1<=k)&&decide (k<=20))):=by unfold Hid;rw[HE.out,Kk.R5 hp.out,Bool.and_true,Gb.out]
   clear hp HC HA HE Gb;by_cases h1:1<=k
   ·have g1:(1:Int)<=(k:Int):=by omega
    have Ga:Hid (Na T=decide ((k:Int)<=20)):=by unfold Hid;rw[HT.out,Qe h1,Qz];simp;omega
    clear HT h1;go_wp2;go_ret;exact⟨F0 Ga.out.symm,rfl⟩
   ·have g1:¬(1:Int)<=(k:Int):=by omega
    have Ga:Hid (Na T=false):=by unfold Hid;rw[HT.out,Qf h1,Q0]
    clear HT h1;go_wp2;go_ret;exact⟨F0 Ga.out.symm,rfl⟩
def shP (ps:List Pr) (i:Nat):Bool:=decide ((ps.getD i (bz,bz)).1.size<=200)&&decide ((ps.getD i (bz,bz)).2.size<=200)
def okP (ps:List Pr) (i:Nat):Bool:=shP ps i&&riP ps i
theorem K4:∀(ps:List Pr),(Hj ps).all Mo=ps.all fun p=>Mo p.1&&Mo p.2
 |[]=>rfl
 |p::ps=>by
  have e:Hj (p::ps)=p.1::p.2::Hj ps:=rfl;rw[e,List.all_cons,List.all_cons,List.all_cons,K4 ps,Bool.and_assoc]
theorem zz6(ps:List Pr):Ma ps=(countB ps.length&&(List.range ps.length).all (okP ps)):=by
 unfold Ma;rw[zrt,K4,<-Kk.Et ps (bz,bz) (fun p=>Mo p.1&&Mo p.2)];congr 1;exact(Kk.De (n:=ps.length) (fun i=>Mo (ps.getD i (bz,bz)).1&&Mo (ps.getD i (bz,bz)).2) (riP ps)).symm
theorem zr5(a:Option Addr)(b n c:Nat)(ps:List Pr)(w:World)(h:Li w a b n ps)(hn:n<=1048577):
  Calls prog 137 #[.slice a n c] w fun e w'=>e=.returned (.bool (Ma ps))/\∃q,w'=w.drewN q:=by
 have H:Hid (Li w a b n ps):=h;have HE:Hid (Ma ps=(countB n&&(List.range n).all (okP ps))):=by unfold Hid;rw[zz6,h.len]
 have Gi:Hid (countB n=(decide (1<=n)&&decide (n<=20))):=rfl;clear h;go_enter func137,ntmps137;go_wp2;go_loopw [3] (fun i wr=>∃(k q:Nat),k<=n/\i=.int .i64 k/\Hid (∀j,j<k->okP ps j=true)/\wr=w.drewN q) (fun i _=>n-(intOf i).toNat)
 case atStart=>exact⟨0,0,by omega,rfl,fun j hj=>by omega,rfl⟩
 case round=>
  obtain⟨k,q,hk,rfl,hp,Gh⟩:=hrel;have HW:Hid (wr=w.drewN q):=Gh;have HD:=H.out.bw (show Bl w wr by rw[Gh];exact below_drewN (Qb _ _) q);clear Gh;by_cases hlt:k<n
  ·have d0:=HD.c0 k hlt;have d1:=HD.c1 k hlt;obtain rfl:=HD.addr (by omega);have Gf:Hid (okP ps k=((decide ((ps.getD k (bz,bz)).1.size<=200)&&decide ((ps.getD k (bz,bz)).2.size<=200))&&riP ps k)):=rfl;have Gc:Hid (okP ps k=false->Ma ps=false):=fun hf=>by rw[HE.out,Kk.Rz hlt hf,Bool.and_false]
   have Gd:Hid (okP ps k=true->∀j,j<k+1->okP ps j=true):=fun ho j hj=>by
    by_cases e:j=k
    ·subst e;exact ho
    ·exact hp.out j (by omega)
   have Ge:Hid (riP ps k=(decide (k=0)||Op.bytesLess (ps.getD (k-1) (bz,bz)).1.toList (ps.getD k (bz,bz)).1.toList)):=rfl;have Gq:(0:Int)<=(k:Int):=by omega
   have Gm:(k:Int)<(n:Int):=by omega
   have c0:=fun h:0<k=>HD.c0 (k-1) (by omega);generalize ps.getD (k-1) (bz,bz)=x,ps.getD k (bz,bz)=y at*;obtain⟨xm,xs⟩:=x;obtain⟨ym,ys⟩:=y;dsimp only at d0 d1 c0;clear HD hp;by_cases h1:ym.size<=200
   ·have g1:decide ((200:Int)<(ym.size:Int))=false:=Qf (by omega);have Gj:decide (200<ym.size)=false:=Qf (by omega);by_cases h2:ys.size<=200
    ·have g2:decide ((200:Int)<(ys.size:Int))=false:=Qf (by omega);have Gl:decide (200<ys.size)=false:=Qf (by omega);have Ga:Hid (okP ps k=riP ps k):=by unfold Hid;rw[Gf.out];show(decide (ym.size<=200)&&decide (ys.size<=200)&&_)=_;rw[Qe h1,Qe h2];rfl
     clear Gf h1 h2;by_cases hk1:k=0
     ·have g3:decide ((0:Int)<(k:Int))=false:=Qf (by omega);have Gk:decide (0<k)=false:=Qf (by omega);have HY:Hid (∀j,j<k+1->okP ps j=true):=Gd.out (by rw[Ga.out,Ge.out,Qe hk1];rfl);clear Ga Ge Gc Gd c0 hk1;go_wp2;go_quiet ((fail));go_wp2;go_roundw
      case rel=>exact⟨k+1,_,by omega,by go_num,HY,by rw[HW.out,World.drewN_drewN]⟩
      case measure=>simp[intOf];omega
     ·have g3:decide ((0:Int)<(k:Int))=true:=Qe (by omega);have Gk:decide (0<k)=true:=Qe (by omega);have Gn:=c0 (by omega);have Gs:(0:Int)<=(k:Int)-1:=by omega
      have Gp:(k:Int)-1<(n:Int):=by omega
      have Gr:((k:Int)-1).toNat=k-1:=by omega
      have hw:IntKind.i64.wrap ((k:Int)-1)=(k:Int)-1:=Kk.wrap_small (by omega) (by omega);have Gb:Hid (riP ps k=Op.bytesLess xm.toList ym.toList):=by unfold Hid;rw[Ge.out,Qf hk1];rfl
      clear Ge c0 hk1;cases hlss:Op.bytesLess xm.toList ym.toList with
      |true=>
       have HY:Hid (∀j,j<k+1->okP ps j=true):=Gd.out (by rw[Ga.out,Gb.out,hlss]);clear Ga Gb Gc Gd;go_wp2;go_quiet ((fail));go_wp2;go_roundw
       case rel=>exact⟨k+1,_,by omega,by go_num,HY,by rw[HW.out,World.drewN_drewN]⟩
       case measure=>simp[intOf];omega
      |false=>
       have HY:Hid (Ma ps=false):=Gc.out (by rw[Ga.out,Gb.out,hlss]);clear Ga Gb Gc Gd;go_wp2;go_quiet ((fail));go_wp2;go_ret;exact⟨F0 HY.out.symm,_,by rw[HW.out,World.drewN_drewN]⟩
    ·have g2:decide ((200:Int)<(ys.size:Int))=true:=Qe (by omega);have Gl:decide (200<ys.size)=true:=Qe (by omega);have HY:Hid (Ma ps=false):=Gc.out (by rw[Gf.out];show(decide (ym.size<=200)&&decide (ys.size<=200)&&_)=_;rw[Qf h2,Bool.and_false];rfl);clear Gf Ge Gc Gd c0 h1 h2;go_wp2;go_quiet ((fail));go_wp2;go_ret;exact⟨F0 HY.out.symm,_,by rw[HW.out,World.drewN_drewN]⟩
   ·have g1:decide ((200:Int)<(ym.size:Int))=true:=Qe (by omega);have Gj:decide (200<ym.size)=true:=Qe (by omega);have HY:Hid (Ma ps=false):=Gc.out (by rw[Gf.out];show(decide (ym.size<=200)&&_&&_)=_;rw[Qf h1];rfl);clear Gf Ge Gc Gd c0 h1;go_wp2;go_quiet ((fail));go_wp2;go_ret;exact⟨F0 HY.out.symm,_,by rw[HW.out,World.drewN_drewN]⟩
  ·obtain rfl:k=n:=by omega
   have HT:Hid (Ma ps=(decide (1<=k)&&decide (k<=20))):=by unfold Hid;rw[HE.out,Kk.R5 hp.out,Bool.and_true,Gi.out]
   clear hp H HE Gi HD;by_cases h1:1<=k
   ·have g1:(1:Int)<=(k:Int):=by omega
    have Gg:Hid (Ma ps=decide ((k:Int)<=20)):=by unfold Hid;rw[HT.out,Qe h1,Qz];simp;omega
    clear HT h1;go_wp2;go_ret;exact⟨F0 Gg.out.symm,q,HW.out⟩
   ·have g1:¬(1:Int)<=(k:Int):=by omega
    have Gg:Hid (Ma ps=false):=by unfold Hid;rw[HT.out,Qf h1,Q0]
    clear HT h1;go_wp2;go_ret;exact⟨F0 Gg.out.symm,q,HW.out⟩
abbrev Fi:Value:= .slice none 0 0
abbrev vlV (k:Int) (t:ByteArray) (vi vp vr:Value):Value:= .agg #[.int .i64 k,.string t,vi,vp,vr]
abbrev z5:Array Value:= #[.int .i64 0,.string ⟨#[]⟩,.slice none 0 0,.slice none 0 0,.slice none 0 0]
abbrev T4 (w:World) (v0 v1 v2 v3 v4:Value) (b:Nat):World:=((((w.setCell ⟨b,0,none⟩ v0).setCell ⟨b,1,none⟩ v1).setCell ⟨b,2,none⟩ v2).setCell ⟨b,3,none⟩ v3).setCell ⟨b,4,none⟩ v4
theorem S7(w:World)(v0 v1 v2 v3 v4:Value)(b k:Nat)(h:k≠b):(T4 w v0 v1 v2 v3 v4 b).heap[k]?=w.heap[k]?:=by
 unfold T4;rw[Below.heap_setCell _ _ _ _ (by simpa using h),Below.heap_setCell _ _ _ _ (by simpa using h),Below.heap_setCell _ _ _ _ (by simpa using h),Below.heap_setCell _ _ _ _ (by simpa using h),Below.heap_setCell _ _ _ _ (by simpa using h)]
theorem Pw{w1:World}(h:Below B w w1)(v0 v1 v2 v3 v4:Value)(b:Nat)(hb:B<=b):Below B w (T4 w1 v0 v1 v2 v3 v4 b):=
 ((((h.setCell hb _).setCell hb _).setCell hb _).setCell hb _).setCell hb _
theorem Y8(t:ByteArray)(w:World):Calls prog 214 #[.iface 231 (.string t)] w fun e w'=>e=.returned (vlV 1 t Fi Fi Fi)/\Bl w w':=by
 have Ga:∀(w:World),(Instr.typeAssert (.iface 231 (.string t)) 198 231 true).run prog w=.ok (.tuple #[(.string t),.bool true]) w:=fun _=>by kernel_rfl
 go_enter func214,ntmps214;go_wp2;exact bodyPost_ret (v:=vlV 1 t Fi Fi Fi) (by simp[results,results214,go_sem]) rfl ⟨rfl,(Qb _ w).alloc (Qc _) _⟩
section
variable (a:Option Addr) (n c:Nat) (w:World)
theorem zij:Calls prog 214 #[.iface 232 (.slice a n c)] w fun e w'=>e= .returned (vlV 2 ⟨#[]⟩ (.slice a n c) Fi Fi)/\Bl w w':=by
 have Ga:∀(w:World),(Instr.typeAssert (.iface 232 (.slice a n c)) 198 231 true).run prog w= .ok (.tuple #[.string ⟨#[]⟩,.bool false]) w:=fun _=>by kernel_rfl
 have Gb:∀(w:World),(Instr.typeAssert (.iface 232 (.slice a n c)) 198 232 true).run prog w= .ok (.tuple #[(.slice a n c),.bool true]) w:=fun _=>by kernel_rfl
 go_enter func214,ntmps214;go_wp2;exact bodyPost_ret (v:=vlV 2 ⟨#[]⟩ (.slice a n c) Fi Fi) (by simp[results,results214,go_sem]) rfl ⟨rfl,(Qb _ w).alloc (Qc _) _⟩
theorem ziu:Calls prog 214 #[.iface 233 (.slice a n c)] w fun e w'=>e= .returned (vlV 3 ⟨#[]⟩ Fi (.slice a n c) Fi)/\Bl w w':=by
 have Gc:∀(w:World),(Instr.typeAssert (.iface 233 (.slice a n c)) 198 231 true).run prog w= .ok (.tuple #[.string ⟨#[]⟩,.bool false]) w:=fun _=>by kernel_rfl
 have Gb:∀(w:World),(Instr.typeAssert (.iface 233 (.slice a n c)) 198 232 true).run prog w= .ok (.tuple #[.slice none 0 0,.bool false]) w:=fun _=>by kernel_rfl
 have Ga:∀(w:World),(Instr.typeAssert (.iface 233 (.slice a n c)) 198 233 true).run prog w= .ok (.tuple #[(.slice a n c),.bool true]) w:=fun _=>by kernel_rfl
 go_enter func214,ntmps214;go_wp2;exact bodyPost_ret (v:=vlV 3 ⟨#[]⟩ Fi (.slice a n c) Fi) (by simp[results,results214,go_sem]) rfl ⟨rfl,(Qb _ w).alloc (Qc _) _⟩
theorem zid:Calls prog 214 #[.iface 234 (.slice a n c)] w fun e w'=>e= .returned (vlV 4 ⟨#[]⟩ Fi Fi (.slice a n c))/\Bl w w':=by
 have Gd:∀(w:World),(Instr.typeAssert (.iface 234 (.slice a n c)) 198 231 true).run prog w= .ok (.tuple #[.string ⟨#[]⟩,.bool false]) w:=fun _=>by kernel_rfl
 have Gc:∀(w:World),(Instr.typeAssert (.iface 234 (.slice a n c)) 198 232 true).run prog w= .ok (.tuple #[.slice none 0 0,.bool false]) w:=fun _=>by kernel_rfl
 have Gb:∀(w:World),(Instr.typeAssert (.iface 234 (.slice a n c)) 198 233 true).run prog w= .ok (.tuple #[.slice none 0 0,.bool false]) w:=fun _=>by kernel_rfl
 have Ga:∀(w:World),(Instr.typeAssert (.iface 234 (.slice a n c)) 198 234 true).run prog w= .ok (.tuple #[(.slice a n c),.bool true]) w:=fun _=>by kernel_rfl
 go_enter func214,ntmps214;go_wp2;exact bodyPost_ret (v:=vlV 4 ⟨#[]⟩ Fi Fi (.slice a n c)) (by simp[results,results214,go_sem]) rfl ⟨rfl,(Qb _ w).alloc (Qc _) _⟩
end
def Nq (v:Vl):Nat:=v.ia.length+v.pj.length+v.rq.length
def Ls (v:Vl):Bool:=
 if v.kind=1 then Mo v.text&&decide (Nq v=0)
 else if v.kind=2 then decide (v.text.size=0)&&(decide (Nq v=v.ia.length)&&Na v.ia)
 else if v.kind=3 then decide (v.text.size=0)&&(decide (Nq v=v.pj.length)&&Ma v.pj)
 else if v.kind=4 then decide (v.text.size=0)&&(decide (Nq v=v.rq.length)&&(decide (0<Nq v)&&G9 v.rq))
 else false
structure VOwn (w:World) (B:Nat) (v:Vl) (vi vp vr:Value):Prop where
 ia:Fz w B vi v.ia
 pj:G3 w B vp v.pj
 rq:Fo w B vr v.rq
theorem VOwn.bw{w':World}{v:Vl}(h:VOwn w B v vi vp vr)(hb:Bl w w'):VOwn w' B v vi vp vr:=
 ⟨Fw h.ia hb,Fw h.pj hb,Fw h.rq hb⟩
structure Ek (v:Vl):Prop where
 text:v.text.size<=1048576
 ia:v.ia.length<=1048576
 pj:v.pj.length<=1048576
 rq:v.rq.length<=1048576
theorem zr4{T:List ByteArray}(h:Fz w B v T)(hn:T.length<=1048576):Calls prog 136 #[v] w fun e w'=>e=.returned (.bool (Na T))/\w'=w:=by
 obtain⟨a,A,c,rfl,h2,_,_,h5⟩:=Ar h;exact zte a A T.length c T w rfl (fun hp=>(h2 hp).1) h5 (by omega)
theorem zr8(h:G3 w B v ps)(hn:ps.length<=1048576):Calls prog 137 #[v] w fun e w'=>e=.returned (.bool (Ma ps))/\Bl w w':=by
 obtain⟨a,A,c,rfl,Ga⟩:=Ox h;exact(zr5 a A ps.length c ps w Ga (by omega)).mono fun e w' ⟨he,q,hq⟩=>⟨he,by rw[hq];exact below_drewN (Qb _ _) q⟩
theorem zt2(h:Fo w B v rs)(hn:rs.length<=1048576):Calls prog 138 #[v] w fun e w'=>e=.returned (.bool (G9 rs))/\Bl w w':=by
 obtain⟨a,A,c,hv,Ga⟩:=Kk.N7 h;subst hv;exact Kk.zy4 a A 0 rs.length c rs w Ga (by omega)
theorem zx1(v:Vl)(vi vp vr:Value)(B:Nat)(w:World)(h:VOwn w B v vi vp vr)(hf:Ek v):
  Calls prog 95 #[vlV v.kind v.text vi vp vr] w fun e w'=>e=.returned (.bool (Ls v))/\Bl w w':=by
 obtain⟨k,t,is,ps,rs⟩:=v;obtain⟨f1,f2,f3,f4⟩:=hf;dsimp only at f1 f2 f3 f4;obtain⟨ai,ci,Ge⟩:=Fx h.ia;obtain⟨ap,cp,Gf⟩:=Fx h.pj;obtain⟨ar,cr,Gg⟩:=Fx h.rq;dsimp only at Ge Gf Gg;have HB:Hid (∀o,Bl w (w.alloc o)):=fun o=>(Qb _ w).alloc (Qc _) _;have HI:Hid (∀o,Cp 136 #[vi] (w.alloc o) fun e w'=>e=.returned (.bool (Na is))/\w'=w.alloc o):=fun o=>zr4 (h.bw (HB.out o)).ia f2;have HP:Hid (∀o,Cp 137 #[vp] (w.alloc o) fun e w'=>e=.returned (.bool (Ma ps))/\Below (w.alloc o).heap.size (w.alloc o) w'):=fun o=>zr8 (h.bw (HB.out o)).pj f3;have HR:Hid (∀o,Cp 138 #[vr] (w.alloc o) fun e w'=>e=.returned (.bool (G9 rs))/\Below (w.alloc o).heap.size (w.alloc o) w'):=fun o=>zt2 (h.bw (HB.out o)).rq f4;have HN:Hid (Nq ⟨k,t,is,ps,rs⟩=is.length+ps.length+rs.length):=rfl;obtain⟨O,hO⟩:∃O,Ls ⟨k,t,is,ps,rs⟩=O:=⟨_,rfl⟩;have HO:Hid (Ls ⟨k,t,is,ps,rs⟩=O):=hO;rw[hO];show Calls prog 95 #[vlV k t vi vp vr] w _;clear h hO;generalize hni:is.length=ni at*;generalize hnp:ps.length=np at*;generalize hnr:rs.length=nr at*;have Gi:Hid (is.length=ni):=hni;have Gj:Hid (ps.length=np):=hnp;have Gh:Hid (rs.length=nr):=hnr;subst Ge Gf Gg;clear hni hnp hnr;by_cases k1:k=1
 ·subst k1;have Ga:Hid ((decide (t.size<=200)&&decide (ni+np+nr=0))=O):=by
   unfold Hid;rw[<-HO.out];show _=(Mo t&&decide (Nq _=0));rw[HN.out];rfl
  clear HO HI HP HR HN;by_cases hs:t.size<=200
  ·have g1:(t.size:Int)<=200:=by omega
   have Gb:Hid (((ni:Int)+np+nr==0)=O):=by
    unfold Hid;rw[<-Ga.out,Qe hs,Qz,Bool.eq_iff_iff];simp;omega
   clear Ga hs;go_enter func95,ntmps95;go_wp2;go_ret;exact⟨F0 Gb.out,HB.out _⟩
  ·have g1:¬(t.size:Int)<=200:=by omega
   have Gb:Hid (false=O):=by unfold Hid;rw[<-Ga.out,Qf hs,Q0]
   clear Ga hs;go_enter func95,ntmps95;go_wp2;go_ret;exact⟨F0 Gb.out,HB.out _⟩
 have b1:(k==1)=false:=by simpa using k1
 by_cases k2:k=2
 ·subst k2;have Ga:Hid ((decide (t.size=0)&&(decide (ni+np+nr=ni)&&Na is))=O):=by
   unfold Hid;rw[<-HO.out];show _=(decide (t.size=0)&&(decide (Nq _=is.length)&&Na is));rw[HN.out,Gi.out]
  clear HO HP HR HN k1 b1;by_cases hs:t.size=0
  ·have he:=Y5 hs;by_cases hn:ni+np+nr=ni
   ·have g2:((ni:Int)+np+nr==ni)=true:=by simp;omega
    have Gb:Hid (Na is=O):=by unfold Hid;rw[<-Ga.out,Qe hs,Qe hn];rfl
    clear Ga hs hn;go_enter func95,ntmps95;go_wp2_with fail;refine(HI.out _).mono ?_;rintro e w1⟨rfl,rfl⟩;rw[Gb.out];go_wp2;go_ret;exact⟨rfl,HB.out _⟩
   ·have g2:((ni:Int)+np+nr==ni)=false:=by simp;omega
    have Gb:Hid (false=O):=by unfold Hid;rw[<-Ga.out,Qf hn,Q0,Bool.and_false]
    clear Ga hs hn;go_enter func95,ntmps95;go_wp2;go_ret;exact⟨F0 Gb.out,HB.out _⟩
  ·have he:=X5 (s:=t) (by omega);have Gb:Hid (false=O):=by unfold Hid;rw[<-Ga.out,Qf hs,Q0]
   clear Ga hs;go_enter func95,ntmps95;go_wp2;go_ret;exact⟨F0 Gb.out,HB.out _⟩
 have b2:(k==2)=false:=by simpa using k2
 by_cases k3:k=3
 ·subst k3;have Ga:Hid ((decide (t.size=0)&&(decide (ni+np+nr=np)&&Ma ps))=O):=by
   unfold Hid;rw[<-HO.out];show _=(decide (t.size=0)&&(decide (Nq _=ps.length)&&Ma ps));rw[HN.out,Gj.out]
  clear HO HI HR HN k1 k2 b1 b2;by_cases hs:t.size=0
  ·have he:=Y5 hs;by_cases hn:ni+np+nr=np
   ·have g2:((ni:Int)+np+nr==np)=true:=by simp;omega
    have Gb:Hid (Ma ps=O):=by unfold Hid;rw[<-Ga.out,Qe hs,Qe hn];rfl
    clear Ga hs hn;go_enter func95,ntmps95;go_wp2_with fail;refine(HP.out _).mono ?_;rintro e w1⟨rfl,Gc⟩;have Gd:=(HB.out _).trans (Gc.mono (by simp));rw[Gb.out];clear Gc;go_wp2;go_ret;exact⟨rfl,Gd⟩
   ·have g2:((ni:Int)+np+nr==np)=false:=by simp;omega
    have Gb:Hid (false=O):=by unfold Hid;rw[<-Ga.out,Qf hn,Q0,Bool.and_false]
    clear Ga hs hn;go_enter func95,ntmps95;go_wp2;go_ret;exact⟨F0 Gb.out,HB.out _⟩
  ·have he:=X5 (s:=t) (by omega);have Gb:Hid (false=O):=by unfold Hid;rw[<-Ga.out,Qf hs,Q0]
   clear Ga hs;go_enter func95,ntmps95;go_wp2;go_ret;exact⟨F0 Gb.out,HB.out _⟩
 have b3:(k==3)=false:=by simpa using k3
 by_cases k4:k=4
 ·subst k4;have Ga:Hid ((decide (t.size=0)&&(decide (ni+np+nr=nr)&&(decide (0<ni+np+nr)&&G9 rs)))=O):=by
   unfold Hid;rw[<-HO.out];show _=(decide (t.size=0)&&(decide (Nq _=rs.length)&&(decide (0<Nq _)&&G9 rs)));rw[HN.out,Gh.out]
  clear HO HI HP HN k1 k2 k3 b1 b2 b3;by_cases hs:t.size=0
  ·have he:=Y5 hs;by_cases hn:ni+np+nr=nr
   ·have g2:((ni:Int)+np+nr==nr)=true:=by simp;omega
    by_cases hp:0<ni+np+nr
    ·have g3:(0:Int)<(ni:Int)+np+nr:=by omega
     have Gb:Hid (G9 rs=O):=by unfold Hid;rw[<-Ga.out,Qe hs,Qe hn,Qe hp];rfl
     clear Ga hs hn hp;go_enter func95,ntmps95;go_wp2_with fail;refine(HR.out _).mono ?_;rintro e w1⟨rfl,Gc⟩;have Gd:=(HB.out _).trans (Gc.mono (by simp));rw[Gb.out];clear Gc;go_wp2;go_ret;exact⟨rfl,Gd⟩
    ·have g3:¬(0:Int)<(ni:Int)+np+nr:=by omega
     have Gb:Hid (false=O):=by unfold Hid;rw[<-Ga.out,Qf hp,Q0,Bool.and_false,Bool.and_false]
     clear Ga hs hn hp;go_enter func95,ntmps95;go_wp2;go_ret;exact⟨F0 Gb.out,HB.out _⟩
   ·have g2:((ni:Int)+np+nr==nr)=false:=by simp;omega
    have Gb:Hid (false=O):=by unfold Hid;rw[<-Ga.out,Qf hn,Q0,Bool.and_false]
    clear Ga hs hn;go_enter func95,ntmps95;go_wp2;go_ret;exact⟨F0 Gb.out,HB.out _⟩
  ·have he:=X5 (s:=t) (by omega);have Gb:Hid (false=O):=by unfold Hid;rw[<-Ga.out,Qf hs,Q0]
   clear Ga hs;go_enter func95,ntmps95;go_wp2;go_ret;exact⟨F0 Gb.out,HB.out _⟩
 ·have b4:(k==4)=false:=by simpa using k4
  have Gb:Hid (false=O):=by
   unfold Hid;rw[<-HO.out];unfold Ls;rw[if_neg k1,if_neg k2,if_neg k3,if_neg k4]
  clear HO HI HP HR HN k1 k2 k3 k4;go_enter func95,ntmps95;go_wp2;go_ret;exact⟨F0 Gb.out,HB.out _⟩
theorem zm4:∀(k u:Nat),1<=k->u<10^k->Lib.nDigits u<=k
 |0,u,h,_=>by omega
 |1,u,_,h=>by rw[Lib.nDigits_small (by simpa using h)];omega
 |k+2,u,_,h=>by
  by_cases h10:u<10
  ·rw[Lib.nDigits_small h10];omega
  ·rw[Lib.nDigits_big h10];have:=zm4 (k+1) (u/10) (by omega) (by rw[Nat.pow_succ]at h;omega);omega
theorem zyo(z:Int)(w:World)(h0:-1000000000000000000<=z)(h1:z<=1000000000000000000):
  Calls prog 148 #[.int .i64 z] w fun e w'=>e=.returned (.string ⟨(Lib.itoa z).toArray⟩)/\Bl w w':=by
 by_cases hz:z<0
 ·have e1:-z=((-z).toNat:Int):=by omega
  have hl:(Lib.decDigits (-z).toNat).length<=20:=by
   rw[Lib.decDigits_length];have Ga:(10:Nat)^19=10000000000000000000:=by decide
   have:=zm4 19 (-z).toNat (by omega) (by rw[Ga];omega);omega
  have HI:Hid (Lib.itoa z=45::Lib.decDigits (-z).toNat):=by
   unfold Hid Lib.itoa;rw[if_pos hz,show z.natAbs=(-z).toNat from by omega]
  have HC:Hid (Cp 148 #[.int .i64 ((-z).toNat:Int)] w fun e w'=>e=.returned (.string ⟨(Lib.decDigits (-z).toNat).toArray⟩)/\Bl w w'):=yba (-z).toNat w (by omega);rw[<-e1]at HC;generalize Lib.decDigits (-z).toNat=D at*;clear e1;go_enter func148,ntmps148;go_wp2_with fail;refine HC.out.mono ?_;rintro e w1⟨rfl,b1⟩;go_wp2;go_ret;refine⟨zye ?_,b1⟩;rw[HI.out];exact ByteArray.mk_append_mk [45] D
 ·have e1:z=(z.toNat:Int):=by omega
  have:=yba z.toNat w (by omega);rw[<-e1]at this;have e2:Lib.itoa z=Lib.decDigits z.toNat:=by unfold Lib.itoa;rw[if_neg hz]
  rw[e2];exact this
structure VSm (v:Vl):Prop where
 kind:1<=v.kind/\v.kind<=4
 text:v.text.size<=200
 ni:v.ia.length<=20
 np:v.pj.length<=20
 nr:v.rq.length<=20
 ia:∀t∈v.ia,t.size<=200
 pj:∀p∈v.pj,p.1.size<=200/\p.2.size<=200
 rq:∀r∈v.rq,r.m.size<=200/\-1000000000000000000<=r.s/\r.s<=1000000000000000000
theorem zsl{ts:List ByteArray}(h:Na ts=true):ts.length<=20/\∀t∈ts,t.size<=200:=by
 unfold Na countB at h;simp only[Qh,decide_eq_true_iff,Qw]at h;exact⟨h.1.2,fun t ht=>Qg (h.2 t ht)⟩
theorem zr7(h:Ma ps=true):ps.length<=20/\∀p∈ps,p.1.size<=200/\p.2.size<=200:=by
 unfold Ma countB at h;rw[K4]at h;simp only[Qh,decide_eq_true_iff,Qw]at h;exact⟨h.1.2,fun p hp=>⟨Qg (h.2.1 p hp).1,Qg (h.2.1 p hp).2⟩⟩
theorem zsp(h:G9 rs=true):rs.length<=20/\∀r∈rs,r.m.size<=200/\-1000000000000000000<=r.s/\r.s<=1000000000000000000:=by
 unfold G9 at h;simp only[Qh,decide_eq_true_iff,Qw,List.mem_range]at h;refine⟨h.1,fun r hr=>?_⟩;obtain⟨i,hi,rfl⟩:=List.getElem_of_mem hr;have:=h.2 i hi;unfold Kk.O6 at this;simp only[Qh]at this;have h1:=this.1;have h2:=this.2.1;unfold Kk.N5 at h1;unfold Kk.Mt L7 at h2;rw[Qa,Qd hi]at h1 h2;simp only[Qh,decide_eq_true_iff,Option.getD_some]at h1 h2;exact⟨h1,h2.1,h2.2⟩
theorem Bo{v:Vl}(h:Ls v=true):VSm v:=by
 obtain⟨k,t,is,ps,rs⟩:=v;have Ga:∀{α:Type} (l:List α),l.length=0->l=[]:=fun l h=>List.eq_nil_of_length_eq_zero h;unfold Ls Nq at h;dsimp only at h;split at h
 ·rename_i hk;simp only[Qh,decide_eq_true_iff]at h;have h1:=Ga is (by omega);have h2:=Ga ps (by omega);have h3:=Ga rs (by omega);subst h1 h2 h3;exact⟨by dsimp only;omega,Qg h.1,by simp,by simp,by simp,by simp,by simp,by simp⟩
 ·split at h
  ·rename_i hk;simp only[Qh,decide_eq_true_iff]at h;have h2:=Ga ps (by omega);have h3:=Ga rs (by omega);subst h2 h3;obtain⟨q1,q2⟩:=zsl h.2.2;exact⟨by dsimp only;omega,by dsimp only;omega,q1,by simp,by simp,q2,by simp,by simp⟩
  ·split at h
   ·rename_i hk;simp only[Qh,decide_eq_true_iff]at h;have h2:=Ga is (by omega);have h3:=Ga rs (by omega);subst h2 h3;obtain⟨q1,q2⟩:=zr7 h.2.2;exact⟨by dsimp only;omega,by dsimp only;omega,by simp,q1,by simp,by simp,q2,by simp⟩
   ·split at h
    ·rename_i hk;simp only[Qh,decide_eq_true_iff]at h;have h2:=Ga is (by omega);have h3:=Ga ps (by omega);subst h2 h3;obtain⟨q1,q2⟩:=zsp h.2.2.2;exact⟨by dsimp only;omega,by dsimp only;omega,by simp,by simp,q1,by simp,by simp,q2⟩
    ·cases h
abbrev vC (k:Int) (t:ByteArray) (vi vp vr:Value):Array Value:= #[.int .i64 k,.string t,vi,vp,vr]
theorem Nh{W:World}{g:Nat}{k:Int}{t:ByteArray}(h:Fc W g 45 (vC k t vi vp vr)):W.cell? ⟨g,0,none⟩=some (.int .i64 k)/\W.cell? ⟨g,1,none⟩=some (.string t)/\W.cell? ⟨g,2,none⟩=some vi/\W.cell? ⟨g,3,none⟩=some vp/\W.cell? ⟨g,4,none⟩=some vr:=
 ⟨h.cell 0,h.cell 1,h.cell 2,h.cell 3,h.cell 4⟩
end
namespace Hp
open Go.RowKit Go.Sort
variable {w:World} {B size n A cap p:Nat} {e:TypeId} {xs:List Value} {C:Array Value}
theorem below_drewN(w:World)(q:Nat):Bl w (w.drewN q):=⟨rfl,rfl,rfl,Qc _,fun _ _=>rfl⟩
theorem N9{T T':Nat}{C':Array Value}(h:Fc w p T C)(h':Fc w p T' C'):T=T':=by
 have:some (Obj.cells C T (0,0))=some (Obj.cells C' T' (0,0)):=h.symm.trans h';simp at this;exact this.2
theorem own_ne{T:TypeId}{v:Value}(h:w.ownsRow B e size v n xs)(hr:Fc w p T C)(hT:T≠e):some p≠v.ownBlock:=by
 intro he;obtain⟨_,h|⟨g,Ga,Gb,rfl,_,hg,_⟩⟩:=h
 ·rw[h.1]at he;cases he
 ·simp[Value.ownBlock]at he;subst he;exact hT (N9 hr hg)
end Hp
namespace Kk
open Go.RowKit Go.Sort
variable {w w1 w2:World} {r:Option Nat}
theorem Nl(w:World)(r:Option Nat):w.grownBy w r:=⟨rfl,rfl,rfl,Qc _,fun _ _ _=>rfl⟩
theorem Ly(h:w.grownBy w1 r)(hb:Bl w1 w2):w.grownBy w2 r:=
 ⟨hb.os.trans h.os,hb.tape.trans h.tape,hb.output.trans h.output,Qj h.size hb.size,fun k hk hne=>(hb.block k (by have:=h.size;omega)).trans (h.block k hk hne)⟩
theorem G4(h:w.grownBy w1 r)(h2:w1.grownBy w2 r):w.grownBy w2 r:=
 ⟨h2.os.trans h.os,h2.tape.trans h.tape,h2.output.trans h.output,Qj h.size h2.size,fun k hk hne=>(h2.block k (by have:=h.size;omega) hne).trans (h.block k hk hne)⟩
end Kk
section
open Tryz
open Go.RowKit Go.Sort
open Kk (Rk rk0 G8 Mp F1 L7 Hv G9 Fo G6 encR)
theorem Pm{a b:Int}(h:a=b):Ending.returned (.int .i64 a)=.returned (.int .i64 b):=by rw[h]
theorem L3:∀ps:List Pr,(Fn ps).length=ps.length*2
 |[]=>rfl
 |p::ps=>by
  have e:Fn (p::ps)=.string p.1::.string p.2::Fn ps:=rfl;rw[e,Q1,Q1,L3 ps,Q1];omega
open Kk (Rk rk0 G8 Mp F1 L7 Hv G9 Fo G6 encR F7)
structure VAt (w:World) (v:Vl) (vi vp vr:Value):Prop where
 ia:∃a A c,vi= .slice a v.ia.length c/\Fs w a A 0 v.ia.length v.ia
 pj:∃a A c,vp= .slice a v.pj.length c/\Li w a A v.pj.length v.pj
 rq:∃a A c,vr= .slice a v.rq.length c/\F7 w a A 0 v.rq.length v.rq
theorem VOwn.at{w:World}{B:Nat}{v:Vl}{vi vp vr:Value}(h:VOwn w B v vi vp vr)(hz:∀t∈v.ia,t.size<=1048576):VAt w v vi vp vr:=by
 obtain⟨a1,A1,c1,e1,h1,_,_⟩:=N2 h.ia hz;exact⟨⟨a1,A1,c1,e1,h1⟩,Ox h.pj,Kk.N7 h.rq⟩
section
variable (t:ByteArray) (a1 a2 a3:Option Addr) (ni c1 np c2 nr c3:Nat) (w:World)
theorem zmz:Calls prog 155 #[vlV 1 t (.slice a1 ni c1) (.slice a2 np c2) (.slice a3 nr c3)] w fun e w'=>e= .returned (.iface 231 (.string t))/\Bl w w':=by
 go_enter func155,ntmps155;go_wp2;go_ret;exact⟨rfl,(Qb _ w).alloc (Qc _) _⟩
theorem zls:Calls prog 155 #[vlV 2 t (.slice a1 ni c1) (.slice a2 np c2) (.slice a3 nr c3)] w fun e w'=>e= .returned (.iface 232 (.slice a1 ni c1))/\Bl w w':=by
 go_enter func155,ntmps155;go_wp2;go_ret;exact⟨rfl,(Qb _ w).alloc (Qc _) _⟩
theorem zmd:Calls prog 155 #[vlV 3 t (.slice a1 ni c1) (.slice a2 np c2) (.slice a3 nr c3)] w fun e w'=>e= .returned (.iface 233 (.slice a2 np c2))/\Bl w w':=by
 go_enter func155,ntmps155;go_wp2;go_ret;exact⟨rfl,(Qb _ w).alloc (Qc _) _⟩
theorem zk9:Calls prog 155 #[vlV 4 t (.slice a1 ni c1) (.slice a2 np c2) (.slice a3 nr c3)] w fun e w'=>e= .returned (.iface 234 (.slice a3 nr c3))/\Bl w w':=by
 go_enter func155,ntmps155;go_wp2;go_ret;exact⟨rfl,(Qb _ w).alloc (Qc _) _⟩
end
theorem zm2(k:Int)(t:ByteArray)(a1 a2 a3:Option Addr)(ni c1 np c2 nr c3:Nat)(w:World)(k1:(k==1)=false)(k2:(k==2)=false)(k3:(k==3)=false)(k4:(k==4)=false):Calls prog 155 #[vlV k t (.slice a1 ni c1) (.slice a2 np c2) (.slice a3 nr c3)] w fun e w'=>e=.returned .nilIface/\Bl w w':=by
 go_enter func155,ntmps155;go_wp2;go_ret;exact⟨rfl,(Qb _ w).alloc (Qc _) _⟩
def alone (x y:Nat×Nat×Nat×Nat):Bool:=decide (x.1=y.1)&&(decide (x.2.1=y.2.1)&&(decide (x.2.2.1=y.2.2.1)&&decide (x.2.2.2=y.2.2.2)))
theorem Ed(k:Int)(t:ByteArray)(a1 a2 a3:Option Addr)(ni c1 np c2 nr c3:Nat)(C:Value)(k':Int)(t':ByteArray)(b1 b2 b3:Option Addr)(mi d1 mp d2 mr d3:Nat)(w:World)
 (hC:∀W,Calls prog 214 #[C] W fun e w'=>e=.returned (vlV k' t' (.slice b1 mi d1) (.slice b2 mp d2) (.slice b3 mr d3))/\Bl W w'):
  Calls prog 156 #[vlV k t (.slice a1 ni c1) (.slice a2 np c2) (.slice a3 nr c3),C] w fun e w'=>e=.returned (.bool (alone (t.size,ni,np,nr) (t'.size,mi,mp,mr)))/\Bl w w':=by
 have HC:Hid (∀W,Cp 214 #[C] W fun e w'=>e=.returned (vlV k' t' (.slice b1 mi d1) (.slice b2 mp d2) (.slice b3 mr d3))/\Bl W w'):=hC;have H0:Hid (Fc (w.alloc (.cells (vC k t (.slice a1 ni c1) (.slice a2 np c2) (.slice a3 nr c3)) 45)) w.heap.size 45 (vC k t (.slice a1 ni c1) (.slice a2 np c2) (.slice a3 nr c3))/\Bl w (w.alloc (.cells (vC k t (.slice a1 ni c1) (.slice a2 np c2) (.slice a3 nr c3)) 45))):=⟨Fc.new w 45 _,(Qb _ w).alloc (Qc _) _⟩;have Gd:w.heap.size<(w.alloc (.cells (vC k t (.slice a1 ni c1) (.slice a2 np c2) (.slice a3 nr c3)) 45)).heap.size:=by simp
 clear hC;by_cases g0:t.size=t'.size
 ·have i0:((t.size:Int)==(t'.size:Int))=true:=by simp;omega
  by_cases g1:ni=mi
  ·have i1:((ni:Int)==(mi:Int))=true:=by simp;omega
   by_cases g2:np=mp
   ·have i2:((np:Int)==(mp:Int))=true:=by simp;omega
    obtain⟨o,ho⟩:∃o,decide (nr=mr)=o:=⟨_,rfl⟩;have HO:Hid (alone (t.size,ni,np,nr) (t'.size,mi,mp,mr)=o):=by unfold Hid alone;simp[g0,g1,g2,ho]
    have i3:((nr:Int)==(mr:Int))=o:=by rw[<-ho,Bool.eq_iff_iff];simp;omega
    rw[HO.out];clear g0 g1 g2 ho;go_enter func156,ntmps156;go_wp2_with fail;refine(HC.out _).mono ?_;rintro e w1⟨rfl,Ga⟩;have r1:=Fc.bw H0.out.1 Ga Gd;have Gb:=H0.out.2.trans (Ga.mono H0.out.2.size);have r2:Fc (w1.alloc (.cells (vC k' t' (.slice b1 mi d1) (.slice b2 mp d2) (.slice b3 mr d3)) 45)) w.heap.size 45 (vC k t (.slice a1 ni c1) (.slice a2 np c2) (.slice a3 nr c3)):=Fc.bw r1 ((Qb _ w1).alloc (Qc _) _) r1.lt;obtain⟨e0,e1,e2,e3,e4⟩:=Nh r2;have Gc:Bl w (w1.alloc (.cells (vC k' t' (.slice b1 mi d1) (.slice b2 mp d2) (.slice b3 mr d3)) 45)):=Gb.alloc Gb.size _;clear r1 Ga r2 Gb H0;go_wp2;go_ret;exact⟨rfl,Gc⟩
   ·have i2:((np:Int)==(mp:Int))=false:=by simp;omega
    have HO:Hid (alone (t.size,ni,np,nr) (t'.size,mi,mp,mr)=false):=by unfold Hid alone;simp[g0,g1,g2]
    rw[HO.out];clear g0 g1 g2;go_enter func156,ntmps156;go_wp2_with fail;refine(HC.out _).mono ?_;rintro e w1⟨rfl,Ga⟩;have r1:=Fc.bw H0.out.1 Ga Gd;have Gb:=H0.out.2.trans (Ga.mono H0.out.2.size);have r2:Fc (w1.alloc (.cells (vC k' t' (.slice b1 mi d1) (.slice b2 mp d2) (.slice b3 mr d3)) 45)) w.heap.size 45 (vC k t (.slice a1 ni c1) (.slice a2 np c2) (.slice a3 nr c3)):=Fc.bw r1 ((Qb _ w1).alloc (Qc _) _) r1.lt;obtain⟨e0,e1,e2,e3,e4⟩:=Nh r2;have Gc:Bl w (w1.alloc (.cells (vC k' t' (.slice b1 mi d1) (.slice b2 mp d2) (.slice b3 mr d3)) 45)):=Gb.alloc Gb.size _;clear r1 Ga r2 Gb H0;go_wp2;go_ret;exact⟨rfl,Gc⟩
  ·have i1:((ni:Int)==(mi:Int))=false:=by simp;omega
   have HO:Hid (alone (t.size,ni,np,nr) (t'.size,mi,mp,mr)=false):=by unfold Hid alone;simp[g0,g1]
   rw[HO.out];clear g0 g1;go_enter func156,ntmps156;go_wp2_with fail;refine(HC.out _).mono ?_;rintro e w1⟨rfl,Ga⟩;have r1:=Fc.bw H0.out.1 Ga Gd;have Gb:=H0.out.2.trans (Ga.mono H0.out.2.size);have r2:Fc (w1.alloc (.cells (vC k' t' (.slice b1 mi d1) (.slice b2 mp d2) (.slice b3 mr d3)) 45)) w.heap.size 45 (vC k t (.slice a1 ni c1) (.slice a2 np c2) (.slice a3 nr c3)):=Fc.bw r1 ((Qb _ w1).alloc (Qc _) _) r1.lt;obtain⟨e0,e1,e2,e3,e4⟩:=Nh r2;have Gc:Bl w (w1.alloc (.cells (vC k' t' (.slice b1 mi d1) (.slice b2 mp d2) (.slice b3 mr d3)) 45)):=Gb.alloc Gb.size _;clear r1 Ga r2 Gb H0;go_wp2;go_ret;exact⟨rfl,Gc⟩
 ·have i0:((t.size:Int)==(t'.size:Int))=false:=by simp;omega
  have HO:Hid (alone (t.size,ni,np,nr) (t'.size,mi,mp,mr)=false):=by unfold Hid alone;simp[g0]
  rw[HO.out];clear g0;go_enter func156,ntmps156;go_wp2_with fail;refine(HC.out _).mono ?_;rintro e w1⟨rfl,Ga⟩;have r1:=Fc.bw H0.out.1 Ga Gd;have Gb:=H0.out.2.trans (Ga.mono H0.out.2.size);have r2:Fc (w1.alloc (.cells (vC k' t' (.slice b1 mi d1) (.slice b2 mp d2) (.slice b3 mr d3)) 45)) w.heap.size 45 (vC k t (.slice a1 ni c1) (.slice a2 np c2) (.slice a3 nr c3)):=Fc.bw r1 ((Qb _ w1).alloc (Qc _) _) r1.lt;obtain⟨e0,e1,e2,e3,e4⟩:=Nh r2;have Gc:Bl w (w1.alloc (.cells (vC k' t' (.slice b1 mi d1) (.slice b2 mp d2) (.slice b3 mr d3)) 45)):=Gb.alloc Gb.size _;clear r1 Ga r2 Gb H0;go_wp2;go_ret;exact⟨rfl,Gc⟩
section
variable (t:ByteArray) (a1 a2 a3:Option Addr) (ni c1 np c2 nr c3:Nat) (w:World) (o1 o2:Bool)
theorem zw2
  (hH:∀W,Calls prog 156 #[vlV 1 t (.slice a1 ni c1) (.slice a2 np c2) (.slice a3 nr c3),.iface 231 (.string t)] W fun e w'=>e=.returned (.bool o1)/\Bl W w')
  (hR:∀W,Bl w W->Calls prog 368 #[(.string t)] W fun e w'=>e=.returned (.bool o2)/\Bl W w'):
  Calls prog 111 #[vlV 1 t (.slice a1 ni c1) (.slice a2 np c2) (.slice a3 nr c3)] w fun e w'=>e=.returned (.bool (o1&&o2))/\Bl w w':=by
 have HC:Hid (∀W,Cp 155 #[vlV 1 t (.slice a1 ni c1) (.slice a2 np c2) (.slice a3 nr c3)] W fun e w'=>e=.returned (.iface 231 (.string t))/\Bl W w'):=fun W=>zmz t a1 a2 a3 ni c1 np c2 nr c3 W;have HH:Hid (∀W,Cp 156 #[vlV 1 t (.slice a1 ni c1) (.slice a2 np c2) (.slice a3 nr c3),.iface 231 (.string t)] W fun e w'=>e=.returned (.bool o1)/\Bl W w'):=hH;have HR:Hid (∀W,Bl w W->Cp 368 #[(.string t)] W fun e w'=>e=.returned (.bool o2)/\Bl W w'):=hR;have H0:Hid (Fc (w.alloc (.cells (vC 1 t (.slice a1 ni c1) (.slice a2 np c2) (.slice a3 nr c3)) 45)) w.heap.size 45 (vC 1 t (.slice a1 ni c1) (.slice a2 np c2) (.slice a3 nr c3))/\Bl w (w.alloc (.cells (vC 1 t (.slice a1 ni c1) (.slice a2 np c2) (.slice a3 nr c3)) 45))):=⟨Fc.new w 45 _,(Qb _ w).alloc (Qc _) _⟩;have Gf:w.heap.size<(w.alloc (.cells (vC 1 t (.slice a1 ni c1) (.slice a2 np c2) (.slice a3 nr c3)) 45)).heap.size:=by simp
 clear hH hR;go_enter func111,ntmps111;go_wp2_with fail;refine(HC.out _).mono ?_;rintro e w1⟨rfl,Gd⟩;have r1:=Fc.bw H0.out.1 Gd Gf;have Ga:=H0.out.2.trans (Gd.mono H0.out.2.size);obtain⟨e0,e1,e2,e3,e4⟩:=Nh r1;clear r1 Gd H0;cases o1 with
 |false=>
  go_wp2_with fail;refine(HH.out _).mono ?_;rintro e w2⟨rfl,Gc⟩;have Gb:=Ga.trans (Gc.mono Ga.size);go_wp2;go_ret;exact⟨rfl,Gb⟩
 |true=>
  go_wp2_with fail;refine(HH.out _).mono ?_;rintro e w2⟨rfl,Gc⟩;have Gb:=Ga.trans (Gc.mono Ga.size);clear Gc Ga e0 e1 e2 e3 e4;go_wp2_with fail;refine(HR.out _ Gb).mono ?_;rintro e w3⟨rfl,Ge⟩;have Gg:=Gb.trans (Ge.mono Gb.size);go_wp2;go_ret;exact⟨rfl,Gg⟩
theorem ztc
  (hH:∀W,Calls prog 156 #[vlV 2 t (.slice a1 ni c1) (.slice a2 np c2) (.slice a3 nr c3),.iface 232 (.slice a1 ni c1)] W fun e w'=>e=.returned (.bool o1)/\Bl W w')
  (hR:∀W,Bl w W->Calls prog 370 #[(.slice a1 ni c1)] W fun e w'=>e=.returned (.bool o2)/\Bl W w'):
  Calls prog 111 #[vlV 2 t (.slice a1 ni c1) (.slice a2 np c2) (.slice a3 nr c3)] w fun e w'=>e=.returned (.bool (o1&&o2))/\Bl w w':=by
 have HC:Hid (∀W,Cp 155 #[vlV 2 t (.slice a1 ni c1) (.slice a2 np c2) (.slice a3 nr c3)] W fun e w'=>e=.returned (.iface 232 (.slice a1 ni c1))/\Bl W w'):=fun W=>zls t a1 a2 a3 ni c1 np c2 nr c3 W;have HH:Hid (∀W,Cp 156 #[vlV 2 t (.slice a1 ni c1) (.slice a2 np c2) (.slice a3 nr c3),.iface 232 (.slice a1 ni c1)] W fun e w'=>e=.returned (.bool o1)/\Bl W w'):=hH;have HR:Hid (∀W,Bl w W->Cp 370 #[(.slice a1 ni c1)] W fun e w'=>e=.returned (.bool o2)/\Bl W w'):=hR;have H0:Hid (Fc (w.alloc (.cells (vC 2 t (.slice a1 ni c1) (.slice a2 np c2) (.slice a3 nr c3)) 45)) w.heap.size 45 (vC 2 t (.slice a1 ni c1) (.slice a2 np c2) (.slice a3 nr c3))/\Bl w (w.alloc (.cells (vC 2 t (.slice a1 ni c1) (.slice a2 np c2) (.slice a3 nr c3)) 45))):=⟨Fc.new w 45 _,(Qb _ w).alloc (Qc _) _⟩;have Gf:w.heap.size<(w.alloc (.cells (vC 2 t (.slice a1 ni c1) (.slice a2 np c2) (.slice a3 nr c3)) 45)).heap.size:=by simp
 clear hH hR;go_enter func111,ntmps111;go_wp2_with fail;refine(HC.out _).mono ?_;rintro e w1⟨rfl,Gd⟩;have r1:=Fc.bw H0.out.1 Gd Gf;have Ga:=H0.out.2.trans (Gd.mono H0.out.2.size);obtain⟨e0,e1,e2,e3,e4⟩:=Nh r1;clear r1 Gd H0;cases o1 with
 |false=>
  go_wp2_with fail;refine(HH.out _).mono ?_;rintro e w2⟨rfl,Gc⟩;have Gb:=Ga.trans (Gc.mono Ga.size);go_wp2;go_ret;exact⟨rfl,Gb⟩
 |true=>
  go_wp2_with fail;refine(HH.out _).mono ?_;rintro e w2⟨rfl,Gc⟩;have Gb:=Ga.trans (Gc.mono Ga.size);clear Gc Ga e0 e1 e2 e3 e4;go_wp2_with fail;refine(HR.out _ Gb).mono ?_;rintro e w3⟨rfl,Ge⟩;have Gg:=Gb.trans (Ge.mono Gb.size);go_wp2;go_ret;exact⟨rfl,Gg⟩
theorem ztv
  (hH:∀W,Calls prog 156 #[vlV 3 t (.slice a1 ni c1) (.slice a2 np c2) (.slice a3 nr c3),.iface 233 (.slice a2 np c2)] W fun e w'=>e=.returned (.bool o1)/\Bl W w')
  (hR:∀W,Bl w W->Calls prog 372 #[(.slice a2 np c2)] W fun e w'=>e=.returned (.bool o2)/\Bl W w'):
  Calls prog 111 #[vlV 3 t (.slice a1 ni c1) (.slice a2 np c2) (.slice a3 nr c3)] w fun e w'=>e=.returned (.bool (o1&&o2))/\Bl w w':=by
 have HC:Hid (∀W,Cp 155 #[vlV 3 t (.slice a1 ni c1) (.slice a2 np c2) (.slice a3 nr c3)] W fun e w'=>e=.returned (.iface 233 (.slice a2 np c2))/\Bl W w'):=fun W=>zmd t a1 a2 a3 ni c1 np c2 nr c3 W;have HH:Hid (∀W,Cp 156 #[vlV 3 t (.slice a1 ni c1) (.slice a2 np c2) (.slice a3 nr c3),.iface 233 (.slice a2 np c2)] W fun e w'=>e=.returned (.bool o1)/\Bl W w'):=hH;have HR:Hid (∀W,Bl w W->Cp 372 #[(.slice a2 np c2)] W fun e w'=>e=.returned (.bool o2)/\Bl W w'):=hR;have H0:Hid (Fc (w.alloc (.cells (vC 3 t (.slice a1 ni c1) (.slice a2 np c2) (.slice a3 nr c3)) 45)) w.heap.size 45 (vC 3 t (.slice a1 ni c1) (.slice a2 np c2) (.slice a3 nr c3))/\Bl w (w.alloc (.cells (vC 3 t (.slice a1 ni c1) (.slice a2 np c2) (.slice a3 nr c3)) 45))):=⟨Fc.new w 45 _,(Qb _ w).alloc (Qc _) _⟩;have Gf:w.heap.size<(w.alloc (.cells (vC 3 t (.slice a1 ni c1) (.slice a2 np c2) (.slice a3 nr c3)) 45)).heap.size:=by simp
 clear hH hR;go_enter func111,ntmps111;go_wp2_with fail;refine(HC.out _).mono ?_;rintro e w1⟨rfl,Gd⟩;have r1:=Fc.bw H0.out.1 Gd Gf;have Ga:=H0.out.2.trans (Gd.mono H0.out.2.size);obtain⟨e0,e1,e2,e3,e4⟩:=Nh r1;clear r1 Gd H0;cases o1 with
 |false=>
  go_wp2_with fail;refine(HH.out _).mono ?_;rintro e w2⟨rfl,Gc⟩;have Gb:=Ga.trans (Gc.mono Ga.size);go_wp2;go_ret;exact⟨rfl,Gb⟩
 |true=>
  go_wp2_with fail;refine(HH.out _).mono ?_;rintro e w2⟨rfl,Gc⟩;have Gb:=Ga.trans (Gc.mono Ga.size);clear Gc Ga e0 e1 e2 e3 e4;go_wp2_with fail;refine(HR.out _ Gb).mono ?_;rintro e w3⟨rfl,Ge⟩;have Gg:=Gb.trans (Ge.mono Gb.size);go_wp2;go_ret;exact⟨rfl,Gg⟩
theorem ztj
  (hH:∀W,Calls prog 156 #[vlV 4 t (.slice a1 ni c1) (.slice a2 np c2) (.slice a3 nr c3),.iface 234 (.slice a3 nr c3)] W fun e w'=>e=.returned (.bool o1)/\Bl W w')
  (hR:∀W,Bl w W->Calls prog 279 #[(.slice a3 nr c3)] W fun e w'=>e=.returned (.bool o2)/\Bl W w'):
  Calls prog 111 #[vlV 4 t (.slice a1 ni c1) (.slice a2 np c2) (.slice a3 nr c3)] w fun e w'=>e=.returned (.bool (o1&&o2))/\Bl w w':=by
 have HC:Hid (∀W,Cp 155 #[vlV 4 t (.slice a1 ni c1) (.slice a2 np c2) (.slice a3 nr c3)] W fun e w'=>e=.returned (.iface 234 (.slice a3 nr c3))/\Bl W w'):=fun W=>zk9 t a1 a2 a3 ni c1 np c2 nr c3 W;have HH:Hid (∀W,Cp 156 #[vlV 4 t (.slice a1 ni c1) (.slice a2 np c2) (.slice a3 nr c3),.iface 234 (.slice a3 nr c3)] W fun e w'=>e=.returned (.bool o1)/\Bl W w'):=hH;have HR:Hid (∀W,Bl w W->Cp 279 #[(.slice a3 nr c3)] W fun e w'=>e=.returned (.bool o2)/\Bl W w'):=hR;have H0:Hid (Fc (w.alloc (.cells (vC 4 t (.slice a1 ni c1) (.slice a2 np c2) (.slice a3 nr c3)) 45)) w.heap.size 45 (vC 4 t (.slice a1 ni c1) (.slice a2 np c2) (.slice a3 nr c3))/\Bl w (w.alloc (.cells (vC 4 t (.slice a1 ni c1) (.slice a2 np c2) (.slice a3 nr c3)) 45))):=⟨Fc.new w 45 _,(Qb _ w).alloc (Qc _) _⟩;have Gf:w.heap.size<(w.alloc (.cells (vC 4 t (.slice a1 ni c1) (.slice a2 np c2) (.slice a3 nr c3)) 45)).heap.size:=by simp
 clear hH hR;go_enter func111,ntmps111;go_wp2_with fail;refine(HC.out _).mono ?_;rintro e w1⟨rfl,Gd⟩;have r1:=Fc.bw H0.out.1 Gd Gf;have Ga:=H0.out.2.trans (Gd.mono H0.out.2.size);obtain⟨e0,e1,e2,e3,e4⟩:=Nh r1;clear r1 Gd H0;cases o1 with
 |false=>
  go_wp2_with fail;refine(HH.out _).mono ?_;rintro e w2⟨rfl,Gc⟩;have Gb:=Ga.trans (Gc.mono Ga.size);go_wp2;go_ret;exact⟨rfl,Gb⟩
 |true=>
  go_wp2_with fail;refine(HH.out _).mono ?_;rintro e w2⟨rfl,Gc⟩;have Gb:=Ga.trans (Gc.mono Ga.size);clear Gc Ga e0 e1 e2 e3 e4;go_wp2_with fail;refine(HR.out _ Gb).mono ?_;rintro e w3⟨rfl,Ge⟩;have Gg:=Gb.trans (Ge.mono Gb.size);go_wp2;go_ret;exact⟨rfl,Gg⟩
end
theorem zwk(k:Int)(t:ByteArray)(a1 a2 a3:Option Addr)(ni c1 np c2 nr c3:Nat)(w:World)(k1:(k==1)=false)(k2:(k==2)=false)(k3:(k==3)=false)(k4:(k==4)=false):
  Calls prog 111 #[vlV k t (.slice a1 ni c1) (.slice a2 np c2) (.slice a3 nr c3)] w fun e w'=>e=.returned (.bool false)/\Bl w w':=by
 have HC:Hid (∀W,Cp 155 #[vlV k t (.slice a1 ni c1) (.slice a2 np c2) (.slice a3 nr c3)] W fun e w'=>e=.returned .nilIface/\Bl W w'):=fun W=>zm2 k t a1 a2 a3 ni c1 np c2 nr c3 W k1 k2 k3 k4;have hb:Bl w (w.alloc (.cells (vC k t (.slice a1 ni c1) (.slice a2 np c2) (.slice a3 nr c3)) 45)):=(Qb _ w).alloc (Qc _) _;have HB:Hid (Bl w (w.alloc (.cells (vC k t (.slice a1 ni c1) (.slice a2 np c2) (.slice a3 nr c3)) 45))):=hb;clear hb k1 k2 k3 k4;go_enter func111,ntmps111;go_wp2_with fail;refine(HC.out _).mono ?_;rintro e w1⟨rfl,Ga⟩;have Gb:=HB.out.trans (Ga.mono HB.out.size);clear Ga;go_wp2;go_ret;exact⟨rfl,Gb⟩
theorem zw0(v:Vl)(vi vp vr:Value)(B:Nat)(w:World)(h:VOwn w B v vi vp vr)(hf:Ek v)(hp2:v.pj.length<=1048576)(hfl:Kk.Md v.rq)(hR:Ready w):
  Calls prog 111 #[vlV v.kind v.text vi vp vr] w fun e w'=>e=.returned (.bool (Ls v))/\Bl w w':=by
 obtain⟨k,t,is,ps,rs⟩:=v;obtain⟨f1,f2,f3,f4⟩:=hf;dsimp only at f1 f2 f3 f4;obtain⟨oi,op,or⟩:=h;dsimp only at oi op or hfl hp2;have h6:=hR.six;show Calls prog 111 #[vlV k t vi vp vr] w fun e w'=>e=.returned (.bool (Ls ⟨k,t,is,ps,rs⟩))/\Bl w w';obtain⟨a1,c1,e1⟩:=Fx oi;obtain⟨a2,c2,e2⟩:=Fx op;obtain⟨a3,c3,e3⟩:=Fx or;subst e1 e2 e3;have z0:(⟨#[]⟩:ByteArray).size=0:=rfl;by_cases k1:k=1
 ·subst k1;have:=zw2 t a1 a2 a3 is.length c1 ps.length c2 rs.length c3 w _ (Mo t) (fun W=>Ed 1 t a1 a2 a3 is.length c1 ps.length c2 rs.length c3 _ 1 t none none none 0 0 0 0 0 0 W (fun W=>Y8 t W)) (fun W _=>zv8 t W);refine this.mono fun e w' ⟨he,hb⟩=>⟨?_,hb⟩;rw[he];refine F0 ?_;unfold Ls alone Nq;dsimp only;rw[if_pos rfl,Bool.eq_iff_iff];simp only[Qh,decide_eq_true_iff];constructor
  ·rintro⟨⟨_,q1,q2,q3⟩,q4⟩;exact⟨q4,by omega⟩
  ·rintro⟨q4,q5⟩;exact⟨⟨by simp,by omega,by omega,by omega⟩,q4⟩
 by_cases k2:k=2
 ·subst k2;have:=ztc t a1 a2 a3 is.length c1 ps.length c2 rs.length c3 w _ (Na is) (fun W=>Ed 2 t a1 a2 a3 is.length c1 ps.length c2 rs.length c3 _ 2 ⟨#[]⟩ a1 none none is.length c1 0 0 0 0 W (fun W=>zij a1 is.length c1 W)) (fun W hb=>(zt6 (Fw oi hb) (by omega)).mono fun e w' ⟨he,hw⟩=>⟨he,by rw[hw];exact Qb _ _⟩);refine this.mono fun e w' ⟨he,hb⟩=>⟨?_,hb⟩;rw[he];refine F0 ?_;unfold Ls alone Nq;dsimp only;rw[if_neg (by decide),if_pos rfl,Bool.eq_iff_iff,z0];simp only[Qh,decide_eq_true_iff];constructor
  ·rintro⟨⟨q0,_,q2,q3⟩,q4⟩;exact⟨q0,by omega,q4⟩
  ·rintro⟨q0,q1,q4⟩;exact⟨⟨q0,by simp,by omega,by omega⟩,q4⟩
 by_cases k3:k=3
 ·subst k3
  have:=ztv t a1 a2 a3 is.length c1 ps.length c2 rs.length c3 w _ (Ma ps) (fun W=>Ed 3 t a1 a2 a3 is.length c1 ps.length c2 rs.length c3 _ 3 ⟨#[]⟩ none a2 none 0 0 ps.length c2 0 0 W (fun W=>ziu a2 ps.length c2 W)) (fun W hb=>by
   obtain⟨a,A,c,hv,Ga⟩:=Ox (Fw op hb);rw[hv];exact zt5 a A _ c _ W Ga (by omega))
  refine this.mono fun e w' ⟨he,hb⟩=>⟨?_,hb⟩;rw[he];refine F0 ?_;unfold Ls alone Nq;dsimp only;rw[if_neg (by decide),if_neg (by decide),if_pos rfl,Bool.eq_iff_iff,z0];simp only[Qh,decide_eq_true_iff];constructor
  ·rintro⟨⟨q0,q1,_,q3⟩,q4⟩;exact⟨q0,by omega,q4⟩
  ·rintro⟨q0,q1,q4⟩;exact⟨⟨q0,by omega,by simp,by omega⟩,q4⟩
 by_cases k4:k=4
 ·subst k4
  have:=ztj t a1 a2 a3 is.length c1 ps.length c2 rs.length c3 w _ (Hv rs) (fun W=>Ed 4 t a1 a2 a3 is.length c1 ps.length c2 rs.length c3 _ 4 ⟨#[]⟩ none none a3 0 0 0 0 rs.length c3 W (fun W=>zid a3 rs.length c3 W)) (fun W hb=>by
   obtain⟨a,A,c,hv,Ga⟩:=Kk.N7 (Fw or hb);rw[hv];have Gb:=hR.bw (hb.mono h6);have:=Gb.six;exact Kk.Cs a A 0 _ c rs W Ga (by omega) hfl Gb.tab (by omega))
  refine this.mono fun e w' ⟨he,hb⟩=>⟨?_,hb⟩;rw[he];refine F0 ?_;unfold Ls alone Nq Hv;dsimp only;rw[if_neg (by decide),if_neg (by decide),if_neg (by decide),if_pos rfl,Bool.eq_iff_iff,z0];simp only[Qh,decide_eq_true_iff];constructor
  ·rintro⟨⟨q0,q1,q2,_⟩,q4,q5⟩;exact⟨q0,by omega,by omega,q5⟩
  ·rintro⟨q0,q1,q4,q5⟩;exact⟨⟨q0,by omega,by omega,by simp⟩,by omega,q5⟩
 ·have:=zwk k t a1 a2 a3 is.length c1 ps.length c2 rs.length c3 w (by simpa using k1) (by simpa using k2) (by simpa using k3) (by simpa using k4);refine this.mono fun e w' ⟨he,hb⟩=>⟨?_,hb⟩;rw[he];refine F0 ?_;unfold Ls;rw[if_neg k1,if_neg k2,if_neg k3,if_neg k4]
end
section
open Tryz
open Go.RowKit Go.Sort
variable {x:UInt8} {n acc k:Nat} {s t:ByteArray} {l:List UInt8} {neg:Bool}
theorem N6(n a b:Int)(w:World):
  Calls prog 52 #[.int .i64 n,.int .i64 a,.int .i64 b] w fun e w'=>e=.returned (.bool (decide (a<=n/\n<=b)))/\w'=w:=by
 by_cases h1:a<=n
 ·by_cases h2:n<=b;all_goals
   go_enter func52,ntmps52;go_wp2;go_ret;exact⟨by simp[h1,h2],rfl⟩
 ·go_enter func52,ntmps52;go_wp2;go_ret;exact⟨by simp;omega,rfl⟩
theorem O9{a:Int}{b:Bool}{c:Int×Bool}(h:c=(a,b)):Ending.returned (.tuple #[.int .i64 a,.bool b])=.returned (.tuple #[.int .i64 c.1,.bool c.2]):=by rw[h]
theorem ykm(s:ByteArray)(i:Nat)(h:i<s.size):s.data.toList[i]?=some (s[i]'h):=by
 have hl:i<s.data.toList.length:=by rw[<-Lib.size_eq];exact h
 rw[Qd hl];rfl
theorem yhn(hn:n<256)(h:¬x.toNat=n):x≠UInt8.ofNat n:=fun e=>h (by rw[e,UInt8.toNat_ofNat'];omega)
theorem yca(h:x.toNat=n):x=UInt8.ofNat n:=by rw[<-h];simp
theorem Dt(h:0<s.size):s.data.toList.head?=some (s[0]'h):=by
 rw[List.head?_eq_getElem?,ykm s 0 h]
theorem yhy(h1:1<s.size)(h2:(s[0]'(by omega)).toNat=45):Mj s.data.toList=true:=by
 unfold Mj;rw[Dt (by omega),yca h2,<-Lib.size_eq];simp[h1]
theorem yak(h1:¬1<s.size):Mj s.data.toList=false:=by
 unfold Mj;rw[<-Lib.size_eq];simp[h1]
theorem yhq(h1:1<s.size)(h2:¬(s[0]'(by omega)).toNat=45):Mj s.data.toList=false:=by
 unfold Mj;rw[Dt (by omega),<-Lib.size_eq];have:=yhn (n:=45) (by omega) h2;simp[h1];exact this
theorem Uv(ht:Lx l=t.data.toList)(hn:Mj l=neg)(h:t.size<1\/19<t.size\/(∃h:0<t.size,(t[0]'h).toNat=48)/\(1<t.size\/neg=true)):Hc l=(0,false):=by
 unfold Hc;rw[ht,hn,<-Lib.size_eq,if_pos];rcases h with h|h|⟨⟨h0,h⟩,h'⟩
 ·exact .inl h
 ·exact .inr (.inl h)
 ·exact .inr (.inr ⟨by rw[Dt h0,yca h];rfl,h'⟩)
theorem E0(ht:Lx l=t.data.toList)(hn:Mj l=neg)(h1:0<t.size)(h2:t.size<=19)(h:(t[0]'h1).toNat=48->t.size<=1/\neg=false):
  Hc l=match Hn 0 t.data.toList with|none=>(0,false)|some n=>(if neg then-(n:Int) else n,Ha (if neg then-(n:Int) else n)):=by
 unfold Hc;rw[ht,hn,<-Lib.size_eq,if_neg]
 ·rfl
 ·rintro(h'|h'|⟨h',Ga⟩)
  ·omega
  ·omega
  ·rw[Dt h1]at h';injection h' with h';have:=h (by rw[h'];rfl);rcases Ga with Ga|Ga
   ·omega
   ·rw[this.2]at Ga;cases Ga
theorem D1(hk:k<t.size)(h:(t[k]'hk).toNat<48\/57<(t[k]'hk).toNat\/100000000000000000<acc):Hn acc (t.data.toList.drop k)=none:=by
 have hl:k<t.data.toList.length:=by rw[<-Lib.size_eq];exact hk
 rw[List.drop_eq_getElem_cons hl,Hn,if_pos];exact h
theorem Dj(hk:k<t.size)(h:¬((t[k]'hk).toNat<48\/57<(t[k]'hk).toNat\/100000000000000000<acc)):Hn acc (t.data.toList.drop k)=Hn (acc*10+((t[k]'hk).toNat-48)) (t.data.toList.drop (k+1)):=by
 have hl:k<t.data.toList.length:=by rw[<-Lib.size_eq];exact hk
 rw[List.drop_eq_getElem_cons hl,Hn,if_neg]
 ·rfl
 ·exact h
theorem D6(hk:t.size<=k):Hn acc (t.data.toList.drop k)=some acc:=by
 rw[List.drop_eq_nil_of_le (by rw[<-Lib.size_eq];exact hk),Hn]
theorem yd4(h:Mj s.data.toList=true):Lx s.data.toList=(s.extract 1 s.size).data.toList:=by
 unfold Lx;rw[if_pos h,Lib.extract_to_end s 1];cases s.data.toList<;>rfl
theorem Aa(h:Mj s.data.toList=false):Lx s.data.toList=s.data.toList:=by
 unfold Lx;rw[h];rfl
section
variable (s:ByteArray) (w:World)
theorem ygv(hs:s.size<=1048576)(h1:1 < s.size)(h2:(s[0]'(by omega)).toNat=45):
    Calls prog 65 #[.string s] w fun e w'=>e=.returned (.tuple #[.int .i64 (Hc s.data.toList).1,.bool (Hc s.data.toList).2])/\w'=w:=by
  have hN:=yhy h1 h2;have hB:=yd4 hN;have Ge:(s.extract 1 s.size).size=s.size - 1:=by simp
  by_cases hb:19 < s.size - 1\/((s.extract 1 s.size)[0]'(by omega)).toNat=48
  · have HR:Hid (Hc s.data.toList=(0,false)):=Uv hB hN (by
      rcases hb with hb | hb
      · exact .inr (.inl (by omega))
      · exact .inr (.inr ⟨⟨by omega,hb⟩,.inr rfl⟩))
    clear hB hN;go_enter func65,ntmps65;go_wp2;all_goals first
      | (exfalso;omega)
      | (go_ret2;exact⟨O9 HR.out,rfl⟩)
  · have HG:Hid (Hc s.data.toList=match Hn 0 (s.extract 1 s.size).data.toList with | none=>(0,false) | some n=>(if true then -(n:Int) else n,Ha (if true then -(n:Int) else n))):=
      E0 hB hN (by omega) (by omega) (fun h=>by omega)
    clear hB hN;go_enter func65,ntmps65;go_wp2;all_goals first
      | (exfalso;omega)
      | skip
    go_loop [5,6] (fun n i=>∃(k Ga:Nat),k<=(s.size - 1)/\i=.int .i64 k/\n=.int .i64 Ga/\Ga<=1000000000000000009/\Hid (Hn 0 (s.extract 1 s.size).data.toList=Hn Ga ((s.extract 1 s.size).data.toList.drop k))) (fun _ i=>(s.size - 1) - (intOf i).toNat)
    case atStart=>exact⟨0,0,by omega,rfl,rfl,by omega,rfl⟩
    case round=>
      obtain⟨k,Ga,hk,rfl,rfl,Gc,HP⟩:=hrel;by_cases hlt:k < (s.size - 1)
      · have Gb:k < (s.extract 1 s.size).size:=by simp;omega
        by_cases hbad:((s.extract 1 s.size)[k]'Gb).toNat < 48\/57 < ((s.extract 1 s.size)[k]'Gb).toNat\/100000000000000000 < Ga
        · rw[D1 Gb hbad]at HP;have HR:Hid (Hc s.data.toList=(0,false)):=by unfold Hid;rw[HG.out,HP.out]
          clear HP HG;go_wp2;all_goals first
            | (exfalso;omega)
            | (go_ret2;exact⟨O9 HR.out,rfl⟩)
        · rw[Dj Gb hbad]at HP;have hx:=((s.extract 1 s.size)[k]'Gb).toNat_lt;have d1:decide ((((s.extract 1 s.size)[k]'Gb).toNat:Int) < 48)=false:=by simp;omega
          have d2:decide ((57:Int) < (((s.extract 1 s.size)[k]'Gb).toNat:Int))=false:=by simp;omega
          have d3:decide ((100000000000000000:Int) < (Ga:Int))=false:=by simp;omega
          go_wp2;all_goals first
            | (exfalso;omega)
            | (go_round
               · exact⟨k+1,Ga*10+(((s.extract 1 s.size)[k]'Gb).toNat - 48),by omega,by go_num,by go_num,by omega,HP.out⟩
               · simp[intOf];omega)
      · have Gd:(s.extract 1 s.size).size<=k:=by simp;omega
        rw[D6 Gd]at HP;have HR:Hid (Hc s.data.toList=(-(Ga:Int),Ha (-(Ga:Int)))):=by
          unfold Hid;rw[HG.out,HP.out];simp
        have HQ:Hid (Ha (-(Ga:Int))=decide (-1000000000000000000<= -(Ga:Int)/\ -(Ga:Int)<=1000000000000000000)):=rfl;clear HP HG;go_wp2_with fail;refine(N6 _ _ _ w).mono ?_;rintro e w1⟨rfl,rfl⟩;rw[<- HQ.out];go_wp2;go_ret2;exact⟨O9 HR.out,rfl⟩
theorem zsi(hs:s.size<=1048576)(h1:¬1 < s.size)(h3:∀h:0 < s.size,(s[0]'h).toNat=48):
    Calls prog 65 #[.string s] w fun e w'=>e=.returned (.tuple #[.int .i64 (Hc s.data.toList).1,.bool (Hc s.data.toList).2])/\w'=w:=by
  have hN:=yak h1;have hB:=Aa hN;by_cases h0:s.size < 1
  · have HR:Hid (Hc s.data.toList=(0,false)):=Uv hB hN (.inl h0);clear hB hN;go_enter func65,ntmps65;go_wp2;all_goals first
      | (exfalso;omega)
      | (go_ret2;exact⟨O9 HR.out,rfl⟩)
  · have h4:=h3 (by omega);by_cases hb:19 < s.size\/((s[0]'(by omega)).toNat=48/\1 < s.size)
    · have HR:Hid (Hc s.data.toList=(0,false)):=Uv hB hN (by
        rcases hb with hb | hb
        · exact .inr (.inl hb)
        · exact .inr (.inr ⟨⟨by omega,hb.1⟩,.inl hb.2⟩))
      clear hB hN;go_enter func65,ntmps65;go_wp2;all_goals first
        | (exfalso;omega)
        | (go_ret2;exact⟨O9 HR.out,rfl⟩)
    · have HG:Hid (Hc s.data.toList=match Hn 0 s.data.toList with | none=>(0,false) | some n=>(if false then -(n:Int) else n,Ha (if false then -(n:Int) else n))):=
        E0 hB hN (by omega) (by omega) (fun h=>⟨by omega,rfl⟩)
      clear hB hN;go_enter func65,ntmps65;go_wp2;all_goals first
        | (exfalso;omega)
        | skip
      go_loop [5,6] (fun n i=>∃(k Ga:Nat),k<=s.size/\i=.int .i64 k/\n=.int .i64 Ga/\Ga<=1000000000000000009/\Hid (Hn 0 s.data.toList=Hn Ga (s.data.toList.drop k))) (fun _ i=>s.size - (intOf i).toNat)
      case atStart=>exact⟨0,0,by omega,rfl,rfl,by omega,rfl⟩
      case round=>
        obtain⟨k,Ga,hk,rfl,rfl,Gc,HP⟩:=hrel;by_cases hlt:k < s.size
        · have Gb:k < s.size:=by omega
          by_cases hbad:(s[k]'Gb).toNat < 48\/57 < (s[k]'Gb).toNat\/100000000000000000 < Ga
          · rw[D1 Gb hbad]at HP;have HR:Hid (Hc s.data.toList=(0,false)):=by unfold Hid;rw[HG.out,HP.out]
            clear HP HG;go_wp2;all_goals first
              | (exfalso;omega)
              | (go_ret2;exact⟨O9 HR.out,rfl⟩)
          · rw[Dj Gb hbad]at HP;have hx:=(s[k]'Gb).toNat_lt;have d1:decide (((s[k]'Gb).toNat:Int) < 48)=false:=by simp;omega
            have d2:decide ((57:Int) < ((s[k]'Gb).toNat:Int))=false:=by simp;omega
            have d3:decide ((100000000000000000:Int) < (Ga:Int))=false:=by simp;omega
            go_wp2;all_goals first
              | (exfalso;omega)
              | (go_round
                 · exact⟨k+1,Ga*10+((s[k]'Gb).toNat - 48),by omega,by go_num,by go_num,by omega,HP.out⟩
                 · simp[intOf];omega)
        · have Gd:s.size<=k:=by omega
          rw[D6 Gd]at HP;have HR:Hid (Hc s.data.toList=((Ga:Int),Ha ((Ga:Int)))):=by
            unfold Hid;rw[HG.out,HP.out];simp
          have HQ:Hid (Ha ((Ga:Int))=decide (-1000000000000000000<=(Ga:Int)/\(Ga:Int)<=1000000000000000000)):=rfl;clear HP HG;go_wp2_with fail;refine(N6 _ _ _ w).mono ?_;rintro e w1⟨rfl,rfl⟩;rw[<- HQ.out];go_wp2;go_ret2;exact⟨O9 HR.out,rfl⟩
theorem zz4(hs:s.size<=1048576)(h1:¬1 < s.size)(h3:∀h:0 < s.size,¬(s[0]'h).toNat=48):
    Calls prog 65 #[.string s] w fun e w'=>e=.returned (.tuple #[.int .i64 (Hc s.data.toList).1,.bool (Hc s.data.toList).2])/\w'=w:=by
  have hN:=yak h1;have hB:=Aa hN;by_cases h0:s.size < 1
  · have HR:Hid (Hc s.data.toList=(0,false)):=Uv hB hN (.inl h0);clear hB hN;go_enter func65,ntmps65;go_wp2;all_goals first
      | (exfalso;omega)
      | (go_ret2;exact⟨O9 HR.out,rfl⟩)
  · have h4:=h3 (by omega);by_cases hb:19 < s.size\/((s[0]'(by omega)).toNat=48/\1 < s.size)
    · have HR:Hid (Hc s.data.toList=(0,false)):=Uv hB hN (by
        rcases hb with hb | hb
        · exact .inr (.inl hb)
        · exact .inr (.inr ⟨⟨by omega,hb.1⟩,.inl hb.2⟩))
      clear hB hN;go_enter func65,ntmps65;go_wp2;all_goals first
        | (exfalso;omega)
        | (go_ret2;exact⟨O9 HR.out,rfl⟩)
    · have HG:Hid (Hc s.data.toList=match Hn 0 s.data.toList with | none=>(0,false) | some n=>(if false then -(n:Int) else n,Ha (if false then -(n:Int) else n))):=
        E0 hB hN (by omega) (by omega) (fun h=>⟨by omega,rfl⟩)
      clear hB hN;go_enter func65,ntmps65;go_wp2;all_goals first
        | (exfalso;omega)
        | skip
      go_loop [5,6] (fun n i=>∃(k Ga:Nat),k<=s.size/\i=.int .i64 k/\n=.int .i64 Ga/\Ga<=1000000000000000009/\Hid (Hn 0 s.data.toList=Hn Ga (s.data.toList.drop k))) (fun _ i=>s.size - (intOf i).toNat)
      case atStart=>exact⟨0,0,by omega,rfl,rfl,by omega,rfl⟩
      case round=>
        obtain⟨k,Ga,hk,rfl,rfl,Gc,HP⟩:=hrel;by_cases hlt:k < s.size
        · have Gb:k < s.size:=by omega
          by_cases hbad:(s[k]'Gb).toNat < 48\/57 < (s[k]'Gb).toNat\/100000000000000000 < Ga
          · rw[D1 Gb hbad]at HP;have HR:Hid (Hc s.data.toList=(0,false)):=by unfold Hid;rw[HG.out,HP.out]
            clear HP HG;go_wp2;all_goals first
              | (exfalso;omega)
              | (go_ret2;exact⟨O9 HR.out,rfl⟩)
          · rw[Dj Gb hbad]at HP;have hx:=(s[k]'Gb).toNat_lt;have d1:decide (((s[k]'Gb).toNat:Int) < 48)=false:=by simp;omega
            have d2:decide ((57:Int) < ((s[k]'Gb).toNat:Int))=false:=by simp;omega
            have d3:decide ((100000000000000000:Int) < (Ga:Int))=false:=by simp;omega
            go_wp2;all_goals first
              | (exfalso;omega)
              | (go_round
                 · exact⟨k+1,Ga*10+((s[k]'Gb).toNat - 48),by omega,by go_num,by go_num,by omega,HP.out⟩
                 · simp[intOf];omega)
        · have Gd:s.size<=k:=by omega
          rw[D6 Gd]at HP;have HR:Hid (Hc s.data.toList=((Ga:Int),Ha ((Ga:Int)))):=by
            unfold Hid;rw[HG.out,HP.out];simp
          have HQ:Hid (Ha ((Ga:Int))=decide (-1000000000000000000<=(Ga:Int)/\(Ga:Int)<=1000000000000000000)):=rfl;clear HP HG;go_wp2_with fail;refine(N6 _ _ _ w).mono ?_;rintro e w1⟨rfl,rfl⟩;rw[<- HQ.out];go_wp2;go_ret2;exact⟨O9 HR.out,rfl⟩
theorem yf6(hs:s.size<=1048576)(h1:1 < s.size)(h2:¬(s[0]'(by omega)).toNat=45):
    Calls prog 65 #[.string s] w fun e w'=>e=.returned (.tuple #[.int .i64 (Hc s.data.toList).1,.bool (Hc s.data.toList).2])/\w'=w:=by
  have hN:=yhq h1 h2;have hB:=Aa hN;by_cases h0:s.size < 1
  · have HR:Hid (Hc s.data.toList=(0,false)):=Uv hB hN (.inl h0);clear hB hN;go_enter func65,ntmps65;go_wp2;all_goals first
      | (exfalso;omega)
      | (go_ret2;exact⟨O9 HR.out,rfl⟩)
  · by_cases hb:19 < s.size\/((s[0]'(by omega)).toNat=48/\1 < s.size)
    · have HR:Hid (Hc s.data.toList=(0,false)):=Uv hB hN (by
        rcases hb with hb | hb
        · exact .inr (.inl hb)
        · exact .inr (.inr ⟨⟨by omega,hb.1⟩,.inl hb.2⟩))
      clear hB hN;go_enter func65,ntmps65;go_wp2;all_goals first
        | (exfalso;omega)
        | (go_ret2;exact⟨O9 HR.out,rfl⟩)
    · have HG:Hid (Hc s.data.toList=match Hn 0 s.data.toList with | none=>(0,false) | some n=>(if false then -(n:Int) else n,Ha (if false then -(n:Int) else n))):=
        E0 hB hN (by omega) (by omega) (fun h=>⟨by omega,rfl⟩)
      clear hB hN;go_enter func65,ntmps65;go_wp2;all_goals first
        | (exfalso;omega)
        | skip
      go_loop [5,6] (fun n i=>∃(k Ga:Nat),k<=s.size/\i=.int .i64 k/\n=.int .i64 Ga/\Ga<=1000000000000000009/\Hid (Hn 0 s.data.toList=Hn Ga (s.data.toList.drop k))) (fun _ i=>s.size - (intOf i).toNat)
      case atStart=>exact⟨0,0,by omega,rfl,rfl,by omega,rfl⟩
      case round=>
        obtain⟨k,Ga,hk,rfl,rfl,Gc,HP⟩:=hrel;by_cases hlt:k < s.size
        · have Gb:k < s.size:=by omega
          by_cases hbad:(s[k]'Gb).toNat < 48\/57 < (s[k]'Gb).toNat\/100000000000000000 < Ga
          · rw[D1 Gb hbad]at HP;have HR:Hid (Hc s.data.toList=(0,false)):=by unfold Hid;rw[HG.out,HP.out]
            clear HP HG;go_wp2;all_goals first
              | (exfalso;omega)
              | (go_ret2;exact⟨O9 HR.out,rfl⟩)
          · rw[Dj Gb hbad]at HP;have hx:=(s[k]'Gb).toNat_lt;have d1:decide (((s[k]'Gb).toNat:Int) < 48)=false:=by simp;omega
            have d2:decide ((57:Int) < ((s[k]'Gb).toNat:Int))=false:=by simp;omega
            have d3:decide ((100000000000000000:Int) < (Ga:Int))=false:=by simp;omega
            go_wp2;all_goals first
              | (exfalso;omega)
              | (go_round
                 · exact⟨k+1,Ga*10+((s[k]'Gb).toNat - 48),by omega,by go_num,by go_num,by omega,HP.out⟩
                 · simp[intOf];omega)
        · have Gd:s.size<=k:=by omega
          rw[D6 Gd]at HP;have HR:Hid (Hc s.data.toList=((Ga:Int),Ha ((Ga:Int)))):=by
            unfold Hid;rw[HG.out,HP.out];simp
          have HQ:Hid (Ha ((Ga:Int))=decide (-1000000000000000000<=(Ga:Int)/\(Ga:Int)<=1000000000000000000)):=rfl;clear HP HG;go_wp2_with fail;refine(N6 _ _ _ w).mono ?_;rintro e w1⟨rfl,rfl⟩;rw[<- HQ.out];go_wp2;go_ret2;exact⟨O9 HR.out,rfl⟩
theorem zyf(hs:s.size<=1048576):
  Calls prog 65 #[.string s] w fun e w'=>e=.returned (.tuple #[.int .i64 (Hc s.data.toList).1,.bool (Hc s.data.toList).2])/\w'=w:=by
 by_cases h1:1<s.size
 ·by_cases h2:(s[0]'(by omega)).toNat=45
  ·exact ygv s w hs h1 h2
  ·exact yf6 s w hs h1 h2
 ·by_cases h3:∀h:0<s.size,(s[0]'h).toNat=48
  ·exact zsi s w hs h1 h3
  ·exact zz4 s w hs h1 (fun h e=>h3 fun _=>e)
end
end
end Go.Proofs.YtokafonppgppdaaGreatDoor
