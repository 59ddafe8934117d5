import Derived.Test.YtokafonppgppdaaGreatDoorC9
import Derived.Deep.DeepCutAuto
set_option maxHeartbeats 8000000
set_option maxRecDepth 100000
namespace Go.Proofs.YtokafonppgppdaaGreatDoor
namespace Kk
open Tryz
open Go.RowKit Go.Sort
variable {w:World} {B A n:Nat} {L M:List Rk} {x:Rk}
def without (L:List Rk) (m:ByteArray):List Rk:=L.filter fun x=>decide (x.m≠m)
section
variable (L:List Rk) (m:ByteArray)
theorem Z4(k:Nat)(h:k<L.length):without (L.take (k+1)) m=without (L.take k) m++(if(L.getD k rk0).m=m then[] else[L.getD k rk0]):=by
 unfold without;rw[Qo h,List.filter_append,Qa,Qd h,Option.getD_some];by_cases he:(L[k]).m=m
 ·rw[if_pos he];simp[he]
 ·rw[if_neg he];simp[he]
theorem Rf:(without L m).length<=L.length:=Qt _ _
end
theorem zma(a:Option Addr)(b off n c:Nat)(L:List Rk)(m:ByteArray)(w:World)(h:F7 w a b off n L)(hn:n<=1048577):
  Calls prog 152 #[.slice a n c,.string m] w fun e w'=>∃A cc,e=.returned (.slice (some ⟨A,0,none⟩) (without L m).length cc)/\Fo w' w.heap.size (.slice (some ⟨A,0,none⟩) (without L m).length cc) (without L m)/\Bl w w':=by
 obtain⟨i0,hi,Ge,Gf,Gd⟩:=info_parts U5;have H:Hid (F7 w a b off n L):=h;have HL:Hid (L.length=n):=h.len;have HO:Hid _:=J6 w w.heap.size (Qc _);have HB:Hid (Bl w (w.alloc (.cells #[] 147))):=(Qb _ w).alloc (Qc _) _;clear h;go_enter func152,ntmps152;go_wp2;go_loopw [5,6] (fun v i wr=>∃(k A cc:Nat),k<=n/\i=.int .i64 k/\v=.slice (some ⟨A,0,none⟩) (without (L.take k) m).length cc/\Fo wr w.heap.size (.slice (some ⟨A,0,none⟩) (without (L.take k) m).length cc) (without (L.take k) m)/\Bl w wr) (fun _ i _=>n-(intOf i).toNat)
 case atStart=>exact⟨0,_,_,by omega,rfl,rfl,HO.out,HB.out⟩
 case round=>
  obtain⟨k,A,cc,hk,rfl,rfl,Ga,bk⟩:=hrel;clear HO HB;by_cases hlt:k<n
  ·have HW:=H.out.bw bk;have hy:=HW.cell k hlt;obtain rfl:=HW.addr (by omega);have d0:=hy.c0;have d1:=hy.c1;have HN:Hid (without (L.take (k+1)) m=without (L.take k) m++(if(L.getD k rk0).m=m then[] else[L.getD k rk0])):=Z4 L m k (by rw[HL.out];exact hlt);have Gg:(without (L.take k) m).length<=k:=Qj (Rf _ _) (by rw[Qn];omega);generalize L.getD k rk0=y at*;obtain⟨ym,ys⟩:=y;dsimp only at d0 d1;have sk:=bk.size;clear HW hy;by_cases he:ym=m
   ·have Gb:Hid (without (L.take (k+1)) m=without (L.take k) m):=by unfold Hid;rw[HN.out,if_pos he,List.append_nil]
    have hd:(ym.toList==m.toList)=true:=by rw[str_eq,Qe he]
    have Gc:Hid _:=Ga;subst he;clear HN Ga hd;go_wp2;go_roundw
    case rel=>exact⟨k+1,A,cc,by omega,by go_num,by rw[Gb.out],by rw[Gb.out];exact Gc.out,bk⟩
    case measure=>simp[intOf];omega
   ·have Gb:Hid (without (L.take (k+1)) m=without (L.take k) m++ [⟨ym,ys⟩]):=by unfold Hid;rw[HN.out,if_neg he]
    have hd:=Le he;generalize without (L.take k) m=M at*;clear HN he;go_wp2_with (at_builtin;refine wpList_append_own _ rfl _ _ 43 rfl w.heap.size 147 i0 _ 2 24 underlying43 hi Ge Gf Gd rfl (by decide) _ _ _ rfl (Ga.alloc _) ⟨wr.heap.size,0,none⟩ 1 1 [.string ym,.int .i64 ys] rfl rfl ?c1 ?c2 ?c3 ?c4 ?c5 ?_)
    case c1=>
     intro j u hj;rw[Addr.add_lit,Qq];exact((Fc.new wr 147 #[.string ym,.int .i64 ys]).cell j).trans (by simpa using hj)
    case c2=>exact fun u hu=>by simp at hu;rcases hu with rfl|rfl<;>rfl
    case c3=>unfold maxLen;omega
    case c4=>omega
    case c5=>simp;omega
    intro v' w5 hown' hgrow _;have b5:Bl w w5:=below_grown (bk.alloc (by omega) _) hgrow (fun x hx=>(Ga.lt x hx).1) (by simp;omega);have H5:Hid (Fo w5 w.heap.size v' (M++ [⟨ym,ys⟩])):=by
     unfold Hid Fo;rw[U2,Qi];exact hown'
    obtain⟨A5,c5,hv⟩:∃A cap,v'=.slice (some ⟨A,0,none⟩) (M++ [(⟨ym,ys⟩:Rk)]).length cap:=Go.Joins.ownsRow_form H5.out (by simp);subst hv;clear hown' hgrow Ga;go_wp2;go_roundw
    case rel=>exact⟨k+1,A5,c5,by omega,by go_num,by rw[Gb.out],by rw[Gb.out];exact H5.out,b5⟩
    case measure=>simp[intOf];omega
  ·obtain rfl:k=n:=by omega
   have HT:Hid (L.take k=L):=by unfold Hid;rw[<-HL.out];exact List.take_length
   rw[HT.out]at Ga;have Gc:Hid _:=Ga;clear Ga;rw[HT.out];go_wp2;go_ret;exact⟨A,cc,rfl,Gc.out,bk⟩
def Pu (M:List Rk) (x:Rk):Nat:=(M.takeWhile fun y=>La y x).length
def Ho (M:List Rk) (x:Rk):List Rk:=M.take (Pu M x)++([x]++M.drop (Pu M x))
theorem ye6(M:List Rk)(x:Rk)(k:Nat)(hk:k<=M.length)(h:∀j,j<k->La (M.getD j rk0) x=true)(he:k=M.length\/La (M.getD k rk0) x=false):Pu M x=k:=by
 unfold Pu;induction M generalizing k with
 |nil=>simp at hk;subst hk;rfl
 |cons y l ih=>
  cases k with
  |zero=>
   rcases he with he|he
   ·simp at he
   ·have Ga:La y x=false:=he;rw[List.takeWhile_cons,Ga];rfl
  |succ k=>
   have h0:La y x=true:=h 0 (by omega);rw[List.takeWhile_cons,h0]
   have:=ih k (by simpa using hk) (fun j hj=>h (j+1) (by omega)) (by
    rcases he with he|he
    ·left;simpa using he
    ·right;exact he)
   simp only[if_true,Q1,this]
theorem yfh(M:List Rk)(x:Rk):Pu M x<=M.length:=by
 unfold Pu;exact(List.takeWhile_sublist _).length_le
theorem zp4(L:List Rk):∀u∈G6 L,u.oneCell'=true:=fun u hu=>by
 unfold G6 at hu;obtain⟨x,_,hx⟩:=List.mem_flatMap.1 hu;simp[encR]at hx;rcases hx with rfl|rfl<;>rfl
theorem zmf(M:List Rk)(p:Nat):G6 M=G6 (M.take p)++G6 (M.drop p):=by
 rw[<-U2,List.take_append_drop]
theorem Fo.wide{B':Nat}{v:Value}(h:Fo w B v L)(hB:B'<=B):Fo w B' v L:=by
 obtain⟨h1,⟨e1,e2⟩|⟨g,Ga,Gb,e1,h2,h3⟩⟩:=h
 ·exact⟨h1,.inl ⟨e1,e2⟩⟩
 ·exact⟨h1,.inr ⟨g,Ga,Gb,e1,Qj hB h2,h3⟩⟩
theorem Wj{c x:Nat}(h:(Value.slice (some ⟨A,0,none⟩) n c).ownBlock=some x):x=A:=(Option.some.inj h).symm
def Uu (W:World) (A:Nat) (M:List Rk):Prop:=∀j u,(G6 M)[j]?=some u->W.cell? ⟨A,j,none⟩=some u
theorem Uu.keep{W W':World}(h:Uu W A M)(e:W'.heap[A]?=W.heap[A]?):Uu W' A M:=fun j u hj=>(World.cell?_of_block (w:=W) e).trans (h j u hj)
theorem zln(a:Option Addr)(b off n c:Nat)(L:List Rk)(m:ByteArray)(s:Int)(w:World)(h:F7 w a b off n L)(hn:n<=1048577):
  Calls prog 120 #[.slice a n c,.string m,.int .i64 s] w fun e w'=>∃A cc,e=.returned (.slice (some ⟨A,0,none⟩) (Ho (without L m) ⟨m,s⟩).length cc)/\Fo w' w.heap.size (.slice (some ⟨A,0,none⟩) (Ho (without L m) ⟨m,s⟩).length cc) (Ho (without L m) ⟨m,s⟩)/\Bl w w':=by
 obtain⟨i0,hi,Gk,Gf,Gj⟩:=info_parts U5;have b0:Bl w (w.alloc (.cells #[.string m,.int .i64 s] 147)):=(Qb _ w).alloc (Qc _) _;have q0:=Fc.new w 147 #[.string m,.int .i64 s];have Gw:=zma a b off n c L m (w.alloc (.cells #[.string m,.int .i64 s] 147)) (h.bw b0) hn;have Kp:(without L m).length<=n:=by have:=Rf L m;rw[h.len]at this;exact this
 have s0:=b0.size;have l0:=q0.lt;clear h;generalize without L m=M at*;go_enter func120,ntmps120;go_wp2_with fail;generalize w.alloc (.cells #[.string m,.int .i64 s] 147)=w1 at*;refine Gw.mono ?_;rintro e w2⟨A,cc,rfl,o2,b2⟩;have s2:=b2.size;have Kh:=b0.trans (b2.mono s0);have q2:=q0.bw b2 l0;clear Gw b0 q0;have HO:Hid (Fo w2 w1.heap.size (.slice (some ⟨A,0,none⟩) M.length cc) M):=o2;have hA:=o2.lt A rfl;clear o2;have HQ:Hid (Fc w2 w.heap.size 147 #[.string m,.int .i64 s]):=q2;clear q2 b2;go_upto_block 0 with fail;go_cut [9] from 17 to 143 (fun i wx=>i=.int .i64 (Pu M ⟨m,s⟩)/\Bl w2 wx)
 case first=>
  go_wp2_with fail;go_loopw [9] (fun i wr=>∃(k:Nat),k<=M.length/\i=.int .i64 k/\Hid (∀j,j<k->La (M.getD j rk0) ⟨m,s⟩=true)/\Bl w2 wr) (fun i _=>M.length-(intOf i).toNat)
  case atStart=>exact⟨0,by omega,rfl,fun j hj=>by omega,Qb _ _⟩
  case round=>
   obtain⟨k,hk,rfl,hp,bk⟩:=hrel;have sk:=bk.size;by_cases hlt:k<M.length
   ·have hy:=ybo (HO.out.bw bk) k hlt;have hq:=HQ.out.bw bk HQ.out.lt;have Gc:w.heap.size<wr.heap.size:=hq.lt;have Ga:A<wr.heap.size:=by omega
    have d0:=hy.c0;have d1:=hy.c1;have x0:wr.cell? ⟨w.heap.size,0,none⟩=some (.string m):=hq.cell 0;have x1:wr.cell? ⟨w.heap.size,1,none⟩=some (.int .i64 s):=hq.cell 1;have HY:Hid (∃y,M.getD k rk0=y):=⟨_,rfl⟩;obtain⟨y,Gq⟩:=HY.out;have Gi:Hid (M.getD k rk0=y):=Gq;rw[Gq]at d0 d1;obtain⟨ah,Gp⟩:∃ah,La y ⟨m,s⟩=ah:=⟨_,rfl⟩;have Ge:Hid (La y ⟨m,s⟩=ah):=Gp;have Gh:Hid (∀W,Cp 167 #[rkV y,rkV ⟨m,s⟩] W fun e w'=>e=.returned (.bool ah)/\Bl W w'):=fun W=>by
     rw[<-Gp];exact zp0 y ⟨m,s⟩ W
    obtain⟨ym,ys⟩:=y;dsimp only at d0 d1;have Kv:(0:Int)<=(k:Int):=by omega
    have Ky:(k:Int)<(M.length:Int):=by omega
    clear HY Gq hy hq Gp;cases ah with
    |true=>
     have Kj:Hid (∀j,j<k+1->La (M.getD j rk0) ⟨m,s⟩=true):=fun j hj=>by
      by_cases e:j=k
      ·subst e;rw[Gi.out];exact Ge.out
      ·exact hp.out j (by omega)
     clear hp Ge Gi;go_upto_region 4 with fail;go_region_held3 (fun W=>W.cell? ⟨A,k*2,none⟩=some (.string ym)/\W.cell? ⟨A,k*2+1,none⟩=some (.int .i64 ys)/\W.cell? ⟨w.heap.size,0,none⟩=some (.string m)/\W.cell? ⟨w.heap.size,1,none⟩=some (.int .i64 s))
      (first
       |exact⟨d0,d1,x0,x1⟩
       |exact⟨(b1.cell (p:=⟨A,_,none⟩) Ga).trans d0,(b1.cell (p:=⟨A,_,none⟩) Ga).trans d1,(b1.cell (p:=⟨w.heap.size,_,none⟩) Gc).trans x0,(b1.cell (p:=⟨w.heap.size,_,none⟩) Gc).trans x1⟩)
      (first
       |(go_at_call 167;refine(Gh.out _).mono ?_;rintro e w3⟨rfl,b1⟩))
     all_goals
      have b3:Bl w2 w3:=bk.trans ((Below.trans (below_drewN (Qb _ wr) 1) b1).mono sk);clear b1 d0 d1 x0 x1 Gh;go_wp2;go_roundw
      case rel=>exact⟨k+1,by omega,by go_num,Kj,b3⟩
      case measure=>simp[intOf];omega
    |false=>
     have Gs:Hid (Pu M ⟨m,s⟩=k):=ye6 M ⟨m,s⟩ k hk hp.out (.inr (by rw[Gi.out];exact Ge.out));clear hp Ge Gi;go_upto_region 4 with fail;go_region_held3 (fun W=>W.cell? ⟨A,k*2,none⟩=some (.string ym)/\W.cell? ⟨A,k*2+1,none⟩=some (.int .i64 ys)/\W.cell? ⟨w.heap.size,0,none⟩=some (.string m)/\W.cell? ⟨w.heap.size,1,none⟩=some (.int .i64 s))
      (first
       |exact⟨d0,d1,x0,x1⟩
       |exact⟨(b1.cell (p:=⟨A,_,none⟩) Ga).trans d0,(b1.cell (p:=⟨A,_,none⟩) Ga).trans d1,(b1.cell (p:=⟨w.heap.size,_,none⟩) Gc).trans x0,(b1.cell (p:=⟨w.heap.size,_,none⟩) Gc).trans x1⟩)
      (first
       |(go_at_call 167;refine(Gh.out _).mono ?_;rintro e w3⟨rfl,b1⟩))
     all_goals
      have b3:Bl w2 w3:=bk.trans ((Below.trans (below_drewN (Qb _ wr) 1) b1).mono sk);clear b1 d0 d1 x0 x1 Gh;go_wp2_with fail;go_meet
      case rel=>exact⟨by rw[Gs.out],b3⟩
   ·obtain rfl:k=M.length:=by omega
    have Gs:Hid (Pu M ⟨m,s⟩=M.length):=ye6 M ⟨m,s⟩ _ hk hp.out (.inl rfl);clear hp;go_upto_region 4 with fail;go_quiet ((fail));go_wp2_with fail;go_meet
    case rel=>exact⟨by rw[Gs.out],below_drewN bk _⟩
 case rest=>
  obtain⟨rfl,bw⟩:=hcut;have sw:=bw.size;have bb:=Kh.trans (bw.mono (by omega));have O3:=HO.out.bw bw;have hq:=HQ.out.bw bw HQ.out.lt;have Gc:=hq.lt;have x0:wc.cell? ⟨w.heap.size,0,none⟩=some (.string m):=hq.cell 0;have x1:wc.cell? ⟨w.heap.size,1,none⟩=some (.int .i64 s):=hq.cell 1;have Kw:=yfh M ⟨m,s⟩;have Kx:M.length<=cc:=by
   obtain⟨_,⟨e1,e2⟩|⟨g,Kf,Ki,e1,_,_,h4,_⟩⟩:=O3
   ·cases e1
   ·cases e1;exact h4
  have Kt:cc<=9223372036854775807:=by
   obtain⟨_,⟨e1,e2⟩|⟨g,Kf,Ki,e1,_,_,_,h5,_⟩⟩:=O3
   ·cases e1
   ·cases e1;simpa[maxLen]using h5
  have HM:Hid (Uu wc A M):=fun j u hj=>by
   have:=O3.cells rfl j u hj;rwa[Addr.add_lit,Qq]at this
  have HI:Hid (Ho M ⟨m,s⟩=M.take (Pu M ⟨m,s⟩)++([⟨m,s⟩]++M.drop (Pu M ⟨m,s⟩))):=rfl;have Gx:Hid _:=J6 wc wc.heap.size (Qc _);have Gz:Hid (Bl w (wc.alloc (.cells #[] 147))):=bb.alloc (by omega) _;have Ga:A<wc.heap.size:=by omega
  have Gt:Hid (Uu (wc.alloc (.cells #[] 147)) A M):=HM.out.keep (Below.heap_alloc _ _ _ Ga);generalize Pu M ⟨m,s⟩=p at*;have Kq:(0:Int)<=(p:Int):=by omega
  have Ko:(p:Int)<=(cc:Int):=by omega
  have Kr:(p:Int)<=(M.length:Int):=by omega
  have Gm:(G6 (M.take p)).length=p*2:=by rw[Eb,Qn];omega
  clear O3 hq HO HQ bb HM;go_wp2_with (at_builtin;refine wpList_append_own _ rfl _ _ 43 rfl wc.heap.size 147 i0 _ 2 24 underlying43 hi Gk Gf Gj rfl (by decide) _ _ _ rfl Gx.out ⟨A,0,none⟩ p cc (G6 (M.take p)) rfl Gm ?c1 ?c2 ?c3 ?c4 ?c5 ?_)
  case c1=>
   intro j u hj;rw[Addr.add_lit,Qq];exact Gt.out j u (by rw[zmf M p,List.getElem?_append_left (List.getElem?_eq_some_iff.1 hj).1];exact hj)
  case c2=>exact zp4 _
  case c3=>show 0+p<=_;unfold maxLen;omega
  case c4=>show(0+p)*24<=_;omega
  case c5=>simp
  intro v3 w3 o3 g3 hnn;have Gb:(M.take p).length=p:=by rw[Qn];omega
  have P3:Fo w3 wc.heap.size v3 (M.take p):=by
   unfold Fo;rw[Gb];exact o3
  obtain⟨A3,c3,Kc⟩:∃A c,v3=.slice (some ⟨A,0,none⟩) p c:=by
   rcases Joins.ownsRow_forms P3 with⟨h1,h2⟩|⟨A3,c3,h⟩
   ·first|exact absurd h1 hnn|exact absurd h2 hnn
   ·exact⟨A3,c3,by rw[h,Gb]⟩
  subst Kc;have B3:Bl w w3:=below_grown Gz.out g3 (fun x hx=>by have:=Wj hx;omega) (by simp;omega);have s3:=g3.size;simp only[World.size_alloc]at s3;have Ku:=P3.lt A3 rfl;have Gg:∀k,k<wc.heap.size->w3.heap[k]?=wc.heap[k]?:=fun k hk=>by
   rw[g3.block k (by simp;omega) (fun e=>by have:=Wj e.symm;omega)];exact Below.heap_alloc _ _ _ hk
  have Ka:Hid (Uu w3 A M):=Gt.out.keep (by rw[Gg A Ga];exact(Below.heap_alloc _ _ _ Ga).symm);have y0:w3.cell? ⟨w.heap.size,0,none⟩=some (.string m):=(World.cell?_of_block (w:=wc) (Gg _ Gc)).trans x0;have y1:w3.cell? ⟨w.heap.size,1,none⟩=some (.int .i64 s):=(World.cell?_of_block (w:=wc) (Gg _ Gc)).trans x1;have Gv:Hid _:=P3;clear Gg o3 g3 hnn x0 x1 Gt Gx Gz P3;go_wp2_with (at_builtin;refine wpList_append_own _ rfl _ _ 43 rfl wc.heap.size 147 i0 _ 2 24 underlying43 hi Gk Gf Gj rfl (by decide) _ _ _ rfl ((by have:=Gv.out;unfold Fo at this;rw[Gb]at this;exact this:w3.ownsRow wc.heap.size 147 2 (.slice (some ⟨A3,0,none⟩) p c3) p (G6 (M.take p))).alloc _) ⟨w3.heap.size,0,none⟩ 1 1 [.string m,.int .i64 s] rfl rfl ?c1 ?c2 ?c3 ?c4 ?c5 ?_)
  case c1=>
   intro j u hj;rw[Addr.add_lit,Qq];exact((Fc.new w3 147 #[.string m,.int .i64 s]).cell j).trans (by simpa using hj)
  case c2=>exact fun u hu=>by simp at hu;rcases hu with rfl|rfl<;>rfl
  case c3=>unfold maxLen;omega
  case c4=>omega
  case c5=>simp;omega
  intro v4 w4 o4 g4 hnn;have P4:Fo w4 wc.heap.size v4 (M.take p++ [⟨m,s⟩]):=by
   unfold Fo;rw[U2,Qi,Gb];exact o4
  have Gy:(M.take p++ [(⟨m,s⟩:Rk)]).length=p+1:=by rw[Qi,Gb];rfl
  obtain⟨A4,c4,Kl⟩:∃A c,v4=.slice (some ⟨A,0,none⟩) (p+1) c:=by
   rcases Joins.ownsRow_forms P4 with⟨h1,h2⟩|⟨A4,c4,h⟩
   ·first|exact absurd h1 hnn|exact absurd h2 hnn
   ·exact⟨A4,c4,by rw[h,Gy]⟩
  subst Kl;have B4:Bl w w4:=below_grown (B3.alloc (by omega) _) g4 (fun x hx=>by have:=Wj hx;omega) (by simp;omega);have s4:=g4.size;simp only[World.size_alloc]at s4;have Km:=P4.lt A4 rfl
  have Gu:Hid (Uu w4 A M):=Ka.out.keep (by
   rw[g4.block A (by simp;omega) (fun e=>by have:=Wj e.symm;omega)];exact Below.heap_alloc _ _ _ (by omega))
  have Gl:Hid (w4.ownsRow wc.heap.size 147 2 (.slice (some ⟨A4,0,none⟩) (p+1) c4) (p+1) (G6 (M.take p++ [⟨m,s⟩]))):=by
   have:=P4;unfold Fo at this;rwa[Gy]at this
  have Kd:(G6 (M.drop p)).length=(M.length-p)*2:=by rw[Eb,Qu]
  clear o4 g4 hnn P4 Ka Gv y0 y1 B3;by_cases hcp:cc=p
  ·have Kn:M.length-p=0:=by omega
   have Kb:M.drop p=[]:=List.drop_eq_nil_of_le (by omega);go_wp2_with (at_builtin;refine wpList_append_own _ rfl _ _ 43 rfl wc.heap.size 147 i0 _ 2 24 underlying43 hi Gk Gf Gj rfl (by decide) _ _ _ rfl Gl.out ⟨A,0,none⟩ 0 0 [] rfl rfl ?c1 ?c2 ?c3 ?c4 ?c5 ?_)
   case c1=>intro j u hj;simp at hj
   case c2=>intro u hu;simp at hu
   case c3=>unfold maxLen;omega
   case c4=>omega
   case c5=>omega
   intro v5 w5 o5 g5 hnn;have Gd:(Ho M ⟨m,s⟩).length=p+1:=by
    rw[HI.out,Kb,List.append_nil,Qi,Gb,List.length_singleton]
   have P5:Fo w5 wc.heap.size v5 (Ho M ⟨m,s⟩):=by
    unfold Fo;rw[Gd,HI.out,Kb,List.append_nil];simpa using o5
   obtain⟨A5,c5,Gr⟩:∃A c,v5=.slice (some ⟨A,0,none⟩) (Ho M ⟨m,s⟩).length c:=by
    rcases Joins.ownsRow_forms P5 with⟨h1,h2⟩|⟨A5,c5,h⟩
    ·first|exact absurd h1 hnn|exact absurd h2 hnn
    ·exact⟨A5,c5,h⟩
   subst Gr;have B5:Bl w w5:=below_grown B4 g5 (fun x hx=>by have:=Wj hx;omega) (by omega);have Gn:Hid (Fo w5 w.heap.size _ (Ho M ⟨m,s⟩)):=P5.wide (by omega);clear o5 g5 hnn P5 Gu Gl B4 Gd HI;go_wp2;go_ret;exact⟨A5,c5,rfl,Gn.out,B5⟩
  ·skip;go_wp2_with (at_builtin;refine wpList_append_own _ rfl _ _ 43 rfl wc.heap.size 147 i0 _ 2 24 underlying43 hi Gk Gf Gj rfl (by decide) _ _ _ rfl Gl.out ⟨A,p*2,none⟩ (M.length-p) (cc-p) (G6 (M.drop p)) rfl Kd ?c1 ?c2 ?c3 ?c4 ?c5 ?_)
   case c1=>
    intro j u hj;rw[Addr.add_lit];refine Gu.out (p*2+j) u ?_;rw[zmf M p,List.getElem?_append_right (by rw[Gm];omega),Gm,Nat.add_sub_cancel_left];exact hj
   case c2=>exact zp4 _
   case c3=>unfold maxLen;omega
   case c4=>omega
   case c5=>omega
   intro v5 w5 o5 g5 hnn;have Gd:(Ho M ⟨m,s⟩).length=p+1+(M.length-p):=by
    rw[HI.out,Qi,Qi,Gb,Qu,List.length_singleton];omega
   have P5:Fo w5 wc.heap.size v5 (Ho M ⟨m,s⟩):=by
    unfold Fo;rw[Gd,HI.out,<-List.append_assoc,U2];exact o5
   obtain⟨A5,c5,Gr⟩:∃A c,v5=.slice (some ⟨A,0,none⟩) (Ho M ⟨m,s⟩).length c:=by
    rcases Joins.ownsRow_forms P5 with⟨h1,h2⟩|⟨A5,c5,h⟩
    ·first|exact absurd h1 hnn|exact absurd h2 hnn
    ·exact⟨A5,c5,h⟩
   subst Gr;have B5:Bl w w5:=below_grown B4 g5 (fun x hx=>by have:=Wj hx;omega) (by omega);have Gn:Hid (Fo w5 w.heap.size _ (Ho M ⟨m,s⟩)):=P5.wide (by omega);clear o5 g5 hnn P5 Gu Gl B4 Gd HI;go_wp2;go_ret;exact⟨A5,c5,rfl,Gn.out,B5⟩
theorem Bp(M:List Rk)(x:Rk):(Ho M x).length=M.length+1:=by
 unfold Ho;have:=yfh M x;rw[Qi,Qi,Qn,Qu,List.length_singleton];omega
theorem Y2(x:Rk):Ho [] x=[x]:=rfl
theorem Ax(y:Rk)(l:List Rk)(x:Rk):Ho (y::l) x=if La y x=true then y::Ho l x else x::y::l:=by
 unfold Ho Pu;cases h:La y x with
 |false=>rw[List.takeWhile_cons,h];rfl
 |true=>rw[List.takeWhile_cons,h];simp
theorem zzf{y:Rk}(h:y∈Ho M x):y=x\/y∈M:=by
 induction M with
 |nil=>rw[Y2]at h;simpa using h
 |cons z l ih=>
  rw[Ax]at h;split at h
  ·rcases List.mem_cons.1 h with rfl|h
   ·right;simp
   ·rcases ih h with rfl|h
    ·left;rfl
    ·right;simp[h]
  ·rcases List.mem_cons.1 h with rfl|h
   ·left;rfl
   ·right;exact h
theorem X7{m:ByteArray}(h:Md L):Md (without L m):=fun x hx=>h x (List.mem_filter.1 hx).1
theorem Aw(h:Md M)(hx:Mn x.s):Md (Ho M x):=fun y hy=>by
 rcases zzf hy with rfl|hy
 ·exact hx
 ·exact h y hy
end Kk
section
open Tryz
open _root_.ByteArray (empty)
open Go.RowKit Go.Sort
open Kk (Rk rk0 G8 Mp F1 L7 Hv G9 Fo G6 encR F7 Le str_eq)
variable {w w1 w2 w' wr:World} {B Br n:Nat} {R:List Rp} {rv v V:Value} {L:List KV} {M:List RV} {ks:List Nat} {T:List ByteArray}
theorem yfa(k:Ke):∀(ks:List Ke) (s:List Ke×Bool),(ks.foldl (Lo k) s).1.length<=s.1.length+2*ks.length
 |[],s=>by simp
 |x::xs,s=>by
  rw[List.foldl_cons];have h1:=yfa k xs (Lo k s x);have h2:(Lo k s x).1.length<=s.1.length+2:=by
   unfold Lo;split<;>split<;>simp
  rw[Q1];omega
theorem K9(ks:List Ke)(k:Ke):(G0 ks k).length<=2*ks.length+1:=by
 have:=yfa k ks ([],false);unfold G0 stS;split
 ·simp at this ⊢;omega
 ·simp at this ⊢;omega
theorem Fh.keys{ks:List Ke}(hB:B<=w.heap.size)(hr:Fr w Br rv R)(hm:L.map KV.key=ks)(hd:Fv w1 w.heap.size v L)(hb:Bl w w1)(hb2:Bl w1 w2):Mg w B Br (ks,R) (.returned (.tuple #[v,rv])) w2:=
 have h2:Bl w w2:=hb.trans (hb2.mono hb.size)
 ⟨v,rv,L,rfl,hm,(hd.bw hb2).le hB,hr.bw h2,h2⟩
theorem Fh.same(hd:Fv w B v L)(_hB:B<=w.heap.size)(hb:Bl w w1)(hr:Fr w2 w1.heap.size rv R)(hb2:Bl w1 w2):Fh w B (L.map KV.key,R) (.returned (.tuple #[v,rv])) w2:=
 have h2:Bl w w2:=hb.trans (hb2.mono hb.size)
 ⟨v,rv,L,rfl,rfl,hd.bw h2,hr.le hb.size,h2⟩
theorem L4{W0:World}(h:Fv w B v L)(hB:B<=w.heap.size)(b0:Bl w W0):Hid (∀R r w1 w2,Bl W0 w1->Fr w2 w1.heap.size r R->Bl w1 w2->Fh w B (L.map KV.key,R) (.returned (.tuple #[v,r])) w2):=fun _ _ _ _ h1 h2 h3=>Fh.same h hB (b0.trans (h1.mono b0.size)) h2 h3
theorem Fh.toS{p:List Ke×List Rp}{e:Ending}(h:Fh w B p e w')(hb:Br<=w.heap.size):Mg w B Br p e w':=by
 obtain⟨v,r,L,h1,h2,h3,h4,h5⟩:=h;exact⟨v,r,L,h1,h2,h3,h4.le hb,h5⟩
theorem Pv(B:Nat)(v:Value)(L:List KV)(x:KV)(rv:Value)(R:List Rp)(w:World)(h:Fv w B v L)(hf:Lg (L.map KV.key))(hn:L.length<=500000)(hx:VRd w x.key.val x.vi x.vp x.vr)(hxf:N1 x.key)(hr:Fr w Br rv R)(hB:B<=w.heap.size)(hBr:Br<=w.heap.size):
  Calls prog 147 #[v,kvV x,rv] w (Mg w B Br (Fj (L.map KV.key) x.key R)):=by
 obtain⟨⟨p1,P1,o1,d1,e1,i1,f1⟩,⟨p2,P2,d2,e2,i2,f2⟩,⟨p3,P3,o3,d3,e3,i3,f3⟩⟩:=hx;obtain⟨⟨xn,xv,xd⟩,vi,vp,vr⟩:=x;dsimp only at e1 e2 e3 i1 i2 i3 hxf;subst e1 e2 e3;have hx:VRd w xv (.slice p1 xv.ia.length d1) (.slice p2 xv.pj.length d2) (.slice p3 xv.rq.length d3):=⟨⟨p1,P1,o1,d1,rfl,i1,f1⟩,⟨p2,P2,d2,rfl,i2,f2⟩,⟨p3,P3,o3,d3,rfl,i3,f3⟩⟩;obtain⟨a,A,c,e,hd,Gj⟩:=h.din hf.fits;subst e;have s1:xv.ia.length<=1048576:=hxf.fit.ia;have s2:xv.pj.length<=1048576:=hxf.fit.pj;have s3:xv.rq.length<=1048576:=hxf.fit.rq;show Calls prog 147 #[.slice a L.length c,.agg (kC xn xv.kind xv.text (.slice p1 xv.ia.length d1) (.slice p2 xv.pj.length d2) (.slice p3 xv.rq.length d3) xd),rv] w (Mg w B Br (Fj (L.map KV.key) ⟨xn,xv,xd⟩ R));obtain⟨W0,Gi,Gg,b0,_⟩:=boxed w (kC xn xv.kind xv.text (.slice p1 xv.ia.length d1) (.slice p2 xv.pj.length d2) (.slice p3 xv.rq.length d3) xd) 47;have HG:Hid (Cp 143 #[.slice a L.length c,.string xn] W0 (N0 W0 (G5 (L.map KV.key) xn))):=Eu a A L.length c L xn W0 (hd.bw b0) (by omega);have HS:Hid (Cp 79 #[.slice a L.length c,.agg (kC xn xv.kind xv.text (.slice p1 xv.ia.length d1) (.slice p2 xv.pj.length d2) (.slice p3 xv.rq.length d3) xd)] W0 (N0 W0 (G0 (L.map KV.key) ⟨xn,xv,xd⟩))):=Ep a A L.length c L ⟨⟨xn,xv,xd⟩,.slice p1 xv.ia.length d1,.slice p2 xv.pj.length d2,.slice p3 xv.rq.length d3⟩ W0 (hd.bw b0) (hx.bw b0) (by show xv.ia.length<=_;omega) (by show xv.pj.length<=_;omega) (by show xv.rq.length<=_;omega) hn;have HD:Hid (∀W v' L',Fv W W0.heap.size v' L'->L'.map KV.key=G0 (L.map KV.key) ⟨xn,xv,xd⟩->Cp 51 #[v'] W fun e w'=>e=.returned (.bool (Fm (G0 (L.map KV.key) ⟨xn,xv,xd⟩)))/\Bl W w'):=fun W v' L' ho hm=>by
  have hF:Lg (L'.map KV.key):=by rw[hm];exact hf.stored hxf
  obtain⟨a',A',c',rfl,_,Gh⟩:=ho.din hF.fits;rw[<- hm]
  exact zin a' A' L'.length c' L' W Gh hF.fits (by
   have h1:L'.length=(G0 (L.map KV.key) ⟨xn,xv,xd⟩).length:=by rw[<- hm];simp
   have h2:=K9 (L.map KV.key) ⟨xn,xv,xd⟩;rw[Qp]at h2;omega)
 have Gd:Hid (∀W,Cp 98 #[.string ⟨#[102,117,108,108]⟩] W (F9 W (Fl My))):=fun W=>Ry My (by decide) W;have Gk:=Qj hB b0.size;have EK:Hid (∀ks v' L' w1 w2,L'.map KV.key=ks->Fv w1 W0.heap.size v' L'->Bl W0 w1->Bl w1 w2->Mg w B Br (ks,R) (.returned (.tuple #[v',rv])) w2):=fun ks v' L' w1 w2 h1 h2 h3 h4=>Fh.keys hB hr h1 (h2.le b0.size) (b0.trans (h3.mono b0.size)) h4;have E3:Hid (∀r' w1 w2,Bl W0 w1->Fr w2 w1.heap.size r' (Fl My)->Bl w1 w2->Mg w B Br (L.map KV.key,Fl My) (.returned (.tuple #[.slice a L.length c,r'])) w2):=fun r' w1 w2 h1 h2 h3=>(Fh.same h hB (b0.trans (h1.mono b0.size)) h2 h3).toS hBr;have HM:Hid (Fj (L.map KV.key) ⟨xn,xv,xd⟩ R=if(decide (xv.ia.length+xv.pj.length+xv.rq.length=0) && !decide (xv.kind=1))=true then(G5 (L.map KV.key) xn,R) else if Fm (G0 (L.map KV.key) ⟨xn,xv,xd⟩)=true then(G0 (L.map KV.key) ⟨xn,xv,xd⟩,R) else(L.map KV.key,Fl My)):=rfl;clear h hf hd Gj hxf hr hx Gi i1 i2 i3 f1 f2 f3 b0 Gk;generalize Fj (L.map KV.key) ⟨xn,xv,xd⟩ R=S,G5 (L.map KV.key) xn=Kg,G0 (L.map KV.key) ⟨xn,xv,xd⟩=Ks at*;generalize L.map KV.key=K0,L.length=ln,xv.ia.length=n1,xv.pj.length=n2,xv.rq.length=n3,xv.kind=kd,xv.text=tx at*;by_cases hz:n1+n2+n3=0
 ·obtain rfl:n1=0:=by omega
  obtain rfl:n2=0:=by omega
  obtain rfl:n3=0:=by omega
  by_cases hk:kd=1
  ·subst hk;have eS:Hid (S=if Fm Ks=true then(Ks,R) else(K0,Fl My)):=by unfold Hid;rw[HM.out,if_neg (by simp)]
   clear HM HG;go_enter func147,ntmps147;go_wp2_with fail;rw[Gg.out];refine HS.out.mono ?_;rintro e w1⟨v',L',rfl,hm,ho,hb⟩;have Ga:Hid (Cp 51 #[v'] w1 fun e w'=>e=.returned (.bool (Fm Ks))/\Bl w1 w'):=HD.out w1 v' L' ho hm;cases hok:Fm Ks with
   | true=>
    rw[hok]at Ga;obtain rfl:S=(Ks,R):=by rw[eS.out,hok];rfl
    clear eS;have HF:Hid (∀w2,Bl w1 w2->Mg w B Br (Ks,R) (.returned (.tuple #[v',rv])) w2):=fun w2 h2=>EK.out Ks v' L' w1 w2 hm ho hb h2;clear hm ho hb EK HS HD Gd E3 hok;go_wp2_with fail;refine Ga.out.mono ?_;rintro e w2⟨rfl,Gb⟩;have Gc:Hid _:=HF.out w2 Gb;clear HF Ga Gb;go_wp2;go_ret2;exact Gc.out
   | false=>
    rw[hok]at Ga;obtain rfl:S=(K0,Fl My):=by rw[eS.out,hok];rfl
    clear eS;have HF:Hid (∀r' w2 w3,Bl w1 w2->Fr w3 w2.heap.size r' (Fl My)->Bl w2 w3->Mg w B Br (K0,Fl My) (.returned (.tuple #[.slice a ln c,r'])) w3):=fun r' w2 w3 h1 h2 h3=>E3.out r' w2 w3 (hb.trans (h1.mono hb.size)) h2 h3;clear hm ho hb EK HS HD E3 hok;go_wp2_with fail;refine Ga.out.mono ?_;rintro e w2⟨rfl,Gb⟩;clear Ga;go_wp2_with fail;refine(Gd.out w2).mono ?_;rintro e w3⟨r',rfl,Gf,Ge⟩;have Gc:Hid _:=HF.out r' w2 w3 Gb Gf Ge;clear HF Gd Gb Gf Ge;go_wp2;go_ret2;exact Gc.out
  ·have eS:S=(Kg,R):=by rw[HM.out,if_pos (by simp[hk])]
   subst eS;have Gm:(kd !=1)=true:=by simpa using hk
   clear HM HS HD Gd E3 hk;go_enter func147,ntmps147;go_wp2_with fail;rw[Gg.out];refine HG.out.mono ?_;rintro e w1⟨v',L',rfl,hm,ho,hb⟩;have HF:Hid _:=EK.out Kg v' L' w1 w1 hm ho hb (Qb _ _);clear hm ho hb EK HG;go_wp2;go_ret2;exact HF.out
 ·have eS:Hid (S=if Fm Ks=true then(Ks,R) else(K0,Fl My)):=by unfold Hid;rw[HM.out,if_neg (by simp;omega)]
  have Gl:((n1:Int)+n2+n3==0)=false:=by simp;omega
  clear HM HG;go_enter func147,ntmps147;go_wp2_with fail;rw[Gg.out];refine HS.out.mono ?_;rintro e w1⟨v',L',rfl,hm,ho,hb⟩;have Ga:Hid (Cp 51 #[v'] w1 fun e w'=>e=.returned (.bool (Fm Ks))/\Bl w1 w'):=HD.out w1 v' L' ho hm;cases hok:Fm Ks with
  | true=>
   rw[hok]at Ga;obtain rfl:S=(Ks,R):=by rw[eS.out,hok];rfl
   clear eS;have HF:Hid (∀w2,Bl w1 w2->Mg w B Br (Ks,R) (.returned (.tuple #[v',rv])) w2):=fun w2 h2=>EK.out Ks v' L' w1 w2 hm ho hb h2;clear hm ho hb EK HS HD Gd E3 hok;go_wp2_with fail;refine Ga.out.mono ?_;rintro e w2⟨rfl,Gb⟩;have Gc:Hid _:=HF.out w2 Gb;clear HF Ga Gb;go_wp2;go_ret2;exact Gc.out
  | false=>
   rw[hok]at Ga;obtain rfl:S=(K0,Fl My):=by rw[eS.out,hok];rfl
   clear eS;have HF:Hid (∀r' w2 w3,Bl w1 w2->Fr w3 w2.heap.size r' (Fl My)->Bl w2 w3->Mg w B Br (K0,Fl My) (.returned (.tuple #[.slice a ln c,r'])) w3):=fun r' w2 w3 h1 h2 h3=>E3.out r' w2 w3 (hb.trans (h1.mono hb.size)) h2 h3;clear hm ho hb EK HS HD E3 hok;go_wp2_with fail;refine Ga.out.mono ?_;rintro e w2⟨rfl,Gb⟩;clear Ga;go_wp2_with fail;refine(Gd.out w2).mono ?_;rintro e w3⟨r',rfl,Gf,Ge⟩;have Gc:Hid _:=HF.out r' w2 w3 Gb Gf Ge;clear HF Gd Gb Gf Ge;go_wp2;go_ret2;exact Gc.out
theorem ybp{b:Nat}{v:Vl}{vi vp vr:Value}(h:VOwn w B v vi vp vr)(hb:b<B)(v0 v1 v2 v3 v4 v5 v6:Value):VOwn (Ra w v0 v1 v2 v3 v4 v5 v6 b) B v vi vp vr:=by
 have hz:∀{e size n u xs},w.ownsRow B e size u n xs->(Ra w v0 v1 v2 v3 v4 v5 v6 b).ownsRow B e size u n xs:=fun hh=>Lt hh fun g hg=>Dw w _ _ _ _ _ _ _ _ g (by have:=(Hf hh hg).1;omega);exact⟨hz h.ia,hz h.pj,hz h.rq⟩
structure J2 (s:ByteArray):Prop where
 a:(s.toList==[80,73,78,71])=false
 b:(s.toList==[69,67,72,79])=false
 c:(s.toList==[70,76,85,83,72,65,76,76])=false
 d:(s.toList==[68,66,83,73,90,69])=false
 e:(s.toList==[75,69,89,83])=false
 f:(s.toList==[68,69,76])=false
 g:(s.toList==[69,88,73,83,84,83])=false
def Cb (kc now:Int) (w:World) (B:Nat) (MM:List Ke×List Rp) (v:Value) (nm:ByteArray) (there:Bool) (ab ao n:Nat) (K:Array Value) (W:World):Prop:=
 ∀ac',(kc=1->Calls prog 104 #[v,.agg K,.bool there,.string nm,.slice (some ⟨ab,ao+1,none⟩) n ac'] W (Fh w B MM))
  /\(kc=2->Calls prog 105 #[v,.agg K,.bool there,.string nm,.slice (some ⟨ab,ao+1,none⟩) n ac'] W (Fh w B MM))
  /\(kc=3->Calls prog 106 #[v,.agg K,.string nm,.slice (some ⟨ab,ao+1,none⟩) n ac'] W (Fh w B MM))
  /\(kc=4->Calls prog 107 #[v,.agg K,.string nm,.slice (some ⟨ab,ao+1,none⟩) n ac'] W (Fh w B MM))
  /\(kc=0->Calls prog 108 #[v,.agg K,.bool there,.int .i64 now,.string nm,.slice (some ⟨ab,ao+1,none⟩) n ac'] W (Fh w B MM))
section
variable (B:Nat) (v:Value) (now:Int) (ab ao m ac:Nat) (t0 t1 nm:ByteArray) (w:World)
theorem ycw(MM:List Ke×List Rp)(kc:Int)(c0:w.cell? ⟨ab,ao,none⟩=some (.string t0))(c1:w.cell? ⟨ab,ao+1,none⟩=some (.string t1))(hab:ab<w.heap.size)(h2:2<=m)(hm:m<=21)(hac:m<=ac)(HQ:J2 nm)(HN:Hid (Cp 96 #[.string t0] w fun e w'=>e=.returned (.string nm)/\Bl w w'))(HFT:Hid (∀W,Cp 97 #[.string nm,.int .i64 (m-1:Nat)] W fun e w'=>e=.returned (.tuple #[.bool true,.bool true])/\w'=W))(HK:Hid (∀W,Cp 100 #[.string nm] W fun e w'=>e=.returned (.int .i64 kc)/\w'=W))(hk5:kc=0\/kc=1\/kc=2\/kc=3\/kc=4)(HF:Hid (∀W,Bl w W->Cp 101 #[v,.string t1] W fun e w'=>e=.returned (.int .i64 (-1))/\w'=W))(HT:Hid (∀W,Bl w W->Cb kc now w B MM v nm false ab ao (m-1) (kC t1 kc ⟨#[]⟩ (.slice none 0 0) (.slice none 0 0) (.slice none 0 0) 0) W)):
  Calls prog 54 #[v,.int .i64 now,.slice (some ⟨ab,ao,none⟩) m ac] w (Fh w B MM):=by
 obtain⟨q1,q2,q3,q4,q5,q6,q7⟩:=HQ;have Gm:(1:Int)<=(m:Int):=by omega
 have Gj:(0:Int)<(m:Int):=by omega
 have Gk:(0:Int)<(m:Int)-1:=by omega
 have Gi:0<m-1:=by omega
 have Gl:(m:Int)<=(ac:Int):=by omega
 have Gg:1<ac:=by omega
 go_enter func54,ntmps54;go_wp2_with fail;refine HN.out.mono ?_;rintro e w1⟨rfl,b1⟩;clear HN;have Ge:=(b1.cell (p:=⟨ab,ao+1,none⟩) hab).trans c1;go_wp2_with fail;refine(HFT.out w1).mono ?_;rintro e w2⟨rfl,Gf⟩;subst Gf;clear HFT;go_wp2_with fail;refine(HK.out w2).mono ?_;rintro e w3⟨rfl,Gd⟩;subst Gd;clear HK;go_wp2_with fail;refine(HF.out w3 b1).mono ?_;rintro e w4⟨rfl,Gh⟩;subst Gh;clear HF;obtain⟨W5,Gb,Gc,_,r5⟩:=boxed w4 (kC t1 kc ⟨#[]⟩ (.slice none 0 0) (.slice none 0 0) (.slice none 0 0) 0) 47;have b5:Bl w W5:=by rw[<-Gb];exact b1.alloc b1.size _
 have z4:w.heap.size<=w4.heap.size:=b1.size;have z5:w4.heap.size<W5.heap.size:=r5.lt;clear Gb;have Ga:Hid (Cb kc now w B MM v nm false ab ao (m-1) (kC t1 kc ⟨#[]⟩ (.slice none 0 0) (.slice none 0 0) (.slice none 0 0) 0) W5):=HT.out W5 b5;clear HT;obtain⟨g0,g1,g2,g3,g4,g5,g6⟩:=F6 r5;clear r5;go_upto_region 13 with fail;rw[Gc.out];clear Gc c0 c1 Ge;generalize w4.heap.size=G at*;rcases hk5 with rfl|rfl|rfl|rfl|rfl;all_goals
  go_wp2_with fail;first|refine((Ga.out _).1 rfl).mono ?_|refine((Ga.out _).2.1 rfl).mono ?_|refine((Ga.out _).2.2.1 rfl).mono ?_|refine((Ga.out _).2.2.2.1 rfl).mono ?_|refine((Ga.out _).2.2.2.2 rfl).mono ?_
  rintro e w9⟨v',r',L',rfl,y1,y2,y3,y4⟩;have HE:Hid (Fh w B MM (.returned (.tuple #[v',r'])) w9):=⟨v',r',L',rfl,y1,y2,y3,y4⟩;clear y1 y2 y3 y4 Ga;go_wp2;go_ret2;exact HE.out
theorem yd6(MM:List Ke×List Rp)(kc:Int)(c0:w.cell? ⟨ab,ao,none⟩=some (.string t0))(c1:w.cell? ⟨ab,ao+1,none⟩=some (.string t1))(hab:ab<w.heap.size)(h2:2<=m)(hm:m<=21)(hac:m<=ac)(HQ:J2 nm)(HN:Hid (Cp 96 #[.string t0] w fun e w'=>e=.returned (.string nm)/\Bl w w'))(HFT:Hid (∀W,Cp 97 #[.string nm,.int .i64 (m-1:Nat)] W fun e w'=>e=.returned (.tuple #[.bool true,.bool true])/\w'=W))(HK:Hid (∀W,Cp 100 #[.string nm] W fun e w'=>e=.returned (.int .i64 kc)/\w'=W))(i n ka c:Nat)(x:KV)(hx:Ck w ka (i*7) x)(hka:ka<w.heap.size)(hi:i<n)(hv:v=.slice (some ⟨ka,0,none⟩) n c)(HF:Hid (∀W,Bl w W->Cp 101 #[v,.string t1] W fun e w'=>e=.returned (.int .i64 (i:Nat))/\w'=W))(HC:Hid (∀W,Bl w W->Cp 102 #[kvV x] W (Tm W x.key)))(hk5:kc=0\/kc=1\/kc=2\/kc=3\/kc=4)(HT:Hid (kc=0\/x.key.val.kind=kc->∀W G p1 n1 d1 p2 n2 d2 p3 n3 d3,Bl w W->VOwn W G x.key.val (.slice p1 n1 d1) (.slice p2 n2 d2) (.slice p3 n3 d3)->n1=x.key.val.ia.length->n2=x.key.val.pj.length->n3=x.key.val.rq.length->Cb kc now w B MM v nm true ab ao (m-1) (kC x.key.name x.key.val.kind x.key.val.text (.slice p1 n1 d1) (.slice p2 n2 d2) (.slice p3 n3 d3) x.key.due) W))(HE:Hid (kc≠0/\x.key.val.kind≠kc->∀W r w',Bl w W->Fr w' W.heap.size r R6->Bl W w'->Fh w B MM (.returned (.tuple #[v,r])) w')):
  Calls prog 54 #[v,.int .i64 now,.slice (some ⟨ab,ao,none⟩) m ac] w (Fh w B MM):=by
 subst hv;obtain⟨⟨xn,⟨kd,tx,xi,xp,xr⟩,xd⟩,vi,vp,vr⟩:=x;obtain⟨x0,x1,x2,x3,x4,x5,x6⟩:=hx;dsimp only at x0 x1 x2 x3 x4 x5 x6 HC HT HE;have Kc:(0:Int)<=(i:Int):=by omega
 have Gw:(i:Int)<(n:Int):=by omega
 obtain⟨q1,q2,q3,q4,q5,q6,q7⟩:=HQ;have Kf:(1:Int)<=(m:Int):=by omega
 have Gx:(0:Int)<(m:Int):=by omega
 have Gy:(0:Int)<(m:Int)-1:=by omega
 have Ka:0<m-1:=by omega
 have Gz:(m:Int)<=(ac:Int):=by omega
 have Gu:1<ac:=by omega
 go_enter func54,ntmps54;go_wp2_with fail;refine HN.out.mono ?_;rintro e w1⟨rfl,b1⟩;clear HN;have Gr:=(b1.cell (p:=⟨ab,ao+1,none⟩) hab).trans c1;go_wp2_with fail;refine(HFT.out w1).mono ?_;rintro e w2⟨rfl,Gt⟩;subst Gt;clear HFT;go_wp2_with fail;refine(HK.out w2).mono ?_;rintro e w3⟨rfl,Gq⟩;subst Gq;clear HK;go_wp2_with fail;refine(HF.out w3 b1).mono ?_;rintro e w4⟨rfl,Gv⟩;subst Gv;clear HF;obtain⟨W5,Gh,Gi,_,r5⟩:=boxed w4 (kC t1 kc ⟨#[]⟩ (.slice none 0 0) (.slice none 0 0) (.slice none 0 0) 0) 47;have b5:Bl w W5:=by rw[<-Gh];exact b1.alloc b1.size _
 have z4:w.heap.size<=w4.heap.size:=b1.size;have z5:w4.heap.size<W5.heap.size:=r5.lt;clear Gh;have e0:=(b5.cell (p:=⟨ka,i*7,none⟩) hka).trans x0;have e1:=(b5.cell (p:=⟨ka,i*7+1,none⟩) hka).trans x1;have e2:=(b5.cell (p:=⟨ka,i*7+2,none⟩) hka).trans x2;have e3:=(b5.cell (p:=⟨ka,i*7+3,none⟩) hka).trans x3;have e4:=(b5.cell (p:=⟨ka,i*7+4,none⟩) hka).trans x4;have e5:=(b5.cell (p:=⟨ka,i*7+5,none⟩) hka).trans x5;have e6:=(b5.cell (p:=⟨ka,i*7+6,none⟩) hka).trans x6;have Gn:Hid (Cp 102 #[.agg #[.string xn,.int .i64 kd,.string tx,vi,vp,vr,.int .i64 xd]] W5 (Tm W5 ⟨xn,⟨kd,tx,xi,xp,xr⟩,xd⟩)):=HC.out W5 b5;clear HC x0 x1 x2 x3 x4 x5 x6;go_upto_region 13 with fail;rw[Gi.out];clear Gi c0 c1 Gr;generalize w4.heap.size=G at*;go_wp2_with fail;refine Gn.out.mono ?_;rintro e w6⟨p1,d1,p2,d2,p3,d3,rfl,o6,b6⟩;dsimp only at o6;have r6:=r5.bw b6 z5;obtain⟨m0,m1,m2,m3,m4,m5,m6⟩:=F6 r6;have f0:=r6.frozen 0;have f1:=r6.frozen 1;have f2:=r6.frozen 2;have f3:=r6.frozen 3;have f4:=r6.frozen 4;have f5:=r6.frozen 5;have f6:=r6.frozen 6;have Gs:Bl w w6:=b5.trans (b6.mono b5.size);have Gf:Hid (VOwn w6 W5.heap.size ⟨kd,tx,xi,xp,xr⟩ (.slice p1 xi.length d1) (.slice p2 xp.length d2) (.slice p3 xr.length d3)):=o6;clear o6;obtain⟨n1,Gc⟩:∃n1,xi.length=n1:=⟨_,rfl⟩;obtain⟨n2,Gd⟩:∃n2,xp.length=n2:=⟨_,rfl⟩;obtain⟨n3,Gb⟩:∃n3,xr.length=n3:=⟨_,rfl⟩;rw[Gc,Gd,Gb]at Gf;rw[Gc,Gd,Gb];have Gj:Hid (n1=xi.length):=Gc.symm;have Gm:Hid (n2=xp.length):=Gd.symm;have Gl:Hid (n3=xr.length):=Gb.symm;clear Gc Gd Gb;have r7:Fc (((((((w6.setCell ⟨G,0,none⟩ (.string xn)).setCell ⟨G,1,none⟩ (.int .i64 kd)).setCell ⟨G,2,none⟩ (.string tx)).setCell ⟨G,3,none⟩ (.slice p1 n1 d1)).setCell ⟨G,4,none⟩ (.slice p2 n2 d2)).setCell ⟨G,5,none⟩ (.slice p3 n3 d3)).setCell ⟨G,6,none⟩ (.int .i64 xd)) G 47 (kC xn kd tx (.slice p1 n1 d1) (.slice p2 n2 d2) (.slice p3 n3 d3) xd):=by
  have:=((((((r6.set 0 (.string xn)).set 1 (.int .i64 kd)).set 2 (.string tx)).set 3 (.slice p1 n1 d1)).set 4 (.slice p2 n2 d2)).set 5 (.slice p3 n3 d3)).set 6 (.int .i64 xd);simpa using this
 have b7:Bl w (((((((w6.setCell ⟨G,0,none⟩ (.string xn)).setCell ⟨G,1,none⟩ (.int .i64 kd)).setCell ⟨G,2,none⟩ (.string tx)).setCell ⟨G,3,none⟩ (.slice p1 n1 d1)).setCell ⟨G,4,none⟩ (.slice p2 n2 d2)).setCell ⟨G,5,none⟩ (.slice p3 n3 d3)).setCell ⟨G,6,none⟩ (.int .i64 xd)):=Eh Gs _ _ _ _ _ _ _ _ (by omega);have HV:Hid (VOwn (((((((w6.setCell ⟨G,0,none⟩ (.string xn)).setCell ⟨G,1,none⟩ (.int .i64 kd)).setCell ⟨G,2,none⟩ (.string tx)).setCell ⟨G,3,none⟩ (.slice p1 n1 d1)).setCell ⟨G,4,none⟩ (.slice p2 n2 d2)).setCell ⟨G,5,none⟩ (.slice p3 n3 d3)).setCell ⟨G,6,none⟩ (.int .i64 xd)) W5.heap.size ⟨kd,tx,xi,xp,xr⟩ (.slice p1 n1 d1) (.slice p2 n2 d2) (.slice p3 n3 d3)):=ybp Gf.out (by omega) _ _ _ _ _ _ _;obtain⟨W7,Ge⟩:∃W7,((((((w6.setCell ⟨G,0,none⟩ (.string xn)).setCell ⟨G,1,none⟩ (.int .i64 kd)).setCell ⟨G,2,none⟩ (.string tx)).setCell ⟨G,3,none⟩ (.slice p1 n1 d1)).setCell ⟨G,4,none⟩ (.slice p2 n2 d2)).setCell ⟨G,5,none⟩ (.slice p3 n3 d3)).setCell ⟨G,6,none⟩ (.int .i64 xd)=W7:=⟨_,rfl⟩;have Gk:Hid (((((((w6.setCell ⟨G,0,none⟩ (.string xn)).setCell ⟨G,1,none⟩ (.int .i64 kd)).setCell ⟨G,2,none⟩ (.string tx)).setCell ⟨G,3,none⟩ (.slice p1 n1 d1)).setCell ⟨G,4,none⟩ (.slice p2 n2 d2)).setCell ⟨G,5,none⟩ (.slice p3 n3 d3)).setCell ⟨G,6,none⟩ (.int .i64 xd)=W7):=Ge;rw[Ge]at r7 b7 HV;clear Ge r5 r6 b6 e0 e1 e2 e3 e4 e5 e6 Gf;go_upto_region 15 with fail;rw[Gk.out];clear m0 m1 m2 m3 m4 m5 m6 f0 f1 f2 f3 f4 f5 f6 Gk Gn;obtain⟨g0,g1,g2,g3,g4,g5,g6⟩:=F6 r7;clear r7;by_cases hw:kc≠0/\kd≠kc
 ·have Gp:Hid (∀W r w',Bl w W->Fr w' W.heap.size r R6->Bl W w'->Fh w B MM (.returned (.tuple #[.slice (some ⟨ka,0,none⟩) n c,r])) w'):=HE.out hw;have Kd:(kd==kc)=false:=by simpa using hw.2
  have Kb:decide (0<kc)=true:=Qe (by omega);clear HE HT hw hk5;go_wp2_with fail;refine(ya5 W7).mono ?_;rintro e w9⟨r,rfl,hr,hb⟩;have HF:Hid (Fh w B MM (.returned (.tuple #[.slice (some ⟨ka,0,none⟩) n c,r])) w9):=Gp.out W7 r w9 b7 hr hb;clear hr hb Gp;go_wp2;go_ret2;exact HF.out
 ·have Ga:Hid (Cb kc now w B MM (.slice (some ⟨ka,0,none⟩) n c) nm true ab ao (m-1) (kC xn kd tx (.slice p1 n1 d1) (.slice p2 n2 d2) (.slice p3 n3 d3) xd) W7):=HT.out (by omega) W7 _ p1 n1 d1 p2 n2 d2 p3 n3 d3 b7 HV.out Gj.out Gm.out Gl.out;have Gg:kc=0\/kd=kc:=by omega
  clear HE HT HV Gj Gm Gl hw;rcases hk5 with rfl|rfl|rfl|rfl|rfl
  ·clear Gg;go_wp2_with fail;refine((Ga.out _).2.2.2.2 rfl).mono ?_;rintro e w9⟨v',r',L',rfl,y1,y2,y3,y4⟩;have HE:Hid (Fh w B MM (.returned (.tuple #[v',r'])) w9):=⟨v',r',L',rfl,y1,y2,y3,y4⟩;clear y1 y2 y3 y4 Ga;go_wp2;go_ret2;exact HE.out
  all_goals
   obtain rfl:=Gg.resolve_left (by decide);clear Gg;go_wp2_with fail;first|refine((Ga.out _).1 rfl).mono ?_|refine((Ga.out _).2.1 rfl).mono ?_|refine((Ga.out _).2.2.1 rfl).mono ?_|refine((Ga.out _).2.2.2.1 rfl).mono ?_
   rintro e w9⟨v',r',L',rfl,y1,y2,y3,y4⟩;have HE:Hid (Fh w B MM (.returned (.tuple #[v',r'])) w9):=⟨v',r',L',rfl,y1,y2,y3,y4⟩;clear y1 y2 y3 y4 Ga;go_wp2;go_ret2;exact HE.out
end
def Oe (T:List ByteArray):Bool:=(List.range T.length).all (fun i=>decide ((T.getD i empty).size<=200))&&decide (T.length<=16)
theorem zv1(a:Option Addr)(b o n c:Nat)(T:List ByteArray)(w:World)(h:Fs w a b o n T)(hn:n<=1048577):
  Calls prog 53 #[.slice a n c] w fun e w'=>e=.returned (.bool (Oe T))/\w'=w:=by
 have H:Hid (Fs w a b o n T):=h;have HL:Hid (Oe T=((List.range n).all (fun i=>decide ((T.getD i empty).size<=200))&&decide (n<=16))):=by unfold Hid Oe;rw[h.len]
 generalize Oe T=G at*;clear h;go_enter func53,ntmps53;go_wp2;go_loop [3] (fun i=>∃k:Nat,k<=n/\i=.int .i64 k/\Hid (∀j,j<k->(T.getD j empty).size<=200)) (fun i=>n-(intOf i).toNat)
 case atStart=>exact⟨0,by omega,rfl,fun j hj=>by omega⟩
 case round=>
  obtain⟨k,hk,rfl,hp⟩:=hrel;by_cases hlt:k<n
  ·have c0:=H.out.cell k hlt;have q0:=H.out.fit k hlt;obtain rfl:=H.out.addr (by omega);by_cases he:(T.getD k empty).size<=200
   ·have HP:Hid (∀j,j<k+1->(T.getD j empty).size<=200):=fun j hj=>by
     by_cases e:j=k
     ·subst e;exact he
     ·exact hp.out j (by omega)
    clear hp;generalize T.getD k empty=x at*;go_wp2;go_round
    case rel=>exact⟨k+1,by omega,by go_num,HP⟩
    case measure=>simp[intOf];omega
   ·have HF:Hid (G=false):=by
     unfold Hid;rw[HL.out,Bool.and_eq_false_iff];left;rw[List.all_eq_false];exact⟨k,by simp;exact hlt,by simpa using he⟩
    clear hp;generalize T.getD k empty=x at*;have Ga:(200:Int)<(x.size:Int):=by omega
    go_wp2;go_ret;exact⟨F0 HF.out.symm,rfl⟩
  ·have HF:Hid (G=decide ((n:Int)<=16)):=by
    unfold Hid;rw[HL.out,show(List.range n).all (fun i=>decide ((T.getD i empty).size<=200))=true by rw[Qw];intro j hj;exact Qe (hp.out j (by have:=List.mem_range.1 hj;omega)),Qz];exact decide_eq_decide.2 (by omega)
   clear hp;go_wp2;go_ret;exact⟨F0 HF.out.symm,rfl⟩
def Mc (T:List Pr) (nm:ByteArray) (at0:Nat):Int:=match T with
 | []=>-1
 |x::xs=>if x.1=nm then (at0:Int) else Mc xs nm (at0+1)
theorem Dy:∀(T:List Pr)(nm:ByteArray)(k s:Nat),k<T.length->(∀j,j<k->(T.getD j (bz,bz)).1≠nm)->(T.getD k (bz,bz)).1=nm->Mc T nm s=((s+k:Nat):Int)
 |[],_,_,_,h,_,_=>by simp at h
 |x::xs,nm,0,s,_,_,h=>by
  show(if x.1=nm then(s:Int) else _)=_;rw[if_pos (by simpa using h)];rfl
 |x::xs,nm,k+1,s,hk,hn,h=>by
  show(if x.1=nm then(s:Int) else Mc xs nm (s+1))=_;rw[if_neg (by have:=hn 0 (by omega);simpa using this),Dy xs nm k (s+1) (by simpa using hk) (fun j hj=>by have:=hn (j+1) (by omega);simpa using this) (by simpa using h)];congr 1;omega
theorem Eo:∀(T:List Pr)(nm:ByteArray)(s:Nat),(∀j,j<T.length->(T.getD j (bz,bz)).1≠nm)->Mc T nm s= -1
 |[],_,_,_=>rfl
 |x::xs,nm,s,hn=>by
  show(if x.1=nm then(s:Int) else Mc xs nm (s+1))=_;rw[if_neg (by have:=hn 0 (by simp);simpa using this)];exact Eo xs nm (s+1) (fun j hj=>by have:=hn (j+1) (by simpa using hj);simpa using this)
theorem yco(a:Option Addr)(b n c:Nat)(T:List Pr)(nm:ByteArray)(w:World)(h:Li w a b n T)(hn:n<=1048577):
  Calls prog 149 #[.slice a n c,.string nm] w fun e w'=>e=.returned (.int .i64 (Mc T nm 0))/\w'=w:=by
 have H:Hid (Li w a b n T):=h;have HL:Hid (T.length=n):=h.len;clear h;go_enter func149,ntmps149;go_wp2;go_loop [5] (fun i=>∃k:Nat,k<=n/\i=.int .i64 k/\Hid (∀j,j<k->(T.getD j (bz,bz)).1≠nm)) (fun i=>n-(intOf i).toNat)
 case atStart=>exact⟨0,by omega,rfl,fun j hj=>by omega⟩
 case round=>
  obtain⟨k,hk,rfl,hp⟩:=hrel;by_cases hlt:k<n
  ·have c0:=H.out.c0 k hlt;obtain rfl:=H.out.addr (by omega);by_cases he:(T.getD k (bz,bz)).1=nm
   ·have HF:Hid (Mc T nm 0=(k:Int)):=by
     have:=Dy T nm k 0 (by rw[HL.out];exact hlt) hp.out he;rw[Qq]at this;exact this
    rw[he]at c0;clear he hp;go_wp2;go_ret;exact⟨Pm HF.out.symm,rfl⟩
   ·have HP:Hid (∀j,j<k+1->(T.getD j (bz,bz)).1≠nm):=fun j hj=>by
     by_cases e:j=k
     ·subst e;exact he
     ·exact hp.out j (by omega)
    have hd:=Le he;generalize(T.getD k (bz,bz)).1=x at*;clear he hp;go_wp2;go_round
    case rel=>exact⟨k+1,by omega,by go_num,HP⟩
    case measure=>simp[intOf];omega
  ·have HF:Hid (Mc T nm 0= -1):=Eo T nm 0 (fun j hj=>hp.out j (by rw[HL.out]at hj;omega));clear hp;go_wp2;go_ret;exact⟨Pm HF.out.symm,rfl⟩
def Hg (T:List Rk) (nm:ByteArray) (at0:Nat):Int:=match T with
 | []=>-1
 |x::xs=>if x.m=nm then (at0:Int) else Hg xs nm (at0+1)
theorem D5:∀(T:List Rk)(nm:ByteArray)(k s:Nat),k<T.length->(∀j,j<k->(T.getD j rk0).m≠nm)->(T.getD k rk0).m=nm->Hg T nm s=((s+k:Nat):Int)
 |[],_,_,_,h,_,_=>by simp at h
 |x::xs,nm,0,s,_,_,h=>by
  show(if x.m=nm then(s:Int) else _)=_;rw[if_pos (by simpa using h)];rfl
 |x::xs,nm,k+1,s,hk,hn,h=>by
  show(if x.m=nm then(s:Int) else Hg xs nm (s+1))=_;rw[if_neg (by have:=hn 0 (by omega);simpa using this),D5 xs nm k (s+1) (by simpa using hk) (fun j hj=>by have:=hn (j+1) (by omega);simpa using this) (by simpa using h)];congr 1;omega
theorem C8:∀(T:List Rk)(nm:ByteArray)(s:Nat),(∀j,j<T.length->(T.getD j rk0).m≠nm)->Hg T nm s= -1
 |[],_,_,_=>rfl
 |x::xs,nm,s,hn=>by
  show(if x.m=nm then(s:Int) else Hg xs nm (s+1))=_;rw[if_neg (by have:=hn 0 (by simp);simpa using this)];exact C8 xs nm (s+1) (fun j hj=>by have:=hn (j+1) (by simpa using hj);simpa using this)
theorem zz1(a:Option Addr)(b o n c:Nat)(T:List Rk)(nm:ByteArray)(w:World)(h:F7 w a b o n T)(hn:n<=1048577):
  Calls prog 151 #[.slice a n c,.string nm] w fun e w'=>e=.returned (.int .i64 (Hg T nm 0))/\w'=w:=by
 have H:Hid (F7 w a b o n T):=h;have HL:Hid (T.length=n):=h.len;clear h;go_enter func151,ntmps151;go_wp2;go_loop [5] (fun i=>∃k:Nat,k<=n/\i=.int .i64 k/\Hid (∀j,j<k->(T.getD j rk0).m≠nm)) (fun i=>n-(intOf i).toNat)
 case atStart=>exact⟨0,by omega,rfl,fun j hj=>by omega⟩
 case round=>
  obtain⟨k,hk,rfl,hp⟩:=hrel;by_cases hlt:k<n
  ·have c0:=(H.out.cell k hlt).c0;obtain rfl:=H.out.addr (by omega);by_cases he:(T.getD k rk0).m=nm
   ·have HF:Hid (Hg T nm 0=(k:Int)):=by
     have:=D5 T nm k 0 (by rw[HL.out];exact hlt) hp.out he;rw[Qq]at this;exact this
    rw[he]at c0;clear he hp;go_wp2;go_ret;exact⟨Pm HF.out.symm,rfl⟩
   ·have HP:Hid (∀j,j<k+1->(T.getD j rk0).m≠nm):=fun j hj=>by
     by_cases e:j=k
     ·subst e;exact he
     ·exact hp.out j (by omega)
    have hd:=Le he;generalize(T.getD k rk0).m=x at*;clear he hp;go_wp2;go_round
    case rel=>exact⟨k+1,by omega,by go_num,HP⟩
    case measure=>simp[intOf];omega
  ·have HF:Hid (Hg T nm 0= -1):=C8 T nm 0 (fun j hj=>hp.out j (by rw[HL.out]at hj;omega));clear hp;go_wp2;go_ret;exact⟨Pm HF.out.symm,rfl⟩
open Kk (Le str_eq)
theorem ygq:(prog.info? 40).map (fun i=> (i.zero,i.size,i.bytes))=some (some (.agg #[.int .i64 0,.int .i64 0,.string ⟨#[]⟩,.slice none 0 0]),4,56):=by kernel_rfl
theorem yfi:(prog.info? 2).map (fun i=> (i.zero,i.size,i.bytes))=some (some (.int .i64 0),1,8):=by kernel_rfl
section
variable (k m:Int) (s:ByteArray) (ks:List Nat) (a:Option Addr) (n c:Nat)
theorem ygc(h:Um w B V M)(hn:M.length<=1048577)(hB:B<=w.heap.size):
  ∃v' w',(Builtin.append_ #[28,28] 28 #[V,.slice (some ⟨w.heap.size,0,none⟩) 1 1]).run prog (w.alloc (.cells #[.int .i64 k,.int .i64 m,.string s,.slice a n c] 40))=.ok v' w'/\Um w' B v' (M++ [⟨⟨k,m,s,ks⟩,.slice a n c⟩])/\Below B w w'/\w.grownBy w' V.ownBlock/\∀g,v'.ownBlock=some g->V.ownBlock=some g\/w.heap.size<g:=by
 obtain⟨i0,hi,Gg,Gf,Gd⟩:=info_parts ygq;have Ge:Bl w (w.alloc (.cells #[.int .i64 k,.int .i64 m,.string s,.slice a n c] 40)):=(Qb _ w).alloc (Qc _) _;have oA:=Fw h Ge
 obtain⟨v',w',Gc,Gb,hg,_,Ga⟩:=run_append_own_at (P:=prog) (w.alloc (.cells #[.int .i64 k,.int .i64 m,.string s,.slice a n c] 40)) B 28 28 40 i0 _ 4 56 underlying28 hi Gg Gf Gd rfl (by decide) V M.length (Tn M) oA ⟨w.heap.size,0,none⟩ 1 1 [.int .i64 k,.int .i64 m,.string s,.slice a n c] rfl (fun j u hj=>by
  rw[Addr.add_lit,Qq];exact((Fc.new w 40 #[.int .i64 k,.int .i64 m,.string s,.slice a n c]).cell j).trans (by simpa using hj)) (fun u hu=>by simp at hu;rcases hu with rfl|rfl|rfl|rfl<;>rfl) (by unfold maxLen;omega) (by omega) (by simp;omega)
 refine⟨v',w',Gc,?_,R4 (Qb _ w) hB h hg,?_,fun g hv=>?_⟩
 ·have e:Tn (M++ [⟨⟨k,m,s,ks⟩,.slice a n c⟩])=Tn M++ [.int .i64 k,.int .i64 m,.string s,.slice a n c]:=by unfold Tn;rw[List.flatMap_append];rfl
  unfold Um;rw[Qi,e];exact Gb
 ·have hs:(w.alloc (.cells #[.int .i64 k,.int .i64 m,.string s,.slice a n c] 40)).heap.size=w.heap.size+1:=by simp
  have h2:=hg.size;exact⟨hg.os,hg.tape,hg.output,by omega,fun k hk hr=>(hg.block k (by omega) hr).trans (Below.heap_alloc _ _ _ (by omega))⟩
 ·rcases Ga with e|e
  ·rw[e]at hv;exact .inl hv
  ·rw[e]at hv;have:=Option.some.inj hv;simp at this;exact .inr (by omega)
theorem yfn(h:Um w B V M)(hn:M.length<=1048577)(hB:B<=w.heap.size):
  ∃v' w',(Builtin.append_ #[28,28] 28 #[V,.slice (some ⟨w.heap.size,0,none⟩) 1 1]).run prog (w.alloc (.cells #[.int .i64 k,.int .i64 m,.string s,.slice a n c] 40))=.ok v' w'/\Um w' B v' (M++ [⟨⟨k,m,s,ks⟩,.slice a n c⟩])/\Below B w w'/\w.grownBy w' V.ownBlock:=by
 obtain⟨v',w',h1,h2,h3,h4,_⟩:=ygc k m s ks a n c h hn hB;exact⟨v',w',h1,h2,h3,h4⟩
end
theorem ydj(k:Nat)(h:Ue w B V ks)(hn:ks.length<=1048577)(hB:B<=w.heap.size):
  ∃v' w',(Builtin.append_ #[38,38] 38 #[V,.slice (some ⟨w.heap.size,0,none⟩) 1 1]).run prog (w.alloc (.cells #[.int .i64 (k:Int)] 2))=.ok v' w'/\Ue w' B v' (ks++ [k])/\Below B w w'/\w.grownBy w' V.ownBlock/\∀g,v'.ownBlock=some g->V.ownBlock=some g\/w.heap.size<g:=by
 obtain⟨i0,hi,Gg,Gf,Gd⟩:=info_parts yfi;have Ge:Bl w (w.alloc (.cells #[.int .i64 (k:Int)] 2)):=(Qb _ w).alloc (Qc _) _;have oA:=Fw h Ge
 obtain⟨v',w',Gc,Gb,hg,_,Ga⟩:=run_append_own_at (P:=prog) (w.alloc (.cells #[.int .i64 (k:Int)] 2)) B 38 38 2 i0 _ 1 8 underlying38 hi Gg Gf Gd rfl (by decide) V ks.length (U8 ks) oA ⟨w.heap.size,0,none⟩ 1 1 [.int .i64 (k:Int)] rfl (fun j u hj=>by
  rw[Addr.add_lit,Qq];exact((Fc.new w 2 #[.int .i64 (k:Int)]).cell j).trans (by simpa using hj)) (fun u hu=>by simp at hu;subst hu;rfl) (by unfold maxLen;omega) (by omega) (by simp;omega)
 refine⟨v',w',Gc,?_,R4 (Qb _ w) hB h hg,?_,fun g hv=>?_⟩
 ·have e:U8 (ks++ [k])=U8 ks++ [.int .i64 (k:Int)]:=by unfold U8;rw[List.map_append];rfl
  unfold Ue;rw[Qi,e];exact Gb
 ·have hs:(w.alloc (.cells #[.int .i64 (k:Int)] 2)).heap.size=w.heap.size+1:=by simp
  have h2:=hg.size;exact⟨hg.os,hg.tape,hg.output,by omega,fun k hk hr=>(hg.block k (by omega) hr).trans (Below.heap_alloc _ _ _ (by omega))⟩
 ·rcases Ga with e|e
  ·rw[e]at hv;exact .inl hv
  ·rw[e]at hv;have:=Option.some.inj hv;simp at this;exact .inr (by omega)
theorem yg3(k:Nat)(h:Ue w B V ks)(hn:ks.length<=1048577)(hB:B<=w.heap.size):
  ∃v' w',(Builtin.append_ #[38,38] 38 #[V,.slice (some ⟨w.heap.size,0,none⟩) 1 1]).run prog (w.alloc (.cells #[.int .i64 (k:Int)] 2))=.ok v' w'/\Ue w' B v' (ks++ [k])/\Below B w w'/\w.grownBy w' V.ownBlock:=by
 obtain⟨v',w',h1,h2,h3,h4,_⟩:=ydj k h hn hB;exact⟨v',w',h1,h2,h3,h4⟩
theorem A6{B':Nat}{e e':TypeId}{size size' n':Nat}{V':Value}{xs xs':List Value}(ho:w.ownsRow B e size V n xs)(h':w.ownsRow B' e' size' V' n' xs')(hg:w.grownBy w' V.ownBlock)(hne:e'≠e):w'.ownsRow B' e' size' V' n' xs':=by
 refine h'.kept hg ?_;cases hv:V'.ownBlock with
 |none=>exact .inl rfl
 |some g=>
  refine .inr fun ee=>?_;obtain⟨C,hC⟩:=M3 h' hv;obtain⟨D,hD⟩:=M3 ho ee.symm;exact hne (Hp.N9 hC hD)
def Z5 (t:ByteArray):RV:=⟨⟨4,0,t,[]⟩,.slice none 0 0⟩
def He (T:List ByteArray):List Rp:=T.map (fun t=>⟨4,0,t,[]⟩)++ [⟨6,0,⟨#[]⟩,List.range T.length⟩]
structure N8 (w:World) (v u:Value) (wr:World) (T:List ByteArray) (k:Nat):Prop where
 o1:Um wr w.heap.size v ((T.take k).map Z5)
 o2:Ue wr w.heap.size u (List.range k)
 bel:Bl w wr
theorem N8.start(w:World)(T:List ByteArray):N8 w (.slice (some ⟨w.heap.size,0,none⟩) 0 0) (.slice (some ⟨w.heap.size+1,0,none⟩) 0 0) ((w.alloc (.cells #[] 40)).alloc (.cells #[] 2)) T 0:=by
 have z:(w.alloc (.cells #[] 40)).heap.size=w.heap.size+1:=by simp
 have b1:Below (w.alloc (.cells #[] 40)).heap.size (w.alloc (.cells #[] 40)) ((w.alloc (.cells #[] 40)).alloc (.cells #[] 2)):=(Qb _ _).alloc (Qc _) _;refine⟨Ui ((Fc.new w 40 #[]).bw b1 (by omega)) (Qc _),?_,((Qb _ w).alloc (Qc _) _).alloc (by omega) _⟩;have:=Fc.new (w.alloc (.cells #[] 40)) 2 #[];rw[z]at this;exact Ui this (by omega)
theorem N8.next{u:Value}{k:Nat}(h:N8 w v u wr T k)(hk:k<T.length)(hn:T.length<=1048576):
  ∃v' w1,(Builtin.append_ #[28,28] 28 #[v,.slice (some ⟨wr.heap.size,0,none⟩) 1 1]).run prog (wr.alloc (.cells #[.int .i64 4,.int .i64 0,.string (T.getD k empty),.slice none 0 0] 40))=.ok v' w1/\
  ∃u' w2,(Builtin.append_ #[38,38] 38 #[u,.slice (some ⟨w1.heap.size,0,none⟩) 1 1]).run prog (w1.alloc (.cells #[.int .i64 (k:Int)] 2))=.ok u' w2/\N8 w v' u' w2 T (k+1):=by
 have hl:((T.take k).map Z5).length<=1048577:=by simp;omega
 obtain⟨v',w1,r1,o1,b1,g1⟩:=yfn 4 0 (T.getD k empty) [] none 0 0 h.o1 hl h.bel.size;have k1:=A6 h.o1 h.o2 g1 (by decide);obtain⟨u',w2,r2,o2,b2,g2⟩:=yg3 k k1 (by simp;omega) (Qj h.bel.size b1.size);refine⟨v',w1,r1,u',w2,r2,?_,?_,(h.bel.trans b1).trans b2⟩
 ·have:=A6 k1 o1 g2 (by decide);rw[Qo hk,List.map_append];rw[show T.getD k empty=T[k] by rw[Qa,Qd hk];rfl]at this;exact this
 ·rw[List.range_succ];exact o2
theorem N8.last{a:Option Addr}{c:Nat}(h:N8 w v (.slice a n c) wr T T.length)(hn:T.length<=1048576):
  ∃v' w1,(Builtin.append_ #[28,28] 28 #[v,.slice (some ⟨wr.heap.size,0,none⟩) 1 1]).run prog (wr.alloc (.cells #[.int .i64 6,.int .i64 0,.string ⟨#[]⟩,.slice a n c] 40))=.ok v' w1/\F9 w (He T) (.returned v') w1:=by
 have hl:((T.take T.length).map Z5).length<=1048577:=by simp;omega
 obtain⟨v',w1,r1,o1,b1,g1⟩:=yfn 6 0 ⟨#[]⟩ (List.range T.length) a n c h.o1 hl h.bel.size;have k1:=A6 h.o1 h.o2 g1 (by decide);refine⟨v',w1,r1,v',rfl,⟨_,?_,o1,fun x hx=>?_⟩,h.bel.trans b1⟩
 ·rw[List.map_append,List.take_length,List.map_map];rfl
 ·rcases List.mem_append.1 hx with hx|hx
  ·obtain⟨t,_,rfl⟩:=List.mem_map.1 hx;exact World.ownsRow_nil _ _ _ _
  ·rcases List.mem_singleton.1 hx with rfl;exact k1
theorem U9(a:Option Addr)(b o n c:Nat)(T:List ByteArray)(w:World)(h:Fs w a b o n T)(hn:n<=1048576):
  Calls prog 142 #[.slice a n c] w (F9 w (He T)):=by
 have H:Hid (Fs w a b o n T):=h;have HL:Hid (T.length=n):=h.len;have HS:Hid (N8 w _ _ _ T 0):=N8.start w T;clear h;go_enter func142,ntmps142;go_wp2;go_loopw [3,4,5] (fun v u i wr=>∃k:Nat,k<=n/\i=.int .i64 k/\Hid (N8 w v u wr T k)) (fun _ _ i _=>n-(intOf i).toNat)
 case atStart=>exact⟨0,by omega,rfl,HS⟩
 case round=>
  obtain⟨k,hk,rfl,hI⟩:=hrel;clear HS;by_cases hlt:k<n
  ·have c0:=(Lb H.out hI.out.bel).cell k hlt;obtain rfl:=H.out.addr (by omega);obtain⟨v',w1,r1,u',w2,r2,Gb⟩:=hI.out.next (by rw[HL.out];exact hlt) (by rw[HL.out];exact hn);have R1:Hid _:=r1;have R2:Hid _:=r2;have Gc:Hid _:=Gb;clear r1 r2 Gb hI;generalize T.getD k empty=x at*;go_wp2_with (first|(at_builtin;refine wpList_append_run rfl _ _ 28 rfl rfl rfl R1.out ?_)|(at_builtin;refine wpList_append_run rfl _ _ 38 rfl rfl rfl R2.out ?_));exact⟨⟨k+1,by omega,by go_num,Gc⟩,by simp[intOf];omega⟩
  ·obtain rfl:k=n:=by omega
   obtain⟨a',c',e4⟩:=Fx hI.out.o2;subst e4;have Ga:N8 w u3 (.slice a' (List.range k).length c') wr T T.length:=by rw[HL.out];exact hI.out
   obtain⟨v',w1,r1,hE⟩:=Ga.last (by rw[HL.out];exact hn);have R1:Hid _:=r1;have HE:Hid (F9 w (He T) (.returned v') w1):=hE;clear r1 hE hI Ga;generalize(List.range k).length=m at*;go_wp2_with (at_builtin;refine wpList_append_run rfl _ _ 28 rfl rfl rfl R1.out ?_);go_ret;exact HE.out
def T9:ByteArray:=⟨#[80,79,78,71]⟩
def sOK:ByteArray:=⟨#[79,75]⟩
def Ni (dl:Bool) (s:List Ke×Nat) (t:ByteArray):List Ke×Nat:=if Lm s.1 t 0<0 then s else (if dl=true then G5 s.1 t else s.1,s.2+1)
def L9 (dl:Bool) (ks:List Ke) (T:List ByteArray):List Ke×Nat:=T.foldl (Ni dl) (ks,0)
def Oj (c:Cm) (ks:List Ke) (T:List ByteArray):List Ke×List Rp:=match c with
 |0=> (ks,if T.length=0 then Hd T9 else Fy (T.getD 0 empty))
 |4=> (ks,Fy (T.getD 0 empty))
 |2=> ([],Hd sOK)
 |3=> (ks,Fe ks.length)
 |1=> (ks,He (ks.map Ke.name))
 |27=> ((L9 true ks T).1,Fe (L9 true ks T).2)
 |_=> (ks,Fe (L9 false ks T).2)
section
variable (B:Nat) (v:Value) (L:List KV) (aa:Option Addr)
theorem zx0(ac:Nat)(w:World)(h:Fv w B v L)(hB:B<=w.heap.size):
  Calls prog 99 #[v,.string ⟨#[80,73,78,71]⟩,.slice aa 0 ac] w (Fh w B (L.map KV.key,Hd T9)):=by
 have HR:Hid (∀W,Cp 139 #[.string ⟨#[80,79,78,71]⟩] W (F9 W (Hd T9))):=fun W=>Bz T9 W;have HE:Hid (∀r w2,Fr w2 w.heap.size r (Hd T9)->Bl w w2->Fh w B (L.map KV.key,Hd T9) (.returned (.tuple #[v,r])) w2):=fun r w2 h1 h2=>Fh.same h hB (Qb _ _) h1 h2;clear h;go_enter func99,ntmps99;go_wp2_with fail;refine(HR.out _).mono ?_;rintro e w1⟨r,rfl,hr,hb⟩;have HF:Hid _:=HE.out r w1 hr hb;clear hr hb HE HR;go_wp2;go_ret2;exact HF.out
theorem zxz(ab ao m ac:Nat)(T:List ByteArray)(w:World)(h:Fv w B v L)(ha:Fs w aa ab ao m T)(hm:0<m)(hm2:m<=1048576)(hB:B<=w.heap.size):
  Calls prog 99 #[v,.string ⟨#[80,73,78,71]⟩,.slice aa m ac] w (Fh w B (L.map KV.key,Fy (T.getD 0 empty))):=by
 have c0:=ha.cell 0 hm;obtain rfl:=ha.addr hm;rw[Qy]at c0;have HR:Hid (∀W s,Cp 140 #[.string s] W (F9 W (Fy s))):=fun W s=>Bg s W;have HE:Hid (∀s r w2,Fr w2 w.heap.size r (Fy s)->Bl w w2->Fh w B (L.map KV.key,Fy s) (.returned (.tuple #[v,r])) w2):=fun s r w2 h1 h2=>Fh.same h hB (Qb _ _) h1 h2;have Ga:((m:Int)==0)=false:=by simp;omega
 clear h ha;generalize T.getD 0 empty=t at*;go_enter func99,ntmps99;go_wp2_with fail;refine(HR.out _ _).mono ?_;rintro e w1⟨r,rfl,hr,hb⟩;have HF:Hid _:=HE.out t r w1 hr hb;clear hr hb HE HR;go_wp2;go_ret2;exact HF.out
theorem zzb(ab ao m ac:Nat)(T:List ByteArray)(w:World)(h:Fv w B v L)(ha:Fs w aa ab ao m T)(hm:0<m)(hB:B<=w.heap.size):
  Calls prog 99 #[v,.string ⟨#[69,67,72,79]⟩,.slice aa m ac] w (Fh w B (L.map KV.key,Fy (T.getD 0 empty))):=by
 have c0:=ha.cell 0 hm;obtain rfl:=ha.addr hm;rw[Qy]at c0;have HR:Hid (∀W s,Cp 140 #[.string s] W (F9 W (Fy s))):=fun W s=>Bg s W;have HE:Hid (∀s r w2,Fr w2 w.heap.size r (Fy s)->Bl w w2->Fh w B (L.map KV.key,Fy s) (.returned (.tuple #[v,r])) w2):=fun s r w2 h1 h2=>Fh.same h hB (Qb _ _) h1 h2;clear h ha;generalize T.getD 0 empty=t at*;go_enter func99,ntmps99;go_wp2_with fail;refine(HR.out _ _).mono ?_;rintro e w1⟨r,rfl,hr,hb⟩;have HF:Hid _:=HE.out t r w1 hr hb;clear hr hb HE HR;go_wp2;go_ret2;exact HF.out
theorem zsa(m ac:Nat)(w:World)(h:Fv w B v L)(hB:B<=w.heap.size):
  Calls prog 99 #[v,.string ⟨#[68,66,83,73,90,69]⟩,.slice aa m ac] w (Fh w B (L.map KV.key,Fe (L.map KV.key).length)):=by
 obtain⟨a,A,c,e,_⟩:=h.at;subst e;rw[Qp];have HR:Hid (∀W n,Cp 141 #[.int .i64 n] W (F9 W (Fe n))):=fun W s=>Wm s W;have HE:Hid (∀s r w2,Fr w2 w.heap.size r (Fe s)->Bl w w2->Fh w B (L.map KV.key,Fe s) (.returned (.tuple #[.slice a L.length c,r])) w2):=fun s r w2 h1 h2=>Fh.same h hB (Qb _ _) h1 h2;clear h;generalize L.length=ln at*;go_enter func99,ntmps99;go_wp2_with fail;refine(HR.out _ _).mono ?_;rintro e w1⟨r,rfl,hr,hb⟩;have HF:Hid _:=HE.out _ r w1 hr hb;clear hr hb HE HR;go_wp2;go_ret2;exact HF.out
end
theorem zol(B:Nat)(v:Value)(aa:Option Addr)(m ac:Nat)(w:World)(hB:B<=w.heap.size):
  Calls prog 99 #[v,.string ⟨#[70,76,85,83,72,65,76,76]⟩,.slice aa m ac] w (Fh w B ([],Hd sOK)):=by
 have HR:Hid (∀W,Cp 139 #[.string ⟨#[79,75]⟩] W (F9 W (Hd sOK))):=fun W=>Bz sOK W;have b0:Bl w (w.alloc (.cells #[] 47)):=(Qb _ w).alloc (Qc _) _;have HE:Hid (∀r w2,Fr w2 (w.alloc (.cells #[] 47)).heap.size r (Hd sOK)->Below (w.alloc (.cells #[] 47)).heap.size (w.alloc (.cells #[] 47)) w2->Fh w B ([],Hd sOK) (.returned (.tuple #[.slice (some ⟨w.heap.size,0,none⟩) 0 0,r])) w2):=fun r w2 h1 h2=>⟨_,r,[],rfl,rfl,((Lv.empty w).db.bw h2).le hB,h1.le b0.size,b0.trans (h2.mono b0.size)⟩;clear b0;go_enter func99,ntmps99;go_wp2_with fail;refine(HR.out _).mono ?_;rintro e w1⟨r,rfl,hr,hb⟩;have HF:Hid _:=HE.out r w1 hr hb;clear hr hb HE HR;go_wp2;go_ret2;exact HF.out
end
section
open Tryz
open Go.RowKit Go.Sort
variable {w:World} {g k:Nat} {T:TypeId} {C D:Array Value} {l:List UInt8}
def Ok (w:World) (g:Nat) (T:TypeId) (C:Array Value):Prop:=w.heap[g]?=some (.cells C T (C.size,C.size+1))
theorem Ok.cell(h:Ok w g T C)(j:Nat):w.cell? ⟨g,j,none⟩=C[j]?:=by
 unfold Ok at h;unfold World.cell?;rw[h];simp
theorem Ok.frozen(h:Ok w g T C)(j:Nat)(hj:j<C.size):w.frozen? ⟨g,j,none⟩=false:=by
 unfold Ok at h;unfold World.frozen?;rw[h];simp;omega
theorem Ok.set(h:Ok w g T C)(j:Nat)(v:Value):Ok (w.setCell ⟨g,j,none⟩ v) g T (C.setIfInBounds j v):=by
 unfold Ok at*;simp[World.setCell,Array.getElem?_modify,h]
theorem wrap_u8{x:Int}(h0:0<=x)(h1:x<256):IntKind.u8.wrap x=x:=by
 simp[IntKind.wrap,IntKind.bits,IntKind.signed];omega
theorem zm3(s:ByteArray)(w:World):∃cap W1 D,(convert 9 22 (.string s)).run prog w=.ok (.slice (some ⟨w.heap.size,0,none⟩) s.size cap) W1/\Ok W1 w.heap.size 5 D/\(∀j (hj:j<s.data.toList.length),D[j]?=some (.int .u8 ((s.data.toList[j]).toNat:Int)))/\Bl w W1:=by
 refine⟨_,_,bytesRow s (grownCap w s.size 0 5),run_bytes_of_string (P:=prog) w 9 22 5 s underlying9 underlying22 underlying5,?_,fun j hj=>?_,?_⟩
 ·show(w.heap.push _)[w.heap.size]?=_;simp
 ·have:=bytesRow_at s (grownCap w s.size 0 5) j (by simpa using hj);rw[this];simp
 ·exact((below_drewN (Qb _ w) 1)).alloc (Qc _) _
def upB (b:UInt8):UInt8:=if 97<=b.toNat/\b.toNat<=122 then UInt8.ofNat (b.toNat-32) else b
def upN (x:Nat):Nat:=if 97<=x/\x<=122 then x-32 else x
theorem zyq(b:UInt8):(upB b).toNat=upN b.toNat:=by
 have:=b.toNat_lt;unfold upB upN;split
 ·simp;omega
 ·rfl
def H9 (s:ByteArray):ByteArray:=⟨(s.data.toList.map upB).toArray⟩
def P9 (D:Array Value) (l:List UInt8) (k:Nat):Prop:=∀j (hj:j<l.length),D[j]?=some (.int .u8 (((if j<k then upN (l[j]).toNat else (l[j]).toNat):Nat):Int))
theorem zrk(h:P9 D l k)(hk:k<l.length)(hD:l.length<=D.size):P9 (D.setIfInBounds k (.int .u8 ((upN (l[k]).toNat:Nat):Int))) l (k+1):=fun j hj=>by
 by_cases e:k=j
 ·subst e;rw[Array.getElem?_setIfInBounds_self_of_lt (by omega),if_pos (by omega)]
 ·rw[Array.getElem?_setIfInBounds_ne e,h j hj];by_cases e2:j<k
  ·rw[if_pos e2,if_pos (by omega)]
  ·rw[if_neg e2,if_neg (by omega)]
theorem zp1(h:P9 D l k)(hk:k<l.length)(hu:upN (l[k]).toNat=(l[k]).toNat):P9 D l (k+1):=fun j hj=>by
 rw[h j hj];by_cases e:k=j
 ·subst e;rw[if_neg (by omega),if_pos (by omega),hu]
 ·by_cases e2:j<k
  ·rw[if_pos e2,if_pos (by omega)]
  ·rw[if_neg e2,if_neg (by omega)]
theorem Bs(s:ByteArray)(w:World)(hs:s.size<=1048576):Calls prog 96 #[.string s] w fun e w'=>e=.returned (.string (H9 s))/\Bl w w':=by
 obtain⟨Gl,W1,D0,Gb,Gc,Gh,b0⟩:=zm3 s w;have Gf:s.data.toList.length=s.size:=by rw[Lib.size_eq]
 have Gm:Hid (P9 D0 s.data.toList 0/\s.data.toList.length<=D0.size):=⟨fun j hj=>by rw[if_neg (by omega)];exact Gh j hj,by
  by_cases h0:s.data.toList.length=0
  ·omega
  ·have:=Gh (s.data.toList.length-1) (by omega);have:=(Array.getElem?_eq_some_iff.1 this).1;omega⟩
 have HN:Hid (H9 s=⟨(s.data.toList.map upB).toArray⟩):=rfl;have HLEN:Hid (s.data.toList.length=s.size):=Gf;generalize H9 s=NM,s.data.toList=l at*;have Gd:Hid ((convert 9 22 (.string s)).run prog w=.ok (.slice (some ⟨w.heap.size,0,none⟩) s.size Gl) W1):=Gb;generalize hn:s.size=n at*;clear Gh Gf;go_enter func96,ntmps96;go_wp2;go_loopw [4] (fun i wr=>∃(k:Nat) (D:Array Value),k<=n/\i=.int .i64 k/\Hid (P9 D l k/\l.length<=D.size/\Ok wr w.heap.size 5 D)/\Bl w wr) (fun i _=>n-(intOf i).toNat)
 case atStart=>exact⟨0,D0,by omega,rfl,⟨Gm.out.1,Gm.out.2,Gc⟩,b0⟩
 case round=>
  obtain⟨k,D,hk,rfl,hI,bk⟩:=hrel;clear Gb Gd Gc b0;obtain⟨hp,Gg,hr⟩:=hI.out;by_cases hlt:k<n
  ·have Gi:k<l.length:=by rw[HLEN.out];exact hlt
   have hc:wr.cell? ⟨w.heap.size,k,none⟩=some (.int .u8 (((l[k]).toNat:Nat):Int)):=by
    rw[hr.cell,hp k Gi,if_neg (by omega)]
   have Gr:=hr.frozen k (by omega);have H1:Hid (upN (l[k]).toNat=(l[k]).toNat->P9 D l (k+1)/\l.length<=D.size/\Ok wr w.heap.size 5 D):=fun e=>⟨zp1 hp Gi e,Gg,hr⟩;have H2:Hid (∀y:Nat,upN (l[k]).toNat=y->P9 (D.setIfInBounds k (.int .u8 (y:Int))) l (k+1)/\l.length<=(D.setIfInBounds k (.int .u8 (y:Int))).size/\Ok (wr.setCell ⟨w.heap.size,k,none⟩ (.int .u8 (y:Int))) w.heap.size 5 (D.setIfInBounds k (.int .u8 (y:Int)))):=fun y hy=>by
    subst hy;exact⟨zrk hp Gi Gg,by rw[Array.size_setIfInBounds];exact Gg,hr.set k _⟩
   have Gq:=(l[k]).toNat_lt;generalize(l[k]).toNat=x at*;clear hI hp Gg hr;have Gp:(0:Int)<=(k:Int):=by omega
   have Gs:(k:Int)<(n:Int):=by omega
   by_cases h1:97<=x
   ·have g1:decide ((97:Int)<=(x:Int))=true:=Qe (by omega);by_cases h2:x<=122
    ·have g2:decide ((x:Int)<=122)=true:=Qe (by omega);have Gn:IntKind.u8.wrap ((x:Int)-32)=((x-32:Nat):Int):=by
      rw[show(x:Int)-32=((x-32:Nat):Int) by omega];exact wrap_u8 (by omega) (by omega)
     have Ge:Hid _:=H2.out (x-32) (by unfold upN;rw[if_pos ⟨h1,h2⟩]);generalize x-32=y at*;clear H1 H2;go_wp2;go_roundw
     case rel=>exact⟨k+1,_,by omega,by go_num,Ge,bk.setCell (Qc _) _⟩
     case measure=>simp[intOf];omega
    ·have g2:decide ((x:Int)<=122)=false:=Qf (by omega);have Ge:Hid _:=H1.out (by unfold upN;rw[if_neg (by omega)]);clear H1 H2;go_wp2;go_roundw
     case rel=>exact⟨k+1,_,by omega,by go_num,Ge,bk⟩
     case measure=>simp[intOf];omega
   ·have g1:decide ((97:Int)<=(x:Int))=false:=Qf (by omega);have Ge:Hid _:=H1.out (by unfold upN;rw[if_neg (by omega)]);clear H1 H2;go_wp2;go_roundw
    case rel=>exact⟨k+1,_,by omega,by go_num,Ge,bk⟩
    case measure=>simp[intOf];omega
  ·obtain rfl:k=n:=by omega
   have Gk:(l.map upB).length=k:=by rw[Qp,HLEN.out]
   have Ga:=run_convert_bytes_back (P:=prog) wr 22 9 5 ⟨w.heap.size,0,none⟩ Gl (l.map upB) underlying22 underlying5 underlying9 (fun j hj=>by
    have Gj:j<l.length:=by rw[Qp]at hj;exact hj
    rw[Addr.add_lit,Qq,hr.cell,hp j Gj,if_pos (by rw[HLEN.out]at Gj;exact Gj),List.getElem_map,zyq])
   rw[Gk]at Ga;rw[<-HN.out]at Ga;clear hI hp Gg hr Gk;go_wp2;go_ret;exact⟨rfl,bk⟩
end
namespace Sl
open Tryz
open Go.RowKit
def Ha (n:Int):Bool:=decide (-1000000000000000000<=n/\n<=1000000000000000000)
def front (n p:Int):Int:=if p<0 then n+p else p
def Rg (n f:Int):Int:=if front n f<0 then 0 else front n f
def P0 (n t:Int):Int:=if front n t<n-1 then front n t else n-1
def Hx (n f t:Int):Int×Int:=
 if n<0\/Ha n=false\/Ha f=false\/Ha t=false then (0,0)
 else if P0 n t<Rg n f then (0,0) else (Rg n f,P0 n t+1)
theorem Tv{n:Int}(h:Ha n=true):-1000000000000000000<=n/\n<=1000000000000000000:=Qg h
theorem N6(n a b:Int)(w:World):
  Calls prog 52 #[.int .i64 n,.int .i64 a,.int .i64 b] w fun e w'=>e=.returned (.bool (decide (a<=n/\n<=b)))/\w'=w:=by
 by_cases h1:a<=n
 ·by_cases h2:n<=b;all_goals
   go_enter func52,ntmps52;go_wp2;go_ret;exact⟨by simp[h1,h2],rfl⟩
 ·go_enter func52,ntmps52;go_wp2;go_ret;exact⟨by simp;omega,rfl⟩
theorem yki{a b:Int}{c:Int×Int}(h:a=c.1)(h2:b=c.2):Ending.returned (.tuple #[.int .i64 a,.int .i64 b])=.returned (.tuple #[.int .i64 c.1,.int .i64 c.2]):=by rw[h,h2]
theorem Ay(n f t:Int)(w:World):
  Calls prog 146 #[.int .i64 n,.int .i64 f,.int .i64 t] w fun e w'=>e=.returned (.tuple #[.int .i64 (Hx n f t).1,.int .i64 (Hx n f t).2])/\w'=w:=by
 have E1:Hid (Ha f=decide (-1000000000000000000<=f/\f<=1000000000000000000)):=rfl;have E2:Hid (Ha t=decide (-1000000000000000000<=t/\t<=1000000000000000000)):=rfl;by_cases h1:0<=n/\n<=1000000000000000000
 ·have Ga:decide (0<=n/\n<=1000000000000000000)=true:=Qe h1;have hn:Ha n=true:=Qe (by omega);cases h2:Ha f with
  |false=>
   have HE:Hid (Hx n f t=(0,0)):=by unfold Hid Hx;rw[if_pos (.inr (.inr (.inl h2)))]
   rw[E1.out]at h2;go_enter func146,ntmps146;go_wp2_with fail;refine(N6 n _ _ w).mono ?_;rintro e w1⟨rfl,rfl⟩;rw[Ga];go_wp2_with fail;refine(N6 f _ _ w1).mono ?_;rintro e w1⟨rfl,rfl⟩;rw[h2];go_wp2;go_ret2;exact⟨by rw[HE.out];rfl,rfl⟩
  |true=>cases h3:Ha t with
   |false=>
    have HE:Hid (Hx n f t=(0,0)):=by unfold Hid Hx;rw[if_pos (.inr (.inr (.inr h3)))]
    rw[E1.out]at h2;rw[E2.out]at h3;go_enter func146,ntmps146;go_wp2_with fail;refine(N6 n _ _ w).mono ?_;rintro e w1⟨rfl,rfl⟩;rw[Ga];go_wp2_with fail;refine(N6 f _ _ w1).mono ?_;rintro e w1⟨rfl,rfl⟩;rw[h2];go_wp2_with fail;refine(N6 t _ _ w1).mono ?_;rintro e w1⟨rfl,rfl⟩;rw[h3];go_wp2;go_ret2;exact⟨by rw[HE.out];rfl,rfl⟩
   |true=>
    obtain⟨f1,f2⟩:=Tv h2;obtain⟨t1,t2⟩:=Tv h3;have HE:Hid (Hx n f t=if P0 n t<Rg n f then(0,0) else(Rg n f,P0 n t+1)):=by
     unfold Hid Hx;rw[if_neg (by simp[hn,h2,h3];omega)]
    rw[E1.out]at h2;rw[E2.out]at h3;have FE:Hid (Rg n f=if(if f<0 then n+f else f)<0 then 0 else if f<0 then n+f else f):=rfl;have LE:Hid (P0 n t=if(if t<0 then n+t else t)<n-1 then(if t<0 then n+t else t) else n-1):=rfl;go_enter func146,ntmps146;go_wp2_with fail;refine(N6 n _ _ w).mono ?_;rintro e w1⟨rfl,rfl⟩;rw[Ga];go_wp2_with fail;refine(N6 f _ _ w1).mono ?_;rintro e w1⟨rfl,rfl⟩;rw[h2];go_wp2_with fail;refine(N6 t _ _ w1).mono ?_;rintro e w1⟨rfl,rfl⟩;rw[h3];go_wp2;all_goals
     go_ret2;refine⟨yki ?_ ?_,rfl⟩;all_goals
      rw[HE.out,FE.out,LE.out];repeat' split
      all_goals first|rfl|omega
 ·have Ga:decide (0<=n/\n<=1000000000000000000)=false:=Qf h1;have HE:Hid (Hx n f t=(0,0)):=by
   unfold Hid Hx
   rw[if_pos (by
    by_cases h:n<0
    ·exact .inl h
    ·exact .inr (.inl (Qf (by omega))))]
  go_enter func146,ntmps146;go_wp2_with fail;refine(N6 n _ _ w).mono ?_;rintro e w1⟨rfl,rfl⟩;rw[Ga];go_wp2;go_ret2;exact⟨by rw[HE.out];rfl,rfl⟩
end Sl
section
open Tryz
open Go.RowKit Go.Sort
open Kk (Rk rk0 G8 Mp F1 L7 Hv G9 Fo G6 encR F7 Le str_eq)
variable {w W w':World} {B:Nat} {e:Ending}
def F3:ByteArray:=⟨#[110,111,116,32,97,110,32,105,110,116,101,103,101,114]⟩
def On:ByteArray:=⟨#[111,117,116,32,111,102,32,114,97,110,103,101]⟩
def Ke.withText (k:Ke) (t:ByteArray):Ke:=⟨k.name,⟨k.val.kind,t,k.val.ia,k.val.pj,k.val.rq⟩,k.due⟩
def Fg (s:ByteArray):Int×Bool:=Hc s.data.toList
abbrev Fa (T:List ByteArray) (i:Nat):ByteArray:=T.getD i ByteArray.empty
def R8 (t:ByteArray) (f l:Int):ByteArray:=t.extract (Sl.Hx t.size f l).1.toNat (Sl.Hx t.size f l).2.toNat
def M4 (t:ByteArray) (there:Bool):Int×Bool:=if there=true then Fg t else (0,true)
def Ol (c:Cm) (ks:List Ke) (k:Ke) (there:Bool) (T:List ByteArray):List Ke×List Rp:=match c with
 |5=> (ks,if there=true then Fy k.val.text else G7)
 |6=> (ks,Fe k.val.text.size)
 |23=>if ((Fg (Fa T 2)).2&&(Fg (Fa T 1)).2)=true then (ks,Fy (R8 k.val.text (Fg (Fa T 1)).1 (Fg (Fa T 2)).1)) else (ks,Fl F3)
 |18=>Fj ks (k.withText (k.val.text++Fa T 1)) (Fe (k.val.text++Fa T 1).size)
 |_=>
  if ((Fg (Fa T 1)).2&&(M4 k.val.text there).2)=true then
   (if Sl.Ha ((M4 k.val.text there).1+(Fg (Fa T 1)).1)=true then
    Fj ks (k.withText (F1 ((M4 k.val.text there).1+(Fg (Fa T 1)).1))) (Fe ((M4 k.val.text there).1+(Fg (Fa T 1)).1))
   else (ks,Fl On))
  else (ks,Fl F3)
theorem Bf(n:Nat)(f t:Int):∃i j:Nat,Sl.Hx n f t=((i:Int),(j:Int))/\i<=j/\j<=n:=by
 unfold Sl.Hx;split
 ·exact⟨0,0,rfl,by omega,by omega⟩
 ·split
  ·exact⟨0,0,rfl,by omega,by omega⟩
  ·rename_i h1 h2;have hf:0<=Sl.Rg n f:=by unfold Sl.Rg;split<;>omega
   have hl:Sl.P0 n t<=(n:Int)-1:=by unfold Sl.P0;split<;>omega
   exact⟨(Sl.Rg n f).toNat,(Sl.P0 n t+1).toNat,by rw[Int.toNat_of_nonneg hf,Int.toNat_of_nonneg (by omega)],by omega,by omega⟩
theorem Wy(s:ByteArray)(hs:s.size<=1048576)(W:World):Calls prog 65 #[.string s] W fun e w'=>e=.returned (.tuple #[.int .i64 (Fg s).1,.bool (Fg s).2])/\w'=W:=zyf s W hs
theorem hIN:Hid (∀W z,Cp 141 #[.int .i64 z] W (F9 W (Fe z))):=fun W z=>Wm z W
theorem hER:Hid (∀W,Cp 98 #[.string ⟨#[110,111,116,32,97,110,32,105,110,116,101,103,101,114]⟩] W (F9 W (Fl F3))):=fun W=>Ry F3 (by decide) W
theorem hNL:Hid (∀W,Cp 145 #[] W (F9 W G7)):=fun W=>ydl W
theorem hBK:Hid (∀W s,Cp 140 #[.string s] W (F9 W (Fy s))):=fun W s=>Bg s W
theorem Tp(s:ByteArray)(hs:s.size<=1048576):Hid (∀W,Cp 65 #[.string s] W fun e w'=>e=.returned (.tuple #[.int .i64 (Fg s).1,.bool (Fg s).2])/\w'=W):=fun W=>Wy s hs W
theorem yg1(l:List UInt8)(h:(Hc l).2=true):-1000000000000000000<=(Hc l).1/\(Hc l).1<=1000000000000000000:=by
 revert h;unfold Hc;split
 ·intro h;cases h
 ·split
  ·intro h;cases h
  ·intro h;exact Qg h
theorem Un(s:ByteArray):-1000000000000000000<=(Fg s).1/\(Fg s).1<=1000000000000000000\/(Fg s).2=false:=by
 by_cases h:(Fg s).2=true
 ·refine .inl ?_;have:=yg1 s.data.toList h;exact this
 ·exact .inr (by simpa using h)
structure Hu (k:Ke):Prop where
 name:k.name.size<=200
 text:k.val.text.size<=200
 ni:k.val.ia.length<=20
 np:k.val.pj.length<=20
 nr:k.val.rq.length<=20
 ia:∀t∈k.val.ia,t.size<=200
 pj:∀p∈k.val.pj,p.1.size<=200/\p.2.size<=200
 rq:∀r∈k.val.rq,r.m.size<=200/\-1000000000000000000<=r.s/\r.s<=1000000000000000000
 kind:0<=k.val.kind/\k.val.kind<=4
 due:0<=k.due/\k.due<=1000000000
theorem Hu.fit{k:Ke}(h:Hu k):N1 k:=⟨⟨by have:=h.text;omega,by have:=h.ni;omega,by have:=h.np;omega,by have:=h.nr;omega⟩,by have:=h.name;omega,fun t ht=>by have:=h.ia t ht;omega⟩
theorem Fh.wide{p:List Ke×List Rp}(h:Fh W B p e w')(hb:Bl w W):Fh w B p e w':=by
 obtain⟨v,r,L,h1,h2,h3,h4,h5⟩:=h;exact⟨v,r,L,h1,h2,h3,h4.le hb.size,hb.trans (h5.mono hb.size)⟩
theorem Mg.bel{Br:Nat}{p:List Ke×List Rp}(h:Mg w B Br p e w'):Bl w w':=by
 obtain⟨_,_,_,_,_,_,_,h5⟩:=h;exact h5
theorem Mg.wide{p:List Ke×List Rp}(h:Mg W B w.heap.size p e w')(hb:Bl w W):Fh w B p e w':=by
 obtain⟨v,r,L,h1,h2,h3,h4,h5⟩:=h;exact⟨v,r,L,h1,h2,h3,h4,hb.trans (h5.mono hb.size)⟩
section
variable (B:Nat) (v:Value) (L:List KV) (x:KV) (there:Bool) (aa:Option Addr) (ab ao ac:Nat) (T:List ByteArray) (w:World)
theorem yee(h:Fv w B v L)(hx:VRd w x.key.val x.vi x.vp x.vr)(hxs:Hu x.key)(ha:Fs w aa ab ao 1 T)(hT:∀i,i<1->(Fa T i).size<=200)(hB:B<=w.heap.size):
  Calls prog 104 #[v,kvV x,.bool there,.string ⟨#[71,69,84]⟩,.slice aa 1 ac] w (Fh w B (Ol .GET (L.map KV.key) x.key there T)):=by
 have Gb:=hx;obtain⟨⟨p1,P1,o1,d1,e1,i1,f1⟩,⟨p2,P2,d2,e2,i2,f2⟩,⟨p3,P3,o3,d3,e3,i3,f3⟩⟩:=hx;obtain⟨⟨xn,xv,xd⟩,vi,vp,vr⟩:=x;dsimp only at e1 e2 e3 Gb hxs;subst e1 e2 e3;obtain⟨W0,Ge,Gc,b0,r0⟩:=boxed w (kC xn xv.kind xv.text (.slice p1 xv.ia.length d1) (.slice p2 xv.pj.length d2) (.slice p3 xv.rq.length d3) xd) 47;have ES:=L4 h hB b0;have c0:=ha.cell 0 (by omega);rw[<-b0.cell (p:=⟨ab,ao+0,none⟩) (ha.low (by omega))]at c0;have s0:=hT 0 (by omega);obtain rfl:=ha.addr (by omega);rw[Qy]at c0;change W0.cell? _=some (.string (Fa T 0))at c0;have Gd:Hid (∀W,Cp 65 #[.string (Fa T 0)] W fun e w'=>e=.returned (.tuple #[.int .i64 (Fg (Fa T 0)).1,.bool (Fg (Fa T 0)).2])/\w'=W):=fun W=>Wy _ (by omega) W;have HN:=hNL;have Gf:Hid (∀W,Cp 140 #[.string xv.text] W (F9 W (Fy xv.text))):=fun W=>Bg _ W;obtain⟨y0,y1,y2,y3,y4,y5,y6⟩:=F6 r0;show Calls prog 104 #[v,.agg (kC xn xv.kind xv.text (.slice p1 xv.ia.length d1) (.slice p2 xv.pj.length d2) (.slice p3 xv.rq.length d3) xd),.bool there,.string ⟨#[71,69,84]⟩,.slice (some ⟨ab,ao,none⟩) 1 ac] w (Fh w B (L.map KV.key,if there=true then Fy xv.text else G7));clear h Gb hxs ha hT Ge i1 i2 i3 f1 f2 f3;generalize L.map KV.key=K0,(Fg (Fa T 0)).1=z0,(Fg (Fa T 0)).2=ok0 at*;generalize Fa T 0=t0,xv.text=tx,xv.ia.length=n1,xv.pj.length=n2,xv.rq.length=n3,xv.kind=kd at*;cases there with
 |false=>
  show Calls prog 104 #[v,.agg (kC xn kd tx (.slice p1 n1 d1) (.slice p2 n2 d2) (.slice p3 n3 d3) xd),.bool false,.string ⟨#[71,69,84]⟩,.slice (some ⟨ab,ao,none⟩) 1 ac] w (Fh w B (K0,G7));go_enter func104,ntmps104;go_upto_region 1 with fail;rw[Gc.out];go_wp2_with fail;refine(Gd.out W0).mono ?_;rintro e w0⟨rfl,Ga⟩;subst Ga;go_wp2_with fail;refine(HN.out _).mono ?_;rintro e w1⟨r,rfl,hr,hb⟩;have HF:Hid _:=ES.out G7 r w0 w1 (Qb _ _) hr hb;clear hr hb ES;go_wp2;go_ret2;exact HF.out
 |true=>
  show Calls prog 104 #[v,.agg (kC xn kd tx (.slice p1 n1 d1) (.slice p2 n2 d2) (.slice p3 n3 d3) xd),.bool true,.string ⟨#[71,69,84]⟩,.slice (some ⟨ab,ao,none⟩) 1 ac] w (Fh w B (K0,Fy tx));go_enter func104,ntmps104;go_upto_region 1 with fail;rw[Gc.out];go_wp2_with fail;refine(Gd.out W0).mono ?_;rintro e w0⟨rfl,Ga⟩;subst Ga;go_wp2_with fail;refine(Gf.out _).mono ?_;rintro e w1⟨r,rfl,hr,hb⟩;have HF:Hid _:=ES.out (Fy tx) r w0 w1 (Qb _ _) hr hb;clear hr hb ES;go_wp2;go_ret2;exact HF.out
theorem zt1(h:Fv w B v L)(hx:VRd w x.key.val x.vi x.vp x.vr)(hxs:Hu x.key)(ha:Fs w aa ab ao 1 T)(hT:∀i,i<1->(Fa T i).size<=200)(hB:B<=w.heap.size):
  Calls prog 104 #[v,kvV x,.bool there,.string ⟨#[83,84,82,76,69,78]⟩,.slice aa 1 ac] w (Fh w B (Ol .STRLEN (L.map KV.key) x.key there T)):=by
 have Ga:=hx;obtain⟨⟨p1,P1,o1,d1,e1,i1,f1⟩,⟨p2,P2,d2,e2,i2,f2⟩,⟨p3,P3,o3,d3,e3,i3,f3⟩⟩:=hx;obtain⟨⟨xn,xv,xd⟩,vi,vp,vr⟩:=x;dsimp only at e1 e2 e3 Ga hxs;subst e1 e2 e3;obtain⟨W0,Gc,Gb,b0,r0⟩:=boxed w (kC xn xv.kind xv.text (.slice p1 xv.ia.length d1) (.slice p2 xv.pj.length d2) (.slice p3 xv.rq.length d3) xd) 47;have ES:=L4 h hB b0;have c0:=ha.cell 0 (by omega);rw[<-b0.cell (p:=⟨ab,ao+0,none⟩) (ha.low (by omega))]at c0;have s0:=hT 0 (by omega);obtain rfl:=ha.addr (by omega);rw[Qy]at c0;change W0.cell? _=some (.string (Fa T 0))at c0;have Gd:Hid (∀W,Cp 65 #[.string (Fa T 0)] W fun e w'=>e=.returned (.tuple #[.int .i64 (Fg (Fa T 0)).1,.bool (Fg (Fa T 0)).2])/\w'=W):=fun W=>Wy _ (by omega) W;have HS:Hid (∀W,Cp 141 #[.int .i64 (xv.text.size:Int)] W (F9 W (Fe (xv.text.size:Int)))):=fun W=>Wm _ W;have ht:=hxs.text;obtain⟨y0,y1,y2,y3,y4,y5,y6⟩:=F6 r0;show Calls prog 104 #[v,.agg (kC xn xv.kind xv.text (.slice p1 xv.ia.length d1) (.slice p2 xv.pj.length d2) (.slice p3 xv.rq.length d3) xd),.bool there,.string ⟨#[83,84,82,76,69,78]⟩,.slice (some ⟨ab,ao,none⟩) 1 ac] w (Fh w B (L.map KV.key,Fe (xv.text.size:Int)));clear h Ga hxs ha hT Gc i1 i2 i3 f1 f2 f3;generalize L.map KV.key=K0,(Fg (Fa T 0)).1=z0,(Fg (Fa T 0)).2=ok0 at*;generalize Fa T 0=t0 at*;dsimp only at ht;generalize xv.text=tx,xv.ia.length=n1,xv.pj.length=n2,xv.rq.length=n3,xv.kind=kd at*;go_enter func104,ntmps104;go_upto_region 1 with fail;rw[Gb.out];go_wp2_with fail;refine(Gd.out W0).mono ?_;rintro e w0⟨rfl,Ge⟩;subst Ge;go_wp2_with fail;refine(HS.out _).mono ?_;rintro e w1⟨r,rfl,hr,hb⟩;have HF:Hid _:=ES.out (Fe (tx.size:Int)) r w0 w1 (Qb _ _) hr hb;clear hr hb ES;go_wp2;go_ret2;exact HF.out
theorem zo0(h:Fv w B v L)(hx:VRd w x.key.val x.vi x.vp x.vr)(hxs:Hu x.key)(ha:Fs w aa ab ao 3 T)(hT:∀i,i<3->(Fa T i).size<=200)(hB:B<=w.heap.size):
  Calls prog 104 #[v,kvV x,.bool there,.string ⟨#[71,69,84,82,65,78,71,69]⟩,.slice aa 3 ac] w (Fh w B (Ol .GETRANGE (L.map KV.key) x.key there T)):=by
 have Gi:=hx;obtain⟨⟨p1,P1,o1,d1,e1,i1,f1⟩,⟨p2,P2,d2,e2,i2,f2⟩,⟨p3,P3,o3,d3,e3,i3,f3⟩⟩:=hx;obtain⟨⟨xn,xv,xd⟩,vi,vp,vr⟩:=x;dsimp only at e1 e2 e3 Gi hxs;subst e1 e2 e3;obtain⟨W0,Gl,Ge,b0,r0⟩:=boxed w (kC xn xv.kind xv.text (.slice p1 xv.ia.length d1) (.slice p2 xv.pj.length d2) (.slice p3 xv.rq.length d3) xd) 47;have ES:=L4 h hB b0;have c0:=ha.cell 0 (by omega);rw[<-b0.cell (p:=⟨ab,ao+0,none⟩) (ha.low (by omega))]at c0;have s0:=hT 0 (by omega);have c1:=ha.cell 1 (by omega);rw[<-b0.cell (p:=⟨ab,ao+1,none⟩) (ha.low (by omega))]at c1;have s1:=hT 1 (by omega);have c2:=ha.cell 2 (by omega);rw[<-b0.cell (p:=⟨ab,ao+2,none⟩) (ha.low (by omega))]at c2;have s2:=hT 2 (by omega);obtain rfl:=ha.addr (by omega);rw[Qy]at c0;change W0.cell? _=some (.string (Fa T 0))at c0;change W0.cell? _=some (.string (Fa T 1))at c1;change W0.cell? _=some (.string (Fa T 2))at c2;have Gg:=Tp (Fa T 2) (by omega);have Gf:=Tp (Fa T 1) (by omega);have Gj:=hER;have ht:=hxs.text;dsimp only at ht;obtain⟨y0,y1,y2,y3,y4,y5,y6⟩:=F6 r0;obtain⟨i,j,Gd,Gp,Gq⟩:=Bf xv.text.size (Fg (Fa T 1)).1 (Fg (Fa T 2)).1;have Gn:Hid (∀W,Cp 146 #[.int .i64 (xv.text.size:Int),.int .i64 (Fg (Fa T 1)).1,.int .i64 (Fg (Fa T 2)).1] W fun e w'=>e=.returned (.tuple #[.int .i64 (i:Int),.int .i64 (j:Int)])/\w'=W):=fun W=>by
  have:=Sl.Ay xv.text.size (Fg (Fa T 1)).1 (Fg (Fa T 2)).1 W;rw[Gd]at this;exact this
 have Gh:Hid (R8 xv.text (Fg (Fa T 1)).1 (Fg (Fa T 2)).1=xv.text.extract i j):=by
  unfold Hid R8;rw[Gd];rfl
 have Gm:Hid (∀W,Cp 140 #[.string (xv.text.extract i j)] W (F9 W (Fy (xv.text.extract i j)))):=fun W=>Bg _ W;show Calls prog 104 #[v,.agg (kC xn xv.kind xv.text (.slice p1 xv.ia.length d1) (.slice p2 xv.pj.length d2) (.slice p3 xv.rq.length d3) xd),.bool there,.string ⟨#[71,69,84,82,65,78,71,69]⟩,.slice (some ⟨ab,ao,none⟩) 3 ac] w (Fh w B (if((Fg (Fa T 2)).2&&(Fg (Fa T 1)).2)=true then(L.map KV.key,Fy (R8 xv.text (Fg (Fa T 1)).1 (Fg (Fa T 2)).1)) else(L.map KV.key,Fl F3)));rw[Gh.out];clear Gh Gd;clear h Gi hxs ha hT Gl i1 i2 i3 f1 f2 f3;generalize L.map KV.key=K0,(Fg (Fa T 2)).1=z2,(Fg (Fa T 2)).2=ok2,(Fg (Fa T 1)).1=z1,(Fg (Fa T 1)).2=ok1,Fa T 0=t0 at*;generalize Fa T 1=t1,Fa T 2=t2,xv.text=tx,xv.ia.length=n1,xv.pj.length=n2,xv.rq.length=n3,xv.kind=kd at*;cases ok2 with
 |false=>
  show Calls prog 104 #[v,.agg (kC xn kd tx (.slice p1 n1 d1) (.slice p2 n2 d2) (.slice p3 n3 d3) xd),.bool there,.string ⟨#[71,69,84,82,65,78,71,69]⟩,.slice (some ⟨ab,ao,none⟩) 3 ac] w (Fh w B (K0,Fl F3));go_enter func104,ntmps104;go_upto_region 1 with fail;rw[Ge.out];go_wp2_with fail;refine(Gg.out W0).mono ?_;rintro e w0⟨rfl,Gb⟩;subst Gb;go_wp2_with fail;refine(Gf.out w0).mono ?_;rintro e Gc⟨rfl,Ga⟩;subst Ga;go_wp2_with fail;refine(Gj.out _).mono ?_;rintro e w1⟨r,rfl,hr,hb⟩;have HF:Hid _:=ES.out (Fl F3) r Gc w1 (Qb _ _) hr hb;clear hr hb ES;go_wp2;go_ret2;exact HF.out
 |true=>
  cases ok1 with
  |false=>
   show Calls prog 104 #[v,.agg (kC xn kd tx (.slice p1 n1 d1) (.slice p2 n2 d2) (.slice p3 n3 d3) xd),.bool there,.string ⟨#[71,69,84,82,65,78,71,69]⟩,.slice (some ⟨ab,ao,none⟩) 3 ac] w (Fh w B (K0,Fl F3));go_enter func104,ntmps104;go_upto_region 1 with fail;rw[Ge.out];go_wp2_with fail;refine(Gg.out W0).mono ?_;rintro e w0⟨rfl,Gb⟩;subst Gb;go_wp2_with fail;refine(Gf.out w0).mono ?_;rintro e Gc⟨rfl,Ga⟩;subst Ga;go_wp2_with fail;refine(Gj.out _).mono ?_;rintro e w1⟨r,rfl,hr,hb⟩;have HF:Hid _:=ES.out (Fl F3) r Gc w1 (Qb _ _) hr hb;clear hr hb ES;go_wp2;go_ret2;exact HF.out
  |true=>
   show Calls prog 104 #[v,.agg (kC xn kd tx (.slice p1 n1 d1) (.slice p2 n2 d2) (.slice p3 n3 d3) xd),.bool there,.string ⟨#[71,69,84,82,65,78,71,69]⟩,.slice (some ⟨ab,ao,none⟩) 3 ac] w (Fh w B (K0,Fy (tx.extract i j)));go_enter func104,ntmps104;go_upto_region 1 with fail;rw[Ge.out];go_wp2_with fail;refine(Gg.out W0).mono ?_;rintro e w0⟨rfl,Gb⟩;subst Gb;go_wp2_with fail;refine(Gf.out w0).mono ?_;rintro e Gc⟨rfl,Ga⟩;subst Ga;go_wp2_with fail;refine(Gn.out Gc).mono ?_;rintro e w3⟨rfl,Gk⟩;subst Gk;go_wp2_with fail;refine(Gm.out _).mono ?_;rintro e w1⟨r,rfl,hr,hb⟩;have HF:Hid _:=ES.out (Fy (tx.extract i j)) r w3 w1 (Qb _ _) hr hb;clear hr hb ES;go_wp2;go_ret2;exact HF.out
theorem ztd(h:Fv w B v L)(hf:Lg (L.map KV.key))(hn:L.length<=500000)(hx:VRd w x.key.val x.vi x.vp x.vr)(hxs:Hu x.key)(ha:Fs w aa ab ao 2 T)(hT:∀i,i<2->(Fa T i).size<=200)(hB:B<=w.heap.size):
  Calls prog 104 #[v,kvV x,.bool there,.string ⟨#[65,80,80,69,78,68]⟩,.slice aa 2 ac] w (Fh w B (Ol .APPEND (L.map KV.key) x.key there T)):=by
 have Ga:=hx;obtain⟨⟨p1,P1,o1,d1,e1,i1,f1⟩,⟨p2,P2,d2,e2,i2,f2⟩,⟨p3,P3,o3,d3,e3,i3,f3⟩⟩:=hx;obtain⟨⟨xn,xv,xd⟩,vi,vp,vr⟩:=x;dsimp only at e1 e2 e3 Ga hxs;subst e1 e2 e3;obtain⟨W0,Gh,Gg,b0,r0⟩:=boxed w (kC xn xv.kind xv.text (.slice p1 xv.ia.length d1) (.slice p2 xv.pj.length d2) (.slice p3 xv.rq.length d3) xd) 47;have ES:=L4 h hB b0;have c0:=ha.cell 0 (by omega);rw[<-b0.cell (p:=⟨ab,ao+0,none⟩) (ha.low (by omega))]at c0;have s0:=hT 0 (by omega);have c1:=ha.cell 1 (by omega);rw[<-b0.cell (p:=⟨ab,ao+1,none⟩) (ha.low (by omega))]at c1;have s1:=hT 1 (by omega);obtain rfl:=ha.addr (by omega);rw[Qy]at c0;change W0.cell? _=some (.string (Fa T 0))at c0;change W0.cell? _=some (.string (Fa T 1))at c1;have Gj:=Tp (Fa T 1) (by omega);have ht:=hxs.text;dsimp only at ht;have Gi:(xv.text++Fa T 1).size=xv.text.size+(Fa T 1).size:=ByteArray.size_append;have HSET:Hid (∀W rv,Bl w W->Fr W w.heap.size rv (Fe (((xv.text++Fa T 1).size:Int)))->Cp 147 #[v,.agg (kC xn xv.kind (xv.text++Fa T 1) (.slice p1 xv.ia.length d1) (.slice p2 xv.pj.length d2) (.slice p3 xv.rq.length d3) xd),rv] W (fun e w'=>Fh w B (Fj (L.map KV.key) ⟨xn,⟨xv.kind,xv.text++Fa T 1,xv.ia,xv.pj,xv.rq⟩,xd⟩ (Fe (((xv.text++Fa T 1).size:Int)))) e w'/\Bl W w')):=fun W rv hb hr=>by
  have hk:N1 ⟨xn,⟨xv.kind,xv.text++Fa T 1,xv.ia,xv.pj,xv.rq⟩,xd⟩:=⟨⟨by show(xv.text++Fa T 1).size<=_;omega,hxs.fit.fit.ia,hxs.fit.fit.pj,hxs.fit.fit.rq⟩,hxs.fit.name,hxs.fit.ia⟩;have hv:VRd W (⟨xv.kind,xv.text++Fa T 1,xv.ia,xv.pj,xv.rq⟩:Vl) (.slice p1 xv.ia.length d1) (.slice p2 xv.pj.length d2) (.slice p3 xv.rq.length d3):=⟨(Ga.bw hb).ia,(Ga.bw hb).pj,(Ga.bw hb).rq⟩;exact(Pv B v L ⟨⟨xn,⟨xv.kind,xv.text++Fa T 1,xv.ia,xv.pj,xv.rq⟩,xd⟩,.slice p1 xv.ia.length d1,.slice p2 xv.pj.length d2,.slice p3 xv.rq.length d3⟩ rv (Fe (((xv.text++Fa T 1).size:Int))) W (h.bw hb) hf hn hv hk hr (Qj hB hb.size) hb.size).mono fun e w' he=>⟨Mg.wide he hb,he.bel⟩
 have Gm:Hid (∀W,Cp 141 #[.int .i64 ((xv.text++Fa T 1).size:Int)] W (F9 W (Fe ((xv.text++Fa T 1).size:Int)))):=fun W=>Wm _ W;have Ge:ab<w.heap.size:=ha.low (by omega);obtain⟨y0,y1,y2,y3,y4,y5,y6⟩:=F6 r0;show Calls prog 104 #[v,.agg (kC xn xv.kind xv.text (.slice p1 xv.ia.length d1) (.slice p2 xv.pj.length d2) (.slice p3 xv.rq.length d3) xd),.bool there,.string ⟨#[65,80,80,69,78,68]⟩,.slice (some ⟨ab,ao,none⟩) 2 ac] w (Fh w B (Fj (L.map KV.key) ⟨xn,⟨xv.kind,xv.text++Fa T 1,xv.ia,xv.pj,xv.rq⟩,xd⟩ (Fe ((xv.text++Fa T 1).size:Int))));clear hf;clear h Ga hxs ha hT Gh i1 i2 i3 f1 f2 f3;generalize L.map KV.key=K0 at*;generalize Fj K0 ⟨xn,⟨xv.kind,xv.text++Fa T 1,xv.ia,xv.pj,xv.rq⟩,xd⟩ (Fe ((xv.text++Fa T 1).size:Int))=SM,(Fg (Fa T 1)).1=z1,(Fg (Fa T 1)).2=ok1,Fa T 0=t0 at*;generalize Fa T 1=t1,xv.text=tx,xv.ia.length=n1,xv.pj.length=n2,xv.rq.length=n3,xv.kind=kd at*;have Gq:ab≠w.heap.size:=by omega
 have r1:Fc (W0.setCell ⟨w.heap.size,2,none⟩ (.string (tx++t1))) w.heap.size 47 (kC xn kd (tx++t1) (.slice p1 n1 d1) (.slice p2 n2 d2) (.slice p3 n3 d3) xd):=r0.set 2 (.string (tx++t1));have f2:=r0.frozen 2;go_enter func104,ntmps104;go_upto_region 1 with fail;rw[Gg.out];go_wp2_with fail;refine(Gj.out W0).mono ?_;rintro e w0⟨rfl,Gl⟩;subst Gl;go_wp2_with fail;go_region;obtain⟨wA,hA⟩:∃wA,wA=(w0.setCell ⟨w.heap.size,2,none⟩ (.string (tx++t1))).drew:=⟨_,rfl⟩;have HA:Hid (wA=(w0.setCell ⟨w.heap.size,2,none⟩ (.string (tx++t1))).drew):=hA;have rA:Fc wA w.heap.size 47 (kC xn kd (tx++t1) (.slice p1 n1 d1) (.slice p2 n2 d2) (.slice p3 n3 d3) xd):=by rw[hA];exact r1
 have bA:Bl w wA:=by rw[hA];exact below_drewN (b0.setCell (Qc _) _) 1
 rw[<-HA.out];obtain⟨x0,x1,x2,x3,x4,x5,x6⟩:=F6 rA;have Gb:=rA.lt;clear hA HA rA ES;have Gp:(tx++t1).size<=400:=by omega
 clear Gi r1;generalize tx++t1=nt at*;go_upto_region 17 with fail;go_region_held3 (fun W=>W.cell? ⟨w.heap.size,0,none⟩=some (.string xn)/\W.cell? ⟨w.heap.size,1,none⟩=some (.int .i64 kd)/\W.cell? ⟨w.heap.size,2,none⟩=some (.string (nt))/\W.cell? ⟨w.heap.size,3,none⟩=some (.slice p1 n1 d1)/\W.cell? ⟨w.heap.size,4,none⟩=some (.slice p2 n2 d2)/\W.cell? ⟨w.heap.size,5,none⟩=some (.slice p3 n3 d3)/\W.cell? ⟨w.heap.size,6,none⟩=some (.int .i64 xd))
  (first|exact⟨x0,x1,x2,x3,x4,x5,x6⟩|exact(up7 b1 Gb ⟨x0,x1,x2,x3,x4,x5,x6⟩)|exact(up7 b2 Gk (up7 b1 Gb ⟨x0,x1,x2,x3,x4,x5,x6⟩)))
  (first
   |(go_at_call 141;refine(Gm.out _).mono ?_;rintro e w1⟨r,rfl,hr,b1⟩;have bd:Bl wA w1:=(below_drewN (Qb _ wA) 1).trans b1;have Gf:Fr w1 w.heap.size r (Fe ((nt.size:Int))):=hr.le bA.size;have Gk:w.heap.size<w1.heap.size:=Qr Gb bd.size;have Gn:Bl w w1:=bA.trans (bd.mono bA.size))
   |(go_at_call 147;refine(HSET.out _ _ Gn Gf).mono ?_;rintro e w2⟨⟨v',r',L',rfl,hm,ho,Gc,Gd⟩,b2⟩;have HF:Hid (Fh w B SM (.returned (.tuple #[v',r'])) w2):=⟨v',r',L',rfl,hm,ho,Gc,Gd⟩;clear hm ho Gc Gd))
 all_goals
  go_wp2;go_ret2;exact HF.out
end
end
end Go.Proofs.YtokafonppgppdaaGreatDoor
