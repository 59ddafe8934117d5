import Derived.Test.YtokafonppgppdaaGreatDoorC9
set_option maxHeartbeats 4000000
set_option maxRecDepth 100000
namespace Go.Proofs.YtokafonppgppdaaGreatDoor.Kk
open Tryz
open Go.RowKit Go.Sort
variable {w:World} {B A n:Nat} {L M:List Rk} {x:Rk}
def without (L:List Rk) (m:ByteArray):List Rk:=L.filter fun x=>decide (x.m≠m)
section
variable (L:List Rk) (m:ByteArray)
theorem zgx (k:Nat) (h:k<L.length):without (L.take (k+1)) m=without (L.take k) m++(if (L.getD k rk0).m=m then [] else [L.getD k rk0]):=by
 unfold without;rw [Qo h,List.filter_append,Qa,Qd h,Option.getD_some];by_cases he:(L[k]).m=m
 ·rw [if_pos he];simp [he]
 ·rw [if_neg he];simp [he]
theorem zb3:(without L m).length<=L.length:=Qt _ _
end
theorem zma (a:Option Addr) (b off n c:Nat) (L:List Rk) (m:ByteArray) (w:World) (h:zdh w a b off n L) (hn:n<=1048577):
  Calls prog 152 #[.slice a n c,.string m] w fun e w'=>∃A cc,e= .returned (.slice (some ⟨A,0,none⟩) (without L m).length cc)/\za9 w' w.heap.size (.slice (some ⟨A,0,none⟩) (without L m).length cc) (without L m)/\Bl w w':=by
 obtain ⟨i0,hi,hz0,hz1,hz2⟩:=info_parts zk2;have H:Hid (zdh w a b off n L):=h;have HL:Hid (L.length=n):=h.len;have HO:Hid _:=zly w w.heap.size (Qc _);have HB:Hid (Bl w (w.alloc (.cells #[] 147))):=(Qb _ w).alloc (Qc _) _;clear h;go_enter func152,ntmps152;go_wp2;go_loopw [5,6] (fun v i wr=>∃(k A cc:Nat),k<=n/\i= .int .i64 k/\v= .slice (some ⟨A,0,none⟩) (without (L.take k) m).length cc/\za9 wr w.heap.size (.slice (some ⟨A,0,none⟩) (without (L.take k) m).length cc) (without (L.take k) m)/\Bl w wr) (fun _ i _=>n-(intOf i).toNat)
 case atStart=>exact ⟨0,_,_,by omega,rfl,rfl,HO.out,HB.out⟩
 case round=>
  obtain ⟨k,A,cc,hk,rfl,rfl,hown,bk⟩:=hrel;clear HO HB;by_cases hlt:k<n
  ·have HW:=H.out.bw bk;have hy:=HW.cell k hlt;obtain rfl:=HW.addr (by omega);have d0:=hy.c0;have d1:=hy.c1;have HN:Hid (without (L.take (k+1)) m=without (L.take k) m++(if (L.getD k rk0).m=m then [] else [L.getD k rk0])):=zgx L m k (by rw [HL.out];exact hlt);have hwl:(without (L.take k) m).length<=k:=Qj (zb3 _ _) (by rw [Qn];omega);generalize L.getD k rk0=y at*;obtain ⟨ym,ys⟩:=y;dsimp only at d0 d1;have sk:=bk.size;clear HW hy;by_cases he:ym=m
   ·have HN2:Hid (without (L.take (k+1)) m=without (L.take k) m):=by unfold Hid;rw [HN.out,if_pos he,List.append_nil]
    have hd:(ym.toList==m.toList)=true:=by rw [str_eq,Qe he]
    have HW2:Hid _:=hown;subst he;clear HN hown hd;go_wp2;go_roundw
    case rel=>exact ⟨k+1,A,cc,by omega,by go_num,by rw [HN2.out],by rw [HN2.out];exact HW2.out,bk⟩
    case measure=>simp [intOf];omega
   ·have HN2:Hid (without (L.take (k+1)) m=without (L.take k) m++ [⟨ym,ys⟩]):=by unfold Hid;rw [HN.out,if_neg he]
    have hd:=zbz he;generalize without (L.take k) m=M at*;clear HN he;go_wp2_with (at_builtin;refine wpList_append_own _ rfl _ _ 43 rfl w.heap.size 147 i0 _ 2 24 underlying43 hi hz0 hz1 hz2 rfl (by decide) _ _ _ rfl (hown.alloc _) ⟨wr.heap.size,0,none⟩ 1 1 [.string ym,.int .i64 ys] rfl rfl ?c1 ?c2 ?c3 ?c4 ?c5 ?_)
    case c1=>
     intro j u hj;rw [Addr.add_lit,Qq];exact ((zab.new wr 147 #[.string ym,.int .i64 ys]).cell j).trans (by simpa using hj)
    case c2=>exact fun u hu=>by simp at hu;rcases hu with rfl|rfl<;>rfl
    case c3=>unfold maxLen;omega
    case c4=>omega
    case c5=>simp;omega
    intro v' w5 hown' hgrow _;have b5:Bl w w5:=below_grown (bk.alloc (by omega) _) hgrow (fun x hx=> (hown.lt x hx).1) (by simp;omega);have H5:Hid (za9 w5 w.heap.size v' (M++ [⟨ym,ys⟩])):=by
     unfold Hid za9;rw [zfi,Qi];exact hown'
    obtain ⟨A5,c5,hv⟩:∃A cap,v'= .slice (some ⟨A,0,none⟩) (M++ [(⟨ym,ys⟩:Rk)]).length cap:=Go.Joins.ownsRow_form H5.out (by simp);subst hv;clear hown' hgrow hown;go_wp2;go_roundw
    case rel=>exact ⟨k+1,A5,c5,by omega,by go_num,by rw [HN2.out],by rw [HN2.out];exact H5.out,b5⟩
    case measure=>simp [intOf];omega
  ·obtain rfl:k=n:=by omega
   have HT:Hid (L.take k=L):=by unfold Hid;rw [<-HL.out];exact List.take_length
   rw [HT.out] at hown;have HW2:Hid _:=hown;clear hown;rw [HT.out];go_wp2;go_ret;exact ⟨A,cc,rfl,HW2.out,bk⟩
def zwq (M:List Rk) (x:Rk):Nat:=(M.takeWhile fun y=>zbv y x).length
def zf4 (M:List Rk) (x:Rk):List Rk:=M.take (zwq M x)++([x]++M.drop (zwq M x))
theorem ye6 (M:List Rk) (x:Rk) (k:Nat) (hk:k<=M.length) (h:∀j,j<k->zbv (M.getD j rk0) x=true) (he:k=M.length\/zbv (M.getD k rk0) x=false):zwq M x=k:=by
 unfold zwq;induction M generalizing k with
 |nil=>simp at hk;subst hk;rfl
 |cons y l ih=>
  cases k with
  |zero=>
   rcases he with he|he
   ·simp at he
   ·have he':zbv y x=false:=he;rw [List.takeWhile_cons,he'];rfl
  |succ k=>
   have h0:zbv y x=true:=h 0 (by omega);rw [List.takeWhile_cons,h0]
   have:=ih k (by simpa using hk) (fun j hj=>h (j+1) (by omega)) (by
    rcases he with he|he
    ·left;simpa using he
    ·right;exact he)
   simp only [if_true,Q1,this]
theorem yfh (M:List Rk) (x:Rk):zwq M x<=M.length:=by
 unfold zwq;exact (List.takeWhile_sublist _).length_le
theorem zp4 (L:List Rk):∀u∈zbk L,u.oneCell'=true:=fun u hu=>by
 unfold zbk at hu;obtain ⟨x,_,hx⟩:=List.mem_flatMap.1 hu;simp [encR] at hx;rcases hx with rfl|rfl<;>rfl
theorem zmf (M:List Rk) (p:Nat):zbk M=zbk (M.take p)++zbk (M.drop p):=by
 rw [<-zfi,List.take_append_drop]
theorem za9.wide {B':Nat} {v:Value} (h:za9 w B v L) (hB:B'<=B):za9 w B' v L:=by
 obtain ⟨h1,⟨e1,e2⟩|⟨g,cap,cur,e1,h2,h3⟩⟩:=h
 ·exact ⟨h1,.inl ⟨e1,e2⟩⟩
 ·exact ⟨h1,.inr ⟨g,cap,cur,e1,Qj hB h2,h3⟩⟩
theorem znf {c x:Nat} (h:(Value.slice (some ⟨A,0,none⟩) n c).ownBlock=some x):x=A:=(Option.some.inj h).symm
def zlk (W:World) (A:Nat) (M:List Rk):Prop:=∀j u,(zbk M)[j]?=some u->W.cell? ⟨A,j,none⟩=some u
theorem zlk.keep {W W':World} (h:zlk W A M) (e:W'.heap[A]?=W.heap[A]?):zlk W' A M:=fun j u hj=> (World.cell?_of_block (w:=W) e).trans (h j u hj)
theorem zln (a:Option Addr) (b off n c:Nat) (L:List Rk) (m:ByteArray) (s:Int) (w:World) (h:zdh w a b off n L) (hn:n<=1048577):
  Calls prog 120 #[.slice a n c,.string m,.int .i64 s] w fun e w'=>∃A cc,e= .returned (.slice (some ⟨A,0,none⟩) (zf4 (without L m) ⟨m,s⟩).length cc)/\za9 w' w.heap.size (.slice (some ⟨A,0,none⟩) (zf4 (without L m) ⟨m,s⟩).length cc) (zf4 (without L m) ⟨m,s⟩)/\Bl w w':=by
 obtain ⟨i0,hi,hz0,hz1,hz2⟩:=info_parts zk2;have b0:Bl w (w.alloc (.cells #[.string m,.int .i64 s] 147)):=(Qb _ w).alloc (Qc _) _;have q0:=zab.new w 147 #[.string m,.int .i64 s];have HWI:=zma a b off n c L m (w.alloc (.cells #[.string m,.int .i64 s] 147)) (h.bw b0) hn;have hMl:(without L m).length<=n:=by have:=zb3 L m;rw [h.len] at this;exact this
 have s0:=b0.size;have l0:=q0.lt;clear h;generalize without L m=M at*;go_enter func120,ntmps120;go_wp2_with fail;generalize w.alloc (.cells #[.string m,.int .i64 s] 147)=w1 at*;refine HWI.mono ?_;rintro e w2 ⟨A,cc,rfl,o2,b2⟩;have s2:=b2.size;have bb2:=b0.trans (b2.mono s0);have q2:=q0.bw b2 l0;clear HWI b0 q0;have HO:Hid (za9 w2 w1.heap.size (.slice (some ⟨A,0,none⟩) M.length cc) M):=o2;have hA:=o2.lt A rfl;clear o2;have HQ:Hid (zab w2 w.heap.size 147 #[.string m,.int .i64 s]):=q2;clear q2 b2;go_upto_block 0 with fail;go_cut [9] from 17 to 143 (fun i wx=>i= .int .i64 (zwq M ⟨m,s⟩)/\Bl w2 wx)
 case first=>
  go_wp2_with fail;go_loopw [9] (fun i wr=>∃(k:Nat),k<=M.length/\i= .int .i64 k/\Hid (∀j,j<k->zbv (M.getD j rk0) ⟨m,s⟩=true)/\Bl w2 wr) (fun i _=>M.length-(intOf i).toNat)
  case atStart=>exact ⟨0,by omega,rfl,fun j hj=>by omega,Qb _ _⟩
  case round=>
   obtain ⟨k,hk,rfl,hp,bk⟩:=hrel;have sk:=bk.size;by_cases hlt:k<M.length
   ·have hy:=ybo (HO.out.bw bk) k hlt;have hq:=HQ.out.bw bk HQ.out.lt;have hwl:w.heap.size<wr.heap.size:=hq.lt;have hAl:A<wr.heap.size:=by omega
    have d0:=hy.c0;have d1:=hy.c1;have x0:wr.cell? ⟨w.heap.size,0,none⟩=some (.string m):=hq.cell 0;have x1:wr.cell? ⟨w.heap.size,1,none⟩=some (.int .i64 s):=hq.cell 1;have HY:Hid (∃y,M.getD k rk0=y):=⟨_,rfl⟩;obtain ⟨y,hye⟩:=HY.out;have HYE:Hid (M.getD k rk0=y):=hye;rw [hye] at d0 d1;obtain ⟨ah,hah⟩:∃ah,zbv y ⟨m,s⟩=ah:=⟨_,rfl⟩;have HAE:Hid (zbv y ⟨m,s⟩=ah):=hah;have HAH:Hid (∀W,Cp 167 #[rkV y,rkV ⟨m,s⟩] W fun e w'=>e= .returned (.bool ah)/\Bl W w'):=fun W=>by
     rw [<-hah];exact zp0 y ⟨m,s⟩ W
    obtain ⟨ym,ys⟩:=y;dsimp only at d0 d1;have hk0:(0:Int)<=(k:Int):=by omega
    have hkn:(k:Int)<(M.length:Int):=by omega
    clear HY hye hy hq hah;cases ah with
    |true=>
     have HP2:Hid (∀j,j<k+1->zbv (M.getD j rk0) ⟨m,s⟩=true):=fun j hj=>by
      by_cases e:j=k
      ·subst e;rw [HYE.out];exact HAE.out
      ·exact hp.out j (by omega)
     clear hp HAE HYE;go_upto_region 4 with fail;go_region_held3 (fun W=>W.cell? ⟨A,k*2,none⟩=some (.string ym)/\W.cell? ⟨A,k*2+1,none⟩=some (.int .i64 ys)/\W.cell? ⟨w.heap.size,0,none⟩=some (.string m)/\W.cell? ⟨w.heap.size,1,none⟩=some (.int .i64 s))
      (first
       |exact ⟨d0,d1,x0,x1⟩
       |exact ⟨(b1.cell (p:=⟨A,_,none⟩) hAl).trans d0,(b1.cell (p:=⟨A,_,none⟩) hAl).trans d1,(b1.cell (p:=⟨w.heap.size,_,none⟩) hwl).trans x0,(b1.cell (p:=⟨w.heap.size,_,none⟩) hwl).trans x1⟩)
      (first
       |(go_at_call 167;refine (HAH.out _).mono ?_;rintro e w3 ⟨rfl,b1⟩))
     all_goals
      have b3:Bl w2 w3:=bk.trans ((Below.trans (below_drewN (Qb _ wr) 1) b1).mono sk);clear b1 d0 d1 x0 x1 HAH;go_wp2;go_roundw
      case rel=>exact ⟨k+1,by omega,by go_num,HP2,b3⟩
      case measure=>simp [intOf];omega
    |false=>
     have HPO:Hid (zwq M ⟨m,s⟩=k):=ye6 M ⟨m,s⟩ k hk hp.out (.inr (by rw [HYE.out];exact HAE.out));clear hp HAE HYE;go_upto_region 4 with fail;go_region_held3 (fun W=>W.cell? ⟨A,k*2,none⟩=some (.string ym)/\W.cell? ⟨A,k*2+1,none⟩=some (.int .i64 ys)/\W.cell? ⟨w.heap.size,0,none⟩=some (.string m)/\W.cell? ⟨w.heap.size,1,none⟩=some (.int .i64 s))
      (first
       |exact ⟨d0,d1,x0,x1⟩
       |exact ⟨(b1.cell (p:=⟨A,_,none⟩) hAl).trans d0,(b1.cell (p:=⟨A,_,none⟩) hAl).trans d1,(b1.cell (p:=⟨w.heap.size,_,none⟩) hwl).trans x0,(b1.cell (p:=⟨w.heap.size,_,none⟩) hwl).trans x1⟩)
      (first
       |(go_at_call 167;refine (HAH.out _).mono ?_;rintro e w3 ⟨rfl,b1⟩))
     all_goals
      have b3:Bl w2 w3:=bk.trans ((Below.trans (below_drewN (Qb _ wr) 1) b1).mono sk);clear b1 d0 d1 x0 x1 HAH;go_wp2_with fail;go_meet
      case rel=>exact ⟨by rw [HPO.out],b3⟩
   ·obtain rfl:k=M.length:=by omega
    have HPO:Hid (zwq M ⟨m,s⟩=M.length):=ye6 M ⟨m,s⟩ _ hk hp.out (.inl rfl);clear hp;go_upto_region 4 with fail;go_quiet ((fail));go_wp2_with fail;go_meet
    case rel=>exact ⟨by rw [HPO.out],below_drewN bk _⟩
 case rest=>
  obtain ⟨rfl,bw⟩:=hcut;have sw:=bw.size;have bb:=bb2.trans (bw.mono (by omega));have O3:=HO.out.bw bw;have hq:=HQ.out.bw bw HQ.out.lt;have hwl:=hq.lt;have x0:wc.cell? ⟨w.heap.size,0,none⟩=some (.string m):=hq.cell 0;have x1:wc.cell? ⟨w.heap.size,1,none⟩=some (.int .i64 s):=hq.cell 1;have hpl:=yfh M ⟨m,s⟩;have hcc:M.length<=cc:=by
   obtain ⟨_,⟨e1,e2⟩|⟨g,cap,cur,e1,_,_,h4,_⟩⟩:=O3
   ·cases e1
   ·cases e1;exact h4
  have hcm:cc<=9223372036854775807:=by
   obtain ⟨_,⟨e1,e2⟩|⟨g,cap,cur,e1,_,_,_,h5,_⟩⟩:=O3
   ·cases e1
   ·cases e1;simpa [maxLen] using h5
  have HM:Hid (zlk wc A M):=fun j u hj=>by
   have:=O3.cells rfl j u hj;rwa [Addr.add_lit,Qq] at this
  have HI:Hid (zf4 M ⟨m,s⟩=M.take (zwq M ⟨m,s⟩)++([⟨m,s⟩]++M.drop (zwq M ⟨m,s⟩))):=rfl;have HO0:Hid _:=zly wc wc.heap.size (Qc _);have BB0:Hid (Bl w (wc.alloc (.cells #[] 147))):=bb.alloc (by omega) _;have hAl:A<wc.heap.size:=by omega
  have HM0:Hid (zlk (wc.alloc (.cells #[] 147)) A M):=HM.out.keep (Below.heap_alloc _ _ _ hAl);generalize zwq M ⟨m,s⟩=p at*;have hp0:(0:Int)<=(p:Int):=by omega
  have hp1:(p:Int)<=(cc:Int):=by omega
  have hp2:(p:Int)<=(M.length:Int):=by omega
  have htl:(zbk (M.take p)).length=p*2:=by rw [zi3,Qn];omega
  clear O3 hq HO HQ bb HM;go_wp2_with (at_builtin;refine wpList_append_own _ rfl _ _ 43 rfl wc.heap.size 147 i0 _ 2 24 underlying43 hi hz0 hz1 hz2 rfl (by decide) _ _ _ rfl HO0.out ⟨A,0,none⟩ p cc (zbk (M.take p)) rfl htl ?c1 ?c2 ?c3 ?c4 ?c5 ?_)
  case c1=>
   intro j u hj;rw [Addr.add_lit,Qq];exact HM0.out j u (by rw [zmf M p,List.getElem?_append_left (List.getElem?_eq_some_iff.1 hj).1];exact hj)
  case c2=>exact zp4 _
  case c3=>show 0+p<=_;unfold maxLen;omega
  case c4=>show (0+p)*24<=_;omega
  case c5=>simp
  intro v3 w3 o3 g3 hnn;have htk:(M.take p).length=p:=by rw [Qn];omega
  have P3:za9 w3 wc.heap.size v3 (M.take p):=by
   unfold za9;rw [htk];exact o3
  obtain ⟨A3,c3,hv3⟩:∃A c,v3= .slice (some ⟨A,0,none⟩) p c:=by
   rcases Joins.ownsRow_forms P3 with ⟨h1,h2⟩|⟨A3,c3,h⟩
   ·first|exact absurd h1 hnn|exact absurd h2 hnn
   ·exact ⟨A3,c3,by rw [h,htk]⟩
  subst hv3;have B3:Bl w w3:=below_grown BB0.out g3 (fun x hx=>by have:=znf hx;omega) (by simp;omega);have s3:=g3.size;simp only [World.size_alloc] at s3;have hA3:=P3.lt A3 rfl;have far:∀k,k<wc.heap.size->w3.heap[k]?=wc.heap[k]?:=fun k hk=>by
   rw [g3.block k (by simp;omega) (fun e=>by have:=znf e.symm;omega)];exact Below.heap_alloc _ _ _ hk
  have HM3:Hid (zlk w3 A M):=HM0.out.keep (by rw [far A hAl];exact (Below.heap_alloc _ _ _ hAl).symm);have y0:w3.cell? ⟨w.heap.size,0,none⟩=some (.string m):=(World.cell?_of_block (w:=wc) (far _ hwl)).trans x0;have y1:w3.cell? ⟨w.heap.size,1,none⟩=some (.int .i64 s):=(World.cell?_of_block (w:=wc) (far _ hwl)).trans x1;have HP3:Hid _:=P3;clear far o3 g3 hnn x0 x1 HM0 HO0 BB0 P3;go_wp2_with (at_builtin;refine wpList_append_own _ rfl _ _ 43 rfl wc.heap.size 147 i0 _ 2 24 underlying43 hi hz0 hz1 hz2 rfl (by decide) _ _ _ rfl ((by have:=HP3.out;unfold za9 at this;rw [htk] at this;exact this:w3.ownsRow wc.heap.size 147 2 (.slice (some ⟨A3,0,none⟩) p c3) p (zbk (M.take p))).alloc _) ⟨w3.heap.size,0,none⟩ 1 1 [.string m,.int .i64 s] rfl rfl ?c1 ?c2 ?c3 ?c4 ?c5 ?_)
  case c1=>
   intro j u hj;rw [Addr.add_lit,Qq];exact ((zab.new w3 147 #[.string m,.int .i64 s]).cell j).trans (by simpa using hj)
  case c2=>exact fun u hu=>by simp at hu;rcases hu with rfl|rfl<;>rfl
  case c3=>unfold maxLen;omega
  case c4=>omega
  case c5=>simp;omega
  intro v4 w4 o4 g4 hnn;have P4:za9 w4 wc.heap.size v4 (M.take p++ [⟨m,s⟩]):=by
   unfold za9;rw [zfi,Qi,htk];exact o4
  have hl4:(M.take p++ [(⟨m,s⟩:Rk)]).length=p+1:=by rw [Qi,htk];rfl
  obtain ⟨A4,c4,hv4⟩:∃A c,v4= .slice (some ⟨A,0,none⟩) (p+1) c:=by
   rcases Joins.ownsRow_forms P4 with ⟨h1,h2⟩|⟨A4,c4,h⟩
   ·first|exact absurd h1 hnn|exact absurd h2 hnn
   ·exact ⟨A4,c4,by rw [h,hl4]⟩
  subst hv4;have B4:Bl w w4:=below_grown (B3.alloc (by omega) _) g4 (fun x hx=>by have:=znf hx;omega) (by simp;omega);have s4:=g4.size;simp only [World.size_alloc] at s4;have hA4:=P4.lt A4 rfl
  have HM4:Hid (zlk w4 A M):=HM3.out.keep (by
   rw [g4.block A (by simp;omega) (fun e=>by have:=znf e.symm;omega)];exact Below.heap_alloc _ _ _ (by omega))
  have HP4:Hid (w4.ownsRow wc.heap.size 147 2 (.slice (some ⟨A4,0,none⟩) (p+1) c4) (p+1) (zbk (M.take p++ [⟨m,s⟩]))):=by
   have:=P4;unfold za9 at this;rwa [hl4] at this
  have hdl:(zbk (M.drop p)).length=(M.length-p)*2:=by rw [zi3,Qu]
  clear o4 g4 hnn P4 HM3 HP3 y0 y1 B3;by_cases hcp:cc=p
  ·have hMp:M.length-p=0:=by omega
   have hdr:M.drop p=[]:=List.drop_eq_nil_of_le (by omega);go_wp2_with (at_builtin;refine wpList_append_own _ rfl _ _ 43 rfl wc.heap.size 147 i0 _ 2 24 underlying43 hi hz0 hz1 hz2 rfl (by decide) _ _ _ rfl HP4.out ⟨A,0,none⟩ 0 0 [] rfl rfl ?c1 ?c2 ?c3 ?c4 ?c5 ?_)
   case c1=>intro j u hj;simp at hj
   case c2=>intro u hu;simp at hu
   case c3=>unfold maxLen;omega
   case c4=>omega
   case c5=>omega
   intro v5 w5 o5 g5 hnn;have hl5:(zf4 M ⟨m,s⟩).length=p+1:=by
    rw [HI.out,hdr,List.append_nil,Qi,htk,List.length_singleton]
   have P5:za9 w5 wc.heap.size v5 (zf4 M ⟨m,s⟩):=by
    unfold za9;rw [hl5,HI.out,hdr,List.append_nil];simpa using o5
   obtain ⟨A5,c5,hv5⟩:∃A c,v5= .slice (some ⟨A,0,none⟩) (zf4 M ⟨m,s⟩).length c:=by
    rcases Joins.ownsRow_forms P5 with ⟨h1,h2⟩|⟨A5,c5,h⟩
    ·first|exact absurd h1 hnn|exact absurd h2 hnn
    ·exact ⟨A5,c5,h⟩
   subst hv5;have B5:Bl w w5:=below_grown B4 g5 (fun x hx=>by have:=znf hx;omega) (by omega);have HP5:Hid (za9 w5 w.heap.size _ (zf4 M ⟨m,s⟩)):=P5.wide (by omega);clear o5 g5 hnn P5 HM4 HP4 B4 hl5 HI;go_wp2;go_ret;exact ⟨A5,c5,rfl,HP5.out,B5⟩
  ·skip;go_wp2_with (at_builtin;refine wpList_append_own _ rfl _ _ 43 rfl wc.heap.size 147 i0 _ 2 24 underlying43 hi hz0 hz1 hz2 rfl (by decide) _ _ _ rfl HP4.out ⟨A,p*2,none⟩ (M.length-p) (cc-p) (zbk (M.drop p)) rfl hdl ?c1 ?c2 ?c3 ?c4 ?c5 ?_)
   case c1=>
    intro j u hj;rw [Addr.add_lit];refine HM4.out (p*2+j) u ?_;rw [zmf M p,List.getElem?_append_right (by rw [htl];omega),htl,Nat.add_sub_cancel_left];exact hj
   case c2=>exact zp4 _
   case c3=>unfold maxLen;omega
   case c4=>omega
   case c5=>omega
   intro v5 w5 o5 g5 hnn;have hl5:(zf4 M ⟨m,s⟩).length=p+1+(M.length-p):=by
    rw [HI.out,Qi,Qi,htk,Qu,List.length_singleton];omega
   have P5:za9 w5 wc.heap.size v5 (zf4 M ⟨m,s⟩):=by
    unfold za9;rw [hl5,HI.out,<-List.append_assoc,zfi];exact o5
   obtain ⟨A5,c5,hv5⟩:∃A c,v5= .slice (some ⟨A,0,none⟩) (zf4 M ⟨m,s⟩).length c:=by
    rcases Joins.ownsRow_forms P5 with ⟨h1,h2⟩|⟨A5,c5,h⟩
    ·first|exact absurd h1 hnn|exact absurd h2 hnn
    ·exact ⟨A5,c5,h⟩
   subst hv5;have B5:Bl w w5:=below_grown B4 g5 (fun x hx=>by have:=znf hx;omega) (by omega);have HP5:Hid (za9 w5 w.heap.size _ (zf4 M ⟨m,s⟩)):=P5.wide (by omega);clear o5 g5 hnn P5 HM4 HP4 B4 hl5 HI;go_wp2;go_ret;exact ⟨A5,c5,rfl,HP5.out,B5⟩
theorem zlw (M:List Rk) (x:Rk):(zf4 M x).length=M.length+1:=by
 unfold zf4;have:=yfh M x;rw [Qi,Qi,Qn,Qu,List.length_singleton];omega
theorem zs2 (x:Rk):zf4 [] x=[x]:=rfl
theorem zof (y:Rk) (l:List Rk) (x:Rk):zf4 (y::l) x=if zbv y x=true then y::zf4 l x else x::y::l:=by
 unfold zf4 zwq;cases h:zbv y x with
 |false=>rw [List.takeWhile_cons,h];rfl
 |true=>rw [List.takeWhile_cons,h];simp
theorem zzf {y:Rk} (h:y∈zf4 M x):y=x\/y∈M:=by
 induction M with
 |nil=>rw [zs2] at h;simpa using h
 |cons z l ih=>
  rw [zof] at h;split at h
  ·rcases List.mem_cons.1 h with rfl|h
   ·right;simp
   ·rcases ih h with rfl|h
    ·left;rfl
    ·right;simp [h]
  ·rcases List.mem_cons.1 h with rfl|h
   ·left;rfl
   ·right;exact h
theorem zhv {m:ByteArray} (h:zi5 L):zi5 (without L m):=fun x hx=>h x (List.mem_filter.1 hx).1
theorem zs6 (h:zi5 M) (hx:zjw x.s):zi5 (zf4 M x):=fun y hy=>by
 rcases zzf hy with rfl|hy
 ·exact hx
 ·exact h y hy
theorem ye5 {cap:Nat} (h:za9 w B (.slice (some ⟨A,0,none⟩) n cap) L) (e:L.length=n):zdh w (some ⟨A,0,none⟩) A 0 n L:=by
 subst e;exact zpf h
end Go.Proofs.YtokafonppgppdaaGreatDoor.Kk
