import Derived.Test.YtibhabajknikcaaGreatDoorC9
set_option maxHeartbeats 4000000
set_option maxRecDepth 100000
namespace Go.Proofs.YtibhabajknikcaaGreatDoor.Kk
open Go.RowKit Go.Sort
def without (L:List Rk) (m:ByteArray):List Rk:=L.filter fun x=>decide (x.m≠m)
theorem without_next (L:List Rk) (m:ByteArray) (k:Nat) (h:k<L.length):without (L.take (k+1)) m=without (L.take k) m++(if (L.getD k rk0).m=m then [] else [L.getD k rk0]):=by
 unfold without;rw [List.take_succ_eq_append_getElem h,List.filter_append,List.getD_eq_getElem?_getD,List.getElem?_eq_getElem h,Option.getD_some];by_cases he:(L[k]).m=m
 ·rw [if_pos he];simp [he]
 ·rw [if_neg he];simp [he]
theorem without_len (L:List Rk) (m:ByteArray):(without L m).length≤L.length:=List.length_filter_le _ _
theorem without_any (a:Option Addr) (b off n c:Nat) (L:List Rk) (m:ByteArray) (w:World) (h:zdh w a b off n L) (hn:n≤1048577):
  Calls Tryz.prog 103 #[.slice a n c,.string m] w fun e w'=>∃A cc,e= .returned (.slice (some ⟨A,0,none⟩) (without L m).length cc)∧OwnR w' w.heap.size (.slice (some ⟨A,0,none⟩) (without L m).length cc) (without L m)∧Below w.heap.size w w':=by
 obtain ⟨i0,hi,hz0,hz1,hz2⟩:=info_parts info30;have H:Hid (zdh w a b off n L):=h;have HL:Hid (L.length=n):=h.len;have HO:Hid _:=ownR_none w w.heap.size (Nat.le_refl _);have HB:Hid (Below w.heap.size w (w.alloc (.cells #[] 102))):=(Below.refl _ w).alloc (Nat.le_refl _) _;clear h;go_enter Tryz.func103,Tryz.ntmps103;go_wp2;go_loopw [5,6] (fun v i wr=>∃(k A cc:Nat),k≤n∧i= .int .i64 k∧v= .slice (some ⟨A,0,none⟩) (without (L.take k) m).length cc∧OwnR wr w.heap.size (.slice (some ⟨A,0,none⟩) (without (L.take k) m).length cc) (without (L.take k) m)∧Below w.heap.size w wr) (fun _ i _=>n-(intOf i).toNat)
 case atStart=>exact ⟨0,_,_,by omega,rfl,rfl,HO.out,HB.out⟩
 case round=>
  obtain ⟨k,A,cc,hk,rfl,rfl,hown,bk⟩:=hrel;clear HO HB;by_cases hlt:k<n
  ·have HW:=H.out.below bk;have hy:=HW.cell k hlt;obtain rfl:=HW.addr (by omega);have d0:=hy.c0;have d1:=hy.c1;have HN:Hid (without (L.take (k+1)) m=without (L.take k) m++(if (L.getD k rk0).m=m then [] else [L.getD k rk0])):=without_next L m k (by rw [HL.out];exact hlt);have hwl:(without (L.take k) m).length≤k:=Nat.le_trans (without_len _ _) (by rw [List.length_take];omega);generalize L.getD k rk0=y at*;obtain ⟨ym,ys⟩:=y;dsimp only at d0 d1;have sk:=bk.size;clear HW hy;by_cases he:ym=m
   ·have HN2:Hid (without (L.take (k+1)) m=without (L.take k) m):=by unfold Hid;rw [HN.out,if_pos he,List.append_nil]
    have hd:(ym.toList==m.toList)=true:=by rw [str_eq,decide_eq_true he]
    have HW2:Hid _:=hown;subst he;clear HN hown hd;go_wp2;go_roundw
    case rel=>exact ⟨k+1,A,cc,by omega,by go_num,by rw [HN2.out],by rw [HN2.out];exact HW2.out,bk⟩
    case measure=>simp [intOf];omega
   ·have HN2:Hid (without (L.take (k+1)) m=without (L.take k) m++ [⟨ym,ys⟩]):=by unfold Hid;rw [HN.out,if_neg he]
    have hd:=str_ne he;generalize without (L.take k) m=M at*;clear HN he;go_wp2_with (at_builtin;refine wpList_append_own _ rfl _ _ 56 rfl w.heap.size 102 i0 _ 2 24 Tryz.underlying56 hi hz0 hz1 hz2 rfl (by decide) _ _ _ rfl (hown.alloc _) ⟨wr.heap.size,0,none⟩ 1 1 [.string ym,.int .i64 ys] rfl rfl ?c1 ?c2 ?c3 ?c4 ?c5 ?_)
    case c1=>
     intro j u hj;rw [Addr.add_lit,Nat.zero_add];exact ((RowAt.new wr 102 #[.string ym,.int .i64 ys]).cell j).trans (by simpa using hj)
    case c2=>exact fun u hu=>by simp at hu;rcases hu with rfl|rfl<;>rfl
    case c3=>unfold maxLen;omega
    case c4=>omega
    case c5=>simp;omega
    intro v' w5 hown' hgrow _;have b5:Below w.heap.size w w5:=below_grown (bk.alloc (by omega) _) hgrow (fun x hx=> (hown.lt x hx).1) (by simp;omega);have H5:Hid (OwnR w5 w.heap.size v' (M++ [⟨ym,ys⟩])):=by
     unfold Hid OwnR;rw [flatR_app,List.length_append];exact hown'
    obtain ⟨A5,c5,hv⟩:∃A cap,v'= .slice (some ⟨A,0,none⟩) (M++ [(⟨ym,ys⟩:Rk)]).length cap:=Go.Joins.ownsRow_form H5.out (by simp);subst hv;clear hown' hgrow hown;go_wp2;go_roundw
    case rel=>exact ⟨k+1,A5,c5,by omega,by go_num,by rw [HN2.out],by rw [HN2.out];exact H5.out,b5⟩
    case measure=>simp [intOf];omega
  ·obtain rfl:k=n:=by omega
   have HT:Hid (L.take k=L):=by unfold Hid;rw [←HL.out];exact List.take_length
   rw [HT.out] at hown;have HW2:Hid _:=hown;clear hown;rw [HT.out];go_wp2;go_ret;exact ⟨A,cc,rfl,HW2.out,bk⟩
def posR (M:List Rk) (x:Rk):Nat:=(M.takeWhile fun y=>aheadB y x).length
def insR (M:List Rk) (x:Rk):List Rk:=M.take (posR M x)++([x]++M.drop (posR M x))
theorem pos_at (M:List Rk) (x:Rk) (k:Nat) (hk:k≤M.length) (h:∀j,j<k→aheadB (M.getD j rk0) x=true) (he:k=M.length∨aheadB (M.getD k rk0) x=false):posR M x=k:=by
 unfold posR;induction M generalizing k with
 |nil=>simp at hk;subst hk;rfl
 |cons y l ih=>
  cases k with
  |zero=>
   rcases he with he|he
   ·simp at he
   ·have he':aheadB y x=false:=he;rw [List.takeWhile_cons,he'];rfl
  |succ k=>
   have h0:aheadB y x=true:=h 0 (by omega);rw [List.takeWhile_cons,h0]
   have:=ih k (by simpa using hk) (fun j hj=>h (j+1) (by omega)) (by
    rcases he with he|he
    ·left;simpa using he
    ·right;exact he)
   simp only [if_true,List.length_cons,this]
theorem pos_le (M:List Rk) (x:Rk):posR M x≤M.length:=by
 unfold posR;exact (List.takeWhile_sublist _).length_le
theorem flatR_one (L:List Rk):∀u∈flatR L,u.oneCell'=true:=fun u hu=>by
 unfold flatR at hu;obtain ⟨x,_,hx⟩:=List.mem_flatMap.1 hu;simp [encR] at hx;rcases hx with rfl|rfl<;>rfl
theorem flatR_split (M:List Rk) (p:Nat):flatR M=flatR (M.take p)++flatR (M.drop p):=by
 rw [←flatR_app,List.take_append_drop]
theorem OwnR.wide {w:World} {B B':Nat} {v:Value} {L:List Rk} (h:OwnR w B v L) (hB:B'≤B):OwnR w B' v L:=by
 obtain ⟨h1,⟨e1,e2⟩|⟨g,cap,cur,e1,h2,h3⟩⟩:=h
 ·exact ⟨h1,.inl ⟨e1,e2⟩⟩
 ·exact ⟨h1,.inr ⟨g,cap,cur,e1,Nat.le_trans hB h2,h3⟩⟩
theorem own_is {A n c x:Nat} (h:(Value.slice (some ⟨A,0,none⟩) n c).ownBlock=some x):x=A:=(Option.some.inj h).symm
def CellsM (W:World) (A:Nat) (M:List Rk):Prop:=∀j u,(flatR M)[j]?=some u→W.cell? ⟨A,j,none⟩=some u
theorem CellsM.keep {W W':World} {A:Nat} {M:List Rk} (h:CellsM W A M) (e:W'.heap[A]?=W.heap[A]?):CellsM W' A M:=fun j u hj=> (World.cell?_of_block (w:=W) e).trans (h j u hj)
theorem lranked_any (a:Option Addr) (b off n c:Nat) (L:List Rk) (m:ByteArray) (s:Int) (w:World) (h:zdh w a b off n L) (hn:n≤1048577):
  Calls Tryz.prog 67 #[.slice a n c,.string m,.int .i64 s] w fun e w'=>∃A cc,e= .returned (.slice (some ⟨A,0,none⟩) (insR (without L m) ⟨m,s⟩).length cc)∧OwnR w' w.heap.size (.slice (some ⟨A,0,none⟩) (insR (without L m) ⟨m,s⟩).length cc) (insR (without L m) ⟨m,s⟩)∧Below w.heap.size w w':=by
 obtain ⟨i0,hi,hz0,hz1,hz2⟩:=info_parts info30;have b0:Below w.heap.size w (w.alloc (.cells #[.string m,.int .i64 s] 102)):=(Below.refl _ w).alloc (Nat.le_refl _) _;have q0:=RowAt.new w 102 #[.string m,.int .i64 s];have HWI:=without_any a b off n c L m (w.alloc (.cells #[.string m,.int .i64 s] 102)) (h.below b0) hn;have hMl:(without L m).length≤n:=by have:=without_len L m;rw [h.len] at this;exact this
 have s0:=b0.size;have l0:=q0.lt;clear h;generalize without L m=M at*;go_enter Tryz.func67,Tryz.ntmps67;go_wp2_with fail;generalize w.alloc (.cells #[.string m,.int .i64 s] 102)=w1 at*;refine HWI.mono ?_;rintro e w2 ⟨A,cc,rfl,o2,b2⟩;have s2:=b2.size;have bb2:=b0.trans (b2.mono s0);have q2:=q0.below b2 l0;clear HWI b0 q0;have HO:Hid (OwnR w2 w1.heap.size (.slice (some ⟨A,0,none⟩) M.length cc) M):=o2;have hA:=o2.lt A rfl;clear o2;have HQ:Hid (RowAt w2 w.heap.size 102 #[.string m,.int .i64 s]):=q2;clear q2 b2;go_upto_block 0 with fail;go_cut [9] from 17 to 143 (fun i wx=>i= .int .i64 (posR M ⟨m,s⟩)∧Below w2.heap.size w2 wx)
 case first=>
  go_wp2_with fail;go_loopw [9] (fun i wr=>∃(k:Nat),k≤M.length∧i= .int .i64 k∧Hid (∀j,j<k→aheadB (M.getD j rk0) ⟨m,s⟩=true)∧Below w2.heap.size w2 wr) (fun i _=>M.length-(intOf i).toNat)
  case atStart=>exact ⟨0,by omega,rfl,fun j hj=>by omega,Below.refl _ _⟩
  case round=>
   obtain ⟨k,hk,rfl,hp,bk⟩:=hrel;have sk:=bk.size;by_cases hlt:k<M.length
   ·have hy:=ownR_at (HO.out.below bk) k hlt;have hq:=HQ.out.below bk HQ.out.lt;have hwl:w.heap.size<wr.heap.size:=hq.lt;have hAl:A<wr.heap.size:=by omega
    have d0:=hy.c0;have d1:=hy.c1;have x0:wr.cell? ⟨w.heap.size,0,none⟩=some (.string m):=hq.cell 0;have x1:wr.cell? ⟨w.heap.size,1,none⟩=some (.int .i64 s):=hq.cell 1;have HY:Hid (∃y,M.getD k rk0=y):=⟨_,rfl⟩;obtain ⟨y,hye⟩:=HY.out;have HYE:Hid (M.getD k rk0=y):=hye;rw [hye] at d0 d1;obtain ⟨ah,hah⟩:∃ah,aheadB y ⟨m,s⟩=ah:=⟨_,rfl⟩;have HAE:Hid (aheadB y ⟨m,s⟩=ah):=hah;have HAH:Hid (∀W,Calls Tryz.prog 104 #[rkV y,rkV ⟨m,s⟩] W fun e w'=>e= .returned (.bool ah)∧Below W.heap.size W w'):=fun W=>by
     rw [←hah];exact ahead_any y ⟨m,s⟩ W
    obtain ⟨ym,ys⟩:=y;dsimp only at d0 d1;have hk0:(0:Int)≤(k:Int):=by omega
    have hkn:(k:Int)<(M.length:Int):=by omega
    clear HY hye hy hq hah;cases ah with
    |true=>
     have HP2:Hid (∀j,j<k+1→aheadB (M.getD j rk0) ⟨m,s⟩=true):=fun j hj=>by
      by_cases e:j=k
      ·subst e;rw [HYE.out];exact HAE.out
      ·exact hp.out j (by omega)
     clear hp HAE HYE;go_upto_region 4 with fail;go_region_held3 (fun W=>W.cell? ⟨A,k*2,none⟩=some (.string ym)∧W.cell? ⟨A,k*2+1,none⟩=some (.int .i64 ys)∧W.cell? ⟨w.heap.size,0,none⟩=some (.string m)∧W.cell? ⟨w.heap.size,1,none⟩=some (.int .i64 s))
      (first
       |exact ⟨d0,d1,x0,x1⟩
       |exact ⟨(b1.cell (p:=⟨A,_,none⟩) hAl).trans d0,(b1.cell (p:=⟨A,_,none⟩) hAl).trans d1,(b1.cell (p:=⟨w.heap.size,_,none⟩) hwl).trans x0,(b1.cell (p:=⟨w.heap.size,_,none⟩) hwl).trans x1⟩)
      (first
       |(go_at_call 104;refine (HAH.out _).mono ?_;rintro e w3 ⟨rfl,b1⟩))
     all_goals
      have b3:Below w2.heap.size w2 w3:=bk.trans ((Below.trans (below_drewN (Below.refl _ wr) 1) b1).mono sk);clear b1 d0 d1 x0 x1 HAH;go_wp2;go_roundw
      case rel=>exact ⟨k+1,by omega,by go_num,HP2,b3⟩
      case measure=>simp [intOf];omega
    |false=>
     have HPO:Hid (posR M ⟨m,s⟩=k):=pos_at M ⟨m,s⟩ k hk hp.out (.inr (by rw [HYE.out];exact HAE.out));clear hp HAE HYE;go_upto_region 4 with fail;go_region_held3 (fun W=>W.cell? ⟨A,k*2,none⟩=some (.string ym)∧W.cell? ⟨A,k*2+1,none⟩=some (.int .i64 ys)∧W.cell? ⟨w.heap.size,0,none⟩=some (.string m)∧W.cell? ⟨w.heap.size,1,none⟩=some (.int .i64 s))
      (first
       |exact ⟨d0,d1,x0,x1⟩
       |exact ⟨(b1.cell (p:=⟨A,_,none⟩) hAl).trans d0,(b1.cell (p:=⟨A,_,none⟩) hAl).trans d1,(b1.cell (p:=⟨w.heap.size,_,none⟩) hwl).trans x0,(b1.cell (p:=⟨w.heap.size,_,none⟩) hwl).trans x1⟩)
      (first
       |(go_at_call 104;refine (HAH.out _).mono ?_;rintro e w3 ⟨rfl,b1⟩))
     all_goals
      have b3:Below w2.heap.size w2 w3:=bk.trans ((Below.trans (below_drewN (Below.refl _ wr) 1) b1).mono sk);clear b1 d0 d1 x0 x1 HAH;go_wp2_with fail;go_meet
      case rel=>exact ⟨by rw [HPO.out],b3⟩
   ·obtain rfl:k=M.length:=by omega
    have HPO:Hid (posR M ⟨m,s⟩=M.length):=pos_at M ⟨m,s⟩ _ hk hp.out (.inl rfl);clear hp;go_upto_region 4 with fail;go_quiet ((fail));go_wp2_with fail;go_meet
    case rel=>exact ⟨by rw [HPO.out],below_drewN bk _⟩
 case rest=>
  obtain ⟨rfl,bw⟩:=hcut;have sw:=bw.size;have bb:=bb2.trans (bw.mono (by omega));have O3:=HO.out.below bw;have hq:=HQ.out.below bw HQ.out.lt;have hwl:=hq.lt;have x0:wc.cell? ⟨w.heap.size,0,none⟩=some (.string m):=hq.cell 0;have x1:wc.cell? ⟨w.heap.size,1,none⟩=some (.int .i64 s):=hq.cell 1;have hpl:=pos_le M ⟨m,s⟩;have hcc:M.length≤cc:=by
   obtain ⟨_,⟨e1,e2⟩|⟨g,cap,cur,e1,_,_,h4,_⟩⟩:=O3
   ·cases e1
   ·cases e1;exact h4
  have hcm:cc≤9223372036854775807:=by
   obtain ⟨_,⟨e1,e2⟩|⟨g,cap,cur,e1,_,_,_,h5,_⟩⟩:=O3
   ·cases e1
   ·cases e1;simpa [maxLen] using h5
  have HM:Hid (CellsM wc A M):=fun j u hj=>by
   have:=O3.cells rfl j u hj;rwa [Addr.add_lit,Nat.zero_add] at this
  have HI:Hid (insR M ⟨m,s⟩=M.take (posR M ⟨m,s⟩)++([⟨m,s⟩]++M.drop (posR M ⟨m,s⟩))):=rfl;have HO0:Hid _:=ownR_none wc wc.heap.size (Nat.le_refl _);have BB0:Hid (Below w.heap.size w (wc.alloc (.cells #[] 102))):=bb.alloc (by omega) _;have hAl:A<wc.heap.size:=by omega
  have HM0:Hid (CellsM (wc.alloc (.cells #[] 102)) A M):=HM.out.keep (Below.heap_alloc _ _ _ hAl);generalize posR M ⟨m,s⟩=p at*;have hp0:(0:Int)≤(p:Int):=by omega
  have hp1:(p:Int)≤(cc:Int):=by omega
  have hp2:(p:Int)≤(M.length:Int):=by omega
  have htl:(flatR (M.take p)).length=p*2:=by rw [flatR_len,List.length_take];omega
  clear O3 hq HO HQ bb HM;go_wp2_with (at_builtin;refine wpList_append_own _ rfl _ _ 56 rfl wc.heap.size 102 i0 _ 2 24 Tryz.underlying56 hi hz0 hz1 hz2 rfl (by decide) _ _ _ rfl HO0.out ⟨A,0,none⟩ p cc (flatR (M.take p)) rfl htl ?c1 ?c2 ?c3 ?c4 ?c5 ?_)
  case c1=>
   intro j u hj;rw [Addr.add_lit,Nat.zero_add];exact HM0.out j u (by rw [flatR_split M p,List.getElem?_append_left (List.getElem?_eq_some_iff.1 hj).1];exact hj)
  case c2=>exact flatR_one _
  case c3=>show 0+p≤_;unfold maxLen;omega
  case c4=>show (0+p)*24≤_;omega
  case c5=>simp
  intro v3 w3 o3 g3 hnn;have htk:(M.take p).length=p:=by rw [List.length_take];omega
  have P3:OwnR w3 wc.heap.size v3 (M.take p):=by
   unfold OwnR;rw [htk];exact o3
  obtain ⟨A3,c3,hv3⟩:∃A c,v3= .slice (some ⟨A,0,none⟩) p c:=by
   rcases Joins.ownsRow_forms P3 with ⟨h1,h2⟩|⟨A3,c3,h⟩
   ·first|exact absurd h1 hnn|exact absurd h2 hnn
   ·exact ⟨A3,c3,by rw [h,htk]⟩
  subst hv3;have B3:Below w.heap.size w w3:=below_grown BB0.out g3 (fun x hx=>by have:=own_is hx;omega) (by simp;omega);have s3:=g3.size;simp only [World.size_alloc] at s3;have hA3:=P3.lt A3 rfl;have far:∀k,k<wc.heap.size→w3.heap[k]?=wc.heap[k]?:=fun k hk=>by
   rw [g3.block k (by simp;omega) (fun e=>by have:=own_is e.symm;omega)];exact Below.heap_alloc _ _ _ hk
  have HM3:Hid (CellsM w3 A M):=HM0.out.keep (by rw [far A hAl];exact (Below.heap_alloc _ _ _ hAl).symm);have y0:w3.cell? ⟨w.heap.size,0,none⟩=some (.string m):=(World.cell?_of_block (w:=wc) (far _ hwl)).trans x0;have y1:w3.cell? ⟨w.heap.size,1,none⟩=some (.int .i64 s):=(World.cell?_of_block (w:=wc) (far _ hwl)).trans x1;have HP3:Hid _:=P3;clear far o3 g3 hnn x0 x1 HM0 HO0 BB0 P3;go_wp2_with (at_builtin;refine wpList_append_own _ rfl _ _ 56 rfl wc.heap.size 102 i0 _ 2 24 Tryz.underlying56 hi hz0 hz1 hz2 rfl (by decide) _ _ _ rfl ((by have:=HP3.out;unfold OwnR at this;rw [htk] at this;exact this:w3.ownsRow wc.heap.size 102 2 (.slice (some ⟨A3,0,none⟩) p c3) p (flatR (M.take p))).alloc _) ⟨w3.heap.size,0,none⟩ 1 1 [.string m,.int .i64 s] rfl rfl ?c1 ?c2 ?c3 ?c4 ?c5 ?_)
  case c1=>
   intro j u hj;rw [Addr.add_lit,Nat.zero_add];exact ((RowAt.new w3 102 #[.string m,.int .i64 s]).cell j).trans (by simpa using hj)
  case c2=>exact fun u hu=>by simp at hu;rcases hu with rfl|rfl<;>rfl
  case c3=>unfold maxLen;omega
  case c4=>omega
  case c5=>simp;omega
  intro v4 w4 o4 g4 hnn;have P4:OwnR w4 wc.heap.size v4 (M.take p++ [⟨m,s⟩]):=by
   unfold OwnR;rw [flatR_app,List.length_append,htk];exact o4
  have hl4:(M.take p++ [(⟨m,s⟩:Rk)]).length=p+1:=by rw [List.length_append,htk];rfl
  obtain ⟨A4,c4,hv4⟩:∃A c,v4= .slice (some ⟨A,0,none⟩) (p+1) c:=by
   rcases Joins.ownsRow_forms P4 with ⟨h1,h2⟩|⟨A4,c4,h⟩
   ·first|exact absurd h1 hnn|exact absurd h2 hnn
   ·exact ⟨A4,c4,by rw [h,hl4]⟩
  subst hv4;have B4:Below w.heap.size w w4:=below_grown (B3.alloc (by omega) _) g4 (fun x hx=>by have:=own_is hx;omega) (by simp;omega);have s4:=g4.size;simp only [World.size_alloc] at s4;have hA4:=P4.lt A4 rfl
  have HM4:Hid (CellsM w4 A M):=HM3.out.keep (by
   rw [g4.block A (by simp;omega) (fun e=>by have:=own_is e.symm;omega)];exact Below.heap_alloc _ _ _ (by omega))
  have HP4:Hid (w4.ownsRow wc.heap.size 102 2 (.slice (some ⟨A4,0,none⟩) (p+1) c4) (p+1) (flatR (M.take p++ [⟨m,s⟩]))):=by
   have:=P4;unfold OwnR at this;rwa [hl4] at this
  have hdl:(flatR (M.drop p)).length=(M.length-p)*2:=by rw [flatR_len,List.length_drop]
  clear o4 g4 hnn P4 HM3 HP3 y0 y1 B3;by_cases hcp:cc=p
  ·have hMp:M.length-p=0:=by omega
   have hdr:M.drop p=[]:=List.drop_eq_nil_of_le (by omega);go_wp2_with (at_builtin;refine wpList_append_own _ rfl _ _ 56 rfl wc.heap.size 102 i0 _ 2 24 Tryz.underlying56 hi hz0 hz1 hz2 rfl (by decide) _ _ _ rfl HP4.out ⟨A,0,none⟩ 0 0 [] rfl rfl ?c1 ?c2 ?c3 ?c4 ?c5 ?_)
   case c1=>intro j u hj;simp at hj
   case c2=>intro u hu;simp at hu
   case c3=>unfold maxLen;omega
   case c4=>omega
   case c5=>omega
   intro v5 w5 o5 g5 hnn;have hl5:(insR M ⟨m,s⟩).length=p+1:=by
    rw [HI.out,hdr,List.append_nil,List.length_append,htk,List.length_singleton]
   have P5:OwnR w5 wc.heap.size v5 (insR M ⟨m,s⟩):=by
    unfold OwnR;rw [hl5,HI.out,hdr,List.append_nil];simpa using o5
   obtain ⟨A5,c5,hv5⟩:∃A c,v5= .slice (some ⟨A,0,none⟩) (insR M ⟨m,s⟩).length c:=by
    rcases Joins.ownsRow_forms P5 with ⟨h1,h2⟩|⟨A5,c5,h⟩
    ·first|exact absurd h1 hnn|exact absurd h2 hnn
    ·exact ⟨A5,c5,h⟩
   subst hv5;have B5:Below w.heap.size w w5:=below_grown B4 g5 (fun x hx=>by have:=own_is hx;omega) (by omega);have HP5:Hid (OwnR w5 w.heap.size _ (insR M ⟨m,s⟩)):=P5.wide (by omega);clear o5 g5 hnn P5 HM4 HP4 B4 hl5 HI;go_wp2;go_ret;exact ⟨A5,c5,rfl,HP5.out,B5⟩
  ·skip;go_wp2_with (at_builtin;refine wpList_append_own _ rfl _ _ 56 rfl wc.heap.size 102 i0 _ 2 24 Tryz.underlying56 hi hz0 hz1 hz2 rfl (by decide) _ _ _ rfl HP4.out ⟨A,p*2,none⟩ (M.length-p) (cc-p) (flatR (M.drop p)) rfl hdl ?c1 ?c2 ?c3 ?c4 ?c5 ?_)
   case c1=>
    intro j u hj;rw [Addr.add_lit];refine HM4.out (p*2+j) u ?_;rw [flatR_split M p,List.getElem?_append_right (by rw [htl];omega),htl,Nat.add_sub_cancel_left];exact hj
   case c2=>exact flatR_one _
   case c3=>unfold maxLen;omega
   case c4=>omega
   case c5=>omega
   intro v5 w5 o5 g5 hnn;have hl5:(insR M ⟨m,s⟩).length=p+1+(M.length-p):=by
    rw [HI.out,List.length_append,List.length_append,htk,List.length_drop,List.length_singleton];omega
   have P5:OwnR w5 wc.heap.size v5 (insR M ⟨m,s⟩):=by
    unfold OwnR;rw [hl5,HI.out,←List.append_assoc,flatR_app];exact o5
   obtain ⟨A5,c5,hv5⟩:∃A c,v5= .slice (some ⟨A,0,none⟩) (insR M ⟨m,s⟩).length c:=by
    rcases Joins.ownsRow_forms P5 with ⟨h1,h2⟩|⟨A5,c5,h⟩
    ·first|exact absurd h1 hnn|exact absurd h2 hnn
    ·exact ⟨A5,c5,h⟩
   subst hv5;have B5:Below w.heap.size w w5:=below_grown B4 g5 (fun x hx=>by have:=own_is hx;omega) (by omega);have HP5:Hid (OwnR w5 w.heap.size _ (insR M ⟨m,s⟩)):=P5.wide (by omega);clear o5 g5 hnn P5 HM4 HP4 B4 hl5 HI;go_wp2;go_ret;exact ⟨A5,c5,rfl,HP5.out,B5⟩
theorem ins_len (M:List Rk) (x:Rk):(insR M x).length=M.length+1:=by
 unfold insR;have:=pos_le M x;rw [List.length_append,List.length_append,List.length_take,List.length_drop,List.length_singleton];omega
theorem ins_nil (x:Rk):insR [] x=[x]:=rfl
theorem ins_cons (y:Rk) (l:List Rk) (x:Rk):insR (y::l) x=if aheadB y x=true then y::insR l x else x::y::l:=by
 unfold insR posR;cases h:aheadB y x with
 |false=>rw [List.takeWhile_cons,h];rfl
 |true=>rw [List.takeWhile_cons,h];simp
theorem ins_mem {M:List Rk} {x y:Rk} (h:y∈insR M x):y=x∨y∈M:=by
 induction M with
 |nil=>rw [ins_nil] at h;simpa using h
 |cons z l ih=>
  rw [ins_cons] at h;split at h
  ·rcases List.mem_cons.1 h with rfl|h
   ·right;simp
   ·rcases ih h with rfl|h
    ·left;rfl
    ·right;simp [h]
  ·rcases List.mem_cons.1 h with rfl|h
   ·left;rfl
   ·right;exact h
theorem fit_without {L:List Rk} {m:ByteArray} (h:FitL L):FitL (without L m):=fun x hx=>h x (List.mem_filter.1 hx).1
theorem fit_ins {M:List Rk} {x:Rk} (h:FitL M) (hx:fitS x.s):FitL (insR M x):=fun y hy=>by
 rcases ins_mem hy with rfl|hy
 ·exact hx
 ·exact h y hy
theorem own_in {w:World} {B A n cap:Nat} {L:List Rk} (h:OwnR w B (.slice (some ⟨A,0,none⟩) n cap) L) (e:L.length=n):zdh w (some ⟨A,0,none⟩) A 0 n L:=by
 subst e;exact ownR_in h
end Go.Proofs.YtibhabajknikcaaGreatDoor.Kk
