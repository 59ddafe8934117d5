import Derived.Test.YtjpeglkkkllagaaGreatDoorHp1
set_option maxHeartbeats 4000000
set_option maxRecDepth 100000
namespace Go.Proofs.YtjpeglkkkllagaaGreatDoor.Hp
open Go.RowKit Go.Sort
def clOf (L:List Cl) (i:Nat):Cl:=L.getD i cl0
def insI (L:List Cl) (i:Nat):List Nat→List Nat
 | []=> [i]
 |x::r=>if (clOf L x).pos<(clOf L i).pos then x::insI L i r else i::x::r
def stI (L:List Cl):Nat→List Nat
 |0=> []
 |k+1=>if (clOf L k).live then insI L k (stI L k) else stI L k
theorem ins_at (L : List Cl) (i : Nat) : ∀ (S : List Nat) (m : Nat), m ≤ S.length → (∀ j, j < m → (clOf L (S.getD j 0)).pos < (clOf L i).pos) → (m = S.length ∨ ¬ (clOf L (S.getD m 0)).pos < (clOf L i).pos) →
    insI L i S = S.take m ++ i :: S.drop m
  | [], m, hm, _, _ => by
    have : m = 0 := by simpa using hm
    subst this;rfl
  | x :: r, 0, _, _, he => by
    rw [insI, if_neg (by rcases he with h | h; · cases h
                         · exact h)]
    rfl
  | x :: r, m + 1, hm, hl, he => by
    rw [insI, if_pos (show (clOf L x).pos < (clOf L i).pos from hl 0 (by omega)), ins_at L i r m (by simpa using hm) (fun j hj => hl (j + 1) (by omega)) (by simpa using he)];rfl
theorem ins_map (L:List Cl) (i:Nat):∀S:List Nat,(insI L i S).map (clOf L)=insC (clOf L i) (S.map (clOf L))
 | []=>rfl
 |x::r=>by
  rw [insI,List.map_cons,insC];split
  ·rw [List.map_cons,ins_map L i r]
  ·rfl
theorem ins_len (L:List Cl) (i:Nat):∀S:List Nat,(insI L i S).length=S.length+1
 | []=>rfl
 |x::r=>by
  rw [insI];split
  ·simp [ins_len L i r]
  ·rfl
theorem ins_mem (L:List Cl) (i:Nat):∀(S:List Nat) (y:Nat),y∈insI L i S→y=i∨y∈S
 | [],y,h=>by simp [insI] at h;exact .inl h
 |x::r,y,h=>by
  rw [insI] at h;split at h
  ·rcases List.mem_cons.1 h with h|h
   ·exact .inr (by simp [h])
   ·rcases ins_mem L i r y h with h|h
    ·exact .inl h
    ·exact .inr (by simp [h])
  ·rcases List.mem_cons.1 h with h|h
   ·exact .inl h
   ·exact .inr h
theorem st_bound (L:List Cl):∀k,(stI L k).length≤k∧∀y∈stI L k,y<k
 |0=>⟨by simp [stI],fun y hy=>by simp [stI] at hy⟩
 |k+1=>by
  obtain ⟨h1,h2⟩:=st_bound L k;rw [stI];split
  ·refine ⟨by rw [ins_len];omega,fun y hy=>?_⟩;rcases ins_mem L k _ y hy with h|h
   ·omega
   ·have:=h2 y h;omega
  ·exact ⟨by omega,fun y hy=>by have:=h2 y hy;omega⟩
theorem st_live (L:List Cl):∀k,k≤L.length→liveC [] L=liveC ((stI L k).map (clOf L)) (L.drop k)
 |0,_=>by simp [stI]
 |k+1,h=>by
  rw [st_live L k (by omega),drop_get (L:=L) (k:=k) (by omega),liveC,stI];show (if (clOf L k).live then _ else _)=_;split
  ·rw [ins_map];rfl
  ·rfl
theorem live_all (L:List Cl):liveC [] L=(stI L L.length).map (clOf L):=by
 rw [st_live L L.length (Nat.le_refl _),List.drop_length];rfl
def ints (S:List Nat):List Value:=S.map fun (x:Nat)=>Value.int .i64 (x:Int)
theorem info3:(Tryz.prog.info? 3).map (fun i=> (i.zero,i.size,i.bytes))=some (some (.int .i64 0),1,8):=by kernel_rfl
theorem owns_none3 (w:World) (B:Nat) (hB:B≤w.heap.size):(w.alloc (.cells #[] 3)).ownsRow B 3 1 (.slice (some ⟨w.heap.size,0,none⟩) 0 0) 0 (ints []):=
 ⟨rfl,.inr ⟨w.heap.size,0, #[],rfl,hB,RowAt.new w 3 #[],by omega,by unfold maxLen;omega,by simp,by simp [ints]⟩⟩
theorem below_drewN (w:World) (q:Nat):Below w.heap.size w (w.drewN q):=⟨rfl,rfl,rfl,Nat.le_refl _,fun _ _=>rfl⟩
theorem below_grown {B:Nat} {w w1 w2:World} {r:Option Nat} (b:Below B w w1) (g:w1.grownBy w2 r) (hr:∀x,r=some x→B≤x) (hB:B≤w1.heap.size):Below B w w2:=
 ⟨g.os.trans b.os,g.tape.trans b.tape,g.output.trans b.output,Nat.le_trans b.size g.size,fun i hi=> (g.block i (by omega) (fun e=>by have:=hr i e.symm;omega)).trans (b.block i hi)⟩
theorem ints_one (S:List Nat):∀u∈ints S,u.oneCell'=true:=fun u hu=>by
 unfold ints at hu;obtain ⟨x,_,rfl⟩:=List.mem_map.1 hu;rfl
theorem take_cell {wr:World} {S:List Nat} {A:Nat} (h:∀m,m<S.length→wr.cell? ⟨A,m,none⟩=some (.int .i64 (S.getD m 0:Nat))) (m j:Nat) (u:Value) (hj:(ints (S.take m))[j]?=some u):wr.cell? ((⟨A,0,none⟩:Addr).add j)=some u:=by
 rw [Addr.add_lit,Nat.zero_add];unfold ints at hj;rw [List.getElem?_map] at hj;cases hx:(S.take m)[j]? with
 |none=>rw [hx] at hj;cases hj
 |some x=>
  rw [hx] at hj;injection hj with hj;subst hj;rw [List.getElem?_take] at hx;split at hx
  ·obtain ⟨hl,he⟩:=List.getElem?_eq_some_iff.1 hx;rw [h j hl,List.getD_eq_getElem?_getD,hx];rfl
  ·cases hx
theorem drop_cell {wr:World} {S:List Nat} {A:Nat} (h:∀m,m<S.length→wr.cell? ⟨A,m,none⟩=some (.int .i64 (S.getD m 0:Nat))) (m j:Nat) (u:Value) (hj:(ints (S.drop m))[j]?=some u):wr.cell? ((⟨A,m,none⟩:Addr).add j)=some u:=by
 rw [Addr.add_lit];unfold ints at hj;rw [List.getElem?_map,List.getElem?_drop] at hj;cases hx:S[m+j]? with
 |none=>rw [hx] at hj;cases hj
 |some x=>
  rw [hx] at hj;injection hj with hj;subst hj;obtain ⟨hl,he⟩:=List.getElem?_eq_some_iff.1 hx;rw [h (m+j) hl,List.getD_eq_getElem?_getD,hx];rfl
theorem cell_grown' {w w1:World} {o:Obj} (g:w.grownBy w1 none) {A:Nat} {k:Nat} {v:Value} (h:w.cell? ((⟨A,0,none⟩:Addr).add k)=some v) (hA:A<w.heap.size):(w1.alloc o).cell? ((⟨A,0,none⟩:Addr).add k)=some v:=by
 have b:Below w.heap.size w (w1.alloc o):=(Below.mk g.os g.tape g.output g.size (fun i hi=>g.block i hi (by simp))).alloc g.size o;rw [Addr.add_lit] at h ⊢;exact (World.cell?_of_block (b.block A hA)).trans h
theorem live_any (s:ByteArray) (a:Option Addr) (b off n c:Nat) (L:List Cl) (w:World) (h:CellsIn w a b off n L) (hn:n≤40):
  Calls Tryz.prog 75 #[.agg #[.string s,.slice a n c]] w fun e w'=>∃A cap,e= .returned (.slice (some ⟨A,0,none⟩) (stI L n).length cap)∧w'.ownsRow w.heap.size 3 1 (.slice (some ⟨A,0,none⟩) (stI L n).length cap) (stI L n).length (ints (stI L n))∧Below w.heap.size w w':=by
 obtain ⟨i0,hi,hz0,hz1,hz2⟩:=info_parts info3;have hl:=h.len;have hb0:Below w.heap.size w (w.alloc (.cells #[.string s,.slice a n c] 29)):=(Below.refl _ w).alloc (Nat.le_refl _) _;have hr0:=RowAt.new w 29 #[.string s,.slice a n c];have hs0:(w.alloc (.cells #[.string s,.slice a n c] 29)).heap.size=w.heap.size+1:=by simp
 go_enter Tryz.func75,Tryz.ntmps75;go_wp2;generalize w.alloc (.cells #[.string s,.slice a n c] 29)=w1 at*;have ho1:=owns_none3 w1 (w.heap.size+1) (by omega);have hb1:Below w1.heap.size w1 (w1.alloc (.cells #[] 3)):=(Below.refl _ w1).alloc (Nat.le_refl _) _;have hr1:=hr0.below hb1 (by omega);have hbb:Below w.heap.size w (w1.alloc (.cells #[] 3)):=hb0.trans (hb1.mono (by omega));rw [hs0] at ho1;try rw [hs0]
 generalize w1.alloc (.cells #[] 3)=w2 at*;go_loopw [3,4,5,6] (fun out i _ _ wr=>∃(k A cap:Nat),k≤n∧i= .int .i64 k∧out= .slice (some ⟨A,0,none⟩) (stI L k).length cap∧wr.ownsRow (w.heap.size+1) 3 1 out (stI L k).length (ints (stI L k))∧RowAt wr w.heap.size 29 #[.string s,.slice a n c]∧Below w.heap.size w wr) (fun _ i _ _ _=>n-(intOf i).toNat)
 case atStart=>exact ⟨0,w.heap.size+1,0,by omega,rfl,rfl,ho1,hr1,hbb⟩
 case round=>
  obtain ⟨k,A,cap,hk,rfl,rfl,ho,hr,bk⟩:=hrel;have e0:=hr.cell 0;have e1:=hr.cell 1;simp at e0 e1;obtain ⟨hb1',hb2'⟩:=st_bound L k;by_cases hlt:k<n
  ·obtain rfl:=h.addr (by omega);have hlow:=h.low (by omega);have hx:=cl_below (h.cell k hlt) hlow bk;have d0:=hx.c0;have d3:=hx.c3;have hxe:L.getD k cl0=clOf L k:=rfl;rw [hxe] at d0 d3;cases hlv:(clOf L k).live with
   |false=>
    rw [hlv] at d3;have HS:Hid (stI L (k+1)=stI L k):=by unfold Hid;rw [stI,hlv];rfl
    clear hx;go_wp2;go_roundw
    case rel=>exact ⟨k+1,A,cap,by omega,by go_num,by rw [HS.out],by rw [HS.out];exact ho,hr,bk⟩
    case measure=>simp [intOf];omega
   |true=>
    rw [hlv] at d3;have HS:Hid (stI L (k+1)=insI L k (stI L k)):=by unfold Hid;rw [stI,hlv];rfl
    generalize hST:stI L k=S at*;have hcapm:S.length≤cap∧cap≤9223372036854775807:=by
     obtain ⟨_,⟨h0,_⟩|⟨g,cp,cur,hv,_,_,q1,q2,_⟩⟩:=ho
     ·cases h0
     ·injection hv with _ _ hv;subst hv;exact ⟨q1,by simpa [maxLen] using q2⟩
    obtain ⟨hcap1,hcap2⟩:=hcapm;have HCell:Hid (∀m,m<S.length→wr.cell? ⟨A,m,none⟩=some (.int .i64 (S.getD m 0:Nat))):=fun m hm=>by
     have:=ho.cells rfl m (.int .i64 (S.getD m 0:Nat)) (by unfold ints;rw [List.getElem?_map,List.getD_eq_getElem?_getD,List.getElem?_eq_getElem hm];rfl);rw [Addr.add_lit,Nat.zero_add] at this;exact this
    have HPos:Hid (∀y,y<n→wr.cell? ⟨b,off+y*4,none⟩=some (.int .i64 (clOf L y).pos)):=fun y hy=> (cl_below (h.cell y hy) hlow bk).c0;have HSb:Hid (∀y∈S,y<k):=hb2';have hAlt:=(ho.lt A rfl).2;have hAge:=(ho.lt A rfl).1;clear hb2' hx hxe;go_wp2;go_loopw [5] (fun at_ wr'=>∃m q:Nat,m≤S.length∧at_= .int .i64 m∧wr'=wr.drewN q∧Hid (∀j,j<m→(clOf L (S.getD j 0)).pos<(clOf L k).pos)) (fun at_ _=>S.length-(intOf at_).toNat)
    case atStart=>exact ⟨0,0,by omega,rfl,rfl,fun j hj=>by omega⟩
    case round=>
     obtain ⟨m,q,hm,rfl,rfl,hlts⟩:=hrel;by_cases hml:m<S.length
     ·have cy:=HCell.out m hml;have hyk:S.getD m 0<k:=HSb.out _ (by rw [List.getD_eq_getElem?_getD,List.getElem?_eq_getElem hml];exact List.getElem_mem hml);have dy:=HPos.out (S.getD m 0) (by omega);have dm:decide ((m:Int)<(S.length:Int))=true:=by simp;omega
      have HIN:Hid (¬(clOf L (S.getD m 0)).pos<(clOf L k).pos→insI L k S=S.take m++k::S.drop m):=fun hn=>ins_at L k S m hm hlts.out (.inr hn);have HNX:Hid ((clOf L (S.getD m 0)).pos<(clOf L k).pos→∀j,j<m+1→(clOf L (S.getD j 0)).pos<(clOf L k).pos):=fun hy j hj=>by
       rcases Nat.lt_succ_iff_lt_or_eq.1 hj with h|h
       ·exact hlts.out j h
       ·subst h;exact hy
      generalize S.getD m 0=y at*;generalize (clOf L y).pos=py at*;by_cases hpy:py<(clOf L k).pos
      ·have HN:Hid _:=HNX.out hpy;go_wp2;go_quiet ((fail));go_wp2;go_roundw
       case rel=>exact ⟨m+1,_,by omega,by go_num,rfl,HN⟩
       case measure=>simp [intOf];omega
      ·have HI:Hid (insI L k S=S.take m++k::S.drop m):=HIN.out hpy;have hmc:m≤cap:=by omega
       clear HIN HNX hlts;go_wp2;go_quiet ((fail));go_wp2_with (at_builtin;refine wpList_append_own _ rfl _ _ 146 rfl wr.heap.size 3 i0 _ 1 8 Tryz.underlying146 hi hz0 hz1 hz2 rfl (by decide) _ 0 (ints []) rfl (owns_none3 (wr.drewN (q+nq)) wr.heap.size (Nat.le_refl _)) ⟨A,0,none⟩ m cap (ints (S.take m)) rfl (by first|(simp [ints];done)|(simp [ints];omega)) ?c1 (ints_one _) (by unfold maxLen;omega) (by omega) (by first|(simp;done)|(simp;omega)) ?_)
       case c1=>exact fun j u hj=>cell_grown' (grown_drewN wr _ none) (take_cell HCell.out m j u hj) hAlt
       intro v1 w5 hown1 hgr1 hnil1;obtain ⟨A1,cap1,rfl⟩:∃A1 cap1,v1= .slice (some ⟨A1,0,none⟩) m cap1:=by
        rcases Go.Joins.ownsRow_forms hown1 with ⟨h0,_⟩|h
        ·exact absurd h0 hnil1
        ·exact h
       have b1:Below wr.heap.size wr w5:=below_grown ((below_drewN wr _).alloc (Nat.le_refl _) _) hgr1 (fun x hx=>by simp [Value.ownBlock] at hx;omega) (by simp);clear hgr1 hnil1;have HW5:Hid (wr.heap.size≤w5.heap.size):=b1.size;go_wp2_with (at_builtin;refine wpList_append_own _ rfl _ _ 146 rfl wr.heap.size 3 i0 _ 1 8 Tryz.underlying146 hi hz0 hz1 hz2 rfl (by decide) _ m (ints []++ints (S.take m)) rfl (hown1.alloc _) ⟨w5.heap.size,0,none⟩ 1 1 (ints [k]) rfl rfl ?c1 (ints_one _) (by unfold maxLen;omega) (by omega) (by have:=HW5.out;simp;omega) ?_)
       case c1=>exact cell_one_new _ _ _
       intro v2 w6 hown2 hgr2 hnil2;obtain ⟨A2,cap2,rfl⟩:∃A2 cap2,v2= .slice (some ⟨A2,0,none⟩) (m+1) cap2:=by
        rcases Go.Joins.ownsRow_forms hown2 with ⟨h0,_⟩|h
        ·exact absurd h0 (by simpa using hnil2)
        ·exact h
       have b2:Below wr.heap.size wr w6:=below_grown (b1.alloc HW5.out _) hgr2 (fun x hx=> (hown1.lt x hx).1) (by have:=HW5.out;simp;omega);clear hgr2 hnil2 hown1 b1;have HW6:Hid (wr.heap.size≤w6.heap.size):=b2.size;go_wp2_with (at_builtin;refine wpList_append_own _ rfl _ _ 146 rfl wr.heap.size 3 i0 _ 1 8 Tryz.underlying146 hi hz0 hz1 hz2 rfl (by decide) _ (m+1) (ints []++ints (S.take m)++ints [k]) rfl hown2 ⟨A,m,none⟩ (S.length-m) (cap-m) (ints (S.drop m)) rfl (by simp [ints]) ?c1 (ints_one _) (by unfold maxLen;omega) (by omega) HW6.out ?_)
       case c1=>
        intro j u hj;have h:=drop_cell HCell.out m j u hj;rw [Addr.add_lit] at h ⊢;exact (World.cell?_of_block (b2.block A hAlt)).trans h
       intro v3 w7 hown3 hgr3 hnil3;obtain ⟨A3,cap3,rfl⟩:∃A3 cap3,v3= .slice (some ⟨A3,0,none⟩) (m+1+(S.length-m)) cap3:=by
        rcases Go.Joins.ownsRow_forms hown3 with ⟨_,h0⟩|h
        ·omega
        ·exact h
       have b3:Below wr.heap.size wr w7:=below_grown b2 hgr3 (fun x hx=> (hown2.lt x hx).1) HW6.out;have bw:Below w.heap.size w w7:=bk.trans (b3.mono (by omega));have hr7:=hr.below b3 (by omega);have HO7:Hid (w7.ownsRow (w.heap.size+1) 3 1 (.slice (some ⟨A3,0,none⟩) (stI L (k+1)).length cap3) (stI L (k+1)).length (ints (stI L (k+1)))):=by
        unfold Hid;have e:m+1+(S.length-m)=(stI L (k+1)).length:=by rw [HS.out,ins_len];omega
        have e2:ints []++(ints (S.take m)++(ints [k]++ints (S.drop m)))=ints (stI L (k+1)):=by rw [HS.out,HI.out];simp [ints]
        rw [←e,←e2];exact Go.Joins.ownsRow_le hown3 (by omega)
       have e:m+1+(S.length-m)=(stI L (k+1)).length:=by rw [HS.out,ins_len];omega
       rw [e];clear hown3 hown2 hgr3 hnil3 b2 b3 e;go_wp2;go_roundw
       case rel=>exact ⟨k+1,A3,cap3,by omega,by go_num,rfl,HO7.out,hr7,bw⟩
       case measure=>simp [intOf];omega
     ·have dm:decide ((m:Int)<(S.length:Int))=false:=by simp;omega
      have HI:Hid (insI L k S=S.take m++k::S.drop m):=ins_at L k S m hm hlts.out (.inl (by omega));have hmc:m≤cap:=by omega
      clear hlts;by_cases hcm:cap=m
      ·have HD:Hid (S.drop m=[]):=by unfold Hid;apply List.drop_eq_nil_of_le;omega
       have hcm':m=cap:=hcm.symm;clear hcm;subst hcm';go_wp2;go_quiet ((fail));go_wp2_with (at_builtin;refine wpList_append_own _ rfl _ _ 146 rfl wr.heap.size 3 i0 _ 1 8 Tryz.underlying146 hi hz0 hz1 hz2 rfl (by decide) _ 0 (ints []) rfl (owns_none3 (wr.drewN (q+nq)) wr.heap.size (Nat.le_refl _)) ⟨A,0,none⟩ m m (ints (S.take m)) rfl (by first|(simp [ints];done)|(simp [ints];omega)) ?c1 (ints_one _) (by unfold maxLen;omega) (by omega) (by first|(simp;done)|(simp;omega)) ?_)
       case c1=>exact fun j u hj=>cell_grown' (grown_drewN wr _ none) (take_cell HCell.out m j u hj) hAlt
       intro v1 w5 hown1 hgr1 hnil1;obtain ⟨A1,cap1,rfl⟩:∃A1 cap1,v1= .slice (some ⟨A1,0,none⟩) m cap1:=by
        rcases Go.Joins.ownsRow_forms hown1 with ⟨h0,_⟩|h
        ·exact absurd h0 hnil1
        ·exact h
       have b1:Below wr.heap.size wr w5:=below_grown ((below_drewN wr _).alloc (Nat.le_refl _) _) hgr1 (fun x hx=>by simp [Value.ownBlock] at hx;omega) (by simp);clear hgr1 hnil1;have HW5:Hid (wr.heap.size≤w5.heap.size):=b1.size;go_wp2_with (at_builtin;refine wpList_append_own _ rfl _ _ 146 rfl wr.heap.size 3 i0 _ 1 8 Tryz.underlying146 hi hz0 hz1 hz2 rfl (by decide) _ m (ints []++ints (S.take m)) rfl (hown1.alloc _) ⟨w5.heap.size,0,none⟩ 1 1 (ints [k]) rfl rfl ?c1 (ints_one _) (by unfold maxLen;omega) (by omega) (by have:=HW5.out;simp;omega) ?_)
       case c1=>exact cell_one_new _ _ _
       intro v2 w6 hown2 hgr2 hnil2;obtain ⟨A2,cap2,rfl⟩:∃A2 cap2,v2= .slice (some ⟨A2,0,none⟩) (m+1) cap2:=by
        rcases Go.Joins.ownsRow_forms hown2 with ⟨h0,_⟩|h
        ·exact absurd h0 (by simpa using hnil2)
        ·exact h
       have b2:Below wr.heap.size wr w6:=below_grown (b1.alloc HW5.out _) hgr2 (fun x hx=> (hown1.lt x hx).1) (by have:=HW5.out;simp;omega);clear hgr2 hnil2 hown1 b1;have HW6:Hid (wr.heap.size≤w6.heap.size):=b2.size;go_wp2_with (at_builtin;refine wpList_append_own _ rfl _ _ 146 rfl wr.heap.size 3 i0 _ 1 8 Tryz.underlying146 hi hz0 hz1 hz2 rfl (by decide) _ (m+1) (ints []++ints (S.take m)++ints [k]) rfl hown2 _ _ _ (ints (S.drop m)) rfl (by rw [HD.out];rfl) ?c1 (ints_one _) (by unfold maxLen;omega) (by omega) HW6.out ?_)
       case c1=>
        intro j u hj;rw [HD.out] at hj;cases hj
       intro v3 w7 hown3 hgr3 hnil3;obtain ⟨A3,cap3,rfl⟩:∃A3 cap3,v3= .slice (some ⟨A3,0,none⟩) (m+1) cap3:=by
        rcases Go.Joins.ownsRow_forms hown3 with ⟨_,h0⟩|h
        ·omega
        ·exact h
       have b3:Below wr.heap.size wr w7:=below_grown b2 hgr3 (fun x hx=> (hown2.lt x hx).1) HW6.out;have bw:Below w.heap.size w w7:=bk.trans (b3.mono (by omega));have hr7:=hr.below b3 (by omega);have HO7:Hid (w7.ownsRow (w.heap.size+1) 3 1 (.slice (some ⟨A3,0,none⟩) (stI L (k+1)).length cap3) (stI L (k+1)).length (ints (stI L (k+1)))):=by
        unfold Hid;have e:m+1=(stI L (k+1)).length:=by rw [HS.out,ins_len];omega
        have e2:ints []++(ints (S.take m)++(ints [k]++ints (S.drop m)))=ints (stI L (k+1)):=by rw [HS.out,HI.out];simp [ints]
        rw [←e,←e2];exact Go.Joins.ownsRow_le hown3 (by omega)
       have e:m+1=(stI L (k+1)).length:=by rw [HS.out,ins_len];omega
       rw [e];clear hown3 hown2 hgr3 hnil3 b2 b3 e;go_wp2;go_roundw
       case rel=>exact ⟨k+1,A3,cap3,by omega,by go_num,rfl,HO7.out,hr7,bw⟩
       case measure=>simp [intOf];omega
      ·go_wp2;go_quiet ((fail));go_wp2_with (at_builtin;refine wpList_append_own _ rfl _ _ 146 rfl wr.heap.size 3 i0 _ 1 8 Tryz.underlying146 hi hz0 hz1 hz2 rfl (by decide) _ 0 (ints []) rfl (owns_none3 (wr.drewN (q+nq)) wr.heap.size (Nat.le_refl _)) ⟨A,0,none⟩ m cap (ints (S.take m)) rfl (by first|(simp [ints];done)|(simp [ints];omega)) ?c1 (ints_one _) (by unfold maxLen;omega) (by omega) (by first|(simp;done)|(simp;omega)) ?_)
       case c1=>exact fun j u hj=>cell_grown' (grown_drewN wr _ none) (take_cell HCell.out m j u hj) hAlt
       intro v1 w5 hown1 hgr1 hnil1;obtain ⟨A1,cap1,rfl⟩:∃A1 cap1,v1= .slice (some ⟨A1,0,none⟩) m cap1:=by
        rcases Go.Joins.ownsRow_forms hown1 with ⟨h0,_⟩|h
        ·exact absurd h0 hnil1
        ·exact h
       have b1:Below wr.heap.size wr w5:=below_grown ((below_drewN wr _).alloc (Nat.le_refl _) _) hgr1 (fun x hx=>by simp [Value.ownBlock] at hx;omega) (by simp);clear hgr1 hnil1;have HW5:Hid (wr.heap.size≤w5.heap.size):=b1.size;go_wp2_with (at_builtin;refine wpList_append_own _ rfl _ _ 146 rfl wr.heap.size 3 i0 _ 1 8 Tryz.underlying146 hi hz0 hz1 hz2 rfl (by decide) _ m (ints []++ints (S.take m)) rfl (hown1.alloc _) ⟨w5.heap.size,0,none⟩ 1 1 (ints [k]) rfl rfl ?c1 (ints_one _) (by unfold maxLen;omega) (by omega) (by have:=HW5.out;simp;omega) ?_)
       case c1=>exact cell_one_new _ _ _
       intro v2 w6 hown2 hgr2 hnil2;obtain ⟨A2,cap2,rfl⟩:∃A2 cap2,v2= .slice (some ⟨A2,0,none⟩) (m+1) cap2:=by
        rcases Go.Joins.ownsRow_forms hown2 with ⟨h0,_⟩|h
        ·exact absurd h0 (by simpa using hnil2)
        ·exact h
       have b2:Below wr.heap.size wr w6:=below_grown (b1.alloc HW5.out _) hgr2 (fun x hx=> (hown1.lt x hx).1) (by have:=HW5.out;simp;omega);clear hgr2 hnil2 hown1 b1;have HW6:Hid (wr.heap.size≤w6.heap.size):=b2.size;go_wp2_with (at_builtin;refine wpList_append_own _ rfl _ _ 146 rfl wr.heap.size 3 i0 _ 1 8 Tryz.underlying146 hi hz0 hz1 hz2 rfl (by decide) _ (m+1) (ints []++ints (S.take m)++ints [k]) rfl hown2 ⟨A,m,none⟩ (S.length-m) (cap-m) (ints (S.drop m)) rfl (by simp [ints]) ?c1 (ints_one _) (by unfold maxLen;omega) (by omega) HW6.out ?_)
       case c1=>
        intro j u hj;have h:=drop_cell HCell.out m j u hj;rw [Addr.add_lit] at h ⊢;exact (World.cell?_of_block (b2.block A hAlt)).trans h
       intro v3 w7 hown3 hgr3 hnil3;obtain ⟨A3,cap3,rfl⟩:∃A3 cap3,v3= .slice (some ⟨A3,0,none⟩) (m+1+(S.length-m)) cap3:=by
        rcases Go.Joins.ownsRow_forms hown3 with ⟨_,h0⟩|h
        ·omega
        ·exact h
       have b3:Below wr.heap.size wr w7:=below_grown b2 hgr3 (fun x hx=> (hown2.lt x hx).1) HW6.out;have bw:Below w.heap.size w w7:=bk.trans (b3.mono (by omega));have hr7:=hr.below b3 (by omega);have HO7:Hid (w7.ownsRow (w.heap.size+1) 3 1 (.slice (some ⟨A3,0,none⟩) (stI L (k+1)).length cap3) (stI L (k+1)).length (ints (stI L (k+1)))):=by
        unfold Hid;have e:m+1+(S.length-m)=(stI L (k+1)).length:=by rw [HS.out,ins_len];omega
        have e2:ints []++(ints (S.take m)++(ints [k]++ints (S.drop m)))=ints (stI L (k+1)):=by rw [HS.out,HI.out];simp [ints]
        rw [←e,←e2];exact Go.Joins.ownsRow_le hown3 (by omega)
       have e:m+1+(S.length-m)=(stI L (k+1)).length:=by rw [HS.out,ins_len];omega
       rw [e];clear hown3 hown2 hgr3 hnil3 b2 b3 e;go_wp2;go_roundw
       case rel=>exact ⟨k+1,A3,cap3,by omega,by go_num,rfl,HO7.out,hr7,bw⟩
       case measure=>simp [intOf];omega
  ·obtain rfl:k=n:=by omega
   have HO:Hid (wr.ownsRow w.heap.size 3 1 (.slice (some ⟨A,0,none⟩) (stI L k).length cap) (stI L k).length (ints (stI L k))):=Go.Joins.ownsRow_le ho (by omega);clear ho hr;go_wp2;go_ret;exact ⟨_,_,rfl,HO.out,bk⟩
theorem in_yes (n a b:Int) (w:World) (h:a≤n∧n≤b):Calls Tryz.prog 43 #[.int .i64 n,.int .i64 a,.int .i64 b] w fun e w'=>e= .returned (.bool true)∧w'=w:=by
 obtain ⟨h1,h2⟩:=h;go_enter Tryz.func43,Tryz.ntmps43;go_wp2;go_ret;exact ⟨rfl,rfl⟩
theorem in_no (n a b:Int) (w:World) (h:¬(a≤n∧n≤b)):Calls Tryz.prog 43 #[.int .i64 n,.int .i64 a,.int .i64 b] w fun e w'=>e= .returned (.bool false)∧w'=w:=by
 by_cases h1:a≤n
 ·have h2:¬n≤b:=by omega
  go_enter Tryz.func43,Tryz.ntmps43;go_wp2;go_ret;exact ⟨rfl,rfl⟩
 ·go_enter Tryz.func43,Tryz.ntmps43;go_wp2;go_ret;exact ⟨rfl,rfl⟩
theorem heap_spec {s:ByteArray} {L:List Cl} (h1:s.size≤3000) (h2:L.length≤40):heapB s L=specB (byteAt s) s.size L:=by
 unfold heapB;rw [decide_eq_true ⟨h1,h2⟩,Bool.true_and,impl_spec _ _ h1]
theorem spec_no {s:ByteArray} {L:List Cl} (h1:s.size≤3000) (h2:L.length≤40) {k:Nat} (hk:k<L.length) (h:zce s.size (L.getD k cl0)=false):heapB s L=false:=by
 rw [heap_spec h1 h2];unfold specB;have:L.all (zce s.size)=false:=by
  rw [List.all_eq_false];refine ⟨L.getD k cl0,?_,by rw [h];simp⟩;rw [List.getD_eq_getElem?_getD,List.getElem?_eq_getElem hk];exact List.getElem_mem hk
 rw [this,Bool.false_and]
def AllTo (s:ByteArray) (L:List Cl) (k:Nat):Prop:=∀i,i<k→zce s.size (L.getD i cl0)=true
theorem allTo_next {s:ByteArray} {L:List Cl} {k:Nat} (h:AllTo s L k) (hk:zce s.size (L.getD k cl0)=true):AllTo s L (k+1):=fun i hi=>by
 rcases Nat.lt_succ_iff_lt_or_eq.1 hi with h1|h1
 ·exact h i h1
 ·rw [h1];exact hk
theorem allTo_end {s:ByteArray} {L:List Cl} (h1:s.size≤3000) (h2:L.length≤40) (h:AllTo s L L.length):heapB s L=sweepB (byteAt s) s.size ((stI L L.length).map (clOf L)) 0:=by
 rw [heap_spec h1 h2];unfold specB;have:L.all (zce s.size)=true:=by
  rw [List.all_eq_true];intro x hx;obtain ⟨i,hi,rfl⟩:=List.getElem_of_mem hx;have:=h i hi;rw [List.getD_eq_getElem?_getD,List.getElem?_eq_getElem hi] at this;exact this
 rw [this,Bool.true_and,live_all]
def bump:List (Nat×Nat)→List (Nat×Nat)
 | []=> []
 | [x]=> [(x.1,x.2+1)]
 |x::y::r=>x::bump (y::r)
theorem bump_last:∀(G:List (Nat×Nat)) (a k:Nat),bump (G++ [(a,k)])=G++ [(a,k+1)]
 | [],_,_=>rfl
 | [x],a,k=>rfl
 |x::y::r,a,k=>by
  have:=bump_last (y::r) a k;simp only [List.cons_append] at this ⊢;rw [bump,this]
def stepG (i:Nat) (b:Bool) (s:List (Nat×Nat)×Bool):List (Nat×Nat)×Bool:=
 if b then (s.1,false) else if s.2 then (bump s.1,true) else (s.1++ [(i,1)],true)
def scanM (t:Nat→Bool):Nat→List (Nat×Nat)×Bool
 |0=> ([],false)
 |k+1=>stepG k (t k) (scanM t k)
theorem scan_free {t:Nat→Bool} {e:Nat} {G:List (Nat×Nat)} (h:scanM t e=(G,false)):∀k,(∀i,e≤i→i<e+(k+1)→t i=false)→scanM t (e+(k+1))=(G++ [(e,k+1)],true)
 |0,hf=>by
  rw [show e+(0+1)=e+1 from rfl,scanM,h,hf e (Nat.le_refl _) (by omega)];rfl
 |k+1,hf=>by
  have ih:=scan_free h k (fun i h1 h2=>hf i h1 (by omega));rw [show e+(k+1+1)=(e+(k+1))+1 from rfl,scanM,ih,hf (e+(k+1)) (by omega) (by omega)];simp [stepG,bump_last]
theorem scan_taken {t:Nat→Bool} {e:Nat} {G:List (Nat×Nat)} {b:Bool} (h:scanM t e=(G,b)):∀k,(∀i,e≤i→i<e+(k+1)→t i=true)→scanM t (e+(k+1))=(G,false)
 |0,hf=>by
  rw [show e+(0+1)=e+1 from rfl,scanM,h,hf e (Nat.le_refl _) (by omega)];rfl
 |k+1,hf=>by
  have ih:=scan_taken h k (fun i h1 h2=>hf i h1 (by omega));rw [show e+(k+1+1)=(e+(k+1))+1 from rfl,scanM,ih,hf (e+(k+1)) (by omega) (by omega)];rfl
def gapsAll (n:Nat):List Cl→Nat→List (Nat×Nat)
 | [],e=> [(e,n-e)]
 |c::r,e=> (e,c.pos.toNat-e)::gapsAll n r (c.pos+c.len).toNat
def nz (l:List (Nat×Nat)):List (Nat×Nat):=l.filter fun g=>g.2!=0
theorem nz_cons (e k:Nat) (l:List (Nat×Nat)):nz ((e,k)::l)=(if k=0 then [] else [(e,k)])++nz l:=by
 unfold nz;by_cases h:k=0
 ·rw [List.filter_cons_of_neg (by simp [h]),if_pos h,List.nil_append]
 ·rw [List.filter_cons_of_pos (by simp [h]),if_neg h];rfl
theorem scan_gap {t:Nat→Bool} {e k:Nat} {G:List (Nat×Nat)} (h:scanM t e=(G,false)) (hf:∀i,e≤i→i<e+k→t i=false):∃b,scanM t (e+k)=(G++(if k=0 then [] else [(e,k)]),b):=by
 cases k with
 |zero=>exact ⟨false,by rw [if_pos rfl,List.append_nil];exact h⟩
 |succ k=>exact ⟨true,by rw [if_neg (by omega)];exact scan_free h k hf⟩
theorem scan_sweep (n:Nat) (t:Nat→Bool):∀(S:List Cl) (e:Nat) (G:List (Nat×Nat)),(∀c∈S,Ok n c)→Sorted S→S.Pairwise Disj→(∀c∈S,(e:Int)≤c.pos)→e≤n→(∀i,e≤i→t i=S.any fun c=>covers c i)→
  scanM t e=(G,false)→(scanM t n).1=G++nz (gapsAll n S e)
 | [],e,G,_,_,_,_,he,ht,hs=>by
  obtain ⟨b,hb⟩:=scan_gap (k:=n-e) hs (fun i h1 _=>by rw [ht i h1];rfl);rw [show e+(n-e)=n from by omega] at hb;rw [hb,gapsAll,nz_cons];simp [nz]
 |c::r,e,G,hok,hso,hd,hp,he,ht,hs=>by
  obtain ⟨hl,h1,h2,h3⟩:=hok c (by simp);rw [Sorted,List.pairwise_cons] at hso;rw [List.pairwise_cons] at hd;have hpc:=hp c (by simp);have hr:∀x∈r,(((c.pos+c.len).toNat:Nat):Int)≤x.pos:=fun x hx=>by
   have hx2:=hso.1 x hx;obtain ⟨_,q1,q2,q3⟩:=hok x (by simp [hx]);rcases hd.1 x hx with h|h<;>omega
  have hcov:∀i:Nat,(∀x∈r,¬(x.pos≤i))→(r.any fun x=>covers x i)=false:=fun i hi=>by
   rw [Bool.eq_false_iff];intro h;obtain ⟨x,hx,hxi⟩:=List.any_eq_true.1 h;have:=(covers_iff x i (hok x (by simp [hx])).1).1 hxi;exact hi x hx this.1
  obtain ⟨b,hb⟩:=scan_gap (k:=c.pos.toNat-e) hs (fun i h4 h5=>by
   rw [ht i h4,List.any_cons,hcov i (fun x hx hxi=>by have:=hr x hx;omega),Bool.or_false,Bool.eq_false_iff];intro h;have:=(covers_iff c i hl).1 h;omega)
  rw [show e+(c.pos.toNat-e)=c.pos.toNat from by omega] at hb
  have hk:=scan_taken hb (c.len.toNat-1) (fun i h4 h5=>by
   rw [ht i (by omega),List.any_cons,(covers_iff c i hl).2 (by omega),Bool.true_or])
  rw [show c.pos.toNat+(c.len.toNat-1+1)=(c.pos+c.len).toNat from by omega] at hk
  have ih:=scan_sweep n t r (c.pos+c.len).toNat _ (fun x hx=>hok x (by simp [hx])) hso.2 hd.2 hr (by omega) (fun i hi=>by
   rw [ht i (by omega),List.any_cons];have:covers c i=false:=by
    rw [Bool.eq_false_iff];intro h;have:=(covers_iff c i hl).1 h;omega
   rw [this,Bool.false_or]) hk
  rw [ih,gapsAll,nz_cons,List.append_assoc]
structure Right (n:Nat) (L:List Cl) (t:Nat→Bool):Prop where
 ok:∀c∈liveC [] L,Ok n c
 sorted:Sorted (liveC [] L)
 disj:(liveC [] L).Pairwise Disj
 all:L.all (admitB n)=true
 taken:∀i,t i=(liveC [] L).any fun c=>covers c i
theorem right_of_open {n:Nat} {L:List Cl} {t:Nat→Bool} (h:openM n L (fun _=>false)=some t):Right n L t:=by
 obtain ⟨a1,a2,_,a4⟩:=(open_iff n L _ t).1 h;have hP:=liveC_perm L [];rw [List.nil_append] at hP;refine ⟨fun c hc=>?_,liveC_sorted L [] List.Pairwise.nil,(hP.pairwise_iff (fun h=>Disj.symm h)).2 a2,a1,fun i=>?_⟩
 ·have hm:=hP.mem_iff.1 hc;exact admit_ok (List.all_eq_true.1 a1 c (List.mem_filter.1 hm).1) (List.mem_filter.1 hm).2
 ·rw [a4];show (false||_)=_;rw [Bool.false_or,Bool.eq_iff_iff,List.any_eq_true,List.any_eq_true];exact ⟨fun ⟨x,hx,h⟩=>⟨x,hP.mem_iff.2 hx,h⟩,fun ⟨x,hx,h⟩=>⟨x,hP.mem_iff.1 hx,h⟩⟩
theorem Right.low {n:Nat} {L:List Cl} {t:Nat→Bool} (h:Right n L t):∀c∈liveC [] L,((0:Nat):Int)≤c.pos:=fun c hc=> (h.ok c hc).2.2.1
theorem Right.scan {n:Nat} {L:List Cl} {t:Nat→Bool} (h:Right n L t):(scanM t n).1=nz (gapsAll n (liveC [] L) 0):=by
 have:=scan_sweep n t (liveC [] L) 0 [] h.ok h.sorted h.disj h.low (by omega) (fun i _=>h.taken i) rfl;rwa [List.nil_append] at this
theorem owns_set {w:World} {B:Nat} {e:TypeId} {size n A cap j:Nat} {xs:List Value} {u:Value} (h:w.ownsRow B e size (.slice (some ⟨A,0,none⟩) n cap) n xs):
  (w.setCell ⟨A,j,none⟩ u).ownsRow B e size (.slice (some ⟨A,0,none⟩) n cap) n (xs.set j u):=by
 obtain ⟨hl,h|⟨g,c,cur,hv,hb,hg,h1,h2,h3,h4⟩⟩:=h
 ·cases h.1
 ·simp only [Value.slice.injEq,Option.some.injEq,Addr.mk.injEq] at hv;obtain ⟨⟨rfl,_⟩,_,rfl⟩:=hv;refine ⟨by rw [List.length_set];exact hl,.inr ⟨A,cap,cur.setIfInBounds j u,rfl,hb,RowAt.set (w:=w) (T:=e) (C:=cur) hg j u,h1,h2,by rw [Array.size_setIfInBounds];exact h3,?_⟩⟩;rw [Array.toList_setIfInBounds,List.take_set,h4]
theorem owns_frozen {w:World} {B:Nat} {e:TypeId} {size n A cap:Nat} {xs:List Value} (h:w.ownsRow B e size (.slice (some ⟨A,0,none⟩) n cap) n xs) (j:Nat):w.frozen? ⟨A,j,none⟩=false:=by
 obtain ⟨hl,h|⟨g,c,cur,hv,hb,hg,_⟩⟩:=h
 ·cases h.1
 ·simp only [Value.slice.injEq,Option.some.injEq,Addr.mk.injEq] at hv;obtain ⟨⟨rfl,_⟩,_⟩:=hv;exact RowAt.frozen (w:=w) (T:=e) (C:=cur) hg j
def flatC (L:List Cl):List Value:=L.flatMap fun x=> (clV x).toList
theorem flatC_len:∀L:List Cl,(flatC L).length=L.length*4
 | []=>rfl
 |x::r=>by
  have:=flatC_len r;simp only [flatC,List.flatMap_cons,List.length_append,List.length_cons,List.length_nil] at this ⊢;omega
theorem flatC_app (G H:List Cl):flatC (G++H)=flatC G++flatC H:=by
 unfold flatC;rw [List.flatMap_append]
theorem split_at (L:List Cl) (k:Nat) (h:k<L.length):L=L.take k++(L.getD k cl0::L.drop (k+1)):=by
 rw [List.getD_eq_getElem?_getD,List.getElem?_eq_getElem h];simp
theorem flatC_at (L:List Cl) (k j:Nat) (h:k<L.length) (hj:j<4):(flatC L)[k*4+j]?=(clV (L.getD k cl0))[j]?:=by
 have e:=split_at L k h;have hl:(flatC (L.take k)).length=k*4:=by rw [flatC_len,List.length_take];omega
 generalize L.getD k cl0=x at*;rw [e,flatC_app,List.getElem?_append_right (by rw [hl];omega),hl,show k*4+j-k*4=j from by omega];show ((clV x).toList++flatC (L.drop (k+1)))[j]?=_;rw [List.getElem?_append_left (by simp;omega),Array.getElem?_toList]
theorem flatC_set (L:List Cl) (k:Nat) (x:Cl) (h:k < L.length):((((flatC L).set (k*4) (.int .i64 x.pos)).set (k*4+1) (.int .i64 x.len)).set (k*4+2) (.int .i64 x.gen)).set (k*4+3) (.bool x.live)=flatC (L.set k x):=by
 have e:=split_at L k h
 have hl:(flatC (L.take k)).length=k*4:=by rw [flatC_len,List.length_take];omega
 have e2:L.set k x=L.take k++(x::L.drop (k+1)):=by
  rw [List.set_eq_take_append_cons_drop,if_pos h]
 generalize L.getD k cl0=y at*
 rw [e2,flatC_app]
 conv=>lhs;rw [e,flatC_app]
 have s:∀(A B:List Value) (j:Nat) (v:Value),A.length=k*4→(A++B).set (k*4+j) v=A++B.set j v:=fun A B j v hA=>by
  rw [List.set_append_right _ _ (by omega),hA,show k*4+j - k*4=j from by omega]
 have s0:(flatC (L.take k)++flatC (y::L.drop (k+1))).set (k*4) (.int .i64 x.pos)=_:=s (flatC (L.take k)) (flatC (y::L.drop (k+1))) 0 (.int .i64 x.pos) hl
 rw [s0,s _ _ 1 _ hl,s _ _ 2 _ hl,s _ _ 3 _ hl]
 rfl
theorem owns_cellsIn {w:World} {B n cap A:Nat} {L:List Cl} (h:w.ownsRow B 84 4 (.slice (some ⟨A,0,none⟩) n cap) n (flatC L)):CellsIn w (some ⟨A,0,none⟩) A 0 n L:=by
 have hl:L.length=n:=by
  have:=h.1;rw [flatC_len] at this;omega
 refine ⟨hl,fun _=>rfl,fun _=> (h.lt A rfl).2,fun i hi=>?_⟩;have g:∀j,j<4→w.cell? ⟨A,0+i*4+j,none⟩=(clV (L.getD i cl0))[j]?:=fun j hj=>by
  have e:=flatC_at L i j (by omega) hj;have hs:j<(clV (L.getD i cl0)).size:=hj;rw [Array.getElem?_eq_getElem hs] at e ⊢;have:=h.cells rfl (i*4+j) _ e;rw [Addr.add_lit,Nat.zero_add] at this;rw [Nat.zero_add];exact this
 exact ⟨g 0 (by omega),g 1 (by omega),g 2 (by omega),g 3 (by omega)⟩
theorem cellsIn_none {w:World} {a:Option Addr} {A:Nat}:CellsIn w a A 0 0 []:=⟨rfl,fun h=>by omega,fun h=>by omega,fun i hi=>by omega⟩
theorem owns_at {w:World} {B n cap A k j:Nat} {xs:List Value} {v:Value} (h:w.ownsRow B 84 4 (.slice (some ⟨A,0,none⟩) n cap) n xs) (e:xs[k*4+j]?=some v):w.cell? ⟨A,k*4+j,none⟩=some v:=by
 have:=h.cells rfl (k*4+j) _ e;rwa [Addr.add_lit,Nat.zero_add] at this
theorem heap_small {s:ByteArray} {L:List Cl} (h:heapB s L=true):s.size≤3000∧L.length≤40:=by
 unfold heapB at h;rw [Bool.and_eq_true] at h;exact of_decide_eq_true h.1
def ptrV (p:Nat):Value:= .pointer (some ⟨p,0,none⟩)
def OpenC (w:World) (g:Nat) (d:Nat→UInt8) (t:Nat→Bool) (n:Nat) (L:List Cl):Prop:=
 ∃(cs:Value) (ps:List Nat),Arena w g d t n cs∧w.ownsRow (g+1) 81 1 cs L.length (ps.map ptrV)∧ps.length=L.length∧(∀i,i<L.length→g<ps.getD i 0∧RowAt w (ps.getD i 0) 84 (clV (L.getD i cl0)))∧ps.Nodup
theorem take_next {L:List Cl} {k:Nat} (h:k<L.length):L.take (k+1)=L.take k++ [L.getD k cl0]:=by
 rw [List.take_succ_eq_append_getElem h,List.getD_eq_getElem?_getD,List.getElem?_eq_getElem h];rfl
theorem zaf {w w':World} {B:Nat} {e:TypeId} {size n:Nat} {v:Value} {xs:List Value} (h:w.ownsRow B e size v n xs) (hb:Below w.heap.size w w'):w'.ownsRow B e size v n xs:=
 h.kept (row:=some w.heap.size) ⟨hb.os,hb.tape,hb.output,hb.size,fun j hj _=>hb.block j hj⟩ (.inr fun e=>by have:=(h.lt _ e).2;omega)
theorem OpenC.below {w w':World} {g n:Nat} {d:Nat→UInt8} {t:Nat→Bool} {L:List Cl} (h:OpenC w g d t n L) (hb:Below w.heap.size w w'):OpenC w' g d t n L:=by
 obtain ⟨cs,ps,h1,h2,h3,h4,h5⟩:=h;exact ⟨cs,ps,h1.below hb h1.lt,zaf h2 hb,h3,fun i hi=>⟨(h4 i hi).1,(h4 i hi).2.below hb (h4 i hi).2.lt⟩,h5⟩
theorem row_type {w:World} {p T T':Nat} {C C':Array Value} (h:RowAt w p T C) (h':RowAt w p T' C'):T=T':=by
 have:some (Obj.cells C T (0,0))=some (Obj.cells C' T' (0,0)):=h.symm.trans h';simp at this;exact this.2
theorem own_ne {w:World} {B:Nat} {e T:TypeId} {size n p:Nat} {v:Value} {xs:List Value} {C:Array Value} (h:w.ownsRow B e size v n xs) (hr:RowAt w p T C) (hT:T≠e):some p≠v.ownBlock:=by
 intro he;obtain ⟨_,h|⟨g,cap,cur,rfl,_,hg,_⟩⟩:=h
 ·rw [h.1] at he;cases he
 ·simp [Value.ownBlock] at he;subst he;exact hT (row_type hr hg)
theorem openC_add {w w':World} {g n:Nat} {d:Nat→UInt8} {t t':Nat→Bool} {M:List Cl} {x:Cl} {cs cs':Value} {ps:List Nat} (ha:Arena w g d t n cs) (ho:w.ownsRow (g+1) 81 1 cs M.length (ps.map ptrV)) (hpl:ps.length=M.length)
  (hpc:∀i,i<M.length→g<ps.getD i 0∧RowAt w (ps.getD i 0) 84 (clV (M.getD i cl0))) (hpn:ps.Nodup)
  (h1:Arena w' g d t' n cs') (h2:w'.ownsRow (g+1) 81 1 cs' (M.length+1) (ps.map ptrV++ [.pointer (some ⟨w.heap.size,0,none⟩)]))
  (h3:∀j,j<w.heap.size+1→j≠g→some j≠Value.ownBlock cs→w'.heap[j]?=(w.alloc (.cells (clV x) 84)).heap[j]?):OpenC w' g d t' n (M++ [x]):=by
 have hmem:∀p∈ps,p<w.heap.size:=fun p hp=>by
  obtain ⟨i,hi,rfl⟩:=List.getElem_of_mem hp;have:=(hpc i (by omega)).2.lt;rwa [List.getD_eq_getElem?_getD,List.getElem?_eq_getElem hi] at this
 refine ⟨cs',ps++ [w.heap.size],h1,?_,by simp [hpl],fun i hi=>?_,?_⟩
 ·rw [List.map_append,List.length_append];exact h2
 ·rw [List.length_append] at hi;simp only [List.length_cons,List.length_nil,Nat.zero_add] at hi;by_cases hlt:i<M.length
  ·have e1:(ps++ [w.heap.size]).getD i 0=ps.getD i 0:=by
    rw [List.getD_eq_getElem?_getD,List.getD_eq_getElem?_getD,List.getElem?_append_left (by omega)]
   have e2:(M++ [x]).getD i cl0=M.getD i cl0:=by
    rw [List.getD_eq_getElem?_getD,List.getD_eq_getElem?_getD,List.getElem?_append_left hlt]
   rw [e1,e2];obtain ⟨q1,q2⟩:=hpc i hlt;refine ⟨q1,?_⟩;have hlt2:=q2.lt;exact (h3 _ (by omega) (by omega) (own_ne ho q2 (by decide))).trans ((Below.heap_alloc _ _ _ hlt2).trans q2)
  ·have e:i=M.length:=by omega
   subst e;have e1:(ps++ [w.heap.size]).getD M.length 0=w.heap.size:=by
    rw [List.getD_eq_getElem?_getD,←hpl,List.getElem?_concat_length];rfl
   have e2:(M++ [x]).getD M.length cl0=x:=by
    rw [List.getD_eq_getElem?_getD,List.getElem?_concat_length];rfl
   rw [e1,e2];have hg:=ha.lt;exact ⟨hg,(h3 _ (by omega) (by omega) (fun e=>by have:=(ho.lt _ e.symm).2;omega)).trans (RowAt.new w 84 (clV x))⟩
 ·rw [List.nodup_append];refine ⟨hpn,by simp,fun a ha b hb=>?_⟩;simp at hb;have:=hmem a ha;omega
theorem admitC_any (g n:Nat) (d:Nat→UInt8) (t:Nat→Bool) (M:List Cl) (x:Cl) (w:World) (h:OpenC w g d t n M) (hn:n≤3000) (hk:M.length≤1000) (hx:Fit x):
  Calls Tryz.prog 54 #[.pointer (some ⟨g,0,none⟩),.agg (clV x)] w fun e w'=>e= .returned (.bool (okC n t x))∧(okC n t x=true→OpenC w' g d (takes t x) n (M++ [x]))∧Below g w w':=by
 obtain ⟨cs,ps,ha,ho0,hpl,hpc,hpn⟩:=h;have HP:Hid (∀w' cs',Arena w' g d (takes t x) n cs'→w'.ownsRow (g+1) 81 1 cs' (M.length+1) (ps.map ptrV++ [.pointer (some ⟨w.heap.size,0,none⟩)])→(∀j,j<w.heap.size+1→j≠g→some j≠Value.ownBlock cs→w'.heap[j]?=(w.alloc (.cells (clV x) 84)).heap[j]?)→OpenC w' g d (takes t x) n (M++ [x])):=
  fun w' cs' h1 h2 h3=>openC_add ha ho0 hpl hpc hpn h1 h2 h3
 have ho:w.ownsRow (g+1) 81 1 cs M.length (ps.map ptrV):=ho0;clear ho0 hpl hpc hpn;generalize hk0:M.length=k at*;generalize ps.map ptrV=xs at*;obtain ⟨i0,hi,hz0,hz1,hz2⟩:=info_parts info76;have hglt:=ha.lt;have hb1:Below w.heap.size w (w.alloc (.cells (clV x) 84)):=(Below.refl _ w).alloc (Nat.le_refl _) _;have hs1:(w.alloc (.cells (clV x) 84)).heap.size=w.heap.size+1:=by simp
 have ha1:=ha.below hb1 hglt;have hc1:=cl_new w x;have ho1:=ho.alloc (.cells (clV x) 84);by_cases hgen:1≤x.gen∧x.gen≤1000000000
 ·obtain ⟨g1,g2⟩:=hgen;have d1:¬x.gen<1:=by omega
  have d2:¬1000000000<x.gen:=by omega
  have c0:=hc1.c0;have c1:=hc1.c1;have c2:=hc1.c2;have c3:=hc1.c3;have cc:=ha1.cells;have fz:=ha1.frozen 6001;go_enter Tryz.func54,Tryz.ntmps54;go_wp2_with (at_builtin;refine wpList_append_own _ rfl _ _ 77 rfl (g+1) 81 i0 _ 1 8 Tryz.underlying77 hi hz0 hz1 hz2 rfl (by decide) _ _ _ rfl (ho1.alloc _) ⟨w.heap.size+1,0,none⟩ 1 1 [.pointer (some ⟨w.heap.size,0,none⟩)] rfl rfl ?c1 ?c2 ?c3 ?c4 ?c5 ?_)
  case c2=>rfl
  case c3=>unfold maxLen;omega
  case c4=>omega
  case c5=>omega
  intro v0' w5 hown' hgrow _;obtain ⟨A,cap,hv'⟩:∃A cap,v0'= .slice (some ⟨A,0,none⟩) (k+1) cap:=by
   rcases Go.Joins.ownsRow_forms hown' with ⟨_,h0⟩|h
   ·omega
   ·exact h
  subst hv';have hsz5:w.heap.size+2≤w5.heap.size:=by have:=hgrow.size;simp at this;omega
  have hblk:∀j,j<w.heap.size+1→some j≠Value.ownBlock cs→w5.heap[j]?=(w.alloc (.cells (clV x) 84)).heap[j]?:=fun j hj hne=>by
   rw [hgrow.block j (by simp;omega) hne];exact Below.heap_alloc _ _ _ (by omega)
  have hcsg:some g≠Value.ownBlock cs:=fun e=>by have:=(ho.lt g e.symm).1;omega
  have hcsw:some w.heap.size≠Value.ownBlock cs:=fun e=>by have:=(ho.lt _ e.symm).2;omega
  have ha5:Arena w5 g d t n cs:=by
   obtain ⟨C,hr,hrest⟩:=ha1.row;exact ⟨C,(hblk g (by omega) hcsg).trans hr,hrest⟩
  have hc5:ClAt w5 w.heap.size 0 x:=by
   have hb:∀j,w5.cell? ⟨w.heap.size,j,none⟩=(w.alloc (.cells (clV x) 84)).cell? ⟨w.heap.size,j,none⟩:=fun j=>World.cell?_of_block (w:=w.alloc (.cells (clV x) 84)) (hblk w.heap.size (by omega) hcsw);exact ⟨(hb _).trans hc1.c0,(hb _).trans hc1.c1,(hb _).trans hc1.c2,(hb _).trans hc1.c3⟩
  have hb5:Below g w w5:=⟨hgrow.os,hgrow.tape,hgrow.output,by omega,fun j hj=> (hblk j (by omega) (fun e=>by have:=(ho.lt j e.symm).1;omega)).trans (Below.heap_alloc _ _ _ (by omega))⟩;have ha6:Arena (w5.setCell ⟨g,6001,none⟩ (.slice (some ⟨A,0,none⟩) (k+1) cap)) g d t n (.slice (some ⟨A,0,none⟩) (k+1) cap):=ha5.setCells;have ho6:(w5.setCell ⟨g,6001,none⟩ (.slice (some ⟨A,0,none⟩) (k+1) cap)).ownsRow (g+1) 81 1 (.slice (some ⟨A,0,none⟩) (k+1) cap) (k+1) (xs++ [.pointer (some ⟨w.heap.size,0,none⟩)]):=ownsRow_setCell_below hown' (by simp) _;have hb6:Below g w (w5.setCell ⟨g,6001,none⟩ (.slice (some ⟨A,0,none⟩) (k+1) cap)):=hb5.setCell (p:=⟨g,6001,none⟩) (Nat.le_refl _) _;have hc6:ClAt (w5.setCell ⟨g,6001,none⟩ (.slice (some ⟨A,0,none⟩) (k+1) cap)) w.heap.size 0 x:=by
   have hb:∀j,(w5.setCell ⟨g,6001,none⟩ (.slice (some ⟨A,0,none⟩) (k+1) cap)).cell? ⟨w.heap.size,j,none⟩=w5.cell? ⟨w.heap.size,j,none⟩:=fun j=>World.cell?_of_block (w:=w5) (Below.heap_setCell _ _ _ _ (by simp;omega));exact ⟨(hb _).trans hc5.c0,(hb _).trans hc5.c1,(hb _).trans hc5.c2,(hb _).trans hc5.c3⟩
  have hsz6:w.heap.size+2≤(w5.setCell ⟨g,6001,none⟩ (.slice (some ⟨A,0,none⟩) (k+1) cap)).heap.size:=by simpa [World.setCell] using hsz5
  clear c0 c1 c2 c3 cc fz;have cc:=ha5.cells;have fz:=ha5.frozen 6001;have c0:=hc6.c0;have c1:=hc6.c1;have c2:=hc6.c2;have c3:=hc6.c3;have HA:Hid (Arena (w5.setCell ⟨g,6001,none⟩ (.slice (some ⟨A,0,none⟩) (k+1) cap)) g d t n (.slice (some ⟨A,0,none⟩) (k+1) cap)):=ha6;have HO:Hid ((w5.setCell ⟨g,6001,none⟩ (.slice (some ⟨A,0,none⟩) (k+1) cap)).ownsRow (g+1) 81 1 (.slice (some ⟨A,0,none⟩) (k+1) cap) (k+1) (xs++ [.pointer (some ⟨w.heap.size,0,none⟩)])):=ho6;have HB:Hid (Below g w (w5.setCell ⟨g,6001,none⟩ (.slice (some ⟨A,0,none⟩) (k+1) cap))):=hb6;have HK6:Hid (∀j,j<w.heap.size+1→j≠g→some j≠Value.ownBlock cs→(w5.setCell ⟨g,6001,none⟩ (.slice (some ⟨A,0,none⟩) (k+1) cap)).heap[j]?=(w.alloc (.cells (clV x) 84)).heap[j]?):=fun j hj hjg hjo=>
   (Below.heap_setCell _ _ _ _ (by simpa using hjg)).trans (hblk j hj hjo)
  have HG:Hid (decide (1≤x.gen∧x.gen≤1000000000)=true):=decide_eq_true ⟨g1,g2⟩;clear hown' hgrow hblk ha5 hc5 hb5 ha6 ho6 hb6 hc6 ha1 ho1 ha ho hc1 hb1 hcsg hcsw;cases hlv:x.live with
  |false=>
   have HF:Hid (okC n t x=decide (x.pos=0∧x.len=0)):=by
    unfold Hid okC admitB;rw [HG.out,hlv];simp
   have HT:Hid (takes t x=t):=by
    unfold Hid;funext i;simp [takes,covers,hlv]
   rw [hlv] at c3;by_cases hp0:x.pos=0
   ·have dp:(x.pos==0)=true:=by simp [hp0]
    have HF2:Hid (okC n t x=(x.len==0)):=by
     unfold Hid;rw [HF.out];by_cases hl0:x.len=0<;>simp [hp0,hl0]
    clear hp0;go_wp2;go_ret;exact ⟨zae HF2.out.symm,fun _=>HP.out _ _ (by rw [HT.out];exact HA.out) HO.out HK6.out,HB.out⟩
   ·have dp:(x.pos==0)=false:=by simp [hp0]
    have HF2:Hid (okC n t x=false):=by
     unfold Hid;rw [HF.out];simp [hp0]
    go_wp2;go_ret;exact ⟨zae HF2.out.symm,(fun h=>by rw [HF2.out] at h;cases h),HB.out⟩
  |true=>
   rw [hlv] at c3;have HF:Hid (okC n t x=(withinB n x&&free t x)):=by
    unfold Hid okC admitB;rw [HG.out,hlv];simp [withinB]
   go_wp2_with fail;generalize w5.setCell ⟨g,6001,none⟩ (.slice (some ⟨A,0,none⟩) (k+1) cap)=w6 at*;have HW:=within_any g n d t (.slice (some ⟨A,0,none⟩) (k+1) cap) x w6 HA.out hn hx;simp only [clV,hlv] at HW;refine HW.mono ?_;clear HW;rintro e w7 ⟨rfl,b7⟩;have s7:=b7.size;have HA7:Hid (Arena w7 g d t n (.slice (some ⟨A,0,none⟩) (k+1) cap)):=HA.out.below b7 (by omega);have HO7:Hid (w7.ownsRow (g+1) 81 1 (.slice (some ⟨A,0,none⟩) (k+1) cap) (k+1) (xs++ [.pointer (some ⟨w.heap.size,0,none⟩)])):=
    HO.out.kept (row:=some w6.heap.size) ⟨b7.os,b7.tape,b7.output,b7.size,fun j hj _=>b7.block j hj⟩ (.inr fun e=>by have:=(HO.out.lt _ e).2;omega)
   have HK7:Hid (∀j,j<w.heap.size+1→j≠g→some j≠Value.ownBlock cs→w7.heap[j]?=(w.alloc (.cells (clV x) 84)).heap[j]?):=fun j hj hjg hjo=> (b7.block j (by omega)).trans (HK6.out j hj hjg hjo);have HB7:Hid (Below g w w7):=HB.out.trans (b7.mono (by omega));have hc7:ClAt w7 w.heap.size 0 x:=cl_below ⟨c0,c1,c2,by rw [hlv];exact c3⟩ (by omega) b7;cases hwi:withinB n x with
   |false=>
    rw [hwi,Bool.false_and] at HF;clear hc7 hwi;go_wp2;go_ret;exact ⟨zae HF.out.symm,(fun h=>by rw [HF.out] at h;cases h),HB7.out⟩
   |true=>
    rw [hwi,Bool.true_and] at HF;have hok:Ok n x:=by
     have:=of_decide_eq_true hwi;exact ⟨hlv,by omega,by omega,by omega⟩
    clear c0 c1 c2 c3;have c0:=hc7.c0;have c1:=hc7.c1;have c2:=hc7.c2;have c3:=hc7.c3;clear hc7 hwi;go_wp2_with fail;have HW:=take_any g n d t (.slice (some ⟨A,0,none⟩) (k+1) cap) x w7 HA7.out hn hok;simp only [clV,hlv] at HW;refine HW.mono ?_;clear HW;rintro e w8 ⟨rfl,ha8,g8⟩;have HA8:Hid (free t x=true→Arena w8 g d (takes t x) n (.slice (some ⟨A,0,none⟩) (k+1) cap)):=ha8;have HO8:Hid (w8.ownsRow (g+1) 81 1 (.slice (some ⟨A,0,none⟩) (k+1) cap) (k+1) (xs++ [.pointer (some ⟨w.heap.size,0,none⟩)])):=HO7.out.kept g8 (.inr fun e=>by have:=(HO7.out.lt _ e).1;omega);have HK8:Hid (∀j,j<w.heap.size+1→j≠g→some j≠Value.ownBlock cs→w8.heap[j]?=(w.alloc (.cells (clV x) 84)).heap[j]?):=fun j hj hjg hjo=> (g8.block j (by omega) (fun e=>hjg (by simpa using e))).trans (HK7.out j hj hjg hjo);have HB8:Hid (Below g w w8):=HB7.out.trans (below_of_grown g8 (Nat.le_refl _) (by omega));clear ha8 g8;rw [←HF.out] at HA8 ⊢;go_wp2;go_ret;exact ⟨rfl,fun h=>HP.out _ _ (HA8.out h) HO8.out HK8.out,HB8.out⟩
 ·have HF:Hid (okC n t x=false):=by
   unfold Hid okC admitB;rw [decide_eq_false hgen,Bool.false_and,Bool.false_and]
  have hbg:Below g w (w.alloc (.cells (clV x) 84)):=hb1.mono (by omega);clear ha1 ho1 hc1 ha ho;go_enter Tryz.func54,Tryz.ntmps54;go_wp2;all_goals first
   |(exfalso;omega)
   |(go_ret;exact ⟨zae HF.out.symm,(fun h=>by rw [HF.out] at h;cases h),hbg⟩)
def OpenEndC (w:World) (s:ByteArray) (L:List Cl) (e:Ending) (w':World):Prop:=
 ∃p:Option Addr,e= .returned (.tuple #[.pointer p,.bool (implB (byteAt s) s.size L)])∧
  (implB (byteAt s) s.size L=true→∃g t,p=some ⟨g,0,none⟩∧openM s.size L (fun _=>false)=some t∧OpenC w' g (byteAt s) t s.size L∧w.heap.size≤g)∧Below w.heap.size w w'
theorem openedC_any (s:ByteArray) (a:Option Addr) (b off n c:Nat) (L:List Cl) (w:World) (h:CellsIn w a b off n L) (hs:s.size≤3000) (hn:n≤40) (hf:∀i,i<n→Fit (L.getD i cl0)):
  Calls Tryz.prog 28 #[.agg #[.string s,.slice a n c]] w (OpenEndC w s L):=by
 have hni:¬(3000:Int)<(s.size:Int):=by omega
 have hnc:¬(40:Int)<(n:Int):=by omega
 have hzv:=zeroV56;have hzs:=zeros_len;have hzn:¬zc56= #[]:=fun e=>by rw [e] at hzs;cases hzs
 go_enter Tryz.func28,Tryz.ntmps28;go_wp2;have hb0:Below w.heap.size w (w.alloc (.cells #[.string s,.slice a n c] 29)):=(Below.refl _ w).alloc (Nat.le_refl _) _;have hn0:=RowAt.new w 29 #[.string s,.slice a n c];have hs0:(w.alloc (.cells #[.string s,.slice a n c] 29)).heap.size=w.heap.size+1:=by simp
 generalize w.alloc (.cells #[.string s,.slice a n c] 29)=w1 at*;have ha:Arena (w1.alloc (.cells (zc56.setIfInBounds 6000 (.int .i64 (s.size:Int))) 79)) (w.heap.size+1) (fun _=>0) (fun _=>false) s.size (.slice none 0 0):=by
  have:=Arena.new w1 s.size;rwa [hs0] at this
 have hb1:Below w1.heap.size w1 (w1.alloc (.cells (zc56.setIfInBounds 6000 (.int .i64 (s.size:Int))) 79)):=(Below.refl _ w1).alloc (Nat.le_refl _) _;have hs2:(w1.alloc (.cells (zc56.setIfInBounds 6000 (.int .i64 (s.size:Int))) 79)).heap.size=w.heap.size+2:=by simp [hs0]
 generalize w1.alloc (.cells (zc56.setIfInBounds 6000 (.int .i64 (s.size:Int))) 79)=w2 at*;have hbb:Below w.heap.size w w2:=hb0.trans (hb1.mono (by omega));have hn2:=hn0.below hb1 (by omega);have c0:=hn2.cell 0;have c1:=hn2.cell 1;simp at c0 c1;obtain ⟨C,hr,hsz,hd,ht,hss,hc⟩:=ha.row;generalize hG:w.heap.size+1=G at*;have hcp:∀ty,(Builtin.copy_ #[22,9] ty #[.slice (some ⟨G,0,none⟩) 3000 3000,.string s]).run Tryz.prog w2.drew= .ok (goInt s.size) (w2.drew.setRow G (C.toList.take 0++Lib.byteCells s.data.toList++C.toList.drop (0+s.size)).toArray):=fun ty=>
  Lib.run_copy_row_string w2.drew 22 9 ty 5 G 0 3000 3000 s C 79 Tryz.underlying22 info5s hr hs (by omega)
 have hr3:RowAt (w2.drew.setRow G (C.toList.take 0++Lib.byteCells s.data.toList++C.toList.drop (0+s.size)).toArray) G 79 (C.toList.take 0++Lib.byteCells s.data.toList++C.toList.drop (0+s.size)).toArray:=
  setRow_heap w2.drew G C _ 79 _ hr
 have ha3:=Arena.copied hsz hd ht hss hc hs hr3;have hg3:w2.grownBy (w2.drew.setRow G (C.toList.take 0++Lib.byteCells s.data.toList++C.toList.drop (0+s.size)).toArray) (some G):=
  ⟨rfl,rfl,rfl,by simp [World.setRow],fun k _ hk=>by rw [setRow_other _ _ _ _ (fun e=>hk (by rw [e]))];rfl⟩
 have HA3:Hid (Arena (w2.drew.setRow G (C.toList.take 0++Lib.byteCells s.data.toList++C.toList.drop (0+s.size)).toArray) G (byteAt s) (fun _=>false) s.size (.slice none 0 0)):=ha3;clear ha hr hsz hd ht hss hc hr3 ha3;generalize w2.drew.setRow G (C.toList.take 0++Lib.byteCells s.data.toList++C.toList.drop (0+s.size)).toArray=w3 at*;have hbx:Below w.heap.size w w3:=hbb.trans (below_of_grown hg3 (by omega) (by have:=hbb.size;omega));have hn3:RowAt w3 w.heap.size 29 #[.string s,.slice a n c]:=(hg3.block w.heap.size hn2.lt (by simp;omega)).trans hn2;have hs3:w.heap.size+2≤w3.heap.size:=by have:=hg3.size;omega
 have HB:Hid (Below w.heap.size w w3):=hbx;clear hbx hbb hb0 hb1;go_region;clear c0 c1 hn2 hcp;have c0:=hn3.cell 0;have c1:=hn3.cell 1;simp at c0 c1;have HO:Hid (openM s.size L (fun _=>false)=openM s.size (L.drop 0) (fun _=>false)):=by unfold Hid;rw [List.drop_zero]
 clear hn3;go_wp2;go_loopw [6,32] (fun _ i wr=>∃(k:Nat) (t:Nat→Bool),k≤n∧i= .int .i64 k∧OpenC wr G (byteAt s) t s.size (L.take k)∧Hid (openM s.size L (fun _=>false)=openM s.size (L.drop k) t)∧Below w.heap.size w wr) (fun _ i _=>n-(intOf i).toNat)
 case atStart=>exact ⟨0,_,by omega,rfl,⟨_,[],HA3.out,World.ownsRow_nil _ _ _ _,rfl,fun i hi=>by simp at hi,List.nodup_nil⟩,HO,HB.out⟩
 case round=>
  obtain ⟨k,t,hk,rfl,hop,hst,bk⟩:=hrel;clear HO HB HA3;by_cases hlt:k<n
  ·obtain rfl:=h.addr (by omega);have hlow:=h.low (by omega);have hnd:=cl_below (h.cell k hlt) hlow bk;have hfit:=hf k hlt;have hdr:=drop_get (L:=L) (k:=k) (by rw [h.len];exact hlt);have d0:=hnd.c0;have d1:=hnd.c1;have d2:=hnd.c2;have d3:=hnd.c3;clear hnd;have HTk:Hid (L.take (k+1)=L.take k++ [L.getD k cl0]):=take_next (by rw [h.len];exact hlt);generalize L.getD k cl0=x at*;go_wp2_with fail;have b4:Below wr.heap.size wr (wr.alloc (.cells (clV x) 84)):=(Below.refl _ wr).alloc (Nat.le_refl _) _;have hop4:OpenC (wr.alloc (.cells (clV x) 84)) G (byteAt s) t s.size (L.take k):=hop.below b4;have bb4:Below w.heap.size w (wr.alloc (.cells (clV x) 84)):=bk.trans (b4.mono bk.size);have hC:=admitC_any G s.size (byteAt s) t (L.take k) x (wr.alloc (.cells (clV x) 84)) hop4 hs (by rw [List.length_take];omega) hfit;generalize wr.alloc (.cells (clV x) 84)=w4 at*;refine hC.mono ?_;rintro e w5 ⟨rfl,hop5,b5⟩;have bb5:Below w.heap.size w w5:=bb4.trans (b5.mono (by omega));clear hC hop4 hop;cases hok:okC s.size t x with
   |false=>
    have HR:Hid (implB (byteAt s) s.size L=false):=by
     unfold Hid implB;rw [hst.out,hdr,step_iff,hok];rfl
    clear hop5 hst hok;go_wp2;go_ret2;exact ⟨none,by rw [HR.out];rfl,(fun h=>by rw [HR.out] at h;cases h),bb5⟩
   |true=>
    have HS:Hid (openM s.size L (fun _=>false)=openM s.size (L.drop (k+1)) (takes t x)):=by
     unfold Hid;rw [hst.out,hdr,step_iff,hok];rfl
    have HOp:Hid (OpenC w5 G (byteAt s) (takes t x) s.size (L.take (k+1))):=by unfold Hid;rw [HTk.out];exact hop5 hok
    clear hop5 hst hok;go_wp2;go_roundw
    case rel=>exact ⟨k+1,_,by omega,by go_num,HOp.out,HS,bb5⟩
    case measure=>simp [intOf];omega
  ·obtain rfl:k=n:=by omega
   have hfin:openM s.size L (fun _=>false)=some t:=by
    rw [hst.out,List.drop_eq_nil_of_le (by rw [h.len];exact Nat.le_refl _)];rfl
   have HR:Hid (implB (byteAt s) s.size L=cleanM (byteAt s) t s.size):=by
    unfold Hid implB;rw [hfin]
   have HOp:Hid (OpenC wr G (byteAt s) t s.size L):=by
    unfold Hid;rw [show L=L.take k from by rw [←h.len,List.take_length]];exact hop
   have HFin:Hid (openM s.size L (fun _=>false)=some t):=hfin;obtain ⟨cs,xs,har,_,_,_,_⟩:=hop;clear hst hfin;go_wp2_with fail;refine (clean_any G s.size (byteAt s) t cs wr har hs).mono ?_;rintro e w6 ⟨rfl,rfl⟩;rw [←HR.out];clear har;go_wp2;go_ret2;exact ⟨some ⟨G,0,none⟩,rfl,(fun _=>⟨G,t,rfl,HFin.out,HOp.out,by omega⟩),bk⟩
end Go.Proofs.YtjpeglkkkllagaaGreatDoor.Hp
