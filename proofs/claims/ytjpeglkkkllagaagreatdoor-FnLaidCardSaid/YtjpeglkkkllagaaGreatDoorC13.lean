import Derived.Test.YtjpeglkkkllagaaGreatDoorC40
set_option maxHeartbeats 4000000
set_option maxRecDepth 100000
namespace Go.Proofs.YtjpeglkkkllagaaGreatDoor
open Go.RowKit Go.Sort
open Kk (Rk rk0 texL texR decS zea zeb zec OwnR flatR encR zdh str_ne str_eq)
def argsB (T:List ByteArray):Bool:=(List.range T.length).all (fun i=>decide ((T.getD i ByteArray.empty).size≤200))&&decide (T.length≤16)
theorem l2Args_any (a:Option Addr) (b o n c:Nat) (T:List ByteArray) (w:World) (h:zdg w a b o n T) (hn:n≤1048577):
  Calls Tryz.prog 61 #[.slice a n c] w fun e w'=>e= .returned (.bool (argsB T))∧w'=w:=by
 have H:Hid (zdg w a b o n T):=h;have HL:Hid (argsB T=((List.range n).all (fun i=>decide ((T.getD i ByteArray.empty).size≤200))&&decide (n≤16))):=by unfold Hid argsB;rw [h.len]
 generalize argsB T=G at*;clear h;go_enter Tryz.func61,Tryz.ntmps61;go_wp2;go_loop [3] (fun i=>∃k:Nat,k≤n∧i= .int .i64 k∧Hid (∀j,j<k→(T.getD j ByteArray.empty).size≤200)) (fun i=>n-(intOf i).toNat)
 case atStart=>exact ⟨0,by omega,rfl,fun j hj=>by omega⟩
 case round=>
  obtain ⟨k,hk,rfl,hp⟩:=hrel;by_cases hlt:k<n
  ·have c0:=H.out.cell k hlt;have q0:=H.out.fit k hlt;obtain rfl:=H.out.addr (by omega);by_cases he:(T.getD k ByteArray.empty).size≤200
   ·have HP:Hid (∀j,j<k+1→(T.getD j ByteArray.empty).size≤200):=fun j hj=>by
     by_cases e:j=k
     ·subst e;exact he
     ·exact hp.out j (by omega)
    clear hp;generalize T.getD k ByteArray.empty=x at*;go_wp2;go_round
    case rel=>exact ⟨k+1,by omega,by go_num,HP⟩
    case measure=>simp [intOf];omega
   ·have HF:Hid (G=false):=by
     unfold Hid;rw [HL.out,Bool.and_eq_false_iff];left;rw [List.all_eq_false];exact ⟨k,by simp;exact hlt,by simpa using he⟩
    clear hp;generalize T.getD k ByteArray.empty=x at*;have he2:(200:Int)<(x.size:Int):=by omega
    go_wp2;go_ret;exact ⟨zae HF.out.symm,rfl⟩
  ·have HF:Hid (G=decide ((n:Int)≤16)):=by
    unfold Hid;rw [HL.out,show (List.range n).all (fun i=>decide ((T.getD i ByteArray.empty).size≤200))=true by rw [List.all_eq_true];intro j hj;exact decide_eq_true (hp.out j (by have:=List.mem_range.1 hj;omega)),Bool.true_and];exact decide_eq_decide.2 (by omega)
   clear hp;go_wp2;go_ret;exact ⟨zae HF.out.symm,rfl⟩
def pairM (T:List Pr) (nm:ByteArray) (at0:Nat):Int:=match T with
 | []=>-1
 |x::xs=>if x.1=nm then (at0:Int) else pairM xs nm (at0+1)
theorem pair_hit:∀(T:List Pr) (nm:ByteArray) (k s:Nat),k<T.length→(∀j,j<k→(T.getD j (bz,bz)).1≠nm)→(T.getD k (bz,bz)).1=nm→pairM T nm s=((s+k:Nat):Int)
 | [],_,_,_,h,_,_=>by simp at h
 |x::xs,nm,0,s,_,_,h=>by
  show (if x.1=nm then (s:Int) else _)=_;rw [if_pos (by simpa using h)];rfl
 |x::xs,nm,k+1,s,hk,hn,h=>by
  show (if x.1=nm then (s:Int) else pairM xs nm (s+1))=_;rw [if_neg (by have:=hn 0 (by omega);simpa using this),pair_hit xs nm k (s+1) (by simpa using hk) (fun j hj=>by have:=hn (j+1) (by omega);simpa using this) (by simpa using h)];congr 1;omega
theorem pair_miss:∀(T:List Pr) (nm:ByteArray) (s:Nat),(∀j,j<T.length→(T.getD j (bz,bz)).1≠nm)→pairM T nm s= -1
 | [],_,_,_=>rfl
 |x::xs,nm,s,hn=>by
  show (if x.1=nm then (s:Int) else pairM xs nm (s+1))=_;rw [if_neg (by have:=hn 0 (by simp);simpa using this)];exact pair_miss xs nm (s+1) (fun j hj=>by have:=hn (j+1) (by simpa using hj);simpa using this)
theorem pair_any (a:Option Addr) (b n c:Nat) (T:List Pr) (nm:ByteArray) (w:World) (h:PairsIn w a b n T) (hn:n≤1048577):
  Calls Tryz.prog 126 #[.slice a n c,.string nm] w fun e w'=>e= .returned (.int .i64 (pairM T nm 0))∧w'=w:=by
 have H:Hid (PairsIn w a b n T):=h;have HL:Hid (T.length=n):=h.len;clear h;go_enter Tryz.func126,Tryz.ntmps126;go_wp2;go_loop [5] (fun i=>∃k:Nat,k≤n∧i= .int .i64 k∧Hid (∀j,j<k→(T.getD j (bz,bz)).1≠nm)) (fun i=>n-(intOf i).toNat)
 case atStart=>exact ⟨0,by omega,rfl,fun j hj=>by omega⟩
 case round=>
  obtain ⟨k,hk,rfl,hp⟩:=hrel;by_cases hlt:k<n
  ·have c0:=H.out.c0 k hlt;obtain rfl:=H.out.addr (by omega);by_cases he:(T.getD k (bz,bz)).1=nm
   ·have HF:Hid (pairM T nm 0=(k:Int)):=by
     have:=pair_hit T nm k 0 (by rw [HL.out];exact hlt) hp.out he;rw [Nat.zero_add] at this;exact this
    rw [he] at c0;clear he hp;go_wp2;go_ret;exact ⟨ret_int HF.out.symm,rfl⟩
   ·have HP:Hid (∀j,j<k+1→(T.getD j (bz,bz)).1≠nm):=fun j hj=>by
     by_cases e:j=k
     ·subst e;exact he
     ·exact hp.out j (by omega)
    have hd:=str_ne he;generalize (T.getD k (bz,bz)).1=x at*;clear he hp;go_wp2;go_round
    case rel=>exact ⟨k+1,by omega,by go_num,HP⟩
    case measure=>simp [intOf];omega
  ·have HF:Hid (pairM T nm 0= -1):=pair_miss T nm 0 (fun j hj=>hp.out j (by rw [HL.out] at hj;omega));clear hp;go_wp2;go_ret;exact ⟨ret_int HF.out.symm,rfl⟩
def ratM (T:List Rk) (nm:ByteArray) (at0:Nat):Int:=match T with
 | []=>-1
 |x::xs=>if x.m=nm then (at0:Int) else ratM xs nm (at0+1)
theorem rat_hit:∀(T:List Rk) (nm:ByteArray) (k s:Nat),k<T.length→(∀j,j<k→(T.getD j rk0).m≠nm)→(T.getD k rk0).m=nm→ratM T nm s=((s+k:Nat):Int)
 | [],_,_,_,h,_,_=>by simp at h
 |x::xs,nm,0,s,_,_,h=>by
  show (if x.m=nm then (s:Int) else _)=_;rw [if_pos (by simpa using h)];rfl
 |x::xs,nm,k+1,s,hk,hn,h=>by
  show (if x.m=nm then (s:Int) else ratM xs nm (s+1))=_;rw [if_neg (by have:=hn 0 (by omega);simpa using this),rat_hit xs nm k (s+1) (by simpa using hk) (fun j hj=>by have:=hn (j+1) (by omega);simpa using this) (by simpa using h)];congr 1;omega
theorem rat_miss:∀(T:List Rk) (nm:ByteArray) (s:Nat),(∀j,j<T.length→(T.getD j rk0).m≠nm)→ratM T nm s= -1
 | [],_,_,_=>rfl
 |x::xs,nm,s,hn=>by
  show (if x.m=nm then (s:Int) else ratM xs nm (s+1))=_;rw [if_neg (by have:=hn 0 (by simp);simpa using this)];exact rat_miss xs nm (s+1) (fun j hj=>by have:=hn (j+1) (by simpa using hj);simpa using this)
theorem rat_any (a:Option Addr) (b o n c:Nat) (T:List Rk) (nm:ByteArray) (w:World) (h:zdh w a b o n T) (hn:n≤1048577):
  Calls Tryz.prog 128 #[.slice a n c,.string nm] w fun e w'=>e= .returned (.int .i64 (ratM T nm 0))∧w'=w:=by
 have H:Hid (zdh w a b o n T):=h;have HL:Hid (T.length=n):=h.len;clear h;go_enter Tryz.func128,Tryz.ntmps128;go_wp2;go_loop [5] (fun i=>∃k:Nat,k≤n∧i= .int .i64 k∧Hid (∀j,j<k→(T.getD j rk0).m≠nm)) (fun i=>n-(intOf i).toNat)
 case atStart=>exact ⟨0,by omega,rfl,fun j hj=>by omega⟩
 case round=>
  obtain ⟨k,hk,rfl,hp⟩:=hrel;by_cases hlt:k<n
  ·have c0:=(H.out.cell k hlt).c0;obtain rfl:=H.out.addr (by omega);by_cases he:(T.getD k rk0).m=nm
   ·have HF:Hid (ratM T nm 0=(k:Int)):=by
     have:=rat_hit T nm k 0 (by rw [HL.out];exact hlt) hp.out he;rw [Nat.zero_add] at this;exact this
    rw [he] at c0;clear he hp;go_wp2;go_ret;exact ⟨ret_int HF.out.symm,rfl⟩
   ·have HP:Hid (∀j,j<k+1→(T.getD j rk0).m≠nm):=fun j hj=>by
     by_cases e:j=k
     ·subst e;exact he
     ·exact hp.out j (by omega)
    have hd:=str_ne he;generalize (T.getD k rk0).m=x at*;clear he hp;go_wp2;go_round
    case rel=>exact ⟨k+1,by omega,by go_num,HP⟩
    case measure=>simp [intOf];omega
  ·have HF:Hid (ratM T nm 0= -1):=rat_miss T nm 0 (fun j hj=>hp.out j (by rw [HL.out] at hj;omega));clear hp;go_wp2;go_ret;exact ⟨ret_int HF.out.symm,rfl⟩
end Go.Proofs.YtjpeglkkkllagaaGreatDoor
namespace Go.Proofs.YtjpeglkkkllagaaGreatDoor
open Go.RowKit Go.Sort
open Kk (str_ne str_eq)
theorem info202:(Tryz.prog.info? 189).map (fun i=> (i.zero,i.size,i.bytes))=some (some (.agg #[.int .i64 0,.int .i64 0,.string ⟨#[]⟩,.slice none 0 0]),4,56):=by kernel_rfl
theorem info2n:(Tryz.prog.info? 2).map (fun i=> (i.zero,i.size,i.bytes))=some (some (.int .i64 0),1,8):=by kernel_rfl
theorem app_rp {w:World} {B:Nat} {V:Value} {M:List RV} (k m:Int) (s:ByteArray) (ks:List Nat) (a:Option Addr) (n c:Nat) (h:OwnRp w B V M) (hn:M.length≤1048577) (hB:B≤w.heap.size):
  ∃v' w',(Builtin.append_ #[90,90] 90 #[V,.slice (some ⟨w.heap.size,0,none⟩) 1 1]).run Tryz.prog (w.alloc (.cells #[.int .i64 k,.int .i64 m,.string s,.slice a n c] 189))= .ok v' w'∧OwnRp w' B v' (M++ [⟨⟨k,m,s,ks⟩,.slice a n c⟩])∧Below B w w'∧w.grownBy w' V.ownBlock:=by
 obtain ⟨i0,hi,hz0,hz1,hz2⟩:=info_parts info202;have hbl:Below w.heap.size w (w.alloc (.cells #[.int .i64 k,.int .i64 m,.string s,.slice a n c] 189)):=(Below.refl _ w).alloc (Nat.le_refl _) _;have oA:=zaf h hbl
 obtain ⟨v',w',hrun,hown,hg,_,hblk⟩:=run_append_own_at (P:=Tryz.prog) (w.alloc (.cells #[.int .i64 k,.int .i64 m,.string s,.slice a n c] 189)) B 90 90 189 i0 _ 4 56 Tryz.underlying90 hi hz0 hz1 hz2 rfl (by decide) V M.length (flatRp M) oA ⟨w.heap.size,0,none⟩ 1 1 [.int .i64 k,.int .i64 m,.string s,.slice a n c] rfl (fun j u hj=>by
  rw [Addr.add_lit,Nat.zero_add];exact ((RowAt.new w 189 #[.int .i64 k,.int .i64 m,.string s,.slice a n c]).cell j).trans (by simpa using hj)) (fun u hu=>by simp at hu;rcases hu with rfl|rfl|rfl|rfl<;>rfl) (by unfold maxLen;omega) (by omega) (by simp;omega)
 refine ⟨v',w',hrun,?_,below_own (Below.refl _ w) hB h hg,?_⟩
 ·have e:flatRp (M++ [⟨⟨k,m,s,ks⟩,.slice a n c⟩])=flatRp M++ [.int .i64 k,.int .i64 m,.string s,.slice a n c]:=by unfold flatRp;rw [List.flatMap_append];rfl
  unfold OwnRp;rw [List.length_append,e];exact hown
 ·have hs:(w.alloc (.cells #[.int .i64 k,.int .i64 m,.string s,.slice a n c] 189)).heap.size=w.heap.size+1:=by simp
  have h2:=hg.size;exact ⟨hg.os,hg.tape,hg.output,by omega,fun k hk hr=> (hg.block k (by omega) hr).trans (Below.heap_alloc _ _ _ (by omega))⟩
theorem app_kid {w:World} {B:Nat} {V:Value} {ks:List Nat} (k:Nat) (h:OwnKid w B V ks) (hn:ks.length≤1048577) (hB:B≤w.heap.size):
  ∃v' w',(Builtin.append_ #[98,98] 98 #[V,.slice (some ⟨w.heap.size,0,none⟩) 1 1]).run Tryz.prog (w.alloc (.cells #[.int .i64 (k:Int)] 2))= .ok v' w'∧OwnKid w' B v' (ks++ [k])∧Below B w w'∧w.grownBy w' V.ownBlock:=by
 obtain ⟨i0,hi,hz0,hz1,hz2⟩:=info_parts info2n;have hbl:Below w.heap.size w (w.alloc (.cells #[.int .i64 (k:Int)] 2)):=(Below.refl _ w).alloc (Nat.le_refl _) _;have oA:=zaf h hbl
 obtain ⟨v',w',hrun,hown,hg,_,hblk⟩:=run_append_own_at (P:=Tryz.prog) (w.alloc (.cells #[.int .i64 (k:Int)] 2)) B 98 98 2 i0 _ 1 8 Tryz.underlying98 hi hz0 hz1 hz2 rfl (by decide) V ks.length (kidV ks) oA ⟨w.heap.size,0,none⟩ 1 1 [.int .i64 (k:Int)] rfl (fun j u hj=>by
  rw [Addr.add_lit,Nat.zero_add];exact ((RowAt.new w 2 #[.int .i64 (k:Int)]).cell j).trans (by simpa using hj)) (fun u hu=>by simp at hu;subst hu;rfl) (by unfold maxLen;omega) (by omega) (by simp;omega)
 refine ⟨v',w',hrun,?_,below_own (Below.refl _ w) hB h hg,?_⟩
 ·have e:kidV (ks++ [k])=kidV ks++ [.int .i64 (k:Int)]:=by unfold kidV;rw [List.map_append];rfl
  unfold OwnKid;rw [List.length_append,e];exact hown
 ·have hs:(w.alloc (.cells #[.int .i64 (k:Int)] 2)).heap.size=w.heap.size+1:=by simp
  have h2:=hg.size;exact ⟨hg.os,hg.tape,hg.output,by omega,fun k hk hr=> (hg.block k (by omega) hr).trans (Below.heap_alloc _ _ _ (by omega))⟩
theorem kept_other {w w':World} {B B':Nat} {e e':TypeId} {size size' n n':Nat} {V V':Value} {xs xs':List Value} (ho:w.ownsRow B e size V n xs) (h':w.ownsRow B' e' size' V' n' xs') (hg:w.grownBy w' V.ownBlock) (hne:e'≠e):w'.ownsRow B' e' size' V' n' xs':=by
 refine h'.kept hg ?_;cases hv:V'.ownBlock with
 |none=>exact .inl rfl
 |some g=>
  refine .inr fun ee=>?_;obtain ⟨C,hC⟩:=own_type h' hv;obtain ⟨D,hD⟩:=own_type ho ee.symm;exact hne (Hp.row_type hC hD)
def bulkV (t:ByteArray):RV:=⟨⟨4,0,t,[]⟩,.slice none 0 0⟩
def rList (T:List ByteArray):List Rp:=T.map (fun t=>⟨4,0,t,[]⟩)++ [⟨6,0,⟨#[]⟩,List.range T.length⟩]
structure ListI (w:World) (v u:Value) (wr:World) (T:List ByteArray) (k:Nat):Prop where
 o1:OwnRp wr w.heap.size v ((T.take k).map bulkV)
 o2:OwnKid wr w.heap.size u (List.range k)
 bel:Below w.heap.size w wr
theorem ListI.start (w:World) (T:List ByteArray):ListI w (.slice (some ⟨w.heap.size,0,none⟩) 0 0) (.slice (some ⟨w.heap.size+1,0,none⟩) 0 0) ((w.alloc (.cells #[] 189)).alloc (.cells #[] 2)) T 0:=by
 have z:(w.alloc (.cells #[] 189)).heap.size=w.heap.size+1:=by simp
 have b1:Below (w.alloc (.cells #[] 189)).heap.size (w.alloc (.cells #[] 189)) ((w.alloc (.cells #[] 189)).alloc (.cells #[] 2)):=(Below.refl _ _).alloc (Nat.le_refl _) _;refine ⟨empty_own ((RowAt.new w 189 #[]).below b1 (by omega)) (Nat.le_refl _),?_,((Below.refl _ w).alloc (Nat.le_refl _) _).alloc (by omega) _⟩;have:=RowAt.new (w.alloc (.cells #[] 189)) 2 #[];rw [z] at this;exact empty_own this (by omega)
theorem ListI.next {w wr:World} {v u:Value} {T:List ByteArray} {k:Nat} (h:ListI w v u wr T k) (hk:k<T.length) (hn:T.length≤1048576):
  ∃v' w1,(Builtin.append_ #[90,90] 90 #[v,.slice (some ⟨wr.heap.size,0,none⟩) 1 1]).run Tryz.prog (wr.alloc (.cells #[.int .i64 4,.int .i64 0,.string (T.getD k ByteArray.empty),.slice none 0 0] 189))= .ok v' w1∧
  ∃u' w2,(Builtin.append_ #[98,98] 98 #[u,.slice (some ⟨w1.heap.size,0,none⟩) 1 1]).run Tryz.prog (w1.alloc (.cells #[.int .i64 (k:Int)] 2))= .ok u' w2∧ListI w v' u' w2 T (k+1):=by
 have hl:((T.take k).map bulkV).length≤1048577:=by simp;omega
 obtain ⟨v',w1,r1,o1,b1,g1⟩:=app_rp 4 0 (T.getD k ByteArray.empty) [] none 0 0 h.o1 hl h.bel.size;have k1:=kept_other h.o1 h.o2 g1 (by decide);obtain ⟨u',w2,r2,o2,b2,g2⟩:=app_kid k k1 (by simp;omega) (Nat.le_trans h.bel.size b1.size);refine ⟨v',w1,r1,u',w2,r2,?_,?_,(h.bel.trans b1).trans b2⟩
 ·have:=kept_other k1 o1 g2 (by decide);rw [List.take_succ_eq_append_getElem hk,List.map_append];rw [show T.getD k ByteArray.empty=T[k] by rw [List.getD_eq_getElem?_getD,List.getElem?_eq_getElem hk];rfl] at this;exact this
 ·rw [List.range_succ];exact o2
theorem ListI.last {w wr:World} {v:Value} {a:Option Addr} {n c:Nat} {T:List ByteArray} (h:ListI w v (.slice a n c) wr T T.length) (hn:T.length≤1048576):
  ∃v' w1,(Builtin.append_ #[90,90] 90 #[v,.slice (some ⟨wr.heap.size,0,none⟩) 1 1]).run Tryz.prog (wr.alloc (.cells #[.int .i64 6,.int .i64 0,.string ⟨#[]⟩,.slice a n c] 189))= .ok v' w1∧zci w (rList T) (.returned v') w1:=by
 have hl:((T.take T.length).map bulkV).length≤1048577:=by simp;omega
 obtain ⟨v',w1,r1,o1,b1,g1⟩:=app_rp 6 0 ⟨#[]⟩ (List.range T.length) a n c h.o1 hl h.bel.size;have k1:=kept_other h.o1 h.o2 g1 (by decide);refine ⟨v',w1,r1,v',rfl,⟨_,?_,o1,fun x hx=>?_⟩,h.bel.trans b1⟩
 ·rw [List.map_append,List.take_length,List.map_map];rfl
 ·rcases List.mem_append.1 hx with hx|hx
  ·obtain ⟨t,_,rfl⟩:=List.mem_map.1 hx;exact World.ownsRow_nil _ _ _ _
  ·rcases List.mem_singleton.1 hx with rfl;exact k1
theorem list_any (a:Option Addr) (b o n c:Nat) (T:List ByteArray) (w:World) (h:zdg w a b o n T) (hn:n≤1048576):
  Calls Tryz.prog 120 #[.slice a n c] w (zci w (rList T)):=by
 have H:Hid (zdg w a b o n T):=h;have HL:Hid (T.length=n):=h.len;have HS:Hid (ListI w _ _ _ T 0):=ListI.start w T;clear h;go_enter Tryz.func120,Tryz.ntmps120;go_wp2;go_loopw [3,4,5] (fun v u i wr=>∃k:Nat,k≤n∧i= .int .i64 k∧Hid (ListI w v u wr T k)) (fun _ _ i _=>n-(intOf i).toNat)
 case atStart=>exact ⟨0,by omega,rfl,HS⟩
 case round=>
  obtain ⟨k,hk,rfl,hI⟩:=hrel;clear HS;by_cases hlt:k<n
  ·have c0:=(zdb H.out hI.out.bel).cell k hlt;obtain rfl:=H.out.addr (by omega);obtain ⟨v',w1,r1,u',w2,r2,hI2⟩:=hI.out.next (by rw [HL.out];exact hlt) (by rw [HL.out];exact hn);have R1:Hid _:=r1;have R2:Hid _:=r2;have HI2:Hid _:=hI2;clear r1 r2 hI2 hI;generalize T.getD k ByteArray.empty=x at*;go_wp2_with (first|(at_builtin;refine wpList_append_run rfl _ _ 90 rfl rfl rfl R1.out ?_)|(at_builtin;refine wpList_append_run rfl _ _ 98 rfl rfl rfl R2.out ?_));exact ⟨⟨k+1,by omega,by go_num,HI2⟩,by simp [intOf];omega⟩
  ·obtain rfl:k=n:=by omega
   obtain ⟨a',c',e4⟩:=zad hI.out.o2;subst e4;have hI':ListI w u3 (.slice a' (List.range k).length c') wr T T.length:=by rw [HL.out];exact hI.out
   obtain ⟨v',w1,r1,hE⟩:=hI'.last (by rw [HL.out];exact hn);have R1:Hid _:=r1;have HE:Hid (zci w (rList T) (.returned v') w1):=hE;clear r1 hE hI hI';generalize (List.range k).length=m at*;go_wp2_with (at_builtin;refine wpList_append_run rfl _ _ 90 rfl rfl rfl R1.out ?_);go_ret;exact HE.out
def sPONG:ByteArray:=⟨#[80,79,78,71]⟩
def sOK:ByteArray:=⟨#[79,75]⟩
def delStep (dl:Bool) (s:List Ke×Nat) (t:ByteArray):List Ke×Nat:=if findK s.1 t 0<0 then s else (if dl=true then goneK s.1 t else s.1,s.2+1)
def delM (dl:Bool) (ks:List Ke) (T:List ByteArray):List Ke×Nat:=T.foldl (delStep dl) (ks,0)
def manyM (c:Cm) (ks:List Ke) (T:List ByteArray):List Ke×List Rp:=match c with
 |0=> (ks,if T.length=0 then rSimple sPONG else rBulk (T.getD 0 ByteArray.empty))
 |4=> (ks,rBulk (T.getD 0 ByteArray.empty))
 |2=> ([],rSimple sOK)
 |3=> (ks,rInt ks.length)
 |1=> (ks,rList (ks.map Ke.name))
 |27=> ((delM true ks T).1,rInt (delM true ks T).2)
 |_=> (ks,rInt (delM false ks T).2)
theorem many_PING0 (B:Nat) (v:Value) (L:List KV) (aa:Option Addr) (ac:Nat) (w:World) (h:DbOwn w B v L) (hB:B≤w.heap.size):
  Calls Tryz.prog 90 #[v,.string ⟨#[80,73,78,71]⟩,.slice aa 0 ac] w (zbd w B (L.map KV.key,rSimple sPONG)):=by
 have HR:Hid (∀W,Calls Tryz.prog 117 #[.string ⟨#[80,79,78,71]⟩] W (zci W (rSimple sPONG))):=fun W=>simple_any sPONG W;have HE:Hid (∀r w2,zbe w2 w.heap.size r (rSimple sPONG)→Below w.heap.size w w2→zbd w B (L.map KV.key,rSimple sPONG) (.returned (.tuple #[v,r])) w2):=fun r w2 h1 h2=>zbd.same h hB (Below.refl _ _) h1 h2;clear h;go_enter Tryz.func90,Tryz.ntmps90;go_wp2_with fail;refine (HR.out _).mono ?_;rintro e w1 ⟨r,rfl,hr,hb⟩;have HF:Hid _:=HE.out r w1 hr hb;clear hr hb HE HR;go_wp2;go_ret2;exact HF.out
theorem many_PING1 (B:Nat) (v:Value) (L:List KV) (aa:Option Addr) (ab ao m ac:Nat) (T:List ByteArray) (w:World) (h:DbOwn w B v L) (ha:zdg w aa ab ao m T) (hm:0<m) (hm2:m≤1048576) (hB:B≤w.heap.size):
  Calls Tryz.prog 90 #[v,.string ⟨#[80,73,78,71]⟩,.slice aa m ac] w (zbd w B (L.map KV.key,rBulk (T.getD 0 ByteArray.empty))):=by
 have c0:=ha.cell 0 hm;obtain rfl:=ha.addr hm;rw [Nat.add_zero] at c0;have HR:Hid (∀W s,Calls Tryz.prog 118 #[.string s] W (zci W (rBulk s))):=fun W s=>bulk_any s W;have HE:Hid (∀s r w2,zbe w2 w.heap.size r (rBulk s)→Below w.heap.size w w2→zbd w B (L.map KV.key,rBulk s) (.returned (.tuple #[v,r])) w2):=fun s r w2 h1 h2=>zbd.same h hB (Below.refl _ _) h1 h2;have hm3:((m:Int)==0)=false:=by simp;omega
 clear h ha;generalize T.getD 0 ByteArray.empty=t at*;go_enter Tryz.func90,Tryz.ntmps90;go_wp2_with fail;refine (HR.out _ _).mono ?_;rintro e w1 ⟨r,rfl,hr,hb⟩;have HF:Hid _:=HE.out t r w1 hr hb;clear hr hb HE HR;go_wp2;go_ret2;exact HF.out
theorem many_ECHO (B:Nat) (v:Value) (L:List KV) (aa:Option Addr) (ab ao m ac:Nat) (T:List ByteArray) (w:World) (h:DbOwn w B v L) (ha:zdg w aa ab ao m T) (hm:0<m) (hB:B≤w.heap.size):
  Calls Tryz.prog 90 #[v,.string ⟨#[69,67,72,79]⟩,.slice aa m ac] w (zbd w B (L.map KV.key,rBulk (T.getD 0 ByteArray.empty))):=by
 have c0:=ha.cell 0 hm;obtain rfl:=ha.addr hm;rw [Nat.add_zero] at c0;have HR:Hid (∀W s,Calls Tryz.prog 118 #[.string s] W (zci W (rBulk s))):=fun W s=>bulk_any s W;have HE:Hid (∀s r w2,zbe w2 w.heap.size r (rBulk s)→Below w.heap.size w w2→zbd w B (L.map KV.key,rBulk s) (.returned (.tuple #[v,r])) w2):=fun s r w2 h1 h2=>zbd.same h hB (Below.refl _ _) h1 h2;clear h ha;generalize T.getD 0 ByteArray.empty=t at*;go_enter Tryz.func90,Tryz.ntmps90;go_wp2_with fail;refine (HR.out _ _).mono ?_;rintro e w1 ⟨r,rfl,hr,hb⟩;have HF:Hid _:=HE.out t r w1 hr hb;clear hr hb HE HR;go_wp2;go_ret2;exact HF.out
theorem many_DBSIZE (B:Nat) (v:Value) (L:List KV) (aa:Option Addr) (m ac:Nat) (w:World) (h:DbOwn w B v L) (hB:B≤w.heap.size):
  Calls Tryz.prog 90 #[v,.string ⟨#[68,66,83,73,90,69]⟩,.slice aa m ac] w (zbd w B (L.map KV.key,rInt (L.map KV.key).length)):=by
 obtain ⟨a,A,c,e,_⟩:=h.at;subst e;rw [List.length_map];have HR:Hid (∀W n,Calls Tryz.prog 119 #[.int .i64 n] W (zci W (rInt n))):=fun W s=>int_any s W;have HE:Hid (∀s r w2,zbe w2 w.heap.size r (rInt s)→Below w.heap.size w w2→zbd w B (L.map KV.key,rInt s) (.returned (.tuple #[.slice a L.length c,r])) w2):=fun s r w2 h1 h2=>zbd.same h hB (Below.refl _ _) h1 h2;clear h;generalize L.length=ln at*;go_enter Tryz.func90,Tryz.ntmps90;go_wp2_with fail;refine (HR.out _ _).mono ?_;rintro e w1 ⟨r,rfl,hr,hb⟩;have HF:Hid _:=HE.out _ r w1 hr hb;clear hr hb HE HR;go_wp2;go_ret2;exact HF.out
theorem many_FLUSHALL (B:Nat) (v:Value) (aa:Option Addr) (m ac:Nat) (w:World) (hB:B≤w.heap.size):
  Calls Tryz.prog 90 #[v,.string ⟨#[70,76,85,83,72,65,76,76]⟩,.slice aa m ac] w (zbd w B ([],rSimple sOK)):=by
 have HR:Hid (∀W,Calls Tryz.prog 117 #[.string ⟨#[79,75]⟩] W (zci W (rSimple sOK))):=fun W=>simple_any sOK W;have b0:Below w.heap.size w (w.alloc (.cells #[] 65)):=(Below.refl _ w).alloc (Nat.le_refl _) _;have HE:Hid (∀r w2,zbe w2 (w.alloc (.cells #[] 65)).heap.size r (rSimple sOK)→Below (w.alloc (.cells #[] 65)).heap.size (w.alloc (.cells #[] 65)) w2→zbd w B ([],rSimple sOK) (.returned (.tuple #[.slice (some ⟨w.heap.size,0,none⟩) 0 0,r])) w2):=fun r w2 h1 h2=>⟨_,r,[],rfl,rfl,((BuildI.empty w).db.below h2).le hB,h1.le (Nat.le_trans hB b0.size),b0.trans (h2.mono b0.size)⟩;clear b0;go_enter Tryz.func90,Tryz.ntmps90;go_wp2_with fail;refine (HR.out _).mono ?_;rintro e w1 ⟨r,rfl,hr,hb⟩;have HF:Hid _:=HE.out r w1 hr hb;clear hr hb HE HR;go_wp2;go_ret2;exact HF.out
end Go.Proofs.YtjpeglkkkllagaaGreatDoor
