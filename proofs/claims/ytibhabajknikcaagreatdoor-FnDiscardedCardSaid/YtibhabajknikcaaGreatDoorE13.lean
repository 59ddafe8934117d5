import Derived.Test.YtibhabajknikcaaGreatDoorC42
set_option maxHeartbeats 4000000
set_option maxRecDepth 100000
namespace Go.Proofs.YtibhabajknikcaaGreatDoor.Er
open Go.RowKit
def KeepK (ks:List Ke):Prop:=ks.length≤20∧∀k∈ks,keyB k=true
theorem st_count (k:Ke):∀(ks:List Ke) (s:List Ke×Bool),(ks.foldl (stStep k) s).1.length+(bif (ks.foldl (stStep k) s).2 then 0 else 1)=s.1.length+(goneK ks k.name).length+(bif s.2 then 0 else 1)
 | [],s=>rfl
 |x::ks,(o,b)=>by
  rw [List.foldl_cons,st_count k ks];unfold stStep goneK;by_cases h:x.name=k.name
  ·rw [if_pos h,List.filter_cons_of_neg (by simp [h])];cases b<;>cases hg:geB x k<;>simp;omega
  ·rw [if_neg h,List.filter_cons_of_pos (by simp [h])];cases b<;>cases hg:geB x k<;>simp<;>omega
theorem stored_count (ks:List Ke) (k:Ke):(storedK ks k).length=(goneK ks k.name).length+1:=by
 have h:=st_count k ks ([],false);unfold storedK stS;cases hb:(ks.foldl (stStep k) ([],false)).2 with
 |true=>
  rw [hb] at h;rw [if_pos rfl];simpa using h
 |false=>
  rw [hb] at h;rw [if_neg (by simp),List.length_append];simpa using h
theorem gone_less {ks:List Ke} {k:Ke} (h:k∈ks):(goneK ks k.name).length+1≤ks.length:=by
 unfold goneK;induction ks with
 |nil=>cases h
 |cons x ks ih=>
  by_cases hx:x.name=k.name
  ·rw [List.filter_cons_of_neg (by simp [hx])];have:=List.length_filter_le (fun k':Ke=>!decide (k'.name=k.name)) ks;simp only [List.length_cons];omega
  ·rw [List.filter_cons_of_pos (by simp [hx])];rcases List.mem_cons.1 h with e|e
   ·exact absurd (by rw [e]) hx
   ·have:=ih e;simp only [List.length_cons];omega
theorem KeepK.gone {ks:List Ke} (h:KeepK ks) (nm:ByteArray):KeepK (goneK ks nm):=⟨Nat.le_trans (List.length_filter_le _ _) h.1,fun k hk=>h.2 k (List.mem_filter.1 hk).1⟩
theorem set_keep {ks:List Ke} {k:Ke} {R:List Rp} (h:KeepK ks):KeepK (setM ks k R).1:=by
 unfold setM;split
 ·exact h.gone _
 ·split
  ·rename_i h2;exact dbOk_key h2
  ·exact h
theorem stored_keep {ks:List Ke} {k:Ke} {d:Int} (h:KeepK ks) (hk:k∈ks) (h0:0≤d) (h1:d≤1000000000):KeepK (storedK ks (k.withDue d)):=by
 refine ⟨?_,fun y hy=>?_⟩
 ·rw [stored_count];have:=gone_less hk;have:=h.1;show (goneK ks k.name).length+1≤20;omega
 ·rcases stored_mem hy with q|q
  ·exact h.2 y q
  ·subst q;have:=h.2 k hk;unfold keyB timeB at this ⊢;simp only [Bool.and_eq_true,decide_eq_true_eq] at this ⊢;exact ⟨this.1,this.2.1,h0,h1⟩
theorem del_keep:∀(T:List ByteArray) (s:List Ke×Nat),KeepK s.1→KeepK (T.foldl (delStep true) s).1
 | [],_,h=>h
 |t::T,s,h=>by
  rw [List.foldl_cons];refine del_keep T _ ?_;unfold delStep;split
  ·exact h
  ·exact h.gone t
theorem many_keep {c:Cm} {ks:List Ke} {T:List ByteArray} (h:KeepK ks):KeepK (manyM c ks T).1:=by
 cases c using Cm.elim
 case DEL=>exact del_keep T (ks,0) h
 case FLUSHALL=>exact ⟨Nat.zero_le _,fun k hk=> (by cases hk)⟩
 all_goals exact h
theorem text_keep {c:Cm} {ks:List Ke} {k:Ke} {th:Bool} {T:List ByteArray} (h:KeepK ks):KeepK (textM c ks k th T).1:=by
 unfold textM;split<;>repeat (first|exact h|exact set_keep h|split)
theorem lists_keep {c:Cm} {ks:List Ke} {k:Ke} {th:Bool} {T:List ByteArray} (h:KeepK ks):KeepK (listsM c ks k th T).1:=by
 unfold listsM;split<;>repeat (first|exact h|exact set_keep h|split)
theorem hash_keep {c:Cm} {ks:List Ke} {k:Ke} {T:List ByteArray} (h:KeepK ks):KeepK (hashM c ks k T).1:=by
 unfold hashM;split<;>repeat (first|exact h|exact set_keep h|split)
theorem zset_keep {c:Cm} {ks:List Ke} {k:Ke} {T:List ByteArray} (h:KeepK ks):KeepK (zsetM c ks k T).1:=by
 unfold zsetM;split<;>repeat (first|exact h|exact set_keep h|split)
theorem any_keep {c:Cm} {ks:List Ke} {k:Ke} {th:Bool} {now:Int} {T:List ByteArray} (h:KeepK ks) (h1:k.due≠0→k∈ks) (h2:th=true→k∈ks) (hn:0≤now∧now≤1000000000):KeepK (anyM c ks k th now T).1:=by
 unfold anyM;split<;>repeat (first|exact h|exact set_keep h|exact stored_keep h (h1 (by assumption)) (by omega) (by omega)|exact stored_keep h (h2 (by assumption)) (by omega) (by omega)|exact h.gone _|split)
theorem keyed_keep {c:Cm} {ks:List Ke} {k:Ke} {th:Bool} {now:Int} {T:List ByteArray} (h:KeepK ks) (h1:k.due≠0→k∈ks) (h2:th=true→k∈ks) (hn:0≤now∧now≤1000000000):KeepK (keyedM c ks k th now T).1:=by
 unfold keyedM;split
 ·exact text_keep h
 ·exact lists_keep h
 ·exact hash_keep h
 ·exact zset_keep h
 ·exact any_keep h h1 h2 hn
theorem done_keep {ks:List Ke} {now:Int} {T:List ByteArray} (h:KeepK ks) (hn:0≤now∧now≤1000000000):KeepK (doneM ks now T).1:=by
 unfold doneM;split
 ·exact h
 ·split
  ·split
   ·exact many_keep h
   ·unfold oneM;split
    ·exact keyed_keep h (fun e=>absurd rfl e) (fun e=>by cases e) hn
    ·rename_i hf;split
     ·exact h
     ·have hm:ks.getD (findK ks (argN T.tail 0) 0).toNat ke0∈ks:=by
       rcases find_cases ks (argN T.tail 0) 0 with e|⟨i,hi,e⟩
       ·exact absurd (by rw [e];decide) hf
       ·rw [e,Int.toNat_natCast,Nat.zero_add,List.getD_eq_getElem?_getD,List.getElem?_eq_getElem hi];exact List.getElem_mem hi
      exact keyed_keep h (fun _=>hm) (fun _=>hm) hn
  ·exact h
theorem alive_keep {ks:List Ke} {now:Int} (h:KeepK ks):KeepK (aliveK ks now):=⟨Nat.le_trans (List.length_filter_le _ _) h.1,fun k hk=>h.2 k (List.mem_filter.1 hk).1⟩
theorem KeepK.fits {ks:List Ke} (h:KeepK ks):FitsK ks:=fun k hk=> (ksml_of (h.2 k hk)).fit
end Go.Proofs.YtibhabajknikcaaGreatDoor.Er
namespace Go.Proofs.YtibhabajknikcaaGreatDoor.Er
open Go.RowKit
def RpS (R:List Rp):Prop:=1≤R.length∧R.length≤41∧∀x∈R,x.kids.length≤41∧∀k∈x.kids,k≤41
theorem one_rp (k n:Int) (s:ByteArray):RpS [⟨k,n,s,[]⟩]:=⟨Nat.le_refl _,by simp,fun x hx=>by
 rw [List.mem_singleton] at hx;subst hx;exact ⟨Nat.zero_le _,fun k hk=>by cases hk⟩⟩
theorem list_rp (T:List ByteArray) (h:T.length≤40):RpS (rList T):=by
 unfold rList;refine ⟨by simp,by simp;omega,fun x hx=>?_⟩;rcases List.mem_append.1 hx with e|e
 ·obtain ⟨t,_,rfl⟩:=List.mem_map.1 e;exact ⟨Nat.zero_le _,fun k hk=>by cases hk⟩
 ·rw [List.mem_singleton] at e;subst e;refine ⟨by simp;omega,fun k hk=>?_⟩;have:=List.mem_range.1 hk;omega
theorem set_rp {ks:List Ke} {k:Ke} {R:List Rp} (h:RpS R):RpS (setM ks k R).2:=by
 unfold setM;split
 ·exact h
 ·split
  ·exact h
  ·exact one_rp _ _ _
theorem many_rp {c:Cm} {ks:List Ke} {T:List ByteArray} (h:ks.length≤20):RpS (manyM c ks T).2:=by
 cases c using Cm.elim
 case PING=>
  show RpS (if T.length=0 then rSimple sPONG else rBulk (T.getD 0 ByteArray.empty));split<;>exact one_rp _ _ _
 case KEYS=>exact list_rp _ (by rw [List.length_map];omega)
 all_goals exact one_rp _ _ _
theorem text_rp {c:Cm} {ks:List Ke} {k:Ke} {th:Bool} {T:List ByteArray}:RpS (textM c ks k th T).2:=by
 unfold textM;split<;>repeat (first|exact one_rp _ _ _|exact set_rp (one_rp _ _ _)|split)
theorem lists_rp {c:Cm} {ks:List Ke} {k:Ke} {th:Bool} {T:List ByteArray} (h:KSml k):RpS (listsM c ks k th T).2:=by
 have hi:∀f l,(itemsM k.val.items f l).length≤40:=fun f l=>by
  have:=h.ni;unfold itemsM;rw [List.length_drop,List.length_take];omega
 unfold listsM;split<;>repeat (first|exact one_rp _ _ _|exact set_rp (one_rp _ _ _)|exact list_rp _ (hi _ _)|split)
theorem hash_rp {c:Cm} {ks:List Ke} {k:Ke} {T:List ByteArray} (h:KSml k):RpS (hashM c ks k T).2:=by
 have hi:(flatP k.val.pairs).length≤40:=by
  have:=h.np;rw [flatP_len];omega
 unfold hashM;split<;>repeat (first|exact one_rp _ _ _|exact set_rp (one_rp _ _ _)|exact list_rp _ hi|split)
theorem zset_rp {c:Cm} {ks:List Ke} {k:Ke} {T:List ByteArray} (h:KSml k):RpS (zsetM c ks k T).2:=by
 have hi:∀f l,(ranksIn k.val.ranks f l).length≤40:=fun f l=>by
  have:=h.nr;unfold ranksIn;rw [List.length_map,List.length_drop,List.length_take];omega
 unfold zsetM;split<;>repeat (first|exact one_rp _ _ _|exact set_rp (one_rp _ _ _)|exact list_rp _ (hi _ _)|split)
theorem any_rp {c:Cm} {ks:List Ke} {k:Ke} {th:Bool} {now:Int} {T:List ByteArray}:RpS (anyM c ks k th now T).2:=by
 unfold anyM;split<;>repeat (first|exact one_rp _ _ _|exact set_rp (one_rp _ _ _)|split)
theorem keyed_rp {c:Cm} {ks:List Ke} {k:Ke} {th:Bool} {now:Int} {T:List ByteArray} (h:KSml k):RpS (keyedM c ks k th now T).2:=by
 unfold keyedM;split
 ·exact text_rp
 ·exact lists_rp h
 ·exact hash_rp h
 ·exact zset_rp h
 ·exact any_rp
theorem new_sml {t:ByteArray} (c:Cm) (h:t.size≤200):KSml (newK t c.kind):=⟨h,by simp [newK];exact Nat.zero_le _,by simp [newK],by simp [newK],by simp [newK],by simp [newK],by simp [newK],by simp [newK],by have:=kind_five c;simp only [newK];omega,by simp [newK]⟩
theorem done_rp {ks:List Ke} {now:Int} {T:List ByteArray} (h:KeepK ks) (hT:∀i,i<T.length→(argN T i).size≤200):RpS (doneM ks now T).2:=by
 unfold doneM;split
 ·exact one_rp _ _ _
 ·split
  ·split
   ·exact many_rp h.1
   ·unfold oneM;split
    ·refine keyed_rp (new_sml _ ?_);rw [tail_arg];by_cases h1:1<T.length
     ·exact hT (0+1) h1
     ·unfold argN;rw [List.getD_eq_getElem?_getD,List.getElem?_eq_none (by omega)];exact Nat.zero_le _
    ·rename_i hf;split
     ·exact one_rp _ _ _
     ·refine keyed_rp (ksml_of (h.2 _ ?_));rcases find_cases ks (argN T.tail 0) 0 with e|⟨i,hi,e⟩
      ·exact absurd (by rw [e];decide) hf
      ·rw [e,Int.toNat_natCast,Nat.zero_add,List.getD_eq_getElem?_getD,List.getElem?_eq_getElem hi];exact List.getElem_mem hi
  ·exact one_rp _ _ _
def shiftR (b:Nat) (x:Rp):Rp:=⟨x.kind,x.n,x.s,x.kids.map (· +b)⟩
def exStep (now:Int) (s:List Ke×List Rp×List Nat) (T:List ByteArray):List Ke×List Rp×List Nat:=
 ((doneM s.1 now T).1,s.2.1++(doneM s.1 now T).2.map (shiftR s.2.1.length),s.2.2++ [s.2.1.length+(doneM s.1 now T).2.length-1])
def exS (ks:List Ke) (now:Int) (Q:List (List ByteArray)):List Ke×List Rp×List Nat:=Q.foldl (exStep now) (ks,[],[])
def execM (ks:List Ke) (now:Int) (Q:List (List ByteArray)):List Ke×List Rp:=((exS ks now Q).1,(exS ks now Q).2.1++ [⟨6,0,⟨#[]⟩,(exS ks now Q).2.2⟩])
theorem ex_next (ks:List Ke) (now:Int) (Q:List (List ByteArray)) (k:Nat) (h:k<Q.length):exS ks now (Q.take (k+1))=exStep now (exS ks now (Q.take k)) Q[k]:=by
 unfold exS;rw [List.take_succ_eq_append_getElem h,List.foldl_append];rfl
def QOk (Q:List (List ByteArray)):Prop:=Q.length≤16∧∀T∈Q,1≤T.length∧T.length≤16∧∀t∈T,t.size≤200
theorem QOk.arg {Q:List (List ByteArray)} (h:QOk Q) {T:List ByteArray} (hT:T∈Q) (i:Nat) (hi:i<T.length):(argN T i).size≤200:=by
 unfold argN;rw [List.getD_eq_getElem?_getD,List.getElem?_eq_getElem hi];exact (h.2 T hT).2.2 _ (List.getElem_mem hi)
theorem ex_ok {ks:List Ke} {now:Int} {Q:List (List ByteArray)} (h:KeepK ks) (hn:0≤now∧now≤1000000000) (hQ:QOk Q):∀k,k≤Q.length→KeepK (exS ks now (Q.take k)).1∧(exS ks now (Q.take k)).2.1.length≤41*k∧(exS ks now (Q.take k)).2.2.length=k
 |0,_=>⟨h,Nat.le_refl _,rfl⟩
 |k+1,hk=>by
  obtain ⟨h1,h2,h3⟩:=ex_ok h hn hQ k (by omega);rw [ex_next ks now Q k (by omega)];have hr:=done_rp (now:=now) h1 (hQ.arg (List.getElem_mem (show k<Q.length by omega)));refine ⟨done_keep h1 hn,?_,?_⟩
  ·simp only [exStep,List.length_append,List.length_map];have:=hr.2.1;omega
  ·simp only [exStep,List.length_append,List.length_singleton,h3]
def Apart (x y:Value):Prop:=∀g,x.ownBlock=some g→y.ownBlock≠some g
theorem kept_apart {w w':World} {B' n' size':Nat} {e':TypeId} {V V':Value} {xs':List Value} (h':w.ownsRow B' e' size' V' n' xs') (hg:w.grownBy w' V.ownBlock) (ha:Apart V' V):w'.ownsRow B' e' size' V' n' xs':=by
 refine h'.kept hg ?_;cases hv:V'.ownBlock with
 |none=>exact .inl rfl
 |some g=>exact .inr fun e=>ha g hv e.symm
theorem rp_at:∀(M:List RV) (i j:Nat) (hi:i<M.length),j<4→(flatRp M)[i*4+j]?=(rvC M[i])[j]?
 | [],i,j,h,_=>by simp at h
 |x::M,0,j,_,hj=>by
  rw [show flatRp (x::M)=rvC x++flatRp M from rfl,List.getElem?_append_left (by simp [rvC];omega)];simp
 |x::M,i+1,j,h,hj=>by
  rw [show flatRp (x::M)=rvC x++flatRp M from rfl,List.getElem?_append_right (by simp [rvC];omega)];have:=rp_at M i j (by simpa using h) hj;rw [show (i+1)*4+j-(rvC x).length=i*4+j from by simp [rvC];omega,this];simp
theorem rp_cells {w:World} {B:Nat} {v:Value} {M:List RV} (h:OwnRp w B v M) (i:Nat) (hi:i<M.length):∃g c,v= .slice (some ⟨g,0,none⟩) M.length c∧B≤g∧g<w.heap.size∧w.cell? ⟨g,i*4,none⟩=some (.int .i64 (M[i]).r.kind)∧w.cell? ⟨g,i*4+1,none⟩=some (.int .i64 (M[i]).r.n)∧w.cell? ⟨g,i*4+2,none⟩=some (.string (M[i]).r.s)∧w.cell? ⟨g,i*4+3,none⟩=some (M[i]).kv:=by
 obtain ⟨hxl,⟨_,h0⟩|⟨g,cap,cur,rfl,hg,hh,hcap,hmax,hcs,htk⟩⟩:=h
 ·omega
 ·have hr:RowAt w g 53 cur:=hh;have e:∀j,j<4→w.cell? ⟨g,i*4+j,none⟩=(rvC M[i])[j]?:=fun j hj=>by
   rw [hr.cell,←rp_at M i j hi hj,←htk,List.getElem?_take,if_pos (by omega),Array.getElem?_toList]
  exact ⟨g,cap,rfl,hg,(Array.getElem?_eq_some_iff.1 hh).1,e 0 (by omega),e 1 (by omega),e 2 (by omega),e 3 (by omega)⟩
theorem kid_cells {w:World} {B:Nat} {v:Value} {ks:List Nat} (h:OwnKid w B v ks):∃a g c,v= .slice a ks.length c∧(0<ks.length→a=some ⟨g,0,none⟩∧B≤g∧g<w.heap.size)∧∀i (hi:i<ks.length),w.cell? ⟨g,i,none⟩=some (.int .i64 ((ks[i]:Nat):Int)):=by
 obtain ⟨hxl,⟨rfl,h0⟩|⟨g,cap,cur,rfl,hg,hh,hcap,hmax,hcs,htk⟩⟩:=h
 ·exact ⟨none,0,0,by rw [h0],fun h=>by omega,fun i hi=>by omega⟩
 ·have hr:RowAt w g 2 cur:=hh;refine ⟨_,g,cap,rfl,fun _=>⟨rfl,hg,(Array.getElem?_eq_some_iff.1 hh).1⟩,fun i hi=>?_⟩;have e:(kidV ks)[i]?=some (.int .i64 ((ks[i]:Nat):Int)):=by
   unfold kidV;rw [List.getElem?_map,List.getElem?_eq_getElem hi];rfl
  rw [hr.cell,←e,←htk,List.getElem?_take,if_pos (by omega),Array.getElem?_toList]
theorem dbown_grown {W W':World} {B B' e size n:Nat} {v V:Value} {L:List KV} {xs:List Value} (h:DbOwn W B v L) (ho:W.ownsRow B' e size V n xs) (hg:W.grownBy W' V.ownBlock) (h1:60≠e) (h2:9≠e) (h3:100≠e) (h4:102≠e):DbOwn W' B v L:=by
 obtain ⟨β,q⟩:=h.vals;refine ⟨kept_other ho h.row hg h1,β,q.low,q.mono,Nat.le_trans q.top hg.size,fun i hi=>?_,q.lt1,q.lt2,q.lt3⟩;have hq:=q.own i hi;exact ⟨kept_other ho hq.items hg h2,kept_other ho hq.pairs hg h3,kept_other ho hq.ranks hg h4⟩
theorem row_grown {W W':World} {B' e size n g:Nat} {V:Value} {T:TypeId} {C:Array Value} {xs:List Value} (h:RowAt W g T C) (ho:W.ownsRow B' e size V n xs) (hg:W.grownBy W' V.ownBlock) (h1:T≠e):RowAt W' g T C:=
 (hg.block g h.lt (Hp.own_ne ho h h1)).trans h
end Go.Proofs.YtibhabajknikcaaGreatDoor.Er
namespace Go.Proofs.YtibhabajknikcaaGreatDoor.Er
open Go.RowKit
structure ExI (w:World) (B:Nat) (v V U:Value) (wr:World) (ks:List Ke) (out:List Rp) (kids:List Nat):Prop where
 db:∃L,DbOwn wr B v L∧L.map KV.key=ks
 rp:∃M,M.map RV.r=out∧OwnRp wr w.heap.size V M∧∀x∈M,OwnKid wr w.heap.size x.kv x.r.kids∧Apart x.kv U
 kd:OwnKid wr w.heap.size U kids
 bel:Below w.heap.size w wr
structure ExJ (w:World) (B N:Nat) (v V U r:Value) (wr:World) (ks:List Ke) (R out:List Rp) (kids:List Nat) (j:Nat):Prop where
 db:∃L,DbOwn wr B v L∧L.map KV.key=ks
 rep:zbe wr N r R
 rp:∃M,M.map RV.r=out++(R.take j).map (shiftR out.length)∧OwnRp wr w.heap.size V M∧∀x∈M,OwnKid wr w.heap.size x.kv x.r.kids∧Apart x.kv U
 kd:OwnKid wr w.heap.size U kids
 ap:Apart V r
 bel:Below w.heap.size w wr
theorem ExI.form {w:World} {B:Nat} {v V U:Value} {wr:World} {ks:List Ke} {out:List Rp} {kids:List Nat} (h:ExI w B v V U wr ks out kids):∃a c,V= .slice a out.length c:=by
 obtain ⟨M,e,o,_⟩:=h.rp;obtain ⟨a,c,e2⟩:=zad o;exact ⟨a,c,by rw [e2,←e,List.length_map]⟩
theorem ExJ.form {w:World} {B N:Nat} {v V U r:Value} {wr:World} {ks:List Ke} {R out:List Rp} {kids:List Nat} {j:Nat} (h:ExJ w B N v V U r wr ks R out kids j) (hj:j≤R.length):∃a c,V= .slice a (out.length+j) c:=by
 obtain ⟨M,e,o,_⟩:=h.rp;obtain ⟨a,c,e2⟩:=zad o;have:M.length=out.length+j:=by
  have:=congrArg List.length e;simp only [List.length_map,List.length_append,List.length_take] at this;omega
 exact ⟨a,c,by rw [e2,this]⟩
theorem ExI.start {w W:World} {B:Nat} {v:Value} {L:List KV} {C:Array Value} (h:DbOwn w B v L) (hW:((w.alloc (.cells C 27)).alloc (.cells #[] 53)).alloc (.cells #[] 2)=W):
  ExI w B v (.slice (some ⟨w.heap.size+1,0,none⟩) 0 0) (.slice (some ⟨w.heap.size+2,0,none⟩) 0 0) W (L.map KV.key) [] []:=by
 have b1:Below w.heap.size w (w.alloc (.cells C 27)):=(Below.refl _ w).alloc (Nat.le_refl _) _;have z1:(w.alloc (.cells C 27)).heap.size=w.heap.size+1:=by simp
 have b2:Below (w.alloc (.cells C 27)).heap.size (w.alloc (.cells C 27)) ((w.alloc (.cells C 27)).alloc (.cells #[] 53)):=(Below.refl _ _).alloc (Nat.le_refl _) _;have z2:((w.alloc (.cells C 27)).alloc (.cells #[] 53)).heap.size=w.heap.size+2:=by simp
 have b3:Below ((w.alloc (.cells C 27)).alloc (.cells #[] 53)).heap.size ((w.alloc (.cells C 27)).alloc (.cells #[] 53)) W:=by
  rw [←hW];exact (Below.refl _ _).alloc (Nat.le_refl _) _
 have bw:Below w.heap.size w W:=(b1.trans (b2.mono b1.size)).trans (b3.mono (by omega));have r1:RowAt W (w.heap.size+1) 53 #[]:=by
  have:=RowAt.new (w.alloc (.cells C 27)) 53 #[];rw [z1] at this;exact this.below b3 (by omega)
 have r2:RowAt W (w.heap.size+2) 2 #[]:=by
  have:=RowAt.new ((w.alloc (.cells C 27)).alloc (.cells #[] 53)) 2 #[];rw [z2,hW] at this;exact this
 exact ⟨⟨L,h.below bw,rfl⟩,⟨[],rfl,empty_own r1 (by omega),fun x hx=>by cases hx⟩,empty_own r2 (by omega),bw⟩
theorem ExI.call {w w1:World} {B:Nat} {v V U v1 r:Value} {wr:World} {ks ks1:List Ke} {out R:List Rp} {kids:List Nat} {L1:List KV} (h:ExI w B v V U wr ks out kids) (hd:DbOwn w1 B v1 L1) (hk:L1.map KV.key=ks1) (hr:zbe w1 wr.heap.size r R) (hb:Below wr.heap.size wr w1):ExJ w B wr.heap.size v1 V U r w1 ks1 R out kids 0:=by
 obtain ⟨M,e,o,q⟩:=h.rp;refine ⟨⟨L1,hd,hk⟩,hr,⟨M,by simp [e],zaf o hb,fun x hx=>⟨zaf (q x hx).1 hb,(q x hx).2⟩⟩,zaf h.kd hb,fun g hg e2=>?_,h.bel.trans (hb.mono h.bel.size)⟩;obtain ⟨MR,_,oR,_⟩:=hr;have h1:=(own_lt o hg).2;have h2:=(own_lt oR e2).1;omega
theorem ExJ.next {w w3:World} {B N:Nat} {v V U r:Value} {wr:World} {ks:List Ke} {R out:List Rp} {kids:List Nat} {j:Nat} (h:ExJ w B N v V U r wr ks R out kids j) (hj:j<R.length) (hl:out.length+j≤100000) (a:Option Addr) (n c:Nat) (hb:Below wr.heap.size wr w3) (hX:OwnKid w3 wr.heap.size (.slice a n c) ((R[j]).kids.map (· +out.length))):
  ∃V' w4,(Builtin.append_ #[31,31] 31 #[V,.slice (some ⟨w3.heap.size,0,none⟩) 1 1]).run Tryz.prog (w3.alloc (.cells #[.int .i64 (R[j]).kind,.int .i64 (R[j]).n,.string (R[j]).s,.slice a n c] 53))= .ok V' w4∧ExJ w B N v V' U r w4 ks R out kids (j+1)∧∀g T C,T≠53→RowAt wr g T C→RowAt w4 g T C:=by
 obtain ⟨M,e,o,q⟩:=h.rp;have hM:M.length=out.length+j:=by
  have:=congrArg List.length e;simp only [List.length_map,List.length_append,List.length_take] at this;omega
 have o3:=zaf o hb;obtain ⟨V',w4,r1,o4,b4,g4,k4⟩:=app_rp2 (R[j]).kind (R[j]).n (R[j]).s ((R[j]).kids.map (· +out.length)) a n c o3 (by omega) (Nat.le_trans h.bel.size hb.size);obtain ⟨L,hd,hk⟩:=h.db;obtain ⟨MR,eR,oR,kR⟩:=h.rep;refine ⟨V',w4,r1,⟨⟨L,dbown_grown (hd.below hb) o3 g4 (by decide) (by decide) (by decide) (by decide),hk⟩,⟨MR,eR,kept_apart (zaf oR hb) g4 (fun g h1 h2=>h.ap g h2 h1),fun x hx=>kept_other o3 (zaf (kR x hx) hb) g4 (by decide)⟩,⟨_,?_,o4,fun x hx=>?_⟩,kept_other o3 (zaf h.kd hb) g4 (by decide),fun g hg e2=>?_,(h.bel.trans (hb.mono h.bel.size)).trans b4⟩,fun g T C hT hr=>row_grown (hr.below hb hr.lt) o3 g4 hT⟩
 ·rw [List.map_append,e,List.take_succ_eq_append_getElem hj,List.map_append,List.append_assoc];rfl
 ·rcases List.mem_append.1 hx with hx|hx
  ·exact ⟨kept_other o3 (zaf (q x hx).1 hb) g4 (by decide),(q x hx).2⟩
  ·rw [List.mem_singleton] at hx;subst hx;refine ⟨owns_le (kept_other o3 hX g4 (by decide)) h.bel.size,fun g h1 h2=>?_⟩;have q1:=(own_lt hX h1).1;have q2:=(own_lt h.kd h2).2;omega
 ·have q2:=(own_lt oR e2).2;rcases k4 g hg with q1|q1
  ·exact h.ap g q1 e2
  ·have:=hb.size;omega
theorem ExJ.done {w:World} {B N:Nat} {v V U r:Value} {wr:World} {ks:List Ke} {R out:List Rp} {kids:List Nat} (h:ExJ w B N v V U r wr ks R out kids R.length) (k:Nat) (hl:kids.length≤100000):
  ∃U' w2,(Builtin.append_ #[51,51] 51 #[U,.slice (some ⟨wr.heap.size,0,none⟩) 1 1]).run Tryz.prog (wr.alloc (.cells #[.int .i64 (k:Int)] 2))= .ok U' w2∧ExI w B v V U' w2 ks (out++R.map (shiftR out.length)) (kids++ [k])∧∀g T C,T≠2→RowAt wr g T C→RowAt w2 g T C:=by
 obtain ⟨M,e,o,q⟩:=h.rp;rw [List.take_length] at e;obtain ⟨U',w2,r1,o2,b2,g2,k2⟩:=app_kid2 k h.kd (by omega) h.bel.size;obtain ⟨L,hd,hk⟩:=h.db;refine ⟨U',w2,r1,⟨⟨L,dbown_grown hd h.kd g2 (by decide) (by decide) (by decide) (by decide),hk⟩,⟨M,e,kept_other h.kd o g2 (by decide),fun x hx=>⟨kept_apart (q x hx).1 g2 (q x hx).2,fun g h1 h2=>?_⟩⟩,o2,h.bel.trans b2⟩,fun g T C hT hr=>row_grown hr h.kd g2 hT⟩;rcases k2 g h2 with q1|q1
 ·exact (q x hx).2 g h1 q1
 ·have:=(own_lt (q x hx).1 h1).2;omega
theorem ExI.last {w:World} {B:Nat} {v V:Value} {wr:World} {ks:List Ke} {out:List Rp} {kids:List Nat} (a:Option Addr) (n c:Nat) (h:ExI w B v V (.slice a n c) wr ks out kids) (hl:out.length≤100000):
  ∃V' w2,(Builtin.append_ #[31,31] 31 #[V,.slice (some ⟨wr.heap.size,0,none⟩) 1 1]).run Tryz.prog (wr.alloc (.cells #[.int .i64 6,.int .i64 0,.string ⟨#[]⟩,.slice a n c] 53))= .ok V' w2∧zbd w B (ks,out++ [⟨6,0,⟨#[]⟩,kids⟩]) (.returned (.tuple #[v,V'])) w2:=by
 obtain ⟨M,e,o,q⟩:=h.rp;have hM:M.length=out.length:=by rw [←e,List.length_map]
 obtain ⟨V',w2,r1,o2,b2,g2⟩:=app_rp 6 0 ⟨#[]⟩ kids a n c o (by omega) h.bel.size;obtain ⟨L,hd,hk⟩:=h.db;refine ⟨V',w2,r1,v,V',L,rfl,hk,dbown_grown hd o g2 (by decide) (by decide) (by decide) (by decide),⟨_,?_,o2,fun x hx=>?_⟩,h.bel.trans b2⟩
 ·rw [List.map_append,e];rfl
 ·rcases List.mem_append.1 hx with hx|hx
  ·exact kept_other o (q x hx).1 g2 (by decide)
  ·rw [List.mem_singleton] at hx;subst hx;exact kept_other o h.kd g2 (by decide)
theorem kid_next {W wr:World} {G:Nat} {k1 n1:Value} {s1:Value} {xa:Option Addr} {xn xc:Nat} {ks:List Nat} (o:OwnKid wr W.heap.size (.slice xa xn xc) ks) (hr:RowAt wr G 53 #[k1,n1,s1,.slice xa xn xc]) (hb:Below W.heap.size W wr) (hWG:W.heap.size≤G) (k:Nat) (hl:ks.length≤1000):
  ∃a c w2,(Builtin.append_ #[51,51] 51 #[.slice xa xn xc,.slice (some ⟨wr.heap.size,0,none⟩) 1 1]).run Tryz.prog (wr.alloc (.cells #[.int .i64 (k:Int)] 2)).drew= .ok (.slice a (ks.length+1) c) w2∧w2.cell? ⟨G,3,none⟩=some (.slice xa xn xc)∧w2.frozen? ⟨G,3,none⟩=false∧
   OwnKid (w2.setCell ⟨G,3,none⟩ (.slice a (ks.length+1) c)) W.heap.size (.slice a (ks.length+1) c) (ks++ [k])∧RowAt (w2.setCell ⟨G,3,none⟩ (.slice a (ks.length+1) c)) G 53 #[k1,n1,s1,.slice a (ks.length+1) c]∧Below W.heap.size W (w2.setCell ⟨G,3,none⟩ (.slice a (ks.length+1) c)):=by
 have bd:Below wr.heap.size wr wr.drew:=below_drewN (Below.refl _ _) 1;obtain ⟨V',w2,r1,o2,b2,g2⟩:=app_kid k (w:=wr.drew) (zaf o bd) (by omega) (Nat.le_trans hb.size bd.size);obtain ⟨a,c,e⟩:=zad o2;rw [List.length_append,List.length_singleton] at e;subst e;have hr2:RowAt w2 G 53 #[k1,n1,s1,.slice xa xn xc]:=row_grown (hr.below bd hr.lt) (zaf o bd) g2 (by decide);refine ⟨a,c,w2,r1,hr2.cell 3,hr2.frozen 3,?_,by simpa using hr2.set 3 (.slice a (ks.length+1) c),((hb.trans (bd.mono hb.size)).trans b2).setCell (p:=⟨G,3,none⟩) hWG _⟩;refine zai o2 fun g hg=>Below.heap_setCell _ _ _ _ ?_;intro e;exact Hp.own_ne o2 hr2 (by decide) (by rw [hg,e])
end Go.Proofs.YtibhabajknikcaaGreatDoor.Er
