import Derived.Test.YtokafonppgppdaaGreatDoorC42
set_option maxHeartbeats 4000000
set_option maxRecDepth 100000
namespace Go.Proofs.YtokafonppgppdaaGreatDoor.Er
open Go.RowKit
variable {ks:List Ke} {k:Ke} {R:List Rp} {c:Cm} {T:List ByteArray} {th:Bool} {now:Int} {w:World} {B:Nat} {v:Value}
def zd5 (ks:List Ke):Prop:=ks.length<=20/\∀k∈ks,zfo k=true
theorem zu3 (k:Ke):∀(ks:List Ke) (s:List Ke×Bool),(ks.foldl (zb4 k) s).1.length+(bif (ks.foldl (zb4 k) s).2 then 0 else 1)=s.1.length+(zbl ks k.name).length+(bif s.2 then 0 else 1)
 | [],s=>rfl
 |x::ks,(o,b)=>by
  rw [List.foldl_cons,zu3 k ks];unfold zb4 zbl;by_cases h:x.name=k.name
  ·rw [if_pos h,List.filter_cons_of_neg (by simp [h])];cases b<;>cases hg:geB x k<;>simp;omega
  ·rw [if_neg h,List.filter_cons_of_pos (by simp [h])];cases b<;>cases hg:geB x k<;>simp<;>omega
theorem zq4 (ks:List Ke) (k:Ke):(zaq ks k).length=(zbl ks k.name).length+1:=by
 have h:=zu3 k ks ([],false);unfold zaq stS;cases hb:(ks.foldl (zb4 k) ([],false)).2 with
 |true=>
  rw [hb] at h;rw [if_pos rfl];simpa using h
 |false=>
  rw [hb] at h;rw [if_neg (by simp),Qi];simpa using h
theorem zz9 (h:k∈ks):(zbl ks k.name).length+1<=ks.length:=by
 unfold zbl;induction ks with
 |nil=>cases h
 |cons x ks ih=>
  by_cases hx:x.name=k.name
  ·rw [List.filter_cons_of_neg (by simp [hx])];have:=Qt (fun k':Ke=>!decide (k'.name=k.name)) ks;simp only [Q1];omega
  ·rw [List.filter_cons_of_pos (by simp [hx])];rcases List.mem_cons.1 h with e|e
   ·exact absurd (by rw [e]) hx
   ·have:=ih e;simp only [Q1];omega
theorem zd5.gone (h:zd5 ks) (nm:ByteArray):zd5 (zbl ks nm):=⟨Qj (Qt _ _) h.1,fun k hk=>h.2 k (List.mem_filter.1 hk).1⟩
theorem zil (h:zd5 ks):zd5 (za1 ks k R).1:=by
 unfold za1;split
 ·exact h.gone _
 ·split
  ·rename_i h2;exact zfu h2
  ·exact h
theorem zh2 {d:Int} (h:zd5 ks) (hk:k∈ks) (h0:0<=d) (h1:d<=1000000000):zd5 (zaq ks (k.withDue d)):=by
 refine ⟨?_,fun y hy=>?_⟩
 ·rw [zq4];have:=zz9 hk;have:=h.1;show (zbl ks k.name).length+1<=20;omega
 ·rcases zg9 hy with q|q
  ·exact h.2 y q
  ·subst q;have:=h.2 k hk;unfold zfo zdr at this ⊢;simp only [Qh,decide_eq_true_eq] at this ⊢;exact ⟨this.1,this.2.1,h0,h1⟩
theorem zuo:∀(T:List ByteArray) (s:List Ke×Nat),zd5 s.1->zd5 (T.foldl (zcs true) s).1
 | [],_,h=>h
 |t::T,s,h=>by
  rw [List.foldl_cons];refine zuo T _ ?_;unfold zcs;split
  ·exact h
  ·exact h.gone t
theorem ybm (h:zd5 ks):zd5 (zgr c ks T).1:=by
 cases c using Cm.elim
 case DEL=>exact zuo T (ks,0) h
 case FLUSHALL=>exact ⟨Qs _,fun k hk=> (by cases hk)⟩
 all_goals exact h
theorem yal (h:zd5 ks):zd5 (zhk c ks k th T).1:=by
 unfold zhk;split<;>repeat (first|exact h|exact zil h|split)
theorem zxi (h:zd5 ks):zd5 (zet c ks k th T).1:=by
 unfold zet;split<;>repeat (first|exact h|exact zil h|split)
theorem zyt (h:zd5 ks):zd5 (zhl c ks k T).1:=by
 unfold zhl;split<;>repeat (first|exact h|exact zil h|split)
theorem ybh (h:zd5 ks):zd5 (zfl c ks k T).1:=by
 unfold zfl;split<;>repeat (first|exact h|exact zil h|split)
theorem yc0 (h:zd5 ks) (h1:k.due≠0->k∈ks) (h2:th=true->k∈ks) (hn:0<=now/\now<=1000000000):zd5 (anyM c ks k th now T).1:=by
 unfold anyM;split<;>repeat (first|exact h|exact zil h|exact zh2 h (h1 (by assumption)) (by omega) (by omega)|exact zh2 h (h2 (by assumption)) (by omega) (by omega)|exact h.gone _|split)
theorem zm6 (h:zd5 ks) (h1:k.due≠0->k∈ks) (h2:th=true->k∈ks) (hn:0<=now/\now<=1000000000):zd5 (zc3 c ks k th now T).1:=by
 unfold zc3;split
 ·exact yal h
 ·exact zxi h
 ·exact zyt h
 ·exact ybh h
 ·exact yc0 h h1 h2 hn
theorem zy7 (h:zd5 ks) (hn:0<=now/\now<=1000000000):zd5 (ze2 ks now T).1:=by
 unfold ze2;split
 ·exact h
 ·split
  ·split
   ·exact ybm h
   ·unfold ztx;split
    ·exact zm6 h (fun e=>absurd rfl e) (fun e=>by cases e) hn
    ·rename_i hf;split
     ·exact h
     ·have hm:ks.getD (zd1 ks (zaj T.tail 0) 0).toNat ke0∈ks:=by
       rcases zgj ks (zaj T.tail 0) 0 with e|⟨i,hi,e⟩
       ·exact absurd (by rw [e];decide) hf
       ·rw [e,Int.toNat_natCast,Qq,Qa,Qd hi];exact Qv hi
      exact zm6 h (fun _=>hm) (fun _=>hm) hn
  ·exact h
theorem zn0 (h:zd5 ks):zd5 (za5 ks now):=⟨Qj (Qt _ _) h.1,fun k hk=>h.2 k (List.mem_filter.1 hk).1⟩
def RpS (R:List Rp):Prop:=1<=R.length/\R.length<=41/\∀x∈R,x.kids.length<=41/\∀k∈x.kids,k<=41
theorem ze3 (k n:Int) (s:ByteArray):RpS [⟨k,n,s,[]⟩]:=⟨Qc _,by simp,fun x hx=>by
 rw [List.mem_singleton] at hx;subst hx;exact ⟨Qs _,fun k hk=>by cases hk⟩⟩
theorem zn3 (T:List ByteArray) (h:T.length<=40):RpS (zb5 T):=by
 unfold zb5;refine ⟨by simp,by simp;omega,fun x hx=>?_⟩;rcases List.mem_append.1 hx with e|e
 ·obtain ⟨t,_,rfl⟩:=List.mem_map.1 e;exact ⟨Qs _,fun k hk=>by cases hk⟩
 ·rw [List.mem_singleton] at e;subst e;refine ⟨by simp;omega,fun k hk=>?_⟩;have:=List.mem_range.1 hk;omega
theorem zqg (h:RpS R):RpS (za1 ks k R).2:=by
 unfold za1;split
 ·exact h
 ·split
  ·exact h
  ·exact ze3 _ _ _
theorem ygf (h:ks.length<=20):RpS (zgr c ks T).2:=by
 cases c using Cm.elim
 case PING=>
  show RpS (if T.length=0 then zau zq6 else zax (T.getD 0 ByteArray.empty));split<;>exact ze3 _ _ _
 case KEYS=>exact zn3 _ (by rw [Qp];omega)
 all_goals exact ze3 _ _ _
theorem yhe:RpS (zhk c ks k th T).2:=by
 unfold zhk;split<;>repeat (first|exact ze3 _ _ _|exact zqg (ze3 _ _ _)|split)
theorem yey (h:zf8 k):RpS (zet c ks k th T).2:=by
 have hi:∀f l,(zek k.val.ia f l).length<=40:=fun f l=>by
  have:=h.ni;unfold zek;rw [Qu,Qn];omega
 unfold zet;split<;>repeat (first|exact ze3 _ _ _|exact zqg (ze3 _ _ _)|exact zn3 _ (hi _ _)|split)
theorem ygu (h:zf8 k):RpS (zhl c ks k T).2:=by
 have hi:(zco k.val.pj).length<=40:=by
  have:=h.np;rw [zed];omega
 unfold zhl;split<;>repeat (first|exact ze3 _ _ _|exact zqg (ze3 _ _ _)|exact zn3 _ hi|split)
theorem yhh (h:zf8 k):RpS (zfl c ks k T).2:=by
 have hi:∀f l,(zd8 k.val.rq f l).length<=40:=fun f l=>by
  have:=h.nr;unfold zd8;rw [Qp,Qu,Qn];omega
 unfold zfl;split<;>repeat (first|exact ze3 _ _ _|exact zqg (ze3 _ _ _)|exact zn3 _ (hi _ _)|split)
theorem yh4:RpS (anyM c ks k th now T).2:=by
 unfold anyM;split<;>repeat (first|exact ze3 _ _ _|exact zqg (ze3 _ _ _)|split)
theorem zuq (h:zf8 k):RpS (zc3 c ks k th now T).2:=by
 unfold zc3;split
 ·exact yhe
 ·exact yey h
 ·exact ygu h
 ·exact yhh h
 ·exact yh4
theorem ygw {t:ByteArray} (c:Cm) (h:t.size<=200):zf8 (zkh t c.kind):=⟨h,by simp [zkh];exact Qs _,by simp [zkh],by simp [zkh],by simp [zkh],by simp [zkh],by simp [zkh],by simp [zkh],by have:=zh9 c;simp only [zkh];omega,by simp [zkh]⟩
theorem yg8 (h:zd5 ks) (hT:∀i,i<T.length->(zaj T i).size<=200):RpS (ze2 ks now T).2:=by
 unfold ze2;split
 ·exact ze3 _ _ _
 ·split
  ·split
   ·exact ygf h.1
   ·unfold ztx;split
    ·refine zuq (ygw _ ?_);rw [zks];by_cases h1:1<T.length
     ·exact hT (0+1) h1
     ·unfold zaj;rw [Qa,List.getElem?_eq_none (by omega)];exact Qs _
    ·rename_i hf;split
     ·exact ze3 _ _ _
     ·refine zuq (zi8 (h.2 _ ?_));rcases zgj ks (zaj T.tail 0) 0 with e|⟨i,hi,e⟩
      ·exact absurd (by rw [e];decide) hf
      ·rw [e,Int.toNat_natCast,Qq,Qa,Qd hi];exact Qv hi
  ·exact ze3 _ _ _
theorem yie:∀(M:List RV) (i j:Nat) (hi:i<M.length),j<4->(zhp M)[i*4+j]?=(rvC M[i])[j]?
 | [],i,j,h,_=>by simp at h
 |x::M,0,j,_,hj=>by
  rw [show zhp (x::M)=rvC x++zhp M from rfl,List.getElem?_append_left (by simp [rvC];omega)];simp
 |x::M,i+1,j,h,hj=>by
  rw [show zhp (x::M)=rvC x++zhp M from rfl,List.getElem?_append_right (by simp [rvC];omega)];have:=yie M i j (by simpa using h) hj;rw [show (i+1)*4+j-(rvC x).length=i*4+j from by simp [rvC];omega,this];simp
theorem zur {M:List RV} (h:zqv w B v M) (i:Nat) (hi:i<M.length):∃g c,v= .slice (some ⟨g,0,none⟩) M.length c/\B<=g/\g<w.heap.size/\w.cell? ⟨g,i*4,none⟩=some (.int .i64 (M[i]).r.kind)/\w.cell? ⟨g,i*4+1,none⟩=some (.int .i64 (M[i]).r.n)/\w.cell? ⟨g,i*4+2,none⟩=some (.string (M[i]).r.s)/\w.cell? ⟨g,i*4+3,none⟩=some (M[i]).kv:=by
 obtain ⟨hxl,⟨_,h0⟩|⟨g,cap,cur,rfl,hg,hh,hcap,hmax,hcs,htk⟩⟩:=h
 ·omega
 ·have hr:zab w g 40 cur:=hh;have e:∀j,j<4->w.cell? ⟨g,i*4+j,none⟩=(rvC M[i])[j]?:=fun j hj=>by
   rw [hr.cell,<-yie M i j hi hj,<-htk,List.getElem?_take,if_pos (by omega),Array.getElem?_toList]
  exact ⟨g,cap,rfl,hg,(Array.getElem?_eq_some_iff.1 hh).1,e 0 (by omega),e 1 (by omega),e 2 (by omega),e 3 (by omega)⟩
theorem zz3 {ks:List Nat} (h:zjt w B v ks):∃a g c,v= .slice a ks.length c/\(0<ks.length->a=some ⟨g,0,none⟩/\B<=g/\g<w.heap.size)/\∀i (hi:i<ks.length),w.cell? ⟨g,i,none⟩=some (.int .i64 ((ks[i]:Nat):Int)):=by
 obtain ⟨hxl,⟨rfl,h0⟩|⟨g,cap,cur,rfl,hg,hh,hcap,hmax,hcs,htk⟩⟩:=h
 ·exact ⟨none,0,0,by rw [h0],fun h=>by omega,fun i hi=>by omega⟩
 ·have hr:zab w g 2 cur:=hh;refine ⟨_,g,cap,rfl,fun _=>⟨rfl,hg,(Array.getElem?_eq_some_iff.1 hh).1⟩,fun i hi=>?_⟩;have e:(yf3 ks)[i]?=some (.int .i64 ((ks[i]:Nat):Int)):=by
   unfold yf3;rw [List.getElem?_map,Qd hi];rfl
  rw [hr.cell,<-e,<-htk,List.getElem?_take,if_pos (by omega),Array.getElem?_toList]
end Go.Proofs.YtokafonppgppdaaGreatDoor.Er
