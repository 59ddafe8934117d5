import Derived.Test.YtokafonppgppdaaGreatDoorR23
import Derived.Test.YtokafonppgppdaaGreatDoorC36
import Derived.Shelf.Slices.ReverseS
import Derived.Shelf.Slices.Delete
set_option maxHeartbeats 2000000
set_option maxRecDepth 100000
namespace Go.Proofs.YtokafonppgppdaaGreatDoor
namespace Rb
open Tryz
open _root_.ByteArray (empty)
open Go.RowKit Go.Maps
open Ri (F4 RK UpK Fq G2 Nb Mk Ln kvA z7 Ow Rv Ou Ru)
variable {w wr:World} {b n B k:Nat} {L:List KV} {t:ByteArray} {As:List Nat} {v:Value} {T:List ByteArray} {a:Option Addr}
open Go.ChangeMaps Go.MapKept in
theorem zv2{D:DataW Value}(h:w.ownsMap prog 9 RK b n D)(ty:TypeId):
  ∃w',(Builtin.clear_ #[70] ty #[.map (some b)]).run prog w=.ok (.tuple #[]) w'/\w'.ownsMap prog 9 RK b n (F4 [])/\w.mapTurned w' b:=by
 obtain⟨es,Ga,hb,F,hs,hD⟩:=h;refine⟨setBlock w b (.map #[] Ga),?_,⟨#[],Ga,heap_setBlock_same hb _,⟨by simp,stamped_empty Ga,by simp⟩,by simp,rfl⟩,⟨es,Ga, #[],Ga,hb,rfl⟩⟩;simp[Builtin.clear_,run_underlying underlying70,MapKept.run_getObj_map hb,MapKept.run_setObj_map _ hb,Result.andThen,setBlock]
theorem yed(w:World)(B:Nat):Mu w B []:=⟨fun _ hx=>absurd hx (List.not_mem_nil),List.Pairwise.nil⟩
theorem zm1(B g b n:Nat)(now:Int)(aa:Option Addr)(ab ao ac:Nat)(L:List KV)(T:List ByteArray)(ad:Nat->Addr)(w:World)(h:Fu w B g b n now aa ab ao ac L L T) :
  Calls prog 176 #[.pointer (some ⟨g,0,none⟩)] w (F2 w B g b now aa ab ao ac T ad (L.map KV.key) (([]:List Ke),Hd sOK)):=by
 have HR:=hid fun W=>Dg sOK W;obtain⟨Wc,Ga,ho,ht⟩:=zv2 h.call.ring 0;obtain⟨hw,hb⟩:=h.turned ht.grown ho (by unfold UpK;exact List.Pairwise.nil) (yed Wc B);have HE:Hid (∀r w2,Fr w2 Wc.heap.size r (Hd sOK)->Bl Wc w2->F2 w B g b now aa ab ao ac T ad (L.map KV.key) (([]:List Ke),Hd sOK) (.returned (.tuple #[r,.nilIface])) w2):=fun r w2 h1 h2=>Am hw hb h1 h2;have g0:=h.call.c0;generalize L.map KV.key=ks at*;go_enter func176,ntmps176;go_wp2_with fail;refine(HR.out _).mono ?_;rintro e w2⟨r,rfl,hr,hb⟩;have HF:Hid _:=HE.out r w2 hr hb;go_wp2;go_ret2;exact HF.out
def Nm (L:List KV) (T:List ByteArray):List KV:=T.foldl G2 L
theorem zpy(h:Fq L t=none):G2 L t=L:=by
 unfold G2;rw[List.filter_eq_self];intro x hx;have:=List.find?_eq_none.1 h x hx;simpa using this
theorem Dx:∀{L:List KV},UpK (L.map KV.key)->(Fq L t).isSome=true->(G2 L t).length+1=L.length
 | [],_,h=>by simp[Fq]at h
 |x::r,hu,h=>by
  unfold UpK at hu;rw[List.map_cons,List.pairwise_cons]at hu;by_cases e:x.key.name=t
  ·have hr:G2 (x::r) t=G2 r t:=by unfold G2;rw[List.filter_cons_of_neg (by simp[e])]
   have hn:Fq r t=none:=by
    unfold Fq;rw[List.find?_eq_none];intro y hy;have h1:=hu.1 y.key (List.mem_map_of_mem hy);simp only[decide_eq_true_eq];intro e2;rw[e,e2,WideAt.bytes_irrefl]at h1;cases h1
   rw[hr,zpy hn];rfl
  ·have hr:G2 (x::r) t=x::G2 r t:=by unfold G2;rw[List.filter_cons_of_pos (by simp[e])]
   have hf:(Fq r t).isSome=true:=by
    unfold Fq at h ⊢;rwa[List.find?_cons_of_neg (by simp[e])]at h
   rw[hr,Q1,Dx hu.2 hf];rfl
theorem Em:(Lm (L.map KV.key) t 0<0)↔(Fq L t).isSome=false:=by
 cases hf:Fq L t with
 |none=>rw[Ri.znd hf 0];simp
 |some x=>
  obtain⟨i,-,-,-,e⟩:=Ri.Iq hf;rw[e];simp
theorem ydd(hu:UpK (L.map KV.key))(c:Nat)(t:ByteArray):Ni true (L.map KV.key,c) t=((G2 L t).map KV.key,c+(L.length-(G2 L t).length)):=by
 unfold Ni;dsimp only;cases hf:(Fq L t).isSome with
 |false=>
  rw[if_pos (Em.2 hf),zpy (Option.not_isSome_iff_eq_none.1 (by simp[hf]))];simp
 |true=>
  have hl:=Dx hu hf;rw[if_neg (fun e=>by rw[Em.1 e]at hf;cases hf),if_pos rfl,Ow];congr 1;omega
theorem zvl(L:List KV)(t:ByteArray):(G2 L t).length<=L.length:=Qt _ _
theorem Z2:∀(T:List ByteArray)(L:List KV),(Nm L T).length<=L.length
 |[],_=>Qc _
 |t::r,L=>Qj (Z2 r (G2 L t)) (zvl L t)
theorem zvp:∀(T:List ByteArray) (L:List KV) (c:Nat),UpK (L.map KV.key)->T.foldl (Ni true) (L.map KV.key,c)=((Nm L T).map KV.key,c+(L.length-(Nm L T).length))
 | [],L,c,_=>by simp[Nm]
 |t::r,L,c,hu=>by
  rw[List.foldl_cons,ydd hu,zvp r (G2 L t) _ (Ou t hu)];have h1:=zvl L t;have h2:=Z2 r (G2 L t);show(_,_)=((Nm (G2 L t) r).map KV.key,c+(L.length-(Nm (G2 L t) r).length));congr 1;omega
theorem zzi(hu:UpK (L.map KV.key))(T:List ByteArray):L9 true (L.map KV.key) T=((Nm L T).map KV.key,L.length-(Nm L T).length):=by
 unfold L9;rw[zvp T L 0 hu,Qq]
theorem zwc(L:List KV)(T:List ByteArray):∀(c:Nat),T.foldl (Ni false) (L.map KV.key,c)=(L.map KV.key,c+(T.filter fun t=>(Fq L t).isSome).length):=by
 induction T with
 |nil=>intro c;simp
 |cons t r ih=>
  intro c;rw[List.foldl_cons];have Ga:Ni false (L.map KV.key,c) t=(L.map KV.key,c+if(Fq L t).isSome=true then 1 else 0):=by
   unfold Ni;dsimp only;cases hf:(Fq L t).isSome with
   |false=>rw[if_pos (Em.2 hf)];simp
   |true=>rw[if_neg (fun e=>by rw[Em.1 e]at hf;cases hf)];simp
  rw[Ga,ih];cases hf:(Fq L t).isSome with
  |false=>rw[List.filter_cons_of_neg (by simp[hf])];simp
  |true=>rw[List.filter_cons_of_pos (by simp[hf])];simp;omega
section
variable (B g b n:Nat) (now:Int) (aa:Option Addr) (ab ao ac:Nat) (L:List KV) (T:List ByteArray) (ad:Nat->Addr) (w:World)
theorem yb5(h:Fu w B g b n now aa ab ao ac L L T)(hd:Fm (L.map KV.key)=true)(hs:∀t∈T,t.size<=200)(hT:T.length<=16):
  Calls prog 178 #[.pointer (some ⟨g,0,none⟩)] w (F2 w B g b now aa ab ao ac T ad (L.map KV.key) ((L9 true (L.map KV.key) T).1,Fe (L9 true (L.map KV.key) T).2)):=by
 have hu:=h.call.up;have Gl:=((Ns _).1 hd).1;rw[Qp]at Gl;have Gk:=hid (zzi hu T);have HR:=hid fun W s=>Pg s W;have Gb:=Ri.C9 h.call.ring;have g0:=h.call.c0;have g2:=h.call.c2;have HW:=hid h;have HS:=hid hs;have HA:Hid (0<T.length->aa=some ⟨ab,ao,none⟩):=fun h0=>h.call.args.addr h0;generalize hks:L.map KV.key=ks at*;generalize hmm:T.length=m at*;have Gi:=hid hmm;obtain⟨LL,Gf⟩:∃LL,L.length=LL:=⟨_,rfl⟩;rw[Gf]at Gb;have Gh:=hid Gf;obtain⟨p,hp⟩:∃p:List Ke×List Rp,((L9 true ks T).1,Fe (L9 true ks T).2)=p:=⟨_,rfl⟩;rw[hp];have HP:=hid hp;go_enter func178,ntmps178;go_wp2;go_loopw [17] (fun i wr=>∃k:Nat,k<=m/\i=.int .i64 k/\Hid (Fu wr B g b n now aa ab ao ac (Nm L (T.take k)) (Nm L (T.take k)) T/\Below B w wr)) (fun i _=>m-(intOf i).toNat)
 case atStart=>exact⟨0,by omega,rfl,HW.out,Qb _ _⟩
 case round=>
  obtain⟨k,hk,rfl,hI⟩:=hrel;by_cases hlt:k<m
  ·have Ga:k<T.length:=by rw[Gi.out];exact hlt
   have c0:=(hI.out.1.arg k Ga).2 wr (Qb _ _);have p0:=hI.out.1.call.c0;obtain⟨Wd,Gj,Ge,hg⟩:=hI.out.1.drop (T.getD k empty) (by have:=Lh HS.out k;omega);have HN:Hid (Fu Wd B g b n now aa ab ao ac (Nm L (T.take (k+1))) (Nm L (T.take (k+1))) T/\Below B w Wd):=by
    have e1:Nm L (T.take (k+1))=G2 (Nm L (T.take k)) (T.getD k empty):=by
     unfold Nm;rw[Qo Ga,List.foldl_append];rw[Qa,Qd Ga];rfl
    rw[e1];exact⟨Ge,hI.out.2.trans (Ds hg hI.out.1.lb hI.out.1.le)⟩
   obtain rfl:=HA.out (by omega);generalize T.getD k empty=t at*;have Gn:(k:Int)<(m:Int):=by omega
   go_wp2;go_round
   case rel=>exact⟨k+1,by omega,by go_num,HN⟩
   case measure=>simp[intOf];omega
  ·obtain rfl:k=m:=by omega
   have hr:=hI.out.1.call.ring;have p0:=hI.out.1.call.c0;have Gc:T.take k=T:=by rw[<-Gi.out];exact List.take_length
   rw[Gc]at hI hr;have Gg:=Ri.C9 hr;have Gd:=Z2 T L;have HE:Hid (∀r w2,Fr w2 wr.heap.size r (Fe ((LL:Int)-((Nm L T).length:Int)))->Bl wr w2->F2 w B g b now aa ab ao ac T ad ks p (.returned (.tuple #[r,.nilIface])) w2):=fun r w2 h1 h2=>by
    rw[<-HP.out,Gk.out];rw[Gh.out]at Gd ⊢;dsimp only;rw[show(((LL-(Nm L T).length:Nat):Int))=(LL:Int)-((Nm L T).length:Int) by omega];exact Am hI.out.1 hI.out.2 h1 h2
   have Gm:IntKind.i64.wrap ((LL:Int)-((Nm L T).length:Int))=(LL:Int)-((Nm L T).length:Int):=by rw[IntKind.wrap_i64];rw[Gh.out]at Gd;omega
   generalize(Nm L T).length=dl at*;go_wp2_with fail;refine(HR.out _ _).mono ?_;rintro e w2⟨r,rfl,hr,hb⟩;have HF:Hid _:=HE.out r w2 hr hb;go_wp2;go_ret2;exact HF.out
theorem zqd(h:Fu w B g b n now aa ab ao ac L L T)(hs:∀t∈T,t.size<=200)(hT:T.length<=16):
  Calls prog 179 #[.pointer (some ⟨g,0,none⟩)] w (F2 w B g b now aa ab ao ac T ad (L.map KV.key) (L.map KV.key,Fe (L9 false (L.map KV.key) T).2)):=by
 have Gm:(200:Nat)<=maxLen:=by unfold maxLen;omega
 have Gi:Hid ((L9 false (L.map KV.key) T).2=(T.filter fun t=>(Fq L t).isSome).length):=by unfold Hid L9;rw[zwc L T 0,Qq]
 have HR:=hid fun W s=>Pg s W;have g2:=h.call.c2;have HW:=hid h;have HS:=hid hs;have HA:Hid (0<T.length->aa=some ⟨ab,ao,none⟩):=fun h0=>h.call.args.addr h0;have Ge:Hid (∀r w',Fr w' w.heap.size r (Fe (L9 false (L.map KV.key) T).2)->Bl w w'->F2 w B g b now aa ab ao ac T ad (L.map KV.key) (L.map KV.key,Fe (L9 false (L.map KV.key) T).2) (.returned (.tuple #[r,.nilIface])) w'):=fun r w' h1 h2=>M7 h ⟨r,rfl,h1,h2⟩;clear h hs;generalize hcc:(L9 false (L.map KV.key) T).2=cc at*;generalize L.map KV.key=ks at*;generalize hmm:T.length=m at*;have Gh:=hid hmm;clear hmm hcc;go_enter func179,ntmps179;go_wp2;go_loopw [4,14] (fun f i wr=>∃k:Nat,k<=m/\i=.int .i64 k/\f=.int .i64 ((T.take k).filter fun t=>(Fq L t).isSome).length/\Hid (Bl w wr)) (fun _ i _=>m-(intOf i).toNat)
 case atStart=>exact⟨0,by omega,rfl,rfl,Qb _ _⟩
 case round=>
  obtain⟨k,hk,rfl,rfl,hI⟩:=hrel;by_cases hlt:k<m
  ·have Ga:k<T.length:=by rw[Gh.out];exact hlt
   have Gb:=HW.out.bw hI.out;have c0:=(Gb.arg k Ga).2 wr (Qb _ _);have p0:=Gb.call.c0;have Gf:=Ri.Ig Gb.call.ring (T.getD k empty) (by have:=Lh HS.out k;omega);obtain⟨b1,m1,j1,b2,m2,j2,b3,m3,j3,y1,y2,y3⟩:=Ro Gb.call.ring (T.getD k empty) (by have:=Lh HS.out k;omega);have Gd:(Instr.lookup 70 (.map (some b)) (.string (T.getD k empty)) true).run prog wr=.ok (.tuple #[kvA (Fb L (T.getD k empty)),.bool (Fq L (T.getD k empty)).isSome]) wr:=by
    rw[<-Cw];exact Gf
   unfold kvA kC at Gd;rw[y1,y2,y3]at Gd;have Gg:((T.take (k+1)).filter fun t=>(Fq L t).isSome).length=((T.take k).filter fun t=>(Fq L t).isSome).length+if(Fq L (T.getD k empty)).isSome=true then 1 else 0:=by
    rw[Qo Ga,List.filter_append,Qi];rw[Qa,Qd Ga];show _=_+if(Fq L T[k]).isSome=true then 1 else 0;cases hf:(Fq L T[k]).isSome<;>simp[hf]
   have Gp:((T.take k).filter fun t=>(Fq L t).isSome).length<=k:=Qj (Qt _ _) (by rw[Qn];omega);have HC:=hid Gg;obtain rfl:=HA.out (by omega);obtain⟨W0,Gk,Gj,b0,r0⟩:=boxed wr #[.string ⟨#[]⟩,.int .i64 0,.string ⟨#[]⟩,.slice none 0 0,.slice none 0 0,.slice none 0 0,.int .i64 0] 47;have HZ:Hid (∀v0 v1 v2 v3 v4 v5 v6,Bl w (((((((W0.setCell ⟨wr.heap.size,0,none⟩ v0).setCell ⟨wr.heap.size,1,none⟩ v1).setCell ⟨wr.heap.size,2,none⟩ v2).setCell ⟨wr.heap.size,3,none⟩ v3).setCell ⟨wr.heap.size,4,none⟩ v4).setCell ⟨wr.heap.size,5,none⟩ v5).setCell ⟨wr.heap.size,6,none⟩ v6)):=fun v0 v1 v2 v3 v4 v5 v6=>by
    have hl:=Qc wr.heap.size;exact hI.out.trans ((((((((b0.setCell hl v0).setCell hl v1).setCell hl v2).setCell hl v3).setCell hl v4).setCell hl v5).setCell hl v6).mono hI.out.size)
   have f0:=r0.frozen 0;have f1:=r0.frozen 1;have f2:=r0.frozen 2;have f3:=r0.frozen 3;have f4:=r0.frozen 4;have f5:=r0.frozen 5;have f6:=r0.frozen 6;have d0:=r0.cell 0;have d1:=r0.cell 1;have d2:=r0.cell 2;have d3:=r0.cell 3;have d4:=r0.cell 4;have d5:=r0.cell 5;have d6:=r0.cell 6;simp only[Qm,Qk,Ql]at d0 d1 d2 d3 d4 d5 d6;clear Gf y1 y2 y3 Gb Gg r0;generalize((T.take k).filter fun t=>(Fq L t).isSome).length=c,(Fq L (T.getD k empty)).isSome=fd,(Fb L (T.getD k empty)).key=x at*;generalize T.getD k empty=t at*;have Gn:(k:Int)<(m:Int):=by omega
   have Gl:IntKind.i64.wrap ((c:Int)+1)=(c:Int)+1:=by rw[IntKind.wrap_i64];omega
   cases fd with
   |true=>
    go_wp2;go_round
    case rel=>exact⟨k+1,by omega,by go_num,congrArg (Value.int .i64) (by rw[HC.out];simp),HZ.out _ _ _ _ _ _ _⟩
    case measure=>simp[intOf];omega
   |false=>
    go_wp2;go_round
    case rel=>exact⟨k+1,by omega,by go_num,congrArg (Value.int .i64) (by rw[HC.out];simp),HZ.out _ _ _ _ _ _ _⟩
    case measure=>simp[intOf];omega
  ·obtain rfl:k=m:=by omega
   have Gc:T.take k=T:=by rw[<-Gh.out];exact List.take_length
   rw[Gc,<-Gi.out];go_wp2_with fail;refine(HR.out _ _).mono ?_;rintro e w2⟨r,rfl,hr,hb⟩;have HF:Hid _:=Ge.out r w2 (hr.le hI.out.size) (hI.out.trans (hb.mono hI.out.size));clear hr hb HR Ge;go_wp2;go_ret2;exact HF.out
end
theorem zq5(w:World):Calls prog 329 #[.slice none 0 0] w fun e w'=>e=.returned (.slice none 0 0)/\Bl w w':=by
 have hb:=Qb w.heap.size w;obtain⟨i0,hi,Gc,Gb,Ga⟩:=info_parts yfi;go_enter func329,ntmps329;go_wp2;go_ret;exact⟨rfl,hb⟩
theorem zq3(f:Value)(w:World):Calls prog 316 #[.slice none 0 0,f] w fun e w'=>e=.returned (.slice none 0 0)/\Bl w w':=by
 have HC:=hid fun W=>zq5 W;go_enter func316,ntmps316;go_wp2_with fail;refine(HC.out _).mono ?_;rintro e w1⟨rfl,b1⟩;have HB:=hid b1;go_wp2;refine wp_loop_rounds 1 ?_;rw[rounds_succ];go_wp2;go_ret;exact⟨rfl,HB.out⟩
theorem zse(k m:Int)(t:ByteArray)(by0:Int)(w:World):Calls prog 297 #[.agg #[.int .i64 k,.int .i64 m,.string t,.slice none 0 0],.int .i64 by0] w fun e w'=>e=.returned (.agg #[.int .i64 k,.int .i64 m,.string t,.slice none 0 0])/\Bl w w':=by
 obtain⟨W1,Gu,Gn,b1,r1⟩:=boxed w #[.int .i64 k,.int .i64 m,.string t,.slice none 0 0] 40;obtain⟨W2,Gk,Gq,b2,r2⟩:=boxed W1 #[.int .i64 by0] 2;obtain⟨W3,Gs,Gl,b3,r3⟩:=boxed W2 #[.int .i64 0,.int .i64 0,.string ⟨#[]⟩,.slice none 0 0] 40;have q1:W1.heap.size=w.heap.size+1:=by rw[<-Gu];simp
 have q2:W2.heap.size=w.heap.size+2:=by rw[<-Gk];simp[q1]
 have q3:W3.heap.size=w.heap.size+3:=by rw[<-Gs];simp[q2]
 have bb:=(b1.trans (b2.mono b1.size)).trans (b3.mono (by omega));have HC:=hid fun W f=>zq3 f W;have Gh:=(r1.bw b2 (by omega)).bw b3 (by omega);rw[q1]at r2;rw[q2]at r3;have c3:=Gh.cell 3;simp only[Qm,Qk,Ql]at c3;have HR:Hid (Fc W3 w.heap.size 40 #[.int .i64 k,.int .i64 m,.string t,.slice none 0 0]/\Fc W3 (w.heap.size+1+1) 40 #[.int .i64 0,.int .i64 0,.string ⟨#[]⟩,.slice none 0 0]/\Bl w W3/\W3.heap.size=w.heap.size+3):=⟨Gh,r3,bb,q3⟩;clear Gu Gk Gs b1 b2 b3 r1 r2 r3 Gh bb q3;go_enter func297,ntmps297;go_upto_region 1 with fail;rw[Gn.out,Gq.out,Gl.out];clear Gn Gq Gl;go_wp2_with fail;refine(HC.out _ _).mono ?_;rintro e w4⟨rfl,b4⟩;obtain⟨ra,rb,bb,q3⟩:=HR.out;have Gd:=ra.bw b4 (by omega);have Gp:=rb.bw b4 (by omega);have f3:=Gd.frozen 3;have d3:=Gd.cell 3;have Gm:=bb.trans (b4.mono bb.size);obtain⟨W5,Gf⟩:∃W5,w4.setCell ⟨w.heap.size,3,none⟩ (.slice none 0 0)=W5:=⟨_,rfl⟩;have Gr:=hid Gf;have Gb:=Gd.set 3 (.slice none 0 0);have Ga:Fc (w4.setCell ⟨w.heap.size,3,none⟩ (.slice none 0 0)) (w.heap.size+1+1) 40 #[.int .i64 0,.int .i64 0,.string ⟨#[]⟩,.slice none 0 0]:=(Below.heap_setCell _ _ _ _ (by show w.heap.size+1+1≠w.heap.size;omega)).trans Gp;have b5:Bl w (w4.setCell ⟨w.heap.size,3,none⟩ (.slice none 0 0)):=Gm.setCell (Qc _) _;rw[Gf]at Gb Ga b5;have Gj:=Ga.set 0 (.int .i64 k);have Gt:=Gj.set 1 (.int .i64 m);have Gi:=Gt.set 2 (.string t);have Gg:=Gi.set 3 (.slice none 0 0);have Gc:w.heap.size<=w.heap.size+1+1:=by omega
 have b6:Bl w ((((W5.setCell ⟨w.heap.size+1+1,0,none⟩ (.int .i64 k)).setCell ⟨w.heap.size+1+1,1,none⟩ (.int .i64 m)).setCell ⟨w.heap.size+1+1,2,none⟩ (.string t)).setCell ⟨w.heap.size+1+1,3,none⟩ (.slice none 0 0)):=(((b5.setCell Gc _).setCell Gc _).setCell Gc _).setCell Gc _;obtain⟨W6,Gv⟩:∃W6,(((W5.setCell ⟨w.heap.size+1+1,0,none⟩ (.int .i64 k)).setCell ⟨w.heap.size+1+1,1,none⟩ (.int .i64 m)).setCell ⟨w.heap.size+1+1,2,none⟩ (.string t)).setCell ⟨w.heap.size+1+1,3,none⟩ (.slice none 0 0)=W6:=⟨_,rfl⟩;rw[Gv]at Gg b6;have x0:=Gb.cell 0;have x1:=Gb.cell 1;have x2:=Gb.cell 2;have x3:=Gb.cell 3;have y0:=Ga.cell 0;have y1:=Ga.cell 1;have y2:=Ga.cell 2;have y3:=Ga.cell 3;have z0:=Ga.frozen 0;have z1:=Ga.frozen 1;have z2:=Ga.frozen 2;have z3:=Ga.frozen 3;simp only[Qm,Qk,Ql]at x0 x1 x2 x3 y0 y1 y2 y3 d3;have HQ:Hid (Fc W6 (w.heap.size+1+1) 40 #[.int .i64 k,.int .i64 m,.string t,.slice none 0 0]/\Bl w W6):=⟨Gg,b6⟩;clear ra rb bb q3 Gd Gp Gm Gf Gb Ga b5 Gj Gt Gi Gg b6 HR b4 HC c3 q1 q2;go_upto_region 2 with fail;rw[Gr.out];clear Gr d3 f3;go_wp2;obtain⟨rr,Ge⟩:=HQ.out;have q0:=rr.cell 0;have q1:=rr.cell 1;have q2:=rr.cell 2;have q3:=rr.cell 3;simp only[Qm,Qk,Ql]at q0 q1 q2 q3;exact bodyPost_ret (v:=.agg #[.int .i64 k,.int .i64 m,.string t,.slice none 0 0]) (by simp[results,results297,go_sem,q0,q1,q2,q3]) rfl ⟨rfl,Ge⟩
theorem zoq(t:ByteArray)(w:World):Calls prog 231 #[.string t] w fun e w'=>e=.returned (.slice (some ⟨w.heap.size,0,none⟩) 1 1)/\w'=w.alloc (.cells #[.int .i64 4,.int .i64 0,.string t,.slice none 0 0] 40):=by
 go_enter func231,ntmps231;go_wp2;go_ret;exact⟨rfl,rfl⟩
theorem yij:(prog.info? 28).map (fun i=> (i.zero,i.size,i.bytes))=some (some (.slice none 0 0),1,24):=by kernel_rfl
def Rr (A:Nat):Value:= .slice (some ⟨A,0,none⟩) 1 1
abbrev Cj (w:World) (B:Nat) (v:Value) (As:List Nat):Prop:=w.ownsRow B 28 1 v As.length (As.map Rr)
theorem yhv{V:Value}(A:Nat)(h:Cj w B V As)(hn:As.length<=1048577)(hB:B<=w.heap.size):
  ∃v' w',(Builtin.append_ #[286,286] 286 #[V,.slice (some ⟨w.heap.size,0,none⟩) 1 1]).run prog (w.alloc (.cells #[Rr A] 28))=.ok v' w'/\Cj w' B v' (As++ [A])/\Below B w w'/\w.grownBy w' V.ownBlock:=by
 obtain⟨i0,hi,Gf,Ge,Gd⟩:=info_parts yij;have Gc:Bl w (w.alloc (.cells #[Rr A] 28)):=(Qb _ w).alloc (Qc _) _;have oA:=Fw h Gc
 obtain⟨v',w',Gb,Ga,hg,_,Gg⟩:=run_append_own_at (P:=prog) (w.alloc (.cells #[Rr A] 28)) B 286 286 28 i0 _ 1 24 underlying286 hi Gf Ge Gd rfl (by decide) V As.length (As.map Rr) oA ⟨w.heap.size,0,none⟩ 1 1 [Rr A] rfl (fun j u hj=>by
  rw[Addr.add_lit,Qq];exact((Fc.new w 28 #[Rr A]).cell j).trans (by simpa using hj)) (fun u hu=>by simp at hu;subst hu;rfl) (by unfold maxLen;omega) (by omega) (by simp;omega)
 refine⟨v',w',Gb,?_,R4 (Qb _ w) hB h hg,?_⟩
 ·unfold Cj;rw[Qi,List.map_append];exact Ga
 ·have hs:(w.alloc (.cells #[Rr A] 28)).heap.size=w.heap.size+1:=by simp
  exact⟨hg.os,hg.tape,hg.output,by have:=hg.size;omega,fun k hk hne=>(hg.block k (by omega) hne).trans (Gc.block k hk)⟩
theorem ye4{l m:List Nat}{i d:Nat}(h:i<l.length):(l++m).getD i d=l.getD i d:=by
 rw[Qa,List.getElem?_append_left h,<-Qa]
theorem yfd(l:List Nat)(a d:Nat):(l++ [a]).getD l.length d=a:=by simp[List.getD_eq_getElem?_getD]
structure Uq (w:World) (v:Value) (wr:World) (T:List ByteArray) (k:Nat) (As:List Nat):Prop where
 len:As.length=k
 own:Cj wr w.heap.size v As
 row:∀i,i<k->Fc wr (As.getD i 0) 40 #[.int .i64 4,.int .i64 0,.string (T.getD i empty),.slice none 0 0]
 low:∀i,i<k->w.heap.size<=As.getD i 0
 bel:Bl w wr
theorem Uq.next(h:Uq w v wr T k As)(hk:k<=1048576):
  ∃W1 v' w1,wr.alloc (.cells #[.int .i64 4,.int .i64 0,.string (T.getD k empty),.slice none 0 0] 40)=W1/\W1.heap.size=wr.heap.size+1/\(Builtin.append_ #[286,286] 286 #[v,.slice (some ⟨wr.heap.size+1,0,none⟩) 1 1]).run prog (W1.alloc (.cells #[.slice (some ⟨wr.heap.size,0,none⟩) 1 1] 28))=.ok v' w1/\∃As',Uq w v' w1 T (k+1) As':=by
 obtain⟨W1,Gc,-,b1,r1⟩:=boxed wr #[.int .i64 4,.int .i64 0,.string (T.getD k empty),.slice none 0 0] 40;have q1:W1.heap.size=wr.heap.size+1:=by rw[<-Gc];simp
 have hB:w.heap.size<=W1.heap.size:=by have:=h.bel.size;omega
 obtain⟨v',w1,Ga,ho,hb,hg⟩:=yhv (w:=W1) wr.heap.size (Fw h.own b1) (by rw[h.len];omega) hB;rw[q1]at Ga;refine⟨W1,v',w1,Gc,q1,Ga,As++ [wr.heap.size],⟨by simp[h.len],ho,fun i hi=>?_,fun i hi=>?_,(h.bel.trans (b1.mono h.bel.size)).trans hb⟩⟩
 ·have Gb:∀A C,Fc W1 A 40 C->some A≠v.ownBlock:=fun A C hC e=>by
   obtain⟨D,hD⟩:=M3 (Fw h.own b1) e.symm;have:=Hp.N9 hC hD;cases this
  by_cases hik:i<k
  ·rw[ye4 (by rw[h.len];exact hik)];have r0:=(h.row i hik).bw b1 (h.row i hik).lt;exact(hg.block _ r0.lt (Gb _ _ r0)).trans r0
  ·obtain rfl:i=k:=by omega
   rw[<-h.len,yfd,h.len];exact(hg.block _ (by omega) (Gb _ _ r1)).trans r1
 ·by_cases hik:i<k
  ·rw[ye4 (by rw[h.len];exact hik)];exact h.low i hik
  ·obtain rfl:i=k:=by omega
   rw[<-h.len,yfd];exact h.bel.size
theorem N8.bw{wr':World}{u:Value}(h:N8 w v u wr T k)(hb:Bl wr wr'):N8 w v u wr' T k:=
 ⟨Fw h.o1 hb,Fw h.o2 hb,h.bel.trans (hb.mono h.bel.size)⟩
theorem one_cell(h:Cj w B v As)(k:Nat)(hk:k<As.length):∃g cap,v=.slice (some ⟨g,0,none⟩) As.length cap/\w.cell? ⟨g,k,none⟩=some (Rr (As.getD k 0))/\g<w.heap.size:=by
 obtain⟨h1,h2|⟨g,cap,Gb,e,_,hg,hn,_,hs,hx⟩⟩:=h
 ·omega
 ·refine⟨g,cap,e,?_,(Array.getElem?_eq_some_iff.1 hg).1⟩;have hr:Fc w g 28 Gb:=hg;rw[hr.cell k,<-Array.getElem?_toList];have Ga:(Gb.toList.take (As.length*1))[k]?=(As.map Rr)[k]?:=by rw[hx]
  rw[List.getElem?_take,if_pos (by omega)]at Ga;rw[Ga,List.getElem?_map,Qd hk,Qa,Qd hk];rfl
theorem zxr(v:Value)(n:Nat)(As:List Nat)(T:List ByteArray)(w W:World)(h:Uq w v W T n As)(hL:T.length=n)(hn:n<=1048576):Calls prog 272 #[v] W (F9 W (He T)):=by
 have H:=hid h;have HL:=hid hL;have Gm:=hid fun V t k=>zse 4 0 t k V;have HS:Hid (N8 W (.slice none 0 0) (.slice none 0 0) W T 0):=⟨World.ownsRow_nil _ _ _ _,World.ownsRow_nil _ _ _ _,Qb _ _⟩;obtain⟨va,vc,e0⟩:=Fx h.own;rw[h.len]at e0;subst e0;have Gd:=hid h.len;go_enter func272,ntmps272;go_wp2;go_loopw [3,4,12] (fun v u i wr=>∃k:Nat,k<=n/\i=.int .i64 k/\Hid (N8 W v u wr T k)) (fun _ _ i _=>n-(intOf i).toNat)
 case atStart=>exact⟨0,by omega,rfl,HS⟩
 case round=>
  obtain⟨k,hk,rfl,hI⟩:=hrel;by_cases hlt:k<n
  ·obtain⟨g,Gt,ev,hc,Gq⟩:=one_cell H.out.own k (by rw[Gd.out];exact hlt);rw[Gd.out]at ev;injection ev with ev1 ev2 ev3;subst ev1 ev3;have c0:=(hI.out.bel.cell (p:=⟨g,k,none⟩) Gq).trans hc;have r0:=(H.out.row k hlt).bw hI.out.bel (H.out.row k hlt).lt;unfold Rr at c0;obtain⟨x,hx⟩:∃x,T.getD k empty=x:=⟨_,rfl⟩;rw[hx]at r0;have HX:=hid hx;generalize As.getD k 0=A at*;have x0:=r0.cell 0;have x1:=r0.cell 1;have x2:=r0.cell 2;have x3:=r0.cell 3;obtain⟨W0,Gp,Gn,b0,q0⟩:=boxed wr #[.int .i64 0,.int .i64 0,.string ⟨#[]⟩,.slice none 0 0] 40;have Gh:=q0.set 0 (.int .i64 4);have Gl:=Gh.set 1 (.int .i64 0);have Gc:=Gl.set 2 (.string x);have Ga:=Gc.set 3 (.slice none 0 0);have hl:=Qc wr.heap.size;have b4:Bl wr ((((W0.setCell ⟨wr.heap.size,0,none⟩ (.int .i64 4)).setCell ⟨wr.heap.size,1,none⟩ (.int .i64 0)).setCell ⟨wr.heap.size,2,none⟩ (.string x)).setCell ⟨wr.heap.size,3,none⟩ (.slice none 0 0)):=(((b0.setCell hl _).setCell hl _).setCell hl _).setCell hl _;obtain⟨W4,Gk⟩:∃W4,(((W0.setCell ⟨wr.heap.size,0,none⟩ (.int .i64 4)).setCell ⟨wr.heap.size,1,none⟩ (.int .i64 0)).setCell ⟨wr.heap.size,2,none⟩ (.string x)).setCell ⟨wr.heap.size,3,none⟩ (.slice none 0 0)=W4:=⟨_,rfl⟩;rw[Gk]at Ga b4;have y0:=q0.cell 0;have y1:=q0.cell 1;have y2:=q0.cell 2;have y3:=q0.cell 3;have z0:=q0.frozen 0;have z1:=q0.frozen 1;have z2:=q0.frozen 2;have z3:=q0.frozen 3;have u0:=Ga.cell 0;have u1:=Ga.cell 1;have u2:=Ga.cell 2;have Gf:=Ga.cell 3;simp only[Qm,Qk,Ql]at x0 x1 x2 x3 y0 y1 y2 y3 u0 u1 u2 Gf;obtain⟨na,nc,en⟩:=Fx hI.out.o1;rw[Qp,Qn,Nat.min_eq_left (by rw[HL.out];omega)]at en;subst en;have Gg:=hid fun w3 (hb:Bl W4 w3)=>N8.bw hI.out (b4.trans (hb.mono b4.size));have Gi:k<T.length/\T.length<=1048576:=⟨by rw[HL.out];exact hlt,by rw[HL.out];exact hn⟩;have Gv:(k:Int)<(n:Int):=by omega
   go_wp2;refine wp_loop_rounds 2 ?_;rw[rounds_succ];go_wp2_with fail;refine(Gm.out _ _ _).mono ?_;rintro e w3⟨rfl,b3⟩;obtain⟨v',w1,r1,u',w2,r2,Gb⟩:=(Gg.out w3 b3).next Gi.1 Gi.2;obtain⟨Gu,Gs,Gj⟩:=Fx Gb.o1;rw[Qp,Qn,Nat.min_eq_left (by omega)]at Gj;subst Gj;rw[HX.out]at r1;have R1:Hid _:=r1;have R2:Hid _:=r2;have Gr:Hid _:=Gb;go_wp2_with (at_builtin;refine wpList_append_run rfl _ _ 28 rfl rfl rfl R1.out ?_);rw[rounds_succ];go_wp2_with (at_builtin;refine wpList_append_run rfl _ _ 38 rfl rfl rfl R2.out ?_);exact⟨⟨k+1,by omega,by go_num,Gr⟩,by simp[intOf];omega⟩
  ·obtain rfl:k=n:=by omega
   obtain⟨a',c',e4⟩:=Fx hI.out.o2;subst e4;have Ge:N8 W u3 (.slice a' (List.range k).length c') wr T T.length:=by rw[HL.out];exact hI.out
   obtain⟨v',w1,r1,hE⟩:=Ge.last (by rw[HL.out];exact hn);have R1:Hid _:=r1;have HE:=hid hE;generalize(List.range k).length=m at*;go_wp2_with (at_builtin;refine wpList_append_run rfl _ _ 28 rfl rfl rfl R1.out ?_);go_ret;exact HE.out
section
variable (a:Option Addr) (b o n c:Nat) (T:List ByteArray) (w:World)
theorem zv5(h:Fs w a b o n T)(hn:n<=1048576)
 (HA:∀v W As,Uq w v W T n As->Calls prog 272 #[v] W (F9 W (He T))):Calls prog 232 #[.slice a n c] w (F9 w (He T)):=by
 have H:=hid h;have HL:=hid h.len;have HB:=hid fun W t=>zoq t W;have HS:Hid (Uq w (.slice none 0 0) w T 0 []):=⟨rfl,World.ownsRow_nil _ _ _ _,fun i hi=>by omega,fun i hi=>by omega,Qb _ _⟩;have HX:=hid HA;go_enter func232,ntmps232;go_wp2;go_loopw [3,8] (fun v i wr=>∃k:Nat,k<=n/\i=.int .i64 k/\∃As,Hid (Uq w v wr T k As)) (fun _ i _=>n-(intOf i).toNat)
 case atStart=>exact⟨0,by omega,rfl,[],HS⟩
 case round=>
  obtain⟨k,hk,rfl,As,hI⟩:=hrel;by_cases hlt:k<n
  ·have c0:=(Lb H.out hI.out.bel).cell k hlt;obtain rfl:=H.out.addr (by omega);obtain⟨W1,v',w1,Gc,q1,Ga,Gg,Gd⟩:=hI.out.next (by omega);have R1:Hid _:=Ga;have Gh:Hid _:=Gd;have Gf:=hid Gc;generalize T.getD k empty=x at*;have Gi:(k:Int)<(n:Int):=by omega
   go_wp2_with fail;refine(HB.out _ _).mono ?_;rintro e w2⟨rfl,Ge⟩;rw[Gf.out]at Ge;subst Ge;go_wp2_with (at_builtin;refine wpList_append_run rfl _ _ 286 rfl rfl rfl R1.out ?_);exact⟨⟨k+1,by omega,by go_num,Gg,Gh⟩,by simp[intOf];omega⟩
  ·obtain rfl:k=n:=by omega
   have HY:=hid (HX.out _ wr As hI.out);have Gb:=hid hI.out.bel;generalize He T=RL at*;go_wp2_with fail;refine HY.out.mono ?_;rintro e w2⟨v,rfl,hr,hb⟩;have HF:Hid (F9 w RL (.returned v) w2):=⟨v,rfl,hr.le Gb.out.size,Gb.out.trans (hb.mono Gb.out.size)⟩;go_wp2;go_ret;exact HF.out
theorem Ew(h:Fs w a b o n T)(hn:n<=1048576):Calls prog 232 #[.slice a n c] w (F9 w (He T)):=
 zv5 a b o n c T w h hn fun v W As hO=>zxr v n As T w W hO h.len hn
end
theorem zqo{o:Nat}{X:List ByteArray}(h:Fs w a b o n X)(i j:Nat)(hij:i<=j)(hj:j<=n)(hi:i<n):Fs w (some ⟨b,o+i,none⟩) b (o+i) (j-i) ((X.take j).drop i):=by
 have hl:=h.len;have ht:∀k,k<j-i->((X.take j).drop i).getD k empty=X.getD (i+k) empty:=fun k hk=>by
  rw[Qa,Qa,List.getElem?_drop,List.getElem?_take,if_pos (by omega)]
 refine⟨by rw[Qu,Qn];omega,fun _=>rfl,fun _=>h.low (by omega),fun k hk=>?_,fun k hk=>?_⟩
 ·rw[ht k hk];have:=h.cell (i+k) (by omega);rwa[<-Nat.add_assoc]at this
 ·rw[ht k hk];exact h.fit (i+k) (by omega)
theorem zzo(w:World)(a:Option Addr)(b o:Nat):Fs w a b o 0 []:=⟨rfl,fun h=>by omega,fun h=>by omega,fun i h=>by omega,fun i h=>by omega⟩
theorem zi1(B g b n:Nat)(now:Int)(aa:Option Addr)(ab ao ac:Nat)(L M:List KV)(T:List ByteArray)(ad:Nat->Addr)(w:World)(h:Fu w B g b n now aa ab ao ac L M T)(hE:Lk w B ad)(hT:T.length=3)(hs:∀t∈T,t.size<=200)(X:List ByteArray)(a:Option Addr)(xb xo cp:Nat)(hX:Fs w a xb xo X.length X)(hcp:X.length<=cp)(hlen:X.length<=1048576)(hnil:a=none->cp=0):
  Calls prog 248 #[.pointer (some ⟨g,0,none⟩),.slice a X.length cp] w fun e w'=>∃r,e=.returned (.tuple #[r,Lf (ad 12) (M8 T)])/\(M8 T=true->Fr w' w.heap.size r (He (N3 X (Fg (T.getD 1 empty)).1 (Fg (T.getD 2 empty)).1)))/\Bl w w':=by
 have HS:=hid (zu1 B g b n now aa ab ao ac L M T ad w h hE hT hs X.length);have HM:Hid (∃i j:Nat,slM T X.length=((i:Int),(j:Int))/\i<=j/\j<=X.length/\(M8 T=true->N3 X (Fg (T.getD 1 empty)).1 (Fg (T.getD 2 empty)).1=(X.take j).drop i)):=by
  unfold Hid slM;cases M8 T with
  |true=>
   obtain⟨i,j,e,h1,h2⟩:=Bf X.length (Fg (T.getD 1 empty)).1 (Fg (T.getD 2 empty)).1;refine⟨i,j,by rw[if_pos rfl,e],h1,h2,fun _=>?_⟩;unfold N3;rw[e];rfl
  |false=>exact⟨0,0,by rw[if_neg (by simp)];rfl,Qc _,Qs _,fun h=>by cases h⟩
 obtain⟨i,j,hm,Gf,hj,Gc⟩:=HM.out;rw[hm]at HS;dsimp only at HS;have Gd:=hid Gc;have Ge:∀W,Bl w W->Fs W a xb xo X.length X:=fun W hb=>Lb hX hb;have HB:Hid (∀W a' c',Bl w W->(cp=i\/(i<cp/\a'=a.map fun p=>p.add i))->Cp 232 #[.slice a' (j-i) c'] W (F9 W (He ((X.take j).drop i)))):=fun W a' c' hb hc=>by
  by_cases hin:i<X.length
  ·rcases hc with e|⟨_,e⟩
   ·omega
   ·have hz:=zqo (Ge W hb) i j Gf hj hin;have ha:=hX.addr (by omega);rw[e,ha,Option.map_some,Addr.add_lit];exact Ew _ xb (xo+i) (j-i) c' _ W hz (by omega)
  ·obtain rfl:i=j:=by omega
   have e0:(X.take i).drop i=[]:=List.drop_eq_nil_of_le (by rw[Qn];omega);rw[e0,Nat.sub_self];exact Ew a' 0 0 0 c' [] W (zzo _ _ _ _) (by omega)
 generalize M8 T=so,N3 X (Fg (T.getD 1 empty)).1 (Fg (T.getD 2 empty)).1=im,(X.take j).drop i=xp,X.length=m at*;generalize Lf (ad 12) so=ev at*;have Gi:(0:Int)<=(i:Int):=by omega
 have Gj:(i:Int)<=(j:Int):=by omega
 have Gh:(j:Int)<=(cp:Int):=by omega
 have Ga:=HB.out;by_cases hci:cp=i
 ·obtain rfl:j=i:=by omega
  have Gb:Hid (∀W a' c',Bl w W->Cp 232 #[.slice a' 0 c'] W (F9 W (He xp))):=fun W a' c' hb=>by have:=Ga W a' c' hb (.inl hci);rwa[Nat.sub_self]at this
  subst hci;go_enter func248,ntmps248;go_wp2_with fail;refine HS.out.mono ?_;rintro e w1⟨rfl,b1⟩;have HC:=hid b1;go_wp2_with fail;refine(Gb.out _ _ _ HC.out).mono ?_;rintro e w2⟨r,rfl,hr,hb⟩;have HF:Hid ((so=true->Fr w2 w.heap.size r (He im))/\Bl w w2):=⟨fun h=>by rw[Gd.out h];exact hr.le HC.out.size,HC.out.trans (hb.mono HC.out.size)⟩;go_wp2;go_ret2;exact⟨r,rfl,HF.out⟩
 ·have Gg:i<cp:=by omega
  cases a with
  |none=>have:=hnil rfl;omega
  |some p=>
   have Gb:Hid (∀W c' (q:Unit),Bl w W->Cp 232 #[.slice (some (p.add i)) (j-i) c'] W (F9 W (He xp))):=fun W c' _ hb=>Ga W _ c' hb (.inr ⟨Gg,rfl⟩);go_enter func248,ntmps248;go_wp2_with fail;refine HS.out.mono ?_;rintro e w1⟨rfl,b1⟩;have HC:=hid b1;go_wp2_with fail;refine(Gb.out _ _ () HC.out).mono ?_;rintro e w2⟨r,rfl,hr,hb⟩;have HF:Hid ((so=true->Fr w2 w.heap.size r (He im))/\Bl w w2):=⟨fun h=>by rw[Gd.out h];exact hr.le HC.out.size,HC.out.trans (hb.mono HC.out.size)⟩;go_wp2;go_ret2;exact⟨r,rfl,HF.out⟩
theorem Fu.keyOwn{g:Nat}{now:Int}{aa:Option Addr}{ab ao ac:Nat}(h:Fu w B g b n now aa ab ao ac L L T)(nm:ByteArray):VOwn w B (Fb L nm).key.val (Fb L nm).vi (Fb L nm).vp (Fb L nm).vr:=by
 rcases Oo L nm with⟨-,e⟩|⟨-,hm,-⟩
 ·rw[e];exact⟨World.ownsRow_nil _ _ _ _,World.ownsRow_nil _ _ _ _,World.ownsRow_nil _ _ _ _⟩
 ·exact h.vals.own _ hm
theorem Do{e:TypeId}{size:Nat}{m c:Nat}{xs:List Value}(h:w.ownsRow B e size (.slice a m c) n xs):a=none->c=0:=fun ha=>by
 obtain⟨_,⟨hv,_⟩|⟨g,Ga,Gb,hv,_⟩⟩:=h
 ·injection hv
 ·injection hv with h1;rw[ha]at h1;cases h1
section
variable (B g b n:Nat) (now:Int) (aa:Option Addr) (ab ao ac:Nat) (L:List KV) (T:List ByteArray) (ad:Nat->Addr) (w:World)
theorem zxd(h:Fu w B g b n now aa ab ao ac L L T)(hd:Fm (L.map KV.key)=true) :
  Calls prog 174 #[.pointer (some ⟨g,0,none⟩)] w (F2 w B g b now aa ab ao ac T ad (L.map KV.key) (L.map KV.key,He ((L.map KV.key).map Ke.name))):=by
 have Gd:=((Ns _).1 hd).1;rw[Qp]at Gd;have Ga:=((Ns _).1 hd).2.2;have HN:=hid (Ri.zqb b n L w h.call.ring h.call.up (by omega));have Gc:Hid (∀t∈(L.map fun x=>x.key.name),t.size<=1048576):=fun t ht=>by
  obtain⟨x,hx,rfl⟩:=List.mem_map.1 ht;have:=Ga x.key (List.mem_map_of_mem hx);unfold Hh at this;rw[Qh,decide_eq_true_iff]at this;omega
 have Ge:Hid ((L.map fun x=>x.key.name).length<=1048576):=by unfold Hid;rw[Qp];omega
 have Gb:Hid (∀r w',Fr w' w.heap.size r (He (L.map fun x=>x.key.name))->Bl w w'->F2 w B g b now aa ab ao ac T ad (L.map KV.key) (L.map KV.key,He ((L.map KV.key).map Ke.name)) (.returned (.tuple #[r,.nilIface])) w'):=fun r w' h1 h2=>M7 h ⟨r,rfl,by rw[List.map_map];exact h1,h2⟩;have g0:=h.call.c0;generalize(L.map KV.key,He ((L.map KV.key).map Ke.name))=pp at*;generalize L.map KV.key=ks,(L.map fun x=>x.key.name)=X at*;go_enter func174,ntmps174;go_wp2_with fail;refine HN.out.mono ?_;rintro e w1⟨v,rfl,o1,b1⟩;have HB:=hid b1;obtain⟨a1,A1,c1,rfl,h1,_,_⟩:=N2 o1 Gc.out;have HR:=hid (Ew a1 A1 0 X.length c1 X w1 h1 Ge.out);generalize X.length=m at*;go_wp2_with fail;refine HR.out.mono ?_;rintro e w2⟨r,rfl,hr,hb⟩;have HF:Hid _:=Gb.out r w2 (hr.le HB.out.size) (HB.out.trans (hb.mono HB.out.size));go_wp2;go_ret2;exact HF.out
theorem zqf(h:Fu w B g b n now aa ab ao ac L L T)(hd:Fm (L.map KV.key)=true)(hE:Lk w B ad)(hs:∀t∈T,t.size<=200)(hT:T.length=3):
  Calls prog 196 #[.pointer (some ⟨g,0,none⟩)] w (F2 w B g b now aa ab ao ac T ad (L.map KV.key) (if M8 T=true then(L.map KV.key,He (N3 (Fb L (T.getD 0 empty)).key.val.ia (Fg (T.getD 1 empty)).1 (Fg (T.getD 2 empty)).1)) else(L.map KV.key,Fl F3))):=by
 have Gg:=Lh hs 0;have Ge:=N4 hd (T.getD 0 empty);obtain⟨a1,n1,k1,a2,n2,k2,a3,n3,k3,e1,e2,e3,hH⟩:=h.held (by omega) Gg;have Gb:=(h.keyOwn (T.getD 0 empty)).ia;obtain⟨xa,xA,xc,xe,xz,xl,-⟩:=N2 Gb (fun t ht=>by have:=Ge.ia t ht;omega);rw[e1]at xe;injection xe with x1 x2 x3;subst x1 x2 x3;rw[e1]at Gb;have Gf:=Do Gb;have HH:=hid hH;have HS:=hid fun W (hb:Bl w W)=>zi1 B g b n now aa ab ao ac L L T ad W (h.bw hb) (hE.bw (hb.mono h.le)) hT hs (Fb L (T.getD 0 empty)).key.val.ia a1 xA 0 k1 (Lb xz hb) xl (by have:=Ge.ni;omega) Gf;have Gc:Hid (∀R r w',Fr w' w.heap.size r R->Bl w w'->F2 w B g b now aa ab ao ac T ad (L.map KV.key) (L.map KV.key,R) (.returned (.tuple #[r,.nilIface])) w'):=fun R r w' h1 h2=>M7 h ⟨r,rfl,h1,h2⟩;have Gd:Hid (∀r w',Bl w w'->F2 w B g b now aa ab ao ac T ad (L.map KV.key) (L.map KV.key,Fl F3) (.returned (.tuple #[r,.iface 307 (.pointer (some (ad 12)))])) w'):=fun r w' h2=>Ul 12 (by omega) (h2.mono h.le);generalize N3 (Fb L (T.getD 0 empty)).key.val.ia (Fg (T.getD 1 empty)).1 (Fg (T.getD 2 empty)).1=im,(Fb L (T.getD 0 empty)).key.val.ia.length=il,M8 T=so,L.map KV.key=ks,(Fb L (T.getD 0 empty)).key.val.kind=kd,(Fb L (T.getD 0 empty)).key.val.text=tx at*;have hf:=fun W=>Ur (.int .i64 kd) (.string tx) (.slice a1 il k1) (.slice a2 n2 k2) (.slice a3 n3 k3) W;cases so with
 |true=>
  rw[if_pos rfl];have Ga:=hid HS.out;go_enter func196,ntmps196;go_wp2_with fail;refine(HH.out _ (Qb _ _)).mono ?_;rintro e w1⟨rfl,b1⟩;have HB:=hid b1;go_wp2_with fail;refine(Ga.out _ HB.out).mono ?_;rintro e w2⟨r,rfl,hr,hb⟩;have HF:Hid _:=Gc.out _ r w2 ((hr trivial).le HB.out.size) (HB.out.trans (hb.mono HB.out.size));go_wp2;go_ret2;exact HF.out
 |false=>
  rw[if_neg (by simp)];have Ga:=hid HS.out;generalize ad 12=A at*;go_enter func196,ntmps196;go_wp2_with fail;refine(HH.out _ (Qb _ _)).mono ?_;rintro e w1⟨rfl,b1⟩;have HB:=hid b1;go_wp2_with fail;refine(Ga.out _ HB.out).mono ?_;rintro e w2⟨r,rfl,-,hb⟩;have HF:Hid _:=Gd.out r w2 (HB.out.trans (hb.mono HB.out.size));go_wp2;go_ret2;exact HF.out
theorem zoh(h:Fu w B g b n now aa ab ao ac L L T)(hd:Fm (L.map KV.key)=true)(hs:∀t∈T,t.size<=200)(hT:T.length=1):
  Calls prog 201 #[.pointer (some ⟨g,0,none⟩)] w (F2 w B g b now aa ab ao ac T ad (L.map KV.key) (L.map KV.key,He (Hj (Fb L (T.getD 0 empty)).key.val.pj))):=by
 have Ge:=Lh hs 0;have Ga:=N4 hd (T.getD 0 empty);obtain⟨a1,n1,k1,a2,n2,k2,a3,n3,k3,e1,e2,e3,hH⟩:=h.held (by omega) Ge;have Gd:=(h.keyOwn (T.getD 0 empty)).pj;obtain⟨xa,xA,xc,xe,xz⟩:=Ox Gd;rw[e2]at xe;injection xe with x1 x2 x3;subst x1 x2 x3;have HH:=hid hH;have HP:=hid fun W (hb:Bl w W)=>A8 a2 xA (Fb L (T.getD 0 empty)).key.val.pj.length k2 (Fb L (T.getD 0 empty)).key.val.pj W (xz.bw hb) (by have:=Ga.np;omega);have Gf:Hid (∀t∈Hj (Fb L (T.getD 0 empty)).key.val.pj,t.size<=1048576):=fun t ht=>by
  unfold Hj at ht;obtain⟨p,hp,ht⟩:=List.mem_flatMap.1 ht;have:=Ga.pj p hp;rcases List.mem_cons.1 ht with rfl|ht
  ·omega
  ·rcases List.mem_singleton.1 ht with rfl;omega
 have Gg:Hid ((Hj (Fb L (T.getD 0 empty)).key.val.pj).length<=1048576):=by unfold Hid;rw[Tu];have:=Ga.np;omega
 have Gc:Hid (∀R r w',Fr w' w.heap.size r R->Bl w w'->F2 w B g b now aa ab ao ac T ad (L.map KV.key) (L.map KV.key,R) (.returned (.tuple #[r,.nilIface])) w'):=fun R r w' h1 h2=>M7 h ⟨r,rfl,h1,h2⟩;generalize Hj (Fb L (T.getD 0 empty)).key.val.pj=X,(Fb L (T.getD 0 empty)).key.val.pj.length=pl,L.map KV.key=ks,(Fb L (T.getD 0 empty)).key.val.kind=kd,(Fb L (T.getD 0 empty)).key.val.text=tx at*;have hf:=fun W=>B1 (.int .i64 kd) (.string tx) (.slice a1 n1 k1) (.slice a2 pl k2) (.slice a3 n3 k3) W;go_enter func201,ntmps201;go_wp2_with fail;refine(HH.out _ (Qb _ _)).mono ?_;rintro e w0⟨rfl,b0⟩;have Gb:=hid b0;go_wp2_with fail;refine(HP.out _ Gb.out).mono ?_;rintro e w1⟨v,rfl,o1,b1⟩;have HB:=hid (Gb.out.trans (b1.mono Gb.out.size));obtain⟨a4,A4,c4,rfl,h1,_,_⟩:=N2 o1 Gf.out;have HR:=hid (Ew a4 A4 0 X.length c4 X w1 h1 Gg.out);generalize X.length=m at*;go_wp2_with fail;refine HR.out.mono ?_;rintro e w2⟨r,rfl,hr,hb⟩;have HF:Hid _:=Gc.out _ r w2 (hr.le HB.out.size) (HB.out.trans (hb.mono HB.out.size));go_wp2;go_ret2;exact HF.out
end
theorem zvj(a:Option Addr)(b off n c:Nat)(R:List Kk.Rk)(m:ByteArray)(w:World)(h:Kk.F7 w a b off n R)(hn:n<=1048577):
  Calls prog 258 #[.slice a n c,.string m] w fun e w'=>e=.returned (.int .i64 (Hg R m 0))/\Bl w w':=by
 have hl:=h.len;refine(Kk.zqi a b off n c R m w h hn).mono ?_;rintro e w'⟨⟨r,rfl,hr⟩,hb⟩;refine⟨?_,hb⟩;rcases hr with⟨k,rfl,hk,hm,hf⟩|⟨rfl,hf⟩
 ·rw[D5 R m k 0 (by omega) hf hm];simp
 ·rw[C8 R m 0 (fun j hj=>hf j (by omega))]
theorem zzc(m:ByteArray):∀(R:List Kk.Rk) (s:Nat),Hg R m s= -1\/(s:Int)<=Hg R m s
 |[],_=> .inl rfl
 |x::r,s=>by
  show(if x.m=m then(s:Int) else Hg r m (s+1))= -1\/(s:Int)<=if x.m=m then(s:Int) else Hg r m (s+1);split
  ·exact .inr (Int.le_refl _)
  ·rcases zzc m r (s+1)with h|h
   ·exact .inl h
   ·exact .inr (by omega)
theorem Io(R:List Kk.Rk)(m:ByteArray):(Hg R m 0= -1)\/∃k:Nat,Hg R m 0=(k:Int)/\k<R.length:=by
 rcases zzc m R 0 with h|h
 ·exact .inl h
 ·exact .inr (Y0 R m (by omega))
section
variable (B g b n:Nat) (now:Int) (aa:Option Addr) (ab ao ac:Nat) (L:List KV) (T:List ByteArray) (ad:Nat->Addr) (w:World)
theorem ztr(h:Fu w B g b n now aa ab ao ac L L T)(hd:Fm (L.map KV.key)=true)(hs:∀t∈T,t.size<=200)(hT:T.length=2):
  Calls prog 206 #[.pointer (some ⟨g,0,none⟩)] w (F2 w B g b now aa ab ao ac T ad (L.map KV.key) (if Hg (Fb L (T.getD 0 empty)).key.val.rq (T.getD 1 empty) 0<0 then(L.map KV.key,G7) else(L.map KV.key,Fe (Hg (Fb L (T.getD 0 empty)).key.val.rq (T.getD 1 empty) 0)))):=by
 have Gh:=Lh hs 0;have Gg:=N4 hd (T.getD 0 empty);obtain⟨a1,n1,k1,a2,n2,k2,a3,n3,k3,e1,e2,e3,hH⟩:=h.held (by omega) Gh;have Ge:=(h.keyOwn (T.getD 0 empty)).rq;obtain⟨xa,xA,xc,xe,xz⟩:=Kk.N7 Ge;rw[e3]at xe;injection xe with x1 x2 x3;subst x1 x2 x3;have HH:=hid hH;have Gb:Hid (∀R r w',Fr w' w.heap.size r R->Bl w w'->F2 w B g b now aa ab ao ac T ad (L.map KV.key) (L.map KV.key,R) (.returned (.tuple #[r,.nilIface])) w'):=fun R r w' h1 h2=>M7 h ⟨r,rfl,h1,h2⟩;have HP:=hid fun W (hb:Bl w W)=>zvj a3 xA 0 (Fb L (T.getD 0 empty)).key.val.rq.length k3 (Fb L (T.getD 0 empty)).key.val.rq (T.getD 1 empty) W (xz.bw hb) (by have:=Gg.nr;omega);have HN:=hid fun W=>Cl W;obtain⟨-,c1⟩:=h.arg 1 (by omega);have HA:Hid (∀V,Bl w V->V.cell? ⟨g,2,none⟩=some (.slice aa T.length ac)/\V.cell? ⟨ab,ao+1,none⟩=some (.string (T.getD 1 empty))):=fun V hb=>⟨(h.bw hb).call.c2,c1 V (hb.mono h.le)⟩;obtain rfl:=h.call.args.addr (by omega);rw[hT]at HA;have Gk:=Io (Fb L (T.getD 0 empty)).key.val.rq (T.getD 1 empty);have HC:=hid fun W s=>Pg s W;generalize Hg (Fb L (T.getD 0 empty)).key.val.rq (T.getD 1 empty) 0=z,(Fb L (T.getD 0 empty)).key.val.rq.length=rl,L.map KV.key=ks,(Fb L (T.getD 0 empty)).key.val.kind=kd,(Fb L (T.getD 0 empty)).key.val.text=tx at*;generalize(T.getD 1 empty)=t1 at*;have hf:=fun W=>Wq (.int .i64 kd) (.string tx) (.slice a1 n1 k1) (.slice a2 n2 k2) (.slice a3 rl k3) W;obtain⟨q0,q1⟩:=HA.out w.drew (below_drewN (Qb _ _) 1);obtain⟨pp,Gc⟩:∃pp,(if z<0 then(ks,G7) else(ks,Fe z))=pp:=⟨_,rfl⟩;rw[Gc];have Gf:=hid Gc;have Gj:z<0\/0<=z:=by omega
 go_enter func206,ntmps206;go_upto_region 1 with fail;go_region_held3 (fun V=>V.cell? ⟨g,2,none⟩=some (.slice (some ⟨ab,ao,none⟩) 2 ac)/\V.cell? ⟨ab,ao+1,none⟩=some (.string t1))
  (first|exact HA.out _ (Qb _ _)|exact⟨q0,q1⟩|exact HA.out _ Gd|exact HA.out _ Ga)
  (first
   |(go_at_call 239;refine(HH.out _ (below_drewN (Qb _ w) 1)).mono ?_;rintro e w2⟨rfl,b2⟩;have Ga:=(below_drewN (Qb _ w) 1).trans b2)
   |(go_at_call 258;refine(HP.out _ Ga).mono ?_;rintro e w3⟨rfl,b3⟩;have Gd:=Ga.trans (b3.mono Ga.size)))
 all_goals
  have HB:=hid Gd;rcases Gj with hzn|hzp
  ·obtain rfl:(ks,G7)=pp:=by have:=Gf.out;rwa[if_pos hzn]at this
   have Gi:decide (z<0)=true:=Qe hzn;go_wp2_with fail;refine(HN.out _).mono ?_;rintro e w4⟨r,rfl,hr,hb⟩;have HF:Hid _:=Gb.out _ r w4 (hr.le HB.out.size) (HB.out.trans (hb.mono HB.out.size));go_wp2;go_ret2;exact HF.out
  ·obtain rfl:(ks,Fe z)=pp:=by have:=Gf.out;rwa[if_neg (by omega)]at this
   have Gi:decide (z<0)=false:=Qf (by omega);go_wp2_with fail;refine(HC.out _ _).mono ?_;rintro e w4⟨r,rfl,hr,hb⟩;have HF:Hid _:=Gb.out _ r w4 (hr.le HB.out.size) (HB.out.trans (hb.mono HB.out.size));go_wp2;go_ret2;exact HF.out
theorem zp8(h:Fu w B g b n now aa ab ao ac L L T)(hd:Fm (L.map KV.key)=true)(hE:Lk w B ad)(hs:∀t∈T,t.size<=200)(hT:T.length=2):
  Calls prog 205 #[.pointer (some ⟨g,0,none⟩)] w (F2 w B g b now aa ab ao ac T ad (L.map KV.key) (if Hg (Fb L (T.getD 0 empty)).key.val.rq (T.getD 1 empty) 0<0 then(L.map KV.key,G7) else(L.map KV.key,Fy (Kk.F1 ((Fb L (T.getD 0 empty)).key.val.rq.getD (Hg (Fb L (T.getD 0 empty)).key.val.rq (T.getD 1 empty) 0).toNat Kk.rk0).s)))):=by
 have Gk:=Lh hs 0;have Ge:=N4 hd (T.getD 0 empty);obtain⟨a1,n1,k1,a2,n2,k2,a3,n3,k3,e1,e2,e3,hH⟩:=h.held (by omega) Gk;have Gi:=(h.keyOwn (T.getD 0 empty)).rq;obtain⟨xa,xA,xc,xe,xz⟩:=Kk.N7 Gi;rw[e3]at xe;injection xe with x1 x2 x3;subst x1 x2 x3;have HH:=hid hH;have Gd:Hid (∀R r w',Fr w' w.heap.size r R->Bl w w'->F2 w B g b now aa ab ao ac T ad (L.map KV.key) (L.map KV.key,R) (.returned (.tuple #[r,.nilIface])) w'):=fun R r w' h1 h2=>M7 h ⟨r,rfl,h1,h2⟩;have HP:=hid fun W (hb:Bl w W)=>zvj a3 xA 0 (Fb L (T.getD 0 empty)).key.val.rq.length k3 (Fb L (T.getD 0 empty)).key.val.rq (T.getD 1 empty) W (xz.bw hb) (by have:=Ge.nr;omega);have HN:=hid fun W=>Cl W;obtain⟨-,c1⟩:=h.arg 1 (by omega);have HA:Hid (∀V,Bl w V->V.cell? ⟨g,2,none⟩=some (.slice aa T.length ac)/\V.cell? ⟨ab,ao+1,none⟩=some (.string (T.getD 1 empty))):=fun V hb=>⟨(h.bw hb).call.c2,c1 V (hb.mono h.le)⟩;obtain rfl:=h.call.args.addr (by omega);rw[hT]at HA;have Gl:=Io (Fb L (T.getD 0 empty)).key.val.rq (T.getD 1 empty);have HR:=hid fun W s=>Wt s W;have Gf:=hid fun W v (hv:Kk.Mn v) (hb:Bl w W)=>Kk.Ab v W hv (hE.bw (hb.mono h.le)).rd.tab;have HZ:=hid fun W (hb:Bl w W)=>xz.bw hb;have Gg:=hid Ge.rq;have Gn:=Ge.nr;generalize Hg (Fb L (T.getD 0 empty)).key.val.rq (T.getD 1 empty) 0=z at*;generalize hRR:(Fb L (T.getD 0 empty)).key.val.rq=RR at*;generalize L.map KV.key=ks,(Fb L (T.getD 0 empty)).key.val.kind=kd,(Fb L (T.getD 0 empty)).key.val.text=tx,(T.getD 1 empty)=t1 at*;have hf:=fun W=>Wq (.int .i64 kd) (.string tx) (.slice a1 n1 k1) (.slice a2 n2 k2) (.slice a3 RR.length k3) W;rcases Gl with hz|⟨k,hz,hk⟩
 ·rw[if_pos (by omega)];rw[hz]at HP;have Gb:=hid HP.out;generalize RR.length=rl at*;go_enter func205,ntmps205;go_wp2_with fail;refine(HH.out _ (Qb _ _)).mono ?_;rintro e w1⟨rfl,b1⟩;have HB:=hid b1;obtain⟨q0,q1⟩:=HA.out w1 b1;go_wp2_with fail;refine(Gb.out _ HB.out).mono ?_;rintro e w2⟨rfl,b2⟩;have Ga:=hid (HB.out.trans (b2.mono HB.out.size));go_wp2_with fail;refine(HN.out _).mono ?_;rintro e w4⟨r,rfl,hr,hb⟩;have HF:Hid _:=Gd.out _ r w4 (hr.le Ga.out.size) (Ga.out.trans (hb.mono Ga.out.size));go_wp2;go_ret2;exact HF.out
 ·rw[if_neg (by omega),hz,Int.toNat_natCast];have Gb:Hid (∀W,Bl w W->Cp 258 #[.slice a3 RR.length k3,.string t1] W fun e w'=>e=.returned (.int .i64 (k:Int))/\Bl W w'):=by rw[hz]at HP;exact HP.out
  obtain rfl:=(HZ.out w (Qb _ _)).addr (by omega);have Gj:Hid (∀W,Bl w W->W.cell? ⟨xA,k*2+1,none⟩=some (.int .i64 (RR.getD k Kk.rk0).s)):=fun W hb=>by have:=((HZ.out W hb).cell k hk).c1;rwa[Qq]at this
  have Gm:=Gg.out (RR.getD k Kk.rk0) (by rw[Qa,Qd hk];exact Qv hk);have Gc:Hid (∀W,Bl w W->Cp 115 #[.int .i64 (RR.getD k Kk.rk0).s,.int .i64 10] W fun e w'=>e=.returned (.string (Kk.F1 (RR.getD k Kk.rk0).s))/\Bl W w'):=fun W hb=>Gf.out W _ ⟨by omega,by omega⟩ hb;generalize(RR.getD k Kk.rk0).s=sc,RR.length=rl at*;have Gp:(0:Int)<=(k:Int):=by omega
  have Gq:(k:Int)<(rl:Int):=by omega
  have Gr:decide ((k:Int)<0)=false:=Qf (by omega);go_enter func205,ntmps205;go_wp2_with fail;refine(HH.out _ (Qb _ _)).mono ?_;rintro e w1⟨rfl,b1⟩;have HB:=hid b1;obtain⟨q0,q1⟩:=HA.out w1 b1;go_wp2_with fail;refine(Gb.out _ HB.out).mono ?_;rintro e w2⟨rfl,b2⟩;have Ga:=hid (HB.out.trans (b2.mono HB.out.size));have c2:=Gj.out w2 Ga.out;go_wp2_with fail;refine(Gc.out _ Ga.out).mono ?_;rintro e w3⟨rfl,b3⟩;have Gh:=hid (Ga.out.trans (b3.mono Ga.out.size));go_wp2_with fail;refine(HR.out _ _).mono ?_;rintro e w4⟨r,rfl,hr,hb⟩;have HF:Hid _:=Gd.out _ r w4 (hr.le Gh.out.size) (Gh.out.trans (hb.mono Gh.out.size));go_wp2;go_ret2;exact HF.out
end
theorem zoi(rs:List Kk.Rk)(f l:Int):N3 (rs.map Kk.Rk.m) f l=Pc rs f l:=by
 unfold N3 Pc;rw[Qp,List.map_drop,List.map_take]
theorem zro(B g b n:Nat)(now:Int)(aa:Option Addr)(ab ao ac:Nat)(L:List KV)(T:List ByteArray)(ad:Nat->Addr)(w:World)(h:Fu w B g b n now aa ab ao ac L L T)(hd:Fm (L.map KV.key)=true)(hE:Lk w B ad)(hs:∀t∈T,t.size<=200)(hT:T.length=3):
  Calls prog 207 #[.pointer (some ⟨g,0,none⟩)] w (F2 w B g b now aa ab ao ac T ad (L.map KV.key) (if M8 T=true then(L.map KV.key,He (Pc (Fb L (T.getD 0 empty)).key.val.rq (Fg (T.getD 1 empty)).1 (Fg (T.getD 2 empty)).1)) else(L.map KV.key,Fl F3))):=by
 have Kb:=Lh hs 0;have Gp:=N4 hd (T.getD 0 empty);obtain⟨a1,n1,k1,a2,n2,k2,a3,n3,k3,e1,e2,e3,hH⟩:=h.held (by omega) Kb;have Gr:=(h.keyOwn (T.getD 0 empty)).rq;obtain⟨xa,xA,xc,xe,xz⟩:=Kk.N7 Gr;rw[e3]at xe;injection xe with x1 x2 x3;subst x1 x2 x3;have HH:=hid hH;have Gh:Hid (∀R r w',Fr w' w.heap.size r R->Bl w w'->F2 w B g b now aa ab ao ac T ad (L.map KV.key) (L.map KV.key,R) (.returned (.tuple #[r,.nilIface])) w'):=fun R r w' h1 h2=>M7 h ⟨r,rfl,h1,h2⟩;have HZ:=hid fun W (hb:Bl w W)=>xz.bw hb;have Gv:=hid Gp.rq;have Kc:=Gp.nr;have HS:Hid (∀W (X:List ByteArray) a xb cp,X.length<=1048576->Fs W a xb 0 X.length X->X.length<=cp->(a=none->cp=0)->Bl w W->Cp 248 #[.pointer (some ⟨g,0,none⟩),.slice a X.length cp] W fun e w'=>∃r,e=.returned (.tuple #[r,Lf (ad 12) (M8 T)])/\(M8 T=true->Fr w' W.heap.size r (He (N3 X (Fg (T.getD 1 empty)).1 (Fg (T.getD 2 empty)).1)))/\Bl W w'):=fun W X a xb cp h1 h2 h3 h4 hb=>zi1 B g b n now aa ab ao ac L L T ad W (h.bw hb) (hE.bw (hb.mono h.le)) hT hs X a xb 0 cp h2 h3 h1 h4;have Gi:Hid (∀r w',Bl w w'->F2 w B g b now aa ab ao ac T ad (L.map KV.key) (L.map KV.key,Fl F3) (.returned (.tuple #[r,.iface 307 (.pointer (some (ad 12)))])) w'):=fun r w' h2=>Ul 12 (by omega) (h2.mono h.le);generalize(Fb L (T.getD 0 empty)).key.val.rq=RR,L.map KV.key=ks,(Fb L (T.getD 0 empty)).key.val.kind=kd,(Fb L (T.getD 0 empty)).key.val.text=tx at*;have Gy:Hid (N3 (RR.map Kk.Rk.m) (Fg (T.getD 1 empty)).1 (Fg (T.getD 2 empty)).1=Pc RR (Fg (T.getD 1 empty)).1 (Fg (T.getD 2 empty)).1):=zoi RR _ _;generalize hz1:(Fg (T.getD 1 empty)).1=z1 at*;generalize hz2:(Fg (T.getD 2 empty)).1=z2 at*;generalize M8 T=so at*;have hf:=fun W=>Wq (.int .i64 kd) (.string tx) (.slice a1 n1 k1) (.slice a2 n2 k2) (.slice a3 RR.length k3) W;obtain⟨pp,Gl⟩:∃pp,(if so=true then(ks,He (Pc RR z1 z2)) else(ks,Fl F3))=pp:=⟨_,rfl⟩;rw[Gl];have Gg:=hid Gl;obtain⟨m,Gk⟩:∃m,RR.length=m:=⟨_,rfl⟩;have Gm:=hid Gk;rw[Gk]at HH hf Kc HZ;go_enter func207,ntmps207;go_wp2_with fail;refine(HH.out _ (Qb _ _)).mono ?_;rintro e w1⟨rfl,b1⟩;have Gf:=hid b1;have Gt:Hid (Nf w1 (.slice none 0 0) w1 []):=⟨World.ownsRow_nil _ _ _ _,Qb _ _⟩;go_wp2;go_loopw [4,11] (fun v i wr=>∃k:Nat,k<=m/\i=.int .i64 k/\Hid (Nf w1 v wr ((RR.take k).map Kk.Rk.m))) (fun _ i _=>m-(intOf i).toNat)
 case atStart=>exact⟨0,by omega,rfl,Gt⟩
 case round=>
  obtain⟨k,hk,rfl,hI⟩:=hrel;by_cases hlt:k<m
  ·have Gx:k<RR.length:=by rw[Gm.out];exact hlt
   have Gb:=Gf.out.trans (hI.out.bel.mono Gf.out.size);have Gj:=(HZ.out wr Gb).cell k hlt;obtain rfl:=(HZ.out wr Gb).addr (by omega);have d0:=Gj.c0;have d1:=Gj.c1;rw[Qq]at d0 d1;obtain⟨x,hx⟩:∃x,RR.getD k Kk.rk0=x:=⟨_,rfl⟩;rw[hx]at d0 d1;have Gs:Hid ((RR.take k).map Kk.Rk.m++ [x.m]=(RR.take (k+1)).map Kk.Rk.m):=by
    unfold Hid;rw[Qo Gx,List.map_append,<-hx,Qa,Qd Gx];rfl
   obtain⟨W0,Ki,Kf,b0,q0⟩:=boxed wr #[.string ⟨#[]⟩,.int .i64 0] 147;have Gw:=q0.set 0 (.string x.m);have Gq:=Gw.set 1 (.int .i64 x.s);have hl:=Qc wr.heap.size;have b4:Bl wr ((W0.setCell ⟨wr.heap.size,0,none⟩ (.string x.m)).setCell ⟨wr.heap.size,1,none⟩ (.int .i64 x.s)):=(b0.setCell hl _).setCell hl _;obtain⟨W4,Kd⟩:∃W4,(W0.setCell ⟨wr.heap.size,0,none⟩ (.string x.m)).setCell ⟨wr.heap.size,1,none⟩ (.int .i64 x.s)=W4:=⟨_,rfl⟩;rw[Kd]at Gq b4;have y0:=q0.cell 0;have y1:=q0.cell 1;have z0:=q0.frozen 0;have Kh:=q0.frozen 1;have u0:=Gq.cell 0;simp only[Qm,Qk,Ql]at y0 y1 u0;have Gu:Nf w1 u4 W4 ((RR.take k).map Kk.Rk.m):=⟨Fw hI.out.own b4,hI.out.bel.trans (b4.mono hI.out.bel.size)⟩;obtain⟨v',w2,r2,Gn⟩:=Gu.next x.m (by rw[Qp,Qn];omega);rw[Gs.out]at Gn;have R2:Hid _:=r2;have Ka:Hid _:=Gn;have Kj:(k:Int)<(m:Int):=by omega
   go_wp2_with (at_builtin;refine wpList_append_run rfl _ _ 25 rfl rfl rfl R2.out ?_);exact⟨⟨k+1,by omega,by go_num,Ka⟩,by simp[intOf];omega⟩
  ·obtain rfl:k=m:=by omega
   have Ga:RR.take k=RR:=by rw[<-Gm.out];exact List.take_length
   rw[Ga]at hI;have Gb:=Gf.out.trans (hI.out.bel.mono Gf.out.size)
   obtain⟨a4,A4,c4,Gz,h4,l4,_⟩:=N2 hI.out.own (fun t ht=>by
    obtain⟨r,hr,rfl⟩:=List.mem_map.1 ht;have:=Gv.out r hr;omega)
   subst Gz;have Gc:=HS.out wr (RR.map Kk.Rk.m) a4 A4 c4 (by rw[Qp,Gm.out];omega) h4 l4 (Do hI.out.own) Gb;rw[Gy.out]at Gc;have Gd:=hid Gb;generalize(RR.map Kk.Rk.m).length=ml,Pc RR z1 z2=ri at*;cases so with
   |true=>
    obtain rfl:(ks,He ri)=pp:=Gg.out;have Ge:=hid Gc;go_wp2_with fail;refine Ge.out.mono ?_;rintro e w2⟨r,rfl,hr,hb⟩;have HF:Hid _:=Gh.out _ r w2 ((hr trivial).le Gd.out.size) (Gd.out.trans (hb.mono Gd.out.size));go_wp2;go_ret2;exact HF.out
   |false=>
    obtain rfl:(ks,Fl F3)=pp:=Gg.out;have Ge:=hid Gc;generalize ad 12=A at*;go_wp2_with fail;refine Ge.out.mono ?_;rintro e w2⟨r,rfl,-,hb⟩;have HF:Hid _:=Gi.out r w2 (Gd.out.trans (hb.mono Gd.out.size));go_wp2;go_ret2;exact HF.out
end Rb
namespace Rb
open Tryz
open _root_.ByteArray (empty)
open Go.RowKit Go.Maps
open Ri (F4 RK UpK Fq G2 Nb Mk Ln kvA z7 Ow Rv Ou Ru)
variable {ps:List Pr} {i:Nat}
def Hy (ps:List Pr) (nm:ByteArray) (j:Nat):Int:=Rl (ps.getD j (bz,bz)) (nm,bz)
structure Low (ps:List Pr) (nm:ByteArray) (n i:Nat):Prop where
 le:i<=n
 lo:∀j,j<i->Hy ps nm j<0
 hi:∀j,i<=j->j<n->0<=Hy ps nm j
def Ib (ps:List Pr) (nm:ByteArray) (n:Nat):Prop:=∀i j,i<=j->j<n->Hy ps nm j<0->Hy ps nm i<0
section
variable (a:Option Addr) (b n c:Nat) (ps:List Pr) (nm:ByteArray) (w:World)
theorem zwz(h:Li w a b n ps)(hn:n<=1000)(hm:Ib ps nm n):
  Calls prog 276 #[.slice a n c,.agg #[.string nm,.string ⟨#[]⟩],.func (.func 277) #[] #[]] w fun e w'=>(∃i:Nat,e=.returned (.tuple #[.int .i64 i,.bool (decide (i<n)&&decide (Hy ps nm i=0))])/\Low ps nm n i)/\Bl w w':=by
 obtain⟨W0,Gt,Gl,b0,q0⟩:=boxed w #[.string nm,.string ⟨#[]⟩] 145;have H:=hid h;have HM:=hid hm;have Gg:Hid (∀W,Bl W0 W->W.cell? ⟨w.heap.size,0,none⟩=some (.string nm)/\W.cell? ⟨w.heap.size,1,none⟩=some (.string ⟨#[]⟩)):=fun W hb=>⟨(q0.bw hb q0.lt).cell 0,(q0.bw hb q0.lt).cell 1⟩;have Gc:=hid b0;have HC:=hid fun W j=>znp (ps.getD j (bz,bz)) (nm,bz) W;have HS:Hid (Bl W0 W0):=Qb _ _;clear h hm b0 q0 Gt;go_enter func276,ntmps276;go_upto_region 1 with fail;rw[Gl.out];clear Gl;go_wp2;go_loopg [9,10] n (fun kx s9 s10 wr=>∃lo hi:Nat,s9=.int .i64 lo/\s10=.int .i64 hi/\lo<=hi/\hi<=n/\hi-lo<=kx/\Hid (Bl W0 wr)/\Hid ((∀t,t<lo->Hy ps nm t<0)/\∀t,hi<=t->t<n->0<=Hy ps nm t))
 case atStart=>exact⟨0,n,rfl,rfl,Qs _,Qc _,by omega,HS,⟨fun t ht=>by omega,fun t h1 h2=>by omega⟩⟩
 case round=>
  clear HS;obtain⟨lo,hi,rfl,rfl,Gz,Gk,hg,S1,I⟩:=hrel;have Gn:=Gc.out.trans (S1.out.mono Gc.out.size);by_cases hlt:lo<hi
  ·have Gb:(lo+hi)/2<n:=by omega
   have c0:=(H.out.bw Gn).c0 ((lo+hi)/2) Gb;have c1:=(H.out.bw Gn).c1 ((lo+hi)/2) Gb;obtain rfl:=H.out.addr (by omega);obtain⟨u0,u1⟩:=Gg.out wr S1.out;have Gd:Hid (∀W,Bl W0 W->W.cell? ⟨b,(lo+hi)/2*2,none⟩=some (.string (ps.getD ((lo+hi)/2) (bz,bz)).1)/\W.cell? ⟨b,(lo+hi)/2*2+1,none⟩=some (.string (ps.getD ((lo+hi)/2) (bz,bz)).2)/\W.cell? ⟨w.heap.size,0,none⟩=some (.string nm)/\W.cell? ⟨w.heap.size,1,none⟩=some (.string ⟨#[]⟩)):=fun W hb=>by
    have Gi:=Gc.out.trans (hb.mono Gc.out.size);exact⟨(H.out.bw Gi).c0 _ Gb,(H.out.bw Gi).c1 _ Gb,Gg.out W hb⟩
   have Gh:Hid (∀W,Cp 277 #[.agg #[.string (ps.getD ((lo+hi)/2) (bz,bz)).1,.string (ps.getD ((lo+hi)/2) (bz,bz)).2],.agg #[.string nm,.string ⟨#[]⟩]] W fun e w'=>e=.returned (.int .i64 (Hy ps nm ((lo+hi)/2)))/\Bl W w'):=fun W=>HC.out W _;have HZ:Hid (∀z,Hy ps nm ((lo+hi)/2)=z->(z<0->∀t,t<(lo+hi)/2+1->Hy ps nm t<0)/\(¬z<0->∀t,(lo+hi)/2<=t->t<n->0<=Hy ps nm t)):=fun z hz=>⟨fun h t ht=>HM.out t ((lo+hi)/2) (by omega) Gb (by rw[hz];exact h),fun h t ht htn=>Int.not_lt.1 fun h2=>h (by rw[<-hz];exact HM.out _ t ht htn h2)⟩;generalize Gp:Hy ps nm ((lo+hi)/2)=z at*;have Gq:=HZ.out z rfl;have Gm:=hid Gq;clear HZ Gq Gp;generalize(ps.getD ((lo+hi)/2) (bz,bz)).1=p1,(ps.getD ((lo+hi)/2) (bz,bz)).2=p2 at*;have Gy:(0:Int)<=(((lo+hi)/2:Nat):Int):=by omega
   have Kb:(((lo+hi)/2:Nat):Int)<(n:Int):=by omega
   have Gx:((lo:Int)+(hi:Int))/2=(((lo+hi)/2:Nat):Int):=by omega
   generalize hmm:(lo+hi)/2=md at*;have Gv:z<0\/¬z<0:=Classical.em _;clear c0 c1;go_upto_region 5 with fail;go_region_held3 (fun V=>V.cell? ⟨b,md*2,none⟩=some (.string p1)/\V.cell? ⟨b,md*2+1,none⟩=some (.string p2)/\V.cell? ⟨w.heap.size,0,none⟩=some (.string nm)/\V.cell? ⟨w.heap.size,1,none⟩=some (.string ⟨#[]⟩))
    (first|exact Gd.out _ S1.out|exact Gd.out _ (below_drewN S1.out 1)|exact Gd.out _ Gf)
    (first
     |(first|go_at_call 277|go_at_fn 277
       refine(Gh.out _).mono ?_;rintro e w2⟨rfl,b2⟩;have Gf:=(below_drewN S1.out 1).trans (b2.mono S1.out.size)))
   all_goals
    have HB:=hid Gf;clear Gf b2 Gh Gd HC Gg;rcases Gv with hz|hz
    ·have Gu:decide (z<0)=true:=Qe hz;go_wp2;go_roundg (hi-(md+1))
     case measure=>omega
     case rel=>
      exact⟨md+1,hi,by go_num,rfl,by omega,Gk,Qc _,HB,Gm.out.1 hz,I.out.2⟩
    ·have Gu:decide (z<0)=false:=Qf (by omega);go_wp2;go_roundg (md-lo)
     case measure=>omega
     case rel=>
      exact⟨lo,md,rfl,rfl,by omega,by omega,Qc _,HB,I.out.1,Gm.out.2 (by omega)⟩
  ·obtain rfl:hi=lo:=by omega
   have Ge:Hid (Low ps nm n hi):=⟨Gk,I.out.1,I.out.2⟩;by_cases hne:hi<n
   ·have Gd:Hid (∀W,Bl W0 W->W.cell? ⟨b,hi*2,none⟩=some (.string (ps.getD hi (bz,bz)).1)/\W.cell? ⟨b,hi*2+1,none⟩=some (.string (ps.getD hi (bz,bz)).2)/\W.cell? ⟨w.heap.size,0,none⟩=some (.string nm)/\W.cell? ⟨w.heap.size,1,none⟩=some (.string ⟨#[]⟩)):=fun W hb=>by
     have Gi:=Gc.out.trans (hb.mono Gc.out.size);exact⟨(H.out.bw Gi).c0 _ hne,(H.out.bw Gi).c1 _ hne,Gg.out W hb⟩
    have Gh:Hid (∀W,Cp 277 #[.agg #[.string (ps.getD hi (bz,bz)).1,.string (ps.getD hi (bz,bz)).2],.agg #[.string nm,.string ⟨#[]⟩]] W fun e w'=>e=.returned (.int .i64 (Hy ps nm hi))/\Bl W w'):=fun W=>HC.out W _;obtain rfl:=H.out.addr (by omega);obtain⟨fb,Gj⟩:∃fb,(decide (hi<n)&&decide (Hy ps nm hi=0))=fb:=⟨_,rfl⟩;have Gr:=hid Gj;have Ga:Hid (∀W,Bl W0 W->(∃i:Nat,Ending.returned (.tuple #[.int .i64 hi,.bool fb])=.returned (.tuple #[.int .i64 i,.bool (decide (i<n)&&decide (Hy ps nm i=0))])/\Low ps nm n i)/\Bl w W):=fun W hb=>⟨⟨hi,by rw[Gr.out],Ge.out⟩,Gc.out.trans (hb.mono Gc.out.size)⟩;have Gp:(Hy ps nm hi==0)=fb:=by rw[<-Gj,Qe hne,Qz];rfl
    clear Gj Gr;generalize Hy ps nm hi=z,(ps.getD hi (bz,bz)).1=p1,(ps.getD hi (bz,bz)).2=p2 at*;have Ka:(0:Int)<=(hi:Int):=by omega
    have Gw:(hi:Int)<(n:Int):=by omega
    clear HC Gg I Ge HM H;go_upto_region 8 with fail;go_region_held3 (fun V=>V.cell? ⟨b,hi*2,none⟩=some (.string p1)/\V.cell? ⟨b,hi*2+1,none⟩=some (.string p2)/\V.cell? ⟨w.heap.size,0,none⟩=some (.string nm)/\V.cell? ⟨w.heap.size,1,none⟩=some (.string ⟨#[]⟩))
     (first|exact Gd.out _ S1.out|exact Gd.out _ (below_drewN S1.out 1)|exact Gd.out _ Gf)
     (first
      |(first|go_at_call 277|go_at_fn 277
        refine(Gh.out _).mono ?_;rintro e w2⟨rfl,b2⟩;have Gf:=(below_drewN S1.out 1).trans (b2.mono S1.out.size)))
    all_goals
     have HF:Hid _:=Ga.out w2 Gf;clear Gf b2 Gh Gd Ga;go_wp2;go_ret2;exact HF.out
   ·obtain rfl:hi=n:=by omega
    have Ga:Hid (∀W,Bl W0 W->(∃i:Nat,Ending.returned (.tuple #[.int .i64 hi,.bool false])=.returned (.tuple #[.int .i64 i,.bool (decide (i<hi)&&decide (Hy ps nm i=0))])/\Low ps nm hi i)/\Bl w W):=fun W hb=>⟨⟨hi,by rw[Qf hne];rfl,Ge.out⟩,Gc.out.trans (hb.mono Gc.out.size)⟩;have HF:Hid _:=Ga.out wr.drew (below_drewN S1.out 1);have Gs:decide ((hi:Int)<(hi:Int))=false:=by simp
    clear HC Gg I Ge HM Ga;go_upto_region 8 with fail;go_region;go_wp2;go_ret2;exact HF.out
theorem zmk(h:Li w a b n ps)(hn:n<=1000)(hm:Ib ps nm n):
  Calls prog 250 #[.slice a n c,.string nm] w fun e w'=>(∃i:Nat,e=.returned (.tuple #[.int .i64 i,.bool (decide (i<n)&&decide (Hy ps nm i=0))])/\Low ps nm n i)/\Bl w w':=by
 have HS:=hid (zwz a b n c ps nm w h hn hm);go_enter func250,ntmps250;go_wp2_with fail;refine HS.out.mono ?_;rintro e w1⟨⟨i,rfl,hl⟩,hb⟩;have HF:Hid (Low ps nm n i/\Bl w w1):=⟨hl,hb⟩;generalize hfb:(decide (i<n)&&decide (Hy ps nm i=0))=fb;have Ga:=hid hfb;go_wp2;go_ret2;exact⟨⟨i,by rw[Ga.out];rfl,HF.out.1⟩,HF.out.2⟩
end
theorem zj9:∀a b:List UInt8,Lib.compareBytes a b=0↔a=b
 |[],[]=>by simp[Lib.compareBytes]
 |[],_::_=>by simp[Lib.compareBytes]
 |_::_,[]=>by simp[Lib.compareBytes]
 |a::x,b::y=>by
  unfold Lib.compareBytes;by_cases h1:a<b
  ·rw[if_pos h1];constructor
   ·intro e;cases e
   ·intro e;injection e with e1 e2;subst e1;exact absurd h1 (by simp[UInt8.lt_irrefl])
  ·rw[if_neg h1];by_cases h2:b<a
   ·rw[if_pos h2];constructor
    ·intro e;cases e
    ·intro e;injection e with e1 e2;subst e1;exact absurd h2 (by simp[UInt8.lt_irrefl])
   ·rw[if_neg h2,zj9 x y,List.cons.injEq];have:a=b:=UInt8.le_antisymm (UInt8.not_lt.1 h2) (UInt8.not_lt.1 h1);simp[this]
section
variable (ps:List Pr) (nm:ByteArray) (j:Nat)
theorem Rx:Hy ps nm j=0↔(ps.getD j (bz,bz)).1=nm:=by
 unfold Hy Rl;rw[zj9];exact⟨fun e=>ByteArray.ext (Array.toList_inj.1 e),fun e=>by rw[e]⟩
theorem T7:Hy ps nm j<0↔bytesBefore (ps.getD j (bz,bz)).1.data.toList nm.data.toList=true:=by
 have h:=Kk.Bk (ps.getD j (bz,bz)).1.data.toList nm.data.toList;rw[<-Ri.Ca]at h;unfold Hy Rl;rw[<-h,decide_eq_true_iff]
end
def UpP (ps:List Pr):Prop:=ps.Pairwise fun x y=>bytesBefore x.1.data.toList y.1.data.toList=true
theorem C5(h:UpP ps){j:Nat}(hij:i<j)(hj:j<ps.length):bytesBefore (ps.getD i (bz,bz)).1.data.toList (ps.getD j (bz,bz)).1.data.toList=true:=by
 unfold UpP at h;rw[List.pairwise_iff_getElem]at h;have:=h i j (by omega) hj hij;rwa[Qa,Qa,Qd hj,Qd (by omega:i<ps.length)]
theorem ycz(h:Cz ps=true):UpP ps:=by
 unfold Cz at h;rw[Qw]at h;have Ga:∀i,i+1<ps.length->bytesBefore (ps.getD i (bz,bz)).1.data.toList (ps.getD (i+1) (bz,bz)).1.data.toList=true:=fun i hi=>by
  have:=h (i+1) (List.mem_range.2 hi);rw[Nat.add_sub_cancel,Bool.or_eq_true]at this;rcases this with e|e
  ·simp at e
  ·rwa[J0]at e
 have Gb:∀d i,i+d+1<ps.length->bytesBefore (ps.getD i (bz,bz)).1.data.toList (ps.getD (i+d+1) (bz,bz)).1.data.toList=true:=by
  intro d;induction d with
  |zero=>intro i hi;exact Ga i hi
  |succ d ih=>
   intro i hi;exact WideShapes.bytes_trans _ _ _ (ih i (by omega)) (by have:=Ga (i+d+1) (by omega);rwa[show i+d+1+1=i+(d+1)+1 by omega]at this)
 unfold UpP;rw[List.pairwise_iff_getElem];intro i j hi hj hij;have:=Gb (j-i-1) i (by omega);rw[show i+(j-i-1)+1=j by omega,Qa,Qa,Qd hi,Qd hj]at this;exact this
theorem V5(h:UpP ps)(nm:ByteArray):Ib ps nm ps.length:=fun i j hij hj hc=>by
 rcases Nat.lt_or_ge i j with hl|hl
 ·rw[T7]at hc ⊢;exact WideShapes.bytes_trans _ _ _ (C5 h hl hj) hc
 ·obtain rfl:i=j:=by omega
  exact hc
theorem ycu(h:UpP ps){nm:ByteArray}(hl:Low ps nm ps.length i):if(decide (i<ps.length)&&decide (Hy ps nm i=0))=true then Mc ps nm 0=(i:Int)/\i<ps.length else Mc ps nm 0= -1:=by
 have Gb:∀j,Hy ps nm j<0->(ps.getD j (bz,bz)).1≠nm:=fun j hj e=>by
  have:=(Rx ps nm j).2 e;omega
 split
 ·rename_i hf;rw[Qh,decide_eq_true_iff,decide_eq_true_iff]at hf;refine⟨?_,hf.1⟩;rw[Dy ps nm i 0 hf.1 (fun j hj=>Gb j (hl.lo j hj)) ((Rx ps nm i).1 hf.2),Qq]
 ·rename_i hf;refine Eo ps nm 0 fun j hj e=>?_;rcases Nat.lt_or_ge j i with hji|hji
  ·exact Gb j (hl.lo j hji) e
  ·have Ga:i<ps.length:=by omega
   have h0:=hl.hi i (Qc _) Ga;have Gc:Hy ps nm i≠0:=fun ez=>hf (by rw[Qe Ga,Qe ez];rfl);rcases Nat.lt_or_ge i j with hl2|hl2
   ·have:=C5 h hl2 hj;rw[e,<-T7]at this;omega
   ·obtain rfl:i=j:=by omega
    exact Gc ((Rx ps nm i).2 e)
theorem yfr{v:Vl}(h:Ls v=true):UpP v.pj:=by
 have Ga:v.pj.length=0->UpP v.pj:=fun e=>by rw[List.length_eq_zero_iff.1 e];exact List.Pairwise.nil
 unfold Ls Nq at h;split at h
 ·simp only[Qh,decide_eq_true_iff]at h;exact Ga (by omega)
 ·split at h
  ·simp only[Qh,decide_eq_true_iff]at h;exact Ga (by omega)
  ·split at h
   ·simp only[Qh,decide_eq_true_iff]at h;have:=h.2.2;unfold Ma at this;simp only[Qh]at this;exact ycz this.2.2
   ·split at h
    ·simp only[Qh,decide_eq_true_iff]at h;exact Ga (by omega)
    ·cases h
theorem zvi{L:List KV}(hd:Fm (L.map KV.key)=true)(nm:ByteArray):UpP (Fb L nm).key.val.pj:=by
 rcases Oo L nm with⟨-,e⟩|⟨-,hm,-⟩
 ·rw[e];exact List.Pairwise.nil
 ·have hk:=((Ns _).1 hd).2.2 _ (List.mem_map_of_mem hm);unfold Hh at hk;rw[Qh,Qh]at hk;exact yfr hk.2.1
theorem zw8(B g b n:Nat)(now:Int)(aa:Option Addr)(ab ao ac:Nat)(L:List KV)(T:List ByteArray)(ad:Nat->Addr)(w:World)(h:Fu w B g b n now aa ab ao ac L L T)(hd:Fm (L.map KV.key)=true)(hs:∀t∈T,t.size<=200)(hT:T.length=2):
  Calls prog 198 #[.pointer (some ⟨g,0,none⟩)] w (F2 w B g b now aa ab ao ac T ad (L.map KV.key) (if Mc (Fb L (T.getD 0 empty)).key.val.pj (T.getD 1 empty) 0<0 then(L.map KV.key,G7) else(L.map KV.key,Fy ((Fb L (T.getD 0 empty)).key.val.pj.getD (Mc (Fb L (T.getD 0 empty)).key.val.pj (T.getD 1 empty) 0).toNat (bz,bz)).2))):=by
 have Gn:=Lh hs 0;have Gk:=N4 hd (T.getD 0 empty);have Gf:=zvi hd (T.getD 0 empty);obtain⟨a1,n1,k1,a2,n2,k2,a3,n3,k3,e1,e2,e3,hH⟩:=h.held (by omega) Gn;have Gi:=(h.keyOwn (T.getD 0 empty)).pj;obtain⟨xa,xA,xc,xe,xz⟩:=Ox Gi;rw[e2]at xe;injection xe with x1 x2 x3;subst x1 x2 x3;have HH:=hid hH;have HP:=hid fun W (hb:Bl w W)=>zmk a2 xA (Fb L (T.getD 0 empty)).key.val.pj.length k2 (Fb L (T.getD 0 empty)).key.val.pj (T.getD 1 empty) W (xz.bw hb) (by have:=Gk.np;omega) (V5 Gf _);have HZ:=hid fun W (hb:Bl w W)=>xz.bw hb;have Gg:=hid fun i (hi:Low (Fb L (T.getD 0 empty)).key.val.pj (T.getD 1 empty) (Fb L (T.getD 0 empty)).key.val.pj.length i)=>ycu Gf hi;have HN:=hid fun W=>Cl W;have HR:=hid fun W s=>Wt s W;obtain⟨-,c1⟩:=h.arg 1 (by omega);have HA:Hid (∀V,Bl w V->V.cell? ⟨g,2,none⟩=some (.slice aa T.length ac)/\V.cell? ⟨ab,ao+1,none⟩=some (.string (T.getD 1 empty))):=fun V hb=>⟨(h.bw hb).call.c2,c1 V (hb.mono h.le)⟩;have Gc:Hid (∀R r w',Fr w' w.heap.size r R->Bl w w'->F2 w B g b now aa ab ao ac T ad (L.map KV.key) (L.map KV.key,R) (.returned (.tuple #[r,.nilIface])) w'):=fun R r w' h1 h2=>M7 h ⟨r,rfl,h1,h2⟩;obtain rfl:=h.call.args.addr (by omega);rw[hT]at HA;generalize(Fb L (T.getD 0 empty)).key.val.pj=PP,L.map KV.key=ks,(Fb L (T.getD 0 empty)).key.val.kind=kd,(Fb L (T.getD 0 empty)).key.val.text=tx,(T.getD 1 empty)=t1 at*;have hf:=fun W=>B1 (.int .i64 kd) (.string tx) (.slice a1 n1 k1) (.slice a2 PP.length k2) (.slice a3 n3 k3) W;obtain⟨pp,Gh⟩:∃pp,(if Mc PP t1 0<0 then(ks,G7) else(ks,Fy (PP.getD (Mc PP t1 0).toNat (bz,bz)).2))=pp:=⟨_,rfl⟩;rw[Gh];have Gd:=hid Gh;obtain⟨m,Gj⟩:∃m,PP.length=m:=⟨_,rfl⟩;rw[Gj]at HH hf HP HZ Gg;go_enter func198,ntmps198;go_wp2_with fail;refine(HH.out _ (Qb _ _)).mono ?_;rintro e w1⟨rfl,b1⟩;have HB:=hid b1;obtain⟨q0,q1⟩:=HA.out w1 b1;go_wp2_with fail;refine(HP.out _ HB.out).mono ?_;rintro e w2⟨⟨i,rfl,Gb⟩,b2⟩;have Ga:=hid (HB.out.trans (b2.mono HB.out.size));have Ge:=Gg.out i Gb;cases hfd:(decide (i<m)&&decide (Hy PP t1 i=0))with
 |false=>
  rw[hfd,if_neg (by simp)]at Ge;obtain rfl:(ks,G7)=pp:=by have:=Gd.out;rwa[if_pos (by omega)]at this
  go_wp2_with fail;refine(HN.out _).mono ?_;rintro e w4⟨r,rfl,hr,hb⟩;have HF:Hid _:=Gc.out _ r w4 (hr.le Ga.out.size) (Ga.out.trans (hb.mono Ga.out.size));go_wp2;go_ret2;exact HF.out
 |true=>
  rw[hfd,if_pos rfl]at Ge;obtain⟨Gl,Gm⟩:=Ge;obtain rfl:(ks,Fy (PP.getD i (bz,bz)).2)=pp:=by have:=Gd.out;rwa[if_neg (by omega),Gl,Int.toNat_natCast]at this
  have c2:=(HZ.out w2 Ga.out).c1 i Gm;obtain rfl:=(HZ.out w2 Ga.out).addr (by omega);have Gq:(0:Int)<=(i:Int):=by omega
  have Gp:(i:Int)<(m:Int):=by omega
  generalize(PP.getD i (bz,bz)).2=sx at*;go_wp2_with fail;refine(HR.out _ _).mono ?_;rintro e w4⟨r,rfl,hr,hb⟩;have HF:Hid _:=Gc.out _ r w4 (hr.le Ga.out.size) (Ga.out.trans (hb.mono Ga.out.size));go_wp2;go_ret2;exact HF.out
end Rb
end Go.Proofs.YtokafonppgppdaaGreatDoor
namespace Go.Proofs
open Go.Shelf
def Tryz.lays2n17_ren:Go.Shelf.Ren:=⟨fun|17=>245|n=>n,fun|24=>25|9=>9|3=>3|4=>4|0=>0|n=>n,fun|n=>n⟩
theorem Tryz.lays2n17:Go.Proofs.Lays2.n17 Tryz.prog Tryz.lays2n17_ren:={
 mixed:=by kernel_rfl
 f17:=Tryz.func245.trans (congrArg some (by kernel_rfl))
 t0:=Tryz.underlying0
 a0:=Tryz.isAgg0
 z0:=Tryz.sizeOf0
 v0:=Tryz.zeroValue0
 t3:=Tryz.underlying3
 a3:=Tryz.isAgg3
 z3:=Tryz.sizeOf3
 v3:=Tryz.zeroValue3
 t4:=Tryz.underlying4
 a4:=Tryz.isAgg4
 z4:=Tryz.sizeOf4
 v4:=Tryz.zeroValue4
 t9:=Tryz.underlying9
 a9:=Tryz.isAgg9
 z9:=Tryz.sizeOf9
 v9:=Tryz.zeroValue9
 t24:=Tryz.underlying25
 a24:=Tryz.isAgg25
 z24:=Tryz.sizeOf25
 v24:=Tryz.zeroValue25 }
def Tryz.lays2n24_ren:Go.Shelf.Ren:=⟨fun|24=>274|n=>n,fun|24=>25|9=>9|3=>3|4=>4|0=>0|n=>n,fun|n=>n⟩
theorem Tryz.lays2n24:Go.Proofs.Lays2.n24 Tryz.prog Tryz.lays2n24_ren:={
 mixed:=by kernel_rfl
 f24:=Tryz.func274.trans (congrArg some (by kernel_rfl))
 t0:=Tryz.underlying0
 a0:=Tryz.isAgg0
 z0:=Tryz.sizeOf0
 v0:=Tryz.zeroValue0
 t3:=Tryz.underlying3
 a3:=Tryz.isAgg3
 z3:=Tryz.sizeOf3
 v3:=Tryz.zeroValue3
 t4:=Tryz.underlying4
 a4:=Tryz.isAgg4
 z4:=Tryz.sizeOf4
 v4:=Tryz.zeroValue4
 t9:=Tryz.underlying9
 a9:=Tryz.isAgg9
 z9:=Tryz.sizeOf9
 v9:=Tryz.zeroValue9
 t24:=Tryz.underlying25
 a24:=Tryz.isAgg25
 z24:=Tryz.sizeOf25
 v24:=Tryz.zeroValue25
 i9:=by kernel_rfl }
end Go.Proofs
namespace Go.Proofs.YtokafonppgppdaaGreatDoor
namespace Rb
open Tryz
open _root_.ByteArray (empty)
open Go.RowKit Go.Maps Go.Sort
open Ri (F4 RK UpK Fq G2 Nb Mk Ln kvA z7 Ow Rv Ou Ru)
variable {w:World} {B g cap b n ab ao ac:Nat} {T X:List ByteArray} {a aa:Option Addr} {now:Int} {L:List KV}
def byL (t:ByteArray):List UInt8:=t.data.toList
theorem yh1(t:ByteArray):encStr (byL t)=.string t:=by
 show Value.string ⟨t.data.toList.toArray⟩=.string t;rw[Array.toArray_toList]
theorem yaq(T:List ByteArray)(j:Nat)(hj:j<T.length):(G1 T)[j]?=some (encStr ((T.map byL).toArray[j]!)):=by
 have h1:(T.map byL).toArray[j]! =byL T[j]:=by
  rw[getElem!_pos _ j (by simpa using hj)];simp
 rw[h1,yh1];unfold G1;rw[List.getElem?_map,Qd hj];rfl
theorem zrf(h:Fz w B (.slice (some ⟨g,0,none⟩) T.length cap) T):Holds encStr w g 0 (T.map byL).toArray/\T.length<=cap/\cap<=maxLen/\B<=g/\g<w.heap.size:=by
 have Gd:=h.lt g rfl;refine⟨fun j hj=>?_,?_⟩
 ·have Gb:j<T.length:=by simpa using hj
  have hc:=h.cells rfl j _ (yaq T j Gb);rw[Addr.add_lit,Qq]at hc;refine⟨by rw[Qq];exact hc,?_⟩;obtain⟨_,h2|⟨A',Ga,Ge,he,hB,hg,_⟩⟩:=h
  ·cases h2.1
  ·simp at he;obtain⟨rfl,rfl⟩:=he;exact Lib.frozen_of_heap hg _
 ·obtain⟨_,h2|⟨A',Ga,Ge,he,hB,hg,Gf,Gc,_⟩⟩:=h
  ·cases h2.1
  ·simp at he;obtain⟨rfl,rfl⟩:=he;exact⟨Gf,Gc,hB,Gd.2⟩
theorem zu6(h:Fz w B (.slice (some ⟨g,0,none⟩) T.length cap) T)(hX:X.length=T.length)(m q:Nat)(hm:m<=X.length):
  Fz (putRow encStr (Sort.ahead w q) g 0 (X.map byL).toArray) B (.slice (some ⟨g,0,none⟩) m cap) (X.take m)/\w.grownBy (putRow encStr (Sort.ahead w q) g 0 (X.map byL).toArray) (some g):=by
 obtain⟨h1,h2|⟨A',Gf,Gb,he,hB,hg,Gg,Ge,Gd,Gh⟩⟩:=h
 ·cases h2.1
 ·simp at he;obtain⟨rfl,rfl⟩:=he;have Ga:(putRow encStr (Sort.ahead w q) g 0 (X.map byL).toArray).heap[g]?=some (.cells (putCells encStr 0 (X.map byL).toArray Gb) 9 (0,0)):=by
   unfold putRow mapBlock;rw[Array.getElem?_modify,if_pos rfl];show Option.map _ w.heap[g]?=_;rw[hg];rfl
  refine⟨⟨by unfold G1;rw[Qp,Qn,Nat.min_eq_left hm,Nat.mul_one],.inr ⟨g,cap,_,by rw[Qn,Nat.min_eq_left hm],hB,Ga,by rw[Qn,Nat.min_eq_left hm];omega,Ge,by simp[putCells,Gd],?_⟩⟩,⟨rfl,rfl,rfl,?_,fun j _ hj=>?_⟩⟩
  ·apply List.ext_getElem?;intro i;rw[Qn,Nat.min_eq_left hm,Nat.mul_one,List.getElem?_take];by_cases hi:i<m
   ·rw[if_pos hi,Array.getElem?_toList];have Gc:i<Gb.size:=by omega
    unfold putCells;rw[Array.getElem?_mapIdx,Array.getElem?_eq_getElem Gc,Option.map_some,if_pos (by simp;omega),Nat.sub_zero];have:=yaq X i (by omega);unfold G1 at this ⊢;rw[<-this,List.getElem?_map,List.getElem?_map,List.getElem?_take,if_pos hi]
   ·rw[if_neg hi];unfold G1;rw[List.getElem?_map,List.getElem?_take,if_neg hi];rfl
  ·unfold putRow mapBlock;show w.heap.size<=(w.heap.modify g _).size;rw[Array.size_modify];exact Qc _
  ·unfold putRow mapBlock;show(w.heap.modify g _)[j]?=_;rw[Array.getElem?_modify,if_neg (fun e=>hj (by rw[e]))]
theorem zww(h:Fz w B (.slice a T.length cap) T)(hn:T.length<=1048576):
  Calls prog 245 #[.slice a T.length cap] w fun e w'=>e=.returned (.tuple #[])/\Fz w' B (.slice a T.length cap) T.reverse/\w.grownBy w' (Value.slice a T.length cap).ownBlock:=by
 rcases Joins.ownsRow_forms h with⟨h1,h2⟩|⟨A,c,e⟩
 ·injection h1 with e1 e2 e3;obtain rfl:T=[]:=List.length_eq_zero_iff.mp h2;subst e1 e3;refine(Any.slices_Reverse_string_empty Tryz.lays2n17 none 0 w).mono ?_;rintro e w'⟨rfl,rfl⟩;exact⟨rfl,h,Nl _ _⟩
 ·injection e with e1 e2 e3;subst e1 e3;obtain⟨hH,-,-,-,-⟩:=zrf h;have hc:=Any.slices_Reverse_string Tryz.lays2n17 A 0 cap (T.map byL) w hH (by rw[Qp];omega);rw[Qp]at hc;refine hc.mono ?_;rintro e w'⟨rfl,q,rfl⟩;rw[<-List.map_reverse];obtain⟨o,gg⟩:=zu6 h (X:=T.reverse) (by simp) T.length q (by simp);rw[List.take_of_length_le (by simp)]at o;exact⟨rfl,o,gg⟩
theorem yam(h:Fz w B (.slice a T.length cap) T)(i:Nat)(hi:i<T.length):
  Calls prog 274 #[.slice a T.length cap,.int .i64 i,.int .i64 (i+1:Nat)] w fun e w'=>e=.returned (.slice a (T.length-1) cap)/\Fz w' B (.slice a (T.length-1) cap) (T.take i++T.drop (i+1))/\w.grownBy w' (Value.slice a T.length cap).ownBlock:=by
 rcases Joins.ownsRow_forms h with⟨h1,h2⟩|⟨A,c,e⟩
 ·omega
 ·injection e with e1 e2 e3;subst e1 e3;obtain⟨hH,Gb,Ga,-,-⟩:=zrf h;have hc:=Any.slices_Delete_string Tryz.lays2n24 A 0 cap i (i+1) (T.map byL) w hH (by rw[Qp];exact Gb) (by unfold maxLen at Ga;omega) (by omega) (by rw[Qp];omega);rw[Qp]at hc;refine hc.mono ?_;rintro e w'⟨rfl,q,rfl⟩;have hX:(T.map byL).take i++(T.map byL).drop (i+1)++List.replicate (i+1-i) []=(T.take i++T.drop (i+1)++ [(⟨#[]⟩:ByteArray)]).map byL:=by
   rw[List.map_append,List.map_append,List.map_take,List.map_drop,show i+1-i=1 by omega];rfl
  rw[hX,show i+1-i=1 by omega];have hl:(T.take i++T.drop (i+1)).length=T.length-1:=by rw[Qi,Qn,Qu];omega
  obtain⟨o,gg⟩:=zu6 h (X:=T.take i++T.drop (i+1)++ [(⟨#[]⟩:ByteArray)]) (by rw[Qi,hl];simp;omega) (T.length-1) q (by rw[Qi,hl];simp);rw[<-hl,List.take_left]at o;rw[hl]at o;exact⟨rfl,o,gg⟩
open Go.RowKit Go.Maps
theorem Fu.grown{w':World}(h:Fu w B g b n now aa ab ao ac L L T)(nm:ByteArray){row:Option Nat}(hg:w.grownBy w' row)(hr:∀k,row=some k->B<=k/\k≠g/\k≠b/\∀x∈G2 L nm,x.vi.ownBlock≠some k/\x.vp.ownBlock≠some k/\x.vr.ownBlock≠some k):Fu w' B g b n now aa ab ao ac L (G2 L nm) T/\Below B w w':=by
 have hb:Below B w w':=⟨hg.os,hg.tape,hg.output,hg.size,fun k hk=>hg.block k (by have:=h.le;omega) (fun e=>by have:=(hr k e.symm).1;omega)⟩;have Gc:=(hg.block g h.call.row.lt (fun e=>(hr g e.symm).2.1 rfl)).trans h.call.row;have Gd:=h.call.ring.lt;have Ga:w'.ownsMap prog 9 RK b n (F4 L):=by
  obtain⟨es,Gb,hm,Ft,hs,hD⟩:=h.call.ring;exact⟨es,Gb,(hg.block b Gd (fun e=>(hr b e.symm).2.2.1 rfl)).trans hm,Ft,hs,hD⟩
 refine⟨⟨⟨Gc,Ga,h.call.up,zqx h.call.args hb h.la⟩,⟨fun x hx=>?_,(h.vals.gone nm).ap⟩,h.lg,h.lb,h.la,h.n25,Qj h.le hb.size⟩,hb⟩;have ho:=(h.vals.gone nm).own x hx;exact⟨Lt ho.ia fun k hk=>hg.block k (Hf ho.ia hk).2 (fun e=>((hr k e.symm).2.2.2 x hx).1 hk),Lt ho.pj fun k hk=>hg.block k (Hf ho.pj hk).2 (fun e=>((hr k e.symm).2.2.2 x hx).2.1 hk),Lt ho.rq fun k hk=>hg.block k (Hf ho.rq hk).2 (fun e=>((hr k e.symm).2.2.2 x hx).2.2 hk)⟩
theorem Fu.listAt(h:Fu w B g b n now aa ab ao ac L L T)(nm:ByteArray):∀k,(Fb L nm).vi.ownBlock=some k->B<=k/\k≠g/\k≠b/\∀x∈G2 L nm,x.vi.ownBlock≠some k/\x.vp.ownBlock≠some k/\x.vr.ownBlock≠some k:=fun k hk=>by
 rcases Oo L nm with⟨-,e⟩|⟨-,hm,hnm⟩
 ·rw[e]at hk;cases hk
 ·have ho:=(h.vals.own _ hm).ia;obtain⟨C,hC⟩:=M3 ho hk;refine⟨(Hf ho hk).1,fun e=>?_,B8 h.call.ring hC,fun x hx=>?_⟩
  ·subst e;have:=Hp.N9 hC h.call.row;cases this
  ·obtain⟨x1,x2⟩:=T2 hx;have Gb:=K1 h.vals.ap hm x1 (by rw[hnm];exact fun e=>x2 e.symm);have Ga:=h.vals.own x x1;refine⟨Gb.1 k hk,fun e=>?_,fun e=>?_⟩
   ·obtain⟨D,hD⟩:=M3 Ga.pj e;have:=Hp.N9 hC hD;cases this
   ·obtain⟨D,hD⟩:=M3 Ga.rq e;have:=Hp.N9 hC hD;cases this
theorem zvv{V:Value}{L:List ByteArray}{A o c:Nat}{S:List ByteArray}(h:Fz w B V L)(hs:Fs w a A o n S)(hc:a=none->c=0)(hn:n<=1048576)(hn2:L.length<=1048576)(hB:B<=w.heap.size):
  ∃a' c' w',(Builtin.append_ #[25,25] 25 #[V,.slice a n c]).run prog w=.ok (.slice a' (L.length+n) c') w'/\Fz w' B (.slice a' (L.length+n) c') (L++S)/\w.grownBy w' V.ownBlock/\((Value.slice a' (L.length+n) c').ownBlock=V.ownBlock\/(Value.slice a' (L.length+n) c').ownBlock=some w.heap.size):=by
 obtain⟨i0,hi,Ge,Gg,Gd⟩:=info_parts Tg;have hl:=hs.len;cases a with
 |none=>
  obtain rfl:n=0:=by
   rcases Nat.eq_zero_or_pos n with h|h
   ·exact h
   ·have:=hs.addr h;cases this
  obtain rfl:=hc rfl;obtain rfl:S=[]:=List.eq_nil_of_length_eq_zero hl;obtain⟨a',c',e⟩:=Fx h;subst e;exact⟨a',c',w,run_append_owned_none (P:=prog) w B 25 25 9 i0 1 underlying25 hi _ _ _ h,by rw[List.append_nil];exact h,Nl _ _,.inl rfl⟩
 |some ad=>
  obtain⟨v',w',Gb,Ga,hg,_,Gc⟩:=run_append_own_at (P:=prog) w B 25 25 9 i0 _ 1 16 underlying25 hi Ge Gg Gd rfl (by decide) V L.length (G1 L) h ad n c (G1 S) (by simp[G1,hl]) (fun j u hj=>by
   have Gf:j<n:=by
    have:=(List.getElem?_eq_some_iff.1 hj).1;simp[G1]at this;omega
   obtain rfl:ad=⟨A,o,none⟩:=Option.some.inj (hs.addr (by omega));rw[Addr.add_lit];have hc:=hs.cell j Gf;rw[hc];simp[G1]at hj;obtain⟨t,ht,rfl⟩:=hj;rw[Qa,ht];rfl) (fun u hu=>by simp[G1]at hu;obtain⟨t,_,rfl⟩:=hu;rfl) (by unfold maxLen;omega) (by omega) hB
  obtain⟨a',c',e⟩:=Fx Ga;subst e;refine⟨a',c',w',Gb,?_,hg,Gc⟩;have e:G1 (L++S)=G1 L++G1 S:=by unfold G1;rw[List.map_append]
  unfold Fz;rw[Qi,hl,e];exact Ga
theorem Fu.tail{M:List KV}(h:Fu w B g b n now aa ab ao ac L M T)(hT:2<=T.length):Fs w (some ⟨ab,ao+1,none⟩) ab (ao+1) (T.length-1) T.tail:=by
 have:=zqo h.call.args 1 T.length (by omega) (Qc _) (by omega);rwa[List.take_length,List.drop_one]at this
def Nr (L:List KV) (nm:ByteArray) (X:List ByteArray):Ke:=⟨nm,⟨2,⟨#[]⟩,X,[],[]⟩,(Fb L nm).key.due⟩
section
variable (B g b n:Nat) (now:Int) (aa:Option Addr) (ab ao ac:Nat) (L:List KV) (T:List ByteArray) (ad:Nat->Addr) (w:World)
theorem zh8(X:List ByteArray)(a:Option Addr)(c:Nat)(h:Fu w B g b n now aa ab ao ac L (G2 L (T.getD 0 empty)) T)(hE:Lk w B ad)(hn:n<=1000)(hs:∀t∈T,t.size<=200)(hT:0<T.length)(hv:Fz w B (.slice a X.length c) X)(hap:∀x∈G2 L (T.getD 0 empty),∀g,(Value.slice a X.length c).ownBlock=some g->x.vi.ownBlock≠some g)(hX:X.length<=1048576):
  Calls prog 246 #[.pointer (some ⟨g,0,none⟩),.slice a X.length c] w fun e w2=>∃r er w1,e=.returned (.tuple #[r,er])/\Fr w1 w.heap.size r (Fe X.length)/\Bl w w1/\Hk w1 B g b n now aa ab ao ac L T (ad 1) (Pb L (T.getD 0 empty) (.slice a X.length c) X) (.returned er) w2:=by
 have Gb:=Lh hs 0;obtain⟨he,hA⟩:=hE.er 1 (.inl rfl);have HR:=hid fun W s=>Pg s W;have HX:Hid (∀W,Bl w W->Cp 244 #[.pointer (some ⟨g,0,none⟩),.iface 232 (.slice a X.length c)] W fun e w'=>∃er,e=.returned er/\Hk W B g b n now aa ab ao ac L T (ad 1) (Pb L (T.getD 0 empty) (.slice a X.length c) X) (.returned er) w'):=fun W hb=>(zk1 B g b n now aa ab ao ac L T W a c X (h.bw hb) (Fw hv hb) hap hT (by omega) hX hn (hE.bw (hb.mono h.le)).rd (he.bw (hb.mono h.le) h.n25 hA) hA).mono fun e w' hl=>⟨_,hl.1,by have:=hl.1;rw[<-this];exact hl⟩;generalize hLE:(fun W=>Hk W B g b n now aa ab ao ac L T (ad 1) (Pb L (T.getD 0 empty) (.slice a X.length c) X))=LE;have Ga:Hid (∀W,Bl w W->Cp 244 #[.pointer (some ⟨g,0,none⟩),.iface 232 (.slice a X.length c)] W fun e w'=>∃er,e=.returned er/\LE W (.returned er) w'):=by rw[<-hLE];exact HX.out
 suffices hh:Calls prog 246 #[.pointer (some ⟨g,0,none⟩),.slice a X.length c] w fun e w2=>∃r er w1,e=.returned (.tuple #[r,er])/\Fr w1 w.heap.size r (Fe X.length)/\Bl w w1/\LE w1 (.returned er) w2 by rw[<-hLE]at hh;exact hh
 generalize X.length=m at*;go_enter func246,ntmps246;go_wp2_with fail;refine(HR.out _ _).mono ?_;rintro e w1⟨r,rfl,hr,hb⟩;have HB:Hid (Fr w1 w.heap.size r (Fe m)/\Bl w w1):=⟨hr,hb⟩;go_wp2_with fail;refine(Ga.out _ HB.out.2).mono ?_;rintro e w2⟨er,rfl,hl⟩;have HF:=hid hl;go_wp2;go_ret2;exact⟨r,er,w1,rfl,HB.out.1,HB.out.2,HF.out⟩
theorem ztw(h:Fu w B g b n now aa ab ao ac L L T)(hd:Fm (L.map KV.key)=true)(hE:Lk w B ad)(hn:n<=1000)(hs:∀t∈T,t.size<=200)(hT:2<=T.length)(hT2:T.length<=16)(hac:T.length<=ac):
  Calls prog 192 #[.pointer (some ⟨g,0,none⟩)] w (F2 w B g b now aa ab ao ac T ad (L.map KV.key) (Fj (L.map KV.key) (Nr L (T.getD 0 empty) ((Fb L (T.getD 0 empty)).key.val.ia++T.tail)) (Fe ((Fb L (T.getD 0 empty)).key.val.ia++T.tail).length))):=by
 have Gs:=Lh hs 0;have Gk:=N4 hd (T.getD 0 empty);obtain⟨a1,n1,k1,a2,n2,k2,a3,n3,k3,e1,e2,e3,hH⟩:=h.held (by omega) Gs;have Gh:=(h.keyOwn (T.getD 0 empty)).ia;have Ga:=h.listAt (T.getD 0 empty);rw[e1]at Gh Ga;obtain⟨xa,xc,xe⟩:=Fx Gh;injection xe with x1 x2 x3;subst x1 x2 x3;have HH:=hid hH;have Gl:T.tail.length=T.length-1:=by simp
 have Gv:Hid (∀W,Bl w W->∃a' c' w',(Builtin.append_ #[25,25] 25 #[.slice a1 (Fb L (T.getD 0 empty)).key.val.ia.length k1,.slice (some ⟨ab,ao+1,none⟩) (T.length-1) (ac-1)]).run prog W=.ok (.slice a' ((Fb L (T.getD 0 empty)).key.val.ia.length+(T.length-1)) c') w'/\w'.cell? ⟨g,2,none⟩=some (.slice aa T.length ac)/\Cp 246 #[.pointer (some ⟨g,0,none⟩),.slice a' ((Fb L (T.getD 0 empty)).key.val.ia.length+(T.length-1)) c'] w' fun e w2=>∃r er,e=.returned (.tuple #[r,er])/\F2 w B g b now aa ab ao ac T ad (L.map KV.key) (Fj (L.map KV.key) (Nr L (T.getD 0 empty) ((Fb L (T.getD 0 empty)).key.val.ia++T.tail)) (Fe ((Fb L (T.getD 0 empty)).key.val.ia++T.tail).length)) (.returned (.tuple #[r,er])) w2/\w2.cell? ⟨g,2,none⟩=some (.slice aa T.length ac)):=fun W hb=>by
  have hW:=h.bw hb;obtain⟨a',c',w',Gb,ho,hg,Gd⟩:=zvv (Fw Gh hb) (hW.tail hT) (fun e=>by cases e) (by omega) (by have:=Gk.ni;omega) hW.le;have Gc:∀k,(Value.slice a1 (Fb L (T.getD 0 empty)).key.val.ia.length k1).ownBlock=some k->_:=Ga;obtain⟨Gm,Gf⟩:=hW.grown (T.getD 0 empty) hg Gc;have Ge:((Fb L (T.getD 0 empty)).key.val.ia++T.tail).length=(Fb L (T.getD 0 empty)).key.val.ia.length+(T.length-1):=by rw[Qi,Gl]
  refine⟨a',c',w',Gb,Gm.call.c2,?_⟩;rw[<-Ge]at ho Gd ⊢;refine(zh8 B g b n now aa ab ao ac L T ad w' ((Fb L (T.getD 0 empty)).key.val.ia++T.tail) a' c' Gm ((hE.bw (hb.mono h.le)).bw Gf) hn hs (by omega) ho (fun x hx k hk=>?_) (by rw[Ge];have:=Gk.ni;omega)).mono ?_
  ·rcases Gd with e|e
   ·rw[e]at hk;exact((Ga k hk).2.2.2 x hx).1
   ·rw[e]at hk;intro hxk;have Gt:=(hW.vals.own x (T2 hx).1).ia;have:=(Hf Gt hxk).2;have:=Option.some.inj hk;omega
  ·rintro e w2⟨r,er,w1,rfl,hr,Gn,hl⟩;refine⟨r,er,rfl,Pt h hd (hr.le (Qj hb.size Gf.size)) (((hb.mono h.le).trans Gf).trans (Gn.mono (Qj hW.le Gf.size))) (Qj (Qj hb.size Gf.size) Gn.size) hl,?_⟩;obtain⟨_,⟨n',_,Gq⟩,_⟩:=hl;exact Gq.call.c2
 have Gj:=hid fun W (hb:Bl w W)=>(h.bw hb).call.c2;obtain rfl:=h.call.args.addr (by omega);have Gy:(1:Int)<=(T.length:Int):=by omega
 have Ka:(1:Int)<(ac:Int):=by omega
 have Gw:(T.length:Int)<=(ac:Int):=by omega
 have Gz:1<ac:=by omega
 have Gx:¬ac=1:=by omega
 generalize Fj (L.map KV.key) (Nr L (T.getD 0 empty) ((Fb L (T.getD 0 empty)).key.val.ia++T.tail)) (Fe ((Fb L (T.getD 0 empty)).key.val.ia++T.tail).length)=pp at*;generalize L.map KV.key=ks,(Fb L (T.getD 0 empty)).key.val.kind=kd,(Fb L (T.getD 0 empty)).key.val.text=tx,(Fb L (T.getD 0 empty)).key.val.ia.length=il at*;have hf:=fun W=>Ur (.int .i64 kd) (.string tx) (.slice a1 il k1) (.slice a2 n2 k2) (.slice a3 n3 k3) W;generalize hmm:T.length=m at*;have q0:=Gj.out w.drew (below_drewN (Qb _ _) 1);go_enter func192,ntmps192;go_upto_region 1 with fail;go_region_held3 (fun V=>V.cell? ⟨g,2,none⟩=some (.slice (some ⟨ab,ao,none⟩) m ac))
  (first|exact Gj.out _ (Qb _ _)|exact q0|exact Gu|exact Gr|exact Gj.out _ Gp)
  (first
   |(go_at_call 239;refine(HH.out _ (below_drewN (Qb _ w) 1)).mono ?_;rintro e w2⟨rfl,b2⟩;have Gp:=(below_drewN (Qb _ w) 1).trans b2;obtain⟨a',c',w3,Gb,Gr,Gi⟩:=Gv.out w2 Gp)
   |(go_at_call 246;refine Gi.mono ?_;rintro e w4⟨r,er,rfl,Gg,Gu⟩)
   |(refine Ob rfl _ _ 25 rfl rfl rfl Gb ?_))
 all_goals
  have HF:Hid _:=Gg;go_wp2;go_ret2;exact HF.out
theorem zsz(h:Fu w B g b n now aa ab ao ac L L T)(hd:Fm (L.map KV.key)=true)(hE:Lk w B ad)(hn:n<=1000)(hs:∀t∈T,t.size<=200)(hT:2<=T.length)(hT2:T.length<=16)(hac:T.length<=ac):
  Calls prog 191 #[.pointer (some ⟨g,0,none⟩)] w (F2 w B g b now aa ab ao ac T ad (L.map KV.key) (Fj (L.map KV.key) (Nr L (T.getD 0 empty) (T.tail.reverse++(Fb L (T.getD 0 empty)).key.val.ia)) (Fe (T.tail.reverse++(Fb L (T.getD 0 empty)).key.val.ia).length))):=by
 have Gx:=Lh hs 0;have Gg:=N4 hd (T.getD 0 empty);obtain⟨a1,n1,k1,a2,n2,k2,a3,n3,k3,e1,e2,e3,hH⟩:=h.held (by omega) Gx;have Gf:=(h.keyOwn (T.getD 0 empty)).ia;obtain⟨xa,xA,xc,xe,xz,xl,-⟩:=N2 Gf (fun t ht=>by have:=Gg.ia t ht;omega);rw[e1]at xe;injection xe with x1 x2 x3;subst x1 x2 x3;rw[e1]at Gf;have Gq:=Do Gf;have HH:=hid hH;have Gi:T.tail.length=T.length-1:=by simp
 have Gt:=hid (Ri.yis _ ab (ao+1) (T.length-1) (ac-1) T.tail w (h.tail hT) (fun e=>by cases e) (by omega));have Gl:Hid (∀W a' c',Fz W w.heap.size (.slice a' (T.length-1) c') T.tail->Cp 245 #[.slice a' (T.length-1) c'] W fun e w'=>e=.returned (.tuple #[])/\Fz w' w.heap.size (.slice a' (T.length-1) c') T.tail.reverse/\W.grownBy w' (Value.slice a' (T.length-1) c').ownBlock):=fun W a' c' ho=>by
  rw[<-Gi]at ho ⊢;exact zww ho (by omega)
 have Gs:Hid (∀W a' c',Bl w W->Fz W w.heap.size (.slice a' (T.length-1) c') T.tail.reverse->∃a4 c4 w',(Builtin.append_ #[25,25] 25 #[.slice a' (T.length-1) c',.slice a1 (Fb L (T.getD 0 empty)).key.val.ia.length k1]).run prog W=.ok (.slice a4 (T.length-1+(Fb L (T.getD 0 empty)).key.val.ia.length) c4) w'/\Cp 246 #[.pointer (some ⟨g,0,none⟩),.slice a4 (T.length-1+(Fb L (T.getD 0 empty)).key.val.ia.length) c4] w' fun e w2=>∃r er,e=.returned (.tuple #[r,er])/\F2 w B g b now aa ab ao ac T ad (L.map KV.key) (Fj (L.map KV.key) (Nr L (T.getD 0 empty) (T.tail.reverse++(Fb L (T.getD 0 empty)).key.val.ia)) (Fe (T.tail.reverse++(Fb L (T.getD 0 empty)).key.val.ia).length)) (.returned (.tuple #[r,er])) w2):=fun W a' c' hb ho=>by
  have Gk:T.tail.reverse.length=T.length-1:=by rw[List.length_reverse,Gi]
  obtain⟨a4,c4,w',Ga,Gu,hg,Gh⟩:=zvv ho (Lb xz hb) Gq (by have:=Gg.ni;omega) (by omega) hb.size;rw[Gk]at Ga Gu Gh;have Gb:Bl w w':=⟨hg.os.trans hb.os,hg.tape.trans hb.tape,hg.output.trans hb.output,Qj hb.size hg.size,fun k hk=>(hg.block k (Qr hk hb.size) (fun e=>by have:=(Hf ho e.symm).1;omega)).trans (hb.block k hk)⟩;have Gv:=(h.bw Gb).gone (T.getD 0 empty);have Gd:(T.tail.reverse++(Fb L (T.getD 0 empty)).key.val.ia).length=T.length-1+(Fb L (T.getD 0 empty)).key.val.ia.length:=by rw[Qi,Gk]
  refine⟨a4,c4,w',Ga,?_⟩;have Gj:Fz w' w.heap.size (.slice a4 (T.length-1+(Fb L (T.getD 0 empty)).key.val.ia.length) c4) (T.tail.reverse++(Fb L (T.getD 0 empty)).key.val.ia):=Gu;rw[<-Gd]at Gj ⊢;refine(zh8 B g b n now aa ab ao ac L T ad w' (T.tail.reverse++(Fb L (T.getD 0 empty)).key.val.ia) a4 c4 Gv (hE.bw (Gb.mono h.le)) hn hs (by omega) (L5 Gj h.le) (fun x hx k hk hxk=>?_) (by rw[Gd];have:=Gg.ni;omega)).mono ?_
  ·have Gw:=(h.vals.own x (T2 hx).1).ia;have:=(Hf Gw hxk).2;have:=(Hf Gj hk).1;omega
  ·rintro e w2⟨r,er,w1,rfl,hr,Gn,hl⟩;exact⟨r,er,rfl,Pt h hd (hr.le Gb.size) ((Gb.mono h.le).trans (Gn.mono (Qj h.le Gb.size))) (Qj Gb.size Gn.size) hl⟩
 have g2:=h.call.c2;obtain rfl:=h.call.args.addr (by omega);have Ka:(1:Int)<=(T.length:Int):=by omega
 have Kb:(1:Int)<(ac:Int):=by omega
 have Gy:(T.length:Int)<=(ac:Int):=by omega
 have Kc:1<ac:=by omega
 have Gz:¬ac=1:=by omega
 generalize Fj (L.map KV.key) (Nr L (T.getD 0 empty) (T.tail.reverse++(Fb L (T.getD 0 empty)).key.val.ia)) (Fe (T.tail.reverse++(Fb L (T.getD 0 empty)).key.val.ia).length)=pp at*;generalize L.map KV.key=ks,(Fb L (T.getD 0 empty)).key.val.kind=kd,(Fb L (T.getD 0 empty)).key.val.text=tx,(Fb L (T.getD 0 empty)).key.val.ia.length=il at*;have hf:=fun W=>Ur (.int .i64 kd) (.string tx) (.slice a1 il k1) (.slice a2 n2 k2) (.slice a3 n3 k3) W;generalize hmm:T.length=m at*;go_enter func191,ntmps191;go_wp2_with fail;refine Gt.out.mono ?_;rintro e w1⟨a',c',rfl,o1,b1⟩;have H1:Hid (Fz w1 w.heap.size (.slice a' (m-1) c') T.tail/\Bl w w1):=⟨o1,b1⟩;go_wp2_with fail;refine(Gl.out _ _ _ H1.out.1).mono ?_;rintro e w2⟨rfl,o2,gr⟩;have Gp:Bl w w2:=⟨gr.os.trans H1.out.2.os,gr.tape.trans H1.out.2.tape,gr.output.trans H1.out.2.output,Qj H1.out.2.size gr.size,fun k hk=>(gr.block k (Qr hk H1.out.2.size) (fun e=>by have:=(Hf H1.out.1 e.symm).1;omega)).trans (H1.out.2.block k hk)⟩;have H2:Hid (Fz w2 w.heap.size (.slice a' (m-1) c') T.tail.reverse/\Bl w w2):=⟨o2,Gp⟩;go_wp2_with fail;refine(HH.out _ H2.out.2).mono ?_;rintro e w3⟨rfl,b3⟩;have Gm:=H2.out.2.trans (b3.mono H2.out.2.size);obtain⟨a4,c4,w4,Ga,Gc⟩:=Gs.out w3 a' c' Gm (Fw H2.out.1 b3);have R1:Hid _:=Ga;have Gr:=hid Gc;go_wp2_with (first|(at_builtin;refine wpList_append_run rfl _ _ 25 rfl rfl rfl R1.out ?_));refine Gr.out.mono ?_;rintro e w5⟨r,er,rfl,Ge⟩;have HF:Hid _:=Ge;go_wp2;go_ret2;exact HF.out
end
theorem zov{i:Nat}(hi:i<X.length):(X.take i++X.drop (i+1)).length=X.length-1:=by
 rw[Qi,Qn,Qu];omega
section
variable (B g b n:Nat) (now:Int) (aa:Option Addr) (ab ao ac:Nat) (L:List KV) (T:List ByteArray) (ad:Nat->Addr) (w:World)
theorem yff(h:Fu w B g b n now aa ab ao ac L L T)(hd:Fm (L.map KV.key)=true)(hE:Lk w B ad)(hn:n<=1000)(hs:∀t∈T,t.size<=200)(hT:T.length=1)(i:Nat)(hi:(Fb L (T.getD 0 empty)).key.val.ia≠ []->i<(Fb L (T.getD 0 empty)).key.val.ia.length)(iv:Int)(hiv:(Fb L (T.getD 0 empty)).key.val.ia≠ []->iv=(i:Int)):
  Calls prog 247 #[.pointer (some ⟨g,0,none⟩),.int .i64 iv] w fun e w2=>∃r er,e=.returned (.tuple #[r,er])/\F2 w B g b now aa ab ao ac T ad (L.map KV.key) (if(Fb L (T.getD 0 empty)).key.val.ia=[] then(L.map KV.key,G7) else Fj (L.map KV.key) (Nr L (T.getD 0 empty) ((Fb L (T.getD 0 empty)).key.val.ia.take i++(Fb L (T.getD 0 empty)).key.val.ia.drop (i+1))) (Fy ((Fb L (T.getD 0 empty)).key.val.ia.getD i empty))) (.returned (.tuple #[r,er])) w2:=by
 have Gm:=Lh hs 0;have Ge:=N4 hd (T.getD 0 empty);obtain⟨a1,n1,k1,a2,n2,k2,a3,n3,k3,e1,e2,e3,hH⟩:=h.held (by omega) Gm;have Gc:=(h.keyOwn (T.getD 0 empty)).ia;have Ga:=h.listAt (T.getD 0 empty);obtain⟨xa,xA,xc,xe,xz,xl,-⟩:=N2 Gc (fun t ht=>by have:=Ge.ia t ht;omega);rw[e1]at xe Gc Ga;injection xe with x1 x2 x3;subst x1 x2 x3;have HH:=hid hH;have HN:=hid fun W=>Cl W;have Gf:Hid (∀R r w',Fr w' w.heap.size r R->Bl w w'->F2 w B g b now aa ab ao ac T ad (L.map KV.key) (L.map KV.key,R) (.returned (.tuple #[r,.nilIface])) w'):=fun R r w' h1 h2=>M7 h ⟨r,rfl,h1,h2⟩;by_cases hem:(Fb L (T.getD 0 empty)).key.val.ia=[]
 ·rw[if_pos hem];have Gs:(Fb L (T.getD 0 empty)).key.val.ia.length=0:=by rw[hem];rfl
  rw[Gs]at HH;generalize L.map KV.key=ks,(Fb L (T.getD 0 empty)).key.val.kind=kd,(Fb L (T.getD 0 empty)).key.val.text=tx at*;have hf:=fun W=>Ur (.int .i64 kd) (.string tx) (.slice a1 0 k1) (.slice a2 n2 k2) (.slice a3 n3 k3) W;go_enter func247,ntmps247;go_wp2_with fail;refine(HH.out _ (Qb _ _)).mono ?_;rintro e w1⟨rfl,b1⟩;have HB:=hid b1;go_wp2_with fail;refine(HN.out _).mono ?_;rintro e w2⟨r,rfl,hr,hb⟩;have HF:Hid _:=Gf.out _ r w2 (hr.le HB.out.size) (HB.out.trans (hb.mono HB.out.size));go_wp2;go_ret2;exact⟨r,_,rfl,HF.out⟩
 ·rw[if_neg hem];have Gh:=hi hem;obtain rfl:=hiv hem;obtain⟨he,hA⟩:=hE.er 1 (.inl rfl);have HR:=hid fun W s=>Wt s W;have HD:Hid (∀W,Bl w W->Cp 274 #[.slice a1 (Fb L (T.getD 0 empty)).key.val.ia.length k1,.int .i64 i,.int .i64 ((i:Int)+1)] W fun e w'=>e=.returned (.slice a1 ((Fb L (T.getD 0 empty)).key.val.ia.length-1) k1)/\Fz w' B (.slice a1 ((Fb L (T.getD 0 empty)).key.val.ia.length-1) k1) ((Fb L (T.getD 0 empty)).key.val.ia.take i++(Fb L (T.getD 0 empty)).key.val.ia.drop (i+1))/\W.grownBy w' (Value.slice a1 (Fb L (T.getD 0 empty)).key.val.ia.length k1).ownBlock):=fun W hb=>by have:=yam (Fw Gc hb) i Gh;rwa[show(((i+1:Nat)):Int)=(i:Int)+1 by omega]at this
  have Gb:=zov Gh;have HX:Hid (∀W w',Bl w W->W.grownBy w' (Value.slice a1 (Fb L (T.getD 0 empty)).key.val.ia.length k1).ownBlock->Fz w' B (.slice a1 ((Fb L (T.getD 0 empty)).key.val.ia.length-1) k1) ((Fb L (T.getD 0 empty)).key.val.ia.take i++(Fb L (T.getD 0 empty)).key.val.ia.drop (i+1))->∀r,Fr W w.heap.size r (Fy ((Fb L (T.getD 0 empty)).key.val.ia.getD i empty))->Cp 244 #[.pointer (some ⟨g,0,none⟩),.iface 232 (.slice a1 ((Fb L (T.getD 0 empty)).key.val.ia.length-1) k1)] w' fun e w2=>∃er,e=.returned er/\F2 w B g b now aa ab ao ac T ad (L.map KV.key) (Fj (L.map KV.key) (Nr L (T.getD 0 empty) ((Fb L (T.getD 0 empty)).key.val.ia.take i++(Fb L (T.getD 0 empty)).key.val.ia.drop (i+1))) (Fy ((Fb L (T.getD 0 empty)).key.val.ia.getD i empty))) (.returned (.tuple #[r,er])) w2):=fun W w' hb hg ho r hr=>by
   obtain⟨Gq,Gg⟩:=(h.bw hb).grown (T.getD 0 empty) hg Ga;have Gl:=(hE.bw (hb.mono h.le)).bw Gg;obtain⟨Gp,Gn⟩:=Gl.er 1 (.inl rfl);rw[<-Gb]at ho ⊢;refine(zk1 B g b n now aa ab ao ac L T w' a1 k1 _ Gq ho (fun x hx k hk=>?_) (by omega) (by omega) (by rw[Gb];have:=Ge.ni;omega) hn Gl.rd Gp Gn).mono ?_
   ·have Gr:(Value.slice a1 (Fb L (T.getD 0 empty)).key.val.ia.length k1).ownBlock=some k:=by cases a1 with|none=>cases hk|some p=>exact hk
    exact((Ga k Gr).2.2.2 x hx).1
   ·intro e w2 hl;have e0:=hl.1;refine⟨_,e0,?_⟩;rw[e0]at hl;refine Pt h hd ?_ ((hb.mono h.le).trans Gg) (Qj hb.size Gg.size) hl;cases hrow:(Value.slice a1 (Fb L (T.getD 0 empty)).key.val.ia.length k1).ownBlock with
    |none=>
     rw[hrow]at hg;obtain⟨M,e,o,kk⟩:=hr;exact⟨M,e,Lt o fun g' hg'=>hg.block g' (Hf o hg').2 (by simp),fun x hx=>Lt (kk x hx) fun g' hg'=>hg.block g' (Hf (kk x hx) hg').2 (by simp)⟩
    |some k=>
     rw[hrow]at hg;exact zvs hr hg (Hf Gc hrow).2
  have Gu:IntKind.i64.wrap ((i:Int)+1)=(i:Int)+1:=by rw[IntKind.wrap_i64];have:=Ge.ni;omega
  have HC:Hid (∀W,Bl w W->W.cell? ⟨xA,i,none⟩=some (.string ((Fb L (T.getD 0 empty)).key.val.ia.getD i empty))):=fun W hb=>by have:=(Lb xz hb).cell i Gh;rwa[Qq]at this
  obtain rfl:=xz.addr (by omega);generalize Fj (L.map KV.key) (Nr L (T.getD 0 empty) ((Fb L (T.getD 0 empty)).key.val.ia.take i++(Fb L (T.getD 0 empty)).key.val.ia.drop (i+1))) (Fy ((Fb L (T.getD 0 empty)).key.val.ia.getD i empty))=pp at*;generalize(Fb L (T.getD 0 empty)).key.val.ia.take i++(Fb L (T.getD 0 empty)).key.val.ia.drop (i+1)=X,(Fb L (T.getD 0 empty)).key.val.ia.getD i empty=it,L.map KV.key=ks,(Fb L (T.getD 0 empty)).key.val.kind=kd,(Fb L (T.getD 0 empty)).key.val.text=tx,(Fb L (T.getD 0 empty)).key.val.ia.length=il at*;have hf:=fun W=>Ur (.int .i64 kd) (.string tx) (.slice (some ⟨xA,0,none⟩) il k1) (.slice a2 n2 k2) (.slice a3 n3 k3) W;have Gv:(0:Int)<=(i:Int):=by omega
  have Gt:(i:Int)<(il:Int):=by omega
  have Gw:((il:Int)==0)=false:=beq_eq_false_iff_ne.2 (by omega);go_enter func247,ntmps247;go_wp2_with fail;refine(HH.out _ (Qb _ _)).mono ?_;rintro e w1⟨rfl,b1⟩;have HB:=hid b1;have c1:=HC.out w1 b1;go_wp2_with fail;refine(HR.out _ _).mono ?_;rintro e w2⟨r,rfl,hr,hb⟩;have Gi:=hid (HB.out.trans (hb.mono HB.out.size));have Gk:=hid (hr.le HB.out.size);go_wp2_with fail;refine(HD.out _ Gi.out).mono ?_;rintro e w3⟨rfl,o3,g3⟩;have Gj:=hid (HX.out w2 w3 Gi.out g3 o3 r Gk.out);go_wp2_with fail;refine Gj.out.mono ?_;rintro e w4⟨er,rfl,Gd⟩;have HF:Hid _:=Gd;go_wp2;go_ret2;exact⟨r,_,rfl,HF.out⟩
theorem zxl(h:Fu w B g b n now aa ab ao ac L L T)(hd:Fm (L.map KV.key)=true)(hE:Lk w B ad)(hn:n<=1000)(hs:∀t∈T,t.size<=200)(hT:T.length=1):
  Calls prog 193 #[.pointer (some ⟨g,0,none⟩)] w (F2 w B g b now aa ab ao ac T ad (L.map KV.key) (if(Fb L (T.getD 0 empty)).key.val.ia=[] then(L.map KV.key,G7) else Fj (L.map KV.key) (Nr L (T.getD 0 empty) ((Fb L (T.getD 0 empty)).key.val.ia.take 0++(Fb L (T.getD 0 empty)).key.val.ia.drop (0+1))) (Fy ((Fb L (T.getD 0 empty)).key.val.ia.getD 0 empty)))):=by
 have HP:=hid (yff B g b n now aa ab ao ac L T ad w h hd hE hn hs hT 0 (fun h=>List.length_pos_iff.2 h) 0 (fun _=>rfl));generalize(if(Fb L (T.getD 0 empty)).key.val.ia=[] then(L.map KV.key,G7) else Fj (L.map KV.key) (Nr L (T.getD 0 empty) ((Fb L (T.getD 0 empty)).key.val.ia.take 0++(Fb L (T.getD 0 empty)).key.val.ia.drop (0+1))) (Fy ((Fb L (T.getD 0 empty)).key.val.ia.getD 0 empty)))=pp at*;generalize L.map KV.key=ks at*;go_enter func193,ntmps193;go_wp2_with fail;refine HP.out.mono ?_;rintro e w1⟨r,er,rfl,Ga⟩;have HF:Hid _:=Ga;go_wp2;go_ret2;exact HF.out
theorem zv4(h:Fu w B g b n now aa ab ao ac L L T)(hd:Fm (L.map KV.key)=true)(hE:Lk w B ad)(hn:n<=1000)(hs:∀t∈T,t.size<=200)(hT:T.length=1):
  Calls prog 194 #[.pointer (some ⟨g,0,none⟩)] w (F2 w B g b now aa ab ao ac T ad (L.map KV.key) (if(Fb L (T.getD 0 empty)).key.val.ia=[] then(L.map KV.key,G7) else Fj (L.map KV.key) (Nr L (T.getD 0 empty) ((Fb L (T.getD 0 empty)).key.val.ia.take ((Fb L (T.getD 0 empty)).key.val.ia.length-1)++(Fb L (T.getD 0 empty)).key.val.ia.drop (((Fb L (T.getD 0 empty)).key.val.ia.length-1)+1))) (Fy ((Fb L (T.getD 0 empty)).key.val.ia.getD ((Fb L (T.getD 0 empty)).key.val.ia.length-1) empty)))):=by
 have Gf:=Lh hs 0;have Gd:=N4 hd (T.getD 0 empty);obtain⟨a1,n1,k1,a2,n2,k2,a3,n3,k3,e1,e2,e3,hH⟩:=h.held (by omega) Gf;have Gb:=(h.keyOwn (T.getD 0 empty)).ia;rw[e1]at Gb;obtain⟨xa,xc,xe⟩:=Fx Gb;injection xe with x1 x2 x3;subst x1 x2 x3;have HH:=hid hH;have HP:Hid (∀W,Bl w W->Cp 247 #[.pointer (some ⟨g,0,none⟩),.int .i64 (((Fb L (T.getD 0 empty)).key.val.ia.length:Int)-1)] W fun e w2=>∃r er,e=.returned (.tuple #[r,er])/\F2 w B g b now aa ab ao ac T ad (L.map KV.key) (if(Fb L (T.getD 0 empty)).key.val.ia=[] then(L.map KV.key,G7) else Fj (L.map KV.key) (Nr L (T.getD 0 empty) ((Fb L (T.getD 0 empty)).key.val.ia.take ((Fb L (T.getD 0 empty)).key.val.ia.length-1)++(Fb L (T.getD 0 empty)).key.val.ia.drop (((Fb L (T.getD 0 empty)).key.val.ia.length-1)+1))) (Fy ((Fb L (T.getD 0 empty)).key.val.ia.getD ((Fb L (T.getD 0 empty)).key.val.ia.length-1) empty))) (.returned (.tuple #[r,er])) w2):=fun W hb=>by
  refine(yff B g b n now aa ab ao ac L T ad W (h.bw hb) hd (hE.bw (hb.mono h.le)) hn hs hT ((Fb L (T.getD 0 empty)).key.val.ia.length-1) (fun h=>by have:=List.length_pos_iff.2 h;omega) (((Fb L (T.getD 0 empty)).key.val.ia.length:Int)-1) (fun h=>by have:=List.length_pos_iff.2 h;omega)).mono ?_;rintro e w2⟨r,er,rfl,r',Ge,e2,Gg,hh⟩;refine⟨r,er,rfl,r',Ge,e2,(hb.mono h.le).trans Gg,?_⟩;rcases hh with⟨q1,q2,q3⟩|hh
  ·exact .inl ⟨q1,q2.le hb.size,q3⟩
  ·exact .inr hh
 have Gh:IntKind.i64.wrap (((Fb L (T.getD 0 empty)).key.val.ia.length:Int)-1)=((Fb L (T.getD 0 empty)).key.val.ia.length:Int)-1:=by rw[IntKind.wrap_i64];have:=Gd.ni;omega
 generalize(if(Fb L (T.getD 0 empty)).key.val.ia=[] then(L.map KV.key,G7) else Fj (L.map KV.key) (Nr L (T.getD 0 empty) ((Fb L (T.getD 0 empty)).key.val.ia.take ((Fb L (T.getD 0 empty)).key.val.ia.length-1)++(Fb L (T.getD 0 empty)).key.val.ia.drop (((Fb L (T.getD 0 empty)).key.val.ia.length-1)+1))) (Fy ((Fb L (T.getD 0 empty)).key.val.ia.getD ((Fb L (T.getD 0 empty)).key.val.ia.length-1) empty)))=pp at*;generalize L.map KV.key=ks,(Fb L (T.getD 0 empty)).key.val.kind=kd,(Fb L (T.getD 0 empty)).key.val.text=tx,(Fb L (T.getD 0 empty)).key.val.ia.length=il at*;have hf:=fun W=>Ur (.int .i64 kd) (.string tx) (.slice a1 il k1) (.slice a2 n2 k2) (.slice a3 n3 k3) W;go_enter func194,ntmps194;go_wp2_with fail;refine(HH.out _ (Qb _ _)).mono ?_;rintro e w1⟨rfl,b1⟩;have Gc:=hid (HP.out w1 b1);go_wp2_with fail;refine Gc.out.mono ?_;rintro e w2⟨r,er,rfl,Ga⟩;have HF:Hid _:=Ga;go_wp2;go_ret2;exact HF.out
end
end Rb
end Go.Proofs.YtokafonppgppdaaGreatDoor
