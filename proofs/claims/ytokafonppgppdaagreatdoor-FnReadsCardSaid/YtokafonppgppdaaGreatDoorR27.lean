import Derived.Test.YtokafonppgppdaaGreatDoorR23
import Derived.Test.YtokafonppgppdaaGreatDoorC35
set_option maxHeartbeats 2000000
set_option maxRecDepth 100000
namespace Go.Proofs.YtokafonppgppdaaGreatDoor.Rb
open Tryz
open _root_.ByteArray (empty)
open Go.RowKit Go.Maps
open Ri (za3 RK UpK zao zbb zlj zi6 zhd kvA z7 zb0 zdv zcp zez)
variable {w wr:World} {b n B k:Nat} {L:List KV} {t:ByteArray} {As:List Nat} {v:Value} {T:List ByteArray} {a:Option Addr}
open Go.ChangeMaps Go.MapKept in
theorem zv2 {D:DataW Value} (h:w.ownsMap prog 9 RK b n D) (ty:TypeId):
  ∃w',(Builtin.clear_ #[70] ty #[.map (some b)]).run prog w= .ok (.tuple #[]) w'/\w'.ownsMap prog 9 RK b n (za3 [])/\w.mapTurned w' b:=by
 obtain ⟨es,clock,hb,F,hs,hD⟩:=h;refine ⟨setBlock w b (.map #[] clock),?_,⟨#[],clock,heap_setBlock_same hb _,⟨by simp,stamped_empty clock,by simp⟩,by simp,rfl⟩,⟨es,clock, #[],clock,hb,rfl⟩⟩;simp [Builtin.clear_,run_underlying underlying70,MapKept.run_getObj_map hb,MapKept.run_setObj_map _ hb,Result.andThen,setBlock]
theorem yed (w:World) (B:Nat):zkf w B []:=⟨fun _ hx=>absurd hx (List.not_mem_nil),List.Pairwise.nil⟩
theorem zm1 (B g b n:Nat) (now:Int) (aa:Option Addr) (ab ao ac:Nat) (L:List KV) (T:List ByteArray) (ad:Nat->Addr) (w:World) (h:zcr w B g b n now aa ab ao ac L L T) :
  Calls prog 176 #[.pointer (some ⟨g,0,none⟩)] w (zar w B g b now aa ab ao ac T ad (L.map KV.key) (([]:List Ke),zau sOK)):=by
 have HR:=hid fun W=>zfw sOK W;obtain ⟨Wc,hrun,ho,ht⟩:=zv2 h.call.ring 0;obtain ⟨hw,hb⟩:=h.turned ht.grown ho (by unfold UpK;exact List.Pairwise.nil) (yed Wc B);have HE:Hid (∀r w2,zbe w2 Wc.heap.size r (zau sOK)->Bl Wc w2->zar w B g b now aa ab ao ac T ad (L.map KV.key) (([]:List Ke),zau sOK) (.returned (.tuple #[r,.nilIface])) w2):=fun r w2 h1 h2=>zpj hw hb h1 h2;have g0:=h.call.c0;clear h ho ht hw hb;generalize L.map KV.key=ks at*;go_enter func176,ntmps176;go_wp2_with fail;refine (HR.out _).mono ?_;rintro e w2 ⟨r,rfl,hr,hb⟩;have HF:Hid _:=HE.out r w2 hr hb;clear hr hb HR HE;go_wp2;go_ret2;exact HF.out
def zmp (L:List KV) (T:List ByteArray):List KV:=T.foldl zbb L
theorem zpy (h:zao L t=none):zbb L t=L:=by
 unfold zbb;rw [List.filter_eq_self];intro x hx;have:=List.find?_eq_none.1 h x hx;simpa using this
theorem zkw:∀{L:List KV},UpK (L.map KV.key)->(zao L t).isSome=true->(zbb L t).length+1=L.length
 | [],_,h=>by simp [zao] at h
 |x::r,hu,h=>by
  unfold UpK at hu;rw [List.map_cons,List.pairwise_cons] at hu;by_cases e:x.key.name=t
  ·have hr:zbb (x::r) t=zbb r t:=by unfold zbb;rw [List.filter_cons_of_neg (by simp [e])]
   have hn:zao r t=none:=by
    unfold zao;rw [List.find?_eq_none];intro y hy;have h1:=hu.1 y.key (List.mem_map_of_mem hy);simp only [decide_eq_true_eq];intro e2;rw [e,e2,WideAt.bytes_irrefl] at h1;cases h1
   rw [hr,zpy hn];rfl
  ·have hr:zbb (x::r) t=x::zbb r t:=by unfold zbb;rw [List.filter_cons_of_pos (by simp [e])]
   have hf:(zao r t).isSome=true:=by
    unfold zao at h ⊢;rwa [List.find?_cons_of_neg (by simp [e])] at h
   rw [hr,Q1,zkw hu.2 hf];rfl
theorem zi0:(zd1 (L.map KV.key) t 0<0)↔(zao L t).isSome=false:=by
 cases hf:zao L t with
 |none=>rw [Ri.znd hf 0];simp
 |some x=>
  obtain ⟨i,-,-,-,e⟩:=Ri.znq hf;rw [e];simp
theorem ydd (hu:UpK (L.map KV.key)) (c:Nat) (t:ByteArray):zcs true (L.map KV.key,c) t=((zbb L t).map KV.key,c+(L.length-(zbb L t).length)):=by
 unfold zcs;dsimp only;cases hf:(zao L t).isSome with
 |false=>
  rw [if_pos (zi0.2 hf),zpy (Option.not_isSome_iff_eq_none.1 (by simp [hf]))];simp
 |true=>
  have hl:=zkw hu hf;rw [if_neg (fun e=>by rw [zi0.1 e] at hf;cases hf),if_pos rfl,zb0];congr 1;omega
theorem zvl (L:List KV) (t:ByteArray):(zbb L t).length<=L.length:=Qt _ _
theorem ztl:∀(T:List ByteArray) (L:List KV),(zmp L T).length<=L.length
 | [],_=>Qc _
 |t::r,L=>Qj (ztl r (zbb L t)) (zvl L t)
theorem zvp:∀(T:List ByteArray) (L:List KV) (c:Nat),UpK (L.map KV.key)->T.foldl (zcs true) (L.map KV.key,c)=((zmp L T).map KV.key,c+(L.length-(zmp L T).length))
 | [],L,c,_=>by simp [zmp]
 |t::r,L,c,hu=>by
  rw [List.foldl_cons,ydd hu,zvp r (zbb L t) _ (zcp t hu)];have h1:=zvl L t;have h2:=ztl r (zbb L t);show (_,_)=((zmp (zbb L t) r).map KV.key,c+(L.length-(zmp (zbb L t) r).length));congr 1;omega
theorem zzi (hu:UpK (L.map KV.key)) (T:List ByteArray):zi7 true (L.map KV.key) T=((zmp L T).map KV.key,L.length-(zmp L T).length):=by
 unfold zi7;rw [zvp T L 0 hu,Qq]
theorem zwc (L:List KV) (T:List ByteArray):∀(c:Nat),T.foldl (zcs false) (L.map KV.key,c)=(L.map KV.key,c+(T.filter fun t=> (zao L t).isSome).length):=by
 induction T with
 |nil=>intro c;simp
 |cons t r ih=>
  intro c;rw [List.foldl_cons];have hst:zcs false (L.map KV.key,c) t=(L.map KV.key,c+if (zao L t).isSome=true then 1 else 0):=by
   unfold zcs;dsimp only;cases hf:(zao L t).isSome with
   |false=>rw [if_pos (zi0.2 hf)];simp
   |true=>rw [if_neg (fun e=>by rw [zi0.1 e] at hf;cases hf)];simp
  rw [hst,ih];cases hf:(zao L t).isSome with
  |false=>rw [List.filter_cons_of_neg (by simp [hf])];simp
  |true=>rw [List.filter_cons_of_pos (by simp [hf])];simp;omega
section
variable (B g b n:Nat) (now:Int) (aa:Option Addr) (ab ao ac:Nat) (L:List KV) (T:List ByteArray) (ad:Nat->Addr) (w:World)
theorem yb5 (h:zcr w B g b n now aa ab ao ac L L T) (hd:zan (L.map KV.key)=true) (hs:∀t∈T,t.size<=200) (hT:T.length<=16):
  Calls prog 178 #[.pointer (some ⟨g,0,none⟩)] w (zar w B g b now aa ab ao ac T ad (L.map KV.key) ((zi7 true (L.map KV.key) T).1,zam (zi7 true (L.map KV.key) T).2)):=by
 have hu:=h.call.up;have h20:=((zce _).1 hd).1;rw [Qp] at h20;have HDM:=hid (zzi hu T);have HR:=hid fun W s=>za4 s W;have hlen0:=Ri.zie h.call.ring;have g0:=h.call.c0;have g2:=h.call.c2;have HW:=hid h;have HS:=hid hs;have HA:Hid (0<T.length->aa=some ⟨ab,ao,none⟩):=fun h0=>h.call.args.addr h0;clear h hd hs hu;generalize hks:L.map KV.key=ks at*;generalize hmm:T.length=m at*;have HMM:=hid hmm;obtain ⟨LL,hLL⟩:∃LL,L.length=LL:=⟨_,rfl⟩;rw [hLL] at hlen0;have HLL:=hid hLL;clear hmm hks;obtain ⟨p,hp⟩:∃p:List Ke×List Rp,((zi7 true ks T).1,zam (zi7 true ks T).2)=p:=⟨_,rfl⟩;rw [hp];have HP:=hid hp;clear hp;go_enter func178,ntmps178;go_wp2;go_loopw [17] (fun i wr=>∃k:Nat,k<=m/\i= .int .i64 k/\Hid (zcr wr B g b n now aa ab ao ac (zmp L (T.take k)) (zmp L (T.take k)) T/\Below B w wr)) (fun i _=>m-(intOf i).toNat)
 case atStart=>exact ⟨0,by omega,rfl,HW.out,Qb _ _⟩
 case round=>
  obtain ⟨k,hk,rfl,hI⟩:=hrel;by_cases hlt:k<m
  ·have hlt2:k<T.length:=by rw [HMM.out];exact hlt
   have c0:=(hI.out.1.arg k hlt2).2 wr (Qb _ _);have p0:=hI.out.1.call.c0;obtain ⟨Wd,hrun,hWd,hg⟩:=hI.out.1.drop (T.getD k empty) (by have:=zav HS.out k;omega);have HN:Hid (zcr Wd B g b n now aa ab ao ac (zmp L (T.take (k+1))) (zmp L (T.take (k+1))) T/\Below B w Wd):=by
    have e1:zmp L (T.take (k+1))=zbb (zmp L (T.take k)) (T.getD k empty):=by
     unfold zmp;rw [Qo hlt2,List.foldl_append];rw [Qa,Qd hlt2];rfl
    rw [e1];exact ⟨hWd,hI.out.2.trans (zfy hg hI.out.1.lb hI.out.1.le)⟩
   obtain rfl:=HA.out (by omega);clear hWd hg hI;generalize T.getD k empty=t at*;have hki:(k:Int)<(m:Int):=by omega
   go_wp2;go_round
   case rel=>exact ⟨k+1,by omega,by go_num,HN⟩
   case measure=>simp [intOf];omega
  ·obtain rfl:k=m:=by omega
   have hr:=hI.out.1.call.ring;have p0:=hI.out.1.call.c0;have hfull:T.take k=T:=by rw [<-HMM.out];exact List.take_length
   rw [hfull] at hI hr;have hlen1:=Ri.zie hr;have hle:=ztl T L;have HE:Hid (∀r w2,zbe w2 wr.heap.size r (zam ((LL:Int)-((zmp L T).length:Int)))->Bl wr w2->zar w B g b now aa ab ao ac T ad ks p (.returned (.tuple #[r,.nilIface])) w2):=fun r w2 h1 h2=>by
    rw [<-HP.out,HDM.out];rw [HLL.out] at hle ⊢;dsimp only;rw [show (((LL-(zmp L T).length:Nat):Int))=(LL:Int)-((zmp L T).length:Int) by omega];exact zpj hI.out.1 hI.out.2 h1 h2
   have hwr:IntKind.i64.wrap ((LL:Int)-((zmp L T).length:Int))=(LL:Int)-((zmp L T).length:Int):=by rw [IntKind.wrap_i64];rw [HLL.out] at hle;omega
   clear hr hI hle;generalize (zmp L T).length=dl at*;go_wp2_with fail;refine (HR.out _ _).mono ?_;rintro e w2 ⟨r,rfl,hr,hb⟩;have HF:Hid _:=HE.out r w2 hr hb;clear hr hb HR HE;go_wp2;go_ret2;exact HF.out
theorem zqd (h:zcr w B g b n now aa ab ao ac L L T) (hs:∀t∈T,t.size<=200) (hT:T.length<=16):
  Calls prog 179 #[.pointer (some ⟨g,0,none⟩)] w (zar w B g b now aa ab ao ac T ad (L.map KV.key) (L.map KV.key,zam (zi7 false (L.map KV.key) T).2)):=by
 have hmx:(200:Nat)<=maxLen:=by unfold maxLen;omega
 have HDM:Hid ((zi7 false (L.map KV.key) T).2=(T.filter fun t=> (zao L t).isSome).length):=by unfold Hid zi7;rw [zwc L T 0,Qq]
 have HR:=hid fun W s=>za4 s W;have g2:=h.call.c2;have HW:=hid h;have HS:=hid hs;have HA:Hid (0<T.length->aa=some ⟨ab,ao,none⟩):=fun h0=>h.call.args.addr h0;have HSA:Hid (∀r w',zbe w' w.heap.size r (zam (zi7 false (L.map KV.key) T).2)->Bl w w'->zar w B g b now aa ab ao ac T ad (L.map KV.key) (L.map KV.key,zam (zi7 false (L.map KV.key) T).2) (.returned (.tuple #[r,.nilIface])) w'):=fun r w' h1 h2=>zbo h ⟨r,rfl,h1,h2⟩;clear h hs;generalize hcc:(zi7 false (L.map KV.key) T).2=cc at*;generalize L.map KV.key=ks at*;generalize hmm:T.length=m at*;have HMM:=hid hmm;clear hmm hcc;go_enter func179,ntmps179;go_wp2;go_loopw [4,14] (fun f i wr=>∃k:Nat,k<=m/\i= .int .i64 k/\f= .int .i64 ((T.take k).filter fun t=> (zao L t).isSome).length/\Hid (Bl w wr)) (fun _ i _=>m-(intOf i).toNat)
 case atStart=>exact ⟨0,by omega,rfl,rfl,Qb _ _⟩
 case round=>
  obtain ⟨k,hk,rfl,rfl,hI⟩:=hrel;by_cases hlt:k<m
  ·have hlt2:k<T.length:=by rw [HMM.out];exact hlt
   have hwk:=HW.out.bw hI.out;have c0:=(hwk.arg k hlt2).2 wr (Qb _ _);have p0:=hwk.call.c0;have hlk:=Ri.znm hwk.call.ring (T.getD k empty) (by have:=zav HS.out k;omega);obtain ⟨b1,m1,j1,b2,m2,j2,b3,m3,j3,y1,y2,y3⟩:=zb7 hwk.call.ring (T.getD k empty) (by have:=zav HS.out k;omega);have hlk2:(Instr.lookup 70 (.map (some b)) (.string (T.getD k empty)) true).run prog wr= .ok (.tuple #[kvA (zak L (T.getD k empty)),.bool (zao L (T.getD k empty)).isSome]) wr:=by
    rw [<-zop];exact hlk
   unfold kvA kC at hlk2;rw [y1,y2,y3] at hlk2;have hcn:((T.take (k+1)).filter fun t=> (zao L t).isSome).length=((T.take k).filter fun t=> (zao L t).isSome).length+if (zao L (T.getD k empty)).isSome=true then 1 else 0:=by
    rw [Qo hlt2,List.filter_append,Qi];rw [Qa,Qd hlt2];show _=_+if (zao L T[k]).isSome=true then 1 else 0;cases hf:(zao L T[k]).isSome<;>simp [hf]
   have hcl:((T.take k).filter fun t=> (zao L t).isSome).length<=k:=Qj (Qt _ _) (by rw [Qn];omega);have HC:=hid hcn;obtain rfl:=HA.out (by omega);obtain ⟨W0,hW0,HW0,b0,r0⟩:=boxed wr #[.string ⟨#[]⟩,.int .i64 0,.string ⟨#[]⟩,.slice none 0 0,.slice none 0 0,.slice none 0 0,.int .i64 0] 47;have HZ:Hid (∀v0 v1 v2 v3 v4 v5 v6,Bl w (((((((W0.setCell ⟨wr.heap.size,0,none⟩ v0).setCell ⟨wr.heap.size,1,none⟩ v1).setCell ⟨wr.heap.size,2,none⟩ v2).setCell ⟨wr.heap.size,3,none⟩ v3).setCell ⟨wr.heap.size,4,none⟩ v4).setCell ⟨wr.heap.size,5,none⟩ v5).setCell ⟨wr.heap.size,6,none⟩ v6)):=fun v0 v1 v2 v3 v4 v5 v6=>by
    have hl:=Qc wr.heap.size;exact hI.out.trans ((((((((b0.setCell hl v0).setCell hl v1).setCell hl v2).setCell hl v3).setCell hl v4).setCell hl v5).setCell hl v6).mono hI.out.size)
   have f0:=r0.frozen 0;have f1:=r0.frozen 1;have f2:=r0.frozen 2;have f3:=r0.frozen 3;have f4:=r0.frozen 4;have f5:=r0.frozen 5;have f6:=r0.frozen 6;have d0:=r0.cell 0;have d1:=r0.cell 1;have d2:=r0.cell 2;have d3:=r0.cell 3;have d4:=r0.cell 4;have d5:=r0.cell 5;have d6:=r0.cell 6;simp only [Qm,Qk,Ql] at d0 d1 d2 d3 d4 d5 d6;clear hlk y1 y2 y3 hwk hcn r0;generalize ((T.take k).filter fun t=> (zao L t).isSome).length=c,(zao L (T.getD k empty)).isSome=fd,(zak L (T.getD k empty)).key=x at*;generalize T.getD k empty=t at*;have hki:(k:Int)<(m:Int):=by omega
   have hwr:IntKind.i64.wrap ((c:Int)+1)=(c:Int)+1:=by rw [IntKind.wrap_i64];omega
   cases fd with
   |true=>
    go_wp2;go_round
    case rel=>exact ⟨k+1,by omega,by go_num,congrArg (Value.int .i64) (by rw [HC.out];simp),HZ.out _ _ _ _ _ _ _⟩
    case measure=>simp [intOf];omega
   |false=>
    go_wp2;go_round
    case rel=>exact ⟨k+1,by omega,by go_num,congrArg (Value.int .i64) (by rw [HC.out];simp),HZ.out _ _ _ _ _ _ _⟩
    case measure=>simp [intOf];omega
  ·obtain rfl:k=m:=by omega
   have hfull:T.take k=T:=by rw [<-HMM.out];exact List.take_length
   rw [hfull,<-HDM.out];go_wp2_with fail;refine (HR.out _ _).mono ?_;rintro e w2 ⟨r,rfl,hr,hb⟩;have HF:Hid _:=HSA.out r w2 (hr.le hI.out.size) (hI.out.trans (hb.mono hI.out.size));clear hr hb HR HSA;go_wp2;go_ret2;exact HF.out
end
theorem zq5 (w:World):Calls prog 329 #[.slice none 0 0] w fun e w'=>e= .returned (.slice none 0 0)/\Bl w w':=by
 have hb:=Qb w.heap.size w;obtain ⟨i0,hi,hz0,hz1,hz2⟩:=info_parts yfi;go_enter func329,ntmps329;go_wp2;go_ret;exact ⟨rfl,hb⟩
theorem zq3 (f:Value) (w:World):Calls prog 316 #[.slice none 0 0,f] w fun e w'=>e= .returned (.slice none 0 0)/\Bl w w':=by
 have HC:=hid fun W=>zq5 W;go_enter func316,ntmps316;go_wp2_with fail;refine (HC.out _).mono ?_;rintro e w1 ⟨rfl,b1⟩;have HB:=hid b1;clear b1 HC;go_wp2;refine wp_loop_rounds 1 ?_;rw [rounds_succ];go_wp2;go_ret;exact ⟨rfl,HB.out⟩
theorem zse (k m:Int) (t:ByteArray) (by0:Int) (w:World):Calls prog 297 #[.agg #[.int .i64 k,.int .i64 m,.string t,.slice none 0 0],.int .i64 by0] w fun e w'=>e= .returned (.agg #[.int .i64 k,.int .i64 m,.string t,.slice none 0 0])/\Bl w w':=by
 obtain ⟨W1,hW1,HW1,b1,r1⟩:=boxed w #[.int .i64 k,.int .i64 m,.string t,.slice none 0 0] 40;obtain ⟨W2,hW2,HW2,b2,r2⟩:=boxed W1 #[.int .i64 by0] 2;obtain ⟨W3,hW3,HW3,b3,r3⟩:=boxed W2 #[.int .i64 0,.int .i64 0,.string ⟨#[]⟩,.slice none 0 0] 40;have q1:W1.heap.size=w.heap.size+1:=by rw [<-hW1];simp
 have q2:W2.heap.size=w.heap.size+2:=by rw [<-hW2];simp [q1]
 have q3:W3.heap.size=w.heap.size+3:=by rw [<-hW3];simp [q2]
 have bb:=(b1.trans (b2.mono b1.size)).trans (b3.mono (by omega));have HC:=hid fun W f=>zq3 f W;have r1':=(r1.bw b2 (by omega)).bw b3 (by omega);rw [q1] at r2;rw [q2] at r3;have c3:=r1'.cell 3;simp only [Qm,Qk,Ql] at c3;have HR:Hid (zab W3 w.heap.size 40 #[.int .i64 k,.int .i64 m,.string t,.slice none 0 0]/\zab W3 (w.heap.size+1+1) 40 #[.int .i64 0,.int .i64 0,.string ⟨#[]⟩,.slice none 0 0]/\Bl w W3/\W3.heap.size=w.heap.size+3):=⟨r1',r3,bb,q3⟩;clear hW1 hW2 hW3 b1 b2 b3 r1 r2 r3 r1' bb q3;go_enter func297,ntmps297;go_upto_region 1 with fail;rw [HW1.out,HW2.out,HW3.out];clear HW1 HW2 HW3;go_wp2_with fail;refine (HC.out _ _).mono ?_;rintro e w4 ⟨rfl,b4⟩;obtain ⟨ra,rb,bb,q3⟩:=HR.out;have ra4:=ra.bw b4 (by omega);have rb4:=rb.bw b4 (by omega);have f3:=ra4.frozen 3;have d3:=ra4.cell 3;have b40:=bb.trans (b4.mono bb.size);obtain ⟨W5,hW5⟩:∃W5,w4.setCell ⟨w.heap.size,3,none⟩ (.slice none 0 0)=W5:=⟨_,rfl⟩;have HW5:=hid hW5;have ra5:=ra4.set 3 (.slice none 0 0);have rb5:zab (w4.setCell ⟨w.heap.size,3,none⟩ (.slice none 0 0)) (w.heap.size+1+1) 40 #[.int .i64 0,.int .i64 0,.string ⟨#[]⟩,.slice none 0 0]:=(Below.heap_setCell _ _ _ _ (by show w.heap.size+1+1≠w.heap.size;omega)).trans rb4;have b5:Bl w (w4.setCell ⟨w.heap.size,3,none⟩ (.slice none 0 0)):=b40.setCell (Qc _) _;rw [hW5] at ra5 rb5 b5;have rc1:=rb5.set 0 (.int .i64 k);have rc2:=rc1.set 1 (.int .i64 m);have rc3:=rc2.set 2 (.string t);have rc4:=rc3.set 3 (.slice none 0 0);have hle:w.heap.size<=w.heap.size+1+1:=by omega
 have b6:Bl w ((((W5.setCell ⟨w.heap.size+1+1,0,none⟩ (.int .i64 k)).setCell ⟨w.heap.size+1+1,1,none⟩ (.int .i64 m)).setCell ⟨w.heap.size+1+1,2,none⟩ (.string t)).setCell ⟨w.heap.size+1+1,3,none⟩ (.slice none 0 0)):=(((b5.setCell hle _).setCell hle _).setCell hle _).setCell hle _;obtain ⟨W6,hW6⟩:∃W6,(((W5.setCell ⟨w.heap.size+1+1,0,none⟩ (.int .i64 k)).setCell ⟨w.heap.size+1+1,1,none⟩ (.int .i64 m)).setCell ⟨w.heap.size+1+1,2,none⟩ (.string t)).setCell ⟨w.heap.size+1+1,3,none⟩ (.slice none 0 0)=W6:=⟨_,rfl⟩;rw [hW6] at rc4 b6;have x0:=ra5.cell 0;have x1:=ra5.cell 1;have x2:=ra5.cell 2;have x3:=ra5.cell 3;have y0:=rb5.cell 0;have y1:=rb5.cell 1;have y2:=rb5.cell 2;have y3:=rb5.cell 3;have z0:=rb5.frozen 0;have z1:=rb5.frozen 1;have z2:=rb5.frozen 2;have z3:=rb5.frozen 3;simp only [Qm,Qk,Ql] at x0 x1 x2 x3 y0 y1 y2 y3 d3;have HQ:Hid (zab W6 (w.heap.size+1+1) 40 #[.int .i64 k,.int .i64 m,.string t,.slice none 0 0]/\Bl w W6):=⟨rc4,b6⟩;clear ra rb bb q3 ra4 rb4 b40 hW5 ra5 rb5 b5 rc1 rc2 rc3 rc4 b6 HR b4 HC c3 q1 q2;go_upto_region 2 with fail;rw [HW5.out];clear HW5 d3 f3;go_wp2;obtain ⟨rr,rbel⟩:=HQ.out;have q0:=rr.cell 0;have q1:=rr.cell 1;have q2:=rr.cell 2;have q3:=rr.cell 3;simp only [Qm,Qk,Ql] at q0 q1 q2 q3;exact bodyPost_ret (v:= .agg #[.int .i64 k,.int .i64 m,.string t,.slice none 0 0]) (by simp [results,results297,go_sem,q0,q1,q2,q3]) rfl ⟨rfl,rbel⟩
theorem zoq (t:ByteArray) (w:World):Calls prog 231 #[.string t] w fun e w'=>e= .returned (.slice (some ⟨w.heap.size,0,none⟩) 1 1)/\w'=w.alloc (.cells #[.int .i64 4,.int .i64 0,.string t,.slice none 0 0] 40):=by
 go_enter func231,ntmps231;go_wp2;go_ret;exact ⟨rfl,rfl⟩
theorem yij:(prog.info? 28).map (fun i=> (i.zero,i.size,i.bytes))=some (some (.slice none 0 0),1,24):=by kernel_rfl
def ya6 (A:Nat):Value:= .slice (some ⟨A,0,none⟩) 1 1
abbrev zpw (w:World) (B:Nat) (v:Value) (As:List Nat):Prop:=w.ownsRow B 28 1 v As.length (As.map ya6)
theorem yhv {V:Value} (A:Nat) (h:zpw w B V As) (hn:As.length<=1048577) (hB:B<=w.heap.size):
  ∃v' w',(Builtin.append_ #[286,286] 286 #[V,.slice (some ⟨w.heap.size,0,none⟩) 1 1]).run prog (w.alloc (.cells #[ya6 A] 28))= .ok v' w'/\zpw w' B v' (As++ [A])/\Below B w w'/\w.grownBy w' V.ownBlock:=by
 obtain ⟨i0,hi,hz0,hz1,hz2⟩:=info_parts yij;have hbl:Bl w (w.alloc (.cells #[ya6 A] 28)):=(Qb _ w).alloc (Qc _) _;have oA:=zaf h hbl
 obtain ⟨v',w',hrun,hown,hg,_,hblk⟩:=run_append_own_at (P:=prog) (w.alloc (.cells #[ya6 A] 28)) B 286 286 28 i0 _ 1 24 underlying286 hi hz0 hz1 hz2 rfl (by decide) V As.length (As.map ya6) oA ⟨w.heap.size,0,none⟩ 1 1 [ya6 A] rfl (fun j u hj=>by
  rw [Addr.add_lit,Qq];exact ((zab.new w 28 #[ya6 A]).cell j).trans (by simpa using hj)) (fun u hu=>by simp at hu;subst hu;rfl) (by unfold maxLen;omega) (by omega) (by simp;omega)
 refine ⟨v',w',hrun,?_,zdd (Qb _ w) hB h hg,?_⟩
 ·unfold zpw;rw [Qi,List.map_append];exact hown
 ·have hs:(w.alloc (.cells #[ya6 A] 28)).heap.size=w.heap.size+1:=by simp
  exact ⟨hg.os,hg.tape,hg.output,by have:=hg.size;omega,fun k hk hne=> (hg.block k (by omega) hne).trans (hbl.block k hk)⟩
theorem ye4 {l m:List Nat} {i d:Nat} (h:i<l.length):(l++m).getD i d=l.getD i d:=by
 rw [Qa,List.getElem?_append_left h,<-Qa]
theorem yfd (l:List Nat) (a d:Nat):(l++ [a]).getD l.length d=a:=by simp [List.getD_eq_getElem?_getD]
structure zsw (w:World) (v:Value) (wr:World) (T:List ByteArray) (k:Nat) (As:List Nat):Prop where
 len:As.length=k
 own:zpw wr w.heap.size v As
 row:∀i,i<k->zab wr (As.getD i 0) 40 #[.int .i64 4,.int .i64 0,.string (T.getD i empty),.slice none 0 0]
 low:∀i,i<k->w.heap.size<=As.getD i 0
 bel:Bl w wr
theorem zsw.next (h:zsw w v wr T k As) (hk:k<=1048576):
  ∃W1 v' w1,wr.alloc (.cells #[.int .i64 4,.int .i64 0,.string (T.getD k empty),.slice none 0 0] 40)=W1/\W1.heap.size=wr.heap.size+1/\(Builtin.append_ #[286,286] 286 #[v,.slice (some ⟨wr.heap.size+1,0,none⟩) 1 1]).run prog (W1.alloc (.cells #[.slice (some ⟨wr.heap.size,0,none⟩) 1 1] 28))= .ok v' w1/\∃As',zsw w v' w1 T (k+1) As':=by
 obtain ⟨W1,hW1,-,b1,r1⟩:=boxed wr #[.int .i64 4,.int .i64 0,.string (T.getD k empty),.slice none 0 0] 40;have q1:W1.heap.size=wr.heap.size+1:=by rw [<-hW1];simp
 have hB:w.heap.size<=W1.heap.size:=by have:=h.bel.size;omega
 obtain ⟨v',w1,hrun,ho,hb,hg⟩:=yhv (w:=W1) wr.heap.size (zaf h.own b1) (by rw [h.len];omega) hB;rw [q1] at hrun;refine ⟨W1,v',w1,hW1,q1,hrun,As++ [wr.heap.size],⟨by simp [h.len],ho,fun i hi=>?_,fun i hi=>?_,(h.bel.trans (b1.mono h.bel.size)).trans hb⟩⟩
 ·have hne:∀A C,zab W1 A 40 C->some A≠v.ownBlock:=fun A C hC e=>by
   obtain ⟨D,hD⟩:=zbh (zaf h.own b1) e.symm;have:=Hp.zcm hC hD;cases this
  by_cases hik:i<k
  ·rw [ye4 (by rw [h.len];exact hik)];have r0:=(h.row i hik).bw b1 (h.row i hik).lt;exact (hg.block _ r0.lt (hne _ _ r0)).trans r0
  ·obtain rfl:i=k:=by omega
   rw [<-h.len,yfd,h.len];exact (hg.block _ (by omega) (hne _ _ r1)).trans r1
 ·by_cases hik:i<k
  ·rw [ye4 (by rw [h.len];exact hik)];exact h.low i hik
  ·obtain rfl:i=k:=by omega
   rw [<-h.len,yfd];exact h.bel.size
theorem zgt.bw {wr':World} {u:Value} (h:zgt w v u wr T k) (hb:Bl wr wr'):zgt w v u wr' T k:=
 ⟨zaf h.o1 hb,zaf h.o2 hb,h.bel.trans (hb.mono h.bel.size)⟩
theorem one_cell (h:zpw w B v As) (k:Nat) (hk:k<As.length):∃g cap,v= .slice (some ⟨g,0,none⟩) As.length cap/\w.cell? ⟨g,k,none⟩=some (ya6 (As.getD k 0))/\g<w.heap.size:=by
 obtain ⟨h1,h2|⟨g,cap,cur,e,_,hg,hn,_,hs,hx⟩⟩:=h
 ·omega
 ·refine ⟨g,cap,e,?_,(Array.getElem?_eq_some_iff.1 hg).1⟩;have hr:zab w g 28 cur:=hg;rw [hr.cell k,<-Array.getElem?_toList];have hx2:(cur.toList.take (As.length*1))[k]?=(As.map ya6)[k]?:=by rw [hx]
  rw [List.getElem?_take,if_pos (by omega)] at hx2;rw [hx2,List.getElem?_map,Qd hk,Qa,Qd hk];rfl
theorem zxr (v:Value) (n:Nat) (As:List Nat) (T:List ByteArray) (w W:World) (h:zsw w v W T n As) (hL:T.length=n) (hn:n<=1048576):Calls prog 272 #[v] W (zci W (zb5 T)):=by
 have H:=hid h;have HL:=hid hL;have HSH:=hid fun V t k=>zse 4 0 t k V;have HS:Hid (zgt W (.slice none 0 0) (.slice none 0 0) W T 0):=⟨World.ownsRow_nil _ _ _ _,World.ownsRow_nil _ _ _ _,Qb _ _⟩;obtain ⟨va,vc,e0⟩:=zad h.own;rw [h.len] at e0;subst e0;have HAL:=hid h.len;clear h hL;go_enter func272,ntmps272;go_wp2;go_loopw [3,4,12] (fun v u i wr=>∃k:Nat,k<=n/\i= .int .i64 k/\Hid (zgt W v u wr T k)) (fun _ _ i _=>n-(intOf i).toNat)
 case atStart=>exact ⟨0,by omega,rfl,HS⟩
 case round=>
  obtain ⟨k,hk,rfl,hI⟩:=hrel;clear HS;by_cases hlt:k<n
  ·obtain ⟨g,cap,ev,hc,hgl⟩:=one_cell H.out.own k (by rw [HAL.out];exact hlt);rw [HAL.out] at ev;injection ev with ev1 ev2 ev3;subst ev1 ev3;have c0:=(hI.out.bel.cell (p:=⟨g,k,none⟩) hgl).trans hc;have r0:=(H.out.row k hlt).bw hI.out.bel (H.out.row k hlt).lt;unfold ya6 at c0;obtain ⟨x,hx⟩:∃x,T.getD k empty=x:=⟨_,rfl⟩;rw [hx] at r0;have HX:=hid hx;clear hx;generalize As.getD k 0=A at*;have x0:=r0.cell 0;have x1:=r0.cell 1;have x2:=r0.cell 2;have x3:=r0.cell 3;obtain ⟨W0,hW0,HW0,b0,q0⟩:=boxed wr #[.int .i64 0,.int .i64 0,.string ⟨#[]⟩,.slice none 0 0] 40;have rc1:=q0.set 0 (.int .i64 4);have rc2:=rc1.set 1 (.int .i64 0);have rc3:=rc2.set 2 (.string x);have rc4:=rc3.set 3 (.slice none 0 0);have hl:=Qc wr.heap.size;have b4:Bl wr ((((W0.setCell ⟨wr.heap.size,0,none⟩ (.int .i64 4)).setCell ⟨wr.heap.size,1,none⟩ (.int .i64 0)).setCell ⟨wr.heap.size,2,none⟩ (.string x)).setCell ⟨wr.heap.size,3,none⟩ (.slice none 0 0)):=(((b0.setCell hl _).setCell hl _).setCell hl _).setCell hl _;obtain ⟨W4,hW4⟩:∃W4,(((W0.setCell ⟨wr.heap.size,0,none⟩ (.int .i64 4)).setCell ⟨wr.heap.size,1,none⟩ (.int .i64 0)).setCell ⟨wr.heap.size,2,none⟩ (.string x)).setCell ⟨wr.heap.size,3,none⟩ (.slice none 0 0)=W4:=⟨_,rfl⟩;rw [hW4] at rc4 b4;have y0:=q0.cell 0;have y1:=q0.cell 1;have y2:=q0.cell 2;have y3:=q0.cell 3;have z0:=q0.frozen 0;have z1:=q0.frozen 1;have z2:=q0.frozen 2;have z3:=q0.frozen 3;have u0:=rc4.cell 0;have u1:=rc4.cell 1;have u2:=rc4.cell 2;have u3':=rc4.cell 3;simp only [Qm,Qk,Ql] at x0 x1 x2 x3 y0 y1 y2 y3 u0 u1 u2 u3';obtain ⟨na,nc,en⟩:=zad hI.out.o1;rw [Qp,Qn,Nat.min_eq_left (by rw [HL.out];omega)] at en;subst en;have HI4:=hid fun w3 (hb:Bl W4 w3)=>zgt.bw hI.out (b4.trans (hb.mono b4.size));have hT2:k<T.length/\T.length<=1048576:=⟨by rw [HL.out];exact hlt,by rw [HL.out];exact hn⟩;clear rc1 rc2 rc3 rc4 b0 q0 b4 r0 hI;have hki:(k:Int)<(n:Int):=by omega
   go_wp2;refine wp_loop_rounds 2 ?_;rw [rounds_succ];go_wp2_with fail;refine (HSH.out _ _ _).mono ?_;rintro e w3 ⟨rfl,b3⟩;obtain ⟨v',w1,r1,u',w2,r2,hI2⟩:=(HI4.out w3 b3).next hT2.1 hT2.2;obtain ⟨na2,nc2,en2⟩:=zad hI2.o1;rw [Qp,Qn,Nat.min_eq_left (by omega)] at en2;subst en2;rw [HX.out] at r1;have R1:Hid _:=r1;have R2:Hid _:=r2;have HI2:Hid _:=hI2;clear r1 r2 hI2 HI4 b3 x0 x1 x2 x3 y0 y1 y2 y3 u0 u1 u2 u3' hW4 hW0 HW0 c0 hc;go_wp2_with (at_builtin;refine wpList_append_run rfl _ _ 28 rfl rfl rfl R1.out ?_);rw [rounds_succ];go_wp2_with (at_builtin;refine wpList_append_run rfl _ _ 38 rfl rfl rfl R2.out ?_);exact ⟨⟨k+1,by omega,by go_num,HI2⟩,by simp [intOf];omega⟩
  ·obtain rfl:k=n:=by omega
   obtain ⟨a',c',e4⟩:=zad hI.out.o2;subst e4;have hI':zgt W u3 (.slice a' (List.range k).length c') wr T T.length:=by rw [HL.out];exact hI.out
   obtain ⟨v',w1,r1,hE⟩:=hI'.last (by rw [HL.out];exact hn);have R1:Hid _:=r1;have HE:=hid hE;clear r1 hE hI hI';generalize (List.range k).length=m at*;go_wp2_with (at_builtin;refine wpList_append_run rfl _ _ 28 rfl rfl rfl R1.out ?_);go_ret;exact HE.out
section
variable (a:Option Addr) (b o n c:Nat) (T:List ByteArray) (w:World)
theorem zv5 (h:zdg w a b o n T) (hn:n<=1048576)
  (HA:∀v W As,zsw w v W T n As->Calls prog 272 #[v] W (zci W (zb5 T))):Calls prog 232 #[.slice a n c] w (zci w (zb5 T)):=by
 have H:=hid h;have HL:=hid h.len;have HB:=hid fun W t=>zoq t W;have HS:Hid (zsw w (.slice none 0 0) w T 0 []):=⟨rfl,World.ownsRow_nil _ _ _ _,fun i hi=>by omega,fun i hi=>by omega,Qb _ _⟩;have HX:=hid HA;clear h HA;go_enter func232,ntmps232;go_wp2;go_loopw [3,8] (fun v i wr=>∃k:Nat,k<=n/\i= .int .i64 k/\∃As,Hid (zsw w v wr T k As)) (fun _ i _=>n-(intOf i).toNat)
 case atStart=>exact ⟨0,by omega,rfl,[],HS⟩
 case round=>
  obtain ⟨k,hk,rfl,As,hI⟩:=hrel;clear HS;by_cases hlt:k<n
  ·have c0:=(zdb H.out hI.out.bel).cell k hlt;obtain rfl:=H.out.addr (by omega);obtain ⟨W1,v',w1,hW1,q1,hrun,As',hI2⟩:=hI.out.next (by omega);have R1:Hid _:=hrun;have HI2:Hid _:=hI2;have HW1:=hid hW1;clear hrun hI2 hI hW1;generalize T.getD k empty=x at*;have hki:(k:Int)<(n:Int):=by omega
   go_wp2_with fail;refine (HB.out _ _).mono ?_;rintro e w2 ⟨rfl,hw2⟩;rw [HW1.out] at hw2;subst hw2;go_wp2_with (at_builtin;refine wpList_append_run rfl _ _ 286 rfl rfl rfl R1.out ?_);exact ⟨⟨k+1,by omega,by go_num,As',HI2⟩,by simp [intOf];omega⟩
  ·obtain rfl:k=n:=by omega
   have HY:=hid (HX.out _ wr As hI.out);have HBL:=hid hI.out.bel;clear HX HB hI;generalize zb5 T=RL at*;go_wp2_with fail;refine HY.out.mono ?_;rintro e w2 ⟨v,rfl,hr,hb⟩;have HF:Hid (zci w RL (.returned v) w2):=⟨v,rfl,hr.le HBL.out.size,HBL.out.trans (hb.mono HBL.out.size)⟩;clear hr hb HY;go_wp2;go_ret;exact HF.out
theorem zkv (h:zdg w a b o n T) (hn:n<=1048576):Calls prog 232 #[.slice a n c] w (zci w (zb5 T)):=
 zv5 a b o n c T w h hn fun v W As hO=>zxr v n As T w W hO h.len hn
end
theorem zqo {o:Nat} {X:List ByteArray} (h:zdg w a b o n X) (i j:Nat) (hij:i<=j) (hj:j<=n) (hi:i<n):zdg w (some ⟨b,o+i,none⟩) b (o+i) (j-i) ((X.take j).drop i):=by
 have hl:=h.len;have ht:∀k,k<j-i->((X.take j).drop i).getD k empty=X.getD (i+k) empty:=fun k hk=>by
  rw [Qa,Qa,List.getElem?_drop,List.getElem?_take,if_pos (by omega)]
 refine ⟨by rw [Qu,Qn];omega,fun _=>rfl,fun _=>h.low (by omega),fun k hk=>?_,fun k hk=>?_⟩
 ·rw [ht k hk];have:=h.cell (i+k) (by omega);rwa [<-Nat.add_assoc] at this
 ·rw [ht k hk];exact h.fit (i+k) (by omega)
theorem zzo (w:World) (a:Option Addr) (b o:Nat):zdg w a b o 0 []:=⟨rfl,fun h=>by omega,fun h=>by omega,fun i h=>by omega,fun i h=>by omega⟩
theorem zi1 (B g b n:Nat) (now:Int) (aa:Option Addr) (ab ao ac:Nat) (L M:List KV) (T:List ByteArray) (ad:Nat->Addr) (w:World) (h:zcr w B g b n now aa ab ao ac L M T) (hE:zhj w B ad) (hT:T.length=3) (hs:∀t∈T,t.size<=200) (X:List ByteArray) (a:Option Addr) (xb xo cp:Nat) (hX:zdg w a xb xo X.length X) (hcp:X.length<=cp) (hlen:X.length<=1048576) (hnil:a=none->cp=0):
  Calls prog 248 #[.pointer (some ⟨g,0,none⟩),.slice a X.length cp] w fun e w'=>∃r,e= .returned (.tuple #[r,zc9 (ad 12) (zlh T)])/\(zlh T=true->zbe w' w.heap.size r (zb5 (zek X (zbc (T.getD 1 empty)).1 (zbc (T.getD 2 empty)).1)))/\Bl w w':=by
 have HS:=hid (zu1 B g b n now aa ab ao ac L M T ad w h hE hT hs X.length);have HM:Hid (∃i j:Nat,slM T X.length=((i:Int),(j:Int))/\i<=j/\j<=X.length/\(zlh T=true->zek X (zbc (T.getD 1 empty)).1 (zbc (T.getD 2 empty)).1=(X.take j).drop i)):=by
  unfold Hid slM;cases zlh T with
  |true=>
   obtain ⟨i,j,e,h1,h2⟩:=zic X.length (zbc (T.getD 1 empty)).1 (zbc (T.getD 2 empty)).1;refine ⟨i,j,by rw [if_pos rfl,e],h1,h2,fun _=>?_⟩;unfold zek;rw [e];rfl
  |false=>exact ⟨0,0,by rw [if_neg (by simp)];rfl,Qc _,Qs _,fun h=>by cases h⟩
 obtain ⟨i,j,hm,hij,hj,hit⟩:=HM.out;rw [hm] at HS;dsimp only at HS;have HIT:=hid hit;have hbd:∀W,Bl w W->zdg W a xb xo X.length X:=fun W hb=>zdb hX hb;have HB:Hid (∀W a' c',Bl w W->(cp=i\/(i<cp/\a'=a.map fun p=>p.add i))->Cp 232 #[.slice a' (j-i) c'] W (zci W (zb5 ((X.take j).drop i)))):=fun W a' c' hb hc=>by
  by_cases hin:i<X.length
  ·rcases hc with e|⟨_,e⟩
   ·omega
   ·have hz:=zqo (hbd W hb) i j hij hj hin;have ha:=hX.addr (by omega);rw [e,ha,Option.map_some,Addr.add_lit];exact zkv _ xb (xo+i) (j-i) c' _ W hz (by omega)
  ·obtain rfl:i=j:=by omega
   have e0:(X.take i).drop i=[]:=List.drop_eq_nil_of_le (by rw [Qn];omega);rw [e0,Nat.sub_self];exact zkv a' 0 0 0 c' [] W (zzo _ _ _ _) (by omega)
 clear h hE hs hX hbd HM hm hit;generalize zlh T=so,zek X (zbc (T.getD 1 empty)).1 (zbc (T.getD 2 empty)).1=im,(X.take j).drop i=xp,X.length=m at*;generalize zc9 (ad 12) so=ev at*;have hi0:(0:Int)<=(i:Int):=by omega
 have hi1:(i:Int)<=(j:Int):=by omega
 have hi2:(j:Int)<=(cp:Int):=by omega
 have HB2':=HB.out;clear HB;by_cases hci:cp=i
 ·obtain rfl:j=i:=by omega
  have HB2:Hid (∀W a' c',Bl w W->Cp 232 #[.slice a' 0 c'] W (zci W (zb5 xp))):=fun W a' c' hb=>by have:=HB2' W a' c' hb (.inl hci);rwa [Nat.sub_self] at this
  clear HB2';subst hci;go_enter func248,ntmps248;go_wp2_with fail;refine HS.out.mono ?_;rintro e w1 ⟨rfl,b1⟩;have HC:=hid b1;clear b1 HS;go_wp2_with fail;refine (HB2.out _ _ _ HC.out).mono ?_;rintro e w2 ⟨r,rfl,hr,hb⟩;have HF:Hid ((so=true->zbe w2 w.heap.size r (zb5 im))/\Bl w w2):=⟨fun h=>by rw [HIT.out h];exact hr.le HC.out.size,HC.out.trans (hb.mono HC.out.size)⟩;clear hr hb HB2;go_wp2;go_ret2;exact ⟨r,rfl,HF.out⟩
 ·have hic:i<cp:=by omega
  cases a with
  |none=>have:=hnil rfl;omega
  |some p=>
   have HB2:Hid (∀W c' (q:Unit),Bl w W->Cp 232 #[.slice (some (p.add i)) (j-i) c'] W (zci W (zb5 xp))):=fun W c' _ hb=>HB2' W _ c' hb (.inr ⟨hic,rfl⟩);clear HB2' hnil;go_enter func248,ntmps248;go_wp2_with fail;refine HS.out.mono ?_;rintro e w1 ⟨rfl,b1⟩;have HC:=hid b1;clear b1 HS;go_wp2_with fail;refine (HB2.out _ _ () HC.out).mono ?_;rintro e w2 ⟨r,rfl,hr,hb⟩;have HF:Hid ((so=true->zbe w2 w.heap.size r (zb5 im))/\Bl w w2):=⟨fun h=>by rw [HIT.out h];exact hr.le HC.out.size,HC.out.trans (hb.mono HC.out.size)⟩;clear hr hb HB2;go_wp2;go_ret2;exact ⟨r,rfl,HF.out⟩
theorem zcr.keyOwn {g:Nat} {now:Int} {aa:Option Addr} {ab ao ac:Nat} (h:zcr w B g b n now aa ab ao ac L L T) (nm:ByteArray):VOwn w B (zak L nm).key.val (zak L nm).vi (zak L nm).vp (zak L nm).vr:=by
 rcases zby L nm with ⟨-,e⟩|⟨-,hm,-⟩
 ·rw [e];exact ⟨World.ownsRow_nil _ _ _ _,World.ownsRow_nil _ _ _ _,World.ownsRow_nil _ _ _ _⟩
 ·exact h.vals.own _ hm
theorem zkx {e:TypeId} {size:Nat} {m c:Nat} {xs:List Value} (h:w.ownsRow B e size (.slice a m c) n xs):a=none->c=0:=fun ha=>by
 obtain ⟨_,⟨hv,_⟩|⟨g,cap,cur,hv,_⟩⟩:=h
 ·injection hv
 ·injection hv with h1;rw [ha] at h1;cases h1
section
variable (B g b n:Nat) (now:Int) (aa:Option Addr) (ab ao ac:Nat) (L:List KV) (T:List ByteArray) (ad:Nat->Addr) (w:World)
theorem zxd (h:zcr w B g b n now aa ab ao ac L L T) (hd:zan (L.map KV.key)=true) :
  Calls prog 174 #[.pointer (some ⟨g,0,none⟩)] w (zar w B g b now aa ab ao ac T ad (L.map KV.key) (L.map KV.key,zb5 ((L.map KV.key).map Ke.name))):=by
 have h20:=((zce _).1 hd).1;rw [Qp] at h20;have hkb:=((zce _).1 hd).2.2;have HN:=hid (Ri.zqb b n L w h.call.ring h.call.up (by omega));have HSZ:Hid (∀t∈(L.map fun x=>x.key.name),t.size<=1048576):=fun t ht=>by
  obtain ⟨x,hx,rfl⟩:=List.mem_map.1 ht;have:=hkb x.key (List.mem_map_of_mem hx);unfold zfo at this;rw [Qh,decide_eq_true_iff] at this;omega
 have HLN:Hid ((L.map fun x=>x.key.name).length<=1048576):=by unfold Hid;rw [Qp];omega
 have HSA:Hid (∀r w',zbe w' w.heap.size r (zb5 (L.map fun x=>x.key.name))->Bl w w'->zar w B g b now aa ab ao ac T ad (L.map KV.key) (L.map KV.key,zb5 ((L.map KV.key).map Ke.name)) (.returned (.tuple #[r,.nilIface])) w'):=fun r w' h1 h2=>zbo h ⟨r,rfl,by rw [List.map_map];exact h1,h2⟩;have g0:=h.call.c0;clear h hd hkb;generalize (L.map KV.key,zb5 ((L.map KV.key).map Ke.name))=pp at*;generalize L.map KV.key=ks,(L.map fun x=>x.key.name)=X at*;go_enter func174,ntmps174;go_wp2_with fail;refine HN.out.mono ?_;rintro e w1 ⟨v,rfl,o1,b1⟩;have HB:=hid b1;obtain ⟨a1,A1,c1,rfl,h1,_,_⟩:=zc0 o1 HSZ.out;have HR:=hid (zkv a1 A1 0 X.length c1 X w1 h1 HLN.out);clear b1 HN o1 h1;generalize X.length=m at*;go_wp2_with fail;refine HR.out.mono ?_;rintro e w2 ⟨r,rfl,hr,hb⟩;have HF:Hid _:=HSA.out r w2 (hr.le HB.out.size) (HB.out.trans (hb.mono HB.out.size));clear hr hb HR HSA;go_wp2;go_ret2;exact HF.out
theorem zqf (h:zcr w B g b n now aa ab ao ac L L T) (hd:zan (L.map KV.key)=true) (hE:zhj w B ad) (hs:∀t∈T,t.size<=200) (hT:T.length=3):
  Calls prog 196 #[.pointer (some ⟨g,0,none⟩)] w (zar w B g b now aa ab ao ac T ad (L.map KV.key) (if zlh T=true then (L.map KV.key,zb5 (zek (zak L (T.getD 0 empty)).key.val.ia (zbc (T.getD 1 empty)).1 (zbc (T.getD 2 empty)).1)) else (L.map KV.key,zcb zdc))):=by
 have hz0:=zav hs 0;have hsm:=za8 hd (T.getD 0 empty);obtain ⟨a1,n1,k1,a2,n2,k2,a3,n3,k3,e1,e2,e3,hH⟩:=h.held (by omega) hz0;have hko:=(h.keyOwn (T.getD 0 empty)).ia;obtain ⟨xa,xA,xc,xe,xz,xl,-⟩:=zc0 hko (fun t ht=>by have:=hsm.ia t ht;omega);rw [e1] at xe;injection xe with x1 x2 x3;subst x1 x2 x3;rw [e1] at hko;have hnl:=zkx hko;have HH:=hid hH;have HS:=hid fun W (hb:Bl w W)=>zi1 B g b n now aa ab ao ac L L T ad W (h.bw hb) (hE.bw (hb.mono h.le)) hT hs (zak L (T.getD 0 empty)).key.val.ia a1 xA 0 k1 (zdb xz hb) xl (by have:=hsm.ni;omega) hnl;have HSA:Hid (∀R r w',zbe w' w.heap.size r R->Bl w w'->zar w B g b now aa ab ao ac T ad (L.map KV.key) (L.map KV.key,R) (.returned (.tuple #[r,.nilIface])) w'):=fun R r w' h1 h2=>zbo h ⟨r,rfl,h1,h2⟩;have HFA:Hid (∀r w',Bl w w'->zar w B g b now aa ab ao ac T ad (L.map KV.key) (L.map KV.key,zcb zdc) (.returned (.tuple #[r,.iface 307 (.pointer (some (ad 12)))])) w'):=fun r w' h2=>zf0 12 (by omega) (h2.mono h.le);clear h hd hE hs hH hsm e1 e2 e3 hko xz xl hnl;generalize zek (zak L (T.getD 0 empty)).key.val.ia (zbc (T.getD 1 empty)).1 (zbc (T.getD 2 empty)).1=im,(zak L (T.getD 0 empty)).key.val.ia.length=il,zlh T=so,L.map KV.key=ks,(zak L (T.getD 0 empty)).key.val.kind=kd,(zak L (T.getD 0 empty)).key.val.text=tx at*;have hf:=fun W=>zh0 (.int .i64 kd) (.string tx) (.slice a1 il k1) (.slice a2 n2 k2) (.slice a3 n3 k3) W;cases so with
 |true=>
  rw [if_pos rfl];have HS2:=hid HS.out;clear HS HFA;go_enter func196,ntmps196;go_wp2_with fail;refine (HH.out _ (Qb _ _)).mono ?_;rintro e w1 ⟨rfl,b1⟩;have HB:=hid b1;clear b1 HH;go_wp2_with fail;refine (HS2.out _ HB.out).mono ?_;rintro e w2 ⟨r,rfl,hr,hb⟩;have HF:Hid _:=HSA.out _ r w2 ((hr trivial).le HB.out.size) (HB.out.trans (hb.mono HB.out.size));clear hr hb HS2 HSA;go_wp2;go_ret2;exact HF.out
 |false=>
  rw [if_neg (by simp)];have HS2:=hid HS.out;clear HS HSA;generalize ad 12=A at*;go_enter func196,ntmps196;go_wp2_with fail;refine (HH.out _ (Qb _ _)).mono ?_;rintro e w1 ⟨rfl,b1⟩;have HB:=hid b1;clear b1 HH;go_wp2_with fail;refine (HS2.out _ HB.out).mono ?_;rintro e w2 ⟨r,rfl,-,hb⟩;have HF:Hid _:=HFA.out r w2 (HB.out.trans (hb.mono HB.out.size));clear hb HS2 HFA;go_wp2;go_ret2;exact HF.out
theorem zoh (h:zcr w B g b n now aa ab ao ac L L T) (hd:zan (L.map KV.key)=true) (hs:∀t∈T,t.size<=200) (hT:T.length=1):
  Calls prog 201 #[.pointer (some ⟨g,0,none⟩)] w (zar w B g b now aa ab ao ac T ad (L.map KV.key) (L.map KV.key,zb5 (zco (zak L (T.getD 0 empty)).key.val.pj))):=by
 have hz0:=zav hs 0;have hsm:=za8 hd (T.getD 0 empty);obtain ⟨a1,n1,k1,a2,n2,k2,a3,n3,k3,e1,e2,e3,hH⟩:=h.held (by omega) hz0;have hko:=(h.keyOwn (T.getD 0 empty)).pj;obtain ⟨xa,xA,xc,xe,xz⟩:=zdn hko;rw [e2] at xe;injection xe with x1 x2 x3;subst x1 x2 x3;have HH:=hid hH;have HP:=hid fun W (hb:Bl w W)=>zjf a2 xA (zak L (T.getD 0 empty)).key.val.pj.length k2 (zak L (T.getD 0 empty)).key.val.pj W (xz.bw hb) (by have:=hsm.np;omega);have HSZ:Hid (∀t∈zco (zak L (T.getD 0 empty)).key.val.pj,t.size<=1048576):=fun t ht=>by
  unfold zco at ht;obtain ⟨p,hp,ht⟩:=List.mem_flatMap.1 ht;have:=hsm.pj p hp;rcases List.mem_cons.1 ht with rfl|ht
  ·omega
  ·rcases List.mem_singleton.1 ht with rfl;omega
 have HLN:Hid ((zco (zak L (T.getD 0 empty)).key.val.pj).length<=1048576):=by unfold Hid;rw [zed];have:=hsm.np;omega
 have HSA:Hid (∀R r w',zbe w' w.heap.size r R->Bl w w'->zar w B g b now aa ab ao ac T ad (L.map KV.key) (L.map KV.key,R) (.returned (.tuple #[r,.nilIface])) w'):=fun R r w' h1 h2=>zbo h ⟨r,rfl,h1,h2⟩;clear h hd hs hH hsm e1 e2 e3 hko xz;generalize zco (zak L (T.getD 0 empty)).key.val.pj=X,(zak L (T.getD 0 empty)).key.val.pj.length=pl,L.map KV.key=ks,(zak L (T.getD 0 empty)).key.val.kind=kd,(zak L (T.getD 0 empty)).key.val.text=tx at*;have hf:=fun W=>zld (.int .i64 kd) (.string tx) (.slice a1 n1 k1) (.slice a2 pl k2) (.slice a3 n3 k3) W;go_enter func201,ntmps201;go_wp2_with fail;refine (HH.out _ (Qb _ _)).mono ?_;rintro e w0 ⟨rfl,b0⟩;have HB0:=hid b0;clear b0 HH;go_wp2_with fail;refine (HP.out _ HB0.out).mono ?_;rintro e w1 ⟨v,rfl,o1,b1⟩;have HB:=hid (HB0.out.trans (b1.mono HB0.out.size));obtain ⟨a4,A4,c4,rfl,h1,_,_⟩:=zc0 o1 HSZ.out;have HR:=hid (zkv a4 A4 0 X.length c4 X w1 h1 HLN.out);clear b1 HP o1 h1;generalize X.length=m at*;go_wp2_with fail;refine HR.out.mono ?_;rintro e w2 ⟨r,rfl,hr,hb⟩;have HF:Hid _:=HSA.out _ r w2 (hr.le HB.out.size) (HB.out.trans (hb.mono HB.out.size));clear hr hb HR HSA;go_wp2;go_ret2;exact HF.out
end
theorem zvj (a:Option Addr) (b off n c:Nat) (R:List Kk.Rk) (m:ByteArray) (w:World) (h:Kk.zdh w a b off n R) (hn:n<=1048577):
  Calls prog 258 #[.slice a n c,.string m] w fun e w'=>e= .returned (.int .i64 (zfq R m 0))/\Bl w w':=by
 have hl:=h.len;refine (Kk.zqi a b off n c R m w h hn).mono ?_;rintro e w' ⟨⟨r,rfl,hr⟩,hb⟩;refine ⟨?_,hb⟩;rcases hr with ⟨k,rfl,hk,hm,hf⟩|⟨rfl,hf⟩
 ·rw [zpm R m k 0 (by omega) hf hm];simp
 ·rw [zko R m 0 (fun j hj=>hf j (by omega))]
theorem zzc (m:ByteArray):∀(R:List Kk.Rk) (s:Nat),zfq R m s= -1\/(s:Int)<=zfq R m s
 | [],_=> .inl rfl
 |x::r,s=>by
  show (if x.m=m then (s:Int) else zfq r m (s+1))= -1\/(s:Int)<=if x.m=m then (s:Int) else zfq r m (s+1);split
  ·exact .inr (Int.le_refl _)
  ·rcases zzc m r (s+1) with h|h
   ·exact .inl h
   ·exact .inr (by omega)
theorem zp6 (R:List Kk.Rk) (m:ByteArray):(zfq R m 0= -1)\/∃k:Nat,zfq R m 0=(k:Int)/\k<R.length:=by
 rcases zzc m R 0 with h|h
 ·exact .inl h
 ·exact .inr (zl2 R m (by omega))
section
variable (B g b n:Nat) (now:Int) (aa:Option Addr) (ab ao ac:Nat) (L:List KV) (T:List ByteArray) (ad:Nat->Addr) (w:World)
theorem ztr (h:zcr w B g b n now aa ab ao ac L L T) (hd:zan (L.map KV.key)=true) (hs:∀t∈T,t.size<=200) (hT:T.length=2):
  Calls prog 206 #[.pointer (some ⟨g,0,none⟩)] w (zar w B g b now aa ab ao ac T ad (L.map KV.key) (if zfq (zak L (T.getD 0 empty)).key.val.rq (T.getD 1 empty) 0<0 then (L.map KV.key,zbm) else (L.map KV.key,zam (zfq (zak L (T.getD 0 empty)).key.val.rq (T.getD 1 empty) 0)))):=by
 have hz0:=zav hs 0;have hsm:=za8 hd (T.getD 0 empty);obtain ⟨a1,n1,k1,a2,n2,k2,a3,n3,k3,e1,e2,e3,hH⟩:=h.held (by omega) hz0;have hko:=(h.keyOwn (T.getD 0 empty)).rq;obtain ⟨xa,xA,xc,xe,xz⟩:=Kk.zcl hko;rw [e3] at xe;injection xe with x1 x2 x3;subst x1 x2 x3;have HH:=hid hH;have HSA:Hid (∀R r w',zbe w' w.heap.size r R->Bl w w'->zar w B g b now aa ab ao ac T ad (L.map KV.key) (L.map KV.key,R) (.returned (.tuple #[r,.nilIface])) w'):=fun R r w' h1 h2=>zbo h ⟨r,rfl,h1,h2⟩;have HP:=hid fun W (hb:Bl w W)=>zvj a3 xA 0 (zak L (T.getD 0 empty)).key.val.rq.length k3 (zak L (T.getD 0 empty)).key.val.rq (T.getD 1 empty) W (xz.bw hb) (by have:=hsm.nr;omega);have HN:=hid fun W=>zev W;obtain ⟨-,c1⟩:=h.arg 1 (by omega);have HA:Hid (∀V,Bl w V->V.cell? ⟨g,2,none⟩=some (.slice aa T.length ac)/\V.cell? ⟨ab,ao+1,none⟩=some (.string (T.getD 1 empty))):=fun V hb=>⟨(h.bw hb).call.c2,c1 V (hb.mono h.le)⟩;obtain rfl:=h.call.args.addr (by omega);rw [hT] at HA;have hrr:=zp6 (zak L (T.getD 0 empty)).key.val.rq (T.getD 1 empty);have HC:=hid fun W s=>za4 s W;clear h hd hs hH hsm e1 e2 e3 hko xz c1;generalize zfq (zak L (T.getD 0 empty)).key.val.rq (T.getD 1 empty) 0=z,(zak L (T.getD 0 empty)).key.val.rq.length=rl,L.map KV.key=ks,(zak L (T.getD 0 empty)).key.val.kind=kd,(zak L (T.getD 0 empty)).key.val.text=tx at*;generalize (T.getD 1 empty)=t1 at*;have hf:=fun W=>zjj (.int .i64 kd) (.string tx) (.slice a1 n1 k1) (.slice a2 n2 k2) (.slice a3 rl k3) W;obtain ⟨q0,q1⟩:=HA.out w.drew (below_drewN (Qb _ _) 1);obtain ⟨pp,hpp⟩:∃pp,(if z<0 then (ks,zbm) else (ks,zam z))=pp:=⟨_,rfl⟩;rw [hpp];have HPP:=hid hpp;clear hpp;have hzd:z<0\/0<=z:=by omega
 go_enter func206,ntmps206;go_upto_region 1 with fail;go_region_held3 (fun V=>V.cell? ⟨g,2,none⟩=some (.slice (some ⟨ab,ao,none⟩) 2 ac)/\V.cell? ⟨ab,ao+1,none⟩=some (.string t1))
  (first|exact HA.out _ (Qb _ _)|exact ⟨q0,q1⟩|exact HA.out _ hb6|exact HA.out _ hb5)
  (first
   |(go_at_call 239;refine (HH.out _ (below_drewN (Qb _ w) 1)).mono ?_;rintro e w2 ⟨rfl,b2⟩;have hb5:=(below_drewN (Qb _ w) 1).trans b2)
   |(go_at_call 258;refine (HP.out _ hb5).mono ?_;rintro e w3 ⟨rfl,b3⟩;have hb6:=hb5.trans (b3.mono hb5.size)))
 all_goals
  have HB:=hid hb6;clear hb5 hb6 b2 b3 HH HA q0 q1 HP;rcases hzd with hzn|hzp
  ·obtain rfl:(ks,zbm)=pp:=by have:=HPP.out;rwa [if_pos hzn] at this
   have hdz:decide (z<0)=true:=Qe hzn;go_wp2_with fail;refine (HN.out _).mono ?_;rintro e w4 ⟨r,rfl,hr,hb⟩;have HF:Hid _:=HSA.out _ r w4 (hr.le HB.out.size) (HB.out.trans (hb.mono HB.out.size));clear hr hb HN HSA HC;go_wp2;go_ret2;exact HF.out
  ·obtain rfl:(ks,zam z)=pp:=by have:=HPP.out;rwa [if_neg (by omega)] at this
   have hdz:decide (z<0)=false:=Qf (by omega);go_wp2_with fail;refine (HC.out _ _).mono ?_;rintro e w4 ⟨r,rfl,hr,hb⟩;have HF:Hid _:=HSA.out _ r w4 (hr.le HB.out.size) (HB.out.trans (hb.mono HB.out.size));clear hr hb HN HSA HC;go_wp2;go_ret2;exact HF.out
theorem zp8 (h:zcr w B g b n now aa ab ao ac L L T) (hd:zan (L.map KV.key)=true) (hE:zhj w B ad) (hs:∀t∈T,t.size<=200) (hT:T.length=2):
  Calls prog 205 #[.pointer (some ⟨g,0,none⟩)] w (zar w B g b now aa ab ao ac T ad (L.map KV.key) (if zfq (zak L (T.getD 0 empty)).key.val.rq (T.getD 1 empty) 0<0 then (L.map KV.key,zbm) else (L.map KV.key,zax (Kk.zc6 ((zak L (T.getD 0 empty)).key.val.rq.getD (zfq (zak L (T.getD 0 empty)).key.val.rq (T.getD 1 empty) 0).toNat Kk.rk0).s)))):=by
 have hz0:=zav hs 0;have hsm:=za8 hd (T.getD 0 empty);obtain ⟨a1,n1,k1,a2,n2,k2,a3,n3,k3,e1,e2,e3,hH⟩:=h.held (by omega) hz0;have hko:=(h.keyOwn (T.getD 0 empty)).rq;obtain ⟨xa,xA,xc,xe,xz⟩:=Kk.zcl hko;rw [e3] at xe;injection xe with x1 x2 x3;subst x1 x2 x3;have HH:=hid hH;have HSA:Hid (∀R r w',zbe w' w.heap.size r R->Bl w w'->zar w B g b now aa ab ao ac T ad (L.map KV.key) (L.map KV.key,R) (.returned (.tuple #[r,.nilIface])) w'):=fun R r w' h1 h2=>zbo h ⟨r,rfl,h1,h2⟩;have HP:=hid fun W (hb:Bl w W)=>zvj a3 xA 0 (zak L (T.getD 0 empty)).key.val.rq.length k3 (zak L (T.getD 0 empty)).key.val.rq (T.getD 1 empty) W (xz.bw hb) (by have:=hsm.nr;omega);have HN:=hid fun W=>zev W;obtain ⟨-,c1⟩:=h.arg 1 (by omega);have HA:Hid (∀V,Bl w V->V.cell? ⟨g,2,none⟩=some (.slice aa T.length ac)/\V.cell? ⟨ab,ao+1,none⟩=some (.string (T.getD 1 empty))):=fun V hb=>⟨(h.bw hb).call.c2,c1 V (hb.mono h.le)⟩;obtain rfl:=h.call.args.addr (by omega);rw [hT] at HA;have hrr:=zp6 (zak L (T.getD 0 empty)).key.val.rq (T.getD 1 empty);have HR:=hid fun W s=>zd3 s W;have HFM:=hid fun W v (hv:Kk.zjw v) (hb:Bl w W)=>Kk.zjl v W hv (hE.bw (hb.mono h.le)).rd.tab;have HZ:=hid fun W (hb:Bl w W)=>xz.bw hb;have HSM:=hid hsm.rq;have h20:=hsm.nr;clear h hd hE hs hH hsm e1 e2 e3 hko xz c1;generalize zfq (zak L (T.getD 0 empty)).key.val.rq (T.getD 1 empty) 0=z at*;generalize hRR:(zak L (T.getD 0 empty)).key.val.rq=RR at*;clear hRR;generalize L.map KV.key=ks,(zak L (T.getD 0 empty)).key.val.kind=kd,(zak L (T.getD 0 empty)).key.val.text=tx,(T.getD 1 empty)=t1 at*;have hf:=fun W=>zjj (.int .i64 kd) (.string tx) (.slice a1 n1 k1) (.slice a2 n2 k2) (.slice a3 RR.length k3) W;rcases hrr with hz|⟨k,hz,hk⟩
 ·rw [if_pos (by omega)];rw [hz] at HP;have HP2:=hid HP.out;clear HP HZ HSM HFM HR hz;generalize RR.length=rl at*;go_enter func205,ntmps205;go_wp2_with fail;refine (HH.out _ (Qb _ _)).mono ?_;rintro e w1 ⟨rfl,b1⟩;have HB:=hid b1;obtain ⟨q0,q1⟩:=HA.out w1 b1;clear b1 HH HA;go_wp2_with fail;refine (HP2.out _ HB.out).mono ?_;rintro e w2 ⟨rfl,b2⟩;have HB2:=hid (HB.out.trans (b2.mono HB.out.size));clear b2 HP2;go_wp2_with fail;refine (HN.out _).mono ?_;rintro e w4 ⟨r,rfl,hr,hb⟩;have HF:Hid _:=HSA.out _ r w4 (hr.le HB2.out.size) (HB2.out.trans (hb.mono HB2.out.size));clear hr hb HN HSA;go_wp2;go_ret2;exact HF.out
 ·rw [if_neg (by omega),hz,Int.toNat_natCast];have HP2:Hid (∀W,Bl w W->Cp 258 #[.slice a3 RR.length k3,.string t1] W fun e w'=>e= .returned (.int .i64 (k:Int))/\Bl W w'):=by rw [hz] at HP;exact HP.out
  obtain rfl:=(HZ.out w (Qb _ _)).addr (by omega);have HC1:Hid (∀W,Bl w W->W.cell? ⟨xA,k*2+1,none⟩=some (.int .i64 (RR.getD k Kk.rk0).s)):=fun W hb=>by have:=((HZ.out W hb).cell k hk).c1;rwa [Qq] at this
  have hms:=HSM.out (RR.getD k Kk.rk0) (by rw [Qa,Qd hk];exact Qv hk);have HFM2:Hid (∀W,Bl w W->Cp 115 #[.int .i64 (RR.getD k Kk.rk0).s,.int .i64 10] W fun e w'=>e= .returned (.string (Kk.zc6 (RR.getD k Kk.rk0).s))/\Bl W w'):=fun W hb=>HFM.out W _ ⟨by omega,by omega⟩ hb;clear HP HZ HSM HFM HN hz hms;generalize (RR.getD k Kk.rk0).s=sc,RR.length=rl at*;have hk1:(0:Int)<=(k:Int):=by omega
  have hk2:(k:Int)<(rl:Int):=by omega
  have hk3:decide ((k:Int)<0)=false:=Qf (by omega);go_enter func205,ntmps205;go_wp2_with fail;refine (HH.out _ (Qb _ _)).mono ?_;rintro e w1 ⟨rfl,b1⟩;have HB:=hid b1;obtain ⟨q0,q1⟩:=HA.out w1 b1;clear b1 HH HA;go_wp2_with fail;refine (HP2.out _ HB.out).mono ?_;rintro e w2 ⟨rfl,b2⟩;have HB2:=hid (HB.out.trans (b2.mono HB.out.size));have c2:=HC1.out w2 HB2.out;clear b2 HP2 HC1;go_wp2_with fail;refine (HFM2.out _ HB2.out).mono ?_;rintro e w3 ⟨rfl,b3⟩;have HB3:=hid (HB2.out.trans (b3.mono HB2.out.size));clear b3 HFM2;go_wp2_with fail;refine (HR.out _ _).mono ?_;rintro e w4 ⟨r,rfl,hr,hb⟩;have HF:Hid _:=HSA.out _ r w4 (hr.le HB3.out.size) (HB3.out.trans (hb.mono HB3.out.size));clear hr hb HR HSA;go_wp2;go_ret2;exact HF.out
end
theorem zoi (rs:List Kk.Rk) (f l:Int):zek (rs.map Kk.Rk.m) f l=zd8 rs f l:=by
 unfold zek zd8;rw [Qp,List.map_drop,List.map_take]
theorem zro (B g b n:Nat) (now:Int) (aa:Option Addr) (ab ao ac:Nat) (L:List KV) (T:List ByteArray) (ad:Nat->Addr) (w:World) (h:zcr w B g b n now aa ab ao ac L L T) (hd:zan (L.map KV.key)=true) (hE:zhj w B ad) (hs:∀t∈T,t.size<=200) (hT:T.length=3):
  Calls prog 207 #[.pointer (some ⟨g,0,none⟩)] w (zar w B g b now aa ab ao ac T ad (L.map KV.key) (if zlh T=true then (L.map KV.key,zb5 (zd8 (zak L (T.getD 0 empty)).key.val.rq (zbc (T.getD 1 empty)).1 (zbc (T.getD 2 empty)).1)) else (L.map KV.key,zcb zdc))):=by
 have hz0:=zav hs 0;have hsm:=za8 hd (T.getD 0 empty);obtain ⟨a1,n1,k1,a2,n2,k2,a3,n3,k3,e1,e2,e3,hH⟩:=h.held (by omega) hz0;have hko:=(h.keyOwn (T.getD 0 empty)).rq;obtain ⟨xa,xA,xc,xe,xz⟩:=Kk.zcl hko;rw [e3] at xe;injection xe with x1 x2 x3;subst x1 x2 x3;have HH:=hid hH;have HSA:Hid (∀R r w',zbe w' w.heap.size r R->Bl w w'->zar w B g b now aa ab ao ac T ad (L.map KV.key) (L.map KV.key,R) (.returned (.tuple #[r,.nilIface])) w'):=fun R r w' h1 h2=>zbo h ⟨r,rfl,h1,h2⟩;have HZ:=hid fun W (hb:Bl w W)=>xz.bw hb;have HSM:=hid hsm.rq;have h20:=hsm.nr;have HS:Hid (∀W (X:List ByteArray) a xb cp,X.length<=1048576->zdg W a xb 0 X.length X->X.length<=cp->(a=none->cp=0)->Bl w W->Cp 248 #[.pointer (some ⟨g,0,none⟩),.slice a X.length cp] W fun e w'=>∃r,e= .returned (.tuple #[r,zc9 (ad 12) (zlh T)])/\(zlh T=true->zbe w' W.heap.size r (zb5 (zek X (zbc (T.getD 1 empty)).1 (zbc (T.getD 2 empty)).1)))/\Bl W w'):=fun W X a xb cp h1 h2 h3 h4 hb=>zi1 B g b n now aa ab ao ac L L T ad W (h.bw hb) (hE.bw (hb.mono h.le)) hT hs X a xb 0 cp h2 h3 h1 h4;have HFA:Hid (∀r w',Bl w w'->zar w B g b now aa ab ao ac T ad (L.map KV.key) (L.map KV.key,zcb zdc) (.returned (.tuple #[r,.iface 307 (.pointer (some (ad 12)))])) w'):=fun r w' h2=>zf0 12 (by omega) (h2.mono h.le);clear h hd hE hs hH hsm e1 e2 e3 hko xz;generalize (zak L (T.getD 0 empty)).key.val.rq=RR,L.map KV.key=ks,(zak L (T.getD 0 empty)).key.val.kind=kd,(zak L (T.getD 0 empty)).key.val.text=tx at*;have HIM:Hid (zek (RR.map Kk.Rk.m) (zbc (T.getD 1 empty)).1 (zbc (T.getD 2 empty)).1=zd8 RR (zbc (T.getD 1 empty)).1 (zbc (T.getD 2 empty)).1):=zoi RR _ _;generalize hz1:(zbc (T.getD 1 empty)).1=z1 at*;generalize hz2:(zbc (T.getD 2 empty)).1=z2 at*;clear hz1 hz2;generalize zlh T=so at*;have hf:=fun W=>zjj (.int .i64 kd) (.string tx) (.slice a1 n1 k1) (.slice a2 n2 k2) (.slice a3 RR.length k3) W;obtain ⟨pp,hpp⟩:∃pp,(if so=true then (ks,zb5 (zd8 RR z1 z2)) else (ks,zcb zdc))=pp:=⟨_,rfl⟩;rw [hpp];have HPP:=hid hpp;clear hpp;obtain ⟨m,hmm⟩:∃m,RR.length=m:=⟨_,rfl⟩;have HMM:=hid hmm;rw [hmm] at HH hf h20 HZ;clear hmm;go_enter func207,ntmps207;go_wp2_with fail;refine (HH.out _ (Qb _ _)).mono ?_;rintro e w1 ⟨rfl,b1⟩;have HB1:=hid b1;have HST:Hid (zmo w1 (.slice none 0 0) w1 []):=⟨World.ownsRow_nil _ _ _ _,Qb _ _⟩;clear b1 HH;go_wp2;go_loopw [4,11] (fun v i wr=>∃k:Nat,k<=m/\i= .int .i64 k/\Hid (zmo w1 v wr ((RR.take k).map Kk.Rk.m))) (fun _ i _=>m-(intOf i).toNat)
 case atStart=>exact ⟨0,by omega,rfl,HST⟩
 case round=>
  obtain ⟨k,hk,rfl,hI⟩:=hrel;clear HST;by_cases hlt:k<m
  ·have hkl:k<RR.length:=by rw [HMM.out];exact hlt
   have hbw:=HB1.out.trans (hI.out.bel.mono HB1.out.size);have hzk:=(HZ.out wr hbw).cell k hlt;obtain rfl:=(HZ.out wr hbw).addr (by omega);have d0:=hzk.c0;have d1:=hzk.c1;rw [Qq] at d0 d1;obtain ⟨x,hx⟩:∃x,RR.getD k Kk.rk0=x:=⟨_,rfl⟩;rw [hx] at d0 d1;have HNX:Hid ((RR.take k).map Kk.Rk.m++ [x.m]=(RR.take (k+1)).map Kk.Rk.m):=by
    unfold Hid;rw [Qo hkl,List.map_append,<-hx,Qa,Qd hkl];rfl
   clear hx hzk;obtain ⟨W0,hW0,HW0,b0,q0⟩:=boxed wr #[.string ⟨#[]⟩,.int .i64 0] 147;have rc1:=q0.set 0 (.string x.m);have rc2:=rc1.set 1 (.int .i64 x.s);have hl:=Qc wr.heap.size;have b4:Bl wr ((W0.setCell ⟨wr.heap.size,0,none⟩ (.string x.m)).setCell ⟨wr.heap.size,1,none⟩ (.int .i64 x.s)):=(b0.setCell hl _).setCell hl _;obtain ⟨W4,hW4⟩:∃W4,(W0.setCell ⟨wr.heap.size,0,none⟩ (.string x.m)).setCell ⟨wr.heap.size,1,none⟩ (.int .i64 x.s)=W4:=⟨_,rfl⟩;rw [hW4] at rc2 b4;have y0:=q0.cell 0;have y1:=q0.cell 1;have z0:=q0.frozen 0;have z1':=q0.frozen 1;have u0:=rc2.cell 0;simp only [Qm,Qk,Ql] at y0 y1 u0;have hI4:zmo w1 u4 W4 ((RR.take k).map Kk.Rk.m):=⟨zaf hI.out.own b4,hI.out.bel.trans (b4.mono hI.out.bel.size)⟩;obtain ⟨v',w2,r2,hI2⟩:=hI4.next x.m (by rw [Qp,Qn];omega);rw [HNX.out] at hI2;have R2:Hid _:=r2;have HI2:Hid _:=hI2;clear r2 hI2 hI4 rc1 rc2 b0 q0 b4 hbw hI HNX;have hki:(k:Int)<(m:Int):=by omega
   go_wp2_with (at_builtin;refine wpList_append_run rfl _ _ 25 rfl rfl rfl R2.out ?_);exact ⟨⟨k+1,by omega,by go_num,HI2⟩,by simp [intOf];omega⟩
  ·obtain rfl:k=m:=by omega
   have hfull:RR.take k=RR:=by rw [<-HMM.out];exact List.take_length
   rw [hfull] at hI;have hbw:=HB1.out.trans (hI.out.bel.mono HB1.out.size)
   obtain ⟨a4,A4,c4,ev4,h4,l4,_⟩:=zc0 hI.out.own (fun t ht=>by
    obtain ⟨r,hr,rfl⟩:=List.mem_map.1 ht;have:=HSM.out r hr;omega)
   subst ev4;have HS2:=HS.out wr (RR.map Kk.Rk.m) a4 A4 c4 (by rw [Qp,HMM.out];omega) h4 l4 (zkx hI.out.own) hbw;rw [HIM.out] at HS2;have HBW:=hid hbw;clear HS HIM HSM hI h4 l4 hbw HZ hfull HB1;generalize (RR.map Kk.Rk.m).length=ml,zd8 RR z1 z2=ri at*;cases so with
   |true=>
    obtain rfl:(ks,zb5 ri)=pp:=HPP.out;have HS3:=hid HS2;clear HS2 HFA HPP;go_wp2_with fail;refine HS3.out.mono ?_;rintro e w2 ⟨r,rfl,hr,hb⟩;have HF:Hid _:=HSA.out _ r w2 ((hr trivial).le HBW.out.size) (HBW.out.trans (hb.mono HBW.out.size));clear hr hb HS3 HSA;go_wp2;go_ret2;exact HF.out
   |false=>
    obtain rfl:(ks,zcb zdc)=pp:=HPP.out;have HS3:=hid HS2;clear HS2 HSA HPP;generalize ad 12=A at*;go_wp2_with fail;refine HS3.out.mono ?_;rintro e w2 ⟨r,rfl,-,hb⟩;have HF:Hid _:=HFA.out r w2 (HBW.out.trans (hb.mono HBW.out.size));clear hb HS3 HFA;go_wp2;go_ret2;exact HF.out
end Go.Proofs.YtokafonppgppdaaGreatDoor.Rb
