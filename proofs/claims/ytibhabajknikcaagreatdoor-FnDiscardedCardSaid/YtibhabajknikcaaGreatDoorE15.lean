import Derived.Test.YtibhabajknikcaaGreatDoorE13
import Derived.Test.YtibhabajknikcaaGreatDoorE9
import Derived.Test.YtibhabajknikcaaGreatDoorE10
set_option maxHeartbeats 4000000
set_option maxRecDepth 100000
namespace Go.Proofs.YtibhabajknikcaaGreatDoor.Er
open Go.RowKit
theorem l7Exec_any (B:Nat) (v:Value) (L:List KV) (r:ByteArray) (m:Bool) (q:Value) (Q:List (List ByteArray)) (d x:Bool) (now:Int) (w:World) (h:DbOwn w B v L) (hk:KeepK (L.map KV.key)) (hB:B≤w.heap.size) (hq:QIn w q Q) (hQ:QOk Q) (hnow:0≤now∧now≤1000000000):
  Calls Tryz.prog 56 #[v,.agg (sC r m q d x),.int .i64 now] w (zbd w B (execM (L.map KV.key) now Q)):=by
 obtain ⟨a0,c0,hv,_⟩:=hq.val;subst hv;obtain ⟨W,hW⟩:∃W,((w.alloc (.cells (sC r m (.slice a0 Q.length c0) d x) 27)).alloc (.cells #[] 53)).alloc (.cells #[] 2)=W:=⟨_,rfl⟩;have HW:Hid (((w.alloc (.cells (sC r m (.slice a0 Q.length c0) d x) 27)).alloc (.cells #[] 53)).alloc (.cells #[] 2)=W):=hW;have HI0:Hid (ExI w B v (.slice (some ⟨w.heap.size+1,0,none⟩) 0 0) (.slice (some ⟨w.heap.size+2,0,none⟩) 0 0) W (L.map KV.key) [] []):=ExI.start h hW;have HR0:Hid (RowAt W w.heap.size 27 (sC r m (.slice a0 Q.length c0) d x)):=by
  have h1:=RowAt.new w 27 (sC r m (.slice a0 Q.length c0) d x);have h2:=h1.below ((Below.refl _ _).alloc (Nat.le_refl _) (.cells #[] 53)) h1.lt;have h3:=h2.below ((Below.refl _ _).alloc (Nat.le_refl _) (.cells #[] 2)) h2.lt;rw [hW] at h3;exact h3
 have HQ:Hid (∀W',Below w.heap.size w W'→QIn W' (.slice a0 Q.length c0) Q):=fun W' hb=>hq.below hb;have HX:=ex_ok hk hnow hQ;have HXH:Hid (∀k,k≤Q.length→KeepK (exS (L.map KV.key) now (Q.take k)).1∧(exS (L.map KV.key) now (Q.take k)).2.1.length≤41*k∧(exS (L.map KV.key) now (Q.take k)).2.2.length=k):=HX;have HRP:Hid (∀K k (hk:k<Q.length),KeepK K→RpS (doneM K now Q[k]).2):=fun K k hk h1=>done_rp h1 (hQ.arg (List.getElem_mem hk));have HDN:Hid (∀W' v' K k (hk:k<Q.length) p b off kk,Below w.heap.size w W'→(∃L',DbOwn W' B v' L'∧L'.map KV.key=K)→KeepK K→zdg W' p b off (Q[k]).length Q[k]→(Q[k]).length≤kk→Calls Tryz.prog 57 #[v',.int .i64 now,.slice p (Q[k]).length kk] W' (zbd W' B (doneM K now Q[k]))):=fun W' v' K k hk p b off kk hb hL hK hz hkk=>by
  obtain ⟨L',h1,h2⟩:=hL;have hT:=hQ.2 _ (List.getElem_mem hk);have:=l6Done_any B v' L' now p b off (Q[k]).length kk Q[k] W' h1 (by rw [h2];exact hK.2) (by rw [←List.length_map (f:=KV.key),h2];exact hK.1) hz hT.1 (by omega) hkk (hQ.arg (List.getElem_mem hk)) hnow (Nat.le_trans hB hb.size);rw [h2] at this;exact this
 have hQ16:Q.length≤16:=hQ.1;clear h hk hB hq hQ hnow hW HX;generalize L.map KV.key=ks at*;have HEM:Hid (∀K O I,exS ks now (Q.take Q.length)=(K,O,I)→execM ks now Q=(K,O++ [⟨6,0,⟨#[]⟩,I⟩])):=fun K O I e=>by
  rw [List.take_length] at e;unfold execM;rw [e]
 generalize execM ks now Q=EM at*;go_enter Tryz.func56,Tryz.ntmps56;go_wp2_with fail;rw [HW.out];clear HW;go_loopw [0,8,9,10] (fun v V U i wr=>∃(k:Nat) (K:List Ke) (O:List Rp) (I:List Nat),k≤Q.length∧i= .int .i64 k∧Hid (exS ks now (Q.take k)=(K,O,I))∧Hid (ExI w B v V U wr K O I)∧Hid (RowAt wr w.heap.size 27 (sC r m (.slice a0 Q.length c0) d x))) (fun _ _ _ i _=>Q.length-(intOf i).toNat)
 case atStart=>exact ⟨0,ks,[],[],by omega,rfl,rfl,HI0,HR0⟩
 case round=>
  obtain ⟨k,K,O,I,hk,rfl,hE,hI,hR⟩:=hrel;clear HI0 HR0;have hx:=HXH.out k hk;rw [hE.out] at hx;obtain ⟨hK,hO,hIl⟩:=hx;dsimp only at hK hO hIl;obtain ⟨va,vc,eV⟩:=hI.out.form;subst eV;obtain ⟨k0,k1,k2,k3,k4⟩:=Fd.five_at hR.out;by_cases hlt:k<Q.length
  ·obtain ⟨A,cap,p,b,off,kk,e1,e2,e3,e4,e5,e6⟩:=(HQ.out wr hI.out.bel).at_ k hlt;injection e1 with e1 e1' e1'';subst e1;have HC:Hid (Calls Tryz.prog 57 #[u0,.int .i64 now,.slice p (Q[k]).length kk] wr (zbd wr B (doneM K now Q[k]))):=HDN.out wr u0 K k hlt p b off kk hI.out.bel hI.out.db hK e4 e6;have HRS:Hid (RpS (doneM K now Q[k]).2):=HRP.out K k hlt hK;have HE1:Hid (exS ks now (Q.take (k+1))=((doneM K now Q[k]).1,O++(doneM K now Q[k]).2.map (shiftR O.length),I++ [O.length+(doneM K now Q[k]).2.length-1])):=by
    unfold Hid;rw [ex_next ks now Q k hlt,hE.out];rfl
   clear HDN HRP HXH HQ HEM hE hK e2 e4 e5 e6 k0 k1 k3 k4 e1' e1'';generalize doneM K now Q[k]=DM at*;generalize (Q[k]).length=mk at*;obtain ⟨K1,R⟩:=DM;dsimp only at HRS HE1;go_wp2_with fail;refine HC.out.mono ?_;rintro e w1 ⟨v1,r1,L1,rfl,y1,y2,y3,y4⟩;dsimp only at y1 y3;have HJ:Hid (ExJ w B wr.heap.size v1 (.slice va O.length vc) u9 r1 w1 K1 R O I 0):=hI.out.call y2 y1 y3 y4;have HR1:Hid (RowAt w1 w.heap.size 27 (sC r m (.slice (some ⟨A,0,none⟩) Q.length c0) d x)):=hR.out.below y4 hR.out.lt;obtain ⟨ra,rc,er⟩:∃ra rc,r1= .slice ra R.length rc:=by
    obtain ⟨MR,eR,oR,_⟩:=y3;obtain ⟨a,c,e⟩:=zad oR;exact ⟨a,c,by rw [e,←eR,List.length_map]⟩
   subst er;clear y1 y2 y3 y4 HC hI hR k2 e3;generalize wr.heap.size=N0 at HJ;have hR1:=HRS.out.1;have hR2:=HRS.out.2.1;go_wp2_with fail;go_loopw [8,14] (fun V i wr=>∃(j:Nat) (va:Option Addr) (vc:Nat),j≤R.length∧i= .int .i64 j∧V= .slice va (O.length+j) vc∧Hid (ExJ w B N0 v1 V u9 (.slice ra R.length rc) wr K1 R O I j)∧Hid (RowAt wr w.heap.size 27 (sC r m (.slice (some ⟨A,0,none⟩) Q.length c0) d x))) (fun _ i _=>R.length-(intOf i).toNat)
   case atStart=>exact ⟨0,va,vc,by omega,rfl,rfl,HJ,HR1⟩
   case round=>
    obtain ⟨j,va',vc',hj,rfl,rfl,hJ,hR⟩:=hrel;clear HJ HR1;by_cases hjl:j<R.length
    ·obtain ⟨MR,eR,oR,kR⟩:=hJ.out.rep;have hml:MR.length=R.length:=by rw [←eR,List.length_map]
     obtain ⟨g,gc,e1,gB,gl,q0,q1,q2,q3⟩:=rp_cells oR j (by omega);have ex:(MR[j]'(by omega)).r=R[j]:=by simp [←eR]
     injection e1 with e1 e1' e1'';subst e1 e1'';obtain ⟨ka,kg,kc,ek,hk0,hkc⟩:=kid_cells (kR _ (List.getElem_mem (show j<MR.length by omega)));rw [ek] at q3;rw [ex] at q0 q1 q2 q3 hk0;have hkc2:∀i (hi:i<(R[j]).kids.length),wr.cell? ⟨kg,i,none⟩=some (.int .i64 (((R[j]).kids[i]:Nat):Int)):=fun i hi=>by
      have:=hkc i (by rw [ex];exact hi);simp only [ex] at this;exact this
     have HNX:Hid (∀w3 a n c,Below wr.heap.size wr w3→OwnKid w3 wr.heap.size (.slice a n c) ((R[j]).kids.map (· +O.length))→∃V' w4,(Builtin.append_ #[31,31] 31 #[.slice va' (O.length+j) vc',.slice (some ⟨w3.heap.size,0,none⟩) 1 1]).run Tryz.prog (w3.alloc (.cells #[.int .i64 (R[j]).kind,.int .i64 (R[j]).n,.string (R[j]).s,.slice a n c] 53))= .ok V' w4∧ExJ w B N0 v1 V' u9 (.slice (some ⟨g,0,none⟩) R.length rc) w4 K1 R O I (j+1)∧∀g T C,T≠53→RowAt wr g T C→RowAt w4 g T C):=fun w3 a n c h1 h2=>hJ.out.next hjl (by omega) a n c h1 h2;have hkl:=(HRS.out.2.2 _ (List.getElem_mem hjl)).1;have hkv:=(HRS.out.2.2 _ (List.getElem_mem hjl)).2;have HKV:Hid (∀k∈(R[j]).kids,k≤41):=hkv;have HKC:Hid (∀i (hi:i<(R[j]).kids.length),wr.cell? ⟨kg,i,none⟩=some (.int .i64 (((R[j]).kids[i]:Nat):Int))):=hkc2;have HK0:Hid (0<(R[j]).kids.length→ka=some ⟨kg,0,none⟩∧N0≤kg∧kg<wr.heap.size):=hk0;clear hkv hkc2 hk0 hkc ek kR oR ex hml eR gB hJ e1';generalize (R[j]).kids=kids at*;generalize (R[j]).kind=xk at*;generalize (R[j]).n=xm at*;generalize (R[j]).s=xs at*;obtain ⟨W3,hW3⟩:∃W3,(wr.alloc (.cells #[.int .i64 xk,.int .i64 xm,.string xs,.slice (some ⟨wr.heap.size+1,0,none⟩) 0 0] 53)).alloc (.cells #[] 2)=W3:=⟨_,rfl⟩;have HW3:Hid ((wr.alloc (.cells #[.int .i64 xk,.int .i64 xm,.string xs,.slice (some ⟨wr.heap.size+1,0,none⟩) 0 0] 53)).alloc (.cells #[] 2)=W3):=hW3;have z1:(wr.alloc (.cells #[.int .i64 xk,.int .i64 xm,.string xs,.slice (some ⟨wr.heap.size+1,0,none⟩) 0 0] 53)).heap.size=wr.heap.size+1:=by simp
     have b1:Below wr.heap.size wr (wr.alloc (.cells #[.int .i64 xk,.int .i64 xm,.string xs,.slice (some ⟨wr.heap.size+1,0,none⟩) 0 0] 53)):=(Below.refl _ _).alloc (Nat.le_refl _) _;have b2:Below (wr.alloc (.cells #[.int .i64 xk,.int .i64 xm,.string xs,.slice (some ⟨wr.heap.size+1,0,none⟩) 0 0] 53)).heap.size (wr.alloc (.cells #[.int .i64 xk,.int .i64 xm,.string xs,.slice (some ⟨wr.heap.size+1,0,none⟩) 0 0] 53)) W3:=by
      rw [←hW3];exact (Below.refl _ _).alloc (Nat.le_refl _) _
     have HB3:Hid (Below wr.heap.size wr W3):=b1.trans (b2.mono b1.size);have HG3:Hid (RowAt W3 wr.heap.size 53 #[.int .i64 xk,.int .i64 xm,.string xs,.slice (some ⟨wr.heap.size+1,0,none⟩) 0 0]):=(RowAt.new wr 53 _).below b2 (by omega);have HO3:Hid (OwnKid W3 wr.heap.size (.slice (some ⟨wr.heap.size+1,0,none⟩) 0 0) ((kids.take 0).map (· +O.length))):=by
      have:=RowAt.new (wr.alloc (.cells #[.int .i64 xk,.int .i64 xm,.string xs,.slice (some ⟨wr.heap.size+1,0,none⟩) 0 0] 53)) 2 #[];rw [z1,hW3] at this;exact empty_own this (by omega)
     clear hW3 z1 b1 b2;obtain ⟨wj,hwj⟩:∃wj:World,wj=wr:=⟨_,rfl⟩;subst hwj;go_wp2_with fail;rw [HW3.out];clear HW3;go_loopw [16] (fun i wr=>∃(k:Nat) (xa:Option Addr) (xc:Nat),k≤kids.length∧i= .int .i64 k∧Hid (OwnKid wr wj.heap.size (.slice xa k xc) ((kids.take k).map (· +O.length)))∧Hid (RowAt wr wj.heap.size 53 #[.int .i64 xk,.int .i64 xm,.string xs,.slice xa k xc])∧Hid (Below wj.heap.size wj wr)) (fun i _=>kids.length-(intOf i).toNat)
     case atStart=>exact ⟨0,_,_,by omega,rfl,HO3,HG3,HB3⟩
     case round=>
      obtain ⟨i,xa,xc,hi,rfl,hO3,hG3,hB3⟩:=hrel;clear HO3 HG3 HB3;have p3:wr.cell? ⟨g,j*4+3,none⟩=some (.slice ka kids.length kc):=(hB3.out.cell (p:=⟨g,j*4+3,none⟩) gl).trans q3;by_cases hil:i<kids.length
      ·obtain ⟨eka,_,hkg⟩:=HK0.out (by omega);subst eka;have ck:wr.cell? ⟨kg,i,none⟩=some (.int .i64 ((kids[i]:Nat):Int)):=(hB3.out.cell (p:=⟨kg,i,none⟩) hkg).trans (HKC.out i hil);have hkv:=HKV.out _ (List.getElem_mem hil);have hlen:((kids.take i).map (· +O.length)).length=i:=by rw [List.length_map,List.length_take];omega
       obtain ⟨a',c',w2,run2,z3,f3,u1,u2,u3⟩:=kid_next hO3.out hG3.out hB3.out (Nat.le_refl _) (kids[i]+O.length) (by omega);rw [hlen] at run2 u1 u2 u3;have HU1:Hid (OwnKid (w2.setCell ⟨wj.heap.size,3,none⟩ (.slice a' (i+1) c')) wj.heap.size (.slice a' (i+1) c') ((kids.take (i+1)).map (· +O.length))):=by
        unfold Hid;rw [List.take_succ_eq_append_getElem hil,List.map_append];exact u1
       have HU2:Hid (RowAt (w2.setCell ⟨wj.heap.size,3,none⟩ (.slice a' (i+1) c')) wj.heap.size 53 #[.int .i64 xk,.int .i64 xm,.string xs,.slice a' (i+1) c']):=u2;have HU3:Hid (Below wj.heap.size wj (w2.setCell ⟨wj.heap.size,3,none⟩ (.slice a' (i+1) c'))):=u3;have g3:=hG3.out.cell 3;simp only [List.getElem?_toArray,List.getElem?_cons_zero,List.getElem?_cons_succ] at g3;have hGl:=hG3.out.lt;have g3':(wr.alloc (.cells #[.int .i64 ((kids[i]+O.length:Nat):Int)] 2)).cell? ⟨wj.heap.size,3,none⟩=some (.slice xa i xc):=(((Below.refl _ wr).alloc (Nat.le_refl _) _).cell (p:=⟨wj.heap.size,3,none⟩) hGl).trans g3;have hwr:IntKind.i64.wrap (((kids[i]:Nat):Int)+(O.length:Int))=((kids[i]+O.length:Nat):Int):=by
        rw [Kk.wrap_small (by omega) (by omega)];omega
       clear u1 u2 u3 hO3 hG3 hB3 hkg HK0 HKC HKV HNX hkv hlen q0 q1 q2 q3;generalize kids[i]+O.length=kn at*;generalize kids[i]=ki at*;go_wp2_with fail;go_region_law (refine zba rfl (.tmp 63) (.tmp 74) 51 rfl (by simp [Act.eval]) (by simp [Act.eval]) run2 ?_);all_goals
        go_wp2;go_roundw
        case rel=>exact ⟨i+1,a',c',by omega,by go_num,HU1,HU2,HU3⟩
        case measure=>simp [intOf];omega
      ·obtain rfl:i=kids.length:=by omega
       obtain ⟨V',w4,run4,u1,u2⟩:=HNX.out wr xa kids.length xc hB3.out (by
        have:=hO3.out;rw [List.take_length] at this;exact this)
       obtain ⟨va2,vc2,e⟩:=u1.form (by omega);subst e;have HJ2:Hid (ExJ w B N0 v1 (.slice va2 (O.length+(j+1)) vc2) u9 (.slice (some ⟨g,0,none⟩) R.length rc) w4 K1 R O I (j+1)):=u1;have HR2:Hid (RowAt w4 w.heap.size 27 (sC r m (.slice (some ⟨A,0,none⟩) Q.length c0) d x)):=u2 _ _ _ (by decide) hR.out;have R4:Hid _:=run4;have g0:=hG3.out.cell 0;have g1:=hG3.out.cell 1;have g2:=hG3.out.cell 2;have g3:=hG3.out.cell 3;simp only [List.getElem?_toArray,List.getElem?_cons_zero,List.getElem?_cons_succ] at g0 g1 g2 g3;clear u1 u2 run4 hO3 hG3 hB3 HK0 HKC HKV HNX q0 q1 q2 q3 hR;go_wp2_with (at_builtin;refine wpList_append_run rfl _ _ 31 rfl rfl rfl R4.out ?_);go_roundw
       case rel=>exact ⟨j+1,va2,vc2,by omega,by go_num,rfl,HJ2,HR2⟩
       case measure=>simp [intOf];omega
    ·obtain rfl:j=R.length:=by omega
     obtain ⟨U',w2,run2,u1,u2⟩:=hJ.out.done (O.length+R.length-1) (by omega);have HI2:Hid (ExI w B v1 (.slice va' (O.length+R.length) vc') U' w2 K1 (O++R.map (shiftR O.length)) (I++ [O.length+R.length-1])):=u1;have HR2:Hid (RowAt w2 w.heap.size 27 (sC r m (.slice (some ⟨A,0,none⟩) Q.length c0) d x)):=u2 _ _ _ (by decide) hR.out;have R2:Hid _:=run2;have hwr:IntKind.i64.wrap (((O.length+R.length:Nat):Int)-1)=((O.length+R.length-1:Nat):Int):=by
      rw [Kk.wrap_small (by omega) (by omega)];omega
     have hnl:O.length+R.length≤10000:=by omega
     clear u1 u2 run2 hJ hR;generalize O.length+R.length-1=n1 at*;generalize O.length+R.length=n2 at*;go_wp2_with (at_builtin;refine wpList_append_run rfl _ _ 51 rfl rfl rfl R2.out ?_);go_roundw
     case rel=>exact ⟨k+1,K1,_,_,by omega,by go_num,HE1,HI2,HR2⟩
     case measure=>simp [intOf];omega
  ·obtain rfl:k=Q.length:=by omega
   obtain ⟨ua,uc,eU⟩:=zad hI.out.kd;subst eU;obtain ⟨V',w2,run2,u1⟩:=hI.out.last _ _ _ (by omega);have R2:Hid _:=run2;have HF:Hid (zbd w B EM (.returned (.tuple #[u0,V'])) w2):=by
    unfold Hid;rw [HEM.out K O I hE.out];exact u1
   clear u1 run2 hI hR HEM HDN HRP HXH HQ hE hK k0 k1 k3 k4 hIl;generalize I.length=ni at*;go_wp2_with (at_builtin;refine wpList_append_run rfl _ _ 31 rfl rfl rfl R2.out ?_);go_ret2;exact HF.out
end Go.Proofs.YtibhabajknikcaaGreatDoor.Er
namespace Go.Proofs.YtibhabajknikcaaGreatDoor.Er
open Go.RowKit
structure Ss where
 rest:ByteArray
 multi:Bool
 queue:List (List ByteArray)
 dirty:Bool
 dead:Bool
abbrev sMulti:ByteArray:=⟨#[77,85,76,84,73]⟩
abbrev sExec:ByteArray:=⟨#[69,88,69,67]⟩
abbrev sDisc:ByteArray:=⟨#[68,73,83,67,65,82,68]⟩
abbrev sNested:ByteArray:=⟨#[110,101,115,116,101,100]⟩
abbrev sNoMulti:ByteArray:=⟨#[110,111,32,109,117,108,116,105]⟩
abbrev sAbort:ByteArray:=⟨#[69,88,69,67,65,66,79,82,84]⟩
abbrev sQueued:ByteArray:=⟨#[81,85,69,85,69,68]⟩
abbrev freshS (s:Ss):Ss:=⟨s.rest,false,[],false,false⟩
def askedM (ks:List Ke) (s:Ss) (now:Int) (T:List ByteArray):List Ke×Ss×List Rp:=
 if nameM (argN T 0)=sMulti∨nameM (argN T 0)=sExec∨nameM (argN T 0)=sDisc then
  (if 1<T.length then (ks,⟨s.rest,s.multi,s.queue,s.multi,s.dead⟩,zcb sWrongNum)
  else if nameM (argN T 0)=sMulti then (if s.multi=true then (ks,s,zcb sNested) else (ks,⟨s.rest,true,s.queue,s.dirty,s.dead⟩,rSimple sOK))
  else if s.multi=true then (if nameM (argN T 0)=sDisc then (ks,freshS s,rSimple sOK) else if s.dirty=true then (ks,freshS s,[⟨2,0,sAbort,[]⟩]) else ((execM ks now s.queue).1,freshS s,(execM ks now s.queue).2))
  else (ks,s,zcb sNoMulti))
 else if s.multi=true then (match cmOf (nameM (argN T 0)) with
  |none=> (ks,⟨s.rest,s.multi,s.queue,true,s.dead⟩,zcb sUnknown)
  |some c=>if c.fits (T.length-1)=true then (if s.queue.length=16 then (ks,⟨s.rest,s.multi,s.queue,true,s.dead⟩,zcb sFull) else (ks,⟨s.rest,s.multi,s.queue++ [T],s.dirty,s.dead⟩,rSimple sQueued)) else (ks,⟨s.rest,s.multi,s.queue,true,s.dead⟩,zcb sWrongNum))
 else ((doneM ks now T).1,s,(doneM ks now T).2)
def AskEnd (w:World) (p:List Ke×Ss×List Rp) (e:Ending) (w':World):Prop:=
 ∃v q xs rv L,e= .returned (.tuple #[v,.agg (sC p.2.1.rest p.2.1.multi q p.2.1.dirty p.2.1.dead),rv])∧L.map KV.key=p.1∧DbOwn w' w.heap.size v L∧Fd.Own2 w' w.heap.size q xs (p.2.1.queue.map strV)∧zbe w' w.heap.size rv p.2.2∧Below w.heap.size w w'
theorem AskEnd.drew {w:World} {p:List Ke×Ss×List Rp} {e:Ending} {W:World} (h:AskEnd w p e W):AskEnd w p e W.drew:=by
 obtain ⟨v,q,xs,rv,L,h1,h2,h3,h4,h5,h6⟩:=h;have b:Below W.heap.size W W.drew:=below_drewN (Below.refl _ _) 1;exact ⟨v,q,xs,rv,L,h1,h2,h3.below b,h4.below b,h5.below b,below_drewN h6 1⟩
theorem zbe_other {W W':World} {B g:Nat} {v:Value} {R:List Rp} {T:TypeId} {C:Array Value} (h:zbe W B v R) (hr:RowAt W g T C) (h1:T≠53) (h2:T≠2) (hb:∀k,k<W.heap.size→k≠g→W'.heap[k]?=W.heap[k]?):zbe W' B v R:=by
 obtain ⟨M,e,o,k⟩:=h;exact ⟨M,e,own_other o hr h1 hb,fun x hx=>own_other (k x hx) hr h2 hb⟩
structure AskW (w:World) (G H:Nat) (v q:Value) (xs:List Value) (r:ByteArray) (m mo:Bool) (q0:Value) (Q:List (List ByteArray)) (d dd x:Bool) (L:List KV) (W:World):Prop where
 bel:Below w.heap.size w W
 r5:RowAt W w.heap.size 27 (sC r m q0 d x)
 r9:RowAt W (w.heap.size+1) 27 z5
 r11:RowAt W G 27 (sC r mo q dd x)
 r13:RowAt W H 27 (sC r false (.slice none 0 0) false false)
 own:Fd.Own2 W w.heap.size q xs (Q.map strV)
 db:DbOwn W w.heap.size v L
 g11:w.heap.size+1<G
 g13:G<H
section
variable {w : World} {G H : Nat} {v q : Value} {xs : List Value} {r : ByteArray} {m mo : Bool} {q0 : Value} {Q : List (List ByteArray)} {d dd x : Bool} {L : List KV} {W W' : World}
theorem AskW.below (h:AskW w G H v q xs r m mo q0 Q d dd x L W) (hb:Below W.heap.size W W'):AskW w G H v q xs r m mo q0 Q d dd x L W':=
 ⟨h.bel.trans (hb.mono h.bel.size),h.r5.below hb h.r5.lt,h.r9.below hb h.r9.lt,h.r11.below hb h.r11.lt,h.r13.below hb h.r13.lt,h.own.below hb,h.db.below hb,h.g11,h.g13⟩
theorem AskW.dirty (h:AskW w G H v q xs r m mo q0 Q d dd x L W) (b:Bool):AskW w G H v q xs r m mo q0 Q d b x L (W.setCell ⟨G,3,none⟩ (.bool b)):=by
 have hb:∀k,k<W.heap.size→k≠G→(W.setCell ⟨G,3,none⟩ (.bool b)).heap[k]?=W.heap[k]?:=fun k _ hk=>Below.heap_setCell _ _ _ _ hk;have h1:=h.g11;have h2:=h.g13;exact ⟨h.bel.setCell (p:=⟨G,3,none⟩) (by simp only;omega) _,(hb _ h.r5.lt (by omega)).trans h.r5,(hb _ h.r9.lt (by omega)).trans h.r9,by simpa using h.r11.set 3 (.bool b),(hb _ h.r13.lt (by omega)).trans h.r13,Own2_other h.own h.r11 (by decide) (by decide) hb,dbown_other h.db h.r11 (by decide) (by decide) (by decide) (by decide) (by simp [World.setCell]) hb,h1,h2⟩
theorem AskW.multi (h:AskW w G H v q xs r m mo q0 Q d dd x L W) (b:Bool):AskW w G H v q xs r m b q0 Q d dd x L (W.setCell ⟨G,1,none⟩ (.bool b)):=by
 have hb:∀k,k<W.heap.size→k≠G→(W.setCell ⟨G,1,none⟩ (.bool b)).heap[k]?=W.heap[k]?:=fun k _ hk=>Below.heap_setCell _ _ _ _ hk;have h1:=h.g11;have h2:=h.g13;exact ⟨h.bel.setCell (p:=⟨G,1,none⟩) (by simp only;omega) _,(hb _ h.r5.lt (by omega)).trans h.r5,(hb _ h.r9.lt (by omega)).trans h.r9,by simpa using h.r11.set 1 (.bool b),(hb _ h.r13.lt (by omega)).trans h.r13,Own2_other h.own h.r11 (by decide) (by decide) hb,dbown_other h.db h.r11 (by decide) (by decide) (by decide) (by decide) (by simp [World.setCell]) hb,h1,h2⟩
theorem AskW.out (h:AskW w G H v q xs r m mo q0 Q d dd x L W) {rv:Value} {R:List Rp} (hr:zbe W w.heap.size rv R):AskEnd w (L.map KV.key,⟨r,mo,Q,dd,x⟩,R) (.returned (.tuple #[v,.agg (sC r mo q dd x),rv])) (res5 W (.string r) (.bool mo) q (.bool dd) (.bool x) (w.heap.size+1)):=by
 have hb:∀k,k<W.heap.size→k≠w.heap.size+1→(res5 W (.string r) (.bool mo) q (.bool dd) (.bool x) (w.heap.size+1)).heap[k]?=W.heap[k]?:=fun k _ hk=>five_block W _ _ _ _ _ _ k hk;exact ⟨v,q,xs,rv,L,rfl,rfl,dbown_other h.db h.r9 (by decide) (by decide) (by decide) (by decide) (by simp [World.setCell]) hb,Own2_other h.own h.r9 (by decide) (by decide) hb,zbe_other hr h.r9 (by decide) (by decide) hb,zcd h.bel _ _ _ _ _ _ (by omega)⟩
theorem AskW.fresh (h:AskW w G H v q xs r m mo q0 Q d dd x L W) {v':Value} {L':List KV} (hd:DbOwn W w.heap.size v' L') {rv:Value} {R:List Rp} (hr:zbe W w.heap.size rv R):AskEnd w (L'.map KV.key,⟨r,false,[],false,false⟩,R) (.returned (.tuple #[v',.agg (sC r false (.slice none 0 0) false false),rv])) (res5 W (.string r) (.bool false) (.slice none 0 0) (.bool false) (.bool false) (w.heap.size+1)):=by
 have hb:∀k,k<W.heap.size→k≠w.heap.size+1→(res5 W (.string r) (.bool false) (.slice none 0 0) (.bool false) (.bool false) (w.heap.size+1)).heap[k]?=W.heap[k]?:=fun k _ hk=>five_block W _ _ _ _ _ _ k hk;exact ⟨v',.slice none 0 0,[],rv,L',rfl,rfl,dbown_other hd h.r9 (by decide) (by decide) (by decide) (by decide) (by simp [World.setCell]) hb,Fd.Own2.nil _ _,zbe_other hr h.r9 (by decide) (by decide) hb,zcd h.bel _ _ _ _ _ _ (by omega)⟩
theorem AskW.other (h:AskW w G H v q xs r m mo q0 Q d dd x L W) {v':Value} {L':List KV} (hd:DbOwn W w.heap.size v' L'):AskW w G H v' q xs r m mo q0 Q d dd x L' W:=
 ⟨h.bel,h.r5,h.r9,h.r11,h.r13,h.own,hd,h.g11,h.g13⟩
theorem AskW.abort (h:AskW w G H v q xs r m mo q0 Q d dd x L W) (s:ByteArray):AskEnd w (L.map KV.key,⟨r,false,[],false,false⟩,[⟨2,0,s,[]⟩]) (.returned (.tuple #[v,.agg (sC r false (.slice none 0 0) false false),.slice (some ⟨W.heap.size,0,none⟩) 1 1])) ((res5 W (.string r) (.bool false) (.slice none 0 0) (.bool false) (.bool false) (w.heap.size+1)).alloc (.cells #[.int .i64 2,.int .i64 0,.string s,.slice none 0 0] 53)).drew:=by
 have hb:∀k,k<W.heap.size→k≠w.heap.size+1→(res5 W (.string r) (.bool false) (.slice none 0 0) (.bool false) (.bool false) (w.heap.size+1)).heap[k]?=W.heap[k]?:=fun k _ hk=>five_block W _ _ _ _ _ _ k hk;have hs:(res5 W (.string r) (.bool false) (.slice none 0 0) (.bool false) (.bool false) (w.heap.size+1)).heap.size=W.heap.size:=by simp [World.setCell]
 obtain ⟨rv,e1,e2,e3⟩:=one_end (res5 W (.string r) (.bool false) (.slice none 0 0) (.bool false) (.bool false) (w.heap.size+1)) 2 0 s;rw [hs] at e1;injection e1 with e1;subst e1;have hbw:Below w.heap.size w (res5 W (.string r) (.bool false) (.slice none 0 0) (.bool false) (.bool false) (w.heap.size+1)):=zcd h.bel _ _ _ _ _ _ (by omega);exact AskEnd.drew ⟨v,.slice none 0 0,[],_,L,rfl,rfl,(dbown_other h.db h.r9 (by decide) (by decide) (by decide) (by decide) (Nat.le_of_eq hs.symm) hb).below e3,Fd.Own2.nil _ _,e2.le hbw.size,hbw.trans (e3.mono hbw.size)⟩
end
theorem AskW.queue {w:World} {G H:Nat} {v q:Value} {xs:List Value} {r:ByteArray} {m mo:Bool} {q0:Value} {Q:List (List ByteArray)} {d dd x:Bool} {L:List KV} {W:World} (h:AskW w G H v q xs r m mo q0 Q d dd x L W) {p:Option Addr} {b off n k:Nat} {T:List ByteArray} (hs:zdg W p b off n T) (hk:p=none→k=0) (hm:n≤1048576) (hr:Q.length≤1000):
  ∃a1 c1 wA a2 c2 wB,(Builtin.append_ #[28,28] 28 #[.slice (some ⟨W.heap.size,0,none⟩) 0 0,.slice p n k]).run Tryz.prog (W.alloc (.cells #[] 9)).drew= .ok (.slice a1 n c1) wA∧Below W.heap.size W wA∧
   (Builtin.append_ #[25,25] 25 #[q,.slice (some ⟨wA.heap.size,0,none⟩) 1 1]).run Tryz.prog (wA.alloc (.cells #[.slice a1 n c1] 28))= .ok (.slice a2 (Q.length+1) c2) wB∧wB.cell? ⟨G,2,none⟩=some q∧wB.frozen? ⟨G,2,none⟩=false∧AskW w G H v (.slice a2 (Q.length+1) c2) (xs++ [.slice a1 n c1]) r m mo q0 (Q++ [T]) d dd x L (wB.setCell ⟨G,2,none⟩ (.slice a2 (Q.length+1) c2)):=by
 have hrows:(Q.map strV).length=Q.length:=List.length_map ..;obtain ⟨a1,c1,wA,a2,c2,wB,run1,bA,run2,oB,gB⟩:=copy_one h.own hs hk hm (by omega) h.bel.size;rw [hrows] at run2 oB;have hq:Q.map strV++ [strV T]=(Q++ [T]).map strV:=by rw [List.map_append];rfl
 rw [hq] at oB;have hg:∀{g T' C},T'≠28→RowAt W g T' C→RowAt wB g T' C:=fun hT hr=> (gB.block _ hr.lt (Hp.own_ne h.own.outer hr hT)).trans hr;have q11:=hg (by decide) h.r11;have hb:∀k,k<wB.heap.size→k≠G→(wB.setCell ⟨G,2,none⟩ (.slice a2 (Q.length+1) c2)).heap[k]?=wB.heap[k]?:=fun k _ hk=>Below.heap_setCell _ _ _ _ hk;have bw:Below w.heap.size w wB:=h.bel.trans ⟨gB.os,gB.tape,gB.output,gB.size,fun k hk=>gB.block k (Nat.lt_of_lt_of_le hk h.bel.size) (fun e=>by have:=(own_lt h.own.outer e.symm).1;omega)⟩;have hdb:DbOwn wB w.heap.size v L:=dbown_grown h.db h.own.outer gB (by decide) (by decide) (by decide) (by decide);have h1:=h.g11;have h2:=h.g13;have q5:=hg (by decide) h.r5;have q9:=hg (by decide) h.r9;have q13:=hg (by decide) h.r13;refine ⟨a1,c1,wA,a2,c2,wB,run1,bA,run2,q11.cell 2,q11.frozen 2,⟨bw.setCell (p:=⟨G,2,none⟩) (by simp only;omega) _,(hb _ q5.lt (by omega)).trans q5,(hb _ q9.lt (by omega)).trans q9,by simpa using q11.set 2 (.slice a2 (Q.length+1) c2),(hb _ q13.lt (by omega)).trans q13,Own2_other oB q11 (by decide) (by decide) hb,dbown_other hdb q11 (by decide) (by decide) (by decide) (by decide) (by simp [World.setCell]) hb,h1,h2⟩⟩
end Go.Proofs.YtibhabajknikcaaGreatDoor.Er
