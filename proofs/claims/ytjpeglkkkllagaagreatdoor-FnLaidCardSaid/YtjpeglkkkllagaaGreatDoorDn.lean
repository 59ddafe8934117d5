import Derived.Test.YtjpeglkkkllagaaGreatDoorLM
import Derived.Test.YtjpeglkkkllagaaGreatDoorC13
import Derived.Deep.RegionHeld3
import Derived.Deep.RegionLaw
set_option maxHeartbeats 16000000
set_option maxRecDepth 100000
namespace Go.Proofs.YtjpeglkkkllagaaGreatDoor
open Go.RowKit Go.Sort
open Hp (Cl cl0 Fit CellsIn flatC refV PutEnd putD putL putRc putRg putOk FitH zbb own_ne put_fit new_fit newM)
structure LSt (w:World) (R H:Nat) (s:ByteArray) (C:List Cl) (v:Value) (E:List En) (vE:Value) (W:World):Prop where
 bel:Below w.heap.size w W
 lr:w.heap.size≤R
 lh:R<H
 res:RowAt W R 29 #[.string ⟨#[]⟩,.slice none 0 0]
 row:RowAt W H 29 #[.string s,v]
 own:W.ownsRow w.heap.size 84 4 v C.length (flatC C)
 ent:OwnE W w.heap.size vE E
structure LLow (R H:Nat) (v vE:Value) (Z:Nat):Prop where
 r:R<Z
 h:H<Z
 v:∀y,v.ownBlock=some y→y<Z
 e:∀y,vE.ownBlock=some y→y<Z
section
variable {w : World} {R H Z : Nat} {s : ByteArray} {C : List Cl} {v : Value} {E : List En} {vE : Value} {W W' : World}
theorem LSt.low (h:LSt w R H s C v E vE W):LLow R H v vE W.heap.size:=⟨h.res.lt,h.row.lt,fun y hy=> (h.own.lt y hy).2,fun y hy=> (h.ent.lt y hy).2⟩
theorem LSt.below (h:LSt w R H s C v E vE W) (hb:Below W.heap.size W W'):LSt w R H s C v E vE W':=
 ⟨h.bel.trans (hb.mono h.bel.size),h.lr,h.lh,h.res.below hb h.res.lt,h.row.below hb h.row.lt,zaf h.own hb,zaf h.ent hb⟩
theorem LSt.alloc (h:LSt w R H s C v E vE W) (o:Obj):LSt w R H s C v E vE (W.alloc o):=h.below ((Below.refl _ W).alloc (Nat.le_refl _) o)
theorem LSt.drew (h:LSt w R H s C v E vE W):LSt w R H s C v E vE W.drew:=h.below (Below.refl _ W).drew
theorem LSt.set (h:LSt w R H s C v E vE W) (hl:LLow R H v vE Z) {q j:Nat} (hq:Z≤q) (u:Value):LSt w R H s C v E vE (W.setCell ⟨q,j,none⟩ u):=by
 have h1:=hl.r;have h2:=hl.h;have h3:=h.lr;have e1:∀k,k<Z→(W.setCell ⟨q,j,none⟩ u).heap[k]?=W.heap[k]?:=fun k hk=>Below.heap_setCell _ _ _ _ (by simp only;omega);exact ⟨h.bel.setCell (p:=⟨q,j,none⟩) (by simp only;omega) u,h.lr,h.lh,(e1 R h1).trans h.res,(e1 H h2).trans h.row,ownsRow_setCell_other h.own (fun e=>by have:=hl.v _ e;simp only at this;omega) _,ownsRow_setCell_other h.ent (fun e=>by have:=hl.e _ e;simp only at this;omega) _⟩
theorem LSt.swap (h:LSt w R H s C v E vE W) {s':ByteArray} {C':List Cl} {v':Value} (ho:W.ownsRow w.heap.size 84 4 v' C'.length (flatC C')):LSt w R H s' C' v' E vE ((W.setCell ⟨H,0,none⟩ (.string s')).setCell ⟨H,1,none⟩ v'):=by
 have hr:=h.lr;have ht:=h.lh;have n1:=own_ne ho h.row (by decide);have n2:=own_ne h.ent h.row (by decide);exact ⟨(h.bel.setCell (p:=⟨H,0,none⟩) (by simp only;omega) _).setCell (p:=⟨H,1,none⟩) (by simp only;omega) _,h.lr,h.lh,h.res.skip (by omega),h.row.both,ownsRow_setCell_other (ownsRow_setCell_other ho (fun e=>n1 e.symm) _) (fun e=>n1 e.symm) _,ownsRow_setCell_other (ownsRow_setCell_other h.ent (fun e=>n2 e.symm) _) (fun e=>n2 e.symm) _⟩
theorem LSt.ents (h:LSt w R H s C v E vE W) {E':List En} {vE':Value} (ho:OwnE W' w.heap.size vE' E') (hg:W.grownBy W' vE.ownBlock):LSt w R H s C v E' vE' W':=by
 have n1:=own_ne h.ent h.row (by decide);have n3:=own_ne h.ent h.res (by decide);have hlow:∀y,vE.ownBlock=some y→w.heap.size≤y:=fun y hy=> (h.ent.lt y hy).1;have bw:Below w.heap.size W W':=⟨hg.os,hg.tape,hg.output,hg.size,fun k hk=>hg.block k (by have:=h.bel.size;omega) (fun e=>by have:=hlow k e.symm;omega)⟩;exact ⟨h.bel.trans bw,h.lr,h.lh,(hg.block R h.res.lt n3).trans h.res,(hg.block H h.row.lt n1).trans h.row,kept_other h.ent h.own hg (by decide),ho⟩
end
theorem laid_step {T:LdT} {L:List KV} {s:ByteArray} {C:List Cl} {E:List En} {k:Nat} (hk:k<L.length) (h:T=laidF s C E ((L.map KV.key).drop k)):(putOk s C (layX (L.getD k kv0).key)=false→T=none)∧(putOk s C (layX (L.getD k kv0).key)=true→T=laidF (putD s C (layX (L.getD k kv0).key)) (putL s C (layX (L.getD k kv0).key)) (E++ [⟨(L.getD k kv0).key.name,putRc s C (layX (L.getD k kv0).key),putRg s C (layX (L.getD k kv0).key),(L.getD k kv0).key.due⟩]) ((L.map KV.key).drop (k+1))):=by
 have e1:(L.map KV.key).drop k=(L.getD k kv0).key::(L.map KV.key).drop (k+1):=by
  rw [List.drop_eq_getElem_cons (by simpa using hk),List.getElem_map,List.getD_eq_getElem?_getD,List.getElem?_eq_getElem hk];rfl
 rw [e1,laidF] at h;refine ⟨fun hp=>?_,fun hp=>?_⟩
 ·rw [h,if_neg (by rw [hp];simp)]
 ·rw [h,if_pos hp]
theorem laid_end (L:List KV) (s:ByteArray) (C:List Cl) (E:List En):laidF s C E ((L.map KV.key).drop L.length)=some (s,C,E):=by
 rw [List.drop_eq_nil_of_le (by simp)];rfl
def LaidEnd (w:World) (T:LdT) (e:Ending) (w':World):Prop:=∃v vE,e= .returned (.tuple #[.agg #[.string (ld T),v],vE,.bool T.isSome])∧w'.ownsRow w.heap.size 84 4 v (lc T).length (flatC (lc T))∧OwnE w' w.heap.size vE (le T)∧Below w.heap.size w w'
theorem laid_no {w w':World} {T:LdT} (hT:T=none) (hb:Below w.heap.size w w'):LaidEnd w T (.returned (.tuple #[.agg #[.string ⟨#[]⟩,.slice none 0 0],.slice none 0 0,.bool false])) w':=by
 subst hT;exact ⟨_,_,rfl,World.ownsRow_nil _ _ _ _,World.ownsRow_nil _ _ _ _,hb⟩
theorem laid_any (B:Nat) (z:Int) (v:Value) (L:List KV) (w:World) (h:DbOwn w B v L) (hf:FitsK (L.map KV.key)) (hl:L.length≤1000):
  Calls Tryz.prog 7 #[.int .i64 z,v] w (LaidEnd w (laidM z (L.map KV.key))):=by
 obtain ⟨T,hT⟩:∃T,laidM z (L.map KV.key)=T:=⟨_,rfl⟩;have HT:Hid (T=laidM z (L.map KV.key)):=hT.symm;rw [hT];clear hT;obtain ⟨a,A,c,ev,hdi,hda⟩:=h.din hf.fits;subst ev;have HD:Hid (∀W,Below w.heap.size w W→Calls Tryz.prog 23 #[.slice a L.length c] W fun e w'=>e= .returned (.bool (dbOkB (L.map KV.key)))∧Below W.heap.size W w'):=fun W hb=>specDbOkF_any a A L.length c L W (hda.below hb) hf.fits (by omega);have HKS:Hid (KsIn w a A L.length L):=hdi.ks;have HVB:Hid (∀W k,Below w.heap.size w W→k<L.length→Calls Tryz.prog 25 #[vlV (L.getD k kv0).key.val.kind (L.getD k kv0).key.val.text (L.getD k kv0).vi (L.getD k kv0).vp (L.getD k kv0).vr] W fun e w'=>e= .returned (.string (layX (L.getD k kv0).key))∧Below W.heap.size W w'):=fun W k hb hk=>by
  obtain ⟨B',hv⟩:=(hda.below hb).val k hk;exact (specBytes_any _ _ _ _ B' W hv (hf.fits k hk).fit).mono fun e w' he=>he
 have HNO:Hid (T=none→∀w',Below w.heap.size w w'→LaidEnd w T (.returned (.tuple #[.agg #[.string ⟨#[]⟩,.slice none 0 0],.slice none 0 0,.bool false])) w'):=fun h w'=>laid_no h;have rR:=RowAt.new w 29 #[.string ⟨#[]⟩,.slice none 0 0];obtain ⟨W0,hW0⟩:∃W0,w.alloc (.cells #[.string ⟨#[]⟩,.slice none 0 0] 29)=W0:=⟨_,rfl⟩;have HW0:Hid (w.alloc (.cells #[.string ⟨#[]⟩,.slice none 0 0] 29)=W0):=hW0;have b0:Below w.heap.size w W0:=by rw [←hW0];exact (Below.refl _ w).alloc (Nat.le_refl _) _
 rw [hW0] at rR;have HT1:Hid ((newM z).2=false→T=none):=fun h=>HT.out.trans (by unfold laidM;rw [if_neg (by simp [h])]);have HT2:Hid (dbOkB (L.map KV.key)=false→T=none):=fun h=>HT.out.trans (by unfold laidM;rw [if_neg (by simp [h])]);have HT3:Hid ((newM z).2=true→dbOkB (L.map KV.key)=true→T=laidF (newM z).1 [] [] ((L.map KV.key).drop 0)):=fun h h2=>HT.out.trans (by unfold laidM;rw [if_pos ⟨h,h2⟩];rfl);have HSTEP:Hid (∀s C E k,k<L.length→T=laidF s C E ((L.map KV.key).drop k)→(putOk s C (layX (L.getD k kv0).key)=false→T=none)∧(putOk s C (layX (L.getD k kv0).key)=true→T=laidF (putD s C (layX (L.getD k kv0).key)) (putL s C (layX (L.getD k kv0).key)) (E++ [⟨(L.getD k kv0).key.name,putRc s C (layX (L.getD k kv0).key),putRg s C (layX (L.getD k kv0).key),(L.getD k kv0).key.due⟩]) ((L.map KV.key).drop (k+1)))):=fun s C E k hk h=>laid_step hk h;have HEND:Hid (∀s C E,T=laidF s C E ((L.map KV.key).drop L.length)→T=some (s,C,E)):=fun s C E h=>h.trans (laid_end L s C E);clear hW0 h hf hdi hda HT;generalize dbOkB (L.map KV.key)=ok at*;generalize hKK:(L.map KV.key)=KK at HT3 HSTEP HEND;clear hKK;obtain ⟨n,hn⟩:∃n,L.length=n:=⟨_,rfl⟩;rw [hn] at HD HKS HVB HSTEP HEND hl;rw [hn];clear hn;go_enter Tryz.func7,Tryz.ntmps7;go_upto_region 1 with fail;rw [HW0.out];clear HW0;go_wp2_with fail;refine (Hp.specNew z W0).mono ?_;rintro e w1 ⟨rfl,b1⟩;have FN:Hid (FitH (newM z).1 []):=new_fit z;have b1w:Below w.heap.size w w1:=b0.trans (b1.mono b0.size);have rR1:=rR.below b1 rR.lt;generalize newM z=NZ at*;obtain ⟨s0,ok0⟩:=NZ;dsimp only at FN HT1 HT3;obtain ⟨W2,hW2⟩:∃W2,w1.alloc (.cells #[.string s0,.slice none 0 0] 29)=W2:=⟨_,rfl⟩;have HW2:Hid (w1.alloc (.cells #[.string s0,.slice none 0 0] 29)=W2):=hW2;have b2:Below w1.heap.size w1 W2:=by rw [←hW2];exact (Below.refl _ w1).alloc (Nat.le_refl _) _
 have b2w:Below w.heap.size w W2:=b1w.trans (b2.mono b1w.size);have rH:RowAt W2 w1.heap.size 29 #[.string s0,.slice none 0 0]:=by rw [←hW2];exact RowAt.new w1 29 _
 have rR2:=rR1.below b2 rR1.lt;have hRH:=rR1.lt;clear hW2 rR rR1 b1 b0 b1w b2;go_upto_region 2 with fail;rw [HW2.out];clear HW2;generalize w1.heap.size=H at*;cases ok0 with
 |false=>
  obtain ⟨r0,r1⟩:=zbb rR2;have f0:=rR2.frozen 0;have f1:=rR2.frozen 1;have HF:Hid (LaidEnd w T (.returned (.tuple #[.agg #[.string ⟨#[]⟩,.slice none 0 0],.slice none 0 0,.bool false])) ((W2.setCell ⟨w.heap.size,0,none⟩ (.string ⟨#[]⟩)).setCell ⟨w.heap.size,1,none⟩ (.slice none 0 0))):=HNO.out (HT1.out rfl) _ ((b2w.setCell (p:=⟨w.heap.size,0,none⟩) (Nat.le_refl _) _).setCell (p:=⟨w.heap.size,1,none⟩) (Nat.le_refl _) _);have hz:=(zbb (RowAt.both (x:= .string ⟨#[]⟩) (y:= .slice none 0 0) rR2));obtain ⟨z0,z1⟩:=hz;clear HNO HD HKS HVB FN HT1 HT2 HT3 HSTEP HEND;go_wp2;exact bodyPost_ret (v:= .tuple #[.agg #[.string ⟨#[]⟩,.slice none 0 0],.slice none 0 0,.bool false]) (by simp [results,Tryz.results7,go_sem,z0,z1]) rfl HF.out
 |true=>
  go_wp2_with fail;refine (HD.out W2 b2w).mono ?_;rintro e w3 ⟨rfl,b3⟩;have b3w:Below w.heap.size w w3:=b2w.trans (b3.mono b2w.size);have rR3:=rR2.below b3 rR2.lt;have rH3:=rH.below b3 rH.lt;clear b3 b2w rR2 rH HD;cases ok with
  |false=>
   obtain ⟨r0,r1⟩:=zbb rR3;have f0:=rR3.frozen 0;have f1:=rR3.frozen 1;have HF:Hid (LaidEnd w T (.returned (.tuple #[.agg #[.string ⟨#[]⟩,.slice none 0 0],.slice none 0 0,.bool false])) ((w3.setCell ⟨w.heap.size,0,none⟩ (.string ⟨#[]⟩)).setCell ⟨w.heap.size,1,none⟩ (.slice none 0 0))):=HNO.out (HT2.out rfl) _ ((b3w.setCell (p:=⟨w.heap.size,0,none⟩) (Nat.le_refl _) _).setCell (p:=⟨w.heap.size,1,none⟩) (Nat.le_refl _) _);have hz:=(zbb (RowAt.both (x:= .string ⟨#[]⟩) (y:= .slice none 0 0) rR3));obtain ⟨z0,z1⟩:=hz;clear HNO HKS HVB FN HT1 HT2 HT3 HSTEP HEND;go_wp2;exact bodyPost_ret (v:= .tuple #[.agg #[.string ⟨#[]⟩,.slice none 0 0],.slice none 0 0,.bool false]) (by simp [results,Tryz.results7,go_sem,z0,z1]) rfl HF.out
  |true=>
   have HT4:Hid (T=laidF s0 [] [] (KK.drop 0)):=HT3.out (by trivial) (by trivial);clear HT1 HT2 HT3;have ST0:Hid (LSt w w.heap.size H s0 [] (.slice none 0 0) [] (.slice (some ⟨w3.heap.size,0,none⟩) 0 0) (w3.alloc (.cells #[] 67))):=by
    have bA:Below w3.heap.size w3 (w3.alloc (.cells #[] 67)):=(Below.refl _ w3).alloc (Nat.le_refl _) _;exact ⟨b3w.trans (bA.mono b3w.size),Nat.le_refl _,hRH,rR3.below bA rR3.lt,rH3.below bA rH3.lt,World.ownsRow_nil _ _ _ _,empty_own (RowAt.new w3 67 #[]) b3w.size⟩
   clear rR3 rH3 b3w;go_wp2_with fail;go_loopw [9,10] (fun vE i wr=>∃(k:Nat) (s:ByteArray) (C:List Cl) (v:Value) (E:List En),k≤n∧i= .int .i64 k∧Hid (FitH s C)∧Hid (E.length=k)∧Hid (T=laidF s C E (KK.drop k))∧Hid (LSt w w.heap.size H s C v E vE wr)) (fun _ i _=>n-(intOf i).toNat)
   case atStart=>exact ⟨0,s0,[],_,[],by omega,rfl,FN,rfl,HT4,ST0⟩
   case round=>
    obtain ⟨k,s,C,v,E,hk,rfl,HFT,HEE,HTK,HST⟩:=hrel;clear ST0 FN HT4;obtain ⟨a1,A1,cap1,hv1,_⟩:=form_any HST.out.own;subst hv1;obtain ⟨nC,hnC⟩:∃nC,C.length=nC:=⟨_,rfl⟩;have HNC:Hid (C.length=nC):=hnC;rw [hnC] at HST;clear hnC;have st9:LSt w w.heap.size H s C (.slice a1 nC cap1) E u9 wr:=HST.out;clear HST;by_cases hlt:k<n
    ·have hx:=(HKS.out.below st9.bel).cell k hlt;have hx0:=HKS.out.cell k hlt;have hlowA:=HKS.out.low (by omega);obtain rfl:=HKS.out.addr (by omega);have HSP:=HSTEP.out s C E k hlt HTK.out;have hX0:=vb_size (L.getD k kv0).key.val;have VB0:=fun W (st:LSt w w.heap.size H s C (.slice a1 nC cap1) E u9 W)=>HVB.out W k st.bel hlt;generalize L.getD k kv0=x at*;obtain ⟨⟨nm,⟨kd,tx,xi,xp,xr⟩,due⟩,vi,vp,vr⟩:=x;obtain ⟨c0,c1,c2,c3,c4,c5,c6⟩:=hx0;dsimp only at c0 c1 c2 c3 c4 c5 c6 VB0 HSP hX0;clear hx HSTEP HTK;have hX1:(layX ⟨nm,⟨kd,tx,xi,xp,xr⟩,due⟩).size≤21000:=hX0;clear hX0;generalize layX ⟨nm,⟨kd,tx,xi,xp,xr⟩,due⟩=X at*;have HSP1:Hid (putOk s C X=false→T=none):=HSP.1;have HSP2:Hid (putOk s C X=true→T=laidF (putD s C X) (putL s C X) (E++ [⟨nm,putRc s C X,putRg s C X,due⟩]) (KK.drop (k+1))):=HSP.2;have hX:X.size≤21000:=hX1;clear HSP hX1;have VB:Hid (∀W,LSt w w.heap.size H s C (.slice a1 nC cap1) E u9 W→Calls Tryz.prog 25 #[.agg #[.int .i64 kd,.string tx,vi,vp,vr]] W fun e w'=>e= .returned (.string X)∧Below W.heap.size W w'):=VB0;have PT:Hid (∀W x,LSt w w.heap.size H s C (.slice a1 nC cap1) E u9 W→x.size≤21000→Calls Tryz.prog 24 #[.agg #[.string s,.slice a1 nC cap1],.string x] W (PutEnd W s C x)):=fun W x st hx=>by
      have ho:=st.own;obtain ⟨a',A',cap',e',hc⟩:=Hp.owns_in ho;rw [HNC.out] at e' hc;cases e';exact Hp.specPut_any s x a1 A' 0 nC cap1 C W hc (by have:=HFT.out.size;omega) (by have:=HFT.out.len;rw [HNC.out] at this;omega) (fun i hi=>HFT.out.fit i (by rw [HNC.out];exact hi)) (by omega)
     unfold PutEnd at PT;clear VB0 HVB;have low9:=st9.low;have hk0:(0:Int)≤(k:Int):=by omega
     have hkn:(k:Int)<(n:Int):=by omega
     have kp:∀{W:World},LSt w w.heap.size H s C (.slice a1 nC cap1) E u9 W→(W.cell? ⟨H,0,none⟩=some (.string s)∧W.cell? ⟨H,1,none⟩=some (.slice a1 nC cap1)∧W.cell? ⟨A,k*7+1,none⟩=some (.int .i64 kd)∧W.cell? ⟨A,k*7+2,none⟩=some (.string tx)∧W.cell? ⟨A,k*7+3,none⟩=some vi∧W.cell? ⟨A,k*7+4,none⟩=some vp∧W.cell? ⟨A,k*7+5,none⟩=some vr):=fun st=>⟨(zbb st.row).1,(zbb st.row).2,(st.bel.cell (p:=⟨A,k*7+1,none⟩) hlowA).trans c1,(st.bel.cell (p:=⟨A,k*7+2,none⟩) hlowA).trans c2,(st.bel.cell (p:=⟨A,k*7+3,none⟩) hlowA).trans c3,(st.bel.cell (p:=⟨A,k*7+4,none⟩) hlowA).trans c4,(st.bel.cell (p:=⟨A,k*7+5,none⟩) hlowA).trans c5⟩;have HC0:Hid (w.cell? ⟨A,k*7,none⟩=some (.string nm)):=c0;have HC6:Hid (w.cell? ⟨A,k*7+6,none⟩=some (.int .i64 due)):=c6;clear c0 c1 c2 c3 c4 c5 c6;go_upto_region 8 with fail;go_cut [11,12,13] (fun v11 v12 v13 wx=>∃q r D M a2 n2 cap2 c g ok,v11= .pointer (some ⟨q,0,none⟩)∧v12= .pointer (some ⟨r,0,none⟩)∧v13= .bool ok∧RowAt wx q 29 #[.string D,.slice a2 n2 cap2]∧RowAt wx r 55 #[.int .i64 c,.int .i64 g]∧wx.ownsRow w.heap.size 84 4 (.slice a2 n2 cap2) (List.length M) (flatC M)∧FitH D M∧Hid (D=putD s C X∧M=putL s C X∧c=putRc s C X∧g=putRg s C X∧ok=putOk s C X)∧LSt w w.heap.size H s C (.slice a1 nC cap1) E u9 wx)
     case first=>
      go_region_held3 (fun w'=>w'.cell? ⟨H,0,none⟩=some (.string s)∧w'.cell? ⟨H,1,none⟩=some (.slice a1 nC cap1)∧w'.cell? ⟨A,k*7+1,none⟩=some (.int .i64 kd)∧w'.cell? ⟨A,k*7+2,none⟩=some (.string tx)∧w'.cell? ⟨A,k*7+3,none⟩=some vi∧w'.cell? ⟨A,k*7+4,none⟩=some vp∧w'.cell? ⟨A,k*7+5,none⟩=some vr)
       (first
        |with_reducible exact kp st9
        |with_reducible exact kp st9.drew
        |with_reducible exact kp (st9.alloc _)
        |with_reducible exact kp (st9.alloc _).drew
        |with_reducible exact kp ((st9.alloc _).alloc _)
        |with_reducible exact kp ((st9.alloc _).alloc _).drew
        |with_reducible exact kp st10
        |with_reducible exact kp (st10.alloc _)
        |with_reducible exact kp ((st10.alloc _).alloc _)
        |with_reducible exact kp st11
        |with_reducible exact kp (st11.alloc _)
        |with_reducible exact kp ((st11.alloc _).alloc _)
        |with_reducible exact kp ((st11.set low9 hq26 _).set low9 hq26 _)
        |with_reducible exact kp (((st11.set low9 hq26 _).set low9 hq26 _).alloc _)
        |with_reducible exact kp (((st11.set low9 hq30 _).set low9 hq30 _).alloc _)
        |with_reducible exact kp ((((st11.set low9 hq26 _).set low9 hq26 _).set low9 hq30 _).set low9 hq30 _))
       (first
        |(go_at_call 25;refine (VB.out _ ?_).mono ?_;first
           |exact st9.drew
           |exact (st9.alloc _).drew
           |exact ((st9.alloc _).alloc _).drew
          rintro e w10 ⟨rfl,b10⟩;have st10:LSt w w.heap.size H s C (.slice a1 nC cap1) E u9 w10:=by
           first
            |exact st9.drew.below b10
            |exact (st9.alloc _).drew.below b10
            |exact ((st9.alloc _).alloc _).drew.below b10
          have hs10:wr.heap.size≤w10.heap.size:=by
           have:=b10.size;simp at this;omega
          first
           |(have z26:RowAt w10 wr.heap.size 29 #[.string ⟨#[]⟩,.slice none 0 0]:=(((RowAt.new wr 29 _).more (.cells #[.int .i64 0,.int .i64 0] 55)).drew).below b10 (((RowAt.new wr 29 _).more (.cells #[.int .i64 0,.int .i64 0] 55)).drew).lt;have z30:RowAt w10 (wr.heap.size+1) 55 #[.int .i64 0,.int .i64 0]:=(RowAt.first (w:=wr.alloc (.cells #[.string ⟨#[]⟩,.slice none 0 0] 29)) (by simp)).drew.below b10 (by simp))
           |(have z30:RowAt w10 wr.heap.size 55 #[.int .i64 0,.int .i64 0]:=(((RowAt.new wr 55 _).more (.cells #[.string ⟨#[]⟩,.slice none 0 0] 29)).drew).below b10 (((RowAt.new wr 55 _).more (.cells #[.string ⟨#[]⟩,.slice none 0 0] 29)).drew).lt;have z26:RowAt w10 (wr.heap.size+1) 29 #[.string ⟨#[]⟩,.slice none 0 0]:=(RowAt.first (w:=wr.alloc (.cells #[.int .i64 0,.int .i64 0] 55)) (by simp)).drew.below b10 (by simp))
           |(have z26:RowAt w10 wr.heap.size 29 #[.string ⟨#[]⟩,.slice none 0 0]:=(RowAt.new wr 29 _).drew.below b10 (RowAt.new wr 29 _).drew.lt)
           |(have z30:RowAt w10 wr.heap.size 55 #[.int .i64 0,.int .i64 0]:=(RowAt.new wr 55 _).drew.below b10 (RowAt.new wr 55 _).drew.lt)
           |skip)
        |(go_at_call 24;refine (PT.out _ _ ?_ hX).mono ?_;first
           |exact st10
           |exact st10.alloc _
           |exact (st10.alloc _).alloc _
          rintro e w11 ⟨v11,rfl,o11,b11⟩;obtain ⟨a11,A11,cap11,hv11,_⟩:=form_any o11;obtain ⟨n11,hn11⟩:∃n11,(putL s C X).length=n11:=⟨_,rfl⟩;rw [hn11] at hv11;subst hv11;clear hn11;have st11:LSt w w.heap.size H s C (.slice a1 nC cap1) E u9 w11:=by
           first
            |exact st10.below b11
            |exact (st10.alloc _).below b11
            |exact ((st10.alloc _).alloc _).below b11
          have O11:=Go.Joins.ownsRow_le o11 (base':=w.heap.size) (by have:=st10.bel.size;simp;omega);first
           |(have x26:RowAt w11 wr.heap.size 29 #[.string ⟨#[]⟩,.slice none 0 0]:=z26.below b11 z26.lt;have hq26:wr.heap.size≤wr.heap.size:=Nat.le_refl _)
           |(have x26:RowAt w11 (wr.heap.size+1) 29 #[.string ⟨#[]⟩,.slice none 0 0]:=z26.below b11 z26.lt;have hq26:wr.heap.size≤wr.heap.size+1:=Nat.le_succ _)
           |(have x26:RowAt w11 wr.heap.size 29 #[.string ⟨#[]⟩,.slice none 0 0]:=(z26.more _).below b11 (z26.more _).lt;have hq26:wr.heap.size≤wr.heap.size:=Nat.le_refl _)
           |(have x26:RowAt w11 w10.heap.size 29 #[.string ⟨#[]⟩,.slice none 0 0]:=(RowAt.new w10 29 _).below b11 (RowAt.new w10 29 _).lt;have hq26:wr.heap.size≤w10.heap.size:=hs10)
           |(have x26:RowAt w11 w10.heap.size 29 #[.string ⟨#[]⟩,.slice none 0 0]:=((RowAt.new w10 29 _).more _).below b11 ((RowAt.new w10 29 _).more _).lt;have hq26:wr.heap.size≤w10.heap.size:=hs10)
           |(have x26:RowAt w11 (w10.heap.size+1) 29 #[.string ⟨#[]⟩,.slice none 0 0]:=(RowAt.first (by simp)).below b11 (by simp);have hq26:wr.heap.size≤w10.heap.size+1:=Nat.le_succ_of_le hs10)
           |skip
          first
           |(have x30:RowAt w11 wr.heap.size 55 #[.int .i64 0,.int .i64 0]:=z30.below b11 z30.lt;have hq30:wr.heap.size≤wr.heap.size:=Nat.le_refl _)
           |(have x30:RowAt w11 (wr.heap.size+1) 55 #[.int .i64 0,.int .i64 0]:=z30.below b11 z30.lt;have hq30:wr.heap.size≤wr.heap.size+1:=Nat.le_succ _)
           |(have x30:RowAt w11 wr.heap.size 55 #[.int .i64 0,.int .i64 0]:=(z30.more _).below b11 (z30.more _).lt;have hq30:wr.heap.size≤wr.heap.size:=Nat.le_refl _)
           |(have x30:RowAt w11 w10.heap.size 55 #[.int .i64 0,.int .i64 0]:=(RowAt.new w10 55 _).below b11 (RowAt.new w10 55 _).lt;have hq30:wr.heap.size≤w10.heap.size:=hs10)
           |(have x30:RowAt w11 w10.heap.size 55 #[.int .i64 0,.int .i64 0]:=((RowAt.new w10 55 _).more _).below b11 ((RowAt.new w10 55 _).more _).lt;have hq30:wr.heap.size≤w10.heap.size:=hs10)
           |(have x30:RowAt w11 (w10.heap.size+1) 55 #[.int .i64 0,.int .i64 0]:=(RowAt.first (by simp)).below b11 (by simp);have hq30:wr.heap.size≤w10.heap.size+1:=Nat.le_succ_of_le hs10)
           |skip
          first
           |(have hqr:=row_ne x26 x30)
           |skip
          first
           |(have hl26:=x26.lt;have y0:=(zbb x26).1;have y1:=(zbb x26).2;have y2:=x26.frozen 0;have y3:=x26.frozen 1)
           |skip
          first
           |(have hl30:=x30.lt;have y4:=(zbb x30).1;have y5:=(zbb x30).2;have y6:=x30.frozen 0;have y7:=x30.frozen 1)
           |skip))
      all_goals go_wp2_with fail
      all_goals go_meet
      all_goals
       refine ⟨_,_,putD s C X,putL s C X,a11,n11,cap11,putRc s C X,putRg s C X,_,rfl,rfl,rfl,?_,?_,?_,put_fit HFT.out X,⟨rfl,rfl,rfl,rfl,rfl⟩,?_⟩
       ·first
         |with_reducible exact (RowAt.first rfl).more _
         |with_reducible exact RowAt.first (by simp)
         |with_reducible exact x26.both.more _
         |with_reducible exact x26.both.skip hqr
       ·first
         |with_reducible exact (RowAt.first rfl).more _
         |with_reducible exact RowAt.first (by simp)
         |with_reducible exact x30.both.more _
         |with_reducible exact (x30.skip (Ne.symm hqr)).both
       ·first
         |with_reducible exact (O11.alloc _).alloc _
         |with_reducible exact (own_past O11 x26).alloc _
         |with_reducible exact (own_past30 O11 x30).alloc _
         |with_reducible exact own_past30 (own_past O11 x26) (x30.skip (Ne.symm hqr))
       ·first
         |with_reducible exact (st11.alloc _).alloc _
         |with_reducible exact ((st11.set low9 hq26 _).set low9 hq26 _).alloc _
         |with_reducible exact ((st11.set low9 hq30 _).set low9 hq30 _).alloc _
         |with_reducible exact (((st11.set low9 hq26 _).set low9 hq26 _).set low9 hq30 _).set low9 hq30 _
     case rest=>
      obtain ⟨q,r,D,M,a2,n2,cap2,cc,gg,ok,rfl,rfl,rfl,hq,hr,ho,hFM,hEQ,st10⟩:=hcut;clear PT VB kp low9 st9;have HFM:Hid (FitH D M):=hFM;clear hFM;have HS1:Hid (ok=false→T=none):=by
       obtain ⟨_,_,_,_,e5⟩:=hEQ.out;rw [e5];exact HSP1.out
      have HS2:Hid (ok=true→T=laidF D M (E++ [⟨nm,cc,gg,due⟩]) (KK.drop (k+1))):=by
       obtain ⟨e1,e2,e3,e4,e5⟩:=hEQ.out;rw [e1,e2,e3,e4,e5];exact HSP2.out
      clear hEQ HSP1 HSP2;cases ok with
      |false=>
       obtain ⟨r0,r1⟩:=zbb st10.res;have f0:=st10.res.frozen 0;have f1:=st10.res.frozen 1;have HF:Hid (LaidEnd w T (.returned (.tuple #[.agg #[.string ⟨#[]⟩,.slice none 0 0],.slice none 0 0,.bool false])) ((wc.setCell ⟨w.heap.size,0,none⟩ (.string ⟨#[]⟩)).setCell ⟨w.heap.size,1,none⟩ (.slice none 0 0))):=HNO.out (HS1.out rfl) _ ((st10.bel.setCell (p:=⟨w.heap.size,0,none⟩) (Nat.le_refl _) _).setCell (p:=⟨w.heap.size,1,none⟩) (Nat.le_refl _) _);obtain ⟨z0,z1⟩:=zbb (RowAt.both (x:= .string ⟨#[]⟩) (y:= .slice none 0 0) st10.res);clear HNO HKS HFM HFT HEE HEND HS1 HS2 hq hr ho st10;go_wp2;exact bodyPost_ret (v:= .tuple #[.agg #[.string ⟨#[]⟩,.slice none 0 0],.slice none 0 0,.bool false]) (by simp [results,Tryz.results7,go_sem,z0,z1]) rfl HF.out
      |true=>
       have HT5:Hid (T=laidF D M (E++ [⟨nm,cc,gg,due⟩]) (KK.drop (k+1))):=HS2.out rfl;clear HS1 HS2;obtain ⟨r0,r1⟩:=zbb st10.row;have f0:=st10.row.frozen 0;have f1:=st10.row.frozen 1;obtain ⟨q0,q1⟩:=zbb hq;have hrH:r≠H:=fun e=>row_ne st10.row hr e.symm;have st11:=st10.swap (s':=D) ho;have hr1:=hr.skip (q:=H) (x:= .string D) (y:= .slice a2 n2 cap2) hrH;obtain ⟨W1,hW1⟩:∃W1,(wc.setCell ⟨H,0,none⟩ (.string D)).setCell ⟨H,1,none⟩ (.slice a2 n2 cap2)=W1:=⟨_,rfl⟩;have HW1:Hid ((wc.setCell ⟨H,0,none⟩ (.string D)).setCell ⟨H,1,none⟩ (.slice a2 n2 cap2)=W1):=hW1;rw [hW1] at st11 hr1;clear hW1 st10 ho hr hrH;have p0:=(st11.bel.cell (p:=⟨A,k*7,none⟩) hlowA).trans HC0.out;have p6:=(st11.bel.cell (p:=⟨A,k*7+6,none⟩) hlowA).trans HC6.out;obtain ⟨g0,g1⟩:=zbb hr1;have stD:=st11.drew;obtain ⟨v',w5,hrun,o5,b5,g5⟩:=app_ent (w:=W1.drew) (B:=w.heap.size) (V:=u9) (E:=E) ⟨nm,cc,gg,due⟩ stD.ent (by rw [HEE.out];omega) stD.bel.size;have HST5:Hid (LSt w w.heap.size H D M (.slice a2 n2 cap2) (E++ [⟨nm,cc,gg,due⟩]) v' w5):=stD.ents o5 g5;have HE5:Hid ((E++ [(⟨nm,cc,gg,due⟩:En)]).length=k+1):=by unfold Hid;rw [List.length_append,HEE.out];rfl
       have HRUN:(Builtin.append_ #[30,30] 30 #[u9,.slice (some ⟨W1.heap.size,0,none⟩) 1 1]).run Tryz.prog (W1.alloc (.cells #[.string nm,.int .i64 cc,.int .i64 gg,.int .i64 due] 67)).drew= .ok v' w5:=hrun;clear hrun o5 b5 g5 stD st11 hr1 HEE HC0 HC6;go_upto_region 12 with fail;rw [HW1.out];clear r0 r1 f0 f1 q0 q1 HW1
       go_region_law (first
        |refine zba rfl (.tmp 50) (.tmp 63) 30 rfl (by simp [Act.eval]) (by simp [Act.eval]) HRUN ?_)
       all_goals
        go_wp2;exact ⟨⟨k+1,D,M,_,_,by omega,by go_num,HFM,HE5,HT5,HST5⟩,by simp [intOf];omega⟩
    ·obtain rfl:k=n:=by omega
     have HTE:=HEND.out s C E HTK.out;obtain ⟨r0,r1⟩:=zbb st9.res;have f0:=st9.res.frozen 0;have f1:=st9.res.frozen 1;obtain ⟨q0,q1⟩:=zbb st9.row;obtain ⟨aE,AE,cE,hvE,_⟩:=form_any st9.ent;have HF:Hid (LaidEnd w T (.returned (.tuple #[.agg #[.string s,.slice a1 nC cap1],u9,.bool true])) ((wr.setCell ⟨w.heap.size,0,none⟩ (.string s)).setCell ⟨w.heap.size,1,none⟩ (.slice a1 nC cap1))):=by
      have n2:=own_ne st9.ent st9.res (by decide);rw [HTE];exact ⟨_,_,rfl,own_past st9.own st9.res,ownsRow_setCell_other (ownsRow_setCell_other st9.ent (fun e=>n2 e.symm) _) (fun e=>n2 e.symm) _,(st9.bel.setCell (p:=⟨w.heap.size,0,none⟩) (Nat.le_refl _) _).setCell (p:=⟨w.heap.size,1,none⟩) (Nat.le_refl _) _⟩
     obtain ⟨z0,z1⟩:=zbb (RowAt.both (x:= .string s) (y:= .slice a1 nC cap1) st9.res);clear HNO HKS HFT HEE HVB HTE HTK HSTEP HEND st9 hvE;go_wp2;exact bodyPost_ret (v:= .tuple #[.agg #[.string s,.slice a1 nC cap1],u9,.bool true]) (by simp [results,Tryz.results7,go_sem,z0,z1]) rfl HF.out
end Go.Proofs.YtjpeglkkkllagaaGreatDoor
