import Derived.Test.YtapdoechmnjaeaaGreatDoorAb
import Derived.Test.YtapdoechmnjaeaaGreatDoorDe
import Derived.Test.YtapdoechmnjaeaaGreatDoorDn
set_option maxHeartbeats 16000000
set_option maxRecDepth 100000
namespace Go.Proofs.YtapdoechmnjaeaaGreatDoor
open Go.RowKit Go.Sort
open Hp (Cl cl0 Fit CellsIn flatC refV HeapEnd FitH zbb own_ne drop_fit pack_fit dropD dropL dropOk packD packL heapB)
theorem ref_none (rb:Nat) (a:Option Addr) (n c:Nat) (w:World) (h:Rd w rb a n c) (hrb:rb<w.heap.size):
  Calls Tryz.prog 29 #[.pointer (some ⟨rb,0,none⟩),.slice none 0 0] w fun e w'=>∃x y:Int,e= .returned (refV x y)∧Rd w' rb a n c∧w.grownBy w' (some rb):=by
 obtain ⟨W0,hW0,HW0,b0,q0⟩:=boxed w #[.int .i64 0,.int .i64 0] 37;have r0:=h.below b0 hrb;have g0:w.grownBy W0 (some rb):=grown_low (grown_refl _ _) b0;clear hW0 h;go_enter Tryz.func29,Tryz.ntmps29;go_upto_region 1 with fail;rw [HW0.out];clear HW0;go_wp2_with fail;refine (Hp.off_any rb a n c 0 3 W0 r0 (by omega) (by omega) (by omega)).mono ?_;rintro e w1 ⟨x,rfl,hx1,hx2,r1,g1⟩;have q1:=row_read q0 g1 (by omega);clear q0 r0 b0;go_wp2_with fail;refine (Hp.off_any rb a n c 1 3 w1 r1 (by omega) (by omega) (by omega)).mono ?_;rintro e w2 ⟨y,rfl,hy1,hy2,r2,g2⟩;have q2:=row_read q1 g2 (by omega);clear q1 r1;have bE:Below w.heap.size w2 ((w2.setCell ⟨w.heap.size,0,none⟩ (.int .i64 x)).setCell ⟨w.heap.size,1,none⟩ (.int .i64 y)):=((Below.refl _ w2).setCell (p:=⟨w.heap.size,0,none⟩) (Nat.le_refl _) _).setCell (p:=⟨w.heap.size,1,none⟩) (Nat.le_refl _) _;have HF:Hid (Rd ((w2.setCell ⟨w.heap.size,0,none⟩ (.int .i64 x)).setCell ⟨w.heap.size,1,none⟩ (.int .i64 y)) rb a n c∧w.grownBy ((w2.setCell ⟨w.heap.size,0,none⟩ (.int .i64 x)).setCell ⟨w.heap.size,1,none⟩ (.int .i64 y)) (some rb)):=⟨r2.below bE hrb,grown_low ((g0.trans g1).trans g2) bE⟩;obtain ⟨z0,z1⟩:=zbb (RowAt.both (x:= .int .i64 x) (y:= .int .i64 y) q2);obtain ⟨y0,y1⟩:=zbb q2;have f0:=q2.frozen 0;have f1:=q2.frozen 1;clear bE r2 g0 g1 g2 q2;go_wp2;exact bodyPost_ret (v:=refV x y) (by simp [results,Tryz.results29,go_sem,z0,z1]) rfl ⟨x,y,rfl,HF.out.1,HF.out.2⟩
structure TSt (w:World) (R rb:Nat) (a:Option Addr) (n c B H:Nat) (s:ByteArray) (C:List Cl) (v:Value) (E:List En) (vE:Value) (W:World):Prop where
 bel:Below w.heap.size w W
 lr:w.heap.size≤R
 lb:R<rb
 lB:rb<B
 lh:B≤H
 rd:Rd W rb a n c
 res:RowAt W R 26 #[.string ⟨#[]⟩,.slice none 0 0]
 row:RowAt W H 26 #[.string s,v]
 own:W.ownsRow B 131 4 v C.length (flatC C)
 ent:OwnE W B vE E
section
variable {w : World} {R rb : Nat} {a : Option Addr} {n c B H : Nat} {s : ByteArray} {C : List Cl} {v : Value} {E : List En} {vE : Value} {W W' : World}
theorem TSt.read (h:TSt w R rb a n c B H s C v E vE W) (r:Rd W' rb a n c) (g:W.grownBy W' (some rb)):TSt w R rb a n c B H s C v E vE W':=by
 have h1:=h.lr;have h2:=h.lb;have h3:=h.lB;have h4:=h.lh;have bw:Below w.heap.size W W':=⟨g.os,g.tape,g.output,g.size,fun k hk=>g.block k (by have:=h.bel.size;omega) (fun e=>by injection e with e;omega)⟩;exact ⟨h.bel.trans bw,h1,h2,h3,h4,r,row_read h.res g (by omega),row_read h.row g (by omega),own_grown h.own g h3,own_grown h.ent g h3⟩
theorem TSt.below (h:TSt w R rb a n c B H s C v E vE W) (hb:Below W.heap.size W W'):TSt w R rb a n c B H s C v E vE W':=by
 obtain ⟨p,_,hp⟩:=h.rd.row;exact ⟨h.bel.trans (hb.mono h.bel.size),h.lr,h.lb,h.lB,h.lh,h.rd.below hb hp.lt,h.res.below hb h.res.lt,h.row.below hb h.row.lt,zaf h.own hb,zaf h.ent hb⟩
theorem TSt.drew (h:TSt w R rb a n c B H s C v E vE W):TSt w R rb a n c B H s C v E vE W.drew:=h.below (Below.refl _ W).drew
theorem TSt.lt (h:TSt w R rb a n c B H s C v E vE W):rb<W.heap.size:=by
 obtain ⟨p,_,hp⟩:=h.rd.row;exact hp.lt
theorem TSt.swap (h:TSt w R rb a n c B H s C v E vE W) {s':ByteArray} {C':List Cl} {v':Value} (ho:W.ownsRow B 131 4 v' C'.length (flatC C')):TSt w R rb a n c B H s' C' v' E vE ((W.setCell ⟨H,0,none⟩ (.string s')).setCell ⟨H,1,none⟩ v'):=by
 have h1:=h.lr;have h2:=h.lb;have h3:=h.lB;have h4:=h.lh;have n1:=own_ne ho h.row (by decide);have n2:=own_ne h.ent h.row (by decide);have hb:Below B W ((W.setCell ⟨H,0,none⟩ (.string s')).setCell ⟨H,1,none⟩ v'):=((Below.refl _ W).setCell (p:=⟨H,0,none⟩) (by simp only;omega) _).setCell (p:=⟨H,1,none⟩) (by simp only;omega) _;exact ⟨h.bel.trans (hb.mono (by omega)),h1,h2,h3,h4,h.rd.below hb h3,h.res.skip (by omega),h.row.both,ownsRow_setCell_other (ownsRow_setCell_other ho (fun e=>n1 e.symm) _) (fun e=>n1 e.symm) _,ownsRow_setCell_other (ownsRow_setCell_other h.ent (fun e=>n2 e.symm) _) (fun e=>n2 e.symm) _⟩
theorem refs_flat:∀(E:List En) (i:Nat) (x y:Int),i<E.length→((flatE E).set (i*4+1) (.int .i64 x)).set (i*4+2) (.int .i64 y)=flatE (E.set i ⟨(E.getD i en0).name,x,y,(E.getD i en0).due⟩)
 | [],i,_,_,h=>by simp at h
 |e::E,0,x,y,_=>rfl
 |e::E,i+1,x,y,h=>by
  have:=refs_flat E i x y (by simpa using h);rw [show (i+1)*4+1=(i*4+1)+1+1+1+1 by omega,show (i+1)*4+2=(i*4+2)+1+1+1+1 by omega];simp only [flatE_cons,enL,List.cons_append,List.nil_append,List.set_cons_succ,List.getD_cons_succ];rw [this]
theorem TSt.refs {A cap m:Nat} (hm:E.length=m) (h:TSt w R rb a n c B H s C v E (.slice (some ⟨A,0,none⟩) m cap) W) (i:Nat) (x y:Int) (hi:i<m):TSt w R rb a n c B H s C v (E.set i ⟨(E.getD i en0).name,x,y,(E.getD i en0).due⟩) (.slice (some ⟨A,0,none⟩) m cap) ((W.setCell ⟨A,i*4+1,none⟩ (.int .i64 x)).setCell ⟨A,i*4+2,none⟩ (.int .i64 y)):=by
 subst hm;have h1:=h.lr;have h2:=h.lb;have h3:=h.lB;have h4:=h.lh;have hA:=(h.ent.lt A rfl).1;obtain ⟨K,hK⟩:=own_type h.ent (g:=A) rfl;have n1:A≠R:=fun e=>by
  subst e;have:=h.res.symm.trans hK;simp at this
 have n2:A≠H:=fun e=>by
  subst e;have:=h.row.symm.trans hK;simp at this
 have n3:=own_ne h.own hK (by decide);have hb:Below B W ((W.setCell ⟨A,i*4+1,none⟩ (.int .i64 x)).setCell ⟨A,i*4+2,none⟩ (.int .i64 y)):=((Below.refl _ W).setCell (p:=⟨A,i*4+1,none⟩) hA _).setCell (p:=⟨A,i*4+2,none⟩) hA _;have e1:∀k,k≠A→((W.setCell ⟨A,i*4+1,none⟩ (.int .i64 x)).setCell ⟨A,i*4+2,none⟩ (.int .i64 y)).heap[k]?=W.heap[k]?:=fun k hk=> (Below.heap_setCell _ _ _ _ (by simp only;omega)).trans (Below.heap_setCell _ _ _ _ (by simp only;omega));have ho:=Hp.owns_set (j:=i*4+2) (u:= .int .i64 y) (Hp.owns_set (j:=i*4+1) (u:= .int .i64 x) h.ent);rw [refs_flat E i x y hi] at ho;exact ⟨h.bel.trans (hb.mono (by omega)),h1,h2,h3,h4,h.rd.below hb h3,(e1 R (Ne.symm n1)).trans h.res,(e1 H (Ne.symm n2)).trans h.row,ownsRow_setCell_other (ownsRow_setCell_other h.own (fun e=>n3 e.symm) _) (fun e=>n3 e.symm) _,by unfold OwnE;rw [List.length_set];exact ho⟩
end
theorem ent_cell {W:World} {B A m cap i:Nat} {E:List En} (h:W.ownsRow B 39 4 (.slice (some ⟨A,0,none⟩) m cap) E.length (flatE E)) (hi:i<E.length):EnAt W A (i*4) (E.getD i en0):=by
 have e:∀j u,j<4→(enL (E.getD i en0))[j]?=some u→W.cell? ⟨A,i*4+j,none⟩=some u:=fun j u hj hu=>by
  have:=h.cells rfl (i*4+j) u (by rw [flatE_at E i j hi hj];exact hu);rwa [Addr.add_lit,Nat.zero_add] at this
 exact ⟨e 0 _ (by omega) rfl,e 1 _ (by omega) rfl,e 2 _ (by omega) rfl,e 3 _ (by omega) rfl⟩
def DrawEnd (w:World) (e:Ending) (w':World):Prop:=∃D C v E vE,e= .returned (.tuple #[.agg #[.string D,v],vE])∧w'.ownsRow w.heap.size 131 4 v (List.length C) (flatC C)∧OwnE w' w.heap.size vE E∧FitH D C∧E.length≤1000∧(∀x∈E,x.name.size≤200)∧Below w.heap.size w w'
theorem TSt.done {w:World} {R rb:Nat} {a:Option Addr} {n c B H:Nat} {s:ByteArray} {C:List Cl} {v:Value} {E:List En} {vE:Value} {W:World} (h:TSt w R rb a n c B H s C v E vE W) (hf:FitH s C) (hE:E.length≤1000∧∀x∈E,x.name.size≤200):DrawEnd w (.returned (.tuple #[.agg #[.string s,v],vE])) ((W.setCell ⟨R,0,none⟩ (.string s)).setCell ⟨R,1,none⟩ v):=by
 have h1:=h.lr;have h2:=h.lb;have h3:=h.lB;have n1:=own_ne h.own h.res (by decide);have n2:=own_ne h.ent h.res (by decide);exact ⟨s,C,v,E,vE,rfl,Go.Joins.ownsRow_le (ownsRow_setCell_other (ownsRow_setCell_other h.own (fun e=>n1 e.symm) _) (fun e=>n1 e.symm) _) (by omega),Go.Joins.ownsRow_le (ownsRow_setCell_other (ownsRow_setCell_other h.ent (fun e=>n2 e.symm) _) (fun e=>n2 e.symm) _) (by omega),hf,hE.1,hE.2,(h.bel.setCell (p:=⟨R,0,none⟩) h1 _).setCell (p:=⟨R,1,none⟩) h1 _⟩
theorem ents_set {E:List En} (h:E.length≤1000∧∀x∈E,x.name.size≤200) (i:Nat) (x y:Int):(E.set i ⟨(E.getD i en0).name,x,y,(E.getD i en0).due⟩).length≤1000∧∀z∈E.set i ⟨(E.getD i en0).name,x,y,(E.getD i en0).due⟩,z.name.size≤200:=by
 refine ⟨by rw [List.length_set];exact h.1,fun z hz=>?_⟩;rcases List.mem_or_eq_of_mem_set hz with h1|h1
 ·exact h.2 z h1
 ·rw [h1];by_cases hi:i<E.length
  ·exact h.2 (E.getD i en0) (getD_mem E en0 i hi)
  ·show (E.getD i en0).name.size≤200;rw [List.getD_eq_getElem?_getD,List.getElem?_eq_none (by omega)];decide
theorem draw_any (ra:Option Addr) (rn rc:Nat) (w0:World) (hn:rn≤9223372036854775807) (hb:BytesIn w0 ra rn w0.heap.size):
  Calls Tryz.prog 6 #[.slice ra rn rc] w0 (DrawEnd w0):=by
 obtain ⟨W0,hW0,HW0,b0,rR0⟩:=boxed w0 #[.string ⟨#[]⟩,.slice none 0 0] 26
 have hby:BytesIn W0 ra rn W0.heap.size:=⟨fun h=>by
  obtain ⟨b,o,ha,hB,hc⟩:=(hb.below b0).cell h;exact ⟨b,o,ha,Nat.lt_of_lt_of_le hB b0.size,hc⟩⟩
 have hR:w0.heap.size<W0.heap.size:=rR0.lt;clear hW0 hb;go_enter Tryz.func6,Tryz.ntmps6;go_upto_region 1 with fail;rw [HW0.out];clear HW0;go_wp2_with fail;refine (open_any ra rn rc W0 hn hby).mono ?_;rintro e w1 ⟨rfl,r1,b1⟩;have rR1:=rR0.below b1 rR0.lt;have hrb1:W0.heap.size<w1.heap.size:=by
  obtain ⟨p,_,hp⟩:=r1.row;exact hp.lt
 have b1w:Below w0.heap.size w0 w1:=b0.trans (b1.mono b0.size);clear b1 b0 rR0 hby
 generalize W0.heap.size=rb at*;go_wp2_with fail;refine (db_any rb ra rn rc w1 r1 hrb1).mono ?_;rintro e w2 ⟨vd,M,rfl,st2,hM⟩;have rR2:=row_read rR1 st2.grown (by omega);have b2w:Below w0.heap.size w0 w2:=b1w.trans ⟨st2.grown.os,st2.grown.tape,st2.grown.output,st2.grown.size,fun k hk=>st2.grown.block k (by have:=b1w.size;omega) (fun e=>by injection e with e;omega)⟩;have hr2:rb<w2.heap.size:=st2.lt hrb1;have ro2:Rd w2 rb ra rn rc:=st2.rd;have HND:Hid (Calls Tryz.prog 27 #[vd] w2 fun e w'=>∃k:Int,e= .returned (.int .i64 k)∧-1≤k∧k≤21000000∧Below w2.heap.size w2 w'):=need_any w1.heap.size vd M w2 st2.own st2.fit (by omega);have HLD:Hid (∀W z,Below w2.heap.size w2 W→Calls Tryz.prog 26 #[.int .i64 z,vd] W (LaidEnd W)):=fun W z hb=>laid_any w1.heap.size z vd M W (st2.own.below hb) st2.fit (by omega);clear st2 r1 rR1 b1w;go_wp2_with fail;refine HND.out.mono ?_;rintro e w3 ⟨z,rfl,hz1,hz2,b3⟩;have rR3:=rR2.below b3 rR2.lt;have b3w:Below w0.heap.size w0 w3:=b2w.trans (b3.mono b2w.size);have ro3:=ro2.below b3 hr2;have hr3:rb<w3.heap.size:=Nat.lt_of_lt_of_le hr2 b3.size;have HL3:Hid (Calls Tryz.prog 26 #[.int .i64 (z+20),vd] w3 (LaidEnd w3)):=HLD.out w3 (z+20) b3;clear HLD HND rR2 b2w ro2 b3 hM;go_wp2_with fail;refine HL3.out.mono ?_;rintro e w4 ⟨D,C,v,E,vE,ok,rfl,o4,e4,hFT,hE1,hE2,b4⟩;have HFT:Hid (FitH D C):=hFT;have HEE:Hid (E.length≤1000∧∀x∈E,x.name.size≤200):=⟨hE1,hE2⟩;obtain ⟨a1,A1,c1,hv1,_⟩:=form_any o4;obtain ⟨aE,AE,cE,hvE,hAE⟩:=form_any e4;subst hv1 hvE;obtain ⟨W5,hW5⟩:∃W5,w4.alloc (.cells #[.string D,.slice a1 C.length c1] 26)=W5:=⟨_,rfl⟩;have HW5:Hid (w4.alloc (.cells #[.string D,.slice a1 C.length c1] 26)=W5):=hW5;have st5:TSt w0 w0.heap.size rb ra rn rc w3.heap.size w4.heap.size D C (.slice a1 C.length c1) E (.slice aE E.length cE) W5:=by
  have b5:Below w4.heap.size w4 W5:=by rw [←hW5];exact (Below.refl _ w4).alloc (Nat.le_refl _) _
  have b4w:=b3w.trans (b4.mono b3w.size);have rR4:=rR3.below b4 rR3.lt;exact ⟨b4w.trans (b5.mono b4w.size),Nat.le_refl _,hR,hr3,b4.size,(ro3.below b4 hr3).below b5 (Nat.lt_of_lt_of_le hr3 b4.size),rR4.below b5 rR4.lt,by rw [←hW5];exact RowAt.new w4 26 _,zaf o4 b5,zaf e4 b5⟩
 clear hW5 o4 e4 hFT hE1 hE2 b4 b3w rR3 ro3 hr3 hr2 hz1 hz2 HL3;obtain ⟨nC,hnC⟩:∃nC,C.length=nC:=⟨_,rfl⟩;have HNC:Hid (C.length=nC):=hnC;obtain ⟨m,hm⟩:∃m,E.length=m:=⟨_,rfl⟩;have HME:Hid (E.length=m):=hm;rw [hm] at hAE;rw [hnC] at HW5;rw [hnC,hm] at st5;rw [hnC,hm];have hm1:m≤1000:=by rw [←hm];exact HEE.out.1
 clear hnC hm;obtain ⟨R,hRe⟩:∃R,w0.heap.size=R:=⟨_,rfl⟩;have HRe:Hid (w0.heap.size=R):=hRe;rw [hRe] at st5;rw [hRe];clear hRe;generalize w3.heap.size=B at*;generalize hH:w4.heap.size=H at*;go_upto_region 4 with fail;rw [HW5.out];clear HW5;have PK:Hid (∀W,TSt w0 R rb ra rn rc B H D C (.slice a1 nC c1) E (.slice aE m cE) W→0<m→Calls Tryz.prog 28 #[.pointer (some ⟨rb,0,none⟩),.int .i64 m] W fun e w'=>∃i:Nat,e= .returned (.int .i64 i)∧i<m∧TSt w0 R rb ra rn rc B H D C (.slice a1 nC c1) E (.slice aE m cE) w'):=fun W st h0=> (zde rb ra rn rc m W st.rd h0 (by omega)).mono fun e w' he=>by
  obtain ⟨i,h1,h2,h3,h4⟩:=he;exact ⟨i,h1,h2,st.read h3 h4⟩
 have CI:Hid (∀W,TSt w0 R rb ra rn rc B H D C (.slice a1 nC c1) E (.slice aE m cE) W→∃A',CellsIn W a1 A' 0 nC C):=fun W st=>by
  obtain ⟨a',A',cap',e',hc⟩:=Hp.owns_in st.own;rw [HNC.out] at e' hc;cases e';exact ⟨A',hc⟩
 have HEND:Hid (∀W e w' D2 C2 ok,TSt w0 R rb ra rn rc B H D C (.slice a1 nC c1) E (.slice aE m cE) W→HeapEnd W D2 C2 ok e w'→FitH D2 C2→∃a2 n2 c2 D3 C3 ok3,e= .returned (.tuple #[.agg #[.string D3,.slice a2 n2 c2],.bool ok3])∧w'.ownsRow B 131 4 (.slice a2 n2 c2) (List.length C3) (flatC C3)∧FitH D3 C3∧TSt w0 R rb ra rn rc B H D C (.slice a1 nC c1) E (.slice aE m cE) w'):=fun W e w' D2 C2 ok st he hf=>by
  obtain ⟨v2,h1,h2,h3⟩:=he;obtain ⟨a2,A2,c2,hv2,_⟩:=form_any h2;subst hv2;obtain ⟨p,_,hp⟩:=st.rd.row;have hBW:B≤W.heap.size:=by have:=st.row.lt;have:=st.lh;omega
  exact ⟨a2,_,c2,D2,C2,ok,h1,Go.Joins.ownsRow_le h2 hBW,hf,st.below h3⟩
 have DR:Hid (∀W x y,TSt w0 R rb ra rn rc B H D C (.slice a1 nC c1) E (.slice aE m cE) W→Calls Tryz.prog 30 #[.agg #[.string D,.slice a1 nC c1],.agg #[.int .i64 x,.int .i64 y]] W fun e w'=>∃a2 n2 c2 D3 C3 ok3,e= .returned (.tuple #[.agg #[.string D3,.slice a2 n2 c2],.bool ok3])∧w'.ownsRow B 131 4 (.slice a2 n2 c2) (List.length C3) (flatC C3)∧FitH D3 C3∧TSt w0 R rb ra rn rc B H D C (.slice a1 nC c1) E (.slice aE m cE) w'):=fun W x y st=>by
  obtain ⟨A',hc⟩:=CI.out W st;have:=Hp.specDropA D a1 A' 0 c1 C x y W (by rw [HNC.out];exact hc) (by have:=HFT.out.size;omega) (by have:=HFT.out.len;omega) HFT.out.fit;rw [HNC.out] at this;exact this.mono fun e w' he=>HEND.out W e w' _ _ _ st he (drop_fit HFT.out x y)
 have PD:Hid (∀W,TSt w0 R rb ra rn rc B H D C (.slice a1 nC c1) E (.slice aE m cE) W→Calls Tryz.prog 31 #[.agg #[.string D,.slice a1 nC c1]] W fun e w'=>∃a2 n2 c2 D3 C3 ok3,e= .returned (.tuple #[.agg #[.string D3,.slice a2 n2 c2],.bool ok3])∧w'.ownsRow B 131 4 (.slice a2 n2 c2) (List.length C3) (flatC C3)∧FitH D3 C3∧TSt w0 R rb ra rn rc B H D C (.slice a1 nC c1) E (.slice aE m cE) w'):=fun W st=>by
  obtain ⟨A',hc⟩:=CI.out W st;exact (Hp.specPacked_any D a1 A' 0 nC c1 C W hc (by have:=HFT.out.size;omega) (by have:=HFT.out.len;rw [HNC.out] at this;omega) (fun i hi=>HFT.out.fit i (by rw [HNC.out];exact hi))).mono fun e w' he=>HEND.out W e w' _ _ _ st he (pack_fit HFT.out)
 clear HEND CI HNC;go_wp2_with fail;refine (zde rb ra rn rc 8 W5 st5.rd (by omega) (by omega)).mono ?_;rintro e w6 ⟨j,rfl,hj,r6,g6⟩;have st6:=st5.read r6 g6;clear st5 r6 g6;by_cases j5:j=5
 ·subst j5;clear DR PD;by_cases h0:0<m
  ·have h0i:(0:Int)<(m:Int):=by omega
   obtain rfl:=hAE h0;go_wp2_with fail;refine (PK.out w6 st6 h0).mono ?_;rintro e w7 ⟨i,rfl,hi,st7⟩;clear st6 PK;go_wp2_with fail;refine (ref_none rb ra rn rc w7 st7.rd st7.lt).mono ?_;rintro e w8 ⟨x,y,rfl,r8,g8⟩;have st8:=st7.read r8 g8;clear st7 r8 g8;have hi0:(0:Int)≤(i:Int):=by omega
   have him:(i:Int)<(m:Int):=by omega
   have hen:=ent_cell st8.ent (i:=i) (by rw [HME.out];exact hi);obtain ⟨k0,k1,k2,k3⟩:=hen;have hown:w8.ownsRow B 39 4 (.slice (some ⟨AE,0,none⟩) m cE) m (flatE E):=by
    have:=st8.ent;rw [OwnE,HME.out] at this;exact this
   have fz1:=Hp.owns_frozen hown (i*4+1);have fz2:=Hp.owns_frozen hown (i*4+2);have st9:=st8.refs HME.out i x y hi;have HE9:Hid _:=ents_set HEE.out i x y;generalize E.set i ⟨(E.getD i en0).name,x,y,(E.getD i en0).due⟩=E9 at*;generalize (E.getD i en0).rc=o1 at*;generalize (E.getD i en0).rg=o2 at*;clear k0 k3 hown st8;obtain ⟨W9,hW9⟩:∃W9,(w8.setCell ⟨AE,i*4+1,none⟩ (.int .i64 x)).setCell ⟨AE,i*4+2,none⟩ (.int .i64 y)=W9:=⟨_,rfl⟩;have HW9:Hid ((w8.setCell ⟨AE,i*4+1,none⟩ (.int .i64 x)).setCell ⟨AE,i*4+2,none⟩ (.int .i64 y)=W9):=hW9;rw [hW9] at st9;clear hW9;go_upto_region 13 with fail;rw [HW9.out];clear HW9 k1 k2 fz1 fz2;obtain ⟨r0,r1⟩:=zbb st9.res;have f0:=st9.res.frozen 0;have f1:=st9.res.frozen 1;obtain ⟨q0,q1⟩:=zbb st9.row;have HF:Hid (DrawEnd w0 (.returned (.tuple #[.agg #[.string D,.slice a1 nC c1],.slice (some ⟨AE,0,none⟩) m cE])) ((W9.setCell ⟨R,0,none⟩ (.string D)).setCell ⟨R,1,none⟩ (.slice a1 nC c1))):=st9.done HFT.out HE9.out;obtain ⟨z0,z1⟩:=zbb (RowAt.both (x:= .string D) (y:= .slice a1 nC c1) st9.res);clear st9;go_wp2;exact bodyPost_ret (v:= .tuple #[.agg #[.string D,.slice a1 nC c1],.slice (some ⟨AE,0,none⟩) m cE]) (by simp [results,Tryz.results6,go_sem,z0,z1]) rfl HF.out
  ·have h0i:m=0:=by omega
   subst h0i;obtain ⟨r0,r1⟩:=zbb st6.res;have f0:=st6.res.frozen 0;have f1:=st6.res.frozen 1;obtain ⟨q0,q1⟩:=zbb st6.row;have HF:Hid (DrawEnd w0 (.returned (.tuple #[.agg #[.string D,.slice a1 nC c1],.slice aE 0 cE])) ((w6.setCell ⟨R,0,none⟩ (.string D)).setCell ⟨R,1,none⟩ (.slice a1 nC c1))):=st6.done HFT.out HEE.out;obtain ⟨z0,z1⟩:=zbb (RowAt.both (x:= .string D) (y:= .slice a1 nC c1) st6.res);clear st6;go_wp2;exact bodyPost_ret (v:= .tuple #[.agg #[.string D,.slice a1 nC c1],.slice aE 0 cE]) (by simp [results,Tryz.results6,go_sem,z0,z1]) rfl HF.out
 ·have n5:((j:Int)==5)=false:=by simp;omega
  by_cases j6:j=6
  ·subst j6;clear PD n5;by_cases h0:0<m
   ·have h0i:(0:Int)<(m:Int):=by omega
    obtain rfl:=hAE h0;obtain ⟨u0,u1⟩:=zbb st6.row;go_upto_region 10 with fail
    go_region_law (first
     |(go_simp;refine (PK.out _ (by first|exact st6|exact st6.drew) h0).mono ?_;rintro e w7 ⟨i,rfl,hi,st7⟩;have hi0:(0:Int)≤(i:Int):=(by omega);have him:(i:Int)<(m:Int):=(by omega);have hen:=ent_cell st7.ent (i:=i) (by rw [HME.out];exact hi);obtain ⟨k0,k1,k2,k3⟩:=hen;obtain ⟨v0,v1⟩:=zbb st7.row;dsimp only)
     |(go_simp;refine (DR.out _ _ _ (by first|exact st7|exact st7.drew)).mono ?_;rintro e w8 ⟨a2,n2,c2,D3,C3,ok3,rfl,ho8,hf8,st8⟩;obtain ⟨x0,x1⟩:=zbb st8.row;have y0:=st8.row.frozen 0;have y1:=st8.row.frozen 1;dsimp only))
    all_goals
     have st9:=st8.swap (s':=D3) ho8;have HF9:Hid (FitH D3 C3):=hf8;obtain ⟨W9,hW9⟩:∃W9,(w8.setCell ⟨H,0,none⟩ (.string D3)).setCell ⟨H,1,none⟩ (.slice a2 n2 c2)=W9:=⟨_,rfl⟩;have HW9:Hid ((w8.setCell ⟨H,0,none⟩ (.string D3)).setCell ⟨H,1,none⟩ (.slice a2 n2 c2)=W9):=hW9;rw [hW9] at st9;clear hW9 st8 ho8 hf8;go_upto_region 13 with fail;rw [HW9.out];clear HW9;obtain ⟨r0,r1⟩:=zbb st9.res;have f0:=st9.res.frozen 0;have f1:=st9.res.frozen 1;obtain ⟨q0,q1⟩:=zbb st9.row;have HF:Hid (DrawEnd w0 (.returned (.tuple #[.agg #[.string D3,.slice a2 n2 c2],.slice (some ⟨AE,0,none⟩) m cE])) ((W9.setCell ⟨R,0,none⟩ (.string D3)).setCell ⟨R,1,none⟩ (.slice a2 n2 c2))):=st9.done HF9.out HEE.out;obtain ⟨z0,z1⟩:=zbb (RowAt.both (x:= .string D3) (y:= .slice a2 n2 c2) st9.res);clear st9;go_wp2;exact bodyPost_ret (v:= .tuple #[.agg #[.string D3,.slice a2 n2 c2],.slice (some ⟨AE,0,none⟩) m cE]) (by simp [results,Tryz.results6,go_sem,z0,z1]) rfl HF.out
   ·have h0i:m=0:=by omega
    subst h0i;obtain ⟨r0,r1⟩:=zbb st6.res;have f0:=st6.res.frozen 0;have f1:=st6.res.frozen 1;obtain ⟨q0,q1⟩:=zbb st6.row;have HF:Hid (DrawEnd w0 (.returned (.tuple #[.agg #[.string D,.slice a1 nC c1],.slice aE 0 cE])) ((w6.setCell ⟨R,0,none⟩ (.string D)).setCell ⟨R,1,none⟩ (.slice a1 nC c1))):=st6.done HFT.out HEE.out;obtain ⟨z0,z1⟩:=zbb (RowAt.both (x:= .string D) (y:= .slice a1 nC c1) st6.res);clear st6;go_wp2;exact bodyPost_ret (v:= .tuple #[.agg #[.string D,.slice a1 nC c1],.slice aE 0 cE]) (by simp [results,Tryz.results6,go_sem,z0,z1]) rfl HF.out
  ·have n6:((j:Int)==6)=false:=by simp;omega
   by_cases j7:j=7
   ·subst j7;clear n5 n6 DR PK;obtain ⟨u0,u1⟩:=zbb st6.row;go_wp2_with fail;refine (PD.out w6 st6).mono ?_;rintro e w8 ⟨a2,n2,c2,D3,C3,ok3,rfl,ho8,hf8,st8⟩;obtain ⟨x0,x1⟩:=zbb st8.row;have y0:=st8.row.frozen 0;have y1:=st8.row.frozen 1;have st9:=st8.swap (s':=D3) ho8;have HF9:Hid (FitH D3 C3):=hf8;obtain ⟨W9,hW9⟩:∃W9,(w8.setCell ⟨H,0,none⟩ (.string D3)).setCell ⟨H,1,none⟩ (.slice a2 n2 c2)=W9:=⟨_,rfl⟩;have HW9:Hid ((w8.setCell ⟨H,0,none⟩ (.string D3)).setCell ⟨H,1,none⟩ (.slice a2 n2 c2)=W9):=hW9;rw [hW9] at st9;clear hW9 st8 ho8 hf8;go_upto_region 13 with fail;rw [HW9.out];clear HW9 x0 x1 y0 y1 u0 u1;obtain ⟨r0,r1⟩:=zbb st9.res;have f0:=st9.res.frozen 0;have f1:=st9.res.frozen 1;obtain ⟨q0,q1⟩:=zbb st9.row;have HF:Hid (DrawEnd w0 (.returned (.tuple #[.agg #[.string D3,.slice a2 n2 c2],.slice aE m cE])) ((W9.setCell ⟨R,0,none⟩ (.string D3)).setCell ⟨R,1,none⟩ (.slice a2 n2 c2))):=st9.done HF9.out HEE.out;obtain ⟨z0,z1⟩:=zbb (RowAt.both (x:= .string D3) (y:= .slice a2 n2 c2) st9.res);clear st9;go_wp2;exact bodyPost_ret (v:= .tuple #[.agg #[.string D3,.slice a2 n2 c2],.slice aE m cE]) (by simp [results,Tryz.results6,go_sem,z0,z1]) rfl HF.out
   ·have n7:((j:Int)==7)=false:=by simp;omega
    obtain ⟨r0,r1⟩:=zbb st6.res;have f0:=st6.res.frozen 0;have f1:=st6.res.frozen 1;obtain ⟨q0,q1⟩:=zbb st6.row;have HF:Hid (DrawEnd w0 (.returned (.tuple #[.agg #[.string D,.slice a1 nC c1],.slice aE m cE])) ((w6.setCell ⟨R,0,none⟩ (.string D)).setCell ⟨R,1,none⟩ (.slice a1 nC c1))):=st6.done HFT.out HEE.out;obtain ⟨z0,z1⟩:=zbb (RowAt.both (x:= .string D) (y:= .slice a1 nC c1) st6.res);clear st6;go_wp2;exact bodyPost_ret (v:= .tuple #[.agg #[.string D,.slice a1 nC c1],.slice aE m cE]) (by simp [results,Tryz.results6,go_sem,z0,z1]) rfl HF.out
end Go.Proofs.YtapdoechmnjaeaaGreatDoor
namespace Go.Proofs.YtapdoechmnjaeaaGreatDoor
open Go.RowKit Go.Sort
open Hp (Cl cl0 getB)
theorem big_any (a:Option Addr) (n c:Nat) (w:World) (hn:n≤9223372036854775807):Calls Tryz.prog 5 #[.slice a n c] w fun e w'=>e= .returned (.bool (decide (1048576<n)))∧w'=w:=by
 go_enter Tryz.func5,Tryz.ntmps5;go_wp2;go_ret;exact ⟨zae (decide_eq_decide.2 (by omega)),rfl⟩
theorem sameDb_any (a a':Option Addr) (b b' n c c':Nat) (L L':List KV) (w:World) (h:DbAt w a b n L) (h':DbAt w a' b' n L') (he:L'.map KV.key=L.map KV.key) (hs:∀i,i<n→KSml (L.getD i kv0).key) (hn:n≤1000):
  Calls Tryz.prog 9 #[.slice a n c,.slice a' n c'] w fun e w'=>e= .returned (.bool true)∧Below w.heap.size w w':=by
 have HD:Hid (DbAt w a b n L):=h;have HD':Hid (DbAt w a' b' n L'):=h';have HE:Hid (∀i,(L'.getD i kv0).key=(L.getD i kv0).key):=fun i=>by rw [←key_at,←key_at,he]
 have HS:Hid (∀i,i<n→KSml (L.getD i kv0).key):=hs;clear h h' he hs;go_enter Tryz.func9,Tryz.ntmps9;go_wp2;go_loopw [5] (fun i wr=>∃(k:Nat),k≤n∧i= .int .i64 k∧Below w.heap.size w wr) (fun i _=>n-(intOf i).toNat)
 case atStart=>exact ⟨0,by omega,rfl,Below.refl _ _⟩
 case round=>
  obtain ⟨k,hk,rfl,bk⟩:=hrel;have sk:=bk.size;by_cases hlt:k<n
  ·have HW:=HD.out.below bk;have HW':=HD'.out.below bk;obtain ⟨B,hv⟩:=HW.val k hlt;obtain ⟨B',hv'⟩:=HW'.val k hlt;have hc:=HW.ks.cell k hlt;have hc':=HW'.ks.cell k hlt;obtain rfl:=HW.ks.addr (by omega);obtain rfl:=HW'.ks.addr (by omega);have q:=HS.out k hlt;have e:=HE.out k;generalize L.getD k kv0=y at*;generalize L'.getD k kv0=y' at*;obtain ⟨ky,vi,vp,vr⟩:=y;obtain ⟨ky',vi',vp',vr'⟩:=y';dsimp only at e hv hv' hc hc' q;have e2:=e.symm;subst e2;have n1:ky.val.items.length≤1000:=Nat.le_trans q.ni (by decide);have n2:ky.val.pairs.length≤1000:=Nat.le_trans q.np (by decide);have n3:ky.val.ranks.length≤1000:=Nat.le_trans q.nr (by decide);have hz:∀t∈ky.val.items,t.size≤1048576:=fun t ht=>Nat.le_trans (q.items t ht) (by decide);have cV:∀d os,Calls Tryz.prog 38 #[vlV ky.val.kind ky.val.text vi vp vr,vlV ky.val.kind ky.val.text vi' vp' vr'] (grow (redrawn wr d) os) fun e w''=>e= .returned (.bool true)∧∃p:Regrown,w''=grow (redrawn wr p.d) p.os:=fun d os=>Calls.regrown_of (sameValue_any ky.val vi vp vr vi' vp' vr' _ ((hv.below (below_regrown wr d os)).at hz) ((hv'.below (below_regrown wr d os)).at hz) n1 n2 n3);obtain ⟨c0,c1,c2,c3,c4,c5,c6⟩:=hc;obtain ⟨d0,d1,d2,d3,d4,d5,d6⟩:=hc';dsimp only at c0 c1 c2 c3 c4 c5 c6 d0 d1 d2 d3 d4 d5 d6;clear HW HW' hv hv' q n1 n2 n3 hz;obtain ⟨nm,⟨kd,t,_,_,_⟩,du⟩:=ky;dsimp only at c0 c1 c2 c3 c4 c5 c6 d0 d1 d2 d3 d4 d5 d6 cV;have kc0:=cell_regrown c0;have kc1:=cell_regrown c1;have kc2:=cell_regrown c2;have kc3:=cell_regrown c3;have kc4:=cell_regrown c4;have kc5:=cell_regrown c5;have kc6:=cell_regrown c6;have ke0:=cell_regrown d0;have ke1:=cell_regrown d1;have ke2:=cell_regrown d2;have ke3:=cell_regrown d3;have ke4:=cell_regrown d4;have ke5:=cell_regrown d5;have ke6:=cell_regrown d6;have hk0:(0:Int)≤(k:Int):=by omega
   have hkn:(k:Int)<(n:Int):=by omega
   clear c0 c1 c2 c3 c4 c5 c6 d0 d1 d2 d3 d4 d5 d6;go_wp2;refine wp_region_quiet_below (by kernel_rfl) (by kernel_rfl) ?_;repeat (first|go_big_quiet_skip|quiet_step (first|with_reducible exact cV _ _)|(go_big_quiet_want;go_big_quiet_op;go_big_quiet_on))
   refine wpQuiet_nil ?_;intro _ hw';obtain ⟨⟨dq,osq⟩,hw''⟩:=hw';subst hw'';have bq:=below_regrown wr dq osq;generalize grow (redrawn wr dq) osq=wq at*;go_wp2;go_roundw
   case rel=>exact ⟨k+1,by omega,by go_num,bk.trans (bq.mono sk)⟩
   case measure=>simp [intOf];omega
  ·go_wp2;go_ret;exact ⟨rfl,bk⟩
theorem fetch_at {s:ByteArray} {C:List Cl}:∀{es:List En} {ks:List Ke},fetchM s C es=some ks→∀i,i<es.length→keyOf s C (es.getD i en0)=some (ks.getD i ke0)
 | [],_,_,i,hi=>by simp at hi
 |x::es,ks,h,i,hi=>by
  unfold fetchM at h;split at h
  ·cases h
  ·rename_i k hk;cases hr:fetchM s C es with
   |none=>rw [hr] at h;cases h
   |some ks'=>
    rw [hr] at h;cases h;cases i with
    |zero=>simpa using hk
    |succ i=>simpa using fetch_at hr i (by simpa using hi)
theorem dbOf_law {s:ByteArray} {C:List Cl} {es:List En} {ks:List Ke} (h:dbOfM s C es=some ks):dbOkB ks=true∧ks.length=es.length∧∀i,i<es.length→(getB s C (es.getD i en0).rc (es.getD i en0).rg).2=true∧(⟨(zdj (ks.getD i ke0).val).toArray⟩:ByteArray)=(getB s C (es.getD i en0).rc (es.getD i en0).rg).1:=by
 unfold dbOfM at h;split at h
 ·split at h
  ·cases h
  ·rename_i ks' hf;split at h
   ·rename_i hok;cases h;refine ⟨hok,fetch_len hf,fun i hi=>?_⟩;have hk:=fetch_at hf i hi;unfold keyOf at hk;split at hk
    ·rename_i hb;injection hk with hk;rw [←hk];refine ⟨hb.1,?_⟩;dsimp only;rw [read_bytes _ hb.2]
    ·cases hk
   ·cases h
 ·cases h
end Go.Proofs.YtapdoechmnjaeaaGreatDoor
namespace Go.Proofs.YtapdoechmnjaeaaGreatDoor
open Go.RowKit Go.Sort
open Hp (Cl cl0 Fit CellsIn flatC refV FitH zbb getB heapB zaj)
theorem ksml_fitL {k:Ke} (h:KSml k):Kk.FitL k.val.ranks:=fun x hx=>by
 obtain ⟨_,h1,h2⟩:=h.ranks x hx;exact ⟨by omega,by omega⟩
theorem read_walk (ra:Option Addr) (rn rc:Nat) (w:World) (hn:rn≤9223372036854775807) (hb:BytesIn w ra rn w.heap.size) (hR:Ready w):
  Calls Tryz.prog 3 #[.slice ra rn rc] w fun e w'=>e= .returned (.bool true)∧Below w.heap.size w w':=by
 have HB:Hid (Calls Tryz.prog 5 #[.slice ra rn rc] w fun e w'=>e= .returned (.bool (decide (1048576<rn)))∧w'=w):=big_any ra rn rc w hn;by_cases hbig:1048576<rn
 ·rw [decide_eq_true hbig] at HB;go_enter Tryz.func3,Tryz.ntmps3;go_wp2_with fail;refine HB.out.mono ?_;rintro e w1 ⟨rfl,hw1⟩;have hw2:=hw1.symm;subst hw2;go_wp2;go_ret;exact ⟨rfl,Below.refl _ _⟩
 ·rw [decide_eq_false hbig] at HB;have HD:Hid (Calls Tryz.prog 6 #[.slice ra rn rc] w (DrawEnd w)):=draw_any ra rn rc w hn hb;unfold DrawEnd at HD;clear hb hbig;go_enter Tryz.func3,Tryz.ntmps3;go_wp2_with fail;refine HB.out.mono ?_;rintro e w9 ⟨rfl,hw9⟩;have hw8:=hw9.symm;subst hw8;clear HB;go_wp2_with fail;refine HD.out.mono ?_;rintro e w1 ⟨D,C,v,E,vE,rfl,o1,e1,hF,hE1,hE2,b1⟩;clear HD;obtain ⟨a1,A1,c1,hv1,hcl⟩:=Hp.owns_in o1;obtain ⟨aE,AE,cE,hvE,hen⟩:=ownE_in e1;subst hv1 hvE;obtain ⟨W2,hW2,HW2,b2,rH⟩:=boxed w1 #[.string D,.slice a1 C.length c1] 26;have b2w:Below w.heap.size w W2:=b1.trans (b2.mono b1.size);have HCL:Hid (CellsIn W2 a1 A1 0 C.length C):=zaj hcl b2;have HEN:Hid (EntsIn W2 aE AE 0 E.length E):=hen.below b2;have HFT:Hid (FitH D C):=hF;have HNM:Hid (∀i,i<E.length→(E.getD i en0).name.size≤1048576):=fun i hi=>by have:=hE2 _ (getD_mem E en0 i hi);omega
  have HRD:Hid (∀W,Below w.heap.size w W→Ready W):=fun W hb=>hR.below (hb.mono hR.six);have hlH:=rH.lt;clear hW2 hcl hen o1 e1 hF hE2 b1 b2 hR;obtain ⟨nC,hnC⟩:∃nC,C.length=nC:=⟨_,rfl⟩;obtain ⟨m,hm⟩:∃m,E.length=m:=⟨_,rfl⟩;have HNC:Hid (C.length=nC):=hnC;have HM:Hid (E.length=m):=hm;rw [hnC] at HW2 HCL rH;rw [hm] at HEN HNM hE1;rw [hnC,hm];clear hnC hm;have I7:Hid (Calls Tryz.prog 7 #[.agg #[.string D,.slice a1 nC c1],.slice aE m cE] W2 (FetchEnd W2 (dbOfM D C E))):=implDbOf_any D a1 A1 0 nC c1 C aE AE 0 m cE E W2 HCL.out (fun i hi=>HFT.out.fit i (by rw [HNC.out];exact hi)) HEN.out (by omega) HNM.out (by have:=HFT.out.size;omega) (by have:=HFT.out.len;rw [HNC.out] at this;omega) (HRD.out W2 b2w);have I8:Hid (∀W,Below W2.heap.size W2 W→Calls Tryz.prog 8 #[.agg #[.string D,.slice a1 nC c1],.slice aE m cE] W (FetchEnd W (dbOfM D C E))):=fun W hb=>specDbOf_any D a1 A1 0 nC c1 C aE AE 0 m cE E W (zaj HCL.out hb) (fun i hi=>HFT.out.fit i (by rw [HNC.out];exact hi)) (HEN.out.below hb) (by omega) HNM.out (by have:=HFT.out.size;omega) (by have:=HFT.out.len;rw [HNC.out] at this;omega);have IG:Hid (∀W k,Below W2.heap.size W2 W→∀d os,Calls Tryz.prog 10 #[.agg #[.string D,.slice a1 nC c1],refV (E.getD k en0).rc (E.getD k en0).rg] (grow (redrawn W d) os) fun en w''=>en= .returned (.tuple #[.string (getB D C (E.getD k en0).rc (E.getD k en0).rg).1,.bool (getB D C (E.getD k en0).rc (E.getD k en0).rg).2])∧∃p:Regrown,w''=grow (redrawn W p.d) p.os):=fun W k hb d os=>Calls.regrown_of (Hp.implGet_any D a1 A1 0 nC c1 C (E.getD k en0).rc (E.getD k en0).rg _ (zaj (zaj HCL.out hb) (below_regrown W d os)) (fun i hi=>HFT.out.fit i (by rw [HNC.out];exact hi)));clear HCL HNC;have hmi:m≤1000:=hE1;clear hE1;go_upto_region 4 with fail;rw [HW2.out];clear HW2;generalize w1.heap.size=H at*;obtain ⟨p0,p1⟩:=zbb rH;rcases (show dbOfM D C E=none∨∃ks,dbOfM D C E=some ks by cases dbOfM D C E<;>simp) with hdb|⟨ks,hdb⟩
  ·rw [hdb] at I7 I8;have I9:Hid (∀W,Calls Tryz.prog 9 #[.slice none 0 0,.slice none 0 0] W fun e w'=>e= .returned (.bool true)∧Below W.heap.size W w'):=fun W=>sameDb_any none none 0 0 0 0 0 [] [] W ⟨⟨rfl,fun h=>by omega,fun h=>by omega,fun i hi=>by omega⟩,fun i hi=>by omega⟩ ⟨⟨rfl,fun h=>by omega,fun h=>by omega,fun i hi=>by omega⟩,fun i hi=>by omega⟩ rfl (fun i hi=>by omega) (by omega);clear hdb;go_wp2_with fail;refine I7.out.mono ?_;rintro e w3 ⟨b3,rfl⟩;have rH3:=rH.below b3 hlH;obtain ⟨q0,q1⟩:=zbb rH3;clear p0 p1;go_wp2_with fail;refine (I8.out w3 b3).mono ?_;rintro e w4 ⟨b4,rfl⟩;have b4w:Below W2.heap.size W2 w4:=b3.trans (b4.mono b3.size);clear q0 q1 b3 b4 I7 I8;go_wp2_with fail;refine (I9.out w4).mono ?_;rintro e w5 ⟨rfl,b5⟩;have b5w:Below W2.heap.size W2 w5:=b4w.trans (b5.mono b4w.size);clear b4w b5 I9 rH3;go_wp2_with fail;go_loopw [9] (fun i wr=>∃(k:Nat),k≤m∧i= .int .i64 k∧Below W2.heap.size W2 wr) (fun i _=>m-(intOf i).toNat)
   case atStart=>exact ⟨0,by omega,rfl,b5w⟩
   case round=>
    obtain ⟨k,hk,rfl,bk⟩:=hrel;clear b5w;by_cases hlt:k<m
    ·have hx:=(HEN.out.below bk).cell k hlt;obtain rfl:=HEN.out.addr (by omega);have CG:=IG.out wr k bk;have rk:=rH.below bk hlH;obtain ⟨f0,f1⟩:=zbb rk;generalize E.getD k en0=x at*;obtain ⟨nm,xc,xg,due⟩:=x;obtain ⟨c0,c1',c2,c3⟩:=hx;rw [Nat.zero_add] at c1' c2;dsimp only at c1' c2 CG;generalize getB D C xc xg=G at*;obtain ⟨G1,G2⟩:=G;dsimp only at CG;have kc1:=cell_regrown c1';have kc2:=cell_regrown c2;have kf0:=cell_regrown f0;have kf1:=cell_regrown f1;have hk0:(0:Int)≤(k:Int):=by omega
     have hkn:(k:Int)<(m:Int):=by omega
     clear c0 c1' c2 c3 f0 f1 rk;go_upto_region 11 with fail;refine wp_region_quiet_below (by kernel_rfl) (by kernel_rfl) ?_;repeat (first|go_big_quiet_skip|quiet_step (first|with_reducible exact CG _ _))
     refine wpQuiet_nil ?_;intro _ hw';obtain ⟨⟨dq,osq⟩,hw''⟩:=hw';subst hw'';have bq:=below_regrown wr dq osq;generalize grow (redrawn wr dq) osq=w6 at*;have b6:=bk.trans (bq.mono bk.size);clear kc1 kc2 kf0 kf1 CG bq;cases G2;all_goals
      go_wp2;go_roundw
      case rel=>exact ⟨k+1,by omega,by go_num,b6⟩
      case measure=>simp [intOf];omega
    ·go_wp2;go_ret;exact ⟨rfl,b2w.trans (bk.mono b2w.size)⟩
  ·obtain ⟨hok,hlen,hall⟩:=dbOf_law hdb;rw [hdb] at I7 I8;rw [HM.out] at hlen hall;have HOK:Hid (dbOkB ks=true):=hok;have HLEN:Hid (ks.length=m):=hlen;have HALL:Hid (∀i,i<m→(getB D C (E.getD i en0).rc (E.getD i en0).rg).2=true∧(⟨(zdj (ks.getD i ke0).val).toArray⟩:ByteArray)=(getB D C (E.getD i en0).rc (E.getD i en0).rg).1):=hall;clear hdb hok hlen hall;go_wp2_with fail;refine I7.out.mono ?_;rintro e w3 ⟨b3,v3,L3,rfl,hk3,ho3,hs3⟩;have rH3:=rH.below b3 hlH;obtain ⟨q0,q1⟩:=zbb rH3;clear p0 p1;obtain ⟨a3,A3,c3,hv3,hat3⟩:=ho3.at;subst hv3;have hl3:L3.length=m:=by have:=congrArg List.length hk3;rw [List.length_map,HLEN.out] at this;exact this
   rw [hl3] at hat3;rw [hl3];go_wp2_with fail;refine (I8.out w3 b3).mono ?_;rintro e w4 ⟨b4,v4,L4,rfl,hk4,ho4,hs4⟩;obtain ⟨a4,A4,c4,hv4,hat4⟩:=ho4.at;subst hv4;have hl4:L4.length=m:=by have:=congrArg List.length hk4;rw [List.length_map,HLEN.out] at this;exact this
   rw [hl4] at hat4;rw [hl4];have HK3:Hid (∀i,i<m→KSml (L3.getD i kv0).key):=fun i hi=>ksml_of ((dbOk_key HOK.out).2 _ (by rw [←hk3];exact List.mem_map.2 ⟨_,getD_mem L3 kv0 i (by rw [hl3];exact hi),rfl⟩));have I9:Hid (Calls Tryz.prog 9 #[.slice a3 m c3,.slice a4 m c4] w4 fun e w'=>e= .returned (.bool true)∧Below w4.heap.size w4 w'):=sameDb_any a3 a4 A3 A4 m c3 c4 L3 L4 w4 (hat3.below b4) hat4 (by rw [hk3,hk4]) HK3.out hmi;have b4w:Below W2.heap.size W2 w4:=b3.trans (b4.mono b3.size);have HAT:Hid (DbAt w4 a3 A3 m L3):=hat3.below b4;have HKE:Hid (∀i,(ks.getD i ke0)=(L3.getD i kv0).key):=fun i=>by rw [←hk3];exact key_at L3 i
   have HDK:Hid (∀W,Below w.heap.size w W→Below w4.heap.size w4 W→Calls Tryz.prog 12 #[.slice a3 m c3] W fun e w'=>e= .returned (.bool true)∧Below W.heap.size W w'):=fun W hb hb4=>by
    have:=implDbOk_any a3 A3 m c3 L3 W (HAT.out.below hb4) hs3 (by omega) (HRD.out W hb);rw [hk3,HOK.out] at this;exact this
   have HVB:Hid (∀W i,Below w.heap.size w W→Below w4.heap.size w4 W→i<m→Calls Tryz.prog 11 #[vlV (L3.getD i kv0).key.val.kind (L3.getD i kv0).key.val.text (L3.getD i kv0).vi (L3.getD i kv0).vp (L3.getD i kv0).vr] W fun e w'=>e= .returned (.string (getB D C (E.getD i en0).rc (E.getD i en0).rg).1)∧Below W.heap.size W w'):=fun W i hb hb4 hi=>by
    obtain ⟨β,hv⟩:=(HAT.out.below hb4).val i hi;have q:=HK3.out i hi;have:=implBytes_any (L3.getD i kv0).key.val (L3.getD i kv0).vi (L3.getD i kv0).vp (L3.getD i kv0).vr β W hv q.fit.fit (by have:=q.np;omega) (ksml_fitL q) (HRD.out W hb);rw [←HKE.out i,(HALL.out i hi).2] at this;rw [←HKE.out i];exact this
   clear q0 q1 b3 b4 I7 I8 hat3 hat4 hk3 hk4 ho3 ho4 hs3 hs4 hl3 hl4 HK3 HKE;go_wp2_with fail;refine I9.out.mono ?_;rintro e w5 ⟨rfl,b5⟩;have b5w:Below W2.heap.size W2 w5:=b4w.trans (b5.mono b4w.size);clear I9 rH3;go_wp2_with fail;go_loopw [9] (fun i wr=>∃(k:Nat),k≤m∧i= .int .i64 k∧Below W2.heap.size W2 wr∧Below w4.heap.size w4 wr) (fun i _=>m-(intOf i).toNat)
   case atStart=>exact ⟨0,by omega,rfl,b5w,b5⟩
   case round=>
    obtain ⟨k,hk,rfl,bk,bk4⟩:=hrel;clear b5w b5;have bkw:=b2w.trans (bk.mono b2w.size);by_cases hlt:k<m
    ·have hx:=(HEN.out.below bk).cell k hlt;obtain rfl:=HEN.out.addr (by omega);have CG:=IG.out wr k bk;have VB:=fun W hb hb4=>HVB.out W k hb hb4 hlt;have hthere:=(HALL.out k hlt).1;have rk:=rH.below bk hlH;obtain ⟨f0,f1⟩:=zbb rk;have hky:=fun W (hb4:Below w4.heap.size w4 W)=> (HAT.out.below hb4).ks.cell k hlt;obtain rfl:=HAT.out.ks.addr (by omega);generalize E.getD k en0=x at*;obtain ⟨nm,xc,xg,due⟩:=x;obtain ⟨c0,c1',c2,c3'⟩:=hx;rw [Nat.zero_add] at c1' c2;dsimp only at c1' c2 CG VB hthere;generalize getB D C xc xg=G at*;obtain ⟨G1,G2⟩:=G;dsimp only at CG VB hthere;subst hthere;generalize L3.getD k kv0=y at*;obtain ⟨⟨yn,⟨yk,yt,yi,yp,yr⟩,yd⟩,vi,vp,vr⟩:=y;have HKY:Hid (∀W,Below w4.heap.size w4 W→KeAt W A3 (k*7) ⟨⟨yn,⟨yk,yt,yi,yp,yr⟩,yd⟩,vi,vp,vr⟩):=hky;have HV:Hid (∀W,Below w.heap.size w W→Below w4.heap.size w4 W→Calls Tryz.prog 11 #[.agg #[.int .i64 yk,.string yt,vi,vp,vr]] W fun e w'=>e= .returned (.string G1)∧Below W.heap.size W w'):=VB;clear hky VB;have kc1:=cell_regrown c1';have kc2:=cell_regrown c2;have kf0:=cell_regrown f0;have kf1:=cell_regrown f1;have hk0:(0:Int)≤(k:Int):=by omega
     have hkn:(k:Int)<(m:Int):=by omega
     clear c0 c1' c2 c3' f0 f1 rk;go_upto_region 11 with fail;refine wp_region_quiet_below (by kernel_rfl) (by kernel_rfl) ?_;repeat (first|go_big_quiet_skip|quiet_step (first|with_reducible exact CG _ _))
     refine wpQuiet_nil ?_;intro _ hw';obtain ⟨⟨dq,osq⟩,hw''⟩:=hw';subst hw'';have bq:=below_regrown wr dq osq;generalize grow (redrawn wr dq) osq=w6 at*;have b6:=bk.trans (bq.mono bk.size);have b64:=bk4.trans (bq.mono bk4.size);have b6w:=bkw.trans (bq.mono bkw.size);obtain ⟨y0,y1,y2,y3,y4,y5,y6⟩:=HKY.out w6 b64;dsimp only at y1 y2 y3 y4 y5;clear kc1 kc2 kf0 kf1 CG bq HKY;go_wp2_with fail;refine (HV.out w6 b6w b64).mono ?_;rintro e w7 ⟨rfl,b7⟩;have b7a:=b6.trans (b7.mono b6.size);have b7b:=b64.trans (b7.mono b64.size);clear y0 y1 y2 y3 y4 y5 y6 HV b7;go_wp2;go_roundw
     case rel=>exact ⟨k+1,by omega,by go_num,b7a,b7b⟩
     case measure=>simp [intOf];omega
    ·have HD12:=HDK.out wr bkw bk4;clear HVB HALL;go_wp2_with fail;refine HD12.mono ?_;rintro e w8 ⟨rfl,b8⟩;have b8w:=bkw.trans (b8.mono bkw.size);go_wp2;go_ret;exact ⟨rfl,b8w⟩
end Go.Proofs.YtapdoechmnjaeaaGreatDoor
