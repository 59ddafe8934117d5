import Derived.Test.YtjpeglkkkllagaaGreatDoorLM
import Derived.Test.YtjpeglkkkllagaaGreatDoorAb
import Derived.Test.YtjpeglkkkllagaaGreatDoorDn
import Derived.Deep.RegionHeld3
import Derived.Deep.Cut
set_option maxHeartbeats 16000000
set_option maxRecDepth 100000
namespace Go.Proofs.YtjpeglkkkllagaaGreatDoor
open Go.RowKit Go.Sort
open Hp (Cl cl0 Fit CellsIn flatC refV PutEnd putD putL putRc putRg putOk FitH zbb own_ne)
theorem own_set2 {W:World} {B q n:Nat} {e T:TypeId} {size:Nat} {v x y:Value} {xs:List Value} {C:Array Value} (h:W.ownsRow B e size v n xs) (hr:RowAt W q T C) (hT:T≠e):((W.setCell ⟨q,0,none⟩ x).setCell ⟨q,1,none⟩ y).ownsRow B e size v n xs:=by
 have n1:=own_ne h hr hT;exact ownsRow_setCell_other (ownsRow_setCell_other h (fun e=>n1 e.symm) _) (fun e=>n1 e.symm) _
theorem grS {w W:World} {S j:Nat} (h:w.grownBy W (some S)) (u:Value):w.grownBy (W.setCell ⟨S,j,none⟩ u) (some S):=
 ⟨h.os,h.tape,h.output,by simp [World.setCell];exact h.size,fun k hk hne=> (Below.heap_setCell _ _ _ _ (fun e=>hne (by rw [e]))).trans (h.block k hk hne)⟩
theorem grN {w W:World} {S q j:Nat} (h:w.grownBy W (some S)) (hq:w.heap.size≤q) (u:Value):w.grownBy (W.setCell ⟨q,j,none⟩ u) (some S):=
 ⟨h.os,h.tape,h.output,by simp [World.setCell];exact h.size,fun k hk hne=> (Below.heap_setCell _ _ _ _ (fun e=>by have:k=q:=e;omega)).trans (h.block k hk hne)⟩
theorem below_g1 {w W w':World} {X:Nat} (h1:Below w.heap.size w W) (hg:W.grownBy w' (some X)) (hX:w.heap.size≤X):Below w.heap.size w w':=
 ⟨hg.os.trans h1.os,hg.tape.trans h1.tape,hg.output.trans h1.output,Nat.le_trans h1.size hg.size,fun k hk=> (hg.block k (Nat.lt_of_lt_of_le hk h1.size) (fun e=>by cases e;omega)).trans (h1.block k hk)⟩
theorem grO {w W:World} {S:Nat} (h:Below w.heap.size w W):w.grownBy W (some S):=⟨h.os,h.tape,h.output,h.size,fun k hk _=>h.block k hk⟩
theorem shelfPut_any (S:Nat) (s x:ByteArray) (v:Value) (C:List Cl) (B:Nat) (w:World) (hS:RowAt w S 50 #[.string s,v]) (ho:w.ownsRow B 84 4 v C.length (flatC C)) (hf:FitH s C) (hx:x.size≤21000):
  Calls Tryz.prog 182 #[.pointer (some ⟨S,0,none⟩),.string x] w fun e w'=>∃a n c,e= .returned (.tuple #[refV (putRc s C x) (putRg s C x),.bool (putOk s C x)])∧RowAt w' S 50 #[.string (putD s C x),.slice a n c]∧w'.ownsRow w.heap.size 84 4 (.slice a n c) (putL s C x).length (flatC (putL s C x))∧w.grownBy w' (some S):=by
 obtain ⟨a,A,c,ev,hc⟩:=Hp.owns_in ho;subst ev;obtain ⟨W0,hW0,HW0,b0,r0⟩:=boxed w #[.int .i64 0,.int .i64 0] 55;have PT:Hid (Calls Tryz.prog 184 #[.agg #[.string s,.slice a C.length c],.string x] W0 (PutEnd W0 s C x)):=Hp.implPut_any s x a A 0 C.length c C W0 (Hp.zaj hc b0) (fun i hi=>hf.fit i hi) (by omega);unfold PutEnd at PT;have hS0:=hS.below b0 hS.lt;have hlt:=hS.lt;generalize C.length=n at*;obtain ⟨p0,p1⟩:=zbb hS0;clear hW0 ho hf hc hS;generalize putD s C x=D at*;generalize putL s C x=M at*;generalize putRc s C x=rc at*;generalize putRg s C x=rg at*;generalize putOk s C x=ok at*;obtain ⟨m,hm⟩:∃m,M.length=m:=⟨_,rfl⟩;rw [hm] at PT;rw [hm];clear hm;go_enter Tryz.func182,Tryz.ntmps182;go_upto_region 1 with fail;rw [HW0.out];clear HW0;go_wp2_with fail;refine PT.out.mono ?_;rintro e w1 ⟨v1,rfl,o1,b1⟩;obtain ⟨a1,A1,c1,hv1,_⟩:=form_any o1;subst hv1;have hS1:=hS0.below b1 hS0.lt;have r1:=r0.below b1 r0.lt;have b01:Below w.heap.size w w1:=b0.trans (b1.mono b0.size);obtain ⟨W2,hW2,HW2,b2,q2⟩:=boxed w1 #[.string D,.slice a1 m c1] 29;obtain ⟨W3,hW3,HW3,b3,q3⟩:=boxed W2 #[.int .i64 rc,.int .i64 rg] 55;have e2:W2.heap.size=w1.heap.size+1:=by rw [←hW2];simp
 rw [e2] at q3;have hS3:=(hS1.below b2 hS1.lt).below b3 (hS1.below b2 hS1.lt).lt;have r3:=(r1.below b2 r1.lt).below b3 (r1.below b2 r1.lt).lt;have q23:=q2.below b3 q2.lt;have o3:=zaf (zaf o1 b2) b3;have b03:Below w.heap.size w W3:=(b01.trans (b2.mono b01.size)).trans (b3.mono (b01.trans (b2.mono b01.size)).size);have hs1:=b1.size;have hs0:=b0.size;have hr1:=r1.lt;clear hW2 hW3 e2 hS1 r1 b1 b2 b3 q2 o1 PT b01 hS0 r0 b0;have o3':W3.ownsRow W0.heap.size 84 4 (.slice a1 m c1) m (flatC M):=o3;clear o3;go_upto_region 2 with fail;rw [HW2.out,HW3.out];clear HW2 HW3;generalize w1.heap.size=Q at*;obtain ⟨y0,y1⟩:=zbb q23;obtain ⟨z0,z1⟩:=zbb hS3;have f0:=hS3.frozen 0;have f1:=hS3.frozen 1;have hSq:S≠Q+1:=by omega
 have hSr:S≠w.heap.size:=by omega
 obtain ⟨W4,hW4⟩:∃W4,(W3.setCell ⟨S,0,none⟩ (.string D)).setCell ⟨S,1,none⟩ (.slice a1 m c1)=W4:=⟨_,rfl⟩;have HW4:Hid ((W3.setCell ⟨S,0,none⟩ (.string D)).setCell ⟨S,1,none⟩ (.slice a1 m c1)=W4):=hW4;have hS4:RowAt W4 S 50 #[.string D,.slice a1 m c1]:=by rw [←hW4];exact hS3.both
 have q4:RowAt W4 (Q+1) 55 #[.int .i64 rc,.int .i64 rg]:=by rw [←hW4];exact q3.skip (Ne.symm hSq)
 have r4:RowAt W4 w.heap.size 55 #[.int .i64 0,.int .i64 0]:=by rw [←hW4];exact r3.skip (Ne.symm hSr)
 have o4:W4.ownsRow W0.heap.size 84 4 (.slice a1 m c1) m (flatC M):=by rw [←hW4];exact own_set2 o3' hS3 (by decide)
 have g4:w.grownBy W4 (some S):=by rw [←hW4];exact grS (grS (grO b03) _) _
 clear hW4 hS3 q3 r3 o3' b03 q23;go_upto_region 3 with fail;rw [HW4.out];clear HW4 y0 y1 z0 z1 f0 f1;obtain ⟨y0,y1⟩:=zbb q4;obtain ⟨z0,z1⟩:=zbb r4;have f0:=r4.frozen 0;have f1:=r4.frozen 1;have HF:Hid (RowAt ((W4.setCell ⟨w.heap.size,0,none⟩ (.int .i64 rc)).setCell ⟨w.heap.size,1,none⟩ (.int .i64 rg)) S 50 #[.string D,.slice a1 m c1]∧((W4.setCell ⟨w.heap.size,0,none⟩ (.int .i64 rc)).setCell ⟨w.heap.size,1,none⟩ (.int .i64 rg)).ownsRow w.heap.size 84 4 (.slice a1 m c1) m (flatC M)∧w.grownBy ((W4.setCell ⟨w.heap.size,0,none⟩ (.int .i64 rc)).setCell ⟨w.heap.size,1,none⟩ (.int .i64 rg)) (some S)):=
  ⟨hS4.skip hSr,Go.Joins.ownsRow_le (own_set2 o4 r4 (by decide)) hs0,grN (grN g4 (Nat.le_refl _) _) (Nat.le_refl _) _⟩
 obtain ⟨k0,k1⟩:=zbb (RowAt.both (x:= .int .i64 rc) (y:= .int .i64 rg) r4);clear hS4 q4 r4 o4 g4;go_wp2;exact bodyPost_ret (v:= .tuple #[.agg #[.int .i64 rc,.int .i64 rg],.bool ok]) (by simp [results,Tryz.results182,go_sem,k0,k1]) rfl ⟨a1,m,c1,rfl,HF.out⟩
theorem scalePut_any (S:Nat) (x:ByteArray) (z:Nat) (w:World) (hS:RowAt w S 69 #[.int .i64 (z:Int)]) (hx:x.size≤21000) (hz:z≤1000000000):
  Calls Tryz.prog 188 #[.pointer (some ⟨S,0,none⟩),.string x] w fun e w'=>e= .returned (.tuple #[refV 0 0,.bool true])∧RowAt w' S 69 #[.int .i64 ((z:Int)+(x.size:Int))]∧w.grownBy w' (some S):=by
 obtain ⟨W0,hW0,HW0,b0,r0⟩:=boxed w #[.int .i64 0,.int .i64 0] 55;have hS0:=hS.below b0 hS.lt;have hlt:=hS.lt;have p0:W0.cell? ⟨S,0,none⟩=some (.int .i64 (z:Int)):=hS0.cell 0;have g0:=hS0.frozen 0;have hSr:S≠w.heap.size:=by omega
 obtain ⟨zz,hzz⟩:∃zz:Int,(z:Int)+(x.size:Int)=zz:=⟨_,rfl⟩;have HZZ:Hid ((z:Int)+(x.size:Int)=zz):=hzz;obtain ⟨W1,hW1⟩:∃W1,W0.setCell ⟨S,0,none⟩ (.int .i64 zz)=W1:=⟨_,rfl⟩;have HW1:Hid (W0.setCell ⟨S,0,none⟩ (.int .i64 zz)=W1):=hW1;have hS1:RowAt W1 S 69 #[.int .i64 zz]:=by rw [←hW1];exact hS0.set 0 _
 have r1:RowAt W1 w.heap.size 55 #[.int .i64 0,.int .i64 0]:=by rw [←hW1];exact (Below.heap_setCell _ _ _ _ (fun e=>hSr (by have:w.heap.size=S:=e;omega))).trans r0
 have g1:w.grownBy W1 (some S):=by rw [←hW1];exact grS (grO b0) _
 clear hW0 hW1 hS0 r0 b0 hS hzz;go_enter Tryz.func188,Tryz.ntmps188;go_upto_region 1 with fail;rw [HW0.out];clear HW0;go_upto_region 2 with fail;rw [HZZ.out,HW1.out];clear HW1 p0 g0;obtain ⟨z0,z1⟩:=zbb r1;have f0:=r1.frozen 0;have f1:=r1.frozen 1;have HF:Hid (RowAt ((W1.setCell ⟨w.heap.size,0,none⟩ (.int .i64 0)).setCell ⟨w.heap.size,1,none⟩ (.int .i64 0)) S 69 #[.int .i64 ((z:Int)+(x.size:Int))]∧w.grownBy ((W1.setCell ⟨w.heap.size,0,none⟩ (.int .i64 0)).setCell ⟨w.heap.size,1,none⟩ (.int .i64 0)) (some S)):=
  ⟨by rw [HZZ.out];exact hS1.skip hSr,grN (grN g1 (Nat.le_refl _) _) (Nat.le_refl _) _⟩
 obtain ⟨k0,k1⟩:=zbb (RowAt.both (x:= .int .i64 0) (y:= .int .i64 0) r1);clear hS1 r1 g1 HZZ;go_wp2;exact bodyPost_ret (v:= .tuple #[.agg #[.int .i64 0,.int .i64 0],.bool true]) (by simp [results,Tryz.results188,go_sem,k0,k1]) rfl ⟨rfl,HF.out⟩
end Go.Proofs.YtjpeglkkkllagaaGreatDoor
namespace Go.Proofs.YtjpeglkkkllagaaGreatDoor
open Go.RowKit Go.Sort
open Hp (Cl cl0 Fit CellsIn flatC refV putD putL putRc putRg putOk FitH zbb own_ne put_fit)
theorem na48 (p:Addr) (W:World):(nilAhead 365 48 (.pointer (some p)) "loop.example/g00302/impl.put").run Tryz.prog W= .ok (some false) W:=by kernel_rfl
theorem na70 (p:Addr) (W:World):(nilAhead 365 70 (.pointer (some p)) "loop.example/g00302/impl.put").run Tryz.prog W= .ok (some false) W:=by kernel_rfl
theorem mt48 (p:Addr) (W:World):(method 365 48 (.pointer (some p)) "loop.example/g00302/impl.put").run Tryz.prog W= .ok (182,.pointer (some p)) W:=by kernel_rfl
theorem mt70 (p:Addr) (W:World):(method 365 70 (.pointer (some p)) "loop.example/g00302/impl.put").run Tryz.prog W= .ok (188,.pointer (some p)) W:=by kernel_rfl
theorem row_grown {w w':World} {S g:Nat} {T U:TypeId} {C D:Array Value} (h:RowAt w g T C) (hS:RowAt w S U D) (hT:T≠U) (hg:w.grownBy w' (some S)):RowAt w' g T C:=
 (hg.block g h.lt (fun e=>by cases e;have:=h.symm.trans hS;simp at this;exact hT this.2)).trans h
theorem own_grownS {w w':World} {S B n:Nat} {e U:TypeId} {size:Nat} {v:Value} {xs:List Value} {D:Array Value} (h:w.ownsRow B e size v n xs) (hS:RowAt w S U D) (hT:U≠e) (hg:w.grownBy w' (some S)):w'.ownsRow B e size v n xs:=
 zai h fun g hu=>by
  have n1:=own_ne h hS hT;exact hg.block g (own_lt h hu).2 (fun e=>n1 (by rw [hu,e]))
structure LyS (w0:World) (S:Nat) (s:ByteArray) (C:List Cl) (v:Value) (E:List En) (vE:Value) (W:World):Prop where
 bel:Below w0.heap.size w0 W
 row:RowAt W S 50 #[.string s,v]
 own:W.ownsRow w0.heap.size 84 4 v C.length (flatC C)
 ent:OwnE W w0.heap.size vE E
theorem LyS.below {w0:World} {S:Nat} {s:ByteArray} {C:List Cl} {v:Value} {E:List En} {vE:Value} {W W':World} (h:LyS w0 S s C v E vE W) (hb:Below W.heap.size W W'):LyS w0 S s C v E vE W':=
 ⟨h.bel.trans (hb.mono h.bel.size),h.row.below hb h.row.lt,zaf h.own hb,zaf h.ent hb⟩
theorem LyS.put {w0:World} {S:Nat} {s:ByteArray} {C:List Cl} {v:Value} {s':ByteArray} {C':List Cl} {v':Value} {E:List En} {vE:Value} {W W':World} (h:LyS w0 S s C v E vE W) (hS:w0.heap.size≤S) (hr:RowAt W' S 50 #[.string s',v']) (ho:W'.ownsRow w0.heap.size 84 4 v' C'.length (flatC C')) (hg:W.grownBy W' (some S)):LyS w0 S s' C' v' E vE W':=
 ⟨below_g1 h.bel hg hS,hr,ho,own_grownS h.ent h.row (by decide) hg⟩
theorem LyS.ents {w0:World} {S:Nat} {s:ByteArray} {C:List Cl} {v:Value} {E E':List En} {vE vE':Value} {W W':World} (h:LyS w0 S s C v E vE W) (ho:OwnE W' w0.heap.size vE' E') (hg:W.grownBy W' vE.ownBlock):LyS w0 S s C v E' vE' W':=by
 have n1:=own_ne h.ent h.row (by decide);have hlow:∀y,vE.ownBlock=some y→w0.heap.size≤y:=fun y hy=> (h.ent.lt y hy).1;have bw:Below w0.heap.size W W':=⟨hg.os,hg.tape,hg.output,hg.size,fun k hk=>hg.block k (by have:=h.bel.size;omega) (fun e=>by have:=hlow k e.symm;omega)⟩;exact ⟨h.bel.trans bw,(hg.block S h.row.lt n1).trans h.row,kept_other h.ent h.own hg (by decide),ho⟩
structure LbS (w0:World) (S:Nat) (s:ByteArray) (C:List Cl) (v:Value) (E:List En) (vE:Value) (X:Nat) (K:Array Value) (W:World):Prop where
 st:LyS w0 S s C v E vE W
 box:RowAt W X 65 K
section
variable {w0 : World} {S : Nat} {s : ByteArray} {C : List Cl} {v : Value} {E : List En} {vE : Value} {X : Nat} {K : Array Value} {W W' : World}
theorem LbS.below (h:LbS w0 S s C v E vE X K W) (hb:Below W.heap.size W W'):LbS w0 S s C v E vE X K W':=⟨h.st.below hb,h.box.below hb h.box.lt⟩
theorem LbS.alloc (h:LbS w0 S s C v E vE X K W) (o:Obj):LbS w0 S s C v E vE X K (W.alloc o):=h.below ((Below.refl _ W).alloc (Nat.le_refl _) o)
theorem LbS.drew (h:LbS w0 S s C v E vE X K W):LbS w0 S s C v E vE X K W.drew:=h.below (Below.refl _ W).drew
theorem LbS.set {q:Nat} {R:Array Value} {x y:Value} (h:LbS w0 S s C v E vE X K W) (hr:RowAt W q 55 R) (hq:w0.heap.size≤q):LbS w0 S s C v E vE X K ((W.setCell ⟨q,0,none⟩ x).setCell ⟨q,1,none⟩ y):=by
 have n1:S≠q:=fun e=>by subst e;have:=h.st.row.symm.trans hr;simp at this
 have n2:X≠q:=fun e=>by subst e;have:=h.box.symm.trans hr;simp at this
 exact ⟨⟨(h.st.bel.setCell (p:=⟨q,0,none⟩) (by simp only;omega) _).setCell (p:=⟨q,1,none⟩) (by simp only;omega) _,h.st.row.skip n1,own_set2 h.st.own hr (by decide),own_set2 h.st.ent hr (by decide)⟩,h.box.skip n2⟩
end
theorem LbS.kp {w0:World} {S:Nat} {s:ByteArray} {C:List Cl} {v:Value} {E:List En} {vE:Value} {X:Nat} {W:World} {nm tx:ByteArray} {kd due:Int} {vi vp vr:Value} (h:LbS w0 S s C v E vE X (kC nm kd tx vi vp vr due) W):W.cell? ⟨X,1,none⟩=some (.int .i64 kd)∧W.cell? ⟨X,2,none⟩=some (.string tx)∧W.cell? ⟨X,3,none⟩=some vi∧W.cell? ⟨X,4,none⟩=some vp∧W.cell? ⟨X,5,none⟩=some vr:=⟨h.box.cell 1,h.box.cell 2,h.box.cell 3,h.box.cell 4,h.box.cell 5⟩
def LayS (w0:World) (S:Nat) (T:LdT) (e:Ending) (w':World):Prop:=Below w0.heap.size w0 w'∧((T=none∧e= .returned (.tuple #[.slice none 0 0,.bool false]))∨∃s C v E vE,T=some (s,C,E)∧e= .returned (.tuple #[vE,.bool true])∧LyS w0 S s C v E vE w')
theorem layS_any (w0:World) (L:List KV) (a:Option Addr) (A c:Nat) (hda:DbAt w0 a A L.length L) (hsm:Small L) (hl:L.length≤1000) (hR:Ready w0) (S:Nat) (s0:ByteArray) (w:World) (hw:Below w0.heap.size w0 w) (hS:w0.heap.size≤S) (hrow:RowAt w S 50 #[.string s0,.slice none 0 0]) (hf0:FitH s0 []):
  Calls Tryz.prog 21 #[.iface 48 (.pointer (some ⟨S,0,none⟩)),.slice a L.length c] w fun e w'=>LayS w0 S (if dbOkB (L.map KV.key)=true then laidF s0 [] [] (L.map KV.key) else none) e w':=by
 obtain ⟨T,hT⟩:∃T,(if dbOkB (L.map KV.key)=true then laidF s0 [] [] (L.map KV.key) else none)=T:=⟨_,rfl⟩;have HT1:Hid (dbOkB (L.map KV.key)=false→T=none):=fun h=>by rw [←hT,if_neg (by simp [h])]
 have HT3:Hid (dbOkB (L.map KV.key)=true→T=laidF s0 [] [] ((L.map KV.key).drop 0)):=fun h=>by rw [←hT,if_pos h];rfl
 have HSTEP:Hid (∀s C E k,k<L.length→T=laidF s C E ((L.map KV.key).drop k)→(putOk s C (layX (L.getD k kv0).key)=false→T=none)∧(putOk s C (layX (L.getD k kv0).key)=true→T=laidF (putD s C (layX (L.getD k kv0).key)) (putL s C (layX (L.getD k kv0).key)) (E++ [⟨(L.getD k kv0).key.name,putRc s C (layX (L.getD k kv0).key),putRg s C (layX (L.getD k kv0).key),(L.getD k kv0).key.due⟩]) ((L.map KV.key).drop (k+1)))):=fun s C E k hk h=>laid_step hk h;have HEND:Hid (∀s C E,T=laidF s C E ((L.map KV.key).drop L.length)→T=some (s,C,E)):=fun s C E h=>h.trans (laid_end L s C E);have HF0:Hid (FitH s0 []):=hf0;rw [hT];clear hT hf0;have RD:Hid (∀W,Below w0.heap.size w0 W→Ready W):=fun W hb=>hR.below (hb.mono hR.six);have HD:Hid (Calls Tryz.prog 27 #[.slice a L.length c] w fun e w'=>e= .returned (.bool (dbOkB (L.map KV.key)))∧Below w.heap.size w w'):=implDbOk_any a A L.length c L w (hda.below hw) hsm (by omega) (RD.out w hw);have HKS:Hid (KsIn w0 a A L.length L):=hda.ks;have HVB:Hid (∀W k,Below w0.heap.size w0 W→k<L.length→Calls Tryz.prog 42 #[vlV (L.getD k kv0).key.val.kind (L.getD k kv0).key.val.text (L.getD k kv0).vi (L.getD k kv0).vp (L.getD k kv0).vr] W fun e w'=>e= .returned (.string (layX (L.getD k kv0).key))∧Below W.heap.size W w'):=fun W k hb hk=>by
  obtain ⟨B',hv⟩:=(hda.below hb).val k hk;have hk':=(hsm k hk).1;exact implBytes_any _ _ _ _ B' W hv hk'.fit hk'.np hk'.nums (RD.out W hb)
 have HST0:Hid (∀W,Below w.heap.size w W→LyS w0 S s0 [] (.slice none 0 0) [] (.slice none 0 0) W):=fun W hb=>⟨hw.trans (hb.mono hw.size),hrow.below hb hrow.lt,World.ownsRow_nil _ _ _ _,World.ownsRow_nil _ _ _ _⟩;have HVO:Hid (∀k,k<L.length→∃a1 n1 k1 a2 n2 k2 a3 n3 k3,(L.getD k kv0).vi= .slice a1 n1 k1∧(L.getD k kv0).vp= .slice a2 n2 k2∧(L.getD k kv0).vr= .slice a3 n3 k3):=fun k hk=>by
  obtain ⟨B',hv⟩:=hda.val k hk;obtain ⟨a1,k1,e1⟩:=zad hv.items;obtain ⟨a2,k2,e2⟩:=zad hv.pairs;obtain ⟨a3,k3,e3⟩:=zad hv.ranks;exact ⟨a1,_,k1,a2,_,k2,a3,_,k3,e1,e2,e3⟩
 have HX21:Hid (∀k,(layX (L.getD k kv0).key).size≤21000):=fun k=>vb_size _;clear hda hsm hrow RD;generalize dbOkB (L.map KV.key)=ok at*;generalize hKK:L.map KV.key=KK at HT3 HSTEP HEND;clear hKK;obtain ⟨n,hn⟩:∃n,L.length=n:=⟨_,rfl⟩;rw [hn] at HD HKS HVB HVO hl HSTEP HEND;rw [hn];clear hn;go_enter Tryz.func21,Tryz.ntmps21;go_wp2_with fail;refine HD.out.mono ?_;rintro e w1 ⟨rfl,b1⟩;have HST1:Hid (LyS w0 S s0 [] (.slice none 0 0) [] (.slice none 0 0) w1):=HST0.out w1 b1;clear HST0 HD b1;cases ok with
 |false=>
  have HF:Hid (LayS w0 S T (.returned (.tuple #[.slice none 0 0,.bool false])) w1):=⟨HST1.out.bel,.inl ⟨HT1.out rfl,rfl⟩⟩;clear HST1;go_wp2;go_ret2;exact HF.out
 |true=>
  have HT4:Hid (T=laidF s0 [] [] (KK.drop 0)):=HT3.out rfl;clear HT1 HT3;go_wp2_with fail;go_loopw [6,16] (fun vE i wr=>∃(k:Nat) (s:ByteArray) (C:List Cl) (v:Value) (E:List En),k≤n∧i= .int .i64 k∧E.length=k∧Hid (FitH s C)∧Hid (T=laidF s C E (KK.drop k))∧Hid (LyS w0 S s C v E vE wr)) (fun _ i _=>n-(intOf i).toNat)
  case atStart=>exact ⟨0,s0,[],_,[],by omega,rfl,rfl,HF0,HT4,HST1⟩
  case round=>
   obtain ⟨k,s,C,v,E,hk,rfl,hEk,HFT,HTK,HST⟩:=hrel;clear HST1 HT4 HF0;by_cases hlt:k<n
   ·have hx0:=(HKS.out.below HST.out.bel).cell k hlt;obtain rfl:=HKS.out.addr (by omega);have hX0:=HX21.out k;obtain ⟨a1,n1,k1,a2,n2,k2,a3,n3,k3,hi1,hi2,hi3⟩:=HVO.out k hlt;have VB0:=fun W (hb:Below w0.heap.size w0 W)=>HVB.out W k hb hlt;have HSP:=HSTEP.out s C E k hlt HTK.out;generalize L.getD k kv0=x at*;obtain ⟨⟨nm,⟨kd,tx,xi,xp,xr⟩,due⟩,vi,vp,vr⟩:=x;obtain ⟨c0,c1,c2,c3,c4,c5,c6⟩:=hx0;dsimp only at c0 c1 c2 c3 c4 c5 c6 VB0 hX0 hi1 hi2 hi3 HSP;subst hi1 hi2 hi3;generalize layX ⟨nm,⟨kd,tx,xi,xp,xr⟩,due⟩=X at*;have HSP1:Hid (putOk s C X=false→T=none):=HSP.1;have HSP2:Hid (putOk s C X=true→T=laidF (putD s C X) (putL s C X) (E++ [⟨nm,putRc s C X,putRg s C X,due⟩]) (KK.drop (k+1))):=HSP.2;clear HSP HSTEP HTK;have VB:Hid (∀W,Below w0.heap.size w0 W→Calls Tryz.prog 42 #[.agg #[.int .i64 kd,.string tx,.slice a1 n1 k1,.slice a2 n2 k2,.slice a3 n3 k3]] W fun e w'=>e= .returned (.string X)∧Below W.heap.size W w'):=VB0;clear VB0 HVB HVO HKS HX21;obtain ⟨A1,hA1,HA1,bA,rA⟩:=boxed wr (kC nm kd tx (.slice a1 n1 k1) (.slice a2 n2 k2) (.slice a3 n3 k3) due) 65;have st9:LbS w0 S s C v E u6 wr.heap.size (kC nm kd tx (.slice a1 n1 k1) (.slice a2 n2 k2) (.slice a3 n3 k3) due) A1:=⟨HST.out.below bA,rA⟩;have PT:Hid (∀W,LbS w0 S s C v E u6 wr.heap.size (kC nm kd tx (.slice a1 n1 k1) (.slice a2 n2 k2) (.slice a3 n3 k3) due) W→Calls Tryz.prog 182 #[.pointer (some ⟨S,0,none⟩),.string X] W fun e w'=>∃a n c,e= .returned (.tuple #[refV (putRc s C X) (putRg s C X),.bool (putOk s C X)])∧RowAt w' S 50 #[.string (putD s C X),.slice a n c]∧w'.ownsRow W.heap.size 84 4 (.slice a n c) (putL s C X).length (flatC (putL s C X))∧W.grownBy w' (some S)):=fun W st=>shelfPut_any S s X v C w0.heap.size W st.st.row st.st.own HFT.out hX0;clear HST hA1 bA rA;have hk0:(0:Int)≤(k:Int):=by omega
    have hkn:(k:Int)<(n:Int):=by omega
    have na:∀W,(nilAhead 365 48 (.pointer (some ⟨S,0,none⟩)) "loop.example/g00302/impl.put").run Tryz.prog W= .ok (some false) W:=na48 ⟨S,0,none⟩;have mt:∀W,(method 365 48 (.pointer (some ⟨S,0,none⟩)) "loop.example/g00302/impl.put").run Tryz.prog W= .ok (182,.pointer (some ⟨S,0,none⟩)) W:=mt48 ⟨S,0,none⟩;go_upto_region 7 with fail;rw [HA1.out];clear HA1 c0 c1 c2 c3 c4 c5 c6;go_cut [9,10] (fun v9 v10 wx=>∃q rc rg D M v' ok,v9= .pointer (some ⟨q,0,none⟩)∧v10= .bool ok∧RowAt wx q 55 #[.int .i64 rc,.int .i64 rg]∧Hid (D=putD s C X∧M=putL s C X∧rc=putRc s C X∧rg=putRg s C X∧ok=putOk s C X)∧LbS w0 S D M v' E u6 wr.heap.size (kC nm kd tx (.slice a1 n1 k1) (.slice a2 n2 k2) (.slice a3 n3 k3) due) wx)
    case first=>
     go_region_held3 (fun w'=>w'.cell? ⟨wr.heap.size,1,none⟩=some (.int .i64 kd)∧w'.cell? ⟨wr.heap.size,2,none⟩=some (.string tx)∧w'.cell? ⟨wr.heap.size,3,none⟩=some (.slice a1 n1 k1)∧w'.cell? ⟨wr.heap.size,4,none⟩=some (.slice a2 n2 k2)∧w'.cell? ⟨wr.heap.size,5,none⟩=some (.slice a3 n3 k3))
      (first
       |with_reducible exact (st9).kp
       |with_reducible exact (st9.drew).kp
       |with_reducible exact (st9.alloc _).kp
       |with_reducible exact (st9.alloc _).drew.kp
       |with_reducible exact (st10).kp
       |with_reducible exact (st10.alloc _).kp
       |with_reducible exact (st11).kp
       |with_reducible exact (st11.alloc _).kp
       |with_reducible exact (st11.set x55 hq55).kp)
      (first
       |(go_at_call 42;refine (VB.out _ ?_).mono ?_;first
          |exact st9.drew.st.bel
          |exact (st9.alloc _).drew.st.bel
         rintro e w10 ⟨rfl,b10⟩;have st10:LbS w0 S s C v E u6 wr.heap.size (kC nm kd tx (.slice a1 n1 k1) (.slice a2 n2 k2) (.slice a3 n3 k3) due) w10:=by
          first
           |exact st9.drew.below b10
           |exact (st9.alloc _).drew.below b10
         first
          |(have z55:RowAt w10 A1.heap.size 55 #[.int .i64 0,.int .i64 0]:=(RowAt.new A1 55 _).drew.below b10 (RowAt.new A1 55 _).drew.lt)
          |skip)
       |(go_at_call 182;refine (PT.out _ ?_).mono ?_;first
          |exact st10
          |exact st10.alloc _
         rintro e w11 ⟨a11,n11,c11,rfl,row11,own11,g11⟩;have st11:LbS w0 S (putD s C X) (putL s C X) (.slice a11 n11 c11) E u6 wr.heap.size (kC nm kd tx (.slice a1 n1 k1) (.slice a2 n2 k2) (.slice a3 n3 k3) due) w11:=by
          first
           |exact ⟨st10.st.put hS row11 (Go.Joins.ownsRow_le own11 (by have:=st10.st.bel.size;first|omega|(simp;omega))) g11,row_grown st10.box st10.st.row (by decide) g11⟩
           |exact ⟨(st10.alloc _).st.put hS row11 (Go.Joins.ownsRow_le own11 (by have:=st10.st.bel.size;first|omega|(simp;omega))) g11,row_grown (st10.alloc _).box (st10.alloc _).st.row (by decide) g11⟩
         first
          |(have x55:RowAt w11 A1.heap.size 55 #[.int .i64 0,.int .i64 0]:=row_grown z55 st10.st.row (by decide) g11;have hq55:w0.heap.size≤A1.heap.size:=st9.st.bel.size)
          |(have x55:RowAt w11 w10.heap.size 55 #[.int .i64 0,.int .i64 0]:=row_grown (RowAt.new w10 55 _) (st10.alloc _).st.row (by decide) g11;have hq55:w0.heap.size≤w10.heap.size:=st10.st.bel.size)
          |skip
         first
          |(have y0:=(zbb x55).1;have y1:=(zbb x55).2;have y2:=x55.frozen 0;have y3:=x55.frozen 1)
          |skip))
     all_goals go_wp2_with fail
     all_goals go_meet
     all_goals
      refine ⟨_,_,_,_,_,.slice a11 n11 c11,_,rfl,rfl,?_,⟨rfl,rfl,rfl,rfl,rfl⟩,?_⟩
      ·first
        |with_reducible exact RowAt.first rfl
        |with_reducible exact RowAt.first (by simp)
        |with_reducible exact x55.both
      ·first
        |with_reducible exact st11.alloc _
        |with_reducible exact st11.set x55 hq55
    case rest=>
     obtain ⟨q,rc,rg,D,M,v',ok,rfl,rfl,hq,HEQ,st12⟩:=hcut;clear PT VB st9;have HS1:Hid (ok=false→T=none):=by
      obtain ⟨_,_,_,_,e5⟩:=HEQ.out;rw [e5];exact HSP1.out
     have HS2:Hid (ok=true→T=laidF D M (E++ [⟨nm,rc,rg,due⟩]) (KK.drop (k+1))):=by
      obtain ⟨e1,e2,e3,e4,e5⟩:=HEQ.out;rw [e1,e2,e3,e4,e5];exact HSP2.out
     have HFM:Hid (FitH D M):=by
      obtain ⟨e1,e2,_⟩:=HEQ.out;rw [e1,e2];exact put_fit HFT.out X
     clear HEQ HSP1 HSP2 HFT;cases ok with
     |false=>
      have HF:Hid (LayS w0 S T (.returned (.tuple #[.slice none 0 0,.bool false])) wc):=⟨st12.st.bel,.inl ⟨HS1.out rfl,rfl⟩⟩;clear HS1 HS2 HFM HEND st12 hq;go_wp2;go_ret2;exact HF.out
     |true=>
      have HT5:Hid (T=laidF D M (E++ [⟨nm,rc,rg,due⟩]) (KK.drop (k+1))):=HS2.out rfl;clear HS1 HS2;have p0:wc.cell? ⟨wr.heap.size,0,none⟩=some (.string nm):=st12.box.cell 0;have p6:wc.cell? ⟨wr.heap.size,6,none⟩=some (.int .i64 due):=st12.box.cell 6;obtain ⟨g0,g1⟩:=zbb hq;obtain ⟨v2,w5,hrun,o5,b5,g5⟩:=app_ent (w:=wc) (B:=w0.heap.size) (V:=u6) (E:=E) ⟨nm,rc,rg,due⟩ st12.st.ent (by omega) st12.st.bel.size;have HST5:Hid (LyS w0 S D M v' (E++ [⟨nm,rc,rg,due⟩]) v2 w5):=st12.st.ents o5 g5;have HRUN:Hid ((Builtin.append_ #[30,30] 30 #[u6,.slice (some ⟨wc.heap.size,0,none⟩) 1 1]).run Tryz.prog (wc.alloc (.cells #[.string nm,.int .i64 rc,.int .i64 rg,.int .i64 due] 67))= .ok v2 w5):=hrun;have hE5:(E++ [(⟨nm,rc,rg,due⟩:En)]).length=k+1:=by rw [List.length_append,hEk];rfl
      clear hrun o5 b5 g5 st12 hq HEND;go_wp2_with (at_builtin;refine wpList_append_run rfl _ _ 30 rfl rfl rfl HRUN.out ?_);exact ⟨⟨k+1,D,M,v',_,by omega,by go_num,hE5,HFM,HT5,HST5⟩,by simp [intOf];omega⟩
   ·obtain rfl:k=n:=by omega
    have HTE:=HEND.out s C E HTK.out;have HF:Hid (LayS w0 S T (.returned (.tuple #[u6,.bool true])) wr):=⟨HST.out.bel,.inr ⟨s,C,v,E,u6,HTE,rfl,HST.out⟩⟩;clear HTE HTK HST HFT HEND HSTEP HVB HVO HKS HX21;go_wp2;go_ret2;exact HF.out
end Go.Proofs.YtjpeglkkkllagaaGreatDoor
namespace Go.Proofs.YtjpeglkkkllagaaGreatDoor
open Go.RowKit Go.Sort
open Hp (Cl cl0 Fit CellsIn flatC refV putD putL putRc putRg putOk FitH zbb own_ne put_fit)
structure LyZ (w0:World) (S:Nat) (z:Nat) (E:List En) (vE:Value) (W:World):Prop where
 bel:Below w0.heap.size w0 W
 row:RowAt W S 69 #[.int .i64 (z:Int)]
 ent:OwnE W w0.heap.size vE E
theorem LyZ.below {w0:World} {S:Nat} {z:Nat} {E:List En} {vE:Value} {W W':World} (h:LyZ w0 S z E vE W) (hb:Below W.heap.size W W'):LyZ w0 S z E vE W':=
 ⟨h.bel.trans (hb.mono h.bel.size),h.row.below hb h.row.lt,zaf h.ent hb⟩
theorem LyZ.put {w0:World} {S:Nat} {z:Nat} {z':Nat} {E:List En} {vE:Value} {W W':World} (h:LyZ w0 S z E vE W) (hS:w0.heap.size≤S) (hr:RowAt W' S 69 #[.int .i64 (z':Int)])  (hg:W.grownBy W' (some S)):LyZ w0 S z' E vE W':=
 ⟨below_g1 h.bel hg hS,hr,own_grownS h.ent h.row (by decide) hg⟩
theorem LyZ.ents {w0:World} {S:Nat} {z:Nat} {E E':List En} {vE vE':Value} {W W':World} (h:LyZ w0 S z E vE W) (ho:OwnE W' w0.heap.size vE' E') (hg:W.grownBy W' vE.ownBlock):LyZ w0 S z E' vE' W':=by
 have n1:=own_ne h.ent h.row (by decide);have hlow:∀y,vE.ownBlock=some y→w0.heap.size≤y:=fun y hy=> (h.ent.lt y hy).1;have bw:Below w0.heap.size W W':=⟨hg.os,hg.tape,hg.output,hg.size,fun k hk=>hg.block k (by have:=h.bel.size;omega) (fun e=>by have:=hlow k e.symm;omega)⟩;exact ⟨h.bel.trans bw,(hg.block S h.row.lt n1).trans h.row,ho⟩
structure LbZ (w0:World) (S:Nat) (z:Nat) (E:List En) (vE:Value) (X:Nat) (K:Array Value) (W:World):Prop where
 st:LyZ w0 S z E vE W
 box:RowAt W X 65 K
section
variable {w0 : World} {S : Nat} {z : Nat} {E : List En} {vE : Value} {X : Nat} {K : Array Value} {W W' : World}
theorem LbZ.below (h:LbZ w0 S z E vE X K W) (hb:Below W.heap.size W W'):LbZ w0 S z E vE X K W':=⟨h.st.below hb,h.box.below hb h.box.lt⟩
theorem LbZ.alloc (h:LbZ w0 S z E vE X K W) (o:Obj):LbZ w0 S z E vE X K (W.alloc o):=h.below ((Below.refl _ W).alloc (Nat.le_refl _) o)
theorem LbZ.drew (h:LbZ w0 S z E vE X K W):LbZ w0 S z E vE X K W.drew:=h.below (Below.refl _ W).drew
theorem LbZ.set {q:Nat} {R:Array Value} {x y:Value} (h:LbZ w0 S z E vE X K W) (hr:RowAt W q 55 R) (hq:w0.heap.size≤q):LbZ w0 S z E vE X K ((W.setCell ⟨q,0,none⟩ x).setCell ⟨q,1,none⟩ y):=by
 have n1:S≠q:=fun e=>by subst e;have:=h.st.row.symm.trans hr;simp at this
 have n2:X≠q:=fun e=>by subst e;have:=h.box.symm.trans hr;simp at this
 exact ⟨⟨(h.st.bel.setCell (p:=⟨q,0,none⟩) (by simp only;omega) _).setCell (p:=⟨q,1,none⟩) (by simp only;omega) _,h.st.row.skip n1,own_set2 h.st.ent hr (by decide)⟩,h.box.skip n2⟩
end
theorem LbZ.kp {w0:World} {S:Nat} {z:Nat} {E:List En} {vE:Value} {X:Nat} {W:World} {nm tx:ByteArray} {kd due:Int} {vi vp vr:Value} (h:LbZ w0 S z E vE X (kC nm kd tx vi vp vr due) W):W.cell? ⟨X,1,none⟩=some (.int .i64 kd)∧W.cell? ⟨X,2,none⟩=some (.string tx)∧W.cell? ⟨X,3,none⟩=some vi∧W.cell? ⟨X,4,none⟩=some vp∧W.cell? ⟨X,5,none⟩=some vr:=⟨h.box.cell 1,h.box.cell 2,h.box.cell 3,h.box.cell 4,h.box.cell 5⟩
def LayZ (w0:World) (S:Nat) (ok:Bool) (z:Nat) (e:Ending) (w':World):Prop:=Below w0.heap.size w0 w'∧((ok=false∧e= .returned (.tuple #[.slice none 0 0,.bool false]))∨(ok=true∧∃E vE,e= .returned (.tuple #[vE,.bool true])∧LyZ w0 S z E vE w'))
theorem layZ_any (w0:World) (L:List KV) (a:Option Addr) (A c:Nat) (hda:DbAt w0 a A L.length L) (hsm:Small L) (hl:L.length≤1000) (hR:Ready w0) (S:Nat)  (w:World) (hw:Below w0.heap.size w0 w) (hS:w0.heap.size≤S) (hrow:RowAt w S 69 #[.int .i64 ((0:Nat):Int)]) :
  Calls Tryz.prog 21 #[.iface 70 (.pointer (some ⟨S,0,none⟩)),.slice a L.length c] w fun e w'=>LayZ w0 S (dbOkB (L.map KV.key)) (sumL (L.map KV.key)) e w':=by
 have HNX:Hid (∀k,k<L.length→sumL ((L.map KV.key).take (k+1))=sumL ((L.map KV.key).take k)+(layX (L.getD k kv0).key).size):=fun k hk=>sum_next L k hk;have HNE:Hid (sumL ((L.map KV.key).take L.length)=sumL (L.map KV.key)):=by unfold Hid;rw [List.take_of_length_le (by simp)]
 have RD:Hid (∀W,Below w0.heap.size w0 W→Ready W):=fun W hb=>hR.below (hb.mono hR.six);have HD:Hid (Calls Tryz.prog 27 #[.slice a L.length c] w fun e w'=>e= .returned (.bool (dbOkB (L.map KV.key)))∧Below w.heap.size w w'):=implDbOk_any a A L.length c L w (hda.below hw) hsm (by omega) (RD.out w hw);have HKS:Hid (KsIn w0 a A L.length L):=hda.ks;have HVB:Hid (∀W k,Below w0.heap.size w0 W→k<L.length→Calls Tryz.prog 42 #[vlV (L.getD k kv0).key.val.kind (L.getD k kv0).key.val.text (L.getD k kv0).vi (L.getD k kv0).vp (L.getD k kv0).vr] W fun e w'=>e= .returned (.string (layX (L.getD k kv0).key))∧Below W.heap.size W w'):=fun W k hb hk=>by
  obtain ⟨B',hv⟩:=(hda.below hb).val k hk;have hk':=(hsm k hk).1;exact implBytes_any _ _ _ _ B' W hv hk'.fit hk'.np hk'.nums (RD.out W hb)
 have HST0:Hid (∀W,Below w.heap.size w W→LyZ w0 S 0 [] (.slice none 0 0) W):=fun W hb=>⟨hw.trans (hb.mono hw.size),hrow.below hb hrow.lt,World.ownsRow_nil _ _ _ _⟩;have HVO:Hid (∀k,k<L.length→∃a1 n1 k1 a2 n2 k2 a3 n3 k3,(L.getD k kv0).vi= .slice a1 n1 k1∧(L.getD k kv0).vp= .slice a2 n2 k2∧(L.getD k kv0).vr= .slice a3 n3 k3):=fun k hk=>by
  obtain ⟨B',hv⟩:=hda.val k hk;obtain ⟨a1,k1,e1⟩:=zad hv.items;obtain ⟨a2,k2,e2⟩:=zad hv.pairs;obtain ⟨a3,k3,e3⟩:=zad hv.ranks;exact ⟨a1,_,k1,a2,_,k2,a3,_,k3,e1,e2,e3⟩
 have HX21:Hid (∀k,(layX (L.getD k kv0).key).size≤21000):=fun k=>vb_size _;clear hda hsm hrow RD;generalize dbOkB (L.map KV.key)=ok at*;generalize L.map KV.key=KK at*;obtain ⟨n,hn⟩:∃n,L.length=n:=⟨_,rfl⟩;rw [hn] at HD HKS HVB HVO hl HNX HNE;rw [hn];clear hn;go_enter Tryz.func21,Tryz.ntmps21;go_wp2_with fail;refine HD.out.mono ?_;rintro e w1 ⟨rfl,b1⟩;have HST1:Hid (LyZ w0 S 0 [] (.slice none 0 0) w1):=HST0.out w1 b1;clear HST0 HD b1;cases ok with
 |false=>
  have HF:Hid (LayZ w0 S false (sumL KK) (.returned (.tuple #[.slice none 0 0,.bool false])) w1):=⟨HST1.out.bel,.inl ⟨rfl,rfl⟩⟩;clear HST1;go_wp2;go_ret2;exact HF.out
 |true=>
  go_wp2_with fail;go_loopw [6,16] (fun vE i wr=>∃(k:Nat) (z:Nat) (E:List En),k≤n∧i= .int .i64 k∧E.length=k∧z≤21000*k∧Hid (z=sumL (KK.take k))∧Hid (LyZ w0 S z E vE wr)) (fun _ i _=>n-(intOf i).toNat)
  case atStart=>exact ⟨0,0,[],by omega,rfl,rfl,by omega,rfl,HST1⟩
  case round=>
   obtain ⟨k,z,E,hk,rfl,hEk,hz,HZ,HST⟩:=hrel;clear HST1;by_cases hlt:k<n
   ·have hx0:=(HKS.out.below HST.out.bel).cell k hlt;obtain rfl:=HKS.out.addr (by omega);have hX0:=HX21.out k;obtain ⟨a1,n1,k1,a2,n2,k2,a3,n3,k3,hi1,hi2,hi3⟩:=HVO.out k hlt;have VB0:=fun W (hb:Below w0.heap.size w0 W)=>HVB.out W k hb hlt;have hs1:=HNX.out k hlt;generalize L.getD k kv0=x at*;obtain ⟨⟨nm,⟨kd,tx,xi,xp,xr⟩,due⟩,vi,vp,vr⟩:=x;obtain ⟨c0,c1,c2,c3,c4,c5,c6⟩:=hx0;dsimp only at c0 c1 c2 c3 c4 c5 c6 VB0 hX0 hi1 hi2 hi3 hs1;subst hi1 hi2 hi3;generalize layX ⟨nm,⟨kd,tx,xi,xp,xr⟩,due⟩=X at*;have HS1:Hid (sumL (KK.take (k+1))=sumL (KK.take k)+X.size):=hs1;clear hs1 HNX HNE;have VB:Hid (∀W,Below w0.heap.size w0 W→Calls Tryz.prog 42 #[.agg #[.int .i64 kd,.string tx,.slice a1 n1 k1,.slice a2 n2 k2,.slice a3 n3 k3]] W fun e w'=>e= .returned (.string X)∧Below W.heap.size W w'):=VB0;clear VB0 HVB HVO HKS HX21;obtain ⟨A1,hA1,HA1,bA,rA⟩:=boxed wr (kC nm kd tx (.slice a1 n1 k1) (.slice a2 n2 k2) (.slice a3 n3 k3) due) 65;have st9:LbZ w0 S z E u6 wr.heap.size (kC nm kd tx (.slice a1 n1 k1) (.slice a2 n2 k2) (.slice a3 n3 k3) due) A1:=⟨HST.out.below bA,rA⟩;have PT:Hid (∀W,LbZ w0 S z E u6 wr.heap.size (kC nm kd tx (.slice a1 n1 k1) (.slice a2 n2 k2) (.slice a3 n3 k3) due) W→Calls Tryz.prog 188 #[.pointer (some ⟨S,0,none⟩),.string X] W fun e w'=>e= .returned (.tuple #[refV 0 0,.bool true])∧RowAt w' S 69 #[.int .i64 ((z:Int)+(X.size:Int))]∧W.grownBy w' (some S)):=fun W st=>scalePut_any S X z W st.st.row hX0 (by omega);clear HST hA1 bA rA;have hk0:(0:Int)≤(k:Int):=by omega
    have hkn:(k:Int)<(n:Int):=by omega
    have na:∀W,(nilAhead 365 70 (.pointer (some ⟨S,0,none⟩)) "loop.example/g00302/impl.put").run Tryz.prog W= .ok (some false) W:=na70 ⟨S,0,none⟩;have mt:∀W,(method 365 70 (.pointer (some ⟨S,0,none⟩)) "loop.example/g00302/impl.put").run Tryz.prog W= .ok (188,.pointer (some ⟨S,0,none⟩)) W:=mt70 ⟨S,0,none⟩;go_upto_region 7 with fail;rw [HA1.out];clear HA1 c0 c1 c2 c3 c4 c5 c6;go_cut [9,10] (fun v9 v10 wx=>∃q rc rg z' ok,v9= .pointer (some ⟨q,0,none⟩)∧v10= .bool ok∧RowAt wx q 55 #[.int .i64 rc,.int .i64 rg]∧Hid (z'=z+X.size∧ok=true)∧LbZ w0 S z' E u6 wr.heap.size (kC nm kd tx (.slice a1 n1 k1) (.slice a2 n2 k2) (.slice a3 n3 k3) due) wx)
    case first=>
     go_region_held3 (fun w'=>w'.cell? ⟨wr.heap.size,1,none⟩=some (.int .i64 kd)∧w'.cell? ⟨wr.heap.size,2,none⟩=some (.string tx)∧w'.cell? ⟨wr.heap.size,3,none⟩=some (.slice a1 n1 k1)∧w'.cell? ⟨wr.heap.size,4,none⟩=some (.slice a2 n2 k2)∧w'.cell? ⟨wr.heap.size,5,none⟩=some (.slice a3 n3 k3))
      (first
       |with_reducible exact (st9).kp
       |with_reducible exact (st9.drew).kp
       |with_reducible exact (st9.alloc _).kp
       |with_reducible exact (st9.alloc _).drew.kp
       |with_reducible exact (st10).kp
       |with_reducible exact (st10.alloc _).kp
       |with_reducible exact (st11).kp
       |with_reducible exact (st11.alloc _).kp
       |with_reducible exact (st11.set x55 hq55).kp)
      (first
       |(go_at_call 42;refine (VB.out _ ?_).mono ?_;first
          |exact st9.drew.st.bel
          |exact (st9.alloc _).drew.st.bel
         rintro e w10 ⟨rfl,b10⟩;have st10:LbZ w0 S z E u6 wr.heap.size (kC nm kd tx (.slice a1 n1 k1) (.slice a2 n2 k2) (.slice a3 n3 k3) due) w10:=by
          first
           |exact st9.drew.below b10
           |exact (st9.alloc _).drew.below b10
         first
          |(have z55:RowAt w10 A1.heap.size 55 #[.int .i64 0,.int .i64 0]:=(RowAt.new A1 55 _).drew.below b10 (RowAt.new A1 55 _).drew.lt)
          |skip)
       |(go_at_call 188;refine (PT.out _ ?_).mono ?_;first
          |exact st10
          |exact st10.alloc _
         rintro e w11 ⟨rfl,row11,g11⟩;have st11:LbZ w0 S (z+X.size) E u6 wr.heap.size (kC nm kd tx (.slice a1 n1 k1) (.slice a2 n2 k2) (.slice a3 n3 k3) due) w11:=by
          first
           |exact ⟨st10.st.put hS (by rw [Int.natCast_add];exact row11) g11,row_grown st10.box st10.st.row (by decide) g11⟩
           |exact ⟨(st10.alloc _).st.put hS (by rw [Int.natCast_add];exact row11) g11,row_grown (st10.alloc _).box (st10.alloc _).st.row (by decide) g11⟩
         first
          |(have x55:RowAt w11 A1.heap.size 55 #[.int .i64 0,.int .i64 0]:=row_grown z55 st10.st.row (by decide) g11;have hq55:w0.heap.size≤A1.heap.size:=st9.st.bel.size)
          |(have x55:RowAt w11 w10.heap.size 55 #[.int .i64 0,.int .i64 0]:=row_grown (RowAt.new w10 55 _) (st10.alloc _).st.row (by decide) g11;have hq55:w0.heap.size≤w10.heap.size:=st10.st.bel.size)
          |skip
         first
          |(have y0:=(zbb x55).1;have y1:=(zbb x55).2;have y2:=x55.frozen 0;have y3:=x55.frozen 1)
          |skip))
     all_goals go_wp2_with fail
     all_goals go_meet
     all_goals
      refine ⟨_,0,0,_,_,rfl,rfl,?_,⟨rfl,rfl⟩,?_⟩
      ·first
        |with_reducible exact RowAt.first rfl
        |with_reducible exact RowAt.first (by simp)
        |with_reducible exact x55.both
      ·first
        |with_reducible exact st11.alloc _
        |with_reducible exact st11.set x55 hq55
    case rest=>
     obtain ⟨q,rc,rg,z',ok,rfl,rfl,hq,HEQ,st12⟩:=hcut;clear PT VB st9;obtain ⟨ez,eo⟩:=HEQ.out;have HZ5:Hid (z'=sumL (KK.take (k+1))):=by unfold Hid;rw [ez,HS1.out,←HZ.out]
     have hz5:z'≤21000*(k+1):=by omega
     subst eo;clear HEQ ez HS1 HZ;have p0:wc.cell? ⟨wr.heap.size,0,none⟩=some (.string nm):=st12.box.cell 0;have p6:wc.cell? ⟨wr.heap.size,6,none⟩=some (.int .i64 due):=st12.box.cell 6;obtain ⟨g0,g1⟩:=zbb hq;obtain ⟨v2,w5,hrun,o5,b5,g5⟩:=app_ent (w:=wc) (B:=w0.heap.size) (V:=u6) (E:=E) ⟨nm,rc,rg,due⟩ st12.st.ent (by omega) st12.st.bel.size;have HST5:Hid (LyZ w0 S z' (E++ [⟨nm,rc,rg,due⟩]) v2 w5):=st12.st.ents o5 g5;have HRUN:Hid ((Builtin.append_ #[30,30] 30 #[u6,.slice (some ⟨wc.heap.size,0,none⟩) 1 1]).run Tryz.prog (wc.alloc (.cells #[.string nm,.int .i64 rc,.int .i64 rg,.int .i64 due] 67))= .ok v2 w5):=hrun;have hE5:(E++ [(⟨nm,rc,rg,due⟩:En)]).length=k+1:=by rw [List.length_append,hEk];rfl
     clear hrun o5 b5 g5 st12 hq;go_wp2_with (at_builtin;refine wpList_append_run rfl _ _ 30 rfl rfl rfl HRUN.out ?_);exact ⟨⟨k+1,z',_,by omega,by go_num,hE5,hz5,HZ5,HST5⟩,by simp [intOf];omega⟩
   ·obtain rfl:k=n:=by omega
    have HF:Hid (LayZ w0 S true (sumL KK) (.returned (.tuple #[u6,.bool true])) wr):=by
     have e:z=sumL KK:=HZ.out.trans HNE.out;rw [←e];exact ⟨HST.out.bel,.inr ⟨rfl,E,u6,rfl,HST.out⟩⟩
    clear HZ HST HVB HVO HKS HX21 HNX HNE;go_wp2;go_ret2;exact HF.out
end Go.Proofs.YtjpeglkkkllagaaGreatDoor
