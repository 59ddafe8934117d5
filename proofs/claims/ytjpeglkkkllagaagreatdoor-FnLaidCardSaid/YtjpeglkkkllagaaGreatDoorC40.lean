import Derived.Test.YtjpeglkkkllagaaGreatDoorC9
set_option maxHeartbeats 4000000
set_option maxRecDepth 100000
namespace Go.Proofs.YtjpeglkkkllagaaGreatDoor
open Go.RowKit Go.Sort
open Kk (Rk rk0 texL texR decS zea zeb zec OwnR flatR encR zdh str_ne str_eq)
theorem st_len (k:Ke):∀(ks:List Ke) (s:List Ke×Bool),(ks.foldl (stStep k) s).1.length≤s.1.length+2*ks.length
 | [],s=>by simp
 |x::xs,s=>by
  rw [List.foldl_cons];have h1:=st_len k xs (stStep k s x);have h2:(stStep k s x).1.length≤s.1.length+2:=by
   unfold stStep;split<;>split<;>simp
  rw [List.length_cons];omega
theorem stored_len (ks:List Ke) (k:Ke):(storedK ks k).length≤2*ks.length+1:=by
 have:=st_len k ks ([],false);unfold storedK stS;split
 ·simp at this ⊢;omega
 ·simp at this ⊢;omega
theorem zbd.keys {w:World} {B:Nat} {ks:List Ke} {R:List Rp} {rv:Value} {v:Value} {L:List KV} {w1 w2:World} (hB:B≤w.heap.size) (hr:zbe w B rv R) (hm:L.map KV.key=ks) (hd:DbOwn w1 w.heap.size v L) (hb:Below w.heap.size w w1) (hb2:Below w1.heap.size w1 w2):zbd w B (ks,R) (.returned (.tuple #[v,rv])) w2:=
 have h2:Below w.heap.size w w2:=hb.trans (hb2.mono hb.size)
 ⟨v,rv,L,rfl,hm,(hd.below hb2).le hB,hr.below h2,h2⟩
theorem zbd.same {w:World} {B:Nat} {R:List Rp} {rv v:Value} {L:List KV} {w1 w2:World} (hd:DbOwn w B v L) (hB:B≤w.heap.size) (hb:Below w.heap.size w w1) (hr:zbe w2 w1.heap.size rv R) (hb2:Below w1.heap.size w1 w2):zbd w B (L.map KV.key,R) (.returned (.tuple #[v,rv])) w2:=
 have h2:Below w.heap.size w w2:=hb.trans (hb2.mono hb.size)
 ⟨v,rv,L,rfl,rfl,hd.below h2,hr.le (Nat.le_trans hB hb.size),h2⟩
theorem es_of {w W0:World} {B:Nat} {v:Value} {L:List KV} (h:DbOwn w B v L) (hB:B≤w.heap.size) (b0:Below w.heap.size w W0):Hid (∀R r w1 w2,Below W0.heap.size W0 w1→zbe w2 w1.heap.size r R→Below w1.heap.size w1 w2→zbd w B (L.map KV.key,R) (.returned (.tuple #[v,r])) w2):=fun _ _ _ _ h1 h2 h3=>zbd.same h hB (b0.trans (h1.mono b0.size)) h2 h3
theorem set_any (B:Nat) (v:Value) (L:List KV) (x:KV) (rv:Value) (R:List Rp) (w:World) (h:DbOwn w B v L) (hf:FitsK (L.map KV.key)) (hn:L.length≤500000) (hx:VRd w x.key.val x.vi x.vp x.vr) (hxf:KFit x.key) (hr:zbe w B rv R) (hB:B≤w.heap.size):
  Calls Tryz.prog 125 #[v,kvV x,rv] w (zbd w B (setM (L.map KV.key) x.key R)):=by
 obtain ⟨⟨p1,P1,o1,d1,e1,i1,f1⟩,⟨p2,P2,d2,e2,i2,f2⟩,⟨p3,P3,o3,d3,e3,i3,f3⟩⟩:=hx;obtain ⟨⟨xn,xv,xd⟩,vi,vp,vr⟩:=x;dsimp only at e1 e2 e3 i1 i2 i3 hxf;subst e1 e2 e3;have hx:VRd w xv (.slice p1 xv.items.length d1) (.slice p2 xv.pairs.length d2) (.slice p3 xv.ranks.length d3):=⟨⟨p1,P1,o1,d1,rfl,i1,f1⟩,⟨p2,P2,d2,rfl,i2,f2⟩,⟨p3,P3,o3,d3,rfl,i3,f3⟩⟩;obtain ⟨a,A,c,e,hd,hat⟩:=h.din hf.fits;subst e;have s1:xv.items.length≤524288:=hxf.fit.items;have s2:xv.pairs.length≤524288:=hxf.fit.pairs;have s3:xv.ranks.length≤524288:=hxf.fit.ranks;show Calls Tryz.prog 125 #[.slice a L.length c,.agg (kC xn xv.kind xv.text (.slice p1 xv.items.length d1) (.slice p2 xv.pairs.length d2) (.slice p3 xv.ranks.length d3) xd),rv] w (zbd w B (setM (L.map KV.key) ⟨xn,xv,xd⟩ R));obtain ⟨W0,hW0,HW0,b0,_⟩:=boxed w (kC xn xv.kind xv.text (.slice p1 xv.items.length d1) (.slice p2 xv.pairs.length d2) (.slice p3 xv.ranks.length d3) xd) 65;have HG:Hid (Calls Tryz.prog 121 #[.slice a L.length c,.string xn] W0 (KeysEnd W0 (goneK (L.map KV.key) xn))):=gone_any a A L.length c L xn W0 (hd.below b0) (by omega);have HS:Hid (Calls Tryz.prog 37 #[.slice a L.length c,.agg (kC xn xv.kind xv.text (.slice p1 xv.items.length d1) (.slice p2 xv.pairs.length d2) (.slice p3 xv.ranks.length d3) xd)] W0 (KeysEnd W0 (storedK (L.map KV.key) ⟨xn,xv,xd⟩))):=stored_any a A L.length c L ⟨⟨xn,xv,xd⟩,.slice p1 xv.items.length d1,.slice p2 xv.pairs.length d2,.slice p3 xv.ranks.length d3⟩ W0 (hd.below b0) (hx.below b0) (by show xv.items.length≤_;omega) (by show xv.pairs.length≤_;omega) (by show xv.ranks.length≤_;omega) hn;have HD:Hid (∀W v' L',DbOwn W W0.heap.size v' L'→L'.map KV.key=storedK (L.map KV.key) ⟨xn,xv,xd⟩→Calls Tryz.prog 23 #[v'] W fun e w'=>e= .returned (.bool (dbOkB (storedK (L.map KV.key) ⟨xn,xv,xd⟩)))∧Below W.heap.size W w'):=fun W v' L' ho hm=>by
  have hF:FitsK (L'.map KV.key):=by rw [hm];exact hf.stored hxf
  obtain ⟨a',A',c',rfl,_,hat'⟩:=ho.din hF.fits;rw [← hm]
  exact specDbOkF_any a' A' L'.length c' L' W hat' hF.fits (by
   have h1:L'.length=(storedK (L.map KV.key) ⟨xn,xv,xd⟩).length:=by rw [← hm];simp
   have h2:=stored_len (L.map KV.key) ⟨xn,xv,xd⟩;rw [List.length_map] at h2;omega)
 have HER:Hid (∀W,Calls Tryz.prog 89 #[.string ⟨#[102,117,108,108]⟩] W (zci W (zcb sFull))):=fun W=>error_any sFull (by decide) W;have hB0:=Nat.le_trans hB b0.size;have EK:Hid (∀ks v' L' w1 w2,L'.map KV.key=ks→DbOwn w1 W0.heap.size v' L'→Below W0.heap.size W0 w1→Below w1.heap.size w1 w2→zbd w B (ks,R) (.returned (.tuple #[v',rv])) w2):=fun ks v' L' w1 w2 h1 h2 h3 h4=>zbd.keys hB hr h1 (h2.le b0.size) (b0.trans (h3.mono b0.size)) h4;have E3:Hid (∀r' w1 w2,Below W0.heap.size W0 w1→zbe w2 w1.heap.size r' (zcb sFull)→Below w1.heap.size w1 w2→zbd w B (L.map KV.key,zcb sFull) (.returned (.tuple #[.slice a L.length c,r'])) w2):=fun r' w1 w2 h1 h2 h3=>zbd.same h hB (b0.trans (h1.mono b0.size)) h2 h3;have HM:Hid (setM (L.map KV.key) ⟨xn,xv,xd⟩ R=if (decide (xv.items.length+xv.pairs.length+xv.ranks.length=0) && !decide (xv.kind=1))=true then (goneK (L.map KV.key) xn,R) else if dbOkB (storedK (L.map KV.key) ⟨xn,xv,xd⟩)=true then (storedK (L.map KV.key) ⟨xn,xv,xd⟩,R) else (L.map KV.key,zcb sFull)):=rfl;clear h hf hd hat hxf hr hx hW0 i1 i2 i3 f1 f2 f3 b0 hB0;generalize setM (L.map KV.key) ⟨xn,xv,xd⟩ R=S at*;generalize goneK (L.map KV.key) xn=Kg at*;generalize storedK (L.map KV.key) ⟨xn,xv,xd⟩=Ks at*;generalize L.map KV.key=K0 at*;generalize L.length=ln at*;generalize xv.items.length=n1 at*;generalize xv.pairs.length=n2 at*;generalize xv.ranks.length=n3 at*;generalize xv.kind=kd at*;generalize xv.text=tx at*;by_cases hz:n1+n2+n3=0
 ·obtain rfl:n1=0:=by omega
  obtain rfl:n2=0:=by omega
  obtain rfl:n3=0:=by omega
  by_cases hk:kd=1
  ·subst hk;have eS:Hid (S=if dbOkB Ks=true then (Ks,R) else (K0,zcb sFull)):=by unfold Hid;rw [HM.out,if_neg (by simp)]
   clear HM HG;go_enter Tryz.func125,Tryz.ntmps125;go_wp2_with fail;rw [HW0.out];refine HS.out.mono ?_;rintro e w1 ⟨v',L',rfl,hm,ho,hb⟩;have HD2:Hid (Calls Tryz.prog 23 #[v'] w1 fun e w'=>e= .returned (.bool (dbOkB Ks))∧Below w1.heap.size w1 w'):=HD.out w1 v' L' ho hm;cases hok:dbOkB Ks with
   | true=>
    rw [hok] at HD2;obtain rfl:S=(Ks,R):=by rw [eS.out,hok];rfl
    clear eS;have HF:Hid (∀w2,Below w1.heap.size w1 w2→zbd w B (Ks,R) (.returned (.tuple #[v',rv])) w2):=fun w2 h2=>EK.out Ks v' L' w1 w2 hm ho hb h2;clear hm ho hb EK HS HD HER E3 hok;go_wp2_with fail;refine HD2.out.mono ?_;rintro e w2 ⟨rfl,hb2⟩;have HF2:Hid _:=HF.out w2 hb2;clear HF HD2 hb2;go_wp2;go_ret2;exact HF2.out
   | false=>
    rw [hok] at HD2;obtain rfl:S=(K0,zcb sFull):=by rw [eS.out,hok];rfl
    clear eS;have HF:Hid (∀r' w2 w3,Below w1.heap.size w1 w2→zbe w3 w2.heap.size r' (zcb sFull)→Below w2.heap.size w2 w3→zbd w B (K0,zcb sFull) (.returned (.tuple #[.slice a ln c,r'])) w3):=fun r' w2 w3 h1 h2 h3=>E3.out r' w2 w3 (hb.trans (h1.mono hb.size)) h2 h3;clear hm ho hb EK HS HD E3 hok;go_wp2_with fail;refine HD2.out.mono ?_;rintro e w2 ⟨rfl,hb2⟩;clear HD2;go_wp2_with fail;refine (HER.out w2).mono ?_;rintro e w3 ⟨r',rfl,hr3,hb3⟩;have HF2:Hid _:=HF.out r' w2 w3 hb2 hr3 hb3;clear HF HER hb2 hr3 hb3;go_wp2;go_ret2;exact HF2.out
  ·have eS:S=(Kg,R):=by rw [HM.out,if_pos (by simp [hk])]
   subst eS;have hk2:(kd !=1)=true:=by simpa using hk
   clear HM HS HD HER E3 hk;go_enter Tryz.func125,Tryz.ntmps125;go_wp2_with fail;rw [HW0.out];refine HG.out.mono ?_;rintro e w1 ⟨v',L',rfl,hm,ho,hb⟩;have HF:Hid _:=EK.out Kg v' L' w1 w1 hm ho hb (Below.refl _ _);clear hm ho hb EK HG;go_wp2;go_ret2;exact HF.out
 ·have eS:Hid (S=if dbOkB Ks=true then (Ks,R) else (K0,zcb sFull)):=by unfold Hid;rw [HM.out,if_neg (by simp;omega)]
  have hz1:((n1:Int)+n2+n3==0)=false:=by simp;omega
  clear HM HG;go_enter Tryz.func125,Tryz.ntmps125;go_wp2_with fail;rw [HW0.out];refine HS.out.mono ?_;rintro e w1 ⟨v',L',rfl,hm,ho,hb⟩;have HD2:Hid (Calls Tryz.prog 23 #[v'] w1 fun e w'=>e= .returned (.bool (dbOkB Ks))∧Below w1.heap.size w1 w'):=HD.out w1 v' L' ho hm;cases hok:dbOkB Ks with
  | true=>
   rw [hok] at HD2;obtain rfl:S=(Ks,R):=by rw [eS.out,hok];rfl
   clear eS;have HF:Hid (∀w2,Below w1.heap.size w1 w2→zbd w B (Ks,R) (.returned (.tuple #[v',rv])) w2):=fun w2 h2=>EK.out Ks v' L' w1 w2 hm ho hb h2;clear hm ho hb EK HS HD HER E3 hok;go_wp2_with fail;refine HD2.out.mono ?_;rintro e w2 ⟨rfl,hb2⟩;have HF2:Hid _:=HF.out w2 hb2;clear HF HD2 hb2;go_wp2;go_ret2;exact HF2.out
  | false=>
   rw [hok] at HD2;obtain rfl:S=(K0,zcb sFull):=by rw [eS.out,hok];rfl
   clear eS;have HF:Hid (∀r' w2 w3,Below w1.heap.size w1 w2→zbe w3 w2.heap.size r' (zcb sFull)→Below w2.heap.size w2 w3→zbd w B (K0,zcb sFull) (.returned (.tuple #[.slice a ln c,r'])) w3):=fun r' w2 w3 h1 h2 h3=>E3.out r' w2 w3 (hb.trans (h1.mono hb.size)) h2 h3;clear hm ho hb EK HS HD E3 hok;go_wp2_with fail;refine HD2.out.mono ?_;rintro e w2 ⟨rfl,hb2⟩;clear HD2;go_wp2_with fail;refine (HER.out w2).mono ?_;rintro e w3 ⟨r',rfl,hr3,hb3⟩;have HF2:Hid _:=HF.out r' w2 w3 hb2 hr3 hb3;clear HF HER hb2 hr3 hb3;go_wp2;go_ret2;exact HF2.out
theorem vown_res7 {w:World} {B b:Nat} {v:Vl} {vi vp vr:Value} (h:VOwn w B v vi vp vr) (hb:b<B) (v0 v1 v2 v3 v4 v5 v6:Value):VOwn (res7 w v0 v1 v2 v3 v4 v5 v6 b) B v vi vp vr:=by
 have hz:∀{e size n u xs},w.ownsRow B e size u n xs→(res7 w v0 v1 v2 v3 v4 v5 v6 b).ownsRow B e size u n xs:=fun hh=>zai hh fun g hg=>res7_block w _ _ _ _ _ _ _ _ g (by have:=(own_lt hh hg).1;omega);exact ⟨hz h.items,hz h.pairs,hz h.ranks⟩
structure NotMany (s:ByteArray):Prop where
 a:(s.toList==[80,73,78,71])=false
 b:(s.toList==[69,67,72,79])=false
 c:(s.toList==[70,76,85,83,72,65,76,76])=false
 d:(s.toList==[68,66,83,73,90,69])=false
 e:(s.toList==[75,69,89,83])=false
 f:(s.toList==[68,69,76])=false
 g:(s.toList==[69,88,73,83,84,83])=false
def KeyTail (kc now:Int) (w:World) (B:Nat) (MM:List Ke×List Rp) (v:Value) (nm:ByteArray) (there:Bool) (ab ao n:Nat) (K:Array Value) (W:World):Prop:=
 ∀ac',(kc=1→Calls Tryz.prog 94 #[v,.agg K,.bool there,.string nm,.slice (some ⟨ab,ao+1,none⟩) n ac'] W (zbd w B MM))
  ∧(kc=2→Calls Tryz.prog 95 #[v,.agg K,.bool there,.string nm,.slice (some ⟨ab,ao+1,none⟩) n ac'] W (zbd w B MM))
  ∧(kc=3→Calls Tryz.prog 96 #[v,.agg K,.string nm,.slice (some ⟨ab,ao+1,none⟩) n ac'] W (zbd w B MM))
  ∧(kc=4→Calls Tryz.prog 97 #[v,.agg K,.string nm,.slice (some ⟨ab,ao+1,none⟩) n ac'] W (zbd w B MM))
  ∧(kc=0→Calls Tryz.prog 98 #[v,.agg K,.bool there,.int .i64 now,.string nm,.slice (some ⟨ab,ao+1,none⟩) n ac'] W (zbd w B MM))
theorem done_new (B:Nat) (v:Value) (now:Int) (ab ao m ac:Nat) (t0 t1 nm:ByteArray) (w:World) (MM:List Ke×List Rp) (kc:Int) (c0:w.cell? ⟨ab,ao,none⟩=some (.string t0)) (c1:w.cell? ⟨ab,ao+1,none⟩=some (.string t1)) (hab:ab<w.heap.size) (h2:2≤m) (hm:m≤21) (hac:m≤ac) (HQ:NotMany nm) (HN:Hid (Calls Tryz.prog 87 #[.string t0] w fun e w'=>e= .returned (.string nm)∧Below w.heap.size w w')) (HFT:Hid (∀W,Calls Tryz.prog 88 #[.string nm,.int .i64 (m-1:Nat)] W fun e w'=>e= .returned (.tuple #[.bool true,.bool true])∧w'=W)) (HK:Hid (∀W,Calls Tryz.prog 91 #[.string nm] W fun e w'=>e= .returned (.int .i64 kc)∧w'=W)) (hk5:kc=0∨kc=1∨kc=2∨kc=3∨kc=4) (HF:Hid (∀W,Below w.heap.size w W→Calls Tryz.prog 92 #[v,.string t1] W fun e w'=>e= .returned (.int .i64 (-1))∧w'=W)) (HT:Hid (∀W,Below w.heap.size w W→KeyTail kc now w B MM v nm false ab ao (m-1) (kC t1 kc ⟨#[]⟩ (.slice none 0 0) (.slice none 0 0) (.slice none 0 0) 0) W)):
  Calls Tryz.prog 62 #[v,.int .i64 now,.slice (some ⟨ab,ao,none⟩) m ac] w (zbd w B MM):=by
 obtain ⟨q1,q2,q3,q4,q5,q6,q7⟩:=HQ;have h1i:(1:Int)≤(m:Int):=by omega
 have h0i:(0:Int)<(m:Int):=by omega
 have h0a:(0:Int)<(m:Int)-1:=by omega
 have h0b:0<m-1:=by omega
 have hmi:(m:Int)≤(ac:Int):=by omega
 have hac1:1<ac:=by omega
 go_enter Tryz.func62,Tryz.ntmps62;go_wp2_with fail;refine HN.out.mono ?_;rintro e w1 ⟨rfl,b1⟩;clear HN;have c1':=(b1.cell (p:=⟨ab,ao+1,none⟩) hab).trans c1;go_wp2_with fail;refine (HFT.out w1).mono ?_;rintro e w2 ⟨rfl,hw2⟩;subst hw2;clear HFT;go_wp2_with fail;refine (HK.out w2).mono ?_;rintro e w3 ⟨rfl,hw3⟩;subst hw3;clear HK;go_wp2_with fail;refine (HF.out w3 b1).mono ?_;rintro e w4 ⟨rfl,hw4⟩;subst hw4;clear HF;obtain ⟨W5,hW5,HW5,_,r5⟩:=boxed w4 (kC t1 kc ⟨#[]⟩ (.slice none 0 0) (.slice none 0 0) (.slice none 0 0) 0) 65;have b5:Below w.heap.size w W5:=by rw [←hW5];exact b1.alloc b1.size _
 have z4:w.heap.size≤w4.heap.size:=b1.size;have z5:w4.heap.size<W5.heap.size:=r5.lt;clear hW5;have HT5:Hid (KeyTail kc now w B MM v nm false ab ao (m-1) (kC t1 kc ⟨#[]⟩ (.slice none 0 0) (.slice none 0 0) (.slice none 0 0) 0) W5):=HT.out W5 b5;clear HT;obtain ⟨g0,g1,g2,g3,g4,g5,g6⟩:=row7 r5;clear r5;go_upto_region 13 with fail;rw [HW5.out];clear HW5 c0 c1 c1';generalize w4.heap.size=G at*;rcases hk5 with rfl|rfl|rfl|rfl|rfl;all_goals
  go_wp2_with fail;first|refine ((HT5.out _).1 rfl).mono ?_|refine ((HT5.out _).2.1 rfl).mono ?_|refine ((HT5.out _).2.2.1 rfl).mono ?_|refine ((HT5.out _).2.2.2.1 rfl).mono ?_|refine ((HT5.out _).2.2.2.2 rfl).mono ?_
  rintro e w9 ⟨v',r',L',rfl,y1,y2,y3,y4⟩;have HE:Hid (zbd w B MM (.returned (.tuple #[v',r'])) w9):=⟨v',r',L',rfl,y1,y2,y3,y4⟩;clear y1 y2 y3 y4 HT5;go_wp2;go_ret2;exact HE.out
theorem done_old (B:Nat) (v:Value) (now:Int) (ab ao m ac:Nat) (t0 t1 nm:ByteArray) (w:World) (MM:List Ke×List Rp) (kc:Int) (c0:w.cell? ⟨ab,ao,none⟩=some (.string t0)) (c1:w.cell? ⟨ab,ao+1,none⟩=some (.string t1)) (hab:ab<w.heap.size) (h2:2≤m) (hm:m≤21) (hac:m≤ac) (HQ:NotMany nm) (HN:Hid (Calls Tryz.prog 87 #[.string t0] w fun e w'=>e= .returned (.string nm)∧Below w.heap.size w w')) (HFT:Hid (∀W,Calls Tryz.prog 88 #[.string nm,.int .i64 (m-1:Nat)] W fun e w'=>e= .returned (.tuple #[.bool true,.bool true])∧w'=W)) (HK:Hid (∀W,Calls Tryz.prog 91 #[.string nm] W fun e w'=>e= .returned (.int .i64 kc)∧w'=W)) (i n ka c:Nat) (x:KV) (hx:KeAt w ka (i*7) x) (hka:ka<w.heap.size) (hi:i<n) (hv:v= .slice (some ⟨ka,0,none⟩) n c) (HF:Hid (∀W,Below w.heap.size w W→Calls Tryz.prog 92 #[v,.string t1] W fun e w'=>e= .returned (.int .i64 (i:Nat))∧w'=W)) (HC:Hid (∀W,Below w.heap.size w W→Calls Tryz.prog 66 #[kvV x] W (CopyEnd W x.key))) (hk5:kc=0∨kc=1∨kc=2∨kc=3∨kc=4) (HT:Hid (kc=0∨x.key.val.kind=kc→∀W G p1 n1 d1 p2 n2 d2 p3 n3 d3,Below w.heap.size w W→VOwn W G x.key.val (.slice p1 n1 d1) (.slice p2 n2 d2) (.slice p3 n3 d3)→n1=x.key.val.items.length→n2=x.key.val.pairs.length→n3=x.key.val.ranks.length→KeyTail kc now w B MM v nm true ab ao (m-1) (kC x.key.name x.key.val.kind x.key.val.text (.slice p1 n1 d1) (.slice p2 n2 d2) (.slice p3 n3 d3) x.key.due) W)) (HE:Hid (kc≠0∧x.key.val.kind≠kc→∀W r w',Below w.heap.size w W→zbe w' W.heap.size r rWrong→Below W.heap.size W w'→zbd w B MM (.returned (.tuple #[v,r])) w')):
  Calls Tryz.prog 62 #[v,.int .i64 now,.slice (some ⟨ab,ao,none⟩) m ac] w (zbd w B MM):=by
 subst hv;obtain ⟨⟨xn,⟨kd,tx,xi,xp,xr⟩,xd⟩,vi,vp,vr⟩:=x;obtain ⟨x0,x1,x2,x3,x4,x5,x6⟩:=hx;dsimp only at x0 x1 x2 x3 x4 x5 x6 HC HT HE;have hi0:(0:Int)≤(i:Int):=by omega
 have hin:(i:Int)<(n:Int):=by omega
 obtain ⟨q1,q2,q3,q4,q5,q6,q7⟩:=HQ;have h1i:(1:Int)≤(m:Int):=by omega
 have h0i:(0:Int)<(m:Int):=by omega
 have h0a:(0:Int)<(m:Int)-1:=by omega
 have h0b:0<m-1:=by omega
 have hmi:(m:Int)≤(ac:Int):=by omega
 have hac1:1<ac:=by omega
 go_enter Tryz.func62,Tryz.ntmps62;go_wp2_with fail;refine HN.out.mono ?_;rintro e w1 ⟨rfl,b1⟩;clear HN;have c1':=(b1.cell (p:=⟨ab,ao+1,none⟩) hab).trans c1;go_wp2_with fail;refine (HFT.out w1).mono ?_;rintro e w2 ⟨rfl,hw2⟩;subst hw2;clear HFT;go_wp2_with fail;refine (HK.out w2).mono ?_;rintro e w3 ⟨rfl,hw3⟩;subst hw3;clear HK;go_wp2_with fail;refine (HF.out w3 b1).mono ?_;rintro e w4 ⟨rfl,hw4⟩;subst hw4;clear HF;obtain ⟨W5,hW5,HW5,_,r5⟩:=boxed w4 (kC t1 kc ⟨#[]⟩ (.slice none 0 0) (.slice none 0 0) (.slice none 0 0) 0) 65;have b5:Below w.heap.size w W5:=by rw [←hW5];exact b1.alloc b1.size _
 have z4:w.heap.size≤w4.heap.size:=b1.size;have z5:w4.heap.size<W5.heap.size:=r5.lt;clear hW5;have e0:=(b5.cell (p:=⟨ka,i*7,none⟩) hka).trans x0;have e1:=(b5.cell (p:=⟨ka,i*7+1,none⟩) hka).trans x1;have e2:=(b5.cell (p:=⟨ka,i*7+2,none⟩) hka).trans x2;have e3:=(b5.cell (p:=⟨ka,i*7+3,none⟩) hka).trans x3;have e4:=(b5.cell (p:=⟨ka,i*7+4,none⟩) hka).trans x4;have e5:=(b5.cell (p:=⟨ka,i*7+5,none⟩) hka).trans x5;have e6:=(b5.cell (p:=⟨ka,i*7+6,none⟩) hka).trans x6;have HC5:Hid (Calls Tryz.prog 66 #[.agg #[.string xn,.int .i64 kd,.string tx,vi,vp,vr,.int .i64 xd]] W5 (CopyEnd W5 ⟨xn,⟨kd,tx,xi,xp,xr⟩,xd⟩)):=HC.out W5 b5;clear HC x0 x1 x2 x3 x4 x5 x6;go_upto_region 13 with fail;rw [HW5.out];clear HW5 c0 c1 c1';generalize w4.heap.size=G at*;go_wp2_with fail;refine HC5.out.mono ?_;rintro e w6 ⟨p1,d1,p2,d2,p3,d3,rfl,o6,b6⟩;dsimp only at o6;have r6:=r5.below b6 z5;obtain ⟨m0,m1,m2,m3,m4,m5,m6⟩:=row7 r6;have f0:=r6.frozen 0;have f1:=r6.frozen 1;have f2:=r6.frozen 2;have f3:=r6.frozen 3;have f4:=r6.frozen 4;have f5:=r6.frozen 5;have f6:=r6.frozen 6;have b6w:Below w.heap.size w w6:=b5.trans (b6.mono b5.size);have HV6:Hid (VOwn w6 W5.heap.size ⟨kd,tx,xi,xp,xr⟩ (.slice p1 xi.length d1) (.slice p2 xp.length d2) (.slice p3 xr.length d3)):=o6;clear o6;obtain ⟨n1,hn1⟩:∃n1,xi.length=n1:=⟨_,rfl⟩;obtain ⟨n2,hn2⟩:∃n2,xp.length=n2:=⟨_,rfl⟩;obtain ⟨n3,hn3⟩:∃n3,xr.length=n3:=⟨_,rfl⟩;rw [hn1,hn2,hn3] at HV6;rw [hn1,hn2,hn3];have HN1:Hid (n1=xi.length):=hn1.symm;have HN2:Hid (n2=xp.length):=hn2.symm;have HN3:Hid (n3=xr.length):=hn3.symm;clear hn1 hn2 hn3;have r7:RowAt (((((((w6.setCell ⟨G,0,none⟩ (.string xn)).setCell ⟨G,1,none⟩ (.int .i64 kd)).setCell ⟨G,2,none⟩ (.string tx)).setCell ⟨G,3,none⟩ (.slice p1 n1 d1)).setCell ⟨G,4,none⟩ (.slice p2 n2 d2)).setCell ⟨G,5,none⟩ (.slice p3 n3 d3)).setCell ⟨G,6,none⟩ (.int .i64 xd)) G 65 (kC xn kd tx (.slice p1 n1 d1) (.slice p2 n2 d2) (.slice p3 n3 d3) xd):=by
  have:=((((((r6.set 0 (.string xn)).set 1 (.int .i64 kd)).set 2 (.string tx)).set 3 (.slice p1 n1 d1)).set 4 (.slice p2 n2 d2)).set 5 (.slice p3 n3 d3)).set 6 (.int .i64 xd);simpa using this
 have b7:Below w.heap.size w (((((((w6.setCell ⟨G,0,none⟩ (.string xn)).setCell ⟨G,1,none⟩ (.int .i64 kd)).setCell ⟨G,2,none⟩ (.string tx)).setCell ⟨G,3,none⟩ (.slice p1 n1 d1)).setCell ⟨G,4,none⟩ (.slice p2 n2 d2)).setCell ⟨G,5,none⟩ (.slice p3 n3 d3)).setCell ⟨G,6,none⟩ (.int .i64 xd)):=res7_below b6w _ _ _ _ _ _ _ _ (by omega);have HV:Hid (VOwn (((((((w6.setCell ⟨G,0,none⟩ (.string xn)).setCell ⟨G,1,none⟩ (.int .i64 kd)).setCell ⟨G,2,none⟩ (.string tx)).setCell ⟨G,3,none⟩ (.slice p1 n1 d1)).setCell ⟨G,4,none⟩ (.slice p2 n2 d2)).setCell ⟨G,5,none⟩ (.slice p3 n3 d3)).setCell ⟨G,6,none⟩ (.int .i64 xd)) W5.heap.size ⟨kd,tx,xi,xp,xr⟩ (.slice p1 n1 d1) (.slice p2 n2 d2) (.slice p3 n3 d3)):=vown_res7 HV6.out (by omega) _ _ _ _ _ _ _;obtain ⟨W7,hW7⟩:∃W7,((((((w6.setCell ⟨G,0,none⟩ (.string xn)).setCell ⟨G,1,none⟩ (.int .i64 kd)).setCell ⟨G,2,none⟩ (.string tx)).setCell ⟨G,3,none⟩ (.slice p1 n1 d1)).setCell ⟨G,4,none⟩ (.slice p2 n2 d2)).setCell ⟨G,5,none⟩ (.slice p3 n3 d3)).setCell ⟨G,6,none⟩ (.int .i64 xd)=W7:=⟨_,rfl⟩;have HW7:Hid (((((((w6.setCell ⟨G,0,none⟩ (.string xn)).setCell ⟨G,1,none⟩ (.int .i64 kd)).setCell ⟨G,2,none⟩ (.string tx)).setCell ⟨G,3,none⟩ (.slice p1 n1 d1)).setCell ⟨G,4,none⟩ (.slice p2 n2 d2)).setCell ⟨G,5,none⟩ (.slice p3 n3 d3)).setCell ⟨G,6,none⟩ (.int .i64 xd)=W7):=hW7;rw [hW7] at r7 b7 HV;clear hW7 r5 r6 b6 e0 e1 e2 e3 e4 e5 e6 HV6;go_upto_region 15 with fail;rw [HW7.out];clear m0 m1 m2 m3 m4 m5 m6 f0 f1 f2 f3 f4 f5 f6 HW7 HC5;obtain ⟨g0,g1,g2,g3,g4,g5,g6⟩:=row7 r7;clear r7;by_cases hw:kc≠0∧kd≠kc
 ·have HE1:Hid (∀W r w',Below w.heap.size w W→zbe w' W.heap.size r rWrong→Below W.heap.size W w'→zbd w B MM (.returned (.tuple #[.slice (some ⟨ka,0,none⟩) n c,r])) w'):=HE.out hw;have hkb:(kd==kc)=false:=by simpa using hw.2
  have hkg:decide (0<kc)=true:=decide_eq_true (by omega);clear HE HT hw hk5;go_wp2_with fail;refine (wrong_any W7).mono ?_;rintro e w9 ⟨r,rfl,hr,hb⟩;have HF:Hid (zbd w B MM (.returned (.tuple #[.slice (some ⟨ka,0,none⟩) n c,r])) w9):=HE1.out W7 r w9 b7 hr hb;clear hr hb HE1;go_wp2;go_ret2;exact HF.out
 ·have HT7:Hid (KeyTail kc now w B MM (.slice (some ⟨ka,0,none⟩) n c) nm true ab ao (m-1) (kC xn kd tx (.slice p1 n1 d1) (.slice p2 n2 d2) (.slice p3 n3 d3) xd) W7):=HT.out (by omega) W7 _ p1 n1 d1 p2 n2 d2 p3 n3 d3 b7 HV.out HN1.out HN2.out HN3.out;have hkd:kc=0∨kd=kc:=by omega
  clear HE HT HV HN1 HN2 HN3 hw;rcases hk5 with rfl|rfl|rfl|rfl|rfl
  ·clear hkd;go_wp2_with fail;refine ((HT7.out _).2.2.2.2 rfl).mono ?_;rintro e w9 ⟨v',r',L',rfl,y1,y2,y3,y4⟩;have HE:Hid (zbd w B MM (.returned (.tuple #[v',r'])) w9):=⟨v',r',L',rfl,y1,y2,y3,y4⟩;clear y1 y2 y3 y4 HT7;go_wp2;go_ret2;exact HE.out
  all_goals
   obtain rfl:=hkd.resolve_left (by decide);clear hkd;go_wp2_with fail;first|refine ((HT7.out _).1 rfl).mono ?_|refine ((HT7.out _).2.1 rfl).mono ?_|refine ((HT7.out _).2.2.1 rfl).mono ?_|refine ((HT7.out _).2.2.2.1 rfl).mono ?_
   rintro e w9 ⟨v',r',L',rfl,y1,y2,y3,y4⟩;have HE:Hid (zbd w B MM (.returned (.tuple #[v',r'])) w9):=⟨v',r',L',rfl,y1,y2,y3,y4⟩;clear y1 y2 y3 y4 HT7;go_wp2;go_ret2;exact HE.out
end Go.Proofs.YtjpeglkkkllagaaGreatDoor
