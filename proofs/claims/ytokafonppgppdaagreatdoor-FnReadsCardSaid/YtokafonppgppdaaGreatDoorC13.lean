import Derived.Test.YtokafonppgppdaaGreatDoorC9
set_option maxHeartbeats 4000000
set_option maxRecDepth 100000
namespace Go.Proofs.YtokafonppgppdaaGreatDoor
open Tryz
open _root_.ByteArray (empty)
open Go.RowKit Go.Sort
open Kk (Rk rk0 zd7 zju zc6 zea zeb zec za9 zbk encR zdh zbz str_eq)
variable {w w1 w2 w' wr:World} {B Br n:Nat} {R:List Rp} {rv v V:Value} {L:List KV} {M:List RV} {ks:List Nat} {T:List ByteArray}
theorem yfa (k:Ke):∀(ks:List Ke) (s:List Ke×Bool),(ks.foldl (zb4 k) s).1.length<=s.1.length+2*ks.length
 | [],s=>by simp
 |x::xs,s=>by
  rw [List.foldl_cons];have h1:=yfa k xs (zb4 k s x);have h2:(zb4 k s x).1.length<=s.1.length+2:=by
   unfold zb4;split<;>split<;>simp
  rw [Q1];omega
theorem zje (ks:List Ke) (k:Ke):(zaq ks k).length<=2*ks.length+1:=by
 have:=yfa k ks ([],false);unfold zaq stS;split
 ·simp at this ⊢;omega
 ·simp at this ⊢;omega
theorem zbd.keys {ks:List Ke} (hB:B<=w.heap.size) (hr:zbe w Br rv R) (hm:L.map KV.key=ks) (hd:zaw w1 w.heap.size v L) (hb:Bl w w1) (hb2:Bl w1 w2):zbs w B Br (ks,R) (.returned (.tuple #[v,rv])) w2:=
 have h2:Bl w w2:=hb.trans (hb2.mono hb.size)
 ⟨v,rv,L,rfl,hm,(hd.bw hb2).le hB,hr.bw h2,h2⟩
theorem zbd.same (hd:zaw w B v L) (_hB:B<=w.heap.size) (hb:Bl w w1) (hr:zbe w2 w1.heap.size rv R) (hb2:Bl w1 w2):zbd w B (L.map KV.key,R) (.returned (.tuple #[v,rv])) w2:=
 have h2:Bl w w2:=hb.trans (hb2.mono hb.size)
 ⟨v,rv,L,rfl,rfl,hd.bw h2,hr.le hb.size,h2⟩
theorem zeg {W0:World} (h:zaw w B v L) (hB:B<=w.heap.size) (b0:Bl w W0):Hid (∀R r w1 w2,Bl W0 w1->zbe w2 w1.heap.size r R->Bl w1 w2->zbd w B (L.map KV.key,R) (.returned (.tuple #[v,r])) w2):=fun _ _ _ _ h1 h2 h3=>zbd.same h hB (b0.trans (h1.mono b0.size)) h2 h3
theorem zbd.toS {p:List Ke×List Rp} {e:Ending} (h:zbd w B p e w') (hb:Br<=w.heap.size):zbs w B Br p e w':=by
 obtain ⟨v,r,L,h1,h2,h3,h4,h5⟩:=h;exact ⟨v,r,L,h1,h2,h3,h4.le hb,h5⟩
theorem zel (B:Nat) (v:Value) (L:List KV) (x:KV) (rv:Value) (R:List Rp) (w:World) (h:zaw w B v L) (hf:zda (L.map KV.key)) (hn:L.length<=500000) (hx:VRd w x.key.val x.vi x.vp x.vr) (hxf:zo7 x.key) (hr:zbe w Br rv R) (hB:B<=w.heap.size) (hBr:Br<=w.heap.size):
  Calls prog 147 #[v,kvV x,rv] w (zbs w B Br (za1 (L.map KV.key) x.key R)):=by
 obtain ⟨⟨p1,P1,o1,d1,e1,i1,f1⟩,⟨p2,P2,d2,e2,i2,f2⟩,⟨p3,P3,o3,d3,e3,i3,f3⟩⟩:=hx;obtain ⟨⟨xn,xv,xd⟩,vi,vp,vr⟩:=x;dsimp only at e1 e2 e3 i1 i2 i3 hxf;subst e1 e2 e3;have hx:VRd w xv (.slice p1 xv.ia.length d1) (.slice p2 xv.pj.length d2) (.slice p3 xv.rq.length d3):=⟨⟨p1,P1,o1,d1,rfl,i1,f1⟩,⟨p2,P2,d2,rfl,i2,f2⟩,⟨p3,P3,o3,d3,rfl,i3,f3⟩⟩;obtain ⟨a,A,c,e,hd,hat⟩:=h.din hf.fits;subst e;have s1:xv.ia.length<=524288:=hxf.fit.ia;have s2:xv.pj.length<=524288:=hxf.fit.pj;have s3:xv.rq.length<=524288:=hxf.fit.rq;show Calls prog 147 #[.slice a L.length c,.agg (kC xn xv.kind xv.text (.slice p1 xv.ia.length d1) (.slice p2 xv.pj.length d2) (.slice p3 xv.rq.length d3) xd),rv] w (zbs w B Br (za1 (L.map KV.key) ⟨xn,xv,xd⟩ R));obtain ⟨W0,hW0,HW0,b0,_⟩:=boxed w (kC xn xv.kind xv.text (.slice p1 xv.ia.length d1) (.slice p2 xv.pj.length d2) (.slice p3 xv.rq.length d3) xd) 47;have HG:Hid (Cp 143 #[.slice a L.length c,.string xn] W0 (zc1 W0 (zbl (L.map KV.key) xn))):=zky a A L.length c L xn W0 (hd.bw b0) (by omega);have HS:Hid (Cp 79 #[.slice a L.length c,.agg (kC xn xv.kind xv.text (.slice p1 xv.ia.length d1) (.slice p2 xv.pj.length d2) (.slice p3 xv.rq.length d3) xd)] W0 (zc1 W0 (zaq (L.map KV.key) ⟨xn,xv,xd⟩))):=zhe a A L.length c L ⟨⟨xn,xv,xd⟩,.slice p1 xv.ia.length d1,.slice p2 xv.pj.length d2,.slice p3 xv.rq.length d3⟩ W0 (hd.bw b0) (hx.bw b0) (by show xv.ia.length<=_;omega) (by show xv.pj.length<=_;omega) (by show xv.rq.length<=_;omega) hn;have HD:Hid (∀W v' L',zaw W W0.heap.size v' L'->L'.map KV.key=zaq (L.map KV.key) ⟨xn,xv,xd⟩->Cp 51 #[v'] W fun e w'=>e= .returned (.bool (zan (zaq (L.map KV.key) ⟨xn,xv,xd⟩)))/\Bl W w'):=fun W v' L' ho hm=>by
  have hF:zda (L'.map KV.key):=by rw [hm];exact hf.stored hxf
  obtain ⟨a',A',c',rfl,_,hat'⟩:=ho.din hF.fits;rw [<- hm]
  exact zin a' A' L'.length c' L' W hat' hF.fits (by
   have h1:L'.length=(zaq (L.map KV.key) ⟨xn,xv,xd⟩).length:=by rw [<- hm];simp
   have h2:=zje (L.map KV.key) ⟨xn,xv,xd⟩;rw [Qp] at h2;omega)
 have HER:Hid (∀W,Cp 98 #[.string ⟨#[102,117,108,108]⟩] W (zci W (zcb ze8))):=fun W=>zdf ze8 (by decide) W;have hB0:=Qj hB b0.size;have EK:Hid (∀ks v' L' w1 w2,L'.map KV.key=ks->zaw w1 W0.heap.size v' L'->Bl W0 w1->Bl w1 w2->zbs w B Br (ks,R) (.returned (.tuple #[v',rv])) w2):=fun ks v' L' w1 w2 h1 h2 h3 h4=>zbd.keys hB hr h1 (h2.le b0.size) (b0.trans (h3.mono b0.size)) h4;have E3:Hid (∀r' w1 w2,Bl W0 w1->zbe w2 w1.heap.size r' (zcb ze8)->Bl w1 w2->zbs w B Br (L.map KV.key,zcb ze8) (.returned (.tuple #[.slice a L.length c,r'])) w2):=fun r' w1 w2 h1 h2 h3=>(zbd.same h hB (b0.trans (h1.mono b0.size)) h2 h3).toS hBr;have HM:Hid (za1 (L.map KV.key) ⟨xn,xv,xd⟩ R=if (decide (xv.ia.length+xv.pj.length+xv.rq.length=0) && !decide (xv.kind=1))=true then (zbl (L.map KV.key) xn,R) else if zan (zaq (L.map KV.key) ⟨xn,xv,xd⟩)=true then (zaq (L.map KV.key) ⟨xn,xv,xd⟩,R) else (L.map KV.key,zcb ze8)):=rfl;clear h hf hd hat hxf hr hx hW0 i1 i2 i3 f1 f2 f3 b0 hB0;generalize za1 (L.map KV.key) ⟨xn,xv,xd⟩ R=S,zbl (L.map KV.key) xn=Kg,zaq (L.map KV.key) ⟨xn,xv,xd⟩=Ks at*;generalize L.map KV.key=K0,L.length=ln,xv.ia.length=n1,xv.pj.length=n2,xv.rq.length=n3,xv.kind=kd,xv.text=tx at*;by_cases hz:n1+n2+n3=0
 ·obtain rfl:n1=0:=by omega
  obtain rfl:n2=0:=by omega
  obtain rfl:n3=0:=by omega
  by_cases hk:kd=1
  ·subst hk;have eS:Hid (S=if zan Ks=true then (Ks,R) else (K0,zcb ze8)):=by unfold Hid;rw [HM.out,if_neg (by simp)]
   clear HM HG;go_enter func147,ntmps147;go_wp2_with fail;rw [HW0.out];refine HS.out.mono ?_;rintro e w1 ⟨v',L',rfl,hm,ho,hb⟩;have HD2:Hid (Cp 51 #[v'] w1 fun e w'=>e= .returned (.bool (zan Ks))/\Bl w1 w'):=HD.out w1 v' L' ho hm;cases hok:zan Ks with
   | true=>
    rw [hok] at HD2;obtain rfl:S=(Ks,R):=by rw [eS.out,hok];rfl
    clear eS;have HF:Hid (∀w2,Bl w1 w2->zbs w B Br (Ks,R) (.returned (.tuple #[v',rv])) w2):=fun w2 h2=>EK.out Ks v' L' w1 w2 hm ho hb h2;clear hm ho hb EK HS HD HER E3 hok;go_wp2_with fail;refine HD2.out.mono ?_;rintro e w2 ⟨rfl,hb2⟩;have HF2:Hid _:=HF.out w2 hb2;clear HF HD2 hb2;go_wp2;go_ret2;exact HF2.out
   | false=>
    rw [hok] at HD2;obtain rfl:S=(K0,zcb ze8):=by rw [eS.out,hok];rfl
    clear eS;have HF:Hid (∀r' w2 w3,Bl w1 w2->zbe w3 w2.heap.size r' (zcb ze8)->Bl w2 w3->zbs w B Br (K0,zcb ze8) (.returned (.tuple #[.slice a ln c,r'])) w3):=fun r' w2 w3 h1 h2 h3=>E3.out r' w2 w3 (hb.trans (h1.mono hb.size)) h2 h3;clear hm ho hb EK HS HD E3 hok;go_wp2_with fail;refine HD2.out.mono ?_;rintro e w2 ⟨rfl,hb2⟩;clear HD2;go_wp2_with fail;refine (HER.out w2).mono ?_;rintro e w3 ⟨r',rfl,hr3,hb3⟩;have HF2:Hid _:=HF.out r' w2 w3 hb2 hr3 hb3;clear HF HER hb2 hr3 hb3;go_wp2;go_ret2;exact HF2.out
  ·have eS:S=(Kg,R):=by rw [HM.out,if_pos (by simp [hk])]
   subst eS;have hk2:(kd !=1)=true:=by simpa using hk
   clear HM HS HD HER E3 hk;go_enter func147,ntmps147;go_wp2_with fail;rw [HW0.out];refine HG.out.mono ?_;rintro e w1 ⟨v',L',rfl,hm,ho,hb⟩;have HF:Hid _:=EK.out Kg v' L' w1 w1 hm ho hb (Qb _ _);clear hm ho hb EK HG;go_wp2;go_ret2;exact HF.out
 ·have eS:Hid (S=if zan Ks=true then (Ks,R) else (K0,zcb ze8)):=by unfold Hid;rw [HM.out,if_neg (by simp;omega)]
  have hz1:((n1:Int)+n2+n3==0)=false:=by simp;omega
  clear HM HG;go_enter func147,ntmps147;go_wp2_with fail;rw [HW0.out];refine HS.out.mono ?_;rintro e w1 ⟨v',L',rfl,hm,ho,hb⟩;have HD2:Hid (Cp 51 #[v'] w1 fun e w'=>e= .returned (.bool (zan Ks))/\Bl w1 w'):=HD.out w1 v' L' ho hm;cases hok:zan Ks with
  | true=>
   rw [hok] at HD2;obtain rfl:S=(Ks,R):=by rw [eS.out,hok];rfl
   clear eS;have HF:Hid (∀w2,Bl w1 w2->zbs w B Br (Ks,R) (.returned (.tuple #[v',rv])) w2):=fun w2 h2=>EK.out Ks v' L' w1 w2 hm ho hb h2;clear hm ho hb EK HS HD HER E3 hok;go_wp2_with fail;refine HD2.out.mono ?_;rintro e w2 ⟨rfl,hb2⟩;have HF2:Hid _:=HF.out w2 hb2;clear HF HD2 hb2;go_wp2;go_ret2;exact HF2.out
  | false=>
   rw [hok] at HD2;obtain rfl:S=(K0,zcb ze8):=by rw [eS.out,hok];rfl
   clear eS;have HF:Hid (∀r' w2 w3,Bl w1 w2->zbe w3 w2.heap.size r' (zcb ze8)->Bl w2 w3->zbs w B Br (K0,zcb ze8) (.returned (.tuple #[.slice a ln c,r'])) w3):=fun r' w2 w3 h1 h2 h3=>E3.out r' w2 w3 (hb.trans (h1.mono hb.size)) h2 h3;clear hm ho hb EK HS HD E3 hok;go_wp2_with fail;refine HD2.out.mono ?_;rintro e w2 ⟨rfl,hb2⟩;clear HD2;go_wp2_with fail;refine (HER.out w2).mono ?_;rintro e w3 ⟨r',rfl,hr3,hb3⟩;have HF2:Hid _:=HF.out r' w2 w3 hb2 hr3 hb3;clear HF HER hb2 hr3 hb3;go_wp2;go_ret2;exact HF2.out
theorem ybp {b:Nat} {v:Vl} {vi vp vr:Value} (h:VOwn w B v vi vp vr) (hb:b<B) (v0 v1 v2 v3 v4 v5 v6:Value):VOwn (zx8 w v0 v1 v2 v3 v4 v5 v6 b) B v vi vp vr:=by
 have hz:∀{e size n u xs},w.ownsRow B e size u n xs->(zx8 w v0 v1 v2 v3 v4 v5 v6 b).ownsRow B e size u n xs:=fun hh=>zai hh fun g hg=>zg8 w _ _ _ _ _ _ _ _ g (by have:=(zaz hh hg).1;omega);exact ⟨hz h.ia,hz h.pj,hz h.rq⟩
structure zsh (s:ByteArray):Prop where
 a:(s.toList==[80,73,78,71])=false
 b:(s.toList==[69,67,72,79])=false
 c:(s.toList==[70,76,85,83,72,65,76,76])=false
 d:(s.toList==[68,66,83,73,90,69])=false
 e:(s.toList==[75,69,89,83])=false
 f:(s.toList==[68,69,76])=false
 g:(s.toList==[69,88,73,83,84,83])=false
def zl4 (kc now:Int) (w:World) (B:Nat) (MM:List Ke×List Rp) (v:Value) (nm:ByteArray) (there:Bool) (ab ao n:Nat) (K:Array Value) (W:World):Prop:=
 ∀ac',(kc=1->Calls prog 104 #[v,.agg K,.bool there,.string nm,.slice (some ⟨ab,ao+1,none⟩) n ac'] W (zbd w B MM))
  /\(kc=2->Calls prog 105 #[v,.agg K,.bool there,.string nm,.slice (some ⟨ab,ao+1,none⟩) n ac'] W (zbd w B MM))
  /\(kc=3->Calls prog 106 #[v,.agg K,.string nm,.slice (some ⟨ab,ao+1,none⟩) n ac'] W (zbd w B MM))
  /\(kc=4->Calls prog 107 #[v,.agg K,.string nm,.slice (some ⟨ab,ao+1,none⟩) n ac'] W (zbd w B MM))
  /\(kc=0->Calls prog 108 #[v,.agg K,.bool there,.int .i64 now,.string nm,.slice (some ⟨ab,ao+1,none⟩) n ac'] W (zbd w B MM))
section
variable (B:Nat) (v:Value) (now:Int) (ab ao m ac:Nat) (t0 t1 nm:ByteArray) (w:World)
theorem ycw (MM:List Ke×List Rp) (kc:Int) (c0:w.cell? ⟨ab,ao,none⟩=some (.string t0)) (c1:w.cell? ⟨ab,ao+1,none⟩=some (.string t1)) (hab:ab<w.heap.size) (h2:2<=m) (hm:m<=21) (hac:m<=ac) (HQ:zsh nm) (HN:Hid (Cp 96 #[.string t0] w fun e w'=>e= .returned (.string nm)/\Bl w w')) (HFT:Hid (∀W,Cp 97 #[.string nm,.int .i64 (m-1:Nat)] W fun e w'=>e= .returned (.tuple #[.bool true,.bool true])/\w'=W)) (HK:Hid (∀W,Cp 100 #[.string nm] W fun e w'=>e= .returned (.int .i64 kc)/\w'=W)) (hk5:kc=0\/kc=1\/kc=2\/kc=3\/kc=4) (HF:Hid (∀W,Bl w W->Cp 101 #[v,.string t1] W fun e w'=>e= .returned (.int .i64 (-1))/\w'=W)) (HT:Hid (∀W,Bl w W->zl4 kc now w B MM v nm false ab ao (m-1) (kC t1 kc ⟨#[]⟩ (.slice none 0 0) (.slice none 0 0) (.slice none 0 0) 0) W)):
  Calls prog 54 #[v,.int .i64 now,.slice (some ⟨ab,ao,none⟩) m ac] w (zbd w B MM):=by
 obtain ⟨q1,q2,q3,q4,q5,q6,q7⟩:=HQ;have h1i:(1:Int)<=(m:Int):=by omega
 have h0i:(0:Int)<(m:Int):=by omega
 have h0a:(0:Int)<(m:Int)-1:=by omega
 have h0b:0<m-1:=by omega
 have hmi:(m:Int)<=(ac:Int):=by omega
 have hac1:1<ac:=by omega
 go_enter func54,ntmps54;go_wp2_with fail;refine HN.out.mono ?_;rintro e w1 ⟨rfl,b1⟩;clear HN;have c1':=(b1.cell (p:=⟨ab,ao+1,none⟩) hab).trans c1;go_wp2_with fail;refine (HFT.out w1).mono ?_;rintro e w2 ⟨rfl,hw2⟩;subst hw2;clear HFT;go_wp2_with fail;refine (HK.out w2).mono ?_;rintro e w3 ⟨rfl,hw3⟩;subst hw3;clear HK;go_wp2_with fail;refine (HF.out w3 b1).mono ?_;rintro e w4 ⟨rfl,hw4⟩;subst hw4;clear HF;obtain ⟨W5,hW5,HW5,_,r5⟩:=boxed w4 (kC t1 kc ⟨#[]⟩ (.slice none 0 0) (.slice none 0 0) (.slice none 0 0) 0) 47;have b5:Bl w W5:=by rw [<-hW5];exact b1.alloc b1.size _
 have z4:w.heap.size<=w4.heap.size:=b1.size;have z5:w4.heap.size<W5.heap.size:=r5.lt;clear hW5;have HT5:Hid (zl4 kc now w B MM v nm false ab ao (m-1) (kC t1 kc ⟨#[]⟩ (.slice none 0 0) (.slice none 0 0) (.slice none 0 0) 0) W5):=HT.out W5 b5;clear HT;obtain ⟨g0,g1,g2,g3,g4,g5,g6⟩:=zdo r5;clear r5;go_upto_region 13 with fail;rw [HW5.out];clear HW5 c0 c1 c1';generalize w4.heap.size=G at*;rcases hk5 with rfl|rfl|rfl|rfl|rfl;all_goals
  go_wp2_with fail;first|refine ((HT5.out _).1 rfl).mono ?_|refine ((HT5.out _).2.1 rfl).mono ?_|refine ((HT5.out _).2.2.1 rfl).mono ?_|refine ((HT5.out _).2.2.2.1 rfl).mono ?_|refine ((HT5.out _).2.2.2.2 rfl).mono ?_
  rintro e w9 ⟨v',r',L',rfl,y1,y2,y3,y4⟩;have HE:Hid (zbd w B MM (.returned (.tuple #[v',r'])) w9):=⟨v',r',L',rfl,y1,y2,y3,y4⟩;clear y1 y2 y3 y4 HT5;go_wp2;go_ret2;exact HE.out
theorem yd6 (MM:List Ke×List Rp) (kc:Int) (c0:w.cell? ⟨ab,ao,none⟩=some (.string t0)) (c1:w.cell? ⟨ab,ao+1,none⟩=some (.string t1)) (hab:ab<w.heap.size) (h2:2<=m) (hm:m<=21) (hac:m<=ac) (HQ:zsh nm) (HN:Hid (Cp 96 #[.string t0] w fun e w'=>e= .returned (.string nm)/\Bl w w')) (HFT:Hid (∀W,Cp 97 #[.string nm,.int .i64 (m-1:Nat)] W fun e w'=>e= .returned (.tuple #[.bool true,.bool true])/\w'=W)) (HK:Hid (∀W,Cp 100 #[.string nm] W fun e w'=>e= .returned (.int .i64 kc)/\w'=W)) (i n ka c:Nat) (x:KV) (hx:yih w ka (i*7) x) (hka:ka<w.heap.size) (hi:i<n) (hv:v= .slice (some ⟨ka,0,none⟩) n c) (HF:Hid (∀W,Bl w W->Cp 101 #[v,.string t1] W fun e w'=>e= .returned (.int .i64 (i:Nat))/\w'=W)) (HC:Hid (∀W,Bl w W->Cp 102 #[kvV x] W (zf5 W x.key))) (hk5:kc=0\/kc=1\/kc=2\/kc=3\/kc=4) (HT:Hid (kc=0\/x.key.val.kind=kc->∀W G p1 n1 d1 p2 n2 d2 p3 n3 d3,Bl w W->VOwn W G x.key.val (.slice p1 n1 d1) (.slice p2 n2 d2) (.slice p3 n3 d3)->n1=x.key.val.ia.length->n2=x.key.val.pj.length->n3=x.key.val.rq.length->zl4 kc now w B MM v nm true ab ao (m-1) (kC x.key.name x.key.val.kind x.key.val.text (.slice p1 n1 d1) (.slice p2 n2 d2) (.slice p3 n3 d3) x.key.due) W)) (HE:Hid (kc≠0/\x.key.val.kind≠kc->∀W r w',Bl w W->zbe w' W.heap.size r zhs->Bl W w'->zbd w B MM (.returned (.tuple #[v,r])) w')):
  Calls prog 54 #[v,.int .i64 now,.slice (some ⟨ab,ao,none⟩) m ac] w (zbd w B MM):=by
 subst hv;obtain ⟨⟨xn,⟨kd,tx,xi,xp,xr⟩,xd⟩,vi,vp,vr⟩:=x;obtain ⟨x0,x1,x2,x3,x4,x5,x6⟩:=hx;dsimp only at x0 x1 x2 x3 x4 x5 x6 HC HT HE;have hi0:(0:Int)<=(i:Int):=by omega
 have hin:(i:Int)<(n:Int):=by omega
 obtain ⟨q1,q2,q3,q4,q5,q6,q7⟩:=HQ;have h1i:(1:Int)<=(m:Int):=by omega
 have h0i:(0:Int)<(m:Int):=by omega
 have h0a:(0:Int)<(m:Int)-1:=by omega
 have h0b:0<m-1:=by omega
 have hmi:(m:Int)<=(ac:Int):=by omega
 have hac1:1<ac:=by omega
 go_enter func54,ntmps54;go_wp2_with fail;refine HN.out.mono ?_;rintro e w1 ⟨rfl,b1⟩;clear HN;have c1':=(b1.cell (p:=⟨ab,ao+1,none⟩) hab).trans c1;go_wp2_with fail;refine (HFT.out w1).mono ?_;rintro e w2 ⟨rfl,hw2⟩;subst hw2;clear HFT;go_wp2_with fail;refine (HK.out w2).mono ?_;rintro e w3 ⟨rfl,hw3⟩;subst hw3;clear HK;go_wp2_with fail;refine (HF.out w3 b1).mono ?_;rintro e w4 ⟨rfl,hw4⟩;subst hw4;clear HF;obtain ⟨W5,hW5,HW5,_,r5⟩:=boxed w4 (kC t1 kc ⟨#[]⟩ (.slice none 0 0) (.slice none 0 0) (.slice none 0 0) 0) 47;have b5:Bl w W5:=by rw [<-hW5];exact b1.alloc b1.size _
 have z4:w.heap.size<=w4.heap.size:=b1.size;have z5:w4.heap.size<W5.heap.size:=r5.lt;clear hW5;have e0:=(b5.cell (p:=⟨ka,i*7,none⟩) hka).trans x0;have e1:=(b5.cell (p:=⟨ka,i*7+1,none⟩) hka).trans x1;have e2:=(b5.cell (p:=⟨ka,i*7+2,none⟩) hka).trans x2;have e3:=(b5.cell (p:=⟨ka,i*7+3,none⟩) hka).trans x3;have e4:=(b5.cell (p:=⟨ka,i*7+4,none⟩) hka).trans x4;have e5:=(b5.cell (p:=⟨ka,i*7+5,none⟩) hka).trans x5;have e6:=(b5.cell (p:=⟨ka,i*7+6,none⟩) hka).trans x6;have HC5:Hid (Cp 102 #[.agg #[.string xn,.int .i64 kd,.string tx,vi,vp,vr,.int .i64 xd]] W5 (zf5 W5 ⟨xn,⟨kd,tx,xi,xp,xr⟩,xd⟩)):=HC.out W5 b5;clear HC x0 x1 x2 x3 x4 x5 x6;go_upto_region 13 with fail;rw [HW5.out];clear HW5 c0 c1 c1';generalize w4.heap.size=G at*;go_wp2_with fail;refine HC5.out.mono ?_;rintro e w6 ⟨p1,d1,p2,d2,p3,d3,rfl,o6,b6⟩;dsimp only at o6;have r6:=r5.bw b6 z5;obtain ⟨m0,m1,m2,m3,m4,m5,m6⟩:=zdo r6;have f0:=r6.frozen 0;have f1:=r6.frozen 1;have f2:=r6.frozen 2;have f3:=r6.frozen 3;have f4:=r6.frozen 4;have f5:=r6.frozen 5;have f6:=r6.frozen 6;have b6w:Bl w w6:=b5.trans (b6.mono b5.size);have HV6:Hid (VOwn w6 W5.heap.size ⟨kd,tx,xi,xp,xr⟩ (.slice p1 xi.length d1) (.slice p2 xp.length d2) (.slice p3 xr.length d3)):=o6;clear o6;obtain ⟨n1,hn1⟩:∃n1,xi.length=n1:=⟨_,rfl⟩;obtain ⟨n2,hn2⟩:∃n2,xp.length=n2:=⟨_,rfl⟩;obtain ⟨n3,hn3⟩:∃n3,xr.length=n3:=⟨_,rfl⟩;rw [hn1,hn2,hn3] at HV6;rw [hn1,hn2,hn3];have HN1:Hid (n1=xi.length):=hn1.symm;have HN2:Hid (n2=xp.length):=hn2.symm;have HN3:Hid (n3=xr.length):=hn3.symm;clear hn1 hn2 hn3;have r7:zab (((((((w6.setCell ⟨G,0,none⟩ (.string xn)).setCell ⟨G,1,none⟩ (.int .i64 kd)).setCell ⟨G,2,none⟩ (.string tx)).setCell ⟨G,3,none⟩ (.slice p1 n1 d1)).setCell ⟨G,4,none⟩ (.slice p2 n2 d2)).setCell ⟨G,5,none⟩ (.slice p3 n3 d3)).setCell ⟨G,6,none⟩ (.int .i64 xd)) G 47 (kC xn kd tx (.slice p1 n1 d1) (.slice p2 n2 d2) (.slice p3 n3 d3) xd):=by
  have:=((((((r6.set 0 (.string xn)).set 1 (.int .i64 kd)).set 2 (.string tx)).set 3 (.slice p1 n1 d1)).set 4 (.slice p2 n2 d2)).set 5 (.slice p3 n3 d3)).set 6 (.int .i64 xd);simpa using this
 have b7:Bl w (((((((w6.setCell ⟨G,0,none⟩ (.string xn)).setCell ⟨G,1,none⟩ (.int .i64 kd)).setCell ⟨G,2,none⟩ (.string tx)).setCell ⟨G,3,none⟩ (.slice p1 n1 d1)).setCell ⟨G,4,none⟩ (.slice p2 n2 d2)).setCell ⟨G,5,none⟩ (.slice p3 n3 d3)).setCell ⟨G,6,none⟩ (.int .i64 xd)):=zg7 b6w _ _ _ _ _ _ _ _ (by omega);have HV:Hid (VOwn (((((((w6.setCell ⟨G,0,none⟩ (.string xn)).setCell ⟨G,1,none⟩ (.int .i64 kd)).setCell ⟨G,2,none⟩ (.string tx)).setCell ⟨G,3,none⟩ (.slice p1 n1 d1)).setCell ⟨G,4,none⟩ (.slice p2 n2 d2)).setCell ⟨G,5,none⟩ (.slice p3 n3 d3)).setCell ⟨G,6,none⟩ (.int .i64 xd)) W5.heap.size ⟨kd,tx,xi,xp,xr⟩ (.slice p1 n1 d1) (.slice p2 n2 d2) (.slice p3 n3 d3)):=ybp HV6.out (by omega) _ _ _ _ _ _ _;obtain ⟨W7,hW7⟩:∃W7,((((((w6.setCell ⟨G,0,none⟩ (.string xn)).setCell ⟨G,1,none⟩ (.int .i64 kd)).setCell ⟨G,2,none⟩ (.string tx)).setCell ⟨G,3,none⟩ (.slice p1 n1 d1)).setCell ⟨G,4,none⟩ (.slice p2 n2 d2)).setCell ⟨G,5,none⟩ (.slice p3 n3 d3)).setCell ⟨G,6,none⟩ (.int .i64 xd)=W7:=⟨_,rfl⟩;have HW7:Hid (((((((w6.setCell ⟨G,0,none⟩ (.string xn)).setCell ⟨G,1,none⟩ (.int .i64 kd)).setCell ⟨G,2,none⟩ (.string tx)).setCell ⟨G,3,none⟩ (.slice p1 n1 d1)).setCell ⟨G,4,none⟩ (.slice p2 n2 d2)).setCell ⟨G,5,none⟩ (.slice p3 n3 d3)).setCell ⟨G,6,none⟩ (.int .i64 xd)=W7):=hW7;rw [hW7] at r7 b7 HV;clear hW7 r5 r6 b6 e0 e1 e2 e3 e4 e5 e6 HV6;go_upto_region 15 with fail;rw [HW7.out];clear m0 m1 m2 m3 m4 m5 m6 f0 f1 f2 f3 f4 f5 f6 HW7 HC5;obtain ⟨g0,g1,g2,g3,g4,g5,g6⟩:=zdo r7;clear r7;by_cases hw:kc≠0/\kd≠kc
 ·have HE1:Hid (∀W r w',Bl w W->zbe w' W.heap.size r zhs->Bl W w'->zbd w B MM (.returned (.tuple #[.slice (some ⟨ka,0,none⟩) n c,r])) w'):=HE.out hw;have hkb:(kd==kc)=false:=by simpa using hw.2
  have hkg:decide (0<kc)=true:=Qe (by omega);clear HE HT hw hk5;go_wp2_with fail;refine (ya5 W7).mono ?_;rintro e w9 ⟨r,rfl,hr,hb⟩;have HF:Hid (zbd w B MM (.returned (.tuple #[.slice (some ⟨ka,0,none⟩) n c,r])) w9):=HE1.out W7 r w9 b7 hr hb;clear hr hb HE1;go_wp2;go_ret2;exact HF.out
 ·have HT7:Hid (zl4 kc now w B MM (.slice (some ⟨ka,0,none⟩) n c) nm true ab ao (m-1) (kC xn kd tx (.slice p1 n1 d1) (.slice p2 n2 d2) (.slice p3 n3 d3) xd) W7):=HT.out (by omega) W7 _ p1 n1 d1 p2 n2 d2 p3 n3 d3 b7 HV.out HN1.out HN2.out HN3.out;have hkd:kc=0\/kd=kc:=by omega
  clear HE HT HV HN1 HN2 HN3 hw;rcases hk5 with rfl|rfl|rfl|rfl|rfl
  ·clear hkd;go_wp2_with fail;refine ((HT7.out _).2.2.2.2 rfl).mono ?_;rintro e w9 ⟨v',r',L',rfl,y1,y2,y3,y4⟩;have HE:Hid (zbd w B MM (.returned (.tuple #[v',r'])) w9):=⟨v',r',L',rfl,y1,y2,y3,y4⟩;clear y1 y2 y3 y4 HT7;go_wp2;go_ret2;exact HE.out
  all_goals
   obtain rfl:=hkd.resolve_left (by decide);clear hkd;go_wp2_with fail;first|refine ((HT7.out _).1 rfl).mono ?_|refine ((HT7.out _).2.1 rfl).mono ?_|refine ((HT7.out _).2.2.1 rfl).mono ?_|refine ((HT7.out _).2.2.2.1 rfl).mono ?_
   rintro e w9 ⟨v',r',L',rfl,y1,y2,y3,y4⟩;have HE:Hid (zbd w B MM (.returned (.tuple #[v',r'])) w9):=⟨v',r',L',rfl,y1,y2,y3,y4⟩;clear y1 y2 y3 y4 HT7;go_wp2;go_ret2;exact HE.out
end
def zgs (T:List ByteArray):Bool:=(List.range T.length).all (fun i=>decide ((T.getD i empty).size<=200))&&decide (T.length<=16)
theorem zv1 (a:Option Addr) (b o n c:Nat) (T:List ByteArray) (w:World) (h:zdg w a b o n T) (hn:n<=1048577):
  Calls prog 53 #[.slice a n c] w fun e w'=>e= .returned (.bool (zgs T))/\w'=w:=by
 have H:Hid (zdg w a b o n T):=h;have HL:Hid (zgs T=((List.range n).all (fun i=>decide ((T.getD i empty).size<=200))&&decide (n<=16))):=by unfold Hid zgs;rw [h.len]
 generalize zgs T=G at*;clear h;go_enter func53,ntmps53;go_wp2;go_loop [3] (fun i=>∃k:Nat,k<=n/\i= .int .i64 k/\Hid (∀j,j<k->(T.getD j empty).size<=200)) (fun i=>n-(intOf i).toNat)
 case atStart=>exact ⟨0,by omega,rfl,fun j hj=>by omega⟩
 case round=>
  obtain ⟨k,hk,rfl,hp⟩:=hrel;by_cases hlt:k<n
  ·have c0:=H.out.cell k hlt;have q0:=H.out.fit k hlt;obtain rfl:=H.out.addr (by omega);by_cases he:(T.getD k empty).size<=200
   ·have HP:Hid (∀j,j<k+1->(T.getD j empty).size<=200):=fun j hj=>by
     by_cases e:j=k
     ·subst e;exact he
     ·exact hp.out j (by omega)
    clear hp;generalize T.getD k empty=x at*;go_wp2;go_round
    case rel=>exact ⟨k+1,by omega,by go_num,HP⟩
    case measure=>simp [intOf];omega
   ·have HF:Hid (G=false):=by
     unfold Hid;rw [HL.out,Bool.and_eq_false_iff];left;rw [List.all_eq_false];exact ⟨k,by simp;exact hlt,by simpa using he⟩
    clear hp;generalize T.getD k empty=x at*;have he2:(200:Int)<(x.size:Int):=by omega
    go_wp2;go_ret;exact ⟨zae HF.out.symm,rfl⟩
  ·have HF:Hid (G=decide ((n:Int)<=16)):=by
    unfold Hid;rw [HL.out,show (List.range n).all (fun i=>decide ((T.getD i empty).size<=200))=true by rw [Qw];intro j hj;exact Qe (hp.out j (by have:=List.mem_range.1 hj;omega)),Qz];exact decide_eq_decide.2 (by omega)
   clear hp;go_wp2;go_ret;exact ⟨zae HF.out.symm,rfl⟩
def zeo (T:List Pr) (nm:ByteArray) (at0:Nat):Int:=match T with
 | []=>-1
 |x::xs=>if x.1=nm then (at0:Int) else zeo xs nm (at0+1)
theorem zkt:∀(T:List Pr) (nm:ByteArray) (k s:Nat),k<T.length->(∀j,j<k->(T.getD j (bz,bz)).1≠nm)->(T.getD k (bz,bz)).1=nm->zeo T nm s=((s+k:Nat):Int)
 | [],_,_,_,h,_,_=>by simp at h
 |x::xs,nm,0,s,_,_,h=>by
  show (if x.1=nm then (s:Int) else _)=_;rw [if_pos (by simpa using h)];rfl
 |x::xs,nm,k+1,s,hk,hn,h=>by
  show (if x.1=nm then (s:Int) else zeo xs nm (s+1))=_;rw [if_neg (by have:=hn 0 (by omega);simpa using this),zkt xs nm k (s+1) (by simpa using hk) (fun j hj=>by have:=hn (j+1) (by omega);simpa using this) (by simpa using h)];congr 1;omega
theorem ziv:∀(T:List Pr) (nm:ByteArray) (s:Nat),(∀j,j<T.length->(T.getD j (bz,bz)).1≠nm)->zeo T nm s= -1
 | [],_,_,_=>rfl
 |x::xs,nm,s,hn=>by
  show (if x.1=nm then (s:Int) else zeo xs nm (s+1))=_;rw [if_neg (by have:=hn 0 (by simp);simpa using this)];exact ziv xs nm (s+1) (fun j hj=>by have:=hn (j+1) (by simpa using hj);simpa using this)
theorem yco (a:Option Addr) (b n c:Nat) (T:List Pr) (nm:ByteArray) (w:World) (h:za6 w a b n T) (hn:n<=1048577):
  Calls prog 149 #[.slice a n c,.string nm] w fun e w'=>e= .returned (.int .i64 (zeo T nm 0))/\w'=w:=by
 have H:Hid (za6 w a b n T):=h;have HL:Hid (T.length=n):=h.len;clear h;go_enter func149,ntmps149;go_wp2;go_loop [5] (fun i=>∃k:Nat,k<=n/\i= .int .i64 k/\Hid (∀j,j<k->(T.getD j (bz,bz)).1≠nm)) (fun i=>n-(intOf i).toNat)
 case atStart=>exact ⟨0,by omega,rfl,fun j hj=>by omega⟩
 case round=>
  obtain ⟨k,hk,rfl,hp⟩:=hrel;by_cases hlt:k<n
  ·have c0:=H.out.c0 k hlt;obtain rfl:=H.out.addr (by omega);by_cases he:(T.getD k (bz,bz)).1=nm
   ·have HF:Hid (zeo T nm 0=(k:Int)):=by
     have:=zkt T nm k 0 (by rw [HL.out];exact hlt) hp.out he;rw [Qq] at this;exact this
    rw [he] at c0;clear he hp;go_wp2;go_ret;exact ⟨zen HF.out.symm,rfl⟩
   ·have HP:Hid (∀j,j<k+1->(T.getD j (bz,bz)).1≠nm):=fun j hj=>by
     by_cases e:j=k
     ·subst e;exact he
     ·exact hp.out j (by omega)
    have hd:=zbz he;generalize (T.getD k (bz,bz)).1=x at*;clear he hp;go_wp2;go_round
    case rel=>exact ⟨k+1,by omega,by go_num,HP⟩
    case measure=>simp [intOf];omega
  ·have HF:Hid (zeo T nm 0= -1):=ziv T nm 0 (fun j hj=>hp.out j (by rw [HL.out] at hj;omega));clear hp;go_wp2;go_ret;exact ⟨zen HF.out.symm,rfl⟩
def zfq (T:List Rk) (nm:ByteArray) (at0:Nat):Int:=match T with
 | []=>-1
 |x::xs=>if x.m=nm then (at0:Int) else zfq xs nm (at0+1)
theorem zpm:∀(T:List Rk) (nm:ByteArray) (k s:Nat),k<T.length->(∀j,j<k->(T.getD j rk0).m≠nm)->(T.getD k rk0).m=nm->zfq T nm s=((s+k:Nat):Int)
 | [],_,_,_,h,_,_=>by simp at h
 |x::xs,nm,0,s,_,_,h=>by
  show (if x.m=nm then (s:Int) else _)=_;rw [if_pos (by simpa using h)];rfl
 |x::xs,nm,k+1,s,hk,hn,h=>by
  show (if x.m=nm then (s:Int) else zfq xs nm (s+1))=_;rw [if_neg (by have:=hn 0 (by omega);simpa using this),zpm xs nm k (s+1) (by simpa using hk) (fun j hj=>by have:=hn (j+1) (by omega);simpa using this) (by simpa using h)];congr 1;omega
theorem zko:∀(T:List Rk) (nm:ByteArray) (s:Nat),(∀j,j<T.length->(T.getD j rk0).m≠nm)->zfq T nm s= -1
 | [],_,_,_=>rfl
 |x::xs,nm,s,hn=>by
  show (if x.m=nm then (s:Int) else zfq xs nm (s+1))=_;rw [if_neg (by have:=hn 0 (by simp);simpa using this)];exact zko xs nm (s+1) (fun j hj=>by have:=hn (j+1) (by simpa using hj);simpa using this)
theorem zz1 (a:Option Addr) (b o n c:Nat) (T:List Rk) (nm:ByteArray) (w:World) (h:zdh w a b o n T) (hn:n<=1048577):
  Calls prog 151 #[.slice a n c,.string nm] w fun e w'=>e= .returned (.int .i64 (zfq T nm 0))/\w'=w:=by
 have H:Hid (zdh w a b o n T):=h;have HL:Hid (T.length=n):=h.len;clear h;go_enter func151,ntmps151;go_wp2;go_loop [5] (fun i=>∃k:Nat,k<=n/\i= .int .i64 k/\Hid (∀j,j<k->(T.getD j rk0).m≠nm)) (fun i=>n-(intOf i).toNat)
 case atStart=>exact ⟨0,by omega,rfl,fun j hj=>by omega⟩
 case round=>
  obtain ⟨k,hk,rfl,hp⟩:=hrel;by_cases hlt:k<n
  ·have c0:=(H.out.cell k hlt).c0;obtain rfl:=H.out.addr (by omega);by_cases he:(T.getD k rk0).m=nm
   ·have HF:Hid (zfq T nm 0=(k:Int)):=by
     have:=zpm T nm k 0 (by rw [HL.out];exact hlt) hp.out he;rw [Qq] at this;exact this
    rw [he] at c0;clear he hp;go_wp2;go_ret;exact ⟨zen HF.out.symm,rfl⟩
   ·have HP:Hid (∀j,j<k+1->(T.getD j rk0).m≠nm):=fun j hj=>by
     by_cases e:j=k
     ·subst e;exact he
     ·exact hp.out j (by omega)
    have hd:=zbz he;generalize (T.getD k rk0).m=x at*;clear he hp;go_wp2;go_round
    case rel=>exact ⟨k+1,by omega,by go_num,HP⟩
    case measure=>simp [intOf];omega
  ·have HF:Hid (zfq T nm 0= -1):=zko T nm 0 (fun j hj=>hp.out j (by rw [HL.out] at hj;omega));clear hp;go_wp2;go_ret;exact ⟨zen HF.out.symm,rfl⟩
open Kk (zbz str_eq)
theorem ygq:(prog.info? 40).map (fun i=> (i.zero,i.size,i.bytes))=some (some (.agg #[.int .i64 0,.int .i64 0,.string ⟨#[]⟩,.slice none 0 0]),4,56):=by kernel_rfl
theorem yfi:(prog.info? 2).map (fun i=> (i.zero,i.size,i.bytes))=some (some (.int .i64 0),1,8):=by kernel_rfl
section
variable (k m:Int) (s:ByteArray) (ks:List Nat) (a:Option Addr) (n c:Nat)
theorem ygc (h:zqv w B V M) (hn:M.length<=1048577) (hB:B<=w.heap.size):
  ∃v' w',(Builtin.append_ #[28,28] 28 #[V,.slice (some ⟨w.heap.size,0,none⟩) 1 1]).run prog (w.alloc (.cells #[.int .i64 k,.int .i64 m,.string s,.slice a n c] 40))= .ok v' w'/\zqv w' B v' (M++ [⟨⟨k,m,s,ks⟩,.slice a n c⟩])/\Below B w w'/\w.grownBy w' V.ownBlock/\∀g,v'.ownBlock=some g->V.ownBlock=some g\/w.heap.size<g:=by
 obtain ⟨i0,hi,hz0,hz1,hz2⟩:=info_parts ygq;have hbl:Bl w (w.alloc (.cells #[.int .i64 k,.int .i64 m,.string s,.slice a n c] 40)):=(Qb _ w).alloc (Qc _) _;have oA:=zaf h hbl
 obtain ⟨v',w',hrun,hown,hg,_,hblk⟩:=run_append_own_at (P:=prog) (w.alloc (.cells #[.int .i64 k,.int .i64 m,.string s,.slice a n c] 40)) B 28 28 40 i0 _ 4 56 underlying28 hi hz0 hz1 hz2 rfl (by decide) V M.length (zhp M) oA ⟨w.heap.size,0,none⟩ 1 1 [.int .i64 k,.int .i64 m,.string s,.slice a n c] rfl (fun j u hj=>by
  rw [Addr.add_lit,Qq];exact ((zab.new w 40 #[.int .i64 k,.int .i64 m,.string s,.slice a n c]).cell j).trans (by simpa using hj)) (fun u hu=>by simp at hu;rcases hu with rfl|rfl|rfl|rfl<;>rfl) (by unfold maxLen;omega) (by omega) (by simp;omega)
 refine ⟨v',w',hrun,?_,zdd (Qb _ w) hB h hg,?_,fun g hv=>?_⟩
 ·have e:zhp (M++ [⟨⟨k,m,s,ks⟩,.slice a n c⟩])=zhp M++ [.int .i64 k,.int .i64 m,.string s,.slice a n c]:=by unfold zhp;rw [List.flatMap_append];rfl
  unfold zqv;rw [Qi,e];exact hown
 ·have hs:(w.alloc (.cells #[.int .i64 k,.int .i64 m,.string s,.slice a n c] 40)).heap.size=w.heap.size+1:=by simp
  have h2:=hg.size;exact ⟨hg.os,hg.tape,hg.output,by omega,fun k hk hr=> (hg.block k (by omega) hr).trans (Below.heap_alloc _ _ _ (by omega))⟩
 ·rcases hblk with e|e
  ·rw [e] at hv;exact .inl hv
  ·rw [e] at hv;have:=Option.some.inj hv;simp at this;exact .inr (by omega)
theorem yfn (h:zqv w B V M) (hn:M.length<=1048577) (hB:B<=w.heap.size):
  ∃v' w',(Builtin.append_ #[28,28] 28 #[V,.slice (some ⟨w.heap.size,0,none⟩) 1 1]).run prog (w.alloc (.cells #[.int .i64 k,.int .i64 m,.string s,.slice a n c] 40))= .ok v' w'/\zqv w' B v' (M++ [⟨⟨k,m,s,ks⟩,.slice a n c⟩])/\Below B w w'/\w.grownBy w' V.ownBlock:=by
 obtain ⟨v',w',h1,h2,h3,h4,_⟩:=ygc k m s ks a n c h hn hB;exact ⟨v',w',h1,h2,h3,h4⟩
end
theorem ydj (k:Nat) (h:zjt w B V ks) (hn:ks.length<=1048577) (hB:B<=w.heap.size):
  ∃v' w',(Builtin.append_ #[38,38] 38 #[V,.slice (some ⟨w.heap.size,0,none⟩) 1 1]).run prog (w.alloc (.cells #[.int .i64 (k:Int)] 2))= .ok v' w'/\zjt w' B v' (ks++ [k])/\Below B w w'/\w.grownBy w' V.ownBlock/\∀g,v'.ownBlock=some g->V.ownBlock=some g\/w.heap.size<g:=by
 obtain ⟨i0,hi,hz0,hz1,hz2⟩:=info_parts yfi;have hbl:Bl w (w.alloc (.cells #[.int .i64 (k:Int)] 2)):=(Qb _ w).alloc (Qc _) _;have oA:=zaf h hbl
 obtain ⟨v',w',hrun,hown,hg,_,hblk⟩:=run_append_own_at (P:=prog) (w.alloc (.cells #[.int .i64 (k:Int)] 2)) B 38 38 2 i0 _ 1 8 underlying38 hi hz0 hz1 hz2 rfl (by decide) V ks.length (yf3 ks) oA ⟨w.heap.size,0,none⟩ 1 1 [.int .i64 (k:Int)] rfl (fun j u hj=>by
  rw [Addr.add_lit,Qq];exact ((zab.new w 2 #[.int .i64 (k:Int)]).cell j).trans (by simpa using hj)) (fun u hu=>by simp at hu;subst hu;rfl) (by unfold maxLen;omega) (by omega) (by simp;omega)
 refine ⟨v',w',hrun,?_,zdd (Qb _ w) hB h hg,?_,fun g hv=>?_⟩
 ·have e:yf3 (ks++ [k])=yf3 ks++ [.int .i64 (k:Int)]:=by unfold yf3;rw [List.map_append];rfl
  unfold zjt;rw [Qi,e];exact hown
 ·have hs:(w.alloc (.cells #[.int .i64 (k:Int)] 2)).heap.size=w.heap.size+1:=by simp
  have h2:=hg.size;exact ⟨hg.os,hg.tape,hg.output,by omega,fun k hk hr=> (hg.block k (by omega) hr).trans (Below.heap_alloc _ _ _ (by omega))⟩
 ·rcases hblk with e|e
  ·rw [e] at hv;exact .inl hv
  ·rw [e] at hv;have:=Option.some.inj hv;simp at this;exact .inr (by omega)
theorem yg3 (k:Nat) (h:zjt w B V ks) (hn:ks.length<=1048577) (hB:B<=w.heap.size):
  ∃v' w',(Builtin.append_ #[38,38] 38 #[V,.slice (some ⟨w.heap.size,0,none⟩) 1 1]).run prog (w.alloc (.cells #[.int .i64 (k:Int)] 2))= .ok v' w'/\zjt w' B v' (ks++ [k])/\Below B w w'/\w.grownBy w' V.ownBlock:=by
 obtain ⟨v',w',h1,h2,h3,h4,_⟩:=ydj k h hn hB;exact ⟨v',w',h1,h2,h3,h4⟩
theorem zja {B':Nat} {e e':TypeId} {size size' n':Nat} {V':Value} {xs xs':List Value} (ho:w.ownsRow B e size V n xs) (h':w.ownsRow B' e' size' V' n' xs') (hg:w.grownBy w' V.ownBlock) (hne:e'≠e):w'.ownsRow B' e' size' V' n' xs':=by
 refine h'.kept hg ?_;cases hv:V'.ownBlock with
 |none=>exact .inl rfl
 |some g=>
  refine .inr fun ee=>?_;obtain ⟨C,hC⟩:=zbh h' hv;obtain ⟨D,hD⟩:=zbh ho ee.symm;exact hne (Hp.zcm hC hD)
def ygp (t:ByteArray):RV:=⟨⟨4,0,t,[]⟩,.slice none 0 0⟩
def zb5 (T:List ByteArray):List Rp:=T.map (fun t=>⟨4,0,t,[]⟩)++ [⟨6,0,⟨#[]⟩,List.range T.length⟩]
structure zgt (w:World) (v u:Value) (wr:World) (T:List ByteArray) (k:Nat):Prop where
 o1:zqv wr w.heap.size v ((T.take k).map ygp)
 o2:zjt wr w.heap.size u (List.range k)
 bel:Bl w wr
theorem zgt.start (w:World) (T:List ByteArray):zgt w (.slice (some ⟨w.heap.size,0,none⟩) 0 0) (.slice (some ⟨w.heap.size+1,0,none⟩) 0 0) ((w.alloc (.cells #[] 40)).alloc (.cells #[] 2)) T 0:=by
 have z:(w.alloc (.cells #[] 40)).heap.size=w.heap.size+1:=by simp
 have b1:Below (w.alloc (.cells #[] 40)).heap.size (w.alloc (.cells #[] 40)) ((w.alloc (.cells #[] 40)).alloc (.cells #[] 2)):=(Qb _ _).alloc (Qc _) _;refine ⟨zew ((zab.new w 40 #[]).bw b1 (by omega)) (Qc _),?_,((Qb _ w).alloc (Qc _) _).alloc (by omega) _⟩;have:=zab.new (w.alloc (.cells #[] 40)) 2 #[];rw [z] at this;exact zew this (by omega)
theorem zgt.next {u:Value} {k:Nat} (h:zgt w v u wr T k) (hk:k<T.length) (hn:T.length<=1048576):
  ∃v' w1,(Builtin.append_ #[28,28] 28 #[v,.slice (some ⟨wr.heap.size,0,none⟩) 1 1]).run prog (wr.alloc (.cells #[.int .i64 4,.int .i64 0,.string (T.getD k empty),.slice none 0 0] 40))= .ok v' w1/\
  ∃u' w2,(Builtin.append_ #[38,38] 38 #[u,.slice (some ⟨w1.heap.size,0,none⟩) 1 1]).run prog (w1.alloc (.cells #[.int .i64 (k:Int)] 2))= .ok u' w2/\zgt w v' u' w2 T (k+1):=by
 have hl:((T.take k).map ygp).length<=1048577:=by simp;omega
 obtain ⟨v',w1,r1,o1,b1,g1⟩:=yfn 4 0 (T.getD k empty) [] none 0 0 h.o1 hl h.bel.size;have k1:=zja h.o1 h.o2 g1 (by decide);obtain ⟨u',w2,r2,o2,b2,g2⟩:=yg3 k k1 (by simp;omega) (Qj h.bel.size b1.size);refine ⟨v',w1,r1,u',w2,r2,?_,?_,(h.bel.trans b1).trans b2⟩
 ·have:=zja k1 o1 g2 (by decide);rw [Qo hk,List.map_append];rw [show T.getD k empty=T[k] by rw [Qa,Qd hk];rfl] at this;exact this
 ·rw [List.range_succ];exact o2
theorem zgt.last {a:Option Addr} {c:Nat} (h:zgt w v (.slice a n c) wr T T.length) (hn:T.length<=1048576):
  ∃v' w1,(Builtin.append_ #[28,28] 28 #[v,.slice (some ⟨wr.heap.size,0,none⟩) 1 1]).run prog (wr.alloc (.cells #[.int .i64 6,.int .i64 0,.string ⟨#[]⟩,.slice a n c] 40))= .ok v' w1/\zci w (zb5 T) (.returned v') w1:=by
 have hl:((T.take T.length).map ygp).length<=1048577:=by simp;omega
 obtain ⟨v',w1,r1,o1,b1,g1⟩:=yfn 6 0 ⟨#[]⟩ (List.range T.length) a n c h.o1 hl h.bel.size;have k1:=zja h.o1 h.o2 g1 (by decide);refine ⟨v',w1,r1,v',rfl,⟨_,?_,o1,fun x hx=>?_⟩,h.bel.trans b1⟩
 ·rw [List.map_append,List.take_length,List.map_map];rfl
 ·rcases List.mem_append.1 hx with hx|hx
  ·obtain ⟨t,_,rfl⟩:=List.mem_map.1 hx;exact World.ownsRow_nil _ _ _ _
  ·rcases List.mem_singleton.1 hx with rfl;exact k1
theorem zgn (a:Option Addr) (b o n c:Nat) (T:List ByteArray) (w:World) (h:zdg w a b o n T) (hn:n<=1048576):
  Calls prog 142 #[.slice a n c] w (zci w (zb5 T)):=by
 have H:Hid (zdg w a b o n T):=h;have HL:Hid (T.length=n):=h.len;have HS:Hid (zgt w _ _ _ T 0):=zgt.start w T;clear h;go_enter func142,ntmps142;go_wp2;go_loopw [3,4,5] (fun v u i wr=>∃k:Nat,k<=n/\i= .int .i64 k/\Hid (zgt w v u wr T k)) (fun _ _ i _=>n-(intOf i).toNat)
 case atStart=>exact ⟨0,by omega,rfl,HS⟩
 case round=>
  obtain ⟨k,hk,rfl,hI⟩:=hrel;clear HS;by_cases hlt:k<n
  ·have c0:=(zdb H.out hI.out.bel).cell k hlt;obtain rfl:=H.out.addr (by omega);obtain ⟨v',w1,r1,u',w2,r2,hI2⟩:=hI.out.next (by rw [HL.out];exact hlt) (by rw [HL.out];exact hn);have R1:Hid _:=r1;have R2:Hid _:=r2;have HI2:Hid _:=hI2;clear r1 r2 hI2 hI;generalize T.getD k empty=x at*;go_wp2_with (first|(at_builtin;refine wpList_append_run rfl _ _ 28 rfl rfl rfl R1.out ?_)|(at_builtin;refine wpList_append_run rfl _ _ 38 rfl rfl rfl R2.out ?_));exact ⟨⟨k+1,by omega,by go_num,HI2⟩,by simp [intOf];omega⟩
  ·obtain rfl:k=n:=by omega
   obtain ⟨a',c',e4⟩:=zad hI.out.o2;subst e4;have hI':zgt w u3 (.slice a' (List.range k).length c') wr T T.length:=by rw [HL.out];exact hI.out
   obtain ⟨v',w1,r1,hE⟩:=hI'.last (by rw [HL.out];exact hn);have R1:Hid _:=r1;have HE:Hid (zci w (zb5 T) (.returned v') w1):=hE;clear r1 hE hI hI';generalize (List.range k).length=m at*;go_wp2_with (at_builtin;refine wpList_append_run rfl _ _ 28 rfl rfl rfl R1.out ?_);go_ret;exact HE.out
def zq6:ByteArray:=⟨#[80,79,78,71]⟩
def sOK:ByteArray:=⟨#[79,75]⟩
def zcs (dl:Bool) (s:List Ke×Nat) (t:ByteArray):List Ke×Nat:=if zd1 s.1 t 0<0 then s else (if dl=true then zbl s.1 t else s.1,s.2+1)
def zi7 (dl:Bool) (ks:List Ke) (T:List ByteArray):List Ke×Nat:=T.foldl (zcs dl) (ks,0)
def zgr (c:Cm) (ks:List Ke) (T:List ByteArray):List Ke×List Rp:=match c with
 |0=> (ks,if T.length=0 then zau zq6 else zax (T.getD 0 empty))
 |4=> (ks,zax (T.getD 0 empty))
 |2=> ([],zau sOK)
 |3=> (ks,zam ks.length)
 |1=> (ks,zb5 (ks.map Ke.name))
 |27=> ((zi7 true ks T).1,zam (zi7 true ks T).2)
 |_=> (ks,zam (zi7 false ks T).2)
section
variable (B:Nat) (v:Value) (L:List KV) (aa:Option Addr)
theorem zx0 (ac:Nat) (w:World) (h:zaw w B v L) (hB:B<=w.heap.size):
  Calls prog 99 #[v,.string ⟨#[80,73,78,71]⟩,.slice aa 0 ac] w (zbd w B (L.map KV.key,zau zq6)):=by
 have HR:Hid (∀W,Cp 139 #[.string ⟨#[80,79,78,71]⟩] W (zci W (zau zq6))):=fun W=>zf9 zq6 W;have HE:Hid (∀r w2,zbe w2 w.heap.size r (zau zq6)->Bl w w2->zbd w B (L.map KV.key,zau zq6) (.returned (.tuple #[v,r])) w2):=fun r w2 h1 h2=>zbd.same h hB (Qb _ _) h1 h2;clear h;go_enter func99,ntmps99;go_wp2_with fail;refine (HR.out _).mono ?_;rintro e w1 ⟨r,rfl,hr,hb⟩;have HF:Hid _:=HE.out r w1 hr hb;clear hr hb HE HR;go_wp2;go_ret2;exact HF.out
theorem zxz (ab ao m ac:Nat) (T:List ByteArray) (w:World) (h:zaw w B v L) (ha:zdg w aa ab ao m T) (hm:0<m) (hm2:m<=1048576) (hB:B<=w.heap.size):
  Calls prog 99 #[v,.string ⟨#[80,73,78,71]⟩,.slice aa m ac] w (zbd w B (L.map KV.key,zax (T.getD 0 empty))):=by
 have c0:=ha.cell 0 hm;obtain rfl:=ha.addr hm;rw [Qy] at c0;have HR:Hid (∀W s,Cp 140 #[.string s] W (zci W (zax s))):=fun W s=>ziy s W;have HE:Hid (∀s r w2,zbe w2 w.heap.size r (zax s)->Bl w w2->zbd w B (L.map KV.key,zax s) (.returned (.tuple #[v,r])) w2):=fun s r w2 h1 h2=>zbd.same h hB (Qb _ _) h1 h2;have hm3:((m:Int)==0)=false:=by simp;omega
 clear h ha;generalize T.getD 0 empty=t at*;go_enter func99,ntmps99;go_wp2_with fail;refine (HR.out _ _).mono ?_;rintro e w1 ⟨r,rfl,hr,hb⟩;have HF:Hid _:=HE.out t r w1 hr hb;clear hr hb HE HR;go_wp2;go_ret2;exact HF.out
theorem zzb (ab ao m ac:Nat) (T:List ByteArray) (w:World) (h:zaw w B v L) (ha:zdg w aa ab ao m T) (hm:0<m) (hB:B<=w.heap.size):
  Calls prog 99 #[v,.string ⟨#[69,67,72,79]⟩,.slice aa m ac] w (zbd w B (L.map KV.key,zax (T.getD 0 empty))):=by
 have c0:=ha.cell 0 hm;obtain rfl:=ha.addr hm;rw [Qy] at c0;have HR:Hid (∀W s,Cp 140 #[.string s] W (zci W (zax s))):=fun W s=>ziy s W;have HE:Hid (∀s r w2,zbe w2 w.heap.size r (zax s)->Bl w w2->zbd w B (L.map KV.key,zax s) (.returned (.tuple #[v,r])) w2):=fun s r w2 h1 h2=>zbd.same h hB (Qb _ _) h1 h2;clear h ha;generalize T.getD 0 empty=t at*;go_enter func99,ntmps99;go_wp2_with fail;refine (HR.out _ _).mono ?_;rintro e w1 ⟨r,rfl,hr,hb⟩;have HF:Hid _:=HE.out t r w1 hr hb;clear hr hb HE HR;go_wp2;go_ret2;exact HF.out
theorem zsa (m ac:Nat) (w:World) (h:zaw w B v L) (hB:B<=w.heap.size):
  Calls prog 99 #[v,.string ⟨#[68,66,83,73,90,69]⟩,.slice aa m ac] w (zbd w B (L.map KV.key,zam (L.map KV.key).length)):=by
 obtain ⟨a,A,c,e,_⟩:=h.at;subst e;rw [Qp];have HR:Hid (∀W n,Cp 141 #[.int .i64 n] W (zci W (zam n))):=fun W s=>zjb s W;have HE:Hid (∀s r w2,zbe w2 w.heap.size r (zam s)->Bl w w2->zbd w B (L.map KV.key,zam s) (.returned (.tuple #[.slice a L.length c,r])) w2):=fun s r w2 h1 h2=>zbd.same h hB (Qb _ _) h1 h2;clear h;generalize L.length=ln at*;go_enter func99,ntmps99;go_wp2_with fail;refine (HR.out _ _).mono ?_;rintro e w1 ⟨r,rfl,hr,hb⟩;have HF:Hid _:=HE.out _ r w1 hr hb;clear hr hb HE HR;go_wp2;go_ret2;exact HF.out
end
theorem zol (B:Nat) (v:Value) (aa:Option Addr) (m ac:Nat) (w:World) (hB:B<=w.heap.size):
  Calls prog 99 #[v,.string ⟨#[70,76,85,83,72,65,76,76]⟩,.slice aa m ac] w (zbd w B ([],zau sOK)):=by
 have HR:Hid (∀W,Cp 139 #[.string ⟨#[79,75]⟩] W (zci W (zau sOK))):=fun W=>zf9 sOK W;have b0:Bl w (w.alloc (.cells #[] 47)):=(Qb _ w).alloc (Qc _) _;have HE:Hid (∀r w2,zbe w2 (w.alloc (.cells #[] 47)).heap.size r (zau sOK)->Below (w.alloc (.cells #[] 47)).heap.size (w.alloc (.cells #[] 47)) w2->zbd w B ([],zau sOK) (.returned (.tuple #[.slice (some ⟨w.heap.size,0,none⟩) 0 0,r])) w2):=fun r w2 h1 h2=>⟨_,r,[],rfl,rfl,((zcn.empty w).db.bw h2).le hB,h1.le b0.size,b0.trans (h2.mono b0.size)⟩;clear b0;go_enter func99,ntmps99;go_wp2_with fail;refine (HR.out _).mono ?_;rintro e w1 ⟨r,rfl,hr,hb⟩;have HF:Hid _:=HE.out r w1 hr hb;clear hr hb HE HR;go_wp2;go_ret2;exact HF.out
end Go.Proofs.YtokafonppgppdaaGreatDoor
