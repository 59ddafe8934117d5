import Derived.Test.YtokafonppgppdaaGreatDoorR14
import Derived.Stop.Asserts
set_option maxHeartbeats 4000000
set_option maxRecDepth 100000
namespace Go.Proofs.YtokafonppgppdaaGreatDoor
namespace Sl
open Tryz
open Go.RowKit
theorem Rj(n:Int)(w:World):
  Calls prog 113 #[.int .i64 n] w fun e w'=>e=.returned (.bool (Ha n))/\w'=w:=by
 by_cases h1:-1000000000000000000<=n
 ·by_cases h2:n<=1000000000000000000;all_goals
   have Ga:decide (-1000000000000000000<=n)=true:=Qe h1;go_enter func113,ntmps113;go_wp2;go_ret;exact⟨by simp[Ha,h1,h2],rfl⟩
 ·have Ga:decide (-1000000000000000000<=n)=false:=Qf h1;go_enter func113,ntmps113;go_wp2;go_ret;exact⟨by simp[Ha];omega,rfl⟩
theorem zri(n p:Int)(w:World)(hn:0<=n)(hn2:n<=1000000000000000000)(hp:-1000000000000000000<=p)(hp2:p<=1000000000000000000):
  Calls prog 298 #[.int .i64 n,.int .i64 p] w fun e w'=>e=.returned (.int .i64 (front n p))/\w'=w:=by
 by_cases h1:p<0
 ·go_enter func298,ntmps298;go_wp2;go_ret;exact⟨by simp[front,h1],rfl⟩
 ·go_enter func298,ntmps298;go_wp2;go_ret;exact⟨by simp[front];omega,rfl⟩
theorem ya9(n f t:Int)(w:World):
  Calls prog 273 #[.int .i64 n,.int .i64 f,.int .i64 t] w fun e w'=>e=.returned (.tuple #[.int .i64 (Hx n f t).1,.int .i64 (Hx n f t).2])/\w'=w:=by
 by_cases h0:n<0
 ·have HE:Hid (Hx n f t=(0,0)):=by unfold Hid Hx;rw[if_pos (.inl h0)]
  go_enter func273,ntmps273;go_wp2;go_ret2;exact⟨by rw[HE.out];rfl,rfl⟩
 ·have Ga:decide (n<0)=false:=Qf h0;cases h1:Ha n with
  |false=>
   have HE:Hid (Hx n f t=(0,0)):=by unfold Hid Hx;rw[if_pos (.inr (.inl h1))]
   go_enter func273,ntmps273;go_wp2_with fail;refine(Rj n w).mono ?_;rintro e w1⟨rfl,rfl⟩;rw[h1];go_wp2;go_ret2;exact⟨by rw[HE.out];rfl,rfl⟩
  |true=>cases h2:Ha f with
   |false=>
    have HE:Hid (Hx n f t=(0,0)):=by unfold Hid Hx;rw[if_pos (.inr (.inr (.inl h2)))]
    go_enter func273,ntmps273;go_wp2_with fail;refine(Rj n w).mono ?_;rintro e w1⟨rfl,rfl⟩;rw[h1];go_wp2_with fail;refine(Rj f w1).mono ?_;rintro e w2⟨rfl,rfl⟩;rw[h2];go_wp2;go_ret2;exact⟨by rw[HE.out];rfl,rfl⟩
   |true=>cases h3:Ha t with
    |false=>
     have HE:Hid (Hx n f t=(0,0)):=by unfold Hid Hx;rw[if_pos (.inr (.inr (.inr h3)))]
     go_enter func273,ntmps273;go_wp2_with fail;refine(Rj n w).mono ?_;rintro e w1⟨rfl,rfl⟩;rw[h1];go_wp2_with fail;refine(Rj f w1).mono ?_;rintro e w2⟨rfl,rfl⟩;rw[h2];go_wp2_with fail;refine(Rj t w2).mono ?_;rintro e w2⟨rfl,rfl⟩;rw[h3];go_wp2;go_ret2;exact⟨by rw[HE.out];rfl,rfl⟩
    |true=>
     obtain⟨n1,n2⟩:=Tv h1;obtain⟨f1,f2⟩:=Tv h2;obtain⟨t1,t2⟩:=Tv h3;have HE:Hid (Hx n f t=if P0 n t<Rg n f then(0,0) else(Rg n f,P0 n t+1)):=by
      unfold Hid Hx;rw[if_neg (by simp[h0,h1,h2,h3])]
     obtain⟨a,ha⟩:∃a,a=front n f:=⟨_,rfl⟩;obtain⟨b,hb⟩:∃b,b=front n t:=⟨_,rfl⟩;have a1:-1000000000000000000<=a/\a<=2000000000000000000:=by subst ha;unfold front;split<;>omega
     have b1:-1000000000000000000<=b/\b<=2000000000000000000:=by subst hb;unfold front;split<;>omega
     have FE:Hid (Rg n f=if a<0 then 0 else a):=by unfold Hid Rg;rw[ha]
     have LE:Hid (P0 n t=if b<n-1 then b else n-1):=by unfold Hid P0;rw[hb]
     have HA:Hid (front n f=a):=ha.symm;have HB:Hid (front n t=b):=hb.symm;clear ha hb;go_enter func273,ntmps273;go_wp2_with fail;refine(Rj n w).mono ?_;rintro e w1⟨rfl,rfl⟩;rw[h1];go_wp2_with fail;refine(Rj f w1).mono ?_;rintro e w2⟨rfl,rfl⟩;rw[h2];go_wp2_with fail;refine(Rj t w2).mono ?_;rintro e w2⟨rfl,rfl⟩;rw[h3];go_wp2_with fail;refine(zri n f _ (by omega) n2 f1 f2).mono ?_;rintro e w2⟨rfl,rfl⟩;rw[HA.out];go_wp2_with fail;all_goals
      refine(zri n t _ (by omega) n2 t1 t2).mono ?_;rintro e w2⟨rfl,rfl⟩;rw[HB.out];go_wp2;all_goals
       go_ret2;refine⟨yki ?_ ?_,rfl⟩;all_goals
        rw[HE.out,FE.out,LE.out];repeat' split
        all_goals first|rfl|omega
end Sl
namespace Rb
open Tryz
open _root_.ByteArray (empty)
open Go.RowKit Go.Maps
open Ri (F4 RK UpK Fq G2 Nb Mk Ln kvA z7 Ow Rv Ou Ru)
variable {w:World} {B g b n ab ao ac:Nat} {now:Int} {aa:Option Addr} {L M:List KV} {T:List ByteArray}
theorem Fu.arg(h:Fu w B g b n now aa ab ao ac L M T)(i:Nat)(hi:i<T.length):
  aa=some ⟨ab,ao,none⟩/\∀V,Below B w V->V.cell? ⟨ab,ao+i,none⟩=some (.string (T.getD i empty)):=
 ⟨h.call.args.addr (by omega),fun V hb=>(hb.cell (p:=⟨ab,ao+i,none⟩) (h.la (by omega))).trans (h.call.args.cell i hi)⟩
def M8 (T:List ByteArray):Bool:=(Fg (T.getD 1 empty)).2&&(Fg (T.getD 2 empty)).2
def slM (T:List ByteArray) (n:Int):Int×Int:=if M8 T=true then Sl.Hx n (Fg (T.getD 1 empty)).1 (Fg (T.getD 2 empty)).1 else (0,0)
theorem zu1(B g b n:Nat)(now:Int)(aa:Option Addr)(ab ao ac:Nat)(L M:List KV)(T:List ByteArray)(ad:Nat->Addr)(w:World)(h:Fu w B g b n now aa ab ao ac L M T)(hE:Lk w B ad)(hT:T.length=3)(hs:∀t∈T,t.size<=200)(N:Int):
  Calls prog 243 #[.pointer (some ⟨g,0,none⟩),.int .i64 N] w fun e w'=>e=.returned (.tuple #[.int .i64 (slM T N).1,.int .i64 (slM T N).2,Lf (ad 12) (M8 T)])/\Bl w w':=by
 have Gd:∀i,i<T.length->(T.getD i empty).size<=200:=fun i hi=>hs _ (by rw[Qa,Qd hi];exact Qv hi);obtain⟨rfl,c1⟩:=h.arg 1 (by omega);obtain⟨-,c2⟩:=h.arg 2 (by omega);have Ga:Hid (∀W,Bl w W->Cp 241 #[.string (T.getD 1 empty)] W fun e w'=>e=.returned (.tuple #[.int .i64 (Nk (T.getD 1 empty)),Lf (ad 12) (Fg (T.getD 1 empty)).2])/\Bl W w'):=fun W hb=>Wi _ W B ad (by have:=Gd 1 (by omega);omega) (hE.bw (hb.mono h.le)) (Qj h.le hb.size);have Gb:Hid (∀W,Bl w W->Cp 241 #[.string (T.getD 2 empty)] W fun e w'=>e=.returned (.tuple #[.int .i64 (Nk (T.getD 2 empty)),Lf (ad 12) (Fg (T.getD 2 empty)).2])/\Bl W w'):=fun W hb=>Wi _ W B ad (by have:=Gd 2 (by omega);omega) (hE.bw (hb.mono h.le)) (Qj h.le hb.size);have HA:Hid (∀V,Bl w V->V.cell? ⟨g,2,none⟩=some (.slice (some ⟨ab,ao,none⟩) T.length ac)/\V.cell? ⟨ab,ao+1,none⟩=some (.string (T.getD 1 empty))/\V.cell? ⟨ab,ao+2,none⟩=some (.string (T.getD 2 empty))):=fun V hb=>⟨(h.bw hb).call.c2,c1 V (hb.mono h.le),c2 V (hb.mono h.le)⟩;have HS:=hid fun W f t=>Sl.ya9 N f t W;have HM:Hid (slM T N=if((Fg (T.getD 1 empty)).2&&(Fg (T.getD 2 empty)).2)=true then Sl.Hx N (Fg (T.getD 1 empty)).1 (Fg (T.getD 2 empty)).1 else(0,0)):=rfl;have HO:Hid (M8 T=((Fg (T.getD 1 empty)).2&&(Fg (T.getD 2 empty)).2)):=rfl;clear h hE hs Gd c1 c2;rw[hT]at HA;generalize M8 T=so,slM T N=sm at*;unfold Nk at Ga Gb;generalize T.getD 1 empty=t1,T.getD 2 empty=t2 at*;generalize Fg t1=z1,Fg t2=z2 at*;obtain⟨v1,o1⟩:=z1;obtain⟨v2,o2⟩:=z2;dsimp only at Ga Gb HM HO;obtain⟨A,hA⟩:∃A,ad 12=A:=⟨_,rfl⟩;rw[hA]at Ga Gb ⊢;clear hA;cases o1 with
 |false=>
  obtain rfl:so=false:=HO.out;obtain rfl:sm=(0,0):=HM.out;have HJ:Hid (Cp 241 #[.string t1] w fun e w'=>e=.returned (.tuple #[.int .i64 0,.iface 307 (.pointer (some A))])/\Bl w w'):=Ga.out w (Qb _ _);clear Ga Gb HM HO HS;show Calls _ _ _ _ fun e w'=>e=.returned (.tuple #[.int .i64 0,.int .i64 0,.iface 307 (.pointer (some A))])/\_;obtain⟨q1,q2,q3⟩:=HA.out w (Qb _ _);go_enter func243,ntmps243;go_wp2_with fail;refine HJ.out.mono ?_;rintro e w1⟨rfl,b1⟩;have HB:Hid (Bl w w1):=b1;clear b1 HJ HA;go_wp2;go_ret3;exact⟨rfl,HB.out⟩
 |true=>
  have HJ:Hid (Cp 241 #[.string t1] w fun e w'=>e=.returned (.tuple #[.int .i64 v1,.nilIface])/\Bl w w'):=Ga.out w (Qb _ _);obtain⟨q1,q2,q3⟩:=HA.out w (Qb _ _);cases o2 with
  |false=>
   obtain rfl:so=false:=HO.out;obtain rfl:sm=(0,0):=HM.out;have Gc:Hid (∀W,Bl w W->Cp 241 #[.string t2] W fun e w'=>e=.returned (.tuple #[.int .i64 0,.iface 307 (.pointer (some A))])/\Bl W w'):=Gb.out;clear Ga Gb HM HO HS;show Calls _ _ _ _ fun e w'=>e=.returned (.tuple #[.int .i64 0,.int .i64 0,.iface 307 (.pointer (some A))])/\_;go_enter func243,ntmps243;go_wp2_with fail;refine HJ.out.mono ?_;rintro e w1⟨rfl,b1⟩;have HB:Hid (Bl w w1):=b1;obtain⟨p1,p2,p3⟩:=HA.out w1 b1;clear b1 HJ HA q1 q2 q3;go_wp2_with fail;refine(Gc.out _ HB.out).mono ?_;rintro e w2⟨rfl,b2⟩;have HC:Hid (Bl w w2):=HB.out.trans (b2.mono HB.out.size);clear b2 Gc;go_wp2;go_ret3;exact⟨rfl,HC.out⟩
  |true=>
   obtain rfl:so=true:=HO.out;obtain rfl:sm=Sl.Hx N v1 v2:=HM.out;have Gc:Hid (∀W,Bl w W->Cp 241 #[.string t2] W fun e w'=>e=.returned (.tuple #[.int .i64 v2,.nilIface])/\Bl W w'):=Gb.out;have Ge:Hid (∀W,Cp 273 #[.int .i64 N,.int .i64 v1,.int .i64 v2] W fun e w'=>e=.returned (.tuple #[.int .i64 (Sl.Hx N v1 v2).1,.int .i64 (Sl.Hx N v1 v2).2])/\w'=W):=fun W=>HS.out W v1 v2;clear Ga Gb HM HO HS;show Calls _ _ _ _ fun e w'=>e=.returned (.tuple #[.int .i64 (Sl.Hx N v1 v2).1,.int .i64 (Sl.Hx N v1 v2).2,.nilIface])/\_;generalize Sl.Hx N v1 v2=sm at*;obtain⟨x1,x2⟩:=sm;dsimp only at Ge ⊢;go_enter func243,ntmps243;go_wp2_with fail;refine HJ.out.mono ?_;rintro e w1⟨rfl,b1⟩;have HB:Hid (Bl w w1):=b1;obtain⟨p1,p2,p3⟩:=HA.out w1 b1;clear b1 HJ HA q1 q2 q3;go_wp2_with fail;refine(Gc.out _ HB.out).mono ?_;rintro e w2⟨rfl,b2⟩;have HC:=hid (HB.out.trans (b2.mono HB.out.size));clear b2 Gc;go_wp2_with fail;refine(Ge.out _).mono ?_;rintro e w3⟨rfl,Gf⟩;subst Gf;go_wp2;go_ret3;exact⟨rfl,HC.out⟩
theorem Lh(hs:∀t∈T,t.size<=200)(i:Nat):(T.getD i empty).size<=200:=by
 rw[Qa];by_cases hi:i<T.length
 ·rw[Qd hi];exact hs _ (Qv hi)
 ·rw[List.getElem?_eq_none (by omega)];exact Qs _
def M0 (nm t:ByteArray) (d:Int):KV:=⟨⟨nm,⟨1,t,[],[],[]⟩,d⟩,.slice none 0 0,.slice none 0 0,.slice none 0 0⟩
section
variable (B g b n:Nat) (now:Int) (aa:Option Addr) (ab ao ac:Nat) (L:List KV) (T:List ByteArray) (ad:Nat->Addr) (w:World)
theorem zny(d:Int)(h:Fu w B g b n now aa ab ao ac L L T)(hE:Lk w B ad)(hn:n<=1000)(hs:∀t∈T,t.size<=200)(hT:2<=T.length):
  Calls prog 235 #[.pointer (some ⟨g,0,none⟩),.int .i64 d] w fun e w'=>e=.returned (Lf (ad 1) (Mi L (M0 (T.getD 0 empty) (T.getD 1 empty) d)))/\Hk w B g b n now aa ab ao ac L T (ad 1) (M0 (T.getD 0 empty) (T.getD 1 empty) d) e w':=by
 have Ge:=Lh hs 0;have Gf:=Lh hs 1;obtain⟨he,hA⟩:=hE.er 1 (.inl rfl);have HV:Hid (∀W,Cp 214 #[.iface 231 (.string (T.getD 1 empty))] W fun e w'=>e=.returned (.agg #[.int .i64 1,.string (T.getD 1 empty),.slice none 0 0,.slice none 0 0,.slice none 0 0])/\Bl W w'):=fun W=>Y8 _ W;have HS:Hid (∀W,Bl w W->Cp 240 #[.pointer (some ⟨g,0,none⟩),kvA (M0 (T.getD 0 empty) (T.getD 1 empty) d)] W fun e w'=>e=.returned (Lf (ad 1) (Mi L (M0 (T.getD 0 empty) (T.getD 1 empty) d)))/\Hk w B g b n now aa ab ao ac L T (ad 1) (M0 (T.getD 0 empty) (T.getD 1 empty) d) e w'/\w'.cell? ⟨g,2,none⟩=some (.slice aa T.length ac)/\w'.cell? ⟨ab,ao,none⟩=some (.string (T.getD 0 empty))/\w'.cell? ⟨ab,ao+1,none⟩=some (.string (T.getD 1 empty))):=fun W hb=>by
  refine(Wu B g b n now aa ab ao ac L T W (M0 (T.getD 0 empty) (T.getD 1 empty) d) ((h.bw hb).gone _) (zyd _ _ _ _) (fun x _=>yfb _ _) (yai (by omega)) (by show((T.getD 0 empty)).size<=_;omega) hn (hE.bw (hb.mono h.le)).rd (he.bw (hb.mono h.le) h.n25 hA) hA).mono ?_;rintro e w'⟨rfl,hw,hg⟩;have Gc:Ml (M0 (T.getD 0 empty) (T.getD 1 empty) d).key=false:=by unfold Ml M0;simp
  obtain⟨-,q0⟩:=hw.arg 0 (by omega);obtain⟨-,q1⟩:=hw.arg 1 (by omega);refine(fun h=>⟨h.1,h,hw.call.c2,q0 _ (Qb _ _),q1 _ (Qb _ _)⟩:Hk w B g b n now aa ab ao ac L T (ad 1) (M0 (T.getD 0 empty) (T.getD 1 empty) d) _ w'->_) ⟨?_,⟨n+1,Qc _,?_⟩,Wv hb hg⟩
  ·unfold Lf Mi;rw[Gc,Bool.false_or]
  ·unfold Pj;rw[Gc,if_neg (by simp)];exact hw
 obtain⟨-,c0⟩:=h.arg 0 (by omega);obtain⟨-,c1⟩:=h.arg 1 (by omega);have HA:Hid (∀V,Bl w V->V.cell? ⟨g,2,none⟩=some (.slice aa T.length ac)/\V.cell? ⟨ab,ao,none⟩=some (.string (T.getD 0 empty))/\V.cell? ⟨ab,ao+1,none⟩=some (.string (T.getD 1 empty))):=fun V hb=>⟨(h.bw hb).call.c2,c0 V (hb.mono h.le),c1 V (hb.mono h.le)⟩;obtain rfl:=h.call.args.addr (by omega);have Gh:(0:Int)<(T.length:Int):=by omega
 have Gj:(1:Int)<(T.length:Int):=by omega
 have Gg:0<T.length:=by omega
 have Gi:(1:Int)<=(T.length:Int):=by omega
 generalize hM:Hk w B g b n now (some ⟨ab,ao,none⟩) ab ao ac L T (ad 1) (M0 (T.getD 0 empty) (T.getD 1 empty) d)=M at*;generalize Lf (ad 1) (Mi L (M0 (T.getD 0 empty) (T.getD 1 empty) d))=ev at*;clear hM h hE he hA hn c0 c1 Ge Gf hs;unfold kvA kC M0 at HS;dsimp only at HS;generalize(T.getD 0 empty)=t0,(T.getD 1 empty)=t1,T.length=m at*;obtain⟨q0,q1,q2⟩:=HA.out w.drew (below_drewN (Qb _ _) 1);go_enter func235,ntmps235;go_upto_region 1 with fail;go_region_held3 (fun V=>V.cell? ⟨g,2,none⟩=some (.slice (some ⟨ab,ao,none⟩) m ac)/\V.cell? ⟨ab,ao,none⟩=some (.string t0)/\V.cell? ⟨ab,ao+1,none⟩=some (.string t1))
  (first|exact HA.out _ (Qb _ _)|exact⟨q0,q1,q2⟩|exact Gd|exact HA.out _ Gb)
  (first
   |(go_at_call 214;refine(HV.out _).mono ?_;rintro e w2⟨rfl,b2⟩;have Gb:=(below_drewN (Qb _ w) 1).trans b2)
   |(go_at_call 240;refine(HS.out _ Gb).mono ?_;rintro e w3⟨rfl,Ga,Gd⟩))
 all_goals
  have HW:Hid _:=Ga;clear Ga;go_wp2;go_ret;exact⟨rfl,HW.out⟩
theorem zr9(h:Fu w B g b n now aa ab ao ac L L T)(hd:Fm (L.map KV.key)=true)(hE:Lk w B ad)(hn:n<=1000)(hs:∀t∈T,t.size<=200)(hT:T.length=2):
  Calls prog 181 #[.pointer (some ⟨g,0,none⟩)] w (F2 w B g b now aa ab ao ac T ad (L.map KV.key) (if(Fq L (T.getD 0 empty)).isSome=true then(L.map KV.key,Fe 0) else Fj (L.map KV.key) (M0 (T.getD 0 empty) (T.getD 1 empty) 0).key (Fe 1))):=by
 have Gc:(200:Nat)<=maxLen:=by unfold maxLen;omega
 have Gb:=Lh hs 0;have HT:=hid (Ah g b n now aa ab ao ac L T w h.call (by omega) (by omega));have HR:=hid fun W s=>Bn s W;have HX:=hid fun W (hb:Bl w W)=>zny B g b n now aa ab ao ac L T ad W 0 (h.bw hb) (hE.bw (hb.mono h.le)) hn hs (by omega);have HS:Hid (∀r w',Fr w' w.heap.size r (Fe 0)->Bl w w'->F2 w B g b now aa ab ao ac T ad (L.map KV.key) (L.map KV.key,Fe 0) (.returned (.tuple #[r,.nilIface])) w'):=fun r w' h1 h2=>M7 h ⟨r,rfl,h1,h2⟩;have HL:=hid fun r er w1 w2 (h1:Fr w1 w.heap.size r (Fe 1)) (h2:Bl w w1) (h3:Hk w1 B g b n now aa ab ao ac L T (ad 1) (M0 (T.getD 0 empty) (T.getD 1 empty) 0) (.returned er) w2)=>Pt h hd h1 (h2.mono h.le) h2.size h3;clear h hd hE hs Gb;generalize(Fq L (T.getD 0 empty)).isSome=y,Fj (L.map KV.key) (M0 (T.getD 0 empty) (T.getD 1 empty) 0).key (Fe 1)=pp,Lf (ad 1) (Mi L (M0 (T.getD 0 empty) (T.getD 1 empty) 0))=ev at*;generalize L.map KV.key=ks at*;cases y with
 |true=>
  rw[if_pos rfl];go_enter func181,ntmps181;go_wp2_with fail;refine HT.out.mono ?_;rintro e w1⟨rfl,b1⟩;have HB:=hid b1;clear b1 HT;go_wp2_with fail;refine(HR.out _ _).mono ?_;rintro e w2⟨r,rfl,hr,hb⟩;have HF:Hid _:=HS.out r w2 (hr.le HB.out.size) (HB.out.trans (hb.mono HB.out.size));clear hr hb HR HX HL HS;go_wp2;go_ret2;exact HF.out
 |false=>
  rw[if_neg (by simp)];go_enter func181,ntmps181;go_wp2_with fail;refine HT.out.mono ?_;rintro e w1⟨rfl,b1⟩;have HB:=hid b1;clear b1 HT;go_wp2_with fail;refine(HR.out _ _).mono ?_;rintro e w2⟨r,rfl,hr,hb⟩;have HC:=hid (HB.out.trans (hb.mono HB.out.size));have Ga:=hid (hr.le HB.out.size);clear hr hb HR HS;go_wp2_with fail;refine(HX.out _ HC.out).mono ?_;rintro e w3⟨rfl,hl⟩;have HF:Hid _:=HL.out r _ w2 w3 Ga.out HC.out hl;clear hl HX HL;go_wp2;go_ret2;exact HF.out
end
theorem Oo(L:List KV)(nm:ByteArray):(Fq L nm=none/\Fb L nm=kv0)\/(Fq L nm=some (Fb L nm)/\Fb L nm∈L/\(Fb L nm).key.name=nm):=by
 unfold Fb;cases hf:Fq L nm with
 |none=>exact .inl ⟨rfl,rfl⟩
 |some x=>
  refine .inr ⟨rfl,List.mem_of_find?_eq_some hf,?_⟩;have:=List.find?_some hf;simpa using this
structure yit (k:Ke):Prop where
 text:k.val.text.size<=200
 ni:k.val.ia.length<=20
 np:k.val.pj.length<=20
 nr:k.val.rq.length<=20
 ia:∀t∈k.val.ia,t.size<=200
 pj:∀p∈k.val.pj,p.1.size<=200/\p.2.size<=200
 rq:∀r∈k.val.rq,r.m.size<=200/\-1000000000000000000<=r.s/\r.s<=1000000000000000000
 due:0<=k.due/\k.due<=1000000000
theorem N4(hd:Fm (L.map KV.key)=true)(nm:ByteArray):yit (Fb L nm).key:=by
 rcases Oo L nm with⟨-,e⟩|⟨-,hm,-⟩
 ·rw[e];exact⟨Qs _,Qs _,Qs _,Qs _,fun t ht=>absurd ht (List.not_mem_nil),fun t ht=>absurd ht (List.not_mem_nil),fun t ht=>absurd ht (List.not_mem_nil),by show(0:Int)<=0/\(0:Int)<=1000000000;omega⟩
 ·have hk:=((Ns _).1 hd).2.2 _ (List.mem_map_of_mem hm);unfold Hh Lp at hk;rw[Qh,Qh,decide_eq_true_iff]at hk;have Ga:=Bo hk.2.1;exact⟨Ga.text,Ga.ni,Ga.np,Ga.nr,Ga.ia,Ga.pj,Ga.rq,by have:=hk.2.2;simpa using this⟩
theorem Fu.held(h:Fu w B g b n now aa ab ao ac L M T)(hT:0<T.length)(hs:(T.getD 0 empty).size<=200):
  ∃a1 n1 k1 a2 n2 k2 a3 n3 k3,(Fb L (T.getD 0 empty)).vi=.slice a1 n1 k1/\(Fb L (T.getD 0 empty)).vp=.slice a2 n2 k2/\(Fb L (T.getD 0 empty)).vr=.slice a3 n3 k3/\
   ∀W,Bl w W->Calls prog 239 #[.pointer (some ⟨g,0,none⟩)] W fun e w'=>e=.returned (.agg #[.int .i64 (Fb L (T.getD 0 empty)).key.val.kind,.string (Fb L (T.getD 0 empty)).key.val.text,.slice a1 n1 k1,.slice a2 n2 k2,.slice a3 n3 k3])/\Bl W w':=by
 have Ga:(200:Nat)<=maxLen:=by unfold maxLen;omega
 obtain⟨a1,n1,k1,a2,n2,k2,a3,n3,k3,e1,e2,e3⟩:=Ro h.call.ring (T.getD 0 empty) (by omega);refine⟨a1,n1,k1,a2,n2,k2,a3,n3,k3,e1,e2,e3,fun W hb=>?_⟩;have:=U1 g b n now aa ab ao ac L T W (h.bw hb).call hT (by omega);unfold Td at this;rwa[e1,e2,e3]at this
section
variable (B g b n:Nat) (now:Int) (aa:Option Addr) (ab ao ac:Nat) (L:List KV) (T:List ByteArray) (ad:Nat->Addr) (w:World)
theorem zmy(h:Fu w B g b n now aa ab ao ac L L T)(hd:Fm (L.map KV.key)=true)(hE:Lk w B ad)(hs:∀t∈T,t.size<=200)(hT:T.length=3):
  Calls prog 188 #[.pointer (some ⟨g,0,none⟩)] w (F2 w B g b now aa ab ao ac T ad (L.map KV.key) (if M8 T=true then(L.map KV.key,Fy (R8 (Fb L (T.getD 0 empty)).key.val.text (Fg (T.getD 1 empty)).1 (Fg (T.getD 2 empty)).1)) else(L.map KV.key,Fl F3))):=by
 have Gh:=Lh hs 0;have Gf:=N4 hd (T.getD 0 empty);obtain⟨a1,n1,k1,a2,n2,k2,a3,n3,k3,e1,e2,e3,hH⟩:=h.held (by omega) Gh;have HH:=hid hH;have HS:=hid fun W N (hb:Bl w W)=>zu1 B g b n now aa ab ao ac L L T ad W (h.bw hb) (hE.bw (hb.mono h.le)) hT hs N;have HR:=hid fun W s=>Wt s W;have Gc:Hid (∀R r w',Fr w' w.heap.size r R->Bl w w'->F2 w B g b now aa ab ao ac T ad (L.map KV.key) (L.map KV.key,R) (.returned (.tuple #[r,.nilIface])) w'):=fun R r w' h1 h2=>M7 h ⟨r,rfl,h1,h2⟩;have Ge:Hid (∀r w',Bl w w'->F2 w B g b now aa ab ao ac T ad (L.map KV.key) (L.map KV.key,Fl F3) (.returned (.tuple #[r,.iface 307 (.pointer (some (ad 12)))])) w'):=fun r w' h2=>Ul 12 (by omega) (h2.mono h.le);have ht:=Gf.text;have HM:Hid (∃i j:Nat,slM T (Fb L (T.getD 0 empty)).key.val.text.size=((i:Int),(j:Int))/\i<=j/\j<=(Fb L (T.getD 0 empty)).key.val.text.size/\(M8 T=true->R8 (Fb L (T.getD 0 empty)).key.val.text (Fg (T.getD 1 empty)).1 (Fg (T.getD 2 empty)).1=(Fb L (T.getD 0 empty)).key.val.text.extract i j)):=by
  unfold Hid slM;cases M8 T with
  |true=>
   obtain⟨i,j,e,h1,h2⟩:=Bf (Fb L (T.getD 0 empty)).key.val.text.size (Fg (T.getD 1 empty)).1 (Fg (T.getD 2 empty)).1;refine⟨i,j,by rw[if_pos rfl,e],h1,h2,fun _=>?_⟩;unfold R8;rw[e];rfl
  |false=>exact⟨0,0,by rw[if_neg (by simp)];rfl,Qc _,Qs _,fun h=>by cases h⟩
 clear h hd hE hs hH Gf e1 e2 e3;generalize M8 T=so,R8 (Fb L (T.getD 0 empty)).key.val.text (Fg (T.getD 1 empty)).1 (Fg (T.getD 2 empty)).1=rg at*;generalize(Fb L (T.getD 0 empty)).key.val.text=t at*;obtain⟨i,j,hm,Gi,Gk,Gg⟩:=HM.out;have Gd:=hid Gg;have Gb:Hid (∀W,Bl w W->Cp 243 #[.pointer (some ⟨g,0,none⟩),.int .i64 t.size] W fun e w'=>e=.returned (.tuple #[.int .i64 i,.int .i64 j,Lf (ad 12) so])/\Bl W w'):=fun W hb=>by have:=HS.out W t.size hb;rw[hm]at this;exact this
 clear HS HM hm Gg;generalize slM T=sl at*;have Gl:(0:Int)<=(i:Int):=by omega
 have Gm:(i:Int)<=(j:Int):=by omega
 have Gj:(j:Int)<=(t.size:Int):=by omega
 generalize L.map KV.key=ks,(Fb L (T.getD 0 empty)).key.val.kind=kd at*;have hf:=fun W=>Bt (.int .i64 kd) (.string t) (.slice a1 n1 k1) (.slice a2 n2 k2) (.slice a3 n3 k3) W;cases so with
 |true=>
  rw[if_pos rfl];obtain rfl:=Gd.out rfl;have Ga:=hid Gb.out;clear Gb Ge Gd;go_enter func188,ntmps188;go_wp2_with fail;refine(HH.out _ (Qb _ _)).mono ?_;rintro e w1⟨rfl,b1⟩;have HB:=hid b1;clear b1 HH;go_wp2_with fail;refine(Ga.out _ HB.out).mono ?_;rintro e w2⟨rfl,b2⟩;have HC:=hid (HB.out.trans (b2.mono HB.out.size));clear b2 Ga HB;go_wp2_with fail;refine(HR.out _ _).mono ?_;rintro e w3⟨r,rfl,hr,hb⟩;have HF:Hid _:=Gc.out _ r w3 (hr.le HC.out.size) (HC.out.trans (hb.mono HC.out.size));clear hr hb HR Gc;go_wp2;go_ret2;exact HF.out
 |false=>
  rw[if_neg (by simp)];have Ga:=hid Gb.out;clear Gb Gc Gd;generalize ad 12=A at*;go_enter func188,ntmps188;go_wp2_with fail;refine(HH.out _ (Qb _ _)).mono ?_;rintro e w1⟨rfl,b1⟩;have HB:=hid b1;clear b1 HH;go_wp2_with fail;refine(Ga.out _ HB.out).mono ?_;rintro e w2⟨rfl,b2⟩;have HC:=hid (HB.out.trans (b2.mono HB.out.size));clear b2 Ga HB;go_wp2_with fail;refine(HR.out _ _).mono ?_;rintro e w3⟨r,rfl,hr,hb⟩;have HF:Hid _:=Ge.out r w3 (HC.out.trans (hb.mono HC.out.size));clear hr hb HR Ge;go_wp2;go_ret2;exact HF.out
theorem zpv(h:Fu w B g b n now aa ab ao ac L L T)(hd:Fm (L.map KV.key)=true)(hE:Lk w B ad)(hn:n<=1000)(hs:∀t∈T,t.size<=200)(hT:T.length=2):
  Calls prog 189 #[.pointer (some ⟨g,0,none⟩)] w (F2 w B g b now aa ab ao ac T ad (L.map KV.key) (Fj (L.map KV.key) (Ll L (T.getD 0 empty) ((Fb L (T.getD 0 empty)).key.val.text++(T.getD 1 empty))).key (Fe ((Fb L (T.getD 0 empty)).key.val.text++(T.getD 1 empty)).size))):=by
 have Gh:=Lh hs 0;have Gl:=Lh hs 1;have Gd:=N4 hd (T.getD 0 empty);obtain⟨a1,n1,k1,a2,n2,k2,a3,n3,k3,e1,e2,e3,hH⟩:=h.held (by omega) Gh;obtain⟨-,c1⟩:=h.arg 1 (by omega);have HA:Hid (∀V,Bl w V->V.cell? ⟨g,2,none⟩=some (.slice aa T.length ac)/\V.cell? ⟨ab,ao+1,none⟩=some (.string (T.getD 1 empty))):=fun V hb=>⟨(h.bw hb).call.c2,c1 V (hb.mono h.le)⟩;have HH:=hid hH;obtain⟨he,hA⟩:=hE.er 1 (.inl rfl);have Gk:=Gd.text;have Gm:((Fb L (T.getD 0 empty)).key.val.text++(T.getD 1 empty)).size<=400:=by rw[ByteArray.size_append];have:=Gd.text;omega
 have HX:Hid (∀W,Bl w W->Cp 244 #[.pointer (some ⟨g,0,none⟩),.iface 231 (.string ((Fb L (T.getD 0 empty)).key.val.text++(T.getD 1 empty)))] W (Hk W B g b n now aa ab ao ac L T (ad 1) (Ll L (T.getD 0 empty) ((Fb L (T.getD 0 empty)).key.val.text++(T.getD 1 empty))))):=fun W hb=>zns B g b n now aa ab ao ac L T W _ ((h.bw hb).gone _) (by omega) (by omega) (by omega) hn (hE.bw (hb.mono h.le)).rd (he.bw (hb.mono h.le) h.n25 hA) hA;have HR:=hid fun W s=>Pg s W;have HL:=hid fun r er w1 w2 (h1:Fr w1 w.heap.size r (Fe ((Fb L (T.getD 0 empty)).key.val.text++(T.getD 1 empty)).size)) (h2:Bl w w1) (h3:Hk w1 B g b n now aa ab ao ac L T (ad 1) (Ll L (T.getD 0 empty) ((Fb L (T.getD 0 empty)).key.val.text++(T.getD 1 empty))) (.returned er) w2)=>Pt h hd h1 (h2.mono h.le) h2.size h3;obtain rfl:=h.call.args.addr (by omega);rw[hT]at HA;clear h hd hE hs hH e1 e2 e3 c1 he hA Gd;have Gg:Hid (∀W e w',Hk W B g b n now (some ⟨ab,ao,none⟩) ab ao ac L T (ad 1) (Ll L (T.getD 0 empty) ((Fb L (T.getD 0 empty)).key.val.text++(T.getD 1 empty))) e w'->∃er,e=.returned er):=fun W e w' hl=>⟨_,hl.1⟩;obtain⟨LE,Ga⟩:∃LE,LE=fun W=>Hk W B g b n now (some ⟨ab,ao,none⟩) ab ao ac L T (ad 1) (Ll L (T.getD 0 empty) ((Fb L (T.getD 0 empty)).key.val.text++(T.getD 1 empty))):=⟨_,rfl⟩;have Ge:Hid (∀W,Bl w W->Cp 244 #[.pointer (some ⟨g,0,none⟩),.iface 231 (.string ((Fb L (T.getD 0 empty)).key.val.text++(T.getD 1 empty)))] W (LE W)):=by rw[Ga];exact HX.out
 have Gf:Hid (∀r er w1 w2,Fr w1 w.heap.size r (Fe ((Fb L (T.getD 0 empty)).key.val.text++(T.getD 1 empty)).size)->Bl w w1->LE w1 (.returned er) w2->F2 w B g b now (some ⟨ab,ao,none⟩) ab ao ac T ad (L.map KV.key) (Fj (L.map KV.key) (Ll L (T.getD 0 empty) ((Fb L (T.getD 0 empty)).key.val.text++(T.getD 1 empty))).key (Fe ((Fb L (T.getD 0 empty)).key.val.text++(T.getD 1 empty)).size)) (.returned (.tuple #[r,er])) w2):=by rw[Ga];exact HL.out
 have Gc:Hid (∀W e w',LE W e w'->∃er,e=.returned er):=by rw[Ga];exact Gg.out
 clear HX HL Gg Ga;generalize Fj (L.map KV.key) (Ll L (T.getD 0 empty) ((Fb L (T.getD 0 empty)).key.val.text++(T.getD 1 empty))).key (Fe ((Fb L (T.getD 0 empty)).key.val.text++(T.getD 1 empty)).size)=pp,(Fb L (T.getD 0 empty)).key.val.kind=kd at*;generalize(Fb L (T.getD 0 empty)).key.val.text=t,(T.getD 1 empty)=t1 at*;have Gj:t.size+t1.size<=400:=by omega
 generalize htt2:t++t1=tt at*;have hf:=fun W=>Bt (.int .i64 kd) (.string t) (.slice a1 n1 k1) (.slice a2 n2 k2) (.slice a3 n3 k3) W;obtain⟨q0,q1⟩:=HA.out w.drew (below_drewN (Qb _ _) 1);go_enter func189,ntmps189;go_upto_region 1 with fail;go_region_held_law (fun V=>V.cell? ⟨g,2,none⟩=some (.slice (some ⟨ab,ao,none⟩) 2 ac)/\V.cell? ⟨ab,ao+1,none⟩=some (.string t1))
  (first|exact HA.out _ (Qb _ _)|exact⟨q0,q1⟩|exact HA.out _ Gb)
  (first
   |(go_at_call 239;refine(HH.out _ (below_drewN (Qb _ w) 1)).mono ?_;rintro e w2⟨rfl,b2⟩;have Gb:=(below_drewN (Qb _ w) 1).trans b2))
 all_goals
  have HB:=hid Gb;clear Gb b2 HH HA q0 q1;go_wp2_with fail;refine(HR.out _ _).mono ?_;rintro e w3⟨r,rfl,hr,hb⟩;have HC:=hid (HB.out.trans (hb.mono HB.out.size));have Gi:=hid (hr.le HB.out.size);clear hr hb HR;go_wp2_with fail;refine(Ge.out _ HC.out).mono ?_;rintro e w4 hl;obtain⟨er,rfl⟩:=Gc.out _ _ _ hl;have HF:Hid _:=Gf.out r _ w3 w4 Gi.out HC.out hl;clear hl Ge Gf;go_wp2;go_ret2;exact HF.out
end
end Rb
namespace Er
open Tryz
open Go.RowKit Go.Extern.Stop Go.Stop Go.Extern
theorem zux(v:Value)(w:World):(Extern.ReflectliteType.typeOf #[.iface 307 v]).run prog w=.ok (.iface 215 (.agg #[.pointer (some ⟨22,307,none⟩)])) w:=by kernel_rfl
theorem zj4(w:World):((Extern.ReflectliteType.method fun t=>do Extern.Rtype.noPackHeld "Comparable" t;pure (.bool (<-typeInfo t).comparable)) #[.agg #[.pointer (some ⟨22,307,none⟩)]]).run prog w=.ok (.bool true) w:=by kernel_rfl
theorem zf1(v:Value)(w:World):(Go.method 482 215 v "Comparable").run prog w=.ok (359,v) w:=by kernel_rfl
theorem ye7:(prog.info? 307).map (·.comparable)=some true:=by kernel_rfl
theorem ye2:(prog.info? 309).map (·.size)=some 1:=by kernel_rfl
section
variable (v:Value) (xT:TypeId) (w:World)
theorem yjs:(Instr.typeAssert (.iface 307 v) xT 217 true).run prog w= .ok (.tuple #[.nilIface,.bool false]) w:=run_typeAssert_lacksB underlying217 (by kernel_rfl) (by kernel_rfl) v xT w
theorem zzu:(Instr.typeAssert (.iface 307 v) xT 220 true).run prog w= .ok (.tuple #[.nilIface,.bool false]) w:=run_typeAssert_lacksB underlying220 (by kernel_rfl) (by kernel_rfl) v xT w
theorem zw1:(Instr.typeAssert (.iface 307 v) xT 222 true).run prog w= .ok (.tuple #[.nilIface,.bool false]) w:=run_typeAssert_lacksB underlying222 (by kernel_rfl) (by kernel_rfl) v xT w
theorem yim:(Instr.typeAssert (.iface 125 v) xT 217 true).run prog w= .ok (.tuple #[.nilIface,.bool false]) w:=run_typeAssert_lacksB underlying217 (by kernel_rfl) (by kernel_rfl) v xT w
theorem zno:(Instr.typeAssert (.iface 125 v) xT 220 true).run prog w= .ok (.tuple #[.iface 125 v,.bool true]) w:=run_typeAssert_hasB underlying220 (by kernel_rfl) v xT w
end
section
variable (v:Value) (w:World)
theorem zj5:(Go.method 482 125 v "Unwrap").run prog w= .ok (353,v) w:=by kernel_rfl
theorem zjs:(Go.method 482 125 v "Error").run prog w= .ok (352,v) w:=by kernel_rfl
theorem zjy:(Go.method 482 307 v "Error").run prog w= .ok (390,v) w:=by kernel_rfl
end
theorem yc8(pb po:Nat)(b a:Addr)(ca cb:Array Value)(ta tb:TypeId)(w:World)(h1:w.cell? ⟨pb,po,none⟩=some (.iface 307 (.pointer (some a))))(hne:a≠b)(ha:w.heap[a.block]?=some (.cells ca ta (0,0)))(hb:w.heap[b.block]?=some (.cells cb tb (0,0))):
  Calls prog 92 #[.iface 125 (.pointer (some ⟨pb,po,none⟩)),.iface 307 (.pointer (some b))] w fun e w'=>e=.returned (.bool false)/\w'=w:=by
 obtain⟨i,hi,Ga⟩:=Option.map_eq_some_iff.1 ye7;obtain⟨j,hj,Gc⟩:=Option.map_eq_some_iff.1 ye2;have h8:=@run_callFunc_extern prog 128 _ Extern.ReflectliteType.typeOf func128 (by kernel_rfl) (by kernel_rfl) (by kernel_rfl) (by kernel_rfl);have Gb:=@run_callFunc_extern prog 359 _ (Extern.ReflectliteType.method fun t=>do Extern.Rtype.noPackHeld "Comparable" t;pure (.bool (<-typeInfo t).comparable)) func359 (by kernel_rfl) (by kernel_rfl) (by kernel_rfl) (by kernel_rfl);have tT:=zux;have cT:=fun w=>(Gb #[.agg #[.pointer (some ⟨22,307,none⟩)]] w);simp only[zj4]at cT;clear Gb;have mR:=zf1;have nE:=yjs;have uE:=zzu;have vE:=zw1;have nW:=yim;have uW:=zno;have mU:=zj5;have Gd:=run_eql_iface_ptr_other (P:=prog) w underlying75 underlying307 hi Ga hj (by rw[Gc];decide) hne ha hb;have Ge:=run_eql_iface_types (P:=prog) 125 307 (.pointer (some ⟨pb,po,none⟩)) (.pointer (some b)) underlying75 (by decide) w;go_enter func92,ntmps92;go_wp2;refine wp_loop_rounds 2 ?_;rw[rounds_succ];go_wp2;rw[rounds_succ];go_wp2;go_ret;exact⟨rfl,rfl⟩
theorem Ry(pb:Nat)(a:Addr)(t:ByteArray)(w:World)(h1:w.cell? ⟨pb,0,none⟩=some (.iface 307 (.pointer (some a))))(h2:w.cell? a=some (.string t))(ht:t.size<=200):
  Calls prog 352 #[.pointer (some ⟨pb,0,none⟩)] w fun e w'=>e=.returned (.string (⟨#[69,82,82,32]⟩++t))/\w'=w:=by
 have mE:=zjy;have hz:¬9223372036854775807<4+t.size:=by omega
 go_enter func352,ntmps352;go_wp2;go_ret;exact⟨rfl,rfl⟩
open Go.RowKit
theorem zki(pb:Nat)(a b:Addr)(t:ByteArray)(ca cb:Array Value)(ta tb:TypeId)(w:World)(hpb:pb<w.heap.size)(h1:w.cell? ⟨pb,0,none⟩=some (.iface 307 (.pointer (some a))))(h2:w.cell? a=some (.string t))(ht:t.size<=200)
 (hk:w.cell? ⟨0,0,none⟩=some (.iface 307 (.pointer (some b))))(h5:0<w.heap.size)(hne:a≠b)(ha:w.heap[a.block]?=some (.cells ca ta (0,0)))(hb:w.heap[b.block]?=some (.cells cb tb (0,0))):
  Calls prog 49 #[.iface 125 (.pointer (some ⟨pb,0,none⟩))] w fun e w'=>∃A,e=.returned (.slice (some ⟨A,0,none⟩) 1 1)/\Fc w' A 40 #[.int .i64 2,.int .i64 0,.string (⟨#[69,82,82,32]⟩++t),.slice none 0 0]/\w.heap.size<=A/\Bl w w':=by
 have hE:Hid (Cp 352 #[.pointer (some ⟨pb,0,none⟩)] w fun e w'=>e=.returned (.string (⟨#[69,82,82,32]⟩++t))/\w'=w):=Ry pb a t w h1 h2 ht;have b0:Bl w (w.alloc (.cells #[.pointer none] 125)):=(Qb _ w).alloc (Qc _) _;have Gb:=(Array.getElem?_eq_some_iff.1 ha).1;have Gc:=(Array.getElem?_eq_some_iff.1 hb).1;have hI:Hid (Cp 92 #[.iface 125 (.pointer (some ⟨pb,0,none⟩)),.iface 307 (.pointer (some b))] (w.alloc (.cells #[.pointer none] 125)) fun e w'=>e=.returned (.bool false)/\w'=w.alloc (.cells #[.pointer none] 125)):=
  yc8 pb 0 b a ca cb ta tb _ ((b0.cell (p:=⟨pb,0,none⟩) hpb).trans h1) hne ((b0.block _ Gb).trans ha) ((b0.block _ Gc).trans hb)
 have Ga:=(b0.cell (p:=⟨0,0,none⟩) h5).trans hk;have mR:=zjs;generalize hT:(⟨#[69,82,82,32]⟩++t:ByteArray)=T at*;clear ha hb h1 h2 hT b0;go_enter func49,ntmps49;go_wp2_with fail;refine hE.out.mono ?_;rintro e w1⟨rfl,e1⟩;subst e1;clear hE;go_wp2_with fail;refine hI.out.mono ?_;rintro e w2⟨rfl,e2⟩;have b2:Bl w1 w2:=by rw[e2];exact(Qb _ w1).alloc (Qc _) _
 clear hI e2 Ga;go_wp2;go_ret;exact⟨_,rfl,Fc.new _ _ _,b2.size,b2.alloc b2.size _⟩
end Er
section
open Tryz
open Go.RowKit Go.Sort
theorem zjz(s:ByteArray)(w:World)(hs:s.size<=1048576):Calls prog 126 #[.string s] w fun e w'=>e=.returned (.string (H9 s))/\Bl w w':=by
 obtain⟨Gl,W1,D0,Gb,Gc,Gh,b0⟩:=zm3 s w;have Gf:s.data.toList.length=s.size:=by rw[Lib.size_eq]
 have Gm:Hid (P9 D0 s.data.toList 0/\s.data.toList.length<=D0.size):=⟨fun j hj=>by rw[if_neg (by omega)];exact Gh j hj,by
  by_cases h0:s.data.toList.length=0
  ·omega
  ·have:=Gh (s.data.toList.length-1) (by omega);have:=(Array.getElem?_eq_some_iff.1 this).1;omega⟩
 have HN:Hid (H9 s=⟨(s.data.toList.map upB).toArray⟩):=rfl;have HLEN:Hid (s.data.toList.length=s.size):=Gf;generalize H9 s=NM,s.data.toList=l at*;have Gd:Hid ((convert 9 22 (.string s)).run prog w=.ok (.slice (some ⟨w.heap.size,0,none⟩) s.size Gl) W1):=Gb;generalize hn:s.size=n at*;clear Gh Gf;go_enter func126,ntmps126;go_wp2;go_loopw [10] (fun i wr=>∃(k:Nat) (D:Array Value),k<=n/\i=.int .i64 k/\Hid (P9 D l k/\l.length<=D.size/\Ok wr w.heap.size 5 D)/\Bl w wr) (fun i _=>n-(intOf i).toNat)
 case atStart=>exact⟨0,D0,by omega,rfl,⟨Gm.out.1,Gm.out.2,Gc⟩,b0⟩
 case round=>
  obtain⟨k,D,hk,rfl,hI,bk⟩:=hrel;clear Gb Gd Gc b0;obtain⟨hp,Gg,hr⟩:=hI.out;by_cases hlt:k<n
  ·have Gi:k<l.length:=by rw[HLEN.out];exact hlt
   have hc:wr.cell? ⟨w.heap.size,k,none⟩=some (.int .u8 (((l[k]).toNat:Nat):Int)):=by
    rw[hr.cell,hp k Gi,if_neg (by omega)]
   have Gs:=hr.frozen k (by omega);have H1:Hid (upN (l[k]).toNat=(l[k]).toNat->P9 D l (k+1)/\l.length<=D.size/\Ok wr w.heap.size 5 D):=fun e=>⟨zp1 hp Gi e,Gg,hr⟩;have H2:Hid (∀y:Nat,upN (l[k]).toNat=y->P9 (D.setIfInBounds k (.int .u8 (y:Int))) l (k+1)/\l.length<=(D.setIfInBounds k (.int .u8 (y:Int))).size/\Ok (wr.setCell ⟨w.heap.size,k,none⟩ (.int .u8 (y:Int))) w.heap.size 5 (D.setIfInBounds k (.int .u8 (y:Int)))):=fun y hy=>by
    subst hy;exact⟨zrk hp Gi Gg,by rw[Array.size_setIfInBounds];exact Gg,hr.set k _⟩
   have Gr:=(l[k]).toNat_lt;generalize(l[k]).toNat=x at*;clear hI hp Gg hr;have Gq:(0:Int)<=(k:Int):=by omega
   have Gt:(k:Int)<(n:Int):=by omega
   by_cases h1:97<=x
   ·have g1:decide ((97:Int)<=(x:Int))=true:=Qe (by omega);by_cases h2:x<=122
    ·have g2:decide ((x:Int)<=122)=true:=Qe (by omega);have Gp:IntKind.u8.wrap ((x:Int)-97)=((x:Int)-97):=by
      rw[show(x:Int)-97=((x-97:Nat):Int) by omega];exact wrap_u8 (by omega) (by omega)
     have Gn:IntKind.u8.wrap ((x:Int)-97+65)=((x-32:Nat):Int):=by
      rw[show(x:Int)-97+65=((x-32:Nat):Int) by omega];exact wrap_u8 (by omega) (by omega)
     have Ge:Hid _:=H2.out (x-32) (by unfold upN;rw[if_pos ⟨h1,h2⟩]);generalize x-32=y at*;clear H1 H2;go_wp2;go_roundw
     case rel=>exact⟨k+1,_,by omega,by go_num,Ge,bk.setCell (Qc _) _⟩
     case measure=>simp[intOf];omega
    ·have g2:decide ((x:Int)<=122)=false:=Qf (by omega);have Ge:Hid _:=H1.out (by unfold upN;rw[if_neg (by omega)]);clear H1 H2;go_wp2;go_roundw
     case rel=>exact⟨k+1,_,by omega,by go_num,Ge,bk⟩
     case measure=>simp[intOf];omega
   ·have g1:decide ((97:Int)<=(x:Int))=false:=Qf (by omega);have Ge:Hid _:=H1.out (by unfold upN;rw[if_neg (by omega)]);clear H1 H2;go_wp2;go_roundw
    case rel=>exact⟨k+1,_,by omega,by go_num,Ge,bk⟩
    case measure=>simp[intOf];omega
  ·obtain rfl:k=n:=by omega
   have Gk:(l.map upB).length=k:=by rw[Qp,HLEN.out]
   have Ga:=run_convert_bytes_back (P:=prog) wr 22 9 5 ⟨w.heap.size,0,none⟩ Gl (l.map upB) underlying22 underlying5 underlying9 (fun j hj=>by
    have Gj:j<l.length:=by rw[Qp]at hj;exact hj
    rw[Addr.add_lit,Qq,hr.cell,hp j Gj,if_pos (by rw[HLEN.out]at Gj;exact Gj),List.getElem_map,zyq])
   rw[Gk]at Ga;rw[<-HN.out]at Ga;clear hI hp Gg hr Gk;go_wp2;go_ret;exact⟨rfl,bk⟩
end
namespace Rb
open Tryz
open _root_.ByteArray (empty)
open Go.RowKit Go.Maps
open Ri (F4 RK UpK Fq G2 Nb Mk Ln kvA z7 Ow Rv Ou Ru)
variable {ks:List Ke} {k:Ke} {d now:Int} {L:List KV} {x:KV} {w:World} {B g b ab ao ac n:Nat} {aa:Option Addr} {T:List ByteArray}
def Mq (now:Int) (T:List ByteArray):Int×Nat:=
 if T.length=4 then
  if H9 (T.getD 2 empty)=sEX then
   if (Fg (T.getD 3 empty)).2=true then (if 1<=(Fg (T.getD 3 empty)).1/\(Fg (T.getD 3 empty)).1<=1000000000-now then (now+(Fg (T.getD 3 empty)).1,0) else (0,9)) else (0,12)
  else (0,11)
 else (0,0)
def Ej (ad:Nat->Addr) (i:Nat):Value:=if i=0 then .nilIface else .iface 307 (.pointer (some (ad i)))
theorem yja(s:ByteArray):decide (H9 s=sEX)=((H9 s).toList==[69,88]):=by
 rw[Bool.eq_iff_iff,decide_eq_true_iff,beq_iff_eq,ByteArray.toList_eq];constructor
 ·intro e;rw[e];rfl
 ·intro e;exact ByteArray.ext (Array.toList_inj.1 e)
theorem zxh(g:Nat)(a:Option Addr)(c:Nat)(w:World):Calls prog 234 #[.pointer (some ⟨g,0,none⟩),.slice a 0 c] w fun e w'=>e=.returned (.tuple #[.int .i64 0,.nilIface])/\Bl w w':=by
 have hb:=Qb w.heap.size w;go_enter func234,ntmps234;go_wp2;go_ret2;exact⟨rfl,hb⟩
section
variable (B g b n:Nat) (now:Int) (aa:Option Addr) (ab ao ac:Nat) (L:List KV) (T:List ByteArray) (ad:Nat->Addr) (w:World)
theorem yaf(h:Fu w B g b n now aa ab ao ac L L T)(hE:Lk w B ad)(hs:∀t∈T,t.size<=200)(hT:T.length=4)(hnow:0<=now/\now<=1000000000)(c:Nat):
  Calls prog 234 #[.pointer (some ⟨g,0,none⟩),.slice (some ⟨ab,ao+2,none⟩) 2 c] w fun e w'=>e=.returned (.tuple #[.int .i64 (Mq now T).1,Ej ad (Mq now T).2])/\Bl w w':=by
 have Gj:=Lh hs 2;have Gm:=Lh hs 3;obtain⟨-,c2⟩:=h.arg 2 (by omega);obtain⟨-,c3⟩:=h.arg 3 (by omega);have HA:Hid (∀V,Bl w V->V.cell? ⟨g,1,none⟩=some (.int .i64 now)/\V.cell? ⟨ab,ao+2,none⟩=some (.string (T.getD 2 empty))/\V.cell? ⟨ab,ao+2+1,none⟩=some (.string (T.getD 3 empty))):=fun V hb=>⟨(h.bw hb).call.c1,c2 V (hb.mono h.le),c3 V (hb.mono h.le)⟩;have HV:=hid fun V i (hi:(i=1\/i=9\/i=10\/i=11\/i=12)) (hb:Bl w V)=>((hE.bw (hb.mono h.le)).er i hi).1.v;have HC:Hid (∀W,Cp 126 #[.string (T.getD 2 empty)] W fun e w'=>e=.returned (.string (H9 (T.getD 2 empty)))/\Bl W w'):=fun W=>zjz _ W (by omega);have HI:Hid (∀W,Bl w W->Cp 241 #[.string (T.getD 3 empty)] W fun e w'=>e=.returned (.tuple #[.int .i64 (Nk (T.getD 3 empty)),Lf (ad 12) (Fg (T.getD 3 empty)).2])/\Bl W w'):=fun W hb=>Wi _ W B ad (by omega) (hE.bw (hb.mono h.le)) (Qj h.le hb.size);have Gb:=Un (T.getD 3 empty);have HM:Hid (Mq now T=if H9 (T.getD 2 empty)=sEX then(if(Fg (T.getD 3 empty)).2=true then(if 1<=(Fg (T.getD 3 empty)).1/\(Fg (T.getD 3 empty)).1<=1000000000-now then(now+(Fg (T.getD 3 empty)).1,0) else(0,9)) else(0,12)) else(0,11)):=by unfold Hid Mq;rw[if_pos hT]
 have hx:=yja (T.getD 2 empty);clear h hE hs Gj Gm c2 c3;unfold Nk at HI;generalize Mq now T=dm,H9 (T.getD 2 empty)=nm at*;generalize(T.getD 2 empty)=t2,(T.getD 3 empty)=t3 at*;generalize Fg t3=z at*;obtain⟨v,o⟩:=z;dsimp only at HI HM Gb;obtain⟨q1,q2,q3⟩:=HA.out w (Qb _ _);by_cases hex:nm=sEX
 ·rw[Qe hex]at hx;rw[hex]at HC;unfold sEX at HC;clear hx;cases o with
  |false=>
   obtain rfl:dm=(0,12):=by have:=HM.out;rwa[if_pos hex,if_neg (by simp)]at this
   have Ga:Hid (∀W,Bl w W->Cp 241 #[.string t3] W fun e w'=>e=.returned (.tuple #[.int .i64 0,.iface 307 (.pointer (some (ad 12)))])/\Bl W w'):=HI.out;show Calls _ _ _ _ fun e w'=>e=.returned (.tuple #[.int .i64 0,.iface 307 (.pointer (some (ad 12)))])/\_;generalize ad 12=A at*;clear HI HM HV hex;go_enter func234,ntmps234;go_wp2_with fail;refine(HC.out _).mono ?_;rintro e w1⟨rfl,b1⟩;have HB:Hid (Bl w w1):=b1;obtain⟨p1,p2,p3⟩:=HA.out w1 b1;clear b1 HC q1 q2 q3 HA;go_wp2_with fail;refine(Ga.out _ HB.out).mono ?_;rintro e w2⟨rfl,b2⟩;have HD:Hid (Bl w w2):=HB.out.trans (b2.mono HB.out.size);clear b2 Ga;go_wp2;go_ret2;exact⟨rfl,HD.out⟩
  |true=>
   have Ga:Hid (∀W,Bl w W->Cp 241 #[.string t3] W fun e w'=>e=.returned (.tuple #[.int .i64 v,.nilIface])/\Bl W w'):=HI.out;have Gl:-1000000000000000000<=v/\v<=1000000000000000000:=by rcases Gb with h|h;exact h;cases h
   obtain⟨Gi,Gg⟩:=Gl;obtain⟨Gf,Gh⟩:=hnow;have Gp:IntKind.i64.wrap (1000000000-now)=1000000000-now:=by rw[IntKind.wrap_i64];omega
   clear HI Gb;by_cases hr:1<=v/\v<=1000000000-now
   ·obtain rfl:dm=(now+v,0):=by have:=HM.out;rwa[if_pos hex,if_pos rfl,if_pos hr]at this
    have Gr:IntKind.i64.wrap (now+v)=now+v:=by rw[IntKind.wrap_i64];omega
    have Gk:decide (v<1)=false:=Qf (by omega);have Gc:decide (1000000000-now<v)=false:=Qf (by omega);show Calls _ _ _ _ fun e w'=>e=.returned (.tuple #[.int .i64 (now+v),.nilIface])/\_;clear HM HV hex hr Gi Gg Gf Gh;go_enter func234,ntmps234;go_wp2_with fail;refine(HC.out _).mono ?_;rintro e w1⟨rfl,b1⟩;have HB:Hid (Bl w w1):=b1;obtain⟨p1,p2,p3⟩:=HA.out w1 b1;clear b1 HC q1 q2 q3;go_wp2_with fail;refine(Ga.out _ HB.out).mono ?_;rintro e w2⟨rfl,b2⟩;have HD:Hid (Bl w w2):=HB.out.trans (b2.mono HB.out.size);obtain⟨u1,u2,u3⟩:=HA.out w2 HD.out;clear b2 Ga p1 p2 p3 HA;go_wp2;go_ret2;exact⟨rfl,HD.out⟩
   ·obtain rfl:dm=(0,9):=by have:=HM.out;rwa[if_pos hex,if_pos rfl,if_neg hr]at this
    have Gd:Hid (∀V,Bl w V->V.cell? ⟨5,0,none⟩=some (.iface 307 (.pointer (some (ad 9))))):=fun V hb=>HV.out V 9 (by omega) hb;show Calls _ _ _ _ fun e w'=>e=.returned (.tuple #[.int .i64 0,.iface 307 (.pointer (some (ad 9)))])/\_;generalize ad 9=A at*;by_cases hv:v<1;all_goals
     have Gk:decide (v<1)=decide (v<1):=rfl;have Gc:¬v<1->decide (1000000000-now<v)=true:=fun h=>Qe (by omega);clear HM HV hex hr Gi Gg Gf Gh;first|(have Gq:=Gc hv;clear Gc)|clear Gc
     go_enter func234,ntmps234;go_wp2_with fail;refine(HC.out _).mono ?_;rintro e w1⟨rfl,b1⟩;have HB:Hid (Bl w w1):=b1;obtain⟨p1,p2,p3⟩:=HA.out w1 b1;clear b1 HC q1 q2 q3;go_wp2_with fail;refine(Ga.out _ HB.out).mono ?_;rintro e w2⟨rfl,b2⟩;have HD:Hid (Bl w w2):=HB.out.trans (b2.mono HB.out.size);obtain⟨u1,u2,u3⟩:=HA.out w2 HD.out;have u9:=Gd.out w2.drew (below_drewN HD.out 1);have Ge:Hid (Bl w w2.drew):=below_drewN HD.out 1;clear b2 Ga p1 p2 p3 HA;go_wp2;go_region;go_wp2;go_ret2;exact⟨rfl,Ge.out⟩
 ·rw[Qf hex]at hx;obtain rfl:dm=(0,11):=by have:=HM.out;rwa[if_neg hex]at this
  have Gd:Hid (∀V,Bl w V->V.cell? ⟨11,0,none⟩=some (.iface 307 (.pointer (some (ad 11))))):=fun V hb=>HV.out V 11 (by omega) hb;show Calls _ _ _ _ fun e w'=>e=.returned (.tuple #[.int .i64 0,.iface 307 (.pointer (some (ad 11)))])/\_;generalize ad 11=A at*;clear HM HV HI hex Gb;have Gn:=hx.symm;clear hx;go_enter func234,ntmps234;go_wp2_with fail;refine(HC.out _).mono ?_;rintro e w1⟨rfl,b1⟩;have HB:Hid (Bl w w1):=b1;have u9:=Gd.out w1.drew (below_drewN b1 1);have Ge:Hid (Bl w w1.drew):=below_drewN b1 1;clear b1 HC q1 q2 q3 HA;go_wp2;go_region;go_wp2;go_ret2;exact⟨rfl,Ge.out⟩
theorem zym(h:Fu w B g b n now aa ab ao ac L L T)(hd:Fm (L.map KV.key)=true)(hE:Lk w B ad)(hn:n<=1000)(hs:∀t∈T,t.size<=200)(hT:T.length=2\/T.length=4)(hac:T.length<=ac)(hnow:0<=now/\now<=1000000000):
  Calls prog 180 #[.pointer (some ⟨g,0,none⟩)] w (F2 w B g b now aa ab ao ac T ad (L.map KV.key) (if(Mq now T).2=0 then Fj (L.map KV.key) (M0 (T.getD 0 empty) (T.getD 1 empty) (Mq now T).1).key (Hd sOK) else(L.map KV.key,Fl (P7 (Mq now T).2)))):=by
 have Gm:2<=T.length:=by omega
 have HX:=hid fun W d (hb:Bl w W)=>zny B g b n now aa ab ao ac L T ad W d (h.bw hb) (hE.bw (hb.mono h.le)) hn hs Gm;have HR:=hid fun W s=>Dg s W;have HL:=hid fun d r er w1 w2 (h1:Fr w1 w.heap.size r (Hd sOK)) (h2:Bl w w1) (h3:Hk w1 B g b n now aa ab ao ac L T (ad 1) (M0 (T.getD 0 empty) (T.getD 1 empty) d) (.returned er) w2)=>Pt h hd h1 (h2.mono h.le) h2.size h3;have Gf:Hid (∀i r w',(i=1\/i=9\/i=10\/i=11\/i=12)->Bl w w'->F2 w B g b now aa ab ao ac T ad (L.map KV.key) (L.map KV.key,Fl (P7 i)) (.returned (.tuple #[r,.iface 307 (.pointer (some (ad i)))])) w'):=fun i r w' hi h2=>Ul i hi (h2.mono h.le);have Gh:(Mq now T).2=0\/((Mq now T).2=1\/(Mq now T).2=9\/(Mq now T).2=10\/(Mq now T).2=11\/(Mq now T).2=12):=by
  unfold Mq;split
  ·split
   ·split
    ·split<;>simp
    ·simp
   ·simp
  ·simp
 have HD:Hid (∀c,(T.length=2->∀a,Cp 234 #[.pointer (some ⟨g,0,none⟩),.slice a 0 c] w fun e w'=>e=.returned (.tuple #[.int .i64 (Mq now T).1,Ej ad (Mq now T).2])/\Bl w w')/\(T.length=4->Cp 234 #[.pointer (some ⟨g,0,none⟩),.slice (some ⟨ab,ao+2,none⟩) 2 c] w fun e w'=>e=.returned (.tuple #[.int .i64 (Mq now T).1,Ej ad (Mq now T).2])/\Bl w w')):=fun c=>⟨fun h2 a=>by
  have:Mq now T=(0,0):=by unfold Mq;rw[if_neg (by omega)]
  rw[this];exact zxh g a c w,fun h4=>yaf B g b n now aa ab ao ac L T ad w h hE hs h4 hnow c⟩
 have h2:=h.call.c2;obtain rfl:=h.call.args.addr (by omega);clear h hd hE hs;generalize L.map KV.key=ks,Mq now T=dm at*;obtain⟨d,i⟩:=dm;dsimp only at HD Gh ⊢;have Gi:=HX.out;have Gj:=HL.out;have Gb:=hid fun r er w1 w2=>Gj d r er w1 w2;have Gd:=hid fun W=>Gi W d;clear HX HL Gi Gj;generalize Fj ks (M0 (T.getD 0 empty) (T.getD 1 empty) d).key (Hd sOK)=pp,Lf (ad 1) (Mi L (M0 (T.getD 0 empty) (T.getD 1 empty) d))=ev at*;have Gc:Hid (∀W,Cp 230 #[.string ⟨#[79,75]⟩] W (F9 W (Hd sOK))):=fun W=>HR.out W sOK;clear HR;rcases Gh with rfl|hi
 ·rw[if_pos rfl];clear Gf;rcases hT with hm|hm
  ·rw[hm]at h2 HD hac;have Ga:Hid (∀c a,Cp 234 #[.pointer (some ⟨g,0,none⟩),.slice a 0 c] w fun e w'=>e=.returned (.tuple #[.int .i64 d,.nilIface])/\Bl w w'):=fun c a=>(HD.out c).1 rfl a;clear HD;by_cases hc:2<ac
   ·have Gg:(2:Int)<(ac:Int):=by omega
    go_enter func180,ntmps180;go_wp2_with fail;refine(Ga.out _ _).mono ?_;rintro e w1⟨rfl,b1⟩;have HB:Hid (Bl w w1):=b1;clear b1 Ga;go_wp2_with fail;refine(Gc.out _).mono ?_;rintro e w2⟨r,rfl,hr,hb⟩;have HC:Hid (Bl w w2):=HB.out.trans (hb.mono HB.out.size);have Ge:Hid (Fr w2 w.heap.size r (Hd sOK)):=hr.le HB.out.size;clear hr hb Gc;go_wp2_with fail;refine(Gd.out _ HC.out).mono ?_;rintro e w3⟨rfl,hl⟩;have HF:Hid _:=Gb.out r _ w2 w3 Ge.out HC.out hl;clear hl Gd Gb;go_wp2;go_ret2;exact HF.out
   ·obtain rfl:ac=2:=by omega
    go_enter func180,ntmps180;go_wp2_with fail;refine(Ga.out _ _).mono ?_;rintro e w1⟨rfl,b1⟩;have HB:Hid (Bl w w1):=b1;clear b1 Ga;go_wp2_with fail;refine(Gc.out _).mono ?_;rintro e w2⟨r,rfl,hr,hb⟩;have HC:=hid (HB.out.trans (hb.mono HB.out.size));have Ge:=hid (hr.le HB.out.size);clear hr hb Gc;go_wp2_with fail;refine(Gd.out _ HC.out).mono ?_;rintro e w3⟨rfl,hl⟩;have HF:Hid _:=Gb.out r _ w2 w3 Ge.out HC.out hl;clear hl Gd Gb;go_wp2;go_ret2;exact HF.out
  ·rw[hm]at h2 HD hac;have Ga:Hid (∀c,Cp 234 #[.pointer (some ⟨g,0,none⟩),.slice (some ⟨ab,ao+2,none⟩) 2 c] w fun e w'=>e=.returned (.tuple #[.int .i64 d,.nilIface])/\Bl w w'):=fun c=>(HD.out c).2 rfl;clear HD;have hc:2<ac:=by omega
   have Gg:(2:Int)<(ac:Int):=by omega
   have Gl:(4:Int)<=(ac:Int):=by omega
   go_enter func180,ntmps180;go_wp2_with fail;refine(Ga.out _).mono ?_;rintro e w1⟨rfl,b1⟩;have HB:Hid (Bl w w1):=b1;clear b1 Ga;go_wp2_with fail;refine(Gc.out _).mono ?_;rintro e w2⟨r,rfl,hr,hb⟩;have HC:=hid (HB.out.trans (hb.mono HB.out.size));have Ge:=hid (hr.le HB.out.size);clear hr hb Gc;go_wp2_with fail;refine(Gd.out _ HC.out).mono ?_;rintro e w3⟨rfl,hl⟩;have HF:Hid _:=Gb.out r _ w2 w3 Ge.out HC.out hl;clear hl Gd Gb;go_wp2;go_ret2;exact HF.out
 ·have Gk:i≠0:=by omega
  rw[if_neg Gk];have HG:=hid fun r w'=>Gf.out i r w' hi;unfold Ej at HD;rw[if_neg Gk]at HD;clear Gf Gd Gb Gc;generalize ad i=A,(ks,Fl (P7 i))=pq at*;rcases hT with hm|hm
  ·rw[hm]at h2 HD hac;have Ga:=hid fun c a=>(HD.out c).1 rfl a;clear HD;by_cases hc:2<ac
   ·have Gg:(2:Int)<(ac:Int):=by omega
    go_enter func180,ntmps180;go_wp2_with fail;refine(Ga.out _ _).mono ?_;rintro e w1⟨rfl,b1⟩;have HB:=hid b1;clear b1 Ga;have HF:Hid _:=HG.out (.slice none 0 0) w1 HB.out;go_wp2;go_ret2;exact HF.out
   ·obtain rfl:ac=2:=by omega
    go_enter func180,ntmps180;go_wp2_with fail;refine(Ga.out _ _).mono ?_;rintro e w1⟨rfl,b1⟩;have HB:=hid b1;clear b1 Ga;have HF:Hid _:=HG.out (.slice none 0 0) w1 HB.out;go_wp2;go_ret2;exact HF.out
  ·rw[hm]at h2 HD hac;have Ga:=hid fun c=>(HD.out c).2 rfl;clear HD;have hc:2<ac:=by omega
   have Gg:(2:Int)<(ac:Int):=by omega
   have Gl:(4:Int)<=(ac:Int):=by omega
   go_enter func180,ntmps180;go_wp2_with fail;refine(Ga.out _).mono ?_;rintro e w1⟨rfl,b1⟩;have HB:=hid b1;clear b1 Ga;have HF:Hid _:=HG.out (.slice none 0 0) w1 HB.out;go_wp2;go_ret2;exact HF.out
end
theorem Ii(v:Int)(h:-1000000000000000000<=v/\v<=1000000000000000000):(Kk.F1 v).size<=200:=by
 have:=Lib.itoa_length_le v (by omega) (by omega);unfold Kk.F1;show(Lib.itoa v).toArray.size<=200;rw[List.size_toArray];omega
theorem zqs(B g b n:Nat)(now:Int)(aa:Option Addr)(ab ao ac:Nat)(L:List KV)(T:List ByteArray)(ad:Nat->Addr)(w:World)(h:Fu w B g b n now aa ab ao ac L L T)(hd:Fm (L.map KV.key)=true)(hE:Lk w B ad)(hn:n<=1000)(hs:∀t∈T,t.size<=200)(hT:T.length=2):
  Calls prog 190 #[.pointer (some ⟨g,0,none⟩)] w (F2 w B g b now aa ab ao ac T ad (L.map KV.key) (if((Fg (T.getD 1 empty)).2&&(M4 (Fb L (T.getD 0 empty)).key.val.text (Fq L (T.getD 0 empty)).isSome).2)=true then(if Sl.Ha ((M4 (Fb L (T.getD 0 empty)).key.val.text (Fq L (T.getD 0 empty)).isSome).1+(Fg (T.getD 1 empty)).1)=true then Fj (L.map KV.key) (Ll L (T.getD 0 empty) (Kk.F1 ((M4 (Fb L (T.getD 0 empty)).key.val.text (Fq L (T.getD 0 empty)).isSome).1+(Fg (T.getD 1 empty)).1))).key (Fe ((M4 (Fb L (T.getD 0 empty)).key.val.text (Fq L (T.getD 0 empty)).isSome).1+(Fg (T.getD 1 empty)).1)) else(L.map KV.key,Fl On)) else(L.map KV.key,Fl F3))):=by
 have Kj:(200:Nat)<=maxLen:=by unfold maxLen;omega
 have Kf:=Lh hs 0;have Kc:=Lh hs 1;have Ka:=N4 hd (T.getD 0 empty);obtain⟨a1,n1,k1,a2,n2,k2,a3,n3,k3,e1,e2,e3,hH⟩:=h.held (by omega) Kf;obtain⟨-,c1⟩:=h.arg 1 (by omega);have HA:Hid (∀V,Bl w V->V.cell? ⟨g,2,none⟩=some (.slice aa T.length ac)/\V.cell? ⟨ab,ao+1,none⟩=some (.string (T.getD 1 empty))):=fun V hb=>⟨(h.bw hb).call.c2,c1 V (hb.mono h.le)⟩;have HH:=hid hH;have HT:Hid (∀W,Bl w W->Cp 236 #[.pointer (some ⟨g,0,none⟩)] W fun e w'=>e=.returned (.bool (Fq L (T.getD 0 empty)).isSome)/\Bl W w'):=fun W hb=>Ah g b n now aa ab ao ac L T W (h.bw hb).call (by omega) (by omega);obtain⟨he,hA⟩:=hE.er 1 (.inl rfl);have HX:Hid (∀W t,t.size<=200->Bl w W->Cp 244 #[.pointer (some ⟨g,0,none⟩),.iface 231 (.string t)] W fun e w'=>∃er,e=.returned er/\Hk W B g b n now aa ab ao ac L T (ad 1) (Ll L (T.getD 0 empty) t) (.returned er) w'):=fun W t ht hb=>(zns B g b n now aa ab ao ac L T W t ((h.bw hb).gone _) (by omega) (by omega) (by omega) hn (hE.bw (hb.mono h.le)).rd (he.bw (hb.mono h.le) h.n25 hA) hA).mono fun e w' hl=>⟨_,hl.1,by have:=hl.1;rw[<-this];exact hl⟩;have HR:=hid fun W s=>Bn s W;have HI:=hid fun W t (ht:t.size<=200) (hb:Bl w W)=>Wi t W B ad (by omega) (hE.bw (hb.mono h.le)) (Qj h.le hb.size);have HN:=hid fun W v=>Sl.Rj v W;have Gg:=hid fun W v (hv:Kk.Mn v) (hb:Bl w W)=>Kk.Ab v W hv (hE.bw (hb.mono h.le)).rd.tab;have HV:=hid fun V i (hi:(i=1\/i=9\/i=10\/i=11\/i=12)) (hb:Bl w V)=>((hE.bw (hb.mono h.le)).er i hi).1.v;have HL:=hid fun t R r er w1 w2 (h1:Fr w1 w.heap.size r R) (h2:Bl w w1) (h3:Hk w1 B g b n now aa ab ao ac L T (ad 1) (Ll L (T.getD 0 empty) t) (.returned er) w2)=>Pt h hd h1 (h2.mono h.le) h2.size h3;have Gu:Hid (∀i r w',(i=1\/i=9\/i=10\/i=11\/i=12)->Bl w w'->F2 w B g b now aa ab ao ac T ad (L.map KV.key) (L.map KV.key,Fl (P7 i)) (.returned (.tuple #[r,.iface 307 (.pointer (some (ad i)))])) w'):=fun i r w' hi h2=>Ul i hi (h2.mono h.le);obtain rfl:=h.call.args.addr (by omega);rw[hT]at HA;have Kb:=Ka.text;have Gt:=Un (Fb L (T.getD 0 empty)).key.val.text;have Gv:=Un (T.getD 1 empty);clear h hd hE hs hH e1 e2 e3 c1 he hA Ka hn;generalize(Fq L (T.getD 0 empty)).isSome=th,L.map KV.key=ks,(Fb L (T.getD 0 empty)).key.val.kind=kd,(Fb L (T.getD 0 empty)).key.val.text=t,(T.getD 1 empty)=t1 at*;have hf:=fun W=>Bt (.int .i64 kd) (.string t) (.slice a1 n1 k1) (.slice a2 n2 k2) (.slice a3 n3 k3) W;have Gj:=HI.out w t1 Kc (Qb _ _);have Gf:=hid fun W=>HI.out W t Kb;clear HI;unfold Nk at Gj Gf;unfold M4;generalize Fg t1=z1 at*;generalize Fg t=z at*;obtain⟨v1,o1⟩:=z1;obtain⟨v2,o2⟩:=z;dsimp only at Gj Gf Gv Gt ⊢;obtain⟨q0,q1⟩:=HA.out w (Qb _ _);clear HA;have Ga:Hid (∀r w',Bl w w'->F2 w B g b now (some ⟨ab,ao,none⟩) ab ao ac T ad ks (ks,Fl F3) (.returned (.tuple #[r,.iface 307 (.pointer (some (ad 12)))])) w'):=fun r w' hb=>Gu.out 12 r w' (by omega) hb;have Gb:Hid (∀r w',Bl w w'->F2 w B g b now (some ⟨ab,ao,none⟩) ab ao ac T ad ks (ks,Fl On) (.returned (.tuple #[r,.iface 307 (.pointer (some (ad 10)))])) w'):=fun r w' hb=>Gu.out 10 r w' (by omega) hb;have Gc:Hid (∀V,Bl w V->V.cell? ⟨6,0,none⟩=some (.iface 307 (.pointer (some (ad 10))))):=fun V hb=>HV.out V 10 (by omega) hb;clear Gu HV;generalize Fl F3=zz12,Fl On=zz10,ad 12=A12,ad 10=A10 at*;cases o1 with
 |false=>
  rw[Q0,if_neg (by simp)];have HJ:Hid (Cp 241 #[.string t1] w fun e w'=>e=.returned (.tuple #[.int .i64 0,.iface 307 (.pointer (some A12))])/\Bl w w'):=Gj;clear Gj Gf HT HH HX HR HN Gg HL Gb Gc;go_enter func190,ntmps190;go_wp2_with fail;refine HJ.out.mono ?_;rintro e w1⟨rfl,b1⟩;have HF:Hid _:=Ga.out (.slice none 0 0) w1 b1;clear b1 HJ Ga;go_wp2;go_ret2;exact HF.out
 |true=>
  rw[Qz];have HJ:Hid (Cp 241 #[.string t1] w fun e w'=>e=.returned (.tuple #[.int .i64 v1,.nilIface])/\Bl w w'):=Gj;have Gy:-1000000000000000000<=v1/\v1<=1000000000000000000:=by rcases Gv with h|h;exact h;cases h
  clear Gj Gv;cases th with
  |false=>
   rw[if_neg (show ¬(false=true) by simp),if_pos rfl];dsimp only;rw[show(0:Int)+v1=v1 by omega];have Ge:Sl.Ha v1=true:=Qe Gy;rw[if_pos Ge];have Gp:Hid (∀W,Cp 113 #[.int .i64 v1] W fun e w'=>e=.returned (.bool true)/\w'=W):=fun W=>by have:=HN.out W v1;rwa[Ge]at this
   have Gd:Hid (∀W,Bl w W->Cp 115 #[.int .i64 v1,.int .i64 10] W fun e w'=>e=.returned (.string (Kk.F1 v1))/\Bl W w'):=fun W=>Gg.out W v1 ⟨by omega,by omega⟩;have Gm:(Kk.F1 v1).size<=200:=Ii v1 Gy;have Gn:Hid (∀W,Bl w W->Cp 244 #[.pointer (some ⟨g,0,none⟩),.iface 231 (.string (Kk.F1 v1))] W fun e w'=>∃er,e=.returned er/\Hk W B g b n now (some ⟨ab,ao,none⟩) ab ao ac L T (ad 1) (Ll L (T.getD 0 empty) (Kk.F1 v1)) (.returned er) w'):=fun W=>HX.out W _ Gm;have Gs:Hid (∀r er w1 w2,Fr w1 w.heap.size r (Fe v1)->Bl w w1->Hk w1 B g b n now (some ⟨ab,ao,none⟩) ab ao ac L T (ad 1) (Ll L (T.getD 0 empty) (Kk.F1 v1)) (.returned er) w2->F2 w B g b now (some ⟨ab,ao,none⟩) ab ao ac T ad ks (Fj ks (Ll L (T.getD 0 empty) (Kk.F1 v1)).key (Fe v1)) (.returned (.tuple #[r,er])) w2):=fun r er w1 w2=>HL.out _ _ r er w1 w2;clear HN Gg HX HL Gf HH Gb Ga Gc Gm;generalize Fj ks (Ll L (T.getD 0 empty) (Kk.F1 v1)).key (Fe v1)=pp at*;generalize Kk.F1 v1=ds at*;go_enter func190,ntmps190;go_wp2_with fail;refine HJ.out.mono ?_;rintro e w1⟨rfl,b1⟩;have HB:Hid (Bl w w1):=b1;clear b1 HJ;go_wp2_with fail;refine(HT.out _ HB.out).mono ?_;rintro e w2⟨rfl,b2⟩;have HC:Hid (Bl w w2):=HB.out.trans (b2.mono HB.out.size);clear b2 HT;go_wp2_with fail;refine(Gp.out _).mono ?_;rintro e w3⟨rfl,e3⟩;subst e3;clear Gp;go_wp2_with fail;refine(HR.out _ _).mono ?_;rintro e w4⟨r,rfl,hr,hb⟩;have Gi:Hid (Bl w w4):=HC.out.trans (hb.mono HC.out.size);have Gr:Hid (Fr w4 w.heap.size r (Fe v1)):=hr.le HC.out.size;clear hr hb HR;go_wp2_with fail;refine(Gd.out _ Gi.out).mono ?_;rintro e w5⟨rfl,b5⟩;have Gq:Hid (Bl w w5):=Gi.out.trans (b5.mono Gi.out.size);have Gw:Hid (Fr w5 w.heap.size r (Fe v1)):=Gr.out.bw b5;clear b5 Gd Gr;go_wp2_with fail;refine(Gn.out _ Gq.out).mono ?_;rintro e w6⟨er,rfl,hl⟩;have HF:Hid _:=Gs.out r _ w5 w6 Gw.out Gq.out hl;clear hl Gn Gs;go_wp2;go_ret2;exact HF.out
  |true=>
   rw[if_pos rfl];dsimp only;cases o2 with
   |false=>
    rw[if_neg (by simp)];have Gh:Hid (∀W,Bl w W->Cp 241 #[.string t] W fun e w'=>e=.returned (.tuple #[.int .i64 0,.iface 307 (.pointer (some A12))])/\Bl W w'):=Gf.out;clear Gf HX HR HN Gg HL Gb Gc;go_enter func190,ntmps190;go_wp2_with fail;refine HJ.out.mono ?_;rintro e w1⟨rfl,b1⟩;have HB:Hid (Bl w w1):=b1;clear b1 HJ;go_wp2_with fail;refine(HT.out _ HB.out).mono ?_;rintro e w2⟨rfl,b2⟩;have HC:Hid (Bl w w2):=HB.out.trans (b2.mono HB.out.size);clear b2 HT;go_wp2_with fail;refine(HH.out _ HC.out).mono ?_;rintro e w3⟨rfl,b3⟩;have HD:Hid (Bl w w3):=HC.out.trans (b3.mono HC.out.size);clear b3 HH;go_wp2_with fail;refine(Gh.out _ HD.out).mono ?_;rintro e w4⟨rfl,b4⟩;have HF:Hid _:=Ga.out (.slice none 0 0) w4 (HD.out.trans (b4.mono HD.out.size));clear b4 Gh Ga;go_wp2;go_ret2;exact HF.out
   |true=>
    rw[if_pos rfl];have Gh:Hid (∀W,Bl w W->Cp 241 #[.string t] W fun e w'=>e=.returned (.tuple #[.int .i64 v2,.nilIface])/\Bl W w'):=Gf.out;have Ki:-1000000000000000000<=v2/\v2<=1000000000000000000:=by rcases Gt with h|h;exact h;cases h
    have Kh:IntKind.i64.wrap (v1+v2)=v1+v2:=by rw[IntKind.wrap_i64];omega
    clear Gf Gt;rw[show v2+v1=v1+v2 by omega];have Gk:Hid (∀W,Cp 113 #[.int .i64 (v1+v2)] W fun e w'=>e=.returned (.bool (Sl.Ha (v1+v2)))/\w'=W):=fun W=>HN.out W (v1+v2);cases Ge:Sl.Ha (v1+v2)with
    |false=>
     rw[Ge]at Gk;rw[if_neg (by simp)];clear HX HR HN Gg HL Ga Ge;generalize hvs:v1+v2=vs at*;go_enter func190,ntmps190;go_wp2_with fail;refine HJ.out.mono ?_;rintro e w1⟨rfl,b1⟩;have HB:Hid (Bl w w1):=b1;clear b1 HJ;go_wp2_with fail;refine(HT.out _ HB.out).mono ?_;rintro e w2⟨rfl,b2⟩;have HC:Hid (Bl w w2):=HB.out.trans (b2.mono HB.out.size);clear b2 HT;go_wp2_with fail;refine(HH.out _ HC.out).mono ?_;rintro e w3⟨rfl,b3⟩;have HD:Hid (Bl w w3):=HC.out.trans (b3.mono HC.out.size);clear b3 HH;go_wp2_with fail;refine(Gh.out _ HD.out).mono ?_;rintro e w4⟨rfl,b4⟩;have Gz:Hid (Bl w w4):=HD.out.trans (b4.mono HD.out.size);clear b4 Gh;go_wp2_with fail;refine(Gk.out _).mono ?_;rintro e w5⟨rfl,e5⟩;subst e5;have u9:=Gc.out w5.drew (below_drewN Gz.out 1);have HF:Hid _:=Gb.out (.slice none 0 0) w5.drew (below_drewN Gz.out 1);clear Gk Gc Gb;go_wp2;go_region;go_wp2;go_ret2;exact HF.out
    |true=>
     rw[Ge]at Gk;rw[if_pos rfl];have Gl:-1000000000000000000<=v1+v2/\v1+v2<=1000000000000000000:=Qg Ge;have Gd:=hid fun W=>Gg.out W (v1+v2) ⟨by omega,by omega⟩;have Gm:=Ii (v1+v2) Gl;have Gn:=hid fun W=>HX.out W _ Gm;have Gs:Hid (∀r er w1 w2,Fr w1 w.heap.size r (Fe (v1+v2))->Bl w w1->Hk w1 B g b n now (some ⟨ab,ao,none⟩) ab ao ac L T (ad 1) (Ll L (T.getD 0 empty) (Kk.F1 (v1+v2))) (.returned er) w2->F2 w B g b now (some ⟨ab,ao,none⟩) ab ao ac T ad ks (Fj ks (Ll L (T.getD 0 empty) (Kk.F1 (v1+v2))).key (Fe (v1+v2))) (.returned (.tuple #[r,er])) w2):=fun r er w1 w2=>HL.out _ _ r er w1 w2;clear HN Gg HX HL Gb Ga Gc Gm Ge Gl;generalize Fj ks (Ll L (T.getD 0 empty) (Kk.F1 (v1+v2))).key (Fe (v1+v2))=pp at*;generalize Kk.F1 (v1+v2)=ds at*;have Gp:=Gk;clear Gk;generalize hvs:v1+v2=vs at*;go_enter func190,ntmps190;go_wp2_with fail;refine HJ.out.mono ?_;rintro e w1⟨rfl,b1⟩;have HB:=hid b1;clear b1 HJ;go_wp2_with fail;refine(HT.out _ HB.out).mono ?_;rintro e Kl⟨rfl,b2⟩;have Gx:=hid (HB.out.trans (b2.mono HB.out.size));clear b2 HT;go_wp2_with fail;refine(HH.out _ Gx.out).mono ?_;rintro e Kd⟨rfl,b3⟩;have HD:=hid (Gx.out.trans (b3.mono Gx.out.size));clear b3 HH;go_wp2_with fail;refine(Gh.out _ HD.out).mono ?_;rintro e w2⟨rfl,b4⟩;have HC:=hid (HD.out.trans (b4.mono HD.out.size));clear b4 Gh;go_wp2_with fail;refine(Gp.out _).mono ?_;rintro e w3⟨rfl,e5⟩;subst e5;clear Gp;go_wp2_with fail;refine(HR.out _ _).mono ?_;rintro e w4⟨r,rfl,hr,hb⟩;have Gi:=hid (HC.out.trans (hb.mono HC.out.size));have Gr:=hid (hr.le HC.out.size);clear hr hb HR;go_wp2_with fail;refine(Gd.out _ Gi.out).mono ?_;rintro e w5⟨rfl,b5⟩;have Gq:=hid (Gi.out.trans (b5.mono Gi.out.size));have Gw:=hid (Gr.out.bw b5);clear b5 Gd Gr;go_wp2_with fail;refine(Gn.out _ Gq.out).mono ?_;rintro e w6⟨er,rfl,hl⟩;have HF:Hid _:=Gs.out r _ w5 w6 Gw.out Gq.out hl;clear hl Gn Gs;go_wp2;go_ret2;exact HF.out
theorem Ik(k:Ke):∀ks:List Ke,(Mk k ks).length=ks.length+1
 |[]=>rfl
 |x::r=>by
  unfold Mk;split
  ·simp
  ·simp[Ik k r]
theorem yg9(h:k∈ks):(G5 ks k.name).length<ks.length:=by
 unfold G5;rw[List.length_filter_lt_length_iff_exists];exact⟨k,h,by simp⟩
theorem zus(h:Ls k.val=true):Ml k=false:=by
 unfold Ml;by_cases h1:k.val.kind=1
 ·rw[Qe h1];simp
 ·rw[Qf h1];have hh:¬(k.val.ia.length+k.val.pj.length+k.val.rq.length=0):=by
   intro e;unfold Ls at h;rw[if_neg h1]at h;split at h
   ·unfold Na countB at h;simp only[Qh,decide_eq_true_iff]at h;omega
   ·split at h
    ·unfold Ma countB at h;simp only[Qh,decide_eq_true_iff]at h;omega
    ·split at h
     ·unfold Nq at h;simp only[Qh,decide_eq_true_iff]at h;omega
     ·cases h
  rw[Qf hh];rfl
theorem Z1(hd:Fm ks=true)(hk:k∈ks)(h0:0<=d/\d<=1000000000)(R:List Rp):Fj ks (k.withDue d) R=(G0 ks (k.withDue d),R):=by
 have Gb:=(Ns _).1 hd;have Ga:=Gb.2.2 k hk;have Gc:=Ga;unfold Hh at Ga;rw[Qh,Qh]at Ga;unfold Fj;rw[if_neg (by rw[zus (k:=k.withDue d) Ga.2.1];simp),if_pos];rw[W9 hd,Qh,decide_eq_true_iff];constructor
 ·unfold Hh;rw[Qh,Qh];refine⟨Ga.1,Ga.2.1,?_⟩;unfold Lp Ke.withDue;simp;omega
 ·rw[Wz _ Gb.2.1,Ik];have h1:=yg9 hk;have h2:=Gb.1;show(G5 ks k.name).length+1<=20;omega
theorem K1(h:L.Pairwise Pn){y:KV}(hx:x∈L)(hy:y∈L)(hn:x.key.name≠y.key.name):Pn x y:=by
 obtain⟨i,hi,rfl⟩:=List.getElem_of_mem hx;obtain⟨j,hj,rfl⟩:=List.getElem_of_mem hy;rw[List.pairwise_iff_getElem]at h;rcases Nat.lt_trichotomy i j with hij|hij|hij
 ·exact h i j hi hj hij
 ·subst hij;exact absurd rfl hn
 ·exact(h j i hj hi hij).symm
theorem T2{s:ByteArray}(h:x∈G2 L s):x∈L/\x.key.name≠s:=by
 obtain⟨h1,h2⟩:=List.mem_filter.1 h;exact⟨h1,by simpa using h2⟩
def Ng (x:KV) (d:Int):KV:=⟨x.key.withDue d,x.vi,x.vp,x.vr⟩
theorem zwi(hd:Fm (L.map KV.key)=true)(hx:x∈L)(h0:0<=d/\d<=1000000000):Ml (Ng x d).key=false/\(Hh (Ng x d).key&&decide ((Ln L (Ng x d)).length<=20))=true:=by
 have hu:=Ri.Wb hd;have hk:x.key∈L.map KV.key:=List.mem_map_of_mem hx;have h1:=Z1 hd hk h0 G7;have Ga:=((Ns _).1 hd).2.2 _ hk;unfold Hh at Ga;rw[Qh,Qh]at Ga;have he:Ml (Ng x d).key=false:=zus (k:=x.key.withDue d) Ga.2.1;refine⟨he,?_⟩;have hm:=zzd hd (Ng x d) G7;rw[show(Ng x d).key=x.key.withDue d from rfl]at hm he ⊢;unfold Mi Pj at hm;rw[show(Ng x d).key=x.key.withDue d from rfl,he,Bool.false_or]at hm;cases hq:(Hh (x.key.withDue d)&&decide ((Ln L (Ng x d)).length<=20))with
 |true=>rfl
 |false=>
  rw[hq,h1]at hm;rw[if_neg (by simp)]at hm;have:=congrArg Prod.snd hm;simp[G7,Fl]at this
section
variable (B g b n:Nat) (now:Int) (aa:Option Addr) (ab ao ac:Nat) (L:List KV) (T:List ByteArray) (ad:Nat->Addr) (w:World)
theorem zrm(x:KV)(d:Int)(hx:x∈L)(h:Fu w B g b n now aa ab ao ac L L T)(hd:Fm (L.map KV.key)=true)(hE:Lk w B ad)(hn:n<=1000)(h0:0<=d/\d<=1000000000):
  Calls prog 240 #[.pointer (some ⟨g,0,none⟩),kvA (Ng x d)] w fun e w'=>e=.returned .nilIface/\Hk w B g b n now aa ab ao ac L T (ad 1) (Ng x d) (.returned .nilIface) w':=by
 have hk:x.key∈L.map KV.key:=List.mem_map_of_mem hx;have Ga:=((Ns _).1 hd).2.2 _ hk;unfold Hh at Ga;rw[Qh,Qh,decide_eq_true_iff]at Ga;obtain⟨he,hA⟩:=hE.er 1 (.inl rfl);obtain⟨q1,q2⟩:=zwi hd hx h0;refine(Wu B g b n now aa ab ao ac L T w (Ng x d) (h.gone _) (h.vals.own x hx) (fun z hz=>?_) (zpz Ga.2.1) (by show x.key.name.size<=_;omega) hn hE.rd he hA).mono ?_
 ·obtain⟨z1,z2⟩:=T2 hz;show Pn x z;exact K1 h.vals.ap hx z1 (fun e=>z2 e.symm)
 ·rintro e w'⟨rfl,hw,hg⟩;rw[q2,if_pos rfl];refine⟨rfl,?_,⟨n+1,Qc _,?_⟩,hg⟩
  ·unfold Lf Mi;rw[q1,Bool.false_or,q2,if_pos rfl]
  ·unfold Pj;rw[q1,if_neg (by simp)];exact hw
theorem zpk(h:Fu w B g b n now aa ab ao ac L L T)(hd:Fm (L.map KV.key)=true)(hE:Lk w B ad)(hn:n<=1000)(hs:∀t∈T,t.size<=200)(hT:T.length=1):
  Calls prog 184 #[.pointer (some ⟨g,0,none⟩)] w (F2 w B g b now aa ab ao ac T ad (L.map KV.key) (if(Fb L (T.getD 0 empty)).key.due=0 then(L.map KV.key,Fe 0) else(G0 (L.map KV.key) ((Fb L (T.getD 0 empty)).key.withDue 0),Fe 1))):=by
 have Gy:(200:Nat)<=maxLen:=by unfold maxLen;omega
 have Ka:=Lh hs 0;have HR:=hid fun W s=>Bn s W;have Ge:Hid (∀r w',Fr w' w.heap.size r (Fe 0)->Bl w w'->F2 w B g b now aa ab ao ac T ad (L.map KV.key) (L.map KV.key,Fe 0) (.returned (.tuple #[r,.nilIface])) w'):=fun r w' h1 h2=>M7 h ⟨r,rfl,h1,h2⟩;have Gh:=Oo L (T.getD 0 empty);have Gr:Hid ((Fb L (T.getD 0 empty)).key.due≠0->∀W,Bl w W->Cp 240 #[.pointer (some ⟨g,0,none⟩),kvA (Ng (Fb L (T.getD 0 empty)) 0)] W fun e w'=>e=.returned .nilIface/\Hk W B g b n now aa ab ao ac L T (ad 1) (Ng (Fb L (T.getD 0 empty)) 0) (.returned .nilIface) w'):=fun hdu W hb=>by
  rcases Gh with⟨-,e⟩|⟨-,hm,-⟩
  ·rw[e]at hdu;exact absurd rfl hdu
  ·exact zrm B g b n now aa ab ao ac L T ad W (Fb L (T.getD 0 empty)) 0 hm (h.bw hb) hd (hE.bw (hb.mono h.le)) hn (by omega)
 have HL:Hid ((Fb L (T.getD 0 empty)).key.due≠0->∀r w1 w2,Fr w1 w.heap.size r (Fe 1)->Bl w w1->Hk w1 B g b n now aa ab ao ac L T (ad 1) (Ng (Fb L (T.getD 0 empty)) 0) (.returned .nilIface) w2->F2 w B g b now aa ab ao ac T ad (L.map KV.key) (G0 (L.map KV.key) ((Fb L (T.getD 0 empty)).key.withDue 0),Fe 1) (.returned (.tuple #[r,.nilIface])) w2):=fun hdu r w1 w2 h1 h2 h3=>by
  rcases Gh with⟨-,e⟩|⟨-,hm,-⟩
  ·rw[e]at hdu;exact absurd rfl hdu
  ·rw[<-Z1 hd (List.mem_map_of_mem hm) (by omega) (Fe 1)];exact Pt h hd h1 (h2.mono h.le) h2.size h3
 obtain⟨f1,m1,j1,f2,m2,j2,f3,m3,j3,y1,y2,y3,Gk⟩:=h.look1 (T.getD 0 empty) (by omega);obtain⟨W,a1,n1,k1,a2,n2,k2,a3,n3,k3,rfl,e1,e2,e3,hl⟩:=h.call.look (by omega) (by omega);rw[e1]at y1;rw[e2]at y2;rw[e3]at y3;injection y1 with z1 z2 z3;injection y2 with z4 z5 z6;injection y3 with z7' z8 z9;subst z1 z2 z3 z4 z5 z6 z7' z8 z9;have Gg:=(Gk w.drew (below_drewN (Qb _ _) 1)).2;have Gi:=(Gk W.drew (below_drewN hl.bel 1)).2;have ek:kvA (Ng (Fb L (T.getD 0 empty)) 0)=.agg #[.string (Fb L (T.getD 0 empty)).key.name,.int .i64 (Fb L (T.getD 0 empty)).key.val.kind,.string (Fb L (T.getD 0 empty)).key.val.text,.slice a1 n1 k1,.slice a2 n2 k2,.slice a3 n3 k3,.int .i64 0]:=by
  unfold kvA kC Ng Ke.withDue;rw[e1,e2,e3]
 have Gw:=h.call.ring.lt;clear h hd hE hs Gh Gk e1 e2 e3;generalize hpq:(G0 (L.map KV.key) ((Fb L (T.getD 0 empty)).key.withDue 0),Fe 1)=pq at*;generalize L.map KV.key=ks at*;clear hpq;obtain⟨LE,Gc⟩:∃LE:World->World->Prop,LE=fun W1 w2=>Hk W1 B g b n now (some ⟨ab,ao,none⟩) ab ao ac L T (ad 1) (Ng (Fb L (T.getD 0 empty)) 0) (.returned .nilIface) w2:=⟨_,rfl⟩;have Gl:Hid ((Fb L (T.getD 0 empty)).key.due≠0->∀r w1 w2,Fr w1 w.heap.size r (Fe 1)->Bl w w1->LE w1 w2->F2 w B g b now (some ⟨ab,ao,none⟩) ab ao ac T ad ks pq (.returned (.tuple #[r,.nilIface])) w2):=by rw[Gc];exact HL.out
 have Gb:Hid ((Fb L (T.getD 0 empty)).key.due≠0->∀W,Bl w W->Cp 240 #[.pointer (some ⟨g,0,none⟩),.agg #[.string (Fb L (T.getD 0 empty)).key.name,.int .i64 (Fb L (T.getD 0 empty)).key.val.kind,.string (Fb L (T.getD 0 empty)).key.val.text,.slice a1 n1 k1,.slice a2 n2 k2,.slice a3 n3 k3,.int .i64 0]] W fun e w'=>e=.returned .nilIface/\LE W w'/\∀k,k<W.heap.size->k≠b->w'.heap[k]?=W.heap[k]?):=fun hdu W hb=>by
  rw[Gc,<-ek];refine(Gr.out hdu W hb).mono ?_;rintro e w'⟨h1,h2⟩;exact⟨h1,h2,fun k hk hne=>h2.2.2.block k hk (fun e=>hne (by cases e;rfl))⟩
 clear HL Gr Gc ek;have Gz:=Gw;generalize(Fb L (T.getD 0 empty)).key=x at*;have HZ:=hid (Cn hl.row hl.bel (Qc _));obtain⟨hW,r0,b0,h0,h2,c0,H0,H2,C0,hk,hK,hm,d0,f0,d1,f1,d2,f2,d3,f3,d4,f4,d5,f5,d6,f6⟩:=hl;clear r0 hk hK;rw[hT]at*;generalize(T.getD 0 empty)=t at*;by_cases hdu:x.due=0
 ·rw[if_pos hdu];rw[hdu]at Gg Gi;clear Gl Gb;go_enter func184,ntmps184;go_wp2;go_region;obtain⟨W5,e5,r5,b5⟩:=HZ.out (.string x.name) (.int .i64 x.val.kind) (.string x.val.text) (.slice a1 n1 k1) (.slice a2 n2 k2) (.slice a3 n3 k3) (.int .i64 0);rw[e5];clear f0 f1 f2 f3 f4 f5 f6 d0 d1 d2 d3 d4 d5 d6 h0 h2 c0 H0 H2 C0 Gg Gi e5 HZ hW;have HB:=hid b5;have q6:=r5.cell 6;clear b5 r5 b0;go_wp2_with fail;refine(HR.out _ _).mono ?_;rintro e w2⟨r,rfl,hr,hb⟩;have HF:Hid _:=Ge.out r w2 (hr.le HB.out.size) (HB.out.trans (hb.mono HB.out.size));clear hr hb HR Ge;go_wp2;go_ret2;exact HF.out
 ·rw[if_neg hdu];have Gp:=hid (Gl.out hdu);have Gd:=hid (Gb.out hdu);have Gx:=beq_eq_false_iff_ne.2 hdu;clear Gl Gb Ge;go_enter func184,ntmps184;go_wp2;go_region;obtain⟨W5,e5,r5,b5⟩:=HZ.out (.string x.name) (.int .i64 x.val.kind) (.string x.val.text) (.slice a1 n1 k1) (.slice a2 n2 k2) (.slice a3 n3 k3) (.int .i64 x.due);rw[e5];clear f0 f1 f2 f3 f4 f5 f6 d0 d1 d2 d3 d4 d5 d6 h0 h2 c0 H0 H2 C0 Gg Gi e5 HZ hW;have q6:=r5.cell 6;have Gv:=r5.frozen 6;have r6:=r5.set 6 (.int .i64 0);have b6:Bl w (W5.setCell ⟨w.heap.size,6,none⟩ (.int .i64 0)):=b5.setCell (Qc _) _;obtain⟨W6,Gj⟩:∃W6,W5.setCell ⟨w.heap.size,6,none⟩ (.int .i64 0)=W6:=⟨_,rfl⟩;rw[Gj]at r6 b6;have HB:=hid b6;have Gu:=hid Gj;have Ga:Hid (∀V:World,V.heap[w.heap.size]?=W6.heap[w.heap.size]?->V.cell? ⟨w.heap.size,0,none⟩=some (.string x.name)/\V.cell? ⟨w.heap.size,1,none⟩=some (.int .i64 x.val.kind)/\V.cell? ⟨w.heap.size,2,none⟩=some (.string x.val.text)/\V.cell? ⟨w.heap.size,3,none⟩=some (.slice a1 n1 k1)/\V.cell? ⟨w.heap.size,4,none⟩=some (.slice a2 n2 k2)/\V.cell? ⟨w.heap.size,5,none⟩=some (.slice a3 n3 k3)/\V.cell? ⟨w.heap.size,6,none⟩=some (.int .i64 0)):=fun V hV=>by
   have rV:Fc V w.heap.size 47 #[.string x.name,.int .i64 x.val.kind,.string x.val.text,.slice a1 n1 k1,.slice a2 n2 k2,.slice a3 n3 k3,.int .i64 0]:=hV.trans r6;exact⟨rV.cell 0,rV.cell 1,rV.cell 2,rV.cell 3,rV.cell 4,rV.cell 5,rV.cell 6⟩
  have Gf:=r6.lt;clear b5 r5 b0 Gj r6 b6;go_upto_region 5 with fail;rw[Gu.out];clear Gu q6 Gv;go_region_held3 (fun V=>V.cell? ⟨w.heap.size,0,none⟩=some (.string x.name)/\V.cell? ⟨w.heap.size,1,none⟩=some (.int .i64 x.val.kind)/\V.cell? ⟨w.heap.size,2,none⟩=some (.string x.val.text)/\V.cell? ⟨w.heap.size,3,none⟩=some (.slice a1 n1 k1)/\V.cell? ⟨w.heap.size,4,none⟩=some (.slice a2 n2 k2)/\V.cell? ⟨w.heap.size,5,none⟩=some (.slice a3 n3 k3)/\V.cell? ⟨w.heap.size,6,none⟩=some (.int .i64 0))
   (first|exact Ga.out _ rfl|exact Gt|exact Gs)
   (first
    |(go_at_call 237;refine(HR.out _ _).mono ?_;rintro e w3⟨r,rfl,hr,hb⟩;have Gn:=(below_drewN HB.out 1).trans (hb.mono HB.out.size);have Gs:=Ga.out w3 (hb.block _ Gf))
    |(go_at_call 240;refine(Gd.out _ Gn).mono ?_;rintro e w4⟨rfl,Gm,Gq⟩;have Gt:=Ga.out w4 ((Gq _ (Qr Gf hb.size) (by omega)).trans (hb.block _ Gf))))
  all_goals
   have HF:Hid _:=Gp.out r _ w4 (hr.le HB.out.size) Gn Gm;clear hr hb HR Gp Gd Gm Gq Gt Gs Ga;go_wp2;go_ret2;exact HF.out
end
theorem Am{W w2:World}{n':Nat}{L':List KV}{ad:Nat->Addr}{R:List Rp}{r:Value}(hW:Fu W B g b n' now aa ab ao ac L' L' T)(hb:Below B w W)(hr:Fr w2 W.heap.size r R)(hb2:Bl W w2):F2 w B g b now aa ab ao ac T ad ks (L'.map KV.key,R) (.returned (.tuple #[r,.nilIface])) w2:=
 ⟨r,_,rfl,hb.trans (hb2.mono hW.le),.inl ⟨rfl,hr.le hb.size,n',L',rfl,hW.bw hb2⟩⟩
theorem Fu.drop(h:Fu w B g b n now aa ab ao ac L L T)(nm:ByteArray)(hs:nm.size<=1048576):
  ∃w',(Builtin.delete_ #[70,9] 0 #[.map (some b),.string nm]).run prog w=.ok (.tuple #[]) w'/\Fu w' B g b n now aa ab ao ac (G2 L nm) (G2 L nm) T/\w.grownBy w' (some b):=by
 have Gb:(1048576:Nat)<=maxLen:=by unfold maxLen;omega
 obtain⟨w',Ga,ho,ht⟩:=Ri.zwh h.call.ring nm (by omega) 0;have hk:=Ci h.call.ring ht.grown;obtain⟨hw,-⟩:=h.turned ht.grown ho (Ou nm h.call.up) ((h.vals.gone nm).kept hk);exact⟨w',Ga,hw,ht.grown⟩
theorem Fu.drew{M:List KV}(h:Fu w B g b n now aa ab ao ac L M T):Fu w.drew B g b n now aa ab ao ac L M T:=h.bw (below_drewN (Qb _ _) 1)
theorem zpu(B g b n:Nat)(now:Int)(aa:Option Addr)(ab ao ac:Nat)(L:List KV)(T:List ByteArray)(ad:Nat->Addr)(w:World)(h:Fu w B g b n now aa ab ao ac L L T)(hd:Fm (L.map KV.key)=true)(hE:Lk w B ad)(hn:n<=1000)(hs:∀t∈T,t.size<=200)(hT:T.length=2)(hnow:0<=now/\now<=1000000000):
  Calls prog 185 #[.pointer (some ⟨g,0,none⟩)] w (F2 w B g b now aa ab ao ac T ad (L.map KV.key) (if(Fg (T.getD 1 empty)).2=true then(if 1000000000-now<(Fg (T.getD 1 empty)).1 then(L.map KV.key,Fl M9) else if(Fq L (T.getD 0 empty)).isSome=true then(if(Fg (T.getD 1 empty)).1<=0 then(G5 (L.map KV.key) (T.getD 0 empty),Fe 1) else(G0 (L.map KV.key) ((Fb L (T.getD 0 empty)).key.withDue (now+(Fg (T.getD 1 empty)).1)),Fe 1)) else(L.map KV.key,Fe 0)) else(L.map KV.key,Fl F3))):=by
 have Sa:(200:Nat)<=maxLen:=by unfold maxLen;omega
 have Sd:=Lh hs 0;have Kz:=Lh hs 1;obtain⟨Kd,Km⟩:=hnow;have HR:=hid fun W s=>Bn s W;have HI:Hid (Cp 241 #[.string (T.getD 1 empty)] w fun e w'=>e=.returned (.tuple #[.int .i64 (Nk (T.getD 1 empty)),Lf (ad 12) (Fg (T.getD 1 empty)).2])/\Bl w w'):=Wi _ w B ad (by omega) hE h.le;have Gs:Hid (∀V,Bl w V->V.cell? ⟨5,0,none⟩=some (.iface 307 (.pointer (some (ad 9))))):=fun V hb=>((hE.bw (hb.mono h.le)).er 9 (by omega)).1.v;have Ge:Hid (∀r w',Fr w' w.heap.size r (Fe 0)->Bl w w'->F2 w B g b now aa ab ao ac T ad (L.map KV.key) (L.map KV.key,Fe 0) (.returned (.tuple #[r,.nilIface])) w'):=fun r w' h1 h2=>M7 h ⟨r,rfl,h1,h2⟩;have Gi:Hid (∀i r w',(i=1\/i=9\/i=10\/i=11\/i=12)->Bl w w'->F2 w B g b now aa ab ao ac T ad (L.map KV.key) (L.map KV.key,Fl (P7 i)) (.returned (.tuple #[r,.iface 307 (.pointer (some (ad i)))])) w'):=fun i r w' hi h2=>Ul i hi (h2.mono h.le);obtain⟨-,c1⟩:=h.arg 1 (by omega);have Gt:=h.call.c2;have q1:=c1 w (Qb _ _);have Gp:=Oo L (T.getD 0 empty);have Gv:=Un (T.getD 1 empty);have HW:Hid (Fu w B g b n now aa ab ao ac L L T/\Fm (L.map KV.key)=true/\Lk w B ad/\n<=1000):=⟨h,hd,hE,hn⟩;have Gz:=h.call.args.addr (by omega);have Gl:=fun(w1:World) (hb:Bl w w1)=>(h.bw hb).call.look (by omega) (by omega);have Kn:Hid (∀w1,_):=Gl;clear Gl;clear h hd hE hn hs c1;unfold Nk at HI;generalize hzz:Fg (T.getD 1 empty)=z at*;obtain⟨v,o⟩:=z;dsimp only at HI Gv ⊢;cases o with
 |false=>
  rw[if_neg (by simp)];have HJ:Hid (Cp 241 #[.string (T.getD 1 empty)] w fun e w'=>e=.returned (.tuple #[.int .i64 0,.iface 307 (.pointer (some (ad 12)))])/\Bl w w'):=HI.out;have HG:Hid (∀r w',Bl w w'->F2 w B g b now aa ab ao ac T ad (L.map KV.key) (L.map KV.key,Fl F3) (.returned (.tuple #[r,.iface 307 (.pointer (some (ad 12)))])) w'):=fun r w' hb=>Gi.out 12 r w' (by omega) hb;clear HI Gi Ge Gs HW Gp;subst Gz;rw[hT]at Gt;generalize L.map KV.key=ks,Fl F3=zz,ad 12=A,(T.getD 1 empty)=t1 at*;go_enter func185,ntmps185;go_wp2_with fail;refine HJ.out.mono ?_;rintro e w1⟨rfl,b1⟩;have HF:Hid _:=HG.out (.slice none 0 0) w1 b1;clear b1 HJ HG;go_wp2;go_ret2;exact HF.out
 |true=>
  rw[if_pos rfl];have HJ:Hid (Cp 241 #[.string (T.getD 1 empty)] w fun e w'=>e=.returned (.tuple #[.int .i64 v,.nilIface])/\Bl w w'):=HI.out;obtain⟨Se,Kx⟩:-1000000000000000000<=v/\v<=1000000000000000000:=by rcases Gv with h|h;exact h;cases h
  have Sc:IntKind.i64.wrap (1000000000-now)=1000000000-now:=by rw[IntKind.wrap_i64];omega
  have Gn:Hid (∀V,Bl w V->V.cell? ⟨g,1,none⟩=some (.int .i64 now)):=fun V hb=>(HW.out.1.bw hb).call.c1;clear HI Gv;by_cases hbig:1000000000-now<v
  ·rw[if_pos hbig];have HG:Hid (∀r w',Bl w w'->F2 w B g b now aa ab ao ac T ad (L.map KV.key) (L.map KV.key,Fl M9) (.returned (.tuple #[r,.iface 307 (.pointer (some (ad 9)))])) w'):=fun r w' hb=>Gi.out 9 r w' (by omega) hb;clear Gi Ge HW Gp;subst Gz;rw[hT]at Gt;generalize L.map KV.key=ks,Fl M9=zz,ad 9=A,(T.getD 1 empty)=t1 at*;go_enter func185,ntmps185;go_wp2_with fail;refine HJ.out.mono ?_;rintro e w1⟨rfl,b1⟩;have HF:Hid _:=HG.out (.slice none 0 0) w1.drew (below_drewN b1 1);have u1:=Gn.out w1 b1;have u9:=Gs.out w1.drew (below_drewN b1 1);clear b1 HJ HG Gn Gs;go_wp2;go_region;go_wp2;go_ret2;exact HF.out
  ·rw[if_neg hbig];have Sf:decide (1000000000-now<v)=false:=Qf hbig;clear Gi Gs;subst Gz;generalize hpp:(if(Fq L (T.getD 0 empty)).isSome=true then(if v<=0 then(G5 (L.map KV.key) (T.getD 0 empty),Fe 1) else(G0 (L.map KV.key) ((Fb L (T.getD 0 empty)).key.withDue (now+v)),Fe 1)) else(L.map KV.key,Fe 0))=pp;have Gf:Hid ((if(Fq L (T.getD 0 empty)).isSome=true then(if v<=0 then(G5 (L.map KV.key) (T.getD 0 empty),Fe 1) else(G0 (L.map KV.key) ((Fb L (T.getD 0 empty)).key.withDue (now+v)),Fe 1)) else(L.map KV.key,Fe 0))=pp):=hpp;clear hpp;have Kj:=Gt;rw[hT]at Kj;generalize(T.getD 1 empty)=t1,(T.getD 0 empty)=t at*;go_enter func185,ntmps185;go_wp2_with fail;refine HJ.out.mono ?_;rintro e w1⟨rfl,b1⟩;have Gg:Hid (Bl w w1):=b1;have u1:=Gn.out w1 b1;obtain⟨W,a1,n1,k1,a2,n2,k2,a3,n3,k3,-,e1,e2,e3,hl⟩:=Kn.out w1 b1;clear Kn;have Gh:Hid ((Fb L t).vi=.slice a1 n1 k1/\(Fb L t).vp=.slice a2 n2 k2/\(Fb L t).vr=.slice a3 n3 k3):=⟨e1,e2,e3⟩;have HZ:Hid (∀v0 v1 v2 v3 v4 v5 v6,_):=Cn hl.row hl.bel (Qc _);obtain⟨hW,r0,b0,h0,h2,c0,H0,H2,C0,hk,hK,hm,d0,f0,d1,f1,d2,f2,d3,f3,d4,f4,d5,f5,d6,f6⟩:=hl;have Gm:Hid (_\/_):=Gp;clear r0 b1 HJ Gn e1 e2 e3 Gt Kj q1 Gp;rw[hT]at h2 H2 hm;generalize hxx:(Fb L t).key=x at*;generalize hyy:(Fq L t).isSome=y at*;have Gd:Hid ((Fb L t).key=x):=hxx;have Gr:Hid ((Fq L t).isSome=y):=hyy;clear hxx hyy hzz;go_wp2;go_region;obtain⟨W5,e5,r5,b5⟩:=HZ.out (.string x.name) (.int .i64 x.val.kind) (.string x.val.text) (.slice a1 n1 k1) (.slice a2 n2 k2) (.slice a3 n3 k3) (.int .i64 x.due);rw[e5];clear f0 f1 f2 f3 f4 f5 f6 d0 d1 d2 d3 d4 d5 d6 h0 h2 c0 H0 H2 C0 hk hK e5 HZ hW b0;have Gy:=Gg.out.trans (b5.mono Gg.out.size);have HB:=hid Gy;have q6:=r5.cell 6;have q0:=r5.cell 0;have Ku:=r5.frozen 6;have h5:=HW.out.1.bw Gy;have g0:=h5.call.c0;have g1:=h5.call.c1;have H5:=hid h5;clear Gy h5;cases y with
   |false=>
    obtain rfl:(L.map KV.key,Fe 0)=pp:=by have:=Gf.out;rwa[if_neg (by simp)]at this
    clear Gf Gm Gd Gr Gh HW H5 b5 r5;go_wp2_with fail;refine(HR.out _ _).mono ?_;rintro e w2⟨r,rfl,hr,hb⟩;have HF:Hid _:=Ge.out r w2 (hr.le HB.out.size) (HB.out.trans (hb.mono HB.out.size));clear hr hb HR Ge;go_wp2;go_ret2;exact HF.out
   |true=>
    have Ga:Fb L t∈L/\(Fb L t).key.name=t:=by
     rcases Gm.out with⟨e,-⟩|⟨-,hm,hn⟩
     ·have:=Gr.out;rw[e]at this;cases this
     ·exact⟨hm,by rw[Gd.out];exact hn⟩
    have Gq:x.name=t:=by rw[<-Gd.out];exact Ga.2
    by_cases hv:v<=0
    ·obtain rfl:(G5 (L.map KV.key) t,Fe 1)=pp:=by have:=Gf.out;rwa[if_pos rfl,if_pos hv]at this
     obtain⟨Wd,Kw,Ko,Kr⟩:=H5.out.drew.drop x.name (by rw[Gq];omega);have Ka:Hid (Below B w Wd/\Fu Wd B g b n now (some ⟨ab,ao,none⟩) ab ao ac (G2 L t) (G2 L t) T):=⟨(below_drewN (HB.out.mono HW.out.1.le) 1).trans (Ds (w:=W5.drew) Kr HW.out.1.lb (Qj HW.out.1.le HB.out.size)),by rw[<-Gq];exact Ko⟩;have Kv:decide (v<=0)=true:=Qe hv;clear Gf Gm Gd Gr Gh HW H5 b5 r5 Ge Ko Kr Ga;have HE:Hid (∀r w2,Fr w2 Wd.heap.size r (Fe 1)->Bl Wd w2->F2 w B g b now (some ⟨ab,ao,none⟩) ab ao ac T ad (L.map KV.key) (G5 (L.map KV.key) t,Fe 1) (.returned (.tuple #[r,.nilIface])) w2):=fun r w2 hr hb=>by
      rw[<-Ow];exact Am Ka.out.2 Ka.out.1 hr hb
     clear Ka HB Gg Gq;generalize L.map KV.key=ks at*;generalize G5 ks t=gk at*;go_wp2;go_region;go_wp2_with fail;refine(HR.out _ _).mono ?_;rintro e w2⟨r,rfl,hr,hb⟩;have HF:Hid _:=HE.out r w2 hr hb;clear hr hb HR HE;go_wp2;go_ret2;exact HF.out
    ·obtain rfl:(G0 (L.map KV.key) ((Fb L t).key.withDue (now+v)),Fe 1)=pp:=by have:=Gf.out;rw[if_pos rfl,if_neg hv]at this;rw[Gd.out];exact this
     have Kv:decide (v<=0)=false:=Qf hv;have Ky:IntKind.i64.wrap (now+v)=now+v:=by rw[IntKind.wrap_i64];omega
     have Kb:0<=now+v/\now+v<=1000000000:=by omega
     have Kh:Hid (∀r w1 w2,Fr w1 w.heap.size r (Fe 1)->Bl w w1->Hk w1 B g b n now (some ⟨ab,ao,none⟩) ab ao ac L T (ad 1) (Ng (Fb L t) (now+v)) (.returned .nilIface) w2->F2 w B g b now (some ⟨ab,ao,none⟩) ab ao ac T ad (L.map KV.key) (G0 (L.map KV.key) ((Fb L t).key.withDue (now+v)),Fe 1) (.returned (.tuple #[r,.nilIface])) w2):=fun r w1 w2 h1 h2 h3=>by
      rw[<-Z1 HW.out.2.1 (List.mem_map_of_mem Ga.1) Kb (Fe 1)];exact Pt HW.out.1 HW.out.2.1 h1 (h2.mono HW.out.1.le) h2.size h3
     have ek:kvA (Ng (Fb L t) (now+v))=.agg #[.string x.name,.int .i64 x.val.kind,.string x.val.text,.slice a1 n1 k1,.slice a2 n2 k2,.slice a3 n3 k3,.int .i64 (now+v)]:=by
      unfold kvA kC Ng Ke.withDue;rw[Gh.out.1,Gh.out.2.1,Gh.out.2.2,<-Gd.out]
     have Gk:Hid (∀W,Bl w W->Cp 240 #[.pointer (some ⟨g,0,none⟩),.agg #[.string x.name,.int .i64 x.val.kind,.string x.val.text,.slice a1 n1 k1,.slice a2 n2 k2,.slice a3 n3 k3,.int .i64 (now+v)]] W fun e w'=>e=.returned .nilIface/\Hk W B g b n now (some ⟨ab,ao,none⟩) ab ao ac L T (ad 1) (Ng (Fb L t) (now+v)) (.returned .nilIface) w'/\∀k,k<W.heap.size->k≠b->w'.heap[k]?=W.heap[k]?):=fun W hb=>by
      rw[<-ek];refine(zrm B g b n now (some ⟨ab,ao,none⟩) ab ao ac L T ad W (Fb L t) (now+v) Ga.1 (HW.out.1.bw hb) HW.out.2.1 (HW.out.2.2.1.bw (hb.mono HW.out.1.le)) HW.out.2.2.2 Kb).mono ?_;rintro e w'⟨h1,h2⟩;exact⟨h1,h2,fun k hk hne=>h2.2.2.block k hk (fun e=>hne (by cases e;rfl))⟩
     obtain⟨LE,Gc⟩:∃LE:World->World->Prop,LE=fun W1 w2=>Hk W1 B g b n now (some ⟨ab,ao,none⟩) ab ao ac L T (ad 1) (Ng (Fb L t) (now+v)) (.returned .nilIface) w2:=⟨_,rfl⟩;have Kt:Hid (∀r w1 w2,Fr w1 w.heap.size r (Fe 1)->Bl w w1->LE w1 w2->F2 w B g b now (some ⟨ab,ao,none⟩) ab ao ac T ad (L.map KV.key) (G0 (L.map KV.key) ((Fb L t).key.withDue (now+v)),Fe 1) (.returned (.tuple #[r,.nilIface])) w2):=by rw[Gc];exact Kh.out
     have Gj:Hid (∀W,Bl w W->Cp 240 #[.pointer (some ⟨g,0,none⟩),.agg #[.string x.name,.int .i64 x.val.kind,.string x.val.text,.slice a1 n1 k1,.slice a2 n2 k2,.slice a3 n3 k3,.int .i64 (now+v)]] W fun e w'=>e=.returned .nilIface/\LE W w'/\∀k,k<W.heap.size->k≠b->w'.heap[k]?=W.heap[k]?):=by rw[Gc];exact Gk.out
     have Sb:b<w1.heap.size:=by have:=HW.out.1.call.ring.lt;have:=Gg.out.size;omega
     clear Kh Gk Gc ek Gf Gm Gr Gh HW H5 Ge Ga Gd Kb Gq;generalize(G0 (L.map KV.key) ((Fb L t).key.withDue (now+v)),Fe 1)=pq at*;generalize L.map KV.key=ks at*;generalize hdd:now+v=dd at*;have r6:=r5.set 6 (.int .i64 dd);have b6:Bl w (W5.setCell ⟨w1.heap.size,6,none⟩ (.int .i64 dd)):=HB.out.setCell Gg.out.size _;obtain⟨W6,Gx⟩:∃W6,W5.setCell ⟨w1.heap.size,6,none⟩ (.int .i64 dd)=W6:=⟨_,rfl⟩;rw[Gx]at r6 b6;have Gw:=hid b6;have Kq:=hid Gx;have Gb:Hid (∀V:World,V.heap[w1.heap.size]?=W6.heap[w1.heap.size]?->V.cell? ⟨w1.heap.size,0,none⟩=some (.string x.name)/\V.cell? ⟨w1.heap.size,1,none⟩=some (.int .i64 x.val.kind)/\V.cell? ⟨w1.heap.size,2,none⟩=some (.string x.val.text)/\V.cell? ⟨w1.heap.size,3,none⟩=some (.slice a1 n1 k1)/\V.cell? ⟨w1.heap.size,4,none⟩=some (.slice a2 n2 k2)/\V.cell? ⟨w1.heap.size,5,none⟩=some (.slice a3 n3 k3)/\V.cell? ⟨w1.heap.size,6,none⟩=some (.int .i64 dd)):=fun V hV=>by
      have rV:Fc V w1.heap.size 47 #[.string x.name,.int .i64 x.val.kind,.string x.val.text,.slice a1 n1 k1,.slice a2 n2 k2,.slice a3 n3 k3,.int .i64 dd]:=hV.trans r6;exact⟨rV.cell 0,rV.cell 1,rV.cell 2,rV.cell 3,rV.cell 4,rV.cell 5,rV.cell 6⟩
     have Gu:=r6.lt;clear b5 r5 Gx r6 b6 HB Gg;go_upto_region 13 with fail;rw[Kq.out];clear Kq q6 Ku q0 g0 g1;go_region_held3 (fun V=>V.cell? ⟨w1.heap.size,0,none⟩=some (.string x.name)/\V.cell? ⟨w1.heap.size,1,none⟩=some (.int .i64 x.val.kind)/\V.cell? ⟨w1.heap.size,2,none⟩=some (.string x.val.text)/\V.cell? ⟨w1.heap.size,3,none⟩=some (.slice a1 n1 k1)/\V.cell? ⟨w1.heap.size,4,none⟩=some (.slice a2 n2 k2)/\V.cell? ⟨w1.heap.size,5,none⟩=some (.slice a3 n3 k3)/\V.cell? ⟨w1.heap.size,6,none⟩=some (.int .i64 dd))
      (first|exact Gb.out _ rfl|exact Kp|exact Kl)
      (first
       |(go_at_call 237;refine(HR.out _ _).mono ?_;rintro e w3⟨r,rfl,hr,hb⟩;have Kf:=(below_drewN Gw.out 1).trans (hb.mono Gw.out.size);have Kl:=Gb.out w3 (hb.block _ Gu))
       |(go_at_call 240;refine(Gj.out _ Kf).mono ?_;rintro e w4⟨rfl,Kc,Ki⟩;have Kp:=Gb.out w4 ((Ki _ (Qr Gu hb.size) (by omega)).trans (hb.block _ Gu))))
     all_goals
      have HF:Hid _:=Kt.out r _ w4 (hr.le Gw.out.size) Kf Kc;clear hr hb HR Kt Gj Kc Ki Kp Kl Gb;go_wp2;go_ret2;exact HF.out
end Rb
end Go.Proofs.YtokafonppgppdaaGreatDoor
