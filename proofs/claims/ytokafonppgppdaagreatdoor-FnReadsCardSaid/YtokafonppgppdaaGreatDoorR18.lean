import Derived.Test.YtokafonppgppdaaGreatDoorR14
set_option maxHeartbeats 2000000
set_option maxRecDepth 100000
namespace Go.Proofs.YtokafonppgppdaaGreatDoor.Sl
open Tryz
open Go.RowKit
theorem zbp (n:Int) (w:World):
  Calls prog 113 #[.int .i64 n] w fun e w'=>e= .returned (.bool (zbw n))/\w'=w:=by
 by_cases h1:-1000000000000000000<=n
 ·by_cases h2:n<=1000000000000000000;all_goals
   have hd1:decide (-1000000000000000000<=n)=true:=Qe h1;go_enter func113,ntmps113;go_wp2;go_ret;exact ⟨by simp [zbw,h1,h2],rfl⟩
 ·have hd1:decide (-1000000000000000000<=n)=false:=Qf h1;go_enter func113,ntmps113;go_wp2;go_ret;exact ⟨by simp [zbw];omega,rfl⟩
theorem zri (n p:Int) (w:World) (hn:0<=n) (hn2:n<=1000000000000000000) (hp:-1000000000000000000<=p) (hp2:p<=1000000000000000000):
  Calls prog 298 #[.int .i64 n,.int .i64 p] w fun e w'=>e= .returned (.int .i64 (front n p))/\w'=w:=by
 by_cases h1:p<0
 ·go_enter func298,ntmps298;go_wp2;go_ret;exact ⟨by simp [front,h1],rfl⟩
 ·go_enter func298,ntmps298;go_wp2;go_ret;exact ⟨by simp [front];omega,rfl⟩
theorem ya9 (n f t:Int) (w:World):
  Calls prog 273 #[.int .i64 n,.int .i64 f,.int .i64 t] w fun e w'=>e= .returned (.tuple #[.int .i64 (zbr n f t).1,.int .i64 (zbr n f t).2])/\w'=w:=by
 by_cases h0:n<0
 ·have HE:Hid (zbr n f t=(0,0)):=by unfold Hid zbr;rw [if_pos (.inl h0)]
  go_enter func273,ntmps273;go_wp2;go_ret2;exact ⟨by rw [HE.out];rfl,rfl⟩
 ·have hd0:decide (n<0)=false:=Qf h0;cases h1:zbw n with
  |false=>
   have HE:Hid (zbr n f t=(0,0)):=by unfold Hid zbr;rw [if_pos (.inr (.inl h1))]
   go_enter func273,ntmps273;go_wp2_with fail;refine (zbp n w).mono ?_;rintro e w1 ⟨rfl,rfl⟩;rw [h1];go_wp2;go_ret2;exact ⟨by rw [HE.out];rfl,rfl⟩
  |true=>cases h2:zbw f with
   |false=>
    have HE:Hid (zbr n f t=(0,0)):=by unfold Hid zbr;rw [if_pos (.inr (.inr (.inl h2)))]
    go_enter func273,ntmps273;go_wp2_with fail;refine (zbp n w).mono ?_;rintro e w1 ⟨rfl,rfl⟩;rw [h1];go_wp2_with fail;refine (zbp f w1).mono ?_;rintro e w2 ⟨rfl,rfl⟩;rw [h2];go_wp2;go_ret2;exact ⟨by rw [HE.out];rfl,rfl⟩
   |true=>cases h3:zbw t with
    |false=>
     have HE:Hid (zbr n f t=(0,0)):=by unfold Hid zbr;rw [if_pos (.inr (.inr (.inr h3)))]
     go_enter func273,ntmps273;go_wp2_with fail;refine (zbp n w).mono ?_;rintro e w1 ⟨rfl,rfl⟩;rw [h1];go_wp2_with fail;refine (zbp f w1).mono ?_;rintro e w2 ⟨rfl,rfl⟩;rw [h2];go_wp2_with fail;refine (zbp t w2).mono ?_;rintro e w2 ⟨rfl,rfl⟩;rw [h3];go_wp2;go_ret2;exact ⟨by rw [HE.out];rfl,rfl⟩
    |true=>
     obtain ⟨n1,n2⟩:=zdk h1;obtain ⟨f1,f2⟩:=zdk h2;obtain ⟨t1,t2⟩:=zdk h3;have HE:Hid (zbr n f t=if zkc n t<zgp n f then (0,0) else (zgp n f,zkc n t+1)):=by
      unfold Hid zbr;rw [if_neg (by simp [h0,h1,h2,h3])]
     obtain ⟨a,ha⟩:∃a,a=front n f:=⟨_,rfl⟩;obtain ⟨b,hb⟩:∃b,b=front n t:=⟨_,rfl⟩;have a1:-1000000000000000000<=a/\a<=2000000000000000000:=by subst ha;unfold front;split<;>omega
     have b1:-1000000000000000000<=b/\b<=2000000000000000000:=by subst hb;unfold front;split<;>omega
     have FE:Hid (zgp n f=if a<0 then 0 else a):=by unfold Hid zgp;rw [ha]
     have LE:Hid (zkc n t=if b<n-1 then b else n-1):=by unfold Hid zkc;rw [hb]
     have HA:Hid (front n f=a):=ha.symm;have HB:Hid (front n t=b):=hb.symm;clear ha hb;go_enter func273,ntmps273;go_wp2_with fail;refine (zbp n w).mono ?_;rintro e w1 ⟨rfl,rfl⟩;rw [h1];go_wp2_with fail;refine (zbp f w1).mono ?_;rintro e w2 ⟨rfl,rfl⟩;rw [h2];go_wp2_with fail;refine (zbp t w2).mono ?_;rintro e w2 ⟨rfl,rfl⟩;rw [h3];go_wp2_with fail;refine (zri n f _ (by omega) n2 f1 f2).mono ?_;rintro e w2 ⟨rfl,rfl⟩;rw [HA.out];go_wp2_with fail;all_goals
      refine (zri n t _ (by omega) n2 t1 t2).mono ?_;rintro e w2 ⟨rfl,rfl⟩;rw [HB.out];go_wp2;all_goals
       go_ret2;refine ⟨yki ?_ ?_,rfl⟩;all_goals
        rw [HE.out,FE.out,LE.out];repeat' split
        all_goals first|rfl|omega
end Go.Proofs.YtokafonppgppdaaGreatDoor.Sl
namespace Go.Proofs.YtokafonppgppdaaGreatDoor.Rb
open Tryz
open _root_.ByteArray (empty)
open Go.RowKit Go.Maps
open Ri (za3 RK UpK zao zbb zlj zi6 zhd kvA z7 zb0 zdv zcp zez)
variable {w:World} {B g b n ab ao ac:Nat} {now:Int} {aa:Option Addr} {L M:List KV} {T:List ByteArray}
theorem zcr.arg (h:zcr w B g b n now aa ab ao ac L M T) (i:Nat) (hi:i<T.length):
  aa=some ⟨ab,ao,none⟩/\∀V,Below B w V->V.cell? ⟨ab,ao+i,none⟩=some (.string (T.getD i empty)):=
 ⟨h.call.args.addr (by omega),fun V hb=> (hb.cell (p:=⟨ab,ao+i,none⟩) (h.la (by omega))).trans (h.call.args.cell i hi)⟩
def zlh (T:List ByteArray):Bool:=(zbc (T.getD 1 empty)).2&&(zbc (T.getD 2 empty)).2
def slM (T:List ByteArray) (n:Int):Int×Int:=if zlh T=true then Sl.zbr n (zbc (T.getD 1 empty)).1 (zbc (T.getD 2 empty)).1 else (0,0)
theorem zu1 (B g b n:Nat) (now:Int) (aa:Option Addr) (ab ao ac:Nat) (L M:List KV) (T:List ByteArray) (ad:Nat->Addr) (w:World) (h:zcr w B g b n now aa ab ao ac L M T) (hE:zhj w B ad) (hT:T.length=3) (hs:∀t∈T,t.size<=200) (N:Int):
  Calls prog 243 #[.pointer (some ⟨g,0,none⟩),.int .i64 N] w fun e w'=>e= .returned (.tuple #[.int .i64 (slM T N).1,.int .i64 (slM T N).2,zc9 (ad 12) (zlh T)])/\Bl w w':=by
 have hsz:∀i,i<T.length->(T.getD i empty).size<=200:=fun i hi=>hs _ (by rw [Qa,Qd hi];exact Qv hi);obtain ⟨rfl,c1⟩:=h.arg 1 (by omega);obtain ⟨-,c2⟩:=h.arg 2 (by omega);have HI1:Hid (∀W,Bl w W->Cp 241 #[.string (T.getD 1 empty)] W fun e w'=>e= .returned (.tuple #[.int .i64 (zmv (T.getD 1 empty)),zc9 (ad 12) (zbc (T.getD 1 empty)).2])/\Bl W w'):=fun W hb=>zfa _ W B ad (by have:=hsz 1 (by omega);omega) (hE.bw (hb.mono h.le)) (Qj h.le hb.size);have HI2:Hid (∀W,Bl w W->Cp 241 #[.string (T.getD 2 empty)] W fun e w'=>e= .returned (.tuple #[.int .i64 (zmv (T.getD 2 empty)),zc9 (ad 12) (zbc (T.getD 2 empty)).2])/\Bl W w'):=fun W hb=>zfa _ W B ad (by have:=hsz 2 (by omega);omega) (hE.bw (hb.mono h.le)) (Qj h.le hb.size);have HA:Hid (∀V,Bl w V->V.cell? ⟨g,2,none⟩=some (.slice (some ⟨ab,ao,none⟩) T.length ac)/\V.cell? ⟨ab,ao+1,none⟩=some (.string (T.getD 1 empty))/\V.cell? ⟨ab,ao+2,none⟩=some (.string (T.getD 2 empty))):=fun V hb=>⟨(h.bw hb).call.c2,c1 V (hb.mono h.le),c2 V (hb.mono h.le)⟩;have HS:=hid fun W f t=>Sl.ya9 N f t W;have HM:Hid (slM T N=if ((zbc (T.getD 1 empty)).2&&(zbc (T.getD 2 empty)).2)=true then Sl.zbr N (zbc (T.getD 1 empty)).1 (zbc (T.getD 2 empty)).1 else (0,0)):=rfl;have HO:Hid (zlh T=((zbc (T.getD 1 empty)).2&&(zbc (T.getD 2 empty)).2)):=rfl;clear h hE hs hsz c1 c2;rw [hT] at HA;generalize zlh T=so,slM T N=sm at*;unfold zmv at HI1 HI2;generalize T.getD 1 empty=t1,T.getD 2 empty=t2 at*;generalize zbc t1=z1,zbc t2=z2 at*;obtain ⟨v1,o1⟩:=z1;obtain ⟨v2,o2⟩:=z2;dsimp only at HI1 HI2 HM HO;obtain ⟨A,hA⟩:∃A,ad 12=A:=⟨_,rfl⟩;rw [hA] at HI1 HI2 ⊢;clear hA;cases o1 with
 |false=>
  obtain rfl:so=false:=HO.out;obtain rfl:sm=(0,0):=HM.out;have HJ:Hid (Cp 241 #[.string t1] w fun e w'=>e= .returned (.tuple #[.int .i64 0,.iface 307 (.pointer (some A))])/\Bl w w'):=HI1.out w (Qb _ _);clear HI1 HI2 HM HO HS;show Calls _ _ _ _ fun e w'=>e= .returned (.tuple #[.int .i64 0,.int .i64 0,.iface 307 (.pointer (some A))])/\_;obtain ⟨q1,q2,q3⟩:=HA.out w (Qb _ _);go_enter func243,ntmps243;go_wp2_with fail;refine HJ.out.mono ?_;rintro e w1 ⟨rfl,b1⟩;have HB:Hid (Bl w w1):=b1;clear b1 HJ HA;go_wp2;go_ret3;exact ⟨rfl,HB.out⟩
 |true=>
  have HJ:Hid (Cp 241 #[.string t1] w fun e w'=>e= .returned (.tuple #[.int .i64 v1,.nilIface])/\Bl w w'):=HI1.out w (Qb _ _);obtain ⟨q1,q2,q3⟩:=HA.out w (Qb _ _);cases o2 with
  |false=>
   obtain rfl:so=false:=HO.out;obtain rfl:sm=(0,0):=HM.out;have HJ2:Hid (∀W,Bl w W->Cp 241 #[.string t2] W fun e w'=>e= .returned (.tuple #[.int .i64 0,.iface 307 (.pointer (some A))])/\Bl W w'):=HI2.out;clear HI1 HI2 HM HO HS;show Calls _ _ _ _ fun e w'=>e= .returned (.tuple #[.int .i64 0,.int .i64 0,.iface 307 (.pointer (some A))])/\_;go_enter func243,ntmps243;go_wp2_with fail;refine HJ.out.mono ?_;rintro e w1 ⟨rfl,b1⟩;have HB:Hid (Bl w w1):=b1;obtain ⟨p1,p2,p3⟩:=HA.out w1 b1;clear b1 HJ HA q1 q2 q3;go_wp2_with fail;refine (HJ2.out _ HB.out).mono ?_;rintro e w2 ⟨rfl,b2⟩;have HC:Hid (Bl w w2):=HB.out.trans (b2.mono HB.out.size);clear b2 HJ2;go_wp2;go_ret3;exact ⟨rfl,HC.out⟩
  |true=>
   obtain rfl:so=true:=HO.out;obtain rfl:sm=Sl.zbr N v1 v2:=HM.out;have HJ2:Hid (∀W,Bl w W->Cp 241 #[.string t2] W fun e w'=>e= .returned (.tuple #[.int .i64 v2,.nilIface])/\Bl W w'):=HI2.out;have HS2:Hid (∀W,Cp 273 #[.int .i64 N,.int .i64 v1,.int .i64 v2] W fun e w'=>e= .returned (.tuple #[.int .i64 (Sl.zbr N v1 v2).1,.int .i64 (Sl.zbr N v1 v2).2])/\w'=W):=fun W=>HS.out W v1 v2;clear HI1 HI2 HM HO HS;show Calls _ _ _ _ fun e w'=>e= .returned (.tuple #[.int .i64 (Sl.zbr N v1 v2).1,.int .i64 (Sl.zbr N v1 v2).2,.nilIface])/\_;generalize Sl.zbr N v1 v2=sm at*;obtain ⟨x1,x2⟩:=sm;dsimp only at HS2 ⊢;go_enter func243,ntmps243;go_wp2_with fail;refine HJ.out.mono ?_;rintro e w1 ⟨rfl,b1⟩;have HB:Hid (Bl w w1):=b1;obtain ⟨p1,p2,p3⟩:=HA.out w1 b1;clear b1 HJ HA q1 q2 q3;go_wp2_with fail;refine (HJ2.out _ HB.out).mono ?_;rintro e w2 ⟨rfl,b2⟩;have HC:=hid (HB.out.trans (b2.mono HB.out.size));clear b2 HJ2;go_wp2_with fail;refine (HS2.out _).mono ?_;rintro e w3 ⟨rfl,hw3⟩;subst hw3;go_wp2;go_ret3;exact ⟨rfl,HC.out⟩
theorem zav (hs:∀t∈T,t.size<=200) (i:Nat):(T.getD i empty).size<=200:=by
 rw [Qa];by_cases hi:i<T.length
 ·rw [Qd hi];exact hs _ (Qv hi)
 ·rw [List.getElem?_eq_none (by omega)];exact Qs _
def ze7 (nm t:ByteArray) (d:Int):KV:=⟨⟨nm,⟨1,t,[],[],[]⟩,d⟩,.slice none 0 0,.slice none 0 0,.slice none 0 0⟩
section
variable (B g b n:Nat) (now:Int) (aa:Option Addr) (ab ao ac:Nat) (L:List KV) (T:List ByteArray) (ad:Nat->Addr) (w:World)
theorem zny (d:Int) (h:zcr w B g b n now aa ab ao ac L L T) (hE:zhj w B ad) (hn:n<=1000) (hs:∀t∈T,t.size<=200) (hT:2<=T.length):
  Calls prog 235 #[.pointer (some ⟨g,0,none⟩),.int .i64 d] w fun e w'=>e= .returned (zc9 (ad 1) (zem L (ze7 (T.getD 0 empty) (T.getD 1 empty) d)))/\zas w B g b n now aa ab ao ac L T (ad 1) (ze7 (T.getD 0 empty) (T.getD 1 empty) d) e w':=by
 have hz0:=zav hs 0;have hz1:=zav hs 1;obtain ⟨he,hA⟩:=hE.er 1 (.inl rfl);have HV:Hid (∀W,Cp 214 #[.iface 231 (.string (T.getD 1 empty))] W fun e w'=>e= .returned (.agg #[.int .i64 1,.string (T.getD 1 empty),.slice none 0 0,.slice none 0 0,.slice none 0 0])/\Bl W w'):=fun W=>zgv _ W;have HS:Hid (∀W,Bl w W->Cp 240 #[.pointer (some ⟨g,0,none⟩),kvA (ze7 (T.getD 0 empty) (T.getD 1 empty) d)] W fun e w'=>e= .returned (zc9 (ad 1) (zem L (ze7 (T.getD 0 empty) (T.getD 1 empty) d)))/\zas w B g b n now aa ab ao ac L T (ad 1) (ze7 (T.getD 0 empty) (T.getD 1 empty) d) e w'/\w'.cell? ⟨g,2,none⟩=some (.slice aa T.length ac)/\w'.cell? ⟨ab,ao,none⟩=some (.string (T.getD 0 empty))/\w'.cell? ⟨ab,ao+1,none⟩=some (.string (T.getD 1 empty))):=fun W hb=>by
  refine (zgd B g b n now aa ab ao ac L T W (ze7 (T.getD 0 empty) (T.getD 1 empty) d) ((h.bw hb).gone _) (zyd _ _ _ _) (fun x _=>yfb _ _) (yai (by omega)) (by show ((T.getD 0 empty)).size<=_;omega) hn (hE.bw (hb.mono h.le)).rd (he.bw (hb.mono h.le) h.n25 hA) hA).mono ?_;rintro e w' ⟨rfl,hw,hg⟩;have hem:zdm (ze7 (T.getD 0 empty) (T.getD 1 empty) d).key=false:=by unfold zdm ze7;simp
  obtain ⟨-,q0⟩:=hw.arg 0 (by omega);obtain ⟨-,q1⟩:=hw.arg 1 (by omega);refine (fun h=>⟨h.1,h,hw.call.c2,q0 _ (Qb _ _),q1 _ (Qb _ _)⟩:zas w B g b n now aa ab ao ac L T (ad 1) (ze7 (T.getD 0 empty) (T.getD 1 empty) d) _ w'->_) ⟨?_,⟨n+1,Qc _,?_⟩,zd4 hb hg⟩
  ·unfold zc9 zem;rw [hem,Bool.false_or]
  ·unfold zvu;rw [hem,if_neg (by simp)];exact hw
 obtain ⟨-,c0⟩:=h.arg 0 (by omega);obtain ⟨-,c1⟩:=h.arg 1 (by omega);have HA:Hid (∀V,Bl w V->V.cell? ⟨g,2,none⟩=some (.slice aa T.length ac)/\V.cell? ⟨ab,ao,none⟩=some (.string (T.getD 0 empty))/\V.cell? ⟨ab,ao+1,none⟩=some (.string (T.getD 1 empty))):=fun V hb=>⟨(h.bw hb).call.c2,c0 V (hb.mono h.le),c1 V (hb.mono h.le)⟩;obtain rfl:=h.call.args.addr (by omega);have hm0:(0:Int)<(T.length:Int):=by omega
 have hm1:(1:Int)<(T.length:Int):=by omega
 have hm3:0<T.length:=by omega
 have hm2:(1:Int)<=(T.length:Int):=by omega
 generalize hM:zas w B g b n now (some ⟨ab,ao,none⟩) ab ao ac L T (ad 1) (ze7 (T.getD 0 empty) (T.getD 1 empty) d)=M at*;generalize zc9 (ad 1) (zem L (ze7 (T.getD 0 empty) (T.getD 1 empty) d))=ev at*;clear hM h hE he hA hn c0 c1 hz0 hz1 hs;unfold kvA kC ze7 at HS;dsimp only at HS;generalize (T.getD 0 empty)=t0,(T.getD 1 empty)=t1,T.length=m at*;obtain ⟨q0,q1,q2⟩:=HA.out w.drew (below_drewN (Qb _ _) 1);go_enter func235,ntmps235;go_upto_region 1 with fail;go_region_held3 (fun V=>V.cell? ⟨g,2,none⟩=some (.slice (some ⟨ab,ao,none⟩) m ac)/\V.cell? ⟨ab,ao,none⟩=some (.string t0)/\V.cell? ⟨ab,ao+1,none⟩=some (.string t1))
  (first|exact HA.out _ (Qb _ _)|exact ⟨q0,q1,q2⟩|exact hk3|exact HA.out _ hb5)
  (first
   |(go_at_call 214;refine (HV.out _).mono ?_;rintro e w2 ⟨rfl,b2⟩;have hb5:=(below_drewN (Qb _ w) 1).trans b2)
   |(go_at_call 240;refine (HS.out _ hb5).mono ?_;rintro e w3 ⟨rfl,hw3,hk3⟩))
 all_goals
  have HW:Hid _:=hw3;clear hw3;go_wp2;go_ret;exact ⟨rfl,HW.out⟩
theorem zr9 (h:zcr w B g b n now aa ab ao ac L L T) (hd:zan (L.map KV.key)=true) (hE:zhj w B ad) (hn:n<=1000) (hs:∀t∈T,t.size<=200) (hT:T.length=2):
  Calls prog 181 #[.pointer (some ⟨g,0,none⟩)] w (zar w B g b now aa ab ao ac T ad (L.map KV.key) (if (zao L (T.getD 0 empty)).isSome=true then (L.map KV.key,zam 0) else za1 (L.map KV.key) (ze7 (T.getD 0 empty) (T.getD 1 empty) 0).key (zam 1))):=by
 have hmx:(200:Nat)<=maxLen:=by unfold maxLen;omega
 have hz0:=zav hs 0;have HT:=hid (zlp g b n now aa ab ao ac L T w h.call (by omega) (by omega));have HR:=hid fun W s=>zdq s W;have HX:=hid fun W (hb:Bl w W)=>zny B g b n now aa ab ao ac L T ad W 0 (h.bw hb) (hE.bw (hb.mono h.le)) hn hs (by omega);have HS:Hid (∀r w',zbe w' w.heap.size r (zam 0)->Bl w w'->zar w B g b now aa ab ao ac T ad (L.map KV.key) (L.map KV.key,zam 0) (.returned (.tuple #[r,.nilIface])) w'):=fun r w' h1 h2=>zbo h ⟨r,rfl,h1,h2⟩;have HL:=hid fun r er w1 w2 (h1:zbe w1 w.heap.size r (zam 1)) (h2:Bl w w1) (h3:zas w1 B g b n now aa ab ao ac L T (ad 1) (ze7 (T.getD 0 empty) (T.getD 1 empty) 0) (.returned er) w2)=>zdj h hd h1 (h2.mono h.le) h2.size h3;clear h hd hE hs hz0;generalize (zao L (T.getD 0 empty)).isSome=y,za1 (L.map KV.key) (ze7 (T.getD 0 empty) (T.getD 1 empty) 0).key (zam 1)=pp,zc9 (ad 1) (zem L (ze7 (T.getD 0 empty) (T.getD 1 empty) 0))=ev at*;generalize L.map KV.key=ks at*;cases y with
 |true=>
  rw [if_pos rfl];go_enter func181,ntmps181;go_wp2_with fail;refine HT.out.mono ?_;rintro e w1 ⟨rfl,b1⟩;have HB:=hid b1;clear b1 HT;go_wp2_with fail;refine (HR.out _ _).mono ?_;rintro e w2 ⟨r,rfl,hr,hb⟩;have HF:Hid _:=HS.out r w2 (hr.le HB.out.size) (HB.out.trans (hb.mono HB.out.size));clear hr hb HR HX HL HS;go_wp2;go_ret2;exact HF.out
 |false=>
  rw [if_neg (by simp)];go_enter func181,ntmps181;go_wp2_with fail;refine HT.out.mono ?_;rintro e w1 ⟨rfl,b1⟩;have HB:=hid b1;clear b1 HT;go_wp2_with fail;refine (HR.out _ _).mono ?_;rintro e w2 ⟨r,rfl,hr,hb⟩;have HC:=hid (HB.out.trans (hb.mono HB.out.size));have HRR:=hid (hr.le HB.out.size);clear hr hb HR HS;go_wp2_with fail;refine (HX.out _ HC.out).mono ?_;rintro e w3 ⟨rfl,hl⟩;have HF:Hid _:=HL.out r _ w2 w3 HRR.out HC.out hl;clear hl HX HL;go_wp2;go_ret2;exact HF.out
end
theorem zby (L:List KV) (nm:ByteArray):(zao L nm=none/\zak L nm=kv0)\/(zao L nm=some (zak L nm)/\zak L nm∈L/\(zak L nm).key.name=nm):=by
 unfold zak;cases hf:zao L nm with
 |none=>exact .inl ⟨rfl,rfl⟩
 |some x=>
  refine .inr ⟨rfl,List.mem_of_find?_eq_some hf,?_⟩;have:=List.find?_some hf;simpa using this
structure yit (k:Ke):Prop where
 text:k.val.text.size<=200
 ni:k.val.ia.length<=20
 np:k.val.pj.length<=20
 nr:k.val.rq.length<=20
 ia:∀t∈k.val.ia,t.size<=200
 pj:∀p∈k.val.pj,p.1.size<=200/\p.2.size<=200
 rq:∀r∈k.val.rq,r.m.size<=200/\-1000000000000000000<=r.s/\r.s<=1000000000000000000
 due:0<=k.due/\k.due<=1000000000
theorem za8 (hd:zan (L.map KV.key)=true) (nm:ByteArray):yit (zak L nm).key:=by
 rcases zby L nm with ⟨-,e⟩|⟨-,hm,-⟩
 ·rw [e];exact ⟨Qs _,Qs _,Qs _,Qs _,fun t ht=>absurd ht (List.not_mem_nil),fun t ht=>absurd ht (List.not_mem_nil),fun t ht=>absurd ht (List.not_mem_nil),by show (0:Int)<=0/\(0:Int)<=1000000000;omega⟩
 ·have hk:=((zce _).1 hd).2.2 _ (List.mem_map_of_mem hm);unfold zfo zdr at hk;rw [Qh,Qh,decide_eq_true_iff] at hk;have hsm:=zff hk.2.1;exact ⟨hsm.text,hsm.ni,hsm.np,hsm.nr,hsm.ia,hsm.pj,hsm.rq,by have:=hk.2.2;simpa using this⟩
theorem zcr.held (h:zcr w B g b n now aa ab ao ac L M T) (hT:0<T.length) (hs:(T.getD 0 empty).size<=200):
  ∃a1 n1 k1 a2 n2 k2 a3 n3 k3,(zak L (T.getD 0 empty)).vi= .slice a1 n1 k1/\(zak L (T.getD 0 empty)).vp= .slice a2 n2 k2/\(zak L (T.getD 0 empty)).vr= .slice a3 n3 k3/\
   ∀W,Bl w W->Calls prog 239 #[.pointer (some ⟨g,0,none⟩)] W fun e w'=>e= .returned (.agg #[.int .i64 (zak L (T.getD 0 empty)).key.val.kind,.string (zak L (T.getD 0 empty)).key.val.text,.slice a1 n1 k1,.slice a2 n2 k2,.slice a3 n3 k3])/\Bl W w':=by
 have hmx:(200:Nat)<=maxLen:=by unfold maxLen;omega
 obtain ⟨a1,n1,k1,a2,n2,k2,a3,n3,k3,e1,e2,e3⟩:=zb7 h.call.ring (T.getD 0 empty) (by omega);refine ⟨a1,n1,k1,a2,n2,k2,a3,n3,k3,e1,e2,e3,fun W hb=>?_⟩;have:=zgl g b n now aa ab ao ac L T W (h.bw hb).call hT (by omega);unfold ycf at this;rwa [e1,e2,e3] at this
section
variable (B g b n:Nat) (now:Int) (aa:Option Addr) (ab ao ac:Nat) (L:List KV) (T:List ByteArray) (ad:Nat->Addr) (w:World)
theorem zmy (h:zcr w B g b n now aa ab ao ac L L T) (hd:zan (L.map KV.key)=true) (hE:zhj w B ad) (hs:∀t∈T,t.size<=200) (hT:T.length=3):
  Calls prog 188 #[.pointer (some ⟨g,0,none⟩)] w (zar w B g b now aa ab ao ac T ad (L.map KV.key) (if zlh T=true then (L.map KV.key,zax (zho (zak L (T.getD 0 empty)).key.val.text (zbc (T.getD 1 empty)).1 (zbc (T.getD 2 empty)).1)) else (L.map KV.key,zcb zdc))):=by
 have hz0:=zav hs 0;have hsm:=za8 hd (T.getD 0 empty);obtain ⟨a1,n1,k1,a2,n2,k2,a3,n3,k3,e1,e2,e3,hH⟩:=h.held (by omega) hz0;have HH:=hid hH;have HS:=hid fun W N (hb:Bl w W)=>zu1 B g b n now aa ab ao ac L L T ad W (h.bw hb) (hE.bw (hb.mono h.le)) hT hs N;have HR:=hid fun W s=>zd3 s W;have HSA:Hid (∀R r w',zbe w' w.heap.size r R->Bl w w'->zar w B g b now aa ab ao ac T ad (L.map KV.key) (L.map KV.key,R) (.returned (.tuple #[r,.nilIface])) w'):=fun R r w' h1 h2=>zbo h ⟨r,rfl,h1,h2⟩;have HFA:Hid (∀r w',Bl w w'->zar w B g b now aa ab ao ac T ad (L.map KV.key) (L.map KV.key,zcb zdc) (.returned (.tuple #[r,.iface 307 (.pointer (some (ad 12)))])) w'):=fun r w' h2=>zf0 12 (by omega) (h2.mono h.le);have ht:=hsm.text;have HM:Hid (∃i j:Nat,slM T (zak L (T.getD 0 empty)).key.val.text.size=((i:Int),(j:Int))/\i<=j/\j<=(zak L (T.getD 0 empty)).key.val.text.size/\(zlh T=true->zho (zak L (T.getD 0 empty)).key.val.text (zbc (T.getD 1 empty)).1 (zbc (T.getD 2 empty)).1=(zak L (T.getD 0 empty)).key.val.text.extract i j)):=by
  unfold Hid slM;cases zlh T with
  |true=>
   obtain ⟨i,j,e,h1,h2⟩:=zic (zak L (T.getD 0 empty)).key.val.text.size (zbc (T.getD 1 empty)).1 (zbc (T.getD 2 empty)).1;refine ⟨i,j,by rw [if_pos rfl,e],h1,h2,fun _=>?_⟩;unfold zho;rw [e];rfl
  |false=>exact ⟨0,0,by rw [if_neg (by simp)];rfl,Qc _,Qs _,fun h=>by cases h⟩
 clear h hd hE hs hH hsm e1 e2 e3;generalize zlh T=so,zho (zak L (T.getD 0 empty)).key.val.text (zbc (T.getD 1 empty)).1 (zbc (T.getD 2 empty)).1=rg at*;generalize (zak L (T.getD 0 empty)).key.val.text=t at*;obtain ⟨i,j,hm,hij,hjt,hrg⟩:=HM.out;have HRG:=hid hrg;have HS2:Hid (∀W,Bl w W->Cp 243 #[.pointer (some ⟨g,0,none⟩),.int .i64 t.size] W fun e w'=>e= .returned (.tuple #[.int .i64 i,.int .i64 j,zc9 (ad 12) so])/\Bl W w'):=fun W hb=>by have:=HS.out W t.size hb;rw [hm] at this;exact this
 clear HS HM hm hrg;generalize slM T=sl at*;have hi0:(0:Int)<=(i:Int):=by omega
 have hi1:(i:Int)<=(j:Int):=by omega
 have hi2:(j:Int)<=(t.size:Int):=by omega
 generalize L.map KV.key=ks,(zak L (T.getD 0 empty)).key.val.kind=kd at*;have hf:=fun W=>zlu (.int .i64 kd) (.string t) (.slice a1 n1 k1) (.slice a2 n2 k2) (.slice a3 n3 k3) W;cases so with
 |true=>
  rw [if_pos rfl];obtain rfl:=HRG.out rfl;have HS3:=hid HS2.out;clear HS2 HFA HRG;go_enter func188,ntmps188;go_wp2_with fail;refine (HH.out _ (Qb _ _)).mono ?_;rintro e w1 ⟨rfl,b1⟩;have HB:=hid b1;clear b1 HH;go_wp2_with fail;refine (HS3.out _ HB.out).mono ?_;rintro e w2 ⟨rfl,b2⟩;have HC:=hid (HB.out.trans (b2.mono HB.out.size));clear b2 HS3 HB;go_wp2_with fail;refine (HR.out _ _).mono ?_;rintro e w3 ⟨r,rfl,hr,hb⟩;have HF:Hid _:=HSA.out _ r w3 (hr.le HC.out.size) (HC.out.trans (hb.mono HC.out.size));clear hr hb HR HSA;go_wp2;go_ret2;exact HF.out
 |false=>
  rw [if_neg (by simp)];have HS3:=hid HS2.out;clear HS2 HSA HRG;generalize ad 12=A at*;go_enter func188,ntmps188;go_wp2_with fail;refine (HH.out _ (Qb _ _)).mono ?_;rintro e w1 ⟨rfl,b1⟩;have HB:=hid b1;clear b1 HH;go_wp2_with fail;refine (HS3.out _ HB.out).mono ?_;rintro e w2 ⟨rfl,b2⟩;have HC:=hid (HB.out.trans (b2.mono HB.out.size));clear b2 HS3 HB;go_wp2_with fail;refine (HR.out _ _).mono ?_;rintro e w3 ⟨r,rfl,hr,hb⟩;have HF:Hid _:=HFA.out r w3 (HC.out.trans (hb.mono HC.out.size));clear hr hb HR HFA;go_wp2;go_ret2;exact HF.out
theorem zpv (h:zcr w B g b n now aa ab ao ac L L T) (hd:zan (L.map KV.key)=true) (hE:zhj w B ad) (hn:n<=1000) (hs:∀t∈T,t.size<=200) (hT:T.length=2):
  Calls prog 189 #[.pointer (some ⟨g,0,none⟩)] w (zar w B g b now aa ab ao ac T ad (L.map KV.key) (za1 (L.map KV.key) (zb2 L (T.getD 0 empty) ((zak L (T.getD 0 empty)).key.val.text++(T.getD 1 empty))).key (zam ((zak L (T.getD 0 empty)).key.val.text++(T.getD 1 empty)).size))):=by
 have hz0:=zav hs 0;have hz1:=zav hs 1;have hsm:=za8 hd (T.getD 0 empty);obtain ⟨a1,n1,k1,a2,n2,k2,a3,n3,k3,e1,e2,e3,hH⟩:=h.held (by omega) hz0;obtain ⟨-,c1⟩:=h.arg 1 (by omega);have HA:Hid (∀V,Bl w V->V.cell? ⟨g,2,none⟩=some (.slice aa T.length ac)/\V.cell? ⟨ab,ao+1,none⟩=some (.string (T.getD 1 empty))):=fun V hb=>⟨(h.bw hb).call.c2,c1 V (hb.mono h.le)⟩;have HH:=hid hH;obtain ⟨he,hA⟩:=hE.er 1 (.inl rfl);have htx:=hsm.text;have htt:((zak L (T.getD 0 empty)).key.val.text++(T.getD 1 empty)).size<=400:=by rw [ByteArray.size_append];have:=hsm.text;omega
 have HX:Hid (∀W,Bl w W->Cp 244 #[.pointer (some ⟨g,0,none⟩),.iface 231 (.string ((zak L (T.getD 0 empty)).key.val.text++(T.getD 1 empty)))] W (zas W B g b n now aa ab ao ac L T (ad 1) (zb2 L (T.getD 0 empty) ((zak L (T.getD 0 empty)).key.val.text++(T.getD 1 empty))))):=fun W hb=>zns B g b n now aa ab ao ac L T W _ ((h.bw hb).gone _) (by omega) (by omega) (by omega) hn (hE.bw (hb.mono h.le)).rd (he.bw (hb.mono h.le) h.n25 hA) hA;have HR:=hid fun W s=>za4 s W;have HL:=hid fun r er w1 w2 (h1:zbe w1 w.heap.size r (zam ((zak L (T.getD 0 empty)).key.val.text++(T.getD 1 empty)).size)) (h2:Bl w w1) (h3:zas w1 B g b n now aa ab ao ac L T (ad 1) (zb2 L (T.getD 0 empty) ((zak L (T.getD 0 empty)).key.val.text++(T.getD 1 empty))) (.returned er) w2)=>zdj h hd h1 (h2.mono h.le) h2.size h3;obtain rfl:=h.call.args.addr (by omega);rw [hT] at HA;clear h hd hE hs hH e1 e2 e3 c1 he hA hsm;have HLE:Hid (∀W e w',zas W B g b n now (some ⟨ab,ao,none⟩) ab ao ac L T (ad 1) (zb2 L (T.getD 0 empty) ((zak L (T.getD 0 empty)).key.val.text++(T.getD 1 empty))) e w'->∃er,e= .returned er):=fun W e w' hl=>⟨_,hl.1⟩;obtain ⟨LE,hLE⟩:∃LE,LE=fun W=>zas W B g b n now (some ⟨ab,ao,none⟩) ab ao ac L T (ad 1) (zb2 L (T.getD 0 empty) ((zak L (T.getD 0 empty)).key.val.text++(T.getD 1 empty))):=⟨_,rfl⟩;have HX2:Hid (∀W,Bl w W->Cp 244 #[.pointer (some ⟨g,0,none⟩),.iface 231 (.string ((zak L (T.getD 0 empty)).key.val.text++(T.getD 1 empty)))] W (LE W)):=by rw [hLE];exact HX.out
 have HL2:Hid (∀r er w1 w2,zbe w1 w.heap.size r (zam ((zak L (T.getD 0 empty)).key.val.text++(T.getD 1 empty)).size)->Bl w w1->LE w1 (.returned er) w2->zar w B g b now (some ⟨ab,ao,none⟩) ab ao ac T ad (L.map KV.key) (za1 (L.map KV.key) (zb2 L (T.getD 0 empty) ((zak L (T.getD 0 empty)).key.val.text++(T.getD 1 empty))).key (zam ((zak L (T.getD 0 empty)).key.val.text++(T.getD 1 empty)).size)) (.returned (.tuple #[r,er])) w2):=by rw [hLE];exact HL.out
 have HLE2:Hid (∀W e w',LE W e w'->∃er,e= .returned er):=by rw [hLE];exact HLE.out
 clear HX HL HLE hLE;generalize za1 (L.map KV.key) (zb2 L (T.getD 0 empty) ((zak L (T.getD 0 empty)).key.val.text++(T.getD 1 empty))).key (zam ((zak L (T.getD 0 empty)).key.val.text++(T.getD 1 empty)).size)=pp,(zak L (T.getD 0 empty)).key.val.kind=kd at*;generalize (zak L (T.getD 0 empty)).key.val.text=t,(T.getD 1 empty)=t1 at*;have hsum:t.size+t1.size<=400:=by omega
 generalize htt2:t++t1=tt at*;have hf:=fun W=>zlu (.int .i64 kd) (.string t) (.slice a1 n1 k1) (.slice a2 n2 k2) (.slice a3 n3 k3) W;obtain ⟨q0,q1⟩:=HA.out w.drew (below_drewN (Qb _ _) 1);go_enter func189,ntmps189;go_upto_region 1 with fail;go_region_held_law (fun V=>V.cell? ⟨g,2,none⟩=some (.slice (some ⟨ab,ao,none⟩) 2 ac)/\V.cell? ⟨ab,ao+1,none⟩=some (.string t1))
  (first|exact HA.out _ (Qb _ _)|exact ⟨q0,q1⟩|exact HA.out _ hb5)
  (first
   |(go_at_call 239;refine (HH.out _ (below_drewN (Qb _ w) 1)).mono ?_;rintro e w2 ⟨rfl,b2⟩;have hb5:=(below_drewN (Qb _ w) 1).trans b2))
 all_goals
  have HB:=hid hb5;clear hb5 b2 HH HA q0 q1;go_wp2_with fail;refine (HR.out _ _).mono ?_;rintro e w3 ⟨r,rfl,hr,hb⟩;have HC:=hid (HB.out.trans (hb.mono HB.out.size));have HRR:=hid (hr.le HB.out.size);clear hr hb HR;go_wp2_with fail;refine (HX2.out _ HC.out).mono ?_;rintro e w4 hl;obtain ⟨er,rfl⟩:=HLE2.out _ _ _ hl;have HF:Hid _:=HL2.out r _ w3 w4 HRR.out HC.out hl;clear hl HX2 HL2;go_wp2;go_ret2;exact HF.out
end
end Go.Proofs.YtokafonppgppdaaGreatDoor.Rb
