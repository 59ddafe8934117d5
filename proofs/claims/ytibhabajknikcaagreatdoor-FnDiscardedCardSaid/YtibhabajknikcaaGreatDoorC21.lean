import Derived.Test.YtibhabajknikcaaGreatDoorC18
import Derived.Test.YtibhabajknikcaaGreatDoorC13
import Derived.Test.YtibhabajknikcaaGreatDoorHb
set_option maxHeartbeats 4000000
set_option maxRecDepth 100000
namespace Go.Proofs.YtibhabajknikcaaGreatDoor.Sl
open Go.RowKit
def inNum (n:Int):Bool:=decide (-1000000000000000000≤n∧n≤1000000000000000000)
def front (n p:Int):Int:=if p<0 then n+p else p
def firstM (n f:Int):Int:=if front n f<0 then 0 else front n f
def lastM (n t:Int):Int:=if front n t<n-1 then front n t else n-1
def sliceM (n f t:Int):Int×Int:=
 if n<0∨inNum n=false∨inNum f=false∨inNum t=false then (0,0)
 else if lastM n t<firstM n f then (0,0) else (firstM n f,lastM n t+1)
theorem inNum_true {n:Int} (h:inNum n=true):-1000000000000000000≤n∧n≤1000000000000000000:=of_decide_eq_true h
theorem l1In_any (n a b:Int) (w:World):
  Calls Tryz.prog 50 #[.int .i64 n,.int .i64 a,.int .i64 b] w fun e w'=>e= .returned (.bool (decide (a≤n∧n≤b)))∧w'=w:=by
 by_cases h1:a≤n
 ·by_cases h2:n≤b;all_goals
   go_enter Tryz.func50,Tryz.ntmps50;go_wp2;go_ret;exact ⟨by simp [h1,h2],rfl⟩
 ·go_enter Tryz.func50,Tryz.ntmps50;go_wp2;go_ret;exact ⟨by simp;omega,rfl⟩
theorem ret2 {a b:Int} {c:Int×Int} (h:a=c.1) (h2:b=c.2):Ending.returned (.tuple #[.int .i64 a,.int .i64 b])= .returned (.tuple #[.int .i64 c.1,.int .i64 c.2]):=by rw [h,h2]
theorem specSlice (n f t:Int) (w:World):
  Calls Tryz.prog 132 #[.int .i64 n,.int .i64 f,.int .i64 t] w fun e w'=>e= .returned (.tuple #[.int .i64 (sliceM n f t).1,.int .i64 (sliceM n f t).2])∧w'=w:=by
 have E1:Hid (inNum f=decide (-1000000000000000000≤f∧f≤1000000000000000000)):=rfl;have E2:Hid (inNum t=decide (-1000000000000000000≤t∧t≤1000000000000000000)):=rfl;by_cases h1:0≤n∧n≤1000000000000000000
 ·have hd1:decide (0≤n∧n≤1000000000000000000)=true:=decide_eq_true h1;have hn:inNum n=true:=decide_eq_true (by omega);cases h2:inNum f with
  |false=>
   have HE:Hid (sliceM n f t=(0,0)):=by unfold Hid sliceM;rw [if_pos (.inr (.inr (.inl h2)))]
   rw [E1.out] at h2;go_enter Tryz.func132,Tryz.ntmps132;go_wp2_with fail;refine (l1In_any n _ _ w).mono ?_;rintro e w1 ⟨rfl,rfl⟩;rw [hd1];go_wp2_with fail;refine (l1In_any f _ _ w1).mono ?_;rintro e w1 ⟨rfl,rfl⟩;rw [h2];go_wp2;go_ret2;exact ⟨by rw [HE.out];rfl,rfl⟩
  |true=>cases h3:inNum t with
   |false=>
    have HE:Hid (sliceM n f t=(0,0)):=by unfold Hid sliceM;rw [if_pos (.inr (.inr (.inr h3)))]
    rw [E1.out] at h2;rw [E2.out] at h3;go_enter Tryz.func132,Tryz.ntmps132;go_wp2_with fail;refine (l1In_any n _ _ w).mono ?_;rintro e w1 ⟨rfl,rfl⟩;rw [hd1];go_wp2_with fail;refine (l1In_any f _ _ w1).mono ?_;rintro e w1 ⟨rfl,rfl⟩;rw [h2];go_wp2_with fail;refine (l1In_any t _ _ w1).mono ?_;rintro e w1 ⟨rfl,rfl⟩;rw [h3];go_wp2;go_ret2;exact ⟨by rw [HE.out];rfl,rfl⟩
   |true=>
    obtain ⟨f1,f2⟩:=inNum_true h2;obtain ⟨t1,t2⟩:=inNum_true h3;have HE:Hid (sliceM n f t=if lastM n t<firstM n f then (0,0) else (firstM n f,lastM n t+1)):=by
     unfold Hid sliceM;rw [if_neg (by simp [hn,h2,h3];omega)]
    rw [E1.out] at h2;rw [E2.out] at h3;have FE:Hid (firstM n f=if (if f<0 then n+f else f)<0 then 0 else if f<0 then n+f else f):=rfl;have LE:Hid (lastM n t=if (if t<0 then n+t else t)<n-1 then (if t<0 then n+t else t) else n-1):=rfl;go_enter Tryz.func132,Tryz.ntmps132;go_wp2_with fail;refine (l1In_any n _ _ w).mono ?_;rintro e w1 ⟨rfl,rfl⟩;rw [hd1];go_wp2_with fail;refine (l1In_any f _ _ w1).mono ?_;rintro e w1 ⟨rfl,rfl⟩;rw [h2];go_wp2_with fail;refine (l1In_any t _ _ w1).mono ?_;rintro e w1 ⟨rfl,rfl⟩;rw [h3];go_wp2;all_goals
     go_ret2;refine ⟨ret2 ?_ ?_,rfl⟩;all_goals
      rw [HE.out,FE.out,LE.out];repeat' split
      all_goals first|rfl|omega
 ·have hd1:decide (0≤n∧n≤1000000000000000000)=false:=decide_eq_false h1;have HE:Hid (sliceM n f t=(0,0)):=by
   unfold Hid sliceM
   rw [if_pos (by
    by_cases h:n<0
    ·exact .inl h
    ·exact .inr (.inl (decide_eq_false (by omega))))]
  go_enter Tryz.func132,Tryz.ntmps132;go_wp2_with fail;refine (l1In_any n _ _ w).mono ?_;rintro e w1 ⟨rfl,rfl⟩;rw [hd1];go_wp2;go_ret2;exact ⟨by rw [HE.out];rfl,rfl⟩
end Go.Proofs.YtibhabajknikcaaGreatDoor.Sl
namespace Go.Proofs.YtibhabajknikcaaGreatDoor
open Go.RowKit Go.Sort
open Kk (Rk rk0 texL texR decS zea zeb zec OwnR flatR encR zdh str_ne str_eq)
def zdc:ByteArray:=⟨#[110,111,116,32,97,110,32,105,110,116,101,103,101,114]⟩
def sOutOf:ByteArray:=⟨#[111,117,116,32,111,102,32,114,97,110,103,101]⟩
def Ke.withText (k:Ke) (t:ByteArray):Ke:=⟨k.name,⟨k.val.kind,t,k.val.items,k.val.pairs,k.val.ranks⟩,k.due⟩
def zbc (s:ByteArray):Int×Bool:=intI s.data.toList
abbrev argN (T:List ByteArray) (i:Nat):ByteArray:=T.getD i ByteArray.empty
def rangeM (t:ByteArray) (f l:Int):ByteArray:=t.extract (Sl.sliceM t.size f l).1.toNat (Sl.sliceM t.size f l).2.toNat
def wasM (t:ByteArray) (there:Bool):Int×Bool:=if there=true then zbc t else (0,true)
def textM (c:Cm) (ks:List Ke) (k:Ke) (there:Bool) (T:List ByteArray):List Ke×List Rp:=match c with
 |5=> (ks,if there=true then rBulk k.val.text else rNull)
 |6=> (ks,rInt k.val.text.size)
 |23=>if ((zbc (argN T 2)).2&&(zbc (argN T 1)).2)=true then (ks,rBulk (rangeM k.val.text (zbc (argN T 1)).1 (zbc (argN T 2)).1)) else (ks,zcb zdc)
 |18=>setM ks (k.withText (k.val.text++argN T 1)) (rInt (k.val.text++argN T 1).size)
 |_=>
  if ((zbc (argN T 1)).2&&(wasM k.val.text there).2)=true then
   (if Sl.inNum ((wasM k.val.text there).1+(zbc (argN T 1)).1)=true then
    setM ks (k.withText (decS ((wasM k.val.text there).1+(zbc (argN T 1)).1))) (rInt ((wasM k.val.text there).1+(zbc (argN T 1)).1))
   else (ks,zcb sOutOf))
  else (ks,zcb zdc)
theorem slice_in (n:Nat) (f t:Int):∃i j:Nat,Sl.sliceM n f t=((i:Int),(j:Int))∧i≤j∧j≤n:=by
 unfold Sl.sliceM;split
 ·exact ⟨0,0,rfl,by omega,by omega⟩
 ·split
  ·exact ⟨0,0,rfl,by omega,by omega⟩
  ·rename_i h1 h2;have hf:0≤Sl.firstM n f:=by unfold Sl.firstM;split<;>omega
   have hl:Sl.lastM n t≤(n:Int)-1:=by unfold Sl.lastM;split<;>omega
   exact ⟨(Sl.firstM n f).toNat,(Sl.lastM n t+1).toNat,by rw [Int.toNat_of_nonneg hf,Int.toNat_of_nonneg (by omega)],by omega,by omega⟩
theorem intOf_any' (s:ByteArray) (hs:s.size≤1048576) (W:World):Calls Tryz.prog 108 #[.string s] W fun e w'=>e= .returned (.tuple #[.int .i64 (zbc s).1,.bool (zbc s).2])∧w'=W:=l1Int_any s W hs
theorem hIN:Hid (∀W z,Calls Tryz.prog 128 #[.int .i64 z] W (zci W (rInt z))):=fun W z=>int_any z W
theorem hER:Hid (∀W,Calls Tryz.prog 54 #[.string ⟨#[110,111,116,32,97,110,32,105,110,116,101,103,101,114]⟩] W (zci W (zcb zdc))):=fun W=>error_any zdc (by decide) W
theorem hNL:Hid (∀W,Calls Tryz.prog 131 #[] W (zci W rNull)):=fun W=>null_any W
theorem hBK:Hid (∀W s,Calls Tryz.prog 127 #[.string s] W (zci W (rBulk s))):=fun W s=>bulk_any s W
theorem hInt (s:ByteArray) (hs:s.size≤1048576):Hid (∀W,Calls Tryz.prog 108 #[.string s] W fun e w'=>e= .returned (.tuple #[.int .i64 (zbc s).1,.bool (zbc s).2])∧w'=W):=fun W=>intOf_any' s hs W
theorem intI_in (l:List UInt8) (h:(intI l).2=true):-1000000000000000000≤(intI l).1∧(intI l).1≤1000000000000000000:=by
 revert h;unfold intI;split
 ·intro h;cases h
 ·split
  ·intro h;cases h
  ·intro h;exact of_decide_eq_true h
theorem int_bound (s:ByteArray):-1000000000000000000≤(zbc s).1∧(zbc s).1≤1000000000000000000∨(zbc s).2=false:=by
 by_cases h:(zbc s).2=true
 ·refine .inl ?_;have:=intI_in s.data.toList h;exact this
 ·exact .inr (by simpa using h)
structure KSml (k:Ke):Prop where
 name:k.name.size≤200
 text:k.val.text.size≤200
 ni:k.val.items.length≤20
 np:k.val.pairs.length≤20
 nr:k.val.ranks.length≤20
 items:∀t∈k.val.items,t.size≤200
 pairs:∀p∈k.val.pairs,p.1.size≤200∧p.2.size≤200
 ranks:∀r∈k.val.ranks,r.m.size≤200∧-1000000000000000000≤r.s∧r.s≤1000000000000000000
 kind:0≤k.val.kind∧k.val.kind≤4
 due:0≤k.due∧k.due≤1000000000
theorem KSml.fit {k:Ke} (h:KSml k):KFit k:=⟨⟨by have:=h.text;omega,by have:=h.ni;omega,by have:=h.np;omega,by have:=h.nr;omega⟩,by have:=h.name;omega,fun t ht=>by have:=h.items t ht;omega⟩
theorem zbd.wide {w W:World} {B:Nat} {p:List Ke×List Rp} {e:Ending} {w':World} (h:zbd W B p e w') (hb:Below w.heap.size w W):zbd w B p e w':=by
 obtain ⟨v,r,L,h1,h2,h3,h4,h5⟩:=h;exact ⟨v,r,L,h1,h2,h3,h4.le hb.size,hb.trans (h5.mono hb.size)⟩
theorem zbs.bel {w:World} {B Br:Nat} {p:List Ke×List Rp} {e:Ending} {w':World} (h:zbs w B Br p e w'):Below w.heap.size w w':=by
 obtain ⟨_,_,_,_,_,_,_,h5⟩:=h;exact h5
theorem zbs.wide {w W:World} {B:Nat} {p:List Ke×List Rp} {e:Ending} {w':World} (h:zbs W B w.heap.size p e w') (hb:Below w.heap.size w W):zbd w B p e w':=by
 obtain ⟨v,r,L,h1,h2,h3,h4,h5⟩:=h;exact ⟨v,r,L,h1,h2,h3,h4,hb.trans (h5.mono hb.size)⟩
theorem text_GET (B:Nat) (v:Value) (L:List KV) (x:KV) (there:Bool) (aa:Option Addr) (ab ao ac:Nat) (T:List ByteArray) (w:World) (h:DbOwn w B v L) (hx:VRd w x.key.val x.vi x.vp x.vr) (hxs:KSml x.key) (ha:zdg w aa ab ao 1 T) (hT:∀i,i<1→(argN T i).size≤200) (hB:B≤w.heap.size):
  Calls Tryz.prog 94 #[v,kvV x,.bool there,.string ⟨#[71,69,84]⟩,.slice aa 1 ac] w (zbd w B (textM .GET (L.map KV.key) x.key there T)):=by
 have hx0:=hx;obtain ⟨⟨p1,P1,o1,d1,e1,i1,f1⟩,⟨p2,P2,d2,e2,i2,f2⟩,⟨p3,P3,o3,d3,e3,i3,f3⟩⟩:=hx;obtain ⟨⟨xn,xv,xd⟩,vi,vp,vr⟩:=x;dsimp only at e1 e2 e3 hx0 hxs;subst e1 e2 e3;obtain ⟨W0,hW0,HW0,b0,r0⟩:=boxed w (kC xn xv.kind xv.text (.slice p1 xv.items.length d1) (.slice p2 xv.pairs.length d2) (.slice p3 xv.ranks.length d3) xd) 60;have ES:=es_of h hB b0;have c0:=ha.cell 0 (by omega);rw [←b0.cell (p:=⟨ab,ao+0,none⟩) (ha.low (by omega))] at c0;have s0:=hT 0 (by omega);obtain rfl:=ha.addr (by omega);rw [Nat.add_zero] at c0;change W0.cell? _=some (.string (argN T 0)) at c0;have HI0:Hid (∀W,Calls Tryz.prog 108 #[.string (argN T 0)] W fun e w'=>e= .returned (.tuple #[.int .i64 (zbc (argN T 0)).1,.bool (zbc (argN T 0)).2])∧w'=W):=fun W=>intOf_any' _ (by omega) W;have HN:=hNL;have HBk:Hid (∀W,Calls Tryz.prog 127 #[.string xv.text] W (zci W (rBulk xv.text))):=fun W=>bulk_any _ W;obtain ⟨y0,y1,y2,y3,y4,y5,y6⟩:=row7 r0;show Calls Tryz.prog 94 #[v,.agg (kC xn xv.kind xv.text (.slice p1 xv.items.length d1) (.slice p2 xv.pairs.length d2) (.slice p3 xv.ranks.length d3) xd),.bool there,.string ⟨#[71,69,84]⟩,.slice (some ⟨ab,ao,none⟩) 1 ac] w (zbd w B (L.map KV.key,if there=true then rBulk xv.text else rNull));clear h hx0 hxs ha hT hW0 i1 i2 i3 f1 f2 f3;generalize L.map KV.key=K0 at*;generalize (zbc (argN T 0)).1=z0 at*;generalize (zbc (argN T 0)).2=ok0 at*;generalize argN T 0=t0 at*;generalize xv.text=tx at*;generalize xv.items.length=n1 at*;generalize xv.pairs.length=n2 at*;generalize xv.ranks.length=n3 at*;generalize xv.kind=kd at*;cases there with
 |false=>
  show Calls Tryz.prog 94 #[v,.agg (kC xn kd tx (.slice p1 n1 d1) (.slice p2 n2 d2) (.slice p3 n3 d3) xd),.bool false,.string ⟨#[71,69,84]⟩,.slice (some ⟨ab,ao,none⟩) 1 ac] w (zbd w B (K0,rNull));go_enter Tryz.func94,Tryz.ntmps94;go_upto_region 1 with fail;rw [HW0.out];go_wp2_with fail;refine (HI0.out W0).mono ?_;rintro e w0 ⟨rfl,hw0⟩;subst hw0;go_wp2_with fail;refine (HN.out _).mono ?_;rintro e w1 ⟨r,rfl,hr,hb⟩;have HF:Hid _:=ES.out rNull r w0 w1 (Below.refl _ _) hr hb;clear hr hb ES;go_wp2;go_ret2;exact HF.out
 |true=>
  show Calls Tryz.prog 94 #[v,.agg (kC xn kd tx (.slice p1 n1 d1) (.slice p2 n2 d2) (.slice p3 n3 d3) xd),.bool true,.string ⟨#[71,69,84]⟩,.slice (some ⟨ab,ao,none⟩) 1 ac] w (zbd w B (K0,rBulk tx));go_enter Tryz.func94,Tryz.ntmps94;go_upto_region 1 with fail;rw [HW0.out];go_wp2_with fail;refine (HI0.out W0).mono ?_;rintro e w0 ⟨rfl,hw0⟩;subst hw0;go_wp2_with fail;refine (HBk.out _).mono ?_;rintro e w1 ⟨r,rfl,hr,hb⟩;have HF:Hid _:=ES.out (rBulk tx) r w0 w1 (Below.refl _ _) hr hb;clear hr hb ES;go_wp2;go_ret2;exact HF.out
theorem text_STRLEN (B:Nat) (v:Value) (L:List KV) (x:KV) (there:Bool) (aa:Option Addr) (ab ao ac:Nat) (T:List ByteArray) (w:World) (h:DbOwn w B v L) (hx:VRd w x.key.val x.vi x.vp x.vr) (hxs:KSml x.key) (ha:zdg w aa ab ao 1 T) (hT:∀i,i<1→(argN T i).size≤200) (hB:B≤w.heap.size):
  Calls Tryz.prog 94 #[v,kvV x,.bool there,.string ⟨#[83,84,82,76,69,78]⟩,.slice aa 1 ac] w (zbd w B (textM .STRLEN (L.map KV.key) x.key there T)):=by
 have hx0:=hx;obtain ⟨⟨p1,P1,o1,d1,e1,i1,f1⟩,⟨p2,P2,d2,e2,i2,f2⟩,⟨p3,P3,o3,d3,e3,i3,f3⟩⟩:=hx;obtain ⟨⟨xn,xv,xd⟩,vi,vp,vr⟩:=x;dsimp only at e1 e2 e3 hx0 hxs;subst e1 e2 e3;obtain ⟨W0,hW0,HW0,b0,r0⟩:=boxed w (kC xn xv.kind xv.text (.slice p1 xv.items.length d1) (.slice p2 xv.pairs.length d2) (.slice p3 xv.ranks.length d3) xd) 60;have ES:=es_of h hB b0;have c0:=ha.cell 0 (by omega);rw [←b0.cell (p:=⟨ab,ao+0,none⟩) (ha.low (by omega))] at c0;have s0:=hT 0 (by omega);obtain rfl:=ha.addr (by omega);rw [Nat.add_zero] at c0;change W0.cell? _=some (.string (argN T 0)) at c0;have HI0:Hid (∀W,Calls Tryz.prog 108 #[.string (argN T 0)] W fun e w'=>e= .returned (.tuple #[.int .i64 (zbc (argN T 0)).1,.bool (zbc (argN T 0)).2])∧w'=W):=fun W=>intOf_any' _ (by omega) W;have HS:Hid (∀W,Calls Tryz.prog 128 #[.int .i64 (xv.text.size:Int)] W (zci W (rInt (xv.text.size:Int)))):=fun W=>int_any _ W;have ht:=hxs.text;obtain ⟨y0,y1,y2,y3,y4,y5,y6⟩:=row7 r0;show Calls Tryz.prog 94 #[v,.agg (kC xn xv.kind xv.text (.slice p1 xv.items.length d1) (.slice p2 xv.pairs.length d2) (.slice p3 xv.ranks.length d3) xd),.bool there,.string ⟨#[83,84,82,76,69,78]⟩,.slice (some ⟨ab,ao,none⟩) 1 ac] w (zbd w B (L.map KV.key,rInt (xv.text.size:Int)));clear h hx0 hxs ha hT hW0 i1 i2 i3 f1 f2 f3;generalize L.map KV.key=K0 at*;generalize (zbc (argN T 0)).1=z0 at*;generalize (zbc (argN T 0)).2=ok0 at*;generalize argN T 0=t0 at*;dsimp only at ht;generalize xv.text=tx at*;generalize xv.items.length=n1 at*;generalize xv.pairs.length=n2 at*;generalize xv.ranks.length=n3 at*;generalize xv.kind=kd at*;go_enter Tryz.func94,Tryz.ntmps94;go_upto_region 1 with fail;rw [HW0.out];go_wp2_with fail;refine (HI0.out W0).mono ?_;rintro e w0 ⟨rfl,hw0⟩;subst hw0;go_wp2_with fail;refine (HS.out _).mono ?_;rintro e w1 ⟨r,rfl,hr,hb⟩;have HF:Hid _:=ES.out (rInt (tx.size:Int)) r w0 w1 (Below.refl _ _) hr hb;clear hr hb ES;go_wp2;go_ret2;exact HF.out
theorem text_GETRANGE (B:Nat) (v:Value) (L:List KV) (x:KV) (there:Bool) (aa:Option Addr) (ab ao ac:Nat) (T:List ByteArray) (w:World) (h:DbOwn w B v L) (hx:VRd w x.key.val x.vi x.vp x.vr) (hxs:KSml x.key) (ha:zdg w aa ab ao 3 T) (hT:∀i,i<3→(argN T i).size≤200) (hB:B≤w.heap.size):
  Calls Tryz.prog 94 #[v,kvV x,.bool there,.string ⟨#[71,69,84,82,65,78,71,69]⟩,.slice aa 3 ac] w (zbd w B (textM .GETRANGE (L.map KV.key) x.key there T)):=by
 have hx0:=hx;obtain ⟨⟨p1,P1,o1,d1,e1,i1,f1⟩,⟨p2,P2,d2,e2,i2,f2⟩,⟨p3,P3,o3,d3,e3,i3,f3⟩⟩:=hx;obtain ⟨⟨xn,xv,xd⟩,vi,vp,vr⟩:=x;dsimp only at e1 e2 e3 hx0 hxs;subst e1 e2 e3;obtain ⟨W0,hW0,HW0,b0,r0⟩:=boxed w (kC xn xv.kind xv.text (.slice p1 xv.items.length d1) (.slice p2 xv.pairs.length d2) (.slice p3 xv.ranks.length d3) xd) 60;have ES:=es_of h hB b0;have c0:=ha.cell 0 (by omega);rw [←b0.cell (p:=⟨ab,ao+0,none⟩) (ha.low (by omega))] at c0;have s0:=hT 0 (by omega);have c1:=ha.cell 1 (by omega);rw [←b0.cell (p:=⟨ab,ao+1,none⟩) (ha.low (by omega))] at c1;have s1:=hT 1 (by omega);have c2:=ha.cell 2 (by omega);rw [←b0.cell (p:=⟨ab,ao+2,none⟩) (ha.low (by omega))] at c2;have s2:=hT 2 (by omega);obtain rfl:=ha.addr (by omega);rw [Nat.add_zero] at c0;change W0.cell? _=some (.string (argN T 0)) at c0;change W0.cell? _=some (.string (argN T 1)) at c1;change W0.cell? _=some (.string (argN T 2)) at c2;have HI2:=hInt (argN T 2) (by omega);have HI1:=hInt (argN T 1) (by omega);have HER:=hER;have ht:=hxs.text;dsimp only at ht;obtain ⟨y0,y1,y2,y3,y4,y5,y6⟩:=row7 r0;obtain ⟨i,j,hij,hi1,hi2⟩:=slice_in xv.text.size (zbc (argN T 1)).1 (zbc (argN T 2)).1;have HSL:Hid (∀W,Calls Tryz.prog 132 #[.int .i64 (xv.text.size:Int),.int .i64 (zbc (argN T 1)).1,.int .i64 (zbc (argN T 2)).1] W fun e w'=>e= .returned (.tuple #[.int .i64 (i:Int),.int .i64 (j:Int)])∧w'=W):=fun W=>by
  have:=Sl.specSlice xv.text.size (zbc (argN T 1)).1 (zbc (argN T 2)).1 W;rw [hij] at this;exact this
 have HRM:Hid (rangeM xv.text (zbc (argN T 1)).1 (zbc (argN T 2)).1=xv.text.extract i j):=by
  unfold Hid rangeM;rw [hij];rfl
 have HBk:Hid (∀W,Calls Tryz.prog 127 #[.string (xv.text.extract i j)] W (zci W (rBulk (xv.text.extract i j)))):=fun W=>bulk_any _ W;show Calls Tryz.prog 94 #[v,.agg (kC xn xv.kind xv.text (.slice p1 xv.items.length d1) (.slice p2 xv.pairs.length d2) (.slice p3 xv.ranks.length d3) xd),.bool there,.string ⟨#[71,69,84,82,65,78,71,69]⟩,.slice (some ⟨ab,ao,none⟩) 3 ac] w (zbd w B (if ((zbc (argN T 2)).2&&(zbc (argN T 1)).2)=true then (L.map KV.key,rBulk (rangeM xv.text (zbc (argN T 1)).1 (zbc (argN T 2)).1)) else (L.map KV.key,zcb zdc)));rw [HRM.out];clear HRM hij;clear h hx0 hxs ha hT hW0 i1 i2 i3 f1 f2 f3;generalize L.map KV.key=K0 at*;generalize (zbc (argN T 2)).1=z2 at*;generalize (zbc (argN T 2)).2=ok2 at*;generalize (zbc (argN T 1)).1=z1 at*;generalize (zbc (argN T 1)).2=ok1 at*;generalize argN T 0=t0 at*;generalize argN T 1=t1 at*;generalize argN T 2=t2 at*;generalize xv.text=tx at*;generalize xv.items.length=n1 at*;generalize xv.pairs.length=n2 at*;generalize xv.ranks.length=n3 at*;generalize xv.kind=kd at*;cases ok2 with
 |false=>
  show Calls Tryz.prog 94 #[v,.agg (kC xn kd tx (.slice p1 n1 d1) (.slice p2 n2 d2) (.slice p3 n3 d3) xd),.bool there,.string ⟨#[71,69,84,82,65,78,71,69]⟩,.slice (some ⟨ab,ao,none⟩) 3 ac] w (zbd w B (K0,zcb zdc));go_enter Tryz.func94,Tryz.ntmps94;go_upto_region 1 with fail;rw [HW0.out];go_wp2_with fail;refine (HI2.out W0).mono ?_;rintro e w0 ⟨rfl,hw0⟩;subst hw0;go_wp2_with fail;refine (HI1.out w0).mono ?_;rintro e w0' ⟨rfl,hw0'⟩;subst hw0';go_wp2_with fail;refine (HER.out _).mono ?_;rintro e w1 ⟨r,rfl,hr,hb⟩;have HF:Hid _:=ES.out (zcb zdc) r w0' w1 (Below.refl _ _) hr hb;clear hr hb ES;go_wp2;go_ret2;exact HF.out
 |true=>
  cases ok1 with
  |false=>
   show Calls Tryz.prog 94 #[v,.agg (kC xn kd tx (.slice p1 n1 d1) (.slice p2 n2 d2) (.slice p3 n3 d3) xd),.bool there,.string ⟨#[71,69,84,82,65,78,71,69]⟩,.slice (some ⟨ab,ao,none⟩) 3 ac] w (zbd w B (K0,zcb zdc));go_enter Tryz.func94,Tryz.ntmps94;go_upto_region 1 with fail;rw [HW0.out];go_wp2_with fail;refine (HI2.out W0).mono ?_;rintro e w0 ⟨rfl,hw0⟩;subst hw0;go_wp2_with fail;refine (HI1.out w0).mono ?_;rintro e w0' ⟨rfl,hw0'⟩;subst hw0';go_wp2_with fail;refine (HER.out _).mono ?_;rintro e w1 ⟨r,rfl,hr,hb⟩;have HF:Hid _:=ES.out (zcb zdc) r w0' w1 (Below.refl _ _) hr hb;clear hr hb ES;go_wp2;go_ret2;exact HF.out
  |true=>
   show Calls Tryz.prog 94 #[v,.agg (kC xn kd tx (.slice p1 n1 d1) (.slice p2 n2 d2) (.slice p3 n3 d3) xd),.bool there,.string ⟨#[71,69,84,82,65,78,71,69]⟩,.slice (some ⟨ab,ao,none⟩) 3 ac] w (zbd w B (K0,rBulk (tx.extract i j)));go_enter Tryz.func94,Tryz.ntmps94;go_upto_region 1 with fail;rw [HW0.out];go_wp2_with fail;refine (HI2.out W0).mono ?_;rintro e w0 ⟨rfl,hw0⟩;subst hw0;go_wp2_with fail;refine (HI1.out w0).mono ?_;rintro e w0' ⟨rfl,hw0'⟩;subst hw0';go_wp2_with fail;refine (HSL.out w0').mono ?_;rintro e w3 ⟨rfl,hw3⟩;subst hw3;go_wp2_with fail;refine (HBk.out _).mono ?_;rintro e w1 ⟨r,rfl,hr,hb⟩;have HF:Hid _:=ES.out (rBulk (tx.extract i j)) r w3 w1 (Below.refl _ _) hr hb;clear hr hb ES;go_wp2;go_ret2;exact HF.out
theorem text_APPEND (B:Nat) (v:Value) (L:List KV) (x:KV) (there:Bool) (aa:Option Addr) (ab ao ac:Nat) (T:List ByteArray) (w:World) (h:DbOwn w B v L) (hf:FitsK (L.map KV.key)) (hn:L.length≤500000) (hx:VRd w x.key.val x.vi x.vp x.vr) (hxs:KSml x.key) (ha:zdg w aa ab ao 2 T) (hT:∀i,i<2→(argN T i).size≤200) (hB:B≤w.heap.size):
  Calls Tryz.prog 94 #[v,kvV x,.bool there,.string ⟨#[65,80,80,69,78,68]⟩,.slice aa 2 ac] w (zbd w B (textM .APPEND (L.map KV.key) x.key there T)):=by
 have hx0:=hx;obtain ⟨⟨p1,P1,o1,d1,e1,i1,f1⟩,⟨p2,P2,d2,e2,i2,f2⟩,⟨p3,P3,o3,d3,e3,i3,f3⟩⟩:=hx;obtain ⟨⟨xn,xv,xd⟩,vi,vp,vr⟩:=x;dsimp only at e1 e2 e3 hx0 hxs;subst e1 e2 e3;obtain ⟨W0,hW0,HW0,b0,r0⟩:=boxed w (kC xn xv.kind xv.text (.slice p1 xv.items.length d1) (.slice p2 xv.pairs.length d2) (.slice p3 xv.ranks.length d3) xd) 60;have ES:=es_of h hB b0;have c0:=ha.cell 0 (by omega);rw [←b0.cell (p:=⟨ab,ao+0,none⟩) (ha.low (by omega))] at c0;have s0:=hT 0 (by omega);have c1:=ha.cell 1 (by omega);rw [←b0.cell (p:=⟨ab,ao+1,none⟩) (ha.low (by omega))] at c1;have s1:=hT 1 (by omega);obtain rfl:=ha.addr (by omega);rw [Nat.add_zero] at c0;change W0.cell? _=some (.string (argN T 0)) at c0;change W0.cell? _=some (.string (argN T 1)) at c1;have HI1:=hInt (argN T 1) (by omega);have ht:=hxs.text;dsimp only at ht;have hsz:(xv.text++argN T 1).size=xv.text.size+(argN T 1).size:=ByteArray.size_append;have HSET:Hid (∀W rv,Below w.heap.size w W→zbe W w.heap.size rv (rInt (((xv.text++argN T 1).size:Int)))→Calls Tryz.prog 133 #[v,.agg (kC xn xv.kind (xv.text++argN T 1) (.slice p1 xv.items.length d1) (.slice p2 xv.pairs.length d2) (.slice p3 xv.ranks.length d3) xd),rv] W (fun e w'=>zbd w B (setM (L.map KV.key) ⟨xn,⟨xv.kind,xv.text++argN T 1,xv.items,xv.pairs,xv.ranks⟩,xd⟩ (rInt (((xv.text++argN T 1).size:Int)))) e w'∧Below W.heap.size W w')):=fun W rv hb hr=>by
  have hk:KFit ⟨xn,⟨xv.kind,xv.text++argN T 1,xv.items,xv.pairs,xv.ranks⟩,xd⟩:=⟨⟨by show (xv.text++argN T 1).size≤_;omega,hxs.fit.fit.items,hxs.fit.fit.pairs,hxs.fit.fit.ranks⟩,hxs.fit.name,hxs.fit.items⟩;have hv:VRd W (⟨xv.kind,xv.text++argN T 1,xv.items,xv.pairs,xv.ranks⟩:Vl) (.slice p1 xv.items.length d1) (.slice p2 xv.pairs.length d2) (.slice p3 xv.ranks.length d3):=⟨(hx0.below hb).items,(hx0.below hb).pairs,(hx0.below hb).ranks⟩;exact (set_any B v L ⟨⟨xn,⟨xv.kind,xv.text++argN T 1,xv.items,xv.pairs,xv.ranks⟩,xd⟩,.slice p1 xv.items.length d1,.slice p2 xv.pairs.length d2,.slice p3 xv.ranks.length d3⟩ rv (rInt (((xv.text++argN T 1).size:Int))) W (h.below hb) hf hn hv hk hr (Nat.le_trans hB hb.size) hb.size).mono fun e w' he=>⟨zbs.wide he hb,he.bel⟩
 have HIN:Hid (∀W,Calls Tryz.prog 128 #[.int .i64 ((xv.text++argN T 1).size:Int)] W (zci W (rInt ((xv.text++argN T 1).size:Int)))):=fun W=>int_any _ W;have hlow:ab<w.heap.size:=ha.low (by omega);obtain ⟨y0,y1,y2,y3,y4,y5,y6⟩:=row7 r0;show Calls Tryz.prog 94 #[v,.agg (kC xn xv.kind xv.text (.slice p1 xv.items.length d1) (.slice p2 xv.pairs.length d2) (.slice p3 xv.ranks.length d3) xd),.bool there,.string ⟨#[65,80,80,69,78,68]⟩,.slice (some ⟨ab,ao,none⟩) 2 ac] w (zbd w B (setM (L.map KV.key) ⟨xn,⟨xv.kind,xv.text++argN T 1,xv.items,xv.pairs,xv.ranks⟩,xd⟩ (rInt ((xv.text++argN T 1).size:Int))));clear hf;clear h hx0 hxs ha hT hW0 i1 i2 i3 f1 f2 f3;generalize L.map KV.key=K0 at*;generalize setM K0 ⟨xn,⟨xv.kind,xv.text++argN T 1,xv.items,xv.pairs,xv.ranks⟩,xd⟩ (rInt ((xv.text++argN T 1).size:Int))=SM at*;generalize (zbc (argN T 1)).1=z1 at*;generalize (zbc (argN T 1)).2=ok1 at*;generalize argN T 0=t0 at*;generalize argN T 1=t1 at*;generalize xv.text=tx at*;generalize xv.items.length=n1 at*;generalize xv.pairs.length=n2 at*;generalize xv.ranks.length=n3 at*;generalize xv.kind=kd at*;have hne:ab≠w.heap.size:=by omega
 have r1:RowAt (W0.setCell ⟨w.heap.size,2,none⟩ (.string (tx++t1))) w.heap.size 60 (kC xn kd (tx++t1) (.slice p1 n1 d1) (.slice p2 n2 d2) (.slice p3 n3 d3) xd):=r0.set 2 (.string (tx++t1));have f2:=r0.frozen 2;go_enter Tryz.func94,Tryz.ntmps94;go_upto_region 1 with fail;rw [HW0.out];go_wp2_with fail;refine (HI1.out W0).mono ?_;rintro e w0 ⟨rfl,hw0⟩;subst hw0;go_wp2_with fail;go_region;obtain ⟨wA,hA⟩:∃wA,wA=(w0.setCell ⟨w.heap.size,2,none⟩ (.string (tx++t1))).drew:=⟨_,rfl⟩;have HA:Hid (wA=(w0.setCell ⟨w.heap.size,2,none⟩ (.string (tx++t1))).drew):=hA;have rA:RowAt wA w.heap.size 60 (kC xn kd (tx++t1) (.slice p1 n1 d1) (.slice p2 n2 d2) (.slice p3 n3 d3) xd):=by rw [hA];exact r1
 have bA:Below w.heap.size w wA:=by rw [hA];exact below_drewN (b0.setCell (Nat.le_refl _) _) 1
 rw [←HA.out];obtain ⟨x0,x1,x2,x3,x4,x5,x6⟩:=row7 rA;have hAl:=rA.lt;clear hA HA rA ES;have hnt:(tx++t1).size≤400:=by omega
 clear hsz r1;generalize tx++t1=nt at*;go_upto_region 17 with fail;go_region_held3 (fun W=>W.cell? ⟨w.heap.size,0,none⟩=some (.string xn)∧W.cell? ⟨w.heap.size,1,none⟩=some (.int .i64 kd)∧W.cell? ⟨w.heap.size,2,none⟩=some (.string (nt))∧W.cell? ⟨w.heap.size,3,none⟩=some (.slice p1 n1 d1)∧W.cell? ⟨w.heap.size,4,none⟩=some (.slice p2 n2 d2)∧W.cell? ⟨w.heap.size,5,none⟩=some (.slice p3 n3 d3)∧W.cell? ⟨w.heap.size,6,none⟩=some (.int .i64 xd))
  (first|exact ⟨x0,x1,x2,x3,x4,x5,x6⟩|exact (up7 b1 hAl ⟨x0,x1,x2,x3,x4,x5,x6⟩)|exact (up7 b2 hA2 (up7 b1 hAl ⟨x0,x1,x2,x3,x4,x5,x6⟩)))
  (first
   |(go_at_call 128;refine (HIN.out _).mono ?_;rintro e w1 ⟨r,rfl,hr,b1⟩;have bd:Below wA.heap.size wA w1:=(below_drewN (Below.refl _ wA) 1).trans b1;have hr1:zbe w1 w.heap.size r (rInt ((nt.size:Int))):=hr.le bA.size;have hA2:w.heap.size<w1.heap.size:=Nat.lt_of_lt_of_le hAl bd.size;have bA1:Below w.heap.size w w1:=bA.trans (bd.mono bA.size))
   |(go_at_call 133;refine (HSET.out _ _ bA1 hr1).mono ?_;rintro e w2 ⟨⟨v',r',L',rfl,hm,ho,hrr,hbb⟩,b2⟩;have HF:Hid (zbd w B SM (.returned (.tuple #[v',r'])) w2):=⟨v',r',L',rfl,hm,ho,hrr,hbb⟩;clear hm ho hrr hbb))
 all_goals
  go_wp2;go_ret2;exact HF.out
end Go.Proofs.YtibhabajknikcaaGreatDoor
