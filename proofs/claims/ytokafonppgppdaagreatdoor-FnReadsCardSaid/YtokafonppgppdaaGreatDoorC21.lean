import Derived.Test.YtokafonppgppdaaGreatDoorC18
import Derived.Test.YtokafonppgppdaaGreatDoorC13
import Derived.Test.YtokafonppgppdaaGreatDoorHb
set_option maxHeartbeats 4000000
set_option maxRecDepth 100000
namespace Go.Proofs.YtokafonppgppdaaGreatDoor.Sl
open Tryz
open Go.RowKit
def zbw (n:Int):Bool:=decide (-1000000000000000000<=n/\n<=1000000000000000000)
def front (n p:Int):Int:=if p<0 then n+p else p
def zgp (n f:Int):Int:=if front n f<0 then 0 else front n f
def zkc (n t:Int):Int:=if front n t<n-1 then front n t else n-1
def zbr (n f t:Int):Int×Int:=
 if n<0\/zbw n=false\/zbw f=false\/zbw t=false then (0,0)
 else if zkc n t<zgp n f then (0,0) else (zgp n f,zkc n t+1)
theorem zdk {n:Int} (h:zbw n=true):-1000000000000000000<=n/\n<=1000000000000000000:=Qg h
theorem zck (n a b:Int) (w:World):
  Calls prog 52 #[.int .i64 n,.int .i64 a,.int .i64 b] w fun e w'=>e= .returned (.bool (decide (a<=n/\n<=b)))/\w'=w:=by
 by_cases h1:a<=n
 ·by_cases h2:n<=b;all_goals
   go_enter func52,ntmps52;go_wp2;go_ret;exact ⟨by simp [h1,h2],rfl⟩
 ·go_enter func52,ntmps52;go_wp2;go_ret;exact ⟨by simp;omega,rfl⟩
theorem yki {a b:Int} {c:Int×Int} (h:a=c.1) (h2:b=c.2):Ending.returned (.tuple #[.int .i64 a,.int .i64 b])= .returned (.tuple #[.int .i64 c.1,.int .i64 c.2]):=by rw [h,h2]
theorem zmj (n f t:Int) (w:World):
  Calls prog 146 #[.int .i64 n,.int .i64 f,.int .i64 t] w fun e w'=>e= .returned (.tuple #[.int .i64 (zbr n f t).1,.int .i64 (zbr n f t).2])/\w'=w:=by
 have E1:Hid (zbw f=decide (-1000000000000000000<=f/\f<=1000000000000000000)):=rfl;have E2:Hid (zbw t=decide (-1000000000000000000<=t/\t<=1000000000000000000)):=rfl;by_cases h1:0<=n/\n<=1000000000000000000
 ·have hd1:decide (0<=n/\n<=1000000000000000000)=true:=Qe h1;have hn:zbw n=true:=Qe (by omega);cases h2:zbw f with
  |false=>
   have HE:Hid (zbr n f t=(0,0)):=by unfold Hid zbr;rw [if_pos (.inr (.inr (.inl h2)))]
   rw [E1.out] at h2;go_enter func146,ntmps146;go_wp2_with fail;refine (zck n _ _ w).mono ?_;rintro e w1 ⟨rfl,rfl⟩;rw [hd1];go_wp2_with fail;refine (zck f _ _ w1).mono ?_;rintro e w1 ⟨rfl,rfl⟩;rw [h2];go_wp2;go_ret2;exact ⟨by rw [HE.out];rfl,rfl⟩
  |true=>cases h3:zbw t with
   |false=>
    have HE:Hid (zbr n f t=(0,0)):=by unfold Hid zbr;rw [if_pos (.inr (.inr (.inr h3)))]
    rw [E1.out] at h2;rw [E2.out] at h3;go_enter func146,ntmps146;go_wp2_with fail;refine (zck n _ _ w).mono ?_;rintro e w1 ⟨rfl,rfl⟩;rw [hd1];go_wp2_with fail;refine (zck f _ _ w1).mono ?_;rintro e w1 ⟨rfl,rfl⟩;rw [h2];go_wp2_with fail;refine (zck t _ _ w1).mono ?_;rintro e w1 ⟨rfl,rfl⟩;rw [h3];go_wp2;go_ret2;exact ⟨by rw [HE.out];rfl,rfl⟩
   |true=>
    obtain ⟨f1,f2⟩:=zdk h2;obtain ⟨t1,t2⟩:=zdk h3;have HE:Hid (zbr n f t=if zkc n t<zgp n f then (0,0) else (zgp n f,zkc n t+1)):=by
     unfold Hid zbr;rw [if_neg (by simp [hn,h2,h3];omega)]
    rw [E1.out] at h2;rw [E2.out] at h3;have FE:Hid (zgp n f=if (if f<0 then n+f else f)<0 then 0 else if f<0 then n+f else f):=rfl;have LE:Hid (zkc n t=if (if t<0 then n+t else t)<n-1 then (if t<0 then n+t else t) else n-1):=rfl;go_enter func146,ntmps146;go_wp2_with fail;refine (zck n _ _ w).mono ?_;rintro e w1 ⟨rfl,rfl⟩;rw [hd1];go_wp2_with fail;refine (zck f _ _ w1).mono ?_;rintro e w1 ⟨rfl,rfl⟩;rw [h2];go_wp2_with fail;refine (zck t _ _ w1).mono ?_;rintro e w1 ⟨rfl,rfl⟩;rw [h3];go_wp2;all_goals
     go_ret2;refine ⟨yki ?_ ?_,rfl⟩;all_goals
      rw [HE.out,FE.out,LE.out];repeat' split
      all_goals first|rfl|omega
 ·have hd1:decide (0<=n/\n<=1000000000000000000)=false:=Qf h1;have HE:Hid (zbr n f t=(0,0)):=by
   unfold Hid zbr
   rw [if_pos (by
    by_cases h:n<0
    ·exact .inl h
    ·exact .inr (.inl (Qf (by omega))))]
  go_enter func146,ntmps146;go_wp2_with fail;refine (zck n _ _ w).mono ?_;rintro e w1 ⟨rfl,rfl⟩;rw [hd1];go_wp2;go_ret2;exact ⟨by rw [HE.out];rfl,rfl⟩
end Go.Proofs.YtokafonppgppdaaGreatDoor.Sl
namespace Go.Proofs.YtokafonppgppdaaGreatDoor
open Tryz
open Go.RowKit Go.Sort
open Kk (Rk rk0 zd7 zju zc6 zea zeb zec za9 zbk encR zdh zbz str_eq)
variable {w W w':World} {B:Nat} {e:Ending}
def zdc:ByteArray:=⟨#[110,111,116,32,97,110,32,105,110,116,101,103,101,114]⟩
def ze4:ByteArray:=⟨#[111,117,116,32,111,102,32,114,97,110,103,101]⟩
def Ke.withText (k:Ke) (t:ByteArray):Ke:=⟨k.name,⟨k.val.kind,t,k.val.ia,k.val.pj,k.val.rq⟩,k.due⟩
def zbc (s:ByteArray):Int×Bool:=zeq s.data.toList
abbrev zaj (T:List ByteArray) (i:Nat):ByteArray:=T.getD i ByteArray.empty
def zho (t:ByteArray) (f l:Int):ByteArray:=t.extract (Sl.zbr t.size f l).1.toNat (Sl.zbr t.size f l).2.toNat
def zk5 (t:ByteArray) (there:Bool):Int×Bool:=if there=true then zbc t else (0,true)
def zhk (c:Cm) (ks:List Ke) (k:Ke) (there:Bool) (T:List ByteArray):List Ke×List Rp:=match c with
 |5=> (ks,if there=true then zax k.val.text else zbm)
 |6=> (ks,zam k.val.text.size)
 |23=>if ((zbc (zaj T 2)).2&&(zbc (zaj T 1)).2)=true then (ks,zax (zho k.val.text (zbc (zaj T 1)).1 (zbc (zaj T 2)).1)) else (ks,zcb zdc)
 |18=>za1 ks (k.withText (k.val.text++zaj T 1)) (zam (k.val.text++zaj T 1).size)
 |_=>
  if ((zbc (zaj T 1)).2&&(zk5 k.val.text there).2)=true then
   (if Sl.zbw ((zk5 k.val.text there).1+(zbc (zaj T 1)).1)=true then
    za1 ks (k.withText (zc6 ((zk5 k.val.text there).1+(zbc (zaj T 1)).1))) (zam ((zk5 k.val.text there).1+(zbc (zaj T 1)).1))
   else (ks,zcb ze4))
  else (ks,zcb zdc)
theorem zic (n:Nat) (f t:Int):∃i j:Nat,Sl.zbr n f t=((i:Int),(j:Int))/\i<=j/\j<=n:=by
 unfold Sl.zbr;split
 ·exact ⟨0,0,rfl,by omega,by omega⟩
 ·split
  ·exact ⟨0,0,rfl,by omega,by omega⟩
  ·rename_i h1 h2;have hf:0<=Sl.zgp n f:=by unfold Sl.zgp;split<;>omega
   have hl:Sl.zkc n t<=(n:Int)-1:=by unfold Sl.zkc;split<;>omega
   exact ⟨(Sl.zgp n f).toNat,(Sl.zkc n t+1).toNat,by rw [Int.toNat_of_nonneg hf,Int.toNat_of_nonneg (by omega)],by omega,by omega⟩
theorem zgi (s:ByteArray) (hs:s.size<=1048576) (W:World):Calls prog 65 #[.string s] W fun e w'=>e= .returned (.tuple #[.int .i64 (zbc s).1,.bool (zbc s).2])/\w'=W:=zyf s W hs
theorem hIN:Hid (∀W z,Cp 141 #[.int .i64 z] W (zci W (zam z))):=fun W z=>zjb z W
theorem hER:Hid (∀W,Cp 98 #[.string ⟨#[110,111,116,32,97,110,32,105,110,116,101,103,101,114]⟩] W (zci W (zcb zdc))):=fun W=>zdf zdc (by decide) W
theorem hNL:Hid (∀W,Cp 145 #[] W (zci W zbm)):=fun W=>ydl W
theorem hBK:Hid (∀W s,Cp 140 #[.string s] W (zci W (zax s))):=fun W s=>ziy s W
theorem ycd (s:ByteArray) (hs:s.size<=1048576):Hid (∀W,Cp 65 #[.string s] W fun e w'=>e= .returned (.tuple #[.int .i64 (zbc s).1,.bool (zbc s).2])/\w'=W):=fun W=>zgi s hs W
theorem yg1 (l:List UInt8) (h:(zeq l).2=true):-1000000000000000000<=(zeq l).1/\(zeq l).1<=1000000000000000000:=by
 revert h;unfold zeq;split
 ·intro h;cases h
 ·split
  ·intro h;cases h
  ·intro h;exact Qg h
theorem zer (s:ByteArray):-1000000000000000000<=(zbc s).1/\(zbc s).1<=1000000000000000000\/(zbc s).2=false:=by
 by_cases h:(zbc s).2=true
 ·refine .inl ?_;have:=yg1 s.data.toList h;exact this
 ·exact .inr (by simpa using h)
structure zf8 (k:Ke):Prop where
 name:k.name.size<=200
 text:k.val.text.size<=200
 ni:k.val.ia.length<=20
 np:k.val.pj.length<=20
 nr:k.val.rq.length<=20
 ia:∀t∈k.val.ia,t.size<=200
 pj:∀p∈k.val.pj,p.1.size<=200/\p.2.size<=200
 rq:∀r∈k.val.rq,r.m.size<=200/\-1000000000000000000<=r.s/\r.s<=1000000000000000000
 kind:0<=k.val.kind/\k.val.kind<=4
 due:0<=k.due/\k.due<=1000000000
theorem zf8.fit {k:Ke} (h:zf8 k):zo7 k:=⟨⟨by have:=h.text;omega,by have:=h.ni;omega,by have:=h.np;omega,by have:=h.nr;omega⟩,by have:=h.name;omega,fun t ht=>by have:=h.ia t ht;omega⟩
theorem zbd.wide {p:List Ke×List Rp} (h:zbd W B p e w') (hb:Bl w W):zbd w B p e w':=by
 obtain ⟨v,r,L,h1,h2,h3,h4,h5⟩:=h;exact ⟨v,r,L,h1,h2,h3,h4.le hb.size,hb.trans (h5.mono hb.size)⟩
theorem zbs.bel {Br:Nat} {p:List Ke×List Rp} (h:zbs w B Br p e w'):Bl w w':=by
 obtain ⟨_,_,_,_,_,_,_,h5⟩:=h;exact h5
theorem zbs.wide {p:List Ke×List Rp} (h:zbs W B w.heap.size p e w') (hb:Bl w W):zbd w B p e w':=by
 obtain ⟨v,r,L,h1,h2,h3,h4,h5⟩:=h;exact ⟨v,r,L,h1,h2,h3,h4,hb.trans (h5.mono hb.size)⟩
section
variable (B:Nat) (v:Value) (L:List KV) (x:KV) (there:Bool) (aa:Option Addr) (ab ao ac:Nat) (T:List ByteArray) (w:World)
theorem yee (h:zaw w B v L) (hx:VRd w x.key.val x.vi x.vp x.vr) (hxs:zf8 x.key) (ha:zdg w aa ab ao 1 T) (hT:∀i,i<1->(zaj T i).size<=200) (hB:B<=w.heap.size):
  Calls prog 104 #[v,kvV x,.bool there,.string ⟨#[71,69,84]⟩,.slice aa 1 ac] w (zbd w B (zhk .GET (L.map KV.key) x.key there T)):=by
 have hx0:=hx;obtain ⟨⟨p1,P1,o1,d1,e1,i1,f1⟩,⟨p2,P2,d2,e2,i2,f2⟩,⟨p3,P3,o3,d3,e3,i3,f3⟩⟩:=hx;obtain ⟨⟨xn,xv,xd⟩,vi,vp,vr⟩:=x;dsimp only at e1 e2 e3 hx0 hxs;subst e1 e2 e3;obtain ⟨W0,hW0,HW0,b0,r0⟩:=boxed w (kC xn xv.kind xv.text (.slice p1 xv.ia.length d1) (.slice p2 xv.pj.length d2) (.slice p3 xv.rq.length d3) xd) 47;have ES:=zeg h hB b0;have c0:=ha.cell 0 (by omega);rw [<-b0.cell (p:=⟨ab,ao+0,none⟩) (ha.low (by omega))] at c0;have s0:=hT 0 (by omega);obtain rfl:=ha.addr (by omega);rw [Qy] at c0;change W0.cell? _=some (.string (zaj T 0)) at c0;have HI0:Hid (∀W,Cp 65 #[.string (zaj T 0)] W fun e w'=>e= .returned (.tuple #[.int .i64 (zbc (zaj T 0)).1,.bool (zbc (zaj T 0)).2])/\w'=W):=fun W=>zgi _ (by omega) W;have HN:=hNL;have HBk:Hid (∀W,Cp 140 #[.string xv.text] W (zci W (zax xv.text))):=fun W=>ziy _ W;obtain ⟨y0,y1,y2,y3,y4,y5,y6⟩:=zdo r0;show Calls prog 104 #[v,.agg (kC xn xv.kind xv.text (.slice p1 xv.ia.length d1) (.slice p2 xv.pj.length d2) (.slice p3 xv.rq.length d3) xd),.bool there,.string ⟨#[71,69,84]⟩,.slice (some ⟨ab,ao,none⟩) 1 ac] w (zbd w B (L.map KV.key,if there=true then zax xv.text else zbm));clear h hx0 hxs ha hT hW0 i1 i2 i3 f1 f2 f3;generalize L.map KV.key=K0,(zbc (zaj T 0)).1=z0,(zbc (zaj T 0)).2=ok0 at*;generalize zaj T 0=t0,xv.text=tx,xv.ia.length=n1,xv.pj.length=n2,xv.rq.length=n3,xv.kind=kd at*;cases there with
 |false=>
  show Calls prog 104 #[v,.agg (kC xn kd tx (.slice p1 n1 d1) (.slice p2 n2 d2) (.slice p3 n3 d3) xd),.bool false,.string ⟨#[71,69,84]⟩,.slice (some ⟨ab,ao,none⟩) 1 ac] w (zbd w B (K0,zbm));go_enter func104,ntmps104;go_upto_region 1 with fail;rw [HW0.out];go_wp2_with fail;refine (HI0.out W0).mono ?_;rintro e w0 ⟨rfl,hw0⟩;subst hw0;go_wp2_with fail;refine (HN.out _).mono ?_;rintro e w1 ⟨r,rfl,hr,hb⟩;have HF:Hid _:=ES.out zbm r w0 w1 (Qb _ _) hr hb;clear hr hb ES;go_wp2;go_ret2;exact HF.out
 |true=>
  show Calls prog 104 #[v,.agg (kC xn kd tx (.slice p1 n1 d1) (.slice p2 n2 d2) (.slice p3 n3 d3) xd),.bool true,.string ⟨#[71,69,84]⟩,.slice (some ⟨ab,ao,none⟩) 1 ac] w (zbd w B (K0,zax tx));go_enter func104,ntmps104;go_upto_region 1 with fail;rw [HW0.out];go_wp2_with fail;refine (HI0.out W0).mono ?_;rintro e w0 ⟨rfl,hw0⟩;subst hw0;go_wp2_with fail;refine (HBk.out _).mono ?_;rintro e w1 ⟨r,rfl,hr,hb⟩;have HF:Hid _:=ES.out (zax tx) r w0 w1 (Qb _ _) hr hb;clear hr hb ES;go_wp2;go_ret2;exact HF.out
theorem zt1 (h:zaw w B v L) (hx:VRd w x.key.val x.vi x.vp x.vr) (hxs:zf8 x.key) (ha:zdg w aa ab ao 1 T) (hT:∀i,i<1->(zaj T i).size<=200) (hB:B<=w.heap.size):
  Calls prog 104 #[v,kvV x,.bool there,.string ⟨#[83,84,82,76,69,78]⟩,.slice aa 1 ac] w (zbd w B (zhk .STRLEN (L.map KV.key) x.key there T)):=by
 have hx0:=hx;obtain ⟨⟨p1,P1,o1,d1,e1,i1,f1⟩,⟨p2,P2,d2,e2,i2,f2⟩,⟨p3,P3,o3,d3,e3,i3,f3⟩⟩:=hx;obtain ⟨⟨xn,xv,xd⟩,vi,vp,vr⟩:=x;dsimp only at e1 e2 e3 hx0 hxs;subst e1 e2 e3;obtain ⟨W0,hW0,HW0,b0,r0⟩:=boxed w (kC xn xv.kind xv.text (.slice p1 xv.ia.length d1) (.slice p2 xv.pj.length d2) (.slice p3 xv.rq.length d3) xd) 47;have ES:=zeg h hB b0;have c0:=ha.cell 0 (by omega);rw [<-b0.cell (p:=⟨ab,ao+0,none⟩) (ha.low (by omega))] at c0;have s0:=hT 0 (by omega);obtain rfl:=ha.addr (by omega);rw [Qy] at c0;change W0.cell? _=some (.string (zaj T 0)) at c0;have HI0:Hid (∀W,Cp 65 #[.string (zaj T 0)] W fun e w'=>e= .returned (.tuple #[.int .i64 (zbc (zaj T 0)).1,.bool (zbc (zaj T 0)).2])/\w'=W):=fun W=>zgi _ (by omega) W;have HS:Hid (∀W,Cp 141 #[.int .i64 (xv.text.size:Int)] W (zci W (zam (xv.text.size:Int)))):=fun W=>zjb _ W;have ht:=hxs.text;obtain ⟨y0,y1,y2,y3,y4,y5,y6⟩:=zdo r0;show Calls prog 104 #[v,.agg (kC xn xv.kind xv.text (.slice p1 xv.ia.length d1) (.slice p2 xv.pj.length d2) (.slice p3 xv.rq.length d3) xd),.bool there,.string ⟨#[83,84,82,76,69,78]⟩,.slice (some ⟨ab,ao,none⟩) 1 ac] w (zbd w B (L.map KV.key,zam (xv.text.size:Int)));clear h hx0 hxs ha hT hW0 i1 i2 i3 f1 f2 f3;generalize L.map KV.key=K0,(zbc (zaj T 0)).1=z0,(zbc (zaj T 0)).2=ok0 at*;generalize zaj T 0=t0 at*;dsimp only at ht;generalize xv.text=tx,xv.ia.length=n1,xv.pj.length=n2,xv.rq.length=n3,xv.kind=kd at*;go_enter func104,ntmps104;go_upto_region 1 with fail;rw [HW0.out];go_wp2_with fail;refine (HI0.out W0).mono ?_;rintro e w0 ⟨rfl,hw0⟩;subst hw0;go_wp2_with fail;refine (HS.out _).mono ?_;rintro e w1 ⟨r,rfl,hr,hb⟩;have HF:Hid _:=ES.out (zam (tx.size:Int)) r w0 w1 (Qb _ _) hr hb;clear hr hb ES;go_wp2;go_ret2;exact HF.out
theorem zo0 (h:zaw w B v L) (hx:VRd w x.key.val x.vi x.vp x.vr) (hxs:zf8 x.key) (ha:zdg w aa ab ao 3 T) (hT:∀i,i<3->(zaj T i).size<=200) (hB:B<=w.heap.size):
  Calls prog 104 #[v,kvV x,.bool there,.string ⟨#[71,69,84,82,65,78,71,69]⟩,.slice aa 3 ac] w (zbd w B (zhk .GETRANGE (L.map KV.key) x.key there T)):=by
 have hx0:=hx;obtain ⟨⟨p1,P1,o1,d1,e1,i1,f1⟩,⟨p2,P2,d2,e2,i2,f2⟩,⟨p3,P3,o3,d3,e3,i3,f3⟩⟩:=hx;obtain ⟨⟨xn,xv,xd⟩,vi,vp,vr⟩:=x;dsimp only at e1 e2 e3 hx0 hxs;subst e1 e2 e3;obtain ⟨W0,hW0,HW0,b0,r0⟩:=boxed w (kC xn xv.kind xv.text (.slice p1 xv.ia.length d1) (.slice p2 xv.pj.length d2) (.slice p3 xv.rq.length d3) xd) 47;have ES:=zeg h hB b0;have c0:=ha.cell 0 (by omega);rw [<-b0.cell (p:=⟨ab,ao+0,none⟩) (ha.low (by omega))] at c0;have s0:=hT 0 (by omega);have c1:=ha.cell 1 (by omega);rw [<-b0.cell (p:=⟨ab,ao+1,none⟩) (ha.low (by omega))] at c1;have s1:=hT 1 (by omega);have c2:=ha.cell 2 (by omega);rw [<-b0.cell (p:=⟨ab,ao+2,none⟩) (ha.low (by omega))] at c2;have s2:=hT 2 (by omega);obtain rfl:=ha.addr (by omega);rw [Qy] at c0;change W0.cell? _=some (.string (zaj T 0)) at c0;change W0.cell? _=some (.string (zaj T 1)) at c1;change W0.cell? _=some (.string (zaj T 2)) at c2;have HI2:=ycd (zaj T 2) (by omega);have HI1:=ycd (zaj T 1) (by omega);have HER:=hER;have ht:=hxs.text;dsimp only at ht;obtain ⟨y0,y1,y2,y3,y4,y5,y6⟩:=zdo r0;obtain ⟨i,j,hij,hi1,hi2⟩:=zic xv.text.size (zbc (zaj T 1)).1 (zbc (zaj T 2)).1;have HSL:Hid (∀W,Cp 146 #[.int .i64 (xv.text.size:Int),.int .i64 (zbc (zaj T 1)).1,.int .i64 (zbc (zaj T 2)).1] W fun e w'=>e= .returned (.tuple #[.int .i64 (i:Int),.int .i64 (j:Int)])/\w'=W):=fun W=>by
  have:=Sl.zmj xv.text.size (zbc (zaj T 1)).1 (zbc (zaj T 2)).1 W;rw [hij] at this;exact this
 have HRM:Hid (zho xv.text (zbc (zaj T 1)).1 (zbc (zaj T 2)).1=xv.text.extract i j):=by
  unfold Hid zho;rw [hij];rfl
 have HBk:Hid (∀W,Cp 140 #[.string (xv.text.extract i j)] W (zci W (zax (xv.text.extract i j)))):=fun W=>ziy _ W;show Calls prog 104 #[v,.agg (kC xn xv.kind xv.text (.slice p1 xv.ia.length d1) (.slice p2 xv.pj.length d2) (.slice p3 xv.rq.length d3) xd),.bool there,.string ⟨#[71,69,84,82,65,78,71,69]⟩,.slice (some ⟨ab,ao,none⟩) 3 ac] w (zbd w B (if ((zbc (zaj T 2)).2&&(zbc (zaj T 1)).2)=true then (L.map KV.key,zax (zho xv.text (zbc (zaj T 1)).1 (zbc (zaj T 2)).1)) else (L.map KV.key,zcb zdc)));rw [HRM.out];clear HRM hij;clear h hx0 hxs ha hT hW0 i1 i2 i3 f1 f2 f3;generalize L.map KV.key=K0,(zbc (zaj T 2)).1=z2,(zbc (zaj T 2)).2=ok2,(zbc (zaj T 1)).1=z1,(zbc (zaj T 1)).2=ok1,zaj T 0=t0 at*;generalize zaj T 1=t1,zaj T 2=t2,xv.text=tx,xv.ia.length=n1,xv.pj.length=n2,xv.rq.length=n3,xv.kind=kd at*;cases ok2 with
 |false=>
  show Calls prog 104 #[v,.agg (kC xn kd tx (.slice p1 n1 d1) (.slice p2 n2 d2) (.slice p3 n3 d3) xd),.bool there,.string ⟨#[71,69,84,82,65,78,71,69]⟩,.slice (some ⟨ab,ao,none⟩) 3 ac] w (zbd w B (K0,zcb zdc));go_enter func104,ntmps104;go_upto_region 1 with fail;rw [HW0.out];go_wp2_with fail;refine (HI2.out W0).mono ?_;rintro e w0 ⟨rfl,hw0⟩;subst hw0;go_wp2_with fail;refine (HI1.out w0).mono ?_;rintro e w0' ⟨rfl,hw0'⟩;subst hw0';go_wp2_with fail;refine (HER.out _).mono ?_;rintro e w1 ⟨r,rfl,hr,hb⟩;have HF:Hid _:=ES.out (zcb zdc) r w0' w1 (Qb _ _) hr hb;clear hr hb ES;go_wp2;go_ret2;exact HF.out
 |true=>
  cases ok1 with
  |false=>
   show Calls prog 104 #[v,.agg (kC xn kd tx (.slice p1 n1 d1) (.slice p2 n2 d2) (.slice p3 n3 d3) xd),.bool there,.string ⟨#[71,69,84,82,65,78,71,69]⟩,.slice (some ⟨ab,ao,none⟩) 3 ac] w (zbd w B (K0,zcb zdc));go_enter func104,ntmps104;go_upto_region 1 with fail;rw [HW0.out];go_wp2_with fail;refine (HI2.out W0).mono ?_;rintro e w0 ⟨rfl,hw0⟩;subst hw0;go_wp2_with fail;refine (HI1.out w0).mono ?_;rintro e w0' ⟨rfl,hw0'⟩;subst hw0';go_wp2_with fail;refine (HER.out _).mono ?_;rintro e w1 ⟨r,rfl,hr,hb⟩;have HF:Hid _:=ES.out (zcb zdc) r w0' w1 (Qb _ _) hr hb;clear hr hb ES;go_wp2;go_ret2;exact HF.out
  |true=>
   show Calls prog 104 #[v,.agg (kC xn kd tx (.slice p1 n1 d1) (.slice p2 n2 d2) (.slice p3 n3 d3) xd),.bool there,.string ⟨#[71,69,84,82,65,78,71,69]⟩,.slice (some ⟨ab,ao,none⟩) 3 ac] w (zbd w B (K0,zax (tx.extract i j)));go_enter func104,ntmps104;go_upto_region 1 with fail;rw [HW0.out];go_wp2_with fail;refine (HI2.out W0).mono ?_;rintro e w0 ⟨rfl,hw0⟩;subst hw0;go_wp2_with fail;refine (HI1.out w0).mono ?_;rintro e w0' ⟨rfl,hw0'⟩;subst hw0';go_wp2_with fail;refine (HSL.out w0').mono ?_;rintro e w3 ⟨rfl,hw3⟩;subst hw3;go_wp2_with fail;refine (HBk.out _).mono ?_;rintro e w1 ⟨r,rfl,hr,hb⟩;have HF:Hid _:=ES.out (zax (tx.extract i j)) r w3 w1 (Qb _ _) hr hb;clear hr hb ES;go_wp2;go_ret2;exact HF.out
theorem ztd (h:zaw w B v L) (hf:zda (L.map KV.key)) (hn:L.length<=500000) (hx:VRd w x.key.val x.vi x.vp x.vr) (hxs:zf8 x.key) (ha:zdg w aa ab ao 2 T) (hT:∀i,i<2->(zaj T i).size<=200) (hB:B<=w.heap.size):
  Calls prog 104 #[v,kvV x,.bool there,.string ⟨#[65,80,80,69,78,68]⟩,.slice aa 2 ac] w (zbd w B (zhk .APPEND (L.map KV.key) x.key there T)):=by
 have hx0:=hx;obtain ⟨⟨p1,P1,o1,d1,e1,i1,f1⟩,⟨p2,P2,d2,e2,i2,f2⟩,⟨p3,P3,o3,d3,e3,i3,f3⟩⟩:=hx;obtain ⟨⟨xn,xv,xd⟩,vi,vp,vr⟩:=x;dsimp only at e1 e2 e3 hx0 hxs;subst e1 e2 e3;obtain ⟨W0,hW0,HW0,b0,r0⟩:=boxed w (kC xn xv.kind xv.text (.slice p1 xv.ia.length d1) (.slice p2 xv.pj.length d2) (.slice p3 xv.rq.length d3) xd) 47;have ES:=zeg h hB b0;have c0:=ha.cell 0 (by omega);rw [<-b0.cell (p:=⟨ab,ao+0,none⟩) (ha.low (by omega))] at c0;have s0:=hT 0 (by omega);have c1:=ha.cell 1 (by omega);rw [<-b0.cell (p:=⟨ab,ao+1,none⟩) (ha.low (by omega))] at c1;have s1:=hT 1 (by omega);obtain rfl:=ha.addr (by omega);rw [Qy] at c0;change W0.cell? _=some (.string (zaj T 0)) at c0;change W0.cell? _=some (.string (zaj T 1)) at c1;have HI1:=ycd (zaj T 1) (by omega);have ht:=hxs.text;dsimp only at ht;have hsz:(xv.text++zaj T 1).size=xv.text.size+(zaj T 1).size:=ByteArray.size_append;have HSET:Hid (∀W rv,Bl w W->zbe W w.heap.size rv (zam (((xv.text++zaj T 1).size:Int)))->Cp 147 #[v,.agg (kC xn xv.kind (xv.text++zaj T 1) (.slice p1 xv.ia.length d1) (.slice p2 xv.pj.length d2) (.slice p3 xv.rq.length d3) xd),rv] W (fun e w'=>zbd w B (za1 (L.map KV.key) ⟨xn,⟨xv.kind,xv.text++zaj T 1,xv.ia,xv.pj,xv.rq⟩,xd⟩ (zam (((xv.text++zaj T 1).size:Int)))) e w'/\Bl W w')):=fun W rv hb hr=>by
  have hk:zo7 ⟨xn,⟨xv.kind,xv.text++zaj T 1,xv.ia,xv.pj,xv.rq⟩,xd⟩:=⟨⟨by show (xv.text++zaj T 1).size<=_;omega,hxs.fit.fit.ia,hxs.fit.fit.pj,hxs.fit.fit.rq⟩,hxs.fit.name,hxs.fit.ia⟩;have hv:VRd W (⟨xv.kind,xv.text++zaj T 1,xv.ia,xv.pj,xv.rq⟩:Vl) (.slice p1 xv.ia.length d1) (.slice p2 xv.pj.length d2) (.slice p3 xv.rq.length d3):=⟨(hx0.bw hb).ia,(hx0.bw hb).pj,(hx0.bw hb).rq⟩;exact (zel B v L ⟨⟨xn,⟨xv.kind,xv.text++zaj T 1,xv.ia,xv.pj,xv.rq⟩,xd⟩,.slice p1 xv.ia.length d1,.slice p2 xv.pj.length d2,.slice p3 xv.rq.length d3⟩ rv (zam (((xv.text++zaj T 1).size:Int))) W (h.bw hb) hf hn hv hk hr (Qj hB hb.size) hb.size).mono fun e w' he=>⟨zbs.wide he hb,he.bel⟩
 have HIN:Hid (∀W,Cp 141 #[.int .i64 ((xv.text++zaj T 1).size:Int)] W (zci W (zam ((xv.text++zaj T 1).size:Int)))):=fun W=>zjb _ W;have hlow:ab<w.heap.size:=ha.low (by omega);obtain ⟨y0,y1,y2,y3,y4,y5,y6⟩:=zdo r0;show Calls prog 104 #[v,.agg (kC xn xv.kind xv.text (.slice p1 xv.ia.length d1) (.slice p2 xv.pj.length d2) (.slice p3 xv.rq.length d3) xd),.bool there,.string ⟨#[65,80,80,69,78,68]⟩,.slice (some ⟨ab,ao,none⟩) 2 ac] w (zbd w B (za1 (L.map KV.key) ⟨xn,⟨xv.kind,xv.text++zaj T 1,xv.ia,xv.pj,xv.rq⟩,xd⟩ (zam ((xv.text++zaj T 1).size:Int))));clear hf;clear h hx0 hxs ha hT hW0 i1 i2 i3 f1 f2 f3;generalize L.map KV.key=K0 at*;generalize za1 K0 ⟨xn,⟨xv.kind,xv.text++zaj T 1,xv.ia,xv.pj,xv.rq⟩,xd⟩ (zam ((xv.text++zaj T 1).size:Int))=SM,(zbc (zaj T 1)).1=z1,(zbc (zaj T 1)).2=ok1,zaj T 0=t0 at*;generalize zaj T 1=t1,xv.text=tx,xv.ia.length=n1,xv.pj.length=n2,xv.rq.length=n3,xv.kind=kd at*;have hne:ab≠w.heap.size:=by omega
 have r1:zab (W0.setCell ⟨w.heap.size,2,none⟩ (.string (tx++t1))) w.heap.size 47 (kC xn kd (tx++t1) (.slice p1 n1 d1) (.slice p2 n2 d2) (.slice p3 n3 d3) xd):=r0.set 2 (.string (tx++t1));have f2:=r0.frozen 2;go_enter func104,ntmps104;go_upto_region 1 with fail;rw [HW0.out];go_wp2_with fail;refine (HI1.out W0).mono ?_;rintro e w0 ⟨rfl,hw0⟩;subst hw0;go_wp2_with fail;go_region;obtain ⟨wA,hA⟩:∃wA,wA=(w0.setCell ⟨w.heap.size,2,none⟩ (.string (tx++t1))).drew:=⟨_,rfl⟩;have HA:Hid (wA=(w0.setCell ⟨w.heap.size,2,none⟩ (.string (tx++t1))).drew):=hA;have rA:zab wA w.heap.size 47 (kC xn kd (tx++t1) (.slice p1 n1 d1) (.slice p2 n2 d2) (.slice p3 n3 d3) xd):=by rw [hA];exact r1
 have bA:Bl w wA:=by rw [hA];exact below_drewN (b0.setCell (Qc _) _) 1
 rw [<-HA.out];obtain ⟨x0,x1,x2,x3,x4,x5,x6⟩:=zdo rA;have hAl:=rA.lt;clear hA HA rA ES;have hnt:(tx++t1).size<=400:=by omega
 clear hsz r1;generalize tx++t1=nt at*;go_upto_region 17 with fail;go_region_held3 (fun W=>W.cell? ⟨w.heap.size,0,none⟩=some (.string xn)/\W.cell? ⟨w.heap.size,1,none⟩=some (.int .i64 kd)/\W.cell? ⟨w.heap.size,2,none⟩=some (.string (nt))/\W.cell? ⟨w.heap.size,3,none⟩=some (.slice p1 n1 d1)/\W.cell? ⟨w.heap.size,4,none⟩=some (.slice p2 n2 d2)/\W.cell? ⟨w.heap.size,5,none⟩=some (.slice p3 n3 d3)/\W.cell? ⟨w.heap.size,6,none⟩=some (.int .i64 xd))
  (first|exact ⟨x0,x1,x2,x3,x4,x5,x6⟩|exact (up7 b1 hAl ⟨x0,x1,x2,x3,x4,x5,x6⟩)|exact (up7 b2 hA2 (up7 b1 hAl ⟨x0,x1,x2,x3,x4,x5,x6⟩)))
  (first
   |(go_at_call 141;refine (HIN.out _).mono ?_;rintro e w1 ⟨r,rfl,hr,b1⟩;have bd:Bl wA w1:=(below_drewN (Qb _ wA) 1).trans b1;have hr1:zbe w1 w.heap.size r (zam ((nt.size:Int))):=hr.le bA.size;have hA2:w.heap.size<w1.heap.size:=Qr hAl bd.size;have bA1:Bl w w1:=bA.trans (bd.mono bA.size))
   |(go_at_call 147;refine (HSET.out _ _ bA1 hr1).mono ?_;rintro e w2 ⟨⟨v',r',L',rfl,hm,ho,hrr,hbb⟩,b2⟩;have HF:Hid (zbd w B SM (.returned (.tuple #[v',r'])) w2):=⟨v',r',L',rfl,hm,ho,hrr,hbb⟩;clear hm ho hrr hbb))
 all_goals
  go_wp2;go_ret2;exact HF.out
end
end Go.Proofs.YtokafonppgppdaaGreatDoor
