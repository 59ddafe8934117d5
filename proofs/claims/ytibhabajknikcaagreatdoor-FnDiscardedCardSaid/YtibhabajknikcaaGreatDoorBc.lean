import Derived.Test.YtibhabajknikcaaGreatDoorHp1
import Derived.Test.YtibhabajknikcaaGreatDoorWa
import Derived.Test.YtibhabajknikcaaGreatDoorHOpenC
import Derived.Laws.IdiomStrings
import Derived.Lib.QuietBelow
import Derived.Laws.StructEq
import Derived.Deep.RegionHeld3
set_option maxHeartbeats 8000000
set_option maxRecDepth 100000
namespace Go.Proofs.YtibhabajknikcaaGreatDoor.Kk
open Go.RowKit Go.Sort
theorem grown_refl (w:World) (r:Option Nat):w.grownBy w r:=⟨rfl,rfl,rfl,Nat.le_refl _,fun _ _ _=>rfl⟩
theorem zcc {w w1 w2:World} {r:Option Nat} (h:w.grownBy w1 r) (hb:Below w1.heap.size w1 w2):w.grownBy w2 r:=
 ⟨hb.os.trans h.os,hb.tape.trans h.tape,hb.output.trans h.output,Nat.le_trans h.size hb.size,fun k hk hne=> (hb.block k (by have:=h.size;omega)).trans (h.block k hk hne)⟩
theorem zah {w w1 w2:World} {r:Option Nat} (h:w.grownBy w1 r) (h2:w1.grownBy w2 r):w.grownBy w2 r:=
 ⟨h2.os.trans h.os,h2.tape.trans h.tape,h2.output.trans h.output,Nat.le_trans h.size h2.size,fun k hk hne=> (h2.block k (by have:=h.size;omega) hne).trans (h.block k hk hne)⟩
end Go.Proofs.YtibhabajknikcaaGreatDoor.Kk
namespace Go.Proofs.YtibhabajknikcaaGreatDoor
open Go.RowKit Go.Sort
open Kk (Rk rk0 texL texR decS zea zeb zec OwnR flatR encR)
theorem ret_int {a b:Int} (h:a=b):Ending.returned (.int .i64 a)= .returned (.int .i64 b):=by rw [h]
theorem flatPV_len:∀ps:List Pr,(flatPV ps).length=ps.length*2
 | []=>rfl
 |p::ps=>by
  have e:flatPV (p::ps)= .string p.1:: .string p.2::flatPV ps:=rfl;rw [e,List.length_cons,List.length_cons,flatPV_len ps,List.length_cons];omega
end Go.Proofs.YtibhabajknikcaaGreatDoor
namespace Go.Proofs.YtibhabajknikcaaGreatDoor
open Go.RowKit Go.Sort
open Kk (Rk rk0 texL texR decS zea zeb zec OwnR flatR encR zdh)
structure VAt (w:World) (v:Vl) (vi vp vr:Value):Prop where
 items:∃a A c,vi= .slice a v.items.length c∧zdg w a A 0 v.items.length v.items
 pairs:∃a A c,vp= .slice a v.pairs.length c∧PairsIn w a A v.pairs.length v.pairs
 ranks:∃a A c,vr= .slice a v.ranks.length c∧zdh w a A 0 v.ranks.length v.ranks
theorem VOwn.at {w:World} {B:Nat} {v:Vl} {vi vp vr:Value} (h:VOwn w B v vi vp vr) (hz:∀t∈v.items,t.size≤1048576):VAt w v vi vp vr:=by
 obtain ⟨a1,A1,c1,e1,h1,_,_⟩:=ownS_in h.items hz;exact ⟨⟨a1,A1,c1,e1,h1⟩,ownP_in h.pairs,Kk.ownR_any h.ranks⟩
end Go.Proofs.YtibhabajknikcaaGreatDoor
namespace Go.Proofs.YtibhabajknikcaaGreatDoor
open Go.RowKit Go.Sort
open Kk (Rk rk0 texL texR decS zea zeb zec OwnR flatR encR zdh)
theorem sameTexts_any (a a':Option Addr) (b off b' off' n c c':Nat) (ss:List ByteArray) (w:World) (h:zdg w a b off n ss) (h':zdg w a' b' off' n ss) (hn:n≤1048577):
  Calls Tryz.prog 59 #[.slice a n c,.slice a' n c'] w fun e w'=>e= .returned (.bool true)∧∃q,w'=w.drewN q:=by
 go_enter Tryz.func59,Tryz.ntmps59;go_wp2;go_loopw [5] (fun i wr=>∃(k q:Nat),k≤n∧i= .int .i64 k∧wr=w.drewN q) (fun i _=>n-(intOf i).toNat)
 case atStart=>exact ⟨0,0,by omega,rfl,rfl⟩
 case round=>
  obtain ⟨k,q,hk,rfl,rfl⟩:=hrel;by_cases hlt:k<n
  ·obtain rfl:=h.addr (by omega);obtain rfl:=h'.addr (by omega);have hc:=h.cell k hlt;have hc':=h'.cell k hlt;generalize ss.getD k ByteArray.empty=s at*;go_wp2;go_quiet ((fail));go_wp2;go_roundw
   case rel=>exact ⟨k+1,_,by omega,by go_num,rfl⟩
   case measure=>simp [intOf];omega
  ·go_wp2;go_ret;exact ⟨rfl,q,rfl⟩
theorem sameValue_any (v:Vl) (vi vp vr vi' vp' vr':Value) (w:World) (h:VAt w v vi vp vr) (h':VAt w v vi' vp' vr') (n1:v.items.length≤1000) (n2:v.pairs.length≤1000) (n3:v.ranks.length≤1000):
  Calls Tryz.prog 25 #[vlV v.kind v.text vi vp vr,vlV v.kind v.text vi' vp' vr'] w fun e w'=>e= .returned (.bool true)∧Below w.heap.size w w':=by
 obtain ⟨⟨a1,A1,c1,e1,h1⟩,⟨a2,A2,c2,e2,h2⟩,⟨a3,A3,c3,e3,h3⟩⟩:=h;obtain ⟨⟨x1,X1,d1,f1,g1⟩,⟨x2,X2,d2,f2,g2⟩,⟨x3,X3,d3,f3,g3⟩⟩:=h';have H1:Hid (∀W,Below w.heap.size w W→Calls Tryz.prog 59 #[.slice a1 v.items.length c1,.slice x1 v.items.length d1] W fun e w'=>e= .returned (.bool true)∧∃q,w'=W.drewN q):=fun W hb=>sameTexts_any a1 x1 A1 0 X1 0 _ c1 d1 v.items W (zdb h1 hb) (zdb g1 hb) (by omega);have H2:Hid (PairsIn w a2 A2 v.pairs.length v.pairs∧PairsIn w x2 X2 v.pairs.length v.pairs):=⟨h2,g2⟩;have H3:Hid (zdh w a3 A3 0 v.ranks.length v.ranks∧zdh w x3 X3 0 v.ranks.length v.ranks):=⟨h3,g3⟩;clear h1 h2 h3 g1 g2 g3;subst e1 e2 e3 f1 f2 f3;generalize v.items.length=ni at*;generalize v.pairs.length=np at*;generalize v.ranks.length=nr at*;generalize v.kind=k at*;generalize v.text=t at*;generalize v.pairs=ps at*;generalize v.ranks=rs at*;obtain ⟨wa,hwa⟩:∃wa,(w.alloc (.cells (vC k t (.slice a1 ni c1) (.slice a2 np c2) (.slice a3 nr c3)) 58)).alloc (.cells (vC k t (.slice x1 ni d1) (.slice x2 np d2) (.slice x3 nr d3)) 58)=wa:=⟨_,rfl⟩;have HA:Hid (RowAt wa w.heap.size 58 (vC k t (.slice a1 ni c1) (.slice a2 np c2) (.slice a3 nr c3))∧RowAt wa (w.heap.size+1) 58 (vC k t (.slice x1 ni d1) (.slice x2 np d2) (.slice x3 nr d3))∧Below w.heap.size w wa):=by
  subst hwa;have e1:(w.alloc (.cells (vC k t (.slice a1 ni c1) (.slice a2 np c2) (.slice a3 nr c3)) 58)).heap.size=w.heap.size+1:=by simp
  refine ⟨RowAt.below (RowAt.new w 58 _) ((Below.refl _ _).alloc (Nat.le_refl _) _) (by simp),?_,((Below.refl _ w).alloc (Nat.le_refl _) _).alloc (by simp) _⟩;rw [←e1];exact RowAt.new _ 58 _
 have HWA:Hid ((w.alloc (.cells (vC k t (.slice a1 ni c1) (.slice a2 np c2) (.slice a3 nr c3)) 58)).alloc (.cells (vC k t (.slice x1 ni d1) (.slice x2 np d2) (.slice x3 nr d3)) 58)=wa):=hwa;clear hwa;go_enter Tryz.func25,Tryz.ntmps25;go_wp2_with fail;rw [HWA.out];obtain ⟨r1,r2,b0⟩:=HA.out;refine (H1.out wa b0).mono ?_;rintro e w1 ⟨rfl,q1,hq1⟩;have BB:Hid (∀q,Below w.heap.size w (wa.drewN q)):=fun q=>below_drewN b0 q;subst hq1;obtain ⟨y0,y1,y2,y3,y4⟩:=row5 r1;obtain ⟨t0,t1,t2,t3,t4⟩:=row5 r2;have I2:Hid (PairsIn wa a2 A2 np ps∧PairsIn wa x2 X2 np ps):=⟨H2.out.1.below b0,H2.out.2.below b0⟩;have I3:Hid (zdh wa a3 A3 0 nr rs∧zdh wa x3 X3 0 nr rs):=⟨H3.out.1.below b0,H3.out.2.below b0⟩;clear r1 r2 b0 HA HWA H1 H2 H3;go_wp2_with fail;go_loopw [5] (fun i wr=>∃(j q:Nat),j≤np∧i= .int .i64 j∧wr=wa.drewN q) (fun i _=>np-(intOf i).toNat)
 case atStart=>exact ⟨0,q1,by omega,rfl,rfl⟩
 case round=>
  obtain ⟨j,q,hj,rfl,rfl⟩:=hrel;by_cases hlt:j<np
  ·have hI:=I2.out.1;have hI':=I2.out.2;obtain rfl:=hI.addr (by omega);obtain rfl:=hI'.addr (by omega);have p0:=hI.c0 j hlt;have p1:=hI.c1 j hlt;have p0':=hI'.c0 j hlt;have p1':=hI'.c1 j hlt;have hji:(j:Int)<(np:Int):=by omega
   have h00:(0:Int)≤(j:Int):=by omega
   generalize ps.getD j (bz,bz)=x at*;obtain ⟨xm,xs⟩:=x;dsimp only at p0 p1 p0' p1';clear hI hI';go_wp2;go_quiet ((fail));go_wp2;go_roundw
   case rel=>exact ⟨j+1,_,by omega,by go_num,rfl⟩
   case measure=>simp [intOf];omega
  ·have hji:¬(j:Int)<(np:Int):=by omega
   go_wp2_with fail;go_loopw [6] (fun i wr=>∃(j q:Nat),j≤nr∧i= .int .i64 j∧wr=wa.drewN q) (fun i _=>nr-(intOf i).toNat)
   case atStart=>exact ⟨0,q,by omega,rfl,rfl⟩
   case round=>
    obtain ⟨m,p,hm,rfl,rfl⟩:=hrel;by_cases hlt:m<nr
    ·have hI:=I3.out.1;have hI':=I3.out.2;have hx:=hI.cell m hlt;have hx':=hI'.cell m hlt;obtain rfl:=hI.addr (by omega);obtain rfl:=hI'.addr (by omega);have p0:=hx.c0;have p1:=hx.c1;have p0':=hx'.c0;have p1':=hx'.c1;have hji:(m:Int)<(nr:Int):=by omega
     have h00:(0:Int)≤(m:Int):=by omega
     generalize rs.getD m rk0=x at*;obtain ⟨xm,xs⟩:=x;dsimp only at p0 p1 p0' p1';rw [Nat.zero_add] at p0 p1 p0' p1';clear hI hI' hx hx';go_wp2;go_quiet ((fail));go_wp2;go_roundw
     case rel=>exact ⟨m+1,_,by omega,by go_num,rfl⟩
     case measure=>simp [intOf];omega
    ·have hji:¬(m:Int)<(nr:Int):=by omega
     have bz1:=BB.out p;go_wp2;go_ret;exact ⟨rfl,bz1⟩
end Go.Proofs.YtibhabajknikcaaGreatDoor
namespace Go.Proofs.YtibhabajknikcaaGreatDoor
open Go.RowKit Go.Sort
open Kk (Rk rk0 texL texR decS zea zeb zec OwnR flatR encR)
theorem contentOf_text (t:ByteArray) (a1 a2 a3:Option Addr) (ni c1 np c2 nr c3:Nat) (w:World):Calls Tryz.prog 144 #[vlV 1 t (.slice a1 ni c1) (.slice a2 np c2) (.slice a3 nr c3)] w fun e w'=>e= .returned (.iface 213 (.string t))∧Below w.heap.size w w':=by
 go_enter Tryz.func144,Tryz.ntmps144;go_wp2;go_ret;exact ⟨rfl,(Below.refl _ w).alloc (Nat.le_refl _) _⟩
theorem contentOf_items (t:ByteArray) (a1 a2 a3:Option Addr) (ni c1 np c2 nr c3:Nat) (w:World):Calls Tryz.prog 144 #[vlV 2 t (.slice a1 ni c1) (.slice a2 np c2) (.slice a3 nr c3)] w fun e w'=>e= .returned (.iface 214 (.slice a1 ni c1))∧Below w.heap.size w w':=by
 go_enter Tryz.func144,Tryz.ntmps144;go_wp2;go_ret;exact ⟨rfl,(Below.refl _ w).alloc (Nat.le_refl _) _⟩
theorem contentOf_pairs (t:ByteArray) (a1 a2 a3:Option Addr) (ni c1 np c2 nr c3:Nat) (w:World):Calls Tryz.prog 144 #[vlV 3 t (.slice a1 ni c1) (.slice a2 np c2) (.slice a3 nr c3)] w fun e w'=>e= .returned (.iface 215 (.slice a2 np c2))∧Below w.heap.size w w':=by
 go_enter Tryz.func144,Tryz.ntmps144;go_wp2;go_ret;exact ⟨rfl,(Below.refl _ w).alloc (Nat.le_refl _) _⟩
theorem contentOf_ranks (t:ByteArray) (a1 a2 a3:Option Addr) (ni c1 np c2 nr c3:Nat) (w:World):Calls Tryz.prog 144 #[vlV 4 t (.slice a1 ni c1) (.slice a2 np c2) (.slice a3 nr c3)] w fun e w'=>e= .returned (.iface 216 (.slice a3 nr c3))∧Below w.heap.size w w':=by
 go_enter Tryz.func144,Tryz.ntmps144;go_wp2;go_ret;exact ⟨rfl,(Below.refl _ w).alloc (Nat.le_refl _) _⟩
theorem contentOf_else (k:Int) (t:ByteArray) (a1 a2 a3:Option Addr) (ni c1 np c2 nr c3:Nat) (w:World) (k1:(k==1)=false) (k2:(k==2)=false) (k3:(k==3)=false) (k4:(k==4)=false):Calls Tryz.prog 144 #[vlV k t (.slice a1 ni c1) (.slice a2 np c2) (.slice a3 nr c3)] w fun e w'=>e= .returned .nilIface∧Below w.heap.size w w':=by
 go_enter Tryz.func144,Tryz.ntmps144;go_wp2;go_ret;exact ⟨rfl,(Below.refl _ w).alloc (Nat.le_refl _) _⟩
def alone (x y:Nat×Nat×Nat×Nat):Bool:=decide (x.1=y.1)&&(decide (x.2.1=y.2.1)&&(decide (x.2.2.1=y.2.2.1)&&decide (x.2.2.2=y.2.2.2)))
theorem holds_gen (k:Int) (t:ByteArray) (a1 a2 a3:Option Addr) (ni c1 np c2 nr c3:Nat) (C:Value) (k':Int) (t':ByteArray) (b1 b2 b3:Option Addr) (mi d1 mp d2 mr d3:Nat) (w:World)
  (hC:∀W,Calls Tryz.prog 199 #[C] W fun e w'=>e= .returned (vlV k' t' (.slice b1 mi d1) (.slice b2 mp d2) (.slice b3 mr d3))∧Below W.heap.size W w'):
  Calls Tryz.prog 145 #[vlV k t (.slice a1 ni c1) (.slice a2 np c2) (.slice a3 nr c3),C] w fun e w'=>e= .returned (.bool (alone (t.size,ni,np,nr) (t'.size,mi,mp,mr)))∧Below w.heap.size w w':=by
 have HC:Hid (∀W,Calls Tryz.prog 199 #[C] W fun e w'=>e= .returned (vlV k' t' (.slice b1 mi d1) (.slice b2 mp d2) (.slice b3 mr d3))∧Below W.heap.size W w'):=hC;have H0:Hid (RowAt (w.alloc (.cells (vC k t (.slice a1 ni c1) (.slice a2 np c2) (.slice a3 nr c3)) 58)) w.heap.size 58 (vC k t (.slice a1 ni c1) (.slice a2 np c2) (.slice a3 nr c3))∧Below w.heap.size w (w.alloc (.cells (vC k t (.slice a1 ni c1) (.slice a2 np c2) (.slice a3 nr c3)) 58))):=⟨RowAt.new w 58 _,(Below.refl _ w).alloc (Nat.le_refl _) _⟩;have hlt:w.heap.size<(w.alloc (.cells (vC k t (.slice a1 ni c1) (.slice a2 np c2) (.slice a3 nr c3)) 58)).heap.size:=by simp
 clear hC;by_cases g0:t.size=t'.size
 ·have i0:((t.size:Int)==(t'.size:Int))=true:=by simp;omega
  by_cases g1:ni=mi
  ·have i1:((ni:Int)==(mi:Int))=true:=by simp;omega
   by_cases g2:np=mp
   ·have i2:((np:Int)==(mp:Int))=true:=by simp;omega
    obtain ⟨o,ho⟩:∃o,decide (nr=mr)=o:=⟨_,rfl⟩;have HO:Hid (alone (t.size,ni,np,nr) (t'.size,mi,mp,mr)=o):=by unfold Hid alone;simp [g0,g1,g2,ho]
    have i3:((nr:Int)==(mr:Int))=o:=by rw [←ho,Bool.eq_iff_iff];simp;omega
    rw [HO.out];clear g0 g1 g2 ho;go_enter Tryz.func145,Tryz.ntmps145;go_wp2_with fail;refine (HC.out _).mono ?_;rintro e w1 ⟨rfl,hb1⟩;have r1:=RowAt.below H0.out.1 hb1 hlt;have bb1:=H0.out.2.trans (hb1.mono H0.out.2.size);have r2:RowAt (w1.alloc (.cells (vC k' t' (.slice b1 mi d1) (.slice b2 mp d2) (.slice b3 mr d3)) 58)) w.heap.size 58 (vC k t (.slice a1 ni c1) (.slice a2 np c2) (.slice a3 nr c3)):=RowAt.below r1 ((Below.refl _ w1).alloc (Nat.le_refl _) _) r1.lt;obtain ⟨e0,e1,e2,e3,e4⟩:=row5 r2;have bb2:Below w.heap.size w (w1.alloc (.cells (vC k' t' (.slice b1 mi d1) (.slice b2 mp d2) (.slice b3 mr d3)) 58)):=bb1.alloc bb1.size _;clear r1 hb1 r2 bb1 H0;go_wp2;go_ret;exact ⟨rfl,bb2⟩
   ·have i2:((np:Int)==(mp:Int))=false:=by simp;omega
    have HO:Hid (alone (t.size,ni,np,nr) (t'.size,mi,mp,mr)=false):=by unfold Hid alone;simp [g0,g1,g2]
    rw [HO.out];clear g0 g1 g2;go_enter Tryz.func145,Tryz.ntmps145;go_wp2_with fail;refine (HC.out _).mono ?_;rintro e w1 ⟨rfl,hb1⟩;have r1:=RowAt.below H0.out.1 hb1 hlt;have bb1:=H0.out.2.trans (hb1.mono H0.out.2.size);have r2:RowAt (w1.alloc (.cells (vC k' t' (.slice b1 mi d1) (.slice b2 mp d2) (.slice b3 mr d3)) 58)) w.heap.size 58 (vC k t (.slice a1 ni c1) (.slice a2 np c2) (.slice a3 nr c3)):=RowAt.below r1 ((Below.refl _ w1).alloc (Nat.le_refl _) _) r1.lt;obtain ⟨e0,e1,e2,e3,e4⟩:=row5 r2;have bb2:Below w.heap.size w (w1.alloc (.cells (vC k' t' (.slice b1 mi d1) (.slice b2 mp d2) (.slice b3 mr d3)) 58)):=bb1.alloc bb1.size _;clear r1 hb1 r2 bb1 H0;go_wp2;go_ret;exact ⟨rfl,bb2⟩
  ·have i1:((ni:Int)==(mi:Int))=false:=by simp;omega
   have HO:Hid (alone (t.size,ni,np,nr) (t'.size,mi,mp,mr)=false):=by unfold Hid alone;simp [g0,g1]
   rw [HO.out];clear g0 g1;go_enter Tryz.func145,Tryz.ntmps145;go_wp2_with fail;refine (HC.out _).mono ?_;rintro e w1 ⟨rfl,hb1⟩;have r1:=RowAt.below H0.out.1 hb1 hlt;have bb1:=H0.out.2.trans (hb1.mono H0.out.2.size);have r2:RowAt (w1.alloc (.cells (vC k' t' (.slice b1 mi d1) (.slice b2 mp d2) (.slice b3 mr d3)) 58)) w.heap.size 58 (vC k t (.slice a1 ni c1) (.slice a2 np c2) (.slice a3 nr c3)):=RowAt.below r1 ((Below.refl _ w1).alloc (Nat.le_refl _) _) r1.lt;obtain ⟨e0,e1,e2,e3,e4⟩:=row5 r2;have bb2:Below w.heap.size w (w1.alloc (.cells (vC k' t' (.slice b1 mi d1) (.slice b2 mp d2) (.slice b3 mr d3)) 58)):=bb1.alloc bb1.size _;clear r1 hb1 r2 bb1 H0;go_wp2;go_ret;exact ⟨rfl,bb2⟩
 ·have i0:((t.size:Int)==(t'.size:Int))=false:=by simp;omega
  have HO:Hid (alone (t.size,ni,np,nr) (t'.size,mi,mp,mr)=false):=by unfold Hid alone;simp [g0]
  rw [HO.out];clear g0;go_enter Tryz.func145,Tryz.ntmps145;go_wp2_with fail;refine (HC.out _).mono ?_;rintro e w1 ⟨rfl,hb1⟩;have r1:=RowAt.below H0.out.1 hb1 hlt;have bb1:=H0.out.2.trans (hb1.mono H0.out.2.size);have r2:RowAt (w1.alloc (.cells (vC k' t' (.slice b1 mi d1) (.slice b2 mp d2) (.slice b3 mr d3)) 58)) w.heap.size 58 (vC k t (.slice a1 ni c1) (.slice a2 np c2) (.slice a3 nr c3)):=RowAt.below r1 ((Below.refl _ w1).alloc (Nat.le_refl _) _) r1.lt;obtain ⟨e0,e1,e2,e3,e4⟩:=row5 r2;have bb2:Below w.heap.size w (w1.alloc (.cells (vC k' t' (.slice b1 mi d1) (.slice b2 mp d2) (.slice b3 mr d3)) 58)):=bb1.alloc bb1.size _;clear r1 hb1 r2 bb1 H0;go_wp2;go_ret;exact ⟨rfl,bb2⟩
theorem valOk_text (t:ByteArray) (a1 a2 a3:Option Addr) (ni c1 np c2 nr c3:Nat) (w:World) (o1 o2:Bool)
  (hH:∀W,Calls Tryz.prog 145 #[vlV 1 t (.slice a1 ni c1) (.slice a2 np c2) (.slice a3 nr c3),.iface 213 (.string t)] W fun e w'=>e= .returned (.bool o1)∧Below W.heap.size W w')
  (hR:∀W,Below w.heap.size w W→Calls Tryz.prog 368 #[(.string t)] W fun e w'=>e= .returned (.bool o2)∧Below W.heap.size W w'):
  Calls Tryz.prog 112 #[vlV 1 t (.slice a1 ni c1) (.slice a2 np c2) (.slice a3 nr c3)] w fun e w'=>e= .returned (.bool (o1&&o2))∧Below w.heap.size w w':=by
 have HC:Hid (∀W,Calls Tryz.prog 144 #[vlV 1 t (.slice a1 ni c1) (.slice a2 np c2) (.slice a3 nr c3)] W fun e w'=>e= .returned (.iface 213 (.string t))∧Below W.heap.size W w'):=fun W=>contentOf_text t a1 a2 a3 ni c1 np c2 nr c3 W;have HH:Hid (∀W,Calls Tryz.prog 145 #[vlV 1 t (.slice a1 ni c1) (.slice a2 np c2) (.slice a3 nr c3),.iface 213 (.string t)] W fun e w'=>e= .returned (.bool o1)∧Below W.heap.size W w'):=hH;have HR:Hid (∀W,Below w.heap.size w W→Calls Tryz.prog 368 #[(.string t)] W fun e w'=>e= .returned (.bool o2)∧Below W.heap.size W w'):=hR;have H0:Hid (RowAt (w.alloc (.cells (vC 1 t (.slice a1 ni c1) (.slice a2 np c2) (.slice a3 nr c3)) 58)) w.heap.size 58 (vC 1 t (.slice a1 ni c1) (.slice a2 np c2) (.slice a3 nr c3))∧Below w.heap.size w (w.alloc (.cells (vC 1 t (.slice a1 ni c1) (.slice a2 np c2) (.slice a3 nr c3)) 58))):=⟨RowAt.new w 58 _,(Below.refl _ w).alloc (Nat.le_refl _) _⟩;have hlt:w.heap.size<(w.alloc (.cells (vC 1 t (.slice a1 ni c1) (.slice a2 np c2) (.slice a3 nr c3)) 58)).heap.size:=by simp
 clear hH hR;go_enter Tryz.func112,Tryz.ntmps112;go_wp2_with fail;refine (HC.out _).mono ?_;rintro e w1 ⟨rfl,hb1⟩;have r1:=RowAt.below H0.out.1 hb1 hlt;have bb1:=H0.out.2.trans (hb1.mono H0.out.2.size);obtain ⟨e0,e1,e2,e3,e4⟩:=row5 r1;clear r1 hb1 H0;cases o1 with
 |false=>
  go_wp2_with fail;refine (HH.out _).mono ?_;rintro e w2 ⟨rfl,hb2⟩;have bb2:=bb1.trans (hb2.mono bb1.size);go_wp2;go_ret;exact ⟨rfl,bb2⟩
 |true=>
  go_wp2_with fail;refine (HH.out _).mono ?_;rintro e w2 ⟨rfl,hb2⟩;have bb2:=bb1.trans (hb2.mono bb1.size);clear hb2 bb1 e0 e1 e2 e3 e4;go_wp2_with fail;refine (HR.out _ bb2).mono ?_;rintro e w3 ⟨rfl,hb3⟩;have bb3:=bb2.trans (hb3.mono bb2.size);go_wp2;go_ret;exact ⟨rfl,bb3⟩
theorem valOk_items (t:ByteArray) (a1 a2 a3:Option Addr) (ni c1 np c2 nr c3:Nat) (w:World) (o1 o2:Bool)
  (hH:∀W,Calls Tryz.prog 145 #[vlV 2 t (.slice a1 ni c1) (.slice a2 np c2) (.slice a3 nr c3),.iface 214 (.slice a1 ni c1)] W fun e w'=>e= .returned (.bool o1)∧Below W.heap.size W w')
  (hR:∀W,Below w.heap.size w W→Calls Tryz.prog 370 #[(.slice a1 ni c1)] W fun e w'=>e= .returned (.bool o2)∧Below W.heap.size W w'):
  Calls Tryz.prog 112 #[vlV 2 t (.slice a1 ni c1) (.slice a2 np c2) (.slice a3 nr c3)] w fun e w'=>e= .returned (.bool (o1&&o2))∧Below w.heap.size w w':=by
 have HC:Hid (∀W,Calls Tryz.prog 144 #[vlV 2 t (.slice a1 ni c1) (.slice a2 np c2) (.slice a3 nr c3)] W fun e w'=>e= .returned (.iface 214 (.slice a1 ni c1))∧Below W.heap.size W w'):=fun W=>contentOf_items t a1 a2 a3 ni c1 np c2 nr c3 W;have HH:Hid (∀W,Calls Tryz.prog 145 #[vlV 2 t (.slice a1 ni c1) (.slice a2 np c2) (.slice a3 nr c3),.iface 214 (.slice a1 ni c1)] W fun e w'=>e= .returned (.bool o1)∧Below W.heap.size W w'):=hH;have HR:Hid (∀W,Below w.heap.size w W→Calls Tryz.prog 370 #[(.slice a1 ni c1)] W fun e w'=>e= .returned (.bool o2)∧Below W.heap.size W w'):=hR;have H0:Hid (RowAt (w.alloc (.cells (vC 2 t (.slice a1 ni c1) (.slice a2 np c2) (.slice a3 nr c3)) 58)) w.heap.size 58 (vC 2 t (.slice a1 ni c1) (.slice a2 np c2) (.slice a3 nr c3))∧Below w.heap.size w (w.alloc (.cells (vC 2 t (.slice a1 ni c1) (.slice a2 np c2) (.slice a3 nr c3)) 58))):=⟨RowAt.new w 58 _,(Below.refl _ w).alloc (Nat.le_refl _) _⟩;have hlt:w.heap.size<(w.alloc (.cells (vC 2 t (.slice a1 ni c1) (.slice a2 np c2) (.slice a3 nr c3)) 58)).heap.size:=by simp
 clear hH hR;go_enter Tryz.func112,Tryz.ntmps112;go_wp2_with fail;refine (HC.out _).mono ?_;rintro e w1 ⟨rfl,hb1⟩;have r1:=RowAt.below H0.out.1 hb1 hlt;have bb1:=H0.out.2.trans (hb1.mono H0.out.2.size);obtain ⟨e0,e1,e2,e3,e4⟩:=row5 r1;clear r1 hb1 H0;cases o1 with
 |false=>
  go_wp2_with fail;refine (HH.out _).mono ?_;rintro e w2 ⟨rfl,hb2⟩;have bb2:=bb1.trans (hb2.mono bb1.size);go_wp2;go_ret;exact ⟨rfl,bb2⟩
 |true=>
  go_wp2_with fail;refine (HH.out _).mono ?_;rintro e w2 ⟨rfl,hb2⟩;have bb2:=bb1.trans (hb2.mono bb1.size);clear hb2 bb1 e0 e1 e2 e3 e4;go_wp2_with fail;refine (HR.out _ bb2).mono ?_;rintro e w3 ⟨rfl,hb3⟩;have bb3:=bb2.trans (hb3.mono bb2.size);go_wp2;go_ret;exact ⟨rfl,bb3⟩
theorem valOk_pairs (t:ByteArray) (a1 a2 a3:Option Addr) (ni c1 np c2 nr c3:Nat) (w:World) (o1 o2:Bool)
  (hH:∀W,Calls Tryz.prog 145 #[vlV 3 t (.slice a1 ni c1) (.slice a2 np c2) (.slice a3 nr c3),.iface 215 (.slice a2 np c2)] W fun e w'=>e= .returned (.bool o1)∧Below W.heap.size W w')
  (hR:∀W,Below w.heap.size w W→Calls Tryz.prog 372 #[(.slice a2 np c2)] W fun e w'=>e= .returned (.bool o2)∧Below W.heap.size W w'):
  Calls Tryz.prog 112 #[vlV 3 t (.slice a1 ni c1) (.slice a2 np c2) (.slice a3 nr c3)] w fun e w'=>e= .returned (.bool (o1&&o2))∧Below w.heap.size w w':=by
 have HC:Hid (∀W,Calls Tryz.prog 144 #[vlV 3 t (.slice a1 ni c1) (.slice a2 np c2) (.slice a3 nr c3)] W fun e w'=>e= .returned (.iface 215 (.slice a2 np c2))∧Below W.heap.size W w'):=fun W=>contentOf_pairs t a1 a2 a3 ni c1 np c2 nr c3 W;have HH:Hid (∀W,Calls Tryz.prog 145 #[vlV 3 t (.slice a1 ni c1) (.slice a2 np c2) (.slice a3 nr c3),.iface 215 (.slice a2 np c2)] W fun e w'=>e= .returned (.bool o1)∧Below W.heap.size W w'):=hH;have HR:Hid (∀W,Below w.heap.size w W→Calls Tryz.prog 372 #[(.slice a2 np c2)] W fun e w'=>e= .returned (.bool o2)∧Below W.heap.size W w'):=hR;have H0:Hid (RowAt (w.alloc (.cells (vC 3 t (.slice a1 ni c1) (.slice a2 np c2) (.slice a3 nr c3)) 58)) w.heap.size 58 (vC 3 t (.slice a1 ni c1) (.slice a2 np c2) (.slice a3 nr c3))∧Below w.heap.size w (w.alloc (.cells (vC 3 t (.slice a1 ni c1) (.slice a2 np c2) (.slice a3 nr c3)) 58))):=⟨RowAt.new w 58 _,(Below.refl _ w).alloc (Nat.le_refl _) _⟩;have hlt:w.heap.size<(w.alloc (.cells (vC 3 t (.slice a1 ni c1) (.slice a2 np c2) (.slice a3 nr c3)) 58)).heap.size:=by simp
 clear hH hR;go_enter Tryz.func112,Tryz.ntmps112;go_wp2_with fail;refine (HC.out _).mono ?_;rintro e w1 ⟨rfl,hb1⟩;have r1:=RowAt.below H0.out.1 hb1 hlt;have bb1:=H0.out.2.trans (hb1.mono H0.out.2.size);obtain ⟨e0,e1,e2,e3,e4⟩:=row5 r1;clear r1 hb1 H0;cases o1 with
 |false=>
  go_wp2_with fail;refine (HH.out _).mono ?_;rintro e w2 ⟨rfl,hb2⟩;have bb2:=bb1.trans (hb2.mono bb1.size);go_wp2;go_ret;exact ⟨rfl,bb2⟩
 |true=>
  go_wp2_with fail;refine (HH.out _).mono ?_;rintro e w2 ⟨rfl,hb2⟩;have bb2:=bb1.trans (hb2.mono bb1.size);clear hb2 bb1 e0 e1 e2 e3 e4;go_wp2_with fail;refine (HR.out _ bb2).mono ?_;rintro e w3 ⟨rfl,hb3⟩;have bb3:=bb2.trans (hb3.mono bb2.size);go_wp2;go_ret;exact ⟨rfl,bb3⟩
theorem valOk_ranks (t:ByteArray) (a1 a2 a3:Option Addr) (ni c1 np c2 nr c3:Nat) (w:World) (o1 o2:Bool)
  (hH:∀W,Calls Tryz.prog 145 #[vlV 4 t (.slice a1 ni c1) (.slice a2 np c2) (.slice a3 nr c3),.iface 216 (.slice a3 nr c3)] W fun e w'=>e= .returned (.bool o1)∧Below W.heap.size W w')
  (hR:∀W,Below w.heap.size w W→Calls Tryz.prog 259 #[(.slice a3 nr c3)] W fun e w'=>e= .returned (.bool o2)∧Below W.heap.size W w'):
  Calls Tryz.prog 112 #[vlV 4 t (.slice a1 ni c1) (.slice a2 np c2) (.slice a3 nr c3)] w fun e w'=>e= .returned (.bool (o1&&o2))∧Below w.heap.size w w':=by
 have HC:Hid (∀W,Calls Tryz.prog 144 #[vlV 4 t (.slice a1 ni c1) (.slice a2 np c2) (.slice a3 nr c3)] W fun e w'=>e= .returned (.iface 216 (.slice a3 nr c3))∧Below W.heap.size W w'):=fun W=>contentOf_ranks t a1 a2 a3 ni c1 np c2 nr c3 W;have HH:Hid (∀W,Calls Tryz.prog 145 #[vlV 4 t (.slice a1 ni c1) (.slice a2 np c2) (.slice a3 nr c3),.iface 216 (.slice a3 nr c3)] W fun e w'=>e= .returned (.bool o1)∧Below W.heap.size W w'):=hH;have HR:Hid (∀W,Below w.heap.size w W→Calls Tryz.prog 259 #[(.slice a3 nr c3)] W fun e w'=>e= .returned (.bool o2)∧Below W.heap.size W w'):=hR;have H0:Hid (RowAt (w.alloc (.cells (vC 4 t (.slice a1 ni c1) (.slice a2 np c2) (.slice a3 nr c3)) 58)) w.heap.size 58 (vC 4 t (.slice a1 ni c1) (.slice a2 np c2) (.slice a3 nr c3))∧Below w.heap.size w (w.alloc (.cells (vC 4 t (.slice a1 ni c1) (.slice a2 np c2) (.slice a3 nr c3)) 58))):=⟨RowAt.new w 58 _,(Below.refl _ w).alloc (Nat.le_refl _) _⟩;have hlt:w.heap.size<(w.alloc (.cells (vC 4 t (.slice a1 ni c1) (.slice a2 np c2) (.slice a3 nr c3)) 58)).heap.size:=by simp
 clear hH hR;go_enter Tryz.func112,Tryz.ntmps112;go_wp2_with fail;refine (HC.out _).mono ?_;rintro e w1 ⟨rfl,hb1⟩;have r1:=RowAt.below H0.out.1 hb1 hlt;have bb1:=H0.out.2.trans (hb1.mono H0.out.2.size);obtain ⟨e0,e1,e2,e3,e4⟩:=row5 r1;clear r1 hb1 H0;cases o1 with
 |false=>
  go_wp2_with fail;refine (HH.out _).mono ?_;rintro e w2 ⟨rfl,hb2⟩;have bb2:=bb1.trans (hb2.mono bb1.size);go_wp2;go_ret;exact ⟨rfl,bb2⟩
 |true=>
  go_wp2_with fail;refine (HH.out _).mono ?_;rintro e w2 ⟨rfl,hb2⟩;have bb2:=bb1.trans (hb2.mono bb1.size);clear hb2 bb1 e0 e1 e2 e3 e4;go_wp2_with fail;refine (HR.out _ bb2).mono ?_;rintro e w3 ⟨rfl,hb3⟩;have bb3:=bb2.trans (hb3.mono bb2.size);go_wp2;go_ret;exact ⟨rfl,bb3⟩
theorem valOk_else (k:Int) (t:ByteArray) (a1 a2 a3:Option Addr) (ni c1 np c2 nr c3:Nat) (w:World) (k1:(k==1)=false) (k2:(k==2)=false) (k3:(k==3)=false) (k4:(k==4)=false):
  Calls Tryz.prog 112 #[vlV k t (.slice a1 ni c1) (.slice a2 np c2) (.slice a3 nr c3)] w fun e w'=>e= .returned (.bool false)∧Below w.heap.size w w':=by
 have HC:Hid (∀W,Calls Tryz.prog 144 #[vlV k t (.slice a1 ni c1) (.slice a2 np c2) (.slice a3 nr c3)] W fun e w'=>e= .returned .nilIface∧Below W.heap.size W w'):=fun W=>contentOf_else k t a1 a2 a3 ni c1 np c2 nr c3 W k1 k2 k3 k4;have hb:Below w.heap.size w (w.alloc (.cells (vC k t (.slice a1 ni c1) (.slice a2 np c2) (.slice a3 nr c3)) 58)):=(Below.refl _ w).alloc (Nat.le_refl _) _;have HB:Hid (Below w.heap.size w (w.alloc (.cells (vC k t (.slice a1 ni c1) (.slice a2 np c2) (.slice a3 nr c3)) 58))):=hb;clear hb k1 k2 k3 k4;go_enter Tryz.func112,Tryz.ntmps112;go_wp2_with fail;refine (HC.out _).mono ?_;rintro e w1 ⟨rfl,hb1⟩;have bb1:=HB.out.trans (hb1.mono HB.out.size);clear hb1;go_wp2;go_ret;exact ⟨rfl,bb1⟩
theorem implOk_any (v:Vl) (vi vp vr:Value) (B:Nat) (w:World) (h:VOwn w B v vi vp vr) (hf:VFit v) (hp2:v.pairs.length≤500000) (hfl:Kk.FitL v.ranks) (hR:Ready w):
  Calls Tryz.prog 112 #[vlV v.kind v.text vi vp vr] w fun e w'=>e= .returned (.bool (vokB v))∧Below w.heap.size w w':=by
 obtain ⟨k,t,is,ps,rs⟩:=v;obtain ⟨f1,f2,f3,f4⟩:=hf;dsimp only at f1 f2 f3 f4;obtain ⟨oi,op,or⟩:=h;dsimp only at oi op or hfl hp2;have h6:=hR.six;show Calls Tryz.prog 112 #[vlV k t vi vp vr] w fun e w'=>e= .returned (.bool (vokB ⟨k,t,is,ps,rs⟩))∧Below w.heap.size w w';obtain ⟨a1,c1,e1⟩:=zad oi;obtain ⟨a2,c2,e2⟩:=zad op;obtain ⟨a3,c3,e3⟩:=zad or;subst e1 e2 e3;have z0:(⟨#[]⟩:ByteArray).size=0:=rfl;by_cases k1:k=1
 ·subst k1;have:=valOk_text t a1 a2 a3 is.length c1 ps.length c2 rs.length c3 w _ (shortB t) (fun W=>holds_gen 1 t a1 a2 a3 is.length c1 ps.length c2 rs.length c3 _ 1 t none none none 0 0 0 0 0 0 W (fun W=>valueOf_text t W)) (fun W _=>bare_right t W);refine this.mono fun e w' ⟨he,hb⟩=>⟨?_,hb⟩;rw [he];refine zae ?_;unfold vokB alone none3;dsimp only;rw [if_pos rfl,Bool.eq_iff_iff];simp only [Bool.and_eq_true,decide_eq_true_iff];constructor
  ·rintro ⟨⟨_,q1,q2,q3⟩,q4⟩;exact ⟨q4,by omega⟩
  ·rintro ⟨q4,q5⟩;exact ⟨⟨by simp,by omega,by omega,by omega⟩,q4⟩
 by_cases k2:k=2
 ·subst k2;have:=valOk_items t a1 a2 a3 is.length c1 ps.length c2 rs.length c3 w _ (itemsB is) (fun W=>holds_gen 2 t a1 a2 a3 is.length c1 ps.length c2 rs.length c3 _ 2 ⟨#[]⟩ a1 none none is.length c1 0 0 0 0 W (fun W=>valueOf_items a1 is.length c1 W)) (fun W hb=> (items_right (zaf oi hb) (by omega)).mono fun e w' ⟨he,hw⟩=>⟨he,by rw [hw];exact Below.refl _ _⟩);refine this.mono fun e w' ⟨he,hb⟩=>⟨?_,hb⟩;rw [he];refine zae ?_;unfold vokB alone none3;dsimp only;rw [if_neg (by decide),if_pos rfl,Bool.eq_iff_iff,z0];simp only [Bool.and_eq_true,decide_eq_true_iff];constructor
  ·rintro ⟨⟨q0,_,q2,q3⟩,q4⟩;exact ⟨q0,by omega,q4⟩
  ·rintro ⟨q0,q1,q4⟩;exact ⟨⟨q0,by simp,by omega,by omega⟩,q4⟩
 by_cases k3:k=3
 ·subst k3
  have:=valOk_pairs t a1 a2 a3 is.length c1 ps.length c2 rs.length c3 w _ (pairsB ps) (fun W=>holds_gen 3 t a1 a2 a3 is.length c1 ps.length c2 rs.length c3 _ 3 ⟨#[]⟩ none a2 none 0 0 ps.length c2 0 0 W (fun W=>valueOf_pairs a2 ps.length c2 W)) (fun W hb=>by
   obtain ⟨a,A,c,hv,hin⟩:=ownP_in (zaf op hb);rw [hv];exact pairs_right a A _ c _ W hin (by omega))
  refine this.mono fun e w' ⟨he,hb⟩=>⟨?_,hb⟩;rw [he];refine zae ?_;unfold vokB alone none3;dsimp only;rw [if_neg (by decide),if_neg (by decide),if_pos rfl,Bool.eq_iff_iff,z0];simp only [Bool.and_eq_true,decide_eq_true_iff];constructor
  ·rintro ⟨⟨q0,q1,_,q3⟩,q4⟩;exact ⟨q0,by omega,q4⟩
  ·rintro ⟨q0,q1,q4⟩;exact ⟨⟨q0,by omega,by simp,by omega⟩,q4⟩
 by_cases k4:k=4
 ·subst k4
  have:=valOk_ranks t a1 a2 a3 is.length c1 ps.length c2 rs.length c3 w _ (zeb rs) (fun W=>holds_gen 4 t a1 a2 a3 is.length c1 ps.length c2 rs.length c3 _ 4 ⟨#[]⟩ none none a3 0 0 0 0 rs.length c3 W (fun W=>valueOf_ranks a3 rs.length c3 W)) (fun W hb=>by
   obtain ⟨a,A,c,hv,hin⟩:=Kk.ownR_any (zaf or hb);rw [hv];have hRW:=hR.below (hb.mono h6);have:=hRW.six;exact Kk.right_any a A 0 _ c rs W hin (by omega) hfl hRW.tab (by omega))
  refine this.mono fun e w' ⟨he,hb⟩=>⟨?_,hb⟩;rw [he];refine zae ?_;unfold vokB alone none3 zeb;dsimp only;rw [if_neg (by decide),if_neg (by decide),if_neg (by decide),if_pos rfl,Bool.eq_iff_iff,z0];simp only [Bool.and_eq_true,decide_eq_true_iff];constructor
  ·rintro ⟨⟨q0,q1,q2,_⟩,q4,q5⟩;exact ⟨q0,by omega,by omega,q5⟩
  ·rintro ⟨q0,q1,q4,q5⟩;exact ⟨⟨q0,by omega,by omega,by simp⟩,by omega,q5⟩
 ·have:=valOk_else k t a1 a2 a3 is.length c1 ps.length c2 rs.length c3 w (by simpa using k1) (by simpa using k2) (by simpa using k3) (by simpa using k4);refine this.mono fun e w' ⟨he,hb⟩=>⟨?_,hb⟩;rw [he];refine zae ?_;unfold vokB;rw [if_neg k1,if_neg k2,if_neg k3,if_neg k4]
end Go.Proofs.YtibhabajknikcaaGreatDoor
