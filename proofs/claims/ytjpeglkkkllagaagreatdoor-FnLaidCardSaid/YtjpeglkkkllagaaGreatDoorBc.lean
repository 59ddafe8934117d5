import Derived.Test.YtjpeglkkkllagaaGreatDoorHRow
import Derived.Test.YtjpeglkkkllagaaGreatDoorWa
import Derived.Test.YtjpeglkkkllagaaGreatDoorVc
import Derived.Test.YtjpeglkkkllagaaGreatDoorHp5
import Derived.Laws.IdiomStrings
import Derived.Lib.QuietBelow
import Derived.Laws.StructEq
import Derived.Deep.RegionHeld3
set_option maxHeartbeats 8000000
set_option maxRecDepth 100000
namespace Go.Proofs.YtjpeglkkkllagaaGreatDoor.Kk
open Go.RowKit Go.Sort
theorem grown_refl (w:World) (r:Option Nat):w.grownBy w r:=⟨rfl,rfl,rfl,Nat.le_refl _,fun _ _ _=>rfl⟩
theorem zcc {w w1 w2:World} {r:Option Nat} (h:w.grownBy w1 r) (hb:Below w1.heap.size w1 w2):w.grownBy w2 r:=
 ⟨hb.os.trans h.os,hb.tape.trans h.tape,hb.output.trans h.output,Nat.le_trans h.size hb.size,fun k hk hne=> (hb.block k (by have:=h.size;omega)).trans (h.block k hk hne)⟩
theorem zah {w w1 w2:World} {r:Option Nat} (h:w.grownBy w1 r) (h2:w1.grownBy w2 r):w.grownBy w2 r:=
 ⟨h2.os.trans h.os,h2.tape.trans h.tape,h2.output.trans h.output,Nat.le_trans h.size h2.size,fun k hk hne=> (h2.block k (by have:=h.size;omega) hne).trans (h.block k hk hne)⟩
end Go.Proofs.YtjpeglkkkllagaaGreatDoor.Kk
namespace Go.Proofs.YtjpeglkkkllagaaGreatDoor
open Go.RowKit Go.Sort
open Kk (Rk rk0 texL texR decS zea zeb zec OwnR flatR encR)
theorem ret_int {a b:Int} (h:a=b):Ending.returned (.int .i64 a)= .returned (.int .i64 b):=by rw [h]
theorem flatPV_len:∀ps:List Pr,(flatPV ps).length=ps.length*2
 | []=>rfl
 |p::ps=>by
  have e:flatPV (p::ps)= .string p.1:: .string p.2::flatPV ps:=rfl;rw [e,List.length_cons,List.length_cons,flatPV_len ps,List.length_cons];omega
end Go.Proofs.YtjpeglkkkllagaaGreatDoor
namespace Go.Proofs.YtjpeglkkkllagaaGreatDoor
open Go.RowKit Go.Sort
open Kk (Rk rk0 texL texR decS zea zeb zec OwnR flatR encR zdh)
structure VAt (w:World) (v:Vl) (vi vp vr:Value):Prop where
 items:∃a A c,vi= .slice a v.items.length c∧zdg w a A 0 v.items.length v.items
 pairs:∃a A c,vp= .slice a v.pairs.length c∧PairsIn w a A v.pairs.length v.pairs
 ranks:∃a A c,vr= .slice a v.ranks.length c∧zdh w a A 0 v.ranks.length v.ranks
theorem VOwn.at {w:World} {B:Nat} {v:Vl} {vi vp vr:Value} (h:VOwn w B v vi vp vr) (hz:∀t∈v.items,t.size≤1048576):VAt w v vi vp vr:=by
 obtain ⟨a1,A1,c1,e1,h1,_,_⟩:=ownS_in h.items hz;exact ⟨⟨a1,A1,c1,e1,h1⟩,ownP_in h.pairs,Kk.ownR_any h.ranks⟩
structure One (v:Vl):Prop where
 ni:v.items.length≤1000
 np:v.pairs.length≤1000
 nr:v.ranks.length≤1000
 items:∀t∈v.items,t.size≤1048576
 one:(v.pairs=[]∧v.ranks=[])∨(v.items=[]∧v.ranks=[])∨(v.items=[]∧v.pairs=[])
end Go.Proofs.YtjpeglkkkllagaaGreatDoor
namespace Go.Proofs.YtjpeglkkkllagaaGreatDoor
open Go.RowKit Go.Sort
open Hp (refV put4 zbb)
structure En where
 name:ByteArray
 rc:Int
 rg:Int
 due:Int
def en0:En:=⟨bz,0,0,0⟩
abbrev enC (x:En):Array Value:= #[.string x.name,.int .i64 x.rc,.int .i64 x.rg,.int .i64 x.due]
structure EnAt (w:World) (b o:Nat) (x:En):Prop where
 c0:w.cell? ⟨b,o,none⟩=some (.string x.name)
 c1:w.cell? ⟨b,o+1,none⟩=some (.int .i64 x.rc)
 c2:w.cell? ⟨b,o+2,none⟩=some (.int .i64 x.rg)
 c3:w.cell? ⟨b,o+3,none⟩=some (.int .i64 x.due)
structure EntsIn (w:World) (a:Option Addr) (b off n:Nat) (L:List En):Prop where
 len:L.length=n
 addr:0<n→a=some ⟨b,off,none⟩
 low:0<n→b<w.heap.size
 cell:∀i,i<n→EnAt w b (off+i*4) (L.getD i en0)
theorem en_below {w w':World} {b o B:Nat} {x:En} (h:EnAt w b o x) (hl:b<B) (hb:Below B w w'):EnAt w' b o x:=
 ⟨(hb.cell (p:=⟨b,o,none⟩) hl).trans h.c0,(hb.cell (p:=⟨b,o+1,none⟩) hl).trans h.c1,(hb.cell (p:=⟨b,o+2,none⟩) hl).trans h.c2,(hb.cell (p:=⟨b,o+3,none⟩) hl).trans h.c3⟩
theorem EntsIn.below {w w':World} {a:Option Addr} {b off n:Nat} {L:List En} (h:EntsIn w a b off n L) (hb:Below w.heap.size w w'):EntsIn w' a b off n L:=
 ⟨h.len,h.addr,fun h0=>by have:=h.low h0;have:=hb.size;omega,fun i hi=>en_below (h.cell i hi) (h.low (by omega)) hb⟩
theorem row4 {w:World} {g:Nat} {T:TypeId} {x y z u:Value} (h:RowAt w g T #[x,y,z,u]):w.cell? ⟨g,0,none⟩=some x∧w.cell? ⟨g,1,none⟩=some y∧w.cell? ⟨g,2,none⟩=some z∧w.cell? ⟨g,3,none⟩=some u:=by
 have a:=h.cell 0;have b:=h.cell 1;have c:=h.cell 2;have d:=h.cell 3;simp at a b c d;exact ⟨a,b,c,d⟩
theorem info39:(Tryz.prog.info? 67).map (fun i=> (i.zero,i.size,i.bytes))=some (some (.agg #[.string ⟨#[]⟩,.int .i64 0,.int .i64 0,.int .i64 0]),4,40):=by kernel_rfl
end Go.Proofs.YtjpeglkkkllagaaGreatDoor
namespace Go.Proofs.YtjpeglkkkllagaaGreatDoor
open Go.RowKit Go.Sort
open Kk (Rk rk0 texL texR decS zea zeb zec OwnR flatR encR zdh)
theorem sameTexts_any (a a':Option Addr) (b off b' off' n c c':Nat) (ss:List ByteArray) (w:World) (h:zdg w a b off n ss) (h':zdg w a' b' off' n ss) (hn:n≤1048577):
  Calls Tryz.prog 59 #[.slice a n c,.slice a' n c'] w fun e w'=>e= .returned (.bool true)∧∃q,w'=w.drewN q:=by
 go_enter Tryz.func59,Tryz.ntmps59;go_wp2;go_loopw [5] (fun i wr=>∃(k q:Nat),k≤n∧i= .int .i64 k∧wr=w.drewN q) (fun i _=>n-(intOf i).toNat)
 case atStart=>exact ⟨0,0,by omega,rfl,rfl⟩
 case round=>
  obtain ⟨k,q,hk,rfl,rfl⟩:=hrel;by_cases hlt:k<n
  ·obtain rfl:=h.addr (by omega);obtain rfl:=h'.addr (by omega);have hc:=h.cell k hlt;have hc':=h'.cell k hlt;generalize ss.getD k ByteArray.empty=s at*;go_wp2;go_quiet ((fail));go_wp2;go_roundw
   case rel=>exact ⟨k+1,_,by omega,by go_num,rfl⟩
   case measure=>simp [intOf];omega
  ·go_wp2;go_ret;exact ⟨rfl,q,rfl⟩
theorem sameValue_any (v:Vl) (vi vp vr vi' vp' vr':Value) (w:World) (h:VAt w v vi vp vr) (h':VAt w v vi' vp' vr') (n1:v.items.length≤1000) (n2:v.pairs.length≤1000) (n3:v.ranks.length≤1000):
  Calls Tryz.prog 32 #[vlV v.kind v.text vi vp vr,vlV v.kind v.text vi' vp' vr'] w fun e w'=>e= .returned (.bool true)∧Below w.heap.size w w':=by
 obtain ⟨⟨a1,A1,c1,e1,h1⟩,⟨a2,A2,c2,e2,h2⟩,⟨a3,A3,c3,e3,h3⟩⟩:=h;obtain ⟨⟨x1,X1,d1,f1,g1⟩,⟨x2,X2,d2,f2,g2⟩,⟨x3,X3,d3,f3,g3⟩⟩:=h';have H1:Hid (∀W,Below w.heap.size w W→Calls Tryz.prog 59 #[.slice a1 v.items.length c1,.slice x1 v.items.length d1] W fun e w'=>e= .returned (.bool true)∧∃q,w'=W.drewN q):=fun W hb=>sameTexts_any a1 x1 A1 0 X1 0 _ c1 d1 v.items W (zdb h1 hb) (zdb g1 hb) (by omega);have H2:Hid (PairsIn w a2 A2 v.pairs.length v.pairs∧PairsIn w x2 X2 v.pairs.length v.pairs):=⟨h2,g2⟩;have H3:Hid (zdh w a3 A3 0 v.ranks.length v.ranks∧zdh w x3 X3 0 v.ranks.length v.ranks):=⟨h3,g3⟩;clear h1 h2 h3 g1 g2 g3;subst e1 e2 e3 f1 f2 f3;generalize v.items.length=ni at*;generalize v.pairs.length=np at*;generalize v.ranks.length=nr at*;generalize v.kind=k at*;generalize v.text=t at*;generalize v.pairs=ps at*;generalize v.ranks=rs at*;obtain ⟨wa,hwa⟩:∃wa,(w.alloc (.cells (vC k t (.slice a1 ni c1) (.slice a2 np c2) (.slice a3 nr c3)) 63)).alloc (.cells (vC k t (.slice x1 ni d1) (.slice x2 np d2) (.slice x3 nr d3)) 63)=wa:=⟨_,rfl⟩;have HA:Hid (RowAt wa w.heap.size 63 (vC k t (.slice a1 ni c1) (.slice a2 np c2) (.slice a3 nr c3))∧RowAt wa (w.heap.size+1) 63 (vC k t (.slice x1 ni d1) (.slice x2 np d2) (.slice x3 nr d3))∧Below w.heap.size w wa):=by
  subst hwa;have e1:(w.alloc (.cells (vC k t (.slice a1 ni c1) (.slice a2 np c2) (.slice a3 nr c3)) 63)).heap.size=w.heap.size+1:=by simp
  refine ⟨RowAt.below (RowAt.new w 63 _) ((Below.refl _ _).alloc (Nat.le_refl _) _) (by simp),?_,((Below.refl _ w).alloc (Nat.le_refl _) _).alloc (by simp) _⟩;rw [←e1];exact RowAt.new _ 63 _
 have HWA:Hid ((w.alloc (.cells (vC k t (.slice a1 ni c1) (.slice a2 np c2) (.slice a3 nr c3)) 63)).alloc (.cells (vC k t (.slice x1 ni d1) (.slice x2 np d2) (.slice x3 nr d3)) 63)=wa):=hwa;clear hwa;go_enter Tryz.func32,Tryz.ntmps32;go_wp2_with fail;rw [HWA.out];obtain ⟨r1,r2,b0⟩:=HA.out;refine (H1.out wa b0).mono ?_;rintro e w1 ⟨rfl,q1,hq1⟩;have BB:Hid (∀q,Below w.heap.size w (wa.drewN q)):=fun q=>below_drewN b0 q;subst hq1;obtain ⟨y0,y1,y2,y3,y4⟩:=row5 r1;obtain ⟨t0,t1,t2,t3,t4⟩:=row5 r2;have I2:Hid (PairsIn wa a2 A2 np ps∧PairsIn wa x2 X2 np ps):=⟨H2.out.1.below b0,H2.out.2.below b0⟩;have I3:Hid (zdh wa a3 A3 0 nr rs∧zdh wa x3 X3 0 nr rs):=⟨H3.out.1.below b0,H3.out.2.below b0⟩;clear r1 r2 b0 HA HWA H1 H2 H3;go_wp2_with fail;go_loopw [5] (fun i wr=>∃(j q:Nat),j≤np∧i= .int .i64 j∧wr=wa.drewN q) (fun i _=>np-(intOf i).toNat)
 case atStart=>exact ⟨0,q1,by omega,rfl,rfl⟩
 case round=>
  obtain ⟨j,q,hj,rfl,rfl⟩:=hrel;by_cases hlt:j<np
  ·have hI:=I2.out.1;have hI':=I2.out.2;obtain rfl:=hI.addr (by omega);obtain rfl:=hI'.addr (by omega);have p0:=hI.c0 j hlt;have p1:=hI.c1 j hlt;have p0':=hI'.c0 j hlt;have p1':=hI'.c1 j hlt;have hji:(j:Int)<(np:Int):=by omega
   have h00:(0:Int)≤(j:Int):=by omega
   generalize ps.getD j (bz,bz)=x at*;obtain ⟨xm,xs⟩:=x;dsimp only at p0 p1 p0' p1';clear hI hI';go_wp2;go_quiet ((fail));go_wp2;go_roundw
   case rel=>exact ⟨j+1,_,by omega,by go_num,rfl⟩
   case measure=>simp [intOf];omega
  ·have hji:¬(j:Int)<(np:Int):=by omega
   go_wp2_with fail;go_loopw [6] (fun i wr=>∃(j q:Nat),j≤nr∧i= .int .i64 j∧wr=wa.drewN q) (fun i _=>nr-(intOf i).toNat)
   case atStart=>exact ⟨0,q,by omega,rfl,rfl⟩
   case round=>
    obtain ⟨m,p,hm,rfl,rfl⟩:=hrel;by_cases hlt:m<nr
    ·have hI:=I3.out.1;have hI':=I3.out.2;have hx:=hI.cell m hlt;have hx':=hI'.cell m hlt;obtain rfl:=hI.addr (by omega);obtain rfl:=hI'.addr (by omega);have p0:=hx.c0;have p1:=hx.c1;have p0':=hx'.c0;have p1':=hx'.c1;have hji:(m:Int)<(nr:Int):=by omega
     have h00:(0:Int)≤(m:Int):=by omega
     generalize rs.getD m rk0=x at*;obtain ⟨xm,xs⟩:=x;dsimp only at p0 p1 p0' p1';rw [Nat.zero_add] at p0 p1 p0' p1';clear hI hI' hx hx';go_wp2;go_quiet ((fail));go_wp2;go_roundw
     case rel=>exact ⟨m+1,_,by omega,by go_num,rfl⟩
     case measure=>simp [intOf];omega
    ·have hji:¬(m:Int)<(nr:Int):=by omega
     have bz1:=BB.out p;go_wp2;go_ret;exact ⟨rfl,bz1⟩
end Go.Proofs.YtjpeglkkkllagaaGreatDoor
