import Derived.Test.YtjpeglkkkllagaaGreatDoorWa
import Derived.Test.YtjpeglkkkllagaaGreatDoorVc
set_option maxHeartbeats 4000000
set_option maxRecDepth 100000
namespace Go.Proofs.YtjpeglkkkllagaaGreatDoor
open Go.RowKit Go.Sort
open Kk (Rk rk0 texL texR decS zea zeb zec OwnR flatR encR)
theorem contentOf_text (t:ByteArray) (a1 a2 a3:Option Addr) (ni c1 np c2 nr c3:Nat) (w:World):Calls Tryz.prog 71 #[vlV 1 t (.slice a1 ni c1) (.slice a2 np c2) (.slice a3 nr c3)] w fun e w'=>e= .returned (.iface 172 (.string t))∧Below w.heap.size w w':=by
 go_enter Tryz.func71,Tryz.ntmps71;go_wp2;go_ret;exact ⟨rfl,(Below.refl _ w).alloc (Nat.le_refl _) _⟩
theorem contentOf_items (t:ByteArray) (a1 a2 a3:Option Addr) (ni c1 np c2 nr c3:Nat) (w:World):Calls Tryz.prog 71 #[vlV 2 t (.slice a1 ni c1) (.slice a2 np c2) (.slice a3 nr c3)] w fun e w'=>e= .returned (.iface 173 (.slice a1 ni c1))∧Below w.heap.size w w':=by
 go_enter Tryz.func71,Tryz.ntmps71;go_wp2;go_ret;exact ⟨rfl,(Below.refl _ w).alloc (Nat.le_refl _) _⟩
theorem contentOf_pairs (t:ByteArray) (a1 a2 a3:Option Addr) (ni c1 np c2 nr c3:Nat) (w:World):Calls Tryz.prog 71 #[vlV 3 t (.slice a1 ni c1) (.slice a2 np c2) (.slice a3 nr c3)] w fun e w'=>e= .returned (.iface 174 (.slice a2 np c2))∧Below w.heap.size w w':=by
 go_enter Tryz.func71,Tryz.ntmps71;go_wp2;go_ret;exact ⟨rfl,(Below.refl _ w).alloc (Nat.le_refl _) _⟩
theorem contentOf_ranks (t:ByteArray) (a1 a2 a3:Option Addr) (ni c1 np c2 nr c3:Nat) (w:World):Calls Tryz.prog 71 #[vlV 4 t (.slice a1 ni c1) (.slice a2 np c2) (.slice a3 nr c3)] w fun e w'=>e= .returned (.iface 175 (.slice a3 nr c3))∧Below w.heap.size w w':=by
 go_enter Tryz.func71,Tryz.ntmps71;go_wp2;go_ret;exact ⟨rfl,(Below.refl _ w).alloc (Nat.le_refl _) _⟩
theorem contentOf_else (k:Int) (t:ByteArray) (a1 a2 a3:Option Addr) (ni c1 np c2 nr c3:Nat) (w:World) (k1:(k==1)=false) (k2:(k==2)=false) (k3:(k==3)=false) (k4:(k==4)=false):Calls Tryz.prog 71 #[vlV k t (.slice a1 ni c1) (.slice a2 np c2) (.slice a3 nr c3)] w fun e w'=>e= .returned .nilIface∧Below w.heap.size w w':=by
 go_enter Tryz.func71,Tryz.ntmps71;go_wp2;go_ret;exact ⟨rfl,(Below.refl _ w).alloc (Nat.le_refl _) _⟩
def alone (x y:Nat×Nat×Nat×Nat):Bool:=decide (x.1=y.1)&&(decide (x.2.1=y.2.1)&&(decide (x.2.2.1=y.2.2.1)&&decide (x.2.2.2=y.2.2.2)))
theorem holds_gen (k:Int) (t:ByteArray) (a1 a2 a3:Option Addr) (ni c1 np c2 nr c3:Nat) (C:Value) (k':Int) (t':ByteArray) (b1 b2 b3:Option Addr) (mi d1 mp d2 mr d3:Nat) (w:World)
  (hC:∀W,Calls Tryz.prog 78 #[C] W fun e w'=>e= .returned (vlV k' t' (.slice b1 mi d1) (.slice b2 mp d2) (.slice b3 mr d3))∧Below W.heap.size W w'):
  Calls Tryz.prog 102 #[vlV k t (.slice a1 ni c1) (.slice a2 np c2) (.slice a3 nr c3),C] w fun e w'=>e= .returned (.bool (alone (t.size,ni,np,nr) (t'.size,mi,mp,mr)))∧Below w.heap.size w w':=by
 have HC:Hid (∀W,Calls Tryz.prog 78 #[C] W fun e w'=>e= .returned (vlV k' t' (.slice b1 mi d1) (.slice b2 mp d2) (.slice b3 mr d3))∧Below W.heap.size W w'):=hC;have H0:Hid (RowAt (w.alloc (.cells (vC k t (.slice a1 ni c1) (.slice a2 np c2) (.slice a3 nr c3)) 63)) w.heap.size 63 (vC k t (.slice a1 ni c1) (.slice a2 np c2) (.slice a3 nr c3))∧Below w.heap.size w (w.alloc (.cells (vC k t (.slice a1 ni c1) (.slice a2 np c2) (.slice a3 nr c3)) 63))):=⟨RowAt.new w 63 _,(Below.refl _ w).alloc (Nat.le_refl _) _⟩;have hlt:w.heap.size<(w.alloc (.cells (vC k t (.slice a1 ni c1) (.slice a2 np c2) (.slice a3 nr c3)) 63)).heap.size:=by simp
 clear hC;by_cases g0:t.size=t'.size
 ·have i0:((t.size:Int)==(t'.size:Int))=true:=by simp;omega
  by_cases g1:ni=mi
  ·have i1:((ni:Int)==(mi:Int))=true:=by simp;omega
   by_cases g2:np=mp
   ·have i2:((np:Int)==(mp:Int))=true:=by simp;omega
    obtain ⟨o,ho⟩:∃o,decide (nr=mr)=o:=⟨_,rfl⟩;have HO:Hid (alone (t.size,ni,np,nr) (t'.size,mi,mp,mr)=o):=by unfold Hid alone;simp [g0,g1,g2,ho]
    have i3:((nr:Int)==(mr:Int))=o:=by rw [←ho,Bool.eq_iff_iff];simp;omega
    rw [HO.out];clear g0 g1 g2 ho;go_enter Tryz.func102,Tryz.ntmps102;go_wp2_with fail;refine (HC.out _).mono ?_;rintro e w1 ⟨rfl,hb1⟩;have r1:=RowAt.below H0.out.1 hb1 hlt;have bb1:=H0.out.2.trans (hb1.mono H0.out.2.size);have r2:RowAt (w1.alloc (.cells (vC k' t' (.slice b1 mi d1) (.slice b2 mp d2) (.slice b3 mr d3)) 63)) w.heap.size 63 (vC k t (.slice a1 ni c1) (.slice a2 np c2) (.slice a3 nr c3)):=RowAt.below r1 ((Below.refl _ w1).alloc (Nat.le_refl _) _) r1.lt;obtain ⟨e0,e1,e2,e3,e4⟩:=row5 r2;have bb2:Below w.heap.size w (w1.alloc (.cells (vC k' t' (.slice b1 mi d1) (.slice b2 mp d2) (.slice b3 mr d3)) 63)):=bb1.alloc bb1.size _;clear r1 hb1 r2 bb1 H0;go_wp2;go_ret;exact ⟨rfl,bb2⟩
   ·have i2:((np:Int)==(mp:Int))=false:=by simp;omega
    have HO:Hid (alone (t.size,ni,np,nr) (t'.size,mi,mp,mr)=false):=by unfold Hid alone;simp [g0,g1,g2]
    rw [HO.out];clear g0 g1 g2;go_enter Tryz.func102,Tryz.ntmps102;go_wp2_with fail;refine (HC.out _).mono ?_;rintro e w1 ⟨rfl,hb1⟩;have r1:=RowAt.below H0.out.1 hb1 hlt;have bb1:=H0.out.2.trans (hb1.mono H0.out.2.size);have r2:RowAt (w1.alloc (.cells (vC k' t' (.slice b1 mi d1) (.slice b2 mp d2) (.slice b3 mr d3)) 63)) w.heap.size 63 (vC k t (.slice a1 ni c1) (.slice a2 np c2) (.slice a3 nr c3)):=RowAt.below r1 ((Below.refl _ w1).alloc (Nat.le_refl _) _) r1.lt;obtain ⟨e0,e1,e2,e3,e4⟩:=row5 r2;have bb2:Below w.heap.size w (w1.alloc (.cells (vC k' t' (.slice b1 mi d1) (.slice b2 mp d2) (.slice b3 mr d3)) 63)):=bb1.alloc bb1.size _;clear r1 hb1 r2 bb1 H0;go_wp2;go_ret;exact ⟨rfl,bb2⟩
  ·have i1:((ni:Int)==(mi:Int))=false:=by simp;omega
   have HO:Hid (alone (t.size,ni,np,nr) (t'.size,mi,mp,mr)=false):=by unfold Hid alone;simp [g0,g1]
   rw [HO.out];clear g0 g1;go_enter Tryz.func102,Tryz.ntmps102;go_wp2_with fail;refine (HC.out _).mono ?_;rintro e w1 ⟨rfl,hb1⟩;have r1:=RowAt.below H0.out.1 hb1 hlt;have bb1:=H0.out.2.trans (hb1.mono H0.out.2.size);have r2:RowAt (w1.alloc (.cells (vC k' t' (.slice b1 mi d1) (.slice b2 mp d2) (.slice b3 mr d3)) 63)) w.heap.size 63 (vC k t (.slice a1 ni c1) (.slice a2 np c2) (.slice a3 nr c3)):=RowAt.below r1 ((Below.refl _ w1).alloc (Nat.le_refl _) _) r1.lt;obtain ⟨e0,e1,e2,e3,e4⟩:=row5 r2;have bb2:Below w.heap.size w (w1.alloc (.cells (vC k' t' (.slice b1 mi d1) (.slice b2 mp d2) (.slice b3 mr d3)) 63)):=bb1.alloc bb1.size _;clear r1 hb1 r2 bb1 H0;go_wp2;go_ret;exact ⟨rfl,bb2⟩
 ·have i0:((t.size:Int)==(t'.size:Int))=false:=by simp;omega
  have HO:Hid (alone (t.size,ni,np,nr) (t'.size,mi,mp,mr)=false):=by unfold Hid alone;simp [g0]
  rw [HO.out];clear g0;go_enter Tryz.func102,Tryz.ntmps102;go_wp2_with fail;refine (HC.out _).mono ?_;rintro e w1 ⟨rfl,hb1⟩;have r1:=RowAt.below H0.out.1 hb1 hlt;have bb1:=H0.out.2.trans (hb1.mono H0.out.2.size);have r2:RowAt (w1.alloc (.cells (vC k' t' (.slice b1 mi d1) (.slice b2 mp d2) (.slice b3 mr d3)) 63)) w.heap.size 63 (vC k t (.slice a1 ni c1) (.slice a2 np c2) (.slice a3 nr c3)):=RowAt.below r1 ((Below.refl _ w1).alloc (Nat.le_refl _) _) r1.lt;obtain ⟨e0,e1,e2,e3,e4⟩:=row5 r2;have bb2:Below w.heap.size w (w1.alloc (.cells (vC k' t' (.slice b1 mi d1) (.slice b2 mp d2) (.slice b3 mr d3)) 63)):=bb1.alloc bb1.size _;clear r1 hb1 r2 bb1 H0;go_wp2;go_ret;exact ⟨rfl,bb2⟩
theorem valOk_text (t:ByteArray) (a1 a2 a3:Option Addr) (ni c1 np c2 nr c3:Nat) (w:World) (o1 o2:Bool)
  (hH:∀W,Calls Tryz.prog 102 #[vlV 1 t (.slice a1 ni c1) (.slice a2 np c2) (.slice a3 nr c3),.iface 172 (.string t)] W fun e w'=>e= .returned (.bool o1)∧Below W.heap.size W w')
  (hR:∀W,Below w.heap.size w W→Calls Tryz.prog 189 #[(.string t)] W fun e w'=>e= .returned (.bool o2)∧Below W.heap.size W w'):
  Calls Tryz.prog 70 #[vlV 1 t (.slice a1 ni c1) (.slice a2 np c2) (.slice a3 nr c3)] w fun e w'=>e= .returned (.bool (o1&&o2))∧Below w.heap.size w w':=by
 have HC:Hid (∀W,Calls Tryz.prog 71 #[vlV 1 t (.slice a1 ni c1) (.slice a2 np c2) (.slice a3 nr c3)] W fun e w'=>e= .returned (.iface 172 (.string t))∧Below W.heap.size W w'):=fun W=>contentOf_text t a1 a2 a3 ni c1 np c2 nr c3 W;have HH:Hid (∀W,Calls Tryz.prog 102 #[vlV 1 t (.slice a1 ni c1) (.slice a2 np c2) (.slice a3 nr c3),.iface 172 (.string t)] W fun e w'=>e= .returned (.bool o1)∧Below W.heap.size W w'):=hH;have HR:Hid (∀W,Below w.heap.size w W→Calls Tryz.prog 189 #[(.string t)] W fun e w'=>e= .returned (.bool o2)∧Below W.heap.size W w'):=hR;have H0:Hid (RowAt (w.alloc (.cells (vC 1 t (.slice a1 ni c1) (.slice a2 np c2) (.slice a3 nr c3)) 63)) w.heap.size 63 (vC 1 t (.slice a1 ni c1) (.slice a2 np c2) (.slice a3 nr c3))∧Below w.heap.size w (w.alloc (.cells (vC 1 t (.slice a1 ni c1) (.slice a2 np c2) (.slice a3 nr c3)) 63))):=⟨RowAt.new w 63 _,(Below.refl _ w).alloc (Nat.le_refl _) _⟩;have hlt:w.heap.size<(w.alloc (.cells (vC 1 t (.slice a1 ni c1) (.slice a2 np c2) (.slice a3 nr c3)) 63)).heap.size:=by simp
 clear hH hR;go_enter Tryz.func70,Tryz.ntmps70;go_wp2_with fail;refine (HC.out _).mono ?_;rintro e w1 ⟨rfl,hb1⟩;have r1:=RowAt.below H0.out.1 hb1 hlt;have bb1:=H0.out.2.trans (hb1.mono H0.out.2.size);obtain ⟨e0,e1,e2,e3,e4⟩:=row5 r1;clear r1 hb1 H0;cases o1 with
 |false=>
  go_wp2_with fail;refine (HH.out _).mono ?_;rintro e w2 ⟨rfl,hb2⟩;have bb2:=bb1.trans (hb2.mono bb1.size);go_wp2;go_ret;exact ⟨rfl,bb2⟩
 |true=>
  go_wp2_with fail;refine (HH.out _).mono ?_;rintro e w2 ⟨rfl,hb2⟩;have bb2:=bb1.trans (hb2.mono bb1.size);clear hb2 bb1 e0 e1 e2 e3 e4;go_wp2_with fail;refine (HR.out _ bb2).mono ?_;rintro e w3 ⟨rfl,hb3⟩;have bb3:=bb2.trans (hb3.mono bb2.size);go_wp2;go_ret;exact ⟨rfl,bb3⟩
theorem valOk_items (t:ByteArray) (a1 a2 a3:Option Addr) (ni c1 np c2 nr c3:Nat) (w:World) (o1 o2:Bool)
  (hH:∀W,Calls Tryz.prog 102 #[vlV 2 t (.slice a1 ni c1) (.slice a2 np c2) (.slice a3 nr c3),.iface 173 (.slice a1 ni c1)] W fun e w'=>e= .returned (.bool o1)∧Below W.heap.size W w')
  (hR:∀W,Below w.heap.size w W→Calls Tryz.prog 192 #[(.slice a1 ni c1)] W fun e w'=>e= .returned (.bool o2)∧Below W.heap.size W w'):
  Calls Tryz.prog 70 #[vlV 2 t (.slice a1 ni c1) (.slice a2 np c2) (.slice a3 nr c3)] w fun e w'=>e= .returned (.bool (o1&&o2))∧Below w.heap.size w w':=by
 have HC:Hid (∀W,Calls Tryz.prog 71 #[vlV 2 t (.slice a1 ni c1) (.slice a2 np c2) (.slice a3 nr c3)] W fun e w'=>e= .returned (.iface 173 (.slice a1 ni c1))∧Below W.heap.size W w'):=fun W=>contentOf_items t a1 a2 a3 ni c1 np c2 nr c3 W;have HH:Hid (∀W,Calls Tryz.prog 102 #[vlV 2 t (.slice a1 ni c1) (.slice a2 np c2) (.slice a3 nr c3),.iface 173 (.slice a1 ni c1)] W fun e w'=>e= .returned (.bool o1)∧Below W.heap.size W w'):=hH;have HR:Hid (∀W,Below w.heap.size w W→Calls Tryz.prog 192 #[(.slice a1 ni c1)] W fun e w'=>e= .returned (.bool o2)∧Below W.heap.size W w'):=hR;have H0:Hid (RowAt (w.alloc (.cells (vC 2 t (.slice a1 ni c1) (.slice a2 np c2) (.slice a3 nr c3)) 63)) w.heap.size 63 (vC 2 t (.slice a1 ni c1) (.slice a2 np c2) (.slice a3 nr c3))∧Below w.heap.size w (w.alloc (.cells (vC 2 t (.slice a1 ni c1) (.slice a2 np c2) (.slice a3 nr c3)) 63))):=⟨RowAt.new w 63 _,(Below.refl _ w).alloc (Nat.le_refl _) _⟩;have hlt:w.heap.size<(w.alloc (.cells (vC 2 t (.slice a1 ni c1) (.slice a2 np c2) (.slice a3 nr c3)) 63)).heap.size:=by simp
 clear hH hR;go_enter Tryz.func70,Tryz.ntmps70;go_wp2_with fail;refine (HC.out _).mono ?_;rintro e w1 ⟨rfl,hb1⟩;have r1:=RowAt.below H0.out.1 hb1 hlt;have bb1:=H0.out.2.trans (hb1.mono H0.out.2.size);obtain ⟨e0,e1,e2,e3,e4⟩:=row5 r1;clear r1 hb1 H0;cases o1 with
 |false=>
  go_wp2_with fail;refine (HH.out _).mono ?_;rintro e w2 ⟨rfl,hb2⟩;have bb2:=bb1.trans (hb2.mono bb1.size);go_wp2;go_ret;exact ⟨rfl,bb2⟩
 |true=>
  go_wp2_with fail;refine (HH.out _).mono ?_;rintro e w2 ⟨rfl,hb2⟩;have bb2:=bb1.trans (hb2.mono bb1.size);clear hb2 bb1 e0 e1 e2 e3 e4;go_wp2_with fail;refine (HR.out _ bb2).mono ?_;rintro e w3 ⟨rfl,hb3⟩;have bb3:=bb2.trans (hb3.mono bb2.size);go_wp2;go_ret;exact ⟨rfl,bb3⟩
theorem valOk_pairs (t:ByteArray) (a1 a2 a3:Option Addr) (ni c1 np c2 nr c3:Nat) (w:World) (o1 o2:Bool)
  (hH:∀W,Calls Tryz.prog 102 #[vlV 3 t (.slice a1 ni c1) (.slice a2 np c2) (.slice a3 nr c3),.iface 174 (.slice a2 np c2)] W fun e w'=>e= .returned (.bool o1)∧Below W.heap.size W w')
  (hR:∀W,Below w.heap.size w W→Calls Tryz.prog 195 #[(.slice a2 np c2)] W fun e w'=>e= .returned (.bool o2)∧Below W.heap.size W w'):
  Calls Tryz.prog 70 #[vlV 3 t (.slice a1 ni c1) (.slice a2 np c2) (.slice a3 nr c3)] w fun e w'=>e= .returned (.bool (o1&&o2))∧Below w.heap.size w w':=by
 have HC:Hid (∀W,Calls Tryz.prog 71 #[vlV 3 t (.slice a1 ni c1) (.slice a2 np c2) (.slice a3 nr c3)] W fun e w'=>e= .returned (.iface 174 (.slice a2 np c2))∧Below W.heap.size W w'):=fun W=>contentOf_pairs t a1 a2 a3 ni c1 np c2 nr c3 W;have HH:Hid (∀W,Calls Tryz.prog 102 #[vlV 3 t (.slice a1 ni c1) (.slice a2 np c2) (.slice a3 nr c3),.iface 174 (.slice a2 np c2)] W fun e w'=>e= .returned (.bool o1)∧Below W.heap.size W w'):=hH;have HR:Hid (∀W,Below w.heap.size w W→Calls Tryz.prog 195 #[(.slice a2 np c2)] W fun e w'=>e= .returned (.bool o2)∧Below W.heap.size W w'):=hR;have H0:Hid (RowAt (w.alloc (.cells (vC 3 t (.slice a1 ni c1) (.slice a2 np c2) (.slice a3 nr c3)) 63)) w.heap.size 63 (vC 3 t (.slice a1 ni c1) (.slice a2 np c2) (.slice a3 nr c3))∧Below w.heap.size w (w.alloc (.cells (vC 3 t (.slice a1 ni c1) (.slice a2 np c2) (.slice a3 nr c3)) 63))):=⟨RowAt.new w 63 _,(Below.refl _ w).alloc (Nat.le_refl _) _⟩;have hlt:w.heap.size<(w.alloc (.cells (vC 3 t (.slice a1 ni c1) (.slice a2 np c2) (.slice a3 nr c3)) 63)).heap.size:=by simp
 clear hH hR;go_enter Tryz.func70,Tryz.ntmps70;go_wp2_with fail;refine (HC.out _).mono ?_;rintro e w1 ⟨rfl,hb1⟩;have r1:=RowAt.below H0.out.1 hb1 hlt;have bb1:=H0.out.2.trans (hb1.mono H0.out.2.size);obtain ⟨e0,e1,e2,e3,e4⟩:=row5 r1;clear r1 hb1 H0;cases o1 with
 |false=>
  go_wp2_with fail;refine (HH.out _).mono ?_;rintro e w2 ⟨rfl,hb2⟩;have bb2:=bb1.trans (hb2.mono bb1.size);go_wp2;go_ret;exact ⟨rfl,bb2⟩
 |true=>
  go_wp2_with fail;refine (HH.out _).mono ?_;rintro e w2 ⟨rfl,hb2⟩;have bb2:=bb1.trans (hb2.mono bb1.size);clear hb2 bb1 e0 e1 e2 e3 e4;go_wp2_with fail;refine (HR.out _ bb2).mono ?_;rintro e w3 ⟨rfl,hb3⟩;have bb3:=bb2.trans (hb3.mono bb2.size);go_wp2;go_ret;exact ⟨rfl,bb3⟩
theorem valOk_ranks (t:ByteArray) (a1 a2 a3:Option Addr) (ni c1 np c2 nr c3:Nat) (w:World) (o1 o2:Bool)
  (hH:∀W,Calls Tryz.prog 102 #[vlV 4 t (.slice a1 ni c1) (.slice a2 np c2) (.slice a3 nr c3),.iface 175 (.slice a3 nr c3)] W fun e w'=>e= .returned (.bool o1)∧Below W.heap.size W w')
  (hR:∀W,Below w.heap.size w W→Calls Tryz.prog 200 #[(.slice a3 nr c3)] W fun e w'=>e= .returned (.bool o2)∧Below W.heap.size W w'):
  Calls Tryz.prog 70 #[vlV 4 t (.slice a1 ni c1) (.slice a2 np c2) (.slice a3 nr c3)] w fun e w'=>e= .returned (.bool (o1&&o2))∧Below w.heap.size w w':=by
 have HC:Hid (∀W,Calls Tryz.prog 71 #[vlV 4 t (.slice a1 ni c1) (.slice a2 np c2) (.slice a3 nr c3)] W fun e w'=>e= .returned (.iface 175 (.slice a3 nr c3))∧Below W.heap.size W w'):=fun W=>contentOf_ranks t a1 a2 a3 ni c1 np c2 nr c3 W;have HH:Hid (∀W,Calls Tryz.prog 102 #[vlV 4 t (.slice a1 ni c1) (.slice a2 np c2) (.slice a3 nr c3),.iface 175 (.slice a3 nr c3)] W fun e w'=>e= .returned (.bool o1)∧Below W.heap.size W w'):=hH;have HR:Hid (∀W,Below w.heap.size w W→Calls Tryz.prog 200 #[(.slice a3 nr c3)] W fun e w'=>e= .returned (.bool o2)∧Below W.heap.size W w'):=hR;have H0:Hid (RowAt (w.alloc (.cells (vC 4 t (.slice a1 ni c1) (.slice a2 np c2) (.slice a3 nr c3)) 63)) w.heap.size 63 (vC 4 t (.slice a1 ni c1) (.slice a2 np c2) (.slice a3 nr c3))∧Below w.heap.size w (w.alloc (.cells (vC 4 t (.slice a1 ni c1) (.slice a2 np c2) (.slice a3 nr c3)) 63))):=⟨RowAt.new w 63 _,(Below.refl _ w).alloc (Nat.le_refl _) _⟩;have hlt:w.heap.size<(w.alloc (.cells (vC 4 t (.slice a1 ni c1) (.slice a2 np c2) (.slice a3 nr c3)) 63)).heap.size:=by simp
 clear hH hR;go_enter Tryz.func70,Tryz.ntmps70;go_wp2_with fail;refine (HC.out _).mono ?_;rintro e w1 ⟨rfl,hb1⟩;have r1:=RowAt.below H0.out.1 hb1 hlt;have bb1:=H0.out.2.trans (hb1.mono H0.out.2.size);obtain ⟨e0,e1,e2,e3,e4⟩:=row5 r1;clear r1 hb1 H0;cases o1 with
 |false=>
  go_wp2_with fail;refine (HH.out _).mono ?_;rintro e w2 ⟨rfl,hb2⟩;have bb2:=bb1.trans (hb2.mono bb1.size);go_wp2;go_ret;exact ⟨rfl,bb2⟩
 |true=>
  go_wp2_with fail;refine (HH.out _).mono ?_;rintro e w2 ⟨rfl,hb2⟩;have bb2:=bb1.trans (hb2.mono bb1.size);clear hb2 bb1 e0 e1 e2 e3 e4;go_wp2_with fail;refine (HR.out _ bb2).mono ?_;rintro e w3 ⟨rfl,hb3⟩;have bb3:=bb2.trans (hb3.mono bb2.size);go_wp2;go_ret;exact ⟨rfl,bb3⟩
theorem valOk_else (k:Int) (t:ByteArray) (a1 a2 a3:Option Addr) (ni c1 np c2 nr c3:Nat) (w:World) (k1:(k==1)=false) (k2:(k==2)=false) (k3:(k==3)=false) (k4:(k==4)=false):
  Calls Tryz.prog 70 #[vlV k t (.slice a1 ni c1) (.slice a2 np c2) (.slice a3 nr c3)] w fun e w'=>e= .returned (.bool false)∧Below w.heap.size w w':=by
 have HC:Hid (∀W,Calls Tryz.prog 71 #[vlV k t (.slice a1 ni c1) (.slice a2 np c2) (.slice a3 nr c3)] W fun e w'=>e= .returned .nilIface∧Below W.heap.size W w'):=fun W=>contentOf_else k t a1 a2 a3 ni c1 np c2 nr c3 W k1 k2 k3 k4;have hb:Below w.heap.size w (w.alloc (.cells (vC k t (.slice a1 ni c1) (.slice a2 np c2) (.slice a3 nr c3)) 63)):=(Below.refl _ w).alloc (Nat.le_refl _) _;have HB:Hid (Below w.heap.size w (w.alloc (.cells (vC k t (.slice a1 ni c1) (.slice a2 np c2) (.slice a3 nr c3)) 63))):=hb;clear hb k1 k2 k3 k4;go_enter Tryz.func70,Tryz.ntmps70;go_wp2_with fail;refine (HC.out _).mono ?_;rintro e w1 ⟨rfl,hb1⟩;have bb1:=HB.out.trans (hb1.mono HB.out.size);clear hb1;go_wp2;go_ret;exact ⟨rfl,bb1⟩
theorem implOk_any (v:Vl) (vi vp vr:Value) (B:Nat) (w:World) (h:VOwn w B v vi vp vr) (hf:VFit v) (hp2:v.pairs.length≤500000) (hfl:Kk.FitL v.ranks) (hR:Ready w):
  Calls Tryz.prog 70 #[vlV v.kind v.text vi vp vr] w fun e w'=>e= .returned (.bool (vokB v))∧Below w.heap.size w w':=by
 obtain ⟨k,t,is,ps,rs⟩:=v;obtain ⟨f1,f2,f3,f4⟩:=hf;dsimp only at f1 f2 f3 f4;obtain ⟨oi,op,or⟩:=h;dsimp only at oi op or hfl hp2;have h6:=hR.six;show Calls Tryz.prog 70 #[vlV k t vi vp vr] w fun e w'=>e= .returned (.bool (vokB ⟨k,t,is,ps,rs⟩))∧Below w.heap.size w w';obtain ⟨a1,c1,e1⟩:=zad oi;obtain ⟨a2,c2,e2⟩:=zad op;obtain ⟨a3,c3,e3⟩:=zad or;subst e1 e2 e3;have z0:(⟨#[]⟩:ByteArray).size=0:=rfl;by_cases k1:k=1
 ·subst k1;have:=valOk_text t a1 a2 a3 is.length c1 ps.length c2 rs.length c3 w _ (shortB t) (fun W=>holds_gen 1 t a1 a2 a3 is.length c1 ps.length c2 rs.length c3 _ 1 t none none none 0 0 0 0 0 0 W (fun W=>valueOf_text t W)) (fun W _=>bare_right t W);refine this.mono fun e w' ⟨he,hb⟩=>⟨?_,hb⟩;rw [he];refine zae ?_;unfold vokB alone none3;dsimp only;rw [if_pos rfl,Bool.eq_iff_iff];simp only [Bool.and_eq_true,decide_eq_true_iff];constructor
  ·rintro ⟨⟨_,q1,q2,q3⟩,q4⟩;exact ⟨q4,by omega⟩
  ·rintro ⟨q4,q5⟩;exact ⟨⟨by simp,by omega,by omega,by omega⟩,q4⟩
 by_cases k2:k=2
 ·subst k2;have:=valOk_items t a1 a2 a3 is.length c1 ps.length c2 rs.length c3 w _ (itemsB is) (fun W=>holds_gen 2 t a1 a2 a3 is.length c1 ps.length c2 rs.length c3 _ 2 ⟨#[]⟩ a1 none none is.length c1 0 0 0 0 W (fun W=>valueOf_items a1 is.length c1 W)) (fun W hb=> (items_right (zaf oi hb) (by omega)).mono fun e w' ⟨he,hw⟩=>⟨he,by rw [hw];exact Below.refl _ _⟩);refine this.mono fun e w' ⟨he,hb⟩=>⟨?_,hb⟩;rw [he];refine zae ?_;unfold vokB alone none3;dsimp only;rw [if_neg (by decide),if_pos rfl,Bool.eq_iff_iff,z0];simp only [Bool.and_eq_true,decide_eq_true_iff];constructor
  ·rintro ⟨⟨q0,_,q2,q3⟩,q4⟩;exact ⟨q0,by omega,q4⟩
  ·rintro ⟨q0,q1,q4⟩;exact ⟨⟨q0,by simp,by omega,by omega⟩,q4⟩
 by_cases k3:k=3
 ·subst k3
  have:=valOk_pairs t a1 a2 a3 is.length c1 ps.length c2 rs.length c3 w _ (pairsB ps) (fun W=>holds_gen 3 t a1 a2 a3 is.length c1 ps.length c2 rs.length c3 _ 3 ⟨#[]⟩ none a2 none 0 0 ps.length c2 0 0 W (fun W=>valueOf_pairs a2 ps.length c2 W)) (fun W hb=>by
   obtain ⟨a,A,c,hv,hin⟩:=ownP_in (zaf op hb);rw [hv];exact pairs_right a A _ c _ W hin (by omega))
  refine this.mono fun e w' ⟨he,hb⟩=>⟨?_,hb⟩;rw [he];refine zae ?_;unfold vokB alone none3;dsimp only;rw [if_neg (by decide),if_neg (by decide),if_pos rfl,Bool.eq_iff_iff,z0];simp only [Bool.and_eq_true,decide_eq_true_iff];constructor
  ·rintro ⟨⟨q0,q1,_,q3⟩,q4⟩;exact ⟨q0,by omega,q4⟩
  ·rintro ⟨q0,q1,q4⟩;exact ⟨⟨q0,by omega,by simp,by omega⟩,q4⟩
 by_cases k4:k=4
 ·subst k4
  have:=valOk_ranks t a1 a2 a3 is.length c1 ps.length c2 rs.length c3 w _ (zeb rs) (fun W=>holds_gen 4 t a1 a2 a3 is.length c1 ps.length c2 rs.length c3 _ 4 ⟨#[]⟩ none none a3 0 0 0 0 rs.length c3 W (fun W=>valueOf_ranks a3 rs.length c3 W)) (fun W hb=>by
   obtain ⟨a,A,c,hv,hin⟩:=Kk.ownR_any (zaf or hb);rw [hv];have hRW:=hR.below (hb.mono h6);have:=hRW.six;exact Kk.right_any a A 0 _ c rs W hin (by omega) hfl hRW.tab (by omega))
  refine this.mono fun e w' ⟨he,hb⟩=>⟨?_,hb⟩;rw [he];refine zae ?_;unfold vokB alone none3 zeb;dsimp only;rw [if_neg (by decide),if_neg (by decide),if_neg (by decide),if_pos rfl,Bool.eq_iff_iff,z0];simp only [Bool.and_eq_true,decide_eq_true_iff];constructor
  ·rintro ⟨⟨q0,q1,q2,_⟩,q4,q5⟩;exact ⟨q0,by omega,by omega,q5⟩
  ·rintro ⟨q0,q1,q4,q5⟩;exact ⟨⟨q0,by omega,by omega,by simp⟩,by omega,q5⟩
 ·have:=valOk_else k t a1 a2 a3 is.length c1 ps.length c2 rs.length c3 w (by simpa using k1) (by simpa using k2) (by simpa using k3) (by simpa using k4);refine this.mono fun e w' ⟨he,hb⟩=>⟨?_,hb⟩;rw [he];refine zae ?_;unfold vokB;rw [if_neg k1,if_neg k2,if_neg k3,if_neg k4]
end Go.Proofs.YtjpeglkkkllagaaGreatDoor
