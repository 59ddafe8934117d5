import Derived.Test.YtokafonppgppdaaGreatDoorC42
import Derived.Test.YtokafonppgppdaaGreatDoorDc
set_option maxHeartbeats 8000000
set_option maxRecDepth 100000
namespace Go.Proofs.YtokafonppgppdaaGreatDoor
section
open Tryz
open Go.RowKit Go.Sort
section
variable (rb:Nat) (a:Option Addr) (n c:Nat) (w:World)
theorem J3(h:Rd w rb a n c)(hrb:rb<w.heap.size):
  Calls prog 80 #[.pointer (some ⟨rb,0,none⟩)] w (A7 w rb a n c):=by
 have hl:=Fc.new w 9 #[.string ⟨#[107]⟩,.string ⟨#[108]⟩,.string ⟨#[104]⟩,.string ⟨#[122]⟩,.string ⟨#[107]⟩];have hb:Bl w (w.alloc (.cells #[.string ⟨#[107]⟩,.string ⟨#[108]⟩,.string ⟨#[104]⟩,.string ⟨#[122]⟩,.string ⟨#[107]⟩] 9)):=(Qb _ w).alloc (Qc _) _;have hs:Oz #[.string ⟨#[107]⟩,.string ⟨#[108]⟩,.string ⟨#[104]⟩,.string ⟨#[122]⟩,.string ⟨#[107]⟩]:=O8 [⟨#[107]⟩,⟨#[108]⟩,⟨#[104]⟩,⟨#[122]⟩,⟨#[107]⟩] (by decide);go_enter func80,ntmps80;go_wp2_with fail;generalize w.alloc (.cells #[.string ⟨#[107]⟩,.string ⟨#[108]⟩,.string ⟨#[104]⟩,.string ⟨#[122]⟩,.string ⟨#[107]⟩] 9)=w1 at*;refine(Mb rb a n c 5 w1 (h.bw hb hrb) (by omega) (by omega)).mono ?_;rintro e w2⟨j,rfl,hj,r2,g2⟩;have gg:=G4 (Ly (Nl w _) hb) g2;obtain⟨s,hc,hz⟩:=Oi (Nc hl g2 (by omega)) hs j (by simpa using hj);have j0:(0:Int)<=(j:Int):=by omega
 have j1:(j:Int)<5:=by omega
 clear hl hb hs g2;go_wp2;go_ret;exact⟨s,rfl,hz,r2,gg⟩
theorem Pi(h:Rd w rb a n c)(hrb:rb<w.heap.size):
  Calls prog 85 #[.pointer (some ⟨rb,0,none⟩)] w (A7 w rb a n c):=by
 have hl:=Fc.new w 9 #[.string ⟨#[48]⟩,.string ⟨#[49]⟩,.string ⟨#[45,49]⟩,.string ⟨#[53]⟩,.string ⟨#[50]⟩,.string ⟨#[49,48,48]⟩,.string ⟨#[120]⟩];have hb:Bl w (w.alloc (.cells #[.string ⟨#[48]⟩,.string ⟨#[49]⟩,.string ⟨#[45,49]⟩,.string ⟨#[53]⟩,.string ⟨#[50]⟩,.string ⟨#[49,48,48]⟩,.string ⟨#[120]⟩] 9)):=(Qb _ w).alloc (Qc _) _;have hs:Oz #[.string ⟨#[48]⟩,.string ⟨#[49]⟩,.string ⟨#[45,49]⟩,.string ⟨#[53]⟩,.string ⟨#[50]⟩,.string ⟨#[49,48,48]⟩,.string ⟨#[120]⟩]:=O8 [⟨#[48]⟩,⟨#[49]⟩,⟨#[45,49]⟩,⟨#[53]⟩,⟨#[50]⟩,⟨#[49,48,48]⟩,⟨#[120]⟩] (by decide);go_enter func85,ntmps85;go_wp2_with fail;generalize w.alloc (.cells #[.string ⟨#[48]⟩,.string ⟨#[49]⟩,.string ⟨#[45,49]⟩,.string ⟨#[53]⟩,.string ⟨#[50]⟩,.string ⟨#[49,48,48]⟩,.string ⟨#[120]⟩] 9)=w1 at*;refine(Mb rb a n c 7 w1 (h.bw hb hrb) (by omega) (by omega)).mono ?_;rintro e w2⟨j,rfl,hj,r2,g2⟩;have gg:=G4 (Ly (Nl w _) hb) g2;obtain⟨s,hc,hz⟩:=Oi (Nc hl g2 (by omega)) hs j (by simpa using hj);have j0:(0:Int)<=(j:Int):=by omega
 have j1:(j:Int)<7:=by omega
 clear hl hb hs g2;go_wp2;go_ret;exact⟨s,rfl,hz,r2,gg⟩
end
def ybt (w:World) (rb:Nat) (a:Option Addr) (n c:Nat) (e:Ending) (w':World):Prop:=
 ∃(x:Option Addr) (B off cap:Nat) (ss:List ByteArray),e= .returned (.slice x ss.length cap)/\Fs w' x B off ss.length ss/\ss.length<=6/\ss.length<=cap/\Rd w' rb a n c/\w.grownBy w' (some rb)/\∀s∈ss,s.size<=20
theorem yer(w:World)(ss:List ByteArray)(h:∀s∈ss,s.size<=20):Fs (w.alloc (.cells (ss.map Value.string).toArray 9)) (some ⟨w.heap.size,0,none⟩) w.heap.size 0 ss.length ss:=by
 have hr:=Fc.new w 9 (ss.map Value.string).toArray;refine⟨rfl,fun _=>rfl,fun _=>hr.lt,fun i hi=>?_,fun i hi=>?_⟩
 ·rw[Qq,hr.cell i,Qa,Qd hi];simp[hi]
 ·have:=h ss[i] (Qv hi);rw[Qa,Qd hi];show ss[i].size<=_;omega
theorem Fp{s:ByteArray}{ss:List ByteArray}(h:s.size<=20)(h2:∀x∈ss,x.size<=20):∀x∈s::ss,x.size<=20:=fun x hx=>by
 rcases List.mem_cons.1 hx with rfl|hx
 ·exact h
 ·exact h2 x hx
theorem Hw:∀x∈([]:List ByteArray),x.size<=20:=fun x hx=>by cases hx
theorem Hq{w wk:World}{rb:Nat}{a:Option Addr}{n c:Nat}(ss:List ByteArray)(hs:∀s∈ss,s.size<=20)(hl:ss.length<=6)(r:Rd wk rb a n c)(hrb:rb<wk.heap.size)(g:w.grownBy wk (some rb)):
  ybt w rb a n c (.returned (.slice (some ⟨wk.heap.size,0,none⟩) ss.length ss.length)) (wk.alloc (.cells (ss.map Value.string).toArray 9)):=by
 have hb:Bl wk (wk.alloc (.cells (ss.map Value.string).toArray 9)):=(Qb _ wk).alloc (Qc _) _;exact⟨_,_,_,_,ss,rfl,yer wk ss hs,hl,Qc _,r.bw hb hrb,Ly g hb,hs⟩
theorem Y7(rb:Nat)(a:Option Addr)(n c:Nat)(w:World)(h:Rd w rb a n c)(hrb:rb<w.heap.size):
  Calls prog 44 #[.pointer (some ⟨rb,0,none⟩)] w (ybt w rb a n c):=by
 go_enter func44,ntmps44;go_wp2_with fail;refine(J3 rb a n c w h hrb).mono ?_;rintro e w1⟨s1,rfl,z1,r1,g1⟩;have b1:=Ld hrb g1;go_wp2_with fail;refine(Bh rb a n c w1 r1 b1).mono ?_;rintro e w2⟨s2,rfl,z2,r2,Gc⟩;have g2:=G4 g1 Gc;have b2:=Ld b1 Gc;have hl:=Fc.new w2 9 #[.string ⟨#[102]⟩,.string ⟨#[103]⟩,.string ⟨#[104]⟩];have hb:Bl w2 (w2.alloc (.cells #[.string ⟨#[102]⟩,.string ⟨#[103]⟩,.string ⟨#[104]⟩] 9)):=(Qb _ w2).alloc (Qc _) _;have hs:Oz #[.string ⟨#[102]⟩,.string ⟨#[103]⟩,.string ⟨#[104]⟩]:=O8 [⟨#[102]⟩,⟨#[103]⟩,⟨#[104]⟩] (by decide);go_wp2_with fail;generalize w2.alloc (.cells #[.string ⟨#[102]⟩,.string ⟨#[103]⟩,.string ⟨#[104]⟩] 9)=w3 at*;refine(Mb rb a n c 3 w3 (r2.bw hb b2) (by omega) (by omega)).mono ?_;rintro e w4⟨j,rfl,hj,r4,Gd⟩;have g4:=G4 (Ly g2 hb) Gd;have b4:=Ld hrb g4;obtain⟨s3,hc,z3⟩:=Oi (Nc hl Gd (by omega)) hs j (by simpa using hj);have j0:(0:Int)<=(j:Int):=by omega
 have j1:(j:Int)<3:=by omega
 clear hl hb hs Gd g2 Gc g1 r1 r2 b1 b2 h;go_wp2_with fail;refine(Ww rb a n c 40 w4 r4 (by omega) (by omega)).mono ?_;rintro e w5⟨k,rfl,k0,k1,r5,Ge⟩;have g5:=G4 g4 Ge;have b5:=Ld hrb g5;clear hc j0 j1 hj Ge g4 r4 b4;have hk:k=0\/k=1\/k=2\/k=3\/k=4\/k=5\/k=6\/k=7\/k=8\/k=9\/k=10\/k=11\/k=12\/k=13\/k=14\/k=15\/k=16\/k=17\/k=18\/k=19\/k=20\/k=21\/k=22\/k=23\/k=24\/k=25\/k=26\/k=27\/k=28\/k=29\/k=30\/k=31\/k=32\/k=33\/k=34\/k=35\/k=36\/k=37\/k=38\/k=39:=by omega
 clear k0 k1;rcases hk with rfl|rfl|rfl|rfl|rfl|rfl|rfl|rfl|rfl|rfl|rfl|rfl|rfl|rfl|rfl|rfl|rfl|rfl|rfl|rfl|rfl|rfl|rfl|rfl|rfl|rfl|rfl|rfl|rfl|rfl|rfl|rfl|rfl|rfl|rfl|rfl|rfl|rfl|rfl|rfl
 ·go_wp2;go_ret;exact Hq [⟨#[80,73,78,71]⟩] (Fp (by decide) Hw) (by simp) r5 b5 g5
 ·go_wp2;go_ret;exact Hq [⟨#[83,69,84]⟩,s1,s2] (Fp (by decide) (Fp z1 (Fp z2 Hw))) (by simp) r5 b5 g5
 ·go_wp2;go_ret;exact Hq [⟨#[83,69,84]⟩,s1,s2] (Fp (by decide) (Fp z1 (Fp z2 Hw))) (by simp) r5 b5 g5
 ·go_wp2;go_ret;exact Hq [⟨#[83,69,84]⟩,s1,s2] (Fp (by decide) (Fp z1 (Fp z2 Hw))) (by simp) r5 b5 g5
 ·go_wp2_with fail;refine(Pi rb a n c w5 r5 b5).mono ?_;rintro e w6⟨s6,rfl,z6,r6,Gb⟩;have g6:=G4 g5 Gb;have b6:=Ld b5 Gb;go_wp2;go_ret;exact Hq [⟨#[83,69,84]⟩,s1,s2,⟨#[69,88]⟩,s6] (Fp (by decide) (Fp z1 (Fp z2 (Fp (by decide) (Fp z6 Hw))))) (by simp) r6 b6 g6
 ·go_wp2;go_ret;exact Hq [⟨#[71,69,84]⟩,s1] (Fp (by decide) (Fp z1 Hw)) (by simp) r5 b5 g5
 ·go_wp2;go_ret;exact Hq [⟨#[71,69,84]⟩,s1] (Fp (by decide) (Fp z1 Hw)) (by simp) r5 b5 g5
 ·go_wp2_with fail;refine(Pi rb a n c w5 r5 b5).mono ?_;rintro e w6⟨s6,rfl,z6,r6,Gb⟩;have g6:=G4 g5 Gb;have b6:=Ld b5 Gb;go_wp2;go_ret;exact Hq [⟨#[73,78,67,82,66,89]⟩,s1,s6] (Fp (by decide) (Fp z1 (Fp z6 Hw))) (by simp) r6 b6 g6
 ·go_wp2;go_ret;exact Hq [⟨#[65,80,80,69,78,68]⟩,s1,s2] (Fp (by decide) (Fp z1 (Fp z2 Hw))) (by simp) r5 b5 g5
 ·go_wp2_with fail;refine(J3 rb a n c w5 r5 b5).mono ?_;rintro e w6⟨s6,rfl,z6,r6,Gb⟩;have g6:=G4 g5 Gb;have b6:=Ld b5 Gb;go_wp2;go_ret;exact Hq [⟨#[68,69,76]⟩,s1,s6] (Fp (by decide) (Fp z1 (Fp z6 Hw))) (by simp) r6 b6 g6
 ·go_wp2;go_ret;exact Hq [⟨#[69,88,73,83,84,83]⟩,s1,⟨#[108]⟩] (Fp (by decide) (Fp z1 (Fp (by decide) Hw))) (by simp) r5 b5 g5
 ·go_wp2;go_ret;exact Hq [⟨#[83,84,82,76,69,78]⟩,s1] (Fp (by decide) (Fp z1 Hw)) (by simp) r5 b5 g5
 ·go_wp2_with fail;refine(Pi rb a n c w5 r5 b5).mono ?_;rintro e w6⟨s6,rfl,z6,r6,Gb⟩;have g6:=G4 g5 Gb;have b6:=Ld b5 Gb;go_wp2_with fail;refine(Pi rb a n c w6 r6 b6).mono ?_;rintro e w7⟨s7,rfl,z7,r7,Ga⟩;have g7:=G4 g6 Ga;have b7:=Ld b6 Ga;go_wp2;go_ret;exact Hq [⟨#[71,69,84,82,65,78,71,69]⟩,s1,s6,s7] (Fp (by decide) (Fp z1 (Fp z6 (Fp z7 Hw)))) (by simp) r7 b7 g7
 ·go_wp2;go_ret;exact Hq [⟨#[84,89,80,69]⟩,s1] (Fp (by decide) (Fp z1 Hw)) (by simp) r5 b5 g5
 ·go_wp2_with fail;refine(Pi rb a n c w5 r5 b5).mono ?_;rintro e w6⟨s6,rfl,z6,r6,Gb⟩;have g6:=G4 g5 Gb;have b6:=Ld b5 Gb;go_wp2;go_ret;exact Hq [⟨#[69,88,80,73,82,69]⟩,s1,s6] (Fp (by decide) (Fp z1 (Fp z6 Hw))) (by simp) r6 b6 g6
 ·go_wp2;go_ret;exact Hq [⟨#[84,84,76]⟩,s1] (Fp (by decide) (Fp z1 Hw)) (by simp) r5 b5 g5
 ·have hl:=Fc.new w5 9 #[.string ⟨#[76,80,85,83,72]⟩,.string ⟨#[82,80,85,83,72]⟩,.string ⟨#[114,112,117,115,104]⟩];have hb:Bl w5 (w5.alloc (.cells #[.string ⟨#[76,80,85,83,72]⟩,.string ⟨#[82,80,85,83,72]⟩,.string ⟨#[114,112,117,115,104]⟩] 9)):=(Qb _ w5).alloc (Qc _) _;have hs:Oz #[.string ⟨#[76,80,85,83,72]⟩,.string ⟨#[82,80,85,83,72]⟩,.string ⟨#[114,112,117,115,104]⟩]:=O8 [⟨#[76,80,85,83,72]⟩,⟨#[82,80,85,83,72]⟩,⟨#[114,112,117,115,104]⟩] (by decide);go_wp2_with fail;generalize w5.alloc (.cells #[.string ⟨#[76,80,85,83,72]⟩,.string ⟨#[82,80,85,83,72]⟩,.string ⟨#[114,112,117,115,104]⟩] 9)=w6 at*;refine(Mb rb a n c 3 w6 (r5.bw hb b5) (by omega) (by omega)).mono ?_;rintro e w7⟨j,rfl,hj,r7,Ga⟩;have g7:=G4 (Ly g5 hb) Ga;have b7:=Ld hrb g7;obtain⟨s7,hc,z7⟩:=Oi (Nc hl Ga (by omega)) hs j (by simpa using hj);have j0:(0:Int)<=(j:Int):=by omega
  have j1:(j:Int)<3:=by omega
  clear hl hb hs Ga;go_wp2;go_ret;exact Hq [s7,⟨#[108]⟩,s2,s3] (Fp z7 (Fp (by decide) (Fp z2 (Fp z3 Hw)))) (by simp) r7 b7 g7
 ·have hl:=Fc.new w5 9 #[.string ⟨#[76,80,85,83,72]⟩,.string ⟨#[82,80,85,83,72]⟩,.string ⟨#[114,112,117,115,104]⟩];have hb:Bl w5 (w5.alloc (.cells #[.string ⟨#[76,80,85,83,72]⟩,.string ⟨#[82,80,85,83,72]⟩,.string ⟨#[114,112,117,115,104]⟩] 9)):=(Qb _ w5).alloc (Qc _) _;have hs:Oz #[.string ⟨#[76,80,85,83,72]⟩,.string ⟨#[82,80,85,83,72]⟩,.string ⟨#[114,112,117,115,104]⟩]:=O8 [⟨#[76,80,85,83,72]⟩,⟨#[82,80,85,83,72]⟩,⟨#[114,112,117,115,104]⟩] (by decide);go_wp2_with fail;generalize w5.alloc (.cells #[.string ⟨#[76,80,85,83,72]⟩,.string ⟨#[82,80,85,83,72]⟩,.string ⟨#[114,112,117,115,104]⟩] 9)=w6 at*;refine(Mb rb a n c 3 w6 (r5.bw hb b5) (by omega) (by omega)).mono ?_;rintro e w7⟨j,rfl,hj,r7,Ga⟩;have g7:=G4 (Ly g5 hb) Ga;have b7:=Ld hrb g7;obtain⟨s7,hc,z7⟩:=Oi (Nc hl Ga (by omega)) hs j (by simpa using hj);have j0:(0:Int)<=(j:Int):=by omega
  have j1:(j:Int)<3:=by omega
  clear hl hb hs Ga;go_wp2;go_ret;exact Hq [s7,⟨#[108]⟩,s2,s3] (Fp z7 (Fp (by decide) (Fp z2 (Fp z3 Hw)))) (by simp) r7 b7 g7
 ·have hl:=Fc.new w5 9 #[.string ⟨#[76,80,85,83,72]⟩,.string ⟨#[82,80,85,83,72]⟩,.string ⟨#[114,112,117,115,104]⟩];have hb:Bl w5 (w5.alloc (.cells #[.string ⟨#[76,80,85,83,72]⟩,.string ⟨#[82,80,85,83,72]⟩,.string ⟨#[114,112,117,115,104]⟩] 9)):=(Qb _ w5).alloc (Qc _) _;have hs:Oz #[.string ⟨#[76,80,85,83,72]⟩,.string ⟨#[82,80,85,83,72]⟩,.string ⟨#[114,112,117,115,104]⟩]:=O8 [⟨#[76,80,85,83,72]⟩,⟨#[82,80,85,83,72]⟩,⟨#[114,112,117,115,104]⟩] (by decide);go_wp2_with fail;generalize w5.alloc (.cells #[.string ⟨#[76,80,85,83,72]⟩,.string ⟨#[82,80,85,83,72]⟩,.string ⟨#[114,112,117,115,104]⟩] 9)=w6 at*;refine(Mb rb a n c 3 w6 (r5.bw hb b5) (by omega) (by omega)).mono ?_;rintro e w7⟨j,rfl,hj,r7,Ga⟩;have g7:=G4 (Ly g5 hb) Ga;have b7:=Ld hrb g7;obtain⟨s7,hc,z7⟩:=Oi (Nc hl Ga (by omega)) hs j (by simpa using hj);have j0:(0:Int)<=(j:Int):=by omega
  have j1:(j:Int)<3:=by omega
  clear hl hb hs Ga;go_wp2;go_ret;exact Hq [s7,⟨#[108]⟩,s2,s3] (Fp z7 (Fp (by decide) (Fp z2 (Fp z3 Hw)))) (by simp) r7 b7 g7
 ·have hl:=Fc.new w5 9 #[.string ⟨#[76,80,79,80]⟩,.string ⟨#[82,80,79,80]⟩,.string ⟨#[76,76,69,78]⟩];have hb:Bl w5 (w5.alloc (.cells #[.string ⟨#[76,80,79,80]⟩,.string ⟨#[82,80,79,80]⟩,.string ⟨#[76,76,69,78]⟩] 9)):=(Qb _ w5).alloc (Qc _) _;have hs:Oz #[.string ⟨#[76,80,79,80]⟩,.string ⟨#[82,80,79,80]⟩,.string ⟨#[76,76,69,78]⟩]:=O8 [⟨#[76,80,79,80]⟩,⟨#[82,80,79,80]⟩,⟨#[76,76,69,78]⟩] (by decide);go_wp2_with fail;generalize w5.alloc (.cells #[.string ⟨#[76,80,79,80]⟩,.string ⟨#[82,80,79,80]⟩,.string ⟨#[76,76,69,78]⟩] 9)=w6 at*;refine(Mb rb a n c 3 w6 (r5.bw hb b5) (by omega) (by omega)).mono ?_;rintro e w7⟨j,rfl,hj,r7,Ga⟩;have g7:=G4 (Ly g5 hb) Ga;have b7:=Ld hrb g7;obtain⟨s7,hc,z7⟩:=Oi (Nc hl Ga (by omega)) hs j (by simpa using hj);have j0:(0:Int)<=(j:Int):=by omega
  have j1:(j:Int)<3:=by omega
  clear hl hb hs Ga;go_wp2;go_ret;exact Hq [s7,⟨#[108]⟩] (Fp z7 (Fp (by decide) Hw)) (by simp) r7 b7 g7
 ·have hl:=Fc.new w5 9 #[.string ⟨#[76,80,79,80]⟩,.string ⟨#[82,80,79,80]⟩,.string ⟨#[76,76,69,78]⟩];have hb:Bl w5 (w5.alloc (.cells #[.string ⟨#[76,80,79,80]⟩,.string ⟨#[82,80,79,80]⟩,.string ⟨#[76,76,69,78]⟩] 9)):=(Qb _ w5).alloc (Qc _) _;have hs:Oz #[.string ⟨#[76,80,79,80]⟩,.string ⟨#[82,80,79,80]⟩,.string ⟨#[76,76,69,78]⟩]:=O8 [⟨#[76,80,79,80]⟩,⟨#[82,80,79,80]⟩,⟨#[76,76,69,78]⟩] (by decide);go_wp2_with fail;generalize w5.alloc (.cells #[.string ⟨#[76,80,79,80]⟩,.string ⟨#[82,80,79,80]⟩,.string ⟨#[76,76,69,78]⟩] 9)=w6 at*;refine(Mb rb a n c 3 w6 (r5.bw hb b5) (by omega) (by omega)).mono ?_;rintro e w7⟨j,rfl,hj,r7,Ga⟩;have g7:=G4 (Ly g5 hb) Ga;have b7:=Ld hrb g7;obtain⟨s7,hc,z7⟩:=Oi (Nc hl Ga (by omega)) hs j (by simpa using hj);have j0:(0:Int)<=(j:Int):=by omega
  have j1:(j:Int)<3:=by omega
  clear hl hb hs Ga;go_wp2;go_ret;exact Hq [s7,⟨#[108]⟩] (Fp z7 (Fp (by decide) Hw)) (by simp) r7 b7 g7
 ·go_wp2_with fail;refine(Pi rb a n c w5 r5 b5).mono ?_;rintro e w6⟨s6,rfl,z6,r6,Gb⟩;have g6:=G4 g5 Gb;have b6:=Ld b5 Gb;go_wp2_with fail;refine(Pi rb a n c w6 r6 b6).mono ?_;rintro e w7⟨s7,rfl,z7,r7,Ga⟩;have g7:=G4 g6 Ga;have b7:=Ld b6 Ga;go_wp2;go_ret;exact Hq [⟨#[76,82,65,78,71,69]⟩,⟨#[108]⟩,s6,s7] (Fp (by decide) (Fp (by decide) (Fp z6 (Fp z7 Hw)))) (by simp) r7 b7 g7
 ·go_wp2_with fail;refine(Pi rb a n c w5 r5 b5).mono ?_;rintro e w6⟨s6,rfl,z6,r6,Gb⟩;have g6:=G4 g5 Gb;have b6:=Ld b5 Gb;go_wp2_with fail;refine(Pi rb a n c w6 r6 b6).mono ?_;rintro e w7⟨s7,rfl,z7,r7,Ga⟩;have g7:=G4 g6 Ga;have b7:=Ld b6 Ga;go_wp2;go_ret;exact Hq [⟨#[76,82,65,78,71,69]⟩,⟨#[108]⟩,s6,s7] (Fp (by decide) (Fp (by decide) (Fp z6 (Fp z7 Hw)))) (by simp) r7 b7 g7
 ·go_wp2;go_ret;exact Hq [⟨#[72,83,69,84]⟩,⟨#[104]⟩,s3,s2,⟨#[103]⟩,⟨#[49]⟩] (Fp (by decide) (Fp (by decide) (Fp z3 (Fp z2 (Fp (by decide) (Fp (by decide) Hw)))))) (by simp) r5 b5 g5
 ·go_wp2;go_ret;exact Hq [⟨#[72,83,69,84]⟩,⟨#[104]⟩,s3,s2,⟨#[103]⟩,⟨#[49]⟩] (Fp (by decide) (Fp (by decide) (Fp z3 (Fp z2 (Fp (by decide) (Fp (by decide) Hw)))))) (by simp) r5 b5 g5
 ·go_wp2;go_ret;exact Hq [⟨#[72,71,69,84]⟩,⟨#[104]⟩,s3] (Fp (by decide) (Fp (by decide) (Fp z3 Hw))) (by simp) r5 b5 g5
 ·go_wp2;go_ret;exact Hq [⟨#[72,68,69,76]⟩,⟨#[104]⟩,s3,⟨#[102]⟩] (Fp (by decide) (Fp (by decide) (Fp z3 (Fp (by decide) Hw)))) (by simp) r5 b5 g5
 ·have hl:=Fc.new w5 9 #[.string ⟨#[72,76,69,78]⟩,.string ⟨#[72,71,69,84,65,76,76]⟩,.string ⟨#[90,67,65,82,68]⟩];have hb:Bl w5 (w5.alloc (.cells #[.string ⟨#[72,76,69,78]⟩,.string ⟨#[72,71,69,84,65,76,76]⟩,.string ⟨#[90,67,65,82,68]⟩] 9)):=(Qb _ w5).alloc (Qc _) _;have hs:Oz #[.string ⟨#[72,76,69,78]⟩,.string ⟨#[72,71,69,84,65,76,76]⟩,.string ⟨#[90,67,65,82,68]⟩]:=O8 [⟨#[72,76,69,78]⟩,⟨#[72,71,69,84,65,76,76]⟩,⟨#[90,67,65,82,68]⟩] (by decide);go_wp2_with fail;generalize w5.alloc (.cells #[.string ⟨#[72,76,69,78]⟩,.string ⟨#[72,71,69,84,65,76,76]⟩,.string ⟨#[90,67,65,82,68]⟩] 9)=w6 at*;refine(Mb rb a n c 3 w6 (r5.bw hb b5) (by omega) (by omega)).mono ?_;rintro e w7⟨j,rfl,hj,r7,Ga⟩;have g7:=G4 (Ly g5 hb) Ga;have b7:=Ld hrb g7;obtain⟨s7,hc,z7⟩:=Oi (Nc hl Ga (by omega)) hs j (by simpa using hj);have j0:(0:Int)<=(j:Int):=by omega
  have j1:(j:Int)<3:=by omega
  clear hl hb hs Ga;go_wp2;go_ret;exact Hq [s7,⟨#[104]⟩] (Fp z7 (Fp (by decide) Hw)) (by simp) r7 b7 g7
 ·go_wp2_with fail;refine(Pi rb a n c w5 r5 b5).mono ?_;rintro e w6⟨s6,rfl,z6,r6,Gb⟩;have g6:=G4 g5 Gb;have b6:=Ld b5 Gb;go_wp2;go_ret;exact Hq [⟨#[90,65,68,68]⟩,⟨#[122]⟩,s6,s3,⟨#[51]⟩,⟨#[109]⟩] (Fp (by decide) (Fp (by decide) (Fp z6 (Fp z3 (Fp (by decide) (Fp (by decide) Hw)))))) (by simp) r6 b6 g6
 ·go_wp2_with fail;refine(Pi rb a n c w5 r5 b5).mono ?_;rintro e w6⟨s6,rfl,z6,r6,Gb⟩;have g6:=G4 g5 Gb;have b6:=Ld b5 Gb;go_wp2;go_ret;exact Hq [⟨#[90,65,68,68]⟩,⟨#[122]⟩,s6,s3,⟨#[51]⟩,⟨#[109]⟩] (Fp (by decide) (Fp (by decide) (Fp z6 (Fp z3 (Fp (by decide) (Fp (by decide) Hw)))))) (by simp) r6 b6 g6
 ·go_wp2_with fail;refine(Pi rb a n c w5 r5 b5).mono ?_;rintro e w6⟨s6,rfl,z6,r6,Gb⟩;have g6:=G4 g5 Gb;have b6:=Ld b5 Gb;go_wp2;go_ret;exact Hq [⟨#[90,65,68,68]⟩,⟨#[122]⟩,s6,s3,⟨#[51]⟩,⟨#[109]⟩] (Fp (by decide) (Fp (by decide) (Fp z6 (Fp z3 (Fp (by decide) (Fp (by decide) Hw)))))) (by simp) r6 b6 g6
 ·go_wp2_with fail;refine(Pi rb a n c w5 r5 b5).mono ?_;rintro e w6⟨s6,rfl,z6,r6,Gb⟩;have g6:=G4 g5 Gb;have b6:=Ld b5 Gb;go_wp2_with fail;refine(Pi rb a n c w6 r6 b6).mono ?_;rintro e w7⟨s7,rfl,z7,r7,Ga⟩;have g7:=G4 g6 Ga;have b7:=Ld b6 Ga;go_wp2;go_ret;exact Hq [⟨#[90,82,65,78,71,69]⟩,⟨#[122]⟩,s6,s7] (Fp (by decide) (Fp (by decide) (Fp z6 (Fp z7 Hw)))) (by simp) r7 b7 g7
 ·have hl:=Fc.new w5 9 #[.string ⟨#[90,83,67,79,82,69]⟩,.string ⟨#[90,82,65,78,75]⟩,.string ⟨#[90,82,69,77]⟩];have hb:Bl w5 (w5.alloc (.cells #[.string ⟨#[90,83,67,79,82,69]⟩,.string ⟨#[90,82,65,78,75]⟩,.string ⟨#[90,82,69,77]⟩] 9)):=(Qb _ w5).alloc (Qc _) _;have hs:Oz #[.string ⟨#[90,83,67,79,82,69]⟩,.string ⟨#[90,82,65,78,75]⟩,.string ⟨#[90,82,69,77]⟩]:=O8 [⟨#[90,83,67,79,82,69]⟩,⟨#[90,82,65,78,75]⟩,⟨#[90,82,69,77]⟩] (by decide);go_wp2_with fail;generalize w5.alloc (.cells #[.string ⟨#[90,83,67,79,82,69]⟩,.string ⟨#[90,82,65,78,75]⟩,.string ⟨#[90,82,69,77]⟩] 9)=w6 at*;refine(Mb rb a n c 3 w6 (r5.bw hb b5) (by omega) (by omega)).mono ?_;rintro e w7⟨j,rfl,hj,r7,Ga⟩;have g7:=G4 (Ly g5 hb) Ga;have b7:=Ld hrb g7;obtain⟨s7,hc,z7⟩:=Oi (Nc hl Ga (by omega)) hs j (by simpa using hj);have j0:(0:Int)<=(j:Int):=by omega
  have j1:(j:Int)<3:=by omega
  clear hl hb hs Ga;go_wp2;go_ret;exact Hq [s7,⟨#[122]⟩,s3] (Fp z7 (Fp (by decide) (Fp z3 Hw))) (by simp) r7 b7 g7
 ·have hl:=Fc.new w5 9 #[.string ⟨#[68,66,83,73,90,69]⟩,.string ⟨#[75,69,89,83]⟩,.string ⟨#[70,76,85,83,72,65,76,76]⟩,.string ⟨#[80,69,82,83,73,83,84]⟩];have hb:Bl w5 (w5.alloc (.cells #[.string ⟨#[68,66,83,73,90,69]⟩,.string ⟨#[75,69,89,83]⟩,.string ⟨#[70,76,85,83,72,65,76,76]⟩,.string ⟨#[80,69,82,83,73,83,84]⟩] 9)):=(Qb _ w5).alloc (Qc _) _;have hs:Oz #[.string ⟨#[68,66,83,73,90,69]⟩,.string ⟨#[75,69,89,83]⟩,.string ⟨#[70,76,85,83,72,65,76,76]⟩,.string ⟨#[80,69,82,83,73,83,84]⟩]:=O8 [⟨#[68,66,83,73,90,69]⟩,⟨#[75,69,89,83]⟩,⟨#[70,76,85,83,72,65,76,76]⟩,⟨#[80,69,82,83,73,83,84]⟩] (by decide);go_wp2_with fail;generalize w5.alloc (.cells #[.string ⟨#[68,66,83,73,90,69]⟩,.string ⟨#[75,69,89,83]⟩,.string ⟨#[70,76,85,83,72,65,76,76]⟩,.string ⟨#[80,69,82,83,73,83,84]⟩] 9)=w6 at*;refine(Mb rb a n c 4 w6 (r5.bw hb b5) (by omega) (by omega)).mono ?_;rintro e w7⟨j,rfl,hj,r7,Ga⟩;have g7:=G4 (Ly g5 hb) Ga;have b7:=Ld hrb g7;obtain⟨s7,hc,z7⟩:=Oi (Nc hl Ga (by omega)) hs j (by simpa using hj);have j0:(0:Int)<=(j:Int):=by omega
  have j1:(j:Int)<4:=by omega
  clear hl hb hs Ga;go_wp2;go_ret;exact Hq [s7] (Fp z7 Hw) (by simp) r7 b7 g7
 ·go_wp2;go_ret;exact Hq [⟨#[80,69,82,83,73,83,84]⟩,s1] (Fp (by decide) (Fp z1 Hw)) (by simp) r5 b5 g5
 ·go_wp2;go_ret;exact Hq [⟨#[83,69,84,78,88]⟩,s1,s2] (Fp (by decide) (Fp z1 (Fp z2 Hw))) (by simp) r5 b5 g5
 ·go_wp2;go_ret;exact Hq [⟨#[69,67,72,79]⟩,s2] (Fp (by decide) (Fp z2 Hw)) (by simp) r5 b5 g5
 ·have hl:=Fc.new w5 9 #[.string ⟨#[71,69,84]⟩,.string ⟨#[70,76,89]⟩,.string ⟨#[76,80,85,83,72]⟩,.string ⟨#[72,83,69,84]⟩,.string ⟨#[]⟩];have hb:Bl w5 (w5.alloc (.cells #[.string ⟨#[71,69,84]⟩,.string ⟨#[70,76,89]⟩,.string ⟨#[76,80,85,83,72]⟩,.string ⟨#[72,83,69,84]⟩,.string ⟨#[]⟩] 9)):=(Qb _ w5).alloc (Qc _) _;have hs:Oz #[.string ⟨#[71,69,84]⟩,.string ⟨#[70,76,89]⟩,.string ⟨#[76,80,85,83,72]⟩,.string ⟨#[72,83,69,84]⟩,.string ⟨#[]⟩]:=O8 [⟨#[71,69,84]⟩,⟨#[70,76,89]⟩,⟨#[76,80,85,83,72]⟩,⟨#[72,83,69,84]⟩,⟨#[]⟩] (by decide);go_wp2_with fail;generalize w5.alloc (.cells #[.string ⟨#[71,69,84]⟩,.string ⟨#[70,76,89]⟩,.string ⟨#[76,80,85,83,72]⟩,.string ⟨#[72,83,69,84]⟩,.string ⟨#[]⟩] 9)=w6 at*;refine(Mb rb a n c 5 w6 (r5.bw hb b5) (by omega) (by omega)).mono ?_;rintro e w7⟨j,rfl,hj,r7,Ga⟩;have g7:=G4 (Ly g5 hb) Ga;have b7:=Ld hrb g7;obtain⟨s7,hc,z7⟩:=Oi (Nc hl Ga (by omega)) hs j (by simpa using hj);have j0:(0:Int)<=(j:Int):=by omega
  have j1:(j:Int)<5:=by omega
  clear hl hb hs Ga;go_wp2;go_ret;exact Hq [s7] (Fp z7 Hw) (by simp) r7 b7 g7
 ·go_wp2;go_ret;exact Hq [⟨#[71,69,84]⟩,⟨#[122]⟩] (Fp (by decide) (Fp (by decide) Hw)) (by simp) r5 b5 g5
 ·go_wp2;go_ret;exact Hq [⟨#[71,69,84]⟩,⟨#[122]⟩] (Fp (by decide) (Fp (by decide) Hw)) (by simp) r5 b5 g5
end
section
open Tryz
open Go.RowKit Go.Sort
variable {w W W':World} {B rb n c A:Nat} {v:Value} {a:Option Addr} {M:List KV}
theorem Fv.grown{w':World}{L:List KV}(h:Fv w B v L)(g:w.grownBy w' (some rb))(hB:rb<B):Fv w' B v L:=by
 obtain⟨β,hr⟩:=h.vals;refine⟨Pa h.row g hB,β,hr.low,hr.mono,Qj hr.top g.size,fun i hi=>?_,hr.lt1,hr.lt2,hr.lt3⟩;have hb:rb<β i:=Qr hB (hr.low i (Nat.le_of_lt hi));have ho:=hr.own i hi;exact⟨Pa ho.ia g hb,Pa ho.pj g hb,Pa ho.rq g hb⟩
structure Mz (w:World) (rb:Nat) (a:Option Addr) (n c:Nat) (v:Value) (M:List KV) (W:World):Prop where
 own:Fv W w.heap.size v M
 fit:O7 (M.map KV.key)
 rd:Rd W rb a n c
 grown:w.grownBy W (some rb)
theorem Mz.read(h:Mz w rb a n c v M W)(hrb:rb<w.heap.size)(r:Rd W' rb a n c)(g:W.grownBy W' (some rb)):Mz w rb a n c v M W':=
 ⟨h.own.grown g hrb,h.fit,r,h.grown.trans g⟩
theorem Mz.lt(h:Mz w rb a n c v M W)(hrb:rb<w.heap.size):rb<W.heap.size:=Qr hrb h.grown.size
theorem Mz.make{v':Value}{M':List KV}(h:Mz w rb a n c v M W)(hrb:rb<w.heap.size)(hd:Fv W' W.heap.size v' M')(hf:O7 (M'.map KV.key))(hb:Bl W W'):Mz w rb a n c v' M' W':=
 ⟨hd.le h.grown.size,hf,h.rd.bw hb (h.lt hrb),Uk h.grown (hb.mono h.grown.size)⟩
def Tq (M:List KV) (d:Int):List KV:=match M with
 | []=> []
 |x::M=>⟨x.key.withDue d,x.vi,x.vp,x.vr⟩::M
theorem ycm(M:List KV)(d:Int)(h:0<M.length):(flatK M).set 6 (.int .i64 d)=flatK (Tq M d):=by
 cases M with
 |nil=>simp at h
 |cons x M=>rfl
theorem Dk(M:List KV)(d:Int):(Tq M d).length=M.length:=by cases M<;>rfl
theorem zuh{d:Int}(h:O7 (M.map KV.key)):O7 ((Tq M d).map KV.key):=by
 cases M with
 |nil=>exact h
 |cons x M=>
  intro k hk;rcases List.mem_cons.1 hk with e|e
  ·rw[e];exact(h x.key (by simp)).withDue d
  ·exact h k (List.mem_cons_of_mem _ e)
theorem yh7(M:List KV)(d:Int)(i:Nat):((Tq M d).getD i kv0).key.val=(M.getD i kv0).key.val/\((Tq M d).getD i kv0).vi=(M.getD i kv0).vi/\((Tq M d).getD i kv0).vp=(M.getD i kv0).vp/\((Tq M d).getD i kv0).vr=(M.getD i kv0).vr:=by
 cases M with
 |nil=>exact⟨rfl,rfl,rfl,rfl⟩
 |cons x M=>cases i<;>exact⟨rfl,rfl,rfl,rfl⟩
theorem Z3{j:Nat}{e:TypeId}{size:Nat}{u:Value}{xs:List Value}{C:Array Value}(h:W.ownsRow B e size v n xs)(hr:Fc W A 47 C)(he:e≠47):(W.setCell ⟨A,j,none⟩ u).ownsRow B e size v n xs:=
 Lt h fun g hg=>by
  obtain⟨D,hd⟩:=M3 h hg;refine Below.heap_setCell _ _ _ _ fun eq=>he ?_;have:g=A:=eq;subst this;have:=hr.symm.trans hd;simp at this;exact this.2.symm
theorem zry(d:Int)(h:Fv W B (.slice (some ⟨A,0,none⟩) M.length c) M)(h0:0<M.length):Fv (W.setCell ⟨A,6,none⟩ (.int .i64 d)) B (.slice (some ⟨A,0,none⟩) M.length c) (Tq M d):=by
 obtain⟨β,hr⟩:=h.vals;obtain⟨C,hC⟩:=M3 h.row (g:=A) rfl;have Ga:=Hp.Eg (j:=6) (u:=.int .i64 d) h.row;rw[ycm M d h0]at Ga;refine⟨by unfold Nu;rw[Dk];exact Ga,β,?_⟩;have hl:=Dk M d;refine⟨fun i hi=>hr.low i (by omega),fun i j hij hj=>hr.mono i j hij (by omega),by rw[hl];exact Qj hr.top (by simp),fun i hi=>?_,fun i hi g hg=>?_,fun i hi g hg=>?_,fun i hi g hg=>?_⟩;all_goals obtain⟨e1,e2,e3,e4⟩:=yh7 M d i
 ·have ho:=hr.own i (by omega);rw[e1,e2,e3,e4];exact⟨Z3 ho.ia hC (by decide),Z3 ho.pj hC (by decide),Z3 ho.rq hC (by decide)⟩
 ·rw[e2]at hg;exact hr.lt1 i (by omega) g hg
 ·rw[e3]at hg;exact hr.lt2 i (by omega) g hg
 ·rw[e4]at hg;exact hr.lt3 i (by omega) g hg
theorem ybb{v:Vl}(h:Lr v)(nm:ByteArray)(hn:nm.size<=20)(d:Int):KGd ⟨nm,v,d⟩:=
 ⟨⟨⟨by have:=h.text;show v.text.size<=_;omega,by have:=h.ni;show v.ia.length<=_;omega,by have:=h.np;show v.pj.length<=_;omega,by have:=h.nr;show v.rq.length<=_;omega⟩,by show nm.size<=_;omega,(fun t ht=>by have:=h.ia t ht;omega)⟩,by have:=h.np;show v.pj.length<=_;omega,h.fit⟩
theorem yiv(rb:Nat)(a:Option Addr)(n c:Nat)(w:World)(h:Rd w rb a n c)(hrb:rb<w.heap.size):
  Calls prog 40 #[.pointer (some ⟨rb,0,none⟩),.int .i64 9] w fun e w'=>∃v M,e=.returned v/\Mz w rb a n c v M w'/\M.length<=83:=by
 have b0:Bl w (w.alloc (.cells #[] 47)):=(Qb _ w).alloc (Qc _) _;have Gq:Hid (Mz w rb a n c (.slice (some ⟨w.heap.size,0,none⟩) 0 0) [] (w.alloc (.cells #[] 47))):=⟨(Lv.empty w).db,fun k hk=>(by cases hk),h.bw b0 hrb,Uk (Nl _ _) b0⟩;have r0:=Gq.out.rd;clear h b0;go_enter func40,ntmps40;go_wp2_with fail;refine(Mb rb a n c 10 _ r0 (by omega) (by omega)).mono ?_;rintro e w1⟨j,rfl,hj,r1,g1⟩;have Gv:=hid (Gq.out.read hrb r1 g1);clear Gq r0 r1 g1;go_wp2_with fail;go_loopw [5,6] (fun v i wr=>∃(k:Nat) (M:List KV),k<=9/\i=.int .i64 k/\Hid (M.length<=41)/\Hid (Mz w rb a n c v M wr)) (fun _ i _=>(intOf i).toNat)
 case atStart=>exact⟨j,[],by omega,rfl,Qs _,Gv⟩
 case round=>
  obtain⟨k,M,hk,rfl,Gn,hS⟩:=hrel;clear Gv;by_cases h0:0<k
  ·have hd:(0:Int)<(k:Int):=by omega
   go_wp2_with fail;refine(Y7 rb a n c wr hS.out.rd (hS.out.lt hrb)).mono ?_;rintro e w2⟨x,B,off,Kc,ss,rfl,hs,hl,Gm,r2,g2,_⟩;have Ge:=hid (hS.out.read hrb r2 g2);have HD:=hid (zj3 w.heap.size u5 M 0 x B off ss.length Kc ss w2 Ge.out.own Ge.out.fit.k (by have:=Gn.out;omega) hs (by omega) Gm);clear hS r2 g2 hs Gm;go_wp2_with fail;refine HD.out.mono ?_;rintro e w3⟨v',r',L',rfl,y1,y2,y3,y4⟩;have HG:Hid (Lq 41 (L'.map KV.key)):=by rw[y1];exact zoa _ _ _
   have Gg:=hid (Ge.out.make hrb y2 HG.out.1 y4);have Kd:Hid (L'.length<=41):=by have:=HG.out.2;rwa[Qp]at this
   clear y1 y2 y3 y4 Ge HD HG;go_wp2;go_roundw
   case rel=>exact⟨k-1,L',by omega,by go_num,Kd,Gg⟩
   case measure=>simp[intOf];omega
  ·have hd:¬(0:Int)<(k:Int):=by omega
   have Gr:k=0:=by omega
   subst Gr;go_wp2_with fail;refine(Pd rb a n c 3 wr hS.out.rd (by omega) (by omega)).mono ?_;rintro e w2⟨b2,rfl,r2,g2⟩;have Ge:=hid (hS.out.read hrb r2 g2);clear hS r2 g2;cases b2 with
   |false=>
    have Gk:Hid (M.length<=83):=Qj Gn.out (by omega);clear Gn;have HS:=Ge;clear Ge;obtain⟨p,A,cc,ev,hk⟩:=Uw HS.out.own.row;subst ev;have HK:=hid hk;have HL:=hid Gk.out;clear hk Gk;obtain⟨nn,Gf⟩:∃nn,M.length=nn:=⟨_,rfl⟩;rw[Gf]at HL HK HS;rw[Gf];have Ga:=hid Gf;have Gb:=HL.out;clear Gf HL;go_wp2_with fail;refine(Pd rb a n c 40 w2 HS.out.rd (by omega) (by omega)).mono ?_;rintro e w7⟨b7,rfl,r7,g7⟩;have Gd:=hid (HS.out.read hrb r7 g7);clear HS r7 g7;cases b7 with
    |false=>
     have HF:Hid (∃v M,Ending.returned (.slice p nn cc)=.returned v/\Mz w rb a n c v M w7/\M.length<=83):=⟨_,M,rfl,Gd.out,by rw[Ga.out];exact Gb⟩;clear Gd Ga HK;go_wp2;go_ret;exact HF.out
    |true=>
     by_cases h0n:0<nn
     ·have Gi:(0:Int)<(nn:Int):=by omega
      obtain rfl:=HK.out.addr h0n;clear HK;go_wp2_with fail;refine(Hp.Cr rb a n c 0 9 w7 Gd.out.rd (by omega) (by omega) (by omega)).mono ?_;rintro e w8⟨d,rfl,Kh,Gr,r8,g8⟩;have Gc:=hid (Gd.out.read hrb r8 g8);clear Gd r8 g8;have c6:∃d0:Int,w8.cell? ⟨A,6,none⟩=some (.int .i64 d0):=by
       obtain⟨p',A',c',e',Gl⟩:=Uw Gc.out.own.row;injection e' with e1 e2 e3;have e4:=Gl.addr (by rw[Ga.out];exact h0n);rw[<-e1]at e4;injection e4 with e5;injection e5 with e6;have:=(Gl.cell 0 (by rw[Ga.out];exact h0n)).c6;rw[<-e6]at this;exact⟨_,this⟩
      obtain⟨d0,c6⟩:=c6;have f6:w8.frozen? ⟨A,6,none⟩=false:=by
       have:=Gc.out.own.row;rw[Nu,Ga.out]at this;exact Hp.zli this 6
      have HF:Hid (∃v M,Ending.returned (.slice (some ⟨A,0,none⟩) nn cc)=.returned v/\Mz w rb a n c v M (w8.setCell ⟨A,6,none⟩ (.int .i64 d))/\M.length<=83):=by
       have ho:=Gc.out.own;rw[<-Ga.out]at ho;have hA:=(Hf ho.row (g:=A) rfl).1;have hb:Below w.heap.size w8 (w8.setCell ⟨A,6,none⟩ (.int .i64 d)):=(Qb _ w8).setCell hA _;have hd:=zry d ho (by rw[Ga.out];exact h0n);rw[Ga.out]at hd;exact⟨_,Tq M d,rfl,⟨hd,zuh Gc.out.fit,Gc.out.rd.bw hb hrb,Uk Gc.out.grown hb⟩,by rw[Dk,Ga.out];exact Gb⟩
      clear Gc Ga;go_wp2;go_ret;exact HF.out
     ·have Gi:nn=0:=by omega
      subst Gi;have HF:Hid (∃v M,Ending.returned (.slice p 0 cc)=.returned v/\Mz w rb a n c v M w7/\M.length<=83):=⟨_,M,rfl,Gd.out,by rw[Ga.out];exact Gb⟩;clear Gd Ga HK;go_wp2;go_ret;exact HF.out
   |true=>
    have Kb:=Gn.out;go_wp2_with fail;refine(J3 rb a n c w2 Ge.out.rd (Ge.out.lt hrb)).mono ?_;rintro e w3⟨nm,rfl,Gx,r3,g3⟩;have Gg:=hid (Ge.out.read hrb r3 g3);clear Ge r3 g3;go_wp2_with fail;refine(zy6 rb a n c w3 Gg.out.rd (Gg.out.lt hrb)).mono ?_;rintro e w4⟨vl,vi,vp,vr,rfl,Gz,Ka,r4,g4⟩;have Gt:=hid (Gg.out.read hrb r4 g4);have Gh:=Gg.out.lt hrb;have Gp:=hid Gz;have Gs:=hid Ka;clear Gg r4 g4 Gz Ka;go_wp2_with fail;refine(Mb rb a n c 9 w4 Gt.out.rd (by omega) (by omega)).mono ?_;rintro e w5⟨du,rfl,Kj,r5,g5⟩;have Gj:=hid (Gt.out.read hrb r5 g5);have Gu:Hid (VOwn w5 w3.heap.size vl vi vp vr):=⟨Pa Gp.out.ia g5 Gh,Pa Gp.out.pj g5 Gh,Pa Gp.out.rq g5 Gh⟩;clear Gt Gp r5 g5;have Gw:Hid (Cp 79 #[u5,.agg #[.string nm,.int .i64 vl.kind,.string vl.text,vi,vp,vr,.int .i64 (du:Int)]] w5 (N0 w5 (G0 (M.map KV.key) ⟨nm,vl,du⟩))):=by
     obtain⟨q,A,cc,ev,Kf,Ki⟩:=Gj.out.own.din Gj.out.fit.k.fits;rw[ev];have s:=Gs.out;exact Ep q A M.length cc M ⟨⟨nm,vl,du⟩,vi,vp,vr⟩ w5 Kf (Gu.out.rd (fun t ht=>by have:=s.ia t ht;omega)) (by have:=s.ni;show vl.ia.length<=_;omega) (by have:=s.np;show vl.pj.length<=_;omega) (by have:=s.nr;show vl.rq.length<=_;omega) (by omega)
    have Gy:=hid (ybb Gs.out nm Gx du);clear Gu Gs Gx;generalize vl.kind=kd,vl.text=tx at*;go_wp2_with fail;refine Gw.out.mono ?_;rintro e w6⟨v6,L6,rfl,y1,y2,y3⟩;have HS:=hid (Gj.out.make hrb y2 (by rw[y1];exact Gj.out.fit.stored Gy.out) y3);have Gk:Hid (L6.length<=83):=by
     have e1:L6.length=(L6.map KV.key).length:=by rw[Qp]
     have e2:=K9 (M.map KV.key) ⟨nm,vl,du⟩;rw[Qp]at e2;unfold Hid;rw[e1,y1];omega
    clear y1 y2 y3 Gj Gw Gy;obtain⟨p,A,cc,ev,hk⟩:=Uw HS.out.own.row;subst ev;have HK:=hid hk;have HL:=hid Gk.out;clear hk Gk;obtain⟨nn,Gf⟩:∃nn,L6.length=nn:=⟨_,rfl⟩;rw[Gf]at HL HK HS;rw[Gf];have Ga:=hid Gf;have Gb:=HL.out;clear Gf HL;go_wp2_with fail;refine(Pd rb a n c 40 w6 HS.out.rd (by omega) (by omega)).mono ?_;rintro e w7⟨b7,rfl,r7,g7⟩;have Gd:=hid (HS.out.read hrb r7 g7);clear HS r7 g7;cases b7 with
    |false=>
     have HF:Hid (∃v M,Ending.returned (.slice p nn cc)=.returned v/\Mz w rb a n c v M w7/\M.length<=83):=⟨_,L6,rfl,Gd.out,by rw[Ga.out];exact Gb⟩;clear Gd Ga HK;go_wp2;go_ret;exact HF.out
    |true=>
     by_cases h0n:0<nn
     ·have Gi:(0:Int)<(nn:Int):=by omega
      obtain rfl:=HK.out.addr h0n;clear HK;go_wp2_with fail;refine(Hp.Cr rb a n c 0 9 w7 Gd.out.rd (by omega) (by omega) (by omega)).mono ?_;rintro e w8⟨d,rfl,Kh,Gr,r8,g8⟩;have Gc:=hid (Gd.out.read hrb r8 g8);clear Gd r8 g8;have c6:∃d0:Int,w8.cell? ⟨A,6,none⟩=some (.int .i64 d0):=by
       obtain⟨p',A',c',e',Gl⟩:=Uw Gc.out.own.row;injection e' with e1 e2 e3;have e4:=Gl.addr (by rw[Ga.out];exact h0n);rw[<-e1]at e4;injection e4 with e5;injection e5 with e6;have:=(Gl.cell 0 (by rw[Ga.out];exact h0n)).c6;rw[<-e6]at this;exact⟨_,this⟩
      obtain⟨d0,c6⟩:=c6;have f6:w8.frozen? ⟨A,6,none⟩=false:=by
       have:=Gc.out.own.row;rw[Nu,Ga.out]at this;exact Hp.zli this 6
      have HF:Hid (∃v M,Ending.returned (.slice (some ⟨A,0,none⟩) nn cc)=.returned v/\Mz w rb a n c v M (w8.setCell ⟨A,6,none⟩ (.int .i64 d))/\M.length<=83):=by
       have ho:=Gc.out.own;rw[<-Ga.out]at ho;have hA:=(Hf ho.row (g:=A) rfl).1;have hb:Below w.heap.size w8 (w8.setCell ⟨A,6,none⟩ (.int .i64 d)):=(Qb _ w8).setCell hA _;have hd:=zry d ho (by rw[Ga.out];exact h0n);rw[Ga.out]at hd;exact⟨_,Tq L6 d,rfl,⟨hd,zuh Gc.out.fit,Gc.out.rd.bw hb hrb,Uk Gc.out.grown hb⟩,by rw[Dk,Ga.out];exact Gb⟩
      clear Gc Ga;go_wp2;go_ret;exact HF.out
     ·have Gi:nn=0:=by omega
      subst Gi;have HF:Hid (∃v M,Ending.returned (.slice p 0 cc)=.returned v/\Mz w rb a n c v M w7/\M.length<=83):=⟨_,L6,rfl,Gd.out,by rw[Ga.out];exact Gb⟩;clear Gd Ga HK;go_wp2;go_ret;exact HF.out
end
end Go.Proofs.YtokafonppgppdaaGreatDoor
