import Derived.Test.YtjpeglkkkllagaaGreatDoorHp4
import Derived.Test.YtjpeglkkkllagaaGreatDoorHOpenC
set_option maxHeartbeats 2000000
set_option maxRecDepth 100000
namespace Go.Proofs.YtjpeglkkkllagaaGreatDoor.Hp
open Go.RowKit Go.Sort
def isB (L:List Cl) (rc rg:Int):Bool:=decide (0≤rc∧rc<(L.length:Int))&&((L.getD rc.toNat cl0).live&&((L.getD rc.toNat cl0).gen==rg))
abbrev refV (rc rg:Int):Value:= .agg #[.int .i64 rc,.int .i64 rg]
theorem zbb {w:World} {g:Nat} {T:TypeId} {x y:Value} (h:RowAt w g T #[x,y]):w.cell? ⟨g,0,none⟩=some x∧w.cell? ⟨g,1,none⟩=some y:=by
 have a:=h.cell 0;have b:=h.cell 1;simp at a b;exact ⟨a,b⟩
def getB (s:ByteArray) (L:List Cl) (rc rg:Int):ByteArray×Bool:=
 if heapB s L=true∧isB L rc rg=true then (s.extract (L.getD rc.toNat cl0).pos.toNat ((L.getD rc.toNat cl0).pos.toNat+(L.getD rc.toNat cl0).len.toNat),true) else (⟨#[]⟩,false)
theorem is_in {L:List Cl} {rc rg:Int} (h:isB L rc rg=true):∃k:Nat,rc=k∧k<L.length∧(L.getD k cl0).live=true∧(L.getD k cl0).gen=rg:=by
 unfold isB at h;rw [Bool.and_eq_true,Bool.and_eq_true] at h;have h1:=of_decide_eq_true h.1;refine ⟨rc.toNat,by omega,by omega,h.2.1,by simpa using h.2.2⟩
def placeP (L:List Cl) (ps:List Nat) (rc:Int):Option Addr:=if 0≤rc∧rc<(L.length:Int) then some ⟨ps.getD rc.toNat 0,0,none⟩ else none
theorem cellOf_any (g n:Nat) (d:Nat→UInt8) (t:Nat→Bool) (L:List Cl) (cs:Value) (ps:List Nat) (rc rg:Int) (w:World) (ha:Arena w g d t n cs) (ho:w.ownsRow (g+1) 81 1 cs L.length (ps.map ptrV)) (hpl:ps.length=L.length)
  (hpc:∀i,i<L.length→g<ps.getD i 0∧RowAt w (ps.getD i 0) 84 (clV (L.getD i cl0))) (hL:L.length≤40):
  Calls Tryz.prog 185 #[.pointer (some ⟨g,0,none⟩),refV rc rg] w fun e w'=>e= .returned (.tuple #[.pointer (placeP L ps rc),.bool (isB L rc rg)])∧Below w.heap.size w w':=by
 have bw:Below w.heap.size w (w.alloc (.cells #[.int .i64 rc,.int .i64 rg] 55)):=(Below.refl _ w).alloc (Nat.le_refl _) _;have r1:=RowAt.new w 55 #[.int .i64 rc,.int .i64 rg];have ha1:=ha.below bw ha.lt;have ho1:=zaf ho bw;have hpc1:Hid (∀i,i<L.length→RowAt (w.alloc (.cells #[.int .i64 rc,.int .i64 rg] 55)) (ps.getD i 0) 84 (clV (L.getD i cl0))):=fun i hi=> (hpc i hi).2.below bw (hpc i hi).2.lt;obtain ⟨f0,f1⟩:=zbb r1;have cc:=ha1.cells;by_cases hin:0≤rc∧rc<(L.length:Int)
 ·obtain ⟨k,rfl⟩:∃k:Nat,rc=k:=⟨rc.toNat,by omega⟩;have hk:k<L.length:=by omega
  have HP:Hid (placeP L ps k=some ⟨ps.getD k 0,0,none⟩):=by unfold Hid placeP;rw [if_pos hin,Int.toNat_natCast]
  have HR:Hid (isB L k rg=((L.getD k cl0).live&&((L.getD k cl0).gen==rg))):=by
   unfold Hid isB;rw [decide_eq_true hin,Bool.true_and,Int.toNat_natCast]
  obtain ⟨A,cap,rfl⟩:=Go.Joins.ownsRow_form ho (by omega);have cp:(w.alloc (.cells #[.int .i64 k,.int .i64 rg] 55)).cell? ⟨A,k,none⟩=some (.pointer (some ⟨ps.getD k 0,0,none⟩)):=by
   have:=ho1.cells rfl k (ptrV (ps.getD k 0)) (by rw [List.getElem?_map,List.getD_eq_getElem?_getD,List.getElem?_eq_getElem (by omega)];rfl);rw [Addr.add_lit,Nat.zero_add] at this;exact this
  have hx:=hpc1.out k hk;have c2:(w.alloc (.cells #[.int .i64 k,.int .i64 rg] 55)).cell? ⟨ps.getD k 0,2,none⟩=some (.int .i64 (L.getD k cl0).gen):=hx.cell 2;have c3:(w.alloc (.cells #[.int .i64 k,.int .i64 rg] 55)).cell? ⟨ps.getD k 0,3,none⟩=some (.bool (L.getD k cl0).live):=hx.cell 3;generalize L.getD k cl0=x at*;generalize ps.getD k 0=p at*;generalize L.length=m at*;clear hx hpc1 hpc ha ha1 ho ho1 r1 hin;have d1:decide ((k:Int)<0)=false:=decide_eq_false (by omega);have d2:decide ((m:Int)≤(k:Int))=false:=decide_eq_false (by omega);cases hlv:x.live with
  |false=>
   rw [hlv] at c3 HR;rw [Bool.false_and] at HR;go_enter Tryz.func185,Tryz.ntmps185;go_wp2;generalize w.alloc (.cells #[.int .i64 k,.int .i64 rg] 55)=w1 at*;go_quiet ((fail));go_wp2;go_quiet ((fail));go_wp2;go_quiet ((fail));go_wp2;go_ret2;exact ⟨by rw [HP.out,HR.out];rfl,bw.trans ⟨rfl,rfl,rfl,Nat.le_refl _,fun _ _=>rfl⟩⟩
  |true=>
   rw [hlv] at c3 HR;rw [Bool.true_and] at HR;go_enter Tryz.func185,Tryz.ntmps185;go_wp2;generalize w.alloc (.cells #[.int .i64 k,.int .i64 rg] 55)=w1 at*;go_quiet ((fail));go_wp2;go_quiet ((fail));go_wp2;go_quiet ((fail));go_wp2;go_ret2;exact ⟨by rw [HP.out,HR.out];rfl,bw.trans ⟨rfl,rfl,rfl,Nat.le_refl _,fun _ _=>rfl⟩⟩
 ·have HP:Hid (placeP L ps rc=none):=by unfold Hid placeP;rw [if_neg hin]
  have HR:Hid (isB L rc rg=false):=by
   unfold Hid isB;rw [decide_eq_false hin,Bool.false_and]
  rcases Go.Joins.ownsRow_forms ho with ⟨rfl,hm0⟩|⟨A,cap,rfl⟩
  ·by_cases h0:rc<0
   ·have d1:decide (rc<0)=true:=decide_eq_true h0;clear hpc1 hpc ha ha1 ho ho1 r1 hin hm0;go_enter Tryz.func185,Tryz.ntmps185;go_wp2;generalize w.alloc (.cells #[.int .i64 rc,.int .i64 rg] 55)=w1 at*;go_quiet ((fail));go_wp2;go_ret2;exact ⟨by rw [HP.out,HR.out];rfl,bw.trans ⟨rfl,rfl,rfl,Nat.le_refl _,fun _ _=>rfl⟩⟩
   ·have d1:decide (rc<0)=false:=decide_eq_false h0;have d2:decide (0≤rc)=true:=decide_eq_true (by omega);clear hpc1 hpc ha ha1 ho ho1 r1 hin hm0;go_enter Tryz.func185,Tryz.ntmps185;go_wp2;generalize w.alloc (.cells #[.int .i64 rc,.int .i64 rg] 55)=w1 at*;go_quiet ((fail));go_wp2;go_ret2;exact ⟨by rw [HP.out,HR.out];rfl,bw.trans ⟨rfl,rfl,rfl,Nat.le_refl _,fun _ _=>rfl⟩⟩
  ·by_cases h0:rc<0
   ·have d1:decide (rc<0)=true:=decide_eq_true h0;clear hpc1 hpc ha ha1 ho ho1 r1 hin;go_enter Tryz.func185,Tryz.ntmps185;go_wp2;generalize w.alloc (.cells #[.int .i64 rc,.int .i64 rg] 55)=w1 at*;go_quiet ((fail));go_wp2;go_ret2;exact ⟨by rw [HP.out,HR.out];rfl,bw.trans ⟨rfl,rfl,rfl,Nat.le_refl _,fun _ _=>rfl⟩⟩
   ·have d1:decide (rc<0)=false:=decide_eq_false h0;have d2:decide ((L.length:Int)≤rc)=true:=decide_eq_true (by omega);clear hpc1 hpc ha ha1 ho ho1 r1 hin;go_enter Tryz.func185,Tryz.ntmps185;go_wp2;generalize w.alloc (.cells #[.int .i64 rc,.int .i64 rg] 55)=w1 at*;go_quiet ((fail));go_wp2;go_ret2;exact ⟨by rw [HP.out,HR.out];rfl,bw.trans ⟨rfl,rfl,rfl,Nat.le_refl _,fun _ _=>rfl⟩⟩
theorem bytesOf_any (g p P W:Nat) (w:World) (hPW:P+W≤3000) (hW:1≤W) (c0:w.cell? ⟨p,0,none⟩=some (.int .i64 P)) (c1:w.cell? ⟨p,1,none⟩=some (.int .i64 W)):
  Calls Tryz.prog 30 #[.pointer (some ⟨g,0,none⟩),.pointer (some ⟨p,0,none⟩)] w fun e w'=>e= .returned (.slice (some ⟨g,P,none⟩) W (3000-P))∧∃q,w'=w.drewN q:=by
 have p1:(P:Int)+(W:Int)≤3000:=by omega
 have p2:(P:Int)≤(P:Int)+(W:Int):=by omega
 have p3:(0:Int)≤(P:Int):=by omega
 have p4:(0:Int)≤(P:Int)+(W:Int):=by omega
 go_enter Tryz.func30,Tryz.ntmps30;go_wp2;go_region;all_goals first
  |(exfalso;omega)
  |(go_wp2;go_ret;exact ⟨congrArg (fun z=>Ending.returned (.slice (some ⟨g,P,none⟩) z (3000-P))) (show P+W-P=W by omega),1,rfl⟩)
def OpenAllC (w:World) (s:ByteArray) (L:List Cl) (e:Ending) (w':World):Prop:=
 ∃p:Option Addr,e= .returned (.tuple #[.pointer p,.bool (heapB s L)])∧
  (heapB s L=true→∃g t,p=some ⟨g,0,none⟩∧openM s.size L (fun _=>false)=some t∧OpenC w' g (byteAt s) t s.size L∧w.heap.size≤g)∧Below w.heap.size w w'
theorem openedC_all (s:ByteArray) (a:Option Addr) (b off n c:Nat) (L:List Cl) (w:World) (h:CellsIn w a b off n L) (hf:∀i,i<n→Fit (L.getD i cl0)):
  Calls Tryz.prog 28 #[.agg #[.string s,.slice a n c]] w (OpenAllC w s L):=by
 have hl:=h.len;by_cases hr:s.size≤3000∧n≤40
 ·have HR:heapB s L=implB (byteAt s) s.size L:=by
   unfold heapB;rw [decide_eq_true (by omega),Bool.true_and]
  unfold OpenAllC;rw [HR];exact openedC_any s a b off n c L w h hr.1 hr.2 hf
 ·have HR:Hid (heapB s L=false):=by
   unfold Hid heapB;rw [decide_eq_false (by omega),Bool.false_and]
  have hb:Below w.heap.size w (w.alloc (.cells #[.string s,.slice a n c] 29)):=(Below.refl _ w).alloc (Nat.le_refl _) _;by_cases h1:(3000:Int)<(s.size:Int)
  ·go_enter Tryz.func28,Tryz.ntmps28;go_wp2;go_ret2;exact ⟨none,by rw [HR.out];rfl,(fun h=>by rw [HR.out] at h;cases h),hb⟩
  ·have h2:(40:Int)<(n:Int):=by omega
   go_enter Tryz.func28,Tryz.ntmps28;go_wp2;go_ret2;exact ⟨none,by rw [HR.out];rfl,(fun h=>by rw [HR.out] at h;cases h),hb⟩
theorem Arena.data {w:World} {g n:Nat} {d:Nat→UInt8} {t:Nat→Bool} {cs:Value} (h:Arena w g d t n cs) (i:Nat) (hi:i<3000):w.cell? ⟨g,i,none⟩=some (.int .u8 (d i).toNat):=by
 obtain ⟨C,hr,_,h1,_⟩:=h.row;exact (hr.cell _).trans (h1 i hi)
theorem extract_range (s:ByteArray) (P W:Nat) (h:P+W≤s.size):(⟨((List.range W).map fun i=>byteAt s (P+i)).toArray⟩:ByteArray)=s.extract P (P+W):=by
 apply ByteArray.ext;apply Array.ext';show (List.range W).map (fun i=>byteAt s (P+i))=_;rw [ByteArray.data_extract,Array.toList_extract];apply List.ext_getElem?;intro i;rw [List.getElem?_map];by_cases hi:i<W
 ·rw [List.getElem?_range hi];show some (byteAt s (P+i))=_;unfold byteAt;have hl:P+i<s.data.toList.length:=by rw [Array.length_toList];exact Nat.lt_of_lt_of_le (by omega) h
  rw [List.getD_eq_getElem?_getD,List.getElem?_eq_getElem hl,List.extract_eq_take_drop,List.getElem?_take,if_pos (by omega),List.getElem?_drop,List.getElem?_eq_getElem hl];rfl
 ·rw [List.getElem?_eq_none (by simp;omega)];rw [List.extract_eq_take_drop,List.getElem?_take,if_neg (by omega)];rfl
theorem live_len {n:Nat} {x:Cl} (h:zce n x=true) (hl:x.live=true):1≤x.len:=by
 unfold zce at h;rw [hl] at h;simp at h;omega
theorem implGet_any (s:ByteArray) (a:Option Addr) (b off n c:Nat) (L:List Cl) (rc rg:Int) (w:World) (h:CellsIn w a b off n L) (hf:∀i,i<n→Fit (L.getD i cl0)):
  Calls Tryz.prog 183 #[.agg #[.string s,.slice a n c],refV rc rg] w fun e w'=>e= .returned (.tuple #[.string (getB s L rc rg).1,.bool (getB s L rc rg).2])∧Below w.heap.size w w':=by
 have bw:Below w.heap.size w ((w.alloc (.cells #[.string s,.slice a n c] 29)).alloc (.cells #[.int .i64 rc,.int .i64 rg] 55)):=Go.Joins.below_alloc2 _ _ _;have r2:=RowAt.new (w.alloc (.cells #[.string s,.slice a n c] 29)) 55 #[.int .i64 rc,.int .i64 rg];simp only [World.size_alloc] at r2;have h2:=zaj h bw;have l2:=r2.lt;go_enter Tryz.func183,Tryz.ntmps183;go_wp2_with fail;generalize (w.alloc (.cells #[.string s,.slice a n c] 29)).alloc (.cells #[.int .i64 rc,.int .i64 rg] 55)=w1 at*;refine (openedC_all s a b off n c L w1 h2 hf).mono ?_;rintro e w2 ⟨p,rfl,hop,b2⟩;have bb:=bw.trans (b2.mono bw.size);have q2:=r2.below b2 l2;clear r2 h2 bw b2;obtain ⟨f0,f1⟩:=zbb q2;cases hr:heapB s L with
 |false=>
  have HR:Hid (getB s L rc rg=(⟨#[]⟩,false)):=by unfold Hid getB;rw [hr];simp
  clear hr q2 hop;go_wp2;go_ret2;exact ⟨by rw [HR.out];rfl,bb⟩
 |true=>
  have HH:Hid (heapB s L=true):=hr;obtain ⟨g,t,rfl,_,⟨cs,ps,ha,ho,hpl,hpc,hpn⟩,hg⟩:=hop hr;obtain ⟨hs3,hL⟩:=heap_small hr;clear hr hop;go_wp2_with fail;refine (cellOf_any g s.size (byteAt s) t L cs ps rc rg w2 ha ho hpl hpc hL).mono ?_;rintro e w3 ⟨rfl,b3⟩;have bb3:=bb.trans (b3.mono bb.size);have ha3:=ha.below b3 ha.lt;cases hi:isB L rc rg with
  |false=>
   have HR:Hid (getB s L rc rg=(⟨#[]⟩,false)):=by unfold Hid getB;rw [hi];simp
   clear hi q2 ha ho hpc ha3 b3 f0 f1;go_wp2;go_ret2;exact ⟨by rw [HR.out];rfl,bb3⟩
  |true=>
   obtain ⟨k,rfl,hk,hlv,hgen⟩:=is_in hi;have HR:Hid (getB s L k rg=(s.extract (L.getD k cl0).pos.toNat ((L.getD k cl0).pos.toNat+(L.getD k cl0).len.toNat),true)):=by
    unfold Hid getB;rw [if_pos ⟨HH.out,hi⟩,Int.toNat_natCast]
   have HP:placeP L ps k=some ⟨ps.getD k 0,0,none⟩:=by unfold placeP;rw [if_pos (by omega),Int.toNat_natCast]
   rw [HP];have hx:=(hpc k hk).2.below b3 (hpc k hk).2.lt;have hok:=spec_facts (heap_cells HH.out k hk);have hlen:=live_len (heap_cells HH.out k hk) hlv;have c0:w3.cell? ⟨ps.getD k 0,0,none⟩=some (.int .i64 (L.getD k cl0).pos):=hx.cell 0;have c1:w3.cell? ⟨ps.getD k 0,1,none⟩=some (.int .i64 (L.getD k cl0).len):=hx.cell 1;generalize L.getD k cl0=x at*;generalize ps.getD k 0=q at*;obtain ⟨g1,g2,g3,g4,g5⟩:=hok;obtain ⟨P,hP⟩:∃P:Nat,x.pos=P:=⟨_,(Int.toNat_of_nonneg g1).symm⟩;obtain ⟨W,hW⟩:∃W:Nat,x.len=W:=⟨_,(Int.toNat_of_nonneg g2).symm⟩;rw [hP] at c0 g1 g3 g4 HR;rw [hW] at c1 g2 g3 g5 HR hlen;rw [Int.toNat_natCast,Int.toNat_natCast] at HR;have hcv:∀m,(convert 22 9 (.slice (some ⟨g,P,none⟩) W (3000-P))).run Tryz.prog (w3.drewN m)= .ok (.string (s.extract P (P+W))) (w3.drewN m):=fun m=>by
    have:=run_convert_bytes_back (P:=Tryz.prog) (w3.drewN m) 22 9 5 ⟨g,P,none⟩ (3000-P) ((List.range W).map fun i=>byteAt s (P+i)) Tryz.underlying22 Tryz.underlying5 Tryz.underlying9 ?_
    ·rw [extract_range s P W (by omega)] at this;simpa using this
    ·intro j hj;have hj':j<W:=by simpa using hj
     rw [show (w3.drewN m).cell? _=w3.cell? _ from rfl];have:=ha3.data (P+j) (by omega);rw [Addr.add_lit];simpa using this
   have HB:=bytesOf_any g q P W w3 (by omega) (by omega) c0 c1;clear hi q2 ha ho hpc ha3 b3 f0 f1 c0 c1 hx HP hP hW hlv hgen;go_wp2_with fail;refine HB.mono ?_;rintro e w4 ⟨rfl,m,rfl⟩;have hc1:=hcv m;clear hcv HB;go_wp2;go_ret2;exact ⟨by rw [HR.out];rfl,bb3.trans ⟨rfl,rfl,rfl,Nat.le_refl _,fun _ _=>rfl⟩⟩
theorem owns_in {w:World} {B n:Nat} {v:Value} {M:List Cl} (h:w.ownsRow B 84 4 v n (flatC M)):∃a A cap,v= .slice a n cap∧CellsIn w a A 0 n M:=by
 have hl:M.length=n:=by
  have:=h.1;rw [flatC_len] at this;omega
 rcases Go.Joins.ownsRow_forms h with ⟨rfl,rfl⟩|⟨A,cap,rfl⟩
 ·have:M=[]:=List.eq_nil_of_length_eq_zero hl;subst this;exact ⟨none,0,0,rfl,cellsIn_none⟩
 ·exact ⟨_,A,cap,rfl,owns_cellsIn h⟩
end Go.Proofs.YtjpeglkkkllagaaGreatDoor.Hp
