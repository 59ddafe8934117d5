import Derived.Test.YtjpeglkkkllagaaGreatDoorIv
import Derived.WalkKit
import Derived.WalkSpells
import Derived.WalkLawsBesides
import Derived.Deep.QuietTactic
import Derived.BigQuiet
import Derived.Lib.QuietBelow
import Derived.Lib.Builder
import Derived.OpenShut
import Derived.Lib.SmallJoins
import Derived.Lib.BufferWrite
set_option maxHeartbeats 4000000
set_option maxRecDepth 100000
namespace Go.Proofs.YtjpeglkkkllagaaGreatDoor.Hp
open Go.RowKit
theorem grown_refl (w:World) (r:Option Nat):w.grownBy w r:=⟨rfl,rfl,rfl,Nat.le_refl _,fun _ _ _=>rfl⟩
theorem grown_drewN (w:World) (q:Nat) (r:Option Nat):w.grownBy (w.drewN q) r:=⟨rfl,rfl,rfl,Nat.le_refl _,fun _ _ _=>rfl⟩
theorem zcc {w w1 w2:World} {r:Option Nat} (h:w.grownBy w1 r) (hb:Below w1.heap.size w1 w2):w.grownBy w2 r:=
 ⟨hb.os.trans h.os,hb.tape.trans h.tape,hb.output.trans h.output,Nat.le_trans h.size hb.size,fun k hk hr=> (hb.block k (Nat.lt_of_lt_of_le hk h.size)).trans (h.block k hk hr)⟩
theorem zah {w w1 w2:World} {r:Option Nat} (h:w.grownBy w1 r) (h2:w1.grownBy w2 r):w.grownBy w2 r:=
 ⟨h2.os.trans h.os,h2.tape.trans h.tape,h2.output.trans h.output,Nat.le_trans h.size h2.size,fun k hk hr=> (h2.block k (Nat.lt_of_lt_of_le hk h.size) hr).trans (h.block k hk hr)⟩
theorem below_of_grown {B b:Nat} {w w1:World} (h:w.grownBy w1 (some b)) (hB:B≤b) (hw:B≤w.heap.size):Below B w w1:=
 ⟨h.os,h.tape,h.output,h.size,fun k hk=>h.block k (by omega) (by simp;omega)⟩
theorem l1In_any (n a b:Int) (w:World):
  Calls Tryz.prog 43 #[.int .i64 n,.int .i64 a,.int .i64 b] w fun e w'=>e= .returned (.bool (decide (a≤n∧n≤b)))∧w'=w:=by
 by_cases h1:a≤n
 ·by_cases h2:n≤b;all_goals
   go_enter Tryz.func43,Tryz.ntmps43;go_wp2;go_ret;exact ⟨by simp [h1,h2],rfl⟩
 ·go_enter Tryz.func43,Tryz.ntmps43;go_wp2;go_ret;exact ⟨by simp;omega,rfl⟩
def zerosOf (N:Nat):List Value:=List.replicate N (.int .u8 0)++(List.replicate N (.bool false)++ [.int .i64 0,.slice none 0 0])
def zc56:Array Value:=(zerosOf 3000).toArray
theorem zeroV56 (w:World):(zeroValue 79).run Tryz.prog w= .ok (.agg zc56) w:=by kernel_rfl
theorem zero56:zc56.toList=zerosOf 3000:=rfl
theorem zero56_get (i:Nat):zc56[i]?=(zerosOf 3000)[i]?:=by rw [←zero56,Array.getElem?_toList]
theorem zerosOf_data (N i:Nat) (h:i<N):(zerosOf N)[i]?=some (.int .u8 0):=by
 unfold zerosOf;rw [List.getElem?_append_left (by rw [List.length_replicate];exact h),List.getElem?_replicate,if_pos h]
theorem zerosOf_taken (N i:Nat) (h:i<N):(zerosOf N)[N+i]?=some (.bool false):=by
 unfold zerosOf;rw [List.getElem?_append_right (by rw [List.length_replicate];omega),List.length_replicate,Nat.add_sub_cancel_left,List.getElem?_append_left (by rw [List.length_replicate];exact h),List.getElem?_replicate,if_pos h]
theorem zerosOf_end (N i:Nat):(zerosOf N)[N+(N+i)]?=([.int .i64 0,.slice none 0 0]:List Value)[i]?:=by
 unfold zerosOf;rw [List.getElem?_append_right (by rw [List.length_replicate];omega),List.length_replicate,Nat.add_sub_cancel_left,List.getElem?_append_right (by rw [List.length_replicate];omega),List.length_replicate,Nat.add_sub_cancel_left]
theorem zerosOf_len (N:Nat):(zerosOf N).length=N+(N+2):=by
 unfold zerosOf;rw [List.length_append,List.length_append,List.length_replicate,List.length_replicate];rfl
theorem zeros_data (i:Nat) (h:i<3000):(zerosOf 3000)[i]?=some (.int .u8 0):=zerosOf_data 3000 i h
theorem zeros_taken (i:Nat) (h:i<3000):(zerosOf 3000)[3000+i]?=some (.bool false):=zerosOf_taken 3000 i h
theorem zeros_cells:(zerosOf 3000)[6001]?=some (.slice none 0 0):=zerosOf_end 3000 1
theorem zeros_len:zc56.size=6002:=by
 rw [←Array.length_toList,zero56,zerosOf_len]
structure Arena (w:World) (g:Nat) (d:Nat→UInt8) (t:Nat→Bool) (n:Nat) (cs:Value):Prop where
 row:∃C:Array Value,RowAt w g 79 C∧C.size=6002∧(∀i,i<3000→C[i]?=some (.int .u8 (d i).toNat))∧(∀i,i<3000→C[3000+i]?=some (.bool (t i)))∧C[6000]?=some (.int .i64 n)∧C[6001]?=some cs
theorem Arena.new (w:World) (n:Nat):Arena (w.alloc (.cells (zc56.setIfInBounds 6000 (.int .i64 n)) 79)) w.heap.size (fun _=>0) (fun _=>false) n (.slice none 0 0):=by
 refine ⟨_,RowAt.new w 79 _,by rw [Array.size_setIfInBounds,zeros_len],fun i hi=>?_,fun i hi=>?_,?_,?_⟩
 ·rw [Array.getElem?_setIfInBounds_ne (by omega),zero56_get,zeros_data i hi];rfl
 ·rw [Array.getElem?_setIfInBounds_ne (by omega),zero56_get,zeros_taken i hi]
 ·rw [Array.getElem?_setIfInBounds_self_of_lt (by rw [zeros_len];omega)]
 ·rw [Array.getElem?_setIfInBounds_ne (by omega),zero56_get,zeros_cells]
def dataZ (n:Nat):ByteArray:=⟨((List.range n).map fun _=> (0:UInt8)).toArray⟩
theorem dataZ_size (n:Nat):(dataZ n).size=n:=by
 show (((List.range n).map fun _=> (0:UInt8)).toArray).size=n;simp
def newM (n:Int):ByteArray×Bool:=if 0≤n∧n≤3000 then (dataZ n.toNat,true) else (⟨#[]⟩,false)
theorem info5:(Tryz.prog.info? 5).map (fun i=> (i.zero,i.size,i.bytes))=some (some (.int .u8 0),1,1):=by kernel_rfl
theorem make_bytes (n:Nat) (hn:n≤1048576):∃C:Array Value,(∀j,j<n→C[j]?=some (.int .u8 0))∧∀w,(Instr.makeSlice 22 (.int .i64 n) (.int .i64 n)).run Tryz.prog w= .ok (.slice (some ⟨w.heap.size,0,none⟩) n n) (w.alloc (.cells C 5)):=by
 obtain ⟨i0,hi,hz0,hz1,hz2⟩:=info_parts info5;refine ⟨madeCells #[.int .u8 0] n,fun j hj=>?_,fun w=>?_⟩
 ·rw [←Array.getElem?_toList,toList_madeCells_one,List.getElem?_replicate,if_pos hj]
 ·have:=run_make (P:=Tryz.prog) w 22 5 i0 _ Tryz.underlying22 hi hz0 .i64 .i64 n n (by omega) (by omega) (by rw [hz2];omega) (by omega);rw [hz1] at this;simpa [Value.cells] using this
theorem specNew (n:Int) (w:World):
  Calls Tryz.prog 22 #[.int .i64 n] w fun e w'=>e= .returned (.tuple #[.agg #[.string (newM n).1,.slice none 0 0],.bool (newM n).2])∧Below w.heap.size w w':=by
 by_cases h:0≤n∧n≤3000
 ·obtain ⟨k,hk⟩:∃k:Nat,n=k:=⟨n.toNat,by omega⟩;subst hk;have hm:newM (k:Int)=(dataZ k,true):=by unfold newM;rw [if_pos h];rfl
  rw [hm];have d0:decide (0≤(k:Int)∧(k:Int)≤3000)=true:=decide_eq_true h;obtain ⟨C,hC,hmk⟩:=make_bytes k (by omega);have hcv:∀w:World,(convert 22 9 (.slice (some ⟨w.heap.size,0,none⟩) k k)).run Tryz.prog (w.alloc (.cells C 5))= .ok (.string (dataZ k)) (w.alloc (.cells C 5)):=fun w=>by
   have:=run_convert_bytes_back (P:=Tryz.prog) (w.alloc (.cells C 5)) 22 9 5 ⟨w.heap.size,0,none⟩ k ((List.range k).map fun _=>0) Tryz.underlying22 Tryz.underlying5 Tryz.underlying9 ?_
   ·simpa [dataZ] using this
   ·intro j hj;have hj':j<k:=by simpa using hj
    rw [Addr.add_lit,Nat.zero_add,(RowAt.new w 5 C).cell j,hC j hj'];simp
  have HC:Hid (∀j,j<k→C[j]?=some (.int .u8 0)):=hC;clear hC;go_enter Tryz.func22,Tryz.ntmps22;go_wp2_with fail;refine (l1In_any k 0 3000 _).mono ?_;rintro e w1 ⟨rfl,rfl⟩;rw [d0];have hb0:Below w.heap.size w (w.alloc (.cells #[.string ⟨#[]⟩,.slice none 0 0] 29)):=(Below.refl _ w).alloc (Nat.le_refl _) _;have hn0:=RowAt.new w 29 #[.string ⟨#[]⟩,.slice none 0 0];have hs0:w.heap.size<(w.alloc (.cells #[.string ⟨#[]⟩,.slice none 0 0] 29)).heap.size:=by simp
  generalize w.alloc (.cells #[.string ⟨#[]⟩,.slice none 0 0] 29)=w1 at*;have hb1:Below w1.heap.size w1 (w1.alloc (.cells C 5)):=(Below.refl _ w1).alloc (Nat.le_refl _) _;have hn3:=hn0.below hb1 hs0;have hm1:=hmk w1;have hc1:=hcv w1;clear hmk hcv;generalize w1.alloc (.cells C 5)=w3 at*;have HB:Hid (Below w.heap.size w w3):=hb0.trans (hb1.mono (by omega));have c0:=hn3.cell 0;have c1:=hn3.cell 1;simp at c0 c1;have f0:=hn3.frozen 0;have f1:=hn3.frozen 1;have hr4:RowAt ((w3.setCell ⟨w.heap.size,0,none⟩ (.string (dataZ k))).setCell ⟨w.heap.size,1,none⟩ (.slice none 0 0)) w.heap.size 29 #[.string (dataZ k),.slice none 0 0]:=by
   have:=(hn3.set 0 (.string (dataZ k))).set 1 (.slice none 0 0);simpa using this
  have e0:=hr4.cell 0;have e1:=hr4.cell 1;simp at e0 e1;clear hn3 hr4 hn0;go_wp2;exact bodyPost_ret (v:= .tuple #[.agg #[.string (dataZ k),.slice none 0 0],.bool true]) (by simp [results,Tryz.results22,go_sem,e0,e1]) rfl ⟨rfl,(HB.out.setCell (p:=⟨w.heap.size,0,none⟩) (Nat.le_refl _) _).setCell (p:=⟨w.heap.size,1,none⟩) (Nat.le_refl _) _⟩
 ·have hm:newM n=(⟨#[]⟩,false):=by unfold newM;rw [if_neg h]
  rw [hm];have d0:decide (0≤n∧n≤3000)=false:=decide_eq_false h;go_enter Tryz.func22,Tryz.ntmps22;go_wp2_with fail;refine (l1In_any n 0 3000 _).mono ?_;rintro e w1 ⟨rfl,rfl⟩;rw [d0];go_wp2;exact bodyPost_ret (v:= .tuple #[.agg #[.string ⟨#[]⟩,.slice none 0 0],.bool false]) (by simp [results,Tryz.results22,go_sem]) rfl ⟨rfl,(Below.refl _ w).alloc (Nat.le_refl _) _⟩
structure Cl where
 pos:Int
 len:Int
 gen:Int
 live:Bool
def cl0:Cl:=⟨0,0,0,false⟩
def admitB (n:Nat) (c:Cl):Bool:=
 decide (1≤c.gen∧c.gen≤1000000000)&&(if c.live then decide (1≤c.len∧0≤c.pos∧c.pos≤n-c.len) else decide (c.pos=0∧c.len=0))
def zce (n:Nat) (c:Cl):Bool:=
 decide (1≤c.gen∧c.gen≤1000000000)&&decide (0≤c.pos∧c.pos≤3000)&&decide (0≤c.len∧c.len≤3000)&&
  !(c.live&&decide (c.len=0∨(n:Int)<c.pos+c.len))&&!(!c.live&&decide (c.pos≠0∨c.len≠0))
theorem cell_same (n:Nat) (hn:n≤3000) (c:Cl):admitB n c=zce n c:=by
 unfold admitB zce;rw [Bool.eq_iff_iff];cases hl:c.live<;>simp<;>omega
def covers (c:Cl) (i:Nat):Bool:=c.live&&decide (c.pos≤i∧(i:Int)<c.pos+c.len)
def free (t:Nat→Bool) (c:Cl):Bool:=(List.range c.len.toNat).all fun k=>!t (c.pos.toNat+k)
def takes (t:Nat→Bool) (c:Cl):Nat→Bool:=fun i=>t i||covers c i
def openM (n:Nat):List Cl→(Nat→Bool)→Option (Nat→Bool)
 | [],t=>some t
 |c::r,t=>if admitB n c=true∧(c.live=true→free t c=true) then openM n r (takes t c) else none
def byteAt (s:ByteArray) (i:Nat):UInt8:=s.data.toList.getD i 0
def cleanM (d:Nat→UInt8) (t:Nat→Bool) (n:Nat):Bool:=(List.range n).all fun i=>t i||d i==0
def implB (d:Nat→UInt8) (n:Nat) (L:List Cl):Bool:=match openM n L (fun _=>false) with|none=>false|some t=>cleanM d t n
def insC (c:Cl):List Cl→List Cl
 | []=> [c]
 |x::r=>if x.pos<c.pos then x::insC c r else c::x::r
def liveC:List Cl→List Cl→List Cl
 |S,[]=>S
 |S,c::r=>if c.live then liveC (insC c S) r else liveC S r
def zerosB (d:Nat→UInt8) (e k:Nat):Bool:=(List.range (k-e)).all fun j=>d (e+j)==0
def sweepB (d:Nat→UInt8) (n:Nat):List Cl→Nat→Bool
 | [],e=>decide (e≤n)&&zerosB d e n
 |c::r,e=>decide ((e:Int)≤c.pos)&&zerosB d e c.pos.toNat&&sweepB d n r (c.pos+c.len).toNat
def specB (d:Nat→UInt8) (n:Nat) (L:List Cl):Bool:=L.all (zce n)&&sweepB d n (liveC [] L) 0
def Ok (n:Nat) (c:Cl):Prop:=c.live=true∧1≤c.len∧0≤c.pos∧c.pos+c.len≤n
def Disj (a b:Cl):Prop:=a.pos+a.len≤b.pos∨b.pos+b.len≤a.pos
theorem Disj.symm {a b:Cl} (h:Disj a b):Disj b a:=h.elim .inr .inl
theorem insC_perm (c:Cl):∀S:List Cl,(insC c S).Perm (c::S)
 | []=> .refl _
 |x::r=>by
  rw [insC];split
  ·exact ((insC_perm c r).cons x).trans (.swap c x r)
  ·exact .refl _
theorem liveC_perm:∀(L S:List Cl),(liveC S L).Perm (S++L.filter (·.live))
 | [],S=>by rw [liveC];simp
 |c::r,S=>by
  rw [liveC];split
  ·rename_i h;refine (liveC_perm r _).trans ?_;rw [List.filter_cons_of_pos h];exact ((insC_perm c S).append_right _).trans (List.perm_middle.symm)
  ·rename_i h;refine (liveC_perm r _).trans ?_;rw [List.filter_cons_of_neg h]
def Sorted (S:List Cl):Prop:=S.Pairwise fun a b=>a.pos≤b.pos
theorem insC_sorted (c:Cl):∀S:List Cl,Sorted S→Sorted (insC c S)
 | [],_=>by rw [insC];exact List.pairwise_singleton _ _
 |x::r,h=>by
  unfold Sorted at h;rw [List.pairwise_cons] at h;rw [insC];split
  ·rename_i hx;refine List.pairwise_cons.2 ⟨fun y hy=>?_,insC_sorted c r h.2⟩;rcases List.mem_cons.1 ((insC_perm c r).mem_iff.1 hy) with rfl|hy
   ·omega
   ·exact h.1 y hy
  ·rename_i hx;refine List.pairwise_cons.2 ⟨fun y hy=>?_,List.pairwise_cons.2 h⟩;rcases List.mem_cons.1 hy with rfl|hy
   ·omega
   ·have:=h.1 y hy;omega
theorem liveC_sorted:∀(L S:List Cl),Sorted S→Sorted (liveC S L)
 | [],S,h=>by rw [liveC];exact h
 |c::r,S,h=>by
  rw [liveC];split
  ·exact liveC_sorted r _ (insC_sorted c S h)
  ·exact liveC_sorted r S h
theorem zeros_iff (d:Nat→UInt8) (e k:Nat):zerosB d e k=true↔∀i,e≤i→i<k→d i=0:=by
 unfold zerosB;rw [List.all_eq_true];constructor
 ·intro h i h1 h2;have:=h (i-e) (by rw [List.mem_range];omega);rw [show e+(i-e)=i from by omega] at this;simpa using this
 ·intro h j hj;rw [List.mem_range] at hj;simpa using h (e+j) (by omega) (by omega)
theorem covers_iff (c:Cl) (i:Nat) (h:c.live=true):covers c i=true↔c.pos≤i∧(i:Int)<c.pos+c.len:=by
 unfold covers;rw [h];simp
theorem sweep_iff (d:Nat→UInt8) (n:Nat):∀(S:List Cl) (e:Nat),(∀c∈S,Ok n c)→Sorted S→e≤n→
  (sweepB d n S e=true↔(S.Pairwise Disj∧(∀c∈S,(e:Int)≤c.pos)∧∀i,e≤i→i<n→(∀c∈S,covers c i=false)→d i=0))
 | [],e,_,_,he=>by
  rw [sweepB,Bool.and_eq_true,zeros_iff];simp [he]
 |c::r,e,hok,hs,he=>by
  have hc:=hok c (by simp);obtain ⟨hl,h1,h2,h3⟩:=hc;rw [Sorted,List.pairwise_cons] at hs;have ih:=sweep_iff d n r (c.pos+c.len).toNat (fun x hx=>hok x (by simp [hx])) hs.2 (by omega);rw [sweepB,Bool.and_eq_true,Bool.and_eq_true,zeros_iff,ih,decide_eq_true_iff,List.pairwise_cons];constructor
  ·rintro ⟨⟨a1,a2⟩,a3,a4,a5⟩;refine ⟨⟨fun x hx=> .inl ?_,a3⟩,?_,?_⟩
   ·have:=a4 x hx;omega
   ·intro x hx;rcases List.mem_cons.1 hx with rfl|hx
    ·exact a1
    ·have:=a4 x hx;omega
   ·intro i hi1 hi2 hcov;by_cases hb:i<c.pos.toNat
    ·exact a2 i hi1 hb
    ·by_cases hb2:(c.pos+c.len).toNat≤i
     ·exact a5 i hb2 hi2 (fun x hx=>hcov x (by simp [hx]))
     ·exfalso;have:=hcov c (by simp);rw [Bool.eq_false_iff] at this;exact this ((covers_iff c i hl).2 (by omega))
  ·rintro ⟨⟨b1,b2⟩,b3,b4⟩;have hr:∀x∈r,(((c.pos+c.len).toNat:Nat):Int)≤x.pos:=fun x hx=>by
    have hx1:=hok x (by simp [hx]);have hx2:=hs.1 x hx;obtain ⟨_,q1,q2,q3⟩:=hx1;rcases b1 x hx with h|h<;>omega
   refine ⟨⟨b3 c (by simp),?_⟩,b2,hr,?_⟩
   ·intro i hi1 hi2;refine b4 i hi1 (by omega) (fun x hx=>?_);rw [Bool.eq_false_iff];rcases List.mem_cons.1 hx with rfl|hx
    ·intro h;have:=(covers_iff _ i hl).1 h;omega
    ·intro h;have:=(covers_iff x i (hok x (by simp [hx])).1).1 h;have:=hr x hx;omega
   ·intro i hi1 hi2 hcov;refine b4 i (by have:=b3 c (by simp);omega) hi2 (fun x hx=>?_);rcases List.mem_cons.1 hx with rfl|hx
    ·rw [Bool.eq_false_iff];intro h;have:=(covers_iff _ i hl).1 h;omega
    ·exact hcov x hx
theorem free_iff (t:Nat→Bool) (c:Cl) (h0:0≤c.pos) (hl:c.live=true):free t c=true↔∀i,covers c i=true→t i=false:=by
 unfold free;rw [List.all_eq_true];constructor
 ·intro h i hi;rw [covers_iff c i hl] at hi;have:=h (i-c.pos.toNat) (by rw [List.mem_range];omega);rw [show c.pos.toNat+(i-c.pos.toNat)=i from by omega] at this;simpa using this
 ·intro h k hk;rw [List.mem_range] at hk;have:=h (c.pos.toNat+k) ((covers_iff c _ hl).2 (by omega));simpa using this
theorem admit_ok {n:Nat} {c:Cl} (h:admitB n c=true) (hl:c.live=true):Ok n c:=by
 unfold admitB at h;rw [hl] at h;simp at h;exact ⟨hl,by omega,by omega,by omega⟩
theorem open_iff (n:Nat):∀(L:List Cl) (t t':Nat→Bool),
  (openM n L t=some t'↔(L.all (admitB n)=true∧(L.filter (·.live)).Pairwise Disj∧(∀c∈L.filter (·.live),∀i,covers c i=true→t i=false)∧t'=fun i=>t i||(L.filter (·.live)).any fun c=>covers c i))
 | [],t,t'=>by
  rw [openM];simp;exact ⟨fun h=>h ▸ rfl,fun h=>h ▸ rfl⟩
 |c::r,t,t'=>by
  rw [openM];by_cases ha:admitB n c=true∧(c.live=true→free t c=true)
  ·rw [if_pos ha,open_iff n r (takes t c) t'];cases hl:c.live with
   |false=>
    have e1:takes t c=t:=by funext i;simp [takes,covers,hl]
    rw [List.filter_cons_of_neg (by simp [hl]),e1,List.all_cons,ha.1,Bool.true_and]
   |true=>
    have hok:=admit_ok ha.1 hl;have hfr:=(free_iff t c hok.2.2.1 hl).1 (ha.2 hl);rw [List.filter_cons_of_pos hl,List.all_cons,ha.1,Bool.true_and,List.pairwise_cons];constructor
    ·rintro ⟨a1,a2,a3,a4⟩;refine ⟨a1,⟨fun x hx=>?_,a2⟩,?_,?_⟩
     ·have hxl:x.live=true:=(List.mem_filter.1 hx).2;have hxo:=admit_ok (List.all_eq_true.1 a1 x (List.mem_filter.1 hx).1) hxl;obtain ⟨_,p1,p2,p3⟩:=hok;obtain ⟨_,q1,q2,q3⟩:=hxo;by_cases hd:Disj c x
      ·exact hd
      ·exfalso;unfold Disj at hd;have hi:covers x (max c.pos x.pos).toNat=true:=(covers_iff x _ hxl).2 (by omega);have:=a3 x hx _ hi;unfold takes at this;rw [Bool.or_eq_false_iff] at this;have hc2:covers c (max c.pos x.pos).toNat=true:=(covers_iff c _ hl).2 (by omega);rw [hc2] at this;cases this.2
     ·intro x hx i hi;rcases List.mem_cons.1 hx with rfl|hx
      ·exact hfr i hi
      ·have:=a3 x hx i hi;unfold takes at this;rw [Bool.or_eq_false_iff] at this;exact this.1
     ·rw [a4];funext i;simp [takes,Bool.or_assoc]
    ·rintro ⟨a1,⟨a2,a2'⟩,a3,a4⟩;refine ⟨a1,a2',?_,?_⟩
     ·intro x hx i hi;have hxl:x.live=true:=(List.mem_filter.1 hx).2;unfold takes;rw [Bool.or_eq_false_iff];refine ⟨a3 x (by simp [hx]) i hi,?_⟩;rw [Bool.eq_false_iff];intro hc2;rw [covers_iff x i hxl] at hi;rw [covers_iff c i hl] at hc2;rcases a2 x hx with h|h<;>omega
     ·rw [a4];funext i;simp [takes,Bool.or_assoc]
  ·rw [if_neg ha];constructor
   ·intro h;cases h
   ·rintro ⟨a1,a2,a3,a4⟩;exfalso;rw [List.all_cons,Bool.and_eq_true] at a1;refine ha ⟨a1.1,fun hl=>?_⟩;have hok:=admit_ok a1.1 hl;refine (free_iff t c hok.2.2.1 hl).2 (fun i hi=>a3 c ?_ i hi);rw [List.filter_cons_of_pos hl];simp
theorem impl_spec (d:Nat→UInt8) (n:Nat) (hn:n≤3000) (L:List Cl):implB d n L=specB d n L:=by
 have hall:L.all (zce n)=L.all (admitB n):=by
  congr 1;funext c;exact (cell_same n hn c).symm
 unfold specB;rw [hall,Bool.eq_iff_iff,Bool.and_eq_true];have hP:=liveC_perm L [];rw [List.nil_append] at hP;constructor
 ·intro h;unfold implB at h;cases ho:openM n L (fun _=>false) with
  |none=>rw [ho] at h;cases h
  |some t=>
   rw [ho] at h;obtain ⟨a1,a2,_,a4⟩:=(open_iff n L _ t).1 ho;refine ⟨a1,(sweep_iff d n _ 0 ?_ (liveC_sorted L [] List.Pairwise.nil) (by omega)).2 ⟨?_,?_,?_⟩⟩
   ·intro c hc;have hm:=hP.mem_iff.1 hc;exact admit_ok (List.all_eq_true.1 a1 c (List.mem_filter.1 hm).1) (List.mem_filter.1 hm).2
   ·exact (hP.pairwise_iff (fun h=>Disj.symm h)).2 a2
   ·intro c hc;have hm:=hP.mem_iff.1 hc;have:=admit_ok (List.all_eq_true.1 a1 c (List.mem_filter.1 hm).1) (List.mem_filter.1 hm).2;exact this.2.2.1
   ·intro i _ hi hcov;unfold cleanM at h;have:=List.all_eq_true.1 h i (List.mem_range.2 hi);rw [a4] at this;have hno:((L.filter (·.live)).any fun c=>covers c i)=false:=by
     rw [Bool.eq_false_iff];intro h';obtain ⟨c,hc,hci⟩:=List.any_eq_true.1 h';rw [hcov c (hP.mem_iff.2 hc)] at hci;cases hci
    simp [hno] at this;exact this
 ·rintro ⟨a1,h⟩;have hokS:∀c∈liveC [] L,Ok n c:=fun c hc=>by
   have hm:=hP.mem_iff.1 hc;exact admit_ok (List.all_eq_true.1 a1 c (List.mem_filter.1 hm).1) (List.mem_filter.1 hm).2
  obtain ⟨b1,b2,b3⟩:=(sweep_iff d n _ 0 hokS (liveC_sorted L [] List.Pairwise.nil) (by omega)).1 h;have ho:=(open_iff n L (fun _=>false) (fun i=>false||(L.filter (·.live)).any fun c=>covers c i)).2 ⟨a1,(hP.pairwise_iff (fun h=>Disj.symm h)).1 b1,fun _ _ _ _=>rfl,rfl⟩;unfold implB;rw [ho];show cleanM d _ n=true;unfold cleanM;rw [List.all_eq_true];intro i hi;rw [List.mem_range] at hi;cases hc:(L.filter (·.live)).any fun c=>covers c i with
  |true=>
   show ((false||(L.filter (·.live)).any fun c=>covers c i)||(d i==0))=true;rw [hc];rfl
  |false=>
   have:=b3 i (by omega) hi (fun c hcS=>by
    rw [Bool.eq_false_iff];intro h';have h2:((L.filter (·.live)).any fun c=>covers c i)=true:=List.any_eq_true.2 ⟨c,hP.mem_iff.1 hcS,h'⟩;rw [hc] at h2;cases h2)
   show ((false||(L.filter (·.live)).any fun c=>covers c i)||(d i==0))=true;rw [hc,this];rfl
end Go.Proofs.YtjpeglkkkllagaaGreatDoor.Hp
namespace Go.Proofs.YtjpeglkkkllagaaGreatDoor.Hp
open Go.RowKit Go.Sort
theorem zae {a b:Bool} (h:a=b):Ending.returned (.bool a)= .returned (.bool b):=by rw [h]
structure ClAt (w:World) (b o:Nat) (x:Cl):Prop where
 c0:w.cell? ⟨b,o,none⟩=some (.int .i64 x.pos)
 c1:w.cell? ⟨b,o+1,none⟩=some (.int .i64 x.len)
 c2:w.cell? ⟨b,o+2,none⟩=some (.int .i64 x.gen)
 c3:w.cell? ⟨b,o+3,none⟩=some (.bool x.live)
structure CellsIn (w:World) (a:Option Addr) (b off n:Nat) (L:List Cl):Prop where
 len:L.length=n
 addr:0<n→a=some ⟨b,off,none⟩
 low:0<n→b<w.heap.size
 cell:∀i,i<n→ClAt w b (off+i*4) (L.getD i cl0)
theorem cl_below {w w':World} {b o B:Nat} {x:Cl} (h:ClAt w b o x) (hl:b<B) (hb:Below B w w'):ClAt w' b o x:=
 ⟨(hb.cell (p:=⟨b,o,none⟩) hl).trans h.c0,(hb.cell (p:=⟨b,o+1,none⟩) hl).trans h.c1,(hb.cell (p:=⟨b,o+2,none⟩) hl).trans h.c2,(hb.cell (p:=⟨b,o+3,none⟩) hl).trans h.c3⟩
theorem zaj {w w':World} {a:Option Addr} {b off n:Nat} {L:List Cl} (h:CellsIn w a b off n L) (hb:Below w.heap.size w w'):CellsIn w' a b off n L:=
 ⟨h.len,h.addr,fun h0=>by have:=h.low h0;have:=hb.size;omega,fun i hi=>cl_below (h.cell i hi) (h.low (by omega)) hb⟩
abbrev clV (x:Cl):Array Value:= #[.int .i64 x.pos,.int .i64 x.len,.int .i64 x.gen,.bool x.live]
abbrev put4 (w:World) (g o:Nat) (v0 v1 v2 v3:Value):World:=(((w.setCell ⟨g,o,none⟩ v0).setCell ⟨g,o+1,none⟩ v1).setCell ⟨g,o+2,none⟩ v2).setCell ⟨g,o+3,none⟩ v3
theorem cleanM_true {d:Nat→UInt8} {t:Nat→Bool} {n:Nat} (h:∀j,j<n→t j=true∨d j=0):cleanM d t n=true:=by
 unfold cleanM;rw [List.all_eq_true];intro x hx;rcases h x (by simpa using hx) with h|h<;>simp [h]
theorem cleanM_false {d:Nat→UInt8} {t:Nat→Bool} {n k:Nat} (hk:k<n) (h1:t k=false) (h2:d k≠0):cleanM d t n=false:=by
 rw [Bool.eq_false_iff];intro h;unfold cleanM at h;rw [List.all_eq_true] at h;have:=h k (by simpa using hk);simp [h1,h2] at this
theorem clean_any (g n:Nat) (d:Nat→UInt8) (t:Nat→Bool) (cs:Value) (w:World) (h:Arena w g d t n cs) (hn:n≤3000):
  Calls Tryz.prog 55 #[.pointer (some ⟨g,0,none⟩)] w fun e w'=>e= .returned (.bool (cleanM d t n))∧w'=w:=by
 obtain ⟨C,hr,hsz,hd,ht,hs,hc⟩:=h.row;have cs:=(hr.cell 6000).trans hs;have HD:Hid (∀i,i<3000→w.cell? ⟨g,i,none⟩=some (.int .u8 (d i).toNat)):=fun i hi=> (hr.cell i).trans (hd i hi);have HT:Hid (∀i,i<3000→w.cell? ⟨g,3000+i,none⟩=some (.bool (t i))):=fun i hi=> (hr.cell (3000+i)).trans (ht i hi);clear hr hd ht hs hc h;go_enter Tryz.func55,Tryz.ntmps55;go_wp2;go_loop [3,8] (fun _ i=>∃k:Nat,k≤n∧i= .int .i64 k∧Hid (∀j,j<k→t j=true∨d j=0)) (fun _ i=>n-(intOf i).toNat)
 case atStart=>exact ⟨0,by omega,rfl,fun j hj=>by omega⟩
 case round=>
  obtain ⟨k,hk,rfl,hj⟩:=hrel;by_cases hlt:k<n
  ·have ct:=HT.out k (by omega);have cd:=HD.out k (by omega);have hki:(k:Int)<3000:=by omega
   cases htk:t k with
   |true=>
    rw [htk] at ct;go_wp2;go_round
    ·exact ⟨k+1,by omega,by go_num,fun j hj2=>by
      rcases Nat.lt_succ_iff_lt_or_eq.1 hj2 with h|h
      ·exact hj.out j h
      ·subst h;exact .inl htk⟩
    ·simp [intOf];omega
   |false=>
    rw [htk] at ct;by_cases hz:d k=0
    ·rw [hz] at cd;go_wp2;go_round
     ·exact ⟨k+1,by omega,by go_num,fun j hj2=>by
       rcases Nat.lt_succ_iff_lt_or_eq.1 hj2 with h|h
       ·exact hj.out j h
       ·subst h;exact .inr hz⟩
     ·simp [intOf];omega
    ·have HE:Hid (cleanM d t n=false):=cleanM_false hlt htk hz;have hne:(((d k).toNat:Int)==0)=false:=by
      rw [beq_eq_false_iff_ne];intro e;exact hz (UInt8.toNat_inj.mp (by simpa using e))
     go_wp2;go_ret;exact ⟨zae HE.out.symm,rfl⟩
  ·have hkn:k=n:=by omega
   have HE:Hid (cleanM d t n=true):=cleanM_true (by subst hkn;exact hj.out);go_wp2;go_ret;exact ⟨zae HE.out.symm,rfl⟩
theorem Arena.copied {w':World} {g n:Nat} {s:ByteArray} {t:Nat→Bool} {cs:Value} {C:Array Value} (hsz:C.size=6002) (hd:∀i,i<3000→C[i]?=some (.int .u8 0))
  (ht:∀i,i<3000→C[3000+i]?=some (.bool (t i))) (hs:C[6000]?=some (.int .i64 n)) (hc:C[6001]?=some cs) (hn:s.size≤3000)
  (hw:RowAt w' g 79 (C.toList.take 0++Lib.byteCells s.data.toList++C.toList.drop (0+s.size)).toArray):Arena w' g (byteAt s) t n cs:=by
 have hlen:(Lib.byteCells s.data.toList).length=s.size:=by rw [Lib.byteCells_length,←Lib.size_eq]
 have hget:∀i,(C.toList.take 0++Lib.byteCells s.data.toList++C.toList.drop (0+s.size)).toArray[i]?=if i<s.size then (Lib.byteCells s.data.toList)[i]? else C[i]?:=fun i=>by
  rw [List.take_zero,List.nil_append,Nat.zero_add,List.getElem?_toArray];by_cases h:i<s.size
  ·rw [if_pos h,List.getElem?_append_left (by rw [hlen];exact h)]
  ·rw [if_neg h,List.getElem?_append_right (by rw [hlen];omega),hlen,List.getElem?_drop,Array.getElem?_toList];congr 1;omega
 refine ⟨_,hw,?_,fun i hi=>?_,fun i hi=>?_,?_,?_⟩
 ·rw [List.size_toArray,List.take_zero,List.nil_append,List.length_append,hlen,List.length_drop,Array.length_toList,hsz];omega
 ·rw [hget i];by_cases h:i<s.size
  ·have hl:i<s.data.toList.length:=by rw [←Lib.size_eq];exact h
   rw [if_pos h,Lib.byteCells,List.getElem?_map,byteAt,List.getD_eq_getElem?_getD,List.getElem?_eq_getElem hl];rfl
  ·have hl:s.data.toList.length≤i:=by rw [←Lib.size_eq];omega
   rw [if_neg h,hd i hi,byteAt,List.getD_eq_getElem?_getD,List.getElem?_eq_none hl];rfl
 ·rw [hget,if_neg (by omega),ht i hi]
 ·rw [hget,if_neg (by omega),hs]
 ·rw [hget,if_neg (by omega),hc]
theorem info5s:(Tryz.prog.info? 5).map (·.size)=some 1:=by kernel_rfl
theorem info76:(Tryz.prog.info? 81).map (fun i=> (i.zero,i.size,i.bytes))=some (some (.pointer none),1,8):=by kernel_rfl
def Fit (x:Cl):Prop:=(-9223372036854775808≤x.pos∧x.pos≤9223372036854775807)∧(-9223372036854775808≤x.len∧x.len≤9223372036854775807)∧(-9223372036854775808≤x.gen∧x.gen≤9223372036854775807)
theorem Arena.below {w w':World} {g n B:Nat} {d:Nat→UInt8} {t:Nat→Bool} {cs:Value} (h:Arena w g d t n cs) (hb:Below B w w') (hB:g<B):Arena w' g d t n cs:=by
 obtain ⟨C,hr,hrest⟩:=h.row;exact ⟨C,hr.below hb hB,hrest⟩
theorem Arena.lt {w:World} {g n:Nat} {d:Nat→UInt8} {t:Nat→Bool} {cs:Value} (h:Arena w g d t n cs):g<w.heap.size:=by
 obtain ⟨C,hr,_⟩:=h.row;exact hr.lt
theorem Arena.size {w:World} {g n:Nat} {d:Nat→UInt8} {t:Nat→Bool} {cs:Value} (h:Arena w g d t n cs):w.cell? ⟨g,6000,none⟩=some (.int .i64 n):=by
 obtain ⟨C,hr,_,_,_,h1,_⟩:=h.row;exact (hr.cell 6000).trans h1
theorem Arena.cells {w:World} {g n:Nat} {d:Nat→UInt8} {t:Nat→Bool} {cs:Value} (h:Arena w g d t n cs):w.cell? ⟨g,6001,none⟩=some cs:=by
 obtain ⟨C,hr,_,_,_,_,h1⟩:=h.row;exact (hr.cell 6001).trans h1
theorem Arena.taken {w:World} {g n:Nat} {d:Nat→UInt8} {t:Nat→Bool} {cs:Value} (h:Arena w g d t n cs) (i:Nat) (hi:i<3000):w.cell? ⟨g,3000+i,none⟩=some (.bool (t i)):=by
 obtain ⟨C,hr,_,_,h1,_⟩:=h.row;exact (hr.cell _).trans (h1 i hi)
theorem Arena.frozen {w:World} {g n:Nat} {d:Nat→UInt8} {t:Nat→Bool} {cs:Value} (h:Arena w g d t n cs) (j:Nat):w.frozen? ⟨g,j,none⟩=false:=by
 obtain ⟨C,hr,_⟩:=h.row;exact hr.frozen j
theorem Arena.mark {w:World} {g n:Nat} {d:Nat→UInt8} {t:Nat→Bool} {cs:Value} (h:Arena w g d t n cs) (i:Nat) (hi:i<3000):Arena (w.setCell ⟨g,3000+i,none⟩ (.bool true)) g d (fun j=>if j=i then true else t j) n cs:=by
 obtain ⟨C,hr,hs,h1,h2,h3,h4⟩:=h.row;refine ⟨_,hr.set (3000+i) _,by rw [Array.size_setIfInBounds];exact hs,fun j hj=>?_,fun j hj=>?_,?_,?_⟩
 ·rw [Array.getElem?_setIfInBounds_ne (by omega)];exact h1 j hj
 ·by_cases e:j=i
  ·subst e;rw [Array.getElem?_setIfInBounds_self_of_lt (by omega),if_pos rfl]
  ·rw [Array.getElem?_setIfInBounds_ne (by omega),if_neg e];exact h2 j hj
 ·rw [Array.getElem?_setIfInBounds_ne (by omega)];exact h3
 ·rw [Array.getElem?_setIfInBounds_ne (by omega)];exact h4
theorem Arena.setCells {w:World} {g n:Nat} {d:Nat→UInt8} {t:Nat→Bool} {cs cs':Value} (h:Arena w g d t n cs):Arena (w.setCell ⟨g,6001,none⟩ cs') g d t n cs':=by
 obtain ⟨C,hr,hs,h1,h2,h3,_⟩:=h.row;refine ⟨_,hr.set 6001 _,by rw [Array.size_setIfInBounds];exact hs,fun j hj=>?_,fun j hj=>?_,?_,?_⟩
 ·rw [Array.getElem?_setIfInBounds_ne (by omega)];exact h1 j hj
 ·rw [Array.getElem?_setIfInBounds_ne (by omega)];exact h2 j hj
 ·rw [Array.getElem?_setIfInBounds_ne (by omega)];exact h3
 ·rw [Array.getElem?_setIfInBounds_self_of_lt (by omega)]
theorem Arena.same {w:World} {g n:Nat} {d:Nat→UInt8} {t t':Nat→Bool} {cs:Value} (h:Arena w g d t n cs) (e:∀i,i<3000→t' i=t i):Arena w g d t' n cs:=by
 obtain ⟨C,hr,hs,h1,h2,h3,h4⟩:=h.row;exact ⟨C,hr,hs,h1,fun i hi=>by rw [e i hi];exact h2 i hi,h3,h4⟩
theorem cl_new (w:World) (x:Cl):ClAt (w.alloc (.cells (clV x) 84)) w.heap.size 0 x:=by
 have h:=RowAt.new w 84 (clV x);exact ⟨h.cell 0,h.cell 1,h.cell 2,h.cell 3⟩
def withinB (n:Nat) (x:Cl):Bool:=decide (1≤x.len∧0≤x.pos∧x.pos≤n-x.len)
theorem within_any (g n:Nat) (d:Nat→UInt8) (t:Nat→Bool) (cs:Value) (x:Cl) (w:World) (h:Arena w g d t n cs) (hn:n≤3000) (hx:Fit x):
  Calls Tryz.prog 82 #[.pointer (some ⟨g,0,none⟩),.agg (clV x)] w fun e w'=>e= .returned (.bool (withinB n x))∧Below w.heap.size w w':=by
 have hb:Below w.heap.size w (w.alloc (.cells (clV x) 84)):=(Below.refl _ w).alloc (Nat.le_refl _) _;have hc:=cl_new w x;have hs:=(h.below hb h.lt).size;obtain ⟨⟨p1,p2⟩,⟨l1,l2⟩,_⟩:=hx;have HB:Hid (Below w.heap.size w (w.alloc (.cells (clV x) 84))):=hb;clear h hb;have c0:=hc.c0;have c1:=hc.c1;have c2:=hc.c2;have c3:=hc.c3;clear hc;by_cases h1:1≤x.len
 ·have d1:decide (1≤x.len)=true:=decide_eq_true h1;by_cases h2:0≤x.pos
  ·have d2:decide (0≤x.pos)=true:=decide_eq_true h2;have HR:Hid (withinB n x=decide (x.pos≤(n:Int)-x.len)):=by unfold Hid withinB;simp [h1,h2]
   go_enter Tryz.func82,Tryz.ntmps82;go_wp2;generalize w.alloc (.cells (clV x) 84)=w1 at*;go_quiet ((fail));go_wp2;go_ret;exact ⟨zae HR.out.symm,below_drewN HB.out _⟩
  ·have d2:decide (0≤x.pos)=false:=decide_eq_false h2;have HR:Hid (withinB n x=false):=by unfold Hid withinB;simp [h2]
   go_enter Tryz.func82,Tryz.ntmps82;go_wp2;generalize w.alloc (.cells (clV x) 84)=w1 at*;go_quiet ((fail));go_wp2;go_ret;exact ⟨zae HR.out.symm,below_drewN HB.out _⟩
 ·have d1:decide (1≤x.len)=false:=decide_eq_false h1;have HR:Hid (withinB n x=false):=by unfold Hid withinB;simp [h1]
  go_enter Tryz.func82,Tryz.ntmps82;go_wp2;generalize w.alloc (.cells (clV x) 84)=w1 at*;go_quiet ((fail));go_wp2;go_ret;exact ⟨zae HR.out.symm,below_drewN HB.out _⟩
theorem free_no {t:Nat→Bool} {x:Cl} {k:Nat} (hk:(k:Int)<x.len) (h:t (x.pos.toNat+k)=true):free t x=false:=by
 rw [Bool.eq_false_iff];intro hf;unfold free at hf;have:=List.all_eq_true.1 hf k (by rw [List.mem_range];omega);rw [h] at this;cases this
theorem free_yes {t:Nat→Bool} {x:Cl} (h:∀j:Nat,(j:Int)<x.len→t (x.pos.toNat+j)=false):free t x=true:=by
 unfold free;rw [List.all_eq_true];intro k hk;rw [List.mem_range] at hk;rw [h k (by omega)];rfl
def part (t:Nat→Bool) (x:Cl) (k:Nat):Nat→Bool:=fun i=>t i||decide (x.pos.toNat≤i∧i<x.pos.toNat+k)
def TakeEnd (w:World) (g:Nat) (d:Nat→UInt8) (t:Nat→Bool) (n:Nat) (cs:Value) (x:Cl) (e:Ending) (w':World):Prop:=
 e= .returned (.bool (free t x))∧(free t x=true→Arena w' g d (takes t x) n cs)∧w.grownBy w' (some g)
theorem grown_set1 {w w1:World} {b o:Nat} {v:Value} (h:w.grownBy w1 (some b)):w.grownBy (w1.setCell ⟨b,o,none⟩ v) (some b):=
 ⟨h.os,h.tape,h.output,by simpa [World.setCell] using h.size,fun k hk hr=> (Below.heap_setCell _ _ _ _ (fun e=>hr (by simp [e]))).trans (h.block k hk hr)⟩
theorem take_any (g n:Nat) (d:Nat→UInt8) (t:Nat→Bool) (cs:Value) (x:Cl) (w:World) (h:Arena w g d t n cs) (hn:n≤3000) (hx:Ok n x):
  Calls Tryz.prog 83 #[.pointer (some ⟨g,0,none⟩),.agg (clV x)] w (TakeEnd w g d t n cs x):=by
 obtain ⟨hlv,x1,x2,x3⟩:=hx;have hb:Below w.heap.size w (w.alloc (.cells (clV x) 84)):=(Below.refl _ w).alloc (Nat.le_refl _) _;have hc:=cl_new w x;have ha:=h.below hb h.lt;have hglt:=h.lt;have hne:g≠w.heap.size:=by omega
 have HG:Hid (w.grownBy (w.alloc (.cells (clV x) 84)) (some g)):=zcc (grown_refl w _) hb;have c0:=hc.c0;clear h hb;have hsz:w.heap.size<(w.alloc (.cells (clV x) 84)).heap.size:=by simp
 have HC:Hid (ClAt (w.alloc (.cells (clV x) 84)) w.heap.size 0 x):=hc;clear hc;go_enter Tryz.func83,Tryz.ntmps83;go_wp2;generalize hW:w.alloc (.cells (clV x) 84)=w1 at*;clear c0;go_loopw [5] (fun i wr=>∃k:Nat,(k:Int)≤x.len∧i= .int .i64 (x.pos+k)∧Arena wr g d (part t x k) n cs∧Hid (∀j:Nat,j<k→t (x.pos.toNat+j)=false)∧ClAt wr w.heap.size 0 x∧w.grownBy wr (some g)) (fun i _=> (x.pos+x.len-intOf i).toNat)
 case atStart=>exact ⟨0,by omega,by simp,ha.same (fun i _=>by simp [part];omega),fun j hj=>by omega,HC.out,HG.out⟩
 case round=>
  obtain ⟨k,hk,rfl,har,hfr,hcl,gr⟩:=hrel;have c0:=hcl.c0;have c1:=hcl.c1;by_cases hlt:(k:Int)<x.len
  ·obtain ⟨p,hp⟩:∃p:Nat,x.pos=p:=⟨x.pos.toNat,by omega⟩;have hpk:x.pos.toNat+k<3000:=by omega
   have ct:=har.taken (p+k) (by omega);have fz:=har.frozen (3000+(p+k));have hpart:part t x k (p+k)=t (p+k):=by
    unfold part;rw [decide_eq_false (by omega),Bool.or_false]
   rw [hpart] at ct;have hpi:x.pos+(k:Int)=((p+k:Nat):Int):=by omega
   have hlti:((p+k:Nat):Int)<x.pos+x.len:=by omega
   have hb3:((p+k:Nat):Int)<3000:=by omega
   cases htk:t (p+k) with
   |true=>
    rw [htk] at ct;have HF:Hid (free t x=false):=free_no hlt (by rw [hp];exact htk);rw [hpi];clear hpart hfr hpi;go_wp2;go_ret;exact ⟨zae HF.out.symm,(fun h=>by rw [HF.out] at h;cases h),gr⟩
   |false=>
    rw [htk] at ct
    have HA:Hid (Arena (wr.setCell ⟨g,3000+(p+k),none⟩ (.bool true)) g d (part t x (k+1)) n cs):=(har.mark (p+k) (by omega)).same (fun i hi=>by
     unfold part;by_cases e:i=p+k
     ·rw [if_pos e,decide_eq_true (by omega),Bool.or_true]
     ·rw [if_neg e];congr 1;rw [decide_eq_decide];omega)
    have HFr:Hid (∀j:Nat,j<k+1→t (x.pos.toNat+j)=false):=fun j hj=>by
     rcases Nat.lt_succ_iff_lt_or_eq.1 hj with h|h
     ·exact hfr.out j h
     ·subst h;rw [hp];exact htk
    have HCl:Hid (ClAt (wr.setCell ⟨g,3000+(p+k),none⟩ (.bool true)) w.heap.size 0 x):=by
     have hbl:∀j,(wr.setCell ⟨g,3000+(p+k),none⟩ (.bool true)).cell? ⟨w.heap.size,j,none⟩=wr.cell? ⟨w.heap.size,j,none⟩:=fun j=>World.cell?_of_block (w:=wr) (Below.heap_setCell _ _ _ _ (fun e=>hne e.symm));exact ⟨(hbl _).trans hcl.c0,(hbl _).trans hcl.c1,(hbl _).trans hcl.c2,(hbl _).trans hcl.c3⟩
    have HGr:Hid (w.grownBy (wr.setCell ⟨g,3000+(p+k),none⟩ (.bool true)) (some g)):=grown_set1 gr;rw [hpi];clear hpart hfr har hcl gr;go_wp2;go_roundw
    case rel=>exact ⟨k+1,by omega,by go_num,HA.out,HFr,HCl.out,HGr.out⟩
    case measure=>simp [intOf];omega
  ·have HF:Hid (free t x=true):=free_yes (fun j hj=>hfr.out j (by omega))
   have HA:Hid (Arena wr g d (takes t x) n cs):=har.same (fun i _=>by
    unfold takes part covers;rw [hlv,Bool.true_and];congr 1;rw [decide_eq_decide];omega)
   have hke:(k:Int)=x.len:=by omega
   have hlti:¬x.pos+(k:Int)<x.pos+x.len:=by omega
   clear hfr har hcl;go_wp2;go_ret;exact ⟨zae HF.out.symm,fun _=>HA.out,gr⟩
def Opens (w:World) (g:Nat) (d:Nat→UInt8) (t:Nat→Bool) (n k:Nat):Prop:=∃cs xs,Arena w g d t n cs∧w.ownsRow (g+1) 81 1 cs k xs
def okC (n:Nat) (t:Nat→Bool) (x:Cl):Bool:=admitB n x&&(!x.live||free t x)
theorem step_iff (n:Nat) (x:Cl) (r:List Cl) (t:Nat→Bool):openM n (x::r) t=if okC n t x=true then openM n r (takes t x) else none:=by
 rw [openM];have:(admitB n x=true∧(x.live=true→free t x=true))↔okC n t x=true:=by
  unfold okC;cases x.live<;>simp
 by_cases h:okC n t x=true
 ·rw [if_pos h,if_pos (this.2 h)]
 ·rw [if_neg h,if_neg (fun h'=>h (this.1 h'))]
theorem admit_any (g n k:Nat) (d:Nat→UInt8) (t:Nat→Bool) (x:Cl) (w:World) (h:Opens w g d t n k) (hn:n≤3000) (hk:k≤1000) (hx:Fit x):
  Calls Tryz.prog 54 #[.pointer (some ⟨g,0,none⟩),.agg (clV x)] w fun e w'=>e= .returned (.bool (okC n t x))∧(okC n t x=true→Opens w' g d (takes t x) n (k+1))∧Below g w w':=by
 obtain ⟨cs,xs,ha,ho⟩:=h;obtain ⟨i0,hi,hz0,hz1,hz2⟩:=info_parts info76;have hglt:=ha.lt;have hb1:Below w.heap.size w (w.alloc (.cells (clV x) 84)):=(Below.refl _ w).alloc (Nat.le_refl _) _;have hs1:(w.alloc (.cells (clV x) 84)).heap.size=w.heap.size+1:=by simp
 have ha1:=ha.below hb1 hglt;have hc1:=cl_new w x;have ho1:=ho.alloc (.cells (clV x) 84);by_cases hgen:1≤x.gen∧x.gen≤1000000000
 ·obtain ⟨g1,g2⟩:=hgen;have d1:¬x.gen<1:=by omega
  have d2:¬1000000000<x.gen:=by omega
  have c0:=hc1.c0;have c1:=hc1.c1;have c2:=hc1.c2;have c3:=hc1.c3;have cc:=ha1.cells;have fz:=ha1.frozen 6001;go_enter Tryz.func54,Tryz.ntmps54;go_wp2_with (at_builtin;refine wpList_append_own _ rfl _ _ 77 rfl (g+1) 81 i0 _ 1 8 Tryz.underlying77 hi hz0 hz1 hz2 rfl (by decide) _ _ _ rfl (ho1.alloc _) ⟨w.heap.size+1,0,none⟩ 1 1 [.pointer (some ⟨w.heap.size,0,none⟩)] rfl rfl ?c1 ?c2 ?c3 ?c4 ?c5 ?_)
  case c2=>rfl
  case c3=>unfold maxLen;omega
  case c4=>omega
  case c5=>omega
  intro v0' w5 hown' hgrow _;obtain ⟨A,cap,hv'⟩:∃A cap,v0'= .slice (some ⟨A,0,none⟩) (k+1) cap:=by
   rcases Go.Joins.ownsRow_forms hown' with ⟨_,h0⟩|h
   ·omega
   ·exact h
  subst hv';have hsz5:w.heap.size+2≤w5.heap.size:=by have:=hgrow.size;simp at this;omega
  have hblk:∀j,j<w.heap.size+1→some j≠Value.ownBlock cs→w5.heap[j]?=(w.alloc (.cells (clV x) 84)).heap[j]?:=fun j hj hne=>by
   rw [hgrow.block j (by simp;omega) hne];exact Below.heap_alloc _ _ _ (by omega)
  have hcsg:some g≠Value.ownBlock cs:=fun e=>by have:=(ho.lt g e.symm).1;omega
  have hcsw:some w.heap.size≠Value.ownBlock cs:=fun e=>by have:=(ho.lt _ e.symm).2;omega
  have ha5:Arena w5 g d t n cs:=by
   obtain ⟨C,hr,hrest⟩:=ha1.row;exact ⟨C,(hblk g (by omega) hcsg).trans hr,hrest⟩
  have hc5:ClAt w5 w.heap.size 0 x:=by
   have hb:∀j,w5.cell? ⟨w.heap.size,j,none⟩=(w.alloc (.cells (clV x) 84)).cell? ⟨w.heap.size,j,none⟩:=fun j=>World.cell?_of_block (w:=w.alloc (.cells (clV x) 84)) (hblk w.heap.size (by omega) hcsw);exact ⟨(hb _).trans hc1.c0,(hb _).trans hc1.c1,(hb _).trans hc1.c2,(hb _).trans hc1.c3⟩
  have hb5:Below g w w5:=⟨hgrow.os,hgrow.tape,hgrow.output,by omega,fun j hj=> (hblk j (by omega) (fun e=>by have:=(ho.lt j e.symm).1;omega)).trans (Below.heap_alloc _ _ _ (by omega))⟩;have ha6:Arena (w5.setCell ⟨g,6001,none⟩ (.slice (some ⟨A,0,none⟩) (k+1) cap)) g d t n (.slice (some ⟨A,0,none⟩) (k+1) cap):=ha5.setCells;have ho6:(w5.setCell ⟨g,6001,none⟩ (.slice (some ⟨A,0,none⟩) (k+1) cap)).ownsRow (g+1) 81 1 (.slice (some ⟨A,0,none⟩) (k+1) cap) (k+1) (xs++ [.pointer (some ⟨w.heap.size,0,none⟩)]):=ownsRow_setCell_below hown' (by simp) _;have hb6:Below g w (w5.setCell ⟨g,6001,none⟩ (.slice (some ⟨A,0,none⟩) (k+1) cap)):=hb5.setCell (p:=⟨g,6001,none⟩) (Nat.le_refl _) _;have hc6:ClAt (w5.setCell ⟨g,6001,none⟩ (.slice (some ⟨A,0,none⟩) (k+1) cap)) w.heap.size 0 x:=by
   have hb:∀j,(w5.setCell ⟨g,6001,none⟩ (.slice (some ⟨A,0,none⟩) (k+1) cap)).cell? ⟨w.heap.size,j,none⟩=w5.cell? ⟨w.heap.size,j,none⟩:=fun j=>World.cell?_of_block (w:=w5) (Below.heap_setCell _ _ _ _ (by simp;omega));exact ⟨(hb _).trans hc5.c0,(hb _).trans hc5.c1,(hb _).trans hc5.c2,(hb _).trans hc5.c3⟩
  have hsz6:w.heap.size+2≤(w5.setCell ⟨g,6001,none⟩ (.slice (some ⟨A,0,none⟩) (k+1) cap)).heap.size:=by simpa [World.setCell] using hsz5
  clear c0 c1 c2 c3 cc fz;have cc:=ha5.cells;have fz:=ha5.frozen 6001;have c0:=hc6.c0;have c1:=hc6.c1;have c2:=hc6.c2;have c3:=hc6.c3;have HA:Hid (Arena (w5.setCell ⟨g,6001,none⟩ (.slice (some ⟨A,0,none⟩) (k+1) cap)) g d t n (.slice (some ⟨A,0,none⟩) (k+1) cap)):=ha6;have HO:Hid ((w5.setCell ⟨g,6001,none⟩ (.slice (some ⟨A,0,none⟩) (k+1) cap)).ownsRow (g+1) 81 1 (.slice (some ⟨A,0,none⟩) (k+1) cap) (k+1) (xs++ [.pointer (some ⟨w.heap.size,0,none⟩)])):=ho6;have HB:Hid (Below g w (w5.setCell ⟨g,6001,none⟩ (.slice (some ⟨A,0,none⟩) (k+1) cap))):=hb6;have HG:Hid (decide (1≤x.gen∧x.gen≤1000000000)=true):=decide_eq_true ⟨g1,g2⟩;clear hown' hgrow hblk ha5 hc5 hb5 ha6 ho6 hb6 hc6 ha1 ho1 ha ho hc1 hb1 hcsg hcsw;cases hlv:x.live with
  |false=>
   have HF:Hid (okC n t x=decide (x.pos=0∧x.len=0)):=by
    unfold Hid okC admitB;rw [HG.out,hlv];simp
   have HT:Hid (takes t x=t):=by
    unfold Hid;funext i;simp [takes,covers,hlv]
   rw [hlv] at c3;by_cases hp0:x.pos=0
   ·have dp:(x.pos==0)=true:=by simp [hp0]
    have HF2:Hid (okC n t x=(x.len==0)):=by
     unfold Hid;rw [HF.out];by_cases hl0:x.len=0<;>simp [hp0,hl0]
    clear hp0;go_wp2;go_ret;exact ⟨zae HF2.out.symm,fun _=>by rw [HT.out];exact ⟨_,_,HA.out,HO.out⟩,HB.out⟩
   ·have dp:(x.pos==0)=false:=by simp [hp0]
    have HF2:Hid (okC n t x=false):=by
     unfold Hid;rw [HF.out];simp [hp0]
    go_wp2;go_ret;exact ⟨zae HF2.out.symm,(fun h=>by rw [HF2.out] at h;cases h),HB.out⟩
  |true=>
   rw [hlv] at c3;have HF:Hid (okC n t x=(withinB n x&&free t x)):=by
    unfold Hid okC admitB;rw [HG.out,hlv];simp [withinB]
   go_wp2_with fail;generalize w5.setCell ⟨g,6001,none⟩ (.slice (some ⟨A,0,none⟩) (k+1) cap)=w6 at*;have HW:=within_any g n d t (.slice (some ⟨A,0,none⟩) (k+1) cap) x w6 HA.out hn hx;simp only [clV,hlv] at HW;refine HW.mono ?_;clear HW;rintro e w7 ⟨rfl,b7⟩;have s7:=b7.size;have HA7:Hid (Arena w7 g d t n (.slice (some ⟨A,0,none⟩) (k+1) cap)):=HA.out.below b7 (by omega);have HO7:Hid (w7.ownsRow (g+1) 81 1 (.slice (some ⟨A,0,none⟩) (k+1) cap) (k+1) (xs++ [.pointer (some ⟨w.heap.size,0,none⟩)])):=
    HO.out.kept (row:=some w6.heap.size) ⟨b7.os,b7.tape,b7.output,b7.size,fun j hj _=>b7.block j hj⟩ (.inr fun e=>by have:=(HO.out.lt _ e).2;omega)
   have HB7:Hid (Below g w w7):=HB.out.trans (b7.mono (by omega));have hc7:ClAt w7 w.heap.size 0 x:=cl_below ⟨c0,c1,c2,by rw [hlv];exact c3⟩ (by omega) b7;cases hwi:withinB n x with
   |false=>
    rw [hwi,Bool.false_and] at HF;clear hc7 hwi;go_wp2;go_ret;exact ⟨zae HF.out.symm,(fun h=>by rw [HF.out] at h;cases h),HB7.out⟩
   |true=>
    rw [hwi,Bool.true_and] at HF;have hok:Ok n x:=by
     have:=of_decide_eq_true hwi;exact ⟨hlv,by omega,by omega,by omega⟩
    clear c0 c1 c2 c3;have c0:=hc7.c0;have c1:=hc7.c1;have c2:=hc7.c2;have c3:=hc7.c3;clear hc7 hwi;go_wp2_with fail;have HW:=take_any g n d t (.slice (some ⟨A,0,none⟩) (k+1) cap) x w7 HA7.out hn hok;simp only [clV,hlv] at HW;refine HW.mono ?_;clear HW;rintro e w8 ⟨rfl,ha8,g8⟩;have HA8:Hid (free t x=true→Arena w8 g d (takes t x) n (.slice (some ⟨A,0,none⟩) (k+1) cap)):=ha8;have HO8:Hid (w8.ownsRow (g+1) 81 1 (.slice (some ⟨A,0,none⟩) (k+1) cap) (k+1) (xs++ [.pointer (some ⟨w.heap.size,0,none⟩)])):=HO7.out.kept g8 (.inr fun e=>by have:=(HO7.out.lt _ e).1;omega);have HB8:Hid (Below g w w8):=HB7.out.trans (below_of_grown g8 (Nat.le_refl _) (by omega));clear ha8 g8;rw [←HF.out] at HA8 ⊢;go_wp2;go_ret;exact ⟨rfl,fun h=>⟨_,_,HA8.out h,HO8.out⟩,HB8.out⟩
 ·have HF:Hid (okC n t x=false):=by
   unfold Hid okC admitB;rw [decide_eq_false hgen,Bool.false_and,Bool.false_and]
  have hbg:Below g w (w.alloc (.cells (clV x) 84)):=hb1.mono (by omega);clear ha1 ho1 hc1 ha ho;go_enter Tryz.func54,Tryz.ntmps54;go_wp2;all_goals first
   |(exfalso;omega)
   |(go_ret;exact ⟨zae HF.out.symm,(fun h=>by rw [HF.out] at h;cases h),hbg⟩)
theorem drop_get {L:List Cl} {k:Nat} (h:k<L.length):L.drop k=L.getD k cl0::L.drop (k+1):=by
 rw [List.drop_eq_getElem_cons h,List.getD_eq_getElem?_getD,List.getElem?_eq_getElem h];rfl
def OpenEnd (w:World) (s:ByteArray) (L:List Cl) (e:Ending) (w':World):Prop:=
 ∃p:Option Addr,e= .returned (.tuple #[.pointer p,.bool (implB (byteAt s) s.size L)])∧
  (implB (byteAt s) s.size L=true→∃g t,p=some ⟨g,0,none⟩∧openM s.size L (fun _=>false)=some t∧Opens w' g (byteAt s) t s.size L.length)∧Below w.heap.size w w'
theorem opened_any (s:ByteArray) (a:Option Addr) (b off n c:Nat) (L:List Cl) (w:World) (h:CellsIn w a b off n L) (hs:s.size≤3000) (hn:n≤40) (hf:∀i,i<n→Fit (L.getD i cl0)):
  Calls Tryz.prog 28 #[.agg #[.string s,.slice a n c]] w (OpenEnd w s L):=by
 have hni:¬(3000:Int)<(s.size:Int):=by omega
 have hnc:¬(40:Int)<(n:Int):=by omega
 have hzv:=zeroV56;have hzs:=zeros_len;have hzn:¬zc56= #[]:=fun e=>by rw [e] at hzs;cases hzs
 go_enter Tryz.func28,Tryz.ntmps28;go_wp2;have hb0:Below w.heap.size w (w.alloc (.cells #[.string s,.slice a n c] 29)):=(Below.refl _ w).alloc (Nat.le_refl _) _;have hn0:=RowAt.new w 29 #[.string s,.slice a n c];have hs0:(w.alloc (.cells #[.string s,.slice a n c] 29)).heap.size=w.heap.size+1:=by simp
 generalize w.alloc (.cells #[.string s,.slice a n c] 29)=w1 at*;have ha:Arena (w1.alloc (.cells (zc56.setIfInBounds 6000 (.int .i64 (s.size:Int))) 79)) (w.heap.size+1) (fun _=>0) (fun _=>false) s.size (.slice none 0 0):=by
  have:=Arena.new w1 s.size;rwa [hs0] at this
 have hb1:Below w1.heap.size w1 (w1.alloc (.cells (zc56.setIfInBounds 6000 (.int .i64 (s.size:Int))) 79)):=(Below.refl _ w1).alloc (Nat.le_refl _) _;have hs2:(w1.alloc (.cells (zc56.setIfInBounds 6000 (.int .i64 (s.size:Int))) 79)).heap.size=w.heap.size+2:=by simp [hs0]
 generalize w1.alloc (.cells (zc56.setIfInBounds 6000 (.int .i64 (s.size:Int))) 79)=w2 at*;have hbb:Below w.heap.size w w2:=hb0.trans (hb1.mono (by omega));have hn2:=hn0.below hb1 (by omega);have c0:=hn2.cell 0;have c1:=hn2.cell 1;simp at c0 c1;obtain ⟨C,hr,hsz,hd,ht,hss,hc⟩:=ha.row;generalize hG:w.heap.size+1=G at*;have hcp:∀ty,(Builtin.copy_ #[22,9] ty #[.slice (some ⟨G,0,none⟩) 3000 3000,.string s]).run Tryz.prog w2.drew= .ok (goInt s.size) (w2.drew.setRow G (C.toList.take 0++Lib.byteCells s.data.toList++C.toList.drop (0+s.size)).toArray):=fun ty=>
  Lib.run_copy_row_string w2.drew 22 9 ty 5 G 0 3000 3000 s C 79 Tryz.underlying22 info5s hr hs (by omega)
 have hr3:RowAt (w2.drew.setRow G (C.toList.take 0++Lib.byteCells s.data.toList++C.toList.drop (0+s.size)).toArray) G 79 (C.toList.take 0++Lib.byteCells s.data.toList++C.toList.drop (0+s.size)).toArray:=
  setRow_heap w2.drew G C _ 79 _ hr
 have ha3:=Arena.copied hsz hd ht hss hc hs hr3;have hg3:w2.grownBy (w2.drew.setRow G (C.toList.take 0++Lib.byteCells s.data.toList++C.toList.drop (0+s.size)).toArray) (some G):=
  ⟨rfl,rfl,rfl,by simp [World.setRow],fun k _ hk=>by rw [setRow_other _ _ _ _ (fun e=>hk (by rw [e]))];rfl⟩
 have HA3:Hid (Arena (w2.drew.setRow G (C.toList.take 0++Lib.byteCells s.data.toList++C.toList.drop (0+s.size)).toArray) G (byteAt s) (fun _=>false) s.size (.slice none 0 0)):=ha3;clear ha hr hsz hd ht hss hc hr3 ha3;generalize w2.drew.setRow G (C.toList.take 0++Lib.byteCells s.data.toList++C.toList.drop (0+s.size)).toArray=w3 at*;have hbx:Below w.heap.size w w3:=hbb.trans (below_of_grown hg3 (by omega) (by have:=hbb.size;omega));have hn3:RowAt w3 w.heap.size 29 #[.string s,.slice a n c]:=(hg3.block w.heap.size hn2.lt (by simp;omega)).trans hn2;have hs3:w.heap.size+2≤w3.heap.size:=by have:=hg3.size;omega
 have HB:Hid (Below w.heap.size w w3):=hbx;clear hbx hbb hb0 hb1;go_region;clear c0 c1 hn2 hcp;have c0:=hn3.cell 0;have c1:=hn3.cell 1;simp at c0 c1;have HO:Hid (openM s.size L (fun _=>false)=openM s.size (L.drop 0) (fun _=>false)):=by unfold Hid;rw [List.drop_zero]
 clear hn3;go_wp2;go_loopw [6,32] (fun _ i wr=>∃(k:Nat) (t:Nat→Bool),k≤n∧i= .int .i64 k∧Opens wr G (byteAt s) t s.size k∧Hid (openM s.size L (fun _=>false)=openM s.size (L.drop k) t)∧Below w.heap.size w wr) (fun _ i _=>n-(intOf i).toNat)
 case atStart=>exact ⟨0,_,by omega,rfl,⟨_,[],HA3.out,World.ownsRow_nil _ _ _ _⟩,HO,HB.out⟩
 case round=>
  obtain ⟨k,t,hk,rfl,hop,hst,bk⟩:=hrel;clear HO HB HA3;by_cases hlt:k<n
  ·obtain rfl:=h.addr (by omega);have hlow:=h.low (by omega);have hnd:=cl_below (h.cell k hlt) hlow bk;have hfit:=hf k hlt;have hdr:=drop_get (L:=L) (k:=k) (by rw [h.len];exact hlt);have d0:=hnd.c0;have d1:=hnd.c1;have d2:=hnd.c2;have d3:=hnd.c3;clear hnd;generalize L.getD k cl0=x at*;go_wp2_with fail;have b4:Below wr.heap.size wr (wr.alloc (.cells (clV x) 84)):=(Below.refl _ wr).alloc (Nat.le_refl _) _;have hop4:Opens (wr.alloc (.cells (clV x) 84)) G (byteAt s) t s.size k:=by
    obtain ⟨cs,xs,h1,h2⟩:=hop;exact ⟨cs,xs,h1.below b4 h1.lt,h2.alloc _⟩
   have bb4:Below w.heap.size w (wr.alloc (.cells (clV x) 84)):=bk.trans (b4.mono bk.size);have hC:=admit_any G s.size k (byteAt s) t x (wr.alloc (.cells (clV x) 84)) hop4 hs (by omega) hfit;generalize wr.alloc (.cells (clV x) 84)=w4 at*;refine hC.mono ?_;rintro e w5 ⟨rfl,hop5,b5⟩;have bb5:Below w.heap.size w w5:=bb4.trans (b5.mono (by omega));clear hC hop4 hop;cases hok:okC s.size t x with
   |false=>
    have HR:Hid (implB (byteAt s) s.size L=false):=by
     unfold Hid implB;rw [hst.out,hdr,step_iff,hok];rfl
    clear hop5 hst hok;go_wp2;go_ret2;exact ⟨none,by rw [HR.out];rfl,(fun h=>by rw [HR.out] at h;cases h),bb5⟩
   |true=>
    have HS:Hid (openM s.size L (fun _=>false)=openM s.size (L.drop (k+1)) (takes t x)):=by
     unfold Hid;rw [hst.out,hdr,step_iff,hok];rfl
    have HOp:Hid (Opens w5 G (byteAt s) (takes t x) s.size (k+1)):=hop5 hok;clear hop5 hst hok;go_wp2;go_roundw
    case rel=>exact ⟨k+1,_,by omega,by go_num,HOp.out,HS,bb5⟩
    case measure=>simp [intOf];omega
  ·obtain rfl:k=n:=by omega
   have hfin:openM s.size L (fun _=>false)=some t:=by
    rw [hst.out,List.drop_eq_nil_of_le (by rw [h.len];exact Nat.le_refl _)];rfl
   have HR:Hid (implB (byteAt s) s.size L=cleanM (byteAt s) t s.size):=by
    unfold Hid implB;rw [hfin]
   have HOp:Hid (Opens wr G (byteAt s) t s.size L.length):=by unfold Hid;rw [h.len];exact hop
   have HFin:Hid (openM s.size L (fun _=>false)=some t):=hfin;obtain ⟨cs,xs,har,_⟩:=hop;clear hst hfin;go_wp2_with fail;refine (clean_any G s.size (byteAt s) t cs wr har hs).mono ?_;rintro e w6 ⟨rfl,rfl⟩;rw [←HR.out];clear har;go_wp2;go_ret2;exact ⟨some ⟨G,0,none⟩,rfl,(fun _=>⟨G,t,rfl,HFin.out,HOp.out⟩),bk⟩
def heapB (s:ByteArray) (L:List Cl):Bool:=decide (s.size≤3000∧L.length≤40)&&implB (byteAt s) s.size L
theorem implOk_any (s:ByteArray) (a:Option Addr) (b off n c:Nat) (L:List Cl) (w:World) (h:CellsIn w a b off n L) (hs:s.size≤1048576) (hn:n≤1048576) (hf:∀i,i<n→Fit (L.getD i cl0)):
  Calls Tryz.prog 13 #[.agg #[.string s,.slice a n c]] w fun e w'=>e= .returned (.bool (heapB s L))∧Below w.heap.size w w':=by
 have hb0:Below w.heap.size w (w.alloc (.cells #[.string s,.slice a n c] 29)):=(Below.refl _ w).alloc (Nat.le_refl _) _;have h0:=zaj h hb0;have hl:=h.len;by_cases hr:s.size≤3000∧n≤40
 ·have HR:Hid (heapB s L=implB (byteAt s) s.size L):=by
   unfold Hid heapB;rw [decide_eq_true (by omega),Bool.true_and]
  have HC:Hid (Calls Tryz.prog 28 #[.agg #[.string s,.slice a n c]] (w.alloc (.cells #[.string s,.slice a n c] 29)) (OpenEnd (w.alloc (.cells #[.string s,.slice a n c] 29)) s L)):=opened_any s a b off n c L _ h0 hr.1 hr.2 hf;clear h0;go_enter Tryz.func13,Tryz.ntmps13;go_wp2_with fail;refine HC.out.mono ?_;rintro e w1 ⟨p,rfl,_,b1⟩;have bb:=hb0.trans (b1.mono (by simp));rw [←HR.out];go_wp2;go_ret;exact ⟨rfl,bb⟩
 ·have HR:Hid (heapB s L=false):=by
   unfold Hid heapB;rw [decide_eq_false (by omega),Bool.false_and]
  have HC:Hid (∀w,Calls Tryz.prog 28 #[.agg #[.string s,.slice a n c]] w fun e w'=>e= .returned (.tuple #[.pointer none,.bool false])∧Below w.heap.size w w'):=fun w=>by
   have hb:Below w.heap.size w (w.alloc (.cells #[.string s,.slice a n c] 29)):=(Below.refl _ w).alloc (Nat.le_refl _) _;by_cases h1:(3000:Int)<(s.size:Int)
   ·go_enter Tryz.func28,Tryz.ntmps28;go_wp2;go_ret2;exact ⟨rfl,hb⟩
   ·have h2:(40:Int)<(n:Int):=by omega
    go_enter Tryz.func28,Tryz.ntmps28;go_wp2;go_ret2;exact ⟨rfl,hb⟩
  clear h0;go_enter Tryz.func13,Tryz.ntmps13;go_wp2_with fail;refine (HC.out _).mono ?_;rintro e w1 ⟨rfl,b1⟩;have bb:=hb0.trans (b1.mono (by simp));go_wp2;go_ret;exact ⟨zae HR.out.symm,bb⟩
end Go.Proofs.YtjpeglkkkllagaaGreatDoor.Hp
