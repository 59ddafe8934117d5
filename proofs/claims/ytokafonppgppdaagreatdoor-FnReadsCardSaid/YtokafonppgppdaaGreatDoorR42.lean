import Derived.Test.YtokafonppgppdaaGreatDoorR38
import Derived.Shelf.SlSortCmp.WholeK
set_option maxHeartbeats 4000000
set_option maxRecDepth 100000
namespace Go.Proofs
open Go.Shelf
def Tryz.lays125_ren:Go.Shelf.Ren:=⟨fun|125=>261|128=>293|129=>268|n=>n,fun|46=>160|3=>3|51=>284|53=>158|4=>4|5=>5|9=>9|n=>n,fun|n=>n⟩
theorem Tryz.lays125:Go.Proofs.Lays.n125 Tryz.prog Tryz.lays125_ren:={
 mixed:=by kernel_rfl
 f125:=Tryz.func261.trans (congrArg some (by kernel_rfl))
 f128:=Tryz.func293.trans (congrArg some (by kernel_rfl))
 f129:=Tryz.func268.trans (congrArg some (by kernel_rfl))
 t3:=Tryz.underlying3
 a3:=Tryz.isAgg3
 z3:=Tryz.sizeOf3
 v3:=Tryz.zeroValue3
 t4:=Tryz.underlying4
 a4:=Tryz.isAgg4
 z4:=Tryz.sizeOf4
 v4:=Tryz.zeroValue4
 t5:=Tryz.underlying5
 a5:=Tryz.isAgg5
 z5:=Tryz.sizeOf5
 v5:=Tryz.zeroValue5
 t9:=Tryz.underlying9
 a9:=Tryz.isAgg9
 z9:=Tryz.sizeOf9
 v9:=Tryz.zeroValue9
 t46:=Tryz.underlying160
 a46:=Tryz.isAgg160
 z46:=Tryz.sizeOf160
 v46:=Tryz.zeroValue160
 t51:=Tryz.underlying284
 a51:=Tryz.isAgg284
 z51:=Tryz.sizeOf284
 v51:=Tryz.zeroValue284
 t53:=Tryz.underlying158
 a53:=Tryz.isAgg158
 z53:=Tryz.sizeOf158
 v53:=Tryz.zeroValue158 }
def Tryz.pdqL_ren:Go.Shelf.Ren:=⟨fun|14=>307|20=>319|21=>320|22=>321|23=>322|24=>323|25=>324|26=>325|27=>326|46=>331|47=>311|48=>312|49=>332|50=>333|15=>261|57=>334|28=>293|29=>268|n=>n,fun|24=>147|22=>43|3=>3|25=>294|4=>4|0=>0|46=>299|45=>298|50=>264|66=>317|39=>160|55=>158|70=>320|76=>332|77=>333|53=>284|5=>5|9=>9|n=>n,fun|n=>n⟩
theorem Tryz.pdqL:Go.Proofs.SlLaysF0.n14 Tryz.prog Tryz.pdqL_ren:={
 mixed:=by kernel_rfl
 f14:=⟨Tryz.f307.name,by decide,Tryz.func307.trans (congrArg some (by kernel_rfl))⟩
 f15:=Tryz.func261.trans (congrArg some (by kernel_rfl))
 f20:=⟨Tryz.f319.name,by decide,Tryz.func319.trans (congrArg some (by kernel_rfl))⟩
 f21:=⟨Tryz.f320.name,by decide,Tryz.func320.trans (congrArg some (by kernel_rfl))⟩
 f22:=⟨Tryz.f321.name,by decide,Tryz.func321.trans (congrArg some (by kernel_rfl))⟩
 f23:=⟨Tryz.f322.name,by decide,Tryz.func322.trans (congrArg some (by kernel_rfl))⟩
 f24:=⟨Tryz.f323.name,by decide,Tryz.func323.trans (congrArg some (by kernel_rfl))⟩
 f25:=⟨Tryz.f324.name,by decide,Tryz.func324.trans (congrArg some (by kernel_rfl))⟩
 f26:=⟨Tryz.f325.name,by decide,Tryz.func325.trans (congrArg some (by kernel_rfl))⟩
 f27:=⟨Tryz.f326.name,by decide,Tryz.func326.trans (congrArg some (by kernel_rfl))⟩
 f28:=Tryz.func293.trans (congrArg some (by kernel_rfl))
 f29:=Tryz.func268.trans (congrArg some (by kernel_rfl))
 f46:=⟨Tryz.f331.name,by decide,Tryz.func331.trans (congrArg some (by kernel_rfl))⟩
 f47:=Tryz.func311.trans (congrArg some (by kernel_rfl))
 f48:=Tryz.func312.trans (congrArg some (by kernel_rfl))
 f49:=⟨Tryz.f332.name,by decide,Tryz.func332.trans (congrArg some (by kernel_rfl))⟩
 f50:=⟨Tryz.f333.name,by decide,Tryz.func333.trans (congrArg some (by kernel_rfl))⟩
 f57:=⟨Tryz.f334.name,by decide,Tryz.func334.trans (congrArg some (by kernel_rfl))⟩
 t0:=Tryz.underlying0
 a0:=Tryz.isAgg0
 z0:=Tryz.sizeOf0
 v0:=Tryz.zeroValue0
 t3:=Tryz.underlying3
 a3:=Tryz.isAgg3
 z3:=Tryz.sizeOf3
 v3:=Tryz.zeroValue3
 t4:=Tryz.underlying4
 a4:=Tryz.isAgg4
 z4:=Tryz.sizeOf4
 v4:=Tryz.zeroValue4
 t5:=Tryz.underlying5
 a5:=Tryz.isAgg5
 z5:=Tryz.sizeOf5
 v5:=Tryz.zeroValue5
 t9:=Tryz.underlying9
 a9:=Tryz.isAgg9
 z9:=Tryz.sizeOf9
 v9:=Tryz.zeroValue9
 t22:=Tryz.underlying43
 a22:=Tryz.isAgg43
 z22:=Tryz.sizeOf43
 v22:=Tryz.zeroValue43
 t25:=Tryz.underlying294
 a25:=Tryz.isAgg294
 z25:=Tryz.sizeOf294
 v25:=Tryz.zeroValue294
 t39:=Tryz.underlying160
 a39:=Tryz.isAgg160
 z39:=Tryz.sizeOf160
 v39:=Tryz.zeroValue160
 t45:=Tryz.underlying298
 a45:=Tryz.isAgg298
 z45:=Tryz.sizeOf298
 v45:=Tryz.zeroValue298
 t46:=Tryz.underlying299
 a46:=Tryz.isAgg299
 z46:=Tryz.sizeOf299
 v46:=Tryz.zeroValue299
 t50:=Tryz.underlying264
 a50:=Tryz.isAgg264
 z50:=Tryz.sizeOf264
 v50:=Tryz.zeroValue264
 t53:=Tryz.underlying284
 a53:=Tryz.isAgg284
 z53:=Tryz.sizeOf284
 v53:=Tryz.zeroValue284
 t55:=Tryz.underlying158
 a55:=Tryz.isAgg158
 z55:=Tryz.sizeOf158
 v55:=Tryz.zeroValue158
 t66:=Tryz.underlying317
 a66:=Tryz.isAgg317
 z66:=Tryz.sizeOf317
 v66:=Tryz.zeroValue317
 t70:=Tryz.underlying320
 a70:=Tryz.isAgg320
 z70:=Tryz.sizeOf320
 v70:=Tryz.zeroValue320
 t76:=Tryz.underlying332
 a76:=Tryz.isAgg332
 z76:=Tryz.sizeOf332
 v76:=Tryz.zeroValue332
 t77:=Tryz.underlying333
 a77:=Tryz.isAgg333
 z77:=Tryz.sizeOf333
 v77:=Tryz.zeroValue333 }
theorem Tryz.bits_Len (x:Int) (w:World) (h0:0<=x) (h1:x<=18446744073709551615):
 Calls Tryz.prog 261 #[.int .u64 x] w fun e w'=>e= .returned (.int .i64 (Lib.bitLen x.toNat:Nat))/\w'=w:=Any.bits_Len Tryz.lays125 x w h0 h1
end Go.Proofs
namespace Go.Proofs.YtokafonppgppdaaGreatDoor.Kk
open Tryz
open Go.RowKit Go.Sort Go.Shelf Go.Lib
variable {w w':World} {x y z:Rk} {M L:List Rk} {α:Type} {B A cap:Nat}
def Grown (w w':World):Prop:=∃q os,w'=grow (w.drewN q) os
theorem Grown.refl (w:World):Grown w w:=⟨0, #[],by rw [grow_empty];rfl⟩
theorem Grown.alloc (h:Grown w w') (o:Obj):Grown w (w'.alloc o):=by
 obtain ⟨q,os,rfl⟩:=h;exact ⟨q,os.push o,by unfold grow World.alloc;simp only [Array.append_push]⟩
theorem Grown.drewN (h:Grown w w') (n:Nat):Grown w (w'.drewN n):=by
 obtain ⟨q,os,rfl⟩:=h;exact ⟨q+n,os,by rw [<-World.drewN_drewN];rfl⟩
theorem zpi (x y:Rk) (w:World):
  Calls prog 281 #[rkV x,rkV y] w fun e w'=>e= .returned (.int .i64 (zps x y))/\Grown w w':=by
 obtain ⟨xm,xs⟩:=x;obtain ⟨ym,ys⟩:=y;have HE:Hid (zps ⟨xm,xs⟩ ⟨ym,ys⟩=if znt xs ys=0 then Lib.compareBytes xm.data.toList ym.data.toList else znt xs ys):=rfl;generalize zps ⟨xm,xs⟩ ⟨ym,ys⟩=z at*;have b0:Bl w ((w.alloc (.cells #[.string xm,.int .i64 xs] 147)).alloc (.cells #[.string ym,.int .i64 ys] 147)):=((Qb _ w).alloc (Qc _) _).alloc (by simp) _;go_enter func281,ntmps281;have r0:=(zab.new w 147 #[.string xm,.int .i64 xs]).bw ((Qb _ _).alloc (Qc _) (.cells #[.string ym,.int .i64 ys] 147)) (by simp);have r1:=zab.new (w.alloc (.cells #[.string xm,.int .i64 xs] 147)) 147 #[.string ym,.int .i64 ys];simp only [World.size_alloc] at r1;have gw:Grown w ((w.alloc (.cells #[.string xm,.int .i64 xs] 147)).alloc (.cells #[.string ym,.int .i64 ys] 147)):=((Grown.refl w).alloc _).alloc _;have e0:=r0.cell 0;have e1:=r0.cell 1;have d0:=r1.cell 0;have d1:=r1.cell 1;simp only [Qm,Qk,Ql] at e0 e1 d0 d1;go_wp2_with fail;generalize (w.alloc (.cells #[.string xm,.int .i64 xs] 147)).alloc (.cells #[.string ym,.int .i64 ys] 147)=W at*;clear r0 r1;generalize hc1:znt xs ys=c1 at*;have HC1:=hid hc1;generalize hc2:Lib.compareBytes xm.data.toList ym.data.toList=c2 at*;have HC2:=hid hc2;clear hc1 hc2;have HX:Hid (∀W,Cp 309 #[.int .i64 xs,.int .i64 ys] W fun e w'=>e= .returned (.int .i64 c1)/\w'=W):=fun W=>by
  have:=zuy xs ys W;rwa [HC1.out] at this
 have HY:Hid (∀W,Cp 109 #[.string xm,.string ym] W fun e w'=>e= .returned (.int .i64 c2)/\w'=W):=fun W=>by
  have:=zkq xm ym W;rwa [HC2.out] at this
 have HO:Hid (∀g W,W.cell? ⟨g,0,none⟩=some (.int .i64 c1)->W.cell? ⟨g,1,none⟩=some (.int .i64 c2)->Cp 308 #[.slice (some ⟨g,0,none⟩) 2 2] W fun e w'=>e= .returned (.int .i64 z)/\w'=W):=fun g W h0 h1=>by
  have:=yfg c1 c2 g W h0 h1;rwa [<-HE.out] at this
 have kp:Hid (∀o,(W.drew.alloc o).cell? ⟨w.heap.size,0,none⟩=some (.string xm)/\(W.drew.alloc o).cell? ⟨w.heap.size,1,none⟩=some (.int .i64 xs)/\(W.drew.alloc o).cell? ⟨w.heap.size+1,0,none⟩=some (.string ym)/\(W.drew.alloc o).cell? ⟨w.heap.size+1,1,none⟩=some (.int .i64 ys)):=fun o=>⟨kept e0,kept e1,kept d0,kept d1⟩;go_region_held3 (fun W'=>W'.cell? ⟨w.heap.size,0,none⟩=some (.string xm)/\W'.cell? ⟨w.heap.size,1,none⟩=some (.int .i64 xs)/\W'.cell? ⟨w.heap.size+1,0,none⟩=some (.string ym)/\W'.cell? ⟨w.heap.size+1,1,none⟩=some (.int .i64 ys))
  (first
   |exact ⟨e0,e1,d0,d1⟩
   |exact kp.out _)
  (first
   |(go_at_call 309;refine (HX.out _).mono ?_;rintro e w' ⟨rfl,rfl⟩)
   |(go_at_call 109;refine (HY.out _).mono ?_;rintro e w' ⟨rfl,rfl⟩)
   |(go_at_call 308;refine (HO.out _ _ ((zab.new _ _ _).cell 0) ((zab.new _ _ _).cell 1)).mono ?_;rintro e w' ⟨rfl,rfl⟩))
 all_goals
  go_wp2;go_ret;exact ⟨rfl,(gw.drewN 1).alloc _⟩
theorem zll:∀a:List UInt8,Op.bytesLess a a=false
 | []=>rfl
 |a::x=>by unfold Op.bytesLess;rw [zll x];simp
theorem zr2 (a b:List UInt8):Op.bytesLess a b=decide (a<b):=bytesLess_eq a b
theorem ze0 (x y:Rk):ltOf zps x y=zbv x y:=zqn x y
theorem yhz:SWO (ltOf zps) where
 irrefl x:=by rw [ze0];unfold zbv;rw [zll];simp
 trans x y z h1 h2:=by
  rw [ze0] at*;unfold zbv at*;simp only [Bool.or_eq_true,Qh,decide_eq_true_eq,zr2] at*;rcases h1 with h1|⟨h1,h1'⟩<;>rcases h2 with h2|⟨h2,h2'⟩
  ·exact .inl (by omega)
  ·exact .inl (by omega)
  ·exact .inl (by omega)
  ·exact .inr ⟨by omega,List.lt_trans h1' h2'⟩
 ntrans x y z h1 h2:=by
  rw [ze0] at*;unfold zbv at*;simp only [Bool.or_eq_false_iff,Bool.and_eq_false_imp,decide_eq_false_iff_not,decide_eq_true_eq,zr2] at*;refine ⟨by omega,fun e=>?_⟩;have e1:x.s=y.s:=by omega
  have e2:y.s=z.s:=by omega
  exact fun h=>absurd h (by
   have a1:=List.not_lt.1 (h1.2 e1);have a2:=List.not_lt.1 (h2.2 e2);exact List.not_lt.2 (List.le_trans a2 a1))
theorem zmt:∀args w,(callFunc 281 args).run prog w= .ok (.enter 281 args) w:=enters_of func281 (by kernel_rfl) rfl
theorem yc5 [Inhabited Rk] (blk off cap:Nat) (d:Array Rk) (w:World) (hH:HoldsK encR 2 w blk off d) (hblk:blk<w.heap.size) (hsz:d.size<4611686018427387904):
  Calls prog 280 #[.slice (some ⟨blk,off,none⟩) d.size cap,.func (.func 281) #[] #[]] w fun e w'=>e= .returned (.tuple #[])/\∃d' n os,PermIn 0 d.size d d'/\SortedIn (ltOf zps) 0 d.size d'/\w'=sortWorldK encR 2 w blk off n d' os:=by
 have hcmp:CmpLays prog 281 #[] encR 2 zps blk off d.size w:=fun m os dk _ x y=>zpi x y _;have hlim:Lib.bitLen d.size<4611686018427387904:=Nat.lt_of_le_of_lt (Lib.bitLen_le d.size 62 (by omega) (by omega)) (by omega);have hp:=AnyQ.pdqsortCmpFunc_all Tryz.pdqL 2 Tryz.isAgg147 Tryz.sizeOf147 encR zps 281 #[] yhz blk off cap d w zmt hcmp ⟨fun _=>rfl,fun x v hv=>by simp [encR] at hv;rcases hv with rfl|rfl<;>rfl,hH,hblk⟩ (d.size+1) 0 d.size (Lib.bitLen d.size) d w (by omega) rfl (SWK.start hH) (Qs _) (Qc _) hsz hlim (Or.inl rfl);change Calls prog 307 _ _ _ at hp;have hl:Calls prog 261 #[.int .u64 (d.size:Int)] w fun e w'=>e= .returned (.int .i64 (Lib.bitLen d.size:Nat))/\w'=w:=by
  have h:=Tryz.bits_Len (d.size:Int) w (by omega) (by omega);rwa [Int.toNat_natCast] at h
 have wr:IntKind.u64.wrap (d.size:Int)=d.size:=by simp [IntKind.wrap,IntKind.bits,IntKind.signed];omega
 have hq:=pdq_sorts (ltOf zps) yhz d 0 d.size (Lib.bitLen d.size) true true (Qs _) (Qc _) (Or.inl rfl);have HQ:Hid _:=hq;clear hH hcmp hq;go_enter func280,ntmps280;go_wp2_with (first|(go_at_call 261;refine hl.mono ?_;rintro e w' ⟨rfl,rfl⟩)|(go_at_call 307;refine hp.mono ?_;rintro e w' ⟨rfl,n,os,rfl⟩));go_end0;exact ⟨rfl,_,n,os,HQ.out.1,HQ.out.2,rfl⟩
def zf2 (L:List Rk) (m:ByteArray) (s:Int):Bool:=zec L&&zec (zf4 (without L m) ⟨m,s⟩)
def zl8 (w:World) (I:List Rk) (ok:Bool) (e:Ending) (w':World):Prop:=
 (∃v,e= .returned (.tuple #[v,.bool ok])/\za9 w' w.heap.size v (if ok=true then I else []))/\Bl w w'
def leR (x y:Rk):Prop:=zbv y x=false
theorem zhz (h:zbv x y=true):leR x y:=by
 unfold leR;cases h2:zbv y x with
 |false=>rfl
 |true=>
  have h3:=yhz.trans x y x (by rw [ze0];exact h) (by rw [ze0];exact h2);rw [yhz.irrefl x] at h3;exact absurd h3 (by simp)
theorem zsq (h1:zbv x y=true) (h2:zbv y z=true):zbv x z=true:=by
 have:=yhz.trans x y z (by rw [ze0];exact h1) (by rw [ze0];exact h2);rwa [ze0] at this
theorem zzq (h1:leR x y) (h2:leR y z):leR x z:=by
 have:=yhz.ntrans z y x (by rw [ze0];exact h2) (by rw [ze0];exact h1);rwa [ze0] at this
theorem zj1 (h1:leR x y) (h2:leR y x):x=y:=by
 unfold leR zbv at*;simp only [Bool.or_eq_false_iff,Bool.and_eq_false_imp,decide_eq_false_iff_not,decide_eq_true_eq,zr2] at*;have hs:x.s=y.s:=by omega
 have hm:x.m.toList=y.m.toList:=List.le_antisymm (List.not_lt.1 (h1.2 hs.symm)) (List.not_lt.1 (h2.2 hs));rw [ByteArray.toList_eq,ByteArray.toList_eq] at hm;obtain ⟨xm,xs⟩:=x;obtain ⟨ym,ys⟩:=y;simp only at hs hm;subst hs;have:xm=ym:=by
  apply ByteArray.ext;exact Array.toList_inj.mp hm
 rw [this]
theorem zvm (M:List Rk) (x:Rk):(zf4 M x).Perm (x::M):=by
 induction M with
 |nil=>rw [zs2]
 |cons z l ih=>
  rw [zof];split
  ·exact (ih.cons z).trans (List.Perm.swap x z l)
  ·exact List.Perm.refl _
theorem zm5 (x:Rk) (h:M.Pairwise leR):(zf4 M x).Pairwise leR:=by
 induction M with
 |nil=>rw [zs2];simp
 |cons z l ih=>
  rw [zof];have hz:=List.pairwise_cons.1 h;split
  ·next ha=>
   refine List.pairwise_cons.2 ⟨fun y hy=>?_,ih hz.2⟩;rcases zzf hy with rfl|hy
   ·exact zhz ha
   ·exact hz.1 y hy
  ·next ha=>
   have hxz:leR x z:=by unfold leR;simpa using ha
   refine List.pairwise_cons.2 ⟨fun y hy=>?_,h⟩;rcases List.mem_cons.1 hy with rfl|hy
   ·exact hxz
   ·exact zzq hxz (hz.1 y hy)
theorem zre (h:(List.range L.length).all (zhc L)=true) (i j:Nat) (hij:i<j) (hj:j<L.length):zbv (L.getD i rk0) (L.getD j rk0)=true:=by
 have h1:∀k,0<k->k<L.length->zbv (L.getD (k-1) rk0) (L.getD k rk0)=true:=fun k h0 hk=>by
  have:=Qw.1 h k (List.mem_range.2 hk);unfold zhc at this;rw [Qf (by omega),Bool.false_or] at this;exact this
 induction j with
 |zero=>omega
 |succ j ih=>
  have e:=h1 (j+1) (by omega) hj;rw [Nat.add_sub_cancel] at e;by_cases hi:i=j
  ·subst hi;exact e
  ·exact zsq (ih (by omega) (by omega)) e
theorem zv0 (h:zec L=true):(List.range L.length).all (zhc L)=true:=by
 unfold zec at h;rw [Qh] at h;have h2:=Qw.1 h.2;exact Qw.2 fun k hk=>by
  have:=h2 k hk;unfold zsj at this;simp only [Qh] at this;exact this.2.2.1
theorem zqc (h:zec L=true):L.Pairwise leR:=by
 rw [List.pairwise_iff_getElem];intro i j hi hj hij;have:=zre (zv0 h) i j hij hj;rw [Qa,Qd hi,Qa,Qd hj] at this;exact zhz this
theorem zf7 {m:ByteArray} (h:L.Pairwise leR):(without L m).Pairwise leR:=h.sublist List.filter_sublist
theorem ybd [Inhabited Rk] {d d':Array Rk} (hd:d.toList=x::M) (hM:M.Pairwise leR) (hp:PermIn 0 d.size d d') (hs:SortedIn (ltOf zps) 0 d.size d'):d'.toList=zf4 M x:=by
 have e1:(d'.extract 0 d.size).toList=d'.toList:=by rw [<-hp.1,Array.extract_size]
 have e2:(d.extract 0 d.size).toList=d.toList:=by rw [Array.extract_size]
 have hperm:d'.toList.Perm (zf4 M x):=by
  have:=hp.2.2;rw [e1,e2,hd] at this;exact this.trans (zvm M x).symm
 refine List.Perm.eq_of_pairwise (le:=leR) (fun a b _ _ h1 h2=>zj1 h1 h2) ?_ (zm5 x hM) hperm;rw [List.pairwise_iff_getElem];intro i j hi hj hij;have hi':i<d'.size:=by simpa using hi
 have hj':j<d'.size:=by simpa using hj
 have:=hs i j (Qs _) hij (by rw [<-hp.1];exact hj');rw [ze0,getElem!_pos d' i hi',getElem!_pos d' j hj'] at this;simpa [leR] using this
theorem zq0 [Inhabited α] (enc:α->Value) (w:World) (blk off:Nat) (d:Array α) {c:Array Value} {e:TypeId} {fr:Nat×Nat} (h:w.heap[blk]?=some (.cells c e fr)):(putRow enc w blk off d).heap[blk]?=some (.cells (Go.Sort.putCells enc off d c) e fr):=by
 unfold putRow mapBlock;rw [Array.getElem?_modify,if_pos rfl,h];rfl
theorem zpc [Inhabited α] (enc:α->Value) (w:World) (blk off j:Nat) (d:Array α) (h:j≠blk):(putRow enc w blk off d).heap[j]?=w.heap[j]?:=by
 unfold putRow mapBlock;rw [Array.getElem?_modify,if_neg (fun e=>h e.symm)]
theorem zg4 [Inhabited α] (enc:α->Value) (w:World) (blk off:Nat) (d:Array α):(putRow enc w blk off d).heap.size=w.heap.size:=by
 unfold putRow mapBlock;exact Array.size_modify
theorem flat_get [Inhabited Rk] (L:List Rk) (t:Nat) (h:t<L.length*2):(zbk L)[t]?=some ((_root_.Go.Sort.flatK encR 2 L.toArray)[t]!):=by
 rw [get_flatK encR 2 L.toArray t (by simpa using h)];have hi:t/2<L.length:=by omega
 obtain ⟨h0,h1⟩:=zug L (t/2) hi;have he:L.toArray[t/2]! =L.getD (t/2) rk0:=by
  rw [getElem!_pos L.toArray (t/2) (by simpa using hi),Qa,Qd hi];simp
 rw [he];rcases Nat.mod_two_eq_zero_or_one t with hm|hm
 ·rw [hm];rw [show t/2*2=t by omega] at h0;rw [h0];rfl
 ·rw [hm];rw [show t/2*2+1=t by omega] at h1;rw [h1];rfl
theorem ybx [Inhabited Rk] (h:za9 w B (.slice (some ⟨A,0,none⟩) L.length cap) L):HoldsK encR 2 w A 0 L.toArray:=by
 intro j hj;have hj':j<L.length*2:=by simpa using hj
 have hc:=h.cells rfl j _ (flat_get L j hj');rw [Addr.add_lit,Qq] at hc;refine ⟨by rw [Qq];exact hc,?_⟩;obtain ⟨_,h2|⟨A',cap',cur,he,hB,hg,_⟩⟩:=h
 ·cases h2.1
 ·simp at he;obtain ⟨rfl,rfl⟩:=he;exact Lib.frozen_of_heap hg _
theorem ztg [Inhabited Rk] {m:Nat} {D:Array Rk} {os:Array Obj} (h:za9 w B (.slice (some ⟨A,0,none⟩) L.length cap) L) (hd:D.size=L.length) (hBw:B<=w.heap.size):
  za9 (sortWorldK encR 2 w A 0 m D os) B (.slice (some ⟨A,0,none⟩) D.toList.length cap) D.toList/\Below B w (sortWorldK encR 2 w A 0 m D os):=by
 have hlt:=h.lt A rfl;have hDl:D.toList.length=L.length:=by simpa using hd
 obtain ⟨h1,h2|⟨A',cap',cur,he,hB,hg,hc1,hc2,hsz,htk⟩⟩:=h
 ·cases h2.1
 ·simp at he;obtain ⟨rfl,rfl⟩:=he;have hrow:(sortWorldK encR 2 w A 0 m D os).heap[A]?=some (.cells (Go.Sort.putCells id 0 (_root_.Go.Sort.flatK encR 2 D) cur) 147 (0,0)):=by
   unfold sortWorldK grow;show ((putRowK encR 2 (Go.Sort.ahead w m) A 0 D).heap++os)[A]?=_;unfold putRowK;rw [Array.getElem?_append_left (by rw [zg4];exact hlt.2)];exact zq0 id (Go.Sort.ahead w m) A 0 (_root_.Go.Sort.flatK encR 2 D) hg
  refine ⟨⟨by rw [zi3],.inr ⟨A,cap,Go.Sort.putCells id 0 (_root_.Go.Sort.flatK encR 2 D) cur,by rw [hDl],hB,hrow,by omega,hc2,by simp [Go.Sort.putCells,hsz],?_⟩⟩,⟨rfl,rfl,rfl,?_,fun j hj=>?_⟩⟩
  ·apply List.ext_getElem?;intro i;by_cases hi:i<D.toList.length*2
   ·rw [List.getElem?_take,if_pos hi,Array.getElem?_toList,flat_get D.toList i hi];unfold Go.Sort.putCells;have hic:i<cur.size:=by omega
    rw [Array.getElem?_mapIdx,Array.getElem?_eq_getElem hic,Option.map_some,if_pos (by simp;omega),Nat.sub_zero];simp
   ·rw [List.getElem?_take,if_neg hi,List.getElem?_eq_none (by rw [zi3];omega)]
  ·unfold sortWorldK grow putRowK;show w.heap.size<=((putRow id (Go.Sort.ahead w m) A 0 (_root_.Go.Sort.flatK encR 2 D)).heap++os).size;rw [Array.size_append,zg4];exact Nat.le_add_right _ _
  ·unfold sortWorldK grow putRowK;show ((putRow id (Go.Sort.ahead w m) A 0 (_root_.Go.Sort.flatK encR 2 D)).heap++os)[j]?=_;rw [Array.getElem?_append_left (by rw [zg4];show j<w.heap.size;omega),zpc id _ A 0 j _ (by omega)];rfl
theorem zup (A cap B:Nat) (x:Rk) (M:List Rk) (w:World) (h:za9 w B (.slice (some ⟨A,0,none⟩) (x::M).length cap) (x::M)) (hB:B<=w.heap.size) (hl:M.length<=1048577):
  Calls prog 280 #[.slice (some ⟨A,0,none⟩) (x::M).length cap,.func (.func 281) #[] #[]] w fun e w'=>e= .returned (.tuple #[])/\∃D:List Rk,D.Perm (x::M)/\(M.Pairwise leR->D=zf4 M x)/\za9 w' B (.slice (some ⟨A,0,none⟩) D.length cap) D/\Below B w w':=by
 haveI:Inhabited Rk:=⟨rk0⟩;have hs:=yc5 A 0 cap (x::M).toArray w (ybx h) (h.lt A rfl).2 (by simp;omega);rw [show (x::M).toArray.size=(x::M).length from rfl] at hs;refine hs.mono fun e w' ⟨he,d',n,os,hp,hso,hw⟩=>⟨he,d'.toList,?_,fun hM=>ybd (d:=(x::M).toArray) rfl hM hp hso,?_⟩
 ·have e1:(d'.extract 0 (x::M).length).toList=d'.toList:=by rw [show (x::M).length=d'.size from hp.1.symm,Array.extract_size]
  have e2:((x::M).toArray.extract 0 (x::M).length).toList=x::M:=by rw [show (x::M).length=(x::M).toArray.size from rfl,Array.extract_size]
  have:=hp.2.2;rw [e1,e2] at this;exact this
 ·rw [hw];exact ztg h hp.1 hB
theorem zum (w:World) (B:Nat) (m:ByteArray) (s:Int) (hB:B<=w.heap.size):za9 (w.alloc (.cells #[.string m,.int .i64 s] 147)) B (.slice (some ⟨w.heap.size,0,none⟩) 1 1) [⟨m,s⟩]:=
 ⟨rfl,.inr ⟨w.heap.size,1, #[.string m,.int .i64 s],rfl,hB,zab.new w 147 _,by simp,by unfold maxLen;omega,by simp,rfl⟩⟩
theorem zpx (h:1<=L.length):zeb L=zec L:=by unfold zeb;rw [Qe h,Qz]
theorem zvr {cc n:Nat} {D:List Rk} (h:za9 w B (.slice (some ⟨A,0,none⟩) D.length cc) D) (e:D.length=n):za9 w B (.slice (some ⟨A,0,none⟩) n cc) (if true=true then D else []):=by subst e;exact h
theorem zmh {I:List Rk} (hb:Bl w w'):zl8 w I false (.returned (.tuple #[.slice none 0 0,.bool false])) w':=
 ⟨⟨_,rfl,zfz _ _⟩,hb⟩
section
variable (a:Option Addr) (b off n c:Nat) (L:List Rk) (m:ByteArray) (s:Int) (w:World)
theorem zrz (h:zdh w a b off n L) (hn:n<=1048576) (hf:zi5 L) (hfs:zjw s) (ht:Tab w) (hw10:22<=w.heap.size) (hok:zec L=true)
  (hstart:n=0\/n≠0/\zeb L=true):
  Calls prog 255 #[.slice a n c,.string m,.int .i64 s] w (zl8 w (zf4 (without L m) ⟨m,s⟩) (zf2 L m s)):=by
 obtain ⟨i0,hi,hz0,hz1,hz2⟩:=info_parts zk2;have HS:=hid (zqc hok);have HRB:Hid (zf2 L m s=zec (zf4 (without L m) ⟨m,s⟩)):=by unfold Hid zf2;rw [hok,Qz]
 have HRI:Hid (zeb (zf4 (without L m) ⟨m,s⟩)=zec (zf4 (without L m) ⟨m,s⟩)):=zpx (by rw [zlw];omega);have cR:=zg3 a b off n c L w h (by omega) hf ht hw10;have H:=hid h;have HL:=hid h.len;have HF:=hid hf;have HT:=hid ht;have HFS:=hid hfs;clear h hf ht hok hfs;generalize hI:zf4 (without L m) ⟨m,s⟩=I at*;have HI:=hid hI;clear hI;generalize hrb:zf2 L m s=rb at*;clear hrb;go_enter func255,ntmps255;rcases hstart with h0|⟨h0,hr⟩
 ·have hd0:decide ((0:Int)<(n:Int))=false:=by simp;omega
  have hd1:decide (0<n)=false:=by simp;omega
  clear cR h0;have b0:Bl w w:=Qb _ _;have z0:w.heap.size<=w.heap.size:=Qc _;have O0:=zum w w.heap.size m s z0;have B0:Bl w (w.alloc (.cells #[.string m,.int .i64 s] 147)):=b0.alloc z0 _;go_wp2;go_loopw [8,25] (fun v i wr=>∃(k A cc:Nat),k<=n/\i= .int .i64 k/\v= .slice (some ⟨A,0,none⟩) ((⟨m,s⟩:Rk)::without (L.take k) m).length cc/\za9 wr w.heap.size (.slice (some ⟨A,0,none⟩) ((⟨m,s⟩:Rk)::without (L.take k) m).length cc) (⟨m,s⟩::without (L.take k) m)/\Bl w wr) (fun _ i _=>n-(intOf i).toNat)
  case atStart=>exact ⟨0,_,_,by omega,rfl,rfl,O0,B0⟩
  case round=>
   obtain ⟨k,A,cc,hk,rfl,rfl,hown,bk⟩:=hrel;clear O0 B0;have sk:=bk.size;by_cases hlt:k<n
   ·have HW:=H.out.bw bk;have hy:=HW.cell k hlt;obtain rfl:=HW.addr (by omega);have d0:=hy.c0;have d1:=hy.c1;have HN:=hid (zgx L m k (by rw [HL.out];exact hlt));have hwl:(without (L.take k) m).length<=k:=Qj (zb3 _ _) (by rw [Qn];omega);generalize L.getD k rk0=y at*;obtain ⟨ym,ys⟩:=y;dsimp only at d0 d1;clear HW hy;have b1:Bl w (wr.alloc (.cells #[.string ym,.int .i64 ys] 147)):=bk.alloc sk _;have b01:Bl wr (wr.alloc (.cells #[.string ym,.int .i64 ys] 147)):=(Qb _ wr).alloc (Qc _) _;have o1:=za9.bw hown b01;by_cases he:ym=m
    ·have HN2:Hid (without (L.take (k+1)) m=without (L.take k) m):=by unfold Hid;rw [HN.out,if_pos he,List.append_nil]
     have HW2:Hid _:=o1;subst he;clear HN hown o1;go_wp2;go_roundw
     case rel=>exact ⟨k+1,A,cc,by omega,by go_num,by rw [HN2.out],by rw [HN2.out];exact HW2.out,b1⟩
     case measure=>simp [intOf];omega
    ·have HN2:Hid (without (L.take (k+1)) m=without (L.take k) m++ [⟨ym,ys⟩]):=by unfold Hid;rw [HN.out,if_neg he]
     have hd:=zbz he;have r0:=zab.new wr 147 #[.string ym,.int .i64 ys];have e0:=r0.cell 0;have e1:=r0.cell 1;simp only [Qm,Qk,Ql] at e0 e1;generalize without (L.take k) m=M at*;clear HN he hown;have z1:w.heap.size<=(wr.alloc (.cells #[.string ym,.int .i64 ys] 147)).heap.size:=by simp;omega
     go_wp2_with (at_builtin;refine wpList_append_own _ rfl _ _ 234 rfl w.heap.size 147 i0 _ 2 24 underlying234 hi hz0 hz1 hz2 rfl (by decide) _ _ _ rfl (o1.alloc _) ⟨wr.heap.size+1,0,none⟩ 1 1 [.string ym,.int .i64 ys] rfl rfl ?c1 ?c2 ?c3 ?c4 ?c5 ?_)
     case c1=>
      intro j u hj;rw [Addr.add_lit,Qq];have:=(zab.new (wr.alloc (.cells #[.string ym,.int .i64 ys] 147)) 147 #[.string ym,.int .i64 ys]).cell j;simp only [World.size_alloc] at this;exact this.trans (by simpa using hj)
     case c2=>exact fun u hu=>by simp at hu;rcases hu with rfl|rfl<;>rfl
     case c3=>unfold maxLen;simp;omega
     case c4=>simp;omega
     case c5=>simp;omega
     intro v' w5 hown' hgrow _;have b5:=below_grown (b1.alloc z1 _) hgrow (fun x hx=> (o1.lt x hx).1) (by simp;omega);have H5:Hid (za9 w5 w.heap.size v' ((⟨m,s⟩::M)++ [⟨ym,ys⟩])):=by
      unfold Hid za9;rw [zfi,Qi];exact hown'
     obtain ⟨A5,c5,hv⟩:∃A cap,v'= .slice (some ⟨A,0,none⟩) ((⟨m,s⟩::M)++ [(⟨ym,ys⟩:Rk)]).length cap:=Go.Joins.ownsRow_form H5.out (by simp);subst hv;clear hown' hgrow o1 r0 e0 e1;go_wp2;go_roundw
     case rel=>exact ⟨k+1,A5,c5,by omega,by go_num,by rw [HN2.out];rfl,by rw [HN2.out];exact H5.out,b5⟩
     case measure=>simp [intOf];omega
   ·obtain rfl:k=n:=by omega
    have HTK:Hid (L.take k=L):=by unfold Hid;rw [<-HL.out];exact List.take_length
    rw [HTK.out] at hown;have hwl:(without L m).length<=k:=by rw [<-HL.out];exact zb3 _ _
    have cS:=zup A cc w.heap.size ⟨m,s⟩ (without L m) wr hown sk (by omega);have HSW:Hid ((without L m).Pairwise leR):=zf7 HS.out;have HFI:Hid (zi5 I):=by unfold Hid;rw [<-HI.out];exact zs6 (zhv HF.out) HFS.out
    have HIL:Hid (I.length=(without L m).length+1):=by unfold Hid;rw [<-HI.out];exact zlw _ _
    have TB:=HT.out.bw bk hw10;rw [HTK.out];clear hown;go_wp2_with fail;refine cS.mono ?_;rintro e w1 ⟨rfl,D,_,hD,oD,b1⟩;have hDI:=(hD HSW.out).trans HI.out;subst hDI;have z1:=b1.size;have bb:=bk.trans b1;have T1:=TB.bw b1 hw10;have cR2:=zg3 (some ⟨A,0,none⟩) A 0 D.length cc D w1 (zpf oD) (by rw [HIL.out];omega) HFI.out T1 (by omega);rw [HRI.out,<-HRB.out,HIL.out] at cR2;have HOD:Hid _:=oD;clear cS hD oD T1;go_wp2_with fail;refine cR2.mono ?_;rintro e w2 ⟨rfl,b2⟩;have b3:=bb.trans (b2.mono (by omega));have HO2:Hid _:=za9.bw HOD.out b2;clear cR2 HOD;cases rb with
    |false=>
     go_wp2;go_ret2;exact zmh b3
    |true=>
     go_wp2;go_ret2;exact ⟨⟨_,rfl,zvr HO2.out HIL.out⟩,b3⟩
 ·rw [hr] at cR;have hd0:decide ((0:Int)<(n:Int))=true:=by simp;omega
  go_wp2_with fail;refine cR.mono ?_;rintro e W0 ⟨rfl,b0⟩;have z0:=b0.size;clear cR hr;have O0:=zum W0 w.heap.size m s z0;have B0:Bl w (W0.alloc (.cells #[.string m,.int .i64 s] 147)):=b0.alloc z0 _;go_wp2;go_loopw [8,25] (fun v i wr=>∃(k A cc:Nat),k<=n/\i= .int .i64 k/\v= .slice (some ⟨A,0,none⟩) ((⟨m,s⟩:Rk)::without (L.take k) m).length cc/\za9 wr w.heap.size (.slice (some ⟨A,0,none⟩) ((⟨m,s⟩:Rk)::without (L.take k) m).length cc) (⟨m,s⟩::without (L.take k) m)/\Bl w wr) (fun _ i _=>n-(intOf i).toNat)
  case atStart=>exact ⟨0,_,_,by omega,rfl,rfl,O0,B0⟩
  case round=>
   obtain ⟨k,A,cc,hk,rfl,rfl,hown,bk⟩:=hrel;clear O0 B0;have sk:=bk.size;by_cases hlt:k<n
   ·have HW:=H.out.bw bk;have hy:=HW.cell k hlt;obtain rfl:=HW.addr (by omega);have d0:=hy.c0;have d1:=hy.c1;have HN:=hid (zgx L m k (by rw [HL.out];exact hlt));have hwl:(without (L.take k) m).length<=k:=Qj (zb3 _ _) (by rw [Qn];omega);generalize L.getD k rk0=y at*;obtain ⟨ym,ys⟩:=y;dsimp only at d0 d1;clear HW hy;have b1:Bl w (wr.alloc (.cells #[.string ym,.int .i64 ys] 147)):=bk.alloc sk _;have b01:Bl wr (wr.alloc (.cells #[.string ym,.int .i64 ys] 147)):=(Qb _ wr).alloc (Qc _) _;have o1:=za9.bw hown b01;by_cases he:ym=m
    ·have HN2:Hid (without (L.take (k+1)) m=without (L.take k) m):=by unfold Hid;rw [HN.out,if_pos he,List.append_nil]
     have HW2:Hid _:=o1;subst he;clear HN hown o1;go_wp2;go_roundw
     case rel=>exact ⟨k+1,A,cc,by omega,by go_num,by rw [HN2.out],by rw [HN2.out];exact HW2.out,b1⟩
     case measure=>simp [intOf];omega
    ·have HN2:Hid (without (L.take (k+1)) m=without (L.take k) m++ [⟨ym,ys⟩]):=by unfold Hid;rw [HN.out,if_neg he]
     have hd:=zbz he;have r0:=zab.new wr 147 #[.string ym,.int .i64 ys];have e0:=r0.cell 0;have e1:=r0.cell 1;simp only [Qm,Qk,Ql] at e0 e1;generalize without (L.take k) m=M at*;clear HN he hown;have z1:w.heap.size<=(wr.alloc (.cells #[.string ym,.int .i64 ys] 147)).heap.size:=by simp;omega
     go_wp2_with (at_builtin;refine wpList_append_own _ rfl _ _ 234 rfl w.heap.size 147 i0 _ 2 24 underlying234 hi hz0 hz1 hz2 rfl (by decide) _ _ _ rfl (o1.alloc _) ⟨wr.heap.size+1,0,none⟩ 1 1 [.string ym,.int .i64 ys] rfl rfl ?c1 ?c2 ?c3 ?c4 ?c5 ?_)
     case c1=>
      intro j u hj;rw [Addr.add_lit,Qq];have:=(zab.new (wr.alloc (.cells #[.string ym,.int .i64 ys] 147)) 147 #[.string ym,.int .i64 ys]).cell j;simp only [World.size_alloc] at this;exact this.trans (by simpa using hj)
     case c2=>exact fun u hu=>by simp at hu;rcases hu with rfl|rfl<;>rfl
     case c3=>unfold maxLen;simp;omega
     case c4=>simp;omega
     case c5=>simp;omega
     intro v' w5 hown' hgrow _;have b5:=below_grown (b1.alloc z1 _) hgrow (fun x hx=> (o1.lt x hx).1) (by simp;omega);have H5:Hid (za9 w5 w.heap.size v' ((⟨m,s⟩::M)++ [⟨ym,ys⟩])):=by
      unfold Hid za9;rw [zfi,Qi];exact hown'
     obtain ⟨A5,c5,hv⟩:∃A cap,v'= .slice (some ⟨A,0,none⟩) ((⟨m,s⟩::M)++ [(⟨ym,ys⟩:Rk)]).length cap:=Go.Joins.ownsRow_form H5.out (by simp);subst hv;clear hown' hgrow o1 r0 e0 e1;go_wp2;go_roundw
     case rel=>exact ⟨k+1,A5,c5,by omega,by go_num,by rw [HN2.out];rfl,by rw [HN2.out];exact H5.out,b5⟩
     case measure=>simp [intOf];omega
   ·obtain rfl:k=n:=by omega
    have HTK:Hid (L.take k=L):=by unfold Hid;rw [<-HL.out];exact List.take_length
    rw [HTK.out] at hown;have hwl:(without L m).length<=k:=by rw [<-HL.out];exact zb3 _ _
    have cS:=zup A cc w.heap.size ⟨m,s⟩ (without L m) wr hown sk (by omega);have HSW:Hid ((without L m).Pairwise leR):=zf7 HS.out;have HFI:Hid (zi5 I):=by unfold Hid;rw [<-HI.out];exact zs6 (zhv HF.out) HFS.out
    have HIL:Hid (I.length=(without L m).length+1):=by unfold Hid;rw [<-HI.out];exact zlw _ _
    have TB:=HT.out.bw bk hw10;rw [HTK.out];clear hown;go_wp2_with fail;refine cS.mono ?_;rintro e w1 ⟨rfl,D,_,hD,oD,b1⟩;have hDI:=(hD HSW.out).trans HI.out;subst hDI;have z1:=b1.size;have bb:=bk.trans b1;have T1:=TB.bw b1 hw10;have cR2:=zg3 (some ⟨A,0,none⟩) A 0 D.length cc D w1 (zpf oD) (by rw [HIL.out];omega) HFI.out T1 (by omega);rw [HRI.out,<-HRB.out,HIL.out] at cR2;have HOD:Hid _:=oD;clear cS hD oD T1;go_wp2_with fail;refine cR2.mono ?_;rintro e w2 ⟨rfl,b2⟩;have b3:=bb.trans (b2.mono (by omega));have HO2:Hid _:=za9.bw HOD.out b2;clear cR2 HOD;cases rb with
    |false=>
     go_wp2;go_ret2;exact zmh b3
    |true=>
     go_wp2;go_ret2;exact ⟨⟨_,rfl,zvr HO2.out HIL.out⟩,b3⟩
theorem zxu (h:zdh w a b off n L) (hn:n<=1048576) (hf:zi5 L) (hfs:zjw s) (ht:Tab w) (hw10:22<=w.heap.size):
  Calls prog 255 #[.slice a n c,.string m,.int .i64 s] w (zl8 w (zf4 (without L m) ⟨m,s⟩) (zf2 L m s)):=by
 by_cases h0:n=0
 ·have hL:L=[]:=List.length_eq_zero_iff.mp (by rw [h.len];exact h0);exact zrz a b off n c L m s w h hn hf hfs ht hw10 (by rw [hL];rfl) (.inl h0)
 ·have hr:=zpx (L:=L) (by rw [h.len];omega);cases hb:zec L with
  |true=>exact zrz a b off n c L m s w h hn hf hfs ht hw10 hb (.inr ⟨h0,hr.trans hb⟩)
  |false=>
   have HE:Hid (zf2 L m s=false):=by unfold Hid zf2;rw [hb,Q0]
   have cR:=zg3 a b off n c L w h (by omega) hf ht hw10;rw [hr,hb] at cR;have hd0:decide ((0:Int)<(n:Int))=true:=by simp;omega
   have hd1:decide (0<n)=true:=by simp;omega
   generalize zf4 (without L m) ⟨m,s⟩=I;generalize hrb:zf2 L m s=rb at*;obtain rfl:rb=false:=HE.out;clear hr hb hrb HE h hf hfs ht h0;go_enter func255,ntmps255;go_wp2_with fail;refine cR.mono ?_;rintro e w1 ⟨rfl,b1⟩;go_wp2;go_ret2;exact zmh b1
end
end Go.Proofs.YtokafonppgppdaaGreatDoor.Kk
namespace Go.Proofs.YtokafonppgppdaaGreatDoor.Rb
open Tryz
open _root_.ByteArray (empty)
open Go.RowKit Go.Maps
open Ri (za3 RK UpK zao zbb zlj zi6 zhd kvA z7 zb0 zdv zcp zez)
variable {X M:List Kk.Rk} {L:List KV} {T:List ByteArray} {k B:Nat} {w:World}
structure OkR (L:List Kk.Rk):Prop where
 sm:∀x∈L,x.m.size<=200/\-1000000000000000000<=x.s/\x.s<=1000000000000000000
 up:L.Pairwise (fun x y=>Kk.zbv x y=true)
 ne:L.Pairwise (fun x y=>x.m≠y.m)
theorem getD_at {L:List Kk.Rk} {i:Nat} (h:i<L.length):L.getD i Kk.rk0=L[i]:=by
 rw [Qa,Qd h];rfl
theorem yft (L:List Kk.Rk):(List.range L.length).all (Kk.zsj L)=true↔OkR L:=by
 rw [Qw];constructor
 ·intro h;have h1:∀i,i<L.length->Kk.zpt L i=true/\Kk.zke L i=true/\Kk.zhc L i=true/\Kk.zib L i=true:=fun i hi=>by
   have:=h i (List.mem_range.2 hi);unfold Kk.zsj at this;simpa only [Qh] using this
  refine ⟨fun x hx=>?_,?_,?_⟩
  ·obtain ⟨i,hi,rfl⟩:=List.getElem_of_mem hx;obtain ⟨a1,a2,-,-⟩:=h1 i hi;unfold Kk.zpt at a1;unfold Kk.zke Kk.zea at a2;rw [getD_at hi] at a1 a2;simp only [Qh,decide_eq_true_iff] at a1 a2;exact ⟨a1,a2.1,a2.2⟩
  ·rw [List.pairwise_iff_getElem];intro i j hi hj hij;have:=Kk.zre (L:=L) (Qw.2 fun q hq=> (h1 q (List.mem_range.1 hq)).2.2.1) i j hij hj;rwa [getD_at hi,getD_at hj] at this
  ·rw [List.pairwise_iff_getElem];intro i j hi hj hij;have:=(h1 j hj).2.2.2;unfold Kk.zib at this;rw [Bool.not_eq_true',List.any_eq_false] at this;have:=this i (List.mem_range.2 hij);rw [getD_at hi,getD_at hj] at this;simpa using this
 ·intro h i hi;have hi:=List.mem_range.1 hi;have hm:=h.sm _ (Qv hi);unfold Kk.zsj;simp only [Qh];refine ⟨?_,?_,?_,?_⟩
  ·unfold Kk.zpt;rw [getD_at hi];exact Qe hm.1
  ·unfold Kk.zke Kk.zea;rw [getD_at hi];simp only [Qh,decide_eq_true_iff];exact hm.2
  ·unfold Kk.zhc;by_cases h0:i=0
   ·simp [h0]
   ·have:=List.pairwise_iff_getElem.1 h.up (i-1) i (by omega) hi (by omega);rw [getD_at hi,getD_at (by omega:i-1<L.length),this,Bool.or_true]
  ·exact Kk.yfc fun j hj=>by
    have:=List.pairwise_iff_getElem.1 h.ne j i (by omega) hi hj;rwa [getD_at hi,getD_at (by omega:j<L.length)]
theorem zo3 (L:List Kk.Rk):Kk.zec L=true↔L.length<=20/\OkR L:=by
 unfold Kk.zec;rw [Qh,decide_eq_true_iff,yft]
def zgo (X:List Kk.Rk) (x:Kk.Rk):List Kk.Rk:=Kk.zf4 (Kk.without X x.m) x
theorem zb3 (m:ByteArray):∀{X:List Kk.Rk},X.Pairwise (fun x y=>x.m≠y.m)->X.length<=(Kk.without X m).length+1
 | [],_=>by simp
 |x::r,h=>by
  have h':=List.pairwise_cons.1 h;unfold Kk.without;rw [List.filter_cons];by_cases e:x.m=m
  ·have:r.filter (fun y=>decide (y.m≠m))=r:=List.filter_eq_self.2 fun y hy=>by
    have:=h'.1 y hy;rw [e] at this;exact Qe (fun q=>this q.symm)
   rw [if_neg (by simp [e]),this];simp
  ·rw [if_pos (by simp [e])];have:=zb3 m h'.2;unfold Kk.without at this;simp only [Q1];omega
theorem yb3 (h:OkR X) {x:Kk.Rk} (hx:x.m.size<=200/\-1000000000000000000<=x.s/\x.s<=1000000000000000000):OkR (zgo X x)/\X.length<=(zgo X x).length/\(zgo X x).length<=X.length+1:=by
 have hp:(zgo X x).Perm (x::Kk.without X x.m):=Kk.zvm _ _;have hw:∀y∈Kk.without X x.m,y∈X/\y.m≠x.m:=fun y hy=>by
  obtain ⟨h1,h2⟩:=List.mem_filter.1 hy;exact ⟨h1,by simpa using h2⟩
 have hne:(zgo X x).Pairwise (fun x y=>x.m≠y.m):=by
  refine (hp.pairwise_iff (fun {a b} hab=>fun e=>hab e.symm)).2 (List.pairwise_cons.2 ⟨fun y hy e=> (hw y hy).2 e.symm,h.ne.sublist List.filter_sublist⟩)
 have hle:(zgo X x).Pairwise Kk.leR:=Kk.zm5 x (Kk.zf7 (h.up.imp fun {a b} hab=>Kk.zhz hab));refine ⟨⟨fun y hy=>?_,(hle.and hne).imp fun {a b} hab=>?_,hne⟩,?_,?_⟩
 ·rcases List.mem_cons.1 (hp.mem_iff.1 hy) with rfl|h1
  ·exact hx
  ·exact h.sm y (hw y h1).1
 ·cases e:Kk.zbv a b with
  |true=>rfl
  |false=>exact absurd (congrArg Kk.Rk.m (Kk.zj1 hab.1 e)) hab.2
 ·rw [hp.length_eq,Q1];exact zb3 _ h.ne
 ·rw [hp.length_eq,Q1];have:(Kk.without X x.m).length<=X.length:=Qt _ _;omega
theorem zzj:∀(W X:List Kk.Rk),OkR X->(∀x∈W,x.m.size<=200/\-1000000000000000000<=x.s/\x.s<=1000000000000000000)->OkR (W.foldl zgo X)/\X.length<=(W.foldl zgo X).length/\(W.foldl zgo X).length<=X.length+W.length
 | [],X,h,_=>⟨h,Qc _,Qc _⟩
 |x::W,X,h,hw=>by
  obtain ⟨h1,h2,h3⟩:=yb3 h (hw x List.mem_cons_self);obtain ⟨g1,g2,g3⟩:=zzj W (zgo X x) h1 (fun y hy=>hw y (List.mem_cons_of_mem _ hy));exact ⟨g1,Qj h2 g2,by rw [List.foldl_cons,Q1];omega⟩
theorem ybc (h:OkR X) (hl:X.length<=20) {m:ByteArray} {s:Int} (hx:m.size<=200/\-1000000000000000000<=s/\s<=1000000000000000000):Kk.zf2 X m s=decide ((zgo X ⟨m,s⟩).length<=20):=by
 unfold Kk.zf2;rw [(zo3 X).2 ⟨hl,h⟩,Qz];have:=(yb3 h (x:=⟨m,s⟩) hx).1;by_cases e:(zgo X ⟨m,s⟩).length<=20
 ·rw [Qe e];exact (zo3 _).2 ⟨e,this⟩
 ·rw [Qf e];cases hz:Kk.zec (Kk.zf4 (Kk.without X m) ⟨m,s⟩) with
  |false=>rfl
  |true=>exact absurd ((zo3 _).1 hz).1 e
def ze9:List ByteArray->Option (List Kk.Rk)
 |s::m::T=>if (zbc s).2=true then (ze9 T).map (fun r=>⟨m,(zbc s).1⟩::r) else none
 |_=>some []
theorem zrb:∀(W:List ByteArray) (rs:List Kk.Rk),zc8 rs W=(ze9 W).map (fun r=>r.foldl zgo rs)
 | [],rs=>rfl
 | [_],rs=>rfl
 |s::m::T,rs=>by
  unfold zc8 ze9;by_cases h:(zbc s).2=true
  ·rw [if_pos h,if_pos h,zrb T];cases ze9 T<;>rfl
  ·rw [if_neg h,if_neg h];rfl
theorem znk:∀(W:List ByteArray) (r:List Kk.Rk),ze9 W=some r->(∀t∈W,t.size<=200)->∀x∈r,x.m.size<=200/\-1000000000000000000<=x.s/\x.s<=1000000000000000000
 | [],r,h,_=>by cases h;simp
 | [_],r,h,_=>by cases h;simp
 |s::m::T,r,h,hs=>by
  unfold ze9 at h;by_cases hz:(zbc s).2=true
  ·rw [if_pos hz] at h;cases hT:ze9 T with
   |none=>rw [hT] at h;cases h
   |some q=>
    rw [hT] at h;cases h;intro x hx;rcases List.mem_cons.1 hx with rfl|hx
    ·refine ⟨hs m (by simp),?_⟩;rcases zer s with hb|hb
     ·exact hb
     ·rw [hb] at hz;cases hz
    ·exact znk T q hT (fun t ht=>hs t (List.mem_cons_of_mem _ (List.mem_cons_of_mem _ ht))) x hx
  ·rw [if_neg hz] at h;cases h
theorem zva:∀(W:List ByteArray) (r:List Kk.Rk),ze9 W=some r->r.length=W.length/2
 | [],r,h=>by cases h;rfl
 | [_],r,h=>by cases h;simp
 |s::m::T,r,h=>by
  unfold ze9 at h;by_cases hz:(zbc s).2=true
  ·rw [if_pos hz] at h;cases hT:ze9 T with
   |none=>rw [hT] at h;cases h
   |some q=>
    rw [hT] at h;cases h;have:=zva T q hT;simp only [Q1];omega
  ·rw [if_neg hz] at h;cases h
theorem zyb {v:Vl} (h:zh4 v=true):OkR v.rq:=by
 have hnil:v.rq.length=0->OkR v.rq:=fun e=>by rw [List.length_eq_zero_iff.1 e];exact ⟨fun x hx=>absurd hx List.not_mem_nil,List.Pairwise.nil,List.Pairwise.nil⟩
 unfold zh4 zgg at h;split at h
 ·simp only [Qh,decide_eq_true_iff] at h;exact hnil (by omega)
 ·split at h
  ·simp only [Qh,decide_eq_true_iff] at h;exact hnil (by omega)
  ·split at h
   ·simp only [Qh,decide_eq_true_iff] at h;exact hnil (by omega)
   ·split at h
    ·simp only [Qh,decide_eq_true_iff] at h;exact ((zo3 _).1 h.2.2.2).2
    ·cases h
theorem yd5 (hd:zan (L.map KV.key)=true) (nm:ByteArray):OkR (zak L nm).key.val.rq:=by
 rcases zby L nm with ⟨-,e⟩|⟨-,hm,-⟩
 ·rw [e];exact ⟨fun x hx=>absurd hx List.not_mem_nil,List.Pairwise.nil,List.Pairwise.nil⟩
 ·have hk:=((zce _).1 hd).2.2 _ (List.mem_map_of_mem hm);unfold zfo at hk;rw [Qh,Qh] at hk;exact zyb hk.2.1
theorem yem {ks:List Ke} (hd:zan ks=true) (nm:ByteArray) (X:List Kk.Rk) (du:Int) (R:List Rp) (hX:20<X.length):za1 ks ⟨nm,⟨4,⟨#[]⟩,[],[],X⟩,du⟩ R=(ks,zcb ze8):=by
 unfold za1;have h1:zdm ⟨nm,⟨4,⟨#[]⟩,[],[],X⟩,du⟩=false:=by
  unfold zdm;simp;intro e;rw [e] at hX;simp at hX
 have h2:zfo ⟨nm,⟨4,⟨#[]⟩,[],[],X⟩,du⟩=false:=by
  cases e:zfo ⟨nm,⟨4,⟨#[]⟩,[],[],X⟩,du⟩ with
  |false=>rfl
  |true=>
   unfold zfo at e;rw [Qh,Qh] at e;have:=(zff e.2.1).nr;have:X.length<=20:=this;omega
 rw [h1,if_neg (by simp),zfm hd,h2,Q0,if_neg (by simp)]
theorem zyj (h:2*k+1<T.length):T.drop (2*k)=T.getD (2*k) empty::T.getD (2*k+1) empty::T.drop (2*(k+1)):=by
 rw [Qa,Qa,Qd h,Qd (by omega:2*k<T.length)];show T.drop (2*k)=T[2*k]::T[2*k+1]::T.drop (2*k+1+1);rw [List.getElem_cons_drop,List.getElem_cons_drop]
theorem zrc (s m:ByteArray) (T:List ByteArray):ze9 (s::m::T)=if (zbc s).2=true then (ze9 T).map (fun r=>⟨m,(zbc s).1⟩::r) else none:=by rw [ze9]
structure zrh (T:List ByteArray) (k:Nat) (M:List Kk.Rk):Prop where
 eq:ze9 T=(ze9 (T.drop (2*k))).map (fun r=>M++r)
 len:M.length=k
theorem zrh.next (h:zrh T k M) (hk:2*k+1<T.length):((zbc (T.getD (2*k) empty)).2=true->zrh T (k+1) (M++ [⟨T.getD (2*k+1) empty,zmv (T.getD (2*k) empty)⟩]))/\((zbc (T.getD (2*k) empty)).2=false->ze9 T=none):=by
 have he:=h.eq;rw [zyj hk] at he;constructor
 ·intro hz;refine ⟨?_,by simp [h.len]⟩;rw [he,zrc,if_pos hz];unfold zmv;rw [if_pos hz];cases ze9 (T.drop (2*(k+1))) with
  |none=>rfl
  |some r=>simp
 ·intro hz;rw [he,zrc,if_neg (by rw [hz];simp)];rfl
theorem zrh.last (h:zrh T k M) (hk:T.length<=2*k):ze9 T=some M:=by
 rw [h.eq,List.drop_eq_nil_of_le hk];unfold ze9;simp
theorem zmu (aa:Option Addr) (ab ao m ac B:Nat) (T:List ByteArray) (ad:Nat->Addr) (w:World) (h:zdg w aa ab ao m T) (hE:zhj w B ad) (hB:B<=w.heap.size) (hac:m<=ac) (hm:m<=16) (hev:m%2=0) (hs:∀t∈T,t.size<=200):
  Calls prog 254 #[.slice aa m ac] w fun e w'=> (∃v,e= .returned (.tuple #[v,zc9 (ad 12) (ze9 T).isSome])/\Kk.za9 w' w.heap.size v ((ze9 T).getD []))/\Bl w w':=by
 have hTl:=h.len;have hz:=zav hs;have HI:Hid (∀W k,Bl w W->Cp 241 #[.string (T.getD k empty)] W fun e w'=>e= .returned (.tuple #[.int .i64 (zmv (T.getD k empty)),zc9 (ad 12) (zbc (T.getD k empty)).2])/\Bl W w'):=fun W k hb=>zfa _ W B ad (by have:=hz k;omega) (hE.bw (hb.mono hB)) (Qj hB hb.size);have HARG:Hid (∀W,Bl w W->∀i,i<m->W.cell? ⟨ab,ao+i,none⟩=some (.string (T.getD i empty))):=fun W hb i hi=> (hb.cell (p:=⟨ab,ao+i,none⟩) (h.low (by omega))).trans (h.cell i hi);have HAD:Hid (0<m->aa=some ⟨ab,ao,none⟩):=fun h0=>h.addr h0;have HN0:Hid (Kk.za9 w w.heap.size (.slice none 0 0) []):=Kk.zfz w _;have HTL:=hid hTl;have HS0:Hid (zrh T 0 []):=⟨by rw [Nat.mul_zero,List.drop_zero];cases ze9 T<;>simp,rfl⟩;clear h hE hs hz hTl;go_enter func254,ntmps254;go_wp2;go_loopg [0,4] m (fun kx s0 s4 wr=>∃(k:Nat) (M:List Kk.Rk) (v:Value) (aw:Option Addr),2*k<=m/\s4=v/\s0= .slice aw (m-2*k) (ac-2*k)/\(2*k<m->aw=some ⟨ab,ao+2*k,none⟩)/\m-2*k<=kx/\Hid (zrh T k M/\Kk.za9 wr w.heap.size v M/\Bl w wr))
 case atStart=>exact ⟨0,[],.slice none 0 0,aa,by omega,rfl,rfl,fun h0=>HAD.out (by omega),by omega,HS0.out,HN0.out,Qb _ _⟩
 case round=>
  obtain ⟨k,M,v,aw,hk,rfl,rfl,haw,hkx,hI⟩:=hrel;by_cases hlt:2*k<m
  ·obtain rfl:=haw hlt;obtain ⟨r,hr⟩:∃r,m-2*k=r:=⟨_,rfl⟩;obtain ⟨q,hq⟩:∃q,ac-2*k=q:=⟨_,rfl⟩;have hr2:2<=r:=by omega
   have hrq:r<=q:=by omega
   rw [hr,hq];have HRQ:Hid (m-2*(k+1)=r-2/\ac-2*(k+1)=q-2/\m-2*k=r):=⟨by omega,by omega,hr⟩;obtain ⟨n1,n2⟩:=hI.out.1.next (by rw [HTL.out];omega);have HN1:Hid _:=n1;have HN2:Hid _:=n2;have HIN:=hid (HI.out wr (2*k) hI.out.2.2);have HC1:Hid (∀W,Bl w W->W.cell? ⟨ab,ao+2*k+1,none⟩=some (.string (T.getD (2*k+1) empty))):=fun W hb=>HARG.out W hb (2*k+1) (by omega);have u0:=HARG.out wr hI.out.2.2 (2*k) (by omega);clear hr hq haw n1 n2;have hg1:decide ((2:Int)<=(r:Int))=true:=Qe (by omega);have hg2:(0:Int)<(r:Int):=by omega
   have hg3:(1:Int)<(r:Int):=by omega
   have hg4:(2:Int)<=(r:Int):=by omega
   have hg5:(r:Int)<=(q:Int):=by omega
   have hg6:0<r:=by omega
   have hml:M.length<=1048577:=by have:=hI.out.1.len;omega
   generalize T.getD (2*k) empty=t0,T.getD (2*k+1) empty=t1 at*;generalize zmv t0=z0 at*;cases hzb:(zbc t0).2 with
   |false=>
    have HNO:Hid (ze9 T=none):=HN2.out hzb;rw [hzb] at HIN;have HIN:Hid (Cp 241 #[.string t0] wr fun e w'=>e= .returned (.tuple #[.int .i64 z0,.iface 307 (.pointer (some (ad 12)))])/\Bl wr w'):=HIN;clear HN1 HN2 HC1 hzb;go_wp2_with fail;refine HIN.out.mono ?_;rintro e w1 ⟨rfl,b1⟩;have HB1:Hid (Bl w w1):=hI.out.2.2.trans (b1.mono hI.out.2.2.size);clear b1 HIN hI u0;go_wp2;go_ret2;rw [HNO.out];exact ⟨⟨_,rfl,Kk.zfz _ _⟩,HB1.out⟩
   |true=>
    rw [hzb] at HIN;have HIN:Hid (Cp 241 #[.string t0] wr fun e w'=>e= .returned (.tuple #[.int .i64 z0,.nilIface])/\Bl wr w'):=HIN;have HNX:Hid _:=HN1.out hzb;clear HN1 HN2 hzb;go_wp2_with fail;refine HIN.out.mono ?_;rintro e w1 ⟨rfl,b1⟩;have HB1:Hid (Bl w w1):=hI.out.2.2.trans (b1.mono hI.out.2.2.size);have u1:=HC1.out w1 HB1.out;obtain ⟨v',w7,hrun,ho7,hb7,-⟩:=zq9 (⟨t1,z0⟩:Kk.Rk) (zaf hI.out.2.1 b1) hml HB1.out.size;have R7:Hid _:=hrun;have H7:Hid (zrh T (k+1) (M++ [⟨t1,z0⟩])/\Kk.za9 w7 w.heap.size v' (M++ [⟨t1,z0⟩])/\Bl w w7):=⟨HNX.out,ho7,HB1.out.trans hb7⟩;clear b1 HIN hI u0 HNX hrun ho7 hb7;by_cases hq2:q=2
    ·obtain rfl:r=2:=by omega
     subst hq2;go_wp2_with (at_builtin;refine wpList_append_run rfl _ _ 43 rfl rfl rfl R7.out ?_);go_roundg 0
     case measure=>have:=HRQ.out.2.2;omega
     case rel=>exact ⟨k+1,_,_,some ⟨ab,ao+2*k,none⟩,by omega,rfl,by rw [HRQ.out.1,HRQ.out.2.1],fun h=>by have:=HRQ.out.1;omega,by have:=HRQ.out.1;omega,H7⟩
    ·have hq3:¬(q=2):=hq2;go_wp2_with (at_builtin;refine wpList_append_run rfl _ _ 43 rfl rfl rfl R7.out ?_);go_roundg (r-2)
     case measure=>have:=HRQ.out.2.2;omega
     case rel=>exact ⟨k+1,_,_,some ⟨ab,ao+2*k+2,none⟩,by omega,rfl,by rw [HRQ.out.1,HRQ.out.2.1],fun _=>by rw [show ao+2*(k+1)=ao+2*k+2 by omega],by have:=HRQ.out.1;omega,H7⟩
  ·have hz:m-2*k=0:=by omega
   have HF:=hid (hI.out.1.last (by rw [HTL.out];omega));rw [hz];go_wp2;go_ret2;rw [HF.out];exact ⟨⟨_,rfl,hI.out.2.1⟩,hI.out.2.2⟩
structure yea (w:World) (B:Nat) (rs Wn:List Kk.Rk) (k:Nat) (v:Value) (X:List Kk.Rk) (wr:World):Prop where
 eq:X=(Wn.take k).foldl zgo rs
 ok:OkR X
 len:X.length<=20
 own:Kk.za9 wr B v X
 new:0<k->Kk.za9 wr w.heap.size v X
 bel:Bl w wr
theorem zss {wr w1:World} {ad:Nat->Addr} {rs Wn:List Kk.Rk} {v:Value} (hE:zhj w B ad) (hB:B<=w.heap.size) (h:yea w B rs Wn k v X wr) (hk:k<Wn.length) (hw:∀x∈Wn,x.m.size<=200/\-1000000000000000000<=x.s/\x.s<=1000000000000000000) (hb:Bl wr w1):
  Calls prog 255 #[v,.string (Wn.getD k Kk.rk0).m,.int .i64 (Wn.getD k Kk.rk0).s] w1 fun e w2=>∃v' ok,e= .returned (.tuple #[v',.bool ok])/\(Bl w w2/\Bl wr w2)/\(ok=true->∃X',yea w B rs Wn (k+1) v' X' w2)/\(ok=false->20<(Wn.foldl zgo rs).length):=by
 have hx:=getD_at hk;have hxs:=hw _ (Qv hk);rw [<-hx] at hxs;have hbw:=h.bel.trans (hb.mono h.bel.size);have hE1:=hE.bw (hbw.mono hB);obtain ⟨a,A,c,rfl,hz⟩:=Kk.zcl (zaf h.own hb);refine (Kk.zxu a A 0 X.length c X _ _ w1 hz (by have:=h.len;omega) (fun y hy=>by have:=h.ok.sm y hy;exact ⟨by omega,by omega⟩) ⟨by omega,by omega⟩ hE1.rd.tab (Qj hE.n25 (Qj hB hbw.size))).mono ?_;rintro e w2 ⟨⟨v',rfl,ho⟩,hb2⟩;rw [ybc h.ok h.len hxs] at ho ⊢;have hb3:=hbw.trans (hb2.mono hbw.size);obtain ⟨o1,o2,o3⟩:=yb3 h.ok hxs;have htk:(Wn.take (k+1)).foldl zgo rs=zgo X (Wn.getD k Kk.rk0):=by
  rw [Qo hk,List.foldl_append,<-h.eq,hx];rfl
 refine ⟨v',_,rfl,⟨hb3,hb.trans (hb2.mono hb.size)⟩,fun e=>⟨zgo X (Wn.getD k Kk.rk0),?_⟩,fun e=>?_⟩
 ·rw [e,if_pos rfl] at ho;have hl:=Qg e;refine ⟨htk.symm,o1,hl,zbn ho (Qj hB hbw.size),fun _=>zbn ho hbw.size,hb3⟩
 ·have hl:=of_decide_eq_false e;have hl:20<(zgo X (Wn.getD k Kk.rk0)).length:=Nat.lt_of_not_le hl;have e2:Wn.foldl zgo rs=(Wn.drop (k+1)).foldl zgo (zgo X (Wn.getD k Kk.rk0)):=by
   rw [<-htk,<-List.foldl_append,List.take_append_drop]
  rw [e2];exact Qr hl (zzj _ _ o1 (fun y hy=>hw y (List.mem_of_mem_drop hy))).2.1
theorem zcr.ranksAt {g b n:Nat} {now:Int} {aa:Option Addr} {ab ao ac:Nat} (h:zcr w B g b n now aa ab ao ac L L T) (nm:ByteArray):Kk.za9 w B (zak L nm).vr (zak L nm).key.val.rq:=(h.keyOwn nm).rq
theorem zwy (B g b n:Nat) (now:Int) (aa:Option Addr) (ab ao ac:Nat) (L:List KV) (T:List ByteArray) (ad:Nat->Addr) (w:World) (h:zcr w B g b n now aa ab ao ac L L T) (hd:zan (L.map KV.key)=true) (hE:zhj w B ad) (hn:n<=1000) (hs:∀t∈T,t.size<=200) (hT:3<=T.length) (hT2:T.length<=16) (hodd:T.length%2=1) (hac:T.length<=ac):
  Calls prog 202 #[.pointer (some ⟨g,0,none⟩)] w (zar w B g b now aa ab ao ac T ad (L.map KV.key) (match zc8 (zak L (T.getD 0 empty)).key.val.rq T.tail with|some X=>za1 (L.map KV.key) (zeh L (T.getD 0 empty) X) (zam ((X.length:Int)-((zak L (T.getD 0 empty)).key.val.rq.length:Int)))|none=> (L.map KV.key,zcb zdc))):=by
 rw [zrb];have hz0:=zav hs 0;have hTl:T.tail.length=T.length-1:=by simp
 have hst:∀t∈T.tail,t.size<=200:=fun t ht=>hs t (List.mem_of_mem_tail ht);have HRW:=hid (zmu _ ab (ao+1) (T.length-1) (ac-1) B T.tail ad w (h.tail (by omega)) hE h.le (by omega) (by omega) (by omega) hst);have c2:=h.call.c2;obtain rfl:=h.call.args.addr (by omega);have hm1:(1:Int)<=(T.length:Int):=by omega
 have hm2:(1:Int)<(ac:Int):=by omega
 have hm3:(T.length:Int)<=(ac:Int):=by omega
 have hm4:1<ac:=by omega
 have hm5:¬ac=1:=by omega
 cases hW:ze9 T.tail with
 |none=>
  rw [hW] at HRW;have HRW:Hid (Cp 254 #[.slice (some ⟨ab,ao+1,none⟩) (T.length-1) (ac-1)] w fun e w'=> (∃v,e= .returned (.tuple #[v,.iface 307 (.pointer (some (ad 12)))])/\Kk.za9 w' w.heap.size v [])/\Bl w w'):=HRW;have HLE:=h.le;clear h hd hE hn hs hst hTl hW;show Calls prog 202 _ w (zar w B g b now (some ⟨ab,ao,none⟩) ab ao ac T ad (L.map KV.key) (L.map KV.key,zcb zdc));generalize L.map KV.key=ks at*;go_enter func202,ntmps202;go_wp2_with fail;refine HRW.out.mono ?_;rintro e w1 ⟨⟨v,rfl,ho⟩,b1⟩;have HF:Hid _:=zf0 (B:=B) (g:=g) (b:=b) (now:=now) (aa:=some ⟨ab,ao,none⟩) (ab:=ab) (ao:=ao) (ac:=ac) (T:=T) (ad:=ad) (ks:=ks) (r:= .slice none 0 0) 12 (by omega) (b1.mono HLE);clear ho b1 HRW;go_wp2;go_ret2;exact HF.out
 |some Wn=>
  rw [hW] at HRW;have HRW:Hid (Cp 254 #[.slice (some ⟨ab,ao+1,none⟩) (T.length-1) (ac-1)] w fun e w'=> (∃v,e= .returned (.tuple #[v,.nilIface])/\Kk.za9 w' w.heap.size v Wn)/\Bl w w'):=HRW;have hwl:Wn.length=(T.length-1)/2:=by rw [zva _ _ hW,hTl]
  have hws:=znk _ _ hW hst;have hsm:=za8 hd (T.getD 0 empty);have hok:=yd5 hd (T.getD 0 empty);obtain ⟨a1,n1,k1,a2,n2,k2,a3,n3,k3,e1,e2,e3,hH⟩:=h.held (by omega) hz0;have hko:=h.ranksAt (T.getD 0 empty);rw [e3] at hko;obtain ⟨xa,xc,xe⟩:=zad hko;injection xe with x1 x2 x3;subst x1 x2 x3;have HH:Hid (∀W,_):=hH;have HR:Hid (∀W s,Cp 233 #[.int .i64 s] W (zci W (zam s))):=fun W s=>za4 s W;have HST:Hid (∀w1,Bl w w1->yea w B (zak L (T.getD 0 empty)).key.val.rq Wn 0 (.slice a3 (zak L (T.getD 0 empty)).key.val.rq.length k3) (zak L (T.getD 0 empty)).key.val.rq w1):=fun w1 hb=>⟨by rw [List.take_zero];rfl,hok,hsm.nr,zaf hko hb,fun h0=>absurd h0 (by omega),hb⟩;have HRK:Hid (∀wr k v X w1,yea w B (zak L (T.getD 0 empty)).key.val.rq Wn k v X wr->k<Wn.length->Bl wr w1->Cp 255 #[v,.string (Wn.getD k Kk.rk0).m,.int .i64 (Wn.getD k Kk.rk0).s] w1 fun e w2=>∃v' ok,e= .returned (.tuple #[v',.bool ok])/\(Bl w w2/\Bl wr w2)/\(ok=true->∃X',yea w B (zak L (T.getD 0 empty)).key.val.rq Wn (k+1) v' X' w2)/\(ok=false->20<(Wn.foldl zgo (zak L (T.getD 0 empty)).key.val.rq).length)):=fun wr k v X w1 hI hk hb=>zss hE h.le hI hk hws hb;have HFU:Hid (20<(Wn.foldl zgo (zak L (T.getD 0 empty)).key.val.rq).length->∀W r,Bl w W->W.cell? ⟨7,0,none⟩=some (.iface 307 (.pointer (some (ad 1))))/\zar w B g b now (some ⟨ab,ao,none⟩) ab ao ac T ad (L.map KV.key) (za1 (L.map KV.key) (zeh L (T.getD 0 empty) (Wn.foldl zgo (zak L (T.getD 0 empty)).key.val.rq)) (zam (((Wn.foldl zgo (zak L (T.getD 0 empty)).key.val.rq).length:Int)-((zak L (T.getD 0 empty)).key.val.rq.length:Int)))) (.returned (.tuple #[r,.iface 307 (.pointer (some (ad 1)))])) W):=fun hx W r hb=>by
   refine ⟨((hE.bw (hb.mono h.le)).er 1 (.inl rfl)).1.v,?_⟩;unfold zeh;rw [yem hd _ _ _ _ hx];exact zf0 1 (.inl rfl) (hb.mono h.le)
  have HLV:Hid (∀W wr a' c' r,yea w B (zak L (T.getD 0 empty)).key.val.rq Wn Wn.length (.slice a' (Wn.foldl zgo (zak L (T.getD 0 empty)).key.val.rq).length c') (Wn.foldl zgo (zak L (T.getD 0 empty)).key.val.rq) wr->Bl wr W->zbe W wr.heap.size r (zam (((Wn.foldl zgo (zak L (T.getD 0 empty)).key.val.rq).length:Int)-((zak L (T.getD 0 empty)).key.val.rq.length:Int)))->Cp 244 #[.pointer (some ⟨g,0,none⟩),.iface 234 (.slice a' (Wn.foldl zgo (zak L (T.getD 0 empty)).key.val.rq).length c')] W fun e w2=>∃er,e= .returned er/\zar w B g b now (some ⟨ab,ao,none⟩) ab ao ac T ad (L.map KV.key) (za1 (L.map KV.key) (zeh L (T.getD 0 empty) (Wn.foldl zgo (zak L (T.getD 0 empty)).key.val.rq)) (zam (((Wn.foldl zgo (zak L (T.getD 0 empty)).key.val.rq).length:Int)-((zak L (T.getD 0 empty)).key.val.rq.length:Int)))) (.returned (.tuple #[r,er])) w2):=fun W wr a' c' r hI hbW hr=>by
   have hb:Bl w W:=hI.bel.trans (hbW.mono hI.bel.size);have ho:=zaf (hI.new (by omega)) hbW;have hE':=hE.bw (hb.mono h.le);obtain ⟨he',hA'⟩:=hE'.er 1 (.inl rfl);refine (zl5 B g b n now _ ab ao ac L T W a' c' _ ((h.bw hb).gone _) (zbn ho h.le) (fun x hx k hk hxk=>?_) (by omega) (by omega) (by have:=hI.len;omega) (fun x hx=>by have:=hI.ok.sm x hx;exact ⟨by omega,by omega⟩) hn hE'.rd he' hA').mono ?_
   ·have hxo:=(h.vals.own x (zee hx).1).rq;have:=(zaz hxo hxk).2;have:=(zaz ho hk).1;omega
   ·intro e w2 hl;have e0:=hl.1;refine ⟨_,e0,?_⟩;rw [e0] at hl;exact zdj h hd (hr.le hI.bel.size) (hb.mono h.le) hb.size hl
  have HEQ:Hid (∀v X wr,yea w B (zak L (T.getD 0 empty)).key.val.rq Wn Wn.length v X wr->X=(Wn.foldl zgo (zak L (T.getD 0 empty)).key.val.rq)):=fun v X wr hI=>by rw [hI.eq,List.take_length]
  have hnr:=hsm.nr;clear h hd hE hn hs hH hsm e1 e2 e3 hko hok hst hTl hW;show Calls prog 202 _ w (zar w B g b now (some ⟨ab,ao,none⟩) ab ao ac T ad (L.map KV.key) (za1 (L.map KV.key) (zeh L (T.getD 0 empty) (Wn.foldl zgo (zak L (T.getD 0 empty)).key.val.rq)) (zam (((Wn.foldl zgo (zak L (T.getD 0 empty)).key.val.rq).length:Int)-((zak L (T.getD 0 empty)).key.val.rq.length:Int)))));generalize hpp:(za1 (L.map KV.key) (zeh L (T.getD 0 empty) (Wn.foldl zgo (zak L (T.getD 0 empty)).key.val.rq)) (zam (((Wn.foldl zgo (zak L (T.getD 0 empty)).key.val.rq).length:Int)-((zak L (T.getD 0 empty)).key.val.rq.length:Int))))=pp at*;generalize L.map KV.key=ks,(zak L (T.getD 0 empty)).key.val.kind=kd,(zak L (T.getD 0 empty)).key.val.text=tx,(zak L (T.getD 0 empty)).key.val.rq=rs at*;obtain ⟨XA,hXA⟩:∃XA,Wn.foldl zgo rs=XA:=⟨_,rfl⟩;rw [hXA] at HLV HEQ HRK HFU;clear hpp hXA;obtain ⟨il,hil⟩:∃il,rs.length=il:=⟨_,rfl⟩;rw [hil] at HH HLV HST hnr;clear hil;have hf:=fun W=>zjj (.int .i64 kd) (.string tx) (.slice a1 n1 k1) (.slice a2 n2 k2) (.slice a3 il k3) W;generalize T.length=m at*;go_enter func202,ntmps202;go_wp2_with fail;refine HRW.out.mono ?_;rintro e w1 ⟨⟨v,rfl,ho⟩,b1⟩;obtain ⟨wa,wA,wc,rfl,hz⟩:=Kk.zcl ho;have HZ:Hid (∀W,Bl w1 W->Kk.zdh W wa wA 0 Wn.length Wn):=fun W hb=>hz.bw hb;have HB1:Hid (Bl w w1):=b1;have H1:=HH.out w1 b1;have HH1:Hid (Cp 239 _ _ _):=H1;clear b1 HRW HH ho hz H1 c2;have HWL:Hid (∃q,Wn.length=q/\q<=8):=⟨_,rfl,by omega⟩;clear hwl;obtain ⟨q,hq,hq8⟩:=HWL.out;have HQ:Hid (Wn.length=q):=hq;rw [hq] at HZ HRK HLV HEQ;rw [hq];clear hq HWL;go_wp2_with fail;refine HH1.out.mono ?_;rintro e w2 ⟨rfl,b2⟩;have HB2:Hid (Bl w1 w2):=b2;have HS:Hid _:=HST.out w2 (HB1.out.trans (b2.mono HB1.out.size));clear b2 HST HH1;go_wp2;go_loopw [6,30] (fun v i wr=>∃(k:Nat) (X:List Kk.Rk),k<=q/\i= .int .i64 k/\Hid (yea w B rs Wn k v X wr/\Bl w1 wr)) (fun _ i _=>q-(intOf i).toNat)
  case atStart=>exact ⟨0,rs,by omega,rfl,HS.out,HB2.out⟩
  case round=>
   obtain ⟨k,X,hk,rfl,hI⟩:=hrel;by_cases hlt:k<q
   ·have hbw:=hI.out.2;have d0:=((HZ.out _ hbw).cell k hlt).c0;have d1:=((HZ.out _ hbw).cell k hlt).c1;rw [Qq] at d0 d1;obtain rfl:=(HZ.out _ hbw).addr (by omega);have HCR:=hid fun W1 (hb:Bl wr W1)=>HRK.out wr k u6 X W1 hI.out.1 hlt hb;obtain ⟨xm,hxm⟩:∃xm,(Wn.getD k Kk.rk0).m=xm:=⟨_,rfl⟩;obtain ⟨xs,hxs⟩:∃xs,(Wn.getD k Kk.rk0).s=xs:=⟨_,rfl⟩;rw [hxm] at d0 HCR;rw [hxs] at d1 HCR;clear hxm hxs;obtain ⟨W0,hW0,HW0,b0,q0⟩:=boxed wr #[.string ⟨#[]⟩,.int .i64 0] 147;have rc1:=q0.set 0 (.string xm);have rc2:=rc1.set 1 (.int .i64 xs);have hl:=Qc wr.heap.size;have b4:Bl wr ((W0.setCell ⟨wr.heap.size,0,none⟩ (.string xm)).setCell ⟨wr.heap.size,1,none⟩ (.int .i64 xs)):=(b0.setCell hl _).setCell hl _;obtain ⟨W4,hW4⟩:∃W4,(W0.setCell ⟨wr.heap.size,0,none⟩ (.string xm)).setCell ⟨wr.heap.size,1,none⟩ (.int .i64 xs)=W4:=⟨_,rfl⟩;rw [hW4] at rc2 b4;have y0:=q0.cell 0;have y1:=q0.cell 1;have z0:=q0.frozen 0;have z1:=q0.frozen 1;have u0:=rc2.cell 0;have u1:=rc2.cell 1;simp only [Qm,Qk,Ql] at y0 y1 u0 u1;have HC4:=hid (HCR.out W4 b4);have hki:(k:Int)<(q:Int):=by omega
    have HB5:=hid fun W (hb:Bl wr W)=>hbw.trans (hb.mono hbw.size);clear rc1 rc2 b0 q0 b4 hbw hI HCR HZ HRK;go_wp2_with fail;refine HC4.out.mono ?_;rintro e w5 ⟨v',ok,rfl,⟨b5,b6⟩,g1,g2⟩;cases ok with
    |true=>
     obtain ⟨X',hX'⟩:=g1 rfl;have H5:Hid (yea w B rs Wn (k+1) v' X' w5/\Bl w1 w5):=⟨hX',HB5.out _ b6⟩;clear b5 b6 g1 g2 hX' HC4;go_wp2;go_round
     case rel=>exact ⟨k+1,X',by omega,by go_num,H5⟩
     case measure=>simp [intOf];omega
    |false=>
     obtain ⟨e1,-⟩:=HFU.out (g2 rfl) w5 (.slice none 0 0) b5;have HF:Hid (∀nq,zar w B g b now (some ⟨ab,ao,none⟩) ab ao ac T ad ks pp (.returned (.tuple #[.slice none 0 0,.iface 307 (.pointer (some (ad 1)))])) (w5.drewN nq)):=fun nq=> (HFU.out (g2 rfl) _ _ (below_drewN b5 nq)).2;clear b5 b6 g1 g2 HC4;go_upto_region 12 with fail;go_quiet (fail);go_wp2;go_ret2;exact HF.out _
   ·obtain rfl:k=q:=by omega
    have hXe:=HEQ.out _ _ _ hI.out.1;subst hXe;obtain ⟨a',c',e0⟩:=zad hI.out.1.own;subst e0;have hlx:=hI.out.1.len;have HLV2:=hid fun W r (hb:Bl wr W) (hr:zbe W wr.heap.size r (zam ((X.length:Int)-(il:Int))))=>HLV.out W wr a' c' r hI.out.1 hb hr;have hwr:IntKind.i64.wrap ((X.length:Int)-(il:Int))=(X.length:Int)-(il:Int):=by rw [IntKind.wrap_i64];omega
    clear hI HLV HRK HEQ HFU HS HZ;generalize X.length=xl at*;go_wp2_with fail;refine (HR.out _ _).mono ?_;rintro e w3 ⟨r,rfl,hr,hb⟩;have H3:=hid (HLV2.out w3 r hb hr);clear hr hb HR HLV2;go_wp2_with fail;refine H3.out.mono ?_;rintro e w4 ⟨er,rfl,hact⟩;have HF:Hid _:=hact;clear hact H3;go_wp2;go_ret2;exact HF.out
end Go.Proofs.YtokafonppgppdaaGreatDoor.Rb
