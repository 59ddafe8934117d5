import Derived.Test.YtibhabajknikcaaGreatDoorE19
import Derived.Test.YtibhabajknikcaaGreatDoorBc
set_option maxHeartbeats 8000000
set_option maxRecDepth 100000
namespace Go.Proofs.YtibhabajknikcaaGreatDoor.Er
open Go.RowKit Go.Sort
theorem big_any (a:Option Addr) (n c:Nat) (w:World) (hn:n≤9223372036854775807):Calls Tryz.prog 4 #[.slice a n c] w fun e w'=>e= .returned (.bool (decide (1048576<n)))∧w'=w:=by
 go_enter Tryz.func4,Tryz.ntmps4;go_wp2;go_ret;exact ⟨congrArg (fun b=>Ending.returned (Value.bool b)) (decide_eq_decide.2 (by omega)),rfl⟩
theorem sameDb_any (a a':Option Addr) (b b' n c c':Nat) (L L':List KV) (w:World) (h:DbAt w a b n L) (h':DbAt w a' b' n L') (he:L'.map KV.key=L.map KV.key) (hs:∀i,i<n→KSml (L.getD i kv0).key) (hn:n≤1000):
  Calls Tryz.prog 9 #[.slice a n c,.slice a' n c'] w fun e w'=>e= .returned (.bool true)∧Below w.heap.size w w':=by
 have HD:Hid (DbAt w a b n L):=h;have HD':Hid (DbAt w a' b' n L'):=h';have HE:Hid (∀i,(L'.getD i kv0).key=(L.getD i kv0).key):=fun i=>by rw [←key_at,←key_at,he]
 have HS:Hid (∀i,i<n→KSml (L.getD i kv0).key):=hs;clear h h' he hs;go_enter Tryz.func9,Tryz.ntmps9;go_wp2;go_loopw [5] (fun i wr=>∃(k:Nat),k≤n∧i= .int .i64 k∧Below w.heap.size w wr) (fun i _=>n-(intOf i).toNat)
 case atStart=>exact ⟨0,by omega,rfl,Below.refl _ _⟩
 case round=>
  obtain ⟨k,hk,rfl,bk⟩:=hrel;have sk:=bk.size;by_cases hlt:k<n
  ·have HW:=HD.out.below bk;have HW':=HD'.out.below bk;obtain ⟨B,hv⟩:=HW.val k hlt;obtain ⟨B',hv'⟩:=HW'.val k hlt;have hc:=HW.ks.cell k hlt;have hc':=HW'.ks.cell k hlt;obtain rfl:=HW.ks.addr (by omega);obtain rfl:=HW'.ks.addr (by omega);have q:=HS.out k hlt;have e:=HE.out k;generalize L.getD k kv0=y at*;generalize L'.getD k kv0=y' at*;obtain ⟨ky,vi,vp,vr⟩:=y;obtain ⟨ky',vi',vp',vr'⟩:=y';dsimp only at e hv hv' hc hc' q;have e2:=e.symm;subst e2;have n1:ky.val.items.length≤1000:=Nat.le_trans q.ni (by decide);have n2:ky.val.pairs.length≤1000:=Nat.le_trans q.np (by decide);have n3:ky.val.ranks.length≤1000:=Nat.le_trans q.nr (by decide);have hz:∀t∈ky.val.items,t.size≤1048576:=fun t ht=>Nat.le_trans (q.items t ht) (by decide);have cV:∀d os,Calls Tryz.prog 25 #[vlV ky.val.kind ky.val.text vi vp vr,vlV ky.val.kind ky.val.text vi' vp' vr'] (grow (redrawn wr d) os) fun e w''=>e= .returned (.bool true)∧∃p:Regrown,w''=grow (redrawn wr p.d) p.os:=fun d os=>Calls.regrown_of (sameValue_any ky.val vi vp vr vi' vp' vr' _ ((hv.below (below_regrown wr d os)).at hz) ((hv'.below (below_regrown wr d os)).at hz) n1 n2 n3);obtain ⟨c0,c1,c2,c3,c4,c5,c6⟩:=hc;obtain ⟨d0,d1,d2,d3,d4,d5,d6⟩:=hc';dsimp only at c0 c1 c2 c3 c4 c5 c6 d0 d1 d2 d3 d4 d5 d6;clear HW HW' hv hv' q n1 n2 n3 hz;obtain ⟨nm,⟨kd,t,_,_,_⟩,du⟩:=ky;dsimp only at c0 c1 c2 c3 c4 c5 c6 d0 d1 d2 d3 d4 d5 d6 cV;have kc0:=cell_regrown c0;have kc1:=cell_regrown c1;have kc2:=cell_regrown c2;have kc3:=cell_regrown c3;have kc4:=cell_regrown c4;have kc5:=cell_regrown c5;have kc6:=cell_regrown c6;have ke0:=cell_regrown d0;have ke1:=cell_regrown d1;have ke2:=cell_regrown d2;have ke3:=cell_regrown d3;have ke4:=cell_regrown d4;have ke5:=cell_regrown d5;have ke6:=cell_regrown d6;have hk0:(0:Int)≤(k:Int):=by omega
   have hkn:(k:Int)<(n:Int):=by omega
   clear c0 c1 c2 c3 c4 c5 c6 d0 d1 d2 d3 d4 d5 d6;go_wp2;refine wp_region_quiet_below (by kernel_rfl) (by kernel_rfl) ?_;repeat (first|go_big_quiet_skip|quiet_step (first|with_reducible exact cV _ _)|(go_big_quiet_want;go_big_quiet_op;go_big_quiet_on))
   refine wpQuiet_nil ?_;intro _ hw';obtain ⟨⟨dq,osq⟩,hw''⟩:=hw';subst hw'';have bq:=below_regrown wr dq osq;generalize grow (redrawn wr dq) osq=wq at*;go_wp2;go_roundw
   case rel=>exact ⟨k+1,by omega,by go_num,bk.trans (bq.mono sk)⟩
   case measure=>simp [intOf];omega
  ·go_wp2;go_ret;exact ⟨rfl,bk⟩
theorem noInts (a a':Option Addr) (c c':Nat) (w:World):Calls Tryz.prog 24 #[.slice a 0 c,.slice a' 0 c'] w fun e w'=>e= .returned (.bool true)∧w'=w:=by
 go_enter Tryz.func24,Tryz.ntmps24;go_wp2;go_loopw [5] (fun i wr=>i= .int .i64 0∧wr=w) (fun _ _=>0)
 case atStart=>exact ⟨rfl,rfl⟩
 case round=>
  obtain ⟨rfl,rfl⟩:=hrel;go_wp2;go_ret;exact ⟨rfl,rfl⟩
theorem sameNone (a a':Option Addr) (c c':Nat) (w:World):Calls Tryz.prog 8 #[.slice a 0 c,.slice a' 0 c'] w fun e w'=>e= .returned (.bool true)∧Below w.heap.size w w':=by
 go_enter Tryz.func8,Tryz.ntmps8;go_wp2;go_loopw [5] (fun i wr=>i= .int .i64 0∧wr=w) (fun _ _=>0)
 case atStart=>exact ⟨rfl,rfl⟩
 case round=>
  obtain ⟨rfl,rfl⟩:=hrel;go_wp2;go_ret;exact ⟨rfl,Below.refl _ _⟩
theorem sameOne (A A' c c':Nat) (k:Int) (t:ByteArray) (p p':Option Addr) (pc pc':Nat) (w:World) (h0:w.cell? ⟨A,0,none⟩=some (.int .i64 k)) (h1:w.cell? ⟨A,1,none⟩=some (.int .i64 0)) (h2:w.cell? ⟨A,2,none⟩=some (.string t)) (h3:w.cell? ⟨A,3,none⟩=some (.slice p 0 pc)) (d0:w.cell? ⟨A',0,none⟩=some (.int .i64 k)) (d1:w.cell? ⟨A',1,none⟩=some (.int .i64 0)) (d2:w.cell? ⟨A',2,none⟩=some (.string t)) (d3:w.cell? ⟨A',3,none⟩=some (.slice p' 0 pc')):
  Calls Tryz.prog 8 #[.slice (some ⟨A,0,none⟩) 1 c,.slice (some ⟨A',0,none⟩) 1 c'] w fun e w'=>e= .returned (.bool true)∧Below w.heap.size w w':=by
 have HC:∀m,Calls Tryz.prog 24 #[.slice p 0 pc,.slice p' 0 pc'] (w.drewN m) fun e w'=>e= .returned (.bool true)∧∃q,w'=(w.drewN m).drewN q:=fun m=> (noInts p p' pc pc' _).mono (by
  rintro e w' ⟨rfl,rfl⟩;exact ⟨rfl,0,rfl⟩)
 go_enter Tryz.func8,Tryz.ntmps8;go_wp2;go_loopw [5] (fun i wr=>∃(k q:Nat),k≤1∧(k=0→q=0)∧i= .int .i64 k∧wr=w.drewN q) (fun i _=>1-(intOf i).toNat)
 case atStart=>exact ⟨0,0,by omega,fun _=>rfl,rfl,rfl⟩
 case round=>
  obtain ⟨k',q,hk,hq,rfl,hwq⟩:=hrel;by_cases hlt:k'=0
  ·subst hlt;have hq0:=hq rfl;subst hq0;have hw0:wr=w:=hwq;subst hw0;clear hwq hq hk;go_wp2;go_quiet ((exact Calls.quiet_of (HC _)));go_wp2;go_roundw
   case rel=>exact ⟨1,_,by omega,(fun h=>by cases h),by go_num,rfl⟩
   case measure=>simp [intOf]
  ·obtain rfl:k'=1:=by omega
   have bq:Below w.heap.size w wr:=by rw [hwq];exact below_drewN (Below.refl _ _) q
   clear hwq hq;go_wp2;go_ret;exact ⟨rfl,bq⟩
theorem isError_any (A c:Nat) (k:Int) (w:World) (h0:w.cell? ⟨A,0,none⟩=some (.int .i64 k)) (hk:k=1∨k=2):Calls Tryz.prog 11 #[.slice (some ⟨A,0,none⟩) 1 c] w fun e w'=>e= .returned (.bool (decide (k=2)))∧w'=w:=by
 rcases hk with rfl|rfl;all_goals
  go_enter Tryz.func11,Tryz.ntmps11;go_wp2;go_ret;exact ⟨rfl,rfl⟩
def DrawEnd (w:World) (e:Ending) (w':World):Prop:=
 ∃v L r m qa qc xs Q d x now aa am ac,e= .returned (.tuple #[v,.agg (sC r m (.slice qa (List.length Q) qc) d x),.int .i64 now,.slice aa am ac])∧DbOwn w' w.heap.size v L∧FitsG (L.map KV.key)∧L.length≤83∧Fd.Own2 w' w.heap.size (.slice qa Q.length qc) xs (Q.map strV)∧QOk Q∧r.size≤10000∧Below w.heap.size w w'
theorem draw_any (a:Option Addr) (n c:Nat) (w:World) (hn:n≤9223372036854775807) (hb:BytesIn w a n w.heap.size):
  Calls Tryz.prog 5 #[.slice a n c] w (DrawEnd w):=by
 obtain ⟨W0,hW0,HW0,b0,r0⟩:=boxed w z5 27;have q0:W0.heap.size=w.heap.size+1:=by rw [←hW0];simp
 have HO:Hid (Calls Tryz.prog 12 #[.slice a n c] W0 fun e w'=>e= .returned (.pointer (some ⟨W0.heap.size,0,none⟩))∧Rd w' W0.heap.size a n c∧Below W0.heap.size W0 w'):=open_any a n c W0 hn (⟨fun h=>by
  obtain ⟨b,o,h1,h2,h3⟩:=hb.cell h;refine ⟨b,o,h1,Nat.lt_of_lt_of_le h2 b0.size,fun i hi=>?_⟩;obtain ⟨x,u1,u2⟩:=h3 i hi;exact ⟨x,u1,(b0.cell (p:=⟨b,o+i,none⟩) h2).trans u2⟩⟩)
 rw [q0] at HO;have HB0:Hid (Below w.heap.size w W0):=b0;have HR0:Hid (RowAt W0 w.heap.size 27 z5):=r0;clear hb hW0 b0 r0;go_enter Tryz.func5,Tryz.ntmps5;go_upto_region 1 with fail;rw [HW0.out];clear HW0;go_wp2_with fail;refine HO.out.mono ?_;rintro e w1 ⟨rfl,rd1,b1⟩;have h1:w.heap.size+1<w1.heap.size:=by
  obtain ⟨p,_,hr⟩:=rd1.row;exact hr.lt
 clear HO;go_wp2_with fail;refine (db_any (w.heap.size+1) a n c w1 rd1 h1).mono ?_;rintro e w2 ⟨v,M,rfl,hS,hM⟩;have h2:w.heap.size+1<w2.heap.size:=Nat.lt_of_lt_of_le h1 hS.grown.size;go_wp2_with fail;refine (session_any (w.heap.size+1) a n c w2 hS.rd h2).mono ?_;rintro e w3 ⟨r,m,qa,qc,xs,Q,d,x,rfl,ho3,hq3,hr3,rd3,g3⟩;obtain ⟨W4,hW4,HW4,b4,r4⟩:=boxed w3 (sC r m (.slice qa Q.length qc) d x) 27;have g1:w.grownBy w1 (some (w.heap.size+1)):=zcc (zcc (grown_refl _ _) HB0.out) (by rw [q0];exact b1);have g2:=zah g1 hS.grown;have g03:=zah g2 g3;have k1:w.heap.size+1<w3.heap.size:=Nat.lt_of_lt_of_le h2 g3.size;have HD4:Hid (DbOwn W4 w1.heap.size v M):=(hS.own.grown g3 h1).below b4;have HO4:Hid (Fd.Own2 W4 w2.heap.size (.slice qa Q.length qc) xs (Q.map strV)):=ho3.below b4;have HRD4:Hid (Rd W4 (w.heap.size+1) a n c):=rd3.below b4 k1;have HG4:Hid (w.grownBy W4 (some (w.heap.size+1))):=zcc g03 b4;have HR4:Hid (RowAt W4 w.heap.size 27 z5):=by
  have hr1:RowAt w1 w.heap.size 27 z5:=HR0.out.below (by rw [q0];exact b1) HR0.out.lt;have hr2:=row_kept hr1 hS.grown (by omega);have hr3:=row_kept hr2 g3 (by omega);exact hr3.below b4 hr3.lt
 have HF:Hid (FitsG (M.map KV.key)):=hS.fit;have HQ:Hid (QOk Q):=hq3;have hl4:w.heap.size+1<W4.drew.heap.size:=Nat.lt_of_lt_of_le k1 b4.size;have hg4:w.heap.size+1<w3.heap.size:=k1;have s1:w.heap.size≤w1.heap.size:=by omega
 have s2:w.heap.size≤w2.heap.size:=by omega
 have HX:Hid (∀W' now aa am ac,Rd W' (w.heap.size+1) a n c→W4.grownBy W' (some (w.heap.size+1))→RowAt W' w.heap.size 27 z5→DrawEnd w (.returned (.tuple #[v,.agg (sC r m (.slice qa Q.length qc) d x),.int .i64 now,.slice aa am ac])) (res5 W' (.string r) (.bool m) (.slice qa Q.length qc) (.bool d) (.bool x) w.heap.size)):=fun W' now aa am ac _ hg hr=>by
  have hbl:∀k,k<W'.heap.size→k≠w.heap.size→(res5 W' (.string r) (.bool m) (.slice qa Q.length qc) (.bool d) (.bool x) w.heap.size).heap[k]?=W'.heap[k]?:=fun k _ hk=>five_block W' _ _ _ _ _ _ k hk;have hbw:Below w.heap.size W' (res5 W' (.string r) (.bool m) (.slice qa Q.length qc) (.bool d) (.bool x) w.heap.size):=zcd (Below.refl _ _) _ _ _ _ _ _ (Nat.le_refl _);have hg':=zah HG4.out hg;have hbW:Below w.heap.size w W':=⟨hg'.os,hg'.tape,hg'.output,hg'.size,fun k hk=>hg'.block k hk (fun e=>by have:=Option.some.inj e;omega)⟩;exact ⟨v,M,r,m,qa,qc,xs,Q,d,x,now,aa,am,ac,rfl,(dbown_other (HD4.out.grown hg h1) hr (by decide) (by decide) (by decide) (by decide) (by simp [World.setCell]) hbl).le s1,HF.out,hM,own2_le (Own2_other (own2_grown HO4.out hg h2) hr (by decide) (by decide) hbl) s2,HQ.out,hr3,hbW.trans hbw⟩
 obtain ⟨l0,l1,l2,l3,l4⟩:=Fd.five_at r4;have r4l:=r4.lt;have HR8:Hid (RowAt W4 w3.heap.size 27 (sC r m (.slice qa Q.length qc) d x)):=r4;clear ho3 hq3 rd3 g3 hS hW4 g1 g2 g03 rd1 HB0 HR0 b4 r4 HD4 HO4 HF HQ b1 HG4;go_upto_region 4 with fail;rw [HW4.out];clear HW4;generalize w3.heap.size=G at*;have bd:Below W4.heap.size W4 W4.drew:=below_drewN (Below.refl _ _) 1;have rdd:Rd W4.drew (w.heap.size+1) a n c:=HRD4.out.below bd (by omega);generalize DrawEnd w=DE at*
 go_region_with (first
  |(go_at_call 15;refine (zde (w.heap.size+1) a n c 9 W4.drew rdd (by omega) (by omega)).mono ?_;rintro e w5 ⟨now,rfl,hnow,r5,g5⟩;have g45:W4.grownBy w5 (some (w.heap.size+1)):=zah (zcc (grown_refl _ _) bd) g5;have h85:=row_kept HR8.out g45 (by omega);have h45:=row_kept HR4.out g45 (by omega);have hl5:w.heap.size+1<w5.heap.size:=Nat.lt_of_lt_of_le hl4 g5.size;obtain ⟨i0,i1,i2,i3,i4⟩:=Fd.five_at h85)
  |(go_at_call 16;refine (asked_any (w.heap.size+1) a n c w5 r5 hl5).mono ?_;rintro e w6 ⟨ta,tb,tc,cap,ss,rfl,_,_,_,r6,g6,_⟩;have g46:=zah g45 g6;have h86:=row_kept h85 g6 (by omega);have h46:=row_kept h45 g6 (by omega);obtain ⟨j0,j1,j2,j3,j4⟩:=Fd.five_at h86;obtain ⟨m0,m1,m2,m3,m4⟩:=Fd.five_at h46;have f0:=h46.frozen 0;have f1:=h46.frozen 1;have f2:=h46.frozen 2;have f3:=h46.frozen 3;have f4:=h46.frozen 4))
 all_goals
  obtain ⟨g0,g1,g2,g3,g4⟩:=Fd.five_at (five_end h46 (.string r) (.bool m) (.slice qa Q.length qc) (.bool d) (.bool x));have HE:Hid _:=HX.out w6 now ta ss.length cap r6 g46 h46;clear HX r6 g6 g46 h86 h46 h85 h45 g45 g5 r5 HR8 HR4 HRD4 rdd;go_wp2;exact bodyPost_ret (v:= .tuple #[v,.agg (sC r m (.slice qa Q.length qc) d x),.int .i64 now,.slice ta ss.length cap]) (by simp [results,Tryz.results5,go_sem,g0,g1,g2,g3,g4]) rfl HE.out
end Go.Proofs.YtibhabajknikcaaGreatDoor.Er
namespace Go.Proofs.YtibhabajknikcaaGreatDoor.Er
open Go.RowKit Go.Sort
theorem FitsG_small {L:List KV} (h:FitsG (L.map KV.key)):Small L:=fun i hi=>by
 have k:=h _ (List.mem_map.2 ⟨L.getD i kv0,by rw [List.getD_eq_getElem?_getD,List.getElem?_eq_getElem hi];exact List.getElem_mem hi,rfl⟩);exact ⟨⟨k.fit.fit,k.np,k.nums⟩,k.fit.name⟩
def discR (ok m:Bool):List Rp:=if ok=true then (if m=true then rSimple sOK else zcb sNoMulti) else []
theorem disc_reply (ks:List Ke) (r:ByteArray) (m:Bool) (Q:List (List ByteArray)) (d x:Bool) (now:Int):(specAskedM ks ⟨r,m,Q,d,x⟩ now [sDiscard]).2.2=discR ((dbOkB ks&&(Fd.sessB r m Q d x&&timeB now))&&!x) m:=by
 have h1:argsB [sDiscard]=true:=by decide
 have h2:askOkB ks ⟨r,m,Q,d,x⟩ now [sDiscard]=((dbOkB ks&&(Fd.sessB r m Q d x&&timeB now))&&!x):=by
  unfold askOkB;rw [h1];simp
 unfold specAskedM discR;rw [h2];cases ((dbOkB ks&&(Fd.sessB r m Q d x&&timeB now))&&!x) with
 |false=>rfl
 |true=>
  rw [if_pos rfl,if_pos rfl];have h3:nameM (argN [sDiscard] 0)=sDisc:=by decide
  unfold askedM;rw [h3,if_pos (.inr (.inr rfl)),if_neg (by decide),if_neg (by decide)];cases m<;>rfl
theorem living_keep {ks:List Ke} {now:Int} (h:dbOkB ks=true):KeepK (Ri.livingM now ks):=by
 unfold Ri.livingM;rw [if_pos h];have:=dbOk_key h;exact ⟨Nat.le_trans (List.length_filter_le _ _) this.1,fun k hk=>this.2 k (List.mem_filter.1 hk).1⟩
theorem sameDb_keep (B B':Nat) (v v':Value) (L L':List KV) (w:World) (h:DbOwn w B v L) (h':DbOwn w B' v' L') (he:L'.map KV.key=L.map KV.key) (hk:KeepK (L.map KV.key)):
  Calls Tryz.prog 9 #[v,v'] w fun e w'=>e= .returned (.bool true)∧Below w.heap.size w w':=by
 obtain ⟨a,A,c,ev,_,hda⟩:=h.din hk.fits.fits;obtain ⟨a',A',c',ev',_,hda'⟩:=h'.din (by have:=hk.fits;rw [←he] at this;exact this.fits);have hl:L'.length=L.length:=by rw [←List.length_map (f:=KV.key),he,List.length_map]
 subst ev ev';rw [hl] at hda' ⊢;have h20:=hk.1;rw [List.length_map] at h20;exact sameDb_any a a' A A' L.length c c' L L' w hda hda' he (fun i hi=>ksml_of (hk.2 _ (List.mem_map.2 ⟨L.getD i kv0,by rw [List.getD_eq_getElem?_getD,List.getElem?_eq_getElem hi];exact List.getElem_mem hi,rfl⟩))) (by omega)
theorem told_one {w:World} {B:Nat} {v:Value} {k:Int} {s:ByteArray} (h:zbe w B v [⟨k,0,s,[]⟩]):∃g c p pc,v= .slice (some ⟨g,0,none⟩) 1 c∧g<w.heap.size∧w.cell? ⟨g,0,none⟩=some (.int .i64 k)∧w.cell? ⟨g,1,none⟩=some (.int .i64 0)∧w.cell? ⟨g,2,none⟩=some (.string s)∧w.cell? ⟨g,3,none⟩=some (.slice p 0 pc):=by
 obtain ⟨M,e,o,hk⟩:=h;have hl:M.length=1:=by rw [←List.length_map (f:=RV.r),e];rfl
 obtain ⟨x,rfl⟩:=List.length_eq_one_iff.1 hl;obtain ⟨g,c,e1,_,e3,q0,q1,q2,q3⟩:=rp_cells o 0 (by simp);have ex:x.r=⟨k,0,s,[]⟩:=by simpa using e
 obtain ⟨p,_,pc,ek,_⟩:=kid_cells (hk x (by simp));simp only [List.getElem_cons_zero] at q0 q1 q2 q3;rw [ex] at q0 q1 q2 ek;rw [ek] at q3;exact ⟨g,c,p,pc,e1,e3,q0,q1,q2,q3⟩
theorem told_none {w:World} {B:Nat} {v:Value} (h:zbe w B v []):∃a c,v= .slice a 0 c:=by
 obtain ⟨M,e,o,_⟩:=h;obtain ⟨a,c,e2⟩:=zad o;have:M.length=0:=by rw [←List.length_map (f:=RV.r),e];rfl
 exact ⟨a,c,by rw [e2,this]⟩
theorem disc_walk (a:Option Addr) (n c:Nat) (w:World) (hn:n≤9223372036854775807) (hb:BytesIn w a n w.heap.size) (hR:Ready w) (hF:Fd.Ready w) (pa pb:Addr) (hE:Errs w pa pb sNoMulti):
  Calls Tryz.prog 3 #[.slice a n c] w fun e w'=>e= .returned (.bool true)∧Below w.heap.size w w':=by
 have HBG:Hid (Calls Tryz.prog 4 #[.slice a n c] w fun e w'=>e= .returned (.bool (decide (1048576<n)))∧w'=w):=big_any a n c w hn;have HDR:Hid (Calls Tryz.prog 5 #[.slice a n c] w (DrawEnd w)):=draw_any a n c w hn hb;have HR:Hid (Ready w):=hR;have HFR:Hid (Fd.Ready w):=hF;have HER:Hid (Errs w pa pb sNoMulti):=hE;clear hb hR hF hE;go_enter Tryz.func3,Tryz.ntmps3;go_wp2_with fail;refine HBG.out.mono ?_;rintro e w0 ⟨rfl,hw0⟩;subst hw0;clear HBG;by_cases hbig:1048576<n
 ·rw [decide_eq_true hbig];clear HDR HR HFR HER;go_wp2;go_ret;exact ⟨rfl,Below.refl _ _⟩
 rw [decide_eq_false hbig];go_wp2_with fail;refine HDR.out.mono ?_;rintro e w1 ⟨v,L,r,m,qa,qc,xs,Q,d,x,now,aa,am,ac,rfl,hd1,hf1,hl1,ho1,hq1,hr1,b1⟩;clear HDR hn hbig;obtain ⟨va,vA,vc,ev,_,_⟩:=hd1.din hf1.k.fits;subst ev;obtain ⟨W1,hW1,HW1,bb1,r41⟩:=boxed w1 (sC r m (.slice qa Q.length qc) d x) 27;have bw1:Below w0.heap.size w0 W1:=b1.trans (bb1.mono b1.size);obtain ⟨W2,hW2,HW2,bb2,r92⟩:=boxed W1 #[.string sDiscard] 9;have bw2:Below w0.heap.size w0 W2:=bw1.trans (bb2.mono bw1.size);have b12:Below w1.heap.size w1 W2:=bb1.trans (bb2.mono bb1.size);have r42:=r41.below bb2 r41.lt;have HIM:Hid (∀W A,Below w1.heap.size w1 W→RowAt W A 9 #[.string sDiscard]→Calls Tryz.prog 6 #[.slice va L.length vc,.agg (sC r m (.slice qa Q.length qc) d x),.int .i64 now,.slice (some ⟨A,0,none⟩) 1 1] W (AskI W (L.map KV.key) now ((dbOkB (L.map KV.key)&&(Fd.sessB r m Q d x&&timeB now))&&!x) m sNoMulti)):=fun W A hb hA=>by
  have hb0:Below w0.heap.size w0 W:=b1.trans (hb.mono b1.size);obtain ⟨va',vA',vc',ev',_,hda⟩:=(hd1.below hb).din hf1.k.fits;injection ev' with e1 e2 e3;subst e1;subst e3;exact asked_impl va vA' L.length vc L r m _ Q d x now A 1 pa pb sNoMulti W hda (FitsG_small hf1) (by omega) (own2_q (ho1.below hb) (fun T hT t ht=>by have:=(hq1.2 T hT).2.2 t ht;omega)) (qok_sm hq1).small (by omega) (HR.out.below (hb0.mono HR.out.six)) (HFR.out.below (hb0.mono HFR.out.six)) (HER.out.below hb0) (hA.cell 0) hA.lt
 have HSP:Hid (∀W A,Below w1.heap.size w1 W→RowAt W A 9 #[.string sDiscard]→Calls Tryz.prog 7 #[.slice va L.length vc,.agg (sC r m (.slice qa Q.length qc) d x),.int .i64 now,.slice (some ⟨A,0,none⟩) 1 1] W fun e w'=>∃(v' q' rv':Value) (r':ByteArray) (m' d' x':Bool),e= .returned (.tuple #[v',.agg (sC r' m' q' d' x'),rv'])∧(∃qa' qn' qc',q'= .slice qa' qn' qc')∧zbe w' W.heap.size rv' (discR ((dbOkB (L.map KV.key)&&(Fd.sessB r m Q d x&&timeB now))&&!x) m)∧Below W.heap.size W w'):=fun W A hb hA=>by
  have hz:zdg W (some ⟨A,0,none⟩) A 0 1 [sDiscard]:=⟨rfl,fun _=>rfl,fun _=>hA.lt,fun i hi=>by
   obtain rfl:i=0:=by omega
   exact hA.cell 0,fun i hi=>by
   obtain rfl:i=0:=by omega
   decide⟩
  refine (specAsked_any w0.heap.size _ L r m _ Q d x now (some ⟨A,0,none⟩) A 0 1 1 [sDiscard] W (hd1.below hb) hf1.k (by omega) (own2_q (ho1.below hb) (fun T hT t ht=>by have:=(hq1.2 T hT).2.2 t ht;omega)) (qok_sm hq1) (by omega) hz (by omega) (by omega)).mono ?_;rintro e w' ⟨v',q',xs',rv',L',rfl,y1,y2,y3,y4,y5⟩;rw [disc_reply] at y4;exact ⟨v',q',rv',_,_,_,_,rfl,by obtain ⟨p1,p2,p3⟩:=zad y3.outer;exact ⟨_,_,_,p3⟩,y4,y5⟩
 have HAL:Hid (∀W,Below w1.heap.size w1 W→Calls Tryz.prog 10 #[.slice va L.length vc,.int .i64 now] W fun e w'=>∃v' L',e= .returned v'∧DbOwn w' W.heap.size v' L'∧L'.map KV.key=Ri.livingM now (L.map KV.key)∧Below W.heap.size W w'):=fun W hb=>by
  have hb0:Below w0.heap.size w0 W:=b1.trans (hb.mono b1.size);obtain ⟨va',vA',vc',ev',_,hda⟩:=(hd1.below hb).din hf1.k.fits;injection ev' with e1 e2 e3;subst e1;subst e3;exact Ri.alive_any va vA' L.length vc L now W hda (FitsG_small hf1) (by omega) (HR.out.below (hb0.mono HR.out.six))
 have HLK:Hid (((dbOkB (L.map KV.key)&&(Fd.sessB r m Q d x&&timeB now))&&!x)=true→KeepK (Ri.livingM now (L.map KV.key))):=fun h=>by
  simp only [Bool.and_eq_true] at h;exact living_keep h.1.1
 clear hd1 hf1 hl1 ho1 hq1 hr1 HR HFR HER hW1 hW2;generalize ((dbOkB (L.map KV.key)&&(Fd.sessB r m Q d x&&timeB now))&&!x)=ok at*;have HIM2:Hid (Calls Tryz.prog 6 #[.slice va L.length vc,.agg (sC r m (.slice qa Q.length qc) d x),.int .i64 now,.slice (some ⟨W1.heap.size,0,none⟩) 1 1] W2 (AskI W2 (L.map KV.key) now ok m sNoMulti)):=HIM.out W2 W1.heap.size b12 r92;clear HIM;generalize L.map KV.key=ks at*;generalize L.length=nl at*;generalize Q.length=nq at*;obtain ⟨l0,l1,l2,l3,l4⟩:=Fd.five_at r41;go_upto_region 4 with fail;rw [HW1.out];clear HW1;go_wp2_with fail;rw [HW2.out];clear HW2;refine HIM2.out.mono ?_;rintro e w3 ⟨k1,k2,k3,r',m',qa',qn',qc',d',x',rv,rfl,b3,hno,hyes⟩;obtain ⟨W4,hW4,HW4,bb4,r84⟩:=boxed w3 (sC r' m' (.slice qa' qn' qc') d' x') 27;obtain ⟨W5,hW5,HW5,bb5,r95⟩:=boxed W4 #[.string sDiscard] 9;have b24:Below W2.heap.size W2 W4:=b3.trans (bb4.mono b3.size);have b25:Below W2.heap.size W2 W5:=b24.trans (bb5.mono b24.size);have b45:Below W4.heap.size W4 W5:=bb5;have b35:Below w3.heap.size w3 W5:=bb4.trans (bb5.mono bb4.size);have r44:=r42.below b24 r42.lt;have r45:=r42.below b25 r42.lt;have r85:=r84.below bb5 r84.lt;have b15:Below w1.heap.size w1 W5:=b12.trans (b25.mono b12.size);have bw5:Below w0.heap.size w0 W5:=bw2.trans (b25.mono bw2.size);have HSP2:=HSP.out W5 W4.heap.size b15 r95;have HSPH:Hid (Calls Tryz.prog 7 #[.slice va nl vc,.agg (sC r m (.slice qa nq qc) d x),.int .i64 now,.slice (some ⟨W4.heap.size,0,none⟩) 1 1] W5 fun e w'=>∃(v' q' rv':Value) (r':ByteArray) (m' d' x':Bool),e= .returned (.tuple #[v',.agg (sC r' m' q' d' x'),rv'])∧(∃qa' qn' qc',q'= .slice qa' qn' qc')∧zbe w' W5.heap.size rv' (discR ok m)∧Below W5.heap.size W5 w'):=HSP2;clear HSP HSP2 HIM2 l0 l1 l2 l3 l4 hW4 hW5 r41 r42 r92;obtain ⟨l0,l1,l2,l3,l4⟩:=Fd.five_at r44;go_upto_region 5 with fail;rw [HW4.out];clear HW4;go_wp2_with fail;rw [HW5.out];clear HW5;refine HSPH.out.mono ?_;rintro e w6 ⟨v6,q6,rv6,r6,m6,d6,x6,rfl,⟨qa6,qn6,qc6,hq6⟩,hz6,b6⟩;subst hq6;obtain ⟨W7,hW7,HW7,bb7,_⟩:=boxed w6 (sC r6 m6 (.slice qa6 qn6 qc6) d6 x6) 27;have b67:Below W5.heap.size W5 W7:=b6.trans (bb7.mono b6.size);have hz7:=hz6.below bb7;have r47:=r45.below b67 r45.lt;have r87:=r85.below b67 r85.lt;have bw7:Below w0.heap.size w0 W7:=bw5.trans (b67.mono bw5.size);have b17:Below w1.heap.size w1 W7:=b15.trans (b67.mono b15.size);have b37:Below w3.heap.size w3 W7:=b35.trans (b67.mono b35.size);clear HSPH l0 l1 l2 l3 l4 hW7 hz6 r44 r84 r95 r45 r85 b6 bb7 b67 b25 b24 b35 bb4 bb5 b45 b15 bw5;go_upto_region 6 with fail;rw [HW7.out];clear HW7;cases ok with
 |false=>
  obtain rfl:=hno rfl;obtain ⟨a7,c7,e7⟩:=told_none hz7;subst e7;clear hyes hno hz7 HLK HAL r47 r87 b17 b37;go_wp2_with fail;refine (sameNone none a7 0 c7 W7).mono ?_;rintro e w8 ⟨rfl,b8⟩;go_wp2_with fail;refine (sameNone none a7 0 c7 w8).mono ?_;rintro e w9 ⟨rfl,b9⟩;have HF:Hid (Below w0.heap.size w0 w9):=(bw7.trans (b8.mono bw7.size)).trans (b9.mono (Nat.le_trans bw7.size b8.size));clear b8 b9 bw7;go_wp2;go_ret;exact ⟨rfl,HF.out⟩
 |true=>
  obtain ⟨rfl,rfl,⟨L',hd3,hk3⟩,A',rfl,hA1,rA3⟩:=hyes rfl;have hkeep:=HLK.out rfl;have rA7:=rA3.below b37 rA3.lt;have hd7:=hd3.below b37;have c0:=rA7.cell 0;have c1:=rA7.cell 1;have c2:=rA7.cell 2;have c3:=rA7.cell 3;simp only [List.getElem?_toArray,List.getElem?_cons_zero,List.getElem?_cons_succ] at c0 c1 c2 c3;have hone:∃g cc p pc,rv6= .slice (some ⟨g,0,none⟩) 1 cc∧g<W7.heap.size∧W7.cell? ⟨g,0,none⟩=some (.int .i64 (kindD m))∧W7.cell? ⟨g,1,none⟩=some (.int .i64 0)∧W7.cell? ⟨g,2,none⟩=some (.string (textD m sNoMulti))∧W7.cell? ⟨g,3,none⟩=some (.slice p 0 pc):=by
   cases m with
   |true=>exact told_one hz7
   |false=>exact told_one hz7
  obtain ⟨g,cc,p,pc,e7,hg,u0,u1,u2,u3⟩:=hone;subst e7;have HS1:Hid (Calls Tryz.prog 8 #[.slice (some ⟨A',0,none⟩) 1 1,.slice (some ⟨g,0,none⟩) 1 cc] W7 fun e w'=>e= .returned (.bool true)∧Below W7.heap.size W7 w'):=sameOne A' g 1 cc (kindD m) (textD m sNoMulti) none p 0 pc W7 c0 c1 c2 c3 u0 u1 u2 u3;clear hno hyes hz7 u0 u1 u2 u3 hg c1 c2 c3;go_wp2_with fail;refine HS1.out.mono ?_;rintro e w8 ⟨rfl,b8⟩;have r48:=r47.below b8 r47.lt;have r88:=r87.below b8 r87.lt;have rA8:=rA7.below b8 rA7.lt;have hd8:=hd7.below b8;have b18:Below w1.heap.size w1 w8:=b17.trans (b8.mono b17.size);have bw8:Below w0.heap.size w0 w8:=bw7.trans (b8.mono bw7.size);clear HS1 c0 r47 r87 rA7 hd7 hd3 rA3 b17 bw7 b8 b37;have KP:Hid (∀{W:World},Below w8.heap.size w8 W→(W.cell? ⟨w3.heap.size,1,none⟩=some (.bool false)∧W.cell? ⟨w3.heap.size,2,none⟩=some (.slice qa' 0 qc')∧W.cell? ⟨w1.heap.size,1,none⟩=some (.bool m))):=fun hW=>⟨(r88.below hW r88.lt).cell 1,(r88.below hW r88.lt).cell 2,(r48.below hW r48.lt).cell 1⟩;have HAL2:Hid (∀W,Below w8.heap.size w8 W→Calls Tryz.prog 10 #[.slice va nl vc,.int .i64 now] W fun e w'=>∃v' L',e= .returned v'∧DbOwn w' W.heap.size v' L'∧L'.map KV.key=Ri.livingM now ks∧Below W.heap.size W w'):=fun W hW=>HAL.out W (b18.trans (hW.mono b18.size));have HSD:Hid (∀W B v' L2,Below w8.heap.size w8 W→DbOwn W B v' L2→L2.map KV.key=Ri.livingM now ks→Calls Tryz.prog 9 #[.slice k1 k2 k3,v'] W fun e w'=>e= .returned (.bool true)∧Below W.heap.size W w'):=fun W B v' L2 hW hd he=>sameDb_keep _ _ _ _ L' L2 W (hd8.below hW) hd (by rw [he,hk3]) (by rw [hk3];exact hkeep);have HIE:Hid (∀W,Below w8.heap.size w8 W→Calls Tryz.prog 11 #[.slice (some ⟨A',0,none⟩) 1 1] W fun e w'=>e= .returned (.bool (!m))∧w'=W):=fun W hW=>by
   have:=isError_any A' 1 (kindD m) W ((rA8.below hW rA8.lt).cell 0) (by cases m<;>simp [kindD]);cases m<;>exact this
  have HEND:Hid (∀W,Below w8.heap.size w8 W→Below w0.heap.size w0 W):=fun W hW=>bw8.trans (hW.mono bw8.size);have bx:Below w8.heap.size w8 w8.drew:=below_drewN (Below.refl _ _) 1;clear HAL HLK r48 r88 rA8 hd8 b18 bw8 hk3 hkeep b12 bw1 bw2 bb2 bb1 b1 b3 hA1;go_wp2_with fail;go_region_held3 (fun W=>W.cell? ⟨w3.heap.size,1,none⟩=some (.bool false)∧W.cell? ⟨w3.heap.size,2,none⟩=some (.slice qa' 0 qc')∧W.cell? ⟨w1.heap.size,1,none⟩=some (.bool m))
   (first|exact KP.out bx|exact KP.out (bx.alloc bx.size _))
   (first
    |(go_at_call 10;refine (HAL2.out _ bx).mono ?_;rintro e wa ⟨v2,L2,rfl,hd2,hk2,hb2⟩;have HD2:Hid (DbOwn wa w8.drew.heap.size v2 L2):=hd2;have HK2:Hid (L2.map KV.key=Ri.livingM now ks):=hk2;have bx:=bx.trans (hb2.mono bx.size);clear hd2 hk2 hb2)
    |(go_at_call 9;refine (HSD.out _ _ v2 L2 bx HD2.out HK2.out).mono ?_;rintro e wb ⟨rfl,hb3⟩;have bx:=bx.trans (hb3.mono bx.size);clear hb3)
    |(go_at_call 11;refine (HIE.out _ bx).mono ?_;rintro e wc ⟨rfl,rfl⟩))
  all_goals
   have HF:Hid (Below w0.heap.size w0 _):=HEND.out _ bx;clear bx HEND HIE HSD HAL2 KP;cases m;all_goals
     go_wp2;go_ret;exact ⟨rfl,HF.out⟩
end Go.Proofs.YtibhabajknikcaaGreatDoor.Er
