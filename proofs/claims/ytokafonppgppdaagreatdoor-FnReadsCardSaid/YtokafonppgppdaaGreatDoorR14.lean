import Derived.Test.YtokafonppgppdaaGreatDoorR9
import Derived.Test.YtokafonppgppdaaGreatDoorC24
import Derived.Test.YtokafonppgppdaaGreatDoorFRdMath
set_option maxHeartbeats 2000000
set_option maxRecDepth 100000
namespace Go.Proofs.YtokafonppgppdaaGreatDoor.Rb
open Tryz
open _root_.ByteArray (empty)
open Go.RowKit Go.Maps
open Ri (za3 RK UpK zao zbb zlj zi6 zhd kvA z7 zb0 zdv zcp zez)
variable {ks:List Ke} {y:KV} {w w' w1 w2:World} {B g b n ab ao ac i:Nat} {L M:List KV} {now:Int} {aa:Option Addr} {T:List ByteArray} {A:Addr} {t:ByteArray} {D:DataW Value} {ad:Nat->Addr} {R:List Rp} {r:Value}
theorem zgw (a b:ByteArray):Op.bytesLess a.toList b.toList=bytesBefore a.data.toList b.data.toList:=by
 rw [Ri.zfd,ByteArray.toList_eq,ByteArray.toList_eq]
theorem zce (ks:List Ke):zan ks=true↔ks.length<=20/\UpK ks/\∀k∈ks,zfo k=true:=by
 constructor
 ·intro h;have hu:=Ri.zh5 h;unfold zan at h;rw [Qh,Qh,Qw,Qw] at h;refine ⟨Qg h.1,hu,fun k hk=>?_⟩;obtain ⟨i,hi,rfl⟩:=List.getElem_of_mem hk;have:=h.2.2 i (List.mem_range.2 hi);rwa [Qa,Qd hi] at this
 ·rintro ⟨h1,h2,h3⟩;unfold zan;rw [Qh,Qh,Qw,Qw];refine ⟨Qe h1,fun i hi=>?_,fun i hi=>?_⟩
  ·have hi:=List.mem_range.1 hi;unfold riK;rw [Bool.or_eq_true];by_cases h0:i=0
   ·exact .inl (Qe h0)
   ·refine .inr ?_;rw [zgw];unfold UpK at h2;rw [List.pairwise_iff_getElem] at h2;have:=h2 (i-1) i (by omega) hi (by omega);rwa [Qa,Qa,Qd hi,Qd (by omega:i-1<ks.length)]
  ·have hi:=List.mem_range.1 hi;rw [Qa,Qd hi];exact h3 _ (Qv hi)
theorem zu7 (k:Ke):∀ks:List Ke,k∈zi6 k ks
 | []=>by simp [zi6]
 |x::r=>by
  unfold zi6;split
  ·simp
  ·simp [zu7 k r]
theorem zhg (k:Ke) (hu:UpK ks):zaq ks k=zi6 k (zbl ks k.name):=by
 unfold zaq stS;rw [Ri.zoz k ks [] hu];rfl
theorem zrv {k:Ke} {s:ByteArray} (h:k∈zbl ks s):k∈ks/\k.name≠s:=by
 obtain ⟨h1,h2⟩:=List.mem_filter.1 h;exact ⟨h1,by simpa using h2⟩
theorem zix (h:zan ks=true) (s:ByteArray):zan (zbl ks s)=true:=by
 rw [zce] at h ⊢;refine ⟨Qj (Qt _ _) h.1,h.2.1.sublist List.filter_sublist,fun k hk=>h.2.2 k (zrv hk).1⟩
theorem zfm (h:zan ks=true) (k:Ke):zan (zaq ks k)=(zfo k&&decide ((zaq ks k).length<=20)):=by
 have hu:=Ri.zh5 h;have hg:=zix h k.name;rw [zce] at hg;rw [Bool.eq_iff_iff,zce,Qh,decide_eq_true_iff];constructor
 ·rintro ⟨h1,-,h3⟩;exact ⟨h3 k (by rw [zhg k hu];exact zu7 k _),h1⟩
 ·rintro ⟨h1,h2⟩;refine ⟨h2,?_,fun z hz=>?_⟩
  ·rw [zhg k hu];exact Ri.ztt k _ hg.2.1 fun x hx=> (zrv hx).2
  ·rw [zhg k hu] at hz;rcases Ri.zo8 hz with rfl|hz
   ·exact h1
   ·exact hg.2.2 z hz
def zw7 (x y:KV):Prop:=(∀g,x.vi.ownBlock=some g->y.vi.ownBlock≠some g)/\(∀g,x.vp.ownBlock=some g->y.vp.ownBlock≠some g)/\(∀g,x.vr.ownBlock=some g->y.vr.ownBlock≠some g)
theorem zw7.symm {x:KV} (h:zw7 x y):zw7 y x:=
 ⟨fun g h1 h2=>h.1 g h2 h1,fun g h1 h2=>h.2.1 g h2 h1,fun g h1 h2=>h.2.2 g h2 h1⟩
structure zkf (w:World) (B:Nat) (L:List KV):Prop where
 own:∀x∈L,VOwn w B x.key.val x.vi x.vp x.vr
 ap:L.Pairwise zw7
theorem zkf.bw (h:zkf w B L) (hb:Bl w w'):zkf w' B L:=
 ⟨fun x hx=> (h.own x hx).bw hb,h.ap⟩
theorem zkf.gone (h:zkf w B L) (s:ByteArray):zkf w B (zbb L s):=
 ⟨fun x hx=>h.own x (List.mem_filter.1 hx).1,h.ap.sublist List.filter_sublist⟩
theorem zo6 {z:KV}:∀{L:List KV},z∈zlj y L->z=y\/z∈L
 | [],h=>Or.inl (by simpa [zlj] using h)
 |x::r,h=>by
  unfold zlj at h;split at h
  ·rcases List.mem_cons.1 h with h|h
   ·exact Or.inl h
   ·exact Or.inr h
  ·rcases List.mem_cons.1 h with h|h
   ·exact Or.inr (by rw [h];simp)
   ·rcases zo6 h with h|h
    ·exact Or.inl h
    ·exact Or.inr (by simp [h])
theorem ybr (y:KV):∀L:List KV,L.Pairwise zw7->(∀x∈L,zw7 y x)->(zlj y L).Pairwise zw7
 | [],_,_=>by simp [zlj]
 |x::r,hp,hy=>by
  have hp':=List.pairwise_cons.1 hp;unfold zlj;split
  ·exact List.pairwise_cons.2 ⟨hy,hp⟩
  ·refine List.pairwise_cons.2 ⟨fun z hz=>?_,ybr y r hp'.2 fun z hz=>hy z (by simp [hz])⟩;rcases zo6 hz with rfl|hz
   ·exact (hy x (by simp)).symm
   ·exact hp'.1 z hz
theorem zkf.put (h:zkf w B (zbb L y.key.name)) (hy:VOwn w B y.key.val y.vi y.vp y.vr) (ha:∀x∈zbb L y.key.name,zw7 y x):zkf w B (zhd L y):=by
 refine ⟨fun x hx=>?_,ybr y _ h.ap ha⟩;rcases zo6 hx with rfl|hx
 ·exact hy
 ·exact h.own x hx
theorem zkf.kept (h:zkf w B L) (hk:∀g e C,e≠47->zab w g e C->w'.heap[g]?=w.heap[g]?):zkf w' B L:=
 ⟨fun x hx=>zgf (h.own x hx) hk,h.ap⟩
theorem zkf.rising {N:Nat} {β:Nat->Nat} (h:Rising w B L N β):zkf w B L:=by
 constructor
 ·intro x hx;obtain ⟨i,hi,rfl⟩:=List.getElem_of_mem hx;have h1:=h.own i hi;have h2:=h.low i (by omega);rw [Qa,Qd hi] at h1;exact ⟨zbn h1.ia h2,zbn h1.pj h2,zbn h1.rq h2⟩
 ·rw [List.pairwise_iff_getElem];intro i j hi hj hij;have hm:=h.mono (i+1) j (by omega) (by omega);have h1:=h.lt1 i hi;have h2:=h.lt2 i hi;have h3:=h.lt3 i hi;have ho:=h.own j hj;rw [Qa,Qd hi] at h1 h2 h3;rw [Qa,Qd hj] at ho;refine ⟨fun g a b=>?_,fun g a b=>?_,fun g a b=>?_⟩
  ·have:=(zaz ho.ia b).1;have:=h1 g a;omega
  ·have:=(zaz ho.pj b).1;have:=h2 g a;omega
  ·have:=(zaz ho.rq b).1;have:=h3 g a;omega
structure zcr (w:World) (B g b n:Nat) (now:Int) (aa:Option Addr) (ab ao ac:Nat) (L M:List KV) (T:List ByteArray):Prop where
 call:zc2 w g b n now aa ab ao ac L T
 vals:zkf w B M
 lg:B<=g
 lb:B<=b
 la:0<T.length->ab<B
 n25:22<=B
 le:B<=w.heap.size
theorem zcr.bw (h:zcr w B g b n now aa ab ao ac L M T) (hb:Bl w w'):zcr w' B g b n now aa ab ao ac L M T:=
 ⟨h.call.bw hb,h.vals.bw hb,h.lg,h.lb,h.la,h.n25,Qj h.le hb.size⟩
theorem zcr.gone (h:zcr w B g b n now aa ab ao ac L M T) (s:ByteArray):zcr w B g b n now aa ab ao ac L (zbb M s) T:=
 ⟨h.call,h.vals.gone s,h.lg,h.lb,h.la,h.n25,h.le⟩
abbrev gi (i:Nat):Nat:=[2,7,0,0,0,0,1,0,0,5,6,11,12].getD i 0
structure zna (w:World) (i:Nat) (A:Addr) (t:ByteArray):Prop where
 v:w.cell? ⟨gi i,0,none⟩=some (.iface 307 (.pointer (some A)))
 t:w.cell? A=some (.string t)
 li:gi i<22
 row:∃C T,w.heap[A.block]?=some (.cells C T (0,0))
theorem zna.low (h:zna w i A t):A.block<w.heap.size:=by
 obtain ⟨C,T,e⟩:=h.row;exact (Array.getElem?_eq_some_iff.1 e).1
theorem zna.bw (h:zna w i A t) (hb:Below B w w') (hB:22<=B) (hA:A.block<B):zna w' i A t:=by
 obtain ⟨C,T,e⟩:=h.row;exact ⟨(hb.cell (p:=⟨gi i,0,none⟩) (by have:=h.li;show gi i<B;omega)).trans h.v,(hb.cell hA).trans h.t,h.li,C,T,(hb.block _ hA).trans e⟩
theorem zqx {a:Option Addr} {off:Nat} {ss:List ByteArray} (h:zdg w a b off n ss) (hb:Below B w w') (hl:0<n->b<B):zdg w' a b off n ss:=
 ⟨h.len,h.addr,fun h0=>by have:=h.low h0;have:=hb.size;omega,fun i hi=> (hb.cell (p:=⟨b,off+i,none⟩) (hl (by omega))).trans (h.cell i hi),h.fit⟩
theorem zl3 {T:TypeId} {C:Array Value} (h:w.ownsMap prog 9 RK b n D) (hr:zab w g T C):g≠b:=fun e=>by
 subst e;obtain ⟨es,clock,hb,_⟩:=h;have:=hr.symm.trans hb;cases this
theorem zfy (hg:w.grownBy w' (some b)) (hB:B<=b) (hl:B<=w.heap.size):Below B w w':=
 ⟨hg.os,hg.tape,hg.output,hg.size,fun j hj=>hg.block j (by omega) (fun e=>by cases e;omega)⟩
theorem zgb (h:w.ownsMap prog 9 RK b n D) (hg:w.grownBy w' (some b)):∀g e C,e≠47->zab w g e C->w'.heap[g]?=w.heap[g]?:=
 fun g e C _ hC=>hg.block g hC.lt (fun eq=>zl3 h hC (by cases eq;rfl))
theorem zcr.turned {n':Nat} {L' M':List KV} (h:zcr w B g b n now aa ab ao ac L M T) (hg:w.grownBy w' (some b)) (ho:w'.ownsMap prog 9 RK b n' (za3 L')) (hu:UpK (L'.map KV.key)) (hv:zkf w' B M'):zcr w' B g b n' now aa ab ao ac L' M' T/\Below B w w':=by
 have hb:=zfy hg h.lb h.le;have hrow:=(hg.block g h.call.row.lt (fun eq=>zl3 h.call.ring h.call.row (by cases eq;rfl))).trans h.call.row;exact ⟨⟨⟨hrow,ho,hu,zqx h.call.args hb h.la⟩,hv,h.lg,h.lb,h.la,h.n25,Qj h.le hb.size⟩,hb⟩
theorem zgd (B g b n:Nat) (now:Int) (aa:Option Addr) (ab ao ac:Nat) (L:List KV) (T:List ByteArray) (w:World) (y:KV) (h:zcr w B g b n now aa ab ao ac L (zbb L y.key.name) T) (hy:VOwn w B y.key.val y.vi y.vp y.vr) (ha:∀x∈zbb L y.key.name,zw7 y x) (hs:KSm y.key.val) (hnm:y.key.name.size<=1048576) (hn:n<=1000) (hR:Ready w) (he:zna w 1 A ze8) (hA:A.block<B):
  Calls prog 240 #[.pointer (some ⟨g,0,none⟩),kvA y] w fun e w'=>e= .returned (if (zfo y.key&&decide ((zhd L y).length<=20))=true then .nilIface else .iface 307 (.pointer (some A)))/\zcr w' B g b (n+1) now aa ab ao ac (zhd L y) (zhd L y) T/\w.grownBy w' (some b):=by
 have hmx:(1048576:Nat)<=maxLen:=by unfold maxLen;omega
 obtain ⟨a1,k1,e1⟩:=zad hy.ia;obtain ⟨a2,k2,e2⟩:=zad hy.pj;obtain ⟨a3,k3,e3⟩:=zad hy.rq;obtain ⟨W0,hW0,HW0,b0,r0⟩:=boxed w (kC y.key.name y.key.val.kind y.key.val.text y.vi y.vp y.vr y.key.due) 47;have q0:w.heap.size<W0.heap.size:=by rw [<-hW0];simp
 have h0:=h.bw b0;have hr0:=h0.call.ring.drew;obtain ⟨W1,hrun,ho,ht⟩:=Ri.zsf hr0 y e1 e2 e3 (by omega) (by unfold maxLen;omega);have hg:W0.grownBy W1 (some b):=by
  have:=ht.grown;exact ⟨this.os,this.tape,this.output,this.size,this.block⟩
 have hk:=zgb h0.call.ring hg;have hv1:=(h0.vals.kept hk).put (zgf (hy.bw b0) hk) ha;obtain ⟨hw1,bw1⟩:=h0.turned hg ho (zez y h.call.up) hv1;have bb1:=(b0.mono h.le).trans bw1;have r1:zab W1 w.heap.size 47 (kC y.key.name y.key.val.kind y.key.val.text y.vi y.vp y.vr y.key.due):=(hg.block _ q0 (fun eq=>zl3 h0.call.ring r0 (by cases eq;rfl))).trans r0;have gg1:w.grownBy W1 (some b):=⟨hg.os.trans b0.os,hg.tape.trans b0.tape,hg.output.trans b0.output,Qj b0.size hg.size,fun k hk hne=> (hg.block k (by omega) hne).trans (b0.block k hk)⟩;have HK:Hid (Cp 61 #[.agg #[.string y.key.name,.int .i64 y.key.val.kind,.string y.key.val.text,y.vi,y.vp,y.vr,.int .i64 y.key.due]] W1 fun e w'=>e= .returned (.bool (!zfo y.key))/\Bl W1 w'):=zjq y B W1 (zgf (hy.bw b0) hk) hs hnm (hR.bw (bb1.mono h.n25));have hE1:=(he.bw bb1 h.n25 hA).v;have HF:Hid (∀w2,Bl W1 w2->zcr w2 B g b (n+1) now aa ab ao ac (zhd L y) (zhd L y) T/\w.grownBy w2 (some b)):=fun w2 b2=>
  ⟨hw1.bw b2,b2.os.trans gg1.os,b2.tape.trans gg1.tape,b2.output.trans gg1.output,Qj gg1.size b2.size,fun k hk hne=> (b2.block k (Qr hk gg1.size)).trans (gg1.block k hk hne)⟩
 have HO:Hid (∀w2,Bl W1 w2->w2.ownsMap prog 9 RK b (n+1) (za3 (zhd L y))/\w2.cell? ⟨g,0,none⟩=some (.map (some b))/\w2.cell? ⟨7,0,none⟩=some (.iface 307 (.pointer (some A)))):=fun w2 b2=>
  ⟨(hw1.bw b2).call.ring,(hw1.bw b2).call.c0,(b2.cell (p:=⟨7,0,none⟩) (by have:=hw1.le;have:=h.n25;show 7<W1.heap.size;omega)).trans hE1⟩
 have HS:Hid (Maps.size (za3 (zhd L y))=(zhd L y).length):=by unfold Hid;simp [za3,Maps.size]
 have g0:=h0.call.c0;have d0:=r0.cell 0;have d1:=r0.cell 1;have d2:=r0.cell 2;have d3:=r0.cell 3;have d4:=r0.cell 4;have d5:=r0.cell 5;have d6:=r0.cell 6;have u0:=r1.cell 0;have u1:=r1.cell 1;have u2:=r1.cell 2;have u3:=r1.cell 3;have u4:=r1.cell 4;have u5:=r1.cell 5;have u6:=r1.cell 6;simp only [Qm,Qk,Ql] at d0 d1 d2 d3 d4 d5 d6 u0 u1 u2 u3 u4 u5 u6;unfold kvA;unfold kvA at hrun;rw [e1,e2,e3] at hrun HK HW0 ⊢;rw [e1] at d3 u3;rw [e2] at d4 u4;rw [e3] at d5 u5;obtain ⟨ev,hev⟩:∃ev,(if (zfo y.key&&decide ((zhd L y).length<=20))=true then Value.nilIface else .iface 307 (.pointer (some A)))=ev:=⟨_,rfl⟩;have HV:=hid hev;rw [hev];clear h h0 hr0 ho ht hg hk hv1 hw1 bw1 bb1 r1 r0 gg1 hy ha hs hnm hn hR he hA hE1 hev e1 e2 e3 b0 q0 hmx hW0;go_enter func240,ntmps240;go_upto_region 1 with fail;rw [HW0.out];clear HW0;go_region;clear hrun d0 d1 d2 d3 d4 d5 d6 g0;generalize hkb:zfo y.key=kb at*;cases kb with
 |false=>
  go_wp2_with fail;refine HK.out.mono ?_;rintro e w2 ⟨rfl,b2⟩;have HG:=hid (HF.out w2 b2);obtain ⟨-,-,p3⟩:=HO.out w2 b2;obtain rfl:_=ev:=HV.out;clear HK HF HO HS b2 u0 u1 u2 u3 u4 u5 u6 HV;go_wp2;go_ret;exact ⟨rfl,HG.out⟩
 |true=>
  by_cases hl:(zhd L y).length<=20
  ·have hl2:decide ((20:Int)<((zhd L y).length:Int))=false:=by exact Qf (by omega)
   obtain rfl:Value.nilIface=ev:=by have:=HV.out;rwa [Qe hl,Bool.and_true,if_pos rfl] at this
   clear HV;go_wp2_with fail;refine HK.out.mono ?_;rintro e w2 ⟨rfl,b2⟩;have HG:=hid (HF.out w2 b2);obtain ⟨p1,p2,p3⟩:=HO.out w2 b2;have hlen:=Ri.zie p1;clear HK HF HO b2 u0 u1 u2 u3 u4 u5 u6 p1;go_wp2;go_ret;exact ⟨rfl,HG.out⟩
  ·have hl2:decide ((20:Int)<((zhd L y).length:Int))=true:=by exact Qe (by omega)
   obtain rfl:Value.iface 307 (.pointer (some A))=ev:=by have:=HV.out;rwa [Qf hl,Bool.and_false,if_neg (by simp)] at this
   clear HV;go_wp2_with fail;refine HK.out.mono ?_;rintro e w2 ⟨rfl,b2⟩;have HG:=hid (HF.out w2 b2);obtain ⟨p1,p2,p3⟩:=HO.out w2 b2;have hlen:=Ri.zie p1;clear HK HF HO b2 u0 u1 u2 u3 u4 u5 u6 p1;go_wp2;go_ret;exact ⟨rfl,HG.out⟩
def zem (L:List KV) (y:KV):Bool:=zdm y.key||(zfo y.key&&decide ((zhd L y).length<=20))
def zvu (L:List KV) (y:KV):List KV:=if zdm y.key=true then zbb L y.key.name else zhd L y
def zc9 (A:Addr) (ok:Bool):Value:=if ok=true then .nilIface else .iface 307 (.pointer (some A))
theorem zzd (h:zan (L.map KV.key)=true) (y:KV) (R:List Rp):za1 (L.map KV.key) y.key R=if zem L y=true then ((zvu L y).map KV.key,R) else (L.map KV.key,zcb ze8):=by
 unfold za1 zem zvu;cases zdm y.key with
 |true=>simp [zb0]
 |false=>
  have hu:=Ri.zh5 h;rw [zfm h,<-zdv L y hu,Qp];simp
def zas (w:World) (B g b n:Nat) (now:Int) (aa:Option Addr) (ab ao ac:Nat) (L:List KV) (T:List ByteArray) (A:Addr) (y:KV) (e:Ending) (w':World):Prop:=
 e= .returned (zc9 A (zem L y))/\(∃n',n'<=n+1/\zcr w' B g b n' now aa ab ao ac (zvu L y) (zvu L y) T)/\w.grownBy w' (some b)
section
variable (v:Value) (w:World)
theorem zxo:(Go.method 482 231 v "loop.example/g00302/impl.texts").run prog w= .ok (369,v) w:=by kernel_rfl
theorem zsg:(Go.method 482 232 v "loop.example/g00302/impl.texts").run prog w= .ok (371,v) w:=by kernel_rfl
theorem zts:(Go.method 482 233 v "loop.example/g00302/impl.texts").run prog w= .ok (253,v) w:=by kernel_rfl
theorem zr6:(Go.method 482 234 v "loop.example/g00302/impl.texts").run prog w= .ok (303,v) w:=by kernel_rfl
end
theorem zd4 (b1:Bl w w1) (g2:w1.grownBy w2 (some b)):w.grownBy w2 (some b):=
 ⟨g2.os.trans b1.os,g2.tape.trans b1.tape,g2.output.trans b1.output,Qj b1.size g2.size,fun k hk hne=> (g2.block k (Qr hk b1.size) hne).trans (b1.block k hk)⟩
theorem zxp (t:ByteArray) (w:World):Calls prog 369 #[.string t] w fun e w'=>e= .returned (.slice (some ⟨w.heap.size,0,none⟩) 1 1)/\Bl w w':=by
 have hb:Bl w (w.alloc (.cells #[.string t] 9)):=(Qb _ w).alloc (Qc _) _;go_enter func369,ntmps369;go_wp2;go_ret;exact ⟨rfl,hb⟩
def zb2 (L:List KV) (nm t:ByteArray):KV:=⟨⟨nm,⟨1,t,[],[],[]⟩,(zak L nm).key.due⟩,.slice none 0 0,.slice none 0 0,.slice none 0 0⟩
theorem zok (a k t i p r d:Value) (w:World):(Instr.field 47 (.agg #[a,k,t,i,p,r,d]) 2).run prog w= .ok d w:=by
 simp [go_sem,Instr.field,asAgg]
theorem zyd (w:World) (B:Nat) (k:Int) (t:ByteArray):VOwn w B ⟨k,t,[],[],[]⟩ (.slice none 0 0) (.slice none 0 0) (.slice none 0 0):=
 ⟨World.ownsRow_nil _ _ _ _,World.ownsRow_nil _ _ _ _,World.ownsRow_nil _ _ _ _⟩
theorem yai {k:Int} (ht:t.size<=1048576):KSm ⟨k,t,[],[],[]⟩:=
 ⟨⟨ht,by simp,by simp,by simp⟩,by simp,fun x hx=>by simp at hx⟩
theorem yfb (k:Ke) (x:KV):zw7 ⟨k,.slice none 0 0,.slice none 0 0,.slice none 0 0⟩ x:=
 ⟨fun g e=> (by cases e),fun g e=> (by cases e),fun g e=> (by cases e)⟩
theorem zcr.look1 (h:zcr w B g b n now aa ab ao ac L M T) (nm:ByteArray) (hs:nm.size<=1048576):
  ∃a1 n1 k1 a2 n2 k2 a3 n3 k3,(zak L nm).vi= .slice a1 n1 k1/\(zak L nm).vp= .slice a2 n2 k2/\(zak L nm).vr= .slice a3 n3 k3/\∀V,Bl w V->V.cell? ⟨g,0,none⟩=some (.map (some b))/\(Instr.lookup 70 (.map (some b)) (.string nm) false).run prog V= .ok (.agg #[.string (zak L nm).key.name,.int .i64 (zak L nm).key.val.kind,.string (zak L nm).key.val.text,.slice a1 n1 k1,.slice a2 n2 k2,.slice a3 n3 k3,.int .i64 (zak L nm).key.due]) V:=by
 have hmx:(1048576:Nat)<=maxLen:=by unfold maxLen;omega
 obtain ⟨a1,n1,k1,a2,n2,k2,a3,n3,k3,e1,e2,e3⟩:=zb7 h.call.ring nm (by omega);refine ⟨a1,n1,k1,a2,n2,k2,a3,n3,k3,e1,e2,e3,fun V hb=>?_⟩;have hc:=(h.bw hb).call;have hk:(Instr.lookup 70 (.map (some b)) (.string nm) false).run prog V= .ok (kvA (zak L nm)) V:=by
  rw [<-zop];exact Ri.zmc hc.ring nm (by omega)
 refine ⟨hc.c0,?_⟩;unfold kvA kC at hk;rwa [e1,e2,e3] at hk
theorem zns (B g b n:Nat) (now:Int) (aa:Option Addr) (ab ao ac:Nat) (L:List KV) (T:List ByteArray) (w:World) (t:ByteArray) (h:zcr w B g b n now aa ab ao ac L (zbb L (T.getD 0 empty)) T) (hT:0<T.length) (hnm:(T.getD 0 empty).size<=1048576) (ht:t.size<=1048576) (hn:n<=1000) (hR:Ready w) (he:zna w 1 A ze8) (hA:A.block<B):
  Calls prog 244 #[.pointer (some ⟨g,0,none⟩),.iface 231 (.string t)] w (zas w B g b n now aa ab ao ac L T A (zb2 L (T.getD 0 empty) t)):=by
 have hmx:(1048576:Nat)<=maxLen:=by unfold maxLen;omega
 have HX:=hid fun W=>zxp t W;have HV:=hid fun W=>zgv t W;have HS:Hid (∀W,Bl w W->Cp 240 #[.pointer (some ⟨g,0,none⟩),kvA (zb2 L (T.getD 0 empty) t)] W fun e w'=>e= .returned (zc9 A (zem L (zb2 L (T.getD 0 empty) t)))/\zas w B g b n now aa ab ao ac L T A (zb2 L (T.getD 0 empty) t) e w'):=fun W hb=>by
  refine (zgd B g b n now aa ab ao ac L T W (zb2 L (T.getD 0 empty) t) (h.bw hb) (zyd _ _ _ _) (fun x _=>yfb _ _) (yai ht) hnm hn (hR.bw (hb.mono (Qj h.n25 h.le))) (he.bw (hb.mono h.le) h.n25 hA) hA).mono ?_;rintro e w' ⟨rfl,hw,hg⟩;refine (fun h=>⟨h.1,h⟩:zas w B g b n now aa ab ao ac L T A (zb2 L (T.getD 0 empty) t) _ w'->_) ⟨?_,⟨n+1,Qc _,?_⟩,zd4 hb hg⟩
  ·unfold zc9 zem;rw [show zdm (zb2 L (T.getD 0 empty) t).key=false by unfold zdm zb2;simp,Bool.false_or]
  ·unfold zvu;rw [show zdm (zb2 L (T.getD 0 empty) t).key=false by unfold zdm zb2;simp,if_neg (by simp)];exact hw
 obtain ⟨a1,n1,k1,a2,n2,k2,a3,n3,k3,e1,e2,e3,hlk⟩:=h.look1 (T.getD 0 empty) hnm;have HL:=hid hlk;have h2:=h.call.c2;have c0:=h.call.args.cell 0 hT;obtain rfl:=h.call.args.addr hT;rw [Qy] at c0;have hm0:(0:Int)<(T.length:Int):=by omega
 have mT:=zxo;generalize hM:zas w B g b n now (some ⟨ab,ao,none⟩) ab ao ac L T A (zb2 L (T.getD 0 empty) t)=M at*;clear hM h e1 e2 e3 he hR hA hn hlk hnm ht hmx;generalize zc9 A (zem L (zb2 L (T.getD 0 empty) t))=ev at*;unfold kvA kC zb2 at HS;dsimp only at HS;generalize T.getD 0 empty=nm,T.length=m at*;generalize (zak L nm).key=x at*;have hf:=zok (.string x.name) (.int .i64 x.val.kind) (.string x.val.text) (.slice a1 n1 k1) (.slice a2 n2 k2) (.slice a3 n3 k3) (.int .i64 x.due);go_enter func244,ntmps244;go_wp2_with fail;refine (HX.out _).mono ?_;rintro e w1 ⟨rfl,b1⟩;have HB:=hid b1;clear b1 HX;obtain ⟨q0,q1⟩:=HL.out w1.drew (below_drewN HB.out 1);go_upto_region 5 with fail;go_region_with
  (first
   |(go_at_call 214;refine (HV.out _).mono ?_;rintro e w2 ⟨rfl,b2⟩;have hb5:=(below_drewN HB.out 1).trans (b2.mono HB.out.size);obtain ⟨p0,p1⟩:=HL.out w2 hb5)
   |(go_at_call 240;refine (HS.out _ hb5).mono ?_;rintro e w3 ⟨rfl,hw3⟩))
 all_goals
  have HW:Hid _:=hw3;clear hw3;go_wp2;go_ret;exact HW.out
theorem zst (a:Option Addr) (n c:Nat) (w:World):Calls prog 371 #[.slice a n c] w fun e w'=>e= .returned (.slice a n c)/\Bl w w':=by
 have hb:=Qb w.heap.size w;go_enter func371,ntmps371;go_wp2;go_ret;exact ⟨rfl,hb⟩
theorem zed:∀is:List Pr,(zco is).length=2*is.length
 | []=>rfl
 |p::r=>by
  have ih:=zed r;unfold zco at ih ⊢;rw [List.flatMap_cons,Qi,ih];simp;omega
theorem zit:∀is:List Kk.Rk,(Kk.zd7 is).length=2*is.length
 | []=>rfl
 |p::r=>by
  have ih:=zit r;unfold Kk.zd7 at ih ⊢;rw [List.flatMap_cons,Qi,ih];simp [Kk.zju];omega
def zdx (L:List KV) (nm:ByteArray) (v:Value) (is:List ByteArray):KV:=⟨⟨nm,⟨2,⟨#[]⟩,is,[],[]⟩,(zak L nm).key.due⟩,v,.slice none 0 0,.slice none 0 0⟩
def ze1 (L:List KV) (nm:ByteArray) (v:Value) (is:List Pr):KV:=⟨⟨nm,⟨3,⟨#[]⟩,[],is,[]⟩,(zak L nm).key.due⟩,.slice none 0 0,v,.slice none 0 0⟩
def zex (L:List KV) (nm:ByteArray) (v:Value) (is:List Kk.Rk):KV:=⟨⟨nm,⟨4,⟨#[]⟩,[],[],is⟩,(zak L nm).key.due⟩,.slice none 0 0,.slice none 0 0,v⟩
theorem zlr (b1:Bl w w1) (ht:w1.mapTurned w2 b):w.grownBy w2 (some b):=zd4 b1 ht.grown
section
variable (B g b n:Nat) (now:Int) (aa:Option Addr) (ab ao ac:Nat) (L:List KV) (T:List ByteArray) (w:World) (a:Option Addr) (c:Nat)
theorem zk1 (is:List ByteArray) (h:zcr w B g b n now aa ab ao ac L (zbb L (T.getD 0 empty)) T) (hv:zcx w B (.slice a is.length c) is) (hap:∀x∈zbb L (T.getD 0 empty),∀g,(Value.slice a is.length c).ownBlock=some g->x.vi.ownBlock≠some g) (hT:0<T.length) (hnm:(T.getD 0 empty).size<=1048576) (hlen:is.length<=524288) (hn:n<=1000) (hR:Ready w) (he:zna w 1 A ze8) (hA:A.block<B):
  Calls prog 244 #[.pointer (some ⟨g,0,none⟩),.iface 232 (.slice a is.length c)] w (zas w B g b n now aa ab ao ac L T A (zdx L (T.getD 0 empty) (.slice a is.length c) is)):=by
 have hmx:(1048576:Nat)<=maxLen:=by unfold maxLen;omega
 have HX:=hid fun W (_:Bl w W)=>zst a is.length c W;have HV:=hid fun W=>zij a is.length c W;have hem:zdm (zdx L (T.getD 0 empty) (.slice a is.length c) is).key=decide (is.length=0):=by unfold zdm zdx;simp
 have HS:Hid (∀W,is.length≠0->Bl w W->Cp 240 #[.pointer (some ⟨g,0,none⟩),kvA (zdx L (T.getD 0 empty) (.slice a is.length c) is)] W fun e w'=>e= .returned (zc9 A (zem L (zdx L (T.getD 0 empty) (.slice a is.length c) is)))/\zas w B g b n now aa ab ao ac L T A (zdx L (T.getD 0 empty) (.slice a is.length c) is) e w'):=fun W hne hb=>by
  refine (zgd B g b n now aa ab ao ac L T W (zdx L (T.getD 0 empty) (.slice a is.length c) is) (h.bw hb) ⟨zaf hv hb,World.ownsRow_nil _ _ _ _,World.ownsRow_nil _ _ _ _⟩ (fun x hx=>⟨fun g e=>hap x hx g e,fun g e=> (by cases e),fun g e=> (by cases e)⟩) ⟨⟨by show (0:Nat)<=_;omega,hlen,by show (0:Nat)<=_;omega,by show (0:Nat)<=_;omega⟩,by show (0:Nat)<=_;omega,fun x hx=>absurd hx (List.not_mem_nil)⟩ hnm hn (hR.bw (hb.mono (Qj h.n25 h.le))) (he.bw (hb.mono h.le) h.n25 hA) hA).mono ?_;rintro e w' ⟨rfl,hw,hg⟩;rw [Qf hne] at hem;refine (fun h=>⟨h.1,h⟩:zas w B g b n now aa ab ao ac L T A (zdx L (T.getD 0 empty) (.slice a is.length c) is) _ w'->_) ⟨?_,⟨n+1,Qc _,?_⟩,zd4 hb hg⟩
  ·unfold zc9 zem;rw [hem,Bool.false_or]
  ·unfold zvu;rw [hem,if_neg (by simp)];exact hw
 have HD:Hid (∀W W',is.length=0->Bl w W->W'.ownsMap prog 9 RK b n ((za3 L).del (.string (T.getD 0 empty).data.toList))->W.mapTurned W' b->zas w B g b n now aa ab ao ac L T A (zdx L (T.getD 0 empty) (.slice a is.length c) is) (.returned .nilIface) W'):=fun W W' he0 hb ho ht=>by
  rw [Ri.zhb] at ho;rw [Qe he0] at hem;have hw:=(h.bw hb);have hk:=zgb hw.call.ring ht.grown;obtain ⟨hw1,-⟩:=hw.turned ht.grown ho (zcp _ h.call.up) (hw.vals.kept hk);refine ⟨?_,⟨n,Nat.le_succ _,?_⟩,zlr hb ht⟩
  ·unfold zc9 zem;rw [hem,Bool.true_or,if_pos rfl]
  ·unfold zvu;rw [hem,if_pos rfl];exact hw1
 have HO:Hid (∀W,Bl w W->W.ownsMap prog 9 RK b n (za3 L)/\W.cell? ⟨g,0,none⟩=some (.map (some b))):=fun W hb=>⟨(h.bw hb).call.ring,(h.bw hb).call.c0⟩;have HK:Hid (keyOf prog 9 (.string (T.getD 0 empty))=some (.string (T.getD 0 empty).data.toList)):=Ri.zey _ (by omega);obtain ⟨a1,n1,k1,a2,n2,k2,a3,n3,k3,e1,e2,e3,hlk⟩:=h.look1 (T.getD 0 empty) hnm;have HL:=hid hlk;have h2:=h.call.c2;have c0:=h.call.args.cell 0 hT;obtain rfl:=h.call.args.addr hT;rw [Qy] at c0;have hm0:(0:Int)<(T.length:Int):=by omega
 have mT:=zsg;generalize hM:zas w B g b n now (some ⟨ab,ao,none⟩) ab ao ac L T A (zdx L (T.getD 0 empty) (.slice a is.length c) is)=M at*;clear hM h e1 e2 e3 he hR hA hn hlk hnm hmx hv hap hem;generalize zc9 A (zem L (zdx L (T.getD 0 empty) (.slice a is.length c) is))=ev at*;unfold kvA kC zdx at HS;dsimp only at HS;generalize T.getD 0 empty=nm,T.length=m at*;generalize (zak L nm).key=x at*;by_cases hz:is.length=0
 ·have HD2:=hid fun W W'=>HD.out W W' hz;clear HD HS HV;rw [hz] at HX ⊢;skip;go_enter func244,ntmps244;go_wp2_with fail;refine (HX.out _ (Qb _ _)).mono ?_;rintro e w1 ⟨rfl,b1⟩;have HB:=hid b1;obtain ⟨p1,p2⟩:=HO.out w1 b1;have HP:=hid p1;clear b1 HX p1;go_wp2_with (at_delete;refine wpList_delete_own _ rfl _ _ 70 9 rfl 47 Ri.zr0 underlying70 _ b n _ rfl HP.out _ _ rfl HK.out ?_;intro w2 ho2 ht2;have HW:=hid (HD2.out w1 w2 HB.out ho2 ht2);clear ho2 ht2);exact HW.out
 ·have hz1:=beq_eq_false_iff_ne.2 (by omega);have hf:=zok (.string x.name) (.int .i64 x.val.kind) (.string x.val.text) (.slice a1 n1 k1) (.slice a2 n2 k2) (.slice a3 n3 k3) (.int .i64 x.due);have HS2:=hid fun W (hb:Bl w W)=>HS.out W hz hb;clear HS HD HO;generalize is.length=il at*;clear hz hlen;go_enter func244,ntmps244;go_wp2_with fail;refine (HX.out _ (Qb _ _)).mono ?_;rintro e w1 ⟨rfl,b1⟩;have HB:=hid b1;clear b1 HX;obtain ⟨q0,q1⟩:=HL.out w1.drew (below_drewN HB.out 1);go_upto_region 5 with fail;go_region_with
   (first
    |(go_at_call 214;refine (HV.out _).mono ?_;rintro e w2 ⟨rfl,b2⟩;have hb5:=(below_drewN HB.out 1).trans (b2.mono HB.out.size);obtain ⟨p0,p1⟩:=HL.out w2 hb5)
    |(go_at_call 240;refine (HS2.out _ hb5).mono ?_;rintro e w3 ⟨rfl,hw3⟩))
  all_goals
   have HW:Hid _:=hw3;clear hw3;go_wp2;go_ret;exact HW.out
theorem zlc (is:List Pr) (h:zcr w B g b n now aa ab ao ac L (zbb L (T.getD 0 empty)) T) (hv:zd2 w B (.slice a is.length c) is) (hap:∀x∈zbb L (T.getD 0 empty),∀g,(Value.slice a is.length c).ownBlock=some g->x.vp.ownBlock≠some g) (hT:0<T.length) (hnm:(T.getD 0 empty).size<=1048576) (hlen:is.length<=500000) (hn:n<=1000) (hR:Ready w) (he:zna w 1 A ze8) (hA:A.block<B):
  Calls prog 244 #[.pointer (some ⟨g,0,none⟩),.iface 233 (.slice a is.length c)] w (zas w B g b n now aa ab ao ac L T A (ze1 L (T.getD 0 empty) (.slice a is.length c) is)):=by
 have hmx:(1048576:Nat)<=maxLen:=by unfold maxLen;omega
 obtain ⟨aa0,A0,c0',eq0,hin⟩:=zdn hv;injection eq0 with z1 z2 z3;subst z1 z3;have HX:=hid fun W (hb:Bl w W)=>zjf a A0 is.length c is W (hin.bw hb) (by omega);have HV:=hid fun W=>ziu a is.length c W;have hem:zdm (ze1 L (T.getD 0 empty) (.slice a is.length c) is).key=decide (is.length=0):=by unfold zdm ze1;simp
 have HS:Hid (∀W,is.length≠0->Bl w W->Cp 240 #[.pointer (some ⟨g,0,none⟩),kvA (ze1 L (T.getD 0 empty) (.slice a is.length c) is)] W fun e w'=>e= .returned (zc9 A (zem L (ze1 L (T.getD 0 empty) (.slice a is.length c) is)))/\zas w B g b n now aa ab ao ac L T A (ze1 L (T.getD 0 empty) (.slice a is.length c) is) e w'):=fun W hne hb=>by
  refine (zgd B g b n now aa ab ao ac L T W (ze1 L (T.getD 0 empty) (.slice a is.length c) is) (h.bw hb) ⟨World.ownsRow_nil _ _ _ _,zaf hv hb,World.ownsRow_nil _ _ _ _⟩ (fun x hx=>⟨fun g e=> (by cases e),fun g e=>hap x hx g e,fun g e=> (by cases e)⟩) ⟨⟨by show (0:Nat)<=_;omega,by show (0:Nat)<=_;omega,by show is.length<=_;omega,by show (0:Nat)<=_;omega⟩,hlen,fun x hx=>absurd hx (List.not_mem_nil)⟩ hnm hn (hR.bw (hb.mono (Qj h.n25 h.le))) (he.bw (hb.mono h.le) h.n25 hA) hA).mono ?_;rintro e w' ⟨rfl,hw,hg⟩;rw [Qf hne] at hem;refine (fun h=>⟨h.1,h⟩:zas w B g b n now aa ab ao ac L T A (ze1 L (T.getD 0 empty) (.slice a is.length c) is) _ w'->_) ⟨?_,⟨n+1,Qc _,?_⟩,zd4 hb hg⟩
  ·unfold zc9 zem;rw [hem,Bool.false_or]
  ·unfold zvu;rw [hem,if_neg (by simp)];exact hw
 have HD:Hid (∀W W',is.length=0->Bl w W->W'.ownsMap prog 9 RK b n ((za3 L).del (.string (T.getD 0 empty).data.toList))->W.mapTurned W' b->zas w B g b n now aa ab ao ac L T A (ze1 L (T.getD 0 empty) (.slice a is.length c) is) (.returned .nilIface) W'):=fun W W' he0 hb ho ht=>by
  rw [Ri.zhb] at ho;rw [Qe he0] at hem;have hw:=(h.bw hb);have hk:=zgb hw.call.ring ht.grown;obtain ⟨hw1,-⟩:=hw.turned ht.grown ho (zcp _ h.call.up) (hw.vals.kept hk);refine ⟨?_,⟨n,Nat.le_succ _,?_⟩,zlr hb ht⟩
  ·unfold zc9 zem;rw [hem,Bool.true_or,if_pos rfl]
  ·unfold zvu;rw [hem,if_pos rfl];exact hw1
 have HO:Hid (∀W,Bl w W->W.ownsMap prog 9 RK b n (za3 L)/\W.cell? ⟨g,0,none⟩=some (.map (some b))):=fun W hb=>⟨(h.bw hb).call.ring,(h.bw hb).call.c0⟩;have HK:Hid (keyOf prog 9 (.string (T.getD 0 empty))=some (.string (T.getD 0 empty).data.toList)):=Ri.zey _ (by omega);obtain ⟨a1,n1,k1,a2,n2,k2,a3,n3,k3,e1,e2,e3,hlk⟩:=h.look1 (T.getD 0 empty) hnm;have HL:=hid hlk;have h2:=h.call.c2;have c0:=h.call.args.cell 0 hT;obtain rfl:=h.call.args.addr hT;rw [Qy] at c0;have hm0:(0:Int)<(T.length:Int):=by omega
 have mT:=zts;have hfl:=zed is;generalize hM:zas w B g b n now (some ⟨ab,ao,none⟩) ab ao ac L T A (ze1 L (T.getD 0 empty) (.slice a is.length c) is)=M at*;clear hM h e1 e2 e3 he hR hA hn hlk hnm hmx hv hap hem hin;generalize zc9 A (zem L (ze1 L (T.getD 0 empty) (.slice a is.length c) is))=ev at*;unfold kvA kC ze1 at HS;dsimp only at HS;generalize T.getD 0 empty=nm,T.length=m at*;generalize (zak L nm).key=x at*;obtain ⟨tl,hcn⟩:∃tl,(zco is).length=tl:=⟨_,rfl⟩;have HCN:=hid hcn;rw [hcn] at hfl;clear hcn;by_cases hz:is.length=0
 ·have HD2:=hid fun W W'=>HD.out W W' hz;clear HD HS HV;obtain rfl:tl=0:=by omega
  clear hfl hz hlen z2;go_enter func244,ntmps244;go_wp2_with fail;refine (HX.out _ (Qb _ _)).mono ?_;rintro e w1 ⟨v,rfl,o1,b1⟩;obtain ⟨xa,xc,ev1⟩:=zad o1;rw [HCN.out] at ev1;subst ev1;clear o1;have HB:=hid b1;obtain ⟨p1,p2⟩:=HO.out w1 b1;have HP:=hid p1;clear b1 HX p1;go_wp2_with (at_delete;refine wpList_delete_own _ rfl _ _ 70 9 rfl 47 Ri.zr0 underlying70 _ b n _ rfl HP.out _ _ rfl HK.out ?_;intro w2 ho2 ht2;have HW:=hid (HD2.out w1 w2 HB.out ho2 ht2);clear ho2 ht2);exact HW.out
 ·have hz1:((tl:Int)==0)=false:=beq_eq_false_iff_ne.2 (by omega);have hf:∀V,_:=zok (.string x.name) (.int .i64 x.val.kind) (.string x.val.text) (.slice a1 n1 k1) (.slice a2 n2 k2) (.slice a3 n3 k3) (.int .i64 x.due);have HS2:Hid (∀W,Bl w W->Calls _ _ _ _ _):=fun W hb=>HS.out W hz hb;clear HS HD HO hfl;generalize is.length=il at*;clear hz hlen z2;go_enter func244,ntmps244;go_wp2_with fail;refine (HX.out _ (Qb _ _)).mono ?_;rintro e w1 ⟨v,rfl,o1,b1⟩;obtain ⟨xa,xc,ev1⟩:=zad o1;rw [HCN.out] at ev1;subst ev1;clear o1;have HB:Hid (Bl w w1):=b1;clear b1 HX;obtain ⟨q0,q1⟩:=HL.out w1.drew (below_drewN HB.out 1);go_upto_region 5 with fail;go_region_with
   (first
    |(go_at_call 214;refine (HV.out _).mono ?_;rintro e w2 ⟨rfl,b2⟩;have hb5:=(below_drewN HB.out 1).trans (b2.mono HB.out.size);obtain ⟨p0,p1⟩:=HL.out w2 hb5)
    |(go_at_call 240;refine (HS2.out _ hb5).mono ?_;rintro e w3 ⟨rfl,hw3⟩))
  all_goals
   have HW:Hid _:=hw3;clear hw3;go_wp2;go_ret;exact HW.out
theorem zl5 (is:List Kk.Rk) (h:zcr w B g b n now aa ab ao ac L (zbb L (T.getD 0 empty)) T) (hv:Kk.za9 w B (.slice a is.length c) is) (hap:∀x∈zbb L (T.getD 0 empty),∀g,(Value.slice a is.length c).ownBlock=some g->x.vr.ownBlock≠some g) (hT:0<T.length) (hnm:(T.getD 0 empty).size<=1048576) (hlen:is.length<=500000) (hft:Kk.zi5 is) (hn:n<=1000) (hR:Ready w) (he:zna w 1 A ze8) (hA:A.block<B):
  Calls prog 244 #[.pointer (some ⟨g,0,none⟩),.iface 234 (.slice a is.length c)] w (zas w B g b n now aa ab ao ac L T A (zex L (T.getD 0 empty) (.slice a is.length c) is)):=by
 have hmx:(1048576:Nat)<=maxLen:=by unfold maxLen;omega
 obtain ⟨aa0,A0,c0',eq0,hin⟩:=Kk.zcl hv;injection eq0 with z1 z2 z3;subst z1 z3;have HX:=hid fun W (hb:Bl w W)=>Kk.zrx a A0 0 is.length c is W (hin.bw hb) (by omega) hft (hR.tab.bw (hb.mono (Qj h.n25 h.le)) (by omega)) (by have:=hb.size;have:=h.n25;have:=h.le;omega);have HV:=hid fun W=>zid a is.length c W;have hem:zdm (zex L (T.getD 0 empty) (.slice a is.length c) is).key=decide (is.length=0):=by unfold zdm zex;simp
 have HS:Hid (∀W,is.length≠0->Bl w W->Cp 240 #[.pointer (some ⟨g,0,none⟩),kvA (zex L (T.getD 0 empty) (.slice a is.length c) is)] W fun e w'=>e= .returned (zc9 A (zem L (zex L (T.getD 0 empty) (.slice a is.length c) is)))/\zas w B g b n now aa ab ao ac L T A (zex L (T.getD 0 empty) (.slice a is.length c) is) e w'):=fun W hne hb=>by
  refine (zgd B g b n now aa ab ao ac L T W (zex L (T.getD 0 empty) (.slice a is.length c) is) (h.bw hb) ⟨World.ownsRow_nil _ _ _ _,World.ownsRow_nil _ _ _ _,zaf hv hb⟩ (fun x hx=>⟨fun g e=> (by cases e),fun g e=> (by cases e),fun g e=>hap x hx g e⟩) ⟨⟨by show (0:Nat)<=_;omega,by show (0:Nat)<=_;omega,by show (0:Nat)<=_;omega,by show is.length<=_;omega⟩,by show (0:Nat)<=_;omega,hft⟩ hnm hn (hR.bw (hb.mono (Qj h.n25 h.le))) (he.bw (hb.mono h.le) h.n25 hA) hA).mono ?_;rintro e w' ⟨rfl,hw,hg⟩;rw [Qf hne] at hem;refine (fun h=>⟨h.1,h⟩:zas w B g b n now aa ab ao ac L T A (zex L (T.getD 0 empty) (.slice a is.length c) is) _ w'->_) ⟨?_,⟨n+1,Qc _,?_⟩,zd4 hb hg⟩
  ·unfold zc9 zem;rw [hem,Bool.false_or]
  ·unfold zvu;rw [hem,if_neg (by simp)];exact hw
 have HD:Hid (∀W W',is.length=0->Bl w W->W'.ownsMap prog 9 RK b n ((za3 L).del (.string (T.getD 0 empty).data.toList))->W.mapTurned W' b->zas w B g b n now aa ab ao ac L T A (zex L (T.getD 0 empty) (.slice a is.length c) is) (.returned .nilIface) W'):=fun W W' he0 hb ho ht=>by
  rw [Ri.zhb] at ho;rw [Qe he0] at hem;have hw:=(h.bw hb);have hk:=zgb hw.call.ring ht.grown;obtain ⟨hw1,-⟩:=hw.turned ht.grown ho (zcp _ h.call.up) (hw.vals.kept hk);refine ⟨?_,⟨n,Nat.le_succ _,?_⟩,zlr hb ht⟩
  ·unfold zc9 zem;rw [hem,Bool.true_or,if_pos rfl]
  ·unfold zvu;rw [hem,if_pos rfl];exact hw1
 have HO:Hid (∀W,Bl w W->W.ownsMap prog 9 RK b n (za3 L)/\W.cell? ⟨g,0,none⟩=some (.map (some b))):=fun W hb=>⟨(h.bw hb).call.ring,(h.bw hb).call.c0⟩;have HK:Hid (keyOf prog 9 (.string (T.getD 0 empty))=some (.string (T.getD 0 empty).data.toList)):=Ri.zey _ (by omega);obtain ⟨a1,n1,k1,a2,n2,k2,a3,n3,k3,e1,e2,e3,hlk⟩:=h.look1 (T.getD 0 empty) hnm;have HL:=hid hlk;have h2:=h.call.c2;have c0:=h.call.args.cell 0 hT;obtain rfl:=h.call.args.addr hT;rw [Qy] at c0;have hm0:(0:Int)<(T.length:Int):=by omega
 have mT:=zr6;have hfl:=zit is;generalize hM:zas w B g b n now (some ⟨ab,ao,none⟩) ab ao ac L T A (zex L (T.getD 0 empty) (.slice a is.length c) is)=M at*;clear hM h e1 e2 e3 he hR hA hn hlk hnm hmx hv hap hem hin;generalize zc9 A (zem L (zex L (T.getD 0 empty) (.slice a is.length c) is))=ev at*;unfold kvA kC zex at HS;dsimp only at HS;generalize T.getD 0 empty=nm,T.length=m at*;generalize (zak L nm).key=x at*;obtain ⟨tl,hcn⟩:∃tl,(Kk.zd7 is).length=tl:=⟨_,rfl⟩;have HCN:=hid hcn;rw [hcn] at hfl;clear hcn;by_cases hz:is.length=0
 ·have HD2:=hid fun W W'=>HD.out W W' hz;clear HD HS HV;obtain rfl:tl=0:=by omega
  clear hfl hz hlen z2;go_enter func244,ntmps244;go_wp2_with fail;refine (HX.out _ (Qb _ _)).mono ?_;rintro e w1 ⟨v,rfl,o1,b1⟩;obtain ⟨xa,xc,ev1⟩:=zad o1;rw [HCN.out] at ev1;subst ev1;clear o1;have HB:=hid b1;obtain ⟨p1,p2⟩:=HO.out w1 b1;have HP:=hid p1;clear b1 HX p1;go_wp2_with (at_delete;refine wpList_delete_own _ rfl _ _ 70 9 rfl 47 Ri.zr0 underlying70 _ b n _ rfl HP.out _ _ rfl HK.out ?_;intro w2 ho2 ht2;have HW:=hid (HD2.out w1 w2 HB.out ho2 ht2);clear ho2 ht2);exact HW.out
 ·have hz1:((tl:Int)==0)=false:=beq_eq_false_iff_ne.2 (by omega);have hf:∀V,_:=zok (.string x.name) (.int .i64 x.val.kind) (.string x.val.text) (.slice a1 n1 k1) (.slice a2 n2 k2) (.slice a3 n3 k3) (.int .i64 x.due);have HS2:Hid (∀W,Bl w W->Calls _ _ _ _ _):=fun W hb=>HS.out W hz hb;clear HS HD HO hfl;generalize is.length=il at*;clear hz hlen z2;go_enter func244,ntmps244;go_wp2_with fail;refine (HX.out _ (Qb _ _)).mono ?_;rintro e w1 ⟨v,rfl,o1,b1⟩;obtain ⟨xa,xc,ev1⟩:=zad o1;rw [HCN.out] at ev1;subst ev1;clear o1;have HB:Hid (Bl w w1):=b1;clear b1 HX;obtain ⟨q0,q1⟩:=HL.out w1.drew (below_drewN HB.out 1);go_upto_region 5 with fail;go_region_with
   (first
    |(go_at_call 214;refine (HV.out _).mono ?_;rintro e w2 ⟨rfl,b2⟩;have hb5:=(below_drewN HB.out 1).trans (b2.mono HB.out.size);obtain ⟨p0,p1⟩:=HL.out w2 hb5)
    |(go_at_call 240;refine (HS2.out _ hb5).mono ?_;rintro e w3 ⟨rfl,hw3⟩))
  all_goals
   have HW:Hid _:=hw3;clear hw3;go_wp2;go_ret;exact HW.out
end
def zx9:Nat->ByteArray
 |1=>ze8
 |9=>zbu
 |10=>ze4
 |11=>zfc
 |_=>zdc
structure zhj (w:World) (B:Nat) (ad:Nat->Addr):Prop where
 rd:Ready w
 fd:Fd.Ready w
 er:∀i,i=1\/i=9\/i=10\/i=11\/i=12->zna w i (ad i) (zx9 i)/\(ad i).block<B
 n25:22<=B
theorem zhj.bw (h:zhj w B ad) (hb:Below B w w'):zhj w' B ad:=
 ⟨h.rd.bw (hb.mono h.n25),h.fd.bw (hb.mono h.n25),fun i hi=>⟨(h.er i hi).1.bw hb h.n25 (h.er i hi).2,(h.er i hi).2⟩,h.n25⟩
def zar (w:World) (B g b:Nat) (now:Int) (aa:Option Addr) (ab ao ac:Nat) (T:List ByteArray) (ad:Nat->Addr) (ks:List Ke) (p:List Ke×List Rp) (e:Ending) (w':World):Prop:=
 ∃r er,e= .returned (.tuple #[r,er])/\Below B w w'/\
  ((er= .nilIface/\zbe w' w.heap.size r p.2/\∃n' L',L'.map KV.key=p.1/\zcr w' B g b n' now aa ab ao ac L' L' T)
   \/∃i,(i=1\/i=9\/i=10\/i=11\/i=12)/\er= .iface 307 (.pointer (some (ad i)))/\p=(ks,zcb (zx9 i)))
theorem zbo {e:Ending} (h:zcr w B g b n now aa ab ao ac L L T) (hs:zb8 w R e w'):zar w B g b now aa ab ao ac T ad (L.map KV.key) (L.map KV.key,R) e w':=by
 obtain ⟨r,rfl,hr,hb⟩:=hs;exact ⟨r,_,rfl,hb.mono h.le,.inl ⟨rfl,hr,n,L,rfl,h.bw hb⟩⟩
theorem zvs (h:zbe w1 B r R) (hg:w1.grownBy w2 (some b)) (hb:b<B):zbe w2 B r R:=by
 obtain ⟨M,e,o,k⟩:=h;refine ⟨M,e,zai o fun g hg'=>hg.block g (zaz o hg').2 (fun eq=>by have:=(zaz o hg').1;cases eq;omega),fun x hx=>zai (k x hx) fun g hg'=>hg.block g (zaz (k x hx) hg').2 (fun eq=>by have:=(zaz (k x hx) hg').1;cases eq;omega)⟩
theorem zdj {er:Value} (h:zcr w B g b n now aa ab ao ac L L T) (hd:zan (L.map KV.key)=true) (hr:zbe w1 w.heap.size r R) (hb:Below B w w1) (hs:w.heap.size<=w1.heap.size) (hl:zas w1 B g b n now aa ab ao ac L T (ad 1) y (.returned er) w2):zar w B g b now aa ab ao ac T ad (L.map KV.key) (za1 (L.map KV.key) y.key R) (.returned (.tuple #[r,er])) w2:=by
 obtain ⟨e1,⟨n',hn',hw⟩,hg⟩:=hl;injection e1 with e1;subst e1;have hB1:B<=w1.heap.size:=Qj h.le hs;refine ⟨r,_,rfl,hb.trans (zfy hg h.lb hB1),?_⟩;rw [zzd hd];unfold zc9;cases zem L y with
 |true=>exact .inl ⟨rfl,zvs hr hg (by have:=h.call.ring.lt;omega),n',_,rfl,hw⟩
 |false=>exact .inr ⟨1,.inl rfl,rfl,rfl⟩
theorem zf0 (i:Nat) (hi:i=1\/i=9\/i=10\/i=11\/i=12) (hb:Below B w w'):zar w B g b now aa ab ao ac T ad ks (ks,zcb (zx9 i)) (.returned (.tuple #[r,.iface 307 (.pointer (some (ad i)))])) w':=
 ⟨r,_,rfl,hb,.inr ⟨i,hi,rfl,rfl⟩⟩
theorem ye8:∀(l:List UInt8) (acc:Nat),Fd.zft acc l=zft acc l
 | [],_=>rfl
 |c::r,acc=>by unfold Fd.zft zft;rw [ye8 r]
theorem yix (l:List UInt8):Fd.zeq l=zeq l:=by
 unfold Fd.zeq zeq;rw [ye8];rfl
def zmv (s:ByteArray):Int:=if (zbc s).2=true then (zbc s).1 else 0
theorem ycs (s:ByteArray) (w:World) (hs:s.size<=2097152) (hr:Fd.Ready w):
  Calls prog 25 #[.string s] w fun e w'=>e= .returned (.tuple #[.int .i64 (zmv s),.bool (zbc s).2])/\Bl w w':=by
 have HD:Hid (Cp 66 #[.string s] w fun e w'=>e= .returned (.tuple #[.int .i64 (zmv s),.bool (zbc s).2])/\Bl w w'):=by
  refine (Fd.zsu s w hs hr).mono ?_;rintro e w' ⟨rfl,hb⟩;refine ⟨?_,hb⟩;rw [Fd.yb4,yix];unfold zmv zbc;cases (zeq s.data.toList).2<;>rfl
 clear hr;generalize zmv s=v,(zbc s).2=o at*;go_enter func25,ntmps25;go_wp2_with fail;refine HD.out.mono ?_;rintro e w1 ⟨rfl,hb⟩;have HB:Hid (Bl w w1):=hb;clear hb HD;go_wp2;go_ret2;exact ⟨rfl,HB.out⟩
theorem zfa (s:ByteArray) (w:World) (B:Nat) (ad:Nat->Addr) (hs:s.size<=2097152) (hr:zhj w B ad) (hB:B<=w.heap.size):
  Calls prog 241 #[.string s] w fun e w'=>e= .returned (.tuple #[.int .i64 (zmv s),zc9 (ad 12) (zbc s).2])/\Bl w w':=by
 have HD:Hid (Cp 25 #[.string s] w fun e w'=>e= .returned (.tuple #[.int .i64 (zmv s),.bool (zbc s).2])/\Bl w w'):=ycs s w hs hr.fd;have HE:Hid (∀W,Bl w W->W.cell? ⟨12,0,none⟩=some (.iface 307 (.pointer (some (ad 12))))):=fun W hb=> ((hr.bw (hb.mono hB)).er 12 (by omega)).1.v;have HN:Hid ((zbc s).2=false->zmv s=0):=fun h=>by unfold zmv;rw [h,if_neg (by simp)]
 clear hr;generalize zmv s=v,(zbc s).2=o at*;cases o with
 |true=>
  show Calls _ _ _ _ fun e w'=>e= .returned (.tuple #[.int .i64 v,.nilIface])/\_;go_enter func241,ntmps241;go_wp2_with fail;refine HD.out.mono ?_;rintro e w1 ⟨rfl,hb⟩;have HB:Hid (Bl w w1):=hb;clear hb HD;go_wp2;go_ret2;exact ⟨rfl,HB.out⟩
 |false=>
  obtain rfl:=HN.out rfl;show Calls _ _ _ _ fun e w'=>e= .returned (.tuple #[.int .i64 0,.iface 307 (.pointer (some (ad 12)))])/\_;generalize ad 12=A at*;go_enter func241,ntmps241;go_wp2_with fail;refine HD.out.mono ?_;rintro e w1 ⟨rfl,hb⟩;have HB:Hid (Bl w w1.drew):=below_drewN hb 1;have hc:=HE.out w1 hb;have hc2:=HE.out w1.drew (below_drewN hb 1);clear hb HD;go_wp2;go_region;go_wp2;go_ret2;exact ⟨rfl,HB.out⟩
end Go.Proofs.YtokafonppgppdaaGreatDoor.Rb
