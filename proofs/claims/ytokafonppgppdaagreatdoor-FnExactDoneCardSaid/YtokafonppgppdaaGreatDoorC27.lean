import Derived.Test.YtokafonppgppdaaGreatDoorC13
set_option maxHeartbeats 4000000
set_option maxRecDepth 100000
namespace Go.Proofs.YtokafonppgppdaaGreatDoor
section
open Tryz
open _root_.ByteArray (empty)
open Go.RowKit Go.Sort
open Kk (Rk rk0 G8 Mp F1 L7 Hv G9 Fo G6 encR F7 Le str_eq)
variable {w:World} {B n c:Nat} {v:Value} {q:Addr} {a:Option Addr} {cur:List ByteArray}
theorem Eg{e:TypeId}{size:Nat}{xs:List Value}(h:w.ownsRow B e size v n xs)(hq:q.block<B)(x:Value):(w.setCell q x).ownsRow B e size v n xs:=
 Lt h fun g hg=>by
  have:=(Hf h hg).1;exact Below.heap_setCell _ _ _ _ (by omega)
theorem Fr.set{R:List Rp}(h:Fr w B v R)(hq:q.block<B)(x:Value):Fr (w.setCell q x) B v R:=by
 obtain⟨M,e,o,k⟩:=h;exact⟨M,e,Eg o hq x,fun y hy=>Eg (k y hy) hq x⟩
def Ke.withItems (k:Ke) (is:List ByteArray):Ke:=⟨k.name,⟨k.val.kind,k.val.text,is,k.val.pj,k.val.rq⟩,k.due⟩
def N3 (is:List ByteArray) (f l:Int):List ByteArray:=(is.take (Sl.Hx is.length f l).2.toNat).drop (Sl.Hx is.length f l).1.toNat
def Od (c:Cm) (ks:List Ke) (k:Ke) (there:Bool) (T:List ByteArray):List Ke×List Rp:=match c with
 |12=> (ks,Fe (k.val.ia.length:Int))
 |24=>if ((Fg (Fa T 1)).2&&(Fg (Fa T 2)).2)=true then (ks,He (N3 k.val.ia (Fg (Fa T 1)).1 (Fg (Fa T 2)).1)) else (ks,Fl F3)
 |10=>if there=true then Fj ks (k.withItems k.val.ia.tail) (Fy (k.val.ia.getD 0 empty)) else (ks,G7)
 |11=>if there=true then Fj ks (k.withItems k.val.ia.dropLast) (Fy (k.val.ia.getD (k.val.ia.length-1) empty)) else (ks,G7)
 |29=>Fj ks (k.withItems (T.tail.reverse++k.val.ia)) (Fe ((T.tail.length+k.val.ia.length:Nat):Int))
 |_=>Fj ks (k.withItems (k.val.ia++T.tail)) (Fe ((k.val.ia.length+T.tail.length:Nat):Int))
section
variable (B B':Nat) (v:Value) (L:List KV) (x:KV) (there:Bool) (aa:Option Addr) (ab ao ac:Nat) (T:List ByteArray) (w:World)
theorem zw9(h:Fv w B v L)(hx:VOwn w B' x.key.val x.vi x.vp x.vr)(hxs:Hu x.key)(ha:Fs w aa ab ao 1 T)(hT:∀i,i<1->(Fa T i).size<=200)(hB:B<=w.heap.size):
  Calls prog 105 #[v,kvV x,.bool there,.string ⟨#[76,76,69,78]⟩,.slice aa 1 ac] w (Fh w B (Od .LLEN (L.map KV.key) x.key there T)):=by
 have Ga:=hx.rd (fun t ht=>by have:=hxs.ia t ht;omega);obtain⟨p1,P1,d1,e1,i1,l1,m1⟩:=N2 hx.ia (fun t ht=>by have:=hxs.ia t ht;omega);obtain⟨p2,d2,e2⟩:=Fx hx.pj;obtain⟨p3,d3,e3⟩:=Fx hx.rq;obtain⟨⟨xn,xv,xd⟩,vi,vp,vr⟩:=x;dsimp only at e1 e2 e3 Ga hxs i1 l1;subst e1 e2 e3;have Gg:xv.ia.length<=20:=hxs.ni;obtain⟨W0,Ge,Gd,b0,r0⟩:=boxed w (kC xn xv.kind xv.text (.slice p1 xv.ia.length d1) (.slice p2 xv.pj.length d2) (.slice p3 xv.rq.length d3) xd) 47;have ES:=L4 h hB b0;have c0:=ha.cell 0 (by omega);rw[<-b0.cell (p:=⟨ab,ao+0,none⟩) (ha.low (by omega))]at c0;have s0:=hT 0 (by omega);have Gc:ab<w.heap.size:=ha.low (by omega);obtain rfl:=ha.addr (by omega);rw[Qy]at c0;change W0.cell? _=some (.string (Fa T 0))at c0;have Gb:=hIN;have Gf:IntKind.i64.wrap ((xv.ia.length:Int)-1)=(xv.ia.length:Int)-1:=Kk.wrap_small (by omega) (by omega);obtain⟨y0,y1,y2,y3,y4,y5,y6⟩:=F6 r0;show Calls prog 105 #[v,.agg (kC xn xv.kind xv.text (.slice p1 xv.ia.length d1) (.slice p2 xv.pj.length d2) (.slice p3 xv.rq.length d3) xd),.bool there,.string ⟨#[76,76,69,78]⟩,.slice (some ⟨ab,ao,none⟩) 1 ac] w (Fh w B (L.map KV.key,Fe (xv.ia.length:Int)));clear i1;clear h hx Ga hxs ha hT Ge;generalize L.map KV.key=K0,Fa T 0=t0,xv.ia.length=n1,xv.pj.length=n2,xv.rq.length=n3,xv.text=tx,xv.kind=kd at*;show Calls prog 105 #[v,.agg (kC xn kd tx (.slice p1 n1 d1) (.slice p2 n2 d2) (.slice p3 n3 d3) xd),.bool there,.string ⟨#[76,76,69,78]⟩,.slice (some ⟨ab,ao,none⟩) 1 ac] w (Fh w B (K0,Fe (n1:Int)));go_enter func105,ntmps105;go_upto_region 1 with fail;rw[Gd.out];go_wp2_with fail;refine(Gb.out W0 (n1:Int)).mono ?_;rintro e w1⟨r,rfl,hr,hb⟩;have HF:Hid _:=ES.out (Fe (n1:Int)) r W0 w1 (Qb _ _) hr hb;clear hr hb ES;go_wp2;go_ret2;exact HF.out
theorem zxg(h:Fv w B v L)(hf:Lg (L.map KV.key))(hn:L.length<=500000)(hx:VOwn w B' x.key.val x.vi x.vp x.vr)(hxs:Hu x.key)(hne:there=true->0<x.key.val.ia.length)(ha:Fs w aa ab ao 1 T)(hT:∀i,i<1->(Fa T i).size<=200)(hB:B<=w.heap.size):
  Calls prog 105 #[v,kvV x,.bool there,.string ⟨#[76,80,79,80]⟩,.slice aa 1 ac] w (Fh w B (Od .LPOP (L.map KV.key) x.key there T)):=by
 have Gb:=hx.rd (fun t ht=>by have:=hxs.ia t ht;omega);obtain⟨p1,P1,d1,e1,i1,l1,m1⟩:=N2 hx.ia (fun t ht=>by have:=hxs.ia t ht;omega);obtain⟨p2,d2,e2⟩:=Fx hx.pj;obtain⟨p3,d3,e3⟩:=Fx hx.rq;obtain⟨⟨xn,xv,xd⟩,vi,vp,vr⟩:=x;dsimp only at e1 e2 e3 Gb hxs i1 l1 hne;subst e1 e2 e3;have Gr:xv.ia.length<=20:=hxs.ni;obtain⟨W0,Gh,Gf,b0,r0⟩:=boxed w (kC xn xv.kind xv.text (.slice p1 xv.ia.length d1) (.slice p2 xv.pj.length d2) (.slice p3 xv.rq.length d3) xd) 47;have ES:=L4 h hB b0;have c0:=ha.cell 0 (by omega);rw[<-b0.cell (p:=⟨ab,ao+0,none⟩) (ha.low (by omega))]at c0;have s0:=hT 0 (by omega);have Gm:ab<w.heap.size:=ha.low (by omega);obtain rfl:=ha.addr (by omega);rw[Qy]at c0;change W0.cell? _=some (.string (Fa T 0))at c0;have Gs:IntKind.i64.wrap ((xv.ia.length:Int)-1)=(xv.ia.length:Int)-1:=Kk.wrap_small (by omega) (by omega);have HN:=hNL;have Gp:=hBK;have HSET:Hid (∀W rv va,Bl w W->Fr W w.heap.size rv (Fy (xv.ia.getD 0 empty))->(∃a A o c,va=.slice a (xv.ia.tail).length c/\Fs W a A o (xv.ia.tail).length (xv.ia.tail)/\(a=none->c=0))->Cp 147 #[v,.agg (kC xn xv.kind xv.text va (.slice p2 xv.pj.length d2) (.slice p3 xv.rq.length d3) xd),rv] W (fun e w'=>Fh w B (Fj (L.map KV.key) ⟨xn,⟨xv.kind,xv.text,xv.ia.tail,xv.pj,xv.rq⟩,xd⟩ (Fy (xv.ia.getD 0 empty))) e w'/\Bl W w')):=fun W rv va hb hr hva=>by
  have Ge:∀t∈(xv.ia.tail),t∈xv.ia:=fun t ht=>List.mem_of_mem_tail ht;have hk:N1 ⟨xn,⟨xv.kind,xv.text,xv.ia.tail,xv.pj,xv.rq⟩,xd⟩:=⟨⟨hxs.fit.fit.text,by show(xv.ia.tail).length<=_;simp;omega,hxs.fit.fit.pj,hxs.fit.fit.rq⟩,hxs.fit.name,fun t ht=>hxs.fit.ia t (Ge t ht)⟩;have hv:VRd W (⟨xv.kind,xv.text,xv.ia.tail,xv.pj,xv.rq⟩:Vl) va (.slice p2 xv.pj.length d2) (.slice p3 xv.rq.length d3):=⟨hva,(Gb.bw hb).pj,(Gb.bw hb).rq⟩;exact(Pv B v L ⟨⟨xn,⟨xv.kind,xv.text,xv.ia.tail,xv.pj,xv.rq⟩,xd⟩,va,.slice p2 xv.pj.length d2,.slice p3 xv.rq.length d3⟩ rv (Fy (xv.ia.getD 0 empty)) W (h.bw hb) hf hn hv hk hr (Qj hB hb.size) hb.size).mono fun e w' he=>⟨Mg.wide he hb,he.bel⟩
 obtain⟨y0,y1,y2,y3,y4,y5,y6⟩:=F6 r0;show Calls prog 105 #[v,.agg (kC xn xv.kind xv.text (.slice p1 xv.ia.length d1) (.slice p2 xv.pj.length d2) (.slice p3 xv.rq.length d3) xd),.bool there,.string ⟨#[76,80,79,80]⟩,.slice (some ⟨ab,ao,none⟩) 1 ac] w (Fh w B (if there=true then Fj (L.map KV.key) ⟨xn,⟨xv.kind,xv.text,xv.ia.tail,xv.pj,xv.rq⟩,xd⟩ (Fy (xv.ia.getD 0 empty)) else(L.map KV.key,G7)));cases there with
 |false=>
  rw[if_neg (by simp)];clear i1 HSET hf hne;clear h hx Gb hxs ha hT Gh;generalize L.map KV.key=K0,Fa T 0=t0,xv.ia.length=n1,xv.pj.length=n2,xv.rq.length=n3,xv.text=tx,xv.kind=kd at*;show Calls prog 105 #[v,.agg (kC xn kd tx (.slice p1 n1 d1) (.slice p2 n2 d2) (.slice p3 n3 d3) xd),.bool false,.string ⟨#[76,80,79,80]⟩,.slice (some ⟨ab,ao,none⟩) 1 ac] w (Fh w B (K0,G7));go_enter func105,ntmps105;go_upto_region 1 with fail;rw[Gf.out];go_wp2_with fail;refine(HN.out W0).mono ?_;rintro e w1⟨r,rfl,hr,hb⟩;have HF:Hid _:=ES.out G7 r W0 w1 (Qb _ _) hr hb;clear hr hb ES;go_wp2;go_ret2;exact HF.out
 |true=>
  rw[if_pos rfl];have Ga:=hne rfl;have z0:=i1.cell 0 Ga;have zl:=i1.cell (xv.ia.length-1) (by omega);have Gk:P1<w.heap.size:=i1.low Ga;rw[<-b0.cell (p:=⟨P1,0+0,none⟩) Gk]at z0;rw[<-b0.cell (p:=⟨P1,0+(xv.ia.length-1),none⟩) Gk]at zl;rw[Qq]at z0 zl;obtain rfl:=i1.addr Ga;have Gq:Hid (∀W a c,Bl w W->(1<xv.ia.length->a=some ⟨P1,1,none⟩)->(a=none->c=0)->∃a' A o c',Value.slice a (xv.ia.length-1) c=.slice a' xv.ia.tail.length c'/\Fs W a' A o xv.ia.tail.length xv.ia.tail/\(a'=none->c'=0)):=fun W a c hb hq hq2=>by
   have hs:=Lb i1 hb;refine⟨a,P1,1,c,by rw[List.length_tail],⟨rfl,fun h=>hq (by rw[List.length_tail]at h;omega),fun h=>hs.low (by omega),fun i hi=>?_,fun i hi=>?_⟩,hq2⟩
   ·rw[List.length_tail]at hi;have:=hs.cell (i+1) (by omega);rw[Qq,Nat.add_comm i 1]at this;rw[this];congr 2;rw[Qa,Qa,List.getElem?_tail,Nat.add_comm 1 i]
   ·rw[List.length_tail]at hi;have:=hs.fit (i+1) (by omega);rw[Qa]at this ⊢;rw[List.getElem?_tail];exact this
  clear i1 hf hne;clear h hx Gb hxs ha hT Gh;generalize L.map KV.key=K0,Fa T 0=t0 at*;generalize Fj K0 ⟨xn,⟨xv.kind,xv.text,xv.ia.tail,xv.pj,xv.rq⟩,xd⟩ (Fy (xv.ia.getD 0 empty))=SM,xv.ia.getD (xv.ia.length-1) empty=tl at*;generalize xv.ia.getD 0 empty=th,xv.ia.length=n1,xv.pj.length=n2,xv.rq.length=n3,xv.text=tx,xv.kind=kd at*;show Calls prog 105 #[v,.agg (kC xn kd tx (.slice (some ⟨P1,0,none⟩) n1 d1) (.slice p2 n2 d2) (.slice p3 n3 d3) xd),.bool true,.string ⟨#[76,80,79,80]⟩,.slice (some ⟨ab,ao,none⟩) 1 ac] w (Fh w B (SM));go_enter func105,ntmps105;go_upto_region 1 with fail;rw[Gf.out];go_wp2_with fail;refine(Gp.out W0 th).mono ?_;rintro e w1⟨r1,rfl,Gn,Gd⟩;have Gl:=Fc.bw r0 Gd r0.lt;have Gj:Bl w w1:=b0.trans (Gd.mono b0.size);obtain⟨u0,u1,u2,u3,u4,u5,u6⟩:=F6 Gl;have f3:=Gl.frozen 3;have C6:w1.cell? ⟨P1,n1-1,none⟩=some (.string tl):=(Gd.cell (p:=⟨P1,n1-1,none⟩) (by show P1<_;have:=b0.size;omega)).trans zl;clear y0 y1 y2 y3 y4 y5 y6 c0;have Gc:=r0.lt;go_wp2_with fail;all_goals
   refine(HSET.out _ r1 _ (Gj.setCell (Qc _) _) ((Gn.set (by exact Gc) _).le b0.size) (Gq.out _ _ _ (Gj.setCell (Qc _) _) (fun h=>by first|rfl|omega) (fun h=>by cases h))).mono ?_;rintro e w2⟨⟨v',r',L',rfl,hm,ho,Gg,Gi⟩,b2⟩;have HF:Hid (Fh w B SM (.returned (.tuple #[v',r'])) w2):=⟨v',r',L',rfl,hm,ho,Gg,Gi⟩;clear hm ho Gg Gi;go_wp2;go_ret2;exact HF.out
theorem zx2(h:Fv w B v L)(hf:Lg (L.map KV.key))(hn:L.length<=500000)(hx:VOwn w B' x.key.val x.vi x.vp x.vr)(hxs:Hu x.key)(hne:there=true->0<x.key.val.ia.length)(ha:Fs w aa ab ao 1 T)(hT:∀i,i<1->(Fa T i).size<=200)(hB:B<=w.heap.size):
  Calls prog 105 #[v,kvV x,.bool there,.string ⟨#[82,80,79,80]⟩,.slice aa 1 ac] w (Fh w B (Od .RPOP (L.map KV.key) x.key there T)):=by
 have Gc:=hx.rd (fun t ht=>by have:=hxs.ia t ht;omega);obtain⟨p1,P1,d1,e1,i1,l1,m1⟩:=N2 hx.ia (fun t ht=>by have:=hxs.ia t ht;omega);obtain⟨p2,d2,e2⟩:=Fx hx.pj;obtain⟨p3,d3,e3⟩:=Fx hx.rq;obtain⟨⟨xn,xv,xd⟩,vi,vp,vr⟩:=x;dsimp only at e1 e2 e3 Gc hxs i1 l1 hne;subst e1 e2 e3;have Gy:xv.ia.length<=20:=hxs.ni;obtain⟨W0,Gj,Gh,b0,r0⟩:=boxed w (kC xn xv.kind xv.text (.slice p1 xv.ia.length d1) (.slice p2 xv.pj.length d2) (.slice p3 xv.rq.length d3) xd) 47;have ES:=L4 h hB b0;have c0:=ha.cell 0 (by omega);rw[<-b0.cell (p:=⟨ab,ao+0,none⟩) (ha.low (by omega))]at c0;have s0:=hT 0 (by omega);have Gs:ab<w.heap.size:=ha.low (by omega);obtain rfl:=ha.addr (by omega);rw[Qy]at c0;change W0.cell? _=some (.string (Fa T 0))at c0;have Kc:IntKind.i64.wrap ((xv.ia.length:Int)-1)=(xv.ia.length:Int)-1:=Kk.wrap_small (by omega) (by omega);have HN:=hNL;have Gk:=hBK;have HSET:Hid (∀W rv va,Bl w W->Fr W w.heap.size rv (Fy (xv.ia.getD (xv.ia.length-1) empty))->(∃a A o c,va=.slice a (xv.ia.dropLast).length c/\Fs W a A o (xv.ia.dropLast).length (xv.ia.dropLast)/\(a=none->c=0))->Cp 147 #[v,.agg (kC xn xv.kind xv.text va (.slice p2 xv.pj.length d2) (.slice p3 xv.rq.length d3) xd),rv] W (fun e w'=>Fh w B (Fj (L.map KV.key) ⟨xn,⟨xv.kind,xv.text,xv.ia.dropLast,xv.pj,xv.rq⟩,xd⟩ (Fy (xv.ia.getD (xv.ia.length-1) empty))) e w'/\Bl W w')):=fun W rv va hb hr hva=>by
  have Gg:∀t∈(xv.ia.dropLast),t∈xv.ia:=fun t ht=>List.dropLast_subset _ ht;have hk:N1 ⟨xn,⟨xv.kind,xv.text,xv.ia.dropLast,xv.pj,xv.rq⟩,xd⟩:=⟨⟨hxs.fit.fit.text,by show(xv.ia.dropLast).length<=_;simp;omega,hxs.fit.fit.pj,hxs.fit.fit.rq⟩,hxs.fit.name,fun t ht=>hxs.fit.ia t (Gg t ht)⟩;have hv:VRd W (⟨xv.kind,xv.text,xv.ia.dropLast,xv.pj,xv.rq⟩:Vl) va (.slice p2 xv.pj.length d2) (.slice p3 xv.rq.length d3):=⟨hva,(Gc.bw hb).pj,(Gc.bw hb).rq⟩;exact(Pv B v L ⟨⟨xn,⟨xv.kind,xv.text,xv.ia.dropLast,xv.pj,xv.rq⟩,xd⟩,va,.slice p2 xv.pj.length d2,.slice p3 xv.rq.length d3⟩ rv (Fy (xv.ia.getD (xv.ia.length-1) empty)) W (h.bw hb) hf hn hv hk hr (Qj hB hb.size) hb.size).mono fun e w' he=>⟨Mg.wide he hb,he.bel⟩
 obtain⟨y0,y1,y2,y3,y4,y5,y6⟩:=F6 r0;show Calls prog 105 #[v,.agg (kC xn xv.kind xv.text (.slice p1 xv.ia.length d1) (.slice p2 xv.pj.length d2) (.slice p3 xv.rq.length d3) xd),.bool there,.string ⟨#[82,80,79,80]⟩,.slice (some ⟨ab,ao,none⟩) 1 ac] w (Fh w B (if there=true then Fj (L.map KV.key) ⟨xn,⟨xv.kind,xv.text,xv.ia.dropLast,xv.pj,xv.rq⟩,xd⟩ (Fy (xv.ia.getD (xv.ia.length-1) empty)) else(L.map KV.key,G7)));cases there with
 |false=>
  rw[if_neg (by simp)];clear i1 HSET hf hne;clear h hx Gc hxs ha hT Gj;generalize L.map KV.key=K0,Fa T 0=t0,xv.ia.length=n1,xv.pj.length=n2,xv.rq.length=n3,xv.text=tx,xv.kind=kd at*;show Calls prog 105 #[v,.agg (kC xn kd tx (.slice p1 n1 d1) (.slice p2 n2 d2) (.slice p3 n3 d3) xd),.bool false,.string ⟨#[82,80,79,80]⟩,.slice (some ⟨ab,ao,none⟩) 1 ac] w (Fh w B (K0,G7));go_enter func105,ntmps105;go_upto_region 1 with fail;rw[Gh.out];go_wp2_with fail;refine(HN.out W0).mono ?_;rintro e w1⟨r,rfl,hr,hb⟩;have HF:Hid _:=ES.out G7 r W0 w1 (Qb _ _) hr hb;clear hr hb ES;go_wp2;go_ret2;exact HF.out
 |true=>
  rw[if_pos rfl];have Ga:=hne rfl;have z0:=i1.cell 0 Ga;have zl:=i1.cell (xv.ia.length-1) (by omega);have Gr:P1<w.heap.size:=i1.low Ga;rw[<-b0.cell (p:=⟨P1,0+0,none⟩) Gr]at z0;rw[<-b0.cell (p:=⟨P1,0+(xv.ia.length-1),none⟩) Gr]at zl;rw[Qq]at z0 zl;obtain rfl:=i1.addr Ga;have Gu:Hid (∀W c,Bl w W->∃a' A o c',Value.slice (some ⟨P1,0,none⟩) (xv.ia.length-1) c=.slice a' xv.ia.dropLast.length c'/\Fs W a' A o xv.ia.dropLast.length xv.ia.dropLast/\(a'=none->c'=0)):=fun W c hb=>by
   have hs:=Lb i1 hb;refine⟨some ⟨P1,0,none⟩,P1,0,c,by rw[List.length_dropLast],⟨rfl,fun h=>rfl,fun h=>hs.low (by omega),fun i hi=>?_,fun i hi=>?_⟩,fun h=>by cases h⟩
   ·rw[List.length_dropLast]at hi;rw[hs.cell i (by omega)];congr 2;rw[Qa,Qa,List.getElem?_dropLast,if_pos (by omega)]
   ·rw[List.length_dropLast]at hi;have:=hs.fit i (by omega);rw[Qa]at this ⊢;rw[List.getElem?_dropLast,if_pos (by omega)];exact this
  clear i1 hf hne;clear h hx Gc hxs ha hT Gj;generalize L.map KV.key=K0,Fa T 0=t0 at*;generalize Fj K0 ⟨xn,⟨xv.kind,xv.text,xv.ia.dropLast,xv.pj,xv.rq⟩,xd⟩ (Fy (xv.ia.getD (xv.ia.length-1) empty))=SM at*;generalize xv.ia.getD (xv.ia.length-1) empty=tl,xv.ia.getD 0 empty=th at*;generalize xv.ia.length=n1,xv.pj.length=n2,xv.rq.length=n3,xv.text=tx,xv.kind=kd at*;show Calls prog 105 #[v,.agg (kC xn kd tx (.slice (some ⟨P1,0,none⟩) n1 d1) (.slice p2 n2 d2) (.slice p3 n3 d3) xd),.bool true,.string ⟨#[82,80,79,80]⟩,.slice (some ⟨ab,ao,none⟩) 1 ac] w (Fh w B (SM));go_enter func105,ntmps105;go_upto_region 1 with fail;rw[Gh.out];go_wp2_with fail;refine(Gk.out W0 th).mono ?_;rintro e w1⟨r1,rfl,Gw,Gf⟩;have Gd:=Fc.bw r0 Gf r0.lt;have Gq:Bl w w1:=b0.trans (Gf.mono b0.size);obtain⟨u0,u1,u2,u3,u4,u5,u6⟩:=F6 Gd;have f3:=Gd.frozen 3;have C6:w1.cell? ⟨P1,n1-1,none⟩=some (.string tl):=(Gf.cell (p:=⟨P1,n1-1,none⟩) (by show P1<_;have:=b0.size;omega)).trans zl;clear y0 y1 y2 y3 y4 y5 y6 c0;have Gt:=r0.lt;have Gz:(0:Int)<=(n1:Int)-1:=by omega
  have Gx:(n1:Int)-1<(n1:Int):=by omega
  have Kb:(n1:Int)-1<=(d1:Int):=by omega
  have Ka:((n1:Int)-1).toNat=n1-1:=by omega
  have Gb:=Gd.lt;have Gl:w.heap.size<=w1.heap.size:=Gq.size;go_wp2_with fail;all_goals
   refine(Gk.out _ tl).mono ?_;rintro e w3⟨r3,rfl,Gp,Ge⟩;have Gm:Bl w w3:=(Gq.setCell (Qc _) _).trans (Ge.mono (by simpa[World.setCell]using Gl));have rS:=Fc.bw (Gd.set 3 _) Ge (by simpa[World.setCell]using Gb);have Gv:=fun x=>(Gp.set (q:=⟨w.heap.size,3,none⟩) (by simpa[World.setCell]using Gb) x).le (B':=w.heap.size) (by simpa[World.setCell]using Gl);have Kd:=rS.frozen 3;obtain⟨q0,q1,q2,q3,q4,q5,q6⟩:=F6 rS;clear rS Ge Gp u0 u1 u2 u3 u4 u5 u6;go_wp2_with fail;refine(HSET.out _ r3 _ (Gm.setCell (Qc _) _) (Gv _) (Gu.out _ _ (Gm.setCell (Qc _) _))).mono ?_;rintro e w2⟨⟨v',r',L',rfl,hm,ho,Gi,Gn⟩,b2⟩;have HF:Hid (Fh w B SM (.returned (.tuple #[v',r'])) w2):=⟨v',r',L',rfl,hm,ho,Gi,Gn⟩;clear hm ho Gi Gn;go_wp2;go_ret2;exact HF.out
theorem zp5(h:Fv w B v L)(hx:VOwn w B' x.key.val x.vi x.vp x.vr)(hxs:Hu x.key)(ha:Fs w aa ab ao 3 T)(hT:∀i,i<3->(Fa T i).size<=200)(hB:B<=w.heap.size):
  Calls prog 105 #[v,kvV x,.bool there,.string ⟨#[76,82,65,78,71,69]⟩,.slice aa 3 ac] w (Fh w B (Od .LRANGE (L.map KV.key) x.key there T)):=by
 have Gp:=hx.rd (fun t ht=>by have:=hxs.ia t ht;omega);obtain⟨p1,P1,d1,e1,i1,l1,m1⟩:=N2 hx.ia (fun t ht=>by have:=hxs.ia t ht;omega);obtain⟨p2,d2,e2⟩:=Fx hx.pj;obtain⟨p3,d3,e3⟩:=Fx hx.rq;obtain⟨⟨xn,xv,xd⟩,vi,vp,vr⟩:=x;dsimp only at e1 e2 e3 Gp hxs i1 l1;subst e1 e2 e3;have Gw:xv.ia.length<=20:=hxs.ni;obtain⟨W0,Gt,Gd,b0,r0⟩:=boxed w (kC xn xv.kind xv.text (.slice p1 xv.ia.length d1) (.slice p2 xv.pj.length d2) (.slice p3 xv.rq.length d3) xd) 47;have ES:=L4 h hB b0;have c0:=ha.cell 0 (by omega);rw[<-b0.cell (p:=⟨ab,ao+0,none⟩) (ha.low (by omega))]at c0;have s0:=hT 0 (by omega);have c1:=ha.cell 1 (by omega);rw[<-b0.cell (p:=⟨ab,ao+1,none⟩) (ha.low (by omega))]at c1;have s1:=hT 1 (by omega);have c2:=ha.cell 2 (by omega);rw[<-b0.cell (p:=⟨ab,ao+2,none⟩) (ha.low (by omega))]at c2;have s2:=hT 2 (by omega);have Gs:ab<w.heap.size:=ha.low (by omega);obtain rfl:=ha.addr (by omega);rw[Qy]at c0;change W0.cell? _=some (.string (Fa T 0))at c0;change W0.cell? _=some (.string (Fa T 1))at c1;change W0.cell? _=some (.string (Fa T 2))at c2;have Ge:=Tp (Fa T 1) (by omega);have Gf:=Tp (Fa T 2) (by omega);have Gr:=hER;have Gz:IntKind.i64.wrap ((xv.ia.length:Int)-1)=(xv.ia.length:Int)-1:=Kk.wrap_small (by omega) (by omega);obtain⟨i,j,Gh,Gx,Gy⟩:=Bf xv.ia.length (Fg (Fa T 1)).1 (Fg (Fa T 2)).1;have Gn:Hid (∀W,Cp 146 #[.int .i64 (xv.ia.length:Int),.int .i64 (Fg (Fa T 1)).1,.int .i64 (Fg (Fa T 2)).1] W fun e w'=>e=.returned (.tuple #[.int .i64 (i:Int),.int .i64 (j:Int)])/\w'=W):=fun W=>by
  have:=Sl.Ay xv.ia.length (Fg (Fa T 1)).1 (Fg (Fa T 2)).1 W;rw[Gh]at this;exact this
 have Gm:Hid (N3 xv.ia (Fg (Fa T 1)).1 (Fg (Fa T 2)).1=(xv.ia.take j).drop i):=by
  unfold Hid N3;rw[Gh];rfl
 have Gq:((xv.ia.take j).drop i).length=j-i:=by rw[Qu,Qn];omega
 have Gl:Hid (∀W a c,Bl w W->(i<j->a=some ⟨P1,i,none⟩)->Cp 142 #[.slice a (j-i) c] W (F9 W (He ((xv.ia.take j).drop i)))):=fun W a c hb hq=>by
  have hs:=Lb i1 hb;refine U9 a P1 i (j-i) c ((xv.ia.take j).drop i) W ⟨Gq,fun h=>hq (by omega),fun h=>hs.low (by omega),fun k hk=>?_,fun k hk=>?_⟩ (by omega)
  ·rw[show i+k=0+(i+k) by omega,hs.cell (i+k) (by omega)];congr 2;rw[Qa,Qa,List.getElem?_drop,List.getElem?_take,if_pos (by omega)]
  ·have:=hs.fit (i+k) (by omega);rw[Qa]at this ⊢;rw[List.getElem?_drop,List.getElem?_take,if_pos (by omega)];exact this
 have Gj:p1=none->d1=0:=fun e=>by
  rcases Joins.ownsRow_forms hx.ia with⟨h1,h2⟩|⟨A,c,h1⟩
  ·injection h1 with q1 q2 q3
  ·injection h1 with q1 q2 q3;rw[e]at q1;cases q1
 have Gk:0<xv.ia.length->p1=some ⟨P1,0,none⟩:=i1.addr;have Gi:p1≠none->∃A,p1=some ⟨A,0,none⟩:=fun e=>by
  rcases Joins.ownsRow_forms hx.ia with⟨h1,h2⟩|⟨A,c,h1⟩
  ·injection h1 with q1 q2 q3;exact absurd q1 e
  ·injection h1 with q1 q2 q3;exact⟨A,q1⟩
 obtain⟨y0,y1,y2,y3,y4,y5,y6⟩:=F6 r0;show Calls prog 105 #[v,.agg (kC xn xv.kind xv.text (.slice p1 xv.ia.length d1) (.slice p2 xv.pj.length d2) (.slice p3 xv.rq.length d3) xd),.bool there,.string ⟨#[76,82,65,78,71,69]⟩,.slice (some ⟨ab,ao,none⟩) 3 ac] w (Fh w B (if((Fg (Fa T 1)).2&&(Fg (Fa T 2)).2)=true then(L.map KV.key,He (N3 xv.ia (Fg (Fa T 1)).1 (Fg (Fa T 2)).1)) else(L.map KV.key,Fl F3)));rw[Gm.out];clear Gm Gh i1 Gq;clear h hx Gp hxs ha hT Gt;generalize L.map KV.key=K0,(Fg (Fa T 2)).1=z2,(Fg (Fa T 2)).2=ok2,(Fg (Fa T 1)).1=z1,(Fg (Fa T 1)).2=ok1,Fa T 0=t0 at*;generalize Fa T 1=t1,Fa T 2=t2,(xv.ia.take j).drop i=IS,xv.ia.length=n1,xv.pj.length=n2,xv.rq.length=n3,xv.text=tx,xv.kind=kd at*;cases ok1 with
 |false=>
  show Calls prog 105 #[v,.agg (kC xn kd tx (.slice p1 n1 d1) (.slice p2 n2 d2) (.slice p3 n3 d3) xd),.bool there,.string ⟨#[76,82,65,78,71,69]⟩,.slice (some ⟨ab,ao,none⟩) 3 ac] w (Fh w B (K0,Fl F3));go_enter func105,ntmps105;go_upto_region 1 with fail;rw[Gd.out];go_wp2_with fail;refine(Ge.out W0).mono ?_;rintro e w0⟨rfl,Gb⟩;subst Gb;go_wp2_with fail;refine(Gf.out w0).mono ?_;rintro e Gc⟨rfl,Ga⟩;subst Ga;go_wp2_with fail;refine(Gr.out _).mono ?_;rintro e w1⟨r,rfl,hr,hb⟩;have HF:Hid _:=ES.out (Fl F3) r Gc w1 (Qb _ _) hr hb;clear hr hb ES;go_wp2;go_ret2;exact HF.out
 |true=>
  cases ok2 with
  |false=>
   show Calls prog 105 #[v,.agg (kC xn kd tx (.slice p1 n1 d1) (.slice p2 n2 d2) (.slice p3 n3 d3) xd),.bool there,.string ⟨#[76,82,65,78,71,69]⟩,.slice (some ⟨ab,ao,none⟩) 3 ac] w (Fh w B (K0,Fl F3));go_enter func105,ntmps105;go_upto_region 1 with fail;rw[Gd.out];go_wp2_with fail;refine(Ge.out W0).mono ?_;rintro e w0⟨rfl,Gb⟩;subst Gb;go_wp2_with fail;refine(Gf.out w0).mono ?_;rintro e Gc⟨rfl,Ga⟩;subst Ga;go_wp2_with fail;refine(Gr.out _).mono ?_;rintro e w1⟨r,rfl,hr,hb⟩;have HF:Hid _:=ES.out (Fl F3) r Gc w1 (Qb _ _) hr hb;clear hr hb ES;go_wp2;go_ret2;exact HF.out
  |true=>
   show Calls prog 105 #[v,.agg (kC xn kd tx (.slice p1 n1 d1) (.slice p2 n2 d2) (.slice p3 n3 d3) xd),.bool there,.string ⟨#[76,82,65,78,71,69]⟩,.slice (some ⟨ab,ao,none⟩) 3 ac] w (Fh w B (K0,He IS));cases p1 with
   |none=>
    obtain rfl:=Gj rfl;obtain rfl:n1=0:=by omega
    obtain rfl:j=0:=by omega
    obtain rfl:i=0:=by omega
    clear Gj Gk Gi;go_enter func105,ntmps105;go_upto_region 1 with fail;rw[Gd.out];go_wp2_with fail;refine(Ge.out W0).mono ?_;rintro e w0⟨rfl,Gb⟩;subst Gb;go_wp2_with fail;refine(Gf.out w0).mono ?_;rintro e Gc⟨rfl,Ga⟩;subst Ga;go_wp2_with fail;refine(Gn.out Gc).mono ?_;rintro e w3⟨rfl,Gg⟩;subst Gg;go_wp2_with fail;refine(Gl.out _ _ _ b0 (fun h=>by omega)).mono ?_;rintro e w1⟨r,rfl,hr,hb⟩;have HF:Hid _:=ES.out (He IS) r w3 w1 (Qb _ _) hr hb;clear hr hb ES;go_wp2;go_ret2;exact HF.out
   |some pa=>
    obtain⟨A,hA⟩:=Gi (by simp);cases hA;have Gu:0<n1->A=P1:=fun h=>by have:=Gk h;simpa using this
    have Gv:j<=d1:=by omega
    clear Gj Gk Gi;go_enter func105,ntmps105;go_upto_region 1 with fail;rw[Gd.out];go_wp2_with fail;refine(Ge.out W0).mono ?_;rintro e w0⟨rfl,Gb⟩;subst Gb;go_wp2_with fail;refine(Gf.out w0).mono ?_;rintro e Gc⟨rfl,Ga⟩;subst Ga;go_wp2_with fail;refine(Gn.out Gc).mono ?_;rintro e w3⟨rfl,Gg⟩;subst Gg;go_wp2_with fail;all_goals
     refine(Gl.out _ _ _ b0 (fun h=>by first|omega|(obtain rfl:=Gu (by omega);rfl))).mono ?_;rintro e w1⟨r,rfl,hr,hb⟩;have HF:Hid _:=ES.out (He IS) r w3 w1 (Qb _ _) hr hb;clear hr hb ES;go_wp2;go_ret2;exact HF.out
end
theorem Ag{W w':World}{X:Nat}(h1:Bl w W)(hg:W.grownBy w' (some X))(hX:w.heap.size<=X):Bl w w':=
 ⟨hg.os.trans h1.os,hg.tape.trans h1.tape,hg.output.trans h1.output,Qj h1.size hg.size,fun k hk=>(hg.block k (Qr hk h1.size) (fun e=>by cases e;omega)).trans (h1.block k hk)⟩
theorem Al{V:Value}{L:List ByteArray}{A o:Nat}{S:List ByteArray}(h:Fz w B V L)(hs:Fs w a A o n S)(hc:a=none->c=0)(hn:n<=1048576)(hn2:L.length<=1048576)(hB:B<=w.heap.size):
  ∃a' c' w',(Builtin.append_ #[25,25] 25 #[V,.slice a n c]).run prog w=.ok (.slice a' (L.length+n) c') w'/\Fz w' B (.slice a' (L.length+n) c') (L++S)/\w.grownBy w' V.ownBlock:=by
 obtain⟨i0,hi,Gd,Gf,Gc⟩:=info_parts Tg;have hl:=hs.len;cases a with
 |none=>
  obtain rfl:n=0:=by
   rcases Nat.eq_zero_or_pos n with h|h
   ·exact h
   ·have:=hs.addr h;cases this
  obtain rfl:=hc rfl;obtain rfl:S=[]:=List.eq_nil_of_length_eq_zero hl;obtain⟨a',c',e⟩:=Fx h;subst e;exact⟨a',c',w,run_append_owned_none (P:=prog) w B 25 25 9 i0 1 underlying25 hi _ _ _ h,by rw[List.append_nil];exact h,Nl _ _⟩
 |some ad=>
  obtain⟨v',w',Gb,Ga,hg,_,_⟩:=run_append_own_at (P:=prog) w B 25 25 9 i0 _ 1 16 underlying25 hi Gd Gf Gc rfl (by decide) V L.length (G1 L) h ad n c (G1 S) (by simp[G1,hl]) (fun j u hj=>by
   have Ge:j<n:=by
    have:=(List.getElem?_eq_some_iff.1 hj).1;simp[G1]at this;omega
   obtain rfl:ad=⟨A,o,none⟩:=Option.some.inj (hs.addr (by omega));rw[Addr.add_lit];have hc:=hs.cell j Ge;rw[hc];simp[G1]at hj;obtain⟨t,ht,rfl⟩:=hj;rw[Qa,ht];rfl) (fun u hu=>by simp[G1]at hu;obtain⟨t,_,rfl⟩:=hu;rfl) (by unfold maxLen;omega) (by omega) hB
  obtain⟨a',c',e⟩:=Fx Ga;subst e;refine⟨a',c',w',Gb,?_,hg⟩;have e:G1 (L++S)=G1 L++G1 S:=by unfold G1;rw[List.map_append]
  unfold Fz;rw[Qi,hl,e];exact Ga
structure Oh (w:World) (a:Option Addr) (n c:Nat) (cur:List ByteArray):Prop where
 own:Fz w 0 (.slice a n c) cur
 len:cur.length=n
 fit:∀t∈cur,t.size<=1048576
theorem Oh.strs(h:Oh w a n c cur):∃A,Fs w a A 0 n cur/\(a=none->c=0):=by
 obtain⟨a',A,c',e,hs,_,_⟩:=N2 h.own h.fit;injection e with q1 q2 q3;subst q1 q3;rw[h.len]at hs;refine⟨A,hs,fun e=>?_⟩;rcases Joins.ownsRow_forms h.own with⟨h1,_⟩|⟨g,cap,h1⟩
 ·injection h1 with r1 r2 r3
 ·injection h1 with r1 r2 r3;rw[e]at r1;cases r1
theorem Oh.front(h:Oh w a n c cur)(t:ByteArray)(ht:t.size<=200)(hn:n<=1000):
  ∃a' c' w',(Builtin.append_ #[25,25] 25 #[.slice (some ⟨w.heap.size,0,none⟩) 1 1,.slice a n c]).run prog (w.alloc (.cells #[.string t] 9))=.ok (.slice a' (n+1) c') w'/\Oh w' a' (n+1) c' (t::cur)/\Bl w w':=by
 have Gb:Bl w (w.alloc (.cells #[.string t] 9)):=(Qb _ w).alloc (Qc _) _;have hE:Fz (w.alloc (.cells #[.string t] 9)) w.heap.size (.slice (some ⟨w.heap.size,0,none⟩) 1 1) [t]:=⟨rfl,.inr ⟨w.heap.size,1, #[.string t],rfl,Qc _,Fc.new w 9 _,Qc _,by unfold maxLen;omega,rfl,rfl⟩⟩;obtain⟨A,hs,hc⟩:=h.strs;obtain⟨a',c',w',Ga,ho,hg⟩:=Al hE (Lb hs Gb) hc (by omega) (by simp) Gb.size;rw[show[t].length+n=n+1 by simp;omega]at Ga ho
 exact⟨a',c',w',Ga,⟨L5 ho (Qs _),by simp[h.len],fun x hx=>by
  rcases List.mem_cons.1 hx with rfl|hx
  ·omega
  ·exact h.fit x hx⟩,Ag Gb hg (Qc _)⟩
theorem ztp(B B':Nat)(v:Value)(L:List KV)(x:KV)(there:Bool)(aa:Option Addr)(ab ao m ac:Nat)(T:List ByteArray)(w:World)(h:Fv w B v L)(hf:Lg (L.map KV.key))(hn:L.length<=500000)(hx:VOwn w B' x.key.val x.vi x.vp x.vr)(hxs:Hu x.key)(ha:Fs w aa ab ao m T)(hm:2<=m)(hm2:m<=20)(hT:∀i,i<m->(Fa T i).size<=200)(hB:B<=w.heap.size):
  Calls prog 105 #[v,kvV x,.bool there,.string ⟨#[76,80,85,83,72]⟩,.slice aa m ac] w (Fh w B (Od .LPUSH (L.map KV.key) x.key there T)):=by
 have Gi:=hx.rd (fun t ht=>by have:=hxs.ia t ht;omega);obtain⟨p1,d1,e1⟩:=Fx hx.ia;obtain⟨p2,d2,e2⟩:=Fx hx.pj;obtain⟨p3,d3,e3⟩:=Fx hx.rq;obtain⟨⟨xn,xv,xd⟩,vi,vp,vr⟩:=x;have Gc:=hx.ia;dsimp only at e1 e2 e3 Gi hxs Gc;subst e1 e2 e3;have Kw:xv.ia.length<=20:=hxs.ni;have Kj:=ha.len;have Kf:ab<w.heap.size:=ha.low (by omega);have Gt:Fs w aa ab ao m T:=ha;obtain rfl:=ha.addr (by omega);obtain⟨W0,Kl,Ki,b0,r0⟩:=boxed w (kC xn xv.kind xv.text (.slice p1 xv.ia.length d1) (.slice p2 xv.pj.length d2) (.slice p3 xv.rq.length d3) xd) 47;have ES:=L4 h hB b0;have Gv:Hid (∀W,Bl w W->∀i,i<m->W.cell? ⟨ab,ao+i,none⟩=some (.string (Fa T i))):=fun W hb i hi=>(Lb Gt hb).cell i hi;have Gy:Hid (∀i,i<m->(Fa T i).size<=200):=hT;have Kq:=hIN;have Kx:IntKind.i64.wrap ((xv.ia.length:Int)-1)=(xv.ia.length:Int)-1:=Kk.wrap_small (by omega) (by omega);have HSET:Hid (∀W rv va is,Bl w W->is.length<=100->(∀t∈is,t.size<=1048576)->Fr W w.heap.size rv (Fe (is.length:Int))->(∃a A o c,va=.slice a is.length c/\Fs W a A o is.length is/\(a=none->c=0))->Cp 147 #[v,.agg (kC xn xv.kind xv.text va (.slice p2 xv.pj.length d2) (.slice p3 xv.rq.length d3) xd),rv] W (fun e w'=>Fh w B (Fj (L.map KV.key) ⟨xn,⟨xv.kind,xv.text,is,xv.pj,xv.rq⟩,xd⟩ (Fe (is.length:Int))) e w'/\Bl W w')):=fun W rv va is hb h20 hit hr hva=>by
  have hk:N1 ⟨xn,⟨xv.kind,xv.text,is,xv.pj,xv.rq⟩,xd⟩:=⟨⟨hxs.fit.fit.text,by show is.length<=_;omega,hxs.fit.fit.pj,hxs.fit.fit.rq⟩,hxs.fit.name,hit⟩;have hv:VRd W (⟨xv.kind,xv.text,is,xv.pj,xv.rq⟩:Vl) va (.slice p2 xv.pj.length d2) (.slice p3 xv.rq.length d3):=⟨hva,(Gi.bw hb).pj,(Gi.bw hb).rq⟩;exact(Pv B v L ⟨⟨xn,⟨xv.kind,xv.text,is,xv.pj,xv.rq⟩,xd⟩,va,.slice p2 xv.pj.length d2,.slice p3 xv.rq.length d3⟩ rv (Fe (is.length:Int)) W (h.bw hb) hf hn hv hk hr (Qj hB hb.size) hb.size).mono fun e w' he=>⟨Mg.wide he hb,he.bel⟩
 have Kc:Hid (Oh W0 p1 xv.ia.length d1 xv.ia):=⟨L5 (Fw Gc b0) (Qs _),rfl,fun t ht=>by have:=hxs.ia t ht;omega⟩;obtain⟨y0,y1,y2,y3,y4,y5,y6⟩:=F6 r0;show Calls prog 105 #[v,.agg (kC xn xv.kind xv.text (.slice p1 xv.ia.length d1) (.slice p2 xv.pj.length d2) (.slice p3 xv.rq.length d3) xd),.bool there,.string ⟨#[76,80,85,83,72]⟩,.slice (some ⟨ab,ao,none⟩) m ac] w (Fh w B (Fj (L.map KV.key) ⟨xn,⟨xv.kind,xv.text,T.tail.reverse++xv.ia,xv.pj,xv.rq⟩,xd⟩ (Fe ((T.tail.length+xv.ia.length:Nat):Int))));have Ge:Hid (Fj (L.map KV.key) ⟨xn,⟨xv.kind,xv.text,T.tail.reverse++xv.ia,xv.pj,xv.rq⟩,xd⟩ (Fe ((T.tail.length+xv.ia.length:Nat):Int))=Fj (L.map KV.key) ⟨xn,⟨xv.kind,xv.text,((T.take m).drop 1).reverse++xv.ia,xv.pj,xv.rq⟩,xd⟩ (Fe (((((T.take m).drop 1).reverse++xv.ia).length:Nat):Int))):=by
  unfold Hid;rw[List.take_of_length_le (by omega),List.drop_one];simp
 rw[Ge.out];have Gg:Hid (∀is,is=((T.take m).drop 1).reverse++xv.ia->Fj (L.map KV.key) ⟨xn,⟨xv.kind,xv.text,((T.take m).drop 1).reverse++xv.ia,xv.pj,xv.rq⟩,xd⟩ (Fe (((((T.take m).drop 1).reverse++xv.ia).length:Nat):Int))=Fj (L.map KV.key) ⟨xn,⟨xv.kind,xv.text,is,xv.pj,xv.rq⟩,xd⟩ (Fe (is.length:Int))):=fun is e=>by rw[e]
 have Gs:Hid (∀k,1<=k->k<m->Fa T k::(((T.take k).drop 1).reverse++xv.ia)=((T.take (k+1)).drop 1).reverse++xv.ia):=fun k Gh hk=>by
  rw[Qo (by omega),List.drop_append_of_le_length (by rw[Qn];omega),List.reverse_append];simp[Fa,List.getD_eq_getElem?_getD,List.getElem?_eq_getElem (show k<T.length by omega)]
 have Gk:Hid (∀k,1<=k->k<=m->(((T.take k).drop 1).reverse++xv.ia).length<=100):=fun k Gh hk=>by
  rw[Qi,List.length_reverse,Qu,Qn];omega
 have Gz:Hid (((T.take 1).drop 1).reverse++xv.ia=xv.ia):=by
  unfold Hid;rw[List.drop_eq_nil_of_le (by rw[Qn];omega)];rfl
 clear h hf hx Gi hxs ha Gt hT Kl Gc Ge;generalize Fj (L.map KV.key) ⟨xn,⟨xv.kind,xv.text,((T.take m).drop 1).reverse++xv.ia,xv.pj,xv.rq⟩,xd⟩ (Fe (((((T.take m).drop 1).reverse++xv.ia).length:Nat):Int))=SM at*;generalize L.map KV.key=K0 at*;generalize hn1:xv.ia.length=n1 at*;generalize xv.pj.length=n2,xv.rq.length=n3,xv.text=tx,xv.kind=kd at*;go_enter func105,ntmps105;go_upto_region 1 with fail;rw[Ki.out];go_wp2_with fail;go_loopw [21] (fun q wr=>∃(k:Nat) (a:Option Addr) (n c:Nat),1<=k/\k<=m/\q=.int .i64 k/\n<=100/\Hid (Oh wr a n c (((T.take k).drop 1).reverse++xv.ia))/\Hid (Fc wr w.heap.size 47 (kC xn kd tx (.slice a n c) (.slice p2 n2 d2) (.slice p3 n3 d3) xd))/\Bl w wr) (fun q _=>m-(intOf q).toNat)
 case atStart=>exact⟨1,p1,n1,d1,by omega,by omega,rfl,by omega,by unfold Hid;rw[Gz.out];exact Kc.out,r0,b0⟩
 case round=>
  obtain⟨k,a,n,c,Gh,hk,rfl,Kb,hC,hR,bk⟩:=hrel;clear y0 y1 y2 y3 y4 y5 y6;obtain⟨y0,y1,y2,y3,y4,y5,y6⟩:=F6 hR.out;by_cases hlt:k<m
  ·have ck:=Gv.out wr bk k hlt;have sk:=Gy.out k hlt;have Gp:=Gs.out k Gh hlt;have Kr:=Gk.out (k+1) (by omega) (by omega);have Ka:Oh wr.drew a n c (((T.take k).drop 1).reverse++xv.ia):=⟨hC.out.own,hC.out.len,hC.out.fit⟩;obtain⟨a',c',w',Ga,Gj,Gr⟩:=Ka.front (Fa T k) sk (by omega);rw[Gp]at Gj;have Gl:n+1<=100:=by have:=Gj.len;omega
   have Gf:Hid (Oh w' a' (n+1) c' (((T.take (k+1)).drop 1).reverse++xv.ia)):=Gj;clear Gj Gp Kr Ka;generalize Fa T k=t at*;have Gn:(Builtin.append_ #[25,25] 25 #[.slice (some ⟨wr.heap.size,0,none⟩) 1 1,.slice a n c]).run prog ((wr.alloc (.cells #[.string t] 9)).drew)=.ok (.slice a' (n+1) c') w':=Ga;have Kv:Bl w w':=bk.trans ((below_drewN (Qb _ wr) 1).mono bk.size|>.trans (Gr.mono bk.size));have Gb:=Fc.lt hR.out;have Gd:Fc w' w.heap.size 47 (kC xn kd tx (.slice a n c) (.slice p2 n2 d2) (.slice p3 n3 d3) xd):=Fc.bw (Fc.bw hR.out (below_drewN (Qb _ wr) 1) Gb) Gr (by exact Gb);have f3:=Gd.frozen 3;have z3:=Gd.cell 3;simp at z3;have g3:(wr.alloc (.cells #[.string t] 9)).cell? ⟨w.heap.size,3,none⟩=some (.slice a n c):=(((Qb wr.heap.size wr).alloc (Qc _) _).cell (p:=⟨w.heap.size,3,none⟩) Gb).trans y3;have Km:Hid (Fc (w'.setCell ⟨w.heap.size,3,none⟩ (.slice a' (n+1) c')) w.heap.size 47 (kC xn kd tx (.slice a' (n+1) c') (.slice p2 n2 d2) (.slice p3 n3 d3) xd)):=Gd.set 3 _
   have Ku:Hid (Oh (w'.setCell ⟨w.heap.size,3,none⟩ (.slice a' (n+1) c')) a' (n+1) c' (((T.take (k+1)).drop 1).reverse++xv.ia)):=⟨Lt Gf.out.own fun g hg=>by
    obtain⟨C,Ko⟩:=M3 Gf.out.own hg
    exact Below.heap_setCell _ _ _ _ (fun e=>by
     have e2:g=w.heap.size:=e;subst e2;exact absurd (Hp.N9 Ko Gd) (by decide)),Gf.out.len,Gf.out.fit⟩
   clear Ga Gd hR hC Gf;go_wp2_with fail
   go_region_law (first
    |refine Ob rfl (.tmp 118) (.tmp 121) 25 rfl (by simp[Act.eval]) (by simp[Act.eval]) Gn ?_)
   all_goals
    go_wp2;go_roundw
    case rel=>exact⟨k+1,a',n+1,c',by omega,by omega,by go_num,Gl,Ku,Km,Kv.setCell (Qc _) _⟩
    case measure=>simp[intOf];omega
  ·obtain rfl:k=m:=by omega
   have Gx:(((T.take k).drop 1).reverse++xv.ia).length<=100:=Gk.out k Gh (Qc _);have Gw:=Gg.out _ rfl;have Gm:=hC.out.len;have Kd:Hid (∀W rv,Bl w W->Bl wr W->Fr W w.heap.size rv (Fe (n:Int))->Cp 147 #[v,.agg (kC xn kd tx (.slice a n c) (.slice p2 n2 d2) (.slice p3 n3 d3) xd),rv] W (fun e w'=>Fh w B SM e w'/\Bl W w')):=fun W rv hb hb2 hr=>by
    rw[Gw];rw[<-Gm]at hr;obtain⟨A,hs,Kp⟩:=hC.out.strs;exact HSET.out W rv (.slice a n c) _ hb Gx hC.out.fit hr ⟨a,A,0,c,by rw[Gm],by rw[Gm];exact Lb hs hb2,Kp⟩
   have Gb:=Fc.lt hR.out;clear Gw Gx Gg HSET Gk Gs Gv Gy hC hR Kc Gz ES;go_wp2_with fail;go_region_held3 (fun W=>W.cell? ⟨w.heap.size,0,none⟩=some (.string xn)/\W.cell? ⟨w.heap.size,1,none⟩=some (.int .i64 kd)/\W.cell? ⟨w.heap.size,2,none⟩=some (.string tx)/\W.cell? ⟨w.heap.size,3,none⟩=some (.slice a n c)/\W.cell? ⟨w.heap.size,4,none⟩=some (.slice p2 n2 d2)/\W.cell? ⟨w.heap.size,5,none⟩=some (.slice p3 n3 d3)/\W.cell? ⟨w.heap.size,6,none⟩=some (.int .i64 xd))
    (first|exact⟨y0,y1,y2,y3,y4,y5,y6⟩|exact(up7 b1 Gb ⟨y0,y1,y2,y3,y4,y5,y6⟩)|exact(up7 b2 Kn (up7 b1 Gb ⟨y0,y1,y2,y3,y4,y5,y6⟩)))
    (first
     |(go_at_call 141;refine(Kq.out _ (n:Int)).mono ?_;rintro e w1⟨r,rfl,hr,b1⟩;have bd:Bl wr w1:=(below_drewN (Qb _ wr) 1).trans b1;have Kh:Fr w1 w.heap.size r (Fe (n:Int)):=hr.le bk.size;have Kn:w.heap.size<w1.heap.size:=Qr Gb bd.size;have Kt:Bl w w1:=bk.trans (bd.mono bk.size))
     |(go_at_call 147;refine(Kd.out _ _ Kt bd Kh).mono ?_;rintro e w2⟨⟨v',r',L',rfl,hm,ho,Gq,Gu⟩,b2⟩;have HF:Hid (Fh w B SM (.returned (.tuple #[v',r'])) w2):=⟨v',r',L',rfl,hm,ho,Gq,Gu⟩;clear hm ho Gq Gu))
   all_goals
    go_wp2;go_ret2;exact HF.out
end
section
open Tryz
open _root_.ByteArray (empty)
open Go.RowKit Go.Sort
open Kk (Rk rk0 G8 Mp F1 L7 Hv G9 Fo G6 encR F7 Le str_eq)
variable {wr W w:World} {a:Option Addr} {n c:Nat} {cur T:List ByteArray}
theorem S9{X:Nat}(h:Oh wr a n c cur)(hn:n<=1000)(hW:Bl wr W)(hX:Fc W X 9 #[])(hXw:wr.heap.size<=X):
  ∃a1 c1 w1,(Builtin.append_ #[25,25] 25 #[.slice (some ⟨X,0,none⟩) 0 0,.slice a n c]).run prog W=.ok (.slice a1 n c1) w1/\Fz w1 wr.heap.size (.slice a1 n c1) cur/\Bl wr w1/\W.grownBy w1 (some X):=by
 obtain⟨A,hs,hc⟩:=h.strs;have hE:Fz W wr.heap.size (.slice (some ⟨X,0,none⟩) 0 0) []:=Ui hX hXw;obtain⟨a1,c1,w1,Ga,ho,hg⟩:=Al hE (Lb hs hW) hc (by omega) (by simp) hW.size;rw[show([]:List ByteArray).length+n=n by simp]at Ga ho;exact⟨a1,c1,w1,Ga,ho,Ag hW hg hXw,hg⟩
theorem V7{Y:Nat}{t:ByteArray}(ho:Fz W wr.heap.size (.slice a n c) cur)(hl:cur.length=n)(hf:∀x∈cur,x.size<=1048576)(hn:n<=1000)(hW:Bl wr W)(hY:Fc W Y 9 #[.string t])(ht:t.size<=200):
  ∃a2 c2 w2,(Builtin.append_ #[25,25] 25 #[.slice a n c,.slice (some ⟨Y,0,none⟩) 1 1]).run prog W=.ok (.slice a2 (n+1) c2) w2/\Oh w2 a2 (n+1) c2 (cur++ [t])/\Bl wr w2:=by
 have hs:Fs W (some ⟨Y,0,none⟩) Y 0 1 [t]:=⟨rfl,fun _=>rfl,fun _=>hY.lt,fun i hi=>by
  obtain rfl:i=0:=by omega
  exact(hY.cell 0).trans rfl,fun i hi=>by
  obtain rfl:i=0:=by omega
  show t.size<=_;omega⟩
 obtain⟨a2,c2,w2,Ga,Gb,hg⟩:=Al ho hs (fun e=>by cases e) (by omega) (by omega) hW.size;rw[hl]at Ga Gb;refine⟨a2,c2,w2,Ga,⟨L5 Gb (Qs _),by simp[hl],fun x hx=>?_⟩,?_⟩
 ·rcases List.mem_append.1 hx with hx|hx
  ·exact hf x hx
  ·rw[List.mem_singleton.1 hx];omega
 ·cases hb:(Value.slice a n c).ownBlock with
  |none=>
   rw[hb]at hg;exact⟨hg.os.trans hW.os,hg.tape.trans hW.tape,hg.output.trans hW.output,Qj hW.size hg.size,fun k hk=>(hg.block k (Qr hk hW.size) (fun e=>by cases e)).trans (hW.block k hk)⟩
  |some g=>
   rw[hb]at hg;exact Ag hW hg (Hf ho hb).1
theorem ztn(B B':Nat)(v:Value)(L:List KV)(x:KV)(there:Bool)(aa:Option Addr)(ab ao m ac:Nat)(T:List ByteArray)(w:World)(h:Fv w B v L)(hf:Lg (L.map KV.key))(hn:L.length<=500000)(hx:VOwn w B' x.key.val x.vi x.vp x.vr)(hxs:Hu x.key)(ha:Fs w aa ab ao m T)(hm:2<=m)(hm2:m<=20)(hT:∀i,i<m->(Fa T i).size<=200)(hB:B<=w.heap.size):
  Calls prog 105 #[v,kvV x,.bool there,.string ⟨#[82,80,85,83,72]⟩,.slice aa m ac] w (Fh w B (Od .RPUSH (L.map KV.key) x.key there T)):=by
 have Gn:=hx.rd (fun t ht=>by have:=hxs.ia t ht;omega);obtain⟨p1,d1,e1⟩:=Fx hx.ia;obtain⟨p2,d2,e2⟩:=Fx hx.pj;obtain⟨p3,d3,e3⟩:=Fx hx.rq;obtain⟨⟨xn,xv,xd⟩,vi,vp,vr⟩:=x;have Gb:=hx.ia;dsimp only at e1 e2 e3 Gn hxs Gb;subst e1 e2 e3;have Su:xv.ia.length<=20:=hxs.ni;have Sj:=ha.len;have Kr:ab<w.heap.size:=ha.low (by omega);have Gx:Fs w aa ab ao m T:=ha;obtain rfl:=ha.addr (by omega);obtain⟨W0,Sk,Sg,b0,r0⟩:=boxed w (kC xn xv.kind xv.text (.slice p1 xv.ia.length d1) (.slice p2 xv.pj.length d2) (.slice p3 xv.rq.length d3) xd) 47;have ES:=L4 h hB b0;have Kn:Hid (∀W,Bl w W->∀i,i<m->W.cell? ⟨ab,ao+i,none⟩=some (.string (Fa T i))):=fun W hb i hi=>(Lb Gx hb).cell i hi;have Kp:Hid (∀i,i<m->(Fa T i).size<=200):=hT;have Kx:=hIN;have Sx:IntKind.i64.wrap ((xv.ia.length:Int)-1)=(xv.ia.length:Int)-1:=Kk.wrap_small (by omega) (by omega);have HSET:Hid (∀W rv va is,Bl w W->is.length<=100->(∀t∈is,t.size<=1048576)->Fr W w.heap.size rv (Fe (is.length:Int))->(∃a A o c,va=.slice a is.length c/\Fs W a A o is.length is/\(a=none->c=0))->Cp 147 #[v,.agg (kC xn xv.kind xv.text va (.slice p2 xv.pj.length d2) (.slice p3 xv.rq.length d3) xd),rv] W (fun e w'=>Fh w B (Fj (L.map KV.key) ⟨xn,⟨xv.kind,xv.text,is,xv.pj,xv.rq⟩,xd⟩ (Fe (is.length:Int))) e w'/\Bl W w')):=fun W rv va is hb h20 hit hr hva=>by
  have hk:N1 ⟨xn,⟨xv.kind,xv.text,is,xv.pj,xv.rq⟩,xd⟩:=⟨⟨hxs.fit.fit.text,by show is.length<=_;omega,hxs.fit.fit.pj,hxs.fit.fit.rq⟩,hxs.fit.name,hit⟩;have hv:VRd W (⟨xv.kind,xv.text,is,xv.pj,xv.rq⟩:Vl) va (.slice p2 xv.pj.length d2) (.slice p3 xv.rq.length d3):=⟨hva,(Gn.bw hb).pj,(Gn.bw hb).rq⟩;exact(Pv B v L ⟨⟨xn,⟨xv.kind,xv.text,is,xv.pj,xv.rq⟩,xd⟩,va,.slice p2 xv.pj.length d2,.slice p3 xv.rq.length d3⟩ rv (Fe (is.length:Int)) W (h.bw hb) hf hn hv hk hr (Qj hB hb.size) hb.size).mono fun e w' he=>⟨Mg.wide he hb,he.bel⟩
 have Kf:Hid (Oh W0 p1 xv.ia.length d1 xv.ia):=⟨L5 (Fw Gb b0) (Qs _),rfl,fun t ht=>by have:=hxs.ia t ht;omega⟩;obtain⟨y0,y1,y2,y3,y4,y5,y6⟩:=F6 r0;show Calls prog 105 #[v,.agg (kC xn xv.kind xv.text (.slice p1 xv.ia.length d1) (.slice p2 xv.pj.length d2) (.slice p3 xv.rq.length d3) xd),.bool there,.string ⟨#[82,80,85,83,72]⟩,.slice (some ⟨ab,ao,none⟩) m ac] w (Fh w B (Fj (L.map KV.key) ⟨xn,⟨xv.kind,xv.text,xv.ia++T.tail,xv.pj,xv.rq⟩,xd⟩ (Fe ((xv.ia.length+T.tail.length:Nat):Int))));have Gj:Hid (Fj (L.map KV.key) ⟨xn,⟨xv.kind,xv.text,xv.ia++T.tail,xv.pj,xv.rq⟩,xd⟩ (Fe ((xv.ia.length+T.tail.length:Nat):Int))=Fj (L.map KV.key) ⟨xn,⟨xv.kind,xv.text,xv.ia++(T.take m).drop 1,xv.pj,xv.rq⟩,xd⟩ (Fe (((xv.ia++(T.take m).drop 1).length:Nat):Int))):=by
  unfold Hid;rw[List.take_of_length_le (by omega),List.drop_one];simp
 rw[Gj.out];have Gk:Hid (∀is,is=xv.ia++(T.take m).drop 1->Fj (L.map KV.key) ⟨xn,⟨xv.kind,xv.text,xv.ia++(T.take m).drop 1,xv.pj,xv.rq⟩,xd⟩ (Fe (((xv.ia++(T.take m).drop 1).length:Nat):Int))=Fj (L.map KV.key) ⟨xn,⟨xv.kind,xv.text,is,xv.pj,xv.rq⟩,xd⟩ (Fe (is.length:Int))):=fun is e=>by rw[e]
 have Km:Hid (∀k,1<=k->k<m->(xv.ia++(T.take k).drop 1)++ [Fa T k]=xv.ia++(T.take (k+1)).drop 1):=fun k Gm hk=>by
  rw[Qo (by omega),List.drop_append_of_le_length (by rw[Qn];omega),List.append_assoc];simp[Fa,List.getD_eq_getElem?_getD,List.getElem?_eq_getElem (show k<T.length by omega)]
 have Gt:Hid (∀k,1<=k->k<=m->(xv.ia++(T.take k).drop 1).length<=100):=fun k Gm hk=>by
  rw[Qi,Qu,Qn];omega
 have Kb:Hid (xv.ia++(T.take 1).drop 1=xv.ia):=by
  unfold Hid;rw[List.drop_eq_nil_of_le (by rw[Qn];omega),List.append_nil]
 clear h hf hx Gn hxs ha Gx hT Sk Gb Gj;generalize Fj (L.map KV.key) ⟨xn,⟨xv.kind,xv.text,xv.ia++(T.take m).drop 1,xv.pj,xv.rq⟩,xd⟩ (Fe (((xv.ia++(T.take m).drop 1).length:Nat):Int))=SM at*;generalize L.map KV.key=K0 at*;generalize hn1:xv.ia.length=n1 at*;generalize xv.pj.length=n2,xv.rq.length=n3,xv.text=tx,xv.kind=kd at*;go_enter func105,ntmps105;go_upto_region 1 with fail;rw[Sg.out];go_wp2_with fail;go_loopw [21] (fun q wr=>∃(k:Nat) (a:Option Addr) (n c:Nat),1<=k/\k<=m/\q=.int .i64 k/\n<=100/\Hid (Oh wr a n c (xv.ia++(T.take k).drop 1))/\Hid (Fc wr w.heap.size 47 (kC xn kd tx (.slice a n c) (.slice p2 n2 d2) (.slice p3 n3 d3) xd))/\Bl w wr) (fun q _=>m-(intOf q).toNat)
 case atStart=>exact⟨1,p1,n1,d1,by omega,by omega,rfl,by omega,by unfold Hid;rw[Kb.out];exact Kf.out,r0,b0⟩
 case round=>
  obtain⟨k,a,n,c,Gm,hk,rfl,Kq,hC,hR,bk⟩:=hrel;clear y0 y1 y2 y3 y4 y5 y6;obtain⟨y0,y1,y2,y3,y4,y5,y6⟩:=F6 hR.out;by_cases hlt:k<m
  ·have ck:=Kn.out wr bk k hlt;have sk:=Kp.out k hlt;have Gv:=Km.out k Gm hlt;have Ky:=Gt.out (k+1) (by omega) (by omega);have Ga:=Fc.lt hR.out;generalize Fa T k=t at*;have Kh:Bl wr ((wr.alloc (.cells #[] 9)).drew):=below_drewN ((Qb _ wr).alloc (Qc _) _) 1;obtain⟨aA,cA,wA,Kv,oA,bA,gA⟩:=S9 (W:=(wr.alloc (.cells #[] 9)).drew) (X:=wr.heap.size) hC.out (by omega) Kh (Fc.new wr 9 #[]) (Qc _);have Kj:Bl wr (wA.alloc (.cells #[.string t] 9)):=bA.alloc bA.size _;obtain⟨Gg,Gd,Gp,Gs,CA,BA⟩:=V7 (W:=wA.alloc (.cells #[.string t] 9)) (Y:=wA.heap.size) (t:=t) (Fw oA ((Qb _ wA).alloc (Qc _) _)) hC.out.len hC.out.fit (by omega) Kj (Fc.new wA 9 _) sk;have Kl:Bl wr (((wr.alloc (.cells #[] 9)).alloc (.cells #[.string t] 9)).drew):=below_drewN (Joins.below_alloc2 wr _ _) 1;have xB:Fc (((wr.alloc (.cells #[] 9)).alloc (.cells #[.string t] 9)).drew) wr.heap.size 9 #[]:=(Fc.bw (Fc.new wr 9 #[]) ((Qb _ (wr.alloc (.cells #[] 9))).alloc (Qc _) (.cells #[.string t] 9)) (by simp):Fc ((wr.alloc (.cells #[] 9)).alloc (.cells #[.string t] 9)) wr.heap.size 9 #[]);have yB:Fc (((wr.alloc (.cells #[] 9)).alloc (.cells #[.string t] 9)).drew) (wr.heap.size+1) 9 #[.string t]:=by
    have:=Fc.new (wr.alloc (.cells #[] 9)) 9 #[.string t];simp only[World.size_alloc]at this;exact this
   obtain⟨aB,cB,wB,Si,oB,bB,gB⟩:=S9 (W:=((wr.alloc (.cells #[] 9)).alloc (.cells #[.string t] 9)).drew) (X:=wr.heap.size) hC.out (by omega) Kl xB (Qc _);have Gz:Fc wB (wr.heap.size+1) 9 #[.string t]:=(gB.block (wr.heap.size+1) yB.lt (fun e=>by have:=Option.some.inj e;omega)).trans yB;obtain⟨Gf,Gi,Gr,Ku,CB,BB⟩:=V7 (W:=wB) (Y:=wr.heap.size+1) (t:=t) oB hC.out.len hC.out.fit (by omega) bB Gz sk;have Kc:Bl wr (((wr.alloc (.cells #[.string t] 9)).alloc (.cells #[] 9)).drew):=below_drewN (Joins.below_alloc2 wr _ _) 1;have yC:Fc (((wr.alloc (.cells #[.string t] 9)).alloc (.cells #[] 9)).drew) wr.heap.size 9 #[.string t]:=(Fc.bw (Fc.new wr 9 #[.string t]) ((Qb _ (wr.alloc (.cells #[.string t] 9))).alloc (Qc _) (.cells #[] 9)) (by simp):Fc ((wr.alloc (.cells #[.string t] 9)).alloc (.cells #[] 9)) wr.heap.size 9 #[.string t]);have xC:Fc (((wr.alloc (.cells #[.string t] 9)).alloc (.cells #[] 9)).drew) (wr.heap.size+1) 9 #[]:=by
    have:=Fc.new (wr.alloc (.cells #[.string t] 9)) 9 #[];simp only[World.size_alloc]at this;exact this
   obtain⟨aC,cC,wC,Sh,oC,bC,gC⟩:=S9 (W:=((wr.alloc (.cells #[.string t] 9)).alloc (.cells #[] 9)).drew) (X:=wr.heap.size+1) hC.out (by omega) Kc xC (by omega);have Ki:Fc wC wr.heap.size 9 #[.string t]:=(gC.block wr.heap.size yC.lt (fun e=>by have:=Option.some.inj e;omega)).trans yC;obtain⟨Ge,Gh,Gq,Sc,CC,BC⟩:=V7 (W:=wC) (Y:=wr.heap.size) (t:=t) oC hC.out.len hC.out.fit (by omega) bC Ki sk;rw[Gv]at CA CB CC;have Gc:n+1<=100:=by have:=CA.len;omega
   clear Ky;have RA:Fc Gp w.heap.size 47 (kC xn kd tx (.slice a n c) (.slice p2 n2 d2) (.slice p3 n3 d3) xd):=Fc.bw hR.out BA Ga;have Sv:=RA.frozen 3;have Sq:=RA.cell 3;have So:Hid (Fc (Gp.setCell ⟨w.heap.size,3,none⟩ (.slice Gg (n+1) Gd)) w.heap.size 47 (kC xn kd tx (.slice Gg (n+1) Gd) (.slice p2 n2 d2) (.slice p3 n3 d3) xd)):=RA.set 3 _
   have Sa:Hid (Oh (Gp.setCell ⟨w.heap.size,3,none⟩ (.slice Gg (n+1) Gd)) Gg (n+1) Gd (xv.ia++(T.take (k+1)).drop 1)):=⟨Lt CA.own fun g hg=>by
    obtain⟨C,Gl⟩:=M3 CA.own hg
    exact Below.heap_setCell _ _ _ _ (fun e=>by
     have e2:g=w.heap.size:=e;subst e2;exact absurd (Hp.N9 Gl RA) (by decide)),CA.len,CA.fit⟩
   have Kz:Hid (Bl w (Gp.setCell ⟨w.heap.size,3,none⟩ (.slice Gg (n+1) Gd))):=(bk.trans (BA.mono bk.size)).setCell (Qc _) _;have RB:Fc Gr w.heap.size 47 (kC xn kd tx (.slice a n c) (.slice p2 n2 d2) (.slice p3 n3 d3) xd):=Fc.bw hR.out BB Ga;have Sw:=RB.frozen 3;have Se:=RB.cell 3;have Ss:Hid (Fc (Gr.setCell ⟨w.heap.size,3,none⟩ (.slice Gf (n+1) Gi)) w.heap.size 47 (kC xn kd tx (.slice Gf (n+1) Gi) (.slice p2 n2 d2) (.slice p3 n3 d3) xd)):=RB.set 3 _
   have Sp:Hid (Oh (Gr.setCell ⟨w.heap.size,3,none⟩ (.slice Gf (n+1) Gi)) Gf (n+1) Gi (xv.ia++(T.take (k+1)).drop 1)):=⟨Lt CB.own fun g hg=>by
    obtain⟨C,Gl⟩:=M3 CB.own hg
    exact Below.heap_setCell _ _ _ _ (fun e=>by
     have e2:g=w.heap.size:=e;subst e2;exact absurd (Hp.N9 Gl RB) (by decide)),CB.len,CB.fit⟩
   have Sb:Hid (Bl w (Gr.setCell ⟨w.heap.size,3,none⟩ (.slice Gf (n+1) Gi))):=(bk.trans (BB.mono bk.size)).setCell (Qc _) _;have RC:Fc Gq w.heap.size 47 (kC xn kd tx (.slice a n c) (.slice p2 n2 d2) (.slice p3 n3 d3) xd):=Fc.bw hR.out BC Ga;have Sy:=RC.frozen 3;have Sf:=RC.cell 3;have St:Hid (Fc (Gq.setCell ⟨w.heap.size,3,none⟩ (.slice Ge (n+1) Gh)) w.heap.size 47 (kC xn kd tx (.slice Ge (n+1) Gh) (.slice p2 n2 d2) (.slice p3 n3 d3) xd)):=RC.set 3 _
   have Sn:Hid (Oh (Gq.setCell ⟨w.heap.size,3,none⟩ (.slice Ge (n+1) Gh)) Ge (n+1) Gh (xv.ia++(T.take (k+1)).drop 1)):=⟨Lt CC.own fun g hg=>by
    obtain⟨C,Gl⟩:=M3 CC.own hg
    exact Below.heap_setCell _ _ _ _ (fun e=>by
     have e2:g=w.heap.size:=e;subst e2;exact absurd (Hp.N9 Gl RC) (by decide)),CC.len,CC.fit⟩
   have Sm:Hid (Bl w (Gq.setCell ⟨w.heap.size,3,none⟩ (.slice Ge (n+1) Gh))):=(bk.trans (BC.mono bk.size)).setCell (Qc _) _;simp at Sq Se Sf;have k0:(wr.alloc (.cells #[] 9)).cell? ⟨w.heap.size,3,none⟩=some (.slice a n c):=(((Qb wr.heap.size wr).alloc (Qc _) _).cell (p:=⟨w.heap.size,3,none⟩) Ga).trans y3;have k1:(wr.alloc (.cells #[.string t] 9)).cell? ⟨w.heap.size,3,none⟩=some (.slice a n c):=(((Qb wr.heap.size wr).alloc (Qc _) _).cell (p:=⟨w.heap.size,3,none⟩) Ga).trans y3;have k2:((wr.alloc (.cells #[] 9)).alloc (.cells #[.string t] 9)).cell? ⟨w.heap.size,3,none⟩=some (.slice a n c):=((Joins.below_alloc2 wr _ _).cell (p:=⟨w.heap.size,3,none⟩) Ga).trans y3;have k3:((wr.alloc (.cells #[.string t] 9)).alloc (.cells #[] 9)).cell? ⟨w.heap.size,3,none⟩=some (.slice a n c):=((Joins.below_alloc2 wr _ _).cell (p:=⟨w.heap.size,3,none⟩) Ga).trans y3;have Kd:ab<wr.heap.size:=by have:=bk.size;omega
   have j0:(wr.alloc (.cells #[] 9)).cell? ⟨ab,ao+k,none⟩=some (.string t):=(((Qb wr.heap.size wr).alloc (Qc _) _).cell (p:=⟨ab,ao+k,none⟩) Kd).trans ck;have jA:wA.cell? ⟨ab,ao+k,none⟩=some (.string t):=(bA.cell (p:=⟨ab,ao+k,none⟩) Kd).trans ck;clear oA oB oC gA gB gC xB yB xC yC Gz Ki Kh Kl Kc bA Kj bB bC BA BB BC CA CB CC RA RB RC hR hC Gv;go_wp2_with fail
   go_region_law (first
    |refine Ob rfl (.tmp 125) (.tmp 128) 25 rfl (by simp[Act.eval]) (by simp[Act.eval]) Kv ?_
    |refine Ob rfl (.tmp 125) (.tmp 128) 25 rfl (by simp[Act.eval]) (by simp[Act.eval]) Si ?_
    |refine Ob rfl (.tmp 125) (.tmp 128) 25 rfl (by simp[Act.eval]) (by simp[Act.eval]) Sh ?_
    |refine Ob rfl (.tmp 129) (.tmp 134) 25 rfl (by simp[Act.eval]) (by simp[Act.eval]) Gs ?_
    |refine Ob rfl (.tmp 129) (.tmp 134) 25 rfl (by simp[Act.eval]) (by simp[Act.eval]) Ku ?_
    |refine Ob rfl (.tmp 129) (.tmp 134) 25 rfl (by simp[Act.eval]) (by simp[Act.eval]) Sc ?_)
   all_goals
    go_wp2;go_roundw
    case rel=>
     first
     |exact⟨k+1,Gg,n+1,Gd,by omega,by omega,by go_num,Gc,Sa,So,Kz.out⟩
     |exact⟨k+1,Gf,n+1,Gi,by omega,by omega,by go_num,Gc,Sp,Ss,Sb.out⟩
     |exact⟨k+1,Ge,n+1,Gh,by omega,by omega,by go_num,Gc,Sn,St,Sm.out⟩
    case measure=>simp[intOf];omega
  ·obtain rfl:k=m:=by omega
   have Ka:(xv.ia++(T.take k).drop 1).length<=100:=Gt.out k Gm (Qc _);have Ko:=Gk.out _ rfl;have Gu:=hC.out.len;have Sd:Hid (∀W rv,Bl w W->Bl wr W->Fr W w.heap.size rv (Fe (n:Int))->Cp 147 #[v,.agg (kC xn kd tx (.slice a n c) (.slice p2 n2 d2) (.slice p3 n3 d3) xd),rv] W (fun e w'=>Fh w B SM e w'/\Bl W w')):=fun W rv hb hb2 hr=>by
    rw[Ko];rw[<-Gu]at hr;obtain⟨A,hs,Kw⟩:=hC.out.strs;exact HSET.out W rv (.slice a n c) _ hb Ka hC.out.fit hr ⟨a,A,0,c,by rw[Gu],by rw[Gu];exact Lb hs hb2,Kw⟩
   have Ga:=Fc.lt hR.out;clear Ko Ka Gk HSET Gt Km Kn Kp hC hR Kf Kb ES;go_wp2_with fail;go_region_held3 (fun W=>W.cell? ⟨w.heap.size,0,none⟩=some (.string xn)/\W.cell? ⟨w.heap.size,1,none⟩=some (.int .i64 kd)/\W.cell? ⟨w.heap.size,2,none⟩=some (.string tx)/\W.cell? ⟨w.heap.size,3,none⟩=some (.slice a n c)/\W.cell? ⟨w.heap.size,4,none⟩=some (.slice p2 n2 d2)/\W.cell? ⟨w.heap.size,5,none⟩=some (.slice p3 n3 d3)/\W.cell? ⟨w.heap.size,6,none⟩=some (.int .i64 xd))
    (first|exact⟨y0,y1,y2,y3,y4,y5,y6⟩|exact(up7 b1 Ga ⟨y0,y1,y2,y3,y4,y5,y6⟩)|exact(up7 b2 Gs (up7 b1 Ga ⟨y0,y1,y2,y3,y4,y5,y6⟩)))
    (first
     |(go_at_call 141;refine(Kx.out _ (n:Int)).mono ?_;rintro e w1⟨r,rfl,hr,b1⟩;have bd:Bl wr w1:=(below_drewN (Qb _ wr) 1).trans b1;have Kt:Fr w1 w.heap.size r (Fe (n:Int)):=hr.le bk.size;have Gs:w.heap.size<w1.heap.size:=Qr Ga bd.size;have Sr:Bl w w1:=bk.trans (bd.mono bk.size))
     |(go_at_call 147;refine(Sd.out _ _ Sr bd Kt).mono ?_;rintro e w2⟨⟨v',r',L',rfl,hm,ho,Gw,Gy⟩,b2⟩;have HF:Hid (Fh w B SM (.returned (.tuple #[v',r'])) w2):=⟨v',r',L',rfl,hm,ho,Gw,Gy⟩;clear hm ho Gw Gy))
   all_goals
    go_wp2;go_ret2;exact HF.out
open Kk (Le str_eq)
theorem yen{B:Nat}{V:Value}(t:ByteArray)(h:Fz w B V T)(hn:T.length<=1048577)(hB:B<=w.heap.size):
  ∃v' w',(Builtin.append_ #[25,25] 25 #[V,.slice (some ⟨w.heap.size,0,none⟩) 1 1]).run prog (w.alloc (.cells #[.string t] 9))=.ok v' w'/\Fz w' B v' (T++ [t])/\Below B w w'/\w.grownBy w' V.ownBlock:=by
 obtain⟨i0,hi,Gg,Gf,Gc⟩:=info_parts Tg;have Ge:Bl w (w.alloc (.cells #[.string t] 9)):=(Qb _ w).alloc (Qc _) _;have oA:=Fw h Ge
 obtain⟨v',w',Gb,Ga,hg,_,Gd⟩:=run_append_own_at (P:=prog) (w.alloc (.cells #[.string t] 9)) B 25 25 9 i0 _ 1 16 underlying25 hi Gg Gf Gc rfl (by decide) V T.length (G1 T) oA ⟨w.heap.size,0,none⟩ 1 1 [.string t] rfl (fun j u hj=>by
  rw[Addr.add_lit,Qq];exact((Fc.new w 9 #[.string t]).cell j).trans (by simpa using hj)) (fun u hu=>by simp at hu;subst hu;rfl) (by unfold maxLen;omega) (by omega) (by simp;omega)
 refine⟨v',w',Gb,?_,R4 (Qb _ w) hB h hg,?_⟩
 ·have e:G1 (T++ [t])=G1 T++ [.string t]:=by unfold G1;rw[List.map_append];rfl
  unfold Fz;rw[Qi,e];exact Ga
 ·have hs:(w.alloc (.cells #[.string t] 9)).heap.size=w.heap.size+1:=by simp
  have h2:=hg.size;exact⟨hg.os,hg.tape,hg.output,by omega,fun k hk hr=>(hg.block k (by omega) hr).trans (Below.heap_alloc _ _ _ (by omega))⟩
structure Nf (w:World) (v:Value) (wr:World) (T:List ByteArray):Prop where
 own:Fz wr w.heap.size v T
 bel:Bl w wr
theorem Nf.start(w:World):Nf w (.slice (some ⟨w.heap.size,0,none⟩) 0 0) (w.alloc (.cells #[] 9)) []:=
 ⟨Ui (Fc.new w 9 #[]) (Qc _),(Qb _ w).alloc (Qc _) _⟩
theorem Nf.next{v:Value}(h:Nf w v wr T)(t:ByteArray)(hn:T.length<=1048577):
  ∃v' w1,(Builtin.append_ #[25,25] 25 #[v,.slice (some ⟨wr.heap.size,0,none⟩) 1 1]).run prog (wr.alloc (.cells #[.string t] 9))=.ok v' w1/\Nf w v' w1 (T++ [t]):=by
 obtain⟨v',w1,r1,o1,b1,_⟩:=yen t h.own hn h.bel.size;exact⟨v',w1,r1,o1,h.bel.trans b1⟩
theorem zwd(L:List KV)(k:Nat)(h:k<L.length):((L.take k).map KV.key).map Ke.name++ [(L.getD k kv0).key.name]=((L.take (k+1)).map KV.key).map Ke.name:=by
 rw[Qo h,List.map_append,List.map_append];rw[show(L.getD k kv0)=L[k] by rw[Qa,Qd h];rfl];rfl
theorem yah(B:Nat)(v:Value)(L:List KV)(aa:Option Addr)(m ac:Nat)(w:World)(h:Fv w B v L)(hf:Lg (L.map KV.key))(hn:L.length<=1048576)(hB:B<=w.heap.size):
  Calls prog 99 #[v,.string ⟨#[75,69,89,83]⟩,.slice aa m ac] w (Fh w B (L.map KV.key,He ((L.map KV.key).map Ke.name))):=by
 obtain⟨a,A,c,e,Gc⟩:=h.at;subst e;have H:=hid Gc.ks;have HS:=hid (Nf.start w);have HE:Hid (∀v' wr,Nf w v' wr ((L.map KV.key).map Ke.name)->Cp 142 #[v'] wr fun e w2=>∃r,e=.returned r/\Fh w B (L.map KV.key,He ((L.map KV.key).map Ke.name)) (.returned (.tuple #[.slice a L.length c,r])) w2):=fun v' wr hI=>by
  obtain⟨a',A',c',e',hs,_⟩:=N2 hI.own (fun t ht=>by
   obtain⟨k,hk,rfl⟩:=List.mem_map.1 ht;exact(hf k hk).name)
  subst e';refine(U9 a' A' 0 _ c' _ wr hs (by simpa using hn)).mono ?_;rintro e w2⟨r,rfl,hr,hb⟩;exact⟨r,rfl,Fh.same h hB hI.bel hr hb⟩
 have HT:Hid (∀k,k<L.length->((L.take k).map KV.key).map Ke.name++ [(L.getD k kv0).key.name]=((L.take (k+1)).map KV.key).map Ke.name):=fun k hk=>zwd L k hk;have HZ:Hid (L.take L.length=L):=List.take_length;have Gb:Hid (∀k,k<=L.length->(((L.take k).map KV.key).map Ke.name).length=k):=fun k hk=>by simp;omega
 clear h hf Gc;generalize hln:L.length=ln at*;clear hln;go_enter func99,ntmps99;go_wp2;go_loopw [8,9] (fun v i wr=>∃k:Nat,k<=ln/\i=.int .i64 k/\Hid (Nf w v wr (((L.take k).map KV.key).map Ke.name))) (fun _ i _=>ln-(intOf i).toNat)
 case atStart=>exact⟨0,by omega,rfl,HS⟩
 case round=>
  obtain⟨k,hk,rfl,hI⟩:=hrel;clear HS;by_cases hlt:k<ln
  ·have c0:=((H.out.bw hI.out.bel).cell k hlt).c0;obtain rfl:=H.out.addr (by omega);obtain⟨v',w1,r1,Ga⟩:=hI.out.next (L.getD k kv0).key.name (by rw[Gb.out k hk];omega);rw[HT.out k hlt]at Ga;have R1:Hid _:=r1;have Gd:Hid _:=Ga;clear r1 Ga hI HE HT HZ Gb;generalize(L.getD k kv0).key.name=x at*;go_wp2_with (at_builtin;refine wpList_append_run rfl _ _ 25 rfl rfl rfl R1.out ?_);exact⟨⟨k+1,by omega,by go_num,Gd⟩,by simp[intOf];omega⟩
  ·obtain rfl:k=ln:=by omega
   rw[HZ.out]at hI;have HC:=hid (HE.out _ wr hI.out);clear HE HT HZ Gb hI;go_wp2_with fail;refine HC.out.mono ?_;rintro e w2⟨r,rfl,hq⟩;have HQ:Hid _:=hq;clear hq HC;go_wp2;go_ret2;exact HQ.out
theorem zuv(dl:Bool)(ks:List Ke)(T:List ByteArray)(k:Nat)(h:k<T.length):L9 dl ks (T.take (k+1))=Ni dl (L9 dl ks (T.take k)) (T.getD k empty):=by
 unfold L9;rw[Qo h,List.foldl_append];rw[show T.getD k empty=T[k] by rw[Qa,Qd h];rfl];rfl
theorem Dx(ks:List Ke)(nm:ByteArray):(G5 ks nm).length<=ks.length:=Qt ..
structure Uf (w:World) (B:Nat) (dl:Bool) (ks:List Ke) (T:List ByteArray) (k:Nat) (v:Value) (cnt:Nat) (wr:World) (M:List KV):Prop where
 eq:L9 dl ks (T.take k)=(M.map KV.key,cnt)
 own:Fv wr B v M
 fit:Lg (M.map KV.key)
 len:M.length<=1048576
 bel:Bl w wr
section
variable (B:Nat) (v:Value) (L:List KV) (aa:Option Addr) (ab ao m ac:Nat) (T:List ByteArray) (w:World)
theorem yda(h:Fv w B v L)(hf:Lg (L.map KV.key))(hn:L.length<=1048576)(ha:Fs w aa ab ao m T)(hm:m<=1048576)(hB:B<=w.heap.size):
  Calls prog 99 #[v,.string ⟨#[68,69,76]⟩,.slice aa m ac] w (Fh w B ((L9 true (L.map KV.key) T).1,Fe (L9 true (L.map KV.key) T).2)):=by
 have H:=hid ha;have HL:=hid ha.len;have HS:Hid (Uf w B true (L.map KV.key) T 0 v 0 w L):=⟨rfl,h,hf,hn,Qb _ _⟩;have HZ:Hid (T.take m=T):=List.take_of_length_le (by rw[ha.len];exact Qc _);generalize L.map KV.key=K0 at*;clear h hf hn ha;go_enter func99,ntmps99;go_wp2;go_loopw [0,10,11] (fun u c i wr=>∃(k Ga:Nat) (M:List KV),k<=m/\i=.int .i64 k/\c=.int .i64 Ga/\Ga<=k/\Hid (Uf w B true K0 T k u Ga wr M)) (fun _ _ i _=>m-(intOf i).toNat)
 case atStart=>exact⟨0,0,L,by omega,rfl,rfl,by omega,HS⟩
 case round=>
  obtain⟨k,Ga,M,hk,rfl,rfl,hc,hI⟩:=hrel;clear HS;have Gd:B<=wr.heap.size:=Qj hB hI.out.bel.size;by_cases hlt:k<m
  ·have c0:=(Lb H.out hI.out.bel).cell k hlt;obtain rfl:=H.out.addr (by omega);obtain⟨a,A,c,e,hd,Ge⟩:=hI.out.own.din hI.out.fit.fits;subst e;have hX:=zuv true K0 T k (by rw[HL.out];exact hlt);rw[hI.out.eq]at hX;have HX:=hid hX;have HF:Hid (Cp 101 #[.slice a M.length c,.string (T.getD k empty)] wr fun e w'=>e=.returned (.int .i64 (Lm (M.map KV.key) (T.getD k empty) 0))/\w'=wr):=Af a A M.length c M _ wr hd.ks (by have:=hI.out.len;omega);have HG:Hid (Cp 143 #[.slice a M.length c,.string (T.getD k empty)] wr (N0 wr (G5 (M.map KV.key) (T.getD k empty)))):=Eu a A M.length c M _ wr hd hI.out.len;clear hd Ge hX;generalize T.getD k empty=t at*;by_cases hz:Lm (M.map KV.key) t 0<0
   ·have Gb:Hid (Uf w B true K0 T (k+1) (.slice a M.length c) Ga wr M):=⟨by rw[HX.out];unfold Ni;rw[if_pos hz],hI.out.own,hI.out.fit,hI.out.len,hI.out.bel⟩;clear HX HG hI;generalize Lm (M.map KV.key) t 0=z,M.length=ml at*;go_wp2_with fail;refine HF.out.mono ?_;rintro e w1⟨rfl,rfl⟩;clear HF;go_wp2;exact⟨⟨k+1,Ga,M,by omega,by go_num,rfl,by omega,Gb⟩,by simp[intOf];omega⟩
   ·have Gb:Hid (∀v' w1 L',L'.map KV.key=G5 (M.map KV.key) t->Fv w1 wr.heap.size v' L'->Bl wr w1->Uf w B true K0 T (k+1) v' (Ga+1) w1 L'):=fun v' w1 L' h1 h2 h3=>⟨by rw[HX.out];unfold Ni;rw[if_neg hz,if_pos rfl,h1],h2.le Gd,by rw[h1];exact hI.out.fit.gone t,by
     have e1:L'.length=(G5 (M.map KV.key) t).length:=by rw[<-h1];simp
     have e2:=Dx (M.map KV.key) t;rw[Qp]at e2;have:=hI.out.len;omega,hI.out.bel.trans (h3.mono hI.out.bel.size)⟩
    clear HX hI;generalize Lm (M.map KV.key) t 0=z,G5 (M.map KV.key) t=Kg,M.length=ml at*;go_wp2_with fail;refine HF.out.mono ?_;rintro e w1⟨rfl,rfl⟩;clear HF;go_wp2_with fail;refine HG.out.mono ?_;rintro e w2⟨v',L',rfl,h1,h2,h3⟩;have Gc:=Gb.out v' w2 L' h1 h2 h3;clear h1 h2 h3 Gb HG;go_wp2;exact⟨⟨k+1,Ga+1,L',by omega,by go_num,by go_num,by omega,Gc⟩,by simp[intOf];omega⟩
  ·obtain rfl:k=m:=by omega
   have HE:Hid (∀r w2,Fr w2 wr.heap.size r (Fe Ga)->Bl wr w2->Fh w B ((L9 true K0 T).1,Fe (L9 true K0 T).2) (.returned (.tuple #[u0,r])) w2):=fun r w2 h1 h2=>by
    have hq:=hI.out.eq;rw[HZ.out]at hq;rw[hq];exact⟨u0,r,M,rfl,rfl,hI.out.own.bw h2,h1.le hI.out.bel.size,hI.out.bel.trans (h2.mono hI.out.bel.size)⟩
   have HR:Hid (∀n:Int,Cp 141 #[.int .i64 n] wr (F9 wr (Fe n))):=fun n=>Wm n wr;clear hI;go_wp2_with fail;refine(HR.out _).mono ?_;rintro e w1⟨r,rfl,hr,hb⟩;have HQ:Hid _:=HE.out r w1 hr hb;clear hr hb HE HR;go_wp2;go_ret2;exact HQ.out
theorem ztf(h:Fv w B v L)(hf:Lg (L.map KV.key))(hn:L.length<=1048576)(ha:Fs w aa ab ao m T)(hm:m<=1048576)(hB:B<=w.heap.size):
  Calls prog 99 #[v,.string ⟨#[69,88,73,83,84,83]⟩,.slice aa m ac] w (Fh w B ((L9 false (L.map KV.key) T).1,Fe (L9 false (L.map KV.key) T).2)):=by
 have H:=hid ha;have HL:=hid ha.len;have HS:Hid (Uf w B false (L.map KV.key) T 0 v 0 w L):=⟨rfl,h,hf,hn,Qb _ _⟩;have HZ:Hid (T.take m=T):=List.take_of_length_le (by rw[ha.len];exact Qc _);generalize L.map KV.key=K0 at*;clear h hf hn ha;go_enter func99,ntmps99;go_wp2;go_loopw [0,10,11] (fun u c i wr=>∃(k Ga:Nat) (M:List KV),k<=m/\i=.int .i64 k/\c=.int .i64 Ga/\Ga<=k/\Hid (Uf w B false K0 T k u Ga wr M)) (fun _ _ i _=>m-(intOf i).toNat)
 case atStart=>exact⟨0,0,L,by omega,rfl,rfl,by omega,HS⟩
 case round=>
  obtain⟨k,Ga,M,hk,rfl,rfl,hc,hI⟩:=hrel;clear HS;have Gd:B<=wr.heap.size:=Qj hB hI.out.bel.size;by_cases hlt:k<m
  ·have c0:=(Lb H.out hI.out.bel).cell k hlt;obtain rfl:=H.out.addr (by omega);obtain⟨a,A,c,e,hd,Gc⟩:=hI.out.own.din hI.out.fit.fits;subst e;have hX:=zuv false K0 T k (by rw[HL.out];exact hlt);rw[hI.out.eq]at hX;have HX:=hid hX;have HF:Hid (Cp 101 #[.slice a M.length c,.string (T.getD k empty)] wr fun e w'=>e=.returned (.int .i64 (Lm (M.map KV.key) (T.getD k empty) 0))/\w'=wr):=Af a A M.length c M _ wr hd.ks (by have:=hI.out.len;omega);have HG:Hid (Cp 143 #[.slice a M.length c,.string (T.getD k empty)] wr (N0 wr (G5 (M.map KV.key) (T.getD k empty)))):=Eu a A M.length c M _ wr hd hI.out.len;clear hd Gc hX;generalize T.getD k empty=t at*;by_cases hz:Lm (M.map KV.key) t 0<0
   ·have Gb:Hid (Uf w B false K0 T (k+1) (.slice a M.length c) Ga wr M):=⟨by rw[HX.out];unfold Ni;rw[if_pos hz],hI.out.own,hI.out.fit,hI.out.len,hI.out.bel⟩;clear HX HG hI;generalize Lm (M.map KV.key) t 0=z,M.length=ml at*;go_wp2_with fail;refine HF.out.mono ?_;rintro e w1⟨rfl,rfl⟩;clear HF;go_wp2;exact⟨⟨k+1,Ga,M,by omega,by go_num,rfl,by omega,Gb⟩,by simp[intOf];omega⟩
   ·have Gb:Hid (Uf w B false K0 T (k+1) (.slice a M.length c) (Ga+1) wr M):=⟨by rw[HX.out];unfold Ni;rw[if_neg hz,if_neg (by decide)],hI.out.own,hI.out.fit,hI.out.len,hI.out.bel⟩;clear HX HG hI;generalize Lm (M.map KV.key) t 0=z,M.length=ml at*;go_wp2_with fail;refine HF.out.mono ?_;rintro e w1⟨rfl,rfl⟩;clear HF;go_wp2;exact⟨⟨k+1,Ga+1,M,by omega,by go_num,by go_num,by omega,Gb⟩,by simp[intOf];omega⟩
  ·obtain rfl:k=m:=by omega
   have HE:Hid (∀r w2,Fr w2 wr.heap.size r (Fe Ga)->Bl wr w2->Fh w B ((L9 false K0 T).1,Fe (L9 false K0 T).2) (.returned (.tuple #[u0,r])) w2):=fun r w2 h1 h2=>by
    have hq:=hI.out.eq;rw[HZ.out]at hq;rw[hq];exact⟨u0,r,M,rfl,rfl,hI.out.own.bw h2,h1.le hI.out.bel.size,hI.out.bel.trans (h2.mono hI.out.bel.size)⟩
   have HR:Hid (∀n:Int,Cp 141 #[.int .i64 n] wr (F9 wr (Fe n))):=fun n=>Wm n wr;clear hI;go_wp2_with fail;refine(HR.out _).mono ?_;rintro e w1⟨r,rfl,hr,hb⟩;have HQ:Hid _:=HE.out r w1 hr hb;clear hr hb HE HR;go_wp2;go_ret2;exact HQ.out
end
theorem zyr:∀(T:List ByteArray)(s:List Ke×Nat),(T.foldl (Ni false) s).1=s.1
 |[],_=>rfl
 |t::T,s=>by
  rw[List.foldl_cons,zyr T];unfold Ni;split
  ·rfl
  ·rfl
theorem ycq(ks:List Ke)(T:List ByteArray):(L9 false ks T).1=ks:=zyr T (ks,0)
theorem yeq(c:Cm)(hc:c.many=true)(B:Nat)(v:Value)(L:List KV)(aa:Option Addr)(ab ao m ac:Nat)(T:List ByteArray)(w:World)(hm:c.fits m=true)(h:Fv w B v L)(hf:Lg (L.map KV.key))(hn:L.length<=1048576)(ha:Fs w aa ab ao m T)(hm2:m<=1048576)(hB:B<=w.heap.size):
  Calls prog 99 #[v,.string c.text,.slice aa m ac] w (Fh w B (Oj c (L.map KV.key) T)):=by
 cases c using Cm.elim
 case PING=>
  by_cases h0:m=0
  ·subst h0;have:Oj .PING (L.map KV.key) T=(L.map KV.key,Hd T9):=by unfold Oj;rw[ha.len,if_pos rfl];rfl
   rw[this];exact zx0 B v L aa ac w h hB
  ·have:Oj .PING (L.map KV.key) T=(L.map KV.key,Fy (T.getD 0 empty)):=by unfold Oj;rw[ha.len,if_neg h0];rfl
   rw[this];exact zxz B v L aa ab ao m ac T w h ha (by omega) hm2 hB
 case ECHO=>exact zzb B v L aa ab ao m ac T w h ha (by have:=Qg hm;omega) hB
 case FLUSHALL=>exact zol B v aa m ac w hB
 case DBSIZE=>exact zsa B v L aa m ac w h hB
 case KEYS=>exact yah B v L aa m ac w h hf hn hB
 case DEL=>exact yda B v L aa ab ao m ac T w h hf hn ha hm2 hB
 case EXISTS=>
  have key:=ztf B v L aa ab ao m ac T w h hf hn ha hm2 hB;have e:=ycq (L.map KV.key) T;rw[e]at key;exact key
 all_goals cases hc
end
end Go.Proofs.YtokafonppgppdaaGreatDoor
