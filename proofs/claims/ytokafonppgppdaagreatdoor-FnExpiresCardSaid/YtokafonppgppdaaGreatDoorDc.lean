import Derived.Test.YtokafonppgppdaaGreatDoorDb
set_option maxHeartbeats 16000000
set_option maxRecDepth 100000
namespace Go.Proofs.YtokafonppgppdaaGreatDoor
section
open Tryz
open Go.RowKit Go.Sort
open Kk (Rk rk0 G8 Mp F1 L7 Hv G9 Fo G6 encR Md)
variable {w W W':World} {B rb size n c G:Nat} {e:TypeId} {v v':Vl} {xs:List Value} {a:Option Addr} {vi vp vr vi' vp' vr' V:Value}
theorem Uk{r:Option Nat}(h:w.grownBy W r)(hb:Below w.heap.size W W'):w.grownBy W' r:=
 ⟨hb.os.trans h.os,hb.tape.trans h.tape,hb.output.trans h.output,Qj h.size hb.size,fun k hk hne=>(hb.block k hk).trans (h.block k hk hne)⟩
theorem Pa{w':World}{v:Value}(h:w.ownsRow B e size v n xs)(g:w.grownBy w' (some rb))(hB:rb<B):w'.ownsRow B e size v n xs:=
 World.ownsRow.kept h g (by
  cases hv:v.ownBlock with
  |none=>exact .inl rfl
  |some x=>exact .inr fun e=>by have:=(Hf h hv).1;have:=Option.some.inj e;omega)
structure Dv (w:World) (rb:Nat) (a:Option Addr) (n c G:Nat) (v:Vl) (vi vp vr:Value) (W:World):Prop where
 rd:Rd W rb a n c
 gr:w.grownBy W (some rb)
 res:Fc W w.heap.size 45 z5
 row:Fc W G 45 (vC v.kind v.text vi vp vr)
 own:VOwn W (w.heap.size+1) v vi vp vr
 low:w.heap.size<G
 rb:rb<w.heap.size
theorem Dv.grow(h:Dv w rb a n c G v vi vp vr W)(r:Rd W' rb a n c)(g:W.grownBy W' (some rb)):Dv w rb a n c G v vi vp vr W':=by
 have h1:=h.low;have h2:=h.rb;exact⟨r,G4 h.gr g,Nc h.res g (by omega),Nc h.row g (by omega),⟨Pa h.own.ia g (by omega),Pa h.own.pj g (by omega),Pa h.own.rq g (by omega)⟩,h1,h2⟩
theorem Dv.alloc(h:Dv w rb a n c G v vi vp vr W)(hb:Bl W W'):Dv w rb a n c G v vi vp vr W':=by
 have h1:=h.low;have h2:=h.rb;have h3:=h.gr.size;exact⟨h.rd.bw hb (by omega),Ly h.gr hb,Fc.bw h.res hb h.res.lt,Fc.bw h.row hb h.row.lt,h.own.bw hb,h1,h2⟩
theorem Tx{j:Nat}{v u:Value}{C:Array Value}(h:W.ownsRow B e size v n xs)(hr:Fc W G 45 C)(he:e≠45):(W.setCell ⟨G,j,none⟩ u).ownsRow B e size v n xs:=by
 refine Lt h fun g hg=>?_;refine Below.heap_setCell _ _ _ _ fun e2=>?_;obtain⟨D,hD⟩:=M3 h hg;have e3:g=G:=e2;rw[e3]at hD;unfold Fc at hr hD;rw[hr]at hD;injection hD with hD;injection hD with _ hD;exact he hD.symm
theorem Dv.store(j:Nat)(u:Value)(h:Dv w rb a n c G v vi vp vr W)(hc:(vC v.kind v.text vi vp vr).setIfInBounds j u=vC v'.kind v'.text vi' vp' vr')(ho:VOwn W (w.heap.size+1) v' vi' vp' vr'):Dv w rb a n c G v' vi' vp' vr' (W.setCell ⟨G,j,none⟩ u):=by
 have h1:=h.low;have h2:=h.rb;have h3:=h.gr.size;have hb:Below G W (W.setCell ⟨G,j,none⟩ u):=(Qb G W).setCell (p:=⟨G,j,none⟩) (Qc _) u;refine⟨h.rd.bw hb (by omega),Uk h.gr (hb.mono (by omega)),Fc.bw h.res hb h1,?_,⟨Tx ho.ia h.row (by decide),Tx ho.pj h.row (by decide),Tx ho.rq h.row (by decide)⟩,h1,h2⟩;rw[<-hc];exact h.row.set j u
theorem Dv.put(j:Nat)(u:Value)(h:Dv w rb a n c G v vi vp vr W)(hb0:Below (G+1) W W')(hc:(vC v.kind v.text vi vp vr).setIfInBounds j u=vC v'.kind v'.text vi' vp' vr')(ho:VOwn W' (w.heap.size+1) v' vi' vp' vr'):Dv w rb a n c G v' vi' vp' vr' (W'.setCell ⟨G,j,none⟩ u):=by
 have h1:=h.low;have h2:=h.rb;have h3:=h.gr.size;have hr:Fc W' G 45 (vC v.kind v.text vi vp vr):=Fc.bw h.row hb0 (by omega);have hb:Below G W' (W'.setCell ⟨G,j,none⟩ u):=(Qb G W').setCell (p:=⟨G,j,none⟩) (Qc _) u;refine⟨(h.rd.bw hb0 (by omega)).bw hb (by omega),Uk (Uk h.gr (hb0.mono (by omega))) (hb.mono (by omega)),Fc.bw (Fc.bw h.res hb0 (by omega)) hb h1,?_,⟨Tx ho.ia hr (by decide),Tx ho.pj hr (by decide),Tx ho.rq hr (by decide)⟩,h1,h2⟩;rw[<-hc];exact hr.set j u
theorem yha{ts:List ByteArray}(x:ByteArray)(h:Fz w B V ts)(hn:ts.length<=1048576)(hB:B<=w.heap.size):
  ∃xa m cc w',(Builtin.append_ #[25,25] 25 #[V,.slice (some ⟨w.heap.size,0,none⟩) 1 1]).run prog (w.alloc (.cells #[.string x] 9))=.ok (.slice xa m cc) w'/\Fz w' B (.slice xa m cc) (ts++ [x])/\Below B w w':=by
 obtain⟨i0,hi,Gf,Ge,Gc⟩:=info_parts Tg;have Gd:Bl w (w.alloc (.cells #[.string x] 9)):=(Qb _ w).alloc (Qc _) _;have oA:=Fw h Gd
 obtain⟨v',w',Gb,Ga,hg,_,Gg⟩:=run_append_own_at (P:=prog) (w.alloc (.cells #[.string x] 9)) B 25 25 9 i0 _ 1 16 underlying25 hi Gf Ge Gc rfl (by decide) V ts.length (G1 ts) oA ⟨w.heap.size,0,none⟩ 1 1 [.string x] rfl (fun j u hj=>by
  rw[Addr.add_lit,Qq];exact((Fc.new w 9 #[.string x]).cell j).trans (by simpa using hj)) (fun u hu=>by simp at hu;subst hu;rfl) (by unfold maxLen;omega) (by omega) (by simp;omega)
 obtain⟨xa,cc,hv⟩:=Fx Ga;subst hv;refine⟨xa,_,cc,w',Gb,?_,R4 (Qb _ w) hB h hg⟩;unfold Fz;rw[Qi,zut];exact Ga
theorem yby{ps:List Pr}(x y:ByteArray)(h:G3 w B V ps)(hn:ps.length<=1048576)(hB:B<=w.heap.size):
  ∃xa m cc w',(Builtin.append_ #[42,42] 42 #[V,.slice (some ⟨w.heap.size,0,none⟩) 1 1]).run prog (w.alloc (.cells #[.string x,.string y] 145))=.ok (.slice xa m cc) w'/\G3 w' B (.slice xa m cc) (ps++ [(x,y)])/\Below B w w':=by
 obtain⟨v',w',Ga,ho,hb⟩:=yek x y 42 underlying42 h hn hB;obtain⟨xa,cc,hv⟩:=Fx ho;subst hv;exact⟨xa,_,cc,w',Ga,ho,hb⟩
structure Lr (v:Vl):Prop where
 text:v.text.size<=20
 ni:v.ia.length<=4
 np:v.pj.length<=4
 nr:v.rq.length<=7
 fit:Md v.rq
 ia:∀t∈v.ia,t.size<=20
def yiq (w:World) (rb:Nat) (a:Option Addr) (n c:Nat) (e:Ending) (w':World):Prop:=
 ∃v vi vp vr,e= .returned (vlV v.kind v.text vi vp vr)/\VOwn w' w.heap.size v vi vp vr/\Lr v/\Rd w' rb a n c/\w.grownBy w' (some rb)
theorem Dv.done(h:Dv w rb a n c G v vi vp vr W)(hs:Lr v)(v0 v1 v2 v3 v4:Value):yiq w rb a n c (.returned (vlV v.kind v.text vi vp vr)) (T4 W v0 v1 v2 v3 v4 w.heap.size):=by
 have hb:Below w.heap.size W (T4 W v0 v1 v2 v3 v4 w.heap.size):=Pw (Qb _ W) _ _ _ _ _ _ (Qc _);have hk:=fun k (hk:k≠w.heap.size)=>S7 W v0 v1 v2 v3 v4 w.heap.size k hk;exact⟨v,vi,vp,vr,rfl,⟨Ut (Lt h.own.ia fun g hg=>hk g (by have:=(Hf h.own.ia hg).1;omega)) (by omega),Ut (Lt h.own.pj fun g hg=>hk g (by have:=(Hf h.own.pj hg).1;omega)) (by omega),Ut (Lt h.own.rq fun g hg=>hk g (by have:=(Hf h.own.rq hg).1;omega)) (by omega)⟩,hs,h.rd.bw hb h.rb,Uk h.gr hb⟩
section
variable (rb:Nat) (a:Option Addr) (n c:Nat) (w:World)
theorem yjz(h:Rd w rb a n c):
  Calls prog 41 #[.pointer (some ⟨rb,0,none⟩),.int .i64 4] w fun e w'=>(e=.returned (.int .i64 0)\/e=.returned (.int .i64 1)\/e=.returned (.int .i64 2)\/e=.returned (.int .i64 3))/\Rd w' rb a n c/\w.grownBy w' (some rb):=
 (Mb rb a n c 4 w h (by omega) (by omega)).mono fun e w' ⟨j,he,hj,r,g⟩=>⟨by
  match j,hj,he with
  |0,_,he=>exact .inl he
  |1,_,he=>exact .inr (.inl he)
  |2,_,he=>exact .inr (.inr (.inl he))
  |3,_,he=>exact .inr (.inr (.inr he)),r,g⟩
theorem zy6(h:Rd w rb a n c)(hrb:rb<w.heap.size):
  Calls prog 81 #[.pointer (some ⟨rb,0,none⟩)] w (yiq w rb a n c):=by
 have Kb:Bl w (w.alloc (.cells z5 45)):=(Qb _ w).alloc (Qc _) _;have R0:Rd (w.alloc (.cells z5 45)) rb a n c:=h.bw Kb hrb;have HP:Hid (∀W,Rd W rb a n c->Cp 41 #[.pointer (some ⟨rb,0,none⟩),.int .i64 4] W fun e w'=>(e=.returned (.int .i64 0)\/e=.returned (.int .i64 1)\/e=.returned (.int .i64 2)\/e=.returned (.int .i64 3))/\Rd w' rb a n c/\W.grownBy w' (some rb)):=fun W hW=>yjz rb a n c W hW;have HR:Hid (Fc (w.alloc (.cells z5 45)) w.heap.size 45 z5):=Fc.new w 45 z5;clear h;go_enter func81,ntmps81;go_wp2_with fail;refine(HP.out _ R0).mono ?_;rintro e w1⟨he,r1,g1⟩;have Kr:w.grownBy w1 (some rb):=G4 (Ly (Nl w _) Kb) g1;have s1:w.heap.size<w1.heap.size:=by have:=g1.size;simp at this;omega
 have Gi:Hid (∀k:Int,Dv w rb a n c w1.heap.size ⟨k,⟨#[]⟩,[],[],[]⟩ Fi Fi Fi (w1.alloc (.cells (vC k ⟨#[]⟩ Fi Fi Fi) 45))):=fun k=>by
  have b1:Bl w1 (w1.alloc (.cells (vC k ⟨#[]⟩ Fi Fi Fi) 45)):=(Qb _ w1).alloc (Qc _) _;exact⟨r1.bw b1 (by omega),Ly Kr b1,Fc.bw (Nc HR.out g1 (by omega)) b1 s1,Fc.new w1 45 _,⟨Uo _ _,Ch _ _,Kk.Up _ _⟩,s1,hrb⟩
 obtain⟨G,hG⟩:∃G,w1.heap.size=G:=⟨_,rfl⟩;have HG:Hid (w1.heap.size=G):=hG;clear R0 Kb g1 r1 Kr HR hG;rcases he with rfl|rfl|rfl|rfl
 ·have HD:Hid (Dv w rb a n c G ⟨1,⟨#[]⟩,[],[],[]⟩ Fi Fi Fi (w1.alloc (.cells (vC 1 ⟨#[]⟩ Fi Fi Fi) 45))):=by rw[<-HG.out];exact Gi.out 1
  clear Gi;go_wp2_with fail;rw[HG.out];generalize w1.alloc (.cells (vC 1 ⟨#[]⟩ Fi Fi Fi) 45)=W1 at*;have Gq:rb<W1.heap.size:=by have:=HD.out.gr.size;omega
  refine(Bh rb a n c W1 HD.out.rd Gq).mono ?_;rintro e w2⟨s,rfl,hz,r2,g2⟩;have D2:=HD.out.grow r2 g2;have p1:=D2.row.cell 1;have Se:=D2.row.frozen 1;simp at p1;have D3:Dv w rb a n c G ⟨1,s,[],[],[]⟩ Fi Fi Fi (w2.setCell ⟨G,1,none⟩ (.string s)):=D2.store 1 (.string s) rfl ⟨Uo _ _,Ch _ _,Kk.Up _ _⟩;have HD:Hid (Dv w rb a n c G ⟨1,s,[],[],[]⟩ Fi Fi Fi (w2.setCell ⟨G,1,none⟩ (.string s))):=D3;clear D2 D3 r2 g2 Gq;go_wp2_with fail;generalize w2.setCell ⟨G,1,none⟩ (.string s)=w3 at*;have Gf:=HD.out.rd;refine(Pd rb a n c 30 _ Gf (by omega) (by omega)).mono ?_;rintro e w8⟨b8,rfl,r8,g8⟩;have D8:=HD.out.grow r8 g8;clear Gf HD;cases b8 with
  |false=>
   obtain⟨y0,y1,y2,y3,y4⟩:=Nh D8.row;have f0:=D8.res.frozen 0;have f1:=D8.res.frozen 1;have f2:=D8.res.frozen 2;have f3:=D8.res.frozen 3;have f4:=D8.res.frozen 4;have c0:=D8.res.cell 0;have c1:=D8.res.cell 1;have c2:=D8.res.cell 2;have c3:=D8.res.cell 3;have c4:=D8.res.cell 4;simp at c0 c1 c2 c3 c4;have Gc:Hid (Dv w rb a n c G (⟨1,s,[],[],[]⟩:Vl) Fi Fi Fi w8):=D8;clear D8 g8 r8;go_wp2;exact bodyPost_ret (v:=vlV 1 s Fi Fi Fi) (by simp[results,results81,go_sem,c0,c1,c2,c3,c4]) rfl (Gc.out.done (⟨by first|exact hz|exact Qs _,by simp,by simp,by simp,fun x hx=>by simp at hx,by simp⟩:Lr _) _ _ _ _ _)
  |true=>
   have Gc:Hid (Dv w rb a n c G (⟨1,s,[],[],[]⟩:Vl) Fi Fi Fi w8):=D8;have Gm:rb<w8.heap.size:=by have:=D8.gr.size;have:=D8.rb;omega
   clear D8 g8;go_wp2_with fail;refine(Kk.Ea rb a n c w8 r8 Gm).mono ?_;rintro e w9⟨x,rfl,_,r9,g9⟩;have D9:=Gc.out.grow r9 g9;have p0:=D9.row.cell 0;have Gy:=D9.row.frozen 0;simp at p0;have Ga:Dv w rb a n c G ⟨x,((⟨1,s,[],[],[]⟩:Vl)).text,((⟨1,s,[],[],[]⟩:Vl)).ia,((⟨1,s,[],[],[]⟩:Vl)).pj,((⟨1,s,[],[],[]⟩:Vl)).rq⟩ Fi Fi Fi (w9.setCell ⟨G,0,none⟩ (.int .i64 x)):=D9.store 0 (.int .i64 x) rfl ⟨D9.own.ia,D9.own.pj,D9.own.rq⟩;obtain⟨y0,y1,y2,y3,y4⟩:=Nh Ga.row;have f0:=Ga.res.frozen 0;have f1:=Ga.res.frozen 1;have f2:=Ga.res.frozen 2;have f3:=Ga.res.frozen 3;have f4:=Ga.res.frozen 4;have c0:=Ga.res.cell 0;have c1:=Ga.res.cell 1;have c2:=Ga.res.cell 2;have c3:=Ga.res.cell 3;have c4:=Ga.res.cell 4;simp at c0 c1 c2 c3 c4;have Gd:Hid (Dv w rb a n c G ⟨x,((⟨1,s,[],[],[]⟩:Vl)).text,((⟨1,s,[],[],[]⟩:Vl)).ia,((⟨1,s,[],[],[]⟩:Vl)).pj,((⟨1,s,[],[],[]⟩:Vl)).rq⟩ Fi Fi Fi (w9.setCell ⟨G,0,none⟩ (.int .i64 x))):=Ga;clear D9 Ga Gc g9 r9 r8;go_wp2_with fail;generalize w9.setCell ⟨G,0,none⟩ (.int .i64 x)=w10 at*;go_wp2;exact bodyPost_ret (v:=vlV x s Fi Fi Fi) (by simp[results,results81,go_sem,c0,c1,c2,c3,c4]) rfl (Gd.out.done ⟨((⟨by first|exact hz|exact Qs _,by simp,by simp,by simp,fun x hx=>by simp at hx,by simp⟩:Lr _)).text,((⟨by first|exact hz|exact Qs _,by simp,by simp,by simp,fun x hx=>by simp at hx,by simp⟩:Lr _)).ni,((⟨by first|exact hz|exact Qs _,by simp,by simp,by simp,fun x hx=>by simp at hx,by simp⟩:Lr _)).np,((⟨by first|exact hz|exact Qs _,by simp,by simp,by simp,fun x hx=>by simp at hx,by simp⟩:Lr _)).nr,((⟨by first|exact hz|exact Qs _,by simp,by simp,by simp,fun x hx=>by simp at hx,by simp⟩:Lr _)).fit,((⟨by first|exact hz|exact Qs _,by simp,by simp,by simp,fun x hx=>by simp at hx,by simp⟩:Lr _)).ia⟩ _ _ _ _ _)
 ·have HD:Hid (Dv w rb a n c G ⟨2,⟨#[]⟩,[],[],[]⟩ Fi Fi Fi (w1.alloc (.cells (vC 2 ⟨#[]⟩ Fi Fi Fi) 45))):=by rw[<-HG.out];exact Gi.out 2
  clear Gi;go_wp2_with fail;rw[HG.out];generalize w1.alloc (.cells (vC 2 ⟨#[]⟩ Fi Fi Fi) 45)=W1 at*;have Gq:rb<W1.heap.size:=by have:=HD.out.gr.size;omega
  have Kf:Hid (Cp 41 #[.pointer (some ⟨rb,0,none⟩),.int .i64 4] W1 fun e w'=>∃q:Nat,e=.returned (.int .i64 q)/\q<4/\Rd w' rb a n c/\W1.grownBy w' (some rb)):=Mb rb a n c 4 W1 HD.out.rd (by omega) (by omega);refine Kf.out.mono ?_;rintro e w2⟨q0,rfl,Kt,r2,g2⟩;have Ge:Hid (Dv w rb a n c G ⟨2,⟨#[]⟩,[],[],[]⟩ Fi Fi Fi w2):=HD.out.grow r2 g2;clear HD Kf r2 g2;go_wp2_with fail;go_loopw [4] (fun i wr=>∃(q:Nat) (ts:List ByteArray) (xa:Option Addr) (m cc:Nat),i=.int .i64 q/\q+ts.length<=4/\(∀t∈ts,t.size<=20)/\Dv w rb a n c G ⟨2,⟨#[]⟩,ts,[],[]⟩ (.slice xa m cc) Fi Fi wr/\Fz wr (G+1) (.slice xa m cc) ts) (fun i _=>(intOf i).toNat)
  case atStart=>exact⟨q0+1,[],none,0,0,by go_num,by simp;omega,by simp,Ge.out,Uo _ _⟩
  case round=>
   obtain⟨q,ts,xa,m,cc,rfl,hq,Kj,hd,oi⟩:=hrel;have HD:Hid (Dv w rb a n c G ⟨2,⟨#[]⟩,ts,[],[]⟩ (.slice xa m cc) Fi Fi wr):=hd;have Gg:Hid (∀t∈ts,t.size<=20):=Kj;have OI:Hid (Fz wr (G+1) (.slice xa m cc) ts):=oi;have Sc:=hd.row.lt;have Gv:=hd.low;have Gz:rb<wr.heap.size:=by have:=hd.gr.size;omega
   have y2:=hd.row.cell 2;simp at y2;clear hd Kj oi Ge;by_cases h0:0<q
   ·have Kv:(0:Int)<(q:Int):=by omega
    have Sa:IntKind.i64.wrap ((q:Int)-1)=(q:Int)-1:=Kk.wrap_small (by omega) (by omega);have rD:Rd wr.drew rb a n c:=HD.out.rd.bw (B:=wr.heap.size) (below_drewN (Qb _ wr) 1) Gz;have HT:Hid (Cp 84 #[.pointer (some ⟨rb,0,none⟩)] wr.drew fun e w2=>∃(s:ByteArray) (xb:Option Addr) (m2 cb:Nat) (w5:World),e=.returned (.string s)/\w2.cell? ⟨G,2,none⟩=some (.slice xa m cc)/\(w2.alloc (.cells #[.string s] 9)).cell? ⟨G,2,none⟩=some (.slice xa m cc)/\(Builtin.append_ #[25,25] 25 #[.slice xa m cc,.slice (some ⟨w2.heap.size,0,none⟩) 1 1]).run prog (w2.alloc (.cells #[.string s] 9))=.ok (.slice xb m2 cb) w5/\w5.cell? ⟨G,2,none⟩=some (.slice xa m cc)/\w5.frozen? ⟨G,2,none⟩=false/\Hid ((∀t∈ts++ [s],t.size<=20)/\Dv w rb a n c G ⟨2,⟨#[]⟩,ts++ [s],[],[]⟩ (.slice xb m2 cb) Fi Fi (w5.setCell ⟨G,2,none⟩ (.slice xb m2 cb))/\Fz (w5.setCell ⟨G,2,none⟩ (.slice xb m2 cb)) (G+1) (.slice xb m2 cb) (ts++ [s]))):=by
     refine(Bh rb a n c wr.drew rD Gz).mono ?_;rintro e w2⟨s,rfl,hz,r2,g2⟩;have gd:wr.grownBy wr.drew (some rb):=U0 wr 1 _;have Ko:=G4 gd g2;have D2:=HD.out.grow r2 Ko;have o2:Fz w2 (G+1) (.slice xa m cc) ts:=Pa OI.out Ko (by omega);have bA:Bl w2 (w2.alloc (.cells #[.string s] 9)):=(Qb _ w2).alloc (Qc _) _;have Kw:=D2.alloc bA;obtain⟨xb,m2,cb,w5,Gb,o5,b5⟩:=yha s o2 (by omega) D2.row.lt;have r5:Fc w5 G 45 _:=Fc.bw D2.row b5 (by omega);refine⟨s,xb,m2,cb,w5,rfl,(D2.row.cell 2),(Kw.row.cell 2),Gb,r5.cell 2,r5.frozen 2,?_,?_,?_⟩
     ·intro t ht;rcases List.mem_append.1 ht with ht|ht
      ·exact Gg.out t ht
      ·simp at ht;subst ht;exact hz
     ·exact D2.put 2 _ b5 rfl ⟨Ut o5 (by omega),Ch _ _,Kk.Up _ _⟩
     ·exact Tx o5 r5 (by decide)
    have Sd:q+ts.length<=4:=hq;clear rD Gg OI HD;go_upto_region 9 with fail
    go_region_law (first
     |(go_simp;refine HT.out.mono ?_;rintro e w2⟨s,xb,m2,cb,w5,rfl,z2,Sh,Gb,Kl,Kn,HN⟩;dsimp only)
     |refine Ob rfl (.tmp 28) (.tmp 31) 25 rfl (by simp[Act.eval]) (by simp[Act.eval]) Gb ?_)
    all_goals
     go_wp2;go_roundw
     case rel=>exact⟨q-1,ts++ [s],xb,m2,cb,by go_num,by rw[Qi,List.length_singleton];omega,HN.out.1,HN.out.2.1,HN.out.2.2⟩
     case measure=>simp[intOf];omega
   ·obtain rfl:q=0:=by omega
    have Gp:Hid (ts.length<=4):=by unfold Hid;omega
    clear OI y2;go_wp2_with fail;have Gf:=HD.out.rd;refine(Pd rb a n c 30 _ Gf (by omega) (by omega)).mono ?_;rintro e w8⟨b8,rfl,r8,g8⟩;have D8:=HD.out.grow r8 g8;clear Gf HD;cases b8 with
    |false=>
     obtain⟨y0,y1,y2,y3,y4⟩:=Nh D8.row;have f0:=D8.res.frozen 0;have f1:=D8.res.frozen 1;have f2:=D8.res.frozen 2;have f3:=D8.res.frozen 3;have f4:=D8.res.frozen 4;have c0:=D8.res.cell 0;have c1:=D8.res.cell 1;have c2:=D8.res.cell 2;have c3:=D8.res.cell 3;have c4:=D8.res.cell 4;simp at c0 c1 c2 c3 c4;have Gc:Hid (Dv w rb a n c G (⟨2,⟨#[]⟩,ts,[],[]⟩:Vl) (.slice xa m cc) Fi Fi w8):=D8;clear D8 g8 r8;go_wp2;exact bodyPost_ret (v:=vlV 2 ⟨#[]⟩ (.slice xa m cc) Fi Fi) (by simp[results,results81,go_sem,c0,c1,c2,c3,c4]) rfl (Gc.out.done (⟨Qs _,Gp.out,by simp,by simp,fun x hx=>by simp at hx,Gg.out⟩:Lr _) _ _ _ _ _)
    |true=>
     have Gc:Hid (Dv w rb a n c G (⟨2,⟨#[]⟩,ts,[],[]⟩:Vl) (.slice xa m cc) Fi Fi w8):=D8;have Gm:rb<w8.heap.size:=by have:=D8.gr.size;have:=D8.rb;omega
     clear D8 g8;go_wp2_with fail;refine(Kk.Ea rb a n c w8 r8 Gm).mono ?_;rintro e w9⟨x,rfl,_,r9,g9⟩;have D9:=Gc.out.grow r9 g9;have p0:=D9.row.cell 0;have Gy:=D9.row.frozen 0;simp at p0;have Ga:Dv w rb a n c G ⟨x,((⟨2,⟨#[]⟩,ts,[],[]⟩:Vl)).text,((⟨2,⟨#[]⟩,ts,[],[]⟩:Vl)).ia,((⟨2,⟨#[]⟩,ts,[],[]⟩:Vl)).pj,((⟨2,⟨#[]⟩,ts,[],[]⟩:Vl)).rq⟩ (.slice xa m cc) Fi Fi (w9.setCell ⟨G,0,none⟩ (.int .i64 x)):=D9.store 0 (.int .i64 x) rfl ⟨D9.own.ia,D9.own.pj,D9.own.rq⟩;obtain⟨y0,y1,y2,y3,y4⟩:=Nh Ga.row;have f0:=Ga.res.frozen 0;have f1:=Ga.res.frozen 1;have f2:=Ga.res.frozen 2;have f3:=Ga.res.frozen 3;have f4:=Ga.res.frozen 4;have c0:=Ga.res.cell 0;have c1:=Ga.res.cell 1;have c2:=Ga.res.cell 2;have c3:=Ga.res.cell 3;have c4:=Ga.res.cell 4;simp at c0 c1 c2 c3 c4;have Gd:Hid (Dv w rb a n c G ⟨x,((⟨2,⟨#[]⟩,ts,[],[]⟩:Vl)).text,((⟨2,⟨#[]⟩,ts,[],[]⟩:Vl)).ia,((⟨2,⟨#[]⟩,ts,[],[]⟩:Vl)).pj,((⟨2,⟨#[]⟩,ts,[],[]⟩:Vl)).rq⟩ (.slice xa m cc) Fi Fi (w9.setCell ⟨G,0,none⟩ (.int .i64 x))):=Ga;clear D9 Ga Gc g9 r9 r8;go_wp2_with fail;generalize w9.setCell ⟨G,0,none⟩ (.int .i64 x)=w10 at*;go_wp2;exact bodyPost_ret (v:=vlV x ⟨#[]⟩ (.slice xa m cc) Fi Fi) (by simp[results,results81,go_sem,c0,c1,c2,c3,c4]) rfl (Gd.out.done ⟨((⟨Qs _,Gp.out,by simp,by simp,fun x hx=>by simp at hx,Gg.out⟩:Lr _)).text,((⟨Qs _,Gp.out,by simp,by simp,fun x hx=>by simp at hx,Gg.out⟩:Lr _)).ni,((⟨Qs _,Gp.out,by simp,by simp,fun x hx=>by simp at hx,Gg.out⟩:Lr _)).np,((⟨Qs _,Gp.out,by simp,by simp,fun x hx=>by simp at hx,Gg.out⟩:Lr _)).nr,((⟨Qs _,Gp.out,by simp,by simp,fun x hx=>by simp at hx,Gg.out⟩:Lr _)).fit,((⟨Qs _,Gp.out,by simp,by simp,fun x hx=>by simp at hx,Gg.out⟩:Lr _)).ia⟩ _ _ _ _ _)
 ·have Kc:Hid (Dv w rb a n c G ⟨3,⟨#[]⟩,[],[],[]⟩ Fi Fi Fi ((w1.alloc (.cells (vC 3 ⟨#[]⟩ Fi Fi Fi) 45)).alloc (.cells #[.string ⟨#[]⟩,.string ⟨#[102]⟩,.string ⟨#[103]⟩,.string ⟨#[104]⟩] 9))):=by rw[<-HG.out];exact(Gi.out 3).alloc ((Qb _ _).alloc (Qc _) _)
  have Kq:Hid (Fc ((w1.alloc (.cells (vC 3 ⟨#[]⟩ Fi Fi Fi) 45)).alloc (.cells #[.string ⟨#[]⟩,.string ⟨#[102]⟩,.string ⟨#[103]⟩,.string ⟨#[104]⟩] 9)) (G+1) 9 #[.string ⟨#[]⟩,.string ⟨#[102]⟩,.string ⟨#[103]⟩,.string ⟨#[104]⟩]):=by
   have e1:(w1.alloc (.cells (vC 3 ⟨#[]⟩ Fi Fi Fi) 45)).heap.size=G+1:=by rw[<-HG.out];simp
   rw[<-e1];exact Fc.new _ 9 _
  clear Gi;go_wp2_with fail;rw[HG.out];generalize(w1.alloc (.cells (vC 3 ⟨#[]⟩ Fi Fi Fi) 45)).alloc (.cells #[.string ⟨#[]⟩,.string ⟨#[102]⟩,.string ⟨#[103]⟩,.string ⟨#[104]⟩] 9)=Wn at*;go_loopw [6] (fun i wr=>∃(q:Nat) (ps:List Pr) (xa:Option Addr) (m cc:Nat),i=.int .i64 q/\q<=4/\ps.length<=q/\Dv w rb a n c G ⟨3,⟨#[]⟩,[],ps,[]⟩ Fi (.slice xa m cc) Fi wr/\G3 wr (G+2) (.slice xa m cc) ps/\Fc wr (G+1) 9 #[.string ⟨#[]⟩,.string ⟨#[102]⟩,.string ⟨#[103]⟩,.string ⟨#[104]⟩]) (fun i _=>4-(intOf i).toNat)
  case atStart=>exact⟨0,[],none,0,0,rfl,by omega,by simp,Kc.out,Ch _ _,Kq.out⟩
  case round=>
   obtain⟨q,ps,xa,m,cc,rfl,hq,Gj,hd,oi,Kd⟩:=hrel;have HD:Hid (Dv w rb a n c G ⟨3,⟨#[]⟩,[],ps,[]⟩ Fi (.slice xa m cc) Fi wr):=hd;have OI:Hid (G3 wr (G+2) (.slice xa m cc) ps):=oi;have Gw:Hid (Fc wr (G+1) 9 #[.string ⟨#[]⟩,.string ⟨#[102]⟩,.string ⟨#[103]⟩,.string ⟨#[104]⟩]):=Kd;have Gv:=hd.low;have Gz:rb<wr.heap.size:=by have:=hd.gr.size;omega
   clear hd oi Kd Kc Kq;by_cases h4:q<4
   ·have Kv:(q:Int)<4:=by omega
    have Kt:(0:Int)<=(q:Int):=by omega
    go_wp2_with fail;refine(Pd rb a n c 2 wr HD.out.rd (by omega) (by omega)).mono ?_;rintro e w2⟨b,rfl,r2,g2⟩;have Ge:Hid (Dv w rb a n c G ⟨3,⟨#[]⟩,[],ps,[]⟩ Fi (.slice xa m cc) Fi w2):=HD.out.grow r2 g2;have Gs:Hid (G3 w2 (G+2) (.slice xa m cc) ps):=Pa OI.out g2 (by omega);have Gh:Hid (Fc w2 (G+1) 9 #[.string ⟨#[]⟩,.string ⟨#[102]⟩,.string ⟨#[103]⟩,.string ⟨#[104]⟩]):=Nc Gw.out g2 (by omega);have Gu:rb<w2.heap.size:=by have:=g2.size;omega
    have y3:=Ge.out.row.cell 3;simp at y3;obtain⟨x,hx,_⟩:=Oi Gh.out (O8 [⟨#[]⟩,⟨#[102]⟩,⟨#[103]⟩,⟨#[104]⟩] (by decide)) q (by simpa using h4);have Sf:IntKind.i64.wrap ((q:Int)+1)=(q:Int)+1:=Kk.wrap_small (by omega) (by omega);clear HD OI Gw g2;cases b with
    |true=>
     have rD:Rd w2.drew rb a n c:=r2.bw (B:=w2.heap.size) (below_drewN (Qb _ w2) 1) Gu;have HT:Hid (Cp 84 #[.pointer (some ⟨rb,0,none⟩)] w2.drew fun e w3=>∃(s:ByteArray) (xb:Option Addr) (m2 cb:Nat) (w5:World),e=.returned (.string s)/\w3.cell? ⟨G,3,none⟩=some (.slice xa m cc)/\w3.cell? ⟨G+1,q,none⟩=some (.string x)/\(w3.alloc (.cells #[.string x,.string s] 145)).cell? ⟨G,3,none⟩=some (.slice xa m cc)/\(Builtin.append_ #[42,42] 42 #[.slice xa m cc,.slice (some ⟨w3.heap.size,0,none⟩) 1 1]).run prog (w3.alloc (.cells #[.string x,.string s] 145))=.ok (.slice xb m2 cb) w5/\w5.cell? ⟨G,3,none⟩=some (.slice xa m cc)/\w5.frozen? ⟨G,3,none⟩=false/\Hid (Dv w rb a n c G ⟨3,⟨#[]⟩,[],ps++ [(x,s)],[]⟩ Fi (.slice xb m2 cb) Fi (w5.setCell ⟨G,3,none⟩ (.slice xb m2 cb))/\G3 (w5.setCell ⟨G,3,none⟩ (.slice xb m2 cb)) (G+2) (.slice xb m2 cb) (ps++ [(x,s)])/\Fc (w5.setCell ⟨G,3,none⟩ (.slice xb m2 cb)) (G+1) 9 #[.string ⟨#[]⟩,.string ⟨#[102]⟩,.string ⟨#[103]⟩,.string ⟨#[104]⟩])):=by
      refine(Bh rb a n c w2.drew rD Gu).mono ?_;rintro e w3⟨s,rfl,hz,r3,g3⟩;have gd:w2.grownBy w2.drew (some rb):=U0 w2 1 _;have Gl:=G4 gd g3;have D3:=Ge.out.grow r3 Gl;have o3:G3 w3 (G+2) (.slice xa m cc) ps:=Pa Gs.out Gl (by omega);have n3:=Nc Gh.out Gl (by omega);have bA:Bl w3 (w3.alloc (.cells #[.string x,.string s] 145)):=(Qb _ w3).alloc (Qc _) _;have Ka:=D3.alloc bA;obtain⟨xb,m2,cb,w5,Gb,o5,b5⟩:=yby x s o3 (by omega) n3.lt;have r5:Fc w5 G 45 _:=Fc.bw D3.row b5 (by omega);have n5:=Fc.bw n3 b5 (by omega);refine⟨s,xb,m2,cb,w5,rfl,D3.row.cell 3,(n3.cell q).trans ((Gh.out.cell q).symm.trans hx),Ka.row.cell 3,Gb,r5.cell 3,r5.frozen 3,?_,?_,?_⟩
      ·exact D3.put 3 _ (b5.mono (by omega)) rfl ⟨Uo _ _,Ut o5 (by omega),Kk.Up _ _⟩
      ·exact Tx o5 r5 (by decide)
      ·exact(Below.heap_setCell _ _ _ _ (by simp)).trans n5
     clear rD Gs Ge Gh r2;go_upto_region 16 with fail
     go_region_law (first
      |(go_simp;refine HT.out.mono ?_;rintro e w3⟨s,xb,m2,cb,w5,rfl,z3,Kz,Ky,Gb,Kl,Kn,HN⟩;dsimp only)
      |refine Ob rfl (.tmp 50) (.tmp 58) 42 rfl (by simp[Act.eval]) (by simp[Act.eval]) Gb ?_)
     all_goals
      go_wp2;go_roundw
      case rel=>exact⟨q+1,ps++ [(x,s)],xb,m2,cb,by go_num,by omega,by rw[Qi,List.length_singleton];omega,HN.out.1,HN.out.2.1,HN.out.2.2⟩
      case measure=>simp[intOf];omega
    |false=>
     by_cases h3:q=3
     ·have Kx:((q:Int)==3)=true:=by simp;omega
      have H3:Hid (q=3):=h3;clear h3;have rD:Rd w2.drew rb a n c:=r2.bw (B:=w2.heap.size) (below_drewN (Qb _ w2) 1) Gu;have HT:Hid (Cp 84 #[.pointer (some ⟨rb,0,none⟩)] w2.drew fun e w3=>∃(s:ByteArray) (xb:Option Addr) (m2 cb:Nat) (w5:World),e=.returned (.string s)/\w3.cell? ⟨G,3,none⟩=some (.slice xa m cc)/\w3.cell? ⟨G+1,q,none⟩=some (.string x)/\(w3.alloc (.cells #[.string x,.string s] 145)).cell? ⟨G,3,none⟩=some (.slice xa m cc)/\(Builtin.append_ #[42,42] 42 #[.slice xa m cc,.slice (some ⟨w3.heap.size,0,none⟩) 1 1]).run prog (w3.alloc (.cells #[.string x,.string s] 145))=.ok (.slice xb m2 cb) w5/\w5.cell? ⟨G,3,none⟩=some (.slice xa m cc)/\w5.frozen? ⟨G,3,none⟩=false/\Hid (Dv w rb a n c G ⟨3,⟨#[]⟩,[],ps++ [(x,s)],[]⟩ Fi (.slice xb m2 cb) Fi (w5.setCell ⟨G,3,none⟩ (.slice xb m2 cb))/\G3 (w5.setCell ⟨G,3,none⟩ (.slice xb m2 cb)) (G+2) (.slice xb m2 cb) (ps++ [(x,s)])/\Fc (w5.setCell ⟨G,3,none⟩ (.slice xb m2 cb)) (G+1) 9 #[.string ⟨#[]⟩,.string ⟨#[102]⟩,.string ⟨#[103]⟩,.string ⟨#[104]⟩])):=by
       refine(Bh rb a n c w2.drew rD Gu).mono ?_;rintro e w3⟨s,rfl,hz,r3,g3⟩;have gd:w2.grownBy w2.drew (some rb):=U0 w2 1 _;have Gl:=G4 gd g3;have D3:=Ge.out.grow r3 Gl;have o3:G3 w3 (G+2) (.slice xa m cc) ps:=Pa Gs.out Gl (by omega);have n3:=Nc Gh.out Gl (by omega);have bA:Bl w3 (w3.alloc (.cells #[.string x,.string s] 145)):=(Qb _ w3).alloc (Qc _) _;have Ka:=D3.alloc bA;obtain⟨xb,m2,cb,w5,Gb,o5,b5⟩:=yby x s o3 (by omega) n3.lt;have r5:Fc w5 G 45 _:=Fc.bw D3.row b5 (by omega);have n5:=Fc.bw n3 b5 (by omega);refine⟨s,xb,m2,cb,w5,rfl,D3.row.cell 3,(n3.cell q).trans ((Gh.out.cell q).symm.trans hx),Ka.row.cell 3,Gb,r5.cell 3,r5.frozen 3,?_,?_,?_⟩
       ·exact D3.put 3 _ (b5.mono (by omega)) rfl ⟨Uo _ _,Ut o5 (by omega),Kk.Up _ _⟩
       ·exact Tx o5 r5 (by decide)
       ·exact(Below.heap_setCell _ _ _ _ (by simp)).trans n5
      clear rD Gs Ge Gh r2;go_upto_region 16 with fail
      go_region_law (first
       |(go_simp;refine HT.out.mono ?_;rintro e w3⟨s,xb,m2,cb,w5,rfl,z3,Kz,Ky,Gb,Kl,Kn,HN⟩;dsimp only)
       |refine Ob rfl (.tmp 50) (.tmp 58) 42 rfl (by simp[Act.eval]) (by simp[Act.eval]) Gb ?_)
      all_goals
       go_wp2;go_roundw
       case rel=>exact⟨q+1,ps++ [(x,s)],xb,m2,cb,by go_num,by omega,by rw[Qi,List.length_singleton];omega,HN.out.1,HN.out.2.1,HN.out.2.2⟩
       case measure=>simp[intOf];omega
     ·have Kx:((q:Int)==3)=false:=by simp;omega
      clear r2 hx y3;go_wp2;go_roundw
      case rel=>exact⟨q+1,ps,xa,m,cc,by go_num,by omega,by omega,Ge.out,Gs.out,Gh.out⟩
      case measure=>simp[intOf];omega
   ·obtain rfl:q=4:=by omega
    clear OI Gw;go_wp2_with fail;have Gf:=HD.out.rd;refine(Pd rb a n c 30 _ Gf (by omega) (by omega)).mono ?_;rintro e w8⟨b8,rfl,r8,g8⟩;have D8:=HD.out.grow r8 g8;clear Gf HD;cases b8 with
    |false=>
     obtain⟨y0,y1,y2,y3,y4⟩:=Nh D8.row;have f0:=D8.res.frozen 0;have f1:=D8.res.frozen 1;have f2:=D8.res.frozen 2;have f3:=D8.res.frozen 3;have f4:=D8.res.frozen 4;have c0:=D8.res.cell 0;have c1:=D8.res.cell 1;have c2:=D8.res.cell 2;have c3:=D8.res.cell 3;have c4:=D8.res.cell 4;simp at c0 c1 c2 c3 c4;have Gc:Hid (Dv w rb a n c G (⟨3,⟨#[]⟩,[],ps,[]⟩:Vl) Fi (.slice xa m cc) Fi w8):=D8;clear D8 g8 r8;go_wp2;exact bodyPost_ret (v:=vlV 3 ⟨#[]⟩ Fi (.slice xa m cc) Fi) (by simp[results,results81,go_sem,c0,c1,c2,c3,c4]) rfl (Gc.out.done (⟨Qs _,by simp,Gj,by simp,fun x hx=>by simp at hx,by simp⟩:Lr _) _ _ _ _ _)
    |true=>
     have Gc:Hid (Dv w rb a n c G (⟨3,⟨#[]⟩,[],ps,[]⟩:Vl) Fi (.slice xa m cc) Fi w8):=D8;have Gm:rb<w8.heap.size:=by have:=D8.gr.size;have:=D8.rb;omega
     clear D8 g8;go_wp2_with fail;refine(Kk.Ea rb a n c w8 r8 Gm).mono ?_;rintro e w9⟨x,rfl,_,r9,g9⟩;have D9:=Gc.out.grow r9 g9;have p0:=D9.row.cell 0;have Gy:=D9.row.frozen 0;simp at p0;have Ga:Dv w rb a n c G ⟨x,((⟨3,⟨#[]⟩,[],ps,[]⟩:Vl)).text,((⟨3,⟨#[]⟩,[],ps,[]⟩:Vl)).ia,((⟨3,⟨#[]⟩,[],ps,[]⟩:Vl)).pj,((⟨3,⟨#[]⟩,[],ps,[]⟩:Vl)).rq⟩ Fi (.slice xa m cc) Fi (w9.setCell ⟨G,0,none⟩ (.int .i64 x)):=D9.store 0 (.int .i64 x) rfl ⟨D9.own.ia,D9.own.pj,D9.own.rq⟩;obtain⟨y0,y1,y2,y3,y4⟩:=Nh Ga.row;have f0:=Ga.res.frozen 0;have f1:=Ga.res.frozen 1;have f2:=Ga.res.frozen 2;have f3:=Ga.res.frozen 3;have f4:=Ga.res.frozen 4;have c0:=Ga.res.cell 0;have c1:=Ga.res.cell 1;have c2:=Ga.res.cell 2;have c3:=Ga.res.cell 3;have c4:=Ga.res.cell 4;simp at c0 c1 c2 c3 c4;have Gd:Hid (Dv w rb a n c G ⟨x,((⟨3,⟨#[]⟩,[],ps,[]⟩:Vl)).text,((⟨3,⟨#[]⟩,[],ps,[]⟩:Vl)).ia,((⟨3,⟨#[]⟩,[],ps,[]⟩:Vl)).pj,((⟨3,⟨#[]⟩,[],ps,[]⟩:Vl)).rq⟩ Fi (.slice xa m cc) Fi (w9.setCell ⟨G,0,none⟩ (.int .i64 x))):=Ga;clear D9 Ga Gc g9 r9 r8;go_wp2_with fail;generalize w9.setCell ⟨G,0,none⟩ (.int .i64 x)=w10 at*;go_wp2;exact bodyPost_ret (v:=vlV x ⟨#[]⟩ Fi (.slice xa m cc) Fi) (by simp[results,results81,go_sem,c0,c1,c2,c3,c4]) rfl (Gd.out.done ⟨((⟨Qs _,by simp,Gj,by simp,fun x hx=>by simp at hx,by simp⟩:Lr _)).text,((⟨Qs _,by simp,Gj,by simp,fun x hx=>by simp at hx,by simp⟩:Lr _)).ni,((⟨Qs _,by simp,Gj,by simp,fun x hx=>by simp at hx,by simp⟩:Lr _)).np,((⟨Qs _,by simp,Gj,by simp,fun x hx=>by simp at hx,by simp⟩:Lr _)).nr,((⟨Qs _,by simp,Gj,by simp,fun x hx=>by simp at hx,by simp⟩:Lr _)).fit,((⟨Qs _,by simp,Gj,by simp,fun x hx=>by simp at hx,by simp⟩:Lr _)).ia⟩ _ _ _ _ _)
 ·have HD:Hid (Dv w rb a n c G ⟨4,⟨#[]⟩,[],[],[]⟩ Fi Fi Fi (w1.alloc (.cells (vC 4 ⟨#[]⟩ Fi Fi Fi) 45))):=by rw[<-HG.out];exact Gi.out 4
  clear Gi;go_wp2_with fail;rw[HG.out];generalize w1.alloc (.cells (vC 4 ⟨#[]⟩ Fi Fi Fi) 45)=W1 at*;have Gq:rb<W1.heap.size:=by have:=HD.out.gr.size;omega
  refine(Kk.zwb rb a n c W1 HD.out.rd Gq).mono ?_;rintro e w2⟨v2,M,rfl,hM,Ki,oM,r2,g2⟩;have D2:=HD.out.grow r2 g2;obtain⟨aM,cM,Kp⟩:=Fx oM;obtain⟨m,hm⟩:∃m,M.length=m:=⟨_,rfl⟩;rw[hm]at Kp;subst Kp;have Ge:Hid (Dv w rb a n c G ⟨4,⟨#[]⟩,[],[],[]⟩ Fi Fi Fi w2):=D2;have OM:Hid (Fo w2 W1.heap.size (.slice aM m cM) M):=oM;have HF:Hid (Md M):=Ki;have HM:Hid (M.length=m):=hm;have Sb:m<=6:=by omega
  clear D2 oM Ki g2 HD hm hM;go_wp2_with fail;refine(Mb rb a n c 5 w2 r2 (by omega) (by omega)).mono ?_;rintro e w3⟨j,rfl,hj,r3,g3⟩;have Gx:Hid (Dv w rb a n c G ⟨4,⟨#[]⟩,[],[],[]⟩ Fi Fi Fi w3):=Ge.out.grow r3 g3;have HL:Hid (∃A,Kk.F7 w3 aM A 0 m M):=by
   obtain⟨a',A,c',e,Km⟩:=Kk.N7 (Pa OM.out g3 Gq);injection e with e1 e2 e3;subst e1;rw[HM.out]at Km;exact⟨A,Km⟩
  obtain⟨AM,Gr⟩:=HL.out;have HC:Hid (Cp 120 #[.slice aM m cM,.string ⟨#[109]⟩,.int .i64 j] w3 fun e w'=>∃A cc M',e=.returned (.slice (some ⟨A,0,none⟩) (List.length M') cc)/\M'.length<=m+1/\(Md M->Kk.Mn j->Md M')/\Fo w' w3.heap.size (.slice (some ⟨A,0,none⟩) M'.length cc) M'/\Bl w3 w'):=Kk.znj aM AM 0 m cM M ⟨#[109]⟩ j w3 Gr (by omega);have s3:w.heap.size+1<=w3.heap.size:=by have:=Gx.out.res.lt;omega
  clear r2 g3 Ge OM HL Gr r3;go_wp2_with fail;refine HC.out.mono ?_;rintro e w4⟨A',cc,M',rfl,Ku,Kh,o4,b4⟩;have Gk:Hid (Md M'):=Kh HF.out ⟨by omega,by omega⟩;have D4:=Gx.out.alloc b4;have p4:=D4.row.cell 4;have Sg:=D4.row.frozen 4;simp at p4;obtain⟨m',Gt⟩:∃m',M'.length=m':=⟨_,rfl⟩;have Gn:Hid (M'.length=m'):=Gt;rw[Gt]at o4 Ku;have HD:Hid (Dv w rb a n c G ⟨4,⟨#[]⟩,[],[],M'⟩ Fi Fi (.slice (some ⟨A',0,none⟩) m' cc) (w4.setCell ⟨G,4,none⟩ (.slice (some ⟨A',0,none⟩) m' cc))):=D4.store 4 _ rfl ⟨Uo _ _,Ch _ _,Ut o4 s3⟩;rw[Gt];clear D4 o4 Kh Gx HC b4 Gt HF;go_wp2_with fail;generalize w4.setCell ⟨G,4,none⟩ (.slice (some ⟨A',0,none⟩) m' cc)=w5 at*;have Gf:=HD.out.rd;refine(Pd rb a n c 30 _ Gf (by omega) (by omega)).mono ?_;rintro e w8⟨b8,rfl,r8,g8⟩;have D8:=HD.out.grow r8 g8;clear Gf HD;cases b8 with
  |false=>
   obtain⟨y0,y1,y2,y3,y4⟩:=Nh D8.row;have f0:=D8.res.frozen 0;have f1:=D8.res.frozen 1;have f2:=D8.res.frozen 2;have f3:=D8.res.frozen 3;have f4:=D8.res.frozen 4;have c0:=D8.res.cell 0;have c1:=D8.res.cell 1;have c2:=D8.res.cell 2;have c3:=D8.res.cell 3;have c4:=D8.res.cell 4;simp at c0 c1 c2 c3 c4;have Gc:Hid (Dv w rb a n c G (⟨4,⟨#[]⟩,[],[],M'⟩:Vl) Fi Fi (.slice (some ⟨A',0,none⟩) m' cc) w8):=D8;clear D8 g8 r8;go_wp2;exact bodyPost_ret (v:=vlV 4 ⟨#[]⟩ Fi Fi (.slice (some ⟨A',0,none⟩) m' cc)) (by simp[results,results81,go_sem,c0,c1,c2,c3,c4]) rfl (Gc.out.done (⟨Qs _,by simp,by simp,by show M'.length<=7;rw[Gn.out];omega,Gk.out,by simp⟩:Lr _) _ _ _ _ _)
  |true=>
   have Gc:Hid (Dv w rb a n c G (⟨4,⟨#[]⟩,[],[],M'⟩:Vl) Fi Fi (.slice (some ⟨A',0,none⟩) m' cc) w8):=D8;have Gm:rb<w8.heap.size:=by have:=D8.gr.size;have:=D8.rb;omega
   clear D8 g8;go_wp2_with fail;refine(Kk.Ea rb a n c w8 r8 Gm).mono ?_;rintro e w9⟨x,rfl,_,r9,g9⟩;have D9:=Gc.out.grow r9 g9;have p0:=D9.row.cell 0;have Gy:=D9.row.frozen 0;simp at p0;have Ga:Dv w rb a n c G ⟨x,((⟨4,⟨#[]⟩,[],[],M'⟩:Vl)).text,((⟨4,⟨#[]⟩,[],[],M'⟩:Vl)).ia,((⟨4,⟨#[]⟩,[],[],M'⟩:Vl)).pj,((⟨4,⟨#[]⟩,[],[],M'⟩:Vl)).rq⟩ Fi Fi (.slice (some ⟨A',0,none⟩) m' cc) (w9.setCell ⟨G,0,none⟩ (.int .i64 x)):=D9.store 0 (.int .i64 x) rfl ⟨D9.own.ia,D9.own.pj,D9.own.rq⟩;obtain⟨y0,y1,y2,y3,y4⟩:=Nh Ga.row;have f0:=Ga.res.frozen 0;have f1:=Ga.res.frozen 1;have f2:=Ga.res.frozen 2;have f3:=Ga.res.frozen 3;have f4:=Ga.res.frozen 4;have c0:=Ga.res.cell 0;have c1:=Ga.res.cell 1;have c2:=Ga.res.cell 2;have c3:=Ga.res.cell 3;have c4:=Ga.res.cell 4;simp at c0 c1 c2 c3 c4;have Gd:Hid (Dv w rb a n c G ⟨x,((⟨4,⟨#[]⟩,[],[],M'⟩:Vl)).text,((⟨4,⟨#[]⟩,[],[],M'⟩:Vl)).ia,((⟨4,⟨#[]⟩,[],[],M'⟩:Vl)).pj,((⟨4,⟨#[]⟩,[],[],M'⟩:Vl)).rq⟩ Fi Fi (.slice (some ⟨A',0,none⟩) m' cc) (w9.setCell ⟨G,0,none⟩ (.int .i64 x))):=Ga;clear D9 Ga Gc g9 r9 r8;go_wp2_with fail;generalize w9.setCell ⟨G,0,none⟩ (.int .i64 x)=w10 at*;go_wp2;exact bodyPost_ret (v:=vlV x ⟨#[]⟩ Fi Fi (.slice (some ⟨A',0,none⟩) m' cc)) (by simp[results,results81,go_sem,c0,c1,c2,c3,c4]) rfl (Gd.out.done ⟨((⟨Qs _,by simp,by simp,by show M'.length<=7;rw[Gn.out];omega,Gk.out,by simp⟩:Lr _)).text,((⟨Qs _,by simp,by simp,by show M'.length<=7;rw[Gn.out];omega,Gk.out,by simp⟩:Lr _)).ni,((⟨Qs _,by simp,by simp,by show M'.length<=7;rw[Gn.out];omega,Gk.out,by simp⟩:Lr _)).np,((⟨Qs _,by simp,by simp,by show M'.length<=7;rw[Gn.out];omega,Gk.out,by simp⟩:Lr _)).nr,((⟨Qs _,by simp,by simp,by show M'.length<=7;rw[Gn.out];omega,Gk.out,by simp⟩:Lr _)).fit,((⟨Qs _,by simp,by simp,by show M'.length<=7;rw[Gn.out];omega,Gk.out,by simp⟩:Lr _)).ia⟩ _ _ _ _ _)
end
end
end Go.Proofs.YtokafonppgppdaaGreatDoor
