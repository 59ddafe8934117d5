import Derived.Test.YtokafonppgppdaaGreatDoorDb
set_option maxHeartbeats 16000000
set_option maxRecDepth 100000
namespace Go.Proofs.YtokafonppgppdaaGreatDoor
open Tryz
open Go.RowKit Go.Sort
open Kk (Rk rk0 zd7 zju zc6 zea zeb zec za9 zbk encR zi5)
variable {w W W':World} {B rb size n c G:Nat} {e:TypeId} {v v':Vl} {xs:List Value} {a:Option Addr} {vi vp vr vi' vp' vr' V:Value}
theorem zes {r:Option Nat} (h:w.grownBy W r) (hb:Below w.heap.size W W'):w.grownBy W' r:=
 ⟨hb.os.trans h.os,hb.tape.trans h.tape,hb.output.trans h.output,Qj h.size hb.size,fun k hk hne=> (hb.block k hk).trans (h.block k hk hne)⟩
theorem zb9 {w':World} {v:Value} (h:w.ownsRow B e size v n xs) (g:w.grownBy w' (some rb)) (hB:rb<B):w'.ownsRow B e size v n xs:=
 World.ownsRow.kept h g (by
  cases hv:v.ownBlock with
  |none=>exact .inl rfl
  |some x=>exact .inr fun e=>by have:=(zaz h hv).1;have:=Option.some.inj e;omega)
structure Dv (w:World) (rb:Nat) (a:Option Addr) (n c G:Nat) (v:Vl) (vi vp vr:Value) (W:World):Prop where
 rd:Rd W rb a n c
 gr:w.grownBy W (some rb)
 res:zab W w.heap.size 45 z5
 row:zab W G 45 (vC v.kind v.text vi vp vr)
 own:VOwn W (w.heap.size+1) v vi vp vr
 low:w.heap.size<G
 rb:rb<w.heap.size
theorem Dv.grow (h:Dv w rb a n c G v vi vp vr W) (r:Rd W' rb a n c) (g:W.grownBy W' (some rb)):Dv w rb a n c G v vi vp vr W':=by
 have h1:=h.low;have h2:=h.rb;exact ⟨r,zah h.gr g,zbt h.res g (by omega),zbt h.row g (by omega),⟨zb9 h.own.ia g (by omega),zb9 h.own.pj g (by omega),zb9 h.own.rq g (by omega)⟩,h1,h2⟩
theorem Dv.alloc (h:Dv w rb a n c G v vi vp vr W) (hb:Bl W W'):Dv w rb a n c G v vi vp vr W':=by
 have h1:=h.low;have h2:=h.rb;have h3:=h.gr.size;exact ⟨h.rd.bw hb (by omega),zcc h.gr hb,zab.bw h.res hb h.res.lt,zab.bw h.row hb h.row.lt,h.own.bw hb,h1,h2⟩
theorem zgm {j:Nat} {v u:Value} {C:Array Value} (h:W.ownsRow B e size v n xs) (hr:zab W G 45 C) (he:e≠45):(W.setCell ⟨G,j,none⟩ u).ownsRow B e size v n xs:=by
 refine zai h fun g hg=>?_;refine Below.heap_setCell _ _ _ _ fun e2=>?_;obtain ⟨D,hD⟩:=zbh h hg;have e3:g=G:=e2;rw [e3] at hD;unfold zab at hr hD;rw [hr] at hD;injection hD with hD;injection hD with _ hD;exact he hD.symm
theorem Dv.store (j:Nat) (u:Value) (h:Dv w rb a n c G v vi vp vr W) (hc:(vC v.kind v.text vi vp vr).setIfInBounds j u=vC v'.kind v'.text vi' vp' vr') (ho:VOwn W (w.heap.size+1) v' vi' vp' vr'):Dv w rb a n c G v' vi' vp' vr' (W.setCell ⟨G,j,none⟩ u):=by
 have h1:=h.low;have h2:=h.rb;have h3:=h.gr.size;have hb:Below G W (W.setCell ⟨G,j,none⟩ u):=(Qb G W).setCell (p:=⟨G,j,none⟩) (Qc _) u;refine ⟨h.rd.bw hb (by omega),zes h.gr (hb.mono (by omega)),zab.bw h.res hb h1,?_,⟨zgm ho.ia h.row (by decide),zgm ho.pj h.row (by decide),zgm ho.rq h.row (by decide)⟩,h1,h2⟩;rw [<-hc];exact h.row.set j u
theorem Dv.put (j:Nat) (u:Value) (h:Dv w rb a n c G v vi vp vr W) (hb0:Below (G+1) W W') (hc:(vC v.kind v.text vi vp vr).setIfInBounds j u=vC v'.kind v'.text vi' vp' vr') (ho:VOwn W' (w.heap.size+1) v' vi' vp' vr'):Dv w rb a n c G v' vi' vp' vr' (W'.setCell ⟨G,j,none⟩ u):=by
 have h1:=h.low;have h2:=h.rb;have h3:=h.gr.size;have hr:zab W' G 45 (vC v.kind v.text vi vp vr):=zab.bw h.row hb0 (by omega);have hb:Below G W' (W'.setCell ⟨G,j,none⟩ u):=(Qb G W').setCell (p:=⟨G,j,none⟩) (Qc _) u;refine ⟨(h.rd.bw hb0 (by omega)).bw hb (by omega),zes (zes h.gr (hb0.mono (by omega))) (hb.mono (by omega)),zab.bw (zab.bw h.res hb0 (by omega)) hb h1,?_,⟨zgm ho.ia hr (by decide),zgm ho.pj hr (by decide),zgm ho.rq hr (by decide)⟩,h1,h2⟩;rw [<-hc];exact hr.set j u
theorem yha {ts:List ByteArray} (x:ByteArray) (h:zcx w B V ts) (hn:ts.length<=1048576) (hB:B<=w.heap.size):
  ∃xa m cc w',(Builtin.append_ #[25,25] 25 #[V,.slice (some ⟨w.heap.size,0,none⟩) 1 1]).run prog (w.alloc (.cells #[.string x] 9))= .ok (.slice xa m cc) w'/\zcx w' B (.slice xa m cc) (ts++ [x])/\Below B w w':=by
 obtain ⟨i0,hi,hz0,hz1,hz2⟩:=info_parts zmw;have hbl:Bl w (w.alloc (.cells #[.string x] 9)):=(Qb _ w).alloc (Qc _) _;have oA:=zaf h hbl
 obtain ⟨v',w',hrun,hown,hg,_,hblk⟩:=run_append_own_at (P:=prog) (w.alloc (.cells #[.string x] 9)) B 25 25 9 i0 _ 1 16 underlying25 hi hz0 hz1 hz2 rfl (by decide) V ts.length (zdw ts) oA ⟨w.heap.size,0,none⟩ 1 1 [.string x] rfl (fun j u hj=>by
  rw [Addr.add_lit,Qq];exact ((zab.new w 9 #[.string x]).cell j).trans (by simpa using hj)) (fun u hu=>by simp at hu;subst hu;rfl) (by unfold maxLen;omega) (by omega) (by simp;omega)
 obtain ⟨xa,cc,hv⟩:=zad hown;subst hv;refine ⟨xa,_,cc,w',hrun,?_,zdd (Qb _ w) hB h hg⟩;unfold zcx;rw [Qi,zut];exact hown
theorem yby {ps:List Pr} (x y:ByteArray) (h:zd2 w B V ps) (hn:ps.length<=1048576) (hB:B<=w.heap.size):
  ∃xa m cc w',(Builtin.append_ #[42,42] 42 #[V,.slice (some ⟨w.heap.size,0,none⟩) 1 1]).run prog (w.alloc (.cells #[.string x,.string y] 145))= .ok (.slice xa m cc) w'/\zd2 w' B (.slice xa m cc) (ps++ [(x,y)])/\Below B w w':=by
 obtain ⟨v',w',hrun,ho,hb⟩:=yek x y 42 underlying42 h hn hB;obtain ⟨xa,cc,hv⟩:=zad ho;subst hv;exact ⟨xa,_,cc,w',hrun,ho,hb⟩
structure zb6 (v:Vl):Prop where
 text:v.text.size<=20
 ni:v.ia.length<=4
 np:v.pj.length<=4
 nr:v.rq.length<=7
 fit:zi5 v.rq
 ia:∀t∈v.ia,t.size<=20
def yiq (w:World) (rb:Nat) (a:Option Addr) (n c:Nat) (e:Ending) (w':World):Prop:=
 ∃v vi vp vr,e= .returned (vlV v.kind v.text vi vp vr)/\VOwn w' w.heap.size v vi vp vr/\zb6 v/\Rd w' rb a n c/\w.grownBy w' (some rb)
theorem Dv.done (h:Dv w rb a n c G v vi vp vr W) (hs:zb6 v) (v0 v1 v2 v3 v4:Value):yiq w rb a n c (.returned (vlV v.kind v.text vi vp vr)) (yez W v0 v1 v2 v3 v4 w.heap.size):=by
 have hb:Below w.heap.size W (yez W v0 v1 v2 v3 v4 w.heap.size):=zcd (Qb _ W) _ _ _ _ _ _ (Qc _);have hk:=fun k (hk:k≠w.heap.size)=>zjo W v0 v1 v2 v3 v4 w.heap.size k hk;exact ⟨v,vi,vp,vr,rfl,⟨zle (zai h.own.ia fun g hg=>hk g (by have:=(zaz h.own.ia hg).1;omega)) (by omega),zle (zai h.own.pj fun g hg=>hk g (by have:=(zaz h.own.pj hg).1;omega)) (by omega),zle (zai h.own.rq fun g hg=>hk g (by have:=(zaz h.own.rq hg).1;omega)) (by omega)⟩,hs,h.rd.bw hb h.rb,zes h.gr hb⟩
section
variable (rb:Nat) (a:Option Addr) (n c:Nat) (w:World)
theorem yjz (h:Rd w rb a n c):
  Calls prog 41 #[.pointer (some ⟨rb,0,none⟩),.int .i64 4] w fun e w'=> (e= .returned (.int .i64 0)\/e= .returned (.int .i64 1)\/e= .returned (.int .i64 2)\/e= .returned (.int .i64 3))/\Rd w' rb a n c/\w.grownBy w' (some rb):=
 (zde rb a n c 4 w h (by omega) (by omega)).mono fun e w' ⟨j,he,hj,r,g⟩=>⟨by
  match j,hj,he with
  |0,_,he=>exact .inl he
  |1,_,he=>exact .inr (.inl he)
  |2,_,he=>exact .inr (.inr (.inl he))
  |3,_,he=>exact .inr (.inr (.inr he)),r,g⟩
theorem zy6 (h:Rd w rb a n c) (hrb:rb<w.heap.size):
  Calls prog 81 #[.pointer (some ⟨rb,0,none⟩)] w (yiq w rb a n c):=by
 have hb0:Bl w (w.alloc (.cells z5 45)):=(Qb _ w).alloc (Qc _) _;have R0:Rd (w.alloc (.cells z5 45)) rb a n c:=h.bw hb0 hrb;have HP:Hid (∀W,Rd W rb a n c->Cp 41 #[.pointer (some ⟨rb,0,none⟩),.int .i64 4] W fun e w'=> (e= .returned (.int .i64 0)\/e= .returned (.int .i64 1)\/e= .returned (.int .i64 2)\/e= .returned (.int .i64 3))/\Rd w' rb a n c/\W.grownBy w' (some rb)):=fun W hW=>yjz rb a n c W hW;have HR:Hid (zab (w.alloc (.cells z5 45)) w.heap.size 45 z5):=zab.new w 45 z5;clear h;go_enter func81,ntmps81;go_wp2_with fail;refine (HP.out _ R0).mono ?_;rintro e w1 ⟨he,r1,g1⟩;have gr1:w.grownBy w1 (some rb):=zah (zcc (za0 w _) hb0) g1;have s1:w.heap.size<w1.heap.size:=by have:=g1.size;simp at this;omega
 have HD1:Hid (∀k:Int,Dv w rb a n c w1.heap.size ⟨k,⟨#[]⟩,[],[],[]⟩ zay zay zay (w1.alloc (.cells (vC k ⟨#[]⟩ zay zay zay) 45))):=fun k=>by
  have b1:Bl w1 (w1.alloc (.cells (vC k ⟨#[]⟩ zay zay zay) 45)):=(Qb _ w1).alloc (Qc _) _;exact ⟨r1.bw b1 (by omega),zcc gr1 b1,zab.bw (zbt HR.out g1 (by omega)) b1 s1,zab.new w1 45 _,⟨zfx _ _,zh7 _ _,Kk.zfz _ _⟩,s1,hrb⟩
 obtain ⟨G,hG⟩:∃G,w1.heap.size=G:=⟨_,rfl⟩;have HG:Hid (w1.heap.size=G):=hG;clear R0 hb0 g1 r1 gr1 HR hG;rcases he with rfl|rfl|rfl|rfl
 ·have HD:Hid (Dv w rb a n c G ⟨1,⟨#[]⟩,[],[],[]⟩ zay zay zay (w1.alloc (.cells (vC 1 ⟨#[]⟩ zay zay zay) 45))):=by rw [<-HG.out];exact HD1.out 1
  clear HD1;go_wp2_with fail;rw [HG.out];generalize w1.alloc (.cells (vC 1 ⟨#[]⟩ zay zay zay) 45)=W1 at*;have lt1:rb<W1.heap.size:=by have:=HD.out.gr.size;omega
  refine (zim rb a n c W1 HD.out.rd lt1).mono ?_;rintro e w2 ⟨s,rfl,hz,r2,g2⟩;have D2:=HD.out.grow r2 g2;have p1:=D2.row.cell 1;have p1f:=D2.row.frozen 1;simp at p1;have D3:Dv w rb a n c G ⟨1,s,[],[],[]⟩ zay zay zay (w2.setCell ⟨G,1,none⟩ (.string s)):=D2.store 1 (.string s) rfl ⟨zfx _ _,zh7 _ _,Kk.zfz _ _⟩;have HD:Hid (Dv w rb a n c G ⟨1,s,[],[],[]⟩ zay zay zay (w2.setCell ⟨G,1,none⟩ (.string s))):=D3;clear D2 D3 r2 g2 lt1;go_wp2_with fail;generalize w2.setCell ⟨G,1,none⟩ (.string s)=w3 at*;have rdt:=HD.out.rd;refine (zc7 rb a n c 30 _ rdt (by omega) (by omega)).mono ?_;rintro e w8 ⟨b8,rfl,r8,g8⟩;have D8:=HD.out.grow r8 g8;clear rdt HD;cases b8 with
  |false=>
   obtain ⟨y0,y1,y2,y3,y4⟩:=zmn D8.row;have f0:=D8.res.frozen 0;have f1:=D8.res.frozen 1;have f2:=D8.res.frozen 2;have f3:=D8.res.frozen 3;have f4:=D8.res.frozen 4;have c0:=D8.res.cell 0;have c1:=D8.res.cell 1;have c2:=D8.res.cell 2;have c3:=D8.res.cell 3;have c4:=D8.res.cell 4;simp at c0 c1 c2 c3 c4;have HD8:Hid (Dv w rb a n c G (⟨1,s,[],[],[]⟩:Vl) zay zay zay w8):=D8;clear D8 g8 r8;go_wp2;exact bodyPost_ret (v:=vlV 1 s zay zay zay) (by simp [results,results81,go_sem,c0,c1,c2,c3,c4]) rfl (HD8.out.done (⟨by first|exact hz|exact Qs _,by simp,by simp,by simp,fun x hx=>by simp at hx,by simp⟩:zb6 _) _ _ _ _ _)
  |true=>
   have HD8:Hid (Dv w rb a n c G (⟨1,s,[],[],[]⟩:Vl) zay zay zay w8):=D8;have lt8:rb<w8.heap.size:=by have:=D8.gr.size;have:=D8.rb;omega
   clear D8 g8;go_wp2_with fail;refine (Kk.ycv rb a n c w8 r8 lt8).mono ?_;rintro e w9 ⟨x,rfl,_,r9,g9⟩;have D9:=HD8.out.grow r9 g9;have p0:=D9.row.cell 0;have p0f:=D9.row.frozen 0;simp at p0;have D10:Dv w rb a n c G ⟨x,((⟨1,s,[],[],[]⟩:Vl)).text,((⟨1,s,[],[],[]⟩:Vl)).ia,((⟨1,s,[],[],[]⟩:Vl)).pj,((⟨1,s,[],[],[]⟩:Vl)).rq⟩ zay zay zay (w9.setCell ⟨G,0,none⟩ (.int .i64 x)):=D9.store 0 (.int .i64 x) rfl ⟨D9.own.ia,D9.own.pj,D9.own.rq⟩;obtain ⟨y0,y1,y2,y3,y4⟩:=zmn D10.row;have f0:=D10.res.frozen 0;have f1:=D10.res.frozen 1;have f2:=D10.res.frozen 2;have f3:=D10.res.frozen 3;have f4:=D10.res.frozen 4;have c0:=D10.res.cell 0;have c1:=D10.res.cell 1;have c2:=D10.res.cell 2;have c3:=D10.res.cell 3;have c4:=D10.res.cell 4;simp at c0 c1 c2 c3 c4;have HD10:Hid (Dv w rb a n c G ⟨x,((⟨1,s,[],[],[]⟩:Vl)).text,((⟨1,s,[],[],[]⟩:Vl)).ia,((⟨1,s,[],[],[]⟩:Vl)).pj,((⟨1,s,[],[],[]⟩:Vl)).rq⟩ zay zay zay (w9.setCell ⟨G,0,none⟩ (.int .i64 x))):=D10;clear D9 D10 HD8 g9 r9 r8;go_wp2_with fail;generalize w9.setCell ⟨G,0,none⟩ (.int .i64 x)=w10 at*;go_wp2;exact bodyPost_ret (v:=vlV x s zay zay zay) (by simp [results,results81,go_sem,c0,c1,c2,c3,c4]) rfl (HD10.out.done ⟨((⟨by first|exact hz|exact Qs _,by simp,by simp,by simp,fun x hx=>by simp at hx,by simp⟩:zb6 _)).text,((⟨by first|exact hz|exact Qs _,by simp,by simp,by simp,fun x hx=>by simp at hx,by simp⟩:zb6 _)).ni,((⟨by first|exact hz|exact Qs _,by simp,by simp,by simp,fun x hx=>by simp at hx,by simp⟩:zb6 _)).np,((⟨by first|exact hz|exact Qs _,by simp,by simp,by simp,fun x hx=>by simp at hx,by simp⟩:zb6 _)).nr,((⟨by first|exact hz|exact Qs _,by simp,by simp,by simp,fun x hx=>by simp at hx,by simp⟩:zb6 _)).fit,((⟨by first|exact hz|exact Qs _,by simp,by simp,by simp,fun x hx=>by simp at hx,by simp⟩:zb6 _)).ia⟩ _ _ _ _ _)
 ·have HD:Hid (Dv w rb a n c G ⟨2,⟨#[]⟩,[],[],[]⟩ zay zay zay (w1.alloc (.cells (vC 2 ⟨#[]⟩ zay zay zay) 45))):=by rw [<-HG.out];exact HD1.out 2
  clear HD1;go_wp2_with fail;rw [HG.out];generalize w1.alloc (.cells (vC 2 ⟨#[]⟩ zay zay zay) 45)=W1 at*;have lt1:rb<W1.heap.size:=by have:=HD.out.gr.size;omega
  have HP2:Hid (Cp 41 #[.pointer (some ⟨rb,0,none⟩),.int .i64 4] W1 fun e w'=>∃q:Nat,e= .returned (.int .i64 q)/\q<4/\Rd w' rb a n c/\W1.grownBy w' (some rb)):=zde rb a n c 4 W1 HD.out.rd (by omega) (by omega);refine HP2.out.mono ?_;rintro e w2 ⟨q0,rfl,hq0,r2,g2⟩;have HD2:Hid (Dv w rb a n c G ⟨2,⟨#[]⟩,[],[],[]⟩ zay zay zay w2):=HD.out.grow r2 g2;clear HD HP2 r2 g2;go_wp2_with fail;go_loopw [4] (fun i wr=>∃(q:Nat) (ts:List ByteArray) (xa:Option Addr) (m cc:Nat),i= .int .i64 q/\q+ts.length<=4/\(∀t∈ts,t.size<=20)/\Dv w rb a n c G ⟨2,⟨#[]⟩,ts,[],[]⟩ (.slice xa m cc) zay zay wr/\zcx wr (G+1) (.slice xa m cc) ts) (fun i _=> (intOf i).toNat)
  case atStart=>exact ⟨q0+1,[],none,0,0,by go_num,by simp;omega,by simp,HD2.out,zfx _ _⟩
  case round=>
   obtain ⟨q,ts,xa,m,cc,rfl,hq,hts,hd,oi⟩:=hrel;have HD:Hid (Dv w rb a n c G ⟨2,⟨#[]⟩,ts,[],[]⟩ (.slice xa m cc) zay zay wr):=hd;have HTS:Hid (∀t∈ts,t.size<=20):=hts;have OI:Hid (zcx wr (G+1) (.slice xa m cc) ts):=oi;have hGl:=hd.row.lt;have hlow:=hd.low;have ltr:rb<wr.heap.size:=by have:=hd.gr.size;omega
   have y2:=hd.row.cell 2;simp at y2;clear hd hts oi HD2;by_cases h0:0<q
   ·have hqi:(0:Int)<(q:Int):=by omega
    have hqw:IntKind.i64.wrap ((q:Int)-1)=(q:Int)-1:=Kk.wrap_small (by omega) (by omega);have rD:Rd wr.drew rb a n c:=HD.out.rd.bw (B:=wr.heap.size) (below_drewN (Qb _ wr) 1) ltr;have HT:Hid (Cp 84 #[.pointer (some ⟨rb,0,none⟩)] wr.drew fun e w2=>∃(s:ByteArray) (xb:Option Addr) (m2 cb:Nat) (w5:World),e= .returned (.string s)/\w2.cell? ⟨G,2,none⟩=some (.slice xa m cc)/\(w2.alloc (.cells #[.string s] 9)).cell? ⟨G,2,none⟩=some (.slice xa m cc)/\(Builtin.append_ #[25,25] 25 #[.slice xa m cc,.slice (some ⟨w2.heap.size,0,none⟩) 1 1]).run prog (w2.alloc (.cells #[.string s] 9))= .ok (.slice xb m2 cb) w5/\w5.cell? ⟨G,2,none⟩=some (.slice xa m cc)/\w5.frozen? ⟨G,2,none⟩=false/\Hid ((∀t∈ts++ [s],t.size<=20)/\Dv w rb a n c G ⟨2,⟨#[]⟩,ts++ [s],[],[]⟩ (.slice xb m2 cb) zay zay (w5.setCell ⟨G,2,none⟩ (.slice xb m2 cb))/\zcx (w5.setCell ⟨G,2,none⟩ (.slice xb m2 cb)) (G+1) (.slice xb m2 cb) (ts++ [s]))):=by
     refine (zim rb a n c wr.drew rD ltr).mono ?_;rintro e w2 ⟨s,rfl,hz,r2,g2⟩;have gd:wr.grownBy wr.drew (some rb):=zd0 wr 1 _;have g02:=zah gd g2;have D2:=HD.out.grow r2 g02;have o2:zcx w2 (G+1) (.slice xa m cc) ts:=zb9 OI.out g02 (by omega);have bA:Bl w2 (w2.alloc (.cells #[.string s] 9)):=(Qb _ w2).alloc (Qc _) _;have D2A:=D2.alloc bA;obtain ⟨xb,m2,cb,w5,hrun,o5,b5⟩:=yha s o2 (by omega) D2.row.lt;have r5:zab w5 G 45 _:=zab.bw D2.row b5 (by omega);refine ⟨s,xb,m2,cb,w5,rfl,(D2.row.cell 2),(D2A.row.cell 2),hrun,r5.cell 2,r5.frozen 2,?_,?_,?_⟩
     ·intro t ht;rcases List.mem_append.1 ht with ht|ht
      ·exact HTS.out t ht
      ·simp at ht;subst ht;exact hz
     ·exact D2.put 2 _ b5 rfl ⟨zle o5 (by omega),zh7 _ _,Kk.zfz _ _⟩
     ·exact zgm o5 r5 (by decide)
    have hq4:q+ts.length<=4:=hq;clear rD HTS OI HD;go_upto_region 9 with fail
    go_region_law (first
     |(go_simp;refine HT.out.mono ?_;rintro e w2 ⟨s,xb,m2,cb,w5,rfl,z2,z2a,hrun,z5c,z5f,HN⟩;dsimp only)
     |refine zba rfl (.tmp 28) (.tmp 31) 25 rfl (by simp [Act.eval]) (by simp [Act.eval]) hrun ?_)
    all_goals
     go_wp2;go_roundw
     case rel=>exact ⟨q-1,ts++ [s],xb,m2,cb,by go_num,by rw [Qi,List.length_singleton];omega,HN.out.1,HN.out.2.1,HN.out.2.2⟩
     case measure=>simp [intOf];omega
   ·obtain rfl:q=0:=by omega
    have HN4:Hid (ts.length<=4):=by unfold Hid;omega
    clear OI y2;go_wp2_with fail;have rdt:=HD.out.rd;refine (zc7 rb a n c 30 _ rdt (by omega) (by omega)).mono ?_;rintro e w8 ⟨b8,rfl,r8,g8⟩;have D8:=HD.out.grow r8 g8;clear rdt HD;cases b8 with
    |false=>
     obtain ⟨y0,y1,y2,y3,y4⟩:=zmn D8.row;have f0:=D8.res.frozen 0;have f1:=D8.res.frozen 1;have f2:=D8.res.frozen 2;have f3:=D8.res.frozen 3;have f4:=D8.res.frozen 4;have c0:=D8.res.cell 0;have c1:=D8.res.cell 1;have c2:=D8.res.cell 2;have c3:=D8.res.cell 3;have c4:=D8.res.cell 4;simp at c0 c1 c2 c3 c4;have HD8:Hid (Dv w rb a n c G (⟨2,⟨#[]⟩,ts,[],[]⟩:Vl) (.slice xa m cc) zay zay w8):=D8;clear D8 g8 r8;go_wp2;exact bodyPost_ret (v:=vlV 2 ⟨#[]⟩ (.slice xa m cc) zay zay) (by simp [results,results81,go_sem,c0,c1,c2,c3,c4]) rfl (HD8.out.done (⟨Qs _,HN4.out,by simp,by simp,fun x hx=>by simp at hx,HTS.out⟩:zb6 _) _ _ _ _ _)
    |true=>
     have HD8:Hid (Dv w rb a n c G (⟨2,⟨#[]⟩,ts,[],[]⟩:Vl) (.slice xa m cc) zay zay w8):=D8;have lt8:rb<w8.heap.size:=by have:=D8.gr.size;have:=D8.rb;omega
     clear D8 g8;go_wp2_with fail;refine (Kk.ycv rb a n c w8 r8 lt8).mono ?_;rintro e w9 ⟨x,rfl,_,r9,g9⟩;have D9:=HD8.out.grow r9 g9;have p0:=D9.row.cell 0;have p0f:=D9.row.frozen 0;simp at p0;have D10:Dv w rb a n c G ⟨x,((⟨2,⟨#[]⟩,ts,[],[]⟩:Vl)).text,((⟨2,⟨#[]⟩,ts,[],[]⟩:Vl)).ia,((⟨2,⟨#[]⟩,ts,[],[]⟩:Vl)).pj,((⟨2,⟨#[]⟩,ts,[],[]⟩:Vl)).rq⟩ (.slice xa m cc) zay zay (w9.setCell ⟨G,0,none⟩ (.int .i64 x)):=D9.store 0 (.int .i64 x) rfl ⟨D9.own.ia,D9.own.pj,D9.own.rq⟩;obtain ⟨y0,y1,y2,y3,y4⟩:=zmn D10.row;have f0:=D10.res.frozen 0;have f1:=D10.res.frozen 1;have f2:=D10.res.frozen 2;have f3:=D10.res.frozen 3;have f4:=D10.res.frozen 4;have c0:=D10.res.cell 0;have c1:=D10.res.cell 1;have c2:=D10.res.cell 2;have c3:=D10.res.cell 3;have c4:=D10.res.cell 4;simp at c0 c1 c2 c3 c4;have HD10:Hid (Dv w rb a n c G ⟨x,((⟨2,⟨#[]⟩,ts,[],[]⟩:Vl)).text,((⟨2,⟨#[]⟩,ts,[],[]⟩:Vl)).ia,((⟨2,⟨#[]⟩,ts,[],[]⟩:Vl)).pj,((⟨2,⟨#[]⟩,ts,[],[]⟩:Vl)).rq⟩ (.slice xa m cc) zay zay (w9.setCell ⟨G,0,none⟩ (.int .i64 x))):=D10;clear D9 D10 HD8 g9 r9 r8;go_wp2_with fail;generalize w9.setCell ⟨G,0,none⟩ (.int .i64 x)=w10 at*;go_wp2;exact bodyPost_ret (v:=vlV x ⟨#[]⟩ (.slice xa m cc) zay zay) (by simp [results,results81,go_sem,c0,c1,c2,c3,c4]) rfl (HD10.out.done ⟨((⟨Qs _,HN4.out,by simp,by simp,fun x hx=>by simp at hx,HTS.out⟩:zb6 _)).text,((⟨Qs _,HN4.out,by simp,by simp,fun x hx=>by simp at hx,HTS.out⟩:zb6 _)).ni,((⟨Qs _,HN4.out,by simp,by simp,fun x hx=>by simp at hx,HTS.out⟩:zb6 _)).np,((⟨Qs _,HN4.out,by simp,by simp,fun x hx=>by simp at hx,HTS.out⟩:zb6 _)).nr,((⟨Qs _,HN4.out,by simp,by simp,fun x hx=>by simp at hx,HTS.out⟩:zb6 _)).fit,((⟨Qs _,HN4.out,by simp,by simp,fun x hx=>by simp at hx,HTS.out⟩:zb6 _)).ia⟩ _ _ _ _ _)
 ·have HDn:Hid (Dv w rb a n c G ⟨3,⟨#[]⟩,[],[],[]⟩ zay zay zay ((w1.alloc (.cells (vC 3 ⟨#[]⟩ zay zay zay) 45)).alloc (.cells #[.string ⟨#[]⟩,.string ⟨#[102]⟩,.string ⟨#[103]⟩,.string ⟨#[104]⟩] 9))):=by rw [<-HG.out];exact (HD1.out 3).alloc ((Qb _ _).alloc (Qc _) _)
  have HNm:Hid (zab ((w1.alloc (.cells (vC 3 ⟨#[]⟩ zay zay zay) 45)).alloc (.cells #[.string ⟨#[]⟩,.string ⟨#[102]⟩,.string ⟨#[103]⟩,.string ⟨#[104]⟩] 9)) (G+1) 9 #[.string ⟨#[]⟩,.string ⟨#[102]⟩,.string ⟨#[103]⟩,.string ⟨#[104]⟩]):=by
   have e1:(w1.alloc (.cells (vC 3 ⟨#[]⟩ zay zay zay) 45)).heap.size=G+1:=by rw [<-HG.out];simp
   rw [<-e1];exact zab.new _ 9 _
  clear HD1;go_wp2_with fail;rw [HG.out];generalize (w1.alloc (.cells (vC 3 ⟨#[]⟩ zay zay zay) 45)).alloc (.cells #[.string ⟨#[]⟩,.string ⟨#[102]⟩,.string ⟨#[103]⟩,.string ⟨#[104]⟩] 9)=Wn at*;go_loopw [6] (fun i wr=>∃(q:Nat) (ps:List Pr) (xa:Option Addr) (m cc:Nat),i= .int .i64 q/\q<=4/\ps.length<=q/\Dv w rb a n c G ⟨3,⟨#[]⟩,[],ps,[]⟩ zay (.slice xa m cc) zay wr/\zd2 wr (G+2) (.slice xa m cc) ps/\zab wr (G+1) 9 #[.string ⟨#[]⟩,.string ⟨#[102]⟩,.string ⟨#[103]⟩,.string ⟨#[104]⟩]) (fun i _=>4-(intOf i).toNat)
  case atStart=>exact ⟨0,[],none,0,0,rfl,by omega,by simp,HDn.out,zh7 _ _,HNm.out⟩
  case round=>
   obtain ⟨q,ps,xa,m,cc,rfl,hq,hps,hd,oi,hnm⟩:=hrel;have HD:Hid (Dv w rb a n c G ⟨3,⟨#[]⟩,[],ps,[]⟩ zay (.slice xa m cc) zay wr):=hd;have OI:Hid (zd2 wr (G+2) (.slice xa m cc) ps):=oi;have HNR:Hid (zab wr (G+1) 9 #[.string ⟨#[]⟩,.string ⟨#[102]⟩,.string ⟨#[103]⟩,.string ⟨#[104]⟩]):=hnm;have hlow:=hd.low;have ltr:rb<wr.heap.size:=by have:=hd.gr.size;omega
   clear hd oi hnm HDn HNm;by_cases h4:q<4
   ·have hqi:(q:Int)<4:=by omega
    have hq0:(0:Int)<=(q:Int):=by omega
    go_wp2_with fail;refine (zc7 rb a n c 2 wr HD.out.rd (by omega) (by omega)).mono ?_;rintro e w2 ⟨b,rfl,r2,g2⟩;have HD2:Hid (Dv w rb a n c G ⟨3,⟨#[]⟩,[],ps,[]⟩ zay (.slice xa m cc) zay w2):=HD.out.grow r2 g2;have OI2:Hid (zd2 w2 (G+2) (.slice xa m cc) ps):=zb9 OI.out g2 (by omega);have HN2:Hid (zab w2 (G+1) 9 #[.string ⟨#[]⟩,.string ⟨#[102]⟩,.string ⟨#[103]⟩,.string ⟨#[104]⟩]):=zbt HNR.out g2 (by omega);have lt2:rb<w2.heap.size:=by have:=g2.size;omega
    have y3:=HD2.out.row.cell 3;simp at y3;obtain ⟨x,hx,_⟩:=zb1 HN2.out (zcz [⟨#[]⟩,⟨#[102]⟩,⟨#[103]⟩,⟨#[104]⟩] (by decide)) q (by simpa using h4);have hw1:IntKind.i64.wrap ((q:Int)+1)=(q:Int)+1:=Kk.wrap_small (by omega) (by omega);clear HD OI HNR g2;cases b with
    |true=>
     have rD:Rd w2.drew rb a n c:=r2.bw (B:=w2.heap.size) (below_drewN (Qb _ w2) 1) lt2;have HT:Hid (Cp 84 #[.pointer (some ⟨rb,0,none⟩)] w2.drew fun e w3=>∃(s:ByteArray) (xb:Option Addr) (m2 cb:Nat) (w5:World),e= .returned (.string s)/\w3.cell? ⟨G,3,none⟩=some (.slice xa m cc)/\w3.cell? ⟨G+1,q,none⟩=some (.string x)/\(w3.alloc (.cells #[.string x,.string s] 145)).cell? ⟨G,3,none⟩=some (.slice xa m cc)/\(Builtin.append_ #[42,42] 42 #[.slice xa m cc,.slice (some ⟨w3.heap.size,0,none⟩) 1 1]).run prog (w3.alloc (.cells #[.string x,.string s] 145))= .ok (.slice xb m2 cb) w5/\w5.cell? ⟨G,3,none⟩=some (.slice xa m cc)/\w5.frozen? ⟨G,3,none⟩=false/\Hid (Dv w rb a n c G ⟨3,⟨#[]⟩,[],ps++ [(x,s)],[]⟩ zay (.slice xb m2 cb) zay (w5.setCell ⟨G,3,none⟩ (.slice xb m2 cb))/\zd2 (w5.setCell ⟨G,3,none⟩ (.slice xb m2 cb)) (G+2) (.slice xb m2 cb) (ps++ [(x,s)])/\zab (w5.setCell ⟨G,3,none⟩ (.slice xb m2 cb)) (G+1) 9 #[.string ⟨#[]⟩,.string ⟨#[102]⟩,.string ⟨#[103]⟩,.string ⟨#[104]⟩])):=by
      refine (zim rb a n c w2.drew rD lt2).mono ?_;rintro e w3 ⟨s,rfl,hz,r3,g3⟩;have gd:w2.grownBy w2.drew (some rb):=zd0 w2 1 _;have g23:=zah gd g3;have D3:=HD2.out.grow r3 g23;have o3:zd2 w3 (G+2) (.slice xa m cc) ps:=zb9 OI2.out g23 (by omega);have n3:=zbt HN2.out g23 (by omega);have bA:Bl w3 (w3.alloc (.cells #[.string x,.string s] 145)):=(Qb _ w3).alloc (Qc _) _;have D3A:=D3.alloc bA;obtain ⟨xb,m2,cb,w5,hrun,o5,b5⟩:=yby x s o3 (by omega) n3.lt;have r5:zab w5 G 45 _:=zab.bw D3.row b5 (by omega);have n5:=zab.bw n3 b5 (by omega);refine ⟨s,xb,m2,cb,w5,rfl,D3.row.cell 3,(n3.cell q).trans ((HN2.out.cell q).symm.trans hx),D3A.row.cell 3,hrun,r5.cell 3,r5.frozen 3,?_,?_,?_⟩
      ·exact D3.put 3 _ (b5.mono (by omega)) rfl ⟨zfx _ _,zle o5 (by omega),Kk.zfz _ _⟩
      ·exact zgm o5 r5 (by decide)
      ·exact (Below.heap_setCell _ _ _ _ (by simp)).trans n5
     clear rD OI2 HD2 HN2 r2;go_upto_region 16 with fail
     go_region_law (first
      |(go_simp;refine HT.out.mono ?_;rintro e w3 ⟨s,xb,m2,cb,w5,rfl,z3,z3n,z3a,hrun,z5c,z5f,HN⟩;dsimp only)
      |refine zba rfl (.tmp 50) (.tmp 58) 42 rfl (by simp [Act.eval]) (by simp [Act.eval]) hrun ?_)
     all_goals
      go_wp2;go_roundw
      case rel=>exact ⟨q+1,ps++ [(x,s)],xb,m2,cb,by go_num,by omega,by rw [Qi,List.length_singleton];omega,HN.out.1,HN.out.2.1,HN.out.2.2⟩
      case measure=>simp [intOf];omega
    |false=>
     by_cases h3:q=3
     ·have hq3:((q:Int)==3)=true:=by simp;omega
      have H3:Hid (q=3):=h3;clear h3;have rD:Rd w2.drew rb a n c:=r2.bw (B:=w2.heap.size) (below_drewN (Qb _ w2) 1) lt2;have HT:Hid (Cp 84 #[.pointer (some ⟨rb,0,none⟩)] w2.drew fun e w3=>∃(s:ByteArray) (xb:Option Addr) (m2 cb:Nat) (w5:World),e= .returned (.string s)/\w3.cell? ⟨G,3,none⟩=some (.slice xa m cc)/\w3.cell? ⟨G+1,q,none⟩=some (.string x)/\(w3.alloc (.cells #[.string x,.string s] 145)).cell? ⟨G,3,none⟩=some (.slice xa m cc)/\(Builtin.append_ #[42,42] 42 #[.slice xa m cc,.slice (some ⟨w3.heap.size,0,none⟩) 1 1]).run prog (w3.alloc (.cells #[.string x,.string s] 145))= .ok (.slice xb m2 cb) w5/\w5.cell? ⟨G,3,none⟩=some (.slice xa m cc)/\w5.frozen? ⟨G,3,none⟩=false/\Hid (Dv w rb a n c G ⟨3,⟨#[]⟩,[],ps++ [(x,s)],[]⟩ zay (.slice xb m2 cb) zay (w5.setCell ⟨G,3,none⟩ (.slice xb m2 cb))/\zd2 (w5.setCell ⟨G,3,none⟩ (.slice xb m2 cb)) (G+2) (.slice xb m2 cb) (ps++ [(x,s)])/\zab (w5.setCell ⟨G,3,none⟩ (.slice xb m2 cb)) (G+1) 9 #[.string ⟨#[]⟩,.string ⟨#[102]⟩,.string ⟨#[103]⟩,.string ⟨#[104]⟩])):=by
       refine (zim rb a n c w2.drew rD lt2).mono ?_;rintro e w3 ⟨s,rfl,hz,r3,g3⟩;have gd:w2.grownBy w2.drew (some rb):=zd0 w2 1 _;have g23:=zah gd g3;have D3:=HD2.out.grow r3 g23;have o3:zd2 w3 (G+2) (.slice xa m cc) ps:=zb9 OI2.out g23 (by omega);have n3:=zbt HN2.out g23 (by omega);have bA:Bl w3 (w3.alloc (.cells #[.string x,.string s] 145)):=(Qb _ w3).alloc (Qc _) _;have D3A:=D3.alloc bA;obtain ⟨xb,m2,cb,w5,hrun,o5,b5⟩:=yby x s o3 (by omega) n3.lt;have r5:zab w5 G 45 _:=zab.bw D3.row b5 (by omega);have n5:=zab.bw n3 b5 (by omega);refine ⟨s,xb,m2,cb,w5,rfl,D3.row.cell 3,(n3.cell q).trans ((HN2.out.cell q).symm.trans hx),D3A.row.cell 3,hrun,r5.cell 3,r5.frozen 3,?_,?_,?_⟩
       ·exact D3.put 3 _ (b5.mono (by omega)) rfl ⟨zfx _ _,zle o5 (by omega),Kk.zfz _ _⟩
       ·exact zgm o5 r5 (by decide)
       ·exact (Below.heap_setCell _ _ _ _ (by simp)).trans n5
      clear rD OI2 HD2 HN2 r2;go_upto_region 16 with fail
      go_region_law (first
       |(go_simp;refine HT.out.mono ?_;rintro e w3 ⟨s,xb,m2,cb,w5,rfl,z3,z3n,z3a,hrun,z5c,z5f,HN⟩;dsimp only)
       |refine zba rfl (.tmp 50) (.tmp 58) 42 rfl (by simp [Act.eval]) (by simp [Act.eval]) hrun ?_)
      all_goals
       go_wp2;go_roundw
       case rel=>exact ⟨q+1,ps++ [(x,s)],xb,m2,cb,by go_num,by omega,by rw [Qi,List.length_singleton];omega,HN.out.1,HN.out.2.1,HN.out.2.2⟩
       case measure=>simp [intOf];omega
     ·have hq3:((q:Int)==3)=false:=by simp;omega
      clear r2 hx y3;go_wp2;go_roundw
      case rel=>exact ⟨q+1,ps,xa,m,cc,by go_num,by omega,by omega,HD2.out,OI2.out,HN2.out⟩
      case measure=>simp [intOf];omega
   ·obtain rfl:q=4:=by omega
    clear OI HNR;go_wp2_with fail;have rdt:=HD.out.rd;refine (zc7 rb a n c 30 _ rdt (by omega) (by omega)).mono ?_;rintro e w8 ⟨b8,rfl,r8,g8⟩;have D8:=HD.out.grow r8 g8;clear rdt HD;cases b8 with
    |false=>
     obtain ⟨y0,y1,y2,y3,y4⟩:=zmn D8.row;have f0:=D8.res.frozen 0;have f1:=D8.res.frozen 1;have f2:=D8.res.frozen 2;have f3:=D8.res.frozen 3;have f4:=D8.res.frozen 4;have c0:=D8.res.cell 0;have c1:=D8.res.cell 1;have c2:=D8.res.cell 2;have c3:=D8.res.cell 3;have c4:=D8.res.cell 4;simp at c0 c1 c2 c3 c4;have HD8:Hid (Dv w rb a n c G (⟨3,⟨#[]⟩,[],ps,[]⟩:Vl) zay (.slice xa m cc) zay w8):=D8;clear D8 g8 r8;go_wp2;exact bodyPost_ret (v:=vlV 3 ⟨#[]⟩ zay (.slice xa m cc) zay) (by simp [results,results81,go_sem,c0,c1,c2,c3,c4]) rfl (HD8.out.done (⟨Qs _,by simp,hps,by simp,fun x hx=>by simp at hx,by simp⟩:zb6 _) _ _ _ _ _)
    |true=>
     have HD8:Hid (Dv w rb a n c G (⟨3,⟨#[]⟩,[],ps,[]⟩:Vl) zay (.slice xa m cc) zay w8):=D8;have lt8:rb<w8.heap.size:=by have:=D8.gr.size;have:=D8.rb;omega
     clear D8 g8;go_wp2_with fail;refine (Kk.ycv rb a n c w8 r8 lt8).mono ?_;rintro e w9 ⟨x,rfl,_,r9,g9⟩;have D9:=HD8.out.grow r9 g9;have p0:=D9.row.cell 0;have p0f:=D9.row.frozen 0;simp at p0;have D10:Dv w rb a n c G ⟨x,((⟨3,⟨#[]⟩,[],ps,[]⟩:Vl)).text,((⟨3,⟨#[]⟩,[],ps,[]⟩:Vl)).ia,((⟨3,⟨#[]⟩,[],ps,[]⟩:Vl)).pj,((⟨3,⟨#[]⟩,[],ps,[]⟩:Vl)).rq⟩ zay (.slice xa m cc) zay (w9.setCell ⟨G,0,none⟩ (.int .i64 x)):=D9.store 0 (.int .i64 x) rfl ⟨D9.own.ia,D9.own.pj,D9.own.rq⟩;obtain ⟨y0,y1,y2,y3,y4⟩:=zmn D10.row;have f0:=D10.res.frozen 0;have f1:=D10.res.frozen 1;have f2:=D10.res.frozen 2;have f3:=D10.res.frozen 3;have f4:=D10.res.frozen 4;have c0:=D10.res.cell 0;have c1:=D10.res.cell 1;have c2:=D10.res.cell 2;have c3:=D10.res.cell 3;have c4:=D10.res.cell 4;simp at c0 c1 c2 c3 c4;have HD10:Hid (Dv w rb a n c G ⟨x,((⟨3,⟨#[]⟩,[],ps,[]⟩:Vl)).text,((⟨3,⟨#[]⟩,[],ps,[]⟩:Vl)).ia,((⟨3,⟨#[]⟩,[],ps,[]⟩:Vl)).pj,((⟨3,⟨#[]⟩,[],ps,[]⟩:Vl)).rq⟩ zay (.slice xa m cc) zay (w9.setCell ⟨G,0,none⟩ (.int .i64 x))):=D10;clear D9 D10 HD8 g9 r9 r8;go_wp2_with fail;generalize w9.setCell ⟨G,0,none⟩ (.int .i64 x)=w10 at*;go_wp2;exact bodyPost_ret (v:=vlV x ⟨#[]⟩ zay (.slice xa m cc) zay) (by simp [results,results81,go_sem,c0,c1,c2,c3,c4]) rfl (HD10.out.done ⟨((⟨Qs _,by simp,hps,by simp,fun x hx=>by simp at hx,by simp⟩:zb6 _)).text,((⟨Qs _,by simp,hps,by simp,fun x hx=>by simp at hx,by simp⟩:zb6 _)).ni,((⟨Qs _,by simp,hps,by simp,fun x hx=>by simp at hx,by simp⟩:zb6 _)).np,((⟨Qs _,by simp,hps,by simp,fun x hx=>by simp at hx,by simp⟩:zb6 _)).nr,((⟨Qs _,by simp,hps,by simp,fun x hx=>by simp at hx,by simp⟩:zb6 _)).fit,((⟨Qs _,by simp,hps,by simp,fun x hx=>by simp at hx,by simp⟩:zb6 _)).ia⟩ _ _ _ _ _)
 ·have HD:Hid (Dv w rb a n c G ⟨4,⟨#[]⟩,[],[],[]⟩ zay zay zay (w1.alloc (.cells (vC 4 ⟨#[]⟩ zay zay zay) 45))):=by rw [<-HG.out];exact HD1.out 4
  clear HD1;go_wp2_with fail;rw [HG.out];generalize w1.alloc (.cells (vC 4 ⟨#[]⟩ zay zay zay) 45)=W1 at*;have lt1:rb<W1.heap.size:=by have:=HD.out.gr.size;omega
  refine (Kk.zwb rb a n c W1 HD.out.rd lt1).mono ?_;rintro e w2 ⟨v2,M,rfl,hM,hfM,oM,r2,g2⟩;have D2:=HD.out.grow r2 g2;obtain ⟨aM,cM,hv2⟩:=zad oM;obtain ⟨m,hm⟩:∃m,M.length=m:=⟨_,rfl⟩;rw [hm] at hv2;subst hv2;have HD2:Hid (Dv w rb a n c G ⟨4,⟨#[]⟩,[],[],[]⟩ zay zay zay w2):=D2;have OM:Hid (za9 w2 W1.heap.size (.slice aM m cM) M):=oM;have HF:Hid (zi5 M):=hfM;have HM:Hid (M.length=m):=hm;have hm6:m<=6:=by omega
  clear D2 oM hfM g2 HD hm hM;go_wp2_with fail;refine (zde rb a n c 5 w2 r2 (by omega) (by omega)).mono ?_;rintro e w3 ⟨j,rfl,hj,r3,g3⟩;have HD3:Hid (Dv w rb a n c G ⟨4,⟨#[]⟩,[],[],[]⟩ zay zay zay w3):=HD2.out.grow r3 g3;have HL:Hid (∃A,Kk.zdh w3 aM A 0 m M):=by
   obtain ⟨a',A,c',e,hin⟩:=Kk.zcl (zb9 OM.out g3 lt1);injection e with e1 e2 e3;subst e1;rw [HM.out] at hin;exact ⟨A,hin⟩
  obtain ⟨AM,hin3⟩:=HL.out;have HC:Hid (Cp 120 #[.slice aM m cM,.string ⟨#[109]⟩,.int .i64 j] w3 fun e w'=>∃A cc M',e= .returned (.slice (some ⟨A,0,none⟩) (List.length M') cc)/\M'.length<=m+1/\(zi5 M->Kk.zjw j->zi5 M')/\za9 w' w3.heap.size (.slice (some ⟨A,0,none⟩) M'.length cc) M'/\Bl w3 w'):=Kk.znj aM AM 0 m cM M ⟨#[109]⟩ j w3 hin3 (by omega);have s3:w.heap.size+1<=w3.heap.size:=by have:=HD3.out.res.lt;omega
  clear r2 g3 HD2 OM HL hin3 r3;go_wp2_with fail;refine HC.out.mono ?_;rintro e w4 ⟨A',cc,M',rfl,hl4,hf4,o4,b4⟩;have HF4:Hid (zi5 M'):=hf4 HF.out ⟨by omega,by omega⟩;have D4:=HD3.out.alloc b4;have p4:=D4.row.cell 4;have p4f:=D4.row.frozen 4;simp at p4;obtain ⟨m',hm'⟩:∃m',M'.length=m':=⟨_,rfl⟩;have HM':Hid (M'.length=m'):=hm';rw [hm'] at o4 hl4;have HD:Hid (Dv w rb a n c G ⟨4,⟨#[]⟩,[],[],M'⟩ zay zay (.slice (some ⟨A',0,none⟩) m' cc) (w4.setCell ⟨G,4,none⟩ (.slice (some ⟨A',0,none⟩) m' cc))):=D4.store 4 _ rfl ⟨zfx _ _,zh7 _ _,zle o4 s3⟩;rw [hm'];clear D4 o4 hf4 HD3 HC b4 hm' HF;go_wp2_with fail;generalize w4.setCell ⟨G,4,none⟩ (.slice (some ⟨A',0,none⟩) m' cc)=w5 at*;have rdt:=HD.out.rd;refine (zc7 rb a n c 30 _ rdt (by omega) (by omega)).mono ?_;rintro e w8 ⟨b8,rfl,r8,g8⟩;have D8:=HD.out.grow r8 g8;clear rdt HD;cases b8 with
  |false=>
   obtain ⟨y0,y1,y2,y3,y4⟩:=zmn D8.row;have f0:=D8.res.frozen 0;have f1:=D8.res.frozen 1;have f2:=D8.res.frozen 2;have f3:=D8.res.frozen 3;have f4:=D8.res.frozen 4;have c0:=D8.res.cell 0;have c1:=D8.res.cell 1;have c2:=D8.res.cell 2;have c3:=D8.res.cell 3;have c4:=D8.res.cell 4;simp at c0 c1 c2 c3 c4;have HD8:Hid (Dv w rb a n c G (⟨4,⟨#[]⟩,[],[],M'⟩:Vl) zay zay (.slice (some ⟨A',0,none⟩) m' cc) w8):=D8;clear D8 g8 r8;go_wp2;exact bodyPost_ret (v:=vlV 4 ⟨#[]⟩ zay zay (.slice (some ⟨A',0,none⟩) m' cc)) (by simp [results,results81,go_sem,c0,c1,c2,c3,c4]) rfl (HD8.out.done (⟨Qs _,by simp,by simp,by show M'.length<=7;rw [HM'.out];omega,HF4.out,by simp⟩:zb6 _) _ _ _ _ _)
  |true=>
   have HD8:Hid (Dv w rb a n c G (⟨4,⟨#[]⟩,[],[],M'⟩:Vl) zay zay (.slice (some ⟨A',0,none⟩) m' cc) w8):=D8;have lt8:rb<w8.heap.size:=by have:=D8.gr.size;have:=D8.rb;omega
   clear D8 g8;go_wp2_with fail;refine (Kk.ycv rb a n c w8 r8 lt8).mono ?_;rintro e w9 ⟨x,rfl,_,r9,g9⟩;have D9:=HD8.out.grow r9 g9;have p0:=D9.row.cell 0;have p0f:=D9.row.frozen 0;simp at p0;have D10:Dv w rb a n c G ⟨x,((⟨4,⟨#[]⟩,[],[],M'⟩:Vl)).text,((⟨4,⟨#[]⟩,[],[],M'⟩:Vl)).ia,((⟨4,⟨#[]⟩,[],[],M'⟩:Vl)).pj,((⟨4,⟨#[]⟩,[],[],M'⟩:Vl)).rq⟩ zay zay (.slice (some ⟨A',0,none⟩) m' cc) (w9.setCell ⟨G,0,none⟩ (.int .i64 x)):=D9.store 0 (.int .i64 x) rfl ⟨D9.own.ia,D9.own.pj,D9.own.rq⟩;obtain ⟨y0,y1,y2,y3,y4⟩:=zmn D10.row;have f0:=D10.res.frozen 0;have f1:=D10.res.frozen 1;have f2:=D10.res.frozen 2;have f3:=D10.res.frozen 3;have f4:=D10.res.frozen 4;have c0:=D10.res.cell 0;have c1:=D10.res.cell 1;have c2:=D10.res.cell 2;have c3:=D10.res.cell 3;have c4:=D10.res.cell 4;simp at c0 c1 c2 c3 c4;have HD10:Hid (Dv w rb a n c G ⟨x,((⟨4,⟨#[]⟩,[],[],M'⟩:Vl)).text,((⟨4,⟨#[]⟩,[],[],M'⟩:Vl)).ia,((⟨4,⟨#[]⟩,[],[],M'⟩:Vl)).pj,((⟨4,⟨#[]⟩,[],[],M'⟩:Vl)).rq⟩ zay zay (.slice (some ⟨A',0,none⟩) m' cc) (w9.setCell ⟨G,0,none⟩ (.int .i64 x))):=D10;clear D9 D10 HD8 g9 r9 r8;go_wp2_with fail;generalize w9.setCell ⟨G,0,none⟩ (.int .i64 x)=w10 at*;go_wp2;exact bodyPost_ret (v:=vlV x ⟨#[]⟩ zay zay (.slice (some ⟨A',0,none⟩) m' cc)) (by simp [results,results81,go_sem,c0,c1,c2,c3,c4]) rfl (HD10.out.done ⟨((⟨Qs _,by simp,by simp,by show M'.length<=7;rw [HM'.out];omega,HF4.out,by simp⟩:zb6 _)).text,((⟨Qs _,by simp,by simp,by show M'.length<=7;rw [HM'.out];omega,HF4.out,by simp⟩:zb6 _)).ni,((⟨Qs _,by simp,by simp,by show M'.length<=7;rw [HM'.out];omega,HF4.out,by simp⟩:zb6 _)).np,((⟨Qs _,by simp,by simp,by show M'.length<=7;rw [HM'.out];omega,HF4.out,by simp⟩:zb6 _)).nr,((⟨Qs _,by simp,by simp,by show M'.length<=7;rw [HM'.out];omega,HF4.out,by simp⟩:zb6 _)).fit,((⟨Qs _,by simp,by simp,by show M'.length<=7;rw [HM'.out];omega,HF4.out,by simp⟩:zb6 _)).ia⟩ _ _ _ _ _)
end
end Go.Proofs.YtokafonppgppdaaGreatDoor
