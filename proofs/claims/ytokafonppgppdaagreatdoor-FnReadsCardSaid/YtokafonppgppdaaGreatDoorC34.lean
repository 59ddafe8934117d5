import Derived.Test.YtokafonppgppdaaGreatDoorC35
set_option maxHeartbeats 4000000
set_option maxRecDepth 100000
namespace Go.Proofs.YtokafonppgppdaaGreatDoor
open Tryz
open Go.RowKit Go.Sort
open Kk (Rk rk0 zd7 zju zc6 zea zeb zec za9 zbk encR zdh zbz str_eq)
variable {w:World} {a:Option Addr} {n c:Nat} {cur:List Rk}
structure znx (w:World) (a:Option Addr) (n c:Nat) (cur:List Rk):Prop where
 own:za9 w 0 (.slice a n c) cur
 len:cur.length=n
theorem znx.rd (h:znx w a n c cur):∃A,zdh w a A 0 n cur/\(a=none->c=0):=by
 obtain ⟨a',A,c',e,hs⟩:=Kk.zcl h.own;injection e with q1 q2 q3;subst q1 q3;rw [h.len] at hs;refine ⟨A,hs,fun e=>?_⟩;rcases Joins.ownsRow_forms h.own with ⟨h1,_⟩|⟨g,cap,h1⟩
 ·injection h1 with r1 r2 r3
 ·injection h1 with r1 r2 r3;rw [e] at r1;cases r1
theorem znx.set {G:Nat} {C:Array Value} (h:znx w a n c cur) (hr:zab w G 47 C) (j:Nat) (x:Value):znx (w.setCell ⟨G,j,none⟩ x) a n c cur:=
 ⟨zai h.own fun g hg=>by
  obtain ⟨C,hCg⟩:=zbh h.own hg
  exact Below.heap_setCell _ _ _ _ (fun e=>by
   have e2:g=G:=e;subst e2;exact absurd (Hp.zcm hCg hr) (by decide)),h.len⟩
theorem znx.bw {w':World} (h:znx w a n c cur) (hb:Bl w w'):znx w' a n c cur:=⟨zaf h.own hb,h.len⟩
theorem yeu (rs:List Rk) (T:List ByteArray) (k:Nat) (h:k<T.length):(T.drop k).foldl Kk.without rs=(T.drop (k+1)).foldl Kk.without (Kk.without rs (zaj T k)):=by
 rw [List.drop_eq_getElem_cons h,List.foldl_cons];simp [zaj,List.getD_eq_getElem?_getD,List.getElem?_eq_getElem h]
theorem zzh (B B':Nat) (v:Value) (L:List KV) (x:KV) (aa:Option Addr) (ab ao m ac:Nat) (T:List ByteArray) (w:World) (h:zaw w B v L) (hf:zda (L.map KV.key)) (hn:L.length<=500000) (hx:VOwn w B' x.key.val x.vi x.vp x.vr) (hxs:zf8 x.key) (ha:zdg w aa ab ao m T) (hm:2<=m) (hm2:m<=20) (hB:B<=w.heap.size):
  Calls prog 107 #[v,kvV x,.string ⟨#[90,82,69,77]⟩,.slice aa m ac] w (zbd w B (zfl .ZREM (L.map KV.key) x.key T)):=by
 have hx0:=hx.rd (fun t ht=>by have:=hxs.ia t ht;omega);obtain ⟨p1,d1,e1⟩:=zad hx.ia;obtain ⟨p2,d2,e2⟩:=zad hx.pj;obtain ⟨p3,d3,e3⟩:=zad hx.rq;obtain ⟨⟨xn,xv,xd⟩,vi,vp,vr⟩:=x;have hown:=hx.rq;dsimp only at e1 e2 e3 hx0 hxs hown;subst e1 e2 e3;have hnr:xv.rq.length<=20:=hxs.nr;have hlen:=ha.len;have hlow:ab<w.heap.size:=ha.low (by omega);have haw:zdg w aa ab ao m T:=ha;obtain rfl:=ha.addr (by omega);obtain ⟨W0,hW0,HW0,b0,r0⟩:=boxed w (kC xn xv.kind xv.text (.slice p1 xv.ia.length d1) (.slice p2 xv.pj.length d2) (.slice p3 xv.rq.length d3) xd) 47;have ES:=zeg h hB b0;have HAW:Hid (∀W,Bl w W->∀i,i<m->W.cell? ⟨ab,ao+i,none⟩=some (.string (zaj T i))):=fun W hb i hi=> (zdb haw hb).cell i hi;have HIN:=hIN;have HSET:Hid (∀W rv a n c cur z,Bl w W->n<=100->znx W a n c cur->zbe W w.heap.size rv (zam z)->Cp 147 #[v,.agg (kC xn xv.kind xv.text (.slice p1 xv.ia.length d1) (.slice p2 xv.pj.length d2) (.slice a n c) xd),rv] W (fun e w'=>zbd w B (za1 (L.map KV.key) ⟨xn,⟨xv.kind,xv.text,xv.ia,xv.pj,cur⟩,xd⟩ (zam z)) e w'/\Bl W w')):=fun W rv a n c cur z hb h20 hp hr=>by
  obtain ⟨A,hin,hnc⟩:=hp.rd;obtain rfl:=hp.len;have hk:zo7 ⟨xn,⟨xv.kind,xv.text,xv.ia,xv.pj,cur⟩,xd⟩:=⟨⟨hxs.fit.fit.text,hxs.fit.fit.ia,hxs.fit.fit.pj,by show cur.length<=_;omega⟩,hxs.fit.name,hxs.fit.ia⟩;have hv:VRd W (⟨xv.kind,xv.text,xv.ia,xv.pj,cur⟩:Vl) (.slice p1 xv.ia.length d1) (.slice p2 xv.pj.length d2) (.slice a cur.length c):=⟨(hx0.bw hb).ia,(hx0.bw hb).pj,⟨a,A,0,c,rfl,hin,hnc⟩⟩;exact (zel B v L ⟨⟨xn,⟨xv.kind,xv.text,xv.ia,xv.pj,cur⟩,xd⟩,.slice p1 xv.ia.length d1,.slice p2 xv.pj.length d2,.slice a cur.length c⟩ rv (zam z) W (h.bw hb) hf hn hv hk hr (Qj hB hb.size) hb.size).mono fun e w' he=>⟨zbs.wide he hb,he.bel⟩
 have HC0:Hid (znx W0 p3 xv.rq.length d3 xv.rq):=⟨zbn (zaf hown b0) (Qs _),rfl⟩;obtain ⟨y0,y1,y2,y3,y4,y5,y6⟩:=zdo r0;show Calls prog 107 #[v,.agg (kC xn xv.kind xv.text (.slice p1 xv.ia.length d1) (.slice p2 xv.pj.length d2) (.slice p3 xv.rq.length d3) xd),.string ⟨#[90,82,69,77]⟩,.slice (some ⟨ab,ao,none⟩) m ac] w (zbd w B (za1 (L.map KV.key) ⟨xn,⟨xv.kind,xv.text,xv.ia,xv.pj,(T.tail.foldl Kk.without xv.rq)⟩,xd⟩ (zam ((xv.rq.length:Int)-((T.tail.foldl Kk.without xv.rq).length:Int)))));have HQ0:Hid ((T.tail.foldl Kk.without xv.rq)=(T.drop 1).foldl Kk.without xv.rq):=by unfold Hid;rw [List.drop_one]
 have HST:Hid (∀k cur,k<m->(T.drop k).foldl Kk.without cur=(T.drop (k+1)).foldl Kk.without (Kk.without cur (zaj T k))):=fun k cur hk=>yeu cur T k (by omega);have HED:Hid (∀cur,(T.drop m).foldl Kk.without cur=cur):=fun cur=>by rw [List.drop_eq_nil_of_le (by omega)];rfl
 have HLL:Hid (∀cur s,(Kk.without cur s).length<=cur.length):=fun cur s=>Kk.zb3 cur s;have HFIN:Hid (∀is,(T.tail.foldl Kk.without xv.rq)=is->za1 (L.map KV.key) ⟨xn,⟨xv.kind,xv.text,xv.ia,xv.pj,(T.tail.foldl Kk.without xv.rq)⟩,xd⟩ (zam ((xv.rq.length:Int)-((T.tail.foldl Kk.without xv.rq).length:Int)))=za1 (L.map KV.key) ⟨xn,⟨xv.kind,xv.text,xv.ia,xv.pj,is⟩,xd⟩ (zam ((xv.rq.length:Int)-(is.length:Int)))):=fun is e=>by rw [e]
 clear h hf hx hx0 hxs ha haw hW0 hown;generalize za1 (L.map KV.key) ⟨xn,⟨xv.kind,xv.text,xv.ia,xv.pj,(T.tail.foldl Kk.without xv.rq)⟩,xd⟩ (zam ((xv.rq.length:Int)-((T.tail.foldl Kk.without xv.rq).length:Int)))=SM at*;generalize (T.tail.foldl Kk.without xv.rq)=PA,L.map KV.key=K0,xv.ia.length=n1,xv.pj.length=n2 at*;generalize hn3:xv.rq.length=n3 at*;generalize xv.text=tx,xv.kind=kd at*;clear hn3;go_enter func107,ntmps107;go_upto_region 1 with fail;rw [HW0.out];go_wp2_with fail;go_loopw [20] (fun q wr=>∃(k:Nat) (a:Option Addr) (n c:Nat) (cur:List Rk),1<=k/\k<=m/\q= .int .i64 k/\n<=20/\Hid (PA=(T.drop k).foldl Kk.without cur)/\Hid (znx wr a n c cur)/\Hid (zab wr w.heap.size 47 (kC xn kd tx (.slice p1 n1 d1) (.slice p2 n2 d2) (.slice a n c) xd))/\Bl w wr) (fun q _=>m-(intOf q).toNat)
 case atStart=>exact ⟨1,p3,n3,d3,_,by omega,by omega,rfl,by omega,HQ0,HC0,r0,b0⟩
 case round=>
  obtain ⟨k,a,n,c,cur,hk1,hk,rfl,hn100,hQ,hC,hR,bk⟩:=hrel;clear y0 y1 y2 y3 y4 y5 y6 r0;obtain ⟨y0,y1,y2,y3,y4,y5,y6⟩:=zdo hR.out;by_cases hlt:k<m
  ·have ck:=HAW.out wr bk k (by omega);have HQ2:Hid (PA=(T.drop (k+1)).foldl Kk.without (Kk.without cur (zaj T k))):=hQ.out.trans (HST.out k cur hlt);have hRl:=zab.lt hR.out;have HT:Hid (Cp 152 #[.slice a n c,.string (zaj T k)] wr.drew fun e w'=>∃a' n' c',e= .returned (.slice a' n' c')/\w'.cell? ⟨w.heap.size,5,none⟩=some (.slice a n c)/\w'.frozen? ⟨w.heap.size,5,none⟩=false/\Hid (n'<=20/\znx (w'.setCell ⟨w.heap.size,5,none⟩ (.slice a' n' c')) a' n' c' (Kk.without cur (zaj T k))/\zab (w'.setCell ⟨w.heap.size,5,none⟩ (.slice a' n' c')) w.heap.size 47 (kC xn kd tx (.slice p1 n1 d1) (.slice p2 n2 d2) (.slice a' n' c') xd)/\Bl w (w'.setCell ⟨w.heap.size,5,none⟩ (.slice a' n' c')))):=by
    have hCd:znx wr.drew a n c cur:=⟨hC.out.own,hC.out.len⟩;obtain ⟨A,hin,_⟩:=hCd.rd;refine (Kk.zma a A 0 n c cur (zaj T k) wr.drew hin (by omega)).mono ?_;rintro e w' ⟨A',c',rfl,ho,hb'⟩;have hC':znx w' (some ⟨A',0,none⟩) (Kk.without cur (zaj T k)).length c' (Kk.without cur (zaj T k)):=⟨zbn ho (Qs _),rfl⟩;have hR':zab w' w.heap.size 47 (kC xn kd tx (.slice p1 n1 d1) (.slice p2 n2 d2) (.slice a n c) xd):=zab.bw (zab.bw hR.out (below_drewN (Qb _ wr) 1) hRl) hb' (by exact hRl);have hbw:Bl w w':=bk.trans ((below_drewN (Qb _ wr) 1).mono bk.size|>.trans (hb'.mono bk.size));have z5:=hR'.cell 5;simp at z5;have hl:=HLL.out cur (zaj T k);have:=hC.out.len;exact ⟨_,_,c',rfl,z5,hR'.frozen 5,by omega,hC'.set hR' 5 _,hR'.set 5 _,hbw.setCell (Qc _) _⟩
   clear hR hC hQ HQ0 HC0 HST HED HLL HFIN HSET HAW HIN ES;generalize Kk.without cur (zaj T k)=PP at*;generalize zaj T k=t at*;go_wp2_with fail
   go_region_law (first
    |(go_simp;refine HT.out.mono ?_;rintro e w' ⟨a',n',c',rfl,z5,f5,HN⟩;dsimp only))
   all_goals
    go_wp2;go_roundw
    case rel=>exact ⟨k+1,a',n',c',PP,by omega,by omega,by go_num,HN.out.1,HQ2,HN.out.2.1,HN.out.2.2.1,HN.out.2.2.2⟩
    case measure=>simp [intOf];omega
  ·obtain rfl:k=m:=by omega
   have hPA:=hQ.out.trans (HED.out cur);have hSM:=HFIN.out cur hPA;rw [hC.out.len] at hSM;have hws:IntKind.i64.wrap ((n3:Int)-(n:Int))=(n3:Int)-(n:Int):=Kk.wrap_small (by omega) (by omega);have HS2:Hid (∀W rv,Bl w W->Bl wr W->zbe W w.heap.size rv (zam ((n3:Int)-(n:Int)))->Cp 147 #[v,.agg (kC xn kd tx (.slice p1 n1 d1) (.slice p2 n2 d2) (.slice a n c) xd),rv] W (fun e w'=>zbd w B SM e w'/\Bl W w')):=fun W rv hb hb2 hr=>by
    rw [hSM];exact HSET.out W rv a n c cur _ hb (by omega) (hC.out.bw hb2) hr
   have hRl:=zab.lt hR.out;clear hSM hPA HFIN HSET HAW hC hR hQ HC0 HQ0 HST HED HLL ES;go_wp2_with fail;go_region_held3 (fun W=>W.cell? ⟨w.heap.size,0,none⟩=some (.string xn)/\W.cell? ⟨w.heap.size,1,none⟩=some (.int .i64 kd)/\W.cell? ⟨w.heap.size,2,none⟩=some (.string tx)/\W.cell? ⟨w.heap.size,3,none⟩=some (.slice p1 n1 d1)/\W.cell? ⟨w.heap.size,4,none⟩=some (.slice p2 n2 d2)/\W.cell? ⟨w.heap.size,5,none⟩=some (.slice a n c)/\W.cell? ⟨w.heap.size,6,none⟩=some (.int .i64 xd))
    (first|exact ⟨y0,y1,y2,y3,y4,y5,y6⟩|exact (up7 b1 hRl ⟨y0,y1,y2,y3,y4,y5,y6⟩)|exact (up7 b2 hA2 (up7 b1 hRl ⟨y0,y1,y2,y3,y4,y5,y6⟩)))
    (first
     |(go_at_call 141;refine (HIN.out _ ((n3:Int)-(n:Int))).mono ?_;rintro e w1 ⟨r,rfl,hr,b1⟩;have bd:Bl wr w1:=(below_drewN (Qb _ wr) 1).trans b1;have hr1:zbe w1 w.heap.size r (zam ((n3:Int)-(n:Int))):=hr.le bk.size;have hA2:w.heap.size<w1.heap.size:=Qr hRl bd.size;have bA1:Bl w w1:=bk.trans (bd.mono bk.size))
     |(go_at_call 147;refine (HS2.out _ _ bA1 bd hr1).mono ?_;rintro e w2 ⟨⟨v',r',L',rfl,hm,ho,hrr,hbb⟩,b2⟩;have HF:Hid (zbd w B SM (.returned (.tuple #[v',r'])) w2):=⟨v',r',L',rfl,hm,ho,hrr,hbb⟩;clear hm ho hrr hbb))
   all_goals
    go_wp2;go_ret2;exact HF.out
theorem znl (T:List ByteArray) (k:Nat) (h:k+1<T.length):T.drop k=zaj T k::zaj T (k+1)::T.drop (k+2):=by
 rw [List.drop_eq_getElem_cons (show k<T.length by omega),List.drop_eq_getElem_cons (show k+1<T.length by omega)];simp [zaj,List.getD_eq_getElem?_getD,List.getElem?_eq_getElem (show k<T.length by omega),List.getElem?_eq_getElem h]
theorem zwj (rs:List Rk) (T:List ByteArray) (k:Nat) (h:¬k+1<T.length):zc8 rs (T.drop k)=some rs:=by
 have:(T.drop k).length<=1:=by rw [Qu];omega
 match h:T.drop k,this with
 | [],_=>simp [zc8]
 | [x],_=>simp [zc8]
theorem yb1 (B B':Nat) (v:Value) (L:List KV) (x:KV) (aa:Option Addr) (ab ao m ac:Nat) (T:List ByteArray) (w:World) (h:zaw w B v L) (hf:zda (L.map KV.key)) (hn:L.length<=500000) (hx:VOwn w B' x.key.val x.vi x.vp x.vr) (hxs:zf8 x.key) (ha:zdg w aa ab ao m T) (hm:2<=m) (hm2:m<=20) (hT:∀i,i<m->(zaj T i).size<=200) (hB:B<=w.heap.size):
  Calls prog 107 #[v,kvV x,.string ⟨#[90,65,68,68]⟩,.slice aa m ac] w (zbd w B (zfl .ZADD (L.map KV.key) x.key T)):=by
 have hx0:=hx.rd (fun t ht=>by have:=hxs.ia t ht;omega);obtain ⟨p1,d1,e1⟩:=zad hx.ia;obtain ⟨p2,d2,e2⟩:=zad hx.pj;obtain ⟨p3,d3,e3⟩:=zad hx.rq;obtain ⟨⟨xn,xv,xd⟩,vi,vp,vr⟩:=x;have hown:=hx.rq;dsimp only at e1 e2 e3 hx0 hxs hown;subst e1 e2 e3;have hnr:xv.rq.length<=20:=hxs.nr;have hlen:=ha.len;have hlow:ab<w.heap.size:=ha.low (by omega);have haw:zdg w aa ab ao m T:=ha;obtain rfl:=ha.addr (by omega);obtain ⟨W0,hW0,HW0,b0,r0⟩:=boxed w (kC xn xv.kind xv.text (.slice p1 xv.ia.length d1) (.slice p2 xv.pj.length d2) (.slice p3 xv.rq.length d3) xd) 47;have ES:=zeg h hB b0;have HAW:Hid (∀W,Bl w W->∀i,i<m->W.cell? ⟨ab,ao+i,none⟩=some (.string (zaj T i))):=fun W hb i hi=> (zdb haw hb).cell i hi;have HIN:=hIN;have HSET:Hid (∀W rv a n c cur z,Bl w W->n<=100->znx W a n c cur->zbe W w.heap.size rv (zam z)->Cp 147 #[v,.agg (kC xn xv.kind xv.text (.slice p1 xv.ia.length d1) (.slice p2 xv.pj.length d2) (.slice a n c) xd),rv] W (fun e w'=>zbd w B (za1 (L.map KV.key) ⟨xn,⟨xv.kind,xv.text,xv.ia,xv.pj,cur⟩,xd⟩ (zam z)) e w'/\Bl W w')):=fun W rv a n c cur z hb h20 hp hr=>by
  obtain ⟨A,hin,hnc⟩:=hp.rd;obtain rfl:=hp.len;have hk:zo7 ⟨xn,⟨xv.kind,xv.text,xv.ia,xv.pj,cur⟩,xd⟩:=⟨⟨hxs.fit.fit.text,hxs.fit.fit.ia,hxs.fit.fit.pj,by show cur.length<=_;omega⟩,hxs.fit.name,hxs.fit.ia⟩;have hv:VRd W (⟨xv.kind,xv.text,xv.ia,xv.pj,cur⟩:Vl) (.slice p1 xv.ia.length d1) (.slice p2 xv.pj.length d2) (.slice a cur.length c):=⟨(hx0.bw hb).ia,(hx0.bw hb).pj,⟨a,A,0,c,rfl,hin,hnc⟩⟩;exact (zel B v L ⟨⟨xn,⟨xv.kind,xv.text,xv.ia,xv.pj,cur⟩,xd⟩,.slice p1 xv.ia.length d1,.slice p2 xv.pj.length d2,.slice a cur.length c⟩ rv (zam z) W (h.bw hb) hf hn hv hk hr (Qj hB hb.size) hb.size).mono fun e w' he=>⟨zbs.wide he hb,he.bel⟩
 have HC0:Hid (znx W0 p3 xv.rq.length d3 xv.rq):=⟨zbn (zaf hown b0) (Qs _),rfl⟩;obtain ⟨y0,y1,y2,y3,y4,y5,y6⟩:=zdo r0;have HER:=hER;have HI:Hid (∀W i,i<m->Cp 65 #[.string (zaj T i)] W fun e w'=>e= .returned (.tuple #[.int .i64 (zbc (zaj T i)).1,.bool (zbc (zaj T i)).2])/\w'=W):=fun W i hi=>zgi _ (by have:=hT i hi;omega) W;have ESw:Hid (∀R r w1 w2,Bl w w1->zbe w2 w1.heap.size r R->Bl w1 w2->zbd w B (L.map KV.key,R) (.returned (.tuple #[v,r])) w2):=fun R r w1 w2 h1 h2 h3=>zbd.same h hB h1 h2 h3;show Calls prog 107 #[v,.agg (kC xn xv.kind xv.text (.slice p1 xv.ia.length d1) (.slice p2 xv.pj.length d2) (.slice p3 xv.rq.length d3) xd),.string ⟨#[90,65,68,68]⟩,.slice (some ⟨ab,ao,none⟩) m ac] w (zbd w B (zfl .ZADD (L.map KV.key) ⟨xn,xv,xd⟩ T));have HQ0:Hid (zc8 xv.rq T.tail=zc8 xv.rq (T.drop 1)):=by unfold Hid;rw [List.drop_one]
 have HST:Hid (∀k cur,k+1<m->(zbc (zaj T k)).2=true->zc8 cur (T.drop k)=zc8 (Kk.zf4 (Kk.without cur (zaj T (k+1))) ⟨zaj T (k+1),(zbc (zaj T k)).1⟩) (T.drop (k+2))):=fun k cur hk ho=>by rw [znl T k (by omega),zc8,if_pos ho]
 have HBAD:Hid (∀k cur,k+1<m->(zbc (zaj T k)).2=false->zc8 cur (T.drop k)=none):=fun k cur hk ho=>by rw [znl T k (by omega),zc8,if_neg (by rw [ho];simp)]
 have HED:Hid (∀k cur,¬k+1<m->zc8 cur (T.drop k)=some cur):=fun k cur hk=>zwj cur T k (by omega);have HFIN:Hid (∀is,zc8 xv.rq T.tail=some is->zfl .ZADD (L.map KV.key) ⟨xn,xv,xd⟩ T=za1 (L.map KV.key) ⟨xn,⟨xv.kind,xv.text,xv.ia,xv.pj,is⟩,xd⟩ (zam ((is.length:Int)-(xv.rq.length:Int)))):=fun is e=>by
  simp only [zfl];rw [e];rfl
 have HNON:Hid (zc8 xv.rq T.tail=none->zfl .ZADD (L.map KV.key) ⟨xn,xv,xd⟩ T=(L.map KV.key,zcb zdc)):=fun e=>by
  simp only [zfl];rw [e]<;>rfl
 clear h hf hx hx0 hxs ha haw hW0 hown hT;generalize zfl .ZADD (L.map KV.key) ⟨xn,xv,xd⟩ T=SM,zc8 xv.rq T.tail=PA at*;generalize L.map KV.key=K0,xv.ia.length=n1,xv.pj.length=n2 at*;generalize hn3:xv.rq.length=n3 at*;generalize xv.text=tx,xv.kind=kd at*;clear hn3;go_enter func107,ntmps107;go_upto_region 1 with fail;rw [HW0.out];go_wp2_with fail;go_loopw [21] (fun q wr=>∃(k:Nat) (a:Option Addr) (n c:Nat) (cur:List Rk),1<=k/\k<=m/\q= .int .i64 k/\n<=20+k/\Hid (PA=zc8 cur (T.drop k))/\Hid (znx wr a n c cur)/\Hid (zab wr w.heap.size 47 (kC xn kd tx (.slice p1 n1 d1) (.slice p2 n2 d2) (.slice a n c) xd))/\Bl w wr) (fun q _=>m-(intOf q).toNat)
 case atStart=>exact ⟨1,p3,n3,d3,_,by omega,by omega,rfl,by omega,HQ0,HC0,r0,b0⟩
 case round=>
  obtain ⟨k,a,n,c,cur,hk1,hk,rfl,hn100,hQ,hC,hR,bk⟩:=hrel;clear y0 y1 y2 y3 y4 y5 y6 r0;obtain ⟨y0,y1,y2,y3,y4,y5,y6⟩:=zdo hR.out;have w1:IntKind.i64.wrap ((k:Int)+1)=(k:Int)+1:=Kk.wrap_small (by omega) (by omega);have h00:(0:Int)<=(k:Int):=by omega
  have h01:(0:Int)<=(k:Int)+1:=by omega
  have t1:((k:Int)+1).toNat=k+1:=by omega
  by_cases hlt:k+1<m
  ·have hji:(k:Int)+1<(m:Int):=by omega
   have hji0:(k:Int)<(m:Int):=by omega
   have ck:=HAW.out wr bk k (by omega);have ck1:=HAW.out wr bk (k+1) hlt;have hIk:=HI.out wr k (by omega);cases hok:(zbc (zaj T k)).2 with
   |false=>
    have hNo:=hQ.out.trans (HBAD.out k cur hlt hok);have HSM:Hid _:=HNON.out hNo;have HIk:Hid (Cp 65 #[.string (zaj T k)] wr fun e w'=>e= .returned (.tuple #[.int .i64 (zbc (zaj T k)).1,.bool false])/\w'=wr):=by
     rw [hok] at hIk;exact hIk
    clear hIk hNo hR hC hQ HQ0 HC0 HST HBAD HED HFIN HNON HSET HAW HIN HI ES hok;generalize (zbc (zaj T k)).1=z at*;generalize zaj T k=t,zaj T (k+1)=t' at*;go_wp2_with fail;refine HIk.out.mono ?_;rintro e w0 ⟨rfl,hw0⟩;subst hw0;clear HIk;go_wp2_with fail;refine (HER.out _).mono ?_;rintro e w2 ⟨r,rfl,hr,hb⟩;have HF:Hid (zbd w B SM (.returned (.tuple #[v,r])) w2):=by
     unfold Hid;rw [HSM.out];exact ESw.out (zcb zdc) r _ w2 bk hr hb
    clear hr hb ESw HSM;go_wp2;go_ret2;exact HF.out
   |true=>
    have HIk:Hid (Cp 65 #[.string (zaj T k)] wr fun e w'=>e= .returned (.tuple #[.int .i64 (zbc (zaj T k)).1,.bool true])/\w'=wr):=by
     rw [hok] at hIk;exact hIk
    have HQ2:Hid (PA=zc8 (Kk.zf4 (Kk.without cur (zaj T (k+1))) ⟨zaj T (k+1),(zbc (zaj T k)).1⟩) (T.drop (k+2))):=hQ.out.trans (HST.out k cur hlt hok);have hRl:=zab.lt hR.out;have HLL:Hid (∀(cur:List Rk) (s:ByteArray),(Kk.zf4 (Kk.without cur (zaj T (k+1))) ⟨zaj T (k+1),(zbc s).1⟩).length<=cur.length+1):=fun cur s=>by
     have:=Kk.zb3 cur (zaj T (k+1));rw [Kk.zlw];omega
    have HT:Hid (Cp 120 #[.slice a n c,.string (zaj T (k+1)),.int .i64 (zbc (zaj T k)).1] wr.drew fun e w'=>∃a' n' c',e= .returned (.slice a' n' c')/\w'.cell? ⟨w.heap.size,5,none⟩=some (.slice a n c)/\w'.frozen? ⟨w.heap.size,5,none⟩=false/\Hid (n'<=20+(k+2)/\znx (w'.setCell ⟨w.heap.size,5,none⟩ (.slice a' n' c')) a' n' c' (Kk.zf4 (Kk.without cur (zaj T (k+1))) ⟨zaj T (k+1),(zbc (zaj T k)).1⟩)/\zab (w'.setCell ⟨w.heap.size,5,none⟩ (.slice a' n' c')) w.heap.size 47 (kC xn kd tx (.slice p1 n1 d1) (.slice p2 n2 d2) (.slice a' n' c') xd)/\Bl w (w'.setCell ⟨w.heap.size,5,none⟩ (.slice a' n' c')))):=by
     have hCd:znx wr.drew a n c cur:=⟨hC.out.own,hC.out.len⟩;obtain ⟨A,hin,_⟩:=hCd.rd;refine (Kk.zln a A 0 n c cur (zaj T (k+1)) (zbc (zaj T k)).1 wr.drew hin (by omega)).mono ?_;rintro e w' ⟨A',c',rfl,ho,hb'⟩;have hC':znx w' (some ⟨A',0,none⟩) (Kk.zf4 (Kk.without cur (zaj T (k+1))) ⟨zaj T (k+1),(zbc (zaj T k)).1⟩).length c' (Kk.zf4 (Kk.without cur (zaj T (k+1))) ⟨zaj T (k+1),(zbc (zaj T k)).1⟩):=⟨zbn ho (Qs _),rfl⟩;have hR':zab w' w.heap.size 47 (kC xn kd tx (.slice p1 n1 d1) (.slice p2 n2 d2) (.slice a n c) xd):=zab.bw (zab.bw hR.out (below_drewN (Qb _ wr) 1) hRl) hb' (by exact hRl);have hbw:Bl w w':=bk.trans ((below_drewN (Qb _ wr) 1).mono bk.size|>.trans (hb'.mono bk.size));have z5:=hR'.cell 5;simp at z5;have hl:=HLL.out cur (zaj T k);have:=hC.out.len;exact ⟨_,_,c',rfl,z5,hR'.frozen 5,by omega,hC'.set hR' 5 _,hR'.set 5 _,hbw.setCell (Qc _) _⟩
    clear hR hC hQ HQ0 HC0 HST HBAD HED HLL HFIN HNON HSET HAW HIN HI ES ESw HER hIk hok;generalize Kk.zf4 (Kk.without cur (zaj T (k+1))) ⟨zaj T (k+1),(zbc (zaj T k)).1⟩=PP at*;generalize (zbc (zaj T k)).1=z at*;generalize zaj T k=t,zaj T (k+1)=t' at*;go_wp2_with fail;refine HIk.out.mono ?_;rintro e w0 ⟨rfl,hw0⟩;subst hw0;clear HIk;go_wp2_with fail
    go_region_law (first
     |(go_simp;refine HT.out.mono ?_;rintro e w' ⟨a',n',c',rfl,z5,f5,HN⟩;dsimp only))
    all_goals
     go_wp2;go_roundw
     case rel=>exact ⟨k+2,a',n',c',PP,by omega,by omega,by go_num,HN.out.1,HQ2,HN.out.2.1,HN.out.2.2.1,HN.out.2.2.2⟩
     case measure=>simp [intOf];omega
  ·have hji:¬(k:Int)+1<(m:Int):=by omega
   have hPA:=hQ.out.trans (HED.out k cur hlt);have hSM:=HFIN.out cur hPA;rw [hC.out.len] at hSM;have hws:IntKind.i64.wrap ((n:Int)-(n3:Int))=(n:Int)-(n3:Int):=Kk.wrap_small (by omega) (by omega);have HS2:Hid (∀W rv,Bl w W->Bl wr W->zbe W w.heap.size rv (zam ((n:Int)-(n3:Int)))->Cp 147 #[v,.agg (kC xn kd tx (.slice p1 n1 d1) (.slice p2 n2 d2) (.slice a n c) xd),rv] W (fun e w'=>zbd w B SM e w'/\Bl W w')):=fun W rv hb hb2 hr=>by
    rw [hSM];exact HSET.out W rv a n c cur _ hb (by omega) (hC.out.bw hb2) hr
   have hRl:=zab.lt hR.out;clear hSM hPA HFIN HSET HAW hC hR hQ HC0 HQ0 HST HED HBAD HNON HI HER ESw ES;go_wp2_with fail;go_region_held3 (fun W=>W.cell? ⟨w.heap.size,0,none⟩=some (.string xn)/\W.cell? ⟨w.heap.size,1,none⟩=some (.int .i64 kd)/\W.cell? ⟨w.heap.size,2,none⟩=some (.string tx)/\W.cell? ⟨w.heap.size,3,none⟩=some (.slice p1 n1 d1)/\W.cell? ⟨w.heap.size,4,none⟩=some (.slice p2 n2 d2)/\W.cell? ⟨w.heap.size,5,none⟩=some (.slice a n c)/\W.cell? ⟨w.heap.size,6,none⟩=some (.int .i64 xd))
    (first|exact ⟨y0,y1,y2,y3,y4,y5,y6⟩|exact (up7 b1 hRl ⟨y0,y1,y2,y3,y4,y5,y6⟩)|exact (up7 b2 hA2 (up7 b1 hRl ⟨y0,y1,y2,y3,y4,y5,y6⟩)))
    (first
     |(go_at_call 141;refine (HIN.out _ ((n:Int)-(n3:Int))).mono ?_;rintro e w1 ⟨r,rfl,hr,b1⟩;have bd:Bl wr w1:=(below_drewN (Qb _ wr) 1).trans b1;have hr1:zbe w1 w.heap.size r (zam ((n:Int)-(n3:Int))):=hr.le bk.size;have hA2:w.heap.size<w1.heap.size:=Qr hRl bd.size;have bA1:Bl w w1:=bk.trans (bd.mono bk.size))
     |(go_at_call 147;refine (HS2.out _ _ bA1 bd hr1).mono ?_;rintro e w2 ⟨⟨v',r',L',rfl,hm,ho,hrr,hbb⟩,b2⟩;have HF:Hid (zbd w B SM (.returned (.tuple #[v',r'])) w2):=⟨v',r',L',rfl,hm,ho,hrr,hbb⟩;clear hm ho hrr hbb))
   all_goals
    go_wp2;go_ret2;exact HF.out
end Go.Proofs.YtokafonppgppdaaGreatDoor
