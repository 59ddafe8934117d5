import Derived.Test.YtokafonppgppdaaGreatDoorC31
set_option maxHeartbeats 4000000
set_option maxRecDepth 100000
namespace Go.Proofs.YtokafonppgppdaaGreatDoor
open Tryz
open Go.RowKit Go.Sort
open Kk (Rk rk0 zd7 zju zc6 zea zeb zec za9 zbk encR zdh zbz str_eq)
variable {w:World} {a:Option Addr} {n c:Nat} {cur:List Pr} {v:Value}
theorem zvd (nm tx:ByteArray):∀(T:List Pr) (s:List Pr×Bool),(T.foldl (zbx nm tx) s).1.length+(if (T.foldl (zbx nm tx) s).2=true then 0 else 1)<=s.1.length+T.length+(if s.2=true then 0 else 1)
 | [],s=>Qc _
 |p::T,s=>by
  have h:=zvd nm tx T (zbx nm tx s p);have h2:(zbx nm tx s p).1.length+(if (zbx nm tx s p).2=true then 0 else 1)<=s.1.length+1+(if s.2=true then 0 else 1):=by
   unfold zbx;obtain ⟨s1,s2⟩:=s;cases s2<;>by_cases h1:p.1=nm<;>by_cases h2:geS p.1 nm=true<;>simp [h1,h2]<;> (try split)<;>simp<;>omega
  rw [List.foldl_cons,Q1];omega
theorem yho (T:List Pr) (nm tx:ByteArray):(zbj T nm tx).length<=T.length+1:=by
 have h:=zvd nm tx T ([],false);unfold zbj zpe;split
 ·next h1=>rw [if_pos h1] at h;simp at h;omega
 ·next h1=>rw [if_neg h1] at h;simp at h ⊢;omega
structure znb (w:World) (a:Option Addr) (n c:Nat) (cur:List Pr):Prop where
 own:zd2 w 0 (.slice a n c) cur
 len:cur.length=n
theorem znb.rd (h:znb w a n c cur):∃A,za6 w a A n cur/\(a=none->c=0):=by
 obtain ⟨a',A,c',e,hs⟩:=zdn h.own;injection e with q1 q2 q3;subst q1 q3;rw [h.len] at hs;refine ⟨A,hs,fun e=>?_⟩;rcases Joins.ownsRow_forms h.own with ⟨h1,_⟩|⟨g,cap,h1⟩
 ·injection h1 with r1 r2 r3
 ·injection h1 with r1 r2 r3;rw [e] at r1;cases r1
theorem znb.of {B:Nat} (h:zd2 w B v cur):∃a c,v= .slice a cur.length c/\znb w a cur.length c cur:=by
 obtain ⟨a,A,c,e,hs⟩:=zdn h;subst e;exact ⟨a,c,rfl,zbn h (Qs _),rfl⟩
theorem znb.set {G:Nat} {C:Array Value} (h:znb w a n c cur) (hr:zab w G 47 C) (j:Nat) (x:Value):znb (w.setCell ⟨G,j,none⟩ x) a n c cur:=
 ⟨zai h.own fun g hg=>by
  obtain ⟨C,hCg⟩:=zbh h.own hg
  exact Below.heap_setCell _ _ _ _ (fun e=>by
   have e2:g=G:=e;subst e2;exact absurd (Hp.zcm hCg hr) (by decide)),h.len⟩
theorem znb.bw {w':World} (h:znb w a n c cur) (hb:Bl w w'):znb w' a n c cur:=⟨zaf h.own hb,h.len⟩
section
variable (ps:List Pr) (T:List ByteArray) (k:Nat)
theorem zsr (h:k+1<T.length):za7 ps (T.drop k)=za7 (zbj ps (zaj T k) (zaj T (k+1))) (T.drop (k+2)):=by
 rw [List.drop_eq_getElem_cons (show k<T.length by omega),List.drop_eq_getElem_cons (show k+1<T.length by omega)];rw [za7];simp [zaj,List.getD_eq_getElem?_getD,List.getElem?_eq_getElem (show k<T.length by omega),List.getElem?_eq_getElem h]
theorem zxy (h:¬k+1<T.length):za7 ps (T.drop k)=ps:=by
 have:(T.drop k).length<=1:=by rw [Qu];omega
 match h:T.drop k,this with
 | [],_=>simp [za7]
 | [x],_=>simp [za7]
end
theorem yb6 (B B':Nat) (v:Value) (L:List KV) (x:KV) (aa:Option Addr) (ab ao m ac:Nat) (T:List ByteArray) (w:World) (h:zaw w B v L) (hf:zda (L.map KV.key)) (hn:L.length<=500000) (hx:VOwn w B' x.key.val x.vi x.vp x.vr) (hxs:zf8 x.key) (ha:zdg w aa ab ao m T) (hm:2<=m) (hm2:m<=20) (hB:B<=w.heap.size):
  Calls prog 106 #[v,kvV x,.string ⟨#[72,83,69,84]⟩,.slice aa m ac] w (zbd w B (zhl .HSET (L.map KV.key) x.key T)):=by
 have hx0:=hx.rd (fun t ht=>by have:=hxs.ia t ht;omega);obtain ⟨p1,d1,e1⟩:=zad hx.ia;obtain ⟨p2,d2,e2⟩:=zad hx.pj;obtain ⟨p3,d3,e3⟩:=zad hx.rq;obtain ⟨⟨xn,xv,xd⟩,vi,vp,vr⟩:=x;have hown:=hx.pj;dsimp only at e1 e2 e3 hx0 hxs hown;subst e1 e2 e3;have hnp:xv.pj.length<=20:=hxs.np;have hlen:=ha.len;have hlow:ab<w.heap.size:=ha.low (by omega);have haw:zdg w aa ab ao m T:=ha;obtain rfl:=ha.addr (by omega);obtain ⟨W0,hW0,HW0,b0,r0⟩:=boxed w (kC xn xv.kind xv.text (.slice p1 xv.ia.length d1) (.slice p2 xv.pj.length d2) (.slice p3 xv.rq.length d3) xd) 47;have ES:=zeg h hB b0;have HAW:Hid (∀W,Bl w W->∀i,i<m->W.cell? ⟨ab,ao+i,none⟩=some (.string (zaj T i))):=fun W hb i hi=> (zdb haw hb).cell i hi;have HIN:=hIN;have HSET:Hid (∀W rv a n c cur z,Bl w W->n<=100->znb W a n c cur->zbe W w.heap.size rv (zam z)->Cp 147 #[v,.agg (kC xn xv.kind xv.text (.slice p1 xv.ia.length d1) (.slice a n c) (.slice p3 xv.rq.length d3) xd),rv] W (fun e w'=>zbd w B (za1 (L.map KV.key) ⟨xn,⟨xv.kind,xv.text,xv.ia,cur,xv.rq⟩,xd⟩ (zam z)) e w'/\Bl W w')):=fun W rv a n c cur z hb h20 hp hr=>by
  obtain ⟨A,hin,hnc⟩:=hp.rd;obtain rfl:=hp.len;have hk:zo7 ⟨xn,⟨xv.kind,xv.text,xv.ia,cur,xv.rq⟩,xd⟩:=⟨⟨hxs.fit.fit.text,hxs.fit.fit.ia,by show cur.length<=_;omega,hxs.fit.fit.rq⟩,hxs.fit.name,hxs.fit.ia⟩;have hv:VRd W (⟨xv.kind,xv.text,xv.ia,cur,xv.rq⟩:Vl) (.slice p1 xv.ia.length d1) (.slice a cur.length c) (.slice p3 xv.rq.length d3):=⟨(hx0.bw hb).ia,⟨a,A,c,rfl,hin,hnc⟩,(hx0.bw hb).rq⟩;exact (zel B v L ⟨⟨xn,⟨xv.kind,xv.text,xv.ia,cur,xv.rq⟩,xd⟩,.slice p1 xv.ia.length d1,.slice a cur.length c,.slice p3 xv.rq.length d3⟩ rv (zam z) W (h.bw hb) hf hn hv hk hr (Qj hB hb.size) hb.size).mono fun e w' he=>⟨zbs.wide he hb,he.bel⟩
 have HC0:Hid (znb W0 p2 xv.pj.length d2 xv.pj):=⟨zbn (zaf hown b0) (Qs _),rfl⟩;obtain ⟨y0,y1,y2,y3,y4,y5,y6⟩:=zdo r0;show Calls prog 106 #[v,.agg (kC xn xv.kind xv.text (.slice p1 xv.ia.length d1) (.slice p2 xv.pj.length d2) (.slice p3 xv.rq.length d3) xd),.string ⟨#[72,83,69,84]⟩,.slice (some ⟨ab,ao,none⟩) m ac] w (zbd w B (za1 (L.map KV.key) ⟨xn,⟨xv.kind,xv.text,xv.ia,za7 xv.pj T.tail,xv.rq⟩,xd⟩ (zam (((za7 xv.pj T.tail).length:Int)-(xv.pj.length:Int)))));have HQ0:Hid (za7 xv.pj T.tail=za7 xv.pj (T.drop 1)):=by unfold Hid;rw [List.drop_one]
 have HST:Hid (∀k cur,k+1<m->za7 cur (T.drop k)=za7 (zbj cur (zaj T k) (zaj T (k+1))) (T.drop (k+2))):=fun k cur hk=>zsr cur T k (by omega);have HED:Hid (∀k cur,¬k+1<m->za7 cur (T.drop k)=cur):=fun k cur hk=>zxy cur T k (by omega);have HFIN:Hid (∀is,za7 xv.pj T.tail=is->za1 (L.map KV.key) ⟨xn,⟨xv.kind,xv.text,xv.ia,za7 xv.pj T.tail,xv.rq⟩,xd⟩ (zam (((za7 xv.pj T.tail).length:Int)-(xv.pj.length:Int)))=za1 (L.map KV.key) ⟨xn,⟨xv.kind,xv.text,xv.ia,is,xv.rq⟩,xd⟩ (zam ((is.length:Int)-(xv.pj.length:Int)))):=fun is e=>by rw [e]
 clear h hf hx hx0 hxs ha haw hW0 hown;generalize za1 (L.map KV.key) ⟨xn,⟨xv.kind,xv.text,xv.ia,za7 xv.pj T.tail,xv.rq⟩,xd⟩ (zam (((za7 xv.pj T.tail).length:Int)-(xv.pj.length:Int)))=SM at*;generalize za7 xv.pj T.tail=PA,L.map KV.key=K0,xv.ia.length=n1 at*;generalize hn2:xv.pj.length=n2 at*;generalize xv.rq.length=n3,xv.text=tx,xv.kind=kd at*;clear hn2;go_enter func106,ntmps106;go_upto_region 1 with fail;rw [HW0.out];go_wp2_with fail;go_loopw [18] (fun q wr=>∃(k:Nat) (a:Option Addr) (n c:Nat) (cur:List Pr),1<=k/\k<=m/\q= .int .i64 k/\n<=20+k/\Hid (PA=za7 cur (T.drop k))/\Hid (znb wr a n c cur)/\Hid (zab wr w.heap.size 47 (kC xn kd tx (.slice p1 n1 d1) (.slice a n c) (.slice p3 n3 d3) xd))/\Bl w wr) (fun q _=>m-(intOf q).toNat)
 case atStart=>exact ⟨1,p2,n2,d2,_,by omega,by omega,rfl,by omega,HQ0,HC0,r0,b0⟩
 case round=>
  obtain ⟨k,a,n,c,cur,hk1,hk,rfl,hn100,hQ,hC,hR,bk⟩:=hrel;clear y0 y1 y2 y3 y4 y5 y6 r0;obtain ⟨y0,y1,y2,y3,y4,y5,y6⟩:=zdo hR.out;have w1:IntKind.i64.wrap ((k:Int)+1)=(k:Int)+1:=Kk.wrap_small (by omega) (by omega);have h00:(0:Int)<=(k:Int):=by omega
  have h01:(0:Int)<=(k:Int)+1:=by omega
  have t1:((k:Int)+1).toNat=k+1:=by omega
  by_cases hlt:k+1<m
  ·have hji:(k:Int)+1<(m:Int):=by omega
   have hji0:(k:Int)<(m:Int):=by omega
   have ck:=HAW.out wr bk k (by omega);have ck1:=HAW.out wr bk (k+1) hlt;have HQ2:Hid (PA=za7 (zbj cur (zaj T k) (zaj T (k+1))) (T.drop (k+2))):=hQ.out.trans (HST.out k cur hlt);have hRl:=zab.lt hR.out;have HT:Hid (Cp 150 #[.slice a n c,.string (zaj T k),.string (zaj T (k+1))] wr.drew fun e w'=>∃a' n' c',e= .returned (.slice a' n' c')/\w'.cell? ⟨w.heap.size,4,none⟩=some (.slice a n c)/\w'.frozen? ⟨w.heap.size,4,none⟩=false/\Hid (n'<=20+(k+2)/\znb (w'.setCell ⟨w.heap.size,4,none⟩ (.slice a' n' c')) a' n' c' (zbj cur (zaj T k) (zaj T (k+1)))/\zab (w'.setCell ⟨w.heap.size,4,none⟩ (.slice a' n' c')) w.heap.size 47 (kC xn kd tx (.slice p1 n1 d1) (.slice a' n' c') (.slice p3 n3 d3) xd)/\Bl w (w'.setCell ⟨w.heap.size,4,none⟩ (.slice a' n' c')))):=by
    have hCd:znb wr.drew a n c cur:=⟨hC.out.own,hC.out.len⟩;obtain ⟨A,hin,_⟩:=hCd.rd;refine (yg2 a A n c cur (zaj T k) (zaj T (k+1)) wr.drew hin (by omega)).mono ?_;rintro e w' ⟨v',rfl,ho,hb'⟩;obtain ⟨a',c',rfl,hC'⟩:=znb.of ho;have hR':zab w' w.heap.size 47 (kC xn kd tx (.slice p1 n1 d1) (.slice a n c) (.slice p3 n3 d3) xd):=zab.bw (zab.bw hR.out (below_drewN (Qb _ wr) 1) hRl) hb' (by exact hRl);have hbw:Bl w w':=bk.trans ((below_drewN (Qb _ wr) 1).mono bk.size|>.trans (hb'.mono bk.size));have z4:=hR'.cell 4;simp at z4;have hl:=yho cur (zaj T k) (zaj T (k+1));have:=hC.out.len;exact ⟨a',_,c',rfl,z4,hR'.frozen 4,by omega,hC'.set hR' 4 _,hR'.set 4 _,hbw.setCell (Qc _) _⟩
   clear hR hC hQ HQ0 HC0 HST HED HFIN HSET HAW HIN ES;generalize zbj cur (zaj T k) (zaj T (k+1))=PP at*;generalize zaj T k=t,zaj T (k+1)=t' at*;go_wp2_with fail
   go_region_law (first
    |(go_simp;refine HT.out.mono ?_;rintro e w' ⟨a',n',c',rfl,z4,f4,HN⟩;dsimp only))
   all_goals
    go_wp2;go_roundw
    case rel=>exact ⟨k+2,a',n',c',PP,by omega,by omega,by go_num,HN.out.1,HQ2,HN.out.2.1,HN.out.2.2.1,HN.out.2.2.2⟩
    case measure=>simp [intOf];omega
  ·have hji:¬(k:Int)+1<(m:Int):=by omega
   have hPA:=hQ.out.trans (HED.out k cur hlt);have hSM:=HFIN.out cur hPA;rw [hC.out.len] at hSM;have hws:IntKind.i64.wrap ((n:Int)-(n2:Int))=(n:Int)-(n2:Int):=Kk.wrap_small (by omega) (by omega);have HS2:Hid (∀W rv,Bl w W->Bl wr W->zbe W w.heap.size rv (zam ((n:Int)-(n2:Int)))->Cp 147 #[v,.agg (kC xn kd tx (.slice p1 n1 d1) (.slice a n c) (.slice p3 n3 d3) xd),rv] W (fun e w'=>zbd w B SM e w'/\Bl W w')):=fun W rv hb hb2 hr=>by
    rw [hSM];exact HSET.out W rv a n c cur _ hb (by omega) (hC.out.bw hb2) hr
   have hRl:=zab.lt hR.out;clear hSM hPA HFIN HSET HAW hC hR hQ HC0 HQ0 HST HED ES;go_wp2_with fail;go_region_held3 (fun W=>W.cell? ⟨w.heap.size,0,none⟩=some (.string xn)/\W.cell? ⟨w.heap.size,1,none⟩=some (.int .i64 kd)/\W.cell? ⟨w.heap.size,2,none⟩=some (.string tx)/\W.cell? ⟨w.heap.size,3,none⟩=some (.slice p1 n1 d1)/\W.cell? ⟨w.heap.size,4,none⟩=some (.slice a n c)/\W.cell? ⟨w.heap.size,5,none⟩=some (.slice p3 n3 d3)/\W.cell? ⟨w.heap.size,6,none⟩=some (.int .i64 xd))
    (first|exact ⟨y0,y1,y2,y3,y4,y5,y6⟩|exact (up7 b1 hRl ⟨y0,y1,y2,y3,y4,y5,y6⟩)|exact (up7 b2 hA2 (up7 b1 hRl ⟨y0,y1,y2,y3,y4,y5,y6⟩)))
    (first
     |(go_at_call 141;refine (HIN.out _ ((n:Int)-(n2:Int))).mono ?_;rintro e w1 ⟨r,rfl,hr,b1⟩;have bd:Bl wr w1:=(below_drewN (Qb _ wr) 1).trans b1;have hr1:zbe w1 w.heap.size r (zam ((n:Int)-(n2:Int))):=hr.le bk.size;have hA2:w.heap.size<w1.heap.size:=Qr hRl bd.size;have bA1:Bl w w1:=bk.trans (bd.mono bk.size))
     |(go_at_call 147;refine (HS2.out _ _ bA1 bd hr1).mono ?_;rintro e w2 ⟨⟨v',r',L',rfl,hm,ho,hrr,hbb⟩,b2⟩;have HF:Hid (zbd w B SM (.returned (.tuple #[v',r'])) w2):=⟨v',r',L',rfl,hm,ho,hrr,hbb⟩;clear hm ho hrr hbb))
   all_goals
    go_wp2;go_ret2;exact HF.out
theorem PI.drewN {wr:World} {M:List Pr} (h:PI w v wr M) (d:Nat):PI w v (wr.drewN d) M:=
 ⟨zaf h.own (below_drewN (Qb _ wr) d),h.bel.trans ((below_drewN (Qb _ wr) d).mono h.bel.size)⟩
theorem zu5 (a b:ByteArray):(a==b)=decide (a=b):=by
 obtain ⟨⟨a⟩⟩:=a;obtain ⟨⟨b⟩⟩:=b;by_cases h:a=b
 ·subst h;rw [Qe rfl];show ((_:Array UInt8)==_)=true;simp
 ·rw [Qf (by simpa using h)];show ((_:Array UInt8)==_)=false;simpa using h
def zej (T:List ByteArray) (x:ByteArray) (j:Nat):Bool:=((T.take j).drop 1).contains x
theorem zz5 (T:List ByteArray) (x:ByteArray) (j:Nat) (h1:1<=j) (h:j<T.length):zej T x (j+1)=(zej T x j||decide (zaj T j=x)):=by
 unfold zej;rw [Qo h,List.drop_append_of_le_length (by rw [Qn];omega)];rw [show zaj T j=T[j] by simp [zaj,List.getD_eq_getElem?_getD,List.getElem?_eq_getElem h]];by_cases hx:x=T[j]
 ·subst hx;simp [zu5]
 ·have hx':¬T[j]=x:=fun e=>hx e.symm;simp [zu5,hx,hx']
theorem zyc (T:List ByteArray) (ps:List Pr) (k:Nat) (h:k<ps.length):(ps.take (k+1)).filter (fun p=>!(T.tail.contains p.1))=(ps.take k).filter (fun p=>!(T.tail.contains p.1))++(if T.tail.contains (ps.getD k (bz,bz)).1=true then [] else [(ps.getD k (bz,bz))]):=by
 rw [Qo h,List.filter_append];rw [show (ps.getD k (bz,bz))=ps[k] by rw [Qa,Qd h];rfl];by_cases hc:T.tail.contains (ps[k]).1=true
 ·rw [if_pos hc,List.filter_cons,hc];rfl
 ·have hc':T.tail.contains (ps[k]).1=false:=by simpa using hc
  rw [if_neg hc,List.filter_cons,hc'];rfl
theorem zyi (B B':Nat) (v:Value) (L:List KV) (x:KV) (aa:Option Addr) (ab ao m ac:Nat) (T:List ByteArray) (w:World) (h:zaw w B v L) (hf:zda (L.map KV.key)) (hn:L.length<=500000) (hx:VOwn w B' x.key.val x.vi x.vp x.vr) (hxs:zf8 x.key) (ha:zdg w aa ab ao m T) (hm:2<=m) (hm2:m<=20) (hB:B<=w.heap.size):
  Calls prog 106 #[v,kvV x,.string ⟨#[72,68,69,76]⟩,.slice aa m ac] w (zbd w B (zhl .HDEL (L.map KV.key) x.key T)):=by
 have hx0:=hx.rd (fun t ht=>by have:=hxs.ia t ht;omega);obtain ⟨p1,d1,e1⟩:=zad hx.ia;obtain ⟨p2,d2,e2⟩:=zad hx.pj;obtain ⟨p3,d3,e3⟩:=zad hx.rq;obtain ⟨⟨xn,xv,xd⟩,vi,vp,vr⟩:=x;have hown:=hx.pj;dsimp only at e1 e2 e3 hx0 hxs hown;subst e1 e2 e3;have hnp:xv.pj.length<=20:=hxs.np;have hlen:=ha.len;have hlow:ab<w.heap.size:=ha.low (by omega);have haw:zdg w aa ab ao m T:=ha;obtain rfl:=ha.addr (by omega);obtain ⟨W0,hW0,HW0,b0,r0⟩:=boxed w (kC xn xv.kind xv.text (.slice p1 xv.ia.length d1) (.slice p2 xv.pj.length d2) (.slice p3 xv.rq.length d3) xd) 47;have ES:=zeg h hB b0;have HAW:Hid (∀W,Bl w W->∀i,i<m->W.cell? ⟨ab,ao+i,none⟩=some (.string (zaj T i))):=fun W hb i hi=> (zdb haw hb).cell i hi;have HIN:=hIN;have HSET:Hid (∀W rv a n c cur z,Bl w W->n<=100->znb W a n c cur->zbe W w.heap.size rv (zam z)->Cp 147 #[v,.agg (kC xn xv.kind xv.text (.slice p1 xv.ia.length d1) (.slice a n c) (.slice p3 xv.rq.length d3) xd),rv] W (fun e w'=>zbd w B (za1 (L.map KV.key) ⟨xn,⟨xv.kind,xv.text,xv.ia,cur,xv.rq⟩,xd⟩ (zam z)) e w'/\Bl W w')):=fun W rv a n c cur z hb h20 hp hr=>by
  obtain ⟨A,hin,hnc⟩:=hp.rd;obtain rfl:=hp.len;have hk:zo7 ⟨xn,⟨xv.kind,xv.text,xv.ia,cur,xv.rq⟩,xd⟩:=⟨⟨hxs.fit.fit.text,hxs.fit.fit.ia,by show cur.length<=_;omega,hxs.fit.fit.rq⟩,hxs.fit.name,hxs.fit.ia⟩;have hv:VRd W (⟨xv.kind,xv.text,xv.ia,cur,xv.rq⟩:Vl) (.slice p1 xv.ia.length d1) (.slice a cur.length c) (.slice p3 xv.rq.length d3):=⟨(hx0.bw hb).ia,⟨a,A,c,rfl,hin,hnc⟩,(hx0.bw hb).rq⟩;exact (zel B v L ⟨⟨xn,⟨xv.kind,xv.text,xv.ia,cur,xv.rq⟩,xd⟩,.slice p1 xv.ia.length d1,.slice a cur.length c,.slice p3 xv.rq.length d3⟩ rv (zam z) W (h.bw hb) hf hn hv hk hr (Qj hB hb.size) hb.size).mono fun e w' he=>⟨zbs.wide he hb,he.bel⟩
 have HC0:Hid (znb W0 p2 xv.pj.length d2 xv.pj):=⟨zbn (zaf hown b0) (Qs _),rfl⟩;obtain ⟨y0,y1,y2,y3,y4,y5,y6⟩:=zdo r0;have HP:Hid (∃P2,za6 w p2 P2 xv.pj.length xv.pj):=by
  obtain ⟨a,A,c,e,hin⟩:=zdn hown;injection e with q1 q2 q3;subst q1;exact ⟨A,hin⟩
 obtain ⟨P2,i2⟩:=HP.out;clear HP;have HP:Hid (za6 w p2 P2 xv.pj.length xv.pj):=i2;have HY:Hid (zab W0 w.heap.size 47 (kC xn xv.kind xv.text (.slice p1 xv.ia.length d1) (.slice p2 xv.pj.length d2) (.slice p3 xv.rq.length d3) xd)):=r0;have HS:Hid (PI W0 _ _ ((xv.pj.take 0).filter fun p=>!(T.tail.contains p.1))):=PI.start W0;have HZ:Hid (xv.pj.take xv.pj.length=xv.pj):=List.take_length;have HKN:Hid (∀k,k<xv.pj.length->_):=fun k hk=>zyc T xv.pj k hk;have HG1:Hid (∀x,zej T x 1=false):=fun x=>by
  unfold zej;rw [List.drop_eq_nil_of_le (by rw [Qn];omega)];rfl
 have HGN:Hid (∀x j,1<=j->j<m->zej T x (j+1)=(zej T x j||decide (zaj T j=x))):=fun x j h1 hj=>zz5 T x j h1 (by omega);have HGE:Hid (∀x,T.tail.contains x=zej T x m):=fun x=>by
  unfold zej;rw [List.take_of_length_le (by omega),List.drop_one]
 have HLn:Hid (∀k,((xv.pj.take k).filter fun p=>!(T.tail.contains p.1)).length<=20):=fun k=>Qj (Qt _ _) (by rw [Qn];omega);show Calls prog 106 #[v,.agg (kC xn xv.kind xv.text (.slice p1 xv.ia.length d1) (.slice p2 xv.pj.length d2) (.slice p3 xv.rq.length d3) xd),.string ⟨#[72,68,69,76]⟩,.slice (some ⟨ab,ao,none⟩) m ac] w (zbd w B (za1 (L.map KV.key) ⟨xn,⟨xv.kind,xv.text,xv.ia,(xv.pj.filter fun p=>!(T.tail.contains p.1)),xv.rq⟩,xd⟩ (zam ((xv.pj.length:Int)-((xv.pj.filter fun p=>!(T.tail.contains p.1)).length:Int)))));have HFIN:Hid (∀n,(xv.pj.filter fun p=>!(T.tail.contains p.1)).length=n->za1 (L.map KV.key) ⟨xn,⟨xv.kind,xv.text,xv.ia,(xv.pj.filter fun p=>!(T.tail.contains p.1)),xv.rq⟩,xd⟩ (zam ((xv.pj.length:Int)-((xv.pj.filter fun p=>!(T.tail.contains p.1)).length:Int)))=za1 (L.map KV.key) ⟨xn,⟨xv.kind,xv.text,xv.ia,(xv.pj.filter fun p=>!(T.tail.contains p.1)),xv.rq⟩,xd⟩ (zam ((xv.pj.length:Int)-(n:Int)))):=fun n e=>by rw [e]
 clear h hf hx hx0 hxs ha haw hW0 hown i2 HC0;generalize hSMx:za1 (L.map KV.key) ⟨xn,⟨xv.kind,xv.text,xv.ia,(xv.pj.filter fun p=>!(T.tail.contains p.1)),xv.rq⟩,xd⟩ (zam ((xv.pj.length:Int)-((xv.pj.filter fun p=>!(T.tail.contains p.1)).length:Int)))=SM at*;clear hSMx;generalize L.map KV.key=K0,xv.ia.length=n1 at*;generalize hn2:xv.pj.length=n2 at*;generalize xv.rq.length=n3,xv.text=tx,xv.kind=kd at*;clear hn2 r0;go_enter func106,ntmps106;go_upto_region 1 with fail;rw [HW0.out];go_wp2_with fail;clear y0 y1 y2 y3 y4 y5 y6;go_loopw [14,15] (fun v i wr=>∃k:Nat,k<=n2/\i= .int .i64 k/\Hid (PI W0 v wr ((xv.pj.take k).filter fun p=>!(T.tail.contains p.1)))) (fun _ i _=>n2-(intOf i).toNat)
 case atStart=>exact ⟨0,by omega,rfl,HS⟩
 case round=>
  obtain ⟨k,hk,rfl,hI⟩:=hrel;clear HS;have hYr:zab wr w.heap.size 47 (kC xn kd tx (.slice p1 n1 d1) (.slice p2 n2 d2) (.slice p3 n3 d3) xd):=zab.bw HY.out hI.out.bel (zab.lt HY.out);have bw:Bl w wr:=b0.trans (hI.out.bel.mono b0.size);by_cases hlt:k<n2
  ·obtain ⟨y0,y1,y2,y3,y4,y5,y6⟩:=zdo hYr;have q0:=(HP.out.bw bw).c0 k hlt;have q1:=(HP.out.bw bw).c1 k hlt;obtain rfl:=HP.out.addr (by omega);have HK2:=HKN.out k hlt;have HCK:=HAW.out wr bw;rw [HGE.out] at HK2;have HK3:Hid (((xv.pj.take (k+1)).filter fun p=>!(T.tail.contains p.1))=((xv.pj.take k).filter fun p=>!(T.tail.contains p.1))++(if zej T (xv.pj.getD k (bz,bz)).1 m=true then [] else [((xv.pj.getD k (bz,bz)).1,(xv.pj.getD k (bz,bz)).2)])):=HK2;have HCK2:Hid (∀i,i<m->wr.cell? ⟨ab,ao+i,none⟩=some (.string (zaj T i))):=HCK;have hln:=HLn.out k;have hk0:(0:Int)<=(k:Int):=by omega
   have hkn:(k:Int)<(n2:Int):=by omega
   clear HK2 HCK hYr HKN HGE HFIN HSET HAW HIN ES HP HZ HLn HY;generalize (xv.pj.getD k (bz,bz)).1=xa,(xv.pj.getD k (bz,bz)).2=xb at*;have HG1':=HG1.out xa;have HG0:Hid (zej T xa 1=false):=HG1';have HGN2:Hid (∀j,1<=j->j<m->zej T xa (j+1)=(zej T xa j||decide (zaj T j=xa))):=HGN.out xa;clear HG1 HG1' HGN;obtain ⟨wo,hwo⟩:∃wo:World,wo=wr:=⟨_,rfl⟩;subst hwo;go_wp2_with fail;go_loopw [16,17] (fun g q wr=>∃(j d:Nat),1<=j/\j<=m/\q= .int .i64 j/\g= .bool (zej T xa j)/\wr=wo.drewN d) (fun _ q _=>m-(intOf q).toNat)
   case atStart=>exact ⟨1,0,by omega,by omega,rfl,by rw [HG0.out],rfl⟩
   case round=>
    obtain ⟨j,d,hj1,hj,rfl,rfl,rfl⟩:=hrel;clear HG0;by_cases hjm:j<m
    ·have ck:=HCK2.out j hjm;have HNX:=HGN2.out j hj1 hjm;have hj0:(0:Int)<=(j:Int):=by omega
     have hjn:(j:Int)<(m:Int):=by omega
     clear HGN2 HCK2 HK3 hI;generalize zaj T j=t at*;cases hg:zej T xa j with
     |true=>
      have HNX2:Hid (zej T xa (j+1)=true):=by unfold Hid;rw [hg] at HNX;simpa using HNX
      clear HNX hg;go_wp2_with fail;go_quiet ((fail));go_wp2;go_roundw
      case rel=>exact ⟨j+1,_,by omega,by omega,by go_num,by rw [HNX2.out],rfl⟩
      case measure=>simp [intOf];omega
     |false=>
      by_cases hte:t=xa
      ·have HNX2:Hid (zej T xa (j+1)=true):=by unfold Hid;rw [hg,Qe hte] at HNX;simpa using HNX
       clear HNX hg;subst hte;go_wp2_with fail;go_quiet ((fail));go_wp2;go_roundw
       case rel=>exact ⟨j+1,_,by omega,by omega,by go_num,by rw [HNX2.out],rfl⟩
       case measure=>simp [intOf];omega
      ·have HNX2:Hid (zej T xa (j+1)=false):=by unfold Hid;rw [hg,Qf hte] at HNX;simpa using HNX
       have hne:=zbz hte;clear HNX hg;go_wp2_with fail;go_quiet ((fail));go_wp2;go_roundw
       case rel=>exact ⟨j+1,_,by omega,by omega,by go_num,by rw [HNX2.out],rfl⟩
       case measure=>simp [intOf];omega
    ·obtain rfl:j=m:=by omega
     clear HGN2 HCK2;cases hg:zej T xa j with
     |true=>
      have HI2:Hid (PI W0 u14 (wo.drewN d) ((xv.pj.take (k+1)).filter fun p=>!(T.tail.contains p.1))):=by
       unfold Hid;rw [HK3.out,if_pos hg,List.append_nil];exact hI.out.drewN d
      clear HK3 hg hI;go_wp2;go_roundw
      case rel=>exact ⟨k+1,by omega,by go_num,HI2⟩
      case measure=>simp [intOf];omega
     |false=>
      obtain ⟨v',w1,r1,hI2⟩:=(hI.out.drewN d).next xa xb (Qj hln (by omega));have R1:Hid _:=r1;have HI2:Hid (PI W0 v' w1 ((xv.pj.take (k+1)).filter fun p=>!(T.tail.contains p.1))):=by
       unfold Hid;rw [HK3.out,if_neg (by rw [hg];simp)];exact hI2
      clear HK3 hg hI hI2 r1;go_wp2_with (at_builtin;refine wpList_append_run rfl _ _ 42 rfl rfl rfl R1.out ?_);first
      |exact ⟨⟨k+1,by omega,by go_num,HI2⟩,by simp [intOf];omega⟩
      |(go_roundw
        case rel=>exact ⟨k+1,by omega,by go_num,HI2⟩
        case measure=>simp [intOf];omega)
  ·obtain rfl:k=n2:=by omega
   rw [HZ.out] at hI;obtain ⟨a,c,e,hC⟩:=znb.of hI.out.own;have hl20:=HLn.out k;rw [HZ.out] at hl20;generalize hnn:(xv.pj.filter fun p=>!(T.tail.contains p.1)).length=n at*;subst e;have hSM:=HFIN.out n rfl;have z4:=hYr.cell 4;simp at z4;have f4:=hYr.frozen 4;obtain ⟨W1,hW1⟩:∃W1,wr.setCell ⟨w.heap.size,4,none⟩ (.slice a n c)=W1:=⟨_,rfl⟩;have hY1:zab W1 w.heap.size 47 (kC xn kd tx (.slice p1 n1 d1) (.slice a n c) (.slice p3 n3 d3) xd):=by rw [<-hW1];exact hYr.set 4 _
   have hC1:znb W1 a n c (xv.pj.filter fun p=>!(T.tail.contains p.1)):=by rw [<-hW1];exact hC.set hYr 4 _
   have bk:Bl w W1:=by rw [<-hW1];exact bw.setCell (Qc _) _
   have HW1:Hid (wr.setCell ⟨w.heap.size,4,none⟩ (.slice a n c)=W1):=hW1;clear hW1;have hws:IntKind.i64.wrap ((k:Int)-(n:Int))=(k:Int)-(n:Int):=Kk.wrap_small (by omega) (by omega);have HS2:Hid (∀W rv,Bl w W->Bl W1 W->zbe W w.heap.size rv (zam ((k:Int)-(n:Int)))->Cp 147 #[v,.agg (kC xn kd tx (.slice p1 n1 d1) (.slice a n c) (.slice p3 n3 d3) xd),rv] W (fun e w'=>zbd w B SM e w'/\Bl W w')):=fun W rv hb hb2 hr=>by
    rw [hSM];exact HSET.out W rv a n c _ _ hb (by omega) (hC1.bw hb2) hr
   have hRl:=zab.lt hY1;obtain ⟨y0,y1,y2,y3,y4,y5,y6⟩:=zdo hY1;clear hSM hYr hY1 hC hC1 hI hnn hl20 bw HFIN HSET HAW HP HY HZ HKN HG1 HGN HGE HLn ES;go_upto_region 30 with fail;rw [HW1.out];clear HW1 z4 f4;go_region_held3 (fun W=>W.cell? ⟨w.heap.size,0,none⟩=some (.string xn)/\W.cell? ⟨w.heap.size,1,none⟩=some (.int .i64 kd)/\W.cell? ⟨w.heap.size,2,none⟩=some (.string tx)/\W.cell? ⟨w.heap.size,3,none⟩=some (.slice p1 n1 d1)/\W.cell? ⟨w.heap.size,4,none⟩=some (.slice a n c)/\W.cell? ⟨w.heap.size,5,none⟩=some (.slice p3 n3 d3)/\W.cell? ⟨w.heap.size,6,none⟩=some (.int .i64 xd))
    (first|exact ⟨y0,y1,y2,y3,y4,y5,y6⟩|exact (up7 b1 hRl ⟨y0,y1,y2,y3,y4,y5,y6⟩)|exact (up7 b2 hA2 (up7 b1 hRl ⟨y0,y1,y2,y3,y4,y5,y6⟩)))
    (first
     |(go_at_call 141;refine (HIN.out _ ((k:Int)-(n:Int))).mono ?_;rintro e w1 ⟨r,rfl,hr,b1⟩;have bd:Bl W1 w1:=(below_drewN (Qb _ W1) 1).trans b1;have hr1:zbe w1 w.heap.size r (zam ((k:Int)-(n:Int))):=hr.le bk.size;have hA2:w.heap.size<w1.heap.size:=Qr hRl bd.size;have bA1:Bl w w1:=bk.trans (bd.mono bk.size))
     |(go_at_call 147;refine (HS2.out _ _ bA1 bd hr1).mono ?_;rintro e w2 ⟨⟨v',r',L',rfl,hm,ho,hrr,hbb⟩,b2⟩;have HF:Hid (zbd w B SM (.returned (.tuple #[v',r'])) w2):=⟨v',r',L',rfl,hm,ho,hrr,hbb⟩;clear hm ho hrr hbb))
   all_goals
    go_wp2;go_ret2;exact HF.out
end Go.Proofs.YtokafonppgppdaaGreatDoor
