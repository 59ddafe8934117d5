import Derived.Test.YtokafonppgppdaaGreatDoorM4
set_option maxHeartbeats 8000000
set_option maxRecDepth 100000
namespace Go.Proofs.YtokafonppgppdaaGreatDoor.Ri
open Tryz
open Go.RowKit Go.Maps
variable {x:KV} {a1 a2 a3:Option Addr} {n1 c1 n2 c2 n3 c3 B b k:Nat} {w wr w10:World} {ks:List Ke} {L':List KV}
def kvA (x:KV):Value:= .agg (kC x.key.name x.key.val.kind x.key.val.text x.vi x.vp x.vr x.key.due)
def zj0 (x:KV):Lit×DataW Value:=(.string x.key.name.data.toList,.held (kvA x))
def za3 (L:List KV):DataW Value:= .map (L.map zj0)
theorem zfd:∀a b:List UInt8,bytesBefore a b=Op.bytesLess a b
 | [],[]=>rfl
 | [],_::_=>rfl
 |_::_,[]=>rfl
 |a::x,b::y=>by
  unfold bytesBefore Op.bytesLess;rw [zfd x y]
theorem zj2 {a b:List UInt8} (h:bytesBefore a b=true):bytesBefore b a=false:=by
 cases hb:bytesBefore b a with
 |false=>rfl
 |true=>have:=WideShapes.bytes_trans _ _ _ h hb;rw [WideAt.bytes_irrefl] at this;cases this
theorem zk0 (x:Lit×DataW Value):∀l:List (Lit×DataW Value),(∀p∈l,x.1.before p.1=false)->DataW.insert x l=l++ [x]
 | [],_=>rfl
 |y::r,h=>by
  rw [DataW.insert,if_neg (by rw [h y (by simp)];simp),zk0 x r (fun p hp=>h p (by simp [hp]))];rfl
theorem yei (L:List KV) (y:KV) (h:∀x∈L,bytesBefore x.key.name.data.toList y.key.name.data.toList=true):(za3 L).put (.string y.key.name.data.toList) (.held (kvA y))=za3 (L++ [y]):=by
 have hne:∀p∈L.map zj0,(!p.1.sameKey (.string y.key.name.data.toList))=true:=fun p hp=>by
  obtain ⟨x,hx,rfl⟩:=List.mem_map.1 hp;have h1:=h x hx;show (!(x.key.name.data.toList==y.key.name.data.toList))=true;rw [Bool.not_eq_true',beq_eq_false_iff_ne];intro e;rw [e,WideAt.bytes_irrefl] at h1;cases h1
 show DataW.map (DataW.insert _ ((L.map zj0).filter fun p=>!p.1.sameKey (.string y.key.name.data.toList)))=_;rw [List.filter_eq_self.2 hne,zk0]
 ·show _=DataW.map ((L++ [y]).map zj0);rw [List.map_append];rfl
 ·intro p hp;obtain ⟨x,hx,rfl⟩:=List.mem_map.1 hp;exact zj2 (h x hx)
theorem yh0 (e1:x.vi= .slice a1 n1 c1) (e2:x.vp= .slice a2 n2 c2) (e3:x.vr= .slice a3 n3 c3):RK (kvA x)=some (.held (kvA x),[]):=by
 unfold kvA;rw [e1,e2,e3];rfl
theorem zey (s:ByteArray) (h:s.size<=maxLen):keyOf prog 9 (.string s)=some (.string s.data.toList):=by
 unfold keyOf mapKey;simp [underlying9,h]
theorem _root_.Go.Proofs.YtokafonppgppdaaGreatDoor.VOwn.rd {w:World} {B:Nat} {v:Vl} {vi vp vr:Value} (h:VOwn w B v vi vp vr) (hz:∀t∈v.ia,t.size<=1048576):VRd w v vi vp vr:=by
 have nil0:∀{e size n xs} {u:Value} {a:Option Addr} {m c:Nat},w.ownsRow B e size u n xs->u= .slice a m c->a=none->c=0:=by
  intro e size n xs u a m c ho hu ha;subst ha;obtain ⟨_,⟨hv,_⟩|⟨g,cap,cur,hv,_⟩⟩:=ho
  ·rw [hu] at hv;injection hv with _ _ hv
  ·rw [hu] at hv;injection hv with hv;cases hv
 obtain ⟨a1,A1,c1,e1,h1,_,_⟩:=zc0 h.ia hz;obtain ⟨a2,A2,c2,e2,h2⟩:=zdn h.pj;obtain ⟨a3,A3,c3,e3,h3⟩:=Kk.zcl h.rq;exact ⟨⟨a1,A1,0,c1,e1,h1,nil0 h.ia e1⟩,⟨a2,A2,c2,e2,h2,nil0 h.pj e2⟩,⟨a3,A3,0,c3,e3,h3,nil0 h.rq e3⟩⟩
theorem zq8 (h:zan ks=true):∀(d i:Nat),i+d+1<ks.length->bytesBefore (ks.getD i ke0).name.data.toList (ks.getD (i+d+1) ke0).name.data.toList=true:=by
 unfold zan at h;rw [Qh,Qh,Qw,Qw] at h;have step:∀i,i+1<ks.length->bytesBefore (ks.getD i ke0).name.data.toList (ks.getD (i+1) ke0).name.data.toList=true:=fun i hi=>by
  have:=h.2.1 (i+1) (List.mem_range.2 hi);unfold riK at this;rw [Nat.add_sub_cancel,Bool.or_eq_true] at this;rcases this with e|e
  ·simp at e
  ·rw [zfd];rwa [ByteArray.toList_eq,ByteArray.toList_eq] at e
 intro d;induction d with
 |zero=>intro i hi;exact step i hi
 |succ d ih=>
  intro i hi;have h1:=ih i (by omega);have h2:=step (i+d+1) (by omega);exact WideShapes.bytes_trans _ _ _ h1 h2
structure zjg (w:World) (b:Nat) (ks:List Ke) (k:Nat) (L':List KV) (wr:World):Prop where
 own:wr.ownsMap prog 9 RK b k (za3 L')
 vals:∃β,Rising wr w.heap.size L' wr.heap.size β
 keys:L'.map KV.key=ks.take k
 bel:Bl w wr
 hb:w.heap.size<=b
def zmm (w:World) (ok:Bool) (ks:List Ke) (e:Ending) (w':World):Prop:=
 (ok=false/\e= .returned (.tuple #[.map none,.bool false])/\Bl w w')\/(ok=true/\∃b L',e= .returned (.tuple #[.map (some b),.bool true])/\zjg w b ks ks.length L' w')
theorem zx4 {A1 w11:World} {y:KV} (h:zjg w b ks k L' wr) (h1:Bl wr A1) (h10:Bl A1 w10) (hv:VOwn w10 A1.heap.size y.key.val y.vi y.vp y.vr) (hk:k<ks.length) (hy:y.key=ks.getD k ke0) (hr:zan ks=true)
  (ho:w11.ownsMap prog 9 RK b (k+1) ((za3 L').put (.string y.key.name.data.toList) (.held (kvA y)))) (ht:w10.mapTurned w11 b):zjg w b ks (k+1) (L'++ [y]) w11:=by
 obtain ⟨β,hβ⟩:=h.vals;have b110:Bl wr w10:=h1.trans (h10.mono h1.size);have hg:=ht.grown;have hlen:L'.length=k:=by have:=congrArg List.length h.keys;rw [Qp,Qn] at this;omega
 have hmap:∀g e C,e≠47->zab w10 g e C->w11.heap[g]?=w10.heap[g]?:=fun g e C _ hC=>hg.block g hC.lt (fun eq=>by
  cases eq;obtain ⟨es,clock,hb,_⟩:=(h.own.kept (row:=none) ⟨b110.os,b110.tape,b110.output,b110.size,fun k hk _=>b110.block k hk⟩ (by simp));have:=hC.symm.trans hb;cases this)
 have hput:(za3 L').put (.string y.key.name.data.toList) (.held (kvA y))=za3 (L'++ [y]):=yei L' y fun x hx=>by
  obtain ⟨i,hi,e⟩:=List.getElem_of_mem hx;have e2:x.key=ks.getD i ke0:=by
   have e3:(L'.map KV.key)[i]?=(ks.take k)[i]?:=by rw [h.keys]
   rw [List.getElem?_map,Qd hi,e,List.getElem?_take,if_pos (by omega)] at e3;rw [Qa,<-e3];rfl
  rw [e2,hy];have:=zq8 hr (k-i-1) i (by omega);rwa [show i+(k-i-1)+1=k by omega] at this
 rw [hput] at ho;have hr10:Rising w10 w.heap.size L' A1.heap.size β:=(hβ.bw b110).up h1.size;have hs10:Rising w11 w.heap.size L' A1.heap.size β:=hr10.kept hmap;have hv11:=zgf hv hmap;refine ⟨ho,⟨_,hs10.snoc hv11 (Qj h10.size hg.size) fun g hu=>?_⟩,?_,h.bel.trans ((b110.mono h.bel.size).trans ⟨hg.os,hg.tape,hg.output,hg.size,fun j hj=>hg.block j (by have:=b110.size;have:=h.bel.size;omega) (fun e=>by cases e;have:=h.hb;omega)⟩),h.hb⟩
 ·rcases hu with hu|hu|hu
  ·exact (zaz hv11.ia hu).2
  ·exact (zaz hv11.pj hu).2
  ·exact (zaz hv11.rq hu).2
 ·rw [List.map_append,h.keys,Qo hk];show _++ [y.key]=_;rw [hy,Qa,Qd hk];rfl
theorem yhu (h:zan ks=true) (hk:k<ks.length):VSm (ks.getD k ke0).val:=by
 unfold zan at h;rw [Qh,Qh,Qw,Qw] at h;have h1:=h.2.2 k (List.mem_range.2 hk);unfold zfo at h1;rw [Qh,Qh] at h1;exact zff h1.2.1
theorem zwm (w w1:World) (ks:List Ke) (b1:Bl w w1):zjg w w1.heap.size ks 0 [] (w1.alloc (.map #[] 0)):=
 ⟨World.ownsMap_made w1 _ _ _,⟨fun _=>w.heap.size,⟨fun _ _=>Qc _,fun _ _ _ _=>Qc _,by have:=b1.size;simp;omega,fun i hi=>absurd hi (by simp),fun i hi=>absurd hi (by simp),fun i hi=>absurd hi (by simp),fun i hi=>absurd hi (by simp)⟩⟩,rfl,b1.alloc b1.size _,b1.size⟩
theorem zxk {W:World} (h:zjg w b ks k L' wr) (hW:Bl wr W) (h10:Bl W w10) (e1:x.vi= .slice a1 n1 c1) (e2:x.vp= .slice a2 n2 c2) (e3:x.vr= .slice a3 n3 c3)
  (hv:VOwn w10 W.heap.size x.key.val x.vi x.vp x.vr) (hk:k<ks.length) (hm:k<maxLen) (hx:x.key=ks.getD k ke0) (hr:zan ks=true) (hn:x.key.name.size<=maxLen):
  ∃w11,(Instr.mapUpdate 70 (.map (some b)) (.string x.key.name) (kvA x)).run prog w10= .ok () w11/\zjg w b ks (k+1) (L'++ [x]) w11/\w10.mapTurned w11 b:=by
 have b10:Bl wr w10:=hW.trans (h10.mono hW.size);have ho:w10.ownsMap prog 9 RK b k (za3 L'):=h.own.kept (row:=none) ⟨b10.os,b10.tape,b10.output,b10.size,fun k hk _=>b10.block k hk⟩ (by simp);obtain ⟨w11,hrun,hown,ht⟩:=ho.store zr0 underlying70 hm (zey x.key.name hn) (yh0 e1 e2 e3);exact ⟨w11,hrun,zx4 h hW h10 hv hk hx hr hown ht,ht⟩
theorem zwv (a:Option Addr) (b n c:Nat) (L:List KV) (w:World) (h:zoe w a b n L) (hs:Small L) (hn:n<=1048577) (hR:Ready w):
  Calls prog 87 #[.slice a n c] w (zmm w (zan (L.map KV.key)) (L.map KV.key)):=by
 have HD:Hid (Cp 20 #[.slice a n c] w fun e w'=>e= .returned (.bool (zan (L.map KV.key)))/\Bl w w'):=zjr a b n c L w h hs hn hR;have H:Hid (zoe w a b n L):=h;have HS:Hid (Small L):=hs;obtain ⟨O,hO⟩:∃O,zan (L.map KV.key)=O:=⟨_,rfl⟩;have HO:Hid (zan (L.map KV.key)=O):=hO;have HL:Hid (L.length=n):=h.ks.len;rw [hO] at HD ⊢;have HF0:Hid (∀W,O=false->Bl w W->zmm w O (L.map KV.key) (.returned (.tuple #[.map none,.bool false])) W):=fun W e hb=> .inl ⟨e,rfl,hb⟩;have HF1:Hid (∀W bb L',O=true->zjg w bb (L.map KV.key) n L' W->zmm w O (L.map KV.key) (.returned (.tuple #[.map (some bb),.bool true])) W):=fun W bb L' e hi=> .inr ⟨e,bb,L',rfl,by rw [Qp,HL.out];exact hi⟩;generalize hM:zmm w O (L.map KV.key)=M at HF0 HF1 ⊢;clear hM h hs hR hO;cases O with
 |false=>
  have HF2:Hid (∀W,Bl w W->M (.returned (.tuple #[.map none,.bool false])) W):=fun W hb=>HF0.out W rfl hb;clear HF0 HF1;go_enter func87,ntmps87;go_wp2_with fail;refine HD.out.mono ?_;rintro e w1 ⟨rfl,b1⟩;go_wp2;exact HF2.out w1 b1
 |true=>
  have HF2:Hid (∀W bb L',zjg w bb (L.map KV.key) n L' W->M (.returned (.tuple #[.map (some bb),.bool true])) W):=fun W bb L' hi=>HF1.out W bb L' rfl hi;clear HF0 HF1;have hmm:=@run_makeMap prog;go_enter func87,ntmps87;go_wp2_with fail;refine HD.out.mono ?_;rintro e w1 ⟨rfl,b1⟩;clear HD;go_wp2;clear hmm;have HZ:Hid (zjg w w1.heap.size (L.map KV.key) 0 [] (w1.alloc (.map #[] 0))):=zwm w w1 _ b1;clear b1;generalize w1.alloc (.map #[] 0)=wz at HZ ⊢;generalize w1.heap.size=bM at HZ ⊢;clear w1;go_loopw [13] (fun i wr=>∃(k:Nat) (L':List KV),k<=n/\i= .int .i64 k/\Hid (zjg w bM (L.map KV.key) k L' wr)) (fun i _=>n-(intOf i).toNat)
  case atStart=>exact ⟨0,[],by omega,rfl,HZ⟩
  case round=>
   obtain ⟨k,L',hk,rfl,hp⟩:=hrel;have bk:=hp.out.bel;have sk:=bk.size;by_cases hlt:k<n
   ·have HW:=H.out.bw bk;obtain ⟨B,hv⟩:=HW.val k hlt;have hc:=HW.ks.cell k hlt;obtain rfl:=HW.ks.addr (by omega);obtain ⟨q1,q2⟩:=HS.out k (by rw [HL.out];exact hlt);have hkey:=zjv L k;have hks:(L.map KV.key).length=n:=by rw [Qp,HL.out]
    have hrr:=HO.out;generalize L.map KV.key=ks,L.getD k kv0=x at*;obtain ⟨c0,c1,c2,c3,c4,c5,c6⟩:=hc;clear HW H HS HL;obtain ⟨⟨nm,⟨kd,t,is,ps,rs⟩,d⟩,vi,vp,vr⟩:=x;dsimp only at c0 c1 c2 c3 c4 c5 c6 hv q1 q2 hkey;have hsm:VSm ⟨kd,t,is,ps,rs⟩:=by have:=yhu hrr (k:=k) (by omega);rwa [hkey] at this
    obtain ⟨a1,k1,e1⟩:∃a1 k1,vi= .slice a1 is.length k1:=by obtain ⟨⟨a1,_,_,k1,e1,_⟩,_,_⟩:=hv.rd (fun u hu=>Qj (hsm.ia u hu) (by decide));exact ⟨a1,k1,e1⟩
    obtain ⟨a2,k2,e2⟩:∃a2 k2,vp= .slice a2 ps.length k2:=by obtain ⟨_,⟨a1,_,k1,e1,_⟩,_⟩:=hv.rd (fun u hu=>Qj (hsm.ia u hu) (by decide));exact ⟨a1,k1,e1⟩
    obtain ⟨a3,k3,e3⟩:∃a3 k3,vr= .slice a3 rs.length k3:=by obtain ⟨_,_,⟨a1,_,_,k1,e1,_⟩⟩:=hv.rd (fun u hu=>Qj (hsm.ia u hu) (by decide));exact ⟨a1,k1,e1⟩
    subst e1 e2 e3;obtain ⟨A1,hA1,HA1,ba,ra⟩:=boxed wr (kC nm kd t (.slice a1 is.length k1) (.slice a2 ps.length k2) (.slice a3 rs.length k3) d) 47;have h1:is.length<=1048577:=by have:=q1.fit;have:=this.ia;simp at this;omega
    have h2:ps.length<=1048577:=by have:=q1.np;simp at this;omega
    have h3:rs.length<=1048577:=by have:=q1.fit;have:=this.rq;simp at this;omega
    have HC:Hid (∀W,Bl A1 W->Cp 124 #[.agg (kC nm kd t (.slice a1 is.length k1) (.slice a2 ps.length k2) (.slice a3 rs.length k3) d)] W fun e w'=>∃u1 c1 u2 c2 u3 c3,e= .returned (.agg (kC nm kd t (.slice u1 is.length c1) (.slice u2 ps.length c2) (.slice u3 rs.length c3) d))/\VOwn w' W.heap.size ⟨kd,t,is,ps,rs⟩ (.slice u1 is.length c1) (.slice u2 ps.length c2) (.slice u3 rs.length c3)/\Bl W w'):=fun W hW=>ydx ⟨nm,⟨kd,t,is,ps,rs⟩,d⟩ _ _ _ W (((hv.bw ba).bw hW).rd (fun u hu=>Qj (hsm.ia u hu) (by decide))) h1 h2 h3
    have HNX:Hid (∀W,Bl A1 W->∀x1 y1 x2 y2 x3 y3 w10,VOwn w10 W.heap.size ⟨kd,t,is,ps,rs⟩ (.slice x1 is.length y1) (.slice x2 ps.length y2) (.slice x3 rs.length y3)->Bl W w10->
       ∃w11 L2,(Instr.mapUpdate 70 (.map (some bM)) (.string nm) (.agg (kC nm kd t (.slice x1 is.length y1) (.slice x2 ps.length y2) (.slice x3 rs.length y3) d))).run prog w10= .ok () w11/\zjg w bM ks (k+1) L2 w11/\(w11.cell? ⟨wr.heap.size,0,none⟩=some (.string nm)/\w11.cell? ⟨wr.heap.size,1,none⟩=some (.int .i64 kd)/\w11.cell? ⟨wr.heap.size,2,none⟩=some (.string t)/\w11.cell? ⟨wr.heap.size,3,none⟩=some (.slice a1 is.length k1)/\w11.cell? ⟨wr.heap.size,4,none⟩=some (.slice a2 ps.length k2)/\w11.cell? ⟨wr.heap.size,5,none⟩=some (.slice a3 rs.length k3)/\w11.cell? ⟨wr.heap.size,6,none⟩=some (.int .i64 d))):=fun W hW x1 y1 x2 y2 x3 y3 w10 ho hb=>by
     obtain ⟨w11,e1,e2,ht⟩:=zxk (x:=⟨⟨nm,⟨kd,t,is,ps,rs⟩,d⟩,.slice x1 is.length y1,.slice x2 ps.length y2,.slice x3 rs.length y3⟩) hp.out (ba.trans (hW.mono ba.size)) hb rfl rfl rfl ho (by omega) (Qr (Qr hlt hn) (by decide)) hkey.symm hrr (Qj q2 (by decide));have r10:=ra.bw (hW.trans (hb.mono hW.size)) ra.lt;have hlb:=hp.out.own.lt;have r11:=(ht.grown.block _ r10.lt (fun eq=>by cases eq;omega)).trans r10;exact ⟨w11,_,e1,e2,zdo r11⟩
    have KP:Hid (∀{W:World},Bl A1 W->(W.cell? ⟨wr.heap.size,0,none⟩=some (.string nm)/\W.cell? ⟨wr.heap.size,1,none⟩=some (.int .i64 kd)/\W.cell? ⟨wr.heap.size,2,none⟩=some (.string t)/\W.cell? ⟨wr.heap.size,3,none⟩=some (.slice a1 is.length k1)/\W.cell? ⟨wr.heap.size,4,none⟩=some (.slice a2 ps.length k2)/\W.cell? ⟨wr.heap.size,5,none⟩=some (.slice a3 rs.length k3)/\W.cell? ⟨wr.heap.size,6,none⟩=some (.int .i64 d))):=fun hW=>zdo (ra.bw hW ra.lt);have bx:Bl A1 A1.drew:=below_drewN (Qb _ _) 1;clear hA1 ra ba hp hv q1 q2 hkey hrr h1 h2 h3 bk hsm;generalize is.length=ni,ps.length=np,rs.length=nr at*;go_upto_region 7 with fail;rw [HA1.out];clear c0 c1 c2 c3 c4 c5 c6;go_region_held3 (fun W=>W.cell? ⟨wr.heap.size,0,none⟩=some (.string nm)/\W.cell? ⟨wr.heap.size,1,none⟩=some (.int .i64 kd)/\W.cell? ⟨wr.heap.size,2,none⟩=some (.string t)/\W.cell? ⟨wr.heap.size,3,none⟩=some (.slice a1 ni k1)/\W.cell? ⟨wr.heap.size,4,none⟩=some (.slice a2 np k2)/\W.cell? ⟨wr.heap.size,5,none⟩=some (.slice a3 nr k3)/\W.cell? ⟨wr.heap.size,6,none⟩=some (.int .i64 d))
     (first|exact KP.out bx|exact hs11)
     (first
      |(go_at_call 124;refine (HC.out _ bx).mono ?_;rintro e w10 ⟨x1,y1,x2,y2,x3,y3,rfl,ho,hb10⟩;obtain ⟨w11,L2,hrun,hri,hs11⟩:=HNX.out _ bx x1 y1 x2 y2 x3 y3 w10 ho hb10;have bx:=bx.trans (hb10.mono bx.size);have HRI:Hid (zjg w bM ks (k+1) L2 w11):=hri;clear ho hri hb10))
    all_goals
     go_wp2;go_roundw
     case rel=>exact ⟨k+1,L2,by omega,by go_num,HRI⟩
     case measure=>simp [intOf];omega
   ·obtain rfl:k=n:=by omega
    go_wp2;exact HF2.out _ _ _ hp.out
theorem ydu (p:Nat) (w:World):Calls prog 88 #[.map none,.func (.func 89) #[] #[.pointer (some ⟨p,0,none⟩)]] w fun e w'=>e= .returned (.tuple #[])/\Bl w w':=by
 have hrg:=run_range_nilMap (P:=prog) w 70 _ _ underlying70;have hnx:∀ty,(Instr.next (.pointer (some ⟨w.heap.size,0,none⟩)) false ty).run prog (w.alloc (.mapIter none 0 #[] 0))=_:=fun ty=>run_next_nilMap _ ty 0 0 #[];go_enter func88,ntmps88;go_wp2;refine wp_loop_rounds 1 ?_;rw [rounds_succ];go_wp2;go_end0;exact ⟨rfl,(Qb _ w).alloc (Qc _) _⟩
def zfg (now:Int) (k:Ke):Bool:=!zej now k.due
theorem yel (now:Int) (L:List KV):Lib.deleteFuncD (zms now) (za3 L)=za3 (L.filter fun x=>zfg now x.key):=by
 show DataW.map ((L.map zj0).filter _)=DataW.map _;rw [List.filter_map];rfl
theorem _root_.Go.Proofs.YtokafonppgppdaaGreatDoor.Rising.init {N:Nat} {L:List KV} {β:Nat->Nat} (h:Rising w B (L++ [x]) N β):Rising w B L (β L.length) β/\VOwn w (β L.length) x.key.val x.vi x.vp x.vr/\β L.length<=N/\∀g,x.vi.ownBlock=some g\/x.vp.ownBlock=some g\/x.vr.ownBlock=some g->g<N:=by
 have hl:(L++ [x]).length=L.length+1:=by simp
 have g1:∀i,i<L.length->(L++ [x]).getD i kv0=L.getD i kv0:=fun i hi=>by rw [Qa,Qa,List.getElem?_append_left hi]
 have g2:(L++ [x]).getD L.length kv0=x:=by simp
 have ht:=h.top;have hm:=h.mono L.length (L.length+1) (by omega) (by omega);rw [hl] at ht;refine ⟨⟨fun i hi=>h.low i (by omega),fun i j hij hj=>h.mono i j hij (by omega),Qc _,fun i hi=>?_,fun i hi=>?_,fun i hi=>?_,fun i hi=>?_⟩,?_,by omega,fun g hg=>?_⟩
 ·have:=h.own i (by omega);rwa [g1 i hi] at this
 ·have:=h.lt1 i (by omega);rwa [g1 i hi] at this
 ·have:=h.lt2 i (by omega);rwa [g1 i hi] at this
 ·have:=h.lt3 i (by omega);rwa [g1 i hi] at this
 ·have:=h.own L.length (by omega);rwa [g2] at this
 ·have h1:=h.lt1 L.length (by omega) g;have h2:=h.lt2 L.length (by omega) g;have h3:=h.lt3 L.length (by omega) g;rw [g2] at h1 h2 h3;rcases hg with e|e|e
  ·have:=h1 e;omega
  ·have:=h2 e;omega
  ·have:=h3 e;omega
theorem _root_.Go.Proofs.YtokafonppgppdaaGreatDoor.Rising.filter (p:KV->Bool):∀(m:Nat) (L:List KV) (N:Nat) (β:Nat->Nat),L.length=m->Rising w B L N β->∃β',Rising w B (L.filter p) N β'
 |0,L,N,β,hm,h=>by
  obtain rfl:=List.eq_nil_of_length_eq_zero hm;exact ⟨β,h⟩
 |m+1,L,N,β,hm,h=>by
  obtain ⟨L0,x,rfl⟩:∃L0 x,L=L0++ [x]:=⟨L.dropLast,L.getLast (by intro e;rw [e] at hm;cases hm),(List.dropLast_concat_getLast _).symm⟩;obtain ⟨h1,h2,h3,h4⟩:=h.init;obtain ⟨β',h5⟩:=Rising.filter p m L0 _ β (by simpa using hm) h1;rw [List.filter_append];cases hp:p x with
  |false=>rw [List.filter_cons_of_neg (by simp [hp])];simp only [List.filter_nil,List.append_nil];exact ⟨β',h5.up h3⟩
  |true=>rw [List.filter_cons_of_pos hp];exact ⟨_,h5.snoc h2 h3 h4⟩
structure zom (w:World) (b n:Nat) (L:List KV) (wr:World):Prop where
 own:wr.ownsMap prog 9 RK b n (za3 L)
 vals:∃β,Rising wr w.heap.size L wr.heap.size β
 bel:Bl w wr
 hb:w.heap.size<=b
def zku (w:World) (ok:Bool) (now:Int) (ks:List Ke) (e:Ending) (w':World):Prop:=
 (ok=false/\e= .returned (.map none)/\Bl w w')\/(ok=true/\∃b L',e= .returned (.map (some b))/\L'.map KV.key=ks.filter (zfg now)/\zom w b ks.length L' w')
theorem ybi {W0 w1 w2:World} {n:Nat} {now:Int} (h0:Bl w W0) (h:zjg W0 b ks n L' w1) (hn:ks.length=n) (ho:w2.ownsMap prog 9 RK b n (Lib.deleteFuncD (zms now) (za3 L'))) (hg:w1.grownBy w2 (some b)):
  (L'.filter fun x=>zfg now x.key).map KV.key=ks.filter (zfg now)/\zom w b n (L'.filter fun x=>zfg now x.key) w2:=by
 obtain ⟨β,hβ⟩:=h.vals;obtain ⟨β',hβ'⟩:=Rising.filter (fun x=>zfg now x.key) _ L' _ β rfl hβ
 have hmap:∀g e C,e≠47->zab w1 g e C->w2.heap[g]?=w1.heap[g]?:=fun g e C _ hC=>hg.block g hC.lt (fun eq=>by
  cases eq;obtain ⟨es,clock,hb,_⟩:=h.own;have:=hC.symm.trans hb;cases this)
 have hr:=(hβ'.kept hmap).up hg.size;have bb:Bl w w1:=h0.trans (h.bel.mono h0.size);have hlo:=h.hb;have hs0:=h0.size;refine ⟨?_,by rw [<-yel];exact ho,⟨β',⟨fun i hi=>Qj h0.size (hr.low i hi),hr.mono,hr.top,hr.own,hr.lt1,hr.lt2,hr.lt3⟩⟩,bb.trans ⟨hg.os,hg.tape,hg.output,hg.size,fun j hj=>hg.block j (by have:=bb.size;omega) (fun e=>by cases e;omega)⟩,by omega⟩;have hk:=h.keys;rw [<-hn,List.take_length] at hk;rw [<-hk,List.filter_map];rfl
theorem zk4 (a:Option Addr) (b n c:Nat) (L:List KV) (now:Int) (w:World) (h:zoe w a b n L) (hs:Small L) (hn:n<=1048577) (hR:Ready w):
  Calls prog 47 #[.slice a n c,.int .i64 now] w (zku w (zan (L.map KV.key)) now (L.map KV.key)):=by
 obtain ⟨W0,hW0,HW0,b0,r0⟩:=boxed w #[.int .i64 now] 2;have q0:W0.heap.size=w.heap.size+1:=by rw [<-hW0];simp
 have HC:Hid (Cp 87 #[.slice a n c] W0 (zmm W0 (zan (L.map KV.key)) (L.map KV.key))):=zwv a b n c L W0 (h.bw b0) hs hn (hR.bw (b0.mono hR.six));have HL:Hid ((L.map KV.key).length=n):=by unfold Hid;rw [Qp,h.ks.len]
 clear h hs hR hW0;have HQ:Hid (W0.heap.size=w.heap.size+1):=q0;have HB:Hid (Bl w W0/\zab W0 w.heap.size 2 #[.int .i64 now]):=⟨b0,r0⟩;clear b0 r0 q0;generalize L.map KV.key=ks at*;generalize hM:zku w (zan ks) now ks=M;have HM:Hid (zku w (zan ks) now ks=M):=hM;clear hM;go_enter func47,ntmps47;go_upto_region 1 with fail;rw [HW0.out];clear HW0;go_wp2_with fail;refine HC.out.mono ?_;rintro e w1 (⟨ho,rfl,b1⟩|⟨ho,bM,L',rfl,hi⟩)
 ·have HF:Hid (∀W,Bl w1 W->M (.returned (.map none)) W):=fun W hW=>by rw [<-HM.out];exact .inl ⟨ho,rfl,(HB.out.1.trans (b1.mono HB.out.1.size)).trans (hW.mono (by have:=HB.out.1.size;have:=b1.size;omega))⟩
  have HD:Hid (Cp 88 #[.map none,.func (.func 89) #[] #[.pointer (some ⟨w.heap.size,0,none⟩)]] w1 fun e w'=>e= .returned (.tuple #[])/\Bl w1 w'):=ydu _ _;clear HM ho b1 HC;go_wp2_with fail;refine HD.out.mono ?_;rintro e w2 ⟨rfl,b2⟩;go_wp2;exact HF.out _ b2
 ·have HF:Hid (∀W,W.ownsMap prog 9 RK bM n (Lib.deleteFuncD (zms now) (za3 L'))->w1.grownBy W (some bM)->M (.returned (.map (some bM))) W):=fun W hW hg=>by
   have hi':=hi;rw [HL.out] at hi';rw [<-HM.out];obtain ⟨e1,e2⟩:=ybi HB.out.1 hi' HL.out hW hg;exact .inr ⟨ho,bM,_,rfl,e1,by rw [HL.out];exact e2⟩
  have HD:Hid (Cp 88 #[.map (some bM),.func (.func 89) #[] #[.pointer (some ⟨w.heap.size,0,none⟩)]] w1 fun e w'=>e= .returned (.tuple #[])/\w'.ownsMap prog 9 RK bM n (Lib.deleteFuncD (zms now) (za3 L'))/\w1.grownBy w' (some bM)):=by
   have ho:=hi.own;rw [HL.out] at ho;exact yk0 bM n w.heap.size now _ w1 ho (HB.out.2.bw hi.bel HB.out.2.lt) (by have:=hi.hb;have:=HQ.out;omega)
  clear HM ho HC hi;go_wp2_with fail;refine HD.out.mono ?_;rintro e w2 ⟨rfl,o2,g2⟩;go_wp2;exact HF.out _ o2 g2
end Go.Proofs.YtokafonppgppdaaGreatDoor.Ri
