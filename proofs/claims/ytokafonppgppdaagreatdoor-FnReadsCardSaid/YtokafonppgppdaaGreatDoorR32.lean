import Derived.Test.YtokafonppgppdaaGreatDoorR27
import Derived.Shelf.Slices.ReverseS
import Derived.Shelf.Slices.Delete
set_option maxHeartbeats 2000000
set_option maxRecDepth 100000
namespace Go.Proofs.YtokafonppgppdaaGreatDoor.Rb
open Tryz
open _root_.ByteArray (empty)
open Go.RowKit Go.Maps
open Ri (za3 RK UpK zao zbb zlj zi6 zhd kvA z7 zb0 zdv zcp zez)
variable {ps:List Pr} {i:Nat}
def zgq (ps:List Pr) (nm:ByteArray) (j:Nat):Int:=zx5 (ps.getD j (bz,bz)) (nm,bz)
structure Low (ps:List Pr) (nm:ByteArray) (n i:Nat):Prop where
 le:i<=n
 lo:∀j,j<i->zgq ps nm j<0
 hi:∀j,i<=j->j<n->0<=zgq ps nm j
def yhm (ps:List Pr) (nm:ByteArray) (n:Nat):Prop:=∀i j,i<=j->j<n->zgq ps nm j<0->zgq ps nm i<0
section
variable (a:Option Addr) (b n c:Nat) (ps:List Pr) (nm:ByteArray) (w:World)
theorem zwz (h:za6 w a b n ps) (hn:n<=1000) (hm:yhm ps nm n):
  Calls prog 276 #[.slice a n c,.agg #[.string nm,.string ⟨#[]⟩],.func (.func 277) #[] #[]] w fun e w'=> (∃i:Nat,e= .returned (.tuple #[.int .i64 i,.bool (decide (i<n)&&decide (zgq ps nm i=0))])/\Low ps nm n i)/\Bl w w':=by
 obtain ⟨W0,hW0,HW0,b0,q0⟩:=boxed w #[.string nm,.string ⟨#[]⟩] 145;have H:=hid h;have HM:=hid hm;have HBX:Hid (∀W,Bl W0 W->W.cell? ⟨w.heap.size,0,none⟩=some (.string nm)/\W.cell? ⟨w.heap.size,1,none⟩=some (.string ⟨#[]⟩)):=fun W hb=>⟨(q0.bw hb q0.lt).cell 0,(q0.bw hb q0.lt).cell 1⟩;have HB0:=hid b0;have HC:=hid fun W j=>znp (ps.getD j (bz,bz)) (nm,bz) W;have HS:Hid (Bl W0 W0):=Qb _ _;clear h hm b0 q0 hW0;go_enter func276,ntmps276;go_upto_region 1 with fail;rw [HW0.out];clear HW0;go_wp2;go_loopg [9,10] n (fun kx s9 s10 wr=>∃lo hi:Nat,s9= .int .i64 lo/\s10= .int .i64 hi/\lo<=hi/\hi<=n/\hi-lo<=kx/\Hid (Bl W0 wr)/\Hid ((∀t,t<lo->zgq ps nm t<0)/\∀t,hi<=t->t<n->0<=zgq ps nm t))
 case atStart=>exact ⟨0,n,rfl,rfl,Qs _,Qc _,by omega,HS,⟨fun t ht=>by omega,fun t h1 h2=>by omega⟩⟩
 case round=>
  clear HS;obtain ⟨lo,hi,rfl,rfl,hlh,hin,hg,S1,I⟩:=hrel;have hbw:=HB0.out.trans (S1.out.mono HB0.out.size);by_cases hlt:lo<hi
  ·have hmid:(lo+hi)/2<n:=by omega
   have c0:=(H.out.bw hbw).c0 ((lo+hi)/2) hmid;have c1:=(H.out.bw hbw).c1 ((lo+hi)/2) hmid;obtain rfl:=H.out.addr (by omega);obtain ⟨u0,u1⟩:=HBX.out wr S1.out;have HKP:Hid (∀W,Bl W0 W->W.cell? ⟨b,(lo+hi)/2*2,none⟩=some (.string (ps.getD ((lo+hi)/2) (bz,bz)).1)/\W.cell? ⟨b,(lo+hi)/2*2+1,none⟩=some (.string (ps.getD ((lo+hi)/2) (bz,bz)).2)/\W.cell? ⟨w.heap.size,0,none⟩=some (.string nm)/\W.cell? ⟨w.heap.size,1,none⟩=some (.string ⟨#[]⟩)):=fun W hb=>by
    have hb2:=HB0.out.trans (hb.mono HB0.out.size);exact ⟨(H.out.bw hb2).c0 _ hmid,(H.out.bw hb2).c1 _ hmid,HBX.out W hb⟩
   have HCM:Hid (∀W,Cp 277 #[.agg #[.string (ps.getD ((lo+hi)/2) (bz,bz)).1,.string (ps.getD ((lo+hi)/2) (bz,bz)).2],.agg #[.string nm,.string ⟨#[]⟩]] W fun e w'=>e= .returned (.int .i64 (zgq ps nm ((lo+hi)/2)))/\Bl W w'):=fun W=>HC.out W _;have HZ:Hid (∀z,zgq ps nm ((lo+hi)/2)=z->(z<0->∀t,t<(lo+hi)/2+1->zgq ps nm t<0)/\(¬z<0->∀t,(lo+hi)/2<=t->t<n->0<=zgq ps nm t)):=fun z hz=>⟨fun h t ht=>HM.out t ((lo+hi)/2) (by omega) hmid (by rw [hz];exact h),fun h t ht htn=>Int.not_lt.1 fun h2=>h (by rw [<-hz];exact HM.out _ t ht htn h2)⟩;generalize hzz:zgq ps nm ((lo+hi)/2)=z at*;have HZ2:=HZ.out z rfl;have HZ3:=hid HZ2;clear HZ HZ2 hzz;generalize (ps.getD ((lo+hi)/2) (bz,bz)).1=p1,(ps.getD ((lo+hi)/2) (bz,bz)).2=p2 at*;have hm1:(0:Int)<=(((lo+hi)/2:Nat):Int):=by omega
   have hm2:(((lo+hi)/2:Nat):Int)<(n:Int):=by omega
   have hdv:((lo:Int)+(hi:Int))/2=(((lo+hi)/2:Nat):Int):=by omega
   generalize hmm:(lo+hi)/2=md at*;have hzc:z<0\/¬z<0:=Classical.em _;clear c0 c1;go_upto_region 5 with fail;go_region_held3 (fun V=>V.cell? ⟨b,md*2,none⟩=some (.string p1)/\V.cell? ⟨b,md*2+1,none⟩=some (.string p2)/\V.cell? ⟨w.heap.size,0,none⟩=some (.string nm)/\V.cell? ⟨w.heap.size,1,none⟩=some (.string ⟨#[]⟩))
    (first|exact HKP.out _ S1.out|exact HKP.out _ (below_drewN S1.out 1)|exact HKP.out _ hb5)
    (first
     |(first|go_at_call 277|go_at_fn 277
       refine (HCM.out _).mono ?_;rintro e w2 ⟨rfl,b2⟩;have hb5:=(below_drewN S1.out 1).trans (b2.mono S1.out.size)))
   all_goals
    have HB:=hid hb5;clear hb5 b2 HCM HKP HC HBX;rcases hzc with hz|hz
    ·have hdz:decide (z<0)=true:=Qe hz;go_wp2;go_roundg (hi-(md+1))
     case measure=>omega
     case rel=>
      exact ⟨md+1,hi,by go_num,rfl,by omega,hin,Qc _,HB,HZ3.out.1 hz,I.out.2⟩
    ·have hdz:decide (z<0)=false:=Qf (by omega);go_wp2;go_roundg (md-lo)
     case measure=>omega
     case rel=>
      exact ⟨lo,md,rfl,rfl,by omega,by omega,Qc _,HB,I.out.1,HZ3.out.2 (by omega)⟩
  ·obtain rfl:hi=lo:=by omega
   have HLOW:Hid (Low ps nm n hi):=⟨hin,I.out.1,I.out.2⟩;by_cases hne:hi<n
   ·have HKP:Hid (∀W,Bl W0 W->W.cell? ⟨b,hi*2,none⟩=some (.string (ps.getD hi (bz,bz)).1)/\W.cell? ⟨b,hi*2+1,none⟩=some (.string (ps.getD hi (bz,bz)).2)/\W.cell? ⟨w.heap.size,0,none⟩=some (.string nm)/\W.cell? ⟨w.heap.size,1,none⟩=some (.string ⟨#[]⟩)):=fun W hb=>by
     have hb2:=HB0.out.trans (hb.mono HB0.out.size);exact ⟨(H.out.bw hb2).c0 _ hne,(H.out.bw hb2).c1 _ hne,HBX.out W hb⟩
    have HCM:Hid (∀W,Cp 277 #[.agg #[.string (ps.getD hi (bz,bz)).1,.string (ps.getD hi (bz,bz)).2],.agg #[.string nm,.string ⟨#[]⟩]] W fun e w'=>e= .returned (.int .i64 (zgq ps nm hi))/\Bl W w'):=fun W=>HC.out W _;obtain rfl:=H.out.addr (by omega);obtain ⟨fb,hfb⟩:∃fb,(decide (hi<n)&&decide (zgq ps nm hi=0))=fb:=⟨_,rfl⟩;have HFB:=hid hfb;have HEND:Hid (∀W,Bl W0 W->(∃i:Nat,Ending.returned (.tuple #[.int .i64 hi,.bool fb])= .returned (.tuple #[.int .i64 i,.bool (decide (i<n)&&decide (zgq ps nm i=0))])/\Low ps nm n i)/\Bl w W):=fun W hb=>⟨⟨hi,by rw [HFB.out],HLOW.out⟩,HB0.out.trans (hb.mono HB0.out.size)⟩;have hzz:(zgq ps nm hi==0)=fb:=by rw [<-hfb,Qe hne,Qz];rfl
    clear hfb HFB;generalize zgq ps nm hi=z,(ps.getD hi (bz,bz)).1=p1,(ps.getD hi (bz,bz)).2=p2 at*;have hi1:(0:Int)<=(hi:Int):=by omega
    have hi2:(hi:Int)<(n:Int):=by omega
    clear HC HBX I HLOW HM H;go_upto_region 8 with fail;go_region_held3 (fun V=>V.cell? ⟨b,hi*2,none⟩=some (.string p1)/\V.cell? ⟨b,hi*2+1,none⟩=some (.string p2)/\V.cell? ⟨w.heap.size,0,none⟩=some (.string nm)/\V.cell? ⟨w.heap.size,1,none⟩=some (.string ⟨#[]⟩))
     (first|exact HKP.out _ S1.out|exact HKP.out _ (below_drewN S1.out 1)|exact HKP.out _ hb5)
     (first
      |(first|go_at_call 277|go_at_fn 277
        refine (HCM.out _).mono ?_;rintro e w2 ⟨rfl,b2⟩;have hb5:=(below_drewN S1.out 1).trans (b2.mono S1.out.size)))
    all_goals
     have HF:Hid _:=HEND.out w2 hb5;clear hb5 b2 HCM HKP HEND;go_wp2;go_ret2;exact HF.out
   ·obtain rfl:hi=n:=by omega
    have HEND:Hid (∀W,Bl W0 W->(∃i:Nat,Ending.returned (.tuple #[.int .i64 hi,.bool false])= .returned (.tuple #[.int .i64 i,.bool (decide (i<hi)&&decide (zgq ps nm i=0))])/\Low ps nm hi i)/\Bl w W):=fun W hb=>⟨⟨hi,by rw [Qf hne];rfl,HLOW.out⟩,HB0.out.trans (hb.mono HB0.out.size)⟩;have HF:Hid _:=HEND.out wr.drew (below_drewN S1.out 1);have hne2:decide ((hi:Int)<(hi:Int))=false:=by simp
    clear HC HBX I HLOW HM HEND;go_upto_region 8 with fail;go_region;go_wp2;go_ret2;exact HF.out
theorem zmk (h:za6 w a b n ps) (hn:n<=1000) (hm:yhm ps nm n):
  Calls prog 250 #[.slice a n c,.string nm] w fun e w'=> (∃i:Nat,e= .returned (.tuple #[.int .i64 i,.bool (decide (i<n)&&decide (zgq ps nm i=0))])/\Low ps nm n i)/\Bl w w':=by
 have HS:=hid (zwz a b n c ps nm w h hn hm);clear h hm;go_enter func250,ntmps250;go_wp2_with fail;refine HS.out.mono ?_;rintro e w1 ⟨⟨i,rfl,hl⟩,hb⟩;have HF:Hid (Low ps nm n i/\Bl w w1):=⟨hl,hb⟩;clear hl hb HS;generalize hfb:(decide (i<n)&&decide (zgq ps nm i=0))=fb;have HFB:=hid hfb;clear hfb;go_wp2;go_ret2;exact ⟨⟨i,by rw [HFB.out];rfl,HF.out.1⟩,HF.out.2⟩
end
theorem zj9:∀a b:List UInt8,Lib.compareBytes a b=0↔a=b
 | [],[]=>by simp [Lib.compareBytes]
 | [],_::_=>by simp [Lib.compareBytes]
 |_::_,[]=>by simp [Lib.compareBytes]
 |a::x,b::y=>by
  unfold Lib.compareBytes;by_cases h1:a<b
  ·rw [if_pos h1];constructor
   ·intro e;cases e
   ·intro e;injection e with e1 e2;subst e1;exact absurd h1 (by simp [UInt8.lt_irrefl])
  ·rw [if_neg h1];by_cases h2:b<a
   ·rw [if_pos h2];constructor
    ·intro e;cases e
    ·intro e;injection e with e1 e2;subst e1;exact absurd h2 (by simp [UInt8.lt_irrefl])
   ·rw [if_neg h2,zj9 x y,List.cons.injEq];have:a=b:=UInt8.le_antisymm (UInt8.not_lt.1 h2) (UInt8.not_lt.1 h1);simp [this]
section
variable (ps:List Pr) (nm:ByteArray) (j:Nat)
theorem zdi:zgq ps nm j=0↔(ps.getD j (bz,bz)).1=nm:=by
 unfold zgq zx5;rw [zj9];exact ⟨fun e=>ByteArray.ext (Array.toList_inj.1 e),fun e=>by rw [e]⟩
theorem ze6:zgq ps nm j<0↔bytesBefore (ps.getD j (bz,bz)).1.data.toList nm.data.toList=true:=by
 have h:=Kk.zio (ps.getD j (bz,bz)).1.data.toList nm.data.toList;rw [<-Ri.zfd] at h;unfold zgq zx5;rw [<-h,decide_eq_true_iff]
end
def UpP (ps:List Pr):Prop:=ps.Pairwise fun x y=>bytesBefore x.1.data.toList y.1.data.toList=true
theorem zvf (h:UpP ps) {j:Nat} (hij:i<j) (hj:j<ps.length):bytesBefore (ps.getD i (bz,bz)).1.data.toList (ps.getD j (bz,bz)).1.data.toList=true:=by
 unfold UpP at h;rw [List.pairwise_iff_getElem] at h;have:=h i j (by omega) hj hij;rwa [Qa,Qa,Qd hj,Qd (by omega:i<ps.length)]
theorem ycz (h:zt8 ps=true):UpP ps:=by
 unfold zt8 at h;rw [Qw] at h;have step:∀i,i+1<ps.length->bytesBefore (ps.getD i (bz,bz)).1.data.toList (ps.getD (i+1) (bz,bz)).1.data.toList=true:=fun i hi=>by
  have:=h (i+1) (List.mem_range.2 hi);rw [Nat.add_sub_cancel,Bool.or_eq_true] at this;rcases this with e|e
  ·simp at e
  ·rwa [zgw] at e
 have far:∀d i,i+d+1<ps.length->bytesBefore (ps.getD i (bz,bz)).1.data.toList (ps.getD (i+d+1) (bz,bz)).1.data.toList=true:=by
  intro d;induction d with
  |zero=>intro i hi;exact step i hi
  |succ d ih=>
   intro i hi;exact WideShapes.bytes_trans _ _ _ (ih i (by omega)) (by have:=step (i+d+1) (by omega);rwa [show i+d+1+1=i+(d+1)+1 by omega] at this)
 unfold UpP;rw [List.pairwise_iff_getElem];intro i j hi hj hij;have:=far (j-i-1) i (by omega);rw [show i+(j-i-1)+1=j by omega,Qa,Qa,Qd hi,Qd hj] at this;exact this
theorem zsk (h:UpP ps) (nm:ByteArray):yhm ps nm ps.length:=fun i j hij hj hc=>by
 rcases Nat.lt_or_ge i j with hl|hl
 ·rw [ze6] at hc ⊢;exact WideShapes.bytes_trans _ _ _ (zvf h hl hj) hc
 ·obtain rfl:i=j:=by omega
  exact hc
theorem ycu (h:UpP ps) {nm:ByteArray} (hl:Low ps nm ps.length i):if (decide (i<ps.length)&&decide (zgq ps nm i=0))=true then zeo ps nm 0=(i:Int)/\i<ps.length else zeo ps nm 0= -1:=by
 have hne:∀j,zgq ps nm j<0->(ps.getD j (bz,bz)).1≠nm:=fun j hj e=>by
  have:=(zdi ps nm j).2 e;omega
 split
 ·rename_i hf;rw [Qh,decide_eq_true_iff,decide_eq_true_iff] at hf;refine ⟨?_,hf.1⟩;rw [zkt ps nm i 0 hf.1 (fun j hj=>hne j (hl.lo j hj)) ((zdi ps nm i).1 hf.2),Qq]
 ·rename_i hf;refine ziv ps nm 0 fun j hj e=>?_;rcases Nat.lt_or_ge j i with hji|hji
  ·exact hne j (hl.lo j hji) e
  ·have hin:i<ps.length:=by omega
   have h0:=hl.hi i (Qc _) hin;have hnz:zgq ps nm i≠0:=fun ez=>hf (by rw [Qe hin,Qe ez];rfl);rcases Nat.lt_or_ge i j with hl2|hl2
   ·have:=zvf h hl2 hj;rw [e,<-ze6] at this;omega
   ·obtain rfl:i=j:=by omega
    exact hnz ((zdi ps nm i).2 e)
theorem yfr {v:Vl} (h:zh4 v=true):UpP v.pj:=by
 have hnil:v.pj.length=0->UpP v.pj:=fun e=>by rw [List.length_eq_zero_iff.1 e];exact List.Pairwise.nil
 unfold zh4 zgg at h;split at h
 ·simp only [Qh,decide_eq_true_iff] at h;exact hnil (by omega)
 ·split at h
  ·simp only [Qh,decide_eq_true_iff] at h;exact hnil (by omega)
  ·split at h
   ·simp only [Qh,decide_eq_true_iff] at h;have:=h.2.2;unfold zcu at this;simp only [Qh] at this;exact ycz this.2.2
   ·split at h
    ·simp only [Qh,decide_eq_true_iff] at h;exact hnil (by omega)
    ·cases h
theorem zvi {L:List KV} (hd:zan (L.map KV.key)=true) (nm:ByteArray):UpP (zak L nm).key.val.pj:=by
 rcases zby L nm with ⟨-,e⟩|⟨-,hm,-⟩
 ·rw [e];exact List.Pairwise.nil
 ·have hk:=((zce _).1 hd).2.2 _ (List.mem_map_of_mem hm);unfold zfo at hk;rw [Qh,Qh] at hk;exact yfr hk.2.1
theorem zw8 (B g b n:Nat) (now:Int) (aa:Option Addr) (ab ao ac:Nat) (L:List KV) (T:List ByteArray) (ad:Nat->Addr) (w:World) (h:zcr w B g b n now aa ab ao ac L L T) (hd:zan (L.map KV.key)=true) (hs:∀t∈T,t.size<=200) (hT:T.length=2):
  Calls prog 198 #[.pointer (some ⟨g,0,none⟩)] w (zar w B g b now aa ab ao ac T ad (L.map KV.key) (if zeo (zak L (T.getD 0 empty)).key.val.pj (T.getD 1 empty) 0<0 then (L.map KV.key,zbm) else (L.map KV.key,zax ((zak L (T.getD 0 empty)).key.val.pj.getD (zeo (zak L (T.getD 0 empty)).key.val.pj (T.getD 1 empty) 0).toNat (bz,bz)).2))):=by
 have hz0:=zav hs 0;have hsm:=za8 hd (T.getD 0 empty);have hup:=zvi hd (T.getD 0 empty);obtain ⟨a1,n1,k1,a2,n2,k2,a3,n3,k3,e1,e2,e3,hH⟩:=h.held (by omega) hz0;have hko:=(h.keyOwn (T.getD 0 empty)).pj;obtain ⟨xa,xA,xc,xe,xz⟩:=zdn hko;rw [e2] at xe;injection xe with x1 x2 x3;subst x1 x2 x3;have HH:=hid hH;have HP:=hid fun W (hb:Bl w W)=>zmk a2 xA (zak L (T.getD 0 empty)).key.val.pj.length k2 (zak L (T.getD 0 empty)).key.val.pj (T.getD 1 empty) W (xz.bw hb) (by have:=hsm.np;omega) (zsk hup _);have HZ:=hid fun W (hb:Bl w W)=>xz.bw hb;have HLP:=hid fun i (hi:Low (zak L (T.getD 0 empty)).key.val.pj (T.getD 1 empty) (zak L (T.getD 0 empty)).key.val.pj.length i)=>ycu hup hi;have HN:=hid fun W=>zev W;have HR:=hid fun W s=>zd3 s W;obtain ⟨-,c1⟩:=h.arg 1 (by omega);have HA:Hid (∀V,Bl w V->V.cell? ⟨g,2,none⟩=some (.slice aa T.length ac)/\V.cell? ⟨ab,ao+1,none⟩=some (.string (T.getD 1 empty))):=fun V hb=>⟨(h.bw hb).call.c2,c1 V (hb.mono h.le)⟩;have HSA:Hid (∀R r w',zbe w' w.heap.size r R->Bl w w'->zar w B g b now aa ab ao ac T ad (L.map KV.key) (L.map KV.key,R) (.returned (.tuple #[r,.nilIface])) w'):=fun R r w' h1 h2=>zbo h ⟨r,rfl,h1,h2⟩;obtain rfl:=h.call.args.addr (by omega);rw [hT] at HA;clear h hd hs hH hsm e1 e2 e3 hko xz c1 hup;generalize (zak L (T.getD 0 empty)).key.val.pj=PP,L.map KV.key=ks,(zak L (T.getD 0 empty)).key.val.kind=kd,(zak L (T.getD 0 empty)).key.val.text=tx,(T.getD 1 empty)=t1 at*;have hf:=fun W=>zld (.int .i64 kd) (.string tx) (.slice a1 n1 k1) (.slice a2 PP.length k2) (.slice a3 n3 k3) W;obtain ⟨pp,hpp⟩:∃pp,(if zeo PP t1 0<0 then (ks,zbm) else (ks,zax (PP.getD (zeo PP t1 0).toNat (bz,bz)).2))=pp:=⟨_,rfl⟩;rw [hpp];have HPP:=hid hpp;clear hpp;obtain ⟨m,hmm⟩:∃m,PP.length=m:=⟨_,rfl⟩;rw [hmm] at HH hf HP HZ HLP;clear hmm;go_enter func198,ntmps198;go_wp2_with fail;refine (HH.out _ (Qb _ _)).mono ?_;rintro e w1 ⟨rfl,b1⟩;have HB:=hid b1;obtain ⟨q0,q1⟩:=HA.out w1 b1;clear b1 HH HA;go_wp2_with fail;refine (HP.out _ HB.out).mono ?_;rintro e w2 ⟨⟨i,rfl,hlow⟩,b2⟩;have HB2:=hid (HB.out.trans (b2.mono HB.out.size));have hlp:=HLP.out i hlow;clear b2 HP HLP hlow;cases hfd:(decide (i<m)&&decide (zgq PP t1 i=0)) with
 |false=>
  rw [hfd,if_neg (by simp)] at hlp;obtain rfl:(ks,zbm)=pp:=by have:=HPP.out;rwa [if_pos (by omega)] at this
  clear HPP hlp hfd;go_wp2_with fail;refine (HN.out _).mono ?_;rintro e w4 ⟨r,rfl,hr,hb⟩;have HF:Hid _:=HSA.out _ r w4 (hr.le HB2.out.size) (HB2.out.trans (hb.mono HB2.out.size));clear hr hb HN HSA HR;go_wp2;go_ret2;exact HF.out
 |true=>
  rw [hfd,if_pos rfl] at hlp;obtain ⟨hpm,him⟩:=hlp;obtain rfl:(ks,zax (PP.getD i (bz,bz)).2)=pp:=by have:=HPP.out;rwa [if_neg (by omega),hpm,Int.toNat_natCast] at this
  have c2:=(HZ.out w2 HB2.out).c1 i him;obtain rfl:=(HZ.out w2 HB2.out).addr (by omega);have hi1:(0:Int)<=(i:Int):=by omega
  have hi2:(i:Int)<(m:Int):=by omega
  clear HPP hpm hfd HZ;generalize (PP.getD i (bz,bz)).2=sx at*;go_wp2_with fail;refine (HR.out _ _).mono ?_;rintro e w4 ⟨r,rfl,hr,hb⟩;have HF:Hid _:=HSA.out _ r w4 (hr.le HB2.out.size) (HB2.out.trans (hb.mono HB2.out.size));clear hr hb HN HSA HR;go_wp2;go_ret2;exact HF.out
end Go.Proofs.YtokafonppgppdaaGreatDoor.Rb
namespace Go.Proofs
open Go.Shelf
def Tryz.lays2n17_ren:Go.Shelf.Ren:=⟨fun|17=>245|n=>n,fun|24=>25|9=>9|3=>3|4=>4|0=>0|n=>n,fun|n=>n⟩
theorem Tryz.lays2n17:Go.Proofs.Lays2.n17 Tryz.prog Tryz.lays2n17_ren:={
 mixed:=by kernel_rfl
 f17:=Tryz.func245.trans (congrArg some (by kernel_rfl))
 t0:=Tryz.underlying0
 a0:=Tryz.isAgg0
 z0:=Tryz.sizeOf0
 v0:=Tryz.zeroValue0
 t3:=Tryz.underlying3
 a3:=Tryz.isAgg3
 z3:=Tryz.sizeOf3
 v3:=Tryz.zeroValue3
 t4:=Tryz.underlying4
 a4:=Tryz.isAgg4
 z4:=Tryz.sizeOf4
 v4:=Tryz.zeroValue4
 t9:=Tryz.underlying9
 a9:=Tryz.isAgg9
 z9:=Tryz.sizeOf9
 v9:=Tryz.zeroValue9
 t24:=Tryz.underlying25
 a24:=Tryz.isAgg25
 z24:=Tryz.sizeOf25
 v24:=Tryz.zeroValue25 }
def Tryz.lays2n24_ren:Go.Shelf.Ren:=⟨fun|24=>274|n=>n,fun|24=>25|9=>9|3=>3|4=>4|0=>0|n=>n,fun|n=>n⟩
theorem Tryz.lays2n24:Go.Proofs.Lays2.n24 Tryz.prog Tryz.lays2n24_ren:={
 mixed:=by kernel_rfl
 f24:=Tryz.func274.trans (congrArg some (by kernel_rfl))
 t0:=Tryz.underlying0
 a0:=Tryz.isAgg0
 z0:=Tryz.sizeOf0
 v0:=Tryz.zeroValue0
 t3:=Tryz.underlying3
 a3:=Tryz.isAgg3
 z3:=Tryz.sizeOf3
 v3:=Tryz.zeroValue3
 t4:=Tryz.underlying4
 a4:=Tryz.isAgg4
 z4:=Tryz.sizeOf4
 v4:=Tryz.zeroValue4
 t9:=Tryz.underlying9
 a9:=Tryz.isAgg9
 z9:=Tryz.sizeOf9
 v9:=Tryz.zeroValue9
 t24:=Tryz.underlying25
 a24:=Tryz.isAgg25
 z24:=Tryz.sizeOf25
 v24:=Tryz.zeroValue25
 i9:=by kernel_rfl }
end Go.Proofs
namespace Go.Proofs.YtokafonppgppdaaGreatDoor.Rb
open Tryz
open _root_.ByteArray (empty)
open Go.RowKit Go.Maps Go.Sort
open Ri (za3 RK UpK zao zbb zlj zi6 zhd kvA z7 zb0 zdv zcp zez)
variable {w:World} {B g cap b n ab ao ac:Nat} {T X:List ByteArray} {a aa:Option Addr} {now:Int} {L:List KV}
def byL (t:ByteArray):List UInt8:=t.data.toList
theorem yh1 (t:ByteArray):encStr (byL t)= .string t:=by
 show Value.string ⟨t.data.toList.toArray⟩= .string t;rw [Array.toArray_toList]
theorem yaq (T:List ByteArray) (j:Nat) (hj:j<T.length):(zdw T)[j]?=some (encStr ((T.map byL).toArray[j]!)):=by
 have h1:(T.map byL).toArray[j]! =byL T[j]:=by
  rw [getElem!_pos _ j (by simpa using hj)];simp
 rw [h1,yh1];unfold zdw;rw [List.getElem?_map,Qd hj];rfl
theorem zrf (h:zcx w B (.slice (some ⟨g,0,none⟩) T.length cap) T):Holds encStr w g 0 (T.map byL).toArray/\T.length<=cap/\cap<=maxLen/\B<=g/\g<w.heap.size:=by
 have hlt:=h.lt g rfl;refine ⟨fun j hj=>?_,?_⟩
 ·have hj':j<T.length:=by simpa using hj
  have hc:=h.cells rfl j _ (yaq T j hj');rw [Addr.add_lit,Qq] at hc;refine ⟨by rw [Qq];exact hc,?_⟩;obtain ⟨_,h2|⟨A',cap',cur,he,hB,hg,_⟩⟩:=h
  ·cases h2.1
  ·simp at he;obtain ⟨rfl,rfl⟩:=he;exact Lib.frozen_of_heap hg _
 ·obtain ⟨_,h2|⟨A',cap',cur,he,hB,hg,hc1,hc2,_⟩⟩:=h
  ·cases h2.1
  ·simp at he;obtain ⟨rfl,rfl⟩:=he;exact ⟨hc1,hc2,hB,hlt.2⟩
theorem zu6 (h:zcx w B (.slice (some ⟨g,0,none⟩) T.length cap) T) (hX:X.length=T.length) (m q:Nat) (hm:m<=X.length):
  zcx (putRow encStr (Sort.ahead w q) g 0 (X.map byL).toArray) B (.slice (some ⟨g,0,none⟩) m cap) (X.take m)/\w.grownBy (putRow encStr (Sort.ahead w q) g 0 (X.map byL).toArray) (some g):=by
 obtain ⟨h1,h2|⟨A',cap',cur,he,hB,hg,hc1,hc2,hsz,htk⟩⟩:=h
 ·cases h2.1
 ·simp at he;obtain ⟨rfl,rfl⟩:=he;have hrow:(putRow encStr (Sort.ahead w q) g 0 (X.map byL).toArray).heap[g]?=some (.cells (putCells encStr 0 (X.map byL).toArray cur) 9 (0,0)):=by
   unfold putRow mapBlock;rw [Array.getElem?_modify,if_pos rfl];show Option.map _ w.heap[g]?=_;rw [hg];rfl
  refine ⟨⟨by unfold zdw;rw [Qp,Qn,Nat.min_eq_left hm,Nat.mul_one],.inr ⟨g,cap,_,by rw [Qn,Nat.min_eq_left hm],hB,hrow,by rw [Qn,Nat.min_eq_left hm];omega,hc2,by simp [putCells,hsz],?_⟩⟩,⟨rfl,rfl,rfl,?_,fun j _ hj=>?_⟩⟩
  ·apply List.ext_getElem?;intro i;rw [Qn,Nat.min_eq_left hm,Nat.mul_one,List.getElem?_take];by_cases hi:i<m
   ·rw [if_pos hi,Array.getElem?_toList];have hic:i<cur.size:=by omega
    unfold putCells;rw [Array.getElem?_mapIdx,Array.getElem?_eq_getElem hic,Option.map_some,if_pos (by simp;omega),Nat.sub_zero];have:=yaq X i (by omega);unfold zdw at this ⊢;rw [<-this,List.getElem?_map,List.getElem?_map,List.getElem?_take,if_pos hi]
   ·rw [if_neg hi];unfold zdw;rw [List.getElem?_map,List.getElem?_take,if_neg hi];rfl
  ·unfold putRow mapBlock;show w.heap.size<=(w.heap.modify g _).size;rw [Array.size_modify];exact Qc _
  ·unfold putRow mapBlock;show (w.heap.modify g _)[j]?=_;rw [Array.getElem?_modify,if_neg (fun e=>hj (by rw [e]))]
theorem zww (h:zcx w B (.slice a T.length cap) T) (hn:T.length<=1048576):
  Calls prog 245 #[.slice a T.length cap] w fun e w'=>e= .returned (.tuple #[])/\zcx w' B (.slice a T.length cap) T.reverse/\w.grownBy w' (Value.slice a T.length cap).ownBlock:=by
 rcases Joins.ownsRow_forms h with ⟨h1,h2⟩|⟨A,c,e⟩
 ·injection h1 with e1 e2 e3;obtain rfl:T=[]:=List.length_eq_zero_iff.mp h2;subst e1 e3;refine (Any.slices_Reverse_string_empty Tryz.lays2n17 none 0 w).mono ?_;rintro e w' ⟨rfl,rfl⟩;exact ⟨rfl,h,za0 _ _⟩
 ·injection e with e1 e2 e3;subst e1 e3;obtain ⟨hH,-,-,-,-⟩:=zrf h;have hc:=Any.slices_Reverse_string Tryz.lays2n17 A 0 cap (T.map byL) w hH (by rw [Qp];omega);rw [Qp] at hc;refine hc.mono ?_;rintro e w' ⟨rfl,q,rfl⟩;rw [<-List.map_reverse];obtain ⟨o,gg⟩:=zu6 h (X:=T.reverse) (by simp) T.length q (by simp);rw [List.take_of_length_le (by simp)] at o;exact ⟨rfl,o,gg⟩
theorem yam (h:zcx w B (.slice a T.length cap) T) (i:Nat) (hi:i<T.length):
  Calls prog 274 #[.slice a T.length cap,.int .i64 i,.int .i64 (i+1:Nat)] w fun e w'=>e= .returned (.slice a (T.length-1) cap)/\zcx w' B (.slice a (T.length-1) cap) (T.take i++T.drop (i+1))/\w.grownBy w' (Value.slice a T.length cap).ownBlock:=by
 rcases Joins.ownsRow_forms h with ⟨h1,h2⟩|⟨A,c,e⟩
 ·omega
 ·injection e with e1 e2 e3;subst e1 e3;obtain ⟨hH,hc1,hc2,-,-⟩:=zrf h;have hc:=Any.slices_Delete_string Tryz.lays2n24 A 0 cap i (i+1) (T.map byL) w hH (by rw [Qp];exact hc1) (by unfold maxLen at hc2;omega) (by omega) (by rw [Qp];omega);rw [Qp] at hc;refine hc.mono ?_;rintro e w' ⟨rfl,q,rfl⟩;have hX:(T.map byL).take i++(T.map byL).drop (i+1)++List.replicate (i+1-i) []=(T.take i++T.drop (i+1)++ [(⟨#[]⟩:ByteArray)]).map byL:=by
   rw [List.map_append,List.map_append,List.map_take,List.map_drop,show i+1-i=1 by omega];rfl
  rw [hX,show i+1-i=1 by omega];have hl:(T.take i++T.drop (i+1)).length=T.length-1:=by rw [Qi,Qn,Qu];omega
  obtain ⟨o,gg⟩:=zu6 h (X:=T.take i++T.drop (i+1)++ [(⟨#[]⟩:ByteArray)]) (by rw [Qi,hl];simp;omega) (T.length-1) q (by rw [Qi,hl];simp);rw [<-hl,List.take_left] at o;rw [hl] at o;exact ⟨rfl,o,gg⟩
open Go.RowKit Go.Maps
theorem zcr.grown {w':World} (h:zcr w B g b n now aa ab ao ac L L T) (nm:ByteArray) {row:Option Nat} (hg:w.grownBy w' row) (hr:∀k,row=some k->B<=k/\k≠g/\k≠b/\∀x∈zbb L nm,x.vi.ownBlock≠some k/\x.vp.ownBlock≠some k/\x.vr.ownBlock≠some k):zcr w' B g b n now aa ab ao ac L (zbb L nm) T/\Below B w w':=by
 have hb:Below B w w':=⟨hg.os,hg.tape,hg.output,hg.size,fun k hk=>hg.block k (by have:=h.le;omega) (fun e=>by have:=(hr k e.symm).1;omega)⟩;have hrow:=(hg.block g h.call.row.lt (fun e=> (hr g e.symm).2.1 rfl)).trans h.call.row;have hlt:=h.call.ring.lt;have hring:w'.ownsMap prog 9 RK b n (za3 L):=by
  obtain ⟨es,clock,hm,Ft,hs,hD⟩:=h.call.ring;exact ⟨es,clock,(hg.block b hlt (fun e=> (hr b e.symm).2.2.1 rfl)).trans hm,Ft,hs,hD⟩
 refine ⟨⟨⟨hrow,hring,h.call.up,zqx h.call.args hb h.la⟩,⟨fun x hx=>?_,(h.vals.gone nm).ap⟩,h.lg,h.lb,h.la,h.n25,Qj h.le hb.size⟩,hb⟩;have ho:=(h.vals.gone nm).own x hx;exact ⟨zai ho.ia fun k hk=>hg.block k (zaz ho.ia hk).2 (fun e=> ((hr k e.symm).2.2.2 x hx).1 hk),zai ho.pj fun k hk=>hg.block k (zaz ho.pj hk).2 (fun e=> ((hr k e.symm).2.2.2 x hx).2.1 hk),zai ho.rq fun k hk=>hg.block k (zaz ho.rq hk).2 (fun e=> ((hr k e.symm).2.2.2 x hx).2.2 hk)⟩
theorem zcr.listAt (h:zcr w B g b n now aa ab ao ac L L T) (nm:ByteArray):∀k,(zak L nm).vi.ownBlock=some k->B<=k/\k≠g/\k≠b/\∀x∈zbb L nm,x.vi.ownBlock≠some k/\x.vp.ownBlock≠some k/\x.vr.ownBlock≠some k:=fun k hk=>by
 rcases zby L nm with ⟨-,e⟩|⟨-,hm,hnm⟩
 ·rw [e] at hk;cases hk
 ·have ho:=(h.vals.own _ hm).ia;obtain ⟨C,hC⟩:=zbh ho hk;refine ⟨(zaz ho hk).1,fun e=>?_,zl3 h.call.ring hC,fun x hx=>?_⟩
  ·subst e;have:=Hp.zcm hC h.call.row;cases this
  ·obtain ⟨x1,x2⟩:=zee hx;have hap:=yac h.vals.ap hm x1 (by rw [hnm];exact fun e=>x2 e.symm);have hxo:=h.vals.own x x1;refine ⟨hap.1 k hk,fun e=>?_,fun e=>?_⟩
   ·obtain ⟨D,hD⟩:=zbh hxo.pj e;have:=Hp.zcm hC hD;cases this
   ·obtain ⟨D,hD⟩:=zbh hxo.rq e;have:=Hp.zcm hC hD;cases this
theorem zvv {V:Value} {L:List ByteArray} {A o c:Nat} {S:List ByteArray} (h:zcx w B V L) (hs:zdg w a A o n S) (hc:a=none->c=0) (hn:n<=1048576) (hn2:L.length<=1048576) (hB:B<=w.heap.size):
  ∃a' c' w',(Builtin.append_ #[25,25] 25 #[V,.slice a n c]).run prog w= .ok (.slice a' (L.length+n) c') w'/\zcx w' B (.slice a' (L.length+n) c') (L++S)/\w.grownBy w' V.ownBlock/\((Value.slice a' (L.length+n) c').ownBlock=V.ownBlock\/(Value.slice a' (L.length+n) c').ownBlock=some w.heap.size):=by
 obtain ⟨i0,hi,hz0,hz1,hz2⟩:=info_parts zmw;have hl:=hs.len;cases a with
 |none=>
  obtain rfl:n=0:=by
   rcases Nat.eq_zero_or_pos n with h|h
   ·exact h
   ·have:=hs.addr h;cases this
  obtain rfl:=hc rfl;obtain rfl:S=[]:=List.eq_nil_of_length_eq_zero hl;obtain ⟨a',c',e⟩:=zad h;subst e;exact ⟨a',c',w,run_append_owned_none (P:=prog) w B 25 25 9 i0 1 underlying25 hi _ _ _ h,by rw [List.append_nil];exact h,za0 _ _,.inl rfl⟩
 |some ad=>
  obtain ⟨v',w',hrun,hown,hg,_,hblk⟩:=run_append_own_at (P:=prog) w B 25 25 9 i0 _ 1 16 underlying25 hi hz0 hz1 hz2 rfl (by decide) V L.length (zdw L) h ad n c (zdw S) (by simp [zdw,hl]) (fun j u hj=>by
   have hjn:j<n:=by
    have:=(List.getElem?_eq_some_iff.1 hj).1;simp [zdw] at this;omega
   obtain rfl:ad=⟨A,o,none⟩:=Option.some.inj (hs.addr (by omega));rw [Addr.add_lit];have hc:=hs.cell j hjn;rw [hc];simp [zdw] at hj;obtain ⟨t,ht,rfl⟩:=hj;rw [Qa,ht];rfl) (fun u hu=>by simp [zdw] at hu;obtain ⟨t,_,rfl⟩:=hu;rfl) (by unfold maxLen;omega) (by omega) hB
  obtain ⟨a',c',e⟩:=zad hown;subst e;refine ⟨a',c',w',hrun,?_,hg,hblk⟩;have e:zdw (L++S)=zdw L++zdw S:=by unfold zdw;rw [List.map_append]
  unfold zcx;rw [Qi,hl,e];exact hown
theorem zcr.tail {M:List KV} (h:zcr w B g b n now aa ab ao ac L M T) (hT:2<=T.length):zdg w (some ⟨ab,ao+1,none⟩) ab (ao+1) (T.length-1) T.tail:=by
 have:=zqo h.call.args 1 T.length (by omega) (Qc _) (by omega);rwa [List.take_length,List.drop_one] at this
def zcw (L:List KV) (nm:ByteArray) (X:List ByteArray):Ke:=⟨nm,⟨2,⟨#[]⟩,X,[],[]⟩,(zak L nm).key.due⟩
section
variable (B g b n:Nat) (now:Int) (aa:Option Addr) (ab ao ac:Nat) (L:List KV) (T:List ByteArray) (ad:Nat->Addr) (w:World)
theorem zh8 (X:List ByteArray) (a:Option Addr) (c:Nat) (h:zcr w B g b n now aa ab ao ac L (zbb L (T.getD 0 empty)) T) (hE:zhj w B ad) (hn:n<=1000) (hs:∀t∈T,t.size<=200) (hT:0<T.length) (hv:zcx w B (.slice a X.length c) X) (hap:∀x∈zbb L (T.getD 0 empty),∀g,(Value.slice a X.length c).ownBlock=some g->x.vi.ownBlock≠some g) (hX:X.length<=524288):
  Calls prog 246 #[.pointer (some ⟨g,0,none⟩),.slice a X.length c] w fun e w2=>∃r er w1,e= .returned (.tuple #[r,er])/\zbe w1 w.heap.size r (zam X.length)/\Bl w w1/\zas w1 B g b n now aa ab ao ac L T (ad 1) (zdx L (T.getD 0 empty) (.slice a X.length c) X) (.returned er) w2:=by
 have hz0:=zav hs 0;obtain ⟨he,hA⟩:=hE.er 1 (.inl rfl);have HR:=hid fun W s=>za4 s W;have HX:Hid (∀W,Bl w W->Cp 244 #[.pointer (some ⟨g,0,none⟩),.iface 232 (.slice a X.length c)] W fun e w'=>∃er,e= .returned er/\zas W B g b n now aa ab ao ac L T (ad 1) (zdx L (T.getD 0 empty) (.slice a X.length c) X) (.returned er) w'):=fun W hb=> (zk1 B g b n now aa ab ao ac L T W a c X (h.bw hb) (zaf hv hb) hap hT (by omega) hX hn (hE.bw (hb.mono h.le)).rd (he.bw (hb.mono h.le) h.n25 hA) hA).mono fun e w' hl=>⟨_,hl.1,by have:=hl.1;rw [<-this];exact hl⟩;clear h hE hs hv hap he hA;generalize hLE:(fun W=>zas W B g b n now aa ab ao ac L T (ad 1) (zdx L (T.getD 0 empty) (.slice a X.length c) X))=LE;have HX2:Hid (∀W,Bl w W->Cp 244 #[.pointer (some ⟨g,0,none⟩),.iface 232 (.slice a X.length c)] W fun e w'=>∃er,e= .returned er/\LE W (.returned er) w'):=by rw [<-hLE];exact HX.out
 suffices hh:Calls prog 246 #[.pointer (some ⟨g,0,none⟩),.slice a X.length c] w fun e w2=>∃r er w1,e= .returned (.tuple #[r,er])/\zbe w1 w.heap.size r (zam X.length)/\Bl w w1/\LE w1 (.returned er) w2 by rw [<-hLE] at hh;exact hh
 clear hLE HX;generalize X.length=m at*;go_enter func246,ntmps246;go_wp2_with fail;refine (HR.out _ _).mono ?_;rintro e w1 ⟨r,rfl,hr,hb⟩;have HB:Hid (zbe w1 w.heap.size r (zam m)/\Bl w w1):=⟨hr,hb⟩;clear hr hb HR;go_wp2_with fail;refine (HX2.out _ HB.out.2).mono ?_;rintro e w2 ⟨er,rfl,hl⟩;have HF:=hid hl;clear hl HX2;go_wp2;go_ret2;exact ⟨r,er,w1,rfl,HB.out.1,HB.out.2,HF.out⟩
theorem ztw (h:zcr w B g b n now aa ab ao ac L L T) (hd:zan (L.map KV.key)=true) (hE:zhj w B ad) (hn:n<=1000) (hs:∀t∈T,t.size<=200) (hT:2<=T.length) (hT2:T.length<=16) (hac:T.length<=ac):
  Calls prog 192 #[.pointer (some ⟨g,0,none⟩)] w (zar w B g b now aa ab ao ac T ad (L.map KV.key) (za1 (L.map KV.key) (zcw L (T.getD 0 empty) ((zak L (T.getD 0 empty)).key.val.ia++T.tail)) (zam ((zak L (T.getD 0 empty)).key.val.ia++T.tail).length))):=by
 have hz0:=zav hs 0;have hsm:=za8 hd (T.getD 0 empty);obtain ⟨a1,n1,k1,a2,n2,k2,a3,n3,k3,e1,e2,e3,hH⟩:=h.held (by omega) hz0;have hko:=(h.keyOwn (T.getD 0 empty)).ia;have hloc:=h.listAt (T.getD 0 empty);rw [e1] at hko hloc;obtain ⟨xa,xc,xe⟩:=zad hko;injection xe with x1 x2 x3;subst x1 x2 x3;have HH:=hid hH;have hTl:T.tail.length=T.length-1:=by simp
 have HAP:Hid (∀W,Bl w W->∃a' c' w',(Builtin.append_ #[25,25] 25 #[.slice a1 (zak L (T.getD 0 empty)).key.val.ia.length k1,.slice (some ⟨ab,ao+1,none⟩) (T.length-1) (ac-1)]).run prog W= .ok (.slice a' ((zak L (T.getD 0 empty)).key.val.ia.length+(T.length-1)) c') w'/\w'.cell? ⟨g,2,none⟩=some (.slice aa T.length ac)/\Cp 246 #[.pointer (some ⟨g,0,none⟩),.slice a' ((zak L (T.getD 0 empty)).key.val.ia.length+(T.length-1)) c'] w' fun e w2=>∃r er,e= .returned (.tuple #[r,er])/\zar w B g b now aa ab ao ac T ad (L.map KV.key) (za1 (L.map KV.key) (zcw L (T.getD 0 empty) ((zak L (T.getD 0 empty)).key.val.ia++T.tail)) (zam ((zak L (T.getD 0 empty)).key.val.ia++T.tail).length)) (.returned (.tuple #[r,er])) w2/\w2.cell? ⟨g,2,none⟩=some (.slice aa T.length ac)):=fun W hb=>by
  have hW:=h.bw hb;obtain ⟨a',c',w',hrun,ho,hg,hblk⟩:=zvv (zaf hko hb) (hW.tail hT) (fun e=>by cases e) (by omega) (by have:=hsm.ni;omega) hW.le;have hloc':∀k,(Value.slice a1 (zak L (T.getD 0 empty)).key.val.ia.length k1).ownBlock=some k->_:=hloc;obtain ⟨hw',hb'⟩:=hW.grown (T.getD 0 empty) hg hloc';have hlen:((zak L (T.getD 0 empty)).key.val.ia++T.tail).length=(zak L (T.getD 0 empty)).key.val.ia.length+(T.length-1):=by rw [Qi,hTl]
  refine ⟨a',c',w',hrun,hw'.call.c2,?_⟩;rw [<-hlen] at ho hblk ⊢;refine (zh8 B g b n now aa ab ao ac L T ad w' ((zak L (T.getD 0 empty)).key.val.ia++T.tail) a' c' hw' ((hE.bw (hb.mono h.le)).bw hb') hn hs (by omega) ho (fun x hx k hk=>?_) (by rw [hlen];have:=hsm.ni;omega)).mono ?_
  ·rcases hblk with e|e
   ·rw [e] at hk;exact ((hloc k hk).2.2.2 x hx).1
   ·rw [e] at hk;intro hxk;have hxo:=(hW.vals.own x (zee hx).1).ia;have:=(zaz hxo hxk).2;have:=Option.some.inj hk;omega
  ·rintro e w2 ⟨r,er,w1,rfl,hr,hb1,hl⟩;refine ⟨r,er,rfl,zdj h hd (hr.le (Qj hb.size hb'.size)) (((hb.mono h.le).trans hb').trans (hb1.mono (Qj hW.le hb'.size))) (Qj (Qj hb.size hb'.size) hb1.size) hl,?_⟩;obtain ⟨_,⟨n',_,hwk⟩,_⟩:=hl;exact hwk.call.c2
 have HC2:=hid fun W (hb:Bl w W)=>(h.bw hb).call.c2;obtain rfl:=h.call.args.addr (by omega);have hm1:(1:Int)<=(T.length:Int):=by omega
 have hm2:(1:Int)<(ac:Int):=by omega
 have hm3:(T.length:Int)<=(ac:Int):=by omega
 have hm4:1<ac:=by omega
 have hm5:¬ac=1:=by omega
 clear h hd hE hn hs hH hsm e1 e2 e3 hko hloc hTl;generalize za1 (L.map KV.key) (zcw L (T.getD 0 empty) ((zak L (T.getD 0 empty)).key.val.ia++T.tail)) (zam ((zak L (T.getD 0 empty)).key.val.ia++T.tail).length)=pp at*;generalize L.map KV.key=ks,(zak L (T.getD 0 empty)).key.val.kind=kd,(zak L (T.getD 0 empty)).key.val.text=tx,(zak L (T.getD 0 empty)).key.val.ia.length=il at*;have hf:=fun W=>zh0 (.int .i64 kd) (.string tx) (.slice a1 il k1) (.slice a2 n2 k2) (.slice a3 n3 k3) W;generalize hmm:T.length=m at*;have q0:=HC2.out w.drew (below_drewN (Qb _ _) 1);go_enter func192,ntmps192;go_upto_region 1 with fail;go_region_held3 (fun V=>V.cell? ⟨g,2,none⟩=some (.slice (some ⟨ab,ao,none⟩) m ac))
  (first|exact HC2.out _ (Qb _ _)|exact q0|exact hc9|exact hc8|exact HC2.out _ hb5)
  (first
   |(go_at_call 239;refine (HH.out _ (below_drewN (Qb _ w) 1)).mono ?_;rintro e w2 ⟨rfl,b2⟩;have hb5:=(below_drewN (Qb _ w) 1).trans b2;obtain ⟨a',c',w3,hrun,hc8,hcal⟩:=HAP.out w2 hb5)
   |(go_at_call 246;refine hcal.mono ?_;rintro e w4 ⟨r,er,rfl,hact,hc9⟩)
   |(refine zba rfl _ _ 25 rfl rfl rfl hrun ?_))
 all_goals
  have HF:Hid _:=hact;clear hact;go_wp2;go_ret2;exact HF.out
theorem zsz (h:zcr w B g b n now aa ab ao ac L L T) (hd:zan (L.map KV.key)=true) (hE:zhj w B ad) (hn:n<=1000) (hs:∀t∈T,t.size<=200) (hT:2<=T.length) (hT2:T.length<=16) (hac:T.length<=ac):
  Calls prog 191 #[.pointer (some ⟨g,0,none⟩)] w (zar w B g b now aa ab ao ac T ad (L.map KV.key) (za1 (L.map KV.key) (zcw L (T.getD 0 empty) (T.tail.reverse++(zak L (T.getD 0 empty)).key.val.ia)) (zam (T.tail.reverse++(zak L (T.getD 0 empty)).key.val.ia).length))):=by
 have hz0:=zav hs 0;have hsm:=za8 hd (T.getD 0 empty);obtain ⟨a1,n1,k1,a2,n2,k2,a3,n3,k3,e1,e2,e3,hH⟩:=h.held (by omega) hz0;have hko:=(h.keyOwn (T.getD 0 empty)).ia;obtain ⟨xa,xA,xc,xe,xz,xl,-⟩:=zc0 hko (fun t ht=>by have:=hsm.ia t ht;omega);rw [e1] at xe;injection xe with x1 x2 x3;subst x1 x2 x3;rw [e1] at hko;have hnl:=zkx hko;have HH:=hid hH;have hTl:T.tail.length=T.length-1:=by simp
 have HCP:=hid (Ri.yis _ ab (ao+1) (T.length-1) (ac-1) T.tail w (h.tail hT) (fun e=>by cases e) (by omega));have HRV:Hid (∀W a' c',zcx W w.heap.size (.slice a' (T.length-1) c') T.tail->Cp 245 #[.slice a' (T.length-1) c'] W fun e w'=>e= .returned (.tuple #[])/\zcx w' w.heap.size (.slice a' (T.length-1) c') T.tail.reverse/\W.grownBy w' (Value.slice a' (T.length-1) c').ownBlock):=fun W a' c' ho=>by
  rw [<-hTl] at ho ⊢;exact zww ho (by omega)
 have HAP:Hid (∀W a' c',Bl w W->zcx W w.heap.size (.slice a' (T.length-1) c') T.tail.reverse->∃a4 c4 w',(Builtin.append_ #[25,25] 25 #[.slice a' (T.length-1) c',.slice a1 (zak L (T.getD 0 empty)).key.val.ia.length k1]).run prog W= .ok (.slice a4 (T.length-1+(zak L (T.getD 0 empty)).key.val.ia.length) c4) w'/\Cp 246 #[.pointer (some ⟨g,0,none⟩),.slice a4 (T.length-1+(zak L (T.getD 0 empty)).key.val.ia.length) c4] w' fun e w2=>∃r er,e= .returned (.tuple #[r,er])/\zar w B g b now aa ab ao ac T ad (L.map KV.key) (za1 (L.map KV.key) (zcw L (T.getD 0 empty) (T.tail.reverse++(zak L (T.getD 0 empty)).key.val.ia)) (zam (T.tail.reverse++(zak L (T.getD 0 empty)).key.val.ia).length)) (.returned (.tuple #[r,er])) w2):=fun W a' c' hb ho=>by
  have hrl:T.tail.reverse.length=T.length-1:=by rw [List.length_reverse,hTl]
  obtain ⟨a4,c4,w',hrun,ho4,hg,hblk⟩:=zvv ho (zdb xz hb) hnl (by have:=hsm.ni;omega) (by omega) hb.size;rw [hrl] at hrun ho4 hblk;have hb':Bl w w':=⟨hg.os.trans hb.os,hg.tape.trans hb.tape,hg.output.trans hb.output,Qj hb.size hg.size,fun k hk=> (hg.block k (Qr hk hb.size) (fun e=>by have:=(zaz ho e.symm).1;omega)).trans (hb.block k hk)⟩;have hw':=(h.bw hb').gone (T.getD 0 empty);have hlen:(T.tail.reverse++(zak L (T.getD 0 empty)).key.val.ia).length=T.length-1+(zak L (T.getD 0 empty)).key.val.ia.length:=by rw [Qi,hrl]
  refine ⟨a4,c4,w',hrun,?_⟩;have ho5:zcx w' w.heap.size (.slice a4 (T.length-1+(zak L (T.getD 0 empty)).key.val.ia.length) c4) (T.tail.reverse++(zak L (T.getD 0 empty)).key.val.ia):=ho4;rw [<-hlen] at ho5 ⊢;refine (zh8 B g b n now aa ab ao ac L T ad w' (T.tail.reverse++(zak L (T.getD 0 empty)).key.val.ia) a4 c4 hw' (hE.bw (hb'.mono h.le)) hn hs (by omega) (zbn ho5 h.le) (fun x hx k hk hxk=>?_) (by rw [hlen];have:=hsm.ni;omega)).mono ?_
  ·have hxo:=(h.vals.own x (zee hx).1).ia;have:=(zaz hxo hxk).2;have:=(zaz ho5 hk).1;omega
  ·rintro e w2 ⟨r,er,w1,rfl,hr,hb1,hl⟩;exact ⟨r,er,rfl,zdj h hd (hr.le hb'.size) ((hb'.mono h.le).trans (hb1.mono (Qj h.le hb'.size))) (Qj hb'.size hb1.size) hl⟩
 have g2:=h.call.c2;obtain rfl:=h.call.args.addr (by omega);have hm1:(1:Int)<=(T.length:Int):=by omega
 have hm2:(1:Int)<(ac:Int):=by omega
 have hm3:(T.length:Int)<=(ac:Int):=by omega
 have hm4:1<ac:=by omega
 have hm5:¬ac=1:=by omega
 clear h hd hE hn hs hH hsm e1 e2 e3 hko hTl xz xl hnl;generalize za1 (L.map KV.key) (zcw L (T.getD 0 empty) (T.tail.reverse++(zak L (T.getD 0 empty)).key.val.ia)) (zam (T.tail.reverse++(zak L (T.getD 0 empty)).key.val.ia).length)=pp at*;generalize L.map KV.key=ks,(zak L (T.getD 0 empty)).key.val.kind=kd,(zak L (T.getD 0 empty)).key.val.text=tx,(zak L (T.getD 0 empty)).key.val.ia.length=il at*;have hf:=fun W=>zh0 (.int .i64 kd) (.string tx) (.slice a1 il k1) (.slice a2 n2 k2) (.slice a3 n3 k3) W;generalize hmm:T.length=m at*;go_enter func191,ntmps191;go_wp2_with fail;refine HCP.out.mono ?_;rintro e w1 ⟨a',c',rfl,o1,b1⟩;have H1:Hid (zcx w1 w.heap.size (.slice a' (m-1) c') T.tail/\Bl w w1):=⟨o1,b1⟩;clear HCP o1 b1;go_wp2_with fail;refine (HRV.out _ _ _ H1.out.1).mono ?_;rintro e w2 ⟨rfl,o2,gr⟩;have hb2:Bl w w2:=⟨gr.os.trans H1.out.2.os,gr.tape.trans H1.out.2.tape,gr.output.trans H1.out.2.output,Qj H1.out.2.size gr.size,fun k hk=> (gr.block k (Qr hk H1.out.2.size) (fun e=>by have:=(zaz H1.out.1 e.symm).1;omega)).trans (H1.out.2.block k hk)⟩;have H2:Hid (zcx w2 w.heap.size (.slice a' (m-1) c') T.tail.reverse/\Bl w w2):=⟨o2,hb2⟩;clear HRV o2 gr hb2 H1 g2;go_wp2_with fail;refine (HH.out _ H2.out.2).mono ?_;rintro e w3 ⟨rfl,b3⟩;have hb3:=H2.out.2.trans (b3.mono H2.out.2.size);obtain ⟨a4,c4,w4,hrun,hcal⟩:=HAP.out w3 a' c' hb3 (zaf H2.out.1 b3);have R1:Hid _:=hrun;have HCA:=hid hcal;clear hrun hcal HAP HH b3 hb3 H2;go_wp2_with (first|(at_builtin;refine wpList_append_run rfl _ _ 25 rfl rfl rfl R1.out ?_));refine HCA.out.mono ?_;rintro e w5 ⟨r,er,rfl,hact⟩;have HF:Hid _:=hact;clear hact HCA R1;go_wp2;go_ret2;exact HF.out
end
theorem zov {i:Nat} (hi:i<X.length):(X.take i++X.drop (i+1)).length=X.length-1:=by
 rw [Qi,Qn,Qu];omega
section
variable (B g b n:Nat) (now:Int) (aa:Option Addr) (ab ao ac:Nat) (L:List KV) (T:List ByteArray) (ad:Nat->Addr) (w:World)
theorem yff (h:zcr w B g b n now aa ab ao ac L L T) (hd:zan (L.map KV.key)=true) (hE:zhj w B ad) (hn:n<=1000) (hs:∀t∈T,t.size<=200) (hT:T.length=1) (i:Nat) (hi:(zak L (T.getD 0 empty)).key.val.ia≠ []->i<(zak L (T.getD 0 empty)).key.val.ia.length) (iv:Int) (hiv:(zak L (T.getD 0 empty)).key.val.ia≠ []->iv=(i:Int)):
  Calls prog 247 #[.pointer (some ⟨g,0,none⟩),.int .i64 iv] w fun e w2=>∃r er,e= .returned (.tuple #[r,er])/\zar w B g b now aa ab ao ac T ad (L.map KV.key) (if (zak L (T.getD 0 empty)).key.val.ia=[] then (L.map KV.key,zbm) else za1 (L.map KV.key) (zcw L (T.getD 0 empty) ((zak L (T.getD 0 empty)).key.val.ia.take i++(zak L (T.getD 0 empty)).key.val.ia.drop (i+1))) (zax ((zak L (T.getD 0 empty)).key.val.ia.getD i empty))) (.returned (.tuple #[r,er])) w2:=by
 have hz0:=zav hs 0;have hsm:=za8 hd (T.getD 0 empty);obtain ⟨a1,n1,k1,a2,n2,k2,a3,n3,k3,e1,e2,e3,hH⟩:=h.held (by omega) hz0;have hko:=(h.keyOwn (T.getD 0 empty)).ia;have hloc:=h.listAt (T.getD 0 empty);obtain ⟨xa,xA,xc,xe,xz,xl,-⟩:=zc0 hko (fun t ht=>by have:=hsm.ia t ht;omega);rw [e1] at xe hko hloc;injection xe with x1 x2 x3;subst x1 x2 x3;have HH:=hid hH;have HN:=hid fun W=>zev W;have HSA:Hid (∀R r w',zbe w' w.heap.size r R->Bl w w'->zar w B g b now aa ab ao ac T ad (L.map KV.key) (L.map KV.key,R) (.returned (.tuple #[r,.nilIface])) w'):=fun R r w' h1 h2=>zbo h ⟨r,rfl,h1,h2⟩;by_cases hem:(zak L (T.getD 0 empty)).key.val.ia=[]
 ·rw [if_pos hem];have hl0:(zak L (T.getD 0 empty)).key.val.ia.length=0:=by rw [hem];rfl
  rw [hl0] at HH;clear h hd hE hn hs hH hsm e1 e2 e3 hko hloc xz xl hi hiv hem;generalize L.map KV.key=ks,(zak L (T.getD 0 empty)).key.val.kind=kd,(zak L (T.getD 0 empty)).key.val.text=tx at*;have hf:=fun W=>zh0 (.int .i64 kd) (.string tx) (.slice a1 0 k1) (.slice a2 n2 k2) (.slice a3 n3 k3) W;go_enter func247,ntmps247;go_wp2_with fail;refine (HH.out _ (Qb _ _)).mono ?_;rintro e w1 ⟨rfl,b1⟩;have HB:=hid b1;clear b1 HH;go_wp2_with fail;refine (HN.out _).mono ?_;rintro e w2 ⟨r,rfl,hr,hb⟩;have HF:Hid _:=HSA.out _ r w2 (hr.le HB.out.size) (HB.out.trans (hb.mono HB.out.size));clear hr hb HN HSA;go_wp2;go_ret2;exact ⟨r,_,rfl,HF.out⟩
 ·rw [if_neg hem];have hil:=hi hem;obtain rfl:=hiv hem;obtain ⟨he,hA⟩:=hE.er 1 (.inl rfl);have HR:=hid fun W s=>zd3 s W;have HD:Hid (∀W,Bl w W->Cp 274 #[.slice a1 (zak L (T.getD 0 empty)).key.val.ia.length k1,.int .i64 i,.int .i64 ((i:Int)+1)] W fun e w'=>e= .returned (.slice a1 ((zak L (T.getD 0 empty)).key.val.ia.length-1) k1)/\zcx w' B (.slice a1 ((zak L (T.getD 0 empty)).key.val.ia.length-1) k1) ((zak L (T.getD 0 empty)).key.val.ia.take i++(zak L (T.getD 0 empty)).key.val.ia.drop (i+1))/\W.grownBy w' (Value.slice a1 (zak L (T.getD 0 empty)).key.val.ia.length k1).ownBlock):=fun W hb=>by have:=yam (zaf hko hb) i hil;rwa [show (((i+1:Nat)):Int)=(i:Int)+1 by omega] at this
  have hlt1:=zov hil;have HX:Hid (∀W w',Bl w W->W.grownBy w' (Value.slice a1 (zak L (T.getD 0 empty)).key.val.ia.length k1).ownBlock->zcx w' B (.slice a1 ((zak L (T.getD 0 empty)).key.val.ia.length-1) k1) ((zak L (T.getD 0 empty)).key.val.ia.take i++(zak L (T.getD 0 empty)).key.val.ia.drop (i+1))->∀r,zbe W w.heap.size r (zax ((zak L (T.getD 0 empty)).key.val.ia.getD i empty))->Cp 244 #[.pointer (some ⟨g,0,none⟩),.iface 232 (.slice a1 ((zak L (T.getD 0 empty)).key.val.ia.length-1) k1)] w' fun e w2=>∃er,e= .returned er/\zar w B g b now aa ab ao ac T ad (L.map KV.key) (za1 (L.map KV.key) (zcw L (T.getD 0 empty) ((zak L (T.getD 0 empty)).key.val.ia.take i++(zak L (T.getD 0 empty)).key.val.ia.drop (i+1))) (zax ((zak L (T.getD 0 empty)).key.val.ia.getD i empty))) (.returned (.tuple #[r,er])) w2):=fun W w' hb hg ho r hr=>by
   obtain ⟨hw',hb'⟩:=(h.bw hb).grown (T.getD 0 empty) hg hloc;have hE':=(hE.bw (hb.mono h.le)).bw hb';obtain ⟨he',hA'⟩:=hE'.er 1 (.inl rfl);rw [<-hlt1] at ho ⊢;refine (zk1 B g b n now aa ab ao ac L T w' a1 k1 _ hw' ho (fun x hx k hk=>?_) (by omega) (by omega) (by rw [hlt1];have:=hsm.ni;omega) hn hE'.rd he' hA').mono ?_
   ·have hk2:(Value.slice a1 (zak L (T.getD 0 empty)).key.val.ia.length k1).ownBlock=some k:=by cases a1 with|none=>cases hk|some p=>exact hk
    exact ((hloc k hk2).2.2.2 x hx).1
   ·intro e w2 hl;have e0:=hl.1;refine ⟨_,e0,?_⟩;rw [e0] at hl;refine zdj h hd ?_ ((hb.mono h.le).trans hb') (Qj hb.size hb'.size) hl;cases hrow:(Value.slice a1 (zak L (T.getD 0 empty)).key.val.ia.length k1).ownBlock with
    |none=>
     rw [hrow] at hg;obtain ⟨M,e,o,kk⟩:=hr;exact ⟨M,e,zai o fun g' hg'=>hg.block g' (zaz o hg').2 (by simp),fun x hx=>zai (kk x hx) fun g' hg'=>hg.block g' (zaz (kk x hx) hg').2 (by simp)⟩
    |some k=>
     rw [hrow] at hg;exact zvs hr hg (zaz hko hrow).2
  have hwr:IntKind.i64.wrap ((i:Int)+1)=(i:Int)+1:=by rw [IntKind.wrap_i64];have:=hsm.ni;omega
  have HC:Hid (∀W,Bl w W->W.cell? ⟨xA,i,none⟩=some (.string ((zak L (T.getD 0 empty)).key.val.ia.getD i empty))):=fun W hb=>by have:=(zdb xz hb).cell i hil;rwa [Qq] at this
  obtain rfl:=xz.addr (by omega);clear h hd hE hn hs hH hsm e1 e2 e3 hko hloc xz xl hi hiv hem he hA HN HSA hlt1;generalize za1 (L.map KV.key) (zcw L (T.getD 0 empty) ((zak L (T.getD 0 empty)).key.val.ia.take i++(zak L (T.getD 0 empty)).key.val.ia.drop (i+1))) (zax ((zak L (T.getD 0 empty)).key.val.ia.getD i empty))=pp at*;generalize (zak L (T.getD 0 empty)).key.val.ia.take i++(zak L (T.getD 0 empty)).key.val.ia.drop (i+1)=X,(zak L (T.getD 0 empty)).key.val.ia.getD i empty=it,L.map KV.key=ks,(zak L (T.getD 0 empty)).key.val.kind=kd,(zak L (T.getD 0 empty)).key.val.text=tx,(zak L (T.getD 0 empty)).key.val.ia.length=il at*;have hf:=fun W=>zh0 (.int .i64 kd) (.string tx) (.slice (some ⟨xA,0,none⟩) il k1) (.slice a2 n2 k2) (.slice a3 n3 k3) W;have hi1:(0:Int)<=(i:Int):=by omega
  have hi2:(i:Int)<(il:Int):=by omega
  have hi3:((il:Int)==0)=false:=beq_eq_false_iff_ne.2 (by omega);go_enter func247,ntmps247;go_wp2_with fail;refine (HH.out _ (Qb _ _)).mono ?_;rintro e w1 ⟨rfl,b1⟩;have HB:=hid b1;have c1:=HC.out w1 b1;clear b1 HH HC;go_wp2_with fail;refine (HR.out _ _).mono ?_;rintro e w2 ⟨r,rfl,hr,hb⟩;have HB2:=hid (HB.out.trans (hb.mono HB.out.size));have HRR:=hid (hr.le HB.out.size);clear hr hb HR;go_wp2_with fail;refine (HD.out _ HB2.out).mono ?_;rintro e w3 ⟨rfl,o3,g3⟩;have HX2:=hid (HX.out w2 w3 HB2.out g3 o3 r HRR.out);clear HD o3 g3 HX HRR;go_wp2_with fail;refine HX2.out.mono ?_;rintro e w4 ⟨er,rfl,hact⟩;have HF:Hid _:=hact;clear hact HX2;go_wp2;go_ret2;exact ⟨r,_,rfl,HF.out⟩
theorem zxl (h:zcr w B g b n now aa ab ao ac L L T) (hd:zan (L.map KV.key)=true) (hE:zhj w B ad) (hn:n<=1000) (hs:∀t∈T,t.size<=200) (hT:T.length=1):
  Calls prog 193 #[.pointer (some ⟨g,0,none⟩)] w (zar w B g b now aa ab ao ac T ad (L.map KV.key) (if (zak L (T.getD 0 empty)).key.val.ia=[] then (L.map KV.key,zbm) else za1 (L.map KV.key) (zcw L (T.getD 0 empty) ((zak L (T.getD 0 empty)).key.val.ia.take 0++(zak L (T.getD 0 empty)).key.val.ia.drop (0+1))) (zax ((zak L (T.getD 0 empty)).key.val.ia.getD 0 empty)))):=by
 have HP:=hid (yff B g b n now aa ab ao ac L T ad w h hd hE hn hs hT 0 (fun h=>List.length_pos_iff.2 h) 0 (fun _=>rfl));clear h hd hE hn hs;generalize (if (zak L (T.getD 0 empty)).key.val.ia=[] then (L.map KV.key,zbm) else za1 (L.map KV.key) (zcw L (T.getD 0 empty) ((zak L (T.getD 0 empty)).key.val.ia.take 0++(zak L (T.getD 0 empty)).key.val.ia.drop (0+1))) (zax ((zak L (T.getD 0 empty)).key.val.ia.getD 0 empty)))=pp at*;generalize L.map KV.key=ks at*;go_enter func193,ntmps193;go_wp2_with fail;refine HP.out.mono ?_;rintro e w1 ⟨r,er,rfl,hact⟩;have HF:Hid _:=hact;clear hact HP;go_wp2;go_ret2;exact HF.out
theorem zv4 (h:zcr w B g b n now aa ab ao ac L L T) (hd:zan (L.map KV.key)=true) (hE:zhj w B ad) (hn:n<=1000) (hs:∀t∈T,t.size<=200) (hT:T.length=1):
  Calls prog 194 #[.pointer (some ⟨g,0,none⟩)] w (zar w B g b now aa ab ao ac T ad (L.map KV.key) (if (zak L (T.getD 0 empty)).key.val.ia=[] then (L.map KV.key,zbm) else za1 (L.map KV.key) (zcw L (T.getD 0 empty) ((zak L (T.getD 0 empty)).key.val.ia.take ((zak L (T.getD 0 empty)).key.val.ia.length-1)++(zak L (T.getD 0 empty)).key.val.ia.drop (((zak L (T.getD 0 empty)).key.val.ia.length-1)+1))) (zax ((zak L (T.getD 0 empty)).key.val.ia.getD ((zak L (T.getD 0 empty)).key.val.ia.length-1) empty)))):=by
 have hz0:=zav hs 0;have hsm:=za8 hd (T.getD 0 empty);obtain ⟨a1,n1,k1,a2,n2,k2,a3,n3,k3,e1,e2,e3,hH⟩:=h.held (by omega) hz0;have hko:=(h.keyOwn (T.getD 0 empty)).ia;rw [e1] at hko;obtain ⟨xa,xc,xe⟩:=zad hko;injection xe with x1 x2 x3;subst x1 x2 x3;have HH:=hid hH;have HP:Hid (∀W,Bl w W->Cp 247 #[.pointer (some ⟨g,0,none⟩),.int .i64 (((zak L (T.getD 0 empty)).key.val.ia.length:Int)-1)] W fun e w2=>∃r er,e= .returned (.tuple #[r,er])/\zar w B g b now aa ab ao ac T ad (L.map KV.key) (if (zak L (T.getD 0 empty)).key.val.ia=[] then (L.map KV.key,zbm) else za1 (L.map KV.key) (zcw L (T.getD 0 empty) ((zak L (T.getD 0 empty)).key.val.ia.take ((zak L (T.getD 0 empty)).key.val.ia.length-1)++(zak L (T.getD 0 empty)).key.val.ia.drop (((zak L (T.getD 0 empty)).key.val.ia.length-1)+1))) (zax ((zak L (T.getD 0 empty)).key.val.ia.getD ((zak L (T.getD 0 empty)).key.val.ia.length-1) empty))) (.returned (.tuple #[r,er])) w2):=fun W hb=>by
  refine (yff B g b n now aa ab ao ac L T ad W (h.bw hb) hd (hE.bw (hb.mono h.le)) hn hs hT ((zak L (T.getD 0 empty)).key.val.ia.length-1) (fun h=>by have:=List.length_pos_iff.2 h;omega) (((zak L (T.getD 0 empty)).key.val.ia.length:Int)-1) (fun h=>by have:=List.length_pos_iff.2 h;omega)).mono ?_;rintro e w2 ⟨r,er,rfl,r',er',e2,hbb,hh⟩;refine ⟨r,er,rfl,r',er',e2,(hb.mono h.le).trans hbb,?_⟩;rcases hh with ⟨q1,q2,q3⟩|hh
  ·exact .inl ⟨q1,q2.le hb.size,q3⟩
  ·exact .inr hh
 have hwr:IntKind.i64.wrap (((zak L (T.getD 0 empty)).key.val.ia.length:Int)-1)=((zak L (T.getD 0 empty)).key.val.ia.length:Int)-1:=by rw [IntKind.wrap_i64];have:=hsm.ni;omega
 clear h hd hE hn hs hH hsm e1 e2 e3 hko;generalize (if (zak L (T.getD 0 empty)).key.val.ia=[] then (L.map KV.key,zbm) else za1 (L.map KV.key) (zcw L (T.getD 0 empty) ((zak L (T.getD 0 empty)).key.val.ia.take ((zak L (T.getD 0 empty)).key.val.ia.length-1)++(zak L (T.getD 0 empty)).key.val.ia.drop (((zak L (T.getD 0 empty)).key.val.ia.length-1)+1))) (zax ((zak L (T.getD 0 empty)).key.val.ia.getD ((zak L (T.getD 0 empty)).key.val.ia.length-1) empty)))=pp at*;generalize L.map KV.key=ks,(zak L (T.getD 0 empty)).key.val.kind=kd,(zak L (T.getD 0 empty)).key.val.text=tx,(zak L (T.getD 0 empty)).key.val.ia.length=il at*;have hf:=fun W=>zh0 (.int .i64 kd) (.string tx) (.slice a1 il k1) (.slice a2 n2 k2) (.slice a3 n3 k3) W;go_enter func194,ntmps194;go_wp2_with fail;refine (HH.out _ (Qb _ _)).mono ?_;rintro e w1 ⟨rfl,b1⟩;have HP2:=hid (HP.out w1 b1);clear b1 HH HP;go_wp2_with fail;refine HP2.out.mono ?_;rintro e w2 ⟨r,er,rfl,hact⟩;have HF:Hid _:=hact;clear hact HP2;go_wp2;go_ret2;exact HF.out
end
end Go.Proofs.YtokafonppgppdaaGreatDoor.Rb
