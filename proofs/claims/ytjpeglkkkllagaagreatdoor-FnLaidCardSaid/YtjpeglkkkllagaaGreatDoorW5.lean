import Derived.Test.YtjpeglkkkllagaaGreatDoorWa
import Derived.Deep.RegionHeldLaw
set_option maxHeartbeats 8000000
set_option maxRecDepth 100000
namespace Go.Proofs.YtjpeglkkkllagaaGreatDoor
open Go.RowKit Go.Sort
open Kk (Rk rk0 texL texR decS zea zeb zec OwnR flatR encR)
theorem flatP_short {ps:List Pr} (h:∀p∈ps,p.1.size≤200∧p.2.size≤200):∀t∈flatP ps,t.size≤200:=by
 intro t ht;obtain ⟨p,hp,h2⟩:=List.mem_flatMap.1 ht;have:=h p hp;simp at h2;rcases h2 with rfl|rfl
 ·exact this.1
 ·exact this.2
theorem decS_short {s:Int} (h0:-1000000000000000000≤s) (h1:s≤1000000000000000000):(decS s).size≤200:=by
 have:=Kk.decS_len (s:=s) ⟨by omega,by omega⟩;omega
theorem texL_short {rs:List Rk} (h:∀r∈rs,r.m.size≤200∧-1000000000000000000≤r.s∧r.s≤1000000000000000000):∀t∈texL rs,t.size≤200:=by
 intro t ht;obtain ⟨r,hr,h2⟩:=List.mem_flatMap.1 ht;have:=h r hr;unfold texR at h2;simp at h2;rcases h2 with rfl|rfl
 ·exact this.1
 ·exact decS_short this.2.1 this.2.2
theorem take_mem {α:Type} {l:List α} {n:Nat} {P:α→Prop} (h:∀x∈l,P x):∀x∈l.take n,P x:=fun x hx=>h x (List.mem_of_mem_take hx)
theorem acc_size {H:List UInt8} {a b c:List ByteArray} {acc:ByteArray} (he:acc=⟨(H++(encT a++(encT b++encT c))).toArray⟩) (hH:H.length=1) (ha:∀t∈a,t.size≤200) (hb:∀t∈b,t.size≤200) (hc:∀t∈c,t.size≤200) (na:a.length≤20) (nb:b.length≤40) (nc:c.length≤40):acc.size≤20300:=by
 rw [he,size_mk,List.length_append,List.length_append,List.length_append];have h1:=encT_len a ha;have h2:=encT_len b hb;have h3:=encT_len c hc;omega
theorem getD_mem {α:Type} (l:List α) (d:α) (i:Nat) (h:i<l.length):l.getD i d∈l:=by
 rw [List.getD_eq_getElem?_getD,List.getElem?_eq_getElem h];exact List.getElem_mem h
theorem specBytes_list (v:Vl) (vi vp vr:Value) (B:Nat) (w:World) (h:VOwn w B v vi vp vr) (hf:VFit v) (hok:vokB v=true) (hk:v.kind≠1):
  Calls Tryz.prog 25 #[vlV v.kind v.text vi vp vr] w fun e w'=>e= .returned (.string ⟨(zdj v).toArray⟩)∧Below w.heap.size w w':=by
 have hsm:=small_of_ok hok;have HE:Hid (zdj v=[UInt8.ofNat (48+v.kind.toNat)]++(encT v.items++(encT (flatP v.pairs)++encT (texL v.ranks)))):=by
  unfold Hid zdj vtexts;rw [hok,if_pos rfl,if_neg hk,encT_app,encT_app];rfl
 have hb:∀o,Below w.heap.size w (w.alloc o):=fun o=> (Below.refl _ w).alloc (Nat.le_refl _) _;have HO:Hid (∀o,Calls Tryz.prog 44 #[vlV v.kind v.text vi vp vr] (w.alloc o) fun e w'=>e= .returned (.bool true)∧Below (w.alloc o).heap.size (w.alloc o) w'):=fun o=>by
  have:=specOk_any v vi vp vr B (w.alloc o) (h.below (hb o)) hf;rw [hok] at this;exact this
 have HV:Hid (VOwn w B v vi vp vr):=h;obtain ⟨k,t,is,ps,rs⟩:=v;obtain ⟨⟨s1,s2⟩,s3,s4,s5,s6,s7,s8,s9⟩:=hsm;dsimp only at s1 s2 s3 s4 s5 s6 s7 s8 s9 hk HE HO;obtain ⟨ai,A1,ci,hvi,hA1,_,_,hC1⟩:=ownS_cells h.items;obtain ⟨ap,A2,cp,hvp,hP⟩:=ownP_in h.pairs;obtain ⟨ar,A3,cr,hvr,hR⟩:=Kk.ownR_any h.ranks;dsimp only at hvi hvp hvr hA1 hC1 hP hR;have HB:Hid (∀o,Below w.heap.size w (w.alloc o)):=hb;obtain ⟨R,hRR⟩:∃R,zdj ⟨k,t,is,ps,rs⟩=R:=⟨_,rfl⟩;rw [hRR] at HE;show Calls Tryz.prog 25 #[vlV k t vi vp vr] w _;rw [hRR];have H6:Hid (∀x∈is,x.size≤200):=s7;have H7:Hid (∀p∈ps,p.1.size≤200∧p.2.size≤200):=s8;have H8:Hid (∀r∈rs,r.m.size≤200∧-1000000000000000000≤r.s∧r.s≤1000000000000000000):=s9;have HA1:Hid (0<is.length→ai=some ⟨A1,0,none⟩∧A1<w.heap.size):=fun hp=>⟨(hA1 hp).1,(hA1 hp).2.2⟩;have HC1:Hid (∀i,i<is.length→w.cell? ⟨A1,i,none⟩=some (.string (is.getD i ByteArray.empty))):=hC1;have HP:Hid (PairsIn w ap A2 ps.length ps):=hP;have HR:Hid (Kk.zdh w ar A3 0 rs.length rs):=hR;clear h hb hok hf hRR hA1 hC1 hP hR s7 s8 s9 HV;obtain ⟨ni,hni⟩:∃n,is.length=n:=⟨_,rfl⟩;obtain ⟨np,hnp⟩:∃n,ps.length=n:=⟨_,rfl⟩;obtain ⟨nr,hnr⟩:∃n,rs.length=n:=⟨_,rfl⟩;rw [hni] at hvi HA1 HC1 s4;rw [hnp] at hvp HP s5;rw [hnr] at hvr HR s6;have HNI:Hid (is.length=ni):=hni;have HNP:Hid (ps.length=np):=hnp;have HNR:Hid (rs.length=nr):=hnr;clear hni hnp hnr;subst hvi hvp hvr;have bk1:(k==1)=false:=by simpa using hk
 have HZ:Hid (RowAt (w.alloc (.cells (vC k t (.slice ai ni ci) (.slice ap np cp) (.slice ar nr cr)) 63)) w.heap.size 63 (vC k t (.slice ai ni ci) (.slice ap np cp) (.slice ar nr cr))):=RowAt.new w 63 _;have hw48:IntKind.i64.wrap (48+k)=48+k:=Kk.wrap_small (by omega) (by omega);clear hk;go_enter Tryz.func25,Tryz.ntmps25;go_wp2_with fail;refine (HO.out _).mono ?_;rintro e w1 ⟨rfl,b1⟩;have b2:Hid (Below w.heap.size w w1):=(HB.out _).trans (b1.mono (by simp));have hz:RowAt w1 w.heap.size 63 (vC k t (.slice ai ni ci) (.slice ap np cp) (.slice ar nr cr)):=RowAt.below HZ.out b1 (by simp);have hlt:=hz.lt;have hcv:=conv_one w1 (48+k) (by omega) (by omega);have b3:Below w1.heap.size w1 (w1.alloc (.cells #[.int .u8 (48+k)] 5)):=(Below.refl _ w1).alloc (Nat.le_refl _) _;obtain ⟨c0,c1,c2,c3,c4⟩:=row5 hz;have HZ1:Hid (RowAt w1 w.heap.size 63 (vC k t (.slice ai ni ci) (.slice ap np cp) (.slice ar nr cr))):=hz;obtain ⟨d0,d1,d2,d3,d4⟩:=row5 (RowAt.below hz b3 hlt);have hkt:(48+k).toNat=48+k.toNat:=by omega
 rw [hkt] at hcv;obtain ⟨Hd,hHd⟩:∃Hd,[UInt8.ofNat (48+k.toNat)]=Hd:=⟨_,rfl⟩;have HHL:Hid (Hd.length=1):=by unfold Hid;rw [←hHd];rfl
 rw [hHd] at hcv HE;have A0:Hid ((⟨Hd.toArray⟩:ByteArray)=⟨(Hd++(encT (is.take 0)++(encT []++encT []))).toArray⟩):=by unfold Hid;simp [encT]
 generalize (⟨Hd.toArray⟩:ByteArray)=D at*;clear b1 HZ HB hz hHd hkt;go_wp2_with fail;go_loopw [3,4] (fun s i wr=>∃(j:Nat) (acc:ByteArray),j≤ni∧i= .int .i64 j∧s= .string acc∧acc=⟨(Hd++(encT (is.take j)++(encT []++encT []))).toArray⟩∧Below w1.heap.size w1 wr) (fun _ i _=>ni-(intOf i).toNat)
 case atStart=>exact ⟨0,D,by omega,rfl,rfl,A0.out,b3⟩
 case round=>
  obtain ⟨j,acc,hj,rfl,rfl,hacc,bk⟩:=hrel;have HAC:Hid (acc=⟨(Hd++(encT (is.take j)++(encT []++encT []))).toArray⟩):=hacc;have hasz:=acc_size hacc HHL.out (take_mem H6.out) (by simp) (by simp) (by rw [List.length_take];omega) (by simp) (by simp);obtain ⟨e0,e1,e2,e3,e4⟩:=row5 (RowAt.below HZ1.out bk hlt);have sk:=bk.size;clear c0 c1 c2 c3 c4 d0 d1 d2 d3 d4 A0 hcv b3 hacc;by_cases hjn:j<ni
  ·obtain ⟨rfl,hAlt⟩:=HA1.out (by omega);have ci0:=(bk.cell (p:=⟨A1,j,none⟩) (show A1<w1.heap.size by omega)).trans ((b2.out.cell (p:=⟨A1,j,none⟩) hAlt).trans (HC1.out j hjn));have HN:Hid (encT (is.take (j+1))=encT (is.take j)++oneT (is.getD j ByteArray.empty)):=encT_take is j (by rw [HNI.out];exact hjn);have hxs:=H6.out (is.getD j ByteArray.empty) (getD_mem is _ j (by rw [HNI.out];exact hjn));generalize is.getD j ByteArray.empty=x at*;have hts:=twoS_size x;have HT:Hid (∀W,Calls Tryz.prog 47 #[.string x] W fun e w'=>e= .returned (.string (twoS x))∧Below W.heap.size W w'):=fun W=>l4TwoS x W hxs;have hd:¬9223372036854775807<acc.size+(twoS x).size:=by omega
   have hji:(j:Int)<(ni:Int):=by omega
   have HA2:Hid (acc++twoS x=⟨(Hd++(encT (is.take (j+1))++(encT []++encT []))).toArray⟩):=by
    unfold Hid twoS;rw [HAC.out,HN.out,str_app];simp [encT]
   clear HAC HN;go_wp2_with fail;refine (HT.out _).mono ?_;rintro e w2 ⟨rfl,b4⟩;have b5:=bk.trans (b4.mono sk);clear b4 bk;go_wp2;go_roundw
   case rel=>exact ⟨j+1,_,by omega,by go_num,rfl,HA2.out,b5⟩
   case measure=>simp [intOf];omega
  ·obtain rfl:j=ni:=by omega
   have hji:¬(j:Int)<(j:Int):=by omega
   have B0:Hid (acc=⟨(Hd++(encT is++(encT (flatP (ps.take 0))++encT []))).toArray⟩):=by
    unfold Hid;rw [HAC.out,←HNI.out,List.take_length];simp [flatP]
   clear HAC HC1 HA1;have BK1:Hid (Below w1.heap.size w1 wr):=bk;clear bk;go_wp2_with fail;go_loopw [3,5] (fun s i wr=>∃(j:Nat) (acc:ByteArray),j≤np∧i= .int .i64 j∧s= .string acc∧acc=⟨(Hd++(encT is++(encT (flatP (ps.take j))++encT []))).toArray⟩∧Below w1.heap.size w1 wr) (fun _ i _=>np-(intOf i).toNat)
   case atStart=>exact ⟨0,acc,by omega,rfl,rfl,B0.out,BK1.out⟩
   case round=>
    obtain ⟨j2,acc2,hj2,rfl,rfl,hacc2,bk2⟩:=hrel;have HAC:Hid (acc2=⟨(Hd++(encT is++(encT (flatP (ps.take j2))++encT []))).toArray⟩):=hacc2;have hasz2:=acc_size hacc2 HHL.out H6.out (flatP_short (take_mem H7.out)) (by simp) (by rw [HNI.out];omega) (by rw [flatP_len,List.length_take];omega) (by simp);have hz2:=RowAt.below HZ1.out bk2 hlt;have sk2:=bk2.size;clear e0 e1 e2 e3 e4 B0 hacc2 BK1 hasz hji sk;obtain ⟨e0,e1,e2,e3,e4⟩:=row5 hz2;by_cases hjn:j2<np
    ·obtain rfl:=HP.out.addr (by omega);have hlow:=HP.out.low (by omega);have p0:=(b2.out.cell (p:=⟨A2,j2*2,none⟩) hlow).trans (HP.out.c0 j2 hjn);have p1:=(b2.out.cell (p:=⟨A2,j2*2+1,none⟩) hlow).trans (HP.out.c1 j2 hjn);have HN:Hid (flatP (ps.take (j2+1))=flatP (ps.take j2)++ [(ps.getD j2 (bz,bz)).1,(ps.getD j2 (bz,bz)).2]):=flatP_next ps j2 (by rw [HNP.out];exact hjn);have hxs:=H7.out (ps.getD j2 (bz,bz)) (getD_mem ps _ j2 (by rw [HNP.out];exact hjn));generalize ps.getD j2 (bz,bz)=y at*;obtain ⟨x,z⟩:=y;obtain ⟨hx1,hx2⟩:=hxs;dsimp only at p0 p1 hx1 hx2;have ht1:=twoS_size x;have ht2:=twoS_size z;have HT1:Hid (∀W,Calls Tryz.prog 47 #[.string x] W fun e w'=>e= .returned (.string (twoS x))∧Below W.heap.size W w'):=fun W=>l4TwoS x W hx1;have HT2:Hid (∀W,Calls Tryz.prog 47 #[.string z] W fun e w'=>e= .returned (.string (twoS z))∧Below W.heap.size W w'):=fun W=>l4TwoS z W hx2;have hd1:¬9223372036854775807<acc2.size+(twoS x).size:=by omega
     have hd2:¬9223372036854775807<acc2.size+(twoS x).size+(twoS z).size:=by omega
     have hji:(j2:Int)<(np:Int):=by omega
     have hj0:(0:Int)≤(j2:Int):=by omega
     have HA2:Hid (acc2++twoS x++twoS z=⟨(Hd++(encT is++(encT (flatP (ps.take (j2+1)))++encT []))).toArray⟩):=by
      unfold Hid twoS;rw [HAC.out,HN.out,str_app,str_app];simp [encT]
     have hA2lt:A2<w1.heap.size:=by have:=b2.out.size;omega
     have kp:∀{W:World},Below w1.heap.size w1 W→(W.cell? ⟨w.heap.size,3,none⟩=some (.slice (some ⟨A2,0,none⟩) np cp)∧W.cell? ⟨A2,j2*2,none⟩=some (.string x)∧W.cell? ⟨A2,j2*2+1,none⟩=some (.string z)):=fun b=>⟨(row5 (RowAt.below HZ1.out b hlt)).2.2.2.1,(b.cell (p:=⟨A2,j2*2,none⟩) hA2lt).trans p0,(b.cell (p:=⟨A2,j2*2+1,none⟩) hA2lt).trans p1⟩;have bx:Below w1.heap.size w1 wr.drew:=below_drewN bk2 1;clear HAC HN hz2;go_upto_region 13 with fail;go_region_held_law (fun W=>W.cell? ⟨w.heap.size,3,none⟩=some (.slice (some ⟨A2,0,none⟩) np cp)∧W.cell? ⟨A2,j2*2,none⟩=some (.string x)∧W.cell? ⟨A2,j2*2+1,none⟩=some (.string z))
      (exact kp bx)
      (first
       |(go_at_call_of 47 (Value.string x);refine (HT1.out _).mono ?_;rintro e wx ⟨rfl,b1⟩;have bx:=bx.trans (b1.mono bx.size);clear b1)
       |(go_at_call_of 47 (Value.string z);refine (HT2.out _).mono ?_;rintro e wx ⟨rfl,b1⟩;have bx:=bx.trans (b1.mono bx.size);clear b1))
     all_goals
      go_wp2;go_roundw
      case rel=>exact ⟨j2+1,_,by omega,by go_num,rfl,HA2.out,bx⟩
      case measure=>simp [intOf];omega
    ·obtain rfl:j2=np:=by omega
     have C0:Hid (acc2=⟨(Hd++(encT is++(encT (flatP ps)++encT (texL (rs.take 0))))).toArray⟩):=by
      unfold Hid;rw [HAC.out,←HNP.out,List.take_length];simp [texL]
     have hji:¬(j2:Int)<(j2:Int):=by omega
     have BK2:Hid (Below w1.heap.size w1 wr):=bk2;clear HAC bk2 hz2 HP;go_wp2_with fail;go_loopw [3,6] (fun s i wr=>∃(j:Nat) (acc:ByteArray),j≤nr∧i= .int .i64 j∧s= .string acc∧acc=⟨(Hd++(encT is++(encT (flatP ps)++encT (texL (rs.take j))))).toArray⟩∧Below w1.heap.size w1 wr) (fun _ i _=>nr-(intOf i).toNat)
     case atStart=>exact ⟨0,acc2,by omega,rfl,rfl,C0.out,BK2.out⟩
     case round=>
      obtain ⟨j3,acc3,hj3,rfl,rfl,hacc3,bk3⟩:=hrel;have HAC:Hid (acc3=⟨(Hd++(encT is++(encT (flatP ps)++encT (texL (rs.take j3))))).toArray⟩):=hacc3;have hasz3:=acc_size hacc3 HHL.out H6.out (flatP_short H7.out) (texL_short (take_mem H8.out)) (by rw [HNI.out];omega) (by rw [flatP_len,HNP.out];omega) (by rw [Kk.texL_len,List.length_take];omega);have hz3:=RowAt.below HZ1.out bk3 hlt;have sk3:=bk3.size;clear e0 e1 e2 e3 e4 C0 hacc3 BK2 hasz2 hji sk2;obtain ⟨e0,e1,e2,e3,e4⟩:=row5 hz3;by_cases hjn:j3<nr
      ·obtain rfl:=HR.out.addr (by omega);have hlow:=HR.out.low (by omega);have hcell:=HR.out.cell j3 hjn;have p0':=hcell.c0;have p1':=hcell.c1;rw [Nat.zero_add] at p0' p1';have p0:=(b2.out.cell (p:=⟨A3,j3*2,none⟩) hlow).trans p0';have p1:=(b2.out.cell (p:=⟨A3,j3*2+1,none⟩) hlow).trans p1';have HN:Hid (texL (rs.take (j3+1))=texL (rs.take j3)++texR (rs.getD j3 rk0)):=Kk.texL_next rs j3 (by rw [HNR.out];exact hjn);have hxs:=H8.out (rs.getD j3 rk0) (getD_mem rs _ j3 (by rw [HNR.out];exact hjn));clear hcell p0' p1';generalize rs.getD j3 rk0=y at*;obtain ⟨x,z⟩:=y;obtain ⟨hx1,hx2,hx3⟩:=hxs;dsimp only at p0 p1 hx1 hx2 hx3;have hdz:=decS_short hx2 hx3;have ht1:=twoS_size x;have ht2:=twoS_size (decS z);have HT1:Hid (∀W,Calls Tryz.prog 47 #[.string x] W fun e w'=>e= .returned (.string (twoS x))∧Below W.heap.size W w'):=fun W=>l4TwoS x W hx1;have HT2:Hid (∀W,Calls Tryz.prog 47 #[.string (decS z)] W fun e w'=>e= .returned (.string (twoS (decS z)))∧Below W.heap.size W w'):=fun W=>l4TwoS (decS z) W hdz;have HT3:Hid (∀W,Calls Tryz.prog 48 #[.int .i64 z] W fun e w'=>e= .returned (.string (decS z))∧Below W.heap.size W w'):=fun W=>dec_int z W hx2 hx3;have HN2:Hid (texL (rs.take (j3+1))=texL (rs.take j3)++ [x,decS z]):=HN.out;have HA2:Hid (acc3++twoS x++twoS (decS z)=⟨(Hd++(encT is++(encT (flatP ps)++encT (texL (rs.take (j3+1)))))).toArray⟩):=by
        unfold Hid twoS;rw [HAC.out,HN2.out,str_app,str_app];simp [encT]
       generalize decS z=dz at*;have hd1:¬9223372036854775807<acc3.size+(twoS x).size:=by omega
       have hd2:¬9223372036854775807<acc3.size+(twoS x).size+(twoS dz).size:=by omega
       have hji:(j3:Int)<(nr:Int):=by omega
       have hj0:(0:Int)≤(j3:Int):=by omega
       have hA3lt:A3<w1.heap.size:=by have:=b2.out.size;omega
       have kp:∀{W:World},Below w1.heap.size w1 W→(W.cell? ⟨w.heap.size,4,none⟩=some (.slice (some ⟨A3,0,none⟩) nr cr)∧W.cell? ⟨A3,j3*2,none⟩=some (.string x)∧W.cell? ⟨A3,j3*2+1,none⟩=some (.int .i64 z)):=fun b=>⟨(row5 (RowAt.below HZ1.out b hlt)).2.2.2.2,(b.cell (p:=⟨A3,j3*2,none⟩) hA3lt).trans p0,(b.cell (p:=⟨A3,j3*2+1,none⟩) hA3lt).trans p1⟩;have bx:Below w1.heap.size w1 wr.drew:=below_drewN bk3 1;clear HAC HN hz3 HN2;go_upto_region 17 with fail;go_region_held_law (fun W=>W.cell? ⟨w.heap.size,4,none⟩=some (.slice (some ⟨A3,0,none⟩) nr cr)∧W.cell? ⟨A3,j3*2,none⟩=some (.string x)∧W.cell? ⟨A3,j3*2+1,none⟩=some (.int .i64 z))
        (exact kp bx)
        (first
         |(go_at_call_of 47 (Value.string x);refine (HT1.out _).mono ?_;rintro e wx ⟨rfl,b1⟩;have bx:=bx.trans (b1.mono bx.size);clear b1)
         |(go_at_call_of 47 (Value.string dz);refine (HT2.out _).mono ?_;rintro e wx ⟨rfl,b1⟩;have bx:=bx.trans (b1.mono bx.size);clear b1)
         |(go_at_call 48;refine (HT3.out _).mono ?_;rintro e wx ⟨rfl,b1⟩;have bx:=bx.trans (b1.mono bx.size);clear b1))
       all_goals
        go_wp2;go_roundw
        case rel=>exact ⟨j3+1,_,by omega,by go_num,rfl,HA2.out,bx⟩
        case measure=>simp [intOf];omega
      ·obtain rfl:j3=nr:=by omega
       have hji:¬(j3:Int)<(j3:Int):=by omega
       have HF:Hid (acc3=⟨R.toArray⟩):=by
        unfold Hid;rw [HAC.out,HE.out,←HNR.out,List.take_length]
       have b9:Below w.heap.size w wr:=b2.out.trans (bk3.mono b2.out.size);clear HAC hz3 bk3;go_wp2;go_ret;exact ⟨ret_str HF.out,b9⟩
theorem specBytes_any (v:Vl) (vi vp vr:Value) (B:Nat) (w:World) (h:VOwn w B v vi vp vr) (hf:VFit v):
  Calls Tryz.prog 25 #[vlV v.kind v.text vi vp vr] w fun e w'=>e= .returned (.string ⟨(zdj v).toArray⟩)∧Below w.heap.size w w':=by
 cases hok:vokB v with
 |false=>exact specBytes_no v vi vp vr B w h hf hok
 |true=>
  by_cases hk:v.kind=1
  ·exact specBytes_text v vi vp vr B w h hf hok hk
  ·exact specBytes_list v vi vp vr B w h hf hok hk
end Go.Proofs.YtjpeglkkkllagaaGreatDoor
