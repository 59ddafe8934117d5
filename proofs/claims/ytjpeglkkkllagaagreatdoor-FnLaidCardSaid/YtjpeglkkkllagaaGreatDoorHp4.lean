import Derived.Test.YtjpeglkkkllagaaGreatDoorHOpenC
set_option maxHeartbeats 40000000
set_option maxRecDepth 100000
namespace Go.Proofs.YtjpeglkkkllagaaGreatDoor.Hp
open Go.RowKit Go.Sort
theorem spec_facts {n:Nat} {x:Cl} (h:zce n x=true):0≤x.pos∧0≤x.len∧x.pos+x.len≤n∧x.pos≤3000∧x.len≤3000:=by
 unfold zce at h;cases hl:x.live<;>rw [hl] at h<;>simp at h<;>omega
theorem map_step (f:Nat→Cl) (S:List Nat) (m:Nat) (h:m<S.length):(S.map f).drop m=f (S.getD m 0)::(S.map f).drop (m+1):=by
 rw [List.drop_eq_getElem_cons (by simpa using h),List.getElem_map,List.getD_eq_getElem?_getD,List.getElem?_eq_getElem h];rfl
theorem byte_at (s:ByteArray) (j:Nat) (h:j<s.size):byteAt s j=s[j]:=by
 unfold byteAt;rw [List.getD_eq_getElem?_getD,List.getElem?_eq_getElem (by simpa using h)];rfl
theorem specOk_any (s:ByteArray) (a:Option Addr) (b off n c:Nat) (L:List Cl) (w:World) (h:CellsIn w a b off n L) (hs:s.size≤1048576) (hn:n≤1048576) (hf:∀i,i<n→Fit (L.getD i cl0)):
  Calls Tryz.prog 45 #[.agg #[.string s,.slice a n c]] w fun e w'=>e= .returned (.bool (heapB s L))∧Below w.heap.size w w':=by
 have hl:=h.len;have hb0:Below w.heap.size w (w.alloc (.cells #[.string s,.slice a n c] 29)):=(Below.refl _ w).alloc (Nat.le_refl _) _;have hr0:=RowAt.new w 29 #[.string s,.slice a n c];by_cases hsz:s.size≤3000
 ·by_cases hn40:n≤40
  ·have hl40:L.length≤40:=by omega
   have HL:Hid (L.length=n):=hl;clear hl;go_enter Tryz.func45,Tryz.ntmps45;go_wp2;generalize w.alloc (.cells #[.string s,.slice a n c] 29)=w1 at*;go_loopw [3,4] (fun i _ wr=>∃(k:Nat),k≤n∧i= .int .i64 k∧RowAt wr w.heap.size 29 #[.string s,.slice a n c]∧Below w.heap.size w wr∧Hid (AllTo s L k)) (fun i _ _=>n-(intOf i).toNat)
   case atStart=>exact ⟨0,by omega,rfl,hr0,hb0,fun i hi=>by omega⟩
   case round=>
    obtain ⟨k,hk,rfl,hr,bk,hall⟩:=hrel;have e0:=hr.cell 0;have e1:=hr.cell 1;simp at e0 e1;by_cases hlt:k<n
    ·obtain rfl:=h.addr (by omega);have hlow:=h.low (by omega);have hx:=cl_below (h.cell k hlt) hlow bk;have hfit:=hf k hlt;have hkl:k<L.length:=by rw [HL.out];exact hlt
     have hspec:∀b,zce s.size (L.getD k cl0)=b→Hid (zce s.size (L.getD k cl0)=b):=fun _ h=>h;cases hX:L.getD k cl0 with
     |mk xp xl xg xv=>
     rw [hX] at hx hfit;have HX:Hid (L.getD k cl0=⟨xp,xl,xg,xv⟩):=hX;clear hX hspec;have hsz4:w.heap.size<wr.heap.size:=hr.lt;have hr7:RowAt (wr.alloc (.cells (clV ⟨xp,xl,xg,xv⟩) 84)) w.heap.size 29 #[.string s,.slice (some ⟨b,off,none⟩) n c]:=hr.below ((Below.refl wr.heap.size wr).alloc (Nat.le_refl _) _) hsz4;have bw:Below w.heap.size w (wr.alloc (.cells (clV ⟨xp,xl,xg,xv⟩) 84)):=bk.alloc (by omega) _;have d0:=hx.c0;have d1:=hx.c1;have d2:=hx.c2;have d3:=hx.c3;simp only at d0 d1 d2 d3;clear hx;have e0':Hid (RowAt wr w.heap.size 29 #[.string s,.slice (some ⟨b,off,none⟩) n c]):=hr;obtain ⟨f1,f2,f3⟩:=hfit;simp only at f1 f2 f3;by_cases hg:1≤xg∧xg≤1000000000
     ·by_cases hp:0≤xp∧xp≤3000
      ·by_cases hle:0≤xl∧xl≤3000
       ·cases xv with
        |true=>
         by_cases hz:xl=0
         ·subst hz;have HF:Hid (heapB s L=false):=spec_no hsz hl40 hkl (by rw [HX.out];unfold zce;first|(simp;done)|(simp;omega));go_wp2_with fail;refine (in_yes _ 1 1000000000 _ hg).mono ?_;rintro _ _ ⟨rfl,rfl⟩;go_wp2_with fail;refine (in_yes _ 0 3000 _ hp).mono ?_;rintro _ _ ⟨rfl,rfl⟩;go_wp2_with fail;refine (in_yes _ 0 3000 _ hle).mono ?_;rintro _ _ ⟨rfl,rfl⟩;go_wp2;go_ret;exact ⟨zae HF.out.symm,bw⟩
         ·by_cases hb:(s.size:Int)<xp+xl
          ·have HF:Hid (heapB s L=false):=spec_no hsz hl40 hkl (by rw [HX.out];unfold zce;first|(simp;done)|(simp;omega));go_wp2_with fail;refine (in_yes _ 1 1000000000 _ hg).mono ?_;rintro _ _ ⟨rfl,rfl⟩;go_wp2_with fail;refine (in_yes _ 0 3000 _ hp).mono ?_;rintro _ _ ⟨rfl,rfl⟩;go_wp2_with fail;refine (in_yes _ 0 3000 _ hle).mono ?_;rintro _ _ ⟨rfl,rfl⟩;go_wp2;go_ret;exact ⟨zae HF.out.symm,bw⟩
          ·have HT:Hid (zce s.size (L.getD k cl0)=true):=by unfold Hid;rw [HX.out];unfold zce;first|(simp;done)|(simp;omega)
           have hbeq:(xl==0)=false:=by simpa using hz
           go_wp2_with fail;refine (in_yes _ 1 1000000000 _ hg).mono ?_;rintro _ _ ⟨rfl,rfl⟩;go_wp2_with fail;refine (in_yes _ 0 3000 _ hp).mono ?_;rintro _ _ ⟨rfl,rfl⟩;go_wp2_with fail;refine (in_yes _ 0 3000 _ hle).mono ?_;rintro _ _ ⟨rfl,rfl⟩;go_wp2;go_roundw
           case rel=>exact ⟨k+1,by omega,by go_num,hr7,bw,allTo_next hall HT⟩
           case measure=>simp [intOf];omega
        |false=>
         by_cases hz:xp=0
         ·subst hz;by_cases hz:xl=0
          ·subst hz;have HT:Hid (zce s.size (L.getD k cl0)=true):=by unfold Hid;rw [HX.out];unfold zce;first|(simp;done)|(simp;omega)
           go_wp2_with fail;refine (in_yes _ 1 1000000000 _ hg).mono ?_;rintro _ _ ⟨rfl,rfl⟩;go_wp2_with fail;refine (in_yes _ 0 3000 _ hp).mono ?_;rintro _ _ ⟨rfl,rfl⟩;go_wp2_with fail;refine (in_yes _ 0 3000 _ hle).mono ?_;rintro _ _ ⟨rfl,rfl⟩;go_wp2;go_roundw
           case rel=>exact ⟨k+1,by omega,by go_num,hr7,bw,allTo_next hall HT⟩
           case measure=>simp [intOf];omega
          ·have HF:Hid (heapB s L=false):=spec_no hsz hl40 hkl (by rw [HX.out];unfold zce;first|(simp;done)|(simp;omega));go_wp2_with fail;refine (in_yes _ 1 1000000000 _ hg).mono ?_;rintro _ _ ⟨rfl,rfl⟩;go_wp2_with fail;refine (in_yes _ 0 3000 _ hp).mono ?_;rintro _ _ ⟨rfl,rfl⟩;go_wp2_with fail;refine (in_yes _ 0 3000 _ hle).mono ?_;rintro _ _ ⟨rfl,rfl⟩;go_wp2;go_ret;exact ⟨zae HF.out.symm,bw⟩
         ·have HF:Hid (heapB s L=false):=spec_no hsz hl40 hkl (by rw [HX.out];unfold zce;first|(simp;done)|(simp;omega));go_wp2_with fail;refine (in_yes _ 1 1000000000 _ hg).mono ?_;rintro _ _ ⟨rfl,rfl⟩;go_wp2_with fail;refine (in_yes _ 0 3000 _ hp).mono ?_;rintro _ _ ⟨rfl,rfl⟩;go_wp2_with fail;refine (in_yes _ 0 3000 _ hle).mono ?_;rintro _ _ ⟨rfl,rfl⟩;go_wp2;go_ret;exact ⟨zae HF.out.symm,bw⟩
       ·have HF:Hid (heapB s L=false):=spec_no hsz hl40 hkl (by rw [HX.out];unfold zce;first|(simp;done)|(simp;omega));go_wp2_with fail;refine (in_yes _ 1 1000000000 _ hg).mono ?_;rintro _ _ ⟨rfl,rfl⟩;go_wp2_with fail;refine (in_yes _ 0 3000 _ hp).mono ?_;rintro _ _ ⟨rfl,rfl⟩;go_wp2_with fail;refine (in_no _ 0 3000 _ hle).mono ?_;rintro _ _ ⟨rfl,rfl⟩;go_wp2;go_ret;exact ⟨zae HF.out.symm,bw⟩
      ·have HF:Hid (heapB s L=false):=spec_no hsz hl40 hkl (by rw [HX.out];unfold zce;first|(simp;done)|(simp;omega));go_wp2_with fail;refine (in_yes _ 1 1000000000 _ hg).mono ?_;rintro _ _ ⟨rfl,rfl⟩;go_wp2_with fail;refine (in_no _ 0 3000 _ hp).mono ?_;rintro _ _ ⟨rfl,rfl⟩;go_wp2;go_ret;exact ⟨zae HF.out.symm,bw⟩
     ·have HF:Hid (heapB s L=false):=spec_no hsz hl40 hkl (by rw [HX.out];unfold zce;first|(simp;done)|(simp;omega));go_wp2_with fail;refine (in_no _ 1 1000000000 _ hg).mono ?_;rintro _ _ ⟨rfl,rfl⟩;go_wp2;go_ret;exact ⟨zae HF.out.symm,bw⟩
    ·obtain rfl:k=n:=by omega
     have hc:=zaj h bk;have HR:Hid (heapB s L=sweepB (byteAt s) s.size ((stI L k).map (clOf L)) 0):=by
      unfold Hid;have:=allTo_end hsz hl40 (by rw [HL.out];exact hall.out);rwa [HL.out] at this
     go_wp2_with fail;refine (live_any s a b off k c L wr hc (by omega)).mono ?_;rintro e w5 ⟨A,cap,rfl,ho,b5⟩;have hr5:=hr.below b5 hr.lt;have bw5:Below w.heap.size w w5:=bk.trans (b5.mono (by have:=hr.lt;omega));have hc5:=zaj hc b5;obtain ⟨hS1,hS2⟩:=st_bound L k;have HS2:Hid (∀y∈stI L k,y<k):=hS2;generalize stI L k=S at*;have HCell:Hid (∀m,m<S.length→w5.cell? ⟨A,m,none⟩=some (.int .i64 (S.getD m 0:Nat))):=fun m hm=>by
      have:=ho.cells rfl m (.int .i64 (S.getD m 0:Nat)) (by unfold ints;rw [List.getElem?_map,List.getD_eq_getElem?_getD,List.getElem?_eq_getElem hm];rfl);rw [Addr.add_lit,Nat.zero_add] at this;exact this
     have HSp:Hid (∀y,y<k→zce s.size (clOf L y)=true):=hall;have e0:=hr5.cell 0;have e1:=hr5.cell 1;simp at e0 e1;have HBq:Hid (∀q,Below w.heap.size w (w5.drewN q)):=fun q=>bw5.trans ((below_drewN w5 q).mono (by have:=bw5.size;omega));clear hS2 ho hc hall hr bk b5;go_wp2_with fail;go_loopw [5,7,8,9] (fun en i _ _ wr'=>∃m q e:Nat,m≤S.length+1∧i= .int .i64 m∧en= .int .i64 e∧e≤6000∧wr'=w5.drewN q∧Hid (m≤S.length→heapB s L=sweepB (byteAt s) s.size ((S.map (clOf L)).drop m) e)∧Hid (m=S.length+1→heapB s L=true)) (fun _ i _ _ _=>S.length+1-(intOf i).toNat)
     case atStart=>exact ⟨0,0,0,by omega,rfl,rfl,by omega,rfl,fun _=>HR.out,fun h=>by omega⟩
     case round=>
      obtain ⟨m,q,e,hm,rfl,rfl,he,rfl,hsw,hend⟩:=hrel;by_cases hml:m≤S.length
      ·by_cases hlt:m<S.length
       ·have hyk:S.getD m 0<k:=HS2.out _ (by rw [List.getD_eq_getElem?_getD,List.getElem?_eq_getElem hlt];exact List.getElem_mem hlt);have cy:=HCell.out m hlt;have hx:=hc5.cell (S.getD m 0) hyk;obtain rfl:=h.addr (by omega);have d0:=hx.c0;have d1:=hx.c1;obtain ⟨g1,g2,g3,g4,g5⟩:=spec_facts (HSp.out _ hyk);have hxe:L.getD (S.getD m 0) cl0=clOf L (S.getD m 0):=rfl;rw [hxe] at d0 d1;have HSW0:Hid (heapB s L=sweepB (byteAt s) s.size (clOf L (S.getD m 0)::(S.map (clOf L)).drop (m+1)) e):=by
         unfold Hid;rw [hsw.out hml,map_step _ _ _ hlt]
        obtain ⟨P,hP⟩:∃P:Nat,(clOf L (S.getD m 0)).pos=P:=⟨_,(Int.toNat_of_nonneg g1).symm⟩;obtain ⟨W,hW⟩:∃W:Nat,(clOf L (S.getD m 0)).len=W:=⟨_,(Int.toNat_of_nonneg g2).symm⟩;have HSW:Hid (heapB s L=(decide (e≤P)&&zerosB (byteAt s) e P&&sweepB (byteAt s) s.size ((S.map (clOf L)).drop (m+1)) (P+W))):=by
         unfold Hid;rw [HSW0.out,sweepB,hP,hW];have e1:((P:Int)+(W:Int)).toNat=P+W:=by omega
         have e2:decide ((e:Int)≤(P:Int))=decide (e≤P):=by congr 1;exact propext (by omega)
         rw [e1,e2,Int.toNat_natCast]
        rw [hP] at d0 g1 g3 g4;rw [hW] at d1 g2 g3 g5;clear hx hxe hsw hend HSW0 hP hW;generalize S.getD m 0=y at*;have hdd:decide ((m:Int)≤(S.length:Int))=true:=by simp;omega
        have hdl:decide ((m:Int)<(S.length:Int))=true:=by simp;omega
        by_cases heP:e≤P
        ·have hPs:P≤s.size:=by omega
         have hns:¬(P:Int)<(e:Int):=by omega
         go_wp2;go_quiet ((fail));go_wp2;go_loopw [9] (fun kk wr'=>∃j:Nat,e≤j∧j≤P∧kk= .int .i64 j∧wr'=w5.drewN (q+nq)∧Hid (∀i,e≤i→i<j→byteAt s i=0)) (fun kk _=>P-(intOf kk).toNat)
         case atStart=>exact ⟨e,by omega,by omega,rfl,rfl,fun i h1 h2=>by omega⟩
         case round=>
          obtain ⟨j,hj1,hj2,rfl,rfl,hzr⟩:=hrel;by_cases hjl:j<P
          ·have hjs:j<s.size:=by omega
           by_cases hA:((s[j]'hjs).toNat:Int)=0
           ·have HZ:Hid (∀i,e≤i→i<j+1→byteAt s i=0):=fun i h1 h2=>by
             rcases Nat.lt_succ_iff_lt_or_eq.1 h2 with h|h
             ·exact hzr.out i h1 h
             ·subst h;rw [byte_at s i hjs];exact UInt8.toNat_inj.1 (by simpa using hA)
            clear hzr;go_wp2;go_roundw
            case rel=>exact ⟨j+1,by omega,by omega,by go_num,trivial,HZ⟩
            case measure=>simp [intOf];omega
           ·have HF:Hid (heapB s L=false):=by
             unfold Hid;rw [HSW.out];have:zerosB (byteAt s) e P=false:=by
              cases hz:zerosB (byteAt s) e P with
              |false=>rfl
              |true=>
               have:=(zeros_iff _ _ _).1 hz j hj1 hjl;rw [byte_at s j hjs] at this;exact absurd (by rw [this];rfl) hA
             rw [this];simp
            clear hzr;go_wp2;go_ret;exact ⟨zae HF.out.symm,HBq.out _⟩
          ·have HZ:Hid (zerosB (byteAt s) e P=true):=(zeros_iff _ _ _).2 (fun i h1 h2=>hzr.out i h1 (by omega));clear hzr;have HN:Hid (m+1≤S.length→heapB s L=sweepB (byteAt s) s.size ((S.map (clOf L)).drop (m+1)) (P+W)):=fun _=>by
            rw [HSW.out,decide_eq_true heP,HZ.out,Bool.true_and,Bool.true_and]
           clear HSW HZ;go_wp2;go_quiet ((fail));go_wp2;go_roundw
           case rel=>exact ⟨m+1,_,P+W,by omega,by go_num,by go_num,by omega,rfl,HN,fun h=>by omega⟩
           case measure=>simp [intOf];omega
        ·have HF:Hid (heapB s L=false):=by
          unfold Hid;rw [HSW.out,decide_eq_false heP,Bool.false_and,Bool.false_and]
         have hns:(P:Int)<(e:Int):=by omega
         go_wp2;go_quiet ((fail));go_wp2;go_ret;exact ⟨zae HF.out.symm,HBq.out _⟩
       ·have hmS:m=S.length:=by omega
        have HSW:Hid (heapB s L=(decide (e≤s.size)&&zerosB (byteAt s) e s.size)):=by
         unfold Hid;rw [hsw.out hml,List.drop_eq_nil_of_le (by simp;omega),sweepB]
        clear hsw hend;have hdd:decide ((m:Int)≤(S.length:Int))=true:=by simp;omega
        have hdl:decide ((m:Int)<(S.length:Int))=false:=by simp;omega
        clear hmS;by_cases heP:e≤s.size
        ·have hns:¬(s.size:Int)<(e:Int):=by omega
         go_wp2;go_loopw [9] (fun kk wr'=>∃j:Nat,e≤j∧j≤s.size∧kk= .int .i64 j∧wr'=w5.drewN q∧Hid (∀i,e≤i→i<j→byteAt s i=0)) (fun kk _=>s.size-(intOf kk).toNat)
         case atStart=>exact ⟨e,by omega,by omega,rfl,rfl,fun i h1 h2=>by omega⟩
         case round=>
          obtain ⟨j,hj1,hj2,rfl,rfl,hzr⟩:=hrel;by_cases hjl:j<s.size
          ·have hjs:j<s.size:=by omega
           by_cases hA:((s[j]'hjs).toNat:Int)=0
           ·have HZ:Hid (∀i,e≤i→i<j+1→byteAt s i=0):=fun i h1 h2=>by
             rcases Nat.lt_succ_iff_lt_or_eq.1 h2 with h|h
             ·exact hzr.out i h1 h
             ·subst h;rw [byte_at s i hjs];exact UInt8.toNat_inj.1 (by simpa using hA)
            clear hzr;go_wp2;go_roundw
            case rel=>exact ⟨j+1,by omega,by omega,by go_num,trivial,HZ⟩
            case measure=>simp [intOf];omega
           ·have HF:Hid (heapB s L=false):=by
             unfold Hid;rw [HSW.out];have:zerosB (byteAt s) e s.size=false:=by
              cases hz:zerosB (byteAt s) e s.size with
              |false=>rfl
              |true=>
               have:=(zeros_iff _ _ _).1 hz j hj1 hjl;rw [byte_at s j hjs] at this;exact absurd (by rw [this];rfl) hA
             rw [this];simp
            clear hzr;go_wp2;go_ret;exact ⟨zae HF.out.symm,HBq.out _⟩
          ·have HZ:Hid (zerosB (byteAt s) e s.size=true):=(zeros_iff _ _ _).2 (fun i h1 h2=>hzr.out i h1 (by omega));clear hzr;have HE:Hid (heapB s L=true):=by
            unfold Hid;rw [HSW.out,decide_eq_true heP,HZ.out,Bool.true_and]
           clear HSW HZ;go_wp2;go_roundw
           case rel=>exact ⟨m+1,q,e,by omega,by go_num,rfl,he,rfl,fun h=>by omega,fun _=>HE.out⟩
           case measure=>simp [intOf];omega
        ·have HF:Hid (heapB s L=false):=by
          unfold Hid;rw [HSW.out,decide_eq_false heP,Bool.false_and]
         have hns:(s.size:Int)<(e:Int):=by omega
         go_wp2;go_ret;exact ⟨zae HF.out.symm,HBq.out _⟩
      ·have HE:Hid (heapB s L=true):=hend.out (by omega);have hdd:decide ((m:Int)≤(S.length:Int))=false:=by simp;omega
       clear hsw hend;go_wp2;go_ret;exact ⟨zae HE.out.symm,HBq.out q⟩
  ·have HF:Hid (heapB s L=false):=by unfold Hid heapB;rw [decide_eq_false (by omega),Bool.false_and]
   clear hl;go_enter Tryz.func45,Tryz.ntmps45;go_wp2;go_ret;exact ⟨zae HF.out.symm,hb0⟩
 ·have HF:Hid (heapB s L=false):=by unfold Hid heapB;rw [decide_eq_false (by omega),Bool.false_and]
  clear hl;go_enter Tryz.func45,Tryz.ntmps45;go_wp2;go_ret;exact ⟨zae HF.out.symm,hb0⟩
theorem heap_cells {s:ByteArray} {L:List Cl} (h:heapB s L=true) (i:Nat) (hi:i<L.length):zce s.size (L.getD i cl0)=true:=by
 obtain ⟨h1,h2⟩:=heap_small h;cases hc:zce s.size (L.getD i cl0) with
 |true=>rfl
 |false=>rw [spec_no h1 h2 hi hc] at h;cases h
theorem heap_right {s:ByteArray} {L:List Cl} (h:heapB s L=true):∃t,openM s.size L (fun _=>false)=some t∧Right s.size L t:=by
 unfold heapB at h;rw [Bool.and_eq_true] at h;have h2:=h.2;unfold implB at h2;cases ho:openM s.size L (fun _=>false) with
 |none=>rw [ho] at h2;cases h2
 |some t=>exact ⟨t,rfl,right_of_open ho⟩
def gapStep (want:Int) (st:Int×Int) (g:Nat×Nat):Int×Int:=(if st.1<0∧want≤(g.2:Int) then (g.1:Int) else st.1,max st.2 (g.2:Int))
def gapFold (want:Int) (n:Nat) (S:List Cl) (e:Nat) (st:Int×Int):Int×Int:=(gapsAll n S e).foldl (gapStep want) st
theorem gapFold_nil (want:Int) (n e:Nat) (st:Int×Int):gapFold want n [] e st=gapStep want st (e,n-e):=rfl
theorem gapFold_cons (want:Int) (n e:Nat) (c:Cl) (r:List Cl) (st:Int×Int):gapFold want n (c::r) e st=gapFold want n r (c.pos+c.len).toNat (gapStep want st (e,c.pos.toNat-e)):=rfl
def Ahead (n:Nat) (S:List Cl) (e:Nat):Prop:=e≤n∧(∀c∈S,Ok n c)∧Sorted S∧S.Pairwise Disj∧∀c∈S,(e:Int)≤c.pos
theorem Ahead.next {n:Nat} {c:Cl} {r:List Cl} {e:Nat} (h:Ahead n (c::r) e):Ahead n r (c.pos+c.len).toNat:=by
 obtain ⟨he,hok,hso,hd,hp⟩:=h;obtain ⟨hl,h1,h2,h3⟩:=hok c (by simp);rw [Sorted,List.pairwise_cons] at hso;rw [List.pairwise_cons] at hd;refine ⟨by omega,fun x hx=>hok x (by simp [hx]),hso.2,hd.2,fun x hx=>?_⟩;have hx2:=hso.1 x hx;obtain ⟨_,q1,q2,q3⟩:=hok x (by simp [hx]);rcases hd.1 x hx with h|h<;>omega
theorem Ahead.facts {n:Nat} {c:Cl} {r:List Cl} {e:Nat} (h:Ahead n (c::r) e):0≤c.pos∧1≤c.len∧(e:Int)≤c.pos∧c.pos+c.len≤n:=by
 obtain ⟨he,hok,hso,hd,hp⟩:=h;obtain ⟨hl,h1,h2,h3⟩:=hok c (by simp);exact ⟨h2,h1,hp c (by simp),h3⟩
theorem Right.ahead {n:Nat} {L:List Cl} {t:Nat→Bool} (h:Right n L t):Ahead n (liveC [] L) 0:=⟨by omega,h.ok,h.sorted,h.disj,h.low⟩
theorem gapStep_eq {want A B:Int} {e k:Nat} {x y:Int} (h1:A<0→want≤(k:Int)→x=e) (h2:(0≤A∨(k:Int)<want)→x=A) (h3:y=max B (k:Int)):gapStep want (A,B) (e,k)=(x,y):=by
 unfold gapStep;rw [h3];congr 1;show (if A<0∧want≤(k:Int) then (e:Int) else A)=x;split
 ·rename_i h;exact (h1 h.1 h.2).symm
 ·exact (h2 (by omega)).symm
theorem l3Gap_any (s:ByteArray) (a:Option Addr) (b off n c:Nat) (L:List Cl) (want:Int) (w:World) (h:CellsIn w a b off n L) (hw0:0≤want) (hw1:want≤1048576) (hr:heapB s L=true):
  Calls Tryz.prog 46 #[.agg #[.string s,.slice a n c],.int .i64 want] w fun e w'=>e= .returned (.tuple #[.int .i64 (gapFold want s.size (liveC [] L) 0 (-1,0)).1,.int .i64 (gapFold want s.size (liveC [] L) 0 (-1,0)).2])∧Below w.heap.size w w':=by
 have hl:=h.len;obtain ⟨hs3,hn4⟩:=heap_small hr;have hn40:n≤40:=by omega
 have HSp:Hid (∀y,y<n→zce s.size (clOf L y)=true):=fun y hy=>heap_cells hr y (by omega);have HAh:Hid (Ahead s.size (liveC [] L) 0):=by
  obtain ⟨t,_,hR⟩:=heap_right hr;exact hR.ahead
 have HLv:Hid (liveC [] L=(stI L n).map (clOf L)):=by unfold Hid;rw [live_all,hl]
 have HF:Hid (∃F,gapFold want s.size (liveC [] L) 0 (-1,0)=F):=⟨_,rfl⟩;obtain ⟨F,hF⟩:=HF.out;rw [hF];have HF0:Hid (F=gapFold want s.size ((stI L n).map (clOf L)) 0 (-1,0)):=by unfold Hid;rw [←hF,HLv.out]
 have HAh0:Hid (Ahead s.size ((stI L n).map (clOf L)) 0):=by unfold Hid;rw [←HLv.out];exact HAh.out
 clear hF HF HAh HLv hr hn4 hl;have hb0:Below w.heap.size w (w.alloc (.cells #[.string s,.slice a n c] 29)):=(Below.refl _ w).alloc (Nat.le_refl _) _;have hr0:=RowAt.new w 29 #[.string s,.slice a n c];have h0:=zaj h hb0;have hlt0:=hr0.lt;go_enter Tryz.func46,Tryz.ntmps46;go_wp2_with fail;generalize w.alloc (.cells #[.string s,.slice a n c] 29)=w1 at*;refine (live_any s a b off n c L w1 h0 hn40).mono ?_;rintro e w5 ⟨A,cap,rfl,ho,b5⟩;have hr5:=hr0.below b5 hlt0;have bw5:Below w.heap.size w w5:=hb0.trans (b5.mono (by omega));have hc5:=zaj h0 b5;obtain ⟨hS1,hS2⟩:=st_bound L n;have HS2:Hid (∀y∈stI L n,y<n):=hS2;generalize stI L n=S at*;have HCell:Hid (∀m,m<S.length→w5.cell? ⟨A,m,none⟩=some (.int .i64 (S.getD m 0:Nat))):=fun m hm=>by
  have:=ho.cells rfl m (.int .i64 (S.getD m 0:Nat)) (by unfold ints;rw [List.getElem?_map,List.getD_eq_getElem?_getD,List.getElem?_eq_getElem hm];rfl);rw [Addr.add_lit,Nat.zero_add] at this;exact this
 have e0:=hr5.cell 0;have e1:=hr5.cell 1;simp at e0 e1;have HBq:Hid (∀q,Below w.heap.size w (w5.drewN q)):=fun q=>bw5.trans ((below_drewN w5 q).mono (by have:=bw5.size;omega));clear hS2 ho h0 hr0 hb0 b5 hr5;go_wp2_with fail;go_loopw [6,7,8,10,11] (fun en at_ best i _ wr'=>∃(m q e:Nat) (X Y:Int),m≤S.length+1∧i= .int .i64 m∧en= .int .i64 e∧at_= .int .i64 X∧best= .int .i64 Y∧e≤3000∧-1≤X∧X≤3000∧0≤Y∧Y≤3000∧wr'=w5.drewN q∧Hid (m≤S.length→F=gapFold want s.size ((S.map (clOf L)).drop m) e (X,Y)∧Ahead s.size ((S.map (clOf L)).drop m) e)∧Hid (m=S.length+1→F=(X,Y))) (fun _ _ _ i _ _=>S.length+1-(intOf i).toNat)
 case atStart=>exact ⟨0,0,0,-1,0,by omega,rfl,rfl,rfl,rfl,by omega,by omega,by omega,by omega,by omega,rfl,fun _=>⟨HF0.out,HAh0.out⟩,fun h=>by omega⟩
 case round=>
  obtain ⟨m,q,e,X,Y,hm,rfl,rfl,rfl,rfl,he,hX0,hX1,hY0,hY1,rfl,hsw,hend⟩:=hrel;clear HF0 HAh0;by_cases hml:m≤S.length
  ·obtain ⟨hsw1,hah⟩:=hsw.out hml;by_cases hlt:m<S.length
   ·have hyk:S.getD m 0<n:=HS2.out _ (by rw [List.getD_eq_getElem?_getD,List.getElem?_eq_getElem hlt];exact List.getElem_mem hlt);have cy:=HCell.out m hlt;have hx:=hc5.cell (S.getD m 0) hyk;obtain rfl:=h.addr (by omega);have d0:=hx.c0;have d1:=hx.c1;have hxe:L.getD (S.getD m 0) cl0=clOf L (S.getD m 0):=rfl;rw [hxe] at d0 d1;rw [map_step _ _ _ hlt] at hsw1 hah;obtain ⟨g1,g2,g3,g4⟩:=hah.facts;have hah':=hah.next;rw [gapFold_cons] at hsw1;generalize S.getD m 0=y at*;obtain ⟨P,hP⟩:∃P:Nat,(clOf L y).pos=P:=⟨_,(Int.toNat_of_nonneg g1).symm⟩;obtain ⟨W,hW⟩:∃W:Nat,(clOf L y).len=W:=⟨_,(Int.toNat_of_nonneg (by omega)).symm⟩;rw [hP] at d0 g1 g3 g4 hsw1 hah';rw [hW] at d1 g2 g4 hsw1 hah';rw [show ((P:Int)+(W:Int)).toNat=P+W from by omega] at hsw1 hah';rw [Int.toNat_natCast] at hsw1;have HSW:Hid (F=gapFold want s.size ((S.map (clOf L)).drop (m+1)) (P+W) (gapStep want (X,Y) (e,P-e))):=hsw1;have HAh:Hid (Ahead s.size ((S.map (clOf L)).drop (m+1)) (P+W)):=hah';have heP:e≤P:=by omega
    clear hx hxe hsw hend hsw1 hah hah' hP hW;have hdd:decide ((m:Int)≤(S.length:Int))=true:=by simp;omega
    have hdl:decide ((m:Int)<(S.length:Int))=true:=by simp;omega
    by_cases hXn:X<0
    ·by_cases hwa:want≤(P:Int)-(e:Int)
     ·go_wp2;go_quiet ((fail));go_wp2;all_goals
       go_quiet ((fail));go_wp2;go_roundw
       case rel=>exact ⟨m+1,_,P+W,_,_,by omega,by go_num,by go_num,rfl,rfl,by omega,by omega,by omega,by omega,by omega,rfl,fun _=>⟨HSW.out.trans (congrArg (gapFold want s.size _ _) (gapStep_eq (by omega) (by omega) (by omega))),HAh.out⟩,fun h=>by omega⟩
       case measure=>simp [intOf];omega
     ·go_wp2;go_quiet ((fail));go_wp2;all_goals
       go_quiet ((fail));go_wp2;go_roundw
       case rel=>exact ⟨m+1,_,P+W,_,_,by omega,by go_num,by go_num,rfl,rfl,by omega,by omega,by omega,by omega,by omega,rfl,fun _=>⟨HSW.out.trans (congrArg (gapFold want s.size _ _) (gapStep_eq (by omega) (by omega) (by omega))),HAh.out⟩,fun h=>by omega⟩
       case measure=>simp [intOf];omega
    ·go_wp2;go_quiet ((fail));go_wp2;all_goals
      go_quiet ((fail));go_wp2;go_roundw
      case rel=>exact ⟨m+1,_,P+W,_,_,by omega,by go_num,by go_num,rfl,rfl,by omega,by omega,by omega,by omega,by omega,rfl,fun _=>⟨HSW.out.trans (congrArg (gapFold want s.size _ _) (gapStep_eq (by omega) (by omega) (by omega))),HAh.out⟩,fun h=>by omega⟩
      case measure=>simp [intOf];omega
   ·have hmS:m=S.length:=by omega
    have hle:=hah.1;have HSW:Hid (F=gapStep want (X,Y) (e,s.size-e)):=by
     unfold Hid;rw [hsw1,List.drop_eq_nil_of_le (by simp;omega),gapFold_nil]
    clear hsw hend hsw1 hah;have hdd:decide ((m:Int)≤(S.length:Int))=true:=by simp;omega
    have hdl:decide ((m:Int)<(S.length:Int))=false:=by simp;omega
    clear hmS;by_cases hXn:X<0
    ·by_cases hwa:want≤(s.size:Int)-(e:Int)
     ·go_wp2;all_goals
       go_roundw
       case rel=>exact ⟨m+1,q,e,_,_,by omega,by go_num,rfl,rfl,rfl,by omega,by omega,by omega,by omega,by omega,rfl,fun h=>by omega,fun _=>HSW.out.trans (gapStep_eq (by omega) (by omega) (by omega))⟩
       case measure=>simp [intOf];omega
     ·go_wp2;all_goals
       go_roundw
       case rel=>exact ⟨m+1,q,e,_,_,by omega,by go_num,rfl,rfl,rfl,by omega,by omega,by omega,by omega,by omega,rfl,fun h=>by omega,fun _=>HSW.out.trans (gapStep_eq (by omega) (by omega) (by omega))⟩
       case measure=>simp [intOf];omega
    ·go_wp2;all_goals
      go_roundw
      case rel=>exact ⟨m+1,q,e,_,_,by omega,by go_num,rfl,rfl,rfl,by omega,by omega,by omega,by omega,by omega,rfl,fun h=>by omega,fun _=>HSW.out.trans (gapStep_eq (by omega) (by omega) (by omega))⟩
      case measure=>simp [intOf];omega
  ·have HE:Hid (F=(X,Y)):=hend.out (by omega);have hdd:decide ((m:Int)≤(S.length:Int))=false:=by simp;omega
   clear hsw hend;go_wp2;go_ret2;exact ⟨by rw [HE.out];rfl,HBq.out q⟩
end Go.Proofs.YtjpeglkkkllagaaGreatDoor.Hp
