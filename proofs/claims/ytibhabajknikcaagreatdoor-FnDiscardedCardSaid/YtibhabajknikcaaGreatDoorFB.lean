import Derived.Test.YtibhabajknikcaaGreatDoorFNum
set_option maxHeartbeats 2000000
namespace Go.Proofs.YtibhabajknikcaaGreatDoor.Fd
open Go.RowKit Go.Sort
def someM (l:List UInt8) (n:Nat):Int ⊕ List UInt8:=
 if l.length<n+2 then .inl 1 else if (l.drop n).take 2=[13,10] then .inr (l.take n) else .inl 2
theorem some_inl (s:ByteArray) (at_ rb n:Nat) (c:Int) (w:World) (_hs:s.size≤2097152) (ha:at_≤s.size) (hn:n≤2097152) (h:RdAt w rb s at_) (hl:someM (s.data.toList.drop at_) n= .inl c):
  Calls Tryz.prog 293 #[.pointer (some ⟨rb,0,none⟩),.int .i64 n] w fun e w'=>e=gaveUp c∧Below w.heap.size w w':=by
 have c0:=h.cell 0;have c1:=h.cell 1;simp at c0 c1;have hai:(at_:Int)≤(s.size:Int):=by omega
 have ht:(s.extract at_ s.size).data.toList=s.data.toList.drop at_:=Lib.extract_to_end s at_;have hsz:(s.extract at_ s.size).size=s.size-at_:=by rw [Lib.size_eq,ht,List.length_drop,←Lib.size_eq]
 have HZ:Hid ((s.data.toList.drop at_).length=s.size-at_):=by unfold Hid;rw [List.length_drop,←Lib.size_eq]
 unfold someM at hl;rw [HZ.out] at hl;by_cases hb:s.size-at_<n+2
 ·rw [if_pos hb] at hl;injection hl with hl;subst hl;have hbi:((s.size-at_:Nat):Int)<(n:Int)+2:=by omega
  clear ht HZ;go_enter Tryz.func293,Tryz.ntmps293;go_wp2;go_quiet ((fail));go_wp2_with fail;refine (giveUp_any 1 _).mono ?_;rintro e w2 ⟨rfl,rfl⟩;unfold gaveUp;go_wp2;exact ⟨rfl,rfl,below_drewN (Below.refl _ _) _⟩
 ·rw [if_neg hb] at hl;by_cases he:((s.data.toList.drop at_).drop n).take 2=[13,10]
  ·rw [if_pos he] at hl;cases hl
  ·rw [if_neg he] at hl;injection hl with hl;subst hl;have hbi:¬((s.size-at_:Nat):Int)<(n:Int)+2:=by omega
   have hb2:(n:Int)+2≤((s.size-at_:Nat):Int):=by omega
   have hne:(((s.extract at_ s.size).extract n (n+2)).toList==[13,10])=false:=by
    have e1:((s.extract at_ s.size).extract n (n+2)).toList=((s.data.toList.drop at_).drop n).take 2:=by
     rw [ByteArray.toList_eq,Lib.extract_data,ht];congr 1;omega
    rw [e1];simpa using he
   clear ht HZ he;go_enter Tryz.func293,Tryz.ntmps293;go_wp2;go_quiet ((fail));go_wp2_with fail;refine (giveUp_any 2 _).mono ?_;rintro e w2 ⟨rfl,rfl⟩;unfold gaveUp;go_wp2;exact ⟨rfl,rfl,below_drewN (Below.refl _ _) _⟩
theorem some_inr (s:ByteArray) (at_ rb n:Nat) (l:List UInt8) (w:World) (hs:s.size≤2097152) (ha:at_≤s.size) (hn:n≤2097152) (h:RdAt w rb s at_) (hl:someM (s.data.toList.drop at_) n= .inr l):
  at_+n+2≤s.size∧l.length=n∧Calls Tryz.prog 293 #[.pointer (some ⟨rb,0,none⟩),.int .i64 n] w fun e w'=>e= .returned (.string ⟨l.toArray⟩)∧RdAt w' rb s (at_+n+2)∧w.grownBy w' (some rb):=by
 have c0:=h.cell 0;have c1:=h.cell 1;simp at c0 c1;have fz:=h.frozen 1;have hlt:=h.lt;have hai:(at_:Int)≤(s.size:Int):=by omega
 have ht:(s.extract at_ s.size).data.toList=s.data.toList.drop at_:=Lib.extract_to_end s at_;have hsz:(s.extract at_ s.size).size=s.size-at_:=by rw [Lib.size_eq,ht,List.length_drop,←Lib.size_eq]
 have hlen:(s.data.toList.drop at_).length=s.size-at_:=by rw [List.length_drop,←Lib.size_eq]
 unfold someM at hl;rw [hlen] at hl;by_cases hb:s.size-at_<n+2
 ·rw [if_pos hb] at hl;cases hl
 rw [if_neg hb] at hl;by_cases he:((s.data.toList.drop at_).drop n).take 2=[13,10]
 ·rw [if_pos he] at hl;injection hl with hl;have hll:l.length=n:=by rw [←hl,List.length_take,hlen];omega
  refine ⟨by omega,hll,?_⟩;have HE:Hid (((s.extract at_ s.size).extract 0 n)=⟨l.toArray⟩):=str_of _ _ (by rw [Lib.extract_data,ht,←hl];simp);have hbi:¬((s.size-at_:Nat):Int)<(n:Int)+2:=by omega
  have hb2:(n:Int)+2≤((s.size-at_:Nat):Int):=by omega
  have hne:(((s.extract at_ s.size).extract n (n+2)).toList==[13,10])=true:=by
   have e1:((s.extract at_ s.size).extract n (n+2)).toList=((s.data.toList.drop at_).drop n).take 2:=by
    rw [ByteArray.toList_eq,Lib.extract_data,ht];congr 1;omega
   rw [e1];simpa using he
  have HR1:Hid (∀q,RdAt ((w.drewN q).setCell ⟨rb,1,none⟩ (.int .i64 ((at_:Int)+((n:Int)+2)))) rb s (at_+n+2)):=fun q=>by
   have:=RowAt.set (w:=w.drewN q) h 1 (.int .i64 ((at_:Int)+((n:Int)+2)));unfold RdAt;rw [show ((at_+n+2:Nat):Int)=(at_:Int)+((n:Int)+2) from by omega];simpa using this
  clear ht hlen he hl hll;go_enter Tryz.func293,Tryz.ntmps293;go_wp2;go_quiet ((fail));go_wp2_with fail;rw [HE.out];refine (clone60 ⟨l.toArray⟩ _ (by rw [←HE.out];simp;omega)).mono ?_;rintro e w2 ⟨rfl,b2⟩;have hsz2:∀q,((w.drewN q).setCell ⟨rb,1,none⟩ (.int .i64 ((at_:Int)+((n:Int)+2)))).heap.size=w.heap.size:=fun q=>by simp [World.setCell]
  have r2:=RowAt.below (HR1.out nq) b2 (by rw [hsz2];exact hlt);have g2:=grown_below (grown_trans (grown_drewN w nq (some rb)) (grown_set (w.drewN nq) rb 1 (.int .i64 ((at_:Int)+((n:Int)+2))))) b2;clear b2;go_wp2;go_ret;exact ⟨rfl,r2,g2⟩
 ·rw [if_neg he] at hl;cases hl
def markedM (l:List UInt8) (mark:UInt8) (most:Int):Int ⊕ (Nat×Nat):=
 match lineM l with
 | .inl c=> .inl c
 | .inr []=> .inl 2
 | .inr (b::r)=>if b=mark then (match countM r most with|some n=> .inr (n,r.length+3)|none=> .inl 2) else .inl 2
end Go.Proofs.YtibhabajknikcaaGreatDoor.Fd
namespace Go.Proofs.YtibhabajknikcaaGreatDoor.Fd
open Go.RowKit Go.Sort
theorem ready_grown {w w':World} {rb:Nat} (h:Ready w) (hg:w.grownBy w' (some rb)) (hb:25≤rb):Ready w':=h.below (below_of_grown hg hb h.six)
def MarkedEnd (w:World) (rb:Nat) (s:ByteArray) (at_:Nat):Int ⊕ (Nat×Nat)→Ending→World→Prop
 | .inl c,e,w'=>e=gaveUp c∧w.grownBy w' (some rb)
 | .inr (n,u),e,w'=>e= .returned (.int .i64 n)∧RdAt w' rb s (at_+u)∧at_+u≤s.size∧w.grownBy w' (some rb)
theorem marked_any (s:ByteArray) (at_ rb:Nat) (mark:UInt8) (mz most:Int) (hmz:mz=mark.toNat) (w:World) (hs:s.size≤2097152) (ha:at_≤s.size) (hr:Ready w) (h:RdAt w rb s at_) (hrb:25≤rb):
  Calls Tryz.prog 292 #[.pointer (some ⟨rb,0,none⟩),.int .u8 mz,.int .i64 most] w fun e w'=>MarkedEnd w rb s at_ (markedM (s.data.toList.drop at_) mark most) e w':=by
 cases hl:lineM (s.data.toList.drop at_) with
 |inl c=>
  have HM:Hid (markedM (s.data.toList.drop at_) mark most= .inl c):=by unfold Hid markedM;rw [hl]
  have HC:Hid (Calls Tryz.prog 313 #[.pointer (some ⟨rb,0,none⟩)] w fun e w'=>e=gaveUp c∧Below w.heap.size w w'):=line_inl s at_ rb c w hs ha hr h hl;rw [HM.out];clear hl HM;go_enter Tryz.func292,Tryz.ntmps292;go_wp2_with fail;refine HC.out.mono ?_;rintro e w1 ⟨rfl,b1⟩;unfold gaveUp;go_wp2;exact ⟨rfl,rfl,grown_below (grown_refl w _) b1⟩
 |inr l=>
  obtain ⟨hfit,HC0⟩:=line_inr s at_ rb l w hs ha hr h hl;have HC:Hid (Calls Tryz.prog 313 #[.pointer (some ⟨rb,0,none⟩)] w fun e w'=>e= .returned (.string ⟨l.toArray⟩)∧RdAt w' rb s (at_+l.length+2)∧w.grownBy w' (some rb)):=HC0;clear HC0;cases l with
  |nil=>
   have HM:Hid (markedM (s.data.toList.drop at_) mark most= .inl 2):=by unfold Hid markedM;rw [hl]
   rw [HM.out];clear hl HM;go_enter Tryz.func292,Tryz.ntmps292;go_wp2_with fail;refine HC.out.mono ?_;rintro e w1 ⟨rfl,r1,g1⟩;go_wp2_with fail;refine (giveUp_any 2 _).mono ?_;rintro e w2 ⟨rfl,rfl⟩;unfold gaveUp;go_wp2;exact ⟨rfl,rfl,g1⟩
  |cons b r=>
   have HM:Hid (markedM (s.data.toList.drop at_) mark most=if b=mark then (match countM r most with|some n=> .inr (n,r.length+3)|none=> .inl 2) else .inl 2):=by unfold Hid markedM;rw [hl]<;>rfl
   rw [HM.out];clear hl HM;have hb256:b.toNat<256:=b.toNat_lt;have h00:∀hx,(⟨(b::r).toArray⟩:ByteArray)[0]'hx=b:=fun _=>rfl;have HX:Hid ((⟨(b::r).toArray⟩:ByteArray).extract 1 (r.length+1)=⟨r.toArray⟩):=str_of _ _ (by rw [Lib.extract_data];simp);subst hmz;have hfit2:at_+(r.length+1)+2≤s.size:=hfit;have hrs:(⟨r.toArray⟩:ByteArray).size≤2097152:=by rw [size_mk];omega
   clear hfit;by_cases hbm:b=mark
   ·rw [if_pos hbm];have hbz:((b.toNat:Int)!=(mark.toNat:Int))=false:=by rw [hbm];simp
    cases hcm:countM r most with
    |none=>
     have HK:Hid (countM r most=none):=hcm;clear hcm hbm;go_enter Tryz.func292,Tryz.ntmps292;go_wp2_with fail;refine HC.out.mono ?_;rintro e w1 ⟨rfl,r1,g1⟩;go_wp2_with fail;rw [HX.out];refine (countOf_none ⟨r.toArray⟩ most w1 hrs (ready_grown hr g1 hrb) HK.out).mono ?_;rintro e w2 ⟨rfl,b2⟩;unfold gaveUp;go_wp2;exact ⟨rfl,rfl,grown_below g1 b2⟩
    |some n=>
     have HK:Hid (countM r most=some n):=hcm;clear hcm hbm;go_enter Tryz.func292,Tryz.ntmps292;go_wp2_with fail;refine HC.out.mono ?_;rintro e w1 ⟨rfl,r1,g1⟩;go_wp2_with fail;rw [HX.out];refine (countOf_some ⟨r.toArray⟩ most n w1 hrs (ready_grown hr g1 hrb) HK.out).mono ?_;rintro e w2 ⟨rfl,b2⟩;have r2:=RowAt.below r1 b2 (RowAt.lt r1);go_wp2;go_ret;exact ⟨rfl,r2,by omega,grown_below g1 b2⟩
   ·rw [if_neg hbm];have hbz:((b.toNat:Int)!=(mark.toNat:Int))=true:=by
     rw [bne_iff_ne];intro e;exact hbm (UInt8.toNat_inj.1 (by omega))
    clear hbm;go_enter Tryz.func292,Tryz.ntmps292;go_wp2_with fail;refine HC.out.mono ?_;rintro e w1 ⟨rfl,r1,g1⟩;go_wp2_with fail;refine (giveUp_any 2 _).mono ?_;rintro e w2 ⟨rfl,rfl⟩;unfold gaveUp;go_wp2;exact ⟨rfl,rfl,g1⟩
end Go.Proofs.YtibhabajknikcaaGreatDoor.Fd
namespace Go.Proofs.YtibhabajknikcaaGreatDoor.Fd
open Go.RowKit Go.Sort
def bulksM:Nat→List UInt8→Int ⊕ (List (List UInt8)×Nat)
 |0,_=> .inr ([],0)
 |k+1,l=>match markedM l 36 200 with
  | .inl c=> .inl c
  | .inr (n,u)=>match someM (l.drop u) n with
   | .inl c=> .inl c
   | .inr t=>match bulksM k (l.drop (u+n+2)) with
    | .inl c=> .inl c
    | .inr (ts,v)=> .inr (t::ts,u+n+2+v)
def bulksAllM (l:List UInt8):Int ⊕ (List (List UInt8)×Nat):=
 match markedM l 42 16 with
 | .inl c=> .inl c
 | .inr (n,u)=>match bulksM n (l.drop u) with
  | .inl c=> .inl c
  | .inr (ts,v)=> .inr (ts,u+v)
def strVals (ts:List (List UInt8)):List Value:=ts.map fun t=> .string ⟨t.toArray⟩
def pre (acc:List (List UInt8)) (u:Nat):Int ⊕ (List (List UInt8)×Nat)→Int ⊕ (List (List UInt8)×Nat)
 | .inl c=> .inl c
 | .inr (ts,v)=> .inr (acc++ts,u+v)
theorem marked_count {l:List UInt8} {mark:UInt8} {most:Int} {n u:Nat} (h:markedM l mark most= .inr (n,u)):(n:Int)≤most:=by
 unfold markedM at h;split at h
 ·cases h
 ·cases h
 ·rename_i b r _;split at h
  ·cases hc:countM r most with
   |none=>rw [hc] at h;cases h
   |some k=>
    rw [hc] at h;injection h with h;injection h with h1 _;subst h1;unfold countM at hc;obtain ⟨v,_,hk⟩:=Option.bind_eq_some_iff.1 hc;split at hk
    ·injection hk with hk;omega
    ·cases hk
  ·cases h
theorem bulks_inl1 {k:Nat} {l:List UInt8} {c:Int} (h:markedM l 36 200= .inl c):bulksM (k+1) l= .inl c:=by
 simp only [bulksM,h]
theorem bulks_inl2 {k m u:Nat} {l:List UInt8} {c:Int} (h:markedM l 36 200= .inr (m,u)) (h2:someM (l.drop u) m= .inl c):bulksM (k+1) l= .inl c:=by
 simp only [bulksM,h,h2]
theorem bulks_step {k m u:Nat} {l t:List UInt8} (h:markedM l 36 200= .inr (m,u)) (h2:someM (l.drop u) m= .inr t):bulksM (k+1) l=pre [t] (u+m+2) (bulksM k (l.drop (u+m+2))):=by
 simp only [bulksM,h,h2];cases bulksM k (l.drop (u+m+2)) with
 |inl c=>rfl
 |inr q=>obtain ⟨ts,v⟩:=q;rfl
theorem pre_pre (acc:List (List UInt8)) (t:List UInt8) (q x:Nat) (r:Int ⊕ (List (List UInt8)×Nat)):pre acc q (pre [t] x r)=pre (acc++ [t]) (q+x) r:=by
 cases r with
 |inl c=>rfl
 |inr p=>obtain ⟨ts,v⟩:=p;simp only [pre,List.append_assoc,List.singleton_append,Nat.add_assoc]
def ArgsEnd (w:World) (rb:Nat) (s:ByteArray) (at_:Nat):Int ⊕ (List (List UInt8)×Nat)→Ending→World→Prop
 | .inl c,e,w'=>e=gaveUp c∧w.grownBy w' (some rb)
 | .inr (ts,u),e,w'=>∃v,e= .returned v∧w'.ownsRow w.heap.size 9 1 v ts.length (strVals ts)∧RdAt w' rb s (at_+u)∧at_+u≤s.size∧w.grownBy w' (some rb)
theorem bulks_any (s:ByteArray) (at_ rb:Nat) (w:World) (hs:s.size≤2097152) (ha:at_≤s.size) (hr:Ready w) (h:RdAt w rb s at_) (hrb:25≤rb):
  Calls Tryz.prog 272 #[.pointer (some ⟨rb,0,none⟩)] w fun e w'=>ArgsEnd w rb s at_ (bulksAllM (s.data.toList.drop at_)) e w':=by
 obtain ⟨i0,hi,hz0,hz1,hz2⟩:=info_parts info9;have hlt:=RowAt.lt h;cases hm:markedM (s.data.toList.drop at_) 42 16 with
 |inl c=>
  have HM:Hid (bulksAllM (s.data.toList.drop at_)= .inl c):=by unfold Hid bulksAllM;rw [hm]
  have HC:=marked_any s at_ rb 42 42 16 (by decide) w hs ha hr h hrb;rw [hm] at HC;have HC':Hid (Calls Tryz.prog 292 #[.pointer (some ⟨rb,0,none⟩),.int .u8 42,.int .i64 16] w fun e w'=>e=gaveUp c∧w.grownBy w' (some rb)):=HC;clear HC hm;rw [HM.out];go_enter Tryz.func272,Tryz.ntmps272;go_wp2_with fail;refine HC'.out.mono ?_;rintro e w1 ⟨rfl,g1⟩;unfold gaveUp;go_wp2;exact ⟨rfl,rfl,g1⟩
 |inr p=>
  obtain ⟨n,u⟩:=p;have hn16:=marked_count hm;have HC:=marked_any s at_ rb 42 42 16 (by decide) w hs ha hr h hrb;rw [hm] at HC;have HC':Hid (Calls Tryz.prog 292 #[.pointer (some ⟨rb,0,none⟩),.int .u8 42,.int .i64 16] w fun e w'=>e= .returned (.int .i64 n)∧RdAt w' rb s (at_+u)∧at_+u≤s.size∧w.grownBy w' (some rb)):=HC;have HM:Hid (bulksAllM (s.data.toList.drop at_)=pre [] u (bulksM n (s.data.toList.drop (at_+u)))):=by
   unfold Hid bulksAllM;simp only [hm,List.drop_drop];cases bulksM n (s.data.toList.drop (at_+u)) with
   |inl c=>rfl
   |inr q=>obtain ⟨ts,v⟩:=q;rfl
  clear HC hm;rw [HM.out];go_enter Tryz.func272,Tryz.ntmps272;go_wp2_with fail;refine HC'.out.mono ?_;rintro e w1 ⟨rfl,r1,hau,g1⟩;go_wp2_with fail;go_loopw [3,6] (fun tr i wr=>∃(j:Nat) (acc:List (List UInt8)) (q:Nat),j≤n∧i= .int .i64 j∧acc.length=j∧wr.ownsRow w.heap.size 9 1 tr acc.length (strVals acc)∧RdAt wr rb s (at_+q)∧at_+q≤s.size∧w.grownBy wr (some rb)∧pre [] u (bulksM n (s.data.toList.drop (at_+u)))=pre acc q (bulksM (n-j) (s.data.toList.drop (at_+q)))) (fun _ i _=>n-(intOf i).toNat)
  case atStart=>exact ⟨0,[],u,by omega,rfl,rfl,World.ownsRow_nil _ _ _ _,r1,hau,g1,rfl⟩
  case round=>
   obtain ⟨j,acc,q,hj,rfl,hacc,hown,hrd,haq,gr,hpre⟩:=hrel;have HP:Hid (_=_):=hpre;clear hpre r1 hau g1;by_cases hlt2:j<n
   ·obtain ⟨k,hk⟩:∃k,n-j=k+1:=⟨n-j-1,by omega⟩;have hrr:=ready_grown hr gr hrb;have HC:=marked_any s (at_+q) rb 36 36 200 (by decide) wr hs haq hrr hrd hrb;rw [hk] at HP;cases hm:markedM (s.data.toList.drop (at_+q)) 36 200 with
    |inl c=>
     rw [hm] at HC;have HC':Hid (Calls Tryz.prog 292 #[.pointer (some ⟨rb,0,none⟩),.int .u8 36,.int .i64 200] wr fun e w'=>e=gaveUp c∧wr.grownBy w' (some rb)):=HC;rw [bulks_inl1 hm] at HP;clear HC hm hk;go_wp2_with fail;refine HC'.out.mono ?_;rintro e w2 ⟨rfl,g2⟩;unfold gaveUp;go_wp2;refine ⟨rfl,?_⟩;rw [HP.out];exact ⟨rfl,grown_trans gr g2⟩
    |inr p=>
     obtain ⟨m,x⟩:=p;rw [hm] at HC;have hm200:=marked_count hm;have HC':Hid (Calls Tryz.prog 292 #[.pointer (some ⟨rb,0,none⟩),.int .u8 36,.int .i64 200] wr fun e w'=>e= .returned (.int .i64 m)∧RdAt w' rb s (at_+q+x)∧at_+q+x≤s.size∧wr.grownBy w' (some rb)):=HC;clear HC;cases hsm:someM (s.data.toList.drop (at_+q+x)) m with
     |inl c=>
      rw [bulks_inl2 hm (by rw [List.drop_drop];exact hsm)] at HP;have HS:Hid (someM (s.data.toList.drop (at_+q+x)) m= .inl c):=hsm;clear hm hk hsm;go_wp2_with fail;refine HC'.out.mono ?_;rintro e w2 ⟨rfl,r2,h2,g2⟩;go_wp2_with fail;refine (some_inl s (at_+q+x) rb m c w2 hs h2 (by omega) r2 HS.out).mono ?_;rintro e w3 ⟨rfl,b3⟩;unfold gaveUp;go_wp2;refine ⟨rfl,?_⟩;rw [HP.out];exact ⟨rfl,grown_below (grown_trans gr g2) b3⟩
     |inr t=>
      rw [bulks_step hm (by rw [List.drop_drop];exact hsm),pre_pre,List.drop_drop] at HP;have HS:Hid (someM (s.data.toList.drop (at_+q+x)) m= .inr t):=hsm;have HKk:Hid (n-j=k+1):=hk;clear hm hk hsm;go_wp2_with fail;refine HC'.out.mono ?_;rintro e w2 ⟨rfl,r2,h2,g2⟩;obtain ⟨hfit,htl,HC3⟩:=some_inr s (at_+q+x) rb m t w2 hs h2 (by omega) r2 HS.out;have HC3':Hid (Calls Tryz.prog 293 #[.pointer (some ⟨rb,0,none⟩),.int .i64 m] w2 fun e w'=>e= .returned (.string ⟨t.toArray⟩)∧RdAt w' rb s (at_+q+x+m+2)∧w2.grownBy w' (some rb)):=HC3;clear HC3 htl;go_wp2_with fail;refine HC3'.out.mono ?_;rintro e w3 ⟨rfl,r3,g3⟩;have hob:Value.ownBlock u3≠some rb:=fun e=>by have:=(hown.lt rb e).1;omega
      have hown3:=(hown.kept g2 (.inr hob)).kept g3 (.inr hob);have g03:=grown_trans (grown_trans gr g2) g3;have sz3:=g03.size;go_wp2_with (at_builtin;refine wpList_append_own _ rfl _ _ 28 rfl w.heap.size 9 i0 _ 1 16 Tryz.underlying28 hi hz0 hz1 hz2 rfl (by decide) _ _ _ rfl (hown3.alloc _) ⟨w3.heap.size,0,none⟩ 1 1 [.string ⟨t.toArray⟩] rfl rfl ?c1 ?c2 ?c3 ?c4 ?c5 ?_)
      case c1=>exact cell_one_new _ _ _
      case c2=>intro y hy;simp at hy;subst hy;rfl
      case c3=>unfold maxLen;omega
      case c4=>omega
      case c5=>simp;omega
      intro v' w5 hown' hgrow _;have hol:∀k,Value.ownBlock u3=some k→w.heap.size≤k:=fun k hk=> (hown.lt k hk).1;have hold:∀k,k<w3.heap.size→some k≠Value.ownBlock u3→w5.heap[k]?=w3.heap[k]?:=fun k hk hne=>by
       rw [hgrow.block k (by simp;omega) hne];exact Below.heap_alloc _ _ _ hk
      have r5:RdAt w5 rb s (at_+(q+(x+m+2))):=by
       rw [show at_+(q+(x+m+2))=at_+q+x+m+2 from by omega];exact (hold rb (by omega) (fun e=>hob e.symm)).trans r3
      have g05:w.grownBy w5 (some rb):=⟨hgrow.os.trans g03.os,hgrow.tape.trans g03.tape,hgrow.output.trans g03.output,by have:=hgrow.size;simp at this;omega,fun k hk hne=> (hold k (by omega) (fun e=>by have:=hol k e.symm;omega)).trans (g03.block k hk hne)⟩;have HO:Hid (w5.ownsRow w.heap.size 9 1 v' (acc++ [t]).length (strVals (acc++ [t]))):=by
       unfold Hid;rw [List.length_append,hacc,strVals,List.map_append];exact hown'
      clear hown' hgrow hown3 hold hol;go_wp2;go_roundw
      case rel=>
       refine ⟨j+1,acc++ [t],q+(x+m+2),by omega,by go_num,by simp;omega,HO.out,r5,by omega,g05,?_⟩;have e1:n-(j+1)=k:=by have:=HKk.out;omega
       rw [HP.out,e1,show at_+q+(x+m+2)=at_+(q+(x+m+2)) from by omega]
      case measure=>simp [intOf]<;>omega
   ·obtain rfl:j=n:=by omega
    rw [Nat.sub_self] at HP;go_wp2;go_ret;rw [HP.out];refine ⟨_,rfl,?_,hrd,haq,gr⟩;rw [List.append_nil];exact hown
end Go.Proofs.YtibhabajknikcaaGreatDoor.Fd
