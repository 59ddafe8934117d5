import Derived.Test.YtibhabajknikcaaGreatDoorFSpWords
set_option maxHeartbeats 8000000
set_option maxRecDepth 100000
namespace Go.Proofs.YtibhabajknikcaaGreatDoor.Fd
open Go.RowKit Go.Sort
theorem ReqEnd.cases {w:World} {m:Int ⊕ (List (List UInt8)×Nat)} {e:Ending} {w':World} (h:ReqEnd w m e w'):∃a b c,e= .returned (.tuple #[a,b,c]):=by
 match m,h with
 | .inl c,⟨he,_⟩=>exact ⟨_,_,_,he⟩
 | .inr (ts,u),⟨v,he,_⟩=>exact ⟨_,_,_,he⟩
theorem empty_no {s:ByteArray} (h:0<s.size):s.toList.isEmpty=false:=by
 rw [ByteArray.toList_eq];rw [Lib.size_eq] at h;cases hd:s.data.toList with
 |nil=>rw [hd] at h;cases h
 |cons b r=>rfl
theorem empty_yes {s:ByteArray} (h:s.size=0):s.toList.isEmpty=true:=by
 rw [ByteArray.toList_eq];rw [Lib.size_eq] at h;cases hd:s.data.toList with
 |nil=>rfl
 |cons b r=>rw [hd] at h;cases h
theorem first_of {s:ByteArray} {b:UInt8} {r:List UInt8} (hd:s.data.toList=b::r) (h:0<s.size):s[0]'h=b:=by
 have h1:=sget s 0 h;rw [hd] at h1;simp at h1;exact h1.symm
theorem spReq_plain (s:ByteArray) (w:World) (hs:s.size≤2097152) (h42:∀h:0<s.size,¬(s[0]'h).toNat=42):
  Calls Tryz.prog 70 #[.string s] w (ReqEnd w (requestM s.data.toList)):=by
 by_cases h0:s.size=0
 ·have HM:Hid (requestM s.data.toList= .inl 1):=by
   have:s.data.toList=[]:=List.eq_nil_of_length_eq_zero (by rw [←Lib.size_eq];exact h0);unfold Hid;rw [this];rfl
  have he:=empty_yes h0;clear h42;go_enter Tryz.func70,Tryz.ntmps70;go_wp2;go_ret3;rw [HM.out];exact ⟨rfl,Below.refl _ _⟩
 ·have hbi:¬((s[0]'(by omega)).toNat:Int)=42:=by have:=h42 (by omega);omega
  have HM:Hid (requestM s.data.toList=lineWords s.data.toList):=by
   have hl:0<s.data.toList.length:=by rw [←Lib.size_eq];omega
   unfold Hid requestM;match hd:s.data.toList,hl with
   |b::r,_=>
    show (if b=42 then _ else _)=_;rw [if_neg];intro e;exact h42 (by omega) (by rw [first_of hd (by omega),e];rfl)
  have he:=empty_no (s:=s) (by omega);clear h42;go_enter Tryz.func70,Tryz.ntmps70;go_wp2_with fail;refine (spWords s w hs).mono ?_;intro e w1 h1;rw [←HM.out] at h1;have H1:Hid (ReqEnd w (requestM s.data.toList) e w1):=h1;obtain ⟨x,y,z,rfl⟩:=h1.cases;clear h1;go_wp2;go_ret3;exact H1.out
theorem line_star {l line:List UInt8} (h:lineM l= .inr line) (h0:l[0]?=some 42):∃r,line=42::r:=by
 match l,h0 with
 |b::l',h0=>
  simp at h0;subst h0;unfold lineM at h;split at h
  ·rename_i hi;injection h with h;have hne:Lib.index (42::l') [13,10]≠0:=by
    have:=index_skip (42::l') 0 (by simp) (by simp);rw [List.drop_zero] at this;rw [this];split
    ·omega
    ·have:=Lib.index_ge ((42::l':List UInt8).drop (0+1)) [13,10];omega
   obtain ⟨k,hk⟩:∃k,(Lib.index (42::l') [13,10]).toNat=k+1:=⟨(Lib.index (42::l') [13,10]).toNat-1,by omega⟩;rw [hk] at h;exact ⟨l'.take k,by rw [←h];rfl⟩
  ·split at h<;>cases h
theorem lineM_codes {l:List UInt8} {c:Int} (h:lineM l= .inl c):c=1∨c=2:=by
 unfold lineM at h;split at h
 ·cases h
 ·split at h<;> (injection h with h;omega)
theorem someM_codes {l:List UInt8} {n:Nat} {c:Int} (h:someM l n= .inl c):c=1∨c=2:=by
 unfold someM at h;split at h
 ·injection h with h;omega
 ·split at h
  ·cases h
  ·injection h with h;omega
theorem count_of (r:List UInt8) (most:Int):countM r most=if (intI r).2=true∧0≤(intI r).1∧(intI r).1≤most then some (intI r).1.toNat else none:=by
 unfold countM;rw [decM_intI];by_cases h:(intI r).2=true
 ·rw [if_pos h];show (if _ then _ else _)=_;by_cases h2:0≤(intI r).1∧(intI r).1≤most
  ·rw [if_pos h2,if_pos ⟨h,h2⟩]
  ·rw [if_neg h2,if_neg (fun x=>h2 x.2)]
 ·rw [if_neg h,if_neg (fun x=>h x.1)];rfl
theorem marked_line {l r:List UInt8} {mark:UInt8} {most:Int} (h:lineM l= .inr (mark::r)):markedM l mark most=match countM r most with|some n=> .inr (n,r.length+3)|none=> .inl 2:=by
 unfold markedM;rw [h];cases hcm:countM r most<;>simp [hcm]
end Go.Proofs.YtibhabajknikcaaGreatDoor.Fd
namespace Go.Proofs.YtibhabajknikcaaGreatDoor.Fd
open Go.RowKit Go.Sort
theorem spStar_cut (s:ByteArray) (c:Int) (w:World) (hs:s.size≤2097152) (hp:0<s.size) (h42:(s[0]'hp).toNat=42) (hline:lineM s.data.toList= .inl c):
  Calls Tryz.prog 70 #[.string s] w (ReqEnd w (.inl c)):=by
 have h42i:((s[0]'hp).toNat:Int)=42:=by omega
 have hc:=lineM_codes hline;have hcz:(c==0)=false:=by rw [beq_eq_false_iff_ne];omega
 have HL:Hid (lineM (s.data.toList.drop 0)= .inl c):=by unfold Hid;rw [List.drop_zero];exact hline
 have he:=empty_no hp;clear hline;go_enter Tryz.func70,Tryz.ntmps70;go_wp2_with fail;have hb1:Below w.heap.size w (w.alloc (.cells #[.string s,.int .i64 0,.int .i64 0,.slice none 0 0] 148)):=(Below.refl _ w).alloc (Nat.le_refl _) _;have h1:SpAt (w.alloc (.cells #[.string s,.int .i64 0,.int .i64 0,.slice none 0 0] 148)) w.heap.size s 0 0:=RowAt.new w 148 _;have l1:=RowAt.lt h1;generalize hrb:w.heap.size=rb at*;generalize w.alloc (.cells #[.string s,.int .i64 0,.int .i64 0,.slice none 0 0] 148)=w1 at*;have HC:=spLine s 0 rb w1 hs (by omega) h1;rw [HL.out] at HC;have HC':Hid (Calls Tryz.prog 107 #[.pointer (some ⟨rb,0,none⟩)] w1 fun e w'=>e= .returned (.string ⟨#[]⟩)∧SpAt w' rb s 0 c∧w1.grownBy w' (some rb)):=HC;clear HC;refine HC'.out.mono ?_;rintro e w2 ⟨rfl,r2,g2⟩;have c2:=RowAt.cell r2 2;simp at c2;have l2:=RowAt.lt r2;have bb:Below rb w w2:=hb1.trans (below_of_grown g2 (Nat.le_refl _) (by omega));have hd:decide ((0:Int)≤0∧(0:Int)≤16)=true:=by decide
 clear r2 h1 HC' HL;go_wp2_with fail;refine (l1In_any 0 0 16 w2).mono ?_;rintro e w3 ⟨rfl,rfl⟩;rw [hd];go_wp2;refine wp_loop_rounds 1 ?_;rw [rounds_succ];go_wp2;have b3:Below w3.heap.size w3 (w3.alloc (.cells #[] 9)):=(Below.refl _ w3).alloc (Nat.le_refl _) _;have c3:(w3.alloc (.cells #[] 9)).cell? ⟨rb,2,none⟩=some (.int .i64 c):=(b3.cell (p:=⟨rb,2,none⟩) l2).trans c2;have bb3:=bb.trans (b3.mono (by omega));generalize w3.alloc (.cells #[] 9)=w4 at*;clear c2;go_quiet ((fail));go_wp2;go_ret3;refine ⟨rfl,?_⟩;rw [hrb];exact below_drewN bb3 _
def restM (l r:List UInt8) (n:Nat):Int ⊕ (List (List UInt8)×Nat):=pre [] (r.length+3) (bulksM n (l.drop (r.length+3)))
theorem star_all {l r:List UInt8} (h0:l[0]?=some 42) (h:lineM l= .inr (42::r)):requestM l=match countM r 16 with|some n=>restM l r n|none=> .inl 2:=by
 match l,h0 with
 |b::l',h0=>
  simp at h0;subst h0;show (if (42:UInt8)=42 then bulksAllM (42::l') else lineWords (42::l'))=_;rw [if_pos rfl];unfold bulksAllM;rw [marked_line (mark:=42) h];cases hcm:countM r 16 with
  |none=>rfl
  |some n=>
   unfold restM;cases hb:bulksM n (List.drop (r.length+3) (42::l')) with
   |inl c=>simp [pre]
   |inr q=>obtain ⟨ts,v⟩:=q;simp [pre]
theorem lb_facts {lb:ByteArray} {b:UInt8} {r:List UInt8} (h:lb=⟨(b::r).toArray⟩):lb.data.toList=b::r∧lb.size=r.length+1:=by
 subst h;exact ⟨rfl,by show ((b::r).toArray).size=_;simp⟩
theorem lb_rest {lb:ByteArray} {b:UInt8} {r:List UInt8} (h:lb.data.toList=b::r):(lb.extract 1 lb.size).data.toList=r:=by
 rw [Lib.extract_to_end lb 1,h];rfl
def LoopSp (w:World) (s:ByteArray) (u n j:Nat) (tr:Value) (wr:World):Prop:=
 ∃(acc:List (List UInt8)) (q:Nat) (code:Int),wr.ownsRow (w.heap.size+1) 9 1 tr acc.length (strVals acc)∧acc.length=j∧SpAt wr w.heap.size s q code∧Below w.heap.size w wr∧
  ((code=0∧q≤s.size∧Hid (pre [] u (bulksM n (s.data.toList.drop u))=pre acc q (bulksM (n-j) (s.data.toList.drop q))))∨((code=1∨code=2)∧Hid (pre [] u (bulksM n (s.data.toList.drop u))= .inl code)))
theorem spStar_line (s:ByteArray) (r:List UInt8) (w:World) (hs:s.size≤2097152) (hp:0<s.size) (h42:(s[0]'hp).toNat=42) (hline:lineM s.data.toList= .inr (42::r)):
  Calls Tryz.prog 70 #[.string s] w (ReqEnd w (requestM s.data.toList)):=by
 have h42i:((s[0]'hp).toNat:Int)=42:=by omega
 have HM:Hid (requestM s.data.toList=_):=star_all (by rw [sget s 0 hp,byte_eq h42];rfl) hline;have HL:Hid (lineM (s.data.toList.drop 0)= .inr (42::r)):=by unfold Hid;rw [List.drop_zero];exact hline
 have he:=empty_no hp;rw [count_of] at HM;clear hline;go_enter Tryz.func70,Tryz.ntmps70;go_wp2_with fail;have hb1:Below w.heap.size w (w.alloc (.cells #[.string s,.int .i64 0,.int .i64 0,.slice none 0 0] 148)):=(Below.refl _ w).alloc (Nat.le_refl _) _;have h1:SpAt (w.alloc (.cells #[.string s,.int .i64 0,.int .i64 0,.slice none 0 0] 148)) w.heap.size s 0 0:=RowAt.new w 148 _;have l1:=RowAt.lt h1;generalize w.alloc (.cells #[.string s,.int .i64 0,.int .i64 0,.slice none 0 0] 148)=w1 at*;have HC:=spLine s 0 w.heap.size w1 hs (by omega) h1;rw [HL.out] at HC;have HC':Hid (Calls Tryz.prog 107 #[.pointer (some ⟨w.heap.size,0,none⟩)] w1 fun e w'=>e= .returned (.string ⟨(42::r).toArray⟩)∧SpAt w' w.heap.size s (0+(42::r).length+2) 0∧0+(42::r).length+2≤s.size∧w1.grownBy w' (some w.heap.size)):=HC;clear HC;refine HC'.out.mono ?_;rintro e w2 ⟨rfl,r2,hfit,g2⟩;have c2:=RowAt.cell r2 2;simp at c2;have l2:=RowAt.lt r2;have bb:Below w.heap.size w w2:=hb1.trans (below_of_grown g2 (Nat.le_refl _) (by omega));obtain ⟨lb,hlb⟩:∃lb:ByteArray,lb=⟨(42::r).toArray⟩:=⟨_,rfl⟩;obtain ⟨hlt,hlz⟩:=lb_facts hlb;rw [←hlb];simp only [List.length_cons] at hfit;have HX:Hid ((lb.extract 1 lb.size).data.toList=r):=lb_rest hlt;have hlz2:lb.size≤2097152:=by omega
 have hlz1:(1:Int)≤(lb.size:Int):=by omega
 have R2:Hid (SpAt w2 w.heap.size s (r.length+3) 0):=by
  unfold Hid;rw [show r.length+3=0+(42::r).length+2 from by simp];exact r2
 have HLZ:Hid (lb.size=r.length+1):=hlz;clear r2 h1 HC' HL hlb hlt hlz;go_wp2_with fail;refine (l1Int_any (lb.extract 1 lb.size) w2 (by simp;omega)).mono ?_;rintro e w3 ⟨rfl,rfl⟩;rw [HX.out];generalize hib:(intI r).2=ib at*;generalize hiz:(intI r).1=iz at*;clear hib hiz;cases ib with
 |false=>
  rw [if_neg (by simp)] at HM;go_wp2;go_ret3;rw [HM.out];exact ⟨rfl,bb⟩
 |true=>
  by_cases hin:0≤iz∧iz≤16
  ·rw [if_pos ⟨rfl,hin⟩] at HM;have hd:decide (0≤iz∧iz≤16)=true:=decide_eq_true hin;obtain ⟨n,hn⟩:∃n:Nat,iz=n:=⟨iz.toNat,by omega⟩;subst hn;rw [Int.toNat_natCast] at HM;go_wp2_with fail;refine (l1In_any (n:Int) 0 16 w3).mono ?_;rintro e w4 ⟨rfl,rfl⟩;rw [hd];go_wp2;have HO0:Hid ((w4.alloc (.cells #[] 9)).ownsRow (w.heap.size+1) 9 1 (.slice (some ⟨w4.heap.size,0,none⟩) 0 0) 0 (strVals [])):=Joins.ownsRow_le (owns_none w4) (by omega);have hb5:Below w4.heap.size w4 (w4.alloc (.cells #[] 9)):=(Below.refl _ w4).alloc (Nat.le_refl _) _;have R5:Hid (SpAt (w4.alloc (.cells #[] 9)) w.heap.size s (r.length+3) 0):=RowAt.below R2.out hb5 l2;have bb5:Below w.heap.size w (w4.alloc (.cells #[] 9)):=bb.trans (hb5.mono (by omega));generalize w4.alloc (.cells #[] 9)=w5 at*;obtain ⟨i0,hi,hz0,hz1,hz2⟩:=info_parts info9w;clear hb5 c2 l1 hb1 bb g2;unfold restM at HM;go_loopw [6,9,10,11,12] (fun _ tr i _ _ wr=>∃j:Nat,j≤n∧i= .int .i64 j∧LoopSp w s (r.length+3) n j tr wr) (fun _ _ i _ _ _=>n-(intOf i).toNat)
   case atStart=>exact ⟨0,by omega,rfl,[],r.length+3,0,HO0.out,rfl,R5.out,bb5,.inl ⟨rfl,by omega,rfl⟩⟩
   case round=>
    obtain ⟨j,hj,rfl,acc,q,code,hown,hacc,hsp,bk,hst⟩:=hrel;have sk:=bk.size;have c2:=RowAt.cell hsp 2;have c1:=RowAt.cell hsp 1;simp at c1 c2;have lr:=RowAt.lt hsp;clear HO0 R5 bb5;rcases hst with ⟨rfl,hq,HP⟩|⟨hcode,HP⟩
    ·by_cases hjn:j<n
     ·obtain ⟨k,hk⟩:∃k,n-j=k+1:=⟨n-j-1,by omega⟩;have HC:=spLine s q w.heap.size wr hs hq hsp;rw [hk] at HP;cases hm:lineM (s.data.toList.drop q) with
      |inl c=>
       rw [hm] at HC;have hcc:=lineM_codes hm;have HC':Hid (Calls Tryz.prog 107 #[.pointer (some ⟨w.heap.size,0,none⟩)] wr fun e w'=>e= .returned (.string ⟨#[]⟩)∧SpAt w' w.heap.size s q c∧wr.grownBy w' (some w.heap.size)):=HC;have hmk:markedM (s.data.toList.drop q) 36 200= .inl c:=by unfold markedM;rw [hm]
       rw [bulks_inl1 hmk] at HP;have HR:Hid (requestM s.data.toList= .inl c):=by
        unfold Hid;rw [HM.out];exact HP.out
       have hcz:(c==0)=false:=by rw [beq_eq_false_iff_ne];omega
       clear HP HM HC hm hmk hk;go_wp2_with fail;refine HC'.out.mono ?_;rintro e w6 ⟨rfl,r6,g6⟩;have c6:=RowAt.cell r6 2;simp at c6;have b6:=bk.trans (below_of_grown g6 (Nat.le_refl _) (by omega));go_wp2;go_quiet ((fail));go_wp2;go_ret3;rw [HR.out];exact ⟨rfl,below_drewN b6 _⟩
      |inr line=>
       rw [hm] at HC;have HC':Hid (Calls Tryz.prog 107 #[.pointer (some ⟨w.heap.size,0,none⟩)] wr fun e w'=>e= .returned (.string ⟨line.toArray⟩)∧SpAt w' w.heap.size s (q+line.length+2) 0∧q+line.length+2≤s.size∧wr.grownBy w' (some w.heap.size)):=HC;clear HC;cases line with
       |nil=>
        have hmk:markedM (s.data.toList.drop q) 36 200= .inl 2:=by unfold markedM;rw [hm]
        rw [bulks_inl1 hmk] at HP;have HR:Hid (requestM s.data.toList= .inl 2):=by
         unfold Hid;rw [HM.out];exact HP.out
        clear HP HM hm hmk hk;go_wp2_with fail;refine HC'.out.mono ?_;rintro e w6 ⟨rfl,r6,hfit6,g6⟩;have c6:=RowAt.cell r6 2;simp at c6;have b6:=bk.trans (below_of_grown g6 (Nat.le_refl _) (by omega));go_wp2;go_ret3;rw [HR.out];exact ⟨rfl,b6⟩
       |cons b r'=>
        obtain ⟨lb2,hlb2⟩:∃lb:ByteArray,lb=⟨(b::r').toArray⟩:=⟨_,rfl⟩;obtain ⟨hlt2,hlz2'⟩:=lb_facts hlb2;have hlp:0<lb2.size:=by omega
        have he2:=empty_no hlp;have hf2:=first_of hlt2 hlp;have HX2:Hid ((lb2.extract 1 lb2.size).data.toList=r'):=lb_rest hlt2;rw [←hlb2] at HC';by_cases hb:b=36
        ·subst hb;have hmk:=marked_line (mark:=36) (most:=200) hm;rw [count_of] at hmk;have hfi:((lb2[0]'hlp).toNat:Int)=36:=by rw [hf2];rfl
         have HK:Hid _:=hmk;have HLZ2:Hid (lb2.size=r'.length+1):=hlz2';have HKk:Hid (n-j=k+1):=hk;clear hm hmk hk hlb2 hlt2 hf2 hlz2';go_wp2_with fail;refine HC'.out.mono ?_;rintro e w6 ⟨rfl,r6,hfit6,g6⟩;have c6:=RowAt.cell r6 2;simp at c6;have b6:=bk.trans (below_of_grown g6 (Nat.le_refl _) (by omega));have l6:=RowAt.lt r6;simp only [List.length_cons] at hfit6;have hz6:lb2.size≤2097152:=by have:=HLZ2.out;omega
         have hz61:(1:Int)≤(lb2.size:Int):=by omega
         have R6:Hid (SpAt w6 w.heap.size s (q+(r'.length+3)) 0):=by
          unfold Hid;rw [show q+(r'.length+3)=q+(36::r').length+2 from by simp;omega];exact r6
         clear r6;go_wp2_with fail;refine (l1Int_any (lb2.extract 1 lb2.size) w6 (by simp;omega)).mono ?_;rintro e w7 ⟨rfl,rfl⟩;rw [HX2.out];generalize hib:(intI r').2=ib at*;generalize hiz:(intI r').1=iz at*;clear hib hiz;cases ib with
         |false=>
          rw [if_neg (by simp)] at HK;rw [bulks_inl1 HK.out] at HP;have HR:Hid (requestM s.data.toList= .inl 2):=by
           unfold Hid;rw [HM.out];exact HP.out
          clear HP HM HK;go_wp2;go_ret3;rw [HR.out];exact ⟨rfl,b6⟩
         |true=>
          by_cases hin2:0≤iz∧iz≤200
          ·rw [if_pos ⟨rfl,hin2⟩] at HK;have hd2:decide (0≤iz∧iz≤200)=true:=decide_eq_true hin2;obtain ⟨m,hmz⟩:∃m:Nat,iz=m:=⟨iz.toNat,by omega⟩;subst hmz;rw [Int.toNat_natCast] at HK;have HK':Hid (markedM (s.data.toList.drop q) 36 200= .inr (m,r'.length+3)):=HK;clear HK;have HCB:=spBulk s (q+(r'.length+3)) w.heap.size m w7 hs (by omega) (by omega) R6.out;cases hsm:someM (s.data.toList.drop (q+(r'.length+3))) m with
           |inl c=>
            rw [hsm] at HCB;have hcc:=someM_codes hsm;rw [bulks_inl2 HK'.out (by rw [List.drop_drop];exact hsm)] at HP;have HCB':Hid (Calls Tryz.prog 109 #[.pointer (some ⟨w.heap.size,0,none⟩),.int .i64 m] w7 fun e w'=>∃t a,e= .returned (.string t)∧t.size≤2097152∧SpAt w' w.heap.size s a c∧w7.grownBy w' (some w.heap.size)):=HCB;clear HCB hsm;have HPc:Hid (pre [] (r.length+3) (bulksM n (s.data.toList.drop (r.length+3)))= .inl c):=HP;clear HP;go_wp2_with fail;refine (l1In_any (m:Int) 0 200 w7).mono ?_;rintro e w7' ⟨rfl,rfl⟩;rw [hd2];go_wp2_with fail;refine HCB'.out.mono ?_;rintro e w8 ⟨t,a8,rfl,htz,r8,g8⟩;have hob:Value.ownBlock u9≠some w.heap.size:=fun e=>by have:=(hown.lt w.heap.size e).1;omega
            have hown8:=(hown.kept g6 (.inr hob)).kept g8 (.inr hob);have b8:=b6.trans (below_of_grown g8 (Nat.le_refl _) (by omega));have s8:=b8.size;have l8:=RowAt.lt r8;go_wp2_with (at_builtin;refine wpList_append_own _ rfl _ _ 28 rfl (w.heap.size+1) 9 i0 _ 1 16 Tryz.underlying28 hi hz0 hz1 hz2 rfl (by decide) _ _ _ rfl (hown8.alloc _) ⟨w8.heap.size,0,none⟩ 1 1 [.string t] rfl rfl ?c1 ?c2 ?c3 ?c4 ?c5 ?_)
            case c1=>exact cell_one_new _ _ _
            case c2=>intro y hy;simp at hy;subst hy;rfl
            case c3=>unfold maxLen;omega
            case c4=>omega
            case c5=>simp;omega
            intro v' w9 hown' hgrow _;have hol:∀k,Value.ownBlock u9=some k→w.heap.size+1≤k:=fun k hk=> (hown.lt k hk).1;have hold:∀k,k<w8.heap.size→some k≠Value.ownBlock u9→w9.heap[k]?=w8.heap[k]?:=fun k hk hne=>by
             rw [hgrow.block k (by simp;omega) hne];exact Below.heap_alloc _ _ _ hk
            have r9:=(hold w.heap.size l8 (fun e=>hob e.symm)).trans r8;have b9:Below w.heap.size w w9:=⟨hgrow.os.trans b8.os,hgrow.tape.trans b8.tape,hgrow.output.trans b8.output,by have:=hgrow.size;simp at this;omega,fun i hi=> (hold i (by omega) (fun e=>by have:=hol i e.symm;omega)).trans (b8.block i hi)⟩;have HO9:Hid (w9.ownsRow (w.heap.size+1) 9 1 v' (acc++ [t.data.toList]).length (strVals (acc++ [t.data.toList]))):=by
             unfold Hid;rw [List.length_append,hacc,strVals,List.map_append];show World.ownsRow w9 _ 9 1 v' _ (_++ [Value.string ⟨t.data.toList.toArray⟩]);rw [show (⟨t.data.toList.toArray⟩:ByteArray)=t from (str_of t _ rfl).symm];exact hown'
            clear hown' hgrow hown8 hold hol;go_wp2;go_roundw
            case rel=>exact ⟨j+1,by omega,by go_num,acc++ [t.data.toList],a8,c,HO9.out,by simp;omega,r9,b9,.inr ⟨hcc,HPc⟩⟩
            case measure=>simp [intOf];omega
           |inr t=>
            rw [hsm] at HCB;rw [bulks_step HK'.out (by rw [List.drop_drop];exact hsm),pre_pre,List.drop_drop] at HP;have HCB':Hid (Calls Tryz.prog 109 #[.pointer (some ⟨w.heap.size,0,none⟩),.int .i64 m] w7 fun e w'=>e= .returned (.string ⟨t.toArray⟩)∧SpAt w' w.heap.size s (q+(r'.length+3)+m+2) 0∧q+(r'.length+3)+m+2≤s.size∧w7.grownBy w' (some w.heap.size)):=HCB;clear HCB hsm;go_wp2_with fail;refine (l1In_any (m:Int) 0 200 w7).mono ?_;rintro e w7' ⟨rfl,rfl⟩;rw [hd2];go_wp2_with fail;refine HCB'.out.mono ?_;rintro e w8 ⟨rfl,r8,hfit8,g8⟩;have hob:Value.ownBlock u9≠some w.heap.size:=fun e=>by have:=(hown.lt w.heap.size e).1;omega
            have hown8:=(hown.kept g6 (.inr hob)).kept g8 (.inr hob);have b8:=b6.trans (below_of_grown g8 (Nat.le_refl _) (by omega));have s8:=b8.size;have l8:=RowAt.lt r8;go_wp2_with (at_builtin;refine wpList_append_own _ rfl _ _ 28 rfl (w.heap.size+1) 9 i0 _ 1 16 Tryz.underlying28 hi hz0 hz1 hz2 rfl (by decide) _ _ _ rfl (hown8.alloc _) ⟨w8.heap.size,0,none⟩ 1 1 [.string ⟨t.toArray⟩] rfl rfl ?c1 ?c2 ?c3 ?c4 ?c5 ?_)
            case c1=>exact cell_one_new _ _ _
            case c2=>intro y hy;simp at hy;subst hy;rfl
            case c3=>unfold maxLen;omega
            case c4=>omega
            case c5=>simp;omega
            intro v' w9 hown' hgrow _;have hol:∀k,Value.ownBlock u9=some k→w.heap.size+1≤k:=fun k hk=> (hown.lt k hk).1;have hold:∀k,k<w8.heap.size→some k≠Value.ownBlock u9→w9.heap[k]?=w8.heap[k]?:=fun k hk hne=>by
             rw [hgrow.block k (by simp;omega) hne];exact Below.heap_alloc _ _ _ hk
            have r9:=(hold w.heap.size l8 (fun e=>hob e.symm)).trans r8;have b9:Below w.heap.size w w9:=⟨hgrow.os.trans b8.os,hgrow.tape.trans b8.tape,hgrow.output.trans b8.output,by have:=hgrow.size;simp at this;omega,fun i hi=> (hold i (by omega) (fun e=>by have:=hol i e.symm;omega)).trans (b8.block i hi)⟩;have HO9:Hid (w9.ownsRow (w.heap.size+1) 9 1 v' (acc++ [t]).length (strVals (acc++ [t]))):=by
             unfold Hid;rw [List.length_append,hacc,strVals,List.map_append];exact hown'
            clear hown' hgrow hown8 hold hol;go_wp2;go_roundw
            case rel=>
             refine ⟨j+1,by omega,by go_num,acc++ [t],q+(r'.length+3+m+2),0,HO9.out,by simp;omega,?_,b9,.inl ⟨rfl,by omega,?_⟩⟩
             ·rw [show q+(r'.length+3+m+2)=q+(r'.length+3)+m+2 from by omega];exact r9
             ·have e1:n-(j+1)=k:=by have:=HKk.out;omega
              unfold Hid;rw [HP.out,e1]
            case measure=>simp [intOf];omega
          ·rw [if_neg (fun h=>hin2 h.2)] at HK;have hd2:decide (0≤iz∧iz≤200)=false:=decide_eq_false hin2;rw [bulks_inl1 HK.out] at HP;have HR:Hid (requestM s.data.toList= .inl 2):=by
            unfold Hid;rw [HM.out];exact HP.out
           clear HP HM HK;go_wp2_with fail;refine (l1In_any iz 0 200 w7).mono ?_;rintro e w8 ⟨rfl,rfl⟩;rw [hd2];go_wp2;go_ret3;rw [HR.out];exact ⟨rfl,b6⟩
        ·have hmk:markedM (s.data.toList.drop q) 36 200= .inl 2:=by
          unfold markedM;rw [hm];show (if b=36 then _ else _)=_;rw [if_neg hb]
         rw [bulks_inl1 hmk] at HP;have HR:Hid (requestM s.data.toList= .inl 2):=by
          unfold Hid;rw [HM.out];exact HP.out
         have hfi:¬((lb2[0]'hlp).toNat:Int)=36:=by
          rw [hf2];intro e;exact hb (by have:=byte_eq (x:=b) (n:=36) (by omega);rw [this];rfl)
         clear HP HM hm hmk hk hlb2 hlt2 hf2 hb;go_wp2_with fail;refine HC'.out.mono ?_;rintro e w6 ⟨rfl,r6,hfit6,g6⟩;have c6:=RowAt.cell r6 2;simp at c6;have b6:=bk.trans (below_of_grown g6 (Nat.le_refl _) (by omega));go_wp2;go_ret3;rw [HR.out];exact ⟨rfl,b6⟩
     ·obtain rfl:j=n:=by omega
      rw [Nat.sub_self,bulksM] at HP;have HR:Hid (requestM s.data.toList= .inr (acc,q)):=by
       unfold Hid;rw [HM.out];show pre [] _ _=_;rw [HP.out];simp [pre]
      have hjj:¬(j:Int)<(j:Int):=by omega
      have HO:Hid (wr.ownsRow w.heap.size 9 1 u9 acc.length (strVals acc)):=Joins.ownsRow_le hown (by omega);clear HP HM;go_wp2;go_quiet ((fail));go_wp2;go_ret3;rw [HR.out];exact ⟨_,rfl,HO.out,below_drewN bk _⟩
    ·have HR:Hid (requestM s.data.toList= .inl code):=by
      unfold Hid;rw [HM.out];exact HP.out
     have hcz:(code==0)=false:=by rw [beq_eq_false_iff_ne];omega
     clear HP HM;by_cases hjn:j<n
     ·go_wp2;go_quiet ((fail));go_wp2;go_ret3;rw [HR.out];exact ⟨rfl,below_drewN bk _⟩
     ·go_wp2;go_quiet ((fail));go_wp2;go_ret3;rw [HR.out];exact ⟨rfl,below_drewN bk _⟩
  ·rw [if_neg (fun h=>hin h.2)] at HM;have hd:decide (0≤iz∧iz≤16)=false:=decide_eq_false hin;go_wp2_with fail;refine (l1In_any iz 0 16 w3).mono ?_;rintro e w4 ⟨rfl,rfl⟩;rw [hd];go_wp2;go_ret3;rw [HM.out];exact ⟨rfl,bb⟩
theorem spReq (s:ByteArray) (w:World) (hs:s.size≤2097152):Calls Tryz.prog 70 #[.string s] w (ReqEnd w (requestM s.data.toList)):=by
 by_cases hp:0<s.size
 ·by_cases h42:(s[0]'hp).toNat=42
  ·have h0:s.data.toList[0]?=some 42:=by rw [sget s 0 hp,byte_eq h42];rfl
   cases hline:lineM s.data.toList with
   |inl c=>
    have:requestM s.data.toList= .inl c:=by
     match hd:s.data.toList,h0 with
     |b::l',h0=>
      simp at h0;subst h0;rw [hd] at hline;show (if (42:UInt8)=42 then bulksAllM (42::l') else lineWords (42::l'))=_;rw [if_pos rfl];unfold bulksAllM markedM;rw [hline]
    rw [this];exact spStar_cut s c w hs hp h42 hline
   |inr line=>
    obtain ⟨r,rfl⟩:=line_star hline h0;exact spStar_line s r w hs hp h42 hline
  ·exact spReq_plain s w hs (fun _=>h42)
 ·exact spReq_plain s w hs (fun h=>absurd h hp)
end Go.Proofs.YtibhabajknikcaaGreatDoor.Fd
namespace Go.Proofs.YtibhabajknikcaaGreatDoor.Fd
open Go.RowKit Go.Sort
theorem markedM_codes {l:List UInt8} {mark:UInt8} {most c:Int} (h:markedM l mark most= .inl c):c=1∨c=2:=by
 unfold markedM at h;split at h
 ·rename_i hm;injection h with h;subst h;exact lineM_codes hm
 ·injection h with h;omega
 ·split at h
  ·split at h
   ·cases h
   ·injection h with h;omega
  ·injection h with h;omega
theorem bulksM_codes:∀(n:Nat) (l:List UInt8) (c:Int),bulksM n l= .inl c→c=1∨c=2
 |0,l,c,h=>by rw [bulksM] at h;cases h
 |n+1,l,c,h=>by
  rw [bulksM] at h;split at h
  ·rename_i hm;injection h with h;subst h;exact markedM_codes hm
  ·split at h
   ·rename_i hm;injection h with h;subst h;exact someM_codes hm
   ·split at h
    ·rename_i hm;injection h with h;subst h;exact bulksM_codes n _ _ hm
    ·cases h
theorem requestM_codes {l:List UInt8} {c:Int} (h:requestM l= .inl c):c=1∨c=2:=by
 unfold requestM at h;split at h
 ·injection h with h;omega
 ·split at h
  ·unfold bulksAllM at h;split at h
   ·rename_i hm;injection h with h;subst h;exact markedM_codes hm
   ·split at h
    ·rename_i hm;injection h with h;subst h;exact bulksM_codes _ _ _ hm
    ·cases h
  ·unfold lineWords at h;split at h
   ·injection h with h;omega
   ·split at h
    ·injection h with h;split at h<;>omega
    ·split at h
     ·cases h
     ·injection h with h;omega
theorem readReq (s:ByteArray) (w:World) (hs:s.size≤2097152) (hr:Ready w):Calls Tryz.prog 200 #[.string s] w (ReqEnd w (requestM s.data.toList)):=by
 cases hm:requestM s.data.toList with
 |inl c=>exact readReq_gave s c (by have:=requestM_codes hm;omega) w hs hr hm
 |inr q=>
  obtain ⟨ts,u⟩:=q;exact readReq_done s ts u w hs hr hm
end Go.Proofs.YtibhabajknikcaaGreatDoor.Fd
namespace Go.Proofs.YtibhabajknikcaaGreatDoor.Fd
open Go.RowKit Go.Sort
theorem someM_len {l t:List UInt8} {n:Nat} (h:someM l n= .inr t):t.length≤l.length:=by
 unfold someM at h;split at h
 ·cases h
 ·split at h
  ·injection h with h;subst h;rw [List.length_take];omega
  ·cases h
theorem bulksM_args:∀(n:Nat) (l:List UInt8) (ts:List (List UInt8)) (v:Nat),bulksM n l= .inr (ts,v)→ts.length=n∧∀t∈ts,t.length≤l.length
 |0,l,ts,v,h=>by
  rw [bulksM] at h;injection h with h;injection h with h1 h2;subst h1;exact ⟨rfl,fun t ht=>by cases ht⟩
 |n+1,l,ts,v,h=>by
  rw [bulksM] at h;split at h
  ·cases h
  ·split at h
   ·cases h
   ·rename_i hsm;split at h
    ·cases h
    ·rename_i hb;injection h with h;injection h with h1 h2;subst h1;obtain ⟨ih1,ih2⟩:=bulksM_args n _ _ _ hb;refine ⟨by simp [ih1],fun t ht=>?_⟩;rcases List.mem_cons.1 ht with rfl|ht
     ·have:=someM_len hsm;rw [List.length_drop] at this;omega
     ·have:=ih2 t ht;rw [List.length_drop] at this;omega
theorem requestM_args {l:List UInt8} {ts:List (List UInt8)} {u:Nat} (h:requestM l= .inr (ts,u)):ts.length≤16∧∀t∈ts,t.length≤l.length+200:=by
 unfold requestM at h;split at h
 ·cases h
 ·split at h
  ·unfold bulksAllM at h;split at h
   ·cases h
   ·rename_i hm;split at h
    ·cases h
    ·rename_i hb;injection h with h;injection h with h1 h2;subst h1;obtain ⟨h1,h2⟩:=bulksM_args _ _ _ _ hb;have:=marked_count hm;refine ⟨by omega,fun t ht=>?_⟩;have:=h2 t ht;rw [List.length_drop] at this;omega
  ·unfold lineWords at h;split at h
   ·cases h
   ·split at h
    ·cases h
    ·split at h
     ·rename_i hok;injection h with h;injection h with h1 h2;subst h1;unfold okArgsL at hok;rw [Bool.and_eq_true,decide_eq_true_iff,List.all_eq_true] at hok;exact ⟨hok.1,fun t ht=>by have:=of_decide_eq_true (hok.2 t ht);omega⟩
     ·cases h
end Go.Proofs.YtibhabajknikcaaGreatDoor.Fd
