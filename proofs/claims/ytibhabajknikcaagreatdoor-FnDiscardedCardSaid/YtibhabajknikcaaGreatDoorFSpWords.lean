import Derived.Test.YtibhabajknikcaaGreatDoorFSpLine
set_option maxHeartbeats 4000000
set_option maxRecDepth 100000
namespace Go.Proofs.YtibhabajknikcaaGreatDoor.Fd
open Go.RowKit Go.Sort
theorem info9w:(Tryz.prog.info? 9).map (fun i=> (i.zero,i.size,i.bytes))=some (some (.string ⟨#[]⟩),1,16):=by kernel_rfl
theorem lw_big {l:List UInt8} (h:300<Lib.indexByte l 10):lineWords l= .inl 2:=by unfold lineWords;rw [if_pos h]
theorem lw_more {l:List UInt8} (h:Lib.indexByte l 10= -1):lineWords l= .inl (if 300<l.length then 2 else 1):=by unfold lineWords;rw [if_neg (by omega),if_pos (by omega)]
def Found (t:ByteArray) (j:Nat) (acc:List (List UInt8)) (cur:List UInt8):Prop:=
 wordsOf [] t.data.toList=acc++(if j≤t.size then wordsOf cur (t.data.toList.drop j) else [])∧cur.length≤j∧acc.length≤j∧∀x∈acc,x.length≤300
theorem Found.zero (t:ByteArray):Found t 0 [] []:=⟨by simp,by simp,by simp,fun x hx=>by cases hx⟩
theorem Found.on {t:ByteArray} {j:Nat} {acc:List (List UInt8)} {cur:List UInt8} (h:Found t j acc cur) (hj:j<t.size) (hg:isGapB (t[j]'hj)=false):Found t (j+1) acc (cur++ [t[j]'hj]):=by
 obtain ⟨h1,h2,h3,h4⟩:=h;have hl:j<t.data.toList.length:=by rw [←Lib.size_eq];exact hj
 refine ⟨?_,by simp;omega,by omega,h4⟩;rw [h1,if_pos (by omega),if_pos (by omega),words_on cur _ j hl hg];rfl
theorem Found.gap {t:ByteArray} {j:Nat} {acc:List (List UInt8)} {cur:List UInt8} (h:Found t j acc cur) (ht:t.size≤300) (hj:j≤t.size) (hg:∀h:j<t.size,isGapB (t[j]'h)=true):
  Found t (j+1) (acc++if cur=[] then [] else [cur]) []:=by
 obtain ⟨h1,h2,h3,h4⟩:=h;refine ⟨?_,by simp,by split<;>simp<;>omega,fun x hx=>?_⟩
 ·rw [h1,if_pos hj,List.append_assoc];congr 1;by_cases hlt:j<t.size
  ·have hl:j<t.data.toList.length:=by rw [←Lib.size_eq];exact hlt
   rw [words_gap cur _ j hl (hg hlt),if_pos (show j+1≤t.size by omega)]
  ·rw [words_end cur _ j (by rw [←Lib.size_eq];omega),if_neg (show ¬j+1≤t.size by omega),List.append_nil]
 ·rcases List.mem_append.1 hx with hx|hx
  ·exact h4 x hx
  ·split at hx
   ·cases hx
   ·rw [List.mem_singleton.1 hx];omega
theorem gap_yes {x:UInt8} (h:isGapB x=true):x.toNat=32∨x.toNat=9:=by
 unfold isGapB at h;rw [Bool.or_eq_true,beq_iff_eq,beq_iff_eq] at h;rcases h with h|h<;>subst h
 ·exact .inl rfl
 ·exact .inr rfl
theorem gap_no {x:UInt8} (h:isGapB x=false):¬x.toNat=32∧¬x.toNat=9:=by
 unfold isGapB at h;rw [Bool.or_eq_false_iff,beq_eq_false_iff_ne,beq_eq_false_iff_ne] at h;exact ⟨fun e=>h.1 (byte_eq e),fun e=>h.2 (byte_eq e)⟩
theorem one_more (cur:List UInt8) (t:ByteArray) (j:Nat) (h:j<t.size):(⟨cur.toArray⟩:ByteArray)++t.extract j (j+1)=⟨(cur++ [t[j]'h]).toArray⟩:=by
 have e:t.extract j (j+1)=⟨[t[j]'h].toArray⟩:=str_of _ _ (by
  rw [Lib.extract_data];have hl:j<t.data.toList.length:=by rw [←Lib.size_eq];exact h
  rw [List.drop_eq_getElem_cons hl,Nat.add_sub_cancel_left];rfl)
 rw [e];exact ByteArray.mk_append_mk cur [t[j]'h]
theorem owns_none (w:World):(w.alloc (.cells #[] 9)).ownsRow w.heap.size 9 1 (.slice (some ⟨w.heap.size,0,none⟩) 0 0) 0 (strVals []):=
 ⟨rfl,.inr ⟨w.heap.size,0, #[],rfl,Nat.le_refl _,RowAt.new w 9 #[],by omega,by unfold maxLen;omega,by simp,by simp [strVals]⟩⟩
theorem spWords (s:ByteArray) (w:World) (hs:s.size≤2097152):
  Calls Tryz.prog 106 #[.string s] w (ReqEnd w (lineWords s.data.toList)):=by
 have HZ:Hid (s.data.toList.length=s.size):=(Lib.size_eq s).symm;obtain ⟨i0,hi,hz0,hz1,hz2⟩:=info_parts info9w;go_enter Tryz.func106,Tryz.ntmps106;go_wp2;go_loop [5] (fun i=>∃k:Nat,k≤s.size∧i= .int .i64 k∧Hid (FarB s.data.toList 10 k)) (fun i=>s.size-(intOf i).toNat)
 case atStart=>exact ⟨0,by omega,rfl,FarB.zero _ _⟩
 case round=>
  obtain ⟨k,hk,rfl,hf⟩:=hrel;by_cases hlt:k<s.size
  ·have hl0:k<s.data.toList.length:=by rw [HZ.out];omega
   have hsk:s.data.toList[k]=s[k]'hlt:=rfl;by_cases hA:(s[k]'hlt).toNat=10
   ·have HX:Hid (Lib.indexByte s.data.toList 10=k):=FarB.here hf.out hl0 (by rw [hsk,byte_eq hA];rfl);have hAi:((s[k]'hlt).toNat:Int)=10:=by omega
    clear hf hsk;by_cases hbig:300<k
    ·have HI:Hid (lineWords s.data.toList= .inl 2):=lw_big (by rw [HX.out];omega);have hbi:(300:Int)<(k:Int):=by omega
     go_wp2;go_ret3;rw [HI.out];exact ⟨rfl,Below.refl _ _⟩
    ·have hbi:¬(300:Int)<(k:Int):=by omega
     have hne:((k:Int)==(s.size:Int))=false:=by simp;omega
     have HT0:Hid (lineWords s.data.toList=if okArgsL (wordsOf [] (Lib.trimSuffix (s.data.toList.take k) [13])) then .inr (wordsOf [] (Lib.trimSuffix (s.data.toList.take k) [13]),k+1) else .inl 2):=by
      unfold Hid lineWords;rw [HX.out,if_neg (by omega),if_neg (by omega),Int.toNat_natCast]
     by_cases hk0:0<k
     ·have hsk1:=sget s (k-1) (by omega);by_cases h13:(s[k-1]'(by omega)).toNat=13
      ·have HT:Hid (lineWords s.data.toList=if okArgsL (wordsOf [] (s.extract 0 (k-1)).data.toList) then .inr (wordsOf [] (s.extract 0 (k-1)).data.toList,k+1) else .inl 2):=by
        have e:Lib.trimSuffix (s.data.toList.take k) [13]=(s.extract 0 (k-1)).data.toList:=by
         rw [trim_one _ k (by rw [HZ.out];omega),if_pos ⟨hk0,by rw [hsk1,byte_eq h13];rfl⟩,Lib.extract_data];simp
        have:=HT0.out;rwa [e] at this
       have hts:(s.extract 0 (k-1)).size≤300:=by simp;omega
       have h13i:((s[k-1]'(by omega)).toNat:Int)=13:=by omega
       have hd0:(0:Int)<(k:Int):=by omega
       clear hsk1 h13;clear HT0 HX hA;go_wp2;generalize s.extract 0 (k-1)=t at*;have HO:Hid _:=owns_none w;have HB:Hid (Below w.heap.size w (w.alloc (.cells #[] 9))):=(Below.refl _ w).alloc (Nat.le_refl _) _;go_loopw [7,8,9] (fun v cw i wr=>∃(j:Nat) (acc:List (List UInt8)) (cur:List UInt8),j≤t.size+1∧i= .int .i64 j∧cw= .string ⟨cur.toArray⟩∧wr.ownsRow w.heap.size 9 1 v acc.length (strVals acc)∧Hid (Found t j acc cur)∧Below w.heap.size w wr) (fun _ _ i _=>t.size+1-(intOf i).toNat)
       case atStart=>exact ⟨0,[],[],by omega,rfl,rfl,HO.out,Found.zero t,HB.out⟩
       case round=>
        obtain ⟨j,acc,cur,hj,rfl,rfl,hown,hfd,bk⟩:=hrel;have sk:=bk.size;clear HO HB;by_cases hle:j≤t.size
        ·by_cases hon:∃h:j<t.size,isGapB (t[j]'h)=false
         ·obtain ⟨hjt,hg⟩:=hon;have hfd':Hid (Found t (j+1) acc (cur++ [t[j]'hjt])):=Found.on hfd.out hjt hg;obtain ⟨g1,g2⟩:=gap_no hg;have HE:Hid ((⟨cur.toArray⟩:ByteArray)++t.extract j (j+1)=⟨(cur++ [t[j]'hjt]).toArray⟩):=one_more cur t j hjt;have g1i:¬((t[j]'hjt).toNat:Int)=32:=by omega
          have g2i:¬((t[j]'hjt).toNat:Int)=9:=by omega
          have g1b:(((t[j]'hjt).toNat:Int)!=32)=true:=by simpa using g1i
          have g2b:(((t[j]'hjt).toNat:Int)!=9)=true:=by simpa using g2i
          have hcl:cur.length≤300:=by have:=hfd.out.2.1;omega
          clear hg hfd g1 g2 g1i g2i;go_wp2;go_roundw
          case rel=>exact ⟨j+1,acc,cur++ [t[j]'hjt],by omega,by go_num,congrArg Value.string HE.out,hown,hfd',bk⟩
          case measure=>simp [intOf];omega
         ·have hgap:∀h:j<t.size,isGapB (t[j]'h)=true:=fun h=>by
           cases hb:isGapB (t[j]'h) with
           |true=>rfl
           |false=>exact absurd ⟨h,hb⟩ hon
          have hfd':Hid (Found t (j+1) (acc++if cur=[] then [] else [cur]) []):=Found.gap hfd.out hts hle hgap;clear hon hfd;by_cases hjt:j<t.size
          ·have hg2:=gap_yes (hgap hjt);clear hgap;rcases hg2 with hg2|hg2
           ·have g1i:((t[j]'hjt).toNat:Int)=32:=by omega
            clear hg2;by_cases hce:cur=[]
            ·subst hce;have HF:Hid (Found t (j+1) acc []):=by
              have:=hfd'.out;rwa [if_pos rfl,List.append_nil] at this
             clear hfd';go_wp2;go_roundw
             case rel=>exact ⟨j+1,acc,[],by omega,by go_num,rfl,hown,HF,bk⟩
             case measure=>simp [intOf];omega
            ·have HF:Hid (Found t (j+1) (acc++ [cur]) []):=by
              have:=hfd'.out;rwa [if_neg hce] at this
             have hemp:cur.isEmpty=false:=by simpa using hce
             have hal:=HF.out.2.2.1;rw [List.length_append,List.length_singleton] at hal;clear hfd' hce;go_wp2_with (at_builtin;refine wpList_append_own _ rfl _ _ 28 rfl w.heap.size 9 i0 _ 1 16 Tryz.underlying28 hi hz0 hz1 hz2 rfl (by decide) _ _ _ rfl (hown.alloc _) ⟨wr.heap.size,0,none⟩ 1 1 [.string ⟨cur.toArray⟩] rfl rfl ?c1 ?c2 ?c3 ?c4 ?c5 ?_)
             case c1=>exact cell_one_new _ _ _
             case c2=>intro y hy;simp at hy;subst hy;rfl
             case c3=>unfold maxLen;omega
             case c4=>omega
             case c5=>simp;omega
             intro v' w5 hown' hgrow _;have hol:∀k,Value.ownBlock u7=some k→w.heap.size≤k:=fun k hk=> (hown.lt k hk).1;have b5:Below w.heap.size w w5:=⟨hgrow.os.trans bk.os,hgrow.tape.trans bk.tape,hgrow.output.trans bk.output,by have:=hgrow.size;simp at this;omega,fun i hi=> (hgrow.block i (by simp;omega) (fun e=>by have:=hol i e.symm;omega)).trans ((Below.heap_alloc _ _ _ (by omega)).trans (bk.block i hi))⟩;have HO5:Hid (w5.ownsRow w.heap.size 9 1 v' (acc++ [cur]).length (strVals (acc++ [cur]))):=by
              unfold Hid;rw [List.length_append,strVals,List.map_append];exact hown'
             clear hown' hgrow hol;go_wp2;go_roundw
             case rel=>exact ⟨j+1,acc++ [cur],[],by omega,by go_num,rfl,HO5.out,HF,b5⟩
             case measure=>simp [intOf];omega
           ·have g1i:((t[j]'hjt).toNat:Int)=9:=by omega
            clear hg2;by_cases hce:cur=[]
            ·subst hce;have HF:Hid (Found t (j+1) acc []):=by
              have:=hfd'.out;rwa [if_pos rfl,List.append_nil] at this
             clear hfd';go_wp2;go_roundw
             case rel=>exact ⟨j+1,acc,[],by omega,by go_num,rfl,hown,HF,bk⟩
             case measure=>simp [intOf];omega
            ·have HF:Hid (Found t (j+1) (acc++ [cur]) []):=by
              have:=hfd'.out;rwa [if_neg hce] at this
             have hemp:cur.isEmpty=false:=by simpa using hce
             have hal:=HF.out.2.2.1;rw [List.length_append,List.length_singleton] at hal;clear hfd' hce;go_wp2_with (at_builtin;refine wpList_append_own _ rfl _ _ 28 rfl w.heap.size 9 i0 _ 1 16 Tryz.underlying28 hi hz0 hz1 hz2 rfl (by decide) _ _ _ rfl (hown.alloc _) ⟨wr.heap.size,0,none⟩ 1 1 [.string ⟨cur.toArray⟩] rfl rfl ?c1 ?c2 ?c3 ?c4 ?c5 ?_)
             case c1=>exact cell_one_new _ _ _
             case c2=>intro y hy;simp at hy;subst hy;rfl
             case c3=>unfold maxLen;omega
             case c4=>omega
             case c5=>simp;omega
             intro v' w5 hown' hgrow _;have hol:∀k,Value.ownBlock u7=some k→w.heap.size≤k:=fun k hk=> (hown.lt k hk).1;have b5:Below w.heap.size w w5:=⟨hgrow.os.trans bk.os,hgrow.tape.trans bk.tape,hgrow.output.trans bk.output,by have:=hgrow.size;simp at this;omega,fun i hi=> (hgrow.block i (by simp;omega) (fun e=>by have:=hol i e.symm;omega)).trans ((Below.heap_alloc _ _ _ (by omega)).trans (bk.block i hi))⟩;have HO5:Hid (w5.ownsRow w.heap.size 9 1 v' (acc++ [cur]).length (strVals (acc++ [cur]))):=by
              unfold Hid;rw [List.length_append,strVals,List.map_append];exact hown'
             clear hown' hgrow hol;go_wp2;go_roundw
             case rel=>exact ⟨j+1,acc++ [cur],[],by omega,by go_num,rfl,HO5.out,HF,b5⟩
             case measure=>simp [intOf];omega
          ·clear hgap;by_cases hce:cur=[]
           ·subst hce;have HF:Hid (Found t (j+1) acc []):=by
             have:=hfd'.out;rwa [if_pos rfl,List.append_nil] at this
            clear hfd';go_wp2;go_roundw
            case rel=>exact ⟨j+1,acc,[],by omega,by go_num,rfl,hown,HF,bk⟩
            case measure=>simp [intOf];omega
           ·have HF:Hid (Found t (j+1) (acc++ [cur]) []):=by
             have:=hfd'.out;rwa [if_neg hce] at this
            have hemp:cur.isEmpty=false:=by simpa using hce
            have hal:=HF.out.2.2.1;rw [List.length_append,List.length_singleton] at hal;clear hfd' hce;go_wp2_with (at_builtin;refine wpList_append_own _ rfl _ _ 28 rfl w.heap.size 9 i0 _ 1 16 Tryz.underlying28 hi hz0 hz1 hz2 rfl (by decide) _ _ _ rfl (hown.alloc _) ⟨wr.heap.size,0,none⟩ 1 1 [.string ⟨cur.toArray⟩] rfl rfl ?c1 ?c2 ?c3 ?c4 ?c5 ?_)
            case c1=>exact cell_one_new _ _ _
            case c2=>intro y hy;simp at hy;subst hy;rfl
            case c3=>unfold maxLen;omega
            case c4=>omega
            case c5=>simp;omega
            intro v' w5 hown' hgrow _;have hol:∀k,Value.ownBlock u7=some k→w.heap.size≤k:=fun k hk=> (hown.lt k hk).1;have b5:Below w.heap.size w w5:=⟨hgrow.os.trans bk.os,hgrow.tape.trans bk.tape,hgrow.output.trans bk.output,by have:=hgrow.size;simp at this;omega,fun i hi=> (hgrow.block i (by simp;omega) (fun e=>by have:=hol i e.symm;omega)).trans ((Below.heap_alloc _ _ _ (by omega)).trans (bk.block i hi))⟩;have HO5:Hid (w5.ownsRow w.heap.size 9 1 v' (acc++ [cur]).length (strVals (acc++ [cur]))):=by
             unfold Hid;rw [List.length_append,strVals,List.map_append];exact hown'
            clear hown' hgrow hol;go_wp2;go_roundw
            case rel=>exact ⟨j+1,acc++ [cur],[],by omega,by go_num,rfl,HO5.out,HF,b5⟩
            case measure=>simp [intOf];omega
        ·have hacc:wordsOf [] t.data.toList=acc:=by
          have:=hfd.out.1;rwa [if_neg hle,List.append_nil] at this
         have hf300:=hfd.out.2.2.2;have hal:=hfd.out.2.2.1;have hji:¬(j:Int)≤(t.size:Int):=by omega
         rw [hacc] at HT;have hst:strVals acc=(acc.map fun x=> (⟨x.toArray⟩:ByteArray)).map Value.string:=by rw [List.map_map];rfl
         have HOK:Hid (okArgs (acc.map fun x=> (⟨x.toArray⟩:ByteArray))=okArgsL acc):=by
          unfold Hid;rw [okArgs_L,List.map_map];congr 1;have:((fun t:ByteArray=>t.data.toList) ∘ fun x:List UInt8=> (⟨x.toArray⟩:ByteArray))=id:=by funext x;rfl
          rw [this,List.map_id]
         have HIN:Hid (∃a b off c,u7= .slice a acc.length c∧StrsIn wr a b off acc.length (acc.map fun x=> (⟨x.toArray⟩:ByteArray))):=by
          rcases Joins.ownsRow_forms hown with ⟨h1,h0⟩|⟨A,cap,h1⟩
          ·refine ⟨none,0,0,0,by rw [h0];exact h1,⟨by rw [List.length_map],fun h=>by omega,fun h=>by omega,fun i hi=>by omega,fun i hi=>by omega⟩⟩
          ·refine ⟨some ⟨A,0,none⟩,A,0,cap,h1,strsIn_own (B:=w.heap.size) (c:=cap) (by rw [←hst,←h1];exact hown) (by rw [List.length_map]) (fun x hx=>by
            obtain ⟨y,hy,rfl⟩:=List.mem_map.1 hx;have:=hf300 y hy;show y.toArray.size≤300;simpa using this)⟩
         obtain ⟨a,b,off,c,hu7,hin⟩:=HIN.out;have HO:Hid (wr.ownsRow w.heap.size 9 1 (.slice a acc.length c) acc.length (strVals acc)):=by unfold Hid;rw [←hu7];exact hown
         clear hown hfd HIN hst hacc hf300;subst hu7;cases hok:okArgsL acc with
         |true=>
          rw [hok,if_pos rfl] at HT;rw [hok] at HOK;clear hok;go_wp2_with fail;refine (args46 a b off acc.length c _ wr hin (by omega)).mono ?_;rintro e w6 ⟨rfl,rfl⟩;rw [HOK.out];go_wp2;go_ret3;rw [HT.out];exact ⟨_,rfl,HO.out,bk⟩
         |false=>
          rw [hok,if_neg (by simp)] at HT;rw [hok] at HOK;clear hok;go_wp2_with fail;refine (args46 a b off acc.length c _ wr hin (by omega)).mono ?_;rintro e w6 ⟨rfl,rfl⟩;rw [HOK.out];go_wp2;go_ret3;rw [HT.out];exact ⟨rfl,bk⟩
      ·have HT:Hid (lineWords s.data.toList=if okArgsL (wordsOf [] (s.extract 0 k).data.toList) then .inr (wordsOf [] (s.extract 0 k).data.toList,k+1) else .inl 2):=by
        have e:Lib.trimSuffix (s.data.toList.take k) [13]=(s.extract 0 k).data.toList:=by
         rw [trim_one _ k (by rw [HZ.out];omega),if_neg (by rintro ⟨_,h⟩;rw [hsk1] at h;injection h with h;exact h13 (by rw [h];rfl)),Lib.extract_data];simp
        have:=HT0.out;rwa [e] at this
       have hts:(s.extract 0 k).size≤300:=by simp;omega
       obtain ⟨q13,hq13⟩:∃q:Nat,(s[k-1]'(by omega)).toNat=q:=⟨_,rfl⟩;have h13i:¬(q13:Int)=13:=by omega
       have hd0:(0:Int)<(k:Int):=by omega
       clear hsk1 h13;clear HT0 HX hA;go_wp2;generalize s.extract 0 k=t at*;have HO:Hid _:=owns_none w;have HB:Hid (Below w.heap.size w (w.alloc (.cells #[] 9))):=(Below.refl _ w).alloc (Nat.le_refl _) _;go_loopw [7,8,9] (fun v cw i wr=>∃(j:Nat) (acc:List (List UInt8)) (cur:List UInt8),j≤t.size+1∧i= .int .i64 j∧cw= .string ⟨cur.toArray⟩∧wr.ownsRow w.heap.size 9 1 v acc.length (strVals acc)∧Hid (Found t j acc cur)∧Below w.heap.size w wr) (fun _ _ i _=>t.size+1-(intOf i).toNat)
       case atStart=>exact ⟨0,[],[],by omega,rfl,rfl,HO.out,Found.zero t,HB.out⟩
       case round=>
        obtain ⟨j,acc,cur,hj,rfl,rfl,hown,hfd,bk⟩:=hrel;have sk:=bk.size;clear HO HB;by_cases hle:j≤t.size
        ·by_cases hon:∃h:j<t.size,isGapB (t[j]'h)=false
         ·obtain ⟨hjt,hg⟩:=hon;have hfd':Hid (Found t (j+1) acc (cur++ [t[j]'hjt])):=Found.on hfd.out hjt hg;obtain ⟨g1,g2⟩:=gap_no hg;have HE:Hid ((⟨cur.toArray⟩:ByteArray)++t.extract j (j+1)=⟨(cur++ [t[j]'hjt]).toArray⟩):=one_more cur t j hjt;have g1i:¬((t[j]'hjt).toNat:Int)=32:=by omega
          have g2i:¬((t[j]'hjt).toNat:Int)=9:=by omega
          have g1b:(((t[j]'hjt).toNat:Int)!=32)=true:=by simpa using g1i
          have g2b:(((t[j]'hjt).toNat:Int)!=9)=true:=by simpa using g2i
          have hcl:cur.length≤300:=by have:=hfd.out.2.1;omega
          clear hg hfd g1 g2 g1i g2i;go_wp2;go_roundw
          case rel=>exact ⟨j+1,acc,cur++ [t[j]'hjt],by omega,by go_num,congrArg Value.string HE.out,hown,hfd',bk⟩
          case measure=>simp [intOf];omega
         ·have hgap:∀h:j<t.size,isGapB (t[j]'h)=true:=fun h=>by
           cases hb:isGapB (t[j]'h) with
           |true=>rfl
           |false=>exact absurd ⟨h,hb⟩ hon
          have hfd':Hid (Found t (j+1) (acc++if cur=[] then [] else [cur]) []):=Found.gap hfd.out hts hle hgap;clear hon hfd;by_cases hjt:j<t.size
          ·have hg2:=gap_yes (hgap hjt);clear hgap;rcases hg2 with hg2|hg2
           ·have g1i:((t[j]'hjt).toNat:Int)=32:=by omega
            clear hg2;by_cases hce:cur=[]
            ·subst hce;have HF:Hid (Found t (j+1) acc []):=by
              have:=hfd'.out;rwa [if_pos rfl,List.append_nil] at this
             clear hfd';go_wp2;go_roundw
             case rel=>exact ⟨j+1,acc,[],by omega,by go_num,rfl,hown,HF,bk⟩
             case measure=>simp [intOf];omega
            ·have HF:Hid (Found t (j+1) (acc++ [cur]) []):=by
              have:=hfd'.out;rwa [if_neg hce] at this
             have hemp:cur.isEmpty=false:=by simpa using hce
             have hal:=HF.out.2.2.1;rw [List.length_append,List.length_singleton] at hal;clear hfd' hce;go_wp2_with (at_builtin;refine wpList_append_own _ rfl _ _ 28 rfl w.heap.size 9 i0 _ 1 16 Tryz.underlying28 hi hz0 hz1 hz2 rfl (by decide) _ _ _ rfl (hown.alloc _) ⟨wr.heap.size,0,none⟩ 1 1 [.string ⟨cur.toArray⟩] rfl rfl ?c1 ?c2 ?c3 ?c4 ?c5 ?_)
             case c1=>exact cell_one_new _ _ _
             case c2=>intro y hy;simp at hy;subst hy;rfl
             case c3=>unfold maxLen;omega
             case c4=>omega
             case c5=>simp;omega
             intro v' w5 hown' hgrow _;have hol:∀k,Value.ownBlock u7=some k→w.heap.size≤k:=fun k hk=> (hown.lt k hk).1;have b5:Below w.heap.size w w5:=⟨hgrow.os.trans bk.os,hgrow.tape.trans bk.tape,hgrow.output.trans bk.output,by have:=hgrow.size;simp at this;omega,fun i hi=> (hgrow.block i (by simp;omega) (fun e=>by have:=hol i e.symm;omega)).trans ((Below.heap_alloc _ _ _ (by omega)).trans (bk.block i hi))⟩;have HO5:Hid (w5.ownsRow w.heap.size 9 1 v' (acc++ [cur]).length (strVals (acc++ [cur]))):=by
              unfold Hid;rw [List.length_append,strVals,List.map_append];exact hown'
             clear hown' hgrow hol;go_wp2;go_roundw
             case rel=>exact ⟨j+1,acc++ [cur],[],by omega,by go_num,rfl,HO5.out,HF,b5⟩
             case measure=>simp [intOf];omega
           ·have g1i:((t[j]'hjt).toNat:Int)=9:=by omega
            clear hg2;by_cases hce:cur=[]
            ·subst hce;have HF:Hid (Found t (j+1) acc []):=by
              have:=hfd'.out;rwa [if_pos rfl,List.append_nil] at this
             clear hfd';go_wp2;go_roundw
             case rel=>exact ⟨j+1,acc,[],by omega,by go_num,rfl,hown,HF,bk⟩
             case measure=>simp [intOf];omega
            ·have HF:Hid (Found t (j+1) (acc++ [cur]) []):=by
              have:=hfd'.out;rwa [if_neg hce] at this
             have hemp:cur.isEmpty=false:=by simpa using hce
             have hal:=HF.out.2.2.1;rw [List.length_append,List.length_singleton] at hal;clear hfd' hce;go_wp2_with (at_builtin;refine wpList_append_own _ rfl _ _ 28 rfl w.heap.size 9 i0 _ 1 16 Tryz.underlying28 hi hz0 hz1 hz2 rfl (by decide) _ _ _ rfl (hown.alloc _) ⟨wr.heap.size,0,none⟩ 1 1 [.string ⟨cur.toArray⟩] rfl rfl ?c1 ?c2 ?c3 ?c4 ?c5 ?_)
             case c1=>exact cell_one_new _ _ _
             case c2=>intro y hy;simp at hy;subst hy;rfl
             case c3=>unfold maxLen;omega
             case c4=>omega
             case c5=>simp;omega
             intro v' w5 hown' hgrow _;have hol:∀k,Value.ownBlock u7=some k→w.heap.size≤k:=fun k hk=> (hown.lt k hk).1;have b5:Below w.heap.size w w5:=⟨hgrow.os.trans bk.os,hgrow.tape.trans bk.tape,hgrow.output.trans bk.output,by have:=hgrow.size;simp at this;omega,fun i hi=> (hgrow.block i (by simp;omega) (fun e=>by have:=hol i e.symm;omega)).trans ((Below.heap_alloc _ _ _ (by omega)).trans (bk.block i hi))⟩;have HO5:Hid (w5.ownsRow w.heap.size 9 1 v' (acc++ [cur]).length (strVals (acc++ [cur]))):=by
              unfold Hid;rw [List.length_append,strVals,List.map_append];exact hown'
             clear hown' hgrow hol;go_wp2;go_roundw
             case rel=>exact ⟨j+1,acc++ [cur],[],by omega,by go_num,rfl,HO5.out,HF,b5⟩
             case measure=>simp [intOf];omega
          ·clear hgap;by_cases hce:cur=[]
           ·subst hce;have HF:Hid (Found t (j+1) acc []):=by
             have:=hfd'.out;rwa [if_pos rfl,List.append_nil] at this
            clear hfd';go_wp2;go_roundw
            case rel=>exact ⟨j+1,acc,[],by omega,by go_num,rfl,hown,HF,bk⟩
            case measure=>simp [intOf];omega
           ·have HF:Hid (Found t (j+1) (acc++ [cur]) []):=by
             have:=hfd'.out;rwa [if_neg hce] at this
            have hemp:cur.isEmpty=false:=by simpa using hce
            have hal:=HF.out.2.2.1;rw [List.length_append,List.length_singleton] at hal;clear hfd' hce;go_wp2_with (at_builtin;refine wpList_append_own _ rfl _ _ 28 rfl w.heap.size 9 i0 _ 1 16 Tryz.underlying28 hi hz0 hz1 hz2 rfl (by decide) _ _ _ rfl (hown.alloc _) ⟨wr.heap.size,0,none⟩ 1 1 [.string ⟨cur.toArray⟩] rfl rfl ?c1 ?c2 ?c3 ?c4 ?c5 ?_)
            case c1=>exact cell_one_new _ _ _
            case c2=>intro y hy;simp at hy;subst hy;rfl
            case c3=>unfold maxLen;omega
            case c4=>omega
            case c5=>simp;omega
            intro v' w5 hown' hgrow _;have hol:∀k,Value.ownBlock u7=some k→w.heap.size≤k:=fun k hk=> (hown.lt k hk).1;have b5:Below w.heap.size w w5:=⟨hgrow.os.trans bk.os,hgrow.tape.trans bk.tape,hgrow.output.trans bk.output,by have:=hgrow.size;simp at this;omega,fun i hi=> (hgrow.block i (by simp;omega) (fun e=>by have:=hol i e.symm;omega)).trans ((Below.heap_alloc _ _ _ (by omega)).trans (bk.block i hi))⟩;have HO5:Hid (w5.ownsRow w.heap.size 9 1 v' (acc++ [cur]).length (strVals (acc++ [cur]))):=by
             unfold Hid;rw [List.length_append,strVals,List.map_append];exact hown'
            clear hown' hgrow hol;go_wp2;go_roundw
            case rel=>exact ⟨j+1,acc++ [cur],[],by omega,by go_num,rfl,HO5.out,HF,b5⟩
            case measure=>simp [intOf];omega
        ·have hacc:wordsOf [] t.data.toList=acc:=by
          have:=hfd.out.1;rwa [if_neg hle,List.append_nil] at this
         have hf300:=hfd.out.2.2.2;have hal:=hfd.out.2.2.1;have hji:¬(j:Int)≤(t.size:Int):=by omega
         rw [hacc] at HT;have hst:strVals acc=(acc.map fun x=> (⟨x.toArray⟩:ByteArray)).map Value.string:=by rw [List.map_map];rfl
         have HOK:Hid (okArgs (acc.map fun x=> (⟨x.toArray⟩:ByteArray))=okArgsL acc):=by
          unfold Hid;rw [okArgs_L,List.map_map];congr 1;have:((fun t:ByteArray=>t.data.toList) ∘ fun x:List UInt8=> (⟨x.toArray⟩:ByteArray))=id:=by funext x;rfl
          rw [this,List.map_id]
         have HIN:Hid (∃a b off c,u7= .slice a acc.length c∧StrsIn wr a b off acc.length (acc.map fun x=> (⟨x.toArray⟩:ByteArray))):=by
          rcases Joins.ownsRow_forms hown with ⟨h1,h0⟩|⟨A,cap,h1⟩
          ·refine ⟨none,0,0,0,by rw [h0];exact h1,⟨by rw [List.length_map],fun h=>by omega,fun h=>by omega,fun i hi=>by omega,fun i hi=>by omega⟩⟩
          ·refine ⟨some ⟨A,0,none⟩,A,0,cap,h1,strsIn_own (B:=w.heap.size) (c:=cap) (by rw [←hst,←h1];exact hown) (by rw [List.length_map]) (fun x hx=>by
            obtain ⟨y,hy,rfl⟩:=List.mem_map.1 hx;have:=hf300 y hy;show y.toArray.size≤300;simpa using this)⟩
         obtain ⟨a,b,off,c,hu7,hin⟩:=HIN.out;have HO:Hid (wr.ownsRow w.heap.size 9 1 (.slice a acc.length c) acc.length (strVals acc)):=by unfold Hid;rw [←hu7];exact hown
         clear hown hfd HIN hst hacc hf300;subst hu7;cases hok:okArgsL acc with
         |true=>
          rw [hok,if_pos rfl] at HT;rw [hok] at HOK;clear hok;go_wp2_with fail;refine (args46 a b off acc.length c _ wr hin (by omega)).mono ?_;rintro e w6 ⟨rfl,rfl⟩;rw [HOK.out];go_wp2;go_ret3;rw [HT.out];exact ⟨_,rfl,HO.out,bk⟩
         |false=>
          rw [hok,if_neg (by simp)] at HT;rw [hok] at HOK;clear hok;go_wp2_with fail;refine (args46 a b off acc.length c _ wr hin (by omega)).mono ?_;rintro e w6 ⟨rfl,rfl⟩;rw [HOK.out];go_wp2;go_ret3;rw [HT.out];exact ⟨rfl,bk⟩
     ·have HT:Hid (lineWords s.data.toList=if okArgsL (wordsOf [] (s.extract 0 k).data.toList) then .inr (wordsOf [] (s.extract 0 k).data.toList,k+1) else .inl 2):=by
       have e:Lib.trimSuffix (s.data.toList.take k) [13]=(s.extract 0 k).data.toList:=by
        rw [trim_one _ k (by rw [HZ.out];omega),if_neg (by rintro ⟨h,_⟩;exact hk0 h),Lib.extract_data];simp
       have:=HT0.out;rwa [e] at this
      have hts:(s.extract 0 k).size≤300:=by simp;omega
      have hd0:¬(0:Int)<(k:Int):=by omega
      clear hk0;clear HT0 HX hA;go_wp2;generalize s.extract 0 k=t at*;have HO:Hid _:=owns_none w;have HB:Hid (Below w.heap.size w (w.alloc (.cells #[] 9))):=(Below.refl _ w).alloc (Nat.le_refl _) _;go_loopw [7,8,9] (fun v cw i wr=>∃(j:Nat) (acc:List (List UInt8)) (cur:List UInt8),j≤t.size+1∧i= .int .i64 j∧cw= .string ⟨cur.toArray⟩∧wr.ownsRow w.heap.size 9 1 v acc.length (strVals acc)∧Hid (Found t j acc cur)∧Below w.heap.size w wr) (fun _ _ i _=>t.size+1-(intOf i).toNat)
      case atStart=>exact ⟨0,[],[],by omega,rfl,rfl,HO.out,Found.zero t,HB.out⟩
      case round=>
       obtain ⟨j,acc,cur,hj,rfl,rfl,hown,hfd,bk⟩:=hrel;have sk:=bk.size;clear HO HB;by_cases hle:j≤t.size
       ·by_cases hon:∃h:j<t.size,isGapB (t[j]'h)=false
        ·obtain ⟨hjt,hg⟩:=hon;have hfd':Hid (Found t (j+1) acc (cur++ [t[j]'hjt])):=Found.on hfd.out hjt hg;obtain ⟨g1,g2⟩:=gap_no hg;have HE:Hid ((⟨cur.toArray⟩:ByteArray)++t.extract j (j+1)=⟨(cur++ [t[j]'hjt]).toArray⟩):=one_more cur t j hjt;have g1i:¬((t[j]'hjt).toNat:Int)=32:=by omega
         have g2i:¬((t[j]'hjt).toNat:Int)=9:=by omega
         have g1b:(((t[j]'hjt).toNat:Int)!=32)=true:=by simpa using g1i
         have g2b:(((t[j]'hjt).toNat:Int)!=9)=true:=by simpa using g2i
         have hcl:cur.length≤300:=by have:=hfd.out.2.1;omega
         clear hg hfd g1 g2 g1i g2i;go_wp2;go_roundw
         case rel=>exact ⟨j+1,acc,cur++ [t[j]'hjt],by omega,by go_num,congrArg Value.string HE.out,hown,hfd',bk⟩
         case measure=>simp [intOf];omega
        ·have hgap:∀h:j<t.size,isGapB (t[j]'h)=true:=fun h=>by
          cases hb:isGapB (t[j]'h) with
          |true=>rfl
          |false=>exact absurd ⟨h,hb⟩ hon
         have hfd':Hid (Found t (j+1) (acc++if cur=[] then [] else [cur]) []):=Found.gap hfd.out hts hle hgap;clear hon hfd;by_cases hjt:j<t.size
         ·have hg2:=gap_yes (hgap hjt);clear hgap;rcases hg2 with hg2|hg2
          ·have g1i:((t[j]'hjt).toNat:Int)=32:=by omega
           clear hg2;by_cases hce:cur=[]
           ·subst hce;have HF:Hid (Found t (j+1) acc []):=by
             have:=hfd'.out;rwa [if_pos rfl,List.append_nil] at this
            clear hfd';go_wp2;go_roundw
            case rel=>exact ⟨j+1,acc,[],by omega,by go_num,rfl,hown,HF,bk⟩
            case measure=>simp [intOf];omega
           ·have HF:Hid (Found t (j+1) (acc++ [cur]) []):=by
             have:=hfd'.out;rwa [if_neg hce] at this
            have hemp:cur.isEmpty=false:=by simpa using hce
            have hal:=HF.out.2.2.1;rw [List.length_append,List.length_singleton] at hal;clear hfd' hce;go_wp2_with (at_builtin;refine wpList_append_own _ rfl _ _ 28 rfl w.heap.size 9 i0 _ 1 16 Tryz.underlying28 hi hz0 hz1 hz2 rfl (by decide) _ _ _ rfl (hown.alloc _) ⟨wr.heap.size,0,none⟩ 1 1 [.string ⟨cur.toArray⟩] rfl rfl ?c1 ?c2 ?c3 ?c4 ?c5 ?_)
            case c1=>exact cell_one_new _ _ _
            case c2=>intro y hy;simp at hy;subst hy;rfl
            case c3=>unfold maxLen;omega
            case c4=>omega
            case c5=>simp;omega
            intro v' w5 hown' hgrow _;have hol:∀k,Value.ownBlock u7=some k→w.heap.size≤k:=fun k hk=> (hown.lt k hk).1;have b5:Below w.heap.size w w5:=⟨hgrow.os.trans bk.os,hgrow.tape.trans bk.tape,hgrow.output.trans bk.output,by have:=hgrow.size;simp at this;omega,fun i hi=> (hgrow.block i (by simp;omega) (fun e=>by have:=hol i e.symm;omega)).trans ((Below.heap_alloc _ _ _ (by omega)).trans (bk.block i hi))⟩;have HO5:Hid (w5.ownsRow w.heap.size 9 1 v' (acc++ [cur]).length (strVals (acc++ [cur]))):=by
             unfold Hid;rw [List.length_append,strVals,List.map_append];exact hown'
            clear hown' hgrow hol;go_wp2;go_roundw
            case rel=>exact ⟨j+1,acc++ [cur],[],by omega,by go_num,rfl,HO5.out,HF,b5⟩
            case measure=>simp [intOf];omega
          ·have g1i:((t[j]'hjt).toNat:Int)=9:=by omega
           clear hg2;by_cases hce:cur=[]
           ·subst hce;have HF:Hid (Found t (j+1) acc []):=by
             have:=hfd'.out;rwa [if_pos rfl,List.append_nil] at this
            clear hfd';go_wp2;go_roundw
            case rel=>exact ⟨j+1,acc,[],by omega,by go_num,rfl,hown,HF,bk⟩
            case measure=>simp [intOf];omega
           ·have HF:Hid (Found t (j+1) (acc++ [cur]) []):=by
             have:=hfd'.out;rwa [if_neg hce] at this
            have hemp:cur.isEmpty=false:=by simpa using hce
            have hal:=HF.out.2.2.1;rw [List.length_append,List.length_singleton] at hal;clear hfd' hce;go_wp2_with (at_builtin;refine wpList_append_own _ rfl _ _ 28 rfl w.heap.size 9 i0 _ 1 16 Tryz.underlying28 hi hz0 hz1 hz2 rfl (by decide) _ _ _ rfl (hown.alloc _) ⟨wr.heap.size,0,none⟩ 1 1 [.string ⟨cur.toArray⟩] rfl rfl ?c1 ?c2 ?c3 ?c4 ?c5 ?_)
            case c1=>exact cell_one_new _ _ _
            case c2=>intro y hy;simp at hy;subst hy;rfl
            case c3=>unfold maxLen;omega
            case c4=>omega
            case c5=>simp;omega
            intro v' w5 hown' hgrow _;have hol:∀k,Value.ownBlock u7=some k→w.heap.size≤k:=fun k hk=> (hown.lt k hk).1;have b5:Below w.heap.size w w5:=⟨hgrow.os.trans bk.os,hgrow.tape.trans bk.tape,hgrow.output.trans bk.output,by have:=hgrow.size;simp at this;omega,fun i hi=> (hgrow.block i (by simp;omega) (fun e=>by have:=hol i e.symm;omega)).trans ((Below.heap_alloc _ _ _ (by omega)).trans (bk.block i hi))⟩;have HO5:Hid (w5.ownsRow w.heap.size 9 1 v' (acc++ [cur]).length (strVals (acc++ [cur]))):=by
             unfold Hid;rw [List.length_append,strVals,List.map_append];exact hown'
            clear hown' hgrow hol;go_wp2;go_roundw
            case rel=>exact ⟨j+1,acc++ [cur],[],by omega,by go_num,rfl,HO5.out,HF,b5⟩
            case measure=>simp [intOf];omega
         ·clear hgap;by_cases hce:cur=[]
          ·subst hce;have HF:Hid (Found t (j+1) acc []):=by
            have:=hfd'.out;rwa [if_pos rfl,List.append_nil] at this
           clear hfd';go_wp2;go_roundw
           case rel=>exact ⟨j+1,acc,[],by omega,by go_num,rfl,hown,HF,bk⟩
           case measure=>simp [intOf];omega
          ·have HF:Hid (Found t (j+1) (acc++ [cur]) []):=by
            have:=hfd'.out;rwa [if_neg hce] at this
           have hemp:cur.isEmpty=false:=by simpa using hce
           have hal:=HF.out.2.2.1;rw [List.length_append,List.length_singleton] at hal;clear hfd' hce;go_wp2_with (at_builtin;refine wpList_append_own _ rfl _ _ 28 rfl w.heap.size 9 i0 _ 1 16 Tryz.underlying28 hi hz0 hz1 hz2 rfl (by decide) _ _ _ rfl (hown.alloc _) ⟨wr.heap.size,0,none⟩ 1 1 [.string ⟨cur.toArray⟩] rfl rfl ?c1 ?c2 ?c3 ?c4 ?c5 ?_)
           case c1=>exact cell_one_new _ _ _
           case c2=>intro y hy;simp at hy;subst hy;rfl
           case c3=>unfold maxLen;omega
           case c4=>omega
           case c5=>simp;omega
           intro v' w5 hown' hgrow _;have hol:∀k,Value.ownBlock u7=some k→w.heap.size≤k:=fun k hk=> (hown.lt k hk).1;have b5:Below w.heap.size w w5:=⟨hgrow.os.trans bk.os,hgrow.tape.trans bk.tape,hgrow.output.trans bk.output,by have:=hgrow.size;simp at this;omega,fun i hi=> (hgrow.block i (by simp;omega) (fun e=>by have:=hol i e.symm;omega)).trans ((Below.heap_alloc _ _ _ (by omega)).trans (bk.block i hi))⟩;have HO5:Hid (w5.ownsRow w.heap.size 9 1 v' (acc++ [cur]).length (strVals (acc++ [cur]))):=by
            unfold Hid;rw [List.length_append,strVals,List.map_append];exact hown'
           clear hown' hgrow hol;go_wp2;go_roundw
           case rel=>exact ⟨j+1,acc++ [cur],[],by omega,by go_num,rfl,HO5.out,HF,b5⟩
           case measure=>simp [intOf];omega
       ·have hacc:wordsOf [] t.data.toList=acc:=by
         have:=hfd.out.1;rwa [if_neg hle,List.append_nil] at this
        have hf300:=hfd.out.2.2.2;have hal:=hfd.out.2.2.1;have hji:¬(j:Int)≤(t.size:Int):=by omega
        rw [hacc] at HT;have hst:strVals acc=(acc.map fun x=> (⟨x.toArray⟩:ByteArray)).map Value.string:=by rw [List.map_map];rfl
        have HOK:Hid (okArgs (acc.map fun x=> (⟨x.toArray⟩:ByteArray))=okArgsL acc):=by
         unfold Hid;rw [okArgs_L,List.map_map];congr 1;have:((fun t:ByteArray=>t.data.toList) ∘ fun x:List UInt8=> (⟨x.toArray⟩:ByteArray))=id:=by funext x;rfl
         rw [this,List.map_id]
        have HIN:Hid (∃a b off c,u7= .slice a acc.length c∧StrsIn wr a b off acc.length (acc.map fun x=> (⟨x.toArray⟩:ByteArray))):=by
         rcases Joins.ownsRow_forms hown with ⟨h1,h0⟩|⟨A,cap,h1⟩
         ·refine ⟨none,0,0,0,by rw [h0];exact h1,⟨by rw [List.length_map],fun h=>by omega,fun h=>by omega,fun i hi=>by omega,fun i hi=>by omega⟩⟩
         ·refine ⟨some ⟨A,0,none⟩,A,0,cap,h1,strsIn_own (B:=w.heap.size) (c:=cap) (by rw [←hst,←h1];exact hown) (by rw [List.length_map]) (fun x hx=>by
           obtain ⟨y,hy,rfl⟩:=List.mem_map.1 hx;have:=hf300 y hy;show y.toArray.size≤300;simpa using this)⟩
        obtain ⟨a,b,off,c,hu7,hin⟩:=HIN.out;have HO:Hid (wr.ownsRow w.heap.size 9 1 (.slice a acc.length c) acc.length (strVals acc)):=by unfold Hid;rw [←hu7];exact hown
        clear hown hfd HIN hst hacc hf300;subst hu7;cases hok:okArgsL acc with
        |true=>
         rw [hok,if_pos rfl] at HT;rw [hok] at HOK;clear hok;go_wp2_with fail;refine (args46 a b off acc.length c _ wr hin (by omega)).mono ?_;rintro e w6 ⟨rfl,rfl⟩;rw [HOK.out];go_wp2;go_ret3;rw [HT.out];exact ⟨_,rfl,HO.out,bk⟩
        |false=>
         rw [hok,if_neg (by simp)] at HT;rw [hok] at HOK;clear hok;go_wp2_with fail;refine (args46 a b off acc.length c _ wr hin (by omega)).mono ?_;rintro e w6 ⟨rfl,rfl⟩;rw [HOK.out];go_wp2;go_ret3;rw [HT.out];exact ⟨rfl,bk⟩
   ·have HF:Hid (FarB s.data.toList 10 (k+1)):=FarB.next hf.out hl0 (by rw [hsk];exact byte_ne (n:=10) (by omega) hA);have hAi:¬((s[k]'hlt).toNat:Int)=10:=by omega
    clear hf hsk;go_wp2;go_round
    ·exact ⟨k+1,by omega,by go_num,HF⟩
    ·simp [intOf];omega
  ·have HX:Hid (Lib.indexByte s.data.toList 10= -1):=FarB.end hf.out (by rw [HZ.out];omega);have HI:Hid (lineWords s.data.toList= .inl (if 300<s.size then 2 else 1)):=by
    unfold Hid;rw [lw_more HX.out,HZ.out]
   clear hf;have hke:((k:Int)==(s.size:Int))=true:=by simp;omega
   by_cases hbig:300<s.size
   ·rw [if_pos hbig] at HI;have hbi:(300:Int)<(k:Int):=by omega
    go_wp2;go_ret3;rw [HI.out];exact ⟨rfl,Below.refl _ _⟩
   ·rw [if_neg hbig] at HI;have hbi:¬(300:Int)<(k:Int):=by omega
    go_wp2;go_ret3;rw [HI.out];exact ⟨rfl,Below.refl _ _⟩
end Go.Proofs.YtibhabajknikcaaGreatDoor.Fd
