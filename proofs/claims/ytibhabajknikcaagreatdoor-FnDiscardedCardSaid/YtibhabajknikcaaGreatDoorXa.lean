import Derived.Test.YtibhabajknikcaaGreatDoorIv
import Derived.Test.YtibhabajknikcaaGreatDoorWa
import Derived.Lib.IndexBytes
import Derived.Deep.RegionHeldLaw
set_option maxHeartbeats 4000000
set_option maxRecDepth 100000
namespace Go.Proofs.YtibhabajknikcaaGreatDoor
open Go.RowKit Go.Sort
theorem l1In_any (n a b:Int) (w:World):
  Calls Tryz.prog 50 #[.int .i64 n,.int .i64 a,.int .i64 b] w fun e w'=>e= .returned (.bool (decide (a≤n∧n≤b)))∧w'=w:=by
 by_cases h1:a≤n
 ·by_cases h2:n≤b;all_goals
   go_enter Tryz.func50,Tryz.ntmps50;go_wp2;go_ret;exact ⟨by simp [h1,h2],rfl⟩
 ·go_enter Tryz.func50,Tryz.ntmps50;go_wp2;go_ret;exact ⟨by simp;omega,rfl⟩
theorem ret_two {a:Int} {b:Bool} {c:Int×Bool} (h:c=(a,b)):Ending.returned (.tuple #[.int .i64 a,.bool b])= .returned (.tuple #[.int .i64 c.1,.bool c.2]):=by rw [h]
theorem sget (s:ByteArray) (i:Nat) (h:i<s.size):s.data.toList[i]?=some (s[i]'h):=by
 have hl:i<s.data.toList.length:=by rw [←Lib.size_eq];exact h
 rw [List.getElem?_eq_getElem hl];rfl
theorem byte_ne {x:UInt8} {n:Nat} (hn:n<256) (h:¬x.toNat=n):x≠UInt8.ofNat n:=fun e=>h (by rw [e,UInt8.toNat_ofNat'];omega)
theorem byte_eq {x:UInt8} {n:Nat} (h:x.toNat=n):x=UInt8.ofNat n:=by rw [←h];simp
theorem head_of {s:ByteArray} (h:0<s.size):s.data.toList.head?=some (s[0]'h):=by
 rw [List.head?_eq_getElem?,sget s 0 h]
theorem neg_yes {s:ByteArray} (h1:1<s.size) (h2:(s[0]'(by omega)).toNat=45):negI s.data.toList=true:=by
 unfold negI;rw [head_of (by omega),byte_eq h2,←Lib.size_eq];simp [h1]
theorem neg_no1 {s:ByteArray} (h1:¬1<s.size):negI s.data.toList=false:=by
 unfold negI;rw [←Lib.size_eq];simp [h1]
theorem neg_no2 {s:ByteArray} (h1:1<s.size) (h2:¬(s[0]'(by omega)).toNat=45):negI s.data.toList=false:=by
 unfold negI;rw [head_of (by omega),←Lib.size_eq];have:=byte_ne (n:=45) (by omega) h2;simp [h1];exact this
theorem int_bad {l:List UInt8} {t:ByteArray} {neg:Bool} (ht:bodyI l=t.data.toList) (hn:negI l=neg) (h:t.size<1∨19<t.size∨(∃h:0<t.size,(t[0]'h).toNat=48)∧(1<t.size∨neg=true)):intI l=(0,false):=by
 unfold intI;rw [ht,hn,←Lib.size_eq,if_pos];rcases h with h|h|⟨⟨h0,h⟩,h'⟩
 ·exact .inl h
 ·exact .inr (.inl h)
 ·exact .inr (.inr ⟨by rw [head_of h0,byte_eq h];rfl,h'⟩)
theorem int_good {l:List UInt8} {t:ByteArray} {neg:Bool} (ht:bodyI l=t.data.toList) (hn:negI l=neg) (h1:0<t.size) (h2:t.size≤19) (h:(t[0]'h1).toNat=48→t.size≤1∧neg=false):
  intI l=match digI 0 t.data.toList with|none=> (0,false)|some n=> (if neg then-(n:Int) else n,inNum (if neg then-(n:Int) else n)):=by
 unfold intI;rw [ht,hn,←Lib.size_eq,if_neg]
 ·rfl
 ·rintro (h'|h'|⟨h',h''⟩)
  ·omega
  ·omega
  ·rw [head_of h1] at h';injection h' with h';have:=h (by rw [h'];rfl);rcases h'' with h''|h''
   ·omega
   ·rw [this.2] at h'';cases h''
theorem digI_stop {t:ByteArray} {acc k:Nat} (hk:k<t.size) (h:(t[k]'hk).toNat<48∨57<(t[k]'hk).toNat∨100000000000000000<acc):digI acc (t.data.toList.drop k)=none:=by
 have hl:k<t.data.toList.length:=by rw [←Lib.size_eq];exact hk
 rw [List.drop_eq_getElem_cons hl,digI,if_pos];exact h
theorem digI_go {t:ByteArray} {acc k:Nat} (hk:k<t.size) (h:¬((t[k]'hk).toNat<48∨57<(t[k]'hk).toNat∨100000000000000000<acc)):digI acc (t.data.toList.drop k)=digI (acc*10+((t[k]'hk).toNat-48)) (t.data.toList.drop (k+1)):=by
 have hl:k<t.data.toList.length:=by rw [←Lib.size_eq];exact hk
 rw [List.drop_eq_getElem_cons hl,digI,if_neg]
 ·rfl
 ·exact h
theorem digI_end {t:ByteArray} {acc k:Nat} (hk:t.size≤k):digI acc (t.data.toList.drop k)=some acc:=by
 rw [List.drop_eq_nil_of_le (by rw [←Lib.size_eq];exact hk),digI]
theorem body_neg {s:ByteArray} (h:negI s.data.toList=true):bodyI s.data.toList=(s.extract 1 s.size).data.toList:=by
 unfold bodyI;rw [if_pos h,Lib.extract_to_end s 1];cases s.data.toList<;>rfl
theorem body_pos {s:ByteArray} (h:negI s.data.toList=false):bodyI s.data.toList=s.data.toList:=by
 unfold bodyI;rw [h];rfl
theorem int_neg (s:ByteArray) (w:World) (hs:s.size≤1048576) (h1:1 < s.size) (h2:(s[0]'(by omega)).toNat=45):
    Calls Tryz.prog 108 #[.string s] w fun e w'=>e= .returned (.tuple #[.int .i64 (intI s.data.toList).1,.bool (intI s.data.toList).2])∧w'=w:=by
  have hN:=neg_yes h1 h2;have hB:=body_neg hN;have hts:(s.extract 1 s.size).size=s.size - 1:=by simp
  by_cases hb:19 < s.size - 1∨((s.extract 1 s.size)[0]'(by omega)).toNat=48
  · have HR:Hid (intI s.data.toList=(0,false)):=int_bad hB hN (by
      rcases hb with hb | hb
      · exact .inr (.inl (by omega))
      · exact .inr (.inr ⟨⟨by omega,hb⟩,.inr rfl⟩))
    clear hB hN;go_enter Tryz.func108,Tryz.ntmps108;go_wp2;all_goals first
      | (exfalso;omega)
      | (go_ret2;exact ⟨ret_two HR.out,rfl⟩)
  · have HG:Hid (intI s.data.toList=match digI 0 (s.extract 1 s.size).data.toList with | none=> (0,false) | some n=> (if true then -(n:Int) else n,inNum (if true then -(n:Int) else n))):=
      int_good hB hN (by omega) (by omega) (fun h=>by omega)
    clear hB hN;go_enter Tryz.func108,Tryz.ntmps108;go_wp2;all_goals first
      | (exfalso;omega)
      | skip
    go_loop [5,6] (fun n i=>∃(k acc:Nat),k≤(s.size - 1)∧i= .int .i64 k∧n= .int .i64 acc∧acc≤1000000000000000009∧Hid (digI 0 (s.extract 1 s.size).data.toList=digI acc ((s.extract 1 s.size).data.toList.drop k))) (fun _ i=> (s.size - 1) - (intOf i).toNat)
    case atStart=>exact ⟨0,0,by omega,rfl,rfl,by omega,rfl⟩
    case round=>
      obtain ⟨k,acc,hk,rfl,rfl,hacc,HP⟩:=hrel;by_cases hlt:k < (s.size - 1)
      · have hl2:k < (s.extract 1 s.size).size:=by simp;omega
        by_cases hbad:((s.extract 1 s.size)[k]'hl2).toNat < 48∨57 < ((s.extract 1 s.size)[k]'hl2).toNat∨100000000000000000 < acc
        · rw [digI_stop hl2 hbad] at HP;have HR:Hid (intI s.data.toList=(0,false)):=by unfold Hid;rw [HG.out,HP.out]
          clear HP HG;go_wp2;all_goals first
            | (exfalso;omega)
            | (go_ret2;exact ⟨ret_two HR.out,rfl⟩)
        · rw [digI_go hl2 hbad] at HP;have hx:=((s.extract 1 s.size)[k]'hl2).toNat_lt;have d1:decide ((((s.extract 1 s.size)[k]'hl2).toNat:Int) < 48)=false:=by simp;omega
          have d2:decide ((57:Int) < (((s.extract 1 s.size)[k]'hl2).toNat:Int))=false:=by simp;omega
          have d3:decide ((100000000000000000:Int) < (acc:Int))=false:=by simp;omega
          go_wp2;all_goals first
            | (exfalso;omega)
            | (go_round
               · exact ⟨k+1,acc*10+(((s.extract 1 s.size)[k]'hl2).toNat - 48),by omega,by go_num,by go_num,by omega,HP.out⟩
               · simp [intOf];omega)
      · have hke:(s.extract 1 s.size).size≤k:=by simp;omega
        rw [digI_end hke] at HP;have HR:Hid (intI s.data.toList=(-(acc:Int),inNum (-(acc:Int)))):=by
          unfold Hid;rw [HG.out,HP.out];simp
        have HQ:Hid (inNum (-(acc:Int))=decide (-1000000000000000000≤ -(acc:Int)∧ -(acc:Int)≤1000000000000000000)):=rfl;clear HP HG;go_wp2_with fail;refine (l1In_any _ _ _ w).mono ?_;rintro e w1 ⟨rfl,rfl⟩;rw [← HQ.out];go_wp2;go_ret2;exact ⟨ret_two HR.out,rfl⟩
theorem int_short48 (s:ByteArray) (w:World) (hs:s.size≤1048576) (h1:¬1 < s.size) (h3:∀h:0 < s.size,(s[0]'h).toNat=48):
    Calls Tryz.prog 108 #[.string s] w fun e w'=>e= .returned (.tuple #[.int .i64 (intI s.data.toList).1,.bool (intI s.data.toList).2])∧w'=w:=by
  have hN:=neg_no1 h1;have hB:=body_pos hN;by_cases h0:s.size < 1
  · have HR:Hid (intI s.data.toList=(0,false)):=int_bad hB hN (.inl h0);clear hB hN;go_enter Tryz.func108,Tryz.ntmps108;go_wp2;all_goals first
      | (exfalso;omega)
      | (go_ret2;exact ⟨ret_two HR.out,rfl⟩)
  · have h4:=h3 (by omega);by_cases hb:19 < s.size∨((s[0]'(by omega)).toNat=48∧1 < s.size)
    · have HR:Hid (intI s.data.toList=(0,false)):=int_bad hB hN (by
        rcases hb with hb | hb
        · exact .inr (.inl hb)
        · exact .inr (.inr ⟨⟨by omega,hb.1⟩,.inl hb.2⟩))
      clear hB hN;go_enter Tryz.func108,Tryz.ntmps108;go_wp2;all_goals first
        | (exfalso;omega)
        | (go_ret2;exact ⟨ret_two HR.out,rfl⟩)
    · have HG:Hid (intI s.data.toList=match digI 0 s.data.toList with | none=> (0,false) | some n=> (if false then -(n:Int) else n,inNum (if false then -(n:Int) else n))):=
        int_good hB hN (by omega) (by omega) (fun h=>⟨by omega,rfl⟩)
      clear hB hN;go_enter Tryz.func108,Tryz.ntmps108;go_wp2;all_goals first
        | (exfalso;omega)
        | skip
      go_loop [5,6] (fun n i=>∃(k acc:Nat),k≤s.size∧i= .int .i64 k∧n= .int .i64 acc∧acc≤1000000000000000009∧Hid (digI 0 s.data.toList=digI acc (s.data.toList.drop k))) (fun _ i=>s.size - (intOf i).toNat)
      case atStart=>exact ⟨0,0,by omega,rfl,rfl,by omega,rfl⟩
      case round=>
        obtain ⟨k,acc,hk,rfl,rfl,hacc,HP⟩:=hrel;by_cases hlt:k < s.size
        · have hl2:k < s.size:=by omega
          by_cases hbad:(s[k]'hl2).toNat < 48∨57 < (s[k]'hl2).toNat∨100000000000000000 < acc
          · rw [digI_stop hl2 hbad] at HP;have HR:Hid (intI s.data.toList=(0,false)):=by unfold Hid;rw [HG.out,HP.out]
            clear HP HG;go_wp2;all_goals first
              | (exfalso;omega)
              | (go_ret2;exact ⟨ret_two HR.out,rfl⟩)
          · rw [digI_go hl2 hbad] at HP;have hx:=(s[k]'hl2).toNat_lt;have d1:decide (((s[k]'hl2).toNat:Int) < 48)=false:=by simp;omega
            have d2:decide ((57:Int) < ((s[k]'hl2).toNat:Int))=false:=by simp;omega
            have d3:decide ((100000000000000000:Int) < (acc:Int))=false:=by simp;omega
            go_wp2;all_goals first
              | (exfalso;omega)
              | (go_round
                 · exact ⟨k+1,acc*10+((s[k]'hl2).toNat - 48),by omega,by go_num,by go_num,by omega,HP.out⟩
                 · simp [intOf];omega)
        · have hke:s.size≤k:=by omega
          rw [digI_end hke] at HP;have HR:Hid (intI s.data.toList=((acc:Int),inNum ((acc:Int)))):=by
            unfold Hid;rw [HG.out,HP.out];simp
          have HQ:Hid (inNum ((acc:Int))=decide (-1000000000000000000≤(acc:Int)∧(acc:Int)≤1000000000000000000)):=rfl;clear HP HG;go_wp2_with fail;refine (l1In_any _ _ _ w).mono ?_;rintro e w1 ⟨rfl,rfl⟩;rw [← HQ.out];go_wp2;go_ret2;exact ⟨ret_two HR.out,rfl⟩
theorem int_short (s:ByteArray) (w:World) (hs:s.size≤1048576) (h1:¬1 < s.size) (h3:∀h:0 < s.size,¬(s[0]'h).toNat=48):
    Calls Tryz.prog 108 #[.string s] w fun e w'=>e= .returned (.tuple #[.int .i64 (intI s.data.toList).1,.bool (intI s.data.toList).2])∧w'=w:=by
  have hN:=neg_no1 h1;have hB:=body_pos hN;by_cases h0:s.size < 1
  · have HR:Hid (intI s.data.toList=(0,false)):=int_bad hB hN (.inl h0);clear hB hN;go_enter Tryz.func108,Tryz.ntmps108;go_wp2;all_goals first
      | (exfalso;omega)
      | (go_ret2;exact ⟨ret_two HR.out,rfl⟩)
  · have h4:=h3 (by omega);by_cases hb:19 < s.size∨((s[0]'(by omega)).toNat=48∧1 < s.size)
    · have HR:Hid (intI s.data.toList=(0,false)):=int_bad hB hN (by
        rcases hb with hb | hb
        · exact .inr (.inl hb)
        · exact .inr (.inr ⟨⟨by omega,hb.1⟩,.inl hb.2⟩))
      clear hB hN;go_enter Tryz.func108,Tryz.ntmps108;go_wp2;all_goals first
        | (exfalso;omega)
        | (go_ret2;exact ⟨ret_two HR.out,rfl⟩)
    · have HG:Hid (intI s.data.toList=match digI 0 s.data.toList with | none=> (0,false) | some n=> (if false then -(n:Int) else n,inNum (if false then -(n:Int) else n))):=
        int_good hB hN (by omega) (by omega) (fun h=>⟨by omega,rfl⟩)
      clear hB hN;go_enter Tryz.func108,Tryz.ntmps108;go_wp2;all_goals first
        | (exfalso;omega)
        | skip
      go_loop [5,6] (fun n i=>∃(k acc:Nat),k≤s.size∧i= .int .i64 k∧n= .int .i64 acc∧acc≤1000000000000000009∧Hid (digI 0 s.data.toList=digI acc (s.data.toList.drop k))) (fun _ i=>s.size - (intOf i).toNat)
      case atStart=>exact ⟨0,0,by omega,rfl,rfl,by omega,rfl⟩
      case round=>
        obtain ⟨k,acc,hk,rfl,rfl,hacc,HP⟩:=hrel;by_cases hlt:k < s.size
        · have hl2:k < s.size:=by omega
          by_cases hbad:(s[k]'hl2).toNat < 48∨57 < (s[k]'hl2).toNat∨100000000000000000 < acc
          · rw [digI_stop hl2 hbad] at HP;have HR:Hid (intI s.data.toList=(0,false)):=by unfold Hid;rw [HG.out,HP.out]
            clear HP HG;go_wp2;all_goals first
              | (exfalso;omega)
              | (go_ret2;exact ⟨ret_two HR.out,rfl⟩)
          · rw [digI_go hl2 hbad] at HP;have hx:=(s[k]'hl2).toNat_lt;have d1:decide (((s[k]'hl2).toNat:Int) < 48)=false:=by simp;omega
            have d2:decide ((57:Int) < ((s[k]'hl2).toNat:Int))=false:=by simp;omega
            have d3:decide ((100000000000000000:Int) < (acc:Int))=false:=by simp;omega
            go_wp2;all_goals first
              | (exfalso;omega)
              | (go_round
                 · exact ⟨k+1,acc*10+((s[k]'hl2).toNat - 48),by omega,by go_num,by go_num,by omega,HP.out⟩
                 · simp [intOf];omega)
        · have hke:s.size≤k:=by omega
          rw [digI_end hke] at HP;have HR:Hid (intI s.data.toList=((acc:Int),inNum ((acc:Int)))):=by
            unfold Hid;rw [HG.out,HP.out];simp
          have HQ:Hid (inNum ((acc:Int))=decide (-1000000000000000000≤(acc:Int)∧(acc:Int)≤1000000000000000000)):=rfl;clear HP HG;go_wp2_with fail;refine (l1In_any _ _ _ w).mono ?_;rintro e w1 ⟨rfl,rfl⟩;rw [← HQ.out];go_wp2;go_ret2;exact ⟨ret_two HR.out,rfl⟩
theorem int_pos (s:ByteArray) (w:World) (hs:s.size≤1048576) (h1:1 < s.size) (h2:¬(s[0]'(by omega)).toNat=45):
    Calls Tryz.prog 108 #[.string s] w fun e w'=>e= .returned (.tuple #[.int .i64 (intI s.data.toList).1,.bool (intI s.data.toList).2])∧w'=w:=by
  have hN:=neg_no2 h1 h2;have hB:=body_pos hN;by_cases h0:s.size < 1
  · have HR:Hid (intI s.data.toList=(0,false)):=int_bad hB hN (.inl h0);clear hB hN;go_enter Tryz.func108,Tryz.ntmps108;go_wp2;all_goals first
      | (exfalso;omega)
      | (go_ret2;exact ⟨ret_two HR.out,rfl⟩)
  · by_cases hb:19 < s.size∨((s[0]'(by omega)).toNat=48∧1 < s.size)
    · have HR:Hid (intI s.data.toList=(0,false)):=int_bad hB hN (by
        rcases hb with hb | hb
        · exact .inr (.inl hb)
        · exact .inr (.inr ⟨⟨by omega,hb.1⟩,.inl hb.2⟩))
      clear hB hN;go_enter Tryz.func108,Tryz.ntmps108;go_wp2;all_goals first
        | (exfalso;omega)
        | (go_ret2;exact ⟨ret_two HR.out,rfl⟩)
    · have HG:Hid (intI s.data.toList=match digI 0 s.data.toList with | none=> (0,false) | some n=> (if false then -(n:Int) else n,inNum (if false then -(n:Int) else n))):=
        int_good hB hN (by omega) (by omega) (fun h=>⟨by omega,rfl⟩)
      clear hB hN;go_enter Tryz.func108,Tryz.ntmps108;go_wp2;all_goals first
        | (exfalso;omega)
        | skip
      go_loop [5,6] (fun n i=>∃(k acc:Nat),k≤s.size∧i= .int .i64 k∧n= .int .i64 acc∧acc≤1000000000000000009∧Hid (digI 0 s.data.toList=digI acc (s.data.toList.drop k))) (fun _ i=>s.size - (intOf i).toNat)
      case atStart=>exact ⟨0,0,by omega,rfl,rfl,by omega,rfl⟩
      case round=>
        obtain ⟨k,acc,hk,rfl,rfl,hacc,HP⟩:=hrel;by_cases hlt:k < s.size
        · have hl2:k < s.size:=by omega
          by_cases hbad:(s[k]'hl2).toNat < 48∨57 < (s[k]'hl2).toNat∨100000000000000000 < acc
          · rw [digI_stop hl2 hbad] at HP;have HR:Hid (intI s.data.toList=(0,false)):=by unfold Hid;rw [HG.out,HP.out]
            clear HP HG;go_wp2;all_goals first
              | (exfalso;omega)
              | (go_ret2;exact ⟨ret_two HR.out,rfl⟩)
          · rw [digI_go hl2 hbad] at HP;have hx:=(s[k]'hl2).toNat_lt;have d1:decide (((s[k]'hl2).toNat:Int) < 48)=false:=by simp;omega
            have d2:decide ((57:Int) < ((s[k]'hl2).toNat:Int))=false:=by simp;omega
            have d3:decide ((100000000000000000:Int) < (acc:Int))=false:=by simp;omega
            go_wp2;all_goals first
              | (exfalso;omega)
              | (go_round
                 · exact ⟨k+1,acc*10+((s[k]'hl2).toNat - 48),by omega,by go_num,by go_num,by omega,HP.out⟩
                 · simp [intOf];omega)
        · have hke:s.size≤k:=by omega
          rw [digI_end hke] at HP;have HR:Hid (intI s.data.toList=((acc:Int),inNum ((acc:Int)))):=by
            unfold Hid;rw [HG.out,HP.out];simp
          have HQ:Hid (inNum ((acc:Int))=decide (-1000000000000000000≤(acc:Int)∧(acc:Int)≤1000000000000000000)):=rfl;clear HP HG;go_wp2_with fail;refine (l1In_any _ _ _ w).mono ?_;rintro e w1 ⟨rfl,rfl⟩;rw [← HQ.out];go_wp2;go_ret2;exact ⟨ret_two HR.out,rfl⟩
theorem l1Int_any (s:ByteArray) (w:World) (hs:s.size≤1048576):
  Calls Tryz.prog 108 #[.string s] w fun e w'=>e= .returned (.tuple #[.int .i64 (intI s.data.toList).1,.bool (intI s.data.toList).2])∧w'=w:=by
 by_cases h1:1<s.size
 ·by_cases h2:(s[0]'(by omega)).toNat=45
  ·exact int_neg s w hs h1 h2
  ·exact int_pos s w hs h1 h2
 ·by_cases h3:∀h:0<s.size,(s[0]'h).toNat=48
  ·exact int_short48 s w hs h1 h3
  ·exact int_short s w hs h1 (fun h e=>h3 fun _=>e)
end Go.Proofs.YtibhabajknikcaaGreatDoor
