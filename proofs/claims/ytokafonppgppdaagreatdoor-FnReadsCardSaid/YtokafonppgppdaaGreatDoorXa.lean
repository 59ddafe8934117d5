import Derived.Test.YtokafonppgppdaaGreatDoorWa
set_option maxHeartbeats 4000000
set_option maxRecDepth 100000
namespace Go.Proofs.YtokafonppgppdaaGreatDoor
open Tryz
open Go.RowKit Go.Sort
variable {x:UInt8} {n acc k:Nat} {s t:ByteArray} {l:List UInt8} {neg:Bool}
theorem zck (n a b:Int) (w:World):
  Calls prog 52 #[.int .i64 n,.int .i64 a,.int .i64 b] w fun e w'=>e= .returned (.bool (decide (a<=n/\n<=b)))/\w'=w:=by
 by_cases h1:a<=n
 ·by_cases h2:n<=b;all_goals
   go_enter func52,ntmps52;go_wp2;go_ret;exact ⟨by simp [h1,h2],rfl⟩
 ·go_enter func52,ntmps52;go_wp2;go_ret;exact ⟨by simp;omega,rfl⟩
theorem zdz {a:Int} {b:Bool} {c:Int×Bool} (h:c=(a,b)):Ending.returned (.tuple #[.int .i64 a,.bool b])= .returned (.tuple #[.int .i64 c.1,.bool c.2]):=by rw [h]
theorem ykm (s:ByteArray) (i:Nat) (h:i<s.size):s.data.toList[i]?=some (s[i]'h):=by
 have hl:i<s.data.toList.length:=by rw [<-Lib.size_eq];exact h
 rw [Qd hl];rfl
theorem yhn (hn:n<256) (h:¬x.toNat=n):x≠UInt8.ofNat n:=fun e=>h (by rw [e,UInt8.toNat_ofNat'];omega)
theorem yca (h:x.toNat=n):x=UInt8.ofNat n:=by rw [<-h];simp
theorem zn9 (h:0<s.size):s.data.toList.head?=some (s[0]'h):=by
 rw [List.head?_eq_getElem?,ykm s 0 h]
theorem yhy (h1:1<s.size) (h2:(s[0]'(by omega)).toNat=45):zjc s.data.toList=true:=by
 unfold zjc;rw [zn9 (by omega),yca h2,<-Lib.size_eq];simp [h1]
theorem yak (h1:¬1<s.size):zjc s.data.toList=false:=by
 unfold zjc;rw [<-Lib.size_eq];simp [h1]
theorem yhq (h1:1<s.size) (h2:¬(s[0]'(by omega)).toNat=45):zjc s.data.toList=false:=by
 unfold zjc;rw [zn9 (by omega),<-Lib.size_eq];have:=yhn (n:=45) (by omega) h2;simp [h1];exact this
theorem zh1 (ht:zd9 l=t.data.toList) (hn:zjc l=neg) (h:t.size<1\/19<t.size\/(∃h:0<t.size,(t[0]'h).toNat=48)/\(1<t.size\/neg=true)):zeq l=(0,false):=by
 unfold zeq;rw [ht,hn,<-Lib.size_eq,if_pos];rcases h with h|h|⟨⟨h0,h⟩,h'⟩
 ·exact .inl h
 ·exact .inr (.inl h)
 ·exact .inr (.inr ⟨by rw [zn9 h0,yca h];rfl,h'⟩)
theorem zkr (ht:zd9 l=t.data.toList) (hn:zjc l=neg) (h1:0<t.size) (h2:t.size<=19) (h:(t[0]'h1).toNat=48->t.size<=1/\neg=false):
  zeq l=match zft 0 t.data.toList with|none=> (0,false)|some n=> (if neg then-(n:Int) else n,zbw (if neg then-(n:Int) else n)):=by
 unfold zeq;rw [ht,hn,<-Lib.size_eq,if_neg]
 ·rfl
 ·rintro (h'|h'|⟨h',h''⟩)
  ·omega
  ·omega
  ·rw [zn9 h1] at h';injection h' with h';have:=h (by rw [h'];rfl);rcases h'' with h''|h''
   ·omega
   ·rw [this.2] at h'';cases h''
theorem zir (hk:k<t.size) (h:(t[k]'hk).toNat<48\/57<(t[k]'hk).toNat\/100000000000000000<acc):zft acc (t.data.toList.drop k)=none:=by
 have hl:k<t.data.toList.length:=by rw [<-Lib.size_eq];exact hk
 rw [List.drop_eq_getElem_cons hl,zft,if_pos];exact h
theorem zpl (hk:k<t.size) (h:¬((t[k]'hk).toNat<48\/57<(t[k]'hk).toNat\/100000000000000000<acc)):zft acc (t.data.toList.drop k)=zft (acc*10+((t[k]'hk).toNat-48)) (t.data.toList.drop (k+1)):=by
 have hl:k<t.data.toList.length:=by rw [<-Lib.size_eq];exact hk
 rw [List.drop_eq_getElem_cons hl,zft,if_neg]
 ·rfl
 ·exact h
theorem zkj (hk:t.size<=k):zft acc (t.data.toList.drop k)=some acc:=by
 rw [List.drop_eq_nil_of_le (by rw [<-Lib.size_eq];exact hk),zft]
theorem yd4 (h:zjc s.data.toList=true):zd9 s.data.toList=(s.extract 1 s.size).data.toList:=by
 unfold zd9;rw [if_pos h,Lib.extract_to_end s 1];cases s.data.toList<;>rfl
theorem zod (h:zjc s.data.toList=false):zd9 s.data.toList=s.data.toList:=by
 unfold zd9;rw [h];rfl
section
variable (s:ByteArray) (w:World)
theorem ygv (hs:s.size<=1048576) (h1:1 < s.size) (h2:(s[0]'(by omega)).toNat=45):
    Calls prog 65 #[.string s] w fun e w'=>e= .returned (.tuple #[.int .i64 (zeq s.data.toList).1,.bool (zeq s.data.toList).2])/\w'=w:=by
  have hN:=yhy h1 h2;have hB:=yd4 hN;have hts:(s.extract 1 s.size).size=s.size - 1:=by simp
  by_cases hb:19 < s.size - 1\/((s.extract 1 s.size)[0]'(by omega)).toNat=48
  · have HR:Hid (zeq s.data.toList=(0,false)):=zh1 hB hN (by
      rcases hb with hb | hb
      · exact .inr (.inl (by omega))
      · exact .inr (.inr ⟨⟨by omega,hb⟩,.inr rfl⟩))
    clear hB hN;go_enter func65,ntmps65;go_wp2;all_goals first
      | (exfalso;omega)
      | (go_ret2;exact ⟨zdz HR.out,rfl⟩)
  · have HG:Hid (zeq s.data.toList=match zft 0 (s.extract 1 s.size).data.toList with | none=> (0,false) | some n=> (if true then -(n:Int) else n,zbw (if true then -(n:Int) else n))):=
      zkr hB hN (by omega) (by omega) (fun h=>by omega)
    clear hB hN;go_enter func65,ntmps65;go_wp2;all_goals first
      | (exfalso;omega)
      | skip
    go_loop [5,6] (fun n i=>∃(k acc:Nat),k<=(s.size - 1)/\i= .int .i64 k/\n= .int .i64 acc/\acc<=1000000000000000009/\Hid (zft 0 (s.extract 1 s.size).data.toList=zft acc ((s.extract 1 s.size).data.toList.drop k))) (fun _ i=> (s.size - 1) - (intOf i).toNat)
    case atStart=>exact ⟨0,0,by omega,rfl,rfl,by omega,rfl⟩
    case round=>
      obtain ⟨k,acc,hk,rfl,rfl,hacc,HP⟩:=hrel;by_cases hlt:k < (s.size - 1)
      · have hl2:k < (s.extract 1 s.size).size:=by simp;omega
        by_cases hbad:((s.extract 1 s.size)[k]'hl2).toNat < 48\/57 < ((s.extract 1 s.size)[k]'hl2).toNat\/100000000000000000 < acc
        · rw [zir hl2 hbad] at HP;have HR:Hid (zeq s.data.toList=(0,false)):=by unfold Hid;rw [HG.out,HP.out]
          clear HP HG;go_wp2;all_goals first
            | (exfalso;omega)
            | (go_ret2;exact ⟨zdz HR.out,rfl⟩)
        · rw [zpl hl2 hbad] at HP;have hx:=((s.extract 1 s.size)[k]'hl2).toNat_lt;have d1:decide ((((s.extract 1 s.size)[k]'hl2).toNat:Int) < 48)=false:=by simp;omega
          have d2:decide ((57:Int) < (((s.extract 1 s.size)[k]'hl2).toNat:Int))=false:=by simp;omega
          have d3:decide ((100000000000000000:Int) < (acc:Int))=false:=by simp;omega
          go_wp2;all_goals first
            | (exfalso;omega)
            | (go_round
               · exact ⟨k+1,acc*10+(((s.extract 1 s.size)[k]'hl2).toNat - 48),by omega,by go_num,by go_num,by omega,HP.out⟩
               · simp [intOf];omega)
      · have hke:(s.extract 1 s.size).size<=k:=by simp;omega
        rw [zkj hke] at HP;have HR:Hid (zeq s.data.toList=(-(acc:Int),zbw (-(acc:Int)))):=by
          unfold Hid;rw [HG.out,HP.out];simp
        have HQ:Hid (zbw (-(acc:Int))=decide (-1000000000000000000<= -(acc:Int)/\ -(acc:Int)<=1000000000000000000)):=rfl;clear HP HG;go_wp2_with fail;refine (zck _ _ _ w).mono ?_;rintro e w1 ⟨rfl,rfl⟩;rw [<- HQ.out];go_wp2;go_ret2;exact ⟨zdz HR.out,rfl⟩
theorem zsi (hs:s.size<=1048576) (h1:¬1 < s.size) (h3:∀h:0 < s.size,(s[0]'h).toNat=48):
    Calls prog 65 #[.string s] w fun e w'=>e= .returned (.tuple #[.int .i64 (zeq s.data.toList).1,.bool (zeq s.data.toList).2])/\w'=w:=by
  have hN:=yak h1;have hB:=zod hN;by_cases h0:s.size < 1
  · have HR:Hid (zeq s.data.toList=(0,false)):=zh1 hB hN (.inl h0);clear hB hN;go_enter func65,ntmps65;go_wp2;all_goals first
      | (exfalso;omega)
      | (go_ret2;exact ⟨zdz HR.out,rfl⟩)
  · have h4:=h3 (by omega);by_cases hb:19 < s.size\/((s[0]'(by omega)).toNat=48/\1 < s.size)
    · have HR:Hid (zeq s.data.toList=(0,false)):=zh1 hB hN (by
        rcases hb with hb | hb
        · exact .inr (.inl hb)
        · exact .inr (.inr ⟨⟨by omega,hb.1⟩,.inl hb.2⟩))
      clear hB hN;go_enter func65,ntmps65;go_wp2;all_goals first
        | (exfalso;omega)
        | (go_ret2;exact ⟨zdz HR.out,rfl⟩)
    · have HG:Hid (zeq s.data.toList=match zft 0 s.data.toList with | none=> (0,false) | some n=> (if false then -(n:Int) else n,zbw (if false then -(n:Int) else n))):=
        zkr hB hN (by omega) (by omega) (fun h=>⟨by omega,rfl⟩)
      clear hB hN;go_enter func65,ntmps65;go_wp2;all_goals first
        | (exfalso;omega)
        | skip
      go_loop [5,6] (fun n i=>∃(k acc:Nat),k<=s.size/\i= .int .i64 k/\n= .int .i64 acc/\acc<=1000000000000000009/\Hid (zft 0 s.data.toList=zft acc (s.data.toList.drop k))) (fun _ i=>s.size - (intOf i).toNat)
      case atStart=>exact ⟨0,0,by omega,rfl,rfl,by omega,rfl⟩
      case round=>
        obtain ⟨k,acc,hk,rfl,rfl,hacc,HP⟩:=hrel;by_cases hlt:k < s.size
        · have hl2:k < s.size:=by omega
          by_cases hbad:(s[k]'hl2).toNat < 48\/57 < (s[k]'hl2).toNat\/100000000000000000 < acc
          · rw [zir hl2 hbad] at HP;have HR:Hid (zeq s.data.toList=(0,false)):=by unfold Hid;rw [HG.out,HP.out]
            clear HP HG;go_wp2;all_goals first
              | (exfalso;omega)
              | (go_ret2;exact ⟨zdz HR.out,rfl⟩)
          · rw [zpl hl2 hbad] at HP;have hx:=(s[k]'hl2).toNat_lt;have d1:decide (((s[k]'hl2).toNat:Int) < 48)=false:=by simp;omega
            have d2:decide ((57:Int) < ((s[k]'hl2).toNat:Int))=false:=by simp;omega
            have d3:decide ((100000000000000000:Int) < (acc:Int))=false:=by simp;omega
            go_wp2;all_goals first
              | (exfalso;omega)
              | (go_round
                 · exact ⟨k+1,acc*10+((s[k]'hl2).toNat - 48),by omega,by go_num,by go_num,by omega,HP.out⟩
                 · simp [intOf];omega)
        · have hke:s.size<=k:=by omega
          rw [zkj hke] at HP;have HR:Hid (zeq s.data.toList=((acc:Int),zbw ((acc:Int)))):=by
            unfold Hid;rw [HG.out,HP.out];simp
          have HQ:Hid (zbw ((acc:Int))=decide (-1000000000000000000<=(acc:Int)/\(acc:Int)<=1000000000000000000)):=rfl;clear HP HG;go_wp2_with fail;refine (zck _ _ _ w).mono ?_;rintro e w1 ⟨rfl,rfl⟩;rw [<- HQ.out];go_wp2;go_ret2;exact ⟨zdz HR.out,rfl⟩
theorem zz4 (hs:s.size<=1048576) (h1:¬1 < s.size) (h3:∀h:0 < s.size,¬(s[0]'h).toNat=48):
    Calls prog 65 #[.string s] w fun e w'=>e= .returned (.tuple #[.int .i64 (zeq s.data.toList).1,.bool (zeq s.data.toList).2])/\w'=w:=by
  have hN:=yak h1;have hB:=zod hN;by_cases h0:s.size < 1
  · have HR:Hid (zeq s.data.toList=(0,false)):=zh1 hB hN (.inl h0);clear hB hN;go_enter func65,ntmps65;go_wp2;all_goals first
      | (exfalso;omega)
      | (go_ret2;exact ⟨zdz HR.out,rfl⟩)
  · have h4:=h3 (by omega);by_cases hb:19 < s.size\/((s[0]'(by omega)).toNat=48/\1 < s.size)
    · have HR:Hid (zeq s.data.toList=(0,false)):=zh1 hB hN (by
        rcases hb with hb | hb
        · exact .inr (.inl hb)
        · exact .inr (.inr ⟨⟨by omega,hb.1⟩,.inl hb.2⟩))
      clear hB hN;go_enter func65,ntmps65;go_wp2;all_goals first
        | (exfalso;omega)
        | (go_ret2;exact ⟨zdz HR.out,rfl⟩)
    · have HG:Hid (zeq s.data.toList=match zft 0 s.data.toList with | none=> (0,false) | some n=> (if false then -(n:Int) else n,zbw (if false then -(n:Int) else n))):=
        zkr hB hN (by omega) (by omega) (fun h=>⟨by omega,rfl⟩)
      clear hB hN;go_enter func65,ntmps65;go_wp2;all_goals first
        | (exfalso;omega)
        | skip
      go_loop [5,6] (fun n i=>∃(k acc:Nat),k<=s.size/\i= .int .i64 k/\n= .int .i64 acc/\acc<=1000000000000000009/\Hid (zft 0 s.data.toList=zft acc (s.data.toList.drop k))) (fun _ i=>s.size - (intOf i).toNat)
      case atStart=>exact ⟨0,0,by omega,rfl,rfl,by omega,rfl⟩
      case round=>
        obtain ⟨k,acc,hk,rfl,rfl,hacc,HP⟩:=hrel;by_cases hlt:k < s.size
        · have hl2:k < s.size:=by omega
          by_cases hbad:(s[k]'hl2).toNat < 48\/57 < (s[k]'hl2).toNat\/100000000000000000 < acc
          · rw [zir hl2 hbad] at HP;have HR:Hid (zeq s.data.toList=(0,false)):=by unfold Hid;rw [HG.out,HP.out]
            clear HP HG;go_wp2;all_goals first
              | (exfalso;omega)
              | (go_ret2;exact ⟨zdz HR.out,rfl⟩)
          · rw [zpl hl2 hbad] at HP;have hx:=(s[k]'hl2).toNat_lt;have d1:decide (((s[k]'hl2).toNat:Int) < 48)=false:=by simp;omega
            have d2:decide ((57:Int) < ((s[k]'hl2).toNat:Int))=false:=by simp;omega
            have d3:decide ((100000000000000000:Int) < (acc:Int))=false:=by simp;omega
            go_wp2;all_goals first
              | (exfalso;omega)
              | (go_round
                 · exact ⟨k+1,acc*10+((s[k]'hl2).toNat - 48),by omega,by go_num,by go_num,by omega,HP.out⟩
                 · simp [intOf];omega)
        · have hke:s.size<=k:=by omega
          rw [zkj hke] at HP;have HR:Hid (zeq s.data.toList=((acc:Int),zbw ((acc:Int)))):=by
            unfold Hid;rw [HG.out,HP.out];simp
          have HQ:Hid (zbw ((acc:Int))=decide (-1000000000000000000<=(acc:Int)/\(acc:Int)<=1000000000000000000)):=rfl;clear HP HG;go_wp2_with fail;refine (zck _ _ _ w).mono ?_;rintro e w1 ⟨rfl,rfl⟩;rw [<- HQ.out];go_wp2;go_ret2;exact ⟨zdz HR.out,rfl⟩
theorem yf6 (hs:s.size<=1048576) (h1:1 < s.size) (h2:¬(s[0]'(by omega)).toNat=45):
    Calls prog 65 #[.string s] w fun e w'=>e= .returned (.tuple #[.int .i64 (zeq s.data.toList).1,.bool (zeq s.data.toList).2])/\w'=w:=by
  have hN:=yhq h1 h2;have hB:=zod hN;by_cases h0:s.size < 1
  · have HR:Hid (zeq s.data.toList=(0,false)):=zh1 hB hN (.inl h0);clear hB hN;go_enter func65,ntmps65;go_wp2;all_goals first
      | (exfalso;omega)
      | (go_ret2;exact ⟨zdz HR.out,rfl⟩)
  · by_cases hb:19 < s.size\/((s[0]'(by omega)).toNat=48/\1 < s.size)
    · have HR:Hid (zeq s.data.toList=(0,false)):=zh1 hB hN (by
        rcases hb with hb | hb
        · exact .inr (.inl hb)
        · exact .inr (.inr ⟨⟨by omega,hb.1⟩,.inl hb.2⟩))
      clear hB hN;go_enter func65,ntmps65;go_wp2;all_goals first
        | (exfalso;omega)
        | (go_ret2;exact ⟨zdz HR.out,rfl⟩)
    · have HG:Hid (zeq s.data.toList=match zft 0 s.data.toList with | none=> (0,false) | some n=> (if false then -(n:Int) else n,zbw (if false then -(n:Int) else n))):=
        zkr hB hN (by omega) (by omega) (fun h=>⟨by omega,rfl⟩)
      clear hB hN;go_enter func65,ntmps65;go_wp2;all_goals first
        | (exfalso;omega)
        | skip
      go_loop [5,6] (fun n i=>∃(k acc:Nat),k<=s.size/\i= .int .i64 k/\n= .int .i64 acc/\acc<=1000000000000000009/\Hid (zft 0 s.data.toList=zft acc (s.data.toList.drop k))) (fun _ i=>s.size - (intOf i).toNat)
      case atStart=>exact ⟨0,0,by omega,rfl,rfl,by omega,rfl⟩
      case round=>
        obtain ⟨k,acc,hk,rfl,rfl,hacc,HP⟩:=hrel;by_cases hlt:k < s.size
        · have hl2:k < s.size:=by omega
          by_cases hbad:(s[k]'hl2).toNat < 48\/57 < (s[k]'hl2).toNat\/100000000000000000 < acc
          · rw [zir hl2 hbad] at HP;have HR:Hid (zeq s.data.toList=(0,false)):=by unfold Hid;rw [HG.out,HP.out]
            clear HP HG;go_wp2;all_goals first
              | (exfalso;omega)
              | (go_ret2;exact ⟨zdz HR.out,rfl⟩)
          · rw [zpl hl2 hbad] at HP;have hx:=(s[k]'hl2).toNat_lt;have d1:decide (((s[k]'hl2).toNat:Int) < 48)=false:=by simp;omega
            have d2:decide ((57:Int) < ((s[k]'hl2).toNat:Int))=false:=by simp;omega
            have d3:decide ((100000000000000000:Int) < (acc:Int))=false:=by simp;omega
            go_wp2;all_goals first
              | (exfalso;omega)
              | (go_round
                 · exact ⟨k+1,acc*10+((s[k]'hl2).toNat - 48),by omega,by go_num,by go_num,by omega,HP.out⟩
                 · simp [intOf];omega)
        · have hke:s.size<=k:=by omega
          rw [zkj hke] at HP;have HR:Hid (zeq s.data.toList=((acc:Int),zbw ((acc:Int)))):=by
            unfold Hid;rw [HG.out,HP.out];simp
          have HQ:Hid (zbw ((acc:Int))=decide (-1000000000000000000<=(acc:Int)/\(acc:Int)<=1000000000000000000)):=rfl;clear HP HG;go_wp2_with fail;refine (zck _ _ _ w).mono ?_;rintro e w1 ⟨rfl,rfl⟩;rw [<- HQ.out];go_wp2;go_ret2;exact ⟨zdz HR.out,rfl⟩
theorem zyf (hs:s.size<=1048576):
  Calls prog 65 #[.string s] w fun e w'=>e= .returned (.tuple #[.int .i64 (zeq s.data.toList).1,.bool (zeq s.data.toList).2])/\w'=w:=by
 by_cases h1:1<s.size
 ·by_cases h2:(s[0]'(by omega)).toNat=45
  ·exact ygv s w hs h1 h2
  ·exact yf6 s w hs h1 h2
 ·by_cases h3:∀h:0<s.size,(s[0]'h).toNat=48
  ·exact zsi s w hs h1 h3
  ·exact zz4 s w hs h1 (fun h e=>h3 fun _=>e)
end
end Go.Proofs.YtokafonppgppdaaGreatDoor
