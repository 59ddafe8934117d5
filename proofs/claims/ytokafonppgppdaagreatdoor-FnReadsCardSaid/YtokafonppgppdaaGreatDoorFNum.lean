import Derived.Test.YtokafonppgppdaaGreatDoorFShelf2
set_option maxHeartbeats 1000000
set_option maxRecDepth 100000
namespace Go.Proofs.YtokafonppgppdaaGreatDoor.Fd
open Tryz
open Go.RowKit Go.Sort
structure Ready (w:World):Prop where
 tab:Tab w
 mx:∃m,w.cell? ⟨4,0,none⟩=some (.int .i64 m)
 syn:∃tp p,w.var? prog "strconv.ErrSyntax" =some #[.iface tp p]
 rng:∃tp p,w.var? prog "strconv.ErrRange" =some #[.iface tp p]
 six:22<=w.heap.size
theorem yjn:prog.globalNamed "strconv.ErrSyntax" =some 8:=by kernel_rfl
theorem ykf:prog.globalNamed "strconv.ErrRange" =some 9:=by kernel_rfl
theorem Ready.bw {w w':World} (h:Ready w) (hb:Below 22 w w'):Ready w':=by
 obtain ⟨m,hm⟩:=h.mx;obtain ⟨t1,p1,h1⟩:=h.syn;obtain ⟨t2,p2,h2⟩:=h.rng;exact ⟨h.tab.bw hb (by omega),⟨m,(hb.cell (p:=⟨4,0,none⟩) (by show 4<22;omega)).trans hm⟩,⟨t1,p1,var?_below hb yjn (by omega) h1⟩,⟨t2,p2,var?_below hb ykf (by omega) h2⟩,by have:=h.six;have:=hb.size;omega⟩
def zbw (n:Int):Bool:=decide (-1000000000000000000<=n/\n<=1000000000000000000)
def zql (l:List UInt8):Option Int:=
 match Lib.parseIntB 64 l with
 | .ok v=>if zbw v=true/\Lib.itoa v=l then some v else none
 |_=>none
theorem zbp (n:Int) (w:World):
  Calls prog 113 #[.int .i64 n] w fun e w'=>e= .returned (.bool (zbw n))/\w'=w:=by
 by_cases h:-1000000000000000000<=n
 ·go_enter func113,ntmps113;go_wp2;go_ret;exact ⟨zif (by simp [zbw,h]),rfl⟩
 ·have hd:decide (-1000000000000000000<=n)=false:=by simpa using h
  go_enter func113,ntmps113;go_wp2;go_ret;exact ⟨zif (by simp [zbw];omega),rfl⟩
theorem zmr (l:List UInt8) (v:Int) (h:Lib.parseIntB 64 l= .ok v):-9223372036854775808<=v/\v<=9223372036854775807:=by
 have e63:(2:Nat)^(64-1)=9223372036854775808:=by decide
 unfold Lib.parseIntB at h;cases l with
 |nil=>cases h
 |cons c r=>
  simp only at h;split at h
  ·cases h
  ·cases h
  ·rename_i u _;rw [e63] at h;split at h
   ·cases h
   ·split at h
    ·cases h
    ·injection h with h;subst h;split<;>omega
theorem zrq (w:World) (s:ByteArray):Bl w (Lib.bytesWorld w 5 s):=⟨rfl,rfl,rfl,by rw [Lib.bytesWorld_size];omega,fun k hk=>Lib.bytesWorld_at_old w 5 s k hk⟩
theorem zsu (s:ByteArray) (w:World) (hs:s.size<=2097152) (hr:Ready w):
  Calls prog 66 #[.string s] w fun e w'=>e= .returned (.tuple #[.int .i64 ((zql s.data.toList).getD 0),.bool (zql s.data.toList).isSome])/\Bl w w':=by
 have h6:=hr.six;cases hp:Lib.parseIntB 64 s.data.toList with
 |ok v=>
  obtain ⟨v0,v1⟩:=zmr _ _ hp;have HC:Hid (Cp 114 #[.string s,.int .i64 10,.int .i64 64] w fun e w'=>e= .returned (.tuple #[.int .i64 v,.nilIface])/\(w'=w\/∃t,w'=Lib.bytesWorld w 5 t)):=Tryz.fdstrconv_ParseInt_10_at64_ok s (by omega) v hp w;have HD:Hid (zql s.data.toList=if zbw v=true/\Lib.itoa v=s.data.toList then some v else none):=by
   unfold Hid zql;rw [hp]
  clear hp;go_enter func66,ntmps66;go_wp2_with fail;refine HC.out.mono ?_;rintro e w1 ⟨rfl,hw1⟩;have b1:Bl w w1:=by
   rcases hw1 with rfl|⟨t,rfl⟩
   ·exact Qb _ _
   ·exact zrq w t
  clear hw1 HC;have hr1:=hr.bw (b1.mono h6);go_wp2_with fail;refine (zbp v w1).mono ?_;rintro e w2 ⟨rfl,hw2⟩;have hw3:=hw2.symm;subst hw3;cases hin:zbw v with
  |false=>
   have HN:Hid (zql s.data.toList=none):=by unfold Hid;rw [HD.out,hin];simp
   clear hin;go_wp2;go_ret2;exact ⟨by rw [HN.out];rfl,b1⟩
  |true=>
   have HN:Hid (zql s.data.toList=if Lib.itoa v=s.data.toList then some v else none):=by unfold Hid;rw [HD.out,hin];simp
   clear hin HD;have htab:=hr1.tab;go_wp2_with fail;refine (Tryz.fdstrconv_FormatInt_10 v v0 v1 _ htab).mono ?_;rintro e w3 ⟨rfl,k1,os1,rfl⟩;have b2:=below_grow w1.heap.size w1 (Qc _) k1 os1;generalize grow (w1.drewN k1) os1=w3 at*;have b02:=b1.trans (b2.mono b1.size);clear b2 b1 hr1 htab;generalize Lib.itoa v=D at*;by_cases hD:D=s.data.toList
   ·have hb:(D==s.toList)=true:=by simp [hD,ByteArray.toList_eq]
    have HV:Hid (zql s.data.toList=some v):=by unfold Hid;rw [HN.out,if_pos hD]
    clear hD HN;go_wp2;go_ret2;exact ⟨by rw [HV.out];rfl,b02⟩
   ·have hb:(D==s.toList)=false:=by simp [hD,ByteArray.toList_eq]
    have HV:Hid (zql s.data.toList=none):=by unfold Hid;rw [HN.out,if_neg hD]
    clear hD HN;go_wp2;go_ret2;exact ⟨by rw [HV.out];rfl,b02⟩
 |«syntax»=>
  obtain ⟨tp,pv,hv⟩:=hr.syn;have HC:Hid (Cp 114 #[.string s,.int .i64 10,.int .i64 64] w fun e w'=>∃N,e= .returned (.tuple #[.int .i64 (0),.iface 239 (.pointer (some ⟨N,0,none⟩))])/\w.heap.size<=N/\w'.heap[N]?=some (.cells #[.string ⟨#[80,97,114,115,101,73,110,116]⟩,.string s,.iface tp pv] 280 (0,0))/\Bl w w'):=Tryz.fdstrconv_ParseInt_10_at64_syntax_var s (by omega) hp tp pv w hv;have HV:Hid (zql s.data.toList=none):=by unfold Hid zql;rw [hp]
  clear hp hv;go_enter func66,ntmps66;go_wp2_with fail;refine HC.out.mono ?_;rintro e w1 ⟨N,rfl,_,_,b1⟩;go_wp2;go_ret2;exact ⟨by rw [HV.out];rfl,b1⟩
 |range=>
  obtain ⟨tp,pv,hv⟩:=hr.rng;have HC:Hid (Cp 114 #[.string s,.int .i64 10,.int .i64 64] w fun e w'=>∃N,e= .returned (.tuple #[.int .i64 (Lib.intSat 64 s.data.toList),.iface 239 (.pointer (some ⟨N,0,none⟩))])/\w.heap.size<=N/\w'.heap[N]?=some (.cells #[.string ⟨#[80,97,114,115,101,73,110,116]⟩,.string s,.iface tp pv] 280 (0,0))/\Bl w w'):=Tryz.fdstrconv_ParseInt_10_at64_range_var s (by omega) hp tp pv w hv;have HV:Hid (zql s.data.toList=none):=by unfold Hid zql;rw [hp]
  clear hp hv;generalize Lib.intSat 64 s.data.toList=iv at*;go_enter func66,ntmps66;go_wp2_with fail;refine HC.out.mono ?_;rintro e w1 ⟨N,rfl,_,_,b1⟩;go_wp2;go_ret2;exact ⟨by rw [HV.out];rfl,b1⟩
end Go.Proofs.YtokafonppgppdaaGreatDoor.Fd
