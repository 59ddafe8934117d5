import Derived.Test.YtibhabajknikcaaGreatDoorFFields
import Derived.Test.YtibhabajknikcaaGreatDoorFNum
import Derived.Lib.ParseIntBCases
set_option maxHeartbeats 1000000
namespace Go.Proofs.YtibhabajknikcaaGreatDoor.Fd
open Go.RowKit Go.Sort Go.Lib
def okArgsL (ws:List (List UInt8)):Bool:=decide (ws.length≤16)&&ws.all fun t=>decide (t.length≤200)
theorem okArgs_L (ws:List ByteArray):okArgs ws=okArgsL (ws.map fun t=>t.data.toList):=by
 unfold okArgs okArgsL;rw [List.length_map,List.all_map];congr 1
def lineWords (l:List UInt8):Int ⊕ (List (List UInt8)×Nat):=
 if 300<Lib.indexByte l 10 then .inl 2
 else if Lib.indexByte l 10<0 then .inl (if 300<l.length then 2 else 1)
 else if okArgsL (wordsOf [] (Lib.trimSuffix (l.take (Lib.indexByte l 10).toNat) [13])) then
  .inr (wordsOf [] (Lib.trimSuffix (l.take (Lib.indexByte l 10).toNat) [13]),(Lib.indexByte l 10).toNat+1)
 else .inl 2
theorem indexByte_fits:∀(l:List UInt8) (c:UInt8),0≤Lib.indexByte l c→Lib.indexByte l c+1≤l.length
 | [],c,h=>by simp [Lib.indexByte] at h
 |b::l,c,h=>by
  unfold Lib.indexByte at h ⊢;by_cases hp:(b==c)=true
  ·rw [if_pos hp];simp only [List.length_cons];omega
  ·rw [if_neg hp] at h ⊢;by_cases hi:(Lib.indexByte l c== -1)=true
   ·rw [if_pos hi] at h;omega
   ·rw [if_neg hi] at h ⊢;have hge:=Lib.indexByte_ge l c;have hne:Lib.indexByte l c≠-1:=by simpa using hi
    have:=indexByte_fits l c (by omega);simp only [List.length_cons];omega
theorem words_any (s:ByteArray) (at_ rb:Nat) (w:World) (hs:s.size≤2097152) (ha:at_≤s.size) (h:RdAt w rb s at_):
  Calls Tryz.prog 273 #[.pointer (some ⟨rb,0,none⟩)] w fun e w'=>ArgsEnd w rb s at_ (lineWords (s.data.toList.drop at_)) e w':=by
 have hlen:(s.data.toList.drop at_).length=s.size-at_:=by rw [List.length_drop,←Lib.size_eq]
 unfold lineWords;by_cases h1:300<Lib.indexByte (s.data.toList.drop at_) 10
 ·rw [if_pos h1];exact (words_bad s at_ rb w hs ha h h1).mono fun e w' ⟨he,hb⟩=>⟨he,grown_below (grown_refl w _) hb⟩
 ·rw [if_neg h1];by_cases h2:Lib.indexByte (s.data.toList.drop at_) 10<0
  ·rw [if_pos h2,hlen];exact (words_open s at_ rb w hs ha h h2).mono fun e w' ⟨he,hb⟩=>⟨he,grown_below (grown_refl w _) hb⟩
  ·rw [if_neg h2];have hfit:=indexByte_fits _ 10 (Int.not_lt.1 h2);rw [hlen] at hfit;obtain ⟨n,hn⟩:=Int.eq_ofNat_of_zero_le (Int.not_lt.1 h2);have ht:(Lib.indexByte (s.data.toList.drop at_) 10).toNat=n:=by rw [hn];rfl
   rw [ht];have hb:=wordsOf_bound (Lib.trimSuffix ((s.data.toList.drop at_).take n) [13]) [];have hf:=fields_words ⟨(Lib.trimSuffix ((s.data.toList.drop at_).take n) [13]).toArray⟩;have htl:=trimSuffix_le ((s.data.toList.drop at_).take n) [13];rw [List.length_take,hlen] at htl;simp only [] at hf
   have:=words_line s at_ rb n w hs ha h hn (by omega) (by omega) _ rfl (by
    have:=congrArg List.length hf;rw [List.length_map] at this;rw [this];have:=hb.2.1 rfl;omega) (by
    intro x hx;have hm:x.data.toList∈wordsOf [] (Lib.trimSuffix ((s.data.toList.drop at_).take n) [13]):=by
     rw [←hf];exact List.mem_map_of_mem hx
    have:=hb.2.2 _ hm;rw [Lib.size_eq];simp only [List.length_nil,Nat.zero_add] at this;omega)
   rw [okArgs_L,hf] at this;exact this
def requestM (l:List UInt8):Int ⊕ (List (List UInt8)×Nat):=
 match l with
 | []=> .inl 1
 |b::r=>if b=42 then bulksAllM (b::r) else lineWords (b::r)
theorem ArgsEnd.drew {w w':World} {q rb at_:Nat} {s:ByteArray} {e:Ending}:∀{m:Int ⊕ (List (List UInt8)×Nat)},ArgsEnd (w.drewN q) rb s at_ m e w'→ArgsEnd w rb s at_ m e w'
 | .inl _,⟨he,hg⟩=>⟨he,grown_trans (grown_drewN w q _) hg⟩
 | .inr (_,_),⟨v,he,ho,hr,hl,hg⟩=>⟨v,he,ho,hr,hl,grown_trans (grown_drewN w q _) hg⟩
theorem ArgsEnd.cases {w w':World} {rb at_:Nat} {s:ByteArray} {e:Ending}:∀{m:Int ⊕ (List (List UInt8)×Nat)},ArgsEnd w rb s at_ m e w'→(∃c,e=gaveUp c)∨∃v,e= .returned v
 | .inl c,⟨he,_⟩=> .inl ⟨c,he⟩
 | .inr (_,_),⟨v,he,_⟩=> .inr ⟨v,he⟩
theorem request_any (s:ByteArray) (rb:Nat) (w:World) (hs:s.size≤2097152) (hr:Ready w) (h:RdAt w rb s 0) (hrb:25≤rb):
  Calls Tryz.prog 249 #[.pointer (some ⟨rb,0,none⟩)] w fun e w'=>ArgsEnd w rb s 0 (requestM s.data.toList) e w':=by
 have c0:=h.cell 0;have c1:=h.cell 1;simp at c0 c1;have HB:Hid (∀q,Calls Tryz.prog 272 #[.pointer (some ⟨rb,0,none⟩)] (w.drewN q) fun e w'=>ArgsEnd (w.drewN q) rb s 0 (bulksAllM s.data.toList) e w'):=fun q=>bulks_any s 0 rb (w.drewN q) hs (by omega) (hr.below (below_drewN (Below.refl _ _) _)) h hrb;have HW:Hid (∀q,Calls Tryz.prog 273 #[.pointer (some ⟨rb,0,none⟩)] (w.drewN q) fun e w'=>ArgsEnd (w.drewN q) rb s 0 (lineWords s.data.toList) e w'):=fun q=>words_any s 0 rb (w.drewN q) hs (by omega) h;cases hl:s.data.toList with
 |nil=>
  have hz:s.size=0:=by rw [Lib.size_eq,hl];rfl
  obtain rfl:s=⟨#[]⟩:=str_of s [] hl;clear hl HB HW;go_enter Tryz.func249,Tryz.ntmps249;go_wp2;go_quiet ((fail));go_wp2_with fail;refine (giveUp_any 1 _).mono ?_;rintro e w2 ⟨rfl,rfl⟩;unfold gaveUp;go_wp2;exact ⟨rfl,rfl,grown_drewN _ _ _⟩
 |cons b r=>
  have hz:s.size=r.length+1:=by rw [Lib.size_eq,hl];rfl
  have hb256:b.toNat<256:=b.toNat_lt;rw [hl] at HB HW;obtain rfl:s=⟨(b::r).toArray⟩:=str_of s _ hl;have hex:((⟨(b::r).toArray⟩:ByteArray).extract 0 (r.length+1))=⟨(b::r).toArray⟩:=str_of _ _ (by rw [Lib.extract_data];simp);have h00:∀hx,(⟨(b::r).toArray⟩:ByteArray)[0]'hx=b:=fun _=>rfl;by_cases hbm:b=42
  ·have HM:Hid (requestM (b::r)=bulksAllM (b::r)):=if_pos hbm;have hbz:((b.toNat:Int)==42)=true:=by rw [hbm];rfl
   rw [HM.out];clear hl hbm;go_enter Tryz.func249,Tryz.ntmps249;go_wp2;go_quiet ((fail));go_wp2_with fail;refine (HB.out _).mono ?_;intro e w1 hE;have HE:Hid (ArgsEnd _ _ _ _ _ e w1):=hE.drew;rcases hE.cases with ⟨c,rfl⟩|⟨v,rfl⟩
   ·clear hE;unfold gaveUp;go_wp2;exact ⟨rfl,HE.out⟩
   ·clear hE;go_wp2;go_ret;exact HE.out
  ·have HM:Hid (requestM (b::r)=lineWords (b::r)):=if_neg hbm;have hbz:((b.toNat:Int)==42)=false:=by
    rw [beq_eq_false_iff_ne];intro e;exact hbm (UInt8.toNat_inj.1 (by simp;omega))
   rw [HM.out];clear hl hbm;go_enter Tryz.func249,Tryz.ntmps249;go_wp2;go_quiet ((fail));go_wp2_with fail;refine (HW.out _).mono ?_;intro e w1 hE;have HE:Hid (ArgsEnd _ _ _ _ _ e w1):=hE.drew;rcases hE.cases with ⟨c,rfl⟩|⟨v,rfl⟩
   ·clear hE;unfold gaveUp;go_wp2;exact ⟨rfl,HE.out⟩
   ·clear hE;go_wp2;go_ret;exact HE.out
end Go.Proofs.YtibhabajknikcaaGreatDoor.Fd
namespace Go.Proofs.YtibhabajknikcaaGreatDoor.Fd
open Go.RowKit Go.Sort Go.Lib
theorem clos_gave (s:ByteArray) (rb pb ab:Nat) (c:Int) (w:World) (hs:s.size≤2097152) (hr:Ready w) (h:RdAt w rb s 0) (hrb:25≤rb) (hp:RowAt w pb 271 #[.pointer (some ⟨rb,0,none⟩)]) (hm:requestM s.data.toList= .inl c):
  Calls Tryz.prog 248 #[.pointer (some ⟨pb,0,none⟩),.pointer (some ⟨ab,0,none⟩)] w fun e w'=>e=gaveUp c∧w.grownBy w' (some rb):=by
 have c0:=hp.cell 0;simp at c0;have HC:=request_any s rb w hs hr h hrb;rw [hm] at HC;have HC':Hid (Calls Tryz.prog 249 #[.pointer (some ⟨rb,0,none⟩)] w fun e w'=>e=gaveUp c∧w.grownBy w' (some rb)):=HC;clear HC hm;go_enter Tryz.func248,Tryz.ntmps248;go_wp2_with fail;refine HC'.out.mono ?_;rintro e w1 ⟨rfl,g1⟩;unfold gaveUp;go_wp2;exact ⟨rfl,rfl,g1⟩
theorem clos_done (s:ByteArray) (rb pb ab:Nat) (ts:List (List UInt8)) (u:Nat) (w:World) (hs:s.size≤2097152) (hr:Ready w) (h:RdAt w rb s 0) (hrb:25≤rb) (hp:RowAt w pb 271 #[.pointer (some ⟨rb,0,none⟩)]) (ha:RowAt w ab 28 #[.slice none 0 0]) (hab:ab≠rb) (hm:requestM s.data.toList= .inr (ts,u)):
  Calls Tryz.prog 248 #[.pointer (some ⟨pb,0,none⟩),.pointer (some ⟨ab,0,none⟩)] w fun e w'=>e= .returned (.tuple #[])∧∃v w1,w'=w1.setCell ⟨ab,0,none⟩ v∧w1.ownsRow w.heap.size 9 1 v ts.length (strVals ts)∧RdAt w1 rb s u∧u≤s.size∧w.grownBy w1 (some rb):=by
 have c0:=hp.cell 0;simp at c0;have HC:=request_any s rb w hs hr h hrb;rw [hm] at HC;have HC':Hid (Calls Tryz.prog 249 #[.pointer (some ⟨rb,0,none⟩)] w fun e w'=>∃v,e= .returned v∧w'.ownsRow w.heap.size 9 1 v ts.length (strVals ts)∧RdAt w' rb s (0+u)∧0+u≤s.size∧w.grownBy w' (some rb)):=HC;clear HC hm;go_enter Tryz.func248,Tryz.ntmps248;go_wp2_with fail;refine HC'.out.mono ?_;rintro e w1 ⟨v,rfl,ho,r1,hu,g1⟩;have a1:RowAt w1 ab 28 #[.slice none 0 0]:=(g1.block ab ha.lt (by simpa using hab)).trans ha;have ac:=a1.cell 0;have af:=a1.frozen 0;simp at ac;have H2:Hid (∃v' w1',w1.setCell ⟨ab,0,none⟩ v=w1'.setCell ⟨ab,0,none⟩ v'∧w1'.ownsRow w.heap.size 9 1 v' ts.length (strVals ts)∧RdAt w1' rb s u∧u≤s.size∧w.grownBy w1' (some rb)):=⟨v,w1,rfl,ho,by simpa using r1,by omega,g1⟩;obtain ⟨a,n,cp,rfl⟩:∃a n cp,v= .slice a n cp:=by
  rcases Joins.ownsRow_forms ho with ⟨e,_⟩|⟨g,cap,e⟩
  ·exact ⟨_,_,_,e⟩
  ·exact ⟨_,_,_,e⟩
 clear ho r1 hu g1;go_wp2;go_end0;exact ⟨rfl,H2.out⟩
theorem clos_enters (caps:Array Value) (_h:caps.size=2):∀w,(callFunc 248 caps).run Tryz.prog w= .ok (.enter 248 caps) w:=fun w=>enters_of Tryz.func248 (by kernel_rfl) rfl caps w
def ReqEnd (w:World):Int ⊕ (List (List UInt8)×Nat)→Ending→World→Prop
 | .inl c,e,w'=>e= .returned (.tuple #[.slice none 0 0,.int .i64 0,.int .i64 c])∧Below w.heap.size w w'
 | .inr (ts,u),e,w'=>∃v,e= .returned (.tuple #[v,.int .i64 u,.int .i64 0])∧w'.ownsRow w.heap.size 9 1 v ts.length (strVals ts)∧Below w.heap.size w w'
abbrev W3 (w:World) (s:ByteArray):World:=
 (((w.alloc (.cells #[.string s,.int .i64 0] 273)).alloc (.cells #[.pointer (some ⟨w.heap.size,0,none⟩)] 271)).alloc (.cells #[.slice none 0 0] 28))
abbrev W4 (w:World) (s:ByteArray):World:=(W3 w s).alloc (.cells #[.int .i64 0] 2)
theorem W3_size (w:World) (s:ByteArray):(W3 w s).heap.size=w.heap.size+3:=by simp [W3]
theorem W4_size (w:World) (s:ByteArray):(W4 w s).heap.size=w.heap.size+4:=by simp [W4]
theorem W4_below (w:World) (s:ByteArray):Below w.heap.size w (W4 w s):=(Joins.below_alloc3 w _ _ _).alloc (by simp;omega) _
theorem W4_rd (w:World) (s:ByteArray):RdAt (W4 w s) w.heap.size s 0:=
 RowAt.below (RowAt.new w 273 #[.string s,.int .i64 0]) (Joins.below_alloc3 _ _ _ _) (by simp)
theorem W4_ptr (w:World) (s:ByteArray):RowAt (W4 w s) (w.heap.size+1) 271 #[.pointer (some ⟨w.heap.size,0,none⟩)]:=by
 have:=RowAt.new (w.alloc (.cells #[.string s,.int .i64 0] 273)) 271 #[.pointer (some ⟨w.heap.size,0,none⟩)];have h2:=RowAt.below this (Joins.below_alloc2 _ (.cells #[.slice none 0 0] 28) (.cells #[.int .i64 0] 2)) (by simp);simpa using h2
theorem W4_args (w:World) (s:ByteArray):RowAt (W4 w s) (w.heap.size+1+1) 28 #[.slice none 0 0]:=by
 have:=RowAt.new ((w.alloc (.cells #[.string s,.int .i64 0] 273)).alloc (.cells #[.pointer (some ⟨w.heap.size,0,none⟩)] 271)) 28 #[.slice none 0 0];have h2:=RowAt.below this (Joins.below_alloc1 _ (.cells #[.int .i64 0] 2)) (by simp);simpa using h2
theorem W4_code (w:World) (s:ByteArray):RowAt (W4 w s) (W3 w s).heap.size 2 #[.int .i64 0]:=RowAt.new (W3 w s) 2 #[.int .i64 0]
theorem code_kept {w w':World} {rb k:Nat} (hk:RowAt w k 2 #[.int .i64 0]) (hne:k≠rb) (hg:w.grownBy w' (some rb)):RowAt w' k 2 #[.int .i64 0]:=
 (hg.block k hk.lt (by simpa using hne)).trans hk
theorem att_gave (s:ByteArray) (c:Int) (w:World) (hs:s.size≤2097152) (hr:Ready w) (hm:requestM s.data.toList= .inl c):
  Calls Tryz.prog 247 #[.func (.func 248) #[] #[.pointer (some ⟨w.heap.size+1,0,none⟩),.pointer (some ⟨w.heap.size+1+1,0,none⟩)]] (W3 w s) fun e w'=>e= .returned (.int .i64 c)∧Below w.heap.size w w':=by
 have hb4:=W4_below w s;have h6:=hr.six;have hsz:=W3_size w s;refine (attempt_gave 248 _ c (W3 w s) (fun w'=> (W4 w s).grownBy w' (some w.heap.size)) (clos_enters _ rfl) ?_ ?_).mono ?_
 ·intro w' hg;have hk:=code_kept (W4_code w s) (by omega) hg;exact ⟨by simpa using hk.cell 0,hk.frozen 0⟩
 ·exact clos_gave s w.heap.size (w.heap.size+1) (w.heap.size+1+1) c (W4 w s) hs (hr.below (hb4.mono h6)) (W4_rd w s) h6 (W4_ptr w s) hm
 ·rintro e w' ⟨rfl,w1,hg,rfl⟩;refine ⟨rfl,?_⟩;exact (hb4.trans (below_of_grown hg (Nat.le_refl _) (by rw [W4_size];omega))).setCell (by rw [hsz];simp) _
theorem readReq_gave (s:ByteArray) (c:Int) (hc:c≠0) (w:World) (hs:s.size≤2097152) (hr:Ready w) (hm:requestM s.data.toList= .inl c):
  Calls Tryz.prog 200 #[.string s] w fun e w'=>ReqEnd w (.inl c) e w':=by
 have hmf:∀(fn:Fn) (first cap:Array Value) (w:World),(Instr.makeFunc fn first cap).run Tryz.prog w= .ok (.func fn first cap) w:=fun _ _ _ _=>rfl;have hcz:(c !=0)=true:=by simpa using hc
 have HM:Hid (requestM s.data.toList= .inl c):=hm;clear hm;go_enter Tryz.func200,Tryz.ntmps200;go_wp2_with fail;refine (att_gave s c w hs hr HM.out).mono ?_;rintro e w1 ⟨rfl,b1⟩;go_wp2;go_ret3;exact ⟨rfl,b1⟩
theorem att_done (s:ByteArray) (ts:List (List UInt8)) (u:Nat) (w:World) (hs:s.size≤2097152) (hr:Ready w) (hm:requestM s.data.toList= .inr (ts,u)):
  Calls Tryz.prog 247 #[.func (.func 248) #[] #[.pointer (some ⟨w.heap.size+1,0,none⟩),.pointer (some ⟨w.heap.size+1+1,0,none⟩)]] (W3 w s) fun e w'=>e= .returned (.int .i64 0)∧∃v,RdAt w' w.heap.size s u∧RowAt w' (w.heap.size+1) 271 #[.pointer (some ⟨w.heap.size,0,none⟩)]∧RowAt w' (w.heap.size+1+1) 28 #[v]∧w'.ownsRow w.heap.size 9 1 v ts.length (strVals ts)∧u≤s.size∧Below w.heap.size w w':=by
 have hb4:=W4_below w s;have h6:=hr.six;have hsz:=W3_size w s;have hsz4:=W4_size w s;refine (attempt_done 248 _ (W3 w s) (fun w'=>∃v w1,w'=w1.setCell ⟨w.heap.size+1+1,0,none⟩ v∧w1.ownsRow (W4 w s).heap.size 9 1 v ts.length (strVals ts)∧RdAt w1 w.heap.size s u∧u≤s.size∧(W4 w s).grownBy w1 (some w.heap.size)) (clos_enters _ rfl) ?_ ?_).mono ?_
 ·rintro w' ⟨v,w1,rfl,_,_,_,hg⟩;have hk:=code_kept (W4_code w s) (by omega) hg;have hk':RowAt (w1.setCell ⟨w.heap.size+1+1,0,none⟩ v) (W3 w s).heap.size 2 #[.int .i64 0]:=(Below.heap_setCell _ _ _ _ (by simp only;omega)).trans hk;exact ⟨by simpa using hk'.cell 0,hk'.frozen 0⟩
 ·exact clos_done s w.heap.size (w.heap.size+1) (w.heap.size+1+1) ts u (W4 w s) hs (hr.below (hb4.mono h6)) (W4_rd w s) h6 (W4_ptr w s) (W4_args w s) (by omega) hm
 ·rintro e w' ⟨rfl,w1,⟨v,w0,rfl,ho,hrd,hu,hg⟩,rfl⟩;refine ⟨rfl,v,?_,?_,?_,?_,hu,?_⟩
  ·exact (Below.heap_setCell _ _ _ _ (by simp only;omega)).trans ((Below.heap_setCell _ _ _ _ (by simp only;omega)).trans hrd)
  ·exact (Below.heap_setCell _ _ _ _ (by simp only;omega)).trans ((Below.heap_setCell _ _ _ _ (by simp only;omega)).trans ((hg.block _ (by rw [hsz4];omega) (by simp)).trans (W4_ptr w s)))
  ·have a0:RowAt w0 (w.heap.size+1+1) 28 #[.slice none 0 0]:=(hg.block _ (by rw [hsz4];omega) (by simp;omega)).trans (W4_args w s);have a1:RowAt (w0.setCell ⟨w.heap.size+1+1,0,none⟩ v) (w.heap.size+1+1) 28 #[v]:=by simpa using a0.set 0 v
   exact (Below.heap_setCell _ _ _ _ (by simp only;omega)).trans a1
  ·have o1:w0.ownsRow (w.heap.size+4) 9 1 v ts.length (strVals ts):=by rw [←hsz4];exact ho
   exact Joins.ownsRow_le (ownsRow_setCell_below (ownsRow_setCell_below o1 (by simp only;omega) _) (by simp only;omega) _) (by omega)
  ·exact ((hb4.trans (below_of_grown hg (Nat.le_refl _) (by rw [W4_size];omega))).setCell (by simp only;omega) _).setCell (by rw [hsz];simp) _
theorem readReq_done (s:ByteArray) (ts:List (List UInt8)) (u:Nat) (w:World) (hs:s.size≤2097152) (hr:Ready w) (hm:requestM s.data.toList= .inr (ts,u)):
  Calls Tryz.prog 200 #[.string s] w fun e w'=>ReqEnd w (.inr (ts,u)) e w':=by
 have hmf:∀(fn:Fn) (first cap:Array Value) (w:World),(Instr.makeFunc fn first cap).run Tryz.prog w= .ok (.func fn first cap) w:=fun _ _ _ _=>rfl;have HM:Hid (requestM s.data.toList= .inr (ts,u)):=hm;clear hm;go_enter Tryz.func200,Tryz.ntmps200;go_wp2_with fail;refine (att_done s ts u w hs hr HM.out).mono ?_;rintro e w1 ⟨rfl,v,hrd,hp,hv,ho,hu,b1⟩;have c1:=hrd.cell 1;have c2:=hp.cell 0;have c3:=hv.cell 0;simp at c1 c2 c3;have H2:Hid (w1.ownsRow w.heap.size 9 1 v ts.length (strVals ts)):=ho;obtain ⟨a,n,cp,rfl⟩:∃a n cp,v= .slice a n cp:=by
  rcases Joins.ownsRow_forms ho with ⟨e,_⟩|⟨g,cap,e⟩
  ·exact ⟨_,_,_,e⟩
  ·exact ⟨_,_,_,e⟩
 clear ho;go_wp2;go_quiet ((fail));go_wp2;go_ret3;exact ⟨_,rfl,H2.out,below_drewN b1 _⟩
end Go.Proofs.YtibhabajknikcaaGreatDoor.Fd
namespace Go.Proofs.YtibhabajknikcaaGreatDoor.Fd
open Go.Lib
def digI:Nat→List UInt8→Option Nat
 |acc,[]=>some acc
 |acc,c::r=>if c.toNat<48∨57<c.toNat∨100000000000000000<acc then none else digI (acc*10+(c.toNat-48)) r
def negI (l:List UInt8):Bool:=decide (1<l.length)&&decide (l.head?=some 45)
def bodyI (l:List UInt8):List UInt8:=if negI l then l.tail else l
def intI (l:List UInt8):Int×Bool:=
 if (bodyI l).length<1∨19<(bodyI l).length∨((bodyI l).head?=some 48∧(1<(bodyI l).length∨negI l=true)) then (0,false)
 else match digI 0 (bodyI l) with
  |none=> (0,false)
  |some n=> (if negI l then-(n:Int) else n,inNum (if negI l then-(n:Int) else n))
theorem dig_step (n:Nat) (h:10≤n):Lib.decDigits n=Lib.decDigits (n/10)++ [UInt8.ofNat (48+n%10)]:=by
 rw [Lib.decDigits,dif_neg (by omega)]
theorem dig_byte (c:UInt8) (h:¬c.toNat<48) (h2:¬57<c.toNat):UInt8.ofNat (48+(c.toNat-48))=c:=by
 have:48+(c.toNat-48)=c.toNat:=by omega
 rw [this];simp
theorem digI_to:∀(l:List UInt8) (acc n:Nat),1≤acc→digI acc l=some n→Lib.decDigits acc++l=Lib.decDigits n
 | [],acc,n,_,h=>by simp only [digI] at h;injection h with h;subst h;simp
 |c::r,acc,n,ha,h=>by
  simp only [digI] at h;split at h
  ·cases h
  ·rename_i hc;have hd:=dig_step (acc*10+(c.toNat-48)) (by omega);have e1:(acc*10+(c.toNat-48))/10=acc:=by omega
   have e2:(acc*10+(c.toNat-48))%10=c.toNat-48:=by omega
   rw [e1,e2,dig_byte c (by omega) (by omega)] at hd;rw [←digI_to r _ n (by omega) h,hd];simp
theorem digI_body (l:List UInt8) (n:Nat) (hl:l≠ []) (h0:l.head?=some 48→l.length≤1) (h:digI 0 l=some n):l=Lib.decDigits n:=by
 match l,hl,h0,h with
 |c::r,_,h0,h=>
  simp only [digI] at h;split at h
  ·cases h
  ·rename_i hc;by_cases e:c.toNat=48
   ·have:c=48:=UInt8.toNat_inj.mp (by rw [e];rfl);subst this;have hr:r=[]:=by
     have:=h0 rfl;simpa using this
    subst hr;simp only [digI] at h;injection h with h;subst h;exact (Lib.decDigits_one (i:=0) (by omega)).symm
   ·have hd:Lib.decDigits (0*10+(c.toNat-48))=[c]:=by
     rw [Lib.decDigits_one (by omega)];rw [Nat.zero_mul,Nat.zero_add,dig_byte c (by omega) (by omega)]
    rw [←digI_to r _ n (by omega) h,hd];simp
theorem digI_snoc:∀(l:List UInt8) (c:UInt8) (acc:Nat),digI acc (l++ [c])=(digI acc l).bind fun m=>digI m [c]
 | [],c,acc=>by simp [digI]
 |b::l,c,acc=>by
  simp only [List.cons_append,digI];split
  ·rfl
  ·rw [digI_snoc l c];rfl
theorem ofNat_dig (k:Nat) (h:k<10):(UInt8.ofNat (48+k)).toNat=48+k:=by
 simp;omega
theorem digI_of (n:Nat) (h:n≤1000000000000000000):digI 0 (Lib.decDigits n)=some n:=by
 induction n using Nat.strongRecOn with
 |_ n ih=>
  by_cases h10:n<10
  ·rw [Lib.decDigits_one h10];simp only [digI];rw [ofNat_dig n h10,if_neg (by omega)];congr 1;omega
  ·rw [dig_step n (by omega),digI_snoc,ih (n/10) (by omega) (by omega)];simp only [Option.bind,digI];rw [ofNat_dig _ (by omega),if_neg (by omega)];congr 1;omega
theorem dec_ne (n:Nat):Lib.decDigits n≠ []:=by
 by_cases h10:n<10
 ·rw [Lib.decDigits_one h10];simp
 ·rw [dig_step n (by omega)];simp
theorem dec_head (n:Nat) (h:1≤n):∃c r,Lib.decDigits n=c::r∧49≤c.toNat∧c.toNat≤57:=by
 induction n using Nat.strongRecOn with
 |_ n ih=>
  by_cases h10:n<10
  ·exact ⟨_,_,Lib.decDigits_one h10,by rw [ofNat_dig n h10];omega,by rw [ofNat_dig n h10];omega⟩
  ·obtain ⟨c,r,e,h1,h2⟩:=ih (n/10) (by omega) (by omega);exact ⟨c,r++ [UInt8.ofNat (48+n%10)],by rw [dig_step n (by omega),e];rfl,h1,h2⟩
theorem dec_head' (n:Nat):∃c r,Lib.decDigits n=c::r∧48≤c.toNat∧c.toNat≤57:=by
 by_cases h:1≤n
 ·obtain ⟨c,r,e,h1,h2⟩:=dec_head n h;exact ⟨c,r,e,by omega,h2⟩
 ·have:n=0:=by omega
  subst this;exact ⟨48,[],Lib.decDigits_one (by omega),by decide,by decide⟩
theorem dec_len:∀(k n:Nat),n<10^(k+1)→(Lib.decDigits n).length≤k+1
 |0,n,h=>by rw [Lib.decDigits_one (by simpa using h)];simp
 |k+1,n,h=>by
  by_cases h10:n<10
  ·rw [Lib.decDigits_one h10];simp
  ·rw [dig_step n (by omega)];have:=dec_len k (n/10) (by rw [Nat.pow_succ] at h;omega);simp;omega
theorem puM_snoc (M:Nat):∀(l:List UInt8) (c:UInt8) (acc m:Nat),Lib.parseUintM M acc l= .ok m→Lib.parseUintM M acc (l++ [c])=Lib.parseUintM M m [c]
 | [],c,acc,m,h=>by simp only [Lib.parseUintM] at h;injection h with h;subst h;rfl
 |b::l,c,acc,m,h=>by
  simp only [Lib.parseUintM] at h;simp only [List.cons_append];rw [Lib.parseUintM];split at h
  ·rename_i h1;rw [if_pos h1];split at h
   ·cases h
   ·rename_i h2;rw [if_neg h2];split at h
    ·cases h
    ·rename_i h3;rw [if_neg h3];exact puM_snoc M l c _ m h
  ·cases h
theorem puM_of (n:Nat) (h:n≤1000000000000000000):Lib.parseUintM 18446744073709551615 0 (Lib.decDigits n)= .ok n:=by
 induction n using Nat.strongRecOn with
 |_ n ih=>
  by_cases h10:n<10
  ·rw [Lib.decDigits_one h10];simp only [Lib.parseUintM];rw [ofNat_dig n h10,if_pos (by omega),if_neg (by omega),if_neg (by omega)];congr 1;omega
  ·rw [dig_step n (by omega),puM_snoc _ _ _ _ _ (ih (n/10) (by omega) (by omega))];simp only [Lib.parseUintM];rw [ofNat_dig _ (by omega),if_pos (by omega),if_neg (by omega),if_neg (by omega)];congr 1;omega
theorem puB_of (n:Nat) (h:n≤1000000000000000000):Lib.parseUintB 64 (Lib.decDigits n)= .ok n:=by
 unfold Lib.parseUintB;rw [if_neg (dec_ne n)];exact puM_of n h
theorem piB_itoa (v:Int) (h:inNum v=true):Lib.parseIntB 64 (Lib.itoa v)= .ok v:=by
  have hv: -1000000000000000000≤v∧v≤1000000000000000000:=of_decide_eq_true h;unfold Lib.itoa;by_cases hn:v < 0
  · rw [if_pos hn,Lib.parseIntB_minus,puB_of _ (by omega)];simp only [Lib.signedC]
    rw [if_neg (by have:(2:Nat) ^ (64 - 1)=9223372036854775808:=by decide
                   omega)]
    congr 1;omega
  · rw [if_neg hn];obtain ⟨c,r,e,h1,h2⟩:=dec_head' v.toNat;have hp:=puB_of v.toNat (by omega);rw [e] at hp ⊢;rw [Lib.parseIntB_plain 64 c r (by omega) (by omega),hp];simp only [Lib.signlessC]
    rw [if_neg (by have:(2:Nat) ^ (64 - 1)=9223372036854775808:=by decide
                   omega)]
    congr 1;omega
theorem decM_itoa (v:Int) (h:inNum v=true):decM (Lib.itoa v)=some v:=by
 unfold decM;rw [piB_itoa v h];simp [h]
theorem intI_itoa (v:Int) (h:inNum v=true):intI (Lib.itoa v)=(v,true):=by
 have hv:-1000000000000000000≤v∧v≤1000000000000000000:=of_decide_eq_true h;by_cases hn:v<0
 ·have e:Lib.itoa v=45::Lib.decDigits v.natAbs:=by unfold Lib.itoa;rw [if_pos hn]
  obtain ⟨c,r,e2,h1,h2⟩:=dec_head v.natAbs (by omega);have hl:=dec_len 18 v.natAbs (by omega);have hneg:negI (Lib.itoa v)=true:=by rw [e,e2];simp [negI]
  have hb:bodyI (Lib.itoa v)=Lib.decDigits v.natAbs:=by unfold bodyI;rw [if_pos hneg,e];rfl
  unfold intI;rw [hb,hneg,digI_of v.natAbs (by omega)];have hc:c≠48:=fun hc=>by subst hc;revert h1;decide
  rw [if_neg (by rw [e2] at hl ⊢;simp [hc] at hl ⊢;omega)];have:-(v.natAbs:Int)=v:=by omega
  simp [this,h]
 ·have e:Lib.itoa v=Lib.decDigits v.toNat:=by unfold Lib.itoa;rw [if_neg hn]
  obtain ⟨c,r,e2,h1,h2⟩:=dec_head' v.toNat;have hl:=dec_len 18 v.toNat (by omega);have hc:c≠45:=fun hc=>by subst hc;revert h1;decide
  have hneg:negI (Lib.itoa v)=false:=by rw [e,e2];simp [negI,hc]
  have hb:bodyI (Lib.itoa v)=Lib.decDigits v.toNat:=by unfold bodyI;rw [hneg,e];rfl
  unfold intI;rw [hb,hneg,digI_of v.toNat (by omega)];have h0:(Lib.decDigits v.toNat).head?=some 48→(Lib.decDigits v.toNat).length≤1:=fun h48=>by
   by_cases hz:1≤v.toNat
   ·obtain ⟨c',r',e3,h3,_⟩:=dec_head v.toNat hz;rw [e3] at h48;simp at h48;subst h48;exfalso;revert h3;decide
   ·have:v.toNat=0:=by omega
    rw [this,Lib.decDigits_one (by omega)];simp
  have hne:(Lib.decDigits v.toNat).length≥1:=by rw [e2];simp
  rw [if_neg (by
   rintro (h|h|⟨h,h'|h'⟩)
   ·omega
   ·omega
   ·have:=h0 h;omega
   ·cases h')]
  have:(v.toNat:Int)=v:=by omega
  simp [this,h]
theorem intI_to (l:List UInt8) (h:(intI l).2=true):inNum (intI l).1=true∧Lib.itoa (intI l).1=l:=by
 unfold intI at h ⊢;split at h
 ·cases h
 ·rename_i hc;rw [if_neg hc];cases hd:digI 0 (bodyI l) with
  |none=>rw [hd] at h;cases h
  |some n=>
   rw [hd] at h;refine ⟨h,?_⟩;have hin:inNum (if negI l=true then-(n:Int) else n)=true:=h
   have hb:bodyI l=Lib.decDigits n:=digI_body (bodyI l) n (fun e=>hc (by rw [e];simp)) (fun e=>by
    rcases Nat.lt_or_ge 1 (bodyI l).length with h1|h1
    ·exact absurd (Or.inr (Or.inr ⟨e,Or.inl h1⟩)) hc
    ·omega) hd
   show Lib.itoa (if negI l=true then-(n:Int) else n)=l;cases hneg:negI l with
   |true=>
    have hl:l=45::bodyI l:=by
     unfold bodyI;rw [hneg];unfold negI at hneg;simp at hneg;obtain ⟨_,h45⟩:=hneg;match l,h45 with
     |c::r,h45=>simp at h45;subst h45;rfl
    have hn0:1≤n:=by
     rcases Nat.eq_zero_or_pos n with e|e
     ·subst e;exfalso;rw [Lib.decDigits_one (by omega)] at hb;exact hc (Or.inr (Or.inr ⟨by rw [hb];rfl,Or.inr hneg⟩))
     ·exact e
    rw [if_pos rfl];unfold Lib.itoa;rw [if_pos (by omega),hl,hb];congr 1;simp
   |false=>
    have hl:bodyI l=l:=by unfold bodyI;rw [hneg];rfl
    rw [if_neg (by simp)];unfold Lib.itoa;rw [if_neg (by omega),←hl,hb];congr 1
theorem decM_intI (l:List UInt8):decM l=if (intI l).2 then some (intI l).1 else none:=by
 by_cases h:(intI l).2=true
 ·obtain ⟨h1,h2⟩:=intI_to l h;rw [if_pos h];have:=decM_itoa _ h1;rwa [h2] at this
 ·rw [if_neg h];cases hd:decM l with
  |none=>rfl
  |some v=>
   exfalso;unfold decM at hd;split at hd
   ·split at hd
    ·rename_i hx;injection hd with hd;subst hd;apply h;rw [←hx.2,intI_itoa _ hx.1]
    ·cases hd
   ·cases hd
theorem index_skip (l:List UInt8) (i:Nat) (hi:i < l.length) (h:¬(l[i]?=some 13∧l[i+1]?=some 10)):
  Lib.index (l.drop i) [13,10]=if Lib.index (l.drop (i+1)) [13,10]= -1 then -1 else Lib.index (l.drop (i+1)) [13,10]+1:=by
 rw [List.drop_eq_getElem_cons hi]
 conv=>lhs;unfold Lib.index
 have hp:([13,10]:List UInt8).isPrefixOf (l[i]::l.drop (i+1))=false:=by
  rw [List.getElem?_eq_getElem hi] at h
  match hd:l.drop (i+1) with
  | []=>simp [List.isPrefixOf]
  | c::r=>
   have:l[i+1]?=some c:=by
    have:=congrArg (fun x=>x[0]?) hd
    simpa using this
   rw [this] at h
   simp [List.isPrefixOf] at h ⊢
   intro h1
   exact fun h2=>h h1.symm h2.symm
 rw [hp]
 simp
theorem index_here (l:List UInt8) (i:Nat) (h:l[i]?=some 13) (h2:l[i+1]?=some 10):Lib.index (l.drop i) [13,10]=0:=by
 have hi:i<l.length:=by
  rcases Nat.lt_or_ge i l.length with h'|h'
  ·exact h'
  ·rw [List.getElem?_eq_none h'] at h;cases h
 have hi2:i+1<l.length:=by
  rcases Nat.lt_or_ge (i+1) l.length with h'|h'
  ·exact h'
  ·rw [List.getElem?_eq_none h'] at h2;cases h2
 rw [List.drop_eq_getElem_cons hi,List.drop_eq_getElem_cons hi2];rw [List.getElem?_eq_getElem hi] at h;rw [List.getElem?_eq_getElem hi2] at h2;injection h with h;injection h2 with h2;rw [h,h2];unfold Lib.index;simp [List.isPrefixOf]
theorem index_end (l:List UInt8) (i:Nat) (h:l.length≤i+1):Lib.index (l.drop i) [13,10]= -1:=by
 match hd:l.drop i with
 | []=>rfl
 | [c]=>simp [Lib.index,List.isPrefixOf]
 |a::b::r=>
  have:=congrArg List.length hd;simp at this;omega
theorem ib_skip (l:List UInt8) (i:Nat) (c:UInt8) (hi:i < l.length) (h:l[i]≠c):
  Lib.indexByte (l.drop i) c=if Lib.indexByte (l.drop (i+1)) c= -1 then -1 else Lib.indexByte (l.drop (i+1)) c+1:=by
 rw [List.drop_eq_getElem_cons hi]
 conv=>lhs;unfold Lib.indexByte
 simp [h]
theorem ib_here (l:List UInt8) (i:Nat) (c:UInt8) (hi:i<l.length) (h:l[i]=c):Lib.indexByte (l.drop i) c=0:=by
 rw [List.drop_eq_getElem_cons hi];unfold Lib.indexByte;simp [h]
theorem ib_end (l:List UInt8) (i:Nat) (c:UInt8) (h:l.length≤i):Lib.indexByte (l.drop i) c= -1:=by
 rw [List.drop_eq_nil_of_le h];rfl
def FarB (l:List UInt8) (c:UInt8) (i:Nat):Prop:=Lib.indexByte l c=if Lib.indexByte (l.drop i) c= -1 then-1 else Lib.indexByte (l.drop i) c+i
theorem FarB.zero (l:List UInt8) (c:UInt8):FarB l c 0:=by
 unfold FarB;simp
theorem FarB.next {l:List UInt8} {c:UInt8} {i:Nat} (h:FarB l c i) (hi:i<l.length) (hc:l[i]≠c):FarB l c (i+1):=by
 unfold FarB at h ⊢;rw [h,ib_skip l i c hi hc];have:=Lib.indexByte_ge (l.drop (i+1)) c;split<;>split<;>first|omega|(split<;>omega)
theorem FarB.here {l:List UInt8} {c:UInt8} {i:Nat} (h:FarB l c i) (hi:i<l.length) (hc:l[i]=c):Lib.indexByte l c=i:=by
 unfold FarB at h;rw [h,ib_here l i c hi hc];simp
theorem FarB.end {l:List UInt8} {c:UInt8} {i:Nat} (h:FarB l c i) (hi:l.length≤i):Lib.indexByte l c= -1:=by
 unfold FarB at h;rw [h,ib_end l i c hi];simp
theorem words_gap (cur l:List UInt8) (i:Nat) (hi:i<l.length) (h:isGapB l[i]=true):
  wordsOf cur (l.drop i)=(if cur=[] then [] else [cur])++wordsOf [] (l.drop (i+1)):=by
 rw [List.drop_eq_getElem_cons hi,wordsOf,if_pos h];split<;>simp
theorem words_on (cur l:List UInt8) (i:Nat) (hi:i<l.length) (h:isGapB l[i]=false):
  wordsOf cur (l.drop i)=wordsOf (cur++ [l[i]]) (l.drop (i+1)):=by
 rw [List.drop_eq_getElem_cons hi,wordsOf,if_neg (by simp [h])]
theorem words_end (cur l:List UInt8) (i:Nat) (hi:l.length≤i):wordsOf cur (l.drop i)=if cur=[] then [] else [cur]:=by
 rw [List.drop_eq_nil_of_le hi,wordsOf]
def FarL (l:List UInt8) (a i:Nat):Prop:=Lib.index (l.drop a) [13,10]=if Lib.index (l.drop i) [13,10]= -1 then-1 else Lib.index (l.drop i) [13,10]+(i-a:Nat)
theorem FarL.zero (l:List UInt8) (a:Nat):FarL l a a:=by
 unfold FarL;simp
theorem FarL.next {l:List UInt8} {a i:Nat} (h:FarL l a i) (ha:a≤i) (hi:i<l.length) (hc:¬(l[i]?=some 13∧l[i+1]?=some 10)):FarL l a (i+1):=by
 unfold FarL at h ⊢;rw [h,index_skip l i hi hc];have:=Lib.index_ge (l.drop (i+1)) [13,10];split<;>split<;>first|omega|(split<;>omega)
theorem FarL.here {l:List UInt8} {a i:Nat} (h:FarL l a i) (h1:l[i]?=some 13) (h2:l[i+1]?=some 10):Lib.index (l.drop a) [13,10]=(i-a:Nat):=by
 unfold FarL at h;rw [h,index_here l i h1 h2];simp
theorem FarL.end {l:List UInt8} {a i:Nat} (h:FarL l a i) (hi:l.length≤i+1):Lib.index (l.drop a) [13,10]= -1:=by
 unfold FarL at h;rw [h,index_end l i hi];simp
theorem trim_one (l:List UInt8) (n:Nat) (hn:n≤l.length):
  Lib.trimSuffix (l.take n) [13]=if 0<n∧l[n-1]?=some 13 then l.take (n-1) else l.take n:=by
 unfold Lib.trimSuffix Lib.hasSuffix;match n,hn with
 |0,_=>simp
 |k+1,hn=>
  have hk:k<l.length:=by omega
  have ht:l.take (k+1)=l.take k++ [l[k]]:=by rw [List.take_add_one,List.getElem?_eq_getElem hk];rfl
  by_cases h13:l[k]=13
  ·rw [if_pos (by rw [ht,h13];simp),if_pos ⟨by omega,by simp [List.getElem?_eq_getElem hk,h13]⟩];simp [List.take_take];omega
  ·rw [if_neg,if_neg]
   ·rw [Nat.add_sub_cancel,List.getElem?_eq_getElem hk];simp [h13]
   ·intro h;rw [List.isSuffixOf_iff_suffix,ht] at h;obtain ⟨t,h⟩:=h;have:=(List.append_inj' h rfl).2;simp at this;exact h13 this.symm
end Go.Proofs.YtibhabajknikcaaGreatDoor.Fd
