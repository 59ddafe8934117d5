import Derived.Test.YtibhabajknikcaaGreatDoorFB
import Derived.Lib.SmallJoins
import Derived.Lib.MapLaws
set_option maxHeartbeats 1000000
namespace Go.Proofs.YtibhabajknikcaaGreatDoor.Fd
open Go.RowKit Go.Sort Go.Lib
def gapR (r:Nat):Bool:=decide (r=32)||decide (r=9)
theorem isGap_pays (w:World):PredAt Tryz.prog 297 #[] encR gapR w:=fun W r _=>by
 unfold FnGives;by_cases h1:r=32<;>by_cases h2:r=9;all_goals
  have z1:((r:Int)=32)↔r=32:=by omega
  have z2:((r:Int)=9)↔r=9:=by omega
  go_enter Tryz.func297,Tryz.ntmps297;go_wp2;all_goals first|(exfalso;omega)|(go_ret;exact ⟨by simp [gapR,h1,h2]<;>omega,0,rfl⟩)
theorem isGap_enters:∀args w,(callFunc 297 args).run Tryz.prog w= .ok (.enter 297 args) w:=enters_of Tryz.func297 (by kernel_rfl) rfl
theorem fields94 (s:ByteArray) (w:World) (hs:s.size≤2097152):
  Calls Tryz.prog 296 #[.string s,.func (.func 297) #[] #[]] w fun e w'=>∃A,e= .returned (.slice (some ⟨A,0,none⟩) (Lib.goFieldsP gapR s).length (Lib.goFieldsP gapR s).length)∧w.heap.size≤A∧
   w'.ownsRow w.heap.size 9 1 (.slice (some ⟨A,0,none⟩) (Lib.goFieldsP gapR s).length (Lib.goFieldsP gapR s).length) (Lib.goFieldsP gapR s).length ((Lib.goFieldsP gapR s).map Value.string)∧Below w.heap.size w w':=
 Tryz.fdstrings_FieldsFunc 297 #[] isGap_enters gapR s w (by omega) (isGap_pays w)
theorem words_bad (s:ByteArray) (at_ rb:Nat) (w:World) (_hs:s.size≤2097152) (ha:at_≤s.size) (h:RdAt w rb s at_) (hl:300<Lib.indexByte (s.data.toList.drop at_) 10):
  Calls Tryz.prog 273 #[.pointer (some ⟨rb,0,none⟩)] w fun e w'=>e=gaveUp 2∧Below w.heap.size w w':=by
 have c0:=h.cell 0;have c1:=h.cell 1;simp at c0 c1;have hai:(at_:Int)≤(s.size:Int):=by omega
 have ht:(s.extract at_ s.size).data.toList=s.data.toList.drop at_:=Lib.extract_to_end s at_;have HC:Hid (∀q,Calls Tryz.prog 294 #[.string (s.extract at_ s.size),.int .u8 10] (w.drewN q) fun e w'=>e= .returned (.int .i64 (Lib.indexByte (s.data.toList.drop at_) 10))∧w'=w.drewN q):=fun q=>by
  have:=Tryz.fdstrings_IndexByte (s.extract at_ s.size) 10 (w.drewN q);rw [ht] at this;exact this
 clear ht;generalize Lib.indexByte (s.data.toList.drop at_) 10=n at*;go_enter Tryz.func273,Tryz.ntmps273;go_wp2;go_quiet ((fail));go_wp2_with fail;refine (HC.out _).mono ?_;rintro e w1 ⟨rfl,rfl⟩;go_wp2_with fail;refine (giveUp_any 2 _).mono ?_;rintro e w2 ⟨rfl,rfl⟩;unfold gaveUp;go_wp2;exact ⟨rfl,rfl,below_drewN (Below.refl _ _) _⟩
theorem words_open (s:ByteArray) (at_ rb:Nat) (w:World) (_hs:s.size≤2097152) (ha:at_≤s.size) (h:RdAt w rb s at_) (hl:Lib.indexByte (s.data.toList.drop at_) 10<0):
  Calls Tryz.prog 273 #[.pointer (some ⟨rb,0,none⟩)] w fun e w'=>e=gaveUp (if 300<s.size-at_ then 2 else 1)∧Below w.heap.size w w':=by
 have c0:=h.cell 0;have c1:=h.cell 1;simp at c0 c1;have hai:(at_:Int)≤(s.size:Int):=by omega
 have ht:(s.extract at_ s.size).data.toList=s.data.toList.drop at_:=Lib.extract_to_end s at_;have hsz:(s.extract at_ s.size).size=s.size-at_:=by rw [Lib.size_eq,ht,List.length_drop,←Lib.size_eq]
 have HC:Hid (∀q,Calls Tryz.prog 294 #[.string (s.extract at_ s.size),.int .u8 10] (w.drewN q) fun e w'=>e= .returned (.int .i64 (Lib.indexByte (s.data.toList.drop at_) 10))∧w'=w.drewN q):=fun q=>by
  have:=Tryz.fdstrings_IndexByte (s.extract at_ s.size) 10 (w.drewN q);rw [ht] at this;exact this
 clear ht;generalize Lib.indexByte (s.data.toList.drop at_) 10=n at*;have hd:decide (n<0)=true:=by simpa using hl
 by_cases hb:300<s.size-at_
 ·rw [if_pos hb];have hbi:(300:Int)<((s.size-at_:Nat):Int):=by omega
  go_enter Tryz.func273,Tryz.ntmps273;go_wp2;go_quiet ((fail));go_wp2_with fail;refine (HC.out _).mono ?_;rintro e w1 ⟨rfl,rfl⟩;go_wp2_with fail;refine (giveUp_any 2 _).mono ?_;rintro e w2 ⟨rfl,rfl⟩;unfold gaveUp;go_wp2;exact ⟨rfl,rfl,below_drewN (Below.refl _ _) _⟩
 ·rw [if_neg hb];have hbi:¬(300:Int)<((s.size-at_:Nat):Int):=by omega
  go_enter Tryz.func273,Tryz.ntmps273;go_wp2;go_quiet ((fail));go_wp2_with fail;refine (HC.out _).mono ?_;rintro e w1 ⟨rfl,rfl⟩;go_wp2_with fail;refine (giveUp_any 1 _).mono ?_;rintro e w2 ⟨rfl,rfl⟩;unfold gaveUp;go_wp2;exact ⟨rfl,rfl,below_drewN (Below.refl _ _) _⟩
theorem trimSuffix_le (l p:List UInt8):(Lib.trimSuffix l p).length≤l.length:=by
 unfold Lib.trimSuffix;split
 ·simp
 ·exact Nat.le_refl _
theorem strsIn_own {w:World} {B A n c:Nat} {ws:List ByteArray} (h:w.ownsRow B 9 1 (.slice (some ⟨A,0,none⟩) n c) n (ws.map Value.string)) (hn:ws.length=n) (hf:∀x∈ws,x.size≤300):StrsIn w (some ⟨A,0,none⟩) A 0 n ws where
 len:=hn;addr:=fun _=>rfl;low:=fun _=> (h.lt A rfl).2;cell:=fun i hi=>by
  have:=h.cells rfl i (.string (ws.getD i ByteArray.empty)) (by rw [List.getElem?_map,List.getD_eq_getElem?_getD,List.getElem?_eq_getElem (by omega)];rfl);rw [Addr.add] at this;cases i with
  |zero=>simpa using this
  |succ i=>simpa using this
 fit:=fun i hi=>by
  have hi2:i<ws.length:=by omega
  have:=hf ws[i] (List.getElem_mem hi2);rw [List.getD_eq_getElem?_getD,List.getElem?_eq_getElem hi2];exact Nat.le_trans this (by omega)
theorem strVals_own (ws:List ByteArray):strVals (ws.map fun t=>t.data.toList)=ws.map Value.string:=by
 unfold strVals;rw [List.map_map];rfl
theorem words_line (s:ByteArray) (at_ rb n:Nat) (w:World) (hs:s.size≤2097152) (ha:at_≤s.size) (h:RdAt w rb s at_) (hl:Lib.indexByte (s.data.toList.drop at_) 10=n) (hn:n≤300) (hfit:at_+n+1≤s.size) (ws:List ByteArray) (hw:Lib.goFieldsP gapR ⟨(Lib.trimSuffix ((s.data.toList.drop at_).take n) [13]).toArray⟩=ws) (hwl:ws.length≤n) (hwf:∀x∈ws,x.size≤300):
  Calls Tryz.prog 273 #[.pointer (some ⟨rb,0,none⟩)] w fun e w'=>ArgsEnd w rb s at_ (if okArgs ws then .inr (ws.map fun t=>t.data.toList,n+1) else .inl 2) e w':=by
 have c0:=h.cell 0;have c1:=h.cell 1;simp at c0 c1;have hai:(at_:Int)≤(s.size:Int):=by omega
 have ht:(s.extract at_ s.size).data.toList=s.data.toList.drop at_:=Lib.extract_to_end s at_;have hsz:(s.extract at_ s.size).size=s.size-at_:=by rw [Lib.size_eq,ht,List.length_drop,←Lib.size_eq]
 have HC:Hid (∀q,Calls Tryz.prog 294 #[.string (s.extract at_ s.size),.int .u8 10] (w.drewN q) fun e w'=>e= .returned (.int .i64 n)∧w'=w.drewN q):=fun q=>by
  have:=Tryz.fdstrings_IndexByte (s.extract at_ s.size) 10 (w.drewN q);rw [ht] at this;rw [←hl];exact this
 have hd:((s.extract at_ s.size).extract 0 n).data.toList=(s.data.toList.drop at_).take n:=by rw [Lib.extract_data,ht];simp
 have hdn:((s.data.toList.drop at_).take n).length≤300:=by rw [List.length_take];omega
 have HT:Hid (∀q,Calls Tryz.prog 295 #[.string ((s.extract at_ s.size).extract 0 n),.string ⟨#[13]⟩] (w.drewN q) fun e w'=>e= .returned (.string ⟨(Lib.trimSuffix ((s.data.toList.drop at_).take n) [13]).toArray⟩)∧w'=w.drewN q):=fun q=>by
  have:=Tryz.fdstrings_TrimSuffix ((s.extract at_ s.size).extract 0 n) ⟨#[13]⟩ (w.drewN q) (by rw [Lib.size_eq,hd];omega);rw [hd] at this;exact this
 have htl:(⟨(Lib.trimSuffix ((s.data.toList.drop at_).take n) [13]).toArray⟩:ByteArray).size≤300:=by
  rw [size_mk];have:=trimSuffix_le ((s.data.toList.drop at_).take n) [13];omega
 have HW:Hid (Lib.goFieldsP gapR ⟨(Lib.trimSuffix ((s.data.toList.drop at_).take n) [13]).toArray⟩=ws):=hw;clear hw ht hd hdn hl;generalize (⟨(Lib.trimSuffix ((s.data.toList.drop at_).take n) [13]).toArray⟩:ByteArray)=t at*;have hlt:=RowAt.lt h;cases hok:okArgs ws with
 |false=>
  have HA:Hid (∀A B w3,World.ownsRow w3 B 9 1 (.slice (some ⟨A,0,none⟩) ws.length ws.length) ws.length (ws.map Value.string)→Calls Tryz.prog 42 #[.slice (some ⟨A,0,none⟩) ws.length ws.length] w3 fun e w'=>e= .returned (.bool false)∧w'=w3):=by
   intro A B w3 hown;rw [←hok];exact args48 (some ⟨A,0,none⟩) A 0 ws.length ws.length ws w3 (strsIn_own hown rfl hwf) (by omega)
  have HG:Hid ((if (false:Bool)=true then Sum.inr (ws.map fun t=>t.data.toList,n+1) else Sum.inl 2:Int ⊕ (List (List UInt8)×Nat))= .inl 2):=rfl;rw [HG.out];clear hok;go_enter Tryz.func273,Tryz.ntmps273;go_wp2;go_quiet ((fail));go_wp2_with fail;refine (HC.out _).mono ?_;rintro e w1 ⟨rfl,rfl⟩;go_wp2_with fail;refine (HT.out _).mono ?_;rintro e w1 ⟨rfl,rfl⟩;go_wp2_with fail;refine (clone60 t _ (by omega)).mono ?_;rintro e w2 ⟨rfl,b2⟩;go_wp2_with fail;refine (fields94 t w2 (by omega)).mono ?_;rw [HW.out];rintro e w3 ⟨A,rfl,hA,hown,b3⟩;have r3:RdAt w3 rb s at_:=RowAt.below (RowAt.below (w:=w.drewN _) h b2 hlt) b3 (by have:=b2.size;simp at this;omega);have g3:w.grownBy w3 (some rb):=grown_below (grown_below (grown_drewN w _ _) b2) b3;go_wp2_with fail;refine (HA.out A _ w3 hown).mono ?_;rintro e w4 ⟨rfl,rfl⟩;go_wp2_with fail;refine (giveUp_any 2 _).mono ?_;rintro e w5 ⟨rfl,rfl⟩;unfold gaveUp;go_wp2;exact ⟨rfl,rfl,g3⟩
 |true=>
  have HA:Hid (∀A B w3,World.ownsRow w3 B 9 1 (.slice (some ⟨A,0,none⟩) ws.length ws.length) ws.length (ws.map Value.string)→Calls Tryz.prog 42 #[.slice (some ⟨A,0,none⟩) ws.length ws.length] w3 fun e w'=>e= .returned (.bool true)∧w'=w3):=by
   intro A B w3 hown;rw [←hok];exact args48 (some ⟨A,0,none⟩) A 0 ws.length ws.length ws w3 (strsIn_own hown rfl hwf) (by omega)
  have HG:Hid ((if (true:Bool)=true then Sum.inr (ws.map fun t=>t.data.toList,n+1) else Sum.inl 2:Int ⊕ (List (List UInt8)×Nat))= .inr (ws.map fun t=>t.data.toList,n+1)):=rfl;rw [HG.out];clear hok;go_enter Tryz.func273,Tryz.ntmps273;go_wp2;go_quiet ((fail));go_wp2_with fail;refine (HC.out _).mono ?_;rintro e w1 ⟨rfl,rfl⟩;go_wp2_with fail;refine (HT.out _).mono ?_;rintro e w1 ⟨rfl,rfl⟩;go_wp2_with fail;refine (clone60 t _ (by omega)).mono ?_;rintro e w2 ⟨rfl,b2⟩;go_wp2_with fail;refine (fields94 t w2 (by omega)).mono ?_;rw [HW.out];rintro e w3 ⟨A,rfl,hA,hown,b3⟩;have r3:RdAt w3 rb s at_:=RowAt.below (RowAt.below (w:=w.drewN _) h b2 hlt) b3 (by have:=b2.size;simp at this;omega);have g3:w.grownBy w3 (some rb):=grown_below (grown_below (grown_drewN w _ _) b2) b3;have d0:=r3.cell 0;have d1:=r3.cell 1;simp at d0 d1;have fz:=r3.frozen 1;have r4:RdAt (w3.setCell ⟨rb,1,none⟩ (.int .i64 ((at_:Int)+((n:Int)+1)))) rb s (at_+(n+1)):=by
   have:=RowAt.set r3 1 (.int .i64 ((at_:Int)+((n:Int)+1)));unfold RdAt;rw [show ((at_+(n+1):Nat):Int)=(at_:Int)+((n:Int)+1) from by omega];simpa using this
  have g4:=grown_trans g3 (grown_set w3 rb 1 (.int .i64 ((at_:Int)+((n:Int)+1))));have HO:Hid (World.ownsRow (w3.setCell ⟨rb,1,none⟩ (.int .i64 ((at_:Int)+((n:Int)+1)))) w.heap.size 9 1 (.slice (some ⟨A,0,none⟩) ws.length ws.length) (ws.map fun t=>t.data.toList).length (strVals (ws.map fun t=>t.data.toList))):=by
   have hs2:w.heap.size≤w2.heap.size:=by have:=b2.size;simpa using this
   unfold Hid;rw [strVals_own,List.length_map];exact ownsRow_setCell_below (Joins.ownsRow_le hown hs2) (by exact hlt) _
  go_wp2_with fail;refine (HA.out A _ w3 hown).mono ?_;rintro e w4 ⟨rfl,rfl⟩;clear HA hown;go_wp2;go_ret;exact ⟨_,rfl,HO.out,r4,by omega,g4⟩
end Go.Proofs.YtibhabajknikcaaGreatDoor.Fd
namespace Go.Proofs.YtibhabajknikcaaGreatDoor.Fd
open Go.RowKit Go.Lib
def isGapB (b:UInt8):Bool:=b==32||b==9
def wordsOf (cur:List UInt8):List UInt8→List (List UInt8)
 | []=>if cur=[] then [] else [cur]
 |b::l=>if isGapB b then (if cur=[] then wordsOf [] l else cur::wordsOf [] l) else wordsOf (cur++ [b]) l
theorem wordsOf_high:∀(xs:List UInt8) (cur rest:List UInt8),(∀x∈xs,isGapB x=false)→wordsOf cur (xs++rest)=wordsOf (cur++xs) rest
 | [],cur,rest,_=>by simp
 |x::xs,cur,rest,h=>by
  rw [List.cons_append,wordsOf,h x (by simp),if_neg (by simp),wordsOf_high xs _ rest (fun y hy=>h y (by simp [hy]))];simp
theorem get!_at (s:ByteArray) (i:Nat) (h:i < s.size):s.get! i=s.data.toList[i]'(by rw [← size_eq];exact h):=by
 have:s.get! i=s.data[i]! :=rfl;rw [this,getElem!_pos s.data i h];simp
theorem gap_high (x:UInt8) (h:128≤x.toNat):isGapB x=false:=by
 unfold isGapB;rw [Bool.or_eq_false_iff];constructor<;> (rw [beq_eq_false_iff_ne];intro e;subst e;revert h;decide)
theorem gapR_low (x:UInt8):gapR x.toNat=isGapB x:=by
 unfold gapR isGapB;rw [Bool.eq_iff_iff];simp only [Bool.or_eq_true,decide_eq_true_eq,beq_iff_eq,←UInt8.toNat_inj];exact Iff.rfl
theorem gapR_high (r:Nat) (h:128≤r):gapR r=false:=by
 unfold gapR;rw [Bool.or_eq_false_iff];constructor<;> (rw [decide_eq_false_iff_not];omega)
theorem decode_high (s:ByteArray) (pos:Nat) (hp:pos < s.size) (hb:128≤(s.get! pos).toNat):
  gapR (Utf8.decode s pos).1=false∧pos+(Utf8.decode s pos).2≤s.size∧∀x∈(s.data.toList.drop pos).take (Utf8.decode s pos).2,isGapB x=false:=by
 have hle:=decodeN_le_n' (s.size - pos) (s.get! pos).toNat (s.get! (pos+1)).toNat (s.get! (pos+2)).toNat (s.get! (pos+3)).toNat (by omega);have hsh:=decodeN_shape (s.size - pos) (s.get! pos).toNat (s.get! (pos+1)).toNat (s.get! (pos+2)).toNat (s.get! (pos+3)).toNat;rw [← decode_at] at hle hsh;refine ⟨?_,by omega,?_⟩
 ·rcases hsh with h | h | h | h | h
  ·omega
  ·rw [h.2.2.2.2];exact gapR_high _ h.2.2.2.1
  ·rw [h.2.2.2.2.2.2];exact gapR_high _ (by omega)
  ·rw [h.2.2.2.2.2.2.2];exact gapR_high _ (by omega)
  ·rw [h];exact gapR_high _ (by omega)
 ·intro x hx;obtain ⟨j,hj,rfl⟩:=List.getElem_of_mem hx;rw [List.length_take,List.length_drop,← size_eq] at hj;rw [List.getElem_take,List.getElem_drop,← get!_at s (pos+j) (by omega)];apply gap_high;rcases hsh with h | h | h | h | h
  ·omega
  ·rw [h.2.2.2.2] at hj;obtain rfl | rfl:j=0∨j=1:=by simp only at hj;omega
   ·exact hb
   ·omega
  ·rw [h.2.2.2.2.2.2] at hj;obtain rfl | rfl | rfl:j=0∨j=1∨j=2:=by simp only at hj;omega
   ·exact hb
   ·omega
   ·omega
  ·rw [h.2.2.2.2.2.2.2] at hj;obtain rfl | rfl | rfl | rfl:j=0∨j=1∨j=2∨j=3:=by simp only at hj;omega
   ·exact hb
   ·omega
   ·omega
   ·omega
  ·rw [h] at hj;obtain rfl:j=0:=by simp only at hj;omega
   exact hb
theorem decode_low (s:ByteArray) (pos:Nat) (hb:¬128≤(s.get! pos).toNat):Utf8.decode s pos=((s.get! pos).toNat,1):=by
 rw [decode_at];unfold decodeN;rw [if_pos (by omega)]
theorem spans_words (s:ByteArray):∀(f pos:Nat) (st:Option Nat) (acc:List (Nat × Nat)),s.size≤pos+f→pos≤s.size→(∀a,st=some a→a < pos)→
  (closeSpans s (spansFromP gapR s f pos st acc)).map (fun p=>pieceU s.data.toList p.1 p.2)=acc.map (fun p=>pieceU s.data.toList p.1 p.2)++wordsOf (openPiece s.data.toList st pos) (s.data.toList.drop pos):=by
 have hend:∀(f pos:Nat) (st:Option Nat) (acc:List (Nat × Nat)),¬pos < s.size→pos≤s.size→(∀a,st=some a→a < pos)→
  (closeSpans s (spansFromP gapR s f pos st acc)).map (fun p=>pieceU s.data.toList p.1 p.2)=acc.map (fun p=>pieceU s.data.toList p.1 p.2)++wordsOf (openPiece s.data.toList st pos) (s.data.toList.drop pos):=by
  intro f pos st acc h hp hst;obtain rfl:pos=s.size:=by omega
  have hd:s.data.toList.drop s.size=[]:=List.drop_eq_nil_of_le (by rw [← size_eq];exact Nat.le_refl _);rw [hd,spansFromP_end gapR s f _ st acc h];cases st with
  | none=>simp [closeSpans,openPiece,wordsOf]
  | some a=>
   have:=pieceU_ne s.data.toList a s.size (hst a rfl) (by rw [← size_eq];exact Nat.le_refl _);simp [closeSpans,openPiece,this,wordsOf]
 intro f;induction f with
 | zero=>intro pos st acc h hp hst;exact hend 0 pos st acc (by omega) hp hst
 | succ f ih=>
  intro pos st acc h hp hst;by_cases hlt:pos < s.size
  ·have hlt':pos < s.data.toList.length:=by rw [← size_eq];exact hlt
   simp only [spansFromP,if_pos hlt];by_cases hb:128≤(s.get! pos).toNat
   ·obtain ⟨hg,hk,hx⟩:=decode_high s pos hlt hb;have hw:=width_pos s pos;rw [hg];simp only [Bool.false_eq_true,if_false];generalize (Utf8.decode s pos).2=k at*;have hsplit:s.data.toList.drop pos=(s.data.toList.drop pos).take k++s.data.toList.drop (pos+k):=by
     rw [← List.drop_drop,List.take_append_drop]
    rw [hsplit,wordsOf_high _ _ _ hx];cases st with
    | none=>
     simp only;rw [ih (pos+k) (some pos) acc (by omega) hk (fun a h=>by cases h;omega)];simp only [openPiece,pieceU,List.nil_append,Nat.add_sub_cancel_left]
    | some a=>
     simp only;rw [ih (pos+k) (some a) acc (by omega) hk (fun b h=>by cases h;have:=hst a rfl;omega)];simp only [openPiece];rw [pieceU_grow _ _ _ _ (Nat.le_of_lt (hst a rfl))]
   ·rw [decode_low s pos hb,gapR_low,get!_at s pos hlt];have hcons:s.data.toList.drop pos=s.data.toList[pos]::s.data.toList.drop (pos+1):=(List.drop_eq_getElem_cons hlt');rw [hcons,wordsOf];cases hg:isGapB s.data.toList[pos] with
    | true=>
     simp only [if_true];cases st with
     | none=>
      simp only;rw [ih (pos+1) none acc (by omega) (by omega) (fun a h=>by cases h)];simp [openPiece]
     | some a=>
      have hpn:=pieceU_ne s.data.toList a pos (hst a rfl) (by rw [← size_eq];omega);simp only;rw [ih (pos+1) none (acc++ [(a,pos)]) (by omega) (by omega) (fun a h=>by cases h)];simp [openPiece,hpn]
    | false=>
     simp only [Bool.false_eq_true,if_false];cases st with
     | none=>
      simp only;rw [ih (pos+1) (some pos) acc (by omega) (by omega) (fun a h=>by cases h;omega)];simp only [openPiece,pieceU,List.nil_append,Nat.add_sub_cancel_left];rw [hcons];rfl
     | some a=>
      simp only;rw [ih (pos+1) (some a) acc (by omega) (by omega) (fun b h=>by cases h;have:=hst a rfl;omega)];simp only [openPiece];rw [← pieceU_grow _ _ _ 1 (Nat.le_of_lt (hst a rfl)),hcons];rfl
  ·exact hend _ pos st acc hlt hp hst
theorem fields_words (s:ByteArray):(Lib.goFieldsP gapR s).map (fun t=>t.data.toList)=wordsOf [] s.data.toList:=by
 have:=spans_words s s.size 0 none [] (by omega) (by omega) (fun a h=>by cases h);simp only [List.map_nil,List.nil_append,openPiece,List.drop_zero] at this;rw [←this];unfold goFieldsP spansOfP;rw [List.map_map];apply List.map_congr_left;intro p _;show (s.extract p.1 p.2).data.toList=_;rw [extract_data,pieceU]
theorem wordsOf_bound:∀(l cur:List UInt8),(wordsOf cur l).length≤l.length+1∧(cur=[]→(wordsOf cur l).length≤l.length)∧∀x∈wordsOf cur l,x.length≤cur.length+l.length
 | [],cur=>by
  unfold wordsOf;by_cases h:cur=[]
  ·simp [h]
  ·simp [h]
 |b::l,cur=>by
  obtain ⟨h1,h2,h3⟩:=wordsOf_bound l [];obtain ⟨k1,k2,k3⟩:=wordsOf_bound l (cur++ [b]);have h2:=h2 rfl;unfold wordsOf;split
  ·split
   ·rename_i hc;refine ⟨by simp;omega,fun _=>by simp;omega,fun x hx=>?_⟩;have:=h3 x hx;simp at this ⊢;omega
   ·rename_i hc;refine ⟨by simp;omega,fun h=>absurd h hc,fun x hx=>?_⟩;rcases List.mem_cons.1 hx with rfl|hx
    ·simp
    ·have:=h3 x hx;simp at this ⊢;omega
  ·refine ⟨by simp;omega,fun h=>by simp;omega,fun x hx=>?_⟩;have:=k3 x hx;simp at this ⊢;omega
end Go.Proofs.YtibhabajknikcaaGreatDoor.Fd
