import Derived.Test.YtjpeglkkkllagaaGreatDoorAa
import Derived.Test.YtjpeglkkkllagaaGreatDoorW5
import Derived.Test.YtjpeglkkkllagaaGreatDoorG2
import Derived.Lib.SmallJoins
import Derived.Laws.IdiomStrings
import Derived.Deep.RegionWith
import Derived.Deep.Cut
import Derived.Deep.RegionHeld3
import Derived.Lib.AppendStr
set_option maxHeartbeats 8000000
set_option maxRecDepth 100000
namespace Go.Proofs.YtjpeglkkkllagaaGreatDoor
open Go.RowKit Go.Sort
open Kk (Rk rk0 texL texR decS zea zeb zec OwnR flatR encR zdh)
theorem info5:(Tryz.prog.info? 5).map (fun i=> (i.zero,i.size,i.bytes))=some (some (.int .u8 0),1,1):=by kernel_rfl
theorem conv_own {w:World} {B A cap:Nat} {xs:List UInt8} (h:w.ownsRow B 5 1 (.slice (some ⟨A,0,none⟩) xs.length cap) xs.length (Lib.byteCells xs)):
  (convert 22 9 (.slice (some ⟨A,0,none⟩) xs.length cap)).run Tryz.prog w= .ok (.string ⟨xs.toArray⟩) w:=by
 refine run_convert_bytes_back _ 22 9 5 ⟨A,0,none⟩ cap xs Tryz.underlying22 Tryz.underlying5 Tryz.underlying9 ?_;intro j hj;exact h.cells rfl j _ (by simp [Lib.byteCells,hj])
theorem texts_kept {w w':World} {B B' n m:Nat} {v u:Value} {xs ys:List Value} (h:w.ownsRow B 9 1 v n xs) (hu:w.ownsRow B' 5 1 u m ys) (hg:w.grownBy w' u.ownBlock):w'.ownsRow B 9 1 v n xs:=by
 refine World.ownsRow.kept h hg ?_;cases hv:v.ownBlock with
 |none=>exact .inl rfl
 |some g=>
  refine .inr fun e=>?_;obtain ⟨C,hC⟩:=own_type h hv;obtain ⟨D,hD⟩:=own_type hu e.symm;unfold RowAt at hC hD;rw [hC] at hD;injection hD with hD;injection hD with _ hD;exact absurd hD (by decide)
theorem twoT_cells (t:ByteArray) (h:t.size≤200):Lib.byteCells (twoT t)=[.int .u8 ((t.size:Int)/256),.int .u8 (t.size:Int)]:=by
 have e:Lib.byteCells (twoT t)=[.int .u8 ((UInt8.ofNat (t.size/256)).toNat:Int),.int .u8 ((UInt8.ofNat t.size).toNat:Int)]:=rfl;rw [e,UInt8.toNat_ofNat',UInt8.toNat_ofNat'];have h1:((t.size/256%2^8:Nat):Int)=(t.size:Int)/256:=by omega
 have h2:((t.size%2^8:Nat):Int)=(t.size:Int):=by omega
 rw [h1,h2]
theorem enc_next (T:List ByteArray) (k:Nat) (h:k<T.length):encT (T.take (k+1))=(encT (T.take k)++twoT (T.getD k ByteArray.empty))++(T.getD k ByteArray.empty).data.toList:=by
 rw [encT_take T k h];unfold oneT;rw [List.append_assoc]
abbrev OwnB (w:World) (B:Nat) (v:Value) (l:List UInt8):Prop:=w.ownsRow B 5 1 v l.length (Lib.byteCells l)
theorem bytes_text (t:ByteArray) (a1 a2 a3:Option Addr) (ni c1 np c2 nr c3:Nat) (T:List ByteArray) (w:World) (hz:∀x∈T,x.size≤200) (hn:T.length≤40)
  (hO:∀W,Below w.heap.size w W→Calls Tryz.prog 70 #[vlV 1 t (.slice a1 ni c1) (.slice a2 np c2) (.slice a3 nr c3)] W fun e w'=>e= .returned (.bool true)∧Below W.heap.size W w')
  (hT:∀W,Below w.heap.size w W→Calls Tryz.prog 190 #[(.string t)] W fun e w'=>∃v B,e= .returned v∧OwnS w' B v T∧Below W.heap.size W w'):
  Calls Tryz.prog 42 #[vlV 1 t (.slice a1 ni c1) (.slice a2 np c2) (.slice a3 nr c3)] w fun e w'=>e= .returned (.string ⟨(49::encT T).toArray⟩)∧Below w.heap.size w w':=by
 obtain ⟨i0,hi,hz0,hz1,hz2⟩:=info_parts info5;have HC:Hid (∀W,Calls Tryz.prog 71 #[vlV 1 t (.slice a1 ni c1) (.slice a2 np c2) (.slice a3 nr c3)] W fun e w'=>e= .returned (.iface 172 (.string t))∧Below W.heap.size W w'):=fun W=>contentOf_text t a1 a2 a3 ni c1 np c2 nr c3 W;have HO:Hid (∀W,Below w.heap.size w W→Calls Tryz.prog 70 #[vlV 1 t (.slice a1 ni c1) (.slice a2 np c2) (.slice a3 nr c3)] W fun e w'=>e= .returned (.bool true)∧Below W.heap.size W w'):=hO;have HT:Hid (∀W,Below w.heap.size w W→Calls Tryz.prog 190 #[(.string t)] W fun e w'=>∃v B,e= .returned v∧OwnS w' B v T∧Below W.heap.size W w'):=hT;have HZ:Hid (∀x∈T,x.size≤200):=hz;have H0:Hid (RowAt (w.alloc (.cells (vC 1 t (.slice a1 ni c1) (.slice a2 np c2) (.slice a3 nr c3)) 63)) w.heap.size 63 (vC 1 t (.slice a1 ni c1) (.slice a2 np c2) (.slice a3 nr c3))∧Below w.heap.size w (w.alloc (.cells (vC 1 t (.slice a1 ni c1) (.slice a2 np c2) (.slice a3 nr c3)) 63))):=⟨RowAt.new w 63 _,(Below.refl _ w).alloc (Nat.le_refl _) _⟩;have hlt:w.heap.size<(w.alloc (.cells (vC 1 t (.slice a1 ni c1) (.slice a2 np c2) (.slice a3 nr c3)) 63)).heap.size:=by simp
 clear hO hT hz;go_enter Tryz.func42,Tryz.ntmps42;go_wp2_with fail;refine (HO.out _ H0.out.2).mono ?_;rintro e w1 ⟨rfl,hb1⟩;have r1:=RowAt.below H0.out.1 hb1 hlt;have bb1:=H0.out.2.trans (hb1.mono H0.out.2.size);obtain ⟨e0,e1,e2,e3,e4⟩:=row5 r1;have bA:Below w1.heap.size w1 (w1.alloc (.cells #[.int .u8 49] 5)):=(Below.refl _ w1).alloc (Nat.le_refl _) _;have rA:=RowAt.below r1 bA r1.lt;obtain ⟨g0,g1,g2,g3,g4⟩:=row5 rA;have oA:Hid (OwnB (w1.alloc (.cells #[.int .u8 49] 5)) w.heap.size (.slice (some ⟨w1.heap.size,0,none⟩) 1 1) [49]):=⟨rfl,.inr ⟨w1.heap.size,1, #[.int .u8 49],rfl,bb1.size,RowAt.new w1 5 _,by simp,by unfold maxLen;omega,by simp,by simp [Lib.byteCells]⟩⟩;have bbA:=bb1.trans (bA.mono bb1.size);have sA:w1.heap.size<(w1.alloc (.cells #[.int .u8 49] 5)).heap.size:=by simp
 clear hb1 H0 r1 rA bA;go_wp2_with fail;generalize w1.alloc (.cells #[.int .u8 49] 5)=wA at*;refine (HC.out _).mono ?_;rintro e w2 ⟨rfl,hb2⟩;have bb2:=bbA.trans (hb2.mono bbA.size);have o2:Hid (OwnB w2 w.heap.size (.slice (some ⟨w1.heap.size,0,none⟩) 1 1) [49]):=zaf oA.out hb2;clear e0 e1 e2 e3 e4 g0 g1 g2 g3 g4 hb2 oA;go_wp2_with fail;refine (HT.out _ bb2).mono ?_;rintro e w3 ⟨vT,BT,rfl,oT,hb3⟩;have bb3:=bb2.trans (hb3.mono bb2.size);have o3:Hid (OwnB w3 w.heap.size (.slice (some ⟨w1.heap.size,0,none⟩) 1 1) [49]):=zaf o2.out hb3;have OT:Hid (OwnS w3 BT vT T):=oT;obtain ⟨aT,cT,hvT⟩:=zad oT;obtain ⟨nT,hnT⟩:∃nT,T.length=nT:=⟨_,rfl⟩;have HNT:Hid (T.length=nT):=hnT;rw [hnT] at hvT hn;subst hvT;clear o2 hb3 oT hnT;go_wp2_with fail;go_loopw [3,18] (fun o i wr=>∃(j:Nat) (l:List UInt8),j≤nT∧i= .int .i64 j∧l=49::encT (T.take j)∧l.length≤1+202*j∧OwnB wr w.heap.size o l∧OwnS wr BT (.slice aT nT cT) T∧Below w.heap.size w wr) (fun _ i _=>nT-(intOf i).toNat)
 case atStart=>exact ⟨0,[49],by omega,rfl,by simp [encT],by simp,o3.out,OT.out,bb3⟩
 case round=>
  obtain ⟨j,l,hj,rfl,hl,hll,oB,oT,bk⟩:=hrel;have sk:=bk.size;clear o3 OT;by_cases hjn:j<nT
  ·have hji:(j:Int)<(nT:Int):=by omega
   obtain ⟨xa,xA,xc,hxv,hxa,_,_,hxc⟩:=ownS_cells oT;injection hxv with hxv1 hxv2 hxv3;clear hxv2 hxv3;obtain ⟨hxa1,_,hxlt⟩:=hxa (by rw [HNT.out];omega);have hc:=hxc j (by rw [HNT.out];exact hjn);rw [←hxv1] at hxa1;clear hxv1;subst hxa1;obtain ⟨x,hx⟩:∃x,T.getD j ByteArray.empty=x:=⟨_,rfl⟩;rw [hx] at hc;have hxs:x.size≤200:=HZ.out x (by rw [←hx];exact getD_mem T _ j (by rw [HNT.out];exact hjn));have HL:Hid ((l++twoT x)++x.data.toList=49::encT (T.take (j+1))):=by
    unfold Hid;rw [hl,enc_next T j (by rw [HNT.out];exact hjn),hx];simp
   have HTC:Hid (Lib.byteCells (twoT x)=[.int .u8 ((x.size:Int)/256),.int .u8 (x.size:Int)]):=twoT_cells x hxs;have OB:Hid (OwnB wr w.heap.size u3 l):=oB;have OTT:Hid (OwnS wr BT (.slice (some ⟨xA,0,none⟩) nT cT) T):=oT;have hl2:l.length≤10000:=by omega
   have h00:(0:Int)≤(j:Int):=by omega
   clear hl hxa hxc hx oT;go_wp2_with (at_builtin;refine wpList_append_own _ rfl _ _ 22 rfl w.heap.size 5 i0 _ 1 1 Tryz.underlying22 hi hz0 hz1 hz2 rfl (by decide) _ _ _ rfl (oB.alloc _) ⟨wr.heap.size,0,none⟩ 2 2 [.int .u8 ((x.size:Int)/256),.int .u8 (x.size:Int)] rfl rfl ?c1 ?c2 ?c3 ?c4 ?c5 ?_)
   case c1=>
    intro i u hi;rw [Addr.add_lit,Nat.zero_add];exact ((RowAt.new wr 5 #[.int .u8 ((x.size:Int)/256),.int .u8 (x.size:Int)]).cell i).trans (by simpa using hi)
   case c2=>intro y hy;simp at hy;rcases hy with rfl|rfl<;>rfl
   case c3=>unfold maxLen;omega
   case c4=>omega
   case c5=>simp;omega
   intro v' w5 hown' hgrow _;have O5:OwnB w5 w.heap.size v' (l++twoT x):=by
    unfold OwnB;rw [List.length_append,Lib.byteCells_append,HTC.out];exact hown'
   have T5:Hid (OwnS w5 BT (.slice (some ⟨xA,0,none⟩) nT cT) T):=texts_kept (OTT.out.alloc _) (oB.alloc _) hgrow;have b5:Hid (Below w.heap.size w w5):=below_own bk sk oB hgrow;have s5:=b5.out.size;have hl3:(l++twoT x).length=l.length+2:=by rw [List.length_append];rfl
   clear hown' hgrow oB OB OTT HTC;go_wp2_with (at_builtin;refine Lib.wpList_append_own_string _ rfl _ _ 22 9 rfl w.heap.size 5 i0 Tryz.underlying22 Tryz.underlying9 hi hz0 hz1 hz2 _ _ _ rfl O5 x rfl ?c3 ?c4 ?c5 ?_)
   case c3=>unfold maxLen;omega
   case c4=>omega
   case c5=>omega
   intro v6 w6 hown6 hgrow6 _;have O6:Hid (OwnB w6 w.heap.size v6 ((l++twoT x)++x.data.toList)):=by
    unfold Hid OwnB;have e1:x.data.toList.length=x.size:=(Lib.size_eq x).symm;rw [List.length_append,Lib.byteCells_append,hl3,e1];exact hown6
   have T6:Hid (OwnS w6 BT (.slice (some ⟨xA,0,none⟩) nT cT) T):=texts_kept T5.out O5 hgrow6;have b6:Hid (Below w.heap.size w w6):=b5.out.grown hgrow6 s5 (fun g hg=> (own_lt O5 hg).1);have e1:x.data.toList.length=x.size:=(Lib.size_eq x).symm;clear hown6 hgrow6 O5 T5 b5 bk;go_wp2;go_roundw
   case rel=>exact ⟨j+1,(l++twoT x)++x.data.toList,by omega,by go_num,HL.out,by rw [List.length_append,hl3,e1];omega,O6.out,T6.out,b6.out⟩
   case measure=>simp [intOf];omega
  ·have hji:¬(j:Int)<(nT:Int):=by omega
   have HE:Hid (l=49::encT T):=by
    unfold Hid;rw [hl,List.take_of_length_le (by rw [HNT.out];omega)]
   have hlp:0<l.length:=by rw [hl];simp
   obtain ⟨A',cap',ho'⟩:=Go.Joins.ownsRow_form oB hlp;subst ho';have hcv:=conv_own oB;have hl2:l.length≤10000:=by omega
   clear hl oT oB;go_wp2;go_ret;exact ⟨ret_str (by rw [HE.out]),bk⟩
theorem bytes_items (t:ByteArray) (a1 a2 a3:Option Addr) (ni c1 np c2 nr c3:Nat) (T:List ByteArray) (w:World) (hz:∀x∈T,x.size≤200) (hn:T.length≤40)
  (hO:∀W,Below w.heap.size w W→Calls Tryz.prog 70 #[vlV 2 t (.slice a1 ni c1) (.slice a2 np c2) (.slice a3 nr c3)] W fun e w'=>e= .returned (.bool true)∧Below W.heap.size W w')
  (hT:∀W,Below w.heap.size w W→Calls Tryz.prog 193 #[(.slice a1 ni c1)] W fun e w'=>∃v B,e= .returned v∧OwnS w' B v T∧Below W.heap.size W w'):
  Calls Tryz.prog 42 #[vlV 2 t (.slice a1 ni c1) (.slice a2 np c2) (.slice a3 nr c3)] w fun e w'=>e= .returned (.string ⟨(50::encT T).toArray⟩)∧Below w.heap.size w w':=by
 obtain ⟨i0,hi,hz0,hz1,hz2⟩:=info_parts info5;have HC:Hid (∀W,Calls Tryz.prog 71 #[vlV 2 t (.slice a1 ni c1) (.slice a2 np c2) (.slice a3 nr c3)] W fun e w'=>e= .returned (.iface 173 (.slice a1 ni c1))∧Below W.heap.size W w'):=fun W=>contentOf_items t a1 a2 a3 ni c1 np c2 nr c3 W;have HO:Hid (∀W,Below w.heap.size w W→Calls Tryz.prog 70 #[vlV 2 t (.slice a1 ni c1) (.slice a2 np c2) (.slice a3 nr c3)] W fun e w'=>e= .returned (.bool true)∧Below W.heap.size W w'):=hO;have HT:Hid (∀W,Below w.heap.size w W→Calls Tryz.prog 193 #[(.slice a1 ni c1)] W fun e w'=>∃v B,e= .returned v∧OwnS w' B v T∧Below W.heap.size W w'):=hT;have HZ:Hid (∀x∈T,x.size≤200):=hz;have H0:Hid (RowAt (w.alloc (.cells (vC 2 t (.slice a1 ni c1) (.slice a2 np c2) (.slice a3 nr c3)) 63)) w.heap.size 63 (vC 2 t (.slice a1 ni c1) (.slice a2 np c2) (.slice a3 nr c3))∧Below w.heap.size w (w.alloc (.cells (vC 2 t (.slice a1 ni c1) (.slice a2 np c2) (.slice a3 nr c3)) 63))):=⟨RowAt.new w 63 _,(Below.refl _ w).alloc (Nat.le_refl _) _⟩;have hlt:w.heap.size<(w.alloc (.cells (vC 2 t (.slice a1 ni c1) (.slice a2 np c2) (.slice a3 nr c3)) 63)).heap.size:=by simp
 clear hO hT hz;go_enter Tryz.func42,Tryz.ntmps42;go_wp2_with fail;refine (HO.out _ H0.out.2).mono ?_;rintro e w1 ⟨rfl,hb1⟩;have r1:=RowAt.below H0.out.1 hb1 hlt;have bb1:=H0.out.2.trans (hb1.mono H0.out.2.size);obtain ⟨e0,e1,e2,e3,e4⟩:=row5 r1;have bA:Below w1.heap.size w1 (w1.alloc (.cells #[.int .u8 50] 5)):=(Below.refl _ w1).alloc (Nat.le_refl _) _;have rA:=RowAt.below r1 bA r1.lt;obtain ⟨g0,g1,g2,g3,g4⟩:=row5 rA;have oA:Hid (OwnB (w1.alloc (.cells #[.int .u8 50] 5)) w.heap.size (.slice (some ⟨w1.heap.size,0,none⟩) 1 1) [50]):=⟨rfl,.inr ⟨w1.heap.size,1, #[.int .u8 50],rfl,bb1.size,RowAt.new w1 5 _,by simp,by unfold maxLen;omega,by simp,by simp [Lib.byteCells]⟩⟩;have bbA:=bb1.trans (bA.mono bb1.size);have sA:w1.heap.size<(w1.alloc (.cells #[.int .u8 50] 5)).heap.size:=by simp
 clear hb1 H0 r1 rA bA;go_wp2_with fail;generalize w1.alloc (.cells #[.int .u8 50] 5)=wA at*;refine (HC.out _).mono ?_;rintro e w2 ⟨rfl,hb2⟩;have bb2:=bbA.trans (hb2.mono bbA.size);have o2:Hid (OwnB w2 w.heap.size (.slice (some ⟨w1.heap.size,0,none⟩) 1 1) [50]):=zaf oA.out hb2;clear e0 e1 e2 e3 e4 g0 g1 g2 g3 g4 hb2 oA;go_wp2_with fail;refine (HT.out _ bb2).mono ?_;rintro e w3 ⟨vT,BT,rfl,oT,hb3⟩;have bb3:=bb2.trans (hb3.mono bb2.size);have o3:Hid (OwnB w3 w.heap.size (.slice (some ⟨w1.heap.size,0,none⟩) 1 1) [50]):=zaf o2.out hb3;have OT:Hid (OwnS w3 BT vT T):=oT;obtain ⟨aT,cT,hvT⟩:=zad oT;obtain ⟨nT,hnT⟩:∃nT,T.length=nT:=⟨_,rfl⟩;have HNT:Hid (T.length=nT):=hnT;rw [hnT] at hvT hn;subst hvT;clear o2 hb3 oT hnT;go_wp2_with fail;go_loopw [3,18] (fun o i wr=>∃(j:Nat) (l:List UInt8),j≤nT∧i= .int .i64 j∧l=50::encT (T.take j)∧l.length≤1+202*j∧OwnB wr w.heap.size o l∧OwnS wr BT (.slice aT nT cT) T∧Below w.heap.size w wr) (fun _ i _=>nT-(intOf i).toNat)
 case atStart=>exact ⟨0,[50],by omega,rfl,by simp [encT],by simp,o3.out,OT.out,bb3⟩
 case round=>
  obtain ⟨j,l,hj,rfl,hl,hll,oB,oT,bk⟩:=hrel;have sk:=bk.size;clear o3 OT;by_cases hjn:j<nT
  ·have hji:(j:Int)<(nT:Int):=by omega
   obtain ⟨xa,xA,xc,hxv,hxa,_,_,hxc⟩:=ownS_cells oT;injection hxv with hxv1 hxv2 hxv3;clear hxv2 hxv3;obtain ⟨hxa1,_,hxlt⟩:=hxa (by rw [HNT.out];omega);have hc:=hxc j (by rw [HNT.out];exact hjn);rw [←hxv1] at hxa1;clear hxv1;subst hxa1;obtain ⟨x,hx⟩:∃x,T.getD j ByteArray.empty=x:=⟨_,rfl⟩;rw [hx] at hc;have hxs:x.size≤200:=HZ.out x (by rw [←hx];exact getD_mem T _ j (by rw [HNT.out];exact hjn));have HL:Hid ((l++twoT x)++x.data.toList=50::encT (T.take (j+1))):=by
    unfold Hid;rw [hl,enc_next T j (by rw [HNT.out];exact hjn),hx];simp
   have HTC:Hid (Lib.byteCells (twoT x)=[.int .u8 ((x.size:Int)/256),.int .u8 (x.size:Int)]):=twoT_cells x hxs;have OB:Hid (OwnB wr w.heap.size u3 l):=oB;have OTT:Hid (OwnS wr BT (.slice (some ⟨xA,0,none⟩) nT cT) T):=oT;have hl2:l.length≤10000:=by omega
   have h00:(0:Int)≤(j:Int):=by omega
   clear hl hxa hxc hx oT;go_wp2_with (at_builtin;refine wpList_append_own _ rfl _ _ 22 rfl w.heap.size 5 i0 _ 1 1 Tryz.underlying22 hi hz0 hz1 hz2 rfl (by decide) _ _ _ rfl (oB.alloc _) ⟨wr.heap.size,0,none⟩ 2 2 [.int .u8 ((x.size:Int)/256),.int .u8 (x.size:Int)] rfl rfl ?c1 ?c2 ?c3 ?c4 ?c5 ?_)
   case c1=>
    intro i u hi;rw [Addr.add_lit,Nat.zero_add];exact ((RowAt.new wr 5 #[.int .u8 ((x.size:Int)/256),.int .u8 (x.size:Int)]).cell i).trans (by simpa using hi)
   case c2=>intro y hy;simp at hy;rcases hy with rfl|rfl<;>rfl
   case c3=>unfold maxLen;omega
   case c4=>omega
   case c5=>simp;omega
   intro v' w5 hown' hgrow _;have O5:OwnB w5 w.heap.size v' (l++twoT x):=by
    unfold OwnB;rw [List.length_append,Lib.byteCells_append,HTC.out];exact hown'
   have T5:Hid (OwnS w5 BT (.slice (some ⟨xA,0,none⟩) nT cT) T):=texts_kept (OTT.out.alloc _) (oB.alloc _) hgrow;have b5:Hid (Below w.heap.size w w5):=below_own bk sk oB hgrow;have s5:=b5.out.size;have hl3:(l++twoT x).length=l.length+2:=by rw [List.length_append];rfl
   clear hown' hgrow oB OB OTT HTC;go_wp2_with (at_builtin;refine Lib.wpList_append_own_string _ rfl _ _ 22 9 rfl w.heap.size 5 i0 Tryz.underlying22 Tryz.underlying9 hi hz0 hz1 hz2 _ _ _ rfl O5 x rfl ?c3 ?c4 ?c5 ?_)
   case c3=>unfold maxLen;omega
   case c4=>omega
   case c5=>omega
   intro v6 w6 hown6 hgrow6 _;have O6:Hid (OwnB w6 w.heap.size v6 ((l++twoT x)++x.data.toList)):=by
    unfold Hid OwnB;have e1:x.data.toList.length=x.size:=(Lib.size_eq x).symm;rw [List.length_append,Lib.byteCells_append,hl3,e1];exact hown6
   have T6:Hid (OwnS w6 BT (.slice (some ⟨xA,0,none⟩) nT cT) T):=texts_kept T5.out O5 hgrow6;have b6:Hid (Below w.heap.size w w6):=b5.out.grown hgrow6 s5 (fun g hg=> (own_lt O5 hg).1);have e1:x.data.toList.length=x.size:=(Lib.size_eq x).symm;clear hown6 hgrow6 O5 T5 b5 bk;go_wp2;go_roundw
   case rel=>exact ⟨j+1,(l++twoT x)++x.data.toList,by omega,by go_num,HL.out,by rw [List.length_append,hl3,e1];omega,O6.out,T6.out,b6.out⟩
   case measure=>simp [intOf];omega
  ·have hji:¬(j:Int)<(nT:Int):=by omega
   have HE:Hid (l=50::encT T):=by
    unfold Hid;rw [hl,List.take_of_length_le (by rw [HNT.out];omega)]
   have hlp:0<l.length:=by rw [hl];simp
   obtain ⟨A',cap',ho'⟩:=Go.Joins.ownsRow_form oB hlp;subst ho';have hcv:=conv_own oB;have hl2:l.length≤10000:=by omega
   clear hl oT oB;go_wp2;go_ret;exact ⟨ret_str (by rw [HE.out]),bk⟩
theorem bytes_pairs (t:ByteArray) (a1 a2 a3:Option Addr) (ni c1 np c2 nr c3:Nat) (T:List ByteArray) (w:World) (hz:∀x∈T,x.size≤200) (hn:T.length≤40)
  (hO:∀W,Below w.heap.size w W→Calls Tryz.prog 70 #[vlV 3 t (.slice a1 ni c1) (.slice a2 np c2) (.slice a3 nr c3)] W fun e w'=>e= .returned (.bool true)∧Below W.heap.size W w')
  (hT:∀W,Below w.heap.size w W→Calls Tryz.prog 196 #[(.slice a2 np c2)] W fun e w'=>∃v B,e= .returned v∧OwnS w' B v T∧Below W.heap.size W w'):
  Calls Tryz.prog 42 #[vlV 3 t (.slice a1 ni c1) (.slice a2 np c2) (.slice a3 nr c3)] w fun e w'=>e= .returned (.string ⟨(51::encT T).toArray⟩)∧Below w.heap.size w w':=by
 obtain ⟨i0,hi,hz0,hz1,hz2⟩:=info_parts info5;have HC:Hid (∀W,Calls Tryz.prog 71 #[vlV 3 t (.slice a1 ni c1) (.slice a2 np c2) (.slice a3 nr c3)] W fun e w'=>e= .returned (.iface 174 (.slice a2 np c2))∧Below W.heap.size W w'):=fun W=>contentOf_pairs t a1 a2 a3 ni c1 np c2 nr c3 W;have HO:Hid (∀W,Below w.heap.size w W→Calls Tryz.prog 70 #[vlV 3 t (.slice a1 ni c1) (.slice a2 np c2) (.slice a3 nr c3)] W fun e w'=>e= .returned (.bool true)∧Below W.heap.size W w'):=hO;have HT:Hid (∀W,Below w.heap.size w W→Calls Tryz.prog 196 #[(.slice a2 np c2)] W fun e w'=>∃v B,e= .returned v∧OwnS w' B v T∧Below W.heap.size W w'):=hT;have HZ:Hid (∀x∈T,x.size≤200):=hz;have H0:Hid (RowAt (w.alloc (.cells (vC 3 t (.slice a1 ni c1) (.slice a2 np c2) (.slice a3 nr c3)) 63)) w.heap.size 63 (vC 3 t (.slice a1 ni c1) (.slice a2 np c2) (.slice a3 nr c3))∧Below w.heap.size w (w.alloc (.cells (vC 3 t (.slice a1 ni c1) (.slice a2 np c2) (.slice a3 nr c3)) 63))):=⟨RowAt.new w 63 _,(Below.refl _ w).alloc (Nat.le_refl _) _⟩;have hlt:w.heap.size<(w.alloc (.cells (vC 3 t (.slice a1 ni c1) (.slice a2 np c2) (.slice a3 nr c3)) 63)).heap.size:=by simp
 clear hO hT hz;go_enter Tryz.func42,Tryz.ntmps42;go_wp2_with fail;refine (HO.out _ H0.out.2).mono ?_;rintro e w1 ⟨rfl,hb1⟩;have r1:=RowAt.below H0.out.1 hb1 hlt;have bb1:=H0.out.2.trans (hb1.mono H0.out.2.size);obtain ⟨e0,e1,e2,e3,e4⟩:=row5 r1;have bA:Below w1.heap.size w1 (w1.alloc (.cells #[.int .u8 51] 5)):=(Below.refl _ w1).alloc (Nat.le_refl _) _;have rA:=RowAt.below r1 bA r1.lt;obtain ⟨g0,g1,g2,g3,g4⟩:=row5 rA;have oA:Hid (OwnB (w1.alloc (.cells #[.int .u8 51] 5)) w.heap.size (.slice (some ⟨w1.heap.size,0,none⟩) 1 1) [51]):=⟨rfl,.inr ⟨w1.heap.size,1, #[.int .u8 51],rfl,bb1.size,RowAt.new w1 5 _,by simp,by unfold maxLen;omega,by simp,by simp [Lib.byteCells]⟩⟩;have bbA:=bb1.trans (bA.mono bb1.size);have sA:w1.heap.size<(w1.alloc (.cells #[.int .u8 51] 5)).heap.size:=by simp
 clear hb1 H0 r1 rA bA;go_wp2_with fail;generalize w1.alloc (.cells #[.int .u8 51] 5)=wA at*;refine (HC.out _).mono ?_;rintro e w2 ⟨rfl,hb2⟩;have bb2:=bbA.trans (hb2.mono bbA.size);have o2:Hid (OwnB w2 w.heap.size (.slice (some ⟨w1.heap.size,0,none⟩) 1 1) [51]):=zaf oA.out hb2;clear e0 e1 e2 e3 e4 g0 g1 g2 g3 g4 hb2 oA;go_wp2_with fail;refine (HT.out _ bb2).mono ?_;rintro e w3 ⟨vT,BT,rfl,oT,hb3⟩;have bb3:=bb2.trans (hb3.mono bb2.size);have o3:Hid (OwnB w3 w.heap.size (.slice (some ⟨w1.heap.size,0,none⟩) 1 1) [51]):=zaf o2.out hb3;have OT:Hid (OwnS w3 BT vT T):=oT;obtain ⟨aT,cT,hvT⟩:=zad oT;obtain ⟨nT,hnT⟩:∃nT,T.length=nT:=⟨_,rfl⟩;have HNT:Hid (T.length=nT):=hnT;rw [hnT] at hvT hn;subst hvT;clear o2 hb3 oT hnT;go_wp2_with fail;go_loopw [3,18] (fun o i wr=>∃(j:Nat) (l:List UInt8),j≤nT∧i= .int .i64 j∧l=51::encT (T.take j)∧l.length≤1+202*j∧OwnB wr w.heap.size o l∧OwnS wr BT (.slice aT nT cT) T∧Below w.heap.size w wr) (fun _ i _=>nT-(intOf i).toNat)
 case atStart=>exact ⟨0,[51],by omega,rfl,by simp [encT],by simp,o3.out,OT.out,bb3⟩
 case round=>
  obtain ⟨j,l,hj,rfl,hl,hll,oB,oT,bk⟩:=hrel;have sk:=bk.size;clear o3 OT;by_cases hjn:j<nT
  ·have hji:(j:Int)<(nT:Int):=by omega
   obtain ⟨xa,xA,xc,hxv,hxa,_,_,hxc⟩:=ownS_cells oT;injection hxv with hxv1 hxv2 hxv3;clear hxv2 hxv3;obtain ⟨hxa1,_,hxlt⟩:=hxa (by rw [HNT.out];omega);have hc:=hxc j (by rw [HNT.out];exact hjn);rw [←hxv1] at hxa1;clear hxv1;subst hxa1;obtain ⟨x,hx⟩:∃x,T.getD j ByteArray.empty=x:=⟨_,rfl⟩;rw [hx] at hc;have hxs:x.size≤200:=HZ.out x (by rw [←hx];exact getD_mem T _ j (by rw [HNT.out];exact hjn));have HL:Hid ((l++twoT x)++x.data.toList=51::encT (T.take (j+1))):=by
    unfold Hid;rw [hl,enc_next T j (by rw [HNT.out];exact hjn),hx];simp
   have HTC:Hid (Lib.byteCells (twoT x)=[.int .u8 ((x.size:Int)/256),.int .u8 (x.size:Int)]):=twoT_cells x hxs;have OB:Hid (OwnB wr w.heap.size u3 l):=oB;have OTT:Hid (OwnS wr BT (.slice (some ⟨xA,0,none⟩) nT cT) T):=oT;have hl2:l.length≤10000:=by omega
   have h00:(0:Int)≤(j:Int):=by omega
   clear hl hxa hxc hx oT;go_wp2_with (at_builtin;refine wpList_append_own _ rfl _ _ 22 rfl w.heap.size 5 i0 _ 1 1 Tryz.underlying22 hi hz0 hz1 hz2 rfl (by decide) _ _ _ rfl (oB.alloc _) ⟨wr.heap.size,0,none⟩ 2 2 [.int .u8 ((x.size:Int)/256),.int .u8 (x.size:Int)] rfl rfl ?c1 ?c2 ?c3 ?c4 ?c5 ?_)
   case c1=>
    intro i u hi;rw [Addr.add_lit,Nat.zero_add];exact ((RowAt.new wr 5 #[.int .u8 ((x.size:Int)/256),.int .u8 (x.size:Int)]).cell i).trans (by simpa using hi)
   case c2=>intro y hy;simp at hy;rcases hy with rfl|rfl<;>rfl
   case c3=>unfold maxLen;omega
   case c4=>omega
   case c5=>simp;omega
   intro v' w5 hown' hgrow _;have O5:OwnB w5 w.heap.size v' (l++twoT x):=by
    unfold OwnB;rw [List.length_append,Lib.byteCells_append,HTC.out];exact hown'
   have T5:Hid (OwnS w5 BT (.slice (some ⟨xA,0,none⟩) nT cT) T):=texts_kept (OTT.out.alloc _) (oB.alloc _) hgrow;have b5:Hid (Below w.heap.size w w5):=below_own bk sk oB hgrow;have s5:=b5.out.size;have hl3:(l++twoT x).length=l.length+2:=by rw [List.length_append];rfl
   clear hown' hgrow oB OB OTT HTC;go_wp2_with (at_builtin;refine Lib.wpList_append_own_string _ rfl _ _ 22 9 rfl w.heap.size 5 i0 Tryz.underlying22 Tryz.underlying9 hi hz0 hz1 hz2 _ _ _ rfl O5 x rfl ?c3 ?c4 ?c5 ?_)
   case c3=>unfold maxLen;omega
   case c4=>omega
   case c5=>omega
   intro v6 w6 hown6 hgrow6 _;have O6:Hid (OwnB w6 w.heap.size v6 ((l++twoT x)++x.data.toList)):=by
    unfold Hid OwnB;have e1:x.data.toList.length=x.size:=(Lib.size_eq x).symm;rw [List.length_append,Lib.byteCells_append,hl3,e1];exact hown6
   have T6:Hid (OwnS w6 BT (.slice (some ⟨xA,0,none⟩) nT cT) T):=texts_kept T5.out O5 hgrow6;have b6:Hid (Below w.heap.size w w6):=b5.out.grown hgrow6 s5 (fun g hg=> (own_lt O5 hg).1);have e1:x.data.toList.length=x.size:=(Lib.size_eq x).symm;clear hown6 hgrow6 O5 T5 b5 bk;go_wp2;go_roundw
   case rel=>exact ⟨j+1,(l++twoT x)++x.data.toList,by omega,by go_num,HL.out,by rw [List.length_append,hl3,e1];omega,O6.out,T6.out,b6.out⟩
   case measure=>simp [intOf];omega
  ·have hji:¬(j:Int)<(nT:Int):=by omega
   have HE:Hid (l=51::encT T):=by
    unfold Hid;rw [hl,List.take_of_length_le (by rw [HNT.out];omega)]
   have hlp:0<l.length:=by rw [hl];simp
   obtain ⟨A',cap',ho'⟩:=Go.Joins.ownsRow_form oB hlp;subst ho';have hcv:=conv_own oB;have hl2:l.length≤10000:=by omega
   clear hl oT oB;go_wp2;go_ret;exact ⟨ret_str (by rw [HE.out]),bk⟩
theorem bytes_ranks (t:ByteArray) (a1 a2 a3:Option Addr) (ni c1 np c2 nr c3:Nat) (T:List ByteArray) (w:World) (hz:∀x∈T,x.size≤200) (hn:T.length≤40)
  (hO:∀W,Below w.heap.size w W→Calls Tryz.prog 70 #[vlV 4 t (.slice a1 ni c1) (.slice a2 np c2) (.slice a3 nr c3)] W fun e w'=>e= .returned (.bool true)∧Below W.heap.size W w')
  (hT:∀W,Below w.heap.size w W→Calls Tryz.prog 201 #[(.slice a3 nr c3)] W fun e w'=>∃v B,e= .returned v∧OwnS w' B v T∧Below W.heap.size W w'):
  Calls Tryz.prog 42 #[vlV 4 t (.slice a1 ni c1) (.slice a2 np c2) (.slice a3 nr c3)] w fun e w'=>e= .returned (.string ⟨(52::encT T).toArray⟩)∧Below w.heap.size w w':=by
 obtain ⟨i0,hi,hz0,hz1,hz2⟩:=info_parts info5;have HC:Hid (∀W,Calls Tryz.prog 71 #[vlV 4 t (.slice a1 ni c1) (.slice a2 np c2) (.slice a3 nr c3)] W fun e w'=>e= .returned (.iface 175 (.slice a3 nr c3))∧Below W.heap.size W w'):=fun W=>contentOf_ranks t a1 a2 a3 ni c1 np c2 nr c3 W;have HO:Hid (∀W,Below w.heap.size w W→Calls Tryz.prog 70 #[vlV 4 t (.slice a1 ni c1) (.slice a2 np c2) (.slice a3 nr c3)] W fun e w'=>e= .returned (.bool true)∧Below W.heap.size W w'):=hO;have HT:Hid (∀W,Below w.heap.size w W→Calls Tryz.prog 201 #[(.slice a3 nr c3)] W fun e w'=>∃v B,e= .returned v∧OwnS w' B v T∧Below W.heap.size W w'):=hT;have HZ:Hid (∀x∈T,x.size≤200):=hz;have H0:Hid (RowAt (w.alloc (.cells (vC 4 t (.slice a1 ni c1) (.slice a2 np c2) (.slice a3 nr c3)) 63)) w.heap.size 63 (vC 4 t (.slice a1 ni c1) (.slice a2 np c2) (.slice a3 nr c3))∧Below w.heap.size w (w.alloc (.cells (vC 4 t (.slice a1 ni c1) (.slice a2 np c2) (.slice a3 nr c3)) 63))):=⟨RowAt.new w 63 _,(Below.refl _ w).alloc (Nat.le_refl _) _⟩;have hlt:w.heap.size<(w.alloc (.cells (vC 4 t (.slice a1 ni c1) (.slice a2 np c2) (.slice a3 nr c3)) 63)).heap.size:=by simp
 clear hO hT hz;go_enter Tryz.func42,Tryz.ntmps42;go_wp2_with fail;refine (HO.out _ H0.out.2).mono ?_;rintro e w1 ⟨rfl,hb1⟩;have r1:=RowAt.below H0.out.1 hb1 hlt;have bb1:=H0.out.2.trans (hb1.mono H0.out.2.size);obtain ⟨e0,e1,e2,e3,e4⟩:=row5 r1;have bA:Below w1.heap.size w1 (w1.alloc (.cells #[.int .u8 52] 5)):=(Below.refl _ w1).alloc (Nat.le_refl _) _;have rA:=RowAt.below r1 bA r1.lt;obtain ⟨g0,g1,g2,g3,g4⟩:=row5 rA;have oA:Hid (OwnB (w1.alloc (.cells #[.int .u8 52] 5)) w.heap.size (.slice (some ⟨w1.heap.size,0,none⟩) 1 1) [52]):=⟨rfl,.inr ⟨w1.heap.size,1, #[.int .u8 52],rfl,bb1.size,RowAt.new w1 5 _,by simp,by unfold maxLen;omega,by simp,by simp [Lib.byteCells]⟩⟩;have bbA:=bb1.trans (bA.mono bb1.size);have sA:w1.heap.size<(w1.alloc (.cells #[.int .u8 52] 5)).heap.size:=by simp
 clear hb1 H0 r1 rA bA;go_wp2_with fail;generalize w1.alloc (.cells #[.int .u8 52] 5)=wA at*;refine (HC.out _).mono ?_;rintro e w2 ⟨rfl,hb2⟩;have bb2:=bbA.trans (hb2.mono bbA.size);have o2:Hid (OwnB w2 w.heap.size (.slice (some ⟨w1.heap.size,0,none⟩) 1 1) [52]):=zaf oA.out hb2;clear e0 e1 e2 e3 e4 g0 g1 g2 g3 g4 hb2 oA;go_wp2_with fail;refine (HT.out _ bb2).mono ?_;rintro e w3 ⟨vT,BT,rfl,oT,hb3⟩;have bb3:=bb2.trans (hb3.mono bb2.size);have o3:Hid (OwnB w3 w.heap.size (.slice (some ⟨w1.heap.size,0,none⟩) 1 1) [52]):=zaf o2.out hb3;have OT:Hid (OwnS w3 BT vT T):=oT;obtain ⟨aT,cT,hvT⟩:=zad oT;obtain ⟨nT,hnT⟩:∃nT,T.length=nT:=⟨_,rfl⟩;have HNT:Hid (T.length=nT):=hnT;rw [hnT] at hvT hn;subst hvT;clear o2 hb3 oT hnT;go_wp2_with fail;go_loopw [3,18] (fun o i wr=>∃(j:Nat) (l:List UInt8),j≤nT∧i= .int .i64 j∧l=52::encT (T.take j)∧l.length≤1+202*j∧OwnB wr w.heap.size o l∧OwnS wr BT (.slice aT nT cT) T∧Below w.heap.size w wr) (fun _ i _=>nT-(intOf i).toNat)
 case atStart=>exact ⟨0,[52],by omega,rfl,by simp [encT],by simp,o3.out,OT.out,bb3⟩
 case round=>
  obtain ⟨j,l,hj,rfl,hl,hll,oB,oT,bk⟩:=hrel;have sk:=bk.size;clear o3 OT;by_cases hjn:j<nT
  ·have hji:(j:Int)<(nT:Int):=by omega
   obtain ⟨xa,xA,xc,hxv,hxa,_,_,hxc⟩:=ownS_cells oT;injection hxv with hxv1 hxv2 hxv3;clear hxv2 hxv3;obtain ⟨hxa1,_,hxlt⟩:=hxa (by rw [HNT.out];omega);have hc:=hxc j (by rw [HNT.out];exact hjn);rw [←hxv1] at hxa1;clear hxv1;subst hxa1;obtain ⟨x,hx⟩:∃x,T.getD j ByteArray.empty=x:=⟨_,rfl⟩;rw [hx] at hc;have hxs:x.size≤200:=HZ.out x (by rw [←hx];exact getD_mem T _ j (by rw [HNT.out];exact hjn));have HL:Hid ((l++twoT x)++x.data.toList=52::encT (T.take (j+1))):=by
    unfold Hid;rw [hl,enc_next T j (by rw [HNT.out];exact hjn),hx];simp
   have HTC:Hid (Lib.byteCells (twoT x)=[.int .u8 ((x.size:Int)/256),.int .u8 (x.size:Int)]):=twoT_cells x hxs;have OB:Hid (OwnB wr w.heap.size u3 l):=oB;have OTT:Hid (OwnS wr BT (.slice (some ⟨xA,0,none⟩) nT cT) T):=oT;have hl2:l.length≤10000:=by omega
   have h00:(0:Int)≤(j:Int):=by omega
   clear hl hxa hxc hx oT;go_wp2_with (at_builtin;refine wpList_append_own _ rfl _ _ 22 rfl w.heap.size 5 i0 _ 1 1 Tryz.underlying22 hi hz0 hz1 hz2 rfl (by decide) _ _ _ rfl (oB.alloc _) ⟨wr.heap.size,0,none⟩ 2 2 [.int .u8 ((x.size:Int)/256),.int .u8 (x.size:Int)] rfl rfl ?c1 ?c2 ?c3 ?c4 ?c5 ?_)
   case c1=>
    intro i u hi;rw [Addr.add_lit,Nat.zero_add];exact ((RowAt.new wr 5 #[.int .u8 ((x.size:Int)/256),.int .u8 (x.size:Int)]).cell i).trans (by simpa using hi)
   case c2=>intro y hy;simp at hy;rcases hy with rfl|rfl<;>rfl
   case c3=>unfold maxLen;omega
   case c4=>omega
   case c5=>simp;omega
   intro v' w5 hown' hgrow _;have O5:OwnB w5 w.heap.size v' (l++twoT x):=by
    unfold OwnB;rw [List.length_append,Lib.byteCells_append,HTC.out];exact hown'
   have T5:Hid (OwnS w5 BT (.slice (some ⟨xA,0,none⟩) nT cT) T):=texts_kept (OTT.out.alloc _) (oB.alloc _) hgrow;have b5:Hid (Below w.heap.size w w5):=below_own bk sk oB hgrow;have s5:=b5.out.size;have hl3:(l++twoT x).length=l.length+2:=by rw [List.length_append];rfl
   clear hown' hgrow oB OB OTT HTC;go_wp2_with (at_builtin;refine Lib.wpList_append_own_string _ rfl _ _ 22 9 rfl w.heap.size 5 i0 Tryz.underlying22 Tryz.underlying9 hi hz0 hz1 hz2 _ _ _ rfl O5 x rfl ?c3 ?c4 ?c5 ?_)
   case c3=>unfold maxLen;omega
   case c4=>omega
   case c5=>omega
   intro v6 w6 hown6 hgrow6 _;have O6:Hid (OwnB w6 w.heap.size v6 ((l++twoT x)++x.data.toList)):=by
    unfold Hid OwnB;have e1:x.data.toList.length=x.size:=(Lib.size_eq x).symm;rw [List.length_append,Lib.byteCells_append,hl3,e1];exact hown6
   have T6:Hid (OwnS w6 BT (.slice (some ⟨xA,0,none⟩) nT cT) T):=texts_kept T5.out O5 hgrow6;have b6:Hid (Below w.heap.size w w6):=b5.out.grown hgrow6 s5 (fun g hg=> (own_lt O5 hg).1);have e1:x.data.toList.length=x.size:=(Lib.size_eq x).symm;clear hown6 hgrow6 O5 T5 b5 bk;go_wp2;go_roundw
   case rel=>exact ⟨j+1,(l++twoT x)++x.data.toList,by omega,by go_num,HL.out,by rw [List.length_append,hl3,e1];omega,O6.out,T6.out,b6.out⟩
   case measure=>simp [intOf];omega
  ·have hji:¬(j:Int)<(nT:Int):=by omega
   have HE:Hid (l=52::encT T):=by
    unfold Hid;rw [hl,List.take_of_length_le (by rw [HNT.out];omega)]
   have hlp:0<l.length:=by rw [hl];simp
   obtain ⟨A',cap',ho'⟩:=Go.Joins.ownsRow_form oB hlp;subst ho';have hcv:=conv_own oB;have hl2:l.length≤10000:=by omega
   clear hl oT oB;go_wp2;go_ret;exact ⟨ret_str (by rw [HE.out]),bk⟩
theorem bytes_no (k:Int) (t:ByteArray) (a1 a2 a3:Option Addr) (ni c1 np c2 nr c3:Nat) (w:World)
  (hO:∀W,Below w.heap.size w W→Calls Tryz.prog 70 #[vlV k t (.slice a1 ni c1) (.slice a2 np c2) (.slice a3 nr c3)] W fun e w'=>e= .returned (.bool false)∧Below W.heap.size W w'):
  Calls Tryz.prog 42 #[vlV k t (.slice a1 ni c1) (.slice a2 np c2) (.slice a3 nr c3)] w fun e w'=>e= .returned (.string ⟨#[]⟩)∧Below w.heap.size w w':=by
 have HO:Hid (∀W,Below w.heap.size w W→Calls Tryz.prog 70 #[vlV k t (.slice a1 ni c1) (.slice a2 np c2) (.slice a3 nr c3)] W fun e w'=>e= .returned (.bool false)∧Below W.heap.size W w'):=hO;have HB:Hid (Below w.heap.size w (w.alloc (.cells (vC k t (.slice a1 ni c1) (.slice a2 np c2) (.slice a3 nr c3)) 63))):=(Below.refl _ w).alloc (Nat.le_refl _) _;clear hO;go_enter Tryz.func42,Tryz.ntmps42;go_wp2_with fail;refine (HO.out _ HB.out).mono ?_;rintro e w1 ⟨rfl,hb1⟩;have bb1:=HB.out.trans (hb1.mono HB.out.size);clear hb1;go_wp2;go_ret;exact ⟨rfl,bb1⟩
theorem implBytes_any (v:Vl) (vi vp vr:Value) (B:Nat) (w:World) (h:VOwn w B v vi vp vr) (hf:VFit v) (hp2:v.pairs.length≤500000) (hfl:Kk.FitL v.ranks) (hR:Ready w):
  Calls Tryz.prog 42 #[vlV v.kind v.text vi vp vr] w fun e w'=>e= .returned (.string ⟨(zdj v).toArray⟩)∧Below w.heap.size w w':=by
 have h6:=hR.six;have hO:∀W,Below w.heap.size w W→Calls Tryz.prog 70 #[vlV v.kind v.text vi vp vr] W fun e w'=>e= .returned (.bool (vokB v))∧Below W.heap.size W w':=fun W hb=>implOk_any v vi vp vr B W (h.below hb) hf hp2 hfl (hR.below (hb.mono h6));obtain ⟨a1,c1,e1⟩:=zad h.items;obtain ⟨a2,c2,e2⟩:=zad h.pairs;obtain ⟨a3,c3,e3⟩:=zad h.ranks;cases hv:vokB v with
 |false=>
  rw [hv] at hO;have e:zdj v=[]:=by unfold zdj;rw [hv];rfl
  rw [e];subst e1 e2 e3;exact bytes_no v.kind v.text a1 a2 a3 _ c1 _ c2 _ c3 w hO
 |true=>
  rw [hv] at hO;have hsm:=small_of_ok hv;have hvb:zdj v=UInt8.ofNat (48+v.kind.toNat)::(if v.kind=1 then oneT v.text else encT (vtexts v)):=by unfold zdj;rw [hv];rfl
  obtain ⟨k,t,is,ps,rs⟩:=v;obtain ⟨_,st,ni,np,nr,s1,s2,s3⟩:=hsm;obtain ⟨oi,op,or⟩:=h;dsimp only at hO st ni np nr s1 s2 s3 oi op or hfl e1 e2 e3 hp2 hvb;have nil0:∀{α:Type} (l:List α),l.length=0→l=[]:=fun l h=>List.eq_nil_of_length_eq_zero h;rw [hvb];show Calls Tryz.prog 42 #[vlV k t vi vp vr] w _;have h:=hv;unfold vokB none3 at h;dsimp only at h;subst e1 e2 e3;split at h
  ·rename_i hk;subst hk;simp only [Bool.and_eq_true,decide_eq_true_iff] at h
   have:=bytes_text t a1 a2 a3 is.length c1 ps.length c2 rs.length c3 [t] w (fun x hx=>by simp at hx;subst hx;exact st) (by simp) hO (fun W hb=>by
    have ho:OwnS (W.alloc (.cells #[.string t] 9)) W.heap.size (.slice (some ⟨W.heap.size,0,none⟩) 1 1) [t]:=⟨rfl,.inr ⟨W.heap.size,1, #[.string t],rfl,Nat.le_refl _,RowAt.new W 9 #[.string t],by simp,by unfold maxLen;omega,by simp,by simp [strV]⟩⟩;have hT:Calls Tryz.prog 190 #[.string t] W fun e w'=>e= .returned (.slice (some ⟨W.heap.size,0,none⟩) 1 1)∧w'=W.alloc (.cells #[.string t] 9):=by
     go_enter Tryz.func190,Tryz.ntmps190;go_wp2;go_ret;exact ⟨rfl,rfl⟩
    exact hT.mono fun e w' ⟨he,hw⟩=>⟨_,W.heap.size,he,by rw [hw];exact ho,by rw [hw];exact (Below.refl _ W).alloc (Nat.le_refl _) _⟩)
   refine this.mono fun e w' ⟨he,hb⟩=>⟨?_,hb⟩;rw [he,if_pos rfl];exact ret_str (by simp [encT])
  ·rename_i n1;rw [if_neg n1];split at h
   ·rename_i hk;subst hk;simp only [Bool.and_eq_true,decide_eq_true_iff] at h;have h2:=nil0 ps (by omega);have h3:=nil0 rs (by omega)
    have:=bytes_items t a1 a2 a3 is.length c1 ps.length c2 rs.length c3 is w s1 (by omega) hO (fun W hb=>by
     have hT:Calls Tryz.prog 193 #[.slice a1 is.length c1] W fun e w'=>e= .returned (.slice a1 is.length c1)∧w'=W:=by
      go_enter Tryz.func193,Tryz.ntmps193;go_wp2;go_ret;exact ⟨rfl,rfl⟩
     exact hT.mono fun e w' ⟨he,hw⟩=>⟨_,B,he,by rw [hw];exact zaf oi hb,by rw [hw];exact Below.refl _ _⟩)
    refine this.mono fun e w' ⟨he,hb⟩=>⟨?_,hb⟩;rw [he,h2,h3];exact ret_str (by simp [vtexts,flatP,texL])
   ·rename_i n2;split at h
    ·rename_i hk;subst hk;simp only [Bool.and_eq_true,decide_eq_true_iff] at h;have h2:=nil0 is (by omega);have h3:=nil0 rs (by omega)
     have:=bytes_pairs t a1 a2 a3 is.length c1 ps.length c2 rs.length c3 (flatP ps) w (flatP_short s2) (by rw [flatP_len];omega) hO (fun W hb=>by
      obtain ⟨a,A,c,hvv,hin⟩:=ownP_in (zaf op hb);rw [hvv];exact (pair_texts a A ps.length c ps W hin (by omega)).mono fun e w' ⟨v',he,ho',hb'⟩=>⟨v',_,he,ho',hb'⟩)
     refine this.mono fun e w' ⟨he,hb⟩=>⟨?_,hb⟩;rw [he,h2,h3];exact ret_str (by simp [vtexts,texL])
    ·rename_i n3;split at h
     ·rename_i hk;subst hk;simp only [Bool.and_eq_true,decide_eq_true_iff] at h;have h2:=nil0 is (by omega);have h3:=nil0 ps (by omega)
      have:=bytes_ranks t a1 a2 a3 is.length c1 ps.length c2 rs.length c3 (texL rs) w (texL_short s3) (by rw [Kk.texL_len];omega) hO (fun W hb=>by
       obtain ⟨a,A,c,hvv,hin⟩:=Kk.ownR_any (zaf or hb);rw [hvv];have hRW:=hR.below (hb.mono h6);have:=hRW.six;exact (Kk.texts_any a A 0 rs.length c rs W hin (by omega) hfl hRW.tab (by omega)).mono fun e w' ⟨v',he,ho',hb'⟩=>⟨v',_,he,ho',hb'⟩)
      refine this.mono fun e w' ⟨he,hb⟩=>⟨?_,hb⟩;rw [he,h2,h3];exact ret_str (by simp [vtexts,flatP])
     ·cases h
end Go.Proofs.YtjpeglkkkllagaaGreatDoor
