import Derived.Test.YtjpeglkkkllagaaGreatDoorWa
set_option maxHeartbeats 2000000
set_option maxRecDepth 100000
namespace Go.Proofs.YtjpeglkkkllagaaGreatDoor
open Go.RowKit Go.Sort
open Kk (Rk rk0 texL texR decS zea zeb zec OwnR flatR encR)
theorem content_text {w:World} {B:Nat} {v:Value} {t:ByteArray} (h:OwnS w B v [t]):Calls Tryz.prog 77 #[.int .u8 49,v] w fun e w'=>e= .returned (.tuple #[.iface 172 (.string t),.bool true])∧w'=w:=by
 obtain ⟨a,A,c,rfl,h2,_,_,h5⟩:=ownS_cells h;have hc:=h5 0 (by simp);obtain ⟨rfl,_,_⟩:=h2 (by simp);simp at hc;have hl:[t].length=1:=rfl;rw [hl];clear h h2 h5 hl;go_enter Tryz.func77,Tryz.ntmps77;go_wp2;go_ret2;exact ⟨rfl,rfl⟩
theorem content_text_no {w:World} {B:Nat} {v:Value} {ts:List ByteArray} (h:OwnS w B v ts) (hn:ts.length≠1):Calls Tryz.prog 77 #[.int .u8 49,v] w fun e w'=>e= .returned (.tuple #[.nilIface,.bool false])∧w'=w:=by
 obtain ⟨a,c,rfl⟩:=zad h;generalize ts.length=n at*;have hb:((n:Int)!=1)=true:=by simp;omega
 clear h hn;go_enter Tryz.func77,Tryz.ntmps77;go_wp2;go_ret2;exact ⟨rfl,rfl⟩
theorem content_items (a:Option Addr) (n c:Nat) (w:World):Calls Tryz.prog 77 #[.int .u8 50,.slice a n c] w fun e w'=>e= .returned (.tuple #[.iface 173 (.slice a n c),.bool true])∧w'=w:=by
 go_enter Tryz.func77,Tryz.ntmps77;go_wp2;go_ret2;exact ⟨rfl,rfl⟩
theorem content_pairs {w:World} {B:Nat} {v:Value} {ts:List ByteArray} (h:OwnS w B v ts) (hz:∀t∈ts,t.size≤1048576) (hn:ts.length≤1048576):Calls Tryz.prog 77 #[.int .u8 51,v] w fun e w'=>∃v,e= .returned (.tuple #[.iface 174 v,.bool (decide (ts.length%2=0))])∧OwnP w' w.heap.size v (pairUp ts)∧Below w.heap.size w w':=by
 obtain ⟨a,A,c,rfl,hs,hc,hc2⟩:=ownS_in h hz;have HC:Hid (Calls Tryz.prog 104 #[.slice a ts.length c] w fun e w'=>∃v,e= .returned (.tuple #[.iface 174 v,.bool (decide (ts.length%2=0))])∧OwnP w' w.heap.size v (pairUp ts)∧Below w.heap.size w w'):=pairsFrom_any a A 0 ts.length c ts w hs hn hc hc2;generalize decide (ts.length%2=0)=o at*;generalize ts.length=n at*;generalize pairUp ts=ps at*;clear h hs hz;go_enter Tryz.func77,Tryz.ntmps77;go_wp2_with fail;refine HC.out.mono ?_;rintro e w1 ⟨v,rfl,ho,hb⟩;go_wp2;go_ret2;exact ⟨v,rfl,ho,hb⟩
theorem content_ranks {w:World} {B:Nat} {v:Value} {ts:List ByteArray} (h:OwnS w B v ts) (hz:∀t∈ts,t.size≤1048576) (hn:ts.length≤1048576) (hr:Ready w):Calls Tryz.prog 77 #[.int .u8 52,v] w (RanksEnd w (rankDec ts)):=by
 obtain ⟨a,A,c,rfl,hs,hc,hc2⟩:=ownS_in h hz;have HC:=ranksFrom_any a A 0 ts.length c ts w hs hz hn hc hc2 hr;generalize rankDec ts=T at*;have HC':Hid (Calls Tryz.prog 105 #[.slice a ts.length c] w fun e w'=>∃v,e= .returned (.tuple #[v,.bool T.isSome])∧(∀rs,T=some rs→∃u,v= .iface 175 u∧OwnR w' w.heap.size u rs)∧Below w.heap.size w w'):=HC;have HE:Hid (∀v w',(∀rs,T=some rs→∃u,v= .iface 175 u∧OwnR w' w.heap.size u rs)→Below w.heap.size w w'→RanksEnd w T (.returned (.tuple #[v,.bool T.isSome])) w'):=fun v w' h1 h2=>⟨v,rfl,h1,h2⟩;generalize T.isSome=o at*;generalize ts.length=n at*;clear h hs hz HC;go_enter Tryz.func77,Tryz.ntmps77;go_wp2_with fail;refine HC'.out.mono ?_;rintro e w1 ⟨v,rfl,ho,hb⟩;have HX:Hid _:=ho;clear ho;go_wp2;go_ret2;exact HE.out v w1 HX.out hb
theorem content_else (b:Nat) (v:Value) (w:World) (h1:b≠49) (h2:b≠50) (h3:b≠51) (h4:b≠52):Calls Tryz.prog 77 #[.int .u8 b,v] w fun e w'=>e= .returned (.tuple #[.nilIface,.bool false])∧w'=w:=by
 have e1:((b:Int)==49)=false:=by simp;omega
 have e2:((b:Int)==50)=false:=by simp;omega
 have e3:((b:Int)==51)=false:=by simp;omega
 have e4:((b:Int)==52)=false:=by simp;omega
 clear h1 h2 h3 h4;go_enter Tryz.func77,Tryz.ntmps77;go_wp2;go_ret2;exact ⟨rfl,rfl⟩
def ValEnd (w:World) (r:Vl×Bool) (e:Ending) (w':World):Prop:=
 ∃vi vp vr,e= .returned (.tuple #[vlV r.1.kind r.1.text vi vp vr,.bool r.2])∧OwnS w' w.heap.size vi r.1.items∧OwnP w' w.heap.size vp r.1.pairs∧OwnR w' w.heap.size vr r.1.ranks∧Below w.heap.size w w'
theorem val_zero {w w':World} (hb:Below w.heap.size w w'):ValEnd w (vl0,false) (.returned (.tuple #[vlV 0 ⟨#[]⟩ nilS nilS nilS,.bool false])) w':=
 ⟨nilS,nilS,nilS,rfl,ownS_nil _ _,ownP_nil _ _,Kk.ownR_nil _ _,hb⟩
theorem readV_empty (s:ByteArray) (w:World) (h:s.size=0):Calls Tryz.prog 49 #[.string s] w (ValEnd w (vl0,false)):=by
 have he:=empty_yes h;go_enter Tryz.func49,Tryz.ntmps49;go_wp2;exact bodyPost_ret (v:= .tuple #[vlV 0 ⟨#[]⟩ nilS nilS nilS,.bool false]) (by simp [results,Tryz.results49,go_sem]) rfl (val_zero ((Below.refl _ w).alloc (Nat.le_refl _) _))
theorem readV_bad (s r:ByteArray) (w:World) (h:0<s.size) (hs:s.size≤1048576) (hr:s.extract 1 s.size=r) (hm:∀W,Calls Tryz.prog 76 #[.string r] W fun e w'=>e= .returned (.tuple #[nilS,.bool false])∧Below W.heap.size W w'):
  Calls Tryz.prog 49 #[.string s] w (ValEnd w (vl0,false)):=by
 have he:=empty_no h;have h1:(1:Int)≤(s.size:Int):=by omega
 have HM:Hid (∀W,Calls Tryz.prog 76 #[.string r] W fun e w'=>e= .returned (.tuple #[nilS,.bool false])∧Below W.heap.size W w'):=hm;have HX:Hid (s.extract 1 s.size=r):=hr;have HZ:Hid (RowAt (w.alloc (.cells z5 63)) w.heap.size 63 z5):=RowAt.new w 63 z5;have HB:Hid (Below w.heap.size w (w.alloc (.cells z5 63))):=(Below.refl _ w).alloc (Nat.le_refl _) _;clear hm hr;go_enter Tryz.func49,Tryz.ntmps49;go_wp2_with fail;rw [HX.out];refine (HM.out _).mono ?_;rintro e w1 ⟨rfl,b1⟩;have b2:Below w.heap.size w w1:=HB.out.trans (b1.mono (by simp));have hz:RowAt w1 w.heap.size 63 z5:=RowAt.below HZ.out b1 (by simp);have c0:=hz.cell 0;have c1:=hz.cell 1;have c2:=hz.cell 2;have c3:=hz.cell 3;have c4:=hz.cell 4;have f0:=hz.frozen 0;have f1:=hz.frozen 1;have f2:=hz.frozen 2;have f3:=hz.frozen 3;have f4:=hz.frozen 4;simp at c0 c1 c2 c3 c4;clear b1 HZ HB hz;go_wp2;exact bodyPost_ret (v:= .tuple #[vlV 0 ⟨#[]⟩ nilS nilS nilS,.bool false]) (by simp [results,Tryz.results49,go_sem,c0,c1,c2,c3,c4]) rfl (val_zero (zcd b2 _ _ _ _ _ _ (Nat.le_refl _)))
def TextsOk (r:ByteArray) (ts:List ByteArray):Prop:=∀W,Calls Tryz.prog 76 #[.string r] W fun e w'=>∃v,e= .returned (.tuple #[v,.bool true])∧OwnS w' W.heap.size v ts∧Below W.heap.size W w'
theorem own_up {w:World} {B B':Nat} {e:TypeId} {size n:Nat} {v:Value} {xs:List Value} (h:w.ownsRow B e size v n xs) (hB:B'≤B):w.ownsRow B' e size v n xs:=Joins.ownsRow_le h hB
theorem readV_no (s r:ByteArray) (b:UInt8) (ts:List ByteArray) (w:World) (h:0<s.size) (h0:∀hx,s[0]'hx=b) (hr:s.extract 1 s.size=r) (hm:TextsOk r ts)
  (hc:∀v W,OwnS W (w.heap.size+1) v ts→Below w.heap.size w W→w.heap.size<W.heap.size→Calls Tryz.prog 77 #[.int .u8 b.toNat,v] W fun e w'=>∃u,e= .returned (.tuple #[u,.bool false])∧Below W.heap.size W w'):
  Calls Tryz.prog 49 #[.string s] w (ValEnd w (vl0,false)):=by
 have he:=empty_no h;have h1:(1:Int)≤(s.size:Int):=by omega
 have h0i:(0:Int)<(s.size:Int):=by omega
 have HM:Hid (TextsOk r ts):=hm;have HX:Hid (s.extract 1 s.size=r):=hr;have HZ:Hid (RowAt (w.alloc (.cells z5 63)) w.heap.size 63 z5):=RowAt.new w 63 z5;have HB:Hid (Below w.heap.size w (w.alloc (.cells z5 63))):=(Below.refl _ w).alloc (Nat.le_refl _) _;have hsz:(w.alloc (.cells z5 63)).heap.size=w.heap.size+1:=by simp
 have hb256:b.toNat<256:=b.toNat_lt;clear hm hr;go_enter Tryz.func49,Tryz.ntmps49;go_wp2_with fail;rw [HX.out];refine (HM.out _).mono ?_;rintro e w1 ⟨v,rfl,o1,b1⟩;have b2:Below w.heap.size w w1:=HB.out.trans (b1.mono (by simp));have hz1:RowAt w1 w.heap.size 63 z5:=RowAt.below HZ.out b1 (by simp);have sz1:w.heap.size<w1.heap.size:=hz1.lt;have hc2:=hc v w1 (own_up o1 (by simp)) b2 sz1;obtain ⟨va,vc,hv⟩:=zad o1;obtain ⟨n,hn⟩:∃n,ts.length=n:=⟨_,rfl⟩;rw [hn] at hv;subst hv;have HC2:Hid (Calls Tryz.prog 77 #[.int .u8 b.toNat,.slice va n vc] w1 fun e w'=>∃u,e= .returned (.tuple #[u,.bool false])∧Below w1.heap.size w1 w'):=hc2;clear o1 b1 HZ HB hc hc2 HM;go_wp2_with fail;refine HC2.out.mono ?_;rintro e w2 ⟨u,rfl,b3⟩;have b02:=b2.trans (b3.mono (by omega));have hz:RowAt w2 w.heap.size 63 z5:=RowAt.below hz1 b3 sz1;have c0:=hz.cell 0;have c1:=hz.cell 1;have c2:=hz.cell 2;have c3:=hz.cell 3;have c4:=hz.cell 4;have f0:=hz.frozen 0;have f1:=hz.frozen 1;have f2:=hz.frozen 2;have f3:=hz.frozen 3;have f4:=hz.frozen 4;simp at c0 c1 c2 c3 c4;clear hz hz1 b3 b2;go_wp2;exact bodyPost_ret (v:= .tuple #[vlV 0 ⟨#[]⟩ nilS nilS nilS,.bool false]) (by simp [results,Tryz.results49,go_sem,c0,c1,c2,c3,c4]) rfl (val_zero (zcd b02 _ _ _ _ _ _ (Nat.le_refl _)))
theorem readV_text (s r:ByteArray) (b:UInt8) (ts:List ByteArray) (w:World) (h:0<s.size) (h0:∀hx,s[0]'hx=b) (hr:s.extract 1 s.size=r) (hm:TextsOk r ts) (Q:Value→World→Prop) (res:Vl) (o:Bool)
  (hc:∀v W,OwnS W (w.heap.size+1) v ts→Below w.heap.size w W→w.heap.size<W.heap.size→Calls Tryz.prog 77 #[.int .u8 b.toNat,v] W fun e w'=>∃u,e= .returned (.tuple #[.iface 172 u,.bool true])∧Q u w'∧Below W.heap.size W w')
  (hright:∀u W,Q u W→Below w.heap.size w W→Calls Tryz.prog 189 #[u] W fun e w'=>e= .returned (.bool o)∧Q u w'∧Below W.heap.size W w')
  (hval:∀u W,Q u W→Calls Tryz.prog 78 #[.iface 172 u] W fun e w'=>∃vi vp vr,e= .returned (vlV res.kind res.text vi vp vr)∧OwnS w' (w.heap.size+1) vi res.items∧OwnP w' (w.heap.size+1) vp res.pairs∧OwnR w' (w.heap.size+1) vr res.ranks∧Below W.heap.size W w'):
  Calls Tryz.prog 49 #[.string s] w (ValEnd w (if o then (res,true) else (vl0,false))):=by
 have HRT:Hid (∀u W,Q u W→Below w.heap.size w W→Calls Tryz.prog 189 #[u] W fun e w'=>e= .returned (.bool o)∧Q u w'∧Below W.heap.size W w'):=hright;have HVL:Hid (∀u W,Q u W→Calls Tryz.prog 78 #[.iface 172 u] W fun e w'=>∃vi vp vr,e= .returned (vlV res.kind res.text vi vp vr)∧OwnS w' (w.heap.size+1) vi res.items∧OwnP w' (w.heap.size+1) vp res.pairs∧OwnR w' (w.heap.size+1) vr res.ranks∧Below W.heap.size W w'):=hval;clear hright hval;obtain ⟨R,hR⟩:∃R,(if o then (res,true) else (vl0,false))=R:=⟨_,rfl⟩;have HRE:Hid ((if o then (res,true) else (vl0,false))=R):=hR;rw [hR];clear hR;have he:=empty_no h;have h1:(1:Int)≤(s.size:Int):=by omega
 have h0i:(0:Int)<(s.size:Int):=by omega
 have HM:Hid (TextsOk r ts):=hm;have HX:Hid (s.extract 1 s.size=r):=hr;have HZ:Hid (RowAt (w.alloc (.cells z5 63)) w.heap.size 63 z5):=RowAt.new w 63 z5;have HB:Hid (Below w.heap.size w (w.alloc (.cells z5 63))):=(Below.refl _ w).alloc (Nat.le_refl _) _;have hsz:(w.alloc (.cells z5 63)).heap.size=w.heap.size+1:=by simp
 have hb256:b.toNat<256:=b.toNat_lt;clear hm hr;go_enter Tryz.func49,Tryz.ntmps49;go_wp2_with fail;rw [HX.out];refine (HM.out _).mono ?_;rintro e w1 ⟨v,rfl,o1,b1⟩;have b2:Below w.heap.size w w1:=HB.out.trans (b1.mono (by simp));have hz1:RowAt w1 w.heap.size 63 z5:=RowAt.below HZ.out b1 (by simp);have sz1:w.heap.size<w1.heap.size:=hz1.lt;have hc2:=hc v w1 (own_up o1 (by simp)) b2 sz1;obtain ⟨va,vc,hv⟩:=zad o1;obtain ⟨n,hn⟩:∃n,ts.length=n:=⟨_,rfl⟩;rw [hn] at hv;subst hv;have HC2:Hid (Calls Tryz.prog 77 #[.int .u8 b.toNat,.slice va n vc] w1 fun e w'=>∃u,e= .returned (.tuple #[.iface 172 u,.bool true])∧Q u w'∧Below w1.heap.size w1 w'):=hc2;clear o1 b1 HZ HB hc hc2 HM;go_wp2_with fail;refine HC2.out.mono ?_;rintro e w2 ⟨u,rfl,q2,b3⟩;have b02:=b2.trans (b3.mono (by omega));have hz2:RowAt w2 w.heap.size 63 z5:=RowAt.below hz1 b3 sz1;have sz2:=hz2.lt;have HR2:Hid (Calls Tryz.prog 189 #[u] w2 fun e w'=>e= .returned (.bool o)∧Q u w'∧Below w2.heap.size w2 w'):=HRT.out u w2 q2 b02;clear hz1 b3 b2 q2 HRT;go_wp2_with fail;refine HR2.out.mono ?_;rintro e w3 ⟨rfl,q3,b4⟩;have b03:=b02.trans (b4.mono (by omega));have hz3:RowAt w3 w.heap.size 63 z5:=RowAt.below hz2 b4 sz2;have sz3:=hz3.lt;clear hz2 b4 b02 HR2;cases o with
 |false=>
  have HRE2:Hid ((vl0,false)=R):=HRE.out;have hz:=hz3;clear hz3 q3 HVL;have c0:=hz.cell 0;have c1:=hz.cell 1;have c2:=hz.cell 2;have c3:=hz.cell 3;have c4:=hz.cell 4;have f0:=hz.frozen 0;have f1:=hz.frozen 1;have f2:=hz.frozen 2;have f3:=hz.frozen 3;have f4:=hz.frozen 4;simp at c0 c1 c2 c3 c4;clear hz;go_wp2;exact bodyPost_ret (v:= .tuple #[vlV 0 ⟨#[]⟩ nilS nilS nilS,.bool false]) (by simp [results,Tryz.results49,go_sem,c0,c1,c2,c3,c4]) rfl (by rw [←HRE2.out];exact val_zero (zcd b03 _ _ _ _ _ _ (Nat.le_refl _)))
 |true=>
  have HRE2:Hid ((res,true)=R):=HRE.out;have HV2:Hid (Calls Tryz.prog 78 #[.iface 172 u] w3 fun e w'=>∃vi vp vr,e= .returned (vlV res.kind res.text vi vp vr)∧OwnS w' (w.heap.size+1) vi res.items∧OwnP w' (w.heap.size+1) vp res.pairs∧OwnR w' (w.heap.size+1) vr res.ranks∧Below w3.heap.size w3 w'):=HVL.out u w3 q3;clear q3 HVL;go_wp2_with fail;refine HV2.out.mono ?_;rintro e w4 ⟨vi,vp,vr,rfl,oi,op,or,b5⟩;have b04:=b03.trans (b5.mono (by omega));have hz:RowAt w4 w.heap.size 63 z5:=RowAt.below hz3 b5 sz3;have c0:=hz.cell 0;have c1:=hz.cell 1;have c2:=hz.cell 2;have c3:=hz.cell 3;have c4:=hz.cell 4;have f0:=hz.frozen 0;have f1:=hz.frozen 1;have f2:=hz.frozen 2;have f3:=hz.frozen 3;have f4:=hz.frozen 4;simp at c0 c1 c2 c3 c4;obtain ⟨ai,ci,hvi⟩:=zad oi;obtain ⟨ap,cp,hvp⟩:=zad op;obtain ⟨ar,cr,hvr⟩:=zad or;have HE:Hid (∀W,(∀k,k≠w.heap.size→W.heap[k]?=w4.heap[k]?)→Below w.heap.size w W→ValEnd w (res,true) (.returned (.tuple #[vlV res.kind res.text vi vp vr,.bool true])) W):=fun W hk hb=>
   ⟨vi,vp,vr,rfl,own_up (zai oi fun g hg=>hk g (by have:=(own_lt oi hg).1;omega)) (by omega),own_up (zai op fun g hg=>hk g (by have:=(own_lt op hg).1;omega)) (by omega),own_up (zai or fun g hg=>hk g (by have:=(own_lt or hg).1;omega)) (by omega),hb⟩
  subst hvi hvp hvr;clear hz hz3 b5 b03 oi op or HV2;go_wp2;exact bodyPost_ret (v:= .tuple #[vlV res.kind res.text (.slice ai res.items.length ci) (.slice ap res.pairs.length cp) (.slice ar res.ranks.length cr),.bool true]) (by simp [results,Tryz.results49,go_sem,c0,c1,c2,c3,c4]) rfl (by rw [←HRE2.out];exact HE.out _ (fun k hk=>res5_block w4 _ _ _ _ _ _ k hk) (zcd b04 _ _ _ _ _ _ (Nat.le_refl _)))
theorem readV_items (s r:ByteArray) (b:UInt8) (ts:List ByteArray) (w:World) (h:0<s.size) (h0:∀hx,s[0]'hx=b) (hr:s.extract 1 s.size=r) (hm:TextsOk r ts) (Q:Value→World→Prop) (res:Vl) (o:Bool)
  (hc:∀v W,OwnS W (w.heap.size+1) v ts→Below w.heap.size w W→w.heap.size<W.heap.size→Calls Tryz.prog 77 #[.int .u8 b.toNat,v] W fun e w'=>∃u,e= .returned (.tuple #[.iface 173 u,.bool true])∧Q u w'∧Below W.heap.size W w')
  (hright:∀u W,Q u W→Below w.heap.size w W→Calls Tryz.prog 192 #[u] W fun e w'=>e= .returned (.bool o)∧Q u w'∧Below W.heap.size W w')
  (hval:∀u W,Q u W→Calls Tryz.prog 78 #[.iface 173 u] W fun e w'=>∃vi vp vr,e= .returned (vlV res.kind res.text vi vp vr)∧OwnS w' (w.heap.size+1) vi res.items∧OwnP w' (w.heap.size+1) vp res.pairs∧OwnR w' (w.heap.size+1) vr res.ranks∧Below W.heap.size W w'):
  Calls Tryz.prog 49 #[.string s] w (ValEnd w (if o then (res,true) else (vl0,false))):=by
 have HRT:Hid (∀u W,Q u W→Below w.heap.size w W→Calls Tryz.prog 192 #[u] W fun e w'=>e= .returned (.bool o)∧Q u w'∧Below W.heap.size W w'):=hright;have HVL:Hid (∀u W,Q u W→Calls Tryz.prog 78 #[.iface 173 u] W fun e w'=>∃vi vp vr,e= .returned (vlV res.kind res.text vi vp vr)∧OwnS w' (w.heap.size+1) vi res.items∧OwnP w' (w.heap.size+1) vp res.pairs∧OwnR w' (w.heap.size+1) vr res.ranks∧Below W.heap.size W w'):=hval;clear hright hval;obtain ⟨R,hR⟩:∃R,(if o then (res,true) else (vl0,false))=R:=⟨_,rfl⟩;have HRE:Hid ((if o then (res,true) else (vl0,false))=R):=hR;rw [hR];clear hR;have he:=empty_no h;have h1:(1:Int)≤(s.size:Int):=by omega
 have h0i:(0:Int)<(s.size:Int):=by omega
 have HM:Hid (TextsOk r ts):=hm;have HX:Hid (s.extract 1 s.size=r):=hr;have HZ:Hid (RowAt (w.alloc (.cells z5 63)) w.heap.size 63 z5):=RowAt.new w 63 z5;have HB:Hid (Below w.heap.size w (w.alloc (.cells z5 63))):=(Below.refl _ w).alloc (Nat.le_refl _) _;have hsz:(w.alloc (.cells z5 63)).heap.size=w.heap.size+1:=by simp
 have hb256:b.toNat<256:=b.toNat_lt;clear hm hr;go_enter Tryz.func49,Tryz.ntmps49;go_wp2_with fail;rw [HX.out];refine (HM.out _).mono ?_;rintro e w1 ⟨v,rfl,o1,b1⟩;have b2:Below w.heap.size w w1:=HB.out.trans (b1.mono (by simp));have hz1:RowAt w1 w.heap.size 63 z5:=RowAt.below HZ.out b1 (by simp);have sz1:w.heap.size<w1.heap.size:=hz1.lt;have hc2:=hc v w1 (own_up o1 (by simp)) b2 sz1;obtain ⟨va,vc,hv⟩:=zad o1;obtain ⟨n,hn⟩:∃n,ts.length=n:=⟨_,rfl⟩;rw [hn] at hv;subst hv;have HC2:Hid (Calls Tryz.prog 77 #[.int .u8 b.toNat,.slice va n vc] w1 fun e w'=>∃u,e= .returned (.tuple #[.iface 173 u,.bool true])∧Q u w'∧Below w1.heap.size w1 w'):=hc2;clear o1 b1 HZ HB hc hc2 HM;go_wp2_with fail;refine HC2.out.mono ?_;rintro e w2 ⟨u,rfl,q2,b3⟩;have b02:=b2.trans (b3.mono (by omega));have hz2:RowAt w2 w.heap.size 63 z5:=RowAt.below hz1 b3 sz1;have sz2:=hz2.lt;have HR2:Hid (Calls Tryz.prog 192 #[u] w2 fun e w'=>e= .returned (.bool o)∧Q u w'∧Below w2.heap.size w2 w'):=HRT.out u w2 q2 b02;clear hz1 b3 b2 q2 HRT;go_wp2_with fail;refine HR2.out.mono ?_;rintro e w3 ⟨rfl,q3,b4⟩;have b03:=b02.trans (b4.mono (by omega));have hz3:RowAt w3 w.heap.size 63 z5:=RowAt.below hz2 b4 sz2;have sz3:=hz3.lt;clear hz2 b4 b02 HR2;cases o with
 |false=>
  have HRE2:Hid ((vl0,false)=R):=HRE.out;have hz:=hz3;clear hz3 q3 HVL;have c0:=hz.cell 0;have c1:=hz.cell 1;have c2:=hz.cell 2;have c3:=hz.cell 3;have c4:=hz.cell 4;have f0:=hz.frozen 0;have f1:=hz.frozen 1;have f2:=hz.frozen 2;have f3:=hz.frozen 3;have f4:=hz.frozen 4;simp at c0 c1 c2 c3 c4;clear hz;go_wp2;exact bodyPost_ret (v:= .tuple #[vlV 0 ⟨#[]⟩ nilS nilS nilS,.bool false]) (by simp [results,Tryz.results49,go_sem,c0,c1,c2,c3,c4]) rfl (by rw [←HRE2.out];exact val_zero (zcd b03 _ _ _ _ _ _ (Nat.le_refl _)))
 |true=>
  have HRE2:Hid ((res,true)=R):=HRE.out;have HV2:Hid (Calls Tryz.prog 78 #[.iface 173 u] w3 fun e w'=>∃vi vp vr,e= .returned (vlV res.kind res.text vi vp vr)∧OwnS w' (w.heap.size+1) vi res.items∧OwnP w' (w.heap.size+1) vp res.pairs∧OwnR w' (w.heap.size+1) vr res.ranks∧Below w3.heap.size w3 w'):=HVL.out u w3 q3;clear q3 HVL;go_wp2_with fail;refine HV2.out.mono ?_;rintro e w4 ⟨vi,vp,vr,rfl,oi,op,or,b5⟩;have b04:=b03.trans (b5.mono (by omega));have hz:RowAt w4 w.heap.size 63 z5:=RowAt.below hz3 b5 sz3;have c0:=hz.cell 0;have c1:=hz.cell 1;have c2:=hz.cell 2;have c3:=hz.cell 3;have c4:=hz.cell 4;have f0:=hz.frozen 0;have f1:=hz.frozen 1;have f2:=hz.frozen 2;have f3:=hz.frozen 3;have f4:=hz.frozen 4;simp at c0 c1 c2 c3 c4;obtain ⟨ai,ci,hvi⟩:=zad oi;obtain ⟨ap,cp,hvp⟩:=zad op;obtain ⟨ar,cr,hvr⟩:=zad or;have HE:Hid (∀W,(∀k,k≠w.heap.size→W.heap[k]?=w4.heap[k]?)→Below w.heap.size w W→ValEnd w (res,true) (.returned (.tuple #[vlV res.kind res.text vi vp vr,.bool true])) W):=fun W hk hb=>
   ⟨vi,vp,vr,rfl,own_up (zai oi fun g hg=>hk g (by have:=(own_lt oi hg).1;omega)) (by omega),own_up (zai op fun g hg=>hk g (by have:=(own_lt op hg).1;omega)) (by omega),own_up (zai or fun g hg=>hk g (by have:=(own_lt or hg).1;omega)) (by omega),hb⟩
  subst hvi hvp hvr;clear hz hz3 b5 b03 oi op or HV2;go_wp2;exact bodyPost_ret (v:= .tuple #[vlV res.kind res.text (.slice ai res.items.length ci) (.slice ap res.pairs.length cp) (.slice ar res.ranks.length cr),.bool true]) (by simp [results,Tryz.results49,go_sem,c0,c1,c2,c3,c4]) rfl (by rw [←HRE2.out];exact HE.out _ (fun k hk=>res5_block w4 _ _ _ _ _ _ k hk) (zcd b04 _ _ _ _ _ _ (Nat.le_refl _)))
theorem readV_pairs (s r:ByteArray) (b:UInt8) (ts:List ByteArray) (w:World) (h:0<s.size) (h0:∀hx,s[0]'hx=b) (hr:s.extract 1 s.size=r) (hm:TextsOk r ts) (Q:Value→World→Prop) (res:Vl) (o:Bool)
  (hc:∀v W,OwnS W (w.heap.size+1) v ts→Below w.heap.size w W→w.heap.size<W.heap.size→Calls Tryz.prog 77 #[.int .u8 b.toNat,v] W fun e w'=>∃u,e= .returned (.tuple #[.iface 174 u,.bool true])∧Q u w'∧Below W.heap.size W w')
  (hright:∀u W,Q u W→Below w.heap.size w W→Calls Tryz.prog 195 #[u] W fun e w'=>e= .returned (.bool o)∧Q u w'∧Below W.heap.size W w')
  (hval:∀u W,Q u W→Calls Tryz.prog 78 #[.iface 174 u] W fun e w'=>∃vi vp vr,e= .returned (vlV res.kind res.text vi vp vr)∧OwnS w' (w.heap.size+1) vi res.items∧OwnP w' (w.heap.size+1) vp res.pairs∧OwnR w' (w.heap.size+1) vr res.ranks∧Below W.heap.size W w'):
  Calls Tryz.prog 49 #[.string s] w (ValEnd w (if o then (res,true) else (vl0,false))):=by
 have HRT:Hid (∀u W,Q u W→Below w.heap.size w W→Calls Tryz.prog 195 #[u] W fun e w'=>e= .returned (.bool o)∧Q u w'∧Below W.heap.size W w'):=hright;have HVL:Hid (∀u W,Q u W→Calls Tryz.prog 78 #[.iface 174 u] W fun e w'=>∃vi vp vr,e= .returned (vlV res.kind res.text vi vp vr)∧OwnS w' (w.heap.size+1) vi res.items∧OwnP w' (w.heap.size+1) vp res.pairs∧OwnR w' (w.heap.size+1) vr res.ranks∧Below W.heap.size W w'):=hval;clear hright hval;obtain ⟨R,hR⟩:∃R,(if o then (res,true) else (vl0,false))=R:=⟨_,rfl⟩;have HRE:Hid ((if o then (res,true) else (vl0,false))=R):=hR;rw [hR];clear hR;have he:=empty_no h;have h1:(1:Int)≤(s.size:Int):=by omega
 have h0i:(0:Int)<(s.size:Int):=by omega
 have HM:Hid (TextsOk r ts):=hm;have HX:Hid (s.extract 1 s.size=r):=hr;have HZ:Hid (RowAt (w.alloc (.cells z5 63)) w.heap.size 63 z5):=RowAt.new w 63 z5;have HB:Hid (Below w.heap.size w (w.alloc (.cells z5 63))):=(Below.refl _ w).alloc (Nat.le_refl _) _;have hsz:(w.alloc (.cells z5 63)).heap.size=w.heap.size+1:=by simp
 have hb256:b.toNat<256:=b.toNat_lt;clear hm hr;go_enter Tryz.func49,Tryz.ntmps49;go_wp2_with fail;rw [HX.out];refine (HM.out _).mono ?_;rintro e w1 ⟨v,rfl,o1,b1⟩;have b2:Below w.heap.size w w1:=HB.out.trans (b1.mono (by simp));have hz1:RowAt w1 w.heap.size 63 z5:=RowAt.below HZ.out b1 (by simp);have sz1:w.heap.size<w1.heap.size:=hz1.lt;have hc2:=hc v w1 (own_up o1 (by simp)) b2 sz1;obtain ⟨va,vc,hv⟩:=zad o1;obtain ⟨n,hn⟩:∃n,ts.length=n:=⟨_,rfl⟩;rw [hn] at hv;subst hv;have HC2:Hid (Calls Tryz.prog 77 #[.int .u8 b.toNat,.slice va n vc] w1 fun e w'=>∃u,e= .returned (.tuple #[.iface 174 u,.bool true])∧Q u w'∧Below w1.heap.size w1 w'):=hc2;clear o1 b1 HZ HB hc hc2 HM;go_wp2_with fail;refine HC2.out.mono ?_;rintro e w2 ⟨u,rfl,q2,b3⟩;have b02:=b2.trans (b3.mono (by omega));have hz2:RowAt w2 w.heap.size 63 z5:=RowAt.below hz1 b3 sz1;have sz2:=hz2.lt;have HR2:Hid (Calls Tryz.prog 195 #[u] w2 fun e w'=>e= .returned (.bool o)∧Q u w'∧Below w2.heap.size w2 w'):=HRT.out u w2 q2 b02;clear hz1 b3 b2 q2 HRT;go_wp2_with fail;refine HR2.out.mono ?_;rintro e w3 ⟨rfl,q3,b4⟩;have b03:=b02.trans (b4.mono (by omega));have hz3:RowAt w3 w.heap.size 63 z5:=RowAt.below hz2 b4 sz2;have sz3:=hz3.lt;clear hz2 b4 b02 HR2;cases o with
 |false=>
  have HRE2:Hid ((vl0,false)=R):=HRE.out;have hz:=hz3;clear hz3 q3 HVL;have c0:=hz.cell 0;have c1:=hz.cell 1;have c2:=hz.cell 2;have c3:=hz.cell 3;have c4:=hz.cell 4;have f0:=hz.frozen 0;have f1:=hz.frozen 1;have f2:=hz.frozen 2;have f3:=hz.frozen 3;have f4:=hz.frozen 4;simp at c0 c1 c2 c3 c4;clear hz;go_wp2;exact bodyPost_ret (v:= .tuple #[vlV 0 ⟨#[]⟩ nilS nilS nilS,.bool false]) (by simp [results,Tryz.results49,go_sem,c0,c1,c2,c3,c4]) rfl (by rw [←HRE2.out];exact val_zero (zcd b03 _ _ _ _ _ _ (Nat.le_refl _)))
 |true=>
  have HRE2:Hid ((res,true)=R):=HRE.out;have HV2:Hid (Calls Tryz.prog 78 #[.iface 174 u] w3 fun e w'=>∃vi vp vr,e= .returned (vlV res.kind res.text vi vp vr)∧OwnS w' (w.heap.size+1) vi res.items∧OwnP w' (w.heap.size+1) vp res.pairs∧OwnR w' (w.heap.size+1) vr res.ranks∧Below w3.heap.size w3 w'):=HVL.out u w3 q3;clear q3 HVL;go_wp2_with fail;refine HV2.out.mono ?_;rintro e w4 ⟨vi,vp,vr,rfl,oi,op,or,b5⟩;have b04:=b03.trans (b5.mono (by omega));have hz:RowAt w4 w.heap.size 63 z5:=RowAt.below hz3 b5 sz3;have c0:=hz.cell 0;have c1:=hz.cell 1;have c2:=hz.cell 2;have c3:=hz.cell 3;have c4:=hz.cell 4;have f0:=hz.frozen 0;have f1:=hz.frozen 1;have f2:=hz.frozen 2;have f3:=hz.frozen 3;have f4:=hz.frozen 4;simp at c0 c1 c2 c3 c4;obtain ⟨ai,ci,hvi⟩:=zad oi;obtain ⟨ap,cp,hvp⟩:=zad op;obtain ⟨ar,cr,hvr⟩:=zad or;have HE:Hid (∀W,(∀k,k≠w.heap.size→W.heap[k]?=w4.heap[k]?)→Below w.heap.size w W→ValEnd w (res,true) (.returned (.tuple #[vlV res.kind res.text vi vp vr,.bool true])) W):=fun W hk hb=>
   ⟨vi,vp,vr,rfl,own_up (zai oi fun g hg=>hk g (by have:=(own_lt oi hg).1;omega)) (by omega),own_up (zai op fun g hg=>hk g (by have:=(own_lt op hg).1;omega)) (by omega),own_up (zai or fun g hg=>hk g (by have:=(own_lt or hg).1;omega)) (by omega),hb⟩
  subst hvi hvp hvr;clear hz hz3 b5 b03 oi op or HV2;go_wp2;exact bodyPost_ret (v:= .tuple #[vlV res.kind res.text (.slice ai res.items.length ci) (.slice ap res.pairs.length cp) (.slice ar res.ranks.length cr),.bool true]) (by simp [results,Tryz.results49,go_sem,c0,c1,c2,c3,c4]) rfl (by rw [←HRE2.out];exact HE.out _ (fun k hk=>res5_block w4 _ _ _ _ _ _ k hk) (zcd b04 _ _ _ _ _ _ (Nat.le_refl _)))
theorem readV_ranks (s r:ByteArray) (b:UInt8) (ts:List ByteArray) (w:World) (h:0<s.size) (h0:∀hx,s[0]'hx=b) (hr:s.extract 1 s.size=r) (hm:TextsOk r ts) (Q:Value→World→Prop) (res:Vl) (o:Bool)
  (hc:∀v W,OwnS W (w.heap.size+1) v ts→Below w.heap.size w W→w.heap.size<W.heap.size→Calls Tryz.prog 77 #[.int .u8 b.toNat,v] W fun e w'=>∃u,e= .returned (.tuple #[.iface 175 u,.bool true])∧Q u w'∧Below W.heap.size W w')
  (hright:∀u W,Q u W→Below w.heap.size w W→Calls Tryz.prog 200 #[u] W fun e w'=>e= .returned (.bool o)∧Q u w'∧Below W.heap.size W w')
  (hval:∀u W,Q u W→Calls Tryz.prog 78 #[.iface 175 u] W fun e w'=>∃vi vp vr,e= .returned (vlV res.kind res.text vi vp vr)∧OwnS w' (w.heap.size+1) vi res.items∧OwnP w' (w.heap.size+1) vp res.pairs∧OwnR w' (w.heap.size+1) vr res.ranks∧Below W.heap.size W w'):
  Calls Tryz.prog 49 #[.string s] w (ValEnd w (if o then (res,true) else (vl0,false))):=by
 have HRT:Hid (∀u W,Q u W→Below w.heap.size w W→Calls Tryz.prog 200 #[u] W fun e w'=>e= .returned (.bool o)∧Q u w'∧Below W.heap.size W w'):=hright;have HVL:Hid (∀u W,Q u W→Calls Tryz.prog 78 #[.iface 175 u] W fun e w'=>∃vi vp vr,e= .returned (vlV res.kind res.text vi vp vr)∧OwnS w' (w.heap.size+1) vi res.items∧OwnP w' (w.heap.size+1) vp res.pairs∧OwnR w' (w.heap.size+1) vr res.ranks∧Below W.heap.size W w'):=hval;clear hright hval;obtain ⟨R,hR⟩:∃R,(if o then (res,true) else (vl0,false))=R:=⟨_,rfl⟩;have HRE:Hid ((if o then (res,true) else (vl0,false))=R):=hR;rw [hR];clear hR;have he:=empty_no h;have h1:(1:Int)≤(s.size:Int):=by omega
 have h0i:(0:Int)<(s.size:Int):=by omega
 have HM:Hid (TextsOk r ts):=hm;have HX:Hid (s.extract 1 s.size=r):=hr;have HZ:Hid (RowAt (w.alloc (.cells z5 63)) w.heap.size 63 z5):=RowAt.new w 63 z5;have HB:Hid (Below w.heap.size w (w.alloc (.cells z5 63))):=(Below.refl _ w).alloc (Nat.le_refl _) _;have hsz:(w.alloc (.cells z5 63)).heap.size=w.heap.size+1:=by simp
 have hb256:b.toNat<256:=b.toNat_lt;clear hm hr;go_enter Tryz.func49,Tryz.ntmps49;go_wp2_with fail;rw [HX.out];refine (HM.out _).mono ?_;rintro e w1 ⟨v,rfl,o1,b1⟩;have b2:Below w.heap.size w w1:=HB.out.trans (b1.mono (by simp));have hz1:RowAt w1 w.heap.size 63 z5:=RowAt.below HZ.out b1 (by simp);have sz1:w.heap.size<w1.heap.size:=hz1.lt;have hc2:=hc v w1 (own_up o1 (by simp)) b2 sz1;obtain ⟨va,vc,hv⟩:=zad o1;obtain ⟨n,hn⟩:∃n,ts.length=n:=⟨_,rfl⟩;rw [hn] at hv;subst hv;have HC2:Hid (Calls Tryz.prog 77 #[.int .u8 b.toNat,.slice va n vc] w1 fun e w'=>∃u,e= .returned (.tuple #[.iface 175 u,.bool true])∧Q u w'∧Below w1.heap.size w1 w'):=hc2;clear o1 b1 HZ HB hc hc2 HM;go_wp2_with fail;refine HC2.out.mono ?_;rintro e w2 ⟨u,rfl,q2,b3⟩;have b02:=b2.trans (b3.mono (by omega));have hz2:RowAt w2 w.heap.size 63 z5:=RowAt.below hz1 b3 sz1;have sz2:=hz2.lt;have HR2:Hid (Calls Tryz.prog 200 #[u] w2 fun e w'=>e= .returned (.bool o)∧Q u w'∧Below w2.heap.size w2 w'):=HRT.out u w2 q2 b02;clear hz1 b3 b2 q2 HRT;go_wp2_with fail;refine HR2.out.mono ?_;rintro e w3 ⟨rfl,q3,b4⟩;have b03:=b02.trans (b4.mono (by omega));have hz3:RowAt w3 w.heap.size 63 z5:=RowAt.below hz2 b4 sz2;have sz3:=hz3.lt;clear hz2 b4 b02 HR2;cases o with
 |false=>
  have HRE2:Hid ((vl0,false)=R):=HRE.out;have hz:=hz3;clear hz3 q3 HVL;have c0:=hz.cell 0;have c1:=hz.cell 1;have c2:=hz.cell 2;have c3:=hz.cell 3;have c4:=hz.cell 4;have f0:=hz.frozen 0;have f1:=hz.frozen 1;have f2:=hz.frozen 2;have f3:=hz.frozen 3;have f4:=hz.frozen 4;simp at c0 c1 c2 c3 c4;clear hz;go_wp2;exact bodyPost_ret (v:= .tuple #[vlV 0 ⟨#[]⟩ nilS nilS nilS,.bool false]) (by simp [results,Tryz.results49,go_sem,c0,c1,c2,c3,c4]) rfl (by rw [←HRE2.out];exact val_zero (zcd b03 _ _ _ _ _ _ (Nat.le_refl _)))
 |true=>
  have HRE2:Hid ((res,true)=R):=HRE.out;have HV2:Hid (Calls Tryz.prog 78 #[.iface 175 u] w3 fun e w'=>∃vi vp vr,e= .returned (vlV res.kind res.text vi vp vr)∧OwnS w' (w.heap.size+1) vi res.items∧OwnP w' (w.heap.size+1) vp res.pairs∧OwnR w' (w.heap.size+1) vr res.ranks∧Below w3.heap.size w3 w'):=HVL.out u w3 q3;clear q3 HVL;go_wp2_with fail;refine HV2.out.mono ?_;rintro e w4 ⟨vi,vp,vr,rfl,oi,op,or,b5⟩;have b04:=b03.trans (b5.mono (by omega));have hz:RowAt w4 w.heap.size 63 z5:=RowAt.below hz3 b5 sz3;have c0:=hz.cell 0;have c1:=hz.cell 1;have c2:=hz.cell 2;have c3:=hz.cell 3;have c4:=hz.cell 4;have f0:=hz.frozen 0;have f1:=hz.frozen 1;have f2:=hz.frozen 2;have f3:=hz.frozen 3;have f4:=hz.frozen 4;simp at c0 c1 c2 c3 c4;obtain ⟨ai,ci,hvi⟩:=zad oi;obtain ⟨ap,cp,hvp⟩:=zad op;obtain ⟨ar,cr,hvr⟩:=zad or;have HE:Hid (∀W,(∀k,k≠w.heap.size→W.heap[k]?=w4.heap[k]?)→Below w.heap.size w W→ValEnd w (res,true) (.returned (.tuple #[vlV res.kind res.text vi vp vr,.bool true])) W):=fun W hk hb=>
   ⟨vi,vp,vr,rfl,own_up (zai oi fun g hg=>hk g (by have:=(own_lt oi hg).1;omega)) (by omega),own_up (zai op fun g hg=>hk g (by have:=(own_lt op hg).1;omega)) (by omega),own_up (zai or fun g hg=>hk g (by have:=(own_lt or hg).1;omega)) (by omega),hb⟩
  subst hvi hvp hvr;clear hz hz3 b5 b03 oi op or HV2;go_wp2;exact bodyPost_ret (v:= .tuple #[vlV res.kind res.text (.slice ai res.items.length ci) (.slice ap res.pairs.length cp) (.slice ar res.ranks.length cr),.bool true]) (by simp [results,Tryz.results49,go_sem,c0,c1,c2,c3,c4]) rfl (by rw [←HRE2.out];exact HE.out _ (fun k hk=>res5_block w4 _ _ _ _ _ _ k hk) (zcd b04 _ _ _ _ _ _ (Nat.le_refl _)))
theorem one_of {s:ByteArray} {b:UInt8} {l:List UInt8} (h:s.data.toList=b::l):0<s.size∧(∀hx,s[0]'hx=b)∧s.extract 1 s.size=⟨l.toArray⟩∧l.length+1=s.size:=by
 have hl:s.data.toList.length=s.size:=(Lib.size_eq s).symm;rw [h,List.length_cons] at hl;refine ⟨by omega,?_,str_of _ _ (by rw [Lib.extract_to_end,h];rfl),hl⟩;obtain ⟨⟨d⟩⟩:=s;have h':d=b::l:=h;subst h';intro _;rfl
theorem texts_count {l:List UInt8} {ts:List ByteArray} {r:List UInt8} (h:zdi l=some (ts,r)):2*ts.length≤l.length:=by
 obtain ⟨h1,_,_⟩:=textsM_enc l.length l ts r (Nat.le_refl _) h;have aux:∀us:List ByteArray,2*us.length≤(encT us).length:=by
  intro us;induction us with
  |nil=>simp [encT]
  |cons u us ih=>
   rw [encT_cons,List.length_append,List.length_cons];have:2≤(oneT u).length:=by simp [oneT,twoT]
   omega
 have:=aux ts;have e:=congrArg List.length h1;rw [List.length_append] at e;omega
theorem pairUp_len:∀us:List ByteArray,2*(pairUp us).length≤us.length
 | []=>by simp [pairUp]
 | [_]=>by simp [pairUp]
 |_::_::l=>by have:=pairUp_len l;simp [pairUp];omega
theorem rankUp_len:∀us:List ByteArray,(rankUp us).length≤us.length
 | []=>by simp [rankUp]
 | [_]=>by simp [rankUp]
 |_::_::l=>by have:=rankUp_len l;simp [rankUp];omega
theorem dec_fit {l:List UInt8} {n:Int} (h:decM l=some n):inNum n=true:=by
 unfold decM at h;split at h
 ·split at h
  ·rename_i h2;injection h with h;rw [←h];exact h2.1
  ·cases h
 ·cases h
theorem rank_fit:∀(ts:List ByteArray) (rs:List Rk),rankDec ts=some rs→Kk.FitL rs
 | [],rs,h=>by simp [rankDec] at h;subst h;intro x hx;cases hx
 | [a],rs,h=>by simp [rankDec] at h
 |a::b::l,rs,h=>by
  simp only [rankDec] at h;split at h
  ·cases h
  ·rename_i n hn;cases hr:rankDec l with
   |none=>rw [hr] at h;cases h
   |some qs=>
    rw [hr] at h;simp only [Option.map_some] at h;injection h with h;subst h;intro x hx;rcases List.mem_cons.1 hx with rfl|hx
    ·have:=dec_fit hn;unfold inNum at this;simp at this;exact ⟨by show-9223372036854775808≤n;omega,by show n≤9223372036854775807;omega⟩
    ·exact rank_fit l qs hr x hx
theorem readV_any (s:ByteArray) (w:World) (hs:s.size≤1048576) (hr:Ready w):Calls Tryz.prog 49 #[.string s] w (ValEnd w (readI s.data.toList)):=by
 have h6:=hr.six;cases hl:s.data.toList with
 |nil=>
  have h0:s.size=0:=by rw [Lib.size_eq,hl];rfl
  exact readV_empty s w h0
 |cons b l=>
  obtain ⟨hpos,hb,hx,hlen⟩:=one_of hl;show Calls Tryz.prog 49 #[.string s] w (ValEnd w (readI1 b (zdi l)));have hT:=fun W=>textsIn_any ⟨l.toArray⟩ W (by rw [size_mk];omega);have el:(⟨l.toArray⟩:ByteArray).data.toList=l:=rfl;rw [el] at hT;cases hm:zdi l with
  |none=>
   rw [hm] at hT;exact readV_bad s _ w hpos hs hx hT
  |some q=>
   obtain ⟨ts,r⟩:=q;have hcnt:=texts_count hm;obtain ⟨_,_,hz⟩:=textsM_enc l.length l ts r (Nat.le_refl _) hm;have hz2:∀t∈ts,t.size≤1048576:=fun t ht=>by have:=hz t ht;omega
   rw [hm] at hT;cases r with
   |cons x r=>exact readV_bad s _ w hpos hs hx hT
   |nil=>
    have hok:TextsOk ⟨l.toArray⟩ ts:=hT;have hn:ts.length≤524288:=by omega
    show Calls Tryz.prog 49 #[.string s] w (ValEnd w (readC b ts));have rdy:∀W,Below w.heap.size w W→Ready W:=fun W hb=>hr.below (hb.mono h6);unfold readC;by_cases b1:b=49
    ·rw [if_pos b1];have e:b.toNat=49:=by rw [b1];rfl
     match ts,hok,hn,hz2 with
     | [t],hok,hn,hz2=>
      refine readV_text s _ b [t] w hpos hb hx hok (fun u W=>u= .string t) ⟨1,t,[],[],[]⟩ (shortB t) ?_ ?_ ?_
      ·intro v W ho _ _;rw [e];exact (content_text ho).mono fun e w' ⟨he,hw⟩=>⟨_,he,rfl,by rw [hw];exact Below.refl _ _⟩
      ·intro u W hu _;subst hu;exact (bare_right t W).mono fun e w' ⟨he,hw⟩=>⟨he,rfl,hw⟩
      ·intro u W hu;subst hu;exact (valueOf_text t W).mono fun e w' ⟨he,hw⟩=>⟨_,_,_,he,ownS_nil _ _,ownP_nil _ _,Kk.ownR_nil _ _,hw⟩
     | [],hok,hn,hz2=>
      refine readV_no s _ b [] w hpos hb hx hok fun v W ho _ _=>?_;rw [e];exact (content_text_no ho (by simp)).mono fun e w' ⟨he,hw⟩=>⟨_,he,by rw [hw];exact Below.refl _ _⟩
     |t::u::l,hok,hn,hz2=>
      refine readV_no s _ b (t::u::l) w hpos hb hx hok fun v W ho _ _=>?_;rw [e];exact (content_text_no ho (by simp)).mono fun e w' ⟨he,hw⟩=>⟨_,he,by rw [hw];exact Below.refl _ _⟩
    rw [if_neg b1];by_cases b2:b=50
    ·rw [if_pos b2];have e:b.toNat=50:=by rw [b2];rfl
     refine readV_items s _ b ts w hpos hb hx hok (fun u W=>OwnS W (w.heap.size+1) u ts) ⟨2,bz,ts,[],[]⟩ (itemsB ts) ?_ ?_ ?_
     ·intro v W ho _ _;obtain ⟨a,c,rfl⟩:=zad ho;rw [e];exact (content_items a _ c W).mono fun e w' ⟨he,hw⟩=>⟨_,he,by rw [hw];exact ho,by rw [hw];exact Below.refl _ _⟩
     ·intro u W ho _;exact (items_right ho (by omega)).mono fun e w' ⟨he,hw⟩=>⟨he,by rw [hw];exact ho,by rw [hw];exact Below.refl _ _⟩
     ·intro u W ho;obtain ⟨a,c,rfl⟩:=zad ho;exact (valueOf_items a _ c W).mono fun e w' ⟨he,hw⟩=>⟨_,_,_,he,zaf ho hw,ownP_nil _ _,Kk.ownR_nil _ _,hw⟩
    rw [if_neg b2];by_cases b3:b=51
    ·rw [if_pos b3];have e:b.toNat=51:=by rw [b3];rfl
     have hpl:=pairUp_len ts;by_cases hp:ts.length%2=0
     ·have hif:(if ts.length%2=0∧pairsB (pairUp ts)=true then ((⟨3,bz,[],pairUp ts,[]⟩:Vl),true) else (vl0,false))=if pairsB (pairUp ts)=true then ((⟨3,bz,[],pairUp ts,[]⟩:Vl),true) else (vl0,false):=by
       by_cases hq:pairsB (pairUp ts)=true
       ·rw [if_pos ⟨hp,hq⟩,if_pos hq]
       ·rw [if_neg (fun h=>hq h.2),if_neg hq]
      rw [hif];refine readV_pairs s _ b ts w hpos hb hx hok (fun u W=>OwnP W (w.heap.size+1) u (pairUp ts)) ⟨3,bz,[],pairUp ts,[]⟩ (pairsB (pairUp ts)) ?_ ?_ ?_
      ·intro v W ho hbW hlt;rw [e];refine (content_pairs ho hz2 (by omega)).mono fun e w' ⟨v',he,ho',hb'⟩=>⟨v',?_,?_,hb'⟩
       ·rw [he,decide_eq_true hp]
       ·exact own_up ho' (by omega)
      ·intro u W ho _;obtain ⟨a,A,c,rfl,hin⟩:=ownP_in ho;exact (pairs_right a A _ c _ W hin (by omega)).mono fun e w' ⟨he,hw⟩=>⟨he,zaf ho hw,hw⟩
      ·intro u W ho;obtain ⟨a,c,rfl⟩:=zad ho;exact (valueOf_pairs a _ c W).mono fun e w' ⟨he,hw⟩=>⟨_,_,_,he,ownS_nil _ _,zaf ho hw,Kk.ownR_nil _ _,hw⟩
     ·rw [if_neg (fun h=>hp h.1)];refine readV_no s _ b ts w hpos hb hx hok fun v W ho _ _=>?_;rw [e];refine (content_pairs ho hz2 (by omega)).mono fun e w' ⟨v',he,ho',hb'⟩=>⟨.iface 174 v',?_,hb'⟩;rw [he,decide_eq_false hp]
    rw [if_neg b3];by_cases b4:b=52
    ·rw [if_pos b4];have e:b.toNat=52:=by rw [b4];rfl
     cases hd:rankDec ts with
     |none=>
      refine readV_no s _ b ts w hpos hb hx hok fun v W ho hbW _=>?_;rw [e];have:=content_ranks ho hz2 (by omega) (rdy W hbW);rw [hd] at this;exact this.mono fun e w' ⟨v',he,_,hb'⟩=>⟨v',he,hb'⟩
     |some rs=>
      obtain ⟨hrs,_⟩:=rank_dec ts rs hd;have hfl:=rank_fit ts rs hd;have hrl:rs.length≤ts.length:=by rw [hrs];exact rankUp_len ts
      refine readV_ranks s _ b ts w hpos hb hx hok (fun u W=>OwnR W (w.heap.size+1) u rs) ⟨4,bz,[],[],rs⟩ (zeb rs) ?_ ?_ ?_
      ·intro v W ho hbW hlt;rw [e];have:=content_ranks ho hz2 (by omega) (rdy W hbW);rw [hd] at this;refine this.mono fun e w' ⟨v',he,hv',hb'⟩=>?_;obtain ⟨u,hu,hou⟩:=hv' rs rfl;subst hu;exact ⟨u,he,own_up hou (by omega),hb'⟩
      ·intro u W ho hbW;obtain ⟨a,A,c,hu,hin⟩:=Kk.ownR_any ho;subst hu;have hR:=rdy W hbW;have h6:=hR.six;exact (Kk.right_any a A 0 _ c rs W hin (by omega) hfl hR.tab (by omega)).mono fun e w' ⟨he,hw⟩=>⟨he,zaf ho hw,hw⟩
      ·intro u W ho;obtain ⟨a,c,hu⟩:=zad ho;subst hu;exact (valueOf_ranks a _ c W).mono fun e w' ⟨he,hw⟩=>⟨_,_,_,he,ownS_nil _ _,ownP_nil _ _,zaf ho hw,hw⟩
    ·rw [if_neg b4];refine readV_no s _ b ts w hpos hb hx hok fun v W ho _ _=>?_;have n1:b.toNat≠49:=fun h=>b1 (by apply UInt8.toNat_inj.1;rw [h];rfl);have n2:b.toNat≠50:=fun h=>b2 (by apply UInt8.toNat_inj.1;rw [h];rfl);have n3:b.toNat≠51:=fun h=>b3 (by apply UInt8.toNat_inj.1;rw [h];rfl);have n4:b.toNat≠52:=fun h=>b4 (by apply UInt8.toNat_inj.1;rw [h];rfl);exact (content_else b.toNat v W n1 n2 n3 n4).mono fun e w' ⟨he,hw⟩=>⟨_,he,by rw [hw];exact Below.refl _ _⟩
end Go.Proofs.YtjpeglkkkllagaaGreatDoor
