import Derived.Test.YtjpeglkkkllagaaGreatDoorHd
import Derived.Test.YtjpeglkkkllagaaGreatDoorRB
set_option maxHeartbeats 4000000
set_option maxRecDepth 100000
namespace Go.Proofs.YtjpeglkkkllagaaGreatDoor
open Go.RowKit Go.Sort
open Hp (Cl cl0 Fit getB isB heapB newM dataZ putOk putD putL putRc putRg overB packD packL FitH)
def layX (k:Ke):ByteArray:=⟨(zdj k.val).toArray⟩
abbrev LdT:=Option (ByteArray×List Cl×List En)
def laidF:ByteArray→List Cl→List En→List Ke→LdT
 |s,C,E,[]=>some (s,C,E)
 |s,C,E,k::ks=>if putOk s C (layX k)=true then laidF (putD s C (layX k)) (putL s C (layX k)) (E++ [⟨k.name,putRc s C (layX k),putRg s C (layX k),k.due⟩]) ks else none
def laidM (z:Int) (ks:List Ke):LdT:=if (newM z).2=true∧dbOkB ks=true then laidF (newM z).1 [] [] ks else none
def sumL (ks:List Ke):Nat:=(ks.map fun k=> (layX k).size).sum
def needM (ks:List Ke):Int:=if dbOkB ks=true then (sumL ks:Int) else-1
def ld (T:LdT):ByteArray:=match T with|none=>⟨#[]⟩|some q=>q.1
def lc (T:LdT):List Cl:=match T with|none=> []|some q=>q.2.1
def le (T:LdT):List En:=match T with|none=> []|some q=>q.2.2
theorem fetch_same {s s':ByteArray} {C C':List Cl}:∀E:List En,(∀e∈E,getB s' C' e.rc e.rg=getB s C e.rc e.rg)→fetchM s' C' E=fetchM s C E
 | [],_=>rfl
 |e::E,h=>by
  have h1:keyOf s' C' e=keyOf s C e:=by unfold keyOf;rw [h e (by simp)]
  have h2:=fetch_same E fun x hx=>h x (by simp [hx]);show (match keyOf s' C' e with|none=>none|some k=> (fetchM s' C' E).map (k::·))=(match keyOf s C e with|none=>none|some k=> (fetchM s C E).map (k::·));rw [h1,h2]
theorem fetch_got {s:ByteArray} {C:List Cl}:∀(E:List En) (ks:List Ke),fetchM s C E=some ks→∀e∈E,(getB s C e.rc e.rg).2=true
 | [],_,_,e,he=>by cases he
 |x::E,ks,h,e,he=>by
  have h':(match keyOf s C x with|none=>none|some k=> (fetchM s C E).map (k::·))=some ks:=h;cases hx:keyOf s C x with
  |none=>rw [hx] at h';cases h'
  |some k=>
   rw [hx] at h';rcases List.mem_cons.1 he with rfl|he
   ·unfold keyOf at hx;split at hx
    ·rename_i hc;exact hc.1
    ·cases hx
   ·cases hf:fetchM s C E with
    |none=>rw [hf] at h';cases h'
    |some ks'=>exact fetch_got E ks' hf e he
theorem got_cell {s:ByteArray} {C:List Cl} {rc rg:Int} (h:(getB s C rc rg).2=true):∃i:Nat,rc=i∧i<C.length∧(C.getD i cl0).gen=rg:=by
 unfold getB at h;split at h
 ·rename_i hc;obtain ⟨i,h1,h2,_,h4⟩:=Hp.is_in hc.2;exact ⟨i,h1,h2,h4⟩
 ·cases h
theorem put_keeps {s x:ByteArray} {C:List Cl} (h:putOk s C x=true) {rc rg:Int} (hg:(getB s C rc rg).2=true):getB (putD s C x) (putL s C x) rc rg=getB s C rc rg:=by
 obtain ⟨i,rfl,h2,h3⟩:=got_cell hg;subst h3;exact (Hp.put_law h).rest i h2 hg
theorem pack_keeps {s:ByteArray} {C:List Cl} (h:heapB s C=true) {rc rg:Int} (hg:(getB s C rc rg).2=true):getB (packD s C) (packL s C) rc rg=getB s C rc rg:=by
 obtain ⟨i,rfl,h2,h3⟩:=got_cell hg;subst h3;exact (Hp.pack_law h).rest i h2
structure LaidX (r:Int) (s:ByteArray) (C:List Cl) (E:List En) (ks:List Ke):Prop where
 right:heapB s C=true
 room:overB (fun x y=>x+y) s C=r-sumL ks
 got:fetchM s C E=some ks
 len:E.length=ks.length
 nm:∀e∈E,∃k∈ks,e.name=k.name
theorem sumL_snoc (ks:List Ke) (k:Ke):sumL (ks++ [k])=sumL ks+(layX k).size:=by
 unfold sumL;simp
theorem laidX_next {r:Int} {s:ByteArray} {C:List Cl} {E:List En} {ks:List Ke} {k:Ke} (h:LaidX r s C E ks) (hk:vokB k.val=true) (hp:putOk s C (layX k)=true):
  LaidX r (putD s C (layX k)) (putL s C (layX k)) (E++ [⟨k.name,putRc s C (layX k),putRg s C (layX k),k.due⟩]) (ks++ [k]):=by
 have P:=Hp.put_law hp;refine ⟨P.right,?_,?_,by simp [h.len],fun e he=>?_⟩
 ·rw [P.room,h.room,sumL_snoc];omega
 ·refine fetch_snoc _ _ _ k ?_ _ _ ?_
  ·have e1:(layX k).data.toList=zdj k.val:=rfl;rw [key_yes (by rw [P.got]) (by rw [P.got];show (readI (layX k).data.toList).2=true;rw [e1,back_right _ hk])];simp only [P.got];rw [e1,back_right _ hk]
  ·rw [fetch_same E fun e he=>put_keeps hp (fetch_got E ks h.got e he)];exact h.got
 ·rcases List.mem_append.1 he with h1|h1
  ·obtain ⟨y,hy,e1⟩:=h.nm e h1;exact ⟨y,List.mem_append_left _ hy,e1⟩
  ·rw [List.mem_singleton.1 h1];exact ⟨k,by simp,rfl⟩
theorem laidF_x {r:Int}:∀(ts ks:List Ke) {s:ByteArray} {C:List Cl} {E:List En} {q:ByteArray×List Cl×List En},LaidX r s C E ks→(∀k∈ts,vokB k.val=true)→laidF s C E ts=some q→LaidX r q.1 q.2.1 q.2.2 (ks++ts)
 | [],ks,s,C,E,q,h,_,hq=>by
  cases hq;rw [List.append_nil];exact h
 |k::ts,ks,s,C,E,q,h,hv,hq=>by
  rw [laidF] at hq;split at hq
  ·rename_i hp;have:=laidF_x ts (ks++ [k]) (laidX_next h (hv k (by simp)) hp) (fun x hx=>hv x (by simp [hx])) hq;simpa using this
  ·cases hq
theorem new_x {z:Int} (h:(newM z).2=true):LaidX z (newM z).1 [] [] []:=by
 unfold newM at*;split at h
 ·rename_i hz;rw [if_pos hz];have hs:=Hp.dataZ_size z.toNat;have hR:Hp.RightX (dataZ z.toNat) []:=⟨by omega,by simp,fun i hi=>by simp at hi,fun i j hi=>by simp at hi,fun p _ _=>Hp.byte_zero _ _⟩;have hB:=(Hp.heap_iff _ _).2 hR;refine ⟨hB,?_,rfl,rfl,fun e he=>by cases he⟩;rw [Hp.room_of hR,hs];simp [sumL,Hp.lens];omega
 ·cases h
theorem dbOk_vals {ks:List Ke} (h:dbOkB ks=true):∀k∈ks,vokB k.val=true:=fun k hk=>by
 have x:=(dbOk_key h).2 k hk;unfold keyB at x;simp only [Bool.and_eq_true] at x;exact x.2.1
structure LaidY (z:Int) (ks:List Ke) (s:ByteArray) (C:List Cl) (E:List En):Prop where
 ok:dbOkB ks=true
 right:heapB s C=true
 room:overB (fun x y=>x+y) s C=z-needM ks
 back:dbOfM s C E=some ks
 pright:heapB (packD s C) (packL s C)=true
 pback:dbOfM (packD s C) (packL s C) E=some ks
 len:E.length≤20
 names:∀e∈E,e.name.size≤200
 size:0≤z∧z≤3000
theorem heap_fit {s:ByteArray} {C:List Cl} (h:heapB s C=true):FitH s C:=by
 obtain ⟨h1,h2⟩:=Hp.heap_small h;refine ⟨by omega,by omega,fun i hi=>?_⟩;have:=Hp.heap_cells h i hi;unfold Hp.zce at this;simp only [Bool.and_eq_true,decide_eq_true_eq] at this;obtain ⟨⟨⟨⟨g,p⟩,l⟩,_⟩,_⟩:=this;unfold Fit;omega
theorem laid_yes {z:Int} {ks:List Ke} {s:ByteArray} {C:List Cl} {E:List En} (h:laidM z ks=some (s,C,E)):LaidY z ks s C E:=by
 unfold laidM at h;split at h
 ·rename_i hc;have X:=laidF_x ks [] (new_x hc.1) (dbOk_vals hc.2) h;rw [List.nil_append] at X;have hl:=(dbOk_key hc.2).1;have hE:E.length≤20:=by have:=X.len;simp only at this;omega
  have P:=Hp.pack_law X.right;have hb:=dbOf_some X.right hE X.got;rw [if_pos hc.2] at hb;have hg:fetchM (packD s C) (packL s C) E=some ks:=by
   rw [fetch_same E fun e he=>pack_keeps X.right (fetch_got E ks X.got e he)];exact X.got
  have hb2:=dbOf_some P.right hE hg;rw [if_pos hc.2] at hb2;refine ⟨hc.2,X.right,?_,hb,P.right,hb2,hE,fun e he=>?_,?_⟩;rotate_left
  ·obtain ⟨k,hk,e1⟩:=X.nm e he;have x:=(dbOk_key hc.2).2 k hk;unfold keyB at x;simp only [Bool.and_eq_true,decide_eq_true_eq] at x;rw [e1];exact x.1
  ·have hz:=hc.1;unfold newM at hz;split at hz
   ·rename_i h0;exact h0
   ·cases hz
  rw [show needM ks=(sumL ks:Int) by unfold needM;rw [if_pos hc.2]];exact X.room
 ·cases h
end Go.Proofs.YtjpeglkkkllagaaGreatDoor
namespace Go.Proofs.YtjpeglkkkllagaaGreatDoor
open Go.RowKit Go.Sort
theorem sum_next (L:List KV) (k:Nat) (h:k<L.length):sumL ((L.map KV.key).take (k+1))=sumL ((L.map KV.key).take k)+(layX (L.getD k kv0).key).size:=by
 rw [List.take_succ_eq_append_getElem (by simpa using h),sumL_snoc,List.getElem_map,List.getD_eq_getElem?_getD,List.getElem?_eq_getElem h];rfl
theorem sum_le (ks:List Ke):sumL ks≤21000*ks.length:=by
 induction ks with
 |nil=>exact Nat.le_refl _
 |cons k ks ih=>
  have h:=vb_size k.val;have e:sumL (k::ks)=(layX k).size+sumL ks:=rfl;have e2:(layX k).size≤21000:=h;rw [e,List.length_cons];omega
theorem need_bound (ks:List Ke) (h:ks.length≤1000):-1≤needM ks∧needM ks≤21000000:=by
 have:=sum_le ks;unfold needM;split<;>omega
theorem need_any (B:Nat) (v:Value) (L:List KV) (w:World) (h:DbOwn w B v L) (hf:FitsK (L.map KV.key)) (hl:L.length≤1000):
  Calls Tryz.prog 9 #[v] w fun e w'=>e= .returned (.int .i64 (needM (L.map KV.key)))∧Below w.heap.size w w':=by
 obtain ⟨a,A,c,ev,hdi,hda⟩:=h.din hf.fits;subst ev;have HD:Hid (Calls Tryz.prog 23 #[.slice a L.length c] w fun e w'=>e= .returned (.bool (dbOkB (L.map KV.key)))∧Below w.heap.size w w'):=specDbOkF_any a A L.length c L w hda hf.fits (by omega);have HKS:Hid (KsIn w a A L.length L):=hdi.ks;have HVB:Hid (∀W k,Below w.heap.size w W→k<L.length→Calls Tryz.prog 25 #[vlV (L.getD k kv0).key.val.kind (L.getD k kv0).key.val.text (L.getD k kv0).vi (L.getD k kv0).vp (L.getD k kv0).vr] W fun e w'=>e= .returned (.string (layX (L.getD k kv0).key))∧Below W.heap.size W w'):=fun W k hb hk=>by
  obtain ⟨B',hv⟩:=(hda.below hb).val k hk;exact (specBytes_any _ _ _ _ B' W hv (hf.fits k hk).fit).mono fun e w' he=>he
 have HNX:Hid (∀k,k<L.length→sumL ((L.map KV.key).take (k+1))=sumL ((L.map KV.key).take k)+(layX (L.getD k kv0).key).size∧(layX (L.getD k kv0).key).size≤21000):=fun k hk=>⟨sum_next L k hk,vb_size _⟩;have HLE:Hid (∀k,sumL ((L.map KV.key).take k)≤21000*k):=fun k=>Nat.le_trans (sum_le _) (Nat.mul_le_mul_left _ (by rw [List.length_take];omega));obtain ⟨N,hN⟩:∃N,needM (L.map KV.key)=N:=⟨_,rfl⟩;have HN1:Hid (dbOkB (L.map KV.key)=false→N= -1):=fun h=>by rw [←hN,needM,h];rfl
 have HN2:Hid (dbOkB (L.map KV.key)=true→N=(sumL ((L.map KV.key).take L.length):Nat)):=fun h=>by rw [←hN,needM,h,if_pos rfl,List.take_of_length_le (by simp)]
 rw [hN];clear h hf hdi hda hN;generalize dbOkB (L.map KV.key)=ok at*;generalize L.map KV.key=KK at*;obtain ⟨n,hn⟩:∃n,L.length=n:=⟨_,rfl⟩;rw [hn] at HD HKS HVB HNX HN2 hl;rw [hn];clear hn;cases ok with
 |false=>
  have e:=HN1.out rfl;subst e;go_enter Tryz.func9,Tryz.ntmps9;go_wp2_with fail;refine HD.out.mono ?_;rintro e w1 ⟨rfl,b1⟩;go_wp2;go_ret;exact ⟨rfl,b1⟩
 |true=>
  have HN3:Hid (N=(sumL (KK.take n):Nat)):=HN2.out rfl;clear HN1 HN2;go_enter Tryz.func9,Tryz.ntmps9;go_wp2_with fail;refine HD.out.mono ?_;rintro e w1 ⟨rfl,b1⟩;go_wp2_with fail;go_loopw [3,4] (fun t i wr=>∃(k z:Nat),k≤n∧i= .int .i64 k∧t= .int .i64 z∧Hid (z=sumL (KK.take k))∧z≤21000*k∧Below w.heap.size w wr) (fun _ i _=>n-(intOf i).toNat)
  case atStart=>exact ⟨0,0,by omega,rfl,rfl,rfl,by omega,b1⟩
  case round=>
   obtain ⟨k,z,hk,rfl,rfl,HZ,hz,bk⟩:=hrel;by_cases hlt:k<n
   ·have hx:=(HKS.out.below bk).cell k hlt;obtain rfl:=HKS.out.addr (by omega);have HC:=HVB.out wr k bk hlt;obtain ⟨hs1,hs⟩:=HNX.out k hlt;have HS1:Hid (sumL (KK.take (k+1))=sumL (KK.take k)+(layX (L.getD k kv0).key).size):=hs1;clear hs1;generalize L.getD k kv0=x at*;obtain ⟨⟨xn,⟨kd,tx,xi,xp,xr⟩,xd⟩,vi,vp,vr⟩:=x;obtain ⟨c0,c1,c2,c3,c4,c5,c6⟩:=hx;dsimp only at c0 c1 c2 c3 c4 c5 c6 HC hs HS1;generalize layX ⟨xn,⟨kd,tx,xi,xp,xr⟩,xd⟩=s at*;have HC2:Hid (Calls Tryz.prog 25 #[.agg #[.int .i64 kd,.string tx,vi,vp,vr]] wr fun e w'=>e= .returned (.string s)∧Below wr.heap.size wr w'):=HC;clear HC HVB HD HNX;go_wp2_with fail;refine HC2.out.mono ?_;rintro e w3 ⟨rfl,b3⟩;have b3w:Below w.heap.size w w3:=bk.trans (b3.mono bk.size);have HZ2:Hid (z+s.size=sumL (KK.take (k+1))):=by unfold Hid;rw [HS1.out,←HZ.out]
    clear HC2 c0 c1 c2 c3 c4 c5 c6 b3 HS1 HZ;go_wp2;go_roundw
    case rel=>exact ⟨k+1,z+s.size,by omega,by go_num,by go_num,HZ2,by omega,b3w⟩
    case measure=>simp [intOf];omega
   ·obtain rfl:k=n:=by omega
    have HF:Hid (Ending.returned (.int .i64 (z:Int))= .returned (.int .i64 N)):=by unfold Hid;rw [HN3.out,HZ.out]
    clear HZ HN3 HVB HD HNX HLE;go_wp2;go_ret;exact ⟨HF.out,bk⟩
end Go.Proofs.YtjpeglkkkllagaaGreatDoor
