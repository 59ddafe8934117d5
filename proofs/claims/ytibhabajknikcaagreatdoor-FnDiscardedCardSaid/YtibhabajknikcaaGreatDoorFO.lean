import Derived.Test.YtibhabajknikcaaGreatDoorFP
import Derived.Lib.SmallJoins
set_option maxHeartbeats 4000000
set_option maxRecDepth 100000
namespace Go.Proofs.YtibhabajknikcaaGreatDoor.Fd
open Go.RowKit Go.Sort
theorem line_fits {l p:List UInt8} (h:lineM l= .inr p):p.length+2≤l.length:=by
 unfold lineM at h;split at h
 ·rename_i hi;have:=index_fits l hi;injection h with h;rw [←h,List.length_take];omega
 ·split at h<;>cases h
theorem marked_fits {l:List UInt8} {mark:UInt8} {most:Int} {n u:Nat} (h:markedM l mark most= .inr (n,u)):3≤u∧u≤l.length:=by
 unfold markedM at h;split at h
 ·cases h
 ·cases h
 ·rename_i b r hl;have hf:=line_fits hl;split at h
  ·split at h
   ·injection h with h;injection h with h1 h2;rw [List.length_cons] at hf;omega
   ·cases h
  ·cases h
theorem some_fits {l t:List UInt8} {n:Nat} (h:someM l n= .inr t):t.length=n∧n+2≤l.length:=by
 unfold someM at h;split at h
 ·cases h
 ·split at h
  ·injection h with h;rw [←h,List.length_take];omega
  ·cases h
theorem bulks_fits:∀(n:Nat) (l:List UInt8) (ts:List (List UInt8)) (v:Nat),bulksM n l= .inr (ts,v)→v≤l.length∧∀t∈ts,t.length≤200
 |0,l,ts,v,h=>by
  rw [bulksM] at h;injection h with h;injection h with h1 h2;subst h1;exact ⟨by omega,fun t ht=>by cases ht⟩
 |n+1,l,ts,v,h=>by
  rw [bulksM] at h;split at h
  ·cases h
  ·rename_i m u hm;split at h
   ·cases h
   ·rename_i t hsm;split at h
    ·cases h
    ·rename_i ts' v' hb;injection h with h;injection h with h1 h2;subst h1;obtain ⟨ih1,ih2⟩:=bulks_fits n _ _ _ hb;obtain ⟨f1,f2⟩:=some_fits hsm;have hc:=marked_count hm;have hu:=marked_fits hm;rw [List.length_drop] at ih1 f2;refine ⟨by omega,fun x hx=>?_⟩;rcases List.mem_cons.1 hx with rfl|hx
     ·omega
     ·exact ih2 x hx
theorem request_fits {l:List UInt8} {ts:List (List UInt8)} {u:Nat} (h:requestM l= .inr (ts,u)):ts.length≤16∧(∀t∈ts,t.length≤200)∧0<u∧u≤l.length:=by
 have h16:=(requestM_args h).1;refine ⟨h16,?_⟩;unfold requestM at h;split at h
 ·cases h
 ·split at h
  ·unfold bulksAllM at h;split at h
   ·cases h
   ·rename_i n v hm;split at h
    ·cases h
    ·rename_i ts' v' hb;injection h with h;injection h with h1 h2;subst h1;obtain ⟨ih1,ih2⟩:=bulks_fits _ _ _ _ hb;have hu:=marked_fits hm;rw [List.length_drop] at ih1;exact ⟨ih2,by omega,by omega⟩
  ·unfold lineWords at h;split at h
   ·cases h
   ·split at h
    ·cases h
    ·split at h
     ·rename_i hok;injection h with h;injection h with h1 h2;subst h1;unfold okArgsL at hok;rw [Bool.and_eq_true,decide_eq_true_iff,List.all_eq_true] at hok;rename_i b r _ _ hneg;have:=indexByte_fits (b::r) 10 (by omega);exact ⟨fun t ht=>of_decide_eq_true (hok.2 t ht),by omega,by omega⟩
     ·cases h
end Go.Proofs.YtibhabajknikcaaGreatDoor.Fd
namespace Go.Proofs.YtibhabajknikcaaGreatDoor.Fd
open Go.RowKit Go.Sort
abbrev Reqs:=List (List (List UInt8))×List UInt8×Bool
def putReq (ts:List (List UInt8)) (q:Reqs):Reqs:=(if ts=[] then q.1 else ts::q.1,q.2)
def fedF:Nat→List UInt8→Reqs
 |0,l=> ([],l,true)
 |k+1,l=>match requestM l with
  | .inl c=>if c=2 then ([],[],false) else ([],l,true)
  | .inr (ts,u)=>putReq ts (fedF k (l.drop u))
theorem fedF_more:∀(k j:Nat) (l:List UInt8),l.length<k→l.length<j→fedF k l=fedF j l
 |0,_,_,h,_=>by omega
 |_,0,_,_,h=>by omega
 |k+1,j+1,l,h1,h2=>by
  rw [fedF,fedF];cases hm:requestM l with
  |inl c=>rfl
  |inr q=>
   obtain ⟨ts,u⟩:=q;obtain ⟨_,_,hu,hl⟩:=request_fits hm;simp only;rw [fedF_more k j (l.drop u) (by rw [List.length_drop];omega) (by rw [List.length_drop];omega)]
def fedM (l:List UInt8):Reqs:=fedF (l.length+1) l
theorem fed_step {l:List UInt8} {ts:List (List UInt8)} {u:Nat} (h:requestM l= .inr (ts,u)):fedM l=putReq ts (fedM (l.drop u)):=by
 obtain ⟨_,_,hu,hl⟩:=request_fits h;unfold fedM;rw [fedF,h];simp only;rw [fedF_more l.length ((l.drop u).length+1) (l.drop u) (by rw [List.length_drop];omega) (by omega)]
theorem fed_bad {l:List UInt8} (h:requestM l= .inl 2):fedM l=([],[],false):=by
 unfold fedM;rw [fedF,h];rfl
theorem fed_more {l:List UInt8} {c:Int} (h:requestM l= .inl c) (hc:c≠2):fedM l=([],l,true):=by
 unfold fedM;rw [fedF,h];simp [hc]
def addReqs (acc:List (List (List UInt8))) (q:Reqs):Reqs:=(acc++q.1,q.2)
theorem add_put (acc:List (List (List UInt8))) (ts:List (List UInt8)) (q:Reqs):addReqs acc (putReq ts q)=addReqs (acc++if ts=[] then [] else [ts]) q:=by
 unfold addReqs putReq;by_cases h:ts=[]
 ·simp [h]
 ·simp [h]
theorem add_nil (q:Reqs):addReqs [] q=q:=rfl
theorem fed_len (l:List UInt8):(fedM l).2.1.length≤l.length:=by
 induction hn:l.length using Nat.strongRecOn generalizing l with
 |_ n ih=>
  cases hm:requestM l with
  |inl c=>
   by_cases hc:c=2
   ·subst hc;rw [fed_bad hm];simp
   ·rw [fed_more hm hc];show l.length≤n;omega
  |inr q=>
   obtain ⟨ts,u⟩:=q;obtain ⟨_,_,hu,hl⟩:=request_fits hm;rw [fed_step hm];have:=ih (l.drop u).length (by rw [List.length_drop];omega) (l.drop u) rfl;rw [List.length_drop] at this;show (fedM (l.drop u)).2.1.length≤n;omega
theorem fed_reqs (l:List UInt8):(fedM l).1.length≤l.length∧∀ts∈(fedM l).1,ts≠ []∧ts.length≤16∧∀t∈ts,t.length≤200:=by
 induction hn:l.length using Nat.strongRecOn generalizing l with
 |_ n ih=>
  cases hm:requestM l with
  |inl c=>
   by_cases hc:c=2
   ·subst hc;rw [fed_bad hm];exact ⟨by simp,fun ts h=>by cases h⟩
   ·rw [fed_more hm hc];exact ⟨by simp,fun ts h=>by cases h⟩
  |inr q=>
   obtain ⟨ts,u⟩:=q;obtain ⟨h16,h200,hu,hl⟩:=request_fits hm;rw [fed_step hm];obtain ⟨i1,i2⟩:=ih (l.drop u).length (by rw [List.length_drop];omega) (l.drop u) rfl;rw [List.length_drop] at i1;unfold putReq;by_cases ht:ts=[]
   ·simp only [ht,if_true];exact ⟨by omega,i2⟩
   ·simp only [ht,if_false];refine ⟨(by rw [List.length_cons];omega),fun x hx=>?_⟩;rcases List.mem_cons.1 hx with rfl|hx
    ·exact ⟨ht,h16,h200⟩
    ·exact i2 x hx
end Go.Proofs.YtibhabajknikcaaGreatDoor.Fd
namespace Go.Proofs.YtibhabajknikcaaGreatDoor.Fd
open Go.RowKit Go.Sort
theorem info30:(Tryz.prog.info? 28).map (fun i=> (i.zero,i.size,i.bytes))=some (some (.slice none 0 0),1,24):=by kernel_rfl
def Rise (x y:Value):Prop:=∀a b,x.ownBlock=some a→y.ownBlock=some b→a<b
structure Own2 (W:World) (B:Nat) (v:Value) (xs:List Value) (rows:List (List Value)):Prop where
 outer:W.ownsRow B 28 1 v rows.length xs
 inner:∀(i:Nat) (r:List Value),rows[i]?=some r→∃x,xs[i]?=some x∧W.ownsRow B 9 1 x r.length r
 up:xs.Pairwise Rise
theorem own_kept {w w':World} {B n:Nat} {T:TypeId} {v:Value} {xs:List Value} (h:w.ownsRow B T 1 v n xs) (hb:Below w.heap.size w w'):w'.ownsRow B T 1 v n xs:=
 h.kept (row:=some w.heap.size) ⟨hb.os,hb.tape,hb.output,hb.size,fun k hk _=>hb.block k hk⟩ (.inr fun e=>by have:=(h.lt w.heap.size e).2;omega)
theorem Own2.below {W W':World} {B:Nat} {v:Value} {xs:List Value} {rows:List (List Value)} (h:Own2 W B v xs rows) (hb:Below W.heap.size W W'):Own2 W' B v xs rows:=
 ⟨own_kept h.outer hb,fun i r hr=>by obtain ⟨x,h1,h2⟩:=h.inner i r hr;exact ⟨x,h1,own_kept h2 hb⟩,h.up⟩
theorem Own2.base {W:World} {B B':Nat} {v:Value} {xs:List Value} {rows:List (List Value)} (h:Own2 W B v xs rows) (hB:B'≤B):Own2 W B' v xs rows:=
 ⟨Joins.ownsRow_le h.outer hB,fun i r hr=>by obtain ⟨x,h1,h2⟩:=h.inner i r hr;exact ⟨x,h1,Joins.ownsRow_le h2 hB⟩,h.up⟩
theorem own_type {W:World} {B n g:Nat} {T:TypeId} {v:Value} {xs:List Value} (h:W.ownsRow B T 1 v n xs) (hg:v.ownBlock=some g):∃C,W.heap[g]?=some (.cells C T (0,0)):=by
 obtain ⟨_,⟨rfl,_⟩|⟨g',cap,cur,rfl,_,hh,_⟩⟩:=h
 ·simp [Value.ownBlock] at hg
 ·have:g'=g:=by simpa [Value.ownBlock] using hg
  subst this;exact ⟨cur,hh⟩
theorem own_apart {W:World} {B B' n n':Nat} {v v':Value} {xs xs':List Value} (h:W.ownsRow B 28 1 v n xs) (h':W.ownsRow B' 9 1 v' n' xs') {g:Nat} (hg:v.ownBlock=some g):v'.ownBlock≠some g:=fun e=>by
 obtain ⟨C,h1⟩:=own_type h hg;obtain ⟨C',h2⟩:=own_type h' e;rw [h1] at h2;cases h2
theorem Own2.nil (W:World) (B:Nat):Own2 W B (.slice none 0 0) [] []:=⟨World.ownsRow_nil _ _ _ _,fun i r hr=>by simp at hr,List.Pairwise.nil⟩
theorem Own2.none (w:World) (B:Nat) (hB:B≤w.heap.size):Own2 (w.alloc (.cells #[] 28)) B (.slice (some ⟨w.heap.size,0,none⟩) 0 0) [] []:=
 ⟨⟨rfl,.inr ⟨w.heap.size,0, #[],rfl,hB,RowAt.new w 28 #[],by simp,by unfold maxLen;omega,by simp,by simp⟩⟩,fun i r hr=>by simp at hr,List.Pairwise.nil⟩
theorem Own2.blocks {W:World} {B:Nat} {v:Value} {xs:List Value} {rows:List (List Value)} (h:Own2 W B v xs rows):∀x∈xs,∀a,x.ownBlock=some a→B≤a∧a<W.heap.size:=fun x hx a ha=>by
 obtain ⟨i,hi⟩:=List.getElem?_of_mem hx;have hl:xs.length=rows.length:=by
  have:=h.outer.1;omega
 have hil:i<xs.length:=(List.getElem?_eq_some_iff.1 hi).1;obtain ⟨y,h1,h2⟩:=h.inner i rows[i] (List.getElem?_eq_getElem (by omega));rw [hi] at h1;cases h1;exact h2.lt a ha
theorem Own2.more {W W':World} {B M:Nat} {v v' x:Value} {xs:List Value} {rows:List (List Value)} {r:List Value} (h:Own2 W B v xs rows) (hx:W.ownsRow M 9 1 x r.length r) (hM:∀y∈xs,∀a,y.ownBlock=some a→a<M) (hBM:B≤M)
  (ho:W'.ownsRow B 28 1 v' (rows.length+1) (xs++ [x])) (hk:∀k,k<W.heap.size→some k≠v.ownBlock→W'.heap[k]?=W.heap[k]?) (hos:W'.os=W.os) (htp:W'.tape=W.tape) (hou:W'.output=W.output) (hsz:W.heap.size≤W'.heap.size):
  Own2 W' B v' (xs++ [x]) (rows++ [r]):=by
 have hl:xs.length=rows.length:=by have:=h.outer.1;omega
 have kp:∀{y:Value} {n:Nat} {ys:List Value} {B':Nat},W.ownsRow B' 9 1 y n ys→W'.ownsRow B' 9 1 y n ys:=fun {y n ys B'} hy=>
  hy.kept (row:=v.ownBlock) ⟨hos,htp,hou,hsz,fun k hk' hne=>hk k hk' hne⟩ (by
   cases hv:v.ownBlock with
   |none=>
    by_cases hyn:y.ownBlock=Option.none
    ·exact .inl hyn
    ·exact .inr hyn
   |some g=>exact .inr (own_apart h.outer hy hv))
 refine ⟨by rw [List.length_append,List.length_singleton];exact ho,fun i s hs=>?_,?_⟩
 ·by_cases hi:i<rows.length
  ·rw [List.getElem?_append_left hi] at hs;obtain ⟨y,h1,h2⟩:=h.inner i s hs;exact ⟨y,by rw [List.getElem?_append_left (by omega)];exact h1,kp h2⟩
  ·have hi2:i=rows.length:=by
    have:=(List.getElem?_eq_some_iff.1 hs).1;rw [List.length_append,List.length_singleton] at this;omega
   subst hi2;rw [List.getElem?_append_right (Nat.le_refl _),Nat.sub_self] at hs;cases hs;exact ⟨x,by rw [←hl,List.getElem?_append_right (Nat.le_refl _),Nat.sub_self];rfl,kp (Joins.ownsRow_le hx hBM)⟩
 ·rw [List.pairwise_append];refine ⟨h.up,List.pairwise_singleton _ _,fun y hy z hz=>?_⟩;rw [List.mem_singleton] at hz;subst hz;intro a b ha hb;have h1:=hM y hy a ha;have h2:=(hx.lt b hb).1;omega
end Go.Proofs.YtibhabajknikcaaGreatDoor.Fd
namespace Go.Proofs.YtibhabajknikcaaGreatDoor.Fd
open Go.RowKit Go.Sort
def rowsOf (L:List (List (List UInt8))):List (List Value):=L.map strVals
theorem rowsOf_len (L:List (List (List UInt8))):(rowsOf L).length=L.length:=by unfold rowsOf;rw [List.length_map]
theorem rowsOf_snoc (L:List (List (List UInt8))) (ts:List (List UInt8)):rowsOf (L++ [ts])=rowsOf L++ [strVals ts]:=by unfold rowsOf;rw [List.map_append];rfl
theorem strVals_len (ts:List (List UInt8)):(strVals ts).length=ts.length:=by unfold strVals;rw [List.length_map]
def FedEnd (w:World) (m:Reqs) (e:Ending) (w':World):Prop:=
 ∃v xs,e= .returned (.tuple #[v,.string ⟨m.2.1.toArray⟩,.bool m.2.2])∧Own2 w' w.heap.size v xs (rowsOf m.1)∧Below w.heap.size w w'
def strLen:Value→Nat
 | .string s=>s.size
 |_=>0
theorem slice_any {w:World} {B n:Nat} {v:Value} {xs:List Value} {T:TypeId} (h:w.ownsRow B T 1 v n xs):∃a c,v= .slice a n c:=by
 rcases Joins.ownsRow_forms h with ⟨rfl,rfl⟩|⟨A,c,rfl⟩
 ·exact ⟨none,0,rfl⟩
 ·exact ⟨some ⟨A,0,none⟩,c,rfl⟩
theorem drop_str (t:ByteArray) (u:Nat) (_hu:u≤t.size):(t.extract u t.size).data.toList=t.data.toList.drop u:=by
 rw [Lib.extract_data,List.take_of_length_le];rw [List.length_drop,Lib.size_eq];omega
theorem specFed (a b:ByteArray) (w:World) (hs:a.size+b.size≤2097152):
  Calls Tryz.prog 35 #[.string a,.string b] w (FedEnd w (fedM (a.data.toList++b.data.toList))):=by
 obtain ⟨i0,hi,hz0,hz1,hz2⟩:=info_parts info30;have hd:(a++b).data.toList=a.data.toList++b.data.toList:=by simp
 have hsz:(a++b).size=a.size+b.size:=ByteArray.size_append;rw [←hd];obtain ⟨l,hl⟩:∃l,(a++b).data.toList=l:=⟨_,rfl⟩;rw [hl];have HL:Hid ((a++b).data.toList=l):=hl;clear hl hd;have HO:Hid _:=Own2.none w w.heap.size (Nat.le_refl _);have HB:Hid (Below w.heap.size w (w.alloc (.cells #[] 28))):=(Below.refl _ w).alloc (Nat.le_refl _) _;go_enter Tryz.func35,Tryz.ntmps35;go_wp2_with fail;generalize a++b=t0 at*;have hs0:t0.size≤2097152:=by omega
 clear hsz hs;go_loopw [7,8] (fun sv ov wr=>∃(t:ByteArray) (acc:List (List (List UInt8))) (xs:List Value),sv= .string t∧acc.length+t.size≤t0.size∧Own2 wr w.heap.size ov xs (rowsOf acc)∧Hid (fedM l=addReqs acc (fedM t.data.toList))∧Below w.heap.size w wr) (fun sv _ _=>strLen sv)
 case atStart=>exact ⟨t0,[],[],rfl,by simp,HO.out,by unfold Hid;rw [HL.out,add_nil],HB.out⟩
 case round=>
  obtain ⟨t,acc,xs,rfl,hlen,ho,hf,bk⟩:=hrel;have sk:=bk.size;have HSP:=spReq t wr (by omega);clear HO HB HL;cases hm:requestM t.data.toList with
  |inl c=>
   rw [hm] at HSP;have HSP':Hid (Calls Tryz.prog 70 #[.string t] wr fun e w'=>e= .returned (.tuple #[.slice none 0 0,.int .i64 0,.int .i64 c])∧Below wr.heap.size wr w'):=HSP;obtain ⟨o1,o2,hov⟩:=slice_any ho.outer;subst hov;rcases requestM_codes hm with rfl|rfl
   ·have HF:Hid (fedM l=(acc,t.data.toList,true)):=by
     unfold Hid;rw [hf.out,fed_more hm (by omega)];simp [addReqs]
    clear HSP hm hf;go_wp2_with fail;refine HSP'.out.mono ?_;rintro e w1 ⟨rfl,b1⟩;have H2:Hid _:=ho.below b1;have bb:=bk.trans (b1.mono sk);clear ho b1 HSP';go_wp2;go_ret3;show FedEnd w (fedM l) _ _;rw [HF.out];exact ⟨_,xs,rfl,H2.out,bb⟩
   ·have HF:Hid (fedM l=(acc,[],false)):=by
     unfold Hid;rw [hf.out,fed_bad hm];simp [addReqs]
    clear HSP hm hf;go_wp2_with fail;refine HSP'.out.mono ?_;rintro e w1 ⟨rfl,b1⟩;have H2:Hid _:=ho.below b1;have bb:=bk.trans (b1.mono sk);clear ho b1 HSP';go_wp2;go_ret3;show FedEnd w (fedM l) _ _;rw [HF.out];exact ⟨_,xs,rfl,H2.out,bb⟩
  |inr p=>
   obtain ⟨ts,u⟩:=p;rw [hm] at HSP;obtain ⟨h16,_,hu0,hu1⟩:=request_fits hm;rw [←Lib.size_eq] at hu1;have HSP':Hid (Calls Tryz.prog 70 #[.string t] wr fun e w'=>∃v,e= .returned (.tuple #[v,.int .i64 u,.int .i64 0])∧w'.ownsRow wr.heap.size 9 1 v ts.length (strVals ts)∧Below wr.heap.size wr w'):=HSP;have HF:Hid (fedM l=addReqs (acc++if ts=[] then [] else [ts]) (fedM (t.extract u t.size).data.toList)):=by
    unfold Hid;rw [hf.out,fed_step hm,add_put,drop_str t u hu1]
   have HX:Hid (∀y∈xs,∀a,y.ownBlock=some a→a<wr.heap.size):=fun y hy a ha=> (ho.blocks y hy a ha).2;have hui:(u:Int)≤(t.size:Int):=by omega
   have hsz1:(t.extract u t.size).size=t.size-u:=by simp
   clear HSP hm hf;go_wp2_with fail;refine HSP'.out.mono ?_;rintro e w1 ⟨v1,rfl,o1,b1⟩;obtain ⟨a1,c1,rfl⟩:=slice_any o1;have H2:=ho.below b1;have bb:=bk.trans (b1.mono sk);have s1:=bb.size;clear ho b1 HSP';by_cases ht:ts=[]
   ·subst ht;have HF':Hid (fedM l=addReqs acc (fedM (t.extract u t.size).data.toList)):=by
     have:=HF.out;rwa [if_pos rfl,List.append_nil] at this
    have HH:Hid _:=H2;clear HF H2 o1;go_wp2;go_roundw
    case rel=>exact ⟨_,acc,xs,rfl,by rw [hsz1];omega,HH.out,HF',bb⟩
    case measure=>simp [strLen];omega
   ·have HF':Hid (fedM l=addReqs (acc++ [ts]) (fedM (t.extract u t.size).data.toList)):=by
     have:=HF.out;rwa [if_neg ht] at this
    have hpos:0<ts.length:=List.length_pos_iff.2 ht;have hdp:(0:Int)<(ts.length:Int):=by omega
    have hrl:(rowsOf acc).length≤2097152:=by rw [rowsOf_len];omega
    clear HF ht;go_wp2_with (at_builtin;refine wpList_append_own _ rfl _ _ 25 rfl w.heap.size 28 i0 _ 1 24 Tryz.underlying25 hi hz0 hz1 hz2 rfl (by decide) _ _ _ rfl (H2.outer.alloc _) ⟨w1.heap.size,0,none⟩ 1 1 [.slice a1 ts.length c1] rfl rfl ?c1 ?c2 ?c3 ?c4 ?c5 ?_)
    case c1=>exact cell_one_new _ _ _
    case c2=>intro y hy;simp at hy;subst hy;rfl
    case c3=>unfold maxLen;omega
    case c4=>omega
    case c5=>simp;omega
    intro v' w5 hown' hgrow _;have hold:∀k,k<w1.heap.size→some k≠Value.ownBlock u8→w5.heap[k]?=w1.heap[k]?:=fun k hk hne=>by
     rw [hgrow.block k (by simp;omega) hne];exact Below.heap_alloc _ _ _ hk
    have hsz5:w1.heap.size≤w5.heap.size:=by have:=hgrow.size;simp at this;omega
    have H5:Hid (Own2 w5 w.heap.size v' (xs++ [.slice a1 ts.length c1]) (rowsOf (acc++ [ts]))):=by
     unfold Hid;rw [rowsOf_snoc];exact H2.more (by rw [strVals_len];exact o1) HX.out sk hown' hold hgrow.os hgrow.tape hgrow.output hsz5
    have B5:Hid (Below w.heap.size w w5):=⟨hgrow.os.trans bb.os,hgrow.tape.trans bb.tape,hgrow.output.trans bb.output,by omega,fun k hk=> (hold k (by omega) (fun e=>by have:=(H2.outer.lt k e.symm).1;omega)).trans (bb.block k hk)⟩;obtain ⟨a5,c5,hv5⟩:=slice_any H5.out.outer;subst hv5;clear hown' hgrow hold H2 o1 HX;go_wp2;go_roundw
    case rel=>exact ⟨_,acc++ [ts],_,rfl,by rw [hsz1,List.length_append,List.length_singleton];omega,H5.out,HF',B5.out⟩
    case measure=>simp [strLen];omega
end Go.Proofs.YtibhabajknikcaaGreatDoor.Fd
