import Derived.Test.YtokafonppgppdaaGreatDoorC9
import Derived.Test.YtokafonppgppdaaGreatDoorM11
set_option maxHeartbeats 2000000
set_option maxRecDepth 100000
namespace Go.Proofs.YtokafonppgppdaaGreatDoor.Rb
open Tryz
open Go.RowKit
theorem zfw (s:ByteArray) (w:World):Calls prog 230 #[.string s] w (zci w (zau s)):=by
 have HE:Hid (zci w (zau s) _ _):=zfb w 1 0 s;go_enter func230,ntmps230;go_wp2;go_ret;exact HE.out
theorem zd3 (s:ByteArray) (w:World):Calls prog 231 #[.string s] w (zci w (zax s)):=by
 have HE:Hid (zci w (zax s) _ _):=zfb w 4 0 s;go_enter func231,ntmps231;go_wp2;go_ret;exact HE.out
theorem zdq (n:Int) (w:World):Calls prog 237 #[.int .i64 n] w (zci w (zam n)):=by
 have HE:Hid (zci w (zam n) _ _):=zfb w 3 n ⟨#[]⟩;go_enter func237,ntmps237;go_wp2;go_ret;exact HE.out
theorem za4 (n:Int) (w:World):Calls prog 233 #[.int .i64 n] w (zci w (zam n)):=by
 have HE:Hid (zci w (zam n) _ _):=zfb w 3 n ⟨#[]⟩;go_enter func233,ntmps233;go_wp2;go_ret;exact HE.out
theorem zev (w:World):Calls prog 242 #[] w (zci w zbm):=by
 have HE:Hid (zci w zbm _ _):=zfb w 5 0 ⟨#[]⟩;go_enter func242,ntmps242;go_wp2;go_ret;exact HE.out
end Go.Proofs.YtokafonppgppdaaGreatDoor.Rb
namespace Go.Proofs.YtokafonppgppdaaGreatDoor.Ri
open Tryz
open Go.RowKit Go.Maps
variable {L:List KV} {s:ByteArray} {w:World} {b n:Nat}
def zao (L:List KV) (s:ByteArray):Option KV:=L.find? fun x=>decide (x.key.name=s)
def zbb (L:List KV) (s:ByteArray):List KV:=L.filter fun x=>!decide (x.key.name=s)
def zlj (y:KV):List KV->List KV
 | []=> [y]
 |x::r=>if bytesBefore y.key.name.data.toList x.key.name.data.toList then y::x::r else x::zlj y r
def zhd (L:List KV) (y:KV):List KV:=zlj y (zbb L y.key.name)
theorem zso (x:KV) (s:ByteArray):(zj0 x).1.sameKey (.string s.data.toList)=decide (x.key.name=s):=by
 show (x.key.name.data.toList==s.data.toList)=_;rw [Bool.eq_iff_iff,beq_iff_eq,decide_eq_true_iff];exact ⟨fun e=>ByteArray.ext (Array.toList_inj.1 e),fun e=>by rw [e]⟩
theorem zng (s:ByteArray):∀L:List KV,(L.map zj0).find? (fun p=>p.1.sameKey (.string s.data.toList))=(zao L s).map zj0
 | []=>rfl
 |x::r=>by
  unfold zao;rw [List.map_cons,List.find?_cons,List.find?_cons,zso];cases decide (x.key.name=s) with
  |true=>rfl
  |false=>exact zng s r
section
variable (L:List KV) (s:ByteArray)
theorem zoj (z:DataW Value):(za3 L).atKey (.string s.data.toList) z=match zao L s with|some x=> .held (kvA x)|none=>z:=by
 unfold za3 DataW.atKey;simp only [zng s L];cases zao L s<;>rfl
theorem ybl:has (za3 L) (.string s.data.toList)=(zao L s).isSome:=by
 unfold za3 zao;rw [has_eq,List.any_map,List.isSome_find?];exact congrArg (fun f=>L.any f) (funext fun x=>zso x s)
end
theorem zuk (s:ByteArray) (L:List KV):(L.map zj0).filter (fun p=>!p.1.sameKey (.string s.data.toList))=(zbb L s).map zj0:=by
 unfold zbb;rw [List.filter_map];exact congrArg (fun f=> (L.filter f).map zj0) (funext fun x=>by rw [<-zso x s];rfl)
theorem zhb (L:List KV) (s:ByteArray):(za3 L).del (.string s.data.toList)=za3 (zbb L s):=
 congrArg DataW.map (zuk s L)
theorem ybf (y:KV):∀L:List KV,DataW.insert (zj0 y) (L.map zj0)=(zlj y L).map zj0
 | []=>rfl
 |x::r=>by
  show (if bytesBefore y.key.name.data.toList x.key.name.data.toList=true then zj0 y::zj0 x::r.map zj0 else zj0 x::DataW.insert (zj0 y) (r.map zj0))=(if bytesBefore y.key.name.data.toList x.key.name.data.toList=true then y::x::r else x::zlj y r).map zj0;rw [ybf y r];split<;>rfl
theorem yad (L:List KV) (y:KV):(za3 L).put (.string y.key.name.data.toList) (.held (kvA y))=za3 (zhd L y):=by
 show DataW.map (DataW.insert (zj0 y) ((L.map zj0).filter fun p=>!p.1.sameKey (.string y.key.name.data.toList)))=_;rw [zuk,ybf];rfl
theorem zb0 (L:List KV) (s:ByteArray):(zbb L s).map KV.key=zbl (L.map KV.key) s:=by
 unfold zbb zbl;rw [List.filter_map];rfl
def zi6 (k:Ke):List Ke->List Ke
 | []=> [k]
 |x::r=>if bytesBefore k.name.data.toList x.name.data.toList then k::x::r else x::zi6 k r
theorem zn7 (y:KV):∀L:List KV,(zlj y L).map KV.key=zi6 y.key (L.map KV.key)
 | []=>rfl
 |x::r=>by
  show (if bytesBefore y.key.name.data.toList x.key.name.data.toList=true then y::x::r else x::zlj y r).map KV.key=(if bytesBefore y.key.name.data.toList x.key.name.data.toList=true then y.key::x.key::r.map KV.key else x.key::zi6 y.key (r.map KV.key));rw [<-zn7 y r];split<;>rfl
theorem zog (k:Ke):∀(ks acc:List Ke),ks.foldl (zb4 k) (acc,true)=(acc++zbl ks k.name,true)
 | [],acc=>by simp [zbl]
 |x::r,acc=>by
  rw [List.foldl_cons];by_cases e:x.name=k.name
  ·rw [show zb4 k (acc,true) x=(acc,true) by simp [zb4,e],zog k r];simp [zbl,e]
  ·rw [show zb4 k (acc,true) x=(acc++ [x],true) by simp [zb4,e],zog k r];simp [zbl,e]
theorem zs8 (x k:Ke):geB x k=!bytesBefore x.name.data.toList k.name.data.toList:=by
 unfold geB;rw [zfd,ByteArray.toList_eq,ByteArray.toList_eq]
theorem zxs (k:Ke):∀ks:List Ke,(∀x∈ks,bytesBefore k.name.data.toList x.name.data.toList=true)->zi6 k ks=k::ks
 | [],_=>rfl
 |x::r,h=>by
  show (if _ then _ else _)=_;rw [if_pos (h x (by simp))]
theorem zoz (k:Ke):∀(ks acc:List Ke),UpK ks->(if (ks.foldl (zb4 k) (acc,false)).2=true then (ks.foldl (zb4 k) (acc,false)).1 else (ks.foldl (zb4 k) (acc,false)).1++ [k])=acc++zi6 k (zbl ks k.name)
 | [],acc,_=>rfl
 |x::r,acc,hu=>by
  have hu':=List.pairwise_cons.1 hu;rw [List.foldl_cons];by_cases e:x.name=k.name
  ·have g:geB x k=true:=by rw [zs8,e,WideAt.bytes_irrefl];rfl
   rw [show zb4 k (acc,false) x=(acc++ [k],true) by simp [zb4,e,g],zog];have hg:zbl (x::r) k.name=zbl r k.name:=by simp [zbl,e]
   rw [hg,zxs k _ (fun y hy=>by
    have:=hu'.1 y (List.mem_filter.1 hy).1;rwa [e] at this)]
   simp
  ·have hg:zbl (x::r) k.name=x::zbl r k.name:=by simp [zbl,e]
   rw [hg];cases hb:bytesBefore x.name.data.toList k.name.data.toList with
   |false=>
    have g:geB x k=true:=by rw [zs8,hb];rfl
    have hk:bytesBefore k.name.data.toList x.name.data.toList=true:=by
     rcases WideAt.bytes_total _ _ (fun e'=>e (ByteArray.ext (Array.toList_inj.1 e'))) with h|h
     ·rw [hb] at h;cases h
     ·exact h
    rw [show zb4 k (acc,false) x=(acc++ [k]++ [x],true) by simp [zb4,e,g],zog];show _=acc++(if _ then _ else _);rw [if_pos hk];simp
   |true=>
    have g:geB x k=false:=by rw [zs8,hb];rfl
    rw [show zb4 k (acc,false) x=(acc++ [x],false) by simp [zb4,e,g],zoz k r _ hu'.2];show _=acc++(if _ then _ else _);rw [if_neg (by rw [zj2 hb];simp)];simp
theorem zdv (L:List KV) (y:KV) (hu:UpK (L.map KV.key)):(zhd L y).map KV.key=zaq (L.map KV.key) y.key:=by
 unfold zhd zaq stS;rw [zn7,zb0,zoz y.key _ [] hu];rfl
theorem zcp (s:ByteArray) (hu:UpK (L.map KV.key)):UpK ((zbb L s).map KV.key):=by
 rw [zb0];exact hu.sublist List.filter_sublist
theorem zo8 {k z:Ke}:∀{ks:List Ke},z∈zi6 k ks->z=k\/z∈ks
 | [],h=>Or.inl (by simpa [zi6] using h)
 |x::r,h=>by
  unfold zi6 at h;split at h
  ·rcases List.mem_cons.1 h with h|h
   ·exact Or.inl h
   ·exact Or.inr h
  ·rcases List.mem_cons.1 h with h|h
   ·exact Or.inr (by rw [h];simp)
   ·rcases zo8 h with h|h
    ·exact Or.inl h
    ·exact Or.inr (by simp [h])
theorem ztt (k:Ke):∀ks:List Ke,UpK ks->(∀x∈ks,x.name≠k.name)->UpK (zi6 k ks)
 | [],_,_=>by simp [zi6,UpK]
 |x::r,hu,hn=>by
  have hu':=List.pairwise_cons.1 hu;unfold zi6;split
  ·rename_i h;refine List.pairwise_cons.2 ⟨fun z hz=>?_,hu⟩;rcases List.mem_cons.1 hz with rfl|hz
   ·exact h
   ·exact WideShapes.bytes_trans _ _ _ h (hu'.1 z hz)
  ·rename_i h;refine List.pairwise_cons.2 ⟨fun z hz=>?_,ztt k r hu'.2 (fun z hz=>hn z (by simp [hz]))⟩;rcases zo8 hz with rfl|hz
   ·rcases WideAt.bytes_total _ _ (fun e'=>hn x (by simp) (ByteArray.ext (Array.toList_inj.1 e'))) with h'|h'
    ·exact h'
    ·exact absurd h' h
   ·exact hu'.1 z hz
theorem zez (y:KV) (hu:UpK (L.map KV.key)):UpK ((zhd L y).map KV.key):=by
 unfold zhd;rw [zn7];refine ztt _ _ (zcp _ hu) fun x hx=>?_;rw [zb0] at hx;have:=(List.mem_filter.1 hx).2;simpa using this
theorem znd (h:zao L s=none) (at0:Nat):zd1 (L.map KV.key) s at0= -1:=by
 induction L generalizing at0 with
 |nil=>rfl
 |cons x r ih=>
  unfold zao at h;rw [List.find?_cons] at h;by_cases e:x.key.name=s
  ·rw [Qe e] at h;cases h
  ·rw [Qf e] at h;show (if x.key.name=s then _ else _)=_;rw [if_neg e];exact ih h _
theorem znq {x:KV} (h:zao L s=some x):∃i,i<L.length/\L.getD i kv0=x/\x.key.name=s/\zd1 (L.map KV.key) s 0=(i:Int):=by
 suffices hh:∀at0,∃i,i<L.length/\L.getD i kv0=x/\x.key.name=s/\zd1 (L.map KV.key) s at0=((at0+i:Nat):Int) by
  obtain ⟨i,h1,h2,h3,h4⟩:=hh 0;exact ⟨i,h1,h2,h3,by rw [h4,Qq]⟩
 induction L with
 |nil=>cases h
 |cons y r ih=>
  intro at0;unfold zao at h;rw [List.find?_cons] at h;by_cases e:y.key.name=s
  ·rw [Qe e] at h;cases h;refine ⟨0,by simp,by simp,e,?_⟩;show (if _ then _ else _)=_;rw [if_pos e];rfl
  ·rw [Qf e] at h;obtain ⟨i,h1,h2,h3,h4⟩:=ih h (at0+1);refine ⟨i+1,by simpa using h1,by simpa using h2,h3,?_⟩;show (if _ then _ else _)=_;rw [if_neg e,h4];congr 1;omega
theorem znm (h:w.ownsMap prog 9 RK b n (za3 L)) (s:ByteArray) (hn:s.size<=maxLen):
  (Instr.lookup 70 (.map (some b)) (.string s) true).run prog w= .ok (.tuple #[(match zao L s with|some x=>kvA x|none=> .agg z7),.bool (zao L s).isSome]) w:=by
 obtain ⟨v,ps,hrun,hv⟩:=h.look_ok zr0 underlying70 (zvc w) (zd:= .held (.agg z7)) (zp:=[]) rfl (zey s hn);rw [zoj] at hv;rw [ybl] at hrun;rw [hrun];obtain ⟨y,rfl,e⟩:=zrd hv;cases hf:zao L s with
 |none=>rw [hf] at e;injection e with e _;injection e with e;rw [e]
 |some x=>rw [hf] at e;injection e with e _;injection e with e;rw [<-e]
theorem zmc (h:w.ownsMap prog 9 RK b n (za3 L)) (s:ByteArray) (hn:s.size<=maxLen):
  (Instr.lookup 70 (.map (some b)) (.string s) false).run prog w= .ok (match zao L s with|some x=>kvA x|none=> .agg z7) w:=by
 obtain ⟨v,ps,hrun,hv⟩:=h.lookup zr0 underlying70 (zvc w) (zd:= .held (.agg z7)) (zp:=[]) rfl (zey s hn);rw [zoj] at hv;rw [hrun];obtain ⟨y,rfl,e⟩:=zrd hv;cases hf:zao L s with
 |none=>rw [hf] at e;injection e with e _;injection e with e;rw [e]
 |some x=>rw [hf] at e;injection e with e _;injection e with e;rw [<-e]
theorem zwh (h:w.ownsMap prog 9 RK b n (za3 L)) (s:ByteArray) (hn:s.size<=maxLen) (ty:TypeId):
  ∃w',(Builtin.delete_ #[70,9] ty #[.map (some b),.string s]).run prog w= .ok (.tuple #[]) w'/\w'.ownsMap prog 9 RK b n (za3 (zbb L s))/\w.mapTurned w' b:=by
 have:=h.drop zr0 underlying70 (zey s hn) ty;rwa [zhb] at this
theorem zsf (h:w.ownsMap prog 9 RK b n (za3 L)) (y:KV) {a1 a2 a3:Option Addr} {n1 c1 n2 c2 n3 c3:Nat} (e1:y.vi= .slice a1 n1 c1) (e2:y.vp= .slice a2 n2 c2) (e3:y.vr= .slice a3 n3 c3) (hs:y.key.name.size<=maxLen) (hn:n<maxLen):
  ∃w',(Instr.mapUpdate 70 (.map (some b)) (.string y.key.name) (kvA y)).run prog w= .ok () w'/\w'.ownsMap prog 9 RK b (n+1) (za3 (zhd L y))/\w.mapTurned w' b:=by
 have:=h.store zr0 underlying70 hn (zey y.key.name hs) (yh0 e1 e2 e3);rwa [yad] at this
theorem zie (h:w.ownsMap prog 9 RK b n (za3 L)) (ty:TypeId):(Builtin.len_ #[70] ty #[.map (some b)]).run prog w= .ok (.int .i64 L.length) w:=by
 rw [h.len underlying70 ty];simp [za3,Maps.size]
end Go.Proofs.YtokafonppgppdaaGreatDoor.Ri
namespace Go.Proofs.YtokafonppgppdaaGreatDoor.Rb
open Tryz
open _root_.ByteArray (empty)
open Go.RowKit Go.Maps
open Ri (za3 RK UpK)
variable {w:World} {g b n ab ao ac ln lc:Nat} {now:Int} {aa a:Option Addr} {L:List KV} {T:List ByteArray}
structure zc2 (w:World) (g b n:Nat) (now:Int) (aa:Option Addr) (ab ao ac:Nat) (L:List KV) (T:List ByteArray):Prop where
 row:zab w g 73 #[.map (some b),.int .i64 now,.slice aa T.length ac]
 ring:w.ownsMap prog 9 RK b n (za3 L)
 up:UpK (L.map KV.key)
 args:zdg w aa ab ao T.length T
def zb8 (w:World) (R:List Rp) (e:Ending) (w':World):Prop:=
 ∃r,e= .returned (.tuple #[r,.nilIface])/\zbe w' w.heap.size r R/\Bl w w'
theorem zc2.c0 (h:zc2 w g b n now aa ab ao ac L T):w.cell? ⟨g,0,none⟩=some (.map (some b)):=h.row.cell 0
theorem zc2.c1 (h:zc2 w g b n now aa ab ao ac L T):w.cell? ⟨g,1,none⟩=some (.int .i64 now):=h.row.cell 1
theorem zc2.c2 (h:zc2 w g b n now aa ab ao ac L T):w.cell? ⟨g,2,none⟩=some (.slice aa T.length ac):=h.row.cell 2
section
variable (g b n:Nat) (now:Int) (aa:Option Addr) (ab ao ac:Nat) (L:List KV) (T:List ByteArray) (w:World)
theorem zm7 (h:zc2 w g b n now aa ab ao ac L T) (hT:0<T.length):
  Calls prog 173 #[.pointer (some ⟨g,0,none⟩)] w (zb8 w (zax (T.getD 0 empty))):=by
 have h2:=h.c2;have c0:=h.args.cell 0 hT;obtain rfl:=h.args.addr hT;rw [Qy] at c0;have HR:=hid fun W s=>zd3 s W;clear h;generalize T.getD 0 empty=t,T.length=m at*;go_enter func173,ntmps173;go_wp2_with fail;refine (HR.out _ _).mono ?_;rintro e w1 ⟨r,rfl,hr,hb⟩;have HF:Hid (zb8 w (zax t) _ w1):=⟨r,rfl,hr,hb⟩;clear hr hb HR;go_wp2;go_ret2;exact HF.out
theorem zxq (h:zc2 w g b n now aa ab ao ac L T) (hT2:T.length<=1048576):
  Calls prog 172 #[.pointer (some ⟨g,0,none⟩)] w (zb8 w (if T.length=0 then zau ⟨#[80,79,78,71]⟩ else zax (T.getD 0 empty))):=by
 have h2:=h.c2;by_cases hT:T.length=0
 ·rw [if_pos hT];rw [hT] at h2;have HR:=hid fun W s=>zfw s W;clear h;go_enter func172,ntmps172;go_wp2_with fail;refine (HR.out _ _).mono ?_;rintro e w1 ⟨r,rfl,hr,hb⟩;have HF:Hid (zb8 w (zau ⟨#[80,79,78,71]⟩) _ w1):=⟨r,rfl,hr,hb⟩;clear hr hb HR;go_wp2;go_ret2;exact HF.out
 ·rw [if_neg hT];have HR:=hid (zm7 g b n now aa ab ao ac L T w h (by omega));have hm3:=beq_eq_false_iff_ne.2 (by omega);clear h;generalize T.getD 0 empty=t,T.length=m at*;go_enter func172,ntmps172;go_wp2_with fail;refine HR.out.mono ?_;rintro e w1 ⟨r,rfl,hr,hb⟩;have HF:Hid (zb8 w (zax t) _ w1):=⟨r,rfl,hr,hb⟩;clear hr hb HR;go_wp2;go_ret2;exact HF.out
theorem zp9 (h:zc2 w g b n now aa ab ao ac L T):
  Calls prog 175 #[.pointer (some ⟨g,0,none⟩)] w (zb8 w (zam L.length)):=by
 have h0:=h.c0;have HR:=hid fun W s=>za4 s W;have HO:=hid h.ring;have HS:Hid (Maps.size (za3 L)=L.length):=by unfold Hid;simp [za3,Maps.size]
 clear h;go_enter func175,ntmps175;go_wp2_with (at_len;refine wpList_len_own _ rfl _ 70 rfl 9 47 underlying70 _ b n _ rfl HO.out ?_);rw [HS.out];refine (HR.out _ _).mono ?_;rintro e w1 ⟨r,rfl,hr,hb⟩;have HF:Hid (zb8 w (zam L.length) _ w1):=⟨r,rfl,hr,hb⟩;clear hr hb HR;go_wp2;go_ret2;exact HF.out
end
open Ri (za3 RK UpK zao kvA z7)
def zak (L:List KV) (s:ByteArray):KV:=(zao L s).getD kv0
theorem zop (L:List KV) (s:ByteArray):(match zao L s with|some x=>kvA x|none=> .agg z7)=kvA (zak L s):=by
 unfold zak;cases zao L s<;>rfl
def ycf (x:KV):Value:= .agg #[.int .i64 x.key.val.kind,.string x.key.val.text,x.vi,x.vp,x.vr]
theorem zb7 (h:w.ownsMap prog 9 RK b n (za3 L)) (s:ByteArray) (hn:s.size<=maxLen):
  ∃a1 n1 c1 a2 n2 c2 a3 n3 c3,(zak L s).vi= .slice a1 n1 c1/\(zak L s).vp= .slice a2 n2 c2/\(zak L s).vr= .slice a3 n3 c3:=by
 obtain ⟨v,ps,hrun,hv⟩:=h.lookup Ri.zr0 underlying70 (Ri.zvc w) (zd:= .held (.agg z7)) (zp:=[]) rfl (Ri.zey s hn);rw [Ri.zoj] at hv;cases hf:zao L s with
 |none=>
  unfold zak;rw [hf];exact ⟨_,_,_,_,_,_,_,_,_,rfl,rfl,rfl⟩
 |some x=>
  rw [hf] at hv;unfold zak;rw [hf];obtain ⟨y,rfl,e⟩:=Ri.zrd hv;injection e with e _;injection e with e;unfold kvA at e;injection e with e;have e:=Array.toList_inj.2 e;simp only [List.cons.injEq] at e;exact ⟨_,_,_,_,_,_,_,_,_,e.2.2.2.1,e.2.2.2.2.1,e.2.2.2.2.2.1⟩
theorem yj9 (a k t i p r d:Value) (w:World):(Instr.field 47 (.agg #[a,k,t,i,p,r,d]) 1).run prog w= .ok (.agg #[k,t,i,p,r]) w:=by
 simp [go_sem,Instr.field,asAgg]
theorem zgl (g b n:Nat) (now:Int) (aa:Option Addr) (ab ao ac:Nat) (L:List KV) (T:List ByteArray) (w:World) (h:zc2 w g b n now aa ab ao ac L T) (hT:0<T.length) (hs:(T.getD 0 empty).size<=maxLen):
  Calls prog 239 #[.pointer (some ⟨g,0,none⟩)] w fun e w'=>e= .returned (ycf (zak L (T.getD 0 empty)))/\Bl w w':=by
 obtain ⟨W,hW,HW,b0,r0⟩:=boxed w #[.int .i64 0,.string ⟨#[]⟩,.slice none 0 0,.slice none 0 0,.slice none 0 0] 45;have hgl:=h.row.lt;have hal:=h.args.low hT;have h0:=(b0.cell (p:=⟨g,0,none⟩) hgl).trans h.c0;have h2:=(b0.cell (p:=⟨g,2,none⟩) hgl).trans h.c2;have c0:=(b0.cell (p:=⟨ab,ao+0,none⟩) hal).trans (h.args.cell 0 hT);obtain rfl:=h.args.addr hT;rw [Qy] at c0;have hr:W.ownsMap prog 9 RK b n (za3 L):=by rw [<-hW];exact h.ring.alloc _
 have hk:(Instr.lookup 70 (.map (some b)) (.string (T.getD 0 empty)) false).run prog W.drew= .ok (kvA (zak L (T.getD 0 empty))) W.drew:=by
  rw [<-zop];exact Ri.zmc hr.drew _ hs
 obtain ⟨a1,n1,k1,a2,n2,k2,a3,n3,k3,e1,e2,e3⟩:=zb7 hr (T.getD 0 empty) hs;have hm:(0:Int)<(T.length:Int):=by omega
 have f0:=r0.frozen 0;have d0:=r0.cell 0;have f1:=r0.frozen 1;have d1:=r0.cell 1;have f2:=r0.frozen 2;have d2:=r0.cell 2;have f3:=r0.frozen 3;have d3:=r0.cell 3;have f4:=r0.frozen 4;have d4:=r0.cell 4;simp only [Qm,Qk,Ql] at d0 d1 d2 d3 d4;have HZ:Hid (∀v0 v1 v2 v3 v4,∃W5,(((((W.setCell ⟨w.heap.size,0,none⟩ v0).setCell ⟨w.heap.size,1,none⟩ v1).setCell ⟨w.heap.size,2,none⟩ v2).setCell ⟨w.heap.size,3,none⟩ v3).setCell ⟨w.heap.size,4,none⟩ v4).drew=W5/\zab W5 w.heap.size 45 #[v0,v1,v2,v3,v4]/\Bl w W5):=fun v0 v1 v2 v3 v4=>by
  have r1:=r0.set 0 v0;have r2:=r1.set 1 v1;have r3:=r2.set 2 v2;have r4:=r3.set 3 v3;have r5:=r4.set 4 v4;exact ⟨_,rfl,r5,(((((b0.setCell (Qc _) v0).setCell (Qc _) v1).setCell (Qc _) v2).setCell (Qc _) v3).setCell (Qc _) v4).drew⟩
 clear h hr;unfold ycf;unfold kvA kC at hk;rw [e1,e2,e3] at hk ⊢;generalize T.getD 0 empty=t,T.length=m at*;generalize (zak L t).key=x at*;clear e1 e2 e3;have hf:=yj9 (.string x.name) (.int .i64 x.val.kind) (.string x.val.text) (.slice a1 n1 k1) (.slice a2 n2 k2) (.slice a3 n3 k3) (.int .i64 x.due) W.drew;go_enter func239,ntmps239;go_wp2;go_region;go_wp2;obtain ⟨W5,e5,r5,b5⟩:=HZ.out (.int .i64 x.val.kind) (.string x.val.text) (.slice a1 n1 k1) (.slice a2 n2 k2) (.slice a3 n3 k3);rw [e5];clear f0 f1 f2 f3 f4 d0 d1 d2 d3 d4 h0 h2 c0 hk hf;have q0:=r5.cell 0;have q1:=r5.cell 1;have q2:=r5.cell 2;have q3:=r5.cell 3;have q4:=r5.cell 4;simp only [Qm,Qk,Ql] at q0 q1 q2 q3 q4;exact bodyPost_ret (v:= .agg #[.int .i64 x.val.kind,.string x.val.text,.slice a1 n1 k1,.slice a2 n2 k2,.slice a3 n3 k3]) (by simp [results,results239,go_sem,q0,q1,q2,q3,q4]) rfl ⟨rfl,b5⟩
theorem zab.drew {T:TypeId} {C:Array Value} (h:zab w g T C):zab w.drew g T C:=h
theorem zrn {W:World} {B:Nat} {T:TypeId} {c0 c1 c2 c3 c4 c5 c6:Value} (r0:zab W g T #[c0,c1,c2,c3,c4,c5,c6]) (b0:Below B w W) (hg:B<=g) (v0 v1 v2 v3 v4 v5 v6:Value):
  ∃W7,(((((((W.setCell ⟨g,0,none⟩ v0).setCell ⟨g,1,none⟩ v1).setCell ⟨g,2,none⟩ v2).setCell ⟨g,3,none⟩ v3).setCell ⟨g,4,none⟩ v4).setCell ⟨g,5,none⟩ v5).setCell ⟨g,6,none⟩ v6).drew=W7/\zab W7 g T #[v0,v1,v2,v3,v4,v5,v6]/\Below B w W7:=by
 have r1:=r0.set 0 v0;have r2:=r1.set 1 v1;have r3:=r2.set 2 v2;have r4:=r3.set 3 v3;have r5:=r4.set 4 v4;have r6:=r5.set 5 v5;have r7:=r6.set 6 v6;exact ⟨_,rfl,zab.drew r7,(((((((b0.setCell hg v0).setCell hg v1).setCell hg v2).setCell hg v3).setCell hg v4).setCell hg v5).setCell hg v6).drew⟩
structure yiw (w W:World) (g b ab ao m ac:Nat) (t:ByteArray) (x:Ke) (y:Bool) (a1:Option Addr) (n1 k1:Nat) (a2:Option Addr) (n2 k2:Nat) (a3:Option Addr) (n3 k3:Nat):Prop where
 new:w.alloc (.cells #[.string ⟨#[]⟩,.int .i64 0,.string ⟨#[]⟩,.slice none 0 0,.slice none 0 0,.slice none 0 0,.int .i64 0] 47)=W
 row:zab W w.heap.size 47 #[.string ⟨#[]⟩,.int .i64 0,.string ⟨#[]⟩,.slice none 0 0,.slice none 0 0,.slice none 0 0,.int .i64 0]
 bel:Bl w W
 h0:w.cell? ⟨g,0,none⟩=some (.map (some b))
 h2:w.cell? ⟨g,2,none⟩=some (.slice (some ⟨ab,ao,none⟩) m ac)
 c0:w.cell? ⟨ab,ao,none⟩=some (.string t)
 H0:W.cell? ⟨g,0,none⟩=some (.map (some b))
 H2:W.cell? ⟨g,2,none⟩=some (.slice (some ⟨ab,ao,none⟩) m ac)
 C0:W.cell? ⟨ab,ao,none⟩=some (.string t)
 hk:(Instr.lookup 70 (.map (some b)) (.string t) true).run prog w.drew= .ok (.tuple #[.agg #[.string x.name,.int .i64 x.val.kind,.string x.val.text,.slice a1 n1 k1,.slice a2 n2 k2,.slice a3 n3 k3,.int .i64 x.due],.bool y]) w.drew
 hK:(Instr.lookup 70 (.map (some b)) (.string t) true).run prog W.drew= .ok (.tuple #[.agg #[.string x.name,.int .i64 x.val.kind,.string x.val.text,.slice a1 n1 k1,.slice a2 n2 k2,.slice a3 n3 k3,.int .i64 x.due],.bool y]) W.drew
 hm:(0:Int)<(m:Int)
 d0:W.cell? ⟨w.heap.size,0,none⟩=some (.string ⟨#[]⟩)
 f0:W.frozen? ⟨w.heap.size,0,none⟩=false
 d1:W.cell? ⟨w.heap.size,1,none⟩=some (.int .i64 0)
 f1:W.frozen? ⟨w.heap.size,1,none⟩=false
 d2:W.cell? ⟨w.heap.size,2,none⟩=some (.string ⟨#[]⟩)
 f2:W.frozen? ⟨w.heap.size,2,none⟩=false
 d3:W.cell? ⟨w.heap.size,3,none⟩=some (.slice none 0 0)
 f3:W.frozen? ⟨w.heap.size,3,none⟩=false
 d4:W.cell? ⟨w.heap.size,4,none⟩=some (.slice none 0 0)
 f4:W.frozen? ⟨w.heap.size,4,none⟩=false
 d5:W.cell? ⟨w.heap.size,5,none⟩=some (.slice none 0 0)
 f5:W.frozen? ⟨w.heap.size,5,none⟩=false
 d6:W.cell? ⟨w.heap.size,6,none⟩=some (.int .i64 0)
 f6:W.frozen? ⟨w.heap.size,6,none⟩=false
theorem zc2.look (h:zc2 w g b n now aa ab ao ac L T) (hT:0<T.length) (hs:(T.getD 0 empty).size<=maxLen):
  ∃W a1 n1 k1 a2 n2 k2 a3 n3 k3,aa=some ⟨ab,ao,none⟩/\(zak L (T.getD 0 empty)).vi= .slice a1 n1 k1/\(zak L (T.getD 0 empty)).vp= .slice a2 n2 k2/\(zak L (T.getD 0 empty)).vr= .slice a3 n3 k3/\
   yiw w W g b ab ao T.length ac (T.getD 0 empty) (zak L (T.getD 0 empty)).key (zao L (T.getD 0 empty)).isSome a1 n1 k1 a2 n2 k2 a3 n3 k3:=by
 obtain ⟨W,hW,-,b0,r0⟩:=boxed w #[.string ⟨#[]⟩,.int .i64 0,.string ⟨#[]⟩,.slice none 0 0,.slice none 0 0,.slice none 0 0,.int .i64 0] 47;have hgl:=h.row.lt;have hal:=h.args.low hT;have c0:=h.args.cell 0 hT;have C0:=(b0.cell (p:=⟨ab,ao+0,none⟩) hal).trans c0;have ea:=h.args.addr hT;subst ea;rw [Qy] at c0 C0;have hR:W.ownsMap prog 9 RK b n (za3 L):=by rw [<-hW];exact h.ring.alloc _
 have hk:∀V:World,V.ownsMap prog 9 RK b n (za3 L)->(Instr.lookup 70 (.map (some b)) (.string (T.getD 0 empty)) true).run prog V= .ok (.tuple #[kvA (zak L (T.getD 0 empty)),.bool (zao L (T.getD 0 empty)).isSome]) V:=fun V hV=>by
  rw [<-zop];exact Ri.znm hV _ hs
 obtain ⟨a1,n1,k1,a2,n2,k2,a3,n3,k3,e1,e2,e3⟩:=zb7 h.ring (T.getD 0 empty) hs;unfold kvA kC at hk;rw [e1,e2,e3] at hk;exact ⟨W,a1,n1,k1,a2,n2,k2,a3,n3,k3,rfl,e1,e2,e3,hW,r0,b0,h.c0,h.c2,c0,(b0.cell (p:=⟨g,0,none⟩) hgl).trans h.c0,(b0.cell (p:=⟨g,2,none⟩) hgl).trans h.c2,C0,hk _ h.ring.drew,hk _ hR.drew,by omega,r0.cell 0,r0.frozen 0,r0.cell 1,r0.frozen 1,r0.cell 2,r0.frozen 2,r0.cell 3,r0.frozen 3,r0.cell 4,r0.frozen 4,r0.cell 5,r0.frozen 5,r0.cell 6,r0.frozen 6⟩
theorem zlp (g b n:Nat) (now:Int) (aa:Option Addr) (ab ao ac:Nat) (L:List KV) (T:List ByteArray) (w:World) (h:zc2 w g b n now aa ab ao ac L T) (hT:0<T.length) (hs:(T.getD 0 empty).size<=maxLen):
  Calls prog 236 #[.pointer (some ⟨g,0,none⟩)] w fun e w'=>e= .returned (.bool (zao L (T.getD 0 empty)).isSome)/\Bl w w':=by
 obtain ⟨W,a1,n1,k1,a2,n2,k2,a3,n3,k3,rfl,-,-,-,hl⟩:=h.look hT hs;clear h;generalize T.getD 0 empty=t,T.length=m at*;generalize (zak L t).key=x,(zao L t).isSome=y at*;have HZ:=hid (zrn hl.row hl.bel (Qc _));obtain ⟨hW,r0,b0,h0,h2,c0,H0,H2,C0,hk,hK,hm,d0,f0,d1,f1,d2,f2,d3,f3,d4,f4,d5,f5,d6,f6⟩:=hl;clear r0;go_enter func236,ntmps236;go_wp2;go_region;obtain ⟨W5,e5,r5,b5⟩:=HZ.out (.string x.name) (.int .i64 x.val.kind) (.string x.val.text) (.slice a1 n1 k1) (.slice a2 n2 k2) (.slice a3 n3 k3) (.int .i64 x.due);rw [e5];clear f0 f1 f2 f3 f4 f5 f6 d0 d1 d2 d3 d4 d5 d6 h0 h2 c0 H0 H2 C0 hk hK e5 HZ;have HB:=hid b5;clear b5;go_wp2;go_ret;exact ⟨rfl,HB.out⟩
section
variable (k t i p r:Value) (w:World)
theorem yfx:(Instr.field 45 (.agg #[k,t,i,p,r]) 0).run prog w= .ok k w:=by
 simp [go_sem,Instr.field,asAgg]
theorem zlu:(Instr.field 45 (.agg #[k,t,i,p,r]) 1).run prog w= .ok t w:=by
 simp [go_sem,Instr.field,asAgg]
theorem zh0:(Instr.field 45 (.agg #[k,t,i,p,r]) 2).run prog w= .ok i w:=by
 simp [go_sem,Instr.field,asAgg]
theorem zld:(Instr.field 45 (.agg #[k,t,i,p,r]) 3).run prog w= .ok p w:=by
 simp [go_sem,Instr.field,asAgg]
theorem zjj:(Instr.field 45 (.agg #[k,t,i,p,r]) 4).run prog w= .ok r w:=by
 simp [go_sem,Instr.field,asAgg]
end
theorem ztu (g b n:Nat) (now kd:Int) (aa:Option Addr) (ab ao ac:Nat) (L:List KV) (T:List ByteArray) (w:World) (h:zc2 w g b n now aa ab ao ac L T) (hT:0<T.length) (hs:(T.getD 0 empty).size<=maxLen):
  Calls prog 91 #[.pointer (some ⟨g,0,none⟩),.int .i64 kd] w fun e w'=>e= .returned (.bool ((zao L (T.getD 0 empty)).isSome&&!((zak L (T.getD 0 empty)).key.val.kind==kd)))/\Bl w w':=by
 obtain ⟨W,a1,n1,k1,a2,n2,k2,a3,n3,k3,rfl,-,-,-,hl⟩:=h.look hT hs;clear h;generalize T.getD 0 empty=t,T.length=m at*;generalize (zak L t).key=x,(zao L t).isSome=y at*;have HZ:Hid (∀v0 v1 v2 v3 v4 v5 v6,_):=zrn hl.row hl.bel (Qc _);obtain ⟨hW,r0,b0,h0,h2,c0,H0,H2,C0,hk,hK,hm,d0,f0,d1,f1,d2,f2,d3,f3,d4,f4,d5,f5,d6,f6⟩:=hl;clear r0;go_enter func91,ntmps91;go_wp2;go_region;obtain ⟨W5,e5,r5,b5⟩:=HZ.out (.string x.name) (.int .i64 x.val.kind) (.string x.val.text) (.slice a1 n1 k1) (.slice a2 n2 k2) (.slice a3 n3 k3) (.int .i64 x.due);rw [e5];clear f0 f1 f2 f3 f4 f5 f6 d0 d1 d2 d3 d4 d5 d6 h0 h2 c0 H0 H2 C0 hk hK e5 HZ;have HB:Hid (Bl w W5):=b5;have q1:W5.cell? ⟨w.heap.size,1,none⟩=some (.int .i64 x.val.kind):=r5.cell 1;clear b5 r5;cases y with
 |false=>
  go_wp2;go_ret;exact ⟨rfl,HB.out⟩
 |true=>
  go_wp2;go_ret;exact ⟨rfl,HB.out⟩
theorem zqe (g b n:Nat) (now:Int) (aa:Option Addr) (ab ao ac:Nat) (L:List KV) (T:List ByteArray) (w:World) (h:zc2 w g b n now aa ab ao ac L T) (hT:0<T.length) (hs:(T.getD 0 empty).size<=maxLen):
  Calls prog 187 #[.pointer (some ⟨g,0,none⟩)] w (zb8 w (zam (zak L (T.getD 0 empty)).key.val.text.size)):=by
 have HR:Hid (∀W s,Cp 233 #[.int .i64 s] W (zci W (zam s))):=fun W s=>za4 s W;have HH:Hid (Cp 239 #[.pointer (some ⟨g,0,none⟩)] w fun e w'=>e= .returned (ycf (zak L (T.getD 0 empty)))/\Bl w w'):=zgl g b n now aa ab ao ac L T w h hT hs;obtain ⟨a1,n1,k1,a2,n2,k2,a3,n3,k3,e1,e2,e3⟩:=zb7 h.ring (T.getD 0 empty) hs;clear h;unfold ycf at HH;rw [e1,e2,e3] at HH;generalize (zak L (T.getD 0 empty)).key=x at*;clear e1 e2 e3;go_enter func187,ntmps187;go_wp2_with fail;refine HH.out.mono ?_;rintro e w1 ⟨rfl,b1⟩;have HB:Hid (Bl w w1):=b1;clear b1 HH;have hf:=zlu (.int .i64 x.val.kind) (.string x.val.text) (.slice a1 n1 k1) (.slice a2 n2 k2) (.slice a3 n3 k3) w1;go_wp2_with fail;refine (HR.out _ _).mono ?_;rintro e w2 ⟨r,rfl,hr,hb⟩;have HF:Hid (zb8 w (zam x.val.text.size) _ w2):=⟨r,rfl,hr.le HB.out.size,HB.out.trans (hb.mono HB.out.size)⟩;clear hr hb HR;go_wp2;go_ret2;exact HF.out
theorem zc2.bw {w':World} (h:zc2 w g b n now aa ab ao ac L T) (hb:Bl w w'):zc2 w' g b n now aa ab ao ac L T:=by
 refine ⟨h.row.bw hb h.row.lt,?_,h.up,zdb h.args hb⟩;have hlt:=h.ring.lt;obtain ⟨es,clock,hm,Ft,hs,hD⟩:=h.ring;exact ⟨es,clock,(hb.block b hlt).trans hm,Ft,hs,hD⟩
section
variable (g b n:Nat) (now:Int) (aa:Option Addr) (ab ao ac:Nat) (L:List KV) (T:List ByteArray) (w:World)
theorem zwx (h:zc2 w g b n now aa ab ao ac L T) (hT:0<T.length) (hs:(T.getD 0 empty).size<=maxLen) (ev:(zak L (T.getD 0 empty)).vi= .slice a ln lc):
  Calls prog 195 #[.pointer (some ⟨g,0,none⟩)] w (zb8 w (zam ln)):=by
 have HR:=hid fun W s=>za4 s W;have HH:=hid (zgl g b n now aa ab ao ac L T w h hT hs);obtain ⟨a1,n1,k1,a2,n2,k2,a3,n3,k3,e1,e2,e3⟩:=zb7 h.ring (T.getD 0 empty) hs;clear h;unfold ycf at HH;rw [e1] at ev;injection ev with x1 x2 x3;subst x1 x2 x3;rw [e1,e2,e3] at HH;generalize (zak L (T.getD 0 empty)).key=x at*;clear e1 e2 e3;go_enter func195,ntmps195;go_wp2_with fail;refine HH.out.mono ?_;rintro e w1 ⟨rfl,b1⟩;have HB:=hid b1;clear b1 HH;have hf:=zh0 (.int .i64 x.val.kind) (.string x.val.text) (.slice a1 n1 k1) (.slice a2 n2 k2) (.slice a3 n3 k3) w1;go_wp2_with fail;refine (HR.out _ _).mono ?_;rintro e w2 ⟨r,rfl,hr,hb⟩;have HF:Hid (zb8 w (zam n1) _ w2):=⟨r,rfl,hr.le HB.out.size,HB.out.trans (hb.mono HB.out.size)⟩;clear hr hb HR;go_wp2;go_ret2;exact HF.out
theorem zwr (h:zc2 w g b n now aa ab ao ac L T) (hT:0<T.length) (hs:(T.getD 0 empty).size<=maxLen) (ev:(zak L (T.getD 0 empty)).vp= .slice a ln lc):
  Calls prog 200 #[.pointer (some ⟨g,0,none⟩)] w (zb8 w (zam ln)):=by
 have HR:=hid fun W s=>za4 s W;have HH:=hid (zgl g b n now aa ab ao ac L T w h hT hs);obtain ⟨a1,n1,k1,a2,n2,k2,a3,n3,k3,e1,e2,e3⟩:=zb7 h.ring (T.getD 0 empty) hs;clear h;unfold ycf at HH;rw [e2] at ev;injection ev with x1 x2 x3;subst x1 x2 x3;rw [e1,e2,e3] at HH;generalize (zak L (T.getD 0 empty)).key=x at*;clear e1 e2 e3;go_enter func200,ntmps200;go_wp2_with fail;refine HH.out.mono ?_;rintro e w1 ⟨rfl,b1⟩;have HB:=hid b1;clear b1 HH;have hf:=zld (.int .i64 x.val.kind) (.string x.val.text) (.slice a1 n1 k1) (.slice a2 n2 k2) (.slice a3 n3 k3) w1;go_wp2_with fail;refine (HR.out _ _).mono ?_;rintro e w2 ⟨r,rfl,hr,hb⟩;have HF:Hid (zb8 w (zam n2) _ w2):=⟨r,rfl,hr.le HB.out.size,HB.out.trans (hb.mono HB.out.size)⟩;clear hr hb HR;go_wp2;go_ret2;exact HF.out
theorem zt3 (h:zc2 w g b n now aa ab ao ac L T) (hT:0<T.length) (hs:(T.getD 0 empty).size<=maxLen) (ev:(zak L (T.getD 0 empty)).vr= .slice a ln lc):
  Calls prog 204 #[.pointer (some ⟨g,0,none⟩)] w (zb8 w (zam ln)):=by
 have HR:=hid fun W s=>za4 s W;have HH:=hid (zgl g b n now aa ab ao ac L T w h hT hs);obtain ⟨a1,n1,k1,a2,n2,k2,a3,n3,k3,e1,e2,e3⟩:=zb7 h.ring (T.getD 0 empty) hs;clear h;unfold ycf at HH;rw [e3] at ev;injection ev with x1 x2 x3;subst x1 x2 x3;rw [e1,e2,e3] at HH;generalize (zak L (T.getD 0 empty)).key=x at*;clear e1 e2 e3;go_enter func204,ntmps204;go_wp2_with fail;refine HH.out.mono ?_;rintro e w1 ⟨rfl,b1⟩;have HB:=hid b1;clear b1 HH;have hf:=zjj (.int .i64 x.val.kind) (.string x.val.text) (.slice a1 n1 k1) (.slice a2 n2 k2) (.slice a3 n3 k3) w1;go_wp2_with fail;refine (HR.out _ _).mono ?_;rintro e w2 ⟨r,rfl,hr,hb⟩;have HF:Hid (zb8 w (zam n3) _ w2):=⟨r,rfl,hr.le HB.out.size,HB.out.trans (hb.mono HB.out.size)⟩;clear hr hb HR;go_wp2;go_ret2;exact HF.out
theorem ybk (h:zc2 w g b n now aa ab ao ac L T) (hT:0<T.length) (hs:(T.getD 0 empty).size<=maxLen):
  Calls prog 186 #[.pointer (some ⟨g,0,none⟩)] w (zb8 w (if (zao L (T.getD 0 empty)).isSome=true then zax (zak L (T.getD 0 empty)).key.val.text else zbm)):=by
 have HN:=hid fun W=>zev W;have HR:=hid fun W s=>zd3 s W;have HT:=hid (zlp g b n now aa ab ao ac L T w h hT hs);have HH:=hid fun W (hb:Bl w W)=>zgl g b n now aa ab ao ac L T W (h.bw hb) hT hs;obtain ⟨a1,n1,k1,a2,n2,k2,a3,n3,k3,e1,e2,e3⟩:=zb7 h.ring (T.getD 0 empty) hs;clear h;unfold ycf at HH;rw [e1,e2,e3] at HH;generalize (zak L (T.getD 0 empty)).key=x,(zao L (T.getD 0 empty)).isSome=y at*;clear e1 e2 e3;cases y with
 |false=>
  go_enter func186,ntmps186;go_wp2_with fail;refine HT.out.mono ?_;rintro e w1 ⟨rfl,b1⟩;have HB:=hid b1;clear b1 HT;go_wp2_with fail;refine (HN.out _).mono ?_;rintro e w2 ⟨r,rfl,hr,hb⟩;have HF:Hid (zb8 w zbm _ w2):=⟨r,rfl,hr.le HB.out.size,HB.out.trans (hb.mono HB.out.size)⟩;clear hr hb HR HN;go_wp2;go_ret2;exact HF.out
 |true=>
  go_enter func186,ntmps186;go_wp2_with fail;refine HT.out.mono ?_;rintro e w1 ⟨rfl,b1⟩;have HB:=hid b1;clear b1 HT;go_wp2_with fail;refine (HH.out _ HB.out).mono ?_;rintro e w2 ⟨rfl,b2⟩;have HC:=hid (HB.out.trans (b2.mono HB.out.size));clear b2 HH HB;have hf:=zlu (.int .i64 x.val.kind) (.string x.val.text) (.slice a1 n1 k1) (.slice a2 n2 k2) (.slice a3 n3 k3) w2;go_wp2_with fail;refine (HR.out _ _).mono ?_;rintro e w3 ⟨r,rfl,hr,hb⟩;have HF:Hid (zb8 w (zax x.val.text) _ w3):=⟨r,rfl,hr.le HC.out.size,HC.out.trans (hb.mono HC.out.size)⟩;clear hr hb HR HN;go_wp2;go_ret2;exact HF.out
end
theorem zr3 (k:Nat) (hk:k<=4) (w:World):Calls prog 238 #[.int .i64 k] w fun e w'=>e= .returned (.string (zdt k))/\Bl w w':=by
 have HB:Hid (Bl w w):=Qb _ w;obtain rfl|rfl|rfl|rfl|rfl:k=0\/k=1\/k=2\/k=3\/k=4:=by omega
 all_goals
  go_enter func238,ntmps238;go_wp2;go_ret;exact ⟨rfl,HB.out⟩
section
variable (g b n:Nat) (now:Int) (aa:Option Addr) (ab ao ac:Nat) (L:List KV) (T:List ByteArray) (w:World)
theorem zv6 (h:zc2 w g b n now aa ab ao ac L T) (hT:0<T.length) (hs:(T.getD 0 empty).size<=maxLen) (kd:Nat) (hk:(zak L (T.getD 0 empty)).key.val.kind=kd) (hk4:kd<=4):
  Calls prog 182 #[.pointer (some ⟨g,0,none⟩)] w (zb8 w (zau (zdt kd))):=by
 have HR:=hid fun W s=>zfw s W;have HK:=hid fun W=>zr3 kd hk4 W;have HH:=hid (zgl g b n now aa ab ao ac L T w h hT hs);obtain ⟨a1,n1,k1,a2,n2,k2,a3,n3,k3,e1,e2,e3⟩:=zb7 h.ring (T.getD 0 empty) hs;clear h;unfold ycf at HH;rw [e1,e2,e3,hk] at HH;generalize (zak L (T.getD 0 empty)).key=x,zdt kd=s at*;clear e1 e2 e3;go_enter func182,ntmps182;go_wp2_with fail;refine HH.out.mono ?_;rintro e w1 ⟨rfl,b1⟩;have HB:=hid b1;clear b1 HH;have hf:=yfx (.int .i64 kd) (.string x.val.text) (.slice a1 n1 k1) (.slice a2 n2 k2) (.slice a3 n3 k3) w1;go_wp2_with fail;refine (HK.out _).mono ?_;rintro e w2 ⟨rfl,b2⟩;have HC:=hid (HB.out.trans (b2.mono HB.out.size));clear b2 HB HK hf;go_wp2_with fail;refine (HR.out _ _).mono ?_;rintro e w3 ⟨r,rfl,hr,hb⟩;have HF:Hid (zb8 w (zau s) _ w3):=⟨r,rfl,hr.le HC.out.size,HC.out.trans (hb.mono HC.out.size)⟩;clear hr hb HR;go_wp2;go_ret2;exact HF.out
theorem yag (h:zc2 w g b n now aa ab ao ac L T) (hT:0<T.length) (hs:(T.getD 0 empty).size<=maxLen) (hnow:0<=now/\now<=1000000000) (hdue:0<=(zak L (T.getD 0 empty)).key.due/\(zak L (T.getD 0 empty)).key.due<=1000000000):
  Calls prog 183 #[.pointer (some ⟨g,0,none⟩)] w (zb8 w (zam (if (zao L (T.getD 0 empty)).isSome=true then (if (zak L (T.getD 0 empty)).key.due=0 then-1 else (zak L (T.getD 0 empty)).key.due-now) else-2))):=by
 have HR:=hid fun W s=>zdq s W;have hgl:=h.row.lt;have g1:=h.c1;obtain ⟨W,a1,n1,k1,a2,n2,k2,a3,n3,k3,rfl,-,-,-,hl⟩:=h.look hT hs;clear h;generalize T.getD 0 empty=t,T.length=m at*;generalize (zak L t).key=x,(zao L t).isSome=y at*;have HZ:=hid (zrn hl.row hl.bel (Qc _));obtain ⟨hW,r0,b0,h0,h2,c0,H0,H2,C0,hk,hK,hm,d0,f0,d1,f1,d2,f2,d3,f3,d4,f4,d5,f5,d6,f6⟩:=hl;clear r0;obtain ⟨N,hN⟩:∃N,(if y=true then (if x.due=0 then (-1:Int) else x.due-now) else-2)=N:=⟨_,rfl⟩;rw [hN];have HN:=hid hN;clear hN;go_enter func183,ntmps183;go_wp2;go_region;obtain ⟨W5,e5,r5,b5⟩:=HZ.out (.string x.name) (.int .i64 x.val.kind) (.string x.val.text) (.slice a1 n1 k1) (.slice a2 n2 k2) (.slice a3 n3 k3) (.int .i64 x.due);rw [e5];clear f0 f1 f2 f3 f4 f5 f6 d0 d1 d2 d3 d4 d5 d6 h0 h2 c0 H0 H2 C0 hk hK e5 HZ hW;have HB:=hid b5;have q6:=r5.cell 6;have q1:=(b5.cell (p:=⟨g,1,none⟩) hgl).trans g1;have hlt:=r5.lt;have hgl5:g<W5.heap.size:=Qr hgl b5.size;clear b5 r5 b0;have HE:Hid (∀i r w2,zbe w2 W5.heap.size r (zam i)->Bl W5 w2->zb8 w (zam i) (.returned (.tuple #[r,.nilIface])) w2):=fun i r w2 hr hb=>⟨r,rfl,hr.le HB.out.size,HB.out.trans (hb.mono HB.out.size)⟩;cases y with
 |false=>
  obtain rfl:-2=N:=HN.out;go_wp2_with fail;refine (HR.out _ _).mono ?_;rintro e w2 ⟨r,rfl,hr,hb⟩;have HF:Hid _:=HE.out _ r w2 hr hb;clear hr hb HR HE;go_wp2;go_ret2;exact HF.out
 |true=>
  by_cases hd:x.due=0
  ·rw [hd] at q6;obtain rfl:-1=N:=by have:=HN.out;rwa [if_pos rfl,if_pos hd] at this
   clear HN;go_wp2_with fail;refine (HR.out _ _).mono ?_;rintro e w2 ⟨r,rfl,hr,hb⟩;have HF:Hid _:=HE.out _ r w2 hr hb;clear hr hb HR HE;go_wp2;go_ret2;exact HF.out
  ·obtain rfl:x.due-now=N:=by have:=HN.out;rwa [if_pos rfl,if_neg hd] at this
   clear HN;have hd0:=beq_eq_false_iff_ne.2 hd;obtain ⟨hnow0,hnow1⟩:=hnow;obtain ⟨hdue0,hdue1⟩:=hdue;have hwr:IntKind.i64.wrap (x.due-now)=x.due-now:=by rw [IntKind.wrap_i64];omega
   go_upto_region 6 with fail;go_region_held3 (fun V=>V.cell? ⟨w.heap.size,6,none⟩=some (.int .i64 x.due)/\V.cell? ⟨g,1,none⟩=some (.int .i64 now))
    (first|exact ⟨q6,q1⟩|exact ⟨(hb5.cell (p:=⟨w.heap.size,6,none⟩) hlt).trans q6,(hb5.cell (p:=⟨g,1,none⟩) hgl5).trans q1⟩)
    (first
     |(go_at_call 237;refine (HR.out _ _).mono ?_;rintro e w2 ⟨r,rfl,hr,hb⟩;have hb5:=(below_drewN (Qb _ W5) 1).trans hb;have HF:Hid _:=HE.out _ r w2 hr hb5))
   all_goals
    go_wp2;go_ret2;exact HF.out
end
end Go.Proofs.YtokafonppgppdaaGreatDoor.Rb
