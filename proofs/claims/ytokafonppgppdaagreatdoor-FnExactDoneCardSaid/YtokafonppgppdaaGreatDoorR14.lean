import Derived.Test.YtokafonppgppdaaGreatDoorM11
import Derived.Test.YtokafonppgppdaaGreatDoorC25
import Derived.Test.YtokafonppgppdaaGreatDoorFRdMath
set_option maxHeartbeats 2000000
set_option maxRecDepth 100000
namespace Go.Proofs.YtokafonppgppdaaGreatDoor
namespace Rb
open Tryz
open Go.RowKit
theorem Dg(s:ByteArray)(w:World):Calls prog 230 #[.string s] w (F9 w (Hd s)):=by
 have HE:Hid (F9 w (Hd s) _ _):=Rt w 1 0 s;go_enter func230,ntmps230;go_wp2;go_ret;exact HE.out
theorem Wt(s:ByteArray)(w:World):Calls prog 231 #[.string s] w (F9 w (Fy s)):=by
 have HE:Hid (F9 w (Fy s) _ _):=Rt w 4 0 s;go_enter func231,ntmps231;go_wp2;go_ret;exact HE.out
theorem Bn(n:Int)(w:World):Calls prog 237 #[.int .i64 n] w (F9 w (Fe n)):=by
 have HE:Hid (F9 w (Fe n) _ _):=Rt w 3 n ⟨#[]⟩;go_enter func237,ntmps237;go_wp2;go_ret;exact HE.out
theorem Pg(n:Int)(w:World):Calls prog 233 #[.int .i64 n] w (F9 w (Fe n)):=by
 have HE:Hid (F9 w (Fe n) _ _):=Rt w 3 n ⟨#[]⟩;go_enter func233,ntmps233;go_wp2;go_ret;exact HE.out
theorem Cl(w:World):Calls prog 242 #[] w (F9 w G7):=by
 have HE:Hid (F9 w G7 _ _):=Rt w 5 0 ⟨#[]⟩;go_enter func242,ntmps242;go_wp2;go_ret;exact HE.out
end Rb
namespace Ri
open Tryz
open Go.RowKit Go.Maps
variable {L:List KV} {s:ByteArray} {w:World} {b n:Nat}
def Fq (L:List KV) (s:ByteArray):Option KV:=L.find? fun x=>decide (x.key.name=s)
def G2 (L:List KV) (s:ByteArray):List KV:=L.filter fun x=>!decide (x.key.name=s)
def Nb (y:KV):List KV->List KV
 | []=> [y]
 |x::r=>if bytesBefore y.key.name.data.toList x.key.name.data.toList then y::x::r else x::Nb y r
def Ln (L:List KV) (y:KV):List KV:=Nb y (G2 L y.key.name)
theorem K7(x:KV)(s:ByteArray):(Mm x).1.sameKey (.string s.data.toList)=decide (x.key.name=s):=by
 show(x.key.name.data.toList==s.data.toList)=_;rw[Bool.eq_iff_iff,beq_iff_eq,decide_eq_true_iff];exact⟨fun e=>ByteArray.ext (Array.toList_inj.1 e),fun e=>by rw[e]⟩
theorem zng(s:ByteArray):∀L:List KV,(L.map Mm).find? (fun p=>p.1.sameKey (.string s.data.toList))=(Fq L s).map Mm
 |[]=>rfl
 |x::r=>by
  unfold Fq;rw[List.map_cons,List.find?_cons,List.find?_cons,K7];cases decide (x.key.name=s)with
  |true=>rfl
  |false=>exact zng s r
section
variable (L:List KV) (s:ByteArray)
theorem V0(z:DataW Value):(F4 L).atKey (.string s.data.toList) z=match Fq L s with|some x=> .held (kvA x)|none=>z:=by
 unfold F4 DataW.atKey;simp only[zng s L];cases Fq L s<;>rfl
theorem ybl:has (F4 L) (.string s.data.toList)=(Fq L s).isSome:=by
 unfold F4 Fq;rw[has_eq,List.any_map,List.isSome_find?];exact congrArg (fun f=>L.any f) (funext fun x=>K7 x s)
end
theorem zuk(s:ByteArray)(L:List KV):(L.map Mm).filter (fun p=>!p.1.sameKey (.string s.data.toList))=(G2 L s).map Mm:=by
 unfold G2;rw[List.filter_map];exact congrArg (fun f=>(L.filter f).map Mm) (funext fun x=>by rw[<-K7 x s];rfl)
theorem Ez(L:List KV)(s:ByteArray):(F4 L).del (.string s.data.toList)=F4 (G2 L s):=
 congrArg DataW.map (zuk s L)
theorem ybf(y:KV):∀L:List KV,DataW.insert (Mm y) (L.map Mm)=(Nb y L).map Mm
 |[]=>rfl
 |x::r=>by
  show(if bytesBefore y.key.name.data.toList x.key.name.data.toList=true then Mm y::Mm x::r.map Mm else Mm x::DataW.insert (Mm y) (r.map Mm))=(if bytesBefore y.key.name.data.toList x.key.name.data.toList=true then y::x::r else x::Nb y r).map Mm;rw[ybf y r];split<;>rfl
theorem yad(L:List KV)(y:KV):(F4 L).put (.string y.key.name.data.toList) (.held (kvA y))=F4 (Ln L y):=by
 show DataW.map (DataW.insert (Mm y) ((L.map Mm).filter fun p=>!p.1.sameKey (.string y.key.name.data.toList)))=_;rw[zuk,ybf];rfl
theorem Ow(L:List KV)(s:ByteArray):(G2 L s).map KV.key=G5 (L.map KV.key) s:=by
 unfold G2 G5;rw[List.filter_map];rfl
def Mk (k:Ke):List Ke->List Ke
 | []=> [k]
 |x::r=>if bytesBefore k.name.data.toList x.name.data.toList then k::x::r else x::Mk k r
theorem Ia(y:KV):∀L:List KV,(Nb y L).map KV.key=Mk y.key (L.map KV.key)
 |[]=>rfl
 |x::r=>by
  show(if bytesBefore y.key.name.data.toList x.key.name.data.toList=true then y::x::r else x::Nb y r).map KV.key=(if bytesBefore y.key.name.data.toList x.key.name.data.toList=true then y.key::x.key::r.map KV.key else x.key::Mk y.key (r.map KV.key));rw[<-Ia y r];split<;>rfl
theorem Ey(k:Ke):∀(ks acc:List Ke),ks.foldl (Lo k) (acc,true)=(acc++G5 ks k.name,true)
 |[],acc=>by simp[G5]
 |x::r,acc=>by
  rw[List.foldl_cons];by_cases e:x.name=k.name
  ·rw[show Lo k (acc,true) x=(acc,true) by simp[Lo,e],Ey k r];simp[G5,e]
  ·rw[show Lo k (acc,true) x=(acc++ [x],true) by simp[Lo,e],Ey k r];simp[G5,e]
theorem V6(x k:Ke):geB x k=!bytesBefore x.name.data.toList k.name.data.toList:=by
 unfold geB;rw[Ca,ByteArray.toList_eq,ByteArray.toList_eq]
theorem zxs(k:Ke):∀ks:List Ke,(∀x∈ks,bytesBefore k.name.data.toList x.name.data.toList=true)->Mk k ks=k::ks
 |[],_=>rfl
 |x::r,h=>by
  show(if _ then _ else _)=_;rw[if_pos (h x (by simp))]
theorem K5(k:Ke):∀(ks acc:List Ke),UpK ks->(if(ks.foldl (Lo k) (acc,false)).2=true then(ks.foldl (Lo k) (acc,false)).1 else(ks.foldl (Lo k) (acc,false)).1++ [k])=acc++Mk k (G5 ks k.name)
 |[],acc,_=>rfl
 |x::r,acc,hu=>by
  have Ga:=List.pairwise_cons.1 hu;rw[List.foldl_cons];by_cases e:x.name=k.name
  ·have g:geB x k=true:=by rw[V6,e,WideAt.bytes_irrefl];rfl
   rw[show Lo k (acc,false) x=(acc++ [k],true) by simp[Lo,e,g],Ey];have hg:G5 (x::r) k.name=G5 r k.name:=by simp[G5,e]
   rw[hg,zxs k _ (fun y hy=>by
    have:=Ga.1 y (List.mem_filter.1 hy).1;rwa[e]at this)]
   simp
  ·have hg:G5 (x::r) k.name=x::G5 r k.name:=by simp[G5,e]
   rw[hg];cases hb:bytesBefore x.name.data.toList k.name.data.toList with
   |false=>
    have g:geB x k=true:=by rw[V6,hb];rfl
    have hk:bytesBefore k.name.data.toList x.name.data.toList=true:=by
     rcases WideAt.bytes_total _ _ (fun e'=>e (ByteArray.ext (Array.toList_inj.1 e')))with h|h
     ·rw[hb]at h;cases h
     ·exact h
    rw[show Lo k (acc,false) x=(acc++ [k]++ [x],true) by simp[Lo,e,g],Ey];show _=acc++(if _ then _ else _);rw[if_pos hk];simp
   |true=>
    have g:geB x k=false:=by rw[V6,hb];rfl
    rw[show Lo k (acc,false) x=(acc++ [x],false) by simp[Lo,e,g],K5 k r _ Ga.2];show _=acc++(if _ then _ else _);rw[if_neg (by rw[zj2 hb];simp)];simp
theorem Rv(L:List KV)(y:KV)(hu:UpK (L.map KV.key)):(Ln L y).map KV.key=G0 (L.map KV.key) y.key:=by
 unfold Ln G0 stS;rw[Ia,Ow,K5 y.key _ [] hu];rfl
theorem Ou(s:ByteArray)(hu:UpK (L.map KV.key)):UpK ((G2 L s).map KV.key):=by
 rw[Ow];exact hu.sublist List.filter_sublist
theorem Z9{k z:Ke}:∀{ks:List Ke},z∈Mk k ks->z=k\/z∈ks
 |[],h=>Or.inl (by simpa[Mk]using h)
 |x::r,h=>by
  unfold Mk at h;split at h
  ·rcases List.mem_cons.1 h with h|h
   ·exact Or.inl h
   ·exact Or.inr h
  ·rcases List.mem_cons.1 h with h|h
   ·exact Or.inr (by rw[h];simp)
   ·rcases Z9 h with h|h
    ·exact Or.inl h
    ·exact Or.inr (by simp[h])
theorem Av(k:Ke):∀ks:List Ke,UpK ks->(∀x∈ks,x.name≠k.name)->UpK (Mk k ks)
 |[],_,_=>by simp[Mk,UpK]
 |x::r,hu,hn=>by
  have Ga:=List.pairwise_cons.1 hu;unfold Mk;split
  ·rename_i h;refine List.pairwise_cons.2 ⟨fun z hz=>?_,hu⟩;rcases List.mem_cons.1 hz with rfl|hz
   ·exact h
   ·exact WideShapes.bytes_trans _ _ _ h (Ga.1 z hz)
  ·rename_i h;refine List.pairwise_cons.2 ⟨fun z hz=>?_,Av k r Ga.2 (fun z hz=>hn z (by simp[hz]))⟩;rcases Z9 hz with rfl|hz
   ·rcases WideAt.bytes_total _ _ (fun e'=>hn x (by simp) (ByteArray.ext (Array.toList_inj.1 e')))with h'|h'
    ·exact h'
    ·exact absurd h' h
   ·exact Ga.1 z hz
theorem Ru(y:KV)(hu:UpK (L.map KV.key)):UpK ((Ln L y).map KV.key):=by
 unfold Ln;rw[Ia];refine Av _ _ (Ou _ hu) fun x hx=>?_;rw[Ow]at hx;have:=(List.mem_filter.1 hx).2;simpa using this
theorem znd(h:Fq L s=none)(at0:Nat):Lm (L.map KV.key) s at0= -1:=by
 induction L generalizing at0 with
 |nil=>rfl
 |cons x r ih=>
  unfold Fq at h;rw[List.find?_cons]at h;by_cases e:x.key.name=s
  ·rw[Qe e]at h;cases h
  ·rw[Qf e]at h;show(if x.key.name=s then _ else _)=_;rw[if_neg e];exact ih h _
theorem Iq{x:KV}(h:Fq L s=some x):∃i,i<L.length/\L.getD i kv0=x/\x.key.name=s/\Lm (L.map KV.key) s 0=(i:Int):=by
 suffices hh:∀at0,∃i,i<L.length/\L.getD i kv0=x/\x.key.name=s/\Lm (L.map KV.key) s at0=((at0+i:Nat):Int) by
  obtain⟨i,h1,h2,h3,h4⟩:=hh 0;exact⟨i,h1,h2,h3,by rw[h4,Qq]⟩
 induction L with
 |nil=>cases h
 |cons y r ih=>
  intro at0;unfold Fq at h;rw[List.find?_cons]at h;by_cases e:y.key.name=s
  ·rw[Qe e]at h;cases h;refine⟨0,by simp,by simp,e,?_⟩;show(if _ then _ else _)=_;rw[if_pos e];rfl
  ·rw[Qf e]at h;obtain⟨i,h1,h2,h3,h4⟩:=ih h (at0+1);refine⟨i+1,by simpa using h1,by simpa using h2,h3,?_⟩;show(if _ then _ else _)=_;rw[if_neg e,h4];congr 1;omega
theorem Ig(h:w.ownsMap prog 9 RK b n (F4 L))(s:ByteArray)(hn:s.size<=maxLen):
  (Instr.lookup 70 (.map (some b)) (.string s) true).run prog w=.ok (.tuple #[(match Fq L s with|some x=>kvA x|none=> .agg z7),.bool (Fq L s).isSome]) w:=by
 obtain⟨v,ps,Ga,hv⟩:=h.look_ok Ot underlying70 (Ef w) (zd:=.held (.agg z7)) (zp:=[]) rfl (Rh s hn);rw[V0]at hv;rw[ybl]at Ga;rw[Ga];obtain⟨y,rfl,e⟩:=B6 hv;cases hf:Fq L s with
 |none=>rw[hf]at e;injection e with e _;injection e with e;rw[e]
 |some x=>rw[hf]at e;injection e with e _;injection e with e;rw[<-e]
theorem zmc(h:w.ownsMap prog 9 RK b n (F4 L))(s:ByteArray)(hn:s.size<=maxLen):
  (Instr.lookup 70 (.map (some b)) (.string s) false).run prog w=.ok (match Fq L s with|some x=>kvA x|none=> .agg z7) w:=by
 obtain⟨v,ps,Ga,hv⟩:=h.lookup Ot underlying70 (Ef w) (zd:=.held (.agg z7)) (zp:=[]) rfl (Rh s hn);rw[V0]at hv;rw[Ga];obtain⟨y,rfl,e⟩:=B6 hv;cases hf:Fq L s with
 |none=>rw[hf]at e;injection e with e _;injection e with e;rw[e]
 |some x=>rw[hf]at e;injection e with e _;injection e with e;rw[<-e]
theorem zwh(h:w.ownsMap prog 9 RK b n (F4 L))(s:ByteArray)(hn:s.size<=maxLen)(ty:TypeId):
  ∃w',(Builtin.delete_ #[70,9] ty #[.map (some b),.string s]).run prog w=.ok (.tuple #[]) w'/\w'.ownsMap prog 9 RK b n (F4 (G2 L s))/\w.mapTurned w' b:=by
 have:=h.drop Ot underlying70 (Rh s hn) ty;rwa[Ez]at this
theorem zsf(h:w.ownsMap prog 9 RK b n (F4 L))(y:KV){a1 a2 a3:Option Addr}{n1 c1 n2 c2 n3 c3:Nat}(e1:y.vi=.slice a1 n1 c1)(e2:y.vp=.slice a2 n2 c2)(e3:y.vr=.slice a3 n3 c3)(hs:y.key.name.size<=maxLen)(hn:n<maxLen):
  ∃w',(Instr.mapUpdate 70 (.map (some b)) (.string y.key.name) (kvA y)).run prog w=.ok () w'/\w'.ownsMap prog 9 RK b (n+1) (F4 (Ln L y))/\w.mapTurned w' b:=by
 have:=h.store Ot underlying70 hn (Rh y.key.name hs) (yh0 e1 e2 e3);rwa[yad]at this
theorem C9(h:w.ownsMap prog 9 RK b n (F4 L))(ty:TypeId):(Builtin.len_ #[70] ty #[.map (some b)]).run prog w=.ok (.int .i64 L.length) w:=by
 rw[h.len underlying70 ty];simp[F4,Maps.size]
end Ri
namespace Rb
open Tryz
open _root_.ByteArray (empty)
open Go.RowKit Go.Maps
open Ri (F4 RK UpK)
variable {w:World} {g b n ab ao ac ln lc:Nat} {now:Int} {aa a:Option Addr} {L:List KV} {T:List ByteArray}
structure Ms (w:World) (g b n:Nat) (now:Int) (aa:Option Addr) (ab ao ac:Nat) (L:List KV) (T:List ByteArray):Prop where
 row:Fc w g 73 #[.map (some b),.int .i64 now,.slice aa T.length ac]
 ring:w.ownsMap prog 9 RK b n (F4 L)
 up:UpK (L.map KV.key)
 args:Fs w aa ab ao T.length T
def M6 (w:World) (R:List Rp) (e:Ending) (w':World):Prop:=
 ∃r,e= .returned (.tuple #[r,.nilIface])/\Fr w' w.heap.size r R/\Bl w w'
theorem Ms.c0(h:Ms w g b n now aa ab ao ac L T):w.cell? ⟨g,0,none⟩=some (.map (some b)):=h.row.cell 0
theorem Ms.c1(h:Ms w g b n now aa ab ao ac L T):w.cell? ⟨g,1,none⟩=some (.int .i64 now):=h.row.cell 1
theorem Ms.c2(h:Ms w g b n now aa ab ao ac L T):w.cell? ⟨g,2,none⟩=some (.slice aa T.length ac):=h.row.cell 2
section
variable (g b n:Nat) (now:Int) (aa:Option Addr) (ab ao ac:Nat) (L:List KV) (T:List ByteArray) (w:World)
theorem zm7(h:Ms w g b n now aa ab ao ac L T)(hT:0<T.length):
  Calls prog 173 #[.pointer (some ⟨g,0,none⟩)] w (M6 w (Fy (T.getD 0 empty))):=by
 have h2:=h.c2;have c0:=h.args.cell 0 hT;obtain rfl:=h.args.addr hT;rw[Qy]at c0;have HR:=hid fun W s=>Wt s W;clear h;generalize T.getD 0 empty=t,T.length=m at*;go_enter func173,ntmps173;go_wp2_with fail;refine(HR.out _ _).mono ?_;rintro e w1⟨r,rfl,hr,hb⟩;have HF:Hid (M6 w (Fy t) _ w1):=⟨r,rfl,hr,hb⟩;clear hr hb HR;go_wp2;go_ret2;exact HF.out
theorem zxq(h:Ms w g b n now aa ab ao ac L T)(hT2:T.length<=1048576):
  Calls prog 172 #[.pointer (some ⟨g,0,none⟩)] w (M6 w (if T.length=0 then Hd ⟨#[80,79,78,71]⟩ else Fy (T.getD 0 empty))):=by
 have h2:=h.c2;by_cases hT:T.length=0
 ·rw[if_pos hT];rw[hT]at h2;have HR:=hid fun W s=>Dg s W;clear h;go_enter func172,ntmps172;go_wp2_with fail;refine(HR.out _ _).mono ?_;rintro e w1⟨r,rfl,hr,hb⟩;have HF:Hid (M6 w (Hd ⟨#[80,79,78,71]⟩) _ w1):=⟨r,rfl,hr,hb⟩;clear hr hb HR;go_wp2;go_ret2;exact HF.out
 ·rw[if_neg hT];have HR:=hid (zm7 g b n now aa ab ao ac L T w h (by omega));have Ga:=beq_eq_false_iff_ne.2 (by omega);clear h;generalize T.getD 0 empty=t,T.length=m at*;go_enter func172,ntmps172;go_wp2_with fail;refine HR.out.mono ?_;rintro e w1⟨r,rfl,hr,hb⟩;have HF:Hid (M6 w (Fy t) _ w1):=⟨r,rfl,hr,hb⟩;clear hr hb HR;go_wp2;go_ret2;exact HF.out
theorem zp9(h:Ms w g b n now aa ab ao ac L T):
  Calls prog 175 #[.pointer (some ⟨g,0,none⟩)] w (M6 w (Fe L.length)):=by
 have h0:=h.c0;have HR:=hid fun W s=>Pg s W;have HO:=hid h.ring;have HS:Hid (Maps.size (F4 L)=L.length):=by unfold Hid;simp[F4,Maps.size]
 clear h;go_enter func175,ntmps175;go_wp2_with (at_len;refine wpList_len_own _ rfl _ 70 rfl 9 47 underlying70 _ b n _ rfl HO.out ?_);rw[HS.out];refine(HR.out _ _).mono ?_;rintro e w1⟨r,rfl,hr,hb⟩;have HF:Hid (M6 w (Fe L.length) _ w1):=⟨r,rfl,hr,hb⟩;clear hr hb HR;go_wp2;go_ret2;exact HF.out
end
open Ri (F4 RK UpK Fq kvA z7)
def Fb (L:List KV) (s:ByteArray):KV:=(Fq L s).getD kv0
theorem Cw(L:List KV)(s:ByteArray):(match Fq L s with|some x=>kvA x|none=> .agg z7)=kvA (Fb L s):=by
 unfold Fb;cases Fq L s<;>rfl
def Td (x:KV):Value:= .agg #[.int .i64 x.key.val.kind,.string x.key.val.text,x.vi,x.vp,x.vr]
theorem Ro(h:w.ownsMap prog 9 RK b n (F4 L))(s:ByteArray)(hn:s.size<=maxLen):
  ∃a1 n1 c1 a2 n2 c2 a3 n3 c3,(Fb L s).vi=.slice a1 n1 c1/\(Fb L s).vp=.slice a2 n2 c2/\(Fb L s).vr=.slice a3 n3 c3:=by
 obtain⟨v,ps,Ga,hv⟩:=h.lookup Ri.Ot underlying70 (Ri.Ef w) (zd:=.held (.agg z7)) (zp:=[]) rfl (Ri.Rh s hn);rw[Ri.V0]at hv;cases hf:Fq L s with
 |none=>
  unfold Fb;rw[hf];exact⟨_,_,_,_,_,_,_,_,_,rfl,rfl,rfl⟩
 |some x=>
  rw[hf]at hv;unfold Fb;rw[hf];obtain⟨y,rfl,e⟩:=Ri.B6 hv;injection e with e _;injection e with e;unfold kvA at e;injection e with e;have e:=Array.toList_inj.2 e;simp only[List.cons.injEq]at e;exact⟨_,_,_,_,_,_,_,_,_,e.2.2.2.1,e.2.2.2.2.1,e.2.2.2.2.2.1⟩
theorem yj9(a k t i p r d:Value)(w:World):(Instr.field 47 (.agg #[a,k,t,i,p,r,d]) 1).run prog w=.ok (.agg #[k,t,i,p,r]) w:=by
 simp[go_sem,Instr.field,asAgg]
theorem U1(g b n:Nat)(now:Int)(aa:Option Addr)(ab ao ac:Nat)(L:List KV)(T:List ByteArray)(w:World)(h:Ms w g b n now aa ab ao ac L T)(hT:0<T.length)(hs:(T.getD 0 empty).size<=maxLen):
  Calls prog 239 #[.pointer (some ⟨g,0,none⟩)] w fun e w'=>e=.returned (Td (Fb L (T.getD 0 empty)))/\Bl w w':=by
 obtain⟨W,hW,HW,b0,r0⟩:=boxed w #[.int .i64 0,.string ⟨#[]⟩,.slice none 0 0,.slice none 0 0,.slice none 0 0] 45;have Ga:=h.row.lt;have Gb:=h.args.low hT;have h0:=(b0.cell (p:=⟨g,0,none⟩) Ga).trans h.c0;have h2:=(b0.cell (p:=⟨g,2,none⟩) Ga).trans h.c2;have c0:=(b0.cell (p:=⟨ab,ao+0,none⟩) Gb).trans (h.args.cell 0 hT);obtain rfl:=h.args.addr hT;rw[Qy]at c0;have hr:W.ownsMap prog 9 RK b n (F4 L):=by rw[<-hW];exact h.ring.alloc _
 have hk:(Instr.lookup 70 (.map (some b)) (.string (T.getD 0 empty)) false).run prog W.drew=.ok (kvA (Fb L (T.getD 0 empty))) W.drew:=by
  rw[<-Cw];exact Ri.zmc hr.drew _ hs
 obtain⟨a1,n1,k1,a2,n2,k2,a3,n3,k3,e1,e2,e3⟩:=Ro hr (T.getD 0 empty) hs;have hm:(0:Int)<(T.length:Int):=by omega
 have f0:=r0.frozen 0;have d0:=r0.cell 0;have f1:=r0.frozen 1;have d1:=r0.cell 1;have f2:=r0.frozen 2;have d2:=r0.cell 2;have f3:=r0.frozen 3;have d3:=r0.cell 3;have f4:=r0.frozen 4;have d4:=r0.cell 4;simp only[Qm,Qk,Ql]at d0 d1 d2 d3 d4;have HZ:Hid (∀v0 v1 v2 v3 v4,∃W5,(((((W.setCell ⟨w.heap.size,0,none⟩ v0).setCell ⟨w.heap.size,1,none⟩ v1).setCell ⟨w.heap.size,2,none⟩ v2).setCell ⟨w.heap.size,3,none⟩ v3).setCell ⟨w.heap.size,4,none⟩ v4).drew=W5/\Fc W5 w.heap.size 45 #[v0,v1,v2,v3,v4]/\Bl w W5):=fun v0 v1 v2 v3 v4=>by
  have r1:=r0.set 0 v0;have r2:=r1.set 1 v1;have r3:=r2.set 2 v2;have r4:=r3.set 3 v3;have r5:=r4.set 4 v4;exact⟨_,rfl,r5,(((((b0.setCell (Qc _) v0).setCell (Qc _) v1).setCell (Qc _) v2).setCell (Qc _) v3).setCell (Qc _) v4).drew⟩
 clear h hr;unfold Td;unfold kvA kC at hk;rw[e1,e2,e3]at hk ⊢;generalize T.getD 0 empty=t,T.length=m at*;generalize(Fb L t).key=x at*;clear e1 e2 e3;have hf:=yj9 (.string x.name) (.int .i64 x.val.kind) (.string x.val.text) (.slice a1 n1 k1) (.slice a2 n2 k2) (.slice a3 n3 k3) (.int .i64 x.due) W.drew;go_enter func239,ntmps239;go_wp2;go_region;go_wp2;obtain⟨W5,e5,r5,b5⟩:=HZ.out (.int .i64 x.val.kind) (.string x.val.text) (.slice a1 n1 k1) (.slice a2 n2 k2) (.slice a3 n3 k3);rw[e5];clear f0 f1 f2 f3 f4 d0 d1 d2 d3 d4 h0 h2 c0 hk hf;have q0:=r5.cell 0;have q1:=r5.cell 1;have q2:=r5.cell 2;have q3:=r5.cell 3;have q4:=r5.cell 4;simp only[Qm,Qk,Ql]at q0 q1 q2 q3 q4;exact bodyPost_ret (v:=.agg #[.int .i64 x.val.kind,.string x.val.text,.slice a1 n1 k1,.slice a2 n2 k2,.slice a3 n3 k3]) (by simp[results,results239,go_sem,q0,q1,q2,q3,q4]) rfl ⟨rfl,b5⟩
theorem Fc.drew{T:TypeId}{C:Array Value}(h:Fc w g T C):Fc w.drew g T C:=h
theorem Cn{W:World}{B:Nat}{T:TypeId}{c0 c1 c2 c3 c4 c5 c6:Value}(r0:Fc W g T #[c0,c1,c2,c3,c4,c5,c6])(b0:Below B w W)(hg:B<=g)(v0 v1 v2 v3 v4 v5 v6:Value):
  ∃W7,(((((((W.setCell ⟨g,0,none⟩ v0).setCell ⟨g,1,none⟩ v1).setCell ⟨g,2,none⟩ v2).setCell ⟨g,3,none⟩ v3).setCell ⟨g,4,none⟩ v4).setCell ⟨g,5,none⟩ v5).setCell ⟨g,6,none⟩ v6).drew=W7/\Fc W7 g T #[v0,v1,v2,v3,v4,v5,v6]/\Below B w W7:=by
 have r1:=r0.set 0 v0;have r2:=r1.set 1 v1;have r3:=r2.set 2 v2;have r4:=r3.set 3 v3;have r5:=r4.set 4 v4;have r6:=r5.set 5 v5;have r7:=r6.set 6 v6;exact⟨_,rfl,Fc.drew r7,(((((((b0.setCell hg v0).setCell hg v1).setCell hg v2).setCell hg v3).setCell hg v4).setCell hg v5).setCell hg v6).drew⟩
structure yiw (w W:World) (g b ab ao m ac:Nat) (t:ByteArray) (x:Ke) (y:Bool) (a1:Option Addr) (n1 k1:Nat) (a2:Option Addr) (n2 k2:Nat) (a3:Option Addr) (n3 k3:Nat):Prop where
 new:w.alloc (.cells #[.string ⟨#[]⟩,.int .i64 0,.string ⟨#[]⟩,.slice none 0 0,.slice none 0 0,.slice none 0 0,.int .i64 0] 47)=W
 row:Fc W w.heap.size 47 #[.string ⟨#[]⟩,.int .i64 0,.string ⟨#[]⟩,.slice none 0 0,.slice none 0 0,.slice none 0 0,.int .i64 0]
 bel:Bl w W
 h0:w.cell? ⟨g,0,none⟩=some (.map (some b))
 h2:w.cell? ⟨g,2,none⟩=some (.slice (some ⟨ab,ao,none⟩) m ac)
 c0:w.cell? ⟨ab,ao,none⟩=some (.string t)
 H0:W.cell? ⟨g,0,none⟩=some (.map (some b))
 H2:W.cell? ⟨g,2,none⟩=some (.slice (some ⟨ab,ao,none⟩) m ac)
 C0:W.cell? ⟨ab,ao,none⟩=some (.string t)
 hk:(Instr.lookup 70 (.map (some b)) (.string t) true).run prog w.drew= .ok (.tuple #[.agg #[.string x.name,.int .i64 x.val.kind,.string x.val.text,.slice a1 n1 k1,.slice a2 n2 k2,.slice a3 n3 k3,.int .i64 x.due],.bool y]) w.drew
 hK:(Instr.lookup 70 (.map (some b)) (.string t) true).run prog W.drew= .ok (.tuple #[.agg #[.string x.name,.int .i64 x.val.kind,.string x.val.text,.slice a1 n1 k1,.slice a2 n2 k2,.slice a3 n3 k3,.int .i64 x.due],.bool y]) W.drew
 hm:(0:Int)<(m:Int)
 d0:W.cell? ⟨w.heap.size,0,none⟩=some (.string ⟨#[]⟩)
 f0:W.frozen? ⟨w.heap.size,0,none⟩=false
 d1:W.cell? ⟨w.heap.size,1,none⟩=some (.int .i64 0)
 f1:W.frozen? ⟨w.heap.size,1,none⟩=false
 d2:W.cell? ⟨w.heap.size,2,none⟩=some (.string ⟨#[]⟩)
 f2:W.frozen? ⟨w.heap.size,2,none⟩=false
 d3:W.cell? ⟨w.heap.size,3,none⟩=some (.slice none 0 0)
 f3:W.frozen? ⟨w.heap.size,3,none⟩=false
 d4:W.cell? ⟨w.heap.size,4,none⟩=some (.slice none 0 0)
 f4:W.frozen? ⟨w.heap.size,4,none⟩=false
 d5:W.cell? ⟨w.heap.size,5,none⟩=some (.slice none 0 0)
 f5:W.frozen? ⟨w.heap.size,5,none⟩=false
 d6:W.cell? ⟨w.heap.size,6,none⟩=some (.int .i64 0)
 f6:W.frozen? ⟨w.heap.size,6,none⟩=false
theorem Ms.look(h:Ms w g b n now aa ab ao ac L T)(hT:0<T.length)(hs:(T.getD 0 empty).size<=maxLen):
  ∃W a1 n1 k1 a2 n2 k2 a3 n3 k3,aa=some ⟨ab,ao,none⟩/\(Fb L (T.getD 0 empty)).vi=.slice a1 n1 k1/\(Fb L (T.getD 0 empty)).vp=.slice a2 n2 k2/\(Fb L (T.getD 0 empty)).vr=.slice a3 n3 k3/\
   yiw w W g b ab ao T.length ac (T.getD 0 empty) (Fb L (T.getD 0 empty)).key (Fq L (T.getD 0 empty)).isSome a1 n1 k1 a2 n2 k2 a3 n3 k3:=by
 obtain⟨W,hW,-,b0,r0⟩:=boxed w #[.string ⟨#[]⟩,.int .i64 0,.string ⟨#[]⟩,.slice none 0 0,.slice none 0 0,.slice none 0 0,.int .i64 0] 47;have Ga:=h.row.lt;have Gb:=h.args.low hT;have c0:=h.args.cell 0 hT;have C0:=(b0.cell (p:=⟨ab,ao+0,none⟩) Gb).trans c0;have ea:=h.args.addr hT;subst ea;rw[Qy]at c0 C0;have hR:W.ownsMap prog 9 RK b n (F4 L):=by rw[<-hW];exact h.ring.alloc _
 have hk:∀V:World,V.ownsMap prog 9 RK b n (F4 L)->(Instr.lookup 70 (.map (some b)) (.string (T.getD 0 empty)) true).run prog V=.ok (.tuple #[kvA (Fb L (T.getD 0 empty)),.bool (Fq L (T.getD 0 empty)).isSome]) V:=fun V hV=>by
  rw[<-Cw];exact Ri.Ig hV _ hs
 obtain⟨a1,n1,k1,a2,n2,k2,a3,n3,k3,e1,e2,e3⟩:=Ro h.ring (T.getD 0 empty) hs;unfold kvA kC at hk;rw[e1,e2,e3]at hk;exact⟨W,a1,n1,k1,a2,n2,k2,a3,n3,k3,rfl,e1,e2,e3,hW,r0,b0,h.c0,h.c2,c0,(b0.cell (p:=⟨g,0,none⟩) Ga).trans h.c0,(b0.cell (p:=⟨g,2,none⟩) Ga).trans h.c2,C0,hk _ h.ring.drew,hk _ hR.drew,by omega,r0.cell 0,r0.frozen 0,r0.cell 1,r0.frozen 1,r0.cell 2,r0.frozen 2,r0.cell 3,r0.frozen 3,r0.cell 4,r0.frozen 4,r0.cell 5,r0.frozen 5,r0.cell 6,r0.frozen 6⟩
theorem Ah(g b n:Nat)(now:Int)(aa:Option Addr)(ab ao ac:Nat)(L:List KV)(T:List ByteArray)(w:World)(h:Ms w g b n now aa ab ao ac L T)(hT:0<T.length)(hs:(T.getD 0 empty).size<=maxLen):
  Calls prog 236 #[.pointer (some ⟨g,0,none⟩)] w fun e w'=>e=.returned (.bool (Fq L (T.getD 0 empty)).isSome)/\Bl w w':=by
 obtain⟨W,a1,n1,k1,a2,n2,k2,a3,n3,k3,rfl,-,-,-,hl⟩:=h.look hT hs;clear h;generalize T.getD 0 empty=t,T.length=m at*;generalize(Fb L t).key=x,(Fq L t).isSome=y at*;have HZ:=hid (Cn hl.row hl.bel (Qc _));obtain⟨hW,r0,b0,h0,h2,c0,H0,H2,C0,hk,hK,hm,d0,f0,d1,f1,d2,f2,d3,f3,d4,f4,d5,f5,d6,f6⟩:=hl;clear r0;go_enter func236,ntmps236;go_wp2;go_region;obtain⟨W5,e5,r5,b5⟩:=HZ.out (.string x.name) (.int .i64 x.val.kind) (.string x.val.text) (.slice a1 n1 k1) (.slice a2 n2 k2) (.slice a3 n3 k3) (.int .i64 x.due);rw[e5];clear f0 f1 f2 f3 f4 f5 f6 d0 d1 d2 d3 d4 d5 d6 h0 h2 c0 H0 H2 C0 hk hK e5 HZ;have HB:=hid b5;clear b5;go_wp2;go_ret;exact⟨rfl,HB.out⟩
section
variable (k t i p r:Value) (w:World)
theorem yfx:(Instr.field 45 (.agg #[k,t,i,p,r]) 0).run prog w=.ok k w:=by
 simp[go_sem,Instr.field,asAgg]
theorem Bt:(Instr.field 45 (.agg #[k,t,i,p,r]) 1).run prog w=.ok t w:=by
 simp[go_sem,Instr.field,asAgg]
theorem Ur:(Instr.field 45 (.agg #[k,t,i,p,r]) 2).run prog w=.ok i w:=by
 simp[go_sem,Instr.field,asAgg]
theorem B1:(Instr.field 45 (.agg #[k,t,i,p,r]) 3).run prog w=.ok p w:=by
 simp[go_sem,Instr.field,asAgg]
theorem Wq:(Instr.field 45 (.agg #[k,t,i,p,r]) 4).run prog w=.ok r w:=by
 simp[go_sem,Instr.field,asAgg]
end
theorem ztu(g b n:Nat)(now kd:Int)(aa:Option Addr)(ab ao ac:Nat)(L:List KV)(T:List ByteArray)(w:World)(h:Ms w g b n now aa ab ao ac L T)(hT:0<T.length)(hs:(T.getD 0 empty).size<=maxLen):
  Calls prog 91 #[.pointer (some ⟨g,0,none⟩),.int .i64 kd] w fun e w'=>e=.returned (.bool ((Fq L (T.getD 0 empty)).isSome&&!((Fb L (T.getD 0 empty)).key.val.kind==kd)))/\Bl w w':=by
 obtain⟨W,a1,n1,k1,a2,n2,k2,a3,n3,k3,rfl,-,-,-,hl⟩:=h.look hT hs;clear h;generalize T.getD 0 empty=t,T.length=m at*;generalize(Fb L t).key=x,(Fq L t).isSome=y at*;have HZ:Hid (∀v0 v1 v2 v3 v4 v5 v6,_):=Cn hl.row hl.bel (Qc _);obtain⟨hW,r0,b0,h0,h2,c0,H0,H2,C0,hk,hK,hm,d0,f0,d1,f1,d2,f2,d3,f3,d4,f4,d5,f5,d6,f6⟩:=hl;clear r0;go_enter func91,ntmps91;go_wp2;go_region;obtain⟨W5,e5,r5,b5⟩:=HZ.out (.string x.name) (.int .i64 x.val.kind) (.string x.val.text) (.slice a1 n1 k1) (.slice a2 n2 k2) (.slice a3 n3 k3) (.int .i64 x.due);rw[e5];clear f0 f1 f2 f3 f4 f5 f6 d0 d1 d2 d3 d4 d5 d6 h0 h2 c0 H0 H2 C0 hk hK e5 HZ;have HB:Hid (Bl w W5):=b5;have q1:W5.cell? ⟨w.heap.size,1,none⟩=some (.int .i64 x.val.kind):=r5.cell 1;clear b5 r5;cases y with
 |false=>
  go_wp2;go_ret;exact⟨rfl,HB.out⟩
 |true=>
  go_wp2;go_ret;exact⟨rfl,HB.out⟩
theorem zqe(g b n:Nat)(now:Int)(aa:Option Addr)(ab ao ac:Nat)(L:List KV)(T:List ByteArray)(w:World)(h:Ms w g b n now aa ab ao ac L T)(hT:0<T.length)(hs:(T.getD 0 empty).size<=maxLen):
  Calls prog 187 #[.pointer (some ⟨g,0,none⟩)] w (M6 w (Fe (Fb L (T.getD 0 empty)).key.val.text.size)):=by
 have HR:Hid (∀W s,Cp 233 #[.int .i64 s] W (F9 W (Fe s))):=fun W s=>Pg s W;have HH:Hid (Cp 239 #[.pointer (some ⟨g,0,none⟩)] w fun e w'=>e=.returned (Td (Fb L (T.getD 0 empty)))/\Bl w w'):=U1 g b n now aa ab ao ac L T w h hT hs;obtain⟨a1,n1,k1,a2,n2,k2,a3,n3,k3,e1,e2,e3⟩:=Ro h.ring (T.getD 0 empty) hs;clear h;unfold Td at HH;rw[e1,e2,e3]at HH;generalize(Fb L (T.getD 0 empty)).key=x at*;clear e1 e2 e3;go_enter func187,ntmps187;go_wp2_with fail;refine HH.out.mono ?_;rintro e w1⟨rfl,b1⟩;have HB:Hid (Bl w w1):=b1;clear b1 HH;have hf:=Bt (.int .i64 x.val.kind) (.string x.val.text) (.slice a1 n1 k1) (.slice a2 n2 k2) (.slice a3 n3 k3) w1;go_wp2_with fail;refine(HR.out _ _).mono ?_;rintro e w2⟨r,rfl,hr,hb⟩;have HF:Hid (M6 w (Fe x.val.text.size) _ w2):=⟨r,rfl,hr.le HB.out.size,HB.out.trans (hb.mono HB.out.size)⟩;clear hr hb HR;go_wp2;go_ret2;exact HF.out
theorem Ms.bw{w':World}(h:Ms w g b n now aa ab ao ac L T)(hb:Bl w w'):Ms w' g b n now aa ab ao ac L T:=by
 refine⟨h.row.bw hb h.row.lt,?_,h.up,Lb h.args hb⟩;have Gb:=h.ring.lt;obtain⟨es,Ga,hm,Ft,hs,hD⟩:=h.ring;exact⟨es,Ga,(hb.block b Gb).trans hm,Ft,hs,hD⟩
section
variable (g b n:Nat) (now:Int) (aa:Option Addr) (ab ao ac:Nat) (L:List KV) (T:List ByteArray) (w:World)
theorem zwx(h:Ms w g b n now aa ab ao ac L T)(hT:0<T.length)(hs:(T.getD 0 empty).size<=maxLen)(ev:(Fb L (T.getD 0 empty)).vi=.slice a ln lc):
  Calls prog 195 #[.pointer (some ⟨g,0,none⟩)] w (M6 w (Fe ln)):=by
 have HR:=hid fun W s=>Pg s W;have HH:=hid (U1 g b n now aa ab ao ac L T w h hT hs);obtain⟨a1,n1,k1,a2,n2,k2,a3,n3,k3,e1,e2,e3⟩:=Ro h.ring (T.getD 0 empty) hs;clear h;unfold Td at HH;rw[e1]at ev;injection ev with x1 x2 x3;subst x1 x2 x3;rw[e1,e2,e3]at HH;generalize(Fb L (T.getD 0 empty)).key=x at*;clear e1 e2 e3;go_enter func195,ntmps195;go_wp2_with fail;refine HH.out.mono ?_;rintro e w1⟨rfl,b1⟩;have HB:=hid b1;clear b1 HH;have hf:=Ur (.int .i64 x.val.kind) (.string x.val.text) (.slice a1 n1 k1) (.slice a2 n2 k2) (.slice a3 n3 k3) w1;go_wp2_with fail;refine(HR.out _ _).mono ?_;rintro e w2⟨r,rfl,hr,hb⟩;have HF:Hid (M6 w (Fe n1) _ w2):=⟨r,rfl,hr.le HB.out.size,HB.out.trans (hb.mono HB.out.size)⟩;clear hr hb HR;go_wp2;go_ret2;exact HF.out
theorem zwr(h:Ms w g b n now aa ab ao ac L T)(hT:0<T.length)(hs:(T.getD 0 empty).size<=maxLen)(ev:(Fb L (T.getD 0 empty)).vp=.slice a ln lc):
  Calls prog 200 #[.pointer (some ⟨g,0,none⟩)] w (M6 w (Fe ln)):=by
 have HR:=hid fun W s=>Pg s W;have HH:=hid (U1 g b n now aa ab ao ac L T w h hT hs);obtain⟨a1,n1,k1,a2,n2,k2,a3,n3,k3,e1,e2,e3⟩:=Ro h.ring (T.getD 0 empty) hs;clear h;unfold Td at HH;rw[e2]at ev;injection ev with x1 x2 x3;subst x1 x2 x3;rw[e1,e2,e3]at HH;generalize(Fb L (T.getD 0 empty)).key=x at*;clear e1 e2 e3;go_enter func200,ntmps200;go_wp2_with fail;refine HH.out.mono ?_;rintro e w1⟨rfl,b1⟩;have HB:=hid b1;clear b1 HH;have hf:=B1 (.int .i64 x.val.kind) (.string x.val.text) (.slice a1 n1 k1) (.slice a2 n2 k2) (.slice a3 n3 k3) w1;go_wp2_with fail;refine(HR.out _ _).mono ?_;rintro e w2⟨r,rfl,hr,hb⟩;have HF:Hid (M6 w (Fe n2) _ w2):=⟨r,rfl,hr.le HB.out.size,HB.out.trans (hb.mono HB.out.size)⟩;clear hr hb HR;go_wp2;go_ret2;exact HF.out
theorem zt3(h:Ms w g b n now aa ab ao ac L T)(hT:0<T.length)(hs:(T.getD 0 empty).size<=maxLen)(ev:(Fb L (T.getD 0 empty)).vr=.slice a ln lc):
  Calls prog 204 #[.pointer (some ⟨g,0,none⟩)] w (M6 w (Fe ln)):=by
 have HR:=hid fun W s=>Pg s W;have HH:=hid (U1 g b n now aa ab ao ac L T w h hT hs);obtain⟨a1,n1,k1,a2,n2,k2,a3,n3,k3,e1,e2,e3⟩:=Ro h.ring (T.getD 0 empty) hs;clear h;unfold Td at HH;rw[e3]at ev;injection ev with x1 x2 x3;subst x1 x2 x3;rw[e1,e2,e3]at HH;generalize(Fb L (T.getD 0 empty)).key=x at*;clear e1 e2 e3;go_enter func204,ntmps204;go_wp2_with fail;refine HH.out.mono ?_;rintro e w1⟨rfl,b1⟩;have HB:=hid b1;clear b1 HH;have hf:=Wq (.int .i64 x.val.kind) (.string x.val.text) (.slice a1 n1 k1) (.slice a2 n2 k2) (.slice a3 n3 k3) w1;go_wp2_with fail;refine(HR.out _ _).mono ?_;rintro e w2⟨r,rfl,hr,hb⟩;have HF:Hid (M6 w (Fe n3) _ w2):=⟨r,rfl,hr.le HB.out.size,HB.out.trans (hb.mono HB.out.size)⟩;clear hr hb HR;go_wp2;go_ret2;exact HF.out
theorem ybk(h:Ms w g b n now aa ab ao ac L T)(hT:0<T.length)(hs:(T.getD 0 empty).size<=maxLen):
  Calls prog 186 #[.pointer (some ⟨g,0,none⟩)] w (M6 w (if(Fq L (T.getD 0 empty)).isSome=true then Fy (Fb L (T.getD 0 empty)).key.val.text else G7)):=by
 have HN:=hid fun W=>Cl W;have HR:=hid fun W s=>Wt s W;have HT:=hid (Ah g b n now aa ab ao ac L T w h hT hs);have HH:=hid fun W (hb:Bl w W)=>U1 g b n now aa ab ao ac L T W (h.bw hb) hT hs;obtain⟨a1,n1,k1,a2,n2,k2,a3,n3,k3,e1,e2,e3⟩:=Ro h.ring (T.getD 0 empty) hs;clear h;unfold Td at HH;rw[e1,e2,e3]at HH;generalize(Fb L (T.getD 0 empty)).key=x,(Fq L (T.getD 0 empty)).isSome=y at*;clear e1 e2 e3;cases y with
 |false=>
  go_enter func186,ntmps186;go_wp2_with fail;refine HT.out.mono ?_;rintro e w1⟨rfl,b1⟩;have HB:=hid b1;clear b1 HT;go_wp2_with fail;refine(HN.out _).mono ?_;rintro e w2⟨r,rfl,hr,hb⟩;have HF:Hid (M6 w G7 _ w2):=⟨r,rfl,hr.le HB.out.size,HB.out.trans (hb.mono HB.out.size)⟩;clear hr hb HR HN;go_wp2;go_ret2;exact HF.out
 |true=>
  go_enter func186,ntmps186;go_wp2_with fail;refine HT.out.mono ?_;rintro e w1⟨rfl,b1⟩;have HB:=hid b1;clear b1 HT;go_wp2_with fail;refine(HH.out _ HB.out).mono ?_;rintro e w2⟨rfl,b2⟩;have HC:=hid (HB.out.trans (b2.mono HB.out.size));clear b2 HH HB;have hf:=Bt (.int .i64 x.val.kind) (.string x.val.text) (.slice a1 n1 k1) (.slice a2 n2 k2) (.slice a3 n3 k3) w2;go_wp2_with fail;refine(HR.out _ _).mono ?_;rintro e w3⟨r,rfl,hr,hb⟩;have HF:Hid (M6 w (Fy x.val.text) _ w3):=⟨r,rfl,hr.le HC.out.size,HC.out.trans (hb.mono HC.out.size)⟩;clear hr hb HR HN;go_wp2;go_ret2;exact HF.out
end
theorem zr3(k:Nat)(hk:k<=4)(w:World):Calls prog 238 #[.int .i64 k] w fun e w'=>e=.returned (.string (Py k))/\Bl w w':=by
 have HB:Hid (Bl w w):=Qb _ w;obtain rfl|rfl|rfl|rfl|rfl:k=0\/k=1\/k=2\/k=3\/k=4:=by omega
 all_goals
  go_enter func238,ntmps238;go_wp2;go_ret;exact⟨rfl,HB.out⟩
section
variable (g b n:Nat) (now:Int) (aa:Option Addr) (ab ao ac:Nat) (L:List KV) (T:List ByteArray) (w:World)
theorem zv6(h:Ms w g b n now aa ab ao ac L T)(hT:0<T.length)(hs:(T.getD 0 empty).size<=maxLen)(kd:Nat)(hk:(Fb L (T.getD 0 empty)).key.val.kind=kd)(hk4:kd<=4):
  Calls prog 182 #[.pointer (some ⟨g,0,none⟩)] w (M6 w (Hd (Py kd))):=by
 have HR:=hid fun W s=>Dg s W;have HK:=hid fun W=>zr3 kd hk4 W;have HH:=hid (U1 g b n now aa ab ao ac L T w h hT hs);obtain⟨a1,n1,k1,a2,n2,k2,a3,n3,k3,e1,e2,e3⟩:=Ro h.ring (T.getD 0 empty) hs;clear h;unfold Td at HH;rw[e1,e2,e3,hk]at HH;generalize(Fb L (T.getD 0 empty)).key=x,Py kd=s at*;clear e1 e2 e3;go_enter func182,ntmps182;go_wp2_with fail;refine HH.out.mono ?_;rintro e w1⟨rfl,b1⟩;have HB:=hid b1;clear b1 HH;have hf:=yfx (.int .i64 kd) (.string x.val.text) (.slice a1 n1 k1) (.slice a2 n2 k2) (.slice a3 n3 k3) w1;go_wp2_with fail;refine(HK.out _).mono ?_;rintro e w2⟨rfl,b2⟩;have HC:=hid (HB.out.trans (b2.mono HB.out.size));clear b2 HB HK hf;go_wp2_with fail;refine(HR.out _ _).mono ?_;rintro e w3⟨r,rfl,hr,hb⟩;have HF:Hid (M6 w (Hd s) _ w3):=⟨r,rfl,hr.le HC.out.size,HC.out.trans (hb.mono HC.out.size)⟩;clear hr hb HR;go_wp2;go_ret2;exact HF.out
theorem yag(h:Ms w g b n now aa ab ao ac L T)(hT:0<T.length)(hs:(T.getD 0 empty).size<=maxLen)(hnow:0<=now/\now<=1000000000)(hdue:0<=(Fb L (T.getD 0 empty)).key.due/\(Fb L (T.getD 0 empty)).key.due<=1000000000):
  Calls prog 183 #[.pointer (some ⟨g,0,none⟩)] w (M6 w (Fe (if(Fq L (T.getD 0 empty)).isSome=true then(if(Fb L (T.getD 0 empty)).key.due=0 then-1 else(Fb L (T.getD 0 empty)).key.due-now) else-2))):=by
 have HR:=hid fun W s=>Bn s W;have Gg:=h.row.lt;have g1:=h.c1;obtain⟨W,a1,n1,k1,a2,n2,k2,a3,n3,k3,rfl,-,-,-,hl⟩:=h.look hT hs;clear h;generalize T.getD 0 empty=t,T.length=m at*;generalize(Fb L t).key=x,(Fq L t).isSome=y at*;have HZ:=hid (Cn hl.row hl.bel (Qc _));obtain⟨hW,r0,b0,h0,h2,c0,H0,H2,C0,hk,hK,hm,d0,f0,d1,f1,d2,f2,d3,f3,d4,f4,d5,f5,d6,f6⟩:=hl;clear r0;obtain⟨N,hN⟩:∃N,(if y=true then(if x.due=0 then(-1:Int) else x.due-now) else-2)=N:=⟨_,rfl⟩;rw[hN];have HN:=hid hN;clear hN;go_enter func183,ntmps183;go_wp2;go_region;obtain⟨W5,e5,r5,b5⟩:=HZ.out (.string x.name) (.int .i64 x.val.kind) (.string x.val.text) (.slice a1 n1 k1) (.slice a2 n2 k2) (.slice a3 n3 k3) (.int .i64 x.due);rw[e5];clear f0 f1 f2 f3 f4 f5 f6 d0 d1 d2 d3 d4 d5 d6 h0 h2 c0 H0 H2 C0 hk hK e5 HZ hW;have HB:=hid b5;have q6:=r5.cell 6;have q1:=(b5.cell (p:=⟨g,1,none⟩) Gg).trans g1;have Gh:=r5.lt;have Ga:g<W5.heap.size:=Qr Gg b5.size;clear b5 r5 b0;have HE:Hid (∀i r w2,Fr w2 W5.heap.size r (Fe i)->Bl W5 w2->M6 w (Fe i) (.returned (.tuple #[r,.nilIface])) w2):=fun i r w2 hr hb=>⟨r,rfl,hr.le HB.out.size,HB.out.trans (hb.mono HB.out.size)⟩;cases y with
 |false=>
  obtain rfl:-2=N:=HN.out;go_wp2_with fail;refine(HR.out _ _).mono ?_;rintro e w2⟨r,rfl,hr,hb⟩;have HF:Hid _:=HE.out _ r w2 hr hb;clear hr hb HR HE;go_wp2;go_ret2;exact HF.out
 |true=>
  by_cases hd:x.due=0
  ·rw[hd]at q6;obtain rfl:-1=N:=by have:=HN.out;rwa[if_pos rfl,if_pos hd]at this
   clear HN;go_wp2_with fail;refine(HR.out _ _).mono ?_;rintro e w2⟨r,rfl,hr,hb⟩;have HF:Hid _:=HE.out _ r w2 hr hb;clear hr hb HR HE;go_wp2;go_ret2;exact HF.out
  ·obtain rfl:x.due-now=N:=by have:=HN.out;rwa[if_pos rfl,if_neg hd]at this
   clear HN;have Gi:=beq_eq_false_iff_ne.2 hd;obtain⟨Gf,Gd⟩:=hnow;obtain⟨Ge,Gc⟩:=hdue;have Gj:IntKind.i64.wrap (x.due-now)=x.due-now:=by rw[IntKind.wrap_i64];omega
   go_upto_region 6 with fail;go_region_held3 (fun V=>V.cell? ⟨w.heap.size,6,none⟩=some (.int .i64 x.due)/\V.cell? ⟨g,1,none⟩=some (.int .i64 now))
    (first|exact⟨q6,q1⟩|exact⟨(Gb.cell (p:=⟨w.heap.size,6,none⟩) Gh).trans q6,(Gb.cell (p:=⟨g,1,none⟩) Ga).trans q1⟩)
    (first
     |(go_at_call 237;refine(HR.out _ _).mono ?_;rintro e w2⟨r,rfl,hr,hb⟩;have Gb:=(below_drewN (Qb _ W5) 1).trans hb;have HF:Hid _:=HE.out _ r w2 hr Gb))
   all_goals
    go_wp2;go_ret2;exact HF.out
end
end Rb
namespace Rb
open Tryz
open _root_.ByteArray (empty)
open Go.RowKit Go.Maps
open Ri (F4 RK UpK Fq G2 Nb Mk Ln kvA z7 Ow Rv Ou Ru)
variable {ks:List Ke} {y:KV} {w w' w1 w2:World} {B g b n ab ao ac i:Nat} {L M:List KV} {now:Int} {aa:Option Addr} {T:List ByteArray} {A:Addr} {t:ByteArray} {D:DataW Value} {ad:Nat->Addr} {R:List Rp} {r:Value}
theorem J0(a b:ByteArray):Op.bytesLess a.toList b.toList=bytesBefore a.data.toList b.data.toList:=by
 rw[Ri.Ca,ByteArray.toList_eq,ByteArray.toList_eq]
theorem Ns(ks:List Ke):Fm ks=true↔ks.length<=20/\UpK ks/\∀k∈ks,Hh k=true:=by
 constructor
 ·intro h;have hu:=Ri.Wb h;unfold Fm at h;rw[Qh,Qh,Qw,Qw]at h;refine⟨Qg h.1,hu,fun k hk=>?_⟩;obtain⟨i,hi,rfl⟩:=List.getElem_of_mem hk;have:=h.2.2 i (List.mem_range.2 hi);rwa[Qa,Qd hi]at this
 ·rintro⟨h1,h2,h3⟩;unfold Fm;rw[Qh,Qh,Qw,Qw];refine⟨Qe h1,fun i hi=>?_,fun i hi=>?_⟩
  ·have hi:=List.mem_range.1 hi;unfold riK;rw[Bool.or_eq_true];by_cases h0:i=0
   ·exact .inl (Qe h0)
   ·refine .inr ?_;rw[J0];unfold UpK at h2;rw[List.pairwise_iff_getElem]at h2;have:=h2 (i-1) i (by omega) hi (by omega);rwa[Qa,Qa,Qd hi,Qd (by omega:i-1<ks.length)]
  ·have hi:=List.mem_range.1 hi;rw[Qa,Qd hi];exact h3 _ (Qv hi)
theorem V9(k:Ke):∀ks:List Ke,k∈Mk k ks
 |[]=>by simp[Mk]
 |x::r=>by
  unfold Mk;split
  ·simp
  ·simp[V9 k r]
theorem Wz(k:Ke)(hu:UpK ks):G0 ks k=Mk k (G5 ks k.name):=by
 unfold G0 stS;rw[Ri.K5 k ks [] hu];rfl
theorem Ih{k:Ke}{s:ByteArray}(h:k∈G5 ks s):k∈ks/\k.name≠s:=by
 obtain⟨h1,h2⟩:=List.mem_filter.1 h;exact⟨h1,by simpa using h2⟩
theorem C4(h:Fm ks=true)(s:ByteArray):Fm (G5 ks s)=true:=by
 rw[Ns]at h ⊢;refine⟨Qj (Qt _ _) h.1,h.2.1.sublist List.filter_sublist,fun k hk=>h.2.2 k (Ih hk).1⟩
theorem W9(h:Fm ks=true)(k:Ke):Fm (G0 ks k)=(Hh k&&decide ((G0 ks k).length<=20)):=by
 have hu:=Ri.Wb h;have hg:=C4 h k.name;rw[Ns]at hg;rw[Bool.eq_iff_iff,Ns,Qh,decide_eq_true_iff];constructor
 ·rintro⟨h1,-,h3⟩;exact⟨h3 k (by rw[Wz k hu];exact V9 k _),h1⟩
 ·rintro⟨h1,h2⟩;refine⟨h2,?_,fun z hz=>?_⟩
  ·rw[Wz k hu];exact Ri.Av k _ hg.2.1 fun x hx=>(Ih hx).2
  ·rw[Wz k hu]at hz;rcases Ri.Z9 hz with rfl|hz
   ·exact h1
   ·exact hg.2.2 z hz
def Pn (x y:KV):Prop:=(∀g,x.vi.ownBlock=some g->y.vi.ownBlock≠some g)/\(∀g,x.vp.ownBlock=some g->y.vp.ownBlock≠some g)/\(∀g,x.vr.ownBlock=some g->y.vr.ownBlock≠some g)
theorem Pn.symm{x:KV}(h:Pn x y):Pn y x:=
 ⟨fun g h1 h2=>h.1 g h2 h1,fun g h1 h2=>h.2.1 g h2 h1,fun g h1 h2=>h.2.2 g h2 h1⟩
structure Mu (w:World) (B:Nat) (L:List KV):Prop where
 own:∀x∈L,VOwn w B x.key.val x.vi x.vp x.vr
 ap:L.Pairwise Pn
theorem Mu.bw(h:Mu w B L)(hb:Bl w w'):Mu w' B L:=
 ⟨fun x hx=>(h.own x hx).bw hb,h.ap⟩
theorem Mu.gone(h:Mu w B L)(s:ByteArray):Mu w B (G2 L s):=
 ⟨fun x hx=>h.own x (List.mem_filter.1 hx).1,h.ap.sublist List.filter_sublist⟩
theorem Ae{z:KV}:∀{L:List KV},z∈Nb y L->z=y\/z∈L
 |[],h=>Or.inl (by simpa[Nb]using h)
 |x::r,h=>by
  unfold Nb at h;split at h
  ·rcases List.mem_cons.1 h with h|h
   ·exact Or.inl h
   ·exact Or.inr h
  ·rcases List.mem_cons.1 h with h|h
   ·exact Or.inr (by rw[h];simp)
   ·rcases Ae h with h|h
    ·exact Or.inl h
    ·exact Or.inr (by simp[h])
theorem ybr(y:KV):∀L:List KV,L.Pairwise Pn->(∀x∈L,Pn y x)->(Nb y L).Pairwise Pn
 |[],_,_=>by simp[Nb]
 |x::r,hp,hy=>by
  have Ga:=List.pairwise_cons.1 hp;unfold Nb;split
  ·exact List.pairwise_cons.2 ⟨hy,hp⟩
  ·refine List.pairwise_cons.2 ⟨fun z hz=>?_,ybr y r Ga.2 fun z hz=>hy z (by simp[hz])⟩;rcases Ae hz with rfl|hz
   ·exact(hy x (by simp)).symm
   ·exact Ga.1 z hz
theorem Mu.put(h:Mu w B (G2 L y.key.name))(hy:VOwn w B y.key.val y.vi y.vp y.vr)(ha:∀x∈G2 L y.key.name,Pn y x):Mu w B (Ln L y):=by
 refine⟨fun x hx=>?_,ybr y _ h.ap ha⟩;rcases Ae hx with rfl|hx
 ·exact hy
 ·exact h.own x hx
theorem Mu.kept(h:Mu w B L)(hk:∀g e C,e≠47->Fc w g e C->w'.heap[g]?=w.heap[g]?):Mu w' B L:=
 ⟨fun x hx=>Wf (h.own x hx) hk,h.ap⟩
theorem Mu.rising{N:Nat}{β:Nat->Nat}(h:Rising w B L N β):Mu w B L:=by
 constructor
 ·intro x hx;obtain⟨i,hi,rfl⟩:=List.getElem_of_mem hx;have h1:=h.own i hi;have h2:=h.low i (by omega);rw[Qa,Qd hi]at h1;exact⟨L5 h1.ia h2,L5 h1.pj h2,L5 h1.rq h2⟩
 ·rw[List.pairwise_iff_getElem];intro i j hi hj hij;have hm:=h.mono (i+1) j (by omega) (by omega);have h1:=h.lt1 i hi;have h2:=h.lt2 i hi;have h3:=h.lt3 i hi;have ho:=h.own j hj;rw[Qa,Qd hi]at h1 h2 h3;rw[Qa,Qd hj]at ho;refine⟨fun g a b=>?_,fun g a b=>?_,fun g a b=>?_⟩
  ·have:=(Hf ho.ia b).1;have:=h1 g a;omega
  ·have:=(Hf ho.pj b).1;have:=h2 g a;omega
  ·have:=(Hf ho.rq b).1;have:=h3 g a;omega
structure Fu (w:World) (B g b n:Nat) (now:Int) (aa:Option Addr) (ab ao ac:Nat) (L M:List KV) (T:List ByteArray):Prop where
 call:Ms w g b n now aa ab ao ac L T
 vals:Mu w B M
 lg:B<=g
 lb:B<=b
 la:0<T.length->ab<B
 n25:22<=B
 le:B<=w.heap.size
theorem Fu.bw(h:Fu w B g b n now aa ab ao ac L M T)(hb:Bl w w'):Fu w' B g b n now aa ab ao ac L M T:=
 ⟨h.call.bw hb,h.vals.bw hb,h.lg,h.lb,h.la,h.n25,Qj h.le hb.size⟩
theorem Fu.gone(h:Fu w B g b n now aa ab ao ac L M T)(s:ByteArray):Fu w B g b n now aa ab ao ac L (G2 M s) T:=
 ⟨h.call,h.vals.gone s,h.lg,h.lb,h.la,h.n25,h.le⟩
abbrev gi (i:Nat):Nat:=[2,7,0,0,0,0,1,0,0,5,6,11,12].getD i 0
structure Ny (w:World) (i:Nat) (A:Addr) (t:ByteArray):Prop where
 v:w.cell? ⟨gi i,0,none⟩=some (.iface 307 (.pointer (some A)))
 t:w.cell? A=some (.string t)
 li:gi i<22
 row:∃C T,w.heap[A.block]?=some (.cells C T (0,0))
theorem Ny.low(h:Ny w i A t):A.block<w.heap.size:=by
 obtain⟨C,T,e⟩:=h.row;exact(Array.getElem?_eq_some_iff.1 e).1
theorem Ny.bw(h:Ny w i A t)(hb:Below B w w')(hB:22<=B)(hA:A.block<B):Ny w' i A t:=by
 obtain⟨C,T,e⟩:=h.row;exact⟨(hb.cell (p:=⟨gi i,0,none⟩) (by have:=h.li;show gi i<B;omega)).trans h.v,(hb.cell hA).trans h.t,h.li,C,T,(hb.block _ hA).trans e⟩
theorem zqx{a:Option Addr}{off:Nat}{ss:List ByteArray}(h:Fs w a b off n ss)(hb:Below B w w')(hl:0<n->b<B):Fs w' a b off n ss:=
 ⟨h.len,h.addr,fun h0=>by have:=h.low h0;have:=hb.size;omega,fun i hi=>(hb.cell (p:=⟨b,off+i,none⟩) (hl (by omega))).trans (h.cell i hi),h.fit⟩
theorem B8{T:TypeId}{C:Array Value}(h:w.ownsMap prog 9 RK b n D)(hr:Fc w g T C):g≠b:=fun e=>by
 subst e;obtain⟨es,Ga,hb,_⟩:=h;have:=hr.symm.trans hb;cases this
theorem Ds(hg:w.grownBy w' (some b))(hB:B<=b)(hl:B<=w.heap.size):Below B w w':=
 ⟨hg.os,hg.tape,hg.output,hg.size,fun j hj=>hg.block j (by omega) (fun e=>by cases e;omega)⟩
theorem Ci(h:w.ownsMap prog 9 RK b n D)(hg:w.grownBy w' (some b)):∀g e C,e≠47->Fc w g e C->w'.heap[g]?=w.heap[g]?:=
 fun g e C _ hC=>hg.block g hC.lt (fun eq=>B8 h hC (by cases eq;rfl))
theorem Fu.turned{n':Nat}{L' M':List KV}(h:Fu w B g b n now aa ab ao ac L M T)(hg:w.grownBy w' (some b))(ho:w'.ownsMap prog 9 RK b n' (F4 L'))(hu:UpK (L'.map KV.key))(hv:Mu w' B M'):Fu w' B g b n' now aa ab ao ac L' M' T/\Below B w w':=by
 have hb:=Ds hg h.lb h.le;have Ga:=(hg.block g h.call.row.lt (fun eq=>B8 h.call.ring h.call.row (by cases eq;rfl))).trans h.call.row;exact⟨⟨⟨Ga,ho,hu,zqx h.call.args hb h.la⟩,hv,h.lg,h.lb,h.la,h.n25,Qj h.le hb.size⟩,hb⟩
theorem Wu(B g b n:Nat)(now:Int)(aa:Option Addr)(ab ao ac:Nat)(L:List KV)(T:List ByteArray)(w:World)(y:KV)(h:Fu w B g b n now aa ab ao ac L (G2 L y.key.name) T)(hy:VOwn w B y.key.val y.vi y.vp y.vr)(ha:∀x∈G2 L y.key.name,Pn y x)(hs:KSm y.key.val)(hnm:y.key.name.size<=1048576)(hn:n<=1000)(hR:Ready w)(he:Ny w 1 A My)(hA:A.block<B):
  Calls prog 240 #[.pointer (some ⟨g,0,none⟩),kvA y] w fun e w'=>e=.returned (if(Hh y.key&&decide ((Ln L y).length<=20))=true then .nilIface else .iface 307 (.pointer (some A)))/\Fu w' B g b (n+1) now aa ab ao ac (Ln L y) (Ln L y) T/\w.grownBy w' (some b):=by
 have Gm:(1048576:Nat)<=maxLen:=by unfold maxLen;omega
 obtain⟨a1,k1,e1⟩:=Fx hy.ia;obtain⟨a2,k2,e2⟩:=Fx hy.pj;obtain⟨a3,k3,e3⟩:=Fx hy.rq;obtain⟨W0,Gj,Gd,b0,r0⟩:=boxed w (kC y.key.name y.key.val.kind y.key.val.text y.vi y.vp y.vr y.key.due) 47;have q0:w.heap.size<W0.heap.size:=by rw[<-Gj];simp
 have h0:=h.bw b0;have Gl:=h0.call.ring.drew;obtain⟨W1,Ga,ho,ht⟩:=Ri.zsf Gl y e1 e2 e3 (by omega) (by unfold maxLen;omega);have hg:W0.grownBy W1 (some b):=by
  have:=ht.grown;exact⟨this.os,this.tape,this.output,this.size,this.block⟩
 have hk:=Ci h0.call.ring hg;have Gi:=(h0.vals.kept hk).put (Wf (hy.bw b0) hk) ha;obtain⟨Gc,Gk⟩:=h0.turned hg ho (Ru y h.call.up) Gi;have Gg:=(b0.mono h.le).trans Gk;have r1:Fc W1 w.heap.size 47 (kC y.key.name y.key.val.kind y.key.val.text y.vi y.vp y.vr y.key.due):=(hg.block _ q0 (fun eq=>B8 h0.call.ring r0 (by cases eq;rfl))).trans r0;have Gb:w.grownBy W1 (some b):=⟨hg.os.trans b0.os,hg.tape.trans b0.tape,hg.output.trans b0.output,Qj b0.size hg.size,fun k hk hne=>(hg.block k (by omega) hne).trans (b0.block k hk)⟩;have HK:Hid (Cp 61 #[.agg #[.string y.key.name,.int .i64 y.key.val.kind,.string y.key.val.text,y.vi,y.vp,y.vr,.int .i64 y.key.due]] W1 fun e w'=>e=.returned (.bool (!Hh y.key))/\Bl W1 w'):=zjq y B W1 (Wf (hy.bw b0) hk) hs hnm (hR.bw (Gg.mono h.n25));have Gh:=(he.bw Gg h.n25 hA).v;have HF:Hid (∀w2,Bl W1 w2->Fu w2 B g b (n+1) now aa ab ao ac (Ln L y) (Ln L y) T/\w.grownBy w2 (some b)):=fun w2 b2=>
  ⟨Gc.bw b2,b2.os.trans Gb.os,b2.tape.trans Gb.tape,b2.output.trans Gb.output,Qj Gb.size b2.size,fun k hk hne=>(b2.block k (Qr hk Gb.size)).trans (Gb.block k hk hne)⟩
 have HO:Hid (∀w2,Bl W1 w2->w2.ownsMap prog 9 RK b (n+1) (F4 (Ln L y))/\w2.cell? ⟨g,0,none⟩=some (.map (some b))/\w2.cell? ⟨7,0,none⟩=some (.iface 307 (.pointer (some A)))):=fun w2 b2=>
  ⟨(Gc.bw b2).call.ring,(Gc.bw b2).call.c0,(b2.cell (p:=⟨7,0,none⟩) (by have:=Gc.le;have:=h.n25;show 7<W1.heap.size;omega)).trans Gh⟩
 have HS:Hid (Maps.size (F4 (Ln L y))=(Ln L y).length):=by unfold Hid;simp[F4,Maps.size]
 have g0:=h0.call.c0;have d0:=r0.cell 0;have d1:=r0.cell 1;have d2:=r0.cell 2;have d3:=r0.cell 3;have d4:=r0.cell 4;have d5:=r0.cell 5;have d6:=r0.cell 6;have u0:=r1.cell 0;have u1:=r1.cell 1;have u2:=r1.cell 2;have u3:=r1.cell 3;have u4:=r1.cell 4;have u5:=r1.cell 5;have u6:=r1.cell 6;simp only[Qm,Qk,Ql]at d0 d1 d2 d3 d4 d5 d6 u0 u1 u2 u3 u4 u5 u6;unfold kvA;unfold kvA at Ga;rw[e1,e2,e3]at Ga HK Gd ⊢;rw[e1]at d3 u3;rw[e2]at d4 u4;rw[e3]at d5 u5;obtain⟨ev,Gf⟩:∃ev,(if(Hh y.key&&decide ((Ln L y).length<=20))=true then Value.nilIface else .iface 307 (.pointer (some A)))=ev:=⟨_,rfl⟩;have HV:=hid Gf;rw[Gf];clear h h0 Gl ho ht hg hk Gi Gc Gk Gg r1 r0 Gb hy ha hs hnm hn hR he hA Gh Gf e1 e2 e3 b0 q0 Gm Gj;go_enter func240,ntmps240;go_upto_region 1 with fail;rw[Gd.out];clear Gd;go_region;clear Ga d0 d1 d2 d3 d4 d5 d6 g0;generalize hkb:Hh y.key=kb at*;cases kb with
 |false=>
  go_wp2_with fail;refine HK.out.mono ?_;rintro e w2⟨rfl,b2⟩;have HG:=hid (HF.out w2 b2);obtain⟨-,-,p3⟩:=HO.out w2 b2;obtain rfl:_=ev:=HV.out;clear HK HF HO HS b2 u0 u1 u2 u3 u4 u5 u6 HV;go_wp2;go_ret;exact⟨rfl,HG.out⟩
 |true=>
  by_cases hl:(Ln L y).length<=20
  ·have Gn:decide ((20:Int)<((Ln L y).length:Int))=false:=by exact Qf (by omega)
   obtain rfl:Value.nilIface=ev:=by have:=HV.out;rwa[Qe hl,Bool.and_true,if_pos rfl]at this
   clear HV;go_wp2_with fail;refine HK.out.mono ?_;rintro e w2⟨rfl,b2⟩;have HG:=hid (HF.out w2 b2);obtain⟨p1,p2,p3⟩:=HO.out w2 b2;have Ge:=Ri.C9 p1;clear HK HF HO b2 u0 u1 u2 u3 u4 u5 u6 p1;go_wp2;go_ret;exact⟨rfl,HG.out⟩
  ·have Gn:decide ((20:Int)<((Ln L y).length:Int))=true:=by exact Qe (by omega)
   obtain rfl:Value.iface 307 (.pointer (some A))=ev:=by have:=HV.out;rwa[Qf hl,Bool.and_false,if_neg (by simp)]at this
   clear HV;go_wp2_with fail;refine HK.out.mono ?_;rintro e w2⟨rfl,b2⟩;have HG:=hid (HF.out w2 b2);obtain⟨p1,p2,p3⟩:=HO.out w2 b2;have Ge:=Ri.C9 p1;clear HK HF HO b2 u0 u1 u2 u3 u4 u5 u6 p1;go_wp2;go_ret;exact⟨rfl,HG.out⟩
def Mi (L:List KV) (y:KV):Bool:=Ml y.key||(Hh y.key&&decide ((Ln L y).length<=20))
def Pj (L:List KV) (y:KV):List KV:=if Ml y.key=true then G2 L y.key.name else Ln L y
def Lf (A:Addr) (ok:Bool):Value:=if ok=true then .nilIface else .iface 307 (.pointer (some A))
theorem zzd(h:Fm (L.map KV.key)=true)(y:KV)(R:List Rp):Fj (L.map KV.key) y.key R=if Mi L y=true then((Pj L y).map KV.key,R) else(L.map KV.key,Fl My):=by
 unfold Fj Mi Pj;cases Ml y.key with
 |true=>simp[Ow]
 |false=>
  have hu:=Ri.Wb h;rw[W9 h,<-Rv L y hu,Qp];simp
def Hk (w:World) (B g b n:Nat) (now:Int) (aa:Option Addr) (ab ao ac:Nat) (L:List KV) (T:List ByteArray) (A:Addr) (y:KV) (e:Ending) (w':World):Prop:=
 e= .returned (Lf A (Mi L y))/\(∃n',n'<=n+1/\Fu w' B g b n' now aa ab ao ac (Pj L y) (Pj L y) T)/\w.grownBy w' (some b)
section
variable (v:Value) (w:World)
theorem zxo:(Go.method 482 231 v "loop.example/g00302/impl.texts").run prog w= .ok (369,v) w:=by kernel_rfl
theorem zsg:(Go.method 482 232 v "loop.example/g00302/impl.texts").run prog w= .ok (371,v) w:=by kernel_rfl
theorem zts:(Go.method 482 233 v "loop.example/g00302/impl.texts").run prog w= .ok (253,v) w:=by kernel_rfl
theorem zr6:(Go.method 482 234 v "loop.example/g00302/impl.texts").run prog w= .ok (303,v) w:=by kernel_rfl
end
theorem Wv(b1:Bl w w1)(g2:w1.grownBy w2 (some b)):w.grownBy w2 (some b):=
 ⟨g2.os.trans b1.os,g2.tape.trans b1.tape,g2.output.trans b1.output,Qj b1.size g2.size,fun k hk hne=>(g2.block k (Qr hk b1.size) hne).trans (b1.block k hk)⟩
theorem zxp(t:ByteArray)(w:World):Calls prog 369 #[.string t] w fun e w'=>e=.returned (.slice (some ⟨w.heap.size,0,none⟩) 1 1)/\Bl w w':=by
 have hb:Bl w (w.alloc (.cells #[.string t] 9)):=(Qb _ w).alloc (Qc _) _;go_enter func369,ntmps369;go_wp2;go_ret;exact⟨rfl,hb⟩
def Ll (L:List KV) (nm t:ByteArray):KV:=⟨⟨nm,⟨1,t,[],[],[]⟩,(Fb L nm).key.due⟩,.slice none 0 0,.slice none 0 0,.slice none 0 0⟩
theorem El(a k t i p r d:Value)(w:World):(Instr.field 47 (.agg #[a,k,t,i,p,r,d]) 2).run prog w=.ok d w:=by
 simp[go_sem,Instr.field,asAgg]
theorem zyd(w:World)(B:Nat)(k:Int)(t:ByteArray):VOwn w B ⟨k,t,[],[],[]⟩ (.slice none 0 0) (.slice none 0 0) (.slice none 0 0):=
 ⟨World.ownsRow_nil _ _ _ _,World.ownsRow_nil _ _ _ _,World.ownsRow_nil _ _ _ _⟩
theorem yai{k:Int}(ht:t.size<=1048576):KSm ⟨k,t,[],[],[]⟩:=
 ⟨⟨ht,by simp,by simp,by simp⟩,by simp,fun x hx=>by simp at hx⟩
theorem yfb(k:Ke)(x:KV):Pn ⟨k,.slice none 0 0,.slice none 0 0,.slice none 0 0⟩ x:=
 ⟨fun g e=>(by cases e),fun g e=>(by cases e),fun g e=>(by cases e)⟩
theorem Fu.look1(h:Fu w B g b n now aa ab ao ac L M T)(nm:ByteArray)(hs:nm.size<=1048576):
  ∃a1 n1 k1 a2 n2 k2 a3 n3 k3,(Fb L nm).vi=.slice a1 n1 k1/\(Fb L nm).vp=.slice a2 n2 k2/\(Fb L nm).vr=.slice a3 n3 k3/\∀V,Bl w V->V.cell? ⟨g,0,none⟩=some (.map (some b))/\(Instr.lookup 70 (.map (some b)) (.string nm) false).run prog V=.ok (.agg #[.string (Fb L nm).key.name,.int .i64 (Fb L nm).key.val.kind,.string (Fb L nm).key.val.text,.slice a1 n1 k1,.slice a2 n2 k2,.slice a3 n3 k3,.int .i64 (Fb L nm).key.due]) V:=by
 have Ga:(1048576:Nat)<=maxLen:=by unfold maxLen;omega
 obtain⟨a1,n1,k1,a2,n2,k2,a3,n3,k3,e1,e2,e3⟩:=Ro h.call.ring nm (by omega);refine⟨a1,n1,k1,a2,n2,k2,a3,n3,k3,e1,e2,e3,fun V hb=>?_⟩;have hc:=(h.bw hb).call;have hk:(Instr.lookup 70 (.map (some b)) (.string nm) false).run prog V=.ok (kvA (Fb L nm)) V:=by
  rw[<-Cw];exact Ri.zmc hc.ring nm (by omega)
 refine⟨hc.c0,?_⟩;unfold kvA kC at hk;rwa[e1,e2,e3]at hk
theorem zns(B g b n:Nat)(now:Int)(aa:Option Addr)(ab ao ac:Nat)(L:List KV)(T:List ByteArray)(w:World)(t:ByteArray)(h:Fu w B g b n now aa ab ao ac L (G2 L (T.getD 0 empty)) T)(hT:0<T.length)(hnm:(T.getD 0 empty).size<=1048576)(ht:t.size<=1048576)(hn:n<=1000)(hR:Ready w)(he:Ny w 1 A My)(hA:A.block<B):
  Calls prog 244 #[.pointer (some ⟨g,0,none⟩),.iface 231 (.string t)] w (Hk w B g b n now aa ab ao ac L T A (Ll L (T.getD 0 empty) t)):=by
 have Gd:(1048576:Nat)<=maxLen:=by unfold maxLen;omega
 have HX:=hid fun W=>zxp t W;have HV:=hid fun W=>Y8 t W;have HS:Hid (∀W,Bl w W->Cp 240 #[.pointer (some ⟨g,0,none⟩),kvA (Ll L (T.getD 0 empty) t)] W fun e w'=>e=.returned (Lf A (Mi L (Ll L (T.getD 0 empty) t)))/\Hk w B g b n now aa ab ao ac L T A (Ll L (T.getD 0 empty) t) e w'):=fun W hb=>by
  refine(Wu B g b n now aa ab ao ac L T W (Ll L (T.getD 0 empty) t) (h.bw hb) (zyd _ _ _ _) (fun x _=>yfb _ _) (yai ht) hnm hn (hR.bw (hb.mono (Qj h.n25 h.le))) (he.bw (hb.mono h.le) h.n25 hA) hA).mono ?_;rintro e w'⟨rfl,hw,hg⟩;refine(fun h=>⟨h.1,h⟩:Hk w B g b n now aa ab ao ac L T A (Ll L (T.getD 0 empty) t) _ w'->_) ⟨?_,⟨n+1,Qc _,?_⟩,Wv hb hg⟩
  ·unfold Lf Mi;rw[show Ml (Ll L (T.getD 0 empty) t).key=false by unfold Ml Ll;simp,Bool.false_or]
  ·unfold Pj;rw[show Ml (Ll L (T.getD 0 empty) t).key=false by unfold Ml Ll;simp,if_neg (by simp)];exact hw
 obtain⟨a1,n1,k1,a2,n2,k2,a3,n3,k3,e1,e2,e3,Gb⟩:=h.look1 (T.getD 0 empty) hnm;have HL:=hid Gb;have h2:=h.call.c2;have c0:=h.call.args.cell 0 hT;obtain rfl:=h.call.args.addr hT;rw[Qy]at c0;have Ge:(0:Int)<(T.length:Int):=by omega
 have mT:=zxo;generalize hM:Hk w B g b n now (some ⟨ab,ao,none⟩) ab ao ac L T A (Ll L (T.getD 0 empty) t)=M at*;clear hM h e1 e2 e3 he hR hA hn Gb hnm ht Gd;generalize Lf A (Mi L (Ll L (T.getD 0 empty) t))=ev at*;unfold kvA kC Ll at HS;dsimp only at HS;generalize T.getD 0 empty=nm,T.length=m at*;generalize(Fb L nm).key=x at*;have hf:=El (.string x.name) (.int .i64 x.val.kind) (.string x.val.text) (.slice a1 n1 k1) (.slice a2 n2 k2) (.slice a3 n3 k3) (.int .i64 x.due);go_enter func244,ntmps244;go_wp2_with fail;refine(HX.out _).mono ?_;rintro e w1⟨rfl,b1⟩;have HB:=hid b1;clear b1 HX;obtain⟨q0,q1⟩:=HL.out w1.drew (below_drewN HB.out 1);go_upto_region 5 with fail;go_region_with
  (first
   |(go_at_call 214;refine(HV.out _).mono ?_;rintro e w2⟨rfl,b2⟩;have Gc:=(below_drewN HB.out 1).trans (b2.mono HB.out.size);obtain⟨p0,p1⟩:=HL.out w2 Gc)
   |(go_at_call 240;refine(HS.out _ Gc).mono ?_;rintro e w3⟨rfl,Ga⟩))
 all_goals
  have HW:Hid _:=Ga;clear Ga;go_wp2;go_ret;exact HW.out
theorem zst(a:Option Addr)(n c:Nat)(w:World):Calls prog 371 #[.slice a n c] w fun e w'=>e=.returned (.slice a n c)/\Bl w w':=by
 have hb:=Qb w.heap.size w;go_enter func371,ntmps371;go_wp2;go_ret;exact⟨rfl,hb⟩
theorem Tu:∀is:List Pr,(Hj is).length=2*is.length
 |[]=>rfl
 |p::r=>by
  have ih:=Tu r;unfold Hj at ih ⊢;rw[List.flatMap_cons,Qi,ih];simp;omega
theorem Bc:∀is:List Kk.Rk,(Kk.G8 is).length=2*is.length
 |[]=>rfl
 |p::r=>by
  have ih:=Bc r;unfold Kk.G8 at ih ⊢;rw[List.flatMap_cons,Qi,ih];simp[Kk.Mp];omega
def Pb (L:List KV) (nm:ByteArray) (v:Value) (is:List ByteArray):KV:=⟨⟨nm,⟨2,⟨#[]⟩,is,[],[]⟩,(Fb L nm).key.due⟩,v,.slice none 0 0,.slice none 0 0⟩
def Rm (L:List KV) (nm:ByteArray) (v:Value) (is:List Pr):KV:=⟨⟨nm,⟨3,⟨#[]⟩,[],is,[]⟩,(Fb L nm).key.due⟩,.slice none 0 0,v,.slice none 0 0⟩
def P6 (L:List KV) (nm:ByteArray) (v:Value) (is:List Kk.Rk):KV:=⟨⟨nm,⟨4,⟨#[]⟩,[],[],is⟩,(Fb L nm).key.due⟩,.slice none 0 0,.slice none 0 0,v⟩
theorem K2(b1:Bl w w1)(ht:w1.mapTurned w2 b):w.grownBy w2 (some b):=Wv b1 ht.grown
section
variable (B g b n:Nat) (now:Int) (aa:Option Addr) (ab ao ac:Nat) (L:List KV) (T:List ByteArray) (w:World) (a:Option Addr) (c:Nat)
theorem zk1(is:List ByteArray)(h:Fu w B g b n now aa ab ao ac L (G2 L (T.getD 0 empty)) T)(hv:Fz w B (.slice a is.length c) is)(hap:∀x∈G2 L (T.getD 0 empty),∀g,(Value.slice a is.length c).ownBlock=some g->x.vi.ownBlock≠some g)(hT:0<T.length)(hnm:(T.getD 0 empty).size<=1048576)(hlen:is.length<=1048576)(hn:n<=1000)(hR:Ready w)(he:Ny w 1 A My)(hA:A.block<B):
  Calls prog 244 #[.pointer (some ⟨g,0,none⟩),.iface 232 (.slice a is.length c)] w (Hk w B g b n now aa ab ao ac L T A (Pb L (T.getD 0 empty) (.slice a is.length c) is)):=by
 have Gg:(1048576:Nat)<=maxLen:=by unfold maxLen;omega
 have HX:=hid fun W (_:Bl w W)=>zst a is.length c W;have HV:=hid fun W=>zij a is.length c W;have Ga:Ml (Pb L (T.getD 0 empty) (.slice a is.length c) is).key=decide (is.length=0):=by unfold Ml Pb;simp
 have HS:Hid (∀W,is.length≠0->Bl w W->Cp 240 #[.pointer (some ⟨g,0,none⟩),kvA (Pb L (T.getD 0 empty) (.slice a is.length c) is)] W fun e w'=>e=.returned (Lf A (Mi L (Pb L (T.getD 0 empty) (.slice a is.length c) is)))/\Hk w B g b n now aa ab ao ac L T A (Pb L (T.getD 0 empty) (.slice a is.length c) is) e w'):=fun W hne hb=>by
  refine(Wu B g b n now aa ab ao ac L T W (Pb L (T.getD 0 empty) (.slice a is.length c) is) (h.bw hb) ⟨Fw hv hb,World.ownsRow_nil _ _ _ _,World.ownsRow_nil _ _ _ _⟩ (fun x hx=>⟨fun g e=>hap x hx g e,fun g e=>(by cases e),fun g e=>(by cases e)⟩) ⟨⟨by show(0:Nat)<=_;omega,hlen,by show(0:Nat)<=_;omega,by show(0:Nat)<=_;omega⟩,by show(0:Nat)<=_;omega,fun x hx=>absurd hx (List.not_mem_nil)⟩ hnm hn (hR.bw (hb.mono (Qj h.n25 h.le))) (he.bw (hb.mono h.le) h.n25 hA) hA).mono ?_;rintro e w'⟨rfl,hw,hg⟩;rw[Qf hne]at Ga;refine(fun h=>⟨h.1,h⟩:Hk w B g b n now aa ab ao ac L T A (Pb L (T.getD 0 empty) (.slice a is.length c) is) _ w'->_) ⟨?_,⟨n+1,Qc _,?_⟩,Wv hb hg⟩
  ·unfold Lf Mi;rw[Ga,Bool.false_or]
  ·unfold Pj;rw[Ga,if_neg (by simp)];exact hw
 have HD:Hid (∀W W',is.length=0->Bl w W->W'.ownsMap prog 9 RK b n ((F4 L).del (.string (T.getD 0 empty).data.toList))->W.mapTurned W' b->Hk w B g b n now aa ab ao ac L T A (Pb L (T.getD 0 empty) (.slice a is.length c) is) (.returned .nilIface) W'):=fun W W' he0 hb ho ht=>by
  rw[Ri.Ez]at ho;rw[Qe he0]at Ga;have hw:=(h.bw hb);have hk:=Ci hw.call.ring ht.grown;obtain⟨Gf,-⟩:=hw.turned ht.grown ho (Ou _ h.call.up) (hw.vals.kept hk);refine⟨?_,⟨n,Nat.le_succ _,?_⟩,K2 hb ht⟩
  ·unfold Lf Mi;rw[Ga,Bool.true_or,if_pos rfl]
  ·unfold Pj;rw[Ga,if_pos rfl];exact Gf
 have HO:Hid (∀W,Bl w W->W.ownsMap prog 9 RK b n (F4 L)/\W.cell? ⟨g,0,none⟩=some (.map (some b))):=fun W hb=>⟨(h.bw hb).call.ring,(h.bw hb).call.c0⟩;have HK:Hid (keyOf prog 9 (.string (T.getD 0 empty))=some (.string (T.getD 0 empty).data.toList)):=Ri.Rh _ (by omega);obtain⟨a1,n1,k1,a2,n2,k2,a3,n3,k3,e1,e2,e3,Gc⟩:=h.look1 (T.getD 0 empty) hnm;have HL:=hid Gc;have h2:=h.call.c2;have c0:=h.call.args.cell 0 hT;obtain rfl:=h.call.args.addr hT;rw[Qy]at c0;have Gi:(0:Int)<(T.length:Int):=by omega
 have mT:=zsg;generalize hM:Hk w B g b n now (some ⟨ab,ao,none⟩) ab ao ac L T A (Pb L (T.getD 0 empty) (.slice a is.length c) is)=M at*;clear hM h e1 e2 e3 he hR hA hn Gc hnm Gg hv hap Ga;generalize Lf A (Mi L (Pb L (T.getD 0 empty) (.slice a is.length c) is))=ev at*;unfold kvA kC Pb at HS;dsimp only at HS;generalize T.getD 0 empty=nm,T.length=m at*;generalize(Fb L nm).key=x at*;by_cases hz:is.length=0
 ·have Gh:=hid fun W W'=>HD.out W W' hz;clear HD HS HV;rw[hz]at HX ⊢;skip;go_enter func244,ntmps244;go_wp2_with fail;refine(HX.out _ (Qb _ _)).mono ?_;rintro e w1⟨rfl,b1⟩;have HB:=hid b1;obtain⟨p1,p2⟩:=HO.out w1 b1;have HP:=hid p1;clear b1 HX p1;go_wp2_with (at_delete;refine wpList_delete_own _ rfl _ _ 70 9 rfl 47 Ri.Ot underlying70 _ b n _ rfl HP.out _ _ rfl HK.out ?_;intro w2 ho2 ht2;have HW:=hid (Gh.out w1 w2 HB.out ho2 ht2);clear ho2 ht2);exact HW.out
 ·have Gj:=beq_eq_false_iff_ne.2 (by omega);have hf:=El (.string x.name) (.int .i64 x.val.kind) (.string x.val.text) (.slice a1 n1 k1) (.slice a2 n2 k2) (.slice a3 n3 k3) (.int .i64 x.due);have Ge:=hid fun W (hb:Bl w W)=>HS.out W hz hb;clear HS HD HO;generalize is.length=il at*;clear hz hlen;go_enter func244,ntmps244;go_wp2_with fail;refine(HX.out _ (Qb _ _)).mono ?_;rintro e w1⟨rfl,b1⟩;have HB:=hid b1;clear b1 HX;obtain⟨q0,q1⟩:=HL.out w1.drew (below_drewN HB.out 1);go_upto_region 5 with fail;go_region_with
   (first
    |(go_at_call 214;refine(HV.out _).mono ?_;rintro e w2⟨rfl,b2⟩;have Gd:=(below_drewN HB.out 1).trans (b2.mono HB.out.size);obtain⟨p0,p1⟩:=HL.out w2 Gd)
    |(go_at_call 240;refine(Ge.out _ Gd).mono ?_;rintro e w3⟨rfl,Gb⟩))
  all_goals
   have HW:Hid _:=Gb;clear Gb;go_wp2;go_ret;exact HW.out
theorem zlc(is:List Pr)(h:Fu w B g b n now aa ab ao ac L (G2 L (T.getD 0 empty)) T)(hv:G3 w B (.slice a is.length c) is)(hap:∀x∈G2 L (T.getD 0 empty),∀g,(Value.slice a is.length c).ownBlock=some g->x.vp.ownBlock≠some g)(hT:0<T.length)(hnm:(T.getD 0 empty).size<=1048576)(hlen:is.length<=1048576)(hn:n<=1000)(hR:Ready w)(he:Ny w 1 A My)(hA:A.block<B):
  Calls prog 244 #[.pointer (some ⟨g,0,none⟩),.iface 233 (.slice a is.length c)] w (Hk w B g b n now aa ab ao ac L T A (Rm L (T.getD 0 empty) (.slice a is.length c) is)):=by
 have Gm:(1048576:Nat)<=maxLen:=by unfold maxLen;omega
 obtain⟨Gs,A0,Gq,Gl,Gf⟩:=Ox hv;injection Gl with z1 z2 z3;subst z1 z3;have HX:=hid fun W (hb:Bl w W)=>A8 a A0 is.length c is W (Gf.bw hb) (by omega);have HV:=hid fun W=>ziu a is.length c W;have Ga:Ml (Rm L (T.getD 0 empty) (.slice a is.length c) is).key=decide (is.length=0):=by unfold Ml Rm;simp
 have HS:Hid (∀W,is.length≠0->Bl w W->Cp 240 #[.pointer (some ⟨g,0,none⟩),kvA (Rm L (T.getD 0 empty) (.slice a is.length c) is)] W fun e w'=>e=.returned (Lf A (Mi L (Rm L (T.getD 0 empty) (.slice a is.length c) is)))/\Hk w B g b n now aa ab ao ac L T A (Rm L (T.getD 0 empty) (.slice a is.length c) is) e w'):=fun W hne hb=>by
  refine(Wu B g b n now aa ab ao ac L T W (Rm L (T.getD 0 empty) (.slice a is.length c) is) (h.bw hb) ⟨World.ownsRow_nil _ _ _ _,Fw hv hb,World.ownsRow_nil _ _ _ _⟩ (fun x hx=>⟨fun g e=>(by cases e),fun g e=>hap x hx g e,fun g e=>(by cases e)⟩) ⟨⟨by show(0:Nat)<=_;omega,by show(0:Nat)<=_;omega,by show is.length<=_;omega,by show(0:Nat)<=_;omega⟩,hlen,fun x hx=>absurd hx (List.not_mem_nil)⟩ hnm hn (hR.bw (hb.mono (Qj h.n25 h.le))) (he.bw (hb.mono h.le) h.n25 hA) hA).mono ?_;rintro e w'⟨rfl,hw,hg⟩;rw[Qf hne]at Ga;refine(fun h=>⟨h.1,h⟩:Hk w B g b n now aa ab ao ac L T A (Rm L (T.getD 0 empty) (.slice a is.length c) is) _ w'->_) ⟨?_,⟨n+1,Qc _,?_⟩,Wv hb hg⟩
  ·unfold Lf Mi;rw[Ga,Bool.false_or]
  ·unfold Pj;rw[Ga,if_neg (by simp)];exact hw
 have HD:Hid (∀W W',is.length=0->Bl w W->W'.ownsMap prog 9 RK b n ((F4 L).del (.string (T.getD 0 empty).data.toList))->W.mapTurned W' b->Hk w B g b n now aa ab ao ac L T A (Rm L (T.getD 0 empty) (.slice a is.length c) is) (.returned .nilIface) W'):=fun W W' he0 hb ho ht=>by
  rw[Ri.Ez]at ho;rw[Qe he0]at Ga;have hw:=(h.bw hb);have hk:=Ci hw.call.ring ht.grown;obtain⟨Gk,-⟩:=hw.turned ht.grown ho (Ou _ h.call.up) (hw.vals.kept hk);refine⟨?_,⟨n,Nat.le_succ _,?_⟩,K2 hb ht⟩
  ·unfold Lf Mi;rw[Ga,Bool.true_or,if_pos rfl]
  ·unfold Pj;rw[Ga,if_pos rfl];exact Gk
 have HO:Hid (∀W,Bl w W->W.ownsMap prog 9 RK b n (F4 L)/\W.cell? ⟨g,0,none⟩=some (.map (some b))):=fun W hb=>⟨(h.bw hb).call.ring,(h.bw hb).call.c0⟩;have HK:Hid (keyOf prog 9 (.string (T.getD 0 empty))=some (.string (T.getD 0 empty).data.toList)):=Ri.Rh _ (by omega);obtain⟨a1,n1,k1,a2,n2,k2,a3,n3,k3,e1,e2,e3,Gg⟩:=h.look1 (T.getD 0 empty) hnm;have HL:=hid Gg;have h2:=h.call.c2;have c0:=h.call.args.cell 0 hT;obtain rfl:=h.call.args.addr hT;rw[Qy]at c0;have Gp:(0:Int)<(T.length:Int):=by omega
 have mT:=zts;have Gd:=Tu is;generalize hM:Hk w B g b n now (some ⟨ab,ao,none⟩) ab ao ac L T A (Rm L (T.getD 0 empty) (.slice a is.length c) is)=M at*;clear hM h e1 e2 e3 he hR hA hn Gg hnm Gm hv hap Ga Gf;generalize Lf A (Mi L (Rm L (T.getD 0 empty) (.slice a is.length c) is))=ev at*;unfold kvA kC Rm at HS;dsimp only at HS;generalize T.getD 0 empty=nm,T.length=m at*;generalize(Fb L nm).key=x at*;obtain⟨tl,Gc⟩:∃tl,(Hj is).length=tl:=⟨_,rfl⟩;have Gi:=hid Gc;rw[Gc]at Gd;clear Gc;by_cases hz:is.length=0
 ·have Gn:=hid fun W W'=>HD.out W W' hz;clear HD HS HV;obtain rfl:tl=0:=by omega
  clear Gd hz hlen z2;go_enter func244,ntmps244;go_wp2_with fail;refine(HX.out _ (Qb _ _)).mono ?_;rintro e w1⟨v,rfl,o1,b1⟩;obtain⟨xa,xc,Gb⟩:=Fx o1;rw[Gi.out]at Gb;subst Gb;clear o1;have HB:=hid b1;obtain⟨p1,p2⟩:=HO.out w1 b1;have HP:=hid p1;clear b1 HX p1;go_wp2_with (at_delete;refine wpList_delete_own _ rfl _ _ 70 9 rfl 47 Ri.Ot underlying70 _ b n _ rfl HP.out _ _ rfl HK.out ?_;intro w2 ho2 ht2;have HW:=hid (Gn.out w1 w2 HB.out ho2 ht2);clear ho2 ht2);exact HW.out
 ·have Gr:((tl:Int)==0)=false:=beq_eq_false_iff_ne.2 (by omega);have hf:∀V,_:=El (.string x.name) (.int .i64 x.val.kind) (.string x.val.text) (.slice a1 n1 k1) (.slice a2 n2 k2) (.slice a3 n3 k3) (.int .i64 x.due);have Gj:Hid (∀W,Bl w W->Calls _ _ _ _ _):=fun W hb=>HS.out W hz hb;clear HS HD HO Gd;generalize is.length=il at*;clear hz hlen z2;go_enter func244,ntmps244;go_wp2_with fail;refine(HX.out _ (Qb _ _)).mono ?_;rintro e w1⟨v,rfl,o1,b1⟩;obtain⟨xa,xc,Gb⟩:=Fx o1;rw[Gi.out]at Gb;subst Gb;clear o1;have HB:Hid (Bl w w1):=b1;clear b1 HX;obtain⟨q0,q1⟩:=HL.out w1.drew (below_drewN HB.out 1);go_upto_region 5 with fail;go_region_with
   (first
    |(go_at_call 214;refine(HV.out _).mono ?_;rintro e w2⟨rfl,b2⟩;have Gh:=(below_drewN HB.out 1).trans (b2.mono HB.out.size);obtain⟨p0,p1⟩:=HL.out w2 Gh)
    |(go_at_call 240;refine(Gj.out _ Gh).mono ?_;rintro e w3⟨rfl,Ge⟩))
  all_goals
   have HW:Hid _:=Ge;clear Ge;go_wp2;go_ret;exact HW.out
theorem zl5(is:List Kk.Rk)(h:Fu w B g b n now aa ab ao ac L (G2 L (T.getD 0 empty)) T)(hv:Kk.Fo w B (.slice a is.length c) is)(hap:∀x∈G2 L (T.getD 0 empty),∀g,(Value.slice a is.length c).ownBlock=some g->x.vr.ownBlock≠some g)(hT:0<T.length)(hnm:(T.getD 0 empty).size<=1048576)(hlen:is.length<=1048576)(hft:Kk.Md is)(hn:n<=1000)(hR:Ready w)(he:Ny w 1 A My)(hA:A.block<B):
  Calls prog 244 #[.pointer (some ⟨g,0,none⟩),.iface 234 (.slice a is.length c)] w (Hk w B g b n now aa ab ao ac L T A (P6 L (T.getD 0 empty) (.slice a is.length c) is)):=by
 have Gm:(1048576:Nat)<=maxLen:=by unfold maxLen;omega
 obtain⟨Gs,A0,Gq,Gl,Gf⟩:=Kk.N7 hv;injection Gl with z1 z2 z3;subst z1 z3;have HX:=hid fun W (hb:Bl w W)=>Kk.zrx a A0 0 is.length c is W (Gf.bw hb) (by omega) hft (hR.tab.bw (hb.mono (Qj h.n25 h.le)) (by omega)) (by have:=hb.size;have:=h.n25;have:=h.le;omega);have HV:=hid fun W=>zid a is.length c W;have Ga:Ml (P6 L (T.getD 0 empty) (.slice a is.length c) is).key=decide (is.length=0):=by unfold Ml P6;simp
 have HS:Hid (∀W,is.length≠0->Bl w W->Cp 240 #[.pointer (some ⟨g,0,none⟩),kvA (P6 L (T.getD 0 empty) (.slice a is.length c) is)] W fun e w'=>e=.returned (Lf A (Mi L (P6 L (T.getD 0 empty) (.slice a is.length c) is)))/\Hk w B g b n now aa ab ao ac L T A (P6 L (T.getD 0 empty) (.slice a is.length c) is) e w'):=fun W hne hb=>by
  refine(Wu B g b n now aa ab ao ac L T W (P6 L (T.getD 0 empty) (.slice a is.length c) is) (h.bw hb) ⟨World.ownsRow_nil _ _ _ _,World.ownsRow_nil _ _ _ _,Fw hv hb⟩ (fun x hx=>⟨fun g e=>(by cases e),fun g e=>(by cases e),fun g e=>hap x hx g e⟩) ⟨⟨by show(0:Nat)<=_;omega,by show(0:Nat)<=_;omega,by show(0:Nat)<=_;omega,by show is.length<=_;omega⟩,by show(0:Nat)<=_;omega,hft⟩ hnm hn (hR.bw (hb.mono (Qj h.n25 h.le))) (he.bw (hb.mono h.le) h.n25 hA) hA).mono ?_;rintro e w'⟨rfl,hw,hg⟩;rw[Qf hne]at Ga;refine(fun h=>⟨h.1,h⟩:Hk w B g b n now aa ab ao ac L T A (P6 L (T.getD 0 empty) (.slice a is.length c) is) _ w'->_) ⟨?_,⟨n+1,Qc _,?_⟩,Wv hb hg⟩
  ·unfold Lf Mi;rw[Ga,Bool.false_or]
  ·unfold Pj;rw[Ga,if_neg (by simp)];exact hw
 have HD:Hid (∀W W',is.length=0->Bl w W->W'.ownsMap prog 9 RK b n ((F4 L).del (.string (T.getD 0 empty).data.toList))->W.mapTurned W' b->Hk w B g b n now aa ab ao ac L T A (P6 L (T.getD 0 empty) (.slice a is.length c) is) (.returned .nilIface) W'):=fun W W' he0 hb ho ht=>by
  rw[Ri.Ez]at ho;rw[Qe he0]at Ga;have hw:=(h.bw hb);have hk:=Ci hw.call.ring ht.grown;obtain⟨Gk,-⟩:=hw.turned ht.grown ho (Ou _ h.call.up) (hw.vals.kept hk);refine⟨?_,⟨n,Nat.le_succ _,?_⟩,K2 hb ht⟩
  ·unfold Lf Mi;rw[Ga,Bool.true_or,if_pos rfl]
  ·unfold Pj;rw[Ga,if_pos rfl];exact Gk
 have HO:Hid (∀W,Bl w W->W.ownsMap prog 9 RK b n (F4 L)/\W.cell? ⟨g,0,none⟩=some (.map (some b))):=fun W hb=>⟨(h.bw hb).call.ring,(h.bw hb).call.c0⟩;have HK:Hid (keyOf prog 9 (.string (T.getD 0 empty))=some (.string (T.getD 0 empty).data.toList)):=Ri.Rh _ (by omega);obtain⟨a1,n1,k1,a2,n2,k2,a3,n3,k3,e1,e2,e3,Gg⟩:=h.look1 (T.getD 0 empty) hnm;have HL:=hid Gg;have h2:=h.call.c2;have c0:=h.call.args.cell 0 hT;obtain rfl:=h.call.args.addr hT;rw[Qy]at c0;have Gp:(0:Int)<(T.length:Int):=by omega
 have mT:=zr6;have Gd:=Bc is;generalize hM:Hk w B g b n now (some ⟨ab,ao,none⟩) ab ao ac L T A (P6 L (T.getD 0 empty) (.slice a is.length c) is)=M at*;clear hM h e1 e2 e3 he hR hA hn Gg hnm Gm hv hap Ga Gf;generalize Lf A (Mi L (P6 L (T.getD 0 empty) (.slice a is.length c) is))=ev at*;unfold kvA kC P6 at HS;dsimp only at HS;generalize T.getD 0 empty=nm,T.length=m at*;generalize(Fb L nm).key=x at*;obtain⟨tl,Gc⟩:∃tl,(Kk.G8 is).length=tl:=⟨_,rfl⟩;have Gi:=hid Gc;rw[Gc]at Gd;clear Gc;by_cases hz:is.length=0
 ·have Gn:=hid fun W W'=>HD.out W W' hz;clear HD HS HV;obtain rfl:tl=0:=by omega
  clear Gd hz hlen z2;go_enter func244,ntmps244;go_wp2_with fail;refine(HX.out _ (Qb _ _)).mono ?_;rintro e w1⟨v,rfl,o1,b1⟩;obtain⟨xa,xc,Gb⟩:=Fx o1;rw[Gi.out]at Gb;subst Gb;clear o1;have HB:=hid b1;obtain⟨p1,p2⟩:=HO.out w1 b1;have HP:=hid p1;clear b1 HX p1;go_wp2_with (at_delete;refine wpList_delete_own _ rfl _ _ 70 9 rfl 47 Ri.Ot underlying70 _ b n _ rfl HP.out _ _ rfl HK.out ?_;intro w2 ho2 ht2;have HW:=hid (Gn.out w1 w2 HB.out ho2 ht2);clear ho2 ht2);exact HW.out
 ·have Gr:((tl:Int)==0)=false:=beq_eq_false_iff_ne.2 (by omega);have hf:∀V,_:=El (.string x.name) (.int .i64 x.val.kind) (.string x.val.text) (.slice a1 n1 k1) (.slice a2 n2 k2) (.slice a3 n3 k3) (.int .i64 x.due);have Gj:Hid (∀W,Bl w W->Calls _ _ _ _ _):=fun W hb=>HS.out W hz hb;clear HS HD HO Gd;generalize is.length=il at*;clear hz hlen z2;go_enter func244,ntmps244;go_wp2_with fail;refine(HX.out _ (Qb _ _)).mono ?_;rintro e w1⟨v,rfl,o1,b1⟩;obtain⟨xa,xc,Gb⟩:=Fx o1;rw[Gi.out]at Gb;subst Gb;clear o1;have HB:Hid (Bl w w1):=b1;clear b1 HX;obtain⟨q0,q1⟩:=HL.out w1.drew (below_drewN HB.out 1);go_upto_region 5 with fail;go_region_with
   (first
    |(go_at_call 214;refine(HV.out _).mono ?_;rintro e w2⟨rfl,b2⟩;have Gh:=(below_drewN HB.out 1).trans (b2.mono HB.out.size);obtain⟨p0,p1⟩:=HL.out w2 Gh)
    |(go_at_call 240;refine(Gj.out _ Gh).mono ?_;rintro e w3⟨rfl,Ge⟩))
  all_goals
   have HW:Hid _:=Ge;clear Ge;go_wp2;go_ret;exact HW.out
end
def P7:Nat->ByteArray
 |1=>My
 |9=>M9
 |10=>On
 |11=>Rq
 |_=>F3
structure Lk (w:World) (B:Nat) (ad:Nat->Addr):Prop where
 rd:Ready w
 fd:Fd.Ready w
 er:∀i,i=1\/i=9\/i=10\/i=11\/i=12->Ny w i (ad i) (P7 i)/\(ad i).block<B
 n25:22<=B
theorem Lk.bw(h:Lk w B ad)(hb:Below B w w'):Lk w' B ad:=
 ⟨h.rd.bw (hb.mono h.n25),h.fd.bw (hb.mono h.n25),fun i hi=>⟨(h.er i hi).1.bw hb h.n25 (h.er i hi).2,(h.er i hi).2⟩,h.n25⟩
def F2 (w:World) (B g b:Nat) (now:Int) (aa:Option Addr) (ab ao ac:Nat) (T:List ByteArray) (ad:Nat->Addr) (ks:List Ke) (p:List Ke×List Rp) (e:Ending) (w':World):Prop:=
 ∃r er,e= .returned (.tuple #[r,er])/\Below B w w'/\
  ((er= .nilIface/\Fr w' w.heap.size r p.2/\∃n' L',L'.map KV.key=p.1/\Fu w' B g b n' now aa ab ao ac L' L' T)
   \/∃i,(i=1\/i=9\/i=10\/i=11\/i=12)/\er= .iface 307 (.pointer (some (ad i)))/\p=(ks,Fl (P7 i)))
theorem M7{e:Ending}(h:Fu w B g b n now aa ab ao ac L L T)(hs:M6 w R e w'):F2 w B g b now aa ab ao ac T ad (L.map KV.key) (L.map KV.key,R) e w':=by
 obtain⟨r,rfl,hr,hb⟩:=hs;exact⟨r,_,rfl,hb.mono h.le,.inl ⟨rfl,hr,n,L,rfl,h.bw hb⟩⟩
theorem zvs(h:Fr w1 B r R)(hg:w1.grownBy w2 (some b))(hb:b<B):Fr w2 B r R:=by
 obtain⟨M,e,o,k⟩:=h;refine⟨M,e,Lt o fun g hg'=>hg.block g (Hf o hg').2 (fun eq=>by have:=(Hf o hg').1;cases eq;omega),fun x hx=>Lt (k x hx) fun g hg'=>hg.block g (Hf (k x hx) hg').2 (fun eq=>by have:=(Hf (k x hx) hg').1;cases eq;omega)⟩
theorem Pt{er:Value}(h:Fu w B g b n now aa ab ao ac L L T)(hd:Fm (L.map KV.key)=true)(hr:Fr w1 w.heap.size r R)(hb:Below B w w1)(hs:w.heap.size<=w1.heap.size)(hl:Hk w1 B g b n now aa ab ao ac L T (ad 1) y (.returned er) w2):F2 w B g b now aa ab ao ac T ad (L.map KV.key) (Fj (L.map KV.key) y.key R) (.returned (.tuple #[r,er])) w2:=by
 obtain⟨e1,⟨n',Gb,hw⟩,hg⟩:=hl;injection e1 with e1;subst e1;have Ga:B<=w1.heap.size:=Qj h.le hs;refine⟨r,_,rfl,hb.trans (Ds hg h.lb Ga),?_⟩;rw[zzd hd];unfold Lf;cases Mi L y with
 |true=>exact .inl ⟨rfl,zvs hr hg (by have:=h.call.ring.lt;omega),n',_,rfl,hw⟩
 |false=>exact .inr ⟨1,.inl rfl,rfl,rfl⟩
theorem Ul(i:Nat)(hi:i=1\/i=9\/i=10\/i=11\/i=12)(hb:Below B w w'):F2 w B g b now aa ab ao ac T ad ks (ks,Fl (P7 i)) (.returned (.tuple #[r,.iface 307 (.pointer (some (ad i)))])) w':=
 ⟨r,_,rfl,hb,.inr ⟨i,hi,rfl,rfl⟩⟩
theorem ye8:∀(l:List UInt8)(acc:Nat),Fd.Hn acc l=Hn acc l
 |[],_=>rfl
 |c::r,acc=>by unfold Fd.Hn Hn;rw[ye8 r]
theorem yix(l:List UInt8):Fd.Hc l=Hc l:=by
 unfold Fd.Hc Hc;rw[ye8];rfl
def Nk (s:ByteArray):Int:=if (Fg s).2=true then (Fg s).1 else 0
theorem ycs(s:ByteArray)(w:World)(hs:s.size<=2097152)(hr:Fd.Ready w):
  Calls prog 25 #[.string s] w fun e w'=>e=.returned (.tuple #[.int .i64 (Nk s),.bool (Fg s).2])/\Bl w w':=by
 have HD:Hid (Cp 66 #[.string s] w fun e w'=>e=.returned (.tuple #[.int .i64 (Nk s),.bool (Fg s).2])/\Bl w w'):=by
  refine(Fd.zsu s w hs hr).mono ?_;rintro e w'⟨rfl,hb⟩;refine⟨?_,hb⟩;rw[Fd.yb4,yix];unfold Nk Fg;cases (Hc s.data.toList).2<;>rfl
 clear hr;generalize Nk s=v,(Fg s).2=o at*;go_enter func25,ntmps25;go_wp2_with fail;refine HD.out.mono ?_;rintro e w1⟨rfl,hb⟩;have HB:Hid (Bl w w1):=hb;clear hb HD;go_wp2;go_ret2;exact⟨rfl,HB.out⟩
theorem Wi(s:ByteArray)(w:World)(B:Nat)(ad:Nat->Addr)(hs:s.size<=2097152)(hr:Lk w B ad)(hB:B<=w.heap.size):
  Calls prog 241 #[.string s] w fun e w'=>e=.returned (.tuple #[.int .i64 (Nk s),Lf (ad 12) (Fg s).2])/\Bl w w':=by
 have HD:Hid (Cp 25 #[.string s] w fun e w'=>e=.returned (.tuple #[.int .i64 (Nk s),.bool (Fg s).2])/\Bl w w'):=ycs s w hs hr.fd;have HE:Hid (∀W,Bl w W->W.cell? ⟨12,0,none⟩=some (.iface 307 (.pointer (some (ad 12))))):=fun W hb=>((hr.bw (hb.mono hB)).er 12 (by omega)).1.v;have HN:Hid ((Fg s).2=false->Nk s=0):=fun h=>by unfold Nk;rw[h,if_neg (by simp)]
 clear hr;generalize Nk s=v,(Fg s).2=o at*;cases o with
 |true=>
  show Calls _ _ _ _ fun e w'=>e=.returned (.tuple #[.int .i64 v,.nilIface])/\_;go_enter func241,ntmps241;go_wp2_with fail;refine HD.out.mono ?_;rintro e w1⟨rfl,hb⟩;have HB:Hid (Bl w w1):=hb;clear hb HD;go_wp2;go_ret2;exact⟨rfl,HB.out⟩
 |false=>
  obtain rfl:=HN.out rfl;show Calls _ _ _ _ fun e w'=>e=.returned (.tuple #[.int .i64 0,.iface 307 (.pointer (some (ad 12)))])/\_;generalize ad 12=A at*;go_enter func241,ntmps241;go_wp2_with fail;refine HD.out.mono ?_;rintro e w1⟨rfl,hb⟩;have HB:Hid (Bl w w1.drew):=below_drewN hb 1;have hc:=HE.out w1 hb;have Ga:=HE.out w1.drew (below_drewN hb 1);clear hb HD;go_wp2;go_region;go_wp2;go_ret2;exact⟨rfl,HB.out⟩
end Rb
end Go.Proofs.YtokafonppgppdaaGreatDoor
