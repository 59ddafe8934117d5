import Derived.Test.YtokafonppgppdaaGreatDoorR50
import Derived.Test.YtokafonppgppdaaGreatDoorE13
set_option maxHeartbeats 2000000
set_option maxRecDepth 100000
namespace Go.Proofs.YtokafonppgppdaaGreatDoor.Rb
open Tryz
open _root_.ByteArray (empty)
open Go.RowKit Go.Maps
open Ri (za3 RK UpK zao zbb zlj zi6 zhd kvA z7 zb0 zdv zcp zez)
variable {w w' W:World} {B ab ao m:Nat} {ad:Nat->Addr} {aa aw:Option Addr}
def kS (L:List KV) (nm:ByteArray) (kd:Nat):Ke:=if (zao L nm).isSome=true then (zak L nm).key else zkh nm kd
section
variable (L:List KV) (nm:ByteArray) (kd:Nat)
theorem zpd:(kS L nm kd).name=nm:=by
 unfold kS;rcases zby L nm with ⟨h,e⟩|⟨h,-,hn⟩
 ·rw [h,if_neg (by simp)];rfl
 ·rw [h,Option.isSome_some,if_pos rfl,hn]
theorem zct:(kS L nm kd).val.text=(zak L nm).key.val.text/\(kS L nm kd).val.ia=(zak L nm).key.val.ia/\(kS L nm kd).val.pj=(zak L nm).key.val.pj/\(kS L nm kd).val.rq=(zak L nm).key.val.rq/\(kS L nm kd).due=(zak L nm).key.due:=by
 unfold kS;rcases zby L nm with ⟨h,e⟩|⟨h,-,hn⟩
 ·rw [h,if_neg (by simp),e];exact ⟨rfl,rfl,rfl,rfl,rfl⟩
 ·rw [h,Option.isSome_some,if_pos rfl];exact ⟨rfl,rfl,rfl,rfl,rfl⟩
end
structure Only (v:Vl):Prop where
 k1:v.kind=1->v.ia=[]/\v.pj=[]/\v.rq=[]
 k2:v.kind=2->v.text=⟨#[]⟩/\v.pj=[]/\v.rq=[]/\v.ia≠ []
 k3:v.kind=3->v.text=⟨#[]⟩/\v.ia=[]/\v.rq=[]
 k4:v.kind=4->v.text=⟨#[]⟩/\v.ia=[]/\v.pj=[]
 le:1<=v.kind/\v.kind<=4
theorem zox {t:ByteArray} (h:t.size=0):t=⟨#[]⟩:=by
 obtain ⟨a⟩:=t;have:a.size=0:=h;rw [Array.eq_empty_of_size_eq_zero this]
theorem ydb {v:Vl} (h:zh4 v=true):Only v:=by
 have nil:∀{α:Type} {l:List α},l.length=0->l=[]:=fun h=>List.length_eq_zero_iff.1 h;unfold zh4 zgg at h;by_cases e1:v.kind=1
 ·rw [if_pos e1,Qh,decide_eq_true_iff] at h;exact ⟨fun _=>⟨nil (by omega),nil (by omega),nil (by omega)⟩,fun e=>by omega,fun e=>by omega,fun e=>by omega,by omega⟩
 ·rw [if_neg e1] at h;by_cases e2:v.kind=2
  ·rw [if_pos e2,Qh,Qh,decide_eq_true_iff,decide_eq_true_iff] at h;refine ⟨fun e=>by omega,fun _=>⟨zox h.1,nil (by omega),nil (by omega),fun e=>?_⟩,fun e=>by omega,fun e=>by omega,by omega⟩;have:=h.2.2;rw [e] at this;revert this;decide
  ·rw [if_neg e2] at h;by_cases e3:v.kind=3
   ·rw [if_pos e3,Qh,Qh,decide_eq_true_iff,decide_eq_true_iff] at h;exact ⟨fun e=>by omega,fun e=>by omega,fun _=>⟨zox h.1,nil (by omega),nil (by omega)⟩,fun e=>by omega,by omega⟩
   ·rw [if_neg e3] at h;by_cases e4:v.kind=4
    ·rw [if_pos e4,Qh,Qh,decide_eq_true_iff,decide_eq_true_iff] at h;exact ⟨fun e=>by omega,fun e=>by omega,fun e=>by omega,fun _=>⟨zox h.1,nil (by omega),nil (by omega)⟩,by omega⟩
    ·rw [if_neg e4] at h;cases h
theorem zgc {L:List KV} (hd:zan (L.map KV.key)=true) {nm:ByteArray} (hf:(zao L nm).isSome=true):Only (zak L nm).key.val:=by
 rcases zby L nm with ⟨h,-⟩|⟨-,hm,-⟩
 ·rw [h] at hf;cases hf
 ·have hk:=((zce _).1 hd).2.2 _ (List.mem_map_of_mem hm);unfold zfo at hk;rw [Qh,Qh] at hk;exact ydb hk.2.1
section
variable {L : List KV} {nm : ByteArray}
theorem zyw (hd:zan (L.map KV.key)=true) (hk:(zao L nm).isSome=true->(zak L nm).key.val.kind=1) (t:ByteArray):(kS L nm 1).withText t=(zb2 L nm t).key:=by
 obtain ⟨-,-,-,-,hdue⟩:=zct L nm 1;have hn:=zpd L nm 1;unfold Ke.withText zb2;rw [hn,hdue];cases hf:(zao L nm).isSome with
 |false=>unfold kS;rw [hf,if_neg (by simp)];rfl
 |true=>
  have ho:=(zgc hd hf).k1 (hk hf);unfold kS;rw [hf,if_pos rfl,hk hf,ho.1,ho.2.1,ho.2.2]
theorem zkn (hd:zan (L.map KV.key)=true) (hk:(zao L nm).isSome=true->(zak L nm).key.val.kind=2) (X:List ByteArray):(kS L nm 2).withItems X=zcw L nm X:=by
 obtain ⟨-,-,-,-,hdue⟩:=zct L nm 2;have hn:=zpd L nm 2;unfold Ke.withItems zcw;rw [hn,hdue];cases hf:(zao L nm).isSome with
 |false=>unfold kS;rw [hf,if_neg (by simp)];rfl
 |true=>
  have ho:=(zgc hd hf).k2 (hk hf);unfold kS;rw [hf,if_pos rfl,hk hf,ho.1,ho.2.1,ho.2.2.1]
theorem zve (hd:zan (L.map KV.key)=true) (hk:(zao L nm).isSome=true->(zak L nm).key.val.kind=3) (X:List Pr):(kS L nm 3).withPairs X=zf3 L nm X:=by
 obtain ⟨-,-,-,-,hdue⟩:=zct L nm 3;have hn:=zpd L nm 3;unfold Ke.withPairs zf3;rw [hn,hdue];cases hf:(zao L nm).isSome with
 |false=>unfold kS;rw [hf,if_neg (by simp)];rfl
 |true=>
  have ho:=(zgc hd hf).k3 (hk hf);unfold kS;rw [hf,if_pos rfl,hk hf,ho.1,ho.2.1,ho.2.2]
theorem zue (hd:zan (L.map KV.key)=true) (hk:(zao L nm).isSome=true->(zak L nm).key.val.kind=4) (X:List Kk.Rk):(kS L nm 4).withRanks X=zeh L nm X:=by
 obtain ⟨-,-,-,-,hdue⟩:=zct L nm 4;have hn:=zpd L nm 4;unfold Ke.withRanks zeh;rw [hn,hdue];cases hf:(zao L nm).isSome with
 |false=>unfold kS;rw [hf,if_neg (by simp)];rfl
 |true=>
  have ho:=(zgc hd hf).k4 (hk hf);unfold kS;rw [hf,if_pos rfl,hk hf,ho.1,ho.2.1,ho.2.2]
theorem zla (hd:zan (L.map KV.key)=true) (hk:(zao L nm).isSome=true->(zak L nm).key.val.kind=2):(zak L nm).key.val.ia=[]↔(zao L nm).isSome=false:=by
 cases hf:(zao L nm).isSome with
 |true=>
  have ho:=(zgc hd hf).k2 (hk hf);exact ⟨fun e=>absurd e ho.2.2.2,fun e=>by cases e⟩
 |false=>
  rcases zby L nm with ⟨h,e⟩|⟨h,-,-⟩
  ·rw [e];exact ⟨fun _=>rfl,fun _=>rfl⟩
  ·rw [h] at hf;cases hf
end
theorem zkb:∀(W:List ByteArray) (X:List Kk.Rk),W.foldl Kk.without X=X.filter (fun p=>!(W.contains p.m))
 | [],X=> (List.filter_eq_self.2 fun _ _=>rfl).symm
 |m::W,X=>by
  rw [List.foldl_cons,zkb W];unfold Kk.without;rw [List.filter_filter];congr 1;funext p;rw [List.contains_cons,zu5];by_cases e:p.m=m
  ·simp [e]
  ·simp [e]
def tgt (c:Cm) (L:List KV) (now:Int) (T:List ByteArray):List Ke×List Rp:=if c.many=true then zgr c (L.map KV.key) T else zc3 c (L.map KV.key) (kS L (T.getD 0 empty) c.kind) (zao L (T.getD 0 empty)).isSome now T
theorem yfz (c:Cm) {L:List KV} (now:Int) (T:List ByteArray) (hm:c.many=false):ztx c (L.map KV.key) now T=if (decide (c.kind≠0)&&((zao L (T.getD 0 empty)).isSome&&!((zak L (T.getD 0 empty)).key.val.kind==(c.kind:Int))))=true then (L.map KV.key,zhs) else tgt c L now T:=by
 unfold ztx tgt;rw [hm,if_neg (by simp:¬false=true)];unfold kS;cases hf:zao L (T.getD 0 empty) with
 |none=>
  have h1:=Ri.znd hf 0;rw [show zaj T 0=(T.getD 0 empty) from rfl,h1,if_pos (by omega)];simp
 |some x=>
  obtain ⟨i,hi,hx,hn,hfk⟩:=Ri.znq hf;have hke:(L.map KV.key).getD i ke0=x.key:=by rw [zjv,hx]
  have hkl:zak L (T.getD 0 empty)=x:=by unfold zak;rw [hf];rfl
  rw [show zaj T 0=(T.getD 0 empty) from rfl,hfk,if_neg (by omega),Int.toNat_natCast,hke,hkl];by_cases h1:c.kind=0
  ·simp [h1]
  ·by_cases h2:x.key.val.kind=(c.kind:Int)
   ·simp [h1,h2]
   ·simp [h1,h2]
def fnC (c:Cm):Nat:=[172,174,176,175,173,186,187,182,183,184,193,194,195,200,201,204,181,190,189,185,198,205,206,188,196,207,180,178,179,191,192,199,203,197,202].getD c.val 0
theorem yif:(Cm.all.all fun c=>decide ((zfs c).fn=fnC c))=true:=by kernel_rfl
theorem yka (c:Cm):(zfs c).fn=fnC c:=Qg (Qw.1 yif c (zml c))
def zhm (c:Cm) (L:List KV) (nm:ByteArray):Prop:=c.kind≠0->(zao L nm).isSome=true->(zak L nm).key.val.kind=(c.kind:Int)
section
variable (L : List KV) (now : Int) (T : List ByteArray)
theorem tg5:tgt 5 L now T=((L.map KV.key),if (zao L (T.getD 0 empty)).isSome=true then zax (zak L (T.getD 0 empty)).key.val.text else zbm):=by
 show ((L.map KV.key),if (zao L (T.getD 0 empty)).isSome=true then zax (kS L (T.getD 0 empty) 1).val.text else zbm)=_;rw [(zct L (T.getD 0 empty) 1).1]
theorem tg6:tgt 6 L now T=((L.map KV.key),zam (zak L (T.getD 0 empty)).key.val.text.size):=by
 show ((L.map KV.key),zam (kS L (T.getD 0 empty) 1).val.text.size)=_;rw [(zct L (T.getD 0 empty) 1).1]
theorem ylb:tgt 23 L now T=(if zlh T=true then ((L.map KV.key),zax (zho (zak L (T.getD 0 empty)).key.val.text (zbc (T.getD 1 empty)).1 (zbc (T.getD 2 empty)).1)) else ((L.map KV.key),zcb zdc)):=by
 show (if ((zbc (T.getD 2 empty)).2&&(zbc (T.getD 1 empty)).2)=true then ((L.map KV.key),zax (zho (kS L (T.getD 0 empty) 1).val.text (zbc (T.getD 1 empty)).1 (zbc (T.getD 2 empty)).1)) else ((L.map KV.key),zcb zdc))=_;unfold zlh;rw [(zct L (T.getD 0 empty) 1).1,Bool.and_comm]
theorem tg7 {kd:Nat} (hk:(zak L (T.getD 0 empty)).key.val.kind=kd):tgt 7 L now T=((L.map KV.key),zau (zdt kd)):=by
 show ((L.map KV.key),zau (zdt (kS L (T.getD 0 empty) 0).val.kind.toNat))=_;have:(kS L (T.getD 0 empty) 0).val.kind=kd:=by
  unfold kS;rcases zby L (T.getD 0 empty) with ⟨h,e⟩|⟨h,-,hn⟩
  ·rw [h,if_neg (by simp)];rw [e] at hk;exact hk
  ·rw [h,Option.isSome_some,if_pos rfl];exact hk
 rw [this,Int.toNat_natCast]
theorem tg8:tgt 8 L now T=((L.map KV.key),zam (if (zao L (T.getD 0 empty)).isSome=true then (if (zak L (T.getD 0 empty)).key.due=0 then-1 else (zak L (T.getD 0 empty)).key.due-now) else-2)):=by
 show ((L.map KV.key),zam (if (zao L (T.getD 0 empty)).isSome=true then (if (kS L (T.getD 0 empty) 0).due=0 then-1 else (kS L (T.getD 0 empty) 0).due-now) else-2))=_;rw [(zct L (T.getD 0 empty) 0).2.2.2.2]
theorem tg9:tgt 9 L now T=(if (zak L (T.getD 0 empty)).key.due=0 then ((L.map KV.key),zam 0) else (zaq (L.map KV.key) ((zak L (T.getD 0 empty)).key.withDue 0),zam 1)):=by
 show (if (kS L (T.getD 0 empty) 0).due=0 then ((L.map KV.key),zam 0) else (zaq (L.map KV.key) ((kS L (T.getD 0 empty) 0).withDue 0),zam 1))=_;rw [(zct L (T.getD 0 empty) 0).2.2.2.2];by_cases h0:(zak L (T.getD 0 empty)).key.due=0
 ·rw [if_pos h0,if_pos h0]
 ·rw [if_neg h0,if_neg h0];rcases zby L (T.getD 0 empty) with ⟨h,e⟩|⟨h,-,hn⟩
  ·rw [e] at h0;exact absurd rfl h0
  ·unfold kS;rw [h,Option.isSome_some,if_pos rfl]
theorem yk6:tgt 19 L now T=(if (zbc (T.getD 1 empty)).2=true then (if 1000000000-now<(zbc (T.getD 1 empty)).1 then ((L.map KV.key),zcb zbu) else if (zao L (T.getD 0 empty)).isSome=true then (if (zbc (T.getD 1 empty)).1<=0 then (zbl (L.map KV.key) (T.getD 0 empty),zam 1) else (zaq (L.map KV.key) ((zak L (T.getD 0 empty)).key.withDue (now+(zbc (T.getD 1 empty)).1)),zam 1)) else ((L.map KV.key),zam 0)) else ((L.map KV.key),zcb zdc)):=by
 show (if (zbc (T.getD 1 empty)).2=true then (if 1000000000-now<(zbc (T.getD 1 empty)).1 then ((L.map KV.key),zcb zbu) else if (zao L (T.getD 0 empty)).isSome=true then (if (zbc (T.getD 1 empty)).1<=0 then (zbl (L.map KV.key) (T.getD 0 empty),zam 1) else (zaq (L.map KV.key) ((kS L (T.getD 0 empty) 0).withDue (now+(zbc (T.getD 1 empty)).1)),zam 1)) else ((L.map KV.key),zam 0)) else ((L.map KV.key),zcb zdc))=_;cases hf:(zao L (T.getD 0 empty)).isSome with
 |false=>rfl
 |true=>simp only [kS,hf,if_true]
theorem ykn:tgt 16 L now T=(if (zao L (T.getD 0 empty)).isSome=true then ((L.map KV.key),zam 0) else za1 (L.map KV.key) (ze7 (T.getD 0 empty) (T.getD 1 empty) 0).key (zam 1)):=rfl
theorem ykw:tgt 26 L now T=(if (zka now T).2=0 then za1 (L.map KV.key) (ze7 (T.getD 0 empty) (T.getD 1 empty) (zka now T).1).key (zau sOK) else ((L.map KV.key),zcb (zx9 (zka now T).2))):=by
 show (if T.length=4 then (if zcv (T.getD 2 empty)=sEX then (if (zbc (T.getD 3 empty)).2=true then (if 1<=(zbc (T.getD 3 empty)).1/\(zbc (T.getD 3 empty)).1<=1000000000-now then za1 (L.map KV.key) (ze7 (T.getD 0 empty) (T.getD 1 empty) (now+(zbc (T.getD 3 empty)).1)).key (zau sOK) else ((L.map KV.key),zcb zbu)) else ((L.map KV.key),zcb zdc)) else ((L.map KV.key),zcb zfc)) else za1 (L.map KV.key) (ze7 (T.getD 0 empty) (T.getD 1 empty) 0).key (zau sOK))=_;unfold zka;by_cases h4:T.length=4
 ·rw [if_pos h4,if_pos h4];by_cases h2:zcv (T.getD 2 empty)=sEX
  ·rw [if_pos h2,if_pos h2];by_cases h3:(zbc (T.getD 3 empty)).2=true
   ·rw [if_pos h3,if_pos h3];by_cases h5:1<=(zbc (T.getD 3 empty)).1/\(zbc (T.getD 3 empty)).1<=1000000000-now
    ·rw [if_pos h5,if_pos h5];rfl
    ·rw [if_neg h5,if_neg h5];rfl
   ·rw [if_neg h3,if_neg h3];rfl
  ·rw [if_neg h2,if_neg h2];rfl
 ·rw [if_neg h4,if_neg h4];rfl
section
theorem yk2 (hd:zan (L.map KV.key)=true) (hk:zhm 18 L (T.getD 0 empty)):tgt 18 L now T=za1 (L.map KV.key) (zb2 L (T.getD 0 empty) ((zak L (T.getD 0 empty)).key.val.text++(T.getD 1 empty))).key (zam ((zak L (T.getD 0 empty)).key.val.text++(T.getD 1 empty)).size):=by
 show za1 (L.map KV.key) ((kS L (T.getD 0 empty) 1).withText ((kS L (T.getD 0 empty) 1).val.text++(T.getD 1 empty))) (zam ((kS L (T.getD 0 empty) 1).val.text++(T.getD 1 empty)).size)=_;rw [(zct L (T.getD 0 empty) 1).1,zyw hd (fun h=>hk (by decide) h)]
theorem yko (hd:zan (L.map KV.key)=true) (hk:zhm 17 L (T.getD 0 empty)):tgt 17 L now T=(if ((zbc (T.getD 1 empty)).2&&(zk5 (zak L (T.getD 0 empty)).key.val.text (zao L (T.getD 0 empty)).isSome).2)=true then (if Sl.zbw ((zk5 (zak L (T.getD 0 empty)).key.val.text (zao L (T.getD 0 empty)).isSome).1+(zbc (T.getD 1 empty)).1)=true then za1 (L.map KV.key) (zb2 L (T.getD 0 empty) (Kk.zc6 ((zk5 (zak L (T.getD 0 empty)).key.val.text (zao L (T.getD 0 empty)).isSome).1+(zbc (T.getD 1 empty)).1))).key (zam ((zk5 (zak L (T.getD 0 empty)).key.val.text (zao L (T.getD 0 empty)).isSome).1+(zbc (T.getD 1 empty)).1)) else ((L.map KV.key),zcb ze4)) else ((L.map KV.key),zcb zdc)):=by
 show (if ((zbc (T.getD 1 empty)).2&&(zk5 (kS L (T.getD 0 empty) 1).val.text (zao L (T.getD 0 empty)).isSome).2)=true then (if Sl.zbw ((zk5 (kS L (T.getD 0 empty) 1).val.text (zao L (T.getD 0 empty)).isSome).1+(zbc (T.getD 1 empty)).1)=true then za1 (L.map KV.key) ((kS L (T.getD 0 empty) 1).withText (Kk.zc6 ((zk5 (kS L (T.getD 0 empty) 1).val.text (zao L (T.getD 0 empty)).isSome).1+(zbc (T.getD 1 empty)).1))) (zam ((zk5 (kS L (T.getD 0 empty) 1).val.text (zao L (T.getD 0 empty)).isSome).1+(zbc (T.getD 1 empty)).1)) else ((L.map KV.key),zcb ze4)) else ((L.map KV.key),zcb zdc))=_;rw [(zct L (T.getD 0 empty) 1).1,zyw hd (fun h=>hk (by decide) h)]
theorem ykp:tgt 12 L now T=((L.map KV.key),zam ((zak L (T.getD 0 empty)).key.val.ia.length:Int)):=by
 show ((L.map KV.key),zam ((kS L (T.getD 0 empty) 2).val.ia.length:Int))=_;rw [(zct L (T.getD 0 empty) 2).2.1]
theorem yla:tgt 24 L now T=(if zlh T=true then ((L.map KV.key),zb5 (zek (zak L (T.getD 0 empty)).key.val.ia (zbc (T.getD 1 empty)).1 (zbc (T.getD 2 empty)).1)) else ((L.map KV.key),zcb zdc)):=by
 show (if ((zbc (T.getD 1 empty)).2&&(zbc (T.getD 2 empty)).2)=true then ((L.map KV.key),zb5 (zek (kS L (T.getD 0 empty) 2).val.ia (zbc (T.getD 1 empty)).1 (zbc (T.getD 2 empty)).1)) else ((L.map KV.key),zcb zdc))=_;rw [(zct L (T.getD 0 empty) 2).2.1];rfl
theorem yku (hd:zan (L.map KV.key)=true) (hk:zhm 10 L (T.getD 0 empty)):tgt 10 L now T=(if (zak L (T.getD 0 empty)).key.val.ia=[] then ((L.map KV.key),zbm) else za1 (L.map KV.key) (zcw L (T.getD 0 empty) ((zak L (T.getD 0 empty)).key.val.ia.take 0++(zak L (T.getD 0 empty)).key.val.ia.drop (0+1))) (zax ((zak L (T.getD 0 empty)).key.val.ia.getD 0 empty))):=by
 show (if (zao L (T.getD 0 empty)).isSome=true then za1 (L.map KV.key) ((kS L (T.getD 0 empty) 2).withItems (kS L (T.getD 0 empty) 2).val.ia.tail) (zax ((kS L (T.getD 0 empty) 2).val.ia.getD 0 empty)) else ((L.map KV.key),zbm))=_;have hk':(zao L (T.getD 0 empty)).isSome=true->(zak L (T.getD 0 empty)).key.val.kind=2:=fun h=>hk (by decide) h;rw [(zct L (T.getD 0 empty) 2).2.1,zkn hd hk'];have hi:=zla hd hk';cases hf:(zao L (T.getD 0 empty)).isSome with
 |false=>rw [hf] at hi;rw [if_pos (hi.2 rfl),if_neg (by simp)]
 |true=>
  rw [hf] at hi;rw [if_pos rfl,if_neg (fun e=>by cases hi.1 e),List.take_zero,List.nil_append,List.drop_one]
theorem yks (hd:zan (L.map KV.key)=true) (hk:zhm 11 L (T.getD 0 empty)):tgt 11 L now T=(if (zak L (T.getD 0 empty)).key.val.ia=[] then ((L.map KV.key),zbm) else za1 (L.map KV.key) (zcw L (T.getD 0 empty) ((zak L (T.getD 0 empty)).key.val.ia.take ((zak L (T.getD 0 empty)).key.val.ia.length-1)++(zak L (T.getD 0 empty)).key.val.ia.drop (((zak L (T.getD 0 empty)).key.val.ia.length-1)+1))) (zax ((zak L (T.getD 0 empty)).key.val.ia.getD ((zak L (T.getD 0 empty)).key.val.ia.length-1) empty))):=by
 show (if (zao L (T.getD 0 empty)).isSome=true then za1 (L.map KV.key) ((kS L (T.getD 0 empty) 2).withItems (kS L (T.getD 0 empty) 2).val.ia.dropLast) (zax ((kS L (T.getD 0 empty) 2).val.ia.getD ((kS L (T.getD 0 empty) 2).val.ia.length-1) empty)) else ((L.map KV.key),zbm))=_;have hk':(zao L (T.getD 0 empty)).isSome=true->(zak L (T.getD 0 empty)).key.val.kind=2:=fun h=>hk (by decide) h;rw [(zct L (T.getD 0 empty) 2).2.1,zkn hd hk'];have hi:=zla hd hk';cases hf:(zao L (T.getD 0 empty)).isSome with
 |false=>rw [hf] at hi;rw [if_pos (hi.2 rfl),if_neg (by simp)]
 |true=>
  rw [hf] at hi;rw [if_pos rfl,if_neg (fun e=>by cases hi.1 e),List.drop_eq_nil_of_le (by omega),List.append_nil,List.dropLast_eq_take]
theorem yk8 (hd:zan (L.map KV.key)=true) (hk:zhm 29 L (T.getD 0 empty)):tgt 29 L now T=za1 (L.map KV.key) (zcw L (T.getD 0 empty) (T.tail.reverse++(zak L (T.getD 0 empty)).key.val.ia)) (zam (T.tail.reverse++(zak L (T.getD 0 empty)).key.val.ia).length):=by
 show za1 (L.map KV.key) ((kS L (T.getD 0 empty) 2).withItems (T.tail.reverse++(kS L (T.getD 0 empty) 2).val.ia)) (zam ((T.tail.length+(kS L (T.getD 0 empty) 2).val.ia.length:Nat):Int))=_;rw [(zct L (T.getD 0 empty) 2).2.1,zkn hd (fun h=>hk (by decide) h),Qi,List.length_reverse]
theorem yk3 (hd:zan (L.map KV.key)=true) (hk:zhm 30 L (T.getD 0 empty)):tgt 30 L now T=za1 (L.map KV.key) (zcw L (T.getD 0 empty) ((zak L (T.getD 0 empty)).key.val.ia++T.tail)) (zam ((zak L (T.getD 0 empty)).key.val.ia++T.tail).length):=by
 show za1 (L.map KV.key) ((kS L (T.getD 0 empty) 2).withItems ((kS L (T.getD 0 empty) 2).val.ia++T.tail)) (zam (((kS L (T.getD 0 empty) 2).val.ia.length+T.tail.length:Nat):Int))=_;rw [(zct L (T.getD 0 empty) 2).2.1,zkn hd (fun h=>hk (by decide) h),Qi]
theorem yk1:tgt 13 L now T=((L.map KV.key),zam ((zak L (T.getD 0 empty)).key.val.pj.length:Int)):=by
 show ((L.map KV.key),zam ((kS L (T.getD 0 empty) 3).val.pj.length:Int))=_;rw [(zct L (T.getD 0 empty) 3).2.2.1]
theorem ykl:tgt 20 L now T=(if zeo (zak L (T.getD 0 empty)).key.val.pj (T.getD 1 empty) 0<0 then ((L.map KV.key),zbm) else ((L.map KV.key),zax ((zak L (T.getD 0 empty)).key.val.pj.getD (zeo (zak L (T.getD 0 empty)).key.val.pj (T.getD 1 empty) 0).toNat (bz,bz)).2)):=by
 show (if zeo (kS L (T.getD 0 empty) 3).val.pj (T.getD 1 empty) 0<0 then ((L.map KV.key),zbm) else ((L.map KV.key),zax ((kS L (T.getD 0 empty) 3).val.pj.getD (zeo (kS L (T.getD 0 empty) 3).val.pj (T.getD 1 empty) 0).toNat (bz,bz)).2))=_;rw [(zct L (T.getD 0 empty) 3).2.2.1]
theorem ykt:tgt 14 L now T=((L.map KV.key),zb5 (zco (zak L (T.getD 0 empty)).key.val.pj)):=by
 show ((L.map KV.key),zb5 (zco (kS L (T.getD 0 empty) 3).val.pj))=_;rw [(zct L (T.getD 0 empty) 3).2.2.1]
theorem ykx (hd:zan (L.map KV.key)=true) (hk:zhm 31 L (T.getD 0 empty)):tgt 31 L now T=za1 (L.map KV.key) (zf3 L (T.getD 0 empty) ((zak L (T.getD 0 empty)).key.val.pj.filter (fun p=>!(T.tail.contains p.1)))) (zam (((zak L (T.getD 0 empty)).key.val.pj.length:Int)-(((zak L (T.getD 0 empty)).key.val.pj.filter (fun p=>!(T.tail.contains p.1))).length:Int))):=by
 show za1 (L.map KV.key) ((kS L (T.getD 0 empty) 3).withPairs ((kS L (T.getD 0 empty) 3).val.pj.filter fun p=>!(T.tail.contains p.1))) (zam (((kS L (T.getD 0 empty) 3).val.pj.length:Int)-(((kS L (T.getD 0 empty) 3).val.pj.filter fun p=>!(T.tail.contains p.1)).length:Int)))=_;rw [(zct L (T.getD 0 empty) 3).2.2.1,zve hd (fun h=>hk (by decide) h)]
theorem yky (hd:zan (L.map KV.key)=true) (hk:zhm 33 L (T.getD 0 empty)):tgt 33 L now T=za1 (L.map KV.key) (zf3 L (T.getD 0 empty) (za7 (zak L (T.getD 0 empty)).key.val.pj T.tail)) (zam (((za7 (zak L (T.getD 0 empty)).key.val.pj T.tail).length:Int)-((zak L (T.getD 0 empty)).key.val.pj.length:Int))):=by
 show za1 (L.map KV.key) ((kS L (T.getD 0 empty) 3).withPairs (za7 (kS L (T.getD 0 empty) 3).val.pj T.tail)) (zam (((za7 (kS L (T.getD 0 empty) 3).val.pj T.tail).length:Int)-((kS L (T.getD 0 empty) 3).val.pj.length:Int)))=_;rw [(zct L (T.getD 0 empty) 3).2.2.1,zve hd (fun h=>hk (by decide) h)]
theorem yk4:tgt 15 L now T=((L.map KV.key),zam ((zak L (T.getD 0 empty)).key.val.rq.length:Int)):=by
 show ((L.map KV.key),zam ((kS L (T.getD 0 empty) 4).val.rq.length:Int))=_;rw [(zct L (T.getD 0 empty) 4).2.2.2.1]
theorem yk9:tgt 21 L now T=(if zfq (zak L (T.getD 0 empty)).key.val.rq (T.getD 1 empty) 0<0 then ((L.map KV.key),zbm) else ((L.map KV.key),zax (Kk.zc6 ((zak L (T.getD 0 empty)).key.val.rq.getD (zfq (zak L (T.getD 0 empty)).key.val.rq (T.getD 1 empty) 0).toNat Kk.rk0).s))):=by
 show (if zfq (kS L (T.getD 0 empty) 4).val.rq (T.getD 1 empty) 0<0 then ((L.map KV.key),zbm) else ((L.map KV.key),zax (Kk.zc6 ((kS L (T.getD 0 empty) 4).val.rq.getD (zfq (kS L (T.getD 0 empty) 4).val.rq (T.getD 1 empty) 0).toNat Kk.rk0).s)))=_;rw [(zct L (T.getD 0 empty) 4).2.2.2.1]
theorem ykq:tgt 22 L now T=(if zfq (zak L (T.getD 0 empty)).key.val.rq (T.getD 1 empty) 0<0 then ((L.map KV.key),zbm) else ((L.map KV.key),zam (zfq (zak L (T.getD 0 empty)).key.val.rq (T.getD 1 empty) 0))):=by
 show (if zfq (kS L (T.getD 0 empty) 4).val.rq (T.getD 1 empty) 0<0 then ((L.map KV.key),zbm) else ((L.map KV.key),zam (zfq (kS L (T.getD 0 empty) 4).val.rq (T.getD 1 empty) 0)))=_;rw [(zct L (T.getD 0 empty) 4).2.2.2.1]
theorem yk7:tgt 25 L now T=(if zlh T=true then ((L.map KV.key),zb5 (zd8 (zak L (T.getD 0 empty)).key.val.rq (zbc (T.getD 1 empty)).1 (zbc (T.getD 2 empty)).1)) else ((L.map KV.key),zcb zdc)):=by
 show (if ((zbc (T.getD 1 empty)).2&&(zbc (T.getD 2 empty)).2)=true then ((L.map KV.key),zb5 (zd8 (kS L (T.getD 0 empty) 4).val.rq (zbc (T.getD 1 empty)).1 (zbc (T.getD 2 empty)).1)) else ((L.map KV.key),zcb zdc))=_;rw [(zct L (T.getD 0 empty) 4).2.2.2.1];rfl
theorem ykr (hd:zan (L.map KV.key)=true) (hk:zhm 32 L (T.getD 0 empty)):tgt 32 L now T=za1 (L.map KV.key) (zeh L (T.getD 0 empty) ((zak L (T.getD 0 empty)).key.val.rq.filter (fun p=>!(T.tail.contains p.m)))) (zam (((zak L (T.getD 0 empty)).key.val.rq.length:Int)-(((zak L (T.getD 0 empty)).key.val.rq.filter (fun p=>!(T.tail.contains p.m))).length:Int))):=by
 show za1 (L.map KV.key) ((kS L (T.getD 0 empty) 4).withRanks (T.tail.foldl Kk.without (kS L (T.getD 0 empty) 4).val.rq)) (zam (((kS L (T.getD 0 empty) 4).val.rq.length:Int)-((T.tail.foldl Kk.without (kS L (T.getD 0 empty) 4).val.rq).length:Int)))=_;rw [(zct L (T.getD 0 empty) 4).2.2.2.1,zue hd (fun h=>hk (by decide) h),zkb]
theorem yk5 (hd:zan (L.map KV.key)=true) (hk:zhm 34 L (T.getD 0 empty)):tgt 34 L now T=(match zc8 (zak L (T.getD 0 empty)).key.val.rq T.tail with|some X=>za1 (L.map KV.key) (zeh L (T.getD 0 empty) X) (zam ((X.length:Int)-((zak L (T.getD 0 empty)).key.val.rq.length:Int)))|none=> ((L.map KV.key),zcb zdc)):=by
 show (match zc8 (kS L (T.getD 0 empty) 4).val.rq T.tail with|some X=>za1 (L.map KV.key) ((kS L (T.getD 0 empty) 4).withRanks X) (zam ((X.length:Int)-((kS L (T.getD 0 empty) 4).val.rq.length:Int)))|none=> ((L.map KV.key),zcb zdc))=_;rw [(zct L (T.getD 0 empty) 4).2.2.2.1];cases zc8 (zak L (T.getD 0 empty)).key.val.rq T.tail with
 |none=>rfl
 |some X=>
  show za1 (L.map KV.key) ((kS L (T.getD 0 empty) 4).withRanks X) _=za1 (L.map KV.key) (zeh L (T.getD 0 empty) X) _;rw [zue hd (fun h=>hk (by decide) h)]
end
end
theorem ydo {L:List KV} (hd:zan (L.map KV.key)=true) (nm:ByteArray):∃kd:Nat,(zak L nm).key.val.kind=(kd:Int)/\kd<=4:=by
 cases hf:(zao L nm).isSome with
 |true=>
  have h:=(zgc hd hf).le;exact ⟨(zak L nm).key.val.kind.toNat,by omega,by omega⟩
 |false=>
  rcases zby L nm with ⟨h,e⟩|⟨h,-,-⟩
  ·rw [e];exact ⟨0,rfl,by omega⟩
  ·rw [h] at hf;cases hf
theorem ygn (B g b n:Nat) (now:Int) (aa:Option Addr) (ab ao ac:Nat) (L:List KV) (T:List ByteArray) (ad:Nat->Addr) (w:World) (h:zcr w B g b n now aa ab ao ac L L T) (hd:zan (L.map KV.key)=true) (hE:zhj w B ad) (hn:n<=1000) (hs:∀t∈T,t.size<=200) (hm:T.length<=16) (hac:T.length<=ac) (hnow:0<=now/\now<=1000000000) (c:Cm):
  c.fits T.length=true->zhm c L (T.getD 0 empty)->Calls prog (fnC c) #[.pointer (some ⟨g,0,none⟩)] w (zar w B g b now aa ab ao ac T ad (L.map KV.key) (tgt c L now T)):=by
 have hz:(T.getD 0 empty).size<=maxLen:=by have:=zav hs 0;unfold maxLen;omega
 have hsm:=za8 hd (T.getD 0 empty);refine Cm.elim (motive:=fun c=>c.fits T.length=true->zhm c L (T.getD 0 empty)->Calls prog (fnC c) #[.pointer (some ⟨g,0,none⟩)] w (zar w B g b now aa ab ao ac T ad (L.map KV.key) (tgt c L now T))) ?PINGx ?KEYSx ?FLUSHALLx ?DBSIZEx ?ECHOx ?GETx ?STRLENx ?TYPEx ?TTLx ?PERSISTx ?LPOPx ?RPOPx ?LLENx ?HLENx ?HGETALLx ?ZCARDx ?SETNXx ?INCRBYx ?APPENDx ?EXPIREx ?HGETx ?ZSCOREx ?ZRANKx ?GETRANGEx ?LRANGEx ?ZRANGEx ?SETx ?DELx ?EXISTSx ?LPUSHx ?RPUSHx ?HDELx ?ZREMx ?HSETx ?ZADDx c
 case PINGx=>
  intro hf hk;have hT:=Qg hf;exact (zxq g b n now aa ab ao ac L T w h.call (by omega)).mono fun e w' he=>zbo h he
 case KEYSx=>
  intro hf hk;have hT:=Qg hf;exact zxd B g b n now aa ab ao ac L T ad w h hd
 case FLUSHALLx=>
  intro hf hk;have hT:=Qg hf;exact zm1 B g b n now aa ab ao ac L T ad w h
 case DBSIZEx=>
  intro hf hk;have e0:(L.map KV.key).length=L.length:=Qp ..;have e1:tgt 3 L now T=(L.map KV.key,zam L.length):=by
   show (L.map KV.key,zam (L.map KV.key).length)=_;rw [e0]
  rw [e1];exact (zp9 g b n now aa ab ao ac L T w h.call).mono fun e w' he=>zbo h he
 case ECHOx=>
  intro hf hk;have hT:=Qg hf;exact (zm7 g b n now aa ab ao ac L T w h.call (by omega)).mono fun e w' he=>zbo h he
 case GETx=>
  intro hf hk;have hT:=Qg hf;rw [tg5];exact (ybk g b n now aa ab ao ac L T w h.call (by omega) hz).mono fun e w' he=>zbo h he
 case STRLENx=>
  intro hf hk;have hT:=Qg hf;rw [tg6];exact (zqe g b n now aa ab ao ac L T w h.call (by omega) hz).mono fun e w' he=>zbo h he
 case TYPEx=>
  intro hf hk;have hT:=Qg hf;obtain ⟨kd,hkd,hk4⟩:=ydo hd (T.getD 0 empty);rw [tg7 L now T hkd];exact (zv6 g b n now aa ab ao ac L T w h.call (by omega) hz kd hkd hk4).mono fun e w' he=>zbo h he
 case TTLx=>
  intro hf hk;have hT:=Qg hf;rw [tg8];exact (yag g b n now aa ab ao ac L T w h.call (by omega) hz hnow hsm.due).mono fun e w' he=>zbo h he
 case PERSISTx=>
  intro hf hk;have hT:=Qg hf;rw [tg9];exact zpk B g b n now aa ab ao ac L T ad w h hd hE hn hs hT
 case LPOPx=>
  intro hf hk;have hT:=Qg hf;rw [yku L now T hd hk];exact zxl B g b n now aa ab ao ac L T ad w h hd hE hn hs hT
 case RPOPx=>
  intro hf hk;have hT:=Qg hf;rw [yks L now T hd hk];exact zv4 B g b n now aa ab ao ac L T ad w h hd hE hn hs hT
 case LLENx=>
  intro hf hk;have hT:=Qg hf;rw [ykp];obtain ⟨xa,xc,xe⟩:=zad (h.keyOwn (T.getD 0 empty)).ia;exact (zwx g b n now aa ab ao ac L T w h.call (by omega) hz xe).mono fun e w' he=>zbo h he
 case HLENx=>
  intro hf hk;have hT:=Qg hf;rw [yk1];obtain ⟨xa,xc,xe⟩:=zad (h.keyOwn (T.getD 0 empty)).pj;exact (zwr g b n now aa ab ao ac L T w h.call (by omega) hz xe).mono fun e w' he=>zbo h he
 case HGETALLx=>
  intro hf hk;have hT:=Qg hf;rw [ykt];exact zoh B g b n now aa ab ao ac L T ad w h hd hs hT
 case ZCARDx=>
  intro hf hk;have hT:=Qg hf;rw [yk4];obtain ⟨xa,xc,xe⟩:=zad (h.keyOwn (T.getD 0 empty)).rq;exact (zt3 g b n now aa ab ao ac L T w h.call (by omega) hz xe).mono fun e w' he=>zbo h he
 case SETNXx=>
  intro hf hk;have hT:=Qg hf;rw [ykn];exact zr9 B g b n now aa ab ao ac L T ad w h hd hE hn hs hT
 case INCRBYx=>
  intro hf hk;have hT:=Qg hf;rw [yko L now T hd hk];exact zqs B g b n now aa ab ao ac L T ad w h hd hE hn hs hT
 case APPENDx=>
  intro hf hk;have hT:=Qg hf;rw [yk2 L now T hd hk];exact zpv B g b n now aa ab ao ac L T ad w h hd hE hn hs hT
 case EXPIREx=>
  intro hf hk;have hT:=Qg hf;rw [yk6];exact zpu B g b n now aa ab ao ac L T ad w h hd hE hn hs hT hnow
 case HGETx=>
  intro hf hk;have hT:=Qg hf;rw [ykl];exact zw8 B g b n now aa ab ao ac L T ad w h hd hs hT
 case ZSCOREx=>
  intro hf hk;have hT:=Qg hf;rw [yk9];exact zp8 B g b n now aa ab ao ac L T ad w h hd hE hs hT
 case ZRANKx=>
  intro hf hk;have hT:=Qg hf;rw [ykq];exact ztr B g b n now aa ab ao ac L T ad w h hd hs hT
 case GETRANGEx=>
  intro hf hk;have hT:=Qg hf;rw [ylb];exact zmy B g b n now aa ab ao ac L T ad w h hd hE hs hT
 case LRANGEx=>
  intro hf hk;have hT:=Qg hf;rw [yla];exact zqf B g b n now aa ab ao ac L T ad w h hd hE hs hT
 case ZRANGEx=>
  intro hf hk;have hT:=Qg hf;rw [yk7];exact zro B g b n now aa ab ao ac L T ad w h hd hE hs hT
 case SETx=>
  intro hf hk;have hT:=Qg hf;rw [ykw];exact zym B g b n now aa ab ao ac L T ad w h hd hE hn hs hT hac hnow
 case DELx=>
  intro hf hk;have hT:=Qg hf;exact yb5 B g b n now aa ab ao ac L T ad w h hd hs hm
 case EXISTSx=>
  intro hf hk;have hT:=Qg hf;exact zqd B g b n now aa ab ao ac L T ad w h hs hm
 case LPUSHx=>
  intro hf hk;have hT:=Qg hf;rw [yk8 L now T hd hk];exact zsz B g b n now aa ab ao ac L T ad w h hd hE hn hs hT hm hac
 case RPUSHx=>
  intro hf hk;have hT:=Qg hf;rw [yk3 L now T hd hk];exact ztw B g b n now aa ab ao ac L T ad w h hd hE hn hs hT hm hac
 case HDELx=>
  intro hf hk;have hT:=Qg hf;rw [ykx L now T hd hk];exact zx3 B g b n now aa ab ao ac L T ad w h hd hE hn hs hT hm hac
 case ZREMx=>
  intro hf hk;have hT:=Qg hf;rw [ykr L now T hd hk];exact zw6 B g b n now aa ab ao ac L T ad w h hd hE hn hs hT hm hac
 case HSETx=>
  intro hf hk;have hT:=Qg hf;rw [yky L now T hd hk];exact zxc B g b n now aa ab ao ac L T ad w h hd hE hn hs hT.1 hm hT.2 hac
 case ZADDx=>
  intro hf hk;have hT:=Qg hf;rw [yk5 L now T hd hk];exact zwy B g b n now aa ab ao ac L T ad w h hd hE hn hs hT.1 hm hT.2 hac
theorem yd2 (c:Cm):∀args w,(callFunc (fnC c) args).run prog w= .ok (.enter (fnC c) args) w:=
 Cm.elim (motive:=fun c=>∀args w,(callFunc (fnC c) args).run prog w= .ok (.enter (fnC c) args) w) (enters_of func172 (by kernel_rfl) rfl) (enters_of func174 (by kernel_rfl) rfl) (enters_of func176 (by kernel_rfl) rfl) (enters_of func175 (by kernel_rfl) rfl) (enters_of func173 (by kernel_rfl) rfl) (enters_of func186 (by kernel_rfl) rfl) (enters_of func187 (by kernel_rfl) rfl) (enters_of func182 (by kernel_rfl) rfl) (enters_of func183 (by kernel_rfl) rfl) (enters_of func184 (by kernel_rfl) rfl) (enters_of func193 (by kernel_rfl) rfl) (enters_of func194 (by kernel_rfl) rfl) (enters_of func195 (by kernel_rfl) rfl) (enters_of func200 (by kernel_rfl) rfl) (enters_of func201 (by kernel_rfl) rfl) (enters_of func204 (by kernel_rfl) rfl) (enters_of func181 (by kernel_rfl) rfl) (enters_of func190 (by kernel_rfl) rfl) (enters_of func189 (by kernel_rfl) rfl) (enters_of func185 (by kernel_rfl) rfl) (enters_of func198 (by kernel_rfl) rfl) (enters_of func205 (by kernel_rfl) rfl) (enters_of func206 (by kernel_rfl) rfl) (enters_of func188 (by kernel_rfl) rfl) (enters_of func196 (by kernel_rfl) rfl) (enters_of func207 (by kernel_rfl) rfl) (enters_of func180 (by kernel_rfl) rfl) (enters_of func178 (by kernel_rfl) rfl) (enters_of func179 (by kernel_rfl) rfl) (enters_of func191 (by kernel_rfl) rfl) (enters_of func192 (by kernel_rfl) rfl) (enters_of func199 (by kernel_rfl) rfl) (enters_of func203 (by kernel_rfl) rfl) (enters_of func197 (by kernel_rfl) rfl) (enters_of func202 (by kernel_rfl) rfl) c
def ycj:Nat->List Rp
 |0=>zcb zc4
 |5=>zhs
 |6=>zcb zdu
 |i=>zcb (zx9 i)
structure yib (w:World) (B:Nat) (ad:Nat->Addr):Prop where
 er:zhj w B ad
 ms:∀i,i=0\/i=5\/i=6->w.cell? ⟨gi i,0,none⟩=some (.iface 307 (.pointer (some (ad i))))
theorem yjj {i:Nat} (hi:i=0\/i=5\/i=6):gi i<22:=by
 rcases hi with rfl|rfl|rfl<;>decide
theorem yib.bw (h:yib w B ad) (hb:Below B w w'):yib w' B ad:=
 ⟨h.er.bw hb,fun i hi=> (hb.cell (p:=⟨gi i,0,none⟩) (by have:=h.er.n25;have:=yjj hi;show gi i<B;omega)).trans (h.ms i hi)⟩
def zj7 (w:World) (B g b:Nat) (now:Int) (aa:Option Addr) (ab ao ac:Nat) (T:List ByteArray) (ad:Nat->Addr) (ks:List Ke) (p:List Ke×List Rp) (e:Ending) (w':World):Prop:=
 ∃r er,e= .returned (.tuple #[r,er])/\Below B w w'/\
  ((er= .nilIface/\zbe w' w.heap.size r p.2/\∃n' L',L'.map KV.key=p.1/\zcr w' B g b n' now aa ab ao ac L' L' T)
   \/∃i pb,(i=0\/i=1\/i=5\/i=6\/i=9\/i=10\/i=11\/i=12)/\er= .iface 125 (.pointer (some ⟨pb,0,none⟩))/\B<=pb/\pb<w'.heap.size/\w'.cell? ⟨pb,0,none⟩=some (.iface 307 (.pointer (some (ad i))))/\p=(ks,ycj i))
def zne (word:ByteArray) (ks:List Ke) (now:Int) (T:List ByteArray):List Ke×List Rp:=match zlt (zcv word) with
 |none=> (ks,zcb zdu)
 |some c=>if c.fits T.length=true then (if c.many=true then zgr c ks T else ztx c ks now T) else (ks,zcb zc4)
theorem yay {p:Addr} {v:Value} (h:w.cell? p=some v):p.block<w.heap.size:=by
 rcases Nat.lt_or_ge p.block w.heap.size with h1|h1
 ·exact h1
 ·simp [World.cell?,Array.getElem?_eq_none h1] at h
theorem zzl:(Cm.all.all fun c=>!c.many||decide (c.kind=0))=true:=by kernel_rfl
theorem zpp:(Cm.all.all fun c=>decide (c.kind=0)||!c.fits 0)=true:=by kernel_rfl
theorem zqh (w:World) (v0 v1 v2 v3 v4:Value):∃W,(((((w.alloc (.cells #[.int .i64 0,.int .i64 0,.int .i64 0,.int .i64 0,.nilFunc] 122)).setCell ⟨w.heap.size,0,none⟩ v0).setCell ⟨w.heap.size,1,none⟩ v1).setCell ⟨w.heap.size,2,none⟩ v2).setCell ⟨w.heap.size,3,none⟩ v3).setCell ⟨w.heap.size,4,none⟩ v4=W/\Bl w W/\zab W w.heap.size 122 #[v0,v1,v2,v3,v4]:=by
 obtain ⟨W0,hW0,-,b0,q0⟩:=boxed w #[.int .i64 0,.int .i64 0,.int .i64 0,.int .i64 0,.nilFunc] 122;rw [hW0];have hl:=Qc w.heap.size;exact ⟨_,rfl,((((b0.setCell hl _).setCell hl _).setCell hl _).setCell hl _).setCell hl _,yfq q0⟩
theorem yid (word:ByteArray) (B g b n:Nat) (now:Int) (aa:Option Addr) (ab ao ac:Nat) (L:List KV) (T:List ByteArray) (ad:Nat->Addr) (w:World) (h:zcr w B g b n now aa ab ao ac L L T) (hd:zan (L.map KV.key)=true) (hE:yib w B ad) (hn:n<=1000) (hs:∀t∈T,t.size<=200) (hw:word.size<=200) (hm:T.length<=16) (hac:T.length<=ac) (hnow:0<=now/\now<=1000000000):
  Calls prog 48 #[.pointer (some ⟨g,0,none⟩),.string word] w (zj7 w B g b now aa ab ao ac T ad (L.map KV.key) (zne word (L.map KV.key) now T)):=by
 have HC:=hid (zpr word T.length ad w (by omega) hm (hE.ms 0 (by omega)) (hE.ms 6 (by omega)) (Qj hE.er.n25 h.le));have c2:=h.call.c2;have HLE:=hid h.le;have hsN:=fun (a:Addr) (w:World)=>run_store prog w a .nilFunc .plain rfl;cases hoc:zlt (zcv word) with
 |none=>
  have hp:zne word (L.map KV.key) now T=(L.map KV.key,ycj 6):=by unfold zne;rw [hoc];rfl
  rw [hp];rw [hoc] at HC;clear h hd hE hs hoc hp;generalize L.map KV.key=ks at*;generalize hmm:T.length=m at*;go_enter func48,ntmps48;go_wp2_with fail;refine HC.out.mono ?_;rintro e w1 ⟨b1,v,rfl,pb,rfl,hpb,hc1⟩;obtain ⟨W0,hW0,HW0,b0,q0⟩:=boxed w1 #[.int .i64 0,.int .i64 0,.int .i64 0,.int .i64 0,.nilFunc] 122;have y0:=q0.cell 0;have y1:=q0.cell 1;have y2:=q0.cell 2;have y3:=q0.cell 3;have y4:=q0.cell 4;have z0:=q0.frozen 0;have z1:=q0.frozen 1;have z2:=q0.frozen 2;have z3:=q0.frozen 3;have z4:=q0.frozen 4;simp only [Qm,Qk,Ql] at y0 y1 y2 y3 y4;obtain ⟨W,hW,bW,rW⟩:=zqh w1 (.int .i64 0) (.int .i64 0) (.int .i64 0) (.int .i64 0) .nilFunc;rw [hW0] at hW;have HF:Hid (zj7 w B g b now aa ab ao ac T ad ks (ks,ycj 6) (.returned (.tuple #[.slice none 0 0,.iface 125 (.pointer (some ⟨pb,0,none⟩))])) W):=by
   have hlt:=yay hc1;have hb:=b1.trans (bW.mono b1.size);exact ⟨_,_,rfl,hb.mono HLE.out,.inr ⟨6,pb,by omega,rfl,Qj HLE.out hpb,Qr hlt bW.size,(bW.cell (p:=⟨pb,0,none⟩) hlt).trans hc1,rfl⟩⟩
  clear b0 q0 bW rW b1 hc1 hpb HC;go_wp2;go_ret2;exact HF.out
 |some c=>
  cases hft:c.fits T.length with
  |false=>
   have hp:zne word (L.map KV.key) now T=(L.map KV.key,ycj 0):=by
    unfold zne;rw [hoc];show (if c.fits T.length=true then _ else _)=_;rw [hft,if_neg (by simp)];rfl
   rw [hp];have HC:Hid (Cp 90 #[.string word,.int .i64 T.length] w fun e w'=>Bl w w'/\∃v,e= .returned (.tuple #[.agg #[.int .i64 0,.int .i64 0,.int .i64 0,.int .i64 0,.nilFunc],v])/\yjc w w' (ad 0) v):=by
    refine HC.out.mono ?_;rintro e w' ⟨hb,h1⟩;rw [hoc] at h1;have h1:if c.fits T.length=true then _ else _:=h1;rw [hft,if_neg (by simp)] at h1;exact ⟨hb,h1⟩
   clear h hd hE hs hoc hp hft;generalize L.map KV.key=ks at*;generalize hmm:T.length=m at*;go_enter func48,ntmps48;go_wp2_with fail;refine HC.out.mono ?_;rintro e w1 ⟨b1,v,rfl,pb,rfl,hpb,hc1⟩;obtain ⟨W0,hW0,HW0,b0,q0⟩:=boxed w1 #[.int .i64 0,.int .i64 0,.int .i64 0,.int .i64 0,.nilFunc] 122;have y0:=q0.cell 0;have y1:=q0.cell 1;have y2:=q0.cell 2;have y3:=q0.cell 3;have y4:=q0.cell 4;have z0:=q0.frozen 0;have z1:=q0.frozen 1;have z2:=q0.frozen 2;have z3:=q0.frozen 3;have z4:=q0.frozen 4;simp only [Qm,Qk,Ql] at y0 y1 y2 y3 y4;obtain ⟨W,hW,bW,rW⟩:=zqh w1 (.int .i64 0) (.int .i64 0) (.int .i64 0) (.int .i64 0) .nilFunc;rw [hW0] at hW;have HF:Hid (zj7 w B g b now aa ab ao ac T ad ks (ks,ycj 0) (.returned (.tuple #[.slice none 0 0,.iface 125 (.pointer (some ⟨pb,0,none⟩))])) W):=by
    have hlt:=yay hc1;have hb:=b1.trans (bW.mono b1.size);exact ⟨_,_,rfl,hb.mono HLE.out,.inr ⟨0,pb,by omega,rfl,Qj HLE.out hpb,Qr hlt bW.size,(bW.cell (p:=⟨pb,0,none⟩) hlt).trans hc1,rfl⟩⟩
   clear b0 q0 bW rW b1 hc1 hpb HC;go_wp2;go_ret2;exact HF.out
  |true=>
   have HC:Hid (Cp 90 #[.string word,.int .i64 T.length] w fun e w'=>Bl w w'/\e= .returned (.tuple #[.agg #[.int .i64 (zfs c).kd,.int .i64 (zfs c).tk.lo,.int .i64 (zfs c).tk.hi,.int .i64 (zfs c).tk.st,.func (.func (zfs c).fn) #[] #[]],.nilIface])):=by
    refine HC.out.mono ?_;rintro e w' ⟨hb,h1⟩;rw [hoc] at h1;have h1:if c.fits T.length=true then _ else _:=h1;rw [hft,if_pos rfl] at h1;exact ⟨hb,h1⟩
   rw [yjm c,yka c] at HC;have hent:=yd2 c;have hpos:c.kind≠0->0<T.length:=fun h0=>by
    rcases Nat.eq_zero_or_pos T.length with e|e
    ·have:=Qw.1 zpp c (zml c);rw [e] at hft;rw [hft,Qf h0] at this;cases this
    ·exact e
   have hmk:c.many=true->c.kind=0:=fun h0=>by
    have:=Qw.1 zzl c (zml c);rw [h0] at this;exact Qg this
   have hz:(T.getD 0 empty).size<=maxLen:=by have:=zav hs 0;unfold maxLen;omega
   have hrun:zne word (L.map KV.key) now T=if (decide (c.kind≠0)&&((zao L (T.getD 0 empty)).isSome&&!((zak L (T.getD 0 empty)).key.val.kind==(c.kind:Int))))=true then (L.map KV.key,zhs) else tgt c L now T:=by
    unfold zne;rw [hoc];show (if c.fits T.length=true then _ else _)=_;rw [hft,if_pos rfl];cases hmn:c.many with
    |false=>rw [if_neg (by simp),yfz c now T hmn]
    |true=>
     rw [if_pos rfl,hmk hmn,Qf (by simp),Q0,if_neg (by simp)];unfold tgt;rw [hmn,if_pos rfl]
   have HACT:Hid (zhm c L (T.getD 0 empty)->∀W,Bl w W->Cp (fnC c) #[.pointer (some ⟨g,0,none⟩)] W fun e w'=>∃r er,e= .returned (.tuple #[r,er])/\Below B w w'/\W.heap.size<=w'.heap.size/\((er= .nilIface/\zbe w' w.heap.size r (tgt c L now T).2/\∃n' L',L'.map KV.key=(tgt c L now T).1/\zcr w' B g b n' now aa ab ao ac L' L' T)\/∃i,(i=1\/i=9\/i=10\/i=11\/i=12)/\er= .iface 307 (.pointer (some (ad i)))/\tgt c L now T=(L.map KV.key,zcb (zx9 i)))):=fun hfit W hb=>by
    have hE':=(hE.bw (hb.mono h.le)).er;refine (ygn B g b n now aa ab ao ac L T ad W (h.bw hb) hd hE' hn hs hm hac hnow c hft hfit).mono ?_;rintro e w' ⟨r,er,rfl,hbB,hh⟩;refine ⟨r,er,rfl,(hb.mono h.le).trans hbB,hbB.size,?_⟩;rcases hh with ⟨h1,h2,h3⟩|h1
    ·exact .inl ⟨h1,h2.le hb.size,h3⟩
    ·exact .inr h1
   have HOT:Hid (c.kind≠0->∀W,Bl w W->Cp 91 #[.pointer (some ⟨g,0,none⟩),.int .i64 (c.kind:Int)] W fun e w'=>e= .returned (.bool ((zao L (T.getD 0 empty)).isSome&&!((zak L (T.getD 0 empty)).key.val.kind==(c.kind:Int))))/\Bl W w'):=fun h0 W hb=>ztu g b n now c.kind aa ab ao ac L T W (h.bw hb).call (hpos h0) hz;have HK5:Hid (∀W,Bl w W->W.cell? ⟨0,0,none⟩=some (.iface 307 (.pointer (some (ad 5))))/\5<W.heap.size):=fun W hb=>⟨(hE.bw (hb.mono h.le)).ms 5 (by omega),by have:=hE.er.n25;have:=h.le;have:=hb.size;omega⟩;have HFT:Hid (c.kind≠0->((zao L (T.getD 0 empty)).isSome&&!((zak L (T.getD 0 empty)).key.val.kind==(c.kind:Int)))=false->zhm c L (T.getD 0 empty)):=fun _ hx _ hf=>by
    rw [hf,Qz] at hx;simpa using hx
   have HF0:Hid (c.kind=0->zhm c L (T.getD 0 empty)):=fun h0 h1=>absurd h0 h1;rw [hrun];clear h hd hE hs hoc hrun hft hpos hmk hz hn hac hnow;generalize ((zao L (T.getD 0 empty)).isSome&&!((zak L (T.getD 0 empty)).key.val.kind==(c.kind:Int)))=ot,zhm c L (T.getD 0 empty)=FT,tgt c L now T=tg,L.map KV.key=ks at*;generalize hmm:T.length=m at*;generalize ((zfs c).tk.lo:Int)=lo,((zfs c).tk.hi:Int)=hi,((zfs c).tk.st:Int)=st,fnC c=f at*;have hsF:=fun (a:Addr) (w:World)=>run_store prog w a (.func (.func f) #[] #[]) .plain rfl;generalize c.kind=kn at*;have hld:∀(a:Addr) (W:World),W.cell? a=some (.func (.func f) #[] #[])->True:=fun _ _ _=>trivial;clear hld hmm;by_cases hk0:kn=0
   ·subst hk0;rw [Qf (by simp),Q0,if_neg (by simp)];have HFT1:Hid FT:=HF0.out rfl;go_enter func48,ntmps48;go_wp2_with fail;refine HC.out.mono ?_;rintro e w1 ⟨b1,rfl⟩;obtain ⟨W0,hW0,HW0,b0,q0⟩:=boxed w1 #[.int .i64 0,.int .i64 0,.int .i64 0,.int .i64 0,.nilFunc] 122;have y0:=q0.cell 0;have y1:=q0.cell 1;have y2:=q0.cell 2;have y3:=q0.cell 3;have y4:=q0.cell 4;have z0:=q0.frozen 0;have z1:=q0.frozen 1;have z2:=q0.frozen 2;have z3:=q0.frozen 3;have z4:=q0.frozen 4;simp only [Qm,Qk,Ql] at y0 y1 y2 y3 y4;obtain ⟨W,hW,bW,rW⟩:=zqh w1 (.int .i64 0) (.int .i64 lo) (.int .i64 hi) (.int .i64 st) (.func (.func f) #[] #[]);rw [hW0] at hW;have hb1W:=b1.trans (bW.mono b1.size);have HW:Hid (Bl w W/\zab W w1.heap.size 122 #[.int .i64 0,.int .i64 lo,.int .i64 hi,.int .i64 st,.func (.func f) #[] #[]]):=⟨hb1W,rW⟩;have u0:=rW.cell 0;have u1:=rW.cell 1;have u2:=rW.cell 2;have u3:=rW.cell 3;have u4:=rW.cell 4;simp only [Qm,Qk,Ql] at u0 u1 u2 u3 u4;clear b0 q0 bW rW b1 hb1W HC;have HA:Hid (Cp f #[.pointer (some ⟨g,0,none⟩)] W _):=HACT.out HFT1.out W HW.out.1;clear HACT HW HK5 HOT HFT HF0;go_wp2_with fail;refine HA.out.mono ?_;rintro e w6 ⟨r,er,rfl,b6,s6,hh⟩;rcases hh with ⟨rfl,hr,hx⟩|⟨i,hi9,rfl,hp⟩
    ·have HF:Hid (zj7 w B g b now aa ab ao ac T ad ks tg (.returned (.tuple #[r,.nilIface])) w6):=⟨_,_,rfl,b6,.inl ⟨rfl,hr,hx⟩⟩;clear hr hx b6 s6 HA;go_wp2;go_ret2;exact HF.out
    ·have HF:Hid (zj7 w B g b now aa ab ao ac T ad ks tg (.returned (.tuple #[.slice none 0 0,.iface 125 (.pointer (some ⟨w6.heap.size,0,none⟩))])) (w6.alloc (.cells #[.iface 307 (.pointer (some (ad i)))] 127))):=by
      have hB6:B<=w6.heap.size:=Qj HLE.out b6.size;refine ⟨_,_,rfl,b6.alloc hB6 _,.inr ⟨i,w6.heap.size,by omega,rfl,hB6,by simp,(zab.new w6 127 #[.iface 307 (.pointer (some (ad i)))]).cell 0,?_⟩⟩;rw [hp];rcases hi9 with rfl|rfl|rfl|rfl|rfl<;>rfl
     clear b6 s6 HA hp hi9;go_wp2;go_ret2;exact HF.out
   ·have hkI:¬(kn:Int)=0:=by omega
    have hkD:((kn:Int)==0)=false:=by simpa using hkI
    rw [Qe (by simpa using hk0),Qz];cases ot with
    |true=>
     rw [if_pos rfl];go_enter func48,ntmps48;go_wp2_with fail;refine HC.out.mono ?_;rintro e w1 ⟨b1,rfl⟩;obtain ⟨W0,hW0,HW0,b0,q0⟩:=boxed w1 #[.int .i64 0,.int .i64 0,.int .i64 0,.int .i64 0,.nilFunc] 122;have y0:=q0.cell 0;have y1:=q0.cell 1;have y2:=q0.cell 2;have y3:=q0.cell 3;have y4:=q0.cell 4;have z0:=q0.frozen 0;have z1:=q0.frozen 1;have z2:=q0.frozen 2;have z3:=q0.frozen 3;have z4:=q0.frozen 4;simp only [Qm,Qk,Ql] at y0 y1 y2 y3 y4;obtain ⟨W,hW,bW,rW⟩:=zqh w1 (.int .i64 kn) (.int .i64 lo) (.int .i64 hi) (.int .i64 st) (.func (.func f) #[] #[]);rw [hW0] at hW;have hb1W:=b1.trans (bW.mono b1.size);have HW:Hid (Bl w W/\zab W w1.heap.size 122 #[.int .i64 kn,.int .i64 lo,.int .i64 hi,.int .i64 st,.func (.func f) #[] #[]]):=⟨hb1W,rW⟩;have u0:=rW.cell 0;have u1:=rW.cell 1;have u2:=rW.cell 2;have u3:=rW.cell 3;have u4:=rW.cell 4;simp only [Qm,Qk,Ql] at u0 u1 u2 u3 u4;clear b0 q0 bW rW b1 hb1W HC;have HO:=hid (HOT.out hk0 W HW.out.1);clear HACT HOT HFT HF0;go_wp2_with fail;refine HO.out.mono ?_;rintro e w5 ⟨rfl,b5⟩;have b5w:Bl w w5:=HW.out.1.trans (b5.mono HW.out.1.size);obtain ⟨k5,l5⟩:=HK5.out w5 b5w;have HF:Hid (zj7 w B g b now aa ab ao ac T ad ks (ks,zhs) (.returned (.tuple #[.slice none 0 0,.iface 125 (.pointer (some ⟨w5.heap.size,0,none⟩))])) (w5.alloc (.cells #[.iface 307 (.pointer (some (ad 5)))] 127)).drew):=by
      have hB5:B<=w5.heap.size:=Qj HLE.out b5w.size;have hc:=(zab.new w5 127 #[.iface 307 (.pointer (some (ad 5)))]).cell 0;exact ⟨_,_,rfl,((b5w.mono HLE.out).alloc hB5 _).drew,.inr ⟨5,w5.heap.size,by omega,rfl,hB5,by simp [World.drew],hc,rfl⟩⟩
     clear b5 b5w HO HK5 HW;go_upto_region 5 with fail;go_region;go_wp2;go_ret2;exact HF.out
    |false=>
     rw [if_neg (by simp)];have HFT1:Hid FT:=HFT.out hk0 rfl;go_enter func48,ntmps48;go_wp2_with fail;refine HC.out.mono ?_;rintro e w1 ⟨b1,rfl⟩;obtain ⟨W0,hW0,HW0,b0,q0⟩:=boxed w1 #[.int .i64 0,.int .i64 0,.int .i64 0,.int .i64 0,.nilFunc] 122;have y0:=q0.cell 0;have y1:=q0.cell 1;have y2:=q0.cell 2;have y3:=q0.cell 3;have y4:=q0.cell 4;have z0:=q0.frozen 0;have z1:=q0.frozen 1;have z2:=q0.frozen 2;have z3:=q0.frozen 3;have z4:=q0.frozen 4;simp only [Qm,Qk,Ql] at y0 y1 y2 y3 y4;obtain ⟨W,hW,bW,rW⟩:=zqh w1 (.int .i64 kn) (.int .i64 lo) (.int .i64 hi) (.int .i64 st) (.func (.func f) #[] #[]);rw [hW0] at hW;have hb1W:=b1.trans (bW.mono b1.size);have HW:Hid (Bl w W/\zab W w1.heap.size 122 #[.int .i64 kn,.int .i64 lo,.int .i64 hi,.int .i64 st,.func (.func f) #[] #[]]):=⟨hb1W,rW⟩;have u0:=rW.cell 0;have u1:=rW.cell 1;have u2:=rW.cell 2;have u3:=rW.cell 3;have u4:=rW.cell 4;simp only [Qm,Qk,Ql] at u0 u1 u2 u3 u4;clear b0 q0 bW rW b1 hb1W HC;have HO:=hid (HOT.out hk0 W HW.out.1);go_wp2_with fail;refine HO.out.mono ?_;rintro e w5 ⟨rfl,b5⟩;have b5w:Bl w w5:=HW.out.1.trans (b5.mono HW.out.1.size);have r5:=HW.out.2.bw b5 HW.out.2.lt;have x0:=r5.cell 0;have x4:=r5.cell 4;simp only [Qm,Qk,Ql] at x0 x4;have HA:Hid (Cp f #[.pointer (some ⟨g,0,none⟩)] w5 _):=HACT.out HFT1.out w5 b5w;clear HACT HW HK5 HOT HFT HF0 b5 b5w r5 HO;go_wp2_with fail;refine HA.out.mono ?_;rintro e w6 ⟨r,er,rfl,b6,s6,hh⟩;rcases hh with ⟨rfl,hr,hx⟩|⟨i,hi9,rfl,hp⟩
     ·have HF:Hid (zj7 w B g b now aa ab ao ac T ad ks tg (.returned (.tuple #[r,.nilIface])) w6):=⟨_,_,rfl,b6,.inl ⟨rfl,hr,hx⟩⟩;clear hr hx b6 s6 HA;go_wp2;go_ret2;exact HF.out
     ·have HF:Hid (zj7 w B g b now aa ab ao ac T ad ks tg (.returned (.tuple #[.slice none 0 0,.iface 125 (.pointer (some ⟨w6.heap.size,0,none⟩))])) (w6.alloc (.cells #[.iface 307 (.pointer (some (ad i)))] 127))):=by
       have hB6:B<=w6.heap.size:=Qj HLE.out b6.size;refine ⟨_,_,rfl,b6.alloc hB6 _,.inr ⟨i,w6.heap.size,by omega,rfl,hB6,by simp,(zab.new w6 127 #[.iface 307 (.pointer (some (ad i)))]).cell 0,?_⟩⟩;rw [hp];rcases hi9 with rfl|rfl|rfl|rfl|rfl<;>rfl
      clear b6 s6 HA hp hi9;go_wp2;go_ret2;exact HF.out
def zl6 (w:World) (p:List Ke×List Rp) (e:Ending) (w':World):Prop:=∃v r L',e= .returned (.tuple #[v,r])/\L'.map KV.key=p.1/\znh w' w.heap.size v L'/\zkf w' w.heap.size L'/\zbe w' w.heap.size r p.2/\Bl w w'
theorem yh9 (T:List ByteArray):(decide (1<=T.length)&&Fd.zhr T)=(decide (1<=T.length)&&zgs T):=by
 congr 1;unfold Fd.zhr zgs;rw [Bool.and_comm];congr 1;rw [Bool.eq_iff_iff,Qw,Qw];constructor
 ·intro h i hi;have hi:=List.mem_range.1 hi;rw [Qa,Qd hi];exact h _ (Qv hi)
 ·intro h t ht;obtain ⟨i,hi,rfl⟩:=List.getElem_of_mem ht;have:=h i (List.mem_range.2 hi);rw [Qa,Qd hi] at this;exact this
theorem ycy (a:Option Addr) (b off n c:Nat) (T:List ByteArray) (w:World) (h:zdg w a b off n T) (hn:n<=1048576):Calls prog 46 #[.slice a n c] w fun e w'=>e= .returned (.bool (!(decide (1<=T.length)&&zgs T)))/\w'=w:=by
 rw [<-yh9];have hl:=h.len;have h':Fd.zz7 w a b off n T:=⟨h.len,h.addr,h.low,h.cell,h.fit⟩;by_cases h0:n=0
 ·have HR:Hid ((decide (1<=T.length)&&Fd.zhr T)=false):=by unfold Hid;rw [Qf (by omega),Q0]
  subst h0;go_enter func46,ntmps46;go_wp2;go_ret;exact ⟨by rw [HR.out];rfl,rfl⟩
 ·have HR:Hid ((decide (1<=T.length)&&Fd.zhr T)=Fd.zhr T):=by unfold Hid;rw [Qe (by omega),Qz]
  have hd:((n:Int)==0)=false:=by simp;omega
  have hd2:¬(n:Int)=0:=by omega
  have HA:=Fd.yik a b off n c T w h' (by omega);go_enter func46,ntmps46;go_wp2_with fail;refine HA.mono ?_;rintro e w1 ⟨rfl,rfl⟩;go_wp2;go_ret;exact ⟨zae (by rw [HR.out]),rfl⟩
theorem zo1 (now:Int) (ks:List Ke):ks.filter (Ri.zfg now)=za5 ks now:=by
 unfold za5;congr 1;funext k;unfold Ri.zfg Ri.zej zbq;by_cases h0:k.due=0
 ·simp [h0]
 ·by_cases h1:k.due<=now
  ·simp [h0,h1]
  ·have:now<k.due:=by omega
   simp [h0,h1,this]
theorem zvh (ks:List Ke) (now:Int) (T:List ByteArray):ze2 ks now T=zne (T.getD 0 empty) ks now T.tail:=by
 unfold ze2 zne;rw [show zaj T 0=T.getD 0 empty from rfl];cases zlt (zcv (T.getD 0 empty)) with
 |none=>rfl
 |some c=>rw [List.length_tail]
theorem ycb {A:Nat} {k n:Int} {s:ByteArray} (hr:zab w A 40 #[.int .i64 k,.int .i64 n,.string s,.slice none 0 0]) (hA:B<=A):zbe w B (.slice (some ⟨A,0,none⟩) 1 1) [⟨k,n,s,[]⟩]:=
 ⟨[⟨⟨k,n,s,[]⟩,.slice none 0 0⟩],rfl,⟨rfl,.inr ⟨A,1,_,rfl,hA,hr,Qc _,by unfold maxLen;omega,rfl,rfl⟩⟩,fun x hx=>by
  rcases List.mem_singleton.1 hx with rfl;exact World.ownsRow_nil _ _ _ _⟩
def zgk:ByteArray:=⟨#[87,82,79,78,71,84,89,80,69]⟩
def yge:Nat->ByteArray
 |0=>zc4
 |5=>zgk
 |6=>zdu
 |i=>zx9 i
structure yav (w:World) (ad:Nat->Addr):Prop where
 es:yib w w.heap.size ad
 ev:∀i,i=0\/i=5\/i=6->zna w i (ad i) (yge i)
 ne:∀i,i=0\/i=1\/i=6\/i=9\/i=10\/i=11\/i=12->ad i≠ad 5
 g7:w.cell? ⟨3,0,none⟩=some (.iface 215 (.agg #[.pointer (some ⟨22,75,none⟩)]))
theorem yav.at (h:yav w ad) (hb:Bl w W) (i:Nat) (hi:i=0\/i=1\/i=5\/i=6\/i=9\/i=10\/i=11\/i=12):zna W i (ad i) (yge i):=by
 have h25:=h.es.er.n25;have:zna w i (ad i) (yge i):=by
  rcases hi with rfl|rfl|rfl|rfl|rfl|rfl|rfl|rfl
  ·exact h.ev 0 (by omega)
  ·exact (h.es.er.er 1 (by omega)).1
  ·exact h.ev 5 (by omega)
  ·exact h.ev 6 (by omega)
  ·exact (h.es.er.er 9 (by omega)).1
  ·exact (h.es.er.er 10 (by omega)).1
  ·exact (h.es.er.er 11 (by omega)).1
  ·exact (h.es.er.er 12 (by omega)).1
 exact this.bw hb h25 this.low
theorem ybn (i:Nat) (hi:i=0\/i=1\/i=5\/i=6\/i=9\/i=10\/i=11\/i=12):(yge i).size<=200:=by
 rcases hi with rfl|rfl|rfl|rfl|rfl|rfl|rfl|rfl<;>decide
theorem zn6 (h:yav w ad) (hb:Bl w W) (i pb:Nat) (hi:i=0\/i=1\/i=5\/i=6\/i=9\/i=10\/i=11\/i=12) (hpb:pb<W.heap.size) (hc:W.cell? ⟨pb,0,none⟩=some (.iface 307 (.pointer (some (ad i))))):
  Calls prog 49 #[.iface 125 (.pointer (some ⟨pb,0,none⟩))] W (zci W (ycj i)):=by
 have h25:=h.es.er.n25;have hs:=hb.size;have e5:=h.at hb 5 (by omega);have ei:=h.at hb i hi;have hsz:=ybn i hi;by_cases h5:i=5
 ·subst h5;refine (Er.zmg pb (ad 5) (yge 5) W hpb ei.low hc ei.t hsz e5.v ((hb.cell (p:=⟨3,0,none⟩) (by show 3<_;omega)).trans h.g7) (by omega)).mono ?_;rintro e w' ⟨A,rfl,hr,hA,hb'⟩;exact ⟨_,rfl,ycb hr hA,hb'⟩
 ·have hi':i=0\/i=1\/i=6\/i=9\/i=10\/i=11\/i=12:=by omega
  obtain ⟨c1,t1,r1⟩:=ei.row;obtain ⟨c2,t2,r2⟩:=e5.row;refine (Er.zki pb (ad i) (ad 5) (yge i) c1 c2 t1 t2 W hpb hc ei.t hsz e5.v (by omega) (h.ne i hi') r1 r2).mono ?_;rintro e w' ⟨A,rfl,hr,hA,hb'⟩;have:ycj i=zcb (yge i):=by rcases hi' with rfl|rfl|rfl|rfl|rfl|rfl|rfl<;>rfl
  rw [this];exact ⟨_,rfl,ycb hr hA,hb'⟩
theorem yab (hb:Bl w w'):zl6 w ([],[]) (.returned (.tuple #[.slice none 0 0,.slice none 0 0])) w':=
 ⟨_,_,[],rfl,rfl,zoo _ _,⟨fun x hx=> (by cases hx),List.Pairwise.nil⟩,⟨[],rfl,World.ownsRow_nil _ _ _ _,fun x hx=> (by cases hx)⟩,hb⟩
theorem zkf.le {B':Nat} {L:List KV} (h:zkf w B L) (hb:B'<=B):zkf w B' L:=
 ⟨fun x hx=>⟨zbn (h.own x hx).ia hb,zbn (h.own x hx).pj hb,zbn (h.own x hx).rq hb⟩,h.ap⟩
theorem zua {ks:List Ke} (h:zan ks=true) (now:Int):zan (za5 ks now)=true:=by
 rw [zce] at h ⊢;exact ⟨Qj (Qt _ _) h.1,h.2.1.sublist List.filter_sublist,fun k hk=>h.2.2 k (List.mem_filter.1 hk).1⟩
theorem ygl {T:List ByteArray} (h:zdg w aa ab ao m T) (h1:1<=m) (hw:1<m->aw=some ⟨ab,ao+1,none⟩):zdg w aw ab (ao+1) T.tail.length T.tail:=by
 have hs:=zgy h h1;have hl:T.tail.length=m-1:=by rw [List.length_tail,h.len]
 rw [hl];exact ⟨hs.len,fun h0=>hw (by omega),hs.low,hs.cell,hs.fit⟩
theorem zws {w2:World} {b n:Nat} {now:Int} {T:List ByteArray} {L':List KV} {cw:Nat} (hW:Bl w W) (hr:Ri.zom W b n L' w2) (hu:UpK (L'.map KV.key)) (ha:zdg w aa ab ao m T) (h1:1<=m) (hw:1<m->aw=some ⟨ab,ao+1,none⟩) (h25:22<=w.heap.size):
  zcr (w2.alloc (.cells #[.map (some b),.int .i64 now,.slice aw T.tail.length cw] 73)) w.heap.size w2.heap.size b n now aw ab (ao+1) cw L' L' T.tail:=by
 have hb2:=hW.trans (hr.bel.mono hW.size);have hb3:Bl w2 (w2.alloc (.cells #[.map (some b),.int .i64 now,.slice aw T.tail.length cw] 73)):=(Qb _ _).alloc (Qc _) _;have hb:=hb2.trans (hb3.mono hb2.size);obtain ⟨β,hβ⟩:=hr.vals;refine ⟨⟨zab.new _ _ _,hr.own.alloc _,hu,zdb (ygl ha h1 hw) hb⟩,(((zkf.rising hβ).bw hb3).le hW.size),hb2.size,Qj hW.size hr.hb,fun h0=>ha.low (by omega),h25,hb.size⟩
theorem zs4 (a:Option Addr) (A n c:Nat) (L:List KV) (now:Int) (aa:Option Addr) (ab ao m ac:Nat) (T:List ByteArray) (ad:Nat->Addr) (w:World) (h:zoe w a A n L) (hs:Small L) (hn:n<=1048577) (ha:zdg w aa ab ao m T) (hm:m<=1000) (hac:m<=ac) (hE:yav w ad):
    Calls prog 14 #[.slice a n c,.int .i64 now,.slice aa m ac] w (zl6 w (za2 (L.map KV.key) now T)):=by
  have hR:=hE.es.er.rd;have h25:=hE.es.er.n25;have HD:=hid (zjr a A n c L w h hs hn hR);have HI:=hid fun W=>znn now W;have HW:=hid fun W (hb:Bl w W)=>ycy aa ab ao m ac T W (zdb ha hb) (by omega);have HAL:=hid fun W (hb:Bl w W)=>Ri.zk4 a A n c L now W (h.bw hb) hs hn (hR.bw (hb.mono hR.six));have HAV:=hid fun W (hb:Bl w W)=>Ri.zih a A n c L now W (h.bw hb) hs hn (hR.bw (hb.mono hR.six));have HE:Hid (za2 (L.map KV.key) now T=if (zan (L.map KV.key) && (zdr now && (decide (1<=T.length) && zgs T)))=true then zne (T.getD 0 empty) (za5 (L.map KV.key) now) now T.tail else ([],[])):=by
    unfold Hid za2 zf6;rw [zvh]
  have HZ:=hid fun w' (hb:Bl w w')=>yab hb;have hTl:=ha.len;cases q1:zan (L.map KV.key) with
  | false=>
    rw [q1,Q0,if_neg (by simp)] at HE;rw [HE.out];rw [q1] at HD;clear h hs ha hE hR HE q1;go_enter func14,ntmps14;go_wp2_with fail;refine HD.out.mono ?_;rintro e w1 ⟨rfl,b1⟩;have HF:Hid _:=HZ.out w1 b1;clear b1 HZ HD;go_wp2;go_ret2;exact HF.out
  | true=>
    rw [q1,Qz] at HE;have HD2:Hid (Cp 20 #[.slice a n c] w fun e w'=>e= .returned (.bool true)/\Bl w w'):=by rw [<- q1];exact HD.out
    clear HD;cases q2:zdr now with
    | false=>
      rw [q2,Q0,if_neg (by simp)] at HE;rw [HE.out];rw [q2] at HI;clear h hs ha hE hR HE q1 q2;go_enter func14,ntmps14;go_wp2_with fail;refine HD2.out.mono ?_;rintro e w1 ⟨rfl,b1⟩;have HF:Hid _:=HZ.out w1 b1;clear b1 HZ HD2;go_wp2_with fail;refine (HI.out _).mono ?_;rintro e w2 ⟨rfl,e2⟩;subst e2;go_wp2;go_ret2;exact HF.out
    | true=>
      rw [q2,Qz] at HE;rw [q2] at HI;cases q3:(decide (1<=T.length) && zgs T) with
      | false=>
        rw [q3,if_neg (by simp)] at HE;rw [HE.out];rw [q3] at HW;have HW2:=hid HW;clear HW;clear h hs ha hE hR HE q1 q2 q3;go_enter func14,ntmps14;go_wp2_with fail;refine HD2.out.mono ?_;rintro e w1 ⟨rfl,b1⟩;have HF:Hid _:=HZ.out w1 b1;have HW1:=hid (HW2.out w1 b1);clear b1 HZ HD2 HW2;go_wp2_with fail;refine (HI.out _).mono ?_;rintro e w2 ⟨rfl,e2⟩;subst e2;go_wp2_with fail;refine HW1.out.mono ?_;rintro e w3 ⟨rfl,e3⟩;subst e3;go_wp2;go_ret2;exact HF.out
      | true=>
        rw [q3,if_pos rfl] at HE;rw [q3] at HW;have HW2:=hid HW;clear HW;rw [Qh,decide_eq_true_iff] at q3;obtain ⟨t1,t2⟩:=q3;obtain ⟨u1,u2⟩:=zpq t2;have hm1:1<=m:=by omega
        unfold zdr at q2;rw [Qh,decide_eq_true_iff,decide_eq_true_iff] at q2;have hkl:=((zce _).1 q1).1;have hst:∀t∈T,t.size<=200:=fun t ht=>by
          obtain ⟨i,hi,rfl⟩:=List.getElem_of_mem ht;have:=u2 i hi;rw [show zaj T i=T.getD i empty from rfl,Qa,Qd hi] at this;exact this
        have hup:UpK (za5 (L.map KV.key) now):=((zce _).1 q1).2.1.sublist List.filter_sublist;have hw0:=zav hst 0;rw [q1] at HAL;have HRN:Hid (∀W w2 b L' aw cw,Bl w W->Ri.zom W b (L.map KV.key).length L' w2->L'.map KV.key=(L.map KV.key).filter (Ri.zfg now)->(1 < m->aw=some ⟨ab,ao+1,none⟩)->m - 1<=cw->Cp 48 #[.pointer (some ⟨w2.heap.size,0,none⟩),.string (T.getD 0 empty)] (w2.alloc (.cells #[.map (some b),.int .i64 now,.slice aw (m - 1) cw] 73)) fun e w4=>∃r er,e= .returned (.tuple #[r,er])/\Bl w w4/\((er= .nilIface/\zbe w4 w.heap.size r (zne (T.getD 0 empty) (za5 (L.map KV.key) now) now T.tail).2/\w4.cell? ⟨w2.heap.size,0,none⟩=some (.map (some b))/\∃n' L2,L2.map KV.key=(zne (T.getD 0 empty) (za5 (L.map KV.key) now) now T.tail).1/\w4.ownsMap prog 9 RK b n' (za3 L2)/\UpK (L2.map KV.key)/\zkf w4 w.heap.size L2)\/∃i pb,(i=0\/i=1\/i=5\/i=6\/i=9\/i=10\/i=11\/i=12)/\er= .iface 125 (.pointer (some ⟨pb,0,none⟩))/\pb < w4.heap.size/\w4.cell? ⟨pb,0,none⟩=some (.iface 307 (.pointer (some (ad i))))/\zne (T.getD 0 empty) (za5 (L.map KV.key) now) now T.tail=(za5 (L.map KV.key) now,ycj i))):=fun W w2 b L' aw cw hbW hr hk haw hcw=>by
          rw [zo1] at hk;have hwk:=zws (now:=now) (cw:=cw) hbW hr (by rw [hk];exact hup) ha hm1 haw h25;have htl:T.tail.length=m - 1:=by rw [List.length_tail,ha.len]
          rw [htl] at hwk;have hb2:=hbW.trans (hr.bel.mono hbW.size);have hb3:Bl w (w2.alloc (.cells #[.map (some b),.int .i64 now,.slice aw (m - 1) cw] 73)):=hb2.alloc hb2.size _;refine (yid (T.getD 0 empty) w.heap.size w2.heap.size b (L.map KV.key).length now aw ab (ao+1) cw L' T.tail ad _ hwk (by rw [hk];exact zua q1 now) (hE.es.bw hb3) (by omega) (fun t ht=>hst t (List.mem_of_mem_tail ht)) hw0 (by omega) (by omega) q2).mono ?_;rintro e w4 ⟨r,er,rfl,hb4,hh⟩;rw [hk] at hh;refine ⟨r,er,rfl,hb3.trans hb4,?_⟩;rcases hh with ⟨h1,h2,n',L2,h3,h4⟩ | ⟨i,pb,h1,h2, -,h3,h4,h5⟩
          · exact .inl ⟨h1,h2.le hb3.size,h4.call.c0,n',L2,h3,h4.call.ring,h4.call.up,h4.vals⟩
          · exact .inr ⟨i,pb,h1,h2,h3,h4,h5⟩
        have HKP:Hid (Er.zd5 (zne (T.getD 0 empty) (za5 (L.map KV.key) now) now T.tail).1):=by
          unfold Hid;rw [<- zvh];exact Er.zy7 (Er.zn0 ⟨hkl,((zce _).1 q1).2.2⟩) q2
        have HLS:Hid (∀w4 b n' L2 r,Bl w w4->zbe w4 w.heap.size r (zne (T.getD 0 empty) (za5 (L.map KV.key) now) now T.tail).2->L2.map KV.key=(zne (T.getD 0 empty) (za5 (L.map KV.key) now) now T.tail).1->w4.ownsMap prog 9 RK b n' (za3 L2)->UpK (L2.map KV.key)->zkf w4 w.heap.size L2->Cp 50 #[.map (some b)] w4 fun e w5=>∃v,e= .returned v/\zl6 w (zne (T.getD 0 empty) (za5 (L.map KV.key) now) now T.tail) (.returned (.tuple #[v,r])) w5):=fun w4 b n' L2 r hb hr hk ho hu hv=>by
          have hkp:=HKP.out;rw [<- hk] at hkp;have hl2:L2.length<=20:=by have:=hkp.1;rwa [Qp] at this
          refine (Ri.zgn b n' L2 w4 ho hu (by omega) (fun x hx=>?_)).mono ?_
          · have:=hkp.2 x.key (List.mem_map_of_mem hx);unfold zfo at this;rw [Qh,decide_eq_true_iff] at this;omega
          · rintro e w5 ⟨v,rfl,hv5,hb5⟩;exact ⟨v,rfl,v,r,L2,rfl,hk,zbn hv5 hb.size,hv.bw hb5,hr.bw hb5,hb.trans (hb5.mono hb.size)⟩
        have HER:Hid (∀w4 i pb,(i=0\/i=1\/i=5\/i=6\/i=9\/i=10\/i=11\/i=12)->Bl w w4->pb < w4.heap.size->w4.cell? ⟨pb,0,none⟩=some (.iface 307 (.pointer (some (ad i))))->zne (T.getD 0 empty) (za5 (L.map KV.key) now) now T.tail=(za5 (L.map KV.key) now,ycj i)->Cp 19 #[.slice a n c,.int .i64 now] w4 fun e w5=>∃v,e= .returned v/\Cp 49 #[.iface 125 (.pointer (some ⟨pb,0,none⟩))] w5 fun e2 w6=>∃r,e2= .returned r/\zl6 w (zne (T.getD 0 empty) (za5 (L.map KV.key) now) now T.tail) (.returned (.tuple #[v,r])) w6):=fun w4 i pb hi hb hpb hc hp=>by
          refine (HAV.out w4 hb).mono ?_;rintro e w5 ⟨v,L2,rfl,ho,hk,hb5⟩;refine ⟨v,rfl,?_⟩;have hbw5:=hb.trans (hb5.mono hb.size);refine (zn6 hE hbw5 i pb hi (Qr hpb hb5.size) ((hb5.cell (p:=⟨pb,0,none⟩) hpb).trans hc)).mono ?_;rintro e2 w6 ⟨r,rfl,hr,hb6⟩;refine ⟨r,rfl,v,r,L2,rfl,?_,?_,?_,?_,hbw5.trans (hb6.mono hbw5.size)⟩
          · rw [hp,hk];unfold Ri.zh3;rw [q1,if_pos rfl,zo1]
          · exact zbn (zaf ho.row hb6) hb.size
          · obtain ⟨β,hβ⟩:=ho.vals;exact ((zkf.rising hβ).bw hb6).le hb.size
          · rw [hp];exact hr.le hbw5.size
        rw [HE.out];have HA0:Hid (∀W,Bl w W->W.cell? ⟨ab,ao,none⟩=some (.string (T.getD 0 empty))):=fun W hb=>by
          have:=(zdb ha hb).cell 0 (by omega);rwa [Qy] at this
        obtain rfl:=ha.addr (by omega);clear h hs ha hE hR HE q1 q2 t1 t2 u1 u2 hst hup hw0 hkl HKP HAV HZ hTl;generalize zne (T.getD 0 empty) (za5 (L.map KV.key) now) now T.tail=pp at*;generalize za5 (L.map KV.key) now=al at*;generalize L.map KV.key=ks,T.getD 0 empty=word at*;have hi1:(1:Int)<=(m:Int):=by omega
        have hi2:(m:Int)<=(ac:Int):=by omega
        have hi3:(0:Int) < (m:Int):=by omega
        have hi4:0 < m:=by omega
        by_cases hac1:ac=1
        · obtain rfl:m=1:=by omega
          subst hac1;go_enter func14,ntmps14;go_wp2_with fail;refine HD2.out.mono ?_;rintro e w1 ⟨rfl,b1⟩;have HB1:=hid b1;have HW1:=hid (HW2.out w1 b1);clear b1 HD2 HW2;go_wp2_with fail;refine (HI.out _).mono ?_;rintro e w2 ⟨rfl,e2⟩;subst e2;go_wp2_with fail;refine HW1.out.mono ?_;rintro e w3 ⟨rfl,e3⟩;subst e3;clear HW1 HI;have HAL1:Hid (Cp 47 #[.slice a n c,.int .i64 now] w3.drew fun e w4=>∃bm L',e= .returned (.map (some bm))/\L'.map KV.key=ks.filter (Ri.zfg now)/\Ri.zom w3.drew bm ks.length L' w4):=by
            refine (HAL.out w3.drew ⟨HB1.out.os,HB1.out.tape,HB1.out.output,HB1.out.size,HB1.out.block⟩).mono ?_;rintro e w4 (⟨ho, -, -⟩ | ⟨-,bm,L',rfl,hk,hring⟩)
            · cases ho
            · exact ⟨bm,L',rfl,hk,hring⟩
          have HB2:Hid (Bl w w3.drew):=⟨HB1.out.os,HB1.out.tape,HB1.out.output,HB1.out.size,HB1.out.block⟩;clear HAL;go_upto_region 3 with fail
          go_region_with (go_at_call 47
                          refine HAL1.out.mono ?_;rintro e w4 ⟨bm,L',rfl,hk,hring⟩;have HRG:Hid (L'.map KV.key=ks.filter (Ri.zfg now)/\Ri.zom w3.drew bm ks.length L' w4):=⟨hk,hring⟩;clear hk hring)
          obtain ⟨W5,hW5⟩:∃W5,w4.alloc (.cells #[.map (some bm),.int .i64 now,.slice (some ⟨ab,ao,none⟩) 0 0] 73)=W5:=⟨_,rfl⟩;have b4:=HB2.out.trans (HRG.out.2.bel.mono HB2.out.size);have b5:Bl w W5:=by rw [<- hW5];exact b4.alloc b4.size _
          have HR5:=HRN.out w3.drew w4 bm L' (some ⟨ab,ao,none⟩) 0 HB2.out HRG.out.2 HRG.out.1 (fun h=>absurd h (by omega)) (by omega);rw [hW5] at HR5;have HR5':=hid HR5;have c5:=HA0.out W5 b5;rw [hW5];clear hW5 b4 b5 HR5 HRN HAL1 HB2 HRG HA0;go_wp2_with fail;refine HR5'.out.mono ?_;rintro e w6 ⟨r,er,rfl,b6,hh⟩;rcases hh with ⟨rfl,hr,c6,n',L2,hk2,ho2,hu2,hv2⟩ | ⟨i,pb,hi,rfl,hpb,hc6,hp⟩
          · have HL:=hid (HLS.out w6 bm n' L2 r b6 hr hk2 ho2 hu2 hv2);clear hr hk2 ho2 hu2 hv2 b6 HLS HER HR5';go_wp2_with fail;refine HL.out.mono ?_;rintro e w7 ⟨v,rfl,hF⟩;have HF:Hid _:=hF;clear hF HL;go_wp2;go_ret2;exact HF.out
          · have HL:=hid (HER.out w6 i pb hi b6 hpb hc6 hp);clear hi hpb hc6 hp b6 HLS HER HR5';go_wp2_with fail;refine HL.out.mono ?_;rintro e w7 ⟨v,rfl,hC⟩;have HC:=hid hC;clear hC HL;go_wp2_with fail;refine HC.out.mono ?_;rintro e w8 ⟨r2,rfl,hF⟩;have HF:Hid _:=hF;clear hF HC;go_wp2;go_ret2;exact HF.out
        · have hac2:(1:Int) < (ac:Int):=by omega
          have hac3:1 < ac:=by omega
          go_enter func14,ntmps14;go_wp2_with fail;refine HD2.out.mono ?_;rintro e w1 ⟨rfl,b1⟩;have HB1:=hid b1;have HW1:=hid (HW2.out w1 b1);clear b1 HD2 HW2;go_wp2_with fail;refine (HI.out _).mono ?_;rintro e w2 ⟨rfl,e2⟩;subst e2;go_wp2_with fail;refine HW1.out.mono ?_;rintro e w3 ⟨rfl,e3⟩;subst e3;clear HW1 HI;have HAL1:Hid (Cp 47 #[.slice a n c,.int .i64 now] w3.drew fun e w4=>∃bm L',e= .returned (.map (some bm))/\L'.map KV.key=ks.filter (Ri.zfg now)/\Ri.zom w3.drew bm ks.length L' w4):=by
            refine (HAL.out w3.drew ⟨HB1.out.os,HB1.out.tape,HB1.out.output,HB1.out.size,HB1.out.block⟩).mono ?_;rintro e w4 (⟨ho, -, -⟩ | ⟨-,bm,L',rfl,hk,hring⟩)
            · cases ho
            · exact ⟨bm,L',rfl,hk,hring⟩
          have HB2:Hid (Bl w w3.drew):=⟨HB1.out.os,HB1.out.tape,HB1.out.output,HB1.out.size,HB1.out.block⟩;clear HAL;go_upto_region 3 with fail
          go_region_with (go_at_call 47
                          refine HAL1.out.mono ?_;rintro e w4 ⟨bm,L',rfl,hk,hring⟩;have HRG:Hid (L'.map KV.key=ks.filter (Ri.zfg now)/\Ri.zom w3.drew bm ks.length L' w4):=⟨hk,hring⟩;clear hk hring)
          obtain ⟨W5,hW5⟩:∃W5,w4.alloc (.cells #[.map (some bm),.int .i64 now,.slice (some ⟨ab,ao+1,none⟩) (m - 1) (ac - 1)] 73)=W5:=⟨_,rfl⟩;have b4:=HB2.out.trans (HRG.out.2.bel.mono HB2.out.size);have b5:Bl w W5:=by rw [<- hW5];exact b4.alloc b4.size _
          have HR5:=HRN.out w3.drew w4 bm L' (some ⟨ab,ao+1,none⟩) (ac - 1) HB2.out HRG.out.2 HRG.out.1 (fun _=>rfl) (by omega);rw [hW5] at HR5;have HR5':=hid HR5;have c5:=HA0.out W5 b5;rw [hW5];clear hW5 b4 b5 HR5 HRN HAL1 HB2 HRG HA0;go_wp2_with fail;refine HR5'.out.mono ?_;rintro e w6 ⟨r,er,rfl,b6,hh⟩;rcases hh with ⟨rfl,hr,c6,n',L2,hk2,ho2,hu2,hv2⟩ | ⟨i,pb,hi,rfl,hpb,hc6,hp⟩
          · have HL:=hid (HLS.out w6 bm n' L2 r b6 hr hk2 ho2 hu2 hv2);clear hr hk2 ho2 hu2 hv2 b6 HLS HER HR5';go_wp2_with fail;refine HL.out.mono ?_;rintro e w7 ⟨v,rfl,hF⟩;have HF:Hid _:=hF;clear hF HL;go_wp2;go_ret2;exact HF.out
          · have HL:=hid (HER.out w6 i pb hi b6 hpb hc6 hp);clear hi hpb hc6 hp b6 HLS HER HR5';go_wp2_with fail;refine HL.out.mono ?_;rintro e w7 ⟨v,rfl,hC⟩;have HC:=hid hC;clear hC HL;go_wp2_with fail;refine HC.out.mono ?_;rintro e w8 ⟨r2,rfl,hF⟩;have HF:Hid _:=hF;clear hF HC;go_wp2;go_ret2;exact HF.out
end Go.Proofs.YtokafonppgppdaaGreatDoor.Rb
