import Derived.Test.YtokafonppgppdaaGreatDoorM8
import Derived.Shelf.SlIter.Nil
import Derived.Shelf.SortM.Plain
import Derived.Shelf.SortM.SortNone
set_option maxHeartbeats 8000000
set_option maxRecDepth 100000
namespace Go.Proofs
open Go.RowKit Go.Maps Go.Sort Go.Shelf
def Tryz.keys101_ren:Go.Shelf.Ren:=⟨fun|7=>135|10=>212|n=>n,fun|23=>70|26=>9|3=>47|28=>181|0=>0|27=>180|33=>150|4=>4|n=>n,fun|n=>n⟩
theorem Tryz.keys101:Go.Proofs.SlLaysZ.n7 Tryz.prog Tryz.keys101_ren:={
 mixed:=by kernel_rfl
 f7:=⟨Tryz.f135.name,by decide,Tryz.func135.trans (congrArg some (by kernel_rfl))⟩
 f10:=⟨Tryz.f212.name,by decide,Tryz.func212.trans (congrArg some (by kernel_rfl))⟩
 t0:=Tryz.underlying0
 a0:=Tryz.isAgg0
 z0:=Tryz.sizeOf0
 v0:=Tryz.zeroValue0
 t4:=Tryz.underlying4
 a4:=Tryz.isAgg4
 z4:=Tryz.sizeOf4
 v4:=Tryz.zeroValue4
 t23:=Tryz.underlying70
 a23:=Tryz.isAgg70
 z23:=Tryz.sizeOf70
 v23:=Tryz.zeroValue70
 t26:=Tryz.underlying9
 a26:=Tryz.isAgg9
 z26:=Tryz.sizeOf9
 v26:=Tryz.zeroValue9
 t27:=Tryz.underlying180
 a27:=Tryz.isAgg180
 z27:=Tryz.sizeOf180
 v27:=Tryz.zeroValue180
 t28:=Tryz.underlying181
 a28:=Tryz.isAgg181
 z28:=Tryz.sizeOf181
 v28:=Tryz.zeroValue181
 t33:=Tryz.underlying150
 a33:=Tryz.isAgg150
 z33:=Tryz.sizeOf150
 v33:=Tryz.zeroValue150 }
def Tryz.sorted100_ren:Go.Shelf.Ren:=⟨fun|6=>134|8=>210|9=>211|11=>259|13=>261|12=>260|23=>293|24=>268|14=>284|15=>285|16=>286|17=>287|18=>288|19=>289|20=>290|21=>291|22=>292|25=>310|26=>311|27=>312|28=>313|29=>314|30=>315|31=>328|n=>n,fun|26=>9|28=>181|24=>25|0=>0|3=>3|37=>160|48=>284|50=>158|4=>4|40=>299|39=>298|45=>264|5=>5|9=>9|51=>317|55=>320|57=>332|58=>333|33=>150|n=>n,fun|n=>n⟩
theorem Tryz.sorted100:Go.Proofs.SlLaysZ.n6 Tryz.prog Tryz.sorted100_ren:={
 mixed:=by kernel_rfl
 f6:=⟨Tryz.f134.name,by decide,Tryz.func134.trans (congrArg some (by kernel_rfl))⟩
 f8:=⟨Tryz.f210.name,by decide,Tryz.func210.trans (congrArg some (by kernel_rfl))⟩
 f11:=⟨Tryz.f259.name,by decide,Tryz.func259.trans (congrArg some (by kernel_rfl))⟩
 t0:=Tryz.underlying0
 a0:=Tryz.isAgg0
 z0:=Tryz.sizeOf0
 v0:=Tryz.zeroValue0
 t24:=Tryz.underlying25
 a24:=Tryz.isAgg25
 z24:=Tryz.sizeOf25
 v24:=Tryz.zeroValue25
 t26:=Tryz.underlying9
 a26:=Tryz.isAgg9
 z26:=Tryz.sizeOf9
 v26:=Tryz.zeroValue9
 t28:=Tryz.underlying181
 a28:=Tryz.isAgg181
 z28:=Tryz.sizeOf181
 v28:=Tryz.zeroValue181
 i26:=by kernel_rfl }
def Tryz.sort141_ren:Go.Shelf.Ren:=⟨fun|6=>211|8=>261|9=>260|19=>293|20=>268|21=>284|22=>285|23=>286|24=>287|25=>288|26=>289|27=>290|28=>291|29=>292|36=>310|31=>311|32=>312|37=>313|38=>314|39=>315|41=>328|n=>n,fun|27=>25|29=>9|3=>3|32=>160|26=>25|0=>0|44=>284|46=>158|4=>4|36=>299|35=>298|41=>264|5=>5|9=>9|53=>317|57=>320|63=>332|64=>333|n=>n,fun|n=>n⟩
theorem Tryz.sort141:Go.Proofs.SlLaysM.n6 Tryz.prog Tryz.sort141_ren:={
 mixed:=by kernel_rfl
 f6:=⟨Tryz.f211.name,by decide,Tryz.func211.trans (congrArg some (by kernel_rfl))⟩
 f8:=Tryz.func261.trans (congrArg some (by kernel_rfl))
 f9:=⟨Tryz.f260.name,by decide,Tryz.func260.trans (congrArg some (by kernel_rfl))⟩
 f19:=Tryz.func293.trans (congrArg some (by kernel_rfl))
 f20:=Tryz.func268.trans (congrArg some (by kernel_rfl))
 f21:=⟨Tryz.f284.name,by decide,Tryz.func284.trans (congrArg some (by kernel_rfl))⟩
 f22:=⟨Tryz.f285.name,by decide,Tryz.func285.trans (congrArg some (by kernel_rfl))⟩
 f23:=⟨Tryz.f286.name,by decide,Tryz.func286.trans (congrArg some (by kernel_rfl))⟩
 f24:=⟨Tryz.f287.name,by decide,Tryz.func287.trans (congrArg some (by kernel_rfl))⟩
 f25:=⟨Tryz.f288.name,by decide,Tryz.func288.trans (congrArg some (by kernel_rfl))⟩
 f26:=⟨Tryz.f289.name,by decide,Tryz.func289.trans (congrArg some (by kernel_rfl))⟩
 f27:=⟨Tryz.f290.name,by decide,Tryz.func290.trans (congrArg some (by kernel_rfl))⟩
 f28:=⟨Tryz.f291.name,by decide,Tryz.func291.trans (congrArg some (by kernel_rfl))⟩
 f29:=⟨Tryz.f292.name,by decide,Tryz.func292.trans (congrArg some (by kernel_rfl))⟩
 f31:=Tryz.func311.trans (congrArg some (by kernel_rfl))
 f32:=Tryz.func312.trans (congrArg some (by kernel_rfl))
 f36:=⟨Tryz.f310.name,by decide,Tryz.func310.trans (congrArg some (by kernel_rfl))⟩
 f37:=⟨Tryz.f313.name,by decide,Tryz.func313.trans (congrArg some (by kernel_rfl))⟩
 f38:=⟨Tryz.f314.name,by decide,Tryz.func314.trans (congrArg some (by kernel_rfl))⟩
 f39:=⟨Tryz.f315.name,by decide,Tryz.func315.trans (congrArg some (by kernel_rfl))⟩
 f41:=⟨Tryz.f328.name,by decide,Tryz.func328.trans (congrArg some (by kernel_rfl))⟩
 t0:=Tryz.underlying0
 a0:=Tryz.isAgg0
 z0:=Tryz.sizeOf0
 v0:=Tryz.zeroValue0
 t3:=Tryz.underlying3
 a3:=Tryz.isAgg3
 z3:=Tryz.sizeOf3
 v3:=Tryz.zeroValue3
 t4:=Tryz.underlying4
 a4:=Tryz.isAgg4
 z4:=Tryz.sizeOf4
 v4:=Tryz.zeroValue4
 t5:=Tryz.underlying5
 a5:=Tryz.isAgg5
 z5:=Tryz.sizeOf5
 v5:=Tryz.zeroValue5
 t9:=Tryz.underlying9
 a9:=Tryz.isAgg9
 z9:=Tryz.sizeOf9
 v9:=Tryz.zeroValue9
 t26:=Tryz.underlying25
 a26:=Tryz.isAgg25
 z26:=Tryz.sizeOf25
 v26:=Tryz.zeroValue25
 t27:=Tryz.underlying25
 a27:=Tryz.isAgg25
 z27:=Tryz.sizeOf25
 v27:=Tryz.zeroValue25
 t29:=Tryz.underlying9
 a29:=Tryz.isAgg9
 z29:=Tryz.sizeOf9
 v29:=Tryz.zeroValue9
 t32:=Tryz.underlying160
 a32:=Tryz.isAgg160
 z32:=Tryz.sizeOf160
 v32:=Tryz.zeroValue160
 t35:=Tryz.underlying298
 a35:=Tryz.isAgg298
 z35:=Tryz.sizeOf298
 v35:=Tryz.zeroValue298
 t36:=Tryz.underlying299
 a36:=Tryz.isAgg299
 z36:=Tryz.sizeOf299
 v36:=Tryz.zeroValue299
 t41:=Tryz.underlying264
 a41:=Tryz.isAgg264
 z41:=Tryz.sizeOf264
 v41:=Tryz.zeroValue264
 t44:=Tryz.underlying284
 a44:=Tryz.isAgg284
 z44:=Tryz.sizeOf284
 v44:=Tryz.zeroValue284
 t46:=Tryz.underlying158
 a46:=Tryz.isAgg158
 z46:=Tryz.sizeOf158
 v46:=Tryz.zeroValue158
 t53:=Tryz.underlying317
 a53:=Tryz.isAgg317
 z53:=Tryz.sizeOf317
 v53:=Tryz.zeroValue317
 t57:=Tryz.underlying320
 a57:=Tryz.isAgg320
 z57:=Tryz.sizeOf320
 v57:=Tryz.zeroValue320
 t63:=Tryz.underlying332
 a63:=Tryz.isAgg332
 z63:=Tryz.sizeOf332
 v63:=Tryz.zeroValue332
 t64:=Tryz.underlying333
 a64:=Tryz.isAgg333
 z64:=Tryz.sizeOf333
 v64:=Tryz.zeroValue333 }
theorem Tryz.sorts100 (m:Nat):AnyZ.SortsIn Tryz.prog Tryz.sorted100_ren Fence.wide m:=
 ⟨fun blk off cap ss W hH hblk hsz=>callsIn_wide.2 (AnyM.slices_Sort_string Tryz.sort141 blk off cap ss W hH hblk hsz),
  fun p cap W=>callsIn_wide.2 (AnyM.slices_Sort_string_none Tryz.sort141 p cap W)⟩
theorem Tryz.maps_Keys_101 (mb:Option Nat) (W:World):CallsIn Fence.wide 5 Tryz.prog 135 #[.map mb] W fun e w'=>e= .returned (.func (.func 212) #[] #[.pointer (some ⟨W.heap.size,0,none⟩)])/\w'=W.alloc (.cells #[.map mb] 70):=
 AnyZ.keys_in Tryz.keys101 Fence.wide 5 trivial rfl mb W
theorem Tryz.slices_Sorted_keys_100_101 {H:Type} (b nn:Nat) (D0:DataW H) (R:Value->Option (DataW H×List MemPlace)) (w:World) (hown:w.ownsMap Tryz.prog 9 R b nn D0) (hmax:Maps.size D0<=maxLen) (hbytes:Maps.size D0*16<=140737488355328):
  CallsIn Fence.wide 5 Tryz.prog 134 #[.func (.func 212) #[] #[.pointer (some ⟨w.heap.size,0,none⟩)]] (w.alloc (.cells #[.map (some b)] 70)) fun e w'=>∃(v:Value) (ss:List (List UInt8)),e= .returned v/\ss.Perm (strKeys D0)/\
   w'.ownsRow (w.alloc (.cells #[.map (some b)] 70)).heap.size 9 1 v ss.length ((ss.mergeSort (fun x y=>decide (x<=y))).map encStr)/\(v= .slice none 0 0↔ss=[])/\Below (w.alloc (.cells #[.map (some b)] 70)).heap.size (w.alloc (.cells #[.map (some b)] 70)) w':=by
 have hbl:=hown.lt;have hseq:SeqGives Fence.wide 2 Tryz.prog 212 #[.pointer (some ⟨w.heap.size,0,none⟩)] encStr (fun ss=>ss.Perm (strKeys D0)) (Maps.size D0) (w.alloc (.cells #[.map (some b)] 70)):=
  AnyZ.keys_gives (ρ:=Tryz.keys101_ren) { Tryz.keys101 with } Fence.wide _ trivial rfl (by omega) w.heap.size b nn D0 _ (by simp) (by simp) (by
   obtain ⟨es,clock,hb,Ft,hs,hD⟩:=hown;exact ⟨es,clock,(Below.heap_alloc _ _ b hbl).trans hb,Ft,hs,hD⟩)
 exact AnyZ.sorted_in Tryz.sorted100 Fence.wide 5 trivial trivial trivial trivial rfl (by omega) (Tryz.sorts100 _) (enters_of Tryz.func211 (by kernel_rfl) rfl) 212 #[.pointer (some ⟨w.heap.size,0,none⟩)] trivial (enters_of Tryz.func212 (by kernel_rfl) rfl) _ _ hmax hbytes _ hseq
theorem Tryz.slices_Sorted_keys_nil_100_101 (w:World):
  CallsIn Fence.wide 5 Tryz.prog 134 #[.func (.func 212) #[] #[.pointer (some ⟨w.heap.size,0,none⟩)]] (w.alloc (.cells #[.map none] 70)) fun e w'=>∃(v:Value) (ss:List (List UInt8)),e= .returned v/\ss=[]/\
   w'.ownsRow (w.alloc (.cells #[.map none] 70)).heap.size 9 1 v ss.length ((ss.mergeSort (fun x y=>decide (x<=y))).map encStr)/\(v= .slice none 0 0↔ss=[])/\Below (w.alloc (.cells #[.map none] 70)).heap.size (w.alloc (.cells #[.map none] 70)) w':=by
 have hseq:SeqGives Fence.wide 2 Tryz.prog 212 #[.pointer (some ⟨w.heap.size,0,none⟩)] encStr (fun ss:List (List UInt8)=>ss=[]) 0 (w.alloc (.cells #[.map none] 70)):=
  AnyZ.keys_gives_nil (ρ:=Tryz.keys101_ren) { Tryz.keys101 with } Fence.wide _ trivial rfl w.heap.size _ (by simp) (by simp)
 exact AnyZ.sorted_in Tryz.sorted100 Fence.wide 5 trivial trivial trivial trivial rfl (by omega) (Tryz.sorts100 _) (enters_of Tryz.func211 (by kernel_rfl) rfl) 212 #[.pointer (some ⟨w.heap.size,0,none⟩)] trivial (enters_of Tryz.func212 (by kernel_rfl) rfl) _ 0 (Nat.zero_le _) (by omega) _ hseq
end Go.Proofs
namespace Go.Proofs.YtokafonppgppdaaGreatDoor.Ri
open Tryz
open Go.RowKit Go.Maps
variable {ks:List Ke} {L:List KV} {x:KV} {w:World} {b n:Nat}
theorem zrw:∀a b:List UInt8,bytesBefore a b=true->a<=b
 | [],_,_=>List.nil_le _
 |_::_,[],h=>by simp [bytesBefore] at h
 |a::x,b::y,h=>by
  unfold bytesBefore at h;rw [List.cons_le_cons_iff];rw [Bool.or_eq_true,Qh] at h;rcases h with h|⟨h1,h2⟩
  ·exact .inl (Qg h)
  ·exact .inr ⟨eq_of_beq h1,zrw x y h2⟩
def UpK (ks:List Ke):Prop:=ks.Pairwise fun x y=>bytesBefore x.name.data.toList y.name.data.toList=true
theorem zh5 (h:zan ks=true):UpK ks:=by
 unfold UpK;rw [List.pairwise_iff_getElem];intro i j hi hj hij;have:=zq8 h (j-i-1) i (by omega);rw [show i+(j-i-1)+1=j by omega,Qa,Qa,Qd hi,Qd hj] at this;exact this
theorem zp2 (L:List KV):strKeys (za3 L)=L.map fun x=>x.key.name.data.toList:=by
 show (L.map zj0).map (fun p=>strOf p.1)=_;rw [List.map_map];rfl
theorem ztb {ss:List (List UInt8)} (hu:UpK (L.map KV.key)) (hp:ss.Perm (strKeys (za3 L))):(ss.mergeSort fun x y=>decide (x<=y)).map encStr=zdw (L.map fun x=>x.key.name):=by
 have e:(ss.mergeSort fun x y=>decide (x<=y))=L.map fun x=>x.key.name.data.toList:=by
  have:=mergeSort_of_perm hp;rw [zp2] at this;refine this.trans (List.mergeSort_of_pairwise ?_);rw [List.pairwise_map];unfold UpK at hu;rw [List.pairwise_map] at hu;exact hu.imp fun h=>Qe (zrw _ _ h)
 rw [e];unfold zdw;rw [List.map_map,List.map_map];refine List.map_congr_left fun x _=>?_;simp [encStr]
theorem zqq (L:List KV):Maps.size (za3 L)=L.length:=by
 simp [za3,Maps.size]
theorem zqb (b n:Nat) (L:List KV) (w:World) (h:w.ownsMap prog 9 RK b n (za3 L)) (hu:UpK (L.map KV.key)) (hl:L.length<=1048576):
  Calls prog 94 #[.map (some b)] w fun e w'=>∃v,e= .returned v/\zcx w' w.heap.size v (L.map fun x=>x.key.name)/\Bl w w':=by
 have HS:Hid (Cp 134 #[.func (.func 212) #[] #[.pointer (some ⟨w.heap.size,0,none⟩)]] (w.alloc (.cells #[.map (some b)] 70)) fun e w'=>∃v,e= .returned v/\zcx w' w.heap.size v (L.map fun x=>x.key.name)/\Bl w w'):=by
  refine (callsIn_wide.1 (Tryz.slices_Sorted_keys_100_101 b n (za3 L) RK w h (by rw [zqq];exact Qj hl (by decide)) (by rw [zqq];omega))).mono ?_;rintro e w' ⟨v,ss,rfl,hS,hrow,_,hb⟩;have hlen:ss.length=(L.map fun x=>x.key.name).length:=by rw [hS.length_eq,zp2,Qp,Qp]
  have hb0:Bl w (w.alloc (.cells #[.map (some b)] 70)):=(Qb _ w).alloc (Qc _) _;refine ⟨v,rfl,?_,hb0.trans (hb.mono hb0.size)⟩;rw [ztb hu hS,hlen] at hrow;exact Go.Joins.ownsRow_le hrow hb0.size
 have HK:Hid (Cp 135 #[.map (some b)] w fun e w'=>e= .returned (.func (.func 212) #[] #[.pointer (some ⟨w.heap.size,0,none⟩)])/\w'=w.alloc (.cells #[.map (some b)] 70)):=callsIn_wide.1 (Tryz.maps_Keys_101 (some b) w);clear h hu hl;go_enter func94,ntmps94;go_wp2_with fail;refine HK.out.mono ?_;rintro e w1 ⟨rfl,rfl⟩;clear HK;go_wp2_with fail;refine HS.out.mono ?_;rintro e w2 ⟨v,rfl,o2,b2⟩;go_wp2;go_ret;exact ⟨v,rfl,o2,b2⟩
theorem zyk (w:World):
  Calls prog 94 #[.map none] w fun e w'=>∃v,e= .returned v/\zcx w' w.heap.size v []/\Bl w w':=by
 have HS:Hid (Cp 134 #[.func (.func 212) #[] #[.pointer (some ⟨w.heap.size,0,none⟩)]] (w.alloc (.cells #[.map none] 70)) fun e w'=>∃v,e= .returned v/\zcx w' w.heap.size v []/\Bl w w'):=by
  refine (callsIn_wide.1 (Tryz.slices_Sorted_keys_nil_100_101 w)).mono ?_;rintro e w' ⟨v,ss,rfl,rfl,hrow,hnil,hb⟩;have hb0:Bl w (w.alloc (.cells #[.map none] 70)):=(Qb _ w).alloc (Qc _) _;obtain rfl:=hnil.2 rfl;exact ⟨_,rfl,zfx _ _,hb0.trans (hb.mono hb0.size)⟩
 have HK:Hid (Cp 135 #[.map none] w fun e w'=>e= .returned (.func (.func 212) #[] #[.pointer (some ⟨w.heap.size,0,none⟩)])/\w'=w.alloc (.cells #[.map none] 70)):=callsIn_wide.1 (Tryz.maps_Keys_101 none w);go_enter func94,ntmps94;go_wp2_with fail;refine HK.out.mono ?_;rintro e w1 ⟨rfl,rfl⟩;clear HK;go_wp2_with fail;refine HS.out.mono ?_;rintro e w2 ⟨v,rfl,o2,b2⟩;go_wp2;go_ret;exact ⟨v,rfl,o2,b2⟩
theorem zqu:∀(L:List KV),UpK (L.map KV.key)->∀x∈L,(L.map zj0).find? (fun p=>p.1.sameKey (.string x.key.name.data.toList))=some (zj0 x)
 | [],_,_,h=>absurd h (by simp)
 |y::r,hu,x,hx=>by
  unfold UpK at hu;rw [List.map_cons,List.pairwise_cons] at hu;rw [List.map_cons];by_cases e:y.key.name.data.toList=x.key.name.data.toList
  ·rcases List.mem_cons.1 hx with rfl|hx
   ·rw [List.find?_cons_of_pos];show (x.key.name.data.toList==x.key.name.data.toList)=true;simp
   ·have:=hu.1 x.key (List.mem_map_of_mem hx);rw [e,WideAt.bytes_irrefl] at this;cases this
  ·rw [List.find?_cons_of_neg]
   ·rcases List.mem_cons.1 hx with rfl|hx
    ·exact absurd rfl e
    ·exact zqu r hu.2 x hx
   ·show ¬(y.key.name.data.toList==x.key.name.data.toList)=true;simpa using e
theorem yhl (hu:UpK (L.map KV.key)) (hx:x∈L) (z:DataW Value):(za3 L).atKey (.string x.key.name.data.toList) z= .held (kvA x):=by
 unfold za3 DataW.atKey;simp only [zqu L hu x hx];rfl
theorem zvc (w:World):(zeroValue 47).run prog w= .ok (.agg z7) w:=by
 simp [go_sem,zeroValue,Tryz.t47]
theorem zy5 (h:w.ownsMap prog 9 RK b n (za3 L)) (hu:UpK (L.map KV.key)) (hx:x∈L) (hn:x.key.name.size<=maxLen):
  (Instr.lookup 70 (.map (some b)) (.string x.key.name) false).run prog w= .ok (kvA x) w/\∃a1 n1 c1 a2 n2 c2 a3 n3 c3,x.vi= .slice a1 n1 c1/\x.vp= .slice a2 n2 c2/\x.vr= .slice a3 n3 c3:=by
 obtain ⟨v,ps,hrun,hv⟩:=h.lookup zr0 underlying70 (zvc w) (zd:= .held (.agg z7)) (zp:=[]) rfl (zey x.key.name hn);rw [yhl hu hx] at hv;obtain ⟨y,rfl,e⟩:=zrd hv;injection e with e _;injection e with e;refine ⟨by rw [hrun,e],?_⟩;unfold kvA at e;injection e with e;have e:=Array.toList_inj.2 e;simp only [List.cons.injEq] at e;exact ⟨_,_,_,_,_,_,_,_,_,e.2.2.2.1,e.2.2.2.2.1,e.2.2.2.2.2.1⟩
theorem zgn (b n:Nat) (L:List KV) (w:World) (h:w.ownsMap prog 9 RK b n (za3 L)) (hu:UpK (L.map KV.key)) (hl:L.length<=1048576) (hz:∀x∈L,x.key.name.size<=1048576):
  Calls prog 50 #[.map (some b)] w fun e w'=>∃v,e= .returned v/\znh w' w.heap.size v L/\Bl w w':=by
 have HN:Hid (Cp 94 #[.map (some b)] w fun e w'=>∃v,e= .returned v/\zcx w' w.heap.size v (L.map fun x=>x.key.name)/\Bl w w'):=zqb b n L w h hu hl;have H:Hid (w.ownsMap prog 9 RK b n (za3 L)):=h;have HU:Hid (UpK (L.map KV.key)):=hu;have HZ:Hid (∀x∈L,x.key.name.size<=1048576):=hz;clear h hu hz;go_enter func50,ntmps50;go_wp2_with fail;refine HN.out.mono ?_;rintro e w1 ⟨v,rfl,o1,b1⟩;obtain ⟨a1,A1,c1,rfl,h1,_,_⟩:=zc0 o1 (fun t ht=>by obtain ⟨x,hx,rfl⟩:=List.mem_map.1 ht;exact HZ.out x hx);rw [Qp] at h1;have HT:Hid (zdg w1 a1 A1 0 L.length (L.map fun x=>x.key.name)):=h1;have HB1:Hid (Bl w w1):=b1;clear HN o1 h1 b1;go_wp2;go_loopw [3,9] (fun v i wr=>∃(k:Nat),k<=L.length/\i= .int .i64 k/\Hid (znh wr w1.heap.size v (L.take k))/\Hid (Bl w1 wr)) (fun _ i _=>L.length-(intOf i).toNat)
 case atStart=>exact ⟨0,by omega,rfl,zoo _ _,Qb _ _⟩
 case round=>
  obtain ⟨k,hk,rfl,ho,hb⟩:=hrel;have bk:=HB1.out.trans (hb.out.mono HB1.out.size);by_cases hlt:k<L.length
  ·have hc:=(hb.out.cell (p:=⟨A1,0+k,none⟩) (HT.out.low (by omega))).trans (HT.out.cell k hlt);obtain rfl:=HT.out.addr (by omega);have hx:L.getD k kv0∈L:=by rw [Qa,Qd hlt];exact Qv hlt
   have hnm:(L.map fun x=>x.key.name).getD k ByteArray.empty=(L.getD k kv0).key.name:=by
    rw [Qa,Qa,List.getElem?_map,Qd hlt];rfl
   obtain ⟨hlook,a1,n1,k1,a2,n2,k2,a3,n3,k3,e1,e2,e3⟩:=zy5 (H.out.kept (row:=none) ⟨bk.os,bk.tape,bk.output,bk.size,fun k hk _=>bk.block k hk⟩ (by simp)) HU.out hx (Qj (HZ.out _ hx) (by decide));obtain ⟨v',w',hrun,ho',hb',_⟩:=ya8 (L.getD k kv0).key a1 a2 a3 n1 k1 n2 k2 n3 k3 ho.out (by rw [Qn];omega) hb.out.size;have HO':Hid (znh w' w1.heap.size v' (L.take (k+1))):=by
    unfold Hid;have e4:L.getD k kv0=⟨(L.getD k kv0).key,.slice a1 n1 k1,.slice a2 n2 k2,.slice a3 n3 k3⟩:=by rw [<-e1,<-e2,<-e3]
    rw [Qo hlt];rw [<-e4] at ho';have e5:L[k]=L.getD k kv0:=by rw [Qa,Qd hlt];rfl
    rw [e5];exact ho'
   have HB':Hid (Bl w1 w'):=hb.out.trans hb';unfold kvA at hlook;rw [e1,e2,e3] at hlook;rw [hnm] at hc;generalize (L.getD k kv0).key=key at*;obtain ⟨nm,⟨kd,t,is,ps,rs⟩,d⟩:=key;dsimp only at hrun hlook hc;rw [Qq] at hc;clear ho ho' hb hb' bk hnm e1 e2 e3 hx;generalize L.length=nL at*;have HRUN:Hid ((Builtin.append_ #[24,24] 24 #[u3,.slice (some ⟨wr.heap.size,0,none⟩) 1 1]).run prog (wr.alloc (.cells (kC nm kd t (.slice a1 n1 k1) (.slice a2 n2 k2) (.slice a3 n3 k3) d) 47))= .ok v' w'):=hrun;clear hrun;go_wp2_with (at_builtin;refine wpList_append_run' rfl _ _ 24 rfl rfl rfl HRUN.out ?_);exact ⟨⟨k+1,by omega,by go_num,HO',HB'⟩,by simp [intOf];omega⟩
  ·obtain rfl:k=L.length:=by omega
   have HE:Hid (znh wr w.heap.size u3 L/\Bl w wr):=by
    have:=ho.out;rw [List.take_length] at this;exact ⟨Go.Joins.ownsRow_le this HB1.out.size,bk⟩
   clear ho hb bk;go_wp2;go_ret;exact ⟨_,rfl,HE.out⟩
theorem yck (w:World):
  Calls prog 50 #[.map none] w fun e w'=>e= .returned (.slice none 0 0)/\Bl w w':=by
 have HN:Hid (Cp 94 #[.map none] w fun e w'=>∃v,e= .returned v/\zcx w' w.heap.size v []/\Bl w w'):=zyk w;go_enter func50,ntmps50;go_wp2_with fail;refine HN.out.mono ?_;rintro e w1 ⟨v,rfl,o1,b1⟩;obtain ⟨a1,A1,c1,rfl,h1,_,_⟩:=zc0 o1 (by simp);clear HN o1 h1;rw [List.length_nil];go_wp2;refine wp_loop_rounds 1 ?_;rw [rounds_succ];go_wp2;go_ret;exact ⟨rfl,b1⟩
theorem zyh (h:zan ks=true) {k:Ke} (hk:k∈ks):k.name.size<=200:=by
 unfold zan at h;rw [Qh,Qh,Qw,Qw] at h;obtain ⟨i,hi,rfl⟩:=List.getElem_of_mem hk;have h1:=h.2.2 i (List.mem_range.2 hi);rw [Qa,Qd hi] at h1;unfold zfo at h1;rw [Qh] at h1;exact Qg h1.1
theorem yd9 (h:zan ks=true):ks.length<=20:=by
 unfold zan at h;rw [Qh] at h;exact Qg h.1
def zh3 (now:Int) (ks:List Ke):List Ke:=if zan ks=true then ks.filter (zfg now) else []
def zsd (w:World) (now:Int) (ks:List Ke) (e:Ending) (w':World):Prop:=
 ∃v L',e= .returned v/\zaw w' w.heap.size v L'/\L'.map KV.key=zh3 now ks/\Bl w w'
theorem zwe {w1 w2:World} {v:Value} (h:zom w b n L w1) (ho:znh w2 w1.heap.size v L) (hb:Bl w1 w2):zaw w2 w.heap.size v L/\Bl w w2:=by
 obtain ⟨β,hβ⟩:=h.vals;exact ⟨⟨Go.Joins.ownsRow_le ho h.bel.size,β,(hβ.bw hb).up hb.size⟩,h.bel.trans (hb.mono h.bel.size)⟩
theorem zih (a:Option Addr) (b n c:Nat) (L:List KV) (now:Int) (w:World) (h:zoe w a b n L) (hs:Small L) (hn:n<=1048577) (hR:Ready w):
  Calls prog 19 #[.slice a n c,.int .i64 now] w (zsd w now (L.map KV.key)):=by
 have HA:Hid (Cp 47 #[.slice a n c,.int .i64 now] w (zku w (zan (L.map KV.key)) now (L.map KV.key))):=zk4 a b n c L now w h hs hn hR;clear h hs hR;generalize L.map KV.key=ks at*;generalize hM:zsd w now ks=M;have HM:Hid (zsd w now ks=M):=hM;clear hM;go_enter func19,ntmps19;go_wp2_with fail;refine HA.out.mono ?_;rintro e w1 (⟨ho,rfl,b1⟩|⟨ho,bM,L',rfl,hk,hi⟩)
 ·have HF:Hid (∀W,Bl w1 W->M (.returned (.slice none 0 0)) W):=fun W hW=>by
   have bb:=b1.trans (hW.mono b1.size);rw [<-HM.out];exact ⟨_,[],rfl,zrg W _ bb.size,by unfold zh3;rw [ho,if_neg (by simp)];rfl,bb⟩
  clear HM ho b1 HA;go_wp2_with fail;refine (yck w1).mono ?_;rintro e w2 ⟨rfl,b2⟩;go_wp2;exact HF.out _ b2
 ·have hup:UpK (L'.map KV.key):=by rw [hk];exact (zh5 ho).filter _
  have hlen:L'.length<=20:=by
   have e1:(L'.map KV.key).length<=ks.length:=by rw [hk];exact Qt _ _
   rw [Qp] at e1;exact Qj e1 (yd9 ho)
  have hnm:∀x∈L',x.key.name.size<=1048576:=fun x hx=>by
   have:x.key∈ks.filter (zfg now):=by rw [<-hk];exact List.mem_map_of_mem hx
   exact Qj (zyh ho (List.mem_filter.1 this).1) (by decide)
  have HF:Hid (∀W v,znh W w1.heap.size v L'->Bl w1 W->M (.returned v) W):=fun W v hv hW=>by
   obtain ⟨e1,e2⟩:=zwe hi hv hW;rw [<-HM.out];exact ⟨v,L',rfl,e1,by unfold zh3;rw [if_pos ho];exact hk,e2⟩
  have HL:Hid (Cp 50 #[.map (some bM)] w1 fun e w'=>∃v,e= .returned v/\znh w' w1.heap.size v L'/\Bl w1 w'):=zgn bM _ L' w1 hi.own hup (by omega) hnm;clear HM ho hi hk hup hlen hnm HA;go_wp2_with fail;refine HL.out.mono ?_;rintro e w2 ⟨v,rfl,o2,b2⟩;go_wp2;exact HF.out _ _ o2 b2
end Go.Proofs.YtokafonppgppdaaGreatDoor.Ri
