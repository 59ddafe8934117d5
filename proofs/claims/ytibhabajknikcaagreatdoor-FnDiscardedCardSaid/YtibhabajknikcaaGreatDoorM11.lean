import Derived.Test.YtibhabajknikcaaGreatDoorM8
import Derived.Shelf.SlIter.Nil
import Derived.Shelf.SortM.Plain
import Derived.Shelf.SortM.SortNone
import Derived.Ground.GgzProg
import Derived.Ground.SlgmProg
set_option maxHeartbeats 8000000
set_option maxRecDepth 100000
namespace Go.Proofs
open Go.RowKit Go.Maps Go.Sort Go.Shelf
def Tryz.keys101_ren : Go.Shelf.Ren := ⟨fun | 7 => 101 | 10 => 142 | n => n, fun | 23 => 63 | 26 => 9 | 3 => 60 | 28 => 138 | 0 => 0 | 27 => 137 | 33 => 117 | 4 => 4 | n => n, fun | n => n⟩
theorem Tryz.keys101 : Go.Proofs.SlLaysZ.n7 Tryz.prog Tryz.keys101_ren := {
  mixed := by kernel_rfl
  f7 := ⟨Tryz.f101.name, by decide, Tryz.func101.trans (congrArg some (by kernel_rfl))⟩
  f10 := ⟨Tryz.f142.name, by decide, Tryz.func142.trans (congrArg some (by kernel_rfl))⟩
  t0 := Tryz.underlying0
  a0 := Tryz.isAgg0
  z0 := Tryz.sizeOf0
  v0 := Tryz.zeroValue0
  t4 := Tryz.underlying4
  a4 := Tryz.isAgg4
  z4 := Tryz.sizeOf4
  v4 := Tryz.zeroValue4
  t23 := Tryz.underlying63
  a23 := Tryz.isAgg63
  z23 := Tryz.sizeOf63
  v23 := Tryz.zeroValue63
  t26 := Tryz.underlying9
  a26 := Tryz.isAgg9
  z26 := Tryz.sizeOf9
  v26 := Tryz.zeroValue9
  t27 := Tryz.underlying137
  a27 := Tryz.isAgg137
  z27 := Tryz.sizeOf137
  v27 := Tryz.zeroValue137
  t28 := Tryz.underlying138
  a28 := Tryz.isAgg138
  z28 := Tryz.sizeOf138
  v28 := Tryz.zeroValue138
  t33 := Tryz.underlying117
  a33 := Tryz.isAgg117
  z33 := Tryz.sizeOf117
  v33 := Tryz.zeroValue117 }
def Tryz.sorted100_ren : Go.Shelf.Ren := ⟨fun | 6 => 100 | 8 => 140 | 9 => 141 | 11 => 195 | 13 => 197 | 12 => 196 | 23 => 245 | 24 => 246 | 14 => 236 | 15 => 237 | 16 => 238 | 17 => 239 | 18 => 240 | 19 => 241 | 20 => 242 | 21 => 243 | 22 => 244 | 25 => 264 | 26 => 265 | 27 => 266 | 28 => 267 | 29 => 268 | 30 => 269 | 31 => 291 | n => n, fun | 26 => 9 | 28 => 138 | 24 => 28 | 0 => 0 | 3 => 3 | 37 => 145 | 48 => 269 | 50 => 143 | 4 => 4 | 40 => 262 | 39 => 261 | 45 => 249 | 5 => 5 | 9 => 9 | 51 => 286 | 55 => 289 | 57 => 304 | 58 => 305 | 33 => 117 | n => n, fun | n => n⟩
theorem Tryz.sorted100 : Go.Proofs.SlLaysZ.n6 Tryz.prog Tryz.sorted100_ren := {
  mixed := by kernel_rfl
  f6 := ⟨Tryz.f100.name, by decide, Tryz.func100.trans (congrArg some (by kernel_rfl))⟩
  f8 := ⟨Tryz.f140.name, by decide, Tryz.func140.trans (congrArg some (by kernel_rfl))⟩
  f11 := ⟨Tryz.f195.name, by decide, Tryz.func195.trans (congrArg some (by kernel_rfl))⟩
  t0 := Tryz.underlying0
  a0 := Tryz.isAgg0
  z0 := Tryz.sizeOf0
  v0 := Tryz.zeroValue0
  t24 := Tryz.underlying28
  a24 := Tryz.isAgg28
  z24 := Tryz.sizeOf28
  v24 := Tryz.zeroValue28
  t26 := Tryz.underlying9
  a26 := Tryz.isAgg9
  z26 := Tryz.sizeOf9
  v26 := Tryz.zeroValue9
  t28 := Tryz.underlying138
  a28 := Tryz.isAgg138
  z28 := Tryz.sizeOf138
  v28 := Tryz.zeroValue138
  i26 := by kernel_rfl }
def Tryz.sort141_ren : Go.Shelf.Ren := ⟨fun | 6 => 141 | 8 => 197 | 9 => 196 | 19 => 245 | 20 => 246 | 21 => 236 | 22 => 237 | 23 => 238 | 24 => 239 | 25 => 240 | 26 => 241 | 27 => 242 | 28 => 243 | 29 => 244 | 36 => 264 | 31 => 265 | 32 => 266 | 37 => 267 | 38 => 268 | 39 => 269 | 41 => 291 | n => n, fun | 27 => 28 | 29 => 9 | 3 => 3 | 32 => 145 | 26 => 28 | 0 => 0 | 44 => 269 | 46 => 143 | 4 => 4 | 36 => 262 | 35 => 261 | 41 => 249 | 5 => 5 | 9 => 9 | 53 => 286 | 57 => 289 | 63 => 304 | 64 => 305 | n => n, fun | n => n⟩
theorem Tryz.sort141 : Go.Proofs.SlLaysM.n6 Tryz.prog Tryz.sort141_ren := {
  mixed := by kernel_rfl
  f6 := ⟨Tryz.f141.name, by decide, Tryz.func141.trans (congrArg some (by kernel_rfl))⟩
  f8 := Tryz.func197.trans (congrArg some (by kernel_rfl))
  f9 := ⟨Tryz.f196.name, by decide, Tryz.func196.trans (congrArg some (by kernel_rfl))⟩
  f19 := Tryz.func245.trans (congrArg some (by kernel_rfl))
  f20 := Tryz.func246.trans (congrArg some (by kernel_rfl))
  f21 := ⟨Tryz.f236.name, by decide, Tryz.func236.trans (congrArg some (by kernel_rfl))⟩
  f22 := ⟨Tryz.f237.name, by decide, Tryz.func237.trans (congrArg some (by kernel_rfl))⟩
  f23 := ⟨Tryz.f238.name, by decide, Tryz.func238.trans (congrArg some (by kernel_rfl))⟩
  f24 := ⟨Tryz.f239.name, by decide, Tryz.func239.trans (congrArg some (by kernel_rfl))⟩
  f25 := ⟨Tryz.f240.name, by decide, Tryz.func240.trans (congrArg some (by kernel_rfl))⟩
  f26 := ⟨Tryz.f241.name, by decide, Tryz.func241.trans (congrArg some (by kernel_rfl))⟩
  f27 := ⟨Tryz.f242.name, by decide, Tryz.func242.trans (congrArg some (by kernel_rfl))⟩
  f28 := ⟨Tryz.f243.name, by decide, Tryz.func243.trans (congrArg some (by kernel_rfl))⟩
  f29 := ⟨Tryz.f244.name, by decide, Tryz.func244.trans (congrArg some (by kernel_rfl))⟩
  f31 := Tryz.func265.trans (congrArg some (by kernel_rfl))
  f32 := Tryz.func266.trans (congrArg some (by kernel_rfl))
  f36 := ⟨Tryz.f264.name, by decide, Tryz.func264.trans (congrArg some (by kernel_rfl))⟩
  f37 := ⟨Tryz.f267.name, by decide, Tryz.func267.trans (congrArg some (by kernel_rfl))⟩
  f38 := ⟨Tryz.f268.name, by decide, Tryz.func268.trans (congrArg some (by kernel_rfl))⟩
  f39 := ⟨Tryz.f269.name, by decide, Tryz.func269.trans (congrArg some (by kernel_rfl))⟩
  f41 := ⟨Tryz.f291.name, by decide, Tryz.func291.trans (congrArg some (by kernel_rfl))⟩
  t0 := Tryz.underlying0
  a0 := Tryz.isAgg0
  z0 := Tryz.sizeOf0
  v0 := Tryz.zeroValue0
  t3 := Tryz.underlying3
  a3 := Tryz.isAgg3
  z3 := Tryz.sizeOf3
  v3 := Tryz.zeroValue3
  t4 := Tryz.underlying4
  a4 := Tryz.isAgg4
  z4 := Tryz.sizeOf4
  v4 := Tryz.zeroValue4
  t5 := Tryz.underlying5
  a5 := Tryz.isAgg5
  z5 := Tryz.sizeOf5
  v5 := Tryz.zeroValue5
  t9 := Tryz.underlying9
  a9 := Tryz.isAgg9
  z9 := Tryz.sizeOf9
  v9 := Tryz.zeroValue9
  t26 := Tryz.underlying28
  a26 := Tryz.isAgg28
  z26 := Tryz.sizeOf28
  v26 := Tryz.zeroValue28
  t27 := Tryz.underlying28
  a27 := Tryz.isAgg28
  z27 := Tryz.sizeOf28
  v27 := Tryz.zeroValue28
  t29 := Tryz.underlying9
  a29 := Tryz.isAgg9
  z29 := Tryz.sizeOf9
  v29 := Tryz.zeroValue9
  t32 := Tryz.underlying145
  a32 := Tryz.isAgg145
  z32 := Tryz.sizeOf145
  v32 := Tryz.zeroValue145
  t35 := Tryz.underlying261
  a35 := Tryz.isAgg261
  z35 := Tryz.sizeOf261
  v35 := Tryz.zeroValue261
  t36 := Tryz.underlying262
  a36 := Tryz.isAgg262
  z36 := Tryz.sizeOf262
  v36 := Tryz.zeroValue262
  t41 := Tryz.underlying249
  a41 := Tryz.isAgg249
  z41 := Tryz.sizeOf249
  v41 := Tryz.zeroValue249
  t44 := Tryz.underlying269
  a44 := Tryz.isAgg269
  z44 := Tryz.sizeOf269
  v44 := Tryz.zeroValue269
  t46 := Tryz.underlying143
  a46 := Tryz.isAgg143
  z46 := Tryz.sizeOf143
  v46 := Tryz.zeroValue143
  t53 := Tryz.underlying286
  a53 := Tryz.isAgg286
  z53 := Tryz.sizeOf286
  v53 := Tryz.zeroValue286
  t57 := Tryz.underlying289
  a57 := Tryz.isAgg289
  z57 := Tryz.sizeOf289
  v57 := Tryz.zeroValue289
  t63 := Tryz.underlying304
  a63 := Tryz.isAgg304
  z63 := Tryz.sizeOf304
  v63 := Tryz.zeroValue304
  t64 := Tryz.underlying305
  a64 := Tryz.isAgg305
  z64 := Tryz.sizeOf305
  v64 := Tryz.zeroValue305 }
theorem Tryz.sorts100 (m:Nat):AnyZ.SortsIn Tryz.prog Tryz.sorted100_ren Fence.wide m:=
 ⟨fun blk off cap ss W hH hblk hsz=>callsIn_wide.2 (AnyM.slices_Sort_string Tryz.sort141 blk off cap ss W hH hblk hsz),
  fun p cap W=>callsIn_wide.2 (AnyM.slices_Sort_string_none Tryz.sort141 p cap W)⟩
theorem Tryz.maps_Keys_101 (mb:Option Nat) (W:World):CallsIn Fence.wide 5 Tryz.prog 101 #[.map mb] W fun e w'=>e= .returned (.func (.func 142) #[] #[.pointer (some ⟨W.heap.size,0,none⟩)])∧w'=W.alloc (.cells #[.map mb] 63):=
 AnyZ.keys_in Tryz.keys101 Fence.wide 5 trivial rfl mb W
theorem Tryz.slices_Sorted_keys_100_101 {H:Type} (b nn:Nat) (D0:DataW H) (R:Value→Option (DataW H×List MemPlace)) (w:World) (hown:w.ownsMap Tryz.prog 9 R b nn D0) (hmax:Maps.size D0≤maxLen) (hbytes:Maps.size D0*16≤140737488355328):
  CallsIn Fence.wide 5 Tryz.prog 100 #[.func (.func 142) #[] #[.pointer (some ⟨w.heap.size,0,none⟩)]] (w.alloc (.cells #[.map (some b)] 63)) fun e w'=>∃(v:Value) (ss:List (List UInt8)),e= .returned v∧ss.Perm (strKeys D0)∧
   w'.ownsRow (w.alloc (.cells #[.map (some b)] 63)).heap.size 9 1 v ss.length ((ss.mergeSort (fun x y=>decide (x≤y))).map encStr)∧(v= .slice none 0 0↔ss=[])∧Below (w.alloc (.cells #[.map (some b)] 63)).heap.size (w.alloc (.cells #[.map (some b)] 63)) w':=by
 have hbl:=hown.lt;have hseq:SeqGives Fence.wide 2 Tryz.prog 142 #[.pointer (some ⟨w.heap.size,0,none⟩)] encStr (fun ss=>ss.Perm (strKeys D0)) (Maps.size D0) (w.alloc (.cells #[.map (some b)] 63)):=
  AnyZ.keys_gives (ρ:=Tryz.keys101_ren) { Tryz.keys101 with } Fence.wide _ trivial rfl (by omega) w.heap.size b nn D0 _ (by simp) (by simp) (by
   obtain ⟨es,clock,hb,Ft,hs,hD⟩:=hown;exact ⟨es,clock,(Below.heap_alloc _ _ b hbl).trans hb,Ft,hs,hD⟩)
 exact AnyZ.sorted_in Tryz.sorted100 Fence.wide 5 trivial trivial trivial trivial rfl (by omega) (Tryz.sorts100 _) (enters_of Tryz.func141 (by kernel_rfl) rfl) 142 #[.pointer (some ⟨w.heap.size,0,none⟩)] trivial (enters_of Tryz.func142 (by kernel_rfl) rfl) _ _ hmax hbytes _ hseq
theorem Tryz.slices_Sorted_keys_nil_100_101 (w:World):
  CallsIn Fence.wide 5 Tryz.prog 100 #[.func (.func 142) #[] #[.pointer (some ⟨w.heap.size,0,none⟩)]] (w.alloc (.cells #[.map none] 63)) fun e w'=>∃(v:Value) (ss:List (List UInt8)),e= .returned v∧ss=[]∧
   w'.ownsRow (w.alloc (.cells #[.map none] 63)).heap.size 9 1 v ss.length ((ss.mergeSort (fun x y=>decide (x≤y))).map encStr)∧(v= .slice none 0 0↔ss=[])∧Below (w.alloc (.cells #[.map none] 63)).heap.size (w.alloc (.cells #[.map none] 63)) w':=by
 have hseq:SeqGives Fence.wide 2 Tryz.prog 142 #[.pointer (some ⟨w.heap.size,0,none⟩)] encStr (fun ss:List (List UInt8)=>ss=[]) 0 (w.alloc (.cells #[.map none] 63)):=
  AnyZ.keys_gives_nil (ρ:=Tryz.keys101_ren) { Tryz.keys101 with } Fence.wide _ trivial rfl w.heap.size _ (by simp) (by simp)
 exact AnyZ.sorted_in Tryz.sorted100 Fence.wide 5 trivial trivial trivial trivial rfl (by omega) (Tryz.sorts100 _) (enters_of Tryz.func141 (by kernel_rfl) rfl) 142 #[.pointer (some ⟨w.heap.size,0,none⟩)] trivial (enters_of Tryz.func142 (by kernel_rfl) rfl) _ 0 (Nat.zero_le _) (by omega) _ hseq
end Go.Proofs
namespace Go.Proofs.YtibhabajknikcaaGreatDoor.Ri
open Go.RowKit Go.Maps
theorem before_le:∀a b:List UInt8,bytesBefore a b=true→a≤b
 | [],_,_=>List.nil_le _
 |_::_,[],h=>by simp [bytesBefore] at h
 |a::x,b::y,h=>by
  unfold bytesBefore at h;rw [List.cons_le_cons_iff];rw [Bool.or_eq_true,Bool.and_eq_true] at h;rcases h with h|⟨h1,h2⟩
  ·exact .inl (of_decide_eq_true h)
  ·exact .inr ⟨eq_of_beq h1,before_le x y h2⟩
def UpK (ks:List Ke):Prop:=ks.Pairwise fun x y=>bytesBefore x.name.data.toList y.name.data.toList=true
theorem up_of_ok {ks:List Ke} (h:dbOkB ks=true):UpK ks:=by
 unfold UpK;rw [List.pairwise_iff_getElem];intro i j hi hj hij;have:=dbOk_rise h (j-i-1) i (by omega);rw [show i+(j-i-1)+1=j by omega,List.getD_eq_getElem?_getD,List.getD_eq_getElem?_getD,List.getElem?_eq_getElem hi,List.getElem?_eq_getElem hj] at this;exact this
theorem keys_ring (L:List KV):strKeys (ringD L)=L.map fun x=>x.key.name.data.toList:=by
 show (L.map entK).map (fun p=>strOf p.1)=_;rw [List.map_map];rfl
theorem sorted_ring {L:List KV} {ss:List (List UInt8)} (hu:UpK (L.map KV.key)) (hp:ss.Perm (strKeys (ringD L))):(ss.mergeSort fun x y=>decide (x≤y)).map encStr=strV (L.map fun x=>x.key.name):=by
 have e:(ss.mergeSort fun x y=>decide (x≤y))=L.map fun x=>x.key.name.data.toList:=by
  have:=mergeSort_of_perm hp;rw [keys_ring] at this;refine this.trans (List.mergeSort_of_pairwise ?_);rw [List.pairwise_map];unfold UpK at hu;rw [List.pairwise_map] at hu;exact hu.imp fun h=>decide_eq_true (before_le _ _ h)
 rw [e];unfold strV;rw [List.map_map,List.map_map];refine List.map_congr_left fun x _=>?_;simp [encStr]
theorem size_ring (L:List KV):Maps.size (ringD L)=L.length:=by
 simp [ringD,Maps.size]
theorem names_any (b n:Nat) (L:List KV) (w:World) (h:w.ownsMap Tryz.prog 9 RK b n (ringD L)) (hu:UpK (L.map KV.key)) (hl:L.length≤1048576):
  Calls Tryz.prog 63 #[.map (some b)] w fun e w'=>∃v,e= .returned v∧OwnS w' w.heap.size v (L.map fun x=>x.key.name)∧Below w.heap.size w w':=by
 have HS:Hid (Calls Tryz.prog 100 #[.func (.func 142) #[] #[.pointer (some ⟨w.heap.size,0,none⟩)]] (w.alloc (.cells #[.map (some b)] 63)) fun e w'=>∃v,e= .returned v∧OwnS w' w.heap.size v (L.map fun x=>x.key.name)∧Below w.heap.size w w'):=by
  refine (callsIn_wide.1 (Tryz.slices_Sorted_keys_100_101 b n (ringD L) RK w h (by rw [size_ring];exact Nat.le_trans hl (by decide)) (by rw [size_ring];omega))).mono ?_;rintro e w' ⟨v,ss,rfl,hS,hrow,_,hb⟩;have hlen:ss.length=(L.map fun x=>x.key.name).length:=by rw [hS.length_eq,keys_ring,List.length_map,List.length_map]
  have hb0:Below w.heap.size w (w.alloc (.cells #[.map (some b)] 63)):=(Below.refl _ w).alloc (Nat.le_refl _) _;refine ⟨v,rfl,?_,hb0.trans (hb.mono hb0.size)⟩;rw [sorted_ring hu hS,hlen] at hrow;exact Go.Joins.ownsRow_le hrow hb0.size
 have HK:Hid (Calls Tryz.prog 101 #[.map (some b)] w fun e w'=>e= .returned (.func (.func 142) #[] #[.pointer (some ⟨w.heap.size,0,none⟩)])∧w'=w.alloc (.cells #[.map (some b)] 63)):=callsIn_wide.1 (Tryz.maps_Keys_101 (some b) w);clear h hu hl;go_enter Tryz.func63,Tryz.ntmps63;go_wp2_with fail;refine HK.out.mono ?_;rintro e w1 ⟨rfl,rfl⟩;clear HK;go_wp2_with fail;refine HS.out.mono ?_;rintro e w2 ⟨v,rfl,o2,b2⟩;go_wp2;go_ret;exact ⟨v,rfl,o2,b2⟩
theorem names_nil (w:World):
  Calls Tryz.prog 63 #[.map none] w fun e w'=>∃v,e= .returned v∧OwnS w' w.heap.size v []∧Below w.heap.size w w':=by
 have HS:Hid (Calls Tryz.prog 100 #[.func (.func 142) #[] #[.pointer (some ⟨w.heap.size,0,none⟩)]] (w.alloc (.cells #[.map none] 63)) fun e w'=>∃v,e= .returned v∧OwnS w' w.heap.size v []∧Below w.heap.size w w'):=by
  refine (callsIn_wide.1 (Tryz.slices_Sorted_keys_nil_100_101 w)).mono ?_;rintro e w' ⟨v,ss,rfl,rfl,hrow,hnil,hb⟩;have hb0:Below w.heap.size w (w.alloc (.cells #[.map none] 63)):=(Below.refl _ w).alloc (Nat.le_refl _) _;obtain rfl:=hnil.2 rfl;exact ⟨_,rfl,ownS_nil _ _,hb0.trans (hb.mono hb0.size)⟩
 have HK:Hid (Calls Tryz.prog 101 #[.map none] w fun e w'=>e= .returned (.func (.func 142) #[] #[.pointer (some ⟨w.heap.size,0,none⟩)])∧w'=w.alloc (.cells #[.map none] 63)):=callsIn_wide.1 (Tryz.maps_Keys_101 none w);go_enter Tryz.func63,Tryz.ntmps63;go_wp2_with fail;refine HK.out.mono ?_;rintro e w1 ⟨rfl,rfl⟩;clear HK;go_wp2_with fail;refine HS.out.mono ?_;rintro e w2 ⟨v,rfl,o2,b2⟩;go_wp2;go_ret;exact ⟨v,rfl,o2,b2⟩
end Go.Proofs.YtibhabajknikcaaGreatDoor.Ri
namespace Go.Proofs.YtibhabajknikcaaGreatDoor.Ri
open Go.RowKit Go.Maps
theorem ring_find:∀(L:List KV),UpK (L.map KV.key)→∀x∈L,(L.map entK).find? (fun p=>p.1.sameKey (.string x.key.name.data.toList))=some (entK x)
 | [],_,_,h=>absurd h (by simp)
 |y::r,hu,x,hx=>by
  unfold UpK at hu;rw [List.map_cons,List.pairwise_cons] at hu;rw [List.map_cons];by_cases e:y.key.name.data.toList=x.key.name.data.toList
  ·rcases List.mem_cons.1 hx with rfl|hx
   ·rw [List.find?_cons_of_pos];show (x.key.name.data.toList==x.key.name.data.toList)=true;simp
   ·have:=hu.1 x.key (List.mem_map_of_mem hx);rw [e,WideAt.bytes_irrefl] at this;cases this
  ·rw [List.find?_cons_of_neg]
   ·rcases List.mem_cons.1 hx with rfl|hx
    ·exact absurd rfl e
    ·exact ring_find r hu.2 x hx
   ·show ¬(y.key.name.data.toList==x.key.name.data.toList)=true;simpa using e
theorem ring_at {L:List KV} (hu:UpK (L.map KV.key)) {x:KV} (hx:x∈L) (z:DataW Value):(ringD L).atKey (.string x.key.name.data.toList) z= .held (kvA x):=by
 unfold ringD DataW.atKey;simp only [ring_find L hu x hx];rfl
theorem zero44 (w:World):(zeroValue 60).run Tryz.prog w= .ok (.agg z7) w:=by
 simp [go_sem,zeroValue,Tryz.t60]
theorem ring_look {w:World} {b n:Nat} {L:List KV} (h:w.ownsMap Tryz.prog 9 RK b n (ringD L)) (hu:UpK (L.map KV.key)) {x:KV} (hx:x∈L) (hn:x.key.name.size≤maxLen):
  (Instr.lookup 63 (.map (some b)) (.string x.key.name) false).run Tryz.prog w= .ok (kvA x) w∧∃a1 n1 c1 a2 n2 c2 a3 n3 c3,x.vi= .slice a1 n1 c1∧x.vp= .slice a2 n2 c2∧x.vr= .slice a3 n3 c3:=by
 obtain ⟨v,ps,hrun,hv⟩:=h.lookup law9 Tryz.underlying63 (zero44 w) (zd:= .held (.agg z7)) (zp:=[]) rfl (key_lit x.key.name hn);rw [ring_at hu hx] at hv;obtain ⟨y,rfl,e⟩:=RK_inv hv;injection e with e _;injection e with e;refine ⟨by rw [hrun,e],?_⟩;unfold kvA at e;injection e with e;have e:=Array.toList_inj.2 e;simp only [List.cons.injEq] at e;exact ⟨_,_,_,_,_,_,_,_,_,e.2.2.2.1,e.2.2.2.2.1,e.2.2.2.2.2.1⟩
theorem list_any (b n:Nat) (L:List KV) (w:World) (h:w.ownsMap Tryz.prog 9 RK b n (ringD L)) (hu:UpK (L.map KV.key)) (hl:L.length≤1048576) (hz:∀x∈L,x.key.name.size≤1048576):
  Calls Tryz.prog 27 #[.map (some b)] w fun e w'=>∃v,e= .returned v∧OwnK w' w.heap.size v L∧Below w.heap.size w w':=by
 have HN:Hid (Calls Tryz.prog 63 #[.map (some b)] w fun e w'=>∃v,e= .returned v∧OwnS w' w.heap.size v (L.map fun x=>x.key.name)∧Below w.heap.size w w'):=names_any b n L w h hu hl;have H:Hid (w.ownsMap Tryz.prog 9 RK b n (ringD L)):=h;have HU:Hid (UpK (L.map KV.key)):=hu;have HZ:Hid (∀x∈L,x.key.name.size≤1048576):=hz;clear h hu hz;go_enter Tryz.func27,Tryz.ntmps27;go_wp2_with fail;refine HN.out.mono ?_;rintro e w1 ⟨v,rfl,o1,b1⟩;obtain ⟨a1,A1,c1,rfl,h1,_,_⟩:=ownS_in o1 (fun t ht=>by obtain ⟨x,hx,rfl⟩:=List.mem_map.1 ht;exact HZ.out x hx);rw [List.length_map] at h1;have HT:Hid (zdg w1 a1 A1 0 L.length (L.map fun x=>x.key.name)):=h1;have HB1:Hid (Below w.heap.size w w1):=b1;clear HN o1 h1 b1;go_wp2;go_loopw [3,9] (fun v i wr=>∃(k:Nat),k≤L.length∧i= .int .i64 k∧Hid (OwnK wr w1.heap.size v (L.take k))∧Hid (Below w1.heap.size w1 wr)) (fun _ i _=>L.length-(intOf i).toNat)
 case atStart=>exact ⟨0,by omega,rfl,ownK_nil _ _,Below.refl _ _⟩
 case round=>
  obtain ⟨k,hk,rfl,ho,hb⟩:=hrel;have bk:=HB1.out.trans (hb.out.mono HB1.out.size);by_cases hlt:k<L.length
  ·have hc:=(hb.out.cell (p:=⟨A1,0+k,none⟩) (HT.out.low (by omega))).trans (HT.out.cell k hlt);obtain rfl:=HT.out.addr (by omega);have hx:L.getD k kv0∈L:=by rw [List.getD_eq_getElem?_getD,List.getElem?_eq_getElem hlt];exact List.getElem_mem hlt
   have hnm:(L.map fun x=>x.key.name).getD k ByteArray.empty=(L.getD k kv0).key.name:=by
    rw [List.getD_eq_getElem?_getD,List.getD_eq_getElem?_getD,List.getElem?_map,List.getElem?_eq_getElem hlt];rfl
   obtain ⟨hlook,a1,n1,k1,a2,n2,k2,a3,n3,k3,e1,e2,e3⟩:=ring_look (H.out.kept (row:=none) ⟨bk.os,bk.tape,bk.output,bk.size,fun k hk _=>bk.block k hk⟩ (by simp)) HU.out hx (Nat.le_trans (HZ.out _ hx) (by decide));obtain ⟨v',w',hrun,ho',hb',_⟩:=app_key (L.getD k kv0).key a1 a2 a3 n1 k1 n2 k2 n3 k3 ho.out (by rw [List.length_take];omega) hb.out.size;have HO':Hid (OwnK w' w1.heap.size v' (L.take (k+1))):=by
    unfold Hid;have e4:L.getD k kv0=⟨(L.getD k kv0).key,.slice a1 n1 k1,.slice a2 n2 k2,.slice a3 n3 k3⟩:=by rw [←e1,←e2,←e3]
    rw [List.take_succ_eq_append_getElem hlt];rw [←e4] at ho';have e5:L[k]=L.getD k kv0:=by rw [List.getD_eq_getElem?_getD,List.getElem?_eq_getElem hlt];rfl
    rw [e5];exact ho'
   have HB':Hid (Below w1.heap.size w1 w'):=hb.out.trans hb';unfold kvA at hlook;rw [e1,e2,e3] at hlook;rw [hnm] at hc;generalize (L.getD k kv0).key=key at*;obtain ⟨nm,⟨kd,t,is,ps,rs⟩,d⟩:=key;dsimp only at hrun hlook hc;rw [Nat.zero_add] at hc;clear ho ho' hb hb' bk hnm e1 e2 e3 hx;generalize L.length=nL at*;have HRUN:Hid ((Builtin.append_ #[24,24] 24 #[u3,.slice (some ⟨wr.heap.size,0,none⟩) 1 1]).run Tryz.prog (wr.alloc (.cells (kC nm kd t (.slice a1 n1 k1) (.slice a2 n2 k2) (.slice a3 n3 k3) d) 60))= .ok v' w'):=hrun;clear hrun;go_wp2_with (at_builtin;refine wpList_append_run' rfl _ _ 24 rfl rfl rfl HRUN.out ?_);exact ⟨⟨k+1,by omega,by go_num,HO',HB'⟩,by simp [intOf];omega⟩
  ·obtain rfl:k=L.length:=by omega
   have HE:Hid (OwnK wr w.heap.size u3 L∧Below w.heap.size w wr):=by
    have:=ho.out;rw [List.take_length] at this;exact ⟨Go.Joins.ownsRow_le this HB1.out.size,bk⟩
   clear ho hb bk;go_wp2;go_ret;exact ⟨_,rfl,HE.out⟩
end Go.Proofs.YtibhabajknikcaaGreatDoor.Ri
namespace Go.Proofs.YtibhabajknikcaaGreatDoor.Ri
open Go.RowKit Go.Maps
theorem list_nil (w:World):
  Calls Tryz.prog 27 #[.map none] w fun e w'=>e= .returned (.slice none 0 0)∧Below w.heap.size w w':=by
 have HN:Hid (Calls Tryz.prog 63 #[.map none] w fun e w'=>∃v,e= .returned v∧OwnS w' w.heap.size v []∧Below w.heap.size w w'):=names_nil w;go_enter Tryz.func27,Tryz.ntmps27;go_wp2_with fail;refine HN.out.mono ?_;rintro e w1 ⟨v,rfl,o1,b1⟩;obtain ⟨a1,A1,c1,rfl,h1,_,_⟩:=ownS_in o1 (by simp);clear HN o1 h1;rw [List.length_nil];go_wp2;refine wp_loop_rounds 1 ?_;rw [rounds_succ];go_wp2;go_ret;exact ⟨rfl,b1⟩
theorem dbOk_name {ks:List Ke} (h:dbOkB ks=true) {k:Ke} (hk:k∈ks):k.name.size≤200:=by
 unfold dbOkB at h;rw [Bool.and_eq_true,Bool.and_eq_true,List.all_eq_true,List.all_eq_true] at h;obtain ⟨i,hi,rfl⟩:=List.getElem_of_mem hk;have h1:=h.2.2 i (List.mem_range.2 hi);rw [List.getD_eq_getElem?_getD,List.getElem?_eq_getElem hi] at h1;unfold keyB at h1;rw [Bool.and_eq_true] at h1;exact of_decide_eq_true h1.1
theorem dbOk_len {ks:List Ke} (h:dbOkB ks=true):ks.length≤20:=by
 unfold dbOkB at h;rw [Bool.and_eq_true] at h;exact of_decide_eq_true h.1
def livingM (now:Int) (ks:List Ke):List Ke:=if dbOkB ks=true then ks.filter (livesK now) else []
def LiveEnd (w:World) (now:Int) (ks:List Ke) (e:Ending) (w':World):Prop:=
 ∃v L',e= .returned v∧DbOwn w' w.heap.size v L'∧L'.map KV.key=livingM now ks∧Below w.heap.size w w'
theorem ringW_list {w w1 w2:World} {b n:Nat} {L:List KV} {v:Value} (h:RingW w b n L w1) (ho:OwnK w2 w1.heap.size v L) (hb:Below w1.heap.size w1 w2):DbOwn w2 w.heap.size v L∧Below w.heap.size w w2:=by
 obtain ⟨β,hβ⟩:=h.vals;exact ⟨⟨Go.Joins.ownsRow_le ho h.bel.size,β,(hβ.below hb).up hb.size⟩,h.bel.trans (hb.mono h.bel.size)⟩
theorem alive_any (a:Option Addr) (b n c:Nat) (L:List KV) (now:Int) (w:World) (h:DbAt w a b n L) (hs:Small L) (hn:n≤1048577) (hR:Ready w):
  Calls Tryz.prog 10 #[.slice a n c,.int .i64 now] w (LiveEnd w now (L.map KV.key)):=by
 have HA:Hid (Calls Tryz.prog 26 #[.slice a n c,.int .i64 now] w (AliveEnd w (dbOkB (L.map KV.key)) now (L.map KV.key))):=aliveAt_any a b n c L now w h hs hn hR;clear h hs hR;generalize L.map KV.key=ks at*;generalize hM:LiveEnd w now ks=M;have HM:Hid (LiveEnd w now ks=M):=hM;clear hM;go_enter Tryz.func10,Tryz.ntmps10;go_wp2_with fail;refine HA.out.mono ?_;rintro e w1 (⟨ho,rfl,b1⟩|⟨ho,bM,L',rfl,hk,hi⟩)
 ·have HF:Hid (∀W,Below w1.heap.size w1 W→M (.returned (.slice none 0 0)) W):=fun W hW=>by
   have bb:=b1.trans (hW.mono b1.size);rw [←HM.out];exact ⟨_,[],rfl,dbown_nil W _ bb.size,by unfold livingM;rw [ho,if_neg (by simp)];rfl,bb⟩
  clear HM ho b1 HA;go_wp2_with fail;refine (list_nil w1).mono ?_;rintro e w2 ⟨rfl,b2⟩;go_wp2;exact HF.out _ b2
 ·have hup:UpK (L'.map KV.key):=by rw [hk];exact (up_of_ok ho).filter _
  have hlen:L'.length≤20:=by
   have e1:(L'.map KV.key).length≤ks.length:=by rw [hk];exact List.length_filter_le _ _
   rw [List.length_map] at e1;exact Nat.le_trans e1 (dbOk_len ho)
  have hnm:∀x∈L',x.key.name.size≤1048576:=fun x hx=>by
   have:x.key∈ks.filter (livesK now):=by rw [←hk];exact List.mem_map_of_mem hx
   exact Nat.le_trans (dbOk_name ho (List.mem_filter.1 this).1) (by decide)
  have HF:Hid (∀W v,OwnK W w1.heap.size v L'→Below w1.heap.size w1 W→M (.returned v) W):=fun W v hv hW=>by
   obtain ⟨e1,e2⟩:=ringW_list hi hv hW;rw [←HM.out];exact ⟨v,L',rfl,e1,by unfold livingM;rw [if_pos ho];exact hk,e2⟩
  have HL:Hid (Calls Tryz.prog 27 #[.map (some bM)] w1 fun e w'=>∃v,e= .returned v∧OwnK w' w1.heap.size v L'∧Below w1.heap.size w1 w'):=list_any bM _ L' w1 hi.own hup (by omega) hnm;clear HM ho hi hk hup hlen hnm HA;go_wp2_with fail;refine HL.out.mono ?_;rintro e w2 ⟨v,rfl,o2,b2⟩;go_wp2;exact HF.out _ _ o2 b2
end Go.Proofs.YtibhabajknikcaaGreatDoor.Ri
