import Derived.Test.YtjpeglkkkllagaaGreatDoorHb
set_option maxHeartbeats 4000000
set_option maxRecDepth 100000
namespace Go.Proofs.YtjpeglkkkllagaaGreatDoor.Hp
open Go.RowKit Go.Sort
section
variable {w2 : World} {n : Nat} {L M : List Cl} {DD : ByteArray} {i j p t : Nat} {l : Array Bool} {g1 Z : Nat} {a1 : Option Addr} {cap1 : Nat} {W : World}
end
def liveS (L:List Cl):List Nat:=stI L L.length
theorem liveS_lt (L:List Cl):∀i∈liveS L,i<L.length:=(st_bound L L.length).2
theorem liveS_len (L:List Cl):(liveS L).length≤L.length:=(st_bound L L.length).1
theorem liveS_at {L:List Cl} {m:Nat} (h:m<(liveS L).length):(liveS L).getD m 0∈liveS L:=by
 rw [List.getD_eq_getElem?_getD,List.getElem?_eq_getElem h];exact List.getElem_mem h
def cutOf (s:ByteArray) (x:Cl):ByteArray:=s.extract x.pos.toNat (x.pos.toNat+x.len.toNat)
def moveC (M:List Cl) (i e:Nat):List Cl:=M.set i ⟨e,(M.getD i cl0).len,(M.getD i cl0).gen,(M.getD i cl0).live⟩
def pkStep (s:ByteArray) (L:List Cl) (st:List Cl×ByteArray) (i:Nat):List Cl×ByteArray:=(moveC st.1 i st.2.size,st.2++cutOf s (clOf L i))
def pkSt (s:ByteArray) (L:List Cl) (m:Nat):List Cl×ByteArray:=((liveS L).take m).foldl (pkStep s L) (L,⟨#[]⟩)
theorem pkSt_next (s:ByteArray) (L:List Cl) {m:Nat} (h:m<(liveS L).length):pkSt s L (m+1)=pkStep s L (pkSt s L m) ((liveS L).getD m 0):=by
 unfold pkSt;rw [List.take_succ_eq_append_getElem h,List.foldl_append,List.getD_eq_getElem?_getD,List.getElem?_eq_getElem h];rfl
theorem pk_len (s:ByteArray) (L:List Cl):∀m,m≤(liveS L).length→(pkSt s L m).1.length=L.length
 |0,_=>rfl
 |m+1,h=>by
  rw [pkSt_next s L (by omega)];show (moveC _ _ _).length=_;unfold moveC;rw [List.length_set,pk_len s L m (by omega)]
def pkN (L:List Cl) (m:Nat):Nat:=(((liveS L).take m).map fun i=> (clOf L i).len.toNat).sum
theorem pkN_next (L:List Cl) {m:Nat} (h:m<(liveS L).length):pkN L (m+1)=pkN L m+(clOf L ((liveS L).getD m 0)).len.toNat:=by
 unfold pkN;rw [List.take_succ_eq_append_getElem h,List.map_append,List.sum_append,List.getD_eq_getElem?_getD,List.getElem?_eq_getElem h];simp
theorem pkN_mono (L:List Cl):∀(m d:Nat),m+d≤(liveS L).length→pkN L m≤pkN L (m+d)
 |m,0,_=>Nat.le_refl _
 |m,d+1,h=>by
  have:=pkN_mono L m d (by omega);have:=pkN_next L (m:=m+d) (by omega);rw [show m+(d+1)=m+d+1 from by omega];omega
theorem sum_ahead (n:Nat):∀(S:List Cl) (e:Nat),Ahead n S e→e+(S.map fun c=>c.len.toNat).sum≤n
 | [],e,h=>by simpa using h.1
 |c::r,e,h=>by
  have f:=h.facts;have:=sum_ahead n r _ h.next;rw [List.map_cons,List.sum_cons];omega
theorem pkN_all {n:Nat} {L:List Cl} {t:Nat→Bool} (h:Right n L t):pkN L (liveS L).length≤n:=by
 have:=sum_ahead n (liveC [] L) 0 h.ahead;rw [live_all L,List.map_map] at this;unfold pkN;rw [List.take_length];have e:(liveS L).map (fun i=> (clOf L i).len.toNat)=(stI L L.length).map ((fun c:Cl=>c.len.toNat) ∘ clOf L):=rfl;rw [e];omega
theorem live_ok {n:Nat} {L:List Cl} {t:Nat→Bool} (h:Right n L t) {i:Nat} (hi:i∈liveS L):Ok n (clOf L i):=
 h.ok _ (by rw [live_all L];exact List.mem_map_of_mem hi)
theorem cut_size {s:ByteArray} {x:Cl} (h:Ok s.size x):(cutOf s x).size=x.len.toNat:=by
 obtain ⟨_,h1,h2,h3⟩:=h;unfold cutOf;rw [ByteArray.size_extract];omega
theorem pk_size {s:ByteArray} {L:List Cl} {t:Nat→Bool} (h:Right s.size L t):∀m,m≤(liveS L).length→(pkSt s L m).2.size=pkN L m
 |0,_=>rfl
 |m+1,hm=>by
  rw [pkSt_next s L (by omega),pkN_next L (by omega)];show (_++cutOf s _).size=_;rw [ByteArray.size_append,pk_size h m (by omega),cut_size (live_ok h (liveS_at (by omega)))]
theorem pk_room {s:ByteArray} {L:List Cl} {t:Nat→Bool} (h:Right s.size L t) {m:Nat} (hm:m<(liveS L).length):pkN L m+(clOf L ((liveS L).getD m 0)).len.toNat≤s.size:=by
 have:=pkN_next L hm;have:=pkN_mono L (m+1) ((liveS L).length-(m+1)) (by omega);rw [show m+1+((liveS L).length-(m+1))=(liveS L).length from by omega] at this;have:=pkN_all h;omega
theorem pk_le {s:ByteArray} {L:List Cl} {t:Nat→Bool} (h:Right s.size L t) {m:Nat} (hm:m≤(liveS L).length):pkN L m≤s.size:=by
 have:=pkN_mono L m ((liveS L).length-m) (by omega);rw [show m+((liveS L).length-m)=(liveS L).length from by omega] at this;have:=pkN_all h;omega
def packD (s:ByteArray) (L:List Cl):ByteArray:=if heapB s L=true then (pkSt s L (liveS L).length).2++dataZ (s.size-(pkSt s L (liveS L).length).2.size) else ⟨#[]⟩
def packL (s:ByteArray) (L:List Cl):List Cl:=if heapB s L=true then (pkSt s L (liveS L).length).1 else []
theorem pack_no {s:ByteArray} {L:List Cl} (h:heapB s L=false):packD s L=⟨#[]⟩∧packL s L=[]:=by
 unfold packD packL;rw [h];exact ⟨rfl,rfl⟩
structure PackK (w:World) (s:ByteArray) (a:Option Addr) (b off n c:Nat) (L:List Cl) (S:List Nat) (B3 A2 cap2:Nat) (wr:World):Prop where
 p0:RowAt wr w.heap.size 29 #[.string s,.slice a n c]
 p2:RowAt wr (w.heap.size+1) 29 #[.string ⟨#[]⟩,.slice none 0 0]
 li:wr.ownsRow B3 3 1 (.slice (some ⟨A2,0,none⟩) S.length cap2) S.length (ints S)
 hc:CellsIn wr a b off n L
 bb:Below w.heap.size w wr
theorem PackK.below {w:World} {s:ByteArray} {a:Option Addr} {b off n c:Nat} {L:List Cl} {S:List Nat} {B3 A2 cap2:Nat} {wr wr':World} (h:PackK w s a b off n c L S B3 A2 cap2 wr) (hb:Below wr.heap.size wr wr'):PackK w s a b off n c L S B3 A2 cap2 wr':=
 ⟨h.p0.below hb h.p0.lt,h.p2.below hb h.p2.lt,zaf h.li hb,zaj h.hc hb,h.bb.trans (hb.mono h.bb.size)⟩
theorem PackK.set {w:World} {s:ByteArray} {a:Option Addr} {b off n c:Nat} {L:List Cl} {S:List Nat} {B3 A2 cap2:Nat} {wr:World} (h:PackK w s a b off n c L S B3 A2 cap2 wr) (hw:0<n→b<w.heap.size) {g j:Nat} {v:Value} (hg:w.heap.size+2≤g) (hgA:g≠A2):PackK w s a b off n c L S B3 A2 cap2 (wr.setCell ⟨g,j,none⟩ v):=by
 refine ⟨(Below.heap_setCell _ _ _ _ (by simp only;omega)).trans h.p0,(Below.heap_setCell _ _ _ _ (by simp only;omega)).trans h.p2,ownsRow_setCell_other h.li (fun e=>hgA (by have:=Option.some.inj e;simpa using this.symm)) _,?_,h.bb.setCell (p:=⟨g,j,none⟩) (by simp only;omega) _⟩;refine ⟨h.hc.len,h.hc.addr,fun h0=>by simpa [World.setCell] using h.hc.low h0,fun i hi=>?_⟩;have hx:=h.hc.cell i hi;have hb:∀k,(wr.setCell ⟨g,j,none⟩ v).cell? ⟨b,k,none⟩=wr.cell? ⟨b,k,none⟩:=fun k=>World.cell?_of_block (w:=wr) (Below.heap_setCell _ _ _ _ (by have:=hw (by omega);simp only;omega));exact ⟨(hb _).trans hx.c0,(hb _).trans hx.c1,(hb _).trans hx.c2,(hb _).trans hx.c3⟩
end Go.Proofs.YtjpeglkkkllagaaGreatDoor.Hp
