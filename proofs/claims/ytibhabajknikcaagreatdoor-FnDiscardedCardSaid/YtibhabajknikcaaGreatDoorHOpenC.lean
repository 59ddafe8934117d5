import Derived.Test.YtibhabajknikcaaGreatDoorHp1
set_option maxHeartbeats 4000000
set_option maxRecDepth 100000
namespace Go.Proofs.YtibhabajknikcaaGreatDoor.Hp
open Go.RowKit Go.Sort
theorem below_drewN (w:World) (q:Nat):Below w.heap.size w (w.drewN q):=⟨rfl,rfl,rfl,Nat.le_refl _,fun _ _=>rfl⟩
theorem owns_set {w:World} {B:Nat} {e:TypeId} {size n A cap j:Nat} {xs:List Value} {u:Value} (h:w.ownsRow B e size (.slice (some ⟨A,0,none⟩) n cap) n xs):
  (w.setCell ⟨A,j,none⟩ u).ownsRow B e size (.slice (some ⟨A,0,none⟩) n cap) n (xs.set j u):=by
 obtain ⟨hl,h|⟨g,c,cur,hv,hb,hg,h1,h2,h3,h4⟩⟩:=h
 ·cases h.1
 ·simp only [Value.slice.injEq,Option.some.injEq,Addr.mk.injEq] at hv;obtain ⟨⟨rfl,_⟩,_,rfl⟩:=hv;refine ⟨by rw [List.length_set];exact hl,.inr ⟨A,cap,cur.setIfInBounds j u,rfl,hb,RowAt.set (w:=w) (T:=e) (C:=cur) hg j u,h1,h2,by rw [Array.size_setIfInBounds];exact h3,?_⟩⟩;rw [Array.toList_setIfInBounds,List.take_set,h4]
theorem owns_frozen {w:World} {B:Nat} {e:TypeId} {size n A cap:Nat} {xs:List Value} (h:w.ownsRow B e size (.slice (some ⟨A,0,none⟩) n cap) n xs) (j:Nat):w.frozen? ⟨A,j,none⟩=false:=by
 obtain ⟨hl,h|⟨g,c,cur,hv,hb,hg,_⟩⟩:=h
 ·cases h.1
 ·simp only [Value.slice.injEq,Option.some.injEq,Addr.mk.injEq] at hv;obtain ⟨⟨rfl,_⟩,_⟩:=hv;exact RowAt.frozen (w:=w) (T:=e) (C:=cur) hg j
theorem row_type {w:World} {p T T':Nat} {C C':Array Value} (h:RowAt w p T C) (h':RowAt w p T' C'):T=T':=by
 have:some (Obj.cells C T (0,0))=some (Obj.cells C' T' (0,0)):=h.symm.trans h';simp at this;exact this.2
theorem own_ne {w:World} {B:Nat} {e T:TypeId} {size n p:Nat} {v:Value} {xs:List Value} {C:Array Value} (h:w.ownsRow B e size v n xs) (hr:RowAt w p T C) (hT:T≠e):some p≠v.ownBlock:=by
 intro he;obtain ⟨_,h|⟨g,cap,cur,rfl,_,hg,_⟩⟩:=h
 ·rw [h.1] at he;cases he
 ·simp [Value.ownBlock] at he;subst he;exact hT (row_type hr hg)
end Go.Proofs.YtibhabajknikcaaGreatDoor.Hp
