import Derived.Test.YtokafonppgppdaaGreatDoorHp1
set_option maxHeartbeats 4000000
set_option maxRecDepth 100000
namespace Go.Proofs.YtokafonppgppdaaGreatDoor.Hp
open Go.RowKit Go.Sort
variable {w:World} {B size n A cap p:Nat} {e:TypeId} {xs:List Value} {C:Array Value}
theorem below_drewN (w:World) (q:Nat):Bl w (w.drewN q):=⟨rfl,rfl,rfl,Qc _,fun _ _=>rfl⟩
theorem zkk {j:Nat} {u:Value} (h:w.ownsRow B e size (.slice (some ⟨A,0,none⟩) n cap) n xs):
  (w.setCell ⟨A,j,none⟩ u).ownsRow B e size (.slice (some ⟨A,0,none⟩) n cap) n (xs.set j u):=by
 obtain ⟨hl,h|⟨g,c,cur,hv,hb,hg,h1,h2,h3,h4⟩⟩:=h
 ·cases h.1
 ·simp only [Value.slice.injEq,Option.some.injEq,Addr.mk.injEq] at hv;obtain ⟨⟨rfl,_⟩,_,rfl⟩:=hv;refine ⟨by rw [List.length_set];exact hl,.inr ⟨A,cap,cur.setIfInBounds j u,rfl,hb,zab.set (w:=w) (T:=e) (C:=cur) hg j u,h1,h2,by rw [Array.size_setIfInBounds];exact h3,?_⟩⟩;rw [Array.toList_setIfInBounds,List.take_set,h4]
theorem zli (h:w.ownsRow B e size (.slice (some ⟨A,0,none⟩) n cap) n xs) (j:Nat):w.frozen? ⟨A,j,none⟩=false:=by
 obtain ⟨hl,h|⟨g,c,cur,hv,hb,hg,_⟩⟩:=h
 ·cases h.1
 ·simp only [Value.slice.injEq,Option.some.injEq,Addr.mk.injEq] at hv;obtain ⟨⟨rfl,_⟩,_⟩:=hv;exact zab.frozen (w:=w) (T:=e) (C:=cur) hg j
theorem zcm {T T':Nat} {C':Array Value} (h:zab w p T C) (h':zab w p T' C'):T=T':=by
 have:some (Obj.cells C T (0,0))=some (Obj.cells C' T' (0,0)):=h.symm.trans h';simp at this;exact this.2
theorem own_ne {T:TypeId} {v:Value} (h:w.ownsRow B e size v n xs) (hr:zab w p T C) (hT:T≠e):some p≠v.ownBlock:=by
 intro he;obtain ⟨_,h|⟨g,cap,cur,rfl,_,hg,_⟩⟩:=h
 ·rw [h.1] at he;cases he
 ·simp [Value.ownBlock] at he;subst he;exact hT (zcm hr hg)
end Go.Proofs.YtokafonppgppdaaGreatDoor.Hp
