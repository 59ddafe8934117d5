/- A statement that calls and keeps a heap, in whatever order Go makes its parts. -/
import Derived.Test.YtjjpplpdpldkeaaHDropM
import Derived.Test.YtjjpplpdpldkeaaHHeld
import Derived.Test.YtjjpplpdpldkeaaHInv
namespace Go.Proofs.Ytjjpplpdpldkeaa
open Go.RowKit Go.Sort

theorem wp_region_inv_at {P : Program} {ops : Array Oper} {Q : Exit → Act → World → Prop} (I : Act → Array Bool → Act → World → Prop) {id : Nat} {a : Act} {w : World} (hm : P.follows .mixedOrders = true) (h0 : I a (Array.replicate ops.size false) a w.drew)
    (hstep : ∀ l a' w' i, I a l a' w' → i ∈ Region.ready .any ops l → wpOp P ops Q i (fun a'' w'' => I a (l.setIfInBounds i true) a'' w'') a' w')
    (hb : (List.range ops.size).all (fun i => ((ops[i]?).map (·.after.all fun e => !Region.binds .any e || decide (e.on < i))).getD false) = true)
    (hdone : ∀ l a' w', I a l a' w' → (∀ i, i < ops.size → l.getD i true = true) → Q .normal a' w') : (Code.region id ops true).wp P Q a w :=
  wp_region_inv (I a) hm h0 hstep hb hdone

theorem below_next {w0 w1 w2 : World} (h : Below w0.heap.size w0 w1) (h' : Below w1.heap.size w1 w2) : Below w0.heap.size w0 w2 := h.trans (h'.mono h.size)

/-- What a slot holds: the value, when its operation has come up; else what it held. -/
def sd (l : Array Bool) (j : Nat) (v d : Value) : Value := if l.getD j false = true then v else d

theorem sd_on {l : Array Bool} {j : Nat} {v d : Value} (h : l.getD j false = true) : sd l j v d = v := if_pos h
theorem sd_off {l : Array Bool} {j : Nat} {v d : Value} (h : l.getD j false = false) : sd l j v d = d := if_neg (by rw [h]; simp)

theorem sd_ne {l : Array Bool} {i j : Nat} {v d : Value} (h : i ≠ j) : sd (l.setIfInBounds i true) j v d = sd l j v d := by
  unfold sd
  rw [getD_set_ne h]

theorem sd_self {l : Array Bool} {i : Nat} {v d : Value} (h : i < l.size) : sd (l.setIfInBounds i true) i v d = v := sd_on (getD_set_self h)

theorem sd_rep {n j : Nat} {v d : Value} : sd (Array.replicate n false) j v d = d := by
  apply sd_off
  rw [Array.getD_eq_getD_getElem?, Array.getElem?_replicate]
  split <;> rfl

/-- What holds of the world, by what has come up: the copied heap (i), the answer (j), the place for it (p), the answer kept (t). -/
structure CallF (w2 : World) (n : Nat) (L M : List Cl) (DD : ByteArray) (i j p t : Nat) (l : Array Bool) (g1 Z : Nat) (a1 : Option Addr) (cap1 : Nat) (W : World) : Prop where
  below : Below w2.heap.size w2 W
  c : l.getD i false = true → W.ownsRow w2.heap.size 35 4 (.slice (some ⟨g1, 0, none⟩) n n) n (flatC L)
  r : l.getD j false = true → W.ownsRow w2.heap.size 35 4 (.slice a1 M.length cap1) M.length (flatC M)
  z : l.getD p false = true → l.getD t false = false → RowAt W Z 26 #[.string ⟨#[]⟩, .slice none 0 0] ∧ w2.heap.size ≤ Z
  st : l.getD t false = true → RowAt W Z 26 #[.string DD, .slice a1 M.length cap1] ∧ w2.heap.size ≤ Z
  oj : l.getD t false = true → l.getD j false = true
  op : l.getD t false = true → l.getD p false = true
  o1 : l.getD (j + 1) false = true → l.getD j false = true
  o2 : l.getD (j + 2) false = true → l.getD j false = true

section
variable {w2 : World} {n : Nat} {L M : List Cl} {DD : ByteArray} {i j p t : Nat} {l : Array Bool} {g1 Z : Nat} {a1 : Option Addr} {cap1 : Nat} {W : World}

theorem CallF.plain (h : CallF w2 n L M DD i j p t l g1 Z a1 cap1 W) (k : Nat) (h1 : k ≠ i) (h2 : k ≠ j) (h3 : k ≠ p) (h4 : k ≠ t) (h5 : k ≠ j + 1) (h6 : k ≠ j + 2) : CallF w2 n L M DD i j p t (l.setIfInBounds k true) g1 Z a1 cap1 W := by
  refine ⟨h.below, ?_, ?_, ?_, ?_, ?_, ?_, ?_, ?_⟩
  all_goals simp only [getD_set_ne h1, getD_set_ne h2, getD_set_ne h3, getD_set_ne h4, getD_set_ne h5, getD_set_ne h6]
  · exact h.c
  · exact h.r
  · exact h.z
  · exact h.st
  · exact h.oj
  · exact h.op
  · exact h.o1
  · exact h.o2

theorem CallF.moved (h : CallF w2 n L M DD i j p t l g1 Z a1 cap1 W) (k : Nat) (dj : l.getD j false = true) (h1 : k ≠ i) (h2 : k ≠ j) (h3 : k ≠ p) (h4 : k ≠ t) : CallF w2 n L M DD i j p t (l.setIfInBounds k true) g1 Z a1 cap1 W := by
  refine ⟨h.below, ?_, ?_, ?_, ?_, ?_, ?_, ?_, ?_⟩
  all_goals simp only [getD_set_ne h1, getD_set_ne h2, getD_set_ne h3, getD_set_ne h4]
  · exact h.c
  · exact h.r
  · exact h.z
  · exact h.st
  · exact h.oj
  · exact h.op
  · exact fun _ => dj
  · exact fun _ => dj

theorem CallF.more (h : CallF w2 n L M DD i j p t l g1 Z a1 cap1 W) {W' : World} (hb : Below W.heap.size W W') : CallF w2 n L M DD i j p t l g1 Z a1 cap1 W' :=
  ⟨below_next h.below hb, fun x => owns_below (h.c x) hb, fun x => owns_below (h.r x) hb, fun x y => ⟨(h.z x y).1.below hb (h.z x y).1.lt, (h.z x y).2⟩, fun x => ⟨(h.st x).1.below hb (h.st x).1.lt, (h.st x).2⟩, h.oj, h.op, h.o1, h.o2⟩

theorem CallF.copied (h0 : CallF w2 n L M DD i j p t l g1 Z a1 cap1 W) {W' : World} {g' : Nat} (hb : Below W.heap.size W W') (ho : W'.ownsRow W.heap.size 35 4 (.slice (some ⟨g', 0, none⟩) n n) n (flatC L)) (h2 : i ≠ j) (h3 : i ≠ p) (h4 : i ≠ t) (h5 : i ≠ j + 1) (h6 : i ≠ j + 2) :
    CallF w2 n L M DD i j p t (l.setIfInBounds i true) g' Z a1 cap1 W' := by
  have h := h0.more hb
  refine ⟨h.below, fun _ => Go.Joins.ownsRow_le ho h0.below.size, ?_, ?_, ?_, ?_, ?_, ?_, ?_⟩
  all_goals simp only [getD_set_ne h2, getD_set_ne h3, getD_set_ne h4, getD_set_ne h5, getD_set_ne h6]
  · exact h.r
  · exact h.z
  · exact h.st
  · exact h.oj
  · exact h.op
  · exact h.o1
  · exact h.o2

theorem CallF.told (h0 : CallF w2 n L M DD i j p t l g1 Z a1 cap1 W) {W' : World} {a' : Option Addr} {cap' : Nat} (hb : Below W.heap.size W W') (ho : W'.ownsRow W.heap.size 35 4 (.slice a' M.length cap') M.length (flatC M)) (hj : l.getD j false = false) (hl : j < l.size) (h1 : j ≠ i) (h3 : j ≠ p) (h4 : j ≠ t) :
    CallF w2 n L M DD i j p t (l.setIfInBounds j true) g1 Z a' cap' W' := by
  have h := h0.more hb
  have ht : l.getD t false = false := by
    cases hx : l.getD t false with
    | false => rfl
    | true => rw [h.oj hx] at hj; cases hj
  refine ⟨h.below, ?_, fun _ => Go.Joins.ownsRow_le ho h0.below.size, ?_, ?_, ?_, ?_, fun _ => getD_set_self hl, fun _ => getD_set_self hl⟩
  all_goals simp only [getD_set_ne h1, getD_set_ne h3, getD_set_ne h4, ht]
  · exact h.c
  · exact fun hx _ => h.z hx ht
  · intro hx; cases hx
  · intro hx; cases hx
  · intro hx; cases hx

theorem CallF.off1 (h : CallF w2 n L M DD i j p t l g1 Z a1 cap1 W) (hj : l.getD j false = false) : l.getD (j + 1) false = false := by
  cases hx : l.getD (j + 1) false with
  | false => rfl
  | true => rw [h.o1 hx] at hj; cases hj

theorem CallF.off2 (h : CallF w2 n L M DD i j p t l g1 Z a1 cap1 W) (hj : l.getD j false = false) : l.getD (j + 2) false = false := by
  cases hx : l.getD (j + 2) false with
  | false => rfl
  | true => rw [h.o2 hx] at hj; cases hj

theorem CallF.room (h0 : CallF w2 n L M DD i j p t l g1 Z a1 cap1 W) (hp : l.getD p false = false) (h1 : p ≠ i) (h2 : p ≠ j) (h4 : p ≠ t) (h5 : p ≠ j + 1) (h6 : p ≠ j + 2) :
    CallF w2 n L M DD i j p t (l.setIfInBounds p true) g1 W.heap.size a1 cap1 (W.alloc (.cells #[.string ⟨#[]⟩, .slice none 0 0] 26)) := by
  have h := h0.more ((Below.refl _ W).alloc (Nat.le_refl _) (.cells #[.string ⟨#[]⟩, .slice none 0 0] 26))
  have ht : l.getD t false = false := by
    cases hx : l.getD t false with
    | false => rfl
    | true => rw [h.op hx] at hp; cases hp
  refine ⟨h.below, ?_, ?_, fun _ _ => ⟨RowAt.new _ _ _, h0.below.size⟩, ?_, ?_, ?_, ?_, ?_⟩
  all_goals simp only [getD_set_ne h1, getD_set_ne h2, getD_set_ne h4, getD_set_ne h5, getD_set_ne h6, ht]
  · exact h.c
  · exact h.r
  · intro hx; cases hx
  · intro hx; cases hx
  · intro hx; cases hx
  · exact h.o1
  · exact h.o2

theorem CallF.stored (h : CallF w2 n L M DD i j p t l g1 Z a1 cap1 W) (dj : l.getD j false = true) (dp : l.getD p false = true) (ht : l.getD t false = false) (hl : t < l.size) (h1 : t ≠ i) (h2 : t ≠ j) (h3 : t ≠ p) :
    CallF w2 n L M DD i j p t (l.setIfInBounds t true) g1 Z a1 cap1 ((W.setCell ⟨Z, 0, none⟩ (.string DD)).setCell ⟨Z, 1, none⟩ (.slice a1 M.length cap1)) := by
  obtain ⟨hz, hZ⟩ := h.z dp ht
  have set2 : ∀ {v : Value} {m : Nat} {xs : List Value}, W.ownsRow w2.heap.size 35 4 v m xs → ((W.setCell ⟨Z, 0, none⟩ (.string DD)).setCell ⟨Z, 1, none⟩ (.slice a1 M.length cap1)).ownsRow w2.heap.size 35 4 v m xs := fun {v m xs} ho => by
    have hne := own_ne ho hz (by decide)
    exact ownsRow_setCell_other (ownsRow_setCell_other ho (a := ⟨Z, 0, none⟩) (fun e => hne e.symm) (.string DD)) (a := ⟨Z, 1, none⟩) (fun e => hne e.symm) (.slice a1 M.length cap1)
  refine ⟨(h.below.setCell (p := ⟨Z, 0, none⟩) hZ _).setCell (p := ⟨Z, 1, none⟩) hZ _, ?_, fun _ => set2 (h.r dj), ?_, fun _ => ⟨row_ret hz rfl, hZ⟩, ?_, ?_, ?_, ?_⟩
  all_goals simp only [getD_set_ne h1, getD_set_ne h2, getD_set_ne h3, getD_set_self hl]
  · exact fun x => set2 (h.c x)
  · intro _ hx; cases hx
  · exact fun _ => dj
  · exact fun _ => dp
  · exact fun _ => dj
  · exact fun _ => dj
end
end Go.Proofs.Ytjjpplpdpldkeaa
