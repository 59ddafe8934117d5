/- A reply that is drawn: its nodes behind those that are there. -/
import Derived.Test.YtcgeafdakaeicaaDoorDrB
import Derived.Test.YtcgeafdakaeicaaDoorSqE
namespace Go.Proofs.YtcgeafdakaeicaaDoor
open Go.RowKit Go.Sort
open Rp (Nd nd0 plainB numB fieldsB)

/-- What lies in memory while a reply is drawn: the nodes Q behind those that were there (P). -/
structure Dn (w : World) (rb : Nat) (ra : Option Addr) (rn rc B : Nat) (V : Value) (P : List Nv) (w1 : World) (V1 : Value) (Q : List Nv) : Prop where
  own : OwnN w1 B V1 (P ++ Q)
  small : ∀ p ∈ Q, Sm p.1
  rd : Rd w1 rb ra rn rc
  new : NewQ w Q
  fr : Fr w w1 rb V
  nw : Nw w V V1

theorem Dn.start {w : World} {rb : Nat} {ra : Option Addr} {rn rc B : Nat} {V : Value} {P : List Nv} (h : OwnN w B V P) (r : Rd w rb ra rn rc) : Dn w rb ra rn rc B V P w V [] :=
  ⟨by rw [List.append_nil]; exact h, (fun p hp => absurd hp (by simp)), r, (fun p hp => absurd hp (by simp)), Fr.refl _ _ _, Nw.refl _ _⟩

theorem Dn.grown {w w1 w2 : World} {rb : Nat} {ra : Option Addr} {rn rc B : Nat} {V V1 : Value} {P Q : List Nv} (h : Dn w rb ra rn rc B V P w1 V1 Q) (r : Rd w2 rb ra rn rc) (g : w1.grownBy w2 (some rb)) : Dn w rb ra rn rc B V P w2 V1 Q := by
  obtain ⟨p, _, hr⟩ := h.rd.row
  exact ⟨h.own.grown hr (by decide) (by decide) g, h.small, r, h.new, h.fr.trans (Fr.of_grown V1 g) h.nw, h.nw⟩

theorem Dn.alloc {w w1 : World} {rb : Nat} {ra : Option Addr} {rn rc B : Nat} {V V1 : Value} {P Q : List Nv} (h : Dn w rb ra rn rc B V P w1 V1 Q) (o : Obj) : Dn w rb ra rn rc B V P (w1.alloc o) V1 Q := by
  obtain ⟨p, _, hr⟩ := h.rd.row
  have hb : Below w1.heap.size w1 (w1.alloc o) := (Below.refl _ w1).alloc (Nat.le_refl _) _
  exact ⟨h.own.below hb (Nat.le_refl _), h.small, h.rd.below hb hr.lt, h.new, h.fr.trans (Fr.of_below rb V1 hb) h.nw, h.nw⟩

theorem Dn.lt {w w1 : World} {rb : Nat} {ra : Option Addr} {rn rc B : Nat} {V V1 : Value} {P Q : List Nv} (h : Dn w rb ra rn rc B V P w1 V1 Q) : rb < w1.heap.size := by
  obtain ⟨p, _, hr⟩ := h.rd.row
  exact hr.lt

/-- One node more. -/
theorem Dn.put {w w1 w5 : World} {rb : Nat} {ra : Option Addr} {rn rc B : Nat} {V V1 v' K : Value} {P Q : List Nv} {x : Nd} {o : Obj} (h : Dn w rb ra rn rc B V P w1 V1 Q) (hB : rb < B) (hBw : B ≤ w.heap.size) (hx : Sm x) (hk : w1.ownsRow B 2 1 K x.kids.length (intVals x.kids)) (ha : Apart K (P ++ Q)) (hkn : ∀ k, K.ownBlock = some k → w.heap.size ≤ k)
    (ho : w5.ownsRow B 44 4 v' ((P ++ Q).length + 1) (flatN (P ++ Q) ++ [.int .i64 x.kind, .int .i64 x.num, .string x.s, K])) (hg : (w1.alloc o).grownBy w5 V1.ownBlock) (hb : v'.ownBlock = V1.ownBlock ∨ v'.ownBlock = some (w1.heap.size + 1)) : Dn w rb ra rn rc B V P w5 v' (Q ++ [(x, K)]) := by
  have hs : (w1.alloc o).heap.size = w1.heap.size + 1 := by simp
  have bA : Below w1.heap.size w1 (w1.alloc o) := (Below.refl _ w1).alloc (Nat.le_refl _) _
  have hsz := h.fr.size
  have hg5 := hg.size
  have hlt := h.lt
  have oA := h.own.below bA (Nat.le_refl _)
  have kA : (w1.alloc o).ownsRow B 2 1 K x.kids.length (intVals x.kids) := owns_block hk fun g hg' => bA.block g (own_lt hk hg').2
  have b5 : Below B w1 w5 := ⟨hg.os, hg.tape, hg.output, by omega, fun k hk' => (hg.block k (by omega) (fun e => by have := (own_lt h.own.row e.symm).1; omega)).trans (bA.block k (by omega))⟩
  refine ⟨?_, ?_, h.rd.below b5 hB, ?_, h.fr.trans ((Fr.of_below rb V1 bA).trans (Fr.of_own rb hg) (Nw.refl _ _)) h.nw, h.nw.trans ?_ hsz⟩
  · rw [← List.append_assoc]
    exact oA.snoc kA ha ho hg
  · intro p hp
    rcases List.mem_append.1 hp with hp | hp
    · exact h.small p hp
    · simp at hp; subst hp; exact hx
  · intro p hp k hk'
    rcases List.mem_append.1 hp with hp | hp
    · exact h.new p hp k hk'
    · simp at hp; subst hp; exact hkn k hk'
  · intro k hk'
    rcases hb with e | e
    · rw [e] at hk'; exact .inl hk'
    · rw [e] at hk'
      injection hk' with hk'
      exact .inr (by omega)

/-- The same while an array's kids are drawn. -/
structure Dk (w : World) (rb : Nat) (ra : Option Addr) (rn rc B : Nat) (V : Value) (P : List Nv) (w1 : World) (V1 : Value) (Q : List Nv) (K : Value) (ks : List Int) : Prop where
  dn : Dn w rb ra rn rc B V P w1 V1 Q
  kown : w1.ownsRow B 2 1 K ks.length (intVals ks)
  apart : Apart K (P ++ Q)
  knew : ∀ k, K.ownBlock = some k → w.heap.size ≤ k

def DrawnEnd (w : World) (rb : Nat) (ra : Option Addr) (rn rc B : Nat) (V : Value) (P : List Nv) (m : Nat) (e : Ending) (w' : World) : Prop :=
  ∃ V' Q, e = .returned V' ∧ Dn w rb ra rn rc B V P w' V' Q ∧ 1 ≤ Q.length ∧ Q.length ≤ m

theorem Dk.sub {w w1 w2 : World} {rb : Nat} {ra : Option Addr} {rn rc B : Nat} {V V1 V2 K : Value} {P Q Q2 : List Nv} {ks : List Int} (h : Dk w rb ra rn rc B V P w1 V1 Q K ks) (d : Dn w1 rb ra rn rc B V1 (P ++ Q) w2 V2 Q2) : Dk w rb ra rn rc B V P w2 V2 (Q ++ Q2) K ks := by
  obtain ⟨p, _, hr⟩ := h.dn.rd.row
  have hsz := h.dn.fr.size
  refine ⟨⟨?_, ?_, d.rd, ?_, h.dn.fr.trans d.fr h.dn.nw, h.dn.nw.trans d.nw hsz⟩, kid_fr d.fr hr (by decide) h.dn.own h.kown, ?_, h.knew⟩
  · rw [← List.append_assoc]; exact d.own
  · intro p hp
    rcases List.mem_append.1 hp with hp | hp
    · exact h.dn.small p hp
    · exact d.small p hp
  · intro p hp k hk
    rcases List.mem_append.1 hp with hp | hp
    · exact h.dn.new p hp k hk
    · have := d.new p hp k hk
      omega
  · intro p hp k hk e
    rw [← List.append_assoc] at hp
    rcases List.mem_append.1 hp with hp | hp
    · exact h.apart p hp k hk e
    · have := d.new p hp k hk
      have := (own_lt h.kown e).2
      omega

theorem Dk.push {w w2 w5 : World} {rb : Nat} {ra : Option Addr} {rn rc B : Nat} {V V2 K K' : Value} {P Q : List Nv} {ks : List Int} {z : Int} {o : Obj} (h : Dk w rb ra rn rc B V P w2 V2 Q K ks) (hB : rb < B)
    (ho : w5.ownsRow B 2 1 K' (ks.length + 1) (intVals ks ++ [.int .i64 z])) (hg : (w2.alloc o).grownBy w5 K.ownBlock) (hb : K'.ownBlock = K.ownBlock ∨ K'.ownBlock = some (w2.heap.size + 1)) : Dk w rb ra rn rc B V P w5 V2 Q K' (ks ++ [z]) := by
  have hs : (w2.alloc o).heap.size = w2.heap.size + 1 := by simp
  have keep : ∀ k, k < w2.heap.size → K.ownBlock ≠ some k → w5.heap[k]? = w2.heap[k]? := fun k hk hne => (hg.block k (by omega) (fun e => hne e.symm)).trans (Below.heap_alloc _ _ _ hk)
  have hsz := h.dn.fr.size
  have hg5 := hg.size
  have hlt := h.dn.lt
  have b5 : Below (rb + 1) w2 w5 := ⟨hg.os, hg.tape, hg.output, by omega, fun k hk' => keep k (by omega) (fun e => by have := (own_lt h.kown e).1; omega)⟩
  refine ⟨⟨?_, h.dn.small, h.dn.rd.below b5 (by omega), h.dn.new, ?_, h.dn.nw⟩, ?_, ?_, ?_⟩
  · exact h.dn.own.of_block (fun g hg' => keep g (own_lt h.dn.own.row hg').2 (own_other h.dn.own.row h.kown (by decide) hg')) (fun p hp g hg' => keep g (own_lt (h.dn.own.kids p hp) hg').2 (h.apart p hp g hg'))
  · exact ⟨hg.os.trans h.dn.fr.os, hg.tape.trans h.dn.fr.tape, hg.output.trans h.dn.fr.output, by omega, fun k hk hr hv => (keep k (by omega) (fun e => by have := h.knew k e; omega)).trans (h.dn.fr.block k hk hr hv)⟩
  · rw [List.length_append, intVals, List.map_append]; exact ho
  · intro p hp k hk e
    rcases hb with hb | hb
    · rw [hb] at e; exact h.apart p hp k hk e
    · rw [hb] at e
      injection e with e
      have := (own_lt (h.dn.own.kids p hp) hk).2
      omega
  · intro k hk
    rcases hb with hb | hb
    · rw [hb] at hk; exact h.knew k hk
    · rw [hb] at hk
      injection hk with hk
      omega

theorem cell_four (w : World) (x : Nd) (K : Value) : ∀ j u, [Value.int .i64 x.kind, .int .i64 x.num, .string x.s, K][j]? = some u → (w.alloc (.cells (nodeC x K) 44)).cell? ((⟨w.heap.size, 0, none⟩ : Addr).add j) = some u := fun j u hj => by
  rw [Addr.add_lit, Nat.zero_add]
  exact ((RowAt.new w 44 (nodeC x K)).cell j).trans (by simpa using hj)

theorem kids_nil (w : World) (B : Nat) : w.ownsRow B 2 1 (.slice none 0 0) ([] : List Int).length (intVals []) := World.ownsRow_nil _ _ _ _

def ReplyD (m : Nat) (deep : Int) : Prop := ∀ (rb : Nat) (ra : Option Addr) (rn rc B : Nat) (V : Value) (P : List Nv) (w : World), Rd w rb ra rn rc → rb < B → B ≤ w.heap.size → OwnN w B V P → (P.length : Int) + 100 * deep ≤ 1000 →
  Calls Tryd.prog 38 #[.pointer (some ⟨rb, 0, none⟩), .int .i64 deep, V] w (DrawnEnd w rb ra rn rc B V P m)

theorem small_leaf (k n : Int) (s : ByteArray) (h : s.size ≤ 20) : Sm ⟨k, n, s, []⟩ := ⟨Nat.le_trans h (by decide), by simp⟩

end Go.Proofs.YtcgeafdakaeicaaDoor
