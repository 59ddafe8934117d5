/- The heap that an arena is. -/
import Derived.Test.YtjjpplpdpldkeaaHOwnW
import Derived.Test.YtjjpplpdpldkeaaHOpenC
namespace Go.Proofs.Ytjjpplpdpldkeaa
open Go.RowKit Go.Sort

def dataOf (d : Nat → UInt8) (n : Nat) : ByteArray := ⟨((List.range n).map d).toArray⟩

theorem info62x : (Try.prog.info? 35).map (fun i => (i.zero, i.size, i.bytes)) = some (some (.agg #[.int .i64 0, .int .i64 0, .int .i64 0, .bool false]), 4, 32) := by kernel_rfl

theorem form_any {w : World} {B e size n : Nat} {v : Value} {xs : List Value} (h : w.ownsRow B e size v n xs) : ∃ a A cap, v = .slice a n cap ∧ (0 < n → a = some ⟨A, 0, none⟩) := by
  rcases Go.Joins.ownsRow_forms h with ⟨rfl, rfl⟩ | ⟨A, cap, rfl⟩
  · exact ⟨none, 0, 0, rfl, fun h => by omega⟩
  · exact ⟨some ⟨A, 0, none⟩, A, cap, rfl, fun _ => rfl⟩

set_option maxHeartbeats 4000000 in
set_option maxRecDepth 100000 in
theorem heap_any (g n : Nat) (d : Nat → UInt8) (t : Nat → Bool) (L : List Cl) (cs : Value) (ps : List Nat) (w : World) (ha : Arena w g d t n cs) (ho : w.ownsRow (g + 1) 59 1 cs L.length (ps.map ptrV)) (hpl : ps.length = L.length)
    (hpc : ∀ i, i < L.length → RowAt w (ps.getD i 0) 35 (clV (L.getD i cl0))) (hL : L.length ≤ 40) (hn : n ≤ 3000) :
    Calls Try.prog 28 #[.pointer (some ⟨g, 0, none⟩)] w fun e w' => ∃ v, e = .returned (.agg #[.string (dataOf d n), v]) ∧ w'.ownsRow w.heap.size 35 4 v L.length (flatC L) ∧ Below w.heap.size w w' := by
  obtain ⟨i0, hi, hz0, hz1, hz2⟩ := info_parts info62x
  have hb : Below w.heap.size w (w.alloc (.cells #[.string ⟨#[]⟩, .slice none 0 0] 26)) := (Below.refl _ w).alloc (Nat.le_refl _) _
  have hn1 := RowAt.new w 26 #[.string ⟨#[]⟩, .slice none 0 0]
  have hs1 : (w.alloc (.cells #[.string ⟨#[]⟩, .slice none 0 0] 26)).heap.size = w.heap.size + 1 := by simp
  have ha1 := ha.below hb ha.lt
  have ho1 := owns_below ho hb
  have HP : Hid (∀ i, i < L.length → RowAt (w.alloc (.cells #[.string ⟨#[]⟩, .slice none 0 0] 26)) (ps.getD i 0) 35 (clV (L.getD i cl0))) := fun i hi => (hpc i hi).below hb (hpc i hi).lt
  obtain ⟨a, A, cap, rfl, hA⟩ := form_any ho
  have HA : Hid (∀ k, k < L.length → (w.alloc (.cells #[.string ⟨#[]⟩, .slice none 0 0] 26)).cell? ⟨A, k, none⟩ = some (.pointer (some ⟨ps.getD k 0, 0, none⟩)) ∧ A < (w.alloc (.cells #[.string ⟨#[]⟩, .slice none 0 0] 26)).heap.size) := fun k hk => by
    obtain rfl := hA (by omega)
    have := ho1.cells rfl k (ptrV (ps.getD k 0)) (by rw [List.getElem?_map, List.getD_eq_getElem?_getD, List.getElem?_eq_getElem (by omega)]; rfl)
    rw [Addr.add_lit, Nat.zero_add] at this
    exact ⟨this, (ho1.lt A rfl).2⟩
  have cc := ha1.cells
  have HA1 : Hid (Arena (w.alloc (.cells #[.string ⟨#[]⟩, .slice none 0 0] 26)) g d t n (.slice a L.length cap)) := ha1
  have hglt := ha1.lt
  clear ha ha1 ho ho1 hpc
  go_enter Try.func28, Try.ntmps28
  go_wp2
  generalize w.alloc (.cells #[.string ⟨#[]⟩, .slice none 0 0] 26) = w1 at *
  have HS1 : Hid (w1.heap.size = w.heap.size + 1) := hs1
  clear hs1
  go_loopw [3, 5, 11] (fun v _ i wr => ∃ k : Nat, k ≤ L.length ∧ i = .int .i64 k ∧ wr.ownsRow w1.heap.size 35 4 v k (flatC (L.take k)) ∧ Below w1.heap.size w1 wr) (fun _ _ i _ => L.length - (intOf i).toNat)
  case atStart => exact ⟨0, by omega, rfl, World.ownsRow_nil _ _ _ _, Below.refl _ _⟩
  case round =>
    obtain ⟨k, hk, rfl, hown, bk⟩ := hrel
    by_cases hlt : k < L.length
    · obtain rfl := hA (by omega)
      have hcp := HA.out k hlt
      have cp := (bk.cell (p := ⟨A, k, none⟩) hcp.2).trans hcp.1
      have hx := (HP.out k hlt).below bk (HP.out k hlt).lt
      have HT : Hid (L.take (k + 1) = L.take k ++ [L.getD k cl0]) := take_next hlt
      have c0 : wr.cell? ⟨ps.getD k 0, 0, none⟩ = some (.int .i64 (L.getD k cl0).pos) := hx.cell 0
      have c1 : wr.cell? ⟨ps.getD k 0, 1, none⟩ = some (.int .i64 (L.getD k cl0).len) := hx.cell 1
      have c2 : wr.cell? ⟨ps.getD k 0, 2, none⟩ = some (.int .i64 (L.getD k cl0).gen) := hx.cell 2
      have c3 : wr.cell? ⟨ps.getD k 0, 3, none⟩ = some (.bool (L.getD k cl0).live) := hx.cell 3
      generalize L.getD k cl0 = x at *
      generalize ps.getD k 0 = p at *
      have hbk := bk.size
      clear hx hcp cc
      go_wp2_with (at_builtin; refine wpList_append_own _ rfl _ _ 24 rfl w1.heap.size 35 i0 _ 4 32 Try.underlying24 hi hz0 hz1 hz2 rfl (by decide) _ _ _ rfl (hown.alloc _) ⟨wr.heap.size, 0, none⟩ 1 1 [.int .i64 x.pos, .int .i64 x.len, .int .i64 x.gen, .bool x.live] rfl rfl ?c1 ?c2 ?c3 ?c4 ?c5 ?_)
      case c2 => exact ⟨rfl, rfl, rfl, rfl⟩
      case c3 => unfold maxLen; omega
      case c4 => omega
      case c5 => omega
      intro v0' w5 hown' hgrow _
      have b5 : Below w1.heap.size w1 w5 := below_grown (bk.alloc (by omega) _) hgrow (fun x hx => (hown.lt x hx).1) (by simp; omega)
      have HO : Hid (w5.ownsRow w1.heap.size 35 4 v0' (k + 1) (flatC (L.take (k + 1)))) := by
        unfold Hid
        rw [HT.out, flatC_app]
        exact hown'
      have HB : Hid (Below w1.heap.size w1 w5) := b5
      clear hown' hgrow b5 hown
      go_wp2
      go_roundw
      case rel => exact ⟨k + 1, by omega, by go_num, HO.out, HB.out⟩
      case measure => simp [intOf]; omega
    · obtain rfl : k = L.length := by omega
      rw [List.take_length] at hown
      clear cc
      have ha4 := HA1.out.below bk hglt
      have hs1 := HS1.out
      have hn4 := hn1.below bk (by omega)
      obtain ⟨C, hr4, hsz, hd, ht, hs, hc⟩ := ha4.row
      have s6 := (hr4.cell 6000).trans hs
      have d0 := hn4.cell 0
      have d1 := hn4.cell 1
      simp at d0 d1
      have f0 := hn4.frozen 0
      have f1 := hn4.frozen 1
      have hcv : (convert 22 9 (.slice (some ⟨g, 0, none⟩) n 3000)).run Try.prog wr.drew = .ok (.string (dataOf d n)) wr.drew := by
        have := run_convert_bytes_back (P := Try.prog) wr.drew 22 9 5 ⟨g, 0, none⟩ 3000 ((List.range n).map d) Try.underlying22 Try.underlying5 Try.underlying9 ?_
        · simpa [dataOf] using this
        · intro j hj
          have hj' : j < n := by simpa using hj
          rw [show wr.drew.cell? _ = wr.cell? _ from rfl]
          have := (hr4.cell j).trans (hd j (by omega))
          rw [Addr.add_lit, Nat.zero_add]
          simpa using this
      have hni : (n : Int) ≤ 3000 := by omega
      obtain ⟨a', A', cap', rfl, hA'⟩ := form_any hown
      have hbw : Below w.heap.size w wr := hb.trans (bk.mono (by omega))
      have hb2 : Below w.heap.size w ((wr.setCell ⟨w.heap.size, 0, none⟩ (.string (dataOf d n))).setCell ⟨w.heap.size, 1, none⟩ (.slice a' L.length cap')) :=
        (hbw.setCell (p := ⟨w.heap.size, 0, none⟩) (Nat.le_refl _) _).setCell (p := ⟨w.heap.size, 1, none⟩) (Nat.le_refl _) _
      have hr2 : RowAt ((wr.setCell ⟨w.heap.size, 0, none⟩ (.string (dataOf d n))).setCell ⟨w.heap.size, 1, none⟩ (.slice a' L.length cap')) w.heap.size 26 #[.string (dataOf d n), .slice a' L.length cap'] := by
        have := (hn4.set 0 (.string (dataOf d n))).set 1 (.slice a' L.length cap')
        simpa using this
      have e0 := hr2.cell 0
      have e1 := hr2.cell 1
      simp at e0 e1
      have HO : Hid (((wr.setCell ⟨w.heap.size, 0, none⟩ (.string (dataOf d n))).setCell ⟨w.heap.size, 1, none⟩ (.slice a' L.length cap')).ownsRow w.heap.size 35 4 (.slice a' L.length cap') L.length (flatC L)) :=
        Go.Joins.ownsRow_le (ownsRow_setCell_below (ownsRow_setCell_below hown (by simp; omega) _) (by simp; omega) _) (by omega)
      have HB2 : Hid (Below w.heap.size w ((wr.setCell ⟨w.heap.size, 0, none⟩ (.string (dataOf d n))).setCell ⟨w.heap.size, 1, none⟩ (.slice a' L.length cap'))) := hb2
      clear hown hr4 hd ht hs hc ha4 hn4 hr2 hb2 hbw bk hs1
      go_wp2
      go_region
      go_wp2
      refine bodyPost_ret (v := .agg #[.string (dataOf d n), .slice a' L.length cap']) (by simp [results, Try.results28, go_sem, e0, e1]) rfl ⟨_, rfl, HO.out, HB2.out.drew⟩
end Go.Proofs.Ytjjpplpdpldkeaa
