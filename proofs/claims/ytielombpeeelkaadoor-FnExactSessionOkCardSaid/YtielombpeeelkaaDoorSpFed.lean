/- spec.Fed at this dump. -/
import Derived.Test.YtielombpeeelkaaDoorOwn2
namespace Go.Proofs.YtielombpeeelkaaDoor
open Go.RowKit Go.Sort

def rowsOf (L : List (List (List UInt8))) : List (List Value) := L.map strVals

theorem rowsOf_len (L : List (List (List UInt8))) : (rowsOf L).length = L.length := by unfold rowsOf; rw [List.length_map]
theorem rowsOf_snoc (L : List (List (List UInt8))) (ts : List (List UInt8)) : rowsOf (L ++ [ts]) = rowsOf L ++ [strVals ts] := by unfold rowsOf; rw [List.map_append]; rfl
theorem strVals_len (ts : List (List UInt8)) : (strVals ts).length = ts.length := by unfold strVals; rw [List.length_map]

/-- How a reading of what came ends. -/
def FedEnd (w : World) (m : Reqs) (e : Ending) (w' : World) : Prop :=
  ∃ v xs, e = .returned (.tuple #[v, .string ⟨m.2.1.toArray⟩, .bool m.2.2]) ∧ Own2 w' w.heap.size v xs (rowsOf m.1) ∧ Below w.heap.size w w'

def strLen : Value → Nat
  | .string s => s.size
  | _ => 0

theorem slice_any {w : World} {B n : Nat} {v : Value} {xs : List Value} {T : TypeId} (h : w.ownsRow B T 1 v n xs) : ∃ a c, v = .slice a n c := by
  rcases Joins.ownsRow_forms h with ⟨rfl, rfl⟩ | ⟨A, c, rfl⟩
  · exact ⟨none, 0, rfl⟩
  · exact ⟨some ⟨A, 0, none⟩, c, rfl⟩

theorem drop_str (t : ByteArray) (u : Nat) (_hu : u ≤ t.size) : (t.extract u t.size).data.toList = t.data.toList.drop u := by
  rw [Lib.extract_data, List.take_of_length_le]
  rw [List.length_drop, Lib.size_eq]
  omega

set_option maxHeartbeats 4000000 in
set_option maxRecDepth 100000 in
theorem specFed (a b : ByteArray) (w : World) (hs : a.size + b.size ≤ 2097152) :
    Calls Tryd.prog 9 #[.string a, .string b] w (FedEnd w (fedM (a.data.toList ++ b.data.toList))) := by
  obtain ⟨i0, hi, hz0, hz1, hz2⟩ := info_parts info30
  have hd : (a ++ b).data.toList = a.data.toList ++ b.data.toList := by simp
  have hsz : (a ++ b).size = a.size + b.size := ByteArray.size_append
  rw [← hd]
  obtain ⟨l, hl⟩ : ∃ l, (a ++ b).data.toList = l := ⟨_, rfl⟩
  rw [hl]
  have HL : Hid ((a ++ b).data.toList = l) := hl
  clear hl hd
  have HO : Hid _ := Own2.none w w.heap.size (Nat.le_refl _)
  have HB : Hid (Below w.heap.size w (w.alloc (.cells #[] 30))) := (Below.refl _ w).alloc (Nat.le_refl _) _
  go_enter Tryd.func9, Tryd.ntmps9
  go_wp2_with fail
  generalize a ++ b = t0 at *
  have hs0 : t0.size ≤ 2097152 := by omega
  clear hsz hs
  go_loopw [7, 8] (fun sv ov wr => ∃ (t : ByteArray) (acc : List (List (List UInt8))) (xs : List Value), sv = .string t ∧ acc.length + t.size ≤ t0.size ∧ Own2 wr w.heap.size ov xs (rowsOf acc) ∧ Hid (fedM l = addReqs acc (fedM t.data.toList)) ∧ Below w.heap.size w wr) (fun sv _ _ => strLen sv)
  case atStart => exact ⟨t0, [], [], rfl, by simp, HO.out, by unfold Hid; rw [HL.out, add_nil], HB.out⟩
  case round =>
    obtain ⟨t, acc, xs, rfl, hlen, ho, hf, bk⟩ := hrel
    have sk := bk.size
    have HSP := spReq t wr (by omega)
    clear HO HB HL
    cases hm : requestM t.data.toList with
    | inl c =>
      rw [hm] at HSP
      have HSP' : Hid (Calls Tryd.prog 28 #[.string t] wr fun e w' => e = .returned (.tuple #[.slice none 0 0, .int .i64 0, .int .i64 c]) ∧ Below wr.heap.size wr w') := HSP
      obtain ⟨o1, o2, hov⟩ := slice_any ho.outer
      subst hov
      rcases requestM_codes hm with rfl | rfl
      · have HF : Hid (fedM l = (acc, t.data.toList, true)) := by
          unfold Hid
          rw [hf.out, fed_more hm (by omega)]
          simp [addReqs]
        clear HSP hm hf
        go_wp2_with fail
        refine HSP'.out.mono ?_
        rintro e w1 ⟨rfl, b1⟩
        have H2 : Hid _ := ho.below b1
        have bb := bk.trans (b1.mono sk)
        clear ho b1 HSP'
        go_wp2
        go_ret3
        show FedEnd w (fedM l) _ _
        rw [HF.out]
        exact ⟨_, xs, rfl, H2.out, bb⟩
      · have HF : Hid (fedM l = (acc, [], false)) := by
          unfold Hid
          rw [hf.out, fed_bad hm]
          simp [addReqs]
        clear HSP hm hf
        go_wp2_with fail
        refine HSP'.out.mono ?_
        rintro e w1 ⟨rfl, b1⟩
        have H2 : Hid _ := ho.below b1
        have bb := bk.trans (b1.mono sk)
        clear ho b1 HSP'
        go_wp2
        go_ret3
        show FedEnd w (fedM l) _ _
        rw [HF.out]
        exact ⟨_, xs, rfl, H2.out, bb⟩
    | inr p =>
      obtain ⟨ts, u⟩ := p
      rw [hm] at HSP
      obtain ⟨h16, _, hu0, hu1⟩ := request_fits hm
      rw [← Lib.size_eq] at hu1
      have HSP' : Hid (Calls Tryd.prog 28 #[.string t] wr fun e w' => ∃ v, e = .returned (.tuple #[v, .int .i64 u, .int .i64 0]) ∧ w'.ownsRow wr.heap.size 9 1 v ts.length (strVals ts) ∧ Below wr.heap.size wr w') := HSP
      have HF : Hid (fedM l = addReqs (acc ++ if ts = [] then [] else [ts]) (fedM (t.extract u t.size).data.toList)) := by
        unfold Hid
        rw [hf.out, fed_step hm, add_put, drop_str t u hu1]
      have HX : Hid (∀ y ∈ xs, ∀ a, y.ownBlock = some a → a < wr.heap.size) := fun y hy a ha => (ho.blocks y hy a ha).2
      have hui : (u : Int) ≤ (t.size : Int) := by omega
      have hsz1 : (t.extract u t.size).size = t.size - u := by simp
      clear HSP hm hf
      go_wp2_with fail
      refine HSP'.out.mono ?_
      rintro e w1 ⟨v1, rfl, o1, b1⟩
      obtain ⟨a1, c1, rfl⟩ := slice_any o1
      have H2 := ho.below b1
      have bb := bk.trans (b1.mono sk)
      have s1 := bb.size
      clear ho b1 HSP'
      by_cases ht : ts = []
      · subst ht
        have HF' : Hid (fedM l = addReqs acc (fedM (t.extract u t.size).data.toList)) := by
          have := HF.out
          rwa [if_pos rfl, List.append_nil] at this
        have HH : Hid _ := H2
        clear HF H2 o1
        go_wp2
        go_roundw
        case rel => exact ⟨_, acc, xs, rfl, by rw [hsz1]; omega, HH.out, HF', bb⟩
        case measure => simp [strLen]; omega
      · have HF' : Hid (fedM l = addReqs (acc ++ [ts]) (fedM (t.extract u t.size).data.toList)) := by
          have := HF.out
          rwa [if_neg ht] at this
        have hpos : 0 < ts.length := List.length_pos_iff.2 ht
        have hdp : (0 : Int) < (ts.length : Int) := by omega
        have hrl : (rowsOf acc).length ≤ 2097152 := by rw [rowsOf_len]; omega
        clear HF ht
        go_wp2_with (at_builtin; refine wpList_append_own _ rfl _ _ 26 rfl w.heap.size 30 i0 _ 1 24 Tryd.underlying26 hi hz0 hz1 hz2 rfl (by decide) _ _ _ rfl (H2.outer.alloc _) ⟨w1.heap.size, 0, none⟩ 1 1 [.slice a1 ts.length c1] rfl rfl ?c1 ?c2 ?c3 ?c4 ?c5 ?_)
        case c1 => exact cell_one_new _ _ _
        case c2 => intro y hy; simp at hy; subst hy; rfl
        case c3 => unfold maxLen; omega
        case c4 => omega
        case c5 => simp; omega
        intro v' w5 hown' hgrow _
        have hold : ∀ k, k < w1.heap.size → some k ≠ Value.ownBlock u8 → w5.heap[k]? = w1.heap[k]? := fun k hk hne => by
          rw [hgrow.block k (by simp; omega) hne]
          exact Below.heap_alloc _ _ _ hk
        have hsz5 : w1.heap.size ≤ w5.heap.size := by have := hgrow.size; simp at this; omega
        have H5 : Hid (Own2 w5 w.heap.size v' (xs ++ [.slice a1 ts.length c1]) (rowsOf (acc ++ [ts]))) := by
          unfold Hid
          rw [rowsOf_snoc]
          exact H2.more (by rw [strVals_len]; exact o1) HX.out sk hown' hold hgrow.os hgrow.tape hgrow.output hsz5
        have B5 : Hid (Below w.heap.size w w5) := ⟨hgrow.os.trans bb.os, hgrow.tape.trans bb.tape, hgrow.output.trans bb.output, by omega, fun k hk => (hold k (by omega) (fun e => by have := (H2.outer.lt k e.symm).1; omega)).trans (bb.block k hk)⟩
        obtain ⟨a5, c5, hv5⟩ := slice_any H5.out.outer
        subst hv5
        clear hown' hgrow hold H2 o1 HX
        go_wp2
        go_roundw
        case rel => exact ⟨_, acc ++ [ts], _, rfl, by rw [hsz1, List.length_append, List.length_singleton]; omega, H5.out, HF', B5.out⟩
        case measure => simp [strLen]; omega
end Go.Proofs.YtielombpeeelkaaDoor
