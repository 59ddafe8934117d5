/- impl.textsIn: the texts that stand in the bytes, each behind its length. -/
import Derived.Test.YticajcagcdbgpaaGreatDoorVMath
import Derived.Test.YticajcagcdbgpaaGreatDoorNum
import Derived.Lib.EndianBits
import Derived.Lib.IndexBytes
import Derived.Maps.AppendAt
import Derived.Lib.SmallJoins
import Derived.Deep.CutBlock
namespace Go.Proofs.YticajcagcdbgpaaGreatDoor
open Go.RowKit Go.Sort

def strV (ts : List ByteArray) : List Value := ts.map Value.string
abbrev OwnS (w : World) (B : Nat) (v : Value) (ts : List ByteArray) : Prop := w.ownsRow B 9 1 v ts.length (strV ts)

theorem ownS_nil (w : World) (B : Nat) : OwnS w B (.slice none 0 0) [] := World.ownsRow_nil _ _ _ _

theorem own_lt {w : World} {B : Nat} {e : TypeId} {size n : Nat} {v : Value} {xs : List Value} (h : w.ownsRow B e size v n xs) {g : Nat} (hg : v.ownBlock = some g) : B ≤ g ∧ g < w.heap.size := h.lt g hg

theorem owns_block {w w' : World} {B : Nat} {e : TypeId} {size n : Nat} {v : Value} {xs : List Value} (h : w.ownsRow B e size v n xs) (hb : ∀ g, v.ownBlock = some g → w'.heap[g]? = w.heap[g]?) : w'.ownsRow B e size v n xs := by
  rcases h with ⟨h1, h2 | ⟨g, cap, cur, rfl, q1, q2, q3⟩⟩
  · exact ⟨h1, .inl h2⟩
  · exact ⟨h1, .inr ⟨g, cap, cur, rfl, q1, (hb g rfl).trans q2, q3⟩⟩

theorem owns_below {w w' : World} {B : Nat} {e : TypeId} {size n : Nat} {v : Value} {xs : List Value} (h : w.ownsRow B e size v n xs) (hb : Below w.heap.size w w') : w'.ownsRow B e size v n xs :=
  owns_block h fun g hg => hb.block g (own_lt h hg).2

theorem owns_form {w : World} {B : Nat} {e : TypeId} {size n : Nat} {v : Value} {xs : List Value} (h : w.ownsRow B e size v n xs) : ∃ a c, v = .slice a n c := by
  rcases Joins.ownsRow_forms h with ⟨h1, h2⟩ | ⟨A, c, rfl⟩
  · exact ⟨none, 0, by rw [h2, h1]⟩
  · exact ⟨some ⟨A, 0, none⟩, c, rfl⟩

/-- Below B stays so under an append to a row that lies above B. -/
theorem below_own {B : Nat} {w w1 w2 : World} {e : TypeId} {size n : Nat} {v : Value} {xs : List Value} {o : Obj} (hb : Below B w w1) (hB : B ≤ w1.heap.size) (h : w1.ownsRow B e size v n xs) (hg : (w1.alloc o).grownBy w2 v.ownBlock) : Below B w w2 := by
  have hs : (w1.alloc o).heap.size = w1.heap.size + 1 := by simp
  have h2 := hg.size
  have h3 := hb.size
  exact ⟨hg.os.trans hb.os, hg.tape.trans hb.tape, hg.output.trans hb.output, by omega, fun k hk => (hg.block k (by omega) (fun e => by have := (own_lt h e.symm).1; omega)).trans ((Below.heap_alloc _ _ _ (by omega)).trans (hb.block k hk))⟩

theorem or256 (a b : Nat) (ha : a < 256) (hb : b < 256) : bits .or .i64 ((a : Int) * 256) (b : Int) = (a : Int) * 256 + (b : Int) :=
  bits_join .i64 16 (by decide) (fun n h0 h1 => by rw [IntKind.wrap_i64]; omega) 8 _ _ (by omega) (by omega) (by omega) (by omega) (by omega) (by omega)

def lenV : Value → Nat
  | .slice _ n _ => n
  | _ => 0

def sizeV : Value → Nat
  | .string s => s.size
  | _ => 0

def TextsEnd (w : World) : TxR → Ending → World → Prop
  | some (ts, []), e, w' => ∃ v, e = .returned (.tuple #[v, .bool true]) ∧ OwnS w' w.heap.size v ts ∧ Below w.heap.size w w'
  | _, e, w' => e = .returned (.tuple #[.slice none 0 0, .bool false]) ∧ Below w.heap.size w w'

theorem empty_no {s : ByteArray} (h : 0 < s.size) : s.toList.isEmpty = false := by
  rw [ByteArray.toList_eq]
  rw [Lib.size_eq] at h
  cases hd : s.data.toList with
  | nil => rw [hd] at h; cases h
  | cons b r => rfl

theorem empty_yes {s : ByteArray} (h : s.size = 0) : s.toList.isEmpty = true := by
  rw [ByteArray.toList_eq]
  rw [Lib.size_eq] at h
  cases hd : s.data.toList with
  | nil => rfl
  | cons b r => rw [hd] at h; cases h

theorem strV_app (ts us : List ByteArray) : strV (ts ++ us) = strV ts ++ strV us := List.map_append

theorem two_of {s : ByteArray} (h : 2 ≤ s.size) : ∃ a b l, s.data.toList = a :: b :: l ∧ l.length = s.size - 2 ∧ (∀ hx, s[0]'hx = a) ∧ (∀ hx, s[1]'hx = b) := by
  have hl : s.data.toList.length = s.size := (Lib.size_eq s).symm
  obtain ⟨⟨d⟩⟩ := s
  match d, hl with
  | [], hl => simp at hl; have : (0 : Nat) = ByteArray.size ⟨⟨[]⟩⟩ := hl; omega
  | [a], hl => have h1 : ByteArray.size ⟨⟨[a]⟩⟩ = 1 := rfl; omega
  | a :: b :: l, hl => exact ⟨a, b, l, rfl, by rw [← hl]; simp, fun _ => rfl, fun _ => rfl⟩

set_option maxHeartbeats 2000000 in
set_option maxRecDepth 100000 in
theorem textsIn_any (s : ByteArray) (w : World) (hs : s.size ≤ 1048576) :
    Calls Tryz.prog 17 #[.string s] w (TextsEnd w (textsM s.data.toList)) := by
  obtain ⟨i0, hi, hz0, hz1, hz2⟩ := info_parts info9
  obtain ⟨T, hT⟩ : ∃ T, textsM s.data.toList = T := ⟨_, rfl⟩
  have HT : Hid (T = preT [] (textsM s.data.toList)) := by unfold Hid; rw [preT_nil, hT]
  rw [hT]
  clear hT
  go_enter Tryz.func17, Tryz.ntmps17
  go_wp2
  go_loopw [0, 4] (fun r v wr => ∃ (rest : ByteArray) (acc : List ByteArray), r = .string rest ∧ rest.size ≤ s.size ∧ acc.length + rest.size ≤ s.size ∧ OwnS wr w.heap.size v acc ∧ Below w.heap.size w wr ∧ T = preT acc (textsM rest.data.toList)) (fun r _ _ => sizeV r)
  case atStart => exact ⟨s, [], rfl, Nat.le_refl _, by simp, ownS_nil _ _, Below.refl _ _, HT.out⟩
  case round =>
    obtain ⟨rest, acc, rfl, hr1, hr2, hown, bk, hpre⟩ := hrel
    have HP : Hid (T = preT acc (textsM rest.data.toList)) := hpre
    have sk := bk.size
    clear hpre HT
    by_cases h0 : rest.size = 0
    · have he := empty_yes h0
      have HE : Hid (TextsEnd w T (.returned (.tuple #[u4, .bool true])) wr) := by
        unfold Hid
        have : rest.data.toList = [] := List.eq_nil_of_length_eq_zero (by rw [← Lib.size_eq]; exact h0)
        rw [HP.out, this]
        rw [textsM_nil]
        show TextsEnd w (some (acc ++ [], [])) _ _
        rw [List.append_nil]
        exact ⟨u4, rfl, hown, bk⟩
      clear hown bk
      go_wp2
      go_ret2
      exact HE.out
    · have he := empty_no (s := rest) (by omega)
      by_cases h1 : rest.size = 1
      · have hlt : (rest.size : Int) < 2 := by omega
        have HE : Hid (TextsEnd w T (.returned (.tuple #[.slice none 0 0, .bool false])) wr) := by
          unfold Hid
          have hl : rest.data.toList.length = 1 := by rw [← Lib.size_eq]; exact h1
          obtain ⟨a, ha⟩ := List.length_eq_one_iff.1 hl
          rw [HP.out, ha, textsM_one]
          exact ⟨rfl, bk⟩
        clear hown bk
        go_wp2
        go_ret2
        exact HE.out
      · have hge : ¬ (rest.size : Int) < 2 := by omega
        obtain ⟨a, b, l, hl, hll, ha, hb⟩ := two_of (s := rest) (by omega)
        have ha256 : a.toNat < 256 := a.toNat_lt
        have hb256 : b.toNat < 256 := b.toNat_lt
        have hor := or256 a.toNat b.toNat ha256 hb256
        have z0 : 0 < rest.size := by omega
        have z1 : 1 < rest.size := by omega
        have z0i : (0 : Int) < (rest.size : Int) := by omega
        have z1i : (1 : Int) < (rest.size : Int) := by omega
        obtain ⟨n, hn⟩ : ∃ n, 256 * a.toNat + b.toNat = n := ⟨_, rfl⟩
        have hn2 : (a.toNat : Int) * 256 + (b.toNat : Int) = (n : Int) := by omega
        rw [hn2] at hor
        have hnb : n ≤ 65535 := by omega
        have HN : Hid (textsM rest.data.toList = if l.length < n then none else preT [⟨(l.take n).toArray⟩] (textsM (l.drop n))) := by
          unfold Hid
          rw [hl, textsM_two, hn]
        by_cases hlen : rest.size < n + 2
        · have hc : decide ((rest.size : Int) < 2 + (n : Int)) = true := by simp; omega
          have HE : Hid (∀ W, Below w.heap.size w W → TextsEnd w T (.returned (.tuple #[.slice none 0 0, .bool false])) W) := fun W bW => by
            rw [HP.out, HN.out, if_pos (by omega)]
            exact ⟨rfl, bW⟩
          clear hown HN HP hn hl
          go_wp2
          go_quiet ((fail))
          go_wp2
          go_ret2
          exact HE.out _ (below_drewN bk _)
        · have hc : decide ((rest.size : Int) < 2 + (n : Int)) = false := by simp; omega
          have hn2s : n + 2 ≤ rest.size := by omega
          have e2 : (2 : Int) + (n : Int) ≤ (rest.size : Int) := by omega
          have e20 : (0 : Int) ≤ 2 + (n : Int) := by omega
          have e21 : (2 : Int) ≤ 2 + (n : Int) := by omega
          have HX : Hid (rest.extract 2 (2 + n) = ⟨(l.take n).toArray⟩) := str_of _ _ (by rw [Lib.extract_data, hl]; simp)
          have HY : Hid ((rest.extract (2 + n) rest.size).data.toList = l.drop n) := by
            unfold Hid
            rw [Lib.extract_to_end, hl, Nat.add_comm 2 n]
            rfl
          have HN2 : Hid (T = preT (acc ++ [⟨(l.take n).toArray⟩]) (textsM (l.drop n))) := by
            unfold Hid
            rw [HP.out, HN.out, if_neg (by omega), preT_preT]
          have hts : (⟨(l.take n).toArray⟩ : ByteArray).size = n := by
            rw [size_mk, List.length_take]
            omega
          obtain ⟨t, ht⟩ : ∃ t : ByteArray, t = ⟨(l.take n).toArray⟩ := ⟨_, rfl⟩
          rw [← ht] at HX HN2 hts
          have wn : IntKind.i64.wrap (2 + (n : Int)) = 2 + (n : Int) := by rw [IntKind.wrap_i64]; omega
          have tn : ((2 : Int) + (n : Int)).toNat = 2 + n := by omega
          clear HN HP hn hl ht hlen
          go_wp2
          go_quiet ((fail))
          go_wp2_with fail
          have b1 : Below w.heap.size w (wr.drewN nq) := below_drewN bk _
          have o1 : OwnS (wr.drewN nq) w.heap.size u4 acc := owns_block hown (fun _ _ => rfl)
          have s1 : w.heap.size ≤ (wr.drewN nq).heap.size := sk
          generalize wr.drewN nq = w1 at *
          rw [HX.out]
          refine (clone60 t w1 (by omega)).mono ?_
          rintro e w2 ⟨rfl, b2⟩
          have o2 := owns_below o1 b2
          have b02 := b1.trans (b2.mono s1)
          have s2 := b2.size
          clear hown bk o1 b1 b2
          have ha20 : acc.length ≤ 1048576 := by omega
          go_wp2_with (at_builtin; refine wpList_append_own _ rfl _ _ 24 rfl w.heap.size 9 i0 _ 1 16 Tryz.underlying24 hi hz0 hz1 hz2 rfl (by decide) _ _ _ rfl (o2.alloc _) ⟨w2.heap.size, 0, none⟩ 1 1 [.string t] rfl rfl ?c1 ?c2 ?c3 ?c4 ?c5 ?_)
          case c1 => exact cell_one_new _ _ _
          case c2 => intro y hy; simp at hy; subst hy; rfl
          case c3 => unfold maxLen; omega
          case c4 => omega
          case c5 => simp; omega
          intro v' w5 hown' hgrow _
          have b05 : Hid (Below w.heap.size w w5) := below_own b02 (by omega) o2 hgrow
          have HO : Hid (OwnS w5 w.heap.size v' (acc ++ [t])) := by
            unfold Hid OwnS
            rw [List.length_append, strV_app]
            exact hown'
          clear hown' hgrow o2 b02
          go_wp2
          go_roundw
          case rel =>
            refine ⟨rest.extract (2 + n) rest.size, acc ++ [t], rfl, ?_, ?_, HO.out, b05.out, ?_⟩
            · rw [ByteArray.size_extract]; omega
            · rw [ByteArray.size_extract, List.length_append, List.length_singleton]; omega
            · rw [HY.out]; exact HN2.out
          case measure => show ByteArray.size (rest.extract (2 + n) rest.size) < rest.size; rw [ByteArray.size_extract]; omega
end Go.Proofs.YticajcagcdbgpaaGreatDoor
