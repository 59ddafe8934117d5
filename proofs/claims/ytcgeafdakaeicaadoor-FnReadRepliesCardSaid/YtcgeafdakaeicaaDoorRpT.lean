/- Plain mathematics of a reply's text: the same by the specification's walk and by the program's, and no longer than 300 bytes a node. spec.l1Text and spec.RespText at this dump. impl.writeReply and impl.RespText at this dump. -/
import Derived.Test.YtcgeafdakaeicaaDoorDec
import Derived.Test.YtcgeafdakaeicaaDoorRpSpecOk
namespace Go.Proofs.YtcgeafdakaeicaaDoor.Rp
open Go.RowKit

def ownText (x : Nd) : List UInt8 :=
  if x.kind = 1 then [43] ++ x.s.data.toList ++ crlf
  else if x.kind = 2 then [45] ++ x.s.data.toList ++ crlf
  else if x.kind = 3 then [58] ++ Lib.itoa x.num ++ crlf
  else if x.kind = 4 then bulkText x.s
  else if x.kind = 5 then [36, 45, 49, 13, 10]
  else headText x.kids.length

def textF (L : List Nd) : Nat → Nat → List UInt8
  | 0, _ => []
  | f + 1, n => ownText (L.getD n nd0) ++ (kidsOf L n).flatMap fun k => if 0 ≤ k ∧ k < (n : Int) then textF L f k.toNat else []
def text (L : List Nd) (n : Nat) : List UInt8 := textF L (n + 1) n

theorem flatMap_congr' {α β : Type} (l : List α) (f g : α → List β) (h : ∀ k ∈ l, f k = g k) : l.flatMap f = l.flatMap g := by
  induction l with
  | nil => rfl
  | cons k l ih =>
    simp only [List.flatMap_cons]
    rw [h k (by simp), ih (fun k hk => h k (by simp [hk]))]

theorem textF_eq (L : List Nd) : ∀ (n f : Nat), n < f → textF L f n = text L n := by
  intro n
  induction n using Nat.strongRecOn with
  | _ n ih =>
    intro f hf
    obtain ⟨g, rfl⟩ : ∃ g, f = g + 1 := ⟨f - 1, by omega⟩
    show ownText _ ++ (kidsOf L n).flatMap _ = ownText _ ++ (kidsOf L n).flatMap _
    rw [flatMap_congr' _ _ (fun k => if 0 ≤ k ∧ k < (n : Int) then textF L n k.toNat else [])]
    intro k _
    by_cases hk : 0 ≤ k ∧ k < (n : Int)
    · simp only [if_pos hk]
      rw [ih k.toNat (by omega) g (by omega), ih k.toNat (by omega) n (by omega)]
    · simp only [if_neg hk]

theorem text_eq (L : List Nd) (n : Nat) (hr : ∀ k ∈ kidsOf L n, 0 ≤ k ∧ k < (n : Int)) : text L n = ownText (L.getD n nd0) ++ (kidsOf L n).flatMap fun k => text L k.toNat := by
  show ownText _ ++ (kidsOf L n).flatMap _ = _
  rw [flatMap_congr' _ _ (fun k => text L k.toNat)]
  intro k hk
  have := hr k hk
  simp only [if_pos this]
  exact textF_eq L k.toNat n (by omega)

theorem nDigits_le : ∀ (k u : Nat), 1 ≤ k → u < 10 ^ k → Lib.nDigits u ≤ k
  | 0, u, h, _ => by omega
  | 1, u, _, h => by rw [Lib.nDigits_small (by simpa using h)]; omega
  | k + 2, u, _, h => by
    by_cases h10 : u < 10
    · rw [Lib.nDigits_small h10]; omega
    · rw [Lib.nDigits_big h10]
      have := nDigits_le (k + 1) (u / 10) (by omega) (by rw [Nat.pow_succ] at h; omega)
      omega

theorem itoa_len (n : Int) (h : numB n = true) : (Lib.itoa n).length ≤ 20 := by
  simp only [numB, inB, decide_eq_true_eq] at h
  have h19 : (10 : Nat) ^ 19 = 10000000000000000000 := by decide
  unfold Lib.itoa
  split
  · rw [List.length_cons, Lib.decDigits_length]
    have := nDigits_le 19 n.natAbs (by omega) (by rw [h19]; omega)
    omega
  · rw [Lib.decDigits_length]
    have := nDigits_le 19 n.toNat (by omega) (by rw [h19]; omega)
    omega

theorem own_len (x : Nd) (h : fieldsB x = true) (hk : x.kids.length ≤ 1048576) : (ownText x).length ≤ 300 := by
  have hb : x.s.data.toList.length = x.s.size := by simp
  unfold ownText
  by_cases k1 : x.kind = 1
  · rw [if_pos k1]
    rw [fields_text x (.inl k1)] at h
    simp [plainB] at h
    simp [crlf]
    omega
  rw [if_neg k1]
  by_cases k2 : x.kind = 2
  · rw [if_pos k2]
    rw [fields_text x (.inr k2)] at h
    simp [plainB] at h
    simp [crlf]
    omega
  rw [if_neg k2]
  by_cases k3 : x.kind = 3
  · rw [if_pos k3]
    rw [fields_int x k3] at h
    simp only [Bool.and_eq_true] at h
    have := itoa_len x.num h.1.1
    simp [crlf]
    omega
  rw [if_neg k3]
  by_cases k4 : x.kind = 4
  · rw [if_pos k4]
    rw [fields_bulk x k4] at h
    simp at h
    exact bulkText_len x.s h.1.2
  rw [if_neg k4]
  by_cases k5 : x.kind = 5
  · rw [if_pos k5]
    simp
  rw [if_neg k5]
  have := dec_len_le x.kids.length hk
  simp [headText, crlf]
  omega

theorem flat_reverse (g : Int → List UInt8) : ∀ ks : List Int, (ks.reverse.flatMap g).length = (ks.flatMap g).length
  | [] => rfl
  | k :: ks => by
    rw [List.reverse_cons, List.flatMap_append, List.flatMap_cons, List.length_append, List.length_append, flat_reverse g ks]
    simp
    omega

theorem tw_sum (T : Nat → Int) (hle : ∀ m, T m ≤ m) (g : Int → List UInt8) : ∀ (ks : List Int) (a : Int), 0 ≤ tw T ks a → (∀ k ∈ ks, 0 ≤ k → k ≤ a → 0 ≤ T k.toNat → ((g k).length : Int) ≤ 300 * (k + 1 - T k.toNat)) →
    ((ks.flatMap g).length : Int) ≤ 300 * (a + 1 - tw T ks a) := by
  intro ks
  induction ks with
  | nil => intro a h _; simp [tw]
  | cons k ks ih =>
    intro a h hg
    simp only [tw] at h ⊢
    by_cases h0 : a < 0 ∨ k ≠ a
    · rw [if_pos h0] at h; omega
    · rw [if_neg h0] at h ⊢
      by_cases h1 : T a.toNat < 0
      · rw [if_pos h1] at h; omega
      · rw [if_neg h1] at h ⊢
        obtain rfl : k = a := by omega
        have hl := hle k.toNat
        have e1 := hg k (by simp) (by omega) (by omega) (by omega)
        have e2 := ih (T k.toNat - 1) h (fun j hj a1 a2 a3 => hg j (by simp [hj]) a1 (by omega) a3)
        rw [List.flatMap_cons, List.length_append]
        omega

theorem text_len (L : List Nd) (N : Nat) (hF : ∀ i, i < N → fieldsB (L.getD i nd0) = true ∧ (L.getD i nd0).kids.length ≤ 1048576 ∧ 0 ≤ tree L i) : ∀ n : Nat, n < N → ((text L n).length : Int) ≤ 300 * ((n : Int) + 1 - tree L n) := by
  intro n
  induction n using Nat.strongRecOn with
  | _ n ih =>
    intro hn
    obtain ⟨f1, f2, f3⟩ := hF n hn
    have ht := tree_eq L n
    have f3' := f3
    rw [ht] at f3'
    have hr := tw_range (tree L) (tree_le L) _ _ f3'
    rw [text_eq L n (fun k hk => by have := hr k (by simpa using hk); omega), List.length_append]
    have ho := own_len _ f1 f2
    have hs := tw_sum (tree L) (tree_le L) (fun k => text L k.toNat) (kidsOf L n).reverse ((n : Int) - 1) f3' (fun k hk a1 a2 a3 => by
      have := ih k.toNat (by omega) (by omega)
      rw [Int.toNat_of_nonneg a1] at this
      exact this)
    rw [flat_reverse, ← ht] at hs
    omega
end Go.Proofs.YtcgeafdakaeicaaDoor.Rp

namespace Go.Proofs.YtcgeafdakaeicaaDoor.Rp
open Go.RowKit Go.Sort

set_option maxHeartbeats 1000000 in
set_option maxRecDepth 100000 in
theorem dec_int (z : Int) (w : World) (h0 : -1000000000000000000 ≤ z) (h1 : z ≤ 1000000000000000000) :
    Calls Tryd.prog 54 #[.int .i64 z] w fun e w' => e = .returned (.string ⟨(Lib.itoa z).toArray⟩) ∧ Below w.heap.size w w' := by
  by_cases hz : z < 0
  · have e1 : -z = ((-z).toNat : Int) := by omega
    have hl : (Lib.decDigits (-z).toNat).length ≤ 20 := by
      rw [Lib.decDigits_length]
      have h19 : (10 : Nat) ^ 19 = 10000000000000000000 := by decide
      have := nDigits_le 19 (-z).toNat (by omega) (by rw [h19]; omega)
      omega
    have HI : Hid (Lib.itoa z = 45 :: Lib.decDigits (-z).toNat) := by
      unfold Hid Lib.itoa
      rw [if_pos hz, show z.natAbs = (-z).toNat from by omega]
    have HC : Hid (Calls Tryd.prog 54 #[.int .i64 ((-z).toNat : Int)] w fun e w' => e = .returned (.string ⟨(Lib.decDigits (-z).toNat).toArray⟩) ∧ Below w.heap.size w w') := dec_any (-z).toNat w (by omega)
    rw [← e1] at HC
    generalize Lib.decDigits (-z).toNat = D at *
    clear e1
    go_enter Tryd.func54, Tryd.ntmps54
    go_wp2_with fail
    refine HC.out.mono ?_
    rintro e w1 ⟨rfl, b1⟩
    go_wp2
    go_ret
    refine ⟨ret_str ?_, b1⟩
    rw [HI.out]
    exact ByteArray.mk_append_mk [45] D
  · have e1 : z = (z.toNat : Int) := by omega
    have := dec_any z.toNat w (by omega)
    rw [← e1] at this
    have e2 : Lib.itoa z = Lib.decDigits z.toNat := by unfold Lib.itoa; rw [if_neg hz]
    rw [e2]
    exact this

/-- All that a right reply's nodes keep to. -/
structure Right (L : List Nd) (n : Nat) : Prop where
  fields : ∀ i, i < n → fieldsB (L.getD i nd0) = true
  kids : ∀ i, i < n → (L.getD i nd0).kids.length ≤ 1048576
  range : ∀ i, i < n → ∀ k ∈ kidsOf L i, 0 ≤ k ∧ k < (i : Int)
  small : ∀ i, i < n → (text L i).length ≤ 300 * n

theorem right_of (L : List Nd) (n : Nat) (hl : L.length = n) (h : specB L = true) (hk : ∀ i, i < n → (L.getD i nd0).kids.length ≤ 1048576) : Right L n := by
  simp only [specB, Bool.and_eq_true, decide_eq_true_eq] at h
  obtain ⟨⟨h1, h2⟩, h3, h4⟩ := h
  have hn := (nodesB_iff L L 0 rfl).1 h2
  have ht : ∀ i, i < n → 0 ≤ tree L i := fun i hi => by
    have := tree_cover L (L.length - 1) (by omega) i (by omega) (by omega)
    omega
  refine ⟨fun i hi => (hn i (by omega) (by omega)).1, hk, fun i hi k hkk => ?_, fun i hi => ?_⟩
  · have := (hn i (by omega) (by omega)).2
    rw [rangeB, List.all_eq_true] at this
    have := this k hkk
    simp [inB] at this
    omega
  · have := text_len L n (fun i hi => ⟨(hn i (by omega) (by omega)).1, hk i hi, ht i hi⟩) i hi
    have := ht i hi
    omega

theorem bytes_eq (s : ByteArray) : s = ⟨s.data.toList.toArray⟩ := by simp

theorem line_bytes (m : UInt8) (s : ByteArray) : (⟨#[m]⟩ ++ s ++ ⟨#[13, 10]⟩ : ByteArray) = ⟨([m] ++ s.data.toList ++ crlf).toArray⟩ := by
  apply ByteArray.ext
  simp [ByteArray.data_append, crlf]

theorem bulk_bytes (D : List UInt8) (s : ByteArray) : (⟨#[36]⟩ ++ ⟨D.toArray⟩ ++ ⟨#[13, 10]⟩ ++ s ++ ⟨#[13, 10]⟩ : ByteArray) = ⟨([36] ++ D ++ crlf ++ s.data.toList ++ crlf).toArray⟩ := by
  apply ByteArray.ext
  simp [ByteArray.data_append, crlf]

/-- What stands behind the node's own text, of the first j kids. -/
def kidsText (L : List Nd) (K : List Int) (j : Nat) : List UInt8 := (K.take j).flatMap fun k => text L k.toNat

theorem kidsText_succ (L : List Nd) (K : List Int) (j : Nat) (h : j < K.length) : kidsText L K (j + 1) = kidsText L K j ++ text L (K.getD j 0).toNat := by
  unfold kidsText
  rw [List.take_succ_eq_append_getElem h, List.flatMap_append, List.getD_eq_getElem?_getD, List.getElem?_eq_getElem h]
  simp

theorem kidsText_len (L : List Nd) (K : List Int) (j : Nat) : (kidsText L K j).length ≤ (K.flatMap fun k => text L k.toNat).length := by
  have e : K = K.take j ++ K.drop j := (List.take_append_drop j K).symm
  conv => rhs; rw [e]
  rw [List.flatMap_append, List.length_append]
  unfold kidsText
  omega

set_option maxHeartbeats 2000000 in
set_option maxRecDepth 100000 in
theorem text33 (a : Option Addr) (b off n c : Nat) (L : List Nd) (hn : n ≤ 1000) (R : Right L n) : ∀ m : Nat, m < n → ∀ w : World, RespsIn w a b off n L →
    Calls Tryd.prog 25 #[.slice a n c, .int .i64 m] w fun e w' => e = .returned (.string ⟨(text L m).toArray⟩) ∧ Below w.heap.size w w' := by
  intro m
  induction m using Nat.strongRecOn with
  | _ m ih =>
    intro hm w h
    have IH : Hid (∀ q : Nat, q < m → ∀ w : World, RespsIn w a b off n L → Calls Tryd.prog 25 #[.slice a n c, .int .i64 q] w fun e w' => e = .returned (.string ⟨(text L q).toArray⟩) ∧ Below w.heap.size w w') := fun q hq => ih q hq (by omega)
    clear ih
    obtain rfl := h.addr (by omega)
    obtain ⟨ak, bk, ok, ck, hnd⟩ := h.node m hm
    have c0 := hnd.c0
    have c1 := hnd.c1
    have c2 := hnd.c2
    have c3 := hnd.c3
    have hints := hnd.ints
    have hkk := R.kids m hm
    have hlm := R.small m hm
    have HF : Hid (fieldsB (L.getD m nd0) = true) := R.fields m hm
    have HT : Hid (text L m = ownText (L.getD m nd0) ++ (kidsOf L m).flatMap fun k => text L k.toNat) := text_eq L m (R.range m hm)
    have HK : Hid (kidsOf L m = (L.getD m nd0).kids) := rfl
    have HR : Hid (∀ k ∈ (L.getD m nd0).kids, 0 ≤ k ∧ k < (m : Int)) := R.range m hm
    rw [HK.out] at HT
    clear hnd HK
    generalize L.getD m nd0 = x at *
    have bw : Below w.heap.size w (w.alloc (.cells #[.int .i64 x.kind, .int .i64 x.num, .string x.s, .slice ak x.kids.length ck] 44)) := (Below.refl _ _).alloc (Nat.le_refl _) _
    by_cases k1 : x.kind = 1
    · have e1 : (x.kind == 1) = true := by simp [k1]
      have f := HF.out
      rw [fields_text x (.inl k1)] at f
      simp [plainB] at f
      have hs : x.s.size ≤ 200 := f.1.2.1
      have HE : Hid (text L m = [43] ++ x.s.data.toList ++ crlf) := by
        unfold Hid
        rw [HT.out, ownText, if_pos k1, f.2]
        simp
      clear k1 f
      go_enter Tryd.func25, Tryd.ntmps25
      go_wp2
      go_ret
      exact ⟨ret_str (by rw [HE.out]; exact line_bytes 43 x.s), bw⟩
    have e1 : (x.kind == 1) = false := by simp [k1]
    by_cases k2 : x.kind = 2
    · have e2 : (x.kind == 2) = true := by simp [k2]
      have f := HF.out
      rw [fields_text x (.inr k2)] at f
      simp [plainB] at f
      have hs : x.s.size ≤ 200 := f.1.2.1
      have HE : Hid (text L m = [45] ++ x.s.data.toList ++ crlf) := by
        unfold Hid
        rw [HT.out, ownText, if_neg k1, if_pos k2, f.2]
        simp
      clear k1 k2 f
      go_enter Tryd.func25, Tryd.ntmps25
      go_wp2
      go_ret
      exact ⟨ret_str (by rw [HE.out]; exact line_bytes 45 x.s), bw⟩
    have e2 : (x.kind == 2) = false := by simp [k2]
    by_cases k3 : x.kind = 3
    · have e3 : (x.kind == 3) = true := by simp [k3]
      have f := HF.out
      rw [fields_int x k3] at f
      simp only [Bool.and_eq_true, decide_eq_true_eq] at f
      have hil := itoa_len x.num f.1.1
      have hnb := f.1.1
      simp only [numB, inB, decide_eq_true_eq] at hnb
      obtain ⟨hn0, hn1⟩ := hnb
      have HE : Hid (text L m = [58] ++ Lib.itoa x.num ++ crlf) := by
        unfold Hid
        rw [HT.out, ownText, if_neg k1, if_neg k2, if_pos k3, List.length_eq_zero_iff.1 f.2]
        simp
      clear k1 k2 k3 f
      go_enter Tryd.func25, Tryd.ntmps25
      go_wp2_with fail
      refine (dec_int x.num _ hn0 hn1).mono ?_
      rintro e w1 ⟨rfl, b1⟩
      generalize Lib.itoa x.num = D at *
      go_wp2
      go_ret
      exact ⟨ret_str (by rw [HE.out]; exact line_bytes 58 ⟨D.toArray⟩), bw.trans (b1.mono bw.size)⟩
    have e3 : (x.kind == 3) = false := by simp [k3]
    by_cases k4 : x.kind = 4
    · have e4 : (x.kind == 4) = true := by simp [k4]
      have f := HF.out
      rw [fields_bulk x k4] at f
      simp at f
      have hs : x.s.size ≤ 200 := f.1.2
      have hds := dec_len_le x.s.size (by omega)
      have HE : Hid (text L m = [36] ++ Lib.decDigits x.s.size ++ crlf ++ x.s.data.toList ++ crlf) := by
        unfold Hid
        rw [HT.out, ownText, if_neg k1, if_neg k2, if_neg k3, if_pos k4, f.2, bulkText]
        simp
      clear k1 k2 k3 k4 f
      have d2 : (w.alloc (.cells #[.int .i64 x.kind, .int .i64 x.num, .string x.s, .slice ak x.kids.length ck] 44)).cell? ⟨w.heap.size, 2, none⟩ = some (.string x.s) := (RowAt.new w 44 _).cell 2
      have kd2 := cell_regrown d2
      have cD : ∀ d os, Calls Tryd.prog 54 #[.int .i64 x.s.size] (grow (redrawn (w.alloc (.cells #[.int .i64 x.kind, .int .i64 x.num, .string x.s, .slice ak x.kids.length ck] 44)) d) os) fun e w'' => e = .returned (.string ⟨(Lib.decDigits x.s.size).toArray⟩) ∧ ∃ p : Regrown, w'' = grow (redrawn (w.alloc (.cells #[.int .i64 x.kind, .int .i64 x.num, .string x.s, .slice ak x.kids.length ck] 44)) p.d) p.os := fun d os => Calls.regrown_of (dec_any x.s.size _ (by omega))
      generalize Lib.decDigits x.s.size = E at *
      have n1 : ¬ 9223372036854775807 < 1 + E.length := by omega
      have n2 : ¬ 9223372036854775807 < 1 + E.length + 2 := by omega
      have n3 : ¬ 9223372036854775807 < 1 + E.length + 2 + x.s.size := by omega
      have n4 : ¬ 9223372036854775807 < 1 + E.length + 2 + x.s.size + 2 := by omega
      go_enter Tryd.func25, Tryd.ntmps25
      go_wp2
      refine wp_region_quiet_below (by kernel_rfl) (by kernel_rfl) ?_
      repeat (quiet_step (first | exact cD _ _))
      refine wpQuiet_nil ?_
      intro _ hw'
      obtain ⟨⟨dq, osq⟩, hw''⟩ := hw'
      subst hw''
      have bq := below_regrown (w.alloc (.cells #[.int .i64 x.kind, .int .i64 x.num, .string x.s, .slice ak x.kids.length ck] 44)) dq osq
      go_wp2
      go_ret
      exact ⟨ret_str (by rw [HE.out]; exact bulk_bytes E x.s), bw.trans (bq.mono bw.size)⟩
    have e4 : (x.kind == 4) = false := by simp [k4]
    by_cases k5 : x.kind = 5
    · have e5 : (x.kind == 5) = true := by simp [k5]
      have f := HF.out
      rw [fields_null x k5] at f
      simp at f
      have HE : Hid (text L m = [36, 45, 49, 13, 10]) := by
        unfold Hid
        rw [HT.out, ownText, if_neg k1, if_neg k2, if_neg k3, if_neg k4, if_pos k5, f.2]
        simp
      clear k1 k2 k3 k4 k5 f
      go_enter Tryd.func25, Tryd.ntmps25
      go_wp2
      go_ret
      exact ⟨ret_str (by rw [HE.out]), bw⟩
    have e5 : (x.kind == 5) = false := by simp [k5]
    have HE : Hid (text L m = headText x.kids.length ++ x.kids.flatMap fun k => text L k.toNat) := by
      unfold Hid
      rw [HT.out, ownText, if_neg k1, if_neg k2, if_neg k3, if_neg k4, if_neg k5]
    clear k1 k2 k3 k4 k5 HT
    have hd := dec_len_le x.kids.length hkk
    have hhl : (headText x.kids.length).length + (x.kids.flatMap fun k => text L k.toNat).length ≤ 300 * n := by
      rw [← List.length_append, ← HE.out]
      exact hlm
    go_enter Tryd.func25, Tryd.ntmps25
    go_wp2_with fail
    refine (dec_any x.kids.length _ (by omega)).mono ?_
    rintro e w2 ⟨rfl, b2⟩
    have HH : Hid ((⟨#[42]⟩ ++ ⟨(Lib.decDigits x.kids.length).toArray⟩ ++ ⟨#[13, 10]⟩ : ByteArray) = ⟨(headText x.kids.length).toArray⟩) := line_bytes 42 ⟨(Lib.decDigits x.kids.length).toArray⟩
    have r2 := (RowAt.new w 44 #[.int .i64 x.kind, .int .i64 x.num, .string x.s, .slice ak x.kids.length ck]).below b2 (by simp)
    have b02 := bw.trans (b2.mono bw.size)
    have d3 := r2.cell 3
    simp at d3
    generalize Lib.decDigits x.kids.length = D at *
    clear c0 c1 c2 c3 b2 r2
    go_wp2_with fail
    go_loopw [6, 7] (fun q i wr => ∃ (j : Nat), j ≤ x.kids.length ∧ i = .int .i64 j ∧ q = .string ⟨(headText x.kids.length ++ kidsText L x.kids j).toArray⟩ ∧ Below w2.heap.size w2 wr) (fun _ i _ => x.kids.length - (intOf i).toNat)
    case atStart => exact ⟨0, by omega, rfl, congrArg Value.string (by rw [HH.out]; simp [kidsText]), Below.refl _ _⟩
    case round =>
      obtain ⟨j, hj, rfl, rfl, bk2⟩ := hrel
      have hkl := kidsText_len L x.kids j
      have sk := bk2.size
      have d3' : wr.cell? ⟨w.heap.size, 3, none⟩ = some (.slice ak x.kids.length ck) := (bk2.cell (p := ⟨w.heap.size, 3, none⟩) (block_lt_of_cell d3)).trans d3
      by_cases hlt : j < x.kids.length
      · obtain rfl := hints.addr (by omega)
        have b0r := b02.trans (bk2.mono b02.size)
        have hc := (ints_below hints b0r).cell j hlt
        have hy : 0 ≤ x.kids.getD j 0 ∧ x.kids.getD j 0 < (m : Int) := HR.out _ (by rw [List.getD_eq_getElem?_getD, List.getElem?_eq_getElem hlt]; exact List.getElem_mem _)
        have HS : Hid (_ = _) := kidsText_succ L x.kids j hlt
        have hkl2 := kidsText_len L x.kids (j + 1)
        rw [HS.out, List.length_append] at hkl2
        generalize x.kids.getD j 0 = y at *
        obtain ⟨hy0, hy1⟩ := hy
        obtain ⟨p, rfl⟩ := Int.eq_ofNat_of_zero_le hy0
        rw [Int.toNat_natCast] at HS hkl2
        have HCp : Hid (Calls Tryd.prog 25 #[.slice (some ⟨b, off, none⟩) n c, .int .i64 p] wr fun e w' => e = .returned (.string ⟨(text L p).toArray⟩) ∧ Below wr.heap.size wr w') := IH.out p (by omega) wr (resps_below h b0r)
        have hal : (headText x.kids.length ++ kidsText L x.kids j).length + (text L p).length ≤ 300 * n := by rw [List.length_append]; omega
        generalize hA : headText x.kids.length ++ kidsText L x.kids j = acc at *
        have HA : Hid (headText x.kids.length ++ kidsText L x.kids j = acc) := hA
        clear hA hkl hkl2 hhl hlm
        generalize text L p = tp at *
        go_wp2_with fail
        refine HCp.out.mono ?_
        rintro e w3 ⟨rfl, b3⟩
        go_wp2
        go_roundw
        case rel =>
          refine ⟨j + 1, by omega, by go_num, congrArg Value.string ?_, bk2.trans (b3.mono sk)⟩
          rw [HS.out, ← List.append_assoc, HA.out]
          exact ByteArray.mk_append_mk acc tp
        case measure => simp [intOf] <;> omega
      · obtain rfl : j = x.kids.length := by omega
        have HZ : Hid (headText x.kids.length ++ kidsText L x.kids x.kids.length = text L m) := by
          unfold Hid
          rw [HE.out, kidsText, List.take_length]
        go_wp2
        go_ret
        exact ⟨ret_str (by rw [HZ.out]), b02.trans (bk2.mono b02.size)⟩
end Go.Proofs.YtcgeafdakaeicaaDoor.Rp

namespace Go.Proofs.YtcgeafdakaeicaaDoor.Rp
open Go.RowKit Go.Sort

theorem kept_below {e : TypeId} {b : Option Nat} {w w' : World} (h : Below w.heap.size w w') : Lib.OthersKept e b w w' := fun k _ hk _ _ =>
  (h.block k (Array.getElem?_eq_some_iff.1 hk).1).trans hk

set_option maxHeartbeats 1000000 in
theorem writeLine_k (B b : Nat) (l : List UInt8) (mark text : ByteArray) (w : World) (h : Lib.IsBuilderF 40 5 B b (Lib.byteCells l) w) (hlen : l.length + mark.size + text.size + 2 ≤ 140737488355328) (hBw : B ≤ w.heap.size) :
    Calls Tryd.prog 50 #[.pointer (some ⟨b, 0, none⟩), .string mark, .string text] w fun e w' => e = .returned (.tuple #[]) ∧ Lib.IsBuilderF 40 5 B b (Lib.byteCells (l ++ ([] ++ mark.data.toList ++ text.data.toList ++ crlf))) w' ∧ Below B w w' ∧ Lib.OthersKept 5 (some b) w w' := by
  go_enter Tryd.func50, Tryd.ntmps50
  go_wp2_with fail
  refine (writeString_k B b _ mark _ h (by rw [Lib.byteCells_length]; omega) hBw).mono ?_
  rintro e w1 ⟨rfl, h1, b1, o1⟩
  rw [Lib.strCells_eq, ← Lib.byteCells_append] at h1
  have l1 : (l ++ mark.data.toList).length = l.length + mark.size := by simp
  have s1 := b1.size
  go_wp2_with fail
  refine (writeString_k B b _ text _ (.inr h1) (by rw [Lib.byteCells_length]; omega) (by omega)).mono ?_
  rintro e w2 ⟨rfl, h2, b2, o2⟩
  rw [Lib.strCells_eq, ← Lib.byteCells_append] at h2
  have l2 : (l ++ mark.data.toList ++ text.data.toList).length = l.length + mark.size + text.size := by simp; omega
  have s2 := b2.size
  go_wp2_with fail
  refine (writeString_k B b _ ⟨#[13, 10]⟩ _ (.inr h2) (by rw [Lib.byteCells_length, l2]; exact hlen) (by omega)).mono ?_
  rintro e w3 ⟨rfl, h3, b3, o3⟩
  rw [Lib.strCells_eq, ← Lib.byteCells_append] at h3
  go_wp2
  go_end0
  refine ⟨rfl, .inr ?_, (b1.trans b2).trans b3, (o1.trans o2).trans o3⟩
  simpa [List.append_assoc, crlf] using h3

theorem row_kept {w w' : World} {g : Nat} {T : TypeId} {C : Array Value} {b : Nat} (h : RowAt w g T C) (hk : Lib.OthersKept 5 (some b) w w') (hb : g ≠ b) (hT : T ≠ 5) : RowAt w' g T C :=
  hk g _ h (by simpa using hb) (fun c fz e => by simp at e; exact hT e.2.1)

set_option maxHeartbeats 2000000 in
set_option maxRecDepth 100000 in
theorem reply36 (a : Option Addr) (b off n c : Nat) (L : List Nd) (hn : n ≤ 1000) (R : Right L n) (w0 : World) (h0 : RespsIn w0 a b off n L) (ht : Tab w0) (hw0 : 0 < w0.heap.size) (bb : Nat) : ∀ m : Nat, m < n → ∀ (ak : Option Addr) (bk ok ck : Nat), NdAt w0 b (off + m * 4) (L.getD m nd0) ak bk ok ck → ∀ (w : World) (l : List UInt8),
    Below w0.heap.size w0 w → Lib.IsBuilderF 40 5 w0.heap.size bb (Lib.byteCells l) w → l.length + (text L m).length ≤ 1099511627776 →
    Calls Tryd.prog 23 #[.pointer (some ⟨bb, 0, none⟩), .slice a n c, .agg #[.int .i64 (L.getD m nd0).kind, .int .i64 (L.getD m nd0).num, .string (L.getD m nd0).s, .slice ak (L.getD m nd0).kids.length ck]] w fun e w' => e = .returned (.tuple #[]) ∧ Lib.IsBuilderF 40 5 w0.heap.size bb (Lib.byteCells (l ++ text L m)) w' ∧ Below w0.heap.size w0 w' := by
  intro m
  induction m using Nat.strongRecOn with
  | _ m ih =>
    intro hm ak bk ok ck hnd w l hb hB hl
    have IH : Hid (∀ q : Nat, q < m → ∀ (ak : Option Addr) (bk ok ck : Nat), NdAt w0 b (off + q * 4) (L.getD q nd0) ak bk ok ck → ∀ (w : World) (l : List UInt8), Below w0.heap.size w0 w → Lib.IsBuilderF 40 5 w0.heap.size bb (Lib.byteCells l) w → l.length + (text L q).length ≤ 1099511627776 → Calls Tryd.prog 23 #[.pointer (some ⟨bb, 0, none⟩), .slice a n c, .agg #[.int .i64 (L.getD q nd0).kind, .int .i64 (L.getD q nd0).num, .string (L.getD q nd0).s, .slice ak (L.getD q nd0).kids.length ck]] w fun e w' => e = .returned (.tuple #[]) ∧ Lib.IsBuilderF 40 5 w0.heap.size bb (Lib.byteCells (l ++ text L q)) w' ∧ Below w0.heap.size w0 w') := fun q hq => ih q hq (by omega)
    clear ih
    have hints := hnd.ints
    have hkk := R.kids m hm
    have hlm := R.small m hm
    have HF : Hid (fieldsB (L.getD m nd0) = true) := R.fields m hm
    have HT : Hid (text L m = ownText (L.getD m nd0) ++ (kidsOf L m).flatMap fun k => text L k.toNat) := text_eq L m (R.range m hm)
    have HK : Hid (kidsOf L m = (L.getD m nd0).kids) := rfl
    have HR : Hid (∀ k ∈ (L.getD m nd0).kids, 0 ≤ k ∧ k < (m : Int)) := R.range m hm
    rw [HK.out] at HT
    clear hnd HK
    generalize L.getD m nd0 = x at *
    have sb := hb.size
    have bA : Below w.heap.size w (w.alloc (.cells #[.int .i64 x.kind, .int .i64 x.num, .string x.s, .slice ak x.kids.length ck] 44)) := (Below.refl _ _).alloc (Nat.le_refl _) _
    have rA := RowAt.new w 44 #[.int .i64 x.kind, .int .i64 x.num, .string x.s, .slice ak x.kids.length ck]
    have hB1 := builder_grown hB bA
    have b01 := hb.trans (bA.mono sb)
    have sA : w0.heap.size ≤ (w.alloc (.cells #[.int .i64 x.kind, .int .i64 x.num, .string x.s, .slice ak x.kids.length ck] 44)).heap.size := b01.size
    have hbb : bb < w.heap.size := by
      rcases hB with hB | hB
      · exact hB.lt
      · exact hB.lt
    by_cases k1 : x.kind = 1
    · have e1 : (x.kind == 1) = true := by simp [k1]
      have f := HF.out
      rw [fields_text x (.inl k1)] at f
      simp [plainB] at f
      have hs : x.s.size ≤ 200 := f.1.2.1
      have HE : Hid (text L m = [] ++ [43] ++ x.s.data.toList ++ crlf) := by
        unfold Hid
        rw [HT.out, ownText, if_pos k1, f.2]
        simp
      clear k1 f
      go_enter Tryd.func23, Tryd.ntmps23
      go_wp2_with fail
      refine (writeLine_k w0.heap.size bb l ⟨#[43]⟩ x.s _ hB1 (by show l.length + 1 + _ + 2 ≤ _; omega) sA).mono ?_
      rintro e w1 ⟨rfl, h1, b1, _⟩
      go_wp2
      go_end0
      exact ⟨rfl, by rw [HE.out]; exact h1, b01.trans b1⟩
    have e1 : (x.kind == 1) = false := by simp [k1]
    by_cases k2 : x.kind = 2
    · have e2 : (x.kind == 2) = true := by simp [k2]
      have f := HF.out
      rw [fields_text x (.inr k2)] at f
      simp [plainB] at f
      have hs : x.s.size ≤ 200 := f.1.2.1
      have HE : Hid (text L m = [] ++ [45] ++ x.s.data.toList ++ crlf) := by
        unfold Hid
        rw [HT.out, ownText, if_neg k1, if_pos k2, f.2]
        simp
      clear k1 k2 f
      go_enter Tryd.func23, Tryd.ntmps23
      go_wp2_with fail
      refine (writeLine_k w0.heap.size bb l ⟨#[45]⟩ x.s _ hB1 (by show l.length + 1 + _ + 2 ≤ _; omega) sA).mono ?_
      rintro e w1 ⟨rfl, h1, b1, _⟩
      go_wp2
      go_end0
      exact ⟨rfl, by rw [HE.out]; exact h1, b01.trans b1⟩
    have e2 : (x.kind == 2) = false := by simp [k2]
    by_cases k3 : x.kind = 3
    · have e3 : (x.kind == 3) = true := by simp [k3]
      have f := HF.out
      rw [fields_int x k3] at f
      simp only [Bool.and_eq_true, decide_eq_true_eq] at f
      have hil := itoa_len x.num f.1.1
      have hnb := f.1.1
      simp only [numB, inB, decide_eq_true_eq] at hnb
      obtain ⟨hn0, hn1⟩ := hnb
      have HE : Hid (text L m = [] ++ [58] ++ Lib.itoa x.num ++ crlf) := by
        unfold Hid
        rw [HT.out, ownText, if_neg k1, if_neg k2, if_pos k3, List.length_eq_zero_iff.1 f.2]
        simp
      clear k1 k2 k3 f
      have htA := ht.below b01 hw0
      go_enter Tryd.func23, Tryd.ntmps23
      go_wp2_with fail
      refine (Tryd.strconv_FormatInt_10 x.num (by omega) (by omega) _ htA).mono ?_
      generalize w.alloc (.cells #[.int .i64 x.kind, .int .i64 x.num, .string x.s, .slice ak x.kids.length ck] 44) = W0 at *
      rintro e w2 ⟨rfl, k1, os1, rfl⟩
      have b0 := below_grow W0.heap.size W0 (Nat.le_refl _) k1 os1
      have f1 := builder_grown hB1 b0
      have s0 := b0.size
      generalize grow (W0.drewN k1) os1 = w2 at *
      generalize Lib.itoa x.num = D at *
      go_wp2_with fail
      refine (writeLine_k w0.heap.size bb l ⟨#[58]⟩ ⟨D.toArray⟩ w2 f1 (by rw [size_mk D]; show l.length + 1 + _ + 2 ≤ _; omega) (by omega)).mono ?_
      rintro e w3 ⟨rfl, h3, b3, _⟩
      go_wp2
      go_end0
      exact ⟨rfl, by rw [HE.out]; exact h3, (b01.trans (b0.mono sA)).trans b3⟩
    have e3 : (x.kind == 3) = false := by simp [k3]
    by_cases k4 : x.kind = 4
    · have e4 : (x.kind == 4) = true := by simp [k4]
      have f := HF.out
      rw [fields_bulk x k4] at f
      simp at f
      have hs : x.s.size ≤ 200 := f.1.2
      have HE : Hid (text L m = bulkText x.s) := by
        unfold Hid
        rw [HT.out, ownText, if_neg k1, if_neg k2, if_neg k3, if_pos k4, f.2]
        simp
      clear k1 k2 k3 k4 f
      have htA := ht.below b01 hw0
      go_enter Tryd.func23, Tryd.ntmps23
      go_wp2_with fail
      refine (writeBulk_any w0.heap.size bb l x.s _ hB1 (by omega) (by omega) sA htA).mono ?_
      rintro e w1 ⟨rfl, h1, b1⟩
      go_wp2
      go_end0
      exact ⟨rfl, by rw [HE.out]; exact h1, b01.trans b1⟩
    have e4 : (x.kind == 4) = false := by simp [k4]
    by_cases k5 : x.kind = 5
    · have e5 : (x.kind == 5) = true := by simp [k5]
      have f := HF.out
      rw [fields_null x k5] at f
      simp at f
      have HE : Hid (text L m = [] ++ [36] ++ [45, 49] ++ crlf) := by
        unfold Hid
        rw [HT.out, ownText, if_neg k1, if_neg k2, if_neg k3, if_neg k4, if_pos k5, f.2]
        simp [crlf]
      clear k1 k2 k3 k4 k5 f
      go_enter Tryd.func23, Tryd.ntmps23
      go_wp2_with fail
      refine (writeLine_k w0.heap.size bb l ⟨#[36]⟩ ⟨#[45, 49]⟩ _ hB1 (by show l.length + 1 + 2 + 2 ≤ _; omega) sA).mono ?_
      rintro e w1 ⟨rfl, h1, b1, _⟩
      go_wp2
      go_end0
      exact ⟨rfl, by rw [HE.out]; exact h1, b01.trans b1⟩
    have e5 : (x.kind == 5) = false := by simp [k5]
    by_cases k6 : x.kind = 6
    · have e6 : (x.kind == 6) = true := by simp [k6]
      have HE : Hid (text L m = headText x.kids.length ++ x.kids.flatMap fun k => text L k.toNat) := by
        unfold Hid
        rw [HT.out, ownText, if_neg k1, if_neg k2, if_neg k3, if_neg k4, if_neg k5]
      clear k1 k2 k3 k4 k5 k6 HT
      have htA := ht.below b01 hw0
      have hd := dec_len_le x.kids.length hkk
      go_enter Tryd.func23, Tryd.ntmps23
      go_wp2_with fail
      refine (Tryd.strconv_Itoa x.kids.length (by omega) (by omega) _ htA).mono ?_
      generalize w.alloc (.cells #[.int .i64 x.kind, .int .i64 x.num, .string x.s, .slice ak x.kids.length ck] 44) = W0 at *
      rintro e w2 ⟨rfl, k1, os1, rfl⟩
      rw [Lib.itoa_nonneg]
      have b0 := below_grow W0.heap.size W0 (Nat.le_refl _) k1 os1
      have f1 := builder_grown hB1 b0
      have r1 := rA.below b0 rA.lt
      have s0 := b0.size
      generalize grow (W0.drewN k1) os1 = w2 at *
      go_wp2_with fail
      refine (writeLine_k w0.heap.size bb l ⟨#[42]⟩ ⟨(Lib.decDigits x.kids.length).toArray⟩ w2 f1 (by rw [size_mk (Lib.decDigits x.kids.length)]; show l.length + 1 + _ + 2 ≤ _; omega) (by omega)).mono ?_
      rintro e w3 ⟨rfl, h3, b3, o3⟩
      have r3 := row_kept r1 o3 (by omega) (by decide)
      have d3 := r3.cell 3
      simp at d3
      have b03 := (b01.trans (b0.mono sA)).trans b3
      have f3 : Lib.IsBuilderF 40 5 w0.heap.size bb (Lib.byteCells (l ++ headText x.kids.length)) w3 := by
        have e : headText x.kids.length = [] ++ [42] ++ Lib.decDigits x.kids.length ++ crlf := by simp [headText]
        rw [e]
        exact h3
      clear h3 b3 o3 r3 r1 f1 b0 rA hB1 hB bA b01 sA
      have hhl : (headText x.kids.length).length + (x.kids.flatMap fun k => text L k.toNat).length = (text L m).length := by
        rw [HE.out, List.length_append]
      have hl2 : l.length + ((headText x.kids.length).length + (x.kids.flatMap fun k => text L k.toNat).length) ≤ 1099511627776 := by rw [hhl]; exact hl
      clear hhl hl hlm
      obtain rfl := h0.addr (by omega)
      have hlow0 := h0.low (by omega)
      go_wp2_with fail
      go_loopw [7, 50] (fun _ i wr => ∃ (j : Nat), j ≤ x.kids.length ∧ i = .int .i64 j ∧ Lib.IsBuilderF 40 5 w0.heap.size bb (Lib.byteCells (l ++ headText x.kids.length ++ kidsText L x.kids j)) wr ∧ Below w0.heap.size w0 wr) (fun _ i _ => x.kids.length - (intOf i).toNat)
      case atStart => exact ⟨0, by omega, rfl, by simpa [kidsText] using f3, b03⟩
      case round =>
        obtain ⟨j, hj, rfl, fr, br⟩ := hrel
        have hkl := kidsText_len L x.kids j
        clear f3 b03 d3
        by_cases hlt : j < x.kids.length
        · obtain rfl := hints.addr (by omega)
          have hc := (ints_below hints br).cell j hlt
          have hy : 0 ≤ x.kids.getD j 0 ∧ x.kids.getD j 0 < (m : Int) := HR.out _ (by rw [List.getD_eq_getElem?_getD, List.getElem?_eq_getElem hlt]; exact List.getElem_mem _)
          have HS : Hid (_ = _) := kidsText_succ L x.kids j hlt
          generalize x.kids.getD j 0 = y at *
          obtain ⟨hy0, hy1⟩ := hy
          obtain ⟨p, rfl⟩ := Int.eq_ofNat_of_zero_le hy0
          rw [Int.toNat_natCast] at HS
          have hkl2 := kidsText_len L x.kids (j + 1)
          rw [HS.out, List.length_append] at hkl2
          obtain ⟨akp, bkp, okp, ckp, hndp⟩ := h0.node p (by omega)
          have hm' := nd_below hndp hlow0 br
          have c0 := hm'.c0
          have c1 := hm'.c1
          have c2 := hm'.c2
          have c3 := hm'.c3
          have HCp : Hid (Calls Tryd.prog 23 #[.pointer (some ⟨bb, 0, none⟩), .slice (some ⟨b, off, none⟩) n c, .agg #[.int .i64 (L.getD p nd0).kind, .int .i64 (L.getD p nd0).num, .string (L.getD p nd0).s, .slice akp (L.getD p nd0).kids.length ckp]] wr fun e w' => e = .returned (.tuple #[]) ∧ Lib.IsBuilderF 40 5 w0.heap.size bb (Lib.byteCells (l ++ headText x.kids.length ++ kidsText L x.kids j ++ text L p)) w' ∧ Below w0.heap.size w0 w') := IH.out p (by omega) akp bkp okp ckp hndp wr _ br fr (by rw [List.length_append, List.length_append]; omega)
          clear hm' hndp hkl hkl2 hl2
          generalize L.getD p nd0 = xp at *
          have hpn : (p : Int) < n := by omega
          go_wp2_with fail
          refine HCp.out.mono ?_
          rintro e w4 ⟨rfl, f4, b4⟩
          rw [List.append_assoc (l ++ headText x.kids.length), ← HS.out] at f4
          go_wp2
          go_roundw
          case rel => exact ⟨j + 1, by omega, by go_num, f4, b4⟩
          case measure => simp [intOf] <;> omega
        · obtain rfl : j = x.kids.length := by omega
          go_wp2
          go_end0
          refine ⟨rfl, ?_, br⟩
          rw [HE.out, ← List.append_assoc]
          have e : kidsText L x.kids x.kids.length = x.kids.flatMap fun k => text L k.toNat := by rw [kidsText, List.take_length]
          rw [← e]
          exact fr
    · exfalso
      have := fields_else x k1 k2 k3 k4 k5 k6
      rw [HF.out] at this
      cases this

def respText (L : List Nd) : List UInt8 := if specB L then text L (L.length - 1) else []

set_option maxHeartbeats 1000000 in
theorem specText9 (a : Option Addr) (b off n c : Nat) (L : List Nd) (w : World) (h : RespsIn w a b off n L) (hn : n ≤ 1048576) (hk : ∀ i, i < n → (L.getD i nd0).kids.length ≤ 1048576)
    (HO : Calls Tryd.prog 12 #[.slice a n c] w fun e w' => e = .returned (.bool (specB L)) ∧ Below w.heap.size w w') :
    Calls Tryd.prog 10 #[.slice a n c] w fun e w' => e = .returned (.string ⟨(respText L).toArray⟩) ∧ Below w.heap.size w w' := by
  have HO' : Hid (Calls Tryd.prog 12 #[.slice a n c] w fun e w' => e = .returned (.bool (specB L)) ∧ Below w.heap.size w w') := HO
  clear HO
  have hl := h.len
  cases hs : specB L with
  | false =>
    have HS : Hid (specB L = false) := hs
    clear hs
    go_enter Tryd.func10, Tryd.ntmps10
    go_wp2_with fail
    refine HO'.out.mono ?_
    rintro e w1 ⟨rfl, b1⟩
    rw [HS.out]
    go_wp2
    go_ret
    exact ⟨ret_str (by rw [respText, HS.out]; rfl), b1⟩
  | true =>
    have HS : Hid (specB L = true) := hs
    have R := right_of L n hl hs hk
    have hb : 1 ≤ n ∧ n ≤ 1000 := by
      have h1 := hs
      simp only [specB, Bool.and_eq_true, decide_eq_true_eq] at h1
      rw [hl] at h1
      exact h1.1.1
    clear hs
    have e1 : ((n : Int) - 1) = ((n - 1 : Nat) : Int) := by omega
    go_enter Tryd.func10, Tryd.ntmps10
    go_wp2_with fail
    refine HO'.out.mono ?_
    rintro e w1 ⟨rfl, b1⟩
    rw [HS.out]
    have HT : Hid (Calls Tryd.prog 25 #[.slice a n c, .int .i64 ((n - 1 : Nat) : Int)] w1 fun e w' => e = .returned (.string ⟨(text L (n - 1)).toArray⟩) ∧ Below w1.heap.size w1 w') := text33 a b off n c L hb.2 R (n - 1) (by omega) w1 (resps_below h b1)
    rw [← e1] at HT
    obtain ⟨hb1, hb2⟩ := hb
    clear e1 HO' R
    go_wp2_with fail
    refine HT.out.mono ?_
    rintro e w2 ⟨rfl, b2⟩
    go_wp2
    go_ret
    exact ⟨ret_str (by rw [respText, HS.out, if_pos rfl, hl]), b1.trans (b2.mono b1.size)⟩

set_option maxHeartbeats 1000000 in
theorem implText11 (a : Option Addr) (b off n c : Nat) (L : List Nd) (w : World) (h : RespsIn w a b off n L) (hk : ∀ i, i < n → (L.getD i nd0).kids.length ≤ 1048576) (ht : Tab w) (hw : 0 < w.heap.size)
    (HO : Calls Tryd.prog 11 #[.slice a n c] w fun e w' => e = .returned (.bool (specB L)) ∧ Below w.heap.size w w') :
    Calls Tryd.prog 9 #[.slice a n c] w fun e w' => e = .returned (.string ⟨(respText L).toArray⟩) ∧ Below w.heap.size w w' := by
  have HO' : Hid (Calls Tryd.prog 11 #[.slice a n c] w fun e w' => e = .returned (.bool (specB L)) ∧ Below w.heap.size w w') := HO
  clear HO
  have hl := h.len
  cases hs : specB L with
  | false =>
    have HS : Hid (specB L = false) := hs
    clear hs
    go_enter Tryd.func9, Tryd.ntmps9
    go_wp2_with fail
    refine HO'.out.mono ?_
    rintro e w1 ⟨rfl, b1⟩
    rw [HS.out]
    go_wp2
    go_ret
    exact ⟨ret_str (by rw [respText, HS.out]; rfl), b1⟩
  | true =>
    have HS : Hid (specB L = true) := hs
    have R := right_of L n hl hs hk
    have hb : 1 ≤ n ∧ n ≤ 1000 := by
      have h1 := hs
      simp only [specB, Bool.and_eq_true, decide_eq_true_eq] at h1
      rw [hl] at h1
      exact h1.1.1
    clear hs
    obtain ⟨hb1, hb2⟩ := hb
    obtain ⟨m, rfl⟩ : ∃ m, n = m + 1 := ⟨n - 1, by omega⟩
    obtain rfl := h.addr (by omega)
    go_enter Tryd.func9, Tryd.ntmps9
    go_wp2_with fail
    refine HO'.out.mono ?_
    rintro e w1 ⟨rfl, b1⟩
    rw [HS.out]
    have h1 := resps_below h b1
    have s1 := b1.size
    obtain ⟨ak, bk, ok, ck, hnd⟩ := h1.node m (by omega)
    have bA : Below w1.heap.size w1 (w1.alloc (.cells #[.pointer none, .slice none 0 0] 40)) := (Below.refl _ _).alloc (Nat.le_refl _) _
    have hA := nd_below hnd (h1.low (by omega)) bA
    have f0 := Lib.IsBuilderF.of (Lib.fresh_isBuilder 40 5 w1)
    have hsm := R.small m (by omega)
    have HC : Hid (Calls Tryd.prog 23 #[.pointer (some ⟨w1.heap.size, 0, none⟩), .slice (some ⟨b, off, none⟩) (m + 1) c, .agg #[.int .i64 (L.getD m nd0).kind, .int .i64 (L.getD m nd0).num, .string (L.getD m nd0).s, .slice ak (L.getD m nd0).kids.length ck]] (w1.alloc (.cells #[.pointer none, .slice none 0 0] 40)) fun e w' => e = .returned (.tuple #[]) ∧ Lib.IsBuilderF 40 5 w1.heap.size w1.heap.size (Lib.byteCells ([] ++ text L m)) w' ∧ Below w1.heap.size w1 w') :=
      reply36 _ b off (m + 1) c L hb2 R w1 h1 (ht.below b1 hw) (by omega) w1.heap.size m (by omega) ak bk ok ck hnd _ [] bA f0 (by simp; omega)
    have c0 := hnd.c0
    have c1 := hnd.c1
    have c2 := hnd.c2
    have c3 := hnd.c3
    have hlow := h1.low (by omega)
    have HL : Hid (L.length - 1 = m) := by unfold Hid; omega
    clear hnd hA HO' R hsm
    generalize L.getD m nd0 = x at *
    go_wp2_with fail
    refine HC.out.mono ?_
    rintro e w2 ⟨rfl, f2, b2⟩
    rw [List.nil_append] at f2
    go_wp2_with fail
    refine (Tryd.Builder_String_any_k w1.heap.size w1.heap.size _ w2 f2 b2.size).mono ?_
    rintro e w3 ⟨rfl, _, b3, _⟩
    go_wp2
    go_ret
    exact ⟨ret_str (by rw [respText, HS.out, if_pos rfl, HL.out]), b1.trans ((b2.trans b3).mono s1)⟩
end Go.Proofs.YtcgeafdakaeicaaDoor.Rp
