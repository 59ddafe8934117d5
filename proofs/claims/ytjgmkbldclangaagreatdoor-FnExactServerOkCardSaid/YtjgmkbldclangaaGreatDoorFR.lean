/- The reader's request at this dump. ReadRequest at this dump. -/
import Derived.Test.YtjgmkbldclangaaGreatDoorFFields
import Derived.Test.YtjgmkbldclangaaGreatDoorFAtt
namespace Go.Proofs.YtjgmkbldclangaaGreatDoor.Fd
open Go.RowKit Go.Sort Go.Lib

def okArgsL (ws : List (List UInt8)) : Bool := decide (ws.length ≤ 16) && ws.all fun t => decide (t.length ≤ 200)

theorem okArgs_L (ws : List ByteArray) : okArgs ws = okArgsL (ws.map fun t => t.data.toList) := by
  unfold okArgs okArgsL
  rw [List.length_map, List.all_map]
  congr 1

/-- The words of a line, by its bytes. -/
def lineWords (l : List UInt8) : Int ⊕ (List (List UInt8) × Nat) :=
  if 300 < Lib.indexByte l 10 then .inl 2
  else if Lib.indexByte l 10 < 0 then .inl (if 300 < l.length then 2 else 1)
  else if okArgsL (wordsOf [] (Lib.trimSuffix (l.take (Lib.indexByte l 10).toNat) [13])) then
    .inr (wordsOf [] (Lib.trimSuffix (l.take (Lib.indexByte l 10).toNat) [13]), (Lib.indexByte l 10).toNat + 1)
  else .inl 2

theorem indexByte_fits : ∀ (l : List UInt8) (c : UInt8), 0 ≤ Lib.indexByte l c → Lib.indexByte l c + 1 ≤ l.length
  | [], c, h => by simp [Lib.indexByte] at h
  | b :: l, c, h => by
    unfold Lib.indexByte at h ⊢
    by_cases hp : (b == c) = true
    · rw [if_pos hp]; simp only [List.length_cons]; omega
    · rw [if_neg hp] at h ⊢
      by_cases hi : (Lib.indexByte l c == -1) = true
      · rw [if_pos hi] at h; omega
      · rw [if_neg hi] at h ⊢
        have hge := Lib.indexByte_ge l c
        have hne : Lib.indexByte l c ≠ -1 := by simpa using hi
        have := indexByte_fits l c (by omega)
        simp only [List.length_cons]
        omega

theorem words_any (s : ByteArray) (at_ rb : Nat) (w : World) (hs : s.size ≤ 2097152) (ha : at_ ≤ s.size) (h : RdAt w rb s at_) :
    Calls Tryz.prog 102 #[.pointer (some ⟨rb, 0, none⟩)] w fun e w' => ArgsEnd w rb s at_ (lineWords (s.data.toList.drop at_)) e w' := by
  have hlen : (s.data.toList.drop at_).length = s.size - at_ := by rw [List.length_drop, ← Lib.size_eq]
  unfold lineWords
  by_cases h1 : 300 < Lib.indexByte (s.data.toList.drop at_) 10
  · rw [if_pos h1]
    exact (words_bad s at_ rb w hs ha h h1).mono fun e w' ⟨he, hb⟩ => ⟨he, grown_below (grown_refl w _) hb⟩
  · rw [if_neg h1]
    by_cases h2 : Lib.indexByte (s.data.toList.drop at_) 10 < 0
    · rw [if_pos h2, hlen]
      exact (words_open s at_ rb w hs ha h h2).mono fun e w' ⟨he, hb⟩ => ⟨he, grown_below (grown_refl w _) hb⟩
    · rw [if_neg h2]
      have hfit := indexByte_fits _ 10 (Int.not_lt.1 h2)
      rw [hlen] at hfit
      obtain ⟨n, hn⟩ := Int.eq_ofNat_of_zero_le (Int.not_lt.1 h2)
      have ht : (Lib.indexByte (s.data.toList.drop at_) 10).toNat = n := by rw [hn]; rfl
      rw [ht]
      have hb := wordsOf_bound (Lib.trimSuffix ((s.data.toList.drop at_).take n) [13]) []
      have hf := fields_words ⟨(Lib.trimSuffix ((s.data.toList.drop at_).take n) [13]).toArray⟩
      have htl := trimSuffix_le ((s.data.toList.drop at_).take n) [13]
      rw [List.length_take, hlen] at htl
      simp only [] at hf
      have := words_line s at_ rb n w hs ha h hn (by omega) (by omega) _ rfl (by
        have := congrArg List.length hf
        rw [List.length_map] at this
        rw [this]
        have := hb.2.1 rfl
        omega) (by
        intro x hx
        have hm : x.data.toList ∈ wordsOf [] (Lib.trimSuffix ((s.data.toList.drop at_).take n) [13]) := by
          rw [← hf]; exact List.mem_map_of_mem hx
        have := hb.2.2 _ hm
        rw [Lib.size_eq]
        simp only [List.length_nil, Nat.zero_add] at this
        omega)
      rw [okArgs_L, hf] at this
      exact this

/-- A request at the front. -/
def requestM (l : List UInt8) : Int ⊕ (List (List UInt8) × Nat) :=
  match l with
  | [] => .inl 1
  | b :: r => if b = 42 then bulksAllM (b :: r) else lineWords (b :: r)

theorem ArgsEnd.drew {w w' : World} {q rb at_ : Nat} {s : ByteArray} {e : Ending} : ∀ {m : Int ⊕ (List (List UInt8) × Nat)}, ArgsEnd (w.drewN q) rb s at_ m e w' → ArgsEnd w rb s at_ m e w'
  | .inl _, ⟨he, hg⟩ => ⟨he, grown_trans (grown_drewN w q _) hg⟩
  | .inr (_, _), ⟨v, he, ho, hr, hl, hg⟩ => ⟨v, he, ho, hr, hl, grown_trans (grown_drewN w q _) hg⟩

theorem ArgsEnd.cases {w w' : World} {rb at_ : Nat} {s : ByteArray} {e : Ending} : ∀ {m : Int ⊕ (List (List UInt8) × Nat)}, ArgsEnd w rb s at_ m e w' → (∃ c, e = gaveUp c) ∨ ∃ v, e = .returned v
  | .inl c, ⟨he, _⟩ => .inl ⟨c, he⟩
  | .inr (_, _), ⟨v, he, _⟩ => .inr ⟨v, he⟩

set_option maxHeartbeats 1000000 in
theorem request_any (s : ByteArray) (rb : Nat) (w : World) (hs : s.size ≤ 2097152) (hr : Ready w) (h : RdAt w rb s 0) (hrb : 6 ≤ rb) :
    Calls Tryz.prog 98 #[.pointer (some ⟨rb, 0, none⟩)] w fun e w' => ArgsEnd w rb s 0 (requestM s.data.toList) e w' := by
  have c0 := h.cell 0
  have c1 := h.cell 1
  simp at c0 c1
  have HB : Hid (∀ q, Calls Tryz.prog 101 #[.pointer (some ⟨rb, 0, none⟩)] (w.drewN q) fun e w' => ArgsEnd (w.drewN q) rb s 0 (bulksAllM s.data.toList) e w') := fun q => bulks_any s 0 rb (w.drewN q) hs (by omega) (hr.below (below_drewN (Below.refl _ _) _)) h hrb
  have HW : Hid (∀ q, Calls Tryz.prog 102 #[.pointer (some ⟨rb, 0, none⟩)] (w.drewN q) fun e w' => ArgsEnd (w.drewN q) rb s 0 (lineWords s.data.toList) e w') := fun q => words_any s 0 rb (w.drewN q) hs (by omega) h
  cases hl : s.data.toList with
  | nil =>
    have hz : s.size = 0 := by rw [Lib.size_eq, hl]; rfl
    obtain rfl : s = ⟨#[]⟩ := str_of s [] hl
    clear hl HB HW
    go_enter Tryz.func98, Tryz.ntmps98
    go_wp2
    go_quiet ((fail))
    go_wp2_with fail
    refine (giveUp_any 1 _).mono ?_
    rintro e w2 ⟨rfl, rfl⟩
    unfold gaveUp
    go_wp2
    exact ⟨rfl, rfl, grown_drewN _ _ _⟩
  | cons b r =>
    have hz : s.size = r.length + 1 := by rw [Lib.size_eq, hl]; rfl
    have hb256 : b.toNat < 256 := b.toNat_lt
    rw [hl] at HB HW
    obtain rfl : s = ⟨(b :: r).toArray⟩ := str_of s _ hl
    have hex : ((⟨(b :: r).toArray⟩ : ByteArray).extract 0 (r.length + 1)) = ⟨(b :: r).toArray⟩ := str_of _ _ (by rw [Lib.extract_data]; simp)
    have h00 : ∀ hx, (⟨(b :: r).toArray⟩ : ByteArray)[0]'hx = b := fun _ => rfl
    by_cases hbm : b = 42
    · have HM : Hid (requestM (b :: r) = bulksAllM (b :: r)) := if_pos hbm
      have hbz : ((b.toNat : Int) == 42) = true := by rw [hbm]; rfl
      rw [HM.out]
      clear hl hbm
      go_enter Tryz.func98, Tryz.ntmps98
      go_wp2
      go_quiet ((fail))
      go_wp2_with fail
      refine (HB.out _).mono ?_
      intro e w1 hE
      have HE : Hid (ArgsEnd _ _ _ _ _ e w1) := hE.drew
      rcases hE.cases with ⟨c, rfl⟩ | ⟨v, rfl⟩
      · clear hE
        unfold gaveUp
        go_wp2
        exact ⟨rfl, HE.out⟩
      · clear hE
        go_wp2
        go_ret
        exact HE.out
    · have HM : Hid (requestM (b :: r) = lineWords (b :: r)) := if_neg hbm
      have hbz : ((b.toNat : Int) == 42) = false := by
        rw [beq_eq_false_iff_ne]
        intro e
        exact hbm (UInt8.toNat_inj.1 (by simp; omega))
      rw [HM.out]
      clear hl hbm
      go_enter Tryz.func98, Tryz.ntmps98
      go_wp2
      go_quiet ((fail))
      go_wp2_with fail
      refine (HW.out _).mono ?_
      intro e w1 hE
      have HE : Hid (ArgsEnd _ _ _ _ _ e w1) := hE.drew
      rcases hE.cases with ⟨c, rfl⟩ | ⟨v, rfl⟩
      · clear hE
        unfold gaveUp
        go_wp2
        exact ⟨rfl, HE.out⟩
      · clear hE
        go_wp2
        go_ret
        exact HE.out
end Go.Proofs.YtjgmkbldclangaaGreatDoor.Fd

namespace Go.Proofs.YtjgmkbldclangaaGreatDoor.Fd
open Go.RowKit Go.Sort Go.Lib

set_option maxHeartbeats 1000000 in
theorem clos_gave (s : ByteArray) (rb pb ab : Nat) (c : Int) (w : World) (hs : s.size ≤ 2097152) (hr : Ready w) (h : RdAt w rb s 0) (hrb : 6 ≤ rb) (hp : RowAt w pb 150 #[.pointer (some ⟨rb, 0, none⟩)]) (hm : requestM s.data.toList = .inl c) :
    Calls Tryz.prog 97 #[.pointer (some ⟨pb, 0, none⟩), .pointer (some ⟨ab, 0, none⟩)] w fun e w' => e = gaveUp c ∧ w.grownBy w' (some rb) := by
  have c0 := hp.cell 0
  simp at c0
  have HC := request_any s rb w hs hr h hrb
  rw [hm] at HC
  have HC' : Hid (Calls Tryz.prog 98 #[.pointer (some ⟨rb, 0, none⟩)] w fun e w' => e = gaveUp c ∧ w.grownBy w' (some rb)) := HC
  clear HC hm
  go_enter Tryz.func97, Tryz.ntmps97
  go_wp2_with fail
  refine HC'.out.mono ?_
  rintro e w1 ⟨rfl, g1⟩
  unfold gaveUp
  go_wp2
  exact ⟨rfl, rfl, g1⟩

set_option maxHeartbeats 1000000 in
theorem clos_done (s : ByteArray) (rb pb ab : Nat) (ts : List (List UInt8)) (u : Nat) (w : World) (hs : s.size ≤ 2097152) (hr : Ready w) (h : RdAt w rb s 0) (hrb : 6 ≤ rb) (hp : RowAt w pb 150 #[.pointer (some ⟨rb, 0, none⟩)]) (ha : RowAt w ab 52 #[.slice none 0 0]) (hab : ab ≠ rb) (hm : requestM s.data.toList = .inr (ts, u)) :
    Calls Tryz.prog 97 #[.pointer (some ⟨pb, 0, none⟩), .pointer (some ⟨ab, 0, none⟩)] w fun e w' => e = .returned (.tuple #[]) ∧ ∃ v w1, w' = w1.setCell ⟨ab, 0, none⟩ v ∧ w1.ownsRow w.heap.size 9 1 v ts.length (strVals ts) ∧ RdAt w1 rb s u ∧ u ≤ s.size ∧ w.grownBy w1 (some rb) := by
  have c0 := hp.cell 0
  simp at c0
  have HC := request_any s rb w hs hr h hrb
  rw [hm] at HC
  have HC' : Hid (Calls Tryz.prog 98 #[.pointer (some ⟨rb, 0, none⟩)] w fun e w' => ∃ v, e = .returned v ∧ w'.ownsRow w.heap.size 9 1 v ts.length (strVals ts) ∧ RdAt w' rb s (0 + u) ∧ 0 + u ≤ s.size ∧ w.grownBy w' (some rb)) := HC
  clear HC hm
  go_enter Tryz.func97, Tryz.ntmps97
  go_wp2_with fail
  refine HC'.out.mono ?_
  rintro e w1 ⟨v, rfl, ho, r1, hu, g1⟩
  have a1 : RowAt w1 ab 52 #[.slice none 0 0] := (g1.block ab ha.lt (by simpa using hab)).trans ha
  have ac := a1.cell 0
  have af := a1.frozen 0
  simp at ac
  have H2 : Hid (∃ v' w1', w1.setCell ⟨ab, 0, none⟩ v = w1'.setCell ⟨ab, 0, none⟩ v' ∧ w1'.ownsRow w.heap.size 9 1 v' ts.length (strVals ts) ∧ RdAt w1' rb s u ∧ u ≤ s.size ∧ w.grownBy w1' (some rb)) := ⟨v, w1, rfl, ho, by simpa using r1, by omega, g1⟩
  obtain ⟨a, n, cp, rfl⟩ : ∃ a n cp, v = .slice a n cp := by
    rcases Joins.ownsRow_forms ho with ⟨e, _⟩ | ⟨g, cap, e⟩
    · exact ⟨_, _, _, e⟩
    · exact ⟨_, _, _, e⟩
  clear ho r1 hu g1
  go_wp2
  go_end0
  exact ⟨rfl, H2.out⟩

theorem clos_enters (caps : Array Value) (_h : caps.size = 2) : ∀ w, (callFunc 97 caps).run Tryz.prog w = .ok (.enter 97 caps) w := fun w => enters_of Tryz.func97 (by kernel_rfl) rfl caps w

/-- How a reading of a request ends. -/
def ReqEnd (w : World) : Int ⊕ (List (List UInt8) × Nat) → Ending → World → Prop
  | .inl c, e, w' => e = .returned (.tuple #[.slice none 0 0, .int .i64 0, .int .i64 c]) ∧ Below w.heap.size w w'
  | .inr (ts, u), e, w' => ∃ v, e = .returned (.tuple #[v, .int .i64 u, .int .i64 0]) ∧ w'.ownsRow w.heap.size 9 1 v ts.length (strVals ts) ∧ Below w.heap.size w w'

/-- The world in which the reading is attempted. -/
abbrev W3 (w : World) (s : ByteArray) : World :=
  (((w.alloc (.cells #[.string s, .int .i64 0] 152)).alloc (.cells #[.pointer (some ⟨w.heap.size, 0, none⟩)] 150)).alloc (.cells #[.slice none 0 0] 52))
abbrev W4 (w : World) (s : ByteArray) : World := (W3 w s).alloc (.cells #[.int .i64 0] 2)

theorem W3_size (w : World) (s : ByteArray) : (W3 w s).heap.size = w.heap.size + 3 := by simp [W3]
theorem W4_size (w : World) (s : ByteArray) : (W4 w s).heap.size = w.heap.size + 4 := by simp [W4]
theorem W4_below (w : World) (s : ByteArray) : Below w.heap.size w (W4 w s) := (Joins.below_alloc3 w _ _ _).alloc (by simp; omega) _
theorem W4_rd (w : World) (s : ByteArray) : RdAt (W4 w s) w.heap.size s 0 :=
  RowAt.below (RowAt.new w 152 #[.string s, .int .i64 0]) (Joins.below_alloc3 _ _ _ _) (by simp)
theorem W4_ptr (w : World) (s : ByteArray) : RowAt (W4 w s) (w.heap.size + 1) 150 #[.pointer (some ⟨w.heap.size, 0, none⟩)] := by
  have := RowAt.new (w.alloc (.cells #[.string s, .int .i64 0] 152)) 150 #[.pointer (some ⟨w.heap.size, 0, none⟩)]
  have h2 := RowAt.below this (Joins.below_alloc2 _ (.cells #[.slice none 0 0] 52) (.cells #[.int .i64 0] 2)) (by simp)
  simpa using h2
theorem W4_args (w : World) (s : ByteArray) : RowAt (W4 w s) (w.heap.size + 1 + 1) 52 #[.slice none 0 0] := by
  have := RowAt.new ((w.alloc (.cells #[.string s, .int .i64 0] 152)).alloc (.cells #[.pointer (some ⟨w.heap.size, 0, none⟩)] 150)) 52 #[.slice none 0 0]
  have h2 := RowAt.below this (Joins.below_alloc1 _ (.cells #[.int .i64 0] 2)) (by simp)
  simpa using h2
theorem W4_code (w : World) (s : ByteArray) : RowAt (W4 w s) (W3 w s).heap.size 2 #[.int .i64 0] := RowAt.new (W3 w s) 2 #[.int .i64 0]

theorem code_kept {w w' : World} {rb k : Nat} (hk : RowAt w k 2 #[.int .i64 0]) (hne : k ≠ rb) (hg : w.grownBy w' (some rb)) : RowAt w' k 2 #[.int .i64 0] :=
  (hg.block k hk.lt (by simpa using hne)).trans hk

theorem att_gave (s : ByteArray) (c : Int) (w : World) (hs : s.size ≤ 2097152) (hr : Ready w) (hm : requestM s.data.toList = .inl c) :
    Calls Tryz.prog 96 #[.func (.func 97) #[] #[.pointer (some ⟨w.heap.size + 1, 0, none⟩), .pointer (some ⟨w.heap.size + 1 + 1, 0, none⟩)]] (W3 w s) fun e w' => e = .returned (.int .i64 c) ∧ Below w.heap.size w w' := by
  have hb4 := W4_below w s
  have h6 := hr.six
  have hsz := W3_size w s
  refine (attempt_gave 97 _ c (W3 w s) (fun w' => (W4 w s).grownBy w' (some w.heap.size)) (clos_enters _ rfl) ?_ ?_).mono ?_
  · intro w' hg
    have hk := code_kept (W4_code w s) (by omega) hg
    exact ⟨by simpa using hk.cell 0, hk.frozen 0⟩
  · exact clos_gave s w.heap.size (w.heap.size + 1) (w.heap.size + 1 + 1) c (W4 w s) hs (hr.below (hb4.mono h6)) (W4_rd w s) h6 (W4_ptr w s) hm
  · rintro e w' ⟨rfl, w1, hg, rfl⟩
    refine ⟨rfl, ?_⟩
    exact (hb4.trans (below_of_grown hg (Nat.le_refl _) (by rw [W4_size]; omega))).setCell (by rw [hsz]; simp) _

set_option maxHeartbeats 1000000 in
theorem readReq_gave (s : ByteArray) (c : Int) (hc : c ≠ 0) (w : World) (hs : s.size ≤ 2097152) (hr : Ready w) (hm : requestM s.data.toList = .inl c) :
    Calls Tryz.prog 93 #[.string s] w fun e w' => ReqEnd w (.inl c) e w' := by
  have hmf : ∀ (fn : Fn) (first cap : Array Value) (w : World), (Instr.makeFunc fn first cap).run Tryz.prog w = .ok (.func fn first cap) w := fun _ _ _ _ => rfl
  have hcz : (c != 0) = true := by simpa using hc
  have HM : Hid (requestM s.data.toList = .inl c) := hm
  clear hm
  go_enter Tryz.func93, Tryz.ntmps93
  go_wp2_with fail
  refine (att_gave s c w hs hr HM.out).mono ?_
  rintro e w1 ⟨rfl, b1⟩
  go_wp2
  go_ret3
  exact ⟨rfl, b1⟩

theorem att_done (s : ByteArray) (ts : List (List UInt8)) (u : Nat) (w : World) (hs : s.size ≤ 2097152) (hr : Ready w) (hm : requestM s.data.toList = .inr (ts, u)) :
    Calls Tryz.prog 96 #[.func (.func 97) #[] #[.pointer (some ⟨w.heap.size + 1, 0, none⟩), .pointer (some ⟨w.heap.size + 1 + 1, 0, none⟩)]] (W3 w s) fun e w' => e = .returned (.int .i64 0) ∧ ∃ v, RdAt w' w.heap.size s u ∧ RowAt w' (w.heap.size + 1) 150 #[.pointer (some ⟨w.heap.size, 0, none⟩)] ∧ RowAt w' (w.heap.size + 1 + 1) 52 #[v] ∧ w'.ownsRow w.heap.size 9 1 v ts.length (strVals ts) ∧ u ≤ s.size ∧ Below w.heap.size w w' := by
  have hb4 := W4_below w s
  have h6 := hr.six
  have hsz := W3_size w s
  have hsz4 := W4_size w s
  refine (attempt_done 97 _ (W3 w s) (fun w' => ∃ v w1, w' = w1.setCell ⟨w.heap.size + 1 + 1, 0, none⟩ v ∧ w1.ownsRow (W4 w s).heap.size 9 1 v ts.length (strVals ts) ∧ RdAt w1 w.heap.size s u ∧ u ≤ s.size ∧ (W4 w s).grownBy w1 (some w.heap.size)) (clos_enters _ rfl) ?_ ?_).mono ?_
  · rintro w' ⟨v, w1, rfl, _, _, _, hg⟩
    have hk := code_kept (W4_code w s) (by omega) hg
    have hk' : RowAt (w1.setCell ⟨w.heap.size + 1 + 1, 0, none⟩ v) (W3 w s).heap.size 2 #[.int .i64 0] := (Below.heap_setCell _ _ _ _ (by simp only; omega)).trans hk
    exact ⟨by simpa using hk'.cell 0, hk'.frozen 0⟩
  · exact clos_done s w.heap.size (w.heap.size + 1) (w.heap.size + 1 + 1) ts u (W4 w s) hs (hr.below (hb4.mono h6)) (W4_rd w s) h6 (W4_ptr w s) (W4_args w s) (by omega) hm
  · rintro e w' ⟨rfl, w1, ⟨v, w0, rfl, ho, hrd, hu, hg⟩, rfl⟩
    refine ⟨rfl, v, ?_, ?_, ?_, ?_, hu, ?_⟩
    · exact (Below.heap_setCell _ _ _ _ (by simp only; omega)).trans ((Below.heap_setCell _ _ _ _ (by simp only; omega)).trans hrd)
    · exact (Below.heap_setCell _ _ _ _ (by simp only; omega)).trans ((Below.heap_setCell _ _ _ _ (by simp only; omega)).trans ((hg.block _ (by rw [hsz4]; omega) (by simp)).trans (W4_ptr w s)))
    · have a0 : RowAt w0 (w.heap.size + 1 + 1) 52 #[.slice none 0 0] := (hg.block _ (by rw [hsz4]; omega) (by simp; omega)).trans (W4_args w s)
      have a1 : RowAt (w0.setCell ⟨w.heap.size + 1 + 1, 0, none⟩ v) (w.heap.size + 1 + 1) 52 #[v] := by simpa using a0.set 0 v
      exact (Below.heap_setCell _ _ _ _ (by simp only; omega)).trans a1
    · have o1 : w0.ownsRow (w.heap.size + 4) 9 1 v ts.length (strVals ts) := by rw [← hsz4]; exact ho
      exact Joins.ownsRow_le (ownsRow_setCell_below (ownsRow_setCell_below o1 (by simp only; omega) _) (by simp only; omega) _) (by omega)
    · exact ((hb4.trans (below_of_grown hg (Nat.le_refl _) (by rw [W4_size]; omega))).setCell (by simp only; omega) _).setCell (by rw [hsz]; simp) _

set_option maxHeartbeats 1000000 in
theorem readReq_done (s : ByteArray) (ts : List (List UInt8)) (u : Nat) (w : World) (hs : s.size ≤ 2097152) (hr : Ready w) (hm : requestM s.data.toList = .inr (ts, u)) :
    Calls Tryz.prog 93 #[.string s] w fun e w' => ReqEnd w (.inr (ts, u)) e w' := by
  have hmf : ∀ (fn : Fn) (first cap : Array Value) (w : World), (Instr.makeFunc fn first cap).run Tryz.prog w = .ok (.func fn first cap) w := fun _ _ _ _ => rfl
  have HM : Hid (requestM s.data.toList = .inr (ts, u)) := hm
  clear hm
  go_enter Tryz.func93, Tryz.ntmps93
  go_wp2_with fail
  refine (att_done s ts u w hs hr HM.out).mono ?_
  rintro e w1 ⟨rfl, v, hrd, hp, hv, ho, hu, b1⟩
  have c1 := hrd.cell 1
  have c2 := hp.cell 0
  have c3 := hv.cell 0
  simp at c1 c2 c3
  have H2 : Hid (w1.ownsRow w.heap.size 9 1 v ts.length (strVals ts)) := ho
  obtain ⟨a, n, cp, rfl⟩ : ∃ a n cp, v = .slice a n cp := by
    rcases Joins.ownsRow_forms ho with ⟨e, _⟩ | ⟨g, cap, e⟩
    · exact ⟨_, _, _, e⟩
    · exact ⟨_, _, _, e⟩
  clear ho
  go_wp2
  go_quiet ((fail))
  go_wp2
  go_ret3
  exact ⟨_, rfl, H2.out, below_drewN b1 _⟩
end Go.Proofs.YtjgmkbldclangaaGreatDoor.Fd
