/- FnRequests and FnReadRequests: the laws' walks. -/
import Derived.Test.YtoicbiinmmhcdaaDoorDrawR
namespace Go.Proofs.YtoicbiinmmhcdaaDoor
open Go.RowKit Go.Sort

theorem markedM_codes {l : List UInt8} {mark : UInt8} {most c : Int} (h : markedM l mark most = .inl c) : c = 1 ∨ c = 2 := by
  unfold markedM at h
  split at h
  · rename_i hm
    injection h with h
    subst h
    exact lineM_codes hm
  · injection h with h; omega
  · split at h
    · split at h
      · cases h
      · injection h with h; omega
    · injection h with h; omega

theorem bulksM_codes : ∀ (n : Nat) (l : List UInt8) (c : Int), bulksM n l = .inl c → c = 1 ∨ c = 2
  | 0, l, c, h => by rw [bulksM] at h; cases h
  | n + 1, l, c, h => by
    rw [bulksM] at h
    split at h
    · rename_i hm
      injection h with h
      subst h
      exact markedM_codes hm
    · split at h
      · rename_i hm
        injection h with h
        subst h
        exact someM_codes hm
      · split at h
        · rename_i hm
          injection h with h
          subst h
          exact bulksM_codes n _ _ hm
        · cases h

theorem requestM_codes {l : List UInt8} {c : Int} (h : requestM l = .inl c) : c = 1 ∨ c = 2 := by
  unfold requestM at h
  split at h
  · injection h with h; omega
  · split at h
    · unfold bulksAllM at h
      split at h
      · rename_i hm
        injection h with h
        subst h
        exact markedM_codes hm
      · split at h
        · rename_i hm
          injection h with h
          subst h
          exact bulksM_codes _ _ _ hm
        · cases h
    · unfold lineWords at h
      split at h
      · injection h with h; omega
      · split at h
        · injection h with h; split at h <;> omega
        · split at h
          · cases h
          · injection h with h; omega

theorem readReq (s : ByteArray) (w : World) (hs : s.size ≤ 1048576) (hr : Ready w) : Calls Tryd.prog 9 #[.string s] w (ReqEnd w (requestM s.data.toList)) := by
  cases hm : requestM s.data.toList with
  | inl c => exact readReq_gave s c (by have := requestM_codes hm; omega) w hs hr hm
  | inr q =>
    obtain ⟨ts, u⟩ := q
    exact readReq_done s ts u w hs hr hm

theorem big_any (a : Option Addr) (n c : Nat) (w : World) : Calls Tryd.prog 5 #[.slice a n c] w fun e w' => e = .returned (.bool (decide ((1048576 : Int) < (n : Int)))) ∧ w' = w := by
  go_enter Tryd.func5, Tryd.ntmps5
  go_wp2
  go_ret
  exact ⟨rfl, rfl⟩

set_option maxHeartbeats 400000 in
/-- sameTexts at two slices that read as the same strings: true; the world has but drawn. -/
theorem same_any (a a' : Option Addr) (b off b' off' n c c' : Nat) (ss : List ByteArray) (w : World) (h : StrsIn w a b off n ss) (h' : StrsIn w a' b' off' n ss) (hn : n ≤ 1048576) :
    Calls Tryd.prog 10 #[.slice a n c, .slice a' n c'] w fun e w' => e = .returned (.bool true) ∧ ∃ q, w' = w.drewN q := by
  go_enter Tryd.func10, Tryd.ntmps10
  go_wp2
  go_loopw [5] (fun i wr => ∃ (k q : Nat), k ≤ n ∧ i = .int .i64 k ∧ wr = w.drewN q) (fun i _ => n - (intOf i).toNat)
  case atStart => exact ⟨0, 0, by omega, rfl, rfl⟩
  case round =>
    obtain ⟨k, q, hk, rfl, rfl⟩ := hrel
    by_cases hlt : k < n
    · obtain rfl := h.addr (by omega)
      obtain rfl := h'.addr (by omega)
      have hc := h.cell k hlt
      have hc' := h'.cell k hlt
      generalize ss.getD k ByteArray.empty = s at *
      go_wp2
      go_quiet ((fail))
      go_wp2
      go_roundw
      case rel => exact ⟨k + 1, _, by omega, by go_num, rfl⟩
      case measure => simp [intOf]; omega
    · go_wp2
      go_ret
      exact ⟨rfl, q, rfl⟩

theorem vals_of (ss : List ByteArray) : strVals (ss.map fun s => s.data.toList) = ss.map Value.string := by
  unfold strVals
  rw [List.map_map]
  rfl

theorem strs_own {w : World} {B : Nat} {v : Value} {ss : List ByteArray} (h : w.ownsRow B 9 1 v ss.length (ss.map Value.string)) (hf : ∀ x ∈ ss, x.size ≤ 2000000) :
    ∃ a b off c, v = .slice a ss.length c ∧ StrsIn w a b off ss.length ss := strsIn_any h rfl hf

theorem strs_drew {w : World} {a : Option Addr} {b off n q : Nat} {ss : List ByteArray} (h : StrsIn w a b off n ss) : StrsIn (w.drewN q) a b off n ss := ⟨h.len, h.addr, h.low, h.cell, h.fit⟩

set_option maxHeartbeats 4000000 in
set_option maxRecDepth 100000 in
theorem requests_no (ra : Option Addr) (rn rc : Nat) (w : World) (hbig : 1048576 < rn) :
    Calls Tryd.prog 3 #[.slice ra rn rc] w fun e w' => e = .returned (.bool true) ∧ Below w.heap.size w w' := by
  have hd : decide ((1048576 : Int) < (rn : Int)) = true := decide_eq_true (by omega)
  go_enter Tryd.func3, Tryd.ntmps3
  go_wp2_with fail
  refine (big_any ra rn rc w).mono ?_
  rintro e w1 ⟨rfl, rfl⟩
  rw [hd]
  go_wp2
  go_ret
  exact ⟨rfl, Below.refl _ _⟩

/-- What is asked of the texts that were drawn. -/
structure Wrote (ss : List ByteArray) (t : ByteArray) (m : Nat) : Prop where
  small : t.size ≤ 5000
  len : ss.length = m
  fits : 0 < t.size → ∀ x ∈ ss, x.size ≤ 2000000
  impl : ∀ (x : Option Addr) (B off cap : Nat) (W : World), StrsIn W x B off m ss → Ready W → Calls Tryd.prog 7 #[.slice x m cap] W fun e w' => e = .returned (.string t) ∧ Below W.heap.size W w'
  spec : ∀ (x : Option Addr) (B off cap : Nat) (W : World), StrsIn W x B off m ss → Calls Tryd.prog 8 #[.slice x m cap] W fun e w' => e = .returned (.string t) ∧ Below W.heap.size W w'
  back : ∀ (W : World), Ready W → 0 < t.size → Calls Tryd.prog 9 #[.string (t ++ ⟨#[42]⟩)] W fun e w' => ∃ v, e = .returned (.tuple #[v, .int .i64 t.size, .int .i64 0]) ∧ w'.ownsRow W.heap.size 9 1 v m (ss.map Value.string) ∧ Below W.heap.size W w'
  cut : ∀ (W : World) (k : Nat), Ready W → k < t.size → Calls Tryd.prog 9 #[.string (t.extract 0 k)] W fun e w' => e = .returned (.tuple #[.slice none 0 0, .int .i64 0, .int .i64 1]) ∧ Below W.heap.size W w'

theorem wrote_of (ss : List ByteArray) (hm : ss.length ≤ 1048576) : Wrote ss ⟨(reqText ss).toArray⟩ ss.length where
  small := by rw [size_mk]; exact req_len ss
  len := rfl
  fits := fun h0 x hx => by
    rw [size_mk] at h0
    have hok : okArgs ss = true := req_some (fun e => by rw [e] at h0; simp at h0)
    have := (okArgs_mem hok).2 x hx
    omega
  impl := fun x B off cap W h hr => implText x B off ss.length cap ss W h hm hr.tab (by have := hr.six; omega)
  spec := fun x B off cap W h => specText x B off ss.length cap ss W h hm
  back := fun W hr h0 => by
    rw [size_mk] at h0
    have hok : okArgs ss = true := req_some (fun e => by rw [e] at h0; simp at h0)
    have hl := req_len ss
    have e : ((⟨(reqText ss).toArray⟩ : ByteArray) ++ ⟨#[42]⟩).data.toList = reqText ss ++ [42] := by simp
    have h := readReq ((⟨(reqText ss).toArray⟩ : ByteArray) ++ ⟨#[42]⟩) W (by rw [ByteArray.size_append, size_mk]; show _ + 1 ≤ _; omega) hr
    rw [e, request_back ss [42] hok] at h
    refine h.mono ?_
    rintro e w' ⟨v, rfl, ho, hb⟩
    rw [List.length_map, vals_of] at ho
    exact ⟨v, by rw [size_mk], ho, hb⟩
  cut := fun W k hr hk => by
    rw [size_mk] at hk
    have hok : okArgs ss = true := req_some (fun e => by rw [e] at hk; simp at hk)
    have hl := req_len ss
    have e : ((⟨(reqText ss).toArray⟩ : ByteArray).extract 0 k).data.toList = (reqText ss ++ []).take k := by
      rw [Lib.extract_data]
      simp
    have h := readReq ((⟨(reqText ss).toArray⟩ : ByteArray).extract 0 k) W (by rw [ByteArray.size_extract, size_mk]; omega) hr
    rw [e, request_cut ss [] k hok hk] at h
    exact h

set_option maxHeartbeats 4000000 in
set_option maxRecDepth 100000 in
theorem requests_walk (ra : Option Addr) (rn rc : Nat) (w : World) (hn : rn ≤ 9223372036854775807) (hb : BytesIn w ra rn w.heap.size) (hr : Ready w) :
    Calls Tryd.prog 3 #[.slice ra rn rc] w fun e w' => e = .returned (.bool true) ∧ Below w.heap.size w w' := by
  by_cases hbig : 1048576 < rn
  · exact requests_no ra rn rc w hbig
  · have hd : decide ((1048576 : Int) < (rn : Int)) = false := decide_eq_false (by omega)
    have HR : Hid (Ready w) := hr
    have hsix := hr.six
    clear hr
    go_enter Tryd.func3, Tryd.ntmps3
    go_wp2_with fail
    refine (big_any ra rn rc w).mono ?_
    rintro e w0 ⟨rfl, rfl⟩
    rw [hd]
    clear hd
    go_wp2_with fail
    refine (drawReq ra rn rc w0 hn hb).mono ?_
    rintro e w1 ⟨x, B, off, cap, ss, rfl, hs, hl, b1⟩
    have R1 : Hid (Ready w1) := HR.out.below (b1.mono hsix)
    obtain ⟨t, ht⟩ : ∃ t : ByteArray, t = ⟨(reqText ss).toArray⟩ := ⟨_, rfl⟩
    obtain ⟨m, hm⟩ : ∃ m, ss.length = m := ⟨_, rfl⟩
    have HW : Hid (Wrote ss t m) := by
      unfold Hid
      rw [ht, ← hm]
      exact wrote_of ss (by omega)
    have hts := HW.out.small
    rw [hm] at hs hl ⊢
    clear ht hm hb HR
    have HS1 : Hid (StrsIn w1 x B off m ss) := hs
    have s1 := b1.size
    go_wp2_with fail
    refine (HW.out.impl x B off cap w1 HS1.out R1.out).mono ?_
    rintro e w2 ⟨rfl, b2⟩
    have s2 := b2.size
    have bb2 := b1.trans (b2.mono s1)
    have HS2 : Hid (StrsIn w2 x B off m ss) := strs_below HS1.out b2
    have R2 : Hid (Ready w2) := R1.out.below (b2.mono (by omega))
    clear hs b2 b1
    go_wp2_with fail
    refine (HW.out.spec x B off cap w2 HS2.out).mono ?_
    rintro e w3 ⟨rfl, b3⟩
    have s3 := b3.size
    have bb3 := bb2.trans (b3.mono (by omega))
    have HS3 : Hid (StrsIn w3 x B off m ss) := strs_below HS2.out b3
    have R3 : Hid (Ready w3) := R2.out.below (b3.mono (by omega))
    clear b3 bb2 HS1 HS2 R1 R2
    by_cases h0 : t.size = 0
    · have he := empty_yes h0
      go_wp2_with fail
      refine (HW.out.spec x B off cap w3 HS3.out).mono ?_
      rintro e w4 ⟨rfl, b4⟩
      go_wp2
      go_ret
      exact ⟨rfl, bb3.trans (b4.mono (by omega))⟩
    · have he := empty_no (s := t) (by omega)
      have hpos : 0 < t.size := by omega
      have HF : Hid (∀ y ∈ ss, y.size ≤ 2000000) := HW.out.fits hpos
      go_wp2_with fail
      refine (HW.out.back w3 R3.out hpos).mono ?_
      rintro e w4 ⟨v, rfl, o4, b4⟩
      have s4 := b4.size
      have bb4 := bb3.trans (b4.mono (by omega))
      have HS4 : Hid (StrsIn w4 x B off m ss) := strs_below HS3.out b4
      have R4 : Hid (Ready w4) := R3.out.below (b4.mono (by omega))
      obtain ⟨a4, B4, f4, c4, rfl, i4⟩ := strsIn_any o4 HW.out.len HF.out
      have HI4 : Hid (StrsIn w4 a4 B4 f4 m ss) := i4
      have hrem : Int.tmod (rn : Int) (t.size : Int) = ((rn % t.size : Nat) : Int) := by
        rw [Int.tmod_eq_emod_of_nonneg (by omega)]; rfl
      have hk := Nat.mod_lt rn hpos
      generalize rn % t.size = k at *
      have k0 : (0 : Int) ≤ (k : Int) := by omega
      have k1 : (k : Int) ≤ (t.size : Int) := by omega
      have hz : ¬ (t.size : Int) = 0 := by omega
      have hd2 : ¬ 9223372036854775807 < t.size + 1 := by omega
      clear o4 i4 b4 bb3 HS3 R3
      go_wp2_with fail
      refine (HW.out.cut w4 k R4.out hk).mono ?_
      rintro e w5 ⟨rfl, b5⟩
      have bb5 := bb4.trans (b5.mono (by omega))
      have HX : Hid (Calls Tryd.prog 10 #[.slice a4 m c4, .slice x m cap] w5 fun e w' => e = .returned (.bool true) ∧ ∃ q, w' = w5.drewN q) := same_any a4 x B4 f4 B off m c4 cap ss w5 (strs_below HI4.out b5) (strs_below HS4.out b5) (by omega)
      clear b5 bb4 HI4 HS4
      go_wp2_with fail
      refine HX.out.mono ?_
      rintro e w6 ⟨rfl, q, rfl⟩
      go_wp2
      go_ret
      exact ⟨rfl, below_drewN bb5 _⟩

set_option maxHeartbeats 4000000 in
set_option maxRecDepth 100000 in
theorem reads_no (ra : Option Addr) (rn rc : Nat) (w : World) (hbig : 1048576 < rn) :
    Calls Tryd.prog 4 #[.slice ra rn rc] w fun e w' => e = .returned (.bool true) ∧ Below w.heap.size w w' := by
  have hd : decide ((1048576 : Int) < (rn : Int)) = true := decide_eq_true (by omega)
  go_enter Tryd.func4, Tryd.ntmps4
  go_wp2_with fail
  refine (big_any ra rn rc w).mono ?_
  rintro e w1 ⟨rfl, rfl⟩
  rw [hd]
  go_wp2
  go_ret
  exact ⟨rfl, Below.refl _ _⟩

theorem strs_nil (w : World) : StrsIn w none 0 0 0 [] := ⟨rfl, fun h => by omega, fun h => by omega, fun i hi => by omega, fun i hi => by omega⟩

/-- What is read and written again is read as it. -/
theorem again (ts : List (List UInt8)) (u : Nat) (s : ByteArray) (h : requestM s.data.toList = .inr (ts, u)) :
    ∃ ss : List ByteArray, ss.length = ts.length ∧ strVals ts = ss.map Value.string ∧ (∀ x ∈ ss, x.size ≤ 2000000) ∧ ss.length ≤ 16 ∧ 0 < u ∧ u ≤ s.size ∧ ∃ t : ByteArray, t.size ≤ 5000 ∧
      (∀ (x : Option Addr) (B off cap : Nat) (W : World), StrsIn W x B off ss.length ss → Ready W → Calls Tryd.prog 7 #[.slice x ss.length cap] W fun e w' => e = .returned (.string t) ∧ Below W.heap.size W w') ∧
      (∀ (W : World), Ready W → Calls Tryd.prog 9 #[.string t] W fun e w' => ∃ v k, e = .returned (.tuple #[v, .int .i64 k, .int .i64 0]) ∧ w'.ownsRow W.heap.size 9 1 v ss.length (ss.map Value.string) ∧ Below W.heap.size W w') := by
  obtain ⟨h16, h200, hu0, hu1⟩ := request_fits h
  have hok := ok_of_fits h16 h200
  obtain ⟨ss, hss⟩ : ∃ ss : List ByteArray, ss = ts.map fun t => (⟨t.toArray⟩ : ByteArray) := ⟨_, rfl⟩
  rw [← hss] at hok
  have hlen : ss.length = ts.length := by rw [hss, List.length_map]
  have hmem := (okArgs_mem hok).2
  have hl := req_len ss
  refine ⟨ss, hlen, ?_, fun x hx => by have := hmem x hx; omega, by omega, hu0, by rw [Lib.size_eq]; exact hu1, ⟨(reqText ss).toArray⟩, by rw [size_mk]; exact hl, ?_, ?_⟩
  · rw [hss, List.map_map]; rfl
  · exact fun x B off cap W hs hr => implText x B off ss.length cap ss W hs (by omega) hr.tab (by have := hr.six; omega)
  · intro W hr
    have e : (⟨(reqText ss).toArray⟩ : ByteArray).data.toList = reqText ss ++ [] := by simp
    have hrd := readReq ⟨(reqText ss).toArray⟩ W (by rw [size_mk]; omega) hr
    rw [e, request_back ss [] hok] at hrd
    refine hrd.mono ?_
    rintro e w' ⟨v, rfl, ho, hb⟩
    rw [List.length_map, vals_of] at ho
    exact ⟨v, _, rfl, ho, hb⟩

set_option maxHeartbeats 4000000 in
set_option maxRecDepth 100000 in
theorem reads_walk (ra : Option Addr) (rn rc : Nat) (w : World) (hn : rn ≤ 9223372036854775807) (hb : BytesIn w ra rn w.heap.size) (hr : Ready w) :
    Calls Tryd.prog 4 #[.slice ra rn rc] w fun e w' => e = .returned (.bool true) ∧ Below w.heap.size w w' := by
  by_cases hbig : 1048576 < rn
  · exact reads_no ra rn rc w hbig
  · have hd : decide ((1048576 : Int) < (rn : Int)) = false := decide_eq_false (by omega)
    have HR : Hid (Ready w) := hr
    have hsix := hr.six
    clear hr
    go_enter Tryd.func4, Tryd.ntmps4
    go_wp2_with fail
    refine (big_any ra rn rc w).mono ?_
    rintro e w0 ⟨rfl, rfl⟩
    rw [hd]
    clear hd
    go_wp2_with fail
    refine (drawRead ra rn rc w0 hn hb).mono ?_
    rintro e w1 ⟨s, rfl, hs, b1⟩
    have s1 := b1.size
    have R1 : Hid (Ready w1) := HR.out.below (b1.mono hsix)
    have HI := readReq s w1 (by omega) R1.out
    have HSP : Hid (∀ W, Calls Tryd.prog 12 #[.string s] W (ReqEnd W (requestM s.data.toList))) := fun W => spReq s W (by omega)
    clear hb HR
    cases hm : requestM s.data.toList with
    | inl c =>
      rw [hm] at HI HSP
      have HI' : Hid (Calls Tryd.prog 9 #[.string s] w1 fun e w' => e = .returned (.tuple #[.slice none 0 0, .int .i64 0, .int .i64 c]) ∧ Below w1.heap.size w1 w') := HI
      have HSP' : Hid (∀ W, Calls Tryd.prog 12 #[.string s] W fun e w' => e = .returned (.tuple #[.slice none 0 0, .int .i64 0, .int .i64 c]) ∧ Below W.heap.size W w') := HSP
      have hc := requestM_codes hm
      have hcz : (c != 0) = true := by simp; omega
      clear HI HSP hm hc
      go_wp2_with fail
      refine HI'.out.mono ?_
      rintro e w2 ⟨rfl, b2⟩
      have bb2 := b1.trans (b2.mono s1)
      have s2 := b2.size
      go_wp2_with fail
      refine (HSP'.out w2).mono ?_
      rintro e w3 ⟨rfl, b3⟩
      have bb3 := bb2.trans (b3.mono (by omega))
      have HX : Hid (Calls Tryd.prog 10 #[.slice none 0 0, .slice none 0 0] w3 fun e w' => e = .returned (.bool true) ∧ ∃ q, w' = w3.drewN q) := same_any none none 0 0 0 0 0 0 0 [] w3 (strs_nil w3) (strs_nil w3) (by omega)
      clear b2 b3 bb2 b1
      go_wp2_with fail
      refine HX.out.mono ?_
      rintro e w4 ⟨rfl, q, rfl⟩
      go_wp2
      go_ret
      exact ⟨rfl, below_drewN bb3 _⟩
    | inr p =>
      obtain ⟨ts, u⟩ := p
      rw [hm] at HI HSP
      obtain ⟨ss, hlen, hvals, hfit, h16, hu0, hu1, t, hts, HT, HB⟩ := again ts u s hm
      obtain ⟨m, hmm⟩ : ∃ m, ss.length = m := ⟨_, rfl⟩
      rw [hmm] at HT HB h16 hlen
      have HI' : Hid (Calls Tryd.prog 9 #[.string s] w1 fun e w' => ∃ v, e = .returned (.tuple #[v, .int .i64 u, .int .i64 0]) ∧ w'.ownsRow w1.heap.size 9 1 v m (ss.map Value.string) ∧ Below w1.heap.size w1 w') := HI.mono (by
        rintro e w' ⟨v, he, ho, hb⟩
        rw [← hlen, hvals] at ho
        exact ⟨v, he, ho, hb⟩)
      have HSP' : Hid (∀ W, Calls Tryd.prog 12 #[.string s] W fun e w' => ∃ v, e = .returned (.tuple #[v, .int .i64 u, .int .i64 0]) ∧ w'.ownsRow W.heap.size 9 1 v m (ss.map Value.string) ∧ Below W.heap.size W w') := fun W => (HSP.out W).mono (by
        rintro e w' ⟨v, he, ho, hb⟩
        rw [← hlen, hvals] at ho
        exact ⟨v, he, ho, hb⟩)
      have HT' : Hid _ := HT
      have HB' : Hid _ := HB
      have HM : Hid (ss.length = m) := hmm
      have HF : Hid (∀ x ∈ ss, x.size ≤ 2000000) := hfit
      have u0 : (0 : Int) < (u : Int) := by omega
      have u1 : (u : Int) ≤ (s.size : Int) := by omega
      clear HI HSP hm HT HB hmm hfit hvals hlen
      go_wp2_with fail
      refine HI'.out.mono ?_
      rintro e w2 ⟨v2, rfl, o2, b2⟩
      have bb2 := b1.trans (b2.mono s1)
      have s2 := b2.size
      obtain ⟨a2, B2, f2, c2, rfl, i2⟩ := strsIn_any o2 HM.out HF.out
      have I2 : Hid (StrsIn w2 a2 B2 f2 m ss) := i2
      have R2 : Hid (Ready w2) := R1.out.below (b2.mono (by omega))
      clear o2 i2 b2 b1 R1
      go_wp2_with fail
      refine (HSP'.out w2).mono ?_
      rintro e w3 ⟨v3, rfl, o3, b3⟩
      have bb3 := bb2.trans (b3.mono (by omega))
      have s3 := b3.size
      obtain ⟨a3, B3, f3, c3, rfl, i3⟩ := strsIn_any o3 HM.out HF.out
      have I23 : Hid (StrsIn w3 a2 B2 f2 m ss) := strs_below I2.out b3
      have R3 : Hid (Ready w3) := R2.out.below (b3.mono (by omega))
      have HX : Hid (Calls Tryd.prog 10 #[.slice a2 m c2, .slice a3 m c3] w3 fun e w' => e = .returned (.bool true) ∧ ∃ q, w' = w3.drewN q) := same_any a2 a3 B2 f2 B3 f3 m c2 c3 ss w3 I23.out i3 (by omega)
      clear o3 i3 b3 bb2 I2 R2
      go_wp2_with fail
      refine HX.out.mono ?_
      rintro e w4 ⟨rfl, q, rfl⟩
      have I4 : Hid (StrsIn (w3.drewN q) a2 B2 f2 m ss) := strs_drew I23.out
      have bb4 := below_drewN bb3 q
      have R4 : Hid (Ready (w3.drewN q)) := R3.out.below (below_drewN (Below.refl _ _) q)
      have s4 : (w3.drewN q).heap.size = w3.heap.size := rfl
      clear HX I23 R3 bb3
      generalize w3.drewN q = w4 at *
      go_wp2_with fail
      refine (HT'.out a2 B2 f2 c2 w4 I4.out R4.out).mono ?_
      rintro e w5 ⟨rfl, b5⟩
      have bb5 := bb4.trans (b5.mono (by omega))
      have s5 := b5.size
      have I5 : Hid (StrsIn w5 a2 B2 f2 m ss) := strs_below I4.out b5
      have R5 : Hid (Ready w5) := R4.out.below (b5.mono (by omega))
      clear I4 R4 b5 bb4
      go_wp2_with fail
      refine (HB'.out w5 R5.out).mono ?_
      rintro e w6 ⟨v6, k6, rfl, o6, b6⟩
      have bb6 := bb5.trans (b6.mono (by omega))
      obtain ⟨a6, B6, f6, c6, rfl, i6⟩ := strsIn_any o6 HM.out HF.out
      have HX : Hid (Calls Tryd.prog 10 #[.slice a6 m c6, .slice a2 m c2] w6 fun e w' => e = .returned (.bool true) ∧ ∃ q, w' = w6.drewN q) := same_any a6 a2 B6 f6 B2 f2 m c6 c2 ss w6 i6 (strs_below I5.out b6) (by omega)
      clear o6 i6 b6 bb5 I5 R5
      go_wp2_with fail
      refine HX.out.mono ?_
      rintro e w7 ⟨rfl, q', rfl⟩
      go_wp2
      go_ret
      exact ⟨rfl, below_drewN bb6 _⟩
end Go.Proofs.YtoicbiinmmhcdaaDoor
