/- spec.Escaped answers escL too. -/
import Derived.Test.YtdabpbnmfccogaaEsc
namespace Go.Proofs.Ytdabpbnmfccogaa
open Go.RowKit Go.Sort

theorem hexHi (b : Nat) (w : World) (hb : b < 256) : Calls Try.prog 18 #[.int .u8 ((b : Int) / 16)] w fun e w' => e = .returned (.string ⟨[hexC (b / 16)].toArray⟩) ∧ Below w.heap.size w w' := by
  have := hex_any (b / 16) w (by omega)
  rwa [show ((b / 16 : Nat) : Int) = (b : Int) / 16 from by omega] at this
theorem hexLo (b : Nat) (w : World) : Calls Try.prog 18 #[.int .u8 ((b : Int) % 16)] w fun e w' => e = .returned (.string ⟨[hexC (b % 16)].toArray⟩) ∧ Below w.heap.size w w' := by
  have := hex_any (b % 16) w (by omega)
  rwa [show ((b % 16 : Nat) : Int) = (b : Int) % 16 from by omega] at this

theorem str_app (l : List UInt8) (x y : List UInt8) (h : y = l ++ x) : (⟨l.toArray⟩ ++ ⟨x.toArray⟩ : ByteArray) = ⟨y.toArray⟩ := by rw [h]; exact ByteArray.mk_append_mk l x

theorem wrap8 (x : Int) (h0 : 0 ≤ x) (h1 : x < 256) : IntKind.u8.wrap x = x := by
  unfold IntKind.wrap
  simp [IntKind.signed, IntKind.bits]
  omega

theorem str_hex {xs y : List UInt8} {b h l : UInt8} (h1 : y = xs ++ esc1 b) (h2 : esc1 b = [92, 120, h, l]) : (⟨xs.toArray⟩ ++ ⟨#[92, 120]⟩ ++ ⟨[h].toArray⟩ ++ ⟨[l].toArray⟩ : ByteArray) = ⟨y.toArray⟩ := by
  rw [h1, h2, show (⟨#[92, 120]⟩ : ByteArray) = ⟨[92, 120].toArray⟩ from rfl, ByteArray.mk_append_mk, ByteArray.mk_append_mk, ByteArray.mk_append_mk]
  simp

theorem str_one {s : ByteArray} {xs y : List UInt8} {k : Nat} (hk : k < s.size) (h1 : y = xs ++ esc1 (s[k]'hk)) (h2 : esc1 (s[k]'hk) = [s[k]'hk]) : (⟨xs.toArray⟩ ++ s.extract k (k + 1) : ByteArray) = ⟨y.toArray⟩ := by
  have e : s.extract k (k + 1) = ⟨[s[k]'hk].toArray⟩ := by
    have hl : k < s.data.toList.length := by rw [← Lib.size_eq]; exact hk
    apply ByteArray.ext
    apply Array.toList_inj.mp
    simp [ByteArray.data_extract, Array.toList_extract]
    rw [List.drop_eq_getElem_cons hl]
    simp
    rfl
  rw [e, h1, h2, ByteArray.mk_append_mk]

set_option maxHeartbeats 4000000 in
set_option maxRecDepth 100000 in
theorem specEscaped (s : ByteArray) (w : World) (hs : s.size ≤ 16777216) :
    Calls Try.prog 10 #[.string s] w fun e w' => e = .returned (.string ⟨(escL s.data.toList).toArray⟩) ∧ Below w.heap.size w w' := by
  go_enter Try.func10, Try.ntmps10
  go_wp2
  go_loopw [3, 4] (fun o i wr => ∃ (k : Nat), k ≤ s.size ∧ i = .int .i64 k ∧ o = .string ⟨(escL (s.data.toList.take k)).toArray⟩ ∧ Below w.heap.size w wr) (fun _ i _ => s.size - (intOf i).toNat)
  case atStart => exact ⟨0, by omega, rfl, rfl, Below.refl _ _⟩
  case round =>
    obtain ⟨k, hk, rfl, rfl, bk⟩ := hrel
    have hlen := escL_take_len s.data.toList k
    have hsl : s.data.toList.length = s.size := (Lib.size_eq s).symm
    have hw := bk.size
    by_cases hlt : k < s.size
    · have hx := (s[k]'hlt).toNat_lt
      have HS : Hid (escL (s.data.toList.take (k + 1)) = escL (s.data.toList.take k) ++ esc1 (s[k]'hlt)) := escL_take_succ s.data.toList k (by omega)
      have hz : (⟨(escL (s.data.toList.take k)).toArray⟩ : ByteArray).size = (escL (s.data.toList.take k)).length := by show (escL (s.data.toList.take k)).toArray.size = _; simp
      generalize escL (s.data.toList.take k) = xs at *
      have hxl : xs.length ≤ 67108864 := by omega
      clear hlen
      by_cases h13 : (s[k]'hlt).toNat = 13
      · have d1 : (((s[k]'hlt).toNat : Int) == 13) = true := by simp; omega
        have HE : Hid (esc1 (s[k]'hlt) = [92, 114]) := by unfold Hid esc1; rw [if_pos h13]
        clear h13
        go_wp2
        go_roundw
        case rel => exact ⟨k + 1, by omega, by go_num, congrArg Value.string (str_app xs [92, 114] _ (by rw [HS.out, HE.out])), bk⟩
        case measure => simp [intOf]; omega
      have d1 : (((s[k]'hlt).toNat : Int) == 13) = false := by simp; omega
      by_cases h10 : (s[k]'hlt).toNat = 10
      · have d2 : (((s[k]'hlt).toNat : Int) == 10) = true := by simp; omega
        have HE : Hid (esc1 (s[k]'hlt) = [92, 110]) := by unfold Hid esc1; rw [if_neg h13, if_pos h10]
        clear h10
        go_wp2
        go_roundw
        case rel => exact ⟨k + 1, by omega, by go_num, congrArg Value.string (str_app xs [92, 110] _ (by rw [HS.out, HE.out])), bk⟩
        case measure => simp [intOf]; omega
      have d2 : (((s[k]'hlt).toNat : Int) == 10) = false := by simp; omega
      by_cases h92 : (s[k]'hlt).toNat = 92
      · have d3 : (((s[k]'hlt).toNat : Int) == 92) = true := by simp; omega
        have HE : Hid (esc1 (s[k]'hlt) = [92, 92]) := by unfold Hid esc1; rw [if_neg h13, if_neg h10, if_pos h92]
        clear h92
        go_wp2
        go_roundw
        case rel => exact ⟨k + 1, by omega, by go_num, congrArg Value.string (str_app xs [92, 92] _ (by rw [HS.out, HE.out])), bk⟩
        case measure => simp [intOf]; omega
      have d3 : (((s[k]'hlt).toNat : Int) == 92) = false := by simp; omega
      by_cases hpl : (s[k]'hlt).toNat < 32 ∨ 126 < (s[k]'hlt).toNat
      · have HE : Hid (esc1 (s[k]'hlt) = [92, 120, hexC ((s[k]'hlt).toNat / 16), hexC ((s[k]'hlt).toNat % 16)]) := by unfold Hid esc1; rw [if_neg h13, if_neg h10, if_neg h92, if_pos hpl]
        have cH : ∀ d os, Calls Try.prog 18 #[.int .u8 (((s[k]'hlt).toNat : Int) / 16)] (grow (redrawn wr d) os) fun e w'' => e = .returned (.string ⟨[hexC ((s[k]'hlt).toNat / 16)].toArray⟩) ∧ ∃ p : Regrown, w'' = grow (redrawn wr p.d) p.os := fun d os => Calls.regrown_of (hexHi _ _ hx)
        have cL : ∀ d os, Calls Try.prog 18 #[.int .u8 (((s[k]'hlt).toNat : Int) % 16)] (grow (redrawn wr d) os) fun e w'' => e = .returned (.string ⟨[hexC ((s[k]'hlt).toNat % 16)].toArray⟩) ∧ ∃ p : Regrown, w'' = grow (redrawn wr p.d) p.os := fun d os => Calls.regrown_of (hexLo _ _)
        have hkI : (k : Int) < (s.size : Int) := by omega
        have e1 := wrap8 (((s[k]'hlt).toNat : Int) / 16) (by omega) (by omega)
        have e2 := wrap8 (((s[k]'hlt).toNat : Int) % 16) (by omega) (by omega)
        have n1 : ¬ 9223372036854775807 < xs.length + 2 := by omega
        have n2 : ¬ 9223372036854775807 < xs.length + 2 + 1 := by omega
        have n3 : ¬ 9223372036854775807 < xs.length + 2 + 1 + 1 := by omega
        by_cases h32 : (s[k]'hlt).toNat < 32
        · have d4 : decide (((s[k]'hlt).toNat : Int) < 32) = true := by simp; omega
          go_wp2
          refine wp_region_quiet_below (by kernel_rfl) (by kernel_rfl) ?_
          repeat (quiet_step (first | exact cH _ _ | exact cL _ _))
          refine wpQuiet_nil ?_
          intro _ hw'
          obtain ⟨⟨dq, osq⟩, hw''⟩ := hw'
          subst hw''
          have bq := below_regrown wr dq osq
          generalize grow (redrawn wr dq) osq = wq at *
          go_wp2
          go_roundw
          case rel => exact ⟨k + 1, by omega, by go_num, congrArg Value.string (str_hex HS.out HE.out), bk.trans (bq.mono hw)⟩
          case measure => simp [intOf]; omega
        · have d4 : decide (((s[k]'hlt).toNat : Int) < 32) = false := by simp; omega
          have d5 : decide ((126 : Int) < ((s[k]'hlt).toNat : Int)) = true := by simp; omega
          go_wp2
          refine wp_region_quiet_below (by kernel_rfl) (by kernel_rfl) ?_
          repeat (quiet_step (first | exact cH _ _ | exact cL _ _))
          refine wpQuiet_nil ?_
          intro _ hw'
          obtain ⟨⟨dq, osq⟩, hw''⟩ := hw'
          subst hw''
          have bq := below_regrown wr dq osq
          generalize grow (redrawn wr dq) osq = wq at *
          go_wp2
          go_roundw
          case rel => exact ⟨k + 1, by omega, by go_num, congrArg Value.string (str_hex HS.out HE.out), bk.trans (bq.mono hw)⟩
          case measure => simp [intOf]; omega
      · have d4 : decide (((s[k]'hlt).toNat : Int) < 32) = false := by simp; omega
        have d5 : decide ((126 : Int) < ((s[k]'hlt).toNat : Int)) = false := by simp; omega
        have HE : Hid (esc1 (s[k]'hlt) = [s[k]'hlt]) := by unfold Hid esc1; rw [if_neg h13, if_neg h10, if_neg h92, if_neg hpl]
        go_wp2
        go_roundw
        case rel => exact ⟨k + 1, by omega, by go_num, congrArg Value.string (str_one hlt HS.out HE.out), bk⟩
        case measure => simp [intOf]; omega
    · obtain rfl : k = s.size := by omega
      have HF : Hid (s.data.toList.take s.size = s.data.toList) := List.take_of_length_le (by omega)
      go_wp2
      go_ret
      exact ⟨ret_str (by rw [HF.out]), bk⟩
end Go.Proofs.Ytdabpbnmfccogaa
