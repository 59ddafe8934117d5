/- PROVED: FnEscapes returns true at every list of bytes, and leaves it as it was: what is escaped has only plain bytes and comes back; what is read, escaped again, has just its bytes; impl.Escaped and impl.Unescaped answer as the specification at the texts drawn. No condition. -/
import Derived.Test.YtdabpbnmfccogaaDraw2
import Derived.ProofKit
import Derived.OpenShut
import Derived.ChangeOld
import Derived.Deep.Slices
import Derived.Lib.SmallJoins
namespace Go.Proofs.Ytdabpbnmfccogaa
open Go.ChangeShapes Go.WideShapes Go.ChangeAt Go.RowKit Go.Deep

theorem own3 : ownKnob Try.prog.godebug = none := by kernel_rfl
theorem laidOut : laidOutB Try.prog = true := by kernel_rfl
theorem cells5 : Try.prog.cellsOf 5 = 1 := by kernel_rfl

/-- What the reading of a slice of bytes gives. -/
theorem bytes_of_open {H : Type} {enc : TypeId × Value → H} {W : World} {a : Option Addr} {n c : Nat} {d : DataW H} {p : List MemPlace}
    (h : DataW.Trod enc Try.prog W 0 (fun _ => true) true 22 (.slice a n c) d p) :
    BytesIn W a n W.heap.size ∧ n ≤ 9223372036854775807 := by
  obtain ⟨fuel, hf⟩ := h
  rcases open_ints Try.underlying22 Try.underlying5 cells5 hf with ⟨hcs, _⟩ | ⟨x, l, c, zs, hcs, _, hl, hm, hz, _, hcell, hw⟩
  · simp [Value.cells] at hcs
    obtain ⟨rfl, rfl, rfl⟩ := hcs
    exact ⟨⟨fun h => by omega⟩, by omega⟩
  · simp [Value.cells] at hcs
    obtain ⟨rfl, rfl, rfl⟩ := hcs
    simp only [if_true] at hz
    have hm' : c ≤ 9223372036854775807 := by simpa [maxLen] using hm
    refine ⟨⟨fun h0 => ?_⟩, by omega⟩
    obtain ⟨xb, xo, spot⟩ := x
    have hspot : spot = none := by simpa [Addr.add] using World.cell?_spot (hcell 0 (by omega))
    subst hspot
    have hc : ∀ i, i < n → W.cell? ⟨xb, xo + i, none⟩ = some (.int .u8 (zs.getD i 0)) := fun i hi => by
      rw [← hcell i (by omega), Addr.add_lit]
    refine ⟨xb, xo, rfl, block_lt_of_cell (hc 0 (by omega)), fun i hi => ?_⟩
    have hmem : zs.getD i 0 ∈ zs := by
      rw [List.getD_eq_getElem?_getD, List.getElem?_eq_getElem (by omega)]
      exact List.getElem_mem _
    obtain ⟨b0, b1⟩ := bounds_u8 (hw _ hmem)
    exact ⟨(zs.getD i 0).toNat, by omega, by rw [hc i hi, Int.toNat_of_nonneg b0]⟩

theorem big_any (a : Option Addr) (n c : Nat) (w : World) :
    Calls Try.prog 6 #[.slice a n c] w fun e w' => e = .returned (.bool (decide ((1048576 : Int) < (n : Int)))) ∧ w' = w := by
  go_enter Try.func6, Try.ntmps6
  go_wp2
  go_ret
  exact ⟨rfl, rfl⟩

theorem plain_at {s : ByteArray} {l : List UInt8} (h : s = ⟨(escL l).toArray⟩) {k : Nat} (hk : k < s.size) : 32 ≤ (s[k]'hk).toNat ∧ (s[k]'hk).toNat ≤ 126 := by
  refine escL_plain l _ ?_
  have h1 := sget s k hk
  have h2 : s.data.toList = escL l := by rw [h]
  rw [h2] at h1
  exact List.mem_of_getElem? h1

theorem back_str {s : ByteArray} : (⟨(unesc (escL s.data.toList)).1.toArray⟩ : ByteArray) = s := by rw [unesc_esc]

theorem list_refl (t : ByteArray) : (t.toList == t.toList) = true := by simp

set_option maxHeartbeats 4000000 in
theorem escapes_walk (a : Option Addr) (n c : Nat) (w : World) (hn : n ≤ 9223372036854775807) (hb : BytesIn w a n w.heap.size) :
    Calls Try.prog 3 #[.slice a n c] w fun e w' => e = .returned (.bool true) ∧ Below w.heap.size w w' := by
  by_cases hbig : (1048576 : Int) < (n : Int)
  · have hbd : decide ((1048576 : Int) < (n : Int)) = true := decide_eq_true hbig
    have cB := big_any a n c w
    rw [hbd] at cB
    go_enter Try.func3, Try.ntmps3
    go_wp2_with fail
    refine cB.mono ?_
    rintro e w1 ⟨rfl, rfl⟩
    go_wp2
    go_ret
    exact ⟨rfl, Below.refl _ _⟩
  · have hbd : decide ((1048576 : Int) < (n : Int)) = false := decide_eq_false hbig
    have cB := big_any a n c w
    rw [hbd] at cB
    clear hbd hbig
    go_enter Try.func3, Try.ntmps3
    go_wp2_with fail
    refine cB.mono ?_
    rintro e w0 ⟨rfl, rfl⟩
    clear cB
    go_wp2_with fail
    refine (drawE_any a n c w0 hn hb).mono ?_
    rintro e w1 ⟨s, rfl, hs, b1⟩
    have z1 := b1.size
    have cI := implEscaped s w1 (by omega)
    have cS := fun w => specEscaped s w (by omega)
    have hel := escL_len s.data.toList
    rw [← Lib.size_eq] at hel
    have hes : (⟨(escL s.data.toList).toArray⟩ : ByteArray).size ≤ 800 := by show (escL s.data.toList).toArray.size ≤ 800; simp only [List.size_toArray]; omega
    have cU := fun w => implUnescaped ⟨(escL s.data.toList).toArray⟩ w (by omega)
    have HB : Hid ((⟨(unesc (escL s.data.toList)).1.toArray⟩ : ByteArray) = s) := back_str
    have HT : Hid ((unesc (escL s.data.toList)).2 = true) := by unfold Hid; rw [unesc_esc]
    simp only [HB.out, HT.out] at cU
    have HP : Hid (∀ k (hk : k < (⟨(escL s.data.toList).toArray⟩ : ByteArray).size), 32 ≤ ((⟨(escL s.data.toList).toArray⟩ : ByteArray)[k]'hk).toNat ∧ ((⟨(escL s.data.toList).toArray⟩ : ByteArray)[k]'hk).toNat ≤ 126) := fun k hk => plain_at rfl hk
    clear HB HT hel
    generalize (⟨(escL s.data.toList).toArray⟩ : ByteArray) = t at *
    have ht := list_refl t
    have hs2 := list_refl s
    go_wp2_with fail
    refine cI.mono ?_
    rintro e w2 ⟨rfl, b2⟩
    have z2 := b2.size
    have bb2 := b1.trans (b2.mono z1)
    clear cI
    go_wp2_with fail
    refine (cU _).mono ?_
    rintro e w3 ⟨rfl, b3⟩
    have z3 := b3.size
    have bb3 := bb2.trans (b3.mono (by omega))
    clear cU
    go_wp2_with fail
    refine (cS _).mono ?_
    rintro e w4 ⟨rfl, b4⟩
    have z4 := b4.size
    have bb4 := bb3.trans (b4.mono (by omega))
    clear cS b1 b2 b3 b4
    go_wp2_with fail
    go_loop [7] (fun i => ∃ k : Nat, k ≤ t.size ∧ i = .int .i64 k) (fun i => t.size - (intOf i).toNat)
    case atStart => exact ⟨0, by omega, rfl⟩
    case round =>
      obtain ⟨k, hk, rfl⟩ := hrel
      by_cases hlt : k < t.size
      · obtain ⟨p1, p2⟩ := HP.out k hlt
        have d1 : decide (((t[k]'hlt).toNat : Int) < 32) = false := by simp; omega
        have d2 : decide ((126 : Int) < ((t[k]'hlt).toNat : Int)) = false := by simp; omega
        clear HP
        go_wp2
        go_round
        case rel => exact ⟨k + 1, by omega, by go_num⟩
        case measure => simp [intOf]; omega
      · clear HP
        have hb4 := hb.below bb4
        have hb5 : BytesIn w4 a n w4.heap.size := ⟨fun h => by obtain ⟨b, o, h1, h2, h3⟩ := hb4.cell h; exact ⟨b, o, h1, by omega, h3⟩⟩
        go_wp2_with fail
        refine (drawU_any a n c w4 hn hb5).mono ?_
        rintro e w5 ⟨x, rfl, hx, b5⟩
        have z5 := b5.size
        have bb5 := bb4.trans (b5.mono (by omega))
        clear b5 hb4 hb5
        have cU := implUnescaped x w5 (by omega)
        have cT := fun w => specUnescaped x w (by omega)
        unfold UnEnd at cT
        cases hu : unesc x.data.toList with
        | mk y fine =>
          rw [hu] at cU
          simp only [hu] at cT
          cases fine with
          | false =>
            clear hu
            simp only at *
            go_wp2_with fail
            refine cU.mono ?_
            rintro e w6 ⟨rfl, b6⟩
            have z6 := b6.size
            have bb6 := bb5.trans (b6.mono (by omega))
            clear cU b6
            go_wp2_with fail
            refine (cT _).mono ?_
            rintro e w7 ⟨rfl, b7⟩
            have bb7 := bb6.trans (b7.mono (by omega))
            clear cT b7
            go_wp2
            go_ret
            exact ⟨rfl, bb7⟩
          | true =>
            have hxy := unesc_back hu
            have hyl : y.length ≤ x.size := by
              have h1 := congrArg List.length hxy
              rw [← Lib.size_eq] at h1
              have h2 : y.length ≤ (escL y).length := by
                clear hu hxy h1 cU cT
                induction y with
                | nil => simp
                | cons b y ih => rw [escL_cons, List.length_append]; have := esc1_len b; simp; omega
              omega
            have cE := fun w => implEscaped ⟨y.toArray⟩ w (by show y.toArray.size ≤ _; simp; omega)
            have HX : Hid ((⟨(escL (⟨y.toArray⟩ : ByteArray).data.toList).toArray⟩ : ByteArray) = x) := by
              unfold Hid
              show (⟨(escL y.toArray.toList).toArray⟩ : ByteArray) = x
              rw [List.toList_toArray, hxy]
            simp only [HX.out] at cE
            clear hu hxy HX hyl
            simp only at *
            have hxx := list_refl x
            go_wp2_with fail
            refine cU.mono ?_
            rintro e w6 ⟨rfl, b6⟩
            have z6 := b6.size
            have bb6 := bb5.trans (b6.mono (by omega))
            clear cU b6
            go_wp2_with fail
            refine (cT _).mono ?_
            rintro e w7 ⟨rfl, b7⟩
            have z7 := b7.size
            have bb7 := bb6.trans (b7.mono (by omega))
            clear cT b7
            go_wp2_with fail
            refine (cE _).mono ?_
            rintro e w8 ⟨rfl, b8⟩
            have bb8 := bb7.trans (b8.mono (by omega))
            clear cE b8
            go_wp2
            go_ret
            exact ⟨rfl, bb8⟩

set_option maxRecDepth 100000 in
theorem lifted3 (os : Os) (started : os.Started) (H : Type) (enc : TypeId × Value → H) :
    ReturnsInHanded {} Try.checked os 3 .any (Rows.fnEscapesSpec.pre6 enc Try.prog Try.f3 Rows.fnEscapesRow.domain false) (Rows.fnEscapesSpec.post enc Try.prog Try.f3 false true false false) := by
  refine returnsInHanded_of_change (C := Try.checked) own3 started (by kernel_rfl) Try.func3
    (ChangeSpec.witness6 (enc := enc) (C := Try.checked) false ⟨#[], #[.slice none 0 0], []⟩ 8 (by kernel_rfl) (by kernel_rfl) (by kernel_rfl) (by kernel_rfl)) ?_
  intro W base args ds gs before hval0 hW _ _
  have hval : ∀ (j : Nat) t v, Try.f3.params[j]? = some t → args[j]? = some v → Value.okWide Try.prog W .any base t v := hval0
  have hW' := hW
  obtain ⟨p, q, hA0, hV, rfl, hfz, hnd⟩ := hW
  have hA : DataW.TrodAll enc Try.prog W 0 (fun _ => true) true Try.f3.params.toList args.toList ds p := hA0
  rw [Try.params3] at hA hval
  obtain ⟨v0, d0, rfl, rfl, h0⟩ := trodAll_one hA
  obtain ⟨rfl, rfl⟩ := trodVars_none hV
  obtain ⟨a0, len0, cap0, rfl⟩ := okWide_slice Try.underlying22 (hval 0 22 v0 rfl rfl)
  have k0 := h0
  have lt0 : ∀ x ∈ p, x.block < W.heap.size := by obtain ⟨m, hm⟩ := k0; exact DataW.trod_lt m _ _ _ hm
  obtain ⟨hs, hn⟩ := bytes_of_open h0
  clear hA0 hval0
  refine (escapes_walk a0 len0 cap0 W hn hs).mono fun e W' ⟨he, bel⟩ => ?_
  subst he
  exact ⟨_, rfl, _, _, _, [], _, [], hW', trodAll_mk1 (shut_bool Try.underlying4 _), trodAll_mk1 (Below.trod laidOut (by kernel_rfl) (of_decide_eq_true (by kernel_rfl)) k0 bel lt0), rfl, bel.frame _, fun h => by cases h⟩

theorem escapes_holds : Rows.FnEscapesSaid :=
  OpenClaim.holds_of_wide 3 Try.f3 rfl rfl rfl rfl rfl rfl rfl ⟨rfl, rfl, rfl, rfl, rfl⟩ rfl rfl rfl rfl rfl (by kernel_rfl) Try.func3 (by kernel_rfl)
    (of_decide_eq_true (by kernel_rfl)) (by unfold Func.isWrapper; first | (rw [if_pos (by decide +kernel)]; kernel_rfl) | (rw [if_neg (by decide +kernel)]; exact ⟨rfl, rfl⟩))
    (fun os started H enc _ => lifted3 os started H enc)
#print axioms escapes_holds
end Go.Proofs.Ytdabpbnmfccogaa
