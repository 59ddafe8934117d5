/- The heap that the laws draw out of bytes: walked whole. -/
import Derived.Test.YtjjpplpdpldkeaaHSt
import Derived.Test.YtjjpplpdpldkeaaHDropS
import Derived.Test.YtjjpplpdpldkeaaHPackS
import Derived.Test.YtjjpplpdpldkeaaHLawC
import Derived.Deep.RegionHeld3
import Derived.Deep.RegionWith
import Derived.Deep.RegionHeldLaw
import Derived.Deep.DeepCutAuto
import Derived.Deep.CutBlock
namespace Go.Proofs.Ytjjpplpdpldkeaa
open Go.RowKit Go.Sort

def Drawn (s : ByteArray) (L : List Cl) : Prop := s.size ≤ 3000 ∧ L.length < 40 ∧ ∀ i, i < L.length → Fit (L.getD i cl0)

theorem new_eq (m : Nat) (h : m ≤ 59) : newM (20 + (m : Int)) = (dataZ (20 + m), true) := by
  unfold newM
  rw [if_pos (by omega)]
  rfl

theorem right_fit {s : ByteArray} {L : List Cl} (h : heapB s L = true) (i : Nat) (hi : i < L.length) : Fit (L.getD i cl0) := by
  have hs := (heap_small h).1
  have ha := ((heap_iff s L).1 h).adm i hi
  unfold admitB at ha
  rw [Bool.and_eq_true] at ha
  have h1 := of_decide_eq_true ha.1
  have h2 := ha.2
  unfold Fit
  split at h2
  · have h3 := of_decide_eq_true h2
    omega
  · have h3 := of_decide_eq_true h2
    omega

section
variable {w0 : World} {rb : Nat} {ra : Option Addr} {rn rc B H Z : Nat} {s : ByteArray} {L : List Cl} {a : Option Addr} {cap : Nat} {rs : List (Int × Int)} {vr : Value} {W W' : World}

theorem St.cells (h : St w0 rb ra rn rc B H s L (.slice a L.length cap) rs vr W) : ∃ A, CellsIn W a A 0 L.length L := by
  obtain ⟨a', A', cap', e, hc⟩ := owns_in h.own
  cases e
  exact ⟨_, hc⟩

theorem St.head {A : Nat} (h : St w0 rb ra rn rc B H s L (.slice (some ⟨A, 0, none⟩) L.length cap) rs vr W) (h0 : 0 < L.length) : W.cell? ⟨A, 0, none⟩ = some (.int .i64 (L.getD 0 cl0).pos) := by
  have := h.own.cells rfl 0 (.int .i64 (L.getD 0 cl0).pos) (by
    cases L with
    | nil => simp at h0
    | cons c r => rfl)
  rwa [Addr.add_lit, Nat.zero_add] at this

theorem St.drop (h : St w0 rb ra rn rc B H s L (.slice a L.length cap) rs vr W) (hr : heapB s L = true) (h0 : 0 < L.length) (c g : Int) : Calls Try.prog 17 #[.agg #[.string s, .slice a L.length cap], refV c g] W (HeapEnd W (dropD s L c g) (dropL s L c g) (dropOk s L c g)) := by
  obtain ⟨A, hc⟩ := h.cells
  have ha := hc.addr h0
  subst ha
  have := heap_small hr
  exact specDrop_any s A 0 L.length cap L c g W hc (by omega) (by omega) (right_fit hr)

theorem St.put (h : St w0 rb ra rn rc B H s L (.slice a L.length cap) rs vr W) (hr : heapB s L = true) (x : ByteArray) (hx : x.size ≤ 1048576) : Calls Try.prog 9 #[.agg #[.string s, .slice a L.length cap], .string x] W (PutEnd W s L x) := by
  obtain ⟨A, hc⟩ := h.cells
  have := heap_small hr
  exact specPut_any s x a A 0 L.length cap L W hc (by omega) (by omega) (right_fit hr) hx

theorem St.packed (h : St w0 rb ra rn rc B H s L (.slice a L.length cap) rs vr W) (hr : heapB s L = true) : Calls Try.prog 20 #[.agg #[.string s, .slice a L.length cap]] W (HeapEnd W (packD s L) (packL s L) true) := by
  obtain ⟨A, hc⟩ := h.cells
  have := heap_small hr
  have h2 := specPacked_any s a A 0 L.length cap L W hc (by omega) (by omega) (right_fit hr)
  rwa [hr] at h2
end

theorem put_more {s : ByteArray} {L : List Cl} {x : ByteArray} (h : putOk s L x = true) : heapB (putD s L x) (putL s L x) = true ∧ 0 < (putL s L x).length ∧ (putL s L x).length ≤ L.length + 1 := by
  have hX := put_x h
  have eL : putL s L x = putCells L (putPos s L x) x.size := by unfold putL; rw [if_pos h]
  refine ⟨(put_law h).right, ?_, ?_⟩
  · rw [eL]
    have := hX.klt
    omega
  · rw [eL]
    unfold putCells roomC
    rw [List.length_set]
    split
    · simp
    · omega

theorem extract_small (x : ByteArray) (k : Nat) (h : x.size ≤ 1048576) : (x.extract 0 k).size ≤ 1048576 := by
  rw [ByteArray.size_extract]
  omega

theorem info30 : (Try.prog.info? 30).map (fun i => (i.zero, i.size, i.bytes)) = some (some (.agg #[.int .i64 0, .int .i64 0]), 2, 16) := by kernel_rfl

theorem new_right (n : Nat) (h : n ≤ 3000) : heapB (dataZ n) [] = true := by
  rw [heap_iff]
  refine ⟨by rw [dataZ_size]; exact h, by simp, fun i hi => by simp at hi, fun i j hi => by simp at hi, fun p _ _ => byte_zero n p⟩

theorem owns_none30 (w : World) (B : Nat) (hB : B ≤ w.heap.size) : (w.alloc (.cells #[] 30)).ownsRow B 30 2 (.slice (some ⟨w.heap.size, 0, none⟩) 0 0) 0 (flatR []) :=
  ⟨rfl, .inr ⟨w.heap.size, 0, #[], rfl, hB, RowAt.new w 30 #[], by omega, by unfold maxLen; omega, by simp, by simp [flatR]⟩⟩

set_option maxHeartbeats 8000000 in
set_option maxRecDepth 100000 in
theorem heap_drawn (rb : Nat) (ra : Option Addr) (rn rc : Nat) (w : World) (h : Rd w rb ra rn rc) (hrb : rb < w.heap.size) :
    Calls Try.prog 22 #[.pointer (some ⟨rb, 0, none⟩)] w fun e w' => ∃ s L v rs vr, e = .returned (.tuple #[.agg #[.string s, v], vr]) ∧ w'.ownsRow w.heap.size 35 4 v L.length (flatC L) ∧ w'.ownsRow w.heap.size 30 2 vr rs.length (flatR rs) ∧ Drawn s L ∧ rs.length ≤ 12 ∧ Rd w' rb ra rn rc ∧ w.grownBy w' (some rb) := by
  have bw0 : Below w.heap.size w (w.alloc (.cells #[.string ⟨#[]⟩, .slice none 0 0] 26)) := (Below.refl _ w).alloc (Nat.le_refl _) _
  have q0 := RowAt.new w 26 #[.string ⟨#[]⟩, .slice none 0 0]
  have rd0 := h.below bw0 hrb
  go_enter Try.func22, Try.ntmps22
  go_wp2_with fail
  generalize w.alloc (.cells #[.string ⟨#[]⟩, .slice none 0 0] 26) = w1 at *
  refine (below_any rb ra rn rc 60 w1 rd0 (by omega) (by omega)).mono ?_
  rintro e w2 ⟨k, rfl, k0, k1, r2, g2⟩
  obtain ⟨m, rfl⟩ : ∃ m : Nat, k = m := ⟨k.toNat, by omega⟩
  have hm : m ≤ 59 := by omega
  have HN : Hid (∀ w, Calls Try.prog 40 #[.int .i64 (20 + (m : Int))] w fun e w' => e = .returned (.tuple #[.agg #[.string (dataZ (20 + m)), .slice none 0 0], .bool true]) ∧ Below w.heap.size w w') := fun w => by
    have := specNew (20 + (m : Int)) w
    rw [new_eq m hm] at this
    exact this
  have q2 : RowAt w2 w.heap.size 26 #[.string ⟨#[]⟩, .slice none 0 0] := (g2.block _ q0.lt (by simp; omega)).trans q0
  have gg2 : w.grownBy w2 (some rb) := grown_trans (grown_below (grown_refl w _) bw0) g2
  clear q0 rd0 g2 bw0
  go_wp2_with fail
  refine (HN.out w2).mono ?_
  rintro e w3 ⟨rfl, b3⟩
  have l2 := q2.lt
  have s3 := b3.size
  have q3 := q2.below b3 l2
  have r3 := r2.below b3 (by omega)
  have gg3 := grown_below gg2 b3
  have e4 : (w3.alloc (.cells #[.string (dataZ (20 + m)), .slice none 0 0] 26)).heap.size = w3.heap.size + 1 := by simp
  have st5 : St w rb ra rn rc w.heap.size w3.heap.size (dataZ (20 + m)) [] (.slice none 0 0) [] (.slice (some ⟨w3.heap.size + 1, 0, none⟩) 0 0) ((w3.alloc (.cells #[.string (dataZ (20 + m)), .slice none 0 0] 26)).alloc (.cells #[] 30)) := by
    have b4 : Below w3.heap.size w3 (w3.alloc (.cells #[.string (dataZ (20 + m)), .slice none 0 0] 26)) := (Below.refl _ w3).alloc (Nat.le_refl _) _
    refine ⟨⟨hrb, rfl⟩, (q3.more _).more _, by omega, (RowAt.new w3 26 _).more _, World.ownsRow_nil _ _ _ _, ?_, ?_, ?_⟩
    · have := owns_none30 (w3.alloc (.cells #[.string (dataZ (20 + m)), .slice none 0 0] 26)) w.heap.size (by omega)
      rwa [e4] at this
    · exact (r3.below b4 (by omega)).below ((Below.refl _ _).alloc (Nat.le_refl _) _) (by omega)
    · exact grown_below (grown_below gg3 b4) ((Below.refl _ _).alloc (Nat.le_refl _) _)
  have hr5 : Hid (heapB (dataZ (20 + m)) [] = true) := new_right _ (by omega)
  have hH : w.heap.size < w3.heap.size := by omega
  clear q2 q3 r2 r3 gg2 gg3 l2 s3 HN b3 e4
  go_wp2_with fail
  generalize (w3.alloc (.cells #[.string (dataZ (20 + m)), .slice none 0 0] 26)).alloc (.cells #[] 30) = w5 at *
  generalize w3.heap.size = H at *
  refine (below_any rb ra rn rc 12 w5 st5.rd (by omega) (by omega)).mono ?_
  rintro e w6 ⟨k, rfl, k0, k1, r6, g6⟩
  obtain ⟨i0, rfl⟩ : ∃ m : Nat, k = m := ⟨k.toNat, by omega⟩
  have st6 := st5.read r6 g6
  have hi0 : i0 ≤ 11 := by omega
  clear st5 r6 g6 k0 k1
  go_wp2_with fail
  go_loopw [6, 7, 8, 9, 10, 11, 12] (fun r6 i _ _ _ _ _ wr => ∃ (j : Nat) (s : ByteArray) (L : List Cl) (a : Option Addr) (cap : Nat) (rs : List (Int × Int)) (a2 : Option Addr) (c2 : Nat), r6 = .slice a2 rs.length c2 ∧ i = .int .i64 j ∧ L.length + j ≤ 11 ∧ rs.length + j ≤ 11 ∧ (0 < rs.length → 0 < L.length) ∧ Hid (heapB s L = true) ∧ St w rb ra rn rc w.heap.size H s L (.slice a L.length cap) rs (.slice a2 rs.length c2) wr) (fun _ i _ _ _ _ _ _ => (intOf i).toNat)
  case atStart => exact ⟨i0, _, [], none, 0, [], _, 0, rfl, rfl, by simp; omega, by simp; omega, by simp, hr5, st6⟩
  case round =>
    obtain ⟨j, s, L, a, cap, rs, a2, c2, rfl, rfl, hj1, hj2, hrl, HR, st⟩ := hrel
    clear st6 hr5
    by_cases hj0 : j = 0
    · subst hj0
      have hfit := right_fit HR.out
      have hsm := (heap_small HR.out).1
      go_wp2_with fail
      refine (once_any rb ra rn rc 40 _ st.rd (by omega) (by omega)).mono ?_
      rintro e w7 ⟨b, rfl, r7, g7⟩
      have st7 := st.read r7 g7
      clear st r7 g7
      by_cases hL0 : L.length = 0
      · have hnil : L = [] := List.eq_nil_of_length_eq_zero hL0
        subst hnil
        have st7' : St w rb ra rn rc w.heap.size H s [] (.slice a 0 cap) rs (.slice a2 rs.length c2) w7 := st7
        obtain ⟨f0, f1, f2, f3, f4⟩ := st7'.final
        obtain ⟨g0, g1⟩ := two_at f0
        obtain ⟨y0, y1⟩ := two_at st7'.row
        obtain ⟨z0, z1⟩ := two_at st7'.res
        have z2 := st7'.res.frozen 0
        have z3 := st7'.res.frozen 1
        have HF1 : Hid _ := f1
        have HF2 : Hid _ := f2
        have HF3 : Hid _ := f3
        have HF4 : Hid _ := f4
        clear f0 f1 f2 f3 f4 st7 st7' hL0
        cases b with
        | false =>
          go_wp2
          exact bodyPost_ret (v := .tuple #[.agg #[.string s, .slice a 0 cap], .slice a2 rs.length c2]) (by simp [results, Try.results22, go_sem, g0, g1]) rfl ⟨s, [], _, rs, _, rfl, HF1.out, HF2.out, ⟨hsm, by simp, hfit⟩, by omega, HF3.out, HF4.out⟩
        | true =>
          go_wp2
          exact bodyPost_ret (v := .tuple #[.agg #[.string s, .slice a 0 cap], .slice a2 rs.length c2]) (by simp [results, Try.results22, go_sem, g0, g1]) rfl ⟨s, [], _, rs, _, rfl, HF1.out, HF2.out, ⟨hsm, by simp, hfit⟩, by omega, HF3.out, HF4.out⟩
      · have dL : decide ((0 : Int) < (L.length : Int)) = true := decide_eq_true (by omega)
        have h0 : 0 < L.length := by omega
        clear hL0
        cases b with
        | false =>
          obtain ⟨f0, f1, f2, f3, f4⟩ := st7.final
          obtain ⟨g0, g1⟩ := two_at f0
          obtain ⟨y0, y1⟩ := two_at st7.row
          obtain ⟨z0, z1⟩ := two_at st7.res
          have z2 := st7.res.frozen 0
          have z3 := st7.res.frozen 1
          have HF1 : Hid _ := f1
          have HF2 : Hid _ := f2
          have HF3 : Hid _ := f3
          have HF4 : Hid _ := f4
          clear f0 f1 f2 f3 f4 st7
          go_wp2
          exact bodyPost_ret (v := .tuple #[.agg #[.string s, .slice a L.length cap], .slice a2 rs.length c2]) (by simp [results, Try.results22, go_sem, g0, g1]) rfl ⟨s, L, _, rs, _, rfl, HF1.out, HF2.out, ⟨hsm, by omega, hfit⟩, by omega, HF3.out, HF4.out⟩
        | true =>
          obtain ⟨A, cap', e2⟩ := Go.Joins.ownsRow_form st7.own h0
          cases e2
          obtain ⟨e0, e1⟩ := two_at st7.row
          go_upto_region 17 with fail
          go_cut [6] (fun v wx => v = .slice a2 rs.length c2 ∧ ∃ k : Int, -9223372036854775808 ≤ k ∧ k ≤ 9223372036854775807 ∧ St w rb ra rn rc w.heap.size H s (awayC L k) (.slice (some ⟨A, 0, none⟩) L.length cap) rs (.slice a2 rs.length c2) wx)
          case first =>
            go_region_held3 (fun w' => w'.cell? ⟨H, 1, none⟩ = some (.slice (some ⟨A, 0, none⟩) L.length cap))
              (first
                | exact (two_at st7.row).2
                | exact (two_at st7.drew.row).2
                | exact (two_at st8.row).2
                | exact (two_at (st8.away _ h0).row).2)
              (first
                | (go_at_call 41
                   refine (off_any rb ra rn rc 0 20 _ st7.drew.rd (by omega) (by omega) (by omega)).mono ?_
                   rintro e w8 ⟨k, rfl, k0, k1, r8, g8⟩
                   have st8 := st7.drew.read r8 g8
                   have u0 := st8.head h0
                   have u1 := st8.own.frozenAt 0))
            all_goals go_wp2_with fail
            all_goals go_meet
            all_goals exact ⟨rfl, k, k0, k1, st8.away k h0⟩
          case rest =>
            obtain ⟨rfl, k, k0, k1, st8⟩ := hcut
            have hal : (awayC L k).length = L.length := by unfold awayC; rw [List.length_set]
            have hfit2 : ∀ i, i < (awayC L k).length → Fit ((awayC L k).getD i cl0) := fun i hi => by
              rw [hal] at hi
              unfold awayC
              rw [getD_set _ h0]
              split
              · obtain ⟨_, q2, q3⟩ := hfit 0 h0
                exact ⟨⟨k0, k1⟩, q2, q3⟩
              · exact hfit i hi
            have HAL : Hid ((awayC L k).length = L.length) := hal
            obtain ⟨f0, f1, f2, f3, f4⟩ := st8.final
            obtain ⟨g0, g1⟩ := two_at f0
            obtain ⟨y0, y1⟩ := two_at st8.row
            obtain ⟨z0, z1⟩ := two_at st8.res
            have z2 := st8.res.frozen 0
            have z3 := st8.res.frozen 1
            have HF1 : Hid _ := f1
            have HF2 : Hid _ := f2
            have HF3 : Hid _ := f3
            have HF4 : Hid _ := f4
            clear f0 f1 f2 f3 f4 st8 st7 hal
            go_wp2
            exact bodyPost_ret (v := .tuple #[.agg #[.string s, .slice (some ⟨A, 0, none⟩) L.length cap], .slice a2 rs.length c2]) (by simp [results, Try.results22, go_sem, g0, g1]) rfl ⟨s, awayC L k, _, rs, _, rfl, HF1.out, HF2.out, ⟨hsm, by rw [HAL.out]; omega, hfit2⟩, by omega, HF3.out, HF4.out⟩
    · have dj : decide ((0 : Int) < (j : Int)) = true := decide_eq_true (by omega)
      have hjb : (j : Int) ≤ 11 := by omega
      go_upto_region 6 with fail
      go_cut [33] (fun v wx => ∃ b, v = .bool b ∧ (b = true → 0 < rs.length) ∧ St w rb ra rn rc w.heap.size H s L (.slice a L.length cap) rs (.slice a2 rs.length c2) wx)
      case first =>
        by_cases hrs : rs.length = 0
        · have dr : decide ((0 : Int) < (rs.length : Int)) = false := decide_eq_false (by omega)
          go_wp2_with fail
          go_meet
          case rel => exact ⟨false, rfl, by simp, st⟩
        · have dr : decide ((0 : Int) < (rs.length : Int)) = true := decide_eq_true (by omega)
          go_wp2_with fail
          refine (once_any rb ra rn rc 3 _ st.rd (by omega) (by omega)).mono ?_
          rintro e w7 ⟨b, rfl, r7, g7⟩
          have st7 := st.read r7 g7
          go_wp2_with fail
          go_meet
          case rel => exact ⟨b, rfl, fun _ => by omega, st7⟩
      case rest =>
        obtain ⟨b, rfl, hb, st7⟩ := hcut
        clear st
        cases b with
        | true =>
          have hrs := hb rfl
          clear hb
          have h0 := hrl hrs
          have DR : Hid (∀ W c g, St w rb ra rn rc w.heap.size H s L (.slice a L.length cap) rs (.slice a2 rs.length c2) W → Calls Try.prog 17 #[.agg #[.string s, .slice a L.length cap], refV c g] W (HeapEnd W (dropD s L c g) (dropL s L c g) (dropOk s L c g))) := fun W c g st => st.drop HR.out h0 c g
          have DL : Hid (∀ c g, dropOk s L c g = true → heapB (dropD s L c g) (dropL s L c g) = true ∧ (dropL s L c g).length = L.length) := fun c g hd => ⟨(drop_law hd (by omega)).right, by unfold dropL; rw [if_pos hd, List.length_set]⟩
          obtain ⟨A2, c2', e2⟩ := Go.Joins.ownsRow_form st7.ref hrs
          cases e2
          have hrs2 : rs.length ≤ 65536 := by omega
          have low7 := st7.low
          have kp : ∀ {W : World}, St w rb ra rn rc w.heap.size H s L (.slice a L.length cap) rs (.slice (some ⟨A2, 0, none⟩) rs.length c2) W → (W.cell? ⟨H, 0, none⟩ = some (.string s) ∧ W.cell? ⟨H, 1, none⟩ = some (.slice a L.length cap) ∧ (∀ j, j < rs.length → W.cell? ⟨A2, j * 2, none⟩ = some (.int .i64 (refC rs j))) ∧ (∀ j, j < rs.length → W.cell? ⟨A2, j * 2 + 1, none⟩ = some (.int .i64 (refG rs j)))) := fun st => ⟨(two_at st.row).1, (two_at st.row).2, fun _ hj => (ref_at st.ref hj).1, fun _ hj => (ref_at st.ref hj).2⟩
          go_upto_region 7 with fail
          go_cut [8, 9] (fun v8 v9 wx => ∃ q s' L' a' cap' ok, v8 = .pointer (some ⟨q, 0, none⟩) ∧ v9 = .bool ok ∧ RowAt wx q 26 #[.string s', .slice a' L'.length cap'] ∧ wx.ownsRow w.heap.size 35 4 (.slice a' L'.length cap') L'.length (flatC L') ∧ (ok = true → heapB s' L' = true ∧ L'.length = L.length) ∧ St w rb ra rn rc w.heap.size H s L (.slice a L.length cap) rs (.slice (some ⟨A2, 0, none⟩) rs.length c2) wx)
          case first =>
            go_region_held3 (fun w' => w'.cell? ⟨H, 0, none⟩ = some (.string s) ∧ w'.cell? ⟨H, 1, none⟩ = some (.slice a L.length cap) ∧ (∀ j, j < rs.length → w'.cell? ⟨A2, j * 2, none⟩ = some (.int .i64 (refC rs j))) ∧ (∀ j, j < rs.length → w'.cell? ⟨A2, j * 2 + 1, none⟩ = some (.int .i64 (refG rs j))))
              (first
                | exact kp st7
                | exact kp st7.drew
                | exact kp (st7.alloc _)
                | exact kp (st7.alloc _).drew
                | exact kp st8
                | exact kp (st8.alloc _)
                | exact kp st9
                | exact kp (st9.alloc _)
                | exact kp ((st9.set low7 hq9 _).set low7 hq9 _))
              (first
                | (go_at_call 24
                   refine (pick_any rb ra rn rc rs.length _ ?_ hrs hrs2).mono ?_
                   first
                     | exact st7.drew.rd
                     | exact (st7.alloc _).drew.rd
                   rintro e w8 ⟨jj, rfl, hjj, r8, g8⟩
                   have st8 : St w rb ra rn rc w.heap.size H s L (.slice a L.length cap) rs (.slice (some ⟨A2, 0, none⟩) rs.length c2) w8 := by
                     first
                       | exact st7.drew.read r8 g8
                       | exact (st7.alloc _).drew.read r8 g8
                   first
                     | (have z8 : RowAt w8 wc.heap.size 26 #[.string ⟨#[]⟩, .slice none 0 0] := row_read (RowAt.new wc 26 _).drew g8 (by have := low7.r; omega))
                     | skip
                   have j0 : (0 : Int) ≤ (jj : Int) := by omega
                   have j1 : (jj : Int) < (rs.length : Int) := by omega)
                | (go_at_call 17
                   refine (DR.out _ _ _ ?_).mono ?_
                   first
                     | exact st8
                     | exact st8.alloc _
                   rintro e w9 ⟨v9, rfl, o9, b9⟩
                   obtain ⟨a9, A9, cap9, rfl, _⟩ := form_any o9
                   have st9 : St w rb ra rn rc w.heap.size H s L (.slice a L.length cap) rs (.slice (some ⟨A2, 0, none⟩) rs.length c2) w9 := by
                     first
                       | exact st8.below b9
                       | exact (st8.alloc _).below b9
                   first
                     | (have z9 : RowAt w9 wc.heap.size 26 #[.string ⟨#[]⟩, .slice none 0 0] := z8.below b9 z8.lt
                        have y0 := (two_at z9).1
                        have y1 := (two_at z9).2
                        have y2 := z9.frozen 0
                        have y3 := z9.frozen 1
                        have hq9 : wc.heap.size ≤ wc.heap.size := Nat.le_refl _)
                     | (have z9 : RowAt w9 w8.heap.size 26 #[.string ⟨#[]⟩, .slice none 0 0] := (RowAt.new w8 26 _).below b9 (by simp)
                        have y0 := (two_at z9).1
                        have y1 := (two_at z9).2
                        have y2 := z9.frozen 0
                        have y3 := z9.frozen 1
                        have hq9 : wc.heap.size ≤ w8.heap.size := g8.size)
                     | skip))
            all_goals go_wp2_with fail
            all_goals go_meet
            all_goals
              refine ⟨_, dropD s L (refC rs jj) (refG rs jj), dropL s L (refC rs jj) (refG rs jj), a9, cap9, _, rfl, rfl, ?_, ?_, DL.out _ _, ?_⟩
            all_goals first
              | exact RowAt.new w9 26 _
              | exact (Go.Joins.ownsRow_le o9 (by have := st8.low.b; omega)).alloc _
              | exact st9.alloc _
              | exact z9.both
              | exact own_past (Go.Joins.ownsRow_le o9 (by have := st8.low.b; omega)) z9
              | exact own_past (Go.Joins.ownsRow_le o9 (by have := st8.low.b; simp; omega)) z9
              | exact (st9.set low7 hq9 _).set low7 hq9 _
          case rest =>
            obtain ⟨q, s', L', a', cap', ok, rfl, rfl, hq, ho, hok, st8⟩ := hcut
            obtain ⟨x0, x1⟩ := two_at hq
            cases ok with
            | true =>
              obtain ⟨hr', hl'⟩ := hok rfl
              have HL' : Hid (L'.length = L.length) := hl'
              have stn := st8.swap (s' := s') ho
              obtain ⟨y0, y1⟩ := two_at st8.row
              have y2 := st8.row.frozen 0
              have y3 := st8.row.frozen 1
              have HR' : Hid (heapB s' L' = true) := hr'
              clear DR DL low7 kp hok hr' hl' hq
              go_wp2
              refine ⟨⟨j - 1, s', L', a', cap', rs, some ⟨A2, 0, none⟩, c2, rfl, by rw [Int.natCast_sub (by omega)]; rfl, by rw [HL'.out]; omega, by omega, fun _ => by rw [HL'.out]; omega, HR', stn⟩, by simp [intOf]; omega⟩
            | false =>
              clear DR DL low7 kp hok hq
              go_wp2
              refine ⟨⟨j - 1, s, L, a, cap, rs, some ⟨A2, 0, none⟩, c2, rfl, by rw [Int.natCast_sub (by omega)]; rfl, by omega, by omega, fun _ => by omega, HR, st8⟩, by simp [intOf]; omega⟩
        | false =>
          clear hb
          go_wp2_with fail
          refine (once_any rb ra rn rc 8 _ st7.rd (by omega) (by omega)).mono ?_
          rintro e w8 ⟨b, rfl, r8, g8⟩
          have st8 := st7.read r8 g8
          clear st7 r8 g8
          go_upto_if 49 with fail
          go_cut [6] (fun v wx => v = .slice a2 rs.length c2 ∧ ∃ s' L' a' cap', Hid (L'.length = L.length) ∧ Hid (heapB s' L' = true) ∧ St w rb ra rn rc w.heap.size H s' L' (.slice a' L'.length cap') rs (.slice a2 rs.length c2) wx)
          case first =>
            cases b with
            | true =>
              have PK := st8.packed HR.out
              have PL := pack_law HR.out
              have HP1 : Hid (heapB (packD s L) (packL s L) = true) := PL.right
              have HP2 : Hid ((packL s L).length = L.length) := PL.len
              clear PL
              generalize packD s L = D' at *
              generalize packL s L = L' at *
              obtain ⟨y0, y1⟩ := two_at st8.row
              go_wp2_with fail
              refine PK.mono ?_
              rintro e w9 ⟨v9, rfl, o9, b9⟩
              obtain ⟨a9, A9, cap9, rfl, _⟩ := form_any o9
              have st9 := st8.below b9
              have stn := st9.swap (s' := D') (Go.Joins.ownsRow_le o9 (by have := st8.low.b; omega))
              clear y0 y1
              obtain ⟨y0, y1⟩ := two_at st9.row
              have y2 := st9.row.frozen 0
              have y3 := st9.row.frozen 1
              clear PK st8 o9 b9
              go_wp2_with fail
              go_meet
              case rel => exact ⟨rfl, D', L', a9, cap9, HP2, HP1, stn⟩
            | false =>
              go_wp2_with fail
              go_meet
              case rel => exact ⟨rfl, s, L, a, cap, rfl, HR, st8⟩
          case rest =>
            obtain ⟨rfl, s', L', a', cap', HL', HR', st9⟩ := hcut
            have hj3 : L'.length + j ≤ 11 := by rw [HL'.out]; exact hj1
            have hrl2 : 0 < rs.length → 0 < L'.length := by rw [HL'.out]; exact hrl
            clear st8 HR hj1 hrl HL' b
            clear L s a cap
            have PT : Hid (∀ W x, St w rb ra rn rc w.heap.size H s' L' (.slice a' L'.length cap') rs (.slice a2 rs.length c2) W → x.size ≤ 1048576 → Calls Try.prog 9 #[.agg #[.string s', .slice a' L'.length cap'], .string x] W (PutEnd W s' L' x)) := fun W x st hx => st.put HR'.out x hx
            unfold PutEnd at PT
            have PL : Hid (∀ x, putOk s' L' x = true → heapB (putD s' L' x) (putL s' L' x) = true ∧ 0 < (putL s' L' x).length ∧ (putL s' L' x).length ≤ L'.length + 1) := fun x hp => put_more hp
            have low9 := st9.low
            have kp : ∀ {W : World}, St w rb ra rn rc w.heap.size H s' L' (.slice a' L'.length cap') rs (.slice a2 rs.length c2) W → (W.cell? ⟨H, 0, none⟩ = some (.string s') ∧ W.cell? ⟨H, 1, none⟩ = some (.slice a' L'.length cap')) := fun st => two_at st.row
            have hrz : ∀ {q : Nat}, wc.heap.size ≤ q → q ≠ rb := fun h => by have := low9.r; omega
            go_upto_region 12 with fail
            go_cut [10, 11, 12] (fun v10 v11 v12 wx => ∃ q r D M a1 cap1 c g ok, v10 = .pointer (some ⟨q, 0, none⟩) ∧ v11 = .pointer (some ⟨r, 0, none⟩) ∧ v12 = .bool ok ∧ RowAt wx q 26 #[.string D, .slice a1 M.length cap1] ∧ RowAt wx r 30 #[.int .i64 c, .int .i64 g] ∧ wx.ownsRow w.heap.size 35 4 (.slice a1 M.length cap1) M.length (flatC M) ∧ (ok = true → heapB D M = true ∧ 0 < M.length ∧ M.length ≤ L'.length + 1) ∧ St w rb ra rn rc w.heap.size H s' L' (.slice a' L'.length cap') rs (.slice a2 rs.length c2) wx)
            case first =>
              go_region_held3 (fun w' => w'.cell? ⟨H, 0, none⟩ = some (.string s') ∧ w'.cell? ⟨H, 1, none⟩ = some (.slice a' L'.length cap'))
                (first
                  | with_reducible exact kp st9
                  | with_reducible exact kp st9.drew
                  | with_reducible exact kp (st9.alloc _)
                  | with_reducible exact kp (st9.alloc _).drew
                  | with_reducible exact kp ((st9.alloc _).alloc _)
                  | with_reducible exact kp ((st9.alloc _).alloc _).drew
                  | with_reducible exact kp st10
                  | with_reducible exact kp (st10.alloc _)
                  | with_reducible exact kp ((st10.alloc _).alloc _)
                  | with_reducible exact kp st11
                  | with_reducible exact kp (st11.alloc _)
                  | with_reducible exact kp ((st11.alloc _).alloc _)
                  | with_reducible exact kp ((st11.set low9 hq26 _).set low9 hq26 _)
                  | with_reducible exact kp (((st11.set low9 hq26 _).set low9 hq26 _).alloc _)
                  | with_reducible exact kp (((st11.set low9 hq30 _).set low9 hq30 _).alloc _)
                  | with_reducible exact kp ((((st11.set low9 hq26 _).set low9 hq26 _).set low9 hq30 _).set low9 hq30 _))
                (first
                  | (go_at_call 24
                     refine (pick_any rb ra rn rc 10 _ ?_ (by omega) (by omega)).mono ?_
                     first
                       | exact st9.drew.rd
                       | exact (st9.alloc _).drew.rd
                       | exact ((st9.alloc _).alloc _).drew.rd
                     rintro e w10 ⟨kk, rfl, hkk, r10, g10⟩
                     have st10 : St w rb ra rn rc w.heap.size H s' L' (.slice a' L'.length cap') rs (.slice a2 rs.length c2) w10 := by
                       first
                         | exact st9.drew.read r10 g10
                         | exact (st9.alloc _).drew.read r10 g10
                         | exact ((st9.alloc _).alloc _).drew.read r10 g10
                     have hs10 : wc.heap.size ≤ w10.heap.size := by
                       have := g10.size
                       simp at this
                       omega
                     first
                       | (have z26 : RowAt w10 wc.heap.size 26 #[.string ⟨#[]⟩, .slice none 0 0] := row_read ((RowAt.new wc 26 _).more (.cells #[.int .i64 0, .int .i64 0] 30)).drew g10 (hrz (Nat.le_refl _))
                          have z30 : RowAt w10 (wc.heap.size + 1) 30 #[.int .i64 0, .int .i64 0] := row_read (RowAt.first (w := wc.alloc (.cells #[.string ⟨#[]⟩, .slice none 0 0] 26)) (by simp)).drew g10 (hrz (by omega)))
                       | (have z30 : RowAt w10 wc.heap.size 30 #[.int .i64 0, .int .i64 0] := row_read ((RowAt.new wc 30 _).more (.cells #[.string ⟨#[]⟩, .slice none 0 0] 26)).drew g10 (hrz (Nat.le_refl _))
                          have z26 : RowAt w10 (wc.heap.size + 1) 26 #[.string ⟨#[]⟩, .slice none 0 0] := row_read (RowAt.first (w := wc.alloc (.cells #[.int .i64 0, .int .i64 0] 30)) (by simp)).drew g10 (hrz (by omega)))
                       | (have z26 : RowAt w10 wc.heap.size 26 #[.string ⟨#[]⟩, .slice none 0 0] := row_read (RowAt.new wc 26 _).drew g10 (hrz (Nat.le_refl _)))
                       | (have z30 : RowAt w10 wc.heap.size 30 #[.int .i64 0, .int .i64 0] := row_read (RowAt.new wc 30 _).drew g10 (hrz (Nat.le_refl _)))
                       | skip
                     have k0 : (0 : Int) ≤ 1 + (kk : Int) := by omega
                     have k1 : 1 + (kk : Int) ≤ 10 := by omega
                     have kw : IntKind.i64.wrap (1 + (kk : Int)) = 1 + (kk : Int) := wrap_small (by omega) (by omega))
                  | (go_at_call 9
                     refine (PT.out _ _ ?_ (extract_small _ _ (by decide))).mono ?_
                     first
                       | exact st10
                       | exact st10.alloc _
                       | exact (st10.alloc _).alloc _
                     generalize ByteArray.extract _ 0 (1 + (kk : Int)).toNat = X
                     rintro e w11 ⟨v11, rfl, o11, b11⟩
                     obtain ⟨a11, A11, cap11, rfl, _⟩ := form_any o11
                     have st11 : St w rb ra rn rc w.heap.size H s' L' (.slice a' L'.length cap') rs (.slice a2 rs.length c2) w11 := by
                       first
                         | exact st10.below b11
                         | exact (st10.alloc _).below b11
                         | exact ((st10.alloc _).alloc _).below b11
                     have O11 := Go.Joins.ownsRow_le o11 (base' := w.heap.size) (by have := st10.low.b; simp; omega)
                     first
                       | (have x26 : RowAt w11 wc.heap.size 26 #[.string ⟨#[]⟩, .slice none 0 0] := z26.below b11 z26.lt
                          have hq26 : wc.heap.size ≤ wc.heap.size := Nat.le_refl _)
                       | (have x26 : RowAt w11 (wc.heap.size + 1) 26 #[.string ⟨#[]⟩, .slice none 0 0] := z26.below b11 z26.lt
                          have hq26 : wc.heap.size ≤ wc.heap.size + 1 := Nat.le_succ _)
                       | (have x26 : RowAt w11 wc.heap.size 26 #[.string ⟨#[]⟩, .slice none 0 0] := (z26.more _).below b11 (z26.more _).lt
                          have hq26 : wc.heap.size ≤ wc.heap.size := Nat.le_refl _)
                       | (have x26 : RowAt w11 w10.heap.size 26 #[.string ⟨#[]⟩, .slice none 0 0] := (RowAt.new w10 26 _).below b11 (RowAt.new w10 26 _).lt
                          have hq26 : wc.heap.size ≤ w10.heap.size := hs10)
                       | (have x26 : RowAt w11 w10.heap.size 26 #[.string ⟨#[]⟩, .slice none 0 0] := ((RowAt.new w10 26 _).more _).below b11 ((RowAt.new w10 26 _).more _).lt
                          have hq26 : wc.heap.size ≤ w10.heap.size := hs10)
                       | (have x26 : RowAt w11 (w10.heap.size + 1) 26 #[.string ⟨#[]⟩, .slice none 0 0] := (RowAt.first (by simp)).below b11 (by simp)
                          have hq26 : wc.heap.size ≤ w10.heap.size + 1 := Nat.le_succ_of_le hs10)
                       | skip
                     first
                       | (have x30 : RowAt w11 wc.heap.size 30 #[.int .i64 0, .int .i64 0] := z30.below b11 z30.lt
                          have hq30 : wc.heap.size ≤ wc.heap.size := Nat.le_refl _)
                       | (have x30 : RowAt w11 (wc.heap.size + 1) 30 #[.int .i64 0, .int .i64 0] := z30.below b11 z30.lt
                          have hq30 : wc.heap.size ≤ wc.heap.size + 1 := Nat.le_succ _)
                       | (have x30 : RowAt w11 wc.heap.size 30 #[.int .i64 0, .int .i64 0] := (z30.more _).below b11 (z30.more _).lt
                          have hq30 : wc.heap.size ≤ wc.heap.size := Nat.le_refl _)
                       | (have x30 : RowAt w11 w10.heap.size 30 #[.int .i64 0, .int .i64 0] := (RowAt.new w10 30 _).below b11 (RowAt.new w10 30 _).lt
                          have hq30 : wc.heap.size ≤ w10.heap.size := hs10)
                       | (have x30 : RowAt w11 w10.heap.size 30 #[.int .i64 0, .int .i64 0] := ((RowAt.new w10 30 _).more _).below b11 ((RowAt.new w10 30 _).more _).lt
                          have hq30 : wc.heap.size ≤ w10.heap.size := hs10)
                       | (have x30 : RowAt w11 (w10.heap.size + 1) 30 #[.int .i64 0, .int .i64 0] := (RowAt.first (by simp)).below b11 (by simp)
                          have hq30 : wc.heap.size ≤ w10.heap.size + 1 := Nat.le_succ_of_le hs10)
                       | skip
                     first
                       | (have hqr := row_ne x26 x30)
                       | skip
                     first
                       | (have hl26 := x26.lt
                          have y0 := (two_at x26).1
                          have y1 := (two_at x26).2
                          have y2 := x26.frozen 0
                          have y3 := x26.frozen 1)
                       | skip
                     first
                       | (have hl30 := x30.lt
                          have y4 := (two_at x30).1
                          have y5 := (two_at x30).2
                          have y6 := x30.frozen 0
                          have y7 := x30.frozen 1)
                       | skip))
              all_goals go_wp2_with fail
              all_goals go_meet
              all_goals
                refine ⟨_, _, putD s' L' X, putL s' L' X, a11, cap11, putRc s' L' X, putRg s' L' X, _, rfl, rfl, rfl, ?_, ?_, ?_, PL.out X, ?_⟩
                · first
                    | with_reducible exact (RowAt.first rfl).more _
                    | with_reducible exact RowAt.first (by simp)
                    | with_reducible exact x26.both.more _
                    | with_reducible exact x26.both.skip hqr
                · first
                    | with_reducible exact (RowAt.first rfl).more _
                    | with_reducible exact RowAt.first (by simp)
                    | with_reducible exact x30.both.more _
                    | with_reducible exact (x30.skip (Ne.symm hqr)).both
                · first
                    | with_reducible exact (O11.alloc _).alloc _
                    | with_reducible exact (own_past O11 x26).alloc _
                    | with_reducible exact (own_past30 O11 x30).alloc _
                    | with_reducible exact own_past30 (own_past O11 x26) (x30.skip (Ne.symm hqr))
                · first
                    | with_reducible exact (st11.alloc _).alloc _
                    | with_reducible exact ((st11.set low9 hq26 _).set low9 hq26 _).alloc _
                    | with_reducible exact ((st11.set low9 hq30 _).set low9 hq30 _).alloc _
                    | with_reducible exact (((st11.set low9 hq26 _).set low9 hq26 _).set low9 hq30 _).set low9 hq30 _
            case rest =>
              obtain ⟨q, r, D, M, a1, cap1, c, g, ok, rfl, rfl, rfl, hq, hr, ho, hok, st10⟩ := hcut
              clear PT PL kp low9 st9 hrz
              cases ok with
              | false =>
                clear hok hq hr ho
                go_wp2
                refine ⟨⟨j - 1, s', L', a', cap', rs, a2, c2, rfl, by rw [Int.natCast_sub (by omega)]; rfl, by omega, by omega, hrl2, HR', st10⟩, by simp [intOf]; omega⟩
              | true =>
                obtain ⟨hr1, hM0, hM1⟩ := hok rfl
                have HM : Hid (heapB D M = true) := hr1
                have stn := st10.swap (s' := D) ho
                have hrn := hr.skip (x := .string D) (y := .slice a1 M.length cap1) (row_ne st10.row hr).symm
                obtain ⟨x0, x1⟩ := two_at hq
                obtain ⟨y0, y1⟩ := two_at st10.row
                have y2 := st10.row.frozen 0
                have y3 := st10.row.frozen 1
                obtain ⟨z0, z1⟩ := two_at hrn
                have hB10 := st10.low.b
                obtain ⟨i0', hi, hz0, hz1, hz2⟩ := info_parts info30
                clear hok hr1 hq hr ho st10
                go_wp2_with (at_builtin; refine wpList_append_own _ rfl _ _ 47 rfl w.heap.size 30 i0' _ 2 16 Try.underlying47 hi hz0 hz1 hz2 rfl (by decide) _ _ _ rfl (stn.ref.alloc _) ⟨wc.heap.size, 0, none⟩ 1 1 [.int .i64 c, .int .i64 g] rfl rfl ?c1 ?c2 ?c3 ?c4 ?c5 ?_)
                case c1 =>
                  intro j u hj
                  rw [Addr.add_lit, Nat.zero_add]
                  exact ((RowAt.first (by simp)).cell j).trans (by simpa using hj)
                case c2 => exact fun u hu => by simp at hu; rcases hu with rfl | rfl <;> rfl
                case c3 => unfold maxLen; omega
                case c4 => omega
                case c5 => simp; omega
                intro v0' w5 hown' hgrow _
                obtain ⟨A5, cap5, hv5⟩ := Go.Joins.ownsRow_form hown' (by omega)
                subst hv5
                have st5 := (stn.alloc _).refs (rs' := rs ++ [(c, g)]) (by rw [List.length_append, flatR_app]; exact hown') hgrow
                clear hown' hgrow stn hrn x0 x1 y0 y1 y2 y3 z0 z1
                go_wp2
                refine ⟨⟨j - 1, D, M, a1, cap1, rs ++ [(c, g)], some ⟨A5, 0, none⟩, cap5, by rw [List.length_append]; rfl, by rw [Int.natCast_sub (by omega)]; rfl, by omega, by rw [List.length_append, List.length_singleton]; omega, fun _ => hM0, HM, by rw [List.length_append]; exact st5⟩, by simp [intOf]; omega⟩
end Go.Proofs.Ytjjpplpdpldkeaa
