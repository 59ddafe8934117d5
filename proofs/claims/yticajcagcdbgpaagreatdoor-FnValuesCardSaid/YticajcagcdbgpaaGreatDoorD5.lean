/- spec's value(): a value that is drawn. -/
import Derived.Test.YticajcagcdbgpaaGreatDoorD4
import Derived.Deep.RegionHeldLaw
import Derived.Deep.RegionLaw
namespace Go.Proofs.YticajcagcdbgpaaGreatDoor
open Go.RowKit Go.Sort
open Kk (Rk rk0 texL texR decS scoreB rightB ranksB OwnR flatR encR FitL)

set_option maxHeartbeats 16000000 in
set_option maxRecDepth 100000 in
theorem value_any (rb : Nat) (a : Option Addr) (n c : Nat) (w : World) (h : Rd w rb a n c) (hrb : rb < w.heap.size) :
    Calls Tryz.prog 15 #[.pointer (some ⟨rb, 0, none⟩)] w (DrawV w rb a n c) := by
  have hb0 : Below w.heap.size w (w.alloc (.cells z5 28)) := (Below.refl _ w).alloc (Nat.le_refl _) _
  have R0 : Rd (w.alloc (.cells z5 28)) rb a n c := h.below hb0 hrb
  have HP : Hid (∀ W, Rd W rb a n c → Calls Tryz.prog 29 #[.pointer (some ⟨rb, 0, none⟩), .int .i64 4] W fun e w' => (e = .returned (.int .i64 0) ∨ e = .returned (.int .i64 1) ∨ e = .returned (.int .i64 2) ∨ e = .returned (.int .i64 3)) ∧ Rd w' rb a n c ∧ W.grownBy w' (some rb)) := fun W hW => pick4 rb a n c W hW
  have HR : Hid (RowAt (w.alloc (.cells z5 28)) w.heap.size 28 z5) := RowAt.new w 28 z5
  clear h
  go_enter Tryz.func15, Tryz.ntmps15
  go_wp2_with fail
  refine (HP.out _ R0).mono ?_
  rintro e w1 ⟨he, r1, g1⟩
  have gr1 : w.grownBy w1 (some rb) := grown_trans (grown_below (grown_refl w _) hb0) g1
  have s1 : w.heap.size < w1.heap.size := by have := g1.size; simp at this; omega
  have HD1 : Hid (∀ k : Int, Dv w rb a n c w1.heap.size ⟨k, ⟨#[]⟩, [], [], []⟩ nilS nilS nilS (w1.alloc (.cells (vC k ⟨#[]⟩ nilS nilS nilS) 28))) := fun k => by
    have b1 : Below w1.heap.size w1 (w1.alloc (.cells (vC k ⟨#[]⟩ nilS nilS nilS) 28)) := (Below.refl _ w1).alloc (Nat.le_refl _) _
    exact ⟨r1.below b1 (by omega), grown_below gr1 b1, RowAt.below (row_read HR.out g1 (by omega)) b1 s1, RowAt.new w1 28 _, ⟨ownS_nil _ _, ownP_nil _ _, Kk.ownR_nil _ _⟩, s1, hrb⟩
  obtain ⟨G, hG⟩ : ∃ G, w1.heap.size = G := ⟨_, rfl⟩
  have HG : Hid (w1.heap.size = G) := hG
  clear R0 hb0 g1 r1 gr1 HR hG
  rcases he with rfl | rfl | rfl | rfl
  · have HD : Hid (Dv w rb a n c G ⟨1, ⟨#[]⟩, [], [], []⟩ nilS nilS nilS (w1.alloc (.cells (vC 1 ⟨#[]⟩ nilS nilS nilS) 28))) := by rw [← HG.out]; exact HD1.out 1
    clear HD1
    go_wp2_with fail
    rw [HG.out]
    generalize w1.alloc (.cells (vC 1 ⟨#[]⟩ nilS nilS nilS) 28) = W1 at *
    have lt1 : rb < W1.heap.size := by have := HD.out.gr.size; omega
    refine (text_any rb a n c W1 HD.out.rd lt1).mono ?_
    rintro e w2 ⟨s, rfl, hz, r2, g2⟩
    have D2 := HD.out.grow r2 g2
    have p1 := D2.row.cell 1
    have p1f := D2.row.frozen 1
    simp at p1
    have D3 : Dv w rb a n c G ⟨1, s, [], [], []⟩ nilS nilS nilS (w2.setCell ⟨G, 1, none⟩ (.string s)) := D2.store 1 (.string s) rfl ⟨ownS_nil _ _, ownP_nil _ _, Kk.ownR_nil _ _⟩
    have HD : Hid (Dv w rb a n c G ⟨1, s, [], [], []⟩ nilS nilS nilS (w2.setCell ⟨G, 1, none⟩ (.string s))) := D3
    clear D2 D3 r2 g2 lt1
    go_wp2_with fail
    generalize w2.setCell ⟨G, 1, none⟩ (.string s) = w3 at *
    have rdt := HD.out.rd
    refine (once_any rb a n c 30 _ rdt (by omega) (by omega)).mono ?_
    rintro e w8 ⟨b8, rfl, r8, g8⟩
    have D8 := HD.out.grow r8 g8
    clear rdt HD
    cases b8 with
    | false =>
      obtain ⟨y0, y1, y2, y3, y4⟩ := row5 D8.row
      have f0 := D8.res.frozen 0
      have f1 := D8.res.frozen 1
      have f2 := D8.res.frozen 2
      have f3 := D8.res.frozen 3
      have f4 := D8.res.frozen 4
      have c0 := D8.res.cell 0
      have c1 := D8.res.cell 1
      have c2 := D8.res.cell 2
      have c3 := D8.res.cell 3
      have c4 := D8.res.cell 4
      simp at c0 c1 c2 c3 c4
      have HD8 : Hid (Dv w rb a n c G (⟨1, s, [], [], []⟩ : Vl) nilS nilS nilS w8) := D8
      clear D8 g8 r8
      go_wp2
      exact bodyPost_ret (v := vlV 1 s nilS nilS nilS) (by simp [results, Tryz.results15, go_sem, c0, c1, c2, c3, c4]) rfl (HD8.out.done (⟨by first | exact hz | exact Nat.zero_le _, by simp, by simp, by simp, fun x hx => by simp at hx, by simp⟩ : Small _) _ _ _ _ _)
    | true =>
      have HD8 : Hid (Dv w rb a n c G (⟨1, s, [], [], []⟩ : Vl) nilS nilS nilS w8) := D8
      have lt8 : rb < w8.heap.size := by have := D8.gr.size; have := D8.rb; omega
      clear D8 g8
      go_wp2_with fail
      refine (Kk.off14 rb a n c w8 r8 lt8).mono ?_
      rintro e w9 ⟨x, rfl, _, r9, g9⟩
      have D9 := HD8.out.grow r9 g9
      have p0 := D9.row.cell 0
      have p0f := D9.row.frozen 0
      simp at p0
      have D10 : Dv w rb a n c G ⟨x, ((⟨1, s, [], [], []⟩ : Vl)).text, ((⟨1, s, [], [], []⟩ : Vl)).items, ((⟨1, s, [], [], []⟩ : Vl)).pairs, ((⟨1, s, [], [], []⟩ : Vl)).ranks⟩ nilS nilS nilS (w9.setCell ⟨G, 0, none⟩ (.int .i64 x)) := D9.store 0 (.int .i64 x) rfl ⟨D9.own.items, D9.own.pairs, D9.own.ranks⟩
      obtain ⟨y0, y1, y2, y3, y4⟩ := row5 D10.row
      have f0 := D10.res.frozen 0
      have f1 := D10.res.frozen 1
      have f2 := D10.res.frozen 2
      have f3 := D10.res.frozen 3
      have f4 := D10.res.frozen 4
      have c0 := D10.res.cell 0
      have c1 := D10.res.cell 1
      have c2 := D10.res.cell 2
      have c3 := D10.res.cell 3
      have c4 := D10.res.cell 4
      simp at c0 c1 c2 c3 c4
      have HD10 : Hid (Dv w rb a n c G ⟨x, ((⟨1, s, [], [], []⟩ : Vl)).text, ((⟨1, s, [], [], []⟩ : Vl)).items, ((⟨1, s, [], [], []⟩ : Vl)).pairs, ((⟨1, s, [], [], []⟩ : Vl)).ranks⟩ nilS nilS nilS (w9.setCell ⟨G, 0, none⟩ (.int .i64 x))) := D10
      clear D9 D10 HD8 g9 r9 r8
      go_wp2_with fail
      generalize w9.setCell ⟨G, 0, none⟩ (.int .i64 x) = w10 at *
      go_wp2
      exact bodyPost_ret (v := vlV x s nilS nilS nilS) (by simp [results, Tryz.results15, go_sem, c0, c1, c2, c3, c4]) rfl (HD10.out.done ⟨((⟨by first | exact hz | exact Nat.zero_le _, by simp, by simp, by simp, fun x hx => by simp at hx, by simp⟩ : Small _)).text, ((⟨by first | exact hz | exact Nat.zero_le _, by simp, by simp, by simp, fun x hx => by simp at hx, by simp⟩ : Small _)).ni, ((⟨by first | exact hz | exact Nat.zero_le _, by simp, by simp, by simp, fun x hx => by simp at hx, by simp⟩ : Small _)).np, ((⟨by first | exact hz | exact Nat.zero_le _, by simp, by simp, by simp, fun x hx => by simp at hx, by simp⟩ : Small _)).nr, ((⟨by first | exact hz | exact Nat.zero_le _, by simp, by simp, by simp, fun x hx => by simp at hx, by simp⟩ : Small _)).fit, ((⟨by first | exact hz | exact Nat.zero_le _, by simp, by simp, by simp, fun x hx => by simp at hx, by simp⟩ : Small _)).items⟩ _ _ _ _ _)
  · have HD : Hid (Dv w rb a n c G ⟨2, ⟨#[]⟩, [], [], []⟩ nilS nilS nilS (w1.alloc (.cells (vC 2 ⟨#[]⟩ nilS nilS nilS) 28))) := by rw [← HG.out]; exact HD1.out 2
    clear HD1
    go_wp2_with fail
    rw [HG.out]
    generalize w1.alloc (.cells (vC 2 ⟨#[]⟩ nilS nilS nilS) 28) = W1 at *
    have lt1 : rb < W1.heap.size := by have := HD.out.gr.size; omega
    have HP2 : Hid (Calls Tryz.prog 29 #[.pointer (some ⟨rb, 0, none⟩), .int .i64 4] W1 fun e w' => ∃ q : Nat, e = .returned (.int .i64 q) ∧ q < 4 ∧ Rd w' rb a n c ∧ W1.grownBy w' (some rb)) := pick_any rb a n c 4 W1 HD.out.rd (by omega) (by omega)
    refine HP2.out.mono ?_
    rintro e w2 ⟨q0, rfl, hq0, r2, g2⟩
    have HD2 : Hid (Dv w rb a n c G ⟨2, ⟨#[]⟩, [], [], []⟩ nilS nilS nilS w2) := HD.out.grow r2 g2
    clear HD HP2 r2 g2
    go_wp2_with fail
    go_loopw [4] (fun i wr => ∃ (q : Nat) (ts : List ByteArray) (xa : Option Addr) (m cc : Nat), i = .int .i64 q ∧ q + ts.length ≤ 4 ∧ (∀ t ∈ ts, t.size ≤ 20) ∧ Dv w rb a n c G ⟨2, ⟨#[]⟩, ts, [], []⟩ (.slice xa m cc) nilS nilS wr ∧ OwnS wr (G + 1) (.slice xa m cc) ts) (fun i _ => (intOf i).toNat)
    case atStart => exact ⟨q0 + 1, [], none, 0, 0, by go_num, by simp; omega, by simp, HD2.out, ownS_nil _ _⟩
    case round =>
      obtain ⟨q, ts, xa, m, cc, rfl, hq, hts, hd, oi⟩ := hrel
      have HD : Hid (Dv w rb a n c G ⟨2, ⟨#[]⟩, ts, [], []⟩ (.slice xa m cc) nilS nilS wr) := hd
      have HTS : Hid (∀ t ∈ ts, t.size ≤ 20) := hts
      have OI : Hid (OwnS wr (G + 1) (.slice xa m cc) ts) := oi
      have hGl := hd.row.lt
      have hlow := hd.low
      have ltr : rb < wr.heap.size := by have := hd.gr.size; omega
      have y2 := hd.row.cell 2
      simp at y2
      clear hd hts oi HD2
      by_cases h0 : 0 < q
      · have hqi : (0 : Int) < (q : Int) := by omega
        have hqw : IntKind.i64.wrap ((q : Int) - 1) = (q : Int) - 1 := Kk.wrap_small (by omega) (by omega)
        have rD : Rd wr.drew rb a n c := HD.out.rd.below (B := wr.heap.size) (below_drewN (Below.refl _ wr) 1) ltr
        have HT : Hid (Calls Tryz.prog 30 #[.pointer (some ⟨rb, 0, none⟩)] wr.drew fun e w2 => ∃ (s : ByteArray) (xb : Option Addr) (m2 cb : Nat) (w5 : World), e = .returned (.string s) ∧ w2.cell? ⟨G, 2, none⟩ = some (.slice xa m cc) ∧ (w2.alloc (.cells #[.string s] 9)).cell? ⟨G, 2, none⟩ = some (.slice xa m cc) ∧ (Builtin.append_ #[24, 24] 24 #[.slice xa m cc, .slice (some ⟨w2.heap.size, 0, none⟩) 1 1]).run Tryz.prog (w2.alloc (.cells #[.string s] 9)) = .ok (.slice xb m2 cb) w5 ∧ w5.cell? ⟨G, 2, none⟩ = some (.slice xa m cc) ∧ w5.frozen? ⟨G, 2, none⟩ = false ∧ Hid ((∀ t ∈ ts ++ [s], t.size ≤ 20) ∧ Dv w rb a n c G ⟨2, ⟨#[]⟩, ts ++ [s], [], []⟩ (.slice xb m2 cb) nilS nilS (w5.setCell ⟨G, 2, none⟩ (.slice xb m2 cb)) ∧ OwnS (w5.setCell ⟨G, 2, none⟩ (.slice xb m2 cb)) (G + 1) (.slice xb m2 cb) (ts ++ [s]))) := by
          refine (text_any rb a n c wr.drew rD ltr).mono ?_
          rintro e w2 ⟨s, rfl, hz, r2, g2⟩
          have gd : wr.grownBy wr.drew (some rb) := grown_drewN wr 1 _
          have g02 := grown_trans gd g2
          have D2 := HD.out.grow r2 g02
          have o2 : OwnS w2 (G + 1) (.slice xa m cc) ts := own_grown OI.out g02 (by omega)
          have bA : Below w2.heap.size w2 (w2.alloc (.cells #[.string s] 9)) := (Below.refl _ w2).alloc (Nat.le_refl _) _
          have D2A := D2.alloc bA
          obtain ⟨xb, m2, cb, w5, hrun, o5, b5⟩ := app_str s o2 (by omega) D2.row.lt
          have r5 : RowAt w5 G 28 _ := RowAt.below D2.row b5 (by omega)
          refine ⟨s, xb, m2, cb, w5, rfl, (D2.row.cell 2), (D2A.row.cell 2), hrun, r5.cell 2, r5.frozen 2, ?_, ?_, ?_⟩
          · intro t ht
            rcases List.mem_append.1 ht with ht | ht
            · exact HTS.out t ht
            · simp at ht; subst ht; exact hz
          · exact D2.put 2 _ b5 rfl ⟨own_up o5 (by omega), ownP_nil _ _, Kk.ownR_nil _ _⟩
          · exact own_set o5 r5 (by decide)
        have hq4 : q + ts.length ≤ 4 := hq
        clear rD HTS OI HD
        go_upto_region 9 with fail
        go_region_law (first
          | (go_simp
             refine HT.out.mono ?_
             rintro e w2 ⟨s, xb, m2, cb, w5, rfl, z2, z2a, hrun, z5c, z5f, HN⟩
             dsimp only)
          | refine step_append_run rfl (.tmp 28) (.tmp 31) 24 rfl (by simp [Act.eval]) (by simp [Act.eval]) hrun ?_)
        all_goals
          go_wp2
          go_roundw
          case rel => exact ⟨q - 1, ts ++ [s], xb, m2, cb, by go_num, by rw [List.length_append, List.length_singleton]; omega, HN.out.1, HN.out.2.1, HN.out.2.2⟩
          case measure => simp [intOf]; omega
      · obtain rfl : q = 0 := by omega
        have HN4 : Hid (ts.length ≤ 4) := by unfold Hid; omega
        clear OI y2
        go_wp2_with fail
        have rdt := HD.out.rd
        refine (once_any rb a n c 30 _ rdt (by omega) (by omega)).mono ?_
        rintro e w8 ⟨b8, rfl, r8, g8⟩
        have D8 := HD.out.grow r8 g8
        clear rdt HD
        cases b8 with
        | false =>
          obtain ⟨y0, y1, y2, y3, y4⟩ := row5 D8.row
          have f0 := D8.res.frozen 0
          have f1 := D8.res.frozen 1
          have f2 := D8.res.frozen 2
          have f3 := D8.res.frozen 3
          have f4 := D8.res.frozen 4
          have c0 := D8.res.cell 0
          have c1 := D8.res.cell 1
          have c2 := D8.res.cell 2
          have c3 := D8.res.cell 3
          have c4 := D8.res.cell 4
          simp at c0 c1 c2 c3 c4
          have HD8 : Hid (Dv w rb a n c G (⟨2, ⟨#[]⟩, ts, [], []⟩ : Vl) (.slice xa m cc) nilS nilS w8) := D8
          clear D8 g8 r8
          go_wp2
          exact bodyPost_ret (v := vlV 2 ⟨#[]⟩ (.slice xa m cc) nilS nilS) (by simp [results, Tryz.results15, go_sem, c0, c1, c2, c3, c4]) rfl (HD8.out.done (⟨Nat.zero_le _, HN4.out, by simp, by simp, fun x hx => by simp at hx, HTS.out⟩ : Small _) _ _ _ _ _)
        | true =>
          have HD8 : Hid (Dv w rb a n c G (⟨2, ⟨#[]⟩, ts, [], []⟩ : Vl) (.slice xa m cc) nilS nilS w8) := D8
          have lt8 : rb < w8.heap.size := by have := D8.gr.size; have := D8.rb; omega
          clear D8 g8
          go_wp2_with fail
          refine (Kk.off14 rb a n c w8 r8 lt8).mono ?_
          rintro e w9 ⟨x, rfl, _, r9, g9⟩
          have D9 := HD8.out.grow r9 g9
          have p0 := D9.row.cell 0
          have p0f := D9.row.frozen 0
          simp at p0
          have D10 : Dv w rb a n c G ⟨x, ((⟨2, ⟨#[]⟩, ts, [], []⟩ : Vl)).text, ((⟨2, ⟨#[]⟩, ts, [], []⟩ : Vl)).items, ((⟨2, ⟨#[]⟩, ts, [], []⟩ : Vl)).pairs, ((⟨2, ⟨#[]⟩, ts, [], []⟩ : Vl)).ranks⟩ (.slice xa m cc) nilS nilS (w9.setCell ⟨G, 0, none⟩ (.int .i64 x)) := D9.store 0 (.int .i64 x) rfl ⟨D9.own.items, D9.own.pairs, D9.own.ranks⟩
          obtain ⟨y0, y1, y2, y3, y4⟩ := row5 D10.row
          have f0 := D10.res.frozen 0
          have f1 := D10.res.frozen 1
          have f2 := D10.res.frozen 2
          have f3 := D10.res.frozen 3
          have f4 := D10.res.frozen 4
          have c0 := D10.res.cell 0
          have c1 := D10.res.cell 1
          have c2 := D10.res.cell 2
          have c3 := D10.res.cell 3
          have c4 := D10.res.cell 4
          simp at c0 c1 c2 c3 c4
          have HD10 : Hid (Dv w rb a n c G ⟨x, ((⟨2, ⟨#[]⟩, ts, [], []⟩ : Vl)).text, ((⟨2, ⟨#[]⟩, ts, [], []⟩ : Vl)).items, ((⟨2, ⟨#[]⟩, ts, [], []⟩ : Vl)).pairs, ((⟨2, ⟨#[]⟩, ts, [], []⟩ : Vl)).ranks⟩ (.slice xa m cc) nilS nilS (w9.setCell ⟨G, 0, none⟩ (.int .i64 x))) := D10
          clear D9 D10 HD8 g9 r9 r8
          go_wp2_with fail
          generalize w9.setCell ⟨G, 0, none⟩ (.int .i64 x) = w10 at *
          go_wp2
          exact bodyPost_ret (v := vlV x ⟨#[]⟩ (.slice xa m cc) nilS nilS) (by simp [results, Tryz.results15, go_sem, c0, c1, c2, c3, c4]) rfl (HD10.out.done ⟨((⟨Nat.zero_le _, HN4.out, by simp, by simp, fun x hx => by simp at hx, HTS.out⟩ : Small _)).text, ((⟨Nat.zero_le _, HN4.out, by simp, by simp, fun x hx => by simp at hx, HTS.out⟩ : Small _)).ni, ((⟨Nat.zero_le _, HN4.out, by simp, by simp, fun x hx => by simp at hx, HTS.out⟩ : Small _)).np, ((⟨Nat.zero_le _, HN4.out, by simp, by simp, fun x hx => by simp at hx, HTS.out⟩ : Small _)).nr, ((⟨Nat.zero_le _, HN4.out, by simp, by simp, fun x hx => by simp at hx, HTS.out⟩ : Small _)).fit, ((⟨Nat.zero_le _, HN4.out, by simp, by simp, fun x hx => by simp at hx, HTS.out⟩ : Small _)).items⟩ _ _ _ _ _)
  · have HDn : Hid (Dv w rb a n c G ⟨3, ⟨#[]⟩, [], [], []⟩ nilS nilS nilS ((w1.alloc (.cells (vC 3 ⟨#[]⟩ nilS nilS nilS) 28)).alloc (.cells #[.string ⟨#[]⟩, .string ⟨#[102]⟩, .string ⟨#[103]⟩, .string ⟨#[104]⟩] 9))) := by rw [← HG.out]; exact (HD1.out 3).alloc ((Below.refl _ _).alloc (Nat.le_refl _) _)
    have HNm : Hid (RowAt ((w1.alloc (.cells (vC 3 ⟨#[]⟩ nilS nilS nilS) 28)).alloc (.cells #[.string ⟨#[]⟩, .string ⟨#[102]⟩, .string ⟨#[103]⟩, .string ⟨#[104]⟩] 9)) (G + 1) 9 #[.string ⟨#[]⟩, .string ⟨#[102]⟩, .string ⟨#[103]⟩, .string ⟨#[104]⟩]) := by
      have e1 : (w1.alloc (.cells (vC 3 ⟨#[]⟩ nilS nilS nilS) 28)).heap.size = G + 1 := by rw [← HG.out]; simp
      rw [← e1]
      exact RowAt.new _ 9 _
    clear HD1
    go_wp2_with fail
    rw [HG.out]
    generalize (w1.alloc (.cells (vC 3 ⟨#[]⟩ nilS nilS nilS) 28)).alloc (.cells #[.string ⟨#[]⟩, .string ⟨#[102]⟩, .string ⟨#[103]⟩, .string ⟨#[104]⟩] 9) = Wn at *
    go_loopw [6] (fun i wr => ∃ (q : Nat) (ps : List Pr) (xa : Option Addr) (m cc : Nat), i = .int .i64 q ∧ q ≤ 4 ∧ ps.length ≤ q ∧ Dv w rb a n c G ⟨3, ⟨#[]⟩, [], ps, []⟩ nilS (.slice xa m cc) nilS wr ∧ OwnP wr (G + 2) (.slice xa m cc) ps ∧ RowAt wr (G + 1) 9 #[.string ⟨#[]⟩, .string ⟨#[102]⟩, .string ⟨#[103]⟩, .string ⟨#[104]⟩]) (fun i _ => 4 - (intOf i).toNat)
    case atStart => exact ⟨0, [], none, 0, 0, rfl, by omega, by simp, HDn.out, ownP_nil _ _, HNm.out⟩
    case round =>
      obtain ⟨q, ps, xa, m, cc, rfl, hq, hps, hd, oi, hnm⟩ := hrel
      have HD : Hid (Dv w rb a n c G ⟨3, ⟨#[]⟩, [], ps, []⟩ nilS (.slice xa m cc) nilS wr) := hd
      have OI : Hid (OwnP wr (G + 2) (.slice xa m cc) ps) := oi
      have HNR : Hid (RowAt wr (G + 1) 9 #[.string ⟨#[]⟩, .string ⟨#[102]⟩, .string ⟨#[103]⟩, .string ⟨#[104]⟩]) := hnm
      have hlow := hd.low
      have ltr : rb < wr.heap.size := by have := hd.gr.size; omega
      clear hd oi hnm HDn HNm
      by_cases h4 : q < 4
      · have hqi : (q : Int) < 4 := by omega
        have hq0 : (0 : Int) ≤ (q : Int) := by omega
        go_wp2_with fail
        refine (once_any rb a n c 2 wr HD.out.rd (by omega) (by omega)).mono ?_
        rintro e w2 ⟨b, rfl, r2, g2⟩
        have HD2 : Hid (Dv w rb a n c G ⟨3, ⟨#[]⟩, [], ps, []⟩ nilS (.slice xa m cc) nilS w2) := HD.out.grow r2 g2
        have OI2 : Hid (OwnP w2 (G + 2) (.slice xa m cc) ps) := own_grown OI.out g2 (by omega)
        have HN2 : Hid (RowAt w2 (G + 1) 9 #[.string ⟨#[]⟩, .string ⟨#[102]⟩, .string ⟨#[103]⟩, .string ⟨#[104]⟩]) := row_read HNR.out g2 (by omega)
        have lt2 : rb < w2.heap.size := by have := g2.size; omega
        have y3 := HD2.out.row.cell 3
        simp at y3
        obtain ⟨x, hx, _⟩ := pick_cell HN2.out (small_of [⟨#[]⟩, ⟨#[102]⟩, ⟨#[103]⟩, ⟨#[104]⟩] (by decide)) q (by simpa using h4)
        have hw1 : IntKind.i64.wrap ((q : Int) + 1) = (q : Int) + 1 := Kk.wrap_small (by omega) (by omega)
        clear HD OI HNR g2
        cases b with
        | true =>
          have rD : Rd w2.drew rb a n c := r2.below (B := w2.heap.size) (below_drewN (Below.refl _ w2) 1) lt2
          have HT : Hid (Calls Tryz.prog 30 #[.pointer (some ⟨rb, 0, none⟩)] w2.drew fun e w3 => ∃ (s : ByteArray) (xb : Option Addr) (m2 cb : Nat) (w5 : World), e = .returned (.string s) ∧ w3.cell? ⟨G, 3, none⟩ = some (.slice xa m cc) ∧ w3.cell? ⟨G + 1, q, none⟩ = some (.string x) ∧ (w3.alloc (.cells #[.string x, .string s] 52)).cell? ⟨G, 3, none⟩ = some (.slice xa m cc) ∧ (Builtin.append_ #[25, 25] 25 #[.slice xa m cc, .slice (some ⟨w3.heap.size, 0, none⟩) 1 1]).run Tryz.prog (w3.alloc (.cells #[.string x, .string s] 52)) = .ok (.slice xb m2 cb) w5 ∧ w5.cell? ⟨G, 3, none⟩ = some (.slice xa m cc) ∧ w5.frozen? ⟨G, 3, none⟩ = false ∧ Hid (Dv w rb a n c G ⟨3, ⟨#[]⟩, [], ps ++ [(x, s)], []⟩ nilS (.slice xb m2 cb) nilS (w5.setCell ⟨G, 3, none⟩ (.slice xb m2 cb)) ∧ OwnP (w5.setCell ⟨G, 3, none⟩ (.slice xb m2 cb)) (G + 2) (.slice xb m2 cb) (ps ++ [(x, s)]) ∧ RowAt (w5.setCell ⟨G, 3, none⟩ (.slice xb m2 cb)) (G + 1) 9 #[.string ⟨#[]⟩, .string ⟨#[102]⟩, .string ⟨#[103]⟩, .string ⟨#[104]⟩])) := by
            refine (text_any rb a n c w2.drew rD lt2).mono ?_
            rintro e w3 ⟨s, rfl, hz, r3, g3⟩
            have gd : w2.grownBy w2.drew (some rb) := grown_drewN w2 1 _
            have g23 := grown_trans gd g3
            have D3 := HD2.out.grow r3 g23
            have o3 : OwnP w3 (G + 2) (.slice xa m cc) ps := own_grown OI2.out g23 (by omega)
            have n3 := row_read HN2.out g23 (by omega)
            have bA : Below w3.heap.size w3 (w3.alloc (.cells #[.string x, .string s] 52)) := (Below.refl _ w3).alloc (Nat.le_refl _) _
            have D3A := D3.alloc bA
            obtain ⟨xb, m2, cb, w5, hrun, o5, b5⟩ := app_prs x s o3 (by omega) n3.lt
            have r5 : RowAt w5 G 28 _ := RowAt.below D3.row b5 (by omega)
            have n5 := RowAt.below n3 b5 (by omega)
            refine ⟨s, xb, m2, cb, w5, rfl, D3.row.cell 3, (n3.cell q).trans ((HN2.out.cell q).symm.trans hx), D3A.row.cell 3, hrun, r5.cell 3, r5.frozen 3, ?_, ?_, ?_⟩
            · exact D3.put 3 _ (b5.mono (by omega)) rfl ⟨ownS_nil _ _, own_up o5 (by omega), Kk.ownR_nil _ _⟩
            · exact own_set o5 r5 (by decide)
            · exact (Below.heap_setCell _ _ _ _ (by simp)).trans n5
          clear rD OI2 HD2 HN2 r2
          go_upto_region 16 with fail
          go_region_law (first
            | (go_simp
               refine HT.out.mono ?_
               rintro e w3 ⟨s, xb, m2, cb, w5, rfl, z3, z3n, z3a, hrun, z5c, z5f, HN⟩
               dsimp only)
            | refine step_append_run rfl (.tmp 50) (.tmp 58) 25 rfl (by simp [Act.eval]) (by simp [Act.eval]) hrun ?_)
          all_goals
            go_wp2
            go_roundw
            case rel => exact ⟨q + 1, ps ++ [(x, s)], xb, m2, cb, by go_num, by omega, by rw [List.length_append, List.length_singleton]; omega, HN.out.1, HN.out.2.1, HN.out.2.2⟩
            case measure => simp [intOf]; omega
        | false =>
          by_cases h3 : q = 3
          · have hq3 : ((q : Int) == 3) = true := by simp; omega
            have H3 : Hid (q = 3) := h3
            clear h3
            have rD : Rd w2.drew rb a n c := r2.below (B := w2.heap.size) (below_drewN (Below.refl _ w2) 1) lt2
            have HT : Hid (Calls Tryz.prog 30 #[.pointer (some ⟨rb, 0, none⟩)] w2.drew fun e w3 => ∃ (s : ByteArray) (xb : Option Addr) (m2 cb : Nat) (w5 : World), e = .returned (.string s) ∧ w3.cell? ⟨G, 3, none⟩ = some (.slice xa m cc) ∧ w3.cell? ⟨G + 1, q, none⟩ = some (.string x) ∧ (w3.alloc (.cells #[.string x, .string s] 52)).cell? ⟨G, 3, none⟩ = some (.slice xa m cc) ∧ (Builtin.append_ #[25, 25] 25 #[.slice xa m cc, .slice (some ⟨w3.heap.size, 0, none⟩) 1 1]).run Tryz.prog (w3.alloc (.cells #[.string x, .string s] 52)) = .ok (.slice xb m2 cb) w5 ∧ w5.cell? ⟨G, 3, none⟩ = some (.slice xa m cc) ∧ w5.frozen? ⟨G, 3, none⟩ = false ∧ Hid (Dv w rb a n c G ⟨3, ⟨#[]⟩, [], ps ++ [(x, s)], []⟩ nilS (.slice xb m2 cb) nilS (w5.setCell ⟨G, 3, none⟩ (.slice xb m2 cb)) ∧ OwnP (w5.setCell ⟨G, 3, none⟩ (.slice xb m2 cb)) (G + 2) (.slice xb m2 cb) (ps ++ [(x, s)]) ∧ RowAt (w5.setCell ⟨G, 3, none⟩ (.slice xb m2 cb)) (G + 1) 9 #[.string ⟨#[]⟩, .string ⟨#[102]⟩, .string ⟨#[103]⟩, .string ⟨#[104]⟩])) := by
              refine (text_any rb a n c w2.drew rD lt2).mono ?_
              rintro e w3 ⟨s, rfl, hz, r3, g3⟩
              have gd : w2.grownBy w2.drew (some rb) := grown_drewN w2 1 _
              have g23 := grown_trans gd g3
              have D3 := HD2.out.grow r3 g23
              have o3 : OwnP w3 (G + 2) (.slice xa m cc) ps := own_grown OI2.out g23 (by omega)
              have n3 := row_read HN2.out g23 (by omega)
              have bA : Below w3.heap.size w3 (w3.alloc (.cells #[.string x, .string s] 52)) := (Below.refl _ w3).alloc (Nat.le_refl _) _
              have D3A := D3.alloc bA
              obtain ⟨xb, m2, cb, w5, hrun, o5, b5⟩ := app_prs x s o3 (by omega) n3.lt
              have r5 : RowAt w5 G 28 _ := RowAt.below D3.row b5 (by omega)
              have n5 := RowAt.below n3 b5 (by omega)
              refine ⟨s, xb, m2, cb, w5, rfl, D3.row.cell 3, (n3.cell q).trans ((HN2.out.cell q).symm.trans hx), D3A.row.cell 3, hrun, r5.cell 3, r5.frozen 3, ?_, ?_, ?_⟩
              · exact D3.put 3 _ (b5.mono (by omega)) rfl ⟨ownS_nil _ _, own_up o5 (by omega), Kk.ownR_nil _ _⟩
              · exact own_set o5 r5 (by decide)
              · exact (Below.heap_setCell _ _ _ _ (by simp)).trans n5
            clear rD OI2 HD2 HN2 r2
            go_upto_region 16 with fail
            go_region_law (first
              | (go_simp
                 refine HT.out.mono ?_
                 rintro e w3 ⟨s, xb, m2, cb, w5, rfl, z3, z3n, z3a, hrun, z5c, z5f, HN⟩
                 dsimp only)
              | refine step_append_run rfl (.tmp 50) (.tmp 58) 25 rfl (by simp [Act.eval]) (by simp [Act.eval]) hrun ?_)
            all_goals
              go_wp2
              go_roundw
              case rel => exact ⟨q + 1, ps ++ [(x, s)], xb, m2, cb, by go_num, by omega, by rw [List.length_append, List.length_singleton]; omega, HN.out.1, HN.out.2.1, HN.out.2.2⟩
              case measure => simp [intOf]; omega
          · have hq3 : ((q : Int) == 3) = false := by simp; omega
            clear r2 hx y3
            go_wp2
            go_roundw
            case rel => exact ⟨q + 1, ps, xa, m, cc, by go_num, by omega, by omega, HD2.out, OI2.out, HN2.out⟩
            case measure => simp [intOf]; omega
      · obtain rfl : q = 4 := by omega
        clear OI HNR
        go_wp2_with fail
        have rdt := HD.out.rd
        refine (once_any rb a n c 30 _ rdt (by omega) (by omega)).mono ?_
        rintro e w8 ⟨b8, rfl, r8, g8⟩
        have D8 := HD.out.grow r8 g8
        clear rdt HD
        cases b8 with
        | false =>
          obtain ⟨y0, y1, y2, y3, y4⟩ := row5 D8.row
          have f0 := D8.res.frozen 0
          have f1 := D8.res.frozen 1
          have f2 := D8.res.frozen 2
          have f3 := D8.res.frozen 3
          have f4 := D8.res.frozen 4
          have c0 := D8.res.cell 0
          have c1 := D8.res.cell 1
          have c2 := D8.res.cell 2
          have c3 := D8.res.cell 3
          have c4 := D8.res.cell 4
          simp at c0 c1 c2 c3 c4
          have HD8 : Hid (Dv w rb a n c G (⟨3, ⟨#[]⟩, [], ps, []⟩ : Vl) nilS (.slice xa m cc) nilS w8) := D8
          clear D8 g8 r8
          go_wp2
          exact bodyPost_ret (v := vlV 3 ⟨#[]⟩ nilS (.slice xa m cc) nilS) (by simp [results, Tryz.results15, go_sem, c0, c1, c2, c3, c4]) rfl (HD8.out.done (⟨Nat.zero_le _, by simp, hps, by simp, fun x hx => by simp at hx, by simp⟩ : Small _) _ _ _ _ _)
        | true =>
          have HD8 : Hid (Dv w rb a n c G (⟨3, ⟨#[]⟩, [], ps, []⟩ : Vl) nilS (.slice xa m cc) nilS w8) := D8
          have lt8 : rb < w8.heap.size := by have := D8.gr.size; have := D8.rb; omega
          clear D8 g8
          go_wp2_with fail
          refine (Kk.off14 rb a n c w8 r8 lt8).mono ?_
          rintro e w9 ⟨x, rfl, _, r9, g9⟩
          have D9 := HD8.out.grow r9 g9
          have p0 := D9.row.cell 0
          have p0f := D9.row.frozen 0
          simp at p0
          have D10 : Dv w rb a n c G ⟨x, ((⟨3, ⟨#[]⟩, [], ps, []⟩ : Vl)).text, ((⟨3, ⟨#[]⟩, [], ps, []⟩ : Vl)).items, ((⟨3, ⟨#[]⟩, [], ps, []⟩ : Vl)).pairs, ((⟨3, ⟨#[]⟩, [], ps, []⟩ : Vl)).ranks⟩ nilS (.slice xa m cc) nilS (w9.setCell ⟨G, 0, none⟩ (.int .i64 x)) := D9.store 0 (.int .i64 x) rfl ⟨D9.own.items, D9.own.pairs, D9.own.ranks⟩
          obtain ⟨y0, y1, y2, y3, y4⟩ := row5 D10.row
          have f0 := D10.res.frozen 0
          have f1 := D10.res.frozen 1
          have f2 := D10.res.frozen 2
          have f3 := D10.res.frozen 3
          have f4 := D10.res.frozen 4
          have c0 := D10.res.cell 0
          have c1 := D10.res.cell 1
          have c2 := D10.res.cell 2
          have c3 := D10.res.cell 3
          have c4 := D10.res.cell 4
          simp at c0 c1 c2 c3 c4
          have HD10 : Hid (Dv w rb a n c G ⟨x, ((⟨3, ⟨#[]⟩, [], ps, []⟩ : Vl)).text, ((⟨3, ⟨#[]⟩, [], ps, []⟩ : Vl)).items, ((⟨3, ⟨#[]⟩, [], ps, []⟩ : Vl)).pairs, ((⟨3, ⟨#[]⟩, [], ps, []⟩ : Vl)).ranks⟩ nilS (.slice xa m cc) nilS (w9.setCell ⟨G, 0, none⟩ (.int .i64 x))) := D10
          clear D9 D10 HD8 g9 r9 r8
          go_wp2_with fail
          generalize w9.setCell ⟨G, 0, none⟩ (.int .i64 x) = w10 at *
          go_wp2
          exact bodyPost_ret (v := vlV x ⟨#[]⟩ nilS (.slice xa m cc) nilS) (by simp [results, Tryz.results15, go_sem, c0, c1, c2, c3, c4]) rfl (HD10.out.done ⟨((⟨Nat.zero_le _, by simp, hps, by simp, fun x hx => by simp at hx, by simp⟩ : Small _)).text, ((⟨Nat.zero_le _, by simp, hps, by simp, fun x hx => by simp at hx, by simp⟩ : Small _)).ni, ((⟨Nat.zero_le _, by simp, hps, by simp, fun x hx => by simp at hx, by simp⟩ : Small _)).np, ((⟨Nat.zero_le _, by simp, hps, by simp, fun x hx => by simp at hx, by simp⟩ : Small _)).nr, ((⟨Nat.zero_le _, by simp, hps, by simp, fun x hx => by simp at hx, by simp⟩ : Small _)).fit, ((⟨Nat.zero_le _, by simp, hps, by simp, fun x hx => by simp at hx, by simp⟩ : Small _)).items⟩ _ _ _ _ _)
  · have HD : Hid (Dv w rb a n c G ⟨4, ⟨#[]⟩, [], [], []⟩ nilS nilS nilS (w1.alloc (.cells (vC 4 ⟨#[]⟩ nilS nilS nilS) 28))) := by rw [← HG.out]; exact HD1.out 4
    clear HD1
    go_wp2_with fail
    rw [HG.out]
    generalize w1.alloc (.cells (vC 4 ⟨#[]⟩ nilS nilS nilS) 28) = W1 at *
    have lt1 : rb < W1.heap.size := by have := HD.out.gr.size; omega
    refine (Kk.ranksD_any rb a n c W1 HD.out.rd lt1).mono ?_
    rintro e w2 ⟨v2, M, rfl, hM, hfM, oM, r2, g2⟩
    have D2 := HD.out.grow r2 g2
    obtain ⟨aM, cM, hv2⟩ := owns_form oM
    obtain ⟨m, hm⟩ : ∃ m, M.length = m := ⟨_, rfl⟩
    rw [hm] at hv2
    subst hv2
    have HD2 : Hid (Dv w rb a n c G ⟨4, ⟨#[]⟩, [], [], []⟩ nilS nilS nilS w2) := D2
    have OM : Hid (OwnR w2 W1.heap.size (.slice aM m cM) M) := oM
    have HF : Hid (FitL M) := hfM
    have HM : Hid (M.length = m) := hm
    have hm6 : m ≤ 6 := by omega
    clear D2 oM hfM g2 HD hm hM
    go_wp2_with fail
    refine (pick_any rb a n c 5 w2 r2 (by omega) (by omega)).mono ?_
    rintro e w3 ⟨j, rfl, hj, r3, g3⟩
    have HD3 : Hid (Dv w rb a n c G ⟨4, ⟨#[]⟩, [], [], []⟩ nilS nilS nilS w3) := HD2.out.grow r3 g3
    have HL : Hid (∃ A, Kk.RanksIn w3 aM A 0 m M) := by
      obtain ⟨a', A, c', e, hin⟩ := Kk.ownR_any (own_grown OM.out g3 lt1)
      injection e with e1 e2 e3
      subst e1
      rw [HM.out] at hin
      exact ⟨A, hin⟩
    obtain ⟨AM, hin3⟩ := HL.out
    have HC : Hid (Calls Tryz.prog 32 #[.slice aM m cM, .string ⟨#[109]⟩, .int .i64 j] w3 fun e w' => ∃ A cc M', e = .returned (.slice (some ⟨A, 0, none⟩) (List.length M') cc) ∧ M'.length ≤ m + 1 ∧ (FitL M → Kk.fitS j → FitL M') ∧ OwnR w' w3.heap.size (.slice (some ⟨A, 0, none⟩) M'.length cc) M' ∧ Below w3.heap.size w3 w') := Kk.lranked_ex aM AM 0 m cM M ⟨#[109]⟩ j w3 hin3 (by omega)
    have s3 : w.heap.size + 1 ≤ w3.heap.size := by have := HD3.out.res.lt; omega
    clear r2 g3 HD2 OM HL hin3 r3
    go_wp2_with fail
    refine HC.out.mono ?_
    rintro e w4 ⟨A', cc, M', rfl, hl4, hf4, o4, b4⟩
    have HF4 : Hid (FitL M') := hf4 HF.out ⟨by omega, by omega⟩
    have D4 := HD3.out.alloc b4
    have p4 := D4.row.cell 4
    have p4f := D4.row.frozen 4
    simp at p4
    obtain ⟨m', hm'⟩ : ∃ m', M'.length = m' := ⟨_, rfl⟩
    have HM' : Hid (M'.length = m') := hm'
    rw [hm'] at o4 hl4
    have HD : Hid (Dv w rb a n c G ⟨4, ⟨#[]⟩, [], [], M'⟩ nilS nilS (.slice (some ⟨A', 0, none⟩) m' cc) (w4.setCell ⟨G, 4, none⟩ (.slice (some ⟨A', 0, none⟩) m' cc))) := D4.store 4 _ rfl ⟨ownS_nil _ _, ownP_nil _ _, own_up o4 s3⟩
    rw [hm']
    clear D4 o4 hf4 HD3 HC b4 hm' HF
    go_wp2_with fail
    generalize w4.setCell ⟨G, 4, none⟩ (.slice (some ⟨A', 0, none⟩) m' cc) = w5 at *
    have rdt := HD.out.rd
    refine (once_any rb a n c 30 _ rdt (by omega) (by omega)).mono ?_
    rintro e w8 ⟨b8, rfl, r8, g8⟩
    have D8 := HD.out.grow r8 g8
    clear rdt HD
    cases b8 with
    | false =>
      obtain ⟨y0, y1, y2, y3, y4⟩ := row5 D8.row
      have f0 := D8.res.frozen 0
      have f1 := D8.res.frozen 1
      have f2 := D8.res.frozen 2
      have f3 := D8.res.frozen 3
      have f4 := D8.res.frozen 4
      have c0 := D8.res.cell 0
      have c1 := D8.res.cell 1
      have c2 := D8.res.cell 2
      have c3 := D8.res.cell 3
      have c4 := D8.res.cell 4
      simp at c0 c1 c2 c3 c4
      have HD8 : Hid (Dv w rb a n c G (⟨4, ⟨#[]⟩, [], [], M'⟩ : Vl) nilS nilS (.slice (some ⟨A', 0, none⟩) m' cc) w8) := D8
      clear D8 g8 r8
      go_wp2
      exact bodyPost_ret (v := vlV 4 ⟨#[]⟩ nilS nilS (.slice (some ⟨A', 0, none⟩) m' cc)) (by simp [results, Tryz.results15, go_sem, c0, c1, c2, c3, c4]) rfl (HD8.out.done (⟨Nat.zero_le _, by simp, by simp, by show M'.length ≤ 7; rw [HM'.out]; omega, HF4.out, by simp⟩ : Small _) _ _ _ _ _)
    | true =>
      have HD8 : Hid (Dv w rb a n c G (⟨4, ⟨#[]⟩, [], [], M'⟩ : Vl) nilS nilS (.slice (some ⟨A', 0, none⟩) m' cc) w8) := D8
      have lt8 : rb < w8.heap.size := by have := D8.gr.size; have := D8.rb; omega
      clear D8 g8
      go_wp2_with fail
      refine (Kk.off14 rb a n c w8 r8 lt8).mono ?_
      rintro e w9 ⟨x, rfl, _, r9, g9⟩
      have D9 := HD8.out.grow r9 g9
      have p0 := D9.row.cell 0
      have p0f := D9.row.frozen 0
      simp at p0
      have D10 : Dv w rb a n c G ⟨x, ((⟨4, ⟨#[]⟩, [], [], M'⟩ : Vl)).text, ((⟨4, ⟨#[]⟩, [], [], M'⟩ : Vl)).items, ((⟨4, ⟨#[]⟩, [], [], M'⟩ : Vl)).pairs, ((⟨4, ⟨#[]⟩, [], [], M'⟩ : Vl)).ranks⟩ nilS nilS (.slice (some ⟨A', 0, none⟩) m' cc) (w9.setCell ⟨G, 0, none⟩ (.int .i64 x)) := D9.store 0 (.int .i64 x) rfl ⟨D9.own.items, D9.own.pairs, D9.own.ranks⟩
      obtain ⟨y0, y1, y2, y3, y4⟩ := row5 D10.row
      have f0 := D10.res.frozen 0
      have f1 := D10.res.frozen 1
      have f2 := D10.res.frozen 2
      have f3 := D10.res.frozen 3
      have f4 := D10.res.frozen 4
      have c0 := D10.res.cell 0
      have c1 := D10.res.cell 1
      have c2 := D10.res.cell 2
      have c3 := D10.res.cell 3
      have c4 := D10.res.cell 4
      simp at c0 c1 c2 c3 c4
      have HD10 : Hid (Dv w rb a n c G ⟨x, ((⟨4, ⟨#[]⟩, [], [], M'⟩ : Vl)).text, ((⟨4, ⟨#[]⟩, [], [], M'⟩ : Vl)).items, ((⟨4, ⟨#[]⟩, [], [], M'⟩ : Vl)).pairs, ((⟨4, ⟨#[]⟩, [], [], M'⟩ : Vl)).ranks⟩ nilS nilS (.slice (some ⟨A', 0, none⟩) m' cc) (w9.setCell ⟨G, 0, none⟩ (.int .i64 x))) := D10
      clear D9 D10 HD8 g9 r9 r8
      go_wp2_with fail
      generalize w9.setCell ⟨G, 0, none⟩ (.int .i64 x) = w10 at *
      go_wp2
      exact bodyPost_ret (v := vlV x ⟨#[]⟩ nilS nilS (.slice (some ⟨A', 0, none⟩) m' cc)) (by simp [results, Tryz.results15, go_sem, c0, c1, c2, c3, c4]) rfl (HD10.out.done ⟨((⟨Nat.zero_le _, by simp, by simp, by show M'.length ≤ 7; rw [HM'.out]; omega, HF4.out, by simp⟩ : Small _)).text, ((⟨Nat.zero_le _, by simp, by simp, by show M'.length ≤ 7; rw [HM'.out]; omega, HF4.out, by simp⟩ : Small _)).ni, ((⟨Nat.zero_le _, by simp, by simp, by show M'.length ≤ 7; rw [HM'.out]; omega, HF4.out, by simp⟩ : Small _)).np, ((⟨Nat.zero_le _, by simp, by simp, by show M'.length ≤ 7; rw [HM'.out]; omega, HF4.out, by simp⟩ : Small _)).nr, ((⟨Nat.zero_le _, by simp, by simp, by show M'.length ≤ 7; rw [HM'.out]; omega, HF4.out, by simp⟩ : Small _)).fit, ((⟨Nat.zero_le _, by simp, by simp, by show M'.length ≤ 7; rw [HM'.out]; omega, HF4.out, by simp⟩ : Small _)).items⟩ _ _ _ _ _)
end Go.Proofs.YticajcagcdbgpaaGreatDoor
