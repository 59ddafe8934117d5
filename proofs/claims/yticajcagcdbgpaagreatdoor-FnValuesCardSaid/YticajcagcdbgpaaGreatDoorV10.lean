/- impl.ReadValue at every text. -/
import Derived.Test.YticajcagcdbgpaaGreatDoorV9
namespace Go.Proofs.YticajcagcdbgpaaGreatDoor
open Go.RowKit Go.Sort
open Kk (Rk rk0 texL texR decS scoreB rightB ranksB OwnR flatR encR)

theorem one_of {s : ByteArray} {b : UInt8} {l : List UInt8} (h : s.data.toList = b :: l) : 0 < s.size ∧ (∀ hx, s[0]'hx = b) ∧ s.extract 1 s.size = ⟨l.toArray⟩ ∧ l.length + 1 = s.size := by
  have hl : s.data.toList.length = s.size := (Lib.size_eq s).symm
  rw [h, List.length_cons] at hl
  refine ⟨by omega, ?_, str_of _ _ (by rw [Lib.extract_to_end, h]; rfl), hl⟩
  obtain ⟨⟨d⟩⟩ := s
  have h' : d = b :: l := h
  subst h'
  intro _
  rfl

theorem texts_count {l : List UInt8} {ts : List ByteArray} {r : List UInt8} (h : textsM l = some (ts, r)) : 2 * ts.length ≤ l.length := by
  obtain ⟨h1, _, _⟩ := textsM_enc l.length l ts r (Nat.le_refl _) h
  have aux : ∀ us : List ByteArray, 2 * us.length ≤ (encT us).length := by
    intro us
    induction us with
    | nil => simp [encT]
    | cons u us ih =>
      rw [encT_cons, List.length_append, List.length_cons]
      have : 2 ≤ (oneT u).length := by simp [oneT, twoT]
      omega
  have := aux ts
  have e := congrArg List.length h1
  rw [List.length_append] at e
  omega

theorem pairUp_len : ∀ us : List ByteArray, 2 * (pairUp us).length ≤ us.length
  | [] => by simp [pairUp]
  | [_] => by simp [pairUp]
  | _ :: _ :: l => by have := pairUp_len l; simp [pairUp]; omega
theorem rankUp_len : ∀ us : List ByteArray, (rankUp us).length ≤ us.length
  | [] => by simp [rankUp]
  | [_] => by simp [rankUp]
  | _ :: _ :: l => by have := rankUp_len l; simp [rankUp]; omega

theorem dec_fit {l : List UInt8} {n : Int} (h : decM l = some n) : inNum n = true := by
  unfold decM at h
  split at h
  · split at h
    · rename_i h2
      injection h with h
      rw [← h]; exact h2.1
    · cases h
  · cases h

theorem rank_fit : ∀ (ts : List ByteArray) (rs : List Rk), rankDec ts = some rs → Kk.FitL rs
  | [], rs, h => by simp [rankDec] at h; subst h; intro x hx; cases hx
  | [a], rs, h => by simp [rankDec] at h
  | a :: b :: l, rs, h => by
    simp only [rankDec] at h
    split at h
    · cases h
    · rename_i n hn
      cases hr : rankDec l with
      | none => rw [hr] at h; cases h
      | some qs =>
        rw [hr] at h
        simp only [Option.map_some] at h
        injection h with h
        subst h
        intro x hx
        rcases List.mem_cons.1 hx with rfl | hx
        · have := dec_fit hn
          unfold inNum at this
          simp at this
          exact ⟨by show -9223372036854775808 ≤ n; omega, by show n ≤ 9223372036854775807; omega⟩
        · exact rank_fit l qs hr x hx

theorem readV_any (s : ByteArray) (w : World) (hs : s.size ≤ 1048576) (hr : Ready w) : Calls Tryz.prog 7 #[.string s] w (ValEnd w (readI s.data.toList)) := by
  have h6 := hr.six
  cases hl : s.data.toList with
  | nil =>
    have h0 : s.size = 0 := by rw [Lib.size_eq, hl]; rfl
    exact readV_empty s w h0
  | cons b l =>
    obtain ⟨hpos, hb, hx, hlen⟩ := one_of hl
    show Calls Tryz.prog 7 #[.string s] w (ValEnd w (readI1 b (textsM l)))
    have hT := fun W => textsIn_any ⟨l.toArray⟩ W (by rw [size_mk]; omega)
    have el : (⟨l.toArray⟩ : ByteArray).data.toList = l := rfl
    rw [el] at hT
    cases hm : textsM l with
    | none =>
      rw [hm] at hT
      exact readV_bad s _ w hpos hs hx hT
    | some q =>
      obtain ⟨ts, r⟩ := q
      have hcnt := texts_count hm
      obtain ⟨_, _, hz⟩ := textsM_enc l.length l ts r (Nat.le_refl _) hm
      have hz2 : ∀ t ∈ ts, t.size ≤ 1048576 := fun t ht => by have := hz t ht; omega
      rw [hm] at hT
      cases r with
      | cons x r => exact readV_bad s _ w hpos hs hx hT
      | nil =>
        have hok : TextsOk ⟨l.toArray⟩ ts := hT
        have hn : ts.length ≤ 524288 := by omega
        show Calls Tryz.prog 7 #[.string s] w (ValEnd w (readC b ts))
        have rdy : ∀ W, Below w.heap.size w W → Ready W := fun W hb => hr.below (hb.mono h6)
        unfold readC
        by_cases b1 : b = 49
        · rw [if_pos b1]
          have e : b.toNat = 49 := by rw [b1]; rfl
          match ts, hok, hn, hz2 with
          | [t], hok, hn, hz2 =>
            refine readV_text s _ b [t] w hpos hb hx hok (fun u W => u = .string t) ⟨1, t, [], [], []⟩ (shortB t) ?_ ?_ ?_
            · intro v W ho _ _
              rw [e]
              exact (content_text ho).mono fun e w' ⟨he, hw⟩ => ⟨_, he, rfl, by rw [hw]; exact Below.refl _ _⟩
            · intro u W hu _
              subst hu
              exact (bare_right t W).mono fun e w' ⟨he, hw⟩ => ⟨he, rfl, hw⟩
            · intro u W hu
              subst hu
              exact (valueOf_text t W).mono fun e w' ⟨he, hw⟩ => ⟨_, _, _, he, ownS_nil _ _, ownP_nil _ _, Kk.ownR_nil _ _, hw⟩
          | [], hok, hn, hz2 =>
            refine readV_no s _ b [] w hpos hb hx hok fun v W ho _ _ => ?_
            rw [e]
            exact (content_text_no ho (by simp)).mono fun e w' ⟨he, hw⟩ => ⟨_, he, by rw [hw]; exact Below.refl _ _⟩
          | t :: u :: l, hok, hn, hz2 =>
            refine readV_no s _ b (t :: u :: l) w hpos hb hx hok fun v W ho _ _ => ?_
            rw [e]
            exact (content_text_no ho (by simp)).mono fun e w' ⟨he, hw⟩ => ⟨_, he, by rw [hw]; exact Below.refl _ _⟩
        rw [if_neg b1]
        by_cases b2 : b = 50
        · rw [if_pos b2]
          have e : b.toNat = 50 := by rw [b2]; rfl
          refine readV_items s _ b ts w hpos hb hx hok (fun u W => OwnS W (w.heap.size + 1) u ts) ⟨2, bz, ts, [], []⟩ (itemsB ts) ?_ ?_ ?_
          · intro v W ho _ _
            obtain ⟨a, c, rfl⟩ := owns_form ho
            rw [e]
            exact (content_items a _ c W).mono fun e w' ⟨he, hw⟩ => ⟨_, he, by rw [hw]; exact ho, by rw [hw]; exact Below.refl _ _⟩
          · intro u W ho _
            exact (items_right ho (by omega)).mono fun e w' ⟨he, hw⟩ => ⟨he, by rw [hw]; exact ho, by rw [hw]; exact Below.refl _ _⟩
          · intro u W ho
            obtain ⟨a, c, rfl⟩ := owns_form ho
            exact (valueOf_items a _ c W).mono fun e w' ⟨he, hw⟩ => ⟨_, _, _, he, owns_below ho hw, ownP_nil _ _, Kk.ownR_nil _ _, hw⟩
        rw [if_neg b2]
        by_cases b3 : b = 51
        · rw [if_pos b3]
          have e : b.toNat = 51 := by rw [b3]; rfl
          have hpl := pairUp_len ts
          by_cases hp : ts.length % 2 = 0
          · have hif : (if ts.length % 2 = 0 ∧ pairsB (pairUp ts) = true then ((⟨3, bz, [], pairUp ts, []⟩ : Vl), true) else (vl0, false)) = if pairsB (pairUp ts) = true then ((⟨3, bz, [], pairUp ts, []⟩ : Vl), true) else (vl0, false) := by
              by_cases hq : pairsB (pairUp ts) = true
              · rw [if_pos ⟨hp, hq⟩, if_pos hq]
              · rw [if_neg (fun h => hq h.2), if_neg hq]
            rw [hif]
            refine readV_pairs s _ b ts w hpos hb hx hok (fun u W => OwnP W (w.heap.size + 1) u (pairUp ts)) ⟨3, bz, [], pairUp ts, []⟩ (pairsB (pairUp ts)) ?_ ?_ ?_
            · intro v W ho hbW hlt
              rw [e]
              refine (content_pairs ho hz2 (by omega)).mono fun e w' ⟨v', he, ho', hb'⟩ => ⟨v', ?_, ?_, hb'⟩
              · rw [he, decide_eq_true hp]
              · exact own_up ho' (by omega)
            · intro u W ho _
              obtain ⟨a, A, c, rfl, hin⟩ := ownP_in ho
              exact (pairs_right a A _ c _ W hin (by omega)).mono fun e w' ⟨he, hw⟩ => ⟨he, owns_below ho hw, hw⟩
            · intro u W ho
              obtain ⟨a, c, rfl⟩ := owns_form ho
              exact (valueOf_pairs a _ c W).mono fun e w' ⟨he, hw⟩ => ⟨_, _, _, he, ownS_nil _ _, owns_below ho hw, Kk.ownR_nil _ _, hw⟩
          · rw [if_neg (fun h => hp h.1)]
            refine readV_no s _ b ts w hpos hb hx hok fun v W ho _ _ => ?_
            rw [e]
            refine (content_pairs ho hz2 (by omega)).mono fun e w' ⟨v', he, ho', hb'⟩ => ⟨.iface 73 v', ?_, hb'⟩
            rw [he, decide_eq_false hp]
        rw [if_neg b3]
        by_cases b4 : b = 52
        · rw [if_pos b4]
          have e : b.toNat = 52 := by rw [b4]; rfl
          cases hd : rankDec ts with
          | none =>
            refine readV_no s _ b ts w hpos hb hx hok fun v W ho hbW _ => ?_
            rw [e]
            have := content_ranks ho hz2 (by omega) (rdy W hbW)
            rw [hd] at this
            exact this.mono fun e w' ⟨v', he, _, hb'⟩ => ⟨v', he, hb'⟩
          | some rs =>
            obtain ⟨hrs, _⟩ := rank_dec ts rs hd
            have hfl := rank_fit ts rs hd
            have hrl : rs.length ≤ ts.length := by rw [hrs]; exact rankUp_len ts
            refine readV_ranks s _ b ts w hpos hb hx hok (fun u W => OwnR W (w.heap.size + 1) u rs) ⟨4, bz, [], [], rs⟩ (rightB rs) ?_ ?_ ?_
            · intro v W ho hbW hlt
              rw [e]
              have := content_ranks ho hz2 (by omega) (rdy W hbW)
              rw [hd] at this
              refine this.mono fun e w' ⟨v', he, hv', hb'⟩ => ?_
              obtain ⟨u, hu, hou⟩ := hv' rs rfl
              subst hu
              exact ⟨u, he, own_up hou (by omega), hb'⟩
            · intro u W ho hbW
              obtain ⟨a, A, c, hu, hin⟩ := Kk.ownR_any ho
              subst hu
              have hR := rdy W hbW
              have h6 := hR.six
              exact (Kk.right_any a A 0 _ c rs W hin (by omega) hfl hR.tab (by omega)).mono fun e w' ⟨he, hw⟩ => ⟨he, owns_below ho hw, hw⟩
            · intro u W ho
              obtain ⟨a, c, hu⟩ := owns_form ho
              subst hu
              exact (valueOf_ranks a _ c W).mono fun e w' ⟨he, hw⟩ => ⟨_, _, _, he, ownS_nil _ _, ownP_nil _ _, owns_below ho hw, hw⟩
        · rw [if_neg b4]
          refine readV_no s _ b ts w hpos hb hx hok fun v W ho _ _ => ?_
          have n1 : b.toNat ≠ 49 := fun h => b1 (by apply UInt8.toNat_inj.1; rw [h]; rfl)
          have n2 : b.toNat ≠ 50 := fun h => b2 (by apply UInt8.toNat_inj.1; rw [h]; rfl)
          have n3 : b.toNat ≠ 51 := fun h => b3 (by apply UInt8.toNat_inj.1; rw [h]; rfl)
          have n4 : b.toNat ≠ 52 := fun h => b4 (by apply UInt8.toNat_inj.1; rw [h]; rfl)
          exact (content_else b.toNat v W n1 n2 n3 n4).mono fun e w' ⟨he, hw⟩ => ⟨_, he, by rw [hw]; exact Below.refl _ _⟩
end Go.Proofs.YticajcagcdbgpaaGreatDoor
