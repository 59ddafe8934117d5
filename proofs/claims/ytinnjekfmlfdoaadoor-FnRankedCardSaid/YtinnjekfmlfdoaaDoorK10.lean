/- spec.Ranked. -/
import Derived.Test.YtinnjekfmlfdoaaDoorK9
namespace Go.Proofs.YtinnjekfmlfdoaaDoor
open Go.RowKit Go.Sort

theorem ownR_in {w : World} {B A cap : Nat} {L : List Rk} (h : OwnR w B (.slice (some ⟨A, 0, none⟩) L.length cap) L) : RanksIn w (some ⟨A, 0, none⟩) A 0 L.length L :=
  ⟨rfl, fun _ => rfl, fun _ => (h.lt A rfl).2, fun i hi => by rw [Nat.zero_add]; exact ownR_at h i hi⟩

theorem ins_len (M : List Rk) (x : Rk) : (insR M x).length = M.length + 1 := by
  unfold insR
  have := pos_le M x
  rw [List.length_append, List.length_append, List.length_take, List.length_drop, List.length_singleton]
  omega

def rankedB (L : List Rk) (m : ByteArray) (s : Int) : Bool := ranksB L && ranksB (insR (without L m) ⟨m, s⟩)

/-- How Ranked ends: the ranks told, or none of them and false. -/
def RankedEnd (w : World) (I : List Rk) (ok : Bool) (e : Ending) (w' : World) : Prop :=
  (∃ v, e = .returned (.tuple #[v, .bool ok]) ∧ OwnR w' w.heap.size v (if ok = true then I else [])) ∧ Below w.heap.size w w'

theorem ownR_nil (w : World) (B : Nat) : OwnR w B (.slice none 0 0) [] := ⟨rfl, .inl ⟨rfl, rfl⟩⟩

set_option maxHeartbeats 2000000 in
set_option maxRecDepth 100000 in
theorem specRanked (a : Option Addr) (b off n c : Nat) (L : List Rk) (m : ByteArray) (s : Int) (w : World) (h : RanksIn w a b off n L) (hn : n ≤ 1048576) :
    Calls Tryd.prog 8 #[.slice a n c, .string m, .int .i64 s] w (RankedEnd w (insR (without L m) ⟨m, s⟩) (rankedB L m s)) := by
  have HLR := lranked_any a b off n c L m s w h (by omega)
  have H : Hid (RanksIn w a b off n L) := h
  have hil : (insR (without L m) ⟨m, s⟩).length ≤ 1048577 := by
    have := without_len L m
    rw [h.len] at this
    rw [ins_len]
    omega
  have HE : Hid (rankedB L m s = (ranksB L && ranksB (insR (without L m) ⟨m, s⟩))) := rfl
  generalize insR (without L m) ⟨m, s⟩ = I at *
  generalize rankedB L m s = ok at *
  clear h
  go_enter Tryd.func8, Tryd.ntmps8
  go_wp2_with fail
  refine HLR.mono ?_
  rintro e w2 ⟨A, cc, rfl, o2, b2⟩
  have s2 := b2.size
  have HR1 := ranks_any a b off n c L w2 (H.out.below b2) (by omega)
  have HO2 : Hid (OwnR w2 w.heap.size (.slice (some ⟨A, 0, none⟩) I.length cc) I) := o2
  clear HLR o2
  go_wp2_with fail
  refine HR1.mono ?_
  rintro e w3 ⟨rfl, b3⟩
  have s3 := b3.size
  have bb3 := b2.trans (b3.mono s2)
  have HO3 : Hid (OwnR w3 w.heap.size (.slice (some ⟨A, 0, none⟩) I.length cc) I) := HO2.out.below b3
  clear HR1 HO2 b3
  cases hr1 : ranksB L with
  | false =>
    have HK : Hid (ok = false) := by unfold Hid; rw [HE.out, hr1]; rfl
    clear HE hr1
    go_wp2
    go_ret2
    exact ⟨⟨_, by rw [HK.out]; rfl, by rw [HK.out]; exact ownR_nil _ _⟩, bb3⟩
  | true =>
    have HR2 := ranks_any (some ⟨A, 0, none⟩) A 0 I.length cc I w3 (ownR_in HO3.out) hil
    have HK : Hid (ok = ranksB I) := by unfold Hid; rw [HE.out, hr1]; rfl
    clear HE hr1
    go_wp2_with fail
    refine HR2.mono ?_
    rintro e w4 ⟨rfl, b4⟩
    have bb4 := bb3.trans (b4.mono (by omega))
    have HO4 : Hid (OwnR w4 w.heap.size (.slice (some ⟨A, 0, none⟩) I.length cc) I) := HO3.out.below b4
    clear HR2 b4 HO3
    cases hr2 : ranksB I with
    | false =>
      have HK2 : Hid (ok = false) := HK.out.trans hr2
      clear HK hr2
      go_wp2
      go_ret2
      exact ⟨⟨_, by rw [HK2.out]; rfl, by rw [HK2.out]; exact ownR_nil _ _⟩, bb4⟩
    | true =>
      have HK2 : Hid (ok = true) := HK.out.trans hr2
      clear HK hr2
      go_wp2
      go_ret2
      exact ⟨⟨_, by rw [HK2.out]; rfl, by rw [HK2.out]; exact HO4.out⟩, bb4⟩
end Go.Proofs.YtinnjekfmlfdoaaDoor
