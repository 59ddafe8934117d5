/- Plain mathematics of a value's bytes: texts, each behind its length; what is read of them, by the specification's way and by the program's. impl.textsIn: the texts that stand in the bytes, each behind its length. impl.pairsFrom: pairs out of texts. -/
import Derived.Test.YtapdoechmnjaeaaGreatDoorNm
import Derived.Test.YtapdoechmnjaeaaGreatDoorKb
import Derived.Lib.EndianBits
import Derived.Lib.IndexBytes
import Derived.Maps.AppendAt
import Derived.Lib.SmallJoins
import Derived.Deep.CutBlock
import Derived.Deep.RegionLaw
namespace Go.Proofs.YtapdoechmnjaeaaGreatDoor
open Go.Lib
open Kk (Rk rk0 texL texR decS scoreB rightB ranksB okAt scAt fitS decS_len)

def twoT (t : ByteArray) : List UInt8 := [UInt8.ofNat (t.size / 256), UInt8.ofNat t.size]
def oneT (t : ByteArray) : List UInt8 := twoT t ++ t.data.toList
def encT (ts : List ByteArray) : List UInt8 := ts.flatMap oneT

theorem encT_cons (t : ByteArray) (ts : List ByteArray) : encT (t :: ts) = oneT t ++ encT ts := rfl
theorem encT_app (ts us : List ByteArray) : encT (ts ++ us) = encT ts ++ encT us := List.flatMap_append

abbrev TxR := Option (List ByteArray × List UInt8)
def preT (t : List ByteArray) : TxR → TxR
  | none => none
  | some (ts, r) => some (t ++ ts, r)

/-- The texts that stand in the bytes, and what is left behind them (fewer than two bytes); none where one of them is cut. -/
def textsF : Nat → List UInt8 → TxR
  | 0, l => some ([], l)
  | n + 1, l => match l with
    | [] => some ([], [])
    | [a] => some ([], [a])
    | a :: b :: l => if l.length < 256 * a.toNat + b.toNat then none else preT [⟨(l.take (256 * a.toNat + b.toNat)).toArray⟩] (textsF n (l.drop (256 * a.toNat + b.toNat)))
theorem textsF_more : ∀ (n m : Nat) (l : List UInt8), l.length < n → l.length < m → textsF n l = textsF m l
  | 0, _, _, h, _ => by omega
  | _, 0, _, _, h => by omega
  | n + 1, m + 1, [], _, _ => rfl
  | n + 1, m + 1, [a], _, _ => rfl
  | n + 1, m + 1, a :: b :: l, h, h2 => by
    simp only [List.length_cons] at h h2
    have := textsF_more n m (l.drop (256 * a.toNat + b.toNat)) (by rw [List.length_drop]; omega) (by rw [List.length_drop]; omega)
    simp only [textsF]
    rw [this]
def textsM (l : List UInt8) : TxR := textsF (l.length + 1) l
theorem textsM_nil : textsM [] = some ([], []) := rfl
theorem textsM_one (a : UInt8) : textsM [a] = some ([], [a]) := rfl

theorem preT_preT (s t : List ByteArray) (r : TxR) : preT s (preT t r) = preT (s ++ t) r := by
  cases r with
  | none => rfl
  | some q => obtain ⟨a, b⟩ := q; simp [preT]
theorem preT_nil (r : TxR) : preT [] r = r := by
  cases r with
  | none => rfl
  | some q => obtain ⟨a, b⟩ := q; simp [preT]

theorem textsM_two (a b : UInt8) (l : List UInt8) : textsM (a :: b :: l) = if l.length < 256 * a.toNat + b.toNat then none else preT [⟨(l.take (256 * a.toNat + b.toNat)).toArray⟩] (textsM (l.drop (256 * a.toNat + b.toNat))) := by
  show (if l.length < 256 * a.toNat + b.toNat then none else preT [⟨(l.take (256 * a.toNat + b.toNat)).toArray⟩] (textsF (l.length + 1 + 1) (l.drop (256 * a.toNat + b.toNat)))) = _
  rw [textsF_more (l.length + 1 + 1) ((l.drop (256 * a.toNat + b.toNat)).length + 1) _ (by rw [List.length_drop]; omega) (by omega)]
  rfl

theorem textsM_enc : ∀ (n : Nat) (l : List UInt8) (ts : List ByteArray) (r : List UInt8), l.length ≤ n → textsM l = some (ts, r) → l = encT ts ++ r ∧ r.length ≤ 1 ∧ ∀ t ∈ ts, t.size ≤ 65535 := by
  intro n
  induction n with
  | zero =>
    intro l ts r hn h
    have : l = [] := List.eq_nil_of_length_eq_zero (by omega)
    subst this
    rw [textsM_nil] at h
    injection h with h
    injection h with h1 h2
    subst h1 h2
    exact ⟨rfl, by simp, fun t ht => by cases ht⟩
  | succ n ih =>
    intro l ts r hn h
    match l, hn, h with
    | [], _, h =>
      rw [textsM_nil] at h
      injection h with h
      injection h with h1 h2
      subst h1 h2
      exact ⟨rfl, by simp, fun t ht => by cases ht⟩
    | [a], _, h =>
      rw [textsM_one] at h
      injection h with h
      injection h with h1 h2
      subst h1 h2
      exact ⟨rfl, by simp, fun t ht => by cases ht⟩
    | a :: b :: l, hn, h =>
      rw [textsM_two] at h
      split at h
      · cases h
      · rename_i hlen
        have ha := a.toNat_lt
        have hb := b.toNat_lt
        generalize hk : 256 * a.toNat + b.toNat = k at *
        cases hm : textsM (l.drop k) with
        | none => rw [hm] at h; cases h
        | some q =>
          obtain ⟨us, r'⟩ := q
          rw [hm] at h
          simp only [preT] at h
          injection h with h
          injection h with h1 h2
          subst h1 h2
          rw [List.length_cons, List.length_cons] at hn
          obtain ⟨i1, i2, i3⟩ := ih (l.drop k) us r' (by rw [List.length_drop]; omega) hm
          have hs : (⟨(l.take k).toArray⟩ : ByteArray).size = k := by
            show (l.take k).toArray.size = k
            simp
            omega
          refine ⟨?_, i2, ?_⟩
          · rw [List.singleton_append, encT_cons, List.append_assoc, ← i1]
            unfold oneT twoT
            rw [hs]
            have e1 : UInt8.ofNat (k / 256) = a := by
              rw [← hk, show (256 * a.toNat + b.toNat) / 256 = a.toNat from by omega]
              exact UInt8.ofNat_toNat
            have e2 : UInt8.ofNat k = b := by
              apply UInt8.toNat_inj.1
              rw [UInt8.toNat_ofNat', ← hk]
              omega
            rw [e1, e2]
            simp
          · intro t ht
            rcases List.mem_append.1 ht with ht | ht
            · simp at ht; subst ht; rw [hs]; omega
            · exact i3 t ht

theorem oneT_read (t : ByteArray) (h : t.size ≤ 65535) (l : List UInt8) : textsM (oneT t ++ l) = preT [t] (textsM l) := by
  unfold oneT twoT
  rw [List.append_assoc]
  show textsM (UInt8.ofNat (t.size / 256) :: UInt8.ofNat t.size :: (t.data.toList ++ l)) = _
  have hsz : t.data.toList.length = t.size := (Lib.size_eq t).symm
  have e : 256 * (UInt8.ofNat (t.size / 256)).toNat + (UInt8.ofNat t.size).toNat = t.size := by
    rw [UInt8.toNat_ofNat', UInt8.toNat_ofNat']
    omega
  rw [textsM_two, e, if_neg (by rw [List.length_append]; omega), ← hsz, List.take_left, List.drop_left]

theorem enc_read : ∀ (ts : List ByteArray) (r : List UInt8), (∀ t ∈ ts, t.size ≤ 65535) → r.length ≤ 1 → textsM (encT ts ++ r) = some (ts, r)
  | [], r, _, hr => by
    match r, hr with
    | [], _ => rw [List.append_nil]; show textsM [] = _; rw [textsM_nil]
    | [a], _ => show textsM [a] = _; rw [textsM_one]
  | t :: ts, r, h, hr => by
    rw [encT_cons, List.append_assoc, oneT_read t (h t (by simp)), enc_read ts r (fun x hx => h x (by simp [hx])) hr]
    rfl

/-- Two lists of texts with the same bytes are the same. -/
theorem enc_inj {xs ts : List ByteArray} {r : List UInt8} (hx : ∀ t ∈ xs, t.size ≤ 65535) (ht : ∀ t ∈ ts, t.size ≤ 65535) (hr : r.length ≤ 1) : encT xs = encT ts ++ r ↔ xs = ts ∧ r = [] := by
  refine ⟨fun h => ?_, fun ⟨h1, h2⟩ => by rw [h1, h2, List.append_nil]⟩
  have h1 := enc_read xs [] hx (by simp)
  have h2 := enc_read ts r ht hr
  rw [List.append_nil, h] at h1
  rw [h1] at h2
  injection h2 with h2
  injection h2 with h2 h3
  exact ⟨h2, h3.symm⟩

structure Vl where
  kind : Int
  text : ByteArray
  items : List ByteArray
  pairs : List (ByteArray × ByteArray)
  ranks : List Rk

def bz : ByteArray := ⟨#[]⟩
def vl0 : Vl := ⟨0, bz, [], [], []⟩

def pairUp : List ByteArray → List (ByteArray × ByteArray)
  | a :: b :: l => (a, b) :: pairUp l
  | _ => []
def flatP (ps : List (ByteArray × ByteArray)) : List ByteArray := ps.flatMap fun p => [p.1, p.2]

def rankUp : List ByteArray → List Rk
  | a :: b :: l => ⟨a, (intI b.data.toList).1⟩ :: rankUp l
  | _ => []

/-- The program's reading of ranks: none where a score is no number. -/
def rankDec : List ByteArray → Option (List Rk)
  | a :: b :: l => match decM b.data.toList with
    | none => none
    | some n => (rankDec l).map fun rs => ⟨a, n⟩ :: rs
  | [] => some []
  | [_] => none

def shortB (t : ByteArray) : Bool := decide (t.size ≤ 200)
def countB (n : Nat) : Bool := decide (1 ≤ n) && decide (n ≤ 20)
def risePB (ps : List (ByteArray × ByteArray)) : Bool := (List.range ps.length).all fun i => decide (i = 0) || Op.bytesLess (ps.getD (i - 1) (bz, bz)).1.toList (ps.getD i (bz, bz)).1.toList
def itemsB (ts : List ByteArray) : Bool := countB ts.length && ts.all shortB
def pairsB (ps : List (ByteArray × ByteArray)) : Bool := countB ps.length && ((flatP ps).all shortB && risePB ps)

/-- What the specification makes of the texts, before it looks. -/
def specV (b : UInt8) (ts : List ByteArray) : Vl :=
  if b = 49 then ⟨1, ts.headD bz, [], [], []⟩
  else if b = 50 then ⟨2, bz, ts, [], []⟩
  else if b = 51 then ⟨3, bz, [], pairUp ts, []⟩
  else if b = 52 then ⟨4, bz, [], [], rankUp ts⟩
  else ⟨(b.toNat : Int) - 48, bz, [], [], []⟩

/-- Whether what it made is right, and its texts. -/
def specOkB (b : UInt8) (ts : List ByteArray) : Bool :=
  if b = 49 then shortB (ts.headD bz)
  else if b = 50 then itemsB ts
  else if b = 51 then pairsB (pairUp ts)
  else if b = 52 then rightB (rankUp ts)
  else false
def specTx (b : UInt8) (ts : List ByteArray) : List ByteArray :=
  if b = 49 then [ts.headD bz]
  else if b = 50 then ts
  else if b = 51 then flatP (pairUp ts)
  else texL (rankUp ts)

def readS1 (b : UInt8) : TxR → Vl × Bool
  | none => (vl0, false)
  | some (ts, r) => if specOkB b ts = true ∧ encT (specTx b ts) = encT ts ++ r then (specV b ts, true) else (vl0, false)

def readS : List UInt8 → Vl × Bool
  | [] => (vl0, false)
  | b :: l => readS1 b (textsM l)

/-- What the program makes of whole texts. -/
def readC (b : UInt8) (ts : List ByteArray) : Vl × Bool :=
  if b = 49 then (match ts with
    | [t] => if shortB t then (⟨1, t, [], [], []⟩, true) else (vl0, false)
    | _ => (vl0, false))
  else if b = 50 then (if itemsB ts then (⟨2, bz, ts, [], []⟩, true) else (vl0, false))
  else if b = 51 then (if ts.length % 2 = 0 ∧ pairsB (pairUp ts) = true then (⟨3, bz, [], pairUp ts, []⟩, true) else (vl0, false))
  else if b = 52 then (match rankDec ts with
    | none => (vl0, false)
    | some rs => if rightB rs then (⟨4, bz, [], [], rs⟩, true) else (vl0, false))
  else (vl0, false)

def readI1 (b : UInt8) : TxR → Vl × Bool
  | some (ts, []) => readC b ts
  | _ => (vl0, false)

def readI : List UInt8 → Vl × Bool
  | [] => (vl0, false)
  | b :: l => readI1 b (textsM l)

theorem flat_up : ∀ (ts : List ByteArray), flatP (pairUp ts) = ts ↔ ts.length % 2 = 0
  | [] => by simp [pairUp, flatP]
  | [a] => by simp [pairUp, flatP]
  | a :: b :: l => by
    have ih := flat_up l
    have e : flatP (pairUp (a :: b :: l)) = a :: b :: flatP (pairUp l) := rfl
    rw [e, List.length_cons, List.length_cons, show (l.length + 1 + 1) % 2 = l.length % 2 from by omega, ← ih]
    constructor
    · intro h; injection h with _ h; injection h with _ h
    · intro h; rw [h]

theorem dec_back {b : ByteArray} {n : Int} (h : decM b.data.toList = some n) : n = (intI b.data.toList).1 ∧ decS n = b := by
  rw [decM_intI] at h
  split at h
  · rename_i h2
    injection h with h
    obtain ⟨_, h3⟩ := intI_to _ h2
    refine ⟨h.symm, ?_⟩
    rw [← h]
    unfold decS
    rw [h3]
  · cases h

theorem rank_dec : ∀ (ts : List ByteArray) (rs : List Rk), rankDec ts = some rs → rs = rankUp ts ∧ texL (rankUp ts) = ts
  | [], rs, h => by simp [rankDec] at h; subst h; exact ⟨rfl, rfl⟩
  | [a], rs, h => by simp [rankDec] at h
  | a :: b :: l, rs, h => by
    simp only [rankDec] at h
    split at h
    · cases h
    · rename_i n hn
      obtain ⟨h1, h2⟩ := dec_back hn
      cases hr : rankDec l with
      | none => rw [hr] at h; cases h
      | some qs =>
        rw [hr] at h
        simp only [Option.map_some] at h
        injection h with h
        obtain ⟨i1, i2⟩ := rank_dec l qs hr
        refine ⟨by rw [← h, i1, h1]; rfl, ?_⟩
        show [a, decS (intI b.data.toList).1] ++ texL (rankUp l) = _
        rw [i2, ← h1, h2]
        rfl

theorem dec_rank : ∀ (ts : List ByteArray), (∀ x ∈ rankUp ts, scoreB x = true) → texL (rankUp ts) = ts → rankDec ts = some (rankUp ts)
  | [], _, _ => rfl
  | [a], _, h => by simp [rankUp, texL] at h
  | a :: b :: l, hs, h => by
    have e : [a, decS (intI b.data.toList).1] ++ texL (rankUp l) = a :: b :: l := h
    injection e with _ e
    injection e with e1 e2
    have hb : b.data.toList = Lib.itoa (intI b.data.toList).1 := by
      conv => lhs; rw [← e1]
      rfl
    have hn := hs ⟨a, (intI b.data.toList).1⟩ (by simp [rankUp])
    have hin : inNum (intI b.data.toList).1 = true := by
      unfold scoreB at hn
      unfold inNum
      simp at hn ⊢
      exact hn
    have hd := decM_itoa _ hin
    rw [← hb] at hd
    have ih := dec_rank l (fun x hx => hs x (by simp [rankUp, hx])) e2
    simp only [rankDec, hd, ih]
    rfl

theorem right_scores {L : List Rk} (h : rightB L = true) : ∀ x ∈ L, scoreB x = true := by
  intro x hx
  unfold rightB ranksB at h
  simp only [Bool.and_eq_true, List.all_eq_true, List.mem_range] at h
  obtain ⟨i, hi, rfl⟩ := List.getElem_of_mem hx
  have := h.2.2 i hi
  unfold okAt at this
  simp only [Bool.and_eq_true] at this
  have h2 := this.2.1
  unfold scAt at h2
  rwa [List.getD_eq_getElem?_getD, List.getElem?_eq_getElem hi] at h2

theorem up_mem : ∀ (ts : List ByteArray), ∀ t ∈ flatP (pairUp ts), t ∈ ts
  | [], t, h => by simp [pairUp, flatP] at h
  | [a], t, h => by simp [pairUp, flatP] at h
  | a :: b :: l, t, h => by
    have e : flatP (pairUp (a :: b :: l)) = a :: b :: flatP (pairUp l) := rfl
    rw [e] at h
    rcases List.mem_cons.1 h with rfl | h
    · simp
    · rcases List.mem_cons.1 h with rfl | h
      · simp
      · have := up_mem l t h
        simp [this]

theorem rank_mem : ∀ (ts : List ByteArray), (∀ x ∈ rankUp ts, scoreB x = true) → (∀ t ∈ ts, t.size ≤ 65535) → ∀ t ∈ texL (rankUp ts), t.size ≤ 65535
  | [], _, _, t, h => by simp [rankUp, texL] at h
  | [a], _, _, t, h => by simp [rankUp, texL] at h
  | a :: b :: l, hs, hz, t, h => by
    have e : texL (rankUp (a :: b :: l)) = a :: decS (intI b.data.toList).1 :: texL (rankUp l) := rfl
    rw [e] at h
    rcases List.mem_cons.1 h with rfl | h
    · exact hz t (by simp)
    · rcases List.mem_cons.1 h with rfl | h
      · have hn := hs ⟨a, (intI b.data.toList).1⟩ (by simp [rankUp])
        unfold scoreB at hn
        simp at hn
        have := decS_len (s := (intI b.data.toList).1) ⟨by omega, by omega⟩
        omega
      · exact rank_mem l (fun x hx => hs x (by simp [rankUp, hx])) (fun x hx => hz x (by simp [hx])) t h

theorem spec_small {b : UInt8} {ts : List ByteArray} (hok : specOkB b ts = true) (hz : ∀ t ∈ ts, t.size ≤ 65535) : ∀ t ∈ specTx b ts, t.size ≤ 65535 := by
  unfold specOkB at hok
  unfold specTx
  split
  · rename_i h
    rw [if_pos h] at hok
    intro t ht
    rw [List.mem_singleton] at ht
    rw [ht]
    have : (ts.headD bz).size ≤ 200 := of_decide_eq_true hok
    exact Nat.le_trans this (by decide)
  · rename_i h1
    rw [if_neg h1] at hok
    split
    · exact hz
    · rename_i h2
      rw [if_neg h2] at hok
      split
      · exact fun t ht => hz t (up_mem ts t ht)
      · rename_i h3
        rw [if_neg h3] at hok
        split at hok
        · exact rank_mem ts (right_scores hok) hz
        · cases hok

theorem readC_same (b : UInt8) (ts : List ByteArray) (hz : ∀ t ∈ ts, t.size ≤ 65535) : (if specOkB b ts = true ∧ encT (specTx b ts) = encT ts ++ [] then (specV b ts, true) else (vl0, false)) = readC b ts := by
  unfold readC
  by_cases hok : specOkB b ts = true
  · have hiff := enc_inj (r := []) (spec_small hok hz) hz (by simp)
    have hc : (specOkB b ts = true ∧ encT (specTx b ts) = encT ts ++ []) ↔ specTx b ts = ts := ⟨fun h => (hiff.1 h.2).1, fun h => ⟨hok, hiff.2 ⟨h, rfl⟩⟩⟩
    have hcc : (if specOkB b ts = true ∧ encT (specTx b ts) = encT ts ++ [] then (specV b ts, true) else (vl0, false)) = if specTx b ts = ts then (specV b ts, true) else (vl0, false) := by
      by_cases h : specTx b ts = ts
      · rw [if_pos h, if_pos (hc.2 h)]
      · rw [if_neg h, if_neg (fun h' => h (hc.1 h'))]
    rw [hcc]
    unfold specOkB at hok
    unfold specTx specV
    by_cases b1 : b = 49
    · rw [if_pos b1] at hok
      simp only [if_pos b1]
      match ts, hok with
      | [], hok => rw [if_neg (by simp)]
      | [t], hok => rw [if_pos (show [[t].headD bz] = [t] from rfl)]; show _ = if shortB t = true then _ else _; rw [if_pos (show shortB t = true from hok)]; rfl
      | t :: u :: l, hok => rw [if_neg (by simp)]
    rw [if_neg b1] at hok
    simp only [if_neg b1]
    by_cases b2 : b = 50
    · rw [if_pos b2] at hok
      simp only [if_pos b2]
      rw [if_pos trivial, if_pos hok]
    rw [if_neg b2] at hok
    simp only [if_neg b2]
    by_cases b3 : b = 51
    · rw [if_pos b3] at hok
      simp only [if_pos b3]
      by_cases he : ts.length % 2 = 0
      · rw [if_pos ((flat_up ts).2 he), if_pos ⟨he, hok⟩]
      · rw [if_neg (fun h => he ((flat_up ts).1 h)), if_neg (fun h => he h.1)]
    rw [if_neg b3] at hok
    simp only [if_neg b3]
    by_cases b4 : b = 52
    · rw [if_pos b4] at hok
      simp only [if_pos b4]
      cases hd : rankDec ts with
      | none =>
        rw [if_neg (fun h => by have := dec_rank ts (right_scores hok) h; rw [hd] at this; cases this)]
      | some rs =>
        obtain ⟨h1, h2⟩ := rank_dec ts rs hd
        subst h1
        simp only
        rw [if_pos h2, if_pos hok]
    · rw [if_neg b4] at hok
      cases hok
  · rw [if_neg (fun h => hok h.1)]
    unfold specOkB at hok
    by_cases b1 : b = 49
    · rw [if_pos b1] at hok
      rw [if_pos b1]
      match ts, hok with
      | [], hok => rfl
      | [t], hok => show _ = if shortB t = true then _ else _; rw [if_neg (show ¬ shortB t = true from hok)]
      | t :: u :: l, hok => rfl
    rw [if_neg b1] at hok
    rw [if_neg b1]
    by_cases b2 : b = 50
    · rw [if_pos b2] at hok
      rw [if_pos b2, if_neg hok]
    rw [if_neg b2] at hok
    rw [if_neg b2]
    by_cases b3 : b = 51
    · rw [if_pos b3] at hok
      rw [if_pos b3, if_neg (fun h => hok h.2)]
    rw [if_neg b3] at hok
    rw [if_neg b3]
    by_cases b4 : b = 52
    · rw [if_pos b4] at hok
      rw [if_pos b4]
      cases hd : rankDec ts with
      | none => rfl
      | some rs =>
        obtain ⟨h1, h2⟩ := rank_dec ts rs hd
        subst h1
        simp only
        rw [if_neg hok]
    · rw [if_neg b4]

theorem read_same (l : List UInt8) : readS l = readI l := by
  cases l with
  | nil => rfl
  | cons b l =>
    show readS1 b (textsM l) = readI1 b (textsM l)
    cases hm : textsM l with
    | none => rfl
    | some q =>
      obtain ⟨ts, r⟩ := q
      obtain ⟨_, hr, hz⟩ := textsM_enc l.length l ts r (Nat.le_refl _) hm
      cases r with
      | nil => exact readC_same b ts hz
      | cons x r =>
        show (if _ then _ else _) = _
        rw [if_neg (fun h => by have := (enc_inj (spec_small h.1 hz) hz hr).1 h.2; cases this.2)]
        rfl
end Go.Proofs.YtapdoechmnjaeaaGreatDoor

namespace Go.Proofs.YtapdoechmnjaeaaGreatDoor
open Go.RowKit Go.Sort

def strV (ts : List ByteArray) : List Value := ts.map Value.string
abbrev OwnS (w : World) (B : Nat) (v : Value) (ts : List ByteArray) : Prop := w.ownsRow B 9 1 v ts.length (strV ts)

theorem ownS_nil (w : World) (B : Nat) : OwnS w B (.slice none 0 0) [] := World.ownsRow_nil _ _ _ _

theorem own_lt {w : World} {B : Nat} {e : TypeId} {size n : Nat} {v : Value} {xs : List Value} (h : w.ownsRow B e size v n xs) {g : Nat} (hg : v.ownBlock = some g) : B ≤ g ∧ g < w.heap.size := h.lt g hg

theorem owns_block {w w' : World} {B : Nat} {e : TypeId} {size n : Nat} {v : Value} {xs : List Value} (h : w.ownsRow B e size v n xs) (hb : ∀ g, v.ownBlock = some g → w'.heap[g]? = w.heap[g]?) : w'.ownsRow B e size v n xs := by
  rcases h with ⟨h1, h2 | ⟨g, cap, cur, rfl, q1, q2, q3⟩⟩
  · exact ⟨h1, .inl h2⟩
  · exact ⟨h1, .inr ⟨g, cap, cur, rfl, q1, (hb g rfl).trans q2, q3⟩⟩

theorem owns_below {w w' : World} {B : Nat} {e : TypeId} {size n : Nat} {v : Value} {xs : List Value} (h : w.ownsRow B e size v n xs) (hb : Below w.heap.size w w') : w'.ownsRow B e size v n xs :=
  owns_block h fun g hg => hb.block g (own_lt h hg).2

theorem owns_form {w : World} {B : Nat} {e : TypeId} {size n : Nat} {v : Value} {xs : List Value} (h : w.ownsRow B e size v n xs) : ∃ a c, v = .slice a n c := by
  rcases Joins.ownsRow_forms h with ⟨h1, h2⟩ | ⟨A, c, rfl⟩
  · exact ⟨none, 0, by rw [h2, h1]⟩
  · exact ⟨some ⟨A, 0, none⟩, c, rfl⟩

/-- Below B stays so under an append to a row that lies above B. -/
theorem below_own {B : Nat} {w w1 w2 : World} {e : TypeId} {size n : Nat} {v : Value} {xs : List Value} {o : Obj} (hb : Below B w w1) (hB : B ≤ w1.heap.size) (h : w1.ownsRow B e size v n xs) (hg : (w1.alloc o).grownBy w2 v.ownBlock) : Below B w w2 := by
  have hs : (w1.alloc o).heap.size = w1.heap.size + 1 := by simp
  have h2 := hg.size
  have h3 := hb.size
  exact ⟨hg.os.trans hb.os, hg.tape.trans hb.tape, hg.output.trans hb.output, by omega, fun k hk => (hg.block k (by omega) (fun e => by have := (own_lt h e.symm).1; omega)).trans ((Below.heap_alloc _ _ _ (by omega)).trans (hb.block k hk))⟩

theorem or256 (a b : Nat) (ha : a < 256) (hb : b < 256) : bits .or .i64 ((a : Int) * 256) (b : Int) = (a : Int) * 256 + (b : Int) :=
  bits_join .i64 16 (by decide) (fun n h0 h1 => by rw [IntKind.wrap_i64]; omega) 8 _ _ (by omega) (by omega) (by omega) (by omega) (by omega) (by omega)

def lenV : Value → Nat
  | .slice _ n _ => n
  | _ => 0

def sizeV : Value → Nat
  | .string s => s.size
  | _ => 0

def TextsEnd (w : World) : TxR → Ending → World → Prop
  | some (ts, []), e, w' => ∃ v, e = .returned (.tuple #[v, .bool true]) ∧ OwnS w' w.heap.size v ts ∧ Below w.heap.size w w'
  | _, e, w' => e = .returned (.tuple #[.slice none 0 0, .bool false]) ∧ Below w.heap.size w w'

theorem empty_no {s : ByteArray} (h : 0 < s.size) : s.toList.isEmpty = false := by
  rw [ByteArray.toList_eq]
  rw [Lib.size_eq] at h
  cases hd : s.data.toList with
  | nil => rw [hd] at h; cases h
  | cons b r => rfl

theorem empty_yes {s : ByteArray} (h : s.size = 0) : s.toList.isEmpty = true := by
  rw [ByteArray.toList_eq]
  rw [Lib.size_eq] at h
  cases hd : s.data.toList with
  | nil => rfl
  | cons b r => rw [hd] at h; cases h

theorem strV_app (ts us : List ByteArray) : strV (ts ++ us) = strV ts ++ strV us := List.map_append

theorem two_of {s : ByteArray} (h : 2 ≤ s.size) : ∃ a b l, s.data.toList = a :: b :: l ∧ l.length = s.size - 2 ∧ (∀ hx, s[0]'hx = a) ∧ (∀ hx, s[1]'hx = b) := by
  have hl : s.data.toList.length = s.size := (Lib.size_eq s).symm
  obtain ⟨⟨d⟩⟩ := s
  match d, hl with
  | [], hl => simp at hl; have : (0 : Nat) = ByteArray.size ⟨⟨[]⟩⟩ := hl; omega
  | [a], hl => have h1 : ByteArray.size ⟨⟨[a]⟩⟩ = 1 := rfl; omega
  | a :: b :: l, hl => exact ⟨a, b, l, rfl, by rw [← hl]; simp, fun _ => rfl, fun _ => rfl⟩

set_option maxHeartbeats 2000000 in
set_option maxRecDepth 100000 in
theorem textsIn_any (s : ByteArray) (w : World) (hs : s.size ≤ 1048576) :
    Calls Tryz.prog 104 #[.string s] w (TextsEnd w (textsM s.data.toList)) := by
  obtain ⟨i0, hi, hz0, hz1, hz2⟩ := info_parts info9
  obtain ⟨T, hT⟩ : ∃ T, textsM s.data.toList = T := ⟨_, rfl⟩
  have HT : Hid (T = preT [] (textsM s.data.toList)) := by unfold Hid; rw [preT_nil, hT]
  rw [hT]
  clear hT
  go_enter Tryz.func104, Tryz.ntmps104
  go_wp2
  go_loopw [0, 4] (fun r v wr => ∃ (rest : ByteArray) (acc : List ByteArray), r = .string rest ∧ rest.size ≤ s.size ∧ acc.length + rest.size ≤ s.size ∧ OwnS wr w.heap.size v acc ∧ Below w.heap.size w wr ∧ T = preT acc (textsM rest.data.toList)) (fun r _ _ => sizeV r)
  case atStart => exact ⟨s, [], rfl, Nat.le_refl _, by simp, ownS_nil _ _, Below.refl _ _, HT.out⟩
  case round =>
    obtain ⟨rest, acc, rfl, hr1, hr2, hown, bk, hpre⟩ := hrel
    have HP : Hid (T = preT acc (textsM rest.data.toList)) := hpre
    have sk := bk.size
    clear hpre HT
    by_cases h0 : rest.size = 0
    · have he := empty_yes h0
      have HE : Hid (TextsEnd w T (.returned (.tuple #[u4, .bool true])) wr) := by
        unfold Hid
        have : rest.data.toList = [] := List.eq_nil_of_length_eq_zero (by rw [← Lib.size_eq]; exact h0)
        rw [HP.out, this]
        rw [textsM_nil]
        show TextsEnd w (some (acc ++ [], [])) _ _
        rw [List.append_nil]
        exact ⟨u4, rfl, hown, bk⟩
      clear hown bk
      go_wp2
      go_ret2
      exact HE.out
    · have he := empty_no (s := rest) (by omega)
      by_cases h1 : rest.size = 1
      · have hlt : (rest.size : Int) < 2 := by omega
        have HE : Hid (TextsEnd w T (.returned (.tuple #[.slice none 0 0, .bool false])) wr) := by
          unfold Hid
          have hl : rest.data.toList.length = 1 := by rw [← Lib.size_eq]; exact h1
          obtain ⟨a, ha⟩ := List.length_eq_one_iff.1 hl
          rw [HP.out, ha, textsM_one]
          exact ⟨rfl, bk⟩
        clear hown bk
        go_wp2
        go_ret2
        exact HE.out
      · have hge : ¬ (rest.size : Int) < 2 := by omega
        obtain ⟨a, b, l, hl, hll, ha, hb⟩ := two_of (s := rest) (by omega)
        have ha256 : a.toNat < 256 := a.toNat_lt
        have hb256 : b.toNat < 256 := b.toNat_lt
        have hor := or256 a.toNat b.toNat ha256 hb256
        have z0 : 0 < rest.size := by omega
        have z1 : 1 < rest.size := by omega
        have z0i : (0 : Int) < (rest.size : Int) := by omega
        have z1i : (1 : Int) < (rest.size : Int) := by omega
        obtain ⟨n, hn⟩ : ∃ n, 256 * a.toNat + b.toNat = n := ⟨_, rfl⟩
        have hn2 : (a.toNat : Int) * 256 + (b.toNat : Int) = (n : Int) := by omega
        rw [hn2] at hor
        have hnb : n ≤ 65535 := by omega
        have HN : Hid (textsM rest.data.toList = if l.length < n then none else preT [⟨(l.take n).toArray⟩] (textsM (l.drop n))) := by
          unfold Hid
          rw [hl, textsM_two, hn]
        by_cases hlen : rest.size < n + 2
        · have hc : decide ((rest.size : Int) < 2 + (n : Int)) = true := by simp; omega
          have HE : Hid (∀ W, Below w.heap.size w W → TextsEnd w T (.returned (.tuple #[.slice none 0 0, .bool false])) W) := fun W bW => by
            rw [HP.out, HN.out, if_pos (by omega)]
            exact ⟨rfl, bW⟩
          clear hown HN HP hn hl
          go_wp2
          go_quiet ((fail))
          go_wp2
          go_ret2
          exact HE.out _ (below_drewN bk _)
        · have hc : decide ((rest.size : Int) < 2 + (n : Int)) = false := by simp; omega
          have hn2s : n + 2 ≤ rest.size := by omega
          have e2 : (2 : Int) + (n : Int) ≤ (rest.size : Int) := by omega
          have e20 : (0 : Int) ≤ 2 + (n : Int) := by omega
          have e21 : (2 : Int) ≤ 2 + (n : Int) := by omega
          have HX : Hid (rest.extract 2 (2 + n) = ⟨(l.take n).toArray⟩) := str_of _ _ (by rw [Lib.extract_data, hl]; simp)
          have HY : Hid ((rest.extract (2 + n) rest.size).data.toList = l.drop n) := by
            unfold Hid
            rw [Lib.extract_to_end, hl, Nat.add_comm 2 n]
            rfl
          have HN2 : Hid (T = preT (acc ++ [⟨(l.take n).toArray⟩]) (textsM (l.drop n))) := by
            unfold Hid
            rw [HP.out, HN.out, if_neg (by omega), preT_preT]
          have hts : (⟨(l.take n).toArray⟩ : ByteArray).size = n := by
            rw [size_mk, List.length_take]
            omega
          obtain ⟨t, ht⟩ : ∃ t : ByteArray, t = ⟨(l.take n).toArray⟩ := ⟨_, rfl⟩
          rw [← ht] at HX HN2 hts
          have wn : IntKind.i64.wrap (2 + (n : Int)) = 2 + (n : Int) := by rw [IntKind.wrap_i64]; omega
          have tn : ((2 : Int) + (n : Int)).toNat = 2 + n := by omega
          clear HN HP hn hl ht hlen
          go_wp2
          go_quiet ((fail))
          go_wp2_with fail
          have b1 : Below w.heap.size w (wr.drewN nq) := below_drewN bk _
          have o1 : OwnS (wr.drewN nq) w.heap.size u4 acc := owns_block hown (fun _ _ => rfl)
          have s1 : w.heap.size ≤ (wr.drewN nq).heap.size := sk
          generalize wr.drewN nq = w1 at *
          rw [HX.out]
          refine (clone60 t w1 (by omega)).mono ?_
          rintro e w2 ⟨rfl, b2⟩
          have o2 := owns_below o1 b2
          have b02 := b1.trans (b2.mono s1)
          have s2 := b2.size
          clear hown bk o1 b1 b2
          have ha20 : acc.length ≤ 1048576 := by omega
          go_wp2_with (at_builtin; refine wpList_append_own _ rfl _ _ 41 rfl w.heap.size 9 i0 _ 1 16 Tryz.underlying41 hi hz0 hz1 hz2 rfl (by decide) _ _ _ rfl (o2.alloc _) ⟨w2.heap.size, 0, none⟩ 1 1 [.string t] rfl rfl ?c1 ?c2 ?c3 ?c4 ?c5 ?_)
          case c1 => exact cell_one_new _ _ _
          case c2 => intro y hy; simp at hy; subst hy; rfl
          case c3 => unfold maxLen; omega
          case c4 => omega
          case c5 => simp; omega
          intro v' w5 hown' hgrow _
          have b05 : Hid (Below w.heap.size w w5) := below_own b02 (by omega) o2 hgrow
          have HO : Hid (OwnS w5 w.heap.size v' (acc ++ [t])) := by
            unfold Hid OwnS
            rw [List.length_append, strV_app]
            exact hown'
          clear hown' hgrow o2 b02
          go_wp2
          go_roundw
          case rel =>
            refine ⟨rest.extract (2 + n) rest.size, acc ++ [t], rfl, ?_, ?_, HO.out, b05.out, ?_⟩
            · rw [ByteArray.size_extract]; omega
            · rw [ByteArray.size_extract, List.length_append, List.length_singleton]; omega
            · rw [HY.out]; exact HN2.out
          case measure => show ByteArray.size (rest.extract (2 + n) rest.size) < rest.size; rw [ByteArray.size_extract]; omega
end Go.Proofs.YtapdoechmnjaeaaGreatDoor

namespace Go.Proofs.YtapdoechmnjaeaaGreatDoor
open Go.RowKit Go.Sort

abbrev Pr := ByteArray × ByteArray
def encP (p : Pr) : List Value := [.string p.1, .string p.2]
def flatPV (ps : List Pr) : List Value := ps.flatMap encP
abbrev OwnP (w : World) (B : Nat) (v : Value) (ps : List Pr) : Prop := w.ownsRow B 139 2 v ps.length (flatPV ps)

theorem flatPV_app (ps qs : List Pr) : flatPV (ps ++ qs) = flatPV ps ++ flatPV qs := List.flatMap_append
theorem ownP_nil (w : World) (B : Nat) : OwnP w B (.slice none 0 0) [] := World.ownsRow_nil _ _ _ _
theorem info33 : (Tryz.prog.info? 139).map (fun i => (i.zero, i.size, i.bytes)) = some (some (.agg #[.string ⟨#[]⟩, .string ⟨#[]⟩]), 2, 32) := by kernel_rfl

/-- append by its own run, as one step of a region that draws. -/
theorem step_append_run {P : Program} {ops : Array Oper} {o : Oper} {a : Act} {w w' : World} {K : Act → World → Prop} {Q : Exit → Act → World → Prop} {E : Prop} (hg : o.guard = none) (s x : Operand) (t : TypeId)
    (hop : o.op = Op.call { callee := Callee.builtin Builtin.append, args := #[s, x], argTypes := #[t, t] }) {v y v' : Value} (hs : a.eval s = v) (hx : a.eval x = y) (hr : (Builtin.append_ #[t, t] o.type #[v, y]).run P w = .ok v' w')
    (hK : K (a.put o.dst v') w') : if Region.wanted o (yielded ops a.tmps) = true then Oper.wp P o a w K Q else E := by
  have hw : Region.wanted o (yielded ops a.tmps) = true := by simp [Region.wanted, hg]
  rw [if_pos hw]
  unfold Oper.wp
  simp [execOp, hop, resolve, invoke, builtin, hs, hx, hr, Result.andThen]
  exact hK

theorem ret_tb {x : Value} {a b : Bool} (h : a = b) : Ending.returned (.tuple #[x, .bool a]) = .returned (.tuple #[x, .bool b]) := by rw [h]

theorem app_pair {w : World} {B : Nat} {V : Value} {ps : List Pr} (x y : ByteArray) (t : TypeId) (ht : Tryz.prog.underlying t = some (.slice 139)) (h : OwnP w B V ps) (hn : ps.length ≤ 1048576) (hB : B ≤ w.heap.size) :
    ∃ v' w', (Builtin.append_ #[t, t] t #[V, .slice (some ⟨w.heap.size, 0, none⟩) 1 1]).run Tryz.prog (w.alloc (.cells #[.string x, .string y] 139)) = .ok v' w' ∧ OwnP w' B v' (ps ++ [(x, y)]) ∧ Below B w w' := by
  obtain ⟨i0, hi, hz0, hz1, hz2⟩ := info_parts info33
  have hbl : Below w.heap.size w (w.alloc (.cells #[.string x, .string y] 139)) := (Below.refl _ w).alloc (Nat.le_refl _) _
  have oA := owns_below h hbl
  obtain ⟨v', w', hrun, hown, hg, _, hblk⟩ := run_append_own_at (P := Tryz.prog) (w.alloc (.cells #[.string x, .string y] 139)) B t t 139 i0 _ 2 32 ht hi hz0 hz1 hz2 rfl (by decide) V ps.length (flatPV ps) oA ⟨w.heap.size, 0, none⟩ 1 1 [.string x, .string y] rfl (fun j u hj => by
    rw [Addr.add_lit, Nat.zero_add]
    exact ((RowAt.new w 139 #[.string x, .string y]).cell j).trans (by simpa using hj)) (fun u hu => by simp at hu; rcases hu with rfl | rfl <;> rfl) (by unfold maxLen; omega) (by omega) (by simp; omega)
  refine ⟨v', w', hrun, ?_, below_own (Below.refl _ w) hB h hg⟩
  unfold OwnP
  rw [List.length_append, flatPV_app]
  exact hown

set_option maxHeartbeats 4000000 in
set_option maxRecDepth 100000 in
theorem pairsFrom_any (a : Option Addr) (b off n c : Nat) (ts : List ByteArray) (w : World) (h : StrsIn w a b off n ts) (hn : n ≤ 1048576) (hc : n ≤ c) (hc2 : c ≤ 9223372036854775807) :
    Calls Tryz.prog 133 #[.slice a n c] w fun e w' => ∃ v, e = .returned (.tuple #[.iface 155 v, .bool (decide (ts.length % 2 = 0))]) ∧ OwnP w' w.heap.size v (pairUp ts) ∧ Below w.heap.size w w' := by
  have H0 : Hid (StrsIn w a b off n ts) := h
  have HL : Hid (n = ts.length) := h.len.symm
  clear h
  go_enter Tryz.func133, Tryz.ntmps133
  go_wp2
  go_loopw [0, 4] (fun r v wr => ∃ (x : Option Addr) (o m d : Nat) (rest : List ByteArray) (acc : List Pr), r = .slice x m d ∧ m ≤ n ∧ m ≤ d ∧ d ≤ 9223372036854775807 ∧ StrsIn wr x b o m rest ∧ (0 < m → b < w.heap.size) ∧ rest.length % 2 = ts.length % 2 ∧ acc.length ≤ n - m ∧ pairUp ts = acc ++ pairUp rest ∧ OwnP wr w.heap.size v acc ∧ Below w.heap.size w wr) (fun r _ _ => lenV r)
  case atStart => exact ⟨a, off, n, c, ts, [], rfl, Nat.le_refl _, hc, hc2, H0.out, H0.out.low, rfl, by simp, rfl, ownP_nil _ _, Below.refl _ _⟩
  case round =>
    obtain ⟨x, o, m, d, rest, acc, rfl, hm, hmd, hd2, hs, hlow, hpar, hacc, hpu, hown, bk⟩ := hrel
    have sk := bk.size
    clear H0
    by_cases h2 : 2 ≤ m
    · obtain rfl := hs.addr (by omega)
      have hrl := hs.len
      match rest, hrl, hs, hpar, hpu with
      | [], hrl, _, _, _ => simp at hrl; omega
      | [_], hrl, _, _, _ => simp at hrl; omega
      | p :: q :: rest, hrl, hs, hpar, hpu =>
        have c0 := hs.cell 0 (by omega)
        have c1 := hs.cell 1 (by omega)
        simp at c0 c1
        have hlt : b < wr.heap.size := hs.low (by omega)
        have bA : Below wr.heap.size wr (wr.alloc (.cells #[.string p, .string q] 139)) := (Below.refl _ wr).alloc (Nat.le_refl _) _
        have d0 := (bA.cell (p := ⟨b, o, none⟩) hlt).trans c0
        have d1 := (bA.cell (p := ⟨b, o + 1, none⟩) hlt).trans c1
        have od : OwnP wr.drew w.heap.size u4 acc := owns_block hown (fun _ _ => rfl)
        obtain ⟨v', w5, hrun0, o5, b5⟩ := app_pair p q 155 Tryz.underlying155 od (by omega) (show w.heap.size ≤ wr.heap.size from sk)
        have hrun : (Builtin.append_ #[155, 155] 155 #[u4, .slice (some ⟨wr.heap.size, 0, none⟩) 1 1]).run Tryz.prog (wr.alloc (.cells #[.string p, .string q] 139)).drew = .ok v' w5 := hrun0
        have b05 : Hid (Below w.heap.size w w5) := bk.trans ((below_drewN (Below.refl _ wr) 1 : Below w.heap.size wr wr.drew).trans b5)
        have S5 : Hid (StrsIn w5 (if d = 2 then some ⟨b, o, none⟩ else some ⟨b, o + 2, none⟩) b (o + 2) (m - 2) rest) := by
          have hbl := hlow (by omega)
          refine ⟨by simp at hrl; omega, fun hp => if_neg (by omega), fun _ => by have := b05.out.size; omega, fun i hi => ?_, fun i hi => ?_⟩
          · have := hs.cell (i + 2) (by omega)
            rw [show o + (i + 2) = o + 2 + i from by omega] at this
            have e1 := (b05.out.cell (p := ⟨b, o + 2 + i, none⟩) hbl).trans ((bk.cell (p := ⟨b, o + 2 + i, none⟩) hbl).symm.trans this)
            simpa using e1
          · have := hs.fit (i + 2) (by omega)
            simpa using this
        have HPU : Hid (pairUp ts = (acc ++ [(p, q)]) ++ pairUp rest) := by unfold Hid; rw [hpu]; simp [pairUp]
        have HPA : Hid (rest.length % 2 = ts.length % 2) := by unfold Hid; rw [← hpar]; simp; omega
        have O5 : Hid (OwnP w5 w.heap.size v' (acc ++ [(p, q)])) := o5
        have h0n : 0 < m := by omega
        have h1n : 1 < m := by omega
        have h0i : (0 : Int) < (m : Int) := by omega
        have h1i : (1 : Int) < (m : Int) := by omega
        have h2i : (2 : Int) ≤ (m : Int) := by omega
        clear hs hpu hpar hown od hrun0 o5 b5 bk bA hrl
        go_wp2_with fail
        go_region_law (first
          | refine step_append_run rfl (.tmp 10) (.tmp 18) 155 rfl (by simp [Act.eval]) (by simp [Act.eval]) hrun ?_)
        all_goals
          go_wp2
          go_roundw
          case rel => exact ⟨_, o + 2, m - 2, d - 2, rest, acc ++ [(p, q)], rfl, by omega, by omega, by omega, S5.out, fun _ => hlow (by omega), HPA.out, by rw [List.length_append, List.length_singleton]; omega, HPU.out, O5.out, b05.out⟩
          case measure => simp [lenV]; omega
    · have hlt : ¬ (2 : Int) ≤ (m : Int) := by omega
      have HE : Hid (pairUp ts = acc ∧ ((m : Int) == 0) = decide (ts.length % 2 = 0)) := by
        have hrl := hs.len
        unfold Hid
        rw [hpu, ← hpar]
        match rest, hrl with
        | [], hrl => simp at hrl; subst hrl; simp [pairUp]
        | [_], hrl => simp at hrl; subst hrl; simp [pairUp]
        | _ :: _ :: _, hrl => simp at hrl; omega
      clear hs hpu hpar
      go_wp2
      go_ret2
      exact ⟨u4, ret_tb HE.out.2, by rw [HE.out.1]; exact hown, bk⟩
end Go.Proofs.YtapdoechmnjaeaaGreatDoor
