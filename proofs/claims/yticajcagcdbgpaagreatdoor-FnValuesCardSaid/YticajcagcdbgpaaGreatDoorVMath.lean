/- Plain mathematics of a value's bytes: texts, each behind its length; what is read of them, by the specification's way and by the program's. -/
import Derived.Test.YticajcagcdbgpaaGreatDoorRdMath
import Derived.Test.YticajcagcdbgpaaGreatDoorK14
namespace Go.Proofs.YticajcagcdbgpaaGreatDoor
open Go.Lib
open Kk (Rk rk0 texL texR decS scoreB rightB ranksB okAt scAt fitS decS_len)

def twoT (t : ByteArray) : List UInt8 := [UInt8.ofNat (t.size / 256), UInt8.ofNat t.size]
def oneT (t : ByteArray) : List UInt8 := twoT t ++ t.data.toList
def encT (ts : List ByteArray) : List UInt8 := ts.flatMap oneT

theorem encT_cons (t : ByteArray) (ts : List ByteArray) : encT (t :: ts) = oneT t ++ encT ts := rfl
theorem encT_app (ts us : List ByteArray) : encT (ts ++ us) = encT ts ++ encT us := List.flatMap_append

abbrev TxR := Option (List ByteArray × List UInt8)
def preT (t : List ByteArray) : TxR → TxR
  | none => none
  | some (ts, r) => some (t ++ ts, r)

/-- The texts that stand in the bytes, and what is left behind them (fewer than two bytes); none where one of them is cut. -/
def textsF : Nat → List UInt8 → TxR
  | 0, l => some ([], l)
  | n + 1, l => match l with
    | [] => some ([], [])
    | [a] => some ([], [a])
    | a :: b :: l => if l.length < 256 * a.toNat + b.toNat then none else preT [⟨(l.take (256 * a.toNat + b.toNat)).toArray⟩] (textsF n (l.drop (256 * a.toNat + b.toNat)))
theorem textsF_more : ∀ (n m : Nat) (l : List UInt8), l.length < n → l.length < m → textsF n l = textsF m l
  | 0, _, _, h, _ => by omega
  | _, 0, _, _, h => by omega
  | n + 1, m + 1, [], _, _ => rfl
  | n + 1, m + 1, [a], _, _ => rfl
  | n + 1, m + 1, a :: b :: l, h, h2 => by
    simp only [List.length_cons] at h h2
    have := textsF_more n m (l.drop (256 * a.toNat + b.toNat)) (by rw [List.length_drop]; omega) (by rw [List.length_drop]; omega)
    simp only [textsF]
    rw [this]
def textsM (l : List UInt8) : TxR := textsF (l.length + 1) l
theorem textsM_nil : textsM [] = some ([], []) := rfl
theorem textsM_one (a : UInt8) : textsM [a] = some ([], [a]) := rfl

theorem preT_preT (s t : List ByteArray) (r : TxR) : preT s (preT t r) = preT (s ++ t) r := by
  cases r with
  | none => rfl
  | some q => obtain ⟨a, b⟩ := q; simp [preT]
theorem preT_nil (r : TxR) : preT [] r = r := by
  cases r with
  | none => rfl
  | some q => obtain ⟨a, b⟩ := q; simp [preT]

theorem textsM_two (a b : UInt8) (l : List UInt8) : textsM (a :: b :: l) = if l.length < 256 * a.toNat + b.toNat then none else preT [⟨(l.take (256 * a.toNat + b.toNat)).toArray⟩] (textsM (l.drop (256 * a.toNat + b.toNat))) := by
  show (if l.length < 256 * a.toNat + b.toNat then none else preT [⟨(l.take (256 * a.toNat + b.toNat)).toArray⟩] (textsF (l.length + 1 + 1) (l.drop (256 * a.toNat + b.toNat)))) = _
  rw [textsF_more (l.length + 1 + 1) ((l.drop (256 * a.toNat + b.toNat)).length + 1) _ (by rw [List.length_drop]; omega) (by omega)]
  rfl

theorem textsM_enc : ∀ (n : Nat) (l : List UInt8) (ts : List ByteArray) (r : List UInt8), l.length ≤ n → textsM l = some (ts, r) → l = encT ts ++ r ∧ r.length ≤ 1 ∧ ∀ t ∈ ts, t.size ≤ 65535 := by
  intro n
  induction n with
  | zero =>
    intro l ts r hn h
    have : l = [] := List.eq_nil_of_length_eq_zero (by omega)
    subst this
    rw [textsM_nil] at h
    injection h with h
    injection h with h1 h2
    subst h1 h2
    exact ⟨rfl, by simp, fun t ht => by cases ht⟩
  | succ n ih =>
    intro l ts r hn h
    match l, hn, h with
    | [], _, h =>
      rw [textsM_nil] at h
      injection h with h
      injection h with h1 h2
      subst h1 h2
      exact ⟨rfl, by simp, fun t ht => by cases ht⟩
    | [a], _, h =>
      rw [textsM_one] at h
      injection h with h
      injection h with h1 h2
      subst h1 h2
      exact ⟨rfl, by simp, fun t ht => by cases ht⟩
    | a :: b :: l, hn, h =>
      rw [textsM_two] at h
      split at h
      · cases h
      · rename_i hlen
        have ha := a.toNat_lt
        have hb := b.toNat_lt
        generalize hk : 256 * a.toNat + b.toNat = k at *
        cases hm : textsM (l.drop k) with
        | none => rw [hm] at h; cases h
        | some q =>
          obtain ⟨us, r'⟩ := q
          rw [hm] at h
          simp only [preT] at h
          injection h with h
          injection h with h1 h2
          subst h1 h2
          rw [List.length_cons, List.length_cons] at hn
          obtain ⟨i1, i2, i3⟩ := ih (l.drop k) us r' (by rw [List.length_drop]; omega) hm
          have hs : (⟨(l.take k).toArray⟩ : ByteArray).size = k := by
            show (l.take k).toArray.size = k
            simp
            omega
          refine ⟨?_, i2, ?_⟩
          · rw [List.singleton_append, encT_cons, List.append_assoc, ← i1]
            unfold oneT twoT
            rw [hs]
            have e1 : UInt8.ofNat (k / 256) = a := by
              rw [← hk, show (256 * a.toNat + b.toNat) / 256 = a.toNat from by omega]
              exact UInt8.ofNat_toNat
            have e2 : UInt8.ofNat k = b := by
              apply UInt8.toNat_inj.1
              rw [UInt8.toNat_ofNat', ← hk]
              omega
            rw [e1, e2]
            simp
          · intro t ht
            rcases List.mem_append.1 ht with ht | ht
            · simp at ht; subst ht; rw [hs]; omega
            · exact i3 t ht

theorem oneT_read (t : ByteArray) (h : t.size ≤ 65535) (l : List UInt8) : textsM (oneT t ++ l) = preT [t] (textsM l) := by
  unfold oneT twoT
  rw [List.append_assoc]
  show textsM (UInt8.ofNat (t.size / 256) :: UInt8.ofNat t.size :: (t.data.toList ++ l)) = _
  have hsz : t.data.toList.length = t.size := (Lib.size_eq t).symm
  have e : 256 * (UInt8.ofNat (t.size / 256)).toNat + (UInt8.ofNat t.size).toNat = t.size := by
    rw [UInt8.toNat_ofNat', UInt8.toNat_ofNat']
    omega
  rw [textsM_two, e, if_neg (by rw [List.length_append]; omega), ← hsz, List.take_left, List.drop_left]

theorem enc_read : ∀ (ts : List ByteArray) (r : List UInt8), (∀ t ∈ ts, t.size ≤ 65535) → r.length ≤ 1 → textsM (encT ts ++ r) = some (ts, r)
  | [], r, _, hr => by
    match r, hr with
    | [], _ => rw [List.append_nil]; show textsM [] = _; rw [textsM_nil]
    | [a], _ => show textsM [a] = _; rw [textsM_one]
  | t :: ts, r, h, hr => by
    rw [encT_cons, List.append_assoc, oneT_read t (h t (by simp)), enc_read ts r (fun x hx => h x (by simp [hx])) hr]
    rfl

/-- Two lists of texts with the same bytes are the same. -/
theorem enc_inj {xs ts : List ByteArray} {r : List UInt8} (hx : ∀ t ∈ xs, t.size ≤ 65535) (ht : ∀ t ∈ ts, t.size ≤ 65535) (hr : r.length ≤ 1) : encT xs = encT ts ++ r ↔ xs = ts ∧ r = [] := by
  refine ⟨fun h => ?_, fun ⟨h1, h2⟩ => by rw [h1, h2, List.append_nil]⟩
  have h1 := enc_read xs [] hx (by simp)
  have h2 := enc_read ts r ht hr
  rw [List.append_nil, h] at h1
  rw [h1] at h2
  injection h2 with h2
  injection h2 with h2 h3
  exact ⟨h2, h3.symm⟩

structure Vl where
  kind : Int
  text : ByteArray
  items : List ByteArray
  pairs : List (ByteArray × ByteArray)
  ranks : List Rk

def bz : ByteArray := ⟨#[]⟩
def vl0 : Vl := ⟨0, bz, [], [], []⟩

def pairUp : List ByteArray → List (ByteArray × ByteArray)
  | a :: b :: l => (a, b) :: pairUp l
  | _ => []
def flatP (ps : List (ByteArray × ByteArray)) : List ByteArray := ps.flatMap fun p => [p.1, p.2]

def rankUp : List ByteArray → List Rk
  | a :: b :: l => ⟨a, (intI b.data.toList).1⟩ :: rankUp l
  | _ => []

/-- The program's reading of ranks: none where a score is no number. -/
def rankDec : List ByteArray → Option (List Rk)
  | a :: b :: l => match decM b.data.toList with
    | none => none
    | some n => (rankDec l).map fun rs => ⟨a, n⟩ :: rs
  | [] => some []
  | [_] => none

def shortB (t : ByteArray) : Bool := decide (t.size ≤ 200)
def countB (n : Nat) : Bool := decide (1 ≤ n) && decide (n ≤ 20)
def risePB (ps : List (ByteArray × ByteArray)) : Bool := (List.range ps.length).all fun i => decide (i = 0) || Op.bytesLess (ps.getD (i - 1) (bz, bz)).1.toList (ps.getD i (bz, bz)).1.toList
def itemsB (ts : List ByteArray) : Bool := countB ts.length && ts.all shortB
def pairsB (ps : List (ByteArray × ByteArray)) : Bool := countB ps.length && ((flatP ps).all shortB && risePB ps)

/-- What the specification makes of the texts, before it looks. -/
def specV (b : UInt8) (ts : List ByteArray) : Vl :=
  if b = 49 then ⟨1, ts.headD bz, [], [], []⟩
  else if b = 50 then ⟨2, bz, ts, [], []⟩
  else if b = 51 then ⟨3, bz, [], pairUp ts, []⟩
  else if b = 52 then ⟨4, bz, [], [], rankUp ts⟩
  else ⟨(b.toNat : Int) - 48, bz, [], [], []⟩

/-- Whether what it made is right, and its texts. -/
def specOkB (b : UInt8) (ts : List ByteArray) : Bool :=
  if b = 49 then shortB (ts.headD bz)
  else if b = 50 then itemsB ts
  else if b = 51 then pairsB (pairUp ts)
  else if b = 52 then rightB (rankUp ts)
  else false
def specTx (b : UInt8) (ts : List ByteArray) : List ByteArray :=
  if b = 49 then [ts.headD bz]
  else if b = 50 then ts
  else if b = 51 then flatP (pairUp ts)
  else texL (rankUp ts)

def readS1 (b : UInt8) : TxR → Vl × Bool
  | none => (vl0, false)
  | some (ts, r) => if specOkB b ts = true ∧ encT (specTx b ts) = encT ts ++ r then (specV b ts, true) else (vl0, false)

def readS : List UInt8 → Vl × Bool
  | [] => (vl0, false)
  | b :: l => readS1 b (textsM l)

/-- What the program makes of whole texts. -/
def readC (b : UInt8) (ts : List ByteArray) : Vl × Bool :=
  if b = 49 then (match ts with
    | [t] => if shortB t then (⟨1, t, [], [], []⟩, true) else (vl0, false)
    | _ => (vl0, false))
  else if b = 50 then (if itemsB ts then (⟨2, bz, ts, [], []⟩, true) else (vl0, false))
  else if b = 51 then (if ts.length % 2 = 0 ∧ pairsB (pairUp ts) = true then (⟨3, bz, [], pairUp ts, []⟩, true) else (vl0, false))
  else if b = 52 then (match rankDec ts with
    | none => (vl0, false)
    | some rs => if rightB rs then (⟨4, bz, [], [], rs⟩, true) else (vl0, false))
  else (vl0, false)

def readI1 (b : UInt8) : TxR → Vl × Bool
  | some (ts, []) => readC b ts
  | _ => (vl0, false)

def readI : List UInt8 → Vl × Bool
  | [] => (vl0, false)
  | b :: l => readI1 b (textsM l)

theorem flat_up : ∀ (ts : List ByteArray), flatP (pairUp ts) = ts ↔ ts.length % 2 = 0
  | [] => by simp [pairUp, flatP]
  | [a] => by simp [pairUp, flatP]
  | a :: b :: l => by
    have ih := flat_up l
    have e : flatP (pairUp (a :: b :: l)) = a :: b :: flatP (pairUp l) := rfl
    rw [e, List.length_cons, List.length_cons, show (l.length + 1 + 1) % 2 = l.length % 2 from by omega, ← ih]
    constructor
    · intro h; injection h with _ h; injection h with _ h
    · intro h; rw [h]

theorem dec_back {b : ByteArray} {n : Int} (h : decM b.data.toList = some n) : n = (intI b.data.toList).1 ∧ decS n = b := by
  rw [decM_intI] at h
  split at h
  · rename_i h2
    injection h with h
    obtain ⟨_, h3⟩ := intI_to _ h2
    refine ⟨h.symm, ?_⟩
    rw [← h]
    unfold decS
    rw [h3]
  · cases h

theorem rank_dec : ∀ (ts : List ByteArray) (rs : List Rk), rankDec ts = some rs → rs = rankUp ts ∧ texL (rankUp ts) = ts
  | [], rs, h => by simp [rankDec] at h; subst h; exact ⟨rfl, rfl⟩
  | [a], rs, h => by simp [rankDec] at h
  | a :: b :: l, rs, h => by
    simp only [rankDec] at h
    split at h
    · cases h
    · rename_i n hn
      obtain ⟨h1, h2⟩ := dec_back hn
      cases hr : rankDec l with
      | none => rw [hr] at h; cases h
      | some qs =>
        rw [hr] at h
        simp only [Option.map_some] at h
        injection h with h
        obtain ⟨i1, i2⟩ := rank_dec l qs hr
        refine ⟨by rw [← h, i1, h1]; rfl, ?_⟩
        show [a, decS (intI b.data.toList).1] ++ texL (rankUp l) = _
        rw [i2, ← h1, h2]
        rfl

theorem dec_rank : ∀ (ts : List ByteArray), (∀ x ∈ rankUp ts, scoreB x = true) → texL (rankUp ts) = ts → rankDec ts = some (rankUp ts)
  | [], _, _ => rfl
  | [a], _, h => by simp [rankUp, texL] at h
  | a :: b :: l, hs, h => by
    have e : [a, decS (intI b.data.toList).1] ++ texL (rankUp l) = a :: b :: l := h
    injection e with _ e
    injection e with e1 e2
    have hb : b.data.toList = Lib.itoa (intI b.data.toList).1 := by
      conv => lhs; rw [← e1]
      rfl
    have hn := hs ⟨a, (intI b.data.toList).1⟩ (by simp [rankUp])
    have hin : inNum (intI b.data.toList).1 = true := by
      unfold scoreB at hn
      unfold inNum
      simp at hn ⊢
      exact hn
    have hd := decM_itoa _ hin
    rw [← hb] at hd
    have ih := dec_rank l (fun x hx => hs x (by simp [rankUp, hx])) e2
    simp only [rankDec, hd, ih]
    rfl

theorem right_scores {L : List Rk} (h : rightB L = true) : ∀ x ∈ L, scoreB x = true := by
  intro x hx
  unfold rightB ranksB at h
  simp only [Bool.and_eq_true, List.all_eq_true, List.mem_range] at h
  obtain ⟨i, hi, rfl⟩ := List.getElem_of_mem hx
  have := h.2.2 i hi
  unfold okAt at this
  simp only [Bool.and_eq_true] at this
  have h2 := this.2.1
  unfold scAt at h2
  rwa [List.getD_eq_getElem?_getD, List.getElem?_eq_getElem hi] at h2

theorem up_mem : ∀ (ts : List ByteArray), ∀ t ∈ flatP (pairUp ts), t ∈ ts
  | [], t, h => by simp [pairUp, flatP] at h
  | [a], t, h => by simp [pairUp, flatP] at h
  | a :: b :: l, t, h => by
    have e : flatP (pairUp (a :: b :: l)) = a :: b :: flatP (pairUp l) := rfl
    rw [e] at h
    rcases List.mem_cons.1 h with rfl | h
    · simp
    · rcases List.mem_cons.1 h with rfl | h
      · simp
      · have := up_mem l t h
        simp [this]

theorem rank_mem : ∀ (ts : List ByteArray), (∀ x ∈ rankUp ts, scoreB x = true) → (∀ t ∈ ts, t.size ≤ 65535) → ∀ t ∈ texL (rankUp ts), t.size ≤ 65535
  | [], _, _, t, h => by simp [rankUp, texL] at h
  | [a], _, _, t, h => by simp [rankUp, texL] at h
  | a :: b :: l, hs, hz, t, h => by
    have e : texL (rankUp (a :: b :: l)) = a :: decS (intI b.data.toList).1 :: texL (rankUp l) := rfl
    rw [e] at h
    rcases List.mem_cons.1 h with rfl | h
    · exact hz t (by simp)
    · rcases List.mem_cons.1 h with rfl | h
      · have hn := hs ⟨a, (intI b.data.toList).1⟩ (by simp [rankUp])
        unfold scoreB at hn
        simp at hn
        have := decS_len (s := (intI b.data.toList).1) ⟨by omega, by omega⟩
        omega
      · exact rank_mem l (fun x hx => hs x (by simp [rankUp, hx])) (fun x hx => hz x (by simp [hx])) t h

theorem spec_small {b : UInt8} {ts : List ByteArray} (hok : specOkB b ts = true) (hz : ∀ t ∈ ts, t.size ≤ 65535) : ∀ t ∈ specTx b ts, t.size ≤ 65535 := by
  unfold specOkB at hok
  unfold specTx
  split
  · rename_i h
    rw [if_pos h] at hok
    intro t ht
    rw [List.mem_singleton] at ht
    rw [ht]
    have : (ts.headD bz).size ≤ 200 := of_decide_eq_true hok
    exact Nat.le_trans this (by decide)
  · rename_i h1
    rw [if_neg h1] at hok
    split
    · exact hz
    · rename_i h2
      rw [if_neg h2] at hok
      split
      · exact fun t ht => hz t (up_mem ts t ht)
      · rename_i h3
        rw [if_neg h3] at hok
        split at hok
        · exact rank_mem ts (right_scores hok) hz
        · cases hok

theorem readC_same (b : UInt8) (ts : List ByteArray) (hz : ∀ t ∈ ts, t.size ≤ 65535) : (if specOkB b ts = true ∧ encT (specTx b ts) = encT ts ++ [] then (specV b ts, true) else (vl0, false)) = readC b ts := by
  unfold readC
  by_cases hok : specOkB b ts = true
  · have hiff := enc_inj (r := []) (spec_small hok hz) hz (by simp)
    have hc : (specOkB b ts = true ∧ encT (specTx b ts) = encT ts ++ []) ↔ specTx b ts = ts := ⟨fun h => (hiff.1 h.2).1, fun h => ⟨hok, hiff.2 ⟨h, rfl⟩⟩⟩
    have hcc : (if specOkB b ts = true ∧ encT (specTx b ts) = encT ts ++ [] then (specV b ts, true) else (vl0, false)) = if specTx b ts = ts then (specV b ts, true) else (vl0, false) := by
      by_cases h : specTx b ts = ts
      · rw [if_pos h, if_pos (hc.2 h)]
      · rw [if_neg h, if_neg (fun h' => h (hc.1 h'))]
    rw [hcc]
    unfold specOkB at hok
    unfold specTx specV
    by_cases b1 : b = 49
    · rw [if_pos b1] at hok
      simp only [if_pos b1]
      match ts, hok with
      | [], hok => rw [if_neg (by simp)]
      | [t], hok => rw [if_pos (show [[t].headD bz] = [t] from rfl)]; show _ = if shortB t = true then _ else _; rw [if_pos (show shortB t = true from hok)]; rfl
      | t :: u :: l, hok => rw [if_neg (by simp)]
    rw [if_neg b1] at hok
    simp only [if_neg b1]
    by_cases b2 : b = 50
    · rw [if_pos b2] at hok
      simp only [if_pos b2]
      rw [if_pos trivial, if_pos hok]
    rw [if_neg b2] at hok
    simp only [if_neg b2]
    by_cases b3 : b = 51
    · rw [if_pos b3] at hok
      simp only [if_pos b3]
      by_cases he : ts.length % 2 = 0
      · rw [if_pos ((flat_up ts).2 he), if_pos ⟨he, hok⟩]
      · rw [if_neg (fun h => he ((flat_up ts).1 h)), if_neg (fun h => he h.1)]
    rw [if_neg b3] at hok
    simp only [if_neg b3]
    by_cases b4 : b = 52
    · rw [if_pos b4] at hok
      simp only [if_pos b4]
      cases hd : rankDec ts with
      | none =>
        rw [if_neg (fun h => by have := dec_rank ts (right_scores hok) h; rw [hd] at this; cases this)]
      | some rs =>
        obtain ⟨h1, h2⟩ := rank_dec ts rs hd
        subst h1
        simp only
        rw [if_pos h2, if_pos hok]
    · rw [if_neg b4] at hok
      cases hok
  · rw [if_neg (fun h => hok h.1)]
    unfold specOkB at hok
    by_cases b1 : b = 49
    · rw [if_pos b1] at hok
      rw [if_pos b1]
      match ts, hok with
      | [], hok => rfl
      | [t], hok => show _ = if shortB t = true then _ else _; rw [if_neg (show ¬ shortB t = true from hok)]
      | t :: u :: l, hok => rfl
    rw [if_neg b1] at hok
    rw [if_neg b1]
    by_cases b2 : b = 50
    · rw [if_pos b2] at hok
      rw [if_pos b2, if_neg hok]
    rw [if_neg b2] at hok
    rw [if_neg b2]
    by_cases b3 : b = 51
    · rw [if_pos b3] at hok
      rw [if_pos b3, if_neg (fun h => hok h.2)]
    rw [if_neg b3] at hok
    rw [if_neg b3]
    by_cases b4 : b = 52
    · rw [if_pos b4] at hok
      rw [if_pos b4]
      cases hd : rankDec ts with
      | none => rfl
      | some rs =>
        obtain ⟨h1, h2⟩ := rank_dec ts rs hd
        subst h1
        simp only
        rw [if_neg hok]
    · rw [if_neg b4]

theorem read_same (l : List UInt8) : readS l = readI l := by
  cases l with
  | nil => rfl
  | cons b l =>
    show readS1 b (textsM l) = readI1 b (textsM l)
    cases hm : textsM l with
    | none => rfl
    | some q =>
      obtain ⟨ts, r⟩ := q
      obtain ⟨_, hr, hz⟩ := textsM_enc l.length l ts r (Nat.le_refl _) hm
      cases r with
      | nil => exact readC_same b ts hz
      | cons x r =>
        show (if _ then _ else _) = _
        rw [if_neg (fun h => by have := (enc_inj (spec_small h.1 hz) hz hr).1 h.2; cases this.2)]
        rfl
end Go.Proofs.YticajcagcdbgpaaGreatDoor
