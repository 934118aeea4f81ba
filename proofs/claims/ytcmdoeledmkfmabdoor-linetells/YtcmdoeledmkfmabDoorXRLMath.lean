/- Texts of this claim, in one: RLMath. -/
import Derived.Lib.Fields
import Derived.Lib.SlTrimSet
import Derived.Lib.Strings
import Derived.Test.YtcmdoeledmkfmabDoorQL
/- The document's own reading of a line, with no program in it: bytes gathered one by one; what digits tell; words with a count behind them. -/
set_option linter.unusedSimpArgs false
set_option linter.unusedVariables false
namespace Go.Proofs.YtcmdoeledmkfmabDoor
open Go

/-! ### bytes gathered one by one -/

/-- one byte more -/
def scan1 (x : List (List UInt8) × List UInt8) (c : UInt8) : List (List UInt8) × List UInt8 := if c = 32 then (if x.2 = [] then x else (x.1 ++ [x.2], [])) else (x.1, x.2 ++ [c])
/-- what is gathered of the first k bytes -/
def scanTo (t : List UInt8) (k : Nat) : List (List UInt8) × List UInt8 := (t.take k).foldl scan1 ([], [])
def tailP (w : List UInt8) : List (List UInt8) := if w = [] then [] else [w]

theorem scanTo_zero (t : List UInt8) : scanTo t 0 = ([], []) := by unfold scanTo; simp
theorem scanTo_succ {t : List UInt8} {k : Nat} {c : UInt8} (h : t[k]? = some c) : scanTo t (k + 1) = scan1 (scanTo t k) c := by
  unfold scanTo
  rw [List.take_add_one, h]
  simp [List.foldl_append]

theorem scan1_space0 (l : List (List UInt8)) : scan1 (l, []) 32 = (l, []) := by simp [scan1]
theorem scan1_space (l : List (List UInt8)) {acc : List UInt8} (h : acc ≠ []) : scan1 (l, acc) 32 = (l ++ [acc], []) := by simp [scan1, h]
theorem scan1_byte (l : List (List UInt8)) (acc : List UInt8) {c : UInt8} (h : c ≠ 32) : scan1 (l, acc) c = (l, acc ++ [c]) := by simp [scan1, h]

theorem scan_pieces : ∀ (t : List UInt8) (l : List (List UInt8)) (acc : List UInt8), (t.foldl scan1 (l, acc)).1 ++ tailP (t.foldl scan1 (l, acc)).2 = l ++ piecesA acc t
  | [], l, acc => by by_cases ha : acc = [] <;> simp [piecesA, tailP, ha]
  | c :: r, l, acc => by
    rw [List.foldl_cons, piecesA]
    by_cases hc : c = 32
    · subst hc
      by_cases ha : acc = []
      · subst ha
        rw [scan1_space0, scan_pieces r l [], if_pos rfl, if_pos rfl]
      · rw [scan1_space l ha, scan_pieces r _ _, if_pos rfl, if_neg ha]
        simp
    · rw [scan1_byte l acc hc, scan_pieces r _ _, if_neg hc]

theorem scan_end (s : List UInt8) : scanTo (s ++ [32]) (s.length + 1) = (pieces s, []) := by
  have h := scan_pieces s [] []
  have e : scanTo (s ++ [32]) (s.length + 1) = scan1 (s.foldl scan1 ([], [])) 32 := by
    unfold scanTo
    rw [List.take_of_length_le (by simp), List.foldl_append]
    rfl
  rw [e]
  generalize s.foldl scan1 ([], []) = x at *
  obtain ⟨a, b⟩ := x
  unfold tailP at h
  unfold pieces
  simp only [List.nil_append] at h
  by_cases hb : b = []
  · subst hb
    rw [scan1_space0, ← h]
    simp
  · rw [scan1_space a hb, ← h, if_neg hb]

theorem scan_len (t : List UInt8) : ∀ k : Nat, (scanTo t k).1.length ≤ k ∧ (scanTo t k).2.length ≤ k
  | 0 => by rw [scanTo_zero]; simp
  | k + 1 => by
    have ih := scan_len t k
    by_cases hk : k < t.length
    · rw [scanTo_succ (List.getElem?_eq_getElem hk)]
      generalize scanTo t k = x at *
      generalize t[k] = c
      obtain ⟨a, b⟩ := x
      simp only at ih
      by_cases hc : c = 32
      · subst hc
        by_cases hb : b = []
        · subst hb; rw [scan1_space0]; simp; omega
        · rw [scan1_space a hb]; simp; omega
      · rw [scan1_byte a b hc]; simp; omega
    · have e : scanTo t (k + 1) = scanTo t k := by unfold scanTo; rw [List.take_of_length_le (by omega), List.take_of_length_le (by omega)]
      rw [e]; omega

/-! ### words with a count behind them -/

def refWord (k : Nat) : List UInt8 := word k ++ [47, UInt8.ofNat (48 + cntO k)]
def refL : List (List UInt8) := (List.range 14).map fun i => refWord (i + 1)
theorem refL_at {k : Nat} (h : k < 14) : refL[k]? = some (refWord (k + 1)) := by
  unfold refL
  rw [List.getElem?_map, List.getElem?_range h]
  rfl
theorem refL_len : refL.length = 14 := by decide
theorem refWord_len (k : Nat) : (refWord k).length = (word k).length + 2 := by unfold refWord; simp
theorem refWord_take (k : Nat) : (refWord k).take ((refWord k).length - 2) = word k := by rw [refWord_len]; unfold refWord; simp
theorem refWord_last (k : Nat) : (refWord k)[(refWord k).length - 1]? = some (UInt8.ofNat (48 + cntO k)) := by rw [refWord_len]; unfold refWord; simp
theorem cnt_byte (k : Nat) : (UInt8.ofNat (48 + cntO k)).toNat = 48 + cntO k := by
  have := cntO_le k
  rw [UInt8.toNat_ofNat']
  exact Nat.mod_eq_of_lt (by omega)

/-! ### what digits tell -/

def digs : List UInt8 := [48, 49, 50, 51, 52, 53, 54, 55, 56, 57]
theorem digs_iff (c : UInt8) : c ∈ digs ↔ 48 ≤ c.toNat ∧ c.toNat ≤ 57 := by
  constructor
  · intro h
    simp only [digs, List.mem_cons, List.not_mem_nil, or_false] at h
    rcases h with rfl | rfl | rfl | rfl | rfl | rfl | rfl | rfl | rfl | rfl <;> decide
  · rintro ⟨h0, h1⟩
    have e : c = UInt8.ofNat c.toNat := by simp
    rw [e]
    generalize c.toNat = n at *
    obtain rfl | rfl | rfl | rfl | rfl | rfl | rfl | rfl | rfl | rfl : n = 48 ∨ n = 49 ∨ n = 50 ∨ n = 51 ∨ n = 52 ∨ n = 53 ∨ n = 54 ∨ n = 55 ∨ n = 56 ∨ n = 57 := by omega
    all_goals decide

theorem dropWhile_nil {p : UInt8 → Bool} : ∀ (l : List UInt8), l.dropWhile p = [] ↔ ∀ c ∈ l, p c = true
  | [] => by simp
  | a :: r => by
    by_cases ha : p a = true
    · rw [List.dropWhile_cons_of_pos ha, dropWhile_nil r]
      simp [ha]
    · rw [List.dropWhile_cons_of_neg ha]
      simp [ha]

theorem trim_nil (d : List UInt8) : Lib.trimS d digs = [] ↔ ∀ c ∈ d, 48 ≤ c.toNat ∧ c.toNat ≤ 57 := by
  have hp : ∀ c : UInt8, digs.contains c = true ↔ 48 ≤ c.toNat ∧ c.toNat ≤ 57 := fun c => by rw [List.contains_iff_mem, digs_iff]
  unfold Lib.trimS Lib.trimLeftS Lib.trimRightS
  constructor
  · intro h c hc
    rw [dropWhile_nil] at h
    by_cases hd : ∀ x ∈ d.reverse, digs.contains x = true
    · exact (hp c).1 (hd c (List.mem_reverse.2 hc))
    · exfalso
      have h1 : d.reverse.dropWhile (digs.contains ·) ≠ [] := fun e => hd ((dropWhile_nil _).1 e)
      obtain ⟨a, r, e⟩ : ∃ a r, d.reverse.dropWhile (digs.contains ·) = a :: r := by
        cases e : d.reverse.dropWhile (digs.contains ·) with
        | nil => exact absurd e h1
        | cons a r => exact ⟨a, r, rfl⟩
      have h2 := List.head_dropWhile_not (digs.contains ·) h1
      have h3 := h a (by rw [e]; simp)
      simp only [e, List.head_cons] at h2
      rw [h3] at h2
      cases h2
  · intro h
    rw [(dropWhile_nil d.reverse).2 fun c hc => (hp c).2 (h c (List.mem_reverse.1 hc))]
    simp

/-- what the first k digits tell -/
def valTo (d : List UInt8) (k : Nat) : Int := (d.take k).foldl (fun n c => 10 * n + (c.toNat : Int) - 48) 0
theorem valTo_zero (d : List UInt8) : valTo d 0 = 0 := by unfold valTo; simp
theorem valTo_succ {d : List UInt8} {k : Nat} {c : UInt8} (h : d[k]? = some c) : valTo d (k + 1) = 10 * valTo d k + (c.toNat : Int) - 48 := by
  unfold valTo
  rw [List.take_add_one, h]
  simp [List.foldl_append]

theorem valTo_range {d : List UInt8} (hd : ∀ c ∈ d, 48 ≤ c.toNat ∧ c.toNat ≤ 57) : ∀ k : Nat, k ≤ d.length → 0 ≤ valTo d k ∧ valTo d k < (10 : Int) ^ k
  | 0, _ => by rw [valTo_zero]; decide
  | k + 1, h => by
    have ih := valTo_range hd k (by omega)
    have hk : k < d.length := by omega
    have hc := hd d[k] (List.getElem_mem hk)
    rw [valTo_succ (List.getElem?_eq_getElem hk), Int.pow_succ]
    generalize (10 : Int) ^ k = p at *
    omega

theorem valTo_small {d : List UInt8} (hd : ∀ c ∈ d, 48 ≤ c.toNat ∧ c.toNat ≤ 57) (hl : d.length ≤ 10) {k : Nat} (hk : k ≤ d.length) : 0 ≤ valTo d k ∧ valTo d k ≤ 9999999999 := by
  have h := valTo_range hd k hk
  have : (10 : Int) ^ k ≤ 10 ^ 10 := by
    have := Nat.pow_le_pow_right (show 0 < 10 by omega) (show k ≤ 10 by omega)
    exact_mod_cast this
  omega

theorem fold_dec : ∀ (d : List UInt8) (acc : Nat), (∀ c ∈ d, 48 ≤ c.toNat ∧ c.toNat ≤ 57) → Lib.decFrom acc d = some (d.foldl (fun n c => 10 * n + (c.toNat : Int) - 48) (acc : Int)).toNat ∧ 0 ≤ d.foldl (fun n c => 10 * n + (c.toNat : Int) - 48) (acc : Int)
  | [], acc, _ => by simp [Lib.decFrom]
  | a :: r, acc, h => by
    have ha := h a List.mem_cons_self
    have hv : Lib.digitVal a = some (a.toNat - 48) := by
      unfold Lib.digitVal
      rw [if_pos ⟨by omega, by omega⟩]
    have ih := fold_dec r (acc * 10 + (a.toNat - 48)) fun c hc => h c (List.mem_cons_of_mem _ hc)
    have e : ((acc * 10 + (a.toNat - 48) : Nat) : Int) = 10 * (acc : Int) + (a.toNat : Int) - 48 := by omega
    rw [e] at ih
    simp only [Lib.decFrom, hv, List.foldl_cons]
    exact ih

theorem val_digits (u : Nat) : valTo (Lib.decDigits u) (Lib.decDigits u).length = u := by
  have h := fold_dec (Lib.decDigits u) 0 (digits_mem _ _ (Nat.lt_succ_self u))
  rw [decFrom_digits _ _ (Nat.lt_succ_self u)] at h
  unfold valTo
  rw [List.take_length]
  have h1 := Option.some.inj h.1
  have h2 := h.2
  simp only [Int.ofNat_zero, Int.cast_ofNat_Int] at h1 h2 ⊢
  omega

/-- what is read without the sign ahead -/
def bare (x : List UInt8) : List UInt8 := Lib.trimPrefix x [45]
/-- the number that digits tell, the sign ahead -/
def numOf (x : List UInt8) : Int := if bare x = x then valTo (bare x) (bare x).length else -(valTo (bare x) (bare x).length)

theorem bare_minus (l : List UInt8) : bare (45 :: l) = l := by
  unfold bare Lib.trimPrefix Lib.hasPrefix
  simp [List.isPrefixOf]
theorem bare_other {b : UInt8} (l : List UInt8) (h : b ≠ 45) : bare (b :: l) = b :: l := by
  unfold bare Lib.trimPrefix Lib.hasPrefix
  simp [List.isPrefixOf, Ne.symm h]
theorem bare_nil : bare [] = [] := by decide
theorem bare_len (x : List UInt8) : (bare x).length ≤ x.length := by
  unfold bare Lib.trimPrefix
  split
  · simp
  · exact Nat.le_refl _

theorem num_of_itoa {m : Int} (h0 : -1073741824 ≤ m) (h1 : m ≤ 1073741824) : bare (Lib.itoa m) ≠ [] ∧ (bare (Lib.itoa m)).length ≤ 10 ∧ (∀ c ∈ bare (Lib.itoa m), 48 ≤ c.toNat ∧ c.toNat ≤ 57) ∧ numOf (Lib.itoa m) = m := by
  by_cases hm : m < 0
  · have e : Lib.itoa m = 45 :: Lib.decDigits m.natAbs := by unfold Lib.itoa; rw [if_pos hm]
    have hne : bare (45 :: Lib.decDigits m.natAbs) ≠ 45 :: Lib.decDigits m.natAbs := by
      rw [bare_minus]
      intro h
      have := congrArg List.length h
      simp at this
    rw [e]
    unfold numOf
    rw [if_neg hne, bare_minus, val_digits]
    refine ⟨digits_ne _, ?_, digits_mem _ _ (Nat.lt_succ_self _), by omega⟩
    rw [Lib.decDigits_length]
    exact nDigits_le 10 m.natAbs (by omega) (by omega)
  · have e : Lib.itoa m = Lib.decDigits m.toNat := by unfold Lib.itoa; rw [if_neg hm]
    have hd := digits_mem _ _ (Nat.lt_succ_self m.toNat)
    have hb : bare (Lib.decDigits m.toNat) = Lib.decDigits m.toNat := by
      cases hc : Lib.decDigits m.toNat with
      | nil => exact bare_nil
      | cons b r =>
        rw [hc] at hd
        have := hd b List.mem_cons_self
        exact bare_other r fun h => by subst h; simp at this
    rw [e]
    unfold numOf
    rw [if_pos hb, hb, val_digits]
    refine ⟨digits_ne _, ?_, hd, by omega⟩
    rw [Lib.decDigits_length]
    exact nDigits_le 10 m.toNat (by omega) (by omega)

/-! ### decimal -/
theorem itoa_neg {n : Int} (h : n < 0) : Lib.itoa n = 45 :: Lib.itoa (-n) := by
  have e : (-n).toNat = n.natAbs := by omega
  unfold Lib.itoa
  rw [if_pos h, if_neg (by omega), e]
theorem itoa_big {n : Int} (h : 9 < n) : Lib.itoa n = Lib.itoa (n.tdiv 10) ++ Lib.itoa (n.tmod 10) := by
  have h1 : n.tdiv 10 = ((n.toNat / 10 : Nat) : Int) := by rw [Int.tdiv_eq_ediv_of_nonneg (by omega)]; omega
  have h2 : n.tmod 10 = ((n.toNat % 10 : Nat) : Int) := by rw [Int.tmod_eq_emod_of_nonneg (by omega)]; omega
  rw [h1, h2]
  unfold Lib.itoa
  rw [if_neg (by omega), if_neg (by omega), if_neg (by omega), Int.toNat_natCast, Int.toNat_natCast]
  conv => lhs; rw [Lib.decDigits]
  conv => rhs; rw [Lib.decDigits.eq_def (n.toNat % 10)]
  rw [dif_neg (by omega), dif_pos (by omega)]
theorem itoa_small {n : Int} (h0 : 0 ≤ n) (h : n ≤ 9) : Lib.itoa n = [UInt8.ofNat (48 + n.toNat)] := by
  unfold Lib.itoa
  rw [if_neg (by omega), Lib.decDigits, dif_pos (by omega)]

end Go.Proofs.YtcmdoeledmkfmabDoor
