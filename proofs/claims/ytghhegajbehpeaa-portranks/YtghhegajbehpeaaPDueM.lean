/- Who is due, ship by ship, as plain data. -/
import Derived.Test.YtghhegajbehpeaaPLaterM
set_option linter.unusedSimpArgs false
set_option linter.unusedVariables false
namespace Go.Proofs.Ytghhegajbehpeaa

/-- the ships, those that are due among the first j having come in -/
def dueTo (p : Pt) (pl : List Int) (j : Nat) : List Ship := (List.range p.ships.length).map fun i => if (decide (i < j) && dueB p pl i) = true then inS p.now (shp p i) else shp p i
/-- who of the first j are due -/
def whoTo (p : Pt) (pl : List Int) (j : Nat) : List Nat := (List.range j).filter (dueB p pl)

theorem dueTo_len (p : Pt) (pl : List Int) (j : Nat) : (dueTo p pl j).length = p.ships.length := by unfold dueTo; simp

theorem dueTo_zero (p : Pt) (pl : List Int) : dueTo p pl 0 = p.ships := by
  unfold dueTo
  conv => rhs; rw [ships_range p]
  refine List.map_congr_left fun i _ => ?_
  simp

theorem dueTo_at (p : Pt) (pl : List Int) (j : Nat) {i : Nat} (h : i < p.ships.length) : (dueTo p pl j)[i]? = some (if (decide (i < j) && dueB p pl i) = true then inS p.now (shp p i) else shp p i) := by
  unfold dueTo
  rw [List.getElem?_map, List.getElem?_range h]
  rfl

theorem dueTo_get {p : Pt} {pl : List Int} {j : Nat} (h : j < p.ships.length) : (dueTo p pl j)[j]? = some (shp p j) := by
  rw [dueTo_at p pl j h]
  simp

theorem dueTo_yes {p : Pt} {pl : List Int} {j : Nat} (h : j < p.ships.length) (hd : dueB p pl j = true) : dueTo p pl (j + 1) = (dueTo p pl j).set j (inS p.now (shp p j)) := by
  refine List.ext_getElem? fun i => ?_
  by_cases hi : i < p.ships.length
  · rw [dueTo_at p pl (j + 1) hi]
    by_cases e : i = j
    · subst e
      rw [List.getElem?_set_self (by rw [dueTo_len]; exact hi)]
      simp [hd]
    · rw [List.getElem?_set_ne (fun h => e h.symm), dueTo_at p pl j hi]
      have : decide (i < j + 1) = decide (i < j) := decide_eq_decide.2 (by omega)
      rw [this]
  · rw [List.getElem?_eq_none (by rw [dueTo_len]; omega), List.getElem?_eq_none (by rw [List.length_set, dueTo_len]; omega)]

theorem dueTo_no {p : Pt} {pl : List Int} {j : Nat} (hd : dueB p pl j = false) : dueTo p pl (j + 1) = dueTo p pl j := by
  unfold dueTo
  refine List.map_congr_left fun i _ => ?_
  by_cases e : i = j
  · subst e; simp [hd]
  · have : decide (i < j + 1) = decide (i < j) := decide_eq_decide.2 (by omega)
    rw [this]

theorem due_lt {p : Pt} {pl : List Int} {i : Nat} (h : dueB p pl i = true) : i < p.ships.length ∧ i < pl.length := by
  have h1 := dueB_iff.1 h
  refine ⟨?_, (List.getElem?_eq_some_iff.1 h1.1).1⟩
  rcases Nat.lt_or_ge i p.ships.length with h2 | h2
  · exact h2
  · have := h1.2; rw [shp_out h2] at this; exact absurd this (by decide)

theorem dueTo_end {p : Pt} {pl : List Int} {j : Nat} (hj : p.ships.length ≤ j ∨ pl.length ≤ j) : dueTo p pl j = (dueP p pl).ships := by
  unfold dueTo dueP
  refine List.map_congr_left fun i _ => ?_
  cases hd : dueB p pl i
  · simp
  · have := due_lt hd
    have : decide (i < j) = true := decide_eq_true (by omega)
    simp [this]

theorem whoTo_yes {p : Pt} {pl : List Int} {j : Nat} (hd : dueB p pl j = true) : whoTo p pl (j + 1) = whoTo p pl j ++ [j] := by
  unfold whoTo
  rw [List.range_succ, List.filter_append, List.filter_cons_of_pos hd]
  rfl
theorem whoTo_no {p : Pt} {pl : List Int} {j : Nat} (hd : dueB p pl j = false) : whoTo p pl (j + 1) = whoTo p pl j := by
  unfold whoTo
  rw [List.range_succ, List.filter_append, List.filter_cons_of_neg (by simp [hd])]
  simp

theorem whoTo_more {p : Pt} {pl : List Int} {j : Nat} (hj : p.ships.length ≤ j ∨ pl.length ≤ j) : ∀ d, whoTo p pl (j + d) = whoTo p pl j := by
  intro d
  induction d with
  | zero => rfl
  | succ d ih =>
    rw [← ih, ← Nat.add_assoc]
    refine whoTo_no ?_
    cases hd : dueB p pl (j + d)
    · rfl
    · have := due_lt hd; omega

theorem whoTo_end {p : Pt} {pl : List Int} {j : Nat} (hj : p.ships.length ≤ j ∨ pl.length ≤ j) (hle : j ≤ p.ships.length) : whoTo p pl j = dues p pl := by
  have := whoTo_more hj (p.ships.length - j)
  rw [show j + (p.ships.length - j) = p.ships.length by omega] at this
  rw [← this]
  rfl

theorem whoTo_len (p : Pt) (pl : List Int) (j : Nat) : (whoTo p pl j).length ≤ j := by
  unfold whoTo
  exact Nat.le_trans (List.length_filter_le _ _) (by simp)

/-- the ships, those of the first j that have lain long enough having gone -/
def lateTo (p : Pt) (j : Nat) : List Ship := (p.ships.take j).map (laterS p.now) ++ p.ships.drop j

theorem lateTo_len (p : Pt) (j : Nat) : (lateTo p j).length = p.ships.length := by unfold lateTo; simp; omega
theorem lateTo_zero (p : Pt) : lateTo p 0 = p.ships := by unfold lateTo; simp
theorem lateTo_end (p : Pt) : lateTo p p.ships.length = (laterP p).ships := by unfold lateTo laterP; simp
theorem lateTo_get {p : Pt} {j : Nat} {s : Ship} (h : p.ships[j]? = some s) : (lateTo p j)[j]? = some s := by
  have hj := (List.getElem?_eq_some_iff.1 h).1
  unfold lateTo
  rw [List.getElem?_append_right (by simp; omega)]
  simp only [List.length_map, List.length_take, List.getElem?_drop]
  rw [show j + (j - min j p.ships.length) = j by omega]
  exact h
theorem lateTo_succ {p : Pt} {j : Nat} {s : Ship} (h : p.ships[j]? = some s) : lateTo p (j + 1) = (lateTo p j).set j (laterS p.now s) := by
  have hj := (List.getElem?_eq_some_iff.1 h).1
  unfold lateTo
  rw [List.set_append_right _ _ (by simp; omega), List.take_add_one, h]
  simp only [Option.toList_some, List.map_append, List.map_cons, List.map_nil, List.append_assoc, List.cons_append, List.nil_append, List.length_map, List.length_take]
  congr 1
  rw [show j - min j p.ships.length = 0 by omega, List.drop_eq_getElem_cons hj]
  rfl
theorem lateTo_no {p : Pt} {j : Nat} {s : Ship} (h : p.ships[j]? = some s) (hs : laterS p.now s = s) : lateTo p (j + 1) = lateTo p j := by
  rw [lateTo_succ h, hs]
  exact List.ext_getElem? fun i => by
    by_cases e : i = j
    · subst e
      rw [List.getElem?_set_self (by rw [lateTo_len]; exact (List.getElem?_eq_some_iff.1 h).1), lateTo_get h]
    · rw [List.getElem?_set_ne (fun h => e h.symm)]

end Go.Proofs.Ytghhegajbehpeaa
