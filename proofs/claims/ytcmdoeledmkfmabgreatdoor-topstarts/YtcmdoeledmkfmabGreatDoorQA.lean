/- Texts of this claim, in one: Same FreeOf RefFirst RefLess RefSteps RefInts. -/
import Derived.BigQuiet
import Derived.Laws.StructEq
import Derived.Test.YtcmdoeledmkfmabGreatDoorQ2
import Derived.Test.YtcmdoeledmkfmabGreatDoorQ3
import Derived.Test.YtcmdoeledmkfmabGreatDoorQ1
set_option linter.unusedSimpArgs false
set_option linter.unusedVariables false
namespace Go.Proofs.YtcmdoeledmkfmabGreatDoor
open Go.RowKit
end Go.Proofs.YtcmdoeledmkfmabGreatDoor
set_option linter.unusedSimpArgs false
set_option linter.unusedVariables false
namespace Go.Proofs.YtcmdoeledmkfmabGreatDoor
open Go.RowKit
def Says (f : List Int) (l : List (Int × Int)) : Prop := f.length = 300 ∧ ∀ t : Nat, t < 300 → f.getD t 0 = val l t
end Go.Proofs.YtcmdoeledmkfmabGreatDoor
set_option linter.unusedSimpArgs false
set_option linter.unusedVariables false
namespace Go.Proofs.YtcmdoeledmkfmabGreatDoor
open Go.RowKit
end Go.Proofs.YtcmdoeledmkfmabGreatDoor
set_option linter.unusedSimpArgs false
set_option linter.unusedVariables false
namespace Go.Proofs.YtcmdoeledmkfmabGreatDoor
open Go.RowKit
def InF (f : List Int) : Prop := f.length = 300 ∧ ∀ j : Nat, j < 300 → 0 ≤ f.getD j 0 ∧ f.getD j 0 ≤ 16
structure SInv (f : List Int) (t : Nat) (r : List (Int × Int)) : Prop where
  nil : t = 0 → r = []
  pos : 0 < t → 0 < r.length
  first : 0 < t → (sAt r 0).1 = 0
  lt : ∀ j, j < r.length → (sAt r j).1 < t
  rng : ∀ j, j < r.length → 0 ≤ (sAt r j).2 ∧ (sAt r j).2 ≤ 16
  up : ∀ j, j + 1 < r.length → (sAt r j).1 < (sAt r (j + 1)).1
  other : ∀ j, j + 1 < r.length → (sAt r (j + 1)).2 ≠ (sAt r j).2
  last : 0 < t → (sAt r (r.length - 1)).2 = f.getD (t - 1) 0
  says : ∀ s : Nat, s < t → val r s = f.getD s 0
theorem SInv.start (f : List Int) : SInv f 0 [] :=
  ⟨fun _ => rfl, fun h => by omega, fun h => by omega, fun j h => by simp at h, fun j h => by simp at h, fun j h => by simp at h, fun j h => by simp at h, fun h => by omega, fun s h => by omega⟩
theorem sAt_snoc (r : List (Int × Int)) (x : Int × Int) (j : Nat) : sAt (r ++ [x]) j = if j < r.length then sAt r j else if j = r.length then x else (0, 0) := by
  unfold sAt
  simp only [List.getD_eq_getElem?_getD, List.getElem?_append]
  by_cases h1 : j < r.length
  · rw [if_pos h1, if_pos h1]
  · rw [if_neg h1, if_neg h1]
    by_cases h2 : j = r.length
    · subst h2; simp
    · rw [if_neg h2]
      obtain ⟨k, hk⟩ : ∃ k, j - r.length = k + 1 := ⟨j - r.length - 1, by omega⟩
      rw [hk]; rfl
theorem SInv.snoc {f : List Int} {t : Nat} {r : List (Int × Int)} (I : SInv f t r) (hf : InF f) (ht : t < 300) (h : t = 0 ∨ f.getD t 0 ≠ f.getD (t - 1) 0) : SInv f (t + 1) (r ++ [((t : Int), f.getD t 0)]) := by
  have hl : (r ++ [((t : Int), f.getD t 0)]).length = r.length + 1 := by simp
  have lt : ∀ j, j < r.length → sAt (r ++ [((t : Int), f.getD t 0)]) j = sAt r j := fun j hj => by rw [sAt_snoc, if_pos hj]
  have eq : sAt (r ++ [((t : Int), f.getD t 0)]) r.length = ((t : Int), f.getD t 0) := by rw [sAt_snoc, if_neg (by omega), if_pos rfl]
  refine ⟨fun h => by omega, fun _ => by omega, fun _ => ?_, fun j hj => ?_, fun j hj => ?_, fun j hj => ?_, fun j hj => ?_, fun _ => ?_, fun s hs => ?_⟩
  · by_cases h0 : 0 < t
    · rw [lt 0 (I.pos h0)]; exact I.first h0
    · have e : t = 0 := by omega
      have hr := I.nil e
      subst hr
      subst e
      rfl
  · rw [hl] at hj
    by_cases e : j < r.length
    · rw [lt j e]; have := I.lt j e; omega
    · rw [show j = r.length by omega, eq]; show (t : Int) < ((t + 1 : Nat) : Int); omega
  · rw [hl] at hj
    by_cases e : j < r.length
    · rw [lt j e]; exact I.rng j e
    · rw [show j = r.length by omega, eq]; exact hf.2 t ht
  · rw [hl] at hj
    by_cases e : j + 1 < r.length
    · rw [lt j (by omega), lt (j + 1) e]; exact I.up j e
    · rw [show j + 1 = r.length by omega, eq, lt j (by omega)]; exact I.lt j (by omega)
  · rw [hl] at hj
    by_cases e : j + 1 < r.length
    · rw [lt j (by omega), lt (j + 1) e]; exact I.other j e
    · have ej : j + 1 = r.length := by omega
      have t0 : 0 < t := by
        apply Nat.pos_of_ne_zero
        intro h0
        have := I.nil h0
        subst this
        simp at ej
      rw [ej, eq, lt j (by omega)]
      have := I.last t0
      rw [show r.length - 1 = j by omega] at this
      rw [this]
      rcases h with h | h
      · omega
      · exact h
  · rw [hl, Nat.add_sub_cancel, eq]; rfl
  · unfold val
    rw [valFrom_append]
    show (if (t : Int) ≤ (s : Int) then f.getD t 0 else val r s) = f.getD s 0
    by_cases e : t ≤ s
    · have : s = t := by omega
      subst this
      rw [if_pos (Int.le_refl _)]
    · rw [if_neg (by omega)]; exact I.says s (by omega)
theorem SInv.rise {f : List Int} {t : Nat} {r : List (Int × Int)} (I : SInv f t r) : Rise r := rise_of I.up
theorem SInv.skip {f : List Int} {t : Nat} {r : List (Int × Int)} (I : SInv f t r) (h0 : 0 < t) (h : f.getD t 0 = f.getD (t - 1) 0) : SInv f (t + 1) r := by
  have hp := I.pos h0
  refine ⟨fun h => by omega, fun _ => hp, fun _ => I.first h0, fun j hj => by have := I.lt j hj; omega, I.rng, I.up, I.other, fun _ => by rw [Nat.add_sub_cancel, h]; exact I.last h0, fun s hs => ?_⟩
  by_cases e : s < t
  · exact I.says s e
  · have es : s = t := by omega
    subst es
    rw [val_at I.rise (j := r.length - 1) (by omega) (by have := I.lt (r.length - 1) (by omega); omega) (fun hh => by omega), I.last h0, h]
theorem SInv.done {f : List Int} {r : List (Int × Int)} (I : SInv f 300 r) (hf : InF f) : Good r ∧ Says f r :=
  ⟨⟨I.pos (by omega), I.first (by omega), fun j hj => I.lt j hj, fun j hj => (I.rng j hj).1, fun j hj => (I.rng j hj).2, I.up, I.other⟩, hf.1, fun t ht => (I.says t ht).symm⟩
end Go.Proofs.YtcmdoeledmkfmabGreatDoor
set_option linter.unusedSimpArgs false
set_option linter.unusedVariables false
namespace Go.Proofs.YtcmdoeledmkfmabGreatDoor
open Go.RowKit
end Go.Proofs.YtcmdoeledmkfmabGreatDoor
set_option linter.unusedSimpArgs false
set_option linter.unusedVariables false
namespace Go.Proofs.YtcmdoeledmkfmabGreatDoor
open Go.RowKit
end Go.Proofs.YtcmdoeledmkfmabGreatDoor
