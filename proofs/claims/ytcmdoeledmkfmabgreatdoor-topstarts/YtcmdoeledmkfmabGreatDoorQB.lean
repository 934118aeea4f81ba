/- Texts of this claim, in one: RefShip RefBase RefPort RefSame. -/
import Derived.Deep.DeepCutAuto
import Derived.ChangeKeysEq
import Derived.Test.YtcmdoeledmkfmabGreatDoorQ3
import Derived.Test.YtcmdoeledmkfmabGreatDoorQA
set_option linter.unusedSimpArgs false
set_option linter.unusedVariables false
namespace Go.Proofs.YtcmdoeledmkfmabGreatDoor
open Go.RowKit
end Go.Proofs.YtcmdoeledmkfmabGreatDoor
set_option linter.unusedSimpArgs false
set_option linter.unusedVariables false
namespace Go.Proofs.YtcmdoeledmkfmabGreatDoor
open Go.RowKit
end Go.Proofs.YtcmdoeledmkfmabGreatDoor
set_option linter.unusedSimpArgs false
set_option linter.unusedVariables false
namespace Go.Proofs.YtcmdoeledmkfmabGreatDoor
open Go.RowKit
def ShipsTo (p : Pt) (k : Nat) : Prop :=
  (0 ≤ p.now ∧ p.now ≤ 299) ∧ (0 ≤ p.shut ∧ p.shut ≤ 16) ∧ p.ships.length < 15 ∧ (0 ≤ p.next ∧ p.next ≤ 1048576) ∧
  (∀ i s, i < k → p.ships[i]? = some s → IsShip s p.now ∧ s.qu < p.next) ∧ ∀ (i j : Nat) (r s : Ship), i < j → j < k → p.ships[i]? = some r → p.ships[j]? = some s → r.qu ≠ s.qu
theorem ShipsTo.succ {p : Pt} {k : Nat} {s : Ship} (hs : p.ships[k]? = some s) : ShipsTo p (k + 1) ↔ ShipsTo p k ∧ (IsShip s p.now ∧ s.qu < p.next) ∧ ∀ (i : Nat) (r : Ship), i < k → p.ships[i]? = some r → r.qu ≠ s.qu := by
  unfold ShipsTo
  constructor
  · rintro ⟨a, b, c, d, e, f⟩
    exact ⟨⟨a, b, c, d, fun i s hi => e i s (by omega), fun i j r s hij hj => f i j r s hij (by omega)⟩, e k s (by omega) hs, fun i r hi hr => f i k r s hi (by omega) hr hs⟩
  · rintro ⟨⟨a, b, c, d, e, f⟩, g, h⟩
    refine ⟨a, b, c, d, fun i s' hi hs' => ?_, fun i j r s' hij hj hr hs' => ?_⟩
    · by_cases x : i = k
      · subst x; rw [hs] at hs'; injection hs' with hs'; subst hs'; exact g
      · exact e i s' (by omega) hs'
    · by_cases x : j = k
      · subst x; rw [hs] at hs'; injection hs' with hs'; subst hs'; exact h i r hij hr
      · exact f i j r s' hij (by omega) hr hs'
end Go.Proofs.YtcmdoeledmkfmabGreatDoor
set_option linter.unusedSimpArgs false
set_option linter.unusedVariables false
namespace Go.Proofs.YtcmdoeledmkfmabGreatDoor
open Go.RowKit
end Go.Proofs.YtcmdoeledmkfmabGreatDoor
