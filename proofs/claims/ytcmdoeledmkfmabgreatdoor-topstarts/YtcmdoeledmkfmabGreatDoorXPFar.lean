/- Texts of this claim, in one: PFar. -/
import Derived.Test.YtcmdoeledmkfmabGreatDoorQ9
set_option linter.unusedSimpArgs false
set_option linter.unusedVariables false
namespace Go.Proofs.YtcmdoeledmkfmabGreatDoor
open Go.RowKit
def FarB (B : Nat) (v : Value) : Prop := ∀ a n c, v = .slice (some a) n c → B ≤ a.block
theorem FarB.nil (B n c : Nat) : FarB B (.slice none n c) := fun a n c h => by cases h
theorem FarB.mono {B B' : Nat} {v : Value} (h : FarB B v) (hb : B' ≤ B) : FarB B' v := fun a n c e => Nat.le_trans hb (h a n c e)
end Go.Proofs.YtcmdoeledmkfmabGreatDoor
