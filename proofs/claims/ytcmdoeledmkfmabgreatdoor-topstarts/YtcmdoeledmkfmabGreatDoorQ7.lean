/- Texts of this claim, in one: PPorts Open POpen POpen2. -/
import Derived.ProofKit
import Derived.Deep.SlicePairs
import Derived.SizedLaws
import Derived.OpenShut
import Derived.Test.YtcmdoeledmkfmabGreatDoorQ6
import Derived.Test.YtcmdoeledmkfmabGreatDoorQ5
import Derived.Test.YtcmdoeledmkfmabGreatDoorQ2
import Derived.Test.YtcmdoeledmkfmabGreatDoorQ9
import Derived.Test.YtcmdoeledmkfmabGreatDoorQM
set_option linter.unusedSimpArgs false
set_option linter.unusedVariables false
namespace Go.Proofs.YtcmdoeledmkfmabGreatDoor
open Go.RowKit
set_option maxHeartbeats 1000000 in
set_option maxRecDepth 100000 in
theorem newPort_any (w : World) : Calls Tryz.prog 54 #[] w fun e w' => e = .returned (.agg (portCells zeroPt (.slice none 0 0)).toArray) ∧ Below w.heap.size w w' := by
  go_enter Tryz.func54, Tryz.ntmps54
  go_wp2_with (first | (refine wpList_alloc_box rfl rfl 0 rfl ?_; intro w1 hw1 hs1) | (refine wpList_store_box rfl _ _ rfl w.heap.size zeroPt zeroPt (.slice none 0 0) (.slice none 0 0) rfl rfl hw1.out.1 rfl rfl ?_; intro w9 hw9 hs9))
  refine bodyPost_ret (v := .agg (portCells zeroPt (.slice none 0 0)).toArray) (results_box Tryz.results54 _ _ w.heap.size zeroPt (.slice none 0 0) rfl hw9.out.1) rfl ?_
  exact ⟨rfl, hw1.out.2.trans (hw9.out.2.2 _ (Nat.le_refl _))⟩
theorem keepsAt_no (t : Int) : keepsAt [noKp, noKp, noKp, noKp] t = 0 := by
  have h : keptAt noKp t = 0 := by unfold keptAt noKp; simp
  unfold keepsAt
  simp [h]
theorem baseAt_zero (t : Int) : baseAt zeroPt t = 16 := by
  unfold baseAt
  have h1 : shipsAt zeroPt.ships t = 0 := rfl
  have h2 : keepsAt zeroPt.kept t = 0 := keepsAt_no t
  rw [h1, h2]
  show 16 - 0 - (if (0 : Int) ≤ t then 0 + 0 else 0) = 16
  split <;> rfl
theorem isPort_zero : IsPort zeroPt := by
  refine ⟨⟨by decide, by decide, by decide, by decide, (fun s hs => by cases hs), (fun i j r s _ h => by cases h), rfl, fun k hk => ?_⟩, fun t _ _ => by rw [baseAt_zero]; decide⟩
  have : k = noKp := by
    have h : k ∈ [noKp, noKp, noKp, noKp] := hk
    simpa using h
  rw [this]
  exact Or.inl ⟨rfl, rfl, rfl⟩
end Go.Proofs.YtcmdoeledmkfmabGreatDoor
set_option linter.unusedSimpArgs false
set_option linter.unusedVariables false
namespace Go.Proofs.YtcmdoeledmkfmabGreatDoor
open Go.ChangeShapes Go.WideShapes Go.ChangeAt Go.RowKit Go.Deep
theorem own : ownKnob Tryz.prog.godebug = none := by kernel_rfl
end Go.Proofs.YtcmdoeledmkfmabGreatDoor
set_option linter.unusedSimpArgs false
set_option linter.unusedVariables false
set_option maxRecDepth 100000
namespace Go.Proofs.YtcmdoeledmkfmabGreatDoor
open Go.ChangeShapes Go.WideShapes Go.ChangeAt Go.RowKit Go.Deep
instance : Inhabited Ship := ⟨⟨0, 0, 0, 0, 0, 0⟩⟩
def WfS (s : Ship) : Prop := Wf s.st ∧ Wf s.wd ∧ Wf s.lg ∧ Wf s.cl ∧ Wf s.si ∧ Wf s.qu
def WfK (k : Kp) : Prop := Wf k.wd ∧ Wf k.fr ∧ Wf k.to
section
variable {H : Type} {enc : TypeId × Value → H} {W : World}
def WfP (p : Pt) : Prop := Wf p.now ∧ Wf p.shut ∧ Wf p.next ∧ (∀ s ∈ p.ships, WfS s) ∧ ∀ k ∈ p.kept, WfK k
theorem WfP.q {p : Pt} (h : WfP p) : WfQ p := fun s hs => (h.2.2.2.1 s hs).2.2.2.2.2
end
end Go.Proofs.YtcmdoeledmkfmabGreatDoor
set_option linter.unusedSimpArgs false
set_option linter.unusedVariables false
set_option maxRecDepth 100000
namespace Go.Proofs.YtcmdoeledmkfmabGreatDoor
open Go.ChangeShapes Go.WideShapes Go.ChangeAt Go.RowKit Go.Deep
section
variable {H : Type} {enc : TypeId × Value → H} {W : World}
end
end Go.Proofs.YtcmdoeledmkfmabGreatDoor
