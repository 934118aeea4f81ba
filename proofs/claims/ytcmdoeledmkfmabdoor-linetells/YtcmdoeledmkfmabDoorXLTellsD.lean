/- Texts of this claim, in one: LTellsD. -/
import Derived.LaidLaws
import Derived.Lay
import Derived.Test.YtcmdoeledmkfmabDoorQM
import Derived.Test.YtcmdoeledmkfmabDoorXRWords
/- A start in which the variables that the row of LineTells lists hold what it lists; what it lists is what the walks ask. -/
set_option linter.unusedSimpArgs false
set_option linter.unusedVariables false
namespace Go.Proofs.YtcmdoeledmkfmabDoor

theorem lineTells_met (os : Os) (args : Array Value) : laidMetH Tryd.prog Rows.lineTellsRow.laid ((World.laidAll Tryd.prog os Rows.lineTellsRow.laid).forCall (fun _ _ => 0) ⟨#[], args, []⟩).memory := by
  rw [MakeChecks.laidMetH_plain _ _ _ (by kernel_rfl)]
  exact laidMet_laidAll _ (by kernel_rfl) (by kernel_rfl)
theorem lineTells_shaped (os : Os) (args : Array Value) : ((World.laidAll Tryd.prog os Rows.lineTellsRow.laid).forCall (fun _ _ => 0) ⟨#[], args, []⟩).Shaped Tryd.prog := World.shaped_of_ZipB (by kernel_rfl) (by kernel_rfl)

theorem lineTells_seat {W : World} (h : laidMet Tryd.prog Rows.lineTellsRow.laid W) (hsh : W.ShapedOpen Tryd.prog) : LW W ∧ AS W :=
  ⟨lw_of h hsh (List.mem_of_getElem? (i := 8) rfl) (List.mem_of_getElem? (i := 9) rfl) (List.mem_of_getElem? (i := 2) rfl) (List.mem_of_getElem? (i := 5) rfl) (List.mem_of_getElem? (i := 4) rfl),
   tab_of (zs := Lib.asciiSpaceTab) (k := .u8) h (List.mem_of_getElem? (i := 7) (by kernel_rfl)) gAS (by kernel_rfl) Tryd.underlying58 Tryd.underlying5 (by kernel_rfl) (by kernel_rfl)⟩

end Go.Proofs.YtcmdoeledmkfmabDoor
