/- Texts of this claim, in one: DPlaysD. -/
import Derived.LaidLaws
import Derived.Lay
import Derived.Test.YtcmdoeledmkfmacGreatDoorSM
import Derived.Test.YtcmdoeledmkfmacGreatDoorSJ
set_option linter.unusedSimpArgs false
set_option linter.unusedVariables false
namespace Go.Proofs.YtcmdoeledmkfmacGreatDoor
theorem jli (os:Os) (args:Array Value):laidMetH Tryz.prog Rows.deskPlaysRow.laid ((World.laidAll Tryz.prog os Rows.deskPlaysRow.laid).forCall (fun _ _=>0) ⟨#[],args,[]⟩).memory:=by
  rw [MakeChecks.laidMetH_plain _ _ _ (by kernel_rfl)]
  exact laidMet_laidAll _ (by kernel_rfl) (by kernel_rfl)
theorem jib (os:Os) (args:Array Value):((World.laidAll Tryz.prog os Rows.deskPlaysRow.laid).forCall (fun _ _=>0) ⟨#[],args,[]⟩).Shaped Tryz.prog:=World.shaped_of_ZipB (by kernel_rfl) (by kernel_rfl)
theorem jju {W:World} (h:laidMet Tryz.prog Rows.deskPlaysRow.laid W) (hsh:W.ShapedOpen Tryz.prog):LW W∧AS W :=
  ⟨lw_of h hsh (List.mem_of_getElem? (i:=8) rfl) (List.mem_of_getElem? (i:=9) rfl) (List.mem_of_getElem? (i:=2) rfl) (List.mem_of_getElem? (i:=5) rfl) (List.mem_of_getElem? (i:=4) rfl),
   jpa (zs:=Lib.asciiSpaceTab) (k:=.u8) h (List.mem_of_getElem? (i:=7) (by kernel_rfl)) gAS (by kernel_rfl) Tryz.underlying137 Tryz.underlying5 (by kernel_rfl) (by kernel_rfl)⟩
end Go.Proofs.YtcmdoeledmkfmacGreatDoor
