/- Texts of this claim, in one: LDoor. -/
import Derived.LaidLaws
import Derived.Test.YtcmdoeledmkfmabGreatDoorQM
set_option linter.unusedSimpArgs false
set_option linter.unusedVariables false
namespace Go.Proofs.YtcmdoeledmkfmabGreatDoor
def litV : DataW Unit → Value
  | .lit (.int k n) => .int k n
  | _ => undef
def firstV : Array Value := match Go.Pinned.utf8First with
  | .agg l => (l.map litV).toArray
  | _ => #[]
theorem door_met (os : Os) (args : Array Value) : laidMetH Tryz.prog Rows.deskNilRow.laid (({ World.doorLaid Tryz.prog 82 os with heap := (World.doorLaid Tryz.prog 82 os).heap.modify 6 fun | .cells _ t f => .cells firstV t f | o => o } : World).forCall (fun _ _ => 0) ⟨#[], args, []⟩).memory :=
  laidMetH_of_parts3 (fuel := 8) (laidMet_of_run' 8 (by kernel_rfl) (by kernel_rfl)) (by kernel_rfl) (by kernel_rfl)
theorem door_shaped (os : Os) (args : Array Value) : (({ World.doorLaid Tryz.prog 82 os with heap := (World.doorLaid Tryz.prog 82 os).heap.modify 6 fun | .cells _ t f => .cells firstV t f | o => o } : World).forCall (fun _ _ => 0) ⟨#[], args, []⟩).Shaped Tryz.prog := World.shaped_of_RefB (by kernel_rfl) (by kernel_rfl)
theorem lw_seat {W : World} (h : laidMet Tryz.prog Rows.deskNilRow.laid W) (hsh : W.ShapedOpen Tryz.prog) : LW W :=
  lw_of h hsh (List.mem_of_getElem? (i := 6) rfl) (List.mem_of_getElem? (i := 7) rfl) (List.mem_of_getElem? (i := 2) rfl) (List.mem_of_getElem? (i := 5) rfl) (List.mem_of_getElem? (i := 4) rfl)
end Go.Proofs.YtcmdoeledmkfmabGreatDoor
