/- Texts of this claim, in one: TBase. -/
import Derived.Test.YtcmdoeledmkfmacGreatDoorYTQuiet
set_option linter.unusedSimpArgs false
set_option linter.unusedVariables false
namespace Go.Proofs.YtcmdoeledmkfmacGreatDoor
open Go.RowKit
theorem PD.later {l:List (List UInt8)} {w w' w'':World} {d:Nat} {D:Dk} (h:PD l w w' d D) (hb:Below w'.heap.size w' w''):PD l w w'' d D:=⟨h.play,h.ds.later hb,h.new,h.below.trans (hb.mono h.below.size)⟩
theorem PD.lt {l:List (List UInt8)} {w w':World} {d:Nat} {D:Dk} (h:PD l w w' d D):d < w'.heap.size:=h.ds.lt
theorem Rests.ne {p:Pt} (h:Rests p) {pl:List Int} (hp:jbd p pl) (i:Nat):pl[i]?≠some p.now:=NoDue.ne h.1 hp (h.none hp) i
end Go.Proofs.YtcmdoeledmkfmacGreatDoor
