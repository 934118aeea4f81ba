/- Texts of this claim, in one: RDNew. -/
import Derived.Test.YtcmdoeledmkfmacGreatDoorYRDTell
set_option linter.unusedSimpArgs false
set_option linter.unusedVariables false
namespace Go.Proofs.YtcmdoeledmkfmacGreatDoor
open Go.RowKit
theorem jrz (x y:Int) (w:World):(binOp .neq 29 (.agg #[.int .i64 x,.int .i64 y]) (.agg #[.int .i64 x,.int .i64 y])).run Tryz.prog w=.ok (.bool false) w:=by
 have u3:=Tryz.underlying3
 have a3:=Tryz.isAgg3
 have z3:=Tryz.sizeOf3
 have u4:=Tryz.underlying25
 have a4:=Tryz.isAgg25
 have z4:=Tryz.sizeOf25
 have hS:Tryz.prog.underlying 29=some (.struct (Tryz.prog.fieldsOf 29)):=by kernel_rfl
 have hp:Tryz.prog.stoodInHeld 29=false:=by kernel_rfl
 rw [run_neq_struct,show(10000:Nat)=9999+1 from rfl,run_equalIn_agg w 9999 29 _ _ hS hp]
 simp only [Program.fieldsOf,Tryz.underlying29]
 go_simp
theorem rnew (W:World) (hA:AS W):RS (W.alloc (.cells (jcj jaf (.slice none 0 0) (.pointer none) 0).toArray 54)) (W.heap.size+1) W.heap.size newDk :=
 ⟨hA.later ((Below.refl _ W).alloc (Nat.le_refl _) _),hA.lt,⟨.slice none 0 0,.pointer none,⟨rfl,heap_alloc_new W _⟩,⟨none,0,rfl,Nat.le_refl _,Or.inl rfl⟩,FarB.nil _ _ _,rfl,by omega,by simp⟩,jg0⟩
end Go.Proofs.YtcmdoeledmkfmacGreatDoor
