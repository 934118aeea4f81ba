import Derived.Test.YtcmdoeledmkfmacGreatDoorQ3
set_option linter.unusedSimpArgs false
set_option linter.unusedVariables false
namespace Go.Proofs.YtcmdoeledmkfmacGreatDoor
open Go.RowKit
theorem step_alloc_box {w : World} {ops : Array Oper} {o : Oper} {a : Act} {K : Act → World → Prop} {Q : Exit → Act → World → Prop} {E : Prop} (hgd : o.guard = none) (ho : o.op = .alloc 41) (d : Nat) (hd : o.dst = some d)
    (h : ∀ w', Hid (PBox w' w.heap.size zeroPt (.slice none 0 0) ∧ Below w.heap.size w w') → K (a.put (some d) (.pointer (some ⟨w.heap.size, 0, none⟩))) w') : if Region.wanted o (yielded ops a.tmps) = true then Oper.wp Tryz.prog o a w K Q else E := by
  have hw : Region.wanted o (yielded ops a.tmps) = true := by simp [Region.wanted, hgd]
  rw [if_pos hw]
  have hz := run_zeroPort w
  unfold Oper.wp execOp
  simp only [ho]
  simp [Instr.alloc, hz, newVar, newRow, Result.andThen, Value.cells]
  rw [← hd] at h
  exact h _ ⟨⟨rfl, heap_alloc_new w _⟩, (Below.refl _ w).alloc (Nat.le_refl _) _⟩
theorem step_store_box {w : World} {ops : Array Oper} {o : Oper} {a : Act} {K : Act → World → Prop} {Q : Exit → Act → World → Prop} {E : Prop} (hgd : o.guard = none) (x y : Operand) (ho : o.op = .store 41 x y) (g : Nat) (old p : Pt) (ov vs : Value)
    (hx : a.eval x = .pointer (some ⟨g, 0, none⟩)) (hy : a.eval y = .agg (portCells p vs).toArray) (hA : PBox w g old ov) (h4 : p.kept.length = 4) (hv : vs.oneCell' = true) (hd : o.dst = none)
    (h : ∀ w', Hid (PBox w' g p vs ∧ (∀ k, k ≠ g → w'.heap[k]? = w.heap[k]?) ∧ ∀ B, B ≤ g → Below B w w') → K a w') : if Region.wanted o (yielded ops a.tmps) = true then Oper.wp Tryz.prog o a w K Q else E := by
  have hw : Region.wanted o (yielded ops a.tmps) = true := by simp [Region.wanted, hgd]
  rw [if_pos hw]
  have hst := run_storeVar_row (P := Tryz.prog) w g _ 41 (portCells old ov).toArray (portCells p vs).toArray hA.2 (by rw [sizePort]; simp [portCells_length p vs h4]) (by simp [portCells_length p vs h4, portCells_length old ov hA.1]) (all_oneCell_toArray (portCells_one p vs hv))
  unfold Oper.wp execOp
  simp only [ho, hx, hy, Instr.storeAt, Instr.sureAddr, Sem.run_bind, Sem.run_pure, Result.andThen_ok, hst]
  have ha : ∀ x, a.put o.dst x = a := fun x => by rw [hd]; rfl
  refine (congrArg (fun b => K b _) (ha _)).mpr ?_
  exact h _ ⟨⟨h4, setRow_heap w g _ _ _ _ hA.2⟩, fun k hk => setRow_other w g k _ (by omega), fun B hB => below_setRow (Below.refl B w) hB _⟩
end Go.Proofs.YtcmdoeledmkfmacGreatDoor
