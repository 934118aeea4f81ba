/- CopyPort of the document's own answer: the same port, its ships in memory of the call's own. -/
import Derived.Test.YtghhegajbehpeaaPBoxW
import Derived.Test.YtghhegajbehpeaaClone
import Derived.Lib.AppendZeros
set_option linter.unusedSimpArgs false
set_option linter.unusedVariables false
namespace Go.Proofs.Ytghhegajbehpeaa
open Go.RowKit

theorem infoShip : ∃ i0, Try.prog.info? 48 = some i0 ∧ i0.zero = some (.agg #[.int .i64 0, .int .i64 0, .int .i64 0, .int .i64 0, .int .i64 0, .int .i64 0]) ∧ i0.size = 6 ∧ i0.bytes = 48 := by
  have h : (Try.prog.info? 48).map (fun i => (i.zero, i.size, i.bytes)) = some (some (.agg #[.int .i64 0, .int .i64 0, .int .i64 0, .int .i64 0, .int .i64 0, .int .i64 0]), 6, 48) := by kernel_rfl
  cases hq : Try.prog.info? 48 with
  | none => rw [hq] at h; cases h
  | some i =>
    rw [hq] at h
    simp at h
    exact ⟨i, rfl, h.1, h.2.1, h.2.2⟩

set_option maxHeartbeats 4000000 in
set_option maxRecDepth 100000 in
theorem refCopy_any (v : Value) (p : Pt) (w : World) (hv : PtV w v p) :
    Calls Try.prog 29 #[v] w fun e w' => ∃ vs, e = .returned (.agg (portCells p vs).toArray) ∧ w'.ownsRow w.heap.size 48 6 vs p.ships.length (cellsK cShip p.ships) ∧ Below w.heap.size w w' := by
  obtain ⟨vs, rfl, hvs, h4, hmx⟩ := hv
  have HV : Hid (SlK cShip w vs p.ships) := hvs
  obtain ⟨a, cap, rfl, hcap, hrd⟩ := hvs
  clear hrd
  have X0 : Hid (PBox (w.alloc (.cells (portCells p (.slice a p.ships.length cap)).toArray 46)) w.heap.size p (.slice a p.ships.length cap)) := PBox.new w p _ h4
  have B0 : Hid (Below w.heap.size w (w.alloc (.cells (portCells p (.slice a p.ships.length cap)).toArray 46))) := (Below.refl _ w).alloc (Nat.le_refl _) _
  have Z0 : Hid ((w.alloc (.cells (portCells p (.slice a p.ships.length cap)).toArray 46)).heap.size = w.heap.size + 1) := by show _ = _; simp
  generalize hPC : (portCells p (.slice a p.ships.length cap)).toArray = PC at *
  have HPC : Hid ((portCells p (.slice a p.ships.length cap)).toArray = PC) := hPC
  clear hPC
  go_enter Try.func29, Try.ntmps29
  go_wp2_with (first
    | (refine wpList_alloc_box rfl rfl 2 rfl ?_; intro w1 hw1 hs1; rw [Z0.out] at hw1 hs1; rw [Z0.out]
       have X1 : Hid (PBox w1 w.heap.size p (.slice a p.ships.length cap)) := X0.out.later hw1.out.2 (by omega)
       have B1 : Hid (Below w.heap.size w w1) := B0.out.trans (hw1.out.2.mono (by omega))
       obtain ⟨i0, hi0, hz0, hz1, hz2⟩ := infoShip
       have AC := run_append_copyK (P := Try.prog) encShip Try.underlying41 hi0 hz0 hz1 hz2 rfl (by omega) (.slice a p.ships.length cap) p.ships w1 (HV.out.below B1.out) (by unfold maxLen; omega) (by omega) 41
       clear hi0 hz0 hz1 hz2
       obtain ⟨vn, w2, hr, ho, hb2⟩ := AC
       obtain ⟨xn, cn, rfl⟩ := ownsRow_slice ho
       rw [hs1] at ho hb2
       have HRN : Hid ((Builtin.append_ #[41, 41] 41 #[.slice none 0 0, .slice a p.ships.length cap]).run Try.prog w1 = .ok (.slice xn p.ships.length cn) w2) := hr
       clear hr
       have O2 : Hid (w2.ownsRow (w.heap.size + 1 + 1) 48 6 (.slice xn p.ships.length cn) p.ships.length (cellsK cShip p.ships)) := ho
       have X2 : Hid (PBox w2 w.heap.size p (.slice a p.ships.length cap)) := X1.out.later hb2 (by omega)
       have Y2 : Hid (PBox w2 (w.heap.size + 1) zeroPt (.slice none 0 0)) := hw1.out.1.later hb2 (by omega)
       have B2 : Hid (Below w.heap.size w w2) := B1.out.trans (hb2.mono (by omega))
       have c1 := X1.out.cells.2.1
       have c2 := X2.out.cells.2.1
       have f2 := X2.out.frozen 1
       have o2 := ownsRow_one ho
       have X3 : Hid (PBox (w2.setCell ⟨w.heap.size, 1, none⟩ (.slice xn p.ships.length cn)) w.heap.size p (.slice xn p.ships.length cn)) := X2.out.setShips p.ships (.slice xn p.ships.length cn)
       have Y3 : Hid (PBox (w2.setCell ⟨w.heap.size, 1, none⟩ (.slice xn p.ships.length cn)) (w.heap.size + 1) zeroPt (.slice none 0 0)) := Y2.out.other _ _ (by omega)
       have O3 : Hid ((w2.setCell ⟨w.heap.size, 1, none⟩ (.slice xn p.ships.length cn)).ownsRow (w.heap.size + 1 + 1) 48 6 (.slice xn p.ships.length cn) p.ships.length (cellsK cShip p.ships)) := ownsRow_same ho (fun g hg => Below.heap_setCell _ _ _ _ (by show g ≠ w.heap.size; omega))
       have B3 : Hid (Below w.heap.size w (w2.setCell ⟨w.heap.size, 1, none⟩ (.slice xn p.ships.length cn))) := B2.out.setCell (Nat.le_refl _) _
       clear hw1 hb2 ho B0 X0 Z0)
    | (at_builtin; refine Lib.wpList_append_run _ rfl _ _ 41 41 rfl _ _ rfl rfl _ _ HRN.out ?_)
    | (refine wpList_load_box rfl _ rfl w.heap.size p (.slice xn p.ships.length cn) rfl X3.out ?_)
    | (refine wpList_store_box rfl _ _ rfl (w.heap.size + 1) zeroPt p (.slice none 0 0) (.slice xn p.ships.length cn) rfl rfl Y3.out h4 o2 ?_; intro w9 hw9 hs9))
  refine bodyPost_ret (v := .agg (portCells p (.slice xn p.ships.length cn)).toArray) (results_box Try.results29 _ _ (w.heap.size + 1) p (.slice xn p.ships.length cn) rfl hw9.out.1) rfl ?_
  exact ⟨(.slice xn p.ships.length cn), rfl, ownsRow_mono (ownsRow_same O3.out (fun g hg => hw9.out.2.1 g (by omega))) (by omega), B3.out.trans (hw9.out.2.2 _ (by omega))⟩

end Go.Proofs.Ytghhegajbehpeaa
