/- Texts of this claim, in one: LOpenO. -/
import Derived.OpenShut
import Derived.Test.YtcmdoeledmkfmabDoorQM
/- An order that came in, as plain data. -/
set_option linter.unusedSimpArgs false
set_option linter.unusedVariables false
set_option maxRecDepth 100000
namespace Go.Proofs.YtcmdoeledmkfmabDoor
open Go.ChangeShapes Go.WideShapes Go.ChangeAt Go.RowKit Go.Deep

section
variable {H : Type} {enc : TypeId × Value → H} {W : World}
theorem cellsIntL : Tryd.prog.cellsOf 3 = 1 := by kernel_rfl
theorem cellsOrderL : Tryd.prog.cellsOf 23 = 4 := by kernel_rfl
theorem open_numL {n : Nat} {v : Value} {y : DataW H × List MemPlace} (h : DataW.trod enc Tryd.prog W 0 (fun _ => true) true n 3 [v] = some y) : ∃ x, v = .int .i64 x ∧ True := by
  obtain ⟨x, e, _, hw⟩ := DataW.trod_int Tryd.underlying3 h
  exact ⟨x, by simpa using e, trivial⟩

theorem open_ord {base : Nat} {v : Value} {d : DataW H} {ps : List MemPlace} (hok : Value.okWide Tryd.prog W .any base 23 v) (h : DataW.Trod enc Tryd.prog W 0 (fun _ => true) true 23 v d ps) : ∃ o : Ord, v = .agg #[.int .i64 o.kd, .int .i64 o.a, .int .i64 o.b, .int .i64 o.c] ∧ True := by
  obtain ⟨cs, rfl, _⟩ := okWide_struct Tryd.underlying23 hok
  obtain ⟨fuel, hf0⟩ := h
  have hf1 : DataW.trod enc Tryd.prog W 0 (fun _ => true) true fuel 23 cs.toList = some (d, ps) := hf0
  obtain ⟨xs, m, _, hx, hl, hxl, hf⟩ := DataW.trod_struct Tryd.underlying23 hf1
  rw [cellsOrderL] at hl
  have hxl2 : xs.length = 4 := hxl
  clear hxl
  obtain ⟨L⟩ := cs
  simp only at hl hf
  match xs, hxl2, L, hl with
  | [y0, y1, y2, y3], _, [c0, c1, c2, c3], _ =>
    have g0 := hf 0 _ rfl
    have g1 := hf 1 _ rfl
    have g2 := hf 2 _ rfl
    have g3 := hf 3 _ rfl
    simp [cellsIntL] at g0 g1 g2 g3
    obtain ⟨x0, rfl, w0⟩ := open_numL g0
    obtain ⟨x1, rfl, w1⟩ := open_numL g1
    obtain ⟨x2, rfl, w2⟩ := open_numL g2
    obtain ⟨x3, rfl, w3⟩ := open_numL g3
    exact ⟨⟨x0, x1, x2, x3⟩, rfl, trivial⟩

end
end Go.Proofs.YtcmdoeledmkfmabDoor
