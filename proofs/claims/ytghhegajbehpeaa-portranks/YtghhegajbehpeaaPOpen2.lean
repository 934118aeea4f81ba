/- Orders, ships and lists of numbers that came in, as plain data. -/
import Derived.Test.YtghhegajbehpeaaPOpen
import Derived.Test.YtghhegajbehpeaaPObey
set_option linter.unusedSimpArgs false
set_option linter.unusedVariables false
set_option maxRecDepth 100000
namespace Go.Proofs.Ytghhegajbehpeaa
open Go.ChangeShapes Go.WideShapes Go.ChangeAt Go.RowKit Go.Deep

def WfO (o : Ord) : Prop := Wf o.kd ∧ Wf o.a ∧ Wf o.b ∧ Wf o.c

section
variable {H : Type} {enc : TypeId × Value → H} {W : World}

theorem open_order {base : Nat} {v : Value} {d : DataW H} {ps : List MemPlace} (hok : Value.okWide Try.prog W .any base 61 v) (h : DataW.Trod enc Try.prog W 0 (fun _ => true) true 61 v d ps) : ∃ o : Ord, v = .agg #[.int .i64 o.kd, .int .i64 o.a, .int .i64 o.b, .int .i64 o.c] ∧ WfO o := by
  obtain ⟨cs, rfl, _⟩ := okWide_struct Try.underlying61 hok
  obtain ⟨fuel, hf0⟩ := h
  have hf1 : DataW.trod enc Try.prog W 0 (fun _ => true) true fuel 61 cs.toList = some (d, ps) := hf0
  obtain ⟨xs, m, _, hx, hl, hxl, hf⟩ := DataW.trod_struct Try.underlying61 hf1
  rw [cellsOrder] at hl
  have hxl2 : xs.length = 4 := hxl
  clear hxl
  obtain ⟨L⟩ := cs
  simp only at hl hf
  match xs, hxl2, L, hl with
  | [y0, y1, y2, y3], _, [c0, c1, c2, c3], _ =>
    have g0 := hf 0 _ rfl
    have g1 := hf 1 _ rfl
    have g2 := hf 2 _ rfl
    have g3 := hf 3 _ rfl
    simp [cellsInt] at g0 g1 g2 g3
    obtain ⟨x0, rfl, w0⟩ := open_num g0
    obtain ⟨x1, rfl, w1⟩ := open_num g1
    obtain ⟨x2, rfl, w2⟩ := open_num g2
    obtain ⟨x3, rfl, w3⟩ := open_num g3
    exact ⟨⟨x0, x1, x2, x3⟩, rfl, w0, w1, w2, w3⟩

theorem open_ship {base : Nat} {v : Value} {d : DataW H} {ps : List MemPlace} (hok : Value.okWide Try.prog W .any base 48 v) (h : DataW.Trod enc Try.prog W 0 (fun _ => true) true 48 v d ps) : ∃ s : Ship, v = .agg (cShip s).toArray ∧ WfS s := by
  obtain ⟨cs, rfl, _⟩ := okWide_struct Try.underlying48 hok
  obtain ⟨fuel, hf0⟩ := h
  have hf1 : DataW.trod enc Try.prog W 0 (fun _ => true) true fuel 48 cs.toList = some (d, ps) := hf0
  obtain ⟨s, e, hw⟩ := open_shipCells hf1
  exact ⟨s, by rw [← e], hw⟩

theorem bytesInt : Try.prog.bytesOf 3 = 8 := by kernel_rfl

theorem open_nums {base : Nat} {v : Value} {d : DataW H} {ps : List MemPlace} (hok : Value.okWide Try.prog W .any base 57 v) (h : DataW.Trod enc Try.prog W 0 (fun _ => true) true 57 v d ps)
    (hsz : (d.weights Try.prog 57).all (· ≤ reachBytes) = true) : ∃ l, SlK cInt W v l ∧ (∀ x ∈ l, Wf x) ∧ l.length ≤ 17592186044416 := by
  obtain ⟨a0, len0, cap0, rfl⟩ := okWide_slice Try.underlying57 hok
  obtain ⟨fuel, hf0⟩ := h
  have hf1 : DataW.trod enc Try.prog W 0 (fun _ => true) true fuel 57 [.slice a0 len0 cap0] = some (d, ps) := hf0
  obtain ⟨l, vs, e, hs, hw, hz⟩ := open_numsCells hf1
  obtain rfl : Value.slice a0 len0 cap0 = vs := by simpa using e
  refine ⟨l, hs, hw, ?_⟩
  rcases hz with rfl | ⟨el, sp, hy, hle⟩
  · simp
  · simp only at hy
    have h1 := List.all_eq_true.1 hsz ((el.length + sp.length) * Try.prog.bytesOf 3) (by
      rw [hy]
      simp [DataW.weights, Try.underlying57])
    rw [bytesInt] at h1
    have hr : reachBytes = 140737488351232 := rfl
    rw [hr] at h1
    simp at h1
    omega
end

end Go.Proofs.Ytghhegajbehpeaa
