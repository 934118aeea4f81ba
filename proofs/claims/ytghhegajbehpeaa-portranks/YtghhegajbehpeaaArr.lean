/- An array of three hundred numbers in a block of its own: laid, loaded, stored and written one by one, its cells never written out. -/
import Derived.Test.YtghhegajbehpeaaMem
import Derived.Deep.MidRow
import Derived.Deep.WholeRow
import Derived.Laws.CopyOwn
import Derived.Laws.ResultCell
set_option linter.unusedSimpArgs false
set_option linter.unusedVariables false
namespace Go.Proofs.Ytghhegajbehpeaa
open Go.RowKit

/-- the cells of numbers -/
def ic (f : List Int) : List Value := f.map fun n => .int .i64 n

theorem ic_length (f : List Int) : (ic f).length = f.length := by simp [ic]
theorem ic_one (f : List Int) : ∀ v ∈ ic f, v.oneCell' = true := by
  intro v hv
  simp only [ic, List.mem_map] at hv
  obtain ⟨n, _, rfl⟩ := hv
  rfl
theorem ic_get (f : List Int) (k : Nat) (hk : k < f.length) : (ic f)[k]? = some (.int .i64 (f.getD k 0)) := by simp [ic, hk]

/-- three hundred noughts -/
def zero300 : List Int := List.replicate 300 0

/-- Block g is an array of the numbers f. -/
def Arr (w : World) (g : Nat) (f : List Int) : Prop := f.length = 300 ∧ w.heap[g]? = some (.cells (ic f).toArray 24 (0, 0))

theorem Arr.lt {w : World} {g : Nat} {f : List Int} (h : Arr w g f) : g < w.heap.size := (Array.getElem?_eq_some_iff.1 h.2).1

theorem Arr.cell {w : World} {g : Nat} {f : List Int} (h : Arr w g f) (k : Nat) (hk : k < 300) : w.cell? ⟨g, k, none⟩ = some (.int .i64 (f.getD k 0)) := by
  rw [cell_of_row _ _ _ _ _ _ h.2, List.getElem?_toArray]
  exact ic_get f k (by rw [h.1]; exact hk)

theorem Arr.frozen {w : World} {g : Nat} {f : List Int} (h : Arr w g f) (k : Nat) : w.frozen? ⟨g, k, none⟩ = false := by simp [World.frozen?, h.2]

theorem Arr.later {w w' : World} {B g : Nat} {f : List Int} (h : Arr w g f) (hb : Below B w w') (hB : g < B) : Arr w' g f := ⟨h.1, by rw [hb.block g hB]; exact h.2⟩

theorem Arr.set {w : World} {g : Nat} {f : List Int} (h : Arr w g f) (k : Nat) (y : Int) : Arr (w.setCell ⟨g, k, none⟩ (.int .i64 y)) g (f.set k y) := by
  refine ⟨by rw [List.length_set]; exact h.1, ?_⟩
  rw [setCell_eq_setRow w g k _ _ _ _ h.2, setRow_heap w g _ _ _ _ h.2]
  congr 2
  simp [ic, List.map_set]

theorem Arr.other {w : World} {g g' : Nat} {f : List Int} (h : Arr w g f) (k : Nat) (v : Value) (hne : g ≠ g') : Arr (w.setCell ⟨g', k, none⟩ v) g f :=
  ⟨h.1, by rw [Below.heap_setCell _ _ _ _ hne]; exact h.2⟩

theorem Arr.range {w : World} {g : Nat} {f : List Int} (h : Arr w g f) : w.rangeAt g 0 (ic f) := fun j v hj => by
  rw [Nat.zero_add, cell_of_row _ _ _ _ _ _ h.2, List.getElem?_toArray]; exact hj

theorem sizeFree : (Try.prog.info? 24).map (·.size) = some 300 := by kernel_rfl
theorem zeroFree : (Try.prog.info? 24).map (fun i => (i.zero, i.size)) = some (some (.agg (ic zero300).toArray), 300) := by kernel_rfl

theorem run_zeroFree (w : World) : (zeroValue 24).run Try.prog w = .ok (.agg (ic zero300).toArray) w := by
  have h := zeroFree
  cases hq : Try.prog.info? 24 with
  | none => rw [hq] at h; cases h
  | some i =>
    rw [hq] at h
    simp at h
    simp [zeroValue, typeInfo, hq, h.1]

/-- a new variable, of noughts -/
theorem wpList_alloc_arr {w : World} {ops : Array Oper} {rest : List Oper} {o : Oper} {a : Act} {Q : Exit → Act → World → Prop} (hgd : o.guard = none) (ho : o.op = .alloc 24) (d : Nat) (hd : o.dst = some d)
    (h : ∀ w', Hid (Arr w' w.heap.size zero300 ∧ Below w.heap.size w w') → w'.heap.size = w.heap.size + 1 → wpList Try.prog ops Q rest (a.put o.dst (.pointer (some ⟨w.heap.size, 0, none⟩))) w') : wpList Try.prog ops Q (o :: rest) a w := by
  refine wpList_plain hgd fun K hK => ?_
  have hz := run_zeroFree w
  unfold Oper.wp execOp
  simp only [ho]
  simp [Instr.alloc, hz, newVar, newRow, Result.andThen, Value.cells]
  refine hK _ _ (h _ ⟨⟨List.length_replicate, ?_⟩, (Below.refl _ w).alloc (Nat.le_refl _) _⟩ (by simp))
  exact heap_alloc_new w _

theorem wpList_load_arr {w : World} {ops : Array Oper} {rest : List Oper} {o : Oper} {a : Act} {Q : Exit → Act → World → Prop} (hgd : o.guard = none) (x : Operand) (ho : o.op = .load 24 x) (g : Nat) (f : List Int)
    (hx : a.eval x = .pointer (some ⟨g, 0, none⟩)) (hA : Arr w g f) (h : wpList Try.prog ops Q rest (a.put o.dst (.agg (ic f).toArray)) w) : wpList Try.prog ops Q (o :: rest) a w :=
  wpList_load_mid hgd 24 x ho g 0 hx (ic f) _ hA.range Try.underlying24 rfl (by rw [sizeFree, ic_length, hA.1]) h

/-- the same behind a guard that says yes -/
theorem wpList_load_arr_g {w : World} {ops : Array Oper} {rest : List Oper} {o : Oper} {a : Act} {Q : Exit → Act → World → Prop} (hw : Region.wanted o (yielded ops a.tmps) = true) (x : Operand) (ho : o.op = .load 24 x) (g : Nat) (f : List Int)
    (hx : a.eval x = .pointer (some ⟨g, 0, none⟩)) (hA : Arr w g f) (h : wpList Try.prog ops Q rest (a.put o.dst (.agg (ic f).toArray)) w) : wpList Try.prog ops Q (o :: rest) a w :=
  BigFrame.wpList_want hw fun K hK => wp_load_mid 24 x ho g 0 hx (ic f) _ hA.range Try.underlying24 rfl (by rw [sizeFree, ic_length, hA.1]) (hK _ _ h)

theorem wpList_store_arr {w : World} {ops : Array Oper} {rest : List Oper} {o : Oper} {a : Act} {Q : Exit → Act → World → Prop} (hgd : o.guard = none) (x y : Operand) (ho : o.op = .store 24 x y) (g : Nat) (old f : List Int)
    (hx : a.eval x = .pointer (some ⟨g, 0, none⟩)) (hy : a.eval y = .agg (ic f).toArray) (hA : Arr w g old) (hf : f.length = 300)
    (h : ∀ w', Hid (Arr w' g f ∧ (∀ k, k ≠ g → w'.heap[k]? = w.heap[k]?) ∧ ∀ B, B ≤ g → Below B w w') → w'.heap.size = w.heap.size → wpList Try.prog ops Q rest (a.put o.dst undef) w') : wpList Try.prog ops Q (o :: rest) a w := by
  refine wpList_plain hgd fun K hK => ?_
  have hst := run_storeVar_row (P := Try.prog) w g _ 24 (ic old).toArray (ic f).toArray hA.2 (by rw [sizeFree]; simp [ic_length, hf]) (by simp [ic_length, hf, hA.1]) (all_oneCell_toArray (ic_one f))
  unfold Oper.wp execOp
  simp only [ho, hx, hy, Instr.storeAt, Instr.sureAddr, Sem.run_bind, Sem.run_pure, Result.andThen_ok, hst]
  refine hK _ _ (h _ ⟨⟨hf, setRow_heap w g _ _ _ _ hA.2⟩, fun k hk => setRow_other w g k _ (by omega), fun B hB => below_setRow (Below.refl B w) hB _⟩ (by simp [World.setRow]))

/-- the array of a variable is handed back with a Bool beside it -/
theorem results_arr {fn : Func} {p u : Tmp} (h : fn.results = #[.cell p 24, .tmp u]) (tmps : Array Value) (w : World) (g : Nat) (f : List Int) (hp : tmps.getD p undef = .pointer (some ⟨g, 0, none⟩)) (hA : Arr w g f) :
    (results fn tmps).run Try.prog w = .ok (.tuple #[.agg (ic f).toArray, tmps.getD u undef]) w := by
  rw [results_cell_tmp h, hp]
  have hl := run_loadVar_mid (P := Try.prog) w g 0 24 (ic f) _ hA.range Try.underlying24 rfl (by rw [sizeFree, ic_length, hA.1])
  simp [asAddr, hl]

end Go.Proofs.Ytghhegajbehpeaa
