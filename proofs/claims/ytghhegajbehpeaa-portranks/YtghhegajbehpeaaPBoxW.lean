/- A port in a block of its own: laid, loaded, stored, and written field by field. -/
import Derived.Test.YtghhegajbehpeaaPMem
import Derived.Test.YtghhegajbehpeaaArr
set_option linter.unusedSimpArgs false
set_option linter.unusedVariables false
namespace Go.Proofs.Ytghhegajbehpeaa
open Go.RowKit

/-- nothing is kept -/
def noKp : Kp := ⟨0, 0, 0⟩
/-- the port of noughts -/
def zeroPt : Pt := ⟨0, [], [noKp, noKp, noKp, noKp], 0, 0⟩

theorem portCells_one (p : Pt) (vs : Value) (hv : vs.oneCell' = true) : ∀ u ∈ portCells p vs, u.oneCell' = true := by
  intro u hu
  unfold portCells at hu
  rcases List.mem_cons.1 hu with rfl | hu
  · rfl
  rcases List.mem_cons.1 hu with rfl | hu
  · exact hv
  rcases List.mem_append.1 hu with hu | hu
  · exact cellsK_one encKp _ u hu
  · simp at hu; rcases hu with rfl | rfl <;> rfl

theorem PBox.frozen {w : World} {g : Nat} {p : Pt} {vs : Value} (h : PBox w g p vs) (k : Nat) : w.frozen? ⟨g, k, none⟩ = false := by simp [World.frozen?, h.2]

theorem PBox.other {w : World} {g g' : Nat} {p : Pt} {vs : Value} (h : PBox w g p vs) (k : Nat) (v : Value) (hne : g ≠ g') : PBox (w.setCell ⟨g', k, none⟩ v) g p vs :=
  ⟨h.1, by rw [Below.heap_setCell _ _ _ _ hne]; exact h.2⟩

theorem PBox.write {w : World} {g : Nat} {p : Pt} {vs : Value} (h : PBox w g p vs) (k : Nat) (v : Value) (p' : Pt) (vs' : Value) (h4 : p'.kept.length = 4) (he : (portCells p vs).set k v = portCells p' vs') : PBox (w.setCell ⟨g, k, none⟩ v) g p' vs' := by
  refine ⟨h4, ?_⟩
  rw [setCell_eq_setRow w g k _ _ _ _ h.2, setRow_heap w g _ _ _ _ h.2, ← he]
  congr 2
  simp

theorem PBox.setNow {w : World} {g : Nat} {p : Pt} {vs : Value} (h : PBox w g p vs) (n : Int) : PBox (w.setCell ⟨g, 0, none⟩ (.int .i64 n)) g { p with now := n } vs := h.write 0 _ _ _ h.1 rfl
theorem PBox.setShips {w : World} {g : Nat} {p : Pt} {vs : Value} (h : PBox w g p vs) (l : List Ship) (vs' : Value) : PBox (w.setCell ⟨g, 1, none⟩ vs') g { p with ships := l } vs' := h.write 1 _ _ _ h.1 rfl
theorem PBox.setShut {w : World} {g : Nat} {p : Pt} {vs : Value} (h : PBox w g p vs) (n : Int) : PBox (w.setCell ⟨g, 14, none⟩ (.int .i64 n)) g { p with shut := n } vs := by
  have hl : (cellsK cKp p.kept).length = 12 := by rw [cellsK_length encKp, h.1]
  refine h.write 14 _ _ _ h.1 ?_
  unfold portCells
  rw [show (14 : Nat) = 12 + 1 + 1 from rfl, List.set_cons_succ, List.set_cons_succ, List.set_append_right _ _ (by omega), hl]
  rfl
theorem PBox.setNext {w : World} {g : Nat} {p : Pt} {vs : Value} (h : PBox w g p vs) (n : Int) : PBox (w.setCell ⟨g, 15, none⟩ (.int .i64 n)) g { p with next := n } vs := by
  have hl : (cellsK cKp p.kept).length = 12 := by rw [cellsK_length encKp, h.1]
  refine h.write 15 _ _ _ h.1 ?_
  unfold portCells
  rw [show (15 : Nat) = 13 + 1 + 1 from rfl, List.set_cons_succ, List.set_cons_succ, List.set_append_right _ _ (by omega), hl]
  rfl

theorem sizePort : (Try.prog.info? 46).map (·.size) = some 16 := by kernel_rfl
theorem zeroPort : (Try.prog.info? 46).map (fun i => (i.zero, i.size)) = some (some (.agg (portCells zeroPt (.slice none 0 0)).toArray), 16) := by kernel_rfl

theorem run_zeroPort (w : World) : (zeroValue 46).run Try.prog w = .ok (.agg (portCells zeroPt (.slice none 0 0)).toArray) w := by
  have h := zeroPort
  cases hq : Try.prog.info? 46 with
  | none => rw [hq] at h; cases h
  | some i =>
    rw [hq] at h
    simp at h
    simp [zeroValue, typeInfo, hq, h.1]

/-- a new variable, of noughts -/
theorem wpList_alloc_box {w : World} {ops : Array Oper} {rest : List Oper} {o : Oper} {a : Act} {Q : Exit → Act → World → Prop} (hgd : o.guard = none) (ho : o.op = .alloc 46) (d : Nat) (hd : o.dst = some d)
    (h : ∀ w', Hid (PBox w' w.heap.size zeroPt (.slice none 0 0) ∧ Below w.heap.size w w') → w'.heap.size = w.heap.size + 1 → wpList Try.prog ops Q rest (a.put o.dst (.pointer (some ⟨w.heap.size, 0, none⟩))) w') : wpList Try.prog ops Q (o :: rest) a w := by
  refine wpList_plain hgd fun K hK => ?_
  have hz := run_zeroPort w
  unfold Oper.wp execOp
  simp only [ho]
  simp [Instr.alloc, hz, newVar, newRow, Result.andThen, Value.cells]
  refine hK _ _ (h _ ⟨⟨rfl, ?_⟩, (Below.refl _ w).alloc (Nat.le_refl _) _⟩ (by simp))
  exact heap_alloc_new w _

theorem wpList_load_box {w : World} {ops : Array Oper} {rest : List Oper} {o : Oper} {a : Act} {Q : Exit → Act → World → Prop} (hgd : o.guard = none) (x : Operand) (ho : o.op = .load 46 x) (g : Nat) (p : Pt) (vs : Value)
    (hx : a.eval x = .pointer (some ⟨g, 0, none⟩)) (hA : PBox w g p vs) (h : wpList Try.prog ops Q rest (a.put o.dst (.agg (portCells p vs).toArray)) w) : wpList Try.prog ops Q (o :: rest) a w :=
  wpList_load_mid hgd 46 x ho g 0 hx (portCells p vs) _ hA.whole Try.underlying46 rfl (portInfo p vs hA.1) h

theorem wpList_load_box_g {w : World} {ops : Array Oper} {rest : List Oper} {o : Oper} {a : Act} {Q : Exit → Act → World → Prop} (hw : Region.wanted o (yielded ops a.tmps) = true) (x : Operand) (ho : o.op = .load 46 x) (g : Nat) (p : Pt) (vs : Value)
    (hx : a.eval x = .pointer (some ⟨g, 0, none⟩)) (hA : PBox w g p vs) (h : wpList Try.prog ops Q rest (a.put o.dst (.agg (portCells p vs).toArray)) w) : wpList Try.prog ops Q (o :: rest) a w :=
  BigFrame.wpList_want hw fun K hK => wp_load_mid 46 x ho g 0 hx (portCells p vs) _ hA.whole Try.underlying46 rfl (portInfo p vs hA.1) (hK _ _ h)

/-- what is kept in the port of a variable, behind a guard that says yes -/
theorem wpList_load_kept_g {w : World} {ops : Array Oper} {rest : List Oper} {o : Oper} {a : Act} {Q : Exit → Act → World → Prop} (hw : Region.wanted o (yielded ops a.tmps) = true) (x : Operand) (ho : o.op = .load 44 x) (g : Nat) (p : Pt) (vs : Value)
    (hx : a.eval x = .pointer (some ⟨g, 2, none⟩)) (hA : PBox w g p vs) (h : wpList Try.prog ops Q rest (a.put o.dst (.agg (cellsK cKp p.kept).toArray)) w) : wpList Try.prog ops Q (o :: rest) a w :=
  BigFrame.wpList_want hw fun K hK => wp_load_mid 44 x ho g 2 hx (cellsK cKp p.kept) _ hA.keeps Try.underlying44 rfl (by rw [cellsK_length encKp, hA.1]; kernel_rfl) (hK _ _ h)

theorem wpList_store_box {w : World} {ops : Array Oper} {rest : List Oper} {o : Oper} {a : Act} {Q : Exit → Act → World → Prop} (hgd : o.guard = none) (x y : Operand) (ho : o.op = .store 46 x y) (g : Nat) (old p : Pt) (ov vs : Value)
    (hx : a.eval x = .pointer (some ⟨g, 0, none⟩)) (hy : a.eval y = .agg (portCells p vs).toArray) (hA : PBox w g old ov) (h4 : p.kept.length = 4) (hv : vs.oneCell' = true)
    (h : ∀ w', Hid (PBox w' g p vs ∧ (∀ k, k ≠ g → w'.heap[k]? = w.heap[k]?) ∧ ∀ B, B ≤ g → Below B w w') → w'.heap.size = w.heap.size → wpList Try.prog ops Q rest (a.put o.dst undef) w') : wpList Try.prog ops Q (o :: rest) a w := by
  refine wpList_plain hgd fun K hK => ?_
  have hst := run_storeVar_row (P := Try.prog) w g _ 46 (portCells old ov).toArray (portCells p vs).toArray hA.2 (by rw [sizePort]; simp [portCells_length p vs h4]) (by simp [portCells_length p vs h4, portCells_length old ov hA.1]) (all_oneCell_toArray (portCells_one p vs hv))
  unfold Oper.wp execOp
  simp only [ho, hx, hy, Instr.storeAt, Instr.sureAddr, Sem.run_bind, Sem.run_pure, Result.andThen_ok, hst]
  refine hK _ _ (h _ ⟨⟨h4, setRow_heap w g _ _ _ _ hA.2⟩, fun k hk => setRow_other w g k _ (by omega), fun B hB => below_setRow (Below.refl B w) hB _⟩ (by simp [World.setRow]))

/-- the port of a variable is handed back -/
theorem results_box {fn : Func} {q : Tmp} (h : fn.results = #[.cell q 46]) (tmps : Array Value) (w : World) (g : Nat) (p : Pt) (vs : Value) (hp : tmps.getD q undef = .pointer (some ⟨g, 0, none⟩)) (hA : PBox w g p vs) :
    (results fn tmps).run Try.prog w = .ok (.agg (portCells p vs).toArray) w := by
  have hl := run_loadVar_mid (P := Try.prog) w g 0 46 (portCells p vs) _ hA.whole Try.underlying46 rfl (portInfo p vs hA.1)
  have hp' : tmps[q]?.getD undef = .pointer (some ⟨g, 0, none⟩) := by simpa using hp
  simp only [results, h]
  simp [Sem.run_bind, Result.andThen, hp', asAddr, hl]

/-- the port of a variable is handed back with something beside it -/
theorem results_box_tmp {fn : Func} {q u : Tmp} (h : fn.results = #[.cell q 46, .tmp u]) (tmps : Array Value) (w : World) (g : Nat) (p : Pt) (vs : Value) (hp : tmps.getD q undef = .pointer (some ⟨g, 0, none⟩)) (hA : PBox w g p vs) :
    (results fn tmps).run Try.prog w = .ok (.tuple #[.agg (portCells p vs).toArray, tmps.getD u undef]) w := by
  rw [results_cell_tmp h, hp]
  have hl := run_loadVar_mid (P := Try.prog) w g 0 46 (portCells p vs) _ hA.whole Try.underlying46 rfl (portInfo p vs hA.1)
  simp [asAddr, hl]

/-- a row of the call's own is there as long as no block from its base on has changed -/
theorem ownsRow_same {w w' : World} {B : Nat} {e : TypeId} {size : Nat} {v : Value} {n : Nat} {xs : List Value} (h : w.ownsRow B e size v n xs) (hs : ∀ g, B ≤ g → w'.heap[g]? = w.heap[g]?) : w'.ownsRow B e size v n xs := by
  refine ⟨h.1, ?_⟩
  rcases h.2 with h0 | ⟨g, cap, cur, h0, h1, h2, h3⟩
  · exact Or.inl h0
  · exact Or.inr ⟨g, cap, cur, h0, h1, by rw [hs g h1]; exact h2, h3⟩

theorem ownsRow_slice {w : World} {B : Nat} {e : TypeId} {size : Nat} {v : Value} {n : Nat} {xs : List Value} (h : w.ownsRow B e size v n xs) : ∃ x cap, v = .slice x n cap := by
  rcases h.2 with ⟨rfl, rfl⟩ | ⟨g, cap, cur, rfl, _⟩
  · exact ⟨_, _, rfl⟩
  · exact ⟨_, _, rfl⟩

theorem ownsRow_mono {w : World} {B B' : Nat} {e : TypeId} {size : Nat} {v : Value} {n : Nat} {xs : List Value} (h : w.ownsRow B e size v n xs) (hb : B' ≤ B) : w.ownsRow B' e size v n xs := by
  refine ⟨h.1, ?_⟩
  rcases h.2 with h0 | ⟨g, cap, cur, h0, h1, h2⟩
  · exact Or.inl h0
  · exact Or.inr ⟨g, cap, cur, h0, Nat.le_trans hb h1, h2⟩

theorem ownsRow_one {w : World} {B : Nat} {e : TypeId} {size : Nat} {v : Value} {n : Nat} {xs : List Value} (h : w.ownsRow B e size v n xs) : v.oneCell' = true := by
  rcases h.2 with ⟨rfl, _⟩ | ⟨g, cap, cur, rfl, _⟩ <;> rfl

end Go.Proofs.Ytghhegajbehpeaa
