/- Texts of this claim, in one: Gen Leaf Mem Row Clone Insert Insert2 Cut Join Good Fit Fit2 Shift Shift2 Shift3 Spans. -/
import Derived.Test.YtcmdoeledmkfmabDoorProg
import Derived.KernelRfl
import Derived.WalkKit
import Derived.WalkSpells
import Derived.WalkLawsBesides
import Derived.Laws.CopyOwn
import Derived.Lib.SliceRun
import Derived.Lib.AppendZeros
import Derived.Deep.LoopGhost
import Derived.Lib.Overlaps
import Derived.Lib.AppendZerosOnto
import Derived.Deep.RegionLaw
import Derived.Lib.QuietBelow
import Derived.BigQuiet
import Derived.Deep.QuietTactic
import Derived.Test.YtcmdoeledmkfmabDoorQ1
/- Slices and rows of elements of whatever kind and number of cells: reading, laying, writing, appending; no condition but those that each theorem bears. -/
set_option linter.unusedSimpArgs false
set_option linter.unusedVariables false
namespace Go.Proofs.YtcmdoeledmkfmabDoor
open Go.RowKit

/-- How an element lies in cells: k of them, each one cell. -/
structure EncOk {α : Type} (k : Nat) (c : α → List Value) : Prop where
  len : ∀ x, (c x).length = k
  one : ∀ x, ∀ v ∈ c x, v.oneCell' = true

section
variable {α : Type} {k : Nat} {c : α → List Value}

/-- the cells of elements, one behind the other -/
def cellsK (c : α → List Value) : List α → List Value
  | [] => []
  | s :: r => c s ++ cellsK c r

theorem cellsK_append (a b : List α) : cellsK c (a ++ b) = cellsK c a ++ cellsK c b := by
  induction a with
  | nil => rfl
  | cons s r ih => simp [cellsK, ih]

theorem cellsK_length (E : EncOk k c) (l : List α) : (cellsK c l).length = l.length * k := by
  induction l with
  | nil => simp [cellsK]
  | cons s r ih => simp only [cellsK, List.length_append, E.len, ih, List.length_cons]; rw [Nat.add_mul]; omega

theorem cellsK_one (E : EncOk k c) (l : List α) : ∀ u ∈ cellsK c l, u.oneCell' = true := by
  induction l with
  | nil => intro u hu; cases hu
  | cons s r ih =>
    intro u hu
    rcases List.mem_append.1 hu with h | h
    · exact E.one s u h
    · exact ih u h

/-- the i-th cell of the j-th element -/
theorem cellsK_get (E : EncOk k c) (l : List α) : ∀ (j : Nat) (x : α), l[j]? = some x → ∀ i, i < k → (cellsK c l)[j * k + i]? = (c x)[i]? := by
  induction l with
  | nil => intro j x hx; simp at hx
  | cons s r ih =>
    intro j x hx i hi
    cases j with
    | zero =>
      simp at hx
      subst hx
      simp only [Nat.zero_mul, Nat.zero_add, cellsK]
      rw [List.getElem?_append_left (by rw [E.len]; exact hi)]
    | succ j =>
      simp only [List.getElem?_cons_succ] at hx
      simp only [cellsK]
      rw [List.getElem?_append_right (by rw [E.len, Nat.add_mul]; omega), E.len, show (j + 1) * k + i - k = j * k + i by rw [Nat.add_mul]; omega]
      exact ih j x hx i hi

theorem cellsK_take (E : EncOk k c) (l : List α) (i : Nat) : (cellsK c l).take (i * k) = cellsK c (l.take i) := by
  induction l generalizing i with
  | nil => simp [cellsK]
  | cons s r ih =>
    cases i with
    | zero => simp [cellsK]
    | succ i =>
      simp only [cellsK, List.take_succ_cons]
      rw [List.take_append, E.len, List.take_of_length_le (by rw [E.len, Nat.add_mul]; omega), show (i + 1) * k - k = i * k by rw [Nat.add_mul]; omega, ih]

theorem cellsK_drop (E : EncOk k c) (l : List α) (i : Nat) : (cellsK c l).drop (i * k) = cellsK c (l.drop i) := by
  induction l generalizing i with
  | nil => simp [cellsK]
  | cons s r ih =>
    cases i with
    | zero => simp [cellsK]
    | succ i =>
      simp only [cellsK, List.drop_succ_cons]
      rw [List.drop_append, E.len, List.drop_of_length_le (by rw [E.len, Nat.add_mul]; omega), show (i + 1) * k - k = i * k by rw [Nat.add_mul]; omega, ih, List.nil_append]

/-- The cells from off on in block b hold the elements of l. -/
def RdK (c : α → List Value) (w : World) (b off : Nat) (l : List α) : Prop := ∀ j u, (cellsK c l)[j]? = some u → w.cell? ⟨b, off + j, none⟩ = some u

theorem RdK.below {w w' : World} {b off : Nat} {l : List α} (h : RdK c w b off l) (hb : Below w.heap.size w w') : RdK c w' b off l := fun j u hu =>
  (hb.cell (World.block_lt_of_cell? w _ (h j u hu))).trans (h j u hu)

theorem RdK.belowB {B : Nat} {w w' : World} {b off : Nat} {l : List α} (h : RdK c w b off l) (hB : b < B) (hb : Below B w w') : RdK c w' b off l := fun j u hu =>
  (hb.cell (p := ⟨b, _, none⟩) hB).trans (h j u hu)

theorem RdK.at {w : World} {b off : Nat} {l : List α} (h : RdK c w b off l) (E : EncOk k c) {j : Nat} {x : α} (hx : l[j]? = some x) {i : Nat} {u : Value} (hu : (c x)[i]? = some u) : w.cell? ⟨b, off + (j * k + i), none⟩ = some u := by
  have hi : i < k := by have := (List.getElem?_eq_some_iff.1 hu).1; rw [E.len] at this; exact this
  exact h (j * k + i) u (by rw [cellsK_get E l j x hx i hi]; exact hu)

/-- The value is a slice of the elements of l. -/
def SlK (c : α → List Value) (w : World) (v : Value) (l : List α) : Prop :=
  ∃ (a : Option Addr) (cap : Nat), v = .slice a l.length cap ∧ l.length ≤ cap ∧ (l = [] ∨ ∃ b off, a = some ⟨b, off, none⟩ ∧ RdK c w b off l)

theorem SlK.below {w w' : World} {v : Value} {l : List α} (h : SlK c w v l) (hb : Below w.heap.size w w') : SlK c w' v l := by
  obtain ⟨a, cap, hv, h0, h1⟩ := h
  refine ⟨a, cap, hv, h0, ?_⟩
  rcases h1 with h1 | ⟨b, off, ha, hr⟩
  · exact Or.inl h1
  · exact Or.inr ⟨b, off, ha, hr.below hb⟩

theorem SlK.nil (w : World) : SlK c w (.slice none 0 0) [] := ⟨none, 0, rfl, Nat.le_refl _, Or.inl rfl⟩

/-- From base B on, block g is a row of room for cap elements of type t, whose first ones are those of m. -/
structure OwnK (t : TypeId) (k : Nat) (c : α → List Value) (w : World) (B g cap : Nat) (m : List α) : Prop where
  base : B ≤ g
  le : m.length ≤ cap
  max : cap ≤ maxLen
  row : ∃ cur : Array Value, w.heap[g]? = some (.cells cur t (0, 0)) ∧ cur.size = cap * k ∧ cur.toList.take (m.length * k) = cellsK c m

variable {t : TypeId}

theorem OwnK.lt {w : World} {B g cap : Nat} {m : List α} (h : OwnK t k c w B g cap m) : g < w.heap.size := by
  obtain ⟨cur, hg, _⟩ := h.row
  exact (Array.getElem?_eq_some_iff.1 hg).1

theorem OwnK.mono {w : World} {B B' g cap : Nat} {m : List α} (h : OwnK t k c w B g cap m) (hB : B' ≤ B) : OwnK t k c w B' g cap m := ⟨by have := h.base; omega, h.le, h.max, h.row⟩

theorem OwnK.rd {w : World} {B g cap : Nat} {m : List α} (h : OwnK t k c w B g cap m) : RdK c w g 0 m := fun j u hu => by
  obtain ⟨cur, hg, hs, ht⟩ := h.row
  rw [Nat.zero_add, cell_of_row _ _ _ _ _ _ hg]
  rw [← ht, List.getElem?_take] at hu
  split at hu
  · simpa using hu
  · cases hu

theorem OwnK.frozen {w : World} {B g cap : Nat} {m : List α} (h : OwnK t k c w B g cap m) (o : Nat) : w.frozen? ⟨g, o, none⟩ = false := by
  obtain ⟨cur, hg, _⟩ := h.row
  simp [World.frozen?, hg]

theorem OwnK.below {w w' : World} {B B' g cap : Nat} {m : List α} (h : OwnK t k c w B g cap m) (hb : Below B' w w') (hB : g < B') : OwnK t k c w' B g cap m := by
  obtain ⟨cur, hg, hr⟩ := h.row
  exact ⟨h.base, h.le, h.max, cur, by rw [hb.block g hB]; exact hg, hr⟩

theorem OwnK.later {w w' : World} {B g cap : Nat} {m : List α} (h : OwnK t k c w B g cap m) (hb : Below w.heap.size w w') : OwnK t k c w' B g cap m := h.below hb h.lt

theorem OwnK.other {w : World} {B g cap : Nat} {m : List α} (h : OwnK t k c w B g cap m) (a : Addr) (v : Value) (hne : g ≠ a.block) : OwnK t k c (w.setCell a v) B g cap m := by
  obtain ⟨cur, hg, hr⟩ := h.row
  exact ⟨h.base, h.le, h.max, cur, by rw [Below.heap_setCell _ _ _ _ hne]; exact hg, hr⟩

theorem OwnK.sl {w : World} {B g cap : Nat} {m : List α} (h : OwnK t k c w B g cap m) : SlK c w (.slice (some ⟨g, 0, none⟩) m.length cap) m :=
  ⟨_, _, rfl, h.le, Or.inr ⟨g, 0, rfl, h.rd⟩⟩

theorem OwnK.ofRow {w : World} {B : Nat} {v : Value} {m : List α} (h : w.ownsRow B t k v m.length (cellsK c m)) (hv : v ≠ .slice none 0 0) : ∃ g cap, v = .slice (some ⟨g, 0, none⟩) m.length cap ∧ OwnK t k c w B g cap m := by
  rcases h.2 with ⟨rfl, _⟩ | ⟨g, cap, cur, rfl, h1, h2, h3, h4, h5, h6⟩
  · exact absurd rfl hv
  · exact ⟨g, cap, rfl, h1, h3, h4, cur, h2, h5, h6⟩

theorem OwnK.toRow {w : World} {B g cap : Nat} {m : List α} (E : EncOk k c) (h : OwnK t k c w B g cap m) : w.ownsRow B t k (.slice (some ⟨g, 0, none⟩) m.length cap) m.length (cellsK c m) := by
  obtain ⟨cur, h2, h5, h6⟩ := h.row
  exact ⟨cellsK_length E m, Or.inr ⟨g, cap, cur, rfl, h.base, h2, h.le, h.max, h5, h6⟩⟩

/-- a row of the call's own, or nil, as a slice -/
theorem slK_ofRow {w : World} {B : Nat} {v : Value} {m : List α} (h : w.ownsRow B t k v m.length (cellsK c m)) : SlK c w v m := by
  rcases h.2 with ⟨rfl, h0⟩ | ⟨g, cap, cur, rfl, h1, h2, h3, h4, h5, h6⟩
  · have : m = [] := List.eq_nil_of_length_eq_zero h0
    subst this
    exact SlK.nil w
  · exact (OwnK.mk h1 h3 h4 ⟨cur, h2, h5, h6⟩ : OwnK t k c w B g cap m).sl

/-- one cell of one element is written anew -/
theorem OwnK.setCell {w : World} {B g cap : Nat} {m : List α} (h : OwnK t k c w B g cap m) (E : EncOk k c) {j i : Nat} {x x' : α} (hx : m[j]? = some x) (hi : i < k) {v : Value} (hc : c x' = (c x).set i v) :
    OwnK t k c (w.setCell ⟨g, j * k + i, none⟩ v) B g cap (m.set j x') := by
  obtain ⟨cur, hg, hs, ht⟩ := h.row
  have h1 : (w.setCell ⟨g, j * k + i, none⟩ v).heap[g]? = some (.cells (cur.setIfInBounds (j * k + i) v) t (0, 0)) := by
    rw [setCell_eq_setRow w g (j * k + i) cur _ _ _ hg]; exact setRow_heap w g cur _ _ _ hg
  refine ⟨h.base, by simpa using h.le, h.max, _, h1, by simpa using hs, ?_⟩
  have e : ∀ (l : List α) (j : Nat), l[j]? = some x → (cellsK c l).set (j * k + i) v = cellsK c (l.set j x') := by
    intro l
    induction l with
    | nil => intro j hj; simp at hj
    | cons a r ih =>
      intro j hj
      cases j with
      | zero =>
        simp at hj
        subst hj
        simp only [Nat.zero_mul, Nat.zero_add, cellsK, List.set_cons_zero, hc]
        rw [List.set_append_left _ _ (by rw [E.len]; exact hi)]
      | succ j =>
        simp only [List.getElem?_cons_succ] at hj
        simp only [cellsK, List.set_cons_succ]
        rw [List.set_append_right _ _ (by rw [E.len, Nat.add_mul]; omega), E.len, show (j + 1) * k + i - k = j * k + i by rw [Nat.add_mul]; omega, ih j hj]
  rw [← e m j hx, ← ht]
  simp only [Array.toList_setIfInBounds, List.length_set]
  rw [List.take_set]

/-- append of all of a slice to nil: the same elements in memory of the call's own -/
theorem run_append_copyK {P : Program} {tS : TypeId} {i0 : TypeInfo} {z : Value} {bytes : Nat} (E : EncOk k c) (hu : P.underlying tS = some (.slice t)) (hi : P.info? t = some i0) (hz0 : i0.zero = some z) (hz1 : i0.size = k) (hz2 : i0.bytes = bytes) (hzs : z.cells.size = k) (hk : 0 < k)
    (v : Value) (l : List α) (w : World) (hs : SlK c w v l) (hn : l.length ≤ maxLen) (hby : l.length * bytes ≤ 140737488355328) (ty : TypeId) :
    ∃ v' w', (Builtin.append_ #[tS, tS] ty #[.slice none 0 0, v]).run P w = .ok v' w' ∧ w'.ownsRow w.heap.size t k v' l.length (cellsK c l) ∧ Below w.heap.size w w' := by
  obtain ⟨a, cap, rfl, _, h1⟩ := hs
  cases a with
  | none =>
    have hl : l = [] := by
      rcases h1 with h | ⟨b, off, h, _⟩
      · exact h
      · cases h
    subst hl
    refine ⟨.slice none 0 0, w, ?_, World.ownsRow_nil w _ _ _, Below.refl _ _⟩
    simp [Builtin.append_, run_underlying hu, sizeOf, typeInfo, hi, Builtin.lenOf, Builtin.firstCells, loadCells, loadCellsFrom]
  | some ad =>
    have hnews : ∀ j u, (cellsK c l)[j]? = some u → w.cell? (ad.add j) = some u := by
      rcases h1 with rfl | ⟨b, off, h, hr⟩
      · intro j u hu; simp [cellsK] at hu
      · injection h with h
        subst h
        intro j u hu
        rw [Addr.add_lit]
        exact hr j u hu
    obtain ⟨v', w', hr, ho, hg, hv⟩ := run_append_own (P := P) w w.heap.size tS ty t i0 z k bytes hu hi hz0 hz1 hz2 hzs hk (.slice none 0 0) 0 [] (World.ownsRow_nil w _ _ _) ad l.length cap (cellsK c l) (cellsK_length E l) hnews (cellsK_one E l) (by rw [Nat.zero_add]; exact hn) (by rw [Nat.zero_add]; exact hby) (Nat.le_refl _)
    rw [Nat.zero_add, List.nil_append] at ho
    exact ⟨v', w', hr, ho, (Below.refl _ w).grown hg (Nat.le_refl _) (fun k hk => by simp [Value.ownBlock] at hk)⟩

end

end Go.Proofs.YtcmdoeledmkfmabDoor
/- The leaves of package span, each call by what it answers and what it leaves of memory: within, follows, until's tests are below. -/
set_option linter.unusedSimpArgs false
set_option linter.unusedVariables false
namespace Go.Proofs.YtcmdoeledmkfmabDoor
open Go.RowKit
end Go.Proofs.YtcmdoeledmkfmabDoor
/- What it is that a row of memory holds a list of steps, and that it goes on holding it while the row's block is not written; no condition. -/
set_option linter.unusedSimpArgs false
set_option linter.unusedVariables false
namespace Go.Proofs.YtcmdoeledmkfmabDoor
open Go.RowKit

/-- The cells from off on in block b hold the steps of l. -/
def Rd (w : World) (b off : Nat) (l : List (Int × Int)) : Prop :=
  ∀ j, j < l.length → w.cell? ⟨b, off + j * 2, none⟩ = some (.int .i64 (sAt l j).1) ∧ w.cell? ⟨b, off + j * 2 + 1, none⟩ = some (.int .i64 (sAt l j).2)

theorem Rd.below {w w' : World} {b off : Nat} {l : List (Int × Int)} (h : Rd w b off l) (hb : Below w.heap.size w w') : Rd w' b off l := fun j hj =>
  ⟨(hb.cell (World.block_lt_of_cell? w _ (h j hj).1)).trans (h j hj).1, (hb.cell (World.block_lt_of_cell? w _ (h j hj).2)).trans (h j hj).2⟩

theorem Rd.belowB {B : Nat} {w w' : World} {b off : Nat} {l : List (Int × Int)} (h : Rd w b off l) (hB : b < B) (hb : Below B w w') : Rd w' b off l := fun j hj =>
  ⟨(hb.cell (p := ⟨b, _, none⟩) hB).trans (h j hj).1, (hb.cell (p := ⟨b, _, none⟩) hB).trans (h j hj).2⟩

/-- The value is a slice of the steps of l. -/
def Sl (w : World) (v : Value) (l : List (Int × Int)) : Prop :=
  l.length ≤ 8796093022208 ∧ ∃ (a : Option Addr) (cap : Nat), v = .slice a l.length cap ∧ (l = [] ∨ ∃ b off, a = some ⟨b, off, none⟩ ∧ Rd w b off l)

theorem Sl.below {w w' : World} {v : Value} {l : List (Int × Int)} (h : Sl w v l) (hb : Below w.heap.size w w') : Sl w' v l := by
  obtain ⟨h0, a, cap, hv, h1⟩ := h
  refine ⟨h0, a, cap, hv, ?_⟩
  rcases h1 with h1 | ⟨b, off, ha, hr⟩
  · exact Or.inl h1
  · exact Or.inr ⟨b, off, ha, hr.below hb⟩

/-- an old cell behind a new block -/
theorem cell_old {w : World} {a : Addr} {v : Value} (h : w.cell? a = some v) (o : Obj) : (w.alloc o).cell? a = some v :=
  (((Below.refl w.heap.size w).alloc (Nat.le_refl _) o).cell (World.block_lt_of_cell? w _ h)).trans h

/-- the two cells of a new block -/
theorem new_pair (w : World) (x y : Value) (t : TypeId) : (w.alloc (.cells #[x, y] t)).cell? ⟨w.heap.size, 0, none⟩ = some x ∧ (w.alloc (.cells #[x, y] t)).cell? ⟨w.heap.size, 1, none⟩ = some y := by
  have h : (w.alloc (.cells #[x, y] t)).heap[w.heap.size]? = some (.cells #[x, y] t) := heap_alloc_new w _
  exact ⟨by rw [cell_of_row _ _ _ _ _ _ h]; rfl, by rw [cell_of_row _ _ _ _ _ _ h]; rfl⟩

end Go.Proofs.YtcmdoeledmkfmabDoor
/- Rows of steps that the call itself has made: reading, writing, copying and clearing two cells a step; no condition but those that each theorem bears. -/
set_option linter.unusedSimpArgs false
set_option linter.unusedVariables false
namespace Go.Proofs.YtcmdoeledmkfmabDoor
open Go.RowKit

/-- the cells of steps -/
def cells : List (Int × Int) → List Value
  | [] => []
  | s :: r => .int .i64 s.1 :: .int .i64 s.2 :: cells r

theorem cells_append (a b : List (Int × Int)) : cells (a ++ b) = cells a ++ cells b := by
  induction a with
  | nil => rfl
  | cons s r ih => simp [cells, ih]

theorem cells_length (l : List (Int × Int)) : (cells l).length = l.length * 2 := by
  induction l with
  | nil => rfl
  | cons s r ih => simp [cells, ih]; omega

theorem cells_one (l : List (Int × Int)) : ∀ u ∈ cells l, u.oneCell' = true := by
  induction l with
  | nil => intro u hu; cases hu
  | cons s r ih =>
    intro u hu
    simp [cells] at hu
    rcases hu with rfl | rfl | hu
    · rfl
    · rfl
    · exact ih u hu

theorem cells_get (l : List (Int × Int)) : ∀ j, j < l.length → (cells l)[j * 2]? = some (.int .i64 (sAt l j).1) ∧ (cells l)[j * 2 + 1]? = some (.int .i64 (sAt l j).2) := by
  induction l with
  | nil => intro j hj; simp at hj
  | cons s r ih =>
    intro j hj
    cases j with
    | zero => exact ⟨rfl, rfl⟩
    | succ j =>
      have := ih j (by simpa using hj)
      rw [show (j + 1) * 2 = j * 2 + 1 + 1 by omega]
      exact this

theorem cells_of_get (l : List (Int × Int)) (j : Nat) (u : Value) (h : (cells l)[j]? = some u) : j / 2 < l.length ∧ (j % 2 = 0 → u = .int .i64 (sAt l (j / 2)).1) ∧ (j % 2 = 1 → u = .int .i64 (sAt l (j / 2)).2) := by
  have hj : j < (cells l).length := (List.getElem?_eq_some_iff.1 h).1
  rw [cells_length] at hj
  have hl : j / 2 < l.length := by omega
  obtain ⟨h1, h2⟩ := cells_get l (j / 2) hl
  refine ⟨hl, fun e => ?_, fun e => ?_⟩
  · rw [show j / 2 * 2 = j by omega] at h1; rw [h1] at h; injection h with h; exact h.symm
  · rw [show j / 2 * 2 + 1 = j by omega] at h2; rw [h2] at h; injection h with h; exact h.symm

theorem cells_take (l : List (Int × Int)) (i : Nat) : (cells l).take (i * 2) = cells (l.take i) := by
  induction l generalizing i with
  | nil => simp [cells]
  | cons s r ih =>
    cases i with
    | zero => simp [cells]
    | succ i => rw [show (i + 1) * 2 = i * 2 + 1 + 1 by omega]; simp [cells, ih]

theorem cells_drop (l : List (Int × Int)) (i : Nat) : (cells l).drop (i * 2) = cells (l.drop i) := by
  induction l generalizing i with
  | nil => simp [cells]
  | cons s r ih =>
    cases i with
    | zero => simp [cells]
    | succ i => rw [show (i + 1) * 2 = i * 2 + 1 + 1 by omega]; simp [cells, ih]

section
variable (P : Program)

theorem run_copy_rowK (w : World) (dT sT ty elem : TypeId) (k g o dLen dCap : Nat) (a : Addr) (sLen sCap : Nat) (cur : Array Value) (t : TypeId) (cs : List Value)
    (hu : P.underlying dT = some (.slice elem)) (hs : (P.info? elem).map (·.size) = some k)
    (hg : w.heap[g]? = some (.cells cur t (0, 0))) (hn : cs.length = Nat.min sLen dLen * k)
    (hsrc : ∀ j v, cs[j]? = some v → w.cell? (a.add j) = some v) (hfit : o + cs.length ≤ cur.size) (h1 : ∀ v ∈ cs, v.oneCell' = true) :
    (Builtin.copy_ #[dT, sT] ty #[.slice (some ⟨g, o, none⟩) dLen dCap, .slice (some a) sLen sCap]).run P w =
      .ok (goInt (Nat.min sLen dLen)) (w.setRow g (cur.toList.take o ++ cs ++ cur.toList.drop (o + cs.length)).toArray) := by
  have hl := run_loadCells_list (P := P) w a cs hsrc
  have hst := run_storeCells_at P g o t cs 0 cur w hg (by simpa using hfit) h1
  cases hq : P.info? elem with
  | none => simp [hq] at hs
  | some i =>
    have hi : i.size = k := by simpa [hq] using hs
    simp [Builtin.copy_, run_underlying hu, Builtin.lenOf, Builtin.firstCells, sizeOf, typeInfo, hq, hi, ← hn, hl, hst]

end

/-- copy(dst, src), at two cells an element, where something goes over: the row behind it. -/
theorem wpList_copy_splice2 {P : Program} {w : World} {ops : Array Oper} {rest : List Oper} {o : Oper} {a : Act} {Q : Exit → Act → World → Prop} (hgd : o.guard = none) (d s : Operand) (dT sT : TypeId)
    (ho : o.op = .call { callee := .builtin .copy, args := #[d, s], argTypes := #[dT, sT] }) (elem : TypeId) (hu : P.underlying dT = some (.slice elem)) (hsz : (P.info? elem).map (·.size) = some 2)
    (g off dLen dCap : Nat) (ad : Addr) (sLen sCap : Nat) (hd : a.eval d = .slice (some ⟨g, off, none⟩) dLen dCap) (hs : a.eval s = .slice (some ad) sLen sCap)
    (cur : List Value) (t : TypeId) (hg : w.heap[g]? = some (.cells cur.toArray t (0, 0))) (cs : List Value) (hn : cs.length = Nat.min sLen dLen * 2)
    (hsrc : ∀ j v, cs[j]? = some v → w.cell? (ad.add j) = some v)
    (hfit : off + cs.length ≤ cur.length) (h1 : ∀ v ∈ cs, v.oneCell' = true) (B : Nat) (w0 : World) (hb : Below B w0 w) (hBg : B ≤ g)
    (h : ∀ w', Hid (w'.heap[g]? = some (.cells (splice cur off cs).toArray t (0, 0)) ∧ (∀ k, k ≠ g → w'.heap[k]? = w.heap[k]?) ∧ w'.heap.size = w.heap.size) → Below B w0 w' → wpList P ops Q rest (a.put o.dst (goInt (Nat.min sLen dLen))) w') :
    wpList P ops Q (o :: rest) a w := by
  refine wpList_plain hgd fun K hK => ?_
  have hrun := run_copy_rowK P w dT sT o.type elem 2 g off dLen dCap ad sLen sCap cur.toArray t cs hu hsz hg hn hsrc (by simpa using hfit) h1
  unfold Oper.wp
  simp [execOp, ho, resolve, invoke, builtin, hd, hs, hrun, Result.andThen]
  refine hK _ _ (h _ ?_ (below_setRow hb hBg _))
  exact ⟨by simpa [splice] using setRow_heap w g _ _ t _ hg, fun k hk => setRow_other w g k _ (by omega), by simp [World.setRow]⟩

theorem step_copy_splice2 {P : Program} {ops : Array Oper} {o : Oper} {a : Act} {w : World} {K : Act → World → Prop} {Q : Exit → Act → World → Prop} {E : Prop} (hgd : o.guard = none) (d s : Operand) (dT sT : TypeId)
    (ho : o.op = .call { callee := .builtin .copy, args := #[d, s], argTypes := #[dT, sT] }) (elem : TypeId) (hu : P.underlying dT = some (.slice elem)) (hsz : (P.info? elem).map (·.size) = some 2)
    (g off dLen dCap : Nat) (ad : Addr) (sLen sCap : Nat) (hd : a.eval d = .slice (some ⟨g, off, none⟩) dLen dCap) (hs : a.eval s = .slice (some ad) sLen sCap)
    (cur : List Value) (t : TypeId) (hg : w.heap[g]? = some (.cells cur.toArray t (0, 0))) (cs : List Value) (hn : cs.length = Nat.min sLen dLen * 2)
    (hsrc : ∀ j v, cs[j]? = some v → w.cell? (ad.add j) = some v)
    (hfit : off + cs.length ≤ cur.length) (h1 : ∀ v ∈ cs, v.oneCell' = true) (B : Nat) (w0 : World) (hb : Below B w0 w) (hBg : B ≤ g)
    (h : ∀ w', Hid (w'.heap[g]? = some (.cells (splice cur off cs).toArray t (0, 0)) ∧ (∀ k, k ≠ g → w'.heap[k]? = w.heap[k]?) ∧ w'.heap.size = w.heap.size) → Below B w0 w' → K (a.put o.dst (goInt (Nat.min sLen dLen))) w') :
    if Region.wanted o (yielded ops a.tmps) = true then Oper.wp P o a w K Q else E := by
  have hw : Region.wanted o (yielded ops a.tmps) = true := by simp [Region.wanted, hgd]
  rw [if_pos hw]
  have hrun := run_copy_rowK P w dT sT o.type elem 2 g off dLen dCap ad sLen sCap cur.toArray t cs hu hsz hg hn hsrc (by simpa using hfit) h1
  unfold Oper.wp
  simp [execOp, ho, resolve, invoke, builtin, hd, hs, hrun, Result.andThen]
  refine h _ ?_ (below_setRow hb hBg _)
  exact ⟨by simpa [splice] using setRow_heap w g _ _ t _ hg, fun k hk => setRow_other w g k _ (by omega), by simp [World.setRow]⟩

end Go.Proofs.YtcmdoeledmkfmabDoor
/- slices.Clone and append at a list of steps, and New: the same steps in memory of the call's own; no condition but that the list can be. -/
set_option linter.unusedSimpArgs false
set_option linter.unusedVariables false
namespace Go.Proofs.YtcmdoeledmkfmabDoor
open Go.RowKit
/-- what a row holds, as the cells that an append takes -/
theorem Rd.news {w : World} {b off : Nat} {l : List (Int × Int)} (h : Rd w b off l) : ∀ j u, (cells l)[j]? = some u → w.cell? ((⟨b, off, none⟩ : Addr).add j) = some u := by
  intro j u hu
  obtain ⟨h1, h2, h3⟩ := cells_of_get l j u hu
  rw [Addr.add_lit]
  obtain ⟨c0, c1⟩ := h (j / 2) h1
  rcases Nat.mod_two_eq_zero_or_one j with e | e
  · rw [h2 e, show off + j = off + j / 2 * 2 by omega]; exact c0
  · rw [h3 e, show off + j = off + j / 2 * 2 + 1 by omega]; exact c1

end Go.Proofs.YtcmdoeledmkfmabDoor
/- slices.Insert of one step into a row of the call's own: the step stands at its place in the row that comes back; room or none; the list at most a thousand long. -/
set_option linter.unusedSimpArgs false
set_option linter.unusedVariables false
namespace Go.Proofs.YtcmdoeledmkfmabDoor
open Go.RowKit
/-- a row in which the steps from place i on have been moved up and one has been set there -/
theorem ins_row (L : List Value) (l : List (Int × Int)) (i : Nat) (s : Int × Int) (hi : i ≤ l.length) (hL : (l.length + 1) * 2 ≤ L.length) (h : L.take (l.length * 2) = cells l) :
    (splice (splice L ((i + 1) * 2) (cells (l.drop i))) (i * 2) (cells [s])).take ((l.take i ++ s :: l.drop i).length * 2) = cells (l.take i ++ s :: l.drop i) := by
  have hl : (l.take i ++ s :: l.drop i).length = l.length + 1 := by simp; omega
  have hx : L.take (i * 2) = cells (l.take i) := by
    rw [← cells_take, ← h, List.take_take]
    congr 1
    omega
  have hX : (cells (l.take i)).length = i * 2 := by rw [cells_length, List.length_take]; omega
  have hY : (cells (l.drop i)).length = (l.length - i) * 2 := by rw [cells_length, List.length_drop]
  have hS : (cells [s]).length = 2 := rfl
  have e1 : L.take ((i + 1) * 2) = cells (l.take i) ++ (L.drop (i * 2)).take 2 := by
    rw [← hx, show (i + 1) * 2 = i * 2 + 2 by omega, List.take_add]
  have hZ : ((L.drop (i * 2)).take 2).length = 2 := by rw [List.length_take, List.length_drop]; omega
  rw [hl]
  unfold splice
  rw [hS, hY, e1]
  generalize hZd : (L.drop (i * 2)).take 2 = Z at hZ
  generalize L.drop ((i + 1) * 2 + (l.length - i) * 2) = R
  rw [show cells (l.take i ++ s :: l.drop i) = cells (l.take i) ++ (cells [s] ++ cells (l.drop i)) by rw [cells_append]; rfl]
  generalize cells (l.take i) = X at *
  generalize cells (l.drop i) = Y at *
  generalize cells [s] = S at *
  have a1 : (X ++ Z ++ (Y ++ R)).take (i * 2) = X := by rw [List.append_assoc, List.take_append_of_le_length (by omega)]; exact List.take_of_length_le (by omega)
  have a2 : (X ++ Z ++ (Y ++ R)).drop (i * 2 + 2) = Y ++ R := by
    rw [List.drop_append, List.drop_of_length_le (by simp; omega)]
    simp [hX, hZ]
  rw [a1, a2, show X ++ (S ++ (Y ++ R)) = (X ++ (S ++ Y)) ++ R by simp]
  rw [List.take_append_of_le_length (by simp; omega)]
  exact List.take_of_length_le (by simp; omega)

end Go.Proofs.YtcmdoeledmkfmabDoor
/- slices.Insert of one step in the midst of a row of the call's own that has no room: a new row; and all roads in one; the list at most a thousand long. -/
set_option linter.unusedSimpArgs false
set_option linter.unusedVariables false
namespace Go.Proofs.YtcmdoeledmkfmabDoor
open Go.RowKit

/-- a row in which one step has been set at place i and those from there on behind it -/
theorem ins_row2 (L : List Value) (l : List (Int × Int)) (i : Nat) (s : Int × Int) (hi : i ≤ l.length) (hL : (l.length + 1) * 2 ≤ L.length) (h : L.take (i * 2) = cells (l.take i)) :
    (splice (splice L (i * 2) (cells [s])) ((i + 1) * 2) (cells (l.drop i))).take ((l.take i ++ s :: l.drop i).length * 2) = cells (l.take i ++ s :: l.drop i) := by
  have hl : (l.take i ++ s :: l.drop i).length = l.length + 1 := by simp; omega
  have hX : (cells (l.take i)).length = i * 2 := by rw [cells_length, List.length_take]; omega
  have hY : (cells (l.drop i)).length = (l.length - i) * 2 := by rw [cells_length, List.length_drop]
  have hS : (cells [s]).length = 2 := rfl
  rw [hl]
  unfold splice
  rw [hS, hY, h]
  generalize L.drop (i * 2 + 2) = R0
  rw [show cells (l.take i ++ s :: l.drop i) = cells (l.take i) ++ (cells [s] ++ cells (l.drop i)) by rw [cells_append]; rfl]
  generalize cells (l.take i) = X at *
  generalize cells (l.drop i) = Y at *
  generalize cells [s] = S at *
  have a1 : (X ++ (S ++ R0)).take ((i + 1) * 2) = X ++ S := by rw [← List.append_assoc, List.take_append_of_le_length (by simp; omega)]; exact List.take_of_length_le (by simp; omega)
  rw [a1]
  generalize (X ++ (S ++ R0)).drop ((i + 1) * 2 + (l.length - i) * 2) = R
  rw [show X ++ S ++ (Y ++ R) = (X ++ (S ++ Y)) ++ R by simp]
  rw [List.take_append_of_le_length (by simp; omega)]
  exact List.take_of_length_le (by simp; omega)

end Go.Proofs.YtcmdoeledmkfmabDoor
/- cut of package span: of steps in a row of the call's own, steps that say the same and of which one begins at the time. -/
set_option linter.unusedSimpArgs false
set_option linter.unusedVariables false
namespace Go.Proofs.YtcmdoeledmkfmabDoor
open Go.RowKit
end Go.Proofs.YtcmdoeledmkfmabDoor
/- slices.CompactFunc at steps that are alike, and join of package span: of steps in a row of the call's own, those of which neighbours that are alike have become one. -/
set_option linter.unusedSimpArgs false
set_option linter.unusedVariables false
namespace Go.Proofs.YtcmdoeledmkfmabDoor
open Go.RowKit
open Go.Sort (grow)

theorem zeros_one (n : Nat) : ∀ u ∈ (Builtin.zeroCells (Value.agg #[.int .i64 0, .int .i64 0]).cells n).toList, u.oneCell' = true := by
  intro u hu
  simp only [Builtin.zeroCells, Array.toList_map, List.mem_map] at hu
  obtain ⟨i, _, rfl⟩ := hu
  have h2 : i % (Value.agg #[.int .i64 0, .int .i64 0]).cells.size = i % 2 := rfl
  rw [h2]
  rcases Nat.mod_two_eq_zero_or_one i with e | e <;> rw [e] <;> rfl

end Go.Proofs.YtcmdoeledmkfmabDoor
/- Good of package span: for every list of steps that a row of memory holds it answers what P1.1 says, and nothing that lay in memory turns. -/
set_option linter.unusedSimpArgs false
set_option linter.unusedVariables false
namespace Go.Proofs.YtcmdoeledmkfmabDoor
open Go.RowKit
open Go.Sort (grow)
end Go.Proofs.YtcmdoeledmkfmabDoor
/- until, At and Fit of package span: for every list of steps that a row of memory holds they answer what P1.2 and P1.4 say, and nothing that lay in memory turns. -/
set_option linter.unusedSimpArgs false
set_option linter.unusedVariables false
namespace Go.Proofs.YtcmdoeledmkfmabDoor
open Go.RowKit
/-- what At answers -/
def atI (l : List (Int × Int)) (t : Int) : Int := if goodB l = true ∧ 0 ≤ t ∧ t < 300 then val l t else 0

/-- what Fit may answer -/
def FitAns (l : List (Int × Int)) (fr long n r : Int) : Prop :=
  if goodB l = true ∧ 0 ≤ fr ∧ 1 ≤ long ∧ long ≤ 300 ∧ 0 ≤ n then FitIs l fr long n r else r = -1

end Go.Proofs.YtcmdoeledmkfmabDoor
/- Fit of package span, of good profiles and numbers: it answers the first time that P1.4 asks for, or -1. -/
set_option linter.unusedSimpArgs false
set_option linter.unusedVariables false
namespace Go.Proofs.YtcmdoeledmkfmabDoor
open Go.RowKit

/-- when the step at place k begins, or all ends -/
def begn (l : List (Int × Int)) (k : Nat) : Int := if k < l.length then (sAt l k).1 else 300

end Go.Proofs.YtcmdoeledmkfmabDoor
/- shift of package span, and with it Take and Give: for every slice of steps and numbers they answer what P1.3 says, and nothing that lay in memory turns. -/
set_option linter.unusedSimpArgs false
set_option linter.unusedVariables false
namespace Go.Proofs.YtcmdoeledmkfmabDoor
open Go.RowKit
/-- the arguments that P1.3 lets by -/
def okArgs (l : List (Int × Int)) (fr to n : Int) : Prop := goodB l = true ∧ inB n = true ∧ 0 ≤ fr ∧ fr ≤ to ∧ to ≤ 300

end Go.Proofs.YtcmdoeledmkfmabDoor
/- shift of package span at good profiles and numbers, and Take and Give out of it: the profile with so many more or fewer, or it as it was and false. -/
set_option linter.unusedSimpArgs false
set_option linter.unusedVariables false
namespace Go.Proofs.YtcmdoeledmkfmabDoor
open Go.RowKit

/-- what shift answers at good arguments -/
def ShiftAns (l : List (Int × Int)) (fr to d : Int) (w' : World) (v' : Value) (ok : Bool) : Prop :=
  (ok = true ∧ ∃ r, Sl w' v' r ∧ ShiftSpec l fr to d r) ∨ (ok = false ∧ Sl w' v' l ∧ ∃ s, fr ≤ s ∧ s < to ∧ ¬ (0 ≤ val l s + d ∧ val l s + d ≤ 16))

/-- what Take (d = -n) and Give (d = n) answer -/
def TakeAns (l : List (Int × Int)) (fr to n d : Int) (w' : World) (v' : Value) (ok : Bool) : Prop :=
  (okArgs l fr to n ∧ ShiftAns l fr to d w' v' ok) ∨ (¬ okArgs l fr to n ∧ ok = false ∧ Sl w' v' l)

end Go.Proofs.YtcmdoeledmkfmabDoor
/- Take of package span once more: what it answers lies in memory of its own. -/
set_option linter.unusedSimpArgs false
set_option linter.unusedVariables false
namespace Go.Proofs.YtcmdoeledmkfmabDoor
open Go.RowKit

/-- a slice in a block from B on -/
def Far (B : Nat) (v : Value) : Prop := ∃ g off n cap, v = .slice (some ⟨g, off, none⟩) n cap ∧ B ≤ g

theorem Far.mono {B B' : Nat} {v : Value} (h : Far B v) (hb : B' ≤ B) : Far B' v := by
  obtain ⟨g, off, n, cap, e, h1⟩ := h
  exact ⟨g, off, n, cap, e, by omega⟩

theorem Sl.other {w : World} {v : Value} {l : List (Int × Int)} {B g k : Nat} (h : Sl w v l) (F : Far B v) (hg : g < B) (x : Value) : Sl (w.setCell ⟨g, k, none⟩ x) v l := by
  obtain ⟨g', off, n, cap, rfl, hB⟩ := F
  obtain ⟨hn, a, cap', e, h1⟩ := h
  refine ⟨hn, a, cap', e, ?_⟩
  rcases h1 with h1 | ⟨b, o, rfl, hr⟩
  · exact Or.inl h1
  · refine Or.inr ⟨b, o, rfl, ?_⟩
    injection e with e1
    injection e1 with e1
    injection e1 with e1
    have hne : b ≠ g := by omega
    intro j hj
    have := hr j hj
    have hc : ∀ q, (w.setCell ⟨g, k, none⟩ x).cell? ⟨b, q, none⟩ = w.cell? ⟨b, q, none⟩ := fun q => by
      have hh := Below.heap_setCell w ⟨g, k, none⟩ x b hne
      simp [World.cell?, hh]
    rw [hc, hc]
    exact this

end Go.Proofs.YtcmdoeledmkfmabDoor
/- spans of the statements' packages: it answers true. -/
set_option linter.unusedSimpArgs false
set_option linter.unusedVariables false
namespace Go.Proofs.YtcmdoeledmkfmabDoor
open Go.RowKit

/-- what is left of all when four are taken from 5 to 9 -/
def R3 : List (Int × Int) := [(0, 16), (5, 12), (9, 16)]

theorem good1 : Good [(0, 16)] := goodB_iff.1 (by decide)
theorem good3 : Good R3 := goodB_iff.1 (by decide)

theorem val1 {s : Int} (h : 0 ≤ s) : val [(0, 16)] s = 16 := by
  simp only [val, valFrom]
  rw [if_pos h]

theorem val3 {s : Int} (h : 0 ≤ s) : val R3 s = if 5 ≤ s ∧ s < 9 then 12 else 16 := by
  simp only [val, valFrom, R3]
  rw [if_pos h]
  by_cases h9 : 9 ≤ s
  · rw [if_pos h9, if_neg (by omega)]
  · rw [if_neg h9]
    by_cases h5 : 5 ≤ s
    · rw [if_pos h5, if_pos (by omega)]
    · rw [if_neg h5, if_neg (by omega)]

theorem spans_take {w : World} {v : Value} {ok : Bool} (h : TakeAns [(0, 16)] 5 9 4 (-4) w v ok) : ok = true ∧ Sl w v R3 := by
  have hok : okArgs [(0, 16)] 5 9 4 := ⟨goodB_iff.2 good1, by decide, by omega, by omega, by omega⟩
  rcases h with ⟨_, h | ⟨_, _, s, h1, h2, h3⟩⟩ | ⟨hn, _⟩
  · obtain ⟨rfl, r, hs, hr⟩ := h
    have e : r = R3 := same_profile hr.good good3 fun t h0 h3 => by
      rw [hr.says t h0 h3, val1 h0, val3 h0]
      by_cases c : 5 ≤ t ∧ t < 9
      · rw [if_pos c, if_pos c]; omega
      · rw [if_neg c, if_neg c]; omega
    subst e
    exact ⟨rfl, hs⟩
  · rw [val1 (by omega)] at h3
    exact absurd ⟨by omega, by omega⟩ h3
  · exact absurd hok hn

theorem spans_at : atI R3 7 = 12 := by
  unfold atI
  rw [if_pos ⟨goodB_iff.2 good3, by omega, by omega⟩, val3 (by omega), if_pos (by omega)]

theorem spans_fit {r : Int} (h : FitAns R3 0 10 13 r) : r = 9 := by
  unfold FitAns at h
  rw [if_pos ⟨goodB_iff.2 good3, by omega, by omega, by omega, by omega⟩] at h
  have r9 : room R3 13 9 10 := fun s h1 h2 => by rw [val3 (by omega), if_neg (by omega)]; omega
  have rn : ∀ t, 0 ≤ t → t < 9 → ¬ room R3 13 t 10 := fun t h0 h9 hr => by
    by_cases h5 : t < 5
    · have := hr 5 (by omega) (by omega)
      rw [val3 (by omega), if_pos (by omega)] at this
      omega
    · have := hr t (by omega) (by omega)
      rw [val3 (by omega), if_pos (by omega)] at this
      omega
  rcases h with ⟨_, hn⟩ | ⟨h1, h2, h3, h4⟩
  · exact absurd r9 (hn 9 (by omega) (by omega))
  · have : ¬ r < 9 := fun hc => rn r h1 hc h3
    have : ¬ 9 < r := fun hc => h4 9 (by omega) hc r9
    omega

end Go.Proofs.YtcmdoeledmkfmabDoor
