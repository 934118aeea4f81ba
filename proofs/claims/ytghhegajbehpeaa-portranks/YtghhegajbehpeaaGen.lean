/- Slices and rows of elements of whatever kind and number of cells: reading, laying, writing, appending; no condition but those that each theorem bears. -/
import Derived.Test.YtghhegajbehpeaaProg
import Derived.KernelRfl
import Derived.WalkKit
import Derived.WalkSpells
import Derived.WalkLawsBesides
import Derived.Laws.CopyOwn
import Derived.Lib.SliceRun
import Derived.Lib.AppendZeros
set_option linter.unusedSimpArgs false
set_option linter.unusedVariables false
namespace Go.Proofs.Ytghhegajbehpeaa
open Go.RowKit

/-- How an element lies in cells: k of them, each one cell. -/
structure EncOk {α : Type} (k : Nat) (c : α → List Value) : Prop where
  len : ∀ x, (c x).length = k
  one : ∀ x, ∀ v ∈ c x, v.oneCell' = true

section
variable {α : Type} {k : Nat} {c : α → List Value}

/-- the cells of elements, one behind the other -/
def cellsK (c : α → List Value) : List α → List Value
  | [] => []
  | s :: r => c s ++ cellsK c r

theorem cellsK_append (a b : List α) : cellsK c (a ++ b) = cellsK c a ++ cellsK c b := by
  induction a with
  | nil => rfl
  | cons s r ih => simp [cellsK, ih]

theorem cellsK_length (E : EncOk k c) (l : List α) : (cellsK c l).length = l.length * k := by
  induction l with
  | nil => simp [cellsK]
  | cons s r ih => simp only [cellsK, List.length_append, E.len, ih, List.length_cons]; rw [Nat.add_mul]; omega

theorem cellsK_one (E : EncOk k c) (l : List α) : ∀ u ∈ cellsK c l, u.oneCell' = true := by
  induction l with
  | nil => intro u hu; cases hu
  | cons s r ih =>
    intro u hu
    rcases List.mem_append.1 hu with h | h
    · exact E.one s u h
    · exact ih u h

/-- the i-th cell of the j-th element -/
theorem cellsK_get (E : EncOk k c) (l : List α) : ∀ (j : Nat) (x : α), l[j]? = some x → ∀ i, i < k → (cellsK c l)[j * k + i]? = (c x)[i]? := by
  induction l with
  | nil => intro j x hx; simp at hx
  | cons s r ih =>
    intro j x hx i hi
    cases j with
    | zero =>
      simp at hx
      subst hx
      simp only [Nat.zero_mul, Nat.zero_add, cellsK]
      rw [List.getElem?_append_left (by rw [E.len]; exact hi)]
    | succ j =>
      simp only [List.getElem?_cons_succ] at hx
      simp only [cellsK]
      rw [List.getElem?_append_right (by rw [E.len, Nat.add_mul]; omega), E.len, show (j + 1) * k + i - k = j * k + i by rw [Nat.add_mul]; omega]
      exact ih j x hx i hi

theorem cellsK_take (E : EncOk k c) (l : List α) (i : Nat) : (cellsK c l).take (i * k) = cellsK c (l.take i) := by
  induction l generalizing i with
  | nil => simp [cellsK]
  | cons s r ih =>
    cases i with
    | zero => simp [cellsK]
    | succ i =>
      simp only [cellsK, List.take_succ_cons]
      rw [List.take_append, E.len, List.take_of_length_le (by rw [E.len, Nat.add_mul]; omega), show (i + 1) * k - k = i * k by rw [Nat.add_mul]; omega, ih]

theorem cellsK_drop (E : EncOk k c) (l : List α) (i : Nat) : (cellsK c l).drop (i * k) = cellsK c (l.drop i) := by
  induction l generalizing i with
  | nil => simp [cellsK]
  | cons s r ih =>
    cases i with
    | zero => simp [cellsK]
    | succ i =>
      simp only [cellsK, List.drop_succ_cons]
      rw [List.drop_append, E.len, List.drop_of_length_le (by rw [E.len, Nat.add_mul]; omega), show (i + 1) * k - k = i * k by rw [Nat.add_mul]; omega, ih, List.nil_append]

/-- The cells from off on in block b hold the elements of l. -/
def RdK (c : α → List Value) (w : World) (b off : Nat) (l : List α) : Prop := ∀ j u, (cellsK c l)[j]? = some u → w.cell? ⟨b, off + j, none⟩ = some u

theorem RdK.below {w w' : World} {b off : Nat} {l : List α} (h : RdK c w b off l) (hb : Below w.heap.size w w') : RdK c w' b off l := fun j u hu =>
  (hb.cell (World.block_lt_of_cell? w _ (h j u hu))).trans (h j u hu)

theorem RdK.belowB {B : Nat} {w w' : World} {b off : Nat} {l : List α} (h : RdK c w b off l) (hB : b < B) (hb : Below B w w') : RdK c w' b off l := fun j u hu =>
  (hb.cell (p := ⟨b, _, none⟩) hB).trans (h j u hu)

theorem RdK.at {w : World} {b off : Nat} {l : List α} (h : RdK c w b off l) (E : EncOk k c) {j : Nat} {x : α} (hx : l[j]? = some x) {i : Nat} {u : Value} (hu : (c x)[i]? = some u) : w.cell? ⟨b, off + (j * k + i), none⟩ = some u := by
  have hi : i < k := by have := (List.getElem?_eq_some_iff.1 hu).1; rw [E.len] at this; exact this
  exact h (j * k + i) u (by rw [cellsK_get E l j x hx i hi]; exact hu)

/-- The value is a slice of the elements of l. -/
def SlK (c : α → List Value) (w : World) (v : Value) (l : List α) : Prop :=
  ∃ (a : Option Addr) (cap : Nat), v = .slice a l.length cap ∧ l.length ≤ cap ∧ (l = [] ∨ ∃ b off, a = some ⟨b, off, none⟩ ∧ RdK c w b off l)

theorem SlK.below {w w' : World} {v : Value} {l : List α} (h : SlK c w v l) (hb : Below w.heap.size w w') : SlK c w' v l := by
  obtain ⟨a, cap, hv, h0, h1⟩ := h
  refine ⟨a, cap, hv, h0, ?_⟩
  rcases h1 with h1 | ⟨b, off, ha, hr⟩
  · exact Or.inl h1
  · exact Or.inr ⟨b, off, ha, hr.below hb⟩

theorem SlK.nil (w : World) : SlK c w (.slice none 0 0) [] := ⟨none, 0, rfl, Nat.le_refl _, Or.inl rfl⟩

/-- From base B on, block g is a row of room for cap elements of type t, whose first ones are those of m. -/
structure OwnK (t : TypeId) (k : Nat) (c : α → List Value) (w : World) (B g cap : Nat) (m : List α) : Prop where
  base : B ≤ g
  le : m.length ≤ cap
  max : cap ≤ maxLen
  row : ∃ cur : Array Value, w.heap[g]? = some (.cells cur t (0, 0)) ∧ cur.size = cap * k ∧ cur.toList.take (m.length * k) = cellsK c m

variable {t : TypeId}

theorem OwnK.lt {w : World} {B g cap : Nat} {m : List α} (h : OwnK t k c w B g cap m) : g < w.heap.size := by
  obtain ⟨cur, hg, _⟩ := h.row
  exact (Array.getElem?_eq_some_iff.1 hg).1

theorem OwnK.mono {w : World} {B B' g cap : Nat} {m : List α} (h : OwnK t k c w B g cap m) (hB : B' ≤ B) : OwnK t k c w B' g cap m := ⟨by have := h.base; omega, h.le, h.max, h.row⟩

theorem OwnK.rd {w : World} {B g cap : Nat} {m : List α} (h : OwnK t k c w B g cap m) : RdK c w g 0 m := fun j u hu => by
  obtain ⟨cur, hg, hs, ht⟩ := h.row
  rw [Nat.zero_add, cell_of_row _ _ _ _ _ _ hg]
  rw [← ht, List.getElem?_take] at hu
  split at hu
  · simpa using hu
  · cases hu

theorem OwnK.frozen {w : World} {B g cap : Nat} {m : List α} (h : OwnK t k c w B g cap m) (o : Nat) : w.frozen? ⟨g, o, none⟩ = false := by
  obtain ⟨cur, hg, _⟩ := h.row
  simp [World.frozen?, hg]

theorem OwnK.below {w w' : World} {B B' g cap : Nat} {m : List α} (h : OwnK t k c w B g cap m) (hb : Below B' w w') (hB : g < B') : OwnK t k c w' B g cap m := by
  obtain ⟨cur, hg, hr⟩ := h.row
  exact ⟨h.base, h.le, h.max, cur, by rw [hb.block g hB]; exact hg, hr⟩

theorem OwnK.later {w w' : World} {B g cap : Nat} {m : List α} (h : OwnK t k c w B g cap m) (hb : Below w.heap.size w w') : OwnK t k c w' B g cap m := h.below hb h.lt

theorem OwnK.other {w : World} {B g cap : Nat} {m : List α} (h : OwnK t k c w B g cap m) (a : Addr) (v : Value) (hne : g ≠ a.block) : OwnK t k c (w.setCell a v) B g cap m := by
  obtain ⟨cur, hg, hr⟩ := h.row
  exact ⟨h.base, h.le, h.max, cur, by rw [Below.heap_setCell _ _ _ _ hne]; exact hg, hr⟩

theorem OwnK.sl {w : World} {B g cap : Nat} {m : List α} (h : OwnK t k c w B g cap m) : SlK c w (.slice (some ⟨g, 0, none⟩) m.length cap) m :=
  ⟨_, _, rfl, h.le, Or.inr ⟨g, 0, rfl, h.rd⟩⟩

theorem OwnK.ofRow {w : World} {B : Nat} {v : Value} {m : List α} (h : w.ownsRow B t k v m.length (cellsK c m)) (hv : v ≠ .slice none 0 0) : ∃ g cap, v = .slice (some ⟨g, 0, none⟩) m.length cap ∧ OwnK t k c w B g cap m := by
  rcases h.2 with ⟨rfl, _⟩ | ⟨g, cap, cur, rfl, h1, h2, h3, h4, h5, h6⟩
  · exact absurd rfl hv
  · exact ⟨g, cap, rfl, h1, h3, h4, cur, h2, h5, h6⟩

theorem OwnK.toRow {w : World} {B g cap : Nat} {m : List α} (E : EncOk k c) (h : OwnK t k c w B g cap m) : w.ownsRow B t k (.slice (some ⟨g, 0, none⟩) m.length cap) m.length (cellsK c m) := by
  obtain ⟨cur, h2, h5, h6⟩ := h.row
  exact ⟨cellsK_length E m, Or.inr ⟨g, cap, cur, rfl, h.base, h2, h.le, h.max, h5, h6⟩⟩

/-- a row of the call's own, or nil, as a slice -/
theorem slK_ofRow {w : World} {B : Nat} {v : Value} {m : List α} (h : w.ownsRow B t k v m.length (cellsK c m)) : SlK c w v m := by
  rcases h.2 with ⟨rfl, h0⟩ | ⟨g, cap, cur, rfl, h1, h2, h3, h4, h5, h6⟩
  · have : m = [] := List.eq_nil_of_length_eq_zero h0
    subst this
    exact SlK.nil w
  · exact (OwnK.mk h1 h3 h4 ⟨cur, h2, h5, h6⟩ : OwnK t k c w B g cap m).sl

/-- one cell of one element is written anew -/
theorem OwnK.setCell {w : World} {B g cap : Nat} {m : List α} (h : OwnK t k c w B g cap m) (E : EncOk k c) {j i : Nat} {x x' : α} (hx : m[j]? = some x) (hi : i < k) {v : Value} (hc : c x' = (c x).set i v) :
    OwnK t k c (w.setCell ⟨g, j * k + i, none⟩ v) B g cap (m.set j x') := by
  obtain ⟨cur, hg, hs, ht⟩ := h.row
  have h1 : (w.setCell ⟨g, j * k + i, none⟩ v).heap[g]? = some (.cells (cur.setIfInBounds (j * k + i) v) t (0, 0)) := by
    rw [setCell_eq_setRow w g (j * k + i) cur _ _ _ hg]; exact setRow_heap w g cur _ _ _ hg
  refine ⟨h.base, by simpa using h.le, h.max, _, h1, by simpa using hs, ?_⟩
  have e : ∀ (l : List α) (j : Nat), l[j]? = some x → (cellsK c l).set (j * k + i) v = cellsK c (l.set j x') := by
    intro l
    induction l with
    | nil => intro j hj; simp at hj
    | cons a r ih =>
      intro j hj
      cases j with
      | zero =>
        simp at hj
        subst hj
        simp only [Nat.zero_mul, Nat.zero_add, cellsK, List.set_cons_zero, hc]
        rw [List.set_append_left _ _ (by rw [E.len]; exact hi)]
      | succ j =>
        simp only [List.getElem?_cons_succ] at hj
        simp only [cellsK, List.set_cons_succ]
        rw [List.set_append_right _ _ (by rw [E.len, Nat.add_mul]; omega), E.len, show (j + 1) * k + i - k = j * k + i by rw [Nat.add_mul]; omega, ih j hj]
  rw [← e m j hx, ← ht]
  simp only [Array.toList_setIfInBounds, List.length_set]
  rw [List.take_set]

/-- append of all of a slice to nil: the same elements in memory of the call's own -/
theorem run_append_copyK {P : Program} {tS : TypeId} {i0 : TypeInfo} {z : Value} {bytes : Nat} (E : EncOk k c) (hu : P.underlying tS = some (.slice t)) (hi : P.info? t = some i0) (hz0 : i0.zero = some z) (hz1 : i0.size = k) (hz2 : i0.bytes = bytes) (hzs : z.cells.size = k) (hk : 0 < k)
    (v : Value) (l : List α) (w : World) (hs : SlK c w v l) (hn : l.length ≤ maxLen) (hby : l.length * bytes ≤ 140737488355328) (ty : TypeId) :
    ∃ v' w', (Builtin.append_ #[tS, tS] ty #[.slice none 0 0, v]).run P w = .ok v' w' ∧ w'.ownsRow w.heap.size t k v' l.length (cellsK c l) ∧ Below w.heap.size w w' := by
  obtain ⟨a, cap, rfl, _, h1⟩ := hs
  cases a with
  | none =>
    have hl : l = [] := by
      rcases h1 with h | ⟨b, off, h, _⟩
      · exact h
      · cases h
    subst hl
    refine ⟨.slice none 0 0, w, ?_, World.ownsRow_nil w _ _ _, Below.refl _ _⟩
    simp [Builtin.append_, run_underlying hu, sizeOf, typeInfo, hi, Builtin.lenOf, Builtin.firstCells, loadCells, loadCellsFrom]
  | some ad =>
    have hnews : ∀ j u, (cellsK c l)[j]? = some u → w.cell? (ad.add j) = some u := by
      rcases h1 with rfl | ⟨b, off, h, hr⟩
      · intro j u hu; simp [cellsK] at hu
      · injection h with h
        subst h
        intro j u hu
        rw [Addr.add_lit]
        exact hr j u hu
    obtain ⟨v', w', hr, ho, hg, hv⟩ := run_append_own (P := P) w w.heap.size tS ty t i0 z k bytes hu hi hz0 hz1 hz2 hzs hk (.slice none 0 0) 0 [] (World.ownsRow_nil w _ _ _) ad l.length cap (cellsK c l) (cellsK_length E l) hnews (cellsK_one E l) (by rw [Nat.zero_add]; exact hn) (by rw [Nat.zero_add]; exact hby) (Nat.le_refl _)
    rw [Nat.zero_add, List.nil_append] at ho
    exact ⟨v', w', hr, ho, (Below.refl _ w).grown hg (Nat.le_refl _) (fun k hk => by simp [Value.ownBlock] at hk)⟩

end

end Go.Proofs.Ytghhegajbehpeaa
