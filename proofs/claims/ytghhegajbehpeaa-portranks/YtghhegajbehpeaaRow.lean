/- Rows of steps that the call itself has made: reading, writing, copying and clearing two cells a step; no condition but those that each theorem bears. -/
import Derived.Test.YtghhegajbehpeaaMem
import Derived.Laws.CopyOwn
import Derived.Lib.SliceRun
import Derived.Lib.Overlaps
import Derived.Lib.AppendZerosOnto
set_option linter.unusedSimpArgs false
set_option linter.unusedVariables false
namespace Go.Proofs.Ytghhegajbehpeaa
open Go.RowKit

/-- the cells of steps -/
def cells : List (Int × Int) → List Value
  | [] => []
  | s :: r => .int .i64 s.1 :: .int .i64 s.2 :: cells r

theorem cells_append (a b : List (Int × Int)) : cells (a ++ b) = cells a ++ cells b := by
  induction a with
  | nil => rfl
  | cons s r ih => simp [cells, ih]

theorem cells_length (l : List (Int × Int)) : (cells l).length = l.length * 2 := by
  induction l with
  | nil => rfl
  | cons s r ih => simp [cells, ih]; omega

theorem cells_one (l : List (Int × Int)) : ∀ u ∈ cells l, u.oneCell' = true := by
  induction l with
  | nil => intro u hu; cases hu
  | cons s r ih =>
    intro u hu
    simp [cells] at hu
    rcases hu with rfl | rfl | hu
    · rfl
    · rfl
    · exact ih u hu

theorem cells_get (l : List (Int × Int)) : ∀ j, j < l.length → (cells l)[j * 2]? = some (.int .i64 (sAt l j).1) ∧ (cells l)[j * 2 + 1]? = some (.int .i64 (sAt l j).2) := by
  induction l with
  | nil => intro j hj; simp at hj
  | cons s r ih =>
    intro j hj
    cases j with
    | zero => exact ⟨rfl, rfl⟩
    | succ j =>
      have := ih j (by simpa using hj)
      rw [show (j + 1) * 2 = j * 2 + 1 + 1 by omega]
      exact this

theorem cells_of_get (l : List (Int × Int)) (j : Nat) (u : Value) (h : (cells l)[j]? = some u) : j / 2 < l.length ∧ (j % 2 = 0 → u = .int .i64 (sAt l (j / 2)).1) ∧ (j % 2 = 1 → u = .int .i64 (sAt l (j / 2)).2) := by
  have hj : j < (cells l).length := (List.getElem?_eq_some_iff.1 h).1
  rw [cells_length] at hj
  have hl : j / 2 < l.length := by omega
  obtain ⟨h1, h2⟩ := cells_get l (j / 2) hl
  refine ⟨hl, fun e => ?_, fun e => ?_⟩
  · rw [show j / 2 * 2 = j by omega] at h1; rw [h1] at h; injection h with h; exact h.symm
  · rw [show j / 2 * 2 + 1 = j by omega] at h2; rw [h2] at h; injection h with h; exact h.symm

theorem cells_take (l : List (Int × Int)) (i : Nat) : (cells l).take (i * 2) = cells (l.take i) := by
  induction l generalizing i with
  | nil => simp [cells]
  | cons s r ih =>
    cases i with
    | zero => simp [cells]
    | succ i => rw [show (i + 1) * 2 = i * 2 + 1 + 1 by omega]; simp [cells, ih]

theorem cells_drop (l : List (Int × Int)) (i : Nat) : (cells l).drop (i * 2) = cells (l.drop i) := by
  induction l generalizing i with
  | nil => simp [cells]
  | cons s r ih =>
    cases i with
    | zero => simp [cells]
    | succ i => rw [show (i + 1) * 2 = i * 2 + 1 + 1 by omega]; simp [cells, ih]

/-- From base B on, block g is a row of cap steps' room, whose first steps are those of m. -/
structure OwnG (w : World) (B g cap : Nat) (m : List (Int × Int)) : Prop where
  base : B ≤ g
  le : m.length ≤ cap
  max : cap ≤ maxLen
  row : ∃ cur : Array Value, w.heap[g]? = some (.cells cur 31 (0, 0)) ∧ cur.size = cap * 2 ∧ cur.toList.take (m.length * 2) = cells m

theorem OwnG.lt {w : World} {B g cap : Nat} {m : List (Int × Int)} (h : OwnG w B g cap m) : g < w.heap.size := by
  obtain ⟨cur, hg, _⟩ := h.row
  exact (Array.getElem?_eq_some_iff.1 hg).1

theorem OwnG.mono {w : World} {B B' g cap : Nat} {m : List (Int × Int)} (h : OwnG w B g cap m) (hB : B' ≤ B) : OwnG w B' g cap m := ⟨by have := h.base; omega, h.le, h.max, h.row⟩

theorem OwnG.at {w : World} {B g cap : Nat} {m : List (Int × Int)} (h : OwnG w B g cap m) {j : Nat} {u : Value} (hu : (cells m)[j]? = some u) : w.cell? ⟨g, j, none⟩ = some u := by
  obtain ⟨cur, hg, hs, ht⟩ := h.row
  rw [cell_of_row _ _ _ _ _ _ hg]
  rw [← ht, List.getElem?_take] at hu
  split at hu
  · simpa using hu
  · cases hu

theorem OwnG.rd {w : World} {B g cap : Nat} {m : List (Int × Int)} (h : OwnG w B g cap m) : Rd w g 0 m := fun j hj => by
  obtain ⟨h1, h2⟩ := cells_get m j hj
  rw [Nat.zero_add]
  exact ⟨h.at h1, h.at h2⟩

theorem OwnG.frozen {w : World} {B g cap : Nat} {m : List (Int × Int)} (h : OwnG w B g cap m) (o : Nat) : w.frozen? ⟨g, o, none⟩ = false := by
  obtain ⟨cur, hg, _⟩ := h.row
  simp [World.frozen?, hg]

theorem OwnG.there {w : World} {B g cap : Nat} {m : List (Int × Int)} (h : OwnG w B g cap m) (o : Nat) (ho : o < cap * 2) : (w.cell? ⟨g, o, none⟩).isSome = true := by
  obtain ⟨cur, hg, hs, _⟩ := h.row
  rw [cell_of_row _ _ _ _ _ _ hg]
  simp [hs, ho]

theorem OwnG.below {w w' : World} {B B' g cap : Nat} {m : List (Int × Int)} (h : OwnG w B g cap m) (hb : Below B' w w') (hB : g < B') : OwnG w' B g cap m := by
  obtain ⟨cur, hg, hr⟩ := h.row
  exact ⟨h.base, h.le, h.max, cur, by rw [hb.block g hB]; exact hg, hr⟩

theorem OwnG.later {w w' : World} {B g cap : Nat} {m : List (Int × Int)} (h : OwnG w B g cap m) (hb : Below w.heap.size w w') : OwnG w' B g cap m := h.below hb h.lt

theorem OwnG.sl {w : World} {B g cap : Nat} {m : List (Int × Int)} (h : OwnG w B g cap m) (hm : m.length ≤ 8796093022208) : Sl w (.slice (some ⟨g, 0, none⟩) m.length cap) m :=
  ⟨hm, _, _, rfl, Or.inr ⟨g, 0, rfl, h.rd⟩⟩

theorem OwnG.ofRow {w : World} {B : Nat} {v : Value} {m : List (Int × Int)} (h : w.ownsRow B 31 2 v m.length (cells m)) (hv : v ≠ .slice none 0 0) : ∃ g cap, v = .slice (some ⟨g, 0, none⟩) m.length cap ∧ OwnG w B g cap m := by
  rcases h.2 with ⟨rfl, _⟩ | ⟨g, cap, cur, rfl, h1, h2, h3, h4, h5, h6⟩
  · exact absurd rfl hv
  · exact ⟨g, cap, rfl, h1, h3, h4, cur, h2, h5, h6⟩

theorem OwnG.toRow {w : World} {B g cap : Nat} {m : List (Int × Int)} (h : OwnG w B g cap m) : w.ownsRow B 31 2 (.slice (some ⟨g, 0, none⟩) m.length cap) m.length (cells m) := by
  obtain ⟨cur, h2, h5, h6⟩ := h.row
  exact ⟨cells_length m, Or.inr ⟨g, cap, cur, rfl, h.base, h2, h.le, h.max, h5, h6⟩⟩

/-- one step is written over another one -/
theorem OwnG.store {w : World} {B g cap : Nat} {m : List (Int × Int)} (h : OwnG w B g cap m) (k : Nat) (hk : k < m.length) (s : Int × Int) :
    OwnG ((w.setCell ⟨g, k * 2, none⟩ (.int .i64 s.1)).setCell ⟨g, k * 2 + 1, none⟩ (.int .i64 s.2)) B g cap (m.set k s) := by
  obtain ⟨cur, hg, hs, ht⟩ := h.row
  have h1 : (w.setCell ⟨g, k * 2, none⟩ (.int .i64 s.1)).heap[g]? = some (.cells (cur.setIfInBounds (k * 2) (.int .i64 s.1)) 31 (0, 0)) := by
    rw [setCell_eq_setRow w g (k * 2) cur _ _ _ hg]; exact setRow_heap w g cur _ _ _ hg
  have h2 : ((w.setCell ⟨g, k * 2, none⟩ (.int .i64 s.1)).setCell ⟨g, k * 2 + 1, none⟩ (.int .i64 s.2)).heap[g]? = some (.cells ((cur.setIfInBounds (k * 2) (.int .i64 s.1)).setIfInBounds (k * 2 + 1) (.int .i64 s.2)) 31 (0, 0)) := by
    rw [setCell_eq_setRow _ g (k * 2 + 1) _ _ _ _ h1]; exact setRow_heap _ g _ _ _ _ h1
  refine ⟨h.base, by simpa using h.le, h.max, _, h2, by simpa using hs, ?_⟩
  have e : ∀ (l : List (Int × Int)) (k : Nat), k < l.length → ((cells l).set (k * 2) (.int .i64 s.1)).set (k * 2 + 1) (.int .i64 s.2) = cells (l.set k s) := by
    intro l
    induction l with
    | nil => intro k hk; simp at hk
    | cons a r ih =>
      intro k hk
      cases k with
      | zero => simp [cells]
      | succ k => rw [show (k + 1) * 2 = k * 2 + 1 + 1 by omega]; simp [cells]; exact ih k (by simpa using hk)
  rw [← e m k hk, ← ht]
  simp only [Array.toList_setIfInBounds, List.length_set]
  rw [List.take_set, List.take_set]

section
variable (P : Program)

theorem run_copy_rowK (w : World) (dT sT ty elem : TypeId) (k g o dLen dCap : Nat) (a : Addr) (sLen sCap : Nat) (cur : Array Value) (t : TypeId) (cs : List Value)
    (hu : P.underlying dT = some (.slice elem)) (hs : (P.info? elem).map (·.size) = some k)
    (hg : w.heap[g]? = some (.cells cur t (0, 0))) (hn : cs.length = Nat.min sLen dLen * k)
    (hsrc : ∀ j v, cs[j]? = some v → w.cell? (a.add j) = some v) (hfit : o + cs.length ≤ cur.size) (h1 : ∀ v ∈ cs, v.oneCell' = true) :
    (Builtin.copy_ #[dT, sT] ty #[.slice (some ⟨g, o, none⟩) dLen dCap, .slice (some a) sLen sCap]).run P w =
      .ok (goInt (Nat.min sLen dLen)) (w.setRow g (cur.toList.take o ++ cs ++ cur.toList.drop (o + cs.length)).toArray) := by
  have hl := run_loadCells_list (P := P) w a cs hsrc
  have hst := run_storeCells_at P g o t cs 0 cur w hg (by simpa using hfit) h1
  cases hq : P.info? elem with
  | none => simp [hq] at hs
  | some i =>
    have hi : i.size = k := by simpa [hq] using hs
    simp [Builtin.copy_, run_underlying hu, Builtin.lenOf, Builtin.firstCells, sizeOf, typeInfo, hq, hi, ← hn, hl, hst]

end

/-- copy(dst, src), at two cells an element, where something goes over: the row behind it. -/
theorem wpList_copy_splice2 {P : Program} {w : World} {ops : Array Oper} {rest : List Oper} {o : Oper} {a : Act} {Q : Exit → Act → World → Prop} (hgd : o.guard = none) (d s : Operand) (dT sT : TypeId)
    (ho : o.op = .call { callee := .builtin .copy, args := #[d, s], argTypes := #[dT, sT] }) (elem : TypeId) (hu : P.underlying dT = some (.slice elem)) (hsz : (P.info? elem).map (·.size) = some 2)
    (g off dLen dCap : Nat) (ad : Addr) (sLen sCap : Nat) (hd : a.eval d = .slice (some ⟨g, off, none⟩) dLen dCap) (hs : a.eval s = .slice (some ad) sLen sCap)
    (cur : List Value) (t : TypeId) (hg : w.heap[g]? = some (.cells cur.toArray t (0, 0))) (cs : List Value) (hn : cs.length = Nat.min sLen dLen * 2)
    (hsrc : ∀ j v, cs[j]? = some v → w.cell? (ad.add j) = some v)
    (hfit : off + cs.length ≤ cur.length) (h1 : ∀ v ∈ cs, v.oneCell' = true) (B : Nat) (w0 : World) (hb : Below B w0 w) (hBg : B ≤ g)
    (h : ∀ w', Hid (w'.heap[g]? = some (.cells (splice cur off cs).toArray t (0, 0)) ∧ (∀ k, k ≠ g → w'.heap[k]? = w.heap[k]?) ∧ w'.heap.size = w.heap.size) → Below B w0 w' → wpList P ops Q rest (a.put o.dst (goInt (Nat.min sLen dLen))) w') :
    wpList P ops Q (o :: rest) a w := by
  refine wpList_plain hgd fun K hK => ?_
  have hrun := run_copy_rowK P w dT sT o.type elem 2 g off dLen dCap ad sLen sCap cur.toArray t cs hu hsz hg hn hsrc (by simpa using hfit) h1
  unfold Oper.wp
  simp [execOp, ho, resolve, invoke, builtin, hd, hs, hrun, Result.andThen]
  refine hK _ _ (h _ ?_ (below_setRow hb hBg _))
  exact ⟨by simpa [splice] using setRow_heap w g _ _ t _ hg, fun k hk => setRow_other w g k _ (by omega), by simp [World.setRow]⟩

theorem step_copy_splice2 {P : Program} {ops : Array Oper} {o : Oper} {a : Act} {w : World} {K : Act → World → Prop} {Q : Exit → Act → World → Prop} {E : Prop} (hgd : o.guard = none) (d s : Operand) (dT sT : TypeId)
    (ho : o.op = .call { callee := .builtin .copy, args := #[d, s], argTypes := #[dT, sT] }) (elem : TypeId) (hu : P.underlying dT = some (.slice elem)) (hsz : (P.info? elem).map (·.size) = some 2)
    (g off dLen dCap : Nat) (ad : Addr) (sLen sCap : Nat) (hd : a.eval d = .slice (some ⟨g, off, none⟩) dLen dCap) (hs : a.eval s = .slice (some ad) sLen sCap)
    (cur : List Value) (t : TypeId) (hg : w.heap[g]? = some (.cells cur.toArray t (0, 0))) (cs : List Value) (hn : cs.length = Nat.min sLen dLen * 2)
    (hsrc : ∀ j v, cs[j]? = some v → w.cell? (ad.add j) = some v)
    (hfit : off + cs.length ≤ cur.length) (h1 : ∀ v ∈ cs, v.oneCell' = true) (B : Nat) (w0 : World) (hb : Below B w0 w) (hBg : B ≤ g)
    (h : ∀ w', Hid (w'.heap[g]? = some (.cells (splice cur off cs).toArray t (0, 0)) ∧ (∀ k, k ≠ g → w'.heap[k]? = w.heap[k]?) ∧ w'.heap.size = w.heap.size) → Below B w0 w' → K (a.put o.dst (goInt (Nat.min sLen dLen))) w') :
    if Region.wanted o (yielded ops a.tmps) = true then Oper.wp P o a w K Q else E := by
  have hw : Region.wanted o (yielded ops a.tmps) = true := by simp [Region.wanted, hgd]
  rw [if_pos hw]
  have hrun := run_copy_rowK P w dT sT o.type elem 2 g off dLen dCap ad sLen sCap cur.toArray t cs hu hsz hg hn hsrc (by simpa using hfit) h1
  unfold Oper.wp
  simp [execOp, ho, resolve, invoke, builtin, hd, hs, hrun, Result.andThen]
  refine h _ ?_ (below_setRow hb hBg _)
  exact ⟨by simpa [splice] using setRow_heap w g _ _ t _ hg, fun k hk => setRow_other w g k _ (by omega), by simp [World.setRow]⟩

end Go.Proofs.Ytghhegajbehpeaa
