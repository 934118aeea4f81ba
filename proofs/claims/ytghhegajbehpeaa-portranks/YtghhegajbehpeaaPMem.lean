/- Ships, what is kept and ports as they lie in memory; no condition but those that each theorem bears. -/
import Derived.Test.YtghhegajbehpeaaGen
import Derived.Test.YtghhegajbehpeaaPMath
import Derived.Deep.MidRow
set_option linter.unusedSimpArgs false
set_option linter.unusedVariables false
namespace Go.Proofs.Ytghhegajbehpeaa
open Go.RowKit

/-- the ending tells whether P holds -/
def IsB (e : Ending) (P : Prop) : Prop := ∃ b : Bool, e = .returned (.bool b) ∧ (b = true ↔ P)

/-- b tells whether P holds -/
def Iffb (b : Bool) (P : Prop) : Prop := b = true ↔ P

/-- a ship's six cells -/
def cShip (s : Ship) : List Value := [.int .i64 s.st, .int .i64 s.wd, .int .i64 s.lg, .int .i64 s.cl, .int .i64 s.si, .int .i64 s.qu]
/-- the three cells of what is kept -/
def cKp (k : Kp) : List Value := [.int .i64 k.wd, .int .i64 k.fr, .int .i64 k.to]
/-- a number's cell -/
def cInt (n : Int) : List Value := [.int .i64 n]

theorem encShip : EncOk 6 cShip := ⟨fun _ => rfl, fun x v hv => by simp [cShip] at hv; rcases hv with rfl | rfl | rfl | rfl | rfl | rfl <;> rfl⟩
theorem encKp : EncOk 3 cKp := ⟨fun _ => rfl, fun x v hv => by simp [cKp] at hv; rcases hv with rfl | rfl | rfl <;> rfl⟩
theorem encInt : EncOk 1 cInt := ⟨fun _ => rfl, fun x v hv => by simp [cInt] at hv; rcases hv with rfl; rfl⟩

/-- the six cells of one ship of a row -/
theorem RdK.ship {w : World} {b off : Nat} {l : List Ship} (h : RdK cShip w b off l) {j : Nat} {s : Ship} (hs : l[j]? = some s) :
    w.cell? ⟨b, off + j * 6, none⟩ = some (.int .i64 s.st) ∧ w.cell? ⟨b, off + j * 6 + 1, none⟩ = some (.int .i64 s.wd) ∧ w.cell? ⟨b, off + j * 6 + 2, none⟩ = some (.int .i64 s.lg) ∧
    w.cell? ⟨b, off + j * 6 + 3, none⟩ = some (.int .i64 s.cl) ∧ w.cell? ⟨b, off + j * 6 + 4, none⟩ = some (.int .i64 s.si) ∧ w.cell? ⟨b, off + j * 6 + 5, none⟩ = some (.int .i64 s.qu) :=
  ⟨h.at encShip hs (i := 0) rfl, h.at encShip hs (i := 1) rfl, h.at encShip hs (i := 2) rfl, h.at encShip hs (i := 3) rfl, h.at encShip hs (i := 4) rfl, h.at encShip hs (i := 5) rfl⟩

theorem RdK.int {w : World} {b off : Nat} {l : List Int} (h : RdK cInt w b off l) {j : Nat} {n : Int} (hs : l[j]? = some n) : w.cell? ⟨b, off + j, none⟩ = some (.int .i64 n) := by
  have := h.at encInt hs (i := 0) rfl
  simpa using this

/-- the cells of a port: vs is the slice of its ships -/
def portCells (p : Pt) (vs : Value) : List Value := .int .i64 p.now :: vs :: (cellsK cKp p.kept ++ [.int .i64 p.shut, .int .i64 p.next])

/-- The value is the port p. -/
def PtV (w : World) (v : Value) (p : Pt) : Prop := ∃ vs, v = .agg (portCells p vs).toArray ∧ SlK cShip w vs p.ships ∧ p.kept.length = 4 ∧ p.ships.length ≤ 2932031007317

theorem PtV.below {w w' : World} {v : Value} {p : Pt} (h : PtV w v p) (hb : Below w.heap.size w w') : PtV w' v p := by
  obtain ⟨vs, h1, h2, h3⟩ := h
  exact ⟨vs, h1, h2.below hb, h3⟩

theorem portCells_length (p : Pt) (vs : Value) (h : p.kept.length = 4) : (portCells p vs).length = 16 := by
  unfold portCells
  simp [cellsK_length encKp, h]

/-- Block g is a variable that holds the port p. -/
def PBox (w : World) (g : Nat) (p : Pt) (vs : Value) : Prop := p.kept.length = 4 ∧ w.heap[g]? = some (.cells (portCells p vs).toArray 46 (0, 0))

theorem PBox.new (w : World) (p : Pt) (vs : Value) (h : p.kept.length = 4) : PBox (w.alloc (.cells (portCells p vs).toArray 46)) w.heap.size p vs := ⟨h, heap_alloc_new w _⟩

theorem PBox.lt {w : World} {g : Nat} {p : Pt} {vs : Value} (h : PBox w g p vs) : g < w.heap.size := (Array.getElem?_eq_some_iff.1 h.2).1

theorem PBox.later {w w' : World} {B g : Nat} {p : Pt} {vs : Value} (h : PBox w g p vs) (hb : Below B w w') (hB : g < B) : PBox w' g p vs := ⟨h.1, by rw [hb.block g hB]; exact h.2⟩

theorem PBox.cells {w : World} {g : Nat} {p : Pt} {vs : Value} (h : PBox w g p vs) :
    w.cell? ⟨g, 0, none⟩ = some (.int .i64 p.now) ∧ w.cell? ⟨g, 1, none⟩ = some vs ∧ w.cell? ⟨g, 14, none⟩ = some (.int .i64 p.shut) ∧ w.cell? ⟨g, 15, none⟩ = some (.int .i64 p.next) := by
  have e : ∀ j, w.cell? ⟨g, j, none⟩ = (portCells p vs)[j]? := fun j => by rw [cell_of_row _ _ _ _ _ _ h.2, List.getElem?_toArray]
  have hl : (cellsK cKp p.kept).length = 12 := by rw [cellsK_length encKp, h.1]
  refine ⟨by rw [e]; rfl, by rw [e]; rfl, ?_, ?_⟩
  · rw [e]
    show (cellsK cKp p.kept ++ [.int .i64 p.shut, .int .i64 p.next])[12]? = _
    rw [List.getElem?_append_right (by omega), hl]; rfl
  · rw [e]
    show (cellsK cKp p.kept ++ [.int .i64 p.shut, .int .i64 p.next])[13]? = _
    rw [List.getElem?_append_right (by omega), hl]; rfl

/-- what is kept, as a range of the port's cells -/
theorem PBox.keeps {w : World} {g : Nat} {p : Pt} {vs : Value} (h : PBox w g p vs) : w.rangeAt g 2 (cellsK cKp p.kept) := fun j v hv => by
  rw [cell_of_row _ _ _ _ _ _ h.2, List.getElem?_toArray]
  have hj := (List.getElem?_eq_some_iff.1 hv).1
  show (.int .i64 p.now :: vs :: (cellsK cKp p.kept ++ [.int .i64 p.shut, .int .i64 p.next]))[2 + j]? = some v
  rw [show 2 + j = j + 1 + 1 by omega, List.getElem?_cons_succ, List.getElem?_cons_succ, List.getElem?_append_left hj]
  exact hv

/-- all of the port's cells -/
theorem PBox.whole {w : World} {g : Nat} {p : Pt} {vs : Value} (h : PBox w g p vs) : w.rangeAt g 0 (portCells p vs) := fun j v hv => by
  rw [cell_of_row _ _ _ _ _ _ h.2, List.getElem?_toArray, Nat.zero_add]
  exact hv

theorem portInfo (p : Pt) (vs : Value) (h : p.kept.length = 4) : (Try.prog.info? 46).map (·.size) = some (portCells p vs).length := by rw [portCells_length p vs h]; kernel_rfl

/-- within, of whatever bounds -/
def inR (n lo hi : Int) : Bool := decide (lo ≤ n ∧ n ≤ hi)

theorem refWithin3 (n lo hi : Int) (w : World) :
    Calls Try.prog 54 #[.int .i64 n, .int .i64 lo, .int .i64 hi] w fun e w' => e = .returned (.bool (inR n lo hi)) ∧ w' = w := by
  unfold inR
  by_cases h1 : lo ≤ n <;> by_cases h2 : n ≤ hi
  all_goals
    go_enter Try.func54, Try.ntmps54
    go_wp2
    go_ret
    exact ⟨by simp [h1, h2], rfl⟩

end Go.Proofs.Ytghhegajbehpeaa
