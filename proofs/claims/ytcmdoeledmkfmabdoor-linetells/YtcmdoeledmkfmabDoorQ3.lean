/- Texts of this claim, in one: PMem PLeaf PKept Arr PBoxW. -/
import Derived.Deep.MidRow
import Derived.Deep.DeepCutAuto
import Derived.Deep.WholeRow
import Derived.Laws.CopyOwn
import Derived.Laws.ResultCell
import Derived.Test.YtcmdoeledmkfmabDoorQ2
import Derived.Test.YtcmdoeledmkfmabDoorQ1
/- Ships, what is kept and ports as they lie in memory; no condition but those that each theorem bears. -/
set_option linter.unusedSimpArgs false
set_option linter.unusedVariables false
namespace Go.Proofs.YtcmdoeledmkfmabDoor
open Go.RowKit

/-- the ending tells whether P holds -/
def IsB (e : Ending) (P : Prop) : Prop := ∃ b : Bool, e = .returned (.bool b) ∧ (b = true ↔ P)

/-- b tells whether P holds -/
def Iffb (b : Bool) (P : Prop) : Prop := b = true ↔ P

/-- a ship's six cells -/
def cShip (s : Ship) : List Value := [.int .i64 s.st, .int .i64 s.wd, .int .i64 s.lg, .int .i64 s.cl, .int .i64 s.si, .int .i64 s.qu]
/-- the three cells of what is kept -/
def cKp (k : Kp) : List Value := [.int .i64 k.wd, .int .i64 k.fr, .int .i64 k.to]
/-- a number's cell -/
def cInt (n : Int) : List Value := [.int .i64 n]

theorem encShip : EncOk 6 cShip := ⟨fun _ => rfl, fun x v hv => by simp [cShip] at hv; rcases hv with rfl | rfl | rfl | rfl | rfl | rfl <;> rfl⟩
theorem encKp : EncOk 3 cKp := ⟨fun _ => rfl, fun x v hv => by simp [cKp] at hv; rcases hv with rfl | rfl | rfl <;> rfl⟩
theorem encInt : EncOk 1 cInt := ⟨fun _ => rfl, fun x v hv => by simp [cInt] at hv; rcases hv with rfl; rfl⟩

/-- the six cells of one ship of a row -/
theorem RdK.ship {w : World} {b off : Nat} {l : List Ship} (h : RdK cShip w b off l) {j : Nat} {s : Ship} (hs : l[j]? = some s) :
    w.cell? ⟨b, off + j * 6, none⟩ = some (.int .i64 s.st) ∧ w.cell? ⟨b, off + j * 6 + 1, none⟩ = some (.int .i64 s.wd) ∧ w.cell? ⟨b, off + j * 6 + 2, none⟩ = some (.int .i64 s.lg) ∧
    w.cell? ⟨b, off + j * 6 + 3, none⟩ = some (.int .i64 s.cl) ∧ w.cell? ⟨b, off + j * 6 + 4, none⟩ = some (.int .i64 s.si) ∧ w.cell? ⟨b, off + j * 6 + 5, none⟩ = some (.int .i64 s.qu) :=
  ⟨h.at encShip hs (i := 0) rfl, h.at encShip hs (i := 1) rfl, h.at encShip hs (i := 2) rfl, h.at encShip hs (i := 3) rfl, h.at encShip hs (i := 4) rfl, h.at encShip hs (i := 5) rfl⟩

theorem RdK.int {w : World} {b off : Nat} {l : List Int} (h : RdK cInt w b off l) {j : Nat} {n : Int} (hs : l[j]? = some n) : w.cell? ⟨b, off + j, none⟩ = some (.int .i64 n) := by
  have := h.at encInt hs (i := 0) rfl
  simpa using this

/-- the cells of a port: vs is the slice of its ships -/
def portCells (p : Pt) (vs : Value) : List Value := .int .i64 p.now :: vs :: (cellsK cKp p.kept ++ [.int .i64 p.shut, .int .i64 p.next])

/-- The value is the port p. -/
def PtV (w : World) (v : Value) (p : Pt) : Prop := ∃ vs, v = .agg (portCells p vs).toArray ∧ SlK cShip w vs p.ships ∧ p.kept.length = 4 ∧ p.ships.length ≤ 2932031007317

theorem PtV.below {w w' : World} {v : Value} {p : Pt} (h : PtV w v p) (hb : Below w.heap.size w w') : PtV w' v p := by
  obtain ⟨vs, h1, h2, h3⟩ := h
  exact ⟨vs, h1, h2.below hb, h3⟩

theorem portCells_length (p : Pt) (vs : Value) (h : p.kept.length = 4) : (portCells p vs).length = 16 := by
  unfold portCells
  simp [cellsK_length encKp, h]

/-- within, of whatever bounds -/
def inR (n lo hi : Int) : Bool := decide (lo ≤ n ∧ n ≤ hi)

theorem refWithin3 (n lo hi : Int) (w : World) :
    Calls Tryd.prog 21 #[.int .i64 n, .int .i64 lo, .int .i64 hi] w fun e w' => e = .returned (.bool (inR n lo hi)) ∧ w' = w := by
  unfold inR
  by_cases h1 : lo ≤ n <;> by_cases h2 : n ≤ hi
  all_goals
    go_enter Tryd.func21, Tryd.ntmps21
    go_wp2
    go_ret
    exact ⟨by simp [h1, h2], rfl⟩

end Go.Proofs.YtcmdoeledmkfmabDoor
/- The small questions of package port, and GoodShip: whether a ship may be one, at some time: P2.1. -/
set_option linter.unusedSimpArgs false
set_option linter.unusedVariables false
namespace Go.Proofs.YtcmdoeledmkfmabDoor
open Go.RowKit

theorem pinR_yes {n lo hi : Int} (h : inR n lo hi = true) : lo ≤ n ∧ n ≤ hi := of_decide_eq_true h
theorem pinR_no {n lo hi : Int} (h : inR n lo hi = false) : ¬ (lo ≤ n ∧ n ≤ hi) := of_decide_eq_false h
theorem pinR_or (n lo hi : Int) : inR n lo hi = true ∨ inR n lo hi = false := by cases inR n lo hi <;> simp

/-- from a time to another one -/
def stayB (fr tu : Int) : Bool := decide (0 ≤ fr ∧ fr < tu ∧ tu ≤ 300)
theorem stayB_iff {fr tu : Int} : stayB fr tu = true ↔ 0 ≤ fr ∧ fr < tu ∧ tu ≤ 300 := by simp [stayB]

/-- what is begun ends above now, and at the last time at most -/
def lastsB (si lg now : Int) : Bool := decide (si + lg ≤ 300 ∧ now < si + lg)

theorem pIsShipB_no {s : Ship} {now : Int} (h : ¬ IsShip s now) : isShipB s now = false := by
  cases e : isShipB s now
  · rfl
  · exact absurd (isShipB_iff.1 e) h


end Go.Proofs.YtcmdoeledmkfmabDoor
/- Whether each of a list may be what is kept at a place: goodKept of package port. -/
set_option linter.unusedSimpArgs false
set_option linter.unusedVariables false
namespace Go.Proofs.YtcmdoeledmkfmabDoor
open Go.RowKit

/-- the three cells of one of a row of what is kept -/
theorem RdK.kp {w : World} {b off : Nat} {l : List Kp} (h : RdK cKp w b off l) {j : Nat} {k : Kp} (hs : l[j]? = some k) :
    w.cell? ⟨b, off + j * 3, none⟩ = some (.int .i64 k.wd) ∧ w.cell? ⟨b, off + j * 3 + 1, none⟩ = some (.int .i64 k.fr) ∧ w.cell? ⟨b, off + j * 3 + 2, none⟩ = some (.int .i64 k.to) :=
  ⟨h.at encKp hs (i := 0) rfl, h.at encKp hs (i := 1) rfl, h.at encKp hs (i := 2) rfl⟩

/-- nothing is kept -/
def isNo (k : Kp) : Bool := decide (k.wd = 0 ∧ k.fr = 0 ∧ k.to = 0)

/-- the first j of l may be kept -/
def KeptTo (l : List Kp) (j : Nat) : Prop := ∀ (i : Nat) (k : Kp), i < j → l[i]? = some k → IsKept k

theorem KeptTo.succ {l : List Kp} {j : Nat} {k : Kp} (h : KeptTo l j) (hk : l[j]? = some k) (hi : IsKept k) : KeptTo l (j + 1) := fun i k' hi' hk' => by
  by_cases e : i = j
  · subst e; rw [hk] at hk'; injection hk' with hk'; subst hk'; exact hi
  · exact h i k' (by omega) hk'

theorem KeptTo.all {l : List Kp} (h : KeptTo l l.length) : ∀ k ∈ l, IsKept k := fun k hk => by
  obtain ⟨i, hi, rfl⟩ := List.mem_iff_getElem.1 hk
  exact h i _ hi (List.getElem?_eq_getElem hi)


end Go.Proofs.YtcmdoeledmkfmabDoor
/- An array of three hundred numbers in a block of its own: laid, loaded, stored and written one by one, its cells never written out. -/
set_option linter.unusedSimpArgs false
set_option linter.unusedVariables false
namespace Go.Proofs.YtcmdoeledmkfmabDoor
open Go.RowKit

/-- the cells of numbers -/
def ic (f : List Int) : List Value := f.map fun n => .int .i64 n

theorem ic_length (f : List Int) : (ic f).length = f.length := by simp [ic]
theorem ic_one (f : List Int) : ∀ v ∈ ic f, v.oneCell' = true := by
  intro v hv
  simp only [ic, List.mem_map] at hv
  obtain ⟨n, _, rfl⟩ := hv
  rfl
theorem ic_get (f : List Int) (k : Nat) (hk : k < f.length) : (ic f)[k]? = some (.int .i64 (f.getD k 0)) := by simp [ic, hk]

/-- three hundred noughts -/
def zero300 : List Int := List.replicate 300 0

end Go.Proofs.YtcmdoeledmkfmabDoor
/- A port in a block of its own: laid, loaded, stored, and written field by field. -/
set_option linter.unusedSimpArgs false
set_option linter.unusedVariables false
namespace Go.Proofs.YtcmdoeledmkfmabDoor
open Go.RowKit

/-- nothing is kept -/
def noKp : Kp := ⟨0, 0, 0⟩
/-- the port of noughts -/
def zeroPt : Pt := ⟨0, [], [noKp, noKp, noKp, noKp], 0, 0⟩

theorem portCells_one (p : Pt) (vs : Value) (hv : vs.oneCell' = true) : ∀ u ∈ portCells p vs, u.oneCell' = true := by
  intro u hu
  unfold portCells at hu
  rcases List.mem_cons.1 hu with rfl | hu
  · rfl
  rcases List.mem_cons.1 hu with rfl | hu
  · exact hv
  rcases List.mem_append.1 hu with hu | hu
  · exact cellsK_one encKp _ u hu
  · simp at hu; rcases hu with rfl | rfl <;> rfl

/-- a row of the call's own is there as long as no block from its base on has changed -/
theorem ownsRow_same {w w' : World} {B : Nat} {e : TypeId} {size : Nat} {v : Value} {n : Nat} {xs : List Value} (h : w.ownsRow B e size v n xs) (hs : ∀ g, B ≤ g → w'.heap[g]? = w.heap[g]?) : w'.ownsRow B e size v n xs := by
  refine ⟨h.1, ?_⟩
  rcases h.2 with h0 | ⟨g, cap, cur, h0, h1, h2, h3⟩
  · exact Or.inl h0
  · exact Or.inr ⟨g, cap, cur, h0, h1, by rw [hs g h1]; exact h2, h3⟩

theorem ownsRow_slice {w : World} {B : Nat} {e : TypeId} {size : Nat} {v : Value} {n : Nat} {xs : List Value} (h : w.ownsRow B e size v n xs) : ∃ x cap, v = .slice x n cap := by
  rcases h.2 with ⟨rfl, rfl⟩ | ⟨g, cap, cur, rfl, _⟩
  · exact ⟨_, _, rfl⟩
  · exact ⟨_, _, rfl⟩

theorem ownsRow_mono {w : World} {B B' : Nat} {e : TypeId} {size : Nat} {v : Value} {n : Nat} {xs : List Value} (h : w.ownsRow B e size v n xs) (hb : B' ≤ B) : w.ownsRow B' e size v n xs := by
  refine ⟨h.1, ?_⟩
  rcases h.2 with h0 | ⟨g, cap, cur, h0, h1, h2⟩
  · exact Or.inl h0
  · exact Or.inr ⟨g, cap, cur, h0, Nat.le_trans hb h1, h2⟩

theorem ownsRow_one {w : World} {B : Nat} {e : TypeId} {size : Nat} {v : Value} {n : Nat} {xs : List Value} (h : w.ownsRow B e size v n xs) : v.oneCell' = true := by
  rcases h.2 with ⟨rfl, _⟩ | ⟨g, cap, cur, rfl, _⟩ <;> rfl

end Go.Proofs.YtcmdoeledmkfmabDoor
