/- Ports as plain data, with no program in them: what a good ship and a good port are, and what is free of what lies, is kept and is shut. -/
import Derived.Test.YtghhegajbehpeaaMath2
set_option linter.unusedSimpArgs false
set_option linter.unusedVariables false
namespace Go.Proofs.Ytghhegajbehpeaa

/-- State, Wide, Long, Class, Since, Queued -/
structure Ship where
  st : Int
  wd : Int
  lg : Int
  cl : Int
  si : Int
  qu : Int

/-- Wide, From, To -/
structure Kp where
  wd : Int
  fr : Int
  to : Int

/-- Now, Ships, Kept (four), Shut, Next -/
structure Pt where
  now : Int
  ships : List Ship
  kept : List Kp
  shut : Int
  next : Int

/-- P2.1 -/
structure IsShip (s : Ship) (now : Int) : Prop where
  st : 1 ≤ s.st ∧ s.st ≤ 4
  wd : 1 ≤ s.wd ∧ s.wd ≤ 16
  lg : 1 ≤ s.lg ∧ s.lg ≤ 300
  cl : 0 ≤ s.cl ∧ s.cl ≤ 3
  qu : 0 ≤ s.qu
  lies : s.st = 3 → 0 ≤ s.si ∧ s.si ≤ now ∧ now < s.si + s.lg ∧ s.si + s.lg ≤ 300
  else_ : s.st ≠ 3 → s.si = 0

/-- the same as a test -/
def isShipB (s : Ship) (now : Int) : Bool :=
  decide ((1 ≤ s.st ∧ s.st ≤ 4) ∧ (1 ≤ s.wd ∧ s.wd ≤ 16) ∧ (1 ≤ s.lg ∧ s.lg ≤ 300) ∧ (0 ≤ s.cl ∧ s.cl ≤ 3) ∧ 0 ≤ s.qu ∧ (s.st = 3 → 0 ≤ s.si ∧ s.si ≤ now ∧ now < s.si + s.lg ∧ s.si + s.lg ≤ 300) ∧ (s.st ≠ 3 → s.si = 0))

theorem isShipB_iff {s : Ship} {now : Int} : isShipB s now = true ↔ IsShip s now := by
  unfold isShipB
  rw [decide_eq_true_iff]
  exact ⟨fun ⟨a, b, c, d, e, f, g⟩ => ⟨a, b, c, d, e, f, g⟩, fun h => ⟨h.st, h.wd, h.lg, h.cl, h.qu, h.lies, h.else_⟩⟩

theorem isShipB_no {s : Ship} {now : Int} (h : ¬ IsShip s now) : isShipB s now = false := by
  cases e : isShipB s now
  · rfl
  · exact absurd (isShipB_iff.1 e) h

/-- what is kept is nothing, or can be -/
def IsKept (k : Kp) : Prop := (k.wd = 0 ∧ k.fr = 0 ∧ k.to = 0) ∨ ((1 ≤ k.wd ∧ k.wd ≤ 16) ∧ (0 ≤ k.fr ∧ k.fr ≤ 300) ∧ k.fr < k.to ∧ k.to ≤ 300)

/-- what a ship takes at a time, from now on -/
def shipAt (s : Ship) (t : Int) : Int := if s.st = 3 ∧ t < s.si + s.lg then s.wd else 0

/-- what is kept at a time -/
def keptAt (k : Kp) (t : Int) : Int := if k.fr ≤ t ∧ t < k.to then k.wd else 0

/-- what ships take, and what is kept, at a time -/
def shipsAt (l : List Ship) (t : Int) : Int := (l.map fun s => shipAt s t).foldr (· + ·) 0
def keepsAt (l : List Kp) (t : Int) : Int := (l.map fun k => keptAt k t).foldr (· + ·) 0

/-- P2.3: what is free at a time -/
def baseAt (p : Pt) (t : Int) : Int := 16 - p.shut - if p.now ≤ t then shipsAt p.ships t + keepsAt p.kept t else 0

/-- P2.2, but for what Base says -/
structure IsPort0 (p : Pt) : Prop where
  now : 0 ≤ p.now ∧ p.now ≤ 299
  shut : 0 ≤ p.shut ∧ p.shut ≤ 16
  len : p.ships.length < 15
  next : 0 ≤ p.next ∧ p.next ≤ 1048576
  ship : ∀ s ∈ p.ships, IsShip s p.now ∧ s.qu < p.next
  once : ∀ (i j : Nat) (r s : Ship), i < j → p.ships[i]? = some r → p.ships[j]? = some s → r.qu ≠ s.qu
  four : p.kept.length = 4
  kept : ∀ k ∈ p.kept, IsKept k

/-- P2.2 -/
structure IsPort (p : Pt) : Prop where
  port : IsPort0 p
  base : ∀ t : Int, 0 ≤ t → t < 300 → 0 ≤ baseAt p t

theorem shipsAt_snoc (l : List Ship) (s : Ship) (t : Int) : shipsAt (l ++ [s]) t = shipsAt l t + shipAt s t := by
  unfold shipsAt
  induction l with
  | nil => simp
  | cons a r ih => simp only [List.cons_append, List.map_cons, List.foldr_cons, ih]; omega

theorem keepsAt_snoc (l : List Kp) (s : Kp) (t : Int) : keepsAt (l ++ [s]) t = keepsAt l t + keptAt s t := by
  unfold keepsAt
  induction l with
  | nil => simp
  | cons a r ih => simp only [List.cons_append, List.map_cons, List.foldr_cons, ih]; omega

theorem shipsAt_bound (l : List Ship) (t : Int) (h : ∀ s ∈ l, 0 ≤ s.wd ∧ s.wd ≤ 16) : 0 ≤ shipsAt l t ∧ shipsAt l t ≤ 16 * l.length := by
  unfold shipsAt
  induction l with
  | nil => simp
  | cons a r ih =>
    have h1 := ih fun s hs => h s (List.mem_cons_of_mem _ hs)
    have h2 := h a List.mem_cons_self
    have h3 : 0 ≤ shipAt a t ∧ shipAt a t ≤ 16 := by unfold shipAt; split <;> omega
    simp only [List.map_cons, List.foldr_cons, List.length_cons]
    omega

theorem keepsAt_bound (l : List Kp) (t : Int) (h : ∀ k ∈ l, 0 ≤ k.wd ∧ k.wd ≤ 16) : 0 ≤ keepsAt l t ∧ keepsAt l t ≤ 16 * l.length := by
  unfold keepsAt
  induction l with
  | nil => simp
  | cons a r ih =>
    have h1 := ih fun s hs => h s (List.mem_cons_of_mem _ hs)
    have h2 := h a List.mem_cons_self
    have h3 : 0 ≤ keptAt a t ∧ keptAt a t ≤ 16 := by unfold keptAt; split <;> omega
    simp only [List.map_cons, List.foldr_cons, List.length_cons]
    omega

theorem IsKept.wide {k : Kp} (h : IsKept k) : 0 ≤ k.wd ∧ k.wd ≤ 16 := by
  rcases h with h | h
  · omega
  · exact ⟨by omega, h.1.2⟩

end Go.Proofs.Ytghhegajbehpeaa
