/- Texts of this claim, in one: TQuiet. -/
import Derived.Test.YtcmdoeledmkfmabGreatDoorQZ
import Derived.Test.YtcmdoeledmkfmabGreatDoorQA
import Derived.Test.YtcmdoeledmkfmabGreatDoorQB
set_option linter.unusedSimpArgs false
set_option linter.unusedVariables false
namespace Go.Proofs.YtcmdoeledmkfmabGreatDoor
open Go.RowKit
theorem slK_below {α : Type} {c : α → List Value} {w w' : World} {v : Value} {l : List α} {B : Nat} (h : SlK c w v l) (hB : w.heap.size ≤ B) (hb : Below B w w') : SlK c w' v l := by
  obtain ⟨a, cap, h1, h2, h3⟩ := h
  refine ⟨a, cap, h1, h2, ?_⟩
  rcases h3 with h3 | ⟨b, off, h4, h5⟩
  · exact Or.inl h3
  · exact Or.inr ⟨b, off, h4, h5.below (hb.mono hB)⟩
structure PD (l : List (List UInt8)) (w w' : World) (d : Nat) (D : Dk) : Prop where
  play : PlayIs newDk (l.take 80) D
  ds : DS w' d D
  new : w.heap.size ≤ d
  below : Below w.heap.size w w'
theorem PD.n {l : List (List UInt8)} {w w' : World} {d : Nat} {D : Dk} (h : PD l w w' d D) : D.n ≤ 80 := by
  have := playIs_n _ newDk D newDk_ok (by simp only [List.length_take]; show (0 : Int) + _ ≤ 250; omega) h.play
  rw [this]
  simp only [List.length_take]
  show (0 : Int) + _ ≤ 80
  omega
end Go.Proofs.YtcmdoeledmkfmabGreatDoor
