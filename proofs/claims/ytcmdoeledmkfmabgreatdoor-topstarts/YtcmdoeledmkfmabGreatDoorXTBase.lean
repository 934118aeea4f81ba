/- Texts of this claim, in one: TBase. -/
import Derived.Test.YtcmdoeledmkfmabGreatDoorXTQuiet
set_option linter.unusedSimpArgs false
set_option linter.unusedVariables false
namespace Go.Proofs.YtcmdoeledmkfmabGreatDoor
open Go.RowKit
theorem PD.later {l : List (List UInt8)} {w w' w'' : World} {d : Nat} {D : Dk} (h : PD l w w' d D) (hb : Below w'.heap.size w' w'') : PD l w w'' d D := ⟨h.play, h.ds.later hb, h.new, h.below.trans (hb.mono h.below.size)⟩
theorem PD.lt {l : List (List UInt8)} {w w' : World} {d : Nat} {D : Dk} (h : PD l w w' d D) : d < w'.heap.size := h.ds.lt
theorem Rests.ne {p : Pt} (h : Rests p) {pl : List Int} (hp : PlanIs p pl) (i : Nat) : pl[i]? ≠ some p.now := NoDue.ne h.1 hp (h.none hp) i
theorem RowT.told {α : Type} {t : TypeId} {c : α → List Value} {w w' : World} {v : Value} {l : List α} {d : Nat} {D : Dk} (h : RowT t c w v l) (hD : DS w d D) (hf : Fr d w w') (ht : t ≠ 64) : RowT t c w' v l := by
  obtain ⟨_, _, _, _, hM⟩ := hD.dsk
  exact h.fr hf hM.box ht
theorem PBox.told {w w' : World} {g d : Nat} {p : Pt} {vs : Value} (h : PBox w g p vs) (hf : Fr d w w') (hne : g ≠ d) : PBox w' g p vs := ⟨h.1, (hf.rest g hne h.lt).trans h.2⟩
theorem RowT.cellS {w : World} {v : Value} {l : List Ship} (h : RowT 51 cShip w v l) {i : Nat} (hi : i < l.length) : ∃ b off cap, v = .slice (some ⟨b, off, none⟩) l.length cap ∧ RdK cShip w b off l := by
  obtain ⟨a, cap, rfl, _, hr⟩ := h.sl
  rcases hr with hr | ⟨b, off, rfl, hr⟩
  · rw [hr] at hi; simp at hi
  · exact ⟨b, off, cap, rfl, hr⟩
end Go.Proofs.YtcmdoeledmkfmabGreatDoor
