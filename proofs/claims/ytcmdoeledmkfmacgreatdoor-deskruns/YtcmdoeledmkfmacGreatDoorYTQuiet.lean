/- Texts of this claim, in one: TQuiet. -/
import Derived.Test.YtcmdoeledmkfmacGreatDoorSZ
import Derived.Test.YtcmdoeledmkfmacGreatDoorSA
import Derived.Test.YtcmdoeledmkfmacGreatDoorYRefSameW
set_option linter.unusedSimpArgs false
set_option linter.unusedVariables false
namespace Go.Proofs.YtcmdoeledmkfmacGreatDoor
open Go.RowKit
theorem jrm {α:Type} {c:α→List Value} {w w':World} {v:Value} {l:List α} {B:Nat} (h:SlK c w v l) (hB:w.heap.size≤B) (hb:Below B w w'):SlK c w' v l:=by
 obtain⟨a,cap,h1,h2,h3⟩:=h
 refine⟨a,cap,h1,h2,?_⟩
 rcases h3 with h3|⟨b,off,h4,h5⟩
 ·exact Or.inl h3
 ·exact Or.inr ⟨b,off,h4,h5.below (hb.mono hB)⟩
theorem jj3 {α:Type} {l:List α} {k:Nat} {s:α} (h:l[k]?=some s):l.take (k+1)=l.take k++[s]:=by rw [List.take_add_one,h];rfl
structure PD (l:List (List UInt8)) (w w':World) (d:Nat) (D:Dk):Prop where
 play:jd7 newDk (l.take 80) D
 ds:DS w' d D
 new:w.heap.size≤d
 below:Below w.heap.size w w'
theorem PD.n {l:List (List UInt8)} {w w':World} {d:Nat} {D:Dk} (h:PD l w w' d D):D.n≤80:=by
 have:=jpg _ newDk D jg0 (by simp only [List.length_take];show(0:Int)+_≤250;omega) h.play
 rw [this]
 simp only [List.length_take]
 show(0:Int)+_≤80
 omega
end Go.Proofs.YtcmdoeledmkfmacGreatDoor
