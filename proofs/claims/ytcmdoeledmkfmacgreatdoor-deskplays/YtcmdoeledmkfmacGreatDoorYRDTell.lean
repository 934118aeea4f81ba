/- Texts of this claim, in one: RDTell. -/
import Derived.Test.YtcmdoeledmkfmacGreatDoorSO
import Derived.Test.YtcmdoeledmkfmacGreatDoorYRDTE
import Derived.Test.YtcmdoeledmkfmacGreatDoorS0
import Derived.Test.YtcmdoeledmkfmacGreatDoorYRDTG
set_option linter.unusedSimpArgs false
set_option linter.unusedVariables false
namespace Go.Proofs.YtcmdoeledmkfmacGreatDoor
open Go.RowKit
theorem jmn (s:List UInt8):(∃ o,jay s (some o))∨jay s none:=by
 by_cases h:∃ o,jay s (some o)
 ·exact Or.inl h
 ·exact Or.inr fun o hl ho=>h ⟨o,hl,ho⟩
theorem jme (B d:Nat) (D:Dk) (s:List UInt8) (w:World) (hs:s.length≤9223372036854775807) (h:RS w B d D) :
  Calls Tryz.prog 18 #[.pointer (some ⟨d,0,none⟩),txt s] w fun e w'=>jge B d D s w e w':=by
 by_cases hn:D.n=250
 ·exact jk5 B d D s w h hn
 have hn2:D.n < 250:=by have:=h.ok.n;omega
 rcases jmn s with ⟨o,hP⟩|hP
 case inr=>exact jk4 B d D s w hs h hn2 hP
 have hk:=hP.2.1.1
 by_cases k9:o.kd=9
 ·exact jk2 B d D s w hs h hn2 o hP k9
 by_cases k10:o.kd=10
 ·exact jjp B d D s w hs h hn2 o hP k10
 by_cases k11:o.kd=11
 ·exact ji0 B d D s w hs h hn2 o hP k11
 by_cases k12:o.kd=12
 ·exact jk3 B d D s w hs h hn2 o hP k12
 by_cases k13:o.kd=13
 ·exact jjo B d D s w hs h hn2 o hP k13
 by_cases k14:o.kd=14
 ·exact jmd B d D s w hs h hn2 o hP k14
 exact jjn B d D s w hs h hn2 o hP ⟨by omega,by omega⟩
theorem jpd (B d:Nat) (D:Dk) (s:List UInt8) (w:World) (hs:s.length≤9223372036854775807) (h:RS w B d D) :
  Calls Tryz.prog 18 #[.pointer (some ⟨d,0,none⟩),txt s] w fun e w'=>∃ er n,e=.returned (.agg #[.int .i64 er,.int .i64 n])∧Hid (∃ D',jdv D s D' er n∧RS w' B d D'∧Fr d w w'):=by
 refine(jme B d D s w hs h).mono ?_
 rintro e w' ⟨er,n,rfl,h1⟩
 obtain⟨D',j1,j2,j3⟩:=h1.out
 exact⟨er,n,rfl,D',j1,⟨h.asp.fr j3 h.low,h.low,j2,jrf h.ok j1⟩,j3⟩
end Go.Proofs.YtcmdoeledmkfmacGreatDoor
