/- Texts of this claim, in one: RefTellAny. -/
import Derived.Test.YtcmdoeledmkfmacGreatDoorYRefTellA
import Derived.Test.YtcmdoeledmkfmacGreatDoorSP
import Derived.Test.YtcmdoeledmkfmacGreatDoorYRefTMc
import Derived.Test.YtcmdoeledmkfmacGreatDoorSR
import Derived.Test.YtcmdoeledmkfmacGreatDoorSS
set_option linter.unusedSimpArgs false
set_option linter.unusedVariables false
namespace Go.Proofs.YtcmdoeledmkfmacGreatDoor
open Go.RowKit
theorem jiz (v:Value) (p:Pt) (kd a b c:Int) (w:World) (hv:PtV w v p) :
  Calls Tryz.prog 35 #[v,.agg #[.int .i64 kd,.int .i64 a,.int .i64 b,.int .i64 c]] w fun e w'=>jbe w (ja0 (jai p ⟨kd,a,b,c⟩) p) e w':=by
 by_cases hp:jaj p
 case neg=>exact jn7 v p kd a b c w hv hp
 by_cases k1:kd=1
 ·exact jug v p kd a b c w hv hp (Or.inr k1)
 by_cases k6:kd=6
 ·exact jug v p kd a b c w hv hp (Or.inl k6)
 by_cases k8:kd=8
 ·exact jpf v p kd a b c w hv hp (Or.inr (Or.inl k8))
 by_cases k7:kd=7
 ·by_cases ha:0≤a∧a≤3
  ·exact jpf v p kd a b c w hv hp (Or.inr (Or.inr (Or.inr ⟨k7,ha⟩)))
  ·exact jpf v p kd a b c w hv hp (Or.inr (Or.inr (Or.inl ⟨k7,ha⟩)))
 by_cases k0:1≤kd∧kd≤8
 case neg=>exact jpf v p kd a b c w hv hp (Or.inl k0)
 have hk:kd=2∨kd=3∨kd=4∨kd=5:=by omega
 by_cases ha:0≤a∧a≤(p.ships.length:Int) - 1
 case neg =>
  rcases hk with h|h|h|h
  ·exact jmf v p kd a b c w hv hp (Or.inl ⟨h,ha⟩)
  ·exact jmf v p kd a b c w hv hp (Or.inr (Or.inl ⟨h,ha⟩))
  ·exact jmf v p kd a b c w hv hp (Or.inr (Or.inr (Or.inl ⟨h,ha⟩)))
  ·exact jmf v p kd a b c w hv hp (Or.inr (Or.inr (Or.inr (Or.inl ⟨h,ha⟩))))
 rcases hk with h|h|h|h
 ·exact jmf v p kd a b c w hv hp (Or.inr (Or.inr (Or.inr (Or.inr ⟨h,ha⟩))))
 ·exact jvg v p kd a b c w hv hp ⟨h,ha⟩
 ·exact jvf v p kd a b c w hv hp ⟨h,ha⟩
 by_cases hb:1≤b∧b≤300
 case neg=>exact jve v p kd a b c w hv hp ⟨h,ha,hb⟩
 by_cases h3:∀ s,p.ships[a.toNat]?=some s→s.st=3
 ·exact jvc v p kd a b c w hv hp ⟨h,ha,hb,h3⟩
 ·refine jvd v p kd a b c w hv hp ⟨h,ha,hb,fun s hs e=>h3 fun s' hs'=>?_⟩
  rw [hs] at hs'
  injection hs' with hs'
  rw [← hs']
  exact e
end Go.Proofs.YtcmdoeledmkfmacGreatDoor
