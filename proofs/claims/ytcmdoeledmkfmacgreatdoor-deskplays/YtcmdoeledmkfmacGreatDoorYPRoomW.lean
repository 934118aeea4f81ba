/- Texts of this claim, in one: PRoomW. -/
import Derived.Test.YtcmdoeledmkfmacGreatDoorS7
import Derived.Test.YtcmdoeledmkfmacGreatDoorS1
set_option linter.unusedSimpArgs false
set_option linter.unusedVariables false
namespace Go.Proofs.YtcmdoeledmkfmacGreatDoor
open Go.RowKit
theorem jhy (v:Value) (p:Pt) (w:World) (hv:PtV w v p) (hp:jaj p):Calls Tryz.prog 83 #[v] w fun e w'=>e=.returned (.bool true)∧Below w.heap.size w w' :=
 (jdo v p w hv (WfQ.of hp)).mono (by
  rintro e w' ⟨⟨b,rfl,hb⟩,hw⟩
  exact⟨by rw [hb.2 hp],hw⟩)
structure PlEnv (w:World) (p:Pt) (vs:Value) (a:Option Addr) (pl:List Int) (v5:Value) (W:World):Prop where
 below:Below w.heap.size w W
 box:PBox W w.heap.size p vs
 ships:p.ships=[]∨∃ b off,a=some ⟨b,off,none⟩∧RdK cShip W b off p.ships
 plan:SlK cInt W v5 pl
theorem PlEnv.later {w W W':World} {p:Pt} {vs:Value} {a:Option Addr} {pl:List Int} {v5:Value} (h:PlEnv w p vs a pl v5 W) (hb:Below W.heap.size W W'):PlEnv w p vs a pl v5 W' :=
 ⟨h.below.trans (hb.mono h.below.size),h.box.later hb h.box.lt,by
  rcases h.ships with e|⟨b,off,e,hr⟩
  ·exact Or.inl e
  ·exact Or.inr ⟨b,off,e,hr.below hb⟩,h.plan.below hb⟩
def Left (p:Pt) (pl:List Int) (rk:List Nat) (W:World) (v:Value):Prop:=∃ r,Sl W v r∧Good r∧∀ t,0≤t→t < 300→val r t=ja3 p t - ctrs p pl rk t
theorem Left.later {p:Pt} {pl:List Int} {rk:List Nat} {W W':World} {v:Value} (h:Left p pl rk W v) (hb:Below W.heap.size W W'):Left p pl rk W' v:=by
 obtain⟨r,h1,h2⟩:=h
 exact⟨r,h1.below hb,h2⟩
end Go.Proofs.YtcmdoeledmkfmacGreatDoor
