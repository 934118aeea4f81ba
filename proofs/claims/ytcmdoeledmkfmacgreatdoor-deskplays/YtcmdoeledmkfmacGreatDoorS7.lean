/- Texts of this claim, in one: PPorts Open POpen POpen2. -/
import Derived.ProofKit
import Derived.Deep.SlicePairs
import Derived.SizedLaws
import Derived.OpenShut
import Derived.Test.YtcmdoeledmkfmacGreatDoorS6
import Derived.Test.YtcmdoeledmkfmacGreatDoorS5
import Derived.Test.YtcmdoeledmkfmacGreatDoorS2
import Derived.Test.YtcmdoeledmkfmacGreatDoorS9
import Derived.Test.YtcmdoeledmkfmacGreatDoorSM
set_option linter.unusedSimpArgs false
set_option linter.unusedVariables false
set_option maxHeartbeats 40000000
set_option maxRecDepth 100000
namespace Go.Proofs.YtcmdoeledmkfmacGreatDoor
open Go.RowKit
theorem jog (w:World):Calls Tryz.prog 22 #[] w fun e w'=>e=.returned (.agg (jaa jaf (.slice none 0 0)).toArray)∧Below w.heap.size w w':=by
 go_enter Tryz.func22,Tryz.ntmps22
 go_wp2_with (first|(refine jah rfl rfl 0 rfl ?_;intro w1 hw1 hs1)|(refine jab rfl _ _ rfl w.heap.size jaf jaf (.slice none 0 0) (.slice none 0 0) rfl rfl hw1.out.1 rfl rfl ?_;intro w9 hw9 hs9))
 refine bodyPost_ret (v:=.agg (jaa jaf (.slice none 0 0)).toArray) (jfb Tryz.results22 _ _ w.heap.size jaf (.slice none 0 0) rfl hw9.out.1) rfl ?_
 exact⟨rfl,hw1.out.2.trans (hw9.out.2.2 _ (Nat.le_refl _))⟩
theorem jqs (t:Int):jbh [noKp,noKp,noKp,noKp] t=0:=by
 have h:jek noKp t=0:=by unfold jek noKp;simp
 unfold jbh
 simp [h]
theorem jo2 (t:Int):ja3 jaf t=16:=by
 unfold ja3
 have h1:ja8 jaf.ships t=0:=rfl
 have h2:jbh jaf.kept t=0:=jqs t
 rw [h1,h2]
 show 16 - 0 - (if (0:Int)≤t then 0+0 else 0)=16
 split <;> rfl
theorem jok:jaj jaf:=by
 refine⟨⟨by decide,by decide,by decide,by decide,(fun s hs=>by cases hs),(fun i j r s _ h=>by cases h),rfl,fun k hk=>?_⟩,fun t _ _=>by rw [jo2];decide⟩
 have:k=noKp:=by
  have h:k∈[noKp,noKp,noKp,noKp]:=hk
  simpa using h
 rw [this]
 exact Or.inl ⟨rfl,rfl,rfl⟩
end Go.Proofs.YtcmdoeledmkfmacGreatDoor
namespace Go.Proofs.YtcmdoeledmkfmacGreatDoor
open Go.ChangeShapes Go.WideShapes Go.ChangeAt Go.RowKit Go.Deep
theorem own:ownKnob Tryz.prog.godebug=none:=by kernel_rfl
end Go.Proofs.YtcmdoeledmkfmacGreatDoor
set_option maxRecDepth 100000
namespace Go.Proofs.YtcmdoeledmkfmacGreatDoor
open Go.ChangeShapes Go.WideShapes Go.ChangeAt Go.RowKit Go.Deep
instance:Inhabited Ship:=⟨⟨0,0,0,0,0,0⟩⟩
def WfS (s:Ship):Prop:=Wf s.st∧Wf s.wd∧Wf s.lg∧Wf s.cl∧Wf s.si∧Wf s.qu
def WfK (k:Kp):Prop:=Wf k.wd∧Wf k.fr∧Wf k.to
section
variable {H:Type} {enc:TypeId×Value→H} {W:World}
def WfP (p:Pt):Prop:=Wf p.now∧Wf p.shut∧Wf p.next∧(∀ s∈p.ships,WfS s)∧∀ k∈p.kept,WfK k
theorem WfP.q {p:Pt} (h:WfP p):WfQ p:=fun s hs=>(h.2.2.2.1 s hs).2.2.2.2.2
end
section
variable {H:Type} {enc:TypeId×Value→H} {W:World}
end
end Go.Proofs.YtcmdoeledmkfmacGreatDoor
