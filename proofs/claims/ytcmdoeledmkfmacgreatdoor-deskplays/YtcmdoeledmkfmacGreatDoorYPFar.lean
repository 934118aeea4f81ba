/- Texts of this claim, in one: PFar. -/
import Derived.Test.YtcmdoeledmkfmacGreatDoorS9
set_option linter.unusedSimpArgs false
set_option linter.unusedVariables false
namespace Go.Proofs.YtcmdoeledmkfmacGreatDoor
open Go.RowKit
def FarB (B:Nat) (v:Value):Prop:=∀ a n c,v=.slice (some a) n c→B≤a.block
theorem FarB.nil (B n c:Nat):FarB B (.slice none n c):=fun a n c h=>by cases h
theorem FarB.mono {B B':Nat} {v:Value} (h:FarB B v) (hb:B'≤B):FarB B' v:=fun a n c e=>Nat.le_trans hb (h a n c e)
theorem jc0 {w:World} {B B':Nat} {e:TypeId} {size:Nat} {v:Value} {n:Nat} {xs:List Value} (h:w.ownsRow B e size v n xs) (hb:B'≤B):FarB B' v:=fun a m c hv=>by
 rcases h.2 with ⟨h0,_⟩|⟨g,cap,cur,h0,h1,_⟩
 ·rw [h0] at hv;cases hv
 ·rw [h0] at hv
  injection hv with hv
  injection hv with hv
  rw [← hv]
  exact Nat.le_trans hb h1
end Go.Proofs.YtcmdoeledmkfmacGreatDoor
