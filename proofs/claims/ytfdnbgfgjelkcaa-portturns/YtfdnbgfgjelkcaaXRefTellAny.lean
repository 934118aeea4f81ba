/- Texts of this claim, in one: RefTellAny. -/
import Derived.Test.YtfdnbgfgjelkcaaXRefTellA
import Derived.Test.YtfdnbgfgjelkcaaXRefTellB
import Derived.Test.YtfdnbgfgjelkcaaXRefTellC
import Derived.Test.YtfdnbgfgjelkcaaXRefTellD
import Derived.Test.YtfdnbgfgjelkcaaXRefTellE
import Derived.Test.YtfdnbgfgjelkcaaXRefTellF
import Derived.Test.YtfdnbgfgjelkcaaXRefTellG
import Derived.Test.YtfdnbgfgjelkcaaXRefTellH
import Derived.Test.YtfdnbgfgjelkcaaXRefTellI
import Derived.Test.YtfdnbgfgjelkcaaXRefTellJ
import Derived.Test.YtfdnbgfgjelkcaaXRefTellK
import Derived.Test.YtfdnbgfgjelkcaaXRefTellL
import Derived.Test.YtfdnbgfgjelkcaaXRefTellN
import Derived.Test.YtfdnbgfgjelkcaaXRefTellO
/- A port behind an order, by the document's own answer: TellPort, of every port and order: P2.6 to P2.8. -/
set_option linter.unusedSimpArgs false
set_option linter.unusedVariables false
namespace Go.Proofs.Ytfdnbgfgjelkcaa
open Go.RowKit

theorem refTell_any (v : Value) (p : Pt) (kd a b c : Int) (w : World) (hv : PtV w v p) :
    Calls Try.prog 45 #[v, .agg #[.int .i64 kd, .int .i64 a, .int .i64 b, .int .i64 c]] w fun e w' => RefTellPost w (TellIs (ObeyIs p ⟨kd, a, b, c⟩) p) e w' := by
  by_cases hp : IsPort p
  case neg => exact refTell_not v p kd a b c w hv hp
  by_cases k1 : kd = 1
  · exact refTell_come v p kd a b c w hv hp k1
  by_cases k6 : kd = 6
  · exact refTell_keep v p kd a b c w hv hp k6
  by_cases k8 : kd = 8
  · exact refTell_shut v p kd a b c w hv hp k8
  by_cases k7 : kd = 7
  · by_cases ha : 0 ≤ a ∧ a ≤ 3
    · obtain ⟨j, rfl⟩ : ∃ j : Nat, a = j := ⟨a.toNat, by omega⟩
      exact refTell_drop1 v p kd b c j w hv hp k7 (by omega)
    · exact refTell_drop0 v p kd a b c w hv hp k7 ha
  by_cases k0 : 1 ≤ kd ∧ kd ≤ 8
  case neg => exact refTell_else v p kd a b c w hv hp k0
  have hk : kd = 2 ∨ kd = 3 ∨ kd = 4 ∨ kd = 5 := by omega
  by_cases ha : 0 ≤ a ∧ a ≤ (p.ships.length : Int) - 1
  case neg =>
    rcases hk with rfl | rfl | rfl | rfl
    · exact refTell_n2 v p a b c w hv hp ha
    · exact refTell_n3 v p a b c w hv hp ha
    · exact refTell_n4 v p a b c w hv hp ha
    · exact refTell_n5 v p a b c w hv hp ha
  obtain ⟨j, rfl⟩ : ∃ j : Nat, a = j := ⟨a.toNat, by omega⟩
  have hj : j < p.ships.length := by omega
  rcases hk with rfl | rfl | rfl | rfl
  · exact refTell_m2 v p b c j w hv hp hj
  · exact refTell_m3 v p b c j w hv hp hj
  · exact refTell_m4 v p b c j w hv hp hj
  · by_cases hb : 1 ≤ b ∧ b ≤ 300
    case neg => exact refTell_m5a v p b c j w hv hp hj hb
    by_cases h3 : ∀ s, p.ships[j]? = some s → s.st = 3
    · exact refTell_m5c v p b c j w hv hp hj ⟨hb, h3⟩
    · refine refTell_m5b v p b c j w hv hp hj ⟨hb, fun s hs e => h3 fun s' hs' => ?_⟩
      rw [hs] at hs'
      injection hs' with hs'
      rw [← hs']
      exact e

end Go.Proofs.Ytfdnbgfgjelkcaa
