/- Texts of this claim, in one: PTurnsV. -/
import Derived.Test.YtfdnbgfgjelkcaaXPTurnsW
import Derived.Test.YtfdnbgfgjelkcaaXRefTellAny
/- PortTurns: the walk, over TellPort's contract. -/
namespace Go.Proofs.Ytfdnbgfgjelkcaa
open Go.RowKit

theorem portTurns_any (v : Value) (p : Pt) (o : Ord) (vp : Value) (pl : List Int) (w : World) (hv : PtV w v p) (hf : WfP p) (ho : WfO o) (hpl : SlK cInt w vp pl) (hp2 : (∀ x ∈ pl, Wf x) ∧ pl.length ≤ 17592186044416) :
    Calls Try.prog 8 #[v, .agg #[.int .i64 o.kd, .int .i64 o.a, .int .i64 o.b, .int .i64 o.c], vp] w fun e w' => e = .returned (.bool true) ∧ Below w.heap.size w w' :=
  portTurns_of (fun v p kd a b c w h => refTell_any v p kd a b c w h) v p o vp pl w hv hf ho hpl hp2

end Go.Proofs.Ytfdnbgfgjelkcaa
