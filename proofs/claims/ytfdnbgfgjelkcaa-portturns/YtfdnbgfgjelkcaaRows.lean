/-
  No cell of these rows narrows 'for every input' (looked for: loops, veiled, ifaces, maps, wideKeys, modest, calm, conditions, laid).
  DERIVED. THE GIVEN ROWS OF THIS SEAT. 12 by the template 'for every input the law returns true; each argument reads behind the call as it read before'; 0 by the template 'total and deterministic' (their statements: YtfdnbgfgjelkcaaTotals.lean).
  GIVEN WITH THE SEED: the statements are not yours to turn. If you find one false, say at which input.
  Laid BY PROGRAM, IN A SANDBOX (cutbox-rows.mjs): the forced cells as the released guide's own fill.sh prints them over the translation bc7dcde5a7598bda… (all of the seat's roots in one cut). By AI agents, Wed Nov 11 2026. No macro, syntax, notation, axiom, sorry.
-/
import Derived.Test.YtfdnbgfgjelkcaaChecked
import GoSem.Claim
import GoSem.ClaimJoined
import GoSem.ClaimMapViews
import Derived.JoinedTies
import Derived.KernelRfl
namespace Go.Proofs.Ytfdnbgfgjelkcaa
/- THE CELL 'sum', in the pinned program and in every row, IS THE sha256 OF THE DUMP (.gsa) THAT YtfdnbgfgjelkcaaProg.lean LOADS. Nothing in Lean hashes anything: it is a label: what it is worth is what the hold of that sum in a sandbox is worth. -/
noncomputable def Try.pinned : Pinned := { name := "ytfdnbgfgjelkcaa", sum := "bc7dcde5a7598bda39fd5f6e108448e2f029af09092824f7e5c584f88389e48c", checked := Try.checked }
namespace Rows
def none {H : Type} : Left H := { results := [], args := [] }

/-- 'berthinglaw.SpanTells': WHATEVER THE INPUT: true; the input reads as it did. -/
def spanTellsSpec : ChangeSpec := { name := "spanTells", fn := fun _ => fun
  | [d1, d2, d3, d4, d5] => { results := [.lit (.bool true)], args := [d1, d2, d3, d4, d5] }
  | _ => none }
def spanTellsRow : OpenClaim := { program := "ytfdnbgfgjelkcaa", sum := "bc7dcde5a7598bda39fd5f6e108448e2f029af09092824f7e5c584f88389e48c", func := "berthing/berthinglaw.SpanTells", spec := "spanTells", inPlace := ["slices.overlaps[berthing/api.Step]"], unfollowed := true, recurses := true, apart := false }
def SpanTellsSaid : Prop := spanTellsRow.holds Try.pinned (OpenSpec.ofChange spanTellsSpec)

/-- ITS FALSE NEIGHBOUR: 'it returns false'. Refute it at one input. -/
def spanTellsWrong : ChangeSpec := { name := "spanTells", fn := fun _ => fun
  | [d1, d2, d3, d4, d5] => { results := [.lit (.bool false)], args := [d1, d2, d3, d4, d5] }
  | _ => none }
def SpanTellsWrongFalsely : Prop := spanTellsRow.holds Try.pinned (OpenSpec.ofChange spanTellsWrong)

/-- 'berthinglaw.SpanTakes': WHATEVER THE INPUT: true; the input reads as it did. -/
def spanTakesSpec : ChangeSpec := { name := "spanTakes", fn := fun _ => fun
  | [d1, d2, d3, d4] => { results := [.lit (.bool true)], args := [d1, d2, d3, d4] }
  | _ => none }
def spanTakesRow : OpenClaim := { program := "ytfdnbgfgjelkcaa", sum := "bc7dcde5a7598bda39fd5f6e108448e2f029af09092824f7e5c584f88389e48c", func := "berthing/berthinglaw.SpanTakes", spec := "spanTakes", inPlace := ["slices.overlaps[berthing/api.Step]"], unfollowed := true, recurses := true, apart := false }
def SpanTakesSaid : Prop := spanTakesRow.holds Try.pinned (OpenSpec.ofChange spanTakesSpec)

/-- ITS FALSE NEIGHBOUR: 'it returns false'. Refute it at one input. -/
def spanTakesWrong : ChangeSpec := { name := "spanTakes", fn := fun _ => fun
  | [d1, d2, d3, d4] => { results := [.lit (.bool false)], args := [d1, d2, d3, d4] }
  | _ => none }
def SpanTakesWrongFalsely : Prop := spanTakesRow.holds Try.pinned (OpenSpec.ofChange spanTakesWrong)

/-- 'berthingkeep.SpanBack': WHATEVER THE INPUT: true; the input reads as it did. -/
def spanBackSpec : ChangeSpec := { name := "spanBack", fn := fun _ => fun
  | [d1, d2, d3, d4] => { results := [.lit (.bool true)], args := [d1, d2, d3, d4] }
  | _ => none }
def spanBackRow : OpenClaim := { program := "ytfdnbgfgjelkcaa", sum := "bc7dcde5a7598bda39fd5f6e108448e2f029af09092824f7e5c584f88389e48c", func := "berthing/berthingkeep.SpanBack", spec := "spanBack", inPlace := ["slices.overlaps[berthing/api.Step]"], unfollowed := true, recurses := true, apart := false }
def SpanBackSaid : Prop := spanBackRow.holds Try.pinned (OpenSpec.ofChange spanBackSpec)

/-- ITS FALSE NEIGHBOUR: 'it returns false'. Refute it at one input. -/
def spanBackWrong : ChangeSpec := { name := "spanBack", fn := fun _ => fun
  | [d1, d2, d3, d4] => { results := [.lit (.bool false)], args := [d1, d2, d3, d4] }
  | _ => none }
def SpanBackWrongFalsely : Prop := spanBackRow.holds Try.pinned (OpenSpec.ofChange spanBackWrong)

/-- 'berthingkeep.SpanFirst': WHATEVER THE INPUT: true; the input reads as it did. -/
def spanFirstSpec : ChangeSpec := { name := "spanFirst", fn := fun _ => fun
  | [d1, d2, d3, d4] => { results := [.lit (.bool true)], args := [d1, d2, d3, d4] }
  | _ => none }
def spanFirstRow : OpenClaim := { program := "ytfdnbgfgjelkcaa", sum := "bc7dcde5a7598bda39fd5f6e108448e2f029af09092824f7e5c584f88389e48c", func := "berthing/berthingkeep.SpanFirst", spec := "spanFirst", inPlace := ["slices.overlaps[berthing/api.Step]"], unfollowed := true, recurses := true, apart := false }
def SpanFirstSaid : Prop := spanFirstRow.holds Try.pinned (OpenSpec.ofChange spanFirstSpec)

/-- ITS FALSE NEIGHBOUR: 'it returns false'. Refute it at one input. -/
def spanFirstWrong : ChangeSpec := { name := "spanFirst", fn := fun _ => fun
  | [d1, d2, d3, d4] => { results := [.lit (.bool false)], args := [d1, d2, d3, d4] }
  | _ => none }
def SpanFirstWrongFalsely : Prop := spanFirstRow.holds Try.pinned (OpenSpec.ofChange spanFirstWrong)

/-- 'berthinglaw.PortTells': WHATEVER THE INPUT: true; the input reads as it did. -/
def portTellsSpec : ChangeSpec := { name := "portTells", fn := fun _ => fun
  | [d1, d2, d3] => { results := [.lit (.bool true)], args := [d1, d2, d3] }
  | _ => none }
def portTellsRow : OpenClaim := { program := "ytfdnbgfgjelkcaa", sum := "bc7dcde5a7598bda39fd5f6e108448e2f029af09092824f7e5c584f88389e48c", func := "berthing/berthinglaw.PortTells", spec := "portTells", inPlace := ["slices.overlaps[berthing/api.Step]"], unfollowed := true, recurses := true, apart := false }
def PortTellsSaid : Prop := portTellsRow.holds Try.pinned (OpenSpec.ofChange portTellsSpec)

/-- ITS FALSE NEIGHBOUR: 'it returns false'. Refute it at one input. -/
def portTellsWrong : ChangeSpec := { name := "portTells", fn := fun _ => fun
  | [d1, d2, d3] => { results := [.lit (.bool false)], args := [d1, d2, d3] }
  | _ => none }
def PortTellsWrongFalsely : Prop := portTellsRow.holds Try.pinned (OpenSpec.ofChange portTellsWrong)

/-- 'berthinglaw.PortTurns': WHATEVER THE INPUT: true; the input reads as it did. -/
def portTurnsSpec : ChangeSpec := { name := "portTurns", fn := fun _ => fun
  | [d1, d2, d3] => { results := [.lit (.bool true)], args := [d1, d2, d3] }
  | _ => none }
def portTurnsRow : OpenClaim := { program := "ytfdnbgfgjelkcaa", sum := "bc7dcde5a7598bda39fd5f6e108448e2f029af09092824f7e5c584f88389e48c", func := "berthing/berthinglaw.PortTurns", spec := "portTurns", inPlace := ["slices.overlaps[berthing/api.Step]", "internal/bytealg.IndexByteString", "internal/bytealg.IndexString"], unfollowed := true, recurses := true, named := ["internal/bytealg.MaxLen"], apart := false }
def PortTurnsSaid : Prop := portTurnsRow.holds Try.pinned (OpenSpec.ofChange portTurnsSpec)

/-- ITS FALSE NEIGHBOUR: 'it returns false'. Refute it at one input. -/
def portTurnsWrong : ChangeSpec := { name := "portTurns", fn := fun _ => fun
  | [d1, d2, d3] => { results := [.lit (.bool false)], args := [d1, d2, d3] }
  | _ => none }
def PortTurnsWrongFalsely : Prop := portTurnsRow.holds Try.pinned (OpenSpec.ofChange portTurnsWrong)

/-- 'berthingkeep.PortRoom': WHATEVER THE INPUT: true; the input reads as it did. -/
def portRoomSpec : ChangeSpec := { name := "portRoom", fn := fun _ => fun
  | [d] => { results := [.lit (.bool true)], args := [d] }
  | _ => none }
def portRoomRow : OpenClaim := { program := "ytfdnbgfgjelkcaa", sum := "bc7dcde5a7598bda39fd5f6e108448e2f029af09092824f7e5c584f88389e48c", func := "berthing/berthingkeep.PortRoom", spec := "portRoom", inPlace := ["slices.overlaps[berthing/api.Step]"], unfollowed := true, recurses := true, apart := false }
def PortRoomSaid : Prop := portRoomRow.holds Try.pinned (OpenSpec.ofChange portRoomSpec)

/-- ITS FALSE NEIGHBOUR: 'it returns false'. Refute it at one input. -/
def portRoomWrong : ChangeSpec := { name := "portRoom", fn := fun _ => fun
  | [d] => { results := [.lit (.bool false)], args := [d] }
  | _ => none }
def PortRoomWrongFalsely : Prop := portRoomRow.holds Try.pinned (OpenSpec.ofChange portRoomWrong)

/-- 'berthingkeep.PortRanks': WHATEVER THE INPUT: true; the input reads as it did. -/
def portRanksSpec : ChangeSpec := { name := "portRanks", fn := fun _ => fun
  | [d1, d2] => { results := [.lit (.bool true)], args := [d1, d2] }
  | _ => none }
def portRanksRow : OpenClaim := { program := "ytfdnbgfgjelkcaa", sum := "bc7dcde5a7598bda39fd5f6e108448e2f029af09092824f7e5c584f88389e48c", func := "berthing/berthingkeep.PortRanks", spec := "portRanks", inPlace := ["slices.overlaps[berthing/api.Step]"], unfollowed := true, recurses := true, apart := false }
def PortRanksSaid : Prop := portRanksRow.holds Try.pinned (OpenSpec.ofChange portRanksSpec)

/-- ITS FALSE NEIGHBOUR: 'it returns false'. Refute it at one input. -/
def portRanksWrong : ChangeSpec := { name := "portRanks", fn := fun _ => fun
  | [d1, d2] => { results := [.lit (.bool false)], args := [d1, d2] }
  | _ => none }
def PortRanksWrongFalsely : Prop := portRanksRow.holds Try.pinned (OpenSpec.ofChange portRanksWrong)

/-- 'berthingkeep.PortFirst': WHATEVER THE INPUT: true; the input reads as it did. -/
def portFirstSpec : ChangeSpec := { name := "portFirst", fn := fun _ => fun
  | [d] => { results := [.lit (.bool true)], args := [d] }
  | _ => none }
def portFirstRow : OpenClaim := { program := "ytfdnbgfgjelkcaa", sum := "bc7dcde5a7598bda39fd5f6e108448e2f029af09092824f7e5c584f88389e48c", func := "berthing/berthingkeep.PortFirst", spec := "portFirst", inPlace := ["slices.overlaps[berthing/api.Step]"], unfollowed := true, recurses := true, apart := false }
def PortFirstSaid : Prop := portFirstRow.holds Try.pinned (OpenSpec.ofChange portFirstSpec)

/-- ITS FALSE NEIGHBOUR: 'it returns false'. Refute it at one input. -/
def portFirstWrong : ChangeSpec := { name := "portFirst", fn := fun _ => fun
  | [d] => { results := [.lit (.bool false)], args := [d] }
  | _ => none }
def PortFirstWrongFalsely : Prop := portFirstRow.holds Try.pinned (OpenSpec.ofChange portFirstWrong)

/-- 'berthingkeep.PortLater': WHATEVER THE INPUT: true; the input reads as it did. -/
def portLaterSpec : ChangeSpec := { name := "portLater", fn := fun _ => fun
  | [d] => { results := [.lit (.bool true)], args := [d] }
  | _ => none }
def portLaterRow : OpenClaim := { program := "ytfdnbgfgjelkcaa", sum := "bc7dcde5a7598bda39fd5f6e108448e2f029af09092824f7e5c584f88389e48c", func := "berthing/berthingkeep.PortLater", spec := "portLater", inPlace := ["slices.overlaps[berthing/api.Step]"], unfollowed := true, recurses := true, apart := false }
def PortLaterSaid : Prop := portLaterRow.holds Try.pinned (OpenSpec.ofChange portLaterSpec)

/-- ITS FALSE NEIGHBOUR: 'it returns false'. Refute it at one input. -/
def portLaterWrong : ChangeSpec := { name := "portLater", fn := fun _ => fun
  | [d] => { results := [.lit (.bool false)], args := [d] }
  | _ => none }
def PortLaterWrongFalsely : Prop := portLaterRow.holds Try.pinned (OpenSpec.ofChange portLaterWrong)

/-- 'berthinglaw.MendPlans': WHATEVER THE INPUT: true; the input reads as it did. -/
def mendPlansSpec : ChangeSpec := { name := "mendPlans", fn := fun _ => fun
  | [d1, d2] => { results := [.lit (.bool true)], args := [d1, d2] }
  | _ => none }
def mendPlansRow : OpenClaim := { program := "ytfdnbgfgjelkcaa", sum := "bc7dcde5a7598bda39fd5f6e108448e2f029af09092824f7e5c584f88389e48c", func := "berthing/berthinglaw.MendPlans", spec := "mendPlans", inPlace := ["slices.overlaps[berthing/api.Step]", "slices.overlaps[berthing/mend.pair]"], unfollowed := true, recurses := true, apart := false }
def MendPlansSaid : Prop := mendPlansRow.holds Try.pinned (OpenSpec.ofChange mendPlansSpec)

/-- ITS FALSE NEIGHBOUR: 'it returns false'. Refute it at one input. -/
def mendPlansWrong : ChangeSpec := { name := "mendPlans", fn := fun _ => fun
  | [d1, d2] => { results := [.lit (.bool false)], args := [d1, d2] }
  | _ => none }
def MendPlansWrongFalsely : Prop := mendPlansRow.holds Try.pinned (OpenSpec.ofChange mendPlansWrong)

/-- 'berthingkeep.MendSame': WHATEVER THE INPUT: true; the input reads as it did. -/
def mendSameSpec : ChangeSpec := { name := "mendSame", fn := fun _ => fun
  | [d1, d2] => { results := [.lit (.bool true)], args := [d1, d2] }
  | _ => none }
def mendSameRow : OpenClaim := { program := "ytfdnbgfgjelkcaa", sum := "bc7dcde5a7598bda39fd5f6e108448e2f029af09092824f7e5c584f88389e48c", func := "berthing/berthingkeep.MendSame", spec := "mendSame", inPlace := ["slices.overlaps[berthing/api.Step]", "slices.overlaps[berthing/mend.pair]"], unfollowed := true, recurses := true, apart := false }
def MendSameSaid : Prop := mendSameRow.holds Try.pinned (OpenSpec.ofChange mendSameSpec)

/-- ITS FALSE NEIGHBOUR: 'it returns false'. Refute it at one input. -/
def mendSameWrong : ChangeSpec := { name := "mendSame", fn := fun _ => fun
  | [d1, d2] => { results := [.lit (.bool false)], args := [d1, d2] }
  | _ => none }
def MendSameWrongFalsely : Prop := mendSameRow.holds Try.pinned (OpenSpec.ofChange mendSameWrong)

/- THE SECOND FORM. 'bulk': how many values and letters a reading holds, each counted each time it is reached (what is shared counts as often as it is met; a slice's spare places count too). A statement '..UptoSaid' is the law's where the arguments, and the package variables that the reading takes, are together of bulk at most 1048576: NARROWER than '..Said'. Prove '..Said' where nothing that the law and all that it calls make is longer than what came in: it says more and counts as full. Else prove '..UptoSaid'. A law counts once. -/
mutual
def uptoBulk {H : Type} : DataW H → Nat
  | .lit (.string bytes) => bytes.length + 1
  | .lit _ => 1
  | .nil => 1
  | .ptr d => uptoBulk d + 1
  | .slice elems spare => uptoBulkAll elems + uptoBulkAll spare + 1
  | .agg parts => uptoBulkAll parts + 1
  | .iface _ d => uptoBulk d + 1
  | .map entries => uptoBulkEntries entries + 1
  | .held _ => 1
def uptoBulkAll {H : Type} : List (DataW H) → Nat
  | [] => 0
  | d :: r => uptoBulk d + uptoBulkAll r
def uptoBulkEntries {H : Type} : List (Lit × DataW H) → Nat
  | [] => 0
  | x :: r => uptoBulkEntry x + uptoBulkEntries r
def uptoBulkEntry {H : Type} : Lit × DataW H → Nat
  | (.string bytes, d) => bytes.length + uptoBulk d + 1
  | (_, d) => uptoBulk d + 1
 end
def uptoSmall : (H : Type) → List (DataW H) → Bool := fun _ ds => decide (uptoBulkAll ds ≤ 1048576)
def OpenSpec.upto (s : _root_.Go.ChangeSpec) : _root_.Go.OpenSpec := { _root_.Go.OpenSpec.ofChange s with cond := some uptoSmall }

/-- 'berthinglaw.SpanTells', WHERE WHAT IT READS IS OF BULK AT MOST 1048576: true; the input reads as it did. -/
def spanTellsUptoRow : OpenClaim := { program := "ytfdnbgfgjelkcaa", sum := "bc7dcde5a7598bda39fd5f6e108448e2f029af09092824f7e5c584f88389e48c", func := "berthing/berthinglaw.SpanTells", spec := "spanTells", inPlace := ["slices.overlaps[berthing/api.Step]"], unfollowed := true, recurses := true, apart := false, narrowed := true }
def SpanTellsUptoSaid : Prop := spanTellsUptoRow.holds Try.pinned (OpenSpec.upto spanTellsSpec)

/-- 'berthinglaw.SpanTakes', WHERE WHAT IT READS IS OF BULK AT MOST 1048576: true; the input reads as it did. -/
def spanTakesUptoRow : OpenClaim := { program := "ytfdnbgfgjelkcaa", sum := "bc7dcde5a7598bda39fd5f6e108448e2f029af09092824f7e5c584f88389e48c", func := "berthing/berthinglaw.SpanTakes", spec := "spanTakes", inPlace := ["slices.overlaps[berthing/api.Step]"], unfollowed := true, recurses := true, apart := false, narrowed := true }
def SpanTakesUptoSaid : Prop := spanTakesUptoRow.holds Try.pinned (OpenSpec.upto spanTakesSpec)

/-- 'berthingkeep.SpanBack', WHERE WHAT IT READS IS OF BULK AT MOST 1048576: true; the input reads as it did. -/
def spanBackUptoRow : OpenClaim := { program := "ytfdnbgfgjelkcaa", sum := "bc7dcde5a7598bda39fd5f6e108448e2f029af09092824f7e5c584f88389e48c", func := "berthing/berthingkeep.SpanBack", spec := "spanBack", inPlace := ["slices.overlaps[berthing/api.Step]"], unfollowed := true, recurses := true, apart := false, narrowed := true }
def SpanBackUptoSaid : Prop := spanBackUptoRow.holds Try.pinned (OpenSpec.upto spanBackSpec)

/-- 'berthingkeep.SpanFirst', WHERE WHAT IT READS IS OF BULK AT MOST 1048576: true; the input reads as it did. -/
def spanFirstUptoRow : OpenClaim := { program := "ytfdnbgfgjelkcaa", sum := "bc7dcde5a7598bda39fd5f6e108448e2f029af09092824f7e5c584f88389e48c", func := "berthing/berthingkeep.SpanFirst", spec := "spanFirst", inPlace := ["slices.overlaps[berthing/api.Step]"], unfollowed := true, recurses := true, apart := false, narrowed := true }
def SpanFirstUptoSaid : Prop := spanFirstUptoRow.holds Try.pinned (OpenSpec.upto spanFirstSpec)

/-- 'berthinglaw.PortTells', WHERE WHAT IT READS IS OF BULK AT MOST 1048576: true; the input reads as it did. -/
def portTellsUptoRow : OpenClaim := { program := "ytfdnbgfgjelkcaa", sum := "bc7dcde5a7598bda39fd5f6e108448e2f029af09092824f7e5c584f88389e48c", func := "berthing/berthinglaw.PortTells", spec := "portTells", inPlace := ["slices.overlaps[berthing/api.Step]"], unfollowed := true, recurses := true, apart := false, narrowed := true }
def PortTellsUptoSaid : Prop := portTellsUptoRow.holds Try.pinned (OpenSpec.upto portTellsSpec)

/-- 'berthinglaw.PortTurns', WHERE WHAT IT READS IS OF BULK AT MOST 1048576: true; the input reads as it did. -/
def portTurnsUptoRow : OpenClaim := { program := "ytfdnbgfgjelkcaa", sum := "bc7dcde5a7598bda39fd5f6e108448e2f029af09092824f7e5c584f88389e48c", func := "berthing/berthinglaw.PortTurns", spec := "portTurns", inPlace := ["slices.overlaps[berthing/api.Step]", "internal/bytealg.IndexByteString", "internal/bytealg.IndexString"], unfollowed := true, recurses := true, named := ["internal/bytealg.MaxLen"], apart := false, narrowed := true }
def PortTurnsUptoSaid : Prop := portTurnsUptoRow.holds Try.pinned (OpenSpec.upto portTurnsSpec)

/-- 'berthingkeep.PortRoom', WHERE WHAT IT READS IS OF BULK AT MOST 1048576: true; the input reads as it did. -/
def portRoomUptoRow : OpenClaim := { program := "ytfdnbgfgjelkcaa", sum := "bc7dcde5a7598bda39fd5f6e108448e2f029af09092824f7e5c584f88389e48c", func := "berthing/berthingkeep.PortRoom", spec := "portRoom", inPlace := ["slices.overlaps[berthing/api.Step]"], unfollowed := true, recurses := true, apart := false, narrowed := true }
def PortRoomUptoSaid : Prop := portRoomUptoRow.holds Try.pinned (OpenSpec.upto portRoomSpec)

/-- 'berthingkeep.PortRanks', WHERE WHAT IT READS IS OF BULK AT MOST 1048576: true; the input reads as it did. -/
def portRanksUptoRow : OpenClaim := { program := "ytfdnbgfgjelkcaa", sum := "bc7dcde5a7598bda39fd5f6e108448e2f029af09092824f7e5c584f88389e48c", func := "berthing/berthingkeep.PortRanks", spec := "portRanks", inPlace := ["slices.overlaps[berthing/api.Step]"], unfollowed := true, recurses := true, apart := false, narrowed := true }
def PortRanksUptoSaid : Prop := portRanksUptoRow.holds Try.pinned (OpenSpec.upto portRanksSpec)

/-- 'berthingkeep.PortFirst', WHERE WHAT IT READS IS OF BULK AT MOST 1048576: true; the input reads as it did. -/
def portFirstUptoRow : OpenClaim := { program := "ytfdnbgfgjelkcaa", sum := "bc7dcde5a7598bda39fd5f6e108448e2f029af09092824f7e5c584f88389e48c", func := "berthing/berthingkeep.PortFirst", spec := "portFirst", inPlace := ["slices.overlaps[berthing/api.Step]"], unfollowed := true, recurses := true, apart := false, narrowed := true }
def PortFirstUptoSaid : Prop := portFirstUptoRow.holds Try.pinned (OpenSpec.upto portFirstSpec)

/-- 'berthingkeep.PortLater', WHERE WHAT IT READS IS OF BULK AT MOST 1048576: true; the input reads as it did. -/
def portLaterUptoRow : OpenClaim := { program := "ytfdnbgfgjelkcaa", sum := "bc7dcde5a7598bda39fd5f6e108448e2f029af09092824f7e5c584f88389e48c", func := "berthing/berthingkeep.PortLater", spec := "portLater", inPlace := ["slices.overlaps[berthing/api.Step]"], unfollowed := true, recurses := true, apart := false, narrowed := true }
def PortLaterUptoSaid : Prop := portLaterUptoRow.holds Try.pinned (OpenSpec.upto portLaterSpec)

/-- 'berthinglaw.MendPlans', WHERE WHAT IT READS IS OF BULK AT MOST 1048576: true; the input reads as it did. -/
def mendPlansUptoRow : OpenClaim := { program := "ytfdnbgfgjelkcaa", sum := "bc7dcde5a7598bda39fd5f6e108448e2f029af09092824f7e5c584f88389e48c", func := "berthing/berthinglaw.MendPlans", spec := "mendPlans", inPlace := ["slices.overlaps[berthing/api.Step]", "slices.overlaps[berthing/mend.pair]"], unfollowed := true, recurses := true, apart := false, narrowed := true }
def MendPlansUptoSaid : Prop := mendPlansUptoRow.holds Try.pinned (OpenSpec.upto mendPlansSpec)

/-- 'berthingkeep.MendSame', WHERE WHAT IT READS IS OF BULK AT MOST 1048576: true; the input reads as it did. -/
def mendSameUptoRow : OpenClaim := { program := "ytfdnbgfgjelkcaa", sum := "bc7dcde5a7598bda39fd5f6e108448e2f029af09092824f7e5c584f88389e48c", func := "berthing/berthingkeep.MendSame", spec := "mendSame", inPlace := ["slices.overlaps[berthing/api.Step]", "slices.overlaps[berthing/mend.pair]"], unfollowed := true, recurses := true, apart := false, narrowed := true }
def MendSameUptoSaid : Prop := mendSameUptoRow.holds Try.pinned (OpenSpec.upto mendSameSpec)

end Rows
end Go.Proofs.Ytfdnbgfgjelkcaa
