/- Orders about ships that there are: obey of package port, of the kinds Leave, Hold, Free and Change. -/
import Derived.Test.YtghhegajbehpeaaPMove
set_option linter.unusedSimpArgs false
set_option linter.unusedVariables false
namespace Go.Proofs.Ytghhegajbehpeaa
open Go.RowKit

/-- what an order about a ship does -/
def MoveIs (q : Pt) (o : Ord) (n er : Int) (q' : Pt) : Prop := n = 0 ∧ moveF q o = (er, q')


set_option maxHeartbeats 4000000 in
set_option maxRecDepth 100000 in
theorem obeyMove_any (g B : Nat) (q : Pt) (vs : Value) (kd a b c : Int) (w : World) (H : PQ B w g q vs) (hp : IsPort q) (hk : kd = 2 ∨ kd = 3 ∨ kd = 4 ∨ kd = 5) :
    Calls Try.prog 74 #[.pointer (some ⟨g, 0, none⟩), .agg #[.int .i64 kd, .int .i64 a, .int .i64 b, .int .i64 c]] w fun e w' => ∃ n er, e = .returned (.tuple #[.int .i64 n, .int .i64 er]) ∧ Hid (∃ q' vs', MoveIs q ⟨kd, a, b, c⟩ n er q' ∧ PQ B w' g q' vs' ∧ Below B w w') := by
  have hbw : Below w.heap.size w (w.alloc (.cells #[.int .i64 kd, .int .i64 a, .int .i64 b, .int .i64 c] 61)) := (Below.refl _ w).alloc (Nat.le_refl _) _
  have HC := move_any g B q vs kd a b c (w.alloc (.cells #[.int .i64 kd, .int .i64 a, .int .i64 b, .int .i64 c] 61)) (H.later hbw) hp hk
  have HB : Hid (Below B w (w.alloc (.cells #[.int .i64 kd, .int .i64 a, .int .i64 b, .int .i64 c] 61))) := hbw.mono H.2.2.1
  have O1 : Hid (OBox (w.alloc (.cells #[.int .i64 kd, .int .i64 a, .int .i64 b, .int .i64 c] 61)) w.heap.size ⟨kd, a, b, c⟩) := OBox.new w ⟨kd, a, b, c⟩
  have DO : Hid (∀ w1 er, Hid (∃ q', moveF q ⟨kd, a, b, c⟩ = (er, q') ∧ PQ B w1 g q' vs ∧ Below B (w.alloc (.cells #[.int .i64 kd, .int .i64 a, .int .i64 b, .int .i64 c] 61)) w1) → Hid (∃ q' vs', MoveIs q ⟨kd, a, b, c⟩ 0 er q' ∧ PQ B w1 g q' vs' ∧ Below B w w1)) := fun w1 er h => by
    obtain ⟨q', d1, d2, d3⟩ := h.out
    exact ⟨q', vs, ⟨rfl, d1⟩, d2, HB.out.trans d3⟩
  clear H hbw hp HB
  generalize hWA : w.alloc (.cells #[.int .i64 kd, .int .i64 a, .int .i64 b, .int .i64 c] 61) = WA at *
  generalize hgo : w.heap.size = go at *
  obtain ⟨oc0, oc1, oc2, oc3⟩ := O1.out.cells
  simp only at oc0 oc1 oc2 oc3
  rcases hk with rfl | rfl | rfl | rfl
  all_goals
    go_enter Try.func74, Try.ntmps74
    go_wp2_with fail
    refine HC.mono ?_
    rintro e w1 ⟨er, rfl, hw1⟩
    have D := DO.out w1 er hw1
    clear HC DO hw1
    go_wp2_with fail
    go_ret2
    exact ⟨_, _, rfl, D⟩

end Go.Proofs.Ytghhegajbehpeaa
