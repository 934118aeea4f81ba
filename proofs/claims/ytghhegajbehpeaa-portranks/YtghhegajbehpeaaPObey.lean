/- What an order says is done to a port: obey of package port, of the kind Come; shut. -/
import Derived.Test.YtghhegajbehpeaaPCome
set_option linter.unusedSimpArgs false
set_option linter.unusedVariables false
namespace Go.Proofs.Ytghhegajbehpeaa
open Go.RowKit

/-- Kind, A, B, C -/
structure Ord where
  kd : Int
  a : Int
  b : Int
  c : Int

/-- an order's four cells -/
def cOrd (o : Ord) : List Value := [.int .i64 o.kd, .int .i64 o.a, .int .i64 o.b, .int .i64 o.c]


theorem PQ.later {B g : Nat} {w w' : World} {q : Pt} {vs : Value} (h : PQ B w g q vs) (hb : Below w.heap.size w w') : PQ B w' g q vs := by
  refine ⟨h.1.later hb h.1.lt, ⟨h.2.1.1, ?_⟩, Nat.le_trans h.2.2.1 hb.size, h.2.2.2⟩
  rcases h.2.1.2 with h0 | ⟨b, cap, cur, h0, h1, h2, h3⟩
  · exact Or.inl h0
  · exact Or.inr ⟨b, cap, cur, h0, h1, by rw [hb.block b (Array.getElem?_eq_some_iff.1 h2).1]; exact h2, h3⟩

set_option maxHeartbeats 2000000 in
set_option maxRecDepth 100000 in
theorem obeyCome_any (g B : Nat) (q : Pt) (vs : Value) (a b c : Int) (w : World) (H : PQ B w g q vs) (hg : vs.ownBlock ≠ some g) (hn : q.ships.length ≤ 14) (hx0 : 0 ≤ q.next) (hx1 : q.next ≤ 1048576) :
    Calls Try.prog 74 #[.pointer (some ⟨g, 0, none⟩), .agg #[.int .i64 1, .int .i64 a, .int .i64 b, .int .i64 c]] w fun e w' => ∃ n er, e = .returned (.tuple #[.int .i64 n, .int .i64 er]) ∧ Hid (∃ q' vs', ComeIs q a b c n er q' ∧ PQ B w' g q' vs' ∧ Below B w w') := by
  have hbw : Below w.heap.size w (w.alloc (.cells #[.int .i64 1, .int .i64 a, .int .i64 b, .int .i64 c] 61)) := (Below.refl _ w).alloc (Nat.le_refl _) _
  have HC := come_any g B q vs a b c (w.alloc (.cells #[.int .i64 1, .int .i64 a, .int .i64 b, .int .i64 c] 61)) (H.later hbw) hg hn hx0 hx1
  have HB : Hid (Below B w (w.alloc (.cells #[.int .i64 1, .int .i64 a, .int .i64 b, .int .i64 c] 61))) := hbw.mono H.2.2.1
  clear H hbw
  go_enter Try.func74, Try.ntmps74
  go_wp2_with fail
  refine HC.mono ?_
  rintro e w1 ⟨n, er, rfl, hw1⟩
  obtain ⟨q', vs', d1, d2, d3⟩ := hw1.out
  have D : Hid (ComeIs q a b c n er q' ∧ PQ B w1 g q' vs' ∧ Below B w w1) := ⟨d1, d2, HB.out.trans d3⟩
  clear HC d1 d2 d3 hw1
  go_wp2_with fail
  go_ret2
  first | exact ⟨_, _, rfl, ⟨q', vs', D.out.1, D.out.2.1, D.out.2.2⟩⟩ | exact ⟨_, _, rfl, ⟨q', D.out.1, ⟨vs', D.out.2.1⟩, D.out.2.2⟩⟩

set_option maxHeartbeats 1000000 in
theorem shut_any (g B : Nat) (q : Pt) (vs : Value) (n : Int) (w : World) (H : PQ B w g q vs) :
    Calls Try.prog 96 #[.pointer (some ⟨g, 0, none⟩), .int .i64 n] w fun e w' => ∃ er, e = .returned (.int .i64 er) ∧ Hid (((0 ≤ n ∧ n ≤ 16) ∧ er = 0 ∧ PQ B w' g { q with shut := n } vs ∨ ¬ (0 ≤ n ∧ n ≤ 16) ∧ er = 2 ∧ PQ B w' g q vs) ∧ Below B w w') := by
  have B0 : Hid (Below B w w) := Below.refl _ _
  have HH : Hid (PQ B w g q vs) := H
  rcases pinR_or n 0 16 with b1 | b1
  · have c14 := H.1.cells.2.2.1
    have f14 := H.1.frozen 14
    have D : Hid (PQ B (w.setCell ⟨g, 14, none⟩ (.int .i64 n)) g { q with shut := n } vs ∧ Below B w (w.setCell ⟨g, 14, none⟩ (.int .i64 n))) := ⟨⟨H.1.setShut n, rowShips_set H.1 H.2.1, Nat.le_trans H.2.2.1 ((Below.refl B w).setCell (p := ⟨g, 14, none⟩) H.2.2.2 (.int .i64 n)).size, H.2.2.2⟩, (Below.refl B w).setCell H.2.2.2 _⟩
    have Y : Hid (0 ≤ n ∧ n ≤ 16) := pinR_yes b1
    clear H
    go_enter Try.func96, Try.ntmps96
    go_wp2_with (first | (go_at_call 63; refine (pWithin _ _ _ _).mono ?_; rintro e w' ⟨rfl, rfl⟩))
    go_ret
    exact ⟨_, rfl, ⟨Or.inl ⟨Y.out, rfl, D.out.1⟩, D.out.2⟩⟩
  · have NO : Hid (¬ (0 ≤ n ∧ n ≤ 16)) := pinR_no b1
    clear H
    go_enter Try.func96, Try.ntmps96
    go_wp2_with (first | (go_at_call 63; refine (pWithin _ _ _ _).mono ?_; rintro e w' ⟨rfl, rfl⟩))
    go_ret
    exact ⟨_, rfl, ⟨Or.inr ⟨NO.out, rfl, HH.out⟩, B0.out⟩⟩

end Go.Proofs.Ytghhegajbehpeaa
