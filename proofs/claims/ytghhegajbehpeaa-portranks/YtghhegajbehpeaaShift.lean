/- shift of package span, and with it Take and Give: for every slice of steps and numbers they answer what P1.3 says, and nothing that lay in memory turns. -/
import Derived.Test.YtghhegajbehpeaaCut
import Derived.Test.YtghhegajbehpeaaJoin
import Derived.Test.YtghhegajbehpeaaFit
set_option linter.unusedSimpArgs false
set_option linter.unusedVariables false
namespace Go.Proofs.Ytghhegajbehpeaa
open Go.RowKit

/-- how many berths a step leaves is written anew -/
theorem OwnG.storeFree {w : World} {B g cap : Nat} {m : List (Int × Int)} (h : OwnG w B g cap m) (k : Nat) (hk : k < m.length) (y : Int) :
    OwnG (w.setCell ⟨g, k * 2 + 1, none⟩ (.int .i64 y)) B g cap (m.set k ((sAt m k).1, y)) := by
  obtain ⟨cur, hg, hs, ht⟩ := h.row
  have h1 : (w.setCell ⟨g, k * 2 + 1, none⟩ (.int .i64 y)).heap[g]? = some (.cells (cur.setIfInBounds (k * 2 + 1) (.int .i64 y)) 31 (0, 0)) := by
    rw [setCell_eq_setRow w g (k * 2 + 1) cur _ _ _ hg]; exact setRow_heap w g cur _ _ _ hg
  refine ⟨h.base, by simpa using h.le, h.max, _, h1, by simpa using hs, ?_⟩
  have e : ∀ (l : List (Int × Int)) (k : Nat), k < l.length → (cells l).set (k * 2 + 1) (.int .i64 y) = cells (l.set k ((sAt l k).1, y)) := by
    intro l
    induction l with
    | nil => intro k hk; simp at hk
    | cons a r ih =>
      intro k hk
      cases k with
      | zero => rfl
      | succ k =>
        rw [show (k + 1) * 2 = k * 2 + 1 + 1 by omega]
        simp only [cells, List.set_cons_succ]
        rw [ih k (by simpa using hk)]
        rfl
  rw [← e m k hk, ← ht]
  simp only [Array.toList_setIfInBounds, List.length_set]
  rw [List.take_set]

/-- the arguments that P1.3 lets by -/
def okArgs (l : List (Int × Int)) (fr to n : Int) : Prop := goodB l = true ∧ inB n = true ∧ 0 ≤ fr ∧ fr ≤ to ∧ to ≤ 300

set_option maxHeartbeats 1000000 in
theorem shift_bad (v : Value) (l : List (Int × Int)) (fr to n sg : Int) (w : World) (hs : Sl w v l) (hb : ¬ okArgs l fr to n) :
    Calls Try.prog 59 #[v, .int .i64 fr, .int .i64 to, .int .i64 n, .int .i64 sg] w fun e w' => ∃ v', e = .returned (.tuple #[v', .bool false]) ∧ Sl w' v' l ∧ Below w.heap.size w w' := by
  have HG := good_any v l w hs
  have HW := fun W => within_any n W
  have HS : Hid (Sl w v l) := hs
  have HC : Hid (∀ W, Below w.heap.size w W → Calls Try.prog 83 #[v] W fun e w' => ∃ v', e = .returned v' ∧ Sl w' v' l ∧ Below w.heap.size w w') := fun W hb => (clone_any v l W (hs.below hb)).mono (by rintro e w' ⟨v', h1, h2, h3⟩; exact ⟨v', h1, h2, hb.trans (h3.mono hb.size)⟩)
  unfold okArgs at hb
  clear hs
  generalize goodB l = gb at *
  generalize inB n = nb at *
  cases gb
  case false =>
    go_enter Try.func59, Try.ntmps59
    go_wp2_with fail
    refine HG.mono ?_
    rintro e w1 ⟨rfl, hb1⟩
    go_wp2_with fail
    refine (HC.out _ hb1).mono ?_
    rintro e w2 ⟨v', rfl, h1, h2⟩
    go_wp2
    go_ret2
    exact ⟨v', rfl, h1, h2⟩
  case true =>
    cases nb
    case false =>
      go_enter Try.func59, Try.ntmps59
      go_wp2_with fail
      refine HG.mono ?_
      rintro e w1 ⟨rfl, hb1⟩
      have H1 : Hid (Below w.heap.size w w1) := hb1
      clear hb1
      go_wp2_with fail
      refine (HW _).mono ?_
      rintro e w1' ⟨rfl, rfl⟩
      go_wp2_with fail
      refine (HC.out _ H1.out).mono ?_
      rintro e w2 ⟨v', rfl, h1, h2⟩
      go_wp2
      go_ret2
      exact ⟨v', rfl, h1, h2⟩
    case true =>
      by_cases g1 : fr < 0
      · go_enter Try.func59, Try.ntmps59
        go_wp2_with fail
        refine HG.mono ?_
        rintro e w1 ⟨rfl, hb1⟩
        have H1 : Hid (Below w.heap.size w w1) := hb1
        clear hb1
        go_wp2_with fail
        refine (HW _).mono ?_
        rintro e w1' ⟨rfl, rfl⟩
        go_wp2_with fail
        refine (HC.out _ H1.out).mono ?_
        rintro e w2 ⟨v', rfl, h1, h2⟩
        go_wp2
        go_ret2
        exact ⟨v', rfl, h1, h2⟩
      · by_cases g2 : to < fr
        · go_enter Try.func59, Try.ntmps59
          go_wp2_with fail
          refine HG.mono ?_
          rintro e w1 ⟨rfl, hb1⟩
          have H1 : Hid (Below w.heap.size w w1) := hb1
          clear hb1
          go_wp2_with fail
          refine (HW _).mono ?_
          rintro e w1' ⟨rfl, rfl⟩
          go_wp2_with fail
          refine (HC.out _ H1.out).mono ?_
          rintro e w2 ⟨v', rfl, h1, h2⟩
          go_wp2
          go_ret2
          exact ⟨v', rfl, h1, h2⟩
        · have g3 : 300 < to := by
            apply Classical.byContradiction
            intro h
            exact hb ⟨rfl, rfl, by omega, by omega, by omega⟩
          go_enter Try.func59, Try.ntmps59
          go_wp2_with fail
          refine HG.mono ?_
          rintro e w1 ⟨rfl, hb1⟩
          have H1 : Hid (Below w.heap.size w w1) := hb1
          clear hb1
          go_wp2_with fail
          refine (HW _).mono ?_
          rintro e w1' ⟨rfl, rfl⟩
          go_wp2_with fail
          refine (HC.out _ H1.out).mono ?_
          rintro e w2 ⟨v', rfl, h1, h2⟩
          go_wp2
          go_ret2
          exact ⟨v', rfl, h1, h2⟩

end Go.Proofs.Ytghhegajbehpeaa
