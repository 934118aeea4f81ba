import Derived.Test.YtcmdoeledmkfmacGreatDoorXDOrder
import Derived.Test.YtcmdoeledmkfmacGreatDoorXDGuess
import Derived.Test.YtcmdoeledmkfmacGreatDoorXDKinds
set_option linter.unusedSimpArgs false
set_option linter.unusedVariables false
namespace Go.Proofs.YtcmdoeledmkfmacGreatDoor
open Go.RowKit
set_option maxHeartbeats 4000000 in
set_option maxRecDepth 100000 in
theorem deskObey_any (d : Nat) (D : Dk) (o : Ord) (w : World) (hD : Dsk w d D) (hO : DOk D) (hG : -1073741824 ≤ o.a ∧ o.a ≤ 1073741824) :
    Calls Tryz.prog 24 #[.pointer (some ⟨d, 0, none⟩), .agg #[.int .i64 o.kd, .int .i64 o.a, .int .i64 o.b, .int .i64 o.c]] w fun e w' => ∃ n er, e = .returned (.tuple #[.int .i64 n, .int .i64 er]) ∧ Hid (∃ D', ObsIs D o D' n er ∧ Dsk w' d D' ∧ Fr d w w') := by
  obtain ⟨kd, a, b, c⟩ := o
  simp only at hG
  have hba : Below w.heap.size w (w.alloc (.cells #[.int .i64 kd, .int .i64 a, .int .i64 b, .int .i64 c] 61)) := (Below.refl _ w).alloc (Nat.le_refl _) _
  have E0 : Hid (Dsk (w.alloc (.cells #[.int .i64 kd, .int .i64 a, .int .i64 b, .int .i64 c] 61)) d D ∧ Fr d w (w.alloc (.cells #[.int .i64 kd, .int .i64 a, .int .i64 b, .int .i64 c] 61))) := ⟨hD.later hba, Fr.of hba (by have := hD.lt; omega)⟩
  have HO : Hid (DOk D) := hO
  clear hba hD hO
  by_cases k9 : kd = 9
  · subst k9
    go_enter Tryz.func24, Tryz.ntmps24
    go_wp2_with fail
    refine (deskWait_any d D a _ E0.out.1 HO.out hG.1 hG.2).mono ?_
    rintro e w1 ⟨er, rfl, h1⟩
    have R : Hid (∃ D', ObsIs D ⟨9, a, b, c⟩ D' 0 er ∧ Dsk w1 d D' ∧ Fr d w w1) := by
      obtain ⟨D', j1, j2, j3⟩ := h1.out
      refine ⟨D', ?_, j2, E0.out.2.trans j3⟩
      unfold ObsIs
      simp only [if_true, if_false]
      exact ⟨trivial, j1⟩
    clear h1 E0
    go_wp2_with fail
    go_ret2
    exact ⟨0, er, rfl, R⟩
  have b9 : (kd == 9) = false := beq_eq_false_iff_ne.2 k9
  by_cases k10 : kd = 10
  · subst k10
    go_enter Tryz.func24, Tryz.ntmps24
    go_wp2_with fail
    refine (deskBegin_any d D _ E0.out.1).mono ?_
    rintro e w1 ⟨er, rfl, h1⟩
    have R : Hid (∃ D', ObsIs D ⟨10, a, b, c⟩ D' 0 er ∧ Dsk w1 d D' ∧ Fr d w w1) := by
      obtain ⟨D', j1, j2, j3⟩ := h1.out
      refine ⟨D', ?_, j2, E0.out.2.trans j3⟩
      unfold ObsIs
      simp only [show ¬ ((10 : Int) = 9) by decide, if_true, if_false]
      exact ⟨trivial, j1⟩
    clear h1 E0
    go_wp2_with fail
    go_ret2
    exact ⟨0, er, rfl, R⟩
  have b10 : (kd == 10) = false := beq_eq_false_iff_ne.2 k10
  by_cases k11 : kd = 11
  · subst k11
    go_enter Tryz.func24, Tryz.ntmps24
    go_wp2_with fail
    refine (deskCommit_any d D _ E0.out.1).mono ?_
    rintro e w1 ⟨er, rfl, h1⟩
    have R : Hid (∃ D', ObsIs D ⟨11, a, b, c⟩ D' 0 er ∧ Dsk w1 d D' ∧ Fr d w w1) := by
      obtain ⟨D', j1, j2, j3⟩ := h1.out
      refine ⟨D', ?_, j2, E0.out.2.trans j3⟩
      unfold ObsIs
      simp only [show ¬ ((11 : Int) = 9) by decide, show ¬ ((11 : Int) = 10) by decide, if_true, if_false]
      exact ⟨trivial, j1⟩
    clear h1 E0
    go_wp2_with fail
    go_ret2
    exact ⟨0, er, rfl, R⟩
  have b11 : (kd == 11) = false := beq_eq_false_iff_ne.2 k11
  by_cases k12 : kd = 12
  · subst k12
    go_enter Tryz.func24, Tryz.ntmps24
    go_wp2_with fail
    refine (deskUndo_any d D _ E0.out.1 HO.out).mono ?_
    rintro e w1 ⟨er, rfl, h1⟩
    have R : Hid (∃ D', ObsIs D ⟨12, a, b, c⟩ D' 0 er ∧ Dsk w1 d D' ∧ Fr d w w1) := by
      obtain ⟨D', j1, j2, j3⟩ := h1.out
      refine ⟨D', ?_, j2, E0.out.2.trans j3⟩
      unfold ObsIs
      simp only [show ¬ ((12 : Int) = 9) by decide, show ¬ ((12 : Int) = 10) by decide, show ¬ ((12 : Int) = 11) by decide, if_true, if_false]
      exact ⟨trivial, j1⟩
    clear h1 E0
    go_wp2_with fail
    go_ret2
    exact ⟨0, er, rfl, R⟩
  have b12 : (kd == 12) = false := beq_eq_false_iff_ne.2 k12
  by_cases k13 : kd = 13
  · subst k13
    go_enter Tryz.func24, Tryz.ntmps24
    go_wp2_with fail
    refine (guess_any d D ⟨13, a, b, c⟩ _ E0.out.1 HO.out).mono ?_
    rintro e w1 ⟨n, er, rfl, h1⟩
    have R : Hid (∃ D', ObsIs D ⟨13, a, b, c⟩ D' n er ∧ Dsk w1 d D' ∧ Fr d w w1) := by
      obtain ⟨j1, j2, j3⟩ := h1.out
      refine ⟨D, ?_, j2, E0.out.2.trans j3⟩
      unfold ObsIs
      simp only [show ¬ ((13 : Int) = 9) by decide, show ¬ ((13 : Int) = 10) by decide, show ¬ ((13 : Int) = 11) by decide, show ¬ ((13 : Int) = 12) by decide, if_true, if_false]
      exact ⟨trivial, j1⟩
    clear h1 E0
    go_wp2_with fail
    go_ret2
    exact ⟨n, er, rfl, R⟩
  have b13 : (kd == 13) = false := beq_eq_false_iff_ne.2 k13
  by_cases k14 : kd = 14
  · subst k14
    go_enter Tryz.func24, Tryz.ntmps24
    go_wp2_with fail
    refine (deskAsk_any d D a _ E0.out.1 HO.out).mono ?_
    rintro e w1 ⟨n, er, rfl, h1⟩
    have R : Hid (∃ D', ObsIs D ⟨14, a, b, c⟩ D' n er ∧ Dsk w1 d D' ∧ Fr d w w1) := by
      obtain ⟨j1, j2, j3⟩ := h1.out
      refine ⟨D, ?_, j2, E0.out.2.trans j3⟩
      unfold ObsIs
      simp only [show ¬ ((14 : Int) = 9) by decide, show ¬ ((14 : Int) = 10) by decide, show ¬ ((14 : Int) = 11) by decide, show ¬ ((14 : Int) = 12) by decide, show ¬ ((14 : Int) = 13) by decide, if_true, if_false]
      exact ⟨trivial, j1⟩
    clear h1 E0
    go_wp2_with fail
    go_ret2
    exact ⟨n, er, rfl, R⟩
  have b14 : (kd == 14) = false := beq_eq_false_iff_ne.2 k14
  go_enter Tryz.func24, Tryz.ntmps24
  go_wp2_with fail
  refine (order_any d D ⟨kd, a, b, c⟩ _ E0.out.1 HO.out).mono ?_
  rintro e w1 ⟨n, er, rfl, h1⟩
  have R : Hid (∃ D', ObsIs D ⟨kd, a, b, c⟩ D' n er ∧ Dsk w1 d D' ∧ Fr d w w1) := by
    obtain ⟨D', j1, j2, j3⟩ := h1.out
    refine ⟨D', ?_, j2, E0.out.2.trans j3⟩
    unfold ObsIs
    simp only [k9, k10, k11, k12, k13, k14, if_false]
    exact j1
  clear h1 E0
  go_wp2_with fail
  go_ret2
  exact ⟨n, er, rfl, R⟩
end Go.Proofs.YtcmdoeledmkfmacGreatDoor
