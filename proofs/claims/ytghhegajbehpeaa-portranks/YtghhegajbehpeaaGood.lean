/- Good of package span: for every list of steps that a row of memory holds it answers what P1.1 says, and nothing that lay in memory turns. -/
import Derived.Test.YtghhegajbehpeaaMem
import Derived.Lib.QuietBelow
import Derived.Deep.QuietTactic
import Derived.BigQuiet
set_option linter.unusedSimpArgs false
set_option linter.unusedVariables false
namespace Go.Proofs.Ytghhegajbehpeaa
open Go.RowKit
open Go.Sort (grow)

set_option maxHeartbeats 400000 in
theorem good_none (a : Option Addr) (cap : Nat) (w : World) :
    Calls Try.prog 16 #[.slice a 0 cap] w fun e w' => e = .returned (.bool false) ∧ Below w.heap.size w w' := by
  go_enter Try.func16, Try.ntmps16
  go_wp2
  go_ret
  exact ⟨rfl, Below.refl _ _⟩

set_option maxHeartbeats 2000000 in
theorem good_some (b off cap : Nat) (l : List (Int × Int)) (w : World) (hr : Rd w b off l) (hn : l.length ≤ 8796093022208) (h0 : 0 < l.length) :
    Calls Try.prog 16 #[.slice (some ⟨b, off, none⟩) l.length cap] w fun e w' => e = .returned (.bool (goodB l)) ∧ Below w.heap.size w w' := by
  have HR : Hid (Rd w b off l) := hr
  have S0 : Hid (Below w.heap.size w w) := Below.refl _ _
  obtain ⟨c0, c1⟩ := hr 0 h0
  clear hr
  simp only [Nat.zero_mul, Nat.add_zero] at c0 c1
  generalize hy : sAt l 0 = y at c0 c1
  have Y : Hid (sAt l 0 = y) := hy
  clear hy
  have hz : ((l.length : Int) == 0) = false := beq_eq_false_iff_ne.2 (by omega)
  by_cases hy0 : y.1 = 0
  · have hne : (y.1 != 0) = false := by simp [hy0]
    have HY : Hid (y.1 = 0) := hy0
    clear hy0
    go_enter Try.func16, Try.ntmps16
    go_wp2
    clear c0 c1
    go_loopg [17] l.length (fun kx s17 wr => ∃ k : Nat, s17 = .int .i64 k ∧ k ≤ l.length ∧ l.length - k ≤ kx ∧ Hid (Below w.heap.size w wr) ∧ Hid (∀ j, j < k → okAt l j = true))
    case atStart => exact ⟨0, rfl, Nat.zero_le _, by omega, S0, (fun j hj => absurd hj (Nat.not_lt_zero _) : ∀ j, j < 0 → okAt l j = true)⟩
    case round =>
      clear S0
      obtain ⟨k, rfl, hk, hg, S1, I⟩ := hrel
      by_cases hlt : k < l.length
      · obtain ⟨c0, c1⟩ := (HR.out.below S1.out) k hlt
        generalize hx : sAt l k = x at c0 c1
        have X : Hid (sAt l k = x) := hx
        clear hx
        by_cases h1 : 300 ≤ x.1
        · go_wp2
          go_ret
          refine ⟨?_, S1.out.trans ((Below.refl _ _).alloc S1.out.size _)⟩
          rw [goodB_false_at k hlt (by unfold okAt; rw [X.out]; simp; omega)]; rfl
        · by_cases h2 : inB x.2 = true
          · by_cases hk0 : k ≤ 0
            · have hd : decide ((0 : Int) < (k : Int)) = false := decide_eq_false (by omega)
              have hd2 : decide (0 < k) = false := decide_eq_false (by omega)
              go_wp2_with (go_at_call 55; refine (within_any _ _).mono ?_; rintro e w' ⟨rfl, rfl⟩)
              go_quiet (fail)
              go_wp2
              go_roundg (l.length - (k + 1))
              case measure => omega
              case rel =>
                have I2 : Hid (∀ j, j < k + 1 → okAt l j = true) := fun j hj => by
                  by_cases hj2 : j = k
                  · rw [hj2]; unfold okAt; rw [X.out, h2]
                    have : k = 0 := by omega
                    simp [this]; omega
                  · exact I.out j (by omega)
                exact ⟨k + 1, by go_num, by omega, Nat.le_refl _, S1.out.trans (below_drewN ((Below.refl _ _).alloc S1.out.size _) _), I2⟩
            · obtain ⟨m, rfl⟩ : ∃ m, k = m + 1 := ⟨k - 1, by omega⟩
              obtain ⟨d0, d1⟩ := (HR.out.below S1.out) m (by omega)
              generalize hz : sAt l m = z at d0 d1
              have Z : Hid (sAt l m = z) := hz
              clear hz
              have hm1 : (0 : Int) ≤ (m : Int) := by omega
              have hm2 : (m : Int) < (l.length : Int) := by omega
              have hm3 : (0 : Int) < (m : Int) + 1 := by omega
              go_wp2_with (go_at_call 55; refine (within_any _ _).mono ?_; rintro e w' ⟨rfl, rfl⟩)
              obtain ⟨n0, n1⟩ := new_pair wr (.int .i64 x.1) (.int .i64 x.2) 31
              have e0 := cell_regrown n0
              have e1 := cell_regrown n1
              have e2 := cell_regrown (cell_old d0 (.cells #[.int .i64 x.1, .int .i64 x.2] 31))
              have e3 := cell_regrown (cell_old d1 (.cells #[.int .i64 x.1, .int .i64 x.2] 31))
              have SW : Hid (Below w.heap.size w (wr.alloc (.cells #[.int .i64 x.1, .int .i64 x.2] 31))) := S1.out.trans ((Below.refl _ _).alloc S1.out.size _)
              clear n0 n1 c0 c1 d0 d1
              generalize wr.alloc (.cells #[.int .i64 x.1, .int .i64 x.2] 31) = W1 at *
              have cF : ∀ d os, Calls Try.prog 56 #[.agg #[.int .i64 x.1, .int .i64 x.2], .agg #[.int .i64 z.1, .int .i64 z.2]] (grow (redrawn W1 d) os) fun e w'' => e = .returned (.bool (fol x z)) ∧ ∃ p : Regrown, w'' = grow (redrawn W1 p.d) p.os := fun d os => Calls.regrown_of (follows_any x z _)
              generalize hf : fol x z = r at cF
              have HF : Hid (fol x z = r) := hf
              clear hf
              cases r
              case true =>
                refine wp_region_quiet_below (by kernel_rfl) (by kernel_rfl) ?_
                repeat (go_big_quiet_step ((go_at_call 56; exact cF _ _)))
                refine wpQuiet_nil ?_
                intro _ hw'
                obtain ⟨⟨dq, osq⟩, hw''⟩ := hw'
                subst hw''
                have SQ : Hid (Below w.heap.size w (grow (redrawn W1 dq) osq)) := SW.out.trans ((below_regrown W1 dq osq).mono SW.out.size)
                go_wp2
                go_roundg (l.length - (m + 1 + 1))
                case measure => omega
                case rel =>
                  have I2 : Hid (∀ j, j < m + 1 + 1 → okAt l j = true) := fun j hj => by
                    by_cases hj2 : j = m + 1
                    · rw [hj2]; unfold okAt; rw [X.out, h2, Nat.add_sub_cancel, Z.out, HF.out]
                      simp; omega
                    · exact I.out j (by omega)
                  exact ⟨m + 1 + 1, by go_num, by omega, Nat.le_refl _, SQ, I2⟩
              case false =>
                refine wp_region_quiet_below (by kernel_rfl) (by kernel_rfl) ?_
                repeat (go_big_quiet_step ((go_at_call 56; exact cF _ _)))
                refine wpQuiet_nil ?_
                intro _ hw'
                obtain ⟨⟨dq, osq⟩, hw''⟩ := hw'
                subst hw''
                have SQ : Hid (Below w.heap.size w (grow (redrawn W1 dq) osq)) := SW.out.trans ((below_regrown W1 dq osq).mono SW.out.size)
                go_wp2
                go_ret
                refine ⟨?_, SQ.out⟩
                rw [goodB_false_at (m + 1) hlt (by unfold okAt; rw [X.out, Nat.add_sub_cancel, Z.out, HF.out]; simp)]; rfl
          · have h2' : inB x.2 = false := by simpa using h2
            go_wp2_with (go_at_call 55; refine (within_any _ _).mono ?_; rintro e w' ⟨rfl, rfl⟩)
            go_ret
            refine ⟨?_, S1.out.trans ((Below.refl _ _).alloc S1.out.size _)⟩
            rw [goodB_false_at k hlt (by unfold okAt; rw [X.out]; simp [h2'])]; rfl
      · go_wp2
        go_ret
        refine ⟨?_, S1.out⟩
        have : goodB l = true := by unfold goodB; exact decide_eq_true ⟨h0, by rw [Y.out]; exact HY.out, fun j hj => I.out j (by omega)⟩
        rw [this]; rfl
  · have hne : (y.1 != 0) = true := by simp [hy0]
    have hG : Hid (goodB l = false) := by
      show goodB l = false
      unfold goodB; exact decide_eq_false fun ⟨_, h, _⟩ => hy0 (by rw [Y.out] at h; exact h)
    go_enter Try.func16, Try.ntmps16
    go_wp2
    go_ret
    exact ⟨by rw [hG.out]; rfl, S0.out⟩

/-- Good, of every slice -/
theorem good_any (v : Value) (l : List (Int × Int)) (w : World) (h : Sl w v l) :
    Calls Try.prog 16 #[v] w fun e w' => e = .returned (.bool (goodB l)) ∧ Below w.heap.size w w' := by
  obtain ⟨hn, a, cap, rfl, h1⟩ := h
  by_cases h0 : 0 < l.length
  · rcases h1 with rfl | ⟨b, off, rfl, hr⟩
    · simp at h0
    · exact good_some b off cap l w hr hn h0
  · have hl : l.length = 0 := by omega
    have hg : goodB l = false := by unfold goodB; exact decide_eq_false fun h => h0 h.1
    rw [hl, hg]
    exact good_none a cap w

end Go.Proofs.Ytghhegajbehpeaa
