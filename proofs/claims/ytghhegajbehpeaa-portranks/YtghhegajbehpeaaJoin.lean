/- slices.CompactFunc at steps that are alike, and join of package span: of steps in a row of the call's own, those of which neighbours that are alike have become one. -/
import Derived.Test.YtghhegajbehpeaaInsert2
import Derived.Test.YtghhegajbehpeaaMath2
import Derived.Lib.QuietBelow
import Derived.BigQuiet
set_option linter.unusedSimpArgs false
set_option linter.unusedVariables false
namespace Go.Proofs.Ytghhegajbehpeaa
open Go.RowKit
open Go.Sort (grow)

theorem zeros_one (n : Nat) : ∀ u ∈ (Builtin.zeroCells (Value.agg #[.int .i64 0, .int .i64 0]).cells n).toList, u.oneCell' = true := by
  intro u hu
  simp only [Builtin.zeroCells, Array.toList_map, List.mem_map] at hu
  obtain ⟨i, _, rfl⟩ := hu
  have h2 : i % (Value.agg #[.int .i64 0, .int .i64 0]).cells.size = i % 2 := rfl
  rw [h2]
  rcases Nat.mod_two_eq_zero_or_one i with e | e <;> rw [e] <;> rfl

theorem run_clear2 {B g cap k : Nat} {mm : List (Int × Int)} {w : World} (ho : OwnG w B g cap mm) (hk : k < mm.length) (ty : TypeId) :
    ∃ w', (Builtin.clear_ #[22] ty #[.slice (some ⟨g, k * 2, none⟩) (mm.length - k) (cap - k)]).run Try.prog w = .ok (.tuple #[]) w' ∧ OwnG w' B g cap (mm.take k) ∧ Below B w w' := by
  obtain ⟨i0, hi0, hz0, hz1, hz2⟩ := infoStep
  obtain ⟨cur, hg, hs, ht⟩ := ho.row
  have hle := ho.le
  have hv : ∀ w, (zeroValue 31).run Try.prog w = .ok (.agg #[.int .i64 0, .int .i64 0]) w := fun w => by simp [zeroValue, typeInfo, hi0, hz0]
  obtain ⟨r, hr⟩ : ∃ r, mm.length - k = r + 1 := ⟨mm.length - k - 1, by omega⟩
  have hzl : (Builtin.zeroCells (Value.agg #[.int .i64 0, .int .i64 0]).cells (r + 1)).toList.length = (r + 1) * 2 := by
    rw [Array.length_toList, size_zeroCells]; rfl
  have hst := run_storeCells_at Try.prog g (k * 2) 31 (Builtin.zeroCells (Value.agg #[.int .i64 0, .int .i64 0]).cells (r + 1)).toList 0 cur w hg (by rw [hzl]; omega) (zeros_one _)
  refine ⟨_, by rw [hr]; simp only [Builtin.clear_]; simp [run_underlying Try.underlying22, hv, hst]; rfl, ⟨ho.base, by rw [List.length_take]; omega, ho.max, _, setRow_heap w g cur _ _ _ hg, ?_, ?_⟩, below_setRow (Below.refl B w) ho.base _⟩
  · have hcl : cur.toList.length = cap * 2 := by rw [Array.length_toList]; exact hs
    have hzs : (Builtin.zeroCells (Value.agg #[.int .i64 0, .int .i64 0]).cells (r + 1)).size = (r + 1) * 2 := by rw [size_zeroCells]; rfl
    simp only [List.size_toArray, List.length_append, List.length_take, List.length_drop, hzl, hcl]
    omega
  · have e : (mm.take k).length = k := by rw [List.length_take]; omega
    have e2 : (cur.toList.take (k * 2)).length = k * 2 := by rw [List.length_take, Array.length_toList]; omega
    rw [e, ← cells_take, ← ht, List.take_take, Nat.min_eq_left (by omega)]
    simp only [Nat.add_zero, List.append_assoc]
    rw [List.take_append_of_le_length (by omega)]
    exact List.take_of_length_le (by omega)

set_option maxHeartbeats 4000000 in
theorem compact_any (B g cap : Nat) (m : List (Int × Int)) (w : World) (ho : OwnG w B g cap m) (hn : m.length ≤ 1000) :
    Calls Try.prog 104 #[.slice (some ⟨g, 0, none⟩) m.length cap, .func (.func 105) #[] #[]] w fun e w' =>
      e = .returned (.slice (some ⟨g, 0, none⟩) (compactL m).length cap) ∧ OwnG w' B g cap (compactL m) ∧ Below B w w' := by
  have HO : Hid (OwnG w B g cap m) := ho
  have hmax : cap ≤ 9223372036854775807 := by have := ho.max; unfold maxLen at this; exact this
  have hle := ho.le
  have hgB := ho.base
  have S0 : Hid (Below B w w) := Below.refl _ _
  clear ho
  by_cases h2 : m.length < 2
  · have hc : Hid (compactL m = m) := compact_self fun j a b => by omega
    go_enter Try.func104, Try.ntmps104
    go_wp2
    go_ret
    rw [hc.out]
    exact ⟨rfl, HO.out, S0.out⟩
  · go_enter Try.func104, Try.ntmps104
    go_wp2
    go_loopg [5] m.length (fun kx s5 wr => ∃ k : Nat, s5 = .int .i64 (k + 1 : Nat) ∧ k + 1 ≤ m.length ∧ m.length - (k + 1) ≤ kx ∧ Hid (Below B w wr) ∧ Hid (OwnG wr B g cap m) ∧ Hid (∀ j, 0 < j → j < k + 1 → (sAt m j).2 ≠ (sAt m (j - 1)).2))
    case atStart => exact ⟨0, rfl, by omega, by omega, S0, HO, (fun j a b => by omega : ∀ j, 0 < j → j < 0 + 1 → (sAt m j).2 ≠ (sAt m (j - 1)).2)⟩
    case round =>
      clear S0 HO
      obtain ⟨k, rfl, hk, hg, S1, O1, I⟩ := hrel
      by_cases hlt : k + 1 < m.length
      · obtain ⟨c0, c1⟩ := O1.out.rd (k + 1) hlt
        obtain ⟨d0, d1⟩ := O1.out.rd k (by omega)
        rw [Nat.zero_add] at c0 c1 d0 d1
        have e0 := cell_regrown c0
        have e1 := cell_regrown c1
        have e2 := cell_regrown d0
        have e3 := cell_regrown d1
        clear c0 c1 d0 d1
        generalize hx : sAt m (k + 1) = x at *
        generalize hz : sAt m k = z at *
        have X : Hid (sAt m (k + 1) = x) := hx
        have Z : Hid (sAt m k = z) := hz
        clear hx hz
        have cF : ∀ d os, Calls Try.prog 105 #[.agg #[.int .i64 x.1, .int .i64 x.2], .agg #[.int .i64 z.1, .int .i64 z.2]] (grow (redrawn wr d) os) fun e w'' => e = .returned (.bool (x.2 == z.2)) ∧ ∃ p : Regrown, w'' = grow (redrawn wr p.d) p.os := fun d os => Calls.regrown_of (join1_any x z _)
        have hk1 : (0 : Int) ≤ (k : Int) := by omega
        have hk2 : (k : Int) < (m.length : Int) := by omega
        have hk3 : (k : Int) + 1 < (m.length : Int) := by omega
        have hk4 : (0 : Int) ≤ (k : Int) + 1 := by omega
        generalize hee : (x.2 == z.2) = r at *
        have EE : Hid ((x.2 == z.2) = r) := hee
        clear hee
        go_wp2_with fail
        cases r
        case false =>
          refine wp_region_quiet_below (by kernel_rfl) (by kernel_rfl) ?_
          repeat (go_big_quiet_step ((go_at_call 105; exact cF _ _)))
          refine wpQuiet_nil ?_
          intro _ hw'
          obtain ⟨⟨dq, osq⟩, hw''⟩ := hw'
          subst hw''
          have S2 : Hid (Below B w (grow (redrawn wr dq) osq)) := S1.out.trans ((below_regrown wr dq osq).mono (by have := O1.out.lt; omega))
          have O2 : Hid (OwnG (grow (redrawn wr dq) osq) B g cap m) := O1.out.later (below_regrown wr dq osq)
          go_wp2
          go_roundg (m.length - (k + 1 + 1))
          case measure => omega
          case rel =>
            have I2 : Hid (∀ j, 0 < j → j < k + 1 + 1 → (sAt m j).2 ≠ (sAt m (j - 1)).2) := fun j a b => by
              by_cases e : j = k + 1
              · rw [e, Nat.add_sub_cancel, X.out, Z.out]; exact beq_eq_false_iff_ne.1 EE.out
              · exact I.out j a (by omega)
            exact ⟨k + 1, by go_num, by omega, Nat.le_refl _, S2, O2, I2⟩
        case true =>
          refine wp_region_quiet_below (by kernel_rfl) (by kernel_rfl) ?_
          repeat (go_big_quiet_step ((go_at_call 105; exact cF _ _)))
          refine wpQuiet_nil ?_
          intro _ hw'
          obtain ⟨⟨dq, osq⟩, hw''⟩ := hw'
          subst hw''
          have S2 : Hid (Below B w (grow (redrawn wr dq) osq)) := S1.out.trans ((below_regrown wr dq osq).mono (by have := O1.out.lt; omega))
          have O2 : Hid (OwnG (grow (redrawn wr dq) osq) B g cap m) := O1.out.later (below_regrown wr dq osq)
          have C0 : Hid (CInv m (k + 1 + 1) (k + 1) m) := CInv.start (by omega) hlt I.out (by rw [Nat.add_sub_cancel, X.out, Z.out]; exact beq_iff_eq.1 EE.out)
          clear e0 e1 e2 e3 cF
          generalize grow (redrawn wr dq) osq = W0 at *
          have hc1 : ¬ (cap = k + 1) := by omega
          clear S1 O1 I X Z EE hk1 hk2 hk3 hk4
          go_wp2_with fail
          generalize k + 1 = K at *
          go_loopg [5, 7] m.length (fun kx s5 s7 ws => ∃ (kk j : Nat) (mm : List (Int × Int)), s5 = .int .i64 kk ∧ s7 = .int .i64 (j + 1 : Nat) ∧ K + (j + 1) ≤ m.length ∧ m.length - (K + (j + 1)) ≤ kx ∧ kk < m.length ∧ mm.length = m.length ∧ Hid (Below B w ws) ∧ Hid (OwnG ws B g cap mm) ∧ Hid (CInv m (K + (j + 1)) kk mm))
          case atStart => exact ⟨K, 0, m, rfl, rfl, by omega, by omega, by omega, rfl, S2, O2, C0⟩
          case round =>
            clear S2 O2 C0
            obtain ⟨kk, j, mm, rfl, rfl, hj, hg2, hkk, hml, S3, O3, C⟩ := hrel
            have HM : Hid (mm.length = m.length) := hml
            clear hml
            by_cases hl2 : K + (j + 1) < m.length
            · obtain ⟨c0, c1⟩ := O3.out.rd (K + (j + 1)) (by rw [HM.out]; exact hl2)
              obtain ⟨d0, d1⟩ := O3.out.rd (K + j) (by rw [HM.out]; omega)
              rw [C.out.left (K + (j + 1)) (by omega) hl2, Nat.zero_add, show (K + (j + 1)) * 2 = K * 2 + (j + 1) * 2 by omega] at c0 c1
              rw [C.out.left (K + j) (by omega) (by omega), Nat.zero_add, show (K + j) * 2 = K * 2 + j * 2 by omega] at d0 d1
              have e0 := cell_regrown c0
              have e1 := cell_regrown c1
              have e2 := cell_regrown d0
              have e3 := cell_regrown d1
              clear c0 c1 d0 d1
              generalize hx : sAt m (K + (j + 1)) = x at *
              generalize hz : sAt m (K + j) = z at *
              have X : Hid (sAt m (K + (j + 1)) = x) := hx
              have Z : Hid (sAt m (K + (j + 1) - 1) = z) := hz
              clear hx hz
              have cF : ∀ d os, Calls Try.prog 105 #[.agg #[.int .i64 x.1, .int .i64 x.2], .agg #[.int .i64 z.1, .int .i64 z.2]] (grow (redrawn wr d) os) fun e w'' => e = .returned (.bool (x.2 == z.2)) ∧ ∃ p : Regrown, w'' = grow (redrawn wr p.d) p.os := fun d os => Calls.regrown_of (join1_any x z _)
              have hk1 : (0 : Int) ≤ (j : Int) := by omega
              have hk2 : (j : Int) < ((m.length - K : Nat) : Int) := by omega
              have hk3 : (j : Int) + 1 < ((m.length - K : Nat) : Int) := by omega
              have hk4 : (0 : Int) ≤ (j : Int) + 1 := by omega
              have hk5 : j + 1 < m.length - K := by omega
              have hk6 : (kk : Int) < (m.length : Int) := by omega
              generalize hee : (x.2 == z.2) = r at *
              have EE : Hid ((x.2 == z.2) = r) := hee
              clear hee
              go_wp2_with fail
              cases r
              case true =>
                refine wp_region_quiet_below (by kernel_rfl) (by kernel_rfl) ?_
                repeat (go_big_quiet_step ((go_at_call 105; exact cF _ _)))
                refine wpQuiet_nil ?_
                intro _ hw'
                obtain ⟨⟨dq, osq⟩, hw''⟩ := hw'
                subst hw''
                have S4 : Hid (Below B w (grow (redrawn wr dq) osq)) := S3.out.trans ((below_regrown wr dq osq).mono (by have := O3.out.lt; omega))
                have O4 : Hid (OwnG (grow (redrawn wr dq) osq) B g cap mm) := O3.out.later (below_regrown wr dq osq)
                clear e0 e1 e2 e3 cF
                generalize grow (redrawn wr dq) osq = W2 at *
                go_wp2
                go_roundg (m.length - (K + (j + 1 + 1)))
                case measure => omega
                case rel =>
                  have C2 : Hid (CInv m (K + (j + 1 + 1)) kk mm) := C.out.skip hl2 (by rw [X.out, Z.out]; exact beq_iff_eq.1 EE.out)
                  exact ⟨kk, j + 1, mm, rfl, by go_num, by omega, Nat.le_refl _, hkk, HM.out, S4, O4, C2⟩
              case false =>
                refine wp_region_quiet_below (by kernel_rfl) (by kernel_rfl) ?_
                repeat (go_big_quiet_step ((go_at_call 105; exact cF _ _)))
                refine wpQuiet_nil ?_
                intro _ hw'
                obtain ⟨⟨dq, osq⟩, hw''⟩ := hw'
                subst hw''
                have S4 : Hid (Below B w (grow (redrawn wr dq) osq)) := S3.out.trans ((below_regrown wr dq osq).mono (by have := O3.out.lt; omega))
                have O4 : Hid (OwnG (grow (redrawn wr dq) osq) B g cap mm) := O3.out.later (below_regrown wr dq osq)
                clear e0 e1 e2 e3 cF
                generalize grow (redrawn wr dq) osq = W2 at *
                obtain ⟨p0, p1⟩ := O4.out.rd (K + (j + 1)) (by rw [HM.out]; exact hl2)
                rw [C.out.left (K + (j + 1)) (by omega) hl2, X.out, Nat.zero_add, show (K + (j + 1)) * 2 = K * 2 + (j + 1) * 2 by omega] at p0 p1
                obtain ⟨q0, q1⟩ := O4.out.rd kk (by rw [HM.out]; exact hkk)
                rw [Nat.zero_add] at q0 q1
                have f0 := O4.out.frozen (kk * 2)
                have f1 := O4.out.frozen (kk * 2 + 1)
                generalize sAt mm kk = old at q0 q1
                have hk7 := C.out.lt
                go_wp2
                go_roundg (m.length - (K + (j + 1 + 1)))
                case measure => omega
                case rel =>
                  have C2 : Hid (CInv m (K + (j + 1 + 1)) (kk + 1) (mm.set kk x)) := by
                    have := C.out.keep hl2 (by rw [X.out, Z.out]; exact beq_eq_false_iff_ne.1 EE.out)
                    rw [X.out] at this
                    exact this
                  have O5 := O4.out.store kk (by rw [HM.out]; exact hkk) x
                  exact ⟨kk + 1, j + 1, mm.set kk x, by go_num, by go_num, by omega, Nat.le_refl _, by omega, by rw [List.length_set]; exact HM.out, (S4.out.setCell hgB _).setCell hgB _, O5, C2⟩
            · have he : K + (j + 1) = m.length := by omega
              have CE : Hid (CInv m m.length kk mm) := by have := C.out; rw [he] at this; exact this
              obtain ⟨w9, r1, r2, r3⟩ := run_clear2 O3.out (k := kk) (by rw [HM.out]; exact hkk) 0
              rw [HM.out] at r1
              have hrun : ∀ ty, (Builtin.clear_ #[22] ty #[.slice (some ⟨g, kk * 2, none⟩) (m.length - kk) (cap - kk)]).run Try.prog wr = .ok (.tuple #[]) w9 := fun _ => r1
              have S9 : Hid (Below B w w9) := S3.out.trans r3
              have O9 : Hid (OwnG w9 B g cap (mm.take kk)) := r2
              have hk8 : ¬ (cap = kk) := by omega
              have hk9 : (kk : Int) ≤ (m.length : Int) := by omega
              have hk10 : kk ≤ m.length := by omega
              have hk11 : ¬ (j + 1 < m.length - K) := by omega
              have hk12 : ¬ ((j : Int) + 1 < ((m.length - K : Nat) : Int)) := by omega
              clear r1 r2 r3 he
              go_wp2
              go_ret
              obtain ⟨z1, z2⟩ := CE.out.final
              have o9 := O9.out
              rw [z1] at o9
              exact ⟨by rw [z2]; rfl, o9, S9.out⟩
      · have hc : Hid (compactL m = m) := compact_self fun j a b => I.out j a (by omega)
        go_wp2
        go_ret
        rw [hc.out]
        exact ⟨rfl, O1.out, S1.out⟩

theorem join_any (B g cap : Nat) (m : List (Int × Int)) (w : World) (ho : OwnG w B g cap m) (hn : m.length ≤ 1000) :
    Calls Try.prog 85 #[.slice (some ⟨g, 0, none⟩) m.length cap] w fun e w' =>
      e = .returned (.slice (some ⟨g, 0, none⟩) (compactL m).length cap) ∧ OwnG w' B g cap (compactL m) ∧ Below B w w' := by
  have HC := compact_any B g cap m w ho hn
  clear ho
  generalize (compactL m).length = k at *
  go_enter Try.func85, Try.ntmps85
  go_wp2_with fail
  refine HC.mono ?_
  rintro e w1 ⟨rfl, ho1, hb1⟩
  go_wp2
  go_ret
  exact ⟨rfl, ho1, hb1⟩

end Go.Proofs.Ytghhegajbehpeaa
