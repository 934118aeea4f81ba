/- SpanBack, the walk: for every slice of steps and all numbers it returns true, and nothing that lay in memory turns. -/
import Derived.Test.YtmcdgkdhdnfbfaaSpans
import Derived.Test.YtmcdgkdhdnfbfaaSame
set_option linter.unusedSimpArgs false
set_option linter.unusedVariables false
namespace Go.Proofs.Ytmcdgkdhdnfbfaa
open Go.RowKit

theorem take_no {l : List (Int × Int)} {fr to n d : Int} {w : World} {v : Value} (h : TakeAns l fr to n d w v false) : Sl w v l := by
  rcases h with ⟨_, ⟨h, _⟩ | ⟨_, h, _⟩⟩ | ⟨_, _, h⟩
  · cases h
  · exact h
  · exact h

theorem take_yes {l : List (Int × Int)} {fr to n d : Int} {w : World} {v : Value} (h : TakeAns l fr to n d w v true) : okArgs l fr to n ∧ ∃ r, Sl w v r ∧ ShiftSpec l fr to d r := by
  rcases h with ⟨h0, ⟨_, h⟩ | ⟨h, _⟩⟩ | ⟨_, h, _⟩
  · exact ⟨h0, h⟩
  · cases h
  · cases h

theorem give_back {l r : List (Int × Int)} {fr to n : Int} {w : World} {v : Value} {ok : Bool} (ha : okArgs l fr to n) (hr : ShiftSpec l fr to (-n) r) (h : TakeAns r fr to n n w v ok) : ok = true ∧ Sl w v l := by
  obtain ⟨k1, k2, k3, k4, k5⟩ := ha
  have G := goodB_iff.1 k1
  have hok : okArgs r fr to n := ⟨goodB_iff.2 hr.good, k2, k3, k4, k5⟩
  rcases h with ⟨_, ⟨rfl, r2, hs, h2⟩ | ⟨_, _, s, s1, s2, s3⟩⟩ | ⟨hn, _⟩
  · have e : r2 = l := same_profile h2.good G fun t t0 t3 => by
      rw [h2.says t t0 t3, hr.says t t0 t3]
      by_cases c : fr ≤ t ∧ t < to
      · rw [if_pos c, if_pos c]; omega
      · rw [if_neg c, if_neg c]; omega
    subst e
    exact ⟨rfl, hs⟩
  · rw [hr.says s (by omega) (by omega), if_pos ⟨s1, s2⟩] at s3
    have b := G.val_bounds (t := s) (by omega)
    exact absurd ⟨by omega, by omega⟩ s3
  · exact absurd hok hn

theorem at_less {l r : List (Int × Int)} {fr to n : Int} (ha : okArgs l fr to n) (hr : ShiftSpec l fr to (-n) r) {t : Int} (t0 : 0 ≤ t) (t3 : t < 300) :
    0 ≤ atI l t ∧ atI l t ≤ 16 ∧ 0 ≤ n ∧ n ≤ 16 ∧ atI r t = atI l t - if fr ≤ t ∧ t < to then n else 0 := by
  have G := goodB_iff.1 ha.1
  have hn := of_decide_eq_true ha.2.1
  have e1 : atI l t = val l t := by unfold atI; rw [if_pos ⟨ha.1, t0, t3⟩]
  have e2 : atI r t = val r t := by unfold atI; rw [if_pos ⟨goodB_iff.2 hr.good, t0, t3⟩]
  have b := G.val_bounds t0
  rw [e1, e2, hr.says t t0 t3]
  refine ⟨b.1, b.2, hn.1, hn.2, ?_⟩
  by_cases c : fr ≤ t ∧ t < to
  · rw [if_pos c, if_pos c]; omega
  · rw [if_neg c, if_neg c]; omega

set_option maxHeartbeats 4000000 in
theorem spanBack_any (v : Value) (l : List (Int × Int)) (fr to n : Int) (w : World) (hs : Sl w v l) :
    Calls Try.prog 5 #[v, .int .i64 fr, .int .i64 to, .int .i64 n] w fun e w' => e = .returned (.bool true) ∧ Below w.heap.size w w' := by
  have HT := take_any v l fr to n w hs
  have HS : Hid (Sl w v l) := hs
  clear hs
  go_enter Try.func5, Try.ntmps5
  go_wp2_with fail
  refine HT.mono ?_
  rintro e w1 ⟨v1, ok, rfl, ht, hb1⟩
  have B1 : Hid (Below w.heap.size w w1) := hb1
  clear hb1 HT
  cases ok
  case false =>
    have HA := sameK_any v1 v l l w1 (take_no ht) (HS.out.below B1.out)
    rw [decide_eq_true (rfl : l = l)] at HA
    clear ht
    go_wp2_with fail
    refine HA.mono ?_
    rintro e w2 ⟨rfl, hb2⟩
    have B2 : Hid (Below w.heap.size w w2) := B1.out.trans (hb2.mono B1.out.size)
    have HP := spansK_any w2
    clear hb2 HA
    go_wp2_with fail
    refine HP.mono ?_
    rintro e w3 ⟨rfl, hb3⟩
    have B3 : Hid (Below w.heap.size w w3) := B2.out.trans (hb3.mono B2.out.size)
    clear hb3 HP
    go_wp2
    go_ret
    exact ⟨rfl, B3.out⟩
  case true =>
    obtain ⟨hok, r, hs1, hr⟩ := take_yes ht
    have OK : Hid (okArgs l fr to n) := hok
    have SP : Hid (ShiftSpec l fr to (-n) r) := hr
    have H1 : Hid (Sl w1 v1 r) := hs1
    have HV := give_any v1 r fr to n w1 hs1
    clear ht hok hs1 hr
    go_wp2_with fail
    refine HV.mono ?_
    rintro e w2 ⟨v2, ok2, rfl, hg, hb2⟩
    obtain ⟨rfl, hs2⟩ := give_back OK.out SP.out hg
    have B2 : Hid (Below w.heap.size w w2) := B1.out.trans (hb2.mono B1.out.size)
    have H2 : Hid (Sl w2 v1 r) := H1.out.below hb2
    have K2 : Hid (Sl w2 v2 l) := hs2
    have HG := good_any v1 r w2 H2.out
    rw [goodB_iff.2 SP.out.good] at HG
    clear HV hg hb2 hs2 B1 H1
    go_wp2_with fail
    refine HG.mono ?_
    rintro e w3 ⟨rfl, hb3⟩
    have B3 : Hid (Below w.heap.size w w3) := B2.out.trans (hb3.mono B2.out.size)
    have H3 : Hid (Sl w3 v1 r) := H2.out.below hb3
    have HA := sameK_any v2 v l l w3 (K2.out.below hb3) (HS.out.below B3.out)
    rw [decide_eq_true (rfl : l = l)] at HA
    clear HG hb3 B2 H2 K2
    go_wp2_with fail
    refine HA.mono ?_
    rintro e w4 ⟨rfl, hb4⟩
    have B4 : Hid (Below w.heap.size w w4) := B3.out.trans (hb4.mono B3.out.size)
    have H4 : Hid (Sl w4 v1 r) := H3.out.below hb4
    clear HA hb4 B3 H3
    go_wp2_with fail
    go_loopg [52] 300 (fun kx s52 wr => ∃ t : Int, s52 = .int .i64 t ∧ 0 ≤ t ∧ t ≤ 300 ∧ (300 - t).toNat ≤ kx ∧ Hid (Below w.heap.size w wr) ∧ Hid (Sl wr v1 r))
    case atStart => exact ⟨0, rfl, by omega, by omega, by omega, B4, H4⟩
    case round =>
      clear B4 H4
      obtain ⟨t, rfl, t0, t3, hg, S1, R1⟩ := hrel
      by_cases hlt : t < 300
      · have HA1 := at_any v1 r t wr R1.out
        have HA2 : Hid (∀ W, Below w.heap.size w W → Calls Try.prog 13 #[v, .int .i64 t] W fun e w' => e = .returned (.int .i64 (atI l t)) ∧ Below W.heap.size W w') := fun W hb => at_any v l t W (HS.out.below hb)
        obtain ⟨b0, b1, b2, b3, hat⟩ := at_less OK.out SP.out t0 hlt
        generalize atI l t = x at *
        generalize atI r t = y at *
        by_cases c1 : fr ≤ t
        · by_cases c2 : t < to
          · rw [if_pos ⟨c1, c2⟩] at hat
            have hne : (y != x - n) = false := by simp [hat]
            clear hat
            go_wp2_with fail
            refine HA1.mono ?_
            rintro e w5 ⟨rfl, hb5⟩
            have S5 : Hid (Below w.heap.size w w5) := S1.out.trans (hb5.mono S1.out.size)
            have R5 : Hid (Sl w5 v1 r) := R1.out.below hb5
            clear hb5 HA1
            go_wp2_with fail
            refine (HA2.out _ S5.out).mono ?_
            rintro e w6 ⟨rfl, hb6⟩
            have S6 : Hid (Below w.heap.size w w6) := S5.out.trans (hb6.mono S5.out.size)
            have R6 : Hid (Sl w6 v1 r) := R5.out.below hb6
            clear hb6
            go_wp2
            go_roundg (300 - (t + 1)).toNat
            case measure => omega
            case rel => exact ⟨t + 1, rfl, by omega, by omega, Nat.le_refl _, S6, R6⟩
          · rw [if_neg (fun h => c2 h.2)] at hat
            have hne : (y != x - 0) = false := by simp [hat]
            have hne2 : (y != x) = false := by simp [hat]
            clear hat
            go_wp2_with fail
            refine HA1.mono ?_
            rintro e w5 ⟨rfl, hb5⟩
            have S5 : Hid (Below w.heap.size w w5) := S1.out.trans (hb5.mono S1.out.size)
            have R5 : Hid (Sl w5 v1 r) := R1.out.below hb5
            clear hb5 HA1
            go_wp2_with fail
            refine (HA2.out _ S5.out).mono ?_
            rintro e w6 ⟨rfl, hb6⟩
            have S6 : Hid (Below w.heap.size w w6) := S5.out.trans (hb6.mono S5.out.size)
            have R6 : Hid (Sl w6 v1 r) := R5.out.below hb6
            clear hb6
            go_wp2
            go_roundg (300 - (t + 1)).toNat
            case measure => omega
            case rel => exact ⟨t + 1, rfl, by omega, by omega, Nat.le_refl _, S6, R6⟩
        · rw [if_neg (fun h => c1 h.1)] at hat
          have hne : (y != x - 0) = false := by simp [hat]
          have hne2 : (y != x) = false := by simp [hat]
          clear hat
          go_wp2_with fail
          refine HA1.mono ?_
          rintro e w5 ⟨rfl, hb5⟩
          have S5 : Hid (Below w.heap.size w w5) := S1.out.trans (hb5.mono S1.out.size)
          have R5 : Hid (Sl w5 v1 r) := R1.out.below hb5
          clear hb5 HA1
          go_wp2_with fail
          refine (HA2.out _ S5.out).mono ?_
          rintro e w6 ⟨rfl, hb6⟩
          have S6 : Hid (Below w.heap.size w w6) := S5.out.trans (hb6.mono S5.out.size)
          have R6 : Hid (Sl w6 v1 r) := R5.out.below hb6
          clear hb6
          go_wp2
          go_roundg (300 - (t + 1)).toNat
          case measure => omega
          case rel => exact ⟨t + 1, rfl, by omega, by omega, Nat.le_refl _, S6, R6⟩
      · have HP := spansK_any wr
        go_wp2_with fail
        refine HP.mono ?_
        rintro e w5 ⟨rfl, hb5⟩
        have S5 : Hid (Below w.heap.size w w5) := S1.out.trans (hb5.mono S1.out.size)
        clear hb5 HP
        go_wp2
        go_ret
        exact ⟨rfl, S5.out⟩

end Go.Proofs.Ytmcdgkdhdnfbfaa
