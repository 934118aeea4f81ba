/- SpanFirst, the walk: for every slice of steps and all numbers it returns true, and nothing that lay in memory turns. -/
import Derived.Test.YtmcdgkdhdnfbfaaSpans
set_option linter.unusedSimpArgs false
set_option linter.unusedVariables false
namespace Go.Proofs.Ytmcdgkdhdnfbfaa
open Go.RowKit

/-- Take can just where there is room -/
theorem take_room {l : List (Int × Int)} {k long n : Int} {w : World} {v : Value} {ok : Bool} (h : TakeAns l k (k + long) n (-n) w v ok) (G : Good l) (h4 : 0 ≤ n) (h5 : n ≤ 16) (hk : 0 ≤ k ∧ 1 ≤ long) (h3 : k + long ≤ 300) : ok = true ↔ room l n k long := by
  have hok : okArgs l k (k + long) n := ⟨goodB_iff.2 G, decide_eq_true ⟨h4, h5⟩, hk.1, by omega, h3⟩
  rcases h with ⟨_, ⟨rfl, r, _, hr⟩ | ⟨rfl, _, s, s1, s2, s3⟩⟩ | ⟨hn, _⟩
  · exact ⟨fun _ s s1 s2 => by have := hr.fits s s1 s2; omega, fun _ => rfl⟩
  · refine ⟨fun h => (by cases h), fun h => ?_⟩
    have a := h s s1 s2
    have b := G.val_bounds (t := s) (by omega)
    exact absurd ⟨by omega, by omega⟩ s3
  · exact absurd hok hn

set_option maxHeartbeats 4000000 in
theorem spanFirst_any (v : Value) (l : List (Int × Int)) (fr long n : Int) (w : World) (hs : Sl w v l) :
    Calls Try.prog 6 #[v, .int .i64 fr, .int .i64 long, .int .i64 n] w fun e w' => e = .returned (.bool true) ∧ Below w.heap.size w w' := by
  have HG := good_any v l w hs
  have HS : Hid (Sl w v l) := hs
  clear hs
  generalize hgb : goodB l = gb at *
  have GB : Hid (goodB l = gb) := hgb
  clear hgb
  cases gb
  case false =>
    go_enter Try.func6, Try.ntmps6
    go_wp2_with fail
    refine HG.mono ?_
    rintro e w1 ⟨rfl, hb1⟩
    have B1 : Hid (Below w.heap.size w w1) := hb1
    have HP := spansK_any w1
    clear hb1 HG
    go_wp2_with fail
    refine HP.mono ?_
    rintro e w2 ⟨rfl, hb2⟩
    have B2 : Hid (Below w.heap.size w w2) := B1.out.trans (hb2.mono B1.out.size)
    clear hb2 HP
    go_wp2
    go_ret
    exact ⟨rfl, B2.out⟩
  case true =>
    have GG : Hid (Good l) := goodB_iff.1 GB.out
    by_cases g1 : fr < 0
    · go_enter Try.func6, Try.ntmps6
      go_wp2_with fail
      refine HG.mono ?_
      rintro e w1 ⟨rfl, hb1⟩
      have B1 : Hid (Below w.heap.size w w1) := hb1
      have HP := spansK_any w1
      clear hb1 HG
      go_wp2_with fail
      refine HP.mono ?_
      rintro e w2 ⟨rfl, hb2⟩
      have B2 : Hid (Below w.heap.size w w2) := B1.out.trans (hb2.mono B1.out.size)
      clear hb2 HP
      go_wp2
      go_ret
      exact ⟨rfl, B2.out⟩
    by_cases g2 : 300 < fr
    · go_enter Try.func6, Try.ntmps6
      go_wp2_with fail
      refine HG.mono ?_
      rintro e w1 ⟨rfl, hb1⟩
      have B1 : Hid (Below w.heap.size w w1) := hb1
      have HP := spansK_any w1
      clear hb1 HG
      go_wp2_with fail
      refine HP.mono ?_
      rintro e w2 ⟨rfl, hb2⟩
      have B2 : Hid (Below w.heap.size w w2) := B1.out.trans (hb2.mono B1.out.size)
      clear hb2 HP
      go_wp2
      go_ret
      exact ⟨rfl, B2.out⟩
    by_cases g3 : long < 1
    · go_enter Try.func6, Try.ntmps6
      go_wp2_with fail
      refine HG.mono ?_
      rintro e w1 ⟨rfl, hb1⟩
      have B1 : Hid (Below w.heap.size w w1) := hb1
      have HP := spansK_any w1
      clear hb1 HG
      go_wp2_with fail
      refine HP.mono ?_
      rintro e w2 ⟨rfl, hb2⟩
      have B2 : Hid (Below w.heap.size w w2) := B1.out.trans (hb2.mono B1.out.size)
      clear hb2 HP
      go_wp2
      go_ret
      exact ⟨rfl, B2.out⟩
    by_cases g4 : 300 < long
    · go_enter Try.func6, Try.ntmps6
      go_wp2_with fail
      refine HG.mono ?_
      rintro e w1 ⟨rfl, hb1⟩
      have B1 : Hid (Below w.heap.size w w1) := hb1
      have HP := spansK_any w1
      clear hb1 HG
      go_wp2_with fail
      refine HP.mono ?_
      rintro e w2 ⟨rfl, hb2⟩
      have B2 : Hid (Below w.heap.size w w2) := B1.out.trans (hb2.mono B1.out.size)
      clear hb2 HP
      go_wp2
      go_ret
      exact ⟨rfl, B2.out⟩
    by_cases g5 : n < 0
    · go_enter Try.func6, Try.ntmps6
      go_wp2_with fail
      refine HG.mono ?_
      rintro e w1 ⟨rfl, hb1⟩
      have B1 : Hid (Below w.heap.size w w1) := hb1
      have HP := spansK_any w1
      clear hb1 HG
      go_wp2_with fail
      refine HP.mono ?_
      rintro e w2 ⟨rfl, hb2⟩
      have B2 : Hid (Below w.heap.size w w2) := B1.out.trans (hb2.mono B1.out.size)
      clear hb2 HP
      go_wp2
      go_ret
      exact ⟨rfl, B2.out⟩
    by_cases g6 : 16 < n
    · go_enter Try.func6, Try.ntmps6
      go_wp2_with fail
      refine HG.mono ?_
      rintro e w1 ⟨rfl, hb1⟩
      have B1 : Hid (Below w.heap.size w w1) := hb1
      have HP := spansK_any w1
      clear hb1 HG
      go_wp2_with fail
      refine HP.mono ?_
      rintro e w2 ⟨rfl, hb2⟩
      have B2 : Hid (Below w.heap.size w w2) := B1.out.trans (hb2.mono B1.out.size)
      clear hb2 HP
      go_wp2
      go_ret
      exact ⟨rfl, B2.out⟩
    have h1 : 0 ≤ fr := by omega
    have h2 : 1 ≤ long := by omega
    have h3 : long ≤ 300 := by omega
    have h4 : 0 ≤ n := by omega
    have h5 : n ≤ 16 := by omega
    go_enter Try.func6, Try.ntmps6
    go_wp2_with fail
    refine HG.mono ?_
    rintro e w1 ⟨rfl, hb1⟩
    have B1 : Hid (Below w.heap.size w w1) := hb1
    have HF := fit_any v l fr long n w1 (HS.out.below hb1)
    clear hb1 HG
    go_wp2_with fail
    refine HF.mono ?_
    rintro e w2 ⟨t, rfl, hf, hb2⟩
    have B2 : Hid (Below w.heap.size w w2) := B1.out.trans (hb2.mono B1.out.size)
    unfold FitAns at hf
    rw [if_pos ⟨GB.out, h1, h2, h3, h4⟩] at hf
    clear hb2 HF B1
    rcases hf with ⟨rfl, hn⟩ | ⟨f1, f2, f3, f4⟩
    · have HT := take_any v l (-1) (-1 + long) n w2 (HS.out.below B2.out)
      have HN : Hid (∀ k, fr ≤ k → k < 300 - long + 1 → k + long ≤ 300 ∧ ¬ room l n k long) := fun k a b => ⟨by omega, hn k a (by omega)⟩
      clear hn
      go_wp2_with fail
      refine HT.mono ?_
      rintro e w3 ⟨v3, ok3, rfl, _, hb3⟩
      have B3 : Hid (Below w.heap.size w w3) := B2.out.trans (hb3.mono B2.out.size)
      clear hb3 HT B2
      go_wp2_with fail
      go_loopg [13] (300 - long + 1 - fr).toNat (fun kx s13 wr => ∃ k : Int, s13 = .int .i64 k ∧ fr ≤ k ∧ (300 - long + 1 - k).toNat ≤ kx ∧ k ≤ 301 ∧ Hid (Below w.heap.size w wr))
      case atStart => exact ⟨fr, rfl, Int.le_refl _, Nat.le_refl _, by omega, B3⟩
      case round =>
        clear B3
        obtain ⟨k, rfl, hk1, hk2, hk5, S1⟩ := hrel
        by_cases hlt : k < 300 - long + 1
        · obtain ⟨hk3, hk4⟩ := HN.out k hk1 hlt
          have HT := take_any v l k (k + long) n wr (HS.out.below S1.out)
          have NR : Hid (¬ room l n k long) := hk4
          clear hk4
          go_wp2_with fail
          refine HT.mono ?_
          rintro e w4 ⟨v4, ok4, rfl, ht4, hb4⟩
          have hok : ok4 = false := by
            have := take_room ht4 GG.out h4 h5 (by omega) hk3
            cases ok4
            · rfl
            · exact absurd (this.1 rfl) NR.out
          subst hok
          have S2 : Hid (Below w.heap.size w w4) := S1.out.trans (hb4.mono S1.out.size)
          clear ht4 hb4 HT
          go_wp2
          go_roundg (300 - long + 1 - (k + 1)).toNat
          case measure => omega
          case rel => exact ⟨k + 1, rfl, by omega, Nat.le_refl _, by omega, S2⟩
        · have HP := spansK_any wr
          go_wp2_with fail
          refine HP.mono ?_
          rintro e w5 ⟨rfl, hb5⟩
          have S3 : Hid (Below w.heap.size w w5) := S1.out.trans (hb5.mono S1.out.size)
          clear hb5 HP
          go_wp2
          go_ret
          exact ⟨rfl, S3.out⟩
    · have HT := take_any v l t (t + long) n w2 (HS.out.below B2.out)
      have HN : Hid (∀ k, fr ≤ k → k < t → k + long ≤ 300 ∧ ¬ room l n k long) := fun k a b => ⟨by omega, f4 k a b⟩
      have HR : Hid (room l n t long) := f3
      clear f3 f4
      go_wp2_with fail
      refine HT.mono ?_
      rintro e w3 ⟨v3, ok3, rfl, ht3, hb3⟩
      have hok : ok3 = true := (take_room ht3 GG.out h4 h5 (by omega) f2).2 HR.out
      subst hok
      have B3 : Hid (Below w.heap.size w w3) := B2.out.trans (hb3.mono B2.out.size)
      clear hb3 HT B2 ht3
      go_wp2_with fail
      go_loopg [13] (t - fr).toNat (fun kx s13 wr => ∃ k : Int, s13 = .int .i64 k ∧ fr ≤ k ∧ (t - k).toNat ≤ kx ∧ k ≤ 301 ∧ Hid (Below w.heap.size w wr))
      case atStart => exact ⟨fr, rfl, Int.le_refl _, Nat.le_refl _, by omega, B3⟩
      case round =>
        clear B3
        obtain ⟨k, rfl, hk1, hk2, hk5, S1⟩ := hrel
        by_cases hlt : k < t
        · obtain ⟨hk3, hk4⟩ := HN.out k hk1 hlt
          have HT := take_any v l k (k + long) n wr (HS.out.below S1.out)
          have NR : Hid (¬ room l n k long) := hk4
          clear hk4
          go_wp2_with fail
          refine HT.mono ?_
          rintro e w4 ⟨v4, ok4, rfl, ht4, hb4⟩
          have hok : ok4 = false := by
            have := take_room ht4 GG.out h4 h5 (by omega) hk3
            cases ok4
            · rfl
            · exact absurd (this.1 rfl) NR.out
          subst hok
          have S2 : Hid (Below w.heap.size w w4) := S1.out.trans (hb4.mono S1.out.size)
          clear ht4 hb4 HT
          go_wp2
          go_roundg (t - (k + 1)).toNat
          case measure => omega
          case rel => exact ⟨k + 1, rfl, by omega, Nat.le_refl _, by omega, S2⟩
        · have HP := spansK_any wr
          go_wp2_with fail
          refine HP.mono ?_
          rintro e w5 ⟨rfl, hb5⟩
          have S3 : Hid (Below w.heap.size w w5) := S1.out.trans (hb5.mono S1.out.size)
          clear hb5 HP
          go_wp2
          go_ret
          exact ⟨rfl, S3.out⟩

end Go.Proofs.Ytmcdgkdhdnfbfaa
