/- spans of the statements' packages: it answers true. -/
import Derived.Test.YtghhegajbehpeaaShift2
import Derived.Test.YtghhegajbehpeaaFit2
import Derived.Test.YtghhegajbehpeaaMath2
set_option linter.unusedSimpArgs false
set_option linter.unusedVariables false
namespace Go.Proofs.Ytghhegajbehpeaa
open Go.RowKit

/-- what is left of all when four are taken from 5 to 9 -/
def R3 : List (Int × Int) := [(0, 16), (5, 12), (9, 16)]

theorem good1 : Good [(0, 16)] := goodB_iff.1 (by decide)
theorem good3 : Good R3 := goodB_iff.1 (by decide)

theorem val1 {s : Int} (h : 0 ≤ s) : val [(0, 16)] s = 16 := by
  simp only [val, valFrom]
  rw [if_pos h]

theorem val3 {s : Int} (h : 0 ≤ s) : val R3 s = if 5 ≤ s ∧ s < 9 then 12 else 16 := by
  simp only [val, valFrom, R3]
  rw [if_pos h]
  by_cases h9 : 9 ≤ s
  · rw [if_pos h9, if_neg (by omega)]
  · rw [if_neg h9]
    by_cases h5 : 5 ≤ s
    · rw [if_pos h5, if_pos (by omega)]
    · rw [if_neg h5, if_neg (by omega)]

theorem spans_take {w : World} {v : Value} {ok : Bool} (h : TakeAns [(0, 16)] 5 9 4 (-4) w v ok) : ok = true ∧ Sl w v R3 := by
  have hok : okArgs [(0, 16)] 5 9 4 := ⟨goodB_iff.2 good1, by decide, by omega, by omega, by omega⟩
  rcases h with ⟨_, h | ⟨_, _, s, h1, h2, h3⟩⟩ | ⟨hn, _⟩
  · obtain ⟨rfl, r, hs, hr⟩ := h
    have e : r = R3 := same_profile hr.good good3 fun t h0 h3 => by
      rw [hr.says t h0 h3, val1 h0, val3 h0]
      by_cases c : 5 ≤ t ∧ t < 9
      · rw [if_pos c, if_pos c]; omega
      · rw [if_neg c, if_neg c]; omega
    subst e
    exact ⟨rfl, hs⟩
  · rw [val1 (by omega)] at h3
    exact absurd ⟨by omega, by omega⟩ h3
  · exact absurd hok hn

theorem spans_at : atI R3 7 = 12 := by
  unfold atI
  rw [if_pos ⟨goodB_iff.2 good3, by omega, by omega⟩, val3 (by omega), if_pos (by omega)]

theorem spans_fit {r : Int} (h : FitAns R3 0 10 13 r) : r = 9 := by
  unfold FitAns at h
  rw [if_pos ⟨goodB_iff.2 good3, by omega, by omega, by omega, by omega⟩] at h
  have r9 : room R3 13 9 10 := fun s h1 h2 => by rw [val3 (by omega), if_neg (by omega)]; omega
  have rn : ∀ t, 0 ≤ t → t < 9 → ¬ room R3 13 t 10 := fun t h0 h9 hr => by
    by_cases h5 : t < 5
    · have := hr 5 (by omega) (by omega)
      rw [val3 (by omega), if_pos (by omega)] at this
      omega
    · have := hr t (by omega) (by omega)
      rw [val3 (by omega), if_pos (by omega)] at this
      omega
  rcases h with ⟨_, hn⟩ | ⟨h1, h2, h3, h4⟩
  · exact absurd r9 (hn 9 (by omega) (by omega))
  · have : ¬ r < 9 := fun hc => rn r h1 hc h3
    have : ¬ 9 < r := fun hc => h4 9 (by omega) hc r9
    omega

set_option maxHeartbeats 1000000 in
theorem spansL_any (w : World) : Calls Try.prog 19 #[] w fun e w' => e = .returned (.bool true) ∧ Below w.heap.size w w' := by
  have HN := new_any w
  go_enter Try.func19, Try.ntmps19
  go_wp2_with fail
  refine HN.mono ?_
  rintro e w1 ⟨v1, rfl, hs1, hb1⟩
  have B1 : Hid (Below w.heap.size w w1) := hb1
  have HT := take_any v1 [(0, 16)] 5 9 4 w1 hs1
  clear hs1 hb1 HN
  go_wp2_with fail
  refine HT.mono ?_
  rintro e w2 ⟨v2, ok, rfl, ht, hb2⟩
  obtain ⟨rfl, hs2⟩ := spans_take ht
  have B2 : Hid (Below w.heap.size w w2) := B1.out.trans (hb2.mono B1.out.size)
  clear HT ht hb2 B1
  have HA := at_any v2 R3 7 w2 hs2
  rw [spans_at] at HA
  have H2 : Hid (Sl w2 v2 R3) := hs2
  obtain ⟨_, a, cap, rfl, _⟩ := hs2
  have hl3 : R3.length = 3 := rfl
  rw [hl3] at HA
  have H3 : Hid (Sl w2 (.slice a 3 cap) R3) := H2.out
  clear H2
  rw [hl3]
  clear hl3
  go_wp2_with fail
  refine HA.mono ?_
  rintro e w3 ⟨rfl, hb3⟩
  have B3 : Hid (Below w.heap.size w w3) := B2.out.trans (hb3.mono B2.out.size)
  have HF := fit_any (.slice a 3 cap) R3 0 10 13 w3 (H3.out.below hb3)
  clear HA hb3 B2
  go_wp2_with fail
  refine HF.mono ?_
  rintro e w4 ⟨r, rfl, hf, hb4⟩
  have hr : r = 9 := spans_fit hf
  subst hr
  have B4 : Hid (Below w.heap.size w w4) := B3.out.trans (hb4.mono B3.out.size)
  clear HF hf hb4 B3
  go_wp2
  go_ret
  exact ⟨rfl, B4.out⟩

set_option maxHeartbeats 1000000 in
theorem spansK_any (w : World) : Calls Try.prog 28 #[] w fun e w' => e = .returned (.bool true) ∧ Below w.heap.size w w' := by
  have HN := new_any w
  go_enter Try.func28, Try.ntmps28
  go_wp2_with fail
  refine HN.mono ?_
  rintro e w1 ⟨v1, rfl, hs1, hb1⟩
  have B1 : Hid (Below w.heap.size w w1) := hb1
  have HT := take_any v1 [(0, 16)] 5 9 4 w1 hs1
  clear hs1 hb1 HN
  go_wp2_with fail
  refine HT.mono ?_
  rintro e w2 ⟨v2, ok, rfl, ht, hb2⟩
  obtain ⟨rfl, hs2⟩ := spans_take ht
  have B2 : Hid (Below w.heap.size w w2) := B1.out.trans (hb2.mono B1.out.size)
  clear HT ht hb2 B1
  have HA := at_any v2 R3 7 w2 hs2
  rw [spans_at] at HA
  have H2 : Hid (Sl w2 v2 R3) := hs2
  obtain ⟨_, a, cap, rfl, _⟩ := hs2
  have hl3 : R3.length = 3 := rfl
  rw [hl3] at HA
  have H3 : Hid (Sl w2 (.slice a 3 cap) R3) := H2.out
  clear H2
  rw [hl3]
  clear hl3
  go_wp2_with fail
  refine HA.mono ?_
  rintro e w3 ⟨rfl, hb3⟩
  have B3 : Hid (Below w.heap.size w w3) := B2.out.trans (hb3.mono B2.out.size)
  have HF := fit_any (.slice a 3 cap) R3 0 10 13 w3 (H3.out.below hb3)
  clear HA hb3 B2
  go_wp2_with fail
  refine HF.mono ?_
  rintro e w4 ⟨r, rfl, hf, hb4⟩
  have hr : r = 9 := spans_fit hf
  subst hr
  have B4 : Hid (Below w.heap.size w w4) := B3.out.trans (hb4.mono B3.out.size)
  clear HF hf hb4 B3
  go_wp2
  go_ret
  exact ⟨rfl, B4.out⟩

end Go.Proofs.Ytghhegajbehpeaa
