/- until, At and Fit of package span: for every list of steps that a row of memory holds they answer what P1.2 and P1.4 say, and nothing that lay in memory turns. -/
import Derived.Test.YtghhegajbehpeaaGood
set_option linter.unusedSimpArgs false
set_option linter.unusedVariables false
namespace Go.Proofs.Ytghhegajbehpeaa
open Go.RowKit

set_option maxHeartbeats 400000 in
theorem until_any (b off cap : Nat) (l : List (Int × Int)) (i : Nat) (w : World) (hr : Rd w b off l) (hn : l.length ≤ 8796093022208) (hi : i < l.length) :
    Calls Try.prog 57 #[.slice (some ⟨b, off, none⟩) l.length cap, .int .i64 i] w fun e w' => e = .returned (.int .i64 (endOf l i)) ∧ w' = w := by
  unfold endOf
  by_cases h : i + 1 < l.length
  · obtain ⟨c0, c1⟩ := hr (i + 1) h
    rw [if_pos h]
    generalize sAt l (i + 1) = x at c0 c1
    have h1 : (i : Int) + 1 < (l.length : Int) := by omega
    clear hr
    go_enter Try.func57, Try.ntmps57
    go_wp2
    go_ret
    exact ⟨rfl, rfl⟩
  · rw [if_neg h]
    clear hr
    go_enter Try.func57, Try.ntmps57
    go_wp2
    go_ret
    exact ⟨rfl, rfl⟩

/-- what At answers -/
def atI (l : List (Int × Int)) (t : Int) : Int := if goodB l = true ∧ 0 ≤ t ∧ t < 300 then val l t else 0

set_option maxHeartbeats 1000000 in
theorem at_any (v : Value) (l : List (Int × Int)) (t : Int) (w : World) (hs : Sl w v l) :
    Calls Try.prog 21 #[v, .int .i64 t] w fun e w' => e = .returned (.int .i64 (atI l t)) ∧ Below w.heap.size w w' := by
  have HG := fun W (h : Sl W v l) => good_any v l W h
  have HS : Hid (Sl w v l) := hs
  by_cases hg : goodB l = true
  · have G := goodB_iff.1 hg
    obtain ⟨hn, a, cap, rfl, h1⟩ := hs
    rcases h1 with rfl | ⟨b, off, rfl, hr⟩
    · have := G.pos; simp at this
    by_cases ht : 0 ≤ t ∧ t < 300
    · have hat : Hid (atI l t = val l t) := by show atI l t = val l t; unfold atI; rw [if_pos ⟨hg, ht⟩]
      obtain ⟨ht0, ht1⟩ := ht
      rw [hg] at HG
      have HP := fun W (h : Rd W b off l) => place_any b off cap l t W h hn G.rise
      have HR : Hid (Rd w b off l) := hr
      clear hr hg
      have GG : Hid (Good l) := G
      clear G
      go_enter Try.func21, Try.ntmps21
      go_wp2_with fail
      refine (HG _ HS.out).mono ?_
      rintro e w1 ⟨rfl, hb1⟩
      have HR1 : Hid (Rd w1 b off l) := HR.out.below hb1
      have B1 : Hid (Below w.heap.size w w1) := hb1
      clear hb1
      go_wp2_with fail
      refine (HP _ HR1.out).mono ?_
      rintro e w2 ⟨i, rfl, hc, hb2⟩
      have HR2 : Hid (Rd w2 b off l) := HR1.out.below hb2
      have B2 : Hid (Below w.heap.size w w2) := B1.out.trans (hb2.mono B1.out.size)
      obtain ⟨hy, hno⟩ := cut_val GG.out ht0 hc
      have hil : i ≤ l.length := hc.1
      clear hb2 hc HP HG
      generalize fnd l t i = f at *
      cases f
      case true =>
        obtain ⟨hi, hv⟩ := hy rfl
        obtain ⟨c0, c1⟩ := HR2.out i hi
        have HV : Hid (atI l t = (sAt l i).2) := hat.out.trans hv
        clear hy hno hv
        generalize sAt l i = x at *
        go_wp2
        go_ret
        exact ⟨by rw [HV.out]; rfl, B2.out⟩
      case false =>
        obtain ⟨m, rfl, hi, hv⟩ := hno rfl
        obtain ⟨c0, c1⟩ := HR2.out m hi
        have HV : Hid (atI l t = (sAt l m).2) := hat.out.trans hv
        clear hy hno hv
        generalize sAt l m = x at *
        go_wp2
        go_ret
        exact ⟨by rw [HV.out]; rfl, B2.out⟩
    · have hat : Hid (atI l t = 0) := by show atI l t = 0; unfold atI; rw [if_neg (fun h => ht h.2)]
      rw [hg] at HG
      clear hr hg G
      by_cases ht0 : t < 0
      · go_enter Try.func21, Try.ntmps21
        go_wp2_with fail
        refine (HG _ HS.out).mono ?_
        rintro e w1 ⟨rfl, hb1⟩
        go_wp2
        go_ret
        exact ⟨by rw [hat.out]; rfl, hb1⟩
      · have ht1 : 300 ≤ t := by omega
        clear ht
        go_enter Try.func21, Try.ntmps21
        go_wp2_with fail
        refine (HG _ HS.out).mono ?_
        rintro e w1 ⟨rfl, hb1⟩
        go_wp2
        go_ret
        exact ⟨by rw [hat.out]; rfl, hb1⟩
  · have hat : Hid (atI l t = 0) := by show atI l t = 0; unfold atI; rw [if_neg (fun h => hg h.1)]
    have hg' : goodB l = false := by simpa using hg
    rw [hg'] at HG
    clear hs hg hg'
    go_enter Try.func21, Try.ntmps21
    go_wp2_with fail
    refine (HG _ HS.out).mono ?_
    rintro e w1 ⟨rfl, hb1⟩
    go_wp2
    go_ret
    exact ⟨by rw [hat.out]; rfl, hb1⟩

/-- what Fit may answer -/
def FitAns (l : List (Int × Int)) (fr long n r : Int) : Prop :=
  if goodB l = true ∧ 0 ≤ fr ∧ 1 ≤ long ∧ long ≤ 300 ∧ 0 ≤ n then FitIs l fr long n r else r = -1

set_option maxHeartbeats 1000000 in
theorem fit_bad (v : Value) (l : List (Int × Int)) (fr long n : Int) (w : World) (hs : Sl w v l) (hb : ¬ (goodB l = true ∧ 0 ≤ fr ∧ 1 ≤ long ∧ long ≤ 300 ∧ 0 ≤ n)) :
    Calls Try.prog 20 #[v, .int .i64 fr, .int .i64 long, .int .i64 n] w fun e w' => e = .returned (.int .i64 (-1)) ∧ Below w.heap.size w w' := by
  have HG := good_any v l w hs
  generalize goodB l = gb at *
  cases gb
  case false =>
    go_enter Try.func20, Try.ntmps20
    go_wp2_with fail
    refine HG.mono ?_
    rintro e w1 ⟨rfl, hb1⟩
    go_wp2
    go_ret
    exact ⟨rfl, hb1⟩
  case true =>
    by_cases h1 : fr < 0
    · go_enter Try.func20, Try.ntmps20
      go_wp2_with fail
      refine HG.mono ?_
      rintro e w1 ⟨rfl, hb1⟩
      go_wp2
      go_ret
      exact ⟨rfl, hb1⟩
    · by_cases h2 : long < 1
      · go_enter Try.func20, Try.ntmps20
        go_wp2_with fail
        refine HG.mono ?_
        rintro e w1 ⟨rfl, hb1⟩
        go_wp2
        go_ret
        exact ⟨rfl, hb1⟩
      · by_cases h3 : 300 < long
        · go_enter Try.func20, Try.ntmps20
          go_wp2_with fail
          refine HG.mono ?_
          rintro e w1 ⟨rfl, hb1⟩
          go_wp2
          go_ret
          exact ⟨rfl, hb1⟩
        · have h4 : n < 0 := by
            apply Classical.byContradiction
            intro h4
            exact hb ⟨rfl, by omega, by omega, by omega, by omega⟩
          go_enter Try.func20, Try.ntmps20
          go_wp2_with fail
          refine HG.mono ?_
          rintro e w1 ⟨rfl, hb1⟩
          go_wp2
          go_ret
          exact ⟨rfl, hb1⟩

end Go.Proofs.Ytghhegajbehpeaa
