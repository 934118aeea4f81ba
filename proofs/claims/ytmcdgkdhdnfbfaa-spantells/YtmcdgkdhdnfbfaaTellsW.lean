/- SpanTells, the walk: for every slice of steps and all numbers it returns true, and nothing that lay in memory turns. -/
import Derived.Test.YtmcdgkdhdnfbfaaSpans
import Derived.Test.YtmcdgkdhdnfbfaaSame
import Derived.Test.YtmcdgkdhdnfbfaaCopy
import Derived.Test.YtmcdgkdhdnfbfaaRefFirst
import Derived.Lib.AppendZeros
set_option linter.unusedSimpArgs false
set_option linter.unusedVariables false
namespace Go.Proofs.Ytmcdgkdhdnfbfaa
open Go.RowKit

theorem one_step (w : World) : Sl (w.alloc (.cells #[.int .i64 0, .int .i64 16] 31)) (.slice (some ⟨w.heap.size, 0, none⟩) 1 1) [(0, 16)] := by
  obtain ⟨n0, n1⟩ := new_pair w (.int .i64 0) (.int .i64 16) 31
  refine ⟨by simp, _, _, rfl, Or.inr ⟨_, _, rfl, fun j hj => ?_⟩⟩
  have : j = 0 := by simpa using hj
  subst this
  exact ⟨n0, n1⟩

set_option maxHeartbeats 4000000 in
set_option maxRecDepth 100000 in
theorem spanTells_any (v : Value) (l : List (Int × Int)) (t fr long n : Int) (w : World) (hs : Sl w v l) :
    Calls Try.prog 3 #[v, .int .i64 t, .int .i64 fr, .int .i64 long, .int .i64 n] w fun e w' => e = .returned (.bool true) ∧ Below w.heap.size w w' := by
  obtain ⟨vc, w1, hrun, hc1, hb1⟩ := run_append_copy v l w hs 22
  have HR : Hid ((Builtin.append_ #[22, 22] 22 #[.slice none 0 0, v]).run Try.prog w = .ok vc w1) := hrun
  have HS : Hid (Sl w v l) := hs
  have B1 : Hid (Below w.heap.size w w1) := hb1
  have C1 : Hid (Sl w1 vc l) := hc1
  have HF := freeOf_any v l w1 (hs.below hb1)
  clear hrun hs hb1 hc1
  generalize hgb : goodB l = gb at *
  have GB : Hid (goodB l = gb) := hgb
  clear hgb
  go_enter Try.func3, Try.ntmps3
  go_wp2_with (at_builtin; refine Lib.wpList_append_run _ rfl _ _ 22 22 rfl _ _ rfl rfl _ _ HR.out ?_)
  refine HF.mono ?_
  rintro e w2 ⟨f, rfl, hf3, hsay, hb2⟩
  have B2 : Hid (Below w.heap.size w w2) := B1.out.trans (hb2.mono B1.out.size)
  have C2 : Hid (Sl w2 vc l) := C1.out.below hb2
  have HF3 : Hid (f.length = 300) := hf3
  have SY : Hid (gb = true → Says f l) := hsay
  clear HF hf3 hsay hb2 B1 C1
  go_wp2_with (first | (refine wpList_alloc_arr rfl rfl 12 rfl ?_; intro w3 hw3 hs3) | (refine wpList_store_arr rfl _ _ rfl w2.heap.size zero300 f rfl rfl hw3.out.1 HF3.out ?_; intro w4 hw4 hs4))
  have BD : Hid (Below w2.heap.size w2 w4) := hw3.out.2.trans (hw4.out.2.2 _ (Nat.le_refl _))
  have B4 : Hid (Below w.heap.size w w4) := B2.out.trans (BD.out.mono B2.out.size)
  have C4 : Hid (Sl w4 vc l) := C2.out.below BD.out
  have A4 : Hid (Arr w4 w2.heap.size f) := hw4.out.1
  have HG := good_any vc l w4 C4.out
  rw [GB.out] at HG
  clear hw3 hs3 hw4 hs4 BD B2 C2
  generalize w2.heap.size = G at *
  refine HG.mono ?_
  rintro e w5 ⟨rfl, hb5⟩
  have B5 : Hid (Below w.heap.size w w5) := B4.out.trans (hb5.mono B4.out.size)
  have C5 : Hid (Sl w5 vc l) := C4.out.below hb5
  have A5 : Hid (Arr w5 G f) := A4.out.later hb5 A4.out.lt
  have HN := new_any w5
  clear HG hb5 B4 C4 A4
  go_wp2_with fail
  refine HN.mono ?_
  rintro e w6 ⟨v6, rfl, hs6, hb6⟩
  have B6 : Hid (Below w.heap.size w w6) := B5.out.trans (hb6.mono B5.out.size)
  have C6 : Hid (Sl w6 vc l) := C5.out.below hb6
  have A6 : Hid (Arr w6 G f) := A5.out.later hb6 A5.out.lt
  have hb7 : Below w6.heap.size w6 (w6.alloc (.cells #[.int .i64 0, .int .i64 16] 31)) := (Below.refl _ w6).alloc (Nat.le_refl _) _
  have HM := sameL_any v6 (.slice (some ⟨w6.heap.size, 0, none⟩) 1 1) [(0, 16)] [(0, 16)] _ (hs6.below hb7) (one_step w6)
  rw [decide_eq_true (rfl : [((0 : Int), (16 : Int))] = [(0, 16)])] at HM
  have B7 : Hid (Below w.heap.size w (w6.alloc (.cells #[.int .i64 0, .int .i64 16] 31))) := B6.out.trans (hb7.mono B6.out.size)
  have C7 : Hid (Sl (w6.alloc (.cells #[.int .i64 0, .int .i64 16] 31)) vc l) := C6.out.below hb7
  have A7 : Hid (Arr (w6.alloc (.cells #[.int .i64 0, .int .i64 16] 31)) G f) := A6.out.later hb7 A6.out.lt
  clear HN hs6 hb6 hb7 B5 C5 A5 B6 C6 A6
  go_wp2_with fail
  refine HM.mono ?_
  rintro e w8 ⟨rfl, hb8⟩
  have B8 : Hid (Below w.heap.size w w8) := B7.out.trans (hb8.mono B7.out.size)
  have C8 : Hid (Sl w8 vc l) := C7.out.below hb8
  have A8 : Hid (Arr w8 G f) := A7.out.later hb8 A7.out.lt
  have HP := spansL_any w8
  clear HM hb8 B7 C7 A7
  go_wp2_with fail
  refine HP.mono ?_
  rintro e w9 ⟨rfl, hb9⟩
  have B9 : Hid (Below w.heap.size w w9) := B8.out.trans (hb9.mono B8.out.size)
  have C9 : Hid (Sl w9 vc l) := C8.out.below hb9
  have A9 : Hid (Arr w9 G f) := A8.out.later hb9 A8.out.lt
  have HX := fit_any vc l fr long n w9 C9.out
  clear HP hb9 B8 C8 A8
  go_wp2_with fail
  refine HX.mono ?_
  rintro e w10 ⟨r, rfl, hfit, hb10⟩
  have B10 : Hid (Below w.heap.size w w10) := B9.out.trans (hb10.mono B9.out.size)
  have C10 : Hid (Sl w10 vc l) := C9.out.below hb10
  have A10 : Hid (Arr w10 G f) := A9.out.later hb10 A9.out.lt
  unfold FitAns at hfit
  rw [GB.out] at hfit
  have FT : Hid (if gb = true ∧ 0 ≤ fr ∧ 1 ≤ long ∧ long ≤ 300 ∧ 0 ≤ n then FitIs l fr long n r else r = -1) := hfit
  clear HX hb10 hfit B9 C9 A9
  cases gb
  case false =>
    have hr : r = -1 := by have := FT.out; rw [if_neg (fun h => by cases h.1)] at this; exact this
    subst hr
    go_wp2
    go_ret
    exact ⟨rfl, B10.out⟩
  case true =>
    by_cases g1 : fr < 0
    · have hr : r = -1 := by have := FT.out; rw [if_neg (by omega)] at this; exact this
      subst hr
      go_wp2
      go_ret
      exact ⟨rfl, B10.out⟩
    by_cases g2 : long < 1
    · have hr : r = -1 := by have := FT.out; rw [if_neg (by omega)] at this; exact this
      subst hr
      go_wp2
      go_ret
      exact ⟨rfl, B10.out⟩
    by_cases g3 : 300 < long
    · have hr : r = -1 := by have := FT.out; rw [if_neg (by omega)] at this; exact this
      subst hr
      go_wp2
      go_ret
      exact ⟨rfl, B10.out⟩
    by_cases g4 : n < 0
    · have hr : r = -1 := by have := FT.out; rw [if_neg (by omega)] at this; exact this
      subst hr
      go_wp2
      go_ret
      exact ⟨rfl, B10.out⟩
    have FI : Hid (FitIs l fr long n r) := by have := FT.out; rw [if_pos ⟨rfl, by omega, by omega, by omega, by omega⟩] at this; exact this
    have SF : Hid (Says f l) := SY.out rfl
    clear FT SY
    have HA := at_any vc l t w10 C10.out
    by_cases t0 : 0 ≤ t
    · by_cases t3 : t < 300
      · obtain ⟨tn, rfl⟩ : ∃ tn : Nat, t = tn := ⟨t.toNat, by omega⟩
        have q0 := A10.out.cell tn (by omega)
        have hv : f.getD tn 0 = atI l tn := by
          rw [SF.out.2 tn (by omega)]
          unfold atI; rw [if_pos ⟨GB.out, by omega, by omega⟩]
        rw [hv] at q0
        clear hv
        generalize atI l tn = x at *
        by_cases g5 : 300 < fr
        · go_wp2_with fail
          refine HA.mono ?_
          rintro e w11 ⟨rfl, hb11⟩
          have B11 : Hid (Below w.heap.size w w11) := B10.out.trans (hb11.mono B10.out.size)
          have C11 : Hid (Sl w11 vc l) := C10.out.below hb11
          have A11 : Hid (Arr w11 G f) := A10.out.later hb11 A10.out.lt
          have HQ := refFirst_any f l SF.out 300 long n w11 (by omega) (by omega) (by omega)
          rw [show ((300 : Nat) : Int) = 300 from rfl] at HQ
          clear HA hb11 B10 C10 A10
          go_wp2_with (refine wpList_load_arr_g (by first | rfl | (simp [Region.wanted, yielded]; done)) _ rfl G f rfl A11.out ?_)
          refine HQ.mono ?_
          rintro e w12 ⟨r2, rfl, hr2, hb12⟩
          have hrr : r2 = r := (fitIs_late hr2 (by omega) (by omega)).trans (fitIs_late FI.out (by omega) (by omega)).symm
          subst hrr
          have B12 : Hid (Below w.heap.size w w12) := B11.out.trans (hb12.mono B11.out.size)
          have HE := sameL_any vc v l l w12 (C11.out.below hb12) (HS.out.below B12.out)
          rw [decide_eq_true (rfl : l = l)] at HE
          clear HQ hr2 hb12 B11 C11 A11
          go_wp2_with fail
          refine HE.mono ?_
          rintro e w13 ⟨rfl, hb13⟩
          have B13 : Hid (Below w.heap.size w w13) := B12.out.trans (hb13.mono B12.out.size)
          clear HE hb13
          go_wp2
          go_ret
          exact ⟨rfl, B13.out⟩
        · obtain ⟨fn, rfl⟩ : ∃ fn : Nat, fr = fn := ⟨fr.toNat, by omega⟩
          go_wp2_with fail
          refine HA.mono ?_
          rintro e w11 ⟨rfl, hb11⟩
          have B11 : Hid (Below w.heap.size w w11) := B10.out.trans (hb11.mono B10.out.size)
          have C11 : Hid (Sl w11 vc l) := C10.out.below hb11
          have A11 : Hid (Arr w11 G f) := A10.out.later hb11 A10.out.lt
          have HQ := refFirst_any f l SF.out fn long n w11 (by omega) (by omega) (by omega)
          clear HA hb11 B10 C10 A10
          go_wp2_with (refine wpList_load_arr_g (by first | rfl | (simp [Region.wanted, yielded]; done)) _ rfl G f rfl A11.out ?_)
          refine HQ.mono ?_
          rintro e w12 ⟨r2, rfl, hr2, hb12⟩
          have hrr : r2 = r := fitIs_unique hr2 FI.out
          subst hrr
          have B12 : Hid (Below w.heap.size w w12) := B11.out.trans (hb12.mono B11.out.size)
          have HE := sameL_any vc v l l w12 (C11.out.below hb12) (HS.out.below B12.out)
          rw [decide_eq_true (rfl : l = l)] at HE
          clear HQ hr2 hb12 B11 C11 A11
          go_wp2_with fail
          refine HE.mono ?_
          rintro e w13 ⟨rfl, hb13⟩
          have B13 : Hid (Below w.heap.size w w13) := B12.out.trans (hb13.mono B12.out.size)
          clear HE hb13
          go_wp2
          go_ret
          exact ⟨rfl, B13.out⟩
      · have hx : atI l t = 0 := by unfold atI; rw [if_neg (by omega)]
        rw [hx] at HA
        clear hx
        by_cases g5 : 300 < fr
        · go_wp2_with fail
          refine HA.mono ?_
          rintro e w11 ⟨rfl, hb11⟩
          have B11 : Hid (Below w.heap.size w w11) := B10.out.trans (hb11.mono B10.out.size)
          have C11 : Hid (Sl w11 vc l) := C10.out.below hb11
          have A11 : Hid (Arr w11 G f) := A10.out.later hb11 A10.out.lt
          have HQ := refFirst_any f l SF.out 300 long n w11 (by omega) (by omega) (by omega)
          rw [show ((300 : Nat) : Int) = 300 from rfl] at HQ
          clear HA hb11 B10 C10 A10
          go_wp2_with (refine wpList_load_arr_g (by first | rfl | (simp [Region.wanted, yielded]; done)) _ rfl G f rfl A11.out ?_)
          refine HQ.mono ?_
          rintro e w12 ⟨r2, rfl, hr2, hb12⟩
          have hrr : r2 = r := (fitIs_late hr2 (by omega) (by omega)).trans (fitIs_late FI.out (by omega) (by omega)).symm
          subst hrr
          have B12 : Hid (Below w.heap.size w w12) := B11.out.trans (hb12.mono B11.out.size)
          have HE := sameL_any vc v l l w12 (C11.out.below hb12) (HS.out.below B12.out)
          rw [decide_eq_true (rfl : l = l)] at HE
          clear HQ hr2 hb12 B11 C11 A11
          go_wp2_with fail
          refine HE.mono ?_
          rintro e w13 ⟨rfl, hb13⟩
          have B13 : Hid (Below w.heap.size w w13) := B12.out.trans (hb13.mono B12.out.size)
          clear HE hb13
          go_wp2
          go_ret
          exact ⟨rfl, B13.out⟩
        · obtain ⟨fn, rfl⟩ : ∃ fn : Nat, fr = fn := ⟨fr.toNat, by omega⟩
          go_wp2_with fail
          refine HA.mono ?_
          rintro e w11 ⟨rfl, hb11⟩
          have B11 : Hid (Below w.heap.size w w11) := B10.out.trans (hb11.mono B10.out.size)
          have C11 : Hid (Sl w11 vc l) := C10.out.below hb11
          have A11 : Hid (Arr w11 G f) := A10.out.later hb11 A10.out.lt
          have HQ := refFirst_any f l SF.out fn long n w11 (by omega) (by omega) (by omega)
          clear HA hb11 B10 C10 A10
          go_wp2_with (refine wpList_load_arr_g (by first | rfl | (simp [Region.wanted, yielded]; done)) _ rfl G f rfl A11.out ?_)
          refine HQ.mono ?_
          rintro e w12 ⟨r2, rfl, hr2, hb12⟩
          have hrr : r2 = r := fitIs_unique hr2 FI.out
          subst hrr
          have B12 : Hid (Below w.heap.size w w12) := B11.out.trans (hb12.mono B11.out.size)
          have HE := sameL_any vc v l l w12 (C11.out.below hb12) (HS.out.below B12.out)
          rw [decide_eq_true (rfl : l = l)] at HE
          clear HQ hr2 hb12 B11 C11 A11
          go_wp2_with fail
          refine HE.mono ?_
          rintro e w13 ⟨rfl, hb13⟩
          have B13 : Hid (Below w.heap.size w w13) := B12.out.trans (hb13.mono B12.out.size)
          clear HE hb13
          go_wp2
          go_ret
          exact ⟨rfl, B13.out⟩
    · have hx : atI l t = 0 := by unfold atI; rw [if_neg (by omega)]
      rw [hx] at HA
      clear hx
      by_cases g5 : 300 < fr
      · go_wp2_with fail
        refine HA.mono ?_
        rintro e w11 ⟨rfl, hb11⟩
        have B11 : Hid (Below w.heap.size w w11) := B10.out.trans (hb11.mono B10.out.size)
        have C11 : Hid (Sl w11 vc l) := C10.out.below hb11
        have A11 : Hid (Arr w11 G f) := A10.out.later hb11 A10.out.lt
        have HQ := refFirst_any f l SF.out 300 long n w11 (by omega) (by omega) (by omega)
        rw [show ((300 : Nat) : Int) = 300 from rfl] at HQ
        clear HA hb11 B10 C10 A10
        go_wp2_with (refine wpList_load_arr_g (by first | rfl | (simp [Region.wanted, yielded]; done)) _ rfl G f rfl A11.out ?_)
        refine HQ.mono ?_
        rintro e w12 ⟨r2, rfl, hr2, hb12⟩
        have hrr : r2 = r := (fitIs_late hr2 (by omega) (by omega)).trans (fitIs_late FI.out (by omega) (by omega)).symm
        subst hrr
        have B12 : Hid (Below w.heap.size w w12) := B11.out.trans (hb12.mono B11.out.size)
        have HE := sameL_any vc v l l w12 (C11.out.below hb12) (HS.out.below B12.out)
        rw [decide_eq_true (rfl : l = l)] at HE
        clear HQ hr2 hb12 B11 C11 A11
        go_wp2_with fail
        refine HE.mono ?_
        rintro e w13 ⟨rfl, hb13⟩
        have B13 : Hid (Below w.heap.size w w13) := B12.out.trans (hb13.mono B12.out.size)
        clear HE hb13
        go_wp2
        go_ret
        exact ⟨rfl, B13.out⟩
      · obtain ⟨fn, rfl⟩ : ∃ fn : Nat, fr = fn := ⟨fr.toNat, by omega⟩
        go_wp2_with fail
        refine HA.mono ?_
        rintro e w11 ⟨rfl, hb11⟩
        have B11 : Hid (Below w.heap.size w w11) := B10.out.trans (hb11.mono B10.out.size)
        have C11 : Hid (Sl w11 vc l) := C10.out.below hb11
        have A11 : Hid (Arr w11 G f) := A10.out.later hb11 A10.out.lt
        have HQ := refFirst_any f l SF.out fn long n w11 (by omega) (by omega) (by omega)
        clear HA hb11 B10 C10 A10
        go_wp2_with (refine wpList_load_arr_g (by first | rfl | (simp [Region.wanted, yielded]; done)) _ rfl G f rfl A11.out ?_)
        refine HQ.mono ?_
        rintro e w12 ⟨r2, rfl, hr2, hb12⟩
        have hrr : r2 = r := fitIs_unique hr2 FI.out
        subst hrr
        have B12 : Hid (Below w.heap.size w w12) := B11.out.trans (hb12.mono B11.out.size)
        have HE := sameL_any vc v l l w12 (C11.out.below hb12) (HS.out.below B12.out)
        rw [decide_eq_true (rfl : l = l)] at HE
        clear HQ hr2 hb12 B11 C11 A11
        go_wp2_with fail
        refine HE.mono ?_
        rintro e w13 ⟨rfl, hb13⟩
        have B13 : Hid (Below w.heap.size w w13) := B12.out.trans (hb13.mono B12.out.size)
        clear HE hb13
        go_wp2
        go_ret
        exact ⟨rfl, B13.out⟩

end Go.Proofs.Ytmcdgkdhdnfbfaa
