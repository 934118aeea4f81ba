/- SpanTakes, the walk: for every slice of steps and all numbers it returns true, and nothing that lay in memory turns. -/
import Derived.Test.YtmcdgkdhdnfbfaaSpans
import Derived.Test.YtmcdgkdhdnfbfaaSame
import Derived.Test.YtmcdgkdhdnfbfaaCopy
import Derived.Test.YtmcdgkdhdnfbfaaRefSteps
import Derived.Lib.AppendZeros
set_option linter.unusedSimpArgs false
set_option linter.unusedVariables false
namespace Go.Proofs.Ytmcdgkdhdnfbfaa
open Go.RowKit

theorem take_bad {l : List (Int × Int)} {fr to n d : Int} {w : World} {v : Value} {ok : Bool} (h : TakeAns l fr to n d w v ok) (hn : ¬ okArgs l fr to n) : ok = false ∧ Sl w v l := by
  rcases h with ⟨h0, _⟩ | ⟨_, h1, h2⟩
  · exact absurd h0 hn
  · exact ⟨h1, h2⟩

theorem says_in {f : List Int} {l : List (Int × Int)} (h : Says f l) (G : Good l) : InF f :=
  ⟨h.1, fun j hj => by rw [h.2 j hj]; exact G.val_bounds (by omega)⟩

theorem says_same {f : List Int} {l m : List (Int × Int)} (h1 : Says f l) (h2 : Says f m) (G1 : Good l) (G2 : Good m) : l = m :=
  same_profile G1 G2 fun t t0 t3 => by
    have a := h1.2 t.toNat (by omega)
    have b := h2.2 t.toNat (by omega)
    rw [show ((t.toNat : Nat) : Int) = t by omega] at a b
    rw [← a, ← b]

/-- what is taken and what the document's own answer takes are one -/
theorem take_less {l : List (Int × Int)} {f g : List Int} {fr to : Nat} {n d m : Int} {w : World} {v : Value} {ok ok2 : Bool} (hS : Says f l) (ha : okArgs l fr to n) (h : TakeAns l fr to n d w v ok) (hm : m = -d) (L : LessAns f fr to m g ok2) :
    ok2 = ok ∧ InF g ∧ ∃ r, Sl w v r ∧ Good r ∧ Says g r := by
  have G := goodB_iff.1 ha.1
  have h3 : (to : Int) ≤ 300 := ha.2.2.2.2
  rcases h with ⟨_, ⟨rfl, r, hs, hr⟩ | ⟨rfl, hs, s, s1, s2, s3⟩⟩ | ⟨hn, _⟩
  · obtain ⟨gl, ⟨rfl, e, _⟩ | ⟨rfl, _, j, j1, j2, j3⟩⟩ := L
    · have sy : Says g r := ⟨gl, fun t ht => by
        rw [e t ht, hS.2 t ht, hr.says t (by omega) (by omega)]
        by_cases c : fr ≤ t ∧ t < to
        · rw [if_pos c, if_pos (by omega)]; omega
        · rw [if_neg c, if_neg (by omega)]; omega⟩
      exact ⟨rfl, says_in sy hr.good, r, hs, hr.good, sy⟩
    · have := hr.fits j (by omega) (by omega)
      rw [hS.2 j (by omega)] at j3
      exact absurd ⟨by omega, by omega⟩ j3
  · obtain ⟨gl, ⟨rfl, e, k⟩ | ⟨rfl, rfl, _⟩⟩ := L
    · have := k s.toNat (by omega) (by omega)
      rw [hS.2 s.toNat (by omega), show ((s.toNat : Nat) : Int) = s by omega] at this
      exact absurd ⟨by omega, by omega⟩ s3
    · exact ⟨rfl, says_in hS G, l, hs, G, hS⟩
  · exact absurd ha hn

set_option maxHeartbeats 4000000 in
set_option maxRecDepth 100000 in
theorem spanTakes_any (v : Value) (l : List (Int × Int)) (fr to n : Int) (w : World) (hs : Sl w v l) :
    Calls Try.prog 4 #[v, .int .i64 fr, .int .i64 to, .int .i64 n] w fun e w' => e = .returned (.bool true) ∧ Below w.heap.size w w' := by
  obtain ⟨vc, w1, hrun, hc1, hb1⟩ := run_append_copy v l w hs 22
  have HR : Hid ((Builtin.append_ #[22, 22] 22 #[.slice none 0 0, v]).run Try.prog w = .ok vc w1) := hrun
  have HS : Hid (Sl w v l) := hs
  have B1 : Hid (Below w.heap.size w w1) := hb1
  have C1 : Hid (Sl w1 vc l) := hc1
  have HF := freeOf_any v l w1 (hs.below hb1)
  clear hrun hs hb1 hc1
  generalize hgb : goodB l = gb at *
  have GB : Hid (goodB l = gb) := hgb
  clear hgb
  go_enter Try.func4, Try.ntmps4
  go_wp2_with (at_builtin; refine Lib.wpList_append_run _ rfl _ _ 22 22 rfl _ _ rfl rfl _ _ HR.out ?_)
  refine HF.mono ?_
  rintro e w2 ⟨f, rfl, hf3, hsay, hb2⟩
  have B2 : Hid (Below w.heap.size w w2) := B1.out.trans (hb2.mono B1.out.size)
  have C2 : Hid (Sl w2 vc l) := C1.out.below hb2
  have HF3 : Hid (f.length = 300) := hf3
  have SY : Hid (gb = true → Says f l) := hsay
  clear HF hf3 hsay hb2 B1 C1
  go_wp2_with (first | (refine wpList_alloc_arr rfl rfl 10 rfl ?_; intro w3 hw3 hs3) | (refine wpList_store_arr rfl _ _ rfl w2.heap.size zero300 f rfl rfl hw3.out.1 HF3.out ?_; intro w4 hw4 hs4))
  have BD : Hid (Below w2.heap.size w2 w4) := hw3.out.2.trans (hw4.out.2.2 _ (Nat.le_refl _))
  have B4 : Hid (Below w.heap.size w w4) := B2.out.trans (BD.out.mono B2.out.size)
  have C4 : Hid (Sl w4 vc l) := C2.out.below BD.out
  have A4 : Hid (Arr w4 w2.heap.size f) := hw4.out.1
  have HT := take_any vc l fr to n w4 C4.out
  clear hw3 hs3 hw4 hs4 BD B2 C2
  generalize w2.heap.size = G at *
  refine HT.mono ?_
  rintro e w5 ⟨va, xa, rfl, hta, hb5⟩
  have B5 : Hid (Below w.heap.size w w5) := B4.out.trans (hb5.mono B4.out.size)
  have C5 : Hid (Sl w5 vc l) := C4.out.below hb5
  have A5 : Hid (Arr w5 G f) := A4.out.later hb5 A4.out.lt
  have TA : Hid (TakeAns l fr to n (-n) w5 va xa) := hta
  have HV := give_any vc l fr to n w5 C5.out
  clear HT hb5 hta B4 C4 A4
  go_wp2_with fail
  refine HV.mono ?_
  rintro e w6 ⟨vg, xg, rfl, htg, hb6⟩
  have B6 : Hid (Below w.heap.size w w6) := B5.out.trans (hb6.mono B5.out.size)
  have C6 : Hid (Sl w6 vc l) := C5.out.below hb6
  have A6 : Hid (Arr w6 G f) := A5.out.later hb6 A5.out.lt
  have GA : Hid (TakeAns l fr to n n w6 vg xg) := htg
  have BA6 : Hid (Below w5.heap.size w5 w6) := hb6
  have HM := sameL_any vc v l l w6 C6.out (HS.out.below B6.out)
  rw [decide_eq_true (rfl : l = l)] at HM
  clear HV hb6 htg B5 C5 A5 C6
  go_wp2_with fail
  refine HM.mono ?_
  rintro e w8 ⟨rfl, hb8⟩
  have B8 : Hid (Below w.heap.size w w8) := B6.out.trans (hb8.mono B6.out.size)
  have A8 : Hid (Arr w8 G f) := A6.out.later hb8 A6.out.lt
  have BV8 : Hid (Below w6.heap.size w6 w8) := hb8
  have HP := spansL_any w8
  clear HM hb8 B6 A6
  go_wp2_with fail
  refine HP.mono ?_
  rintro e w9 ⟨rfl, hb9⟩
  have B9 : Hid (Below w.heap.size w w9) := B8.out.trans (hb9.mono B8.out.size)
  have A9 : Hid (Arr w9 G f) := A8.out.later hb9 A8.out.lt
  have BVG : Hid (Below w6.heap.size w6 w9) := BV8.out.trans (hb9.mono BV8.out.size)
  have BVA : Hid (Below w5.heap.size w5 w9) := BA6.out.trans (BVG.out.mono BA6.out.size)
  clear HP hb9 B8 A8 BV8 BA6
  cases gb
  case false =>
    have NO : ¬ okArgs l fr to n := fun h => by have := h.1; rw [GB.out] at this; cases this
    obtain ⟨rfl, hsa⟩ := take_bad TA.out NO
    obtain ⟨rfl, hsb⟩ := take_bad GA.out NO
    have VG : Hid (Sl w6 vg l) := hsb
    have HE := sameL_any va v l l w9 (hsa.below BVA.out) (HS.out.below B9.out)
    rw [decide_eq_true (rfl : l = l)] at HE
    clear hsa hsb NO TA GA
    go_wp2_with fail
    refine HE.mono ?_
    rintro e w10 ⟨rfl, hb10⟩
    have B10 : Hid (Below w.heap.size w w10) := B9.out.trans (hb10.mono B9.out.size)
    have HE2 := sameL_any vg v l l w10 (VG.out.below (BVG.out.trans (hb10.mono BVG.out.size))) (HS.out.below B10.out)
    rw [decide_eq_true (rfl : l = l)] at HE2
    clear HE hb10
    go_wp2_with fail
    refine HE2.mono ?_
    rintro e w11 ⟨rfl, hb11⟩
    have B11 : Hid (Below w.heap.size w w11) := B10.out.trans (hb11.mono B10.out.size)
    clear HE2 hb11
    go_wp2
    go_ret
    exact ⟨rfl, B11.out⟩
  case true =>
    by_cases g1 : fr < 0
    · have NO : ¬ okArgs l fr to n := fun h => by have := h.2.2.1; omega
      obtain ⟨rfl, hsa⟩ := take_bad TA.out NO
      obtain ⟨rfl, hsb⟩ := take_bad GA.out NO
      have VG : Hid (Sl w6 vg l) := hsb
      have HE := sameL_any va v l l w9 (hsa.below BVA.out) (HS.out.below B9.out)
      rw [decide_eq_true (rfl : l = l)] at HE
      clear hsa hsb NO TA GA
      go_wp2_with fail
      refine HE.mono ?_
      rintro e w10 ⟨rfl, hb10⟩
      have B10 : Hid (Below w.heap.size w w10) := B9.out.trans (hb10.mono B9.out.size)
      have HE2 := sameL_any vg v l l w10 (VG.out.below (BVG.out.trans (hb10.mono BVG.out.size))) (HS.out.below B10.out)
      rw [decide_eq_true (rfl : l = l)] at HE2
      clear HE hb10
      go_wp2_with fail
      refine HE2.mono ?_
      rintro e w11 ⟨rfl, hb11⟩
      have B11 : Hid (Below w.heap.size w w11) := B10.out.trans (hb11.mono B10.out.size)
      clear HE2 hb11
      go_wp2
      go_ret
      exact ⟨rfl, B11.out⟩
    by_cases g2 : to < fr
    · have NO : ¬ okArgs l fr to n := fun h => by have := h.2.2.2.1; omega
      obtain ⟨rfl, hsa⟩ := take_bad TA.out NO
      obtain ⟨rfl, hsb⟩ := take_bad GA.out NO
      have VG : Hid (Sl w6 vg l) := hsb
      have HE := sameL_any va v l l w9 (hsa.below BVA.out) (HS.out.below B9.out)
      rw [decide_eq_true (rfl : l = l)] at HE
      clear hsa hsb NO TA GA
      go_wp2_with fail
      refine HE.mono ?_
      rintro e w10 ⟨rfl, hb10⟩
      have B10 : Hid (Below w.heap.size w w10) := B9.out.trans (hb10.mono B9.out.size)
      have HE2 := sameL_any vg v l l w10 (VG.out.below (BVG.out.trans (hb10.mono BVG.out.size))) (HS.out.below B10.out)
      rw [decide_eq_true (rfl : l = l)] at HE2
      clear HE hb10
      go_wp2_with fail
      refine HE2.mono ?_
      rintro e w11 ⟨rfl, hb11⟩
      have B11 : Hid (Below w.heap.size w w11) := B10.out.trans (hb11.mono B10.out.size)
      clear HE2 hb11
      go_wp2
      go_ret
      exact ⟨rfl, B11.out⟩
    by_cases g3 : 300 < to
    · have NO : ¬ okArgs l fr to n := fun h => by have := h.2.2.2.2; omega
      obtain ⟨rfl, hsa⟩ := take_bad TA.out NO
      obtain ⟨rfl, hsb⟩ := take_bad GA.out NO
      have VG : Hid (Sl w6 vg l) := hsb
      have HE := sameL_any va v l l w9 (hsa.below BVA.out) (HS.out.below B9.out)
      rw [decide_eq_true (rfl : l = l)] at HE
      clear hsa hsb NO TA GA
      go_wp2_with fail
      refine HE.mono ?_
      rintro e w10 ⟨rfl, hb10⟩
      have B10 : Hid (Below w.heap.size w w10) := B9.out.trans (hb10.mono B9.out.size)
      have HE2 := sameL_any vg v l l w10 (VG.out.below (BVG.out.trans (hb10.mono BVG.out.size))) (HS.out.below B10.out)
      rw [decide_eq_true (rfl : l = l)] at HE2
      clear HE hb10
      go_wp2_with fail
      refine HE2.mono ?_
      rintro e w11 ⟨rfl, hb11⟩
      have B11 : Hid (Below w.heap.size w w11) := B10.out.trans (hb11.mono B10.out.size)
      clear HE2 hb11
      go_wp2
      go_ret
      exact ⟨rfl, B11.out⟩
    by_cases g4 : n < 0
    · have NO : ¬ okArgs l fr to n := fun h => by have := of_decide_eq_true h.2.1; omega
      obtain ⟨rfl, hsa⟩ := take_bad TA.out NO
      obtain ⟨rfl, hsb⟩ := take_bad GA.out NO
      have VG : Hid (Sl w6 vg l) := hsb
      have HE := sameL_any va v l l w9 (hsa.below BVA.out) (HS.out.below B9.out)
      rw [decide_eq_true (rfl : l = l)] at HE
      clear hsa hsb NO TA GA
      go_wp2_with fail
      refine HE.mono ?_
      rintro e w10 ⟨rfl, hb10⟩
      have B10 : Hid (Below w.heap.size w w10) := B9.out.trans (hb10.mono B9.out.size)
      have HE2 := sameL_any vg v l l w10 (VG.out.below (BVG.out.trans (hb10.mono BVG.out.size))) (HS.out.below B10.out)
      rw [decide_eq_true (rfl : l = l)] at HE2
      clear HE hb10
      go_wp2_with fail
      refine HE2.mono ?_
      rintro e w11 ⟨rfl, hb11⟩
      have B11 : Hid (Below w.heap.size w w11) := B10.out.trans (hb11.mono B10.out.size)
      clear HE2 hb11
      go_wp2
      go_ret
      exact ⟨rfl, B11.out⟩
    by_cases g5 : 16 < n
    · have NO : ¬ okArgs l fr to n := fun h => by have := of_decide_eq_true h.2.1; omega
      obtain ⟨rfl, hsa⟩ := take_bad TA.out NO
      obtain ⟨rfl, hsb⟩ := take_bad GA.out NO
      have VG : Hid (Sl w6 vg l) := hsb
      have HE := sameL_any va v l l w9 (hsa.below BVA.out) (HS.out.below B9.out)
      rw [decide_eq_true (rfl : l = l)] at HE
      clear hsa hsb NO TA GA
      go_wp2_with fail
      refine HE.mono ?_
      rintro e w10 ⟨rfl, hb10⟩
      have B10 : Hid (Below w.heap.size w w10) := B9.out.trans (hb10.mono B9.out.size)
      have HE2 := sameL_any vg v l l w10 (VG.out.below (BVG.out.trans (hb10.mono BVG.out.size))) (HS.out.below B10.out)
      rw [decide_eq_true (rfl : l = l)] at HE2
      clear HE hb10
      go_wp2_with fail
      refine HE2.mono ?_
      rintro e w11 ⟨rfl, hb11⟩
      have B11 : Hid (Below w.heap.size w w11) := B10.out.trans (hb11.mono B10.out.size)
      clear HE2 hb11
      go_wp2
      go_ret
      exact ⟨rfl, B11.out⟩
    have SF : Hid (Says f l) := SY.out rfl
    have FI : Hid (InF f) := says_in SF.out (goodB_iff.1 GB.out)
    obtain ⟨fn, rfl⟩ : ∃ fn : Nat, fr = fn := ⟨fr.toNat, by omega⟩
    obtain ⟨tn, rfl⟩ : ∃ tn : Nat, to = tn := ⟨to.toNat, by omega⟩
    have OK : Hid (okArgs l fn tn n) := ⟨GB.out, decide_eq_true ⟨by omega, by omega⟩, by omega, by omega, by omega⟩
    have HL := refLess_any f FI.out fn tn n w9 (by omega) (by omega) (by omega) (by omega)
    clear SY
    go_wp2_with (refine wpList_load_arr rfl _ rfl G f rfl A9.out ?_)
    refine HL.mono ?_
    rintro e w10 ⟨ga, oka, rfl, hla, hb10⟩
    obtain ⟨hoa, hia, ra, hra, gra, sra⟩ := take_less SF.out OK.out TA.out (by omega) hla
    subst hoa
    have LA : Hid (ga.length = 300) := hla.1
    have B10 : Hid (Below w.heap.size w w10) := B9.out.trans (hb10.mono B9.out.size)
    have A10 : Hid (Arr w10 G f) := A9.out.later hb10 A9.out.lt
    have RA : Hid (Sl w10 va ra) := hra.below (BVA.out.trans (hb10.mono BVA.out.size))
    have IA : Hid (InF ga ∧ Good ra ∧ Says ga ra) := ⟨hia, gra, sra⟩
    have BG10 : Hid (Below w6.heap.size w6 w10) := BVG.out.trans (hb10.mono BVG.out.size)
    clear HL hla hb10 hia hra gra sra B9 A9 BVA BVG TA
    go_wp2_with (first | (refine wpList_alloc_arr rfl rfl 16 rfl ?_; intro w11 hw11 hs11) | (refine wpList_store_arr rfl _ _ rfl w10.heap.size zero300 ga rfl rfl hw11.out.1 LA.out ?_; intro w12 hw12 hs12; have BD : Hid (Below w10.heap.size w10 w12) := hw11.out.2.trans (hw12.out.2.2 _ (Nat.le_refl _)); have A12 : Hid (Arr w12 G f) := A10.out.later BD.out A10.out.lt) | (refine wpList_load_arr rfl _ rfl G f rfl A12.out ?_))
    have B12 : Hid (Below w.heap.size w w12) := B10.out.trans (BD.out.mono B10.out.size)
    have RA12 : Hid (Sl w12 va ra) := RA.out.below BD.out
    have G12 : Hid (Arr w12 w10.heap.size ga) := hw12.out.1
    have BG12 : Hid (Below w6.heap.size w6 w12) := BG10.out.trans (BD.out.mono BG10.out.size)
    have HL := refLess_any f FI.out fn tn (-n) w12 (by omega) (by omega) (by omega) (by omega)
    clear hw11 hs11 hw12 hs12 BD B10 A10 RA BG10
    generalize w10.heap.size = H at *
    refine HL.mono ?_
    rintro e w13 ⟨gg, okg, rfl, hlg, hb13⟩
    obtain ⟨hog, hig, rg, hrg, grg, srg⟩ := take_less SF.out OK.out GA.out rfl hlg
    subst hog
    have LG : Hid (gg.length = 300) := hlg.1
    have B13 : Hid (Below w.heap.size w w13) := B12.out.trans (hb13.mono B12.out.size)
    have RA13 : Hid (Sl w13 va ra) := RA12.out.below hb13
    have G13 : Hid (Arr w13 H ga) := G12.out.later hb13 G12.out.lt
    have RG13 : Hid (Sl w13 vg rg) := hrg.below (BG12.out.trans (hb13.mono BG12.out.size))
    have IG : Hid (InF gg ∧ Good rg ∧ Says gg rg) := ⟨hig, grg, srg⟩
    clear HL hlg hb13 hig hrg grg srg B12 A12 RA12 G12 BG12 GA
    go_wp2_with (first | (refine wpList_alloc_arr rfl rfl 18 rfl ?_; intro w14 hw14 hs14) | (refine wpList_store_arr rfl _ _ rfl w13.heap.size zero300 gg rfl rfl hw14.out.1 LG.out ?_; intro w15 hw15 hs15; have BD : Hid (Below w13.heap.size w13 w15) := hw14.out.2.trans (hw15.out.2.2 _ (Nat.le_refl _)); have G15 : Hid (Arr w15 H ga) := G13.out.later BD.out G13.out.lt) | (refine wpList_load_arr rfl _ rfl H ga rfl G15.out ?_))
    have B15 : Hid (Below w.heap.size w w15) := B13.out.trans (BD.out.mono B13.out.size)
    have RA15 : Hid (Sl w15 va ra) := RA13.out.below BD.out
    have RG15 : Hid (Sl w15 vg rg) := RG13.out.below BD.out
    have K15 : Hid (Arr w15 w13.heap.size gg) := hw15.out.1
    have HP := refSteps_any ga IA.out.1 w15
    clear hw14 hs14 hw15 hs15 BD B13 RA13 G13 RG13
    generalize w13.heap.size = K at *
    refine HP.mono ?_
    rintro e w16 ⟨vs, rs, rfl, hss, hgs, hsy, hb16⟩
    have hee : rs = ra := says_same hsy IA.out.2.2 hgs IA.out.2.1
    subst hee
    have B16 : Hid (Below w.heap.size w w16) := B15.out.trans (hb16.mono B15.out.size)
    have RG16 : Hid (Sl w16 vg rg) := RG15.out.below hb16
    have K16 : Hid (Arr w16 K gg) := K15.out.later hb16 K15.out.lt
    have HE := sameL_any va vs rs rs w16 (RA15.out.below hb16) hss
    rw [decide_eq_true (rfl : rs = rs)] at HE
    clear HP hss hgs hsy hb16 B15 RA15 RG15 K15 G15
    go_wp2_with fail
    refine HE.mono ?_
    rintro e w17 ⟨rfl, hb17⟩
    have B17 : Hid (Below w.heap.size w w17) := B16.out.trans (hb17.mono B16.out.size)
    have RG17 : Hid (Sl w17 vg rg) := RG16.out.below hb17
    have K17 : Hid (Arr w17 K gg) := K16.out.later hb17 K16.out.lt
    have HP := refSteps_any gg IG.out.1 w17
    clear HE hb17 B16 RG16 K16
    go_wp2_with (refine wpList_load_arr_g (by first | rfl | (simp [Region.wanted, yielded]; done)) _ rfl K gg rfl K17.out ?_)
    refine HP.mono ?_
    rintro e w18 ⟨vt, rt, rfl, hst, hgt, hyt, hb18⟩
    have hee2 : rt = rg := says_same hyt IG.out.2.2 hgt IG.out.2.1
    subst hee2
    have B18 : Hid (Below w.heap.size w w18) := B17.out.trans (hb18.mono B17.out.size)
    have HE := sameL_any vg vt rt rt w18 (RG17.out.below hb18) hst
    rw [decide_eq_true (rfl : rt = rt)] at HE
    clear HP hst hgt hyt hb18 B17 RG17 K17
    go_wp2_with fail
    refine HE.mono ?_
    rintro e w19 ⟨rfl, hb19⟩
    have B19 : Hid (Below w.heap.size w w19) := B18.out.trans (hb19.mono B18.out.size)
    clear HE hb19
    go_wp2
    go_ret
    exact ⟨rfl, B19.out⟩

end Go.Proofs.Ytmcdgkdhdnfbfaa
