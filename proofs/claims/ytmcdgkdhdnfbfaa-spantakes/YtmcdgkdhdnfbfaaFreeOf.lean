/- FreeOf of the document's own answer: for every slice of steps, whether it is a profile, and if it is one what is free at each time. -/
import Derived.Test.YtmcdgkdhdnfbfaaArr
import Derived.Test.YtmcdgkdhdnfbfaaMath2
import Derived.BigQuiet
set_option linter.unusedSimpArgs false
set_option linter.unusedVariables false
namespace Go.Proofs.Ytmcdgkdhdnfbfaa
open Go.RowKit

theorem refWithin_any (n : Int) (w : World) :
    Calls Try.prog 21 #[.int .i64 n, .int .i64 0, .int .i64 16] w fun e w' => e = .returned (.bool (inB n)) ∧ w' = w := by
  unfold inB
  by_cases h1 : 0 ≤ n <;> by_cases h2 : n ≤ 16
  all_goals
    go_enter Try.func21, Try.ntmps21
    go_wp2
    go_ret
    exact ⟨by simp [h1, h2], rfl⟩

/-- f says at each time what l says -/
def Says (f : List Int) (l : List (Int × Int)) : Prop := f.length = 300 ∧ ∀ t : Nat, t < 300 → f.getD t 0 = val l t

theorem says_zero : Says zero300 [] := ⟨List.length_replicate, fun t ht => by
  have h : zero300.getD t 0 = 0 := by
    unfold zero300
    rw [List.getD_eq_getElem?_getD, List.getElem?_replicate]
    split <;> rfl
  rw [h]; rfl⟩

theorem val_take_succ {l : List (Int × Int)} {k : Nat} (hk : k < l.length) (t : Int) : val (l.take (k + 1)) t = if (sAt l k).1 ≤ t then (sAt l k).2 else val (l.take k) t := by
  unfold val
  rw [take_snoc hk, valFrom_append]
  rfl

theorem nonneg_to {l : List (Int × Int)} (h0 : (sAt l 0).1 = 0) : ∀ k, k < l.length → (∀ j, j < k + 1 → okAt l j = true) → 0 ≤ (sAt l k).1 := by
  intro k
  induction k with
  | zero => intro _ _; omega
  | succ k ih =>
    intro hk h
    have a := ih (by omega) (fun j hj => h j (by omega))
    have b := h (k + 1) (by omega)
    simp [okAt, fol] at b
    have := b.2.1
    omega

set_option maxHeartbeats 1600000 in
set_option maxRecDepth 100000 in
theorem freeOf_some (b off cap : Nat) (l : List (Int × Int)) (w : World) (hr : Rd w b off l) (hn : l.length ≤ 8796093022208) (h0 : 0 < l.length) :
    Calls Try.prog 7 #[.slice (some ⟨b, off, none⟩) l.length cap] w fun e w' => ∃ f, e = .returned (.tuple #[.agg (ic f).toArray, .bool (goodB l)]) ∧ f.length = 300 ∧ (goodB l = true → Says f l) ∧ Below w.heap.size w w' := by
  have HR : Hid (Rd w b off l) := hr
  clear hr
  have hz : ((l.length : Int) == 0) = false := beq_eq_false_iff_ne.2 (by omega)
  generalize hy : sAt l 0 = y
  have Y : Hid (sAt l 0 = y) := hy
  clear hy
  by_cases hy0 : y.1 = 0
  · have hne : (y.1 != 0) = false := by simp [hy0]
    have HY : Hid (y.1 = 0) := hy0
    clear hy0
    go_enter Try.func7, Try.ntmps7
    go_wp2_with (first | (refine wpList_alloc_arr rfl rfl 2 rfl ?_; intro w1 hw1 hs1) | (refine wpList_alloc_arr rfl rfl 4 rfl ?_; intro w2 hw2 hs2; rw [hs1] at hw2 hs2; rw [hs1]; have B2 : Hid (Below w.heap.size w w2) := hw1.out.2.trans (hw2.out.2.mono (by omega)); have A2 : Hid (Arr w2 w.heap.size zero300) := hw1.out.1.later hw2.out.2 (by omega); have A4 : Hid (Arr w2 (w.heap.size + 1) zero300) := hw2.out.1; have c0 : w2.cell? ⟨b, off, none⟩ = some (.int .i64 y.1) := by { have := ((HR.out.below B2.out) 0 h0).1; rw [Y.out] at this; simpa using this }; clear hw1 hw2))
    -- LOOP
    clear c0
    go_loopg [21] l.length (fun kx s21 wr => ∃ (k : Nat) (f : List Int), s21 = .int .i64 k ∧ k ≤ l.length ∧ l.length - k ≤ kx ∧ Hid (Below w.heap.size w wr) ∧ Hid (Arr wr w.heap.size zero300) ∧ Hid (Arr wr (w.heap.size + 1) f) ∧ Hid (Says f (l.take k)) ∧ Hid (∀ j, j < k → okAt l j = true))
    case atStart => exact ⟨0, zero300, rfl, Nat.zero_le _, by omega, B2, A2, A4, says_zero, (fun j hj => absurd hj (Nat.not_lt_zero _) : ∀ j, j < 0 → okAt l j = true)⟩
    case round =>
      clear B2 A2 A4 hs1 hs2
      obtain ⟨k, f, rfl, hk, hg, S1, A2, A4, HF, I⟩ := hrel
      by_cases hlt : k < l.length
      · obtain ⟨c0, c1⟩ := (HR.out.below S1.out) k hlt
        generalize hx : sAt l k = x at c0 c1
        have X : Hid (sAt l k = x) := hx
        clear hx
        have HW := fun W => refWithin_any x.2 W
        generalize hiw : inB x.2 = iw at HW
        have IW : Hid (inB x.2 = iw) := hiw
        clear hiw
        obtain ⟨n0, n1⟩ := new_pair wr (.int .i64 x.1) (.int .i64 x.2) 31
        have SW : Hid (Below w.heap.size w (wr.alloc (.cells #[.int .i64 x.1, .int .i64 x.2] 31))) := S1.out.trans ((Below.refl _ _).alloc S1.out.size _)
        have A2w : Hid (Arr (wr.alloc (.cells #[.int .i64 x.1, .int .i64 x.2] 31)) w.heap.size zero300) := A2.out.later ((Below.refl _ wr).alloc (Nat.le_refl _) _) A2.out.lt
        have A4w : Hid (Arr (wr.alloc (.cells #[.int .i64 x.1, .int .i64 x.2] 31)) (w.heap.size + 1) f) := A4.out.later ((Below.refl _ wr).alloc (Nat.le_refl _) _) A4.out.lt
        have hgs : w.heap.size + 1 < wr.heap.size := A4.out.lt
        have hk0' : (0 : Int) ≤ (k : Int) := by omega
        have hk1' : (k : Int) < (l.length : Int) := by omega
        cases iw
        case false =>
          have HB : Hid (goodB l = false) := goodB_false_at k hlt (by unfold okAt; rw [X.out, IW.out]; simp)
          go_wp2_with fail
          generalize wr.alloc (.cells #[.int .i64 x.1, .int .i64 x.2] 31) = W1 at *
          go_quiet ((go_at_call 21; exact Calls.quiet_of_same (HW _)))
          go_wp2_with (first | (refine wpList_load_arr rfl _ rfl (w.heap.size + 1) f rfl (A4w.out.later (below_drewN (Below.refl _ _) nq) (by have := A4w.out.lt; omega)) ?_) | (refine wpList_store_arr rfl _ _ rfl w.heap.size zero300 f rfl rfl (A2w.out.later (below_drewN (Below.refl (w.heap.size + 2) _) nq) (by omega)) HF.out.1 ?_; intro w9 hw9 hs9))
          refine bodyPost_ret (v := .tuple #[.agg (ic f).toArray, .bool false]) (results_arr Try.results7 _ _ w.heap.size f rfl hw9.out.1) rfl ?_
          exact ⟨f, by rw [HB.out], HF.out.1, fun h => (by rw [HB.out] at h; cases h), (below_drewN SW.out nq).trans (hw9.out.2.2 _ (Nat.le_refl _))⟩
        case true =>
          by_cases h3 : 300 ≤ x.1
          · have HB : Hid (goodB l = false) := goodB_false_at k hlt (by unfold okAt; rw [X.out, IW.out]; simp; omega)
            go_wp2_with fail
            generalize wr.alloc (.cells #[.int .i64 x.1, .int .i64 x.2] 31) = W1 at *
            go_quiet ((go_at_call 21; exact Calls.quiet_of_same (HW _)))
            go_wp2_with (first | (refine wpList_load_arr rfl _ rfl (w.heap.size + 1) f rfl (A4w.out.later (below_drewN (Below.refl _ _) nq) (by have := A4w.out.lt; omega)) ?_) | (refine wpList_store_arr rfl _ _ rfl w.heap.size zero300 f rfl rfl (A2w.out.later (below_drewN (Below.refl (w.heap.size + 2) _) nq) (by omega)) HF.out.1 ?_; intro w9 hw9 hs9))
            refine bodyPost_ret (v := .tuple #[.agg (ic f).toArray, .bool false]) (results_arr Try.results7 _ _ w.heap.size f rfl hw9.out.1) rfl ?_
            exact ⟨f, by rw [HB.out], HF.out.1, fun h => (by rw [HB.out] at h; cases h), (below_drewN SW.out nq).trans (hw9.out.2.2 _ (Nat.le_refl _))⟩
          · have hd3 : decide (300 ≤ x.1) = false := decide_eq_false h3
            by_cases hk0 : k ≤ 0
            · have hd : decide ((0 : Int) < (k : Int)) = false := decide_eq_false (by omega)
              have hd2 : decide (0 < k) = false := decide_eq_false (by omega)
              have OKA : Hid (okAt l k = true) := by
                show okAt l k = true
                unfold okAt; rw [X.out, IW.out]
                have : k = 0 := by omega
                simp [this]; omega
              go_wp2_with fail
              generalize wr.alloc (.cells #[.int .i64 x.1, .int .i64 x.2] 31) = W1 at *
              go_quiet ((go_at_call 21; exact Calls.quiet_of_same (HW _)))
              have hx0 : 0 ≤ x.1 := by
                have := nonneg_to (by rw [Y.out]; exact HY.out) (k) hlt (fun j hj => by
                  by_cases e : j = k
                  · rw [e]; exact OKA.out
                  · exact I.out j (by omega))
                rw [X.out] at this
                exact this
              obtain ⟨xn, hxn⟩ : ∃ xn : Nat, x.1 = xn := ⟨x.1.toNat, by omega⟩
              have XN : Hid (x.1 = xn) := hxn
              have hx3 : xn < 300 := by omega
              have SX : Hid (Below w.heap.size w (W1.drewN nq)) := below_drewN SW.out nq
              have A2x : Hid (Arr (W1.drewN nq) w.heap.size zero300) := A2w.out
              have A4x : Hid (Arr (W1.drewN nq) (w.heap.size + 1) f) := A4w.out
              have m0 : (W1.drewN nq).cell? ⟨wr.heap.size, 0, none⟩ = some (.int .i64 x.1) := n0
              have m1 : (W1.drewN nq).cell? ⟨wr.heap.size, 1, none⟩ = some (.int .i64 x.2) := n1
              go_wp2_with fail
              have M1 : Hid ((W1.drewN nq).cell? ⟨wr.heap.size, 1, none⟩ = some (.int .i64 x.2)) := m1
              clear m0 m1 n0 n1 hxn S1 A2 A4 SW A2w A4w
              generalize W1.drewN nq = W2 at *
              generalize wr.heap.size = gs at *
              rw [XN.out]
              go_loopg [7] 300 (fun kx s7 wi => ∃ (tn : Nat) (f' : List Int), s7 = .int .i64 tn ∧ xn ≤ tn ∧ tn ≤ 300 ∧ 300 - tn ≤ kx ∧ Hid (Below w.heap.size w wi) ∧ Hid (Arr wi w.heap.size zero300) ∧ Hid (Arr wi (w.heap.size + 1) f') ∧ Hid (wi.cell? ⟨gs, 1, none⟩ = some (.int .i64 x.2)) ∧ Hid (∀ j : Nat, j < 300 → f'.getD j 0 = if xn ≤ j ∧ j < tn then x.2 else f.getD j 0))
              case atStart => exact ⟨xn, f, rfl, Nat.le_refl _, by omega, by omega, SX, A2x, A4x, M1, (fun j hj => by rw [if_neg (by omega)] : ∀ j : Nat, j < 300 → f.getD j 0 = if xn ≤ j ∧ j < xn then x.2 else f.getD j 0)⟩
              case round =>
                clear SX A2x A4x M1
                obtain ⟨tn, f', rfl, ht1, ht2, hg2, S3, A2i, A4i, Mi, Fi⟩ := hrel
                by_cases htl : tn < 300
                · have q0 := A4i.out.cell tn htl
                  have q1 := A4i.out.frozen tn
                  have mi := Mi.out
                  generalize f'.getD tn 0 = oldv at q0
                  have ht3 : (tn : Int) < 300 := by omega
                  have ht4 : (0 : Int) ≤ (tn : Int) := by omega
                  go_wp2
                  go_roundg (300 - (tn + 1))
                  case measure => omega
                  case rel =>
                    have F2 : Hid (∀ j : Nat, j < 300 → (f'.set tn x.2).getD j 0 = if xn ≤ j ∧ j < tn + 1 then x.2 else f.getD j 0) := fun j hj => by
                      rw [List.getD_eq_getElem?_getD, List.getElem?_set]
                      by_cases e : tn = j
                      · subst e
                        rw [if_pos rfl, if_pos (by rw [A4i.out.1]; exact htl), if_pos ⟨ht1, by omega⟩]; rfl
                      · rw [if_neg e, ← List.getD_eq_getElem?_getD, Fi.out j hj]
                        by_cases c : xn ≤ j ∧ j < tn
                        · rw [if_pos c, if_pos ⟨c.1, by omega⟩]
                        · rw [if_neg c, if_neg (by omega)]
                    have M2 : Hid ((wr.setCell ⟨w.heap.size + 1, tn, none⟩ (.int .i64 x.2)).cell? ⟨gs, 1, none⟩ = some (.int .i64 x.2)) := by
                      show (wr.setCell ⟨w.heap.size + 1, tn, none⟩ (.int .i64 x.2)).cell? ⟨gs, 1, none⟩ = some (.int .i64 x.2)
                      rw [World.cell?_setCell_other _ _ _ _ (by first | (simp; done) | (simp; omega))]
                      exact Mi.out
                    exact ⟨tn + 1, f'.set tn x.2, by go_num, by omega, by omega, Nat.le_refl _, S3.out.setCell (by show w.heap.size ≤ w.heap.size + 1; omega) _, A2i.out.other _ _ (by omega), A4i.out.set _ _, M2, F2⟩
                · have FSAY : Hid (Says f' (l.take (k + 1))) := ⟨A4i.out.1, fun t ht => by
                    rw [val_take_succ hlt, X.out, Fi.out t ht, XN.out, ← HF.out.2 t ht]
                    by_cases c : (xn : Int) ≤ (t : Int)
                    · rw [if_pos c, if_pos (by omega)]
                    · rw [if_neg c, if_neg (by omega)]⟩
                  have IS : Hid (∀ j, j < k + 1 → okAt l j = true) := fun j hj => by
                    by_cases e : j = k
                    · rw [e]; exact OKA.out
                    · exact I.out j (by omega)
                  have ht5 : ¬ ((tn : Int) < 300) := by omega
                  have HT : Hid (¬ tn < 300 ∧ tn ≤ 300) := ⟨htl, ht2⟩
                  clear htl ht1 ht2 hg2 hx3
                  go_wp2
                  go_roundg (l.length - (k + 1))
                  case measure => omega
                  case rel => exact ⟨k + 1, f', by go_num, by omega, Nat.le_refl _, S3, A2i, A4i, FSAY, IS⟩
            · obtain ⟨m, rfl⟩ : ∃ m, k = m + 1 := ⟨k - 1, by omega⟩
              obtain ⟨d0, d1⟩ := (HR.out.below S1.out) m (by omega)
              have e0 := cell_old d0 (.cells #[.int .i64 x.1, .int .i64 x.2] 31)
              have e1 := cell_old d1 (.cells #[.int .i64 x.1, .int .i64 x.2] 31)
              clear d0 d1
              generalize hzz : sAt l m = z at e0 e1
              have Z : Hid (sAt l m = z) := hzz
              clear hzz
              have hm1 : (0 : Int) ≤ (m : Int) := by omega
              have hm2 : (m : Int) < (l.length : Int) := by omega
              have hm3 : (0 : Int) < (m : Int) + 1 := by omega
              by_cases g1 : x.1 ≤ z.1
              · have HB : Hid (goodB l = false) := goodB_false_at (m + 1) hlt (by unfold okAt fol; rw [Nat.add_sub_cancel, X.out, Z.out]; simp; omega)
                go_wp2_with fail
                generalize wr.alloc (.cells #[.int .i64 x.1, .int .i64 x.2] 31) = W1 at *
                go_quiet ((go_at_call 21; exact Calls.quiet_of_same (HW _)))
                go_wp2_with (first | (refine wpList_load_arr rfl _ rfl (w.heap.size + 1) f rfl (A4w.out.later (below_drewN (Below.refl _ _) nq) (by have := A4w.out.lt; omega)) ?_) | (refine wpList_store_arr rfl _ _ rfl w.heap.size zero300 f rfl rfl (A2w.out.later (below_drewN (Below.refl (w.heap.size + 2) _) nq) (by omega)) HF.out.1 ?_; intro w9 hw9 hs9))
                refine bodyPost_ret (v := .tuple #[.agg (ic f).toArray, .bool false]) (results_arr Try.results7 _ _ w.heap.size f rfl hw9.out.1) rfl ?_
                exact ⟨f, by rw [HB.out], HF.out.1, fun h => (by rw [HB.out] at h; cases h), (below_drewN SW.out nq).trans (hw9.out.2.2 _ (Nat.le_refl _))⟩
              · have hd4 : decide (x.1 ≤ z.1) = false := decide_eq_false g1
                by_cases g2 : x.2 = z.2
                · have gb : (x.2 == z.2) = true := beq_iff_eq.2 g2
                  have HB : Hid (goodB l = false) := goodB_false_at (m + 1) hlt (by unfold okAt fol; rw [Nat.add_sub_cancel, X.out, Z.out]; simp [g2])
                  clear g2
                  go_wp2_with fail
                  generalize wr.alloc (.cells #[.int .i64 x.1, .int .i64 x.2] 31) = W1 at *
                  go_quiet ((go_at_call 21; exact Calls.quiet_of_same (HW _)))
                  go_wp2_with (first | (refine wpList_load_arr rfl _ rfl (w.heap.size + 1) f rfl (A4w.out.later (below_drewN (Below.refl _ _) nq) (by have := A4w.out.lt; omega)) ?_) | (refine wpList_store_arr rfl _ _ rfl w.heap.size zero300 f rfl rfl (A2w.out.later (below_drewN (Below.refl (w.heap.size + 2) _) nq) (by omega)) HF.out.1 ?_; intro w9 hw9 hs9))
                  refine bodyPost_ret (v := .tuple #[.agg (ic f).toArray, .bool false]) (results_arr Try.results7 _ _ w.heap.size f rfl hw9.out.1) rfl ?_
                  exact ⟨f, by rw [HB.out], HF.out.1, fun h => (by rw [HB.out] at h; cases h), (below_drewN SW.out nq).trans (hw9.out.2.2 _ (Nat.le_refl _))⟩
                · have gb : (x.2 == z.2) = false := beq_eq_false_iff_ne.2 g2
                  have OKA : Hid (okAt l (m + 1) = true) := by
                    show okAt l (m + 1) = true
                    unfold okAt fol; rw [Nat.add_sub_cancel, X.out, Z.out, IW.out]
                    simp [g2]; omega
                  clear g2
                  go_wp2_with fail
                  generalize wr.alloc (.cells #[.int .i64 x.1, .int .i64 x.2] 31) = W1 at *
                  go_quiet ((go_at_call 21; exact Calls.quiet_of_same (HW _)))
                  have hx0 : 0 ≤ x.1 := by
                    have := nonneg_to (by rw [Y.out]; exact HY.out) (m + 1) hlt (fun j hj => by
                      by_cases e : j = m + 1
                      · rw [e]; exact OKA.out
                      · exact I.out j (by omega))
                    rw [X.out] at this
                    exact this
                  obtain ⟨xn, hxn⟩ : ∃ xn : Nat, x.1 = xn := ⟨x.1.toNat, by omega⟩
                  have XN : Hid (x.1 = xn) := hxn
                  have hx3 : xn < 300 := by omega
                  have SX : Hid (Below w.heap.size w (W1.drewN nq)) := below_drewN SW.out nq
                  have A2x : Hid (Arr (W1.drewN nq) w.heap.size zero300) := A2w.out
                  have A4x : Hid (Arr (W1.drewN nq) (w.heap.size + 1) f) := A4w.out
                  have m0 : (W1.drewN nq).cell? ⟨wr.heap.size, 0, none⟩ = some (.int .i64 x.1) := n0
                  have m1 : (W1.drewN nq).cell? ⟨wr.heap.size, 1, none⟩ = some (.int .i64 x.2) := n1
                  go_wp2_with fail
                  have M1 : Hid ((W1.drewN nq).cell? ⟨wr.heap.size, 1, none⟩ = some (.int .i64 x.2)) := m1
                  clear m0 m1 n0 n1 hxn S1 A2 A4 SW A2w A4w
                  generalize W1.drewN nq = W2 at *
                  generalize wr.heap.size = gs at *
                  rw [XN.out]
                  go_loopg [7] 300 (fun kx s7 wi => ∃ (tn : Nat) (f' : List Int), s7 = .int .i64 tn ∧ xn ≤ tn ∧ tn ≤ 300 ∧ 300 - tn ≤ kx ∧ Hid (Below w.heap.size w wi) ∧ Hid (Arr wi w.heap.size zero300) ∧ Hid (Arr wi (w.heap.size + 1) f') ∧ Hid (wi.cell? ⟨gs, 1, none⟩ = some (.int .i64 x.2)) ∧ Hid (∀ j : Nat, j < 300 → f'.getD j 0 = if xn ≤ j ∧ j < tn then x.2 else f.getD j 0))
                  case atStart => exact ⟨xn, f, rfl, Nat.le_refl _, by omega, by omega, SX, A2x, A4x, M1, (fun j hj => by rw [if_neg (by omega)] : ∀ j : Nat, j < 300 → f.getD j 0 = if xn ≤ j ∧ j < xn then x.2 else f.getD j 0)⟩
                  case round =>
                    clear SX A2x A4x M1
                    obtain ⟨tn, f', rfl, ht1, ht2, hg2, S3, A2i, A4i, Mi, Fi⟩ := hrel
                    by_cases htl : tn < 300
                    · have q0 := A4i.out.cell tn htl
                      have q1 := A4i.out.frozen tn
                      have mi := Mi.out
                      generalize f'.getD tn 0 = oldv at q0
                      have ht3 : (tn : Int) < 300 := by omega
                      have ht4 : (0 : Int) ≤ (tn : Int) := by omega
                      go_wp2
                      go_roundg (300 - (tn + 1))
                      case measure => omega
                      case rel =>
                        have F2 : Hid (∀ j : Nat, j < 300 → (f'.set tn x.2).getD j 0 = if xn ≤ j ∧ j < tn + 1 then x.2 else f.getD j 0) := fun j hj => by
                          rw [List.getD_eq_getElem?_getD, List.getElem?_set]
                          by_cases e : tn = j
                          · subst e
                            rw [if_pos rfl, if_pos (by rw [A4i.out.1]; exact htl), if_pos ⟨ht1, by omega⟩]; rfl
                          · rw [if_neg e, ← List.getD_eq_getElem?_getD, Fi.out j hj]
                            by_cases c : xn ≤ j ∧ j < tn
                            · rw [if_pos c, if_pos ⟨c.1, by omega⟩]
                            · rw [if_neg c, if_neg (by omega)]
                        have M2 : Hid ((wr.setCell ⟨w.heap.size + 1, tn, none⟩ (.int .i64 x.2)).cell? ⟨gs, 1, none⟩ = some (.int .i64 x.2)) := by
                          show (wr.setCell ⟨w.heap.size + 1, tn, none⟩ (.int .i64 x.2)).cell? ⟨gs, 1, none⟩ = some (.int .i64 x.2)
                          rw [World.cell?_setCell_other _ _ _ _ (by first | (simp; done) | (simp; omega))]
                          exact Mi.out
                        exact ⟨tn + 1, f'.set tn x.2, by go_num, by omega, by omega, Nat.le_refl _, S3.out.setCell (by show w.heap.size ≤ w.heap.size + 1; omega) _, A2i.out.other _ _ (by omega), A4i.out.set _ _, M2, F2⟩
                    · have FSAY : Hid (Says f' (l.take (m + 1 + 1))) := ⟨A4i.out.1, fun t ht => by
                        rw [val_take_succ hlt, X.out, Fi.out t ht, XN.out, ← HF.out.2 t ht]
                        by_cases c : (xn : Int) ≤ (t : Int)
                        · rw [if_pos c, if_pos (by omega)]
                        · rw [if_neg c, if_neg (by omega)]⟩
                      have IS : Hid (∀ j, j < m + 1 + 1 → okAt l j = true) := fun j hj => by
                        by_cases e : j = m + 1
                        · rw [e]; exact OKA.out
                        · exact I.out j (by omega)
                      have ht5 : ¬ ((tn : Int) < 300) := by omega
                      have HT : Hid (¬ tn < 300 ∧ tn ≤ 300) := ⟨htl, ht2⟩
                      clear htl ht1 ht2 hg2 hx3
                      go_wp2
                      go_roundg (l.length - (m + 1 + 1))
                      case measure => omega
                      case rel => exact ⟨m + 1 + 1, f', by go_num, by omega, Nat.le_refl _, S3, A2i, A4i, FSAY, IS⟩
      · have GT : Hid (goodB l = true) := by
          show goodB l = true
          unfold goodB; exact decide_eq_true ⟨h0, by rw [Y.out]; exact HY.out, fun j hj => I.out j (by omega)⟩
        have SF : Hid (Says f l) := by
          have := HF.out
          rw [List.take_of_length_le (by omega)] at this
          exact this
        go_wp2_with (first | (refine wpList_load_arr rfl _ rfl (w.heap.size + 1) f rfl A4.out ?_) | (refine wpList_store_arr rfl _ _ rfl w.heap.size zero300 f rfl rfl A2.out HF.out.1 ?_; intro w9 hw9 hs9))
        refine bodyPost_ret (v := .tuple #[.agg (ic f).toArray, .bool true]) (results_arr Try.results7 _ _ w.heap.size f rfl hw9.out.1) rfl ?_
        exact ⟨f, by rw [GT.out], HF.out.1, fun _ => SF.out, S1.out.trans (hw9.out.2.2 _ (Nat.le_refl _))⟩
  · have hne : (y.1 != 0) = true := by simp [hy0]
    have hG : Hid (goodB l = false) := by
      show goodB l = false
      unfold goodB; exact decide_eq_false fun ⟨_, h, _⟩ => hy0 (by rw [Y.out] at h; exact h)
    clear hy0
    go_enter Try.func7, Try.ntmps7
    go_wp2_with (first | (refine wpList_alloc_arr rfl rfl 2 rfl ?_; intro w1 hw1 hs1) | (refine wpList_alloc_arr rfl rfl 4 rfl ?_; intro w2 hw2 hs2; rw [hs1] at hw2 hs2; rw [hs1]; have B2 : Hid (Below w.heap.size w w2) := hw1.out.2.trans (hw2.out.2.mono (by omega)); have A2 : Hid (Arr w2 w.heap.size zero300) := hw1.out.1.later hw2.out.2 (by omega); have A4 : Hid (Arr w2 (w.heap.size + 1) zero300) := hw2.out.1; have c0 : w2.cell? ⟨b, off, none⟩ = some (.int .i64 y.1) := by { have := ((HR.out.below B2.out) 0 h0).1; rw [Y.out] at this; simpa using this }; clear hw1 hw2) | (refine wpList_load_arr rfl _ rfl (w.heap.size + 1) zero300 rfl A4.out ?_) | (refine wpList_store_arr rfl _ _ rfl w.heap.size zero300 zero300 rfl rfl A2.out A2.out.1 ?_; intro w9 hw9 hs9))
    refine bodyPost_ret (v := .tuple #[.agg (ic zero300).toArray, .bool false]) (results_arr Try.results7 _ _ w.heap.size zero300 rfl hw9.out.1) rfl ?_
    exact ⟨zero300, by rw [hG.out], hw9.out.1.1, fun h => (by rw [hG.out] at h; cases h), B2.out.trans (hw9.out.2.2 _ (Nat.le_refl _))⟩

set_option maxHeartbeats 1600000 in
set_option maxRecDepth 100000 in
theorem freeOf_none (a0 : Option Addr) (cap : Nat) (w : World) :
    Calls Try.prog 7 #[.slice a0 0 cap] w fun e w' => ∃ f, e = .returned (.tuple #[.agg (ic f).toArray, .bool false]) ∧ f.length = 300 ∧ Below w.heap.size w w' := by
  go_enter Try.func7, Try.ntmps7
  go_wp2_with (first | (refine wpList_alloc_arr rfl rfl 2 rfl ?_; intro w1 hw1 hs1) | (refine wpList_alloc_arr rfl rfl 4 rfl ?_; intro w2 hw2 hs2; rw [hs1] at hw2 hs2; rw [hs1]; have B2 : Hid (Below w.heap.size w w2) := hw1.out.2.trans (hw2.out.2.mono (by omega)); have A2 : Hid (Arr w2 w.heap.size zero300) := hw1.out.1.later hw2.out.2 (by omega); have A4 : Hid (Arr w2 (w.heap.size + 1) zero300) := hw2.out.1; clear hw1 hw2) | (refine wpList_load_arr rfl _ rfl (w.heap.size + 1) zero300 rfl A4.out ?_) | (refine wpList_store_arr rfl _ _ rfl w.heap.size zero300 zero300 rfl rfl A2.out A2.out.1 ?_; intro w9 hw9 hs9))
  refine bodyPost_ret (v := .tuple #[.agg (ic zero300).toArray, .bool false]) (results_arr Try.results7 _ _ w.heap.size zero300 rfl hw9.out.1) rfl ?_
  exact ⟨zero300, rfl, hw9.out.1.1, B2.out.trans (hw9.out.2.2 _ (Nat.le_refl _))⟩

theorem freeOf_any (v : Value) (l : List (Int × Int)) (w : World) (hs : Sl w v l) :
    Calls Try.prog 7 #[v] w fun e w' => ∃ f, e = .returned (.tuple #[.agg (ic f).toArray, .bool (goodB l)]) ∧ f.length = 300 ∧ (goodB l = true → Says f l) ∧ Below w.heap.size w w' := by
  obtain ⟨hn, a, cap, rfl, h1⟩ := hs
  by_cases h0 : 0 < l.length
  · rcases h1 with rfl | ⟨b, off, rfl, hr⟩
    · simp at h0
    · exact freeOf_some b off cap l w hr hn h0
  · have hl : l.length = 0 := by omega
    have hg : goodB l = false := by unfold goodB; exact decide_eq_false fun h => h0 h.1
    rw [hl]
    refine (freeOf_none a cap w).mono ?_
    rintro e w' ⟨f, rfl, h2, h3⟩
    exact ⟨f, by rw [hg], h2, fun h => (by rw [hg] at h; cases h), h3⟩

end Go.Proofs.Ytmcdgkdhdnfbfaa
