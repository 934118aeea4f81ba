/- Texts of this claim, in one: RIsOrd. -/
import Derived.Deep.RegionHeld
import Derived.Test.YtcmdoeledmkfmabDoorXRWords
import Derived.Test.YtcmdoeledmkfmabDoorQL
import Derived.Test.YtcmdoeledmkfmabDoorQ3
/- Whether an order may be told: IsOrder of the document's own answer: P4.1. -/
set_option linter.unusedSimpArgs false
set_option linter.unusedVariables false
namespace Go.Proofs.YtcmdoeledmkfmabDoor
open Go.RowKit


theorem index_last (k : Nat) (hk : k < 15) (x : World) : (Instr.index 9 (.string ⟨(refWord k).toArray⟩) (.int .i64 ((refWord k).length - 1 : Int))).run Tryd.prog x = .ok (.int .u8 (48 + (cntO k : Nat) : Int)) x := by
  obtain rfl | rfl | rfl | rfl | rfl | rfl | rfl | rfl | rfl | rfl | rfl | rfl | rfl | rfl | rfl : k = 0 ∨ k = 1 ∨ k = 2 ∨ k = 3 ∨ k = 4 ∨ k = 5 ∨ k = 6 ∨ k = 7 ∨ k = 8 ∨ k = 9 ∨ k = 10 ∨ k = 11 ∨ k = 12 ∨ k = 13 ∨ k = 14 := by omega
  all_goals kernel_rfl

/-- the first j numbers are near enough: in the document's own words -/
theorem near_ref {c i : Nat} {n : Int} : (-(farOf c i) ≤ n ∧ n ≤ farOf c i) ↔ ((-1073741824 ≤ n ∧ n ≤ 1073741824) ∧ (c ≤ i → n = 0)) := by
  unfold farOf
  split <;> constructor <;> intro h <;> omega

/-- the memory behind an order in a box -/
def IOM (w : World) (z : Nat) (o : Ord) (W : World) : Prop := LOB W z o ∧ AS W ∧ Below z w W
theorem IOM.later {w W W' : World} {z : Nat} {o : Ord} (h : IOM w z o W) (hb : Below W.heap.size W W') : IOM w z o W' := ⟨h.1.later hb h.1.lt, h.2.1.later hb, h.2.2.trans (hb.mono (by have := h.1.lt; omega))⟩

set_option maxHeartbeats 4000000 in
set_option maxRecDepth 100000 in
theorem refIsOrder_any (o : Ord) (w : World) (hA : AS w) :
    Calls Tryd.prog 10 #[.agg #[.int .i64 o.kd, .int .i64 o.a, .int .i64 o.b, .int .i64 o.c]] w fun e w' => e = .returned (.bool (goodOB o)) ∧ Below w.heap.size w w' := by
  have hb0 : Below w.heap.size w (w.alloc (.cells #[.int .i64 o.kd, .int .i64 o.a, .int .i64 o.b, .int .i64 o.c] 23)) := (Below.refl _ w).alloc (Nat.le_refl _) _
  have M0 : Hid (IOM w w.heap.size o (w.alloc (.cells #[.int .i64 o.kd, .int .i64 o.a, .int .i64 o.b, .int .i64 o.c] 23))) := ⟨LOB.new w o, hA.later hb0, hb0⟩
  have HI := fun n lo hi W => refWithin3 n lo hi W
  have HW := fun W h => words_any W h
  clear hb0 hA
  by_cases k0 : 1 ≤ o.kd ∧ o.kd ≤ 14
  case neg =>
    have N : Hid (goodOB o = false) := goodOB_no fun h => k0 h.1
    have hin : inR o.kd 1 14 = false := by unfold inR; exact decide_eq_false k0
    obtain ⟨kd, a, b, c⟩ := o
    simp only at hin
    clear k0
    go_enter Tryd.func10, Tryd.ntmps10
    go_wp2_with fail
    refine (HI _ _ _ _).mono ?_
    rintro e w' ⟨rfl, hw⟩
    subst hw
    rw [hin]
    go_wp2_with fail
    go_ret
    exact ⟨ret_bool N.out.symm, M0.out.2.2⟩
  have hin : inR o.kd 1 14 = true := by unfold inR; exact decide_eq_true k0
  obtain ⟨kd, a, b, c⟩ := o
  simp only at hin k0
  obtain ⟨k, rfl⟩ : ∃ k : Nat, kd = (k : Int) + 1 := ⟨(kd - 1).toNat, by omega⟩
  have hk : k < 14 := by omega
  have hkd : ((k : Int) + 1).toNat = k + 1 := by omega
  generalize hz : w.heap.size = z at *
  go_enter Tryd.func10, Tryd.ntmps10
  go_wp2_with fail
  refine (HI _ _ _ _).mono ?_
  rintro e w' ⟨rfl, hw⟩
  subst hw
  rw [hin]
  go_upto_region 3 with fail
  generalize (w.alloc (.cells #[.int .i64 ((k : Int) + 1), .int .i64 a, .int .i64 b, .int .i64 c] 23)) = W1 at *
  have M1 : Hid (IOM w z ⟨(k : Int) + 1, a, b, c⟩ W1.drew) := M0.out.later (Below.refl _ _).drew
  have hwk : IntKind.i64.wrap (k : Int) = (k : Int) := by rw [IntKind.wrap_i64]; omega
  have hkn : ¬ ((14 : Int) ≤ (k : Int)) := by omega
  clear M0 hin
  refine wp_region_held_drew (S := fun W => Hid (IOM w z ⟨(k : Int) + 1, a, b, c⟩ W)) (by kernel_rfl) M1 (fun hHeld => ?_)
  refine wpAnyH_take (i := 1) (oi := { dst := some 13, op := Go.Op.fieldAddr 23 (Go.Operand.tmp 1) 0, type := 0, pos := "ref.go:314", after := #[], guard := none }) (v := ?_) rfl (by kernel_rfl) (by kernel_rfl) (by kernel_rfl) (fun _ _ _ h => h) (Or.inl ⟨by rfl, ?_⟩) hHeld ?_
  rotate_left
  · (intro w hSw; first | (go_simp; done) | (go_simp; with_reducible rfl))
  simp only [Act.put, List.setIfInBounds_toArray, List.set_cons_zero, List.set_cons_succ]
  refine wpAnyH_take (i := 2) (oi := { dst := some 14, op := Go.Op.load 3 (Go.Operand.tmp 13), type := 3, pos := "ref.go:314", after := #[{ on := 1, ground := Go.Ground.data }], guard := none }) (v := .int .i64 ((k : Int) + 1)) rfl (by kernel_rfl) (by kernel_rfl) (by kernel_rfl) (fun _ _ _ h => h) (Or.inl ⟨by rfl, by intro w hSw; have q := hSw.out.1.cells.1; go_simp⟩) hHeld ?_
  simp only [Act.put, List.setIfInBounds_toArray, List.set_cons_zero, List.set_cons_succ]
  refine wpAnyH_take (i := 3) (oi := { dst := some 15, op := Go.Op.binOp Go.BinOp.sub 3 (Go.Operand.tmp 14) (Go.Operand.const (Go.Value.int Go.IntKind.i64 1)) 3, type := 3, pos := "ref.go:314", after := #[{ on := 2, ground := Go.Ground.data }], guard := none }) (v := .int .i64 (k : Int)) rfl (by kernel_rfl) (by kernel_rfl) (by kernel_rfl) (fun _ _ _ h => h) (Or.inl ⟨by rfl, by intro w hSw; go_simp⟩) hHeld ?_
  simp only [Act.put, List.setIfInBounds_toArray, List.set_cons_zero, List.set_cons_succ]
  refine wpAnyH_ready (rs := [0]) (by kernel_rfl) (by simp) ?_
  refine AllReadyH.cons rfl (fun K hK => ?_) AllReadyH.nil
  go_simp
  refine (HW _ hHeld.out.2.1).mono ?_
  rintro e w2 ⟨g, rfl, hr, hb2⟩
  have M2 : Hid (IOM w z ⟨(k : Int) + 1, a, b, c⟩ w2) := hHeld.out.later hb2
  have hq := hr.refAt hk
  clear hr hb2 HW hHeld M1
  go_wp2_with fail
  refine hK.out _ _ M2 (fun hHeld => ?_)
  clear hK K
  refine wpAnyH_take (i := 4) (oi := { dst := some 16, op := Go.Op.indexAddr 37 (Go.Operand.tmp 12) (Go.Operand.tmp 15), type := 0, pos := "ref.go:314", after := #[{ on := 0, ground := Go.Ground.data }, { on := 3, ground := Go.Ground.data }], guard := none }) (v := .pointer (some ⟨g, k, none⟩)) rfl (by kernel_rfl) (by kernel_rfl) (by kernel_rfl) (fun _ _ _ h => h) (Or.inl ⟨by rfl, by intro w hSw; go_simp⟩) hHeld ?_
  simp only [Act.put, List.setIfInBounds_toArray, List.set_cons_zero, List.set_cons_succ]
  refine wpAnyH_ready (rs := [5]) (by kernel_rfl) (by simp) ?_
  refine AllReadyH.cons rfl (fun K hK => ?_) AllReadyH.nil
  go_simp
  refine hK.out _ _ M2 (fun hHeld => ?_)
  clear hK K
  refine wpAnyH_take (i := 6) (oi := { dst := some 3, op := Go.Op.assign (Go.Operand.tmp 17), type := 9, pos := "ref.go:314", after := #[{ on := 5, ground := Go.Ground.data }, { on := 0, ground := Go.Ground.chain }, { on := 0, ground := Go.Ground.phase }, { on := 1, ground := Go.Ground.phase }, { on := 2, ground := Go.Ground.phase }, { on := 3, ground := Go.Ground.phase }, { on := 4, ground := Go.Ground.phase }, { on := 5, ground := Go.Ground.phase }], guard := none }) (v := ?_) rfl (by kernel_rfl) (by kernel_rfl) (by kernel_rfl) (fun _ _ _ h => h) (Or.inl ⟨by rfl, ?_⟩) hHeld ?_
  rotate_left
  · (intro w hSw; first | (go_simp; done) | (go_simp; with_reducible rfl))
  simp only [Act.put, List.setIfInBounds_toArray, List.set_cons_zero, List.set_cons_succ]
  refine wpAnyH_done (by kernel_rfl) ?_ _
  clear hHeld hq hwk hkn
  obtain ⟨c0, c1, c2, c3⟩ := M2.out.1.cells
  simp only at c0 c1 c2 c3
  have hil := index_last (k + 1) (by omega)
  have hl2 : 2 ≤ ((refWord (k + 1)).length : Int) := by rw [refWord_len]; omega
  have hl8 : ((refWord (k + 1)).length : Int) ≤ 8 := by have := word_len (k + 1) (by omega); rw [refWord_len]; omega
  have hcl := cntO_le (k + 1)
  have HC : Hid (∀ (i : Nat) (n : Int), (numsO ⟨(k : Int) + 1, a, b, c⟩)[i]? = some n → ((-(farOf (cntO (k + 1)) i) ≤ n ∧ n ≤ farOf (cntO (k + 1)) i) ↔ ((-1073741824 ≤ n ∧ n ≤ 1073741824) ∧ (cntO (k + 1) ≤ i → n = 0)))) := fun i n _ => near_ref
  generalize refWord (k + 1) = rw at *
  generalize hcn : cntO (k + 1) = cn at *
  have B3 : Hid (RdK cInt (w2.alloc (.cells #[.int .i64 a, .int .i64 b, .int .i64 c] 3)) w2.heap.size 0 [a, b, c] ∧ Below z w (w2.alloc (.cells #[.int .i64 a, .int .i64 b, .int .i64 c] 3))) := by
    refine ⟨fun j u hu => ?_, M2.out.2.2.alloc (by have := M2.out.1.lt; omega) _⟩
    rw [Nat.zero_add, cell_of_row _ _ _ _ _ _ (heap_alloc_new w2 _), List.getElem?_toArray]
    exact hu
  go_upto_region 6 with fail
  clear c0 c1 c2 c3 hil hl2 hl8
  generalize (w2.alloc (.cells #[.int .i64 a, .int .i64 b, .int .i64 c] 3)) = W3 at *
  generalize w2.heap.size = g3 at *
  have HK : Hid (1 ≤ (k : Int) + 1 ∧ (k : Int) + 1 ≤ 14) := ⟨by omega, by omega⟩
  have hkc : cntO ((k : Int) + 1).toNat = cn := by rw [hkd]; exact hcn
  have HKC : Hid (cntO ((k : Int) + 1).toNat = cn) := hkc
  clear hkc hcn hkd M2
  go_wp2_with fail
  go_loop [6, 7, 34] (fun s6 s7 s34 => ∃ j : Nat, j ≤ 3 ∧ s34 = .int .i64 j ∧ Hid (NearTo ⟨(k : Int) + 1, a, b, c⟩ j)) (fun _ _ s34 => 3 - (intOf s34).toNat)
  case atStart => exact ⟨0, by omega, rfl, fun i n h => absurd h (Nat.not_lt_zero _)⟩
  case round =>
    obtain ⟨j, hj, rfl, J⟩ := hrel
    by_cases hj3 : j < 3
    · obtain ⟨n, hn⟩ : ∃ n, ([a, b, c] : List Int)[j]? = some n := ⟨([a, b, c] : List Int)[j]'hj3, List.getElem?_eq_getElem hj3⟩
      have hc : W3.cell? ⟨g3, j, none⟩ = some (.int .i64 n) := by
        have := B3.out.1.at encInt hn (i := 0) rfl
        simpa using this
      have NN : Hid ((numsO ⟨(k : Int) + 1, a, b, c⟩)[j]? = some n) := hn
      have hji : (j : Int) < 3 := by omega
      have NJ : Hid ((-(farOf cn j) ≤ n ∧ n ≤ farOf cn j) → NearTo ⟨(k : Int) + 1, a, b, c⟩ (j + 1)) := fun h => near_succ J.out NN.out (by simp only [HKC.out]; exact h)
      have NO : Hid (¬ (-(farOf cn j) ≤ n ∧ n ≤ farOf cn j) → goodOB ⟨(k : Int) + 1, a, b, c⟩ = false) := fun h => goodOB_no fun hg => h (by
        have := (goodO_iff HK.out).1 hg j n hj3 NN.out
        simp only [HKC.out] at this
        exact this)
      have NC := HC.out j n NN.out
      clear hn J NN
      by_cases hin : -1073741824 ≤ n ∧ n ≤ 1073741824
      case neg =>
        have N : Hid (goodOB ⟨(k : Int) + 1, a, b, c⟩ = false) := NO.out fun h => hin (NC.1 h).1
        have hi : inR n (-1073741824) 1073741824 = false := decide_eq_false hin
        clear NC NO NJ hin
        go_wp2_with fail
        refine (HI _ _ _ _).mono ?_
        rintro e w' ⟨rfl, hw⟩
        subst hw
        rw [hi]
        go_wp2_with fail
        go_ret
        exact ⟨ret_bool N.out.symm, B3.out.2⟩
      have hi : inR n (-1073741824) 1073741824 = true := decide_eq_true hin
      by_cases hcj : cn ≤ j
      · have hci : ((cn : Nat) : Int) ≤ (j : Int) := by omega
        by_cases hn0 : n = 0
        · have J2 : Hid (NearTo ⟨(k : Int) + 1, a, b, c⟩ (j + 1)) := NJ.out (NC.2 ⟨hin, fun _ => hn0⟩)
          subst hn0
          clear NC NO NJ hin
          go_wp2_with fail
          refine (HI _ _ _ _).mono ?_
          rintro e w' ⟨rfl, hw⟩
          subst hw
          rw [hi]
          go_wp2_with fail
          go_round
          case rel => exact ⟨j + 1, by omega, by go_num, J2⟩
          case measure => simp [intOf]; omega
        · have N : Hid (goodOB ⟨(k : Int) + 1, a, b, c⟩ = false) := NO.out fun h => hn0 ((NC.1 h).2 hcj)
          have hnb : (n != 0) = true := by simp [hn0]
          clear NC NO NJ hin
          go_wp2_with fail
          refine (HI _ _ _ _).mono ?_
          rintro e w' ⟨rfl, hw⟩
          subst hw
          rw [hi]
          go_wp2_with fail
          go_ret
          exact ⟨ret_bool N.out.symm, B3.out.2⟩
      · have hci : ¬ (((cn : Nat) : Int) ≤ (j : Int)) := by omega
        have J2 : Hid (NearTo ⟨(k : Int) + 1, a, b, c⟩ (j + 1)) := NJ.out (NC.2 ⟨hin, fun h => absurd h hcj⟩)
        clear NC NO NJ hin
        go_wp2_with fail
        refine (HI _ _ _ _).mono ?_
        rintro e w' ⟨rfl, hw⟩
        subst hw
        rw [hi]
        go_wp2_with fail
        go_round
        case rel => exact ⟨j + 1, by omega, by go_num, J2⟩
        case measure => simp [intOf]; omega
    · obtain rfl : j = 3 := by omega
      have N : Hid (goodOB ⟨(k : Int) + 1, a, b, c⟩ = true) := goodOB_iff.2 ((goodO_iff HK.out).2 J.out)
      go_wp2_with fail
      go_ret
      exact ⟨ret_bool N.out.symm, B3.out.2⟩

end Go.Proofs.YtcmdoeledmkfmabDoor
