/- Less and Steps of the document's own answer: so many fewer from one time to another one, and the profile of what is free time by time. -/
import Derived.Test.YtmcdgkdhdnfbfaaFreeOf
import Derived.Test.YtmcdgkdhdnfbfaaClone
set_option linter.unusedSimpArgs false
set_option linter.unusedVariables false
namespace Go.Proofs.Ytmcdgkdhdnfbfaa
open Go.RowKit

/-- how many there are at each time can be -/
def InF (f : List Int) : Prop := f.length = 300 ∧ ∀ j : Nat, j < 300 → 0 ≤ f.getD j 0 ∧ f.getD j 0 ≤ 16

/-- what Less answers -/
def LessAns (f : List Int) (fr to : Nat) (n : Int) (f2 : List Int) (ok : Bool) : Prop :=
  f2.length = 300 ∧ ((ok = true ∧ (∀ j : Nat, j < 300 → f2.getD j 0 = if fr ≤ j ∧ j < to then f.getD j 0 - n else f.getD j 0) ∧ ∀ j : Nat, fr ≤ j → j < to → 0 ≤ f.getD j 0 - n ∧ f.getD j 0 - n ≤ 16) ∨
    (ok = false ∧ f2 = f ∧ ∃ j : Nat, fr ≤ j ∧ j < to ∧ ¬ (0 ≤ f.getD j 0 - n ∧ f.getD j 0 - n ≤ 16)))

theorem getD_set (f : List Int) (k : Nat) (y : Int) (j : Nat) (hk : k < f.length) : (f.set k y).getD j 0 = if j = k then y else f.getD j 0 := by
  rw [List.getD_eq_getElem?_getD, List.getElem?_set]
  by_cases e : k = j
  · subst e; rw [if_pos rfl, if_pos hk, if_pos rfl]; rfl
  · rw [if_neg e, if_neg (by omega), ← List.getD_eq_getElem?_getD]

set_option maxHeartbeats 2000000 in
set_option maxRecDepth 100000 in
theorem refLess_any (f : List Int) (hf : InF f) (fr to : Nat) (n : Int) (w : World) (h1 : fr ≤ to) (h2 : to ≤ 300) (h3 : -16 ≤ n) (h4 : n ≤ 16) :
    Calls Try.prog 17 #[.agg (ic f).toArray, .int .i64 fr, .int .i64 to, .int .i64 n] w fun e w' => ∃ f2 ok, e = .returned (.tuple #[.agg (ic f2).toArray, .bool ok]) ∧ LessAns f fr to n f2 ok ∧ Below w.heap.size w w' := by
  have HF : Hid (InF f) := hf
  have B0 : Hid (Below w.heap.size w (w.alloc (.cells (ic f).toArray 24))) := (Below.refl _ w).alloc (Nat.le_refl _) _
  have A0 : Hid (Arr (w.alloc (.cells (ic f).toArray 24)) w.heap.size f) := ⟨hf.1, heap_alloc_new w _⟩
  have Z0 : Hid ((w.alloc (.cells (ic f).toArray 24)).heap.size = w.heap.size + 1) := by show _ = _; simp
  clear hf
  go_enter Try.func17, Try.ntmps17
  go_wp2_with (first | (refine wpList_alloc_arr rfl rfl 8 rfl ?_; intro w1 hw1 hs1; rw [Z0.out] at hw1 hs1; rw [Z0.out]; have B1 : Hid (Below w.heap.size w w1) := B0.out.trans (hw1.out.2.mono (by omega)); have A1 : Hid (Arr w1 w.heap.size f) := A0.out.later hw1.out.2 (by omega)) | (refine wpList_load_arr rfl _ rfl w.heap.size f rfl A1.out ?_) | (refine wpList_alloc_arr rfl rfl 10 rfl ?_; intro w2 hw2 hs2; rw [hs1] at hw2 hs2; rw [hs1]; have B2 : Hid (Below w.heap.size w w2) := B1.out.trans (hw2.out.2.mono (by omega)); have A2 : Hid (Arr w2 w.heap.size f) := A1.out.later hw2.out.2 (by omega); have R2 : Hid (Arr w2 (w.heap.size + 1) zero300) := hw1.out.1.later hw2.out.2 (by omega)) | (refine wpList_store_arr rfl _ _ rfl (w.heap.size + 1 + 1) zero300 f rfl rfl hw2.out.1 HF.out.1 ?_; intro w3 hw3 hs3))
  have B3 : Hid (Below w.heap.size w w3) := B2.out.trans (hw3.out.2.2 _ (by omega))
  have A3 : Hid (Arr w3 w.heap.size f) := ⟨A2.out.1, (hw3.out.2.1 _ (by omega)).trans A2.out.2⟩
  have R3 : Hid (Arr w3 (w.heap.size + 1) zero300) := ⟨R2.out.1, (hw3.out.2.1 _ (by omega)).trans R2.out.2⟩
  have G3 : Hid (Arr w3 (w.heap.size + 2) f) := hw3.out.1
  clear hw1 hw2 hw3 hs1 hs2 hs3 B0 B1 B2 A0 A1 A2 R2 Z0
  rw [show w.heap.size + 1 + 1 = w.heap.size + 2 from rfl]
  go_loopg [11] 300 (fun kx s11 wr => ∃ (t : Nat) (gg : List Int), s11 = .int .i64 t ∧ fr ≤ t ∧ t ≤ to ∧ 300 - t ≤ kx ∧ Hid (Below w.heap.size w wr) ∧ Hid (Arr wr w.heap.size f) ∧ Hid (Arr wr (w.heap.size + 1) zero300) ∧ Hid (Arr wr (w.heap.size + 2) gg) ∧ Hid (∀ j : Nat, j < 300 → gg.getD j 0 = if fr ≤ j ∧ j < t then f.getD j 0 - n else f.getD j 0) ∧ Hid (∀ j : Nat, fr ≤ j → j < t → 0 ≤ f.getD j 0 - n ∧ f.getD j 0 - n ≤ 16))
  case atStart => exact ⟨fr, f, rfl, Nat.le_refl _, h1, by omega, B3, A3, R3, G3, (fun j hj => by rw [if_neg (by omega)] : ∀ j : Nat, j < 300 → f.getD j 0 = if fr ≤ j ∧ j < fr then f.getD j 0 - n else f.getD j 0), (fun j a b => by omega : ∀ j : Nat, fr ≤ j → j < fr → 0 ≤ f.getD j 0 - n ∧ f.getD j 0 - n ≤ 16)⟩
  case round =>
    clear B3 A3 R3 G3
    obtain ⟨t, gg, rfl, ht1, ht2, hg, S1, A1, R1, G1, E1, N1⟩ := hrel
    by_cases hlt : t < to
    · have q0 := G1.out.cell t (by omega)
      have q1 := G1.out.frozen t
      have hx : gg.getD t 0 = f.getD t 0 := by rw [E1.out t (by omega), if_neg (by omega)]
      rw [hx] at q0
      clear hx
      obtain ⟨x0, x1⟩ := HF.out.2 t (by omega)
      generalize hxx : f.getD t 0 = x at *
      have XX : Hid (f.getD t 0 = x) := hxx
      clear hxx
      have HW := fun W => refWithin_any (x - n) W
      generalize hr : inB (x - n) = r at HW
      have RR : Hid (inB (x - n) = r) := hr
      clear hr
      have ht3 : (t : Int) < (to : Int) := by omega
      have ht4 : (t : Int) < 300 := by omega
      have ht5 : (0 : Int) ≤ (t : Int) := by omega
      have S2 : Hid (Below w.heap.size w (wr.setCell ⟨w.heap.size + 2, t, none⟩ (.int .i64 (x - n)))) := S1.out.setCell (by show w.heap.size ≤ w.heap.size + 2; omega) _
      have A2 : Hid (Arr (wr.setCell ⟨w.heap.size + 2, t, none⟩ (.int .i64 (x - n))) w.heap.size f) := A1.out.other _ _ (by omega)
      have R2 : Hid (Arr (wr.setCell ⟨w.heap.size + 2, t, none⟩ (.int .i64 (x - n))) (w.heap.size + 1) zero300) := R1.out.other _ _ (by omega)
      have G2 : Hid (Arr (wr.setCell ⟨w.heap.size + 2, t, none⟩ (.int .i64 (x - n))) (w.heap.size + 2) (gg.set t (x - n))) := G1.out.set _ _
      go_wp2_with fail
      refine (HW _).mono ?_
      rintro e w5 ⟨rfl, rfl⟩
      cases r
      case false =>
        go_wp2_with (first | (refine wpList_load_arr rfl _ rfl w.heap.size f rfl A2.out ?_) | (refine wpList_store_arr rfl _ _ rfl (w.heap.size + 1) zero300 f rfl rfl R2.out HF.out.1 ?_; intro w9 hw9 hs9))
        refine bodyPost_ret (v := .tuple #[.agg (ic f).toArray, .bool false]) (results_arr Try.results17 _ _ (w.heap.size + 1) f rfl hw9.out.1) rfl ?_
        exact ⟨f, false, rfl, ⟨HF.out.1, Or.inr ⟨rfl, rfl, t, ht1, hlt, by rw [XX.out]; exact of_decide_eq_false RR.out⟩⟩, S2.out.trans (hw9.out.2.2 _ (by omega))⟩
      case true =>
        go_wp2
        go_roundg (300 - (t + 1))
        case measure => omega
        case rel =>
          have E2 : Hid (∀ j : Nat, j < 300 → (gg.set t (x - n)).getD j 0 = if fr ≤ j ∧ j < t + 1 then f.getD j 0 - n else f.getD j 0) := fun j hj => by
            rw [getD_set _ _ _ _ (by rw [G1.out.1]; omega)]
            by_cases e : j = t
            · subst e; rw [if_pos rfl, if_pos ⟨ht1, by omega⟩, XX.out]
            · rw [if_neg e, E1.out j hj]
              by_cases c : fr ≤ j ∧ j < t
              · rw [if_pos c, if_pos ⟨c.1, by omega⟩]
              · rw [if_neg c, if_neg (by omega)]
          have N2 : Hid (∀ j : Nat, fr ≤ j → j < t + 1 → 0 ≤ f.getD j 0 - n ∧ f.getD j 0 - n ≤ 16) := fun j a b => by
            by_cases e : j = t
            · rw [e, XX.out]; exact of_decide_eq_true RR.out
            · exact N1.out j a (by omega)
          exact ⟨t + 1, gg.set t (x - n), by go_num, by omega, by omega, Nat.le_refl _, S2, A2, R2, G2, E2, N2⟩
    · have hte : t = to := by omega
      have LA : Hid (LessAns f fr to n gg true) := by
        have a := E1.out
        have b := N1.out
        rw [hte] at a b
        exact ⟨G1.out.1, Or.inl ⟨rfl, a, b⟩⟩
      clear hte
      have ht3 : ¬ ((t : Int) < (to : Int)) := by omega
      have GL : Hid (gg.length = 300) := G1.out.1
      go_wp2_with (first | (refine wpList_load_arr rfl _ rfl (w.heap.size + 2) gg rfl G1.out ?_) | (refine wpList_store_arr rfl _ _ rfl (w.heap.size + 1) zero300 gg rfl rfl R1.out GL.out ?_; intro w9 hw9 hs9))
      refine bodyPost_ret (v := .tuple #[.agg (ic gg).toArray, .bool true]) (results_arr Try.results17 _ _ (w.heap.size + 1) gg rfl hw9.out.1) rfl ?_
      have BL : Below w.heap.size w w9 := S1.out.trans (hw9.out.2.2 _ (by omega))
      first | exact ⟨gg, true, rfl, LA.out, BL⟩ | exact ⟨gg, Or.inr ⟨rfl, LA.out, BL⟩⟩

/-- what the steps made of the first t times are -/
structure SInv (f : List Int) (t : Nat) (r : List (Int × Int)) : Prop where
  nil : t = 0 → r = []
  pos : 0 < t → 0 < r.length
  first : 0 < t → (sAt r 0).1 = 0
  lt : ∀ j, j < r.length → (sAt r j).1 < t
  rng : ∀ j, j < r.length → 0 ≤ (sAt r j).2 ∧ (sAt r j).2 ≤ 16
  up : ∀ j, j + 1 < r.length → (sAt r j).1 < (sAt r (j + 1)).1
  other : ∀ j, j + 1 < r.length → (sAt r (j + 1)).2 ≠ (sAt r j).2
  last : 0 < t → (sAt r (r.length - 1)).2 = f.getD (t - 1) 0
  says : ∀ s : Nat, s < t → val r s = f.getD s 0

theorem SInv.start (f : List Int) : SInv f 0 [] :=
  ⟨fun _ => rfl, fun h => by omega, fun h => by omega, fun j h => by simp at h, fun j h => by simp at h, fun j h => by simp at h, fun j h => by simp at h, fun h => by omega, fun s h => by omega⟩

theorem sAt_snoc (r : List (Int × Int)) (x : Int × Int) (j : Nat) : sAt (r ++ [x]) j = if j < r.length then sAt r j else if j = r.length then x else (0, 0) := by
  unfold sAt
  simp only [List.getD_eq_getElem?_getD, List.getElem?_append]
  by_cases h1 : j < r.length
  · rw [if_pos h1, if_pos h1]
  · rw [if_neg h1, if_neg h1]
    by_cases h2 : j = r.length
    · subst h2; simp
    · rw [if_neg h2]
      obtain ⟨k, hk⟩ : ∃ k, j - r.length = k + 1 := ⟨j - r.length - 1, by omega⟩
      rw [hk]; rfl

theorem SInv.snoc {f : List Int} {t : Nat} {r : List (Int × Int)} (I : SInv f t r) (hf : InF f) (ht : t < 300) (h : t = 0 ∨ f.getD t 0 ≠ f.getD (t - 1) 0) : SInv f (t + 1) (r ++ [((t : Int), f.getD t 0)]) := by
  have hl : (r ++ [((t : Int), f.getD t 0)]).length = r.length + 1 := by simp
  have lt : ∀ j, j < r.length → sAt (r ++ [((t : Int), f.getD t 0)]) j = sAt r j := fun j hj => by rw [sAt_snoc, if_pos hj]
  have eq : sAt (r ++ [((t : Int), f.getD t 0)]) r.length = ((t : Int), f.getD t 0) := by rw [sAt_snoc, if_neg (by omega), if_pos rfl]
  refine ⟨fun h => by omega, fun _ => by omega, fun _ => ?_, fun j hj => ?_, fun j hj => ?_, fun j hj => ?_, fun j hj => ?_, fun _ => ?_, fun s hs => ?_⟩
  · by_cases h0 : 0 < t
    · rw [lt 0 (I.pos h0)]; exact I.first h0
    · have e : t = 0 := by omega
      have hr := I.nil e
      subst hr
      subst e
      rfl
  · rw [hl] at hj
    by_cases e : j < r.length
    · rw [lt j e]; have := I.lt j e; omega
    · rw [show j = r.length by omega, eq]; show (t : Int) < ((t + 1 : Nat) : Int); omega
  · rw [hl] at hj
    by_cases e : j < r.length
    · rw [lt j e]; exact I.rng j e
    · rw [show j = r.length by omega, eq]; exact hf.2 t ht
  · rw [hl] at hj
    by_cases e : j + 1 < r.length
    · rw [lt j (by omega), lt (j + 1) e]; exact I.up j e
    · rw [show j + 1 = r.length by omega, eq, lt j (by omega)]; exact I.lt j (by omega)
  · rw [hl] at hj
    by_cases e : j + 1 < r.length
    · rw [lt j (by omega), lt (j + 1) e]; exact I.other j e
    · have ej : j + 1 = r.length := by omega
      have t0 : 0 < t := by
        apply Nat.pos_of_ne_zero
        intro h0
        have := I.nil h0
        subst this
        simp at ej
      rw [ej, eq, lt j (by omega)]
      have := I.last t0
      rw [show r.length - 1 = j by omega] at this
      rw [this]
      rcases h with h | h
      · omega
      · exact h
  · rw [hl, Nat.add_sub_cancel, eq]; rfl
  · unfold val
    rw [valFrom_append]
    show (if (t : Int) ≤ (s : Int) then f.getD t 0 else val r s) = f.getD s 0
    by_cases e : t ≤ s
    · have : s = t := by omega
      subst this
      rw [if_pos (Int.le_refl _)]
    · rw [if_neg (by omega)]; exact I.says s (by omega)

theorem SInv.rise {f : List Int} {t : Nat} {r : List (Int × Int)} (I : SInv f t r) : Rise r := rise_of I.up

theorem SInv.skip {f : List Int} {t : Nat} {r : List (Int × Int)} (I : SInv f t r) (h0 : 0 < t) (h : f.getD t 0 = f.getD (t - 1) 0) : SInv f (t + 1) r := by
  have hp := I.pos h0
  refine ⟨fun h => by omega, fun _ => hp, fun _ => I.first h0, fun j hj => by have := I.lt j hj; omega, I.rng, I.up, I.other, fun _ => by rw [Nat.add_sub_cancel, h]; exact I.last h0, fun s hs => ?_⟩
  by_cases e : s < t
  · exact I.says s e
  · have es : s = t := by omega
    subst es
    rw [val_at I.rise (j := r.length - 1) (by omega) (by have := I.lt (r.length - 1) (by omega); omega) (fun hh => by omega), I.last h0, h]

theorem SInv.done {f : List Int} {r : List (Int × Int)} (I : SInv f 300 r) (hf : InF f) : Good r ∧ Says f r :=
  ⟨⟨I.pos (by omega), I.first (by omega), fun j hj => I.lt j hj, fun j hj => (I.rng j hj).1, fun j hj => (I.rng j hj).2, I.up, I.other⟩, hf.1, fun t ht => (I.says t ht).symm⟩

theorem run_index_arr (f : List Int) (hf : f.length = 300) (t : Nat) (ht : t < 300) (w : World) : (Instr.index 24 (.agg (ic f).toArray) (.int .i64 t)).run Try.prog w = .ok (.int .i64 (f.getD t 0)) w := by
  have h1 : (t : Int) < 300 := by omega
  have hg := ic_get f t (by omega)
  have u3 := Try.isAgg3
  have z3 := Try.sizeOf3
  simp [Instr.index, asIntOf, run_underlying Try.underlying24, h1, z3, part, u3, hg]
  intro h
  omega

end Go.Proofs.Ytmcdgkdhdnfbfaa
