import Derived.BigQuiet
import Derived.Laws.StructEq
import Derived.Test.YtcmdoeledmkfmabGreatDoorQ2
import Derived.Test.YtcmdoeledmkfmabGreatDoorQ3
import Derived.Test.YtcmdoeledmkfmabGreatDoorQ1
set_option linter.unusedSimpArgs false
set_option linter.unusedVariables false
namespace Go.Proofs.YtcmdoeledmkfmabGreatDoor
open Go.RowKit
def neB (x y : Int × Int) : Bool := !(x.1 == y.1 && x.2 == y.2)
theorem neB_true {x y : Int × Int} (h : ¬ x = y) : neB x y = true := by
  unfold neB
  by_cases e1 : x.1 = y.1
  · have e2 : ¬ x.2 = y.2 := fun e2 => h (Prod.ext e1 e2)
    simp [e2]
  · simp [e1]
theorem neqStep (x y : Int × Int) (w : World) : (binOp .neq 97 (.agg #[.int .i64 x.1, .int .i64 x.2]) (.agg #[.int .i64 y.1, .int .i64 y.2])).run Tryz.prog w = .ok (.bool (neB x y)) w := by
  have u3 := Tryz.underlying3
  have a3 := Tryz.isAgg3
  have z3 := Tryz.sizeOf3
  have hS : Tryz.prog.underlying 97 = some (.struct (Tryz.prog.fieldsOf 97)) := by kernel_rfl
  have hp : Tryz.prog.stoodInHeld 97 = false := by kernel_rfl
  unfold neB
  rw [run_neq_struct, show (10000 : Nat) = 9999 + 1 from rfl, run_equalIn_agg w 9999 97 _ _ hS hp]
  simp only [Program.fieldsOf, Tryz.underlying97]
  go_simp
  by_cases h1 : x.1 = y.1 <;> by_cases h2 : x.2 = y.2 <;> simp [h1, h2]
end Go.Proofs.YtcmdoeledmkfmabGreatDoor
set_option linter.unusedSimpArgs false
set_option linter.unusedVariables false
namespace Go.Proofs.YtcmdoeledmkfmabGreatDoor
open Go.RowKit
def Says (f : List Int) (l : List (Int × Int)) : Prop := f.length = 300 ∧ ∀ t : Nat, t < 300 → f.getD t 0 = val l t
theorem says_zero : Says zero300 [] := ⟨List.length_replicate, fun t ht => by
  have h : zero300.getD t 0 = 0 := by
    unfold zero300
    rw [List.getD_eq_getElem?_getD, List.getElem?_replicate]
    split <;> rfl
  rw [h]; rfl⟩
theorem val_take_succ {l : List (Int × Int)} {k : Nat} (hk : k < l.length) (t : Int) : val (l.take (k + 1)) t = if (sAt l k).1 ≤ t then (sAt l k).2 else val (l.take k) t := by
  unfold val
  rw [take_snoc hk, valFrom_append]
  rfl
theorem nonneg_to {l : List (Int × Int)} (h0 : (sAt l 0).1 = 0) : ∀ k, k < l.length → (∀ j, j < k + 1 → okAt l j = true) → 0 ≤ (sAt l k).1 := by
  intro k
  induction k with
  | zero => intro _ _; omega
  | succ k ih =>
    intro hk h
    have a := ih (by omega) (fun j hj => h j (by omega))
    have b := h (k + 1) (by omega)
    simp [okAt, fol] at b
    have := b.2.1
    omega
end Go.Proofs.YtcmdoeledmkfmabGreatDoor
set_option linter.unusedSimpArgs false
set_option linter.unusedVariables false
namespace Go.Proofs.YtcmdoeledmkfmabGreatDoor
open Go.RowKit
theorem fitIs_unique {l : List (Int × Int)} {fr long n r1 r2 : Int} (h1 : FitIs l fr long n r1) (h2 : FitIs l fr long n r2) : r1 = r2 := by
  rcases h1 with ⟨rfl, a⟩ | ⟨a1, a2, a3, a4⟩
  · rcases h2 with ⟨rfl, b⟩ | ⟨b1, b2, b3, b4⟩
    · rfl
    · exact absurd b3 (a _ b1 b2)
  · rcases h2 with ⟨rfl, b⟩ | ⟨b1, b2, b3, b4⟩
    · exact absurd a3 (b _ a1 a2)
    · have c : ¬ r1 < r2 := fun h => b4 r1 a1 h a3
      have d : ¬ r2 < r1 := fun h => a4 r2 b1 h b3
      omega
theorem fitIs_late {l : List (Int × Int)} {fr long n r : Int} (h : FitIs l fr long n r) (h1 : 300 ≤ fr) (h2 : 1 ≤ long) : r = -1 := by
  rcases h with ⟨h, _⟩ | ⟨a1, a2, _⟩
  · exact h
  · omega
end Go.Proofs.YtcmdoeledmkfmabGreatDoor
set_option linter.unusedSimpArgs false
set_option linter.unusedVariables false
namespace Go.Proofs.YtcmdoeledmkfmabGreatDoor
open Go.RowKit
def InF (f : List Int) : Prop := f.length = 300 ∧ ∀ j : Nat, j < 300 → 0 ≤ f.getD j 0 ∧ f.getD j 0 ≤ 16
def LessAns (f : List Int) (fr tu : Nat) (n : Int) (f2 : List Int) (ok : Bool) : Prop :=
  f2.length = 300 ∧ ((ok = true ∧ (∀ j : Nat, j < 300 → f2.getD j 0 = if fr ≤ j ∧ j < tu then f.getD j 0 - n else f.getD j 0) ∧ ∀ j : Nat, fr ≤ j → j < tu → 0 ≤ f.getD j 0 - n ∧ f.getD j 0 - n ≤ 16) ∨
    (ok = false ∧ f2 = f ∧ ∃ j : Nat, fr ≤ j ∧ j < tu ∧ ¬ (0 ≤ f.getD j 0 - n ∧ f.getD j 0 - n ≤ 16)))
theorem getD_set (f : List Int) (k : Nat) (y : Int) (j : Nat) (hk : k < f.length) : (f.set k y).getD j 0 = if j = k then y else f.getD j 0 := by
  rw [List.getD_eq_getElem?_getD, List.getElem?_set]
  by_cases e : k = j
  · subst e; rw [if_pos rfl, if_pos hk, if_pos rfl]; rfl
  · rw [if_neg e, if_neg (by omega), ← List.getD_eq_getElem?_getD]
structure SInv (f : List Int) (t : Nat) (r : List (Int × Int)) : Prop where
  nil : t = 0 → r = []
  pos : 0 < t → 0 < r.length
  first : 0 < t → (sAt r 0).1 = 0
  lt : ∀ j, j < r.length → (sAt r j).1 < t
  rng : ∀ j, j < r.length → 0 ≤ (sAt r j).2 ∧ (sAt r j).2 ≤ 16
  up : ∀ j, j + 1 < r.length → (sAt r j).1 < (sAt r (j + 1)).1
  other : ∀ j, j + 1 < r.length → (sAt r (j + 1)).2 ≠ (sAt r j).2
  last : 0 < t → (sAt r (r.length - 1)).2 = f.getD (t - 1) 0
  says : ∀ s : Nat, s < t → val r s = f.getD s 0
theorem SInv.start (f : List Int) : SInv f 0 [] :=
  ⟨fun _ => rfl, fun h => by omega, fun h => by omega, fun j h => by simp at h, fun j h => by simp at h, fun j h => by simp at h, fun j h => by simp at h, fun h => by omega, fun s h => by omega⟩
theorem sAt_snoc (r : List (Int × Int)) (x : Int × Int) (j : Nat) : sAt (r ++ [x]) j = if j < r.length then sAt r j else if j = r.length then x else (0, 0) := by
  unfold sAt
  simp only [List.getD_eq_getElem?_getD, List.getElem?_append]
  by_cases h1 : j < r.length
  · rw [if_pos h1, if_pos h1]
  · rw [if_neg h1, if_neg h1]
    by_cases h2 : j = r.length
    · subst h2; simp
    · rw [if_neg h2]
      obtain ⟨k, hk⟩ : ∃ k, j - r.length = k + 1 := ⟨j - r.length - 1, by omega⟩
      rw [hk]; rfl
theorem SInv.snoc {f : List Int} {t : Nat} {r : List (Int × Int)} (I : SInv f t r) (hf : InF f) (ht : t < 300) (h : t = 0 ∨ f.getD t 0 ≠ f.getD (t - 1) 0) : SInv f (t + 1) (r ++ [((t : Int), f.getD t 0)]) := by
  have hl : (r ++ [((t : Int), f.getD t 0)]).length = r.length + 1 := by simp
  have lt : ∀ j, j < r.length → sAt (r ++ [((t : Int), f.getD t 0)]) j = sAt r j := fun j hj => by rw [sAt_snoc, if_pos hj]
  have eq : sAt (r ++ [((t : Int), f.getD t 0)]) r.length = ((t : Int), f.getD t 0) := by rw [sAt_snoc, if_neg (by omega), if_pos rfl]
  refine ⟨fun h => by omega, fun _ => by omega, fun _ => ?_, fun j hj => ?_, fun j hj => ?_, fun j hj => ?_, fun j hj => ?_, fun _ => ?_, fun s hs => ?_⟩
  · by_cases h0 : 0 < t
    · rw [lt 0 (I.pos h0)]; exact I.first h0
    · have e : t = 0 := by omega
      have hr := I.nil e
      subst hr
      subst e
      rfl
  · rw [hl] at hj
    by_cases e : j < r.length
    · rw [lt j e]; have := I.lt j e; omega
    · rw [show j = r.length by omega, eq]; show (t : Int) < ((t + 1 : Nat) : Int); omega
  · rw [hl] at hj
    by_cases e : j < r.length
    · rw [lt j e]; exact I.rng j e
    · rw [show j = r.length by omega, eq]; exact hf.2 t ht
  · rw [hl] at hj
    by_cases e : j + 1 < r.length
    · rw [lt j (by omega), lt (j + 1) e]; exact I.up j e
    · rw [show j + 1 = r.length by omega, eq, lt j (by omega)]; exact I.lt j (by omega)
  · rw [hl] at hj
    by_cases e : j + 1 < r.length
    · rw [lt j (by omega), lt (j + 1) e]; exact I.other j e
    · have ej : j + 1 = r.length := by omega
      have t0 : 0 < t := by
        apply Nat.pos_of_ne_zero
        intro h0
        have := I.nil h0
        subst this
        simp at ej
      rw [ej, eq, lt j (by omega)]
      have := I.last t0
      rw [show r.length - 1 = j by omega] at this
      rw [this]
      rcases h with h | h
      · omega
      · exact h
  · rw [hl, Nat.add_sub_cancel, eq]; rfl
  · unfold val
    rw [valFrom_append]
    show (if (t : Int) ≤ (s : Int) then f.getD t 0 else val r s) = f.getD s 0
    by_cases e : t ≤ s
    · have : s = t := by omega
      subst this
      rw [if_pos (Int.le_refl _)]
    · rw [if_neg (by omega)]; exact I.says s (by omega)
theorem SInv.rise {f : List Int} {t : Nat} {r : List (Int × Int)} (I : SInv f t r) : Rise r := rise_of I.up
theorem SInv.skip {f : List Int} {t : Nat} {r : List (Int × Int)} (I : SInv f t r) (h0 : 0 < t) (h : f.getD t 0 = f.getD (t - 1) 0) : SInv f (t + 1) r := by
  have hp := I.pos h0
  refine ⟨fun h => by omega, fun _ => hp, fun _ => I.first h0, fun j hj => by have := I.lt j hj; omega, I.rng, I.up, I.other, fun _ => by rw [Nat.add_sub_cancel, h]; exact I.last h0, fun s hs => ?_⟩
  by_cases e : s < t
  · exact I.says s e
  · have es : s = t := by omega
    subst es
    rw [val_at I.rise (j := r.length - 1) (by omega) (by have := I.lt (r.length - 1) (by omega); omega) (fun hh => by omega), I.last h0, h]
theorem SInv.done {f : List Int} {r : List (Int × Int)} (I : SInv f 300 r) (hf : InF f) : Good r ∧ Says f r :=
  ⟨⟨I.pos (by omega), I.first (by omega), fun j hj => I.lt j hj, fun j hj => (I.rng j hj).1, fun j hj => (I.rng j hj).2, I.up, I.other⟩, hf.1, fun t ht => (I.says t ht).symm⟩
end Go.Proofs.YtcmdoeledmkfmabGreatDoor
set_option linter.unusedSimpArgs false
set_option linter.unusedVariables false
namespace Go.Proofs.YtcmdoeledmkfmabGreatDoor
open Go.RowKit
theorem new_row (w : World) (x y : Value) (t : TypeId) : ∀ (j : Nat) (u : Value), ([x, y] : List Value)[j]? = some u → (w.alloc (.cells #[x, y] t)).cell? ((⟨w.heap.size, 0, none⟩ : Addr).add j) = some u := fun j u hu => by
  rw [Addr.add_lit, Nat.zero_add, cell_of_row _ _ _ _ _ _ (heap_alloc_new w _)]
  simpa using hu
end Go.Proofs.YtcmdoeledmkfmabGreatDoor
set_option linter.unusedSimpArgs false
set_option linter.unusedVariables false
namespace Go.Proofs.YtcmdoeledmkfmabGreatDoor
open Go.RowKit
theorem getQ (l : List Int) (k : Nat) (h : k < l.length) : l[k]? = some (l.getD k 0) := by
  rw [List.getElem?_eq_getElem h, List.getD_eq_getElem?_getD, List.getElem?_eq_getElem h]; rfl
end Go.Proofs.YtcmdoeledmkfmabGreatDoor
