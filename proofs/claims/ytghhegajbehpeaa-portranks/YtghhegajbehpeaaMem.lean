/- What it is that a row of memory holds a list of steps, and that it goes on holding it while the row's block is not written; no condition. -/
import Derived.Test.YtghhegajbehpeaaLeaf
import Derived.Deep.LoopGhost
set_option linter.unusedSimpArgs false
set_option linter.unusedVariables false
namespace Go.Proofs.Ytghhegajbehpeaa
open Go.RowKit

/-- The cells from off on in block b hold the steps of l. -/
def Rd (w : World) (b off : Nat) (l : List (Int × Int)) : Prop :=
  ∀ j, j < l.length → w.cell? ⟨b, off + j * 2, none⟩ = some (.int .i64 (sAt l j).1) ∧ w.cell? ⟨b, off + j * 2 + 1, none⟩ = some (.int .i64 (sAt l j).2)

theorem Rd.below {w w' : World} {b off : Nat} {l : List (Int × Int)} (h : Rd w b off l) (hb : Below w.heap.size w w') : Rd w' b off l := fun j hj =>
  ⟨(hb.cell (World.block_lt_of_cell? w _ (h j hj).1)).trans (h j hj).1, (hb.cell (World.block_lt_of_cell? w _ (h j hj).2)).trans (h j hj).2⟩

theorem Rd.belowB {B : Nat} {w w' : World} {b off : Nat} {l : List (Int × Int)} (h : Rd w b off l) (hB : b < B) (hb : Below B w w') : Rd w' b off l := fun j hj =>
  ⟨(hb.cell (p := ⟨b, _, none⟩) hB).trans (h j hj).1, (hb.cell (p := ⟨b, _, none⟩) hB).trans (h j hj).2⟩

/-- The value is a slice of the steps of l. -/
def Sl (w : World) (v : Value) (l : List (Int × Int)) : Prop :=
  l.length ≤ 8796093022208 ∧ ∃ (a : Option Addr) (cap : Nat), v = .slice a l.length cap ∧ (l = [] ∨ ∃ b off, a = some ⟨b, off, none⟩ ∧ Rd w b off l)

theorem Sl.below {w w' : World} {v : Value} {l : List (Int × Int)} (h : Sl w v l) (hb : Below w.heap.size w w') : Sl w' v l := by
  obtain ⟨h0, a, cap, hv, h1⟩ := h
  refine ⟨h0, a, cap, hv, ?_⟩
  rcases h1 with h1 | ⟨b, off, ha, hr⟩
  · exact Or.inl h1
  · exact Or.inr ⟨b, off, ha, hr.below hb⟩

/-- an old cell behind a new block -/
theorem cell_old {w : World} {a : Addr} {v : Value} (h : w.cell? a = some v) (o : Obj) : (w.alloc o).cell? a = some v :=
  (((Below.refl w.heap.size w).alloc (Nat.le_refl _) o).cell (World.block_lt_of_cell? w _ h)).trans h

/-- the two cells of a new block -/
theorem new_pair (w : World) (x y : Value) (t : TypeId) : (w.alloc (.cells #[x, y] t)).cell? ⟨w.heap.size, 0, none⟩ = some x ∧ (w.alloc (.cells #[x, y] t)).cell? ⟨w.heap.size, 1, none⟩ = some y := by
  have h : (w.alloc (.cells #[x, y] t)).heap[w.heap.size]? = some (.cells #[x, y] t) := heap_alloc_new w _
  exact ⟨by rw [cell_of_row _ _ _ _ _ _ h]; rfl, by rw [cell_of_row _ _ _ _ _ _ h]; rfl⟩

set_option maxHeartbeats 1000000 in
theorem search_any (b off cap : Nat) (l : List (Int × Int)) (t : Int) (w : World) (hr : Rd w b off l) (hn : l.length ≤ 8796093022208) (hs : Rise l) :
    Calls Try.prog 81 #[.slice (some ⟨b, off, none⟩) l.length cap, .int .i64 t, .func (.func 82) #[] #[]] w fun e w' =>
      ∃ i : Nat, e = .returned (.tuple #[.int .i64 i, .bool (fnd l t i)]) ∧ CutAt l t i ∧ Below w.heap.size w w' := by
  have HS : Hid (Rise l) := hs
  have HR : Hid (Rd w b off l) := hr
  have S0 : Hid (Below w.heap.size w w) := Below.refl _ _
  clear hs hr
  go_enter Try.func81, Try.ntmps81
  go_wp2
  go_loopg [9, 10] l.length (fun kx s9 s10 wr => ∃ lo hi : Nat, s9 = .int .i64 lo ∧ s10 = .int .i64 hi ∧ lo ≤ hi ∧ hi ≤ l.length ∧ hi - lo ≤ kx ∧ Hid (Below w.heap.size w wr) ∧
    Hid ((∀ k, k < lo → (sAt l k).1 < t) ∧ (∀ k, hi ≤ k → k < l.length → t ≤ (sAt l k).1)))
  case atStart => exact ⟨0, l.length, rfl, rfl, Nat.zero_le _, Nat.le_refl _, by omega, S0, (⟨fun k hk => absurd hk (Nat.not_lt_zero _), fun k h1 h2 => by omega⟩ : (∀ k, k < 0 → (sAt l k).1 < t) ∧ (∀ k, l.length ≤ k → k < l.length → t ≤ (sAt l k).1))⟩
  case round =>
    clear S0
    obtain ⟨lo, hi, rfl, rfl, hlh, hin, hg, S1, I⟩ := hrel
    by_cases hlt : lo < hi
    · obtain ⟨c0, c1⟩ := (HR.out.below S1.out) ((lo + hi) / 2) (by omega)
      generalize hy : sAt l ((lo + hi) / 2) = y at c0 c1
      have Y : Hid (sAt l ((lo + hi) / 2) = y) := hy
      clear hy
      by_cases hyx : y.1 < t
      · have hneg : cmpI y.1 t < 0 := cmpI_neg.2 hyx
        go_wp2_with (go_at_call 82; refine (place1_any y t _).mono ?_; rintro e w' ⟨rfl, hb⟩)
        go_roundg (hi - ((lo + hi) / 2 + 1))
        case measure => omega
        case rel =>
          have I2 : Hid ((∀ k, k < (lo + hi) / 2 + 1 → (sAt l k).1 < t) ∧ (∀ k, hi ≤ k → k < l.length → t ≤ (sAt l k).1)) := ⟨fun k hk => by
            by_cases hk2 : k = (lo + hi) / 2
            · rw [hk2, Y.out]; exact hyx
            · have := HS.out k ((lo + hi) / 2) (by omega) (by omega)
              rw [Y.out] at this
              omega, I.out.2⟩
          exact ⟨(lo + hi) / 2 + 1, hi, by rw [show ((lo : Int) + (hi : Int)) / 2 + 1 = (((lo + hi) / 2 + 1 : Nat) : Int) by omega], rfl, by omega, hin, Nat.le_refl _, S1.out.trans (hb.mono S1.out.size), I2⟩
      · have hneg : ¬ cmpI y.1 t < 0 := fun h => hyx (cmpI_neg.1 h)
        go_wp2_with (go_at_call 82; refine (place1_any y t _).mono ?_; rintro e w' ⟨rfl, hb⟩)
        go_roundg ((lo + hi) / 2 - lo)
        case measure => omega
        case rel =>
          have I2 : Hid ((∀ k, k < lo → (sAt l k).1 < t) ∧ (∀ k, (lo + hi) / 2 ≤ k → k < l.length → t ≤ (sAt l k).1)) := ⟨I.out.1, fun k hk hkl => by
            by_cases hk2 : k = (lo + hi) / 2
            · rw [hk2, Y.out]; omega
            · have := HS.out ((lo + hi) / 2) k (by omega) hkl
              rw [Y.out] at this
              omega⟩
          exact ⟨lo, (lo + hi) / 2, rfl, by rw [show ((lo : Int) + (hi : Int)) / 2 = (((lo + hi) / 2 : Nat) : Int) by omega], by omega, by omega, Nat.le_refl _, S1.out.trans (hb.mono S1.out.size), I2⟩
    · obtain rfl : hi = lo := by omega
      have C : Hid (CutAt l t hi) := ⟨hin, I.out.1, I.out.2⟩
      by_cases hn2 : hi < l.length
      · obtain ⟨c0, c1⟩ := (HR.out.below S1.out) hi hn2
        generalize hy : sAt l hi = y at c0 c1
        have Y : Hid (sAt l hi = y) := hy
        clear hy
        by_cases hyx : y.1 = t
        · have HY : Hid (y.1 = t) := hyx
          have hz : (cmpI y.1 t == 0) = true := beq_iff_eq.2 (cmpI_zero.2 hyx)
          clear hyx
          go_wp2_with (go_at_call 82; refine (place1_any y t _).mono ?_; rintro e w' ⟨rfl, hb⟩)
          go_ret2
          exact ⟨hi, by unfold fnd; rw [Y.out]; simp [hn2, HY.out], C.out, S1.out.trans (hb.mono S1.out.size)⟩
        · have hz : (cmpI y.1 t == 0) = false := beq_eq_false_iff_ne.2 fun h => hyx (cmpI_zero.1 h)
          go_wp2_with (go_at_call 82; refine (place1_any y t _).mono ?_; rintro e w' ⟨rfl, hb⟩)
          go_ret2
          exact ⟨hi, by unfold fnd; rw [Y.out]; simp [hn2, hyx], C.out, S1.out.trans (hb.mono S1.out.size)⟩
      · go_wp2
        go_ret2
        exact ⟨hi, by unfold fnd; simp [hn2], C.out, S1.out⟩

/-- place is where the step of a time stands, or would have to be set -/
theorem place_any (b off cap : Nat) (l : List (Int × Int)) (t : Int) (w : World) (hr : Rd w b off l) (hn : l.length ≤ 8796093022208) (hs : Rise l) :
    Calls Try.prog 58 #[.slice (some ⟨b, off, none⟩) l.length cap, .int .i64 t] w fun e w' =>
      ∃ i : Nat, e = .returned (.tuple #[.int .i64 i, .bool (fnd l t i)]) ∧ CutAt l t i ∧ Below w.heap.size w w' := by
  have HC := fun W (h : Rd W b off l) => search_any b off cap l t W h hn hs
  have HR : Hid (Rd w b off l) := hr
  clear hr hs
  go_enter Try.func58, Try.ntmps58
  go_wp2_with (go_at_call 81; refine (HC _ HR.out).mono ?_; rintro e w' ⟨i, rfl, hc, hb⟩)
  go_ret2
  exact ⟨i, rfl, hc, hb⟩

end Go.Proofs.Ytghhegajbehpeaa
