/- same and SameSteps of the statements' packages: whether two slices hold the same steps. -/
import Derived.Test.YtmcdgkdhdnfbfaaMem
import Derived.BigQuiet
import Derived.Laws.StructEq
set_option linter.unusedSimpArgs false
set_option linter.unusedVariables false
namespace Go.Proofs.Ytmcdgkdhdnfbfaa
open Go.RowKit

/-- two steps differ -/
def neB (x y : Int × Int) : Bool := !(x.1 == y.1 && x.2 == y.2)

theorem neB_true {x y : Int × Int} (h : ¬ x = y) : neB x y = true := by
  unfold neB
  by_cases e1 : x.1 = y.1
  · have e2 : ¬ x.2 = y.2 := fun e2 => h (Prod.ext e1 e2)
    simp [e2]
  · simp [e1]

theorem neqStep (x y : Int × Int) (w : World) : (binOp .neq 31 (.agg #[.int .i64 x.1, .int .i64 x.2]) (.agg #[.int .i64 y.1, .int .i64 y.2])).run Try.prog w = .ok (.bool (neB x y)) w := by
  have u3 := Try.underlying3
  have a3 := Try.isAgg3
  have z3 := Try.sizeOf3
  have hS : Try.prog.underlying 31 = some (.struct (Try.prog.fieldsOf 31)) := by kernel_rfl
  have hp : Try.prog.stoodInHeld 31 = false := by kernel_rfl
  unfold neB
  rw [run_neq_struct, show (10000 : Nat) = 9999 + 1 from rfl, run_equalIn_agg w 9999 31 _ _ hS hp]
  simp only [Program.fieldsOf, Try.underlying31]
  go_simp
  by_cases h1 : x.1 = y.1 <;> by_cases h2 : x.2 = y.2 <;> simp [h1, h2]

set_option maxHeartbeats 1000000 in
theorem sameK_some (a1 a2 : Option Addr) (c1 c2 : Nat) (l m : List (Int × Int)) (w : World) (h1 : l = [] ∨ ∃ b off, a1 = some ⟨b, off, none⟩ ∧ Rd w b off l) (h2 : m = [] ∨ ∃ b off, a2 = some ⟨b, off, none⟩ ∧ Rd w b off m) (n1 : l.length ≤ 8796093022208) (n2 : m.length ≤ 8796093022208) :
    Calls Try.prog 19 #[.slice a1 l.length c1, .slice a2 m.length c2] w fun e w' => e = .returned (.bool (decide (l = m))) ∧ Below w.heap.size w w' := by
  by_cases hl : l.length = m.length
  · have S0 : Hid (Below w.heap.size w w) := Below.refl _ _
    by_cases h0 : l = []
    · have hm : m = [] := List.eq_nil_of_length_eq_zero (by rw [← hl, h0]; rfl)
      subst h0; subst hm
      go_enter Try.func19, Try.ntmps19
      go_wp2
      go_loopg [13] 0 (fun kx s13 wr => s13 = .int .i64 0 ∧ wr = w)
      case atStart => exact ⟨rfl, rfl⟩
      case round =>
        obtain ⟨rfl, rfl⟩ := hrel
        go_wp2
        go_ret
        exact ⟨by simp, S0.out⟩
    · rcases h1 with h1 | ⟨b1, o1, rfl, r1⟩
      · exact absurd h1 h0
      rcases h2 with h2 | ⟨b2, o2, rfl, r2⟩
      · exact absurd (List.eq_nil_of_length_eq_zero (by rw [hl, h2]; rfl)) h0
      have R1 : Hid (Rd w b1 o1 l) := r1
      have R2 : Hid (Rd w b2 o2 m) := r2
      have HL : Hid (l.length = m.length) := hl
      have hlb : ((l.length : Int) != (m.length : Int)) = false := by simp [hl]
      have hn1 : l.length ≤ m.length := by omega
      have hn2 : m.length ≤ l.length := by omega
      have hneq := neqStep
      clear r1 r2 hl h0
      go_enter Try.func19, Try.ntmps19
      go_wp2
      go_loopg [13] l.length (fun kx s13 wr => ∃ k : Nat, s13 = .int .i64 k ∧ k ≤ l.length ∧ l.length - k ≤ kx ∧ Hid (Below w.heap.size w wr) ∧ Hid (∀ j, j < k → sAt l j = sAt m j))
      case atStart => exact ⟨0, rfl, Nat.zero_le _, by omega, S0, (fun j hj => absurd hj (Nat.not_lt_zero _) : ∀ j, j < 0 → sAt l j = sAt m j)⟩
      case round =>
        clear S0
        obtain ⟨k, rfl, hk, hg, S1, I⟩ := hrel
        by_cases hlt : k < l.length
        · obtain ⟨p0, p1⟩ := (R1.out.below S1.out) k hlt
          obtain ⟨q0, q1⟩ := (R2.out.below S1.out) k (by omega)
          generalize hx : sAt l k = x at *
          generalize hy : sAt m k = y at *
          have X : Hid (sAt l k = x) := hx
          have Y : Hid (sAt m k = y) := hy
          clear hx hy
          have hk3 : (k : Int) < (l.length : Int) := by omega
          have hk4 : (k : Int) < (m.length : Int) := by omega
          by_cases hxy : x = y
          · have E : Hid (x = y) := hxy
            have hd : neB x y = false := by unfold neB; simp [hxy]
            clear hxy
            go_wp2_with fail
            go_quiet (fail)
            go_wp2
            go_roundg (l.length - (k + 1))
            case measure => omega
            case rel =>
              have I2 : Hid (∀ j, j < k + 1 → sAt l j = sAt m j) := fun j hj => by
                by_cases e : j = k
                · rw [e, X.out, Y.out]; exact E.out
                · exact I.out j (by omega)
              exact ⟨k + 1, by go_num, by omega, Nat.le_refl _, below_drewN S1.out _, I2⟩
          · have hd : neB x y = true := neB_true hxy
            have D : Hid (decide (l = m) = false) := decide_eq_false fun e => hxy (by rw [← X.out, ← Y.out, e])
            clear hxy
            go_wp2_with fail
            go_quiet (fail)
            go_wp2
            go_ret
            exact ⟨by rw [D.out]; rfl, below_drewN S1.out _⟩
        · have D : Hid (decide (l = m) = true) := decide_eq_true (List.ext_getElem HL.out fun j x y => by rw [← sAt_get x, ← sAt_get y]; exact I.out j (by omega))
          go_wp2
          go_ret
          exact ⟨by rw [D.out]; rfl, S1.out⟩
  · have hlb : ((l.length : Int) != (m.length : Int)) = true := by rw [bne_iff_ne]; omega
    have D : Hid (decide (l = m) = false) := decide_eq_false fun e => hl (by rw [e])
    go_enter Try.func19, Try.ntmps19
    go_wp2
    go_ret
    exact ⟨by rw [D.out]; rfl, Below.refl _ _⟩

theorem sameK_any (v1 v2 : Value) (l m : List (Int × Int)) (w : World) (h1 : Sl w v1 l) (h2 : Sl w v2 m) :
    Calls Try.prog 19 #[v1, v2] w fun e w' => e = .returned (.bool (decide (l = m))) ∧ Below w.heap.size w w' := by
  obtain ⟨n1, a1, c1, rfl, h1⟩ := h1
  obtain ⟨n2, a2, c2, rfl, h2⟩ := h2
  exact sameK_some a1 a2 c1 c2 l m w h1 h2 n1 n2

set_option maxHeartbeats 1000000 in
theorem sameL_some (a1 a2 : Option Addr) (c1 c2 : Nat) (l m : List (Int × Int)) (w : World) (h1 : l = [] ∨ ∃ b off, a1 = some ⟨b, off, none⟩ ∧ Rd w b off l) (h2 : m = [] ∨ ∃ b off, a2 = some ⟨b, off, none⟩ ∧ Rd w b off m) (n1 : l.length ≤ 8796093022208) (n2 : m.length ≤ 8796093022208) :
    Calls Try.prog 9 #[.slice a1 l.length c1, .slice a2 m.length c2] w fun e w' => e = .returned (.bool (decide (l = m))) ∧ Below w.heap.size w w' := by
  by_cases hl : l.length = m.length
  · have S0 : Hid (Below w.heap.size w w) := Below.refl _ _
    by_cases h0 : l = []
    · have hm : m = [] := List.eq_nil_of_length_eq_zero (by rw [← hl, h0]; rfl)
      subst h0; subst hm
      go_enter Try.func9, Try.ntmps9
      go_wp2
      go_loopg [13] 0 (fun kx s13 wr => s13 = .int .i64 0 ∧ wr = w)
      case atStart => exact ⟨rfl, rfl⟩
      case round =>
        obtain ⟨rfl, rfl⟩ := hrel
        go_wp2
        go_ret
        exact ⟨by simp, S0.out⟩
    · rcases h1 with h1 | ⟨b1, o1, rfl, r1⟩
      · exact absurd h1 h0
      rcases h2 with h2 | ⟨b2, o2, rfl, r2⟩
      · exact absurd (List.eq_nil_of_length_eq_zero (by rw [hl, h2]; rfl)) h0
      have R1 : Hid (Rd w b1 o1 l) := r1
      have R2 : Hid (Rd w b2 o2 m) := r2
      have HL : Hid (l.length = m.length) := hl
      have hlb : ((l.length : Int) != (m.length : Int)) = false := by simp [hl]
      have hn1 : l.length ≤ m.length := by omega
      have hn2 : m.length ≤ l.length := by omega
      have hneq := neqStep
      clear r1 r2 hl h0
      go_enter Try.func9, Try.ntmps9
      go_wp2
      go_loopg [13] l.length (fun kx s13 wr => ∃ k : Nat, s13 = .int .i64 k ∧ k ≤ l.length ∧ l.length - k ≤ kx ∧ Hid (Below w.heap.size w wr) ∧ Hid (∀ j, j < k → sAt l j = sAt m j))
      case atStart => exact ⟨0, rfl, Nat.zero_le _, by omega, S0, (fun j hj => absurd hj (Nat.not_lt_zero _) : ∀ j, j < 0 → sAt l j = sAt m j)⟩
      case round =>
        clear S0
        obtain ⟨k, rfl, hk, hg, S1, I⟩ := hrel
        by_cases hlt : k < l.length
        · obtain ⟨p0, p1⟩ := (R1.out.below S1.out) k hlt
          obtain ⟨q0, q1⟩ := (R2.out.below S1.out) k (by omega)
          generalize hx : sAt l k = x at *
          generalize hy : sAt m k = y at *
          have X : Hid (sAt l k = x) := hx
          have Y : Hid (sAt m k = y) := hy
          clear hx hy
          have hk3 : (k : Int) < (l.length : Int) := by omega
          have hk4 : (k : Int) < (m.length : Int) := by omega
          by_cases hxy : x = y
          · have E : Hid (x = y) := hxy
            have hd : neB x y = false := by unfold neB; simp [hxy]
            clear hxy
            go_wp2_with fail
            go_quiet (fail)
            go_wp2
            go_roundg (l.length - (k + 1))
            case measure => omega
            case rel =>
              have I2 : Hid (∀ j, j < k + 1 → sAt l j = sAt m j) := fun j hj => by
                by_cases e : j = k
                · rw [e, X.out, Y.out]; exact E.out
                · exact I.out j (by omega)
              exact ⟨k + 1, by go_num, by omega, Nat.le_refl _, below_drewN S1.out _, I2⟩
          · have hd : neB x y = true := neB_true hxy
            have D : Hid (decide (l = m) = false) := decide_eq_false fun e => hxy (by rw [← X.out, ← Y.out, e])
            clear hxy
            go_wp2_with fail
            go_quiet (fail)
            go_wp2
            go_ret
            exact ⟨by rw [D.out]; rfl, below_drewN S1.out _⟩
        · have D : Hid (decide (l = m) = true) := decide_eq_true (List.ext_getElem HL.out fun j x y => by rw [← sAt_get x, ← sAt_get y]; exact I.out j (by omega))
          go_wp2
          go_ret
          exact ⟨by rw [D.out]; rfl, S1.out⟩
  · have hlb : ((l.length : Int) != (m.length : Int)) = true := by rw [bne_iff_ne]; omega
    have D : Hid (decide (l = m) = false) := decide_eq_false fun e => hl (by rw [e])
    go_enter Try.func9, Try.ntmps9
    go_wp2
    go_ret
    exact ⟨by rw [D.out]; rfl, Below.refl _ _⟩

theorem sameL_any (v1 v2 : Value) (l m : List (Int × Int)) (w : World) (h1 : Sl w v1 l) (h2 : Sl w v2 m) :
    Calls Try.prog 9 #[v1, v2] w fun e w' => e = .returned (.bool (decide (l = m))) ∧ Below w.heap.size w w' := by
  obtain ⟨n1, a1, c1, rfl, h1⟩ := h1
  obtain ⟨n2, a2, c2, rfl, h2⟩ := h2
  exact sameL_some a1 a2 c1 c2 l m w h1 h2 n1 n2

end Go.Proofs.Ytmcdgkdhdnfbfaa
