/- Whether each of a list may be what is kept at a place: goodKept of package port. -/
import Derived.Test.YtghhegajbehpeaaPLeaf
import Derived.Deep.DeepCutAuto
set_option linter.unusedSimpArgs false
set_option linter.unusedVariables false
namespace Go.Proofs.Ytghhegajbehpeaa
open Go.RowKit

/-- the three cells of one of a row of what is kept -/
theorem RdK.kp {w : World} {b off : Nat} {l : List Kp} (h : RdK cKp w b off l) {j : Nat} {k : Kp} (hs : l[j]? = some k) :
    w.cell? ⟨b, off + j * 3, none⟩ = some (.int .i64 k.wd) ∧ w.cell? ⟨b, off + j * 3 + 1, none⟩ = some (.int .i64 k.fr) ∧ w.cell? ⟨b, off + j * 3 + 2, none⟩ = some (.int .i64 k.to) :=
  ⟨h.at encKp hs (i := 0) rfl, h.at encKp hs (i := 1) rfl, h.at encKp hs (i := 2) rfl⟩

/-- nothing is kept -/
def isNo (k : Kp) : Bool := decide (k.wd = 0 ∧ k.fr = 0 ∧ k.to = 0)

theorem eqlKept0 (k : Kp) (w : World) : (binOp .eql 43 (.agg #[.int .i64 k.wd, .int .i64 k.fr, .int .i64 k.to]) (.agg #[.int .i64 0, .int .i64 0, .int .i64 0])).run Try.prog w = .ok (.bool (isNo k)) w := by
  have u3 := Try.underlying3
  have a3 := Try.isAgg3
  have z3 := Try.sizeOf3
  have hS : Try.prog.underlying 43 = some (.struct (Try.prog.fieldsOf 43)) := by kernel_rfl
  have hp : Try.prog.stoodInHeld 43 = false := by kernel_rfl
  unfold isNo
  rw [run_eql_struct, show (10000 : Nat) = 9999 + 1 from rfl, run_equalIn_agg w 9999 43 _ _ hS hp]
  simp only [Program.fieldsOf, Try.underlying43]
  go_simp
  by_cases h1 : k.wd = 0 <;> by_cases h2 : k.fr = 0 <;> by_cases h3 : k.to = 0 <;> simp [h1, h2, h3]

theorem neqKept0 (k : Kp) (w : World) : (binOp .neq 43 (.agg #[.int .i64 k.wd, .int .i64 k.fr, .int .i64 k.to]) (.agg #[.int .i64 0, .int .i64 0, .int .i64 0])).run Try.prog w = .ok (.bool (!isNo k)) w := by
  have u3 := Try.underlying3
  have a3 := Try.isAgg3
  have z3 := Try.sizeOf3
  have hS : Try.prog.underlying 43 = some (.struct (Try.prog.fieldsOf 43)) := by kernel_rfl
  have hp : Try.prog.stoodInHeld 43 = false := by kernel_rfl
  unfold isNo
  rw [run_neq_struct, show (10000 : Nat) = 9999 + 1 from rfl, run_equalIn_agg w 9999 43 _ _ hS hp]
  simp only [Program.fieldsOf, Try.underlying43]
  go_simp
  by_cases h1 : k.wd = 0 <;> by_cases h2 : k.fr = 0 <;> by_cases h3 : k.to = 0 <;> simp [h1, h2, h3]

/-- the first j of l may be kept -/
def KeptTo (l : List Kp) (j : Nat) : Prop := ∀ (i : Nat) (k : Kp), i < j → l[i]? = some k → IsKept k

theorem KeptTo.succ {l : List Kp} {j : Nat} {k : Kp} (h : KeptTo l j) (hk : l[j]? = some k) (hi : IsKept k) : KeptTo l (j + 1) := fun i k' hi' hk' => by
  by_cases e : i = j
  · subst e; rw [hk] at hk'; injection hk' with hk'; subst hk'; exact hi
  · exact h i k' (by omega) hk'

theorem KeptTo.all {l : List Kp} (h : KeptTo l l.length) : ∀ k ∈ l, IsKept k := fun k hk => by
  obtain ⟨i, hi, rfl⟩ := List.mem_iff_getElem.1 hk
  exact h i _ hi (List.getElem?_eq_getElem hi)


set_option maxHeartbeats 2000000 in
set_option maxRecDepth 100000 in
theorem goodKept_any (v : Value) (l : List Kp) (w : World) (hv : SlK cKp w v l) (hn : l.length ≤ 1000) :
    Calls Try.prog 87 #[v] w fun e w' => IsB e (∀ k ∈ l, IsKept k) ∧ Below w.heap.size w w' := by
  obtain ⟨a, cap, rfl, hcap, hrd⟩ := hv
  have HR : Hid (l = [] ∨ ∃ b off, a = some ⟨b, off, none⟩ ∧ RdK cKp w b off l) := hrd
  have B0 : Hid (Below w.heap.size w w) := Below.refl _ _
  clear hrd
  go_enter Try.func87, Try.ntmps87
  go_wp2_with fail
  go_loopg [7] l.length (fun kx s7 wr => ∃ (j : Nat), s7 = .int .i64 j ∧ j ≤ l.length ∧ l.length - j ≤ kx ∧ Hid (Below w.heap.size w wr) ∧ Hid (KeptTo l j))
  case atStart => exact ⟨0, rfl, Nat.zero_le _, by omega, B0, fun i k hi => absurd hi (Nat.not_lt_zero _)⟩
  case round =>
    clear B0
    obtain ⟨j, rfl, hj, hg, S1, I⟩ := hrel
    by_cases hjl : j < l.length
    · obtain ⟨kk, hkk⟩ : ∃ k, l[j]? = some k := ⟨l[j], List.getElem?_eq_getElem hjl⟩
      obtain ⟨bb, off, rfl, hrd⟩ : ∃ b off, a = some ⟨b, off, none⟩ ∧ RdK cKp w b off l := by
        rcases HR.out with h | h
        · rw [h] at hjl; simp at hjl
        · exact h
      have heq := fun W => neqKept0 kk W
      obtain ⟨c0, c1, c2⟩ := (hrd.below S1.out).kp hkk
      obtain ⟨kw, kf, kt⟩ := kk
      simp only at *
      have HK : Hid (l[j]? = some ⟨kw, kf, kt⟩) := hkk
      clear hkk hrd
      have hj3 : (j : Int) < (l.length : Int) := by omega
      have hbw : Below wr.heap.size wr (wr.alloc (.cells #[.int .i64 kw, .int .i64 kf, .int .i64 kt] 43)) := (Below.refl _ wr).alloc (Nat.le_refl _) _
      have S4 : Hid (Below w.heap.size w (wr.alloc (.cells #[.int .i64 kw, .int .i64 kf, .int .i64 kt] 43))) := S1.out.trans (hbw.mono S1.out.size)
      have N4 : Hid ((wr.alloc (.cells #[.int .i64 kw, .int .i64 kf, .int .i64 kt] 43)).heap[wr.heap.size]? = some (.cells #[.int .i64 kw, .int .i64 kf, .int .i64 kt] 43)) := heap_alloc_new wr _
      clear hbw S1
      go_upto_region 4 with fail
      clear c0 c1 c2
      generalize wr.alloc (.cells #[.int .i64 kw, .int .i64 kf, .int .i64 kt] 43) = WB at *
      generalize wr.heap.size = gs at *
      have n0 : ∀ i u, (cKp ⟨kw, kf, kt⟩)[i]? = some u → WB.cell? ⟨gs, i, none⟩ = some u := fun i u hu => by rw [cell_of_row _ _ _ _ _ _ N4.out]; simpa [cKp] using hu
      have k0 := n0 0 _ rfl; have k1 := n0 1 _ rfl; have k2 := n0 2 _ rfl
      clear n0 N4
      cases z : isNo ⟨kw, kf, kt⟩
      case true =>
        have I2 : Hid (KeptTo l (j + 1)) := I.out.succ HK.out (Or.inl (of_decide_eq_true z))
        rw [z] at heq
        clear z
        go_wp2_with (first | (go_at_call 60; refine (pGoodWide _ _).mono ?_; rintro e w' ⟨rfl, rfl⟩) | (go_at_call 106; refine (pGoodStay _ _ _).mono ?_; rintro e w' ⟨rfl, rfl⟩))
        go_roundg (l.length - (j + 1))
        case measure => omega
        case rel => exact ⟨j + 1, by go_num, by omega, Nat.le_refl _, S4, I2⟩
      case false =>
        have HZ : Hid (¬ (kw = 0 ∧ kf = 0 ∧ kt = 0)) := of_decide_eq_false z
        rw [z] at heq
        clear z
        rcases pinR_or kw 1 16 with b1 | b1
        case inr =>
          have NK : Hid (¬ ∀ k ∈ l, IsKept k) := fun h => by
            rcases h _ (List.mem_of_getElem? HK.out) with h | h
            · exact HZ.out h
            · exact pinR_no b1 h.1
          go_wp2_with (first | (go_at_call 60; refine (pGoodWide _ _).mono ?_; rintro e w' ⟨rfl, rfl⟩) | (go_at_call 106; refine (pGoodStay _ _ _).mono ?_; rintro e w' ⟨rfl, rfl⟩))
          go_ret
          exact ⟨⟨false, rfl, ⟨fun h => (by cases h), fun h => absurd h NK.out⟩⟩, S4.out⟩
        cases b2 : stayB kf kt
        case false =>
          have NK : Hid (¬ ∀ k ∈ l, IsKept k) := fun h => by
            rcases h _ (List.mem_of_getElem? HK.out) with h | h
            · exact HZ.out h
            · have := stayB_iff.2 (⟨h.2.1.1, h.2.2.1, h.2.2.2⟩ : 0 ≤ kf ∧ kf < kt ∧ kt ≤ 300); rw [b2] at this; cases this
          go_wp2_with (first | (go_at_call 60; refine (pGoodWide _ _).mono ?_; rintro e w' ⟨rfl, rfl⟩) | (go_at_call 106; refine (pGoodStay _ _ _).mono ?_; rintro e w' ⟨rfl, rfl⟩))
          go_ret
          exact ⟨⟨false, rfl, ⟨fun h => (by cases h), fun h => absurd h NK.out⟩⟩, S4.out⟩
        case true =>
          have I2 : Hid (KeptTo l (j + 1)) := I.out.succ HK.out (Or.inr (by have := stayB_iff.1 b2; exact ⟨pinR_yes b1, ⟨this.1, by simp only; omega⟩, this.2.1, this.2.2⟩))
          go_wp2_with (first | (go_at_call 60; refine (pGoodWide _ _).mono ?_; rintro e w' ⟨rfl, rfl⟩) | (go_at_call 106; refine (pGoodStay _ _ _).mono ?_; rintro e w' ⟨rfl, rfl⟩))
          go_roundg (l.length - (j + 1))
          case measure => omega
          case rel => exact ⟨j + 1, by go_num, by omega, Nat.le_refl _, S4, I2⟩
    · have hje : j = l.length := by omega
      have I4 : Hid (∀ k ∈ l, IsKept k) := by have h := I.out; rw [hje] at h; exact h.all
      clear hje I
      have hj3 : ¬ ((j : Int) < (l.length : Int)) := by omega
      go_wp2
      go_ret
      exact ⟨⟨true, rfl, ⟨fun _ => I4.out, fun _ => rfl⟩⟩, S1.out⟩

end Go.Proofs.Ytghhegajbehpeaa
