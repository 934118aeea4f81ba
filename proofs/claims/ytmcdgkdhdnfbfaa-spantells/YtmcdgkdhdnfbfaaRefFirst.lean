/- First of the document's own answer: the first time that P1.4 asks for, of what a profile says time by time. -/
import Derived.Test.YtmcdgkdhdnfbfaaFreeOf
set_option linter.unusedSimpArgs false
set_option linter.unusedVariables false
namespace Go.Proofs.Ytmcdgkdhdnfbfaa
open Go.RowKit

theorem fitIs_unique {l : List (Int × Int)} {fr long n r1 r2 : Int} (h1 : FitIs l fr long n r1) (h2 : FitIs l fr long n r2) : r1 = r2 := by
  rcases h1 with ⟨rfl, a⟩ | ⟨a1, a2, a3, a4⟩
  · rcases h2 with ⟨rfl, b⟩ | ⟨b1, b2, b3, b4⟩
    · rfl
    · exact absurd b3 (a _ b1 b2)
  · rcases h2 with ⟨rfl, b⟩ | ⟨b1, b2, b3, b4⟩
    · exact absurd a3 (b _ a1 a2)
    · have c : ¬ r1 < r2 := fun h => b4 r1 a1 h a3
      have d : ¬ r2 < r1 := fun h => a4 r2 b1 h b3
      omega

theorem fitIs_late {l : List (Int × Int)} {fr long n r : Int} (h : FitIs l fr long n r) (h1 : 300 ≤ fr) (h2 : 1 ≤ long) : r = -1 := by
  rcases h with ⟨h, _⟩ | ⟨a1, a2, _⟩
  · exact h
  · omega

set_option maxHeartbeats 2000000 in
set_option maxRecDepth 100000 in
theorem refFirst_any (f : List Int) (l : List (Int × Int)) (hS : Says f l) (fr : Nat) (long n : Int) (w : World) (h1 : fr ≤ 300) (h2 : 1 ≤ long) (h3 : long ≤ 300) :
    Calls Try.prog 14 #[.agg (ic f).toArray, .int .i64 fr, .int .i64 long, .int .i64 n] w fun e w' => ∃ r, e = .returned (.int .i64 r) ∧ FitIs l fr long n r ∧ Below w.heap.size w w' := by
  have HS : Hid (Says f l) := hS
  have B0 : Hid (Below w.heap.size w (w.alloc (.cells (ic f).toArray 24))) := (Below.refl _ w).alloc (Nat.le_refl _) _
  have A0 : Hid (Arr (w.alloc (.cells (ic f).toArray 24)) w.heap.size f) := ⟨hS.1, heap_alloc_new w _⟩
  clear hS
  go_enter Try.func14, Try.ntmps14
  go_wp2
  generalize w.alloc (.cells (ic f).toArray 24) = W at *
  go_loopg [9, 10, 11] 301 (fun kx s9 s10 s11 wr => ∃ (t : Nat), s9 = .int .i64 t ∧ fr ≤ t ∧ t ≤ 300 ∧ 301 - t ≤ kx ∧ Hid (Below w.heap.size w wr) ∧ Hid (Arr wr w.heap.size f) ∧ Hid (∀ u : Int, (fr : Int) ≤ u → u < t → ¬ room l n u long))
  case atStart => exact ⟨fr, rfl, Nat.le_refl _, h1, by omega, B0, A0, (fun u a b => by omega : ∀ u : Int, (fr : Int) ≤ u → u < fr → ¬ room l n u long)⟩
  case round =>
    clear B0 A0
    obtain ⟨t, rfl, ht1, ht2, hg, S1, A1, N1⟩ := hrel
    by_cases hlt : (t : Int) + long ≤ 300
    · go_wp2_with fail
      go_loopg [10, 11] 300 (fun kx s10 s11 wr => ∃ (k : Nat) (ok : Bool), s10 = .bool ok ∧ s11 = .int .i64 k ∧ t ≤ k ∧ (k : Int) ≤ t + long ∧ 300 - k ≤ kx ∧ Hid (Below w.heap.size w wr) ∧ Hid (Arr wr w.heap.size f) ∧ Hid ((ok = true ∧ ∀ s : Nat, t ≤ s → s < k → n ≤ val l s) ∨ (ok = false ∧ ∃ s : Nat, t ≤ s ∧ s < k ∧ val l s < n)))
      case atStart => exact ⟨t, true, rfl, rfl, Nat.le_refl _, by omega, by omega, S1, A1, (Or.inl ⟨rfl, fun s a b => by omega⟩ : (true = true ∧ ∀ s : Nat, t ≤ s → s < t → n ≤ val l s) ∨ (true = false ∧ ∃ s : Nat, t ≤ s ∧ s < t ∧ val l s < n))⟩
      case round =>
        clear S1 A1
        obtain ⟨k, ok, rfl, rfl, hk1, hk2, hg2, S1, A1, R⟩ := hrel
        cases ok
        case false =>
          have NR : Hid (¬ room l n t long) := by
            rcases R.out with ⟨h, _⟩ | ⟨_, s, s1, s2, s3⟩
            · cases h
            · exact fun hr => by have := hr s (by omega) (by omega); omega
          have N2 : Hid (∀ u : Int, (fr : Int) ≤ u → u < ((t + 1 : Nat) : Int) → ¬ room l n u long) := fun u a b => by
            by_cases e : u = t
            · rw [e]; exact NR.out
            · exact N1.out u a (by omega)
          by_cases hkl : (k : Int) < t + long
          · go_wp2
            go_roundg (301 - (t + 1))
            case measure => omega
            case rel => exact ⟨t + 1, by go_num, by omega, by omega, Nat.le_refl _, S1, A1, N2⟩
          · have hd : decide ((k : Int) < t + long) = false := decide_eq_false hkl
            go_wp2
            go_roundg (301 - (t + 1))
            case measure => omega
            case rel => exact ⟨t + 1, by go_num, by omega, by omega, Nat.le_refl _, S1, A1, N2⟩
        case true =>
          by_cases hkl : (k : Int) < t + long
          · have hk3 : k < 300 := by omega
            have q0 := A1.out.cell k hk3
            have hv : f.getD k 0 = val l k := HS.out.2 k hk3
            rw [hv] at q0
            have RR : Hid (∀ s : Nat, t ≤ s → s < k → n ≤ val l s) := by
              rcases R.out with ⟨_, h⟩ | ⟨h, _⟩
              · exact h
              · cases h
            clear hv
            generalize hvv : val l k = x at *
            have V : Hid (val l k = x) := hvv
            clear hvv
            have hk4 : (k : Int) < 300 := by omega
            by_cases hx : n ≤ x
            · go_wp2
              go_roundg (300 - (k + 1))
              case measure => omega
              case rel =>
                have R2 : Hid ((true = true ∧ ∀ s : Nat, t ≤ s → s < k + 1 → n ≤ val l s) ∨ (true = false ∧ ∃ s : Nat, t ≤ s ∧ s < k + 1 ∧ val l s < n)) := Or.inl ⟨rfl, fun s a b => by
                  by_cases e : s = k
                  · rw [e, V.out]; exact hx
                  · exact RR.out s a (by omega)⟩
                exact ⟨k + 1, true, by first | rfl | (simp; omega) | simp [hx], by go_num, by omega, by omega, Nat.le_refl _, S1, A1, R2⟩
            · go_wp2
              go_roundg (300 - (k + 1))
              case measure => omega
              case rel =>
                have R2 : Hid ((false = true ∧ ∀ s : Nat, t ≤ s → s < k + 1 → n ≤ val l s) ∨ (false = false ∧ ∃ s : Nat, t ≤ s ∧ s < k + 1 ∧ val l s < n)) := Or.inr ⟨rfl, k, hk1, by omega, by rw [V.out]; omega⟩
                exact ⟨k + 1, false, by first | rfl | (simp; omega) | simp [hx], by go_num, by omega, by omega, Nat.le_refl _, S1, A1, R2⟩
          · have hd : decide ((k : Int) < t + long) = false := decide_eq_false hkl
            have F : Hid (FitIs l fr long n t) := by
              rcases R.out with ⟨_, h⟩ | ⟨h, _⟩
              · exact Or.inr ⟨by omega, hlt, fun s a b => by
                  have := h s.toNat (by omega) (by omega)
                  rw [show ((s.toNat : Nat) : Int) = s by omega] at this
                  exact this, N1.out⟩
              · cases h
            go_wp2
            go_ret
            exact ⟨t, rfl, F.out, S1.out⟩
    · have F : Hid (FitIs l fr long n (-1)) := Or.inl ⟨rfl, fun u a b => N1.out u a (by omega)⟩
      go_wp2
      go_ret
      exact ⟨-1, rfl, F.out, S1.out⟩

end Go.Proofs.Ytmcdgkdhdnfbfaa
