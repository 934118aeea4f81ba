/- Fit of package span, of good profiles and numbers: it answers the first time that P1.4 asks for, or -1. -/
import Derived.Test.YtghhegajbehpeaaFit
set_option linter.unusedSimpArgs false
set_option linter.unusedVariables false
namespace Go.Proofs.Ytghhegajbehpeaa
open Go.RowKit

/-- when the step at place k begins, or all ends -/
def begn (l : List (Int × Int)) (k : Nat) : Int := if k < l.length then (sAt l k).1 else 300

set_option maxHeartbeats 2000000 in
theorem fit_good (b off cap : Nat) (l : List (Int × Int)) (fr long n : Int) (w : World) (hr : Rd w b off l) (G : Good l) (h1 : 0 ≤ fr) (h2 : 1 ≤ long) (h3 : long ≤ 300) (h4 : 0 ≤ n) :
    Calls Try.prog 20 #[.slice (some ⟨b, off, none⟩) l.length cap, .int .i64 fr, .int .i64 long, .int .i64 n] w fun e w' => ∃ r, e = .returned (.int .i64 r) ∧ FitIs l fr long n r ∧ Below w.heap.size w w' := by
  have hn : l.length ≤ 8796093022208 := by have := G.len; omega
  have hg : goodB l = true := goodB_iff.2 G
  have HG := good_some b off cap l w hr hn G.pos
  rw [hg] at HG
  have HU := fun W i (h : Rd W b off l) hi => until_any b off cap l i W h hn hi
  have HR : Hid (Rd w b off l) := hr
  have GG : Hid (Good l) := G
  clear hr G hg
  go_enter Try.func20, Try.ntmps20
  go_wp2_with fail
  refine HG.mono ?_
  rintro e w1 ⟨rfl, hb1⟩
  have B1 : Hid (Below w.heap.size w w1) := hb1
  clear hb1 HG
  have I0 : Hid (FitInv l fr long n fr (begn l 0)) := by
    have e : begn l 0 = 0 := by unfold begn; rw [if_pos GG.out.pos, GG.out.first]
    show FitInv l fr long n fr (begn l 0)
    rw [e]; exact FitInv.start h1 h2
  go_wp2_with fail
  go_loopg [9, 35] l.length (fun kx s9 s35 wr => ∃ (st : Int) (k : Nat), s9 = .int .i64 st ∧ s35 = .int .i64 k ∧ 0 ≤ st ∧ k ≤ l.length ∧ l.length - k ≤ kx ∧ Hid (Below w.heap.size w wr) ∧ Hid (FitInv l fr long n st (begn l k)))
  case atStart => exact ⟨fr, 0, rfl, rfl, h1, Nat.zero_le _, by omega, B1, I0⟩
  case round =>
    clear I0 B1
    obtain ⟨st, k, rfl, rfl, hst, hk, hg, S1, I⟩ := hrel
    by_cases hlt : k < l.length
    · obtain ⟨c0, c1⟩ := (HR.out.below S1.out) k hlt
      obtain ⟨e1, e2, _⟩ := begOf GG.out hlt
      have I2 : Hid (FitInv l fr long n st (sAt l k).1) := by
        have := I.out; unfold begn at this; rw [if_pos hlt] at this; exact this
      have hen : begn l (k + 1) = endOf l k := rfl
      have EN : Hid (begn l (k + 1) = endOf l k) := hen
      have en0 : 0 ≤ endOf l k := by have := GG.out.nonneg k hlt; omega
      clear hen e1
      have S2 : Hid (∀ o, Below w.heap.size w (wr.alloc o)) := fun o => S1.out.trans ((Below.refl _ _).alloc S1.out.size _)
      have R2 : Hid (∀ o, Rd (wr.alloc o) b off l) := fun o => HR.out.below (S2.out o)
      generalize hx : sAt l k = x at c0 c1
      have X : Hid (sAt l k = x) := hx
      clear hx
      go_wp2_with fail
      refine (HU _ k (R2.out _) hlt).mono ?_
      rintro e w2 ⟨rfl, rfl⟩
      generalize hee : endOf l k = en at *
      have EE : Hid (endOf l k = en) := hee
      clear hee
      by_cases g1 : en ≤ st
      · go_wp2
        go_roundg (l.length - (k + 1))
        case measure => omega
        case rel =>
          have I3 : Hid (FitInv l fr long n st (begn l (k + 1))) := by
            show FitInv l fr long n st (begn l (k + 1)); rw [EN.out]; exact I2.out.skip h2 g1
          exact ⟨st, k + 1, rfl, by go_num, hst, by omega, Nat.le_refl _, S2.out _, I3⟩
      · by_cases g2 : x.2 < n
        · go_wp2
          go_roundg (l.length - (k + 1))
          case measure => omega
          case rel =>
            have I3 : Hid (FitInv l fr long n en (begn l (k + 1))) := by
              show FitInv l fr long n en (begn l (k + 1))
              rw [EN.out, ← EE.out]
              exact FitInv.few GG.out hlt I2.out h2 (by rw [EE.out]; omega) (by rw [X.out]; exact g2)
            exact ⟨en, k + 1, rfl, by go_num, en0, by omega, Nat.le_refl _, S2.out _, I3⟩
        · by_cases g3 : long ≤ en - st
          · go_wp2
            go_ret
            exact ⟨st, rfl, FitInv.found GG.out hlt I2.out (by rw [X.out]; omega) (by rw [EE.out]; exact g3), S2.out _⟩
          · go_wp2
            go_roundg (l.length - (k + 1))
            case measure => omega
            case rel =>
              have I3 : Hid (FitInv l fr long n st (begn l (k + 1))) := by
                show FitInv l fr long n st (begn l (k + 1))
                rw [EN.out, ← EE.out]
                exact FitInv.on GG.out hlt I2.out (by rw [X.out]; omega) (by rw [EE.out]; omega)
              exact ⟨st, k + 1, rfl, by go_num, hst, by omega, Nat.le_refl _, S2.out _, I3⟩
    · have IE : FitIs l fr long n (-1) := by
        have := I.out; unfold begn at this; rw [if_neg hlt] at this; exact this.none
      have IH : Hid (FitIs l fr long n (-1)) := IE
      clear IE
      go_wp2
      go_ret
      exact ⟨-1, rfl, IH.out, S1.out⟩

theorem fit_any (v : Value) (l : List (Int × Int)) (fr long n : Int) (w : World) (hs : Sl w v l) :
    Calls Try.prog 20 #[v, .int .i64 fr, .int .i64 long, .int .i64 n] w fun e w' => ∃ r, e = .returned (.int .i64 r) ∧ FitAns l fr long n r ∧ Below w.heap.size w w' := by
  by_cases h : goodB l = true ∧ 0 ≤ fr ∧ 1 ≤ long ∧ long ≤ 300 ∧ 0 ≤ n
  · have G := goodB_iff.1 h.1
    obtain ⟨hn, a, cap, rfl, h1⟩ := hs
    rcases h1 with rfl | ⟨b, off, rfl, hr⟩
    · have := G.pos; simp at this
    · refine (fit_good b off cap l fr long n w hr G h.2.1 h.2.2.1 h.2.2.2.1 h.2.2.2.2).mono ?_
      rintro e w' ⟨r, rfl, hf, hb⟩
      exact ⟨r, rfl, by unfold FitAns; rw [if_pos h]; exact hf, hb⟩
  · refine (fit_bad v l fr long n w hs h).mono ?_
    rintro e w' ⟨rfl, hb⟩
    exact ⟨-1, rfl, by unfold FitAns; rw [if_neg h], hb⟩

end Go.Proofs.Ytghhegajbehpeaa
