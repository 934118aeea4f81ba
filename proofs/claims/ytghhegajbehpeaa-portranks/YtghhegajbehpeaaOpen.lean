/- A slice of steps that came in, as a list of steps; it takes no more bytes than the form itself lets it. -/
import Derived.Test.YtghhegajbehpeaaMem
import Derived.ProofKit
import Derived.Deep.SlicePairs
import Derived.SizedLaws
set_option linter.unusedSimpArgs false
set_option linter.unusedVariables false
namespace Go.Proofs.Ytghhegajbehpeaa
open Go.ChangeShapes Go.WideShapes Go.ChangeAt Go.RowKit Go.Deep

theorem own : ownKnob Try.prog.godebug = none := by kernel_rfl
theorem laidOut : laidOutB Try.prog = true := by kernel_rfl
theorem bytesStep : Try.prog.bytesOf 31 = 16 := by kernel_rfl

theorem open_steps {H : Type} {enc : TypeId × Value → H} {W : World} {a0 : Option Addr} {len0 cap0 : Nat} {d : DataW H} {ps : List MemPlace} (h : DataW.Trod enc Try.prog W 0 (fun _ => true) true 22 (.slice a0 len0 cap0) d ps)
    (hsz : ∀ elems spare, d = .slice elems spare → (elems.length + spare.length) * Try.prog.bytesOf 31 ≤ reachBytes) : ∃ l, Sl W (.slice a0 len0 cap0) l := by
  obtain ⟨fuel, hf⟩ := h
  rcases open_slice_pairs Try.underlying22 Try.underlying31 (by kernel_rfl) rfl rfl (by kernel_rfl) (by kernel_rfl) hf with ⟨hcs, _⟩ | ⟨a, len, cap, m, n, V0, V1, D0, D1, P0, P1, hcs, _, hl, hm, hmm, hx, hc⟩
  · simp [Value.cells] at hcs
    obtain ⟨rfl, rfl, rfl⟩ := hcs
    exact ⟨[], by simp, none, 0, rfl, Or.inl rfl⟩
  · simp [Value.cells] at hcs
    obtain ⟨rfl, rfl, rfl⟩ := hcs
    have hs := hsz _ _ (Prod.mk.inj hx).1
    rw [bytesStep] at hs
    simp at hs
    have hr : reachBytes = 140737488351232 := rfl
    rw [hr] at hs
    simp at hmm
    subst hmm
    refine ⟨(List.range len0).map fun i => (intOf (V0 i), intOf (V1 i)), by simp; omega, some a, m, by simp, ?_⟩
    by_cases h0 : len0 = 0
    · subst h0; exact Or.inl rfl
    · right
      obtain ⟨b, off, spot⟩ := a
      have hspot : spot = none := by simpa [Addr.add] using World.cell?_spot (hc 0 (by omega)).1
      subst hspot
      refine ⟨b, off, rfl, fun j hj => ?_⟩
      simp at hj
      obtain ⟨c0, c1, t0, t1⟩ := hc j (by omega)
      obtain ⟨x0, e0, _⟩ := DataW.trod_int Try.underlying3 t0
      obtain ⟨x1, e1, _⟩ := DataW.trod_int Try.underlying3 t1
      have e0' : V0 j = .int .i64 x0 := by simpa using e0
      have e1' : V1 j = .int .i64 x1 := by simpa using e1
      rw [Addr.add_lit] at c0 c1
      have es : sAt ((List.range len0).map fun i => (intOf (V0 i), intOf (V1 i))) j = (x0, x1) := by
        rw [sAt_get (by simpa using hj)]
        simp [e0', e1', intOf]
      rw [es, c0, Nat.add_assoc, c1, e0', e1']
      exact ⟨rfl, rfl⟩

end Go.Proofs.Ytghhegajbehpeaa
