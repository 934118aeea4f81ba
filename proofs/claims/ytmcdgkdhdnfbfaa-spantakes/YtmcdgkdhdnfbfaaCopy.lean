/- append of all steps of a slice to nil: the same steps in memory of the call's own. -/
import Derived.Test.YtmcdgkdhdnfbfaaClone
set_option linter.unusedSimpArgs false
set_option linter.unusedVariables false
namespace Go.Proofs.Ytmcdgkdhdnfbfaa
open Go.RowKit

theorem run_append_copy (v : Value) (l : List (Int × Int)) (w : World) (hs : Sl w v l) (ty : TypeId) :
    ∃ v' w', (Builtin.append_ #[22, 22] ty #[.slice none 0 0, v]).run Try.prog w = .ok v' w' ∧ Sl w' v' l ∧ Below w.heap.size w w' := by
  obtain ⟨i0, hi, hz0, hz1, hz2⟩ := infoStep
  obtain ⟨hn, a, cap, rfl, h1⟩ := hs
  cases a with
  | none =>
    have hl : l = [] := by
      rcases h1 with h | ⟨b, off, h, _⟩
      · exact h
      · cases h
    subst hl
    refine ⟨.slice none 0 0, w, ?_, ⟨by simp, none, 0, rfl, Or.inl rfl⟩, Below.refl _ _⟩
    simp [Builtin.append_, run_underlying Try.underlying22, sizeOf, typeInfo, hi, Builtin.lenOf, Builtin.firstCells, loadCells, loadCellsFrom]
  | some ad =>
    have hnews : ∀ j u, (cells l)[j]? = some u → w.cell? (ad.add j) = some u := by
      rcases h1 with rfl | ⟨b, off, h, hr⟩
      · intro j u hu; simp [cells] at hu
      · injection h with h
        subst h
        exact hr.news
    obtain ⟨v', w', hr, ho, hg, hv⟩ := run_append_own (P := Try.prog) w w.heap.size 22 ty 31 i0 (.agg #[.int .i64 0, .int .i64 0]) 2 16 Try.underlying22 hi hz0 hz1 hz2 rfl (by omega) (.slice none 0 0) 0 [] (World.ownsRow_nil w _ _ _) ad l.length cap (cells l) (cells_length l) hnews (cells_one l) (by unfold maxLen; omega) (by omega) (Nat.le_refl _)
    refine ⟨v', w', hr, ?_, (Below.refl _ w).grown hg (Nat.le_refl _) (fun k hk => by simp [Value.ownBlock] at hk)⟩
    rw [Nat.zero_add, List.nil_append] at ho
    by_cases e : v' = .slice none 0 0
    · have h0 : l.length = 0 := (hv.1 e).2
      have hl : l = [] := List.eq_nil_of_length_eq_zero h0
      subst hl
      rw [e]
      exact ⟨by simp, none, 0, rfl, Or.inl rfl⟩
    · obtain ⟨g, cap', rfl, hO⟩ := OwnG.ofRow ho e
      exact hO.sl hn

end Go.Proofs.Ytmcdgkdhdnfbfaa
