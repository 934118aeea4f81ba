/- Steps of the document's own answer: the profile of what is free time by time. -/
import Derived.Test.YtmcdgkdhdnfbfaaRefLess
set_option linter.unusedSimpArgs false
set_option linter.unusedVariables false
namespace Go.Proofs.Ytmcdgkdhdnfbfaa
open Go.RowKit

theorem new_row (w : World) (x y : Value) (t : TypeId) : ∀ (j : Nat) (u : Value), ([x, y] : List Value)[j]? = some u → (w.alloc (.cells #[x, y] t)).cell? ((⟨w.heap.size, 0, none⟩ : Addr).add j) = some u := fun j u hu => by
  rw [Addr.add_lit, Nat.zero_add, cell_of_row _ _ _ _ _ _ (heap_alloc_new w _)]
  simpa using hu

set_option maxHeartbeats 2000000 in
set_option maxRecDepth 100000 in
theorem refSteps_any (f : List Int) (hf : InF f) (w : World) :
    Calls Try.prog 18 #[.agg (ic f).toArray] w fun e w' => ∃ v r, e = .returned v ∧ Sl w' v r ∧ Good r ∧ Says f r ∧ Below w.heap.size w w' := by
  obtain ⟨i0, hi, hz0, hz1, hz2⟩ := infoStep
  have HI : Hid (Try.prog.info? 31 = some i0) := hi
  have HZ : Hid (i0.zero = some (.agg #[.int .i64 0, .int .i64 0]) ∧ i0.size = 2 ∧ i0.bytes = 16) := ⟨hz0, hz1, hz2⟩
  have HF : Hid (InF f) := hf
  have B0 : Hid (Below w.heap.size w (w.alloc (.cells (ic f).toArray 24))) := (Below.refl _ w).alloc (Nat.le_refl _) _
  have A0 : Hid (Arr (w.alloc (.cells (ic f).toArray 24)) w.heap.size f) := ⟨hf.1, heap_alloc_new w _⟩
  clear hf hi hz0 hz1 hz2
  go_enter Try.func18, Try.ntmps18
  go_wp2_with (refine wpList_load_arr rfl _ rfl w.heap.size f rfl A0.out ?_)
  have O0 : Hid ((w.alloc (.cells (ic f).toArray 24)).ownsRow (w.heap.size + 1) 31 2 (.slice none 0 0) 0 (cells [])) := World.ownsRow_nil _ _ _ _
  have Z0 : Hid (w.heap.size + 1 ≤ (w.alloc (.cells (ic f).toArray 24)).heap.size) := by show _ ≤ _; simp
  generalize w.alloc (.cells (ic f).toArray 24) = W at *
  go_loopg [3, 7] 300 (fun kx s3 s7 wr => ∃ (t : Nat) (r : List (Int × Int)), s7 = .int .i64 t ∧ t ≤ 300 ∧ 300 - t ≤ kx ∧ r.length ≤ t ∧ Hid (Below w.heap.size w wr) ∧ Hid (Arr wr w.heap.size f) ∧ Hid (wr.ownsRow (w.heap.size + 1) 31 2 s3 r.length (cells r)) ∧ Hid (w.heap.size + 1 ≤ wr.heap.size) ∧ Hid (SInv f t r))
  case atStart => exact ⟨0, [], rfl, by omega, by omega, Nat.le_refl _, B0, A0, O0, Z0, SInv.start f⟩
  case round =>
    clear B0 A0 O0 Z0
    obtain ⟨t, r, rfl, ht, hg, hrl, S1, A1, O1, Z1, I⟩ := hrel
    by_cases hlt : t < 300
    · have hix := fun W => run_index_arr f HF.out.1 t hlt W
      generalize hxx : f.getD t 0 = x at *
      have XX : Hid (f.getD t 0 = x) := hxx
      clear hxx
      have ht3 : (t : Int) < 300 := by omega
      by_cases h0 : t = 0
      · have hb0 : ((t : Int) == 0) = true := beq_iff_eq.2 (by omega)
        have I2 : Hid (SInv f (t + 1) (r ++ [((t : Int), x)])) := by have := I.out.snoc HF.out hlt (Or.inl h0); rw [XX.out] at this; exact this
        clear h0
        have Q1 : Hid ((cells [((t : Int), x)]).length = 1 * 2 ∧ (∀ (j : Nat) (u : Value), (cells [((t : Int), x)])[j]? = some u → (wr.alloc (.cells #[.int .i64 t, .int .i64 x] 31)).cell? ((⟨wr.heap.size, 0, none⟩ : Addr).add j) = some u) ∧ (∀ u ∈ cells [((t : Int), x)], u.oneCell' = true) ∧ r.length + 1 ≤ maxLen ∧ (r.length + 1) * 16 ≤ 140737488355328 ∧ w.heap.size + 1 ≤ (wr.alloc (.cells #[.int .i64 t, .int .i64 x] 31)).heap.size) :=
          ⟨rfl, new_row wr _ _ _, cells_one _, by unfold maxLen; omega, by omega, by have := Z1.out; simp; omega⟩
        go_wp2_with (at_builtin; refine wpList_append_own _ rfl _ _ 22 rfl (w.heap.size + 1) 31 i0 (.agg #[.int .i64 0, .int .i64 0]) 2 16 Try.underlying22 HI.out HZ.out.1 HZ.out.2.1 HZ.out.2.2 rfl (by omega) u3 r.length (cells r) rfl (O1.out.alloc _) ⟨wr.heap.size, 0, none⟩ 1 1 (cells [((t : Int), x)]) rfl Q1.out.1 Q1.out.2.1 Q1.out.2.2.1 Q1.out.2.2.2.1 Q1.out.2.2.2.2.1 Q1.out.2.2.2.2.2 ?_)
        intro v' w1 hown hgrow hnil
        have hbw : Below (w.heap.size + 1) wr w1 := ((Below.refl _ wr).alloc Z1.out _).grown hgrow Q1.out.2.2.2.2.2 (fun k hk => (O1.out.lt k hk).1)
        have S2 : Hid (Below w.heap.size w w1) := S1.out.trans (hbw.mono (by omega))
        have A2 : Hid (Arr w1 w.heap.size f) := A1.out.later hbw (by omega)
        have Z2 : Hid (w.heap.size + 1 ≤ w1.heap.size) := by have := hbw.size; have := Z1.out; show _ ≤ _; omega
        rw [← cells_append, show r.length + 1 = (r ++ [((t : Int), x)]).length by simp] at hown
        have O2 : Hid (w1.ownsRow (w.heap.size + 1) 31 2 v' (r ++ [((t : Int), x)]).length (cells (r ++ [((t : Int), x)]))) := hown
        clear hown hgrow hnil hbw Q1
        go_wp2
        go_roundg (300 - (t + 1))
        case measure => omega
        case rel => exact ⟨t + 1, r ++ [((t : Int), x)], by go_num, by omega, Nat.le_refl _, by simp; omega, S2, A2, O2, Z2, I2⟩
      · obtain ⟨m, hm⟩ : ∃ m, t = m + 1 := ⟨t - 1, by omega⟩
        have hb0 : ((t : Int) == 0) = false := beq_eq_false_iff_ne.2 (by omega)
        have q0 := A1.out.cell m (by omega)
        generalize hyy : f.getD m 0 = y at *
        have YY : Hid (f.getD (t - 1) 0 = y) := by show f.getD (t - 1) 0 = y; rw [hm, Nat.add_sub_cancel]; exact hyy
        clear hyy
        subst hm
        have hm3 : (m : Int) < 300 := by omega
        have hix2 : ∀ W, (Instr.index 24 (.agg (ic f).toArray) (.int .i64 ((m : Int) + 1))).run Try.prog W = .ok (.int .i64 x) W := fun W => hix W
        clear hix
        by_cases hxy : x = y
        · have hne : (x != y) = false := by simp [hxy]
          have I2 : Hid (SInv f (m + 1 + 1) r) := I.out.skip (by omega) (by rw [XX.out, YY.out]; exact hxy)
          clear hxy
          go_wp2
          go_roundg (300 - (m + 1 + 1))
          case measure => omega
          case rel => exact ⟨m + 1 + 1, r, by go_num, by omega, Nat.le_refl _, by omega, S1, A1, O1, Z1, I2⟩
        · have hne : (x != y) = true := by simp [hxy]
          have I2 : Hid (SInv f (m + 1 + 1) (r ++ [(((m : Int) + 1), x)])) := by have := I.out.snoc HF.out hlt (Or.inr (by rw [XX.out, YY.out]; exact hxy)); rw [XX.out] at this; exact this
          clear hxy
          have Q1 : Hid ((cells [(((m : Int) + 1), x)]).length = 1 * 2 ∧ (∀ (j : Nat) (u : Value), (cells [(((m : Int) + 1), x)])[j]? = some u → (wr.alloc (.cells #[.int .i64 ((m : Int) + 1), .int .i64 x] 31)).cell? ((⟨wr.heap.size, 0, none⟩ : Addr).add j) = some u) ∧ (∀ u ∈ cells [(((m : Int) + 1), x)], u.oneCell' = true) ∧ r.length + 1 ≤ maxLen ∧ (r.length + 1) * 16 ≤ 140737488355328 ∧ w.heap.size + 1 ≤ (wr.alloc (.cells #[.int .i64 ((m : Int) + 1), .int .i64 x] 31)).heap.size) :=
            ⟨rfl, new_row wr _ _ _, cells_one _, by unfold maxLen; omega, by omega, by have := Z1.out; simp; omega⟩
          go_wp2_with (at_builtin; refine wpList_append_own _ rfl _ _ 22 rfl (w.heap.size + 1) 31 i0 (.agg #[.int .i64 0, .int .i64 0]) 2 16 Try.underlying22 HI.out HZ.out.1 HZ.out.2.1 HZ.out.2.2 rfl (by omega) u3 r.length (cells r) rfl (O1.out.alloc _) ⟨wr.heap.size, 0, none⟩ 1 1 (cells [(((m : Int) + 1), x)]) rfl Q1.out.1 Q1.out.2.1 Q1.out.2.2.1 Q1.out.2.2.2.1 Q1.out.2.2.2.2.1 Q1.out.2.2.2.2.2 ?_)
          intro v' w1 hown hgrow hnil
          have hbw : Below (w.heap.size + 1) wr w1 := ((Below.refl _ wr).alloc Z1.out _).grown hgrow Q1.out.2.2.2.2.2 (fun k hk => (O1.out.lt k hk).1)
          have S2 : Hid (Below w.heap.size w w1) := S1.out.trans (hbw.mono (by omega))
          have A2 : Hid (Arr w1 w.heap.size f) := A1.out.later hbw (by omega)
          have Z2 : Hid (w.heap.size + 1 ≤ w1.heap.size) := by have := hbw.size; have := Z1.out; show _ ≤ _; omega
          rw [← cells_append, show r.length + 1 = (r ++ [(((m : Int) + 1), x)]).length by simp] at hown
          have O2 : Hid (w1.ownsRow (w.heap.size + 1) 31 2 v' (r ++ [(((m : Int) + 1), x)]).length (cells (r ++ [(((m : Int) + 1), x)]))) := hown
          clear hown hgrow hnil hbw Q1
          go_wp2
          go_roundg (300 - (m + 1 + 1))
          case measure => omega
          case rel => exact ⟨m + 1 + 1, r ++ [(((m : Int) + 1), x)], by go_num, by omega, Nat.le_refl _, by simp; omega, S2, A2, O2, Z2, I2⟩
    · have hte : t = 300 := by omega
      have D : Hid (Good r ∧ Says f r) := by have := I.out; rw [hte] at this; exact this.done HF.out
      have hv : u3 ≠ .slice none 0 0 := by
        intro e
        have hp := D.out.1.pos
        rcases O1.out.2 with ⟨_, h⟩ | ⟨g, cap, cur, h, _⟩
        · omega
        · rw [e] at h; cases h
      obtain ⟨g, cap, rfl, ho⟩ := OwnG.ofRow O1.out hv
      have SL : Hid (Sl wr (.slice (some ⟨g, 0, none⟩) r.length cap) r) := ho.sl (by have := D.out.1.len; omega)
      clear hv ho O1 hte
      have ht5 : ¬ ((t : Int) < 300) := by omega
      clear hlt ht hg hrl
      go_wp2
      go_ret
      first | exact ⟨_, r, rfl, SL.out, D.out.1, D.out.2, S1.out⟩ | exact ⟨r, rfl, SL.out, D.out.1, D.out.2, S1.out⟩ | exact ⟨_, rfl, r, SL.out, D.out.1, D.out.2, S1.out⟩

end Go.Proofs.Ytmcdgkdhdnfbfaa
