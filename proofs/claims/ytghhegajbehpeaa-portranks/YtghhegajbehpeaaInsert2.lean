/- slices.Insert of one step in the midst of a row of the call's own that has no room: a new row; and all roads in one; the list at most a thousand long. -/
import Derived.Test.YtghhegajbehpeaaInsert
set_option linter.unusedSimpArgs false
set_option linter.unusedVariables false
namespace Go.Proofs.Ytghhegajbehpeaa
open Go.RowKit

/-- a row in which one step has been set at place i and those from there on behind it -/
theorem ins_row2 (L : List Value) (l : List (Int × Int)) (i : Nat) (s : Int × Int) (hi : i ≤ l.length) (hL : (l.length + 1) * 2 ≤ L.length) (h : L.take (i * 2) = cells (l.take i)) :
    (splice (splice L (i * 2) (cells [s])) ((i + 1) * 2) (cells (l.drop i))).take ((l.take i ++ s :: l.drop i).length * 2) = cells (l.take i ++ s :: l.drop i) := by
  have hl : (l.take i ++ s :: l.drop i).length = l.length + 1 := by simp; omega
  have hX : (cells (l.take i)).length = i * 2 := by rw [cells_length, List.length_take]; omega
  have hY : (cells (l.drop i)).length = (l.length - i) * 2 := by rw [cells_length, List.length_drop]
  have hS : (cells [s]).length = 2 := rfl
  rw [hl]
  unfold splice
  rw [hS, hY, h]
  generalize L.drop (i * 2 + 2) = R0
  rw [show cells (l.take i ++ s :: l.drop i) = cells (l.take i) ++ (cells [s] ++ cells (l.drop i)) by rw [cells_append]; rfl]
  generalize cells (l.take i) = X at *
  generalize cells (l.drop i) = Y at *
  generalize cells [s] = S at *
  have a1 : (X ++ (S ++ R0)).take ((i + 1) * 2) = X ++ S := by rw [← List.append_assoc, List.take_append_of_le_length (by simp; omega)]; exact List.take_of_length_le (by simp; omega)
  rw [a1]
  generalize (X ++ (S ++ R0)).drop ((i + 1) * 2 + (l.length - i) * 2) = R
  rw [show X ++ S ++ (Y ++ R) = (X ++ (S ++ Y)) ++ R by simp]
  rw [List.take_append_of_le_length (by simp; omega)]
  exact List.take_of_length_le (by simp; omega)

/-- append(s[:i], make(S, n + 1 - i)...) where s has no room for one more -/
theorem grow_mid (B g cap i : Nat) (l : List (Int × Int)) (w : World) (ho : OwnG w B g cap l) (hlen : l.length ≤ 1000) (hi : i < l.length) (hroom : cap < l.length + 1) (ty : TypeId) :
    ∃ cap' W1, (Builtin.append_ #[22, 3] ty #[.slice (some ⟨g, 0, none⟩) i cap, .int .i64 ((l.length : Int) + 1 - (i : Int))]).run Try.prog w = .ok (.slice (some ⟨w.heap.size, 0, none⟩) (l.length + 1) cap') W1 ∧
      l.length + 1 ≤ cap' ∧ cap' ≤ maxLen ∧ (∃ cur : Array Value, W1.heap[w.heap.size]? = some (.cells cur 31 (0, 0)) ∧ cur.size = cap' * 2 ∧ cur.toList.take (i * 2) = cells (l.take i)) ∧ (∀ k, k < w.heap.size → W1.heap[k]? = w.heap[k]?) ∧ Below B w W1 := by
  obtain ⟨i0, hi0, hz0, hz1, hz2⟩ := infoStep
  have hle := ho.le
  have hX : (cells (l.take i)).length = i * 2 := by rw [cells_length, List.length_take]; omega
  have hold : (Builtin.firstCells i0.size i (.slice (some ⟨g, 0, none⟩) i cap)).run Try.prog w.drew = .ok (cells (l.take i)).toArray w.drew := by
    rw [hz1]
    refine run_firstCells_some w.drew 2 i ⟨g, 0, none⟩ i cap _ hX fun j v hj => ?_
    rw [Addr.add_lit, Nat.zero_add]
    rw [← cells_take, List.getElem?_take] at hj
    split at hj
    · exact ho.at hj
    · cases hj
  have hr := Lib.run_append_grow_zeros (P := Try.prog) w 22 3 ty 31 i0 (.agg #[.int .i64 0, .int .i64 0]) .i64 .i64 Try.underlying22 Try.underlying3 hi0 hz0 (some ⟨g, 0, none⟩) i cap (cells (l.take i)) hold (l.length + 1 - i) (by omega) (by omega) (by omega) (by omega) (by rw [hz2]; omega)
    (by rw [hz2]; exact growslice_fits (by omega) (by omega))
  rw [show i + (l.length + 1 - i) = l.length + 1 by omega] at hr
  have hge := grownCap_ge w (l.length + 1) cap 31
  have hcm : grownCap w (l.length + 1) cap 31 ≤ maxLen := grownCap_le_maxLen w (l.length + 1) cap 31 (by unfold maxLen; omega)
  refine ⟨_, _, by rw [show (l.length : Int) + 1 - (i : Int) = ((l.length + 1 - i : Nat) : Int) by omega]; exact hr, hge, hcm, ⟨_, heap_alloc_new w.drew _, ?_, ?_⟩, fun k hk => Below.heap_alloc w.drew _ k hk, ?_⟩
  · have : (Value.agg #[.int .i64 0, .int .i64 0]).cells.size = 2 := rfl
    simp only [Array.size_append, List.size_toArray, size_zeroCells, hX, this]
    omega
  · simp only [Array.toList_append, List.append_assoc]
    rw [List.take_append_of_le_length (by omega)]
    exact List.take_of_length_le (by omega)
  · exact (Below.refl B w).drew.alloc (by have := ho.base; have := ho.lt; show B ≤ w.heap.size; omega) _

set_option maxHeartbeats 2000000 in
set_option maxRecDepth 100000 in
theorem insert_mid (B g cap vb i : Nat) (l : List (Int × Int)) (s : Int × Int) (w : World) (ho : OwnG w B g cap l) (hlen : l.length ≤ 1000) (hi : i < l.length) (hroom : cap < l.length + 1) (hne : vb ≠ g)
    (hv : w.heap[vb]? = some (.cells #[.int .i64 s.1, .int .i64 s.2] 31 (0, 0))) :
    Calls Try.prog 103 #[.slice (some ⟨g, 0, none⟩) l.length cap, .int .i64 i, .slice (some ⟨vb, 0, none⟩) 1 1] w fun e w' =>
      ∃ g' cap', e = .returned (.slice (some ⟨g', 0, none⟩) (l.length + 1) cap') ∧ OwnG w' B g' cap' (l.take i ++ s :: l.drop i) ∧ Below B w w' := by
  have hvl : vb < w.heap.size := (Array.getElem?_eq_some_iff.1 hv).1
  have hgl := ho.lt
  have hle := ho.le
  obtain ⟨cap', W1, hrun, h1, h2, ⟨cur, h3, h4, h5⟩, h6, h7⟩ := grow_mid B g cap i l w ho hlen hi hroom 22
  obtain ⟨L, rfl⟩ : ∃ L : List Value, cur = L.toArray := ⟨cur.toList, by simp⟩
  rw [List.size_toArray] at h4
  have HR : Hid ((Builtin.append_ #[22, 3] 22 #[.slice (some ⟨g, 0, none⟩) i cap, .int .i64 ((l.length : Int) + 1 - (i : Int))]).run Try.prog w = .ok (.slice (some ⟨w.heap.size, 0, none⟩) (l.length + 1) cap') W1) := hrun
  have hmax : cap' ≤ 9223372036854775807 := by unfold maxLen at h2; exact h2
  have hBg : B ≤ w.heap.size := by have := ho.base; omega
  generalize w.heap.size = G at *
  -- the first copy: the step
  have D : Hid (W1.heap[G]? = some (.cells L.toArray 31 (0, 0)) ∧ (cells [s]).length = Nat.min 1 (l.length + 1 - i) * 2 ∧
      (∀ j v, (cells [s])[j]? = some v → W1.cell? ((⟨vb, 0, none⟩ : Addr).add j) = some v) ∧ i * 2 + (cells [s]).length ≤ L.length ∧ (∀ v ∈ cells [s], v.oneCell' = true) ∧ Below B w W1 ∧ B ≤ G) := by
    refine ⟨h3, ?_, fun j v hj => ?_, ?_, cells_one _, h7, hBg⟩
    · rw [show Nat.min 1 (l.length + 1 - i) = 1 by simp only [Nat.min_def]; split <;> omega]; rfl
    · rw [Addr.add_lit, Nat.zero_add, cell_of_row _ _ _ _ _ _ ((h6 vb hvl).trans hv)]
      simpa [cells] using hj
    · rw [h4]; simp [cells]; omega
  have HO1 : Hid (OwnG W1 B g cap l) := by
    obtain ⟨cur, q1, q2⟩ := ho.row
    exact ⟨ho.base, ho.le, ho.max, cur, (h6 g hgl).trans q1, q2⟩
  have HL : Hid (L.length = cap' * 2 ∧ L.take (i * 2) = cells (l.take i)) := ⟨h4, h5⟩
  have hz2 : ¬ ((i : Int) = (l.length : Int)) := by omega
  have hb3 : (i : Int) ≤ (l.length : Int) + 1 := by omega
  have hb4 : ¬ (cap = i) := by omega
  have hb5 : ¬ (cap' = i + 1) := by omega
  have hb7 : ¬ (cap' = i) := by omega
  have hwr : IntKind.i64.wrap ((i : Int) + 1) = (i : Int) + 1 := by rw [IntKind.wrap_i64]; omega
  have htn : ((i : Int) + 1).toNat = i + 1 := by omega
  have hb6 : (i : Int) + 1 ≤ (l.length : Int) + 1 := by omega
  have hb1 : (0 : Int) ≤ (i : Int) + 1 := by omega
  have hgG : g ≠ G := by omega
  have hin : i ≤ l.length := by omega
  have hin2 : (i : Int) ≤ (l.length : Int) := by omega
  clear ho hv hrun h2 h3 h4 h5 h6 h7
  go_enter Try.func103, Try.ntmps103
  go_wp2_with (first | (at_builtin; refine Lib.wpList_append_run _ rfl _ _ 22 3 rfl _ _ rfl rfl _ _ HR.out ?_) | (refine wpList_copy_splice2 rfl _ _ 22 22 rfl 31 Try.underlying22 sizeStep G (i * 2) (l.length + 1 - i) (cap' - i) ⟨vb, 0, none⟩ 1 1 rfl rfl L 31 D.out.1 (cells [s]) D.out.2.1 D.out.2.2.1 D.out.2.2.2.1 D.out.2.2.2.2.1 B w D.out.2.2.2.2.2.1 D.out.2.2.2.2.2.2 ?_; intro w1 hw1 hb1'))
  go_simp
  have E : Hid (w1.drew.heap[G]? = some (.cells (splice L (i * 2) (cells [s])).toArray 31 (0, 0)) ∧ (cells (l.drop i)).length = Nat.min (l.length - i) (l.length - i) * 2 ∧
      (∀ j v, (cells (l.drop i))[j]? = some v → w1.drew.cell? ((⟨g, i * 2, none⟩ : Addr).add j) = some v) ∧ (i + 1) * 2 + (cells (l.drop i)).length ≤ (splice L (i * 2) (cells [s])).length ∧ (∀ v ∈ cells (l.drop i), v.oneCell' = true) ∧ Below B w w1.drew ∧ B ≤ G) := by
    obtain ⟨x1, x2, x3⟩ := hw1.out
    have ho1 : OwnG w1 B g cap l := by
      obtain ⟨cur, q1, q2⟩ := HO1.out.row
      exact ⟨HO1.out.base, HO1.out.le, HO1.out.max, cur, (x2 g hgG).trans q1, q2⟩
    refine ⟨x1, ?_, fun j v hj => ?_, ?_, cells_one _, hb1'.drew, hBg⟩
    · rw [cells_length, List.length_drop, show Nat.min (l.length - i) (l.length - i) = l.length - i by simp only [Nat.min_def]; split <;> omega]
    · rw [Addr.add_lit]
      have : (cells l)[i * 2 + j]? = some v := by rw [← cells_drop, List.getElem?_drop] at hj; exact hj
      exact ho1.at this
    · rw [length_splice _ _ _ D.out.2.2.2.1, cells_length, List.length_drop, HL.out.1]; omega
  clear hb1'
  go_region_law ((refine step_copy_splice2 (by rfl) _ _ 22 22 (by rfl) 31 Try.underlying22 sizeStep G ((i + 1) * 2) (l.length - i) (cap' - (i + 1)) ⟨g, i * 2, none⟩ (l.length - i) (cap - i) (by simp [Act.eval, Act.put]) (by simp [Act.eval, Act.put]) (splice L (i * 2) (cells [s])) 31 E.out.1 (cells (l.drop i)) E.out.2.1 E.out.2.2.1 E.out.2.2.2.1 E.out.2.2.2.2.1 B w E.out.2.2.2.2.2.1 E.out.2.2.2.2.2.2 ?_; intro w2 hw2 hb2))
  have F : Hid (OwnG w2 B G cap' (l.take i ++ s :: l.drop i)) := by
    refine ⟨hBg, by simp; omega, by unfold maxLen; omega, _, hw2.out.1, ?_, ?_⟩
    · rw [List.size_toArray, length_splice _ _ _ E.out.2.2.2.1, length_splice _ _ _ D.out.2.2.2.1]; exact HL.out.1
    · have := ins_row2 L l i s (by omega) (by rw [HL.out.1]; omega) HL.out.2
      simpa using this
  have F2 : Hid (Below B w w2) := hb2
  clear hw2 hb2
  go_wp2
  go_ret
  exact ⟨G, cap', rfl, F.out, F2.out⟩

theorem insert_any (B g cap vb i : Nat) (l : List (Int × Int)) (s : Int × Int) (w : World) (ho : OwnG w B g cap l) (hlen : l.length ≤ 1000) (hi : i ≤ l.length) (hne : vb ≠ g)
    (hv : w.heap[vb]? = some (.cells #[.int .i64 s.1, .int .i64 s.2] 31 (0, 0))) :
    Calls Try.prog 103 #[.slice (some ⟨g, 0, none⟩) l.length cap, .int .i64 i, .slice (some ⟨vb, 0, none⟩) 1 1] w fun e w' =>
      ∃ g' cap', e = .returned (.slice (some ⟨g', 0, none⟩) (l.length + 1) cap') ∧ OwnG w' B g' cap' (l.take i ++ s :: l.drop i) ∧ Below B w w' := by
  by_cases h : i < l.length
  · by_cases hr : l.length + 1 ≤ cap
    · exact insert_room B g cap vb i l s w ho hlen h hr hne hv
    · exact insert_mid B g cap vb i l s w ho hlen h (by omega) hne hv
  · have e : i = l.length := by omega
    subst e
    simpa using insert_end B g cap vb l s w ho hlen hv

end Go.Proofs.Ytghhegajbehpeaa
