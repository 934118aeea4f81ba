/- slices.Insert of one step into a row of the call's own: the step stands at its place in the row that comes back; room or none; the list at most a thousand long. -/
import Derived.Test.YtghhegajbehpeaaClone
import Derived.Deep.RegionLaw
set_option linter.unusedSimpArgs false
set_option linter.unusedVariables false
namespace Go.Proofs.Ytghhegajbehpeaa
open Go.RowKit

set_option maxHeartbeats 2000000 in
set_option maxRecDepth 100000 in
theorem insert_end (B g cap vb : Nat) (l : List (Int × Int)) (s : Int × Int) (w : World) (ho : OwnG w B g cap l) (hlen : l.length ≤ 1000)
    (hv : w.heap[vb]? = some (.cells #[.int .i64 s.1, .int .i64 s.2] 31 (0, 0))) :
    Calls Try.prog 103 #[.slice (some ⟨g, 0, none⟩) l.length cap, .int .i64 l.length, .slice (some ⟨vb, 0, none⟩) 1 1] w fun e w' =>
      ∃ g' cap', e = .returned (.slice (some ⟨g', 0, none⟩) (l.length + 1) cap') ∧ OwnG w' B g' cap' (l ++ [s]) ∧ Below B w w' := by
  obtain ⟨i0, hi, hz0, hz1, hz2⟩ := infoStep
  have HI : Hid (Try.prog.info? 31 = some i0) := hi
  have HZ : Hid (i0.zero = some (.agg #[.int .i64 0, .int .i64 0]) ∧ i0.size = 2 ∧ i0.bytes = 16) := ⟨hz0, hz1, hz2⟩
  have HO : Hid (OwnG w B g cap l) := ho
  have HV : Hid (w.heap[vb]? = some (.cells #[.int .i64 s.1, .int .i64 s.2] 31 (0, 0))) := hv
  have hmax : cap ≤ 9223372036854775807 := by have := ho.max; unfold maxLen at this; exact this
  have hle := ho.le
  clear ho hv hi hz0 hz1 hz2
  have q1 : (cells [s]).length = 1 * 2 := rfl
  have q2 : ∀ (j : Nat) (u : Value), (cells [s])[j]? = some u → w.cell? ((⟨vb, 0, none⟩ : Addr).add j) = some u := fun j u hu => by
    rw [Addr.add_lit, Nat.zero_add, cell_of_row _ _ _ _ _ _ HV.out]
    simpa [cells] using hu
  have q3 := cells_one [s]
  have q4 : l.length + 1 ≤ maxLen := by unfold maxLen; omega
  have q6 : B ≤ w.heap.size := by have := HO.out.base; have := HO.out.lt; omega
  have Q1 : Hid ((cells [s]).length = 1 * 2 ∧ (∀ (j : Nat) (u : Value), (cells [s])[j]? = some u → w.cell? ((⟨vb, 0, none⟩ : Addr).add j) = some u) ∧ (∀ u ∈ cells [s], u.oneCell' = true) ∧ l.length + 1 ≤ maxLen ∧ (l.length + 1) * 16 ≤ 140737488355328 ∧ B ≤ w.heap.size) := ⟨q1, q2, q3, q4, by omega, q6⟩
  clear q1 q2 q3 q4 q6
  go_enter Try.func103, Try.ntmps103
  go_wp2_with (at_builtin; refine wpList_append_own _ rfl _ _ 22 rfl B 31 i0 (.agg #[.int .i64 0, .int .i64 0]) 2 16 Try.underlying22 HI.out HZ.out.1 HZ.out.2.1 HZ.out.2.2 rfl (by omega) _ _ _ rfl HO.out.toRow ⟨vb, 0, none⟩ 1 1 (cells [s]) rfl Q1.out.1 Q1.out.2.1 Q1.out.2.2.1 Q1.out.2.2.2.1 Q1.out.2.2.2.2.1 Q1.out.2.2.2.2.2 ?_)
  all_goals
    intro v' w1 hown hgrow hnil
    have hb : Below B w w1 := (Below.refl B w).grown hgrow Q1.out.2.2.2.2.2 (fun k hk => by simp [Value.ownBlock] at hk; have := HO.out.base; omega)
    rw [← cells_append, show l.length + 1 = (l ++ [s]).length by simp] at hown
    obtain ⟨g', cap', rfl, ho⟩ := OwnG.ofRow hown hnil
    have H1 : Hid (OwnG w1 B g' cap' (l ++ [s])) := ho
    have H2 : Hid (Below B w w1) := hb
    clear hown hgrow hnil ho hb
    go_wp2
    go_ret
    exact ⟨g', cap', by simp, H1.out, H2.out⟩

/-- a row in which the steps from place i on have been moved up and one has been set there -/
theorem ins_row (L : List Value) (l : List (Int × Int)) (i : Nat) (s : Int × Int) (hi : i ≤ l.length) (hL : (l.length + 1) * 2 ≤ L.length) (h : L.take (l.length * 2) = cells l) :
    (splice (splice L ((i + 1) * 2) (cells (l.drop i))) (i * 2) (cells [s])).take ((l.take i ++ s :: l.drop i).length * 2) = cells (l.take i ++ s :: l.drop i) := by
  have hl : (l.take i ++ s :: l.drop i).length = l.length + 1 := by simp; omega
  have hx : L.take (i * 2) = cells (l.take i) := by
    rw [← cells_take, ← h, List.take_take]
    congr 1
    omega
  have hX : (cells (l.take i)).length = i * 2 := by rw [cells_length, List.length_take]; omega
  have hY : (cells (l.drop i)).length = (l.length - i) * 2 := by rw [cells_length, List.length_drop]
  have hS : (cells [s]).length = 2 := rfl
  have e1 : L.take ((i + 1) * 2) = cells (l.take i) ++ (L.drop (i * 2)).take 2 := by
    rw [← hx, show (i + 1) * 2 = i * 2 + 2 by omega, List.take_add]
  have hZ : ((L.drop (i * 2)).take 2).length = 2 := by rw [List.length_take, List.length_drop]; omega
  rw [hl]
  unfold splice
  rw [hS, hY, e1]
  generalize hZd : (L.drop (i * 2)).take 2 = Z at hZ
  generalize L.drop ((i + 1) * 2 + (l.length - i) * 2) = R
  rw [show cells (l.take i ++ s :: l.drop i) = cells (l.take i) ++ (cells [s] ++ cells (l.drop i)) by rw [cells_append]; rfl]
  generalize cells (l.take i) = X at *
  generalize cells (l.drop i) = Y at *
  generalize cells [s] = S at *
  have a1 : (X ++ Z ++ (Y ++ R)).take (i * 2) = X := by rw [List.append_assoc, List.take_append_of_le_length (by omega)]; exact List.take_of_length_le (by omega)
  have a2 : (X ++ Z ++ (Y ++ R)).drop (i * 2 + 2) = Y ++ R := by
    rw [List.drop_append, List.drop_of_length_le (by simp; omega)]
    simp [hX, hZ]
  rw [a1, a2, show X ++ (S ++ (Y ++ R)) = (X ++ (S ++ Y)) ++ R by simp]
  rw [List.take_append_of_le_length (by simp; omega)]
  exact List.take_of_length_le (by simp; omega)

theorem overlaps_no (w : World) (g vb : Nat) (hne : vb ≠ g) {cur vcur : Array Value} {t t' : TypeId} (hg : w.heap[g]? = some (.cells cur t (0, 0))) (h0 : cur.size ≠ 0) (hv : w.heap[vb]? = some (.cells vcur t' (0, 0))) (off lb cb : Nat) :
    (callFunc 117 #[.slice (some ⟨vb, 0, none⟩) 1 1, .slice (some ⟨g, off, none⟩) lb cb]).run Try.prog w = .ok (.value (.bool false)) w := by
  rw [run_callFunc_extern Try.func117 (by kernel_rfl) (by kernel_rfl) (by kernel_rfl) (e := Extern.SlicesOverlaps.overlaps #[22, 22] #[4]) (by kernel_rfl),
    Lib.run_overlaps_apart w 22 4 31 Try.underlying22 2 Try.sizeOf31 ⟨vb, 0, none⟩ ⟨g, off, none⟩ 1 1 lb cb hne t' t vcur.size cur.size (by simp [World.shape?, hv]) (by simp [World.shape?, hg]) h0 (by simp [World.frozen?, hv]) (by simp [World.frozen?, hv])]
  rfl

set_option maxHeartbeats 2000000 in
set_option maxRecDepth 100000 in
theorem insert_room (B g cap vb i : Nat) (l : List (Int × Int)) (s : Int × Int) (w : World) (ho : OwnG w B g cap l) (hlen : l.length ≤ 1000) (hi : i < l.length) (hroom : l.length + 1 ≤ cap) (hne : vb ≠ g)
    (hv : w.heap[vb]? = some (.cells #[.int .i64 s.1, .int .i64 s.2] 31 (0, 0))) :
    Calls Try.prog 103 #[.slice (some ⟨g, 0, none⟩) l.length cap, .int .i64 i, .slice (some ⟨vb, 0, none⟩) 1 1] w fun e w' =>
      ∃ g' cap', e = .returned (.slice (some ⟨g', 0, none⟩) (l.length + 1) cap') ∧ OwnG w' B g' cap' (l.take i ++ s :: l.drop i) ∧ Below B w w' := by
  obtain ⟨cur, hg, hcs, hct⟩ := ho.row
  have hov := overlaps_no w g vb hne hg (by omega) hv
  have HO : Hid (OwnG w B g cap l) := ho
  have HV : Hid (w.heap[vb]? = some (.cells #[.int .i64 s.1, .int .i64 s.2] 31 (0, 0))) := hv
  have HG : Hid (w.heap[g]? = some (.cells cur 31 (0, 0)) ∧ cur.size = cap * 2 ∧ cur.toList.take (l.length * 2) = cells l) := ⟨hg, hcs, hct⟩
  have hmax : cap ≤ 9223372036854775807 := by have := ho.max; unfold maxLen at this; exact this
  have hz2 : ¬ ((i : Int) = (l.length : Int)) := by omega
  have hb1 : (0 : Int) ≤ (i : Int) + 1 := by omega
  have hb3 : (i : Int) ≤ (l.length : Int) + 1 := by omega
  have hb4 : ¬ (cap = i) := by omega
  have hb5 : ¬ (cap = i + 1) := by omega
  have D : Hid (w.drew.heap[g]? = some (.cells cur.toList.toArray 31 (0, 0)) ∧ (cells (l.drop i)).length = Nat.min (l.length + 1 - i) (l.length - i) * 2 ∧
      (∀ j v, (cells (l.drop i))[j]? = some v → w.drew.cell? ((⟨g, i * 2, none⟩ : Addr).add j) = some v) ∧ (i + 1) * 2 + (cells (l.drop i)).length ≤ cur.toList.length ∧ (∀ v ∈ cells (l.drop i), v.oneCell' = true) ∧ Below B w w.drew ∧ B ≤ g) := by
    refine ⟨by show w.heap[g]? = _; simpa using hg, ?_, fun j v hj => ?_, ?_, cells_one _, (Below.refl B w).drew, ho.base⟩
    · rw [cells_length, List.length_drop, show Nat.min (l.length + 1 - i) (l.length - i) = l.length - i by simp only [Nat.min_def]; split <;> omega]
    · rw [Addr.add_lit]
      have : (cells l)[i * 2 + j]? = some v := by rw [← cells_drop, List.getElem?_drop] at hj; exact hj
      exact ho.at this
    · have : cur.toList.length = cap * 2 := by simpa using hcs
      rw [cells_length, List.length_drop]; omega
  have hwr : IntKind.i64.wrap ((i : Int) + 1) = (i : Int) + 1 := by rw [IntKind.wrap_i64]; omega
  have htn : ((i : Int) + 1).toNat = i + 1 := by omega
  have hb6 : (i : Int) + 1 ≤ (l.length : Int) + 1 := by omega
  clear ho hv hg hcs hct
  go_enter Try.func103, Try.ntmps103
  go_wp2_with (simp only [hov])
  go_region_law ((refine step_copy_splice2 (by rfl) _ _ 22 22 (by rfl) 31 Try.underlying22 sizeStep g ((i + 1) * 2) (l.length - i) (cap - (i + 1)) ⟨g, i * 2, none⟩ (l.length + 1 - i) (cap - i) (by simp [Act.eval, Act.put]) (by simp [Act.eval, Act.put]) cur.toList 31 D.out.1 (cells (l.drop i)) D.out.2.1 D.out.2.2.1 D.out.2.2.2.1 D.out.2.2.2.2.1 B w D.out.2.2.2.2.2.1 D.out.2.2.2.2.2.2 ?_; intro w1 hw1 hb1))
  have E : Hid (w1.heap[g]? = some (.cells (splice cur.toList ((i + 1) * 2) (cells (l.drop i))).toArray 31 (0, 0)) ∧ (cells [s]).length = Nat.min 1 (l.length + 1 - i) * 2 ∧
      (∀ j v, (cells [s])[j]? = some v → w1.cell? ((⟨vb, 0, none⟩ : Addr).add j) = some v) ∧ i * 2 + (cells [s]).length ≤ (splice cur.toList ((i + 1) * 2) (cells (l.drop i))).length ∧ (∀ v ∈ cells [s], v.oneCell' = true) ∧ Below B w w1 ∧ B ≤ g) := by
    obtain ⟨x1, x2, x3⟩ := hw1.out
    refine ⟨x1, ?_, fun j v hj => ?_, ?_, cells_one _, hb1, D.out.2.2.2.2.2.2⟩
    · rw [show Nat.min 1 (l.length + 1 - i) = 1 by simp only [Nat.min_def]; split <;> omega]; rfl
    · have hv' : w1.heap[vb]? = some (.cells #[.int .i64 s.1, .int .i64 s.2] 31 (0, 0)) := (x2 vb hne).trans HV.out
      rw [Addr.add_lit, Nat.zero_add, cell_of_row _ _ _ _ _ _ hv']
      simpa [cells] using hj
    · rw [length_splice _ _ _ D.out.2.2.2.1]
      have := D.out.2.2.2.1
      simp [cells] at this ⊢
      omega
  clear hov
  go_wp2_with (refine wpList_copy_splice2 rfl _ _ 22 22 rfl 31 Try.underlying22 sizeStep g (i * 2) (l.length + 1 - i) (cap - i) ⟨vb, 0, none⟩ 1 1 rfl rfl (splice cur.toList ((i + 1) * 2) (cells (l.drop i))) 31 E.out.1 (cells [s]) E.out.2.1 E.out.2.2.1 E.out.2.2.2.1 E.out.2.2.2.2.1 B w E.out.2.2.2.2.2.1 E.out.2.2.2.2.2.2 ?_; intro w2 hw2 hb2)
  have F : Hid (OwnG w2 B g cap (l.take i ++ s :: l.drop i)) := by
    obtain ⟨y1, y2⟩ := HG.out.2
    refine ⟨HO.out.base, by simp; omega, HO.out.max, _, hw2.out.1, ?_, ?_⟩
    · rw [List.size_toArray, length_splice _ _ _ E.out.2.2.2.1, length_splice _ _ _ D.out.2.2.2.1]; simpa using y1
    · have := ins_row cur.toList l i s (by omega) (by simp; omega) y2
      simpa using this
  have F2 : Hid (Below B w w2) := hb2
  clear hw2 hb2
  go_wp2
  go_ret
  exact ⟨g, cap, rfl, F.out, F2.out⟩

end Go.Proofs.Ytghhegajbehpeaa
