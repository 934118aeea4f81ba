/- A list of so many times -1: slices.Repeat, as Plan of package port calls it. -/
import Derived.Test.YtghhegajbehpeaaPSort
import Derived.OwnWalk
import Derived.Deep.RegionLaw
set_option linter.unusedSimpArgs false
set_option linter.unusedVariables false
namespace Go.Proofs.Ytghhegajbehpeaa
open Go.RowKit

set_option maxHeartbeats 4000000 in
set_option maxRecDepth 100000 in
theorem mul_any (n : Nat) (hn : n ≤ 14) (w : World) : Calls Try.prog 90 #[.int .u64 1, .int .u64 n] w fun e w' => e = .returned (.tuple #[.int .u64 0, .int .u64 n]) ∧ w' = w := by
  rcases (by omega : n = 0 ∨ n = 1 ∨ n = 2 ∨ n = 3 ∨ n = 4 ∨ n = 5 ∨ n = 6 ∨ n = 7 ∨ n = 8 ∨ n = 9 ∨ n = 10 ∨ n = 11 ∨ n = 12 ∨ n = 13 ∨ n = 14) with rfl | rfl | rfl | rfl | rfl | rfl | rfl | rfl | rfl | rfl | rfl | rfl | rfl | rfl | rfl
  all_goals
    go_enter Try.func90, Try.ntmps90
    go_wp2
    go_ret2
    exact ⟨rfl, rfl⟩

/-- so many times -1, then noughts -/
def repL (n m : Nat) : List Value := List.replicate m (.int .i64 (-1)) ++ List.replicate (n - m) (.int .i64 0)

theorem repL_splice (n m : Nat) (hm : m ≤ n) : splice (repL n m) m (List.replicate (min (n - m) m) (.int .i64 (-1))) = repL n (m + min (n - m) m) := by
  unfold splice repL
  rw [List.take_left' (by simp), List.length_replicate, List.drop_append, List.length_replicate, List.drop_of_length_le (by simp), List.nil_append, List.drop_replicate, ← List.append_assoc, List.replicate_append_replicate]
  congr 2
  omega

set_option maxHeartbeats 4000000 in
set_option maxRecDepth 100000 in
theorem repeat_any (b n : Nat) (hn : n ≤ 14) (w : World) (hc : w.cell? ⟨b, 0, none⟩ = some (.int .i64 (-1))) :
    Calls Try.prog 72 #[.slice (some ⟨b, 0, none⟩) 1 1, .int .i64 n] w fun e w' => e = .returned (.slice (some ⟨w.heap.size, 0, none⟩) n n) ∧ Hid (IRow w' w.heap.size w.heap.size n (List.replicate n (-1)) ∧ Below w.heap.size w w') := by
  have hn0 : ¬ (n : Int) < 0 := by omega
  have hn2 : ¬ (9223372036854775807 : Int) < (n : Int) := by omega
  have HC : Hid (w.cell? ⟨b, 0, none⟩ = some (.int .i64 (-1))) := hc
  have HB : Hid (b < w.heap.size) := World.block_lt_of_cell? w _ hc
  obtain ⟨i0, hi, hz0, hz1, hz2⟩ : ∃ i0, Try.prog.info? 3 = some i0 ∧ i0.zero = some (.int .i64 0) ∧ i0.size = 1 ∧ i0.bytes = 8 := by
    have h : (Try.prog.info? 3).map (fun i => (i.zero, i.size, i.bytes)) = some (some (.int .i64 0), 1, 8) := by kernel_rfl
    cases hq : Try.prog.info? 3 with
    | none => rw [hq] at h; cases h
    | some i => rw [hq] at h; simp at h; exact ⟨i, rfl, h.1, h.2.1, h.2.2⟩
  have HI : Hid (Try.prog.info? 3 = some i0 ∧ i0.zero = some (.int .i64 0) ∧ i0.size = 1 ∧ i0.bytes = 8) := ⟨hi, hz0, hz1, hz2⟩
  have HSZ : Hid ((Try.prog.info? 3).map (·.size) = some 1) := by show _ = _; rw [hi]; simp [hz1]
  have HBY : Hid (i0.bytes * n ≤ 281474976710656 ∧ n ≤ maxLen) := ⟨by rw [hz2]; omega, by unfold maxLen; omega⟩
  clear hc hi hz0 hz1 hz2
  go_enter Try.func72, Try.ntmps72
  go_wp2_with fail
  refine (mul_any n hn w).mono ?_
  rintro e w' ⟨rfl, rfl⟩
  go_upto_region 7 with (refine wpList_make_full _ rfl _ _ 57 rfl w'.heap.size 3 i0 (.int .i64 0) 1 Try.underlying57 HI.out.1 HI.out.2.1 HI.out.2.2.1 .i64 .i64 _ _ n rfl rfl (by first | rfl | go_num) (by first | rfl | go_num) HBY.out.1 HBY.out.2 (Nat.le_refl _) ?_; intro w1 hw1 hg1)
  have G1 : Hid (w1.heap[w'.heap.size]? = some (.cells (repL n 0).toArray 3 (0, 0))) := by
    rcases hw1.2 with ⟨h, _⟩ | ⟨g, cap, cur, h, h1, h2, h3, h4, h5, h6⟩
    · cases h
    · injection h with ha hb hc
      injection ha with ha
      injection ha with ha
      subst ha
      have e1 : cur.toList = (repL n 0) := by
        have e2 : (madeCells (Value.int IntKind.i64 0).cells (n * 1)).toList = List.replicate n (.int .i64 0) := by rw [Nat.mul_one]; exact toList_madeCells_one _ _
        rw [e2] at h6
        have e3 : cur.toList.take (n * 1) = cur.toList := List.take_of_length_le (by simp; omega)
        rw [e3] at h6
        rw [h6]; simp [repL]
      show _ = _
      rw [← e1]; simpa using h2
  have B1 : Hid (Below w'.heap.size w' w1) := (Below.refl _ w').grown hg1 (Nat.le_refl _) (fun k hk => by cases hk)
  have C1 : Hid (w1.cell? ⟨b, 0, none⟩ = some (.int .i64 (-1))) := (B1.out.cell (p := ⟨b, 0, none⟩) HB.out).trans HC.out
  clear hw1 hg1
  have KK : Hid ((List.replicate (Nat.min 1 n) (Value.int IntKind.i64 (-1))).length = Nat.min 1 n ∧ (∀ j v, (List.replicate (Nat.min 1 n) (Value.int IntKind.i64 (-1)))[j]? = some v → w1.cell? ((⟨b, 0, none⟩ : Addr).add j) = some v) ∧ 0 + (List.replicate (Nat.min 1 n) (Value.int IntKind.i64 (-1))).length ≤ (repL n 0).length ∧ ∀ v ∈ List.replicate (Nat.min 1 n) (Value.int IntKind.i64 (-1)), v.oneCell' = true) := by
    refine ⟨by simp, fun j v hj => ?_, ?_, fun v hv => by rw [(List.mem_replicate.1 hv).2]; rfl⟩
    · have h := List.getElem?_eq_some_iff.1 hj
      have hl := h.1
      simp only [List.length_replicate] at hl
      have : j = 0 := by have := Nat.min_le_left 1 n; have h3 : Nat.min 1 n ≤ 1 := this; omega
      subst this
      rw [← h.2, List.getElem_replicate]
      exact C1.out
    · have h3 : Nat.min 1 n ≤ n := Nat.min_le_right 1 n
      simp [repL]; exact h3
  go_wp2_with (refine wpList_copy_splice rfl _ _ 57 57 rfl 3 Try.underlying57 HSZ.out (some ⟨w'.heap.size, 0, none⟩) (some ⟨b, 0, none⟩) n n 1 1 rfl rfl w'.heap.size 0 (repL n 0) 3 G1.out (List.replicate (Nat.min 1 n) (.int .i64 (-1))) KK.out.1 (fun _ => ⟨rfl, _, rfl, KK.out.2.1⟩) KK.out.2.2.1 KK.out.2.2.2 w'.heap.size w' B1.out (Nat.le_refl _) ?_; intro w2 hw2 hb2)
  have W2 : Hid (w2.heap[w'.heap.size]? = some (.cells (repL n (Nat.min 1 n)).toArray 3 (0, 0)) ∧ Below w'.heap.size w' w2) := by
    refine ⟨?_, hb2⟩
    have h := hw2.out
    have e : splice (repL n 0) 0 (List.replicate (Nat.min 1 n) (.int .i64 (-1))) = repL n (Nat.min 1 n) := by
      have h3 : Nat.min 1 n ≤ n := Nat.min_le_right 1 n
      unfold splice repL
      simp
    rw [e] at h; exact h
  have hm1 : Nat.min 1 n ≤ n ∧ (1 ≤ Nat.min 1 n ∨ n = 0) := ⟨Nat.min_le_right 1 n, by by_cases h : n = 0; exact Or.inr h; exact Or.inl (Nat.le_min.2 ⟨Nat.le_refl 1, by omega⟩)⟩
  clear hw2 hb2 G1 B1 C1 KK
  generalize Nat.min 1 n = n1 at *
  have HM1 : Hid (n1 ≤ n ∧ (1 ≤ n1 ∨ n = 0)) := hm1
  clear hm1
  go_loopg [8] 20 (fun kx s8 wr => ∃ (m : Nat), s8 = .int .i64 m ∧ m ≤ n ∧ (1 ≤ m ∨ n = 0) ∧ n - m ≤ kx ∧ Hid (wr.heap[w'.heap.size]? = some (.cells (repL n m).toArray 3 (0, 0)) ∧ Below w'.heap.size w' wr))
  case atStart => exact ⟨n1, rfl, HM1.out.1, HM1.out.2, by omega, W2⟩
  case round =>
    clear W2
    obtain ⟨m, rfl, hm, hm2, hg, I⟩ := hrel
    by_cases hlt : m < n
    · have hlt2 : (m : Int) < (n : Int) := by omega
      have hm3 : 1 ≤ m := by omega
      have hm4 : (m : Int) ≤ (n : Int) := by omega
      have hmn : Nat.min m (n - m) = min (n - m) m := Nat.min_comm _ _
      have hle1 : min (n - m) m ≤ m := Nat.min_le_right _ _
      have hle2 : min (n - m) m ≤ n - m := Nat.min_le_left _ _
      have hpos : 0 < min (n - m) m := by omega
      generalize hq : min (n - m) m = q at *
      have HQ : Hid (min (n - m) m = q) := hq
      have KK : Hid ((List.replicate q (Value.int IntKind.i64 (-1))).length = Nat.min m (n - m) ∧ (∀ j v, (List.replicate q (Value.int IntKind.i64 (-1)))[j]? = some v → wr.drew.cell? ((⟨w'.heap.size, 0, none⟩ : Addr).add j) = some v) ∧ m + (List.replicate q (Value.int IntKind.i64 (-1))).length ≤ (repL n m).length ∧ ∀ v ∈ List.replicate q (Value.int IntKind.i64 (-1)), v.oneCell' = true) := by
        refine ⟨by rw [hmn]; simp, fun j v hj => ?_, by simp [repL]; omega, fun v hv => by rw [(List.mem_replicate.1 hv).2]; rfl⟩
        have h := List.getElem?_eq_some_iff.1 hj
        have hl := h.1
        simp only [List.length_replicate] at hl
        rw [← h.2, List.getElem_replicate, Addr.add_lit]
        show wr.cell? _ = _
        rw [cell_of_row _ _ _ _ _ _ I.out.1, Nat.zero_add]
        simp [repL, List.getElem?_append, show j < m by omega]
      have G4 : Hid (wr.drew.heap[w'.heap.size]? = some (.cells (repL n m).toArray 3 (0, 0))) := I.out.1
      have B4 : Hid (Below w'.heap.size w' wr.drew) := I.out.2.drew
      have HNE : Hid ((if n = m then some (⟨w'.heap.size, 0, none⟩ : Addr) else some ⟨w'.heap.size, m, none⟩) = some ⟨w'.heap.size, m, none⟩) := if_neg (by omega)
      have hwr : IntKind.i64.wrap ((m : Int) + (q : Int)) = (m : Int) + (q : Int) := wrap_small (by omega) (by omega)
      clear hq hmn
      go_wp2_with fail
      go_region_law (refine step_copy_splice rfl (.tmp 41) (.tmp 44) 57 57 rfl 3 Try.underlying57 HSZ.out (if n = m then some ⟨w'.heap.size, 0, none⟩ else some ⟨w'.heap.size, m, none⟩) (some ⟨w'.heap.size, 0, none⟩) (n - m) (n - m) m n (by simp [Act.eval, Act.put]) (by simp [Act.eval, Act.put]) w'.heap.size m (repL n m) 3 G4.out (List.replicate q (.int .i64 (-1))) KK.out.1 (fun _ => ⟨HNE.out, _, rfl, KK.out.2.1⟩) KK.out.2.2.1 KK.out.2.2.2 w'.heap.size w' B4.out (Nat.le_refl _) ?_; intro w4 hw4 hb4)
      have W4 : Hid (w4.heap[w'.heap.size]? = some (.cells (repL n (m + q)).toArray 3 (0, 0)) ∧ Below w'.heap.size w' w4) := by
        refine ⟨?_, hb4⟩
        have h := hw4.out
        have e := repL_splice n m hm
        rw [HQ.out] at e
        rw [e] at h; exact h
      clear hw4 hb4
      go_wp2_with fail
      go_roundg (n - (m + q))
      case measure => omega
      case rel => exact ⟨m + q, by first | go_num | (simp; done), by omega, by omega, Nat.le_refl _, W4⟩
    · have hme : m = n := by omega
      subst hme
      have D : Hid (IRow wr w'.heap.size w'.heap.size m (List.replicate m (-1)) ∧ Below w'.heap.size w' wr) := by
        refine ⟨⟨Nat.le_refl _, by simp, HBY.out.2, _, I.out.1, by simp [repL], ?_⟩, I.out.2⟩
        have e : ∀ k : Nat, cellsK cInt (List.replicate k (-1)) = List.replicate k (.int .i64 (-1)) := by
          intro k
          induction k with
          | zero => rfl
          | succ k ih => rw [List.replicate_succ, List.replicate_succ]; simp only [cellsK, cInt]; rw [ih]; rfl
        rw [e]
        simp [repL]
      clear I
      have hlt2 : ¬ (m : Int) < (m : Int) := by omega
      go_wp2_with fail
      go_ret
      exact ⟨rfl, D⟩

end Go.Proofs.Ytghhegajbehpeaa
