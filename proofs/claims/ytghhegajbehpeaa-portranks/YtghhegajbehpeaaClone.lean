/- slices.Clone and append at a list of steps, and New: the same steps in memory of the call's own; no condition but that the list can be. -/
import Derived.Test.YtghhegajbehpeaaRow
set_option linter.unusedSimpArgs false
set_option linter.unusedVariables false
namespace Go.Proofs.Ytghhegajbehpeaa
open Go.RowKit

theorem infoStep' : (Try.prog.info? 31).map (fun i => (i.zero, i.size, i.bytes)) = some (some (.agg #[.int .i64 0, .int .i64 0]), 2, 16) := by kernel_rfl

theorem infoStep : ∃ i, Try.prog.info? 31 = some i ∧ i.zero = some (.agg #[.int .i64 0, .int .i64 0]) ∧ i.size = 2 ∧ i.bytes = 16 := by
  have h := infoStep'
  cases hq : Try.prog.info? 31 with
  | none => rw [hq] at h; cases h
  | some i =>
    rw [hq] at h
    simp at h
    exact ⟨i, rfl, h.1, h.2.1, h.2.2⟩

theorem sizeStep : (Try.prog.info? 31).map (·.size) = some 2 := by
  obtain ⟨i, h1, _, h2, _⟩ := infoStep
  rw [h1]; simp [h2]

/-- what a row holds, as the cells that an append takes -/
theorem Rd.news {w : World} {b off : Nat} {l : List (Int × Int)} (h : Rd w b off l) : ∀ j u, (cells l)[j]? = some u → w.cell? ((⟨b, off, none⟩ : Addr).add j) = some u := by
  intro j u hu
  obtain ⟨h1, h2, h3⟩ := cells_of_get l j u hu
  rw [Addr.add_lit]
  obtain ⟨c0, c1⟩ := h (j / 2) h1
  rcases Nat.mod_two_eq_zero_or_one j with e | e
  · rw [h2 e, show off + j = off + j / 2 * 2 by omega]; exact c0
  · rw [h3 e, show off + j = off + j / 2 * 2 + 1 by omega]; exact c1

set_option maxHeartbeats 1000000 in
theorem clone_at (ad : Addr) (cap : Nat) (l : List (Int × Int)) (w : World) (hr : ∀ j u, (cells l)[j]? = some u → w.cell? (ad.add j) = some u) (hn : l.length ≤ 8796093022208) :
    Calls Try.prog 83 #[.slice (some ad) l.length cap] w fun e w' => ∃ g cap', e = .returned (.slice (some ⟨g, 0, none⟩) l.length cap') ∧ OwnG w' w.heap.size g cap' l ∧ Below w.heap.size w w' := by
  obtain ⟨i0, hi, hz0, hz1, hz2⟩ := infoStep
  have HI : Hid (Try.prog.info? 31 = some i0) := hi
  have HZ : Hid (i0.zero = some (.agg #[.int .i64 0, .int .i64 0]) ∧ i0.size = 2 ∧ i0.bytes = 16) := ⟨hz0, hz1, hz2⟩
  have q22 : ∀ (w : World) (a : Option Addr) (n c n' c' : Nat), (binOp .eql 22 (.slice a n c) (.slice none n' c')).run Try.prog w = .ok (.bool a.isNone) w := fun w a n c n' c' => Lib.run_eql_slice_nil w _ _ a n c n' c' Try.underlying22
  have A : Hid (∀ j u, (cells l)[j]? = some u → w.cell? (ad.add j) = some u) := hr
  clear hr hi hz0 hz1 hz2
  go_enter Try.func83, Try.ntmps83
  go_wp2_with (at_builtin; refine wpList_append_own _ rfl _ _ 22 rfl w.heap.size 31 i0 (.agg #[.int .i64 0, .int .i64 0]) 2 16 Try.underlying22 HI.out HZ.out.1 HZ.out.2.1 HZ.out.2.2 rfl (by omega) _ _ _ rfl (World.ownsRow_made w #[] 0 (Nat.le_refl _) (Nat.zero_le _) (by simp)) ad l.length cap (cells l) rfl ?qc1 ?qc2 ?qc3 ?qc4 ?qc5 ?qc6 ?_)
  case qc1 => exact cells_length l
  case qc2 =>
    intro j u hj
    exact cell_old (A.out j u hj) _
  case qc3 => exact cells_one l
  case qc4 => unfold maxLen; omega
  case qc5 => omega
  case qc6 => simp
  intro v' w1 hown hgrow hnil
  have hb : Below w.heap.size w w1 := ((Below.refl _ w).alloc (Nat.le_refl _) _).grown hgrow (by simp) (by intro k hk; simp [Value.ownBlock] at hk; omega)
  obtain ⟨g, cap', rfl, ho⟩ := OwnG.ofRow hown hnil
  have HO : Hid (OwnG w1 w.heap.size g cap' l) := ho
  have HB : Hid (Below w.heap.size w w1) := hb
  clear hown hgrow hnil ho hb
  go_wp2
  go_ret
  exact ⟨g, cap', rfl, HO.out, HB.out⟩

theorem clone_some (b off cap : Nat) (l : List (Int × Int)) (w : World) (hr : Rd w b off l) (hn : l.length ≤ 8796093022208) :
    Calls Try.prog 83 #[.slice (some ⟨b, off, none⟩) l.length cap] w fun e w' => ∃ g cap', e = .returned (.slice (some ⟨g, 0, none⟩) l.length cap') ∧ OwnG w' w.heap.size g cap' l ∧ Below w.heap.size w w' :=
  clone_at ⟨b, off, none⟩ cap l w hr.news hn

set_option maxHeartbeats 400000 in
theorem clone_nil (n c : Nat) (w : World) :
    Calls Try.prog 83 #[.slice none n c] w fun e w' => e = .returned (.slice none 0 0) ∧ w' = w := by
  have q22 : ∀ (w : World) (a : Option Addr) (n c n' c' : Nat), (binOp .eql 22 (.slice a n c) (.slice none n' c')).run Try.prog w = .ok (.bool a.isNone) w := fun w a n c n' c' => Lib.run_eql_slice_nil w _ _ a n c n' c' Try.underlying22
  go_enter Try.func83, Try.ntmps83
  go_wp2
  go_ret
  exact ⟨rfl, rfl⟩

theorem clone_any (v : Value) (l : List (Int × Int)) (w : World) (h : Sl w v l) :
    Calls Try.prog 83 #[v] w fun e w' => ∃ v', e = .returned v' ∧ Sl w' v' l ∧ Below w.heap.size w w' := by
  obtain ⟨hn, a, cap, rfl, h1⟩ := h
  rcases h1 with rfl | ⟨b, off, rfl, hr⟩
  · cases a with
    | none =>
      refine (clone_nil _ _ w).mono ?_
      rintro e w' ⟨rfl, rfl⟩
      exact ⟨_, rfl, ⟨by simp, none, 0, rfl, Or.inl rfl⟩, Below.refl _ _⟩
    | some ad =>
      refine (clone_at ad cap [] w (fun j u hu => by simp [cells] at hu) hn).mono ?_
      rintro e w' ⟨g, cap', rfl, ho, hb⟩
      exact ⟨_, rfl, ho.sl hn, hb⟩
  · refine (clone_some b off cap l w hr hn).mono ?_
    rintro e w' ⟨g, cap', rfl, ho, hb⟩
    exact ⟨_, rfl, ho.sl hn, hb⟩

set_option maxHeartbeats 400000 in
theorem new_any (w : World) :
    Calls Try.prog 18 #[] w fun e w' => ∃ v, e = .returned v ∧ Sl w' v [(0, 16)] ∧ Below w.heap.size w w' := by
  have hb : Below w.heap.size w (w.alloc (.cells #[.int .i64 0, .int .i64 16] 31)) := (Below.refl _ w).alloc (Nat.le_refl _) _
  obtain ⟨n0, n1⟩ := new_pair w (.int .i64 0) (.int .i64 16) 31
  have hr : Rd (w.alloc (.cells #[.int .i64 0, .int .i64 16] 31)) w.heap.size 0 [(0, 16)] := fun j hj => by
    have : j = 0 := by simpa using hj
    subst this
    exact ⟨n0, n1⟩
  have HB : Hid _ := hb
  have HR : Hid _ := hr
  clear n0 n1 hb hr
  go_enter Try.func18, Try.ntmps18
  go_wp2
  go_ret
  exact ⟨_, rfl, ⟨by simp, _, _, rfl, Or.inr ⟨_, _, rfl, HR.out⟩⟩, HB.out⟩

end Go.Proofs.Ytghhegajbehpeaa
