/- Texts of this claim, in one: RPrint. -/
import Derived.BigQuiet
import Derived.Test.YtcmdoeledmkfmabDoorXRIsOrd
import Derived.Test.YtcmdoeledmkfmabDoorQL
/- An order's line in the document's own words: PrintOrder: P4.2. -/
set_option linter.unusedSimpArgs false
set_option linter.unusedVariables false
namespace Go.Proofs.YtcmdoeledmkfmabDoor
open Go.RowKit


theorem slice_wordP (k : Nat) (hk : k < 15) (x : World) : (Instr.slice 9 (.string ⟨(refWord k).toArray⟩) none (some (.int .i64 ((refWord k).length - 2 : Int))) none).run Tryd.prog x = .ok (.string ⟨(word k).toArray⟩) x := by
  obtain rfl | rfl | rfl | rfl | rfl | rfl | rfl | rfl | rfl | rfl | rfl | rfl | rfl | rfl | rfl : k = 0 ∨ k = 1 ∨ k = 2 ∨ k = 3 ∨ k = 4 ∨ k = 5 ∨ k = 6 ∨ k = 7 ∨ k = 8 ∨ k = 9 ∨ k = 10 ∨ k = 11 ∨ k = 12 ∨ k = 13 ∨ k = 14 := by omega
  all_goals kernel_rfl

set_option maxHeartbeats 4000000 in
set_option maxRecDepth 100000 in
theorem refPrint_any (o : Ord) (w : World) (hA : AS w) :
    Calls Tryd.prog 6 #[.agg #[.int .i64 o.kd, .int .i64 o.a, .int .i64 o.b, .int .i64 o.c]] w fun e w' => PrintPost o w e w' := by
  have hb0 : Below w.heap.size w (w.alloc (.cells #[.int .i64 o.kd, .int .i64 o.a, .int .i64 o.b, .int .i64 o.c] 23)) := (Below.refl _ w).alloc (Nat.le_refl _) _
  have M0 : Hid (IOM w w.heap.size o (w.alloc (.cells #[.int .i64 o.kd, .int .i64 o.a, .int .i64 o.b, .int .i64 o.c] 23))) := ⟨LOB.new w o, hA.later hb0, hb0⟩
  have HG := fun W h => refIsOrder_any o W h
  have HW := fun W h => words_any W h
  have HD := fun n h0 h1 W => decimal_any n h0 h1 W
  clear hb0 hA
  by_cases g : GoodO o
  case neg =>
    have hg : goodOB o = false := goodOB_no g
    rw [hg] at HG
    have NG : Hid (¬ GoodO o) := g
    clear g hg
    obtain ⟨kd, a, b, c⟩ := o
    go_enter Tryd.func6, Tryd.ntmps6
    go_upto_region 1 with fail
    go_wp2_with fail
    refine (HG _ M0.out.2.1).mono ?_
    rintro e w1 ⟨rfl, hb1⟩
    have B1 : Hid (Below w.heap.size w w1) := M0.out.2.2.trans (hb1.mono (by simp))
    clear hb1 HG M0
    go_wp2_with fail
    go_ret2
    exact ⟨Or.inr ⟨NG.out, rfl⟩, B1.out⟩
  have hg : goodOB o = true := goodOB_iff.2 g
  rw [hg] at HG
  have GG : Hid (GoodO o) := g
  have HS : Hid (∀ n ∈ numsO o, -1073741824 ≤ n ∧ n ≤ 1073741824) := g.small
  have hkk := g.kind
  clear g hg
  obtain ⟨kd, a, b, c⟩ := o
  simp only at hkk
  obtain ⟨k, rfl⟩ : ∃ k : Nat, kd = (k : Int) + 1 := ⟨(kd - 1).toNat, by omega⟩
  have hk : k < 14 := by omega
  have hkd : ((k : Int) + 1).toNat = k + 1 := by omega
  clear hkk
  generalize hz : w.heap.size = z at *
  go_enter Tryd.func6, Tryd.ntmps6
  go_upto_region 1 with fail
  generalize (w.alloc (.cells #[.int .i64 ((k : Int) + 1), .int .i64 a, .int .i64 b, .int .i64 c] 23)) = W1 at *
  go_wp2_with (refine wpList_load_ord rfl _ rfl z (⟨(k : Int) + 1, a, b, c⟩ : Ord) rfl M0.out.1 ?_)
  refine (HG _ M0.out.2.1).mono ?_
  rintro e w1 ⟨rfl, hb1⟩
  have M1 : Hid (IOM w z (⟨(k : Int) + 1, a, b, c⟩ : Ord) w1) := M0.out.later hb1
  clear hb1 HG M0
  go_upto_region 3 with fail
  have M2 : Hid (IOM w z (⟨(k : Int) + 1, a, b, c⟩ : Ord) w1.drew) := M1.out.later (Below.refl _ _).drew
  have hwk : IntKind.i64.wrap (k : Int) = (k : Int) := by rw [IntKind.wrap_i64]; omega
  have hkn : ¬ ((14 : Int) ≤ (k : Int)) := by omega
  clear M1
  refine wp_region_held_drew (S := fun W => Hid (IOM w z (⟨(k : Int) + 1, a, b, c⟩ : Ord) W)) (by kernel_rfl) M2 (fun hHeld => ?_)
  refine wpAnyH_take (i := 1) (oi := { dst := some 12, op := Go.Op.fieldAddr 23 (Go.Operand.tmp 1) 0, type := 0, pos := "ref.go:340", after := #[], guard := none }) (v := ?_) rfl (by kernel_rfl) (by kernel_rfl) (by kernel_rfl) (fun _ _ _ h => h) (Or.inl ⟨by rfl, ?_⟩) hHeld ?_
  rotate_left
  · (intro w hSw; first | (go_simp; done) | (go_simp; with_reducible rfl))
  simp only [Act.put, List.setIfInBounds_toArray, List.set_cons_zero, List.set_cons_succ]
  refine wpAnyH_take (i := 2) (oi := { dst := some 13, op := Go.Op.load 3 (Go.Operand.tmp 12), type := 3, pos := "ref.go:340", after := #[{ on := 1, ground := Go.Ground.data }], guard := none }) (v := .int .i64 ((k : Int) + 1)) rfl (by kernel_rfl) (by kernel_rfl) (by kernel_rfl) (fun _ _ _ h => h) (Or.inl ⟨by rfl, by intro w hSw; have q := hSw.out.1.cells.1; go_simp⟩) hHeld ?_
  simp only [Act.put, List.setIfInBounds_toArray, List.set_cons_zero, List.set_cons_succ]
  refine wpAnyH_take (i := 3) (oi := { dst := some 14, op := Go.Op.binOp Go.BinOp.sub 3 (Go.Operand.tmp 13) (Go.Operand.const (Go.Value.int Go.IntKind.i64 1)) 3, type := 3, pos := "ref.go:340", after := #[{ on := 2, ground := Go.Ground.data }], guard := none }) (v := .int .i64 (k : Int)) rfl (by kernel_rfl) (by kernel_rfl) (by kernel_rfl) (fun _ _ _ h => h) (Or.inl ⟨by rfl, by intro w hSw; go_simp⟩) hHeld ?_
  simp only [Act.put, List.setIfInBounds_toArray, List.set_cons_zero, List.set_cons_succ]
  refine wpAnyH_ready (rs := [0]) (by kernel_rfl) (by simp) ?_
  refine AllReadyH.cons rfl (fun K hK => ?_) AllReadyH.nil
  go_simp
  refine (HW _ hHeld.out.2.1).mono ?_
  rintro e w2 ⟨g, rfl, hr, hb2⟩
  have M3 : Hid (IOM w z (⟨(k : Int) + 1, a, b, c⟩ : Ord) w2) := hHeld.out.later hb2
  have hq := hr.refAt hk
  clear hr hb2 HW hHeld M2
  go_wp2_with fail
  refine hK.out _ _ M3 (fun hHeld => ?_)
  clear hK K
  refine wpAnyH_take (i := 4) (oi := { dst := some 15, op := Go.Op.indexAddr 37 (Go.Operand.tmp 11) (Go.Operand.tmp 14), type := 0, pos := "ref.go:340", after := #[{ on := 0, ground := Go.Ground.data }, { on := 3, ground := Go.Ground.data }], guard := none }) (v := .pointer (some ⟨g, k, none⟩)) rfl (by kernel_rfl) (by kernel_rfl) (by kernel_rfl) (fun _ _ _ h => h) (Or.inl ⟨by rfl, by intro w hSw; go_simp⟩) hHeld ?_
  simp only [Act.put, List.setIfInBounds_toArray, List.set_cons_zero, List.set_cons_succ]
  refine wpAnyH_ready (rs := [5]) (by kernel_rfl) (by simp) ?_
  refine AllReadyH.cons rfl (fun K hK => ?_) AllReadyH.nil
  go_simp
  refine hK.out _ _ M3 (fun hHeld => ?_)
  clear hK K
  refine wpAnyH_take (i := 6) (oi := { dst := some 4, op := Go.Op.assign (Go.Operand.tmp 16), type := 9, pos := "ref.go:340", after := #[{ on := 5, ground := Go.Ground.data }, { on := 0, ground := Go.Ground.chain }, { on := 0, ground := Go.Ground.phase }, { on := 1, ground := Go.Ground.phase }, { on := 2, ground := Go.Ground.phase }, { on := 3, ground := Go.Ground.phase }, { on := 4, ground := Go.Ground.phase }, { on := 5, ground := Go.Ground.phase }], guard := none }) (v := ?_) rfl (by kernel_rfl) (by kernel_rfl) (by kernel_rfl) (fun _ _ _ h => h) (Or.inl ⟨by rfl, ?_⟩) hHeld ?_
  rotate_left
  · (intro w hSw; first | (go_simp; done) | (go_simp; with_reducible rfl))
  simp only [Act.put, List.setIfInBounds_toArray, List.set_cons_zero, List.set_cons_succ]
  refine wpAnyH_done (by kernel_rfl) ?_ _
  clear hHeld hq hwk hkn
  have hil := index_last (k + 1) (by omega)
  have hsl := slice_wordP (k + 1) (by omega)
  have hl2 : 2 ≤ ((refWord (k + 1)).length : Int) := by rw [refWord_len]; omega
  have hl8 : ((refWord (k + 1)).length : Int) ≤ 8 := by have := word_len (k + 1) (by omega); rw [refWord_len]; omega
  have hcl := cntO_le (k + 1)
  generalize refWord (k + 1) = rw at *
  generalize hcn : cntO (k + 1) = cn at *
  go_upto_region 5 with fail
  have M4 : Hid (IOM w z (⟨(k : Int) + 1, a, b, c⟩ : Ord) w2.drew) := M3.out.later (Below.refl _ _).drew
  have hw8 : IntKind.u8.wrap ((48 + (cn : Int)) - 48) = (cn : Int) := by
    have e : (48 + (cn : Int)) - 48 = ((cn : Nat) : Int) := by omega
    rw [e]
    obtain rfl | rfl | rfl | rfl : cn = 0 ∨ cn = 1 ∨ cn = 2 ∨ cn = 3 := by omega
    all_goals rfl
  have hwl : IntKind.i64.wrap ((rw.length : Int) - 1) = (rw.length : Int) - 1 := by rw [IntKind.wrap_i64]; omega
  have hc3 : ((cn : Nat) : Int) ≤ 3 := by omega
  clear M3 hsl
  refine wp_region_held_drew (S := fun W => Hid (IOM w z (⟨(k : Int) + 1, a, b, c⟩ : Ord) W)) (by kernel_rfl) M4 (fun hHeld => ?_)
  refine wpAnyH_take (i := 0) (oi := { dst := some 22, op := Go.Op.fieldAddr 23 (Go.Operand.tmp 1) 1, type := 0, pos := "ref.go:342", after := #[], guard := none }) (v := ?_) rfl (by kernel_rfl) (by kernel_rfl) (by kernel_rfl) (fun _ _ _ h => h) (Or.inl ⟨by rfl, ?_⟩) hHeld ?_
  rotate_left
  · (intro w hSw; first | (go_simp; done) | (go_simp; with_reducible rfl))
  simp only [Act.put, List.setIfInBounds_toArray, List.set_cons_zero, List.set_cons_succ]
  refine wpAnyH_take (i := 1) (oi := { dst := some 23, op := Go.Op.load 3 (Go.Operand.tmp 22), type := 3, pos := "ref.go:342", after := #[{ on := 0, ground := Go.Ground.data }], guard := none }) (v := .int .i64 a) rfl (by kernel_rfl) (by kernel_rfl) (by kernel_rfl) (fun _ _ _ h => h) (Or.inl ⟨by rfl, by intro w hSw; have q := hSw.out.1.cells.2.1; go_simp⟩) hHeld ?_
  simp only [Act.put, List.setIfInBounds_toArray, List.set_cons_zero, List.set_cons_succ]
  refine wpAnyH_take (i := 2) (oi := { dst := some 24, op := Go.Op.fieldAddr 23 (Go.Operand.tmp 1) 2, type := 0, pos := "ref.go:342", after := #[], guard := none }) (v := ?_) rfl (by kernel_rfl) (by kernel_rfl) (by kernel_rfl) (fun _ _ _ h => h) (Or.inl ⟨by rfl, ?_⟩) hHeld ?_
  rotate_left
  · (intro w hSw; first | (go_simp; done) | (go_simp; with_reducible rfl))
  simp only [Act.put, List.setIfInBounds_toArray, List.set_cons_zero, List.set_cons_succ]
  refine wpAnyH_take (i := 3) (oi := { dst := some 25, op := Go.Op.load 3 (Go.Operand.tmp 24), type := 3, pos := "ref.go:342", after := #[{ on := 2, ground := Go.Ground.data }], guard := none }) (v := .int .i64 b) rfl (by kernel_rfl) (by kernel_rfl) (by kernel_rfl) (fun _ _ _ h => h) (Or.inl ⟨by rfl, by intro w hSw; have q := hSw.out.1.cells.2.2.1; go_simp⟩) hHeld ?_
  simp only [Act.put, List.setIfInBounds_toArray, List.set_cons_zero, List.set_cons_succ]
  refine wpAnyH_take (i := 4) (oi := { dst := some 26, op := Go.Op.fieldAddr 23 (Go.Operand.tmp 1) 3, type := 0, pos := "ref.go:342", after := #[], guard := none }) (v := ?_) rfl (by kernel_rfl) (by kernel_rfl) (by kernel_rfl) (fun _ _ _ h => h) (Or.inl ⟨by rfl, ?_⟩) hHeld ?_
  rotate_left
  · (intro w hSw; first | (go_simp; done) | (go_simp; with_reducible rfl))
  simp only [Act.put, List.setIfInBounds_toArray, List.set_cons_zero, List.set_cons_succ]
  refine wpAnyH_take (i := 5) (oi := { dst := some 27, op := Go.Op.load 3 (Go.Operand.tmp 26), type := 3, pos := "ref.go:342", after := #[{ on := 4, ground := Go.Ground.data }], guard := none }) (v := .int .i64 c) rfl (by kernel_rfl) (by kernel_rfl) (by kernel_rfl) (fun _ _ _ h => h) (Or.inl ⟨by rfl, by intro w hSw; have q := hSw.out.1.cells.2.2.2; go_simp⟩) hHeld ?_
  simp only [Act.put, List.setIfInBounds_toArray, List.set_cons_zero, List.set_cons_succ]
  refine wpAnyH_take (i := 7) (oi := { dst := some 29, op := Go.Op.move (Go.Operand.tmp 4), type := 9, pos := "ref.go:342", after := #[], guard := none }) (v := ?_) rfl (by kernel_rfl) (by kernel_rfl) (by kernel_rfl) (fun _ _ _ h => h) (Or.inl ⟨by rfl, ?_⟩) hHeld ?_
  rotate_left
  · (intro w hSw; first | (go_simp; done) | (go_simp; with_reducible rfl))
  simp only [Act.put, List.setIfInBounds_toArray, List.set_cons_zero, List.set_cons_succ]
  refine wpAnyH_take (i := 8) (oi := { dst := some 30, op := Go.Op.move (Go.Operand.tmp 4), type := 9, pos := "ref.go:342", after := #[], guard := none }) (v := ?_) rfl (by kernel_rfl) (by kernel_rfl) (by kernel_rfl) (fun _ _ _ h => h) (Or.inl ⟨by rfl, ?_⟩) hHeld ?_
  rotate_left
  · (intro w hSw; first | (go_simp; done) | (go_simp; with_reducible rfl))
  simp only [Act.put, List.setIfInBounds_toArray, List.set_cons_zero, List.set_cons_succ]
  refine wpAnyH_take (i := 9) (oi := { dst := some 31, op := Go.Op.call { callee := Go.Callee.builtin Go.Builtin.len, args := #[Go.Operand.tmp 30], argTypes := #[9] }, type := 3, pos := "ref.go:342", after := #[{ on := 8, ground := Go.Ground.data }], guard := none }) (v := ?_) rfl (by kernel_rfl) (by kernel_rfl) (by kernel_rfl) (fun _ _ _ h => h) (Or.inl ⟨by rfl, ?_⟩) hHeld ?_
  rotate_left
  · (intro w hSw; first | (go_simp; done) | (go_simp; with_reducible rfl))
  simp only [Act.put, List.setIfInBounds_toArray, List.set_cons_zero, List.set_cons_succ]
  refine wpAnyH_take (i := 10) (oi := { dst := some 32, op := Go.Op.binOp Go.BinOp.sub 3 (Go.Operand.tmp 31) (Go.Operand.const (Go.Value.int Go.IntKind.i64 1)) 3, type := 3, pos := "ref.go:342", after := #[{ on := 9, ground := Go.Ground.data }], guard := none }) (v := .int .i64 ((rw.length : Int) - 1)) rfl (by kernel_rfl) (by kernel_rfl) (by kernel_rfl) (fun _ _ _ h => h) (Or.inl ⟨by rfl, by intro w hSw; go_simp⟩) hHeld ?_
  simp only [Act.put, List.setIfInBounds_toArray, List.set_cons_zero, List.set_cons_succ]
  refine wpAnyH_take (i := 11) (oi := { dst := some 33, op := Go.Op.index 9 (Go.Operand.tmp 29) (Go.Operand.tmp 32), type := 5, pos := "ref.go:342", after := #[{ on := 7, ground := Go.Ground.data }, { on := 10, ground := Go.Ground.data }], guard := none }) (v := .int .u8 (48 + (cn : Int))) rfl (by kernel_rfl) (by kernel_rfl) (by kernel_rfl) (fun _ _ _ h => h) (Or.inl ⟨by rfl, by intro w hSw; go_simp⟩) hHeld ?_
  simp only [Act.put, List.setIfInBounds_toArray, List.set_cons_zero, List.set_cons_succ]
  refine wpAnyH_take (i := 12) (oi := { dst := some 34, op := Go.Op.binOp Go.BinOp.sub 5 (Go.Operand.tmp 33) (Go.Operand.const (Go.Value.int Go.IntKind.u8 48)) 5, type := 5, pos := "ref.go:342", after := #[{ on := 11, ground := Go.Ground.data }], guard := none }) (v := .int .u8 (cn : Int)) rfl (by kernel_rfl) (by kernel_rfl) (by kernel_rfl) (fun _ _ _ h => h) (Or.inl ⟨by rfl, by intro w hSw; go_simp⟩) hHeld ?_
  simp only [Act.put, List.setIfInBounds_toArray, List.set_cons_zero, List.set_cons_succ]
  refine wpAnyH_take (i := 15) (oi := { dst := some 37, op := Go.Op.move (Go.Operand.const (Go.Value.int Go.IntKind.i64 0)), type := 3, pos := "ref.go:342", after := #[], guard := none }) (v := ?_) rfl (by kernel_rfl) (by kernel_rfl) (by kernel_rfl) (fun _ _ _ h => h) (Or.inl ⟨by rfl, ?_⟩) hHeld ?_
  rotate_left
  · (intro w hSw; first | (go_simp; done) | (go_simp; with_reducible rfl))
  simp only [Act.put, List.setIfInBounds_toArray, List.set_cons_zero, List.set_cons_succ]
  have hW5 : Below w2.heap.size w2.drew (w2.drew.alloc (.cells #[.int .i64 a, .int .i64 b, .int .i64 c] 3)) := (Below.refl _ w2.drew).alloc (by simp) _
  have M5 : Hid (IOM w z (⟨(k : Int) + 1, a, b, c⟩ : Ord) (w2.drew.alloc (.cells #[.int .i64 a, .int .i64 b, .int .i64 c] 3)) ∧ RdK cInt (w2.drew.alloc (.cells #[.int .i64 a, .int .i64 b, .int .i64 c] 3)) w2.heap.size 0 [a, b, c]) := by
    refine ⟨M4.out.later (by simpa using hW5), fun j u hu => ?_⟩
    have h := cell_of_row _ _ j _ _ _ (heap_alloc_new w2.drew (.cells #[.int .i64 a, .int .i64 b, .int .i64 c] 3))
    rw [Nat.zero_add]
    refine Eq.trans h ?_
    rw [List.getElem?_toArray]
    exact hu
  clear hW5
  refine wpAnyH_ready (rs := [6]) (by kernel_rfl) (by simp) ?_
  refine AllReadyH.cons rfl (fun K hK => ?_) AllReadyH.nil
  go_simp
  refine hK.out _ _ M5.out.1 (fun hHeld => ?_)
  clear hK K
  refine wpAnyH_take (i := 13) (oi := { dst := some 35, op := Go.Op.slice 34 (Go.Operand.tmp 28) none (some (Go.Operand.tmp 34)) none, type := 34, pos := "ref.go:342", after := #[{ on := 6, ground := Go.Ground.data }, { on := 12, ground := Go.Ground.data }], guard := none }) (v := .slice (some ⟨w2.heap.size, 0, none⟩) cn 3) rfl (by kernel_rfl) (by kernel_rfl) (by kernel_rfl) (fun _ _ _ h => h) (Or.inl ⟨by rfl, by intro w hSw; go_simp⟩) hHeld ?_
  simp only [Act.put, List.setIfInBounds_toArray, List.set_cons_zero, List.set_cons_succ]
  refine wpAnyH_take (i := 14) (oi := { dst := some 36, op := Go.Op.call { callee := Go.Callee.builtin Go.Builtin.len, args := #[Go.Operand.tmp 35], argTypes := #[34] }, type := 3, pos := "ref.go:342", after := #[{ on := 13, ground := Go.Ground.data }], guard := none }) (v := ?_) rfl (by kernel_rfl) (by kernel_rfl) (by kernel_rfl) (fun _ _ _ h => h) (Or.inl ⟨by rfl, ?_⟩) hHeld ?_
  rotate_left
  · (intro w hSw; first | (go_simp; done) | (go_simp; with_reducible rfl))
  simp only [Act.put, List.setIfInBounds_toArray, List.set_cons_zero, List.set_cons_succ]
  refine wpAnyH_done (by kernel_rfl) ?_ _
  clear hHeld M4 hw8 hwl hil hl2 hl8
  have M6 : Hid (RdK cInt (w2.alloc (.cells #[.int .i64 a, .int .i64 b, .int .i64 c] 3)).drew w2.heap.size 0 [a, b, c] ∧ Below z w (w2.alloc (.cells #[.int .i64 a, .int .i64 b, .int .i64 c] 3)).drew ∧ z < (w2.alloc (.cells #[.int .i64 a, .int .i64 b, .int .i64 c] 3)).drew.heap.size) := ⟨M5.out.2, M5.out.1.2.2, M5.out.1.1.lt⟩
  clear M5
  generalize (w2.alloc (.cells #[.int .i64 a, .int .i64 b, .int .i64 c] 3)).drew = W5 at *
  generalize w2.heap.size = g3 at *
  have HWL : Hid ((word (k + 1)).length ≤ 6) := word_len (k + 1) (by omega)
  have HWD : Hid (word (k + 1) = lineTo (⟨(k : Int) + 1, a, b, c⟩ : Ord) 0 ∧ lineTo (⟨(k : Int) + 1, a, b, c⟩ : Ord) cn = lineO (⟨(k : Int) + 1, a, b, c⟩ : Ord)) := by
    refine ⟨?_, ?_⟩
    · rw [lineTo_zero]
      show word (k + 1) = word ((k : Int) + 1).toNat
      rw [hkd]
    · rw [← hcn, ← hkd]
      exact lineTo_end (⟨(k : Int) + 1, a, b, c⟩ : Ord)
  clear hcn hkd
  generalize word (k + 1) = wd at *
  go_wp2_with fail
  go_loopg [5, 7, 37] cn (fun kx s5 s7 s37 wr => ∃ (j : Nat) (l : List UInt8), s37 = .int .i64 j ∧ j ≤ cn ∧ cn - j ≤ kx ∧ s5 = .string ⟨l.toArray⟩ ∧ l.length ≤ 6 + 12 * j ∧ Hid (l = lineTo (⟨(k : Int) + 1, a, b, c⟩ : Ord) j ∧ RdK cInt wr g3 0 [a, b, c] ∧ Below z w wr ∧ z < wr.heap.size))
  case atStart => exact ⟨0, wd, rfl, Nat.zero_le _, by omega, rfl, by have := HWL.out; omega, HWD.out.1, M6.out⟩
  case round =>
    clear M6
    obtain ⟨j, l, rfl, hj, hg, rfl, hll, I⟩ := hrel
    by_cases hjl : j < cn
    · obtain ⟨n, hn⟩ : ∃ n, ([a, b, c] : List Int)[j]? = some n := ⟨([a, b, c] : List Int)[j]'(by show j < 3; omega), List.getElem?_eq_getElem _⟩
      have hs := HS.out n (List.mem_of_getElem? (show (numsO (⟨(k : Int) + 1, a, b, c⟩ : Ord))[j]? = some n from hn))
      have hcl2 := I.out.2.1.int hn
      rw [Nat.zero_add] at hcl2
      have hji : (j : Int) < ((cn : Nat) : Int) := by omega
      have LN : Hid (lineTo (⟨(k : Int) + 1, a, b, c⟩ : Ord) (j + 1) = lineTo (⟨(k : Int) + 1, a, b, c⟩ : Ord) j ++ (32 :: Lib.itoa n)) := lineTo_succ (show (numsO (⟨(k : Int) + 1, a, b, c⟩ : Ord))[j]? = some n from hn)
      have hil := itoa_len hs.1 hs.2
      clear hn
      go_wp2_with fail
      refine (HD n (by omega) (by omega) _).mono ?_
      rintro e w3 ⟨rfl, hb3⟩
      have I3 : Hid (l ++ (32 :: Lib.itoa n) = lineTo (⟨(k : Int) + 1, a, b, c⟩ : Ord) (j + 1) ∧ RdK cInt w3 g3 0 [a, b, c] ∧ Below z w w3 ∧ z < w3.heap.size) := ⟨by rw [LN.out, I.out.1], I.out.2.1.below hb3, I.out.2.2.1.trans (hb3.mono (Nat.le_of_lt I.out.2.2.2)), Nat.lt_of_lt_of_le I.out.2.2.2 hb3.size⟩
      clear LN hb3 I
      generalize hit : Lib.itoa n = t at *
      clear hit
      go_wp2_with fail
      go_roundg (cn - (j + 1))
      case measure => omega
      case rel => exact ⟨j + 1, l ++ (32 :: t), by go_num, by omega, Nat.le_refl _, by rw [cat_txt], by simp only [List.length_append, List.length_cons]; omega, I3⟩
    · have hje : j = cn := by omega
      subst hje
      have hji : ¬ ((j : Nat) : Int) < ((j : Nat) : Int) := by omega
      have F : Hid (l = lineO (⟨(k : Int) + 1, a, b, c⟩ : Ord) ∧ Below z w wr) := ⟨by rw [I.out.1, HWD.out.2], I.out.2.2.1⟩
      clear I
      go_wp2_with fail
      go_ret2
      exact ⟨Or.inl ⟨GG.out, by rw [← F.out.1]; rfl⟩, by rw [hz]; exact F.out.2⟩

end Go.Proofs.YtcmdoeledmkfmabDoor
