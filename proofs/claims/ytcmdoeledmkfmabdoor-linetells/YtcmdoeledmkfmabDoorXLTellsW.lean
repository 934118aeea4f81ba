/- Texts of this claim, in one: LTellsW. -/
import Derived.Test.YtcmdoeledmkfmabDoorXRParse
import Derived.Test.YtcmdoeledmkfmabDoorXRPrint
import Derived.Test.YtcmdoeledmkfmabDoorXLBackW
/- LineTells: Good, Print and Parse answer what the document's own answer does: P4.1 to P4.3. -/
set_option linter.unusedSimpArgs false
set_option linter.unusedVariables false
namespace Go.Proofs.YtcmdoeledmkfmabDoor
open Go.RowKit

set_option maxHeartbeats 2000000 in
set_option maxRecDepth 100000 in
theorem lawLines_any (w : World) (hL : LW w) : Calls Tryd.prog 11 #[] w fun e w' => e = .returned (.bool true) ∧ Below w.heap.size w w' := by
  have HPA := parse_any sCome49 (by decide) w hL
  have HPR := fun W h => print_any ⟨1, 4, 9, 0⟩ W h
  have e49 : txt sCome49 = .string { data := #[32, 99, 111, 109, 101, 32, 52, 32, 32, 57, 32, 48] } := rfl
  rw [e49] at HPA
  simp only at HPR
  have HL : Hid (LW w) := hL
  have hq := eqOrd 1 4 9 0
  clear e49 hL
  go_enter Tryd.func11, Tryd.ntmps11
  go_wp2_with fail
  refine HPA.mono ?_
  rintro e w1 ⟨o, er, rfl, hP, hb1⟩
  obtain ⟨rfl, rfl⟩ := parse_known hP parse_49
  have E1 : Hid (Below w.heap.size w w1 ∧ LW w1) := ⟨hb1, HL.out.later hb1⟩
  clear hP hb1 HPA
  go_upto_region 2 with (first | (refine wpList_alloc_ord rfl rfl 1 rfl ?_; intro w2 h2 s2) | (refine wpList_store_ord rfl _ _ rfl w1.heap.size noOrd ⟨1, 4, 9, 0⟩ rfl rfl h2.out.1 ?_; intro w3 h3 s3))
  have E3 : Hid (Below w.heap.size w w3 ∧ LW w3 ∧ LOB w3 w1.heap.size ⟨1, 4, 9, 0⟩) := by
    have hb : Below w1.heap.size w1 w3 := h2.out.2.trans (h3.out.2.2 _ (Nat.le_refl _))
    exact ⟨E1.out.1.trans (hb.mono E1.out.1.size), E1.out.2.later hb, h3.out.1⟩
  clear h2 h3 s2 s3 E1
  generalize w1.heap.size = g at *
  go_wp2_with (refine wpList_load_ord rfl _ rfl g ⟨1, 4, 9, 0⟩ rfl E3.out.2.2 ?_)
  refine (HPR _ E3.out.2.1).mono ?_
  rintro e w4 ⟨hPP, hb4⟩
  obtain rfl : e = .returned (.tuple #[.string { data := #[99, 111, 109, 101, 32, 52, 32, 57, 32, 48] }, .int .i64 0]) := by
    rcases hPP with ⟨_, h⟩ | ⟨h, _⟩
    · rw [line_49] at h; exact h
    · exact absurd good49 h
  have E4 : Hid (Below w.heap.size w w4 ∧ LOB w4 g ⟨1, 4, 9, 0⟩) := ⟨E3.out.1.trans (hb4.mono E3.out.1.size), E3.out.2.2.later hb4 E3.out.2.2.lt⟩
  clear hPP hb4 E3 HPR
  go_wp2_with (first | (refine wpList_load_ordx_g (by first | rfl | (simp [Region.wanted, yielded]; done)) _ rfl g 1 4 9 0 rfl E4.out.2 ?_))
  go_ret
  exact ⟨rfl, E4.out.1⟩

/-- two that print the same order print the same -/
theorem printPost_same {o : Ord} {w1 w1' w2 w2' : World} {e e' : Ending} (h : PrintPost o w1 e w1') (h' : PrintPost o w2 e' w2') : ∃ (lo : List UInt8) (er : Int), e = .returned (.tuple #[.string ⟨lo.toArray⟩, .int .i64 er]) ∧ e' = .returned (.tuple #[.string ⟨lo.toArray⟩, .int .i64 er]) := by
  rcases h.1 with ⟨g, rfl⟩ | ⟨g, rfl⟩ <;> rcases h'.1 with ⟨g', rfl⟩ | ⟨g', rfl⟩
  · exact ⟨lineO o, 0, rfl, rfl⟩
  · exact absurd g g'
  · exact absurd g' g
  · exact ⟨[], 1, rfl, rfl⟩
theorem printPost_form {o : Ord} {w1 w1' : World} {e : Ending} (h : PrintPost o w1 e w1') : ∃ (lo : List UInt8) (er : Int), e = .returned (.tuple #[.string ⟨lo.toArray⟩, .int .i64 er]) := by
  obtain ⟨lo, er, h1, _⟩ := printPost_same h h
  exact ⟨lo, er, h1⟩
theorem parse_two {s : List UInt8} {o o' : Ord} {er er' : Int} (h : (er = 0 ∧ ParseIs s (some o)) ∨ (er = 1 ∧ o = noOrd ∧ ParseIs s none)) (h' : (er' = 0 ∧ ParseIs s (some o')) ∨ (er' = 1 ∧ o' = noOrd ∧ ParseIs s none)) : o = o' ∧ er = er' := by
  rcases h with ⟨rfl, p⟩ | ⟨rfl, rfl, p⟩ <;> rcases h' with ⟨rfl, q⟩ | ⟨rfl, rfl, q⟩
  · have := parseIs_unique p q
    injection this with this
    exact ⟨this, rfl⟩
  · cases parseIs_unique p q
  · cases parseIs_unique p q
  · exact ⟨rfl, rfl⟩

/-- what holds of the memory while the two are asked -/
structure LT (w : World) (z : Nat) (o : Ord) (W : World) : Prop where
  box : LOB W z o
  lw : LW W
  asp : AS W
  below : Below z w W
theorem LT.lt {w W : World} {z : Nat} {o : Ord} (h : LT w z o W) : z < W.heap.size := h.box.lt
theorem LT.later {w W W' : World} {z : Nat} {o : Ord} (h : LT w z o W) (hb : Below W.heap.size W W') : LT w z o W' := ⟨h.box.later hb h.box.lt, h.lw.later hb, h.asp.later hb, h.below.trans (hb.mono (Nat.le_of_lt h.lt))⟩

set_option maxHeartbeats 4000000 in
set_option maxRecDepth 100000 in
theorem lineTells_any (o : Ord) (s : List UInt8) (w : World) (hL : LW w ∧ AS w) (_ : True) (hs : s.length ≤ 9223372036854775807) :
    Calls Tryd.prog 3 #[.agg #[.int .i64 o.kd, .int .i64 o.a, .int .i64 o.b, .int .i64 o.c], txt s] w fun e w' => e = .returned (.bool true) ∧ Below w.heap.size w w' := by
  have HPR := fun W h => print_any o W h
  have HQR := fun W h => refPrint_any o W h
  have HPA := fun W h => parse_any s hs W h
  have HQA := fun W h => refParse_any s hs W h
  have HGO := fun W h => lineGood_any o W h
  have HIO := fun W h => refIsOrder_any o W h
  have HLI := fun W h => lawLines_any W h
  have E0 : Hid (LT w w.heap.size o (w.alloc (.cells (ordCells o).toArray 23))) := by
    have hb : Below w.heap.size w (w.alloc (.cells (ordCells o).toArray 23)) := (Below.refl _ w).alloc (Nat.le_refl _) _
    exact ⟨LOB.new w o, hL.1.later hb, hL.2.later hb, hb⟩
  have hz : (ordCells o).toArray = #[.int .i64 o.kd, .int .i64 o.a, .int .i64 o.b, .int .i64 o.c] := rfl
  rw [hz] at E0
  unfold txt at *
  clear hL hz
  go_enter Tryd.func3, Tryd.ntmps3
  go_upto_region 1 with fail
  generalize w.alloc (.cells #[.int .i64 o.kd, .int .i64 o.a, .int .i64 o.b, .int .i64 o.c] 23) = WA at *
  generalize hz : w.heap.size = z at *
  go_wp2_with (refine wpList_load_ord rfl _ rfl z o rfl E0.out.box ?_)
  refine (HPR _ E0.out.lw).mono ?_
  intro e w1 hP1
  obtain ⟨lo, er1, he⟩ := printPost_form hP1
  have P1 : Hid (PrintPost o WA e w1) := hP1
  have E1 : Hid (LT w z o w1) := E0.out.later hP1.2
  clear hP1 E0 HPR
  subst he
  go_upto_region 2 with fail
  go_wp2_with (refine wpList_load_ord rfl _ rfl z o rfl E1.out.box ?_)
  refine (HQR _ E1.out.asp).mono ?_
  intro e w2 hP2
  obtain ⟨lo', er', he1, he2⟩ := printPost_same P1.out hP2
  obtain ⟨rfl, rfl⟩ : lo' = lo ∧ er' = er1 := by
    injection he1 with h
    simp at h
    exact ⟨h.1.symm, h.2.symm⟩
  have E2 : Hid (LT w z o w2) := E1.out.later hP2.2
  subst he2
  clear hP2 E1 HQR P1 he1
  go_upto_region 3 with fail
  go_wp2_with fail
  refine (HPA _ E2.out.lw).mono ?_
  rintro e w3 ⟨x, er3, rfl, hP, hb3⟩
  have P3 : Hid ((er3 = 0 ∧ ParseIs s (some x)) ∨ (er3 = 1 ∧ x = noOrd ∧ ParseIs s none)) := hP
  have E3 : Hid (LT w z o w3) := E2.out.later hb3
  clear hP hb3 E2 HPA
  go_upto_region 4 with (first | (refine wpList_alloc_ord rfl rfl 9 rfl ?_; intro w4 h4 s4) | (refine wpList_store_ord rfl _ _ rfl w3.heap.size noOrd x rfl rfl h4.out.1 ?_; intro w5 h5 s5))
  have E5 : Hid (LT w z o w5 ∧ LOB w5 w3.heap.size x) := by
    have hb : Below w3.heap.size w3 w5 := h4.out.2.trans (h5.out.2.2 _ (Nat.le_refl _))
    exact ⟨E3.out.later hb, h5.out.1⟩
  clear h4 h5 s4 s5 E3
  generalize w3.heap.size = g9 at *
  go_wp2_with fail
  refine (HQA _ E5.out.1.asp).mono ?_
  rintro e w6 ⟨y, er6, rfl, hP, hb6⟩
  obtain ⟨rfl, rfl⟩ := parse_two P3.out hP
  have E6 : Hid (LT w z o w6 ∧ LOB w6 g9 x) := ⟨E5.out.1.later hb6, E5.out.2.later hb6 E5.out.2.lt⟩
  clear hP hb6 E5 HQA P3
  go_upto_region 5 with (first | (refine wpList_alloc_ord rfl rfl 11 rfl ?_; intro w7 h7 s7) | (refine wpList_store_ord rfl _ _ rfl w6.heap.size noOrd x rfl rfl h7.out.1 ?_; intro w8 h8 s8))
  have E8 : Hid (LT w z o w8.drew ∧ LOB w8.drew g9 x ∧ LOB w8.drew w6.heap.size x) := by
    have hb : Below w6.heap.size w6 w8 := h7.out.2.trans (h8.out.2.2 _ (Nat.le_refl _))
    have hd : Below w8.heap.size w8 w8.drew := (Below.refl _ _).drew
    have h2 := E6.out.2.later hb E6.out.2.lt
    exact ⟨(E6.out.1.later hb).later hd, h2.later hd h2.lt, h8.out.1.later hd h8.out.1.lt⟩
  clear h7 h8 s7 s8 E6
  generalize w6.heap.size = g11 at *
  obtain ⟨xk, xa, xb, xc⟩ := x
  generalize hgb : goodOB o = gb at *
  refine wp_region_held_drew (S := fun W => Hid (LT w z o W ∧ LOB W g9 ⟨xk, xa, xb, xc⟩ ∧ LOB W g11 ⟨xk, xa, xb, xc⟩)) (by kernel_rfl) E8 (fun hHeld => ?_)
  refine wpAnyH_take (i := 0) (oi := { dst := some 33, op := Go.Op.move (Go.Operand.tmp 5), type := 9, pos := "law.go:130", after := #[], guard := none }) (v := ?_) rfl (by kernel_rfl) (by kernel_rfl) (by kernel_rfl) (fun _ _ _ h => h) (Or.inl ⟨by rfl, ?_⟩) hHeld ?_
  rotate_left
  · (intro w hSw; first | (go_simp; done) | (go_simp; with_reducible rfl))
  simp only [Act.put, List.setIfInBounds_toArray, List.set_cons_zero, List.set_cons_succ]
  refine wpAnyH_take (i := 1) (oi := { dst := some 34, op := Go.Op.move (Go.Operand.tmp 7), type := 9, pos := "law.go:130", after := #[], guard := none }) (v := ?_) rfl (by kernel_rfl) (by kernel_rfl) (by kernel_rfl) (fun _ _ _ h => h) (Or.inl ⟨by rfl, ?_⟩) hHeld ?_
  rotate_left
  · (intro w hSw; first | (go_simp; done) | (go_simp; with_reducible rfl))
  simp only [Act.put, List.setIfInBounds_toArray, List.set_cons_zero, List.set_cons_succ]
  refine wpAnyH_take (i := 2) (oi := { dst := some 35, op := Go.Op.binOp Go.BinOp.eql 9 (Go.Operand.tmp 33) (Go.Operand.tmp 34) 9, type := 4, pos := "law.go:130", after := #[{ on := 0, ground := Go.Ground.data }, { on := 1, ground := Go.Ground.data }], guard := none }) (v := .bool true) rfl (by kernel_rfl) (by kernel_rfl) (by kernel_rfl) (fun _ _ _ h => h) (Or.inl ⟨by rfl, by intro w hSw; go_simp⟩) hHeld ?_
  simp only [Act.put, List.setIfInBounds_toArray, List.set_cons_zero, List.set_cons_succ]
  refine wpAnyH_take (i := 3) (oi := { dst := some 36, op := Go.Op.move (Go.Operand.tmp 35), type := 4, pos := "law.go:130", after := #[{ on := 2, ground := Go.Ground.data }], guard := none }) (v := ?_) rfl (by kernel_rfl) (by kernel_rfl) (by kernel_rfl) (fun _ _ _ h => h) (Or.inl ⟨by rfl, ?_⟩) hHeld ?_
  rotate_left
  · (intro w hSw; first | (go_simp; done) | (go_simp; with_reducible rfl))
  simp only [Act.put, List.setIfInBounds_toArray, List.set_cons_zero, List.set_cons_succ]
  refine wpAnyH_take (i := 4) (oi := { dst := some 37, op := Go.Op.move (Go.Operand.tmp 6), type := 24, pos := "law.go:130", after := #[{ on := 3, ground := Go.Ground.guard }], guard := some (3, true) }) (v := ?_) rfl (by kernel_rfl) (by kernel_rfl) (by kernel_rfl) (fun _ _ _ h => h) (Or.inl ⟨by rfl, ?_⟩) hHeld ?_
  rotate_left
  · (intro w hSw; first | (go_simp; done) | (go_simp; with_reducible rfl))
  simp only [Act.put, List.setIfInBounds_toArray, List.set_cons_zero, List.set_cons_succ]
  refine wpAnyH_take (i := 5) (oi := { dst := some 38, op := Go.Op.move (Go.Operand.tmp 8), type := 24, pos := "law.go:130", after := #[{ on := 3, ground := Go.Ground.guard }], guard := some (3, true) }) (v := ?_) rfl (by kernel_rfl) (by kernel_rfl) (by kernel_rfl) (fun _ _ _ h => h) (Or.inl ⟨by rfl, ?_⟩) hHeld ?_
  rotate_left
  · (intro w hSw; first | (go_simp; done) | (go_simp; with_reducible rfl))
  simp only [Act.put, List.setIfInBounds_toArray, List.set_cons_zero, List.set_cons_succ]
  refine wpAnyH_take (i := 6) (oi := { dst := some 39, op := Go.Op.binOp Go.BinOp.eql 24 (Go.Operand.tmp 37) (Go.Operand.tmp 38) 24, type := 4, pos := "law.go:130", after := #[{ on := 4, ground := Go.Ground.data }, { on := 5, ground := Go.Ground.data }, { on := 3, ground := Go.Ground.guard }], guard := some (3, true) }) (v := .bool true) rfl (by kernel_rfl) (by kernel_rfl) (by kernel_rfl) (fun _ _ _ h => h) (Or.inl ⟨by rfl, by intro w hSw; go_simp⟩) hHeld ?_
  simp only [Act.put, List.setIfInBounds_toArray, List.set_cons_zero, List.set_cons_succ]
  refine wpAnyH_take (i := 7) (oi := { dst := some 40, op := Go.Op.pick (Go.Operand.tmp 36) (Go.Operand.tmp 39) (Go.Operand.const (Go.Value.bool false)), type := 4, pos := "law.go:130", after := #[{ on := 3, ground := Go.Ground.data }, { on := 6, ground := Go.Ground.data }], guard := none }) (v := ?_) rfl (by kernel_rfl) (by kernel_rfl) (by kernel_rfl) (fun _ _ _ h => h) (Or.inl ⟨by rfl, ?_⟩) hHeld ?_
  rotate_left
  · (intro w hSw; first | (go_simp; done) | (go_simp; with_reducible rfl))
  simp only [Act.put, List.setIfInBounds_toArray, List.set_cons_zero, List.set_cons_succ]
  refine wpAnyH_take (i := 8) (oi := { dst := some 41, op := Go.Op.move (Go.Operand.tmp 40), type := 4, pos := "law.go:130", after := #[{ on := 7, ground := Go.Ground.data }, { on := 3, ground := Go.Ground.chain }], guard := none }) (v := ?_) rfl (by kernel_rfl) (by kernel_rfl) (by kernel_rfl) (fun _ _ _ h => h) (Or.inl ⟨by rfl, ?_⟩) hHeld ?_
  rotate_left
  · (intro w hSw; first | (go_simp; done) | (go_simp; with_reducible rfl))
  simp only [Act.put, List.setIfInBounds_toArray, List.set_cons_zero, List.set_cons_succ]
  refine wpAnyH_take (i := 9) (oi := { dst := some 42, op := Go.Op.load 23 (Go.Operand.tmp 9), type := 23, pos := "law.go:130", after := #[{ on := 8, ground := Go.Ground.guard }], guard := some (8, true) }) (v := .agg (ordCells ⟨xk, xa, xb, xc⟩).toArray) rfl (by kernel_rfl) (by kernel_rfl) (by kernel_rfl) (fun _ _ _ h => h) (yieldsIf_load_mid (by rfl) 23 (.tmp 9) rfl g9 0 rfl (ordCells ⟨xk, xa, xb, xc⟩) _ (fun W hW => hW.out.2.1.whole) Tryd.underlying23 rfl (ordInfo _)) hHeld ?_
  simp only [Act.put, List.setIfInBounds_toArray, List.set_cons_zero, List.set_cons_succ]
  refine wpAnyH_take (i := 10) (oi := { dst := some 43, op := Go.Op.load 23 (Go.Operand.tmp 11), type := 23, pos := "law.go:130", after := #[{ on := 8, ground := Go.Ground.guard }], guard := some (8, true) }) (v := .agg (ordCells ⟨xk, xa, xb, xc⟩).toArray) rfl (by kernel_rfl) (by kernel_rfl) (by kernel_rfl) (fun _ _ _ h => h) (yieldsIf_load_mid (by rfl) 23 (.tmp 11) rfl g11 0 rfl (ordCells ⟨xk, xa, xb, xc⟩) _ (fun W hW => hW.out.2.2.whole) Tryd.underlying23 rfl (ordInfo _)) hHeld ?_
  simp only [Act.put, List.setIfInBounds_toArray, List.set_cons_zero, List.set_cons_succ]
  refine wpAnyH_take (i := 11) (oi := { dst := some 44, op := Go.Op.binOp Go.BinOp.eql 23 (Go.Operand.tmp 42) (Go.Operand.tmp 43) 23, type := 4, pos := "law.go:130", after := #[{ on := 9, ground := Go.Ground.data }, { on := 10, ground := Go.Ground.data }, { on := 8, ground := Go.Ground.guard }], guard := some (8, true) }) (v := .bool true) rfl (by kernel_rfl) (by kernel_rfl) (by kernel_rfl) (fun _ _ _ h => h) (Or.inl ⟨by rfl, by intro w hSw; have q := eqOrd xk xa xb xc w; unfold ordCells; go_simp⟩) hHeld ?_
  simp only [Act.put, List.setIfInBounds_toArray, List.set_cons_zero, List.set_cons_succ]
  refine wpAnyH_take (i := 12) (oi := { dst := some 45, op := Go.Op.pick (Go.Operand.tmp 41) (Go.Operand.tmp 44) (Go.Operand.const (Go.Value.bool false)), type := 4, pos := "law.go:130", after := #[{ on := 8, ground := Go.Ground.data }, { on := 11, ground := Go.Ground.data }], guard := none }) (v := ?_) rfl (by kernel_rfl) (by kernel_rfl) (by kernel_rfl) (fun _ _ _ h => h) (Or.inl ⟨by rfl, ?_⟩) hHeld ?_
  rotate_left
  · (intro w hSw; first | (go_simp; done) | (go_simp; with_reducible rfl))
  simp only [Act.put, List.setIfInBounds_toArray, List.set_cons_zero, List.set_cons_succ]
  refine wpAnyH_take (i := 13) (oi := { dst := some 46, op := Go.Op.move (Go.Operand.tmp 45), type := 4, pos := "law.go:130", after := #[{ on := 12, ground := Go.Ground.data }, { on := 8, ground := Go.Ground.chain }], guard := none }) (v := ?_) rfl (by kernel_rfl) (by kernel_rfl) (by kernel_rfl) (fun _ _ _ h => h) (Or.inl ⟨by rfl, ?_⟩) hHeld ?_
  rotate_left
  · (intro w hSw; first | (go_simp; done) | (go_simp; with_reducible rfl))
  simp only [Act.put, List.setIfInBounds_toArray, List.set_cons_zero, List.set_cons_succ]
  refine wpAnyH_take (i := 14) (oi := { dst := some 47, op := Go.Op.move (Go.Operand.tmp 10), type := 24, pos := "law.go:130", after := #[{ on := 13, ground := Go.Ground.guard }], guard := some (13, true) }) (v := ?_) rfl (by kernel_rfl) (by kernel_rfl) (by kernel_rfl) (fun _ _ _ h => h) (Or.inl ⟨by rfl, ?_⟩) hHeld ?_
  rotate_left
  · (intro w hSw; first | (go_simp; done) | (go_simp; with_reducible rfl))
  simp only [Act.put, List.setIfInBounds_toArray, List.set_cons_zero, List.set_cons_succ]
  refine wpAnyH_take (i := 15) (oi := { dst := some 48, op := Go.Op.move (Go.Operand.tmp 12), type := 24, pos := "law.go:130", after := #[{ on := 13, ground := Go.Ground.guard }], guard := some (13, true) }) (v := ?_) rfl (by kernel_rfl) (by kernel_rfl) (by kernel_rfl) (fun _ _ _ h => h) (Or.inl ⟨by rfl, ?_⟩) hHeld ?_
  rotate_left
  · (intro w hSw; first | (go_simp; done) | (go_simp; with_reducible rfl))
  simp only [Act.put, List.setIfInBounds_toArray, List.set_cons_zero, List.set_cons_succ]
  refine wpAnyH_take (i := 16) (oi := { dst := some 49, op := Go.Op.binOp Go.BinOp.eql 24 (Go.Operand.tmp 47) (Go.Operand.tmp 48) 24, type := 4, pos := "law.go:130", after := #[{ on := 14, ground := Go.Ground.data }, { on := 15, ground := Go.Ground.data }, { on := 13, ground := Go.Ground.guard }], guard := some (13, true) }) (v := .bool true) rfl (by kernel_rfl) (by kernel_rfl) (by kernel_rfl) (fun _ _ _ h => h) (Or.inl ⟨by rfl, by intro w hSw; go_simp⟩) hHeld ?_
  simp only [Act.put, List.setIfInBounds_toArray, List.set_cons_zero, List.set_cons_succ]
  refine wpAnyH_take (i := 17) (oi := { dst := some 50, op := Go.Op.pick (Go.Operand.tmp 46) (Go.Operand.tmp 49) (Go.Operand.const (Go.Value.bool false)), type := 4, pos := "law.go:130", after := #[{ on := 13, ground := Go.Ground.data }, { on := 16, ground := Go.Ground.data }], guard := none }) (v := ?_) rfl (by kernel_rfl) (by kernel_rfl) (by kernel_rfl) (fun _ _ _ h => h) (Or.inl ⟨by rfl, ?_⟩) hHeld ?_
  rotate_left
  · (intro w hSw; first | (go_simp; done) | (go_simp; with_reducible rfl))
  simp only [Act.put, List.setIfInBounds_toArray, List.set_cons_zero, List.set_cons_succ]
  refine wpAnyH_take (i := 18) (oi := { dst := some 51, op := Go.Op.move (Go.Operand.tmp 50), type := 4, pos := "law.go:130", after := #[{ on := 17, ground := Go.Ground.data }, { on := 13, ground := Go.Ground.chain }], guard := none }) (v := ?_) rfl (by kernel_rfl) (by kernel_rfl) (by kernel_rfl) (fun _ _ _ h => h) (Or.inl ⟨by rfl, ?_⟩) hHeld ?_
  rotate_left
  · (intro w hSw; first | (go_simp; done) | (go_simp; with_reducible rfl))
  simp only [Act.put, List.setIfInBounds_toArray, List.set_cons_zero, List.set_cons_succ]
  refine wpAnyH_take (i := 19) (oi := { dst := some 52, op := Go.Op.load 23 (Go.Operand.tmp 2), type := 23, pos := "law.go:130", after := #[{ on := 18, ground := Go.Ground.guard }], guard := some (18, true) }) (v := .agg (ordCells o).toArray) rfl (by kernel_rfl) (by kernel_rfl) (by kernel_rfl) (fun _ _ _ h => h) (yieldsIf_load_mid (by rfl) 23 (.tmp 2) rfl z 0 rfl (ordCells o) _ (fun W hW => hW.out.1.box.whole) Tryd.underlying23 rfl (ordInfo _)) hHeld ?_
  simp only [Act.put, List.setIfInBounds_toArray, List.set_cons_zero, List.set_cons_succ]
  refine wpAnyH_take (i := 21) (oi := { dst := some 54, op := Go.Op.load 23 (Go.Operand.tmp 2), type := 23, pos := "law.go:130", after := #[{ on := 18, ground := Go.Ground.guard }], guard := some (18, true) }) (v := .agg (ordCells o).toArray) rfl (by kernel_rfl) (by kernel_rfl) (by kernel_rfl) (fun _ _ _ h => h) (yieldsIf_load_mid (by rfl) 23 (.tmp 2) rfl z 0 rfl (ordCells o) _ (fun W hW => hW.out.1.box.whole) Tryd.underlying23 rfl (ordInfo _)) hHeld ?_
  simp only [Act.put, List.setIfInBounds_toArray, List.set_cons_zero, List.set_cons_succ]
  refine wpAnyH_ready (rs := [20]) (by kernel_rfl) (by simp) ?_
  refine AllReadyH.cons rfl (fun K hK => ?_) AllReadyH.nil
  go_simp
  refine (HGO _ hHeld.out.1.lw).mono ?_
  rintro e w9 ⟨rfl, hb9⟩
  have E9 : Hid (LT w z o w9 ∧ LOB w9 g9 ⟨xk, xa, xb, xc⟩ ∧ LOB w9 g11 ⟨xk, xa, xb, xc⟩) := ⟨hHeld.out.1.later hb9, hHeld.out.2.1.later hb9 hHeld.out.2.1.lt, hHeld.out.2.2.later hb9 hHeld.out.2.2.lt⟩
  clear hb9 HGO hHeld E8
  go_wp2_with fail
  refine hK.out _ _ E9 (fun hHeld => ?_)
  clear hK K
  refine wpAnyH_ready (rs := [22]) (by kernel_rfl) (by simp) ?_
  refine AllReadyH.cons rfl (fun K hK => ?_) AllReadyH.nil
  go_simp
  refine (HIO _ hHeld.out.1.asp).mono ?_
  rintro e wA ⟨rfl, hbA⟩
  have EA : Hid (LT w z o wA ∧ LOB wA g9 ⟨xk, xa, xb, xc⟩ ∧ LOB wA g11 ⟨xk, xa, xb, xc⟩) := ⟨hHeld.out.1.later hbA, hHeld.out.2.1.later hbA hHeld.out.2.1.lt, hHeld.out.2.2.later hbA hHeld.out.2.2.lt⟩
  clear hbA HIO hHeld E9
  go_wp2_with fail
  refine hK.out _ _ EA (fun hHeld => ?_)
  clear hK K
  refine wpAnyH_take (i := 23) (oi := { dst := some 56, op := Go.Op.binOp Go.BinOp.eql 4 (Go.Operand.tmp 53) (Go.Operand.tmp 55) 4, type := 4, pos := "law.go:130", after := #[{ on := 20, ground := Go.Ground.data }, { on := 22, ground := Go.Ground.data }, { on := 18, ground := Go.Ground.guard }], guard := some (18, true) }) (v := .bool true) rfl (by kernel_rfl) (by kernel_rfl) (by kernel_rfl) (fun _ _ _ h => h) (Or.inl ⟨by rfl, by intro w hSw; go_simp⟩) hHeld ?_
  simp only [Act.put, List.setIfInBounds_toArray, List.set_cons_zero, List.set_cons_succ]
  refine wpAnyH_take (i := 24) (oi := { dst := some 57, op := Go.Op.pick (Go.Operand.tmp 51) (Go.Operand.tmp 56) (Go.Operand.const (Go.Value.bool false)), type := 4, pos := "law.go:130", after := #[{ on := 18, ground := Go.Ground.data }, { on := 23, ground := Go.Ground.data }], guard := none }) (v := ?_) rfl (by kernel_rfl) (by kernel_rfl) (by kernel_rfl) (fun _ _ _ h => h) (Or.inl ⟨by rfl, ?_⟩) hHeld ?_
  rotate_left
  · (intro w hSw; first | (go_simp; done) | (go_simp; with_reducible rfl))
  simp only [Act.put, List.setIfInBounds_toArray, List.set_cons_zero, List.set_cons_succ]
  refine wpAnyH_take (i := 25) (oi := { dst := some 58, op := Go.Op.move (Go.Operand.tmp 57), type := 4, pos := "law.go:130", after := #[{ on := 24, ground := Go.Ground.data }, { on := 22, ground := Go.Ground.chain }], guard := none }) (v := ?_) rfl (by kernel_rfl) (by kernel_rfl) (by kernel_rfl) (fun _ _ _ h => h) (Or.inl ⟨by rfl, ?_⟩) hHeld ?_
  rotate_left
  · (intro w hSw; first | (go_simp; done) | (go_simp; with_reducible rfl))
  simp only [Act.put, List.setIfInBounds_toArray, List.set_cons_zero, List.set_cons_succ]
  refine wpAnyH_ready (rs := [26]) (by kernel_rfl) (by simp) ?_
  refine AllReadyH.cons rfl (fun K hK => ?_) AllReadyH.nil
  go_simp
  refine (HLI _ hHeld.out.1.lw).mono ?_
  rintro e wB ⟨rfl, hbB⟩
  have EB : Hid (LT w z o wB ∧ LOB wB g9 ⟨xk, xa, xb, xc⟩ ∧ LOB wB g11 ⟨xk, xa, xb, xc⟩) := ⟨hHeld.out.1.later hbB, hHeld.out.2.1.later hbB hHeld.out.2.1.lt, hHeld.out.2.2.later hbB hHeld.out.2.2.lt⟩
  clear hbB HLI hHeld EA
  go_wp2_with fail
  refine hK.out _ _ EB (fun hHeld => ?_)
  clear hK K
  refine wpAnyH_take (i := 27) (oi := { dst := some 60, op := Go.Op.pick (Go.Operand.tmp 58) (Go.Operand.tmp 59) (Go.Operand.const (Go.Value.bool false)), type := 4, pos := "law.go:130", after := #[{ on := 25, ground := Go.Ground.data }, { on := 26, ground := Go.Ground.data }], guard := none }) (v := ?_) rfl (by kernel_rfl) (by kernel_rfl) (by kernel_rfl) (fun _ _ _ h => h) (Or.inl ⟨by rfl, ?_⟩) hHeld ?_
  rotate_left
  · (intro w hSw; first | (go_simp; done) | (go_simp; with_reducible rfl))
  simp only [Act.put, List.setIfInBounds_toArray, List.set_cons_zero, List.set_cons_succ]
  refine wpAnyH_take (i := 28) (oi := { dst := some 4, op := Go.Op.assign (Go.Operand.tmp 60), type := 4, pos := "law.go:130", after := #[{ on := 27, ground := Go.Ground.data }, { on := 26, ground := Go.Ground.chain }, { on := 0, ground := Go.Ground.phase }, { on := 1, ground := Go.Ground.phase }, { on := 2, ground := Go.Ground.phase }, { on := 3, ground := Go.Ground.phase }, { on := 4, ground := Go.Ground.phase }, { on := 5, ground := Go.Ground.phase }, { on := 6, ground := Go.Ground.phase }, { on := 7, ground := Go.Ground.phase }, { on := 8, ground := Go.Ground.phase }, { on := 9, ground := Go.Ground.phase }, { on := 10, ground := Go.Ground.phase }, { on := 11, ground := Go.Ground.phase }, { on := 12, ground := Go.Ground.phase }, { on := 13, ground := Go.Ground.phase }, { on := 14, ground := Go.Ground.phase }, { on := 15, ground := Go.Ground.phase }, { on := 16, ground := Go.Ground.phase }, { on := 17, ground := Go.Ground.phase }, { on := 18, ground := Go.Ground.phase }, { on := 19, ground := Go.Ground.phase }, { on := 20, ground := Go.Ground.phase }, { on := 21, ground := Go.Ground.phase }, { on := 22, ground := Go.Ground.phase }, { on := 23, ground := Go.Ground.phase }, { on := 24, ground := Go.Ground.phase }, { on := 25, ground := Go.Ground.phase }, { on := 26, ground := Go.Ground.phase }, { on := 27, ground := Go.Ground.phase }], guard := none }) (v := ?_) rfl (by kernel_rfl) (by kernel_rfl) (by kernel_rfl) (fun _ _ _ h => h) (Or.inl ⟨by rfl, ?_⟩) hHeld ?_
  rotate_left
  · (intro w hSw; first | (go_simp; done) | (go_simp; with_reducible rfl))
  simp only [Act.put, List.setIfInBounds_toArray, List.set_cons_zero, List.set_cons_succ]
  refine wpAnyH_done (by kernel_rfl) ?_ _
  go_wp2_with fail
  go_ret
  exact ⟨rfl, by rw [hz]; exact EB.out.1.below⟩

end Go.Proofs.YtcmdoeledmkfmabDoor
