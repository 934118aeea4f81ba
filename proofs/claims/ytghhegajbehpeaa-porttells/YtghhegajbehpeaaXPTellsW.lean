/- Texts of this claim, in one: PTellsW. -/
import Derived.Test.YtghhegajbehpeaaQC
import Derived.Test.YtghhegajbehpeaaQB
import Derived.Test.YtghhegajbehpeaaQA
import Derived.Test.YtghhegajbehpeaaXRefSameW
import Derived.Test.YtghhegajbehpeaaQ7
/- PortTells' walk: GoodShip, New, Good, Base, Ranked and Plan are the document's. -/
set_option linter.unusedSimpArgs false
set_option linter.unusedVariables false
namespace Go.Proofs.Ytghhegajbehpeaa
open Go.RowKit


/-- what stays as it is while PortTells runs -/
structure QEnv (w : World) (p : Pt) (vs : Value) (s : Ship) (vc : Value) (gc : Nat) (W : World) : Prop where
  below : Below w.heap.size w W
  box : PBox W w.heap.size p vs
  sb : SBox W (w.heap.size + 1) s
  cbox : PBox W gc p vc
  pv : PtV W (.agg (portCells p vs).toArray) p
  cv : PtV W (.agg (portCells p vc).toArray) p

theorem QEnv.later {w W W' : World} {p : Pt} {vs vc : Value} {s : Ship} {gc : Nat} (h : QEnv w p vs s vc gc W) (hb : Below W.heap.size W W') : QEnv w p vs s vc gc W' :=
  ⟨h.below.trans (hb.mono h.below.size), h.box.later hb h.box.lt, h.sb.later hb h.sb.lt, h.cbox.later hb h.cbox.lt, h.pv.below hb, h.cv.below hb⟩

theorem same_zero (w : World) : Calls Try.prog 34 #[.agg (portCells zeroPt (.slice none 0 0)).toArray, .agg #[.int .i64 0, .slice none 0 0, .int .i64 0, .int .i64 0, .int .i64 0, .int .i64 0, .int .i64 0, .int .i64 0, .int .i64 0, .int .i64 0, .int .i64 0, .int .i64 0, .int .i64 0, .int .i64 0, .int .i64 0, .int .i64 0]] w fun e w' => e = .returned (.bool true) ∧ Below w.heap.size w w' :=
  (refSame_any _ _ zeroPt zeroPt w (ptv_zero w) (ptv_zero w)).mono (by
    rintro e w' ⟨⟨b, rfl, hb⟩, hw⟩
    exact ⟨by rw [hb.2 rfl], hw⟩)

theorem same_ranks {p : Pt} {W : World} {va vb : Value} (h : ∃ rk, RankedIs p rk ∧ SlK cInt W va (ints rk) ∧ SlK cInt W vb (ints rk)) (hl : p.ships.length < 15) : Calls Try.prog 39 #[va, vb] W fun e w' => e = .returned (.bool true) ∧ Below W.heap.size W w' := by
  obtain ⟨rk, h1, h2, h3⟩ := h
  have := h1.len
  have h4 := ints_len rk
  refine (sameI_any va vb _ _ W h2 h3 (by omega) (by omega)).mono ?_
  rintro e w' ⟨rfl, hb⟩
  exact ⟨by rw [decide_eq_true rfl], hb⟩

theorem same_plans {p : Pt} {W : World} {va vb : Value} (h : ∃ x, PlanIs p x ∧ SlK cInt W va x ∧ SlK cInt W vb x) (hl : p.ships.length < 15) : Calls Try.prog 39 #[va, vb] W fun e w' => e = .returned (.bool true) ∧ Below W.heap.size W w' := by
  obtain ⟨x, h1, h2, h3⟩ := h
  have := h1.len
  refine (sameI_any va vb _ _ W h2 h3 (by omega) (by omega)).mono ?_
  rintro e w' ⟨rfl, hb⟩
  exact ⟨by rw [decide_eq_true rfl], hb⟩

set_option maxHeartbeats 8000000 in
set_option maxRecDepth 100000 in
theorem portTells_any (v : Value) (p : Pt) (s : Ship) (now : Int) (w : World) (hv : PtV w v p) (hf : WfP p) (hws : WfS s) :
    Calls Try.prog 7 #[v, .agg (cShip s).toArray, .int .i64 now] w fun e w' => e = .returned (.bool true) ∧ Below w.heap.size w w' := by
  show Calls Try.prog 7 #[v, .agg #[.int .i64 s.st, .int .i64 s.wd, .int .i64 s.lg, .int .i64 s.cl, .int .i64 s.si, .int .i64 s.qu], .int .i64 now] w fun e w' => e = .returned (.bool true) ∧ Below w.heap.size w w'
  obtain ⟨vs, rfl, hsl, h4, hmx⟩ := hv
  have HV : Hid (PtV w (.agg (portCells p vs).toArray) p) := ⟨vs, rfl, hsl, h4, hmx⟩
  have X0 : Hid (PBox ((w.alloc (.cells (portCells p vs).toArray 46)).alloc (.cells #[.int .i64 s.st, .int .i64 s.wd, .int .i64 s.lg, .int .i64 s.cl, .int .i64 s.si, .int .i64 s.qu] 48)) w.heap.size p vs ∧ SBox ((w.alloc (.cells (portCells p vs).toArray 46)).alloc (.cells #[.int .i64 s.st, .int .i64 s.wd, .int .i64 s.lg, .int .i64 s.cl, .int .i64 s.si, .int .i64 s.qu] 48)) (w.heap.size + 1) s ∧ Below w.heap.size w ((w.alloc (.cells (portCells p vs).toArray 46)).alloc (.cells #[.int .i64 s.st, .int .i64 s.wd, .int .i64 s.lg, .int .i64 s.cl, .int .i64 s.si, .int .i64 s.qu] 48))) := by
    have X0 : PBox (w.alloc (.cells (portCells p vs).toArray 46)) w.heap.size p vs := PBox.new w p _ h4
    have B0 : Below w.heap.size w (w.alloc (.cells (portCells p vs).toArray 46)) := (Below.refl _ w).alloc (Nat.le_refl _) _
    have e : (w.alloc (.cells (portCells p vs).toArray 46)).heap.size = w.heap.size + 1 := by simp
    have hs := SBox.new (w.alloc (.cells (portCells p vs).toArray 46)) s
    rw [e] at hs
    exact ⟨X0.later ((Below.refl _ _).alloc (Nat.le_refl _) _) X0.lt, hs, B0.alloc B0.size _⟩
  obtain ⟨bp, hbp⟩ : ∃ bp : Bool, bp = true ↔ IsPort p := by
    by_cases h : IsPort p
    · exact ⟨true, fun _ => h, fun _ => rfl⟩
    · exact ⟨false, fun h2 => (by cases h2), fun h2 => absurd h2 h⟩
  have HBP : Hid (bp = true ↔ IsPort p) := hbp
  have hbb : (bp != bp) = false := by simp
  have HIP : ∀ W, PtV W (.agg (portCells p vs).toArray) p → Calls Try.prog 31 #[.agg (portCells p vs).toArray] W fun e w' => e = .returned (.bool bp) ∧ Below W.heap.size W w' := fun W h => (refIsPort_any _ p W h).mono (by
    rintro e w' ⟨⟨b, rfl, hb⟩, hw⟩
    refine ⟨?_, hw⟩
    have : b = bp := by cases b <;> cases bp <;> simp_all
    rw [this])
  have HCP := fun W h => refCopy_any (.agg (portCells p vs).toArray) p W h
  have hq := hf.q
  have HGS := fun W => goodShip_any s now W
  have HIS := fun W => refIsShip_any s now W
  generalize hisb : isShipB s now = isb at HGS HIS
  have hib : (isb != isb) = false := by simp
  clear hsl hbp hisb
  generalize hPC : (portCells p vs).toArray = PC at *
  have HPC : Hid ((portCells p vs).toArray = PC) := hPC
  clear hPC
  generalize hWA : (w.alloc (.cells PC 46)).alloc (.cells #[.int .i64 s.st, .int .i64 s.wd, .int .i64 s.lg, .int .i64 s.cl, .int .i64 s.si, .int .i64 s.qu] 48) = WA at *
  go_enter Try.func7, Try.ntmps7
  go_wp2_with (refine wpList_load_box rfl _ rfl w.heap.size p vs rfl X0.out.1 ?_; rw [HPC.out])
  refine (HCP _ (HV.out.below X0.out.2.2)).mono ?_
  rintro e w1 ⟨vc, rfl, hc1, hb1⟩
  have on := ownsRow_one hc1
  have X1 : Hid (PBox w1 w.heap.size p vs ∧ SBox w1 (w.heap.size + 1) s ∧ Below w.heap.size w w1 ∧ SlK cShip w1 vc p.ships) := ⟨X0.out.1.later hb1 X0.out.1.lt, X0.out.2.1.later hb1 X0.out.2.1.lt, X0.out.2.2.trans (hb1.mono X0.out.2.2.size), slK_ofRow hc1⟩
  clear hc1 hb1 X0 HCP
  go_upto_region 2 with (first | (refine wpList_alloc_box rfl rfl 7 rfl ?_; intro w2 hw2 hs2) | (refine wpList_store_box rfl _ _ rfl w1.heap.size zeroPt p (.slice none 0 0) vc rfl rfl hw2.out.1 h4 on ?_; intro w3 hw3 hs3))
  have E3 : Hid (QEnv w p vs s vc w1.heap.size w3) := by
    have hb : Below w1.heap.size w1 w3 := hw2.out.2.trans (hw3.out.2.2 _ (Nat.le_refl _))
    have hbw : Below w.heap.size w w3 := X1.out.2.2.1.trans (hb.mono X1.out.2.2.1.size)
    refine ⟨hbw, X1.out.1.later hb X1.out.1.lt, X1.out.2.1.later hb X1.out.2.1.lt, hw3.out.1, ?_, ⟨_, rfl, X1.out.2.2.2.below hb, h4, hmx⟩⟩
    have h := HV.out.below hbw
    rw [HPC.out]
    exact h
  generalize w1.heap.size = gc at *
  clear hw2 hw3 hs2 hs3 X1 on
  have HGC : ∀ W, PtV W (.agg (portCells p vc).toArray) p → Calls Try.prog 30 #[.agg (portCells p vc).toArray] W fun e w' => e = .returned (.bool bp) ∧ Below W.heap.size W w' := fun W h => (goodPort_any _ p W h hq).mono (by
    rintro e w' ⟨⟨b, rfl, hb⟩, hw⟩
    refine ⟨?_, hw⟩
    have h1 := HBP.out
    have : b = bp := by cases b <;> cases bp <;> simp_all
    rw [this])
  have HBA := fun W h => base_any (.agg (portCells p vc).toArray) p W h hq
  generalize hCC : (portCells p vc).toArray = CC at *
  have HCC : Hid ((portCells p vc).toArray = CC) := hCC
  clear hCC
  have ED0 : Hid (QEnv w p vs s vc gc w3.drew) := E3.out.later ((Below.refl _ _).drew)

  simp only [Act.put, List.setIfInBounds_toArray, List.set_cons_zero, List.set_cons_succ]
  go_cut [37] (fun s37 wz => s37 = .bool false ∧ Hid (QEnv w p vs s vc gc wz))
  case first =>
      refine wp_region_held_drew (S := fun W => Hid (QEnv w p vs s vc gc W)) (by kernel_rfl) ED0 (fun hHeld => ?_)
      refine wpAnyH_take (i := 0) (oi := { dst := some 14, op := Op.load 46 (Operand.tmp 7), type := 46, pos := "law.go:77", after := #[], guard := none }) (v := .agg CC) rfl (by kernel_rfl) (by kernel_rfl) (by kernel_rfl) (fun _ _ _ h => h) (by rw [← HCC.out]; exact yieldsIf_load_mid (by rfl) 46 (.tmp 7) rfl gc 0 rfl (portCells p vc) _ (fun W hW => hW.out.cbox.whole) Try.underlying46 rfl (portInfo p _ h4)) hHeld ?_
      simp only [Act.put, List.setIfInBounds_toArray, List.set_cons_zero, List.set_cons_succ]
      refine wpAnyH_take (i := 2) (oi := { dst := some 16, op := Op.load 46 (Operand.tmp 3), type := 46, pos := "law.go:77", after := #[], guard := none }) (v := .agg PC) rfl (by kernel_rfl) (by kernel_rfl) (by kernel_rfl) (fun _ _ _ h => h) (by rw [← HPC.out]; exact yieldsIf_load_mid (by rfl) 46 (.tmp 3) rfl w.heap.size 0 rfl (portCells p vs) _ (fun W hW => hW.out.box.whole) Try.underlying46 rfl (portInfo p _ h4)) hHeld ?_
      simp only [Act.put, List.setIfInBounds_toArray, List.set_cons_zero, List.set_cons_succ]
      refine wpAnyH_ready (rs := [1]) (by kernel_rfl) (by simp) ?_
      refine AllReadyH.cons rfl (fun K hK => ?_) AllReadyH.nil
      go_simp
      refine (HGC _ (by have h := hHeld.out.cv; rw [HCC.out] at h; exact h)).mono ?_
      rintro e wa ⟨rfl, hba⟩
      have EA : Hid (QEnv w p vs s vc gc wa) := hHeld.out.later hba
      clear hba hHeld
      go_wp2_with fail
      refine hK.out _ _ EA (fun hHeld => ?_)
      clear hK K
      refine wpAnyH_ready (rs := [3]) (by kernel_rfl) (by simp) ?_
      refine AllReadyH.cons rfl (fun K hK => ?_) AllReadyH.nil
      go_simp
      refine (HIP _ (by have h := hHeld.out.pv; rw [HPC.out] at h; exact h)).mono ?_
      rintro e wb ⟨rfl, hbb⟩
      have EB : Hid (QEnv w p vs s vc gc wb) := hHeld.out.later hbb
      clear hbb hHeld EA
      go_wp2_with fail
      refine hK.out _ _ EB (fun hHeld => ?_)
      clear hK K
      refine wpAnyH_take (i := 4) (oi := { dst := some 18, op := Op.binOp BinOp.neq 4 (Operand.tmp 15) (Operand.tmp 17) 4, type := 4, pos := "law.go:77", after := #[{ on := 1, ground := Ground.data }, { on := 3, ground := Ground.data }], guard := none }) (v := .bool false) rfl (by kernel_rfl) (by kernel_rfl) (by kernel_rfl) (fun _ _ _ h => h) (Or.inl ⟨by rfl, by intro w hSw; go_simp⟩) hHeld ?_
      simp only [Act.put, List.setIfInBounds_toArray, List.set_cons_zero, List.set_cons_succ]
      refine wpAnyH_take (i := 5) (oi := { dst := some 19, op := Op.move (Operand.tmp 18), type := 4, pos := "law.go:77", after := #[{ on := 4, ground := Ground.data }, { on := 3, ground := Ground.chain }], guard := none }) (v := .bool false) rfl (by kernel_rfl) (by kernel_rfl) (by kernel_rfl) (fun _ _ _ h => h) (Or.inl ⟨by rfl, by intro w hSw; go_simp⟩) hHeld ?_
      simp only [Act.put, List.setIfInBounds_toArray, List.set_cons_zero, List.set_cons_succ]
      refine wpAnyH_take (i := 6) (oi := { dst := some 20, op := Op.load 48 (Operand.tmp 4), type := 48, pos := "law.go:77", after := #[{ on := 5, ground := Ground.guard }], guard := some (5, false) }) (v := .agg #[.int .i64 s.st, .int .i64 s.wd, .int .i64 s.lg, .int .i64 s.cl, .int .i64 s.si, .int .i64 s.qu]) rfl (by kernel_rfl) (by kernel_rfl) (by kernel_rfl) (fun _ _ _ h => h) (Or.inl ⟨by rfl, by intro w hSw; obtain ⟨z0, z1, z2, z3, z4, z5⟩ := hSw.out.sb.cells; go_simp⟩) hHeld ?_
      simp only [Act.put, List.setIfInBounds_toArray, List.set_cons_zero, List.set_cons_succ]
      refine wpAnyH_take (i := 7) (oi := { dst := some 21, op := Op.move (Operand.tmp 2), type := 3, pos := "law.go:77", after := #[{ on := 5, ground := Ground.guard }], guard := some (5, false) }) (v := .int .i64 now) rfl (by kernel_rfl) (by kernel_rfl) (by kernel_rfl) (fun _ _ _ h => h) (Or.inl ⟨by rfl, by intro w hSw; go_simp⟩) hHeld ?_
      simp only [Act.put, List.setIfInBounds_toArray, List.set_cons_zero, List.set_cons_succ]
      refine wpAnyH_take (i := 9) (oi := { dst := some 23, op := Op.load 48 (Operand.tmp 4), type := 48, pos := "law.go:77", after := #[{ on := 5, ground := Ground.guard }], guard := some (5, false) }) (v := .agg #[.int .i64 s.st, .int .i64 s.wd, .int .i64 s.lg, .int .i64 s.cl, .int .i64 s.si, .int .i64 s.qu]) rfl (by kernel_rfl) (by kernel_rfl) (by kernel_rfl) (fun _ _ _ h => h) (Or.inl ⟨by rfl, by intro w hSw; obtain ⟨z0, z1, z2, z3, z4, z5⟩ := hSw.out.sb.cells; go_simp⟩) hHeld ?_
      simp only [Act.put, List.setIfInBounds_toArray, List.set_cons_zero, List.set_cons_succ]
      refine wpAnyH_take (i := 10) (oi := { dst := some 24, op := Op.move (Operand.tmp 2), type := 3, pos := "law.go:77", after := #[{ on := 5, ground := Ground.guard }], guard := some (5, false) }) (v := .int .i64 now) rfl (by kernel_rfl) (by kernel_rfl) (by kernel_rfl) (fun _ _ _ h => h) (Or.inl ⟨by rfl, by intro w hSw; go_simp⟩) hHeld ?_
      simp only [Act.put, List.setIfInBounds_toArray, List.set_cons_zero, List.set_cons_succ]
      refine wpAnyH_ready (rs := [8]) (by kernel_rfl) (by simp) ?_
      refine AllReadyH.cons rfl (fun K hK => ?_) AllReadyH.nil
      go_simp
      refine (HGS _).mono ?_
      rintro e wd ⟨rfl, hbd⟩
      have ED : Hid (QEnv w p vs s vc gc wd) := hHeld.out.later hbd
      clear hbd hHeld EB
      go_wp2_with fail
      refine hK.out _ _ ED (fun hHeld => ?_)
      clear hK K
      refine wpAnyH_ready (rs := [11]) (by kernel_rfl) (by simp) ?_
      refine AllReadyH.cons rfl (fun K hK => ?_) AllReadyH.nil
      go_simp
      refine (HIS _).mono ?_
      rintro e we ⟨rfl, hbe⟩
      have EE : Hid (QEnv w p vs s vc gc we) := hHeld.out.later hbe
      clear hbe hHeld ED
      go_wp2_with fail
      refine hK.out _ _ EE (fun hHeld => ?_)
      clear hK K
      refine wpAnyH_take (i := 12) (oi := { dst := some 26, op := Op.binOp BinOp.neq 4 (Operand.tmp 22) (Operand.tmp 25) 4, type := 4, pos := "law.go:77", after := #[{ on := 8, ground := Ground.data }, { on := 11, ground := Ground.data }, { on := 5, ground := Ground.guard }], guard := some (5, false) }) (v := .bool false) rfl (by kernel_rfl) (by kernel_rfl) (by kernel_rfl) (fun _ _ _ h => h) (Or.inl ⟨by rfl, by intro w hSw; go_simp⟩) hHeld ?_
      simp only [Act.put, List.setIfInBounds_toArray, List.set_cons_zero, List.set_cons_succ]
      refine wpAnyH_take (i := 13) (oi := { dst := some 27, op := Op.pick (Operand.tmp 19) (Operand.const (Value.bool true)) (Operand.tmp 26), type := 4, pos := "law.go:77", after := #[{ on := 5, ground := Ground.data }, { on := 12, ground := Ground.data }], guard := none }) (v := .bool false) rfl (by kernel_rfl) (by kernel_rfl) (by kernel_rfl) (fun _ _ _ h => h) (Or.inl ⟨by rfl, by intro w hSw; go_simp⟩) hHeld ?_
      simp only [Act.put, List.setIfInBounds_toArray, List.set_cons_zero, List.set_cons_succ]
      refine wpAnyH_take (i := 14) (oi := { dst := some 28, op := Op.move (Operand.tmp 27), type := 4, pos := "law.go:77", after := #[{ on := 13, ground := Ground.data }, { on := 11, ground := Ground.chain }], guard := none }) (v := .bool false) rfl (by kernel_rfl) (by kernel_rfl) (by kernel_rfl) (fun _ _ _ h => h) (Or.inl ⟨by rfl, by intro w hSw; go_simp⟩) hHeld ?_
      simp only [Act.put, List.setIfInBounds_toArray, List.set_cons_zero, List.set_cons_succ]
      refine wpAnyH_take (i := 16) (oi := { dst := some 30, op := Op.build 46 #[], type := 46, pos := "law.go:77", after := #[{ on := 14, ground := Ground.guard }], guard := some (14, false) }) (v := .agg #[.int .i64 0, .slice none 0 0, .int .i64 0, .int .i64 0, .int .i64 0, .int .i64 0, .int .i64 0, .int .i64 0, .int .i64 0, .int .i64 0, .int .i64 0, .int .i64 0, .int .i64 0, .int .i64 0, .int .i64 0, .int .i64 0]) rfl (by kernel_rfl) (by kernel_rfl) (by kernel_rfl) (fun _ _ _ h => h) (Or.inl ⟨by rfl, by intro w hSw; go_simp⟩) hHeld ?_
      simp only [Act.put, List.setIfInBounds_toArray, List.set_cons_zero, List.set_cons_succ]
      refine wpAnyH_ready (rs := [15]) (by kernel_rfl) (by simp) ?_
      refine AllReadyH.cons rfl (fun K hK => ?_) AllReadyH.nil
      go_simp
      refine (newPort_any _).mono ?_
      rintro e wf ⟨rfl, hbf⟩
      have EF : Hid (QEnv w p vs s vc gc wf) := hHeld.out.later hbf
      clear hbf hHeld EE
      go_wp2_with fail
      refine hK.out _ _ EF (fun hHeld => ?_)
      clear hK K
      refine wpAnyH_ready (rs := [17]) (by kernel_rfl) (by simp) ?_
      refine AllReadyH.cons rfl (fun K hK => ?_) AllReadyH.nil
      go_simp
      refine (same_zero _).mono ?_
      rintro e wg ⟨rfl, hbg⟩
      have EG : Hid (QEnv w p vs s vc gc wg) := hHeld.out.later hbg
      clear hbg hHeld EF
      go_wp2_with fail
      refine hK.out _ _ EG (fun hHeld => ?_)
      clear hK K
      refine wpAnyH_take (i := 18) (oi := { dst := some 32, op := Op.unOp UnOp.not 4 (Operand.tmp 31), type := 4, pos := "law.go:77", after := #[{ on := 17, ground := Ground.data }, { on := 14, ground := Ground.guard }], guard := some (14, false) }) (v := .bool false) rfl (by kernel_rfl) (by kernel_rfl) (by kernel_rfl) (fun _ _ _ h => h) (Or.inl ⟨by rfl, by intro w hSw; go_simp⟩) hHeld ?_
      simp only [Act.put, List.setIfInBounds_toArray, List.set_cons_zero, List.set_cons_succ]
      refine wpAnyH_take (i := 19) (oi := { dst := some 33, op := Op.pick (Operand.tmp 28) (Operand.const (Value.bool true)) (Operand.tmp 32), type := 4, pos := "law.go:77", after := #[{ on := 14, ground := Ground.data }, { on := 18, ground := Ground.data }], guard := none }) (v := .bool false) rfl (by kernel_rfl) (by kernel_rfl) (by kernel_rfl) (fun _ _ _ h => h) (Or.inl ⟨by rfl, by intro w hSw; go_simp⟩) hHeld ?_
      simp only [Act.put, List.setIfInBounds_toArray, List.set_cons_zero, List.set_cons_succ]
      refine wpAnyH_take (i := 20) (oi := { dst := some 34, op := Op.move (Operand.tmp 33), type := 4, pos := "law.go:77", after := #[{ on := 19, ground := Ground.data }, { on := 17, ground := Ground.chain }], guard := none }) (v := .bool false) rfl (by kernel_rfl) (by kernel_rfl) (by kernel_rfl) (fun _ _ _ h => h) (Or.inl ⟨by rfl, by intro w hSw; go_simp⟩) hHeld ?_
      simp only [Act.put, List.setIfInBounds_toArray, List.set_cons_zero, List.set_cons_succ]
      refine wpAnyH_ready (rs := [21]) (by kernel_rfl) (by simp) ?_
      refine AllReadyH.cons rfl (fun K hK => ?_) AllReadyH.nil
      go_simp
      refine (lawPorts_any _).mono ?_
      rintro e wh ⟨rfl, hbh⟩
      have EH : Hid (QEnv w p vs s vc gc wh) := hHeld.out.later hbh
      clear hbh hHeld EG
      go_wp2_with fail
      refine hK.out _ _ EH (fun hHeld => ?_)
      clear hK K
      refine wpAnyH_take (i := 22) (oi := { dst := some 36, op := Op.unOp UnOp.not 4 (Operand.tmp 35), type := 4, pos := "law.go:77", after := #[{ on := 21, ground := Ground.data }, { on := 20, ground := Ground.guard }], guard := some (20, false) }) (v := .bool false) rfl (by kernel_rfl) (by kernel_rfl) (by kernel_rfl) (fun _ _ _ h => h) (Or.inl ⟨by rfl, by intro w hSw; go_simp⟩) hHeld ?_
      simp only [Act.put, List.setIfInBounds_toArray, List.set_cons_zero, List.set_cons_succ]
      refine wpAnyH_take (i := 23) (oi := { dst := some 37, op := Op.pick (Operand.tmp 34) (Operand.const (Value.bool true)) (Operand.tmp 36), type := 4, pos := "law.go:77", after := #[{ on := 20, ground := Ground.data }, { on := 22, ground := Ground.data }], guard := none }) (v := .bool false) rfl (by kernel_rfl) (by kernel_rfl) (by kernel_rfl) (fun _ _ _ h => h) (Or.inl ⟨by rfl, by intro w hSw; go_simp⟩) hHeld ?_
      simp only [Act.put, List.setIfInBounds_toArray, List.set_cons_zero, List.set_cons_succ]
      refine wpAnyH_done (by kernel_rfl) ?_ _
      go_wp2_with fail
      go_meet
      exact ⟨rfl, EH⟩
  case rest =>
    obtain ⟨rfl, E4⟩ := hcut
    clear E3 ED0 HGC HGS HIS hbb hib
    have VP4 : Hid (PtV wc (.agg PC) p) := by have h := E4.out.pv; rw [HPC.out] at h; exact h
    go_wp2_with (refine wpList_load_box rfl _ rfl w.heap.size p vs rfl E4.out.box ?_; rw [HPC.out])
    refine (HIP _ VP4.out).mono ?_
    rintro e w5 ⟨rfl, hb5⟩
    have E5 : Hid (QEnv w p vs s vc gc w5) := E4.out.later hb5
    clear E4 hb5 VP4 HIP
    cases bp
    · have B5 : Hid (Below w.heap.size w w5) := E5.out.below
      clear E5 HBA
      go_wp2_with fail
      go_ret
      exact ⟨rfl, B5.out⟩
    · have hp : IsPort p := HBP.out.1 rfl
      have HP : Hid (IsPort p) := hp
      have hlen := hp.port.len
      have hnow := hp.port.now.1
      have HBO : ∀ W, PtV W (.agg PC) p → _ := fun W h => refBase_any (.agg PC) p W h hp.port.baseIn
      have HRA : ∀ W, PtV W (.agg CC) p → _ := fun W h => ranked_any (.agg CC) p W h hp.port
      have HRR : ∀ W, PtV W (.agg PC) p → _ := fun W h => refRanked_any (.agg PC) p W h hp.port
      have HPA : ∀ W, PtV W (.agg CC) p → _ := fun W h => plan_any (.agg CC) p W h hp
      have HPR : ∀ W, PtV W (.agg PC) p → _ := fun W h => refPlan_any (.agg PC) p W h hp
      have HSP : ∀ W, PtV W (.agg CC) p → PtV W (.agg PC) p → Calls Try.prog 34 #[.agg CC, .agg PC] W fun e w' => e = .returned (.bool true) ∧ Below W.heap.size W w' := fun W h h2 => (refSame_any _ _ p p W h h2).mono (by
        rintro e w' ⟨⟨b, rfl, hb⟩, hw⟩
        exact ⟨by rw [hb.2 rfl], hw⟩)
      have VC5 : Hid (PtV w5 (.agg CC) p) := by have h := E5.out.cv; rw [HCC.out] at h; exact h
      clear hp
      go_wp2_with (refine wpList_load_box rfl _ rfl gc p vc rfl E5.out.cbox ?_; rw [HCC.out])
      refine (HBA _ VC5.out).mono ?_
      rintro e w6 ⟨⟨v8, ok8, rfl, hB8, _⟩, hb6⟩
      obtain ⟨rfl, _, r, hr⟩ : ok8 = true ∧ IsPort p ∧ ∃ r, Sl w6 v8 r ∧ Good r ∧ ∀ t, 0 ≤ t → t < 300 → val r t = baseAt p t := by
        rcases hB8 with h | ⟨_, h, _⟩
        · exact h
        · exact absurd HP.out h
      have E6 : Hid (QEnv w p vs s vc gc w6 ∧ Sl w6 v8 r) := ⟨E5.out.later hb6, hr.1⟩
      have RR : Hid (Good r ∧ ∀ t, 0 ≤ t → t < 300 → val r t = baseAt p t) := hr.2
      have VP6 : Hid (PtV w6 (.agg PC) p) := by have h := E6.out.1.pv; rw [HPC.out] at h; exact h
      clear hB8 hr hb6 E5 VC5 HBA
      go_wp2_with (refine wpList_load_box rfl _ rfl w.heap.size p vs rfl E6.out.1.box ?_; rw [HPC.out])
      refine (HBO _ VP6.out).mono ?_
      rintro e w7 ⟨f, rfl, hf3, hf2, hb7⟩
      have E7 : Hid (QEnv w p vs s vc gc w7 ∧ Sl w7 v8 r) := ⟨E6.out.1.later hb7, E6.out.2.below hb7⟩
      have HF2 : Hid (∀ j : Nat, j < 300 → f.getD j 0 = baseAt p j) := hf2
      have HST := fun W => refSteps_any f ⟨hf3, fun j hj => by rw [hf2 j hj]; exact ⟨HP.out.base j (by omega) (by omega), baseAt_le HP.out.port _⟩⟩ W
      clear E6 VP6 hb7 hf2 HBO
      generalize hFA : (ic f).toArray = FA at *
      have HFA : Hid ((ic f).toArray = FA) := hFA
      clear hFA
      go_upto_region 8 with (first | (refine wpList_alloc_arr rfl rfl 10 rfl ?_; intro w8 hw8 hs8) | (refine wpList_store_arr rfl _ _ rfl w7.heap.size zero300 f rfl (by show Value.agg FA = _; rw [HFA.out]) hw8.out.1 hf3 ?_; intro w9 hw9 hs9))
      have E9 : Hid (QEnv w p vs s vc gc w9 ∧ Sl w9 v8 r ∧ Arr w9 w7.heap.size f) := by
        have hb : Below w7.heap.size w7 w9 := hw8.out.2.trans (hw9.out.2.2 _ (Nat.le_refl _))
        exact ⟨E7.out.1.later hb, E7.out.2.below hb, hw9.out.1⟩
      generalize w7.heap.size = gF at *
      clear E7 hw8 hw9 hs8 hs9
      have E9D : Hid (QEnv w p vs s vc gc w9.drew ∧ Sl w9.drew v8 r ∧ Arr w9.drew gF f) := ⟨E9.out.1.later ((Below.refl _ _).drew), E9.out.2.1.below ((Below.refl _ _).drew), E9.out.2.2.later ((Below.refl _ _).drew) E9.out.2.2.lt⟩
      clear E9
      try simp only [Act.put, List.setIfInBounds_toArray, List.set_cons_zero, List.set_cons_succ]
      refine wp_region_held_drew (S := fun W => Hid (QEnv w p vs s vc gc W ∧ Sl W v8 r ∧ Arr W gF f)) (by kernel_rfl) E9D (fun hHeld => ?_)
      refine wpAnyH_take (i := 0) (oi := { dst := some 51, op := Op.move (Operand.tmp 9), type := 4, pos := "law.go:85", after := #[], guard := none }) (v := .bool true) rfl (by kernel_rfl) (by kernel_rfl) (by kernel_rfl) (fun _ _ _ h => h) (Or.inl ⟨by rfl, by intro w hSw; go_simp⟩) hHeld ?_
      simp only [Act.put, List.setIfInBounds_toArray, List.set_cons_zero, List.set_cons_succ]
      refine wpAnyH_take (i := 1) (oi := { dst := some 52, op := Op.move (Operand.tmp 51), type := 4, pos := "law.go:85", after := #[{ on := 0, ground := Ground.data }], guard := none }) (v := .bool true) rfl (by kernel_rfl) (by kernel_rfl) (by kernel_rfl) (fun _ _ _ h => h) (Or.inl ⟨by rfl, by intro w hSw; go_simp⟩) hHeld ?_
      simp only [Act.put, List.setIfInBounds_toArray, List.set_cons_zero, List.set_cons_succ]
      refine wpAnyH_take (i := 2) (oi := { dst := some 53, op := Op.move (Operand.tmp 8), type := 22, pos := "law.go:85", after := #[{ on := 1, ground := Ground.guard }], guard := some (1, true) }) (v := v8) rfl (by kernel_rfl) (by kernel_rfl) (by kernel_rfl) (fun _ _ _ h => h) (Or.inl ⟨by rfl, by intro w hSw; go_simp⟩) hHeld ?_
      simp only [Act.put, List.setIfInBounds_toArray, List.set_cons_zero, List.set_cons_succ]
      refine wpAnyH_take (i := 3) (oi := { dst := some 54, op := Op.load 24 (Operand.tmp 10), type := 24, pos := "law.go:85", after := #[{ on := 1, ground := Ground.guard }], guard := some (1, true) }) (v := .agg FA) rfl (by kernel_rfl) (by kernel_rfl) (by kernel_rfl) (fun _ _ _ h => h) (by rw [← HFA.out]; exact yieldsIf_load_mid (by rfl) 24 (.tmp 10) rfl gF 0 rfl (ic f) _ (fun W hW => hW.out.2.2.range) Try.underlying24 rfl (by rw [sizeFree, ic_length, hf3])) hHeld ?_
      simp only [Act.put, List.setIfInBounds_toArray, List.set_cons_zero, List.set_cons_succ]
      refine wpAnyH_ready (rs := [4]) (by kernel_rfl) (by simp) ?_
      refine AllReadyH.cons rfl (fun K hK => ?_) AllReadyH.nil
      go_simp
      refine (HST _).mono ?_
      rintro e wa ⟨va, ra, rfl, ha1, ha2, ha3, hba⟩
      have EA : Hid (QEnv w p vs s vc gc wa ∧ Sl wa v8 r ∧ Arr wa gF f) := ⟨hHeld.out.1.later hba, hHeld.out.2.1.below hba, hHeld.out.2.2.later hba hHeld.out.2.2.lt⟩
      have FA1 : Hid (Sl wa va ra ∧ ra = r) := ⟨ha1, same_profile ha2 RR.out.1 (fun t t0 t1 => (by have h1 := ha3.2 t.toNat (by omega); have h2 := HF2.out t.toNat (by omega); have h3 := RR.out.2 t t0 t1; rw [Int.toNat_of_nonneg t0] at h1 h2; omega))⟩
      clear hba hHeld ha1 ha2 ha3
      go_wp2_with fail
      refine hK.out _ _ EA (fun hHeld => ?_)
      clear hK K
      refine wpAnyH_ready (rs := [5]) (by kernel_rfl) (by simp) ?_
      refine AllReadyH.cons rfl (fun K hK => ?_) AllReadyH.nil
      go_simp
      refine (sameL_any v8 va r ra _ hHeld.out.2.1 FA1.out.1).mono ?_
      rintro e wb ⟨rfl, hbb2⟩
      rw [decide_eq_true (FA1.out.2.symm)]
      have EB : Hid (QEnv w p vs s vc gc wb ∧ Sl wb v8 r ∧ Arr wb gF f) := ⟨hHeld.out.1.later hbb2, hHeld.out.2.1.below hbb2, hHeld.out.2.2.later hbb2 hHeld.out.2.2.lt⟩
      clear hbb2 hHeld EA FA1
      go_wp2_with fail
      refine hK.out _ _ EB (fun hHeld => ?_)
      clear hK K
      refine wpAnyH_take (i := 6) (oi := { dst := some 57, op := Op.pick (Operand.tmp 52) (Operand.tmp 56) (Operand.const (Value.bool false)), type := 4, pos := "law.go:85", after := #[{ on := 1, ground := Ground.data }, { on := 5, ground := Ground.data }], guard := none }) (v := .bool true) rfl (by kernel_rfl) (by kernel_rfl) (by kernel_rfl) (fun _ _ _ h => h) (Or.inl ⟨by rfl, by intro w hSw; go_simp⟩) hHeld ?_
      simp only [Act.put, List.setIfInBounds_toArray, List.set_cons_zero, List.set_cons_succ]
      refine wpAnyH_take (i := 7) (oi := { dst := some 58, op := Op.move (Operand.tmp 57), type := 4, pos := "law.go:85", after := #[{ on := 6, ground := Ground.data }, { on := 5, ground := Ground.chain }], guard := none }) (v := .bool true) rfl (by kernel_rfl) (by kernel_rfl) (by kernel_rfl) (fun _ _ _ h => h) (Or.inl ⟨by rfl, by intro w hSw; go_simp⟩) hHeld ?_
      simp only [Act.put, List.setIfInBounds_toArray, List.set_cons_zero, List.set_cons_succ]
      refine wpAnyH_take (i := 8) (oi := { dst := some 59, op := Op.load 46 (Operand.tmp 7), type := 46, pos := "law.go:85", after := #[{ on := 7, ground := Ground.guard }], guard := some (7, true) }) (v := .agg CC) rfl (by kernel_rfl) (by kernel_rfl) (by kernel_rfl) (fun _ _ _ h => h) (by rw [← HCC.out]; exact yieldsIf_load_mid (by rfl) 46 (.tmp 7) rfl gc 0 rfl (portCells p vc) _ (fun W hW => hW.out.1.cbox.whole) Try.underlying46 rfl (portInfo p _ h4)) hHeld ?_
      simp only [Act.put, List.setIfInBounds_toArray, List.set_cons_zero, List.set_cons_succ]
      refine wpAnyH_take (i := 10) (oi := { dst := some 61, op := Op.load 46 (Operand.tmp 3), type := 46, pos := "law.go:85", after := #[{ on := 7, ground := Ground.guard }], guard := some (7, true) }) (v := .agg PC) rfl (by kernel_rfl) (by kernel_rfl) (by kernel_rfl) (fun _ _ _ h => h) (by rw [← HPC.out]; exact yieldsIf_load_mid (by rfl) 46 (.tmp 3) rfl w.heap.size 0 rfl (portCells p vs) _ (fun W hW => hW.out.1.box.whole) Try.underlying46 rfl (portInfo p _ h4)) hHeld ?_
      simp only [Act.put, List.setIfInBounds_toArray, List.set_cons_zero, List.set_cons_succ]
      refine wpAnyH_ready (rs := [9]) (by kernel_rfl) (by simp) ?_
      refine AllReadyH.cons rfl (fun K hK => ?_) AllReadyH.nil
      go_simp
      refine (HRA _ (by have h := hHeld.out.1.cv; rw [HCC.out] at h; exact h)).mono ?_
      rintro e wd ⟨⟨vd, rfl, hvd⟩, hbd⟩
      have ED : Hid (QEnv w p vs s vc gc wd ∧ Sl wd v8 r ∧ Arr wd gF f) := ⟨hHeld.out.1.later hbd, hHeld.out.2.1.below hbd, hHeld.out.2.2.later hbd hHeld.out.2.2.lt⟩
      have FD : Hid (∃ rk, RankedIs p rk ∧ SlK cInt wd vd (ints rk)) := (by obtain ⟨rk, h1, h2⟩ := hvd.out; exact ⟨rk, h1, slK_ofRow h2⟩)
      clear hbd hHeld EB hvd
      go_wp2_with fail
      refine hK.out _ _ ED (fun hHeld => ?_)
      clear hK K
      refine wpAnyH_ready (rs := [11]) (by kernel_rfl) (by simp) ?_
      refine AllReadyH.cons rfl (fun K hK => ?_) AllReadyH.nil
      go_simp
      refine (HRR _ (by have h := hHeld.out.1.pv; rw [HPC.out] at h; exact h)).mono ?_
      rintro e we ⟨⟨ve, rfl, hve⟩, hbe⟩
      have EE : Hid (QEnv w p vs s vc gc we ∧ Sl we v8 r ∧ Arr we gF f) := ⟨hHeld.out.1.later hbe, hHeld.out.2.1.below hbe, hHeld.out.2.2.later hbe hHeld.out.2.2.lt⟩
      have FE : Hid (∃ rk, RankedIs p rk ∧ SlK cInt we vd (ints rk) ∧ SlK cInt we ve (ints rk)) := (by obtain ⟨rk, h1, h2⟩ := FD.out; obtain ⟨rk2, h3, h5⟩ := hve.out; rw [← h1.unique h3] at h5; exact ⟨rk, h1, h2.below hbe, slK_ofRow h5⟩)
      clear hbe hHeld ED FD hve
      go_wp2_with fail
      refine hK.out _ _ EE (fun hHeld => ?_)
      clear hK K
      refine wpAnyH_ready (rs := [12]) (by kernel_rfl) (by simp) ?_
      refine AllReadyH.cons rfl (fun K hK => ?_) AllReadyH.nil
      go_simp
      refine (same_ranks FE.out hlen).mono ?_
      rintro e wf ⟨rfl, hbf⟩
      have EF : Hid (QEnv w p vs s vc gc wf ∧ Sl wf v8 r ∧ Arr wf gF f) := ⟨hHeld.out.1.later hbf, hHeld.out.2.1.below hbf, hHeld.out.2.2.later hbf hHeld.out.2.2.lt⟩
      clear hbf hHeld EE FE
      go_wp2_with fail
      refine hK.out _ _ EF (fun hHeld => ?_)
      clear hK K
      refine wpAnyH_take (i := 13) (oi := { dst := some 64, op := Op.pick (Operand.tmp 58) (Operand.tmp 63) (Operand.const (Value.bool false)), type := 4, pos := "law.go:85", after := #[{ on := 7, ground := Ground.data }, { on := 12, ground := Ground.data }], guard := none }) (v := .bool true) rfl (by kernel_rfl) (by kernel_rfl) (by kernel_rfl) (fun _ _ _ h => h) (Or.inl ⟨by rfl, by intro w hSw; go_simp⟩) hHeld ?_
      simp only [Act.put, List.setIfInBounds_toArray, List.set_cons_zero, List.set_cons_succ]
      refine wpAnyH_take (i := 14) (oi := { dst := some 65, op := Op.move (Operand.tmp 64), type := 4, pos := "law.go:85", after := #[{ on := 13, ground := Ground.data }, { on := 12, ground := Ground.chain }], guard := none }) (v := .bool true) rfl (by kernel_rfl) (by kernel_rfl) (by kernel_rfl) (fun _ _ _ h => h) (Or.inl ⟨by rfl, by intro w hSw; go_simp⟩) hHeld ?_
      simp only [Act.put, List.setIfInBounds_toArray, List.set_cons_zero, List.set_cons_succ]
      refine wpAnyH_take (i := 15) (oi := { dst := some 66, op := Op.load 46 (Operand.tmp 7), type := 46, pos := "law.go:85", after := #[{ on := 14, ground := Ground.guard }], guard := some (14, true) }) (v := .agg CC) rfl (by kernel_rfl) (by kernel_rfl) (by kernel_rfl) (fun _ _ _ h => h) (by rw [← HCC.out]; exact yieldsIf_load_mid (by rfl) 46 (.tmp 7) rfl gc 0 rfl (portCells p vc) _ (fun W hW => hW.out.1.cbox.whole) Try.underlying46 rfl (portInfo p _ h4)) hHeld ?_
      simp only [Act.put, List.setIfInBounds_toArray, List.set_cons_zero, List.set_cons_succ]
      refine wpAnyH_take (i := 17) (oi := { dst := some 68, op := Op.load 46 (Operand.tmp 3), type := 46, pos := "law.go:85", after := #[{ on := 14, ground := Ground.guard }], guard := some (14, true) }) (v := .agg PC) rfl (by kernel_rfl) (by kernel_rfl) (by kernel_rfl) (fun _ _ _ h => h) (by rw [← HPC.out]; exact yieldsIf_load_mid (by rfl) 46 (.tmp 3) rfl w.heap.size 0 rfl (portCells p vs) _ (fun W hW => hW.out.1.box.whole) Try.underlying46 rfl (portInfo p _ h4)) hHeld ?_
      simp only [Act.put, List.setIfInBounds_toArray, List.set_cons_zero, List.set_cons_succ]
      refine wpAnyH_ready (rs := [16]) (by kernel_rfl) (by simp) ?_
      refine AllReadyH.cons rfl (fun K hK => ?_) AllReadyH.nil
      go_simp
      refine (HPA _ (by have h := hHeld.out.1.cv; rw [HCC.out] at h; exact h)).mono ?_
      rintro e wg ⟨⟨vg, rfl, hvg⟩, hbg⟩
      have EG : Hid (QEnv w p vs s vc gc wg ∧ Sl wg v8 r ∧ Arr wg gF f) := ⟨hHeld.out.1.later hbg, hHeld.out.2.1.below hbg, hHeld.out.2.2.later hbg hHeld.out.2.2.lt⟩
      have FG : Hid (∃ x, PlanIs p x ∧ SlK cInt wg vg x) := (by obtain ⟨x, h1, _, h2⟩ := hvg.out; exact ⟨x, h1, h2⟩)
      clear hbg hHeld EF hvg
      go_wp2_with fail
      refine hK.out _ _ EG (fun hHeld => ?_)
      clear hK K
      refine wpAnyH_ready (rs := [18]) (by kernel_rfl) (by simp) ?_
      refine AllReadyH.cons rfl (fun K hK => ?_) AllReadyH.nil
      go_simp
      refine (HPR _ (by have h := hHeld.out.1.pv; rw [HPC.out] at h; exact h)).mono ?_
      rintro e wh ⟨⟨vh, rfl, hvh⟩, hbh⟩
      have EH : Hid (QEnv w p vs s vc gc wh ∧ Sl wh v8 r ∧ Arr wh gF f) := ⟨hHeld.out.1.later hbh, hHeld.out.2.1.below hbh, hHeld.out.2.2.later hbh hHeld.out.2.2.lt⟩
      have FH : Hid (∃ x, PlanIs p x ∧ SlK cInt wh vg x ∧ SlK cInt wh vh x) := (by obtain ⟨x, h1, h2⟩ := FG.out; obtain ⟨y, h3, h5⟩ := hvh.out; rw [← h1.unique hnow h3] at h5; exact ⟨x, h1, h2.below hbh, h5⟩)
      clear hbh hHeld EG FG hvh
      go_wp2_with fail
      refine hK.out _ _ EH (fun hHeld => ?_)
      clear hK K
      refine wpAnyH_ready (rs := [19]) (by kernel_rfl) (by simp) ?_
      refine AllReadyH.cons rfl (fun K hK => ?_) AllReadyH.nil
      go_simp
      refine (same_plans FH.out hlen).mono ?_
      rintro e wi ⟨rfl, hbi⟩
      have EI : Hid (QEnv w p vs s vc gc wi ∧ Sl wi v8 r ∧ Arr wi gF f) := ⟨hHeld.out.1.later hbi, hHeld.out.2.1.below hbi, hHeld.out.2.2.later hbi hHeld.out.2.2.lt⟩
      clear hbi hHeld EH FH
      go_wp2_with fail
      refine hK.out _ _ EI (fun hHeld => ?_)
      clear hK K
      refine wpAnyH_take (i := 20) (oi := { dst := some 71, op := Op.pick (Operand.tmp 65) (Operand.tmp 70) (Operand.const (Value.bool false)), type := 4, pos := "law.go:85", after := #[{ on := 14, ground := Ground.data }, { on := 19, ground := Ground.data }], guard := none }) (v := .bool true) rfl (by kernel_rfl) (by kernel_rfl) (by kernel_rfl) (fun _ _ _ h => h) (Or.inl ⟨by rfl, by intro w hSw; go_simp⟩) hHeld ?_
      simp only [Act.put, List.setIfInBounds_toArray, List.set_cons_zero, List.set_cons_succ]
      refine wpAnyH_take (i := 21) (oi := { dst := some 72, op := Op.move (Operand.tmp 71), type := 4, pos := "law.go:85", after := #[{ on := 20, ground := Ground.data }, { on := 19, ground := Ground.chain }], guard := none }) (v := .bool true) rfl (by kernel_rfl) (by kernel_rfl) (by kernel_rfl) (fun _ _ _ h => h) (Or.inl ⟨by rfl, by intro w hSw; go_simp⟩) hHeld ?_
      simp only [Act.put, List.setIfInBounds_toArray, List.set_cons_zero, List.set_cons_succ]
      refine wpAnyH_take (i := 22) (oi := { dst := some 73, op := Op.load 46 (Operand.tmp 7), type := 46, pos := "law.go:85", after := #[{ on := 21, ground := Ground.guard }], guard := some (21, true) }) (v := .agg CC) rfl (by kernel_rfl) (by kernel_rfl) (by kernel_rfl) (fun _ _ _ h => h) (by rw [← HCC.out]; exact yieldsIf_load_mid (by rfl) 46 (.tmp 7) rfl gc 0 rfl (portCells p vc) _ (fun W hW => hW.out.1.cbox.whole) Try.underlying46 rfl (portInfo p _ h4)) hHeld ?_
      simp only [Act.put, List.setIfInBounds_toArray, List.set_cons_zero, List.set_cons_succ]
      refine wpAnyH_take (i := 23) (oi := { dst := some 74, op := Op.load 46 (Operand.tmp 3), type := 46, pos := "law.go:85", after := #[{ on := 21, ground := Ground.guard }], guard := some (21, true) }) (v := .agg PC) rfl (by kernel_rfl) (by kernel_rfl) (by kernel_rfl) (fun _ _ _ h => h) (by rw [← HPC.out]; exact yieldsIf_load_mid (by rfl) 46 (.tmp 3) rfl w.heap.size 0 rfl (portCells p vs) _ (fun W hW => hW.out.1.box.whole) Try.underlying46 rfl (portInfo p _ h4)) hHeld ?_
      simp only [Act.put, List.setIfInBounds_toArray, List.set_cons_zero, List.set_cons_succ]
      refine wpAnyH_ready (rs := [24]) (by kernel_rfl) (by simp) ?_
      refine AllReadyH.cons rfl (fun K hK => ?_) AllReadyH.nil
      go_simp
      refine (HSP _ (by have h := hHeld.out.1.cv; rw [HCC.out] at h; exact h) (by have h := hHeld.out.1.pv; rw [HPC.out] at h; exact h)).mono ?_
      rintro e wj ⟨rfl, hbj⟩
      have EJ : Hid (QEnv w p vs s vc gc wj ∧ Sl wj v8 r ∧ Arr wj gF f) := ⟨hHeld.out.1.later hbj, hHeld.out.2.1.below hbj, hHeld.out.2.2.later hbj hHeld.out.2.2.lt⟩
      clear hbj hHeld EI
      go_wp2_with fail
      refine hK.out _ _ EJ (fun hHeld => ?_)
      clear hK K
      refine wpAnyH_take (i := 25) (oi := { dst := some 76, op := Op.pick (Operand.tmp 72) (Operand.tmp 75) (Operand.const (Value.bool false)), type := 4, pos := "law.go:85", after := #[{ on := 21, ground := Ground.data }, { on := 24, ground := Ground.data }], guard := none }) (v := .bool true) rfl (by kernel_rfl) (by kernel_rfl) (by kernel_rfl) (fun _ _ _ h => h) (Or.inl ⟨by rfl, by intro w hSw; go_simp⟩) hHeld ?_
      simp only [Act.put, List.setIfInBounds_toArray, List.set_cons_zero, List.set_cons_succ]
      refine wpAnyH_take (i := 26) (oi := { dst := some 6, op := Op.assign (Operand.tmp 76), type := 4, pos := "law.go:85", after := #[{ on := 25, ground := Ground.data }, { on := 24, ground := Ground.chain }, { on := 0, ground := Ground.phase }, { on := 1, ground := Ground.phase }, { on := 2, ground := Ground.phase }, { on := 3, ground := Ground.phase }, { on := 4, ground := Ground.phase }, { on := 5, ground := Ground.phase }, { on := 6, ground := Ground.phase }, { on := 7, ground := Ground.phase }, { on := 8, ground := Ground.phase }, { on := 9, ground := Ground.phase }, { on := 10, ground := Ground.phase }, { on := 11, ground := Ground.phase }, { on := 12, ground := Ground.phase }, { on := 13, ground := Ground.phase }, { on := 14, ground := Ground.phase }, { on := 15, ground := Ground.phase }, { on := 16, ground := Ground.phase }, { on := 17, ground := Ground.phase }, { on := 18, ground := Ground.phase }, { on := 19, ground := Ground.phase }, { on := 20, ground := Ground.phase }, { on := 21, ground := Ground.phase }, { on := 22, ground := Ground.phase }, { on := 23, ground := Ground.phase }, { on := 24, ground := Ground.phase }, { on := 25, ground := Ground.phase }], guard := none }) (v := .bool true) rfl (by kernel_rfl) (by kernel_rfl) (by kernel_rfl) (fun _ _ _ h => h) (Or.inl ⟨by rfl, by intro w hSw; go_simp⟩) hHeld ?_
      simp only [Act.put, List.setIfInBounds_toArray, List.set_cons_zero, List.set_cons_succ]
      refine wpAnyH_done (by kernel_rfl) ?_ _
      have B9 : Hid (Below w.heap.size w wj) := EJ.out.1.below
      clear hHeld EJ
      go_wp2_with fail
      go_ret
      exact ⟨rfl, B9.out⟩


end Go.Proofs.Ytghhegajbehpeaa
