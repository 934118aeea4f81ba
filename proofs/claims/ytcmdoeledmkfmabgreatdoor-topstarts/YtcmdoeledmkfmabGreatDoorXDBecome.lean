import Derived.Deep.RegionHeld
import Derived.Test.YtcmdoeledmkfmabGreatDoorXDMem
set_option linter.unusedSimpArgs false
set_option linter.unusedVariables false
namespace Go.Proofs.YtcmdoeledmkfmabGreatDoor
open Go.RowKit
set_option maxHeartbeats 4000000 in
set_option maxRecDepth 100000 in
theorem become_any (d : Nat) (D : Dk) (q : Pt) (vq : Value) (w : World) (hD : Dsk w d D) (hp : IsPort D.p) (hq : IsPort q) (hv : RowT 51 cShip w vq q.ships) :
    Calls Tryz.prog 76 #[.pointer (some ⟨d, 0, none⟩), .agg (portCells q vq).toArray] w fun e w' => e = .returned (.tuple #[]) ∧ Dsk w' d { D with p := q } ∧ Fr d w w' := by
  obtain ⟨vs, vp, va, pl, hM⟩ := hD
  have h4 := hq.port.four
  have hpl := hM.plan
  obtain ⟨pa, pc, hvp⟩ := hM.row.shape
  subst hvp
  have hMP := fun W h1 h2 h3 => mendPlan_far (.agg (portCells D.p vs).toArray) (.agg (portCells q vq).toArray) (.slice pa pl.length pc) D.p q pl W h1 h2 hp hq h3 hpl
  have hba : Below w.heap.size w (w.alloc (.cells (portCells q vq).toArray 33)) := (Below.refl _ w).alloc (Nat.le_refl _) _
  have E0 : Hid (DM (w.alloc (.cells (portCells q vq).toArray 33)).drew d D vs (.slice pa pl.length pc) va pl ∧ PBox (w.alloc (.cells (portCells q vq).toArray 33)).drew w.heap.size q vq ∧ RowT 51 cShip (w.alloc (.cells (portCells q vq).toArray 33)).drew vq q.ships ∧ Fr d w (w.alloc (.cells (portCells q vq).toArray 33)).drew) := by
    have hd : Below (w.alloc (.cells (portCells q vq).toArray 33)).heap.size (w.alloc (.cells (portCells q vq).toArray 33)) (w.alloc (.cells (portCells q vq).toArray 33)).drew := (Below.refl _ _).drew
    have hX := PBox.new w q vq h4
    have hlt := hM.lt
    exact ⟨(hM.later hba).later hd, hX.later hd hX.lt, (hv.later hba).later hd, (Fr.of hba (by omega)).trans (Fr.drew _)⟩
  have HD : Hid (d < w.heap.size ∧ IsPort D.p ∧ IsPort q) := ⟨hM.lt, hp, hq⟩
  have HV1 := hv.one
  clear hba hM hpl hv hp hq
  generalize hPC : (portCells D.p vs).toArray = PC at *
  generalize hQC : (portCells q vq).toArray = QC at *
  have HPC : Hid ((portCells D.p vs).toArray = PC) := hPC
  have HQC : Hid ((portCells q vq).toArray = QC) := hQC
  clear hPC hQC
  go_enter Tryz.func76, Tryz.ntmps76
  go_upto_region 1 with fail
  generalize hW0 : w.alloc (.cells QC 33) = W0 at *
  generalize hz : w.heap.size = z at *
  refine wp_region_held_drew (S := fun W => Hid (PBox W z q vq ∧ ∃ x, DBx W d D.p vs x va D.n)) (by kernel_rfl) ⟨E0.out.2.1, _, E0.out.1.box⟩ (fun hHeld => ?_)
  refine wpAnyH_take (i := 0) (oi := { dst := some 5, op := Go.Op.move (Go.Operand.tmp 0), type := 22, pos := "obey.go:114", after := #[], guard := none }) (v := ?_) rfl (by kernel_rfl) (by kernel_rfl) (by kernel_rfl) (fun _ _ _ h => h) (Or.inl ⟨by rfl, ?_⟩) hHeld ?_
  rotate_left
  · (intro w hSw; first | (go_simp; done) | (go_simp; with_reducible rfl))
  simp only [Act.put, List.setIfInBounds_toArray, List.set_cons_zero, List.set_cons_succ]
  refine wpAnyH_take (i := 1) (oi := { dst := some 6, op := Go.Op.move (Go.Operand.tmp 0), type := 22, pos := "obey.go:114", after := #[], guard := none }) (v := ?_) rfl (by kernel_rfl) (by kernel_rfl) (by kernel_rfl) (fun _ _ _ h => h) (Or.inl ⟨by rfl, ?_⟩) hHeld ?_
  rotate_left
  · (intro w hSw; first | (go_simp; done) | (go_simp; with_reducible rfl))
  simp only [Act.put, List.setIfInBounds_toArray, List.set_cons_zero, List.set_cons_succ]
  refine wpAnyH_take (i := 2) (oi := { dst := some 7, op := Go.Op.nilCheck (Go.Operand.tmp 6), type := 0, pos := "obey.go:114", after := #[{ on := 1, ground := Go.Ground.data }], guard := none }) (v := ?_) rfl (by kernel_rfl) (by kernel_rfl) (by kernel_rfl) (fun _ _ _ h => h) (Or.inl ⟨by rfl, ?_⟩) hHeld ?_
  rotate_left
  · (intro w hSw; first | (go_simp; done) | (go_simp; with_reducible rfl))
  simp only [Act.put, List.setIfInBounds_toArray, List.set_cons_zero, List.set_cons_succ]
  refine wpAnyH_take (i := 3) (oi := { dst := some 8, op := Go.Op.fieldAddr 64 (Go.Operand.tmp 7) 0, type := 0, pos := "obey.go:114", after := #[{ on := 2, ground := Go.Ground.data }], guard := none }) (v := ?_) rfl (by kernel_rfl) (by kernel_rfl) (by kernel_rfl) (fun _ _ _ h => h) (Or.inl ⟨by rfl, ?_⟩) hHeld ?_
  rotate_left
  · (intro w hSw; first | (go_simp; done) | (go_simp; with_reducible rfl))
  simp only [Act.put, List.setIfInBounds_toArray, List.set_cons_zero, List.set_cons_succ]
  refine wpAnyH_take (i := 4) (oi := { dst := some 9, op := Go.Op.load 33 (Go.Operand.tmp 8), type := 33, pos := "obey.go:114", after := #[{ on := 3, ground := Go.Ground.data }], guard := none }) (v := .agg PC) rfl (by kernel_rfl) (by kernel_rfl) (by kernel_rfl) (fun _ _ _ h => h) (by rw [← HPC.out]; exact yieldsIf_load_mid (by rfl) 33 (.tmp 8) rfl d 0 rfl (portCells D.p vs) _ (fun W hW => by obtain ⟨_, h⟩ := hW.out.2; exact h.port) Tryz.underlying33 rfl (portInfo D.p vs E0.out.1.box.four)) hHeld ?_
  simp only [Act.put, List.setIfInBounds_toArray, List.set_cons_zero, List.set_cons_succ]
  refine wpAnyH_take (i := 5) (oi := { dst := some 10, op := Go.Op.load 33 (Go.Operand.tmp 3), type := 33, pos := "obey.go:114", after := #[], guard := none }) (v := .agg QC) rfl (by kernel_rfl) (by kernel_rfl) (by kernel_rfl) (fun _ _ _ h => h) (by rw [← HQC.out]; exact yieldsIf_load_mid (by rfl) 33 (.tmp 3) rfl z 0 rfl (portCells q vq) _ (fun W hW => hW.out.1.whole) Tryz.underlying33 rfl (portInfo q vq h4)) hHeld ?_
  simp only [Act.put, List.setIfInBounds_toArray, List.set_cons_zero, List.set_cons_succ]
  refine wpAnyH_take (i := 6) (oi := { dst := some 11, op := Go.Op.move (Go.Operand.tmp 0), type := 22, pos := "obey.go:114", after := #[], guard := none }) (v := ?_) rfl (by kernel_rfl) (by kernel_rfl) (by kernel_rfl) (fun _ _ _ h => h) (Or.inl ⟨by rfl, ?_⟩) hHeld ?_
  rotate_left
  · (intro w hSw; first | (go_simp; done) | (go_simp; with_reducible rfl))
  simp only [Act.put, List.setIfInBounds_toArray, List.set_cons_zero, List.set_cons_succ]
  refine wpAnyH_take (i := 7) (oi := { dst := some 12, op := Go.Op.nilCheck (Go.Operand.tmp 11), type := 0, pos := "obey.go:114", after := #[{ on := 6, ground := Go.Ground.data }], guard := none }) (v := ?_) rfl (by kernel_rfl) (by kernel_rfl) (by kernel_rfl) (fun _ _ _ h => h) (Or.inl ⟨by rfl, ?_⟩) hHeld ?_
  rotate_left
  · (intro w hSw; first | (go_simp; done) | (go_simp; with_reducible rfl))
  simp only [Act.put, List.setIfInBounds_toArray, List.set_cons_zero, List.set_cons_succ]
  refine wpAnyH_take (i := 8) (oi := { dst := some 13, op := Go.Op.fieldAddr 64 (Go.Operand.tmp 12) 1, type := 0, pos := "obey.go:114", after := #[{ on := 7, ground := Go.Ground.data }], guard := none }) (v := ?_) rfl (by kernel_rfl) (by kernel_rfl) (by kernel_rfl) (fun _ _ _ h => h) (Or.inl ⟨by rfl, ?_⟩) hHeld ?_
  rotate_left
  · (intro w hSw; first | (go_simp; done) | (go_simp; with_reducible rfl))
  simp only [Act.put, List.setIfInBounds_toArray, List.set_cons_zero, List.set_cons_succ]
  have c16 := E0.out.1.box.cells.2.2.1
  refine wpAnyH_ready (rs := [9]) (by kernel_rfl) (by simp) ?_
  refine AllReadyH.cons rfl (fun K hK => ?_) AllReadyH.nil
  go_simp
  refine hK.out _ _ hHeld (fun hHeld => ?_)
  clear hK K
  refine wpAnyH_ready (rs := [10]) (by kernel_rfl) (by simp) ?_
  refine AllReadyH.cons rfl (fun K hK => ?_) AllReadyH.nil
  go_simp
  refine (hMP _ (by have := E0.out.1.pv HD.out.2.1; rw [HPC.out] at this; exact this) (by rw [← HQC.out]; exact ⟨vq, rfl, E0.out.2.2.1.sl, h4, by have := HD.out.2.2.port.len; omega⟩) E0.out.1.row.sl).mono ?_
  rintro e w1 ⟨g1, n1, rfl, h1⟩
  have E1 : Hid (DM w1 d D vs (.slice pa pl.length pc) va pl ∧ PBox w1 z q vq ∧ RowT 51 cShip w1 vq q.ships ∧ Fr d w w1 ∧ ∃ pl', PlanIs q pl' ∧ RowT 3 cInt w1 (.slice (some ⟨g1, 0, none⟩) q.ships.length q.ships.length) pl') := by
    obtain ⟨⟨pl', k1, k2⟩, _, _, hb⟩ := h1.out
    have k3 := RowT.ownK k2
    rw [k1.len] at k3
    exact ⟨E0.out.1.later hb, E0.out.2.1.later hb E0.out.2.1.lt, E0.out.2.2.1.later hb, E0.out.2.2.2.trans (Fr.of hb (by have := E0.out.1.lt; omega)), pl', k1, k3⟩
  clear h1 hMP c16 E0
  go_wp2_with fail
  refine hK.out _ _ ⟨E1.out.2.1, _, E1.out.1.box⟩ (fun hHeld => ?_)
  clear hK K
  refine wpAnyH_take (i := 11) (oi := { dst := some 4, op := Go.Op.move (Go.Operand.tmp 15), type := 114, pos := "obey.go:114", after := #[{ on := 10, ground := Go.Ground.data }], guard := none }) (v := ?_) rfl (by kernel_rfl) (by kernel_rfl) (by kernel_rfl) (fun _ _ _ h => h) (Or.inl ⟨by rfl, ?_⟩) hHeld ?_
  rotate_left
  · (intro w hSw; first | (go_simp; done) | (go_simp; with_reducible rfl))
  simp only [Act.put, List.setIfInBounds_toArray, List.set_cons_zero, List.set_cons_succ]
  refine wpAnyH_take (i := 12) (oi := { dst := some 16, op := Go.Op.extract (Go.Operand.tmp 4) 0, type := 35, pos := "obey.go:114", after := #[{ on := 11, ground := Go.Ground.data }], guard := none }) (v := ?_) rfl (by kernel_rfl) (by kernel_rfl) (by kernel_rfl) (fun _ _ _ h => h) (Or.inl ⟨by rfl, ?_⟩) hHeld ?_
  rotate_left
  · (intro w hSw; first | (go_simp; done) | (go_simp; with_reducible rfl))
  simp only [Act.put, List.setIfInBounds_toArray, List.set_cons_zero, List.set_cons_succ]
  refine wpAnyH_take (i := 13) (oi := { dst := some 17, op := Go.Op.extract (Go.Operand.tmp 4) 1, type := 3, pos := "obey.go:114", after := #[{ on := 11, ground := Go.Ground.data }, { on := 16, ground := Go.Ground.gcOnly Go.Departure.lateStores }], guard := none }) (v := ?_) rfl (by kernel_rfl) (by kernel_rfl) (by kernel_rfl) (fun _ _ _ h => h) (Or.inl ⟨by rfl, ?_⟩) hHeld ?_
  rotate_left
  · (intro w hSw; first | (go_simp; done) | (go_simp; with_reducible rfl))
  simp only [Act.put, List.setIfInBounds_toArray, List.set_cons_zero, List.set_cons_succ]
  refine wpAnyH_take (i := 14) (oi := { dst := some 18, op := Go.Op.nilCheck (Go.Operand.tmp 5), type := 0, pos := "obey.go:114", after := #[{ on := 0, ground := Go.Ground.data }, { on := 0, ground := Go.Ground.phase }, { on := 1, ground := Go.Ground.phase }, { on := 2, ground := Go.Ground.phase }, { on := 3, ground := Go.Ground.phase }, { on := 4, ground := Go.Ground.phase }, { on := 5, ground := Go.Ground.phase }, { on := 6, ground := Go.Ground.phase }, { on := 7, ground := Go.Ground.phase }, { on := 8, ground := Go.Ground.phase }, { on := 9, ground := Go.Ground.phase }, { on := 10, ground := Go.Ground.phase }, { on := 11, ground := Go.Ground.phase }, { on := 12, ground := Go.Ground.phase }, { on := 13, ground := Go.Ground.textOnly Go.Departure.lateStores }], guard := none }) (v := ?_) rfl (by kernel_rfl) (by kernel_rfl) (by kernel_rfl) (fun _ _ _ h => h) (Or.inl ⟨by rfl, ?_⟩) hHeld ?_
  rotate_left
  · (intro w hSw; first | (go_simp; done) | (go_simp; with_reducible rfl))
  simp only [Act.put, List.setIfInBounds_toArray, List.set_cons_zero, List.set_cons_succ]
  refine wpAnyH_take (i := 15) (oi := { dst := some 19, op := Go.Op.fieldAddr 64 (Go.Operand.tmp 18) 1, type := 0, pos := "obey.go:114", after := #[{ on := 14, ground := Go.Ground.data }, { on := 0, ground := Go.Ground.phase }, { on := 1, ground := Go.Ground.phase }, { on := 2, ground := Go.Ground.phase }, { on := 3, ground := Go.Ground.phase }, { on := 4, ground := Go.Ground.phase }, { on := 5, ground := Go.Ground.phase }, { on := 6, ground := Go.Ground.phase }, { on := 7, ground := Go.Ground.phase }, { on := 8, ground := Go.Ground.phase }, { on := 9, ground := Go.Ground.phase }, { on := 10, ground := Go.Ground.phase }, { on := 11, ground := Go.Ground.phase }, { on := 12, ground := Go.Ground.phase }, { on := 13, ground := Go.Ground.textOnly Go.Departure.lateStores }], guard := none }) (v := ?_) rfl (by kernel_rfl) (by kernel_rfl) (by kernel_rfl) (fun _ _ _ h => h) (Or.inl ⟨by rfl, ?_⟩) hHeld ?_
  rotate_left
  · (intro w hSw; first | (go_simp; done) | (go_simp; with_reducible rfl))
  simp only [Act.put, List.setIfInBounds_toArray, List.set_cons_zero, List.set_cons_succ]
  have c16 := E1.out.1.box.cells.2.2.1
  have f16 := E1.out.1.box.frozen 16
  have B2 : Hid (DBx (w1.setCell ⟨d, 16, none⟩ (.slice (some ⟨g1, 0, none⟩) q.ships.length q.ships.length)) d D.p vs (.slice (some ⟨g1, 0, none⟩) q.ships.length q.ships.length) va D.n ∧ PBox (w1.setCell ⟨d, 16, none⟩ (.slice (some ⟨g1, 0, none⟩) q.ships.length q.ships.length)) z q vq) := ⟨E1.out.1.box.setPlan _, E1.out.2.1.other 16 _ (by have := HD.out.1; omega)⟩
  refine wpAnyH_ready (rs := [16]) (by kernel_rfl) (by simp) ?_
  refine AllReadyH.cons rfl (fun K hK => ?_) AllReadyH.nil
  go_simp
  refine hK.out _ _ ⟨B2.out.2, _, B2.out.1⟩ (fun hHeld => ?_)
  clear hK K hHeld
  refine wpAnyH_done (by kernel_rfl) ?_ _
  clear c16 f16
  generalize hW2 : w1.setCell ⟨d, 16, none⟩ (.slice (some ⟨g1, 0, none⟩) q.ships.length q.ships.length) = W2 at *
  have F2 : Hid (Fr d w1 W2) := by rw [← hW2]; exact Fr.set _ _ _
  clear hW2
  go_wp2_with (first | (refine wpList_load_box rfl _ rfl z q vq rfl B2.out.2 ?_) | (refine wpList_store_desk rfl _ _ rfl d D.p q vs vq (.slice (some ⟨g1, 0, none⟩) q.ships.length q.ships.length) va D.n rfl rfl B2.out.1 h4 HV1 ?_; intro w3 h3))
  go_end0
  obtain ⟨_, _, h5, h6, pl', k1, k2⟩ := E1.out
  have F3 := F2.out.trans h3.out.2
  have hb := E1.out.1.box
  exact ⟨rfl, ⟨vq, _, va, pl', h3.out.1, h5.fr F3 hb (by decide), k1, k2.fr F3 hb (by decide), E1.out.1.asd.fr F3 hb, E1.out.1.old, E1.out.1.far⟩, h6.trans F3⟩
end Go.Proofs.YtcmdoeledmkfmabGreatDoor
