import Derived.Deep.DeepCutAuto
import Derived.Test.YtcmdoeledmkfmacGreatDoorXDBecome
import Derived.Test.YtcmdoeledmkfmacGreatDoorQ8
import Derived.Test.YtcmdoeledmkfmacGreatDoorXPStep
set_option linter.unusedSimpArgs false
set_option linter.unusedVariables false
namespace Go.Proofs.YtcmdoeledmkfmacGreatDoor
open Go.RowKit
set_option maxHeartbeats 4000000 in
set_option maxRecDepth 100000 in
theorem admit_any (d : Nat) (D : Dk) (w : World) (hD : Dsk w d D) (hp : IsPort D.p) :
    Calls Tryz.prog 65 #[.pointer (some ⟨d, 0, none⟩)] w fun e w' => e = .returned (.tuple #[]) ∧ Hid (∃ r, AdmitIs D.p r ∧ Dsk w' d { D with p := r } ∧ Fr d w w') := by
  obtain ⟨vs, vp, va, pl, hM⟩ := hD
  have hpl := hM.plan
  obtain ⟨pa, pc, hvp⟩ := hM.row.shape
  subst hvp
  have hl15 := hp.port.len
  have HDU := fun W h1 h2 => due_any (.agg (portCells D.p vs).toArray) (.slice pa pl.length pc) D.p pl W h1 h2 (by have := hpl.len; omega)
  have hq := isPort_due hp hpl
  have HBE := fun v W h1 h2 => become_any d D (dueP D.p pl) v W h1 hp hq h2
  have h4 : (dueP D.p pl).kept.length = 4 := hq.port.four
  have AD : Hid (AdmitIs D.p (dueP D.p pl)) := ⟨pl, hpl, rfl⟩
  have E0 : Hid (DM w.drew d D vs (.slice pa pl.length pc) va pl ∧ Fr d w w.drew) := ⟨hM.later ((Below.refl _ w).drew), Fr.drew w⟩
  have HP : Hid (IsPort D.p ∧ d < w.heap.size) := ⟨hp, hM.lt⟩
  clear hM hpl hp hq
  generalize hPC : (portCells D.p vs).toArray = PC at *
  have HPC : Hid ((portCells D.p vs).toArray = PC) := hPC
  clear hPC
  go_enter Tryz.func65, Tryz.ntmps65
  go_upto_region 0 with fail
  go_cut [2] (fun s2 wc => ∃ g, s2 = .pointer (some ⟨g, 0, none⟩) ∧ Hid (∃ v5, PBox wc g (dueP D.p pl) v5 ∧ RowT 46 cShip wc v5 (dueP D.p pl).ships ∧ DM wc d D vs (.slice pa pl.length pc) va pl ∧ Fr d w wc))
  case first =>
    clear HBE
    refine wp_region_held_drew (S := fun W => Hid (DM W d D vs (.slice pa pl.length pc) va pl ∧ Fr d w W)) (by kernel_rfl) E0 (fun hHeld => ?_)
    refine wpAnyH_take (i := 0) (oi := { dst := some 5, op := Go.Op.move (Go.Operand.tmp 0), type := 31, pos := "obey.go:120", after := #[], guard := none }) (v := ?_) rfl (by kernel_rfl) (by kernel_rfl) (by kernel_rfl) (fun _ _ _ h => h) (Or.inl ⟨by rfl, ?_⟩) hHeld ?_
    rotate_left
    · (intro w hSw; first | (go_simp; done) | (go_simp; with_reducible rfl))
    simp only [Act.put, List.setIfInBounds_toArray, List.set_cons_zero, List.set_cons_succ]
    refine wpAnyH_take (i := 1) (oi := { dst := some 6, op := Go.Op.nilCheck (Go.Operand.tmp 5), type := 0, pos := "obey.go:120", after := #[{ on := 0, ground := Go.Ground.data }], guard := none }) (v := ?_) rfl (by kernel_rfl) (by kernel_rfl) (by kernel_rfl) (fun _ _ _ h => h) (Or.inl ⟨by rfl, ?_⟩) hHeld ?_
    rotate_left
    · (intro w hSw; first | (go_simp; done) | (go_simp; with_reducible rfl))
    simp only [Act.put, List.setIfInBounds_toArray, List.set_cons_zero, List.set_cons_succ]
    refine wpAnyH_take (i := 2) (oi := { dst := some 7, op := Go.Op.fieldAddr 59 (Go.Operand.tmp 6) 0, type := 0, pos := "obey.go:120", after := #[{ on := 1, ground := Go.Ground.data }], guard := none }) (v := ?_) rfl (by kernel_rfl) (by kernel_rfl) (by kernel_rfl) (fun _ _ _ h => h) (Or.inl ⟨by rfl, ?_⟩) hHeld ?_
    rotate_left
    · (intro w hSw; first | (go_simp; done) | (go_simp; with_reducible rfl))
    simp only [Act.put, List.setIfInBounds_toArray, List.set_cons_zero, List.set_cons_succ]
    refine wpAnyH_take (i := 3) (oi := { dst := some 8, op := Go.Op.load 41 (Go.Operand.tmp 7), type := 41, pos := "obey.go:120", after := #[{ on := 2, ground := Go.Ground.data }], guard := none }) (v := .agg PC) rfl (by kernel_rfl) (by kernel_rfl) (by kernel_rfl) (fun _ _ _ h => h) (by rw [← HPC.out]; exact yieldsIf_load_mid (by rfl) 41 (.tmp 7) rfl d 0 rfl (portCells D.p vs) _ (fun W hW => hW.out.1.box.port) Tryz.underlying41 rfl (portInfo D.p vs E0.out.1.box.four)) hHeld ?_
    simp only [Act.put, List.setIfInBounds_toArray, List.set_cons_zero, List.set_cons_succ]
    refine wpAnyH_take (i := 4) (oi := { dst := some 9, op := Go.Op.move (Go.Operand.tmp 0), type := 31, pos := "obey.go:120", after := #[], guard := none }) (v := ?_) rfl (by kernel_rfl) (by kernel_rfl) (by kernel_rfl) (fun _ _ _ h => h) (Or.inl ⟨by rfl, ?_⟩) hHeld ?_
    rotate_left
    · (intro w hSw; first | (go_simp; done) | (go_simp; with_reducible rfl))
    simp only [Act.put, List.setIfInBounds_toArray, List.set_cons_zero, List.set_cons_succ]
    refine wpAnyH_take (i := 5) (oi := { dst := some 10, op := Go.Op.nilCheck (Go.Operand.tmp 9), type := 0, pos := "obey.go:120", after := #[{ on := 4, ground := Go.Ground.data }], guard := none }) (v := ?_) rfl (by kernel_rfl) (by kernel_rfl) (by kernel_rfl) (fun _ _ _ h => h) (Or.inl ⟨by rfl, ?_⟩) hHeld ?_
    rotate_left
    · (intro w hSw; first | (go_simp; done) | (go_simp; with_reducible rfl))
    simp only [Act.put, List.setIfInBounds_toArray, List.set_cons_zero, List.set_cons_succ]
    refine wpAnyH_take (i := 6) (oi := { dst := some 11, op := Go.Op.fieldAddr 59 (Go.Operand.tmp 10) 1, type := 0, pos := "obey.go:120", after := #[{ on := 5, ground := Go.Ground.data }], guard := none }) (v := ?_) rfl (by kernel_rfl) (by kernel_rfl) (by kernel_rfl) (fun _ _ _ h => h) (Or.inl ⟨by rfl, ?_⟩) hHeld ?_
    rotate_left
    · (intro w hSw; first | (go_simp; done) | (go_simp; with_reducible rfl))
    simp only [Act.put, List.setIfInBounds_toArray, List.set_cons_zero, List.set_cons_succ]
    refine wpAnyH_take (i := 7) (oi := { dst := some 12, op := Go.Op.load 43 (Go.Operand.tmp 11), type := 43, pos := "obey.go:120", after := #[{ on := 6, ground := Go.Ground.data }], guard := none }) (v := .slice pa pl.length pc) rfl (by kernel_rfl) (by kernel_rfl) (by kernel_rfl) (fun _ _ _ h => h) (Or.inl ⟨by rfl, by intro w hSw; have hc := hSw.out.1.box.cells.2.2.1; go_simp⟩) hHeld ?_
    simp only [Act.put, List.setIfInBounds_toArray, List.set_cons_zero, List.set_cons_succ]
    refine wpAnyH_ready (rs := [8, 12]) (by kernel_rfl) (by simp) ?_
    refine AllReadyH.cons rfl (fun K hK => ?_) (AllReadyH.cons rfl (fun K hK => ?_) AllReadyH.nil)
    · go_simp
      refine (HDU _ (by have := hHeld.out.1.pv HP.out.1; rw [HPC.out] at this; exact this) hHeld.out.1.row.sl).mono ?_
      rintro e w1 ⟨v5, v2, rfl, h1⟩
      have on5 : v5.oneCell' = true := ownsRow_one h1.out.1
      have E1 : Hid (DM w1 d D vs (.slice pa pl.length pc) va pl ∧ Fr d w w1 ∧ RowT 46 cShip w1 v5 (dueP D.p pl).ships) := ⟨hHeld.out.1.later h1.out.2.2, hHeld.out.2.trans (Fr.of h1.out.2.2 (by have := hHeld.out.1.lt; omega)), RowT.own (by rw [due_len]; exact h1.out.1)⟩
      obtain ⟨aw, nw, cw, hv2⟩ : ∃ a n c, v2 = .slice a n c := by obtain ⟨x, c, e⟩ := ownsRow_slice h1.out.2.1; exact ⟨x, _, c, e⟩
      subst hv2
      clear h1 HDU hHeld
      go_wp2_with fail
      refine hK.out _ _ ⟨E1.out.1, E1.out.2.1⟩ (fun hHeld => ?_)
      clear hK K
      try ((try dsimp only); simp only [Act.put, List.setIfInBounds_toArray, List.set_cons_zero, List.set_cons_succ])
      refine wpAnyH_take (i := 9) (oi := { dst := some 4, op := Go.Op.move (Go.Operand.tmp 13), type := 95, pos := "obey.go:120", after := #[{ on := 8, ground := Go.Ground.data }], guard := none }) (v := .tuple #[.agg (portCells (dueP D.p pl) v5).toArray, .slice aw nw cw]) rfl (by kernel_rfl) (by kernel_rfl) (by kernel_rfl) (fun _ _ _ h => h) (Or.inl ⟨by rfl, by intro w hSw; go_simp⟩) hHeld ?_
      simp only [Act.put, List.setIfInBounds_toArray, List.set_cons_zero, List.set_cons_succ]
      refine wpAnyH_take (i := 10) (oi := { dst := some 14, op := Go.Op.extract (Go.Operand.tmp 4) 0, type := 41, pos := "obey.go:120", after := #[{ on := 9, ground := Go.Ground.data }], guard := none }) (v := .agg (portCells (dueP D.p pl) v5).toArray) rfl (by kernel_rfl) (by kernel_rfl) (by kernel_rfl) (fun _ _ _ h => h) (Or.inl ⟨by rfl, by intro w hSw; go_simp⟩) hHeld ?_
      simp only [Act.put, List.setIfInBounds_toArray, List.set_cons_zero, List.set_cons_succ]
      refine wpAnyH_take (i := 11) (oi := { dst := some 15, op := Go.Op.extract (Go.Operand.tmp 4) 1, type := 43, pos := "obey.go:120", after := #[{ on := 9, ground := Go.Ground.data }, { on := 13, ground := Go.Ground.gcOnly Go.Departure.lateStores }], guard := none }) (v := .slice aw nw cw) rfl (by kernel_rfl) (by kernel_rfl) (by kernel_rfl) (fun _ _ _ h => h) (Or.inl ⟨by rfl, by intro w hSw; go_simp⟩) hHeld ?_
      simp only [Act.put, List.setIfInBounds_toArray, List.set_cons_zero, List.set_cons_succ]
      refine wpAnyH_ready (rs := [12]) (by kernel_rfl) (by simp) ?_
      refine AllReadyH.cons rfl (fun K hK => ?_) AllReadyH.nil
      refine step_alloc_box rfl rfl 2 rfl ?_
      intro w2 h2
      refine hK.out _ _ ⟨E1.out.1.later h2.out.2, E1.out.2.1.trans (Fr.of h2.out.2 (by have := E1.out.1.lt; omega))⟩ (fun hHeld => ?_)
      clear hK K hHeld
      try ((try dsimp only); simp only [Act.put, List.setIfInBounds_toArray, List.set_cons_zero, List.set_cons_succ])
      refine wpAnyH_ready (rs := [13]) (by kernel_rfl) (by simp) ?_
      refine AllReadyH.cons rfl (fun K hK => ?_) AllReadyH.nil
      refine step_store_box rfl (.tmp 2) (.tmp 14) rfl _ zeroPt (dueP D.p pl) (.slice none 0 0) v5 (by simp [Act.eval, Act.put]) (by simp [Act.eval, Act.put]) h2.out.1 h4 on5 rfl ?_
      intro w3 h3
      have E3 : Hid (PBox w3 w1.heap.size (dueP D.p pl) v5 ∧ RowT 46 cShip w3 v5 (dueP D.p pl).ships ∧ DM w3 d D vs (.slice pa pl.length pc) va pl ∧ Fr d w w3) := by
        have hb : Below w1.heap.size w1 w3 := h2.out.2.trans (h3.out.2.2 _ (Nat.le_refl _))
        exact ⟨h3.out.1, E1.out.2.2.later hb, E1.out.1.later hb, E1.out.2.1.trans (Fr.of hb (by have := E1.out.1.lt; omega))⟩
      clear h2 h3 E1
      refine hK.out _ _ ⟨E3.out.2.2.1, E3.out.2.2.2⟩ (fun hHeld => ?_)
      clear hK K
      refine wpAnyH_take (i := 14) (oi := { dst := some 3, op := Go.Op.assign (Go.Operand.tmp 15), type := 43, pos := "obey.go:120", after := #[{ on := 11, ground := Go.Ground.data }, { on := 13, ground := Go.Ground.chain }, { on := 0, ground := Go.Ground.phase }, { on := 1, ground := Go.Ground.phase }, { on := 2, ground := Go.Ground.phase }, { on := 3, ground := Go.Ground.phase }, { on := 4, ground := Go.Ground.phase }, { on := 5, ground := Go.Ground.phase }, { on := 6, ground := Go.Ground.phase }, { on := 7, ground := Go.Ground.phase }, { on := 8, ground := Go.Ground.phase }, { on := 9, ground := Go.Ground.phase }, { on := 10, ground := Go.Ground.phase }, { on := 11, ground := Go.Ground.phase }, { on := 12, ground := Go.Ground.phase }, { on := 13, ground := Go.Ground.phase }], guard := none }) (v := .slice aw nw cw) rfl (by kernel_rfl) (by kernel_rfl) (by kernel_rfl) (fun _ _ _ h => h) (Or.inl ⟨by rfl, by intro w hSw; go_simp⟩) hHeld ?_
      simp only [Act.put, List.setIfInBounds_toArray, List.set_cons_zero, List.set_cons_succ]
      refine wpAnyH_done (by kernel_rfl) ?_ _
      clear hHeld
      go_wp2_with fail
      go_meet
      exact ⟨_, rfl, v5, E3.out⟩
    · refine step_alloc_box rfl rfl 2 rfl ?_
      intro w1 h1
      have E1 : Hid (DM w1 d D vs (.slice pa pl.length pc) va pl ∧ Fr d w w1 ∧ PBox w1 w.heap.size zeroPt (.slice none 0 0)) := ⟨hHeld.out.1.later h1.out.2, hHeld.out.2.trans (Fr.of h1.out.2 (by have := hHeld.out.1.lt; omega)), h1.out.1⟩
      have h1b : Hid (Below w.heap.size w.drew w1) := h1.out.2
      clear h1 hHeld
      refine hK.out _ _ ⟨E1.out.1, E1.out.2.1⟩ (fun hHeld => ?_)
      clear hK K
      try ((try dsimp only); simp only [Act.put, List.setIfInBounds_toArray, List.set_cons_zero, List.set_cons_succ])
      refine wpAnyH_ready (rs := [8]) (by kernel_rfl) (by simp) ?_
      refine AllReadyH.cons rfl (fun K hK => ?_) AllReadyH.nil
      go_simp
      refine (HDU _ (by have := hHeld.out.1.pv HP.out.1; rw [HPC.out] at this; exact this) hHeld.out.1.row.sl).mono ?_
      rintro e w2 ⟨v5, v2, rfl, h2⟩
      have on5 : v5.oneCell' = true := ownsRow_one h2.out.1
      obtain ⟨aw, nw, cw, hv2⟩ : ∃ a n c, v2 = .slice a n c := by obtain ⟨x, c, e⟩ := ownsRow_slice h2.out.2.1; exact ⟨x, _, c, e⟩
      subst hv2
      have E2 : Hid (DM w2 d D vs (.slice pa pl.length pc) va pl ∧ Fr d w w2 ∧ PBox w2 w.heap.size zeroPt (.slice none 0 0)) := ⟨E1.out.1.later h2.out.2.2, E1.out.2.1.trans (Fr.of h2.out.2.2 (by have := E1.out.1.lt; omega)), E1.out.2.2.later h2.out.2.2 E1.out.2.2.lt⟩
      have O2 : Hid (w2.ownsRow w1.heap.size 46 6 v5 D.p.ships.length (cellsK cShip (dueP D.p pl).ships) ∧ Below w1.heap.size w1 w2) := ⟨h2.out.1, h2.out.2.2⟩
      clear h2 HDU hHeld
      go_wp2_with fail
      refine hK.out _ _ ⟨E2.out.1, E2.out.2.1⟩ (fun hHeld => ?_)
      clear hK K
      try ((try dsimp only); simp only [Act.put, List.setIfInBounds_toArray, List.set_cons_zero, List.set_cons_succ])
      refine wpAnyH_take (i := 9) (oi := { dst := some 4, op := Go.Op.move (Go.Operand.tmp 13), type := 95, pos := "obey.go:120", after := #[{ on := 8, ground := Go.Ground.data }], guard := none }) (v := .tuple #[.agg (portCells (dueP D.p pl) v5).toArray, .slice aw nw cw]) rfl (by kernel_rfl) (by kernel_rfl) (by kernel_rfl) (fun _ _ _ h => h) (Or.inl ⟨by rfl, by intro w hSw; go_simp⟩) hHeld ?_
      simp only [Act.put, List.setIfInBounds_toArray, List.set_cons_zero, List.set_cons_succ]
      refine wpAnyH_take (i := 10) (oi := { dst := some 14, op := Go.Op.extract (Go.Operand.tmp 4) 0, type := 41, pos := "obey.go:120", after := #[{ on := 9, ground := Go.Ground.data }], guard := none }) (v := .agg (portCells (dueP D.p pl) v5).toArray) rfl (by kernel_rfl) (by kernel_rfl) (by kernel_rfl) (fun _ _ _ h => h) (Or.inl ⟨by rfl, by intro w hSw; go_simp⟩) hHeld ?_
      simp only [Act.put, List.setIfInBounds_toArray, List.set_cons_zero, List.set_cons_succ]
      refine wpAnyH_take (i := 11) (oi := { dst := some 15, op := Go.Op.extract (Go.Operand.tmp 4) 1, type := 43, pos := "obey.go:120", after := #[{ on := 9, ground := Go.Ground.data }, { on := 13, ground := Go.Ground.gcOnly Go.Departure.lateStores }], guard := none }) (v := .slice aw nw cw) rfl (by kernel_rfl) (by kernel_rfl) (by kernel_rfl) (fun _ _ _ h => h) (Or.inl ⟨by rfl, by intro w hSw; go_simp⟩) hHeld ?_
      simp only [Act.put, List.setIfInBounds_toArray, List.set_cons_zero, List.set_cons_succ]
      refine wpAnyH_ready (rs := [13]) (by kernel_rfl) (by simp) ?_
      refine AllReadyH.cons rfl (fun K hK => ?_) AllReadyH.nil
      refine step_store_box rfl (.tmp 2) (.tmp 14) rfl _ zeroPt (dueP D.p pl) (.slice none 0 0) v5 (by simp [Act.eval, Act.put]) (by simp [Act.eval, Act.put]) E2.out.2.2 h4 on5 rfl ?_
      intro w3 h3
      have E3 : Hid (PBox w3 w.heap.size (dueP D.p pl) v5 ∧ RowT 46 cShip w3 v5 (dueP D.p pl).ships ∧ DM w3 d D vs (.slice pa pl.length pc) va pl ∧ Fr d w w3) := by
        have hb : Below w.heap.size w.drew w3 := ((h1b.out).trans (O2.out.2.mono (by have := E1.out.2.2.lt; omega))).trans (h3.out.2.2 _ (Nat.le_refl _))
        refine ⟨h3.out.1, RowT.own (B := w1.heap.size) (by rw [due_len]; exact ownsRow_same O2.out.1 fun k hk => h3.out.2.1 k (by have := E1.out.2.2.lt; omega)), E0.out.1.later hb, E0.out.2.trans (Fr.of hb (by have := E0.out.1.lt; omega))⟩
      clear h3 E1 E2 O2
      refine hK.out _ _ ⟨E3.out.2.2.1, E3.out.2.2.2⟩ (fun hHeld => ?_)
      clear hK K
      refine wpAnyH_take (i := 14) (oi := { dst := some 3, op := Go.Op.assign (Go.Operand.tmp 15), type := 43, pos := "obey.go:120", after := #[{ on := 11, ground := Go.Ground.data }, { on := 13, ground := Go.Ground.chain }, { on := 0, ground := Go.Ground.phase }, { on := 1, ground := Go.Ground.phase }, { on := 2, ground := Go.Ground.phase }, { on := 3, ground := Go.Ground.phase }, { on := 4, ground := Go.Ground.phase }, { on := 5, ground := Go.Ground.phase }, { on := 6, ground := Go.Ground.phase }, { on := 7, ground := Go.Ground.phase }, { on := 8, ground := Go.Ground.phase }, { on := 9, ground := Go.Ground.phase }, { on := 10, ground := Go.Ground.phase }, { on := 11, ground := Go.Ground.phase }, { on := 12, ground := Go.Ground.phase }, { on := 13, ground := Go.Ground.phase }], guard := none }) (v := .slice aw nw cw) rfl (by kernel_rfl) (by kernel_rfl) (by kernel_rfl) (fun _ _ _ h => h) (Or.inl ⟨by rfl, by intro w hSw; go_simp⟩) hHeld ?_
      simp only [Act.put, List.setIfInBounds_toArray, List.set_cons_zero, List.set_cons_succ]
      refine wpAnyH_done (by kernel_rfl) ?_ _
      clear hHeld
      go_wp2_with fail
      go_meet
      exact ⟨_, rfl, v5, E3.out⟩
  case rest =>
    obtain ⟨g, rfl, C⟩ := hcut
    obtain ⟨v5, c1, c2, c3, c4⟩ := C.out
    have C2 : Hid (PBox wc g (dueP D.p pl) v5 ∧ RowT 46 cShip wc v5 (dueP D.p pl).ships ∧ Dsk wc d D ∧ Fr d w wc) := ⟨c1, c2, ⟨_, _, _, _, c3⟩, c4⟩
    clear C c1 c2 c3 c4 HDU E0
    go_wp2_with (refine wpList_load_box rfl _ rfl g (dueP D.p pl) v5 rfl C2.out.1 ?_)
    refine (HBE v5 _ C2.out.2.2.1 C2.out.2.1).mono ?_
    rintro e w5 ⟨rfl, h5, h6⟩
    have R : Hid (∃ r, AdmitIs D.p r ∧ Dsk w5 d { D with p := r } ∧ Fr d w w5) := ⟨_, AD.out, h5, C2.out.2.2.2.trans h6⟩
    clear h5 h6
    go_wp2_with fail
    go_end0
    exact ⟨rfl, R⟩
end Go.Proofs.YtcmdoeledmkfmacGreatDoor
