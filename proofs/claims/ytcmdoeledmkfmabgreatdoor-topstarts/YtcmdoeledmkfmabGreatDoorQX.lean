/- Texts of this claim, in one: DOrder DGuess. -/
import Derived.Test.YtcmdoeledmkfmabGreatDoorQW
set_option linter.unusedSimpArgs false
set_option linter.unusedVariables false
namespace Go.Proofs.YtcmdoeledmkfmabGreatDoor
open Go.RowKit
set_option maxHeartbeats 4000000 in
set_option maxRecDepth 100000 in
theorem order_any (d : Nat) (D : Dk) (o : Ord) (w : World) (hD : Dsk w d D) (hO : DOk D) :
    Calls Tryz.prog 53 #[.pointer (some ⟨d, 0, none⟩), .agg #[.int .i64 o.kd, .int .i64 o.a, .int .i64 o.b, .int .i64 o.c]] w fun e w' => ∃ n er, e = .returned (.tuple #[.int .i64 n, .int .i64 er]) ∧ Hid (∃ D', OrderIs D o D' n er ∧ Dsk w' d D' ∧ Fr d w w') := by
  obtain ⟨vs, vp, va, pl, hM⟩ := hD
  have hp := hO.port
  have HTA := fun W h => tellAll_any (.agg (portCells D.p vs).toArray) D.p o W h hp
  have HP : Hid (IsPort D.p ∧ d < w.heap.size) := ⟨hp, hM.lt⟩
  have H4 : Hid (D.p.kept.length = 4) := hM.box.four
  have hba : Below w.heap.size w (w.alloc (.cells #[.int .i64 o.kd, .int .i64 o.a, .int .i64 o.b, .int .i64 o.c] 53)) := (Below.refl _ w).alloc (Nat.le_refl _) _
  have E0 : Hid (DM (w.alloc (.cells #[.int .i64 o.kd, .int .i64 o.a, .int .i64 o.b, .int .i64 o.c] 53)).drew d D vs vp va pl ∧ Fr d w (w.alloc (.cells #[.int .i64 o.kd, .int .i64 o.a, .int .i64 o.b, .int .i64 o.c] 53)).drew ∧ LOB (w.alloc (.cells #[.int .i64 o.kd, .int .i64 o.a, .int .i64 o.b, .int .i64 o.c] 53)).drew w.heap.size o) := by
    have hd : Below (w.alloc (.cells #[.int .i64 o.kd, .int .i64 o.a, .int .i64 o.b, .int .i64 o.c] 53)).heap.size (w.alloc (.cells #[.int .i64 o.kd, .int .i64 o.a, .int .i64 o.b, .int .i64 o.c] 53)) (w.alloc (.cells #[.int .i64 o.kd, .int .i64 o.a, .int .i64 o.b, .int .i64 o.c] 53)).drew := (Below.refl _ _).drew
    have hN : LOB (w.alloc (.cells #[.int .i64 o.kd, .int .i64 o.a, .int .i64 o.b, .int .i64 o.c] 53)) w.heap.size o := LOB.new w o
    exact ⟨(hM.later hba).later hd, (Fr.of hba (by have := hM.lt; omega)).trans (Fr.drew _), hN.later hd hN.lt⟩
  have HBE := fun q v W h1 h2 h3 => become_any d D q v W h1 hp h2 h3
  have HAD := fun q W h1 h2 => admit_any d { D with p := q } W h1 h2
  clear hba hM hp
  generalize hPC : (portCells D.p vs).toArray = PC at *
  have HPC : Hid ((portCells D.p vs).toArray = PC) := hPC
  clear hPC
  go_enter Tryz.func53, Tryz.ntmps53
  go_upto_region 1 with fail
  generalize (w.alloc (.cells #[.int .i64 o.kd, .int .i64 o.a, .int .i64 o.b, .int .i64 o.c] 53)) = W1 at *
  generalize hz : w.heap.size = z at *
  go_cut [6, 7, 8] (fun s6 s7 s8 wc => ∃ g n er, s6 = .pointer (some ⟨g, 0, none⟩) ∧ s7 = .int .i64 n ∧ s8 = .int .i64 er ∧ Hid (∃ q vq, TellIs (ObeyIs D.p o) D.p n er q ∧ PBox wc g q vq ∧ RowT 51 cShip wc vq q.ships ∧ DM wc d D vs vp va pl ∧ Fr d w wc))
  case first =>
    refine wp_region_held_drew (S := fun W => Hid (DM W d D vs vp va pl ∧ Fr d w W ∧ LOB W z o)) (by kernel_rfl) E0 (fun hHeld => ?_)
    refine wpAnyH_take (i := 0) (oi := { dst := some 10, op := Go.Op.move (Go.Operand.tmp 0), type := 22, pos := "obey.go:33", after := #[], guard := none }) (v := ?_) rfl (by kernel_rfl) (by kernel_rfl) (by kernel_rfl) (fun _ _ _ h => h) (Or.inl ⟨by rfl, ?_⟩) hHeld ?_
    rotate_left
    · (intro w hSw; first | (go_simp; done) | (go_simp; with_reducible rfl))
    simp only [Act.put, List.setIfInBounds_toArray, List.set_cons_zero, List.set_cons_succ]
    refine wpAnyH_take (i := 1) (oi := { dst := some 11, op := Go.Op.nilCheck (Go.Operand.tmp 10), type := 0, pos := "obey.go:33", after := #[{ on := 0, ground := Go.Ground.data }], guard := none }) (v := ?_) rfl (by kernel_rfl) (by kernel_rfl) (by kernel_rfl) (fun _ _ _ h => h) (Or.inl ⟨by rfl, ?_⟩) hHeld ?_
    rotate_left
    · (intro w hSw; first | (go_simp; done) | (go_simp; with_reducible rfl))
    simp only [Act.put, List.setIfInBounds_toArray, List.set_cons_zero, List.set_cons_succ]
    refine wpAnyH_take (i := 2) (oi := { dst := some 12, op := Go.Op.fieldAddr 64 (Go.Operand.tmp 11) 0, type := 0, pos := "obey.go:33", after := #[{ on := 1, ground := Go.Ground.data }], guard := none }) (v := ?_) rfl (by kernel_rfl) (by kernel_rfl) (by kernel_rfl) (fun _ _ _ h => h) (Or.inl ⟨by rfl, ?_⟩) hHeld ?_
    rotate_left
    · (intro w hSw; first | (go_simp; done) | (go_simp; with_reducible rfl))
    simp only [Act.put, List.setIfInBounds_toArray, List.set_cons_zero, List.set_cons_succ]
    refine wpAnyH_take (i := 3) (oi := { dst := some 13, op := Go.Op.load 33 (Go.Operand.tmp 12), type := 33, pos := "obey.go:33", after := #[{ on := 2, ground := Go.Ground.data }], guard := none }) (v := .agg PC) rfl (by kernel_rfl) (by kernel_rfl) (by kernel_rfl) (fun _ _ _ h => h) (by rw [← HPC.out]; exact yieldsIf_load_mid (by rfl) 33 (.tmp 12) rfl d 0 rfl (portCells D.p vs) _ (fun W hW => hW.out.1.box.port) Tryz.underlying33 rfl (portInfo D.p vs H4.out)) hHeld ?_
    simp only [Act.put, List.setIfInBounds_toArray, List.set_cons_zero, List.set_cons_succ]
    refine wpAnyH_take (i := 4) (oi := { dst := some 14, op := Go.Op.load 53 (Go.Operand.tmp 3), type := 53, pos := "obey.go:33", after := #[], guard := none }) (v := .agg #[.int .i64 o.kd, .int .i64 o.a, .int .i64 o.b, .int .i64 o.c]) rfl (by kernel_rfl) (by kernel_rfl) (by kernel_rfl) (fun _ _ _ h => h) (yieldsIf_load_mid (by rfl) 53 (.tmp 3) rfl z 0 rfl (ordCells o) _ (fun W hW => hW.out.2.2.whole) Tryz.underlying53 rfl (ordInfo o)) hHeld ?_
    simp only [Act.put, List.setIfInBounds_toArray, List.set_cons_zero, List.set_cons_succ]
    refine wpAnyH_ready (rs := [5, 10]) (by kernel_rfl) (by simp) ?_
    refine AllReadyH.cons rfl (fun K hK => ?_) (AllReadyH.cons rfl (fun K hK => ?_) AllReadyH.nil)
    · go_simp
      refine (HTA _ (by have := hHeld.out.1.pv HP.out.1; rw [HPC.out] at this; exact this)).mono ?_
      rintro e w1 ⟨q, vq, n, er, rfl, hT, hq4, hqm, hqo, hb1⟩
      have onq : vq.oneCell' = true := ownsRow_one hqo
      have E1 : Hid (DM w1 d D vs vp va pl ∧ Fr d w w1 ∧ LOB w1 z o ∧ RowT 51 cShip w1 vq q.ships ∧ TellIs (ObeyIs D.p o) D.p n er q) := ⟨hHeld.out.1.later hb1, hHeld.out.2.1.trans (Fr.of hb1 (by have := hHeld.out.1.lt; omega)), hHeld.out.2.2.later hb1 hHeld.out.2.2.lt, RowT.own hqo, hT⟩
      clear hT hqo hb1 HTA hHeld hqm
      go_wp2_with fail
      refine hK.out _ _ ⟨E1.out.1, E1.out.2.1, E1.out.2.2.1⟩ (fun hHeld => ?_)
      clear hK K
      try ((try dsimp only); simp only [Act.put, List.setIfInBounds_toArray, List.set_cons_zero, List.set_cons_succ])
      refine wpAnyH_take (i := 6) (oi := { dst := some 9, op := Go.Op.move (Go.Operand.tmp 15), type := 112, pos := "obey.go:33", after := #[{ on := 5, ground := Go.Ground.data }], guard := none }) (v := .tuple #[.agg (portCells q vq).toArray, .int .i64 n, .int .i64 er]) rfl (by kernel_rfl) (by kernel_rfl) (by kernel_rfl) (fun _ _ _ h => h) (Or.inl ⟨by rfl, by intro w hSw; go_simp⟩) hHeld ?_
      simp only [Act.put, List.setIfInBounds_toArray, List.set_cons_zero, List.set_cons_succ]
      refine wpAnyH_take (i := 7) (oi := { dst := some 16, op := Go.Op.extract (Go.Operand.tmp 9) 0, type := 33, pos := "obey.go:33", after := #[{ on := 6, ground := Go.Ground.data }], guard := none }) (v := .agg (portCells q vq).toArray) rfl (by kernel_rfl) (by kernel_rfl) (by kernel_rfl) (fun _ _ _ h => h) (Or.inl ⟨by rfl, by intro w hSw; go_simp⟩) hHeld ?_
      simp only [Act.put, List.setIfInBounds_toArray, List.set_cons_zero, List.set_cons_succ]
      refine wpAnyH_take (i := 8) (oi := { dst := some 17, op := Go.Op.extract (Go.Operand.tmp 9) 1, type := 3, pos := "obey.go:33", after := #[{ on := 6, ground := Go.Ground.data }, { on := 11, ground := Go.Ground.gcOnly Go.Departure.lateStores }], guard := none }) (v := .int .i64 n) rfl (by kernel_rfl) (by kernel_rfl) (by kernel_rfl) (fun _ _ _ h => h) (Or.inl ⟨by rfl, by intro w hSw; go_simp⟩) hHeld ?_
      simp only [Act.put, List.setIfInBounds_toArray, List.set_cons_zero, List.set_cons_succ]
      refine wpAnyH_take (i := 9) (oi := { dst := some 18, op := Go.Op.extract (Go.Operand.tmp 9) 2, type := 23, pos := "obey.go:33", after := #[{ on := 6, ground := Go.Ground.data }, { on := 12, ground := Go.Ground.gcOnly Go.Departure.lateStores }], guard := none }) (v := .int .i64 er) rfl (by kernel_rfl) (by kernel_rfl) (by kernel_rfl) (fun _ _ _ h => h) (Or.inl ⟨by rfl, by intro w hSw; go_simp⟩) hHeld ?_
      simp only [Act.put, List.setIfInBounds_toArray, List.set_cons_zero, List.set_cons_succ]
      refine wpAnyH_ready (rs := [10]) (by kernel_rfl) (by simp) ?_
      refine AllReadyH.cons rfl (fun K hK => ?_) AllReadyH.nil
      refine step_alloc_box rfl rfl 6 rfl ?_
      intro w2 h2
      refine hK.out _ _ ⟨E1.out.1.later h2.out.2, E1.out.2.1.trans (Fr.of h2.out.2 (by have := E1.out.1.lt; omega)), E1.out.2.2.1.later h2.out.2 E1.out.2.2.1.lt⟩ (fun hHeld => ?_)
      clear hK K hHeld
      try ((try dsimp only); simp only [Act.put, List.setIfInBounds_toArray, List.set_cons_zero, List.set_cons_succ])
      refine wpAnyH_ready (rs := [11]) (by kernel_rfl) (by simp) ?_
      refine AllReadyH.cons rfl (fun K hK => ?_) AllReadyH.nil
      refine step_store_box rfl (.tmp 6) (.tmp 16) rfl _ zeroPt q (.slice none 0 0) vq (by simp [Act.eval, Act.put]) (by simp [Act.eval, Act.put]) h2.out.1 hq4 onq rfl ?_
      intro w3 h3
      have E3 : Hid ((TellIs (ObeyIs D.p o) D.p n er q ∧ PBox w3 w1.heap.size q vq ∧ RowT 51 cShip w3 vq q.ships ∧ DM w3 d D vs vp va pl ∧ Fr d w w3) ∧ LOB w3 z o) := by
        have hb : Below w1.heap.size w1 w3 := h2.out.2.trans (h3.out.2.2 _ (Nat.le_refl _))
        exact ⟨⟨E1.out.2.2.2.2, h3.out.1, E1.out.2.2.2.1.later hb, E1.out.1.later hb, E1.out.2.1.trans (Fr.of hb (by have := E1.out.1.lt; omega))⟩, E1.out.2.2.1.later hb E1.out.2.2.1.lt⟩
      clear h2 h3 E1
      refine hK.out _ _ ⟨E3.out.1.2.2.2.1, E3.out.1.2.2.2.2, E3.out.2⟩ (fun hHeld => ?_)
      clear hK K
      refine wpAnyH_take (i := 12) (oi := { dst := some 7, op := Go.Op.assign (Go.Operand.tmp 17), type := 3, pos := "obey.go:33", after := #[{ on := 8, ground := Go.Ground.data }, { on := 11, ground := Go.Ground.chain }, { on := 0, ground := Go.Ground.phase }, { on := 1, ground := Go.Ground.phase }, { on := 2, ground := Go.Ground.phase }, { on := 3, ground := Go.Ground.phase }, { on := 4, ground := Go.Ground.phase }, { on := 5, ground := Go.Ground.phase }, { on := 6, ground := Go.Ground.phase }, { on := 7, ground := Go.Ground.phase }, { on := 8, ground := Go.Ground.phase }, { on := 9, ground := Go.Ground.textOnly Go.Departure.lateStores }, { on := 10, ground := Go.Ground.phase }, { on := 11, ground := Go.Ground.phase }], guard := none }) (v := .int .i64 n) rfl (by kernel_rfl) (by kernel_rfl) (by kernel_rfl) (fun _ _ _ h => h) (Or.inl ⟨by rfl, by intro w hSw; go_simp⟩) hHeld ?_
      simp only [Act.put, List.setIfInBounds_toArray, List.set_cons_zero, List.set_cons_succ]
      refine wpAnyH_take (i := 13) (oi := { dst := some 8, op := Go.Op.assign (Go.Operand.tmp 18), type := 23, pos := "obey.go:33", after := #[{ on := 9, ground := Go.Ground.data }, { on := 12, ground := Go.Ground.chain }, { on := 0, ground := Go.Ground.phase }, { on := 1, ground := Go.Ground.phase }, { on := 2, ground := Go.Ground.phase }, { on := 3, ground := Go.Ground.phase }, { on := 4, ground := Go.Ground.phase }, { on := 5, ground := Go.Ground.phase }, { on := 6, ground := Go.Ground.phase }, { on := 7, ground := Go.Ground.phase }, { on := 8, ground := Go.Ground.phase }, { on := 9, ground := Go.Ground.phase }, { on := 10, ground := Go.Ground.phase }, { on := 11, ground := Go.Ground.phase }, { on := 12, ground := Go.Ground.phase }], guard := none }) (v := .int .i64 er) rfl (by kernel_rfl) (by kernel_rfl) (by kernel_rfl) (fun _ _ _ h => h) (Or.inl ⟨by rfl, by intro w hSw; go_simp⟩) hHeld ?_
      simp only [Act.put, List.setIfInBounds_toArray, List.set_cons_zero, List.set_cons_succ]
      refine wpAnyH_done (by kernel_rfl) ?_ _
      clear hHeld
      go_wp2_with fail
      go_meet
      exact ⟨_, _, _, rfl, rfl, rfl, q, vq, E3.out.1⟩
    · refine step_alloc_box rfl rfl 6 rfl ?_
      intro w1 h1
      have E1 : Hid (DM w1 d D vs vp va pl ∧ Fr d w w1 ∧ LOB w1 z o ∧ PBox w1 W1.drew.heap.size zeroPt (.slice none 0 0) ∧ Below W1.drew.heap.size W1.drew w1) := ⟨hHeld.out.1.later h1.out.2, hHeld.out.2.1.trans (Fr.of h1.out.2 (by have := hHeld.out.1.lt; omega)), hHeld.out.2.2.later h1.out.2 hHeld.out.2.2.lt, h1.out.1, h1.out.2⟩
      clear h1 hHeld
      refine hK.out _ _ ⟨E1.out.1, E1.out.2.1, E1.out.2.2.1⟩ (fun hHeld => ?_)
      clear hK K
      try ((try dsimp only); simp only [Act.put, List.setIfInBounds_toArray, List.set_cons_zero, List.set_cons_succ])
      refine wpAnyH_ready (rs := [5]) (by kernel_rfl) (by simp) ?_
      refine AllReadyH.cons rfl (fun K hK => ?_) AllReadyH.nil
      go_simp
      refine (HTA _ (by have := hHeld.out.1.pv HP.out.1; rw [HPC.out] at this; exact this)).mono ?_
      rintro e w2 ⟨q, vq, n, er, rfl, hT, hq4, hqm, hqo, hb1⟩
      have onq : vq.oneCell' = true := ownsRow_one hqo
      have E2 : Hid (DM w2 d D vs vp va pl ∧ Fr d w w2 ∧ LOB w2 z o ∧ PBox w2 W1.drew.heap.size zeroPt (.slice none 0 0) ∧ TellIs (ObeyIs D.p o) D.p n er q ∧ w2.ownsRow w1.heap.size 51 6 vq q.ships.length (cellsK cShip q.ships) ∧ Below w1.heap.size w1 w2) := ⟨E1.out.1.later hb1, E1.out.2.1.trans (Fr.of hb1 (by have := E1.out.1.lt; omega)), E1.out.2.2.1.later hb1 E1.out.2.2.1.lt, E1.out.2.2.2.1.later hb1 E1.out.2.2.2.1.lt, hT, hqo, hb1⟩
      clear hT hqo hb1 HTA hHeld hqm
      go_wp2_with fail
      refine hK.out _ _ ⟨E2.out.1, E2.out.2.1, E2.out.2.2.1⟩ (fun hHeld => ?_)
      clear hK K
      try ((try dsimp only); simp only [Act.put, List.setIfInBounds_toArray, List.set_cons_zero, List.set_cons_succ])
      refine wpAnyH_take (i := 6) (oi := { dst := some 9, op := Go.Op.move (Go.Operand.tmp 15), type := 112, pos := "obey.go:33", after := #[{ on := 5, ground := Go.Ground.data }], guard := none }) (v := .tuple #[.agg (portCells q vq).toArray, .int .i64 n, .int .i64 er]) rfl (by kernel_rfl) (by kernel_rfl) (by kernel_rfl) (fun _ _ _ h => h) (Or.inl ⟨by rfl, by intro w hSw; go_simp⟩) hHeld ?_
      simp only [Act.put, List.setIfInBounds_toArray, List.set_cons_zero, List.set_cons_succ]
      refine wpAnyH_take (i := 7) (oi := { dst := some 16, op := Go.Op.extract (Go.Operand.tmp 9) 0, type := 33, pos := "obey.go:33", after := #[{ on := 6, ground := Go.Ground.data }], guard := none }) (v := .agg (portCells q vq).toArray) rfl (by kernel_rfl) (by kernel_rfl) (by kernel_rfl) (fun _ _ _ h => h) (Or.inl ⟨by rfl, by intro w hSw; go_simp⟩) hHeld ?_
      simp only [Act.put, List.setIfInBounds_toArray, List.set_cons_zero, List.set_cons_succ]
      refine wpAnyH_take (i := 8) (oi := { dst := some 17, op := Go.Op.extract (Go.Operand.tmp 9) 1, type := 3, pos := "obey.go:33", after := #[{ on := 6, ground := Go.Ground.data }, { on := 11, ground := Go.Ground.gcOnly Go.Departure.lateStores }], guard := none }) (v := .int .i64 n) rfl (by kernel_rfl) (by kernel_rfl) (by kernel_rfl) (fun _ _ _ h => h) (Or.inl ⟨by rfl, by intro w hSw; go_simp⟩) hHeld ?_
      simp only [Act.put, List.setIfInBounds_toArray, List.set_cons_zero, List.set_cons_succ]
      refine wpAnyH_take (i := 9) (oi := { dst := some 18, op := Go.Op.extract (Go.Operand.tmp 9) 2, type := 23, pos := "obey.go:33", after := #[{ on := 6, ground := Go.Ground.data }, { on := 12, ground := Go.Ground.gcOnly Go.Departure.lateStores }], guard := none }) (v := .int .i64 er) rfl (by kernel_rfl) (by kernel_rfl) (by kernel_rfl) (fun _ _ _ h => h) (Or.inl ⟨by rfl, by intro w hSw; go_simp⟩) hHeld ?_
      simp only [Act.put, List.setIfInBounds_toArray, List.set_cons_zero, List.set_cons_succ]
      refine wpAnyH_ready (rs := [11]) (by kernel_rfl) (by simp) ?_
      refine AllReadyH.cons rfl (fun K hK => ?_) AllReadyH.nil
      refine step_store_box rfl (.tmp 6) (.tmp 16) rfl _ zeroPt q (.slice none 0 0) vq (by simp [Act.eval, Act.put]) (by simp [Act.eval, Act.put]) E2.out.2.2.2.1 hq4 onq rfl ?_
      intro w3 h3
      have E3 : Hid ((TellIs (ObeyIs D.p o) D.p n er q ∧ PBox w3 W1.drew.heap.size q vq ∧ RowT 51 cShip w3 vq q.ships ∧ DM w3 d D vs vp va pl ∧ Fr d w w3) ∧ LOB w3 z o) := by
        have hlt := E1.out.2.2.2.1.lt
        have hb : Below W1.drew.heap.size W1.drew w3 := (E1.out.2.2.2.2.trans (E2.out.2.2.2.2.2.2.mono (by omega))).trans (h3.out.2.2 _ (Nat.le_refl _))
        have S := E0
        exact ⟨⟨E2.out.2.2.2.2.1, h3.out.1, RowT.own (B := w1.heap.size) (ownsRow_same E2.out.2.2.2.2.2.1 fun k hk => h3.out.2.1 k (by omega)), S.out.1.later hb, S.out.2.1.trans (Fr.of hb (by have := S.out.1.lt; omega))⟩, S.out.2.2.later hb S.out.2.2.lt⟩
      clear h3 E1 E2
      refine hK.out _ _ ⟨E3.out.1.2.2.2.1, E3.out.1.2.2.2.2, E3.out.2⟩ (fun hHeld => ?_)
      clear hK K
      refine wpAnyH_take (i := 12) (oi := { dst := some 7, op := Go.Op.assign (Go.Operand.tmp 17), type := 3, pos := "obey.go:33", after := #[{ on := 8, ground := Go.Ground.data }, { on := 11, ground := Go.Ground.chain }, { on := 0, ground := Go.Ground.phase }, { on := 1, ground := Go.Ground.phase }, { on := 2, ground := Go.Ground.phase }, { on := 3, ground := Go.Ground.phase }, { on := 4, ground := Go.Ground.phase }, { on := 5, ground := Go.Ground.phase }, { on := 6, ground := Go.Ground.phase }, { on := 7, ground := Go.Ground.phase }, { on := 8, ground := Go.Ground.phase }, { on := 9, ground := Go.Ground.textOnly Go.Departure.lateStores }, { on := 10, ground := Go.Ground.phase }, { on := 11, ground := Go.Ground.phase }], guard := none }) (v := .int .i64 n) rfl (by kernel_rfl) (by kernel_rfl) (by kernel_rfl) (fun _ _ _ h => h) (Or.inl ⟨by rfl, by intro w hSw; go_simp⟩) hHeld ?_
      simp only [Act.put, List.setIfInBounds_toArray, List.set_cons_zero, List.set_cons_succ]
      refine wpAnyH_take (i := 13) (oi := { dst := some 8, op := Go.Op.assign (Go.Operand.tmp 18), type := 23, pos := "obey.go:33", after := #[{ on := 9, ground := Go.Ground.data }, { on := 12, ground := Go.Ground.chain }, { on := 0, ground := Go.Ground.phase }, { on := 1, ground := Go.Ground.phase }, { on := 2, ground := Go.Ground.phase }, { on := 3, ground := Go.Ground.phase }, { on := 4, ground := Go.Ground.phase }, { on := 5, ground := Go.Ground.phase }, { on := 6, ground := Go.Ground.phase }, { on := 7, ground := Go.Ground.phase }, { on := 8, ground := Go.Ground.phase }, { on := 9, ground := Go.Ground.phase }, { on := 10, ground := Go.Ground.phase }, { on := 11, ground := Go.Ground.phase }, { on := 12, ground := Go.Ground.phase }], guard := none }) (v := .int .i64 er) rfl (by kernel_rfl) (by kernel_rfl) (by kernel_rfl) (fun _ _ _ h => h) (Or.inl ⟨by rfl, by intro w hSw; go_simp⟩) hHeld ?_
      simp only [Act.put, List.setIfInBounds_toArray, List.set_cons_zero, List.set_cons_succ]
      refine wpAnyH_done (by kernel_rfl) ?_ _
      clear hHeld
      go_wp2_with fail
      go_meet
      exact ⟨_, _, _, rfl, rfl, rfl, q, vq, E3.out.1⟩
  case rest =>
    obtain ⟨g, n, er, rfl, rfl, rfl, C⟩ := hcut
    obtain ⟨q, vq, c1, c2, c3, c4, c5⟩ := C.out
    have TI : Hid (TellIs (ObeyIs D.p o) D.p n er q) := c1
    have C2 : Hid (PBox wc g q vq ∧ RowT 51 cShip wc vq q.ships ∧ Dsk wc d D ∧ Fr d w wc) := ⟨c2, c3, ⟨_, _, _, _, c4⟩, c5⟩
    clear C c1 c2 c3 c4 c5 HTA E0
    by_cases he : er = 0
    case neg =>
      have hb : (er != 0) = true := by simp [he]
      have R : Hid (∃ D', OrderIs D o D' 0 er ∧ Dsk wc d D' ∧ Fr d w wc) := ⟨D, ⟨n, q, TI.out, Or.inl ⟨he, rfl, rfl⟩⟩, C2.out.2.2.1, C2.out.2.2.2⟩
      clear C2 TI he
      go_wp2_with fail
      go_ret2
      exact ⟨0, er, rfl, R⟩
    subst he
    have HQ : Hid (IsPort q) := tellIs_port TI.out
    go_wp2_with (refine wpList_load_box rfl _ rfl g q vq rfl C2.out.1 ?_)
    refine (HBE q vq _ C2.out.2.2.1 HQ.out C2.out.2.1).mono ?_
    rintro e w5 ⟨rfl, h5, h6⟩
    have E5 : Hid (Dsk w5 d { D with p := q } ∧ Fr d w w5) := ⟨h5, C2.out.2.2.2.trans h6⟩
    clear h5 h6 C2 HBE
    go_wp2_with fail
    refine (HAD q _ E5.out.1 HQ.out).mono ?_
    rintro e w6 ⟨rfl, h6⟩
    have R : Hid (∃ D', OrderIs D o D' n 0 ∧ Dsk w6 d D' ∧ Fr d w w6) := by
      obtain ⟨r, k1, k2, k3⟩ := h6.out
      exact ⟨{ D with p := r }, ⟨n, q, TI.out, Or.inr ⟨rfl, rfl, r, k1, rfl⟩⟩, k2, E5.out.2.trans k3⟩
    clear h6 E5 TI HAD
    go_wp2_with fail
    go_ret2
    exact ⟨n, 0, rfl, R⟩
end Go.Proofs.YtcmdoeledmkfmabGreatDoor
set_option linter.unusedSimpArgs false
set_option linter.unusedVariables false
namespace Go.Proofs.YtcmdoeledmkfmabGreatDoor
open Go.RowKit
set_option maxHeartbeats 4000000 in
set_option maxRecDepth 100000 in
theorem guess_any (d : Nat) (D : Dk) (o : Ord) (w : World) (hD : Dsk w d D) (hO : DOk D) :
    Calls Tryz.prog 51 #[.pointer (some ⟨d, 0, none⟩), .agg #[.int .i64 o.kd, .int .i64 o.a, .int .i64 o.b, .int .i64 o.c]] w fun e w' => ∃ n er, e = .returned (.tuple #[.int .i64 n, .int .i64 er]) ∧ Hid (GuessIs D.p o.a o.b o.c n er ∧ Dsk w' d D ∧ Fr d w w') := by
  obtain ⟨vs, vp, va, pl, hM⟩ := hD
  have hp := hO.port
  have hpl := hM.plan
  obtain ⟨pa, pc, hvp⟩ := hM.row.shape
  subst hvp
  have HTA := fun W h => tellAll_any (.agg (portCells D.p vs).toArray) D.p ⟨1, o.a, o.b, o.c⟩ W h hp
  have HMP := fun q vq W h1 h2 h3 hq => mendPlan_far (.agg (portCells D.p vs).toArray) (.agg (portCells q vq).toArray) (.slice pa pl.length pc) D.p q pl W h1 h2 hp hq h3 hpl
  have HP : Hid (IsPort D.p ∧ d < w.heap.size) := ⟨hp, hM.lt⟩
  have H4 : Hid (D.p.kept.length = 4) := hM.box.four
  have hba : Below w.heap.size w (w.alloc (.cells #[.int .i64 1, .int .i64 o.a, .int .i64 o.b, .int .i64 o.c] 53)) := (Below.refl _ w).alloc (Nat.le_refl _) _
  have E0 : Hid (DM (w.alloc (.cells #[.int .i64 1, .int .i64 o.a, .int .i64 o.b, .int .i64 o.c] 53)).drew d D vs (.slice pa pl.length pc) va pl ∧ Fr d w (w.alloc (.cells #[.int .i64 1, .int .i64 o.a, .int .i64 o.b, .int .i64 o.c] 53)).drew ∧ LOB (w.alloc (.cells #[.int .i64 1, .int .i64 o.a, .int .i64 o.b, .int .i64 o.c] 53)).drew w.heap.size (⟨1, o.a, o.b, o.c⟩ : Ord)) := by
    have hd : Below (w.alloc (.cells #[.int .i64 1, .int .i64 o.a, .int .i64 o.b, .int .i64 o.c] 53)).heap.size (w.alloc (.cells #[.int .i64 1, .int .i64 o.a, .int .i64 o.b, .int .i64 o.c] 53)) (w.alloc (.cells #[.int .i64 1, .int .i64 o.a, .int .i64 o.b, .int .i64 o.c] 53)).drew := (Below.refl _ _).drew
    have hN : LOB (w.alloc (.cells #[.int .i64 1, .int .i64 o.a, .int .i64 o.b, .int .i64 o.c] 53)) w.heap.size (⟨1, o.a, o.b, o.c⟩ : Ord) := LOB.new w (⟨1, o.a, o.b, o.c⟩ : Ord)
    exact ⟨(hM.later hba).later hd, (Fr.of hba (by have := hM.lt; omega)).trans (Fr.drew _), hN.later hd hN.lt⟩
  clear hba hM hp hpl
  generalize hPC : (portCells D.p vs).toArray = PC at *
  have HPC : Hid ((portCells D.p vs).toArray = PC) := hPC
  clear hPC
  go_enter Tryz.func51, Tryz.ntmps51
  go_upto_region 2 with fail
  generalize (w.alloc (.cells #[.int .i64 1, .int .i64 o.a, .int .i64 o.b, .int .i64 o.c] 53)) = W1 at *
  generalize hz : w.heap.size = z at *
  go_cut [6, 7, 8] (fun s6 s7 s8 wc => ∃ g n er, s6 = .pointer (some ⟨g, 0, none⟩) ∧ s7 = .int .i64 n ∧ s8 = .int .i64 er ∧ Hid (∃ q vq, TellIs (ObeyIs D.p (⟨1, o.a, o.b, o.c⟩ : Ord)) D.p n er q ∧ PBox wc g q vq ∧ RowT 51 cShip wc vq q.ships ∧ DM wc d D vs (.slice pa pl.length pc) va pl ∧ Fr d w wc))
  case first =>
    refine wp_region_held_drew (S := fun W => Hid (DM W d D vs (.slice pa pl.length pc) va pl ∧ Fr d w W ∧ LOB W z (⟨1, o.a, o.b, o.c⟩ : Ord))) (by kernel_rfl) E0 (fun hHeld => ?_)
    refine wpAnyH_take (i := 0) (oi := { dst := some 13, op := Go.Op.move (Go.Operand.tmp 0), type := 22, pos := "obey.go:90", after := #[], guard := none }) (v := ?_) rfl (by kernel_rfl) (by kernel_rfl) (by kernel_rfl) (fun _ _ _ h => h) (Or.inl ⟨by rfl, ?_⟩) hHeld ?_
    rotate_left
    · (intro w hSw; first | (go_simp; done) | (go_simp; with_reducible rfl))
    simp only [Act.put, List.setIfInBounds_toArray, List.set_cons_zero, List.set_cons_succ]
    refine wpAnyH_take (i := 1) (oi := { dst := some 14, op := Go.Op.nilCheck (Go.Operand.tmp 13), type := 0, pos := "obey.go:90", after := #[{ on := 0, ground := Go.Ground.data }], guard := none }) (v := ?_) rfl (by kernel_rfl) (by kernel_rfl) (by kernel_rfl) (fun _ _ _ h => h) (Or.inl ⟨by rfl, ?_⟩) hHeld ?_
    rotate_left
    · (intro w hSw; first | (go_simp; done) | (go_simp; with_reducible rfl))
    simp only [Act.put, List.setIfInBounds_toArray, List.set_cons_zero, List.set_cons_succ]
    refine wpAnyH_take (i := 2) (oi := { dst := some 15, op := Go.Op.fieldAddr 64 (Go.Operand.tmp 14) 0, type := 0, pos := "obey.go:90", after := #[{ on := 1, ground := Go.Ground.data }], guard := none }) (v := ?_) rfl (by kernel_rfl) (by kernel_rfl) (by kernel_rfl) (fun _ _ _ h => h) (Or.inl ⟨by rfl, ?_⟩) hHeld ?_
    rotate_left
    · (intro w hSw; first | (go_simp; done) | (go_simp; with_reducible rfl))
    simp only [Act.put, List.setIfInBounds_toArray, List.set_cons_zero, List.set_cons_succ]
    refine wpAnyH_take (i := 3) (oi := { dst := some 16, op := Go.Op.load 33 (Go.Operand.tmp 15), type := 33, pos := "obey.go:90", after := #[{ on := 2, ground := Go.Ground.data }], guard := none }) (v := .agg PC) rfl (by kernel_rfl) (by kernel_rfl) (by kernel_rfl) (fun _ _ _ h => h) (by rw [← HPC.out]; exact yieldsIf_load_mid (by rfl) 33 (.tmp 15) rfl d 0 rfl (portCells D.p vs) _ (fun W hW => hW.out.1.box.port) Tryz.underlying33 rfl (portInfo D.p vs H4.out)) hHeld ?_
    simp only [Act.put, List.setIfInBounds_toArray, List.set_cons_zero, List.set_cons_succ]
    refine wpAnyH_take (i := 4) (oi := { dst := some 17, op := Go.Op.load 53 (Go.Operand.tmp 3), type := 53, pos := "obey.go:90", after := #[], guard := none }) (v := .agg #[.int .i64 1, .int .i64 o.a, .int .i64 o.b, .int .i64 o.c]) rfl (by kernel_rfl) (by kernel_rfl) (by kernel_rfl) (fun _ _ _ h => h) (yieldsIf_load_mid (by rfl) 53 (.tmp 3) rfl z 0 rfl (ordCells (⟨1, o.a, o.b, o.c⟩ : Ord)) _ (fun W hW => hW.out.2.2.whole) Tryz.underlying53 rfl (ordInfo (⟨1, o.a, o.b, o.c⟩ : Ord))) hHeld ?_
    simp only [Act.put, List.setIfInBounds_toArray, List.set_cons_zero, List.set_cons_succ]
    refine wpAnyH_ready (rs := [5, 10]) (by kernel_rfl) (by simp) ?_
    refine AllReadyH.cons rfl (fun K hK => ?_) (AllReadyH.cons rfl (fun K hK => ?_) AllReadyH.nil)
    · go_simp
      refine (HTA _ (by have := hHeld.out.1.pv HP.out.1; rw [HPC.out] at this; exact this)).mono ?_
      rintro e w1 ⟨q, vq, n, er, rfl, hT, hq4, hqm, hqo, hb1⟩
      have onq : vq.oneCell' = true := ownsRow_one hqo
      have E1 : Hid (DM w1 d D vs (.slice pa pl.length pc) va pl ∧ Fr d w w1 ∧ LOB w1 z (⟨1, o.a, o.b, o.c⟩ : Ord) ∧ RowT 51 cShip w1 vq q.ships ∧ TellIs (ObeyIs D.p (⟨1, o.a, o.b, o.c⟩ : Ord)) D.p n er q) := ⟨hHeld.out.1.later hb1, hHeld.out.2.1.trans (Fr.of hb1 (by have := hHeld.out.1.lt; omega)), hHeld.out.2.2.later hb1 hHeld.out.2.2.lt, RowT.own hqo, hT⟩
      clear hT hqo hb1 HTA hHeld hqm
      go_wp2_with fail
      refine hK.out _ _ ⟨E1.out.1, E1.out.2.1, E1.out.2.2.1⟩ (fun hHeld => ?_)
      clear hK K
      try ((try dsimp only); simp only [Act.put, List.setIfInBounds_toArray, List.set_cons_zero, List.set_cons_succ])
      refine wpAnyH_take (i := 6) (oi := { dst := some 12, op := Go.Op.move (Go.Operand.tmp 18), type := 112, pos := "obey.go:90", after := #[{ on := 5, ground := Go.Ground.data }], guard := none }) (v := .tuple #[.agg (portCells q vq).toArray, .int .i64 n, .int .i64 er]) rfl (by kernel_rfl) (by kernel_rfl) (by kernel_rfl) (fun _ _ _ h => h) (Or.inl ⟨by rfl, by intro w hSw; go_simp⟩) hHeld ?_
      simp only [Act.put, List.setIfInBounds_toArray, List.set_cons_zero, List.set_cons_succ]
      refine wpAnyH_take (i := 7) (oi := { dst := some 19, op := Go.Op.extract (Go.Operand.tmp 12) 0, type := 33, pos := "obey.go:90", after := #[{ on := 6, ground := Go.Ground.data }], guard := none }) (v := .agg (portCells q vq).toArray) rfl (by kernel_rfl) (by kernel_rfl) (by kernel_rfl) (fun _ _ _ h => h) (Or.inl ⟨by rfl, by intro w hSw; go_simp⟩) hHeld ?_
      simp only [Act.put, List.setIfInBounds_toArray, List.set_cons_zero, List.set_cons_succ]
      refine wpAnyH_take (i := 8) (oi := { dst := some 20, op := Go.Op.extract (Go.Operand.tmp 12) 1, type := 3, pos := "obey.go:90", after := #[{ on := 6, ground := Go.Ground.data }, { on := 11, ground := Go.Ground.gcOnly Go.Departure.lateStores }], guard := none }) (v := .int .i64 n) rfl (by kernel_rfl) (by kernel_rfl) (by kernel_rfl) (fun _ _ _ h => h) (Or.inl ⟨by rfl, by intro w hSw; go_simp⟩) hHeld ?_
      simp only [Act.put, List.setIfInBounds_toArray, List.set_cons_zero, List.set_cons_succ]
      refine wpAnyH_take (i := 9) (oi := { dst := some 21, op := Go.Op.extract (Go.Operand.tmp 12) 2, type := 23, pos := "obey.go:90", after := #[{ on := 6, ground := Go.Ground.data }, { on := 12, ground := Go.Ground.gcOnly Go.Departure.lateStores }], guard := none }) (v := .int .i64 er) rfl (by kernel_rfl) (by kernel_rfl) (by kernel_rfl) (fun _ _ _ h => h) (Or.inl ⟨by rfl, by intro w hSw; go_simp⟩) hHeld ?_
      simp only [Act.put, List.setIfInBounds_toArray, List.set_cons_zero, List.set_cons_succ]
      refine wpAnyH_ready (rs := [10]) (by kernel_rfl) (by simp) ?_
      refine AllReadyH.cons rfl (fun K hK => ?_) AllReadyH.nil
      refine step_alloc_box rfl rfl 6 rfl ?_
      intro w2 h2
      refine hK.out _ _ ⟨E1.out.1.later h2.out.2, E1.out.2.1.trans (Fr.of h2.out.2 (by have := E1.out.1.lt; omega)), E1.out.2.2.1.later h2.out.2 E1.out.2.2.1.lt⟩ (fun hHeld => ?_)
      clear hK K hHeld
      try ((try dsimp only); simp only [Act.put, List.setIfInBounds_toArray, List.set_cons_zero, List.set_cons_succ])
      refine wpAnyH_ready (rs := [11]) (by kernel_rfl) (by simp) ?_
      refine AllReadyH.cons rfl (fun K hK => ?_) AllReadyH.nil
      refine step_store_box rfl (.tmp 6) (.tmp 19) rfl _ zeroPt q (.slice none 0 0) vq (by simp [Act.eval, Act.put]) (by simp [Act.eval, Act.put]) h2.out.1 hq4 onq rfl ?_
      intro w3 h3
      have E3 : Hid ((TellIs (ObeyIs D.p (⟨1, o.a, o.b, o.c⟩ : Ord)) D.p n er q ∧ PBox w3 w1.heap.size q vq ∧ RowT 51 cShip w3 vq q.ships ∧ DM w3 d D vs (.slice pa pl.length pc) va pl ∧ Fr d w w3) ∧ LOB w3 z (⟨1, o.a, o.b, o.c⟩ : Ord)) := by
        have hb : Below w1.heap.size w1 w3 := h2.out.2.trans (h3.out.2.2 _ (Nat.le_refl _))
        exact ⟨⟨E1.out.2.2.2.2, h3.out.1, E1.out.2.2.2.1.later hb, E1.out.1.later hb, E1.out.2.1.trans (Fr.of hb (by have := E1.out.1.lt; omega))⟩, E1.out.2.2.1.later hb E1.out.2.2.1.lt⟩
      clear h2 h3 E1
      refine hK.out _ _ ⟨E3.out.1.2.2.2.1, E3.out.1.2.2.2.2, E3.out.2⟩ (fun hHeld => ?_)
      clear hK K
      refine wpAnyH_take (i := 12) (oi := { dst := some 7, op := Go.Op.assign (Go.Operand.tmp 20), type := 3, pos := "obey.go:90", after := #[{ on := 8, ground := Go.Ground.data }, { on := 11, ground := Go.Ground.chain }, { on := 0, ground := Go.Ground.phase }, { on := 1, ground := Go.Ground.phase }, { on := 2, ground := Go.Ground.phase }, { on := 3, ground := Go.Ground.phase }, { on := 4, ground := Go.Ground.phase }, { on := 5, ground := Go.Ground.phase }, { on := 6, ground := Go.Ground.phase }, { on := 7, ground := Go.Ground.phase }, { on := 8, ground := Go.Ground.phase }, { on := 9, ground := Go.Ground.textOnly Go.Departure.lateStores }, { on := 10, ground := Go.Ground.phase }, { on := 11, ground := Go.Ground.phase }], guard := none }) (v := .int .i64 n) rfl (by kernel_rfl) (by kernel_rfl) (by kernel_rfl) (fun _ _ _ h => h) (Or.inl ⟨by rfl, by intro w hSw; go_simp⟩) hHeld ?_
      simp only [Act.put, List.setIfInBounds_toArray, List.set_cons_zero, List.set_cons_succ]
      refine wpAnyH_take (i := 13) (oi := { dst := some 8, op := Go.Op.assign (Go.Operand.tmp 21), type := 23, pos := "obey.go:90", after := #[{ on := 9, ground := Go.Ground.data }, { on := 12, ground := Go.Ground.chain }, { on := 0, ground := Go.Ground.phase }, { on := 1, ground := Go.Ground.phase }, { on := 2, ground := Go.Ground.phase }, { on := 3, ground := Go.Ground.phase }, { on := 4, ground := Go.Ground.phase }, { on := 5, ground := Go.Ground.phase }, { on := 6, ground := Go.Ground.phase }, { on := 7, ground := Go.Ground.phase }, { on := 8, ground := Go.Ground.phase }, { on := 9, ground := Go.Ground.phase }, { on := 10, ground := Go.Ground.phase }, { on := 11, ground := Go.Ground.phase }, { on := 12, ground := Go.Ground.phase }], guard := none }) (v := .int .i64 er) rfl (by kernel_rfl) (by kernel_rfl) (by kernel_rfl) (fun _ _ _ h => h) (Or.inl ⟨by rfl, by intro w hSw; go_simp⟩) hHeld ?_
      simp only [Act.put, List.setIfInBounds_toArray, List.set_cons_zero, List.set_cons_succ]
      refine wpAnyH_done (by kernel_rfl) ?_ _
      clear hHeld
      go_wp2_with fail
      go_meet
      exact ⟨_, _, _, rfl, rfl, rfl, q, vq, E3.out.1⟩
    · refine step_alloc_box rfl rfl 6 rfl ?_
      intro w1 h1
      have E1 : Hid (DM w1 d D vs (.slice pa pl.length pc) va pl ∧ Fr d w w1 ∧ LOB w1 z (⟨1, o.a, o.b, o.c⟩ : Ord) ∧ PBox w1 W1.drew.heap.size zeroPt (.slice none 0 0) ∧ Below W1.drew.heap.size W1.drew w1) := ⟨hHeld.out.1.later h1.out.2, hHeld.out.2.1.trans (Fr.of h1.out.2 (by have := hHeld.out.1.lt; omega)), hHeld.out.2.2.later h1.out.2 hHeld.out.2.2.lt, h1.out.1, h1.out.2⟩
      clear h1 hHeld
      refine hK.out _ _ ⟨E1.out.1, E1.out.2.1, E1.out.2.2.1⟩ (fun hHeld => ?_)
      clear hK K
      try ((try dsimp only); simp only [Act.put, List.setIfInBounds_toArray, List.set_cons_zero, List.set_cons_succ])
      refine wpAnyH_ready (rs := [5]) (by kernel_rfl) (by simp) ?_
      refine AllReadyH.cons rfl (fun K hK => ?_) AllReadyH.nil
      go_simp
      refine (HTA _ (by have := hHeld.out.1.pv HP.out.1; rw [HPC.out] at this; exact this)).mono ?_
      rintro e w2 ⟨q, vq, n, er, rfl, hT, hq4, hqm, hqo, hb1⟩
      have onq : vq.oneCell' = true := ownsRow_one hqo
      have E2 : Hid (DM w2 d D vs (.slice pa pl.length pc) va pl ∧ Fr d w w2 ∧ LOB w2 z (⟨1, o.a, o.b, o.c⟩ : Ord) ∧ PBox w2 W1.drew.heap.size zeroPt (.slice none 0 0) ∧ TellIs (ObeyIs D.p (⟨1, o.a, o.b, o.c⟩ : Ord)) D.p n er q ∧ w2.ownsRow w1.heap.size 51 6 vq q.ships.length (cellsK cShip q.ships) ∧ Below w1.heap.size w1 w2) := ⟨E1.out.1.later hb1, E1.out.2.1.trans (Fr.of hb1 (by have := E1.out.1.lt; omega)), E1.out.2.2.1.later hb1 E1.out.2.2.1.lt, E1.out.2.2.2.1.later hb1 E1.out.2.2.2.1.lt, hT, hqo, hb1⟩
      clear hT hqo hb1 HTA hHeld hqm
      go_wp2_with fail
      refine hK.out _ _ ⟨E2.out.1, E2.out.2.1, E2.out.2.2.1⟩ (fun hHeld => ?_)
      clear hK K
      try ((try dsimp only); simp only [Act.put, List.setIfInBounds_toArray, List.set_cons_zero, List.set_cons_succ])
      refine wpAnyH_take (i := 6) (oi := { dst := some 12, op := Go.Op.move (Go.Operand.tmp 18), type := 112, pos := "obey.go:90", after := #[{ on := 5, ground := Go.Ground.data }], guard := none }) (v := .tuple #[.agg (portCells q vq).toArray, .int .i64 n, .int .i64 er]) rfl (by kernel_rfl) (by kernel_rfl) (by kernel_rfl) (fun _ _ _ h => h) (Or.inl ⟨by rfl, by intro w hSw; go_simp⟩) hHeld ?_
      simp only [Act.put, List.setIfInBounds_toArray, List.set_cons_zero, List.set_cons_succ]
      refine wpAnyH_take (i := 7) (oi := { dst := some 19, op := Go.Op.extract (Go.Operand.tmp 12) 0, type := 33, pos := "obey.go:90", after := #[{ on := 6, ground := Go.Ground.data }], guard := none }) (v := .agg (portCells q vq).toArray) rfl (by kernel_rfl) (by kernel_rfl) (by kernel_rfl) (fun _ _ _ h => h) (Or.inl ⟨by rfl, by intro w hSw; go_simp⟩) hHeld ?_
      simp only [Act.put, List.setIfInBounds_toArray, List.set_cons_zero, List.set_cons_succ]
      refine wpAnyH_take (i := 8) (oi := { dst := some 20, op := Go.Op.extract (Go.Operand.tmp 12) 1, type := 3, pos := "obey.go:90", after := #[{ on := 6, ground := Go.Ground.data }, { on := 11, ground := Go.Ground.gcOnly Go.Departure.lateStores }], guard := none }) (v := .int .i64 n) rfl (by kernel_rfl) (by kernel_rfl) (by kernel_rfl) (fun _ _ _ h => h) (Or.inl ⟨by rfl, by intro w hSw; go_simp⟩) hHeld ?_
      simp only [Act.put, List.setIfInBounds_toArray, List.set_cons_zero, List.set_cons_succ]
      refine wpAnyH_take (i := 9) (oi := { dst := some 21, op := Go.Op.extract (Go.Operand.tmp 12) 2, type := 23, pos := "obey.go:90", after := #[{ on := 6, ground := Go.Ground.data }, { on := 12, ground := Go.Ground.gcOnly Go.Departure.lateStores }], guard := none }) (v := .int .i64 er) rfl (by kernel_rfl) (by kernel_rfl) (by kernel_rfl) (fun _ _ _ h => h) (Or.inl ⟨by rfl, by intro w hSw; go_simp⟩) hHeld ?_
      simp only [Act.put, List.setIfInBounds_toArray, List.set_cons_zero, List.set_cons_succ]
      refine wpAnyH_ready (rs := [11]) (by kernel_rfl) (by simp) ?_
      refine AllReadyH.cons rfl (fun K hK => ?_) AllReadyH.nil
      refine step_store_box rfl (.tmp 6) (.tmp 19) rfl _ zeroPt q (.slice none 0 0) vq (by simp [Act.eval, Act.put]) (by simp [Act.eval, Act.put]) E2.out.2.2.2.1 hq4 onq rfl ?_
      intro w3 h3
      have E3 : Hid ((TellIs (ObeyIs D.p (⟨1, o.a, o.b, o.c⟩ : Ord)) D.p n er q ∧ PBox w3 W1.drew.heap.size q vq ∧ RowT 51 cShip w3 vq q.ships ∧ DM w3 d D vs (.slice pa pl.length pc) va pl ∧ Fr d w w3) ∧ LOB w3 z (⟨1, o.a, o.b, o.c⟩ : Ord)) := by
        have hlt := E1.out.2.2.2.1.lt
        have hb : Below W1.drew.heap.size W1.drew w3 := (E1.out.2.2.2.2.trans (E2.out.2.2.2.2.2.2.mono (by omega))).trans (h3.out.2.2 _ (Nat.le_refl _))
        have S := E0
        exact ⟨⟨E2.out.2.2.2.2.1, h3.out.1, RowT.own (B := w1.heap.size) (ownsRow_same E2.out.2.2.2.2.2.1 fun k hk => h3.out.2.1 k (by omega)), S.out.1.later hb, S.out.2.1.trans (Fr.of hb (by have := S.out.1.lt; omega))⟩, S.out.2.2.later hb S.out.2.2.lt⟩
      clear h3 E1 E2
      refine hK.out _ _ ⟨E3.out.1.2.2.2.1, E3.out.1.2.2.2.2, E3.out.2⟩ (fun hHeld => ?_)
      clear hK K
      refine wpAnyH_take (i := 12) (oi := { dst := some 7, op := Go.Op.assign (Go.Operand.tmp 20), type := 3, pos := "obey.go:90", after := #[{ on := 8, ground := Go.Ground.data }, { on := 11, ground := Go.Ground.chain }, { on := 0, ground := Go.Ground.phase }, { on := 1, ground := Go.Ground.phase }, { on := 2, ground := Go.Ground.phase }, { on := 3, ground := Go.Ground.phase }, { on := 4, ground := Go.Ground.phase }, { on := 5, ground := Go.Ground.phase }, { on := 6, ground := Go.Ground.phase }, { on := 7, ground := Go.Ground.phase }, { on := 8, ground := Go.Ground.phase }, { on := 9, ground := Go.Ground.textOnly Go.Departure.lateStores }, { on := 10, ground := Go.Ground.phase }, { on := 11, ground := Go.Ground.phase }], guard := none }) (v := .int .i64 n) rfl (by kernel_rfl) (by kernel_rfl) (by kernel_rfl) (fun _ _ _ h => h) (Or.inl ⟨by rfl, by intro w hSw; go_simp⟩) hHeld ?_
      simp only [Act.put, List.setIfInBounds_toArray, List.set_cons_zero, List.set_cons_succ]
      refine wpAnyH_take (i := 13) (oi := { dst := some 8, op := Go.Op.assign (Go.Operand.tmp 21), type := 23, pos := "obey.go:90", after := #[{ on := 9, ground := Go.Ground.data }, { on := 12, ground := Go.Ground.chain }, { on := 0, ground := Go.Ground.phase }, { on := 1, ground := Go.Ground.phase }, { on := 2, ground := Go.Ground.phase }, { on := 3, ground := Go.Ground.phase }, { on := 4, ground := Go.Ground.phase }, { on := 5, ground := Go.Ground.phase }, { on := 6, ground := Go.Ground.phase }, { on := 7, ground := Go.Ground.phase }, { on := 8, ground := Go.Ground.phase }, { on := 9, ground := Go.Ground.phase }, { on := 10, ground := Go.Ground.phase }, { on := 11, ground := Go.Ground.phase }, { on := 12, ground := Go.Ground.phase }], guard := none }) (v := .int .i64 er) rfl (by kernel_rfl) (by kernel_rfl) (by kernel_rfl) (fun _ _ _ h => h) (Or.inl ⟨by rfl, by intro w hSw; go_simp⟩) hHeld ?_
      simp only [Act.put, List.setIfInBounds_toArray, List.set_cons_zero, List.set_cons_succ]
      refine wpAnyH_done (by kernel_rfl) ?_ _
      clear hHeld
      go_wp2_with fail
      go_meet
      exact ⟨_, _, _, rfl, rfl, rfl, q, vq, E3.out.1⟩
  case rest =>
    obtain ⟨g, n, er, rfl, rfl, rfl, C⟩ := hcut
    obtain ⟨q, vq, c1, c2, c3, c4, c5⟩ := C.out
    have TI : Hid (TellIs (ObeyIs D.p ⟨1, o.a, o.b, o.c⟩) D.p n er q) := c1
    have C2 : Hid (DM wc.drew d D vs (.slice pa pl.length pc) va pl ∧ PBox wc.drew g q vq ∧ RowT 51 cShip wc.drew vq q.ships ∧ Fr d w wc.drew) := by
      have hd : Below wc.heap.size wc wc.drew := (Below.refl _ wc).drew
      exact ⟨c4.later hd, c2.later hd c2.lt, c3.later hd, c5.trans (Fr.drew _)⟩
    have C0 : Hid (Dsk wc d D ∧ Fr d w wc) := ⟨⟨_, _, _, _, c4⟩, c5⟩
    clear C c1 c2 c3 c4 c5 HTA E0
    by_cases he : er = 0
    case neg =>
      have hb : (er != 0) = true := by simp [he]
      have R : Hid (GuessIs D.p o.a o.b o.c 0 er ∧ Dsk wc d D ∧ Fr d w wc) := ⟨⟨n, q, TI.out, Or.inl ⟨he, rfl⟩⟩, C0.out⟩
      clear C2 TI he HMP C0
      go_wp2_with fail
      go_ret2
      exact ⟨0, er, rfl, R⟩
    subst he
    obtain ⟨hq, hA, hn, _, _⟩ := come_is TI.out
    have HQ : Hid (IsPort q ∧ n = D.p.ships.length ∧ D.p.ships.length < q.ships.length) := ⟨hq, hn, hA.lt⟩
    have hn0 : 0 ≤ n := by omega
    have hn1 : n < (q.ships.length : Int) := by have := hA.lt; omega
    have hq4 := hq.port.four
    clear hq hA hn C0
    generalize hQC : (portCells q vq).toArray = QC at *
    have HQC : Hid ((portCells q vq).toArray = QC) := hQC
    clear hQC
    go_upto_region 5 with fail
    refine wp_region_held_drew (S := fun W => Hid (DM W d D vs (.slice pa pl.length pc) va pl ∧ PBox W g q vq ∧ RowT 51 cShip W vq q.ships ∧ Fr d w W)) (by kernel_rfl) C2 (fun hHeld => ?_)
    refine wpAnyH_take (i := 0) (oi := { dst := some 26, op := Go.Op.move (Go.Operand.tmp 0), type := 22, pos := "obey.go:94", after := #[], guard := none }) (v := ?_) rfl (by kernel_rfl) (by kernel_rfl) (by kernel_rfl) (fun _ _ _ h => h) (Or.inl ⟨by rfl, ?_⟩) hHeld ?_
    rotate_left
    · (intro w hSw; first | (go_simp; done) | (go_simp; with_reducible rfl))
    simp only [Act.put, List.setIfInBounds_toArray, List.set_cons_zero, List.set_cons_succ]
    refine wpAnyH_take (i := 1) (oi := { dst := some 27, op := Go.Op.nilCheck (Go.Operand.tmp 26), type := 0, pos := "obey.go:94", after := #[{ on := 0, ground := Go.Ground.data }], guard := none }) (v := ?_) rfl (by kernel_rfl) (by kernel_rfl) (by kernel_rfl) (fun _ _ _ h => h) (Or.inl ⟨by rfl, ?_⟩) hHeld ?_
    rotate_left
    · (intro w hSw; first | (go_simp; done) | (go_simp; with_reducible rfl))
    simp only [Act.put, List.setIfInBounds_toArray, List.set_cons_zero, List.set_cons_succ]
    refine wpAnyH_take (i := 2) (oi := { dst := some 28, op := Go.Op.fieldAddr 64 (Go.Operand.tmp 27) 0, type := 0, pos := "obey.go:94", after := #[{ on := 1, ground := Go.Ground.data }], guard := none }) (v := ?_) rfl (by kernel_rfl) (by kernel_rfl) (by kernel_rfl) (fun _ _ _ h => h) (Or.inl ⟨by rfl, ?_⟩) hHeld ?_
    rotate_left
    · (intro w hSw; first | (go_simp; done) | (go_simp; with_reducible rfl))
    simp only [Act.put, List.setIfInBounds_toArray, List.set_cons_zero, List.set_cons_succ]
    refine wpAnyH_take (i := 3) (oi := { dst := some 29, op := Go.Op.load 33 (Go.Operand.tmp 28), type := 33, pos := "obey.go:94", after := #[{ on := 2, ground := Go.Ground.data }], guard := none }) (v := .agg PC) rfl (by kernel_rfl) (by kernel_rfl) (by kernel_rfl) (fun _ _ _ h => h) (by rw [← HPC.out]; exact yieldsIf_load_mid (by rfl) 33 (.tmp 28) rfl d 0 rfl (portCells D.p vs) _ (fun W hW => hW.out.1.box.port) Tryz.underlying33 rfl (portInfo D.p vs H4.out)) hHeld ?_
    simp only [Act.put, List.setIfInBounds_toArray, List.set_cons_zero, List.set_cons_succ]
    refine wpAnyH_take (i := 4) (oi := { dst := some 30, op := Go.Op.load 33 (Go.Operand.tmp 6), type := 33, pos := "obey.go:94", after := #[], guard := none }) (v := .agg QC) rfl (by kernel_rfl) (by kernel_rfl) (by kernel_rfl) (fun _ _ _ h => h) (by rw [← HQC.out]; exact yieldsIf_load_mid (by rfl) 33 (.tmp 6) rfl g 0 rfl (portCells q vq) _ (fun W hW => hW.out.2.1.whole) Tryz.underlying33 rfl (portInfo q vq hq4)) hHeld ?_
    simp only [Act.put, List.setIfInBounds_toArray, List.set_cons_zero, List.set_cons_succ]
    refine wpAnyH_take (i := 5) (oi := { dst := some 31, op := Go.Op.move (Go.Operand.tmp 0), type := 22, pos := "obey.go:94", after := #[], guard := none }) (v := ?_) rfl (by kernel_rfl) (by kernel_rfl) (by kernel_rfl) (fun _ _ _ h => h) (Or.inl ⟨by rfl, ?_⟩) hHeld ?_
    rotate_left
    · (intro w hSw; first | (go_simp; done) | (go_simp; with_reducible rfl))
    simp only [Act.put, List.setIfInBounds_toArray, List.set_cons_zero, List.set_cons_succ]
    refine wpAnyH_take (i := 6) (oi := { dst := some 32, op := Go.Op.nilCheck (Go.Operand.tmp 31), type := 0, pos := "obey.go:94", after := #[{ on := 5, ground := Go.Ground.data }], guard := none }) (v := ?_) rfl (by kernel_rfl) (by kernel_rfl) (by kernel_rfl) (fun _ _ _ h => h) (Or.inl ⟨by rfl, ?_⟩) hHeld ?_
    rotate_left
    · (intro w hSw; first | (go_simp; done) | (go_simp; with_reducible rfl))
    simp only [Act.put, List.setIfInBounds_toArray, List.set_cons_zero, List.set_cons_succ]
    refine wpAnyH_take (i := 7) (oi := { dst := some 33, op := Go.Op.fieldAddr 64 (Go.Operand.tmp 32) 1, type := 0, pos := "obey.go:94", after := #[{ on := 6, ground := Go.Ground.data }], guard := none }) (v := ?_) rfl (by kernel_rfl) (by kernel_rfl) (by kernel_rfl) (fun _ _ _ h => h) (Or.inl ⟨by rfl, ?_⟩) hHeld ?_
    rotate_left
    · (intro w hSw; first | (go_simp; done) | (go_simp; with_reducible rfl))
    simp only [Act.put, List.setIfInBounds_toArray, List.set_cons_zero, List.set_cons_succ]
    refine wpAnyH_take (i := 8) (oi := { dst := some 34, op := Go.Op.load 35 (Go.Operand.tmp 33), type := 35, pos := "obey.go:94", after := #[{ on := 7, ground := Go.Ground.data }], guard := none }) (v := .slice pa pl.length pc) rfl (by kernel_rfl) (by kernel_rfl) (by kernel_rfl) (fun _ _ _ h => h) (Or.inl ⟨by rfl, by intro w hSw; have hc := hSw.out.1.box.cells.2.2.1; go_simp⟩) hHeld ?_
    simp only [Act.put, List.setIfInBounds_toArray, List.set_cons_zero, List.set_cons_succ]
    refine wpAnyH_ready (rs := [9]) (by kernel_rfl) (by simp) ?_
    refine AllReadyH.cons rfl (fun K hK => ?_) AllReadyH.nil
    go_simp
    have HM1 := HMP q vq
    rw [HQC.out] at HM1
    refine (HM1 _ (by have := hHeld.out.1.pv HP.out.1; rw [HPC.out] at this; exact this) (by rw [← HQC.out]; exact ⟨vq, rfl, hHeld.out.2.2.1.sl, hq4, by have := HQ.out.1.port.len; omega⟩) hHeld.out.1.row.sl HQ.out.1).mono ?_
    rintro e w1 ⟨g1, n1, rfl, h1⟩
    have E1 : Hid (DM w1 d D vs (.slice pa pl.length pc) va pl ∧ PBox w1 g q vq ∧ RowT 51 cShip w1 vq q.ships ∧ Fr d w w1) := by
      have hb := h1.out.2.2.2
      exact ⟨hHeld.out.1.later hb, hHeld.out.2.1.later hb hHeld.out.2.1.lt, hHeld.out.2.2.1.later hb, hHeld.out.2.2.2.trans (Fr.of hb (by have := hHeld.out.1.lt; omega))⟩
    obtain ⟨x, hx, R⟩ : ∃ x, w1.cell? ⟨g1, D.p.ships.length, none⟩ = some (.int .i64 x) ∧ Hid (GuessIs D.p o.a o.b o.c x 0 ∧ Dsk w1 d D ∧ Fr d w w1) := by
      obtain ⟨⟨pl', k1, k2⟩, _⟩ := h1.out
      have hlt : D.p.ships.length < pl'.length := by rw [k1.len]; exact HQ.out.2.2
      refine ⟨pl'.getD D.p.ships.length (-1), IRow.cell k2 (getD_in hlt), ⟨n, q, TI.out, Or.inr ⟨rfl, pl', k1, ?_⟩⟩, ⟨_, _, _, _, E1.out.1⟩, E1.out.2.2.2⟩
      rw [HQ.out.2.1, Int.toNat_natCast]
    clear h1 hHeld HMP HM1 C2
    go_wp2_with fail
    refine hK.out _ _ E1 (fun hHeld => ?_)
    clear hK K
    refine wpAnyH_take (i := 10) (oi := { dst := some 25, op := Go.Op.move (Go.Operand.tmp 35), type := 114, pos := "obey.go:94", after := #[{ on := 9, ground := Go.Ground.data }], guard := none }) (v := ?_) rfl (by kernel_rfl) (by kernel_rfl) (by kernel_rfl) (fun _ _ _ h => h) (Or.inl ⟨by rfl, ?_⟩) hHeld ?_
    rotate_left
    · (intro w hSw; first | (go_simp; done) | (go_simp; with_reducible rfl))
    simp only [Act.put, List.setIfInBounds_toArray, List.set_cons_zero, List.set_cons_succ]
    refine wpAnyH_take (i := 11) (oi := { dst := some 36, op := Go.Op.extract (Go.Operand.tmp 25) 0, type := 35, pos := "obey.go:94", after := #[{ on := 10, ground := Go.Ground.data }], guard := none }) (v := ?_) rfl (by kernel_rfl) (by kernel_rfl) (by kernel_rfl) (fun _ _ _ h => h) (Or.inl ⟨by rfl, ?_⟩) hHeld ?_
    rotate_left
    · (intro w hSw; first | (go_simp; done) | (go_simp; with_reducible rfl))
    simp only [Act.put, List.setIfInBounds_toArray, List.set_cons_zero, List.set_cons_succ]
    refine wpAnyH_take (i := 12) (oi := { dst := some 37, op := Go.Op.extract (Go.Operand.tmp 25) 1, type := 3, pos := "obey.go:94", after := #[{ on := 10, ground := Go.Ground.data }, { on := 13, ground := Go.Ground.gcOnly Go.Departure.lateStores }], guard := none }) (v := ?_) rfl (by kernel_rfl) (by kernel_rfl) (by kernel_rfl) (fun _ _ _ h => h) (Or.inl ⟨by rfl, ?_⟩) hHeld ?_
    rotate_left
    · (intro w hSw; first | (go_simp; done) | (go_simp; with_reducible rfl))
    simp only [Act.put, List.setIfInBounds_toArray, List.set_cons_zero, List.set_cons_succ]
    refine wpAnyH_take (i := 13) (oi := { dst := some 9, op := Go.Op.assign (Go.Operand.tmp 36), type := 35, pos := "obey.go:94", after := #[{ on := 11, ground := Go.Ground.data }, { on := 9, ground := Go.Ground.chain }, { on := 0, ground := Go.Ground.phase }, { on := 1, ground := Go.Ground.phase }, { on := 2, ground := Go.Ground.phase }, { on := 3, ground := Go.Ground.phase }, { on := 4, ground := Go.Ground.phase }, { on := 5, ground := Go.Ground.phase }, { on := 6, ground := Go.Ground.phase }, { on := 7, ground := Go.Ground.phase }, { on := 8, ground := Go.Ground.phase }, { on := 9, ground := Go.Ground.phase }, { on := 10, ground := Go.Ground.phase }, { on := 11, ground := Go.Ground.phase }, { on := 12, ground := Go.Ground.textOnly Go.Departure.lateStores }], guard := none }) (v := ?_) rfl (by kernel_rfl) (by kernel_rfl) (by kernel_rfl) (fun _ _ _ h => h) (Or.inl ⟨by rfl, ?_⟩) hHeld ?_
    rotate_left
    · (intro w hSw; first | (go_simp; done) | (go_simp; with_reducible rfl))
    simp only [Act.put, List.setIfInBounds_toArray, List.set_cons_zero, List.set_cons_succ]
    refine wpAnyH_take (i := 14) (oi := { dst := some 10, op := Go.Op.assign (Go.Operand.tmp 37), type := 3, pos := "obey.go:94", after := #[{ on := 12, ground := Go.Ground.data }, { on := 13, ground := Go.Ground.chain }, { on := 0, ground := Go.Ground.phase }, { on := 1, ground := Go.Ground.phase }, { on := 2, ground := Go.Ground.phase }, { on := 3, ground := Go.Ground.phase }, { on := 4, ground := Go.Ground.phase }, { on := 5, ground := Go.Ground.phase }, { on := 6, ground := Go.Ground.phase }, { on := 7, ground := Go.Ground.phase }, { on := 8, ground := Go.Ground.phase }, { on := 9, ground := Go.Ground.phase }, { on := 10, ground := Go.Ground.phase }, { on := 11, ground := Go.Ground.phase }, { on := 12, ground := Go.Ground.phase }, { on := 13, ground := Go.Ground.phase }], guard := none }) (v := ?_) rfl (by kernel_rfl) (by kernel_rfl) (by kernel_rfl) (fun _ _ _ h => h) (Or.inl ⟨by rfl, ?_⟩) hHeld ?_
    rotate_left
    · (intro w hSw; first | (go_simp; done) | (go_simp; with_reducible rfl))
    simp only [Act.put, List.setIfInBounds_toArray, List.set_cons_zero, List.set_cons_succ]
    refine wpAnyH_done (by kernel_rfl) ?_ _
    clear hHeld E1
    have hnn : n = (D.p.ships.length : Int) := HQ.out.2.1
    subst hnn
    go_wp2_with fail
    go_ret2
    exact ⟨x, 0, rfl, R⟩
end Go.Proofs.YtcmdoeledmkfmabGreatDoor
