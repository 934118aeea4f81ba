import Derived.Test.YtcmdoeledmkfmacGreatDoorXDTell
set_option linter.unusedSimpArgs false
set_option linter.unusedVariables false
namespace Go.Proofs.YtcmdoeledmkfmacGreatDoor
open Go.RowKit
set_option maxHeartbeats 1000000 in
theorem cloneInts_any (v : Value) (l : List Int) (w : World) (h : SlK cInt w v l) (hn : l.length ≤ 17592186044416) :
    Calls Tryz.prog 26 #[v] w fun e w' => ∃ v', e = .returned v' ∧ Hid (w'.ownsRow w.heap.size 3 1 v' l.length (cellsK cInt l) ∧ Below w.heap.size w w') := by
  obtain ⟨a, cap, rfl, hcap, h1⟩ := h
  have q22 : ∀ (w : World) (a : Option Addr) (n c n' c' : Nat), (binOp .eql 43 (.slice a n c) (.slice none n' c')).run Tryz.prog w = .ok (.bool a.isNone) w := fun w a n c n' c' => Lib.run_eql_slice_nil w _ _ a n c n' c' Tryz.underlying43
  cases a with
  | none =>
    have hl : l = [] := by
      rcases h1 with h | ⟨b, off, h, _⟩
      · exact h
      · cases h
    subst hl
    go_enter Tryz.func26, Tryz.ntmps26
    go_wp2
    go_ret
    exact ⟨_, rfl, World.ownsRow_nil _ _ _ _, Below.refl _ _⟩
  | some ad =>
    have hbw : Below w.heap.size w (w.alloc (.cells #[] 3)) := (Below.refl _ w).alloc (Nat.le_refl _) _
    obtain ⟨b, off, had, hr⟩ : ∃ b off, (l = [] ∨ ad = ⟨b, off, none⟩) ∧ RdK cInt w b off l := by
      rcases h1 with rfl | ⟨b, off, h, hr⟩
      · exact ⟨0, 0, Or.inl rfl, fun j u hu => by simp [cellsK] at hu⟩
      · injection h with h; exact ⟨b, off, Or.inr h, hr⟩
    have HO : Hid ((w.alloc (.cells #[] 3)).ownsRow w.heap.size 3 1 (.slice (some ⟨w.heap.size, 0, none⟩) 0 0) ([] : List Int).length (cellsK cInt [])) := World.ownsRow_made w #[] 0 (Nat.le_refl _) (Nat.zero_le _) (by simp)
    have HR : Hid (∀ j u, (cellsK cInt l)[j]? = some u → (w.alloc (.cells #[] 3)).cell? (ad.add j) = some u) := fun j u hu => by
      rcases had with rfl | rfl
      · simp [cellsK] at hu
      · rw [Addr.add_lit]; exact (hr.below hbw) j u hu
    have HB : Hid (Below w.heap.size w (w.alloc (.cells #[] 3))) := hbw
    obtain ⟨i0, z, hi, hz, hs, hby, hzs⟩ := tyInt.info
    have HI : Hid (Tryz.prog.info? 3 = some i0 ∧ i0.zero = some z ∧ i0.size = 1 ∧ i0.bytes = 8 ∧ z.cells.size = 1) := ⟨hi, hz, hs, hby, hzs⟩
    have HQ : Hid (0 + l.length ≤ maxLen ∧ (0 + l.length) * 8 ≤ 140737488355328 ∧ w.heap.size ≤ (w.alloc (.cells #[] 3)).heap.size) := ⟨by unfold maxLen; omega, by omega, by simp⟩
    clear h1 had hr hbw hi hz hs hby hzs
    go_enter Tryz.func26, Tryz.ntmps26
    go_wp2_with (at_builtin; (refine wpList_append_own _ rfl _ _ 43 rfl w.heap.size 3 i0 z 1 8 Tryz.underlying43 HI.out.1 HI.out.2.1 HI.out.2.2.1 HI.out.2.2.2.1 HI.out.2.2.2.2 (by omega) _ 0 (cellsK cInt ([] : List Int)) rfl HO.out ad l.length cap (cellsK cInt l) rfl (cellsK_length encInt l) HR.out (cellsK_one encInt l) HQ.out.1 HQ.out.2.1 HQ.out.2.2 ?_; intro v' w1 hown hgrow hnil; have F : Hid (w1.ownsRow w.heap.size 3 1 v' l.length (cellsK cInt l) ∧ Below w.heap.size w w1) := ⟨by rw [Nat.zero_add] at hown; exact hown, HB.out.grown hgrow HQ.out.2.2 (fun k hk => (HO.out.lt k hk).1)⟩; clear hown hgrow hnil))
    go_ret
    exact ⟨_, rfl, F⟩
set_option maxHeartbeats 1000000 in
set_option maxRecDepth 100000 in
theorem deskPlan_any (d : Nat) (D : Dk) (w : World) (hD : Dsk w d D) (hO : DOk D) :
    Calls Tryz.prog 15 #[.pointer (some ⟨d, 0, none⟩)] w fun e w' => ∃ v, e = .returned v ∧ Hid (∃ pl, PlanIs D.p pl ∧ w'.ownsRow w.heap.size 3 1 v pl.length (cellsK cInt pl) ∧ Below w.heap.size w w') := by
  obtain ⟨vs, vp, va, pl, hM⟩ := hD
  have c16 := hM.box.cells.2.2.1
  have hl : pl.length ≤ 17592186044416 := by have := hM.plan.len; have := hO.port.port.len; omega
  have HC := cloneInts_any vp pl w hM.row.sl hl
  have PL : Hid (PlanIs D.p pl) := hM.plan
  obtain ⟨pa, pc, hvp⟩ := hM.row.shape
  subst hvp
  clear hM hl
  go_enter Tryz.func15, Tryz.ntmps15
  go_wp2_with fail
  refine HC.mono ?_
  rintro e w1 ⟨v, rfl, h1⟩
  have R : Hid (∃ pl, PlanIs D.p pl ∧ w1.ownsRow w.heap.size 3 1 v pl.length (cellsK cInt pl) ∧ Below w.heap.size w w1) := ⟨pl, PL.out, h1.out⟩
  clear HC h1
  go_wp2_with fail
  go_ret
  exact ⟨v, rfl, R⟩
set_option maxHeartbeats 2000000 in
set_option maxRecDepth 100000 in
theorem deskPort_any (d : Nat) (D : Dk) (w : World) (hD : Dsk w d D) (hO : DOk D) :
    Calls Tryz.prog 14 #[.pointer (some ⟨d, 0, none⟩)] w fun e w' => ∃ v, e = .returned (.agg (portCells D.p v).toArray) ∧ Hid (w'.ownsRow w.heap.size 46 6 v D.p.ships.length (cellsK cShip D.p.ships) ∧ Below w.heap.size w w') := by
  obtain ⟨vs, vp, va, pl, hM⟩ := hD
  have h4 := hM.box.four
  have on := hM.ships.one
  have HCL := fun W h => cloneShips_any vs D.p.ships W h (by have := hO.port.port.len; omega)
  have HM : Hid (DM w d D vs vp va pl) := hM
  clear hM
  go_enter Tryz.func14, Tryz.ntmps14
  go_upto_region 1 with (refine wpList_alloc_box rfl rfl 2 rfl ?_; intro w1 h1 s1)
  have E1 : Hid (DM w1 d D vs vp va pl ∧ PBox w1 w.heap.size zeroPt (.slice none 0 0) ∧ Below w.heap.size w w1) := ⟨HM.out.later h1.out.2, h1.out.1, h1.out.2⟩
  clear h1 HM
  go_upto_region 4 with (first | (refine wpList_load_desk rfl _ rfl d D.p vs vp va D.n rfl E1.out.1.box ?_) | (refine wpList_alloc_box rfl rfl 3 rfl ?_; intro w2 h2 s2) | (refine wpList_store_box rfl _ _ rfl w1.heap.size zeroPt D.p (.slice none 0 0) vs rfl rfl h2.out.1 h4 on ?_; intro w3 h3 s3))
  have E3 : Hid (SlK cShip w3 vs D.p.ships ∧ PBox w3 w.heap.size zeroPt (.slice none 0 0) ∧ PBox w3 w1.heap.size D.p vs ∧ Below w.heap.size w w3 ∧ w.heap.size < w1.heap.size ∧ w1.heap.size < w3.heap.size) := by
    have hb : Below w1.heap.size w1 w3 := h2.out.2.trans (h3.out.2.2 _ (Nat.le_refl _))
    exact ⟨(E1.out.1.later hb).ships.sl, E1.out.2.1.later hb E1.out.2.1.lt, h3.out.1, E1.out.2.2.trans (hb.mono E1.out.2.2.size), by omega, h3.out.1.lt⟩
  clear h2 h3 s1 s2 s3 E1
  generalize w1.heap.size = g at *
  generalize hz : w.heap.size = z at *
  have c1 := E3.out.2.2.1.cells.2.1
  obtain ⟨sa, sc, hvs⟩ : ∃ a c, vs = .slice a D.p.ships.length c := by obtain ⟨a, c, e, _⟩ := E3.out.1; exact ⟨a, c, e⟩
  subst hvs
  go_wp2_with fail
  refine (HCL _ E3.out.1).mono ?_
  rintro e w4 ⟨v4, rfl, h4o⟩
  obtain ⟨xa, xc, hv4⟩ := ownsRow_slice h4o.out.1
  subst hv4
  have hlt := E3.out.2.2.2.2
  have E4 : Hid (PBox w4 z zeroPt (.slice none 0 0) ∧ PBox w4 g D.p (.slice sa D.p.ships.length sc) ∧ Below z w w4 ∧ w4.ownsRow w3.heap.size 46 6 (.slice xa D.p.ships.length xc) D.p.ships.length (cellsK cShip D.p.ships)) := ⟨E3.out.2.1.later h4o.out.2 E3.out.2.1.lt, E3.out.2.2.1.later h4o.out.2 hlt.2, E3.out.2.2.2.1.trans (h4o.out.2.mono (by omega)), h4o.out.1⟩
  have d1 := E4.out.2.1.cells.2.1
  have f1 := E4.out.2.1.frozen 1
  have E5 : Hid (PBox (w4.setCell ⟨g, 1, none⟩ (.slice xa D.p.ships.length xc)) z zeroPt (.slice none 0 0) ∧ PBox (w4.setCell ⟨g, 1, none⟩ (.slice xa D.p.ships.length xc)) g D.p (.slice xa D.p.ships.length xc) ∧ Below z w (w4.setCell ⟨g, 1, none⟩ (.slice xa D.p.ships.length xc)) ∧ (w4.setCell ⟨g, 1, none⟩ (.slice xa D.p.ships.length xc)).ownsRow w3.heap.size 46 6 (.slice xa D.p.ships.length xc) D.p.ships.length (cellsK cShip D.p.ships)) := by
    refine ⟨E4.out.1.other 1 _ (by omega), E4.out.2.1.setShips D.p.ships _, E4.out.2.2.1.setCell (by show z ≤ g; omega) _, ownsRow_same E4.out.2.2.2 fun k hk => Below.heap_setCell _ _ _ _ (by show k ≠ g; omega)⟩
  clear h4o HCL c1 E3
  go_upto_region 5 with fail
  clear d1 f1 E4
  generalize w4.setCell ⟨g, 1, none⟩ (.slice xa D.p.ships.length xc) = W5 at *
  go_wp2_with (first | (refine wpList_load_box rfl _ rfl g D.p (.slice xa D.p.ships.length xc) rfl E5.out.2.1 ?_) | (refine wpList_store_box rfl _ _ rfl z zeroPt D.p (.slice none 0 0) (.slice xa D.p.ships.length xc) rfl rfl E5.out.1 h4 rfl ?_; intro w6 h6 s6))
  refine bodyPost_ret (v := .agg (portCells D.p (.slice xa D.p.ships.length xc)).toArray) (results_box Tryz.results14 _ _ z D.p (.slice xa D.p.ships.length xc) rfl h6.out.1) rfl ?_
  refine ⟨_, rfl, ⟨?_, ?_⟩⟩
  · rw [hz]
    exact ownsRow_mono (ownsRow_same E5.out.2.2.2 fun k hk => h6.out.2.1 k (by omega)) (by omega)
  · rw [hz]
    exact E5.out.2.2.1.trans (h6.out.2.2 _ (Nat.le_refl _))
end Go.Proofs.YtcmdoeledmkfmacGreatDoor
