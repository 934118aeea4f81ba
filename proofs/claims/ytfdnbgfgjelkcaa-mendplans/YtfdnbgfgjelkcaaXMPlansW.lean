/- Texts of this claim, in one: MPlansW. -/
import Derived.Test.YtfdnbgfgjelkcaaXMMends
import Derived.Test.YtfdnbgfgjelkcaaQ7
import Derived.Test.YtfdnbgfgjelkcaaQC
import Derived.Test.YtfdnbgfgjelkcaaQB
import Derived.Test.YtfdnbgfgjelkcaaQA
/- MendPlans' walk: the plan of one port mended for another one is that one's plan. -/
set_option linter.unusedSimpArgs false
set_option linter.unusedVariables false
namespace Go.Proofs.Ytfdnbgfgjelkcaa
open Go.RowKit


theorem refIsPort_yes (v : Value) (p : Pt) (w : World) (hv : PtV w v p) (hp : IsPort p) : Calls Try.prog 31 #[v] w fun e w' => e = .returned (.bool true) ∧ Below w.heap.size w w' :=
  (refIsPort_any v p w hv).mono (by
    rintro e w' ⟨⟨b, rfl, hb⟩, hw⟩
    exact ⟨by rw [hb.2 hp], hw⟩)
theorem refIsPort_not (v : Value) (p : Pt) (w : World) (hv : PtV w v p) (hp : ¬ IsPort p) : Calls Try.prog 31 #[v] w fun e w' => e = .returned (.bool false) ∧ Below w.heap.size w w' :=
  (refIsPort_any v p w hv).mono (by
    rintro e w' ⟨⟨b, rfl, hb⟩, hw⟩
    refine ⟨?_, hw⟩
    cases b
    · rfl
    · exact absurd (hb.1 rfl) hp)

/-- two lists of one plan are alike -/
theorem samePlan_yes {q : Pt} {v1 v2 : Value} {w : World} (h0 : 0 ≤ q.now) (hl : q.ships.length < 15) (h1 : ∃ x, PlanIs q x ∧ SlK cInt w v1 x) (h2 : ∃ x, PlanIs q x ∧ SlK cInt w v2 x) : Calls Try.prog 39 #[v1, v2] w fun e w' => e = .returned (.bool true) ∧ Below w.heap.size w w' := by
  obtain ⟨x, a1, a2⟩ := h1
  obtain ⟨y, b1, b2⟩ := h2
  have e := a1.unique h0 b1
  subst e
  have hx := a1.len
  refine (sameI_any v1 v2 x x w a2 b2 (by omega) (by omega)).mono ?_
  rintro e w' ⟨rfl, hb⟩
  exact ⟨by rw [decide_eq_true rfl], hb⟩

set_option maxHeartbeats 8000000 in
set_option maxRecDepth 100000 in
theorem mendPlans_any (v : Value) (p : Pt) (u : Value) (q : Pt) (w : World) (hv : PtV w v p) (hf : WfP p) (hu : PtV w u q) (hg : WfP q) :
    Calls Try.prog 13 #[v, u] w fun e w' => e = .returned (.bool true) ∧ Below w.heap.size w w' := by
  obtain ⟨vs, rfl, hsl, h4, hmx⟩ := hv
  obtain ⟨us, rfl, hul, u4, umx⟩ := hu
  have HV : Hid (PtV w (.agg (portCells p vs).toArray) p) := ⟨vs, rfl, hsl, h4, hmx⟩
  have HU : Hid (PtV w (.agg (portCells q us).toArray) q) := ⟨us, rfl, hul, u4, umx⟩
  have X1 := PBox.new w p vs h4
  have X2 := PBox.new (w.alloc (.cells (portCells p vs).toArray 46)) q us u4
  have IP := fun W h hp => refIsPort_yes (.agg (portCells p vs).toArray) p W h hp
  have IQ := fun W h hq => refIsPort_yes (.agg (portCells q us).toArray) q W h hq
  have NP := fun W h hp => refIsPort_not (.agg (portCells p vs).toArray) p W h hp
  have NQ := fun W h hq => refIsPort_not (.agg (portCells q us).toArray) q W h hq
  have HCP := fun W h => refCopy_any (.agg (portCells p vs).toArray) p W h
  have HCQ := fun W h => refCopy_any (.agg (portCells q us).toArray) q W h
  have HPP0 := fun W h hp => refPlan_any (.agg (portCells p vs).toArray) p W h hp
  have HPQ0 := fun W h hq => refPlan_any (.agg (portCells q us).toArray) q W h hq
  have HRQ0 := fun W h hq => refRanked_any (.agg (portCells q us).toArray) q W h hq
  clear hsl hul
  generalize hPC : (portCells p vs).toArray = PC at *
  generalize hQC : (portCells q us).toArray = QC at *
  have HPC : Hid ((portCells p vs).toArray = PC) := hPC
  have HQC : Hid ((portCells q us).toArray = QC) := hQC
  clear hPC hQC
  have hz1 : (w.alloc (.cells PC 46)).heap.size = w.heap.size + 1 := by simp
  rw [hz1] at X2
  have X0 : Hid (PBox ((w.alloc (.cells PC 46)).alloc (.cells QC 46)) w.heap.size p vs ∧ PBox ((w.alloc (.cells PC 46)).alloc (.cells QC 46)) (w.heap.size + 1) q us) := ⟨X1.later ((Below.refl _ _).alloc (Nat.le_refl _) _) X1.lt, X2⟩
  have B0 : Hid (Below w.heap.size w ((w.alloc (.cells PC 46)).alloc (.cells QC 46))) := ((Below.refl _ w).alloc (Nat.le_refl _) _).alloc (by omega) _
  clear X1 X2
  generalize hW0 : (w.alloc (.cells PC 46)).alloc (.cells QC 46) = W0 at *
  by_cases hp : IsPort p
  case neg =>
    clear IP IQ NQ HCP HCQ HPP0 HPQ0 HRQ0
    go_enter Try.func13, Try.ntmps13
    go_wp2_with (refine wpList_load_box rfl _ rfl w.heap.size p vs rfl X0.out.1 ?_; rw [HPC.out])
    refine (NP _ (HV.out.below B0.out) hp).mono ?_
    rintro e w1 ⟨rfl, hw1⟩
    have E1 : Hid (Below w.heap.size w w1) := B0.out.trans (hw1.mono (by have := X0.out.1.lt; omega))
    clear hw1 X0 B0
    go_wp2_with fail
    refine (lawMends_any w1).mono ?_
    rintro e w2 ⟨rfl, hw2⟩
    have B2 : Hid (Below w.heap.size w w2) := E1.out.trans (hw2.mono E1.out.size)
    go_wp2_with fail
    go_ret
    exact ⟨rfl, B2.out⟩
  by_cases hq : IsPort q
  case neg =>
    clear IQ NP HCP HCQ HPP0 HPQ0 HRQ0
    go_enter Try.func13, Try.ntmps13
    go_wp2_with (refine wpList_load_box rfl _ rfl w.heap.size p vs rfl X0.out.1 ?_; rw [HPC.out])
    refine (IP _ (HV.out.below B0.out) hp).mono ?_
    rintro e w0 ⟨rfl, hw0⟩
    have Y0 : Hid (PBox w0 (w.heap.size + 1) q us ∧ Below w.heap.size w w0) := ⟨X0.out.2.later hw0 X0.out.2.lt, B0.out.trans (hw0.mono (by have := X0.out.1.lt; omega))⟩
    clear hw0
    go_wp2_with (first | (refine wpList_load_box_g (by first | rfl | (simp [Region.wanted, yielded]; done)) _ rfl (w.heap.size + 1) q us rfl Y0.out.1 ?_; rw [HQC.out]) | (go_at_call 31; refine (NQ _ (HU.out.below Y0.out.2) hq).mono ?_; rintro e w1 ⟨rfl, hw1⟩; have E1 : Hid (Below w.heap.size w w1) := Y0.out.2.trans (hw1.mono (by have := Y0.out.1.lt; omega)); clear hw1) | (go_at_call 51; refine (lawMends_any _).mono ?_; rintro e w2 ⟨rfl, hw2⟩; have B2 : Hid (Below w.heap.size w w2) := E1.out.trans (hw2.mono E1.out.size); clear hw2))
    go_ret
    exact ⟨rfl, B2.out⟩
  have HPI : Hid (IsPort p ∧ IsPort q) := ⟨hp, hq⟩
  have HPP := fun W h => HPP0 W h hp
  have HPQ := fun W h => HPQ0 W h hq
  have HRQ := fun W h => HRQ0 W h hq.port
  have hlen : q.ships.length < 15 := hq.port.len
  obtain ⟨hnow, _⟩ := hq.port.now
  clear NP NQ HPP0 HPQ0 HRQ0
  go_enter Try.func13, Try.ntmps13
  go_wp2_with (refine wpList_load_box rfl _ rfl w.heap.size p vs rfl X0.out.1 ?_; rw [HPC.out])
  refine (IP _ (HV.out.below B0.out) hp).mono ?_
  rintro e w0 ⟨rfl, hw0⟩
  have Y0 : Hid (PBox w0 w.heap.size p vs ∧ PBox w0 (w.heap.size + 1) q us ∧ Below w.heap.size w w0) := ⟨X0.out.1.later hw0 X0.out.1.lt, X0.out.2.later hw0 X0.out.2.lt, B0.out.trans (hw0.mono (by have := X0.out.1.lt; omega))⟩
  clear hw0 X0 B0
  go_upto_region 3 with (first | (refine wpList_load_box_g (by first | rfl | (simp [Region.wanted, yielded]; done)) _ rfl (w.heap.size + 1) q us rfl Y0.out.2.1 ?_; rw [HQC.out]) | (go_at_call 31; refine (IQ _ (HU.out.below Y0.out.2.2) hq).mono ?_; rintro e w1 ⟨rfl, hw1⟩; have E1 : Hid (PBox w1.drew w.heap.size p vs ∧ PBox w1.drew (w.heap.size + 1) q us ∧ PtV w1.drew (.agg PC) p ∧ PtV w1.drew (.agg QC) q ∧ Below w.heap.size w w1.drew) := (by have hd : Below w0.heap.size w0 w1.drew := hw1.drew; have hb : Below w.heap.size w w1.drew := Y0.out.2.2.trans (hd.mono (by have := Y0.out.1.lt; omega)); exact ⟨Y0.out.1.later hd Y0.out.1.lt, Y0.out.2.1.later hd Y0.out.2.1.lt, HV.out.below hb, HU.out.below hb, hb⟩); clear hw1))
  clear IP IQ Y0 HV HU
  generalize hz : w.heap.size = z at *
  refine wp_region_held_drew (S := fun W => Hid (PBox W z p vs ∧ PBox W (z + 1) q us ∧ PtV W (.agg PC) p ∧ PtV W (.agg QC) q ∧ Below z w W)) (by kernel_rfl) E1 (fun hHeld => ?_)
  refine wpAnyH_take (i := 0) (oi := { dst := some 17, op := Op.load 46 (Operand.tmp 2), type := 46, pos := "law.go:113", after := #[], guard := none }) (v := .agg PC) rfl (by kernel_rfl) (by kernel_rfl) (by kernel_rfl) (fun _ _ _ h => h) (by rw [← HPC.out]; exact yieldsIf_load_mid (by rfl) 46 (.tmp 2) rfl z 0 rfl (portCells p vs) _ (fun W hW => hW.out.1.whole) Try.underlying46 rfl (portInfo p _ h4)) hHeld ?_
  simp only [Act.put, List.setIfInBounds_toArray, List.set_cons_zero, List.set_cons_succ]
  refine wpAnyH_take (i := 2) (oi := { dst := some 19, op := Op.load 46 (Operand.tmp 3), type := 46, pos := "law.go:113", after := #[], guard := none }) (v := .agg QC) rfl (by kernel_rfl) (by kernel_rfl) (by kernel_rfl) (fun _ _ _ h => h) (by rw [← HQC.out]; exact yieldsIf_load_mid (by rfl) 46 (.tmp 3) rfl (z + 1) 0 rfl (portCells q us) _ (fun W hW => hW.out.2.1.whole) Try.underlying46 rfl (portInfo q _ u4)) hHeld ?_
  simp only [Act.put, List.setIfInBounds_toArray, List.set_cons_zero, List.set_cons_succ]
  refine wpAnyH_take (i := 4) (oi := { dst := some 21, op := Op.load 46 (Operand.tmp 2), type := 46, pos := "law.go:113", after := #[], guard := none }) (v := .agg PC) rfl (by kernel_rfl) (by kernel_rfl) (by kernel_rfl) (fun _ _ _ h => h) (by rw [← HPC.out]; exact yieldsIf_load_mid (by rfl) 46 (.tmp 2) rfl z 0 rfl (portCells p vs) _ (fun W hW => hW.out.1.whole) Try.underlying46 rfl (portInfo p _ h4)) hHeld ?_
  simp only [Act.put, List.setIfInBounds_toArray, List.set_cons_zero, List.set_cons_succ]
  refine wpAnyH_ready (rs := [1]) (by kernel_rfl) (by simp) ?_
  refine AllReadyH.cons rfl (fun K hK => ?_) AllReadyH.nil
  go_simp
  refine (HCP _ hHeld.out.2.2.1).mono ?_
  rintro e wa ⟨va, rfl, hca, hba⟩
  have EA : Hid (PBox wa z p vs ∧ PBox wa (z + 1) q us ∧ PtV wa (.agg PC) p ∧ PtV wa (.agg QC) q ∧ Below z w wa) := ⟨hHeld.out.1.later hba hHeld.out.1.lt, hHeld.out.2.1.later hba hHeld.out.2.1.lt, hHeld.out.2.2.1.below hba, hHeld.out.2.2.2.1.below hba, hHeld.out.2.2.2.2.trans (hba.mono (by have := hHeld.out.1.lt; omega))⟩
  have FA : Hid (PtV wa (.agg (portCells p va).toArray) p) := ⟨va, rfl, slK_ofRow hca, h4, hmx⟩
  clear hba hHeld hca
  generalize (portCells p va).toArray = P1 at *
  go_wp2_with fail
  refine hK.out _ _ EA (fun hHeld => ?_)
  clear hK K
  refine wpAnyH_ready (rs := [3]) (by kernel_rfl) (by simp) ?_
  refine AllReadyH.cons rfl (fun K hK => ?_) AllReadyH.nil
  go_simp
  refine (HCQ _ hHeld.out.2.2.2.1).mono ?_
  rintro e wb ⟨vb, rfl, hcb, hbb⟩
  have EB : Hid (PBox wb z p vs ∧ PBox wb (z + 1) q us ∧ PtV wb (.agg PC) p ∧ PtV wb (.agg QC) q ∧ Below z w wb) := ⟨hHeld.out.1.later hbb hHeld.out.1.lt, hHeld.out.2.1.later hbb hHeld.out.2.1.lt, hHeld.out.2.2.1.below hbb, hHeld.out.2.2.2.1.below hbb, hHeld.out.2.2.2.2.trans (hbb.mono (by have := hHeld.out.1.lt; omega))⟩
  have FB : Hid (PtV wb (.agg P1) p ∧ PtV wb (.agg (portCells q vb).toArray) q) := ⟨FA.out.below hbb, ⟨vb, rfl, slK_ofRow hcb, u4, umx⟩⟩
  clear hbb hHeld hcb FA EA
  generalize (portCells q vb).toArray = Q1 at *
  go_wp2_with fail
  refine hK.out _ _ EB (fun hHeld => ?_)
  clear hK K
  refine wpAnyH_ready (rs := [5]) (by kernel_rfl) (by simp) ?_
  refine AllReadyH.cons rfl (fun K hK => ?_) AllReadyH.nil
  go_simp
  refine (HPP _ hHeld.out.2.2.1).mono ?_
  rintro e wd ⟨⟨vd, rfl, hvd⟩, hbd⟩
  have ED : Hid (PBox wd z p vs ∧ PBox wd (z + 1) q us ∧ PtV wd (.agg PC) p ∧ PtV wd (.agg QC) q ∧ Below z w wd) := ⟨hHeld.out.1.later hbd hHeld.out.1.lt, hHeld.out.2.1.later hbd hHeld.out.2.1.lt, hHeld.out.2.2.1.below hbd, hHeld.out.2.2.2.1.below hbd, hHeld.out.2.2.2.2.trans (hbd.mono (by have := hHeld.out.1.lt; omega))⟩
  have FD : Hid (PtV wd (.agg P1) p ∧ PtV wd (.agg Q1) q ∧ ∃ x, PlanIs p x ∧ SlK cInt wd vd x) := ⟨FB.out.1.below hbd, FB.out.2.below hbd, hvd.out⟩
  clear hbd hHeld hvd FB EB
  go_wp2_with fail
  refine hK.out _ _ ED (fun hHeld => ?_)
  clear hK K
  obtain ⟨pl, hpl, hsd⟩ := FD.out.2.2
  refine wpAnyH_ready (rs := [6]) (by kernel_rfl) (by simp) ?_
  refine AllReadyH.cons rfl (fun K hK => ?_) AllReadyH.nil
  go_simp
  refine (mendPlan_any (.agg P1) (.agg Q1) vd p q pl _ FD.out.1 FD.out.2.1 HPI.out.1 HPI.out.2 hsd hpl).mono ?_
  rintro e we ⟨ve, ne, rfl, hve⟩
  have EE : Hid (PBox we z p vs ∧ PBox we (z + 1) q us ∧ PtV we (.agg PC) p ∧ PtV we (.agg QC) q ∧ Below z w we) := ⟨hHeld.out.1.later hve.out.2.2.2 hHeld.out.1.lt, hHeld.out.2.1.later hve.out.2.2.2 hHeld.out.2.1.lt, hHeld.out.2.2.1.below hve.out.2.2.2, hHeld.out.2.2.2.1.below hve.out.2.2.2, hHeld.out.2.2.2.2.trans (hve.out.2.2.2.mono (by have := hHeld.out.1.lt; omega))⟩
  have FE : Hid (∃ x, PlanIs q x ∧ SlK cInt we ve x) := hve.out.1
  have FN : Hid (0 ≤ ne ∧ ∃ rk, RankedIs q rk ∧ ne ≤ rk.length) := hve.out.2.1
  clear hve hHeld hsd hpl FD ED
  go_wp2_with fail
  refine hK.out _ _ EE (fun hHeld => ?_)
  clear hK K
  obtain ⟨ae, be, ce, hve⟩ : ∃ a b c, ve = .slice a b c := by obtain ⟨x, _, a, c, e, _⟩ := FE.out; exact ⟨a, _, c, e⟩
  subst hve
  refine wpAnyH_take (i := 7) (oi := { dst := some 16, op := Op.move (Operand.tmp 23), type := 71, pos := "law.go:113", after := #[{ on := 6, ground := Ground.data }], guard := none }) (v := .tuple #[.slice ae be ce, .int .i64 ne]) rfl (by kernel_rfl) (by kernel_rfl) (by kernel_rfl) (fun _ _ _ h => h) (Or.inl ⟨by rfl, by intro w hSw; go_simp⟩) hHeld ?_
  simp only [Act.put, List.setIfInBounds_toArray, List.set_cons_zero, List.set_cons_succ]
  refine wpAnyH_take (i := 8) (oi := { dst := some 24, op := Op.extract (Operand.tmp 16) 0, type := 57, pos := "law.go:113", after := #[{ on := 7, ground := Ground.data }], guard := none }) (v := .slice ae be ce) rfl (by kernel_rfl) (by kernel_rfl) (by kernel_rfl) (fun _ _ _ h => h) (Or.inl ⟨by rfl, by intro w hSw; go_simp⟩) hHeld ?_
  simp only [Act.put, List.setIfInBounds_toArray, List.set_cons_zero, List.set_cons_succ]
  refine wpAnyH_take (i := 9) (oi := { dst := some 25, op := Op.extract (Operand.tmp 16) 1, type := 3, pos := "law.go:113", after := #[{ on := 7, ground := Ground.data }, { on := 10, ground := Ground.gcOnly Departure.lateStores }], guard := none }) (v := .int .i64 ne) rfl (by kernel_rfl) (by kernel_rfl) (by kernel_rfl) (fun _ _ _ h => h) (Or.inl ⟨by rfl, by intro w hSw; go_simp⟩) hHeld ?_
  simp only [Act.put, List.setIfInBounds_toArray, List.set_cons_zero, List.set_cons_succ]
  refine wpAnyH_take (i := 10) (oi := { dst := some 5, op := Op.assign (Operand.tmp 24), type := 57, pos := "law.go:113", after := #[{ on := 8, ground := Ground.data }, { on := 6, ground := Ground.chain }, { on := 0, ground := Ground.phase }, { on := 1, ground := Ground.phase }, { on := 2, ground := Ground.phase }, { on := 3, ground := Ground.phase }, { on := 4, ground := Ground.phase }, { on := 5, ground := Ground.phase }, { on := 6, ground := Ground.phase }, { on := 7, ground := Ground.phase }, { on := 8, ground := Ground.phase }, { on := 9, ground := Ground.textOnly Departure.lateStores }], guard := none }) (v := .slice ae be ce) rfl (by kernel_rfl) (by kernel_rfl) (by kernel_rfl) (fun _ _ _ h => h) (Or.inl ⟨by rfl, by intro w hSw; go_simp⟩) hHeld ?_
  simp only [Act.put, List.setIfInBounds_toArray, List.set_cons_zero, List.set_cons_succ]
  refine wpAnyH_take (i := 11) (oi := { dst := some 6, op := Op.assign (Operand.tmp 25), type := 3, pos := "law.go:113", after := #[{ on := 9, ground := Ground.data }, { on := 10, ground := Ground.chain }, { on := 0, ground := Ground.phase }, { on := 1, ground := Ground.phase }, { on := 2, ground := Ground.phase }, { on := 3, ground := Ground.phase }, { on := 4, ground := Ground.phase }, { on := 5, ground := Ground.phase }, { on := 6, ground := Ground.phase }, { on := 7, ground := Ground.phase }, { on := 8, ground := Ground.phase }, { on := 9, ground := Ground.phase }, { on := 10, ground := Ground.phase }], guard := none }) (v := .int .i64 ne) rfl (by kernel_rfl) (by kernel_rfl) (by kernel_rfl) (fun _ _ _ h => h) (Or.inl ⟨by rfl, by intro w hSw; go_simp⟩) hHeld ?_
  simp only [Act.put, List.setIfInBounds_toArray, List.set_cons_zero, List.set_cons_succ]
  refine wpAnyH_done (by kernel_rfl) ?_ _
  clear hHeld HCP HCQ HPP E1
  go_wp2_with (refine wpList_load_box rfl _ rfl (z + 1) q us rfl EE.out.2.1 ?_; rw [HQC.out])
  refine (HPQ _ EE.out.2.2.2.1).mono ?_
  rintro e w5 ⟨⟨v5, rfl, h5⟩, hb5⟩
  have SI := samePlan_yes hnow hlen (v1 := .slice ae be ce) (v2 := v5) (w := w5) (by obtain ⟨x, h1, h2⟩ := FE.out; exact ⟨x, h1, h2.below hb5⟩) h5.out
  have E5 : Hid (PBox w5 z p vs ∧ PBox w5 (z + 1) q us ∧ PtV w5 (.agg PC) p ∧ PtV w5 (.agg QC) q ∧ Below z w w5) := ⟨EE.out.1.later hb5 EE.out.1.lt, EE.out.2.1.later hb5 EE.out.2.1.lt, EE.out.2.2.1.below hb5, EE.out.2.2.2.1.below hb5, EE.out.2.2.2.2.trans (hb5.mono (by have := EE.out.1.lt; omega))⟩
  obtain ⟨a5, n5, c5, rfl⟩ : ∃ a b c, v5 = .slice a b c := by obtain ⟨x, _, a, c, e, _⟩ := h5.out; exact ⟨a, _, c, e⟩
  clear hb5 h5 FE EE HPQ
  go_wp2_with fail
  refine SI.mono ?_
  rintro e w6 ⟨rfl, hb6⟩
  have E6 : Hid (PBox w6 z p vs ∧ PBox w6 (z + 1) q us ∧ PtV w6 (.agg PC) p ∧ PtV w6 (.agg QC) q ∧ Below z w w6) := ⟨E5.out.1.later hb6 E5.out.1.lt, E5.out.2.1.later hb6 E5.out.2.1.lt, E5.out.2.2.1.below hb6, E5.out.2.2.2.1.below hb6, E5.out.2.2.2.2.trans (hb6.mono (by have := E5.out.1.lt; omega))⟩
  clear hb6 E5 SI
  have n0 : (0 : Int) ≤ ne := FN.out.1
  go_wp2_with (first | (refine wpList_load_box_g (by first | rfl | (simp [Region.wanted, yielded]; done)) _ rfl (z + 1) q us rfl E6.out.2.1 ?_; rw [HQC.out]) | (go_at_call 41; refine (HRQ _ E6.out.2.2.2.1).mono ?_; rintro e w7 ⟨⟨v7, rfl, h7⟩, hb7⟩; have E7 : Hid (Below z w w7) := E6.out.2.2.2.2.trans (hb7.mono (by have := E6.out.1.lt; omega)); obtain ⟨rk, hrk, hrow⟩ := h7.out; obtain ⟨x7, c7, hv7⟩ := ownsRow_slice hrow; rw [ints_len] at hv7; subst hv7; have nle : ne ≤ (rk.length : Int) := (by obtain ⟨_, rk2, h1, h2⟩ := FN.out; rw [hrk.unique h1]; exact h2); clear hb7 h7 hrk hrow) | (go_at_call 51; refine (lawMends_any _).mono ?_; rintro e w8 ⟨rfl, hw8⟩; have B8 : Hid (Below z w w8) := E7.out.trans (hw8.mono (by have := E7.out.size; omega)); clear hw8))
  go_ret
  exact ⟨rfl, by rw [hz]; exact B8.out⟩

end Go.Proofs.Ytfdnbgfgjelkcaa
