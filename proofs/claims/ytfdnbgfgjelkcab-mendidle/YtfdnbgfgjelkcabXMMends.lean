/- Texts of this claim, in one: MMends. -/
import Derived.Test.YtfdnbgfgjelkcabQG
/- Does mend answer at all: the statements' own first look at package mend. -/
set_option linter.unusedSimpArgs false
set_option linter.unusedVariables false
namespace Go.Proofs.Ytfdnbgfgjelkcab
open Go.RowKit

theorem planIs_zero : PlanIs zeroPt [] := ⟨rfl, fun i hi => absurd hi (by show ¬ i < 0; omega), [], ⟨fun i => ⟨fun h => (by cases h), fun h => absurd h.1 (by show ¬ i < 0; omega)⟩, List.Pairwise.nil⟩, chain_nil _ _ _⟩

theorem one_rank {rk : List Nat} (h : RankedIs onePt rk) : rk.length ≤ 1 := by have := h.len; exact this

theorem rd_one {w : World} {a : Option Addr} (h : ([0] : List Int) = [] ∨ ∃ b off, a = some ⟨b, off, none⟩ ∧ RdK cInt w b off [0]) : ∃ b off, a = some ⟨b, off, none⟩ ∧ RdK cInt w b off [0] := by
  rcases h with h | h
  · cases h
  · exact h

set_option maxHeartbeats 4000000 in
set_option maxRecDepth 100000 in
theorem keepMends_any (w : World) : Calls Try.prog 5 #[] w fun e w' => e = .returned (.bool true) ∧ Below w.heap.size w w' := by
  have HN := newPort_any w
  have HT := tell_zero
  generalize hZC : (portCells zeroPt (.slice none 0 0)).toArray = ZC at HN HT
  clear hZC
  go_enter Try.func5, Try.ntmps5
  go_wp2_with fail
  refine HN.mono ?_
  rintro e w1 ⟨rfl, hw1⟩
  go_wp2_with fail
  refine (HT w1).mono ?_
  rintro e w2 ⟨vs, rfl, hw2⟩
  have D2 : Hid (Below w.heap.size w w2) := hw1.trans (hw2.out.2.mono hw1.size)
  have V2 : Hid (PtV w2 (.agg (portCells onePt vs).toArray) onePt) := hw2.out.1
  have on : vs.oneCell' = true := by
    obtain ⟨vs', e, h, _⟩ := hw2.out.1
    have : vs = vs' := by
      have h1 := congrArg (fun v => match v with | .agg c => c[1]? | _ => none) e
      simpa [portCells] using h1
    subst this
    obtain ⟨a, cap, rfl, _⟩ := h
    rfl
  have HMP := fun W h1 h2 => mendPlan_any (.agg (portCells zeroPt (.slice none 0 0)).toArray) (.agg (portCells onePt vs).toArray) (.slice none 0 0) zeroPt onePt [] W h1 h2 isPort_zero isPort_one (SlK.nil W) planIs_zero
  clear HN HT hw1 hw2
  generalize hOC : (portCells onePt vs).toArray = OC at *
  have HOC : Hid ((portCells onePt vs).toArray = OC) := hOC
  clear hOC
  go_upto_region 2 with (first | (refine wpList_alloc_box rfl rfl 1 rfl ?_; intro w3 hw3 hs3) | (refine wpList_store_box rfl _ _ rfl w2.heap.size zeroPt onePt (.slice none 0 0) vs rfl (by show Value.agg OC = _; rw [HOC.out]) hw3.out.1 rfl on ?_; intro w4 hw4 hs4))
  have E4 : Hid (PBox w4 w2.heap.size onePt vs ∧ PtV w4 (.agg OC) onePt ∧ Below w.heap.size w w4) := by
    have hb : Below w2.heap.size w2 w4 := hw3.out.2.trans (hw4.out.2.2 _ (Nat.le_refl _))
    exact ⟨hw4.out.1, V2.out.below hb, D2.out.trans (hb.mono D2.out.size)⟩
  generalize w2.heap.size = g at *
  have ED : Hid (PBox w4.drew g onePt vs ∧ PtV w4.drew (.agg OC) onePt ∧ Below w.heap.size w w4.drew) := ⟨E4.out.1.later ((Below.refl _ w4).drew) E4.out.1.lt, E4.out.2.1.below ((Below.refl _ w4).drew), E4.out.2.2.drew⟩
  clear hw3 hw4 hs3 hs4 V2 D2 E4
  refine wp_region_held_drew (S := fun W => Hid (PBox W g onePt vs ∧ PtV W (.agg OC) onePt ∧ Below w.heap.size w W)) (by kernel_rfl) ED (fun hHeld => ?_)
  refine wpAnyH_take (i := 1) (oi := { dst := some 15, op := Op.load 27 (Operand.tmp 1), type := 27, pos := "keep.go:190", after := #[], guard := none }) (v := .agg OC) rfl (by kernel_rfl) (by kernel_rfl) (by kernel_rfl) (fun _ _ _ h => h) (by rw [← HOC.out]; exact yieldsIf_load_mid (by rfl) 27 (.tmp 1) rfl g 0 rfl (portCells onePt vs) _ (fun W hW => hW.out.1.whole) Try.underlying27 rfl (portInfo onePt _ rfl)) hHeld ?_
  simp only [Act.put, List.setIfInBounds_toArray, List.set_cons_zero, List.set_cons_succ]
  refine wpAnyH_ready (rs := [0]) (by kernel_rfl) (by simp) ?_
  refine AllReadyH.cons rfl (fun K hK => ?_) AllReadyH.nil
  go_simp
  refine (newPort_any _).mono ?_
  rintro e wa ⟨rfl, hba⟩
  have EA : Hid (PBox wa g onePt vs ∧ PtV wa (.agg OC) onePt ∧ Below w.heap.size w wa) := ⟨hHeld.out.1.later hba hHeld.out.1.lt, hHeld.out.2.1.below hba, hHeld.out.2.2.trans (hba.mono hHeld.out.2.2.size)⟩
  clear hba hHeld
  go_wp2_with fail
  refine hK.out _ _ EA (fun hHeld => ?_)
  clear hK K
  refine wpAnyH_ready (rs := [2]) (by kernel_rfl) (by simp) ?_
  refine AllReadyH.cons rfl (fun K hK => ?_) AllReadyH.nil
  go_simp
  refine (HMP _ (ptv_zero _) hHeld.out.2.1).mono ?_
  rintro e wb ⟨vb, nb, rfl, hb⟩
  have EB : Hid (PBox wb g onePt vs ∧ PtV wb (.agg OC) onePt ∧ Below w.heap.size w wb) := ⟨hHeld.out.1.later hb.out.2.2.2 hHeld.out.1.lt, hHeld.out.2.1.below hb.out.2.2.2, hHeld.out.2.2.trans (hb.out.2.2.2.mono hHeld.out.2.2.size)⟩
  obtain ⟨pl, hpl, hsl⟩ := hb.out.1
  obtain rfl := plan_one hpl
  obtain ⟨n0, rkb, hrb, n1⟩ := hb.out.2.1
  have n2 : nb ≤ 1 := by have := one_rank hrb; omega
  obtain ⟨a5, cap5, rfl, _, hrd⟩ := hsl
  obtain ⟨b5, off5, rfl, hr5⟩ := rd_one hrd
  have c5 : wb.cell? ⟨b5, off5, none⟩ = some (.int .i64 0) := by simpa using hr5.int (j := 0) rfl
  clear hb hHeld hrd hpl hr5
  go_wp2_with fail
  refine hK.out _ _ EB (fun hHeld => ?_)
  clear hK K
  refine wpAnyH_take (i := 3) (oi := { dst := some 13, op := Op.move (Operand.tmp 16), type := 31, pos := "keep.go:190", after := #[{ on := 2, ground := Ground.data }], guard := none }) (v := .tuple #[.slice (some ⟨b5, off5, none⟩) 1 cap5, .int .i64 nb]) rfl (by kernel_rfl) (by kernel_rfl) (by kernel_rfl) (fun _ _ _ h => h) (Or.inl ⟨by rfl, by intro w hSw; go_simp⟩) hHeld ?_
  simp only [Act.put, List.setIfInBounds_toArray, List.set_cons_zero, List.set_cons_succ]
  refine wpAnyH_take (i := 4) (oi := { dst := some 17, op := Op.extract (Operand.tmp 13) 0, type := 30, pos := "keep.go:190", after := #[{ on := 3, ground := Ground.data }], guard := none }) (v := .slice (some ⟨b5, off5, none⟩) 1 cap5) rfl (by kernel_rfl) (by kernel_rfl) (by kernel_rfl) (fun _ _ _ h => h) (Or.inl ⟨by rfl, by intro w hSw; go_simp⟩) hHeld ?_
  simp only [Act.put, List.setIfInBounds_toArray, List.set_cons_zero, List.set_cons_succ]
  refine wpAnyH_take (i := 5) (oi := { dst := some 18, op := Op.extract (Operand.tmp 13) 1, type := 3, pos := "keep.go:190", after := #[{ on := 3, ground := Ground.data }, { on := 6, ground := Ground.gcOnly Departure.lateStores }], guard := none }) (v := .int .i64 nb) rfl (by kernel_rfl) (by kernel_rfl) (by kernel_rfl) (fun _ _ _ h => h) (Or.inl ⟨by rfl, by intro w hSw; go_simp⟩) hHeld ?_
  simp only [Act.put, List.setIfInBounds_toArray, List.set_cons_zero, List.set_cons_succ]
  refine wpAnyH_take (i := 6) (oi := { dst := some 4, op := Op.assign (Operand.tmp 17), type := 30, pos := "keep.go:190", after := #[{ on := 4, ground := Ground.data }, { on := 2, ground := Ground.chain }, { on := 0, ground := Ground.phase }, { on := 1, ground := Ground.phase }, { on := 2, ground := Ground.phase }, { on := 3, ground := Ground.phase }, { on := 4, ground := Ground.phase }, { on := 5, ground := Ground.textOnly Departure.lateStores }], guard := none }) (v := .slice (some ⟨b5, off5, none⟩) 1 cap5) rfl (by kernel_rfl) (by kernel_rfl) (by kernel_rfl) (fun _ _ _ h => h) (Or.inl ⟨by rfl, by intro w hSw; go_simp⟩) hHeld ?_
  simp only [Act.put, List.setIfInBounds_toArray, List.set_cons_zero, List.set_cons_succ]
  refine wpAnyH_take (i := 7) (oi := { dst := some 5, op := Op.assign (Operand.tmp 18), type := 3, pos := "keep.go:190", after := #[{ on := 5, ground := Ground.data }, { on := 6, ground := Ground.chain }, { on := 0, ground := Ground.phase }, { on := 1, ground := Ground.phase }, { on := 2, ground := Ground.phase }, { on := 3, ground := Ground.phase }, { on := 4, ground := Ground.phase }, { on := 5, ground := Ground.phase }, { on := 6, ground := Ground.phase }], guard := none }) (v := .int .i64 nb) rfl (by kernel_rfl) (by kernel_rfl) (by kernel_rfl) (fun _ _ _ h => h) (Or.inl ⟨by rfl, by intro w hSw; go_simp⟩) hHeld ?_
  simp only [Act.put, List.setIfInBounds_toArray, List.set_cons_zero, List.set_cons_succ]
  refine wpAnyH_done (by kernel_rfl) ?_ _
  have n0' : (0 : Int) ≤ nb := n0
  have n2' : nb ≤ 1 := n2
  go_wp2_with fail
  go_ret
  exact ⟨rfl, EB.out.2.2⟩

end Go.Proofs.Ytfdnbgfgjelkcab
