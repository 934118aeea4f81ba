/- Texts of this claim, in one: MIdleW. -/
import Derived.Test.YtfdnbgfgjelkcabXMMends
import Derived.Test.YtfdnbgfgjelkcabQ7
/- MendIdle's walk: where nothing has changed nobody is looked at. -/
set_option linter.unusedSimpArgs false
set_option linter.unusedVariables false
namespace Go.Proofs.Ytfdnbgfgjelkcab
open Go.RowKit

/-- a number of a slice of numbers -/
theorem slInt_at {w : World} {a : Option Addr} {n cap : Nat} {l : List Int} (h : SlK cInt w (.slice a n cap) l) {k : Nat} {x : Int} (hk : l[k]? = some x) : ∃ b off, a = some ⟨b, off, none⟩ ∧ w.cell? ⟨b, off + k, none⟩ = some (.int .i64 x) := by
  obtain ⟨a', c', e, _, h1⟩ := h
  injection e with e1 e2 e3
  rcases h1 with h1 | ⟨b, off, rfl, hr⟩
  · rw [h1] at hk; cases hk
  · exact ⟨b, off, e1, hr.int hk⟩

set_option maxHeartbeats 8000000 in
set_option maxRecDepth 100000 in
theorem mendIdle_any (v : Value) (p : Pt) (w : World) (hv : PtV w v p) (hf : WfP p) :
    Calls Try.prog 3 #[v] w fun e w' => e = .returned (.bool true) ∧ Below w.heap.size w w' := by
  obtain ⟨vs, rfl, hsl, h4, hmx⟩ := hv
  have HV : Hid (PtV w (.agg (portCells p vs).toArray) p) := ⟨vs, rfl, hsl, h4, hmx⟩
  have X0 : Hid (PBox (w.alloc (.cells (portCells p vs).toArray 27)) w.heap.size p vs) := PBox.new w p _ h4
  have B0 : Hid (Below w.heap.size w (w.alloc (.cells (portCells p vs).toArray 27))) := (Below.refl _ w).alloc (Nat.le_refl _) _
  have hq := hf.q
  by_cases hp : IsPort p
  case neg =>
    have HG := fun W h => goodPort_not (.agg (portCells p vs).toArray) p W h hq hp
    clear hsl hp hq
    generalize hPC : (portCells p vs).toArray = PC at *
    have HPC : Hid ((portCells p vs).toArray = PC) := hPC
    clear hPC
    go_enter Try.func3, Try.ntmps3
    go_wp2_with (refine wpList_load_box rfl _ rfl w.heap.size p vs rfl X0.out ?_; rw [HPC.out])
    refine (HG _ (HV.out.below B0.out)).mono ?_
    rintro e w1 ⟨rfl, hw1⟩
    have B1 : Hid (Below w.heap.size w w1) := B0.out.trans (hw1.mono B0.out.size)
    clear hw1 X0 B0 HG
    go_wp2_with fail
    refine (keepMends_any w1).mono ?_
    rintro e w2 ⟨rfl, hw2⟩
    have B2 : Hid (Below w.heap.size w w2) := B1.out.trans (hw2.mono B1.out.size)
    go_wp2_with fail
    go_ret
    exact ⟨rfl, B2.out⟩
  have HG := fun W h => goodPort_yes (.agg (portCells p vs).toArray) p W h hp
  have HPA := fun W h => plan_any (.agg (portCells p vs).toArray) p W h hp
  have HMP := fun vp pl W h h1 h2 => mendPlan_any (.agg (portCells p vs).toArray) (.agg (portCells p vs).toArray) vp p p pl W h h hp hp h1 h2
  have hlen : p.ships.length < 15 := hp.port.len
  obtain ⟨hnow, _⟩ := hp.port.now
  clear hsl hp hq
  generalize hPC : (portCells p vs).toArray = PC at *
  have HPC : Hid ((portCells p vs).toArray = PC) := hPC
  clear hPC
  go_enter Try.func3, Try.ntmps3
  go_wp2_with (refine wpList_load_box rfl _ rfl w.heap.size p vs rfl X0.out ?_; rw [HPC.out])
  refine (HG _ (HV.out.below B0.out)).mono ?_
  rintro e w1 ⟨rfl, hw1⟩
  have E1 : Hid (PBox w1.drew w.heap.size p vs ∧ PtV w1.drew (.agg PC) p ∧ Below w.heap.size w w1.drew) := by
    have hb : Below w.heap.size w w1 := B0.out.trans (hw1.mono B0.out.size)
    have hd : Below w1.heap.size w1 w1.drew := (Below.refl _ w1).drew
    exact ⟨(X0.out.later hw1 X0.out.lt).later hd (X0.out.later hw1 X0.out.lt).lt, HV.out.below hb.drew, hb.drew⟩
  clear hw1 X0 B0 HG HV
  generalize hz : w.heap.size = z at *
  go_upto_region 3 with fail
  refine wp_region_held_drew (S := fun W => Hid (PBox W z p vs ∧ PtV W (.agg PC) p ∧ Below z w W)) (by kernel_rfl) E1 (fun hHeld => ?_)
  refine wpAnyH_take (i := 0) (oi := { dst := some 12, op := Op.load 27 (Operand.tmp 1), type := 27, pos := "keep.go:223", after := #[], guard := none }) (v := .agg PC) rfl (by kernel_rfl) (by kernel_rfl) (by kernel_rfl) (fun _ _ _ h => h) (by rw [← HPC.out]; exact yieldsIf_load_mid (by rfl) 27 (.tmp 1) rfl z 0 rfl (portCells p vs) _ (fun W hW => hW.out.1.whole) Try.underlying27 rfl (portInfo p _ h4)) hHeld ?_
  simp only [Act.put, List.setIfInBounds_toArray, List.set_cons_zero, List.set_cons_succ]
  refine wpAnyH_take (i := 1) (oi := { dst := some 13, op := Op.load 27 (Operand.tmp 1), type := 27, pos := "keep.go:223", after := #[], guard := none }) (v := .agg PC) rfl (by kernel_rfl) (by kernel_rfl) (by kernel_rfl) (fun _ _ _ h => h) (by rw [← HPC.out]; exact yieldsIf_load_mid (by rfl) 27 (.tmp 1) rfl z 0 rfl (portCells p vs) _ (fun W hW => hW.out.1.whole) Try.underlying27 rfl (portInfo p _ h4)) hHeld ?_
  simp only [Act.put, List.setIfInBounds_toArray, List.set_cons_zero, List.set_cons_succ]
  refine wpAnyH_take (i := 2) (oi := { dst := some 14, op := Op.load 27 (Operand.tmp 1), type := 27, pos := "keep.go:223", after := #[], guard := none }) (v := .agg PC) rfl (by kernel_rfl) (by kernel_rfl) (by kernel_rfl) (fun _ _ _ h => h) (by rw [← HPC.out]; exact yieldsIf_load_mid (by rfl) 27 (.tmp 1) rfl z 0 rfl (portCells p vs) _ (fun W hW => hW.out.1.whole) Try.underlying27 rfl (portInfo p _ h4)) hHeld ?_
  simp only [Act.put, List.setIfInBounds_toArray, List.set_cons_zero, List.set_cons_succ]
  refine wpAnyH_ready (rs := [3]) (by kernel_rfl) (by simp) ?_
  refine AllReadyH.cons rfl (fun K hK => ?_) AllReadyH.nil
  go_simp
  refine (HPA _ hHeld.out.2.1).mono ?_
  rintro e wa ⟨⟨va, rfl, hva⟩, hba⟩
  have EA : Hid (PBox wa z p vs ∧ PtV wa (.agg PC) p ∧ Below z w wa) := ⟨hHeld.out.1.later hba hHeld.out.1.lt, hHeld.out.2.1.below hba, hHeld.out.2.2.trans (hba.mono (by have := hHeld.out.1.lt; omega))⟩
  have FA : Hid (∃ x, PlanIs p x ∧ SlK cInt wa va x) := (by obtain ⟨x, h1, _, h2⟩ := hva.out; exact ⟨x, h1, h2⟩)
  clear hba hHeld hva
  go_wp2_with fail
  refine hK.out _ _ EA (fun hHeld => ?_)
  clear hK K
  obtain ⟨pl, hpl, hsa⟩ := FA.out
  have PL : Hid (PlanIs p pl) := hpl
  refine wpAnyH_ready (rs := [4]) (by kernel_rfl) (by simp) ?_
  refine AllReadyH.cons rfl (fun K hK => ?_) AllReadyH.nil
  go_simp
  refine (HMP va pl _ hHeld.out.2.1 hsa hpl).mono ?_
  rintro e wb ⟨vb, nb, rfl, hb⟩
  have EB : Hid (PBox wb z p vs ∧ PtV wb (.agg PC) p ∧ Below z w wb) := ⟨hHeld.out.1.later hb.out.2.2.2 hHeld.out.1.lt, hHeld.out.2.1.below hb.out.2.2.2, hHeld.out.2.2.trans (hb.out.2.2.2.mono (by have := hHeld.out.1.lt; omega))⟩
  have nb0 : nb = 0 := hb.out.2.2.1 rfl
  have FB : Hid (SlK cInt wb vb pl) := (by obtain ⟨x, h1, h2⟩ := hb.out.1; rw [PL.out.unique hnow h1]; exact h2)
  subst nb0
  clear hb hHeld hsa hpl FA EA
  go_wp2_with fail
  refine hK.out _ _ EB (fun hHeld => ?_)
  clear hK K
  obtain ⟨ab, cb, hvb⟩ : ∃ a c, vb = .slice a p.ships.length c := by obtain ⟨a, c, e, _⟩ := FB.out; rw [PL.out.len] at e; exact ⟨a, c, e⟩
  subst hvb
  refine wpAnyH_take (i := 5) (oi := { dst := some 11, op := Op.move (Operand.tmp 16), type := 31, pos := "keep.go:223", after := #[{ on := 4, ground := Ground.data }], guard := none }) (v := .tuple #[.slice ab p.ships.length cb, .int .i64 0]) rfl (by kernel_rfl) (by kernel_rfl) (by kernel_rfl) (fun _ _ _ h => h) (Or.inl ⟨by rfl, by intro w hSw; go_simp⟩) hHeld ?_
  simp only [Act.put, List.setIfInBounds_toArray, List.set_cons_zero, List.set_cons_succ]
  refine wpAnyH_take (i := 6) (oi := { dst := some 17, op := Op.extract (Operand.tmp 11) 0, type := 30, pos := "keep.go:223", after := #[{ on := 5, ground := Ground.data }], guard := none }) (v := .slice ab p.ships.length cb) rfl (by kernel_rfl) (by kernel_rfl) (by kernel_rfl) (fun _ _ _ h => h) (Or.inl ⟨by rfl, by intro w hSw; go_simp⟩) hHeld ?_
  simp only [Act.put, List.setIfInBounds_toArray, List.set_cons_zero, List.set_cons_succ]
  refine wpAnyH_take (i := 7) (oi := { dst := some 18, op := Op.extract (Operand.tmp 11) 1, type := 3, pos := "keep.go:223", after := #[{ on := 5, ground := Ground.data }, { on := 8, ground := Ground.gcOnly Departure.lateStores }], guard := none }) (v := .int .i64 0) rfl (by kernel_rfl) (by kernel_rfl) (by kernel_rfl) (fun _ _ _ h => h) (Or.inl ⟨by rfl, by intro w hSw; go_simp⟩) hHeld ?_
  simp only [Act.put, List.setIfInBounds_toArray, List.set_cons_zero, List.set_cons_succ]
  refine wpAnyH_take (i := 8) (oi := { dst := some 3, op := Op.assign (Operand.tmp 17), type := 30, pos := "keep.go:223", after := #[{ on := 6, ground := Ground.data }, { on := 4, ground := Ground.chain }, { on := 0, ground := Ground.phase }, { on := 1, ground := Ground.phase }, { on := 2, ground := Ground.phase }, { on := 3, ground := Ground.phase }, { on := 4, ground := Ground.phase }, { on := 5, ground := Ground.phase }, { on := 6, ground := Ground.phase }, { on := 7, ground := Ground.textOnly Departure.lateStores }], guard := none }) (v := .slice ab p.ships.length cb) rfl (by kernel_rfl) (by kernel_rfl) (by kernel_rfl) (fun _ _ _ h => h) (Or.inl ⟨by rfl, by intro w hSw; go_simp⟩) hHeld ?_
  simp only [Act.put, List.setIfInBounds_toArray, List.set_cons_zero, List.set_cons_succ]
  refine wpAnyH_take (i := 9) (oi := { dst := some 4, op := Op.assign (Operand.tmp 18), type := 3, pos := "keep.go:223", after := #[{ on := 7, ground := Ground.data }, { on := 8, ground := Ground.chain }, { on := 0, ground := Ground.phase }, { on := 1, ground := Ground.phase }, { on := 2, ground := Ground.phase }, { on := 3, ground := Ground.phase }, { on := 4, ground := Ground.phase }, { on := 5, ground := Ground.phase }, { on := 6, ground := Ground.phase }, { on := 7, ground := Ground.phase }, { on := 8, ground := Ground.phase }], guard := none }) (v := .int .i64 0) rfl (by kernel_rfl) (by kernel_rfl) (by kernel_rfl) (fun _ _ _ h => h) (Or.inl ⟨by rfl, by intro w hSw; go_simp⟩) hHeld ?_
  simp only [Act.put, List.setIfInBounds_toArray, List.set_cons_zero, List.set_cons_succ]
  refine wpAnyH_done (by kernel_rfl) ?_ _
  clear hHeld
  go_wp2_with (refine wpList_load_box rfl _ rfl z p vs rfl EB.out.1 ?_; rw [HPC.out])
  refine (HPA _ EB.out.2.1).mono ?_
  rintro e w5 ⟨⟨v5, rfl, h5⟩, hb5⟩
  obtain ⟨a5, c5, rfl, G5⟩ : ∃ a c, v5 = .slice a p.ships.length c ∧ SlK cInt w5 (.slice a p.ships.length c) pl := by
    obtain ⟨x, h1, _, h2⟩ := h5.out
    rw [← PL.out.unique hnow h1] at h2
    have h3 := h2
    obtain ⟨a, c, e, _⟩ := h3
    rw [PL.out.len] at e
    exact ⟨a, c, e, by rw [← e]; exact h2⟩
  have F5 : Hid (SlK cInt w5 (.slice ab p.ships.length cb) pl ∧ SlK cInt w5 (.slice a5 p.ships.length c5) pl ∧ Below z w w5) := ⟨FB.out.below hb5, G5, EB.out.2.2.trans (hb5.mono (by have := EB.out.1.lt; omega))⟩
  have hpl : Hid (pl.length = p.ships.length) := PL.out.len
  clear h5 hb5 G5 FB EB HPA HMP E1
  go_wp2_with fail
  go_loopg [6, 23] p.ships.length (fun kx s6 s23 wr => ∃ (k : Nat), s23 = .int .i64 k ∧ k ≤ p.ships.length ∧ p.ships.length - k ≤ kx ∧ Hid (SlK cInt wr (.slice ab p.ships.length cb) pl ∧ SlK cInt wr (.slice a5 p.ships.length c5) pl ∧ Below z w wr))
  case atStart => exact ⟨0, rfl, Nat.zero_le _, by omega, F5⟩
  case round =>
    clear F5
    obtain ⟨k, rfl, hk, hg, I⟩ := hrel
    by_cases hkl : k < p.ships.length
    · obtain ⟨x, hx⟩ : ∃ x, pl[k]? = some x := ⟨pl[k]'(by have := hpl.out; omega), List.getElem?_eq_getElem _⟩
      obtain ⟨b1, o1, rfl, k1⟩ := slInt_at I.out.1 hx
      obtain ⟨b2, o2, rfl, k2⟩ := slInt_at I.out.2.1 hx
      have hk3 : (k : Int) < (p.ships.length : Int) := by omega
      have hk4 : decide ((p.ships.length : Int) ≤ (k : Int)) = false := decide_eq_false (by omega)
      have NX : Hid (∀ m, SlK cInt (wr.drewN m) (.slice (some ⟨b1, o1, none⟩) p.ships.length cb) pl ∧ SlK cInt (wr.drewN m) (.slice (some ⟨b2, o2, none⟩) p.ships.length c5) pl ∧ Below z w (wr.drewN m)) := fun m => ⟨I.out.1.below (below_drewN (Below.refl _ _) m), I.out.2.1.below (below_drewN (Below.refl _ _) m), below_drewN I.out.2.2 m⟩
      clear hx I
      go_upto_region 8 with fail
      go_quiet (fail)
      go_wp2_with fail
      go_roundg (p.ships.length - (k + 1))
      case measure => omega
      case rel => exact ⟨k + 1, by go_num, by omega, Nat.le_refl _, NX.out _⟩
    · have hke : k = p.ships.length := by omega
      subst hke
      have hk3 : ¬ (p.ships.length : Int) < (p.ships.length : Int) := by omega
      go_wp2_with fail
      refine (keepMends_any wr).mono ?_
      rintro e w9 ⟨rfl, hw9⟩
      have B9 : Hid (Below z w w9) := I.out.2.2.trans (hw9.mono (by have := I.out.2.2.size; omega))
      go_wp2_with fail
      go_ret
      exact ⟨rfl, by rw [hz]; exact B9.out⟩

end Go.Proofs.Ytfdnbgfgjelkcab
