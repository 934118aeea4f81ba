/- Texts of this claim, in one: MSameW. -/
import Derived.Test.YtfdnbgfgjelkcaaXMMends
import Derived.Test.YtfdnbgfgjelkcaaQ7
import Derived.Test.YtfdnbgfgjelkcaaQH
/- MendSame's walk: behind every order, the plan that is mended is the one that is made from the beginning. -/
set_option linter.unusedSimpArgs false
set_option linter.unusedVariables false
namespace Go.Proofs.Ytfdnbgfgjelkcaa
open Go.RowKit


/-- a number of a slice of numbers -/
theorem slInt_at2 {w : World} {a : Option Addr} {n cap : Nat} {l : List Int} (h : SlK cInt w (.slice a n cap) l) {k : Nat} {x : Int} (hk : l[k]? = some x) : ∃ b off, a = some ⟨b, off, none⟩ ∧ w.cell? ⟨b, off + k, none⟩ = some (.int .i64 x) := by
  obtain ⟨a', c', e, _, h1⟩ := h
  injection e with e1 e2 e3
  rcases h1 with h1 | ⟨b, off, rfl, hr⟩
  · rw [h1] at hk; cases hk
  · exact ⟨b, off, e1, hr.int hk⟩

/-- Tell has done what it was told: the port is a good one -/
theorem tellIs_good {R : Int → Int → Pt → Prop} {p : Pt} {n : Int} {q : Pt} (h : TellIs R p n 0 q) : IsPort q := by
  rcases h with ⟨_, _, h, _⟩ | ⟨_, n0, e0, q0, _, ⟨h1, _, h2, _⟩ | ⟨_, _, _, h, _⟩ | ⟨_, h, _, _, rfl⟩⟩
  · cases h
  · exact absurd h2.symm h1
  · cases h
  · exact h

set_option maxHeartbeats 8000000 in
set_option maxRecDepth 100000 in
theorem mendSame_any (v : Value) (p : Pt) (o : Ord) (w : World) (hv : PtV w v p) (hf : WfP p) (ho : WfO o) :
    Calls Try.prog 14 #[v, .agg #[.int .i64 o.kd, .int .i64 o.a, .int .i64 o.b, .int .i64 o.c]] w fun e w' => e = .returned (.bool true) ∧ Below w.heap.size w w' := by
  obtain ⟨vs, rfl, hsl, h4, hmx⟩ := hv
  have HV : Hid (PtV w (.agg (portCells p vs).toArray) p) := ⟨vs, rfl, hsl, h4, hmx⟩
  have X1 := PBox.new w p vs h4
  have hq := hf.q
  have HG := fun W h hp => goodPort_yes (.agg (portCells p vs).toArray) p W h hp
  have NG := fun W h hp => goodPort_not (.agg (portCells p vs).toArray) p W h hq hp
  have HPA0 := fun W h hp => plan_any (.agg (portCells p vs).toArray) p W h hp
  have HTA0 := fun W h hp => tellAll_any (.agg (portCells p vs).toArray) p o W h hp
  have HMP0 := fun vq q vp pl W h1 h2 hp hq h3 h4 => mendPlan_any (.agg (portCells p vs).toArray) (.agg (portCells q vq).toArray) vp p q pl W h1 h2 hp hq h3 h4
  clear hsl hq
  generalize hPC : (portCells p vs).toArray = PC at *
  have HPC : Hid ((portCells p vs).toArray = PC) := hPC
  clear hPC
  have hz1 : (w.alloc (.cells PC 46)).heap.size = w.heap.size + 1 := by simp
  have O1 := OBox.new (w.alloc (.cells PC 46)) o
  rw [hz1] at O1
  have X0 : Hid (PBox ((w.alloc (.cells PC 46)).alloc (.cells #[.int .i64 o.kd, .int .i64 o.a, .int .i64 o.b, .int .i64 o.c] 61)) w.heap.size p vs ∧ OBox ((w.alloc (.cells PC 46)).alloc (.cells #[.int .i64 o.kd, .int .i64 o.a, .int .i64 o.b, .int .i64 o.c] 61)) (w.heap.size + 1) o) := ⟨X1.later ((Below.refl _ _).alloc (Nat.le_refl _) _) X1.lt, O1⟩
  have B0 : Hid (Below w.heap.size w ((w.alloc (.cells PC 46)).alloc (.cells #[.int .i64 o.kd, .int .i64 o.a, .int .i64 o.b, .int .i64 o.c] 61))) := ((Below.refl _ w).alloc (Nat.le_refl _) _).alloc (by omega) _
  clear X1 O1
  generalize hW0 : (w.alloc (.cells PC 46)).alloc (.cells #[.int .i64 o.kd, .int .i64 o.a, .int .i64 o.b, .int .i64 o.c] 61) = W0 at *
  by_cases hp : IsPort p
  case neg =>
    clear HG HPA0 HTA0 HMP0
    go_enter Try.func14, Try.ntmps14
    go_wp2_with (first | (rw [hW0]) | (refine wpList_load_box rfl _ rfl w.heap.size p vs rfl X0.out.1 ?_; rw [HPC.out]))
    refine (NG _ (HV.out.below B0.out) hp).mono ?_
    rintro e w1 ⟨rfl, hw1⟩
    have B1 : Hid (Below w.heap.size w w1) := B0.out.trans (hw1.mono (by have := X0.out.1.lt; omega))
    clear hw1 X0 B0 NG
    go_wp2_with fail
    refine (keepMends_any w1).mono ?_
    rintro e w2 ⟨rfl, hw2⟩
    have B2 : Hid (Below w.heap.size w w2) := B1.out.trans (hw2.mono B1.out.size)
    go_wp2_with fail
    go_ret
    exact ⟨rfl, B2.out⟩
  have HP : Hid (IsPort p) := hp
  have HPA := fun W h => HPA0 W h hp
  have HTA := fun W h => HTA0 W h hp
  clear HPA0 HTA0 NG
  go_enter Try.func14, Try.ntmps14
  go_wp2_with (first | (rw [hW0]) | (refine wpList_load_box rfl _ rfl w.heap.size p vs rfl X0.out.1 ?_; rw [HPC.out]))
  refine (HG _ (HV.out.below B0.out) hp).mono ?_
  rintro e w1 ⟨rfl, hw1⟩
  have E1 : Hid (PBox w1 w.heap.size p vs ∧ OBox w1 (w.heap.size + 1) o ∧ Below w.heap.size w w1) := ⟨X0.out.1.later hw1 X0.out.1.lt, X0.out.2.later hw1 X0.out.2.lt, B0.out.trans (hw1.mono (by have := X0.out.1.lt; omega))⟩
  clear hw1 X0 B0 HG hp hW0
  obtain ⟨oc0, oc1, oc2, oc3⟩ := E1.out.2.1.cells
  go_wp2_with (refine wpList_load_box rfl _ rfl w.heap.size p vs rfl E1.out.1 ?_; rw [HPC.out])
  refine (HTA _ (HV.out.below E1.out.2.2)).mono ?_
  rintro e w2 ⟨q, vq, nq, er, rfl, hT, hq4, hqm, hqo, hb2⟩
  have on := ownsRow_one hqo
  have TI : Hid (TellIs (ObeyIs p o) p nq er q) := hT
  have E2 : Hid (PBox w2 w.heap.size p vs ∧ Below w.heap.size w w2 ∧ SlK cShip w2 vq q.ships) := ⟨E1.out.1.later hb2 E1.out.1.lt, E1.out.2.2.trans (hb2.mono (by have := E1.out.1.lt; omega)), slK_ofRow hqo⟩
  clear hT hqo hb2 E1 oc0 oc1 oc2 oc3 HTA
  go_upto_region 4 with (first | (refine wpList_alloc_box rfl rfl 5 rfl ?_; intro w3 hw3 hs3) | (refine wpList_store_box rfl _ _ rfl w2.heap.size zeroPt q (.slice none 0 0) vq rfl rfl hw3.out.1 hq4 on ?_; intro w4 hw4 hs4))
  have E4 : Hid (PBox w4 w.heap.size p vs ∧ PBox w4 w2.heap.size q vq ∧ PtV w4 (.agg PC) p ∧ PtV w4 (.agg (portCells q vq).toArray) q ∧ Below w.heap.size w w4) := by
    have hb : Below w2.heap.size w2 w4 := hw3.out.2.trans (hw4.out.2.2 _ (Nat.le_refl _))
    have hb2 : Below w.heap.size w w4 := E2.out.2.1.trans (hb.mono E2.out.2.1.size)
    exact ⟨E2.out.1.later hb E2.out.1.lt, hw4.out.1, HV.out.below hb2, ⟨vq, rfl, E2.out.2.2.below hb, hq4, hqm⟩, hb2⟩
  generalize w2.heap.size = gq at *
  clear hw3 hw4 hs3 hs4 E2 HV on hqm
  generalize hz : w.heap.size = z at *
  by_cases he : er = 0
  case neg =>
    have hb : (er != 0) = true := by simp [he]
    have B4 : Hid (Below z w w4) := E4.out.2.2.2.2
    clear E4 he TI HMP0 HPA
    go_wp2_with fail
    refine (keepMends_any w4).mono ?_
    rintro e w5 ⟨rfl, hw5⟩
    have B5 : Hid (Below z w w5) := B4.out.trans (hw5.mono (by have := B4.out.size; omega))
    go_wp2_with fail
    go_ret
    exact ⟨rfl, by rw [hz]; exact B5.out⟩
  subst he
  have HQ : Hid (IsPort q) := tellIs_good TI.out
  have hnow : 0 ≤ q.now := HQ.out.port.now.1
  have hlen : q.ships.length < 15 := HQ.out.port.len
  have HPQ := fun W h => plan_any (.agg (portCells q vq).toArray) q W h HQ.out
  have HMP := fun vp pl W h1 h2 h3 h4 => HMP0 vq q vp pl W h1 h2 HP.out HQ.out h3 h4
  have ED : Hid (PBox w4.drew z p vs ∧ PBox w4.drew gq q vq ∧ PtV w4.drew (.agg PC) p ∧ PtV w4.drew (.agg (portCells q vq).toArray) q ∧ Below z w w4.drew) := by
    have hd : Below w4.heap.size w4 w4.drew := (Below.refl _ w4).drew
    exact ⟨E4.out.1.later hd E4.out.1.lt, E4.out.2.1.later hd E4.out.2.1.lt, E4.out.2.2.1.below hd, E4.out.2.2.2.1.below hd, E4.out.2.2.2.2.drew⟩
  clear HMP0 E4 TI
  generalize hQC : (portCells q vq).toArray = QC at *
  have HQC : Hid ((portCells q vq).toArray = QC) := hQC
  clear hQC
  go_upto_region 6 with fail
  refine wp_region_held_drew (S := fun W => Hid (PBox W z p vs ∧ PBox W gq q vq ∧ PtV W (.agg PC) p ∧ PtV W (.agg QC) q ∧ Below z w W)) (by kernel_rfl) ED (fun hHeld => ?_)
  refine wpAnyH_take (i := 0) (oi := { dst := some 27, op := Op.load 46 (Operand.tmp 2), type := 46, pos := "keep.go:204", after := #[], guard := none }) (v := .agg PC) rfl (by kernel_rfl) (by kernel_rfl) (by kernel_rfl) (fun _ _ _ h => h) (by rw [← HPC.out]; exact yieldsIf_load_mid (by rfl) 46 (.tmp 2) rfl z 0 rfl (portCells p vs) _ (fun W hW => hW.out.1.whole) Try.underlying46 rfl (portInfo p _ h4)) hHeld ?_
  simp only [Act.put, List.setIfInBounds_toArray, List.set_cons_zero, List.set_cons_succ]
  refine wpAnyH_take (i := 1) (oi := { dst := some 28, op := Op.load 46 (Operand.tmp 5), type := 46, pos := "keep.go:204", after := #[], guard := none }) (v := .agg QC) rfl (by kernel_rfl) (by kernel_rfl) (by kernel_rfl) (fun _ _ _ h => h) (by rw [← HQC.out]; exact yieldsIf_load_mid (by rfl) 46 (.tmp 5) rfl gq 0 rfl (portCells q vq) _ (fun W hW => hW.out.2.1.whole) Try.underlying46 rfl (portInfo q _ hq4)) hHeld ?_
  simp only [Act.put, List.setIfInBounds_toArray, List.set_cons_zero, List.set_cons_succ]
  refine wpAnyH_take (i := 2) (oi := { dst := some 29, op := Op.load 46 (Operand.tmp 2), type := 46, pos := "keep.go:204", after := #[], guard := none }) (v := .agg PC) rfl (by kernel_rfl) (by kernel_rfl) (by kernel_rfl) (fun _ _ _ h => h) (by rw [← HPC.out]; exact yieldsIf_load_mid (by rfl) 46 (.tmp 2) rfl z 0 rfl (portCells p vs) _ (fun W hW => hW.out.1.whole) Try.underlying46 rfl (portInfo p _ h4)) hHeld ?_
  simp only [Act.put, List.setIfInBounds_toArray, List.set_cons_zero, List.set_cons_succ]
  refine wpAnyH_ready (rs := [3]) (by kernel_rfl) (by simp) ?_
  refine AllReadyH.cons rfl (fun K hK => ?_) AllReadyH.nil
  go_simp
  refine (HPA _ hHeld.out.2.2.1).mono ?_
  rintro e wa ⟨⟨va, rfl, hva⟩, hba⟩
  have EA : Hid (PBox wa z p vs ∧ PBox wa gq q vq ∧ PtV wa (.agg PC) p ∧ PtV wa (.agg QC) q ∧ Below z w wa) := ⟨hHeld.out.1.later hba hHeld.out.1.lt, hHeld.out.2.1.later hba hHeld.out.2.1.lt, hHeld.out.2.2.1.below hba, hHeld.out.2.2.2.1.below hba, hHeld.out.2.2.2.2.trans (hba.mono (by have := hHeld.out.1.lt; omega))⟩
  have FA : Hid (∃ x, PlanIs p x ∧ SlK cInt wa va x) := (by obtain ⟨x, h1, _, h2⟩ := hva.out; exact ⟨x, h1, h2⟩)
  clear hba hHeld hva
  go_wp2_with fail
  refine hK.out _ _ EA (fun hHeld => ?_)
  clear hK K
  obtain ⟨pl, hpl, hsa⟩ := FA.out
  refine wpAnyH_ready (rs := [4]) (by kernel_rfl) (by simp) ?_
  refine AllReadyH.cons rfl (fun K hK => ?_) AllReadyH.nil
  go_simp
  refine (HMP va pl _ hHeld.out.2.2.1 hHeld.out.2.2.2.1 hsa hpl).mono ?_
  rintro e wb ⟨vb, nb, rfl, hb⟩
  have EB : Hid (PBox wb z p vs ∧ PBox wb gq q vq ∧ PtV wb (.agg PC) p ∧ PtV wb (.agg QC) q ∧ Below z w wb) := ⟨hHeld.out.1.later hb.out.2.2.2 hHeld.out.1.lt, hHeld.out.2.1.later hb.out.2.2.2 hHeld.out.2.1.lt, hHeld.out.2.2.1.below hb.out.2.2.2, hHeld.out.2.2.2.1.below hb.out.2.2.2, hHeld.out.2.2.2.2.trans (hb.out.2.2.2.mono (by have := hHeld.out.1.lt; omega))⟩
  have FB : Hid (∃ x, PlanIs q x ∧ SlK cInt wb vb x) := hb.out.1
  clear hb hHeld hsa hpl FA EA
  go_wp2_with fail
  refine hK.out _ _ EB (fun hHeld => ?_)
  clear hK K
  obtain ⟨pq, hpq, hsb⟩ := FB.out
  have PL : Hid (PlanIs q pq) := hpq
  obtain ⟨ab, cb, hvb⟩ : ∃ a c, vb = .slice a q.ships.length c := by obtain ⟨a, c, e, _⟩ := hsb; rw [PL.out.len] at e; exact ⟨a, c, e⟩
  subst hvb
  have FC : Hid (SlK cInt wb (.slice ab q.ships.length cb) pq) := hsb
  clear hsb hpq FB
  refine wpAnyH_take (i := 5) (oi := { dst := some 26, op := Op.move (Operand.tmp 31), type := 71, pos := "keep.go:204", after := #[{ on := 4, ground := Ground.data }], guard := none }) (v := .tuple #[.slice ab q.ships.length cb, .int .i64 nb]) rfl (by kernel_rfl) (by kernel_rfl) (by kernel_rfl) (fun _ _ _ h => h) (Or.inl ⟨by rfl, by intro w hSw; go_simp⟩) hHeld ?_
  simp only [Act.put, List.setIfInBounds_toArray, List.set_cons_zero, List.set_cons_succ]
  refine wpAnyH_take (i := 6) (oi := { dst := some 32, op := Op.extract (Operand.tmp 26) 0, type := 57, pos := "keep.go:204", after := #[{ on := 5, ground := Ground.data }], guard := none }) (v := .slice ab q.ships.length cb) rfl (by kernel_rfl) (by kernel_rfl) (by kernel_rfl) (fun _ _ _ h => h) (Or.inl ⟨by rfl, by intro w hSw; go_simp⟩) hHeld ?_
  simp only [Act.put, List.setIfInBounds_toArray, List.set_cons_zero, List.set_cons_succ]
  refine wpAnyH_take (i := 7) (oi := { dst := some 33, op := Op.extract (Operand.tmp 26) 1, type := 3, pos := "keep.go:204", after := #[{ on := 5, ground := Ground.data }, { on := 8, ground := Ground.gcOnly Departure.lateStores }], guard := none }) (v := .int .i64 nb) rfl (by kernel_rfl) (by kernel_rfl) (by kernel_rfl) (fun _ _ _ h => h) (Or.inl ⟨by rfl, by intro w hSw; go_simp⟩) hHeld ?_
  simp only [Act.put, List.setIfInBounds_toArray, List.set_cons_zero, List.set_cons_succ]
  refine wpAnyH_take (i := 8) (oi := { dst := some 8, op := Op.assign (Operand.tmp 32), type := 57, pos := "keep.go:204", after := #[{ on := 6, ground := Ground.data }, { on := 4, ground := Ground.chain }, { on := 0, ground := Ground.phase }, { on := 1, ground := Ground.phase }, { on := 2, ground := Ground.phase }, { on := 3, ground := Ground.phase }, { on := 4, ground := Ground.phase }, { on := 5, ground := Ground.phase }, { on := 6, ground := Ground.phase }, { on := 7, ground := Ground.textOnly Departure.lateStores }], guard := none }) (v := .slice ab q.ships.length cb) rfl (by kernel_rfl) (by kernel_rfl) (by kernel_rfl) (fun _ _ _ h => h) (Or.inl ⟨by rfl, by intro w hSw; go_simp⟩) hHeld ?_
  simp only [Act.put, List.setIfInBounds_toArray, List.set_cons_zero, List.set_cons_succ]
  refine wpAnyH_take (i := 9) (oi := { dst := some 9, op := Op.assign (Operand.tmp 33), type := 3, pos := "keep.go:204", after := #[{ on := 7, ground := Ground.data }, { on := 8, ground := Ground.chain }, { on := 0, ground := Ground.phase }, { on := 1, ground := Ground.phase }, { on := 2, ground := Ground.phase }, { on := 3, ground := Ground.phase }, { on := 4, ground := Ground.phase }, { on := 5, ground := Ground.phase }, { on := 6, ground := Ground.phase }, { on := 7, ground := Ground.phase }, { on := 8, ground := Ground.phase }], guard := none }) (v := .int .i64 nb) rfl (by kernel_rfl) (by kernel_rfl) (by kernel_rfl) (fun _ _ _ h => h) (Or.inl ⟨by rfl, by intro w hSw; go_simp⟩) hHeld ?_
  simp only [Act.put, List.setIfInBounds_toArray, List.set_cons_zero, List.set_cons_succ]
  refine wpAnyH_done (by kernel_rfl) ?_ _
  clear hHeld HMP HPA ED
  go_wp2_with (refine wpList_load_box rfl _ rfl gq q vq rfl EB.out.2.1 ?_; rw [HQC.out])
  refine (HPQ _ EB.out.2.2.2.1).mono ?_
  rintro e w5 ⟨⟨v5, rfl, h5⟩, hb5⟩
  obtain ⟨a5, c5, rfl, G5⟩ : ∃ a c, v5 = .slice a q.ships.length c ∧ SlK cInt w5 (.slice a q.ships.length c) pq := by
    obtain ⟨x, h1, _, h2⟩ := h5.out
    rw [← PL.out.unique hnow h1] at h2
    have h3 := h2
    obtain ⟨a, c, e, _⟩ := h3
    rw [PL.out.len] at e
    exact ⟨a, c, e, by rw [← e]; exact h2⟩
  have F5 : Hid (SlK cInt w5 (.slice ab q.ships.length cb) pq ∧ SlK cInt w5 (.slice a5 q.ships.length c5) pq ∧ Below z w w5) := ⟨FC.out.below hb5, G5, EB.out.2.2.2.2.trans (hb5.mono (by have := EB.out.1.lt; omega))⟩
  have hpl : Hid (pq.length = q.ships.length) := PL.out.len
  clear h5 hb5 G5 FC EB HPQ
  go_wp2_with fail
  go_loopg [11, 43] q.ships.length (fun kx s6 s23 wr => ∃ (k : Nat), s23 = .int .i64 k ∧ k ≤ q.ships.length ∧ q.ships.length - k ≤ kx ∧ Hid (SlK cInt wr (.slice ab q.ships.length cb) pq ∧ SlK cInt wr (.slice a5 q.ships.length c5) pq ∧ Below z w wr))
  case atStart => exact ⟨0, rfl, Nat.zero_le _, by omega, F5⟩
  case round =>
    clear F5
    obtain ⟨k, rfl, hk, hg, I⟩ := hrel
    by_cases hkl : k < q.ships.length
    · obtain ⟨x, hx⟩ : ∃ x, pq[k]? = some x := ⟨pq[k]'(by have := hpl.out; omega), List.getElem?_eq_getElem _⟩
      obtain ⟨b1, o1, rfl, k1⟩ := slInt_at2 I.out.1 hx
      obtain ⟨b2, o2, rfl, k2⟩ := slInt_at2 I.out.2.1 hx
      have hk3 : (k : Int) < (q.ships.length : Int) := by omega
      have NX : Hid (∀ m, SlK cInt (wr.drewN m) (.slice (some ⟨b1, o1, none⟩) q.ships.length cb) pq ∧ SlK cInt (wr.drewN m) (.slice (some ⟨b2, o2, none⟩) q.ships.length c5) pq ∧ Below z w (wr.drewN m)) := fun m => ⟨I.out.1.below (below_drewN (Below.refl _ _) m), I.out.2.1.below (below_drewN (Below.refl _ _) m), below_drewN I.out.2.2 m⟩
      clear hx I
      go_upto_region 13 with fail
      go_quiet (fail)
      go_wp2_with fail
      go_roundg (q.ships.length - (k + 1))
      case measure => omega
      case rel => exact ⟨k + 1, by go_num, by omega, Nat.le_refl _, NX.out _⟩
    · have hke : k = q.ships.length := by omega
      subst hke
      have hk3 : ¬ (q.ships.length : Int) < (q.ships.length : Int) := by omega
      go_wp2_with fail
      refine (keepMends_any wr).mono ?_
      rintro e w9 ⟨rfl, hw9⟩
      have B9 : Hid (Below z w w9) := I.out.2.2.trans (hw9.mono (by have := I.out.2.2.size; omega))
      go_wp2_with fail
      go_ret
      exact ⟨rfl, by rw [hz]; exact B9.out⟩

end Go.Proofs.Ytfdnbgfgjelkcaa
