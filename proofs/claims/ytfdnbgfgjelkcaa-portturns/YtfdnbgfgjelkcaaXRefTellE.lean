/- Texts of this claim, in one: RefTellE. -/
import Derived.Test.YtfdnbgfgjelkcaaQI
/- A port behind an order, by the document's own answer: TellPort, of the kind Drop. -/
set_option linter.unusedSimpArgs false
set_option linter.unusedVariables false
namespace Go.Proofs.Ytfdnbgfgjelkcaa
open Go.RowKit


set_option maxHeartbeats 8000000 in
set_option maxRecDepth 100000 in
theorem refTell_drop1 (v : Value) (p : Pt) (kd b c : Int) (j : Nat) (w : World) (hv : PtV w v p) (hp : IsPort p) (hk : kd = 7) (hj : j < 4) :
    Calls Try.prog 45 #[v, .agg #[.int .i64 kd, .int .i64 (j : Int), .int .i64 b, .int .i64 c]] w fun e w' => RefTellPost w (TellIs (ObeyIs p ⟨kd, (j : Int), b, c⟩) p) e w' := by
  have HK : Hid (kd = 7) := hk
  clear hk
  obtain ⟨vs, rfl, hsl, h4, hmx⟩ := hv
  have HV : Hid (PtV w (.agg (portCells p vs).toArray) p) := ⟨vs, rfl, hsl, h4, hmx⟩
  have HS0 : Hid (SlK cShip w vs p.ships) := hsl
  have on0 : vs.oneCell' = true := by obtain ⟨a, cap, rfl, _⟩ := hsl; rfl
  have X1 := PBox.new w p vs h4
  have HG := fun W h => refIsPort_any (.agg (portCells p vs).toArray) p W h
  have HW := fun W h => refCopy_any (.agg (portCells p vs).toArray) p W h
  obtain ⟨va, vcap, hve⟩ : ∃ a cap, vs = .slice a p.ships.length cap := by obtain ⟨a, cap, e, _⟩ := hsl; exact ⟨a, cap, e⟩
  subst hve
  clear hsl
  generalize hPC : (portCells p (.slice va p.ships.length vcap)).toArray = PC at *
  have HPC : Hid ((portCells p (.slice va p.ships.length vcap)).toArray = PC) := hPC
  clear hPC
  have hz1 : (w.alloc (.cells PC 46)).heap.size = w.heap.size + 1 := by simp
  have O1 := OBox.new (w.alloc (.cells PC 46)) ⟨kd, (j : Int), b, c⟩
  rw [hz1] at O1
  have hz2 : ((w.alloc (.cells PC 46)).alloc (.cells #[.int .i64 kd, .int .i64 (j : Int), .int .i64 b, .int .i64 c] 61)).heap.size = w.heap.size + 1 + 1 := by simp
  have X0 : Hid (PBox ((w.alloc (.cells PC 46)).alloc (.cells #[.int .i64 kd, .int .i64 (j : Int), .int .i64 b, .int .i64 c] 61)) w.heap.size p (.slice va p.ships.length vcap) ∧ OBox ((w.alloc (.cells PC 46)).alloc (.cells #[.int .i64 kd, .int .i64 (j : Int), .int .i64 b, .int .i64 c] 61)) (w.heap.size + 1) ⟨kd, (j : Int), b, c⟩) := ⟨X1.later ((Below.refl _ _).alloc (Nat.le_refl _) _) X1.lt, O1⟩
  have B0 : Hid (Below w.heap.size w ((w.alloc (.cells PC 46)).alloc (.cells #[.int .i64 kd, .int .i64 (j : Int), .int .i64 b, .int .i64 c] 61))) := ((Below.refl _ w).alloc (Nat.le_refl _) _).alloc (by omega) _
  have HZ2 : Hid (((w.alloc (.cells PC 46)).alloc (.cells #[.int .i64 kd, .int .i64 (j : Int), .int .i64 b, .int .i64 c] 61)).heap.size = w.heap.size + 1 + 1) := hz2
  clear X1 O1 hz1 hz2
  generalize hW0 : (w.alloc (.cells PC 46)).alloc (.cells #[.int .i64 kd, .int .i64 (j : Int), .int .i64 b, .int .i64 c] 61) = W0 at *
  go_enter Try.func45, Try.ntmps45
  go_upto_region 1 with (first | (rw [hW0]) | (refine wpList_alloc_box rfl rfl 4 rfl ?_; intro w1 hw1 hs1))
  rw [HZ2.out] at hw1 hs1 ⊢
  have T1 : Hid (Below w.heap.size w w1 ∧ PBox w1 w.heap.size p (.slice va p.ships.length vcap) ∧ OBox w1 (w.heap.size + 1) ⟨kd, (j : Int), b, c⟩ ∧ PBox w1 (w.heap.size + 1 + 1) zeroPt (.slice none 0 0) ∧ w1.heap.size = w.heap.size + 1 + 1 + 1) := ⟨B0.out.trans (hw1.out.2.mono (by omega)), X0.out.1.later hw1.out.2 (by omega), X0.out.2.later hw1.out.2 (by omega), hw1.out.1, hs1⟩
  clear hw1 hs1 X0 B0 HZ2 hW0
  go_wp2_with (refine wpList_load_box rfl _ rfl w.heap.size p (.slice va p.ships.length vcap) rfl T1.out.2.1 ?_; rw [HPC.out])
  refine (HG _ (HV.out.below T1.out.1)).mono ?_
  rintro e w2 ⟨⟨b2, rfl, hb2⟩, hw2⟩
  have T2 : Hid (Below w.heap.size w w2 ∧ PBox w2 w.heap.size p (.slice va p.ships.length vcap) ∧ OBox w2 (w.heap.size + 1) ⟨kd, (j : Int), b, c⟩ ∧ PBox w2 (w.heap.size + 1 + 1) zeroPt (.slice none 0 0) ∧ w.heap.size + 1 + 1 + 1 ≤ w2.heap.size) := ⟨T1.out.1.trans (hw2.mono (by have := T1.out.2.2.2.2; omega)), T1.out.2.1.later hw2 T1.out.2.1.lt, T1.out.2.2.1.later hw2 T1.out.2.2.1.lt, T1.out.2.2.2.1.later hw2 T1.out.2.2.2.1.lt, by have := T1.out.2.2.2.2; have := hw2.size; omega⟩
  have HB : Hid (b2 = true ↔ IsPort p) := hb2
  clear T1 hw2 hb2 HG
  obtain rfl : b2 = true := HB.out.2 hp
  have HP : Hid (IsPort p) := hp
  have hlen : p.ships.length < 15 := hp.port.len
  obtain ⟨hnow0, hnow1⟩ := hp.port.now
  clear hp HB
  go_upto_region 4 with fail
  go_wp2_with (refine wpList_load_box rfl _ rfl w.heap.size p (.slice va p.ships.length vcap) rfl T2.out.2.1 ?_; rw [HPC.out])
  refine (HW _ (HV.out.below T2.out.1)).mono ?_
  rintro e w3 ⟨vq, rfl, hro, hb3⟩
  have T3 : Hid (Below w.heap.size w w3 ∧ PBox w3 w.heap.size p (.slice va p.ships.length vcap) ∧ OBox w3 (w.heap.size + 1) ⟨kd, (j : Int), b, c⟩ ∧ PBox w3 (w.heap.size + 1 + 1) zeroPt (.slice none 0 0) ∧ w3.ownsRow (w.heap.size + 1 + 1 + 1) 48 6 vq p.ships.length (cellsK cShip p.ships) ∧ w.heap.size + 1 + 1 + 1 ≤ w3.heap.size) := ⟨T2.out.1.trans (hb3.mono (by have := T2.out.2.2.2.2; omega)), T2.out.2.1.later hb3 T2.out.2.1.lt, T2.out.2.2.1.later hb3 T2.out.2.2.1.lt, T2.out.2.2.2.1.later hb3 T2.out.2.2.2.1.lt, ownsRow_mono hro T2.out.2.2.2.2, by have := T2.out.2.2.2.2; have := hb3.size; omega⟩
  have on := ownsRow_one hro
  obtain ⟨xq, cq, hvq⟩ := ownsRow_slice hro
  subst hvq
  clear T2 hro hb3 HW
  go_upto_region 5 with (first | (refine wpList_alloc_box rfl rfl 8 rfl ?_; intro w4 hw4 hs4) | (refine wpList_store_box rfl _ _ rfl w3.heap.size zeroPt p (.slice none 0 0) (.slice xq p.ships.length cq) rfl rfl hw4.out.1 h4 on ?_; intro w5 hw5 hs5))
  have EX : Hid (TB w p (.slice va p.ships.length vcap) ⟨kd, (j : Int), b, c⟩ w3.heap.size p (.slice xq p.ships.length cq) w5) := by
    have hb : Below w3.heap.size w3 w5 := hw4.out.2.trans (hw5.out.2.2 _ (Nat.le_refl _))
    have hz := T3.out.2.2.2.2.2
    have hzz := hb.size
    exact ⟨T3.out.1.trans (hb.mono (by omega)), T3.out.2.1.later hb (by omega), T3.out.2.2.1.later hb (by omega), T3.out.2.2.2.1.later hb (by omega), hw5.out.1, ownsRow_later T3.out.2.2.2.2.1 hb, by omega, by omega⟩
  have GR : Hid ((Value.slice xq p.ships.length cq).ownBlock ≠ some w3.heap.size) := fun e => by
    have := (T3.out.2.2.2.2.1.lt _ e).2
    omega
  generalize w3.heap.size = g at *
  clear hw4 hw5 hs4 hs5 T3 on
  obtain ⟨oc0, oc1, oc2, oc3⟩ := EX.out.ord.cells
  obtain ⟨pc0, pc1, pc14, pc15⟩ := EX.out.box.cells
  simp only at oc0 oc1 oc2 oc3
  have FIN : Hid (∀ er w', TellIs (ObeyIs p ⟨kd, (j : Int), b, c⟩) p 0 er p → Below w.heap.size w w' → RefTellPost w (TellIs (ObeyIs p ⟨kd, (j : Int), b, c⟩) p) (.returned (.tuple #[.agg (portCells p (.slice va p.ships.length vcap)).toArray, .int .i64 0, .int .i64 er])) w') := fun er w' hT hb => ⟨p, (.slice va p.ships.length vcap), 0, er, rfl, hT, h4, hmx, HS0.out.below hb, hb⟩
  have REF : Hid (∀ er, er ≠ 0 → (∃ n q', ObeyIs p ⟨kd, (j : Int), b, c⟩ n er q') → TellIs (ObeyIs p ⟨kd, (j : Int), b, c⟩) p 0 er p) := fun er h0 ⟨n, q', h⟩ => Or.inr ⟨HP.out, n, er, q', h, Or.inl ⟨h0, rfl, rfl, rfl⟩⟩
  clear HS0 HV
  have j1 : (kd == 1) = false := by have hk := HK.out; simp; omega
  have j2 : (kd == 2) = false := by have hk := HK.out; simp; omega
  have j3 : (kd == 3) = false := by have hk := HK.out; simp; omega
  have j4 : (kd == 4) = false := by have hk := HK.out; simp; omega
  have j5 : (kd == 5) = false := by have hk := HK.out; simp; omega
  have j6 : (kd == 6) = false := by have hk := HK.out; simp; omega
  have j7 : (kd == 7) = true := by have hk := HK.out; simp; exact hk
  have j8 : (kd == 8) = false := by have hk := HK.out; simp; omega
  have h4k : p.kept.length = 4 := h4
  obtain ⟨k, hk0⟩ : ∃ k, p.kept[j]? = some k := ⟨p.kept[j]'(by omega), List.getElem?_eq_getElem _⟩
  have HKK : Hid (p.kept[j]? = some k) := hk0
  have IK : Hid (IsKept k) := HP.out.port.kept k (List.mem_of_getElem? hk0)
  clear hk0
  have CP : ∀ g', PBox w5 g' p (.slice va p.ships.length vcap) → w5.cell? ⟨g', 2 + j * 3, none⟩ = some (.int .i64 k.wd) ∧ w5.cell? ⟨g', 2 + j * 3 + 1, none⟩ = some (.int .i64 k.fr) ∧ w5.cell? ⟨g', 2 + j * 3 + 2, none⟩ = some (.int .i64 k.to) := fun g' H => by
    obtain ⟨a', cap, e, _, hr⟩ := H.slKept
    injection e with e1 e2 e3
    rcases hr with hr | ⟨b', off, hb, hr⟩
    · rw [hr] at h4k; cases h4k
    · rw [← e1] at hb
      injection hb with hb
      injection hb with h1 h2
      subst h1 h2
      exact hr.kp HKK.out
  have CQ : ∀ g', PBox w5 g' p (.slice xq p.ships.length cq) → w5.cell? ⟨g', 2 + j * 3, none⟩ = some (.int .i64 k.wd) ∧ w5.cell? ⟨g', 2 + j * 3 + 1, none⟩ = some (.int .i64 k.fr) ∧ w5.cell? ⟨g', 2 + j * 3 + 2, none⟩ = some (.int .i64 k.to) := fun g' H => by
    obtain ⟨a', cap, e, _, hr⟩ := H.slKept
    injection e with e1 e2 e3
    rcases hr with hr | ⟨b', off, hb, hr⟩
    · rw [hr] at h4k; cases h4k
    · rw [← e1] at hb
      injection hb with hb
      injection hb with h1 h2
      subst h1 h2
      exact hr.kp HKK.out
  obtain ⟨c0, c1, c2⟩ := CP _ EX.out.box
  obtain ⟨d0, d1, d2⟩ := CQ _ EX.out.q.1
  clear CP CQ
  have hj3 : (j : Int) < 4 := by omega
  have hj0 : (0 : Int) ≤ (j : Int) := by omega
  have b1 : inR (j : Int) 0 3 = true := decide_eq_true ⟨by omega, by omega⟩
  by_cases hw : k.wd = 0
  · have b2 : (k.wd == 0) = true := by simp [hw]
    have UN : Hid (ObeyIs p ⟨kd, (j : Int), b, c⟩ 0 3 p) := by
      have hk := HK.out; unfold ObeyIs; rw [if_neg (by simp only; omega), if_neg (by simp only; omega), if_neg (by simp only; omega), if_pos hk]
      refine Or.inr (Or.inl ⟨j, k, rfl, hj, HKK.out, isNo_iff.2 ?_, rfl, rfl, rfl⟩)
      rcases IK.out with h | h
      · exact h
      · have := h.1.1; omega
    clear hw
    go_wp2_with (go_at_call 54; refine (refWithin3 _ _ _ _).mono ?_; rintro e w' ⟨rfl, rfl⟩)
    go_wp2_with (first | (go_at_call 75; refine (refNo_any w.heap.size p (.slice va p.ships.length vcap) _ _ EX.out.box on0).mono ?_; rintro e we ⟨rfl, hbe⟩; have EY : Hid (TB w p (.slice va p.ships.length vcap) ⟨kd, (j : Int), b, c⟩ g p (.slice xq p.ships.length cq) we) := EX.out.later hbe; clear hbe) | (refine wpList_store_box rfl _ _ rfl (w.heap.size + 1 + 1) zeroPt p (.slice none 0 0) (.slice va p.ships.length vcap) rfl rfl EY.out.out h4 on0 ?_; intro w9 hw9 hs9))
    refine bodyPost_ret (v := .tuple #[.agg (portCells p (.slice va p.ships.length vcap)).toArray, .int .i64 0, .int .i64 3]) (results_box_tmps Try.results45 _ _ (w.heap.size + 1 + 1) p (.slice va p.ships.length vcap) rfl hw9.out.1) rfl ?_
    exact FIN.out 3 _ (REF.out 3 (by decide) ⟨0, p, UN.out⟩) (EY.out.below.trans (hw9.out.2.2 _ (by omega)))
  have b2 : (k.wd == 0) = false := by simp [hw]
  have OI0 : Hid (ObeyIs p ⟨kd, (j : Int), b, c⟩ 0 0 { p with kept := p.kept.set j ⟨0, 0, 0⟩ }) := by
    have hk := HK.out; unfold ObeyIs; rw [if_neg (by simp only; omega), if_neg (by simp only; omega), if_neg (by simp only; omega), if_pos hk]
    refine Or.inr (Or.inr ⟨j, k, rfl, hj, HKK.out, ?_, rfl, rfl, rfl⟩)
    cases e : isNo k
    · rfl
    · exact absurd (isNo_iff.1 e).1 hw
  have f0 := EX.out.q.1.frozen (2 + j * 3)
  have f1 := EX.out.q.1.frozen (2 + j * 3 + 1)
  have f2 := EX.out.q.1.frozen (2 + j * 3 + 2)
  have EQ0 : Hid (TB w p (.slice va p.ships.length vcap) ⟨kd, (j : Int), b, c⟩ g { p with kept := p.kept.set j ⟨0, 0, 0⟩ } (.slice xq p.ships.length cq) (((w5.setCell ⟨g, 2 + j * 3, none⟩ (.int .i64 0)).setCell ⟨g, 2 + j * 3 + 1, none⟩ (.int .i64 0)).setCell ⟨g, 2 + j * 3 + 2, none⟩ (.int .i64 0))) := by
    have K := EX.out.q.setKept hj 0 0 0
    exact EX.out.turn K.2 K.1
  clear hw
  go_upto_region 52 with (go_at_call 54; refine (refWithin3 _ _ _ _).mono ?_; rintro e w' ⟨rfl, rfl⟩)
  clear c0 c1 c2 d0 d1 d2 f0 f1 f2 EX oc0 oc1 oc2 oc3 pc0 pc1 pc14 pc15
  generalize ({ p with kept := p.kept.set j ⟨0, 0, 0⟩ } : Pt) = q' at OI0 EQ0
  generalize (.slice xq p.ships.length cq : Value) = vq' at EQ0
  generalize ((w'.setCell ⟨g, 2 + j * 3, none⟩ (.int .i64 0)).setCell ⟨g, 2 + j * 3 + 1, none⟩ (.int .i64 0)).setCell ⟨g, 2 + j * 3 + 2, none⟩ (.int .i64 0) = W' at *
  have OI := OI0
  have EQ := EQ0
  clear OI0 EQ0 GR
  have Q0 : Hid (IsPort0 q' ∧ (okTo q' 300 = true ↔ IsPort q')) := ⟨obey_port0 HP.out OI.out, port0_ok (obey_port0 HP.out OI.out)⟩
  have onq : vq'.oneCell' = true := ownsRow_one EQ.out.q.2.1
  have hq4 : q'.kept.length = 4 := EQ.out.q.1.1
  have hql : q'.ships.length ≤ 2932031007317 := by have := Q0.out.1.len; omega
  have HB := fun W h => refBase_any (.agg (portCells q' vq').toArray) q' W h Q0.out.1.baseIn
  have PV : Hid (PtV W' (.agg (portCells q' vq').toArray) q') := ⟨vq', rfl, slK_ofRow EQ.out.q.2.1, hq4, hql⟩
  generalize hQC : (portCells q' vq').toArray = QC at HB PV
  have HQC : Hid ((portCells q' vq').toArray = QC) := hQC
  clear hQC
  go_wp2_with (refine wpList_load_box rfl _ rfl g q' vq' rfl EQ.out.q.1 ?_; rw [HQC.out])
  refine (HB _ PV.out).mono ?_
  rintro e wf ⟨f, rfl, hf3, _, hbf⟩
  have EF : Hid (TB w p (.slice va p.ships.length vcap) ⟨kd, (j : Int), b, c⟩ g q' vq' wf) := EQ.out.later hbf
  clear hbf EQ HB PV
  generalize hFA : (ic f).toArray = FA at *
  have HFA : Hid ((ic f).toArray = FA) := hFA
  clear hFA
  generalize okTo q' 300 = ok at *
  go_upto_region 53 with (first | (refine wpList_alloc_arr rfl rfl 12 rfl ?_; intro wg hwg hsg) | (refine wpList_store_arr rfl _ _ rfl wf.heap.size zero300 f rfl (by show Value.agg FA = _; rw [HFA.out]) hwg.out.1 hf3 ?_; intro wh hwh hsh))
  have EX : Hid (TB w p (.slice va p.ships.length vcap) ⟨kd, (j : Int), b, c⟩ g q' vq' wh) := EF.out.later (hwg.out.2.trans (hwh.out.2.2 _ (Nat.le_refl _)))
  clear hwg hwh hsg hsh EF
  cases ok
  · have NP : Hid (¬ IsPort q') := fun h => by have := Q0.out.2.2 h; cases this
    go_wp2_with (first | (go_at_call 75; refine (refNo_any w.heap.size p (.slice va p.ships.length vcap) _ _ EX.out.box on0).mono ?_; rintro e we ⟨rfl, hbe⟩; have EY : Hid (TB w p (.slice va p.ships.length vcap) ⟨kd, (j : Int), b, c⟩ g q' vq' we) := EX.out.later hbe; clear hbe) | (refine wpList_store_box rfl _ _ rfl (w.heap.size + 1 + 1) zeroPt p (.slice none 0 0) (.slice va p.ships.length vcap) rfl rfl EY.out.out h4 on0 ?_; intro w9 hw9 hs9))
    refine bodyPost_ret (v := .tuple #[.agg (portCells p (.slice va p.ships.length vcap)).toArray, .int .i64 0, .int .i64 6]) (results_box_tmps Try.results45 _ _ (w.heap.size + 1 + 1) p (.slice va p.ships.length vcap) rfl hw9.out.1) rfl ?_
    exact FIN.out 6 _ (Or.inr ⟨HP.out, 0, 0, q', OI.out, Or.inr (Or.inl ⟨rfl, NP.out, rfl, rfl, rfl⟩)⟩) (EY.out.below.trans (hw9.out.2.2 _ (by omega)))
  · have YP : Hid (IsPort q') := Q0.out.2.1 rfl
    go_wp2_with (first | (refine wpList_load_box rfl _ rfl g q' vq' rfl EX.out.q.1 ?_) | (refine wpList_store_box rfl _ _ rfl (w.heap.size + 1 + 1) zeroPt q' (.slice none 0 0) vq' rfl rfl EX.out.out hq4 onq ?_; intro w9 hw9 hs9))
    refine bodyPost_ret (v := .tuple #[.agg (portCells q' vq').toArray, .int .i64 0, .int .i64 0]) (results_box_tmps Try.results45 _ _ (w.heap.size + 1 + 1) q' vq' rfl hw9.out.1) rfl ?_
    exact ⟨q', vq', 0, 0, rfl, Or.inr ⟨HP.out, 0, 0, q', OI.out, Or.inr (Or.inr ⟨rfl, YP.out, rfl, rfl, rfl⟩)⟩, hq4, hql, slK_ofRow (ownsRow_same EX.out.q.2.1 (fun k hk => hw9.out.2.1 k (by omega))), EX.out.below.trans (hw9.out.2.2 _ (by omega))⟩

end Go.Proofs.Ytfdnbgfgjelkcaa
