/- Texts of this claim, in one: RefTellC. -/
import Derived.Test.YtfdnbgfgjelkcaaQI
/- A port behind an order, by the document's own answer: TellPort, of the kind Shut. -/
set_option linter.unusedSimpArgs false
set_option linter.unusedVariables false
namespace Go.Proofs.Ytfdnbgfgjelkcaa
open Go.RowKit


set_option maxHeartbeats 8000000 in
set_option maxRecDepth 100000 in
theorem refTell_shut (v : Value) (p : Pt) (kd a b c : Int) (w : World) (hv : PtV w v p) (hp : IsPort p) (hk : kd = 8) :
    Calls Try.prog 45 #[v, .agg #[.int .i64 kd, .int .i64 a, .int .i64 b, .int .i64 c]] w fun e w' => RefTellPost w (TellIs (ObeyIs p ⟨kd, a, b, c⟩) p) e w' := by
  have HK : Hid (kd = 8) := hk
  clear hk
  obtain ⟨vs, rfl, hsl, h4, hmx⟩ := hv
  have HV : Hid (PtV w (.agg (portCells p vs).toArray) p) := ⟨vs, rfl, hsl, h4, hmx⟩
  have HS0 : Hid (SlK cShip w vs p.ships) := hsl
  have on0 : vs.oneCell' = true := by obtain ⟨a, cap, rfl, _⟩ := hsl; rfl
  have X1 := PBox.new w p vs h4
  have HG := fun W h => refIsPort_any (.agg (portCells p vs).toArray) p W h
  have HW := fun W h => refCopy_any (.agg (portCells p vs).toArray) p W h
  obtain ⟨va, vcap, hve⟩ : ∃ a cap, vs = .slice a p.ships.length cap := by obtain ⟨a, cap, e, _⟩ := hsl; exact ⟨a, cap, e⟩
  subst hve
  clear hsl
  generalize hPC : (portCells p (.slice va p.ships.length vcap)).toArray = PC at *
  have HPC : Hid ((portCells p (.slice va p.ships.length vcap)).toArray = PC) := hPC
  clear hPC
  have hz1 : (w.alloc (.cells PC 46)).heap.size = w.heap.size + 1 := by simp
  have O1 := OBox.new (w.alloc (.cells PC 46)) ⟨kd, a, b, c⟩
  rw [hz1] at O1
  have hz2 : ((w.alloc (.cells PC 46)).alloc (.cells #[.int .i64 kd, .int .i64 a, .int .i64 b, .int .i64 c] 61)).heap.size = w.heap.size + 1 + 1 := by simp
  have X0 : Hid (PBox ((w.alloc (.cells PC 46)).alloc (.cells #[.int .i64 kd, .int .i64 a, .int .i64 b, .int .i64 c] 61)) w.heap.size p (.slice va p.ships.length vcap) ∧ OBox ((w.alloc (.cells PC 46)).alloc (.cells #[.int .i64 kd, .int .i64 a, .int .i64 b, .int .i64 c] 61)) (w.heap.size + 1) ⟨kd, a, b, c⟩) := ⟨X1.later ((Below.refl _ _).alloc (Nat.le_refl _) _) X1.lt, O1⟩
  have B0 : Hid (Below w.heap.size w ((w.alloc (.cells PC 46)).alloc (.cells #[.int .i64 kd, .int .i64 a, .int .i64 b, .int .i64 c] 61))) := ((Below.refl _ w).alloc (Nat.le_refl _) _).alloc (by omega) _
  have HZ2 : Hid (((w.alloc (.cells PC 46)).alloc (.cells #[.int .i64 kd, .int .i64 a, .int .i64 b, .int .i64 c] 61)).heap.size = w.heap.size + 1 + 1) := hz2
  clear X1 O1 hz1 hz2
  generalize hW0 : (w.alloc (.cells PC 46)).alloc (.cells #[.int .i64 kd, .int .i64 a, .int .i64 b, .int .i64 c] 61) = W0 at *
  go_enter Try.func45, Try.ntmps45
  go_upto_region 1 with (first | (rw [hW0]) | (refine wpList_alloc_box rfl rfl 4 rfl ?_; intro w1 hw1 hs1))
  rw [HZ2.out] at hw1 hs1 ⊢
  have T1 : Hid (Below w.heap.size w w1 ∧ PBox w1 w.heap.size p (.slice va p.ships.length vcap) ∧ OBox w1 (w.heap.size + 1) ⟨kd, a, b, c⟩ ∧ PBox w1 (w.heap.size + 1 + 1) zeroPt (.slice none 0 0) ∧ w1.heap.size = w.heap.size + 1 + 1 + 1) := ⟨B0.out.trans (hw1.out.2.mono (by omega)), X0.out.1.later hw1.out.2 (by omega), X0.out.2.later hw1.out.2 (by omega), hw1.out.1, hs1⟩
  clear hw1 hs1 X0 B0 HZ2 hW0
  go_wp2_with (refine wpList_load_box rfl _ rfl w.heap.size p (.slice va p.ships.length vcap) rfl T1.out.2.1 ?_; rw [HPC.out])
  refine (HG _ (HV.out.below T1.out.1)).mono ?_
  rintro e w2 ⟨⟨b2, rfl, hb2⟩, hw2⟩
  have T2 : Hid (Below w.heap.size w w2 ∧ PBox w2 w.heap.size p (.slice va p.ships.length vcap) ∧ OBox w2 (w.heap.size + 1) ⟨kd, a, b, c⟩ ∧ PBox w2 (w.heap.size + 1 + 1) zeroPt (.slice none 0 0) ∧ w.heap.size + 1 + 1 + 1 ≤ w2.heap.size) := ⟨T1.out.1.trans (hw2.mono (by have := T1.out.2.2.2.2; omega)), T1.out.2.1.later hw2 T1.out.2.1.lt, T1.out.2.2.1.later hw2 T1.out.2.2.1.lt, T1.out.2.2.2.1.later hw2 T1.out.2.2.2.1.lt, by have := T1.out.2.2.2.2; have := hw2.size; omega⟩
  have HB : Hid (b2 = true ↔ IsPort p) := hb2
  clear T1 hw2 hb2 HG
  obtain rfl : b2 = true := HB.out.2 hp
  have HP : Hid (IsPort p) := hp
  have hlen : p.ships.length < 15 := hp.port.len
  obtain ⟨hnow0, hnow1⟩ := hp.port.now
  clear hp HB
  go_upto_region 4 with fail
  go_wp2_with (refine wpList_load_box rfl _ rfl w.heap.size p (.slice va p.ships.length vcap) rfl T2.out.2.1 ?_; rw [HPC.out])
  refine (HW _ (HV.out.below T2.out.1)).mono ?_
  rintro e w3 ⟨vq, rfl, hro, hb3⟩
  have T3 : Hid (Below w.heap.size w w3 ∧ PBox w3 w.heap.size p (.slice va p.ships.length vcap) ∧ OBox w3 (w.heap.size + 1) ⟨kd, a, b, c⟩ ∧ PBox w3 (w.heap.size + 1 + 1) zeroPt (.slice none 0 0) ∧ w3.ownsRow (w.heap.size + 1 + 1 + 1) 48 6 vq p.ships.length (cellsK cShip p.ships) ∧ w.heap.size + 1 + 1 + 1 ≤ w3.heap.size) := ⟨T2.out.1.trans (hb3.mono (by have := T2.out.2.2.2.2; omega)), T2.out.2.1.later hb3 T2.out.2.1.lt, T2.out.2.2.1.later hb3 T2.out.2.2.1.lt, T2.out.2.2.2.1.later hb3 T2.out.2.2.2.1.lt, ownsRow_mono hro T2.out.2.2.2.2, by have := T2.out.2.2.2.2; have := hb3.size; omega⟩
  have on := ownsRow_one hro
  obtain ⟨xq, cq, hvq⟩ := ownsRow_slice hro
  subst hvq
  clear T2 hro hb3 HW
  go_upto_region 5 with (first | (refine wpList_alloc_box rfl rfl 8 rfl ?_; intro w4 hw4 hs4) | (refine wpList_store_box rfl _ _ rfl w3.heap.size zeroPt p (.slice none 0 0) (.slice xq p.ships.length cq) rfl rfl hw4.out.1 h4 on ?_; intro w5 hw5 hs5))
  have EX : Hid (TB w p (.slice va p.ships.length vcap) ⟨kd, a, b, c⟩ w3.heap.size p (.slice xq p.ships.length cq) w5) := by
    have hb : Below w3.heap.size w3 w5 := hw4.out.2.trans (hw5.out.2.2 _ (Nat.le_refl _))
    have hz := T3.out.2.2.2.2.2
    have hzz := hb.size
    exact ⟨T3.out.1.trans (hb.mono (by omega)), T3.out.2.1.later hb (by omega), T3.out.2.2.1.later hb (by omega), T3.out.2.2.2.1.later hb (by omega), hw5.out.1, ownsRow_later T3.out.2.2.2.2.1 hb, by omega, by omega⟩
  have GR : Hid ((Value.slice xq p.ships.length cq).ownBlock ≠ some w3.heap.size) := fun e => by
    have := (T3.out.2.2.2.2.1.lt _ e).2
    omega
  generalize w3.heap.size = g at *
  clear hw4 hw5 hs4 hs5 T3 on
  obtain ⟨oc0, oc1, oc2, oc3⟩ := EX.out.ord.cells
  obtain ⟨pc0, pc1, pc14, pc15⟩ := EX.out.box.cells
  simp only at oc0 oc1 oc2 oc3
  have FIN : Hid (∀ er w', TellIs (ObeyIs p ⟨kd, a, b, c⟩) p 0 er p → Below w.heap.size w w' → RefTellPost w (TellIs (ObeyIs p ⟨kd, a, b, c⟩) p) (.returned (.tuple #[.agg (portCells p (.slice va p.ships.length vcap)).toArray, .int .i64 0, .int .i64 er])) w') := fun er w' hT hb => ⟨p, (.slice va p.ships.length vcap), 0, er, rfl, hT, h4, hmx, HS0.out.below hb, hb⟩
  have REF : Hid (∀ er, er ≠ 0 → (∃ n q', ObeyIs p ⟨kd, a, b, c⟩ n er q') → TellIs (ObeyIs p ⟨kd, a, b, c⟩) p 0 er p) := fun er h0 ⟨n, q', h⟩ => Or.inr ⟨HP.out, n, er, q', h, Or.inl ⟨h0, rfl, rfl, rfl⟩⟩
  clear HS0 HV
  have j1 : (kd == 1) = false := by have hk := HK.out; simp; omega
  have j2 : (kd == 2) = false := by have hk := HK.out; simp; omega
  have j3 : (kd == 3) = false := by have hk := HK.out; simp; omega
  have j4 : (kd == 4) = false := by have hk := HK.out; simp; omega
  have j5 : (kd == 5) = false := by have hk := HK.out; simp; omega
  have j6 : (kd == 6) = false := by have hk := HK.out; simp; omega
  have j7 : (kd == 7) = false := by have hk := HK.out; simp; omega
  have j8 : (kd == 8) = true := by have hk := HK.out; simp; exact hk
  rcases pinR_or a 0 16 with b1 | b1
  case inr =>
    have UN : Hid (ObeyIs p ⟨kd, a, b, c⟩ 0 2 p) := by have hk := HK.out; unfold ObeyIs; rw [if_neg (by simp only; omega), if_neg (by simp only; omega), if_neg (by simp only; omega), if_neg (by simp only; omega), if_pos hk]; exact ⟨rfl, Or.inr ⟨pinR_no b1, rfl, rfl⟩⟩
    go_wp2_with (go_at_call 54; refine (refWithin3 _ _ _ _).mono ?_; rintro e w' ⟨rfl, rfl⟩)
    go_wp2_with (first | (go_at_call 75; refine (refNo_any w.heap.size p (.slice va p.ships.length vcap) _ _ EX.out.box on0).mono ?_; rintro e we ⟨rfl, hbe⟩; have EY : Hid (TB w p (.slice va p.ships.length vcap) ⟨kd, a, b, c⟩ g p (.slice xq p.ships.length cq) we) := EX.out.later hbe; clear hbe) | (refine wpList_store_box rfl _ _ rfl (w.heap.size + 1 + 1) zeroPt p (.slice none 0 0) (.slice va p.ships.length vcap) rfl rfl EY.out.out h4 on0 ?_; intro w9 hw9 hs9))
    refine bodyPost_ret (v := .tuple #[.agg (portCells p (.slice va p.ships.length vcap)).toArray, .int .i64 0, .int .i64 2]) (results_box_tmps Try.results45 _ _ (w.heap.size + 1 + 1) p (.slice va p.ships.length vcap) rfl hw9.out.1) rfl ?_
    exact FIN.out 2 _ (REF.out 2 (by decide) ⟨0, p, UN.out⟩) (EY.out.below.trans (hw9.out.2.2 _ (by omega)))
  have OI0 : Hid (ObeyIs p ⟨kd, a, b, c⟩ 0 0 { p with shut := a }) := by have hk := HK.out; unfold ObeyIs; rw [if_neg (by simp only; omega), if_neg (by simp only; omega), if_neg (by simp only; omega), if_neg (by simp only; omega), if_pos hk]; exact ⟨rfl, Or.inl ⟨pinR_yes b1, rfl, rfl⟩⟩
  have c14 := EX.out.q.1.cells.2.2.1
  have f14 := EX.out.q.1.frozen 14
  have EQ0 : Hid (TB w p (.slice va p.ships.length vcap) ⟨kd, a, b, c⟩ g { p with shut := a } (.slice xq p.ships.length cq) (w5.setCell ⟨g, 14, none⟩ (.int .i64 a))) := by
    have H := EX.out.q
    have hb : Below (w.heap.size + 1 + 1 + 1) w5 (w5.setCell ⟨g, 14, none⟩ (.int .i64 a)) := (Below.refl _ w5).setCell (p := ⟨g, 14, none⟩) H.2.2.2 _
    exact EX.out.turn hb ⟨H.1.setShut a, rowShips_set H.1 H.2.1, Nat.le_trans H.2.2.1 hb.size, H.2.2.2⟩
  go_upto_region 52 with (go_at_call 54; refine (refWithin3 _ _ _ _).mono ?_; rintro e w' ⟨rfl, rfl⟩)
  clear c14 f14 EX oc0 oc1 oc2 oc3 pc0 pc1 pc14 pc15
  generalize ({ p with shut := a } : Pt) = q' at OI0 EQ0
  generalize (.slice xq p.ships.length cq : Value) = vq' at EQ0
  generalize w'.setCell ⟨g, 14, none⟩ (.int .i64 a) = W' at *
  have OI := OI0
  have EQ := EQ0
  clear OI0 EQ0 GR
  have Q0 : Hid (IsPort0 q' ∧ (okTo q' 300 = true ↔ IsPort q')) := ⟨obey_port0 HP.out OI.out, port0_ok (obey_port0 HP.out OI.out)⟩
  have onq : vq'.oneCell' = true := ownsRow_one EQ.out.q.2.1
  have hq4 : q'.kept.length = 4 := EQ.out.q.1.1
  have hql : q'.ships.length ≤ 2932031007317 := by have := Q0.out.1.len; omega
  have HB := fun W h => refBase_any (.agg (portCells q' vq').toArray) q' W h Q0.out.1.baseIn
  have PV : Hid (PtV W' (.agg (portCells q' vq').toArray) q') := ⟨vq', rfl, slK_ofRow EQ.out.q.2.1, hq4, hql⟩
  generalize hQC : (portCells q' vq').toArray = QC at HB PV
  have HQC : Hid ((portCells q' vq').toArray = QC) := hQC
  clear hQC
  go_wp2_with (refine wpList_load_box rfl _ rfl g q' vq' rfl EQ.out.q.1 ?_; rw [HQC.out])
  refine (HB _ PV.out).mono ?_
  rintro e wf ⟨f, rfl, hf3, _, hbf⟩
  have EF : Hid (TB w p (.slice va p.ships.length vcap) ⟨kd, a, b, c⟩ g q' vq' wf) := EQ.out.later hbf
  clear hbf EQ HB PV
  generalize hFA : (ic f).toArray = FA at *
  have HFA : Hid ((ic f).toArray = FA) := hFA
  clear hFA
  generalize okTo q' 300 = ok at *
  go_upto_region 53 with (first | (refine wpList_alloc_arr rfl rfl 12 rfl ?_; intro wg hwg hsg) | (refine wpList_store_arr rfl _ _ rfl wf.heap.size zero300 f rfl (by show Value.agg FA = _; rw [HFA.out]) hwg.out.1 hf3 ?_; intro wh hwh hsh))
  have EX : Hid (TB w p (.slice va p.ships.length vcap) ⟨kd, a, b, c⟩ g q' vq' wh) := EF.out.later (hwg.out.2.trans (hwh.out.2.2 _ (Nat.le_refl _)))
  clear hwg hwh hsg hsh EF
  cases ok
  · have NP : Hid (¬ IsPort q') := fun h => by have := Q0.out.2.2 h; cases this
    go_wp2_with (first | (go_at_call 75; refine (refNo_any w.heap.size p (.slice va p.ships.length vcap) _ _ EX.out.box on0).mono ?_; rintro e we ⟨rfl, hbe⟩; have EY : Hid (TB w p (.slice va p.ships.length vcap) ⟨kd, a, b, c⟩ g q' vq' we) := EX.out.later hbe; clear hbe) | (refine wpList_store_box rfl _ _ rfl (w.heap.size + 1 + 1) zeroPt p (.slice none 0 0) (.slice va p.ships.length vcap) rfl rfl EY.out.out h4 on0 ?_; intro w9 hw9 hs9))
    refine bodyPost_ret (v := .tuple #[.agg (portCells p (.slice va p.ships.length vcap)).toArray, .int .i64 0, .int .i64 6]) (results_box_tmps Try.results45 _ _ (w.heap.size + 1 + 1) p (.slice va p.ships.length vcap) rfl hw9.out.1) rfl ?_
    exact FIN.out 6 _ (Or.inr ⟨HP.out, 0, 0, q', OI.out, Or.inr (Or.inl ⟨rfl, NP.out, rfl, rfl, rfl⟩)⟩) (EY.out.below.trans (hw9.out.2.2 _ (by omega)))
  · have YP : Hid (IsPort q') := Q0.out.2.1 rfl
    go_wp2_with (first | (refine wpList_load_box rfl _ rfl g q' vq' rfl EX.out.q.1 ?_) | (refine wpList_store_box rfl _ _ rfl (w.heap.size + 1 + 1) zeroPt q' (.slice none 0 0) vq' rfl rfl EX.out.out hq4 onq ?_; intro w9 hw9 hs9))
    refine bodyPost_ret (v := .tuple #[.agg (portCells q' vq').toArray, .int .i64 0, .int .i64 0]) (results_box_tmps Try.results45 _ _ (w.heap.size + 1 + 1) q' vq' rfl hw9.out.1) rfl ?_
    exact ⟨q', vq', 0, 0, rfl, Or.inr ⟨HP.out, 0, 0, q', OI.out, Or.inr (Or.inr ⟨rfl, YP.out, rfl, rfl, rfl⟩)⟩, hq4, hql, slK_ofRow (ownsRow_same EX.out.q.2.1 (fun k hk => hw9.out.2.1 k (by omega))), EX.out.below.trans (hw9.out.2.2 _ (by omega))⟩

end Go.Proofs.Ytfdnbgfgjelkcaa
