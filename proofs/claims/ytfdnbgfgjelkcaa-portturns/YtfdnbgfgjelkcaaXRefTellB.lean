/- Texts of this claim, in one: RefTellB. -/
import Derived.Test.YtfdnbgfgjelkcaaQI
/- A port behind an order, by the document's own answer: TellPort, of a kind that there is not. -/
set_option linter.unusedSimpArgs false
set_option linter.unusedVariables false
namespace Go.Proofs.Ytfdnbgfgjelkcaa
open Go.RowKit


set_option maxHeartbeats 8000000 in
set_option maxRecDepth 100000 in
theorem refTell_else (v : Value) (p : Pt) (kd a b c : Int) (w : World) (hv : PtV w v p) (hp : IsPort p) (hk : ¬ (1 ≤ kd ∧ kd ≤ 8)) :
    Calls Try.prog 45 #[v, .agg #[.int .i64 kd, .int .i64 a, .int .i64 b, .int .i64 c]] w fun e w' => RefTellPost w (TellIs (ObeyIs p ⟨kd, a, b, c⟩) p) e w' := by
  obtain ⟨vs, rfl, hsl, h4, hmx⟩ := hv
  have HV : Hid (PtV w (.agg (portCells p vs).toArray) p) := ⟨vs, rfl, hsl, h4, hmx⟩
  have HS0 : Hid (SlK cShip w vs p.ships) := hsl
  have on0 : vs.oneCell' = true := by obtain ⟨a, cap, rfl, _⟩ := hsl; rfl
  have X1 := PBox.new w p vs h4
  have HG := fun W h => refIsPort_any (.agg (portCells p vs).toArray) p W h
  have HW := fun W h => refCopy_any (.agg (portCells p vs).toArray) p W h
  obtain ⟨va, vcap, hve⟩ : ∃ a cap, vs = .slice a p.ships.length cap := by obtain ⟨a, cap, e, _⟩ := hsl; exact ⟨a, cap, e⟩
  subst hve
  clear hsl
  generalize hPC : (portCells p (.slice va p.ships.length vcap)).toArray = PC at *
  have HPC : Hid ((portCells p (.slice va p.ships.length vcap)).toArray = PC) := hPC
  clear hPC
  have hz1 : (w.alloc (.cells PC 46)).heap.size = w.heap.size + 1 := by simp
  have O1 := OBox.new (w.alloc (.cells PC 46)) ⟨kd, a, b, c⟩
  rw [hz1] at O1
  have hz2 : ((w.alloc (.cells PC 46)).alloc (.cells #[.int .i64 kd, .int .i64 a, .int .i64 b, .int .i64 c] 61)).heap.size = w.heap.size + 1 + 1 := by simp
  have X0 : Hid (PBox ((w.alloc (.cells PC 46)).alloc (.cells #[.int .i64 kd, .int .i64 a, .int .i64 b, .int .i64 c] 61)) w.heap.size p (.slice va p.ships.length vcap) ∧ OBox ((w.alloc (.cells PC 46)).alloc (.cells #[.int .i64 kd, .int .i64 a, .int .i64 b, .int .i64 c] 61)) (w.heap.size + 1) ⟨kd, a, b, c⟩) := ⟨X1.later ((Below.refl _ _).alloc (Nat.le_refl _) _) X1.lt, O1⟩
  have B0 : Hid (Below w.heap.size w ((w.alloc (.cells PC 46)).alloc (.cells #[.int .i64 kd, .int .i64 a, .int .i64 b, .int .i64 c] 61))) := ((Below.refl _ w).alloc (Nat.le_refl _) _).alloc (by omega) _
  have HZ2 : Hid (((w.alloc (.cells PC 46)).alloc (.cells #[.int .i64 kd, .int .i64 a, .int .i64 b, .int .i64 c] 61)).heap.size = w.heap.size + 1 + 1) := hz2
  clear X1 O1 hz1 hz2
  generalize hW0 : (w.alloc (.cells PC 46)).alloc (.cells #[.int .i64 kd, .int .i64 a, .int .i64 b, .int .i64 c] 61) = W0 at *
  go_enter Try.func45, Try.ntmps45
  go_upto_region 1 with (first | (rw [hW0]) | (refine wpList_alloc_box rfl rfl 4 rfl ?_; intro w1 hw1 hs1))
  rw [HZ2.out] at hw1 hs1 ⊢
  have T1 : Hid (Below w.heap.size w w1 ∧ PBox w1 w.heap.size p (.slice va p.ships.length vcap) ∧ OBox w1 (w.heap.size + 1) ⟨kd, a, b, c⟩ ∧ PBox w1 (w.heap.size + 1 + 1) zeroPt (.slice none 0 0) ∧ w1.heap.size = w.heap.size + 1 + 1 + 1) := ⟨B0.out.trans (hw1.out.2.mono (by omega)), X0.out.1.later hw1.out.2 (by omega), X0.out.2.later hw1.out.2 (by omega), hw1.out.1, hs1⟩
  clear hw1 hs1 X0 B0 HZ2 hW0
  go_wp2_with (refine wpList_load_box rfl _ rfl w.heap.size p (.slice va p.ships.length vcap) rfl T1.out.2.1 ?_; rw [HPC.out])
  refine (HG _ (HV.out.below T1.out.1)).mono ?_
  rintro e w2 ⟨⟨b2, rfl, hb2⟩, hw2⟩
  have T2 : Hid (Below w.heap.size w w2 ∧ PBox w2 w.heap.size p (.slice va p.ships.length vcap) ∧ OBox w2 (w.heap.size + 1) ⟨kd, a, b, c⟩ ∧ PBox w2 (w.heap.size + 1 + 1) zeroPt (.slice none 0 0) ∧ w.heap.size + 1 + 1 + 1 ≤ w2.heap.size) := ⟨T1.out.1.trans (hw2.mono (by have := T1.out.2.2.2.2; omega)), T1.out.2.1.later hw2 T1.out.2.1.lt, T1.out.2.2.1.later hw2 T1.out.2.2.1.lt, T1.out.2.2.2.1.later hw2 T1.out.2.2.2.1.lt, by have := T1.out.2.2.2.2; have := hw2.size; omega⟩
  have HB : Hid (b2 = true ↔ IsPort p) := hb2
  clear T1 hw2 hb2 HG
  obtain rfl : b2 = true := HB.out.2 hp
  have HP : Hid (IsPort p) := hp
  have hlen : p.ships.length < 15 := hp.port.len
  obtain ⟨hnow0, hnow1⟩ := hp.port.now
  clear hp HB
  go_upto_region 4 with fail
  go_wp2_with (refine wpList_load_box rfl _ rfl w.heap.size p (.slice va p.ships.length vcap) rfl T2.out.2.1 ?_; rw [HPC.out])
  refine (HW _ (HV.out.below T2.out.1)).mono ?_
  rintro e w3 ⟨vq, rfl, hro, hb3⟩
  have T3 : Hid (Below w.heap.size w w3 ∧ PBox w3 w.heap.size p (.slice va p.ships.length vcap) ∧ OBox w3 (w.heap.size + 1) ⟨kd, a, b, c⟩ ∧ PBox w3 (w.heap.size + 1 + 1) zeroPt (.slice none 0 0) ∧ w3.ownsRow (w.heap.size + 1 + 1 + 1) 48 6 vq p.ships.length (cellsK cShip p.ships) ∧ w.heap.size + 1 + 1 + 1 ≤ w3.heap.size) := ⟨T2.out.1.trans (hb3.mono (by have := T2.out.2.2.2.2; omega)), T2.out.2.1.later hb3 T2.out.2.1.lt, T2.out.2.2.1.later hb3 T2.out.2.2.1.lt, T2.out.2.2.2.1.later hb3 T2.out.2.2.2.1.lt, ownsRow_mono hro T2.out.2.2.2.2, by have := T2.out.2.2.2.2; have := hb3.size; omega⟩
  have on := ownsRow_one hro
  obtain ⟨xq, cq, hvq⟩ := ownsRow_slice hro
  subst hvq
  clear T2 hro hb3 HW
  go_upto_region 5 with (first | (refine wpList_alloc_box rfl rfl 8 rfl ?_; intro w4 hw4 hs4) | (refine wpList_store_box rfl _ _ rfl w3.heap.size zeroPt p (.slice none 0 0) (.slice xq p.ships.length cq) rfl rfl hw4.out.1 h4 on ?_; intro w5 hw5 hs5))
  have EX : Hid (TB w p (.slice va p.ships.length vcap) ⟨kd, a, b, c⟩ w3.heap.size p (.slice xq p.ships.length cq) w5) := by
    have hb : Below w3.heap.size w3 w5 := hw4.out.2.trans (hw5.out.2.2 _ (Nat.le_refl _))
    have hz := T3.out.2.2.2.2.2
    have hzz := hb.size
    exact ⟨T3.out.1.trans (hb.mono (by omega)), T3.out.2.1.later hb (by omega), T3.out.2.2.1.later hb (by omega), T3.out.2.2.2.1.later hb (by omega), hw5.out.1, ownsRow_later T3.out.2.2.2.2.1 hb, by omega, by omega⟩
  have GR : Hid ((Value.slice xq p.ships.length cq).ownBlock ≠ some w3.heap.size) := fun e => by
    have := (T3.out.2.2.2.2.1.lt _ e).2
    omega
  generalize w3.heap.size = g at *
  clear hw4 hw5 hs4 hs5 T3 on
  obtain ⟨oc0, oc1, oc2, oc3⟩ := EX.out.ord.cells
  obtain ⟨pc0, pc1, pc14, pc15⟩ := EX.out.box.cells
  simp only at oc0 oc1 oc2 oc3
  have FIN : Hid (∀ er w', TellIs (ObeyIs p ⟨kd, a, b, c⟩) p 0 er p → Below w.heap.size w w' → RefTellPost w (TellIs (ObeyIs p ⟨kd, a, b, c⟩) p) (.returned (.tuple #[.agg (portCells p (.slice va p.ships.length vcap)).toArray, .int .i64 0, .int .i64 er])) w') := fun er w' hT hb => ⟨p, (.slice va p.ships.length vcap), 0, er, rfl, hT, h4, hmx, HS0.out.below hb, hb⟩
  have REF : Hid (∀ er, er ≠ 0 → (∃ n q', ObeyIs p ⟨kd, a, b, c⟩ n er q') → TellIs (ObeyIs p ⟨kd, a, b, c⟩) p 0 er p) := fun er h0 ⟨n, q', h⟩ => Or.inr ⟨HP.out, n, er, q', h, Or.inl ⟨h0, rfl, rfl, rfl⟩⟩
  clear HS0 HV
  have j1 : (kd == 1) = false := by simp; omega
  have j2 : (kd == 2) = false := by simp; omega
  have j3 : (kd == 3) = false := by simp; omega
  have j4 : (kd == 4) = false := by simp; omega
  have j5 : (kd == 5) = false := by simp; omega
  have j6 : (kd == 6) = false := by simp; omega
  have j7 : (kd == 7) = false := by simp; omega
  have j8 : (kd == 8) = false := by simp; omega
  go_wp2_with (go_at_call 54; refine (refWithin3 _ _ _ _).mono ?_; rintro e w' ⟨rfl, rfl⟩)
  go_wp2_with (first | (go_at_call 75; refine (refNo_any w.heap.size p (.slice va p.ships.length vcap) _ _ EX.out.box on0).mono ?_; rintro e we ⟨rfl, hbe⟩; have EY : Hid (TB w p (.slice va p.ships.length vcap) ⟨kd, a, b, c⟩ g p (.slice xq p.ships.length cq) we) := EX.out.later hbe; clear hbe) | (refine wpList_store_box rfl _ _ rfl (w.heap.size + 1 + 1) zeroPt p (.slice none 0 0) (.slice va p.ships.length vcap) rfl rfl EY.out.out h4 on0 ?_; intro w9 hw9 hs9))
  refine bodyPost_ret (v := .tuple #[.agg (portCells p (.slice va p.ships.length vcap)).toArray, .int .i64 0, .int .i64 1]) (results_box_tmps Try.results45 _ _ (w.heap.size + 1 + 1) p (.slice va p.ships.length vcap) rfl hw9.out.1) rfl ?_
  exact FIN.out 1 _ (REF.out 1 (by decide) ⟨0, p, by unfold ObeyIs; rw [if_neg (by simp only; omega), if_neg (by simp only; omega), if_neg (by simp only; omega), if_neg (by simp only; omega), if_neg (by simp only; omega)]; exact ⟨rfl, rfl, rfl⟩⟩) (EY.out.below.trans (hw9.out.2.2 _ (by omega)))

end Go.Proofs.Ytfdnbgfgjelkcaa
