/- When ships that wait come in: the walk of Plan of package port: P2.5. -/
import Derived.Test.YtghhegajbehpeaaPPlanW
set_option linter.unusedSimpArgs false
set_option linter.unusedVariables false
namespace Go.Proofs.Ytghhegajbehpeaa
open Go.RowKit


set_option maxHeartbeats 4000000 in
set_option maxRecDepth 100000 in
theorem plan_any (v : Value) (p : Pt) (w : World) (hv : PtV w v p) (hp : IsPort p) :
    Calls Try.prog 42 #[v] w fun e w' => (∃ v', e = .returned v' ∧ Hid (∃ pl, PlanIs p pl ∧ Far w.heap.size v' ∧ SlK cInt w' v' pl)) ∧ Below w.heap.size w w' := by
  obtain ⟨vs, rfl, ⟨a, cap, rfl, hcap, hrd⟩, h4, hmx⟩ := hv
  have HV : Hid (PtV w (.agg (portCells p (.slice a p.ships.length cap)).toArray) p) := ⟨_, rfl, ⟨a, cap, rfl, hcap, hrd⟩, h4, hmx⟩
  have HR : Hid (p.ships = [] ∨ ∃ b off, a = some ⟨b, off, none⟩ ∧ RdK cShip w b off p.ships) := hrd
  have HP : Hid (IsPort p) := hp
  have X0 : Hid (PBox (w.alloc (.cells (portCells p (.slice a p.ships.length cap)).toArray 46)) w.heap.size p (.slice a p.ships.length cap)) := PBox.new w p _ h4
  have B0 : Hid (Below w.heap.size w (w.alloc (.cells (portCells p (.slice a p.ships.length cap)).toArray 46))) := (Below.refl _ w).alloc (Nat.le_refl _) _
  have HBA := fun W h => base_any (.agg (portCells p (.slice a p.ships.length cap)).toArray) p W h (WfQ.of hp)
  have HRA := fun W h => ranked_any (.agg (portCells p (.slice a p.ships.length cap)).toArray) p W h hp.port
  have hlen : p.ships.length < 15 := hp.port.len
  obtain ⟨hnow0, hnow1⟩ := hp.port.now
  clear hrd hp
  generalize hPC : (portCells p (.slice a p.ships.length cap)).toArray = PC at *
  have HPC : Hid ((portCells p (.slice a p.ships.length cap)).toArray = PC) := hPC
  clear hPC
  have X1 : Hid (PBox ((w.alloc (.cells PC 46)).alloc (.cells #[.int .i64 (-1)] 3)) w.heap.size p (.slice a p.ships.length cap)) := X0.out.later ((Below.refl _ _).alloc (Nat.le_refl _) _) X0.out.lt
  have B1 : Hid (Below w.heap.size w ((w.alloc (.cells PC 46)).alloc (.cells #[.int .i64 (-1)] 3))) := B0.out.alloc B0.out.size _
  have C1 : Hid (((w.alloc (.cells PC 46)).alloc (.cells #[.int .i64 (-1)] 3)).cell? ⟨(w.alloc (.cells PC 46)).heap.size, 0, none⟩ = some (.int .i64 (-1))) := by
    exact (rdK_one (w.alloc (.cells PC 46)) 3 (-1)).int (j := 0) rfl
  have Z1 : Hid (w.heap.size + 1 < ((w.alloc (.cells PC 46)).alloc (.cells #[.int .i64 (-1)] 3)).heap.size) := by show _ < _; simp
  obtain ⟨pc0, pc1, pc14, pc15⟩ := X0.out.cells
  obtain ⟨qc0, qc1, qc14, qc15⟩ := X1.out.cells
  have HRP := fun b n hn W hc => repeat_any b n hn W hc
  go_enter Try.func42, Try.ntmps42
  go_wp2_with fail
  generalize hWB : (w.alloc (.cells PC 46)).alloc (.cells #[.int .i64 (-1)] 3) = WB at *
  refine (HRP _ p.ships.length (by omega) _ (by first | exact C1.out | (have h := C1.out; simpa using h))).mono ?_
  rintro e w3 ⟨rfl, hw3⟩
  have M3 : Hid (IRow w3 WB.heap.size WB.heap.size p.ships.length (List.replicate p.ships.length (-1)) ∧ Below WB.heap.size WB w3) := hw3
  have X3 : Hid (PBox w3 w.heap.size p (.slice a p.ships.length cap)) := X1.out.later hw3.out.2 X1.out.lt
  have S3 : Hid (Below w.heap.size w w3) := B1.out.trans (hw3.out.2.mono B1.out.size)
  have ZG : Hid (w.heap.size < WB.heap.size) := by have := Z1.out; show _ < _; omega
  clear hw3 pc0 pc1 pc14 pc15 qc0 qc1 qc14 qc15 X0 B0 X1 B1 C1 Z1 HRP hWB
  generalize WB.heap.size = g at *
  go_wp2_with (refine wpList_load_box rfl _ rfl w.heap.size p (.slice a p.ships.length cap) rfl X3.out ?_; rw [HPC.out])
  refine (HBA _ (HV.out.below S3.out)).mono ?_
  rintro e w4 ⟨⟨v4, ok4, rfl, hB4, hF4⟩, hb4⟩
  obtain ⟨rfl, _, r0, hr0⟩ : ok4 = true ∧ IsPort p ∧ ∃ r, Sl w4 v4 r ∧ Good r ∧ ∀ t, 0 ≤ t → t < 300 → val r t = baseAt p t := by
    rcases hB4 with h | ⟨_, h, _⟩
    · exact h
    · exact absurd HP.out h
  have M4 : Hid ((Sl w4 v4 r0 ∧ Good r0 ∧ ∀ t, 0 ≤ t → t < 300 → val r0 t = baseAt p t) ∧ Far (g + 1) v4 ∧ IRow w4 g g p.ships.length (List.replicate p.ships.length (-1))) := ⟨hr0, (hF4 rfl).mono (OwnK.lt M3.out.1), OwnK.later M3.out.1 hb4⟩
  have X4 : Hid (PBox w4 w.heap.size p (.slice a p.ships.length cap)) := X3.out.later hb4 X3.out.lt
  have S4 : Hid (Below w.heap.size w w4) := S3.out.trans (hb4.mono S3.out.size)
  clear hB4 hF4 hb4 hr0 M3 X3 S3 HBA
  go_wp2_with (refine wpList_load_box rfl _ rfl w.heap.size p (.slice a p.ships.length cap) rfl X4.out ?_; rw [HPC.out])
  refine (HRA _ (HV.out.below S4.out)).mono ?_
  rintro e w5 ⟨⟨v5, rfl, hv5⟩, hb5⟩
  obtain ⟨rk, hrk, hrow⟩ := hv5.out
  have RK : Hid (RankedIs p rk) := hrk
  have I0 : Hid (∃ pl r, PlanInv p rk 0 pl r ∧ PlanMem w p (.slice a p.ships.length cap) g v5 rk w5 v4 pl r) := ⟨_, _, PlanInv.start M4.out.1.2.1 M4.out.1.2.2, ZG.out, S4.out.trans (hb5.mono S4.out.size), X4.out.later hb5 X4.out.lt, OwnK.later M4.out.2.2 hb5, M4.out.2.1, M4.out.1.1.below hb5, ownsRow_mono hrow (OwnK.lt M4.out.2.2)⟩
  have hrl : rk.length ≤ 14 := by have := hrk.len; omega
  obtain ⟨x5, cap5, hv5e⟩ := ownsRow_slice hrow
  have e5 : v5 = .slice x5 rk.length cap5 := by rw [hv5e, ints_len]
  clear hv5e hrow hrk hb5 hv5 M4 X4 S4 HRA
  subst e5
  go_wp2_with fail
  go_loopg [4, 25] rk.length (fun kx s4 s25 wr => ∃ (k : Nat), s25 = .int .i64 k ∧ k ≤ rk.length ∧ rk.length - k ≤ kx ∧ Hid (∃ pl r, PlanInv p rk k pl r ∧ PlanMem w p (.slice a p.ships.length cap) g (.slice x5 rk.length cap5) rk wr s4 pl r))
  case atStart => exact ⟨0, rfl, Nat.zero_le _, by omega, I0⟩
  case round =>
    clear I0
    obtain ⟨k, rfl, hk, hg, I⟩ := hrel
    obtain ⟨pl, r, J, M⟩ := I.out
    clear I
    by_cases hkl : k < rk.length
    · obtain ⟨i, hki⟩ : ∃ i, rk[k]? = some i := ⟨rk[k], List.getElem?_eq_getElem hkl⟩
      obtain ⟨hil, hst⟩ := (RK.out.mem i).1 (List.mem_of_getElem? hki)
      obtain ⟨s, hs⟩ : ∃ s, p.ships[i]? = some s := ⟨p.ships[i], List.getElem?_eq_getElem hil⟩
      obtain ⟨bb, off, rfl, hrd⟩ : ∃ b off, a = some ⟨b, off, none⟩ ∧ RdK cShip w b off p.ships := by
        rcases HR.out with h | h
        · rw [h] at hil; simp at hil
        · exact h
      obtain ⟨b5, rfl, _, rc⟩ := M.rkCell hki rfl
      have HSH := shp_wd HP.out.port i hil
      rw [shp_get hs] at HSH
      have ESH : Hid (shp p i = s) := shp_get hs
      have HKI : Hid (rk[k]? = some i) := hki
      obtain ⟨c0, c1, c2, c3, c4, c5⟩ := (hrd.below M.below).ship hs
      obtain ⟨pc0, pc1, pc14, pc15⟩ := M.box.cells
      have hbw : Below wr.heap.size wr (wr.alloc (.cells #[.int .i64 s.st, .int .i64 s.wd, .int .i64 s.lg, .int .i64 s.cl, .int .i64 s.si, .int .i64 s.qu] 48)) := (Below.refl _ wr).alloc (Nat.le_refl _) _
      have MM : Hid (PlanInv p rk k pl r ∧ PlanMem w p (.slice (some ⟨bb, off, none⟩) p.ships.length cap) g (.slice (some ⟨b5, 0, none⟩) rk.length cap5) rk (wr.alloc (.cells #[.int .i64 s.st, .int .i64 s.wd, .int .i64 s.lg, .int .i64 s.cl, .int .i64 s.si, .int .i64 s.qu] 48)) u4 pl r) := ⟨J, M.later hbw⟩
      have N4 : Hid (SBox (wr.alloc (.cells #[.int .i64 s.st, .int .i64 s.wd, .int .i64 s.lg, .int .i64 s.cl, .int .i64 s.si, .int .i64 s.qu] 48)) wr.heap.size s) := SBox.new wr s
      have hggs : g < wr.heap.size := OwnK.lt M.row
      have hk3 : (k : Int) < (rk.length : Int) := by omega
      have hi3 : (i : Int) < (p.ships.length : Int) := by omega
      obtain ⟨w1, w2⟩ := HSH.1.wd
      obtain ⟨l1, l2⟩ := HSH.1.lg
      clear hs hrd hbw J M hki HSH hst
      go_upto_region 9 with fail
      clear c0 c1 c2 c3 c4 c5 pc0 pc1 pc14 pc15 rc
      generalize wr.alloc (.cells #[.int .i64 s.st, .int .i64 s.wd, .int .i64 s.lg, .int .i64 s.cl, .int .i64 s.si, .int .i64 s.qu] 48) = WC at *
      generalize wr.heap.size = gs at *
      obtain ⟨k0, k1, k2, k3, k4, k5⟩ := N4.out.cells
      clear k0 k3 k4 k5
      have pc0 := MM.out.2.box.cells.1
      have HIL : Hid (i < pl.length) := by have := MM.out.1.len; show _ < _; omega
      have GF : Hid (goodB r = true ∧ 0 ≤ p.now ∧ 1 ≤ s.lg ∧ s.lg ≤ 300 ∧ 0 ≤ s.wd) := ⟨goodB_iff.2 MM.out.1.good, hnow0, l1, l2, by omega⟩
      have hik : (i : Int) < (p.ships.length : Int) := hi3
      go_upto_region 10 with (first | (go_at_call 20; refine (fit_any _ r _ _ _ _ MM.out.2.sl).mono ?_; rintro e w6 ⟨x, rfl, hx, hb6⟩; have F6 : Hid (FitIs r p.now s.lg s.wd x ∧ PlanMem w p (.slice (some ⟨bb, off, none⟩) p.ships.length cap) g (.slice (some ⟨b5, 0, none⟩) rk.length cap5) rk w6 u4 pl r ∧ SBox w6 gs s) := ⟨by unfold FitAns at hx; rw [if_pos GF.out] at hx; exact hx, MM.out.2.later hb6, N4.out.later hb6 N4.out.lt⟩; have fz := F6.out.2.1.row.frozen i; have oc : ∃ y, w6.cell? ⟨g, i, none⟩ = some (.int .i64 y) := ⟨_, F6.out.2.1.row.cell (List.getElem?_eq_getElem HIL.out)⟩; obtain ⟨y, oc⟩ := oc; clear hx hb6))
      have M7 : Hid (PlanMem w p (.slice (some ⟨bb, off, none⟩) p.ships.length cap) g (.slice (some ⟨b5, 0, none⟩) rk.length cap5) rk (w6.setCell ⟨g, i, none⟩ (.int .i64 x)) u4 (pl.set i x) r) := F6.out.2.1.store HIL.out x
      have N7 : Hid (SBox (w6.setCell ⟨g, i, none⟩ (.int .i64 x)) gs s) := (Below.heap_setCell _ _ _ _ (by show gs ≠ g; omega)).trans F6.out.2.2
      have FX : Hid (FitIs r p.now s.lg s.wd x) := F6.out.1
      have IV : Hid (PlanInv p rk k pl r) := MM.out.1
      clear F6 MM N4 fz oc pc0 k1 k2
      generalize w6.setCell ⟨g, i, none⟩ (.int .i64 x) = W7 at *
      have cx : W7.cell? ⟨g, i, none⟩ = some (.int .i64 x) := M7.out.row.cell (by rw [List.getElem?_set_self HIL.out])
      by_cases hx1 : x = -1
      · have hb : (x != -1) = false := by simp [hx1]
        have K2 : Hid (∃ pl r, PlanInv p rk (k + 1) pl r ∧ PlanMem w p (.slice (some ⟨bb, off, none⟩) p.ships.length cap) g (.slice (some ⟨b5, 0, none⟩) rk.length cap5) rk W7 u4 pl r) := ⟨_, _, IV.out.step RK.out HKI.out hnow0 (by rw [ESH.out]; exact FX.out) IV.out.good (fun t _ _ => by rw [if_neg (by omega)]; omega), M7.out⟩
        clear hx1
        go_wp2_with fail
        go_roundg (rk.length - (k + 1))
        case measure => omega
        case rel => exact ⟨k + 1, by go_num, by omega, Nat.le_refl _, K2⟩
      · have hb : (x != -1) = true := by simp [hx1]
        obtain ⟨x1, x2, x3⟩ : p.now ≤ x ∧ x + s.lg ≤ 300 ∧ room r s.wd x s.lg := by
          rcases FX.out with ⟨h, _⟩ | ⟨h1, h2, h3, _⟩
          · exact absurd h hx1
          · exact ⟨h1, h2, h3⟩
        have OK8 : Hid (okArgs r x (x + s.lg) s.wd) := ⟨goodB_iff.2 IV.out.good, by unfold inB; exact decide_eq_true ⟨by omega, w2⟩, by omega, by omega, x2⟩
        have SL8 : Hid (Sl W7.drew u4 r) := M7.out.sl.below ((Below.refl _ _).drew)
        have ST : Hid (∀ w8 v8 ok8, TakeAns r x (x + s.lg) s.wd (-s.wd) w8 v8 ok8 → Far W7.drew.heap.size v8 → Below W7.drew.heap.size W7.drew w8 → (∃ pl r, PlanInv p rk (k + 1) pl r ∧ PlanMem w p (.slice (some ⟨bb, off, none⟩) p.ships.length cap) g (.slice (some ⟨b5, 0, none⟩) rk.length cap5) rk w8 v8 pl r) ∧ w8.cell? ⟨g, i, none⟩ = some (.int .i64 x) ∧ SBox w8 gs s) := fun w8 v8 ok8 hT hF hb8 => by
          have hb9 := below_from_drew hb8
          have M9 := M7.out.later hb9
          refine ⟨?_, M9.row.cell (by rw [List.getElem?_set_self HIL.out]), N7.out.later hb9 N7.out.lt⟩
          rcases take_good IV.out.good ⟨by omega, w2⟩ (by omega) (by omega) x2 hT with ⟨_, r8, h1, h2, h3, _⟩ | ⟨_, _, h2⟩
          · refine ⟨_, r8, IV.out.step (x := x) RK.out HKI.out hnow0 (by rw [ESH.out]; exact FX.out) h2 (fun t ta tb => ?_), M7.out.take hb9 hF h1⟩
            rw [h3 t ta tb, ESH.out]
            by_cases c : x ≤ t ∧ t < x + s.lg
            · rw [if_pos c, if_pos ⟨by omega, c⟩]
            · rw [if_neg c, if_neg (fun c2 => c c2.2)]
          · exact absurd x3 h2
        have hwr : IntKind.i64.wrap (x + s.lg) = x + s.lg := wrap_small (by omega) (by omega)
        obtain ⟨k0, k1, k2, k3, k4, k5⟩ := N7.out.cells
        clear hx1 x3 k0 k3 k4 k5
        go_wp2_with fail
        go_region_held (fun w' => w'.cell? ⟨g, i, none⟩ = some (.int .i64 x) ∧ w'.cell? ⟨gs, 2, none⟩ = some (.int .i64 s.lg) ∧ w'.cell? ⟨gs, 1, none⟩ = some (.int .i64 s.wd)) (go_keep) (first | (go_at_call 23; refine (take_far _ r _ _ _ _ SL8.out OK8.out).mono ?_; rintro e w8 ⟨v8, ok8, rfl, hT8, hF8, hb8⟩; have F8 : Hid (_ ∧ _ ∧ _) := ST.out w8 v8 ok8 hT8 hF8 hb8; have q1 := F8.out.2.1; have q2 := F8.out.2.2.cells.2.1; have q3 := F8.out.2.2.cells.2.2.1; clear hT8 hF8 hb8))
        all_goals go_wp2_with fail
        go_roundg (rk.length - (k + 1))
        case measure => omega
        case rel => exact ⟨k + 1, by go_num, by omega, Nat.le_refl _, F8.out.1⟩
    · have hke : k = rk.length := by omega
      subst hke
      have D : Hid ((∃ pl, PlanIs p pl ∧ Far w.heap.size (.slice (some ⟨g, 0, none⟩) p.ships.length p.ships.length) ∧ SlK cInt wr (.slice (some ⟨g, 0, none⟩) p.ships.length p.ships.length) pl) ∧ Below w.heap.size w wr) := by
        have hS := OwnK.sl M.row
        rw [J.len] at hS
        exact ⟨⟨pl, J.done RK.out, ⟨_, _, _, _, rfl, by have := M.base; omega⟩, hS⟩, M.below⟩
      clear J M
      have hk3 : ¬ (rk.length : Int) < (rk.length : Int) := by omega
      go_wp2_with fail
      go_ret
      exact ⟨⟨_, rfl, D.out.1⟩, D.out.2⟩

end Go.Proofs.Ytghhegajbehpeaa
