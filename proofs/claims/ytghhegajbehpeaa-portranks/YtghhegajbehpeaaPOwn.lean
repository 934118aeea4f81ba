/- A port whose list of ships is nobody else's: slices.Clone of ships, and own of package port. -/
import Derived.Test.YtghhegajbehpeaaPApp
set_option linter.unusedSimpArgs false
set_option linter.unusedVariables false
namespace Go.Proofs.Ytghhegajbehpeaa
open Go.RowKit

set_option maxHeartbeats 1000000 in
theorem cloneShips_any (v : Value) (l : List Ship) (w : World) (h : SlK cShip w v l) (hn : l.length ≤ 2932031007317) :
    Calls Try.prog 91 #[v] w fun e w' => ∃ v', e = .returned v' ∧ Hid (w'.ownsRow w.heap.size 48 6 v' l.length (cellsK cShip l) ∧ Below w.heap.size w w') := by
  obtain ⟨a, cap, rfl, hcap, h1⟩ := h
  have q22 : ∀ (w : World) (a : Option Addr) (n c n' c' : Nat), (binOp .eql 41 (.slice a n c) (.slice none n' c')).run Try.prog w = .ok (.bool a.isNone) w := fun w a n c n' c' => Lib.run_eql_slice_nil w _ _ a n c n' c' Try.underlying41
  cases a with
  | none =>
    have hl : l = [] := by
      rcases h1 with h | ⟨b, off, h, _⟩
      · exact h
      · cases h
    subst hl
    go_enter Try.func91, Try.ntmps91
    go_wp2
    go_ret
    exact ⟨_, rfl, World.ownsRow_nil _ _ _ _, Below.refl _ _⟩
  | some ad =>
    have hbw : Below w.heap.size w (w.alloc (.cells #[] 48)) := (Below.refl _ w).alloc (Nat.le_refl _) _
    obtain ⟨b, off, had, hr⟩ : ∃ b off, (l = [] ∨ ad = ⟨b, off, none⟩) ∧ RdK cShip w b off l := by
      rcases h1 with rfl | ⟨b, off, h, hr⟩
      · exact ⟨0, 0, Or.inl rfl, fun j u hu => by simp [cellsK] at hu⟩
      · injection h with h; exact ⟨b, off, Or.inr h, hr⟩
    have HO : Hid ((w.alloc (.cells #[] 48)).ownsRow w.heap.size 48 6 (.slice (some ⟨w.heap.size, 0, none⟩) 0 0) ([] : List Ship).length (cellsK cShip [])) := World.ownsRow_made w #[] 0 (Nat.le_refl _) (Nat.zero_le _) (by simp)
    have HR : Hid (∀ j u, (cellsK cShip l)[j]? = some u → (w.alloc (.cells #[] 48)).cell? (ad.add j) = some u) := fun j u hu => by
      rcases had with rfl | rfl
      · simp [cellsK] at hu
      · rw [Addr.add_lit]; exact (hr.below hbw) j u hu
    have HB : Hid (Below w.heap.size w (w.alloc (.cells #[] 48))) := hbw
    obtain ⟨i0, z, hi, hz, hs, hby, hzs⟩ := tyShip.info
    have HI : Hid (Try.prog.info? 48 = some i0 ∧ i0.zero = some z ∧ i0.size = 6 ∧ i0.bytes = 48 ∧ z.cells.size = 6) := ⟨hi, hz, hs, hby, hzs⟩
    have HQ : Hid (0 + l.length ≤ maxLen ∧ (0 + l.length) * 48 ≤ 140737488355328 ∧ w.heap.size ≤ (w.alloc (.cells #[] 48)).heap.size) := ⟨by unfold maxLen; omega, by omega, by simp⟩
    clear h1 had hr hbw hi hz hs hby hzs
    go_enter Try.func91, Try.ntmps91
    go_wp2_with (at_builtin; (refine wpList_append_own _ rfl _ _ 41 rfl w.heap.size 48 i0 z 6 48 Try.underlying41 HI.out.1 HI.out.2.1 HI.out.2.2.1 HI.out.2.2.2.1 HI.out.2.2.2.2 (by omega) _ 0 (cellsK cShip ([] : List Ship)) rfl HO.out ad l.length cap (cellsK cShip l) rfl (cellsK_length encShip l) HR.out (cellsK_one encShip l) HQ.out.1 HQ.out.2.1 HQ.out.2.2 ?_; intro v' w1 hown hgrow hnil; have F : Hid (w1.ownsRow w.heap.size 48 6 v' l.length (cellsK cShip l) ∧ Below w.heap.size w w1) := ⟨by rw [Nat.zero_add] at hown; exact hown, HB.out.grown hgrow HQ.out.2.2 (fun k hk => (HO.out.lt k hk).1)⟩; clear hown hgrow hnil))
    go_ret
    exact ⟨_, rfl, F⟩

set_option maxHeartbeats 1000000 in
theorem own_any (v : Value) (p : Pt) (w : World) (hv : PtV w v p) :
    Calls Try.prog 73 #[v] w fun e w' => ∃ vs, e = .returned (.agg (portCells p vs).toArray) ∧ Hid (w'.ownsRow w.heap.size 48 6 vs p.ships.length (cellsK cShip p.ships) ∧ Below w.heap.size w w') := by
  obtain ⟨vs, rfl, hvs, h4, hmx⟩ := hv
  have HV : Hid (SlK cShip w vs p.ships) := hvs
  have X0 : Hid (PBox (w.alloc (.cells (portCells p vs).toArray 46)) w.heap.size p vs) := PBox.new w p _ h4
  have B0 : Hid (Below w.heap.size w (w.alloc (.cells (portCells p vs).toArray 46))) := (Below.refl _ w).alloc (Nat.le_refl _) _
  have Z0 : Hid ((w.alloc (.cells (portCells p vs).toArray 46)).heap.size = w.heap.size + 1) := by show _ = _; simp
  clear hvs
  generalize hPC : (portCells p vs).toArray = PC at *
  clear hPC
  go_enter Try.func73, Try.ntmps73
  go_upto_region 1 with (first | (refine wpList_alloc_box rfl rfl 2 rfl ?_; intro w1 hw1 hs1))
  rw [Z0.out] at hw1 hs1
  rw [Z0.out]
  have X1 : Hid (PBox w1 w.heap.size p vs) := X0.out.later hw1.out.2 (by omega)
  have B1 : Hid (Below w.heap.size w w1) := B0.out.trans (hw1.out.2.mono (by omega))
  have Y1 : Hid (PBox w1 (w.heap.size + 1) zeroPt (.slice none 0 0)) := hw1.out.1
  have HC := cloneShips_any vs p.ships w1 (HV.out.below B1.out) hmx
  have c1 := X1.out.cells.2.1
  clear hw1 X0 B0 Z0
  go_wp2_with fail
  refine HC.mono ?_
  rintro e w2 ⟨vn, rfl, hw2⟩
  clear HC
  obtain ⟨xn, cn, rfl⟩ := ownsRow_slice hw2.out.1
  have O2 : Hid (w2.ownsRow (w.heap.size + 1 + 1) 48 6 (.slice xn p.ships.length cn) p.ships.length (cellsK cShip p.ships)) := by have h := hw2.out.1; rw [hs1] at h; exact h
  have hb2 : Below (w.heap.size + 1 + 1) w1 w2 := by have h := hw2.out.2; rw [hs1] at h; exact h
  have X2 : Hid (PBox w2 w.heap.size p vs) := X1.out.later hb2 (by omega)
  have Y2 : Hid (PBox w2 (w.heap.size + 1) zeroPt (.slice none 0 0)) := Y1.out.later hb2 (by omega)
  have B2 : Hid (Below w.heap.size w w2) := B1.out.trans (hb2.mono (by omega))
  have c2 := X2.out.cells.2.1
  have f2 := X2.out.frozen 1
  have o2 := ownsRow_one O2.out
  have X3 : Hid (PBox (w2.setCell ⟨w.heap.size, 1, none⟩ (.slice xn p.ships.length cn)) w.heap.size p (.slice xn p.ships.length cn)) := X2.out.setShips p.ships (.slice xn p.ships.length cn)
  have Y3 : Hid (PBox (w2.setCell ⟨w.heap.size, 1, none⟩ (.slice xn p.ships.length cn)) (w.heap.size + 1) zeroPt (.slice none 0 0)) := Y2.out.other _ _ (by omega)
  have O3 : Hid ((w2.setCell ⟨w.heap.size, 1, none⟩ (.slice xn p.ships.length cn)).ownsRow (w.heap.size + 1 + 1) 48 6 (.slice xn p.ships.length cn) p.ships.length (cellsK cShip p.ships)) := ownsRow_same O2.out (fun g hg => Below.heap_setCell _ _ _ _ (by show g ≠ w.heap.size; omega))
  have B3 : Hid (Below w.heap.size w (w2.setCell ⟨w.heap.size, 1, none⟩ (.slice xn p.ships.length cn))) := B2.out.setCell (Nat.le_refl _) _
  clear hw2 hb2 c1
  go_wp2_with (first
    | (refine wpList_load_box rfl _ rfl w.heap.size p (.slice xn p.ships.length cn) rfl X3.out ?_)
    | (refine wpList_store_box rfl _ _ rfl (w.heap.size + 1) zeroPt p (.slice none 0 0) (.slice xn p.ships.length cn) rfl rfl Y3.out h4 o2 ?_; intro w9 hw9 hs9))
  refine bodyPost_ret (v := .agg (portCells p (.slice xn p.ships.length cn)).toArray) (results_box Try.results73 _ _ (w.heap.size + 1) p (.slice xn p.ships.length cn) rfl hw9.out.1) rfl ?_
  exact ⟨(.slice xn p.ships.length cn), rfl, ownsRow_mono (ownsRow_same O3.out (fun g hg => hw9.out.2.1 g (by omega))) (by omega), B3.out.trans (hw9.out.2.2 _ (by omega))⟩

end Go.Proofs.Ytghhegajbehpeaa
