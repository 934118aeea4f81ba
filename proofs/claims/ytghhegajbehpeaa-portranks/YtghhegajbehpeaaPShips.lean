/- Whether the ships may be those of a port: goodShips of package port. -/
import Derived.Test.YtghhegajbehpeaaPMap
import Derived.Test.YtghhegajbehpeaaPBoxW
set_option linter.unusedSimpArgs false
set_option linter.unusedVariables false
namespace Go.Proofs.Ytghhegajbehpeaa
open Go.RowKit

/-- what is asked of the first k ships -/
def ShipsOk (p : Pt) (k : Nat) : Prop :=
  (∀ i s, i < k → p.ships[i]? = some s → IsShip s p.now ∧ s.qu < p.next) ∧ ∀ (i j : Nat) (r s : Ship), i < j → j < k → p.ships[i]? = some r → p.ships[j]? = some s → r.qu ≠ s.qu

theorem ShipsOk.succ {p : Pt} {k : Nat} {s : Ship} (hs : p.ships[k]? = some s) : ShipsOk p (k + 1) ↔ ShipsOk p k ∧ (IsShip s p.now ∧ s.qu < p.next) ∧ ∀ (i : Nat) (r : Ship), i < k → p.ships[i]? = some r → r.qu ≠ s.qu := by
  unfold ShipsOk
  constructor
  · rintro ⟨e, f⟩
    exact ⟨⟨fun i s hi => e i s (by omega), fun i j r s hij hj => f i j r s hij (by omega)⟩, e k s (by omega) hs, fun i r hi hr => f i k r s hi (by omega) hr hs⟩
  · rintro ⟨⟨e, f⟩, g, h⟩
    refine ⟨fun i s' hi hs' => ?_, fun i j r s' hij hj hr hs' => ?_⟩
    · by_cases x : i = k
      · subst x; rw [hs] at hs'; injection hs' with hs'; subst hs'; exact g
      · exact e i s' (by omega) hs'
    · by_cases x : j = k
      · subst x; rw [hs] at hs'; injection hs' with hs'; subst hs'; exact h i r hij hr
      · exact f i j r s' hij (by omega) hr hs'

theorem ShipsOk.mono {p : Pt} {k m : Nat} (h : ShipsOk p m) (hk : k ≤ m) : ShipsOk p k := ⟨fun i s hi => h.1 i s (by omega), fun i j r s hij hj => h.2 i j r s hij (by omega)⟩

/-- how many of the first j ships have a number in the queue -/
def cnt (p : Pt) (j : Nat) : Int → Int := fun x => ((p.ships.take j).countP fun s => decide (s.qu = x) : Nat)

theorem cnt_zero (p : Pt) : cnt p 0 = fun _ => 0 := by funext x; simp [cnt]
theorem cnt_succ {p : Pt} {j : Nat} {s : Ship} (hs : p.ships[j]? = some s) : upd (cnt p j) s.qu (cnt p j s.qu + 1) = cnt p (j + 1) := by
  funext x
  unfold upd cnt
  rw [List.take_add_one, hs, Option.toList_some, List.countP_append]
  by_cases e : x = s.qu
  · subst e; simp
  · rw [if_neg e]; simp [show ¬ s.qu = x from fun h => e h.symm]
theorem cnt_bound (p : Pt) (j : Nat) (x : Int) : 0 ≤ cnt p j x ∧ cnt p j x ≤ p.ships.length := by
  unfold cnt
  have := List.countP_le_length (p := fun s : Ship => decide (s.qu = x)) (l := p.ships.take j)
  have h2 : (p.ships.take j).length ≤ p.ships.length := by simp; omega
  omega
theorem cnt_pos {p : Pt} {j : Nat} {x : Int} : 0 < cnt p j x ↔ ∃ i r, i < j ∧ p.ships[i]? = some r ∧ r.qu = x := by
  unfold cnt
  rw [show (0 < (((p.ships.take j).countP fun s => decide (s.qu = x) : Nat) : Int)) ↔ 0 < ((p.ships.take j).countP fun s => decide (s.qu = x)) from by omega, List.countP_pos_iff]
  constructor
  · rintro ⟨r, hr, h⟩
    obtain ⟨i, hi, rfl⟩ := List.mem_iff_getElem.1 hr
    rw [List.length_take] at hi
    exact ⟨i, _, by omega, by rw [List.getElem_take]; exact List.getElem?_eq_getElem (by omega), of_decide_eq_true h⟩
  · rintro ⟨i, r, hi, hr, h⟩
    refine ⟨r, List.mem_iff_getElem?.2 ⟨i, by rw [List.getElem?_take, if_pos hi]; exact hr⟩, decide_eq_true h⟩

/-- the numbers in the queue are of 64 bits -/
def WfQ (p : Pt) : Prop := ∀ s ∈ p.ships, Wf s.qu

theorem WfQ.of {p : Pt} (h : IsPort p) : WfQ p := fun s hs => by
  have h1 := h.port.ship s hs
  have h2 := h1.1.qu
  have h3 := h.port.next
  exact Wf.of (by omega) (by omega)

/-- the ship's cells in a block of its own -/
def SBox (w : World) (g : Nat) (s : Ship) : Prop := w.heap[g]? = some (.cells #[.int .i64 s.st, .int .i64 s.wd, .int .i64 s.lg, .int .i64 s.cl, .int .i64 s.si, .int .i64 s.qu] 48)

theorem SBox.cells {w : World} {g : Nat} {s : Ship} (h : SBox w g s) :
    w.cell? ⟨g, 0, none⟩ = some (.int .i64 s.st) ∧ w.cell? ⟨g, 1, none⟩ = some (.int .i64 s.wd) ∧ w.cell? ⟨g, 2, none⟩ = some (.int .i64 s.lg) ∧ w.cell? ⟨g, 3, none⟩ = some (.int .i64 s.cl) ∧ w.cell? ⟨g, 4, none⟩ = some (.int .i64 s.si) ∧ w.cell? ⟨g, 5, none⟩ = some (.int .i64 s.qu) := by
  have e : ∀ i u, (cShip s)[i]? = some u → w.cell? ⟨g, i, none⟩ = some u := fun i u hu => by rw [cell_of_row _ _ _ _ _ _ h]; simpa [cShip] using hu
  exact ⟨e 0 _ rfl, e 1 _ rfl, e 2 _ rfl, e 3 _ rfl, e 4 _ rfl, e 5 _ rfl⟩
theorem SBox.new (w : World) (s : Ship) : SBox (w.alloc (.cells #[.int .i64 s.st, .int .i64 s.wd, .int .i64 s.lg, .int .i64 s.cl, .int .i64 s.si, .int .i64 s.qu] 48)) w.heap.size s := heap_alloc_new w _
theorem SBox.lt {w : World} {g : Nat} {s : Ship} (h : SBox w g s) : g < w.heap.size := (Array.getElem?_eq_some_iff.1 h).1
theorem SBox.later {w w' : World} {B g : Nat} {s : Ship} (h : SBox w g s) (hb : Below B w w') (hB : g < B) : SBox w' g s := by unfold SBox; rw [hb.block g hB]; exact h


set_option maxHeartbeats 2000000 in
set_option maxRecDepth 100000 in
theorem goodShips_any (v : Value) (p : Pt) (w : World) (hv : PtV w v p) (hq : WfQ p) :
    Calls Try.prog 86 #[v] w fun e w' => IsB e (p.ships.length < 15 ∧ ShipsOk p p.ships.length) ∧ Below w.heap.size w w' := by
  obtain ⟨vs, rfl, ⟨a, cap, rfl, hcap, hrd⟩, h4, hmx⟩ := hv
  have HR : Hid (p.ships = [] ∨ ∃ b off, a = some ⟨b, off, none⟩ ∧ RdK cShip w b off p.ships) := hrd
  have HQ : Hid (WfQ p) := hq
  have X0 : Hid (PBox (w.alloc (.cells (portCells p (.slice a p.ships.length cap)).toArray 46)) w.heap.size p (.slice a p.ships.length cap)) := PBox.new w p _ h4
  have B0 : Hid (Below w.heap.size w (w.alloc (.cells (portCells p (.slice a p.ships.length cap)).toArray 46))) := (Below.refl _ w).alloc (Nat.le_refl _) _
  have Z0 : Hid ((w.alloc (.cells (portCells p (.slice a p.ships.length cap)).toArray 46)).heap.size = w.heap.size + 1) := by show _ = _; simp
  obtain ⟨pc0, pc1, pc14, pc15⟩ := X0.out.cells
  clear hrd hq
  generalize hPC : (portCells p (.slice a p.ships.length cap)).toArray = PC at *
  clear hPC
  have hmm := @run_makeMap Try.prog
  by_cases h5 : (14 : Int) < (p.ships.length : Int)
  · have NO : Hid (¬ (p.ships.length < 15 ∧ ShipsOk p p.ships.length)) := fun h => by have := h.1; omega
    go_enter Try.func86, Try.ntmps86
    go_wp2
    go_ret
    exact ⟨⟨false, rfl, ⟨fun h => (by cases h), fun h => absurd h NO.out⟩⟩, B0.out⟩
  have h6 : p.ships.length < 15 := by omega
  have X1 : Hid (PBox ((w.alloc (.cells PC 46)).alloc (.map #[] 0)) w.heap.size p (.slice a p.ships.length cap)) := X0.out.later ((Below.refl _ _).alloc (Nat.le_refl _) _) X0.out.lt
  have B1 : Hid (Below w.heap.size w ((w.alloc (.cells PC 46)).alloc (.map #[] 0))) := B0.out.alloc (by rw [Z0.out]; omega) _
  have M1 : Hid (MapI ((w.alloc (.cells PC 46)).alloc (.map #[] 0)) (w.heap.size + 1) 0 (cnt p 0)) := by
    rw [cnt_zero, ← Z0.out]; exact MapI.made _
  have qc1 := X1.out.cells.2.1
  go_enter Try.func86, Try.ntmps86
  go_wp2_with fail
  clear pc0 pc1 pc14 pc15 qc1 X0 B0 Z0
  generalize (w.alloc (.cells PC 46)).alloc (.map #[] 0) = WA at *
  go_loopg [14] p.ships.length (fun kx s14 wr => ∃ (j : Nat), s14 = .int .i64 j ∧ j ≤ p.ships.length ∧ p.ships.length - j ≤ kx ∧ Hid (Below w.heap.size w wr) ∧ Hid (PBox wr w.heap.size p (.slice a p.ships.length cap)) ∧ Hid (MapI wr (w.heap.size + 1) j (cnt p j)) ∧ Hid (ShipsOk p j))
  case atStart => exact ⟨0, rfl, Nat.zero_le _, by omega, B1, X1, M1, (⟨fun i s hi => absurd hi (Nat.not_lt_zero _), fun i j r s _ hj => absurd hj (Nat.not_lt_zero _)⟩ : ShipsOk p 0)⟩
  case round =>
    clear B1 X1 M1
    obtain ⟨j, rfl, hj, hg, S1, X1, M1, I⟩ := hrel
    by_cases hjl : j < p.ships.length
    · obtain ⟨s, hs⟩ : ∃ s, p.ships[j]? = some s := ⟨p.ships[j], List.getElem?_eq_getElem hjl⟩
      obtain ⟨bb, off, rfl, hrd⟩ : ∃ b off, a = some ⟨b, off, none⟩ ∧ RdK cShip w b off p.ships := by
        rcases HR.out with h | h
        · rw [h] at hjl; simp at hjl
        · exact h
      have HS : Hid (p.ships[j]? = some s) := hs
      have HWQ : Hid (Wf s.qu) := HQ.out s (List.mem_of_getElem? hs)
      obtain ⟨c0, c1, c2, c3, c4, c5⟩ := (hrd.below S1.out).ship hs
      have hbw : Below wr.heap.size wr (wr.alloc (.cells #[.int .i64 s.st, .int .i64 s.wd, .int .i64 s.lg, .int .i64 s.cl, .int .i64 s.si, .int .i64 s.qu] 48)) := (Below.refl _ wr).alloc (Nat.le_refl _) _
      have S4 : Hid (Below w.heap.size w (wr.alloc (.cells #[.int .i64 s.st, .int .i64 s.wd, .int .i64 s.lg, .int .i64 s.cl, .int .i64 s.si, .int .i64 s.qu] 48))) := S1.out.trans (hbw.mono S1.out.size)
      have X4 : Hid (PBox (wr.alloc (.cells #[.int .i64 s.st, .int .i64 s.wd, .int .i64 s.lg, .int .i64 s.cl, .int .i64 s.si, .int .i64 s.qu] 48)) w.heap.size p (.slice (some ⟨bb, off, none⟩) p.ships.length cap)) := X1.out.later hbw X1.out.lt
      have M4 : Hid (MapI (wr.alloc (.cells #[.int .i64 s.st, .int .i64 s.wd, .int .i64 s.lg, .int .i64 s.cl, .int .i64 s.si, .int .i64 s.qu] 48)) (w.heap.size + 1) j (cnt p j)) := M1.out.later hbw M1.out.lt
      have N4 : Hid (SBox (wr.alloc (.cells #[.int .i64 s.st, .int .i64 s.wd, .int .i64 s.lg, .int .i64 s.cl, .int .i64 s.si, .int .i64 s.qu] 48)) wr.heap.size s) := SBox.new wr s
      have hml : w.heap.size + 1 < wr.heap.size := M1.out.lt
      have hk3 : (j : Int) < (p.ships.length : Int) := by omega
      clear hs hrd hbw S1 X1 M1
      go_upto_region 7 with fail
      clear c0 c1 c2 c3 c4 c5
      generalize wr.alloc (.cells #[.int .i64 s.st, .int .i64 s.wd, .int .i64 s.lg, .int .i64 s.cl, .int .i64 s.si, .int .i64 s.qu] 48) = WB at *
      generalize wr.heap.size = gs at *
      obtain ⟨k0, k1, k2, k3, k4, k5⟩ := N4.out.cells
      have hcb := cnt_bound p j s.qu
      obtain ⟨hcb0, hcb1⟩ := hcb
      have hcb2 : cnt p j s.qu ≤ 14 := by omega
      have HW1 : Hid (Wf (cnt p j s.qu + 1)) := Wf.of (by omega) (by omega)
      go_upto_region 8 with (first | (refine wpList_look_mapI rfl _ _ rfl (w.heap.size + 1) j (cnt p j) s.qu rfl rfl M4.out HWQ.out ?_) | (refine wpList_put_mapI rfl _ _ _ rfl (w.heap.size + 1) j (cnt p j) s.qu (cnt p j s.qu + 1) rfl rfl (by first | rfl | go_num) M4.out (by unfold maxLen; omega) HWQ.out HW1.out ?_; intro w7 hw7 hs7))
      have S7 : Hid (Below w.heap.size w w7) := S4.out.trans (hw7.out.2.2 _ (by omega))
      have X7 : Hid (PBox w7 w.heap.size p (.slice (some ⟨bb, off, none⟩) p.ships.length cap)) := ⟨X4.out.1, (hw7.out.2.1 _ (by omega)).trans X4.out.2⟩
      have N7 : Hid (SBox w7 gs s) := (hw7.out.2.1 gs (by omega)).trans N4.out
      have M7 : Hid (MapI w7 (w.heap.size + 1) (j + 1) (cnt p (j + 1))) := by have h := hw7.out.1; rw [cnt_succ HS.out] at h; exact h
      have HC1 : Hid (cnt p (j + 1) s.qu = cnt p j s.qu + 1) := by show _ = _; rw [← cnt_succ HS.out]; simp [upd]
      clear hw7 hs7 S4 X4 N4 M4 k0 k1 k2 k3 k4 k5 HW1
      obtain ⟨k0, k1, k2, k3, k4, k5⟩ := N7.out.cells
      obtain ⟨pc0, pc1, pc14, pc15⟩ := X7.out.cells
      have HI := fun W => goodShip_any s p.now W
      simp only [cShip] at HI
      have e1 : Hid (0 ≤ cnt p j s.qu ∧ cnt p j s.qu ≤ 14) := ⟨hcb0, hcb2⟩
      clear hcb0 hcb1 hcb2
      have FW : Hid (∀ w8, Below w7.heap.size w7 w8 → Below w.heap.size w w8 ∧ PBox w8 w.heap.size p (.slice (some ⟨bb, off, none⟩) p.ships.length cap) ∧ MapI w8 (w.heap.size + 1) (j + 1) (cnt p (j + 1)) ∧ SBox w8 gs s) := fun w8 hb8 =>
        ⟨S7.out.trans (hb8.mono S7.out.size), X7.out.later hb8 X7.out.lt, M7.out.later hb8 M7.out.lt, N7.out.later hb8 N7.out.lt⟩
      generalize hib : isShipB s p.now = ib at HI
      cases ib
      case false =>
        have NO : Hid (¬ (p.ships.length < 15 ∧ ShipsOk p p.ships.length)) := fun h => by
          have h1 := ((ShipsOk.succ HS.out).1 (h.2.mono (k := j + 1) (by omega))).2.1.1
          have := isShipB_iff.2 h1
          rw [hib] at this; cases this
        clear hib
        go_wp2_with (go_at_call 32; refine (HI _).mono ?_; rintro e w8 ⟨rfl, hb8⟩; have F8 : Hid (_ ∧ _ ∧ _ ∧ _) := FW.out w8 hb8; clear hb8)
        go_ret
        exact ⟨⟨false, rfl, ⟨fun h => (by cases h), fun h => absurd h NO.out⟩⟩, F8.out.1⟩
      case true =>
        have YI : Hid (IsShip s p.now) := isShipB_iff.1 hib
        clear hib
        by_cases hqn : s.qu < p.next
        case neg =>
          have hqn' : p.next ≤ s.qu := by omega
          have NO : Hid (¬ (p.ships.length < 15 ∧ ShipsOk p p.ships.length)) := fun h => by
            have h1 := ((ShipsOk.succ HS.out).1 (h.2.mono (k := j + 1) (by omega))).2.1.2
            omega
          clear hqn
          go_wp2_with (go_at_call 32; refine (HI _).mono ?_; rintro e w8 ⟨rfl, hb8⟩; have F8 : Hid (_ ∧ _ ∧ _ ∧ _) := FW.out w8 hb8; have q5 := F8.out.2.2.2.cells.2.2.2.2.2; have r15 := F8.out.2.1.cells.2.2.2; clear hb8)
          go_ret
          exact ⟨⟨false, rfl, ⟨fun h => (by cases h), fun h => absurd h NO.out⟩⟩, F8.out.1⟩
        have hqn' : ¬ p.next ≤ s.qu := by omega
        by_cases hc : 0 < cnt p j s.qu
        · have NO : Hid (¬ (p.ships.length < 15 ∧ ShipsOk p p.ships.length)) := fun h => by
            have h1 := ((ShipsOk.succ HS.out).1 (h.2.mono (k := j + 1) (by omega))).2.2
            obtain ⟨i, r, hi, hr, he⟩ := cnt_pos.1 hc
            exact h1 i r hi hr he
          have hc2 : 1 < cnt p (j + 1) s.qu := by rw [HC1.out]; omega
          clear hqn hc
          go_wp2_with (first | (go_at_call 32; refine (HI _).mono ?_; rintro e w8 ⟨rfl, hb8⟩; have F8 : Hid (_ ∧ _ ∧ _ ∧ _) := FW.out w8 hb8; have q5 := F8.out.2.2.2.cells.2.2.2.2.2; have r15 := F8.out.2.1.cells.2.2.2; clear hb8) | (refine wpList_look_mapI_g (by first | rfl | (simp [Region.wanted, yielded, hqn']; done)) _ _ rfl (w.heap.size + 1) (j + 1) (cnt p (j + 1)) s.qu rfl rfl F8.out.2.2.1 HWQ.out ?_))
          go_ret
          exact ⟨⟨false, rfl, ⟨fun h => (by cases h), fun h => absurd h NO.out⟩⟩, F8.out.1⟩
        · have I2 : Hid (ShipsOk p (j + 1)) := (ShipsOk.succ HS.out).2 ⟨I.out, ⟨YI.out, hqn⟩, fun i r hi hr he => hc (cnt_pos.2 ⟨i, r, hi, hr, he⟩)⟩
          have hc2 : ¬ 1 < cnt p (j + 1) s.qu := by rw [HC1.out]; omega
          clear hqn hc
          go_wp2_with (first | (go_at_call 32; refine (HI _).mono ?_; rintro e w8 ⟨rfl, hb8⟩; have F8 : Hid (_ ∧ _ ∧ _ ∧ _) := FW.out w8 hb8; have q5 := F8.out.2.2.2.cells.2.2.2.2.2; have r15 := F8.out.2.1.cells.2.2.2; clear hb8) | (refine wpList_look_mapI_g (by first | rfl | (simp [Region.wanted, yielded, hqn']; done)) _ _ rfl (w.heap.size + 1) (j + 1) (cnt p (j + 1)) s.qu rfl rfl F8.out.2.2.1 HWQ.out ?_))
          go_roundg (p.ships.length - (j + 1))
          case measure => omega
          case rel => exact ⟨j + 1, by go_num, by omega, Nat.le_refl _, F8.out.1, F8.out.2.1, F8.out.2.2.1, I2⟩
    · have hje : j = p.ships.length := by omega
      have I4 : Hid (ShipsOk p p.ships.length) := by have h := I.out; rw [hje] at h; exact h
      clear hje I
      have hj3 : ¬ ((j : Int) < (p.ships.length : Int)) := by omega
      go_wp2
      go_ret
      exact ⟨⟨true, rfl, ⟨fun _ => by first | exact ⟨h6, I4.out⟩ | exact I4.out, fun _ => rfl⟩⟩, S1.out⟩

end Go.Proofs.Ytghhegajbehpeaa
