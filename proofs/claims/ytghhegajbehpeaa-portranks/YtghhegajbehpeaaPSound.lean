/- Whether a port is good but for whether there is room: sound of package port. -/
import Derived.Test.YtghhegajbehpeaaPShips
import Derived.Test.YtghhegajbehpeaaPKept
set_option linter.unusedSimpArgs false
set_option linter.unusedVariables false
namespace Go.Proofs.Ytghhegajbehpeaa
open Go.RowKit

theorem isPort0_iff {p : Pt} (h4 : p.kept.length = 4) : IsPort0 p ↔ (0 ≤ p.now ∧ p.now ≤ 299) ∧ (0 ≤ p.shut ∧ p.shut ≤ 16) ∧ (0 ≤ p.next ∧ p.next ≤ 1048576) ∧ (p.ships.length < 15 ∧ ShipsOk p p.ships.length) ∧ ∀ k ∈ p.kept, IsKept k := by
  constructor
  · intro h
    exact ⟨h.now, h.shut, h.next, ⟨h.len, fun i s _ hs => h.ship s (List.mem_of_getElem? hs), fun i j r s hij _ hr hs => h.once i j r s hij hr hs⟩, h.kept⟩
  · rintro ⟨a, b, d, ⟨c, e, f⟩, g⟩
    refine ⟨a, b, c, d, fun s hs => ?_, fun i j r s hij hr hs => f i j r s hij (List.getElem?_eq_some_iff.1 hs).1 hr hs, h4, g⟩
    obtain ⟨i, hi, rfl⟩ := List.mem_iff_getElem.1 hs
    exact e i _ hi (List.getElem?_eq_getElem hi)

/-- what is kept in the port of a variable, as a slice -/
theorem PBox.slKept {w : World} {g : Nat} {p : Pt} {vs : Value} (h : PBox w g p vs) : SlK cKp w (.slice (some ⟨g, 2, none⟩) 4 4) p.kept := by
  refine ⟨_, _, by rw [h.1], by rw [h.1]; exact Nat.le_refl _, Or.inr ⟨g, 2, rfl, fun j u hu => h.keeps j u hu⟩⟩

theorem PBox.ptV {w w' : World} {g : Nat} {p : Pt} {vs : Value} (h : PBox w' g p vs) (hv : PtV w (.agg (portCells p vs).toArray) p) (hb : Below w.heap.size w w') : PtV w' (.agg (portCells p vs).toArray) p := hv.below hb


set_option maxHeartbeats 2000000 in
set_option maxRecDepth 100000 in
theorem sound_any (v : Value) (p : Pt) (w : World) (hv : PtV w v p) (hq : WfQ p) :
    Calls Try.prog 65 #[v] w fun e w' => IsB e (IsPort0 p) ∧ Below w.heap.size w w' := by
  obtain ⟨vs, rfl, hsl, h4, hmx⟩ := hv
  have HV : Hid (PtV w (.agg (portCells p vs).toArray) p) := ⟨vs, rfl, hsl, h4, hmx⟩
  have X0 : Hid (PBox (w.alloc (.cells (portCells p vs).toArray 46)) w.heap.size p vs) := PBox.new w p _ h4
  have B0 : Hid (Below w.heap.size w (w.alloc (.cells (portCells p vs).toArray 46))) := (Below.refl _ w).alloc (Nat.le_refl _) _
  obtain ⟨pc0, pc1, pc14, pc15⟩ := X0.out.cells
  have HI := isPort0_iff h4
  have HV0 : Hid (PtV (w.alloc (.cells (portCells p vs).toArray 46)) (.agg (portCells p vs).toArray) p) := HV.out.below B0.out
  clear hsl
  have HG := fun W h => goodShips_any (.agg (portCells p vs).toArray) p W h hq
  have HK := fun W (h : SlK cKp W (.slice (some ⟨w.heap.size, 2, none⟩) 4 4) p.kept) => goodKept_any _ p.kept W h (by omega)
  generalize hPC : (portCells p vs).toArray = PC at *
  have HPC : Hid ((portCells p vs).toArray = PC) := hPC
  clear hPC
  rcases pinR_or p.now 0 299 with b1 | b1
  case inr =>
    have NO : Hid (¬ IsPort0 p) := fun h => pinR_no b1 (HI.1 h).1
    clear HI HG HK
    go_enter Try.func65, Try.ntmps65
    go_wp2_with (first | (go_at_call 77; refine (pIsTime _ _).mono ?_; rintro e w' ⟨rfl, rfl⟩) | (go_at_call 63; refine (pWithin _ _ _ _).mono ?_; rintro e w' ⟨rfl, rfl⟩))
    go_ret
    exact ⟨⟨false, rfl, ⟨fun h => (by cases h), fun h => absurd h NO.out⟩⟩, B0.out⟩
  rcases pinR_or p.shut 0 16 with b2 | b2
  case inr =>
    have NO : Hid (¬ IsPort0 p) := fun h => pinR_no b2 (HI.1 h).2.1
    clear HI HG HK
    go_enter Try.func65, Try.ntmps65
    go_wp2_with (first | (go_at_call 77; refine (pIsTime _ _).mono ?_; rintro e w' ⟨rfl, rfl⟩) | (go_at_call 63; refine (pWithin _ _ _ _).mono ?_; rintro e w' ⟨rfl, rfl⟩))
    go_ret
    exact ⟨⟨false, rfl, ⟨fun h => (by cases h), fun h => absurd h NO.out⟩⟩, B0.out⟩
  rcases pinR_or p.next 0 1048576 with b3 | b3
  case inr =>
    have NO : Hid (¬ IsPort0 p) := fun h => pinR_no b3 (HI.1 h).2.2.1
    clear HI HG HK
    go_enter Try.func65, Try.ntmps65
    go_wp2_with (first | (go_at_call 77; refine (pIsTime _ _).mono ?_; rintro e w' ⟨rfl, rfl⟩) | (go_at_call 63; refine (pWithin _ _ _ _).mono ?_; rintro e w' ⟨rfl, rfl⟩))
    go_ret
    exact ⟨⟨false, rfl, ⟨fun h => (by cases h), fun h => absurd h NO.out⟩⟩, B0.out⟩
  have HI2 : Hid (IsPort0 p ↔ (p.ships.length < 15 ∧ ShipsOk p p.ships.length) ∧ ∀ k ∈ p.kept, IsKept k) := ⟨fun h => (HI.1 h).2.2.2, fun h => HI.2 ⟨pinR_yes b1, pinR_yes b2, pinR_yes b3, h⟩⟩
  clear HI
  go_enter Try.func65, Try.ntmps65
  go_wp2_with (first | (go_at_call 77; refine (pIsTime _ _).mono ?_; rintro e w' ⟨rfl, rfl⟩) | (go_at_call 63; refine (pWithin _ _ _ _).mono ?_; rintro e w' ⟨rfl, rfl⟩) | (refine wpList_load_box_g (by first | rfl | (simp [Region.wanted, yielded]; done)) _ rfl w.heap.size p vs rfl X0.out ?_; rw [HPC.out]))
  refine (HG _ HV0.out).mono ?_
  rintro e w5 ⟨⟨g1, rfl, hg1⟩, hb5⟩
  have S5 : Hid (Below w.heap.size w w5) := B0.out.trans (hb5.mono B0.out.size)
  have X5 : Hid (PBox w5 w.heap.size p vs) := X0.out.later hb5 X0.out.lt
  have G1 : Hid (Iffb g1 (p.ships.length < 15 ∧ ShipsOk p p.ships.length)) := hg1
  clear hb5 hg1 pc0 pc1 pc14 pc15 HG
  have KS : Hid (SlK cKp w5 (.slice (some ⟨w.heap.size, 2, none⟩) 4 4) p.kept) := X5.out.slKept
  cases g1
  case false =>
    have NO : Hid (¬ IsPort0 p) := fun h => by have := G1.out.2 (HI2.out.1 h).1; cases this
    go_wp2_with fail
    go_ret
    exact ⟨⟨false, rfl, ⟨fun h => (by cases h), fun h => absurd h NO.out⟩⟩, S5.out⟩
  case true =>
    have G2 : Hid (p.ships.length < 15 ∧ ShipsOk p p.ships.length) := G1.out.1 rfl
    go_wp2_with fail
    refine (HK _ KS.out).mono ?_
    rintro e w6 ⟨⟨g2, rfl, hg2⟩, hb6⟩
    have S6 : Hid (Below w.heap.size w w6) := S5.out.trans (hb6.mono S5.out.size)
    have G3 : Hid (Iffb g2 (∀ k ∈ p.kept, IsKept k)) := hg2
    clear hb6 hg2 HK
    go_wp2_with fail
    go_ret
    exact ⟨⟨g2, rfl, ⟨fun h => HI2.out.2 ⟨G2.out, G3.out.1 h⟩, fun h => G3.out.2 (HI2.out.1 h).2⟩⟩, S6.out⟩

end Go.Proofs.Ytghhegajbehpeaa
