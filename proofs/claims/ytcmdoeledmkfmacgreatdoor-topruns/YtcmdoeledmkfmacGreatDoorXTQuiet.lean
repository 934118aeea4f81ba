/- Texts of this claim, in one: TQuiet. -/
import Derived.Test.YtcmdoeledmkfmacGreatDoorQZ
import Derived.Test.YtcmdoeledmkfmacGreatDoorXTSame
set_option linter.unusedSimpArgs false
set_option linter.unusedVariables false
namespace Go.Proofs.YtcmdoeledmkfmacGreatDoor
open Go.RowKit
theorem slK_below {α : Type} {c : α → List Value} {w w' : World} {v : Value} {l : List α} {B : Nat} (h : SlK c w v l) (hB : w.heap.size ≤ B) (hb : Below B w w') : SlK c w' v l := by
  obtain ⟨a, cap, h1, h2, h3⟩ := h
  refine ⟨a, cap, h1, h2, ?_⟩
  rcases h3 with h3 | ⟨b, off, h4, h5⟩
  · exact Or.inl h3
  · exact Or.inr ⟨b, off, h4, h5.below (hb.mono hB)⟩
theorem takeL_snoc {α : Type} {l : List α} {k : Nat} {s : α} (h : l[k]? = some s) : l.take (k + 1) = l.take k ++ [s] := by rw [List.take_add_one, h]; rfl
structure PD (l : List (List UInt8)) (w w' : World) (d : Nat) (D : Dk) : Prop where
  play : PlayIs newDk (l.take 80) D
  ds : DS w' d D
  new : w.heap.size ≤ d
  below : Below w.heap.size w w'
theorem PD.n {l : List (List UInt8)} {w w' : World} {d : Nat} {D : Dk} (h : PD l w w' d D) : D.n ≤ 80 := by
  have := playIs_n _ newDk D newDk_ok (by simp only [List.length_take]; show (0 : Int) + _ ≤ 250; omega) h.play
  rw [this]
  simp only [List.length_take]
  show (0 : Int) + _ ≤ 80
  omega
set_option maxHeartbeats 4000000 in
set_option maxRecDepth 100000 in
theorem same_any (d h : Nat) (D H : Dk) (w : World) (hd : DS w d D) (hh : DS w h H) :
    Calls Tryz.prog 16 #[.pointer (some ⟨d, 0, none⟩), .pointer (some ⟨h, 0, none⟩)] w fun e w' => IsB e (D.p = H.p) ∧ Below w.heap.size w w' := by
  have hD4 := hd.ok.port.port.four
  have hH4 := hh.ok.port.port.four
  have hDl := hd.ok.port.port.len
  have hHl := hh.ok.port.port.len
  have E0 : Hid (DS w d D ∧ DS w h H) := ⟨hd, hh⟩
  have HP := fun d D W h1 h2 => deskPort_any d D W h1 h2
  have HL := fun d D W h1 h2 => deskPlan_any d D W h1 h2
  have HS := fun vs vh W h1 h2 => topPort_any (.agg (portCells D.p vs).toArray) (.agg (portCells H.p vh).toArray) D.p H.p W h1 h2
  have HI := fun v1 v2 l m W h1 h2 h3 h4 => topInts_any v1 v2 l m W h1 h2 h3 h4
  clear hd hh
  go_enter Tryz.func16, Tryz.ntmps16
  go_wp2_with fail
  refine (HP d D _ E0.out.1.dsk E0.out.1.ok).mono ?_
  rintro e w1 ⟨v1, rfl, h1⟩
  have E1 : Hid (DS w1 d D ∧ DS w1 h H ∧ SlK cShip w1 v1 D.p.ships ∧ Below w.heap.size w w1) := ⟨E0.out.1.later h1.out.2, E0.out.2.later h1.out.2, (RowT.own h1.out.1).sl, h1.out.2⟩
  clear h1 E0
  generalize hPC : (portCells D.p v1).toArray = PC at *
  go_wp2_with fail
  refine (HP h H _ E1.out.2.1.dsk E1.out.2.1.ok).mono ?_
  rintro e w2 ⟨v2, rfl, h2⟩
  have E2 : Hid (DS w2 d D ∧ DS w2 h H ∧ SlK cShip w2 v1 D.p.ships ∧ SlK cShip w2 v2 H.p.ships ∧ Below w.heap.size w w2) := ⟨E1.out.1.later h2.out.2, E1.out.2.1.later h2.out.2, slK_below E1.out.2.2.1 (Nat.le_refl _) h2.out.2, (RowT.own h2.out.1).sl, E1.out.2.2.2.trans (h2.out.2.mono E1.out.2.2.2.size)⟩
  clear h2 E1 HP
  have HS2 := HS v1 v2
  rw [hPC] at HS2
  generalize hQC : (portCells H.p v2).toArray = QC at *
  go_wp2_with fail
  refine (HS2 _ ⟨v1, by rw [hPC], E2.out.2.2.1, hD4, by omega⟩ ⟨v2, by rw [hQC], E2.out.2.2.2.1, hH4, by omega⟩).mono ?_
  rintro e w3 ⟨⟨b, rfl, hb⟩, hb3⟩
  have E3 : Hid (DS w3 d D ∧ DS w3 h H ∧ Below w.heap.size w w3) := ⟨E2.out.1.later hb3, E2.out.2.1.later hb3, E2.out.2.2.2.2.trans (hb3.mono E2.out.2.2.2.2.size)⟩
  have HB : Hid (b = true ↔ D.p = H.p) := hb
  clear hb hb3 E2 HS HS2 hPC hQC
  cases b
  · clear HI HL
    go_wp2_with fail
    go_ret
    exact ⟨⟨false, rfl, HB.out⟩, E3.out.2.2⟩
  · have hp : D.p = H.p := HB.out.1 rfl
    have HP : Hid (D.p = H.p) := hp
    clear hp
    go_wp2_with fail
    refine (HL d D _ E3.out.1.dsk E3.out.1.ok).mono ?_
    rintro e w4 ⟨v4, rfl, h4⟩
    obtain ⟨pl, k1, k2, k3⟩ := h4.out
    have E4 : Hid (DS w4 h H ∧ Below w.heap.size w w4 ∧ PlanIs D.p pl ∧ SlK cInt w4 v4 pl) := ⟨E3.out.2.1.later k3, E3.out.2.2.trans (k3.mono E3.out.2.2.size), k1, (RowT.own k2).sl⟩
    clear h4 k1 k2 k3 E3
    go_wp2_with fail
    refine (HL h H _ E4.out.1.dsk E4.out.1.ok).mono ?_
    rintro e w5 ⟨v5, rfl, h5⟩
    obtain ⟨pm, k1, k2, k3⟩ := h5.out
    have e5 : pm = pl := by
      rw [← HP.out] at k1
      exact k1.unique (by have := E4.out.1.ok.port.port.now; rw [HP.out]; omega) E4.out.2.2.1
    subst e5
    have hpl := E4.out.2.2.1.len
    have E5 : Hid (Below w.heap.size w w5 ∧ SlK cInt w5 v4 pm ∧ SlK cInt w5 v5 pm) := ⟨E4.out.2.1.trans (k3.mono E4.out.2.1.size), slK_below E4.out.2.2.2 (Nat.le_refl _) k3, (RowT.own k2).sl⟩
    clear h5 k1 k2 k3 E4 HL
    go_wp2_with fail
    refine (HI v4 v5 pm pm _ E5.out.2.1 E5.out.2.2 (by omega) (by omega)).mono ?_
    rintro e w6 ⟨rfl, hb6⟩
    have E6 : Hid (Below w.heap.size w w6) := E5.out.1.trans (hb6.mono E5.out.1.size)
    clear hb6 E5 HI
    simp only [decide_true]
    go_wp2_with fail
    go_ret
    exact ⟨⟨true, rfl, ⟨fun _ => HP.out, fun _ => rfl⟩⟩, E6.out⟩
end Go.Proofs.YtcmdoeledmkfmacGreatDoor
