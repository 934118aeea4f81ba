/- Texts of this claim, in one: TRefusedW. -/
import Derived.Test.YtcmdoeledmkfmabGreatDoorXTQuiet
/- TopRefused: one more line that is refused changes nothing: P5.2. -/
set_option linter.unusedSimpArgs false
set_option linter.unusedVariables false
namespace Go.Proofs.YtcmdoeledmkfmabGreatDoor
open Go.RowKit

theorem PD.later {l : List (List UInt8)} {w w' w'' : World} {d : Nat} {D : Dk} (h : PD l w w' d D) (hb : Below w'.heap.size w' w'') : PD l w w'' d D := ⟨h.play, h.ds.later hb, h.new, h.below.trans (hb.mono h.below.size)⟩
theorem PD.lt {l : List (List UInt8)} {w w' : World} {d : Nat} {D : Dk} (h : PD l w w' d D) : d < w'.heap.size := h.ds.lt
/-- lines, twice -/
theorem PD.twice {l : List (List UInt8)} {w w' v v' : World} {d h : Nat} {D H : Dk} (a : PD l w w' d D) (b : PD l v v' h H) : H = D := playIs_unique _ _ _ _ newDk_ok b.play a.play

set_option maxHeartbeats 4000000 in
set_option maxRecDepth 100000 in
theorem topRefused_any (v : Value) (l : List (List UInt8)) (s : List UInt8) (w : World) (hL : LW w) (hs : SlK cStr w v l) (hln : ∀ y ∈ l, y.length ≤ 9223372036854775807) (hll : l.length ≤ 8796093022208) (hsl : s.length ≤ 9223372036854775807) :
    Calls Tryz.prog 11 #[v, txt s] w fun e w' => e = .returned (.bool true) ∧ Below w.heap.size w w' := by
  have HP := fun W h1 h2 => playQuiet_any v l W h1 h2 hln hll
  have HT := fun d D W h => tell_ds d D s W h hsl
  have HS := fun d h D H W h1 h2 => same_any d h D H W h1 h2
  have E0 : Hid (LW w ∧ SlK cStr w v l) := ⟨hL, hs⟩
  obtain ⟨a, cap, hv⟩ : ∃ a cap, v = .slice a l.length cap := by obtain ⟨a, cap, h, _⟩ := hs; exact ⟨a, cap, h⟩
  subst hv
  clear hL hs hln hsl
  unfold txt at *
  go_enter Tryz.func11, Tryz.ntmps11
  go_wp2_with fail
  refine (HP _ E0.out.1 E0.out.2).mono ?_
  rintro e w1 ⟨d, rfl, h1⟩
  obtain ⟨D, hD⟩ := h1.out
  have E1 : Hid (PD l w w1 d D ∧ SlK cStr w1 (.slice a l.length cap) l) := ⟨hD, slK_below E0.out.2 (Nat.le_refl _) hD.below⟩
  clear h1 hD E0
  go_wp2_with fail
  refine (HP _ E1.out.1.ds.lw E1.out.2).mono ?_
  rintro e w2 ⟨h, rfl, h2⟩
  obtain ⟨H, hH⟩ := h2.out
  obtain rfl := E1.out.1.twice hH
  have E2 : Hid (DS w2 d H ∧ DS w2 h H ∧ Below w.heap.size w w2 ∧ w.heap.size ≤ d ∧ d ≠ h) := ⟨E1.out.1.ds.later hH.below, hH.ds, E1.out.1.below.trans (hH.below.mono E1.out.1.below.size), E1.out.1.new, by have := E1.out.1.lt; have := hH.new; omega⟩
  clear h2 hH E1 HP
  go_wp2_with fail
  refine (HT d H _ E2.out.1).mono ?_
  rintro e w3 ⟨er, n, rfl, h3⟩
  obtain ⟨D', j1, j2, j3⟩ := h3.out
  have E3 : Hid (DS w3 d D' ∧ DS w3 h H ∧ Below w.heap.size w w3) := ⟨j2, E2.out.2.1.other E2.out.1 j3 (fun e => E2.out.2.2.2.2 e.symm), E2.out.2.2.1.trans (j3.below.mono E2.out.2.2.2.1)⟩
  have LI : Hid (er ≠ 0 → n = 0 ∧ D'.p = H.p) := fun he => by have := lineIs_refused j1 he; exact ⟨this.1, this.2.1⟩
  clear h3 j1 j2 j3 E2 HT
  go_upto_region 6 with (first | (refine wpList_alloc_rep rfl rfl 9 rfl ?_; intro w4 h4 s4) | (refine wpList_store_rep rfl _ _ rfl w3.heap.size 0 0 er n rfl rfl h4.out.1 ?_; intro w5 h5 s5))
  have E5 : Hid (DS w5 d D' ∧ DS w5 h H ∧ Below w.heap.size w w5) := by
    have hb : Below w3.heap.size w3 w5 := h4.out.2.trans (h5.out.2.2 _ (Nat.le_refl _))
    exact ⟨E3.out.1.later hb, E3.out.2.1.later hb, E3.out.2.2.trans (hb.mono E3.out.2.2.size)⟩
  obtain ⟨c0, c1⟩ := h5.out.1.cells
  clear E3 h4 h5 s4 s5
  generalize w3.heap.size = g at *
  by_cases he : er = 0
  · subst he
    clear HS LI
    go_wp2_with fail
    go_ret
    exact ⟨rfl, E5.out.2.2⟩
  · obtain ⟨rfl, hp⟩ := LI.out he
    have HQ : Hid (D'.p = H.p) := hp
    have hb : (er == 0) = false := by simp [he]
    clear LI hp
    go_wp2_with fail
    refine (HS d h D' H _ E5.out.1 E5.out.2.1).mono ?_
    rintro e w6 ⟨⟨b, rfl, hb6⟩, hb7⟩
    obtain rfl : b = true := hb6.2 HQ.out
    have E6 : Hid (Below w.heap.size w w6) := E5.out.2.2.trans (hb7.mono E5.out.2.2.size)
    clear hb6 hb7 E5 HS
    go_wp2_with fail
    go_ret
    exact ⟨rfl, E6.out⟩

end Go.Proofs.YtcmdoeledmkfmabGreatDoor
