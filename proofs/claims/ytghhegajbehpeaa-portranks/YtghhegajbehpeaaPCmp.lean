/- How two ships that wait stand to each other: cmp.Compare, cmp.Or and the comparison that Ranked of package port makes on the spot. -/
import Derived.Test.YtghhegajbehpeaaPShips
import Derived.Test.YtghhegajbehpeaaPPlan
import Derived.Deep.RegionHeld
import Derived.BigRegion
set_option linter.unusedSimpArgs false
set_option linter.unusedVariables false
namespace Go.Proofs.Ytghhegajbehpeaa
open Go.RowKit

/-- the first that is not 0 -/
def orI (x y : Int) : Int := if x = 0 then y else x

set_option maxHeartbeats 1000000 in
theorem or_any (b : Nat) (x y : Int) (w : World) (h0 : w.cell? ⟨b, 0, none⟩ = some (.int .i64 x)) (h1 : w.cell? ⟨b, 1, none⟩ = some (.int .i64 y)) :
    Calls Try.prog 70 #[.slice (some ⟨b, 0, none⟩) 2 2] w fun e w' => e = .returned (.int .i64 (orI x y)) ∧ w' = w := by
  unfold orI
  by_cases hx : x = 0
  · by_cases hy : y = 0
    · have bx : (x != 0) = false := by simp [hx]
      have yx : (y != 0) = false := by simp [hy]
      go_enter Try.func70, Try.ntmps70
      go_wp2_with fail
      refine wp_loop_rounds 3 ?_
      rw [rounds_succ]
      go_wp2_with fail
      rw [rounds_succ]
      go_wp2_with fail
      rw [rounds_succ]
      go_wp2_with fail
      go_ret
      exact ⟨by first | rfl | simp [hx, hy], rfl⟩
    · have bx : (x != 0) = false := by simp [hx]
      have yx : (y != 0) = true := by simp [hy]
      go_enter Try.func70, Try.ntmps70
      go_wp2_with fail
      refine wp_loop_rounds 3 ?_
      rw [rounds_succ]
      go_wp2_with fail
      rw [rounds_succ]
      go_wp2_with fail
      go_ret
      exact ⟨by first | rfl | simp [hx], rfl⟩
  · have bx : (x != 0) = true := by simp [hx]
    go_enter Try.func70, Try.ntmps70
    go_wp2_with fail
    refine wp_loop_rounds 3 ?_
    rw [rounds_succ]
    go_wp2_with fail
    go_ret
    exact ⟨by first | rfl | simp [hx], rfl⟩

/-- how one ship stands to another one -/
def cmpS (a b : Ship) : Int := orI (cmpI a.cl b.cl) (cmpI a.qu b.qu)

theorem cmpS_neg {a b : Ship} : cmpS a b < 0 ↔ before a b := by
  unfold cmpS orI cmpI before
  split <;> (try split) <;> (try split) <;> (try split) <;> omega

theorem new_pair_drew (w : World) (x y : Value) (t : TypeId) : (w.alloc (.cells #[x, y] t)).drew.cell? ⟨w.heap.size, 0, none⟩ = some x ∧ (w.alloc (.cells #[x, y] t)).drew.cell? ⟨w.heap.size, 1, none⟩ = some y := new_pair w x y t

theorem twoS (w : World) (s r : Ship) : SBox ((w.alloc (.cells #[.int .i64 s.st, .int .i64 s.wd, .int .i64 s.lg, .int .i64 s.cl, .int .i64 s.si, .int .i64 s.qu] 48)).alloc (.cells #[.int .i64 r.st, .int .i64 r.wd, .int .i64 r.lg, .int .i64 r.cl, .int .i64 r.si, .int .i64 r.qu] 48)).drew w.heap.size s ∧ SBox ((w.alloc (.cells #[.int .i64 s.st, .int .i64 s.wd, .int .i64 s.lg, .int .i64 s.cl, .int .i64 s.si, .int .i64 s.qu] 48)).alloc (.cells #[.int .i64 r.st, .int .i64 r.wd, .int .i64 r.lg, .int .i64 r.cl, .int .i64 r.si, .int .i64 r.qu] 48)).drew (w.heap.size + 1) r ∧ Below w.heap.size w ((w.alloc (.cells #[.int .i64 s.st, .int .i64 s.wd, .int .i64 s.lg, .int .i64 s.cl, .int .i64 s.si, .int .i64 s.qu] 48)).alloc (.cells #[.int .i64 r.st, .int .i64 r.wd, .int .i64 r.lg, .int .i64 r.cl, .int .i64 r.si, .int .i64 r.qu] 48)).drew := by
  have h1 : SBox (w.alloc (.cells #[.int .i64 s.st, .int .i64 s.wd, .int .i64 s.lg, .int .i64 s.cl, .int .i64 s.si, .int .i64 s.qu] 48)) w.heap.size s := SBox.new w s
  have h2 := (Below.refl (w.alloc (.cells #[.int .i64 s.st, .int .i64 s.wd, .int .i64 s.lg, .int .i64 s.cl, .int .i64 s.si, .int .i64 s.qu] 48)).heap.size (w.alloc (.cells #[.int .i64 s.st, .int .i64 s.wd, .int .i64 s.lg, .int .i64 s.cl, .int .i64 s.si, .int .i64 s.qu] 48))).alloc (Nat.le_refl _) (.cells #[.int .i64 r.st, .int .i64 r.wd, .int .i64 r.lg, .int .i64 r.cl, .int .i64 r.si, .int .i64 r.qu] 48)
  have h3 := SBox.new (w.alloc (.cells #[.int .i64 s.st, .int .i64 s.wd, .int .i64 s.lg, .int .i64 s.cl, .int .i64 s.si, .int .i64 s.qu] 48)) r
  have hz : (w.alloc (.cells #[.int .i64 s.st, .int .i64 s.wd, .int .i64 s.lg, .int .i64 s.cl, .int .i64 s.si, .int .i64 s.qu] 48)).heap.size = w.heap.size + 1 := by simp
  refine ⟨h1.later h2.drew h1.lt, ?_, ((Below.refl _ w).alloc (Nat.le_refl _) _).trans (h2.mono (by omega)) |>.drew⟩
  rw [hz] at h3
  exact h3

set_option maxHeartbeats 4000000 in
set_option maxRecDepth 100000 in
theorem rankCmp_any (g : Nat) (p : Pt) (bb off cap : Nat) (w : World) (X : PBox w g p (.slice (some ⟨bb, off, none⟩) p.ships.length cap)) (hr : RdK cShip w bb off p.ships) (i j : Nat) (hi : i < p.ships.length) (hj : j < p.ships.length) :
    Calls Try.prog 69 #[.int .i64 i, .int .i64 j, .pointer (some ⟨g, 0, none⟩)] w fun e w' => e = .returned (.int .i64 (cmpS (shp p i) (shp p j))) ∧ Below w.heap.size w w' := by
  obtain ⟨s, hs⟩ : ∃ s, p.ships[i]? = some s := ⟨p.ships[i], List.getElem?_eq_getElem hi⟩
  obtain ⟨r, hr2⟩ : ∃ s, p.ships[j]? = some s := ⟨p.ships[j], List.getElem?_eq_getElem hj⟩
  rw [shp_get hs, shp_get hr2]
  obtain ⟨c0, c1, c2, c3, c4, c5⟩ := hr.ship hs
  obtain ⟨d0, d1, d2, d3, d4, d5⟩ := hr.ship hr2
  have pc1 := X.cells.2.1
  have hi3 : (i : Int) < (p.ships.length : Int) := by omega
  have hj3 : (j : Int) < (p.ships.length : Int) := by omega
  have HSS : Hid (cmpS s r = orI (cmpI s.cl r.cl) (cmpI s.qu r.qu)) := rfl
  clear hs hr2 hr X
  go_enter Try.func69, Try.ntmps69
  go_wp2_with fail
  go_cut [6, 7] (fun s6 s7 wc => ∃ x y, s6 = .pointer (some ⟨x, 0, none⟩) ∧ s7 = .pointer (some ⟨y, 0, none⟩) ∧ Hid (SBox wc x s ∧ SBox wc y r ∧ Below w.heap.size w wc))
  case first =>
    go_region_held (fun w' => w'.cell? ⟨g, 1, none⟩ = some (.slice (some ⟨bb, off, none⟩) p.ships.length cap) ∧ w'.cell? ⟨bb, off + i * 6, none⟩ = some (.int .i64 s.st) ∧ w'.cell? ⟨bb, off + i * 6 + 1, none⟩ = some (.int .i64 s.wd) ∧ w'.cell? ⟨bb, off + i * 6 + 2, none⟩ = some (.int .i64 s.lg) ∧ w'.cell? ⟨bb, off + i * 6 + 3, none⟩ = some (.int .i64 s.cl) ∧ w'.cell? ⟨bb, off + i * 6 + 4, none⟩ = some (.int .i64 s.si) ∧ w'.cell? ⟨bb, off + i * 6 + 5, none⟩ = some (.int .i64 s.qu) ∧ w'.cell? ⟨bb, off + j * 6, none⟩ = some (.int .i64 r.st) ∧ w'.cell? ⟨bb, off + j * 6 + 1, none⟩ = some (.int .i64 r.wd) ∧ w'.cell? ⟨bb, off + j * 6 + 2, none⟩ = some (.int .i64 r.lg) ∧ w'.cell? ⟨bb, off + j * 6 + 3, none⟩ = some (.int .i64 r.cl) ∧ w'.cell? ⟨bb, off + j * 6 + 4, none⟩ = some (.int .i64 r.si) ∧ w'.cell? ⟨bb, off + j * 6 + 5, none⟩ = some (.int .i64 r.qu)) (go_keep) (fail)
    all_goals go_wp2_with fail
    all_goals go_meet
    all_goals first | exact ⟨_, _, rfl, rfl, twoS w s r⟩ | exact ⟨_, _, rfl, rfl, ⟨(twoS w r s).2.1, (twoS w r s).1, (twoS w r s).2.2⟩⟩
  case rest =>
    obtain ⟨x, y, rfl, rfl, F⟩ := hcut
    obtain ⟨k0, k1, k2, k3, k4, k5⟩ := F.out.1.cells
    obtain ⟨e0, e1, e2, e3, e4, e5⟩ := F.out.2.1.cells
    clear k0 k1 k2 k4 e0 e1 e2 e4 c0 c1 c2 c3 c4 c5 d0 d1 d2 d3 d4 d5 pc1
    go_wp2_with fail
    go_region_held (fun w' => w'.cell? ⟨x, 3, none⟩ = some (.int .i64 s.cl) ∧ w'.cell? ⟨x, 5, none⟩ = some (.int .i64 s.qu) ∧ w'.cell? ⟨y, 3, none⟩ = some (.int .i64 r.cl) ∧ w'.cell? ⟨y, 5, none⟩ = some (.int .i64 r.qu)) (go_keep) (first | (go_at_call 71; refine (compare_any _ _ _).mono ?_; rintro e w' ⟨rfl, rfl⟩) | (go_at_call 70; refine (or_any _ _ _ _ (new_pair_drew _ _ _ _).1 (new_pair_drew _ _ _ _).2).mono ?_; rintro e w' ⟨rfl, rfl⟩))
    all_goals go_wp2_with fail
    all_goals go_ret
    all_goals exact ⟨by rw [HSS.out]; rfl, F.out.2.2.trans (((Below.refl _ wc).alloc (Nat.le_refl _) _).drew.mono F.out.2.2.size)⟩

end Go.Proofs.Ytghhegajbehpeaa
