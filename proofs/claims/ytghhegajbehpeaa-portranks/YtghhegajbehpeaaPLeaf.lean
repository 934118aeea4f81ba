/- The small questions of package port, and GoodShip: whether a ship may be one, at some time: P2.1. -/
import Derived.Test.YtghhegajbehpeaaPMem
set_option linter.unusedSimpArgs false
set_option linter.unusedVariables false
namespace Go.Proofs.Ytghhegajbehpeaa
open Go.RowKit

theorem pinR_yes {n lo hi : Int} (h : inR n lo hi = true) : lo ≤ n ∧ n ≤ hi := of_decide_eq_true h
theorem pinR_no {n lo hi : Int} (h : inR n lo hi = false) : ¬ (lo ≤ n ∧ n ≤ hi) := of_decide_eq_false h
theorem pinR_or (n lo hi : Int) : inR n lo hi = true ∨ inR n lo hi = false := by cases inR n lo hi <;> simp

theorem pWithin (lo hi n : Int) (w : World) :
    Calls Try.prog 63 #[.int .i64 lo, .int .i64 hi, .int .i64 n] w fun e w' => e = .returned (.bool (inR n lo hi)) ∧ w' = w := by
  unfold inR
  by_cases h1 : lo ≤ n <;> by_cases h2 : n ≤ hi
  all_goals
    go_enter Try.func63, Try.ntmps63
    go_wp2
    go_ret
    exact ⟨by simp [h1, h2], rfl⟩


theorem pIsTime (n : Int) (w : World) : Calls Try.prog 77 #[.int .i64 n] w fun e w' => e = .returned (.bool (inR n 0 299)) ∧ w' = w := by
  go_enter Try.func77, Try.ntmps77
  go_wp2_with (go_at_call 63; refine (pWithin _ _ _ _).mono ?_; rintro e w' ⟨rfl, rfl⟩)
  go_ret
  exact ⟨rfl, rfl⟩
theorem pGoodWide (n : Int) (w : World) : Calls Try.prog 60 #[.int .i64 n] w fun e w' => e = .returned (.bool (inR n 1 16)) ∧ w' = w := by
  go_enter Try.func60, Try.ntmps60
  go_wp2_with (go_at_call 63; refine (pWithin _ _ _ _).mono ?_; rintro e w' ⟨rfl, rfl⟩)
  go_ret
  exact ⟨rfl, rfl⟩
theorem pGoodLong (n : Int) (w : World) : Calls Try.prog 61 #[.int .i64 n] w fun e w' => e = .returned (.bool (inR n 1 300)) ∧ w' = w := by
  go_enter Try.func61, Try.ntmps61
  go_wp2_with (go_at_call 63; refine (pWithin _ _ _ _).mono ?_; rintro e w' ⟨rfl, rfl⟩)
  go_ret
  exact ⟨rfl, rfl⟩
theorem pGoodClass (n : Int) (w : World) : Calls Try.prog 62 #[.int .i64 n] w fun e w' => e = .returned (.bool (inR n 0 3)) ∧ w' = w := by
  go_enter Try.func62, Try.ntmps62
  go_wp2_with (go_at_call 63; refine (pWithin _ _ _ _).mono ?_; rintro e w' ⟨rfl, rfl⟩)
  go_ret
  exact ⟨rfl, rfl⟩

/-- from a time to another one -/
def stayB (fr to : Int) : Bool := decide (0 ≤ fr ∧ fr < to ∧ to ≤ 300)
theorem stayB_iff {fr to : Int} : stayB fr to = true ↔ 0 ≤ fr ∧ fr < to ∧ to ≤ 300 := by simp [stayB]

theorem pGoodStay (fr to : Int) (w : World) : Calls Try.prog 106 #[.int .i64 fr, .int .i64 to] w fun e w' => e = .returned (.bool (stayB fr to)) ∧ w' = w := by
  unfold stayB
  by_cases h1 : 0 ≤ fr <;> by_cases h2 : fr < to <;> by_cases h3 : to ≤ 300
  all_goals
    go_enter Try.func106, Try.ntmps106
    go_wp2
    go_ret
    exact ⟨by simp [h1, h2, h3], rfl⟩

/-- what is begun ends above now, and at the last time at most -/
def lastsB (si lg now : Int) : Bool := decide (si + lg ≤ 300 ∧ now < si + lg)

theorem pLasts (si lg now : Int) (w : World) (h0 : 0 ≤ si) (h1 : 1 ≤ lg) (h2 : lg ≤ 300) : Calls Try.prog 64 #[.int .i64 si, .int .i64 lg, .int .i64 now] w fun e w' => e = .returned (.bool (lastsB si lg now)) ∧ w' = w := by
  unfold lastsB
  by_cases a : si ≤ 300 - lg
  · by_cases b : now < si + lg
    all_goals
      go_enter Try.func64, Try.ntmps64
      go_wp2
      go_ret
      exact ⟨by simp [b, show si + lg ≤ 300 by omega], rfl⟩
  · go_enter Try.func64, Try.ntmps64
    go_wp2
    go_ret
    exact ⟨by simp [show ¬ si + lg ≤ 300 by omega], rfl⟩

theorem pIsShipB_no {s : Ship} {now : Int} (h : ¬ IsShip s now) : isShipB s now = false := by
  cases e : isShipB s now
  · rfl
  · exact absurd (isShipB_iff.1 e) h


set_option maxHeartbeats 2000000 in
theorem goodShip_any (s : Ship) (now : Int) (w : World) :
    Calls Try.prog 32 #[.agg (cShip s).toArray, .int .i64 now] w fun e w' => e = .returned (.bool (isShipB s now)) ∧ Below w.heap.size w w' := by
  obtain ⟨st, wd, lg, cl, si, qu⟩ := s
  simp only [cShip]
  have BA : Hid (Below w.heap.size w (w.alloc (.cells #[.int .i64 st, .int .i64 wd, .int .i64 lg, .int .i64 cl, .int .i64 si, .int .i64 qu] 48))) := (Below.refl _ _).alloc (Nat.le_refl _) _
  rcases pinR_or wd 1 16 with b1 | b1
  case inr =>
    have hB : Hid (isShipB ⟨st, wd, lg, cl, si, qu⟩ now = false) := pIsShipB_no (by exact fun h => pinR_no b1 h.wd)
    go_enter Try.func32, Try.ntmps32
    go_wp2_with (first | (go_at_call 60; refine (pGoodWide _ _).mono ?_; rintro e w' ⟨rfl, rfl⟩) | (go_at_call 61; refine (pGoodLong _ _).mono ?_; rintro e w' ⟨rfl, rfl⟩) | (go_at_call 62; refine (pGoodClass _ _).mono ?_; rintro e w' ⟨rfl, rfl⟩) | (go_at_call 63; refine (pWithin _ _ _ _).mono ?_; rintro e w' ⟨rfl, rfl⟩) | (go_at_call 64; refine (pLasts _ _ _ _ (by omega) (by omega) (by omega)).mono ?_; rintro e w' ⟨rfl, rfl⟩))
    go_ret
    exact ⟨by rw [hB.out]; rfl, BA.out⟩
  rcases pinR_or lg 1 300 with b2 | b2
  case inr =>
    have hB : Hid (isShipB ⟨st, wd, lg, cl, si, qu⟩ now = false) := pIsShipB_no (by exact fun h => pinR_no b2 h.lg)
    go_enter Try.func32, Try.ntmps32
    go_wp2_with (first | (go_at_call 60; refine (pGoodWide _ _).mono ?_; rintro e w' ⟨rfl, rfl⟩) | (go_at_call 61; refine (pGoodLong _ _).mono ?_; rintro e w' ⟨rfl, rfl⟩) | (go_at_call 62; refine (pGoodClass _ _).mono ?_; rintro e w' ⟨rfl, rfl⟩) | (go_at_call 63; refine (pWithin _ _ _ _).mono ?_; rintro e w' ⟨rfl, rfl⟩) | (go_at_call 64; refine (pLasts _ _ _ _ (by omega) (by omega) (by omega)).mono ?_; rintro e w' ⟨rfl, rfl⟩))
    go_ret
    exact ⟨by rw [hB.out]; rfl, BA.out⟩
  rcases pinR_or cl 0 3 with b3 | b3
  case inr =>
    have hB : Hid (isShipB ⟨st, wd, lg, cl, si, qu⟩ now = false) := pIsShipB_no (by exact fun h => pinR_no b3 h.cl)
    go_enter Try.func32, Try.ntmps32
    go_wp2_with (first | (go_at_call 60; refine (pGoodWide _ _).mono ?_; rintro e w' ⟨rfl, rfl⟩) | (go_at_call 61; refine (pGoodLong _ _).mono ?_; rintro e w' ⟨rfl, rfl⟩) | (go_at_call 62; refine (pGoodClass _ _).mono ?_; rintro e w' ⟨rfl, rfl⟩) | (go_at_call 63; refine (pWithin _ _ _ _).mono ?_; rintro e w' ⟨rfl, rfl⟩) | (go_at_call 64; refine (pLasts _ _ _ _ (by omega) (by omega) (by omega)).mono ?_; rintro e w' ⟨rfl, rfl⟩))
    go_ret
    exact ⟨by rw [hB.out]; rfl, BA.out⟩
  by_cases b4 : 0 ≤ qu
  case neg =>
    have hB : Hid (isShipB ⟨st, wd, lg, cl, si, qu⟩ now = false) := pIsShipB_no (by exact fun h => b4 h.qu)
    have b4' : qu < 0 := by omega
    go_enter Try.func32, Try.ntmps32
    go_wp2_with (first | (go_at_call 60; refine (pGoodWide _ _).mono ?_; rintro e w' ⟨rfl, rfl⟩) | (go_at_call 61; refine (pGoodLong _ _).mono ?_; rintro e w' ⟨rfl, rfl⟩) | (go_at_call 62; refine (pGoodClass _ _).mono ?_; rintro e w' ⟨rfl, rfl⟩) | (go_at_call 63; refine (pWithin _ _ _ _).mono ?_; rintro e w' ⟨rfl, rfl⟩) | (go_at_call 64; refine (pLasts _ _ _ _ (by omega) (by omega) (by omega)).mono ?_; rintro e w' ⟨rfl, rfl⟩))
    go_ret
    exact ⟨by rw [hB.out]; rfl, BA.out⟩
  have b4' : ¬ qu < 0 := by omega
  have l1 : 1 ≤ lg := (pinR_yes b2).1
  have l2 : lg ≤ 300 := (pinR_yes b2).2
  by_cases s3 : st = 3
  · subst s3
    rcases pinR_or si 0 now with b5 | b5
    case inr =>
      have hB : Hid (isShipB ⟨3, wd, lg, cl, si, qu⟩ now = false) := pIsShipB_no (by exact fun h => pinR_no b5 ⟨(h.lies rfl).1, (h.lies rfl).2.1⟩)
      clear l1 l2
      go_enter Try.func32, Try.ntmps32
      go_wp2_with (first | (go_at_call 60; refine (pGoodWide _ _).mono ?_; rintro e w' ⟨rfl, rfl⟩) | (go_at_call 61; refine (pGoodLong _ _).mono ?_; rintro e w' ⟨rfl, rfl⟩) | (go_at_call 62; refine (pGoodClass _ _).mono ?_; rintro e w' ⟨rfl, rfl⟩) | (go_at_call 63; refine (pWithin _ _ _ _).mono ?_; rintro e w' ⟨rfl, rfl⟩) | (go_at_call 64; refine (pLasts _ _ _ _ (by omega) (by omega) (by omega)).mono ?_; rintro e w' ⟨rfl, rfl⟩))
      go_ret
      exact ⟨by rw [hB.out]; rfl, BA.out⟩
    have l3 : 0 ≤ si := (pinR_yes b5).1
    have hB : Hid (isShipB ⟨3, wd, lg, cl, si, qu⟩ now = lastsB si lg now) := by
      have c1 := pinR_yes b1; have c2 := pinR_yes b2; have c3 := pinR_yes b3; have c5 := pinR_yes b5
      show _ = _
      unfold isShipB lastsB
      rw [decide_eq_decide]
      dsimp only
      omega
    go_enter Try.func32, Try.ntmps32
    go_wp2_with (first | (go_at_call 60; refine (pGoodWide _ _).mono ?_; rintro e w' ⟨rfl, rfl⟩) | (go_at_call 61; refine (pGoodLong _ _).mono ?_; rintro e w' ⟨rfl, rfl⟩) | (go_at_call 62; refine (pGoodClass _ _).mono ?_; rintro e w' ⟨rfl, rfl⟩) | (go_at_call 63; refine (pWithin _ _ _ _).mono ?_; rintro e w' ⟨rfl, rfl⟩) | (go_at_call 64; refine (pLasts _ _ _ _ (by omega) (by omega) (by omega)).mono ?_; rintro e w' ⟨rfl, rfl⟩))
    go_ret
    exact ⟨by rw [hB.out]; rfl, BA.out⟩
  · by_cases s0 : st = 1 ∨ st = 2 ∨ st = 4
    · have hB : Hid (isShipB ⟨st, wd, lg, cl, si, qu⟩ now = decide (si = 0)) := by
        have c1 := pinR_yes b1; have c2 := pinR_yes b2; have c3 := pinR_yes b3
        show _ = _
        unfold isShipB
        rw [decide_eq_decide]
        dsimp only
        omega
      clear l1 l2
      rcases s0 with rfl | rfl | rfl
      all_goals
        by_cases z : si = 0
        · subst z
          have hB2 : Hid (_ = true) := hB.out.trans (decide_eq_true rfl)
          clear hB
          go_enter Try.func32, Try.ntmps32
          go_wp2_with (first | (go_at_call 60; refine (pGoodWide _ _).mono ?_; rintro e w' ⟨rfl, rfl⟩) | (go_at_call 61; refine (pGoodLong _ _).mono ?_; rintro e w' ⟨rfl, rfl⟩) | (go_at_call 62; refine (pGoodClass _ _).mono ?_; rintro e w' ⟨rfl, rfl⟩) | (go_at_call 63; refine (pWithin _ _ _ _).mono ?_; rintro e w' ⟨rfl, rfl⟩) | (go_at_call 64; refine (pLasts _ _ _ _ (by omega) (by omega) (by omega)).mono ?_; rintro e w' ⟨rfl, rfl⟩))
          go_ret
          exact ⟨by rw [hB2.out]; first | rfl | simp, BA.out⟩
        · have hB2 : Hid (_ = false) := hB.out.trans (decide_eq_false z)
          clear hB
          go_enter Try.func32, Try.ntmps32
          go_wp2_with (first | (go_at_call 60; refine (pGoodWide _ _).mono ?_; rintro e w' ⟨rfl, rfl⟩) | (go_at_call 61; refine (pGoodLong _ _).mono ?_; rintro e w' ⟨rfl, rfl⟩) | (go_at_call 62; refine (pGoodClass _ _).mono ?_; rintro e w' ⟨rfl, rfl⟩) | (go_at_call 63; refine (pWithin _ _ _ _).mono ?_; rintro e w' ⟨rfl, rfl⟩) | (go_at_call 64; refine (pLasts _ _ _ _ (by omega) (by omega) (by omega)).mono ?_; rintro e w' ⟨rfl, rfl⟩))
          go_ret
          exact ⟨by rw [hB2.out]; simp [z], BA.out⟩
    · have hB : Hid (isShipB ⟨st, wd, lg, cl, si, qu⟩ now = false) := pIsShipB_no (by intro h; have := h.st; simp only at this; omega)
      have z1 : ¬ st = 1 := by omega
      have z2 : ¬ st = 2 := by omega
      have z4 : ¬ st = 4 := by omega
      clear s0 l1 l2
      go_enter Try.func32, Try.ntmps32
      go_wp2_with (first | (go_at_call 60; refine (pGoodWide _ _).mono ?_; rintro e w' ⟨rfl, rfl⟩) | (go_at_call 61; refine (pGoodLong _ _).mono ?_; rintro e w' ⟨rfl, rfl⟩) | (go_at_call 62; refine (pGoodClass _ _).mono ?_; rintro e w' ⟨rfl, rfl⟩) | (go_at_call 63; refine (pWithin _ _ _ _).mono ?_; rintro e w' ⟨rfl, rfl⟩) | (go_at_call 64; refine (pLasts _ _ _ _ (by omega) (by omega) (by omega)).mono ?_; rintro e w' ⟨rfl, rfl⟩))
      go_ret
      exact ⟨by rw [hB.out]; rfl, BA.out⟩

end Go.Proofs.Ytghhegajbehpeaa
