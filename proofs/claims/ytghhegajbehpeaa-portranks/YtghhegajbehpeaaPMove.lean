/- What is done to a ship that there is already: turn, change, move of package port: P2.7. -/
import Derived.Test.YtghhegajbehpeaaPLate
set_option linter.unusedSimpArgs false
set_option linter.unusedVariables false
namespace Go.Proofs.Ytghhegajbehpeaa
open Go.RowKit

/-- one ship is another one -/
def setS (p : Pt) (i : Nat) (s : Ship) : Pt := { p with ships := p.ships.set i s }

/-- a ship from a state to another one -/
def turnF (s : Ship) (x y : Int) : Int × Ship := if s.st = x then (0, { s with st := y }) else (4, s)
/-- another Long for a ship -/
def changeF (s : Ship) (long now : Int) : Int × Ship := if (1 ≤ long ∧ long ≤ 300) ∧ (s.st = 3 → s.si + long ≤ 300 ∧ now < s.si + long) then (0, { s with lg := long }) else (2, s)
/-- what an order makes of a ship that there is -/
def moveS (s : Ship) (kd b now : Int) : Int × Ship :=
  if s.st = 4 then (4, s) else if kd = 2 then (0, outS s) else if kd = 3 then turnF s 1 2 else if kd = 4 then turnF s 2 1 else changeF s b now
/-- what an order about a ship makes of a port -/
def moveF (p : Pt) (o : Ord) : Int × Pt :=
  if 0 ≤ o.a ∧ o.a ≤ (p.ships.length : Int) - 1 then ((moveS (shp p o.a.toNat) o.kd o.b p.now).1, setS p o.a.toNat (moveS (shp p o.a.toNat) o.kd o.b p.now).2) else (3, p)

theorem setS_same {p : Pt} {i : Nat} : setS p i (shp p i) = p := by
  unfold setS
  have : p.ships.set i (shp p i) = p.ships := by
    refine List.ext_getElem? fun k => ?_
    by_cases e : k = i
    · subst e
      by_cases hi : k < p.ships.length
      · rw [List.getElem?_set_self hi, shp_in hi]
      · rw [List.getElem?_eq_none (by rw [List.length_set]; omega), List.getElem?_eq_none (by omega)]
    · rw [List.getElem?_set_ne (fun h => e h.symm)]
  rw [this]

theorem PQ.cell {B g : Nat} {w : World} {q : Pt} {b n cap : Nat} (h : PQ B w g q (.slice (some ⟨b, 0, none⟩) n cap)) {j : Nat} {s : Ship} (hs : q.ships[j]? = some s) :
    (w.cell? ⟨b, j * 6, none⟩ = some (.int .i64 s.st) ∧ w.cell? ⟨b, j * 6 + 2, none⟩ = some (.int .i64 s.lg) ∧ w.cell? ⟨b, j * 6 + 4, none⟩ = some (.int .i64 s.si)) ∧ (∀ k, w.frozen? ⟨b, k, none⟩ = false) ∧ B ≤ b ∧ b ≠ g := by
  obtain ⟨b', c, e, ho⟩ := OwnK.ofRow h.2.1 (by intro e; cases e)
  injection e with e1 e2 e3
  injection e1 with e1
  injection e1 with e1
  subst e1
  have hr := (ho.rd.ship hs)
  simp only [Nat.zero_add] at hr
  refine ⟨⟨hr.1, hr.2.2.1, hr.2.2.2.2.1⟩, fun k => ho.frozen k, (h.2.1.lt b rfl).1, ?_⟩
  rintro rfl
  obtain ⟨cur, h2, _⟩ := ho.row
  have e := h2.symm.trans h.1.2
  injection e with e
  injection e with _ e
  exact absurd e (by decide)

/-- one cell of one ship is written anew -/
theorem PQ.one {B g : Nat} {w : World} {q : Pt} {b n cap j i : Nat} {s s' : Ship} {x : Value} (h : PQ B w g q (.slice (some ⟨b, 0, none⟩) n cap)) (hs : q.ships[j]? = some s) (hi : i < 6) (hc : cShip s' = (cShip s).set i x) :
    PQ B (w.setCell ⟨b, j * 6 + i, none⟩ x) g (setS q j s') (.slice (some ⟨b, 0, none⟩) n cap) ∧ Below B w (w.setCell ⟨b, j * 6 + i, none⟩ x) := by
  obtain ⟨_, _, hB, hne⟩ := h.cell hs
  have hb : Below B w (w.setCell ⟨b, j * 6 + i, none⟩ x) := (Below.refl B w).setCell (by show _ ≤ b; exact hB) _
  refine ⟨⟨h.1.other _ _ (fun e => hne e.symm), rowShips_one h.2.1 hs hi hc, Nat.le_trans h.2.2.1 hb.size, h.2.2.2⟩, hb⟩

set_option maxHeartbeats 1000000 in
theorem turn_any (b o : Nat) (st x y : Int) (w : World) (c0 : w.cell? ⟨b, o, none⟩ = some (.int .i64 st)) (f0 : w.frozen? ⟨b, o, none⟩ = false) :
    Calls Try.prog 111 #[.pointer (some ⟨b, o, none⟩), .int .i64 x, .int .i64 y] w fun e w' => (st = x ∧ e = .returned (.int .i64 0) ∧ w' = w.setCell ⟨b, o, none⟩ (.int .i64 y)) ∨ (st ≠ x ∧ e = .returned (.int .i64 4) ∧ w' = w) := by
  by_cases h : st = x
  · have h1 : (st != x) = false := by simp [h]
    have H : Hid (st = x) := h
    clear h
    go_enter Try.func111, Try.ntmps111
    go_wp2_with fail
    go_ret
    exact Or.inl ⟨H.out, rfl, rfl⟩
  · have h1 : (st != x) = true := by simp [h]
    have H : Hid (st ≠ x) := h
    clear h
    go_enter Try.func111, Try.ntmps111
    go_wp2_with fail
    go_ret
    exact Or.inr ⟨H.out, rfl, rfl⟩

/-- may it be so long? -/
def okLong (st si long now : Int) : Prop := (1 ≤ long ∧ long ≤ 300) ∧ (st = 3 → si + long ≤ 300 ∧ now < si + long)


set_option maxHeartbeats 1000000 in
theorem change_any (b o : Nat) (st lg si long now : Int) (w : World) (c0 : w.cell? ⟨b, o, none⟩ = some (.int .i64 st)) (c2 : w.cell? ⟨b, o + 2, none⟩ = some (.int .i64 lg)) (c4 : w.cell? ⟨b, o + 4, none⟩ = some (.int .i64 si)) (f2 : w.frozen? ⟨b, o + 2, none⟩ = false) (hsi : st = 3 → 0 ≤ si) :
    Calls Try.prog 112 #[.pointer (some ⟨b, o, none⟩), .int .i64 long, .int .i64 now] w fun e w' => (okLong st si long now ∧ e = .returned (.int .i64 0) ∧ w' = w.setCell ⟨b, o + 2, none⟩ (.int .i64 long)) ∨ (¬ okLong st si long now ∧ e = .returned (.int .i64 2) ∧ w' = w) := by
  rcases pinR_or long 1 300 with b1 | b1
  case inr =>
    have NO : Hid (¬ okLong st si long now) := fun h => pinR_no b1 h.1
    have S0 : Hid (0 ≤ (0 : Int) ∧ 1 ≤ (1 : Int) ∧ (1 : Int) ≤ 300) := ⟨by omega, by omega, by omega⟩
    go_enter Try.func112, Try.ntmps112
    go_wp2_with (first | (go_at_call 61; refine (pGoodLong _ _).mono ?_; rintro e w' ⟨rfl, rfl⟩) | (go_at_call 64; refine (pLasts _ _ _ _ S0.out.1 S0.out.2.1 S0.out.2.2).mono ?_; rintro e w' ⟨rfl, rfl⟩))
    go_ret
    exact Or.inr ⟨NO.out, rfl, rfl⟩
  have hl := pinR_yes b1
  by_cases h3 : st = 3
  · have S0 : Hid (0 ≤ si ∧ 1 ≤ long ∧ long ≤ 300) := ⟨hsi h3, hl.1, hl.2⟩
    subst h3
    by_cases hL : si + long ≤ 300 ∧ now < si + long
    · have b2 : lastsB si long now = true := by unfold lastsB; simp [hL.1, hL.2]
      have Y : Hid (okLong 3 si long now) := ⟨hl, fun _ => hL⟩
      clear hL hl
      go_enter Try.func112, Try.ntmps112
      go_wp2_with (first | (go_at_call 61; refine (pGoodLong _ _).mono ?_; rintro e w' ⟨rfl, rfl⟩) | (go_at_call 64; refine (pLasts _ _ _ _ S0.out.1 S0.out.2.1 S0.out.2.2).mono ?_; rintro e w' ⟨rfl, rfl⟩))
      go_ret
      exact Or.inl ⟨Y.out, rfl, rfl⟩
    · have b2 : lastsB si long now = false := by
        cases e : lastsB si long now
        · rfl
        · unfold lastsB at e
          simp at e
          exact absurd e hL
      have NO : Hid (¬ okLong 3 si long now) := fun h => hL (h.2 rfl)
      clear hL hl
      go_enter Try.func112, Try.ntmps112
      go_wp2_with (first | (go_at_call 61; refine (pGoodLong _ _).mono ?_; rintro e w' ⟨rfl, rfl⟩) | (go_at_call 64; refine (pLasts _ _ _ _ S0.out.1 S0.out.2.1 S0.out.2.2).mono ?_; rintro e w' ⟨rfl, rfl⟩))
      go_ret
      exact Or.inr ⟨NO.out, rfl, rfl⟩
  · have b3 : (st == 3) = false := by simp [h3]
    have S0 : Hid (0 ≤ (0 : Int) ∧ 1 ≤ (1 : Int) ∧ (1 : Int) ≤ 300) := ⟨by omega, by omega, by omega⟩
    have Y : Hid (okLong st si long now) := ⟨hl, fun h => absurd h h3⟩
    clear h3 hl
    go_enter Try.func112, Try.ntmps112
    go_wp2_with (first | (go_at_call 61; refine (pGoodLong _ _).mono ?_; rintro e w' ⟨rfl, rfl⟩) | (go_at_call 64; refine (pLasts _ _ _ _ S0.out.1 S0.out.2.1 S0.out.2.2).mono ?_; rintro e w' ⟨rfl, rfl⟩))
    go_ret
    exact Or.inl ⟨Y.out, rfl, rfl⟩


set_option maxHeartbeats 4000000 in
set_option maxRecDepth 100000 in
theorem move_any (g B : Nat) (q : Pt) (vs : Value) (kd a b c : Int) (w : World) (H : PQ B w g q vs) (hp : IsPort q) (hk : kd = 2 ∨ kd = 3 ∨ kd = 4 ∨ kd = 5) :
    Calls Try.prog 93 #[.pointer (some ⟨g, 0, none⟩), .agg #[.int .i64 kd, .int .i64 a, .int .i64 b, .int .i64 c]] w fun e w' => ∃ er, e = .returned (.int .i64 er) ∧ Hid (∃ q', moveF q ⟨kd, a, b, c⟩ = (er, q') ∧ PQ B w' g q' vs ∧ Below B w w') := by
  have hbw : Below w.heap.size w (w.alloc (.cells #[.int .i64 kd, .int .i64 a, .int .i64 b, .int .i64 c] 61)) := (Below.refl _ w).alloc (Nat.le_refl _) _
  have H1 : Hid (PQ B (w.alloc (.cells #[.int .i64 kd, .int .i64 a, .int .i64 b, .int .i64 c] 61)) g q vs) := H.later hbw
  have O1 : Hid (OBox (w.alloc (.cells #[.int .i64 kd, .int .i64 a, .int .i64 b, .int .i64 c] 61)) w.heap.size ⟨kd, a, b, c⟩) := OBox.new w ⟨kd, a, b, c⟩
  have B1 : Hid (Below B w (w.alloc (.cells #[.int .i64 kd, .int .i64 a, .int .i64 b, .int .i64 c] 61))) := hbw.mono H.2.2.1
  have HP : Hid (IsPort q) := hp
  obtain ⟨xs, cap, rfl⟩ := ownsRow_slice H.2.1
  have hlen := hp.port.len
  have gap : g ≠ w.heap.size := by have := H.1.lt; omega
  clear H hbw hp
  generalize hGO : w.heap.size = go at *
  generalize hWA : w.alloc (.cells #[.int .i64 kd, .int .i64 a, .int .i64 b, .int .i64 c] 61) = WA at *
  rcases pinR_or a 0 ((q.ships.length : Int) - 1) with b1 | b1
  case inr =>
    have M : Hid (moveF q ⟨kd, a, b, c⟩ = (3, q)) := by show _ = _; unfold moveF; rw [if_neg (pinR_no b1)]
    have hwr : IntKind.i64.wrap ((q.ships.length : Int) - 1) = (q.ships.length : Int) - 1 := wrap_small (by omega) (by omega)
    obtain ⟨pc0, pc1, pc14, pc15⟩ := H1.out.1.cells
    obtain ⟨oc0, oc1, oc2, oc3⟩ := O1.out.cells
    simp only at oc0 oc1 oc2 oc3
    have D : Hid (PQ B WA.drew g q (.slice xs q.ships.length cap) ∧ Below B w WA.drew) := ⟨H1.out.later ((Below.refl _ _).drew), B1.out.drew⟩
    go_enter Try.func93, Try.ntmps93
    go_wp2_with fail
    go_region_held (fun w' => w'.cell? ⟨g, 1, none⟩ = some (.slice xs q.ships.length cap) ∧ w'.cell? ⟨go, 1, none⟩ = some (.int .i64 a)) (go_keep) (first | (go_at_call 63; refine (pWithin _ _ _ _).mono ?_; rintro e w' ⟨rfl, rfl⟩))
    all_goals go_wp2_with fail
    go_ret
    exact ⟨_, rfl, ⟨q, M.out, D.out⟩⟩
  have ha := pinR_yes b1
  obtain ⟨j, rfl⟩ : ∃ j : Nat, a = j := ⟨a.toNat, by omega⟩
  have hj : j < q.ships.length := by omega
  obtain ⟨s, hs⟩ : ∃ s, q.ships[j]? = some s := ⟨q.ships[j], List.getElem?_eq_getElem hj⟩
  have HS : Hid (q.ships[j]? = some s ∧ shp q j = s) := ⟨hs, shp_get hs⟩
  have HM : Hid (moveF q ⟨kd, j, b, c⟩ = ((moveS s kd b q.now).1, setS q j (moveS s kd b q.now).2)) := by
    show _ = _
    unfold moveF
    rw [if_pos ha]
    show ((moveS (shp q (j : Int).toNat) kd b q.now).1, setS q (j : Int).toNat (moveS (shp q (j : Int).toNat) kd b q.now).2) = _
    rw [Int.toNat_natCast, shp_get hs]
  have HSH := (HP.out.port.ship s (List.mem_of_getElem? hs)).1
  obtain ⟨bb, rfl⟩ : ∃ bb, xs = some ⟨bb, 0, none⟩ := by
    obtain ⟨bb, c', e, _⟩ := OwnK.ofRow H1.out.2.1 (by intro e; injection e with _ e _; omega)
    injection e with e1 e2 e3
    exact ⟨bb, e1⟩
  have hwr : IntKind.i64.wrap ((q.ships.length : Int) - 1) = (q.ships.length : Int) - 1 := wrap_small (by omega) (by omega)
  obtain ⟨pc0, pc1, pc14, pc15⟩ := H1.out.1.cells
  obtain ⟨oc0, oc1, oc2, oc3⟩ := O1.out.cells
  simp only at oc0 oc1 oc2 oc3
  have hj3 : (j : Int) < (q.ships.length : Int) := by omega
  have hj4 : (0 : Int) ≤ (j : Int) := by omega
  go_enter Try.func93, Try.ntmps93
  go_wp2_with fail
  go_region_held (fun w' => w'.cell? ⟨g, 1, none⟩ = some (.slice (some ⟨bb, 0, none⟩) q.ships.length cap) ∧ w'.cell? ⟨go, 1, none⟩ = some (.int .i64 (j : Int))) (go_keep) (first | (go_at_call 63; refine (pWithin _ _ _ _).mono ?_; rintro e w' ⟨rfl, rfl⟩))
  all_goals go_wp2_with fail
  have E1 : Hid (PQ B WA.drew g q (.slice (some ⟨bb, 0, none⟩) q.ships.length cap) ∧ OBox WA.drew go ⟨kd, j, b, c⟩ ∧ Below B w WA.drew) := ⟨H1.out.later ((Below.refl _ _).drew), O1.out.later ((Below.refl _ _).drew) O1.out.lt, B1.out.drew⟩
  clear pc0 pc1 pc14 pc15 oc0 oc1 oc2 oc3 H1 O1 B1 b1
  generalize WA.drew = W1 at *
  obtain ⟨pc0, pc1, pc14, pc15⟩ := E1.out.1.1.cells
  obtain ⟨oc0, oc1, oc2, oc3⟩ := E1.out.2.1.cells
  simp only at oc0 oc1 oc2 oc3
  go_region
  all_goals go_upto_region 4 with fail
  have E2 : Hid (PQ B W1.drew g q (.slice (some ⟨bb, 0, none⟩) q.ships.length cap) ∧ OBox W1.drew go ⟨kd, j, b, c⟩ ∧ Below B w W1.drew) := ⟨E1.out.1.later ((Below.refl _ _).drew), E1.out.2.1.later ((Below.refl _ _).drew) E1.out.2.1.lt, E1.out.2.2.drew⟩
  clear pc0 pc1 pc14 pc15 oc0 oc1 oc2 oc3 E1
  generalize W1.drew = W2 at *
  obtain ⟨⟨c0, c2, c4⟩, fz, hBb, hne⟩ := E2.out.1.cell HS.out.1
  have f0 := fz (j * 6)
  have f2 := fz (j * 6 + 2)
  have f4 := fz (j * 6 + 4)
  obtain ⟨oc0, oc1, oc2, oc3⟩ := E2.out.2.1.cells
  simp only at oc0 oc1 oc2 oc3
  clear fz
  by_cases h4 : s.st = 4
  · have M : Hid (moveF q ⟨kd, j, b, c⟩ = (4, q)) := by
      show _ = _
      rw [HM.out]
      unfold moveS
      rw [if_pos h4, ← HS.out.2, setS_same]
    rw [h4] at c0
    go_wp2_with fail
    go_ret
    exact ⟨_, rfl, ⟨q, M.out, E2.out.1, E2.out.2.2⟩⟩
  have hb4 : (s.st == 4) = false := by simp [h4]
  rcases hk with rfl | rfl | rfl | rfl
  · have M : Hid (moveF q ⟨2, j, b, c⟩ = (0, setS q j (outS s))) := by
      show _ = _
      rw [HM.out]
      unfold moveS
      rw [if_neg h4, if_pos rfl]
    have D : Hid (PQ B ((W2.setCell ⟨bb, j * 6, none⟩ (.int .i64 4)).setCell ⟨bb, j * 6 + 4, none⟩ (.int .i64 0)) g (setS q j (outS s)) (.slice (some ⟨bb, 0, none⟩) q.ships.length cap) ∧ Below B w ((W2.setCell ⟨bb, j * 6, none⟩ (.int .i64 4)).setCell ⟨bb, j * 6 + 4, none⟩ (.int .i64 0))) := by
      have h1 := E2.out.1.one (i := 0) HS.out.1 (by decide) (s' := { s with st := 4 }) (x := .int .i64 4) rfl
      have h2 := h1.1.one (i := 4) (j := j) (s := { s with st := 4 }) (by unfold setS; exact List.getElem?_set_self hj) (by decide) (s' := outS s) (x := .int .i64 0) rfl
      have e : setS (setS q j { s with st := 4 }) j (outS s) = setS q j (outS s) := by unfold setS; simp only [List.set_set]
      rw [e] at h2
      exact ⟨h2.1, (E2.out.2.2.trans h1.2).trans h2.2⟩
    clear h4
    go_wp2_with (first | (go_at_call 78; refine (depart_any bb (j * 6) _ _ _ c0 c4 f0 f4).mono ?_; rintro e w8 ⟨rfl, rfl⟩))
    go_ret
    exact ⟨_, rfl, ⟨_, M.out, D.out⟩⟩
  · have M : Hid (moveF q ⟨3, j, b, c⟩ = ((turnF s 1 2).1, setS q j (turnF s 1 2).2)) := by
      show _ = _
      rw [HM.out]
      unfold moveS
      rw [if_neg h4, if_neg (by decide), if_pos rfl]
    clear h4
    go_wp2_with (first | (go_at_call 111; refine (turn_any bb (j * 6) _ _ _ _ c0 f0).mono ?_; rintro e w8 (⟨ht, rfl, rfl⟩ | ⟨ht, rfl, rfl⟩)))
    · go_ret
      have hF : turnF s 1 2 = (0, { s with st := 2 }) := by unfold turnF; rw [if_pos ht]
      have h1 := E2.out.1.one (i := 0) HS.out.1 (by decide) (s' := { s with st := 2 }) (x := .int .i64 2) rfl
      have m := M.out
      rw [hF] at m
      exact ⟨_, rfl, ⟨_, m, h1.1, E2.out.2.2.trans h1.2⟩⟩
    · go_wp2_with fail
      go_ret
      have hF : turnF s 1 2 = (4, s) := by unfold turnF; rw [if_neg ht]
      have m := M.out
      rw [hF, ← HS.out.2, setS_same] at m
      exact ⟨_, rfl, ⟨_, m, E2.out.1, E2.out.2.2⟩⟩
  · have M : Hid (moveF q ⟨4, j, b, c⟩ = ((turnF s 2 1).1, setS q j (turnF s 2 1).2)) := by
      show _ = _
      rw [HM.out]
      unfold moveS
      rw [if_neg h4, if_neg (by decide), if_neg (by decide), if_pos rfl]
    clear h4
    go_wp2_with (first | (go_at_call 111; refine (turn_any bb (j * 6) _ _ _ _ c0 f0).mono ?_; rintro e w8 (⟨ht, rfl, rfl⟩ | ⟨ht, rfl, rfl⟩)))
    · go_ret
      have hF : turnF s 2 1 = (0, { s with st := 1 }) := by unfold turnF; rw [if_pos ht]
      have h1 := E2.out.1.one (i := 0) HS.out.1 (by decide) (s' := { s with st := 1 }) (x := .int .i64 1) rfl
      have m := M.out
      rw [hF] at m
      exact ⟨_, rfl, ⟨_, m, h1.1, E2.out.2.2.trans h1.2⟩⟩
    · go_wp2_with fail
      go_ret
      have hF : turnF s 2 1 = (4, s) := by unfold turnF; rw [if_neg ht]
      have m := M.out
      rw [hF, ← HS.out.2, setS_same] at m
      exact ⟨_, rfl, ⟨_, m, E2.out.1, E2.out.2.2⟩⟩
  · have M : Hid (moveF q ⟨5, j, b, c⟩ = ((changeF s b q.now).1, setS q j (changeF s b q.now).2)) := by
      show _ = _
      rw [HM.out]
      unfold moveS
      rw [if_neg h4, if_neg (by decide), if_neg (by decide), if_neg (by decide)]
    obtain ⟨pc0, pc1, pc14, pc15⟩ := E2.out.1.1.cells
    have hgo : go ≠ bb := by
      rintro rfl
      have h1 : OBox W2 go ⟨5, j, b, c⟩ := E2.out.2.1
      obtain ⟨b', c', e, ho⟩ := OwnK.ofRow E2.out.1.2.1 (by intro e; cases e)
      injection e with e1 e2 e3
      injection e1 with e1
      injection e1 with e1
      subst e1
      obtain ⟨cur, h2, _⟩ := ho.row
      have e := h2.symm.trans h1
      injection e with e
      injection e with _ e
      exact absurd e (by decide)
    have hne2 : g ≠ bb := fun e => hne e.symm
    by_cases hok : okLong s.st s.si b q.now
    · have hF : changeF s b q.now = (0, { s with lg := b }) := by unfold changeF; exact if_pos hok
      have HC : ∀ W, W.cell? ⟨bb, j * 6, none⟩ = some (.int .i64 s.st) → W.cell? ⟨bb, j * 6 + 2, none⟩ = some (.int .i64 s.lg) → W.cell? ⟨bb, j * 6 + 4, none⟩ = some (.int .i64 s.si) → W.frozen? ⟨bb, j * 6 + 2, none⟩ = false → Calls Try.prog 112 #[.pointer (some ⟨bb, j * 6, none⟩), .int .i64 b, .int .i64 q.now] W fun e w' => e = .returned (.int .i64 0) ∧ w' = W.setCell ⟨bb, j * 6 + 2, none⟩ (.int .i64 b) := fun W k0 k2 k4 kf => (change_any bb (j * 6) s.st s.lg s.si b q.now W k0 k2 k4 kf (fun h => (HSH.lies h).1)).mono (by
        rintro e w' (⟨_, h1, h2⟩ | ⟨h, _⟩)
        · exact ⟨h1, h2⟩
        · exact absurd hok h)
      have h1 := E2.out.1.one (i := 2) HS.out.1 (by decide) (s' := { s with lg := b }) (x := .int .i64 b) rfl
      have m := M.out
      rw [hF] at m
      have D : Hid (moveF q ⟨5, j, b, c⟩ = (0, setS q j { s with lg := b }) ∧ PQ B (W2.setCell ⟨bb, j * 6 + 2, none⟩ (.int .i64 b)) g (setS q j { s with lg := b }) (.slice (some ⟨bb, 0, none⟩) q.ships.length cap) ∧ Below B w (W2.setCell ⟨bb, j * 6 + 2, none⟩ (.int .i64 b))) := ⟨m, h1.1, E2.out.2.2.trans h1.2⟩
      have HCd := HC W2.drew c0 c2 c4 f2
      have ob : OBox (W2.setCell ⟨bb, j * 6 + 2, none⟩ (.int .i64 b)) go ⟨5, j, b, c⟩ := by unfold OBox; rw [Below.heap_setCell _ _ _ _ (by show go ≠ bb; exact hgo)]; exact E2.out.2.1
      have sb2 : (W2.setCell ⟨bb, j * 6 + 2, none⟩ (.int .i64 b)).drew.cell? ⟨go, 2, none⟩ = some (.int .i64 b) := ob.cells.2.2.1
      have sb0 : (W2.setCell ⟨bb, j * 6 + 2, none⟩ (.int .i64 b)).drew.cell? ⟨g, 0, none⟩ = some (.int .i64 q.now) := h1.1.1.cells.1
      clear h4 hok hF m h1 M HC ob
      go_wp2_with fail
      go_region_held (fun w' => w'.cell? ⟨go, 2, none⟩ = some (.int .i64 b) ∧ w'.cell? ⟨g, 0, none⟩ = some (.int .i64 q.now)) (go_keep) (first | (go_at_call 112; refine HCd.mono ?_; rintro e w8 ⟨rfl, rfl⟩))
      all_goals go_wp2_with fail
      go_ret
      exact ⟨_, rfl, ⟨_, D.out.1, D.out.2.1.later ((Below.refl _ _).drew), D.out.2.2.drew⟩⟩
    · have hF : changeF s b q.now = (2, s) := by unfold changeF; exact if_neg hok
      have HC : ∀ W, W.cell? ⟨bb, j * 6, none⟩ = some (.int .i64 s.st) → W.cell? ⟨bb, j * 6 + 2, none⟩ = some (.int .i64 s.lg) → W.cell? ⟨bb, j * 6 + 4, none⟩ = some (.int .i64 s.si) → W.frozen? ⟨bb, j * 6 + 2, none⟩ = false → Calls Try.prog 112 #[.pointer (some ⟨bb, j * 6, none⟩), .int .i64 b, .int .i64 q.now] W fun e w' => e = .returned (.int .i64 2) ∧ w' = W := fun W k0 k2 k4 kf => (change_any bb (j * 6) s.st s.lg s.si b q.now W k0 k2 k4 kf (fun h => (HSH.lies h).1)).mono (by
        rintro e w' (⟨h, _⟩ | ⟨_, h1, h2⟩)
        · exact absurd h hok
        · exact ⟨h1, h2⟩)
      have m := M.out
      rw [hF, ← HS.out.2, setS_same] at m
      have D : Hid (moveF q ⟨5, j, b, c⟩ = (2, q)) := m
      have HCd := HC W2.drew c0 c2 c4 f2
      clear h4 hok hF m M HC
      go_wp2_with fail
      go_region_held (fun w' => w'.cell? ⟨go, 2, none⟩ = some (.int .i64 b) ∧ w'.cell? ⟨g, 0, none⟩ = some (.int .i64 q.now)) (go_keep) (first | (go_at_call 112; refine HCd.mono ?_; rintro e w8 ⟨rfl, rfl⟩))
      all_goals go_wp2_with fail
      go_ret
      exact ⟨_, rfl, ⟨_, D.out, E2.out.1.later ((Below.refl _ _).drew), E2.out.2.2.drew⟩⟩

end Go.Proofs.Ytghhegajbehpeaa
