/- Texts of this claim, in one: PRoomW. -/
import Derived.Test.YtfdnbgfgjelkcaaQ7
import Derived.Test.YtfdnbgfgjelkcaaQ1
/- PortRoom's walk: whoever comes in by plan finds room. -/
set_option linter.unusedSimpArgs false
set_option linter.unusedVariables false
namespace Go.Proofs.Ytfdnbgfgjelkcaa
open Go.RowKit


/-- Good, of a port of which one knows -/
theorem goodPort_yes (v : Value) (p : Pt) (w : World) (hv : PtV w v p) (hp : IsPort p) : Calls Try.prog 30 #[v] w fun e w' => e = .returned (.bool true) ∧ Below w.heap.size w w' :=
  (goodPort_any v p w hv (WfQ.of hp)).mono (by
    rintro e w' ⟨⟨b, rfl, hb⟩, hw⟩
    exact ⟨by rw [hb.2 hp], hw⟩)
theorem goodPort_not (v : Value) (p : Pt) (w : World) (hv : PtV w v p) (hq : WfQ p) (hp : ¬ IsPort p) : Calls Try.prog 30 #[v] w fun e w' => e = .returned (.bool false) ∧ Below w.heap.size w w' :=
  (goodPort_any v p w hv hq).mono (by
    rintro e w' ⟨⟨b, rfl, hb⟩, hw⟩
    cases b
    · exact ⟨rfl, hw⟩
    · exact absurd (hb.1 rfl) hp)

/-- what stays as it is while ships are gone through by plan -/
structure PlEnv (w : World) (p : Pt) (vs : Value) (a : Option Addr) (pl : List Int) (v5 : Value) (W : World) : Prop where
  below : Below w.heap.size w W
  box : PBox W w.heap.size p vs
  ships : p.ships = [] ∨ ∃ b off, a = some ⟨b, off, none⟩ ∧ RdK cShip W b off p.ships
  plan : SlK cInt W v5 pl

theorem PlEnv.later {w W W' : World} {p : Pt} {vs : Value} {a : Option Addr} {pl : List Int} {v5 : Value} (h : PlEnv w p vs a pl v5 W) (hb : Below W.heap.size W W') : PlEnv w p vs a pl v5 W' :=
  ⟨h.below.trans (hb.mono h.below.size), h.box.later hb h.box.lt, by
    rcases h.ships with e | ⟨b, off, e, hr⟩
    · exact Or.inl e
    · exact Or.inr ⟨b, off, e, hr.below hb⟩, h.plan.below hb⟩

/-- the profile says what is left by some of those of the plan -/
def Left (p : Pt) (pl : List Int) (rk : List Nat) (W : World) (v : Value) : Prop := ∃ r, Sl W v r ∧ Good r ∧ ∀ t, 0 ≤ t → t < 300 → val r t = baseAt p t - ctrs p pl rk t

theorem Left.later {p : Pt} {pl : List Int} {rk : List Nat} {W W' : World} {v : Value} (h : Left p pl rk W v) (hb : Below W.heap.size W W') : Left p pl rk W' v := by
  obtain ⟨r, h1, h2⟩ := h
  exact ⟨r, h1.below hb, h2⟩

set_option maxHeartbeats 4000000 in
set_option maxRecDepth 100000 in
theorem portRoom_any (v : Value) (p : Pt) (w : World) (hv : PtV w v p) (hf : WfP p) :
    Calls Try.prog 9 #[v] w fun e w' => e = .returned (.bool true) ∧ Below w.heap.size w w' := by
  obtain ⟨vs, rfl, ⟨a, cap, rfl, hcap, hrd⟩, h4, hmx⟩ := hv
  have HV : Hid (PtV w (.agg (portCells p (.slice a p.ships.length cap)).toArray) p) := ⟨_, rfl, ⟨a, cap, rfl, hcap, hrd⟩, h4, hmx⟩
  have HR : Hid (p.ships = [] ∨ ∃ b off, a = some ⟨b, off, none⟩ ∧ RdK cShip w b off p.ships) := hrd
  have X0 : Hid (PBox (w.alloc (.cells (portCells p (.slice a p.ships.length cap)).toArray 46)) w.heap.size p (.slice a p.ships.length cap)) := PBox.new w p _ h4
  have B0 : Hid (Below w.heap.size w (w.alloc (.cells (portCells p (.slice a p.ships.length cap)).toArray 46))) := (Below.refl _ w).alloc (Nat.le_refl _) _
  have hq := hf.q
  by_cases hp : IsPort p
  case neg =>
    have HG := fun W h => goodPort_not (.agg (portCells p (.slice a p.ships.length cap)).toArray) p W h hq hp
    clear hrd hp hq
    generalize hPC : (portCells p (.slice a p.ships.length cap)).toArray = PC at *
    have HPC : Hid ((portCells p (.slice a p.ships.length cap)).toArray = PC) := hPC
    clear hPC
    go_enter Try.func9, Try.ntmps9
    go_wp2_with (refine wpList_load_box rfl _ rfl w.heap.size p (.slice a p.ships.length cap) rfl X0.out ?_; rw [HPC.out])
    refine (HG _ (HV.out.below B0.out)).mono ?_
    rintro e w1 ⟨rfl, hw1⟩
    have B1 : Hid (Below w.heap.size w w1) := B0.out.trans (hw1.mono B0.out.size)
    clear hw1 X0 B0 HG
    go_wp2_with fail
    refine (keepPorts_any w1).mono ?_
    rintro e w2 ⟨rfl, hw2⟩
    have B2 : Hid (Below w.heap.size w w2) := B1.out.trans (hw2.mono B1.out.size)
    go_wp2_with fail
    go_ret
    exact ⟨rfl, B2.out⟩
  have HP : Hid (IsPort p) := hp
  have HG := fun W h => goodPort_yes (.agg (portCells p (.slice a p.ships.length cap)).toArray) p W h hp
  have HBA := fun W h => base_any (.agg (portCells p (.slice a p.ships.length cap)).toArray) p W h hq
  have HPA := fun W h => plan_any (.agg (portCells p (.slice a p.ships.length cap)).toArray) p W h hp
  have hlen : p.ships.length < 15 := hp.port.len
  obtain ⟨hnow0, hnow1⟩ := hp.port.now
  clear hrd hp hq
  generalize hPC : (portCells p (.slice a p.ships.length cap)).toArray = PC at *
  have HPC : Hid ((portCells p (.slice a p.ships.length cap)).toArray = PC) := hPC
  clear hPC
  go_enter Try.func9, Try.ntmps9
  go_wp2_with (refine wpList_load_box rfl _ rfl w.heap.size p (.slice a p.ships.length cap) rfl X0.out ?_; rw [HPC.out])
  refine (HG _ (HV.out.below B0.out)).mono ?_
  rintro e w1 ⟨rfl, hw1⟩
  have B1 : Hid (Below w.heap.size w w1 ∧ PBox w1 w.heap.size p (.slice a p.ships.length cap)) := ⟨B0.out.trans (hw1.mono B0.out.size), X0.out.later hw1 X0.out.lt⟩
  clear hw1 X0 B0 HG
  go_wp2_with (refine wpList_load_box rfl _ rfl w.heap.size p (.slice a p.ships.length cap) rfl B1.out.2 ?_; rw [HPC.out])
  refine (HBA _ (HV.out.below B1.out.1)).mono ?_
  rintro e w4 ⟨⟨v4, ok4, rfl, hB4, _⟩, hb4⟩
  obtain ⟨rfl, _, r0, hr0⟩ : ok4 = true ∧ IsPort p ∧ ∃ r, Sl w4 v4 r ∧ Good r ∧ ∀ t, 0 ≤ t → t < 300 → val r t = baseAt p t := by
    rcases hB4 with h | ⟨_, h, _⟩
    · exact h
    · exact absurd HP.out h
  have M4 : Hid (Sl w4 v4 r0 ∧ Good r0 ∧ ∀ t, 0 ≤ t → t < 300 → val r0 t = baseAt p t) := hr0
  have B4 : Hid (Below w.heap.size w w4 ∧ PBox w4 w.heap.size p (.slice a p.ships.length cap)) := ⟨B1.out.1.trans (hb4.mono B1.out.1.size), B1.out.2.later hb4 B1.out.2.lt⟩
  clear hB4 hb4 hr0 B1 HBA
  go_wp2_with (refine wpList_load_box rfl _ rfl w.heap.size p (.slice a p.ships.length cap) rfl B4.out.2 ?_; rw [HPC.out])
  refine (HPA _ (HV.out.below B4.out.1)).mono ?_
  rintro e w5 ⟨⟨v5, rfl, h5⟩, hb5⟩
  obtain ⟨pl, hpl, _, hsl⟩ := h5.out
  have PL : Hid (PlanIs p pl) := hpl
  have hpn : pl.length = p.ships.length := hpl.len
  obtain ⟨a5, cap5, rfl, hc5, hr5⟩ := hsl
  rw [hpn]
  rw [hpn] at hc5
  have E5 : Hid (PlEnv w p (.slice a p.ships.length cap) a pl (.slice a5 p.ships.length cap5) w5) := by
    have hb : Below w.heap.size w w5 := B4.out.1.trans (hb5.mono B4.out.1.size)
    refine ⟨hb, B4.out.2.later hb5 B4.out.2.lt, ?_, ⟨a5, cap5, by rw [hpn], by rw [hpn]; exact hc5, hr5⟩⟩
    rcases HR.out with h | ⟨b, off, e, hr⟩
    · exact Or.inl h
    · exact Or.inr ⟨b, off, e, hr.below hb⟩
  have I0 : Hid (Left p pl (List.range 0) w5 v4) := ⟨r0, M4.out.1.below hb5, M4.out.2.1, fun t t0 t1 => by rw [M4.out.2.2 t t0 t1]; show _ = _ - 0; omega⟩
  obtain ⟨pc0, pc1, pc14, pc15⟩ := E5.out.box.cells
  clear hpl hr5 hb5 h5 B4 M4 HPA
  go_wp2_with fail
  clear pc0 pc1 pc14 pc15
  go_loopg [3, 32] p.ships.length (fun kx s3 s32 wr => ∃ (k : Nat), s32 = .int .i64 k ∧ k ≤ p.ships.length ∧ p.ships.length - k ≤ kx ∧ Hid (PlEnv w p (.slice a p.ships.length cap) a pl (.slice a5 p.ships.length cap5) wr ∧ Left p pl (List.range k) wr s3))
  case atStart => exact ⟨0, rfl, Nat.zero_le _, by omega, ⟨E5.out, I0.out⟩⟩
  case round =>
    clear I0 E5
    obtain ⟨k, rfl, hk, hg, I⟩ := hrel
    by_cases hkl : k < p.ships.length
    · obtain ⟨bb, off, rfl, hrd⟩ : ∃ b off, a = some ⟨b, off, none⟩ ∧ RdK cShip wr b off p.ships := by
        rcases I.out.1.ships with h | h
        · rw [h] at hkl; simp at hkl
        · exact h
      obtain ⟨b5, off5, rfl, hr5⟩ : ∃ b off, a5 = some ⟨b, off, none⟩ ∧ RdK cInt wr b off pl := by
        obtain ⟨x, y, e, _, h⟩ := I.out.1.plan
        injection e with e1 e2 e3
        subst e1
        rcases h with h | h
        · rw [h] at hpn; simp at hpn; omega
        · exact h
      obtain ⟨x, hx⟩ : ∃ x, pl[k]? = some x := ⟨pl[k]'(by omega), List.getElem?_eq_getElem (by omega)⟩
      have hxd : pl.getD k (-1) = x := by rw [List.getD_eq_getElem?_getD, hx]; rfl
      obtain ⟨s, hs⟩ : ∃ s, p.ships[k]? = some s := ⟨p.ships[k], List.getElem?_eq_getElem hkl⟩
      have ESH : Hid (shp p k = s) := shp_get hs
      have EX : Hid (pl.getD k (-1) = x) := hxd
      have rc := hr5.int hx
      obtain ⟨c0, c1, c2, c3, c4, c5⟩ := hrd.ship hs
      obtain ⟨pc0, pc1, pc14, pc15⟩ := I.out.1.box.cells
      have HSH := shp_wd HP.out.port k hkl
      rw [shp_get hs] at HSH
      have hbw : Below wr.heap.size wr (wr.alloc (.cells #[.int .i64 s.st, .int .i64 s.wd, .int .i64 s.lg, .int .i64 s.cl, .int .i64 s.si, .int .i64 s.qu] 48)) := (Below.refl _ wr).alloc (Nat.le_refl _) _
      have MM : Hid (PlEnv w p (.slice (some ⟨bb, off, none⟩) p.ships.length cap) (some ⟨bb, off, none⟩) pl (.slice (some ⟨b5, off5, none⟩) p.ships.length cap5) (wr.alloc (.cells #[.int .i64 s.st, .int .i64 s.wd, .int .i64 s.lg, .int .i64 s.cl, .int .i64 s.si, .int .i64 s.qu] 48)) ∧ Left p pl (List.range k) (wr.alloc (.cells #[.int .i64 s.st, .int .i64 s.wd, .int .i64 s.lg, .int .i64 s.cl, .int .i64 s.si, .int .i64 s.qu] 48)) u3) := ⟨I.out.1.later hbw, I.out.2.later hbw⟩
      have N4 : Hid (SBox (wr.alloc (.cells #[.int .i64 s.st, .int .i64 s.wd, .int .i64 s.lg, .int .i64 s.cl, .int .i64 s.si, .int .i64 s.qu] 48)) wr.heap.size s) := SBox.new wr s
      have hk3 : (k : Int) < (p.ships.length : Int) := by omega
      obtain ⟨w1, w2⟩ := HSH.1.wd
      obtain ⟨l1, l2⟩ := HSH.1.lg
      have wgap : w.heap.size < wr.heap.size := I.out.1.box.lt
      clear hs hrd hbw hr5 hx hxd HSH I
      go_upto_region 11 with fail
      clear c0 c1 c2 c3 c4 c5 pc0 pc1 pc14 pc15 rc
      generalize wr.alloc (.cells #[.int .i64 s.st, .int .i64 s.wd, .int .i64 s.lg, .int .i64 s.cl, .int .i64 s.si, .int .i64 s.qu] 48) = WC at *
      generalize wr.heap.size = gs at *
      by_cases hx0 : x < 0
      · have K2 : Hid (PlEnv w p (.slice (some ⟨bb, off, none⟩) p.ships.length cap) (some ⟨bb, off, none⟩) pl (.slice (some ⟨b5, off5, none⟩) p.ships.length cap5) WC ∧ Left p pl (List.range (k + 1)) WC u3) := by
          refine ⟨MM.out.1, ?_⟩
          obtain ⟨r, h1, h2, h3⟩ := MM.out.2
          refine ⟨r, h1, h2, fun t t0 t1 => ?_⟩
          rw [h3 t t0 t1, List.range_succ, ctrs_append, ctrs_cons, ctrs_nil]
          have : ctr p pl k t = 0 := by unfold ctr; rw [EX.out, if_neg (by omega)]
          omega
        go_wp2_with fail
        go_roundg (p.ships.length - (k + 1))
        case measure => omega
        case rel => exact ⟨k + 1, by go_num, by omega, Nat.le_refl _, K2⟩
      · have hroom := PL.out.room HP.out hkl (by rw [EX.out]; omega)
        rw [EX.out, ESH.out] at hroom
        obtain ⟨hst, r1, r2, r3⟩ := hroom
        have R3 : Hid (∀ t, x ≤ t → t < x + s.lg → s.wd ≤ baseAt p t - ctrs p pl (List.range k) t) := r3
        obtain ⟨r, h1, h2, h3⟩ := MM.out.2
        have RR : Hid (Sl WC u3 r ∧ Good r ∧ ∀ t, 0 ≤ t → t < 300 → val r t = baseAt p t - ctrs p pl (List.range k) t) := ⟨h1, h2, h3⟩
        obtain ⟨k0, k1, k2, k3, k4, k5⟩ := N4.out.cells
        obtain ⟨pc0, pc1, pc14, pc15⟩ := MM.out.1.box.cells
        rw [hst] at k0
        have q1 : ¬ x < p.now := by omega
        have q2 : ¬ x + s.lg > 300 := by omega
        clear r3 h1 h2 h3 hst
        go_wp2_with fail
        refine (take_any _ r _ _ _ _ RR.out.1).mono ?_
        rintro e w6 ⟨v6, ok6, rfl, hT6, hb6⟩
        have F6 : Hid (ok6 = true ∧ PlEnv w p (.slice (some ⟨bb, off, none⟩) p.ships.length cap) (some ⟨bb, off, none⟩) pl (.slice (some ⟨b5, off5, none⟩) p.ships.length cap5) w6 ∧ Left p pl (List.range (k + 1)) w6 v6) := by
          rcases take_good RR.out.2.1 ⟨by omega, w2⟩ (by omega) (by omega) r2 hT6 with ⟨e, r8, g1, g2, g3, _⟩ | ⟨_, _, g2⟩
          · refine ⟨e, MM.out.1.later hb6, r8, g1, g2, fun t t0 t1 => ?_⟩
            rw [g3 t t0 t1, RR.out.2.2 t t0 t1, List.range_succ, ctrs_append, ctrs_cons, ctrs_nil]
            have : ctr p pl k t = if x ≤ t ∧ t < x + s.lg then s.wd else 0 := by
              unfold ctr
              rw [EX.out, ESH.out]
              by_cases c : x ≤ t ∧ t < x + s.lg
              · rw [if_pos c, if_pos ⟨by omega, c⟩]
              · rw [if_neg c, if_neg (fun c2 => c c2.2)]
            rw [this]; split <;> omega
          · refine absurd (fun t ta tb => ?_) g2
            have := R3.out t ta (by omega)
            have h4 := RR.out.2.2 t (by omega) (by omega)
            omega
        obtain rfl : ok6 = true := F6.out.1
        clear hT6 hb6 MM RR R3 N4 k0 k1 k2 k3 k4 k5 pc0 pc1 pc14 pc15
        go_wp2_with fail
        go_roundg (p.ships.length - (k + 1))
        case measure => omega
        case rel => exact ⟨k + 1, by go_num, by omega, Nat.le_refl _, F6.out.2⟩
    · have hke : k = p.ships.length := by omega
      subst hke
      have B9 : Hid (Below w.heap.size w wr) := I.out.1.below
      clear I
      have hk3 : ¬ (p.ships.length : Int) < (p.ships.length : Int) := by omega
      go_wp2_with fail
      refine (keepPorts_any wr).mono ?_
      rintro e w2 ⟨rfl, hw2⟩
      have B2 : Hid (Below w.heap.size w w2) := B9.out.trans (hw2.mono B9.out.size)
      go_wp2_with fail
      go_ret
      exact ⟨rfl, B2.out⟩

end Go.Proofs.Ytfdnbgfgjelkcaa
