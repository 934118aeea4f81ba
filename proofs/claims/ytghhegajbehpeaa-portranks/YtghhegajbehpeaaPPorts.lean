/- Does port answer at all: New, and the statements' own first look at package port. -/
import Derived.Test.YtghhegajbehpeaaPTell
import Derived.Test.YtghhegajbehpeaaPPlanV
set_option linter.unusedSimpArgs false
set_option linter.unusedVariables false
namespace Go.Proofs.Ytghhegajbehpeaa
open Go.RowKit


set_option maxHeartbeats 1000000 in
set_option maxRecDepth 100000 in
theorem newPort_any (w : World) : Calls Try.prog 35 #[] w fun e w' => e = .returned (.agg (portCells zeroPt (.slice none 0 0)).toArray) ∧ Below w.heap.size w w' := by
  go_enter Try.func35, Try.ntmps35
  go_wp2_with (first | (refine wpList_alloc_box rfl rfl 0 rfl ?_; intro w1 hw1 hs1) | (refine wpList_store_box rfl _ _ rfl w.heap.size zeroPt zeroPt (.slice none 0 0) (.slice none 0 0) rfl rfl hw1.out.1 rfl rfl ?_; intro w9 hw9 hs9))
  refine bodyPost_ret (v := .agg (portCells zeroPt (.slice none 0 0)).toArray) (results_box Try.results35 _ _ w.heap.size zeroPt (.slice none 0 0) rfl hw9.out.1) rfl ?_
  exact ⟨rfl, hw1.out.2.trans (hw9.out.2.2 _ (Nat.le_refl _))⟩

theorem ptv_zero (w : World) : PtV w (.agg (portCells zeroPt (.slice none 0 0)).toArray) zeroPt := ⟨_, rfl, SlK.nil w, rfl, by decide⟩

theorem keepsAt_no (t : Int) : keepsAt [noKp, noKp, noKp, noKp] t = 0 := by
  have h : keptAt noKp t = 0 := by unfold keptAt noKp; simp
  unfold keepsAt
  simp [h]

theorem baseAt_zero (t : Int) : baseAt zeroPt t = 16 := by
  unfold baseAt
  have h1 : shipsAt zeroPt.ships t = 0 := rfl
  have h2 : keepsAt zeroPt.kept t = 0 := keepsAt_no t
  rw [h1, h2]
  show 16 - 0 - (if (0 : Int) ≤ t then 0 + 0 else 0) = 16
  split <;> rfl

theorem isPort_zero : IsPort zeroPt := by
  refine ⟨⟨by decide, by decide, by decide, by decide, (fun s hs => by cases hs), (fun i j r s _ h => by cases h), rfl, fun k hk => ?_⟩, fun t _ _ => by rw [baseAt_zero]; decide⟩
  have : k = noKp := by
    have h : k ∈ [noKp, noKp, noKp, noKp] := hk
    simpa using h
  rw [this]
  exact Or.inl ⟨rfl, rfl, rfl⟩

/-- the port of one ship -/
def onePt : Pt := ⟨0, [⟨1, 4, 9, 0, 0, 0⟩], [noKp, noKp, noKp, noKp], 0, 1⟩

theorem baseAt_one (t : Int) : baseAt onePt t = 16 := by
  unfold baseAt
  have h1 : shipsAt onePt.ships t = 0 := by
    unfold shipsAt onePt
    simp [shipAt]
  have h2 : keepsAt onePt.kept t = 0 := keepsAt_no t
  rw [h1, h2]
  show 16 - 0 - (if (0 : Int) ≤ t then 0 + 0 else 0) = 16
  split <;> rfl

theorem isPort_one : IsPort onePt := by
  refine ⟨⟨by decide, by decide, by decide, by decide, fun s hs => ?_, fun i j r s hij h1 h2 => ?_, rfl, isPort_zero.port.kept⟩, fun t _ _ => by rw [baseAt_one]; decide⟩
  · have : s = ⟨1, 4, 9, 0, 0, 0⟩ := by
      have h : s ∈ [(⟨1, 4, 9, 0, 0, 0⟩ : Ship)] := hs
      simpa using h
    subst this
    exact ⟨isShipB_iff.1 (by decide), by decide⟩
  · have := (List.getElem?_eq_some_iff.1 h2).1
    have hl : onePt.ships.length = 1 := rfl
    omega

theorem plan_one {pl : List Int} (h : PlanIs onePt pl) : pl = [0] := by
  obtain ⟨rk, hr, hc⟩ := h.some
  have hl : pl.length = 1 := h.len
  have hm : 0 ∈ rk := (hr.mem 0).2 ⟨by decide, rfl⟩
  obtain ⟨a, b, hab⟩ := List.append_of_mem hm
  have ha : a = [] := by
    cases a with
    | nil => rfl
    | cons x r =>
      have hx : x ∈ rk := by rw [hab]; simp
      have h0 : x < 1 := ((hr.mem x).1 hx).1
      have hnd := hr.nodup
      rw [hab] at hnd
      have : x = 0 := by omega
      subst this
      simp at hnd
  subst ha
  have F := hc [] b 0 hab
  have e : pl.getD 0 (-1) = 0 := by
    rcases F with ⟨_, f2⟩ | ⟨f1, _, _, f4⟩
    · exact absurd (fun s _ _ => by show (4 : Int) ≤ baseAt onePt s - ctrs onePt pl [] s; rw [baseAt_one, ctrs_nil]; decide) (f2 0 (by decide) (by decide))
    · have f1' : 0 ≤ pl.getD 0 (-1) := f1
      rcases Int.lt_or_le 0 (pl.getD 0 (-1)) with c | c
      · exact absurd (fun s _ _ => by show (4 : Int) ≤ baseAt onePt s - ctrs onePt pl [] s; rw [baseAt_one, ctrs_nil]; decide) (f4 0 (by decide) c)
      · omega
  match pl, hl, e with
  | [x], _, e => 
    have : x = 0 := e
    rw [this]

/-- Come of an empty port -/
theorem come_zero {n er : Int} {q : Pt} (h : TellIs (fun n e q => ComeIs zeroPt 4 9 0 n e q) zeroPt n er q) : n = 0 ∧ er = 0 ∧ q = onePt := by
  rcases h with ⟨h, _⟩ | ⟨_, n0, e0, q0, hR, h⟩
  · exact absurd isPort_zero h
  · have hq : e0 = 0 ∧ n0 = 0 ∧ q0 = onePt := by
      rcases hR with ⟨h1, _⟩ | ⟨_, h2, _⟩ | ⟨_, _, _, h4, h5, h6⟩
      · exact absurd (by decide) h1
      · rcases h2 with h | h
        · exact absurd h (by decide)
        · exact absurd h (by decide)
      · exact ⟨h4, h5, h6⟩
    obtain ⟨rfl, rfl, rfl⟩ := hq
    rcases h with ⟨h, _⟩ | ⟨_, h, _⟩ | ⟨_, _, h1, h2, h3⟩
    · exact absurd rfl h
    · exact absurd isPort_one h
    · exact ⟨h1, h2, h3⟩

theorem wfq_one : WfQ onePt := WfQ.of isPort_one

/-- Tell of Come, of an empty port -/
theorem tell_zero (w : World) : Calls Try.prog 44 #[.agg (portCells zeroPt (.slice none 0 0)).toArray, .agg #[.int .i64 1, .int .i64 4, .int .i64 9, .int .i64 0]] w fun e w' => ∃ vs, e = .returned (.tuple #[.agg (portCells onePt vs).toArray, .int .i64 0, .int .i64 0]) ∧ Hid (PtV w' (.agg (portCells onePt vs).toArray) onePt ∧ Below w.heap.size w w') := by
  refine (tell_any _ zeroPt ⟨1, 4, 9, 0⟩ (fun n e q => ComeIs zeroPt 4 9 0 n e q) w (ptv_zero w) (fun s hs => by cases hs) ?_ ?_).mono ?_
  · intro _ n e q h
    rcases h with ⟨_, _, _, rfl⟩ | ⟨_, _, _, _, rfl⟩ | ⟨_, _, _, _, _, rfl⟩
    · exact ⟨fun s hs => (by cases hs), by decide⟩
    · exact ⟨fun s hs => (by cases hs), by decide⟩
    · exact ⟨wfq_one, by decide⟩
  · intro _ g B vs W hq hne
    exact obeyCome_any g B zeroPt vs 4 9 0 W hq hne (by decide) (by decide) (by decide)
  · rintro e w' ⟨q, vs, n, er, rfl, hT, h4, hm, hO, hb⟩
    obtain ⟨rfl, rfl, rfl⟩ := come_zero hT
    exact ⟨vs, rfl, ⟨vs, rfl, slK_ofRow hO, h4, hm⟩, hb⟩


set_option maxHeartbeats 2000000 in
set_option maxRecDepth 100000 in
theorem keepPorts_any (w : World) : Calls Try.prog 50 #[] w fun e w' => e = .returned (.bool true) ∧ Below w.heap.size w w' := by
  have HN := newPort_any w
  have HT := tell_zero
  generalize hZC : (portCells zeroPt (.slice none 0 0)).toArray = ZC at HN HT
  clear hZC
  go_enter Try.func50, Try.ntmps50
  go_wp2_with fail
  refine HN.mono ?_
  rintro e w1 ⟨rfl, hw1⟩
  go_wp2_with fail
  refine (HT w1).mono ?_
  rintro e w2 ⟨vs, rfl, hw2⟩
  have D2 : Hid (Below w.heap.size w w2) := hw1.trans (hw2.out.2.mono hw1.size)
  have V2 : Hid (PtV w2 (.agg (portCells onePt vs).toArray) onePt) := hw2.out.1
  have on : vs.oneCell' = true := by
    obtain ⟨vs', e, h, _⟩ := hw2.out.1
    have : vs = vs' := by
      have h1 := congrArg (fun v => match v with | .agg c => c[1]? | _ => none) e
      simpa [portCells] using h1
    subst this
    obtain ⟨a, cap, rfl, _⟩ := h
    rfl
  have HG := fun W h => goodPort_any (.agg (portCells onePt vs).toArray) onePt W h wfq_one
  have HP := fun W h => plan_any (.agg (portCells onePt vs).toArray) onePt W h isPort_one
  clear HN HT hw1 hw2
  generalize hOC : (portCells onePt vs).toArray = OC at *
  have HOC : Hid ((portCells onePt vs).toArray = OC) := hOC
  clear hOC
  go_upto_region 2 with (first | (refine wpList_alloc_box rfl rfl 1 rfl ?_; intro w3 hw3 hs3) | (refine wpList_store_box rfl _ _ rfl w2.heap.size zeroPt onePt (.slice none 0 0) vs rfl (by show Value.agg OC = _; rw [HOC.out]) hw3.out.1 rfl on ?_; intro w4 hw4 hs4))
  have E4 : Hid (PBox w4 w2.heap.size onePt vs ∧ PtV w4 (.agg OC) onePt ∧ Below w.heap.size w w4) := by
    have hb : Below w2.heap.size w2 w4 := hw3.out.2.trans (hw4.out.2.2 _ (Nat.le_refl _))
    exact ⟨hw4.out.1, V2.out.below hb, D2.out.trans (hb.mono D2.out.size)⟩
  generalize w2.heap.size = g at *
  clear hw3 hw4 hs3 hs4 V2 D2
  go_wp2_with (refine wpList_load_box rfl _ rfl g onePt vs rfl E4.out.1 ?_; rw [HOC.out])
  refine (HP _ E4.out.2.1).mono ?_
  rintro e w5 ⟨⟨v5, rfl, h5⟩, hb5⟩
  obtain ⟨pl, hpl, _, hsl⟩ := h5.out
  obtain rfl := plan_one hpl
  obtain ⟨a5, cap5, rfl, _, hrd⟩ := hsl
  obtain ⟨b5, off5, rfl, hr5⟩ : ∃ b off, a5 = some ⟨b, off, none⟩ ∧ RdK cInt w5 b off [0] := by
    rcases hrd with h | h
    · cases h
    · exact h
  have c5 := hr5.int (j := 0) rfl
  have E5 : Hid (PBox w5 g onePt vs ∧ PtV w5 (.agg OC) onePt ∧ Below w.heap.size w w5) := ⟨E4.out.1.later hb5 E4.out.1.lt, E4.out.2.1.below hb5, E4.out.2.2.trans (hb5.mono E4.out.2.2.size)⟩
  have HG2 : ∀ W, PtV W (.agg OC) onePt → Calls Try.prog 30 #[.agg OC] W fun e w' => e = .returned (.bool true) ∧ Below W.heap.size W w' := fun W h => (HG W h).mono (by
    rintro e w' ⟨⟨b, rfl, hb⟩, hw⟩
    exact ⟨by rw [hb.2 isPort_one], hw⟩)
  clear hpl hrd hr5 hb5 h5 E4 HP HG
  simp only [Nat.add_zero] at c5
  go_wp2_with (first | (refine wpList_load_box_g (by first | rfl | (simp [Region.wanted, yielded]; done)) _ rfl g onePt vs rfl E5.out.1 ?_; rw [HOC.out]) | (go_at_call 30; refine (HG2 _ E5.out.2.1).mono ?_; rintro e w7 ⟨rfl, hw7⟩; have D7 : Hid (Below w.heap.size w w7) := E5.out.2.2.trans (hw7.mono E5.out.2.2.size); clear hw7))
  go_ret
  exact ⟨rfl, D7.out⟩

set_option maxHeartbeats 2000000 in
set_option maxRecDepth 100000 in
theorem lawPorts_any (w : World) : Calls Try.prog 36 #[] w fun e w' => e = .returned (.bool true) ∧ Below w.heap.size w w' := by
  have HN := newPort_any w
  have HT := tell_zero
  generalize hZC : (portCells zeroPt (.slice none 0 0)).toArray = ZC at HN HT
  clear hZC
  go_enter Try.func36, Try.ntmps36
  go_wp2_with fail
  refine HN.mono ?_
  rintro e w1 ⟨rfl, hw1⟩
  go_wp2_with fail
  refine (HT w1).mono ?_
  rintro e w2 ⟨vs, rfl, hw2⟩
  have D2 : Hid (Below w.heap.size w w2) := hw1.trans (hw2.out.2.mono hw1.size)
  have V2 : Hid (PtV w2 (.agg (portCells onePt vs).toArray) onePt) := hw2.out.1
  have on : vs.oneCell' = true := by
    obtain ⟨vs', e, h, _⟩ := hw2.out.1
    have : vs = vs' := by
      have h1 := congrArg (fun v => match v with | .agg c => c[1]? | _ => none) e
      simpa [portCells] using h1
    subst this
    obtain ⟨a, cap, rfl, _⟩ := h
    rfl
  have HG := fun W h => goodPort_any (.agg (portCells onePt vs).toArray) onePt W h wfq_one
  have HP := fun W h => plan_any (.agg (portCells onePt vs).toArray) onePt W h isPort_one
  clear HN HT hw1 hw2
  generalize hOC : (portCells onePt vs).toArray = OC at *
  have HOC : Hid ((portCells onePt vs).toArray = OC) := hOC
  clear hOC
  go_upto_region 2 with (first | (refine wpList_alloc_box rfl rfl 1 rfl ?_; intro w3 hw3 hs3) | (refine wpList_store_box rfl _ _ rfl w2.heap.size zeroPt onePt (.slice none 0 0) vs rfl (by show Value.agg OC = _; rw [HOC.out]) hw3.out.1 rfl on ?_; intro w4 hw4 hs4))
  have E4 : Hid (PBox w4 w2.heap.size onePt vs ∧ PtV w4 (.agg OC) onePt ∧ Below w.heap.size w w4) := by
    have hb : Below w2.heap.size w2 w4 := hw3.out.2.trans (hw4.out.2.2 _ (Nat.le_refl _))
    exact ⟨hw4.out.1, V2.out.below hb, D2.out.trans (hb.mono D2.out.size)⟩
  generalize w2.heap.size = g at *
  clear hw3 hw4 hs3 hs4 V2 D2
  go_wp2_with (refine wpList_load_box rfl _ rfl g onePt vs rfl E4.out.1 ?_; rw [HOC.out])
  refine (HP _ E4.out.2.1).mono ?_
  rintro e w5 ⟨⟨v5, rfl, h5⟩, hb5⟩
  obtain ⟨pl, hpl, _, hsl⟩ := h5.out
  obtain rfl := plan_one hpl
  obtain ⟨a5, cap5, rfl, _, hrd⟩ := hsl
  obtain ⟨b5, off5, rfl, hr5⟩ : ∃ b off, a5 = some ⟨b, off, none⟩ ∧ RdK cInt w5 b off [0] := by
    rcases hrd with h | h
    · cases h
    · exact h
  have c5 := hr5.int (j := 0) rfl
  have E5 : Hid (PBox w5 g onePt vs ∧ PtV w5 (.agg OC) onePt ∧ Below w.heap.size w w5) := ⟨E4.out.1.later hb5 E4.out.1.lt, E4.out.2.1.below hb5, E4.out.2.2.trans (hb5.mono E4.out.2.2.size)⟩
  have HG2 : ∀ W, PtV W (.agg OC) onePt → Calls Try.prog 30 #[.agg OC] W fun e w' => e = .returned (.bool true) ∧ Below W.heap.size W w' := fun W h => (HG W h).mono (by
    rintro e w' ⟨⟨b, rfl, hb⟩, hw⟩
    exact ⟨by rw [hb.2 isPort_one], hw⟩)
  clear hpl hrd hr5 hb5 h5 E4 HP HG
  simp only [Nat.add_zero] at c5
  go_wp2_with (first | (refine wpList_load_box_g (by first | rfl | (simp [Region.wanted, yielded]; done)) _ rfl g onePt vs rfl E5.out.1 ?_; rw [HOC.out]) | (go_at_call 30; refine (HG2 _ E5.out.2.1).mono ?_; rintro e w7 ⟨rfl, hw7⟩; have D7 : Hid (Below w.heap.size w w7) := E5.out.2.2.trans (hw7.mono E5.out.2.2.size); clear hw7))
  go_ret
  exact ⟨rfl, D7.out⟩

end Go.Proofs.Ytghhegajbehpeaa
