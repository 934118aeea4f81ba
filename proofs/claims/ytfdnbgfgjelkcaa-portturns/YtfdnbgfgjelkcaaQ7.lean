/- Texts of this claim, in one: PPorts Open POpen POpen2. -/
import Derived.ProofKit
import Derived.Deep.SlicePairs
import Derived.SizedLaws
import Derived.OpenShut
import Derived.Test.YtfdnbgfgjelkcaaQ6
import Derived.Test.YtfdnbgfgjelkcaaQ5
import Derived.Test.YtfdnbgfgjelkcaaQ2
import Derived.Test.YtfdnbgfgjelkcaaQ9
/- Does port answer at all: New, and the statements' own first look at package port. -/
set_option linter.unusedSimpArgs false
set_option linter.unusedVariables false
namespace Go.Proofs.Ytfdnbgfgjelkcaa
open Go.RowKit


set_option maxHeartbeats 1000000 in
set_option maxRecDepth 100000 in
theorem newPort_any (w : World) : Calls Try.prog 35 #[] w fun e w' => e = .returned (.agg (portCells zeroPt (.slice none 0 0)).toArray) ∧ Below w.heap.size w w' := by
  go_enter Try.func35, Try.ntmps35
  go_wp2_with (first | (refine wpList_alloc_box rfl rfl 0 rfl ?_; intro w1 hw1 hs1) | (refine wpList_store_box rfl _ _ rfl w.heap.size zeroPt zeroPt (.slice none 0 0) (.slice none 0 0) rfl rfl hw1.out.1 rfl rfl ?_; intro w9 hw9 hs9))
  refine bodyPost_ret (v := .agg (portCells zeroPt (.slice none 0 0)).toArray) (results_box Try.results35 _ _ w.heap.size zeroPt (.slice none 0 0) rfl hw9.out.1) rfl ?_
  exact ⟨rfl, hw1.out.2.trans (hw9.out.2.2 _ (Nat.le_refl _))⟩

theorem ptv_zero (w : World) : PtV w (.agg (portCells zeroPt (.slice none 0 0)).toArray) zeroPt := ⟨_, rfl, SlK.nil w, rfl, by decide⟩

theorem keepsAt_no (t : Int) : keepsAt [noKp, noKp, noKp, noKp] t = 0 := by
  have h : keptAt noKp t = 0 := by unfold keptAt noKp; simp
  unfold keepsAt
  simp [h]

theorem baseAt_zero (t : Int) : baseAt zeroPt t = 16 := by
  unfold baseAt
  have h1 : shipsAt zeroPt.ships t = 0 := rfl
  have h2 : keepsAt zeroPt.kept t = 0 := keepsAt_no t
  rw [h1, h2]
  show 16 - 0 - (if (0 : Int) ≤ t then 0 + 0 else 0) = 16
  split <;> rfl

theorem isPort_zero : IsPort zeroPt := by
  refine ⟨⟨by decide, by decide, by decide, by decide, (fun s hs => by cases hs), (fun i j r s _ h => by cases h), rfl, fun k hk => ?_⟩, fun t _ _ => by rw [baseAt_zero]; decide⟩
  have : k = noKp := by
    have h : k ∈ [noKp, noKp, noKp, noKp] := hk
    simpa using h
  rw [this]
  exact Or.inl ⟨rfl, rfl, rfl⟩

/-- the port of one ship -/
def onePt : Pt := ⟨0, [⟨1, 4, 9, 0, 0, 0⟩], [noKp, noKp, noKp, noKp], 0, 1⟩

theorem baseAt_one (t : Int) : baseAt onePt t = 16 := by
  unfold baseAt
  have h1 : shipsAt onePt.ships t = 0 := by
    unfold shipsAt onePt
    simp [shipAt]
  have h2 : keepsAt onePt.kept t = 0 := keepsAt_no t
  rw [h1, h2]
  show 16 - 0 - (if (0 : Int) ≤ t then 0 + 0 else 0) = 16
  split <;> rfl

theorem isPort_one : IsPort onePt := by
  refine ⟨⟨by decide, by decide, by decide, by decide, fun s hs => ?_, fun i j r s hij h1 h2 => ?_, rfl, isPort_zero.port.kept⟩, fun t _ _ => by rw [baseAt_one]; decide⟩
  · have : s = ⟨1, 4, 9, 0, 0, 0⟩ := by
      have h : s ∈ [(⟨1, 4, 9, 0, 0, 0⟩ : Ship)] := hs
      simpa using h
    subst this
    exact ⟨isShipB_iff.1 (by decide), by decide⟩
  · have := (List.getElem?_eq_some_iff.1 h2).1
    have hl : onePt.ships.length = 1 := rfl
    omega

theorem plan_one {pl : List Int} (h : PlanIs onePt pl) : pl = [0] := by
  obtain ⟨rk, hr, hc⟩ := h.some
  have hl : pl.length = 1 := h.len
  have hm : 0 ∈ rk := (hr.mem 0).2 ⟨by decide, rfl⟩
  obtain ⟨a, b, hab⟩ := List.append_of_mem hm
  have ha : a = [] := by
    cases a with
    | nil => rfl
    | cons x r =>
      have hx : x ∈ rk := by rw [hab]; simp
      have h0 : x < 1 := ((hr.mem x).1 hx).1
      have hnd := hr.nodup
      rw [hab] at hnd
      have : x = 0 := by omega
      subst this
      simp at hnd
  subst ha
  have F := hc [] b 0 hab
  have e : pl.getD 0 (-1) = 0 := by
    rcases F with ⟨_, f2⟩ | ⟨f1, _, _, f4⟩
    · exact absurd (fun s _ _ => by show (4 : Int) ≤ baseAt onePt s - ctrs onePt pl [] s; rw [baseAt_one, ctrs_nil]; decide) (f2 0 (by decide) (by decide))
    · have f1' : 0 ≤ pl.getD 0 (-1) := f1
      rcases Int.lt_or_le 0 (pl.getD 0 (-1)) with c | c
      · exact absurd (fun s _ _ => by show (4 : Int) ≤ baseAt onePt s - ctrs onePt pl [] s; rw [baseAt_one, ctrs_nil]; decide) (f4 0 (by decide) c)
      · omega
  match pl, hl, e with
  | [x], _, e => 
    have : x = 0 := e
    rw [this]

/-- Come of an empty port -/
theorem come_zero {n er : Int} {q : Pt} (h : TellIs (fun n e q => ComeIs zeroPt 4 9 0 n e q) zeroPt n er q) : n = 0 ∧ er = 0 ∧ q = onePt := by
  rcases h with ⟨h, _⟩ | ⟨_, n0, e0, q0, hR, h⟩
  · exact absurd isPort_zero h
  · have hq : e0 = 0 ∧ n0 = 0 ∧ q0 = onePt := by
      rcases hR with ⟨h1, _⟩ | ⟨_, h2, _⟩ | ⟨_, _, _, h4, h5, h6⟩
      · exact absurd (by decide) h1
      · rcases h2 with h | h
        · exact absurd h (by decide)
        · exact absurd h (by decide)
      · exact ⟨h4, h5, h6⟩
    obtain ⟨rfl, rfl, rfl⟩ := hq
    rcases h with ⟨h, _⟩ | ⟨_, h, _⟩ | ⟨_, _, h1, h2, h3⟩
    · exact absurd rfl h
    · exact absurd isPort_one h
    · exact ⟨h1, h2, h3⟩

theorem wfq_one : WfQ onePt := WfQ.of isPort_one

/-- Tell of Come, of an empty port -/
theorem tell_zero (w : World) : Calls Try.prog 44 #[.agg (portCells zeroPt (.slice none 0 0)).toArray, .agg #[.int .i64 1, .int .i64 4, .int .i64 9, .int .i64 0]] w fun e w' => ∃ vs, e = .returned (.tuple #[.agg (portCells onePt vs).toArray, .int .i64 0, .int .i64 0]) ∧ Hid (PtV w' (.agg (portCells onePt vs).toArray) onePt ∧ Below w.heap.size w w') := by
  refine (tell_any _ zeroPt ⟨1, 4, 9, 0⟩ (fun n e q => ComeIs zeroPt 4 9 0 n e q) w (ptv_zero w) (fun s hs => by cases hs) ?_ ?_).mono ?_
  · intro _ n e q h
    rcases h with ⟨_, _, _, rfl⟩ | ⟨_, _, _, _, rfl⟩ | ⟨_, _, _, _, _, rfl⟩
    · exact ⟨fun s hs => (by cases hs), by decide⟩
    · exact ⟨fun s hs => (by cases hs), by decide⟩
    · exact ⟨wfq_one, by decide⟩
  · intro _ g B vs W hq hne
    exact obeyCome_any g B zeroPt vs 4 9 0 W hq hne (by decide) (by decide) (by decide)
  · rintro e w' ⟨q, vs, n, er, rfl, hT, h4, hm, hO, hb⟩
    obtain ⟨rfl, rfl, rfl⟩ := come_zero hT
    exact ⟨vs, rfl, ⟨vs, rfl, slK_ofRow hO, h4, hm⟩, hb⟩


set_option maxHeartbeats 2000000 in
set_option maxRecDepth 100000 in
theorem keepPorts_any (w : World) : Calls Try.prog 50 #[] w fun e w' => e = .returned (.bool true) ∧ Below w.heap.size w w' := by
  have HN := newPort_any w
  have HT := tell_zero
  generalize hZC : (portCells zeroPt (.slice none 0 0)).toArray = ZC at HN HT
  clear hZC
  go_enter Try.func50, Try.ntmps50
  go_wp2_with fail
  refine HN.mono ?_
  rintro e w1 ⟨rfl, hw1⟩
  go_wp2_with fail
  refine (HT w1).mono ?_
  rintro e w2 ⟨vs, rfl, hw2⟩
  have D2 : Hid (Below w.heap.size w w2) := hw1.trans (hw2.out.2.mono hw1.size)
  have V2 : Hid (PtV w2 (.agg (portCells onePt vs).toArray) onePt) := hw2.out.1
  have on : vs.oneCell' = true := by
    obtain ⟨vs', e, h, _⟩ := hw2.out.1
    have : vs = vs' := by
      have h1 := congrArg (fun v => match v with | .agg c => c[1]? | _ => none) e
      simpa [portCells] using h1
    subst this
    obtain ⟨a, cap, rfl, _⟩ := h
    rfl
  have HG := fun W h => goodPort_any (.agg (portCells onePt vs).toArray) onePt W h wfq_one
  have HP := fun W h => plan_any (.agg (portCells onePt vs).toArray) onePt W h isPort_one
  clear HN HT hw1 hw2
  generalize hOC : (portCells onePt vs).toArray = OC at *
  have HOC : Hid ((portCells onePt vs).toArray = OC) := hOC
  clear hOC
  go_upto_region 2 with (first | (refine wpList_alloc_box rfl rfl 1 rfl ?_; intro w3 hw3 hs3) | (refine wpList_store_box rfl _ _ rfl w2.heap.size zeroPt onePt (.slice none 0 0) vs rfl (by show Value.agg OC = _; rw [HOC.out]) hw3.out.1 rfl on ?_; intro w4 hw4 hs4))
  have E4 : Hid (PBox w4 w2.heap.size onePt vs ∧ PtV w4 (.agg OC) onePt ∧ Below w.heap.size w w4) := by
    have hb : Below w2.heap.size w2 w4 := hw3.out.2.trans (hw4.out.2.2 _ (Nat.le_refl _))
    exact ⟨hw4.out.1, V2.out.below hb, D2.out.trans (hb.mono D2.out.size)⟩
  generalize w2.heap.size = g at *
  clear hw3 hw4 hs3 hs4 V2 D2
  go_wp2_with (refine wpList_load_box rfl _ rfl g onePt vs rfl E4.out.1 ?_; rw [HOC.out])
  refine (HP _ E4.out.2.1).mono ?_
  rintro e w5 ⟨⟨v5, rfl, h5⟩, hb5⟩
  obtain ⟨pl, hpl, _, hsl⟩ := h5.out
  obtain rfl := plan_one hpl
  obtain ⟨a5, cap5, rfl, _, hrd⟩ := hsl
  obtain ⟨b5, off5, rfl, hr5⟩ : ∃ b off, a5 = some ⟨b, off, none⟩ ∧ RdK cInt w5 b off [0] := by
    rcases hrd with h | h
    · cases h
    · exact h
  have c5 := hr5.int (j := 0) rfl
  have E5 : Hid (PBox w5 g onePt vs ∧ PtV w5 (.agg OC) onePt ∧ Below w.heap.size w w5) := ⟨E4.out.1.later hb5 E4.out.1.lt, E4.out.2.1.below hb5, E4.out.2.2.trans (hb5.mono E4.out.2.2.size)⟩
  have HG2 : ∀ W, PtV W (.agg OC) onePt → Calls Try.prog 30 #[.agg OC] W fun e w' => e = .returned (.bool true) ∧ Below W.heap.size W w' := fun W h => (HG W h).mono (by
    rintro e w' ⟨⟨b, rfl, hb⟩, hw⟩
    exact ⟨by rw [hb.2 isPort_one], hw⟩)
  clear hpl hrd hr5 hb5 h5 E4 HP HG
  simp only [Nat.add_zero] at c5
  go_wp2_with (first | (refine wpList_load_box_g (by first | rfl | (simp [Region.wanted, yielded]; done)) _ rfl g onePt vs rfl E5.out.1 ?_; rw [HOC.out]) | (go_at_call 30; refine (HG2 _ E5.out.2.1).mono ?_; rintro e w7 ⟨rfl, hw7⟩; have D7 : Hid (Below w.heap.size w w7) := E5.out.2.2.trans (hw7.mono E5.out.2.2.size); clear hw7))
  go_ret
  exact ⟨rfl, D7.out⟩

set_option maxHeartbeats 2000000 in
set_option maxRecDepth 100000 in
theorem lawPorts_any (w : World) : Calls Try.prog 36 #[] w fun e w' => e = .returned (.bool true) ∧ Below w.heap.size w w' := by
  have HN := newPort_any w
  have HT := tell_zero
  generalize hZC : (portCells zeroPt (.slice none 0 0)).toArray = ZC at HN HT
  clear hZC
  go_enter Try.func36, Try.ntmps36
  go_wp2_with fail
  refine HN.mono ?_
  rintro e w1 ⟨rfl, hw1⟩
  go_wp2_with fail
  refine (HT w1).mono ?_
  rintro e w2 ⟨vs, rfl, hw2⟩
  have D2 : Hid (Below w.heap.size w w2) := hw1.trans (hw2.out.2.mono hw1.size)
  have V2 : Hid (PtV w2 (.agg (portCells onePt vs).toArray) onePt) := hw2.out.1
  have on : vs.oneCell' = true := by
    obtain ⟨vs', e, h, _⟩ := hw2.out.1
    have : vs = vs' := by
      have h1 := congrArg (fun v => match v with | .agg c => c[1]? | _ => none) e
      simpa [portCells] using h1
    subst this
    obtain ⟨a, cap, rfl, _⟩ := h
    rfl
  have HG := fun W h => goodPort_any (.agg (portCells onePt vs).toArray) onePt W h wfq_one
  have HP := fun W h => plan_any (.agg (portCells onePt vs).toArray) onePt W h isPort_one
  clear HN HT hw1 hw2
  generalize hOC : (portCells onePt vs).toArray = OC at *
  have HOC : Hid ((portCells onePt vs).toArray = OC) := hOC
  clear hOC
  go_upto_region 2 with (first | (refine wpList_alloc_box rfl rfl 1 rfl ?_; intro w3 hw3 hs3) | (refine wpList_store_box rfl _ _ rfl w2.heap.size zeroPt onePt (.slice none 0 0) vs rfl (by show Value.agg OC = _; rw [HOC.out]) hw3.out.1 rfl on ?_; intro w4 hw4 hs4))
  have E4 : Hid (PBox w4 w2.heap.size onePt vs ∧ PtV w4 (.agg OC) onePt ∧ Below w.heap.size w w4) := by
    have hb : Below w2.heap.size w2 w4 := hw3.out.2.trans (hw4.out.2.2 _ (Nat.le_refl _))
    exact ⟨hw4.out.1, V2.out.below hb, D2.out.trans (hb.mono D2.out.size)⟩
  generalize w2.heap.size = g at *
  clear hw3 hw4 hs3 hs4 V2 D2
  go_wp2_with (refine wpList_load_box rfl _ rfl g onePt vs rfl E4.out.1 ?_; rw [HOC.out])
  refine (HP _ E4.out.2.1).mono ?_
  rintro e w5 ⟨⟨v5, rfl, h5⟩, hb5⟩
  obtain ⟨pl, hpl, _, hsl⟩ := h5.out
  obtain rfl := plan_one hpl
  obtain ⟨a5, cap5, rfl, _, hrd⟩ := hsl
  obtain ⟨b5, off5, rfl, hr5⟩ : ∃ b off, a5 = some ⟨b, off, none⟩ ∧ RdK cInt w5 b off [0] := by
    rcases hrd with h | h
    · cases h
    · exact h
  have c5 := hr5.int (j := 0) rfl
  have E5 : Hid (PBox w5 g onePt vs ∧ PtV w5 (.agg OC) onePt ∧ Below w.heap.size w w5) := ⟨E4.out.1.later hb5 E4.out.1.lt, E4.out.2.1.below hb5, E4.out.2.2.trans (hb5.mono E4.out.2.2.size)⟩
  have HG2 : ∀ W, PtV W (.agg OC) onePt → Calls Try.prog 30 #[.agg OC] W fun e w' => e = .returned (.bool true) ∧ Below W.heap.size W w' := fun W h => (HG W h).mono (by
    rintro e w' ⟨⟨b, rfl, hb⟩, hw⟩
    exact ⟨by rw [hb.2 isPort_one], hw⟩)
  clear hpl hrd hr5 hb5 h5 E4 HP HG
  simp only [Nat.add_zero] at c5
  go_wp2_with (first | (refine wpList_load_box_g (by first | rfl | (simp [Region.wanted, yielded]; done)) _ rfl g onePt vs rfl E5.out.1 ?_; rw [HOC.out]) | (go_at_call 30; refine (HG2 _ E5.out.2.1).mono ?_; rintro e w7 ⟨rfl, hw7⟩; have D7 : Hid (Below w.heap.size w w7) := E5.out.2.2.trans (hw7.mono E5.out.2.2.size); clear hw7))
  go_ret
  exact ⟨rfl, D7.out⟩

end Go.Proofs.Ytfdnbgfgjelkcaa
/- A slice of steps that came in, as a list of steps; it takes no more bytes than the form itself lets it. -/
set_option linter.unusedSimpArgs false
set_option linter.unusedVariables false
namespace Go.Proofs.Ytfdnbgfgjelkcaa
open Go.ChangeShapes Go.WideShapes Go.ChangeAt Go.RowKit Go.Deep

theorem own : ownKnob Try.prog.godebug = none := by kernel_rfl
theorem laidOut : laidOutB Try.prog = true := by kernel_rfl
theorem bytesStep : Try.prog.bytesOf 31 = 16 := by kernel_rfl

theorem open_steps {H : Type} {enc : TypeId × Value → H} {W : World} {a0 : Option Addr} {len0 cap0 : Nat} {d : DataW H} {ps : List MemPlace} (h : DataW.Trod enc Try.prog W 0 (fun _ => true) true 22 (.slice a0 len0 cap0) d ps)
    (hsz : ∀ elems spare, d = .slice elems spare → (elems.length + spare.length) * Try.prog.bytesOf 31 ≤ reachBytes) : ∃ l, Sl W (.slice a0 len0 cap0) l := by
  obtain ⟨fuel, hf⟩ := h
  rcases open_slice_pairs Try.underlying22 Try.underlying31 (by kernel_rfl) rfl rfl (by kernel_rfl) (by kernel_rfl) hf with ⟨hcs, _⟩ | ⟨a, len, cap, m, n, V0, V1, D0, D1, P0, P1, hcs, _, hl, hm, hmm, hx, hc⟩
  · simp [Value.cells] at hcs
    obtain ⟨rfl, rfl, rfl⟩ := hcs
    exact ⟨[], by simp, none, 0, rfl, Or.inl rfl⟩
  · simp [Value.cells] at hcs
    obtain ⟨rfl, rfl, rfl⟩ := hcs
    have hs := hsz _ _ (Prod.mk.inj hx).1
    rw [bytesStep] at hs
    simp at hs
    have hr : reachBytes = 140737488351232 := rfl
    rw [hr] at hs
    simp at hmm
    subst hmm
    refine ⟨(List.range len0).map fun i => (intOf (V0 i), intOf (V1 i)), by simp; omega, some a, m, by simp, ?_⟩
    by_cases h0 : len0 = 0
    · subst h0; exact Or.inl rfl
    · right
      obtain ⟨b, off, spot⟩ := a
      have hspot : spot = none := by simpa [Addr.add] using World.cell?_spot (hc 0 (by omega)).1
      subst hspot
      refine ⟨b, off, rfl, fun j hj => ?_⟩
      simp at hj
      obtain ⟨c0, c1, t0, t1⟩ := hc j (by omega)
      obtain ⟨x0, e0, _⟩ := DataW.trod_int Try.underlying3 t0
      obtain ⟨x1, e1, _⟩ := DataW.trod_int Try.underlying3 t1
      have e0' : V0 j = .int .i64 x0 := by simpa using e0
      have e1' : V1 j = .int .i64 x1 := by simpa using e1
      rw [Addr.add_lit] at c0 c1
      have es : sAt ((List.range len0).map fun i => (intOf (V0 i), intOf (V1 i))) j = (x0, x1) := by
        rw [sAt_get (by simpa using hj)]
        simp [e0', e1', intOf]
      rw [es, c0, Nat.add_assoc, c1, e0', e1']
      exact ⟨rfl, rfl⟩

end Go.Proofs.Ytfdnbgfgjelkcaa
/- Ports, ships, orders and lists of numbers that came in, as plain data; they take no more bytes than the form itself lets them. -/
set_option linter.unusedSimpArgs false
set_option linter.unusedVariables false
set_option maxRecDepth 100000
namespace Go.Proofs.Ytfdnbgfgjelkcaa
open Go.ChangeShapes Go.WideShapes Go.ChangeAt Go.RowKit Go.Deep

/-- a row is there if each of its elements is -/
theorem rdK_of {α : Type} {k : Nat} {c : α → List Value} (E : EncOk k c) (hk : 0 < k) {w : World} {b off : Nat} {l : List α}
    (h : ∀ i x, l[i]? = some x → ∀ j u, (c x)[j]? = some u → w.cell? ⟨b, off + (i * k + j), none⟩ = some u) : RdK c w b off l := by
  intro j u hu
  have hj := (List.getElem?_eq_some_iff.1 hu).1
  rw [cellsK_length E] at hj
  have hd : j / k < l.length := Nat.div_lt_of_lt_mul (by rw [Nat.mul_comm]; exact hj)
  have he : j / k * k + j % k = j := by rw [Nat.mul_comm]; exact Nat.div_add_mod j k
  have hx := List.getElem?_eq_getElem hd
  have hg := cellsK_get E l (j / k) _ hx (j % k) (Nat.mod_lt _ hk)
  rw [he] at hg
  have := h (j / k) _ hx (j % k) u (hg.symm.trans hu)
  rw [he] at this
  exact this

/-- a slice of elements of k cells each that came in -/
theorem open_sliceK {H : Type} {enc : TypeId × Value → H} {W : World} {α : Type} [Inhabited α] {k : Nat} {c : α → List Value} (E : EncOk k c) (hk : 0 < k) {t e : TypeId} (ht : Try.prog.underlying t = some (.slice e)) (hc : Try.prog.cellsOf e = k) (G : α → Prop)
    (helem : ∀ (n : Nat) (cs : List Value) (y : DataW H × List MemPlace), DataW.trod enc Try.prog W 0 (fun _ => true) true n e cs = some y → ∃ x, cs = c x ∧ G x) {fuel : Nat} {cs : List Value} {x : DataW H × List MemPlace} (h : DataW.trod enc Try.prog W 0 (fun _ => true) true fuel t cs = some x) :
    ∃ l vs, cs = [vs] ∧ SlK c W vs l ∧ (∀ y ∈ l, G y) ∧ (l = [] ∨ ∃ el sp, x.1 = .slice el sp ∧ l.length = el.length) := by
  rcases open_slice ht h with ⟨rfl, _⟩ | ⟨a, len, cap, m, n, D, Pl, rfl, _, hl, _, hmm, rfl, hx⟩
  · exact ⟨[], _, rfl, SlK.nil W, (fun y hy => by cases hy), Or.inl rfl⟩
  · simp at hmm
    subst hmm
    have each : ∀ i, i < len → ∃ y : α, (∀ j u, (c y)[j]? = some u → W.cell? (a.add (i * k + j)) = some u) ∧ G y := fun i hi => by
      obtain ⟨cs', h1, h2⟩ := hx i (by omega)
      obtain ⟨y, rfl, hG⟩ := helem n cs' _ h2
      rw [hc] at h1
      obtain ⟨_, hlen, hcell⟩ := World.cells?_some h1
      refine ⟨y, fun j u hu => ?_, hG⟩
      have hj := (List.getElem?_eq_some_iff.1 hu).1
      have := hcell j (by omega)
      rw [add_add] at this
      rw [this, hu]
    obtain ⟨q, hq⟩ := choose_lt each
    refine ⟨(List.range len).map q, _, rfl, ⟨some a, m, by simp, by simpa using hl, ?_⟩, ?_, Or.inr ⟨_, _, rfl, by simp⟩⟩
    · by_cases h0 : len = 0
      · subst h0; exact Or.inl rfl
      · right
        obtain ⟨b, off, spot⟩ := a
        have hspot : spot = none := by
          have h1 := E.len (q 0)
          have h2 := (hq 0 (by omega)).1 0 ((c (q 0))[0]'(by omega)) (List.getElem?_eq_getElem (by omega))
          simpa [Addr.add] using World.cell?_spot h2
        subst hspot
        refine ⟨b, off, rfl, rdK_of E hk fun i y hy j u hu => ?_⟩
        have hi : i < len := by have := (List.getElem?_eq_some_iff.1 hy).1; simpa using this
        rw [List.getElem?_map, List.getElem?_range hi] at hy
        have hy' : q i = y := by simpa using hy
        subst hy'
        have := (hq i hi).1 j u hu
        rwa [Addr.add_lit] at this
    · intro y hy
      obtain ⟨i, hi, rfl⟩ := List.mem_map.1 hy
      exact (hq i (List.mem_range.1 hi)).2

instance : Inhabited Ship := ⟨⟨0, 0, 0, 0, 0, 0⟩⟩

theorem cellsShip : Try.prog.cellsOf 48 = 6 := by kernel_rfl
theorem cellsKp : Try.prog.cellsOf 43 = 3 := by kernel_rfl
theorem cellsInt : Try.prog.cellsOf 3 = 1 := by kernel_rfl
theorem cellsPort : Try.prog.cellsOf 46 = 16 := by kernel_rfl
theorem cellsKps : Try.prog.cellsOf 44 = 12 := by kernel_rfl
theorem cellsShips : Try.prog.cellsOf 41 = 1 := by kernel_rfl
theorem cellsOrder : Try.prog.cellsOf 61 = 4 := by kernel_rfl

/-- all six are numbers of 64 bits -/
def WfS (s : Ship) : Prop := Wf s.st ∧ Wf s.wd ∧ Wf s.lg ∧ Wf s.cl ∧ Wf s.si ∧ Wf s.qu
def WfK (k : Kp) : Prop := Wf k.wd ∧ Wf k.fr ∧ Wf k.to

section
variable {H : Type} {enc : TypeId × Value → H} {W : World}

theorem open_num {n : Nat} {v : Value} {y : DataW H × List MemPlace} (h : DataW.trod enc Try.prog W 0 (fun _ => true) true n 3 [v] = some y) : ∃ x, v = .int .i64 x ∧ Wf x := by
  obtain ⟨x, e, _, hw⟩ := DataW.trod_int Try.underlying3 h
  exact ⟨x, by simpa using e, hw⟩

theorem open_shipCells {n : Nat} {cs : List Value} {y : DataW H × List MemPlace} (h : DataW.trod enc Try.prog W 0 (fun _ => true) true n 48 cs = some y) : ∃ s, cs = cShip s ∧ WfS s := by
  obtain ⟨xs, m, _, _, hl, hxl, hf⟩ := DataW.trod_struct Try.underlying48 h
  rw [cellsShip] at hl
  have hxl2 : xs.length = 6 := hxl
  clear hxl
  match xs, hxl2, cs, hl with
  | [y0, y1, y2, y3, y4, y5], _, [c0, c1, c2, c3, c4, c5], _ =>
    have g0 := hf 0 _ rfl
    have g1 := hf 1 _ rfl
    have g2 := hf 2 _ rfl
    have g3 := hf 3 _ rfl
    have g4 := hf 4 _ rfl
    have g5 := hf 5 _ rfl
    simp [cellsInt] at g0 g1 g2 g3 g4 g5
    obtain ⟨x0, rfl, w0⟩ := open_num g0
    obtain ⟨x1, rfl, w1⟩ := open_num g1
    obtain ⟨x2, rfl, w2⟩ := open_num g2
    obtain ⟨x3, rfl, w3⟩ := open_num g3
    obtain ⟨x4, rfl, w4⟩ := open_num g4
    obtain ⟨x5, rfl, w5⟩ := open_num g5
    exact ⟨⟨x0, x1, x2, x3, x4, x5⟩, rfl, w0, w1, w2, w3, w4, w5⟩

theorem open_kpCells {n : Nat} {cs : List Value} {y : DataW H × List MemPlace} (h : DataW.trod enc Try.prog W 0 (fun _ => true) true n 43 cs = some y) : ∃ s, cs = cKp s ∧ WfK s := by
  obtain ⟨xs, m, _, _, hl, hxl, hf⟩ := DataW.trod_struct Try.underlying43 h
  rw [cellsKp] at hl
  have hxl2 : xs.length = 3 := hxl
  clear hxl
  match xs, hxl2, cs, hl with
  | [y0, y1, y2], _, [c0, c1, c2], _ =>
    have g0 := hf 0 _ rfl
    have g1 := hf 1 _ rfl
    have g2 := hf 2 _ rfl
    simp [cellsInt] at g0 g1 g2
    obtain ⟨x0, rfl, w0⟩ := open_num g0
    obtain ⟨x1, rfl, w1⟩ := open_num g1
    obtain ⟨x2, rfl, w2⟩ := open_num g2
    exact ⟨⟨x0, x1, x2⟩, rfl, w0, w1, w2⟩

theorem open_kpsCells {n : Nat} {cs : List Value} {y : DataW H × List MemPlace} (h : DataW.trod enc Try.prog W 0 (fun _ => true) true n 44 cs = some y) : ∃ l, cs = cellsK cKp l ∧ l.length = 4 ∧ ∀ k ∈ l, WfK k := by
  obtain ⟨xs, m, _, _, hl, hxl, hf⟩ := DataW.trod_array Try.underlying44 h
  rw [cellsKps] at hl
  have hxl2 : xs.length = 4 := hxl
  clear hxl
  match xs, hxl2, cs, hl with
  | [y0, y1, y2, y3], _, [a0, a1, a2, b0, b1, b2, c0, c1, c2, d0, d1, d2], _ =>
    have g0 := hf 0 (by omega)
    have g1 := hf 1 (by omega)
    have g2 := hf 2 (by omega)
    have g3 := hf 3 (by omega)
    simp [cellsKp] at g0 g1 g2 g3
    obtain ⟨x0, e0, w0⟩ := open_kpCells g0
    obtain ⟨x1, e1, w1⟩ := open_kpCells g1
    obtain ⟨x2, e2, w2⟩ := open_kpCells g2
    obtain ⟨x3, e3, w3⟩ := open_kpCells g3
    refine ⟨[x0, x1, x2, x3], ?_, rfl, ?_⟩
    · show _ = cKp x0 ++ (cKp x1 ++ (cKp x2 ++ (cKp x3 ++ [])))
      rw [← e0, ← e1, ← e2, ← e3]; rfl
    · intro k hk
      simp at hk
      rcases hk with rfl | rfl | rfl | rfl <;> assumption

theorem open_ships {n : Nat} {cs : List Value} {y : DataW H × List MemPlace} (h : DataW.trod enc Try.prog W 0 (fun _ => true) true n 41 cs = some y) :
    ∃ l vs, cs = [vs] ∧ SlK cShip W vs l ∧ (∀ s ∈ l, WfS s) ∧ (l = [] ∨ ∃ el sp, y.1 = .slice el sp ∧ l.length = el.length) :=
  open_sliceK encShip (by omega) Try.underlying41 cellsShip WfS (fun _ _ _ h => open_shipCells h) h

theorem open_numsCells {n : Nat} {cs : List Value} {y : DataW H × List MemPlace} (h : DataW.trod enc Try.prog W 0 (fun _ => true) true n 57 cs = some y) :
    ∃ l vs, cs = [vs] ∧ SlK cInt W vs l ∧ (∀ s ∈ l, Wf s) ∧ (l = [] ∨ ∃ el sp, y.1 = .slice el sp ∧ l.length = el.length) :=
  open_sliceK encInt (by omega) Try.underlying57 cellsInt Wf (fun _ cs _ h => by
    obtain ⟨x, e, _, hw⟩ := DataW.trod_int Try.underlying3 h
    exact ⟨x, e, hw⟩) h

/-- all numbers of a port are of 64 bits -/
def WfP (p : Pt) : Prop := Wf p.now ∧ Wf p.shut ∧ Wf p.next ∧ (∀ s ∈ p.ships, WfS s) ∧ ∀ k ∈ p.kept, WfK k
theorem WfP.q {p : Pt} (h : WfP p) : WfQ p := fun s hs => (h.2.2.2.1 s hs).2.2.2.2.2

theorem bytesShip : Try.prog.bytesOf 48 = 48 := by kernel_rfl

/-- a port that came in -/
theorem open_port {v : Value} {d : DataW H} {ps : List MemPlace} (hok : Value.okWide Try.prog W .any 0 46 v ∨ ∃ base, Value.okWide Try.prog W .any base 46 v) (h : DataW.Trod enc Try.prog W 0 (fun _ => true) true 46 v d ps)
    (hsz : (d.weights Try.prog 46).all (· ≤ reachBytes) = true) : ∃ p, PtV W v p ∧ WfP p := by
  obtain ⟨cs, rfl⟩ : ∃ cs, v = .agg cs := by
    rcases hok with h | ⟨_, h⟩ <;> (obtain ⟨cs, e, _⟩ := okWide_struct Try.underlying46 h; exact ⟨cs, e⟩)
  obtain ⟨fuel, hf0⟩ := h
  have hf1 : DataW.trod enc Try.prog W 0 (fun _ => true) true fuel 46 cs.toList = some (d, ps) := hf0
  obtain ⟨xs, m, _, hx, hl, hxl, hf⟩ := DataW.trod_struct Try.underlying46 hf1
  rw [cellsPort] at hl
  have hxl2 : xs.length = 5 := hxl
  clear hxl
  obtain ⟨L⟩ := cs
  simp only at hl hf
  match xs, hxl2, L, hl with
  | [y0, y1, y2, y3, y4], _, [n0, v1, a0, a1, a2, b0, b1, b2, c0, c1, c2, d0, d1, d2, n14, n15], _ =>
    have g0 := hf 0 _ rfl
    have g1 := hf 1 _ rfl
    have g2 := hf 2 _ rfl
    have g3 := hf 3 _ rfl
    have g4 := hf 4 _ rfl
    simp [cellsInt, cellsShips, cellsKps] at g0 g1 g2 g3 g4
    obtain ⟨x0, rfl, w0⟩ := open_num g0
    obtain ⟨l, vs, e1, s1, w1, z1⟩ := open_ships g1
    obtain ⟨kp, e2, l2, w2⟩ := open_kpsCells g2
    obtain ⟨x3, rfl, w3⟩ := open_num g3
    obtain ⟨x4, rfl, w4⟩ := open_num g4
    have hv1 : v1 = vs := by simpa using e1
    subst hv1
    have hd : d = .agg [y0.1, y1.1, y2.1, y3.1, y4.1] := by have := (Prod.mk.inj hx).1; simpa using this
    subst hd
    have hmax : l.length ≤ 2932031007317 := by
      rcases z1 with rfl | ⟨el, sp, hy, hle⟩
      · simp
      · have h1 := List.all_eq_true.1 hsz ((el.length + sp.length) * Try.prog.bytesOf 48) (by
          rw [hy]
          simp [DataW.weights, Try.underlying46, DataW.weightsEach, Try.underlying41])
        rw [bytesShip] at h1
        have hr : reachBytes = 140737488351232 := rfl
        rw [hr] at h1
        simp at h1
        omega
    refine ⟨⟨x0, l, kp, x3, x4⟩, ⟨v1, ?_, s1, l2, hmax⟩, w0, w3, w4, w1, w2⟩
    unfold portCells
    rw [← e2]
    rfl
end

end Go.Proofs.Ytfdnbgfgjelkcaa
/- Orders, ships and lists of numbers that came in, as plain data. -/
set_option linter.unusedSimpArgs false
set_option linter.unusedVariables false
set_option maxRecDepth 100000
namespace Go.Proofs.Ytfdnbgfgjelkcaa
open Go.ChangeShapes Go.WideShapes Go.ChangeAt Go.RowKit Go.Deep

def WfO (o : Ord) : Prop := Wf o.kd ∧ Wf o.a ∧ Wf o.b ∧ Wf o.c

section
variable {H : Type} {enc : TypeId × Value → H} {W : World}

theorem open_order {base : Nat} {v : Value} {d : DataW H} {ps : List MemPlace} (hok : Value.okWide Try.prog W .any base 61 v) (h : DataW.Trod enc Try.prog W 0 (fun _ => true) true 61 v d ps) : ∃ o : Ord, v = .agg #[.int .i64 o.kd, .int .i64 o.a, .int .i64 o.b, .int .i64 o.c] ∧ WfO o := by
  obtain ⟨cs, rfl, _⟩ := okWide_struct Try.underlying61 hok
  obtain ⟨fuel, hf0⟩ := h
  have hf1 : DataW.trod enc Try.prog W 0 (fun _ => true) true fuel 61 cs.toList = some (d, ps) := hf0
  obtain ⟨xs, m, _, hx, hl, hxl, hf⟩ := DataW.trod_struct Try.underlying61 hf1
  rw [cellsOrder] at hl
  have hxl2 : xs.length = 4 := hxl
  clear hxl
  obtain ⟨L⟩ := cs
  simp only at hl hf
  match xs, hxl2, L, hl with
  | [y0, y1, y2, y3], _, [c0, c1, c2, c3], _ =>
    have g0 := hf 0 _ rfl
    have g1 := hf 1 _ rfl
    have g2 := hf 2 _ rfl
    have g3 := hf 3 _ rfl
    simp [cellsInt] at g0 g1 g2 g3
    obtain ⟨x0, rfl, w0⟩ := open_num g0
    obtain ⟨x1, rfl, w1⟩ := open_num g1
    obtain ⟨x2, rfl, w2⟩ := open_num g2
    obtain ⟨x3, rfl, w3⟩ := open_num g3
    exact ⟨⟨x0, x1, x2, x3⟩, rfl, w0, w1, w2, w3⟩

theorem open_ship {base : Nat} {v : Value} {d : DataW H} {ps : List MemPlace} (hok : Value.okWide Try.prog W .any base 48 v) (h : DataW.Trod enc Try.prog W 0 (fun _ => true) true 48 v d ps) : ∃ s : Ship, v = .agg (cShip s).toArray ∧ WfS s := by
  obtain ⟨cs, rfl, _⟩ := okWide_struct Try.underlying48 hok
  obtain ⟨fuel, hf0⟩ := h
  have hf1 : DataW.trod enc Try.prog W 0 (fun _ => true) true fuel 48 cs.toList = some (d, ps) := hf0
  obtain ⟨s, e, hw⟩ := open_shipCells hf1
  exact ⟨s, by rw [← e], hw⟩

theorem bytesInt : Try.prog.bytesOf 3 = 8 := by kernel_rfl

theorem open_nums {base : Nat} {v : Value} {d : DataW H} {ps : List MemPlace} (hok : Value.okWide Try.prog W .any base 57 v) (h : DataW.Trod enc Try.prog W 0 (fun _ => true) true 57 v d ps)
    (hsz : (d.weights Try.prog 57).all (· ≤ reachBytes) = true) : ∃ l, SlK cInt W v l ∧ (∀ x ∈ l, Wf x) ∧ l.length ≤ 17592186044416 := by
  obtain ⟨a0, len0, cap0, rfl⟩ := okWide_slice Try.underlying57 hok
  obtain ⟨fuel, hf0⟩ := h
  have hf1 : DataW.trod enc Try.prog W 0 (fun _ => true) true fuel 57 [.slice a0 len0 cap0] = some (d, ps) := hf0
  obtain ⟨l, vs, e, hs, hw, hz⟩ := open_numsCells hf1
  obtain rfl : Value.slice a0 len0 cap0 = vs := by simpa using e
  refine ⟨l, hs, hw, ?_⟩
  rcases hz with rfl | ⟨el, sp, hy, hle⟩
  · simp
  · simp only at hy
    have h1 := List.all_eq_true.1 hsz ((el.length + sp.length) * Try.prog.bytesOf 3) (by
      rw [hy]
      simp [DataW.weights, Try.underlying57])
    rw [bytesInt] at h1
    have hr : reachBytes = 140737488351232 := rfl
    rw [hr] at h1
    simp at h1
    omega
end

end Go.Proofs.Ytfdnbgfgjelkcaa
