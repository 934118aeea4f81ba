import Derived.ProofKit
import Derived.Deep.SlicePairs
import Derived.SizedLaws
import Derived.OpenShut
import Derived.Test.YtcmdoeledmkfmacGreatDoorQ6
import Derived.Test.YtcmdoeledmkfmacGreatDoorQ5
import Derived.Test.YtcmdoeledmkfmacGreatDoorQ2
import Derived.Test.YtcmdoeledmkfmacGreatDoorQ9
import Derived.Test.YtcmdoeledmkfmacGreatDoorQM
set_option linter.unusedSimpArgs false
set_option linter.unusedVariables false
namespace Go.Proofs.YtcmdoeledmkfmacGreatDoor
open Go.RowKit
set_option maxHeartbeats 1000000 in
set_option maxRecDepth 100000 in
theorem newPort_any (w : World) : Calls Tryz.prog 22 #[] w fun e w' => e = .returned (.agg (portCells zeroPt (.slice none 0 0)).toArray) ∧ Below w.heap.size w w' := by
  go_enter Tryz.func22, Tryz.ntmps22
  go_wp2_with (first | (refine wpList_alloc_box rfl rfl 0 rfl ?_; intro w1 hw1 hs1) | (refine wpList_store_box rfl _ _ rfl w.heap.size zeroPt zeroPt (.slice none 0 0) (.slice none 0 0) rfl rfl hw1.out.1 rfl rfl ?_; intro w9 hw9 hs9))
  refine bodyPost_ret (v := .agg (portCells zeroPt (.slice none 0 0)).toArray) (results_box Tryz.results22 _ _ w.heap.size zeroPt (.slice none 0 0) rfl hw9.out.1) rfl ?_
  exact ⟨rfl, hw1.out.2.trans (hw9.out.2.2 _ (Nat.le_refl _))⟩
theorem ptv_zero (w : World) : PtV w (.agg (portCells zeroPt (.slice none 0 0)).toArray) zeroPt := ⟨_, rfl, SlK.nil w, rfl, by decide⟩
theorem keepsAt_no (t : Int) : keepsAt [noKp, noKp, noKp, noKp] t = 0 := by
  have h : keptAt noKp t = 0 := by unfold keptAt noKp; simp
  unfold keepsAt
  simp [h]
theorem baseAt_zero (t : Int) : baseAt zeroPt t = 16 := by
  unfold baseAt
  have h1 : shipsAt zeroPt.ships t = 0 := rfl
  have h2 : keepsAt zeroPt.kept t = 0 := keepsAt_no t
  rw [h1, h2]
  show 16 - 0 - (if (0 : Int) ≤ t then 0 + 0 else 0) = 16
  split <;> rfl
theorem isPort_zero : IsPort zeroPt := by
  refine ⟨⟨by decide, by decide, by decide, by decide, (fun s hs => by cases hs), (fun i j r s _ h => by cases h), rfl, fun k hk => ?_⟩, fun t _ _ => by rw [baseAt_zero]; decide⟩
  have : k = noKp := by
    have h : k ∈ [noKp, noKp, noKp, noKp] := hk
    simpa using h
  rw [this]
  exact Or.inl ⟨rfl, rfl, rfl⟩
def onePt : Pt := ⟨0, [⟨1, 4, 9, 0, 0, 0⟩], [noKp, noKp, noKp, noKp], 0, 1⟩
theorem baseAt_one (t : Int) : baseAt onePt t = 16 := by
  unfold baseAt
  have h1 : shipsAt onePt.ships t = 0 := by
    unfold shipsAt onePt
    simp [shipAt]
  have h2 : keepsAt onePt.kept t = 0 := keepsAt_no t
  rw [h1, h2]
  show 16 - 0 - (if (0 : Int) ≤ t then 0 + 0 else 0) = 16
  split <;> rfl
theorem isPort_one : IsPort onePt := by
  refine ⟨⟨by decide, by decide, by decide, by decide, fun s hs => ?_, fun i j r s hij h1 h2 => ?_, rfl, isPort_zero.port.kept⟩, fun t _ _ => by rw [baseAt_one]; decide⟩
  · have : s = ⟨1, 4, 9, 0, 0, 0⟩ := by
      have h : s ∈ [(⟨1, 4, 9, 0, 0, 0⟩ : Ship)] := hs
      simpa using h
    subst this
    exact ⟨isShipB_iff.1 (by decide), by decide⟩
  · have := (List.getElem?_eq_some_iff.1 h2).1
    have hl : onePt.ships.length = 1 := rfl
    omega
theorem plan_one {pl : List Int} (h : PlanIs onePt pl) : pl = [0] := by
  obtain ⟨rk, hr, hc⟩ := h.some
  have hl : pl.length = 1 := h.len
  have hm : 0 ∈ rk := (hr.mem 0).2 ⟨by decide, rfl⟩
  obtain ⟨a, b, hab⟩ := List.append_of_mem hm
  have ha : a = [] := by
    cases a with
    | nil => rfl
    | cons x r =>
      have hx : x ∈ rk := by rw [hab]; simp
      have h0 : x < 1 := ((hr.mem x).1 hx).1
      have hnd := hr.nodup
      rw [hab] at hnd
      have : x = 0 := by omega
      subst this
      simp at hnd
  subst ha
  have F := hc [] b 0 hab
  have e : pl.getD 0 (-1) = 0 := by
    rcases F with ⟨_, f2⟩ | ⟨f1, _, _, f4⟩
    · exact absurd (fun s _ _ => by show (4 : Int) ≤ baseAt onePt s - ctrs onePt pl [] s; rw [baseAt_one, ctrs_nil]; decide) (f2 0 (by decide) (by decide))
    · have f1' : 0 ≤ pl.getD 0 (-1) := f1
      rcases Int.lt_or_le 0 (pl.getD 0 (-1)) with c | c
      · exact absurd (fun s _ _ => by show (4 : Int) ≤ baseAt onePt s - ctrs onePt pl [] s; rw [baseAt_one, ctrs_nil]; decide) (f4 0 (by decide) c)
      · omega
  match pl, hl, e with
  | [x], _, e => 
    have : x = 0 := e
    rw [this]
theorem come_zero {n er : Int} {q : Pt} (h : TellIs (fun n e q => ComeIs zeroPt 4 9 0 n e q) zeroPt n er q) : n = 0 ∧ er = 0 ∧ q = onePt := by
  rcases h with ⟨h, _⟩ | ⟨_, n0, e0, q0, hR, h⟩
  · exact absurd isPort_zero h
  · have hq : e0 = 0 ∧ n0 = 0 ∧ q0 = onePt := by
      rcases hR with ⟨h1, _⟩ | ⟨_, h2, _⟩ | ⟨_, _, _, h4, h5, h6⟩
      · exact absurd (by decide) h1
      · rcases h2 with h | h
        · exact absurd h (by decide)
        · exact absurd h (by decide)
      · exact ⟨h4, h5, h6⟩
    obtain ⟨rfl, rfl, rfl⟩ := hq
    rcases h with ⟨h, _⟩ | ⟨_, h, _⟩ | ⟨_, _, h1, h2, h3⟩
    · exact absurd rfl h
    · exact absurd isPort_one h
    · exact ⟨h1, h2, h3⟩
theorem wfq_one : WfQ onePt := WfQ.of isPort_one
theorem tell_zero (w : World) : Calls Tryz.prog 66 #[.agg (portCells zeroPt (.slice none 0 0)).toArray, .agg #[.int .i64 1, .int .i64 4, .int .i64 9, .int .i64 0]] w fun e w' => ∃ vs, e = .returned (.tuple #[.agg (portCells onePt vs).toArray, .int .i64 0, .int .i64 0]) ∧ Hid (PtV w' (.agg (portCells onePt vs).toArray) onePt ∧ Below w.heap.size w w') := by
  refine (tell_any _ zeroPt ⟨1, 4, 9, 0⟩ (fun n e q => ComeIs zeroPt 4 9 0 n e q) w (ptv_zero w) (fun s hs => by cases hs) ?_ ?_).mono ?_
  · intro _ n e q h
    rcases h with ⟨_, _, _, rfl⟩ | ⟨_, _, _, _, rfl⟩ | ⟨_, _, _, _, _, rfl⟩
    · exact ⟨fun s hs => (by cases hs), by decide⟩
    · exact ⟨fun s hs => (by cases hs), by decide⟩
    · exact ⟨wfq_one, by decide⟩
  · intro _ g B vs W hq hne
    exact obeyCome_any g B zeroPt vs 4 9 0 W hq hne (by decide) (by decide) (by decide)
  · rintro e w' ⟨q, vs, n, er, rfl, hT, h4, hm, hO, hb⟩
    obtain ⟨rfl, rfl, rfl⟩ := come_zero hT
    exact ⟨vs, rfl, ⟨vs, rfl, slK_ofRow hO, h4, hm⟩, hb⟩
end Go.Proofs.YtcmdoeledmkfmacGreatDoor
set_option linter.unusedSimpArgs false
set_option linter.unusedVariables false
namespace Go.Proofs.YtcmdoeledmkfmacGreatDoor
open Go.ChangeShapes Go.WideShapes Go.ChangeAt Go.RowKit Go.Deep
theorem own : ownKnob Tryz.prog.godebug = none := by kernel_rfl
theorem laidOut : laidOutB Tryz.prog = true := by kernel_rfl
theorem bytesStep : Tryz.prog.bytesOf 194 = 16 := by kernel_rfl
theorem open_steps {H : Type} {enc : TypeId × Value → H} {W : World} {a0 : Option Addr} {len0 cap0 : Nat} {d : DataW H} {ps : List MemPlace} (h : DataW.Trod enc Tryz.prog W 0 (fun _ => true) true 133 (.slice a0 len0 cap0) d ps)
    (hsz : ∀ elems spare, d = .slice elems spare → (elems.length + spare.length) * Tryz.prog.bytesOf 194 ≤ reachBytes) : ∃ l, Sl W (.slice a0 len0 cap0) l := by
  obtain ⟨fuel, hf⟩ := h
  rcases open_slice_pairs Tryz.underlying133 Tryz.underlying194 (by kernel_rfl) rfl rfl (by kernel_rfl) (by kernel_rfl) hf with ⟨hcs, _⟩ | ⟨a, len, cap, m, n, V0, V1, D0, D1, P0, P1, hcs, _, hl, hm, hmm, hx, hc⟩
  · simp [Value.cells] at hcs
    obtain ⟨rfl, rfl, rfl⟩ := hcs
    exact ⟨[], by simp, none, 0, rfl, Or.inl rfl⟩
  · simp [Value.cells] at hcs
    obtain ⟨rfl, rfl, rfl⟩ := hcs
    have hs := hsz _ _ (Prod.mk.inj hx).1
    rw [bytesStep] at hs
    simp at hs
    have hr : reachBytes = 140737488351232 := rfl
    rw [hr] at hs
    simp at hmm
    subst hmm
    refine ⟨(List.range len0).map fun i => (intOf (V0 i), intOf (V1 i)), by simp; omega, some a, m, by simp, ?_⟩
    by_cases h0 : len0 = 0
    · subst h0; exact Or.inl rfl
    · right
      obtain ⟨b, off, spot⟩ := a
      have hspot : spot = none := by simpa [Addr.add] using World.cell?_spot (hc 0 (by omega)).1
      subst hspot
      refine ⟨b, off, rfl, fun j hj => ?_⟩
      simp at hj
      obtain ⟨c0, c1, t0, t1⟩ := hc j (by omega)
      obtain ⟨x0, e0, _⟩ := DataW.trod_int Tryz.underlying3 t0
      obtain ⟨x1, e1, _⟩ := DataW.trod_int Tryz.underlying3 t1
      have e0' : V0 j = .int .i64 x0 := by simpa using e0
      have e1' : V1 j = .int .i64 x1 := by simpa using e1
      rw [Addr.add_lit] at c0 c1
      have es : sAt ((List.range len0).map fun i => (intOf (V0 i), intOf (V1 i))) j = (x0, x1) := by
        rw [sAt_get (by simpa using hj)]
        simp [e0', e1', intOf]
      rw [es, c0, Nat.add_assoc, c1, e0', e1']
      exact ⟨rfl, rfl⟩
end Go.Proofs.YtcmdoeledmkfmacGreatDoor
set_option linter.unusedSimpArgs false
set_option linter.unusedVariables false
set_option maxRecDepth 100000
namespace Go.Proofs.YtcmdoeledmkfmacGreatDoor
open Go.ChangeShapes Go.WideShapes Go.ChangeAt Go.RowKit Go.Deep
instance : Inhabited Ship := ⟨⟨0, 0, 0, 0, 0, 0⟩⟩
theorem cellsShip : Tryz.prog.cellsOf 46 = 6 := by kernel_rfl
theorem cellsKp : Tryz.prog.cellsOf 38 = 3 := by kernel_rfl
theorem cellsInt : Tryz.prog.cellsOf 3 = 1 := by kernel_rfl
theorem cellsPort : Tryz.prog.cellsOf 41 = 16 := by kernel_rfl
theorem cellsKps : Tryz.prog.cellsOf 39 = 12 := by kernel_rfl
theorem cellsShips : Tryz.prog.cellsOf 36 = 1 := by kernel_rfl
theorem cellsOrder : Tryz.prog.cellsOf 61 = 4 := by kernel_rfl
def WfS (s : Ship) : Prop := Wf s.st ∧ Wf s.wd ∧ Wf s.lg ∧ Wf s.cl ∧ Wf s.si ∧ Wf s.qu
def WfK (k : Kp) : Prop := Wf k.wd ∧ Wf k.fr ∧ Wf k.to
section
variable {H : Type} {enc : TypeId × Value → H} {W : World}
theorem open_num {n : Nat} {v : Value} {y : DataW H × List MemPlace} (h : DataW.trod enc Tryz.prog W 0 (fun _ => true) true n 3 [v] = some y) : ∃ x, v = .int .i64 x ∧ Wf x := by
  obtain ⟨x, e, _, hw⟩ := DataW.trod_int Tryz.underlying3 h
  exact ⟨x, by simpa using e, hw⟩
theorem open_shipCells {n : Nat} {cs : List Value} {y : DataW H × List MemPlace} (h : DataW.trod enc Tryz.prog W 0 (fun _ => true) true n 46 cs = some y) : ∃ s, cs = cShip s ∧ WfS s := by
  obtain ⟨xs, m, _, _, hl, hxl, hf⟩ := DataW.trod_struct Tryz.underlying46 h
  rw [cellsShip] at hl
  have hxl2 : xs.length = 6 := hxl
  clear hxl
  match xs, hxl2, cs, hl with
  | [y0, y1, y2, y3, y4, y5], _, [c0, c1, c2, c3, c4, c5], _ =>
    have g0 := hf 0 _ rfl
    have g1 := hf 1 _ rfl
    have g2 := hf 2 _ rfl
    have g3 := hf 3 _ rfl
    have g4 := hf 4 _ rfl
    have g5 := hf 5 _ rfl
    simp [cellsInt] at g0 g1 g2 g3 g4 g5
    obtain ⟨x0, rfl, w0⟩ := open_num g0
    obtain ⟨x1, rfl, w1⟩ := open_num g1
    obtain ⟨x2, rfl, w2⟩ := open_num g2
    obtain ⟨x3, rfl, w3⟩ := open_num g3
    obtain ⟨x4, rfl, w4⟩ := open_num g4
    obtain ⟨x5, rfl, w5⟩ := open_num g5
    exact ⟨⟨x0, x1, x2, x3, x4, x5⟩, rfl, w0, w1, w2, w3, w4, w5⟩
theorem open_kpCells {n : Nat} {cs : List Value} {y : DataW H × List MemPlace} (h : DataW.trod enc Tryz.prog W 0 (fun _ => true) true n 38 cs = some y) : ∃ s, cs = cKp s ∧ WfK s := by
  obtain ⟨xs, m, _, _, hl, hxl, hf⟩ := DataW.trod_struct Tryz.underlying38 h
  rw [cellsKp] at hl
  have hxl2 : xs.length = 3 := hxl
  clear hxl
  match xs, hxl2, cs, hl with
  | [y0, y1, y2], _, [c0, c1, c2], _ =>
    have g0 := hf 0 _ rfl
    have g1 := hf 1 _ rfl
    have g2 := hf 2 _ rfl
    simp [cellsInt] at g0 g1 g2
    obtain ⟨x0, rfl, w0⟩ := open_num g0
    obtain ⟨x1, rfl, w1⟩ := open_num g1
    obtain ⟨x2, rfl, w2⟩ := open_num g2
    exact ⟨⟨x0, x1, x2⟩, rfl, w0, w1, w2⟩
theorem open_kpsCells {n : Nat} {cs : List Value} {y : DataW H × List MemPlace} (h : DataW.trod enc Tryz.prog W 0 (fun _ => true) true n 39 cs = some y) : ∃ l, cs = cellsK cKp l ∧ l.length = 4 ∧ ∀ k ∈ l, WfK k := by
  obtain ⟨xs, m, _, _, hl, hxl, hf⟩ := DataW.trod_array Tryz.underlying39 h
  rw [cellsKps] at hl
  have hxl2 : xs.length = 4 := hxl
  clear hxl
  match xs, hxl2, cs, hl with
  | [y0, y1, y2, y3], _, [a0, a1, a2, b0, b1, b2, c0, c1, c2, d0, d1, d2], _ =>
    have g0 := hf 0 (by omega)
    have g1 := hf 1 (by omega)
    have g2 := hf 2 (by omega)
    have g3 := hf 3 (by omega)
    simp [cellsKp] at g0 g1 g2 g3
    obtain ⟨x0, e0, w0⟩ := open_kpCells g0
    obtain ⟨x1, e1, w1⟩ := open_kpCells g1
    obtain ⟨x2, e2, w2⟩ := open_kpCells g2
    obtain ⟨x3, e3, w3⟩ := open_kpCells g3
    refine ⟨[x0, x1, x2, x3], ?_, rfl, ?_⟩
    · show _ = cKp x0 ++ (cKp x1 ++ (cKp x2 ++ (cKp x3 ++ [])))
      rw [← e0, ← e1, ← e2, ← e3]; rfl
    · intro k hk
      simp at hk
      rcases hk with rfl | rfl | rfl | rfl <;> assumption
theorem open_ships {n : Nat} {cs : List Value} {y : DataW H × List MemPlace} (h : DataW.trod enc Tryz.prog W 0 (fun _ => true) true n 36 cs = some y) :
    ∃ l vs, cs = [vs] ∧ SlK cShip W vs l ∧ (∀ s ∈ l, WfS s) ∧ (l = [] ∨ ∃ el sp, y.1 = .slice el sp ∧ l.length = el.length) :=
  open_sliceK encShip (by omega) Tryz.underlying36 cellsShip WfS (fun _ _ _ h => open_shipCells h) h
theorem open_numsCells {n : Nat} {cs : List Value} {y : DataW H × List MemPlace} (h : DataW.trod enc Tryz.prog W 0 (fun _ => true) true n 43 cs = some y) :
    ∃ l vs, cs = [vs] ∧ SlK cInt W vs l ∧ (∀ s ∈ l, Wf s) ∧ (l = [] ∨ ∃ el sp, y.1 = .slice el sp ∧ l.length = el.length) :=
  open_sliceK encInt (by omega) Tryz.underlying43 cellsInt Wf (fun _ cs _ h => by
    obtain ⟨x, e, _, hw⟩ := DataW.trod_int Tryz.underlying3 h
    exact ⟨x, e, hw⟩) h
def WfP (p : Pt) : Prop := Wf p.now ∧ Wf p.shut ∧ Wf p.next ∧ (∀ s ∈ p.ships, WfS s) ∧ ∀ k ∈ p.kept, WfK k
theorem WfP.q {p : Pt} (h : WfP p) : WfQ p := fun s hs => (h.2.2.2.1 s hs).2.2.2.2.2
theorem bytesShip : Tryz.prog.bytesOf 46 = 48 := by kernel_rfl
theorem open_port {v : Value} {d : DataW H} {ps : List MemPlace} (hok : Value.okWide Tryz.prog W .any 0 41 v ∨ ∃ base, Value.okWide Tryz.prog W .any base 41 v) (h : DataW.Trod enc Tryz.prog W 0 (fun _ => true) true 41 v d ps)
    (hsz : (d.weights Tryz.prog 41).all (· ≤ reachBytes) = true) : ∃ p, PtV W v p ∧ WfP p := by
  obtain ⟨cs, rfl⟩ : ∃ cs, v = .agg cs := by
    rcases hok with h | ⟨_, h⟩ <;> (obtain ⟨cs, e, _⟩ := okWide_struct Tryz.underlying41 h; exact ⟨cs, e⟩)
  obtain ⟨fuel, hf0⟩ := h
  have hf1 : DataW.trod enc Tryz.prog W 0 (fun _ => true) true fuel 41 cs.toList = some (d, ps) := hf0
  obtain ⟨xs, m, _, hx, hl, hxl, hf⟩ := DataW.trod_struct Tryz.underlying41 hf1
  rw [cellsPort] at hl
  have hxl2 : xs.length = 5 := hxl
  clear hxl
  obtain ⟨L⟩ := cs
  simp only at hl hf
  match xs, hxl2, L, hl with
  | [y0, y1, y2, y3, y4], _, [n0, v1, a0, a1, a2, b0, b1, b2, c0, c1, c2, d0, d1, d2, n14, n15], _ =>
    have g0 := hf 0 _ rfl
    have g1 := hf 1 _ rfl
    have g2 := hf 2 _ rfl
    have g3 := hf 3 _ rfl
    have g4 := hf 4 _ rfl
    simp [cellsInt, cellsShips, cellsKps] at g0 g1 g2 g3 g4
    obtain ⟨x0, rfl, w0⟩ := open_num g0
    obtain ⟨l, vs, e1, s1, w1, z1⟩ := open_ships g1
    obtain ⟨kp, e2, l2, w2⟩ := open_kpsCells g2
    obtain ⟨x3, rfl, w3⟩ := open_num g3
    obtain ⟨x4, rfl, w4⟩ := open_num g4
    have hv1 : v1 = vs := by simpa using e1
    subst hv1
    have hd : d = .agg [y0.1, y1.1, y2.1, y3.1, y4.1] := by have := (Prod.mk.inj hx).1; simpa using this
    subst hd
    have hmax : l.length ≤ 2932031007317 := by
      rcases z1 with rfl | ⟨el, sp, hy, hle⟩
      · simp
      · have h1 := List.all_eq_true.1 hsz ((el.length + sp.length) * Tryz.prog.bytesOf 46) (by
          rw [hy]
          simp [DataW.weights, Tryz.underlying41, DataW.weightsEach, Tryz.underlying36])
        rw [bytesShip] at h1
        have hr : reachBytes = 140737488351232 := rfl
        rw [hr] at h1
        simp at h1
        omega
    refine ⟨⟨x0, l, kp, x3, x4⟩, ⟨v1, ?_, s1, l2, hmax⟩, w0, w3, w4, w1, w2⟩
    unfold portCells
    rw [← e2]
    rfl
end
end Go.Proofs.YtcmdoeledmkfmacGreatDoor
set_option linter.unusedSimpArgs false
set_option linter.unusedVariables false
set_option maxRecDepth 100000
namespace Go.Proofs.YtcmdoeledmkfmacGreatDoor
open Go.ChangeShapes Go.WideShapes Go.ChangeAt Go.RowKit Go.Deep
def WfO (o : Ord) : Prop := Wf o.kd ∧ Wf o.a ∧ Wf o.b ∧ Wf o.c
section
variable {H : Type} {enc : TypeId × Value → H} {W : World}
theorem open_order {base : Nat} {v : Value} {d : DataW H} {ps : List MemPlace} (hok : Value.okWide Tryz.prog W .any base 61 v) (h : DataW.Trod enc Tryz.prog W 0 (fun _ => true) true 61 v d ps) : ∃ o : Ord, v = .agg #[.int .i64 o.kd, .int .i64 o.a, .int .i64 o.b, .int .i64 o.c] ∧ WfO o := by
  obtain ⟨cs, rfl, _⟩ := okWide_struct Tryz.underlying61 hok
  obtain ⟨fuel, hf0⟩ := h
  have hf1 : DataW.trod enc Tryz.prog W 0 (fun _ => true) true fuel 61 cs.toList = some (d, ps) := hf0
  obtain ⟨xs, m, _, hx, hl, hxl, hf⟩ := DataW.trod_struct Tryz.underlying61 hf1
  rw [cellsOrder] at hl
  have hxl2 : xs.length = 4 := hxl
  clear hxl
  obtain ⟨L⟩ := cs
  simp only at hl hf
  match xs, hxl2, L, hl with
  | [y0, y1, y2, y3], _, [c0, c1, c2, c3], _ =>
    have g0 := hf 0 _ rfl
    have g1 := hf 1 _ rfl
    have g2 := hf 2 _ rfl
    have g3 := hf 3 _ rfl
    simp [cellsInt] at g0 g1 g2 g3
    obtain ⟨x0, rfl, w0⟩ := open_num g0
    obtain ⟨x1, rfl, w1⟩ := open_num g1
    obtain ⟨x2, rfl, w2⟩ := open_num g2
    obtain ⟨x3, rfl, w3⟩ := open_num g3
    exact ⟨⟨x0, x1, x2, x3⟩, rfl, w0, w1, w2, w3⟩
theorem open_ship {base : Nat} {v : Value} {d : DataW H} {ps : List MemPlace} (hok : Value.okWide Tryz.prog W .any base 46 v) (h : DataW.Trod enc Tryz.prog W 0 (fun _ => true) true 46 v d ps) : ∃ s : Ship, v = .agg (cShip s).toArray ∧ WfS s := by
  obtain ⟨cs, rfl, _⟩ := okWide_struct Tryz.underlying46 hok
  obtain ⟨fuel, hf0⟩ := h
  have hf1 : DataW.trod enc Tryz.prog W 0 (fun _ => true) true fuel 46 cs.toList = some (d, ps) := hf0
  obtain ⟨s, e, hw⟩ := open_shipCells hf1
  exact ⟨s, by rw [← e], hw⟩
theorem bytesInt : Tryz.prog.bytesOf 3 = 8 := by kernel_rfl
theorem open_nums {base : Nat} {v : Value} {d : DataW H} {ps : List MemPlace} (hok : Value.okWide Tryz.prog W .any base 43 v) (h : DataW.Trod enc Tryz.prog W 0 (fun _ => true) true 43 v d ps)
    (hsz : (d.weights Tryz.prog 43).all (· ≤ reachBytes) = true) : ∃ l, SlK cInt W v l ∧ (∀ x ∈ l, Wf x) ∧ l.length ≤ 17592186044416 := by
  obtain ⟨a0, len0, cap0, rfl⟩ := okWide_slice Tryz.underlying43 hok
  obtain ⟨fuel, hf0⟩ := h
  have hf1 : DataW.trod enc Tryz.prog W 0 (fun _ => true) true fuel 43 [.slice a0 len0 cap0] = some (d, ps) := hf0
  obtain ⟨l, vs, e, hs, hw, hz⟩ := open_numsCells hf1
  obtain rfl : Value.slice a0 len0 cap0 = vs := by simpa using e
  refine ⟨l, hs, hw, ?_⟩
  rcases hz with rfl | ⟨el, sp, hy, hle⟩
  · simp
  · simp only at hy
    have h1 := List.all_eq_true.1 hsz ((el.length + sp.length) * Tryz.prog.bytesOf 3) (by
      rw [hy]
      simp [DataW.weights, Tryz.underlying43])
    rw [bytesInt] at h1
    have hr : reachBytes = 140737488351232 := rfl
    rw [hr] at h1
    simp at h1
    omega
end
end Go.Proofs.YtcmdoeledmkfmacGreatDoor
