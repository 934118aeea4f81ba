/- Ports, ships, orders and lists of numbers that came in, as plain data; they take no more bytes than the form itself lets them. -/
import Derived.Test.YtghhegajbehpeaaOpen
import Derived.Test.YtghhegajbehpeaaPShips
import Derived.OpenShut
set_option linter.unusedSimpArgs false
set_option linter.unusedVariables false
set_option maxRecDepth 100000
namespace Go.Proofs.Ytghhegajbehpeaa
open Go.ChangeShapes Go.WideShapes Go.ChangeAt Go.RowKit Go.Deep

/-- a row is there if each of its elements is -/
theorem rdK_of {α : Type} {k : Nat} {c : α → List Value} (E : EncOk k c) (hk : 0 < k) {w : World} {b off : Nat} {l : List α}
    (h : ∀ i x, l[i]? = some x → ∀ j u, (c x)[j]? = some u → w.cell? ⟨b, off + (i * k + j), none⟩ = some u) : RdK c w b off l := by
  intro j u hu
  have hj := (List.getElem?_eq_some_iff.1 hu).1
  rw [cellsK_length E] at hj
  have hd : j / k < l.length := Nat.div_lt_of_lt_mul (by rw [Nat.mul_comm]; exact hj)
  have he : j / k * k + j % k = j := by rw [Nat.mul_comm]; exact Nat.div_add_mod j k
  have hx := List.getElem?_eq_getElem hd
  have hg := cellsK_get E l (j / k) _ hx (j % k) (Nat.mod_lt _ hk)
  rw [he] at hg
  have := h (j / k) _ hx (j % k) u (hg.symm.trans hu)
  rw [he] at this
  exact this

/-- a slice of elements of k cells each that came in -/
theorem open_sliceK {H : Type} {enc : TypeId × Value → H} {W : World} {α : Type} [Inhabited α] {k : Nat} {c : α → List Value} (E : EncOk k c) (hk : 0 < k) {t e : TypeId} (ht : Try.prog.underlying t = some (.slice e)) (hc : Try.prog.cellsOf e = k) (G : α → Prop)
    (helem : ∀ (n : Nat) (cs : List Value) (y : DataW H × List MemPlace), DataW.trod enc Try.prog W 0 (fun _ => true) true n e cs = some y → ∃ x, cs = c x ∧ G x) {fuel : Nat} {cs : List Value} {x : DataW H × List MemPlace} (h : DataW.trod enc Try.prog W 0 (fun _ => true) true fuel t cs = some x) :
    ∃ l vs, cs = [vs] ∧ SlK c W vs l ∧ (∀ y ∈ l, G y) ∧ (l = [] ∨ ∃ el sp, x.1 = .slice el sp ∧ l.length = el.length) := by
  rcases open_slice ht h with ⟨rfl, _⟩ | ⟨a, len, cap, m, n, D, Pl, rfl, _, hl, _, hmm, rfl, hx⟩
  · exact ⟨[], _, rfl, SlK.nil W, (fun y hy => by cases hy), Or.inl rfl⟩
  · simp at hmm
    subst hmm
    have each : ∀ i, i < len → ∃ y : α, (∀ j u, (c y)[j]? = some u → W.cell? (a.add (i * k + j)) = some u) ∧ G y := fun i hi => by
      obtain ⟨cs', h1, h2⟩ := hx i (by omega)
      obtain ⟨y, rfl, hG⟩ := helem n cs' _ h2
      rw [hc] at h1
      obtain ⟨_, hlen, hcell⟩ := World.cells?_some h1
      refine ⟨y, fun j u hu => ?_, hG⟩
      have hj := (List.getElem?_eq_some_iff.1 hu).1
      have := hcell j (by omega)
      rw [add_add] at this
      rw [this, hu]
    obtain ⟨q, hq⟩ := choose_lt each
    refine ⟨(List.range len).map q, _, rfl, ⟨some a, m, by simp, by simpa using hl, ?_⟩, ?_, Or.inr ⟨_, _, rfl, by simp⟩⟩
    · by_cases h0 : len = 0
      · subst h0; exact Or.inl rfl
      · right
        obtain ⟨b, off, spot⟩ := a
        have hspot : spot = none := by
          have h1 := E.len (q 0)
          have h2 := (hq 0 (by omega)).1 0 ((c (q 0))[0]'(by omega)) (List.getElem?_eq_getElem (by omega))
          simpa [Addr.add] using World.cell?_spot h2
        subst hspot
        refine ⟨b, off, rfl, rdK_of E hk fun i y hy j u hu => ?_⟩
        have hi : i < len := by have := (List.getElem?_eq_some_iff.1 hy).1; simpa using this
        rw [List.getElem?_map, List.getElem?_range hi] at hy
        have hy' : q i = y := by simpa using hy
        subst hy'
        have := (hq i hi).1 j u hu
        rwa [Addr.add_lit] at this
    · intro y hy
      obtain ⟨i, hi, rfl⟩ := List.mem_map.1 hy
      exact (hq i (List.mem_range.1 hi)).2

instance : Inhabited Ship := ⟨⟨0, 0, 0, 0, 0, 0⟩⟩

theorem cellsShip : Try.prog.cellsOf 48 = 6 := by kernel_rfl
theorem cellsKp : Try.prog.cellsOf 43 = 3 := by kernel_rfl
theorem cellsInt : Try.prog.cellsOf 3 = 1 := by kernel_rfl
theorem cellsPort : Try.prog.cellsOf 46 = 16 := by kernel_rfl
theorem cellsKps : Try.prog.cellsOf 44 = 12 := by kernel_rfl
theorem cellsShips : Try.prog.cellsOf 41 = 1 := by kernel_rfl
theorem cellsOrder : Try.prog.cellsOf 61 = 4 := by kernel_rfl

/-- all six are numbers of 64 bits -/
def WfS (s : Ship) : Prop := Wf s.st ∧ Wf s.wd ∧ Wf s.lg ∧ Wf s.cl ∧ Wf s.si ∧ Wf s.qu
def WfK (k : Kp) : Prop := Wf k.wd ∧ Wf k.fr ∧ Wf k.to

section
variable {H : Type} {enc : TypeId × Value → H} {W : World}

theorem open_num {n : Nat} {v : Value} {y : DataW H × List MemPlace} (h : DataW.trod enc Try.prog W 0 (fun _ => true) true n 3 [v] = some y) : ∃ x, v = .int .i64 x ∧ Wf x := by
  obtain ⟨x, e, _, hw⟩ := DataW.trod_int Try.underlying3 h
  exact ⟨x, by simpa using e, hw⟩

theorem open_shipCells {n : Nat} {cs : List Value} {y : DataW H × List MemPlace} (h : DataW.trod enc Try.prog W 0 (fun _ => true) true n 48 cs = some y) : ∃ s, cs = cShip s ∧ WfS s := by
  obtain ⟨xs, m, _, _, hl, hxl, hf⟩ := DataW.trod_struct Try.underlying48 h
  rw [cellsShip] at hl
  have hxl2 : xs.length = 6 := hxl
  clear hxl
  match xs, hxl2, cs, hl with
  | [y0, y1, y2, y3, y4, y5], _, [c0, c1, c2, c3, c4, c5], _ =>
    have g0 := hf 0 _ rfl
    have g1 := hf 1 _ rfl
    have g2 := hf 2 _ rfl
    have g3 := hf 3 _ rfl
    have g4 := hf 4 _ rfl
    have g5 := hf 5 _ rfl
    simp [cellsInt] at g0 g1 g2 g3 g4 g5
    obtain ⟨x0, rfl, w0⟩ := open_num g0
    obtain ⟨x1, rfl, w1⟩ := open_num g1
    obtain ⟨x2, rfl, w2⟩ := open_num g2
    obtain ⟨x3, rfl, w3⟩ := open_num g3
    obtain ⟨x4, rfl, w4⟩ := open_num g4
    obtain ⟨x5, rfl, w5⟩ := open_num g5
    exact ⟨⟨x0, x1, x2, x3, x4, x5⟩, rfl, w0, w1, w2, w3, w4, w5⟩

theorem open_kpCells {n : Nat} {cs : List Value} {y : DataW H × List MemPlace} (h : DataW.trod enc Try.prog W 0 (fun _ => true) true n 43 cs = some y) : ∃ s, cs = cKp s ∧ WfK s := by
  obtain ⟨xs, m, _, _, hl, hxl, hf⟩ := DataW.trod_struct Try.underlying43 h
  rw [cellsKp] at hl
  have hxl2 : xs.length = 3 := hxl
  clear hxl
  match xs, hxl2, cs, hl with
  | [y0, y1, y2], _, [c0, c1, c2], _ =>
    have g0 := hf 0 _ rfl
    have g1 := hf 1 _ rfl
    have g2 := hf 2 _ rfl
    simp [cellsInt] at g0 g1 g2
    obtain ⟨x0, rfl, w0⟩ := open_num g0
    obtain ⟨x1, rfl, w1⟩ := open_num g1
    obtain ⟨x2, rfl, w2⟩ := open_num g2
    exact ⟨⟨x0, x1, x2⟩, rfl, w0, w1, w2⟩

theorem open_kpsCells {n : Nat} {cs : List Value} {y : DataW H × List MemPlace} (h : DataW.trod enc Try.prog W 0 (fun _ => true) true n 44 cs = some y) : ∃ l, cs = cellsK cKp l ∧ l.length = 4 ∧ ∀ k ∈ l, WfK k := by
  obtain ⟨xs, m, _, _, hl, hxl, hf⟩ := DataW.trod_array Try.underlying44 h
  rw [cellsKps] at hl
  have hxl2 : xs.length = 4 := hxl
  clear hxl
  match xs, hxl2, cs, hl with
  | [y0, y1, y2, y3], _, [a0, a1, a2, b0, b1, b2, c0, c1, c2, d0, d1, d2], _ =>
    have g0 := hf 0 (by omega)
    have g1 := hf 1 (by omega)
    have g2 := hf 2 (by omega)
    have g3 := hf 3 (by omega)
    simp [cellsKp] at g0 g1 g2 g3
    obtain ⟨x0, e0, w0⟩ := open_kpCells g0
    obtain ⟨x1, e1, w1⟩ := open_kpCells g1
    obtain ⟨x2, e2, w2⟩ := open_kpCells g2
    obtain ⟨x3, e3, w3⟩ := open_kpCells g3
    refine ⟨[x0, x1, x2, x3], ?_, rfl, ?_⟩
    · show _ = cKp x0 ++ (cKp x1 ++ (cKp x2 ++ (cKp x3 ++ [])))
      rw [← e0, ← e1, ← e2, ← e3]; rfl
    · intro k hk
      simp at hk
      rcases hk with rfl | rfl | rfl | rfl <;> assumption

theorem open_ships {n : Nat} {cs : List Value} {y : DataW H × List MemPlace} (h : DataW.trod enc Try.prog W 0 (fun _ => true) true n 41 cs = some y) :
    ∃ l vs, cs = [vs] ∧ SlK cShip W vs l ∧ (∀ s ∈ l, WfS s) ∧ (l = [] ∨ ∃ el sp, y.1 = .slice el sp ∧ l.length = el.length) :=
  open_sliceK encShip (by omega) Try.underlying41 cellsShip WfS (fun _ _ _ h => open_shipCells h) h

theorem open_numsCells {n : Nat} {cs : List Value} {y : DataW H × List MemPlace} (h : DataW.trod enc Try.prog W 0 (fun _ => true) true n 57 cs = some y) :
    ∃ l vs, cs = [vs] ∧ SlK cInt W vs l ∧ (∀ s ∈ l, Wf s) ∧ (l = [] ∨ ∃ el sp, y.1 = .slice el sp ∧ l.length = el.length) :=
  open_sliceK encInt (by omega) Try.underlying57 cellsInt Wf (fun _ cs _ h => by
    obtain ⟨x, e, _, hw⟩ := DataW.trod_int Try.underlying3 h
    exact ⟨x, e, hw⟩) h

/-- all numbers of a port are of 64 bits -/
def WfP (p : Pt) : Prop := Wf p.now ∧ Wf p.shut ∧ Wf p.next ∧ (∀ s ∈ p.ships, WfS s) ∧ ∀ k ∈ p.kept, WfK k
theorem WfP.q {p : Pt} (h : WfP p) : WfQ p := fun s hs => (h.2.2.2.1 s hs).2.2.2.2.2

theorem bytesShip : Try.prog.bytesOf 48 = 48 := by kernel_rfl

/-- a port that came in -/
theorem open_port {v : Value} {d : DataW H} {ps : List MemPlace} (hok : Value.okWide Try.prog W .any 0 46 v ∨ ∃ base, Value.okWide Try.prog W .any base 46 v) (h : DataW.Trod enc Try.prog W 0 (fun _ => true) true 46 v d ps)
    (hsz : (d.weights Try.prog 46).all (· ≤ reachBytes) = true) : ∃ p, PtV W v p ∧ WfP p := by
  obtain ⟨cs, rfl⟩ : ∃ cs, v = .agg cs := by
    rcases hok with h | ⟨_, h⟩ <;> (obtain ⟨cs, e, _⟩ := okWide_struct Try.underlying46 h; exact ⟨cs, e⟩)
  obtain ⟨fuel, hf0⟩ := h
  have hf1 : DataW.trod enc Try.prog W 0 (fun _ => true) true fuel 46 cs.toList = some (d, ps) := hf0
  obtain ⟨xs, m, _, hx, hl, hxl, hf⟩ := DataW.trod_struct Try.underlying46 hf1
  rw [cellsPort] at hl
  have hxl2 : xs.length = 5 := hxl
  clear hxl
  obtain ⟨L⟩ := cs
  simp only at hl hf
  match xs, hxl2, L, hl with
  | [y0, y1, y2, y3, y4], _, [n0, v1, a0, a1, a2, b0, b1, b2, c0, c1, c2, d0, d1, d2, n14, n15], _ =>
    have g0 := hf 0 _ rfl
    have g1 := hf 1 _ rfl
    have g2 := hf 2 _ rfl
    have g3 := hf 3 _ rfl
    have g4 := hf 4 _ rfl
    simp [cellsInt, cellsShips, cellsKps] at g0 g1 g2 g3 g4
    obtain ⟨x0, rfl, w0⟩ := open_num g0
    obtain ⟨l, vs, e1, s1, w1, z1⟩ := open_ships g1
    obtain ⟨kp, e2, l2, w2⟩ := open_kpsCells g2
    obtain ⟨x3, rfl, w3⟩ := open_num g3
    obtain ⟨x4, rfl, w4⟩ := open_num g4
    have hv1 : v1 = vs := by simpa using e1
    subst hv1
    have hd : d = .agg [y0.1, y1.1, y2.1, y3.1, y4.1] := by have := (Prod.mk.inj hx).1; simpa using this
    subst hd
    have hmax : l.length ≤ 2932031007317 := by
      rcases z1 with rfl | ⟨el, sp, hy, hle⟩
      · simp
      · have h1 := List.all_eq_true.1 hsz ((el.length + sp.length) * Try.prog.bytesOf 48) (by
          rw [hy]
          simp [DataW.weights, Try.underlying46, DataW.weightsEach, Try.underlying41])
        rw [bytesShip] at h1
        have hr : reachBytes = 140737488351232 := rfl
        rw [hr] at h1
        simp at h1
        omega
    refine ⟨⟨x0, l, kp, x3, x4⟩, ⟨v1, ?_, s1, l2, hmax⟩, w0, w3, w4, w1, w2⟩
    unfold portCells
    rw [← e2]
    rfl
end

end Go.Proofs.Ytghhegajbehpeaa
