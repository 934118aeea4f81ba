/- Texts of this claim, in one: RefShip RefBase RefPort RefSame. -/
import Derived.Deep.DeepCutAuto
import Derived.ChangeKeysEq
import Derived.Test.YtcmdoeledmkfmacGreatDoorQ3
import Derived.Test.YtcmdoeledmkfmacGreatDoorQA
set_option linter.unusedSimpArgs false
set_option linter.unusedVariables false
namespace Go.Proofs.YtcmdoeledmkfmacGreatDoor
open Go.RowKit
end Go.Proofs.YtcmdoeledmkfmacGreatDoor
set_option linter.unusedSimpArgs false
set_option linter.unusedVariables false
namespace Go.Proofs.YtcmdoeledmkfmacGreatDoor
open Go.RowKit
theorem kept_extract (l : List Kp) (j : Nat) (k : Kp) (hj : l[j]? = some k) : (cellsK cKp l).toArray.extract (j * 3) (j * 3 + 3) = #[.int .i64 k.wd, .int .i64 k.fr, .int .i64 k.to] := by
  have hl := (List.getElem?_eq_some_iff.1 hj).1
  have hk : l[j] = k := (List.getElem?_eq_some_iff.1 hj).2
  have e : ((cellsK cKp l).drop (j * 3)).take 3 = cKp k := by
    rw [cellsK_drop encKp, List.drop_eq_getElem_cons hl, hk]
    simp [cellsK, cKp]
  apply Array.ext'
  rw [List.extract_toArray]
  simp only [List.extract_eq_take_drop]
  rw [show j * 3 + 3 - j * 3 = 3 by omega, e]
  rfl
end Go.Proofs.YtcmdoeledmkfmacGreatDoor
set_option linter.unusedSimpArgs false
set_option linter.unusedVariables false
namespace Go.Proofs.YtcmdoeledmkfmacGreatDoor
open Go.RowKit
def ShipsTo (p : Pt) (k : Nat) : Prop :=
  (0 ≤ p.now ∧ p.now ≤ 299) ∧ (0 ≤ p.shut ∧ p.shut ≤ 16) ∧ p.ships.length < 15 ∧ (0 ≤ p.next ∧ p.next ≤ 1048576) ∧
  (∀ i s, i < k → p.ships[i]? = some s → IsShip s p.now ∧ s.qu < p.next) ∧ ∀ (i j : Nat) (r s : Ship), i < j → j < k → p.ships[i]? = some r → p.ships[j]? = some s → r.qu ≠ s.qu
theorem ShipsTo.succ {p : Pt} {k : Nat} {s : Ship} (hs : p.ships[k]? = some s) : ShipsTo p (k + 1) ↔ ShipsTo p k ∧ (IsShip s p.now ∧ s.qu < p.next) ∧ ∀ (i : Nat) (r : Ship), i < k → p.ships[i]? = some r → r.qu ≠ s.qu := by
  unfold ShipsTo
  constructor
  · rintro ⟨a, b, c, d, e, f⟩
    exact ⟨⟨a, b, c, d, fun i s hi => e i s (by omega), fun i j r s hij hj => f i j r s hij (by omega)⟩, e k s (by omega) hs, fun i r hi hr => f i k r s hi (by omega) hr hs⟩
  · rintro ⟨⟨a, b, c, d, e, f⟩, g, h⟩
    refine ⟨a, b, c, d, fun i s' hi hs' => ?_, fun i j r s' hij hj hr hs' => ?_⟩
    · by_cases x : i = k
      · subst x; rw [hs] at hs'; injection hs' with hs'; subst hs'; exact g
      · exact e i s' (by omega) hs'
    · by_cases x : j = k
      · subst x; rw [hs] at hs'; injection hs' with hs'; subst hs'; exact h i r hij hr
      · exact f i j r s' hij (by omega) hr hs'
end Go.Proofs.YtcmdoeledmkfmacGreatDoor
set_option linter.unusedSimpArgs false
set_option linter.unusedVariables false
namespace Go.Proofs.YtcmdoeledmkfmacGreatDoor
open Go.RowKit
def neShip (x y : Ship) : Bool := !(x.st == y.st && x.wd == y.wd && x.lg == y.lg && x.cl == y.cl && x.si == y.si && x.qu == y.qu)
theorem neShip_iff {x y : Ship} : neShip x y = false ↔ x = y := by
  unfold neShip
  obtain ⟨a, b, c, d, e, f⟩ := x
  obtain ⟨a', b', c', d', e', f'⟩ := y
  simp [and_assoc]
set_option maxHeartbeats 1000000 in
theorem neqShip (x y : Ship) (w : World) : (binOp .neq 46 (.agg #[.int .i64 x.st, .int .i64 x.wd, .int .i64 x.lg, .int .i64 x.cl, .int .i64 x.si, .int .i64 x.qu]) (.agg #[.int .i64 y.st, .int .i64 y.wd, .int .i64 y.lg, .int .i64 y.cl, .int .i64 y.si, .int .i64 y.qu])).run Tryz.prog w = .ok (.bool (neShip x y)) w := by
  have u3 := Tryz.underlying3
  have a3 := Tryz.isAgg3
  have z3 := Tryz.sizeOf3
  have hS : Tryz.prog.underlying 46 = some (.struct (Tryz.prog.fieldsOf 46)) := by kernel_rfl
  have hp : Tryz.prog.stoodInHeld 46 = false := by kernel_rfl
  unfold neShip
  rw [run_neq_struct, show (10000 : Nat) = 9999 + 1 from rfl, run_equalIn_agg w 9999 46 _ _ hS hp]
  simp only [Program.fieldsOf, Tryz.underlying46]
  go_simp
  by_cases h1 : x.st = y.st
  · by_cases h2 : x.wd = y.wd
    · by_cases h3 : x.lg = y.lg
      · by_cases h4 : x.cl = y.cl
        · by_cases h5 : x.si = y.si
          · by_cases h6 : x.qu = y.qu <;> simp [h1, h2, h3, h4, h5, h6]
          · simp [h1, h2, h3, h4, h5]
        · simp [h1, h2, h3, h4]
      · simp [h1, h2, h3]
    · simp [h1, h2]
  · simp [h1]
def eqKp (x y : Kp) : Bool := x.wd == y.wd && x.fr == y.fr && x.to == y.to
theorem eqKp_iff {x y : Kp} : eqKp x y = true ↔ x = y := by
  unfold eqKp
  obtain ⟨a, b, c⟩ := x
  obtain ⟨a', b', c'⟩ := y
  simp [and_assoc]
theorem eqInKp (d : Nat) (x y : Kp) (w : World) : (Op.equalIn (d + 2) 38 (.agg #[.int .i64 x.wd, .int .i64 x.fr, .int .i64 x.to]) (.agg #[.int .i64 y.wd, .int .i64 y.fr, .int .i64 y.to])).run Tryz.prog w = .ok (eqKp x y) w := by
  have u3 := Tryz.underlying3
  have a3 := Tryz.isAgg3
  have z3 := Tryz.sizeOf3
  have hS : Tryz.prog.underlying 38 = some (.struct (Tryz.prog.fieldsOf 38)) := by kernel_rfl
  have hp : Tryz.prog.stoodInHeld 38 = false := by kernel_rfl
  unfold eqKp
  rw [run_equalIn_agg w (d + 1) 38 _ _ hS hp]
  simp only [Program.fieldsOf, Tryz.underlying38]
  go_simp
  by_cases h1 : x.wd = y.wd
  · by_cases h2 : x.fr = y.fr
    · by_cases h3 : x.to = y.to <;> simp [h1, h2, h3]
    · simp [h1, h2]
  · simp [h1]
theorem part_kept (l : List Kp) (j : Nat) (k : Kp) (hj : l[j]? = some k) (w : World) : (part 38 (cellsK cKp l).toArray (j * 3)).run Tryz.prog w = .ok (.agg #[.int .i64 k.wd, .int .i64 k.fr, .int .i64 k.to]) w := by
  have u3 := Tryz.isAgg38
  have z3 := Tryz.sizeOf38
  have e := kept_extract l j k hj
  simp only [Sem.run_bind, z3, Result.andThen_ok, part, u3, if_pos, Sem.run_pure, e]
theorem eqItemsKp (l m : List Kp) (w : World) : ∀ is : List Nat, (∀ i ∈ is, i < l.length ∧ i < m.length) → ∃ r, (Op.eqItems 9999 38 3 (cellsK cKp l).toArray (cellsK cKp m).toArray is).run Tryz.prog w = .ok r w ∧ (r = true ↔ ∀ i ∈ is, l[i]? = m[i]?)
  | [], _ => ⟨true, by simp [Op.eqItems], by simp⟩
  | i :: is, h => by
    obtain ⟨r, hr, hi⟩ := eqItemsKp l m w is (fun j hj => h j (List.mem_cons_of_mem _ hj))
    obtain ⟨h1, h2⟩ := h i List.mem_cons_self
    have e1 := List.getElem?_eq_getElem h1
    have e2 := List.getElem?_eq_getElem h2
    have p1 := part_kept l i _ e1 w
    have p2 := part_kept m i _ e2 w
    have p3 := eqInKp 9997 l[i] m[i] w
    simp only [Op.eqItems, Sem.run_bind, p1, p2, p3, Result.andThen_ok]
    by_cases e : l[i] = m[i]
    · refine ⟨r, by simpa [eqKp_iff.2 e] using hr, ?_⟩
      rw [hi]
      simp [e1, e2, e]
    · have : eqKp l[i] m[i] = false := by cases hq : eqKp l[i] m[i]; rfl; exact absurd (eqKp_iff.1 hq) e
      refine ⟨false, by simp [this], ?_⟩
      simp [e1, e2, e]
theorem eqKept4 (l m : List Kp) (h1 : l.length = 4) (h2 : m.length = 4) (w : World) : ∃ r, (Op.equalIn 10000 39 (.agg (cellsK cKp l).toArray) (.agg (cellsK cKp m).toArray)).run Tryz.prog w = .ok r w ∧ (r = true ↔ l = m) := by
  have hc : Tryz.prog.cellsOf 38 = 3 := by kernel_rfl
  obtain ⟨i, hi⟩ : ∃ i, Tryz.prog.info? 38 = some i := by
    have h : (Tryz.prog.info? 38).map (·.size) = some 3 := by kernel_rfl
    cases hq : Tryz.prog.info? 38 with
    | none => rw [hq] at h; cases h
    | some i => exact ⟨i, rfl⟩
  obtain ⟨r, hr, hri⟩ := eqItemsKp l m w (List.range 4) (fun i hi => by rw [List.mem_range] at hi; omega)
  refine ⟨r, ?_, ?_⟩
  · rw [show (10000 : Nat) = 9999 + 1 from rfl, run_equalIn_array w 9999 _ _ Tryz.underlying39 hi, hc, hr]
  · rw [hri]
    constructor
    · intro h
      refine List.ext_getElem? fun i => ?_
      by_cases hi : i < 4
      · exact h i (List.mem_range.2 hi)
      · rw [List.getElem?_eq_none (by omega), List.getElem?_eq_none (by omega)]
    · rintro rfl i _
      rfl
end Go.Proofs.YtcmdoeledmkfmacGreatDoor
