import Derived.Deep.DeepCutAuto
import Derived.ChangeKeysEq
import Derived.Test.YtcmdoeledmkfmabGreatDoorQ3
import Derived.Test.YtcmdoeledmkfmabGreatDoorQA
set_option linter.unusedSimpArgs false
set_option linter.unusedVariables false
namespace Go.Proofs.YtcmdoeledmkfmabGreatDoor
open Go.RowKit
theorem inR_yes {n lo hi : Int} (h : inR n lo hi = true) : lo ≤ n ∧ n ≤ hi := of_decide_eq_true h
theorem inR_no {n lo hi : Int} (h : inR n lo hi = false) : ¬ (lo ≤ n ∧ n ≤ hi) := of_decide_eq_false h
theorem inR_or (n lo hi : Int) : inR n lo hi = true ∨ inR n lo hi = false := by cases inR n lo hi <;> simp
end Go.Proofs.YtcmdoeledmkfmabGreatDoor
set_option linter.unusedSimpArgs false
set_option linter.unusedVariables false
namespace Go.Proofs.YtcmdoeledmkfmabGreatDoor
open Go.RowKit
structure BaseIn (p : Pt) : Prop where
  shut : 0 ≤ p.shut ∧ p.shut ≤ 16
  len : p.ships.length ≤ 15
  ship : ∀ s ∈ p.ships, (0 ≤ s.wd ∧ s.wd ≤ 16) ∧ (0 ≤ s.si ∧ s.si ≤ 1000) ∧ (0 ≤ s.lg ∧ s.lg ≤ 1000)
  four : p.kept.length = 4
  kept : ∀ k ∈ p.kept, 0 ≤ k.wd ∧ k.wd ≤ 16
theorem IsPort0.baseIn {p : Pt} (h : IsPort0 p) : BaseIn p :=
  ⟨h.shut, by have := h.len; omega, fun s hs => by
    have a := (h.ship s hs).1
    have b := a.wd; have c := a.lg
    refine ⟨by omega, ?_, by omega⟩
    by_cases e : s.st = 3
    · have := a.lies e; omega
    · have := a.else_ e; omega, h.four, fun k hk => (h.kept k hk).wide⟩
theorem kept_extract (l : List Kp) (j : Nat) (k : Kp) (hj : l[j]? = some k) : (cellsK cKp l).toArray.extract (j * 3) (j * 3 + 3) = #[.int .i64 k.wd, .int .i64 k.fr, .int .i64 k.to] := by
  have hl := (List.getElem?_eq_some_iff.1 hj).1
  have hk : l[j] = k := (List.getElem?_eq_some_iff.1 hj).2
  have e : ((cellsK cKp l).drop (j * 3)).take 3 = cKp k := by
    rw [cellsK_drop encKp, List.drop_eq_getElem_cons hl, hk]
    simp [cellsK, cKp]
  apply Array.ext'
  rw [List.extract_toArray]
  simp only [List.extract_eq_take_drop]
  rw [show j * 3 + 3 - j * 3 = 3 by omega, e]
  rfl
theorem run_index_kept (l : List Kp) (hl : l.length = 4) (j : Nat) (k : Kp) (hj : l[j]? = some k) (w : World) : (Instr.index 31 (.agg (cellsK cKp l).toArray) (.int .i64 j)).run Tryz.prog w = .ok (.agg #[.int .i64 k.wd, .int .i64 k.fr, .int .i64 k.to]) w := by
  have hj4 : j < 4 := by have := (List.getElem?_eq_some_iff.1 hj).1; omega
  have h1 : (j : Int) < 4 := by omega
  have u3 := Tryz.isAgg30
  have z3 := Tryz.sizeOf30
  have e := kept_extract l j k hj
  simp only [Instr.index, asIntOf, Sem.run_bind, Sem.run_pure, Result.andThen_ok, run_underlying Tryz.underlying31]
  rw [if_pos ⟨by omega, by omega⟩]
  simp only [Sem.run_bind, z3, Result.andThen_ok, part, u3, Int.toNat_natCast, if_pos, Sem.run_pure, e]
def okTo (p : Pt) (t : Nat) : Bool := decide (∀ j : Nat, j < t → 0 ≤ baseAt p j)
theorem okTo_succ (p : Pt) (t : Nat) : okTo p (t + 1) = (okTo p t && decide (0 ≤ baseAt p t)) := by
  unfold okTo
  rw [Bool.eq_iff_iff]
  simp only [Bool.and_eq_true, decide_eq_true_iff]
  constructor
  · intro h; exact ⟨fun j hj => h j (by omega), h t (by omega)⟩
  · rintro ⟨h1, h2⟩ j hj
    by_cases e : j = t
    · rw [e]; exact h2
    · exact h1 j (by omega)
theorem take_snocK {α : Type} {l : List α} {j : Nat} {x : α} (h : l[j]? = some x) : l.take (j + 1) = l.take j ++ [x] := by
  have hl := (List.getElem?_eq_some_iff.1 h).1
  rw [List.take_succ_eq_append_getElem hl, (List.getElem?_eq_some_iff.1 h).2]
end Go.Proofs.YtcmdoeledmkfmabGreatDoor
set_option linter.unusedSimpArgs false
set_option linter.unusedVariables false
namespace Go.Proofs.YtcmdoeledmkfmabGreatDoor
open Go.RowKit
def ShipsTo (p : Pt) (k : Nat) : Prop :=
  (0 ≤ p.now ∧ p.now ≤ 299) ∧ (0 ≤ p.shut ∧ p.shut ≤ 16) ∧ p.ships.length < 15 ∧ (0 ≤ p.next ∧ p.next ≤ 1048576) ∧
  (∀ i s, i < k → p.ships[i]? = some s → IsShip s p.now ∧ s.qu < p.next) ∧ ∀ (i j : Nat) (r s : Ship), i < j → j < k → p.ships[i]? = some r → p.ships[j]? = some s → r.qu ≠ s.qu
theorem ShipsTo.succ {p : Pt} {k : Nat} {s : Ship} (hs : p.ships[k]? = some s) : ShipsTo p (k + 1) ↔ ShipsTo p k ∧ (IsShip s p.now ∧ s.qu < p.next) ∧ ∀ (i : Nat) (r : Ship), i < k → p.ships[i]? = some r → r.qu ≠ s.qu := by
  unfold ShipsTo
  constructor
  · rintro ⟨a, b, c, d, e, f⟩
    exact ⟨⟨a, b, c, d, fun i s hi => e i s (by omega), fun i j r s hij hj => f i j r s hij (by omega)⟩, e k s (by omega) hs, fun i r hi hr => f i k r s hi (by omega) hr hs⟩
  · rintro ⟨⟨a, b, c, d, e, f⟩, g, h⟩
    refine ⟨a, b, c, d, fun i s' hi hs' => ?_, fun i j r s' hij hj hr hs' => ?_⟩
    · by_cases x : i = k
      · subst x; rw [hs] at hs'; injection hs' with hs'; subst hs'; exact g
      · exact e i s' (by omega) hs'
    · by_cases x : j = k
      · subst x; rw [hs] at hs'; injection hs' with hs'; subst hs'; exact h i r hij hr
      · exact f i j r s' hij (by omega) hr hs'
theorem isPort_iff {p : Pt} (h4 : p.kept.length = 4) : IsPort p ↔ (ShipsTo p p.ships.length ∧ ∀ k ∈ p.kept, IsKept k) ∧ okTo p 300 = true := by
  unfold okTo
  rw [decide_eq_true_iff]
  constructor
  · rintro ⟨h, hb⟩
    exact ⟨⟨⟨h.now, h.shut, h.len, h.next, fun i s _ hs => h.ship s (List.mem_of_getElem? hs), fun i j r s hij _ hr hs => h.once i j r s hij hr hs⟩, h.kept⟩, fun j hj => hb j (by omega) (by omega)⟩
  · rintro ⟨⟨⟨a, b, c, d, e, f⟩, g⟩, hb⟩
    refine ⟨⟨a, b, c, d, fun s hs => ?_, fun i j r s hij hr hs => f i j r s hij (List.getElem?_eq_some_iff.1 hs).1 hr hs, h4, g⟩, fun t h0 h3 => ?_⟩
    · obtain ⟨i, hi, rfl⟩ := List.mem_iff_getElem.1 hs
      exact e i _ hi (List.getElem?_eq_getElem hi)
    · have := hb t.toNat (by omega)
      rwa [show ((t.toNat : Nat) : Int) = t by omega] at this
theorem port0_of {p : Pt} (h4 : p.kept.length = 4) (h : ShipsTo p p.ships.length ∧ ∀ k ∈ p.kept, IsKept k) : BaseIn p := by
  obtain ⟨⟨a, b, c, d, e, f⟩, g⟩ := h
  refine IsPort0.baseIn ⟨a, b, c, d, fun s hs => ?_, fun i j r s hij hr hs => f i j r s hij (List.getElem?_eq_some_iff.1 hs).1 hr hs, h4, g⟩
  obtain ⟨i, hi, rfl⟩ := List.mem_iff_getElem.1 hs
  exact e i _ hi (List.getElem?_eq_getElem hi)
theorem eqlKept (k : Kp) (w : World) : (binOp .eql 30 (.agg #[.int .i64 k.wd, .int .i64 k.fr, .int .i64 k.to]) (.agg #[.int .i64 0, .int .i64 0, .int .i64 0])).run Tryz.prog w = .ok (.bool (decide (k.wd = 0 ∧ k.fr = 0 ∧ k.to = 0))) w := by
  have u3 := Tryz.underlying3
  have a3 := Tryz.isAgg3
  have z3 := Tryz.sizeOf3
  have hS : Tryz.prog.underlying 30 = some (.struct (Tryz.prog.fieldsOf 30)) := by kernel_rfl
  have hp : Tryz.prog.stoodInHeld 30 = false := by kernel_rfl
  rw [run_eql_struct, show (10000 : Nat) = 9999 + 1 from rfl, run_equalIn_agg w 9999 30 _ _ hS hp]
  simp only [Program.fieldsOf, Tryz.underlying30]
  go_simp
  by_cases h1 : k.wd = 0 <;> by_cases h2 : k.fr = 0 <;> by_cases h3 : k.to = 0 <;> simp [h1, h2, h3]
end Go.Proofs.YtcmdoeledmkfmabGreatDoor
set_option linter.unusedSimpArgs false
set_option linter.unusedVariables false
namespace Go.Proofs.YtcmdoeledmkfmabGreatDoor
open Go.RowKit
def neShip (x y : Ship) : Bool := !(x.st == y.st && x.wd == y.wd && x.lg == y.lg && x.cl == y.cl && x.si == y.si && x.qu == y.qu)
theorem neShip_iff {x y : Ship} : neShip x y = false ↔ x = y := by
  unfold neShip
  obtain ⟨a, b, c, d, e, f⟩ := x
  obtain ⟨a', b', c', d', e', f'⟩ := y
  simp [and_assoc]
set_option maxHeartbeats 1000000 in
theorem neqShip (x y : Ship) (w : World) : (binOp .neq 51 (.agg #[.int .i64 x.st, .int .i64 x.wd, .int .i64 x.lg, .int .i64 x.cl, .int .i64 x.si, .int .i64 x.qu]) (.agg #[.int .i64 y.st, .int .i64 y.wd, .int .i64 y.lg, .int .i64 y.cl, .int .i64 y.si, .int .i64 y.qu])).run Tryz.prog w = .ok (.bool (neShip x y)) w := by
  have u3 := Tryz.underlying3
  have a3 := Tryz.isAgg3
  have z3 := Tryz.sizeOf3
  have hS : Tryz.prog.underlying 51 = some (.struct (Tryz.prog.fieldsOf 51)) := by kernel_rfl
  have hp : Tryz.prog.stoodInHeld 51 = false := by kernel_rfl
  unfold neShip
  rw [run_neq_struct, show (10000 : Nat) = 9999 + 1 from rfl, run_equalIn_agg w 9999 51 _ _ hS hp]
  simp only [Program.fieldsOf, Tryz.underlying51]
  go_simp
  by_cases h1 : x.st = y.st
  · by_cases h2 : x.wd = y.wd
    · by_cases h3 : x.lg = y.lg
      · by_cases h4 : x.cl = y.cl
        · by_cases h5 : x.si = y.si
          · by_cases h6 : x.qu = y.qu <;> simp [h1, h2, h3, h4, h5, h6]
          · simp [h1, h2, h3, h4, h5]
        · simp [h1, h2, h3, h4]
      · simp [h1, h2, h3]
    · simp [h1, h2]
  · simp [h1]
def eqKp (x y : Kp) : Bool := x.wd == y.wd && x.fr == y.fr && x.to == y.to
theorem eqKp_iff {x y : Kp} : eqKp x y = true ↔ x = y := by
  unfold eqKp
  obtain ⟨a, b, c⟩ := x
  obtain ⟨a', b', c'⟩ := y
  simp [and_assoc]
theorem eqInKp (d : Nat) (x y : Kp) (w : World) : (Op.equalIn (d + 2) 30 (.agg #[.int .i64 x.wd, .int .i64 x.fr, .int .i64 x.to]) (.agg #[.int .i64 y.wd, .int .i64 y.fr, .int .i64 y.to])).run Tryz.prog w = .ok (eqKp x y) w := by
  have u3 := Tryz.underlying3
  have a3 := Tryz.isAgg3
  have z3 := Tryz.sizeOf3
  have hS : Tryz.prog.underlying 30 = some (.struct (Tryz.prog.fieldsOf 30)) := by kernel_rfl
  have hp : Tryz.prog.stoodInHeld 30 = false := by kernel_rfl
  unfold eqKp
  rw [run_equalIn_agg w (d + 1) 30 _ _ hS hp]
  simp only [Program.fieldsOf, Tryz.underlying30]
  go_simp
  by_cases h1 : x.wd = y.wd
  · by_cases h2 : x.fr = y.fr
    · by_cases h3 : x.to = y.to <;> simp [h1, h2, h3]
    · simp [h1, h2]
  · simp [h1]
theorem part_kept (l : List Kp) (j : Nat) (k : Kp) (hj : l[j]? = some k) (w : World) : (part 30 (cellsK cKp l).toArray (j * 3)).run Tryz.prog w = .ok (.agg #[.int .i64 k.wd, .int .i64 k.fr, .int .i64 k.to]) w := by
  have u3 := Tryz.isAgg30
  have z3 := Tryz.sizeOf30
  have e := kept_extract l j k hj
  simp only [Sem.run_bind, z3, Result.andThen_ok, part, u3, if_pos, Sem.run_pure, e]
theorem eqItemsKp (l m : List Kp) (w : World) : ∀ is : List Nat, (∀ i ∈ is, i < l.length ∧ i < m.length) → ∃ r, (Op.eqItems 9999 30 3 (cellsK cKp l).toArray (cellsK cKp m).toArray is).run Tryz.prog w = .ok r w ∧ (r = true ↔ ∀ i ∈ is, l[i]? = m[i]?)
  | [], _ => ⟨true, by simp [Op.eqItems], by simp⟩
  | i :: is, h => by
    obtain ⟨r, hr, hi⟩ := eqItemsKp l m w is (fun j hj => h j (List.mem_cons_of_mem _ hj))
    obtain ⟨h1, h2⟩ := h i List.mem_cons_self
    have e1 := List.getElem?_eq_getElem h1
    have e2 := List.getElem?_eq_getElem h2
    have p1 := part_kept l i _ e1 w
    have p2 := part_kept m i _ e2 w
    have p3 := eqInKp 9997 l[i] m[i] w
    simp only [Op.eqItems, Sem.run_bind, p1, p2, p3, Result.andThen_ok]
    by_cases e : l[i] = m[i]
    · refine ⟨r, by simpa [eqKp_iff.2 e] using hr, ?_⟩
      rw [hi]
      simp [e1, e2, e]
    · have : eqKp l[i] m[i] = false := by cases hq : eqKp l[i] m[i]; rfl; exact absurd (eqKp_iff.1 hq) e
      refine ⟨false, by simp [this], ?_⟩
      simp [e1, e2, e]
theorem eqKept4 (l m : List Kp) (h1 : l.length = 4) (h2 : m.length = 4) (w : World) : ∃ r, (Op.equalIn 10000 31 (.agg (cellsK cKp l).toArray) (.agg (cellsK cKp m).toArray)).run Tryz.prog w = .ok r w ∧ (r = true ↔ l = m) := by
  have hc : Tryz.prog.cellsOf 30 = 3 := by kernel_rfl
  obtain ⟨i, hi⟩ : ∃ i, Tryz.prog.info? 30 = some i := by
    have h : (Tryz.prog.info? 30).map (·.size) = some 3 := by kernel_rfl
    cases hq : Tryz.prog.info? 30 with
    | none => rw [hq] at h; cases h
    | some i => exact ⟨i, rfl⟩
  obtain ⟨r, hr, hri⟩ := eqItemsKp l m w (List.range 4) (fun i hi => by rw [List.mem_range] at hi; omega)
  refine ⟨r, ?_, ?_⟩
  · rw [show (10000 : Nat) = 9999 + 1 from rfl, run_equalIn_array w 9999 _ _ Tryz.underlying31 hi, hc, hr]
  · rw [hri]
    constructor
    · intro h
      refine List.ext_getElem? fun i => ?_
      by_cases hi : i < 4
      · exact h i (List.mem_range.2 hi)
      · rw [List.getElem?_eq_none (by omega), List.getElem?_eq_none (by omega)]
    · rintro rfl i _
      rfl
end Go.Proofs.YtcmdoeledmkfmabGreatDoor
