import Derived.Test.YtcmdoeledmkfmabGreatDoorXTQuiet
set_option linter.unusedSimpArgs false
set_option linter.unusedVariables false
namespace Go.Proofs.YtcmdoeledmkfmabGreatDoor
open Go.RowKit
theorem PD.later {l : List (List UInt8)} {w w' w'' : World} {d : Nat} {D : Dk} (h : PD l w w' d D) (hb : Below w'.heap.size w' w'') : PD l w w'' d D := ⟨h.play, h.ds.later hb, h.new, h.below.trans (hb.mono h.below.size)⟩
theorem PD.lt {l : List (List UInt8)} {w w' : World} {d : Nat} {D : Dk} (h : PD l w w' d D) : d < w'.heap.size := h.ds.lt
theorem PD.twice {l : List (List UInt8)} {w w' v v' : World} {d h : Nat} {D H : Dk} (a : PD l w w' d D) (b : PD l v v' h H) : H = D := playIs_unique _ _ _ _ newDk_ok b.play a.play
theorem wpList_load_boxq {w : World} {ops : Array Oper} {rest : List Oper} {o : Oper} {a : Act} {Q : Exit → Act → World → Prop} {PC : Array Value} (hgd : o.guard = none) (x : Operand) (ho : o.op = .load 33 x) (g : Nat) (p : Pt) (vs : Value) (hq : (portCells p vs).toArray = PC)
    (hx : a.eval x = .pointer (some ⟨g, 0, none⟩)) (hA : PBox w g p vs) (h : wpList Tryz.prog ops Q rest (a.put o.dst (.agg PC)) w) : wpList Tryz.prog ops Q (o :: rest) a w := by
  subst hq
  exact wpList_load_box hgd x ho g p vs hx hA h
theorem wpList_load_boxq_g {w : World} {ops : Array Oper} {rest : List Oper} {o : Oper} {a : Act} {Q : Exit → Act → World → Prop} {PC : Array Value} (hw : Region.wanted o (yielded ops a.tmps) = true) (x : Operand) (ho : o.op = .load 33 x) (g : Nat) (p : Pt) (vs : Value) (hq : (portCells p vs).toArray = PC)
    (hx : a.eval x = .pointer (some ⟨g, 0, none⟩)) (hA : PBox w g p vs) (h : wpList Tryz.prog ops Q rest (a.put o.dst (.agg PC)) w) : wpList Tryz.prog ops Q (o :: rest) a w := by
  subst hq
  exact wpList_load_box_g hw x ho g p vs hx hA h
theorem Rests.ne {p : Pt} (h : Rests p) {pl : List Int} (hp : PlanIs p pl) (i : Nat) : pl[i]? ≠ some p.now := NoDue.ne h.1 hp (h.none hp) i
theorem RowT.told {α : Type} {t : TypeId} {c : α → List Value} {w w' : World} {v : Value} {l : List α} {d : Nat} {D : Dk} (h : RowT t c w v l) (hD : DS w d D) (hf : Fr d w w') (ht : t ≠ 64) : RowT t c w' v l := by
  obtain ⟨_, _, _, _, hM⟩ := hD.dsk
  exact h.fr hf hM.box ht
theorem PBox.told {w w' : World} {g d : Nat} {p : Pt} {vs : Value} (h : PBox w g p vs) (hf : Fr d w w') (hne : g ≠ d) : PBox w' g p vs := ⟨h.1, (hf.rest g hne h.lt).trans h.2⟩
theorem told_order {D D' : Dk} {o : Ord} {er n : Int} (h : LineIs D (lineO o) D' er n) (hn : D.n < 250) (hg : GoodO o) (hk : o.kd < 9) : OrderIs { D with n := D.n + 1 } o D' n er := obs_order (lineIs_told h hn (parse_line hg)) hk
theorem fieldCode (x y : Value) (w : World) : (Instr.field 25 (.agg #[x, y]) 0).run Tryz.prog w = .ok x w := by kernel_rfl
theorem RowT.cellS {w : World} {v : Value} {l : List Ship} (h : RowT 51 cShip w v l) {i : Nat} (hi : i < l.length) : ∃ b off cap, v = .slice (some ⟨b, off, none⟩) l.length cap ∧ RdK cShip w b off l := by
  obtain ⟨a, cap, rfl, _, hr⟩ := h.sl
  rcases hr with hr | ⟨b, off, rfl, hr⟩
  · rw [hr] at hi; simp at hi
  · exact ⟨b, off, cap, rfl, hr⟩
theorem eqlRep (x y x' y' : Int) (w : World) : (binOp .eql 25 (.agg #[.int .i64 x, .int .i64 y]) (.agg #[.int .i64 x', .int .i64 y'])).run Tryz.prog w = .ok (.bool (decide (x = x' ∧ y = y'))) w := by
  have u3 := Tryz.underlying3
  have a3 := Tryz.isAgg3
  have z3 := Tryz.sizeOf3
  have u4 := Tryz.underlying23
  have a4 := Tryz.isAgg23
  have z4 := Tryz.sizeOf23
  have hS : Tryz.prog.underlying 25 = some (.struct (Tryz.prog.fieldsOf 25)) := by kernel_rfl
  have hp : Tryz.prog.stoodInHeld 25 = false := by kernel_rfl
  rw [run_eql_struct, show (10000 : Nat) = 9999 + 1 from rfl, run_equalIn_agg w 9999 25 _ _ hS hp]
  simp only [Program.fieldsOf, Tryz.underlying25]
  go_simp
  by_cases h1 : x = x' <;> by_cases h2 : y = y' <;> simp [h1, h2]
theorem eqlRep_same (x y : Int) (w : World) : (binOp .eql 25 (.agg #[.int .i64 x, .int .i64 y]) (.agg #[.int .i64 x, .int .i64 y])).run Tryz.prog w = .ok (.bool true) w := by rw [eqlRep]; simp
end Go.Proofs.YtcmdoeledmkfmabGreatDoor
