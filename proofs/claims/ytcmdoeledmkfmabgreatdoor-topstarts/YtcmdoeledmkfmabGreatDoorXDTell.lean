import Derived.Test.YtcmdoeledmkfmabGreatDoorXDObey
import Derived.Test.YtcmdoeledmkfmabGreatDoorQ9
set_option linter.unusedSimpArgs false
set_option linter.unusedVariables false
namespace Go.Proofs.YtcmdoeledmkfmabGreatDoor
open Go.RowKit
def RB (w : World) (g : Nat) (x y : Int) : Prop := w.heap[g]? = some (.cells #[.int .i64 x, .int .i64 y] 25 (0, 0))
theorem RB.lt {w : World} {g : Nat} {x y : Int} (h : RB w g x y) : g < w.heap.size := (Array.getElem?_eq_some_iff.1 h).1
theorem RB.later {w w' : World} {g : Nat} {x y : Int} (h : RB w g x y) (hb : Below w.heap.size w w') : RB w' g x y := by unfold RB; rw [hb.block g h.lt]; exact h
theorem RB.fr {w w' : World} {d g : Nat} {x y : Int} (h : RB w g x y) (hf : Fr d w w') (hne : g ≠ d) : RB w' g x y := by unfold RB; rw [hf.rest g hne h.lt]; exact h
theorem RB.whole {w : World} {g : Nat} {x y : Int} (h : RB w g x y) : w.rangeAt g 0 [.int .i64 x, .int .i64 y] := fun j v hv => by
  rw [cell_of_row _ _ _ _ _ _ h, Nat.zero_add]
  simpa using hv
theorem sizeRep : (Tryz.prog.info? 25).map (·.size) = some 2 := by kernel_rfl
theorem zeroRep : (Tryz.prog.info? 25).map (fun i => (i.zero, i.size)) = some (some (.agg #[.int .i64 0, .int .i64 0]), 2) := by kernel_rfl
theorem run_zeroRep (w : World) : (zeroValue 25).run Tryz.prog w = .ok (.agg #[.int .i64 0, .int .i64 0]) w := by
  have h := zeroRep
  cases hq : Tryz.prog.info? 25 with
  | none => rw [hq] at h; cases h
  | some i =>
    rw [hq] at h
    simp at h
    simp [zeroValue, typeInfo, hq, h.1]
theorem wpList_alloc_rep {w : World} {ops : Array Oper} {rest : List Oper} {o : Oper} {a : Act} {Q : Exit → Act → World → Prop} (hgd : o.guard = none) (ho : o.op = .alloc 25) (d : Nat) (hd : o.dst = some d)
    (h : ∀ w', Hid (RB w' w.heap.size 0 0 ∧ Below w.heap.size w w') → w'.heap.size = w.heap.size + 1 → wpList Tryz.prog ops Q rest (a.put o.dst (.pointer (some ⟨w.heap.size, 0, none⟩))) w') : wpList Tryz.prog ops Q (o :: rest) a w := by
  refine wpList_plain hgd fun K hK => ?_
  have hz := run_zeroRep w
  unfold Oper.wp execOp
  simp only [ho]
  simp [Instr.alloc, hz, newVar, newRow, Result.andThen, Value.cells]
  exact hK _ _ (h _ ⟨heap_alloc_new w _, (Below.refl _ w).alloc (Nat.le_refl _) _⟩ (by simp))
theorem wpList_store_rep {w : World} {ops : Array Oper} {rest : List Oper} {o : Oper} {a : Act} {Q : Exit → Act → World → Prop} (hgd : o.guard = none) (x y : Operand) (ho : o.op = .store 25 x y) (g : Nat) (p q p' q' : Int)
    (hx : a.eval x = .pointer (some ⟨g, 0, none⟩)) (hy : a.eval y = .agg #[.int .i64 p', .int .i64 q']) (hA : RB w g p q)
    (h : ∀ w', Hid (RB w' g p' q' ∧ (∀ k, k ≠ g → w'.heap[k]? = w.heap[k]?) ∧ ∀ B, B ≤ g → Below B w w') → w'.heap.size = w.heap.size → wpList Tryz.prog ops Q rest (a.put o.dst undef) w') : wpList Tryz.prog ops Q (o :: rest) a w := by
  refine wpList_plain hgd fun K hK => ?_
  have hst := run_storeVar_row (P := Tryz.prog) w g _ 25 #[.int .i64 p, .int .i64 q] #[.int .i64 p', .int .i64 q'] hA (by rw [sizeRep]; rfl) rfl (by simp [Value.oneCell'])
  unfold Oper.wp execOp
  simp only [ho, hx, hy, Instr.storeAt, Instr.sureAddr, Sem.run_bind, Sem.run_pure, Result.andThen_ok, hst]
  refine hK _ _ (h _ ⟨setRow_heap w g _ _ _ _ hA, fun k hk => setRow_other w g k _ (by omega), fun B hB => below_setRow (Below.refl B w) hB _⟩ (by simp [World.setRow]))
theorem results_rep {fn : Func} {q : Tmp} (h : fn.results = #[.cell q 25]) (tmps : Array Value) (w : World) (g : Nat) (x y : Int) (hp : tmps.getD q undef = .pointer (some ⟨g, 0, none⟩)) (hA : RB w g x y) :
    (results fn tmps).run Tryz.prog w = .ok (.agg #[.int .i64 x, .int .i64 y]) w := by
  have hl := run_loadVar_mid (P := Tryz.prog) w g 0 25 [.int .i64 x, .int .i64 y] _ hA.whole Tryz.underlying25 rfl (by rw [sizeRep]; rfl)
  have hp' : tmps[q]?.getD undef = .pointer (some ⟨g, 0, none⟩) := by simpa using hp
  simp only [results, h]
  simp [Sem.run_bind, Result.andThen, hp', asAddr, hl]
def TellDPost (d : Nat) (D : Dk) (s : List UInt8) (w : World) (e : Ending) (w' : World) : Prop := ∃ er n, e = .returned (.agg #[.int .i64 er, .int .i64 n]) ∧ Hid (∃ D', LineIs D s D' er n ∧ Dsk w' d D' ∧ Fr d w w')
theorem tell_end {d z : Nat} {D' : Dk} {w W W' : World} {x y : Int} (hD : Dsk W d D') (hR : RB W z x y) (hF : Fr d w W) (hz : w.heap.size ≤ z) (hd : d < w.heap.size) (hs : ∀ k, k ≠ z → W'.heap[k]? = W.heap[k]?) (hb : ∀ B, B ≤ z → Below B W W') : Dsk W' d D' ∧ Fr d w W' :=
  ⟨hD.written hR (by decide) (by decide) (by decide) (by decide) hs, ⟨hF.below.trans (hb d (by omega)), fun k hk hl => (hs k (by omega)).trans (hF.rest k hk hl)⟩⟩
set_option maxHeartbeats 4000000 in
set_option maxRecDepth 100000 in
theorem deskTell_any (d : Nat) (D : Dk) (s : List UInt8) (w : World) (hL : LW w) (hD : Dsk w d D) (hO : DOk D) (hs : s.length ≤ 9223372036854775807) :
    Calls Tryz.prog 12 #[.pointer (some ⟨d, 0, none⟩), txt s] w fun e w' => TellDPost d D s w e w' := by
  obtain ⟨vs, vp, va, pl, hM⟩ := hD
  have hn := hO.n
  have HM : Hid (DM w d D vs vp va pl ∧ LW w) := ⟨hM, hL⟩
  have HO : Hid (DOk D) := hO
  have hlt := hM.lt
  have HPA := fun W h => parse_any s hs W h
  have HOB := fun o W h1 h2 h3 => deskObey_any d { D with n := D.n + 1 } o W h1 h2 h3
  unfold txt at *
  clear hM hO hL
  go_enter Tryz.func12, Tryz.ntmps12
  go_upto_region 1 with (refine wpList_alloc_rep rfl rfl 4 rfl ?_; intro w1 h1 s1)
  have E1 : Hid (DM w1 d D vs vp va pl ∧ LW w1 ∧ RB w1 w.heap.size 0 0 ∧ Fr d w w1) := ⟨HM.out.1.later h1.out.2, HM.out.2.later h1.out.2, h1.out.1, Fr.of h1.out.2 (by omega)⟩
  clear h1 s1 HM
  generalize hz : w.heap.size = z at *
  have c18 := E1.out.1.box.cells.2.2.2.2
  by_cases h250 : 250 ≤ D.n
  · have LI : Hid (LineIs D s D 5 0) := Or.inl ⟨h250, rfl, rfl, rfl⟩
    clear HOB HPA
    go_wp2_with (refine wpList_store_rep rfl _ _ rfl z 0 0 5 0 rfl rfl E1.out.2.2.1 ?_; intro w2 h2 s2)
    refine bodyPost_ret (v := .agg #[.int .i64 5, .int .i64 0]) (results_rep Tryz.results12 _ _ z 5 0 rfl h2.out.1) rfl ?_
    exact ⟨5, 0, rfl, D, LI.out, tell_end ⟨_, _, _, _, E1.out.1⟩ E1.out.2.2.1 E1.out.2.2.2 (by omega) (by omega) h2.out.2.1 h2.out.2.2⟩
  have f18 := E1.out.1.box.frozen 18
  have E2 : Hid (Dsk (w1.setCell ⟨d, 18, none⟩ (.int .i64 (D.n + 1))) d { D with n := D.n + 1 } ∧ LW (w1.setCell ⟨d, 18, none⟩ (.int .i64 (D.n + 1))) ∧ RB (w1.setCell ⟨d, 18, none⟩ (.int .i64 (D.n + 1))) z 0 0 ∧ Fr d w (w1.setCell ⟨d, 18, none⟩ (.int .i64 (D.n + 1))) ∧ DOk { D with n := D.n + 1 } ∧ ∀ u ∈ usedG, u < d) := by
    have F := Fr.set (d := d) w1 18 (.int .i64 (D.n + 1))
    have hb := E1.out.1.box
    refine ⟨⟨vs, vp, va, pl, hb.setLines _, E1.out.1.ships.fr F hb (by decide), E1.out.1.plan, E1.out.1.row.fr F hb (by decide), E1.out.1.asd.fr F hb, E1.out.1.old, E1.out.1.far⟩, E1.out.2.1.fr F E1.out.1.old, E1.out.2.2.1.fr F (by omega), E1.out.2.2.2.trans F, ⟨HO.out.rests, HO.out.aside, ?_⟩, E1.out.1.old⟩
    show 0 ≤ D.n + 1 ∧ D.n + 1 ≤ 250
    omega
  clear E1
  go_upto_region 6 with fail
  clear c18 f18
  generalize w1.setCell ⟨d, 18, none⟩ (.int .i64 (D.n + 1)) = W2 at *
  go_wp2_with fail
  refine (HPA _ E2.out.2.1).mono ?_
  rintro e w3 ⟨o, er, rfl, hP, hb3⟩
  have PI : Hid ((er = 0 ∧ ParseIs s (some o)) ∨ (er = 1 ∧ o = noOrd ∧ ParseIs s none)) := hP
  have E3 : Hid (Dsk w3 d { D with n := D.n + 1 } ∧ RB w3 z 0 0 ∧ Fr d w w3 ∧ DOk { D with n := D.n + 1 }) := ⟨E2.out.1.later hb3, E2.out.2.2.1.later hb3, E2.out.2.2.2.1.trans (Fr.of hb3 (by have := E2.out.1.lt; omega)), E2.out.2.2.2.2.1⟩
  clear hP hb3 E2 HPA
  go_upto_region 7 with (first | (refine wpList_alloc_ord rfl rfl 5 rfl ?_; intro w4 h4 s4) | (refine wpList_store_ord rfl _ _ rfl w3.heap.size noOrd o rfl rfl h4.out.1 ?_; intro w5 h5 s5))
  have E5 : Hid (Dsk w5 d { D with n := D.n + 1 } ∧ RB w5 z 0 0 ∧ Fr d w w5 ∧ DOk { D with n := D.n + 1 } ∧ LOB w5 w3.heap.size o) := by
    have hb : Below w3.heap.size w3 w5 := h4.out.2.trans (h5.out.2.2 _ (Nat.le_refl _))
    exact ⟨E3.out.1.later hb, E3.out.2.1.later hb, E3.out.2.2.1.trans (Fr.of hb (by have := E3.out.1.lt; omega)), E3.out.2.2.2, h5.out.1⟩
  clear h4 h5 s4 s5 E3
  generalize w3.heap.size = g at *
  by_cases he : er = 0
  case neg =>
    obtain ⟨rfl, _, hp⟩ : er = 1 ∧ o = noOrd ∧ ParseIs s none := by
      rcases PI.out with ⟨h, _⟩ | h
      · exact absurd h he
      · exact h
    have LI : Hid (LineIs D s { D with n := D.n + 1 } 1 0) := Or.inr ⟨by omega, Or.inl ⟨hp, rfl, rfl, rfl⟩⟩
    clear PI hp HOB he
    go_wp2_with (refine wpList_store_rep rfl _ _ rfl z 0 0 1 0 rfl rfl E5.out.2.1 ?_; intro w6 h6 s6)
    refine bodyPost_ret (v := .agg #[.int .i64 1, .int .i64 0]) (results_rep Tryz.results12 _ _ z 1 0 rfl h6.out.1) rfl ?_
    exact ⟨1, 0, rfl, _, LI.out, tell_end E5.out.1 E5.out.2.1 E5.out.2.2.1 (by omega) (by omega) h6.out.2.1 h6.out.2.2⟩
  subst he
  have hp : ParseIs s (some o) := by
    rcases PI.out with ⟨_, h⟩ | ⟨h, _⟩
    · exact h
    · cases h
  have PJ : Hid (ParseIs s (some o)) := hp
  have hsm := hp.2.1.small o.a (by simp [numsO])
  clear PI hp
  go_wp2_with (refine wpList_load_ord rfl _ rfl g o rfl E5.out.2.2.2.2 ?_)
  refine (HOB o _ E5.out.1 E5.out.2.2.2.1 hsm).mono ?_
  rintro e w6 ⟨n, er, rfl, h6⟩
  obtain ⟨D', j1, j2, j3⟩ := h6.out
  have E6 : Hid (Dsk w6 d D' ∧ RB w6 z 0 0 ∧ Fr d w w6) := ⟨j2, E5.out.2.1.fr j3 (by omega), E5.out.2.2.1.trans j3⟩
  have LI : Hid (LineIs D s D' er n) := Or.inr ⟨by omega, Or.inr ⟨o, PJ.out, j1⟩⟩
  clear h6 j1 j2 j3 E5 HOB
  go_wp2_with (refine wpList_store_rep rfl _ _ rfl z 0 0 er n rfl rfl E6.out.2.1 ?_; intro w7 h7 s7)
  refine bodyPost_ret (v := .agg #[.int .i64 er, .int .i64 n]) (results_rep Tryz.results12 _ _ z er n rfl h7.out.1) rfl ?_
  exact ⟨er, n, rfl, D', LI.out, tell_end E6.out.1 E6.out.2.1 E6.out.2.2 (by omega) (by omega) h7.out.2.1 h7.out.2.2⟩
set_option maxRecDepth 100000 in
theorem deskNew_any (w : World) (hL : LW w) : Calls Tryz.prog 34 #[] w fun e w' => ∃ d, e = .returned (.pointer (some ⟨d, 0, none⟩)) ∧ w.heap.size ≤ d ∧ Dsk w' d newDk ∧ Below w.heap.size w w' := by
  have HN := fun W => newPort_any W
  have hz : (portCells zeroPt (.slice none 0 0)).toArray = #[.int .i64 0, .slice none 0 0, .int .i64 0, .int .i64 0, .int .i64 0, .int .i64 0, .int .i64 0, .int .i64 0, .int .i64 0, .int .i64 0, .int .i64 0, .int .i64 0, .int .i64 0, .int .i64 0, .int .i64 0, .int .i64 0] := rfl
  rw [hz] at HN
  have HL : Hid (LW w) := hL
  clear hz hL
  go_enter Tryz.func34, Tryz.ntmps34
  go_wp2_with fail
  refine (HN _).mono ?_
  rintro e w1 ⟨rfl, hb⟩
  have B : Hid (LW w1 ∧ Below w.heap.size w w1) := ⟨HL.out.later hb, hb⟩
  clear hb HN
  go_wp2_with fail
  go_ret
  refine ⟨w1.heap.size, rfl, B.out.2.size, ⟨.slice none 0 0, .slice none 0 0, .pointer none, [], ⟨rfl, heap_alloc_new w1 _⟩, RowT.nil _ _ _, planZero, RowT.nil _ _ _, rfl, B.out.1.lt, fun g o f h => (by cases h)⟩, B.out.2.trans (((Below.refl _ w1).alloc (Nat.le_refl _) _).mono B.out.2.size)⟩
end Go.Proofs.YtcmdoeledmkfmabGreatDoor
