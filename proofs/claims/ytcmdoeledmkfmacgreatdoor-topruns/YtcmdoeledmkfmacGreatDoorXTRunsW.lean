/- Texts of this claim, in one: TRunsW. -/
import Derived.Lib.AppendZeros
import Derived.BigQuiet
import Derived.Test.YtcmdoeledmkfmacGreatDoorXTRun
set_option linter.unusedSimpArgs false
set_option linter.unusedVariables false
namespace Go.Proofs.YtcmdoeledmkfmacGreatDoor
open Go.RowKit
theorem neqRep_one (x y : Int) (w : World) : (binOp .neq 29 (.agg #[.int .i64 x, .int .i64 y]) (.agg #[.int .i64 x, .int .i64 y])).run Tryz.prog w = .ok (.bool false) w := by
  have u3 := Tryz.underlying3
  have a3 := Tryz.isAgg3
  have z3 := Tryz.sizeOf3
  have u4 := Tryz.underlying25
  have a4 := Tryz.isAgg25
  have z4 := Tryz.sizeOf25
  have hS : Tryz.prog.underlying 29 = some (.struct (Tryz.prog.fieldsOf 29)) := by kernel_rfl
  have hp : Tryz.prog.stoodInHeld 29 = false := by kernel_rfl
  rw [run_neq_struct, show (10000 : Nat) = 9999 + 1 from rfl, run_equalIn_agg w 9999 29 _ _ hS hp]
  simp only [Program.fieldsOf, Tryz.underlying29]
  go_simp
theorem RdK.rep {w : World} {b off : Nat} {l : List (Int × Int)} (h : RdK cRep w b off l) {j : Nat} {s : Int × Int} (hs : l[j]? = some s) : w.cell? ⟨b, off + j * 2, none⟩ = some (.int .i64 s.1) ∧ w.cell? ⟨b, off + j * 2 + 1, none⟩ = some (.int .i64 s.2) :=
  ⟨h.at encRep hs (i := 0) rfl, h.at encRep hs (i := 1) rfl⟩
theorem rdStr_take {w : World} {b off : Nat} {l : List (List UInt8)} (h : RdK cStr w b off l) (j : Nat) : RdK cStr w b off (l.take j) := fun i u hu => by
  refine h i u ?_
  rw [cellsStr] at hu ⊢
  rw [List.map_take] at hu
  have hi : i < j := by
    have := (List.getElem?_eq_some_iff.1 hu).1
    simp only [List.length_take] at this
    omega
  rwa [List.getElem?_take_of_lt hi] at hu
set_option maxRecDepth 100000 in
theorem wpList_copyS {w : World} {ops : Array Oper} {rest : List Oper} {o : Oper} {a : Act} {Q : Exit → Act → World → Prop} (hgd : o.guard = none) (y : Operand)
    (ho : o.op = .call { callee := .builtin .append, args := #[.const (.slice none 0 0), y], argTypes := #[22, 22] }) (v : Value) (l : List (List UInt8)) (hy : a.eval y = v) (hs : SlK cStr w v l) (hn : l.length ≤ 1000)
    (h : ∀ v' w', Hid (w'.ownsRow w.heap.size 9 1 v' l.length (cellsK cStr l) ∧ Below w.heap.size w w') → wpList Tryz.prog ops Q rest (a.put o.dst v') w') : wpList Tryz.prog ops Q (o :: rest) a w := by
  refine wpList_plain hgd fun K hK => ?_
  obtain ⟨i0, z, hi, hz, hs1, hb, hzs⟩ := tyStr.info
  obtain ⟨v', w', h0, h1, h2⟩ := run_append_copyK (P := Tryz.prog) encStr tyStr.und hi hz hs1 hb hzs (by omega) v l w hs (by unfold maxLen; omega) (by omega) o.type
  clear hn hs
  have H := hK _ _ (h v' w' ⟨h1, h2⟩)
  clear h h1 h2 hK
  have hc : a.eval (.const (.slice none 0 0)) = .slice none 0 0 := rfl
  unfold Oper.wp
  simp [execOp, ho, resolve, invoke, builtin, hc, hy, h0, Result.andThen]
  exact H
theorem cut_in (q : Int) (n : Nat) (hn : n ≤ 80) : ∃ j : Nat, (wrap64 (wrap64 (q.tmod ((n : Int) + 1) + (n : Int)) + 1)).tmod ((n : Int) + 1) = (j : Int) ∧ j ≤ n := by
  have h1 := Int.tmod_lt_of_pos q (show (0 : Int) < (n : Int) + 1 by omega)
  have h2 := Int.lt_tmod_of_pos q (show (0 : Int) < (n : Int) + 1 by omega)
  generalize q.tmod ((n : Int) + 1) = t at *
  have e1 : wrap64 (t + (n : Int)) = t + n := by unfold wrap64; omega
  have e2 : wrap64 (t + (n : Int) + 1) = t + n + 1 := by unfold wrap64; omega
  rw [e1, e2]
  have h3 := Int.tmod_lt_of_pos (t + n + 1) (show (0 : Int) < (n : Int) + 1 by omega)
  have h4 := Int.tmod_nonneg ((n : Int) + 1) (show (0 : Int) ≤ t + n + 1 by omega)
  exact ⟨((t + n + 1).tmod ((n : Int) + 1)).toNat, by omega, by omega⟩
set_option maxHeartbeats 4000000 in
set_option maxRecDepth 100000 in
theorem topRuns_any (v : Value) (l : List (List UInt8)) (q : Int) (w : World) (hL : LW w) (hs : SlK cStr w v l) (hln : ∀ y ∈ l, y.length ≤ 9223372036854775807) (hll : l.length ≤ 8796093022208) (hq : (Lit.int .i64 q).wf = true) :
    Calls Tryz.prog 3 #[v, .int .i64 q] w fun e w' => e = .returned (.bool true) ∧ Below w.heap.size w w' := by
  have HA := fun W h => alive_any W h
  have HR := fun v l W h1 h2 h3 h4 => run_any v l W h1 h2 h3 h4
  have SL : Hid (SlK cStr w v l) := hs
  have LN : Hid (∀ y ∈ l, y.length ≤ 9223372036854775807) := hln
  have HL : Hid (LW w) := hL
  obtain ⟨a, cap, hv⟩ : ∃ a cap, v = .slice a l.length cap := by obtain ⟨a, cap, h, _⟩ := hs; exact ⟨a, cap, h⟩
  subst hv
  have hqr : -9223372036854775808 ≤ q ∧ q ≤ 9223372036854775807 := by
    simp [Lit.wf, IntKind.min, IntKind.max, IntKind.signed, IntKind.bits] at hq
    omega
  clear hL hs hln hq
  go_enter Tryz.func3, Tryz.ntmps3
  go_wp2_with fail
  refine (HA _ HL.out).mono ?_
  rintro e w1 ⟨rfl, hb1⟩
  have E1 : Hid (Below w.heap.size w w1 ∧ LW w1 ∧ SlK cStr w1 (.slice a l.length cap) l) := ⟨hb1, HL.out.later hb1, slK_below SL.out (Nat.le_refl _) hb1⟩
  clear hb1 HL SL
  by_cases h80 : 80 < l.length
  case pos =>
    have h80i : (80 : Int) < (l.length : Int) := by omega
    go_wp2_with fail
    refine (HA _ E1.out.2.1).mono ?_
    rintro e w2 ⟨rfl, hb2⟩
    have E2 : Hid (Below w.heap.size w w2) := E1.out.1.trans (hb2.mono E1.out.1.size)
    clear hb2 HA
    go_wp2_with fail
    go_ret
    exact ⟨rfl, E2.out⟩
  have h80i : ¬ ((80 : Int) < (l.length : Int)) := by omega
  have hn0 : ((l.length : Int) + 1 = 0) = False := by simp; omega
  have hw1 : IntKind.i64.wrap ((l.length : Int) + 1) = (l.length : Int) + 1 := by rw [IntKind.wrap_i64]; omega
  clear HA
  go_upto_region 4 with fail
  obtain ⟨j, hj, hjn⟩ := cut_in q l.length (by omega)
  rw [hj]
  clear hj hn0 hw1 hqr
  go_wp2_with (refine wpList_copyS rfl _ rfl (.slice a l.length cap) l rfl E1.out.2.2 (by omega) ?_; intro v2 w2 h2)
  refine (HR v2 l _ (E1.out.2.1.later h2.out.2) (slK_own h2.out.1) LN.out (by omega)).mono ?_
  rintro e w3 ⟨vr, rfl, h3⟩
  obtain ⟨rs, r1, r2, r3, r4⟩ := h3.out
  obtain ⟨ra, rc, hvr⟩ : ∃ x c, vr = .slice x l.length c := by obtain ⟨x, c, h⟩ := ownsRow_slice r3; exact ⟨x, c, by rw [h, r1]⟩
  subst hvr
  have RS : Hid (rs.length = l.length ∧ Reps l rs) := ⟨r1, r2⟩
  have E3 : Hid (Below w.heap.size w w3 ∧ LW w3 ∧ SlK cStr w3 (.slice a l.length cap) l ∧ SlK cRep w3 (.slice ra l.length rc) rs) := by
    have hb : Below w1.heap.size w1 w3 := h2.out.2.trans (r4.mono h2.out.2.size)
    exact ⟨E1.out.1.trans (hb.mono E1.out.1.size), E1.out.2.1.later hb, slK_below E1.out.2.2 (Nat.le_refl _) hb, slK_own r3⟩
  clear h3 h2 r1 r2 r3 r4 E1
  have hcap : l.length ≤ cap := by obtain ⟨a', c', e, h, _⟩ := E3.out.2.2.1; injection e with _ _ e; omega
  have hj1 : (j : Int) ≤ (cap : Int) := by omega
  have hj0 : ¬ ((j : Int) < 0) := by omega
  have hjl : (l.take j).length = j := by rw [List.length_take]; omega
  have SJ : Hid (SlK cStr w3 (.slice a j cap) (l.take j) ∧ (l.take j).length = j) := by
    refine ⟨?_, hjl⟩
    obtain ⟨a', c', e, h, hr⟩ := E3.out.2.2.1
    injection e with e1 _ e2
    subst e1 e2
    refine ⟨a, cap, by rw [hjl], by rw [hjl]; omega, ?_⟩
    rcases hr with hr | ⟨b, off, hr, hd⟩
    · exact Or.inl (by rw [hr]; simp)
    · exact Or.inr ⟨b, off, hr, rdStr_take hd j⟩
  clear hjl
  go_upto_region 5 with fail
  go_wp2_with (refine wpList_copyS rfl _ rfl (.slice a j cap) (l.take j) rfl SJ.out.1 (by have := SJ.out.2; omega) ?_; intro v4 w4 h4)
  refine (HR v4 (l.take j) _ (E3.out.2.1.later h4.out.2) (slK_own h4.out.1) (fun y hy => LN.out y (List.mem_of_mem_take hy)) (by have := SJ.out.2; omega)).mono ?_
  rintro e w5 ⟨vs, rfl, h5⟩
  obtain ⟨ss, r1, r2, r3, r4⟩ := h5.out
  rw [SJ.out.2] at r1
  obtain ⟨sa, sc, hvs⟩ : ∃ x c, vs = .slice x j c := by obtain ⟨x, c, h⟩ := ownsRow_slice r3; exact ⟨x, c, by rw [h, r1]⟩
  subst hvs
  have SS : Hid (ss.length = j ∧ Reps (l.take j) ss) := ⟨r1, r2⟩
  have E5 : Hid (Below w.heap.size w w5 ∧ SlK cRep w5 (.slice ra l.length rc) rs ∧ SlK cRep w5 (.slice sa j sc) ss) := by
    have hb : Below w3.heap.size w3 w5 := h4.out.2.trans (r4.mono h4.out.2.size)
    exact ⟨E3.out.1.trans (hb.mono E3.out.1.size), slK_below E3.out.2.2.2 (Nat.le_refl _) hb, slK_own r3⟩
  clear h5 h4 r1 r2 r3 r4 E3 SJ HR hj1 hj0
  go_wp2_with fail
  go_loopg [9] j (fun kx s9 wr => ∃ i : Nat, s9 = .int .i64 i ∧ i ≤ j ∧ j - i ≤ kx ∧ Hid (Below w.heap.size w wr ∧ SlK cRep wr (.slice ra l.length rc) rs ∧ SlK cRep wr (.slice sa j sc) ss))
  case atStart => exact ⟨0, rfl, Nat.zero_le _, by omega, E5⟩
  case round =>
    clear E5
    obtain ⟨i, rfl, hi, hg, I⟩ := hrel
    by_cases hlt : i < j
    · have hii : (i : Int) < (j : Int) := by omega
      have hil : (i : Int) < (l.length : Int) := by omega
      obtain ⟨x, hx⟩ : ∃ x, ss[i]? = some x := ⟨ss[i]'(by have := SS.out.1; omega), List.getElem?_eq_getElem _⟩
      have hy : rs[i]? = some x := by
        have hl : i < rs.length := by have := RS.out.1; omega
        obtain ⟨y, hy⟩ : ∃ y, rs[i]? = some y := ⟨rs[i]'hl, List.getElem?_eq_getElem hl⟩
        rw [hy, ((SS.out.2 i x hx).part hlt).unique (RS.out.2 i y hy)]
      obtain ⟨b1, o1, rfl, p0, p1⟩ : ∃ b off, ra = some ⟨b, off, none⟩ ∧ wr.cell? ⟨b, off + i * 2, none⟩ = some (.int .i64 x.1) ∧ wr.cell? ⟨b, off + i * 2 + 1, none⟩ = some (.int .i64 x.2) := by
        obtain ⟨a', c', e, _, hr⟩ := I.out.2.1
        injection e with e1
        rcases hr with hr | ⟨b, off, hr, h⟩
        · rw [hr] at hy; simp at hy
        · have := h.rep hy
          exact ⟨b, off, by rw [e1, hr], this.1, this.2⟩
      obtain ⟨b2, o2, rfl, q0, q1⟩ : ∃ b off, sa = some ⟨b, off, none⟩ ∧ wr.cell? ⟨b, off + i * 2, none⟩ = some (.int .i64 x.1) ∧ wr.cell? ⟨b, off + i * 2 + 1, none⟩ = some (.int .i64 x.2) := by
        obtain ⟨a', c', e, _, hr⟩ := I.out.2.2
        injection e with e1
        rcases hr with hr | ⟨b, off, hr, h⟩
        · rw [hr] at hx; simp at hx
        · have := h.rep hx
          exact ⟨b, off, by rw [e1, hr], this.1, this.2⟩
      have hneq := neqRep_one x.1 x.2
      generalize x.1 = x1 at *
      generalize x.2 = x2 at *
      clear hx hy
      go_wp2_with fail
      go_quiet (fail)
      go_wp2
      go_roundg (j - (i + 1))
      case measure => omega
      case rel =>
        have I2 : Hid (Below w.heap.size w (wr.drewN nq) ∧ SlK cRep (wr.drewN nq) (.slice (some ⟨b1, o1, none⟩) l.length rc) rs ∧ SlK cRep (wr.drewN nq) (.slice (some ⟨b2, o2, none⟩) j sc) ss) := ⟨below_drewN I.out.1 _, slK_below I.out.2.1 (Nat.le_refl _) (below_drewN (Below.refl _ _) _), slK_below I.out.2.2 (Nat.le_refl _) (below_drewN (Below.refl _ _) _)⟩
        exact ⟨i + 1, by go_num, by omega, Nat.le_refl _, I2⟩
    · have hii : ¬ ((i : Int) < (j : Int)) := by omega
      go_wp2_with fail
      go_ret
      exact ⟨rfl, I.out.1⟩
end Go.Proofs.YtcmdoeledmkfmacGreatDoor
