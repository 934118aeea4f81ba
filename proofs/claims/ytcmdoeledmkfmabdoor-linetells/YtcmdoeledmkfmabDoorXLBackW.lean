/- Texts of this claim, in one: LBackW. -/
import Derived.Test.YtcmdoeledmkfmabDoorQL
/- LineBack: a good order's line is read as it; what is printed of what was read is read as the same: P4.2, P4.3. -/
set_option linter.unusedSimpArgs false
set_option linter.unusedVariables false
namespace Go.Proofs.YtcmdoeledmkfmabDoor
open Go.RowKit

theorem wpList_load_ord_g {w : World} {ops : Array Oper} {rest : List Oper} {o : Oper} {a : Act} {Q : Exit → Act → World → Prop} (hw : Region.wanted o (yielded ops a.tmps) = true) (x : Operand) (ho : o.op = .load 23 x) (g : Nat) (p : Ord)
    (hx : a.eval x = .pointer (some ⟨g, 0, none⟩)) (hA : LOB w g p) (h : wpList Tryd.prog ops Q rest (a.put o.dst (.agg (ordCells p).toArray)) w) : wpList Tryd.prog ops Q (o :: rest) a w :=
  BigFrame.wpList_want hw fun K hK => wp_load_mid 23 x ho g 0 hx (ordCells p) _ hA.whole Tryd.underlying23 rfl (ordInfo p) (hK _ _ h)

theorem wpList_load_ordx_g {w : World} {ops : Array Oper} {rest : List Oper} {o : Oper} {a : Act} {Q : Exit → Act → World → Prop} (hw : Region.wanted o (yielded ops a.tmps) = true) (x : Operand) (ho : o.op = .load 23 x) (g : Nat) (k i j l : Int)
    (hx : a.eval x = .pointer (some ⟨g, 0, none⟩)) (hA : LOB w g ⟨k, i, j, l⟩) (h : wpList Tryd.prog ops Q rest (a.put o.dst (.agg #[.int .i64 k, .int .i64 i, .int .i64 j, .int .i64 l])) w) : wpList Tryd.prog ops Q (o :: rest) a w :=
  wpList_load_ord_g hw x ho g ⟨k, i, j, l⟩ hx hA h

theorem eqOrd (a b c d : Int) (w : World) : (Op.equalIn 10000 23 (.agg #[.int .i64 a, .int .i64 b, .int .i64 c, .int .i64 d]) (.agg #[.int .i64 a, .int .i64 b, .int .i64 c, .int .i64 d])).run Tryd.prog w = .ok true w := by
  have u3 := Tryd.underlying3
  have a3 := Tryd.isAgg3
  have z3 := Tryd.sizeOf3
  have hS : Tryd.prog.underlying 23 = some (.struct (Tryd.prog.fieldsOf 23)) := by kernel_rfl
  have hp : Tryd.prog.stoodInHeld 23 = false := by kernel_rfl
  rw [show (10000 : Nat) = 9999 + 1 from rfl, run_equalIn_agg w 9999 23 _ _ hS hp]
  simp only [Program.fieldsOf, Tryd.underlying23]
  go_simp

def sCome49 : List UInt8 := [32, 99, 111, 109, 101, 32, 52, 32, 32, 57, 32, 48]
theorem itoa_dig (n : Nat) (h : n < 10) : Lib.itoa (n : Int) = [UInt8.ofNat (48 + n)] := by
  unfold Lib.itoa
  rw [if_neg (by omega), Lib.decDigits, dif_pos (by omega)]
  rfl
theorem good49 : GoodO ⟨1, 4, 9, 0⟩ := (by decide : (1 ≤ (1 : Int) ∧ (1 : Int) ≤ 14) ∧ (-(farOf (cntO (1 : Int).toNat) 0) ≤ 4 ∧ 4 ≤ farOf (cntO (1 : Int).toNat) 0) ∧ (-(farOf (cntO (1 : Int).toNat) 1) ≤ 9 ∧ 9 ≤ farOf (cntO (1 : Int).toNat) 1) ∧ (-(farOf (cntO (1 : Int).toNat) 2) ≤ 0 ∧ 0 ≤ farOf (cntO (1 : Int).toNat) 2))
theorem parse_49 : ParseIs sCome49 (some ⟨1, 4, 9, 0⟩) := by
  refine ⟨by decide, good49, ?_⟩
  show pieces sCome49 = [word 1, Lib.itoa ((4 : Nat) : Int), Lib.itoa ((9 : Nat) : Int), Lib.itoa ((0 : Nat) : Int)]
  rw [itoa_dig 4 (by decide), itoa_dig 9 (by decide), itoa_dig 0 (by decide)]
  decide
theorem line_49 : lineO ⟨1, 4, 9, 0⟩ = [99, 111, 109, 101, 32, 52, 32, 57, 32, 48] := by
  show word 1 ++ ([32 :: Lib.itoa ((4 : Nat) : Int), 32 :: Lib.itoa ((9 : Nat) : Int), 32 :: Lib.itoa ((0 : Nat) : Int)]).flatten = _
  rw [itoa_dig 4 (by decide), itoa_dig 9 (by decide), itoa_dig 0 (by decide)]
  rfl

/-- what is read, where one knows what it tells -/
theorem parse_known {s : List UInt8} {o p : Ord} {er : Int} (h : (er = 0 ∧ ParseIs s (some o)) ∨ (er = 1 ∧ o = noOrd ∧ ParseIs s none)) (hp : ParseIs s (some p)) : er = 0 ∧ o = p := by
  rcases h with ⟨h1, h2⟩ | ⟨_, _, h2⟩
  · have := parseIs_unique h2 hp
    injection this with this
    exact ⟨h1, this⟩
  · cases parseIs_unique h2 hp

set_option maxHeartbeats 2000000 in
set_option maxRecDepth 100000 in
theorem lines_any (w : World) (hL : LW w) : Calls Tryd.prog 12 #[] w fun e w' => e = .returned (.bool true) ∧ Below w.heap.size w w' := by
  have HPA := parse_any sCome49 (by decide) w hL
  have HPR := fun W h => print_any ⟨1, 4, 9, 0⟩ W h
  have e49 : txt sCome49 = .string { data := #[32, 99, 111, 109, 101, 32, 52, 32, 32, 57, 32, 48] } := rfl
  rw [e49] at HPA
  simp only at HPR
  have HL : Hid (LW w) := hL
  have hq := eqOrd 1 4 9 0
  clear e49 hL
  go_enter Tryd.func12, Tryd.ntmps12
  go_wp2_with fail
  refine HPA.mono ?_
  rintro e w1 ⟨o, er, rfl, hP, hb1⟩
  obtain ⟨rfl, rfl⟩ := parse_known hP parse_49
  have E1 : Hid (Below w.heap.size w w1 ∧ LW w1) := ⟨hb1, HL.out.later hb1⟩
  clear hP hb1 HPA
  go_upto_region 2 with (first | (refine wpList_alloc_ord rfl rfl 1 rfl ?_; intro w2 h2 s2) | (refine wpList_store_ord rfl _ _ rfl w1.heap.size noOrd ⟨1, 4, 9, 0⟩ rfl rfl h2.out.1 ?_; intro w3 h3 s3))
  have E3 : Hid (Below w.heap.size w w3 ∧ LW w3 ∧ LOB w3 w1.heap.size ⟨1, 4, 9, 0⟩) := by
    have hb : Below w1.heap.size w1 w3 := h2.out.2.trans (h3.out.2.2 _ (Nat.le_refl _))
    exact ⟨E1.out.1.trans (hb.mono E1.out.1.size), E1.out.2.later hb, h3.out.1⟩
  clear h2 h3 s2 s3 E1
  generalize w1.heap.size = g at *
  go_wp2_with (refine wpList_load_ord rfl _ rfl g ⟨1, 4, 9, 0⟩ rfl E3.out.2.2 ?_)
  refine (HPR _ E3.out.2.1).mono ?_
  rintro e w4 ⟨hPP, hb4⟩
  obtain rfl : e = .returned (.tuple #[.string { data := #[99, 111, 109, 101, 32, 52, 32, 57, 32, 48] }, .int .i64 0]) := by
    rcases hPP with ⟨_, h⟩ | ⟨h, _⟩
    · rw [line_49] at h; exact h
    · exact absurd good49 h
  have E4 : Hid (Below w.heap.size w w4 ∧ LOB w4 g ⟨1, 4, 9, 0⟩) := ⟨E3.out.1.trans (hb4.mono E3.out.1.size), E3.out.2.2.later hb4 E3.out.2.2.lt⟩
  clear hPP hb4 E3 HPR
  go_wp2_with (first | (refine wpList_load_ordx_g (by first | rfl | (simp [Region.wanted, yielded]; done)) _ rfl g 1 4 9 0 rfl E4.out.2 ?_))
  go_ret
  exact ⟨rfl, E4.out.1⟩

set_option maxHeartbeats 4000000 in
set_option maxRecDepth 100000 in
theorem lineBack_any (o : Ord) (s : List UInt8) (w : World) (hL : LW w) (_ : True) (hs : s.length ≤ 9223372036854775807) :
    Calls Tryd.prog 4 #[.agg #[.int .i64 o.kd, .int .i64 o.a, .int .i64 o.b, .int .i64 o.c], txt s] w fun e w' => e = .returned (.bool true) ∧ Below w.heap.size w w' := by
  have HPA := fun s hs W h => parse_any s hs W h
  have HPR := fun o W h => print_any o W h
  have HLI := fun W h => lines_any W h
  have E0 : Hid (Below w.heap.size w (w.alloc (.cells (ordCells o).toArray 23)) ∧ LW (w.alloc (.cells (ordCells o).toArray 23)) ∧ LOB (w.alloc (.cells (ordCells o).toArray 23)) w.heap.size o) := by
    have hb : Below w.heap.size w (w.alloc (.cells (ordCells o).toArray 23)) := (Below.refl _ w).alloc (Nat.le_refl _) _
    exact ⟨hb, hL.later hb, LOB.new w o⟩
  have hz : (ordCells o).toArray = #[.int .i64 o.kd, .int .i64 o.a, .int .i64 o.b, .int .i64 o.c] := rfl
  rw [hz] at E0
  unfold txt at *
  clear hL hz
  go_enter Tryd.func4, Tryd.ntmps4
  go_upto_region 1 with fail
  generalize w.alloc (.cells #[.int .i64 o.kd, .int .i64 o.a, .int .i64 o.b, .int .i64 o.c] 23) = WA at *
  generalize hz : w.heap.size = z at *
  go_wp2_with (refine wpList_load_ord rfl _ rfl z o rfl E0.out.2.2 ?_)
  refine (HPR o _ E0.out.2.1).mono ?_
  rintro e w1 ⟨hPP, hb1⟩
  obtain ⟨lo, er1, rfl, hlo, HPP⟩ : ∃ lo er1, e = .returned (.tuple #[.string ⟨lo.toArray⟩, .int .i64 er1]) ∧ lo.length ≤ 9223372036854775807 ∧ Hid ((GoodO o ∧ er1 = 0 ∧ lo = lineO o) ∨ er1 = 1) := by
    rcases hPP with ⟨hG, rfl⟩ | ⟨_, rfl⟩
    · exact ⟨lineO o, 0, rfl, by have := line_len hG; omega, Or.inl ⟨hG, rfl, rfl⟩⟩
    · exact ⟨[], 1, rfl, by decide, Or.inr rfl⟩
  have E1 : Hid (Below z w w1 ∧ LW w1 ∧ LOB w1 z o ∧ z < w1.heap.size) := ⟨E0.out.1.trans (hb1.mono (Nat.le_of_lt E0.out.2.2.lt)), E0.out.2.1.later hb1, E0.out.2.2.later hb1 E0.out.2.2.lt, Nat.lt_of_lt_of_le E0.out.2.2.lt hb1.size⟩
  clear hPP hb1 E0
  go_wp2_with fail
  refine (HPA lo hlo _ E1.out.2.1).mono ?_
  rintro e w2 ⟨x, er2, rfl, hP, hb2⟩
  have P2 : Hid (er1 = 0 → er2 = 0 ∧ x = o) := fun h => by
    rcases HPP.out with ⟨hG, _, rfl⟩ | h1
    · exact parse_known hP (parse_line hG)
    · rw [h] at h1; cases h1
  have P1 : Hid (er1 = 0 ∨ er1 = 1) := by
    rcases HPP.out with ⟨_, h, _⟩ | h
    · exact Or.inl h
    · exact Or.inr h
  have E2 : Hid (Below z w w2 ∧ LW w2 ∧ LOB w2 z o ∧ z < w2.heap.size) := ⟨E1.out.1.trans (hb2.mono (Nat.le_of_lt E1.out.2.2.2)), E1.out.2.1.later hb2, E1.out.2.2.1.later hb2 E1.out.2.2.2, Nat.lt_of_lt_of_le E1.out.2.2.2 hb2.size⟩
  clear hP hb2 E1 HPP
  go_upto_region 3 with (first | (refine wpList_alloc_ord rfl rfl 7 rfl ?_; intro w3 h3 s3) | (refine wpList_store_ord rfl _ _ rfl w2.heap.size noOrd x rfl rfl h3.out.1 ?_; intro w4 h4 s4))
  have E4 : Hid (Below z w w4 ∧ LW w4 ∧ LOB w4 z o ∧ z < w4.heap.size ∧ LOB w4 w2.heap.size x) := by
    have hb : Below w2.heap.size w2 w4 := h3.out.2.trans (h4.out.2.2 _ (Nat.le_refl _))
    exact ⟨E2.out.1.trans (hb.mono (Nat.le_of_lt E2.out.2.2.2)), E2.out.2.1.later hb, E2.out.2.2.1.later hb E2.out.2.2.2, Nat.lt_of_lt_of_le E2.out.2.2.2 hb.size, h4.out.1⟩
  clear h3 h4 s3 s4 E2
  generalize w2.heap.size = g7 at *
  rcases P1.out with rfl | rfl
  · obtain ⟨rfl, rfl⟩ := P2.out rfl
    obtain ⟨xk, xa, xb, xc⟩ := x
    have hq := eqOrd xk xa xb xc
    clear P1 P2
    go_wp2_with (first | (refine wpList_load_ordx_g (by first | rfl | (simp [Region.wanted, yielded]; done)) _ rfl g7 xk xa xb xc rfl E4.out.2.2.2.2 ?_) | (refine wpList_load_ordx_g (by first | rfl | (simp [Region.wanted, yielded]; done)) _ rfl z xk xa xb xc rfl E4.out.2.2.1 ?_))
    clear hq
    refine (HPA s hs _ E4.out.2.1).mono ?_
    rintro e w5 ⟨x5, er5, rfl, hP, hb5⟩
    have P5 : Hid ((er5 = 0 ∧ ParseIs s (some x5)) ∨ (er5 = 1 ∧ x5 = noOrd ∧ ParseIs s none)) := hP
    have E5 : Hid (Below z w w5 ∧ LW w5 ∧ z < w5.heap.size) := ⟨E4.out.1.trans (hb5.mono (Nat.le_of_lt E4.out.2.2.2.1)), E4.out.2.1.later hb5, Nat.lt_of_lt_of_le E4.out.2.2.2.1 hb5.size⟩
    clear hP hb5 E4
    go_upto_region 6 with (first | (refine wpList_alloc_ord rfl rfl 9 rfl ?_; intro w6 h6 s6) | (refine wpList_store_ord rfl _ _ rfl w5.heap.size noOrd x5 rfl rfl h6.out.1 ?_; intro w7 h7 s7))
    have E7 : Hid (Below z w w7 ∧ LW w7 ∧ LOB w7 w5.heap.size x5 ∧ z < w7.heap.size) := by
      have hb : Below w5.heap.size w5 w7 := h6.out.2.trans (h7.out.2.2 _ (Nat.le_refl _))
      exact ⟨E5.out.1.trans (hb.mono (Nat.le_of_lt E5.out.2.2)), E5.out.2.1.later hb, h7.out.1, Nat.lt_of_lt_of_le E5.out.2.2 hb.size⟩
    clear h6 h7 s6 s7 E5
    generalize w5.heap.size = g9 at *
    go_wp2_with (refine wpList_load_ord rfl _ rfl g9 x5 rfl E7.out.2.2.1 ?_)
    refine (HPR x5 _ E7.out.2.1).mono ?_
    rintro e w8 ⟨hPP, hb8⟩
    obtain ⟨lp, er8, rfl, hlp, HPQ⟩ : ∃ lo er1, e = .returned (.tuple #[.string ⟨lo.toArray⟩, .int .i64 er1]) ∧ lo.length ≤ 9223372036854775807 ∧ Hid ((GoodO x5 ∧ er1 = 0 ∧ lo = lineO x5) ∨ (¬ GoodO x5 ∧ er1 = 1)) := by
      rcases hPP with ⟨hG, rfl⟩ | ⟨hG, rfl⟩
      · exact ⟨lineO x5, 0, rfl, by have := line_len hG; omega, Or.inl ⟨hG, rfl, rfl⟩⟩
      · exact ⟨[], 1, rfl, by decide, Or.inr ⟨hG, rfl⟩⟩
    have E8 : Hid (Below z w w8 ∧ LW w8 ∧ LOB w8 g9 x5 ∧ z < w8.heap.size) := ⟨E7.out.1.trans (hb8.mono (Nat.le_of_lt E7.out.2.2.2)), E7.out.2.1.later hb8, E7.out.2.2.1.later hb8 E7.out.2.2.1.lt, Nat.lt_of_lt_of_le E7.out.2.2.2 hb8.size⟩
    clear hPP hb8 E7 HPR
    go_wp2_with fail
    refine (HPA lp hlp _ E8.out.2.1).mono ?_
    rintro e w9 ⟨y, er9, rfl, hP, hb9⟩
    have P9 : Hid (er5 = 0 → er8 = 0 ∧ er9 = 0 ∧ y = x5) := fun h => by
      rcases P5.out with ⟨_, h5⟩ | ⟨h5, _⟩
      · rcases HPQ.out with ⟨hG, h8, rfl⟩ | ⟨hG, _⟩
        · have := parse_known hP (parse_line hG)
          exact ⟨h8, this.1, this.2⟩
        · exact absurd h5.2.1 hG
      · rw [h] at h5; cases h5
    have P10 : Hid (er5 = 0 ∨ er5 = 1) := by
      rcases P5.out with ⟨h, _⟩ | ⟨h, _⟩
      · exact Or.inl h
      · exact Or.inr h
    have E9 : Hid (Below z w w9 ∧ LW w9 ∧ LOB w9 g9 x5 ∧ g9 < w9.heap.size) := ⟨E8.out.1.trans (hb9.mono (Nat.le_of_lt E8.out.2.2.2)), E8.out.2.1.later hb9, E8.out.2.2.1.later hb9 E8.out.2.2.1.lt, Nat.lt_of_lt_of_le E8.out.2.2.1.lt hb9.size⟩
    have hz9 : z < w9.heap.size := Nat.lt_of_lt_of_le E8.out.2.2.2 hb9.size
    clear hP hb9 E8 HPA HPQ P5
    go_upto_region 8 with (first | (refine wpList_alloc_ord rfl rfl 13 rfl ?_; intro w10 h10 s10) | (refine wpList_store_ord rfl _ _ rfl w9.heap.size noOrd y rfl rfl h10.out.1 ?_; intro w11 h11 s11))
    have E11 : Hid (Below z w w11 ∧ LW w11 ∧ LOB w11 g9 x5 ∧ LOB w11 w9.heap.size y ∧ z ≤ w11.heap.size) := by
      have hb : Below w9.heap.size w9 w11 := h10.out.2.trans (h11.out.2.2 _ (Nat.le_refl _))
      exact ⟨E9.out.1.trans (hb.mono (Nat.le_of_lt hz9)), E9.out.2.1.later hb, E9.out.2.2.1.later hb E9.out.2.2.2, h11.out.1, by have := hb.size; omega⟩
    clear h10 h11 s10 s11 E9 hz9
    generalize w9.heap.size = g13 at *
    rcases P10.out with rfl | rfl
    · obtain ⟨rfl, rfl, rfl⟩ := P9.out rfl
      obtain ⟨yk, ya, yb, yc⟩ := y
      have hq := eqOrd yk ya yb yc
      clear P9 P10
      go_wp2_with (first | (refine wpList_load_ordx_g (by first | rfl | (simp [Region.wanted, yielded]; done)) _ rfl g9 yk ya yb yc rfl E11.out.2.2.1 ?_) | (refine wpList_load_ordx_g (by first | rfl | (simp [Region.wanted, yielded]; done)) _ rfl g13 yk ya yb yc rfl E11.out.2.2.2.1 ?_))
      refine (HLI _ E11.out.2.1).mono ?_
      rintro e w12 ⟨rfl, hb12⟩
      have E12 : Hid (Below z w w12) := E11.out.1.trans (hb12.mono E11.out.2.2.2.2)
      clear hb12 E11 HLI hq
      go_wp2_with fail
      go_ret
      exact ⟨rfl, by rw [hz]; exact E12.out⟩
    · clear P9 P10
      go_wp2_with fail
      refine (HLI _ E11.out.2.1).mono ?_
      rintro e w12 ⟨rfl, hb12⟩
      have E12 : Hid (Below z w w12) := E11.out.1.trans (hb12.mono E11.out.2.2.2.2)
      clear hb12 E11 HLI
      go_wp2_with fail
      go_ret
      exact ⟨rfl, by rw [hz]; exact E12.out⟩
  · clear P1 P2
    go_wp2_with fail
    refine (HPA s hs _ E4.out.2.1).mono ?_
    rintro e w5 ⟨x5, er5, rfl, hP, hb5⟩
    have P5 : Hid ((er5 = 0 ∧ ParseIs s (some x5)) ∨ (er5 = 1 ∧ x5 = noOrd ∧ ParseIs s none)) := hP
    have E5 : Hid (Below z w w5 ∧ LW w5 ∧ z < w5.heap.size) := ⟨E4.out.1.trans (hb5.mono (Nat.le_of_lt E4.out.2.2.2.1)), E4.out.2.1.later hb5, Nat.lt_of_lt_of_le E4.out.2.2.2.1 hb5.size⟩
    clear hP hb5 E4
    go_upto_region 6 with (first | (refine wpList_alloc_ord rfl rfl 9 rfl ?_; intro w6 h6 s6) | (refine wpList_store_ord rfl _ _ rfl w5.heap.size noOrd x5 rfl rfl h6.out.1 ?_; intro w7 h7 s7))
    have E7 : Hid (Below z w w7 ∧ LW w7 ∧ LOB w7 w5.heap.size x5 ∧ z < w7.heap.size) := by
      have hb : Below w5.heap.size w5 w7 := h6.out.2.trans (h7.out.2.2 _ (Nat.le_refl _))
      exact ⟨E5.out.1.trans (hb.mono (Nat.le_of_lt E5.out.2.2)), E5.out.2.1.later hb, h7.out.1, Nat.lt_of_lt_of_le E5.out.2.2 hb.size⟩
    clear h6 h7 s6 s7 E5
    generalize w5.heap.size = g9 at *
    go_wp2_with (refine wpList_load_ord rfl _ rfl g9 x5 rfl E7.out.2.2.1 ?_)
    refine (HPR x5 _ E7.out.2.1).mono ?_
    rintro e w8 ⟨hPP, hb8⟩
    obtain ⟨lp, er8, rfl, hlp, HPQ⟩ : ∃ lo er1, e = .returned (.tuple #[.string ⟨lo.toArray⟩, .int .i64 er1]) ∧ lo.length ≤ 9223372036854775807 ∧ Hid ((GoodO x5 ∧ er1 = 0 ∧ lo = lineO x5) ∨ (¬ GoodO x5 ∧ er1 = 1)) := by
      rcases hPP with ⟨hG, rfl⟩ | ⟨hG, rfl⟩
      · exact ⟨lineO x5, 0, rfl, by have := line_len hG; omega, Or.inl ⟨hG, rfl, rfl⟩⟩
      · exact ⟨[], 1, rfl, by decide, Or.inr ⟨hG, rfl⟩⟩
    have E8 : Hid (Below z w w8 ∧ LW w8 ∧ LOB w8 g9 x5 ∧ z < w8.heap.size) := ⟨E7.out.1.trans (hb8.mono (Nat.le_of_lt E7.out.2.2.2)), E7.out.2.1.later hb8, E7.out.2.2.1.later hb8 E7.out.2.2.1.lt, Nat.lt_of_lt_of_le E7.out.2.2.2 hb8.size⟩
    clear hPP hb8 E7 HPR
    go_wp2_with fail
    refine (HPA lp hlp _ E8.out.2.1).mono ?_
    rintro e w9 ⟨y, er9, rfl, hP, hb9⟩
    have P9 : Hid (er5 = 0 → er8 = 0 ∧ er9 = 0 ∧ y = x5) := fun h => by
      rcases P5.out with ⟨_, h5⟩ | ⟨h5, _⟩
      · rcases HPQ.out with ⟨hG, h8, rfl⟩ | ⟨hG, _⟩
        · have := parse_known hP (parse_line hG)
          exact ⟨h8, this.1, this.2⟩
        · exact absurd h5.2.1 hG
      · rw [h] at h5; cases h5
    have P10 : Hid (er5 = 0 ∨ er5 = 1) := by
      rcases P5.out with ⟨h, _⟩ | ⟨h, _⟩
      · exact Or.inl h
      · exact Or.inr h
    have E9 : Hid (Below z w w9 ∧ LW w9 ∧ LOB w9 g9 x5 ∧ g9 < w9.heap.size) := ⟨E8.out.1.trans (hb9.mono (Nat.le_of_lt E8.out.2.2.2)), E8.out.2.1.later hb9, E8.out.2.2.1.later hb9 E8.out.2.2.1.lt, Nat.lt_of_lt_of_le E8.out.2.2.1.lt hb9.size⟩
    have hz9 : z < w9.heap.size := Nat.lt_of_lt_of_le E8.out.2.2.2 hb9.size
    clear hP hb9 E8 HPA HPQ P5
    go_upto_region 8 with (first | (refine wpList_alloc_ord rfl rfl 13 rfl ?_; intro w10 h10 s10) | (refine wpList_store_ord rfl _ _ rfl w9.heap.size noOrd y rfl rfl h10.out.1 ?_; intro w11 h11 s11))
    have E11 : Hid (Below z w w11 ∧ LW w11 ∧ LOB w11 g9 x5 ∧ LOB w11 w9.heap.size y ∧ z ≤ w11.heap.size) := by
      have hb : Below w9.heap.size w9 w11 := h10.out.2.trans (h11.out.2.2 _ (Nat.le_refl _))
      exact ⟨E9.out.1.trans (hb.mono (Nat.le_of_lt hz9)), E9.out.2.1.later hb, E9.out.2.2.1.later hb E9.out.2.2.2, h11.out.1, by have := hb.size; omega⟩
    clear h10 h11 s10 s11 E9 hz9
    generalize w9.heap.size = g13 at *
    rcases P10.out with rfl | rfl
    · obtain ⟨rfl, rfl, rfl⟩ := P9.out rfl
      obtain ⟨yk, ya, yb, yc⟩ := y
      have hq := eqOrd yk ya yb yc
      clear P9 P10
      go_wp2_with (first | (refine wpList_load_ordx_g (by first | rfl | (simp [Region.wanted, yielded]; done)) _ rfl g9 yk ya yb yc rfl E11.out.2.2.1 ?_) | (refine wpList_load_ordx_g (by first | rfl | (simp [Region.wanted, yielded]; done)) _ rfl g13 yk ya yb yc rfl E11.out.2.2.2.1 ?_))
      refine (HLI _ E11.out.2.1).mono ?_
      rintro e w12 ⟨rfl, hb12⟩
      have E12 : Hid (Below z w w12) := E11.out.1.trans (hb12.mono E11.out.2.2.2.2)
      clear hb12 E11 HLI hq
      go_wp2_with fail
      go_ret
      exact ⟨rfl, by rw [hz]; exact E12.out⟩
    · clear P9 P10
      go_wp2_with fail
      refine (HLI _ E11.out.2.1).mono ?_
      rintro e w12 ⟨rfl, hb12⟩
      have E12 : Hid (Below z w w12) := E11.out.1.trans (hb12.mono E11.out.2.2.2.2)
      clear hb12 E11 HLI
      go_wp2_with fail
      go_ret
      exact ⟨rfl, by rw [hz]; exact E12.out⟩

end Go.Proofs.YtcmdoeledmkfmabDoor
