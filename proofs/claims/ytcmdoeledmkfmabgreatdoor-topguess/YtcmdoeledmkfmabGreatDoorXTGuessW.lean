/- Texts of this claim, in one: TGuessW. -/
import Derived.Test.YtcmdoeledmkfmabGreatDoorXTBase
import Derived.Test.YtcmdoeledmkfmabGreatDoorQL
/- TopGuess: who asks when one would come in is told when it does, and nothing has changed: P5.5. -/
set_option linter.unusedSimpArgs false
set_option linter.unusedVariables false
namespace Go.Proofs.YtcmdoeledmkfmabGreatDoor
open Go.RowKit

theorem guess_told {D D1 : Dk} {a b c n er : Int} (h : LineIs D (lineO ⟨13, a, b, c⟩) D1 er n) (hn : D.n < 250) (hg : GoodO ⟨13, a, b, c⟩) : D1 = { D with n := D.n + 1 } ∧ GuessIs D.p a b c n er := by
  have := lineIs_told h hn (parse_line hg)
  unfold ObsIs at this
  simp only [show ¬ ((13 : Int) = 9) by decide, show ¬ ((13 : Int) = 10) by decide, show ¬ ((13 : Int) = 11) by decide, show ¬ ((13 : Int) = 12) by decide, if_false, if_true] at this
  exact this

theorem ask_told {D D1 : Dk} {a n er : Int} (h : LineIs D (lineO ⟨14, a, 0, 0⟩) D1 er n) (hn : D.n < 250) (hg : GoodO ⟨14, a, 0, 0⟩) : AsksIs D.p a n er := by
  have := lineIs_told h hn (parse_line hg)
  unfold ObsIs at this
  simp only [show ¬ ((14 : Int) = 9) by decide, show ¬ ((14 : Int) = 10) by decide, show ¬ ((14 : Int) = 11) by decide, show ¬ ((14 : Int) = 12) by decide, show ¬ ((14 : Int) = 13) by decide, if_false, if_true] at this
  exact this.2

/-- what was guessed, and what comes of it -/
theorem guess_come {D D1 D2 : Dk} {a b c nx ex ny ey : Int} (h1 : LineIs D (lineO ⟨13, a, b, c⟩) D1 ex nx) (hn : D.n < 240) (hg1 : GoodO ⟨13, a, b, c⟩) (h2 : LineIs D1 (lineO ⟨1, a, b, c⟩) D2 ey ny) (hg2 : GoodO ⟨1, a, b, c⟩) :
    ey = ex ∧ D1.p = D.p ∧ (ex = 0 → 0 ≤ ny ∧ ny < 1000 ∧ ∀ er n, AsksIs D2.p ny n er → er = 0 ∧ n = nx) := by
  obtain ⟨rfl, m, q, hT, hc⟩ := guess_told h1 (by omega) hg1
  obtain ⟨m', q', hT', hc'⟩ := told_order h2 (by show D.n + 1 < 250; omega) hg2 (by show (1 : Int) < 9; decide)
  obtain ⟨rfl, rfl, rfl⟩ := tellIs_unique hT hT'
  refine ⟨rfl, rfl, fun he => ?_⟩
  subst he
  rcases hc with ⟨h, _⟩ | ⟨_, pl, hpl, rfl⟩
  · exact absurd rfl h
  rcases hc' with ⟨h, _⟩ | ⟨_, rfl, r, hr, rfl⟩
  · exact absurd rfl h
  obtain ⟨_, _, hm, _, hp⟩ := come_is hT
  have := hp.port.len
  exact ⟨by omega, by omega, fun er n hA => guess_math hT hpl rfl hr hA⟩

theorem goodO_ask {n : Int} (h0 : 0 ≤ n) (h1 : n < 1000) : GoodO ⟨14, n, 0, 0⟩ := by
  refine goodO_of ⟨by decide, ?_, by decide, by decide⟩
  show -1073741824 ≤ n ∧ n ≤ 1073741824
  omega

set_option maxHeartbeats 4000000 in
set_option maxRecDepth 100000 in
theorem topGuess_any (v : Value) (l : List (List UInt8)) (a b c : Int) (w : World) (hL : LW w) (hs : SlK cStr w v l) (hln : ∀ y ∈ l, y.length ≤ 9223372036854775807) (hll : l.length ≤ 8796093022208) (ha : (Lit.int .i64 a).wf = true) (hb : (Lit.int .i64 b).wf = true) (hc : (Lit.int .i64 c).wf = true) :
    Calls Tryz.prog 8 #[v, .int .i64 a, .int .i64 b, .int .i64 c] w fun e w' => e = .returned (.bool true) ∧ Below w.heap.size w w' := by
  have HP := fun W h1 h2 => playQuiet_any v l W h1 h2 hln hll
  have HPR := fun W h => print_any ⟨13, a, b, c⟩ W h
  have HPR2 := fun W h => print_any ⟨1, a, b, c⟩ W h
  have HS := fun d h D H W h1 h2 => same_any d h D H W h1 h2
  have E0 : Hid (LW w ∧ SlK cStr w v l) := ⟨hL, hs⟩
  obtain ⟨pa, cap, hv⟩ : ∃ a cap, v = .slice a l.length cap := by obtain ⟨a, cap, h, _⟩ := hs; exact ⟨a, cap, h⟩
  subst hv
  clear hL hs hln ha hb hc
  simp only at HPR HPR2
  go_enter Tryz.func8, Tryz.ntmps8
  go_wp2_with fail
  refine (HP _ E0.out.1 E0.out.2).mono ?_
  rintro e w1 ⟨d, rfl, h1⟩
  obtain ⟨D, hD⟩ := h1.out
  have E1 : Hid (PD l w w1 d D ∧ SlK cStr w1 (.slice pa l.length cap) l) := ⟨hD, slK_below E0.out.2 (Nat.le_refl _) hD.below⟩
  clear h1 hD E0
  go_wp2_with fail
  refine (HP _ E1.out.1.ds.lw E1.out.2).mono ?_
  rintro e w2 ⟨h, rfl, h2⟩
  obtain ⟨H, hH⟩ := h2.out
  obtain rfl := E1.out.1.twice hH
  have hn80 := hH.n
  have E2 : Hid (DS w2 d H ∧ DS w2 h H ∧ Below w.heap.size w w2 ∧ w.heap.size ≤ d ∧ d ≠ h) := ⟨E1.out.1.ds.later hH.below, hH.ds, E1.out.1.below.trans (hH.below.mono E1.out.1.below.size), E1.out.1.new, by have := E1.out.1.lt; have := hH.new; omega⟩
  clear h2 hH E1 HP
  go_wp2_with fail
  refine (HPR _ E2.out.1.lw).mono ?_
  rintro e w3 ⟨hPP, hb3⟩
  obtain ⟨lo, er1, rfl, HPP⟩ : ∃ lo er1, e = .returned (.tuple #[.string ⟨lo.toArray⟩, .int .i64 er1]) ∧ Hid ((GoodO ⟨13, a, b, c⟩ ∧ er1 = 0 ∧ lo = lineO ⟨13, a, b, c⟩) ∨ er1 = 1) := by
    rcases hPP with ⟨hG, rfl⟩ | ⟨_, rfl⟩
    · exact ⟨_, 0, rfl, Or.inl ⟨hG, rfl, rfl⟩⟩
    · exact ⟨[], 1, rfl, Or.inr rfl⟩
  have E3 : Hid (DS w3 d H ∧ DS w3 h H ∧ Below w.heap.size w w3 ∧ w.heap.size ≤ d ∧ d ≠ h) := ⟨E2.out.1.later hb3, E2.out.2.1.later hb3, E2.out.2.2.1.trans (hb3.mono E2.out.2.2.1.size), E2.out.2.2.2⟩
  clear E2 hb3 HPR hPP
  go_wp2_with fail
  refine (HPR2 _ E3.out.1.lw).mono ?_
  rintro e w4 ⟨hPP, hb4⟩
  obtain ⟨lp, er2, rfl, HPQ⟩ : ∃ lo er1, e = .returned (.tuple #[.string ⟨lo.toArray⟩, .int .i64 er1]) ∧ Hid ((GoodO ⟨1, a, b, c⟩ ∧ er1 = 0 ∧ lo = lineO ⟨1, a, b, c⟩) ∨ er1 = 1) := by
    rcases hPP with ⟨hG, rfl⟩ | ⟨_, rfl⟩
    · exact ⟨_, 0, rfl, Or.inl ⟨hG, rfl, rfl⟩⟩
    · exact ⟨[], 1, rfl, Or.inr rfl⟩
  have E4 : Hid (DS w4 d H ∧ DS w4 h H ∧ Below w.heap.size w w4 ∧ w.heap.size ≤ d ∧ d ≠ h) := ⟨E3.out.1.later hb4, E3.out.2.1.later hb4, E3.out.2.2.1.trans (hb4.mono E3.out.2.2.1.size), E3.out.2.2.2⟩
  clear E3 hb4 HPR2 hPP
  rcases HPP.out with ⟨hG1, rfl, hlo⟩ | rfl
  case inr =>
    go_wp2_with fail
    go_ret
    exact ⟨rfl, E4.out.2.2.1⟩
  rcases HPQ.out with ⟨hG2, rfl, hlp⟩ | rfl
  case inr =>
    go_wp2_with fail
    go_ret
    exact ⟨rfl, E4.out.2.2.1⟩
  have HG : Hid ((GoodO ⟨13, a, b, c⟩ ∧ lo = lineO ⟨13, a, b, c⟩) ∧ GoodO ⟨1, a, b, c⟩ ∧ lp = lineO ⟨1, a, b, c⟩) := ⟨⟨hG1, hlo⟩, hG2, hlp⟩
  have HT := fun D W h => tell_ds d D lo W h (by have := line_len hG1; rw [hlo]; omega)
  have HT2 := fun D W h => tell_ds d D lp W h (by have := line_len hG2; rw [hlp]; omega)
  unfold txt at HT HT2
  clear hG1 hlo hG2 hlp HPP HPQ
  go_wp2_with fail
  refine (HT H _ E4.out.1).mono ?_
  rintro e w5 ⟨ex, nx, rfl, h5⟩
  obtain ⟨D1, j1, j2, j3⟩ := h5.out
  rw [HG.out.1.2] at j1
  have E5 : Hid (DS w5 d D1 ∧ DS w5 h H ∧ Below w.heap.size w w5 ∧ w.heap.size ≤ d ∧ LineIs H (lineO ⟨13, a, b, c⟩) D1 ex nx) := ⟨j2, E4.out.2.1.other E4.out.1 j3 (fun e => E4.out.2.2.2.2 e.symm), E4.out.2.2.1.trans (j3.below.mono E4.out.2.2.2.1), E4.out.2.2.2.1, j1⟩
  clear h5 j1 j2 j3 E4 HT
  go_upto_region 10 with (first | (refine wpList_alloc_rep rfl rfl 17 rfl ?_; intro w6 h6 s6) | (refine wpList_store_rep rfl _ _ rfl w5.heap.size 0 0 ex nx rfl rfl h6.out.1 ?_; intro w7 h7 s7))
  have E7 : Hid (DS w7 d D1 ∧ DS w7 h H ∧ Below w.heap.size w w7 ∧ w.heap.size ≤ d ∧ LineIs H (lineO ⟨13, a, b, c⟩) D1 ex nx ∧ RB w7 w5.heap.size ex nx ∧ d < w5.heap.size) := by
    have hb : Below w5.heap.size w5 w7 := h6.out.2.trans (h7.out.2.2 _ (Nat.le_refl _))
    exact ⟨E5.out.1.later hb, E5.out.2.1.later hb, E5.out.2.2.1.trans (hb.mono E5.out.2.2.1.size), E5.out.2.2.2.1, E5.out.2.2.2.2, h7.out.1, E5.out.1.lt⟩
  clear h6 h7 s6 s7 E5
  generalize w5.heap.size = gx at *
  go_wp2_with fail
  refine (HS d h D1 H _ E7.out.1 E7.out.2.1).mono ?_
  rintro e w8 ⟨⟨bb, rfl, hbb⟩, hb8⟩
  obtain rfl : bb = true := hbb.2 (by rw [(guess_told E7.out.2.2.2.2.1 (by omega) HG.out.1.1).1])
  have E8 : Hid (DS w8 d D1 ∧ Below w.heap.size w w8 ∧ w.heap.size ≤ d ∧ LineIs H (lineO ⟨13, a, b, c⟩) D1 ex nx ∧ RB w8 gx ex nx ∧ d < gx) := ⟨E7.out.1.later hb8, E7.out.2.2.1.trans (hb8.mono E7.out.2.2.1.size), E7.out.2.2.2.1, E7.out.2.2.2.2.1, E7.out.2.2.2.2.2.1.later hb8, E7.out.2.2.2.2.2.2⟩
  clear hbb hb8 E7 HS
  go_wp2_with fail
  refine (HT2 D1 _ E8.out.1).mono ?_
  rintro e w9 ⟨ey, ny, rfl, h9⟩
  obtain ⟨D2, j1, j2, j3⟩ := h9.out
  rw [HG.out.2.2] at j1
  have GC := guess_come E8.out.2.2.2.1 (by omega) HG.out.1.1 j1 HG.out.2.1
  obtain rfl := GC.1
  have hD1 := (guess_told E8.out.2.2.2.1 (by omega) HG.out.1.1).1
  have hn2 : D2.n < 250 := by
    have h1 := (lineIs_ok E8.out.1.ok j1).2 (by rw [hD1]; show H.n + 1 < 250; omega)
    rw [h1, hD1]; show H.n + 1 + 1 < 250; omega
  have E9 : Hid (DS w9 d D2 ∧ Below w.heap.size w w9 ∧ w.heap.size ≤ d ∧ RB w9 gx ey nx ∧ d < gx ∧ gx < w9.heap.size) := ⟨j2, E8.out.2.1.trans (j3.below.mono E8.out.2.2.1), E8.out.2.2.1, E8.out.2.2.2.2.1.fr j3 (by have := E8.out.2.2.2.2.2; omega), E8.out.2.2.2.2.2, Nat.lt_of_lt_of_le E8.out.2.2.2.2.1.lt j3.size⟩
  have HGC : Hid (ey = 0 → 0 ≤ ny ∧ ny < 1000 ∧ ∀ er n, AsksIs D2.p ny n er → er = 0 ∧ n = nx) := GC.2.2
  clear h9 j1 j2 j3 E8 HT2 GC hD1 HG
  go_upto_region 13 with (first | (refine wpList_alloc_rep rfl rfl 18 rfl ?_; intro w10 h10 s10) | (refine wpList_store_rep rfl _ _ rfl w9.heap.size 0 0 ey ny rfl rfl h10.out.1 ?_; intro w11 h11 s11))
  have E11 : Hid (DS w11 d D2 ∧ Below w.heap.size w w11 ∧ w.heap.size ≤ d ∧ RB w11 gx ey nx ∧ RB w11 w9.heap.size ey ny ∧ d < gx) := by
    have hb : Below w9.heap.size w9 w11 := h10.out.2.trans (h11.out.2.2 _ (Nat.le_refl _))
    exact ⟨E9.out.1.later hb, E9.out.2.1.trans (hb.mono E9.out.2.1.size), E9.out.2.2.1, E9.out.2.2.2.1.later hb, h11.out.1, E9.out.2.2.2.2.1⟩
  clear h10 h11 s10 s11 E9
  generalize w9.heap.size = gy at *
  obtain ⟨x0, x1⟩ := E11.out.2.2.2.1.cells
  obtain ⟨y0, y1⟩ := E11.out.2.2.2.2.1.cells
  by_cases he : ey = 0
  case neg =>
    have hne : (ey != 0) = true := by simp [he]
    clear HGC he
    go_wp2_with fail
    go_ret
    exact ⟨rfl, E11.out.2.1⟩
  subst he
  obtain ⟨hy0, hy1, hAs⟩ := HGC.out rfl
  have HAS : Hid (∀ er n, AsksIs D2.p ny n er → er = 0 ∧ n = nx) := hAs
  have hGa := goodO_ask hy0 hy1
  have HPR := fun W h => print_any ⟨14, ny, 0, 0⟩ W h
  have HT := fun W h => tell_ds d D2 (lineO ⟨14, ny, 0, 0⟩) W h (by have := line_len hGa; omega)
  have GA : Hid (GoodO ⟨14, ny, 0, 0⟩) := hGa
  simp only at HPR
  unfold txt at HT
  clear HGC hAs hGa
  go_wp2_with fail
  clear x0 x1 y0 y1
  refine (HPR _ E11.out.1.lw).mono ?_
  rintro e w12 ⟨hPP, hb12⟩
  obtain rfl : e = .returned (.tuple #[.string ⟨(lineO ⟨14, ny, 0, 0⟩).toArray⟩, .int .i64 0]) := by
    rcases hPP with ⟨_, h⟩ | ⟨h, _⟩
    · exact h
    · exact absurd GA.out h
  have E12 : Hid (DS w12 d D2 ∧ Below w.heap.size w w12 ∧ w.heap.size ≤ d ∧ RB w12 gx 0 nx ∧ d < gx) := ⟨E11.out.1.later hb12, E11.out.2.1.trans (hb12.mono E11.out.2.1.size), E11.out.2.2.1, E11.out.2.2.2.1.later hb12, E11.out.2.2.2.2.2⟩
  clear hPP hb12 E11 HPR
  generalize hla : lineO ⟨14, ny, 0, 0⟩ = la at *
  have HLA : Hid (lineO ⟨14, ny, 0, 0⟩ = la) := hla
  clear hla
  go_upto_region 16 with fail
  have ED : Hid (DS w12.drew d D2) := E12.out.1.later (Below.refl _ _).drew
  refine wp_region_held_drew (S := fun W => Hid (RB W gx 0 nx)) (by kernel_rfl) (E12.out.2.2.2.1.later (Below.refl _ _).drew) (fun hHeld => ?_)
  refine wpAnyH_take (i := 0) (oi := { dst := some 89, op := Go.Op.move (Go.Operand.tmp 20), type := 23, pos := "top.go:168", after := #[], guard := none }) (v := ?_) rfl (by kernel_rfl) (by kernel_rfl) (by kernel_rfl) (fun _ _ _ h => h) (Or.inl ⟨by rfl, ?_⟩) hHeld ?_
  rotate_left
  · (intro w hSw; first | (go_simp; done) | (go_simp; with_reducible rfl))
  simp only [Act.put, List.setIfInBounds_toArray, List.set_cons_zero, List.set_cons_succ]
  refine wpAnyH_take (i := 1) (oi := { dst := some 90, op := Go.Op.binOp Go.BinOp.eql 23 (Go.Operand.tmp 89) (Go.Operand.const (Go.Value.int Go.IntKind.i64 0)) 23, type := 4, pos := "top.go:168", after := #[{ on := 0, ground := Go.Ground.data }], guard := none }) (v := ?_) rfl (by kernel_rfl) (by kernel_rfl) (by kernel_rfl) (fun _ _ _ h => h) (Or.inl ⟨by rfl, ?_⟩) hHeld ?_
  rotate_left
  · (intro w hSw; first | (go_simp; done) | (go_simp; with_reducible rfl))
  simp only [Act.put, List.setIfInBounds_toArray, List.set_cons_zero, List.set_cons_succ]
  refine wpAnyH_take (i := 2) (oi := { dst := some 91, op := Go.Op.move (Go.Operand.tmp 90), type := 4, pos := "top.go:168", after := #[{ on := 1, ground := Go.Ground.data }], guard := none }) (v := ?_) rfl (by kernel_rfl) (by kernel_rfl) (by kernel_rfl) (fun _ _ _ h => h) (Or.inl ⟨by rfl, ?_⟩) hHeld ?_
  rotate_left
  · (intro w hSw; first | (go_simp; done) | (go_simp; with_reducible rfl))
  simp only [Act.put, List.setIfInBounds_toArray, List.set_cons_zero, List.set_cons_succ]
  refine wpAnyH_take (i := 3) (oi := { dst := some 92, op := Go.Op.move (Go.Operand.tmp 9), type := 22, pos := "top.go:168", after := #[{ on := 2, ground := Go.Ground.guard }], guard := some (2, true) }) (v := ?_) rfl (by kernel_rfl) (by kernel_rfl) (by kernel_rfl) (fun _ _ _ h => h) (Or.inl ⟨by rfl, ?_⟩) hHeld ?_
  rotate_left
  · (intro w hSw; first | (go_simp; done) | (go_simp; with_reducible rfl))
  simp only [Act.put, List.setIfInBounds_toArray, List.set_cons_zero, List.set_cons_succ]
  refine wpAnyH_take (i := 4) (oi := { dst := some 93, op := Go.Op.move (Go.Operand.tmp 19), type := 9, pos := "top.go:168", after := #[{ on := 2, ground := Go.Ground.guard }], guard := some (2, true) }) (v := ?_) rfl (by kernel_rfl) (by kernel_rfl) (by kernel_rfl) (fun _ _ _ h => h) (Or.inl ⟨by rfl, ?_⟩) hHeld ?_
  rotate_left
  · (intro w hSw; first | (go_simp; done) | (go_simp; with_reducible rfl))
  simp only [Act.put, List.setIfInBounds_toArray, List.set_cons_zero, List.set_cons_succ]
  refine wpAnyH_take (i := 6) (oi := { dst := some 95, op := Go.Op.load 25 (Go.Operand.tmp 17), type := 25, pos := "top.go:168", after := #[{ on := 2, ground := Go.Ground.guard }], guard := some (2, true) }) (v := .agg #[.int .i64 0, .int .i64 nx]) rfl (by kernel_rfl) (by kernel_rfl) (by kernel_rfl) (fun _ _ _ h => h) (yieldsIf_load_mid (by rfl) 25 (.tmp 17) rfl gx 0 rfl [.int .i64 0, .int .i64 nx] _ (fun W hW => hW.out.whole) Tryz.underlying25 rfl (by rw [sizeRep]; rfl)) hHeld ?_
  simp only [Act.put, List.setIfInBounds_toArray, List.set_cons_zero, List.set_cons_succ]
  refine wpAnyH_ready (rs := [5]) (by kernel_rfl) (by simp) ?_
  refine AllReadyH.cons rfl (fun K hK => ?_) AllReadyH.nil
  go_simp
  refine (HT _ ED.out).mono ?_
  rintro e w13 ⟨ez, nz, rfl, h13⟩
  obtain ⟨D3, j1, j2, j3⟩ := h13.out
  rw [← HLA.out] at j1
  obtain ⟨rfl, rfl⟩ := HAS.out _ _ (ask_told j1 hn2 GA.out)
  have R13 : Hid (RB w13 gx 0 nz) := hHeld.out.fr j3 (by have := E12.out.2.2.2.2; omega)
  have B13 : Hid (Below w.heap.size w w13) := E12.out.2.1.drew.trans (j3.below.mono E12.out.2.2.1)
  clear h13 j1 j2 j3 HT E12 ED hHeld HAS
  go_wp2_with fail
  refine hK.out _ _ R13 (fun hHeld => ?_)
  clear hK K
  have hEq := eqlRep_same 0 nz
  refine wpAnyH_take (i := 7) (oi := { dst := some 96, op := Go.Op.binOp Go.BinOp.eql 25 (Go.Operand.tmp 94) (Go.Operand.tmp 95) 25, type := 4, pos := "top.go:168", after := #[{ on := 5, ground := Go.Ground.data }, { on := 6, ground := Go.Ground.data }, { on := 2, ground := Go.Ground.guard }], guard := some (2, true) }) (v := ?_) rfl (by kernel_rfl) (by kernel_rfl) (by kernel_rfl) (fun _ _ _ h => h) (Or.inl ⟨by rfl, ?_⟩) hHeld ?_
  rotate_left
  · (intro w hSw; first | (go_simp; done) | (go_simp; with_reducible rfl))
  simp only [Act.put, List.setIfInBounds_toArray, List.set_cons_zero, List.set_cons_succ]
  refine wpAnyH_take (i := 8) (oi := { dst := some 97, op := Go.Op.pick (Go.Operand.tmp 91) (Go.Operand.tmp 96) (Go.Operand.const (Go.Value.bool false)), type := 4, pos := "top.go:168", after := #[{ on := 2, ground := Go.Ground.data }, { on := 7, ground := Go.Ground.data }], guard := none }) (v := ?_) rfl (by kernel_rfl) (by kernel_rfl) (by kernel_rfl) (fun _ _ _ h => h) (Or.inl ⟨by rfl, ?_⟩) hHeld ?_
  rotate_left
  · (intro w hSw; first | (go_simp; done) | (go_simp; with_reducible rfl))
  simp only [Act.put, List.setIfInBounds_toArray, List.set_cons_zero, List.set_cons_succ]
  refine wpAnyH_take (i := 9) (oi := { dst := some 8, op := Go.Op.assign (Go.Operand.tmp 97), type := 4, pos := "top.go:168", after := #[{ on := 8, ground := Go.Ground.data }, { on := 5, ground := Go.Ground.chain }, { on := 0, ground := Go.Ground.phase }, { on := 1, ground := Go.Ground.phase }, { on := 2, ground := Go.Ground.phase }, { on := 3, ground := Go.Ground.phase }, { on := 4, ground := Go.Ground.phase }, { on := 5, ground := Go.Ground.phase }, { on := 6, ground := Go.Ground.phase }, { on := 7, ground := Go.Ground.phase }, { on := 8, ground := Go.Ground.phase }], guard := none }) (v := ?_) rfl (by kernel_rfl) (by kernel_rfl) (by kernel_rfl) (fun _ _ _ h => h) (Or.inl ⟨by rfl, ?_⟩) hHeld ?_
  rotate_left
  · (intro w hSw; first | (go_simp; done) | (go_simp; with_reducible rfl))
  simp only [Act.put, List.setIfInBounds_toArray, List.set_cons_zero, List.set_cons_succ]
  refine wpAnyH_done (by kernel_rfl) ?_ _
  clear hHeld R13
  go_wp2_with fail
  go_ret
  exact ⟨rfl, B13.out⟩

end Go.Proofs.YtcmdoeledmkfmabGreatDoor
