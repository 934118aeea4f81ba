/- Texts of this claim, in one: TKeepsW. -/
import Derived.Test.YtcmdoeledmkfmabGreatDoorXTBase
import Derived.Test.YtcmdoeledmkfmabGreatDoorQL
import Derived.Test.YtcmdoeledmkfmabGreatDoorQB
/- TopKeeps: room is kept just if what lies, is kept and is shut leaves it: P5.2, P2.6. -/
set_option linter.unusedSimpArgs false
set_option linter.unusedVariables false
namespace Go.Proofs.YtcmdoeledmkfmabGreatDoor
open Go.RowKit

theorem keep_told {D D' : Dk} {a b c er n : Int} (h : LineIs D (lineO ⟨6, a, b, c⟩) D' er n) (hn : D.n < 250) (hp : IsPort D.p) (hg : GoodO ⟨6, a, b, c⟩) :
    (¬ okKeep D.p a b c → er = 2) ∧ (okKeep D.p a b c → (∀ (j : Nat) k, D.p.kept[j]? = some k → isNo k = false) → er = 5) ∧
    (okKeep D.p a b c → (∃ j, Fst D.p.kept j) → (roomF (baseAt D.p) a b (c - b) → er = 0) ∧ (¬ roomF (baseAt D.p) a b (c - b) → er = 6)) := by
  obtain ⟨m, q, hT, _⟩ := told_order h hn hg (by show (6 : Int) < 9; decide)
  exact keep_math hp hT

/-- a place is free, or none is -/
theorem fst_or (l : List Kp) : (∃ j, Fst l j) ∨ ∀ (j : Nat) k, l[j]? = some k → isNo k = false := by
  induction l with
  | nil => exact Or.inr fun j k h => by simp at h
  | cons x r ih =>
    cases hx : isNo x
    · rcases ih with ⟨j, ⟨k, hk, h1⟩, h2⟩ | h
      · refine Or.inl ⟨j + 1, ⟨k, by simpa using hk, h1⟩, fun j' k' hj hk' => ?_⟩
        cases j' with
        | zero => simp at hk'; rw [← hk']; exact hx
        | succ j' => exact h2 j' k' (by omega) (by simpa using hk')
      · refine Or.inr fun j k hk => ?_
        cases j with
        | zero => simp at hk; rw [← hk]; exact hx
        | succ j => exact h j k (by simpa using hk)
    · exact Or.inl ⟨0, ⟨x, rfl, hx⟩, fun j' k hj => absurd hj (Nat.not_lt_zero _)⟩

theorem wide_isNo {k : Kp} (h : IsKept k) : (0 < k.wd ↔ isNo k = false) := by
  unfold isNo
  rcases h with ⟨h1, h2, h3⟩ | ⟨h1, h2, h3, h4⟩
  · simp [h1, h2, h3]
  · constructor
    · intro _
      simp
      omega
    · intro _
      omega

/-- all of the first j are wide -/
def WideTo (l : List Kp) (j : Nat) (b : Bool) : Prop := b = true ↔ ∀ (i : Nat) k, i < j → l[i]? = some k → 0 < k.wd

theorem WideTo.succ {l : List Kp} {j : Nat} {b : Bool} {k : Kp} (h : WideTo l j b) (hk : l[j]? = some k) : WideTo l (j + 1) (b && decide (0 < k.wd)) := by
  unfold WideTo at *
  rw [Bool.and_eq_true, h, decide_eq_true_iff]
  constructor
  · rintro ⟨h1, h2⟩ i k' hi hk'
    by_cases e : i = j
    · subst e; rw [hk] at hk'; injection hk' with hk'; rw [← hk']; exact h2
    · exact h1 i k' (by omega) hk'
  · intro h1
    exact ⟨fun i k' hi hk' => h1 i k' (by omega) hk', h1 j k (by omega) hk⟩

set_option maxHeartbeats 4000000 in
set_option maxRecDepth 100000 in
theorem topKeeps_any (v : Value) (l : List (List UInt8)) (a b c : Int) (w : World) (hL : LW w) (hs : SlK cStr w v l) (hln : ∀ y ∈ l, y.length ≤ 9223372036854775807) (hll : l.length ≤ 8796093022208) (ha : (Lit.int .i64 a).wf = true) (hb : (Lit.int .i64 b).wf = true) (hc : (Lit.int .i64 c).wf = true) :
    Calls Tryz.prog 10 #[v, .int .i64 a, .int .i64 b, .int .i64 c] w fun e w' => e = .returned (.bool true) ∧ Below w.heap.size w w' := by
  have HP := playQuiet_any v l w hL hs hln hll
  have HPR := fun W h => print_any ⟨6, a, b, c⟩ W h
  obtain ⟨pa, cap, hv⟩ : ∃ a cap, v = .slice a l.length cap := by obtain ⟨a, cap, h, _⟩ := hs; exact ⟨a, cap, h⟩
  subst hv
  clear hL hs hln ha hb hc
  simp only at HPR
  go_enter Tryz.func10, Tryz.ntmps10
  go_wp2_with fail
  refine HP.mono ?_
  rintro e w1 ⟨d, rfl, h1⟩
  obtain ⟨D, hD⟩ := h1.out
  have E1 : Hid (PD l w w1 d D) := hD
  have h4 := hD.ds.ok.port.port.four
  have hsn := hD.ds.ok.port.port.len
  clear h1 hD HP
  go_wp2_with fail
  refine (HPR _ E1.out.ds.lw).mono ?_
  rintro e w2 ⟨hPP, hb2⟩
  have E2 : Hid (PD l w w2 d D) := E1.out.later hb2
  clear E1 hb2 HPR
  rcases hPP with ⟨hG, rfl⟩ | ⟨_, rfl⟩
  case inr =>
    unfold txt
    go_wp2_with fail
    go_ret
    exact ⟨rfl, E2.out.below⟩
  have HG : Hid (GoodO ⟨6, a, b, c⟩) := hG
  have hlo := line_len hG
  clear hG
  have HT := fun W h => tell_ds d D (lineO ⟨6, a, b, c⟩) W h (by omega)
  unfold txt at HT
  unfold txt
  generalize hlo' : lineO ⟨6, a, b, c⟩ = lo at *
  have HLO : Hid (lineO ⟨6, a, b, c⟩ = lo) := hlo'
  clear hlo hlo'
  go_wp2_with fail
  refine (deskPort_any d D _ E2.out.ds.dsk E2.out.ds.ok).mono ?_
  rintro e w3 ⟨v3, rfl, h3⟩
  have E3 : Hid (PD l w w3 d D ∧ RowT 51 cShip w3 v3 D.p.ships) := ⟨E2.out.later h3.out.2, RowT.own h3.out.1⟩
  have on3 : v3.oneCell' = true := E3.out.2.one
  clear h3 E2
  generalize hPC : (portCells D.p v3).toArray = PC at *
  have HPC : Hid ((portCells D.p v3).toArray = PC) := hPC
  clear hPC
  go_upto_region 8 with (first | (refine wpList_alloc_box rfl rfl 13 rfl ?_; intro w4 h4' s4) | (refine wpList_store_box rfl _ _ rfl w3.heap.size zeroPt D.p (.slice none 0 0) v3 rfl (by rw [← HPC.out]; rfl) h4'.out.1 h4 on3 ?_; intro w5 h5 s5))
  have E5 : Hid (PD l w w5 d D ∧ RowT 51 cShip w5 v3 D.p.ships ∧ PBox w5 w3.heap.size D.p v3 ∧ d < w3.heap.size) := by
    have hb : Below w3.heap.size w3 w5 := h4'.out.2.trans (h5.out.2.2 _ (Nat.le_refl _))
    exact ⟨E3.out.1.later hb, E3.out.2.later hb, h5.out.1, E3.out.1.lt⟩
  clear h4' h5 s4 s5 E3
  generalize w3.heap.size = g at *
  go_wp2_with fail
  refine (HT _ E5.out.1.ds).mono ?_
  rintro e w6 ⟨er, n, rfl, h6⟩
  obtain ⟨D', j1, j2, j3⟩ := h6.out
  rw [← HLO.out] at j1
  have KT := keep_told j1 (by have := E5.out.1.n; omega) E5.out.1.ds.ok.port HG.out
  have HK : Hid ((¬ okKeep D.p a b c → er = 2) ∧ (okKeep D.p a b c → (∀ (j : Nat) k, D.p.kept[j]? = some k → isNo k = false) → er = 5) ∧ (okKeep D.p a b c → (∃ j, Fst D.p.kept j) → (roomF (baseAt D.p) a b (c - b) → er = 0) ∧ (¬ roomF (baseAt D.p) a b (c - b) → er = 6))) := KT
  have E6 : Hid (RowT 51 cShip w6 v3 D.p.ships ∧ PBox w6 g D.p v3 ∧ Below w.heap.size w w6 ∧ IsPort D.p) := ⟨E5.out.2.1.told E5.out.1.ds j3 (by decide), E5.out.2.2.1.told j3 (by have := E5.out.2.2.2; omega), E5.out.1.below.trans (j3.below.mono E5.out.1.new), E5.out.1.ds.ok.port⟩
  clear h6 j1 j2 j3 KT E5 HT HLO HG
  go_upto_region 9 with (first | (refine wpList_alloc_rep rfl rfl 14 rfl ?_; intro w7 h7 s7) | (refine wpList_store_rep rfl _ _ rfl w6.heap.size 0 0 er n rfl rfl h7.out.1 ?_; intro w8 h8 s8))
  have E8 : Hid (RowT 51 cShip w8 v3 D.p.ships ∧ PBox w8 g D.p v3 ∧ Below w.heap.size w w8 ∧ IsPort D.p ∧ RB w8 w6.heap.size er n) := by
    have hb : Below w6.heap.size w6 w8 := h7.out.2.trans (h8.out.2.2 _ (Nat.le_refl _))
    exact ⟨E6.out.1.later hb, E6.out.2.1.later hb E6.out.2.1.lt, E6.out.2.2.1.trans (hb.mono E6.out.2.2.1.size), E6.out.2.2.2, h8.out.1⟩
  clear h7 h8 s7 s8 E6
  generalize w6.heap.size = gr at *
  have c0 := E8.out.2.1.cells.1
  obtain ⟨r0, r1⟩ := E8.out.2.2.2.2.cells
  have hnow := E8.out.2.2.2.1.port.now
  by_cases ok : okKeep D.p a b c
  case neg =>
    obtain rfl : er = 2 := HK.out.1 ok
    clear HK
    rcases (show a < 1 ∨ (¬ a < 1 ∧ 16 < a) ∨ (¬ a < 1 ∧ ¬ 16 < a ∧ b < D.p.now) ∨ (¬ a < 1 ∧ ¬ 16 < a ∧ ¬ b < D.p.now ∧ c ≤ b) ∨ (¬ a < 1 ∧ ¬ 16 < a ∧ ¬ b < D.p.now ∧ ¬ c ≤ b ∧ 300 < c) by unfold okKeep at ok; omega) with g1 | ⟨g1, g2⟩ | ⟨g1, g2, g3⟩ | ⟨g1, g2, g3, g4⟩ | ⟨g1, g2, g3, g4, g5⟩
    all_goals (clear ok hnow; go_wp2_with fail; go_ret; exact ⟨rfl, E8.out.2.2.1⟩)
  have OK : Hid (okKeep D.p a b c) := ok
  have ok' := ok
  unfold okKeep at ok'
  have g1 : ¬ a < 1 := by omega
  have g2 : ¬ 16 < a := by omega
  have g3 : ¬ b < D.p.now := by omega
  have g4 : ¬ c ≤ b := by omega
  have g5 : ¬ 300 < c := by omega
  have g6 : 0 ≤ b := by omega
  have HB := base_any (.agg PC) D.p w8 ⟨v3, by rw [HPC.out], E8.out.1.sl, h4, by omega⟩ (WfQ.of E8.out.2.2.2.1)
  clear ok ok' hnow
  go_wp2_with (refine wpList_load_boxq rfl _ rfl g D.p v3 HPC.out rfl E8.out.2.1 ?_)
  clear c0 r0 r1
  refine HB.mono ?_
  rintro e w9 ⟨⟨v9, ok9, rfl, hB9, _⟩, hb9⟩
  obtain ⟨rfl, _, r, hr⟩ : ok9 = true ∧ IsPort D.p ∧ ∃ r, Sl w9 v9 r ∧ Good r ∧ ∀ t, 0 ≤ t → t < 300 → val r t = baseAt D.p t := by
    rcases hB9 with h | ⟨_, h, _⟩
    · exact h
    · exact absurd E8.out.2.2.2.1 h
  have E9 : Hid (PBox w9 g D.p v3 ∧ Below w.heap.size w w9 ∧ RB w9 gr er n ∧ IsPort D.p) := ⟨E8.out.2.1.later hb9 E8.out.2.1.lt, E8.out.2.2.1.trans (hb9.mono E8.out.2.2.1.size), E8.out.2.2.2.2.later hb9, E8.out.2.2.2.1⟩
  have HTK : Calls Tryz.prog 23 #[v9, .int .i64 b, .int .i64 c, .int .i64 a] w9 fun e w' => ∃ v' rm, e = .returned (.tuple #[v', .bool rm]) ∧ Hid ((rm = true ↔ roomF (baseAt D.p) a b (c - b)) ∧ Below w9.heap.size w9 w') := by
    have hiff : roomT r a b c ↔ roomF (baseAt D.p) a b (c - b) := by
      constructor
      · intro h s s0 s1
        rw [← hr.2.2 s (by omega) (by omega)]
        exact h s s0 (by omega)
      · intro h s s0 s1
        rw [hr.2.2 s (by omega) (by omega)]
        exact h s s0 (by omega)
    by_cases hR : roomT r a b c
    · exact (take_yes w9 hr.1 hr.2.1 (by omega) g6 (by omega) (by omega) hR).mono fun e w' ⟨v', he, h⟩ => ⟨v', true, he, ⟨fun _ => hiff.1 hR, fun _ => rfl⟩, h.out.2.2⟩
    · exact (take_not w9 hr.1 hr.2.1 (by omega) g6 (by omega) (by omega) hR).mono fun e w' ⟨v', he, h⟩ => ⟨v', false, he, ⟨fun h => (by cases h), fun h => absurd (hiff.2 h) hR⟩, h⟩
  clear hB9 hb9 hr E8 HB HPC on3
  go_wp2_with fail
  refine HTK.mono ?_
  rintro e w10 ⟨v10, rm, rfl, h10⟩
  have E10 : Hid (PBox w10 g D.p v3 ∧ Below w.heap.size w w10 ∧ RB w10 gr er n ∧ IsPort D.p) := ⟨E9.out.1.later h10.out.2 E9.out.1.lt, E9.out.2.1.trans (h10.out.2.mono E9.out.2.1.size), E9.out.2.2.1.later h10.out.2, E9.out.2.2.2⟩
  have RM : Hid (rm = true ↔ roomF (baseAt D.p) a b (c - b)) := h10.out.1
  have KR : Hid (w10.rangeAt g 2 (cellsK cKp D.p.kept)) := E10.out.1.keeps
  have KL : Hid ((Tryz.prog.info? 31).map (·.size) = some (cellsK cKp D.p.kept).length) := by show _ = _; rw [cellsK_length encKp, h4]; kernel_rfl
  clear h10 E9 HTK g1 g2 g3 g4 g5 g6
  go_wp2_with (refine wpList_load_mid rfl 31 _ rfl g 2 rfl (cellsK cKp D.p.kept) _ KR.out Tryz.underlying31 rfl KL.out ?_)
  go_loopg [19, 21, 83] 4 (fun kx s19 s21 s83 wr => ∃ (j : Nat) (f : Bool), s19 = .bool f ∧ s83 = .int .i64 j ∧ j ≤ 4 ∧ 4 - j ≤ kx ∧ Hid (WideTo D.p.kept j f ∧ Below w.heap.size w wr ∧ RB wr gr er n))
  case atStart => exact ⟨0, true, rfl, rfl, by omega, by omega, ⟨⟨fun _ i k hi => absurd hi (Nat.not_lt_zero _), fun _ => rfl⟩, E10.out.2.1, E10.out.2.2.1⟩⟩
  case round =>
    obtain ⟨j, f, rfl, rfl, hj, hg, I⟩ := hrel
    by_cases hjl : j < 4
    · obtain ⟨k, hk⟩ : ∃ k, D.p.kept[j]? = some k := ⟨D.p.kept[j], List.getElem?_eq_getElem (by omega)⟩
      have hix := fun W => run_index_kept D.p.kept h4 j k hk W
      have I2 : Hid (WideTo D.p.kept (j + 1) (f && decide (0 < k.wd))) := I.out.1.succ hk
      obtain ⟨kw, kf, kt⟩ := k
      simp only at *
      clear hk
      have hj3 : (j : Int) < 4 := by omega
      have hbw : Below wr.heap.size wr (wr.alloc (.cells #[.int .i64 kw, .int .i64 kf, .int .i64 kt] 30)) := (Below.refl _ wr).alloc (Nat.le_refl _) _
      have I3 : Hid (Below w.heap.size w (wr.alloc (.cells #[.int .i64 kw, .int .i64 kf, .int .i64 kt] 30)) ∧ RB (wr.alloc (.cells #[.int .i64 kw, .int .i64 kf, .int .i64 kt] 30)) gr er n) := ⟨I.out.2.1.trans (hbw.mono I.out.2.1.size), I.out.2.2.later hbw⟩
      have n1 : (wr.alloc (.cells #[.int .i64 kw, .int .i64 kf, .int .i64 kt] 30)).cell? ⟨wr.heap.size, 0, none⟩ = some (.int .i64 kw) := by rw [cell_of_row _ _ _ _ _ _ (heap_alloc_new wr _)]; rfl
      clear hbw I
      cases f
      · go_wp2
        go_roundg (4 - (j + 1))
        case measure => omega
        case rel => exact ⟨j + 1, false, rfl, by go_num, by omega, Nat.le_refl _, I2.out, I3.out⟩
      · by_cases hw : 0 < kw
        · rw [decide_eq_true hw] at I2
          go_wp2
          go_roundg (4 - (j + 1))
          case measure => omega
          case rel => exact ⟨j + 1, true, rfl, by go_num, by omega, Nat.le_refl _, I2.out, I3.out⟩
        · rw [decide_eq_false hw] at I2
          go_wp2
          go_roundg (4 - (j + 1))
          case measure => omega
          case rel => exact ⟨j + 1, false, rfl, by go_num, by omega, Nat.le_refl _, I2.out, I3.out⟩
    · have hj3 : ¬ ((j : Int) < 4) := by omega
      have hwt : f = true ↔ ∀ (i : Nat) k, D.p.kept[i]? = some k → isNo k = false := by
        have h1 := I.out.1
        unfold WideTo at h1
        rw [h1]
        constructor
        · intro h i k hk
          exact (wide_isNo (E10.out.2.2.2.port.kept k (List.mem_of_getElem? hk))).1 (h i k (by have := (List.getElem?_eq_some_iff.1 hk).1; omega) hk)
        · intro h i k _ hk
          exact (wide_isNo (E10.out.2.2.2.port.kept k (List.mem_of_getElem? hk))).2 (h i k hk)
      obtain ⟨r0, r1⟩ := I.out.2.2.cells
      cases f
      · have hE : ∃ j, Fst D.p.kept j := by
          rcases fst_or D.p.kept with h | h
          · exact h
          · exact absurd (hwt.2 h) (by decide)
        have h6 := HK.out.2.2 OK.out hE
        cases rm
        · obtain rfl : er = 6 := h6.2 fun h => by have := RM.out.2 h; cases this
          clear h6 hE hwt HK
          go_wp2
          go_ret
          exact ⟨rfl, I.out.2.1⟩
        · obtain rfl : er = 0 := h6.1 (RM.out.1 rfl)
          clear h6 hE hwt HK
          go_wp2
          go_ret
          exact ⟨rfl, I.out.2.1⟩
      · obtain rfl : er = 5 := HK.out.2.1 OK.out (hwt.1 rfl)
        clear hwt HK
        go_wp2
        go_ret
        exact ⟨rfl, I.out.2.1⟩

end Go.Proofs.YtcmdoeledmkfmabGreatDoor
