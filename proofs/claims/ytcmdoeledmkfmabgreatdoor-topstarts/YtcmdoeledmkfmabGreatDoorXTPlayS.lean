/- Texts of this claim, in one: TPlayS. -/
import Derived.Test.YtcmdoeledmkfmabGreatDoorQZ
set_option linter.unusedSimpArgs false
set_option linter.unusedVariables false
namespace Go.Proofs.YtcmdoeledmkfmabGreatDoor
open Go.RowKit
set_option maxHeartbeats 4000000 in
set_option maxRecDepth 100000 in
theorem playS_any (pw : Value) (pp : Value) (v : Value) (l : List (List UInt8)) (w : World) (B : Nat) (hL : LW w) (hB : B ≤ w.heap.size) (hsl : ∀ W, Below B w W → SlK cStr W v l) (hln : ∀ y ∈ l, y.length ≤ 9223372036854775807) (hll : l.length ≤ 8796093022208)
    (I : World → Nat → Dk → Nat → Prop) (J : World → Nat → Dk → Nat → Int → Int → Prop)
    (h0 : ∀ W d, Below w.heap.size w W → w.heap.size ≤ d → DS W d newDk → I W d newDk 0)
    (hI : ∀ W d D k, I W d D k → DS W d D ∧ B ≤ d ∧ Below B w W)
    (hIJ : ∀ W W' d D D' k s er n, I W d D k → l[k]? = some s → k < 80 → LineIs D s D' er n → DS W' d D' → Fr d W W' → J W' d D' k er n)
    (hJ : ∀ W d D k er n, J W d D k er n → DS W d D ∧ B ≤ d ∧ Below B w W)
    (hJJ : ∀ W W' d D k er n, J W d D k er n → Below W.heap.size W W' → J W' d D k er n)
    (hc : ∀ W d D k s er n, J W d D k er n → l[k]? = some s → k < 80 → Calls Tryz.prog 24 #[.pointer (some ⟨d, 0, none⟩), txt s, .agg #[.int .i64 er, .int .i64 n], pw, pp] W fun e W' => e = .returned (.bool true) ∧ I W' d D (k + 1) ∧ ∀ g x y, RB W g x y → RB W' g x y) :
    Calls Tryz.prog 16 #[v, .func (.func 24) #[] #[pw, pp]] w fun e w' => ∃ d, e = .returned (.tuple #[.pointer (some ⟨d, 0, none⟩), .bool true]) ∧ Hid (∃ D, I w' d D (min l.length 80)) := by
  have HA := alive_any w hL
  have HN := fun W h => new_ds W h
  have HT := fun d D s W h hs => tell_ds d D s W h hs
  have SL : Hid (∀ W, Below B w W → SlK cStr W v l) := hsl
  have LN : Hid (∀ y ∈ l, y.length ≤ 9223372036854775807) := hln
  have HII : Hid (∀ W d D k, I W d D k → DS W d D ∧ B ≤ d ∧ Below B w W) := hI
  have HIJ : Hid (∀ W W' d D D' k s er n, I W d D k → l[k]? = some s → k < 80 → LineIs D s D' er n → DS W' d D' → Fr d W W' → J W' d D' k er n) := hIJ
  have HJ : Hid (∀ W d D k er n, J W d D k er n → DS W d D ∧ B ≤ d ∧ Below B w W) := hJ
  have HJJ : Hid (∀ W W' d D k er n, J W d D k er n → Below W.heap.size W W' → J W' d D k er n) := hJJ
  have H0 : Hid (∀ W d, Below w.heap.size w W → w.heap.size ≤ d → DS W d newDk → I W d newDk 0) := h0
  have HL : Hid (LW w) := hL
  obtain ⟨a, cap, hv⟩ : ∃ a cap, v = .slice a l.length cap := by obtain ⟨a, cap, h, _⟩ := hsl w (Below.refl _ _); exact ⟨a, cap, h⟩
  subst hv
  clear hsl hln hI hIJ hJ hJJ h0 hL
  unfold txt at *
  go_enter Tryz.func16, Tryz.ntmps16
  go_wp2_with fail
  refine HA.mono ?_
  rintro e w1 ⟨rfl, hb1⟩
  have B1 : Hid (Below w.heap.size w w1 ∧ LW w1) := ⟨hb1, HL.out.later hb1⟩
  clear hb1 HA HL
  go_wp2_with fail
  refine (HN _ B1.out.2).mono ?_
  rintro e w2 ⟨d, rfl, h2⟩
  have B2 : Hid (I w2 d newDk 0) := H0.out w2 d (B1.out.1.trans (h2.out.2.2.mono B1.out.1.size)) (Nat.le_trans B1.out.1.size h2.out.1) h2.out.2.1
  clear B1 h2 HN H0
  go_wp2_with fail
  go_loopg [7, 8] (min l.length 80) (fun kx s7 s8 wr => ∃ (k : Nat), s7 = .int .i64 k ∧ k ≤ min l.length 80 ∧ min l.length 80 - k ≤ kx ∧ Hid (∃ D, I wr d D k))
  case atStart => exact ⟨0, rfl, Nat.zero_le _, by omega, ⟨newDk, B2.out⟩⟩
  case round =>
    clear B2
    obtain ⟨k, rfl, hk, hg, HD⟩ := hrel
    obtain ⟨D, hD⟩ := HD.out
    have E0 : Hid (I wr d D k) := hD
    clear hD HD
    by_cases h80 : k < min l.length 80
    · have k1 : (k : Int) < (l.length : Int) := by omega
      have k2 : (k : Int) < 80 := by omega
      have k3 : k < 80 := by omega
      have k4 : k < l.length := by omega
      obtain ⟨s, hs⟩ : ∃ s, l[k]? = some s := ⟨l[k]'k4, List.getElem?_eq_getElem k4⟩
      have HS : Hid (l[k]? = some s) := hs
      have hsm := LN.out s (List.mem_of_getElem? hs)
      obtain ⟨b, off, rfl⟩ : ∃ b off, a = some ⟨b, off, none⟩ := by
        obtain ⟨a', c', e, _, hr⟩ := SL.out wr (HII.out _ _ _ _ E0.out).2.2
        injection e with e1
        rcases hr with hr | ⟨b, off, hr, _⟩
        · rw [hr] at k4; simp at k4
        · exact ⟨b, off, by rw [e1, hr]⟩
      have HR : Hid (∀ W, Below B w W → W.cell? ⟨b, off + k, none⟩ = some (.string ⟨s.toArray⟩)) := fun W hW => by
        obtain ⟨a', c', e, _, hr⟩ := SL.out W hW
        injection e with e1
        rcases hr with hr | ⟨b', off', hr, h⟩
        · rw [hr] at k4; simp at k4
        · rw [hr] at e1
          injection e1 with e1
          injection e1 with e1 e2
          subst e1 e2
          exact h.str HS.out
      have q1 := HR.out wr (HII.out _ _ _ _ E0.out).2.2
      clear hs k4 SL LN
      go_wp2_with fail
      clear q1
      refine (HT d D s _ (HII.out _ _ _ _ E0.out).1 hsm).mono ?_
      rintro e w3 ⟨er, n, rfl, h3⟩
      obtain ⟨D', j1, j2, j3⟩ := h3.out
      have E3 : Hid (J w3 d D' k er n) := HIJ.out _ _ _ _ _ _ _ _ _ E0.out HS.out k3 j1 j2 j3
      clear h3 j1 j2 j3 E0 HT HIJ
      go_upto_region 8 with (first | (refine wpList_alloc_rep rfl rfl 8 rfl ?_; intro w4 h4 s4) | (refine wpList_store_rep rfl _ _ rfl w3.heap.size 0 0 er n rfl rfl h4.out.1 ?_; intro w5 h5 s5))
      have E5 : Hid (J w5 d D' k er n ∧ RB w5 w3.heap.size er n) := ⟨HJJ.out _ _ _ _ _ _ _ E3.out (h4.out.2.trans (h5.out.2.2 _ (Nat.le_refl _))), h5.out.1⟩
      clear E3 h4 h5 s4 s5
      generalize w3.heap.size = g at *
      have EJ : Hid (J w5.drew d D' k er n) := HJJ.out _ _ _ _ _ _ _ E5.out.1 (Below.refl _ _).drew
      refine wp_region_held_drew (S := fun W => Hid (RB W g er n ∧ Below B w W)) (by kernel_rfl) ⟨E5.out.2.later (Below.refl _ _).drew, ((HJ.out _ _ _ _ _ _ E5.out.1).2.2).drew⟩ (fun hHeld => ?_)
      refine wpAnyH_take (i := 0) (oi := { dst := some 28, op := Go.Op.move (Go.Operand.tmp 1), type := 44, pos := "top.go:32", after := #[], guard := none }) (v := ?_) rfl (by kernel_rfl) (by kernel_rfl) (by kernel_rfl) (fun _ _ _ h => h) (Or.inl ⟨by rfl, ?_⟩) hHeld ?_
      rotate_left
      · (intro w hSw; first | (go_simp; done) | (go_simp; with_reducible rfl))
      simp only [Act.put, List.setIfInBounds_toArray, List.set_cons_zero, List.set_cons_succ]
      refine wpAnyH_take (i := 1) (oi := { dst := some 29, op := Go.Op.move (Go.Operand.tmp 6), type := 22, pos := "top.go:32", after := #[], guard := none }) (v := ?_) rfl (by kernel_rfl) (by kernel_rfl) (by kernel_rfl) (fun _ _ _ h => h) (Or.inl ⟨by rfl, ?_⟩) hHeld ?_
      rotate_left
      · (intro w hSw; first | (go_simp; done) | (go_simp; with_reducible rfl))
      simp only [Act.put, List.setIfInBounds_toArray, List.set_cons_zero, List.set_cons_succ]
      refine wpAnyH_take (i := 2) (oi := { dst := some 30, op := Go.Op.move (Go.Operand.tmp 0), type := 38, pos := "top.go:32", after := #[], guard := none }) (v := ?_) rfl (by kernel_rfl) (by kernel_rfl) (by kernel_rfl) (fun _ _ _ h => h) (Or.inl ⟨by rfl, ?_⟩) hHeld ?_
      rotate_left
      · (intro w hSw; first | (go_simp; done) | (go_simp; with_reducible rfl))
      simp only [Act.put, List.setIfInBounds_toArray, List.set_cons_zero, List.set_cons_succ]
      refine wpAnyH_take (i := 3) (oi := { dst := some 31, op := Go.Op.move (Go.Operand.tmp 7), type := 3, pos := "top.go:32", after := #[], guard := none }) (v := ?_) rfl (by kernel_rfl) (by kernel_rfl) (by kernel_rfl) (fun _ _ _ h => h) (Or.inl ⟨by rfl, ?_⟩) hHeld ?_
      rotate_left
      · (intro w hSw; first | (go_simp; done) | (go_simp; with_reducible rfl))
      simp only [Act.put, List.setIfInBounds_toArray, List.set_cons_zero, List.set_cons_succ]
      refine wpAnyH_take (i := 4) (oi := { dst := some 32, op := Go.Op.indexAddr 38 (Go.Operand.tmp 30) (Go.Operand.tmp 31), type := 0, pos := "top.go:32", after := #[{ on := 2, ground := Go.Ground.data }, { on := 3, ground := Go.Ground.data }], guard := none }) (v := ?_) rfl (by kernel_rfl) (by kernel_rfl) (by kernel_rfl) (fun _ _ _ h => h) (Or.inl ⟨by rfl, ?_⟩) hHeld ?_
      rotate_left
      · (intro w hSw; first | (go_simp; done) | (go_simp; with_reducible rfl))
      simp only [Act.put, List.setIfInBounds_toArray, List.set_cons_zero, List.set_cons_succ]
      refine wpAnyH_take (i := 5) (oi := { dst := some 33, op := Go.Op.load 9 (Go.Operand.tmp 32), type := 9, pos := "top.go:32", after := #[{ on := 4, ground := Go.Ground.data }], guard := none }) (v := .string ⟨s.toArray⟩) rfl (by kernel_rfl) (by kernel_rfl) (by kernel_rfl) (fun _ _ _ h => h) (Or.inl ⟨by rfl, by intro w hSw; have hc := HR.out w hSw.out.2; go_simp⟩) hHeld ?_
      simp only [Act.put, List.setIfInBounds_toArray, List.set_cons_zero, List.set_cons_succ]
      refine wpAnyH_take (i := 6) (oi := { dst := some 34, op := Go.Op.load 25 (Go.Operand.tmp 8), type := 25, pos := "top.go:32", after := #[], guard := none }) (v := .agg #[.int .i64 er, .int .i64 n]) rfl (by kernel_rfl) (by kernel_rfl) (by kernel_rfl) (fun _ _ _ h => h) (yieldsIf_load_mid (by rfl) 25 (.tmp 8) rfl g 0 rfl [.int .i64 er, .int .i64 n] _ (fun W hW => hW.out.1.whole) Tryz.underlying25 rfl (by rw [sizeRep]; rfl)) hHeld ?_
      simp only [Act.put, List.setIfInBounds_toArray, List.set_cons_zero, List.set_cons_succ]
      refine wpAnyH_ready (rs := [7]) (by kernel_rfl) (by simp) ?_
      refine AllReadyH.cons rfl (fun K hK => ?_) AllReadyH.nil
      go_simp
      refine (hc _ d D' k s er n EJ.out HS.out k3).mono ?_
      rintro e w6 ⟨rfl, h6, h7⟩
      have E6 : Hid (I w6 d D' (k + 1)) := h6
      have R6 : Hid (RB w6 g er n ∧ Below B w w6) := ⟨h7 _ _ _ hHeld.out.1, (HII.out _ _ _ _ h6).2.2⟩
      clear hc h6 h7 EJ E5 hHeld HR HJ HJJ
      go_wp2_with fail
      refine hK.out _ _ R6 (fun hHeld => ?_)
      clear hK K
      refine wpAnyH_take (i := 8) (oi := { dst := some 36, op := Go.Op.unOp Go.UnOp.not 4 (Go.Operand.tmp 35), type := 4, pos := "top.go:32", after := #[{ on := 7, ground := Go.Ground.data }], guard := none }) (v := ?_) rfl (by kernel_rfl) (by kernel_rfl) (by kernel_rfl) (fun _ _ _ h => h) (Or.inl ⟨by rfl, ?_⟩) hHeld ?_
      rotate_left
      · (intro w hSw; first | (go_simp; done) | (go_simp; with_reducible rfl))
      simp only [Act.put, List.setIfInBounds_toArray, List.set_cons_zero, List.set_cons_succ]
      refine wpAnyH_done (by kernel_rfl) ?_ _
      clear hHeld R6
      go_wp2_with fail
      go_roundg (min l.length 80 - (k + 1))
      case measure => omega
      case rel => exact ⟨k + 1, by go_num, by omega, Nat.le_refl _, D', E6.out⟩
    · have he : k = min l.length 80 := by omega
      have E1 : Hid (∃ D, I wr d D (min l.length 80)) := ⟨D, by rw [← he]; exact E0.out⟩
      clear E0 HT HIJ HJ HJJ hc SL LN HII
      by_cases k1 : k < l.length
      · have k2 : (k : Int) < (l.length : Int) := by omega
        have k3 : ¬ ((k : Int) < 80) := by omega
        clear he h80
        go_wp2_with fail
        go_ret2
        exact ⟨d, rfl, E1⟩
      · have k2 : ¬ ((k : Int) < (l.length : Int)) := by omega
        clear he h80
        go_wp2_with fail
        go_ret2
        exact ⟨d, rfl, E1⟩
end Go.Proofs.YtcmdoeledmkfmabGreatDoor
