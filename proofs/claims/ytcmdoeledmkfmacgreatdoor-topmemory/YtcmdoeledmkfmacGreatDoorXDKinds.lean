import Derived.Test.YtcmdoeledmkfmacGreatDoorXDAdmit
import Derived.Test.YtcmdoeledmkfmacGreatDoorQ8
set_option linter.unusedSimpArgs false
set_option linter.unusedVariables false
namespace Go.Proofs.YtcmdoeledmkfmacGreatDoor
open Go.RowKit
set_option maxHeartbeats 1000000 in
set_option maxRecDepth 100000 in
theorem deskBegin_any (d : Nat) (D : Dk) (w : World) (hD : Dsk w d D) :
    Calls Tryz.prog 43 #[(.pointer (some ⟨d, 0, none⟩))] w fun e w' => ∃ er, e = .returned (.int .i64 er) ∧ Hid (∃ D', BeginIs D D' er ∧ Dsk w' d D' ∧ Fr d w w') := by
  obtain ⟨vs, vp, va, pl, hM⟩ := hD
  have c17 := hM.box.cells.2.2.2.1
  cases hA : D.asd with
  | some q =>
    have ha := hM.asd
    rw [hA] at ha
    obtain ⟨g, vq, rfl, _⟩ := ha
    have R : Hid (∃ D', BeginIs D D' 7 ∧ Dsk w d D' ∧ Fr d w w) := ⟨D, Or.inr ⟨(by rw [hA]; simp), rfl, rfl⟩, ⟨_, _, _, _, hM⟩, Fr.refl _ _⟩
    clear hM
    go_enter Tryz.func43, Tryz.ntmps43
    go_wp2_with fail
    go_ret
    exact ⟨7, rfl, R⟩
  | none =>
    have ha := hM.asd
    rw [hA] at ha
    obtain rfl : va = .pointer none := ha
    have E0 : Hid (DM w d D vs vp (.pointer none) pl) := hM
    have HA : Hid (D.asd = none) := hA
    have on := hM.ships.one
    have h4 := hM.box.four
    clear hM hA
    go_enter Tryz.func43, Tryz.ntmps43
    go_upto_region 4 with (first | (refine wpList_load_desk rfl _ rfl d D.p vs vp (.pointer none) D.n rfl E0.out.box ?_) | (refine wpList_alloc_box rfl rfl 3 rfl ?_; intro w1 h1 s1) | (refine wpList_store_box rfl _ _ rfl w.heap.size zeroPt D.p (.slice none 0 0) vs rfl rfl h1.out.1 h4 on ?_; intro w2 h2 s2))
    have E2 : Hid (DM w2 d D vs vp (.pointer none) pl ∧ PBox w2 w.heap.size D.p vs ∧ Fr d w w2) := by
      have hb : Below w.heap.size w w2 := h1.out.2.trans (h2.out.2.2 _ (Nat.le_refl _))
      exact ⟨E0.out.later hb, h2.out.1, Fr.of hb (by have := E0.out.lt; omega)⟩
    have hlt := E0.out.lt
    have d17 := E2.out.1.box.cells.2.2.2.1
    have f17 := E2.out.1.box.frozen 17
    have R : Hid (∃ D', BeginIs D D' 0 ∧ Dsk (w2.setCell ⟨d, 17, none⟩ (.pointer (some ⟨w.heap.size, 0, none⟩))) d D' ∧ Fr d w (w2.setCell ⟨d, 17, none⟩ (.pointer (some ⟨w.heap.size, 0, none⟩)))) := by
      have F := Fr.set (d := d) w2 17 (.pointer (some ⟨w.heap.size, 0, none⟩))
      have hb := E2.out.1.box
      refine ⟨{ D with asd := some D.p }, Or.inl ⟨HA.out, rfl, rfl⟩, ⟨vs, vp, _, pl, hb.setAside _, E2.out.1.ships.fr F hb (by decide), E2.out.1.plan, E2.out.1.row.fr F hb (by decide), ⟨_, vs, rfl, ⟨E2.out.2.1.1, (F.typed hb _ _ _ _ E2.out.2.1.2 (by decide)).trans E2.out.2.1.2⟩, E2.out.1.ships.fr F hb (by decide)⟩, E2.out.1.old⟩, E2.out.2.2.trans F⟩
    clear h1 h2 s1 s2 E0 E2 c17
    go_wp2_with fail
    go_ret
    exact ⟨0, rfl, R⟩
set_option maxHeartbeats 1000000 in
set_option maxRecDepth 100000 in
theorem deskCommit_any (d : Nat) (D : Dk) (w : World) (hD : Dsk w d D) :
    Calls Tryz.prog 44 #[(.pointer (some ⟨d, 0, none⟩))] w fun e w' => ∃ er, e = .returned (.int .i64 er) ∧ Hid (∃ D', CommitIs D D' er ∧ Dsk w' d D' ∧ Fr d w w') := by
  obtain ⟨vs, vp, va, pl, hM⟩ := hD
  have c17 := hM.box.cells.2.2.2.1
  cases hA : D.asd with
  | none =>
    have ha := hM.asd
    rw [hA] at ha
    obtain rfl : va = .pointer none := ha
    have R : Hid (∃ D', CommitIs D D' 7 ∧ Dsk w d D' ∧ Fr d w w) := ⟨D, Or.inr ⟨hA, rfl, rfl⟩, ⟨_, _, _, _, hM⟩, Fr.refl _ _⟩
    clear hM
    go_enter Tryz.func44, Tryz.ntmps44
    go_wp2_with fail
    go_ret
    exact ⟨7, rfl, R⟩
  | some q =>
    have ha := hM.asd
    rw [hA] at ha
    obtain ⟨g, vq, rfl, _⟩ := ha
    have f17 := hM.box.frozen 17
    have R : Hid (∃ D', CommitIs D D' 0 ∧ Dsk (w.setCell ⟨d, 17, none⟩ (.pointer none)) d D' ∧ Fr d w (w.setCell ⟨d, 17, none⟩ (.pointer none))) := by
      have F := Fr.set (d := d) w 17 (.pointer none)
      have hb := hM.box
      refine ⟨{ D with asd := none }, Or.inl ⟨(by rw [hA]; simp), rfl, rfl⟩, ⟨vs, vp, _, pl, hb.setAside _, hM.ships.fr F hb (by decide), hM.plan, hM.row.fr F hb (by decide), rfl, hM.old⟩, F⟩
    clear hM hA
    go_enter Tryz.func44, Tryz.ntmps44
    go_wp2_with fail
    go_ret
    exact ⟨0, rfl, R⟩
set_option maxHeartbeats 2000000 in
set_option maxRecDepth 100000 in
theorem deskUndo_any (d : Nat) (D : Dk) (w : World) (hD : Dsk w d D) (hO : DOk D) :
    Calls Tryz.prog 45 #[(.pointer (some ⟨d, 0, none⟩))] w fun e w' => ∃ er, e = .returned (.int .i64 er) ∧ Hid (∃ D', UndoIs D D' er ∧ Dsk w' d D' ∧ Fr d w w') := by
  have hD0 := hD
  obtain ⟨vs, vp, va, pl, hM⟩ := hD
  have c17 := hM.box.cells.2.2.2.1
  cases hA : D.asd with
  | none =>
    have ha := hM.asd
    rw [hA] at ha
    obtain rfl : va = .pointer none := ha
    have R : Hid (∃ D', UndoIs D D' 7 ∧ Dsk w d D' ∧ Fr d w w) := ⟨D, Or.inr ⟨hA, rfl, rfl⟩, ⟨_, _, _, _, hM⟩, Fr.refl _ _⟩
    clear hM hD0
    go_enter Tryz.func45, Tryz.ntmps45
    go_wp2_with fail
    go_ret
    exact ⟨7, rfl, R⟩
  | some q =>
    have ha := hM.asd
    rw [hA] at ha
    obtain ⟨g, vq, rfl, hx, hr⟩ := ha
    have hq := (hO.aside q hA).1
    have HBE := become_any d D q vq w hD0 hO.port hq hr
    have HX : Hid (PBox w g q vq) := hx
    have HA : Hid (D.asd = some q) := hA
    clear hM hA hx hr hD0
    go_enter Tryz.func45, Tryz.ntmps45
    go_wp2_with (refine wpList_load_box rfl _ rfl g q vq rfl HX.out ?_)
    refine HBE.mono ?_
    rintro e w1 ⟨rfl, ⟨vs1, vp1, va1, pl1, hM1⟩, hF⟩
    have f17 := hM1.box.frozen 17
    have d17 := hM1.box.cells.2.2.2.1
    have R : Hid (∃ D', UndoIs D D' 0 ∧ Dsk (w1.setCell ⟨d, 17, none⟩ (.pointer none)) d D' ∧ Fr d w (w1.setCell ⟨d, 17, none⟩ (.pointer none))) := by
      have F := Fr.set (d := d) w1 17 (.pointer none)
      have hb := hM1.box
      refine ⟨{ D with p := q, asd := none }, Or.inl ⟨q, HA.out, rfl, rfl⟩, ⟨vs1, vp1, _, pl1, hb.setAside _, hM1.ships.fr F hb (by decide), hM1.plan, hM1.row.fr F hb (by decide), rfl, hM1.old⟩, hF.trans F⟩
    clear HBE hM1 hF c17
    go_wp2_with fail
    go_ret
    exact ⟨0, rfl, R⟩
set_option maxHeartbeats 2000000 in
set_option maxRecDepth 100000 in
theorem deskWait_any (d : Nat) (D : Dk) (a : Int) (w : World) (hD : Dsk w d D) (hO : DOk D) (ha0 : -1073741824 ≤ a) (ha1 : a ≤ 1073741824) :
    Calls Tryz.prog 42 #[(.pointer (some ⟨d, 0, none⟩)), .int .i64 a] w fun e w' => ∃ er, e = .returned (.int .i64 er) ∧ Hid (∃ D', WaitsIs D a D' er ∧ Dsk w' d D' ∧ Fr d w w') := by
  have hD0 := hD
  obtain ⟨vs, vp, va, pl, hM⟩ := hD
  have c0 := hM.box.cells.1
  have hnow := hO.port.port.now
  clear hM
  by_cases h1 : a < 1
  · have R : Hid (∃ D', WaitsIs D a D' 2 ∧ Dsk w d D' ∧ Fr d w w) := ⟨D, Or.inl ⟨(by omega), rfl, rfl⟩, hD0, Fr.refl _ _⟩
    clear hD0
    go_enter Tryz.func42, Tryz.ntmps42
    go_wp2_with fail
    go_ret
    exact ⟨2, rfl, R⟩
  by_cases h2 : 300 ≤ D.p.now + a
  · have R : Hid (∃ D', WaitsIs D a D' 2 ∧ Dsk w d D' ∧ Fr d w w) := ⟨D, Or.inl ⟨(by omega), rfl, rfl⟩, hD0, Fr.refl _ _⟩
    clear hD0
    go_enter Tryz.func42, Tryz.ntmps42
    go_wp2_with fail
    go_ret
    exact ⟨2, rfl, R⟩
  obtain ⟨m, rfl⟩ : ∃ m : Nat, a = m := ⟨a.toNat, by omega⟩
  have I0 : Hid (∃ q, WaitIs 0 D.p q ∧ Dsk w d { D with p := q } ∧ Fr d w w) := ⟨D.p, rfl, hD0, Fr.refl _ _⟩
  have HO : Hid (DOk D ∧ D.p.now + m < 300) := ⟨hO, by omega⟩
  clear hD0
  go_enter Tryz.func42, Tryz.ntmps42
  go_wp2_with fail
  go_loopg [5, 6, 20] m (fun kx s5 s6 s20 wr => ∃ k : Nat, s20 = .int .i64 k ∧ k ≤ m ∧ m - k ≤ kx ∧ Hid (∃ q, WaitIs k D.p q ∧ Dsk wr d { D with p := q } ∧ Fr d w wr))
  case atStart => exact ⟨0, rfl, Nat.zero_le _, by omega, I0⟩
  case round =>
    clear I0 c0
    obtain ⟨k, rfl, hk, hg, I⟩ := hrel
    obtain ⟨q, i1, i2, i3⟩ := I.out
    clear I
    by_cases hkl : k < m
    · have hk3 : (k : Int) < (m : Int) := by omega
      have hR := waitIs_rests k D.p q HO.out.1.rests (by have := HO.out.2; omega) i1
      have hnq : q.now < 299 := by have := HO.out.2; omega
      have hq := hR.1.1
      have hq2 := isPort_later hq hnq
      obtain ⟨vs1, vp1, va1, pl1, hM1⟩ := i2
      have HLA := fun W h => later_any (.agg (portCells q vs1).toArray) q W h (WfQ.of hq)
      have HBE := fun v W h1 h2 => become_any d { D with p := q } (laterP q) v W h1 hq hq2 h2
      have HAD := fun W h1 => admit_any d { D with p := laterP q } W h1 hq2
      have E1 : Hid (DM wr d { D with p := q } vs1 vp1 va1 pl1 ∧ Fr d w wr) := ⟨hM1, i3⟩
      have WI : Hid (WaitIs k D.p q ∧ IsPort q) := ⟨i1, hq⟩
      clear i1 i3 hM1 hR hq hq2
      go_wp2_with (refine wpList_load_desk rfl _ rfl d q vs1 vp1 va1 D.n rfl E1.out.1.box ?_)
      refine (HLA _ (E1.out.1.pv WI.out.2)).mono ?_
      rintro e w2 ⟨q2, vq2, er, rfl, hT, hq4, _, hqo, hb2⟩
      obtain ⟨rfl, rfl⟩ : er = 0 ∧ q2 = laterP q := by
        rcases hT with ⟨h, _⟩ | ⟨_, h, _⟩ | ⟨_, _, h1, h2⟩
        · exact absurd WI.out.2 h
        · omega
        · exact ⟨h1, h2⟩
      have on := ownsRow_one hqo
      have E2 : Hid (Dsk w2 d { D with p := q } ∧ Fr d w w2 ∧ RowT 46 cShip w2 vq2 (laterP q).ships) := ⟨⟨_, _, _, _, E1.out.1.later hb2⟩, E1.out.2.trans (Fr.of hb2 (by have := E1.out.1.lt; omega)), RowT.own hqo⟩
      clear hT hqo hb2 HLA E1
      go_upto_region 6 with (first | (refine wpList_alloc_box rfl rfl 5 rfl ?_; intro w3 h3 s3) | (refine wpList_store_box rfl _ _ rfl w2.heap.size zeroPt (laterP q) (.slice none 0 0) vq2 rfl rfl h3.out.1 hq4 on ?_; intro w4 h4 s4))
      have E4 : Hid (Dsk w4 d { D with p := q } ∧ Fr d w w4 ∧ RowT 46 cShip w4 vq2 (laterP q).ships ∧ PBox w4 w2.heap.size (laterP q) vq2) := by
        have hb : Below w2.heap.size w2 w4 := h3.out.2.trans (h4.out.2.2 _ (Nat.le_refl _))
        exact ⟨E2.out.1.later hb, E2.out.2.1.trans (Fr.of hb (by have := E2.out.1.lt; omega)), E2.out.2.2.later hb, h4.out.1⟩
      clear h3 h4 s3 s4 E2
      generalize w2.heap.size = g at *
      go_wp2_with (refine wpList_load_box rfl _ rfl g (laterP q) vq2 rfl E4.out.2.2.2 ?_)
      refine (HBE vq2 _ E4.out.1 E4.out.2.2.1).mono ?_
      rintro e w5 ⟨rfl, h5, h6⟩
      have E5 : Hid (Dsk w5 d { D with p := laterP q } ∧ Fr d w w5) := ⟨h5, E4.out.2.1.trans h6⟩
      clear h5 h6 E4 HBE
      go_wp2_with fail
      refine (HAD _ E5.out.1).mono ?_
      rintro e w6 ⟨rfl, h6⟩
      have I6 : Hid (∃ q, WaitIs (k + 1) D.p q ∧ Dsk w6 d { D with p := q } ∧ Fr d w w6) := by
        obtain ⟨r, j1, j2, j3⟩ := h6.out
        exact ⟨r, waitIs_snoc k D.p q r WI.out.1 j1, j2, E5.out.2.trans j3⟩
      clear h6 E5 HAD WI
      go_wp2_with fail
      go_roundg (m - (k + 1))
      case measure => omega
      case rel => exact ⟨k + 1, by go_num, by omega, Nat.le_refl _, I6⟩
    · have hke : k = m := by omega
      subst hke
      have hk3 : ¬ (k : Int) < (k : Int) := by omega
      have R : Hid (∃ D', WaitsIs D (k : Int) D' 0 ∧ Dsk wr d D' ∧ Fr d w wr) := ⟨{ D with p := q }, Or.inr ⟨⟨by omega, HO.out.2⟩, rfl, q, by rw [Int.toNat_natCast]; exact i1, rfl⟩, i2, i3⟩
      clear i1 i2 i3
      go_wp2_with fail
      go_ret
      exact ⟨0, rfl, R⟩
set_option maxHeartbeats 2000000 in
set_option maxRecDepth 100000 in
theorem deskAsk_any (d : Nat) (D : Dk) (a : Int) (w : World) (hD : Dsk w d D) (hO : DOk D) :
    Calls Tryz.prog 47 #[(.pointer (some ⟨d, 0, none⟩)), .int .i64 a] w fun e w' => ∃ n er, e = .returned (.tuple #[.int .i64 n, .int .i64 er]) ∧ Hid (AsksIs D.p a n er ∧ Dsk w' d D ∧ Fr d w w') := by
  have hD0 := hD
  obtain ⟨vs, vp, va, pl, hM⟩ := hD
  obtain ⟨c0, c1, c16, _, _⟩ := hM.box.cells
  obtain ⟨sa, sc, hvs⟩ := hM.ships.shape
  obtain ⟨pa, pc, hvp⟩ := hM.row.shape
  subst hvs hvp
  have hl := hO.port.port.len
  by_cases h1 : a < 0
  · have R : Hid (AsksIs D.p a 0 3 ∧ Dsk w d D ∧ Fr d w w) := ⟨Or.inl ⟨(by omega), rfl, rfl⟩, hD0, Fr.refl _ _⟩
    clear hD0 hM
    go_enter Tryz.func47, Tryz.ntmps47
    go_wp2_with fail
    go_ret2
    exact ⟨0, 3, rfl, R⟩
  by_cases h2 : (D.p.ships.length : Int) ≤ a
  · have R : Hid (AsksIs D.p a 0 3 ∧ Dsk w d D ∧ Fr d w w) := ⟨Or.inl ⟨(by omega), rfl, rfl⟩, hD0, Fr.refl _ _⟩
    clear hD0 hM
    go_enter Tryz.func47, Tryz.ntmps47
    go_wp2_with fail
    go_ret2
    exact ⟨0, 3, rfl, R⟩
  obtain ⟨i, rfl⟩ : ∃ i : Nat, a = i := ⟨a.toNat, by omega⟩
  have hi : i < D.p.ships.length := by omega
  have hi3 : (i : Int) < (D.p.ships.length : Int) := by omega
  have hpl := hM.plan
  have hi4 : (i : Int) < (pl.length : Int) := by rw [hpl.len]; exact hi3
  obtain ⟨b, off, rfl, hrd⟩ : ∃ b off, sa = some ⟨b, off, none⟩ ∧ RdK cShip w b off D.p.ships := by
    obtain ⟨a', c', e, _, h⟩ := hM.ships
    injection e with e1 e2 e3
    rcases h with h | ⟨b, off, _, _, h1, h2, _⟩
    · rw [h] at hi; simp at hi
    · exact ⟨b, off, e1.trans h1, h2⟩
  obtain ⟨pb, poff, rfl, hpd⟩ : ∃ b off, pa = some ⟨b, off, none⟩ ∧ RdK cInt w b off pl := by
    obtain ⟨a', c', e, _, h⟩ := hM.row
    injection e with e1 e2 e3
    rcases h with h | ⟨b, off, _, _, h1, h2, _⟩
    · rw [h] at hi4; simp at hi4; omega
    · exact ⟨b, off, e1.trans h1, h2⟩
  obtain ⟨k0, k1, k2, k3, k4, k5⟩ := hrd.ship (shp_in hi)
  have kp := hpd.int (getD_in (i := i) (by omega))
  generalize hs : shp D.p i = s at *
  have HS : Hid (shp D.p i = s) := hs
  have HM : Hid (PlanIs D.p pl ∧ Dsk w d D ∧ d < w.heap.size) := ⟨hpl, hD0, hM.lt⟩
  have fin : Hid (∀ n (o : Obj), AskIs D.p i n → AsksIs D.p (i : Int) n 0 ∧ Dsk (w.alloc o) d D ∧ Fr d w (w.alloc o)) := fun n o h => by
    have hb : Below w.heap.size w (w.alloc o) := (Below.refl _ w).alloc (Nat.le_refl _) _
    exact ⟨Or.inr ⟨⟨by omega, hi3⟩, rfl, by rw [Int.toNat_natCast]; exact h⟩, HM.out.2.1.later hb, Fr.of hb (by have := HM.out.2.2; omega)⟩
  clear hM hD0 hpl hrd hpd hs
  by_cases s1 : s.st = 1
  · have hb1 : (s.st == 1) = true := by simp [s1]
    have kp2 := fun o => cell_old kp o
    have c162 := fun o => cell_old c16 o
    have A : Hid (AskIs D.p i (pl.getD i (-1))) := Or.inl ⟨by rw [HS.out]; exact s1, pl, HM.out.1, rfl⟩
    clear s1
    go_enter Tryz.func47, Tryz.ntmps47
    go_wp2_with fail
    go_ret2
    exact ⟨_, 0, rfl, fin.out _ _ A.out⟩
  have hb1 : (s.st == 1) = false := by simp [s1]
  by_cases s3 : s.st = 3
  · have hb3 : (s.st == 3) = true := by simp [s3]
    have A : Hid (AskIs D.p i s.si) := Or.inr (Or.inl ⟨by rw [HS.out]; exact s3, by rw [HS.out]⟩)
    clear s1 s3
    go_enter Tryz.func47, Tryz.ntmps47
    go_wp2_with fail
    go_ret2
    exact ⟨_, 0, rfl, fin.out _ _ A.out⟩
  · have hb3 : (s.st == 3) = false := by simp [s3]
    have A : Hid (AskIs D.p i (-1)) := Or.inr (Or.inr ⟨by rw [HS.out]; exact s1, by rw [HS.out]; exact s3, rfl⟩)
    clear s1 s3
    go_enter Tryz.func47, Tryz.ntmps47
    go_wp2_with fail
    go_ret2
    exact ⟨_, 0, rfl, fin.out _ _ A.out⟩
end Go.Proofs.YtcmdoeledmkfmacGreatDoor
