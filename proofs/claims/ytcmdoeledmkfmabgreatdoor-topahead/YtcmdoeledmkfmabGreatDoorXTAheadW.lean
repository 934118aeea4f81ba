/- Texts of this claim, in one: TAheadW. -/
import Derived.Test.YtcmdoeledmkfmabGreatDoorXTBase
import Derived.Test.YtcmdoeledmkfmabGreatDoorQL
/- TopAhead: who comes moves nobody of its class, or of one ahead: P5.2, P2.5. -/
set_option linter.unusedSimpArgs false
set_option linter.unusedVariables false
namespace Go.Proofs.YtcmdoeledmkfmabGreatDoor
open Go.RowKit

/-- who comes moves nobody ahead -/
theorem ahead_told {D D' : Dk} {a b c n : Int} {x y : List Int} (h : LineIs D (lineO ⟨1, a, b, c⟩) D' 0 n) (hn : D.n < 250) (hD : DOk D) (hg : GoodO ⟨1, a, b, c⟩) (hx : PlanIs D.p x) (hy : PlanIs D'.p y) {i : Nat} (hi : i < D.p.ships.length) (hw : (shp D.p i).st = 1) (hc : (shp D.p i).cl ≤ c) :
    i < D'.p.ships.length ∧ (shp D'.p i).st = 1 ∧ y.getD i (-1) = x.getD i (-1) := by
  obtain ⟨m, q, hT, hr⟩ := told_order h hn hg (by show (1 : Int) < 9; decide)
  rcases hr with ⟨h, _⟩ | ⟨_, _, r, hA, rfl⟩
  · exact absurd rfl h
  · exact ahead_math hD.rests hT hA hx hy hi hw hc

/-- it adds one ship -/
theorem ahead_len {D D' : Dk} {a b c n : Int} (h : LineIs D (lineO ⟨1, a, b, c⟩) D' 0 n) (hn : D.n < 250) (hg : GoodO ⟨1, a, b, c⟩) : D.p.ships.length ≤ D'.p.ships.length := by
  obtain ⟨m, q, hT, hr⟩ := told_order h hn hg (by show (1 : Int) < 9; decide)
  rcases hr with ⟨h, _⟩ | ⟨_, _, r, ⟨z, _, rfl⟩, rfl⟩
  · exact absurd rfl h
  · obtain ⟨_, hA, _⟩ := come_is hT
    show D.p.ships.length ≤ (dueP q z).ships.length
    rw [due_len]
    have := hA.le
    exact this

/-- what stays while the loop goes on -/
structure AhS (w : World) (g15 g16 d : Nat) (D D' : Dk) (v3 v5 : Value) (pa : Option Addr) (pc : Nat) (pl : List Int) (W : World) : Prop where
  ds : DS W d D'
  was : PBox W g15 D.p v3
  now : PBox W g16 D'.p v5
  ships : RowT 51 cShip W v3 D.p.ships
  ships' : RowT 51 cShip W v5 D'.p.ships
  plan : RowT 3 cInt W (.slice pa pl.length pc) pl
  below : Below w.heap.size w W

theorem AhS.later {w : World} {g15 g16 d : Nat} {D D' : Dk} {v3 v5 : Value} {pa : Option Addr} {pc : Nat} {pl : List Int} {W W' : World} (h : AhS w g15 g16 d D D' v3 v5 pa pc pl W) (hb : Below W.heap.size W W') : AhS w g15 g16 d D D' v3 v5 pa pc pl W' :=
  ⟨h.ds.later hb, h.was.later hb h.was.lt, h.now.later hb h.now.lt, h.ships.later hb, h.ships'.later hb, h.plan.later hb, h.below.trans (hb.mono h.below.size)⟩

set_option maxHeartbeats 4000000 in
set_option maxRecDepth 100000 in
theorem topAhead_any (v : Value) (l : List (List UInt8)) (a b c : Int) (w : World) (hL : LW w) (hs : SlK cStr w v l) (hln : ∀ y ∈ l, y.length ≤ 9223372036854775807) (hll : l.length ≤ 8796093022208) (ha : (Lit.int .i64 a).wf = true) (hb : (Lit.int .i64 b).wf = true) (hc : (Lit.int .i64 c).wf = true) :
    Calls Tryz.prog 7 #[v, .int .i64 a, .int .i64 b, .int .i64 c] w fun e w' => e = .returned (.bool true) ∧ Below w.heap.size w w' := by
  have HP := playQuiet_any v l w hL hs hln hll
  have HPR := fun W h => print_any ⟨1, a, b, c⟩ W h
  obtain ⟨pa, cap, hv⟩ : ∃ a cap, v = .slice a l.length cap := by obtain ⟨a, cap, h, _⟩ := hs; exact ⟨a, cap, h⟩
  subst hv
  clear hL hs hln ha hb hc
  simp only at HPR
  go_enter Tryz.func7, Tryz.ntmps7
  go_wp2_with fail
  refine HP.mono ?_
  rintro e w1 ⟨d, rfl, h1⟩
  obtain ⟨D, hD⟩ := h1.out
  have E1 : Hid (PD l w w1 d D) := hD
  have h4 := hD.ds.ok.port.port.four
  have hsn := hD.ds.ok.port.port.len
  clear h1 hD HP
  go_upto_region 5 with (first | (refine wpList_alloc_ord rfl rfl 11 rfl ?_; intro w2 h2 s2) | (refine wpList_store_ord rfl _ _ rfl w1.heap.size noOrd ⟨1, a, b, c⟩ rfl rfl h2.out.1 ?_; intro w3 h3 s3))
  have E3 : Hid (PD l w w3 d D ∧ LOB w3 w1.heap.size ⟨1, a, b, c⟩) := ⟨E1.out.later (h2.out.2.trans (h3.out.2.2 _ (Nat.le_refl _))), h3.out.1⟩
  clear h2 h3 s2 s3 E1
  generalize w1.heap.size = go at *
  go_wp2_with (refine wpList_load_ord rfl _ rfl go ⟨1, a, b, c⟩ rfl E3.out.2 ?_)
  refine (HPR _ E3.out.1.ds.lw).mono ?_
  rintro e w4 ⟨hPP, hb4⟩
  have E4 : Hid (PD l w w4 d D) := E3.out.1.later hb4
  clear E3 hb4 HPR
  have HPL := fun W h1 h2 => deskPlan_any d D W h1 h2
  have HPO := fun W h1 h2 => deskPort_any d D W h1 h2
  obtain ⟨lo, er1, rfl, HPP⟩ : ∃ lo er1, e = .returned (.tuple #[.string ⟨lo.toArray⟩, .int .i64 er1]) ∧ Hid ((GoodO ⟨1, a, b, c⟩ ∧ er1 = 0 ∧ lo = lineO ⟨1, a, b, c⟩) ∨ er1 = 1) := by
    rcases hPP with ⟨hG, rfl⟩ | ⟨_, rfl⟩
    · exact ⟨lineO ⟨1, a, b, c⟩, 0, rfl, Or.inl ⟨hG, rfl, rfl⟩⟩
    · exact ⟨[], 1, rfl, Or.inr rfl⟩
  clear hPP
  go_wp2_with fail
  refine (HPL _ E4.out.ds.dsk E4.out.ds.ok).mono ?_
  rintro e w5 ⟨v5, rfl, h5⟩
  obtain ⟨pl, k1, k2, k3⟩ := h5.out
  obtain ⟨qa, qc, hv5⟩ := (RowT.own k2).shape
  subst hv5
  have hpl : Hid (pl.length = D.p.ships.length) := k1.len
  have E5 : Hid (PD l w w5 d D ∧ PlanIs D.p pl ∧ RowT 3 cInt w5 (.slice qa pl.length qc) pl) := ⟨E4.out.later k3, k1, RowT.own k2⟩
  clear h5 k1 k2 k3 E4 HPL
  go_wp2_with fail
  refine (HPO _ E5.out.1.ds.dsk E5.out.1.ds.ok).mono ?_
  rintro e w6 ⟨v6, rfl, h6⟩
  have E6 : Hid (PD l w w6 d D ∧ PlanIs D.p pl ∧ RowT 3 cInt w6 (.slice qa pl.length qc) pl ∧ RowT 51 cShip w6 v6 D.p.ships) := ⟨E5.out.1.later h6.out.2, E5.out.2.1, E5.out.2.2.later h6.out.2, RowT.own h6.out.1⟩
  have on6 : v6.oneCell' = true := E6.out.2.2.2.one
  clear h6 E5 HPO
  generalize hPC : (portCells D.p v6).toArray = PC at *
  have HPC : Hid ((portCells D.p v6).toArray = PC) := hPC
  clear hPC
  go_upto_region 7 with (first | (refine wpList_alloc_box rfl rfl 15 rfl ?_; intro w7 h7 s7) | (refine wpList_store_box rfl _ _ rfl w6.heap.size zeroPt D.p (.slice none 0 0) v6 rfl (by rw [← HPC.out]; rfl) h7.out.1 h4 on6 ?_; intro w8 h8 s8))
  have E8 : Hid (PD l w w8 d D ∧ PlanIs D.p pl ∧ RowT 3 cInt w8 (.slice qa pl.length qc) pl ∧ RowT 51 cShip w8 v6 D.p.ships ∧ PBox w8 w6.heap.size D.p v6 ∧ d < w6.heap.size) := by
    have hb : Below w6.heap.size w6 w8 := h7.out.2.trans (h8.out.2.2 _ (Nat.le_refl _))
    exact ⟨E6.out.1.later hb, E6.out.2.1, E6.out.2.2.1.later hb, E6.out.2.2.2.later hb, h8.out.1, E6.out.1.lt⟩
  clear h7 h8 s7 s8 E6
  generalize w6.heap.size = g15 at *
  rcases HPP.out with ⟨hG, rfl, hlo⟩ | rfl
  case inr =>
    go_wp2_with fail
    go_ret
    exact ⟨rfl, E8.out.1.below⟩
  have HG : Hid (GoodO ⟨1, a, b, c⟩ ∧ lo = lineO ⟨1, a, b, c⟩) := ⟨hG, hlo⟩
  have HT := fun W h => tell_ds d D lo W h (by have := line_len hG; rw [hlo]; omega)
  unfold txt at HT
  clear hG hlo HPP
  go_wp2_with fail
  refine (HT _ E8.out.1.ds).mono ?_
  rintro e w9 ⟨er, n, rfl, h9⟩
  obtain ⟨D', j1, j2, j3⟩ := h9.out
  have hf := fieldCode (.int .i64 er) (.int .i64 n)
  by_cases he : er = 0
  case neg =>
    have E9 : Hid (Below w.heap.size w w9) := E8.out.1.below.trans (j3.below.mono E8.out.1.new)
    have hne : (er != 0) = true := by simp [he]
    clear h9 j1 j2 j3 E8 HT he
    go_wp2_with fail
    go_ret
    exact ⟨rfl, E9.out⟩
  subst he
  have E9 : Hid (DS w9 d D' ∧ RowT 3 cInt w9 (.slice qa pl.length qc) pl ∧ RowT 51 cShip w9 v6 D.p.ships ∧ PBox w9 g15 D.p v6 ∧ Below w.heap.size w w9) := ⟨j2, E8.out.2.2.1.told E8.out.1.ds j3 (by decide), E8.out.2.2.2.1.told E8.out.1.ds j3 (by decide), E8.out.2.2.2.2.1.told j3 (by have := E8.out.2.2.2.2.2; omega), E8.out.1.below.trans (j3.below.mono E8.out.1.new)⟩
  rw [HG.out.2] at j1
  have HM : Hid (∀ y, PlanIs D'.p y → ∀ i, i < D.p.ships.length → (shp D.p i).st = 1 → (shp D.p i).cl ≤ c → i < D'.p.ships.length ∧ (shp D'.p i).st = 1 ∧ y.getD i (-1) = pl.getD i (-1)) := fun y hy i hi hw hc => ahead_told j1 (by have := E8.out.1.n; omega) E8.out.1.ds.ok HG.out.1 E8.out.2.1 hy hi hw hc
  clear h9 j1 j2 j3 E8 HT HG
  have HPO := fun W h1 h2 => deskPort_any d D' W h1 h2
  have HPL := fun W h1 h2 => deskPlan_any d D' W h1 h2
  go_wp2_with fail
  refine (HPO _ E9.out.1.dsk E9.out.1.ok).mono ?_
  rintro e w10 ⟨v10, rfl, h10⟩
  have h4' := E9.out.1.ok.port.port.four
  have hsn' := E9.out.1.ok.port.port.len
  have E10 : Hid (DS w10 d D' ∧ RowT 3 cInt w10 (.slice qa pl.length qc) pl ∧ RowT 51 cShip w10 v6 D.p.ships ∧ PBox w10 g15 D.p v6 ∧ Below w.heap.size w w10 ∧ RowT 51 cShip w10 v10 D'.p.ships) := ⟨E9.out.1.later h10.out.2, E9.out.2.1.later h10.out.2, E9.out.2.2.1.later h10.out.2, E9.out.2.2.2.1.later h10.out.2 E9.out.2.2.2.1.lt, E9.out.2.2.2.2.trans (h10.out.2.mono E9.out.2.2.2.2.size), RowT.own h10.out.1⟩
  have on10 : v10.oneCell' = true := E10.out.2.2.2.2.2.one
  clear h10 E9 HPO
  generalize hQC : (portCells D'.p v10).toArray = QC at *
  have HQC : Hid ((portCells D'.p v10).toArray = QC) := hQC
  clear hQC
  go_upto_region 10 with (first | (refine wpList_alloc_box rfl rfl 16 rfl ?_; intro w11 h11 s11) | (refine wpList_store_box rfl _ _ rfl w10.heap.size zeroPt D'.p (.slice none 0 0) v10 rfl (by rw [← HQC.out]; rfl) h11.out.1 h4' on10 ?_; intro w12 h12 s12))
  have E12 : Hid (AhS w g15 w10.heap.size d D D' v6 v10 qa qc pl w12) := by
    have hb : Below w10.heap.size w10 w12 := h11.out.2.trans (h12.out.2.2 _ (Nat.le_refl _))
    exact ⟨E10.out.1.later hb, E10.out.2.2.2.1.later hb E10.out.2.2.2.1.lt, h12.out.1, E10.out.2.2.1.later hb, E10.out.2.2.2.2.2.later hb, E10.out.2.1.later hb, E10.out.2.2.2.2.1.trans (hb.mono E10.out.2.2.2.2.1.size)⟩
  clear h11 h12 s11 s12 E10 HPC HQC
  generalize w10.heap.size = g16 at *
  have h14 : pl.length ≤ 14 := by have := hpl.out; omega
  obtain ⟨va, vc, hv6⟩ := E12.out.ships.shape
  obtain ⟨na, nc, hv10⟩ := E12.out.ships'.shape
  subst hv6 hv10
  go_wp2_with fail
  go_loopg [17, 18, 19, 53] pl.length (fun kx s17 s18 s19 s53 wr => ∃ (k : Nat), s53 = .int .i64 k ∧ k ≤ pl.length ∧ pl.length - k ≤ kx ∧ Hid (AhS w g15 g16 d D D' (.slice va D.p.ships.length vc) (.slice na D'.p.ships.length nc) qa qc pl wr))
  case atStart => exact ⟨0, rfl, Nat.zero_le _, by omega, E12⟩
  case round =>
    clear E12
    obtain ⟨k, rfl, hk, hg, I⟩ := hrel
    by_cases hlt : k < pl.length
    · have hki : (k : Int) < (pl.length : Int) := by omega
      obtain ⟨t, ht⟩ : ∃ t, pl[k]? = some t := ⟨pl[k]'hlt, List.getElem?_eq_getElem hlt⟩
      have hks : k < D.p.ships.length := by have := hpl.out; omega
      have hksi : (k : Int) < (D.p.ships.length : Int) := by omega
      obtain ⟨s, hsk⟩ : ∃ s, D.p.ships[k]? = some s := ⟨D.p.ships[k]'hks, List.getElem?_eq_getElem hks⟩
      obtain ⟨bq, oq, rfl, hcq⟩ : ∃ b off, qa = some ⟨b, off, none⟩ ∧ ∀ W, RowT 3 cInt W (.slice qa pl.length qc) pl → W.cell? ⟨b, off + k, none⟩ = some (.int .i64 t) := by
        obtain ⟨a', c', e, _, hr⟩ := I.out.plan.sl
        injection e with e1
        rcases hr with hr | ⟨b, off, hr, h⟩
        · rw [hr] at hlt; simp at hlt
        · refine ⟨b, off, by rw [e1, hr], fun W hW => ?_⟩
          obtain ⟨a2, c2, e2, _, hr2⟩ := hW.sl
          injection e2 with e3
          rcases hr2 with hr2 | ⟨b2, off2, hr2, h2⟩
          · rw [hr2] at hlt; simp at hlt
          · rw [e1, hr, hr2] at e3
            injection e3 with e3
            injection e3 with e3 e4
            subst e3 e4
            exact h2.int ht
      obtain ⟨bs, os, cs, hvs, hrs⟩ := I.out.ships.cellS hks
      injection hvs with hvs1 _ hvs2
      subst hvs1 hvs2
      obtain ⟨c0, c1, c2, c3, c4, c5⟩ := hrs.ship hsk
      obtain ⟨pc0, pc1, pc14, pc15⟩ := I.out.was.cells
      have q0 := hcq _ I.out.plan
      have hbw : Below wr.heap.size wr (wr.alloc (.cells #[.int .i64 s.st, .int .i64 s.wd, .int .i64 s.lg, .int .i64 s.cl, .int .i64 s.si, .int .i64 s.qu] 51)) := (Below.refl _ wr).alloc (Nat.le_refl _) _
      have I3 : Hid (AhS w g15 g16 d D D' (.slice (some ⟨bs, os, none⟩) D.p.ships.length vc) (.slice na D'.p.ships.length nc) (some ⟨bq, oq, none⟩) qc pl (wr.alloc (.cells #[.int .i64 s.st, .int .i64 s.wd, .int .i64 s.lg, .int .i64 s.cl, .int .i64 s.si, .int .i64 s.qu] 51))) := I.out.later hbw
      have N4 : Hid (SBox (wr.alloc (.cells #[.int .i64 s.st, .int .i64 s.wd, .int .i64 s.lg, .int .i64 s.cl, .int .i64 s.si, .int .i64 s.qu] 51)) wr.heap.size s) := SBox.new wr s
      have HS : Hid (shp D.p k = s) := shp_get hsk
      have HX : Hid (pl.getD k (-1) = t) := getD_some ht
      clear hbw hrs hsk ht
      go_upto_region 14 with fail
      clear c0 c1 c2 c3 c4 c5 pc0 pc1 pc14 pc15 q0 I
      generalize wr.alloc (.cells #[.int .i64 s.st, .int .i64 s.wd, .int .i64 s.lg, .int .i64 s.cl, .int .i64 s.si, .int .i64 s.qu] 51) = WB at *
      generalize wr.heap.size = gs at *
      obtain ⟨s0, _, _, s3, _, _⟩ := N4.out.cells
      by_cases g1 : s.st = 1
      case neg =>
        have hb1 : (s.st == 1) = false := by simp [g1]
        clear N4 HM HPL
        go_wp2_with fail
        go_roundg (pl.length - (k + 1))
        case measure => omega
        case rel => exact ⟨k + 1, by go_num, by omega, Nat.le_refl _, I3⟩
      have hb1 : (s.st == 1) = true := by simp [g1]
      by_cases g2 : s.cl ≤ c
      case neg =>
        have hb2 : decide (s.cl ≤ c) = false := decide_eq_false g2
        clear N4 HM HPL g2
        go_wp2_with fail
        go_roundg (pl.length - (k + 1))
        case measure => omega
        case rel => exact ⟨k + 1, by go_num, by omega, Nat.le_refl _, I3⟩
      have hb2 : decide (s.cl ≤ c) = true := decide_eq_true g2
      have HM2 : Hid (∀ y, PlanIs D'.p y → k < D'.p.ships.length ∧ (shp D'.p k).st = 1 ∧ y.getD k (-1) = t) := fun y hy => by
        have := HM.out y hy k hks (by rw [HS.out]; exact g1) (by rw [HS.out]; exact g2)
        rw [HX.out] at this
        exact this
      clear HM g2 HX HS
      obtain ⟨hk', hst', _⟩ : k < D'.p.ships.length ∧ (shp D'.p k).st = 1 ∧ True := by
        obtain ⟨_, _, _, y, hM⟩ := I3.out.ds.dsk
        have := HM2.out y hM.plan
        exact ⟨this.1, this.2.1, trivial⟩
      have hki' : (k : Int) < (D'.p.ships.length : Int) := by omega
      obtain ⟨s', hsk'⟩ : ∃ s, D'.p.ships[k]? = some s := ⟨D'.p.ships[k]'hk', List.getElem?_eq_getElem hk'⟩
      rw [shp_get hsk'] at hst'
      obtain ⟨bs', os', cs', hvs, hrs⟩ := I3.out.ships'.cellS hk'
      injection hvs with hvs1 _ hvs2
      subst hvs1 hvs2
      have d0 := (hrs.ship hsk').1
      rw [hst'] at d0
      have pc1 := I3.out.now.cells.2.1
      clear hrs hsk' hst' N4
      go_wp2_with fail
      refine (HPL _ I3.out.ds.dsk I3.out.ds.ok).mono ?_
      rintro e wz ⟨vz, rfl, hz⟩
      obtain ⟨bz, oz, nz, cz, rfl, hcz, hnz, Iz⟩ : ∃ b o n cc, vz = .slice (some ⟨b, o, none⟩) n cc ∧ wz.cell? ⟨b, o + k, none⟩ = some (.int .i64 t) ∧ k < n ∧ Hid (AhS w g15 g16 d D D' (.slice (some ⟨bs, os, none⟩) D.p.ships.length vc) (.slice (some ⟨bs', os', none⟩) D'.p.ships.length nc) (some ⟨bq, oq, none⟩) qc pl wz) := by
        obtain ⟨y, k1, k2, k3⟩ := hz.out
        have hy := HM2.out y k1
        have hyl := k1.len
        obtain ⟨a', c', rfl, _, hr⟩ := (RowT.own k2).sl
        rcases hr with hr | ⟨b, off, rfl, hr⟩
        · rw [hr] at hyl; simp at hyl; omega
        · refine ⟨b, off, y.length, c', rfl, hr.int ?_, by omega, I3.out.later k3⟩
          rw [← hy.2.2]
          exact getD_in (by omega)
      have hnz' : (k : Int) < (nz : Int) := by omega
      clear hz HM2 I3 d0 pc1 s0 s3
      go_wp2_with fail
      go_roundg (pl.length - (k + 1))
      case measure => omega
      case rel => exact ⟨k + 1, by go_num, by omega, Nat.le_refl _, Iz⟩
    · have hki : ¬ ((k : Int) < (pl.length : Int)) := by omega
      go_wp2_with fail
      go_ret
      exact ⟨rfl, I.out.below⟩

end Go.Proofs.YtcmdoeledmkfmabGreatDoor
