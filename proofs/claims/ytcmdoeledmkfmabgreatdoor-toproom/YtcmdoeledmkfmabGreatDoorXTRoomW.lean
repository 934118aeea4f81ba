/- Texts of this claim, in one: TRoomW. -/
import Derived.Test.YtcmdoeledmkfmabGreatDoorXTPlayR
import Derived.Test.YtcmdoeledmkfmabGreatDoorXTBase
/- TopRoom: behind each line who lies, is to come in, what is kept and shut find room together, at every time: P5.1, P2.5. -/
set_option linter.unusedSimpArgs false
set_option linter.unusedVariables false
namespace Go.Proofs.YtcmdoeledmkfmabGreatDoor
open Go.RowKit

/-- what stays while ships are gone through -/
structure RmS (w : World) (g : Nat) (p : Pt) (va : Option Addr) (vc : Nat) (pa : Option Addr) (pc : Nat) (pl : List Int) (W : World) : Prop where
  box : PBox W g p (.slice va p.ships.length vc)
  ships : RowT 51 cShip W (.slice va p.ships.length vc) p.ships
  plan : SlK cInt W (.slice pa pl.length pc) pl
  below : Below w.heap.size w W
theorem RmS.later {w : World} {g : Nat} {p : Pt} {va pa : Option Addr} {vc pc : Nat} {pl : List Int} {W W' : World} (h : RmS w g p va vc pa pc pl W) (hb : Below W.heap.size W W') : RmS w g p va vc pa pc pl W' :=
  ⟨h.box.later hb h.box.lt, h.ships.later hb, slK_below h.plan (Nat.le_refl _) hb, h.below.trans (hb.mono h.below.size)⟩

theorem RmS.cell {w : World} {g : Nat} {p : Pt} {bs os : Nat} {pa : Option Addr} {vc pc : Nat} {pl : List Int} {W : World} (h : RmS w g p (some ⟨bs, os, none⟩) vc pa pc pl W) {k : Nat} {s : Ship} (hs : p.ships[k]? = some s) :
    W.cell? ⟨bs, os + k * 6, none⟩ = some (.int .i64 s.st) ∧ W.cell? ⟨bs, os + k * 6 + 1, none⟩ = some (.int .i64 s.wd) ∧ W.cell? ⟨bs, os + k * 6 + 2, none⟩ = some (.int .i64 s.lg) := by
  obtain ⟨b, o, c, e, hr⟩ := h.ships.cellS (List.getElem?_eq_some_iff.1 hs).1
  injection e with e1
  injection e1 with e1
  injection e1 with e1 e2
  subst e1 e2
  obtain ⟨c0, c1, c2, _⟩ := hr.ship hs
  exact ⟨c0, c1, c2⟩

set_option maxHeartbeats 4000000 in
set_option maxRecDepth 100000 in
theorem lookRoom_any (d : Nat) (D : Dk) (s : Value) (er n : Int) (w : World) (hD : DS w d D) :
    Calls Tryz.prog 21 #[.pointer (some ⟨d, 0, none⟩), s, .agg #[.int .i64 er, .int .i64 n]] w fun e w' => e = .returned (.bool true) ∧ Below w.heap.size w w' := by
  have h4 := hD.ok.port.port.four
  have hln := hD.ok.port.port.len
  have hnow := hD.ok.port.port.now
  have HQ : Hid (IsPort D.p) := hD.ok.port
  have HP := fun W h1 h2 => deskPort_any d D W h1 h2
  have HL := fun W h1 h2 => deskPlan_any d D W h1 h2
  have HB := fun v W h => base_any v D.p W h (WfQ.of hD.ok.port)
  have E0 : Hid (DS (w.alloc (.cells #[.int .i64 er, .int .i64 n] 25)) d D ∧ Below w.heap.size w (w.alloc (.cells #[.int .i64 er, .int .i64 n] 25))) := by
    have hb : Below w.heap.size w (w.alloc (.cells #[.int .i64 er, .int .i64 n] 25)) := (Below.refl _ w).alloc (Nat.le_refl _) _
    exact ⟨hD.later hb, hb⟩
  clear hD
  go_enter Tryz.func21, Tryz.ntmps21
  go_wp2_with fail
  refine (HP _ E0.out.1.dsk E0.out.1.ok).mono ?_
  rintro e w1 ⟨v1, rfl, h1⟩
  obtain ⟨va, vc, hv1⟩ := (RowT.own h1.out.1).shape
  subst hv1
  have E1 : Hid (DS w1 d D ∧ RowT 51 cShip w1 (.slice va D.p.ships.length vc) D.p.ships ∧ Below w.heap.size w w1) := ⟨E0.out.1.later h1.out.2, RowT.own h1.out.1, E0.out.2.trans (h1.out.2.mono E0.out.2.size)⟩
  clear h1 E0 HP
  generalize hPC : (portCells D.p (.slice va D.p.ships.length vc)).toArray = PC at *
  have HPC : Hid ((portCells D.p (.slice va D.p.ships.length vc)).toArray = PC) := hPC
  clear hPC
  go_wp2_with fail
  refine (HL _ E1.out.1.dsk E1.out.1.ok).mono ?_
  rintro e w2 ⟨v2, rfl, h2⟩
  obtain ⟨pl, k1, k2, k3⟩ := h2.out
  have PI : Hid (PlanIs D.p pl) := k1
  have hpl : Hid (pl.length = D.p.ships.length) := k1.len
  obtain ⟨pa, pc, hv2⟩ := (RowT.own k2).shape
  subst hv2
  have E2 : Hid (RowT 51 cShip w2 (.slice va D.p.ships.length vc) D.p.ships ∧ SlK cInt w2 (.slice pa pl.length pc) pl ∧ Below w.heap.size w w2) := ⟨E1.out.2.1.later k3, (RowT.own k2).sl, E1.out.2.2.trans (k3.mono E1.out.2.2.size)⟩
  clear h2 k1 k2 k3 E1 HL
  go_upto_region 2 with (first | (refine wpList_alloc_box rfl rfl 7 rfl ?_; intro w3 h3 s3) | (refine wpList_store_box rfl _ _ rfl w2.heap.size zeroPt D.p (.slice none 0 0) (.slice va D.p.ships.length vc) rfl (by rw [← HPC.out]; rfl) h3.out.1 h4 rfl ?_; intro w4 h4' s4))
  have E4 : Hid (RmS w w2.heap.size D.p va vc pa pc pl w4) := by
    have hb : Below w2.heap.size w2 w4 := h3.out.2.trans (h4'.out.2.2 _ (Nat.le_refl _))
    exact ⟨h4'.out.1, E2.out.1.later hb, slK_below E2.out.2.1 (Nat.le_refl _) hb, E2.out.2.2.trans (hb.mono E2.out.2.2.size)⟩
  clear h3 h4' s3 s4 E2
  generalize w2.heap.size = g at *
  have HB2 := HB (.agg PC) w4 ⟨_, by rw [HPC.out], E4.out.ships.sl, h4, by omega⟩
  clear HB
  go_wp2_with (refine wpList_load_boxq rfl _ rfl g D.p (.slice va D.p.ships.length vc) HPC.out rfl E4.out.box ?_)
  refine HB2.mono ?_
  rintro e w5 ⟨⟨v5, ok5, rfl, hB5, _⟩, hb5⟩
  obtain ⟨rfl, _, r0, hr0⟩ : ok5 = true ∧ IsPort D.p ∧ ∃ r, Sl w5 v5 r ∧ Good r ∧ ∀ t, 0 ≤ t → t < 300 → val r t = baseAt D.p t := by
    rcases hB5 with h | ⟨_, h, _⟩
    · exact h
    · exact absurd HQ.out h
  have E5 : Hid (RmS w g D.p va vc pa pc pl w5 ∧ Left D.p pl (List.range 0) w5 v5) := ⟨E4.out.later hb5, r0, hr0.1, hr0.2.1, fun t t0 t1 => by rw [hr0.2.2 t t0 t1]; show _ = _ - 0; omega⟩
  clear hB5 hb5 hr0 E4 HB2 HPC
  have h14 : pl.length ≤ 14 := by have := hpl.out; omega
  go_wp2_with fail
  go_loopg [9, 10, 11, 12, 24] pl.length (fun kx s9 s10 s11 s12 s24 wr => ∃ (k : Nat), s24 = .int .i64 k ∧ s10 = .bool true ∧ k ≤ pl.length ∧ pl.length - k ≤ kx ∧ Hid (RmS w g D.p va vc pa pc pl wr ∧ Left D.p pl (List.range k) wr s9))
  case atStart => exact ⟨0, rfl, rfl, Nat.zero_le _, by omega, E5⟩
  case round =>
    clear E5
    obtain ⟨k, rfl, rfl, hk, hg, I⟩ := hrel
    by_cases hlt : k < pl.length
    · have hki : (k : Int) < (pl.length : Int) := by omega
      obtain ⟨x, hx⟩ : ∃ t, pl[k]? = some t := ⟨pl[k]'hlt, List.getElem?_eq_getElem hlt⟩
      have EX : Hid (pl.getD k (-1) = x) := getD_some hx
      have hks : k < D.p.ships.length := by have := hpl.out; omega
      have hksi : (k : Int) < (D.p.ships.length : Int) := by omega
      obtain ⟨sh, hsk⟩ : ∃ s, D.p.ships[k]? = some s := ⟨D.p.ships[k]'hks, List.getElem?_eq_getElem hks⟩
      have ESH : Hid (shp D.p k = sh) := shp_get hsk
      obtain ⟨bq, oq, rfl, q0⟩ : ∃ b off, pa = some ⟨b, off, none⟩ ∧ wr.cell? ⟨b, off + k, none⟩ = some (.int .i64 x) := by
        obtain ⟨a', c', e, _, hr⟩ := I.out.1.plan
        injection e with e1
        rcases hr with hr | ⟨b, off, hr, h⟩
        · rw [hr] at hlt; simp at hlt
        · exact ⟨b, off, by rw [e1, hr], h.int hx⟩
      obtain ⟨bs, os, cs, hvs, hrs⟩ := I.out.1.ships.cellS hks
      injection hvs with hvs1 _ hvs2
      subst hvs1 hvs2
      have HSK : Hid (D.p.ships[k]? = some sh) := hsk
      have pc1 := I.out.1.box.cells.2.1
      clear hx hrs hsk
      by_cases hx0 : x < 0
      · have K2 : Hid (RmS w g D.p (some ⟨bs, os, none⟩) vc (some ⟨bq, oq, none⟩) pc pl wr ∧ Left D.p pl (List.range (k + 1)) wr u9) := by
          refine ⟨I.out.1, ?_⟩
          obtain ⟨r, h1, h2, h3⟩ := I.out.2
          refine ⟨r, h1, h2, fun t t0 t1 => ?_⟩
          rw [h3 t t0 t1, List.range_succ, ctrs_append, ctrs_cons, ctrs_nil]
          have : ctr D.p pl k t = 0 := by unfold ctr; rw [EX.out, if_neg (by omega)]
          omega
        have hx1 : ¬ 0 ≤ x := by omega
        go_wp2_with fail
        go_roundg (pl.length - (k + 1))
        case measure => omega
        case rel => exact ⟨k + 1, by go_num, rfl, by omega, Nat.le_refl _, K2⟩
      · have hroom := PI.out.room HQ.out hks (by rw [EX.out]; omega)
        rw [EX.out, ESH.out] at hroom
        obtain ⟨hst, r1, r2, r3⟩ := hroom
        have HSH := (shp_wd HQ.out.port k hks).1
        rw [ESH.out] at HSH
        obtain ⟨w1', w2'⟩ := HSH.wd
        obtain ⟨l1, l2⟩ := HSH.lg
        have hx1 : 0 ≤ x := by omega
        have hadd : IntKind.i64.wrap (x + sh.lg) = x + sh.lg := by rw [IntKind.wrap_i64]; omega
        obtain ⟨r, h1, h2, h3⟩ := I.out.2
        have RR : Hid (Good r ∧ (∀ t, 0 ≤ t → t < 300 → val r t = baseAt D.p t - ctrs D.p pl (List.range k) t) ∧ ∀ t, x ≤ t → t < x + sh.lg → sh.wd ≤ baseAt D.p t - ctrs D.p pl (List.range k) t) := ⟨h2, h3, r3⟩
        have ID : Hid (Sl wr.drew u9 r ∧ RmS w g D.p (some ⟨bs, os, none⟩) vc (some ⟨bq, oq, none⟩) pc pl wr.drew) := ⟨h1.below (Below.refl _ _).drew, I.out.1.later (Below.refl _ _).drew⟩
        clear r3 h1 h2 h3 hst I
        go_upto_region 7 with fail
        clear pc1 q0
        refine wp_region_held_drew (S := fun W => Hid (RmS w g D.p (some ⟨bs, os, none⟩) vc (some ⟨bq, oq, none⟩) pc pl W)) (by kernel_rfl) ID.out.2 (fun hHeld => ?_)
        refine wpAnyH_take (i := 0) (oi := { dst := some 42, op := Go.Op.move (Go.Operand.tmp 9), type := 46, pos := "top.go:94", after := #[], guard := none }) (v := ?_) rfl (by kernel_rfl) (by kernel_rfl) (by kernel_rfl) (fun _ _ _ h => h) (Or.inl ⟨by rfl, ?_⟩) hHeld ?_
        rotate_left
        · (intro w hSw; first | (go_simp; done) | (go_simp; with_reducible rfl))
        simp only [Act.put, List.setIfInBounds_toArray, List.set_cons_zero, List.set_cons_succ]
        refine wpAnyH_take (i := 1) (oi := { dst := some 43, op := Go.Op.move (Go.Operand.tmp 12), type := 3, pos := "top.go:94", after := #[], guard := none }) (v := ?_) rfl (by kernel_rfl) (by kernel_rfl) (by kernel_rfl) (fun _ _ _ h => h) (Or.inl ⟨by rfl, ?_⟩) hHeld ?_
        rotate_left
        · (intro w hSw; first | (go_simp; done) | (go_simp; with_reducible rfl))
        simp only [Act.put, List.setIfInBounds_toArray, List.set_cons_zero, List.set_cons_succ]
        refine wpAnyH_take (i := 2) (oi := { dst := some 44, op := Go.Op.move (Go.Operand.tmp 12), type := 3, pos := "top.go:94", after := #[], guard := none }) (v := ?_) rfl (by kernel_rfl) (by kernel_rfl) (by kernel_rfl) (fun _ _ _ h => h) (Or.inl ⟨by rfl, ?_⟩) hHeld ?_
        rotate_left
        · (intro w hSw; first | (go_simp; done) | (go_simp; with_reducible rfl))
        simp only [Act.put, List.setIfInBounds_toArray, List.set_cons_zero, List.set_cons_succ]
        refine wpAnyH_take (i := 3) (oi := { dst := some 45, op := Go.Op.fieldAddr 33 (Go.Operand.tmp 7) 1, type := 0, pos := "top.go:94", after := #[], guard := none }) (v := ?_) rfl (by kernel_rfl) (by kernel_rfl) (by kernel_rfl) (fun _ _ _ h => h) (Or.inl ⟨by rfl, ?_⟩) hHeld ?_
        rotate_left
        · (intro w hSw; first | (go_simp; done) | (go_simp; with_reducible rfl))
        simp only [Act.put, List.setIfInBounds_toArray, List.set_cons_zero, List.set_cons_succ]
        refine wpAnyH_take (i := 4) (oi := { dst := some 46, op := Go.Op.load 28 (Go.Operand.tmp 45), type := 28, pos := "top.go:94", after := #[{ on := 3, ground := Go.Ground.data }], guard := none }) (v := .slice (some ⟨bs, os, none⟩) D.p.ships.length vc) rfl (by kernel_rfl) (by kernel_rfl) (by kernel_rfl) (fun _ _ _ h => h) (Or.inl ⟨by rfl, by intro w hSw; have hc := hSw.out.box.cells.2.1; go_simp⟩) hHeld ?_
        simp only [Act.put, List.setIfInBounds_toArray, List.set_cons_zero, List.set_cons_succ]
        refine wpAnyH_take (i := 5) (oi := { dst := some 47, op := Go.Op.move (Go.Operand.tmp 11), type := 3, pos := "top.go:94", after := #[], guard := none }) (v := ?_) rfl (by kernel_rfl) (by kernel_rfl) (by kernel_rfl) (fun _ _ _ h => h) (Or.inl ⟨by rfl, ?_⟩) hHeld ?_
        rotate_left
        · (intro w hSw; first | (go_simp; done) | (go_simp; with_reducible rfl))
        simp only [Act.put, List.setIfInBounds_toArray, List.set_cons_zero, List.set_cons_succ]
        refine wpAnyH_take (i := 6) (oi := { dst := some 48, op := Go.Op.indexAddr 28 (Go.Operand.tmp 46) (Go.Operand.tmp 47), type := 0, pos := "top.go:94", after := #[{ on := 4, ground := Go.Ground.data }, { on := 5, ground := Go.Ground.data }], guard := none }) (v := ?_) rfl (by kernel_rfl) (by kernel_rfl) (by kernel_rfl) (fun _ _ _ h => h) (Or.inl ⟨by rfl, ?_⟩) hHeld ?_
        rotate_left
        · (intro w hSw; first | (go_simp; done) | (go_simp; with_reducible rfl))
        simp only [Act.put, List.setIfInBounds_toArray, List.set_cons_zero, List.set_cons_succ]
        refine wpAnyH_take (i := 7) (oi := { dst := some 49, op := Go.Op.fieldAddr 51 (Go.Operand.tmp 48) 2, type := 0, pos := "top.go:94", after := #[{ on := 6, ground := Go.Ground.data }], guard := none }) (v := ?_) rfl (by kernel_rfl) (by kernel_rfl) (by kernel_rfl) (fun _ _ _ h => h) (Or.inl ⟨by rfl, ?_⟩) hHeld ?_
        rotate_left
        · (intro w hSw; first | (go_simp; done) | (go_simp; with_reducible rfl))
        simp only [Act.put, List.setIfInBounds_toArray, List.set_cons_zero, List.set_cons_succ]
        refine wpAnyH_take (i := 8) (oi := { dst := some 50, op := Go.Op.load 3 (Go.Operand.tmp 49), type := 3, pos := "top.go:94", after := #[{ on := 7, ground := Go.Ground.data }], guard := none }) (v := .int .i64 sh.lg) rfl (by kernel_rfl) (by kernel_rfl) (by kernel_rfl) (fun _ _ _ h => h) (Or.inl ⟨by rfl, by intro w hSw; have hc := (RmS.cell hSw.out HSK.out).2.2; go_simp⟩) hHeld ?_
        simp only [Act.put, List.setIfInBounds_toArray, List.set_cons_zero, List.set_cons_succ]
        refine wpAnyH_take (i := 9) (oi := { dst := some 51, op := Go.Op.binOp Go.BinOp.add 3 (Go.Operand.tmp 44) (Go.Operand.tmp 50) 3, type := 3, pos := "top.go:94", after := #[{ on := 2, ground := Go.Ground.data }, { on := 8, ground := Go.Ground.data }], guard := none }) (v := .int .i64 (x + sh.lg)) rfl (by kernel_rfl) (by kernel_rfl) (by kernel_rfl) (fun _ _ _ h => h) (Or.inl ⟨by rfl, by intro w hSw; go_simp; try exact hadd⟩) hHeld ?_
        simp only [Act.put, List.setIfInBounds_toArray, List.set_cons_zero, List.set_cons_succ]
        refine wpAnyH_take (i := 10) (oi := { dst := some 52, op := Go.Op.fieldAddr 33 (Go.Operand.tmp 7) 1, type := 0, pos := "top.go:94", after := #[], guard := none }) (v := ?_) rfl (by kernel_rfl) (by kernel_rfl) (by kernel_rfl) (fun _ _ _ h => h) (Or.inl ⟨by rfl, ?_⟩) hHeld ?_
        rotate_left
        · (intro w hSw; first | (go_simp; done) | (go_simp; with_reducible rfl))
        simp only [Act.put, List.setIfInBounds_toArray, List.set_cons_zero, List.set_cons_succ]
        refine wpAnyH_take (i := 11) (oi := { dst := some 53, op := Go.Op.load 28 (Go.Operand.tmp 52), type := 28, pos := "top.go:94", after := #[{ on := 10, ground := Go.Ground.data }], guard := none }) (v := .slice (some ⟨bs, os, none⟩) D.p.ships.length vc) rfl (by kernel_rfl) (by kernel_rfl) (by kernel_rfl) (fun _ _ _ h => h) (Or.inl ⟨by rfl, by intro w hSw; have hc := hSw.out.box.cells.2.1; go_simp⟩) hHeld ?_
        simp only [Act.put, List.setIfInBounds_toArray, List.set_cons_zero, List.set_cons_succ]
        refine wpAnyH_take (i := 12) (oi := { dst := some 54, op := Go.Op.move (Go.Operand.tmp 11), type := 3, pos := "top.go:94", after := #[], guard := none }) (v := ?_) rfl (by kernel_rfl) (by kernel_rfl) (by kernel_rfl) (fun _ _ _ h => h) (Or.inl ⟨by rfl, ?_⟩) hHeld ?_
        rotate_left
        · (intro w hSw; first | (go_simp; done) | (go_simp; with_reducible rfl))
        simp only [Act.put, List.setIfInBounds_toArray, List.set_cons_zero, List.set_cons_succ]
        refine wpAnyH_take (i := 13) (oi := { dst := some 55, op := Go.Op.indexAddr 28 (Go.Operand.tmp 53) (Go.Operand.tmp 54), type := 0, pos := "top.go:94", after := #[{ on := 11, ground := Go.Ground.data }, { on := 12, ground := Go.Ground.data }], guard := none }) (v := ?_) rfl (by kernel_rfl) (by kernel_rfl) (by kernel_rfl) (fun _ _ _ h => h) (Or.inl ⟨by rfl, ?_⟩) hHeld ?_
        rotate_left
        · (intro w hSw; first | (go_simp; done) | (go_simp; with_reducible rfl))
        simp only [Act.put, List.setIfInBounds_toArray, List.set_cons_zero, List.set_cons_succ]
        refine wpAnyH_take (i := 14) (oi := { dst := some 56, op := Go.Op.fieldAddr 51 (Go.Operand.tmp 55) 1, type := 0, pos := "top.go:94", after := #[{ on := 13, ground := Go.Ground.data }], guard := none }) (v := ?_) rfl (by kernel_rfl) (by kernel_rfl) (by kernel_rfl) (fun _ _ _ h => h) (Or.inl ⟨by rfl, ?_⟩) hHeld ?_
        rotate_left
        · (intro w hSw; first | (go_simp; done) | (go_simp; with_reducible rfl))
        simp only [Act.put, List.setIfInBounds_toArray, List.set_cons_zero, List.set_cons_succ]
        refine wpAnyH_take (i := 15) (oi := { dst := some 57, op := Go.Op.load 3 (Go.Operand.tmp 56), type := 3, pos := "top.go:94", after := #[{ on := 14, ground := Go.Ground.data }], guard := none }) (v := .int .i64 sh.wd) rfl (by kernel_rfl) (by kernel_rfl) (by kernel_rfl) (fun _ _ _ h => h) (Or.inl ⟨by rfl, by intro w hSw; have hc := (RmS.cell hSw.out HSK.out).2.1; go_simp⟩) hHeld ?_
        simp only [Act.put, List.setIfInBounds_toArray, List.set_cons_zero, List.set_cons_succ]
        refine wpAnyH_ready (rs := [16]) (by kernel_rfl) (by simp) ?_
        refine AllReadyH.cons rfl (fun K hK => ?_) AllReadyH.nil
        go_simp
        refine (take_yes _ ID.out.1 RR.out.1 ⟨by omega, w2'⟩ hx1 (by omega) r2 (fun t ta tb => by rw [RR.out.2.1 t (by omega) (by omega)]; exact RR.out.2.2 t ta tb)).mono ?_
        rintro e w6 ⟨v6, rfl, h6⟩
        obtain ⟨⟨r8, g1, g2, g3⟩, _, hb6⟩ := h6.out
        have H6 : Hid (RmS w g D.p (some ⟨bs, os, none⟩) vc (some ⟨bq, oq, none⟩) pc pl w6) := hHeld.out.later hb6
        have F6 : Hid (Left D.p pl (List.range (k + 1)) w6 v6) := by
          refine ⟨r8, g1, g2, fun t t0 t1 => ?_⟩
          rw [g3 t t0 t1, RR.out.2.1 t t0 t1, List.range_succ, ctrs_append, ctrs_cons, ctrs_nil]
          have : ctr D.p pl k t = if x ≤ t ∧ t < x + sh.lg then sh.wd else 0 := by
            unfold ctr
            rw [EX.out, ESH.out]
            by_cases c : x ≤ t ∧ t < x + sh.lg
            · rw [if_pos c, if_pos ⟨by omega, c⟩]
            · rw [if_neg c, if_neg (fun c2 => c c2.2)]
          rw [this]; split <;> omega
        clear h6 g1 g2 g3 hb6 ID RR hHeld
        go_wp2_with fail
        refine hK.out _ _ H6 (fun hHeld => ?_)
        clear hK K
        refine wpAnyH_take (i := 17) (oi := { dst := some 41, op := Go.Op.move (Go.Operand.tmp 58), type := 47, pos := "top.go:94", after := #[{ on := 16, ground := Go.Ground.data }], guard := none }) (v := ?_) rfl (by kernel_rfl) (by kernel_rfl) (by kernel_rfl) (fun _ _ _ h => h) (Or.inl ⟨by rfl, ?_⟩) hHeld ?_
        rotate_left
        · (intro w hSw; first | (go_simp; done) | (go_simp; with_reducible rfl))
        simp only [Act.put, List.setIfInBounds_toArray, List.set_cons_zero, List.set_cons_succ]
        refine wpAnyH_take (i := 18) (oi := { dst := some 59, op := Go.Op.extract (Go.Operand.tmp 41) 0, type := 46, pos := "top.go:94", after := #[{ on := 17, ground := Go.Ground.data }], guard := none }) (v := ?_) rfl (by kernel_rfl) (by kernel_rfl) (by kernel_rfl) (fun _ _ _ h => h) (Or.inl ⟨by rfl, ?_⟩) hHeld ?_
        rotate_left
        · (intro w hSw; first | (go_simp; done) | (go_simp; with_reducible rfl))
        simp only [Act.put, List.setIfInBounds_toArray, List.set_cons_zero, List.set_cons_succ]
        refine wpAnyH_take (i := 19) (oi := { dst := some 60, op := Go.Op.extract (Go.Operand.tmp 41) 1, type := 4, pos := "top.go:94", after := #[{ on := 17, ground := Go.Ground.data }, { on := 20, ground := Go.Ground.gcOnly Go.Departure.lateStores }], guard := none }) (v := ?_) rfl (by kernel_rfl) (by kernel_rfl) (by kernel_rfl) (fun _ _ _ h => h) (Or.inl ⟨by rfl, ?_⟩) hHeld ?_
        rotate_left
        · (intro w hSw; first | (go_simp; done) | (go_simp; with_reducible rfl))
        simp only [Act.put, List.setIfInBounds_toArray, List.set_cons_zero, List.set_cons_succ]
        refine wpAnyH_take (i := 20) (oi := { dst := some 9, op := Go.Op.assign (Go.Operand.tmp 59), type := 46, pos := "top.go:94", after := #[{ on := 18, ground := Go.Ground.data }, { on := 16, ground := Go.Ground.chain }, { on := 0, ground := Go.Ground.phase }, { on := 1, ground := Go.Ground.phase }, { on := 2, ground := Go.Ground.phase }, { on := 3, ground := Go.Ground.phase }, { on := 4, ground := Go.Ground.phase }, { on := 5, ground := Go.Ground.phase }, { on := 6, ground := Go.Ground.phase }, { on := 7, ground := Go.Ground.phase }, { on := 8, ground := Go.Ground.phase }, { on := 9, ground := Go.Ground.phase }, { on := 10, ground := Go.Ground.phase }, { on := 11, ground := Go.Ground.phase }, { on := 12, ground := Go.Ground.phase }, { on := 13, ground := Go.Ground.phase }, { on := 14, ground := Go.Ground.phase }, { on := 15, ground := Go.Ground.phase }, { on := 16, ground := Go.Ground.phase }, { on := 17, ground := Go.Ground.phase }, { on := 18, ground := Go.Ground.phase }, { on := 19, ground := Go.Ground.textOnly Go.Departure.lateStores }], guard := none }) (v := ?_) rfl (by kernel_rfl) (by kernel_rfl) (by kernel_rfl) (fun _ _ _ h => h) (Or.inl ⟨by rfl, ?_⟩) hHeld ?_
        rotate_left
        · (intro w hSw; first | (go_simp; done) | (go_simp; with_reducible rfl))
        simp only [Act.put, List.setIfInBounds_toArray, List.set_cons_zero, List.set_cons_succ]
        refine wpAnyH_take (i := 21) (oi := { dst := some 10, op := Go.Op.assign (Go.Operand.tmp 60), type := 4, pos := "top.go:94", after := #[{ on := 19, ground := Go.Ground.data }, { on := 20, ground := Go.Ground.chain }, { on := 0, ground := Go.Ground.phase }, { on := 1, ground := Go.Ground.phase }, { on := 2, ground := Go.Ground.phase }, { on := 3, ground := Go.Ground.phase }, { on := 4, ground := Go.Ground.phase }, { on := 5, ground := Go.Ground.phase }, { on := 6, ground := Go.Ground.phase }, { on := 7, ground := Go.Ground.phase }, { on := 8, ground := Go.Ground.phase }, { on := 9, ground := Go.Ground.phase }, { on := 10, ground := Go.Ground.phase }, { on := 11, ground := Go.Ground.phase }, { on := 12, ground := Go.Ground.phase }, { on := 13, ground := Go.Ground.phase }, { on := 14, ground := Go.Ground.phase }, { on := 15, ground := Go.Ground.phase }, { on := 16, ground := Go.Ground.phase }, { on := 17, ground := Go.Ground.phase }, { on := 18, ground := Go.Ground.phase }, { on := 19, ground := Go.Ground.phase }, { on := 20, ground := Go.Ground.phase }], guard := none }) (v := ?_) rfl (by kernel_rfl) (by kernel_rfl) (by kernel_rfl) (fun _ _ _ h => h) (Or.inl ⟨by rfl, ?_⟩) hHeld ?_
        rotate_left
        · (intro w hSw; first | (go_simp; done) | (go_simp; with_reducible rfl))
        simp only [Act.put, List.setIfInBounds_toArray, List.set_cons_zero, List.set_cons_succ]
        refine wpAnyH_done (by kernel_rfl) ?_ _
        clear hHeld
        go_wp2_with fail
        go_roundg (pl.length - (k + 1))
        case measure => omega
        case rel => exact ⟨k + 1, by go_num, rfl, by omega, Nat.le_refl _, H6.out, F6.out⟩
    · have hki : ¬ ((k : Int) < (pl.length : Int)) := by omega
      have pc1 := I.out.1.box.cells.2.1
      have hpl2 := hpl.out
      go_wp2_with fail
      go_ret
      exact ⟨rfl, I.out.1.below⟩

theorem topRoom_any (v : Value) (l : List (List UInt8)) (w : World) (hL : LW w) (hs : SlK cStr w v l) (hln : ∀ y ∈ l, y.length ≤ 9223372036854775807) (hll : l.length ≤ 8796093022208) :
    Calls Tryz.prog 5 #[v] w fun e w' => e = .returned (.bool true) ∧ Below w.heap.size w w' := by
  have HP := playR_any v l w w.heap.size hL (Nat.le_refl _) (fun W h => slK_below hs (Nat.le_refl _) h) hln hll
    (fun W d D k => DS W d D ∧ w.heap.size ≤ d ∧ Below w.heap.size w W) (fun W d D k er n => DS W d D ∧ w.heap.size ≤ d ∧ Below w.heap.size w W)
    (fun W d h1 h2 h3 => ⟨h3, h2, h1⟩) (fun W d D k h => h)
    (fun W W' d D D' k s er n h hk _ hl hd hf => ⟨hd, h.2.1, h.2.2.trans (hf.below.mono h.2.1)⟩)
    (fun W d D k er n h => h) (fun W W' d D k er n h hb => ⟨h.1.later hb, h.2.1, h.2.2.trans (hb.mono h.2.2.size)⟩)
    (fun W d D k s er n h _ _ => (lookRoom_any d D _ er n W h.1).mono fun e W' ⟨he, hb⟩ => ⟨he, ⟨h.1.later hb, h.2.1, h.2.2.trans (hb.mono h.2.2.size)⟩, fun g x y hg => hg.later hb⟩)
  obtain ⟨a, cap, hv⟩ : ∃ a cap, v = .slice a l.length cap := by obtain ⟨a, cap, h, _⟩ := hs; exact ⟨a, cap, h⟩
  subst hv
  clear hL hs hln
  go_enter Tryz.func5, Tryz.ntmps5
  go_wp2_with fail
  refine HP.mono ?_
  rintro e w1 ⟨d, rfl, h1⟩
  have B1 : Hid (Below w.heap.size w w1) := by obtain ⟨D, h⟩ := h1.out; exact h.2.2
  clear h1 HP
  go_wp2_with fail
  go_ret
  exact ⟨rfl, B1.out⟩

end Go.Proofs.YtcmdoeledmkfmabGreatDoor
