/- Texts of this claim, in one: TStartsW. -/
import Derived.Test.YtcmdoeledmkfmabGreatDoorXTPlayS
import Derived.Test.YtcmdoeledmkfmabGreatDoorXTBase
set_option linter.unusedSimpArgs false
set_option linter.unusedVariables false
namespace Go.Proofs.YtcmdoeledmkfmabGreatDoor
open Go.RowKit
structure CapS (gw gp : Nat) (pw : Pt) (wa : Option Addr) (wc : Nat) (pa : Option Addr) (pc : Nat) (pl : List Int) (W : World) : Prop where
  box : PBox W gw pw (.slice wa pw.ships.length wc)
  ships : RowT 51 cShip W (.slice wa pw.ships.length wc) pw.ships
  var : W.heap[gp]? = some (.cells #[.slice pa pl.length pc] 35 (0, 0))
  row : RowT 3 cInt W (.slice pa pl.length pc) pl
theorem CapS.lt {gw gp : Nat} {pw : Pt} {wa pa : Option Addr} {wc pc : Nat} {pl : List Int} {W : World} (h : CapS gw gp pw wa wc pa pc pl W) : gp < W.heap.size := (Array.getElem?_eq_some_iff.1 h.var).1
theorem CapS.later {gw gp : Nat} {pw : Pt} {wa pa : Option Addr} {wc pc : Nat} {pl : List Int} {W W' : World} (h : CapS gw gp pw wa wc pa pc pl W) (hb : Below W.heap.size W W') : CapS gw gp pw wa wc pa pc pl W' :=
  ⟨h.box.later hb h.box.lt, h.ships.later hb, by rw [hb.block gp h.lt]; exact h.var, h.row.later hb⟩
theorem CapS.cell {gw gp : Nat} {pw : Pt} {wa pa : Option Addr} {wc pc : Nat} {pl : List Int} {W : World} (h : CapS gw gp pw wa wc pa pc pl W) : W.cell? ⟨gp, 0, none⟩ = some (.slice pa pl.length pc) := cell_of_row _ _ _ _ _ _ h.var
structure LtS (w : World) (g9 gw gp d : Nat) (D : Dk) (pw : Pt) (wa : Option Addr) (wc : Nat) (pa : Option Addr) (pc : Nat) (pl : List Int) (vs : Value) (W : World) : Prop where
  ds : DS W d D
  cap : CapS gw gp pw wa wc pa pc pl W
  box : PBox W g9 D.p vs
  ships : RowT 51 cShip W vs D.p.ships
  below : Below w.heap.size w W
theorem LtS.later {w : World} {g9 gw gp d : Nat} {D : Dk} {pw : Pt} {wa pa : Option Addr} {wc pc : Nat} {pl : List Int} {vs : Value} {W W' : World} (h : LtS w g9 gw gp d D pw wa wc pa pc pl vs W) (hb : Below W.heap.size W W') : LtS w g9 gw gp d D pw wa wc pa pc pl vs W' :=
  ⟨h.ds.later hb, h.cap.later hb, h.box.later hb h.box.lt, h.ships.later hb, h.below.trans (hb.mono h.below.size)⟩
structure StS (w : World) (g9 gs gw gp d : Nat) (D : Dk) (pw : Pt) (wa : Option Addr) (wc : Nat) (pa : Option Addr) (pc : Nat) (pl : List Int) (vs : Value) (xst xsi : Int) (W : World) : Prop where
  all : LtS w g9 gw gp d D pw wa wc pa pc pl vs W
  st : W.cell? ⟨gs, 0, none⟩ = some (.int .i64 xst)
  si : W.cell? ⟨gs, 4, none⟩ = some (.int .i64 xsi)
  lt : gs < W.heap.size
theorem StS.cap {w : World} {g9 gs gw gp d : Nat} {D : Dk} {pw : Pt} {wa pa : Option Addr} {wc pc : Nat} {pl : List Int} {vs : Value} {xst xsi : Int} {W : World} (h : StS w g9 gs gw gp d D pw wa wc pa pc pl vs xst xsi W) : CapS gw gp pw wa wc pa pc pl W := h.all.cap
theorem StS.later {w : World} {g9 gs gw gp d : Nat} {D : Dk} {pw : Pt} {wa pa : Option Addr} {wc pc : Nat} {pl : List Int} {vs : Value} {xst xsi : Int} {W W' : World} (h : StS w g9 gs gw gp d D pw wa wc pa pc pl vs xst xsi W) (hb : Below W.heap.size W W') : StS w g9 gs gw gp d D pw wa wc pa pc pl vs xst xsi W' :=
  ⟨h.all.later hb, (cell_same (hb.block gs h.lt)).trans h.st, (cell_same (hb.block gs h.lt)).trans h.si, Nat.lt_of_lt_of_le h.lt hb.size⟩
theorem DS.kept {w w' : World} {d gw gp : Nat} {D : Dk} {cw cp : Array Value} {fw fp : Nat × Nat} (h : DS w d D) (hgw : gw < d) (hgp : gp < d) (hug : ∀ u ∈ usedG, u < gw ∧ u < gp) (hw : w.heap[gw]? = some (Obj.cells cw 33 fw)) (hp : w.heap[gp]? = some (Obj.cells cp 35 fp)) (hs : ∀ k, k ≠ gw → k ≠ gp → w'.heap[k]? = w.heap[k]?) : DS w' d D := by
  have key : ∀ (j : Nat) cur t f, w.heap[j]? = some (Obj.cells cur t f) → (t = 51 ∨ t = 3) → w'.heap[j]? = w.heap[j]? := fun j cur t f hj ht => hs j (ne_typed hj hw (by rcases ht with rfl | rfl <;> decide)) (ne_typed hj hp (by rcases ht with rfl | rfl <;> decide))
  refine ⟨h.lw.same fun u hu => hs u (by have := hug u hu; omega) (by have := hug u hu; omega), ?_, h.ok⟩
  obtain ⟨vs, vp, va, pl, hM⟩ := h.dsk
  refine ⟨vs, vp, va, pl, hM.box.same (hs d (by omega) (by omega)), hM.ships.same fun k cur f hk => key k cur _ f hk (Or.inl rfl), hM.plan, hM.row.same fun k cur f hk => key k cur _ f hk (Or.inr rfl), ?_, hM.old, hM.far⟩
  have ha := hM.asd
  have hf := hM.far
  cases e : D.asd with
  | none => rw [e] at ha; exact ha
  | some q =>
    rw [e] at ha
    obtain ⟨g, vq, h1, h2, h3⟩ := ha
    have := hf g 0 none h1
    exact ⟨g, vq, h1, ⟨h2.1, (hs g (by omega) (by omega)).trans h2.2⟩, h3.same fun k cur f hk => key k cur _ f hk (Or.inl rfl)⟩
theorem starts_told {D0 D : Dk} {s : List UInt8} {o : Ord} {n : Int} {pw : Pt} {pl : List Int} (hl : LineIs D0 s D 0 n) (hn : D0.n < 250) (h0 : DOk D0) (ho : ParseIs s (some o)) (hk : o.kd = 9) (hw : pw.ships = [] ∨ (pw = D0.p ∧ PlanIs D0.p pl)) {i : Nat} (hi : i < pw.ships.length) (hs : (shp pw i).st = 1) :
    pl.length = pw.ships.length ∧ Starts (pl.getD i (-1)) D.p i := by
  have hO := lineIs_told hl hn ho
  unfold ObsIs at hO
  rw [if_pos hk] at hO
  rcases hO.2 with ⟨_, h, _⟩ | ⟨hr, _, q, hq, rfl⟩
  · cases h
  rcases hw with hw | ⟨rfl, hp⟩
  · rw [hw] at hi; simp at hi
  · exact ⟨hp.len, waitIs_starts _ _ _ h0.rests (by have : D0.p.now + o.a < 300 := hr.2; have : 1 ≤ o.a := hr.1; show D0.p.now + (o.a.toNat : Int) ≤ 299; omega) hq (Rests.starts h0.port hp hi hs)⟩
set_option maxHeartbeats 4000000 in
set_option maxRecDepth 100000 in
theorem lookStarts_any (d gw gp : Nat) (D0 D : Dk) (s : List UInt8) (er n : Int) (w : World) (pw : Pt) (wa pa : Option Addr) (wc pc : Nat) (pl : List Int) (hD : DS w d D) (hC : CapS gw gp pw wa wc pa pc pl w) (hw : pw.ships = [] ∨ (pw = D0.p ∧ PlanIs D0.p pl)) (h0 : DOk D0) (hn : D0.n < 250) (hl : LineIs D0 s D er n) (hs : s.length ≤ 9223372036854775807) (hlp : pw.ships.length < 15) (hgw : gw < d) (hgp : gp < d) (hug : ∀ u ∈ usedG, u < gw ∧ u < gp) :
    Calls Tryz.prog 24 #[.pointer (some ⟨d, 0, none⟩), txt s, .agg #[.int .i64 er, .int .i64 n], .pointer (some ⟨gw, 0, none⟩), .pointer (some ⟨gp, 0, none⟩)] w fun e w' => e = .returned (.bool true) ∧ Hid (DS w' d D ∧ (∃ wa' wc' pa' pc' pl', CapS gw gp D.p wa' wc' pa' pc' pl' w' ∧ PlanIs D.p pl') ∧ (∀ B, B ≤ gw → B ≤ gp → Below B w w') ∧ ∀ k, k ≠ gw → k ≠ gp → k < w.heap.size → w'.heap[k]? = w.heap[k]?) := by
  have h4 := hD.ok.port.port.four
  have hln := hD.ok.port.port.len
  have hdl := hD.lt
  have HM : Hid (∀ o, er = 0 → ParseIs s (some o) → o.kd = 9 → ∀ i, i < pw.ships.length → (shp pw i).st = 1 → pl.length = pw.ships.length ∧ Starts (pl.getD i (-1)) D.p i) := fun o he ho hk i hi hst => by subst he; exact starts_told hl hn h0 ho hk hw hi hst
  have HPA := fun W h => parse_any s hs W h
  have E0 : Hid (DS (w.alloc (.cells #[.int .i64 er, .int .i64 n] 25)) d D ∧ CapS gw gp pw wa wc pa pc pl (w.alloc (.cells #[.int .i64 er, .int .i64 n] 25)) ∧ RB (w.alloc (.cells #[.int .i64 er, .int .i64 n] 25)) w.heap.size er n ∧ Below w.heap.size w (w.alloc (.cells #[.int .i64 er, .int .i64 n] 25))) := by
    have hb : Below w.heap.size w (w.alloc (.cells #[.int .i64 er, .int .i64 n] 25)) := (Below.refl _ w).alloc (Nat.le_refl _) _
    exact ⟨hD.later hb, hC.later hb, heap_alloc_new w _, hb⟩
  unfold txt at *
  clear hD hC hw h0 hl
  go_enter Tryz.func24, Tryz.ntmps24
  go_wp2_with fail
  refine (deskPort_any d D _ E0.out.1.dsk E0.out.1.ok).mono ?_
  rintro e w1 ⟨vs, rfl, h1⟩
  obtain ⟨va, vc, hvs⟩ := (RowT.own h1.out.1).shape
  subst hvs
  have E1 : Hid (DS w1 d D ∧ CapS gw gp pw wa wc pa pc pl w1 ∧ RB w1 w.heap.size er n ∧ Below w.heap.size w w1 ∧ RowT 51 cShip w1 (.slice va D.p.ships.length vc) D.p.ships) := ⟨E0.out.1.later h1.out.2, E0.out.2.1.later h1.out.2, E0.out.2.2.1.later h1.out.2, E0.out.2.2.2.trans (h1.out.2.mono E0.out.2.2.2.size), RowT.own h1.out.1⟩
  clear h1 E0
  generalize hQC : (portCells D.p (.slice va D.p.ships.length vc)).toArray = QC at *
  have HQC : Hid ((portCells D.p (.slice va D.p.ships.length vc)).toArray = QC) := hQC
  clear hQC
  generalize hg7 : w.heap.size = g7 at *
  go_upto_region 2 with (first | (refine wpList_alloc_box rfl rfl 9 rfl ?_; intro w2 h2 s2) | (refine wpList_store_box rfl _ _ rfl w1.heap.size zeroPt D.p (.slice none 0 0) (.slice va D.p.ships.length vc) rfl (by rw [← HQC.out]; rfl) h2.out.1 h4 rfl ?_; intro w3 h3 s3))
  have E3 : Hid (LtS w w1.heap.size gw gp d D pw wa wc pa pc pl (.slice va D.p.ships.length vc) w3 ∧ RB w3 g7 er n) := by
    have hb : Below w1.heap.size w1 w3 := h2.out.2.trans (h3.out.2.2 _ (Nat.le_refl _))
    refine ⟨⟨E1.out.1.later hb, E1.out.2.1.later hb, h3.out.1, E1.out.2.2.2.2.later hb, ?_⟩, E1.out.2.2.1.later hb⟩
    rw [hg7]
    exact E1.out.2.2.2.1.trans (hb.mono (by rw [← hg7]; exact E1.out.2.2.2.1.size))
  have HG9 : Hid (gw < w1.heap.size ∧ gp < w1.heap.size) := by have := E1.out.1.lt; exact ⟨by omega, by omega⟩
  clear h2 h3 s2 s3 E1
  generalize w1.heap.size = g9 at *
  go_wp2_with fail
  refine (HPA _ E3.out.1.ds.lw).mono ?_
  rintro e w4 ⟨o, er5, rfl, hP, hb4⟩
  have PI : Hid (er5 = 0 → ParseIs s (some o)) := fun h => by
    rcases hP with ⟨_, h2⟩ | ⟨h2, _⟩
    · exact h2
    · rw [h] at h2; cases h2
  have E4 : Hid (LtS w g9 gw gp d D pw wa wc pa pc pl (.slice va D.p.ships.length vc) w4 ∧ RB w4 g7 er n) := ⟨E3.out.1.later hb4, E3.out.2.later hb4⟩
  clear hP hb4 E3 HPA
  go_upto_region 3 with (first | (refine wpList_alloc_ord rfl rfl 10 rfl ?_; intro w5 h5 s5) | (refine wpList_store_ord rfl _ _ rfl w4.heap.size noOrd o rfl rfl h5.out.1 ?_; intro w6 h6 s6))
  have E6 : Hid (LtS w g9 gw gp d D pw wa wc pa pc pl (.slice va D.p.ships.length vc) w6 ∧ RB w6 g7 er n ∧ LOB w6 w4.heap.size o) := by
    have hb : Below w4.heap.size w4 w6 := h5.out.2.trans (h6.out.2.2 _ (Nat.le_refl _))
    exact ⟨E4.out.1.later hb, E4.out.2.later hb, h6.out.1⟩
  clear h5 h6 s5 s6 E4
  generalize w4.heap.size = go at *
  have oc := E6.out.2.2.cells.1
  have r0 := E6.out.2.1.cells.1
  have pc1 := E6.out.1.box.cells.2.1
  by_cases hall : er5 = 0 ∧ o.kd = 9 ∧ er = 0
  · obtain ⟨rfl, hk9, rfl⟩ := hall
    have e9 : (o.kd == 9) = true := by simp [hk9]
    have HS : Hid (∀ i, i < pw.ships.length → (shp pw i).st = 1 → pl.length = pw.ships.length ∧ Starts (pl.getD i (-1)) D.p i) := HM.out o rfl (PI.out rfl) hk9
    have E7 : Hid (LtS w g9 gw gp d D pw wa wc pa pc pl (.slice va D.p.ships.length vc) w6) := E6.out.1
    clear HM PI hk9 E6
    go_wp2_with fail
    clear pc1 oc r0
    go_loopg [12, 13, 36] D.p.ships.length (fun kx s12 s13 s36 wr => ∃ k : Nat, s36 = .int .i64 k ∧ k ≤ D.p.ships.length ∧ D.p.ships.length - k ≤ kx ∧ Hid (LtS w g9 gw gp d D pw wa wc pa pc pl (.slice va D.p.ships.length vc) wr))
    case atStart => exact ⟨0, rfl, Nat.zero_le _, by omega, E7⟩
    case round =>
      clear E7
      obtain ⟨k, rfl, hk, hg, I⟩ := hrel
      by_cases hlt : k < D.p.ships.length
      · have hki : (k : Int) < (D.p.ships.length : Int) := by omega
        obtain ⟨x, hx⟩ : ∃ x, D.p.ships[k]? = some x := ⟨D.p.ships[k]'hlt, List.getElem?_eq_getElem hlt⟩
        have HX : Hid (shp D.p k = x) := shp_get hx
        obtain ⟨bs, os, cs, hvs, hrs⟩ := I.out.ships.cellS hlt
        injection hvs with hvs1 _ hvs2
        subst hvs1 hvs2
        obtain ⟨c0, c1, c2, c3, c4, c5⟩ := hrs.ship hx
        have pc1 := I.out.box.cells.2.1
        have hbw : Below wr.heap.size wr (wr.alloc (.cells #[.int .i64 x.st, .int .i64 x.wd, .int .i64 x.lg, .int .i64 x.cl, .int .i64 x.si, .int .i64 x.qu] 51)) := (Below.refl _ wr).alloc (Nat.le_refl _) _
        have I3 : Hid (LtS w g9 gw gp d D pw wa wc pa pc pl (.slice (some ⟨bs, os, none⟩) D.p.ships.length vc) (wr.alloc (.cells #[.int .i64 x.st, .int .i64 x.wd, .int .i64 x.lg, .int .i64 x.cl, .int .i64 x.si, .int .i64 x.qu] 51))) := I.out.later hbw
        have N4 : Hid (SBox (wr.alloc (.cells #[.int .i64 x.st, .int .i64 x.wd, .int .i64 x.lg, .int .i64 x.cl, .int .i64 x.si, .int .i64 x.qu] 51)) wr.heap.size x) := SBox.new wr x
        clear hbw hrs hx I
        go_upto_region 7 with fail
        clear c0 c1 c2 c3 c4 c5 pc1
        generalize wr.alloc (.cells #[.int .i64 x.st, .int .i64 x.wd, .int .i64 x.lg, .int .i64 x.cl, .int .i64 x.si, .int .i64 x.qu] 51) = WB at *
        generalize wr.heap.size = gs at *
        by_cases a1 : k < pw.ships.length
        case neg =>
          have I4 : Hid (StS w g9 gs gw gp d D pw wa wc pa pc pl (.slice (some ⟨bs, os, none⟩) D.p.ships.length vc) x.st x.si WB) := ⟨I3.out, N4.out.cells.1, N4.out.cells.2.2.2.2.1, N4.out.lt⟩
          have hkn : ¬ ((k : Int) < (pw.ships.length : Int)) := by omega
          clear HS HX N4 hki
          refine wp_region_held_drew (S := fun W => Hid (StS w g9 gs gw gp d D pw wa wc pa pc pl (.slice (some ⟨bs, os, none⟩) D.p.ships.length vc) x.st x.si W)) (by kernel_rfl) (I4.out.later (Below.refl _ _).drew) (fun hHeld => ?_)
          refine wpAnyH_take (i := 0) (oi := { dst := some 41, op := Go.Op.move (Go.Operand.tmp 12), type := 3, pos := "top.go:112", after := #[], guard := none }) (v := ?_) rfl (by kernel_rfl) (by kernel_rfl) (by kernel_rfl) (fun _ _ _ h => h) (Or.inl ⟨by rfl, ?_⟩) hHeld ?_
          rotate_left
          · (intro w hSw; first | (go_simp; done) | (go_simp; with_reducible rfl))
          simp only [Act.put, List.setIfInBounds_toArray, List.set_cons_zero, List.set_cons_succ]
          refine wpAnyH_take (i := 1) (oi := { dst := some 42, op := Go.Op.fieldAddr 33 (Go.Operand.tmp 3) 1, type := 0, pos := "top.go:112", after := #[], guard := none }) (v := ?_) rfl (by kernel_rfl) (by kernel_rfl) (by kernel_rfl) (fun _ _ _ h => h) (Or.inl ⟨by rfl, ?_⟩) hHeld ?_
          rotate_left
          · (intro w hSw; first | (go_simp; done) | (go_simp; with_reducible rfl))
          simp only [Act.put, List.setIfInBounds_toArray, List.set_cons_zero, List.set_cons_succ]
          refine wpAnyH_take (i := 2) (oi := { dst := some 43, op := Go.Op.load 28 (Go.Operand.tmp 42), type := 28, pos := "top.go:112", after := #[{ on := 1, ground := Go.Ground.data }], guard := none }) (v := .slice wa pw.ships.length wc) rfl (by kernel_rfl) (by kernel_rfl) (by kernel_rfl) (fun _ _ _ h => h) (Or.inl ⟨by rfl, by intro w hSw; have hc := hSw.out.cap.box.cells.2.1; go_simp⟩) hHeld ?_
          simp only [Act.put, List.setIfInBounds_toArray, List.set_cons_zero, List.set_cons_succ]
          refine wpAnyH_take (i := 3) (oi := { dst := some 44, op := Go.Op.call { callee := Go.Callee.builtin Go.Builtin.len, args := #[Go.Operand.tmp 43], argTypes := #[28] }, type := 3, pos := "top.go:112", after := #[{ on := 2, ground := Go.Ground.data }], guard := none }) (v := ?_) rfl (by kernel_rfl) (by kernel_rfl) (by kernel_rfl) (fun _ _ _ h => h) (Or.inl ⟨by rfl, ?_⟩) hHeld ?_
          rotate_left
          · (intro w hSw; first | (go_simp; done) | (go_simp; with_reducible rfl))
          simp only [Act.put, List.setIfInBounds_toArray, List.set_cons_zero, List.set_cons_succ]
          refine wpAnyH_take (i := 4) (oi := { dst := some 45, op := Go.Op.binOp Go.BinOp.lss 3 (Go.Operand.tmp 41) (Go.Operand.tmp 44) 3, type := 4, pos := "top.go:112", after := #[{ on := 0, ground := Go.Ground.data }, { on := 3, ground := Go.Ground.data }], guard := none }) (v := .bool false) rfl (by kernel_rfl) (by kernel_rfl) (by kernel_rfl) (fun _ _ _ h => h) (Or.inl ⟨by rfl, by intro w hSw; go_simp⟩) hHeld ?_
          simp only [Act.put, List.setIfInBounds_toArray, List.set_cons_zero, List.set_cons_succ]
          refine wpAnyH_take (i := 5) (oi := { dst := some 46, op := Go.Op.move (Go.Operand.tmp 45), type := 4, pos := "top.go:112", after := #[{ on := 4, ground := Go.Ground.data }], guard := none }) (v := ?_) rfl (by kernel_rfl) (by kernel_rfl) (by kernel_rfl) (fun _ _ _ h => h) (Or.inl ⟨by rfl, ?_⟩) hHeld ?_
          rotate_left
          · (intro w hSw; first | (go_simp; done) | (go_simp; with_reducible rfl))
          simp only [Act.put, List.setIfInBounds_toArray, List.set_cons_zero, List.set_cons_succ]
          refine wpAnyH_take (i := 6) (oi := { dst := some 47, op := Go.Op.fieldAddr 33 (Go.Operand.tmp 3) 1, type := 0, pos := "top.go:112", after := #[{ on := 5, ground := Go.Ground.guard }], guard := some (5, true) }) (v := undef) rfl (by kernel_rfl) (by kernel_rfl) (by kernel_rfl) (fun _ _ _ h => h) (Or.inr ⟨by rfl, rfl⟩) hHeld ?_
          simp only [Act.put, List.setIfInBounds_toArray, List.set_cons_zero, List.set_cons_succ]
          refine wpAnyH_take (i := 7) (oi := { dst := some 48, op := Go.Op.load 28 (Go.Operand.tmp 47), type := 28, pos := "top.go:112", after := #[{ on := 6, ground := Go.Ground.data }, { on := 5, ground := Go.Ground.guard }], guard := some (5, true) }) (v := undef) rfl (by kernel_rfl) (by kernel_rfl) (by kernel_rfl) (fun _ _ _ h => h) (Or.inr ⟨by rfl, rfl⟩) hHeld ?_
          simp only [Act.put, List.setIfInBounds_toArray, List.set_cons_zero, List.set_cons_succ]
          refine wpAnyH_take (i := 8) (oi := { dst := some 49, op := Go.Op.move (Go.Operand.tmp 12), type := 3, pos := "top.go:112", after := #[{ on := 5, ground := Go.Ground.guard }], guard := some (5, true) }) (v := undef) rfl (by kernel_rfl) (by kernel_rfl) (by kernel_rfl) (fun _ _ _ h => h) (Or.inr ⟨by rfl, rfl⟩) hHeld ?_
          simp only [Act.put, List.setIfInBounds_toArray, List.set_cons_zero, List.set_cons_succ]
          refine wpAnyH_take (i := 9) (oi := { dst := some 50, op := Go.Op.indexAddr 28 (Go.Operand.tmp 48) (Go.Operand.tmp 49), type := 0, pos := "top.go:112", after := #[{ on := 7, ground := Go.Ground.data }, { on := 8, ground := Go.Ground.data }, { on := 5, ground := Go.Ground.guard }], guard := some (5, true) }) (v := undef) rfl (by kernel_rfl) (by kernel_rfl) (by kernel_rfl) (fun _ _ _ h => h) (Or.inr ⟨by rfl, rfl⟩) hHeld ?_
          simp only [Act.put, List.setIfInBounds_toArray, List.set_cons_zero, List.set_cons_succ]
          refine wpAnyH_take (i := 10) (oi := { dst := some 51, op := Go.Op.fieldAddr 51 (Go.Operand.tmp 50) 0, type := 0, pos := "top.go:112", after := #[{ on := 9, ground := Go.Ground.data }, { on := 5, ground := Go.Ground.guard }], guard := some (5, true) }) (v := undef) rfl (by kernel_rfl) (by kernel_rfl) (by kernel_rfl) (fun _ _ _ h => h) (Or.inr ⟨by rfl, rfl⟩) hHeld ?_
          simp only [Act.put, List.setIfInBounds_toArray, List.set_cons_zero, List.set_cons_succ]
          refine wpAnyH_take (i := 11) (oi := { dst := some 52, op := Go.Op.load 3 (Go.Operand.tmp 51), type := 3, pos := "top.go:112", after := #[{ on := 10, ground := Go.Ground.data }, { on := 5, ground := Go.Ground.guard }], guard := some (5, true) }) (v := undef) rfl (by kernel_rfl) (by kernel_rfl) (by kernel_rfl) (fun _ _ _ h => h) (Or.inr ⟨by rfl, rfl⟩) hHeld ?_
          simp only [Act.put, List.setIfInBounds_toArray, List.set_cons_zero, List.set_cons_succ]
          refine wpAnyH_take (i := 12) (oi := { dst := some 53, op := Go.Op.binOp Go.BinOp.eql 3 (Go.Operand.tmp 52) (Go.Operand.const (Go.Value.int Go.IntKind.i64 1)) 3, type := 4, pos := "top.go:112", after := #[{ on := 11, ground := Go.Ground.data }, { on := 5, ground := Go.Ground.guard }], guard := some (5, true) }) (v := undef) rfl (by kernel_rfl) (by kernel_rfl) (by kernel_rfl) (fun _ _ _ h => h) (Or.inr ⟨by rfl, rfl⟩) hHeld ?_
          simp only [Act.put, List.setIfInBounds_toArray, List.set_cons_zero, List.set_cons_succ]
          refine wpAnyH_take (i := 13) (oi := { dst := some 54, op := Go.Op.pick (Go.Operand.tmp 46) (Go.Operand.tmp 53) (Go.Operand.const (Go.Value.bool false)), type := 4, pos := "top.go:112", after := #[{ on := 5, ground := Go.Ground.data }, { on := 12, ground := Go.Ground.data }], guard := none }) (v := ?_) rfl (by kernel_rfl) (by kernel_rfl) (by kernel_rfl) (fun _ _ _ h => h) (Or.inl ⟨by rfl, ?_⟩) hHeld ?_
          rotate_left
          · (intro w hSw; first | (go_simp; done) | (go_simp; with_reducible rfl))
          simp only [Act.put, List.setIfInBounds_toArray, List.set_cons_zero, List.set_cons_succ]
          refine wpAnyH_take (i := 14) (oi := { dst := some 55, op := Go.Op.move (Go.Operand.tmp 54), type := 4, pos := "top.go:112", after := #[{ on := 13, ground := Go.Ground.data }, { on := 5, ground := Go.Ground.chain }], guard := none }) (v := ?_) rfl (by kernel_rfl) (by kernel_rfl) (by kernel_rfl) (fun _ _ _ h => h) (Or.inl ⟨by rfl, ?_⟩) hHeld ?_
          rotate_left
          · (intro w hSw; first | (go_simp; done) | (go_simp; with_reducible rfl))
          simp only [Act.put, List.setIfInBounds_toArray, List.set_cons_zero, List.set_cons_succ]
          refine wpAnyH_take (i := 15) (oi := { dst := some 56, op := Go.Op.move (Go.Operand.tmp 12), type := 3, pos := "top.go:112", after := #[{ on := 14, ground := Go.Ground.guard }], guard := some (14, true) }) (v := undef) rfl (by kernel_rfl) (by kernel_rfl) (by kernel_rfl) (fun _ _ _ h => h) (Or.inr ⟨by rfl, rfl⟩) hHeld ?_
          simp only [Act.put, List.setIfInBounds_toArray, List.set_cons_zero, List.set_cons_succ]
          refine wpAnyH_take (i := 16) (oi := { dst := some 57, op := Go.Op.load 35 (Go.Operand.tmp 4), type := 35, pos := "top.go:112", after := #[{ on := 14, ground := Go.Ground.guard }], guard := some (14, true) }) (v := undef) rfl (by kernel_rfl) (by kernel_rfl) (by kernel_rfl) (fun _ _ _ h => h) (Or.inr ⟨by rfl, rfl⟩) hHeld ?_
          simp only [Act.put, List.setIfInBounds_toArray, List.set_cons_zero, List.set_cons_succ]
          refine wpAnyH_take (i := 17) (oi := { dst := some 58, op := Go.Op.call { callee := Go.Callee.builtin Go.Builtin.len, args := #[Go.Operand.tmp 57], argTypes := #[35] }, type := 3, pos := "top.go:112", after := #[{ on := 16, ground := Go.Ground.data }, { on := 14, ground := Go.Ground.guard }], guard := some (14, true) }) (v := undef) rfl (by kernel_rfl) (by kernel_rfl) (by kernel_rfl) (fun _ _ _ h => h) (Or.inr ⟨by rfl, rfl⟩) hHeld ?_
          simp only [Act.put, List.setIfInBounds_toArray, List.set_cons_zero, List.set_cons_succ]
          refine wpAnyH_take (i := 18) (oi := { dst := some 59, op := Go.Op.binOp Go.BinOp.geq 3 (Go.Operand.tmp 56) (Go.Operand.tmp 58) 3, type := 4, pos := "top.go:112", after := #[{ on := 15, ground := Go.Ground.data }, { on := 17, ground := Go.Ground.data }, { on := 14, ground := Go.Ground.guard }], guard := some (14, true) }) (v := undef) rfl (by kernel_rfl) (by kernel_rfl) (by kernel_rfl) (fun _ _ _ h => h) (Or.inr ⟨by rfl, rfl⟩) hHeld ?_
          simp only [Act.put, List.setIfInBounds_toArray, List.set_cons_zero, List.set_cons_succ]
          refine wpAnyH_take (i := 19) (oi := { dst := some 60, op := Go.Op.move (Go.Operand.tmp 59), type := 4, pos := "top.go:112", after := #[{ on := 18, ground := Go.Ground.data }, { on := 14, ground := Go.Ground.chain }, { on := 14, ground := Go.Ground.guard }], guard := some (14, true) }) (v := undef) rfl (by kernel_rfl) (by kernel_rfl) (by kernel_rfl) (fun _ _ _ h => h) (Or.inr ⟨by rfl, rfl⟩) hHeld ?_
          simp only [Act.put, List.setIfInBounds_toArray, List.set_cons_zero, List.set_cons_succ]
          refine wpAnyH_take (i := 20) (oi := { dst := some 61, op := Go.Op.fieldAddr 51 (Go.Operand.tmp 13) 0, type := 0, pos := "top.go:112", after := #[{ on := 19, ground := Go.Ground.guard }], guard := some (19, false) }) (v := undef) rfl (by kernel_rfl) (by kernel_rfl) (by kernel_rfl) (fun _ _ _ h => h) (Or.inr ⟨by rfl, rfl⟩) hHeld ?_
          simp only [Act.put, List.setIfInBounds_toArray, List.set_cons_zero, List.set_cons_succ]
          refine wpAnyH_take (i := 21) (oi := { dst := some 62, op := Go.Op.load 3 (Go.Operand.tmp 61), type := 3, pos := "top.go:112", after := #[{ on := 20, ground := Go.Ground.data }, { on := 19, ground := Go.Ground.guard }], guard := some (19, false) }) (v := undef) rfl (by kernel_rfl) (by kernel_rfl) (by kernel_rfl) (fun _ _ _ h => h) (Or.inr ⟨by rfl, rfl⟩) hHeld ?_
          simp only [Act.put, List.setIfInBounds_toArray, List.set_cons_zero, List.set_cons_succ]
          refine wpAnyH_take (i := 22) (oi := { dst := some 63, op := Go.Op.binOp Go.BinOp.eql 3 (Go.Operand.tmp 62) (Go.Operand.const (Go.Value.int Go.IntKind.i64 3)) 3, type := 4, pos := "top.go:112", after := #[{ on := 21, ground := Go.Ground.data }, { on := 19, ground := Go.Ground.guard }], guard := some (19, false) }) (v := undef) rfl (by kernel_rfl) (by kernel_rfl) (by kernel_rfl) (fun _ _ _ h => h) (Or.inr ⟨by rfl, rfl⟩) hHeld ?_
          simp only [Act.put, List.setIfInBounds_toArray, List.set_cons_zero, List.set_cons_succ]
          refine wpAnyH_take (i := 23) (oi := { dst := some 64, op := Go.Op.move (Go.Operand.tmp 63), type := 4, pos := "top.go:112", after := #[{ on := 22, ground := Go.Ground.data }, { on := 19, ground := Go.Ground.chain }, { on := 19, ground := Go.Ground.guard }], guard := some (19, false) }) (v := undef) rfl (by kernel_rfl) (by kernel_rfl) (by kernel_rfl) (fun _ _ _ h => h) (Or.inr ⟨by rfl, rfl⟩) hHeld ?_
          simp only [Act.put, List.setIfInBounds_toArray, List.set_cons_zero, List.set_cons_succ]
          refine wpAnyH_take (i := 24) (oi := { dst := some 65, op := Go.Op.fieldAddr 51 (Go.Operand.tmp 13) 4, type := 0, pos := "top.go:112", after := #[{ on := 23, ground := Go.Ground.guard }], guard := some (23, true) }) (v := undef) rfl (by kernel_rfl) (by kernel_rfl) (by kernel_rfl) (fun _ _ _ h => h) (Or.inr ⟨by rfl, rfl⟩) hHeld ?_
          simp only [Act.put, List.setIfInBounds_toArray, List.set_cons_zero, List.set_cons_succ]
          refine wpAnyH_take (i := 25) (oi := { dst := some 66, op := Go.Op.load 3 (Go.Operand.tmp 65), type := 3, pos := "top.go:112", after := #[{ on := 24, ground := Go.Ground.data }, { on := 23, ground := Go.Ground.guard }], guard := some (23, true) }) (v := undef) rfl (by kernel_rfl) (by kernel_rfl) (by kernel_rfl) (fun _ _ _ h => h) (Or.inr ⟨by rfl, rfl⟩) hHeld ?_
          simp only [Act.put, List.setIfInBounds_toArray, List.set_cons_zero, List.set_cons_succ]
          refine wpAnyH_take (i := 26) (oi := { dst := some 67, op := Go.Op.load 35 (Go.Operand.tmp 4), type := 35, pos := "top.go:112", after := #[{ on := 23, ground := Go.Ground.guard }], guard := some (23, true) }) (v := undef) rfl (by kernel_rfl) (by kernel_rfl) (by kernel_rfl) (fun _ _ _ h => h) (Or.inr ⟨by rfl, rfl⟩) hHeld ?_
          simp only [Act.put, List.setIfInBounds_toArray, List.set_cons_zero, List.set_cons_succ]
          refine wpAnyH_take (i := 27) (oi := { dst := some 68, op := Go.Op.move (Go.Operand.tmp 12), type := 3, pos := "top.go:112", after := #[{ on := 23, ground := Go.Ground.guard }], guard := some (23, true) }) (v := undef) rfl (by kernel_rfl) (by kernel_rfl) (by kernel_rfl) (fun _ _ _ h => h) (Or.inr ⟨by rfl, rfl⟩) hHeld ?_
          simp only [Act.put, List.setIfInBounds_toArray, List.set_cons_zero, List.set_cons_succ]
          refine wpAnyH_take (i := 28) (oi := { dst := some 69, op := Go.Op.indexAddr 35 (Go.Operand.tmp 67) (Go.Operand.tmp 68), type := 0, pos := "top.go:112", after := #[{ on := 26, ground := Go.Ground.data }, { on := 27, ground := Go.Ground.data }, { on := 23, ground := Go.Ground.guard }], guard := some (23, true) }) (v := undef) rfl (by kernel_rfl) (by kernel_rfl) (by kernel_rfl) (fun _ _ _ h => h) (Or.inr ⟨by rfl, rfl⟩) hHeld ?_
          simp only [Act.put, List.setIfInBounds_toArray, List.set_cons_zero, List.set_cons_succ]
          refine wpAnyH_take (i := 29) (oi := { dst := some 70, op := Go.Op.load 3 (Go.Operand.tmp 69), type := 3, pos := "top.go:112", after := #[{ on := 28, ground := Go.Ground.data }, { on := 23, ground := Go.Ground.guard }], guard := some (23, true) }) (v := undef) rfl (by kernel_rfl) (by kernel_rfl) (by kernel_rfl) (fun _ _ _ h => h) (Or.inr ⟨by rfl, rfl⟩) hHeld ?_
          simp only [Act.put, List.setIfInBounds_toArray, List.set_cons_zero, List.set_cons_succ]
          refine wpAnyH_take (i := 30) (oi := { dst := some 71, op := Go.Op.binOp Go.BinOp.neq 3 (Go.Operand.tmp 66) (Go.Operand.tmp 70) 3, type := 4, pos := "top.go:112", after := #[{ on := 25, ground := Go.Ground.data }, { on := 29, ground := Go.Ground.data }, { on := 23, ground := Go.Ground.guard }], guard := some (23, true) }) (v := undef) rfl (by kernel_rfl) (by kernel_rfl) (by kernel_rfl) (fun _ _ _ h => h) (Or.inr ⟨by rfl, rfl⟩) hHeld ?_
          simp only [Act.put, List.setIfInBounds_toArray, List.set_cons_zero, List.set_cons_succ]
          refine wpAnyH_take (i := 31) (oi := { dst := some 72, op := Go.Op.pick (Go.Operand.tmp 64) (Go.Operand.tmp 71) (Go.Operand.const (Go.Value.bool false)), type := 4, pos := "top.go:112", after := #[{ on := 23, ground := Go.Ground.data }, { on := 30, ground := Go.Ground.data }, { on := 19, ground := Go.Ground.guard }], guard := some (19, false) }) (v := undef) rfl (by kernel_rfl) (by kernel_rfl) (by kernel_rfl) (fun _ _ _ h => h) (Or.inr ⟨by rfl, rfl⟩) hHeld ?_
          simp only [Act.put, List.setIfInBounds_toArray, List.set_cons_zero, List.set_cons_succ]
          refine wpAnyH_take (i := 32) (oi := { dst := some 73, op := Go.Op.pick (Go.Operand.tmp 60) (Go.Operand.const (Go.Value.bool true)) (Go.Operand.tmp 72), type := 4, pos := "top.go:112", after := #[{ on := 19, ground := Go.Ground.data }, { on := 31, ground := Go.Ground.data }, { on := 14, ground := Go.Ground.guard }], guard := some (14, true) }) (v := undef) rfl (by kernel_rfl) (by kernel_rfl) (by kernel_rfl) (fun _ _ _ h => h) (Or.inr ⟨by rfl, rfl⟩) hHeld ?_
          simp only [Act.put, List.setIfInBounds_toArray, List.set_cons_zero, List.set_cons_succ]
          refine wpAnyH_take (i := 33) (oi := { dst := some 74, op := Go.Op.move (Go.Operand.tmp 73), type := 4, pos := "top.go:112", after := #[{ on := 32, ground := Go.Ground.data }, { on := 23, ground := Go.Ground.chain }, { on := 14, ground := Go.Ground.guard }], guard := some (14, true) }) (v := undef) rfl (by kernel_rfl) (by kernel_rfl) (by kernel_rfl) (fun _ _ _ h => h) (Or.inr ⟨by rfl, rfl⟩) hHeld ?_
          simp only [Act.put, List.setIfInBounds_toArray, List.set_cons_zero, List.set_cons_succ]
          refine wpAnyH_take (i := 34) (oi := { dst := some 75, op := Go.Op.fieldAddr 51 (Go.Operand.tmp 13) 0, type := 0, pos := "top.go:112", after := #[{ on := 33, ground := Go.Ground.guard }], guard := some (33, false) }) (v := undef) rfl (by kernel_rfl) (by kernel_rfl) (by kernel_rfl) (fun _ _ _ h => h) (Or.inr ⟨by rfl, rfl⟩) hHeld ?_
          simp only [Act.put, List.setIfInBounds_toArray, List.set_cons_zero, List.set_cons_succ]
          refine wpAnyH_take (i := 35) (oi := { dst := some 76, op := Go.Op.load 3 (Go.Operand.tmp 75), type := 3, pos := "top.go:112", after := #[{ on := 34, ground := Go.Ground.data }, { on := 33, ground := Go.Ground.guard }], guard := some (33, false) }) (v := undef) rfl (by kernel_rfl) (by kernel_rfl) (by kernel_rfl) (fun _ _ _ h => h) (Or.inr ⟨by rfl, rfl⟩) hHeld ?_
          simp only [Act.put, List.setIfInBounds_toArray, List.set_cons_zero, List.set_cons_succ]
          refine wpAnyH_take (i := 36) (oi := { dst := some 77, op := Go.Op.binOp Go.BinOp.eql 3 (Go.Operand.tmp 76) (Go.Operand.const (Go.Value.int Go.IntKind.i64 1)) 3, type := 4, pos := "top.go:112", after := #[{ on := 35, ground := Go.Ground.data }, { on := 33, ground := Go.Ground.guard }], guard := some (33, false) }) (v := undef) rfl (by kernel_rfl) (by kernel_rfl) (by kernel_rfl) (fun _ _ _ h => h) (Or.inr ⟨by rfl, rfl⟩) hHeld ?_
          simp only [Act.put, List.setIfInBounds_toArray, List.set_cons_zero, List.set_cons_succ]
          refine wpAnyH_take (i := 37) (oi := { dst := some 78, op := Go.Op.move (Go.Operand.tmp 77), type := 4, pos := "top.go:112", after := #[{ on := 36, ground := Go.Ground.data }, { on := 33, ground := Go.Ground.chain }, { on := 33, ground := Go.Ground.guard }], guard := some (33, false) }) (v := undef) rfl (by kernel_rfl) (by kernel_rfl) (by kernel_rfl) (fun _ _ _ h => h) (Or.inr ⟨by rfl, rfl⟩) hHeld ?_
          simp only [Act.put, List.setIfInBounds_toArray, List.set_cons_zero, List.set_cons_succ]
          refine wpAnyH_take (i := 38) (oi := { dst := some 79, op := Go.Op.move (Go.Operand.tmp 0), type := 22, pos := "top.go:112", after := #[{ on := 37, ground := Go.Ground.guard }], guard := some (37, true) }) (v := undef) rfl (by kernel_rfl) (by kernel_rfl) (by kernel_rfl) (fun _ _ _ h => h) (Or.inr ⟨by rfl, rfl⟩) hHeld ?_
          simp only [Act.put, List.setIfInBounds_toArray, List.set_cons_zero, List.set_cons_succ]
          refine wpAnyH_take (i := 39) (oi := { dst := some 80, op := Go.Op.call { callee := Go.Callee.value (Go.Operand.func 15), args := #[Go.Operand.tmp 79], argTypes := #[22] }, type := 35, pos := "top.go:112", after := #[{ on := 38, ground := Go.Ground.data }, { on := 37, ground := Go.Ground.chain }, { on := 37, ground := Go.Ground.guard }], guard := some (37, true) }) (v := undef) rfl (by kernel_rfl) (by kernel_rfl) (by kernel_rfl) (fun _ _ _ h => h) (Or.inr ⟨by rfl, rfl⟩) hHeld ?_
          simp only [Act.put, List.setIfInBounds_toArray, List.set_cons_zero, List.set_cons_succ]
          refine wpAnyH_take (i := 40) (oi := { dst := some 81, op := Go.Op.move (Go.Operand.tmp 12), type := 3, pos := "top.go:112", after := #[{ on := 37, ground := Go.Ground.guard }], guard := some (37, true) }) (v := undef) rfl (by kernel_rfl) (by kernel_rfl) (by kernel_rfl) (fun _ _ _ h => h) (Or.inr ⟨by rfl, rfl⟩) hHeld ?_
          simp only [Act.put, List.setIfInBounds_toArray, List.set_cons_zero, List.set_cons_succ]
          refine wpAnyH_take (i := 41) (oi := { dst := some 82, op := Go.Op.indexAddr 35 (Go.Operand.tmp 80) (Go.Operand.tmp 81), type := 0, pos := "top.go:112", after := #[{ on := 39, ground := Go.Ground.data }, { on := 40, ground := Go.Ground.data }, { on := 37, ground := Go.Ground.guard }], guard := some (37, true) }) (v := undef) rfl (by kernel_rfl) (by kernel_rfl) (by kernel_rfl) (fun _ _ _ h => h) (Or.inr ⟨by rfl, rfl⟩) hHeld ?_
          simp only [Act.put, List.setIfInBounds_toArray, List.set_cons_zero, List.set_cons_succ]
          refine wpAnyH_take (i := 42) (oi := { dst := some 83, op := Go.Op.load 3 (Go.Operand.tmp 82), type := 3, pos := "top.go:112", after := #[{ on := 41, ground := Go.Ground.data }, { on := 37, ground := Go.Ground.guard }], guard := some (37, true) }) (v := undef) rfl (by kernel_rfl) (by kernel_rfl) (by kernel_rfl) (fun _ _ _ h => h) (Or.inr ⟨by rfl, rfl⟩) hHeld ?_
          simp only [Act.put, List.setIfInBounds_toArray, List.set_cons_zero, List.set_cons_succ]
          refine wpAnyH_take (i := 43) (oi := { dst := some 84, op := Go.Op.load 35 (Go.Operand.tmp 4), type := 35, pos := "top.go:112", after := #[{ on := 37, ground := Go.Ground.guard }], guard := some (37, true) }) (v := undef) rfl (by kernel_rfl) (by kernel_rfl) (by kernel_rfl) (fun _ _ _ h => h) (Or.inr ⟨by rfl, rfl⟩) hHeld ?_
          simp only [Act.put, List.setIfInBounds_toArray, List.set_cons_zero, List.set_cons_succ]
          refine wpAnyH_take (i := 44) (oi := { dst := some 85, op := Go.Op.move (Go.Operand.tmp 12), type := 3, pos := "top.go:112", after := #[{ on := 37, ground := Go.Ground.guard }], guard := some (37, true) }) (v := undef) rfl (by kernel_rfl) (by kernel_rfl) (by kernel_rfl) (fun _ _ _ h => h) (Or.inr ⟨by rfl, rfl⟩) hHeld ?_
          simp only [Act.put, List.setIfInBounds_toArray, List.set_cons_zero, List.set_cons_succ]
          refine wpAnyH_take (i := 45) (oi := { dst := some 86, op := Go.Op.indexAddr 35 (Go.Operand.tmp 84) (Go.Operand.tmp 85), type := 0, pos := "top.go:112", after := #[{ on := 43, ground := Go.Ground.data }, { on := 44, ground := Go.Ground.data }, { on := 37, ground := Go.Ground.guard }], guard := some (37, true) }) (v := undef) rfl (by kernel_rfl) (by kernel_rfl) (by kernel_rfl) (fun _ _ _ h => h) (Or.inr ⟨by rfl, rfl⟩) hHeld ?_
          simp only [Act.put, List.setIfInBounds_toArray, List.set_cons_zero, List.set_cons_succ]
          refine wpAnyH_take (i := 46) (oi := { dst := some 87, op := Go.Op.load 3 (Go.Operand.tmp 86), type := 3, pos := "top.go:112", after := #[{ on := 45, ground := Go.Ground.data }, { on := 37, ground := Go.Ground.guard }], guard := some (37, true) }) (v := undef) rfl (by kernel_rfl) (by kernel_rfl) (by kernel_rfl) (fun _ _ _ h => h) (Or.inr ⟨by rfl, rfl⟩) hHeld ?_
          simp only [Act.put, List.setIfInBounds_toArray, List.set_cons_zero, List.set_cons_succ]
          refine wpAnyH_take (i := 47) (oi := { dst := some 88, op := Go.Op.binOp Go.BinOp.neq 3 (Go.Operand.tmp 83) (Go.Operand.tmp 87) 3, type := 4, pos := "top.go:112", after := #[{ on := 42, ground := Go.Ground.data }, { on := 46, ground := Go.Ground.data }, { on := 37, ground := Go.Ground.guard }], guard := some (37, true) }) (v := undef) rfl (by kernel_rfl) (by kernel_rfl) (by kernel_rfl) (fun _ _ _ h => h) (Or.inr ⟨by rfl, rfl⟩) hHeld ?_
          simp only [Act.put, List.setIfInBounds_toArray, List.set_cons_zero, List.set_cons_succ]
          refine wpAnyH_take (i := 48) (oi := { dst := some 89, op := Go.Op.pick (Go.Operand.tmp 78) (Go.Operand.tmp 88) (Go.Operand.const (Go.Value.bool false)), type := 4, pos := "top.go:112", after := #[{ on := 37, ground := Go.Ground.data }, { on := 47, ground := Go.Ground.data }, { on := 33, ground := Go.Ground.guard }], guard := some (33, false) }) (v := undef) rfl (by kernel_rfl) (by kernel_rfl) (by kernel_rfl) (fun _ _ _ h => h) (Or.inr ⟨by rfl, rfl⟩) hHeld ?_
          simp only [Act.put, List.setIfInBounds_toArray, List.set_cons_zero, List.set_cons_succ]
          refine wpAnyH_take (i := 49) (oi := { dst := some 90, op := Go.Op.pick (Go.Operand.tmp 74) (Go.Operand.const (Go.Value.bool true)) (Go.Operand.tmp 89), type := 4, pos := "top.go:112", after := #[{ on := 33, ground := Go.Ground.data }, { on := 48, ground := Go.Ground.data }, { on := 14, ground := Go.Ground.guard }], guard := some (14, true) }) (v := undef) rfl (by kernel_rfl) (by kernel_rfl) (by kernel_rfl) (fun _ _ _ h => h) (Or.inr ⟨by rfl, rfl⟩) hHeld ?_
          simp only [Act.put, List.setIfInBounds_toArray, List.set_cons_zero, List.set_cons_succ]
          refine wpAnyH_take (i := 50) (oi := { dst := some 91, op := Go.Op.pick (Go.Operand.tmp 55) (Go.Operand.tmp 90) (Go.Operand.const (Go.Value.bool false)), type := 4, pos := "top.go:112", after := #[{ on := 14, ground := Go.Ground.data }, { on := 49, ground := Go.Ground.data }], guard := none }) (v := ?_) rfl (by kernel_rfl) (by kernel_rfl) (by kernel_rfl) (fun _ _ _ h => h) (Or.inl ⟨by rfl, ?_⟩) hHeld ?_
          rotate_left
          · (intro w hSw; first | (go_simp; done) | (go_simp; with_reducible rfl))
          simp only [Act.put, List.setIfInBounds_toArray, List.set_cons_zero, List.set_cons_succ]
          have IZ := hHeld
          refine wpAnyH_done (by kernel_rfl) ?_ _
          clear hHeld
          go_wp2_with fail
          go_roundg (D.p.ships.length - (k + 1))
          case measure => omega
          case rel => exact ⟨k + 1, by go_num, by omega, Nat.le_refl _, IZ.out.all⟩
        have hkw : (k : Int) < (pw.ships.length : Int) := by omega
        obtain ⟨ws, hws⟩ : ∃ x, pw.ships[k]? = some x := ⟨pw.ships[k]'a1, List.getElem?_eq_getElem a1⟩
        obtain ⟨bw, ow, rfl, HWC⟩ : ∃ b o, wa = some ⟨b, o, none⟩ ∧ Hid (∀ W, CapS gw gp pw wa wc pa pc pl W → W.cell? ⟨b, o + k * 6, none⟩ = some (.int .i64 ws.st)) := by
          obtain ⟨b, o, c, e, _⟩ := I3.out.cap.ships.cellS a1
          injection e with e1
          refine ⟨b, o, e1, fun W hW => ?_⟩
          obtain ⟨b', o', c', e', hr⟩ := hW.ships.cellS a1
          injection e' with e2
          rw [e1] at e2
          injection e2 with e2
          injection e2 with e2 e3
          subst e2 e3
          exact (hr.ship hws).1
        by_cases b1 : ws.st = 1
        case neg =>
          have I4 : Hid (StS w g9 gs gw gp d D pw (some ⟨bw, ow, none⟩) wc pa pc pl (.slice (some ⟨bs, os, none⟩) D.p.ships.length vc) x.st x.si WB) := ⟨I3.out, N4.out.cells.1, N4.out.cells.2.2.2.2.1, N4.out.lt⟩
          have hb1 : (ws.st == 1) = false := by simp [b1]
          clear HS HX N4 hki b1 hws
          refine wp_region_held_drew (S := fun W => Hid (StS w g9 gs gw gp d D pw (some ⟨bw, ow, none⟩) wc pa pc pl (.slice (some ⟨bs, os, none⟩) D.p.ships.length vc) x.st x.si W)) (by kernel_rfl) (I4.out.later (Below.refl _ _).drew) (fun hHeld => ?_)
          refine wpAnyH_take (i := 0) (oi := { dst := some 41, op := Go.Op.move (Go.Operand.tmp 12), type := 3, pos := "top.go:112", after := #[], guard := none }) (v := ?_) rfl (by kernel_rfl) (by kernel_rfl) (by kernel_rfl) (fun _ _ _ h => h) (Or.inl ⟨by rfl, ?_⟩) hHeld ?_
          rotate_left
          · (intro w hSw; first | (go_simp; done) | (go_simp; with_reducible rfl))
          simp only [Act.put, List.setIfInBounds_toArray, List.set_cons_zero, List.set_cons_succ]
          refine wpAnyH_take (i := 1) (oi := { dst := some 42, op := Go.Op.fieldAddr 33 (Go.Operand.tmp 3) 1, type := 0, pos := "top.go:112", after := #[], guard := none }) (v := ?_) rfl (by kernel_rfl) (by kernel_rfl) (by kernel_rfl) (fun _ _ _ h => h) (Or.inl ⟨by rfl, ?_⟩) hHeld ?_
          rotate_left
          · (intro w hSw; first | (go_simp; done) | (go_simp; with_reducible rfl))
          simp only [Act.put, List.setIfInBounds_toArray, List.set_cons_zero, List.set_cons_succ]
          refine wpAnyH_take (i := 2) (oi := { dst := some 43, op := Go.Op.load 28 (Go.Operand.tmp 42), type := 28, pos := "top.go:112", after := #[{ on := 1, ground := Go.Ground.data }], guard := none }) (v := .slice (some ⟨bw, ow, none⟩) pw.ships.length wc) rfl (by kernel_rfl) (by kernel_rfl) (by kernel_rfl) (fun _ _ _ h => h) (Or.inl ⟨by rfl, by intro w hSw; have hc := hSw.out.cap.box.cells.2.1; go_simp⟩) hHeld ?_
          simp only [Act.put, List.setIfInBounds_toArray, List.set_cons_zero, List.set_cons_succ]
          refine wpAnyH_take (i := 3) (oi := { dst := some 44, op := Go.Op.call { callee := Go.Callee.builtin Go.Builtin.len, args := #[Go.Operand.tmp 43], argTypes := #[28] }, type := 3, pos := "top.go:112", after := #[{ on := 2, ground := Go.Ground.data }], guard := none }) (v := ?_) rfl (by kernel_rfl) (by kernel_rfl) (by kernel_rfl) (fun _ _ _ h => h) (Or.inl ⟨by rfl, ?_⟩) hHeld ?_
          rotate_left
          · (intro w hSw; first | (go_simp; done) | (go_simp; with_reducible rfl))
          simp only [Act.put, List.setIfInBounds_toArray, List.set_cons_zero, List.set_cons_succ]
          refine wpAnyH_take (i := 4) (oi := { dst := some 45, op := Go.Op.binOp Go.BinOp.lss 3 (Go.Operand.tmp 41) (Go.Operand.tmp 44) 3, type := 4, pos := "top.go:112", after := #[{ on := 0, ground := Go.Ground.data }, { on := 3, ground := Go.Ground.data }], guard := none }) (v := .bool true) rfl (by kernel_rfl) (by kernel_rfl) (by kernel_rfl) (fun _ _ _ h => h) (Or.inl ⟨by rfl, by intro w hSw; go_simp⟩) hHeld ?_
          simp only [Act.put, List.setIfInBounds_toArray, List.set_cons_zero, List.set_cons_succ]
          refine wpAnyH_take (i := 5) (oi := { dst := some 46, op := Go.Op.move (Go.Operand.tmp 45), type := 4, pos := "top.go:112", after := #[{ on := 4, ground := Go.Ground.data }], guard := none }) (v := ?_) rfl (by kernel_rfl) (by kernel_rfl) (by kernel_rfl) (fun _ _ _ h => h) (Or.inl ⟨by rfl, ?_⟩) hHeld ?_
          rotate_left
          · (intro w hSw; first | (go_simp; done) | (go_simp; with_reducible rfl))
          simp only [Act.put, List.setIfInBounds_toArray, List.set_cons_zero, List.set_cons_succ]
          refine wpAnyH_take (i := 6) (oi := { dst := some 47, op := Go.Op.fieldAddr 33 (Go.Operand.tmp 3) 1, type := 0, pos := "top.go:112", after := #[{ on := 5, ground := Go.Ground.guard }], guard := some (5, true) }) (v := ?_) rfl (by kernel_rfl) (by kernel_rfl) (by kernel_rfl) (fun _ _ _ h => h) (Or.inl ⟨by rfl, ?_⟩) hHeld ?_
          rotate_left
          · (intro w hSw; first | (go_simp; done) | (go_simp; with_reducible rfl))
          simp only [Act.put, List.setIfInBounds_toArray, List.set_cons_zero, List.set_cons_succ]
          refine wpAnyH_take (i := 7) (oi := { dst := some 48, op := Go.Op.load 28 (Go.Operand.tmp 47), type := 28, pos := "top.go:112", after := #[{ on := 6, ground := Go.Ground.data }, { on := 5, ground := Go.Ground.guard }], guard := some (5, true) }) (v := .slice (some ⟨bw, ow, none⟩) pw.ships.length wc) rfl (by kernel_rfl) (by kernel_rfl) (by kernel_rfl) (fun _ _ _ h => h) (Or.inl ⟨by rfl, by intro w hSw; have hc := hSw.out.cap.box.cells.2.1; go_simp⟩) hHeld ?_
          simp only [Act.put, List.setIfInBounds_toArray, List.set_cons_zero, List.set_cons_succ]
          refine wpAnyH_take (i := 8) (oi := { dst := some 49, op := Go.Op.move (Go.Operand.tmp 12), type := 3, pos := "top.go:112", after := #[{ on := 5, ground := Go.Ground.guard }], guard := some (5, true) }) (v := ?_) rfl (by kernel_rfl) (by kernel_rfl) (by kernel_rfl) (fun _ _ _ h => h) (Or.inl ⟨by rfl, ?_⟩) hHeld ?_
          rotate_left
          · (intro w hSw; first | (go_simp; done) | (go_simp; with_reducible rfl))
          simp only [Act.put, List.setIfInBounds_toArray, List.set_cons_zero, List.set_cons_succ]
          refine wpAnyH_take (i := 9) (oi := { dst := some 50, op := Go.Op.indexAddr 28 (Go.Operand.tmp 48) (Go.Operand.tmp 49), type := 0, pos := "top.go:112", after := #[{ on := 7, ground := Go.Ground.data }, { on := 8, ground := Go.Ground.data }, { on := 5, ground := Go.Ground.guard }], guard := some (5, true) }) (v := ?_) rfl (by kernel_rfl) (by kernel_rfl) (by kernel_rfl) (fun _ _ _ h => h) (Or.inl ⟨by rfl, ?_⟩) hHeld ?_
          rotate_left
          · (intro w hSw; first | (go_simp; done) | (go_simp; with_reducible rfl))
          simp only [Act.put, List.setIfInBounds_toArray, List.set_cons_zero, List.set_cons_succ]
          refine wpAnyH_take (i := 10) (oi := { dst := some 51, op := Go.Op.fieldAddr 51 (Go.Operand.tmp 50) 0, type := 0, pos := "top.go:112", after := #[{ on := 9, ground := Go.Ground.data }, { on := 5, ground := Go.Ground.guard }], guard := some (5, true) }) (v := ?_) rfl (by kernel_rfl) (by kernel_rfl) (by kernel_rfl) (fun _ _ _ h => h) (Or.inl ⟨by rfl, ?_⟩) hHeld ?_
          rotate_left
          · (intro w hSw; first | (go_simp; done) | (go_simp; with_reducible rfl))
          simp only [Act.put, List.setIfInBounds_toArray, List.set_cons_zero, List.set_cons_succ]
          refine wpAnyH_take (i := 11) (oi := { dst := some 52, op := Go.Op.load 3 (Go.Operand.tmp 51), type := 3, pos := "top.go:112", after := #[{ on := 10, ground := Go.Ground.data }, { on := 5, ground := Go.Ground.guard }], guard := some (5, true) }) (v := .int .i64 ws.st) rfl (by kernel_rfl) (by kernel_rfl) (by kernel_rfl) (fun _ _ _ h => h) (Or.inl ⟨by rfl, by intro w hSw; have hc := HWC.out w hSw.out.cap; go_simp⟩) hHeld ?_
          simp only [Act.put, List.setIfInBounds_toArray, List.set_cons_zero, List.set_cons_succ]
          refine wpAnyH_take (i := 12) (oi := { dst := some 53, op := Go.Op.binOp Go.BinOp.eql 3 (Go.Operand.tmp 52) (Go.Operand.const (Go.Value.int Go.IntKind.i64 1)) 3, type := 4, pos := "top.go:112", after := #[{ on := 11, ground := Go.Ground.data }, { on := 5, ground := Go.Ground.guard }], guard := some (5, true) }) (v := .bool false) rfl (by kernel_rfl) (by kernel_rfl) (by kernel_rfl) (fun _ _ _ h => h) (Or.inl ⟨by rfl, by intro w hSw; go_simp⟩) hHeld ?_
          simp only [Act.put, List.setIfInBounds_toArray, List.set_cons_zero, List.set_cons_succ]
          refine wpAnyH_take (i := 13) (oi := { dst := some 54, op := Go.Op.pick (Go.Operand.tmp 46) (Go.Operand.tmp 53) (Go.Operand.const (Go.Value.bool false)), type := 4, pos := "top.go:112", after := #[{ on := 5, ground := Go.Ground.data }, { on := 12, ground := Go.Ground.data }], guard := none }) (v := ?_) rfl (by kernel_rfl) (by kernel_rfl) (by kernel_rfl) (fun _ _ _ h => h) (Or.inl ⟨by rfl, ?_⟩) hHeld ?_
          rotate_left
          · (intro w hSw; first | (go_simp; done) | (go_simp; with_reducible rfl))
          simp only [Act.put, List.setIfInBounds_toArray, List.set_cons_zero, List.set_cons_succ]
          refine wpAnyH_take (i := 14) (oi := { dst := some 55, op := Go.Op.move (Go.Operand.tmp 54), type := 4, pos := "top.go:112", after := #[{ on := 13, ground := Go.Ground.data }, { on := 5, ground := Go.Ground.chain }], guard := none }) (v := ?_) rfl (by kernel_rfl) (by kernel_rfl) (by kernel_rfl) (fun _ _ _ h => h) (Or.inl ⟨by rfl, ?_⟩) hHeld ?_
          rotate_left
          · (intro w hSw; first | (go_simp; done) | (go_simp; with_reducible rfl))
          simp only [Act.put, List.setIfInBounds_toArray, List.set_cons_zero, List.set_cons_succ]
          refine wpAnyH_take (i := 15) (oi := { dst := some 56, op := Go.Op.move (Go.Operand.tmp 12), type := 3, pos := "top.go:112", after := #[{ on := 14, ground := Go.Ground.guard }], guard := some (14, true) }) (v := undef) rfl (by kernel_rfl) (by kernel_rfl) (by kernel_rfl) (fun _ _ _ h => h) (Or.inr ⟨by rfl, rfl⟩) hHeld ?_
          simp only [Act.put, List.setIfInBounds_toArray, List.set_cons_zero, List.set_cons_succ]
          refine wpAnyH_take (i := 16) (oi := { dst := some 57, op := Go.Op.load 35 (Go.Operand.tmp 4), type := 35, pos := "top.go:112", after := #[{ on := 14, ground := Go.Ground.guard }], guard := some (14, true) }) (v := undef) rfl (by kernel_rfl) (by kernel_rfl) (by kernel_rfl) (fun _ _ _ h => h) (Or.inr ⟨by rfl, rfl⟩) hHeld ?_
          simp only [Act.put, List.setIfInBounds_toArray, List.set_cons_zero, List.set_cons_succ]
          refine wpAnyH_take (i := 17) (oi := { dst := some 58, op := Go.Op.call { callee := Go.Callee.builtin Go.Builtin.len, args := #[Go.Operand.tmp 57], argTypes := #[35] }, type := 3, pos := "top.go:112", after := #[{ on := 16, ground := Go.Ground.data }, { on := 14, ground := Go.Ground.guard }], guard := some (14, true) }) (v := undef) rfl (by kernel_rfl) (by kernel_rfl) (by kernel_rfl) (fun _ _ _ h => h) (Or.inr ⟨by rfl, rfl⟩) hHeld ?_
          simp only [Act.put, List.setIfInBounds_toArray, List.set_cons_zero, List.set_cons_succ]
          refine wpAnyH_take (i := 18) (oi := { dst := some 59, op := Go.Op.binOp Go.BinOp.geq 3 (Go.Operand.tmp 56) (Go.Operand.tmp 58) 3, type := 4, pos := "top.go:112", after := #[{ on := 15, ground := Go.Ground.data }, { on := 17, ground := Go.Ground.data }, { on := 14, ground := Go.Ground.guard }], guard := some (14, true) }) (v := undef) rfl (by kernel_rfl) (by kernel_rfl) (by kernel_rfl) (fun _ _ _ h => h) (Or.inr ⟨by rfl, rfl⟩) hHeld ?_
          simp only [Act.put, List.setIfInBounds_toArray, List.set_cons_zero, List.set_cons_succ]
          refine wpAnyH_take (i := 19) (oi := { dst := some 60, op := Go.Op.move (Go.Operand.tmp 59), type := 4, pos := "top.go:112", after := #[{ on := 18, ground := Go.Ground.data }, { on := 14, ground := Go.Ground.chain }, { on := 14, ground := Go.Ground.guard }], guard := some (14, true) }) (v := undef) rfl (by kernel_rfl) (by kernel_rfl) (by kernel_rfl) (fun _ _ _ h => h) (Or.inr ⟨by rfl, rfl⟩) hHeld ?_
          simp only [Act.put, List.setIfInBounds_toArray, List.set_cons_zero, List.set_cons_succ]
          refine wpAnyH_take (i := 20) (oi := { dst := some 61, op := Go.Op.fieldAddr 51 (Go.Operand.tmp 13) 0, type := 0, pos := "top.go:112", after := #[{ on := 19, ground := Go.Ground.guard }], guard := some (19, false) }) (v := undef) rfl (by kernel_rfl) (by kernel_rfl) (by kernel_rfl) (fun _ _ _ h => h) (Or.inr ⟨by rfl, rfl⟩) hHeld ?_
          simp only [Act.put, List.setIfInBounds_toArray, List.set_cons_zero, List.set_cons_succ]
          refine wpAnyH_take (i := 21) (oi := { dst := some 62, op := Go.Op.load 3 (Go.Operand.tmp 61), type := 3, pos := "top.go:112", after := #[{ on := 20, ground := Go.Ground.data }, { on := 19, ground := Go.Ground.guard }], guard := some (19, false) }) (v := undef) rfl (by kernel_rfl) (by kernel_rfl) (by kernel_rfl) (fun _ _ _ h => h) (Or.inr ⟨by rfl, rfl⟩) hHeld ?_
          simp only [Act.put, List.setIfInBounds_toArray, List.set_cons_zero, List.set_cons_succ]
          refine wpAnyH_take (i := 22) (oi := { dst := some 63, op := Go.Op.binOp Go.BinOp.eql 3 (Go.Operand.tmp 62) (Go.Operand.const (Go.Value.int Go.IntKind.i64 3)) 3, type := 4, pos := "top.go:112", after := #[{ on := 21, ground := Go.Ground.data }, { on := 19, ground := Go.Ground.guard }], guard := some (19, false) }) (v := undef) rfl (by kernel_rfl) (by kernel_rfl) (by kernel_rfl) (fun _ _ _ h => h) (Or.inr ⟨by rfl, rfl⟩) hHeld ?_
          simp only [Act.put, List.setIfInBounds_toArray, List.set_cons_zero, List.set_cons_succ]
          refine wpAnyH_take (i := 23) (oi := { dst := some 64, op := Go.Op.move (Go.Operand.tmp 63), type := 4, pos := "top.go:112", after := #[{ on := 22, ground := Go.Ground.data }, { on := 19, ground := Go.Ground.chain }, { on := 19, ground := Go.Ground.guard }], guard := some (19, false) }) (v := undef) rfl (by kernel_rfl) (by kernel_rfl) (by kernel_rfl) (fun _ _ _ h => h) (Or.inr ⟨by rfl, rfl⟩) hHeld ?_
          simp only [Act.put, List.setIfInBounds_toArray, List.set_cons_zero, List.set_cons_succ]
          refine wpAnyH_take (i := 24) (oi := { dst := some 65, op := Go.Op.fieldAddr 51 (Go.Operand.tmp 13) 4, type := 0, pos := "top.go:112", after := #[{ on := 23, ground := Go.Ground.guard }], guard := some (23, true) }) (v := undef) rfl (by kernel_rfl) (by kernel_rfl) (by kernel_rfl) (fun _ _ _ h => h) (Or.inr ⟨by rfl, rfl⟩) hHeld ?_
          simp only [Act.put, List.setIfInBounds_toArray, List.set_cons_zero, List.set_cons_succ]
          refine wpAnyH_take (i := 25) (oi := { dst := some 66, op := Go.Op.load 3 (Go.Operand.tmp 65), type := 3, pos := "top.go:112", after := #[{ on := 24, ground := Go.Ground.data }, { on := 23, ground := Go.Ground.guard }], guard := some (23, true) }) (v := undef) rfl (by kernel_rfl) (by kernel_rfl) (by kernel_rfl) (fun _ _ _ h => h) (Or.inr ⟨by rfl, rfl⟩) hHeld ?_
          simp only [Act.put, List.setIfInBounds_toArray, List.set_cons_zero, List.set_cons_succ]
          refine wpAnyH_take (i := 26) (oi := { dst := some 67, op := Go.Op.load 35 (Go.Operand.tmp 4), type := 35, pos := "top.go:112", after := #[{ on := 23, ground := Go.Ground.guard }], guard := some (23, true) }) (v := undef) rfl (by kernel_rfl) (by kernel_rfl) (by kernel_rfl) (fun _ _ _ h => h) (Or.inr ⟨by rfl, rfl⟩) hHeld ?_
          simp only [Act.put, List.setIfInBounds_toArray, List.set_cons_zero, List.set_cons_succ]
          refine wpAnyH_take (i := 27) (oi := { dst := some 68, op := Go.Op.move (Go.Operand.tmp 12), type := 3, pos := "top.go:112", after := #[{ on := 23, ground := Go.Ground.guard }], guard := some (23, true) }) (v := undef) rfl (by kernel_rfl) (by kernel_rfl) (by kernel_rfl) (fun _ _ _ h => h) (Or.inr ⟨by rfl, rfl⟩) hHeld ?_
          simp only [Act.put, List.setIfInBounds_toArray, List.set_cons_zero, List.set_cons_succ]
          refine wpAnyH_take (i := 28) (oi := { dst := some 69, op := Go.Op.indexAddr 35 (Go.Operand.tmp 67) (Go.Operand.tmp 68), type := 0, pos := "top.go:112", after := #[{ on := 26, ground := Go.Ground.data }, { on := 27, ground := Go.Ground.data }, { on := 23, ground := Go.Ground.guard }], guard := some (23, true) }) (v := undef) rfl (by kernel_rfl) (by kernel_rfl) (by kernel_rfl) (fun _ _ _ h => h) (Or.inr ⟨by rfl, rfl⟩) hHeld ?_
          simp only [Act.put, List.setIfInBounds_toArray, List.set_cons_zero, List.set_cons_succ]
          refine wpAnyH_take (i := 29) (oi := { dst := some 70, op := Go.Op.load 3 (Go.Operand.tmp 69), type := 3, pos := "top.go:112", after := #[{ on := 28, ground := Go.Ground.data }, { on := 23, ground := Go.Ground.guard }], guard := some (23, true) }) (v := undef) rfl (by kernel_rfl) (by kernel_rfl) (by kernel_rfl) (fun _ _ _ h => h) (Or.inr ⟨by rfl, rfl⟩) hHeld ?_
          simp only [Act.put, List.setIfInBounds_toArray, List.set_cons_zero, List.set_cons_succ]
          refine wpAnyH_take (i := 30) (oi := { dst := some 71, op := Go.Op.binOp Go.BinOp.neq 3 (Go.Operand.tmp 66) (Go.Operand.tmp 70) 3, type := 4, pos := "top.go:112", after := #[{ on := 25, ground := Go.Ground.data }, { on := 29, ground := Go.Ground.data }, { on := 23, ground := Go.Ground.guard }], guard := some (23, true) }) (v := undef) rfl (by kernel_rfl) (by kernel_rfl) (by kernel_rfl) (fun _ _ _ h => h) (Or.inr ⟨by rfl, rfl⟩) hHeld ?_
          simp only [Act.put, List.setIfInBounds_toArray, List.set_cons_zero, List.set_cons_succ]
          refine wpAnyH_take (i := 31) (oi := { dst := some 72, op := Go.Op.pick (Go.Operand.tmp 64) (Go.Operand.tmp 71) (Go.Operand.const (Go.Value.bool false)), type := 4, pos := "top.go:112", after := #[{ on := 23, ground := Go.Ground.data }, { on := 30, ground := Go.Ground.data }, { on := 19, ground := Go.Ground.guard }], guard := some (19, false) }) (v := undef) rfl (by kernel_rfl) (by kernel_rfl) (by kernel_rfl) (fun _ _ _ h => h) (Or.inr ⟨by rfl, rfl⟩) hHeld ?_
          simp only [Act.put, List.setIfInBounds_toArray, List.set_cons_zero, List.set_cons_succ]
          refine wpAnyH_take (i := 32) (oi := { dst := some 73, op := Go.Op.pick (Go.Operand.tmp 60) (Go.Operand.const (Go.Value.bool true)) (Go.Operand.tmp 72), type := 4, pos := "top.go:112", after := #[{ on := 19, ground := Go.Ground.data }, { on := 31, ground := Go.Ground.data }, { on := 14, ground := Go.Ground.guard }], guard := some (14, true) }) (v := undef) rfl (by kernel_rfl) (by kernel_rfl) (by kernel_rfl) (fun _ _ _ h => h) (Or.inr ⟨by rfl, rfl⟩) hHeld ?_
          simp only [Act.put, List.setIfInBounds_toArray, List.set_cons_zero, List.set_cons_succ]
          refine wpAnyH_take (i := 33) (oi := { dst := some 74, op := Go.Op.move (Go.Operand.tmp 73), type := 4, pos := "top.go:112", after := #[{ on := 32, ground := Go.Ground.data }, { on := 23, ground := Go.Ground.chain }, { on := 14, ground := Go.Ground.guard }], guard := some (14, true) }) (v := undef) rfl (by kernel_rfl) (by kernel_rfl) (by kernel_rfl) (fun _ _ _ h => h) (Or.inr ⟨by rfl, rfl⟩) hHeld ?_
          simp only [Act.put, List.setIfInBounds_toArray, List.set_cons_zero, List.set_cons_succ]
          refine wpAnyH_take (i := 34) (oi := { dst := some 75, op := Go.Op.fieldAddr 51 (Go.Operand.tmp 13) 0, type := 0, pos := "top.go:112", after := #[{ on := 33, ground := Go.Ground.guard }], guard := some (33, false) }) (v := undef) rfl (by kernel_rfl) (by kernel_rfl) (by kernel_rfl) (fun _ _ _ h => h) (Or.inr ⟨by rfl, rfl⟩) hHeld ?_
          simp only [Act.put, List.setIfInBounds_toArray, List.set_cons_zero, List.set_cons_succ]
          refine wpAnyH_take (i := 35) (oi := { dst := some 76, op := Go.Op.load 3 (Go.Operand.tmp 75), type := 3, pos := "top.go:112", after := #[{ on := 34, ground := Go.Ground.data }, { on := 33, ground := Go.Ground.guard }], guard := some (33, false) }) (v := undef) rfl (by kernel_rfl) (by kernel_rfl) (by kernel_rfl) (fun _ _ _ h => h) (Or.inr ⟨by rfl, rfl⟩) hHeld ?_
          simp only [Act.put, List.setIfInBounds_toArray, List.set_cons_zero, List.set_cons_succ]
          refine wpAnyH_take (i := 36) (oi := { dst := some 77, op := Go.Op.binOp Go.BinOp.eql 3 (Go.Operand.tmp 76) (Go.Operand.const (Go.Value.int Go.IntKind.i64 1)) 3, type := 4, pos := "top.go:112", after := #[{ on := 35, ground := Go.Ground.data }, { on := 33, ground := Go.Ground.guard }], guard := some (33, false) }) (v := undef) rfl (by kernel_rfl) (by kernel_rfl) (by kernel_rfl) (fun _ _ _ h => h) (Or.inr ⟨by rfl, rfl⟩) hHeld ?_
          simp only [Act.put, List.setIfInBounds_toArray, List.set_cons_zero, List.set_cons_succ]
          refine wpAnyH_take (i := 37) (oi := { dst := some 78, op := Go.Op.move (Go.Operand.tmp 77), type := 4, pos := "top.go:112", after := #[{ on := 36, ground := Go.Ground.data }, { on := 33, ground := Go.Ground.chain }, { on := 33, ground := Go.Ground.guard }], guard := some (33, false) }) (v := undef) rfl (by kernel_rfl) (by kernel_rfl) (by kernel_rfl) (fun _ _ _ h => h) (Or.inr ⟨by rfl, rfl⟩) hHeld ?_
          simp only [Act.put, List.setIfInBounds_toArray, List.set_cons_zero, List.set_cons_succ]
          refine wpAnyH_take (i := 38) (oi := { dst := some 79, op := Go.Op.move (Go.Operand.tmp 0), type := 22, pos := "top.go:112", after := #[{ on := 37, ground := Go.Ground.guard }], guard := some (37, true) }) (v := undef) rfl (by kernel_rfl) (by kernel_rfl) (by kernel_rfl) (fun _ _ _ h => h) (Or.inr ⟨by rfl, rfl⟩) hHeld ?_
          simp only [Act.put, List.setIfInBounds_toArray, List.set_cons_zero, List.set_cons_succ]
          refine wpAnyH_take (i := 39) (oi := { dst := some 80, op := Go.Op.call { callee := Go.Callee.value (Go.Operand.func 15), args := #[Go.Operand.tmp 79], argTypes := #[22] }, type := 35, pos := "top.go:112", after := #[{ on := 38, ground := Go.Ground.data }, { on := 37, ground := Go.Ground.chain }, { on := 37, ground := Go.Ground.guard }], guard := some (37, true) }) (v := undef) rfl (by kernel_rfl) (by kernel_rfl) (by kernel_rfl) (fun _ _ _ h => h) (Or.inr ⟨by rfl, rfl⟩) hHeld ?_
          simp only [Act.put, List.setIfInBounds_toArray, List.set_cons_zero, List.set_cons_succ]
          refine wpAnyH_take (i := 40) (oi := { dst := some 81, op := Go.Op.move (Go.Operand.tmp 12), type := 3, pos := "top.go:112", after := #[{ on := 37, ground := Go.Ground.guard }], guard := some (37, true) }) (v := undef) rfl (by kernel_rfl) (by kernel_rfl) (by kernel_rfl) (fun _ _ _ h => h) (Or.inr ⟨by rfl, rfl⟩) hHeld ?_
          simp only [Act.put, List.setIfInBounds_toArray, List.set_cons_zero, List.set_cons_succ]
          refine wpAnyH_take (i := 41) (oi := { dst := some 82, op := Go.Op.indexAddr 35 (Go.Operand.tmp 80) (Go.Operand.tmp 81), type := 0, pos := "top.go:112", after := #[{ on := 39, ground := Go.Ground.data }, { on := 40, ground := Go.Ground.data }, { on := 37, ground := Go.Ground.guard }], guard := some (37, true) }) (v := undef) rfl (by kernel_rfl) (by kernel_rfl) (by kernel_rfl) (fun _ _ _ h => h) (Or.inr ⟨by rfl, rfl⟩) hHeld ?_
          simp only [Act.put, List.setIfInBounds_toArray, List.set_cons_zero, List.set_cons_succ]
          refine wpAnyH_take (i := 42) (oi := { dst := some 83, op := Go.Op.load 3 (Go.Operand.tmp 82), type := 3, pos := "top.go:112", after := #[{ on := 41, ground := Go.Ground.data }, { on := 37, ground := Go.Ground.guard }], guard := some (37, true) }) (v := undef) rfl (by kernel_rfl) (by kernel_rfl) (by kernel_rfl) (fun _ _ _ h => h) (Or.inr ⟨by rfl, rfl⟩) hHeld ?_
          simp only [Act.put, List.setIfInBounds_toArray, List.set_cons_zero, List.set_cons_succ]
          refine wpAnyH_take (i := 43) (oi := { dst := some 84, op := Go.Op.load 35 (Go.Operand.tmp 4), type := 35, pos := "top.go:112", after := #[{ on := 37, ground := Go.Ground.guard }], guard := some (37, true) }) (v := undef) rfl (by kernel_rfl) (by kernel_rfl) (by kernel_rfl) (fun _ _ _ h => h) (Or.inr ⟨by rfl, rfl⟩) hHeld ?_
          simp only [Act.put, List.setIfInBounds_toArray, List.set_cons_zero, List.set_cons_succ]
          refine wpAnyH_take (i := 44) (oi := { dst := some 85, op := Go.Op.move (Go.Operand.tmp 12), type := 3, pos := "top.go:112", after := #[{ on := 37, ground := Go.Ground.guard }], guard := some (37, true) }) (v := undef) rfl (by kernel_rfl) (by kernel_rfl) (by kernel_rfl) (fun _ _ _ h => h) (Or.inr ⟨by rfl, rfl⟩) hHeld ?_
          simp only [Act.put, List.setIfInBounds_toArray, List.set_cons_zero, List.set_cons_succ]
          refine wpAnyH_take (i := 45) (oi := { dst := some 86, op := Go.Op.indexAddr 35 (Go.Operand.tmp 84) (Go.Operand.tmp 85), type := 0, pos := "top.go:112", after := #[{ on := 43, ground := Go.Ground.data }, { on := 44, ground := Go.Ground.data }, { on := 37, ground := Go.Ground.guard }], guard := some (37, true) }) (v := undef) rfl (by kernel_rfl) (by kernel_rfl) (by kernel_rfl) (fun _ _ _ h => h) (Or.inr ⟨by rfl, rfl⟩) hHeld ?_
          simp only [Act.put, List.setIfInBounds_toArray, List.set_cons_zero, List.set_cons_succ]
          refine wpAnyH_take (i := 46) (oi := { dst := some 87, op := Go.Op.load 3 (Go.Operand.tmp 86), type := 3, pos := "top.go:112", after := #[{ on := 45, ground := Go.Ground.data }, { on := 37, ground := Go.Ground.guard }], guard := some (37, true) }) (v := undef) rfl (by kernel_rfl) (by kernel_rfl) (by kernel_rfl) (fun _ _ _ h => h) (Or.inr ⟨by rfl, rfl⟩) hHeld ?_
          simp only [Act.put, List.setIfInBounds_toArray, List.set_cons_zero, List.set_cons_succ]
          refine wpAnyH_take (i := 47) (oi := { dst := some 88, op := Go.Op.binOp Go.BinOp.neq 3 (Go.Operand.tmp 83) (Go.Operand.tmp 87) 3, type := 4, pos := "top.go:112", after := #[{ on := 42, ground := Go.Ground.data }, { on := 46, ground := Go.Ground.data }, { on := 37, ground := Go.Ground.guard }], guard := some (37, true) }) (v := undef) rfl (by kernel_rfl) (by kernel_rfl) (by kernel_rfl) (fun _ _ _ h => h) (Or.inr ⟨by rfl, rfl⟩) hHeld ?_
          simp only [Act.put, List.setIfInBounds_toArray, List.set_cons_zero, List.set_cons_succ]
          refine wpAnyH_take (i := 48) (oi := { dst := some 89, op := Go.Op.pick (Go.Operand.tmp 78) (Go.Operand.tmp 88) (Go.Operand.const (Go.Value.bool false)), type := 4, pos := "top.go:112", after := #[{ on := 37, ground := Go.Ground.data }, { on := 47, ground := Go.Ground.data }, { on := 33, ground := Go.Ground.guard }], guard := some (33, false) }) (v := undef) rfl (by kernel_rfl) (by kernel_rfl) (by kernel_rfl) (fun _ _ _ h => h) (Or.inr ⟨by rfl, rfl⟩) hHeld ?_
          simp only [Act.put, List.setIfInBounds_toArray, List.set_cons_zero, List.set_cons_succ]
          refine wpAnyH_take (i := 49) (oi := { dst := some 90, op := Go.Op.pick (Go.Operand.tmp 74) (Go.Operand.const (Go.Value.bool true)) (Go.Operand.tmp 89), type := 4, pos := "top.go:112", after := #[{ on := 33, ground := Go.Ground.data }, { on := 48, ground := Go.Ground.data }, { on := 14, ground := Go.Ground.guard }], guard := some (14, true) }) (v := undef) rfl (by kernel_rfl) (by kernel_rfl) (by kernel_rfl) (fun _ _ _ h => h) (Or.inr ⟨by rfl, rfl⟩) hHeld ?_
          simp only [Act.put, List.setIfInBounds_toArray, List.set_cons_zero, List.set_cons_succ]
          refine wpAnyH_take (i := 50) (oi := { dst := some 91, op := Go.Op.pick (Go.Operand.tmp 55) (Go.Operand.tmp 90) (Go.Operand.const (Go.Value.bool false)), type := 4, pos := "top.go:112", after := #[{ on := 14, ground := Go.Ground.data }, { on := 49, ground := Go.Ground.data }], guard := none }) (v := ?_) rfl (by kernel_rfl) (by kernel_rfl) (by kernel_rfl) (fun _ _ _ h => h) (Or.inl ⟨by rfl, ?_⟩) hHeld ?_
          rotate_left
          · (intro w hSw; first | (go_simp; done) | (go_simp; with_reducible rfl))
          simp only [Act.put, List.setIfInBounds_toArray, List.set_cons_zero, List.set_cons_succ]
          have IZ := hHeld
          refine wpAnyH_done (by kernel_rfl) ?_ _
          clear hHeld
          go_wp2_with fail
          go_roundg (D.p.ships.length - (k + 1))
          case measure => omega
          case rel => exact ⟨k + 1, by go_num, by omega, Nat.le_refl _, IZ.out.all⟩
        obtain ⟨hpl, hst⟩ := HS.out k a1 (by rw [shp_get hws]; exact b1)
        have hkp : k < pl.length := by omega
        have hkpi : (k : Int) < (pl.length : Int) := by omega
        have hkpn : ¬ ((pl.length : Int) ≤ (k : Int)) := by omega
        obtain ⟨t, ht⟩ : ∃ t, pl[k]? = some t := ⟨pl[k]'hkp, List.getElem?_eq_getElem hkp⟩
        rw [getD_some ht] at hst
        obtain ⟨bp, op, rfl, HPC⟩ : ∃ b o, pa = some ⟨b, o, none⟩ ∧ Hid (∀ W, CapS gw gp pw (some ⟨bw, ow, none⟩) wc pa pc pl W → W.cell? ⟨b, o + k, none⟩ = some (.int .i64 t)) := by
          obtain ⟨a', c', e, _, hr⟩ := I3.out.cap.row.sl
          injection e with e1
          rcases hr with hr | ⟨b, o, hr, _⟩
          · rw [hr] at hkp; simp at hkp
          · refine ⟨b, o, by rw [e1, hr], fun W hW => ?_⟩
            obtain ⟨a2, c2, e2, _, hr2⟩ := hW.row.sl
            injection e2 with e3
            rcases hr2 with hr2 | ⟨b', o', hr2, h⟩
            · rw [hr2] at hkp; simp at hkp
            · rw [e1, hr, hr2] at e3
              injection e3 with e3
              injection e3 with e3 e4
              subst e3 e4
              exact h.int ht
        have hb1 : (ws.st == 1) = true := by simp [b1]
        have htt : (t != t) = false := by simp
        have HT2 : Hid (Starts t D.p k) := hst
        clear HS hpl ht hws hst
        rcases HT2.out.2 with ⟨g1, gpl⟩ | ⟨g1, gsi⟩ | g1
        · rw [HX.out] at g1
          have I4 : Hid (StS w g9 gs gw gp d D pw (some ⟨bw, ow, none⟩) wc (some ⟨bp, op, none⟩) pc pl (.slice (some ⟨bs, os, none⟩) D.p.ships.length vc) 1 x.si WB) := ⟨I3.out, by rw [← g1]; exact N4.out.cells.1, N4.out.cells.2.2.2.2.1, N4.out.lt⟩
          have HPL : Hid (∀ y, PlanIs D.p y → y.getD k (-1) = t) := gpl
          clear HX N4 hki g1 gpl HT2 b1
          refine wp_region_held_drew (S := fun W => Hid (StS w g9 gs gw gp d D pw (some ⟨bw, ow, none⟩) wc (some ⟨bp, op, none⟩) pc pl (.slice (some ⟨bs, os, none⟩) D.p.ships.length vc) 1 x.si W)) (by kernel_rfl) (I4.out.later (Below.refl _ _).drew) (fun hHeld => ?_)
          refine wpAnyH_take (i := 0) (oi := { dst := some 41, op := Go.Op.move (Go.Operand.tmp 12), type := 3, pos := "top.go:112", after := #[], guard := none }) (v := ?_) rfl (by kernel_rfl) (by kernel_rfl) (by kernel_rfl) (fun _ _ _ h => h) (Or.inl ⟨by rfl, ?_⟩) hHeld ?_
          rotate_left
          · (intro w hSw; first | (go_simp; done) | (go_simp; with_reducible rfl))
          simp only [Act.put, List.setIfInBounds_toArray, List.set_cons_zero, List.set_cons_succ]
          refine wpAnyH_take (i := 1) (oi := { dst := some 42, op := Go.Op.fieldAddr 33 (Go.Operand.tmp 3) 1, type := 0, pos := "top.go:112", after := #[], guard := none }) (v := ?_) rfl (by kernel_rfl) (by kernel_rfl) (by kernel_rfl) (fun _ _ _ h => h) (Or.inl ⟨by rfl, ?_⟩) hHeld ?_
          rotate_left
          · (intro w hSw; first | (go_simp; done) | (go_simp; with_reducible rfl))
          simp only [Act.put, List.setIfInBounds_toArray, List.set_cons_zero, List.set_cons_succ]
          refine wpAnyH_take (i := 2) (oi := { dst := some 43, op := Go.Op.load 28 (Go.Operand.tmp 42), type := 28, pos := "top.go:112", after := #[{ on := 1, ground := Go.Ground.data }], guard := none }) (v := .slice (some ⟨bw, ow, none⟩) pw.ships.length wc) rfl (by kernel_rfl) (by kernel_rfl) (by kernel_rfl) (fun _ _ _ h => h) (Or.inl ⟨by rfl, by intro w hSw; have hc := hSw.out.cap.box.cells.2.1; go_simp⟩) hHeld ?_
          simp only [Act.put, List.setIfInBounds_toArray, List.set_cons_zero, List.set_cons_succ]
          refine wpAnyH_take (i := 3) (oi := { dst := some 44, op := Go.Op.call { callee := Go.Callee.builtin Go.Builtin.len, args := #[Go.Operand.tmp 43], argTypes := #[28] }, type := 3, pos := "top.go:112", after := #[{ on := 2, ground := Go.Ground.data }], guard := none }) (v := ?_) rfl (by kernel_rfl) (by kernel_rfl) (by kernel_rfl) (fun _ _ _ h => h) (Or.inl ⟨by rfl, ?_⟩) hHeld ?_
          rotate_left
          · (intro w hSw; first | (go_simp; done) | (go_simp; with_reducible rfl))
          simp only [Act.put, List.setIfInBounds_toArray, List.set_cons_zero, List.set_cons_succ]
          refine wpAnyH_take (i := 4) (oi := { dst := some 45, op := Go.Op.binOp Go.BinOp.lss 3 (Go.Operand.tmp 41) (Go.Operand.tmp 44) 3, type := 4, pos := "top.go:112", after := #[{ on := 0, ground := Go.Ground.data }, { on := 3, ground := Go.Ground.data }], guard := none }) (v := .bool true) rfl (by kernel_rfl) (by kernel_rfl) (by kernel_rfl) (fun _ _ _ h => h) (Or.inl ⟨by rfl, by intro w hSw; go_simp⟩) hHeld ?_
          simp only [Act.put, List.setIfInBounds_toArray, List.set_cons_zero, List.set_cons_succ]
          refine wpAnyH_take (i := 5) (oi := { dst := some 46, op := Go.Op.move (Go.Operand.tmp 45), type := 4, pos := "top.go:112", after := #[{ on := 4, ground := Go.Ground.data }], guard := none }) (v := ?_) rfl (by kernel_rfl) (by kernel_rfl) (by kernel_rfl) (fun _ _ _ h => h) (Or.inl ⟨by rfl, ?_⟩) hHeld ?_
          rotate_left
          · (intro w hSw; first | (go_simp; done) | (go_simp; with_reducible rfl))
          simp only [Act.put, List.setIfInBounds_toArray, List.set_cons_zero, List.set_cons_succ]
          refine wpAnyH_take (i := 6) (oi := { dst := some 47, op := Go.Op.fieldAddr 33 (Go.Operand.tmp 3) 1, type := 0, pos := "top.go:112", after := #[{ on := 5, ground := Go.Ground.guard }], guard := some (5, true) }) (v := ?_) rfl (by kernel_rfl) (by kernel_rfl) (by kernel_rfl) (fun _ _ _ h => h) (Or.inl ⟨by rfl, ?_⟩) hHeld ?_
          rotate_left
          · (intro w hSw; first | (go_simp; done) | (go_simp; with_reducible rfl))
          simp only [Act.put, List.setIfInBounds_toArray, List.set_cons_zero, List.set_cons_succ]
          refine wpAnyH_take (i := 7) (oi := { dst := some 48, op := Go.Op.load 28 (Go.Operand.tmp 47), type := 28, pos := "top.go:112", after := #[{ on := 6, ground := Go.Ground.data }, { on := 5, ground := Go.Ground.guard }], guard := some (5, true) }) (v := .slice (some ⟨bw, ow, none⟩) pw.ships.length wc) rfl (by kernel_rfl) (by kernel_rfl) (by kernel_rfl) (fun _ _ _ h => h) (Or.inl ⟨by rfl, by intro w hSw; have hc := hSw.out.cap.box.cells.2.1; go_simp⟩) hHeld ?_
          simp only [Act.put, List.setIfInBounds_toArray, List.set_cons_zero, List.set_cons_succ]
          refine wpAnyH_take (i := 8) (oi := { dst := some 49, op := Go.Op.move (Go.Operand.tmp 12), type := 3, pos := "top.go:112", after := #[{ on := 5, ground := Go.Ground.guard }], guard := some (5, true) }) (v := ?_) rfl (by kernel_rfl) (by kernel_rfl) (by kernel_rfl) (fun _ _ _ h => h) (Or.inl ⟨by rfl, ?_⟩) hHeld ?_
          rotate_left
          · (intro w hSw; first | (go_simp; done) | (go_simp; with_reducible rfl))
          simp only [Act.put, List.setIfInBounds_toArray, List.set_cons_zero, List.set_cons_succ]
          refine wpAnyH_take (i := 9) (oi := { dst := some 50, op := Go.Op.indexAddr 28 (Go.Operand.tmp 48) (Go.Operand.tmp 49), type := 0, pos := "top.go:112", after := #[{ on := 7, ground := Go.Ground.data }, { on := 8, ground := Go.Ground.data }, { on := 5, ground := Go.Ground.guard }], guard := some (5, true) }) (v := ?_) rfl (by kernel_rfl) (by kernel_rfl) (by kernel_rfl) (fun _ _ _ h => h) (Or.inl ⟨by rfl, ?_⟩) hHeld ?_
          rotate_left
          · (intro w hSw; first | (go_simp; done) | (go_simp; with_reducible rfl))
          simp only [Act.put, List.setIfInBounds_toArray, List.set_cons_zero, List.set_cons_succ]
          refine wpAnyH_take (i := 10) (oi := { dst := some 51, op := Go.Op.fieldAddr 51 (Go.Operand.tmp 50) 0, type := 0, pos := "top.go:112", after := #[{ on := 9, ground := Go.Ground.data }, { on := 5, ground := Go.Ground.guard }], guard := some (5, true) }) (v := ?_) rfl (by kernel_rfl) (by kernel_rfl) (by kernel_rfl) (fun _ _ _ h => h) (Or.inl ⟨by rfl, ?_⟩) hHeld ?_
          rotate_left
          · (intro w hSw; first | (go_simp; done) | (go_simp; with_reducible rfl))
          simp only [Act.put, List.setIfInBounds_toArray, List.set_cons_zero, List.set_cons_succ]
          refine wpAnyH_take (i := 11) (oi := { dst := some 52, op := Go.Op.load 3 (Go.Operand.tmp 51), type := 3, pos := "top.go:112", after := #[{ on := 10, ground := Go.Ground.data }, { on := 5, ground := Go.Ground.guard }], guard := some (5, true) }) (v := .int .i64 ws.st) rfl (by kernel_rfl) (by kernel_rfl) (by kernel_rfl) (fun _ _ _ h => h) (Or.inl ⟨by rfl, by intro w hSw; have hc := HWC.out w hSw.out.cap; go_simp⟩) hHeld ?_
          simp only [Act.put, List.setIfInBounds_toArray, List.set_cons_zero, List.set_cons_succ]
          refine wpAnyH_take (i := 12) (oi := { dst := some 53, op := Go.Op.binOp Go.BinOp.eql 3 (Go.Operand.tmp 52) (Go.Operand.const (Go.Value.int Go.IntKind.i64 1)) 3, type := 4, pos := "top.go:112", after := #[{ on := 11, ground := Go.Ground.data }, { on := 5, ground := Go.Ground.guard }], guard := some (5, true) }) (v := .bool true) rfl (by kernel_rfl) (by kernel_rfl) (by kernel_rfl) (fun _ _ _ h => h) (Or.inl ⟨by rfl, by intro w hSw; go_simp⟩) hHeld ?_
          simp only [Act.put, List.setIfInBounds_toArray, List.set_cons_zero, List.set_cons_succ]
          refine wpAnyH_take (i := 13) (oi := { dst := some 54, op := Go.Op.pick (Go.Operand.tmp 46) (Go.Operand.tmp 53) (Go.Operand.const (Go.Value.bool false)), type := 4, pos := "top.go:112", after := #[{ on := 5, ground := Go.Ground.data }, { on := 12, ground := Go.Ground.data }], guard := none }) (v := ?_) rfl (by kernel_rfl) (by kernel_rfl) (by kernel_rfl) (fun _ _ _ h => h) (Or.inl ⟨by rfl, ?_⟩) hHeld ?_
          rotate_left
          · (intro w hSw; first | (go_simp; done) | (go_simp; with_reducible rfl))
          simp only [Act.put, List.setIfInBounds_toArray, List.set_cons_zero, List.set_cons_succ]
          refine wpAnyH_take (i := 14) (oi := { dst := some 55, op := Go.Op.move (Go.Operand.tmp 54), type := 4, pos := "top.go:112", after := #[{ on := 13, ground := Go.Ground.data }, { on := 5, ground := Go.Ground.chain }], guard := none }) (v := ?_) rfl (by kernel_rfl) (by kernel_rfl) (by kernel_rfl) (fun _ _ _ h => h) (Or.inl ⟨by rfl, ?_⟩) hHeld ?_
          rotate_left
          · (intro w hSw; first | (go_simp; done) | (go_simp; with_reducible rfl))
          simp only [Act.put, List.setIfInBounds_toArray, List.set_cons_zero, List.set_cons_succ]
          refine wpAnyH_take (i := 15) (oi := { dst := some 56, op := Go.Op.move (Go.Operand.tmp 12), type := 3, pos := "top.go:112", after := #[{ on := 14, ground := Go.Ground.guard }], guard := some (14, true) }) (v := ?_) rfl (by kernel_rfl) (by kernel_rfl) (by kernel_rfl) (fun _ _ _ h => h) (Or.inl ⟨by rfl, ?_⟩) hHeld ?_
          rotate_left
          · (intro w hSw; first | (go_simp; done) | (go_simp; with_reducible rfl))
          simp only [Act.put, List.setIfInBounds_toArray, List.set_cons_zero, List.set_cons_succ]
          refine wpAnyH_take (i := 16) (oi := { dst := some 57, op := Go.Op.load 35 (Go.Operand.tmp 4), type := 35, pos := "top.go:112", after := #[{ on := 14, ground := Go.Ground.guard }], guard := some (14, true) }) (v := .slice (some ⟨bp, op, none⟩) pl.length pc) rfl (by kernel_rfl) (by kernel_rfl) (by kernel_rfl) (fun _ _ _ h => h) (Or.inl ⟨by rfl, by intro w hSw; have hc := hSw.out.cap.cell; go_simp⟩) hHeld ?_
          simp only [Act.put, List.setIfInBounds_toArray, List.set_cons_zero, List.set_cons_succ]
          refine wpAnyH_take (i := 17) (oi := { dst := some 58, op := Go.Op.call { callee := Go.Callee.builtin Go.Builtin.len, args := #[Go.Operand.tmp 57], argTypes := #[35] }, type := 3, pos := "top.go:112", after := #[{ on := 16, ground := Go.Ground.data }, { on := 14, ground := Go.Ground.guard }], guard := some (14, true) }) (v := ?_) rfl (by kernel_rfl) (by kernel_rfl) (by kernel_rfl) (fun _ _ _ h => h) (Or.inl ⟨by rfl, ?_⟩) hHeld ?_
          rotate_left
          · (intro w hSw; first | (go_simp; done) | (go_simp; with_reducible rfl))
          simp only [Act.put, List.setIfInBounds_toArray, List.set_cons_zero, List.set_cons_succ]
          refine wpAnyH_take (i := 18) (oi := { dst := some 59, op := Go.Op.binOp Go.BinOp.geq 3 (Go.Operand.tmp 56) (Go.Operand.tmp 58) 3, type := 4, pos := "top.go:112", after := #[{ on := 15, ground := Go.Ground.data }, { on := 17, ground := Go.Ground.data }, { on := 14, ground := Go.Ground.guard }], guard := some (14, true) }) (v := .bool false) rfl (by kernel_rfl) (by kernel_rfl) (by kernel_rfl) (fun _ _ _ h => h) (Or.inl ⟨by rfl, by intro w hSw; go_simp⟩) hHeld ?_
          simp only [Act.put, List.setIfInBounds_toArray, List.set_cons_zero, List.set_cons_succ]
          refine wpAnyH_take (i := 19) (oi := { dst := some 60, op := Go.Op.move (Go.Operand.tmp 59), type := 4, pos := "top.go:112", after := #[{ on := 18, ground := Go.Ground.data }, { on := 14, ground := Go.Ground.chain }, { on := 14, ground := Go.Ground.guard }], guard := some (14, true) }) (v := ?_) rfl (by kernel_rfl) (by kernel_rfl) (by kernel_rfl) (fun _ _ _ h => h) (Or.inl ⟨by rfl, ?_⟩) hHeld ?_
          rotate_left
          · (intro w hSw; first | (go_simp; done) | (go_simp; with_reducible rfl))
          simp only [Act.put, List.setIfInBounds_toArray, List.set_cons_zero, List.set_cons_succ]
          refine wpAnyH_take (i := 20) (oi := { dst := some 61, op := Go.Op.fieldAddr 51 (Go.Operand.tmp 13) 0, type := 0, pos := "top.go:112", after := #[{ on := 19, ground := Go.Ground.guard }], guard := some (19, false) }) (v := ?_) rfl (by kernel_rfl) (by kernel_rfl) (by kernel_rfl) (fun _ _ _ h => h) (Or.inl ⟨by rfl, ?_⟩) hHeld ?_
          rotate_left
          · (intro w hSw; first | (go_simp; done) | (go_simp; with_reducible rfl))
          simp only [Act.put, List.setIfInBounds_toArray, List.set_cons_zero, List.set_cons_succ]
          refine wpAnyH_take (i := 21) (oi := { dst := some 62, op := Go.Op.load 3 (Go.Operand.tmp 61), type := 3, pos := "top.go:112", after := #[{ on := 20, ground := Go.Ground.data }, { on := 19, ground := Go.Ground.guard }], guard := some (19, false) }) (v := .int .i64 1) rfl (by kernel_rfl) (by kernel_rfl) (by kernel_rfl) (fun _ _ _ h => h) (Or.inl ⟨by rfl, by intro w hSw; have hc := hSw.out.st; go_simp⟩) hHeld ?_
          simp only [Act.put, List.setIfInBounds_toArray, List.set_cons_zero, List.set_cons_succ]
          refine wpAnyH_take (i := 22) (oi := { dst := some 63, op := Go.Op.binOp Go.BinOp.eql 3 (Go.Operand.tmp 62) (Go.Operand.const (Go.Value.int Go.IntKind.i64 3)) 3, type := 4, pos := "top.go:112", after := #[{ on := 21, ground := Go.Ground.data }, { on := 19, ground := Go.Ground.guard }], guard := some (19, false) }) (v := .bool false) rfl (by kernel_rfl) (by kernel_rfl) (by kernel_rfl) (fun _ _ _ h => h) (Or.inl ⟨by rfl, by intro w hSw; go_simp⟩) hHeld ?_
          simp only [Act.put, List.setIfInBounds_toArray, List.set_cons_zero, List.set_cons_succ]
          refine wpAnyH_take (i := 23) (oi := { dst := some 64, op := Go.Op.move (Go.Operand.tmp 63), type := 4, pos := "top.go:112", after := #[{ on := 22, ground := Go.Ground.data }, { on := 19, ground := Go.Ground.chain }, { on := 19, ground := Go.Ground.guard }], guard := some (19, false) }) (v := ?_) rfl (by kernel_rfl) (by kernel_rfl) (by kernel_rfl) (fun _ _ _ h => h) (Or.inl ⟨by rfl, ?_⟩) hHeld ?_
          rotate_left
          · (intro w hSw; first | (go_simp; done) | (go_simp; with_reducible rfl))
          simp only [Act.put, List.setIfInBounds_toArray, List.set_cons_zero, List.set_cons_succ]
          refine wpAnyH_take (i := 24) (oi := { dst := some 65, op := Go.Op.fieldAddr 51 (Go.Operand.tmp 13) 4, type := 0, pos := "top.go:112", after := #[{ on := 23, ground := Go.Ground.guard }], guard := some (23, true) }) (v := undef) rfl (by kernel_rfl) (by kernel_rfl) (by kernel_rfl) (fun _ _ _ h => h) (Or.inr ⟨by rfl, rfl⟩) hHeld ?_
          simp only [Act.put, List.setIfInBounds_toArray, List.set_cons_zero, List.set_cons_succ]
          refine wpAnyH_take (i := 25) (oi := { dst := some 66, op := Go.Op.load 3 (Go.Operand.tmp 65), type := 3, pos := "top.go:112", after := #[{ on := 24, ground := Go.Ground.data }, { on := 23, ground := Go.Ground.guard }], guard := some (23, true) }) (v := undef) rfl (by kernel_rfl) (by kernel_rfl) (by kernel_rfl) (fun _ _ _ h => h) (Or.inr ⟨by rfl, rfl⟩) hHeld ?_
          simp only [Act.put, List.setIfInBounds_toArray, List.set_cons_zero, List.set_cons_succ]
          refine wpAnyH_take (i := 26) (oi := { dst := some 67, op := Go.Op.load 35 (Go.Operand.tmp 4), type := 35, pos := "top.go:112", after := #[{ on := 23, ground := Go.Ground.guard }], guard := some (23, true) }) (v := undef) rfl (by kernel_rfl) (by kernel_rfl) (by kernel_rfl) (fun _ _ _ h => h) (Or.inr ⟨by rfl, rfl⟩) hHeld ?_
          simp only [Act.put, List.setIfInBounds_toArray, List.set_cons_zero, List.set_cons_succ]
          refine wpAnyH_take (i := 27) (oi := { dst := some 68, op := Go.Op.move (Go.Operand.tmp 12), type := 3, pos := "top.go:112", after := #[{ on := 23, ground := Go.Ground.guard }], guard := some (23, true) }) (v := undef) rfl (by kernel_rfl) (by kernel_rfl) (by kernel_rfl) (fun _ _ _ h => h) (Or.inr ⟨by rfl, rfl⟩) hHeld ?_
          simp only [Act.put, List.setIfInBounds_toArray, List.set_cons_zero, List.set_cons_succ]
          refine wpAnyH_take (i := 28) (oi := { dst := some 69, op := Go.Op.indexAddr 35 (Go.Operand.tmp 67) (Go.Operand.tmp 68), type := 0, pos := "top.go:112", after := #[{ on := 26, ground := Go.Ground.data }, { on := 27, ground := Go.Ground.data }, { on := 23, ground := Go.Ground.guard }], guard := some (23, true) }) (v := undef) rfl (by kernel_rfl) (by kernel_rfl) (by kernel_rfl) (fun _ _ _ h => h) (Or.inr ⟨by rfl, rfl⟩) hHeld ?_
          simp only [Act.put, List.setIfInBounds_toArray, List.set_cons_zero, List.set_cons_succ]
          refine wpAnyH_take (i := 29) (oi := { dst := some 70, op := Go.Op.load 3 (Go.Operand.tmp 69), type := 3, pos := "top.go:112", after := #[{ on := 28, ground := Go.Ground.data }, { on := 23, ground := Go.Ground.guard }], guard := some (23, true) }) (v := undef) rfl (by kernel_rfl) (by kernel_rfl) (by kernel_rfl) (fun _ _ _ h => h) (Or.inr ⟨by rfl, rfl⟩) hHeld ?_
          simp only [Act.put, List.setIfInBounds_toArray, List.set_cons_zero, List.set_cons_succ]
          refine wpAnyH_take (i := 30) (oi := { dst := some 71, op := Go.Op.binOp Go.BinOp.neq 3 (Go.Operand.tmp 66) (Go.Operand.tmp 70) 3, type := 4, pos := "top.go:112", after := #[{ on := 25, ground := Go.Ground.data }, { on := 29, ground := Go.Ground.data }, { on := 23, ground := Go.Ground.guard }], guard := some (23, true) }) (v := undef) rfl (by kernel_rfl) (by kernel_rfl) (by kernel_rfl) (fun _ _ _ h => h) (Or.inr ⟨by rfl, rfl⟩) hHeld ?_
          simp only [Act.put, List.setIfInBounds_toArray, List.set_cons_zero, List.set_cons_succ]
          refine wpAnyH_take (i := 31) (oi := { dst := some 72, op := Go.Op.pick (Go.Operand.tmp 64) (Go.Operand.tmp 71) (Go.Operand.const (Go.Value.bool false)), type := 4, pos := "top.go:112", after := #[{ on := 23, ground := Go.Ground.data }, { on := 30, ground := Go.Ground.data }, { on := 19, ground := Go.Ground.guard }], guard := some (19, false) }) (v := ?_) rfl (by kernel_rfl) (by kernel_rfl) (by kernel_rfl) (fun _ _ _ h => h) (Or.inl ⟨by rfl, ?_⟩) hHeld ?_
          rotate_left
          · (intro w hSw; first | (go_simp; done) | (go_simp; with_reducible rfl))
          simp only [Act.put, List.setIfInBounds_toArray, List.set_cons_zero, List.set_cons_succ]
          refine wpAnyH_take (i := 32) (oi := { dst := some 73, op := Go.Op.pick (Go.Operand.tmp 60) (Go.Operand.const (Go.Value.bool true)) (Go.Operand.tmp 72), type := 4, pos := "top.go:112", after := #[{ on := 19, ground := Go.Ground.data }, { on := 31, ground := Go.Ground.data }, { on := 14, ground := Go.Ground.guard }], guard := some (14, true) }) (v := ?_) rfl (by kernel_rfl) (by kernel_rfl) (by kernel_rfl) (fun _ _ _ h => h) (Or.inl ⟨by rfl, ?_⟩) hHeld ?_
          rotate_left
          · (intro w hSw; first | (go_simp; done) | (go_simp; with_reducible rfl))
          simp only [Act.put, List.setIfInBounds_toArray, List.set_cons_zero, List.set_cons_succ]
          refine wpAnyH_take (i := 33) (oi := { dst := some 74, op := Go.Op.move (Go.Operand.tmp 73), type := 4, pos := "top.go:112", after := #[{ on := 32, ground := Go.Ground.data }, { on := 23, ground := Go.Ground.chain }, { on := 14, ground := Go.Ground.guard }], guard := some (14, true) }) (v := ?_) rfl (by kernel_rfl) (by kernel_rfl) (by kernel_rfl) (fun _ _ _ h => h) (Or.inl ⟨by rfl, ?_⟩) hHeld ?_
          rotate_left
          · (intro w hSw; first | (go_simp; done) | (go_simp; with_reducible rfl))
          simp only [Act.put, List.setIfInBounds_toArray, List.set_cons_zero, List.set_cons_succ]
          refine wpAnyH_take (i := 34) (oi := { dst := some 75, op := Go.Op.fieldAddr 51 (Go.Operand.tmp 13) 0, type := 0, pos := "top.go:112", after := #[{ on := 33, ground := Go.Ground.guard }], guard := some (33, false) }) (v := ?_) rfl (by kernel_rfl) (by kernel_rfl) (by kernel_rfl) (fun _ _ _ h => h) (Or.inl ⟨by rfl, ?_⟩) hHeld ?_
          rotate_left
          · (intro w hSw; first | (go_simp; done) | (go_simp; with_reducible rfl))
          simp only [Act.put, List.setIfInBounds_toArray, List.set_cons_zero, List.set_cons_succ]
          refine wpAnyH_take (i := 35) (oi := { dst := some 76, op := Go.Op.load 3 (Go.Operand.tmp 75), type := 3, pos := "top.go:112", after := #[{ on := 34, ground := Go.Ground.data }, { on := 33, ground := Go.Ground.guard }], guard := some (33, false) }) (v := .int .i64 1) rfl (by kernel_rfl) (by kernel_rfl) (by kernel_rfl) (fun _ _ _ h => h) (Or.inl ⟨by rfl, by intro w hSw; have hc := hSw.out.st; go_simp⟩) hHeld ?_
          simp only [Act.put, List.setIfInBounds_toArray, List.set_cons_zero, List.set_cons_succ]
          refine wpAnyH_take (i := 36) (oi := { dst := some 77, op := Go.Op.binOp Go.BinOp.eql 3 (Go.Operand.tmp 76) (Go.Operand.const (Go.Value.int Go.IntKind.i64 1)) 3, type := 4, pos := "top.go:112", after := #[{ on := 35, ground := Go.Ground.data }, { on := 33, ground := Go.Ground.guard }], guard := some (33, false) }) (v := .bool true) rfl (by kernel_rfl) (by kernel_rfl) (by kernel_rfl) (fun _ _ _ h => h) (Or.inl ⟨by rfl, by intro w hSw; go_simp⟩) hHeld ?_
          simp only [Act.put, List.setIfInBounds_toArray, List.set_cons_zero, List.set_cons_succ]
          refine wpAnyH_take (i := 37) (oi := { dst := some 78, op := Go.Op.move (Go.Operand.tmp 77), type := 4, pos := "top.go:112", after := #[{ on := 36, ground := Go.Ground.data }, { on := 33, ground := Go.Ground.chain }, { on := 33, ground := Go.Ground.guard }], guard := some (33, false) }) (v := ?_) rfl (by kernel_rfl) (by kernel_rfl) (by kernel_rfl) (fun _ _ _ h => h) (Or.inl ⟨by rfl, ?_⟩) hHeld ?_
          rotate_left
          · (intro w hSw; first | (go_simp; done) | (go_simp; with_reducible rfl))
          simp only [Act.put, List.setIfInBounds_toArray, List.set_cons_zero, List.set_cons_succ]
          refine wpAnyH_take (i := 38) (oi := { dst := some 79, op := Go.Op.move (Go.Operand.tmp 0), type := 22, pos := "top.go:112", after := #[{ on := 37, ground := Go.Ground.guard }], guard := some (37, true) }) (v := ?_) rfl (by kernel_rfl) (by kernel_rfl) (by kernel_rfl) (fun _ _ _ h => h) (Or.inl ⟨by rfl, ?_⟩) hHeld ?_
          rotate_left
          · (intro w hSw; first | (go_simp; done) | (go_simp; with_reducible rfl))
          simp only [Act.put, List.setIfInBounds_toArray, List.set_cons_zero, List.set_cons_succ]
          refine wpAnyH_take (i := 40) (oi := { dst := some 81, op := Go.Op.move (Go.Operand.tmp 12), type := 3, pos := "top.go:112", after := #[{ on := 37, ground := Go.Ground.guard }], guard := some (37, true) }) (v := ?_) rfl (by kernel_rfl) (by kernel_rfl) (by kernel_rfl) (fun _ _ _ h => h) (Or.inl ⟨by rfl, ?_⟩) hHeld ?_
          rotate_left
          · (intro w hSw; first | (go_simp; done) | (go_simp; with_reducible rfl))
          simp only [Act.put, List.setIfInBounds_toArray, List.set_cons_zero, List.set_cons_succ]
          refine wpAnyH_take (i := 43) (oi := { dst := some 84, op := Go.Op.load 35 (Go.Operand.tmp 4), type := 35, pos := "top.go:112", after := #[{ on := 37, ground := Go.Ground.guard }], guard := some (37, true) }) (v := .slice (some ⟨bp, op, none⟩) pl.length pc) rfl (by kernel_rfl) (by kernel_rfl) (by kernel_rfl) (fun _ _ _ h => h) (Or.inl ⟨by rfl, by intro w hSw; have hc := hSw.out.cap.cell; go_simp⟩) hHeld ?_
          simp only [Act.put, List.setIfInBounds_toArray, List.set_cons_zero, List.set_cons_succ]
          refine wpAnyH_take (i := 44) (oi := { dst := some 85, op := Go.Op.move (Go.Operand.tmp 12), type := 3, pos := "top.go:112", after := #[{ on := 37, ground := Go.Ground.guard }], guard := some (37, true) }) (v := ?_) rfl (by kernel_rfl) (by kernel_rfl) (by kernel_rfl) (fun _ _ _ h => h) (Or.inl ⟨by rfl, ?_⟩) hHeld ?_
          rotate_left
          · (intro w hSw; first | (go_simp; done) | (go_simp; with_reducible rfl))
          simp only [Act.put, List.setIfInBounds_toArray, List.set_cons_zero, List.set_cons_succ]
          refine wpAnyH_take (i := 45) (oi := { dst := some 86, op := Go.Op.indexAddr 35 (Go.Operand.tmp 84) (Go.Operand.tmp 85), type := 0, pos := "top.go:112", after := #[{ on := 43, ground := Go.Ground.data }, { on := 44, ground := Go.Ground.data }, { on := 37, ground := Go.Ground.guard }], guard := some (37, true) }) (v := ?_) rfl (by kernel_rfl) (by kernel_rfl) (by kernel_rfl) (fun _ _ _ h => h) (Or.inl ⟨by rfl, ?_⟩) hHeld ?_
          rotate_left
          · (intro w hSw; first | (go_simp; done) | (go_simp; with_reducible rfl))
          simp only [Act.put, List.setIfInBounds_toArray, List.set_cons_zero, List.set_cons_succ]
          refine wpAnyH_take (i := 46) (oi := { dst := some 87, op := Go.Op.load 3 (Go.Operand.tmp 86), type := 3, pos := "top.go:112", after := #[{ on := 45, ground := Go.Ground.data }, { on := 37, ground := Go.Ground.guard }], guard := some (37, true) }) (v := .int .i64 t) rfl (by kernel_rfl) (by kernel_rfl) (by kernel_rfl) (fun _ _ _ h => h) (Or.inl ⟨by rfl, by intro w hSw; have hc := HPC.out w hSw.out.cap; go_simp⟩) hHeld ?_
          simp only [Act.put, List.setIfInBounds_toArray, List.set_cons_zero, List.set_cons_succ]
          refine wpAnyH_ready (rs := [39]) (by kernel_rfl) (by simp) ?_
          refine AllReadyH.cons rfl (fun K hK => ?_) AllReadyH.nil
          go_simp
          refine (deskPlan_any d D _ hHeld.out.all.ds.dsk hHeld.out.all.ds.ok).mono ?_
          rintro e wq ⟨vq, rfl, hq⟩
          obtain ⟨bq, oq, nq', cq, rfl, hcq, hnq, Iq⟩ : ∃ b o n' c, vq = .slice (some ⟨b, o, none⟩) n' c ∧ wq.cell? ⟨b, o + k, none⟩ = some (.int .i64 t) ∧ k < n' ∧ Hid (StS w g9 gs gw gp d D pw (some ⟨bw, ow, none⟩) wc (some ⟨bp, op, none⟩) pc pl (.slice (some ⟨bs, os, none⟩) D.p.ships.length vc) 1 x.si wq) := by
            obtain ⟨y, k1, k2, k3⟩ := hq.out
            have hyl := k1.len
            obtain ⟨a', c', rfl, _, hr⟩ := (RowT.own k2).sl
            rcases hr with hr | ⟨b, off, rfl, hr⟩
            · rw [hr] at hyl; simp at hyl; omega
            · refine ⟨b, off, y.length, c', rfl, hr.int ?_, by omega, hHeld.out.later k3⟩
              rw [← HPL.out y k1]
              exact getD_in (by omega)
          have hnq' : (k : Int) < (nq' : Int) := by omega
          clear hq hHeld I4
          go_wp2_with fail
          refine hK.out _ _ Iq (fun hHeld => ?_)
          clear hK K
          refine wpAnyH_take (i := 41) (oi := { dst := some 82, op := Go.Op.indexAddr 35 (Go.Operand.tmp 80) (Go.Operand.tmp 81), type := 0, pos := "top.go:112", after := #[{ on := 39, ground := Go.Ground.data }, { on := 40, ground := Go.Ground.data }, { on := 37, ground := Go.Ground.guard }], guard := some (37, true) }) (v := ?_) rfl (by kernel_rfl) (by kernel_rfl) (by kernel_rfl) (fun _ _ _ h => h) (Or.inl ⟨by rfl, ?_⟩) hHeld ?_
          rotate_left
          · (intro w hSw; first | (go_simp; done) | (go_simp; with_reducible rfl))
          simp only [Act.put, List.setIfInBounds_toArray, List.set_cons_zero, List.set_cons_succ]
          refine wpAnyH_ready (rs := [42]) (by kernel_rfl) (by simp) ?_
          refine AllReadyH.cons rfl (fun K hK => ?_) AllReadyH.nil
          go_simp
          refine hK.out _ _ Iq (fun hHeld => ?_)
          clear hK K
          refine wpAnyH_take (i := 47) (oi := { dst := some 88, op := Go.Op.binOp Go.BinOp.neq 3 (Go.Operand.tmp 83) (Go.Operand.tmp 87) 3, type := 4, pos := "top.go:112", after := #[{ on := 42, ground := Go.Ground.data }, { on := 46, ground := Go.Ground.data }, { on := 37, ground := Go.Ground.guard }], guard := some (37, true) }) (v := .bool false) rfl (by kernel_rfl) (by kernel_rfl) (by kernel_rfl) (fun _ _ _ h => h) (Or.inl ⟨by rfl, by intro w hSw; go_simp⟩) hHeld ?_
          simp only [Act.put, List.setIfInBounds_toArray, List.set_cons_zero, List.set_cons_succ]
          refine wpAnyH_take (i := 48) (oi := { dst := some 89, op := Go.Op.pick (Go.Operand.tmp 78) (Go.Operand.tmp 88) (Go.Operand.const (Go.Value.bool false)), type := 4, pos := "top.go:112", after := #[{ on := 37, ground := Go.Ground.data }, { on := 47, ground := Go.Ground.data }, { on := 33, ground := Go.Ground.guard }], guard := some (33, false) }) (v := ?_) rfl (by kernel_rfl) (by kernel_rfl) (by kernel_rfl) (fun _ _ _ h => h) (Or.inl ⟨by rfl, ?_⟩) hHeld ?_
          rotate_left
          · (intro w hSw; first | (go_simp; done) | (go_simp; with_reducible rfl))
          simp only [Act.put, List.setIfInBounds_toArray, List.set_cons_zero, List.set_cons_succ]
          refine wpAnyH_take (i := 49) (oi := { dst := some 90, op := Go.Op.pick (Go.Operand.tmp 74) (Go.Operand.const (Go.Value.bool true)) (Go.Operand.tmp 89), type := 4, pos := "top.go:112", after := #[{ on := 33, ground := Go.Ground.data }, { on := 48, ground := Go.Ground.data }, { on := 14, ground := Go.Ground.guard }], guard := some (14, true) }) (v := ?_) rfl (by kernel_rfl) (by kernel_rfl) (by kernel_rfl) (fun _ _ _ h => h) (Or.inl ⟨by rfl, ?_⟩) hHeld ?_
          rotate_left
          · (intro w hSw; first | (go_simp; done) | (go_simp; with_reducible rfl))
          simp only [Act.put, List.setIfInBounds_toArray, List.set_cons_zero, List.set_cons_succ]
          refine wpAnyH_take (i := 50) (oi := { dst := some 91, op := Go.Op.pick (Go.Operand.tmp 55) (Go.Operand.tmp 90) (Go.Operand.const (Go.Value.bool false)), type := 4, pos := "top.go:112", after := #[{ on := 14, ground := Go.Ground.data }, { on := 49, ground := Go.Ground.data }], guard := none }) (v := ?_) rfl (by kernel_rfl) (by kernel_rfl) (by kernel_rfl) (fun _ _ _ h => h) (Or.inl ⟨by rfl, ?_⟩) hHeld ?_
          rotate_left
          · (intro w hSw; first | (go_simp; done) | (go_simp; with_reducible rfl))
          simp only [Act.put, List.setIfInBounds_toArray, List.set_cons_zero, List.set_cons_succ]
          have IZ := hHeld
          refine wpAnyH_done (by kernel_rfl) ?_ _
          clear hHeld
          go_wp2_with fail
          go_roundg (D.p.ships.length - (k + 1))
          case measure => omega
          case rel => exact ⟨k + 1, by go_num, by omega, Nat.le_refl _, IZ.out.all⟩
        · rw [HX.out] at g1 gsi
          have I4 : Hid (StS w g9 gs gw gp d D pw (some ⟨bw, ow, none⟩) wc (some ⟨bp, op, none⟩) pc pl (.slice (some ⟨bs, os, none⟩) D.p.ships.length vc) 3 t WB) := ⟨I3.out, by rw [← g1]; exact N4.out.cells.1, by rw [← gsi]; exact N4.out.cells.2.2.2.2.1, N4.out.lt⟩
          clear HX N4 hki g1 gsi HT2 b1
          refine wp_region_held_drew (S := fun W => Hid (StS w g9 gs gw gp d D pw (some ⟨bw, ow, none⟩) wc (some ⟨bp, op, none⟩) pc pl (.slice (some ⟨bs, os, none⟩) D.p.ships.length vc) 3 t W)) (by kernel_rfl) (I4.out.later (Below.refl _ _).drew) (fun hHeld => ?_)
          refine wpAnyH_take (i := 0) (oi := { dst := some 41, op := Go.Op.move (Go.Operand.tmp 12), type := 3, pos := "top.go:112", after := #[], guard := none }) (v := ?_) rfl (by kernel_rfl) (by kernel_rfl) (by kernel_rfl) (fun _ _ _ h => h) (Or.inl ⟨by rfl, ?_⟩) hHeld ?_
          rotate_left
          · (intro w hSw; first | (go_simp; done) | (go_simp; with_reducible rfl))
          simp only [Act.put, List.setIfInBounds_toArray, List.set_cons_zero, List.set_cons_succ]
          refine wpAnyH_take (i := 1) (oi := { dst := some 42, op := Go.Op.fieldAddr 33 (Go.Operand.tmp 3) 1, type := 0, pos := "top.go:112", after := #[], guard := none }) (v := ?_) rfl (by kernel_rfl) (by kernel_rfl) (by kernel_rfl) (fun _ _ _ h => h) (Or.inl ⟨by rfl, ?_⟩) hHeld ?_
          rotate_left
          · (intro w hSw; first | (go_simp; done) | (go_simp; with_reducible rfl))
          simp only [Act.put, List.setIfInBounds_toArray, List.set_cons_zero, List.set_cons_succ]
          refine wpAnyH_take (i := 2) (oi := { dst := some 43, op := Go.Op.load 28 (Go.Operand.tmp 42), type := 28, pos := "top.go:112", after := #[{ on := 1, ground := Go.Ground.data }], guard := none }) (v := .slice (some ⟨bw, ow, none⟩) pw.ships.length wc) rfl (by kernel_rfl) (by kernel_rfl) (by kernel_rfl) (fun _ _ _ h => h) (Or.inl ⟨by rfl, by intro w hSw; have hc := hSw.out.cap.box.cells.2.1; go_simp⟩) hHeld ?_
          simp only [Act.put, List.setIfInBounds_toArray, List.set_cons_zero, List.set_cons_succ]
          refine wpAnyH_take (i := 3) (oi := { dst := some 44, op := Go.Op.call { callee := Go.Callee.builtin Go.Builtin.len, args := #[Go.Operand.tmp 43], argTypes := #[28] }, type := 3, pos := "top.go:112", after := #[{ on := 2, ground := Go.Ground.data }], guard := none }) (v := ?_) rfl (by kernel_rfl) (by kernel_rfl) (by kernel_rfl) (fun _ _ _ h => h) (Or.inl ⟨by rfl, ?_⟩) hHeld ?_
          rotate_left
          · (intro w hSw; first | (go_simp; done) | (go_simp; with_reducible rfl))
          simp only [Act.put, List.setIfInBounds_toArray, List.set_cons_zero, List.set_cons_succ]
          refine wpAnyH_take (i := 4) (oi := { dst := some 45, op := Go.Op.binOp Go.BinOp.lss 3 (Go.Operand.tmp 41) (Go.Operand.tmp 44) 3, type := 4, pos := "top.go:112", after := #[{ on := 0, ground := Go.Ground.data }, { on := 3, ground := Go.Ground.data }], guard := none }) (v := .bool true) rfl (by kernel_rfl) (by kernel_rfl) (by kernel_rfl) (fun _ _ _ h => h) (Or.inl ⟨by rfl, by intro w hSw; go_simp⟩) hHeld ?_
          simp only [Act.put, List.setIfInBounds_toArray, List.set_cons_zero, List.set_cons_succ]
          refine wpAnyH_take (i := 5) (oi := { dst := some 46, op := Go.Op.move (Go.Operand.tmp 45), type := 4, pos := "top.go:112", after := #[{ on := 4, ground := Go.Ground.data }], guard := none }) (v := ?_) rfl (by kernel_rfl) (by kernel_rfl) (by kernel_rfl) (fun _ _ _ h => h) (Or.inl ⟨by rfl, ?_⟩) hHeld ?_
          rotate_left
          · (intro w hSw; first | (go_simp; done) | (go_simp; with_reducible rfl))
          simp only [Act.put, List.setIfInBounds_toArray, List.set_cons_zero, List.set_cons_succ]
          refine wpAnyH_take (i := 6) (oi := { dst := some 47, op := Go.Op.fieldAddr 33 (Go.Operand.tmp 3) 1, type := 0, pos := "top.go:112", after := #[{ on := 5, ground := Go.Ground.guard }], guard := some (5, true) }) (v := ?_) rfl (by kernel_rfl) (by kernel_rfl) (by kernel_rfl) (fun _ _ _ h => h) (Or.inl ⟨by rfl, ?_⟩) hHeld ?_
          rotate_left
          · (intro w hSw; first | (go_simp; done) | (go_simp; with_reducible rfl))
          simp only [Act.put, List.setIfInBounds_toArray, List.set_cons_zero, List.set_cons_succ]
          refine wpAnyH_take (i := 7) (oi := { dst := some 48, op := Go.Op.load 28 (Go.Operand.tmp 47), type := 28, pos := "top.go:112", after := #[{ on := 6, ground := Go.Ground.data }, { on := 5, ground := Go.Ground.guard }], guard := some (5, true) }) (v := .slice (some ⟨bw, ow, none⟩) pw.ships.length wc) rfl (by kernel_rfl) (by kernel_rfl) (by kernel_rfl) (fun _ _ _ h => h) (Or.inl ⟨by rfl, by intro w hSw; have hc := hSw.out.cap.box.cells.2.1; go_simp⟩) hHeld ?_
          simp only [Act.put, List.setIfInBounds_toArray, List.set_cons_zero, List.set_cons_succ]
          refine wpAnyH_take (i := 8) (oi := { dst := some 49, op := Go.Op.move (Go.Operand.tmp 12), type := 3, pos := "top.go:112", after := #[{ on := 5, ground := Go.Ground.guard }], guard := some (5, true) }) (v := ?_) rfl (by kernel_rfl) (by kernel_rfl) (by kernel_rfl) (fun _ _ _ h => h) (Or.inl ⟨by rfl, ?_⟩) hHeld ?_
          rotate_left
          · (intro w hSw; first | (go_simp; done) | (go_simp; with_reducible rfl))
          simp only [Act.put, List.setIfInBounds_toArray, List.set_cons_zero, List.set_cons_succ]
          refine wpAnyH_take (i := 9) (oi := { dst := some 50, op := Go.Op.indexAddr 28 (Go.Operand.tmp 48) (Go.Operand.tmp 49), type := 0, pos := "top.go:112", after := #[{ on := 7, ground := Go.Ground.data }, { on := 8, ground := Go.Ground.data }, { on := 5, ground := Go.Ground.guard }], guard := some (5, true) }) (v := ?_) rfl (by kernel_rfl) (by kernel_rfl) (by kernel_rfl) (fun _ _ _ h => h) (Or.inl ⟨by rfl, ?_⟩) hHeld ?_
          rotate_left
          · (intro w hSw; first | (go_simp; done) | (go_simp; with_reducible rfl))
          simp only [Act.put, List.setIfInBounds_toArray, List.set_cons_zero, List.set_cons_succ]
          refine wpAnyH_take (i := 10) (oi := { dst := some 51, op := Go.Op.fieldAddr 51 (Go.Operand.tmp 50) 0, type := 0, pos := "top.go:112", after := #[{ on := 9, ground := Go.Ground.data }, { on := 5, ground := Go.Ground.guard }], guard := some (5, true) }) (v := ?_) rfl (by kernel_rfl) (by kernel_rfl) (by kernel_rfl) (fun _ _ _ h => h) (Or.inl ⟨by rfl, ?_⟩) hHeld ?_
          rotate_left
          · (intro w hSw; first | (go_simp; done) | (go_simp; with_reducible rfl))
          simp only [Act.put, List.setIfInBounds_toArray, List.set_cons_zero, List.set_cons_succ]
          refine wpAnyH_take (i := 11) (oi := { dst := some 52, op := Go.Op.load 3 (Go.Operand.tmp 51), type := 3, pos := "top.go:112", after := #[{ on := 10, ground := Go.Ground.data }, { on := 5, ground := Go.Ground.guard }], guard := some (5, true) }) (v := .int .i64 ws.st) rfl (by kernel_rfl) (by kernel_rfl) (by kernel_rfl) (fun _ _ _ h => h) (Or.inl ⟨by rfl, by intro w hSw; have hc := HWC.out w hSw.out.cap; go_simp⟩) hHeld ?_
          simp only [Act.put, List.setIfInBounds_toArray, List.set_cons_zero, List.set_cons_succ]
          refine wpAnyH_take (i := 12) (oi := { dst := some 53, op := Go.Op.binOp Go.BinOp.eql 3 (Go.Operand.tmp 52) (Go.Operand.const (Go.Value.int Go.IntKind.i64 1)) 3, type := 4, pos := "top.go:112", after := #[{ on := 11, ground := Go.Ground.data }, { on := 5, ground := Go.Ground.guard }], guard := some (5, true) }) (v := .bool true) rfl (by kernel_rfl) (by kernel_rfl) (by kernel_rfl) (fun _ _ _ h => h) (Or.inl ⟨by rfl, by intro w hSw; go_simp⟩) hHeld ?_
          simp only [Act.put, List.setIfInBounds_toArray, List.set_cons_zero, List.set_cons_succ]
          refine wpAnyH_take (i := 13) (oi := { dst := some 54, op := Go.Op.pick (Go.Operand.tmp 46) (Go.Operand.tmp 53) (Go.Operand.const (Go.Value.bool false)), type := 4, pos := "top.go:112", after := #[{ on := 5, ground := Go.Ground.data }, { on := 12, ground := Go.Ground.data }], guard := none }) (v := ?_) rfl (by kernel_rfl) (by kernel_rfl) (by kernel_rfl) (fun _ _ _ h => h) (Or.inl ⟨by rfl, ?_⟩) hHeld ?_
          rotate_left
          · (intro w hSw; first | (go_simp; done) | (go_simp; with_reducible rfl))
          simp only [Act.put, List.setIfInBounds_toArray, List.set_cons_zero, List.set_cons_succ]
          refine wpAnyH_take (i := 14) (oi := { dst := some 55, op := Go.Op.move (Go.Operand.tmp 54), type := 4, pos := "top.go:112", after := #[{ on := 13, ground := Go.Ground.data }, { on := 5, ground := Go.Ground.chain }], guard := none }) (v := ?_) rfl (by kernel_rfl) (by kernel_rfl) (by kernel_rfl) (fun _ _ _ h => h) (Or.inl ⟨by rfl, ?_⟩) hHeld ?_
          rotate_left
          · (intro w hSw; first | (go_simp; done) | (go_simp; with_reducible rfl))
          simp only [Act.put, List.setIfInBounds_toArray, List.set_cons_zero, List.set_cons_succ]
          refine wpAnyH_take (i := 15) (oi := { dst := some 56, op := Go.Op.move (Go.Operand.tmp 12), type := 3, pos := "top.go:112", after := #[{ on := 14, ground := Go.Ground.guard }], guard := some (14, true) }) (v := ?_) rfl (by kernel_rfl) (by kernel_rfl) (by kernel_rfl) (fun _ _ _ h => h) (Or.inl ⟨by rfl, ?_⟩) hHeld ?_
          rotate_left
          · (intro w hSw; first | (go_simp; done) | (go_simp; with_reducible rfl))
          simp only [Act.put, List.setIfInBounds_toArray, List.set_cons_zero, List.set_cons_succ]
          refine wpAnyH_take (i := 16) (oi := { dst := some 57, op := Go.Op.load 35 (Go.Operand.tmp 4), type := 35, pos := "top.go:112", after := #[{ on := 14, ground := Go.Ground.guard }], guard := some (14, true) }) (v := .slice (some ⟨bp, op, none⟩) pl.length pc) rfl (by kernel_rfl) (by kernel_rfl) (by kernel_rfl) (fun _ _ _ h => h) (Or.inl ⟨by rfl, by intro w hSw; have hc := hSw.out.cap.cell; go_simp⟩) hHeld ?_
          simp only [Act.put, List.setIfInBounds_toArray, List.set_cons_zero, List.set_cons_succ]
          refine wpAnyH_take (i := 17) (oi := { dst := some 58, op := Go.Op.call { callee := Go.Callee.builtin Go.Builtin.len, args := #[Go.Operand.tmp 57], argTypes := #[35] }, type := 3, pos := "top.go:112", after := #[{ on := 16, ground := Go.Ground.data }, { on := 14, ground := Go.Ground.guard }], guard := some (14, true) }) (v := ?_) rfl (by kernel_rfl) (by kernel_rfl) (by kernel_rfl) (fun _ _ _ h => h) (Or.inl ⟨by rfl, ?_⟩) hHeld ?_
          rotate_left
          · (intro w hSw; first | (go_simp; done) | (go_simp; with_reducible rfl))
          simp only [Act.put, List.setIfInBounds_toArray, List.set_cons_zero, List.set_cons_succ]
          refine wpAnyH_take (i := 18) (oi := { dst := some 59, op := Go.Op.binOp Go.BinOp.geq 3 (Go.Operand.tmp 56) (Go.Operand.tmp 58) 3, type := 4, pos := "top.go:112", after := #[{ on := 15, ground := Go.Ground.data }, { on := 17, ground := Go.Ground.data }, { on := 14, ground := Go.Ground.guard }], guard := some (14, true) }) (v := .bool false) rfl (by kernel_rfl) (by kernel_rfl) (by kernel_rfl) (fun _ _ _ h => h) (Or.inl ⟨by rfl, by intro w hSw; go_simp⟩) hHeld ?_
          simp only [Act.put, List.setIfInBounds_toArray, List.set_cons_zero, List.set_cons_succ]
          refine wpAnyH_take (i := 19) (oi := { dst := some 60, op := Go.Op.move (Go.Operand.tmp 59), type := 4, pos := "top.go:112", after := #[{ on := 18, ground := Go.Ground.data }, { on := 14, ground := Go.Ground.chain }, { on := 14, ground := Go.Ground.guard }], guard := some (14, true) }) (v := ?_) rfl (by kernel_rfl) (by kernel_rfl) (by kernel_rfl) (fun _ _ _ h => h) (Or.inl ⟨by rfl, ?_⟩) hHeld ?_
          rotate_left
          · (intro w hSw; first | (go_simp; done) | (go_simp; with_reducible rfl))
          simp only [Act.put, List.setIfInBounds_toArray, List.set_cons_zero, List.set_cons_succ]
          refine wpAnyH_take (i := 20) (oi := { dst := some 61, op := Go.Op.fieldAddr 51 (Go.Operand.tmp 13) 0, type := 0, pos := "top.go:112", after := #[{ on := 19, ground := Go.Ground.guard }], guard := some (19, false) }) (v := ?_) rfl (by kernel_rfl) (by kernel_rfl) (by kernel_rfl) (fun _ _ _ h => h) (Or.inl ⟨by rfl, ?_⟩) hHeld ?_
          rotate_left
          · (intro w hSw; first | (go_simp; done) | (go_simp; with_reducible rfl))
          simp only [Act.put, List.setIfInBounds_toArray, List.set_cons_zero, List.set_cons_succ]
          refine wpAnyH_take (i := 21) (oi := { dst := some 62, op := Go.Op.load 3 (Go.Operand.tmp 61), type := 3, pos := "top.go:112", after := #[{ on := 20, ground := Go.Ground.data }, { on := 19, ground := Go.Ground.guard }], guard := some (19, false) }) (v := .int .i64 3) rfl (by kernel_rfl) (by kernel_rfl) (by kernel_rfl) (fun _ _ _ h => h) (Or.inl ⟨by rfl, by intro w hSw; have hc := hSw.out.st; go_simp⟩) hHeld ?_
          simp only [Act.put, List.setIfInBounds_toArray, List.set_cons_zero, List.set_cons_succ]
          refine wpAnyH_take (i := 22) (oi := { dst := some 63, op := Go.Op.binOp Go.BinOp.eql 3 (Go.Operand.tmp 62) (Go.Operand.const (Go.Value.int Go.IntKind.i64 3)) 3, type := 4, pos := "top.go:112", after := #[{ on := 21, ground := Go.Ground.data }, { on := 19, ground := Go.Ground.guard }], guard := some (19, false) }) (v := .bool true) rfl (by kernel_rfl) (by kernel_rfl) (by kernel_rfl) (fun _ _ _ h => h) (Or.inl ⟨by rfl, by intro w hSw; go_simp⟩) hHeld ?_
          simp only [Act.put, List.setIfInBounds_toArray, List.set_cons_zero, List.set_cons_succ]
          refine wpAnyH_take (i := 23) (oi := { dst := some 64, op := Go.Op.move (Go.Operand.tmp 63), type := 4, pos := "top.go:112", after := #[{ on := 22, ground := Go.Ground.data }, { on := 19, ground := Go.Ground.chain }, { on := 19, ground := Go.Ground.guard }], guard := some (19, false) }) (v := ?_) rfl (by kernel_rfl) (by kernel_rfl) (by kernel_rfl) (fun _ _ _ h => h) (Or.inl ⟨by rfl, ?_⟩) hHeld ?_
          rotate_left
          · (intro w hSw; first | (go_simp; done) | (go_simp; with_reducible rfl))
          simp only [Act.put, List.setIfInBounds_toArray, List.set_cons_zero, List.set_cons_succ]
          refine wpAnyH_take (i := 24) (oi := { dst := some 65, op := Go.Op.fieldAddr 51 (Go.Operand.tmp 13) 4, type := 0, pos := "top.go:112", after := #[{ on := 23, ground := Go.Ground.guard }], guard := some (23, true) }) (v := ?_) rfl (by kernel_rfl) (by kernel_rfl) (by kernel_rfl) (fun _ _ _ h => h) (Or.inl ⟨by rfl, ?_⟩) hHeld ?_
          rotate_left
          · (intro w hSw; first | (go_simp; done) | (go_simp; with_reducible rfl))
          simp only [Act.put, List.setIfInBounds_toArray, List.set_cons_zero, List.set_cons_succ]
          refine wpAnyH_take (i := 25) (oi := { dst := some 66, op := Go.Op.load 3 (Go.Operand.tmp 65), type := 3, pos := "top.go:112", after := #[{ on := 24, ground := Go.Ground.data }, { on := 23, ground := Go.Ground.guard }], guard := some (23, true) }) (v := .int .i64 t) rfl (by kernel_rfl) (by kernel_rfl) (by kernel_rfl) (fun _ _ _ h => h) (Or.inl ⟨by rfl, by intro w hSw; have hc := hSw.out.si; go_simp⟩) hHeld ?_
          simp only [Act.put, List.setIfInBounds_toArray, List.set_cons_zero, List.set_cons_succ]
          refine wpAnyH_take (i := 26) (oi := { dst := some 67, op := Go.Op.load 35 (Go.Operand.tmp 4), type := 35, pos := "top.go:112", after := #[{ on := 23, ground := Go.Ground.guard }], guard := some (23, true) }) (v := .slice (some ⟨bp, op, none⟩) pl.length pc) rfl (by kernel_rfl) (by kernel_rfl) (by kernel_rfl) (fun _ _ _ h => h) (Or.inl ⟨by rfl, by intro w hSw; have hc := hSw.out.cap.cell; go_simp⟩) hHeld ?_
          simp only [Act.put, List.setIfInBounds_toArray, List.set_cons_zero, List.set_cons_succ]
          refine wpAnyH_take (i := 27) (oi := { dst := some 68, op := Go.Op.move (Go.Operand.tmp 12), type := 3, pos := "top.go:112", after := #[{ on := 23, ground := Go.Ground.guard }], guard := some (23, true) }) (v := ?_) rfl (by kernel_rfl) (by kernel_rfl) (by kernel_rfl) (fun _ _ _ h => h) (Or.inl ⟨by rfl, ?_⟩) hHeld ?_
          rotate_left
          · (intro w hSw; first | (go_simp; done) | (go_simp; with_reducible rfl))
          simp only [Act.put, List.setIfInBounds_toArray, List.set_cons_zero, List.set_cons_succ]
          refine wpAnyH_take (i := 28) (oi := { dst := some 69, op := Go.Op.indexAddr 35 (Go.Operand.tmp 67) (Go.Operand.tmp 68), type := 0, pos := "top.go:112", after := #[{ on := 26, ground := Go.Ground.data }, { on := 27, ground := Go.Ground.data }, { on := 23, ground := Go.Ground.guard }], guard := some (23, true) }) (v := ?_) rfl (by kernel_rfl) (by kernel_rfl) (by kernel_rfl) (fun _ _ _ h => h) (Or.inl ⟨by rfl, ?_⟩) hHeld ?_
          rotate_left
          · (intro w hSw; first | (go_simp; done) | (go_simp; with_reducible rfl))
          simp only [Act.put, List.setIfInBounds_toArray, List.set_cons_zero, List.set_cons_succ]
          refine wpAnyH_take (i := 29) (oi := { dst := some 70, op := Go.Op.load 3 (Go.Operand.tmp 69), type := 3, pos := "top.go:112", after := #[{ on := 28, ground := Go.Ground.data }, { on := 23, ground := Go.Ground.guard }], guard := some (23, true) }) (v := .int .i64 t) rfl (by kernel_rfl) (by kernel_rfl) (by kernel_rfl) (fun _ _ _ h => h) (Or.inl ⟨by rfl, by intro w hSw; have hc := HPC.out w hSw.out.cap; go_simp⟩) hHeld ?_
          simp only [Act.put, List.setIfInBounds_toArray, List.set_cons_zero, List.set_cons_succ]
          refine wpAnyH_take (i := 30) (oi := { dst := some 71, op := Go.Op.binOp Go.BinOp.neq 3 (Go.Operand.tmp 66) (Go.Operand.tmp 70) 3, type := 4, pos := "top.go:112", after := #[{ on := 25, ground := Go.Ground.data }, { on := 29, ground := Go.Ground.data }, { on := 23, ground := Go.Ground.guard }], guard := some (23, true) }) (v := .bool false) rfl (by kernel_rfl) (by kernel_rfl) (by kernel_rfl) (fun _ _ _ h => h) (Or.inl ⟨by rfl, by intro w hSw; go_simp⟩) hHeld ?_
          simp only [Act.put, List.setIfInBounds_toArray, List.set_cons_zero, List.set_cons_succ]
          refine wpAnyH_take (i := 31) (oi := { dst := some 72, op := Go.Op.pick (Go.Operand.tmp 64) (Go.Operand.tmp 71) (Go.Operand.const (Go.Value.bool false)), type := 4, pos := "top.go:112", after := #[{ on := 23, ground := Go.Ground.data }, { on := 30, ground := Go.Ground.data }, { on := 19, ground := Go.Ground.guard }], guard := some (19, false) }) (v := ?_) rfl (by kernel_rfl) (by kernel_rfl) (by kernel_rfl) (fun _ _ _ h => h) (Or.inl ⟨by rfl, ?_⟩) hHeld ?_
          rotate_left
          · (intro w hSw; first | (go_simp; done) | (go_simp; with_reducible rfl))
          simp only [Act.put, List.setIfInBounds_toArray, List.set_cons_zero, List.set_cons_succ]
          refine wpAnyH_take (i := 32) (oi := { dst := some 73, op := Go.Op.pick (Go.Operand.tmp 60) (Go.Operand.const (Go.Value.bool true)) (Go.Operand.tmp 72), type := 4, pos := "top.go:112", after := #[{ on := 19, ground := Go.Ground.data }, { on := 31, ground := Go.Ground.data }, { on := 14, ground := Go.Ground.guard }], guard := some (14, true) }) (v := ?_) rfl (by kernel_rfl) (by kernel_rfl) (by kernel_rfl) (fun _ _ _ h => h) (Or.inl ⟨by rfl, ?_⟩) hHeld ?_
          rotate_left
          · (intro w hSw; first | (go_simp; done) | (go_simp; with_reducible rfl))
          simp only [Act.put, List.setIfInBounds_toArray, List.set_cons_zero, List.set_cons_succ]
          refine wpAnyH_take (i := 33) (oi := { dst := some 74, op := Go.Op.move (Go.Operand.tmp 73), type := 4, pos := "top.go:112", after := #[{ on := 32, ground := Go.Ground.data }, { on := 23, ground := Go.Ground.chain }, { on := 14, ground := Go.Ground.guard }], guard := some (14, true) }) (v := ?_) rfl (by kernel_rfl) (by kernel_rfl) (by kernel_rfl) (fun _ _ _ h => h) (Or.inl ⟨by rfl, ?_⟩) hHeld ?_
          rotate_left
          · (intro w hSw; first | (go_simp; done) | (go_simp; with_reducible rfl))
          simp only [Act.put, List.setIfInBounds_toArray, List.set_cons_zero, List.set_cons_succ]
          refine wpAnyH_take (i := 34) (oi := { dst := some 75, op := Go.Op.fieldAddr 51 (Go.Operand.tmp 13) 0, type := 0, pos := "top.go:112", after := #[{ on := 33, ground := Go.Ground.guard }], guard := some (33, false) }) (v := ?_) rfl (by kernel_rfl) (by kernel_rfl) (by kernel_rfl) (fun _ _ _ h => h) (Or.inl ⟨by rfl, ?_⟩) hHeld ?_
          rotate_left
          · (intro w hSw; first | (go_simp; done) | (go_simp; with_reducible rfl))
          simp only [Act.put, List.setIfInBounds_toArray, List.set_cons_zero, List.set_cons_succ]
          refine wpAnyH_take (i := 35) (oi := { dst := some 76, op := Go.Op.load 3 (Go.Operand.tmp 75), type := 3, pos := "top.go:112", after := #[{ on := 34, ground := Go.Ground.data }, { on := 33, ground := Go.Ground.guard }], guard := some (33, false) }) (v := .int .i64 3) rfl (by kernel_rfl) (by kernel_rfl) (by kernel_rfl) (fun _ _ _ h => h) (Or.inl ⟨by rfl, by intro w hSw; have hc := hSw.out.st; go_simp⟩) hHeld ?_
          simp only [Act.put, List.setIfInBounds_toArray, List.set_cons_zero, List.set_cons_succ]
          refine wpAnyH_take (i := 36) (oi := { dst := some 77, op := Go.Op.binOp Go.BinOp.eql 3 (Go.Operand.tmp 76) (Go.Operand.const (Go.Value.int Go.IntKind.i64 1)) 3, type := 4, pos := "top.go:112", after := #[{ on := 35, ground := Go.Ground.data }, { on := 33, ground := Go.Ground.guard }], guard := some (33, false) }) (v := .bool false) rfl (by kernel_rfl) (by kernel_rfl) (by kernel_rfl) (fun _ _ _ h => h) (Or.inl ⟨by rfl, by intro w hSw; go_simp⟩) hHeld ?_
          simp only [Act.put, List.setIfInBounds_toArray, List.set_cons_zero, List.set_cons_succ]
          refine wpAnyH_take (i := 37) (oi := { dst := some 78, op := Go.Op.move (Go.Operand.tmp 77), type := 4, pos := "top.go:112", after := #[{ on := 36, ground := Go.Ground.data }, { on := 33, ground := Go.Ground.chain }, { on := 33, ground := Go.Ground.guard }], guard := some (33, false) }) (v := ?_) rfl (by kernel_rfl) (by kernel_rfl) (by kernel_rfl) (fun _ _ _ h => h) (Or.inl ⟨by rfl, ?_⟩) hHeld ?_
          rotate_left
          · (intro w hSw; first | (go_simp; done) | (go_simp; with_reducible rfl))
          simp only [Act.put, List.setIfInBounds_toArray, List.set_cons_zero, List.set_cons_succ]
          refine wpAnyH_take (i := 38) (oi := { dst := some 79, op := Go.Op.move (Go.Operand.tmp 0), type := 22, pos := "top.go:112", after := #[{ on := 37, ground := Go.Ground.guard }], guard := some (37, true) }) (v := undef) rfl (by kernel_rfl) (by kernel_rfl) (by kernel_rfl) (fun _ _ _ h => h) (Or.inr ⟨by rfl, rfl⟩) hHeld ?_
          simp only [Act.put, List.setIfInBounds_toArray, List.set_cons_zero, List.set_cons_succ]
          refine wpAnyH_take (i := 39) (oi := { dst := some 80, op := Go.Op.call { callee := Go.Callee.value (Go.Operand.func 15), args := #[Go.Operand.tmp 79], argTypes := #[22] }, type := 35, pos := "top.go:112", after := #[{ on := 38, ground := Go.Ground.data }, { on := 37, ground := Go.Ground.chain }, { on := 37, ground := Go.Ground.guard }], guard := some (37, true) }) (v := undef) rfl (by kernel_rfl) (by kernel_rfl) (by kernel_rfl) (fun _ _ _ h => h) (Or.inr ⟨by rfl, rfl⟩) hHeld ?_
          simp only [Act.put, List.setIfInBounds_toArray, List.set_cons_zero, List.set_cons_succ]
          refine wpAnyH_take (i := 40) (oi := { dst := some 81, op := Go.Op.move (Go.Operand.tmp 12), type := 3, pos := "top.go:112", after := #[{ on := 37, ground := Go.Ground.guard }], guard := some (37, true) }) (v := undef) rfl (by kernel_rfl) (by kernel_rfl) (by kernel_rfl) (fun _ _ _ h => h) (Or.inr ⟨by rfl, rfl⟩) hHeld ?_
          simp only [Act.put, List.setIfInBounds_toArray, List.set_cons_zero, List.set_cons_succ]
          refine wpAnyH_take (i := 41) (oi := { dst := some 82, op := Go.Op.indexAddr 35 (Go.Operand.tmp 80) (Go.Operand.tmp 81), type := 0, pos := "top.go:112", after := #[{ on := 39, ground := Go.Ground.data }, { on := 40, ground := Go.Ground.data }, { on := 37, ground := Go.Ground.guard }], guard := some (37, true) }) (v := undef) rfl (by kernel_rfl) (by kernel_rfl) (by kernel_rfl) (fun _ _ _ h => h) (Or.inr ⟨by rfl, rfl⟩) hHeld ?_
          simp only [Act.put, List.setIfInBounds_toArray, List.set_cons_zero, List.set_cons_succ]
          refine wpAnyH_take (i := 42) (oi := { dst := some 83, op := Go.Op.load 3 (Go.Operand.tmp 82), type := 3, pos := "top.go:112", after := #[{ on := 41, ground := Go.Ground.data }, { on := 37, ground := Go.Ground.guard }], guard := some (37, true) }) (v := undef) rfl (by kernel_rfl) (by kernel_rfl) (by kernel_rfl) (fun _ _ _ h => h) (Or.inr ⟨by rfl, rfl⟩) hHeld ?_
          simp only [Act.put, List.setIfInBounds_toArray, List.set_cons_zero, List.set_cons_succ]
          refine wpAnyH_take (i := 43) (oi := { dst := some 84, op := Go.Op.load 35 (Go.Operand.tmp 4), type := 35, pos := "top.go:112", after := #[{ on := 37, ground := Go.Ground.guard }], guard := some (37, true) }) (v := undef) rfl (by kernel_rfl) (by kernel_rfl) (by kernel_rfl) (fun _ _ _ h => h) (Or.inr ⟨by rfl, rfl⟩) hHeld ?_
          simp only [Act.put, List.setIfInBounds_toArray, List.set_cons_zero, List.set_cons_succ]
          refine wpAnyH_take (i := 44) (oi := { dst := some 85, op := Go.Op.move (Go.Operand.tmp 12), type := 3, pos := "top.go:112", after := #[{ on := 37, ground := Go.Ground.guard }], guard := some (37, true) }) (v := undef) rfl (by kernel_rfl) (by kernel_rfl) (by kernel_rfl) (fun _ _ _ h => h) (Or.inr ⟨by rfl, rfl⟩) hHeld ?_
          simp only [Act.put, List.setIfInBounds_toArray, List.set_cons_zero, List.set_cons_succ]
          refine wpAnyH_take (i := 45) (oi := { dst := some 86, op := Go.Op.indexAddr 35 (Go.Operand.tmp 84) (Go.Operand.tmp 85), type := 0, pos := "top.go:112", after := #[{ on := 43, ground := Go.Ground.data }, { on := 44, ground := Go.Ground.data }, { on := 37, ground := Go.Ground.guard }], guard := some (37, true) }) (v := undef) rfl (by kernel_rfl) (by kernel_rfl) (by kernel_rfl) (fun _ _ _ h => h) (Or.inr ⟨by rfl, rfl⟩) hHeld ?_
          simp only [Act.put, List.setIfInBounds_toArray, List.set_cons_zero, List.set_cons_succ]
          refine wpAnyH_take (i := 46) (oi := { dst := some 87, op := Go.Op.load 3 (Go.Operand.tmp 86), type := 3, pos := "top.go:112", after := #[{ on := 45, ground := Go.Ground.data }, { on := 37, ground := Go.Ground.guard }], guard := some (37, true) }) (v := undef) rfl (by kernel_rfl) (by kernel_rfl) (by kernel_rfl) (fun _ _ _ h => h) (Or.inr ⟨by rfl, rfl⟩) hHeld ?_
          simp only [Act.put, List.setIfInBounds_toArray, List.set_cons_zero, List.set_cons_succ]
          refine wpAnyH_take (i := 47) (oi := { dst := some 88, op := Go.Op.binOp Go.BinOp.neq 3 (Go.Operand.tmp 83) (Go.Operand.tmp 87) 3, type := 4, pos := "top.go:112", after := #[{ on := 42, ground := Go.Ground.data }, { on := 46, ground := Go.Ground.data }, { on := 37, ground := Go.Ground.guard }], guard := some (37, true) }) (v := undef) rfl (by kernel_rfl) (by kernel_rfl) (by kernel_rfl) (fun _ _ _ h => h) (Or.inr ⟨by rfl, rfl⟩) hHeld ?_
          simp only [Act.put, List.setIfInBounds_toArray, List.set_cons_zero, List.set_cons_succ]
          refine wpAnyH_take (i := 48) (oi := { dst := some 89, op := Go.Op.pick (Go.Operand.tmp 78) (Go.Operand.tmp 88) (Go.Operand.const (Go.Value.bool false)), type := 4, pos := "top.go:112", after := #[{ on := 37, ground := Go.Ground.data }, { on := 47, ground := Go.Ground.data }, { on := 33, ground := Go.Ground.guard }], guard := some (33, false) }) (v := ?_) rfl (by kernel_rfl) (by kernel_rfl) (by kernel_rfl) (fun _ _ _ h => h) (Or.inl ⟨by rfl, ?_⟩) hHeld ?_
          rotate_left
          · (intro w hSw; first | (go_simp; done) | (go_simp; with_reducible rfl))
          simp only [Act.put, List.setIfInBounds_toArray, List.set_cons_zero, List.set_cons_succ]
          refine wpAnyH_take (i := 49) (oi := { dst := some 90, op := Go.Op.pick (Go.Operand.tmp 74) (Go.Operand.const (Go.Value.bool true)) (Go.Operand.tmp 89), type := 4, pos := "top.go:112", after := #[{ on := 33, ground := Go.Ground.data }, { on := 48, ground := Go.Ground.data }, { on := 14, ground := Go.Ground.guard }], guard := some (14, true) }) (v := ?_) rfl (by kernel_rfl) (by kernel_rfl) (by kernel_rfl) (fun _ _ _ h => h) (Or.inl ⟨by rfl, ?_⟩) hHeld ?_
          rotate_left
          · (intro w hSw; first | (go_simp; done) | (go_simp; with_reducible rfl))
          simp only [Act.put, List.setIfInBounds_toArray, List.set_cons_zero, List.set_cons_succ]
          refine wpAnyH_take (i := 50) (oi := { dst := some 91, op := Go.Op.pick (Go.Operand.tmp 55) (Go.Operand.tmp 90) (Go.Operand.const (Go.Value.bool false)), type := 4, pos := "top.go:112", after := #[{ on := 14, ground := Go.Ground.data }, { on := 49, ground := Go.Ground.data }], guard := none }) (v := ?_) rfl (by kernel_rfl) (by kernel_rfl) (by kernel_rfl) (fun _ _ _ h => h) (Or.inl ⟨by rfl, ?_⟩) hHeld ?_
          rotate_left
          · (intro w hSw; first | (go_simp; done) | (go_simp; with_reducible rfl))
          simp only [Act.put, List.setIfInBounds_toArray, List.set_cons_zero, List.set_cons_succ]
          have IZ := hHeld
          refine wpAnyH_done (by kernel_rfl) ?_ _
          clear hHeld
          go_wp2_with fail
          go_roundg (D.p.ships.length - (k + 1))
          case measure => omega
          case rel => exact ⟨k + 1, by go_num, by omega, Nat.le_refl _, IZ.out.all⟩
        · rw [HX.out] at g1
          have I4 : Hid (StS w g9 gs gw gp d D pw (some ⟨bw, ow, none⟩) wc (some ⟨bp, op, none⟩) pc pl (.slice (some ⟨bs, os, none⟩) D.p.ships.length vc) 4 x.si WB) := ⟨I3.out, by rw [← g1]; exact N4.out.cells.1, N4.out.cells.2.2.2.2.1, N4.out.lt⟩
          clear HX N4 hki g1 HT2 b1
          refine wp_region_held_drew (S := fun W => Hid (StS w g9 gs gw gp d D pw (some ⟨bw, ow, none⟩) wc (some ⟨bp, op, none⟩) pc pl (.slice (some ⟨bs, os, none⟩) D.p.ships.length vc) 4 x.si W)) (by kernel_rfl) (I4.out.later (Below.refl _ _).drew) (fun hHeld => ?_)
          refine wpAnyH_take (i := 0) (oi := { dst := some 41, op := Go.Op.move (Go.Operand.tmp 12), type := 3, pos := "top.go:112", after := #[], guard := none }) (v := ?_) rfl (by kernel_rfl) (by kernel_rfl) (by kernel_rfl) (fun _ _ _ h => h) (Or.inl ⟨by rfl, ?_⟩) hHeld ?_
          rotate_left
          · (intro w hSw; first | (go_simp; done) | (go_simp; with_reducible rfl))
          simp only [Act.put, List.setIfInBounds_toArray, List.set_cons_zero, List.set_cons_succ]
          refine wpAnyH_take (i := 1) (oi := { dst := some 42, op := Go.Op.fieldAddr 33 (Go.Operand.tmp 3) 1, type := 0, pos := "top.go:112", after := #[], guard := none }) (v := ?_) rfl (by kernel_rfl) (by kernel_rfl) (by kernel_rfl) (fun _ _ _ h => h) (Or.inl ⟨by rfl, ?_⟩) hHeld ?_
          rotate_left
          · (intro w hSw; first | (go_simp; done) | (go_simp; with_reducible rfl))
          simp only [Act.put, List.setIfInBounds_toArray, List.set_cons_zero, List.set_cons_succ]
          refine wpAnyH_take (i := 2) (oi := { dst := some 43, op := Go.Op.load 28 (Go.Operand.tmp 42), type := 28, pos := "top.go:112", after := #[{ on := 1, ground := Go.Ground.data }], guard := none }) (v := .slice (some ⟨bw, ow, none⟩) pw.ships.length wc) rfl (by kernel_rfl) (by kernel_rfl) (by kernel_rfl) (fun _ _ _ h => h) (Or.inl ⟨by rfl, by intro w hSw; have hc := hSw.out.cap.box.cells.2.1; go_simp⟩) hHeld ?_
          simp only [Act.put, List.setIfInBounds_toArray, List.set_cons_zero, List.set_cons_succ]
          refine wpAnyH_take (i := 3) (oi := { dst := some 44, op := Go.Op.call { callee := Go.Callee.builtin Go.Builtin.len, args := #[Go.Operand.tmp 43], argTypes := #[28] }, type := 3, pos := "top.go:112", after := #[{ on := 2, ground := Go.Ground.data }], guard := none }) (v := ?_) rfl (by kernel_rfl) (by kernel_rfl) (by kernel_rfl) (fun _ _ _ h => h) (Or.inl ⟨by rfl, ?_⟩) hHeld ?_
          rotate_left
          · (intro w hSw; first | (go_simp; done) | (go_simp; with_reducible rfl))
          simp only [Act.put, List.setIfInBounds_toArray, List.set_cons_zero, List.set_cons_succ]
          refine wpAnyH_take (i := 4) (oi := { dst := some 45, op := Go.Op.binOp Go.BinOp.lss 3 (Go.Operand.tmp 41) (Go.Operand.tmp 44) 3, type := 4, pos := "top.go:112", after := #[{ on := 0, ground := Go.Ground.data }, { on := 3, ground := Go.Ground.data }], guard := none }) (v := .bool true) rfl (by kernel_rfl) (by kernel_rfl) (by kernel_rfl) (fun _ _ _ h => h) (Or.inl ⟨by rfl, by intro w hSw; go_simp⟩) hHeld ?_
          simp only [Act.put, List.setIfInBounds_toArray, List.set_cons_zero, List.set_cons_succ]
          refine wpAnyH_take (i := 5) (oi := { dst := some 46, op := Go.Op.move (Go.Operand.tmp 45), type := 4, pos := "top.go:112", after := #[{ on := 4, ground := Go.Ground.data }], guard := none }) (v := ?_) rfl (by kernel_rfl) (by kernel_rfl) (by kernel_rfl) (fun _ _ _ h => h) (Or.inl ⟨by rfl, ?_⟩) hHeld ?_
          rotate_left
          · (intro w hSw; first | (go_simp; done) | (go_simp; with_reducible rfl))
          simp only [Act.put, List.setIfInBounds_toArray, List.set_cons_zero, List.set_cons_succ]
          refine wpAnyH_take (i := 6) (oi := { dst := some 47, op := Go.Op.fieldAddr 33 (Go.Operand.tmp 3) 1, type := 0, pos := "top.go:112", after := #[{ on := 5, ground := Go.Ground.guard }], guard := some (5, true) }) (v := ?_) rfl (by kernel_rfl) (by kernel_rfl) (by kernel_rfl) (fun _ _ _ h => h) (Or.inl ⟨by rfl, ?_⟩) hHeld ?_
          rotate_left
          · (intro w hSw; first | (go_simp; done) | (go_simp; with_reducible rfl))
          simp only [Act.put, List.setIfInBounds_toArray, List.set_cons_zero, List.set_cons_succ]
          refine wpAnyH_take (i := 7) (oi := { dst := some 48, op := Go.Op.load 28 (Go.Operand.tmp 47), type := 28, pos := "top.go:112", after := #[{ on := 6, ground := Go.Ground.data }, { on := 5, ground := Go.Ground.guard }], guard := some (5, true) }) (v := .slice (some ⟨bw, ow, none⟩) pw.ships.length wc) rfl (by kernel_rfl) (by kernel_rfl) (by kernel_rfl) (fun _ _ _ h => h) (Or.inl ⟨by rfl, by intro w hSw; have hc := hSw.out.cap.box.cells.2.1; go_simp⟩) hHeld ?_
          simp only [Act.put, List.setIfInBounds_toArray, List.set_cons_zero, List.set_cons_succ]
          refine wpAnyH_take (i := 8) (oi := { dst := some 49, op := Go.Op.move (Go.Operand.tmp 12), type := 3, pos := "top.go:112", after := #[{ on := 5, ground := Go.Ground.guard }], guard := some (5, true) }) (v := ?_) rfl (by kernel_rfl) (by kernel_rfl) (by kernel_rfl) (fun _ _ _ h => h) (Or.inl ⟨by rfl, ?_⟩) hHeld ?_
          rotate_left
          · (intro w hSw; first | (go_simp; done) | (go_simp; with_reducible rfl))
          simp only [Act.put, List.setIfInBounds_toArray, List.set_cons_zero, List.set_cons_succ]
          refine wpAnyH_take (i := 9) (oi := { dst := some 50, op := Go.Op.indexAddr 28 (Go.Operand.tmp 48) (Go.Operand.tmp 49), type := 0, pos := "top.go:112", after := #[{ on := 7, ground := Go.Ground.data }, { on := 8, ground := Go.Ground.data }, { on := 5, ground := Go.Ground.guard }], guard := some (5, true) }) (v := ?_) rfl (by kernel_rfl) (by kernel_rfl) (by kernel_rfl) (fun _ _ _ h => h) (Or.inl ⟨by rfl, ?_⟩) hHeld ?_
          rotate_left
          · (intro w hSw; first | (go_simp; done) | (go_simp; with_reducible rfl))
          simp only [Act.put, List.setIfInBounds_toArray, List.set_cons_zero, List.set_cons_succ]
          refine wpAnyH_take (i := 10) (oi := { dst := some 51, op := Go.Op.fieldAddr 51 (Go.Operand.tmp 50) 0, type := 0, pos := "top.go:112", after := #[{ on := 9, ground := Go.Ground.data }, { on := 5, ground := Go.Ground.guard }], guard := some (5, true) }) (v := ?_) rfl (by kernel_rfl) (by kernel_rfl) (by kernel_rfl) (fun _ _ _ h => h) (Or.inl ⟨by rfl, ?_⟩) hHeld ?_
          rotate_left
          · (intro w hSw; first | (go_simp; done) | (go_simp; with_reducible rfl))
          simp only [Act.put, List.setIfInBounds_toArray, List.set_cons_zero, List.set_cons_succ]
          refine wpAnyH_take (i := 11) (oi := { dst := some 52, op := Go.Op.load 3 (Go.Operand.tmp 51), type := 3, pos := "top.go:112", after := #[{ on := 10, ground := Go.Ground.data }, { on := 5, ground := Go.Ground.guard }], guard := some (5, true) }) (v := .int .i64 ws.st) rfl (by kernel_rfl) (by kernel_rfl) (by kernel_rfl) (fun _ _ _ h => h) (Or.inl ⟨by rfl, by intro w hSw; have hc := HWC.out w hSw.out.cap; go_simp⟩) hHeld ?_
          simp only [Act.put, List.setIfInBounds_toArray, List.set_cons_zero, List.set_cons_succ]
          refine wpAnyH_take (i := 12) (oi := { dst := some 53, op := Go.Op.binOp Go.BinOp.eql 3 (Go.Operand.tmp 52) (Go.Operand.const (Go.Value.int Go.IntKind.i64 1)) 3, type := 4, pos := "top.go:112", after := #[{ on := 11, ground := Go.Ground.data }, { on := 5, ground := Go.Ground.guard }], guard := some (5, true) }) (v := .bool true) rfl (by kernel_rfl) (by kernel_rfl) (by kernel_rfl) (fun _ _ _ h => h) (Or.inl ⟨by rfl, by intro w hSw; go_simp⟩) hHeld ?_
          simp only [Act.put, List.setIfInBounds_toArray, List.set_cons_zero, List.set_cons_succ]
          refine wpAnyH_take (i := 13) (oi := { dst := some 54, op := Go.Op.pick (Go.Operand.tmp 46) (Go.Operand.tmp 53) (Go.Operand.const (Go.Value.bool false)), type := 4, pos := "top.go:112", after := #[{ on := 5, ground := Go.Ground.data }, { on := 12, ground := Go.Ground.data }], guard := none }) (v := ?_) rfl (by kernel_rfl) (by kernel_rfl) (by kernel_rfl) (fun _ _ _ h => h) (Or.inl ⟨by rfl, ?_⟩) hHeld ?_
          rotate_left
          · (intro w hSw; first | (go_simp; done) | (go_simp; with_reducible rfl))
          simp only [Act.put, List.setIfInBounds_toArray, List.set_cons_zero, List.set_cons_succ]
          refine wpAnyH_take (i := 14) (oi := { dst := some 55, op := Go.Op.move (Go.Operand.tmp 54), type := 4, pos := "top.go:112", after := #[{ on := 13, ground := Go.Ground.data }, { on := 5, ground := Go.Ground.chain }], guard := none }) (v := ?_) rfl (by kernel_rfl) (by kernel_rfl) (by kernel_rfl) (fun _ _ _ h => h) (Or.inl ⟨by rfl, ?_⟩) hHeld ?_
          rotate_left
          · (intro w hSw; first | (go_simp; done) | (go_simp; with_reducible rfl))
          simp only [Act.put, List.setIfInBounds_toArray, List.set_cons_zero, List.set_cons_succ]
          refine wpAnyH_take (i := 15) (oi := { dst := some 56, op := Go.Op.move (Go.Operand.tmp 12), type := 3, pos := "top.go:112", after := #[{ on := 14, ground := Go.Ground.guard }], guard := some (14, true) }) (v := ?_) rfl (by kernel_rfl) (by kernel_rfl) (by kernel_rfl) (fun _ _ _ h => h) (Or.inl ⟨by rfl, ?_⟩) hHeld ?_
          rotate_left
          · (intro w hSw; first | (go_simp; done) | (go_simp; with_reducible rfl))
          simp only [Act.put, List.setIfInBounds_toArray, List.set_cons_zero, List.set_cons_succ]
          refine wpAnyH_take (i := 16) (oi := { dst := some 57, op := Go.Op.load 35 (Go.Operand.tmp 4), type := 35, pos := "top.go:112", after := #[{ on := 14, ground := Go.Ground.guard }], guard := some (14, true) }) (v := .slice (some ⟨bp, op, none⟩) pl.length pc) rfl (by kernel_rfl) (by kernel_rfl) (by kernel_rfl) (fun _ _ _ h => h) (Or.inl ⟨by rfl, by intro w hSw; have hc := hSw.out.cap.cell; go_simp⟩) hHeld ?_
          simp only [Act.put, List.setIfInBounds_toArray, List.set_cons_zero, List.set_cons_succ]
          refine wpAnyH_take (i := 17) (oi := { dst := some 58, op := Go.Op.call { callee := Go.Callee.builtin Go.Builtin.len, args := #[Go.Operand.tmp 57], argTypes := #[35] }, type := 3, pos := "top.go:112", after := #[{ on := 16, ground := Go.Ground.data }, { on := 14, ground := Go.Ground.guard }], guard := some (14, true) }) (v := ?_) rfl (by kernel_rfl) (by kernel_rfl) (by kernel_rfl) (fun _ _ _ h => h) (Or.inl ⟨by rfl, ?_⟩) hHeld ?_
          rotate_left
          · (intro w hSw; first | (go_simp; done) | (go_simp; with_reducible rfl))
          simp only [Act.put, List.setIfInBounds_toArray, List.set_cons_zero, List.set_cons_succ]
          refine wpAnyH_take (i := 18) (oi := { dst := some 59, op := Go.Op.binOp Go.BinOp.geq 3 (Go.Operand.tmp 56) (Go.Operand.tmp 58) 3, type := 4, pos := "top.go:112", after := #[{ on := 15, ground := Go.Ground.data }, { on := 17, ground := Go.Ground.data }, { on := 14, ground := Go.Ground.guard }], guard := some (14, true) }) (v := .bool false) rfl (by kernel_rfl) (by kernel_rfl) (by kernel_rfl) (fun _ _ _ h => h) (Or.inl ⟨by rfl, by intro w hSw; go_simp⟩) hHeld ?_
          simp only [Act.put, List.setIfInBounds_toArray, List.set_cons_zero, List.set_cons_succ]
          refine wpAnyH_take (i := 19) (oi := { dst := some 60, op := Go.Op.move (Go.Operand.tmp 59), type := 4, pos := "top.go:112", after := #[{ on := 18, ground := Go.Ground.data }, { on := 14, ground := Go.Ground.chain }, { on := 14, ground := Go.Ground.guard }], guard := some (14, true) }) (v := ?_) rfl (by kernel_rfl) (by kernel_rfl) (by kernel_rfl) (fun _ _ _ h => h) (Or.inl ⟨by rfl, ?_⟩) hHeld ?_
          rotate_left
          · (intro w hSw; first | (go_simp; done) | (go_simp; with_reducible rfl))
          simp only [Act.put, List.setIfInBounds_toArray, List.set_cons_zero, List.set_cons_succ]
          refine wpAnyH_take (i := 20) (oi := { dst := some 61, op := Go.Op.fieldAddr 51 (Go.Operand.tmp 13) 0, type := 0, pos := "top.go:112", after := #[{ on := 19, ground := Go.Ground.guard }], guard := some (19, false) }) (v := ?_) rfl (by kernel_rfl) (by kernel_rfl) (by kernel_rfl) (fun _ _ _ h => h) (Or.inl ⟨by rfl, ?_⟩) hHeld ?_
          rotate_left
          · (intro w hSw; first | (go_simp; done) | (go_simp; with_reducible rfl))
          simp only [Act.put, List.setIfInBounds_toArray, List.set_cons_zero, List.set_cons_succ]
          refine wpAnyH_take (i := 21) (oi := { dst := some 62, op := Go.Op.load 3 (Go.Operand.tmp 61), type := 3, pos := "top.go:112", after := #[{ on := 20, ground := Go.Ground.data }, { on := 19, ground := Go.Ground.guard }], guard := some (19, false) }) (v := .int .i64 4) rfl (by kernel_rfl) (by kernel_rfl) (by kernel_rfl) (fun _ _ _ h => h) (Or.inl ⟨by rfl, by intro w hSw; have hc := hSw.out.st; go_simp⟩) hHeld ?_
          simp only [Act.put, List.setIfInBounds_toArray, List.set_cons_zero, List.set_cons_succ]
          refine wpAnyH_take (i := 22) (oi := { dst := some 63, op := Go.Op.binOp Go.BinOp.eql 3 (Go.Operand.tmp 62) (Go.Operand.const (Go.Value.int Go.IntKind.i64 3)) 3, type := 4, pos := "top.go:112", after := #[{ on := 21, ground := Go.Ground.data }, { on := 19, ground := Go.Ground.guard }], guard := some (19, false) }) (v := .bool false) rfl (by kernel_rfl) (by kernel_rfl) (by kernel_rfl) (fun _ _ _ h => h) (Or.inl ⟨by rfl, by intro w hSw; go_simp⟩) hHeld ?_
          simp only [Act.put, List.setIfInBounds_toArray, List.set_cons_zero, List.set_cons_succ]
          refine wpAnyH_take (i := 23) (oi := { dst := some 64, op := Go.Op.move (Go.Operand.tmp 63), type := 4, pos := "top.go:112", after := #[{ on := 22, ground := Go.Ground.data }, { on := 19, ground := Go.Ground.chain }, { on := 19, ground := Go.Ground.guard }], guard := some (19, false) }) (v := ?_) rfl (by kernel_rfl) (by kernel_rfl) (by kernel_rfl) (fun _ _ _ h => h) (Or.inl ⟨by rfl, ?_⟩) hHeld ?_
          rotate_left
          · (intro w hSw; first | (go_simp; done) | (go_simp; with_reducible rfl))
          simp only [Act.put, List.setIfInBounds_toArray, List.set_cons_zero, List.set_cons_succ]
          refine wpAnyH_take (i := 24) (oi := { dst := some 65, op := Go.Op.fieldAddr 51 (Go.Operand.tmp 13) 4, type := 0, pos := "top.go:112", after := #[{ on := 23, ground := Go.Ground.guard }], guard := some (23, true) }) (v := undef) rfl (by kernel_rfl) (by kernel_rfl) (by kernel_rfl) (fun _ _ _ h => h) (Or.inr ⟨by rfl, rfl⟩) hHeld ?_
          simp only [Act.put, List.setIfInBounds_toArray, List.set_cons_zero, List.set_cons_succ]
          refine wpAnyH_take (i := 25) (oi := { dst := some 66, op := Go.Op.load 3 (Go.Operand.tmp 65), type := 3, pos := "top.go:112", after := #[{ on := 24, ground := Go.Ground.data }, { on := 23, ground := Go.Ground.guard }], guard := some (23, true) }) (v := undef) rfl (by kernel_rfl) (by kernel_rfl) (by kernel_rfl) (fun _ _ _ h => h) (Or.inr ⟨by rfl, rfl⟩) hHeld ?_
          simp only [Act.put, List.setIfInBounds_toArray, List.set_cons_zero, List.set_cons_succ]
          refine wpAnyH_take (i := 26) (oi := { dst := some 67, op := Go.Op.load 35 (Go.Operand.tmp 4), type := 35, pos := "top.go:112", after := #[{ on := 23, ground := Go.Ground.guard }], guard := some (23, true) }) (v := undef) rfl (by kernel_rfl) (by kernel_rfl) (by kernel_rfl) (fun _ _ _ h => h) (Or.inr ⟨by rfl, rfl⟩) hHeld ?_
          simp only [Act.put, List.setIfInBounds_toArray, List.set_cons_zero, List.set_cons_succ]
          refine wpAnyH_take (i := 27) (oi := { dst := some 68, op := Go.Op.move (Go.Operand.tmp 12), type := 3, pos := "top.go:112", after := #[{ on := 23, ground := Go.Ground.guard }], guard := some (23, true) }) (v := undef) rfl (by kernel_rfl) (by kernel_rfl) (by kernel_rfl) (fun _ _ _ h => h) (Or.inr ⟨by rfl, rfl⟩) hHeld ?_
          simp only [Act.put, List.setIfInBounds_toArray, List.set_cons_zero, List.set_cons_succ]
          refine wpAnyH_take (i := 28) (oi := { dst := some 69, op := Go.Op.indexAddr 35 (Go.Operand.tmp 67) (Go.Operand.tmp 68), type := 0, pos := "top.go:112", after := #[{ on := 26, ground := Go.Ground.data }, { on := 27, ground := Go.Ground.data }, { on := 23, ground := Go.Ground.guard }], guard := some (23, true) }) (v := undef) rfl (by kernel_rfl) (by kernel_rfl) (by kernel_rfl) (fun _ _ _ h => h) (Or.inr ⟨by rfl, rfl⟩) hHeld ?_
          simp only [Act.put, List.setIfInBounds_toArray, List.set_cons_zero, List.set_cons_succ]
          refine wpAnyH_take (i := 29) (oi := { dst := some 70, op := Go.Op.load 3 (Go.Operand.tmp 69), type := 3, pos := "top.go:112", after := #[{ on := 28, ground := Go.Ground.data }, { on := 23, ground := Go.Ground.guard }], guard := some (23, true) }) (v := undef) rfl (by kernel_rfl) (by kernel_rfl) (by kernel_rfl) (fun _ _ _ h => h) (Or.inr ⟨by rfl, rfl⟩) hHeld ?_
          simp only [Act.put, List.setIfInBounds_toArray, List.set_cons_zero, List.set_cons_succ]
          refine wpAnyH_take (i := 30) (oi := { dst := some 71, op := Go.Op.binOp Go.BinOp.neq 3 (Go.Operand.tmp 66) (Go.Operand.tmp 70) 3, type := 4, pos := "top.go:112", after := #[{ on := 25, ground := Go.Ground.data }, { on := 29, ground := Go.Ground.data }, { on := 23, ground := Go.Ground.guard }], guard := some (23, true) }) (v := undef) rfl (by kernel_rfl) (by kernel_rfl) (by kernel_rfl) (fun _ _ _ h => h) (Or.inr ⟨by rfl, rfl⟩) hHeld ?_
          simp only [Act.put, List.setIfInBounds_toArray, List.set_cons_zero, List.set_cons_succ]
          refine wpAnyH_take (i := 31) (oi := { dst := some 72, op := Go.Op.pick (Go.Operand.tmp 64) (Go.Operand.tmp 71) (Go.Operand.const (Go.Value.bool false)), type := 4, pos := "top.go:112", after := #[{ on := 23, ground := Go.Ground.data }, { on := 30, ground := Go.Ground.data }, { on := 19, ground := Go.Ground.guard }], guard := some (19, false) }) (v := ?_) rfl (by kernel_rfl) (by kernel_rfl) (by kernel_rfl) (fun _ _ _ h => h) (Or.inl ⟨by rfl, ?_⟩) hHeld ?_
          rotate_left
          · (intro w hSw; first | (go_simp; done) | (go_simp; with_reducible rfl))
          simp only [Act.put, List.setIfInBounds_toArray, List.set_cons_zero, List.set_cons_succ]
          refine wpAnyH_take (i := 32) (oi := { dst := some 73, op := Go.Op.pick (Go.Operand.tmp 60) (Go.Operand.const (Go.Value.bool true)) (Go.Operand.tmp 72), type := 4, pos := "top.go:112", after := #[{ on := 19, ground := Go.Ground.data }, { on := 31, ground := Go.Ground.data }, { on := 14, ground := Go.Ground.guard }], guard := some (14, true) }) (v := ?_) rfl (by kernel_rfl) (by kernel_rfl) (by kernel_rfl) (fun _ _ _ h => h) (Or.inl ⟨by rfl, ?_⟩) hHeld ?_
          rotate_left
          · (intro w hSw; first | (go_simp; done) | (go_simp; with_reducible rfl))
          simp only [Act.put, List.setIfInBounds_toArray, List.set_cons_zero, List.set_cons_succ]
          refine wpAnyH_take (i := 33) (oi := { dst := some 74, op := Go.Op.move (Go.Operand.tmp 73), type := 4, pos := "top.go:112", after := #[{ on := 32, ground := Go.Ground.data }, { on := 23, ground := Go.Ground.chain }, { on := 14, ground := Go.Ground.guard }], guard := some (14, true) }) (v := ?_) rfl (by kernel_rfl) (by kernel_rfl) (by kernel_rfl) (fun _ _ _ h => h) (Or.inl ⟨by rfl, ?_⟩) hHeld ?_
          rotate_left
          · (intro w hSw; first | (go_simp; done) | (go_simp; with_reducible rfl))
          simp only [Act.put, List.setIfInBounds_toArray, List.set_cons_zero, List.set_cons_succ]
          refine wpAnyH_take (i := 34) (oi := { dst := some 75, op := Go.Op.fieldAddr 51 (Go.Operand.tmp 13) 0, type := 0, pos := "top.go:112", after := #[{ on := 33, ground := Go.Ground.guard }], guard := some (33, false) }) (v := ?_) rfl (by kernel_rfl) (by kernel_rfl) (by kernel_rfl) (fun _ _ _ h => h) (Or.inl ⟨by rfl, ?_⟩) hHeld ?_
          rotate_left
          · (intro w hSw; first | (go_simp; done) | (go_simp; with_reducible rfl))
          simp only [Act.put, List.setIfInBounds_toArray, List.set_cons_zero, List.set_cons_succ]
          refine wpAnyH_take (i := 35) (oi := { dst := some 76, op := Go.Op.load 3 (Go.Operand.tmp 75), type := 3, pos := "top.go:112", after := #[{ on := 34, ground := Go.Ground.data }, { on := 33, ground := Go.Ground.guard }], guard := some (33, false) }) (v := .int .i64 4) rfl (by kernel_rfl) (by kernel_rfl) (by kernel_rfl) (fun _ _ _ h => h) (Or.inl ⟨by rfl, by intro w hSw; have hc := hSw.out.st; go_simp⟩) hHeld ?_
          simp only [Act.put, List.setIfInBounds_toArray, List.set_cons_zero, List.set_cons_succ]
          refine wpAnyH_take (i := 36) (oi := { dst := some 77, op := Go.Op.binOp Go.BinOp.eql 3 (Go.Operand.tmp 76) (Go.Operand.const (Go.Value.int Go.IntKind.i64 1)) 3, type := 4, pos := "top.go:112", after := #[{ on := 35, ground := Go.Ground.data }, { on := 33, ground := Go.Ground.guard }], guard := some (33, false) }) (v := .bool false) rfl (by kernel_rfl) (by kernel_rfl) (by kernel_rfl) (fun _ _ _ h => h) (Or.inl ⟨by rfl, by intro w hSw; go_simp⟩) hHeld ?_
          simp only [Act.put, List.setIfInBounds_toArray, List.set_cons_zero, List.set_cons_succ]
          refine wpAnyH_take (i := 37) (oi := { dst := some 78, op := Go.Op.move (Go.Operand.tmp 77), type := 4, pos := "top.go:112", after := #[{ on := 36, ground := Go.Ground.data }, { on := 33, ground := Go.Ground.chain }, { on := 33, ground := Go.Ground.guard }], guard := some (33, false) }) (v := ?_) rfl (by kernel_rfl) (by kernel_rfl) (by kernel_rfl) (fun _ _ _ h => h) (Or.inl ⟨by rfl, ?_⟩) hHeld ?_
          rotate_left
          · (intro w hSw; first | (go_simp; done) | (go_simp; with_reducible rfl))
          simp only [Act.put, List.setIfInBounds_toArray, List.set_cons_zero, List.set_cons_succ]
          refine wpAnyH_take (i := 38) (oi := { dst := some 79, op := Go.Op.move (Go.Operand.tmp 0), type := 22, pos := "top.go:112", after := #[{ on := 37, ground := Go.Ground.guard }], guard := some (37, true) }) (v := undef) rfl (by kernel_rfl) (by kernel_rfl) (by kernel_rfl) (fun _ _ _ h => h) (Or.inr ⟨by rfl, rfl⟩) hHeld ?_
          simp only [Act.put, List.setIfInBounds_toArray, List.set_cons_zero, List.set_cons_succ]
          refine wpAnyH_take (i := 39) (oi := { dst := some 80, op := Go.Op.call { callee := Go.Callee.value (Go.Operand.func 15), args := #[Go.Operand.tmp 79], argTypes := #[22] }, type := 35, pos := "top.go:112", after := #[{ on := 38, ground := Go.Ground.data }, { on := 37, ground := Go.Ground.chain }, { on := 37, ground := Go.Ground.guard }], guard := some (37, true) }) (v := undef) rfl (by kernel_rfl) (by kernel_rfl) (by kernel_rfl) (fun _ _ _ h => h) (Or.inr ⟨by rfl, rfl⟩) hHeld ?_
          simp only [Act.put, List.setIfInBounds_toArray, List.set_cons_zero, List.set_cons_succ]
          refine wpAnyH_take (i := 40) (oi := { dst := some 81, op := Go.Op.move (Go.Operand.tmp 12), type := 3, pos := "top.go:112", after := #[{ on := 37, ground := Go.Ground.guard }], guard := some (37, true) }) (v := undef) rfl (by kernel_rfl) (by kernel_rfl) (by kernel_rfl) (fun _ _ _ h => h) (Or.inr ⟨by rfl, rfl⟩) hHeld ?_
          simp only [Act.put, List.setIfInBounds_toArray, List.set_cons_zero, List.set_cons_succ]
          refine wpAnyH_take (i := 41) (oi := { dst := some 82, op := Go.Op.indexAddr 35 (Go.Operand.tmp 80) (Go.Operand.tmp 81), type := 0, pos := "top.go:112", after := #[{ on := 39, ground := Go.Ground.data }, { on := 40, ground := Go.Ground.data }, { on := 37, ground := Go.Ground.guard }], guard := some (37, true) }) (v := undef) rfl (by kernel_rfl) (by kernel_rfl) (by kernel_rfl) (fun _ _ _ h => h) (Or.inr ⟨by rfl, rfl⟩) hHeld ?_
          simp only [Act.put, List.setIfInBounds_toArray, List.set_cons_zero, List.set_cons_succ]
          refine wpAnyH_take (i := 42) (oi := { dst := some 83, op := Go.Op.load 3 (Go.Operand.tmp 82), type := 3, pos := "top.go:112", after := #[{ on := 41, ground := Go.Ground.data }, { on := 37, ground := Go.Ground.guard }], guard := some (37, true) }) (v := undef) rfl (by kernel_rfl) (by kernel_rfl) (by kernel_rfl) (fun _ _ _ h => h) (Or.inr ⟨by rfl, rfl⟩) hHeld ?_
          simp only [Act.put, List.setIfInBounds_toArray, List.set_cons_zero, List.set_cons_succ]
          refine wpAnyH_take (i := 43) (oi := { dst := some 84, op := Go.Op.load 35 (Go.Operand.tmp 4), type := 35, pos := "top.go:112", after := #[{ on := 37, ground := Go.Ground.guard }], guard := some (37, true) }) (v := undef) rfl (by kernel_rfl) (by kernel_rfl) (by kernel_rfl) (fun _ _ _ h => h) (Or.inr ⟨by rfl, rfl⟩) hHeld ?_
          simp only [Act.put, List.setIfInBounds_toArray, List.set_cons_zero, List.set_cons_succ]
          refine wpAnyH_take (i := 44) (oi := { dst := some 85, op := Go.Op.move (Go.Operand.tmp 12), type := 3, pos := "top.go:112", after := #[{ on := 37, ground := Go.Ground.guard }], guard := some (37, true) }) (v := undef) rfl (by kernel_rfl) (by kernel_rfl) (by kernel_rfl) (fun _ _ _ h => h) (Or.inr ⟨by rfl, rfl⟩) hHeld ?_
          simp only [Act.put, List.setIfInBounds_toArray, List.set_cons_zero, List.set_cons_succ]
          refine wpAnyH_take (i := 45) (oi := { dst := some 86, op := Go.Op.indexAddr 35 (Go.Operand.tmp 84) (Go.Operand.tmp 85), type := 0, pos := "top.go:112", after := #[{ on := 43, ground := Go.Ground.data }, { on := 44, ground := Go.Ground.data }, { on := 37, ground := Go.Ground.guard }], guard := some (37, true) }) (v := undef) rfl (by kernel_rfl) (by kernel_rfl) (by kernel_rfl) (fun _ _ _ h => h) (Or.inr ⟨by rfl, rfl⟩) hHeld ?_
          simp only [Act.put, List.setIfInBounds_toArray, List.set_cons_zero, List.set_cons_succ]
          refine wpAnyH_take (i := 46) (oi := { dst := some 87, op := Go.Op.load 3 (Go.Operand.tmp 86), type := 3, pos := "top.go:112", after := #[{ on := 45, ground := Go.Ground.data }, { on := 37, ground := Go.Ground.guard }], guard := some (37, true) }) (v := undef) rfl (by kernel_rfl) (by kernel_rfl) (by kernel_rfl) (fun _ _ _ h => h) (Or.inr ⟨by rfl, rfl⟩) hHeld ?_
          simp only [Act.put, List.setIfInBounds_toArray, List.set_cons_zero, List.set_cons_succ]
          refine wpAnyH_take (i := 47) (oi := { dst := some 88, op := Go.Op.binOp Go.BinOp.neq 3 (Go.Operand.tmp 83) (Go.Operand.tmp 87) 3, type := 4, pos := "top.go:112", after := #[{ on := 42, ground := Go.Ground.data }, { on := 46, ground := Go.Ground.data }, { on := 37, ground := Go.Ground.guard }], guard := some (37, true) }) (v := undef) rfl (by kernel_rfl) (by kernel_rfl) (by kernel_rfl) (fun _ _ _ h => h) (Or.inr ⟨by rfl, rfl⟩) hHeld ?_
          simp only [Act.put, List.setIfInBounds_toArray, List.set_cons_zero, List.set_cons_succ]
          refine wpAnyH_take (i := 48) (oi := { dst := some 89, op := Go.Op.pick (Go.Operand.tmp 78) (Go.Operand.tmp 88) (Go.Operand.const (Go.Value.bool false)), type := 4, pos := "top.go:112", after := #[{ on := 37, ground := Go.Ground.data }, { on := 47, ground := Go.Ground.data }, { on := 33, ground := Go.Ground.guard }], guard := some (33, false) }) (v := ?_) rfl (by kernel_rfl) (by kernel_rfl) (by kernel_rfl) (fun _ _ _ h => h) (Or.inl ⟨by rfl, ?_⟩) hHeld ?_
          rotate_left
          · (intro w hSw; first | (go_simp; done) | (go_simp; with_reducible rfl))
          simp only [Act.put, List.setIfInBounds_toArray, List.set_cons_zero, List.set_cons_succ]
          refine wpAnyH_take (i := 49) (oi := { dst := some 90, op := Go.Op.pick (Go.Operand.tmp 74) (Go.Operand.const (Go.Value.bool true)) (Go.Operand.tmp 89), type := 4, pos := "top.go:112", after := #[{ on := 33, ground := Go.Ground.data }, { on := 48, ground := Go.Ground.data }, { on := 14, ground := Go.Ground.guard }], guard := some (14, true) }) (v := ?_) rfl (by kernel_rfl) (by kernel_rfl) (by kernel_rfl) (fun _ _ _ h => h) (Or.inl ⟨by rfl, ?_⟩) hHeld ?_
          rotate_left
          · (intro w hSw; first | (go_simp; done) | (go_simp; with_reducible rfl))
          simp only [Act.put, List.setIfInBounds_toArray, List.set_cons_zero, List.set_cons_succ]
          refine wpAnyH_take (i := 50) (oi := { dst := some 91, op := Go.Op.pick (Go.Operand.tmp 55) (Go.Operand.tmp 90) (Go.Operand.const (Go.Value.bool false)), type := 4, pos := "top.go:112", after := #[{ on := 14, ground := Go.Ground.data }, { on := 49, ground := Go.Ground.data }], guard := none }) (v := ?_) rfl (by kernel_rfl) (by kernel_rfl) (by kernel_rfl) (fun _ _ _ h => h) (Or.inl ⟨by rfl, ?_⟩) hHeld ?_
          rotate_left
          · (intro w hSw; first | (go_simp; done) | (go_simp; with_reducible rfl))
          simp only [Act.put, List.setIfInBounds_toArray, List.set_cons_zero, List.set_cons_succ]
          have IZ := hHeld
          refine wpAnyH_done (by kernel_rfl) ?_ _
          clear hHeld
          go_wp2_with fail
          go_roundg (D.p.ships.length - (k + 1))
          case measure => omega
          case rel => exact ⟨k + 1, by go_num, by omega, Nat.le_refl _, IZ.out.all⟩
      · have hki : ¬ ((k : Int) < (D.p.ships.length : Int)) := by omega
        have E8 : Hid (LtS w g9 gw gp d D pw wa wc pa pc pl (.slice va D.p.ships.length vc) wr) := I
        clear I HS
        go_upto_region 10 with fail
        have ED : Hid (LtS w g9 gw gp d D pw wa wc pa pc pl (.slice va D.p.ships.length vc) wr.drew) := E8.out.later (Below.refl _ _).drew
        clear E8
        refine wp_region_held_drew (S := fun W => Hid (PBox W g9 D.p (.slice va D.p.ships.length vc))) (by kernel_rfl) ED.out.box (fun hHeld => ?_)
        refine wpAnyH_take (i := 0) (oi := { dst := some 93, op := Go.Op.load 33 (Go.Operand.tmp 9), type := 33, pos := "top.go:117", after := #[], guard := none }) (v := .agg QC) rfl (by kernel_rfl) (by kernel_rfl) (by kernel_rfl) (fun _ _ _ h => h) (by rw [← HQC.out]; exact yieldsIf_load_mid (by rfl) 33 (.tmp 9) rfl g9 0 rfl (portCells D.p (.slice va D.p.ships.length vc)) _ (fun W hW => hW.out.whole) Tryz.underlying33 rfl (portInfo D.p (.slice va D.p.ships.length vc) h4)) hHeld ?_
        simp only [Act.put, List.setIfInBounds_toArray, List.set_cons_zero, List.set_cons_succ]
        refine wpAnyH_take (i := 1) (oi := { dst := some 94, op := Go.Op.move (Go.Operand.tmp 0), type := 22, pos := "top.go:117", after := #[], guard := none }) (v := ?_) rfl (by kernel_rfl) (by kernel_rfl) (by kernel_rfl) (fun _ _ _ h => h) (Or.inl ⟨by rfl, ?_⟩) hHeld ?_
        rotate_left
        · (intro w hSw; first | (go_simp; done) | (go_simp; with_reducible rfl))
        simp only [Act.put, List.setIfInBounds_toArray, List.set_cons_zero, List.set_cons_succ]
        refine wpAnyH_ready (rs := [2]) (by kernel_rfl) (by simp) ?_
        refine AllReadyH.cons rfl (fun K hK => ?_) AllReadyH.nil
        go_simp
        refine (deskPlan_any d D _ ED.out.ds.dsk ED.out.ds.ok).mono ?_
        rintro e wn ⟨vn, rfl, hn'⟩
        obtain ⟨pm, m1, m2, m3⟩ := hn'.out
        obtain ⟨na, nc, hvn⟩ := (RowT.own m2).shape
        subst hvn
        have EA : Hid (LtS w g9 gw gp d D pw wa wc pa pc pl (.slice va D.p.ships.length vc) wn ∧ PlanIs D.p pm ∧ RowT 3 cInt wn (.slice na pm.length nc) pm) := ⟨ED.out.later m3, m1, RowT.own m2⟩
        clear hn' m1 m2 m3 ED hHeld
        go_wp2_with fail
        refine hK.out _ _ EA.out.1.box (fun hHeld => ?_)
        clear hK K hHeld
        try ((try dsimp only); simp only [Act.put, List.setIfInBounds_toArray, List.set_cons_zero, List.set_cons_succ])
        refine wpAnyH_ready (rs := [3]) (by kernel_rfl) (by simp) ?_
        refine AllReadyH.cons rfl (fun K hK => ?_) AllReadyH.nil
        refine step_store_box rfl (.tmp 3) (.tmp 93) rfl gw pw D.p (.slice wa pw.ships.length wc) (.slice va D.p.ships.length vc) (by simp [Act.eval, Act.put]) (by rw [HQC.out]; simp [Act.eval, Act.put]) EA.out.1.cap.box h4 rfl rfl ?_
        intro wb hb
        have hne : gw ≠ gp := ne_typed EA.out.1.cap.box.2 EA.out.1.cap.var (by decide)
        have hn9 : g9 ≠ gw := by have := HG9.out; omega
        have hvar : wb.heap[gp]? = some (.cells #[.slice pa pl.length pc] 35 (0, 0)) := by rw [hb.out.2.1 gp (fun e => hne e.symm)]; exact EA.out.1.cap.var
        have H9 : Hid (PBox wb g9 D.p (.slice va D.p.ships.length vc)) := ⟨EA.out.1.box.1, by rw [hb.out.2.1 g9 hn9]; exact EA.out.1.box.2⟩
        refine hK.out _ _ H9 (fun hHeld => ?_)
        clear hK K hHeld
        try ((try dsimp only); simp only [Act.put, List.setIfInBounds_toArray, List.set_cons_zero, List.set_cons_succ])
        have hc4 : wb.cell? ⟨gp, 0, none⟩ = some (.slice pa pl.length pc) := cell_of_row _ _ _ _ _ _ hvar
        have hf4 : wb.frozen? ⟨gp, 0, none⟩ = false := by simp [World.frozen?, hvar]
        have FIN : Hid (DS (wb.setCell ⟨gp, 0, none⟩ (.slice na pm.length nc)) d D ∧ (∃ wa' wc' pa' pc' pl', CapS gw gp D.p wa' wc' pa' pc' pl' (wb.setCell ⟨gp, 0, none⟩ (.slice na pm.length nc)) ∧ PlanIs D.p pl') ∧ (∀ B, B ≤ gw → B ≤ gp → Below B w (wb.setCell ⟨gp, 0, none⟩ (.slice na pm.length nc))) ∧ ∀ k, k ≠ gw → k ≠ gp → k < g7 → (wb.setCell ⟨gp, 0, none⟩ (.slice na pm.length nc)).heap[k]? = w.heap[k]?) := by
          have hs : ∀ k, k ≠ gw → k ≠ gp → (wb.setCell ⟨gp, 0, none⟩ (.slice na pm.length nc)).heap[k]? = wn.heap[k]? := fun k h1 h2 => (Below.heap_setCell _ _ _ _ h2).trans (hb.out.2.1 k h1)
          have key : ∀ (j : Nat) cur t f, wn.heap[j]? = some (Obj.cells cur t f) → (t = 51 ∨ t = 3) → (wb.setCell ⟨gp, 0, none⟩ (.slice na pm.length nc)).heap[j]? = wn.heap[j]? := fun j cur t f hj ht => hs j (ne_typed hj EA.out.1.cap.box.2 (by rcases ht with rfl | rfl <;> decide)) (ne_typed hj EA.out.1.cap.var (by rcases ht with rfl | rfl <;> decide))
          refine ⟨EA.out.1.ds.kept hgw hgp hug EA.out.1.cap.box.2 EA.out.1.cap.var hs, ⟨va, vc, na, nc, pm, ⟨⟨h4, (Below.heap_setCell _ _ _ _ hne).trans hb.out.1.2⟩, EA.out.1.ships.same fun k cur f hk => key k cur _ f hk (Or.inl rfl), ?_, EA.out.2.2.same fun k cur f hk => key k cur _ f hk (Or.inr rfl)⟩, EA.out.2.1⟩, ?_, fun k h1 h2 h3 => (hs k h1 h2).trans (EA.out.1.below.block k (by rw [hg7]; exact h3))⟩
          · rw [setCell_eq_setRow wb gp 0 _ _ _ _ hvar, setRow_heap wb gp _ _ _ _ hvar]
            rfl
          · intro B h1 h2
            exact ((EA.out.1.below.mono (by rw [hg7]; omega)).trans (hb.out.2.2 B h1)).setCell h2 _
        clear EA hb hvar hne hn9
        refine wpAnyH_ready (rs := [4]) (by kernel_rfl) (by simp) ?_
        refine AllReadyH.cons rfl (fun K hK => ?_) AllReadyH.nil
        go_simp
        refine hK.out _ _ ⟨H9.out.1, (Below.heap_setCell _ _ _ _ (by have := HG9.out; show g9 ≠ gp; omega)).trans H9.out.2⟩ (fun hHeld => ?_)
        clear hK K
        refine wpAnyH_done (by kernel_rfl) ?_ _
        clear hHeld H9 hc4 hf4
        go_wp2_with fail
        go_ret
        exact ⟨rfl, by rw [hg7]; exact FIN⟩
  · have E8 : Hid (LtS w g9 gw gp d D pw wa wc pa pc pl (.slice va D.p.ships.length vc) w6) := E6.out.1
    clear HM PI E6 pc1
    by_cases k0 : er5 = 0
    · subst k0
      by_cases k1 : o.kd = 9
      · have e9 : (o.kd == 9) = true := by simp [k1]
        have e0 : (er == 0) = false := by simp; intro h; exact hall ⟨rfl, k1, h⟩
        clear hall k1
        go_upto_region 10 with fail
        clear oc r0
        have ED : Hid (LtS w g9 gw gp d D pw wa wc pa pc pl (.slice va D.p.ships.length vc) w6.drew) := E8.out.later (Below.refl _ _).drew
        clear E8
        refine wp_region_held_drew (S := fun W => Hid (PBox W g9 D.p (.slice va D.p.ships.length vc))) (by kernel_rfl) ED.out.box (fun hHeld => ?_)
        refine wpAnyH_take (i := 0) (oi := { dst := some 93, op := Go.Op.load 33 (Go.Operand.tmp 9), type := 33, pos := "top.go:117", after := #[], guard := none }) (v := .agg QC) rfl (by kernel_rfl) (by kernel_rfl) (by kernel_rfl) (fun _ _ _ h => h) (by rw [← HQC.out]; exact yieldsIf_load_mid (by rfl) 33 (.tmp 9) rfl g9 0 rfl (portCells D.p (.slice va D.p.ships.length vc)) _ (fun W hW => hW.out.whole) Tryz.underlying33 rfl (portInfo D.p (.slice va D.p.ships.length vc) h4)) hHeld ?_
        simp only [Act.put, List.setIfInBounds_toArray, List.set_cons_zero, List.set_cons_succ]
        refine wpAnyH_take (i := 1) (oi := { dst := some 94, op := Go.Op.move (Go.Operand.tmp 0), type := 22, pos := "top.go:117", after := #[], guard := none }) (v := ?_) rfl (by kernel_rfl) (by kernel_rfl) (by kernel_rfl) (fun _ _ _ h => h) (Or.inl ⟨by rfl, ?_⟩) hHeld ?_
        rotate_left
        · (intro w hSw; first | (go_simp; done) | (go_simp; with_reducible rfl))
        simp only [Act.put, List.setIfInBounds_toArray, List.set_cons_zero, List.set_cons_succ]
        refine wpAnyH_ready (rs := [2]) (by kernel_rfl) (by simp) ?_
        refine AllReadyH.cons rfl (fun K hK => ?_) AllReadyH.nil
        go_simp
        refine (deskPlan_any d D _ ED.out.ds.dsk ED.out.ds.ok).mono ?_
        rintro e wn ⟨vn, rfl, hn'⟩
        obtain ⟨pm, m1, m2, m3⟩ := hn'.out
        obtain ⟨na, nc, hvn⟩ := (RowT.own m2).shape
        subst hvn
        have EA : Hid (LtS w g9 gw gp d D pw wa wc pa pc pl (.slice va D.p.ships.length vc) wn ∧ PlanIs D.p pm ∧ RowT 3 cInt wn (.slice na pm.length nc) pm) := ⟨ED.out.later m3, m1, RowT.own m2⟩
        clear hn' m1 m2 m3 ED hHeld
        go_wp2_with fail
        refine hK.out _ _ EA.out.1.box (fun hHeld => ?_)
        clear hK K hHeld
        try ((try dsimp only); simp only [Act.put, List.setIfInBounds_toArray, List.set_cons_zero, List.set_cons_succ])
        refine wpAnyH_ready (rs := [3]) (by kernel_rfl) (by simp) ?_
        refine AllReadyH.cons rfl (fun K hK => ?_) AllReadyH.nil
        refine step_store_box rfl (.tmp 3) (.tmp 93) rfl gw pw D.p (.slice wa pw.ships.length wc) (.slice va D.p.ships.length vc) (by simp [Act.eval, Act.put]) (by rw [HQC.out]; simp [Act.eval, Act.put]) EA.out.1.cap.box h4 rfl rfl ?_
        intro wb hb
        have hne : gw ≠ gp := ne_typed EA.out.1.cap.box.2 EA.out.1.cap.var (by decide)
        have hn9 : g9 ≠ gw := by have := HG9.out; omega
        have hvar : wb.heap[gp]? = some (.cells #[.slice pa pl.length pc] 35 (0, 0)) := by rw [hb.out.2.1 gp (fun e => hne e.symm)]; exact EA.out.1.cap.var
        have H9 : Hid (PBox wb g9 D.p (.slice va D.p.ships.length vc)) := ⟨EA.out.1.box.1, by rw [hb.out.2.1 g9 hn9]; exact EA.out.1.box.2⟩
        refine hK.out _ _ H9 (fun hHeld => ?_)
        clear hK K hHeld
        try ((try dsimp only); simp only [Act.put, List.setIfInBounds_toArray, List.set_cons_zero, List.set_cons_succ])
        have hc4 : wb.cell? ⟨gp, 0, none⟩ = some (.slice pa pl.length pc) := cell_of_row _ _ _ _ _ _ hvar
        have hf4 : wb.frozen? ⟨gp, 0, none⟩ = false := by simp [World.frozen?, hvar]
        have FIN : Hid (DS (wb.setCell ⟨gp, 0, none⟩ (.slice na pm.length nc)) d D ∧ (∃ wa' wc' pa' pc' pl', CapS gw gp D.p wa' wc' pa' pc' pl' (wb.setCell ⟨gp, 0, none⟩ (.slice na pm.length nc)) ∧ PlanIs D.p pl') ∧ (∀ B, B ≤ gw → B ≤ gp → Below B w (wb.setCell ⟨gp, 0, none⟩ (.slice na pm.length nc))) ∧ ∀ k, k ≠ gw → k ≠ gp → k < g7 → (wb.setCell ⟨gp, 0, none⟩ (.slice na pm.length nc)).heap[k]? = w.heap[k]?) := by
          have hs : ∀ k, k ≠ gw → k ≠ gp → (wb.setCell ⟨gp, 0, none⟩ (.slice na pm.length nc)).heap[k]? = wn.heap[k]? := fun k h1 h2 => (Below.heap_setCell _ _ _ _ h2).trans (hb.out.2.1 k h1)
          have key : ∀ (j : Nat) cur t f, wn.heap[j]? = some (Obj.cells cur t f) → (t = 51 ∨ t = 3) → (wb.setCell ⟨gp, 0, none⟩ (.slice na pm.length nc)).heap[j]? = wn.heap[j]? := fun j cur t f hj ht => hs j (ne_typed hj EA.out.1.cap.box.2 (by rcases ht with rfl | rfl <;> decide)) (ne_typed hj EA.out.1.cap.var (by rcases ht with rfl | rfl <;> decide))
          refine ⟨EA.out.1.ds.kept hgw hgp hug EA.out.1.cap.box.2 EA.out.1.cap.var hs, ⟨va, vc, na, nc, pm, ⟨⟨h4, (Below.heap_setCell _ _ _ _ hne).trans hb.out.1.2⟩, EA.out.1.ships.same fun k cur f hk => key k cur _ f hk (Or.inl rfl), ?_, EA.out.2.2.same fun k cur f hk => key k cur _ f hk (Or.inr rfl)⟩, EA.out.2.1⟩, ?_, fun k h1 h2 h3 => (hs k h1 h2).trans (EA.out.1.below.block k (by rw [hg7]; exact h3))⟩
          · rw [setCell_eq_setRow wb gp 0 _ _ _ _ hvar, setRow_heap wb gp _ _ _ _ hvar]
            rfl
          · intro B h1 h2
            exact ((EA.out.1.below.mono (by rw [hg7]; omega)).trans (hb.out.2.2 B h1)).setCell h2 _
        clear EA hb hvar hne hn9
        refine wpAnyH_ready (rs := [4]) (by kernel_rfl) (by simp) ?_
        refine AllReadyH.cons rfl (fun K hK => ?_) AllReadyH.nil
        go_simp
        refine hK.out _ _ ⟨H9.out.1, (Below.heap_setCell _ _ _ _ (by have := HG9.out; show g9 ≠ gp; omega)).trans H9.out.2⟩ (fun hHeld => ?_)
        clear hK K
        refine wpAnyH_done (by kernel_rfl) ?_ _
        clear hHeld H9 hc4 hf4
        go_wp2_with fail
        go_ret
        exact ⟨rfl, by rw [hg7]; exact FIN⟩
      · have e9 : (o.kd == 9) = false := by simp [k1]
        clear hall k1
        go_upto_region 10 with fail
        clear oc r0
        have ED : Hid (LtS w g9 gw gp d D pw wa wc pa pc pl (.slice va D.p.ships.length vc) w6.drew) := E8.out.later (Below.refl _ _).drew
        clear E8
        refine wp_region_held_drew (S := fun W => Hid (PBox W g9 D.p (.slice va D.p.ships.length vc))) (by kernel_rfl) ED.out.box (fun hHeld => ?_)
        refine wpAnyH_take (i := 0) (oi := { dst := some 93, op := Go.Op.load 33 (Go.Operand.tmp 9), type := 33, pos := "top.go:117", after := #[], guard := none }) (v := .agg QC) rfl (by kernel_rfl) (by kernel_rfl) (by kernel_rfl) (fun _ _ _ h => h) (by rw [← HQC.out]; exact yieldsIf_load_mid (by rfl) 33 (.tmp 9) rfl g9 0 rfl (portCells D.p (.slice va D.p.ships.length vc)) _ (fun W hW => hW.out.whole) Tryz.underlying33 rfl (portInfo D.p (.slice va D.p.ships.length vc) h4)) hHeld ?_
        simp only [Act.put, List.setIfInBounds_toArray, List.set_cons_zero, List.set_cons_succ]
        refine wpAnyH_take (i := 1) (oi := { dst := some 94, op := Go.Op.move (Go.Operand.tmp 0), type := 22, pos := "top.go:117", after := #[], guard := none }) (v := ?_) rfl (by kernel_rfl) (by kernel_rfl) (by kernel_rfl) (fun _ _ _ h => h) (Or.inl ⟨by rfl, ?_⟩) hHeld ?_
        rotate_left
        · (intro w hSw; first | (go_simp; done) | (go_simp; with_reducible rfl))
        simp only [Act.put, List.setIfInBounds_toArray, List.set_cons_zero, List.set_cons_succ]
        refine wpAnyH_ready (rs := [2]) (by kernel_rfl) (by simp) ?_
        refine AllReadyH.cons rfl (fun K hK => ?_) AllReadyH.nil
        go_simp
        refine (deskPlan_any d D _ ED.out.ds.dsk ED.out.ds.ok).mono ?_
        rintro e wn ⟨vn, rfl, hn'⟩
        obtain ⟨pm, m1, m2, m3⟩ := hn'.out
        obtain ⟨na, nc, hvn⟩ := (RowT.own m2).shape
        subst hvn
        have EA : Hid (LtS w g9 gw gp d D pw wa wc pa pc pl (.slice va D.p.ships.length vc) wn ∧ PlanIs D.p pm ∧ RowT 3 cInt wn (.slice na pm.length nc) pm) := ⟨ED.out.later m3, m1, RowT.own m2⟩
        clear hn' m1 m2 m3 ED hHeld
        go_wp2_with fail
        refine hK.out _ _ EA.out.1.box (fun hHeld => ?_)
        clear hK K hHeld
        try ((try dsimp only); simp only [Act.put, List.setIfInBounds_toArray, List.set_cons_zero, List.set_cons_succ])
        refine wpAnyH_ready (rs := [3]) (by kernel_rfl) (by simp) ?_
        refine AllReadyH.cons rfl (fun K hK => ?_) AllReadyH.nil
        refine step_store_box rfl (.tmp 3) (.tmp 93) rfl gw pw D.p (.slice wa pw.ships.length wc) (.slice va D.p.ships.length vc) (by simp [Act.eval, Act.put]) (by rw [HQC.out]; simp [Act.eval, Act.put]) EA.out.1.cap.box h4 rfl rfl ?_
        intro wb hb
        have hne : gw ≠ gp := ne_typed EA.out.1.cap.box.2 EA.out.1.cap.var (by decide)
        have hn9 : g9 ≠ gw := by have := HG9.out; omega
        have hvar : wb.heap[gp]? = some (.cells #[.slice pa pl.length pc] 35 (0, 0)) := by rw [hb.out.2.1 gp (fun e => hne e.symm)]; exact EA.out.1.cap.var
        have H9 : Hid (PBox wb g9 D.p (.slice va D.p.ships.length vc)) := ⟨EA.out.1.box.1, by rw [hb.out.2.1 g9 hn9]; exact EA.out.1.box.2⟩
        refine hK.out _ _ H9 (fun hHeld => ?_)
        clear hK K hHeld
        try ((try dsimp only); simp only [Act.put, List.setIfInBounds_toArray, List.set_cons_zero, List.set_cons_succ])
        have hc4 : wb.cell? ⟨gp, 0, none⟩ = some (.slice pa pl.length pc) := cell_of_row _ _ _ _ _ _ hvar
        have hf4 : wb.frozen? ⟨gp, 0, none⟩ = false := by simp [World.frozen?, hvar]
        have FIN : Hid (DS (wb.setCell ⟨gp, 0, none⟩ (.slice na pm.length nc)) d D ∧ (∃ wa' wc' pa' pc' pl', CapS gw gp D.p wa' wc' pa' pc' pl' (wb.setCell ⟨gp, 0, none⟩ (.slice na pm.length nc)) ∧ PlanIs D.p pl') ∧ (∀ B, B ≤ gw → B ≤ gp → Below B w (wb.setCell ⟨gp, 0, none⟩ (.slice na pm.length nc))) ∧ ∀ k, k ≠ gw → k ≠ gp → k < g7 → (wb.setCell ⟨gp, 0, none⟩ (.slice na pm.length nc)).heap[k]? = w.heap[k]?) := by
          have hs : ∀ k, k ≠ gw → k ≠ gp → (wb.setCell ⟨gp, 0, none⟩ (.slice na pm.length nc)).heap[k]? = wn.heap[k]? := fun k h1 h2 => (Below.heap_setCell _ _ _ _ h2).trans (hb.out.2.1 k h1)
          have key : ∀ (j : Nat) cur t f, wn.heap[j]? = some (Obj.cells cur t f) → (t = 51 ∨ t = 3) → (wb.setCell ⟨gp, 0, none⟩ (.slice na pm.length nc)).heap[j]? = wn.heap[j]? := fun j cur t f hj ht => hs j (ne_typed hj EA.out.1.cap.box.2 (by rcases ht with rfl | rfl <;> decide)) (ne_typed hj EA.out.1.cap.var (by rcases ht with rfl | rfl <;> decide))
          refine ⟨EA.out.1.ds.kept hgw hgp hug EA.out.1.cap.box.2 EA.out.1.cap.var hs, ⟨va, vc, na, nc, pm, ⟨⟨h4, (Below.heap_setCell _ _ _ _ hne).trans hb.out.1.2⟩, EA.out.1.ships.same fun k cur f hk => key k cur _ f hk (Or.inl rfl), ?_, EA.out.2.2.same fun k cur f hk => key k cur _ f hk (Or.inr rfl)⟩, EA.out.2.1⟩, ?_, fun k h1 h2 h3 => (hs k h1 h2).trans (EA.out.1.below.block k (by rw [hg7]; exact h3))⟩
          · rw [setCell_eq_setRow wb gp 0 _ _ _ _ hvar, setRow_heap wb gp _ _ _ _ hvar]
            rfl
          · intro B h1 h2
            exact ((EA.out.1.below.mono (by rw [hg7]; omega)).trans (hb.out.2.2 B h1)).setCell h2 _
        clear EA hb hvar hne hn9
        refine wpAnyH_ready (rs := [4]) (by kernel_rfl) (by simp) ?_
        refine AllReadyH.cons rfl (fun K hK => ?_) AllReadyH.nil
        go_simp
        refine hK.out _ _ ⟨H9.out.1, (Below.heap_setCell _ _ _ _ (by have := HG9.out; show g9 ≠ gp; omega)).trans H9.out.2⟩ (fun hHeld => ?_)
        clear hK K
        refine wpAnyH_done (by kernel_rfl) ?_ _
        clear hHeld H9 hc4 hf4
        go_wp2_with fail
        go_ret
        exact ⟨rfl, by rw [hg7]; exact FIN⟩
    · have e5 : (er5 == 0) = false := by simp [k0]
      clear hall k0
      go_upto_region 10 with fail
      clear oc r0
      have ED : Hid (LtS w g9 gw gp d D pw wa wc pa pc pl (.slice va D.p.ships.length vc) w6.drew) := E8.out.later (Below.refl _ _).drew
      clear E8
      refine wp_region_held_drew (S := fun W => Hid (PBox W g9 D.p (.slice va D.p.ships.length vc))) (by kernel_rfl) ED.out.box (fun hHeld => ?_)
      refine wpAnyH_take (i := 0) (oi := { dst := some 93, op := Go.Op.load 33 (Go.Operand.tmp 9), type := 33, pos := "top.go:117", after := #[], guard := none }) (v := .agg QC) rfl (by kernel_rfl) (by kernel_rfl) (by kernel_rfl) (fun _ _ _ h => h) (by rw [← HQC.out]; exact yieldsIf_load_mid (by rfl) 33 (.tmp 9) rfl g9 0 rfl (portCells D.p (.slice va D.p.ships.length vc)) _ (fun W hW => hW.out.whole) Tryz.underlying33 rfl (portInfo D.p (.slice va D.p.ships.length vc) h4)) hHeld ?_
      simp only [Act.put, List.setIfInBounds_toArray, List.set_cons_zero, List.set_cons_succ]
      refine wpAnyH_take (i := 1) (oi := { dst := some 94, op := Go.Op.move (Go.Operand.tmp 0), type := 22, pos := "top.go:117", after := #[], guard := none }) (v := ?_) rfl (by kernel_rfl) (by kernel_rfl) (by kernel_rfl) (fun _ _ _ h => h) (Or.inl ⟨by rfl, ?_⟩) hHeld ?_
      rotate_left
      · (intro w hSw; first | (go_simp; done) | (go_simp; with_reducible rfl))
      simp only [Act.put, List.setIfInBounds_toArray, List.set_cons_zero, List.set_cons_succ]
      refine wpAnyH_ready (rs := [2]) (by kernel_rfl) (by simp) ?_
      refine AllReadyH.cons rfl (fun K hK => ?_) AllReadyH.nil
      go_simp
      refine (deskPlan_any d D _ ED.out.ds.dsk ED.out.ds.ok).mono ?_
      rintro e wn ⟨vn, rfl, hn'⟩
      obtain ⟨pm, m1, m2, m3⟩ := hn'.out
      obtain ⟨na, nc, hvn⟩ := (RowT.own m2).shape
      subst hvn
      have EA : Hid (LtS w g9 gw gp d D pw wa wc pa pc pl (.slice va D.p.ships.length vc) wn ∧ PlanIs D.p pm ∧ RowT 3 cInt wn (.slice na pm.length nc) pm) := ⟨ED.out.later m3, m1, RowT.own m2⟩
      clear hn' m1 m2 m3 ED hHeld
      go_wp2_with fail
      refine hK.out _ _ EA.out.1.box (fun hHeld => ?_)
      clear hK K hHeld
      try ((try dsimp only); simp only [Act.put, List.setIfInBounds_toArray, List.set_cons_zero, List.set_cons_succ])
      refine wpAnyH_ready (rs := [3]) (by kernel_rfl) (by simp) ?_
      refine AllReadyH.cons rfl (fun K hK => ?_) AllReadyH.nil
      refine step_store_box rfl (.tmp 3) (.tmp 93) rfl gw pw D.p (.slice wa pw.ships.length wc) (.slice va D.p.ships.length vc) (by simp [Act.eval, Act.put]) (by rw [HQC.out]; simp [Act.eval, Act.put]) EA.out.1.cap.box h4 rfl rfl ?_
      intro wb hb
      have hne : gw ≠ gp := ne_typed EA.out.1.cap.box.2 EA.out.1.cap.var (by decide)
      have hn9 : g9 ≠ gw := by have := HG9.out; omega
      have hvar : wb.heap[gp]? = some (.cells #[.slice pa pl.length pc] 35 (0, 0)) := by rw [hb.out.2.1 gp (fun e => hne e.symm)]; exact EA.out.1.cap.var
      have H9 : Hid (PBox wb g9 D.p (.slice va D.p.ships.length vc)) := ⟨EA.out.1.box.1, by rw [hb.out.2.1 g9 hn9]; exact EA.out.1.box.2⟩
      refine hK.out _ _ H9 (fun hHeld => ?_)
      clear hK K hHeld
      try ((try dsimp only); simp only [Act.put, List.setIfInBounds_toArray, List.set_cons_zero, List.set_cons_succ])
      have hc4 : wb.cell? ⟨gp, 0, none⟩ = some (.slice pa pl.length pc) := cell_of_row _ _ _ _ _ _ hvar
      have hf4 : wb.frozen? ⟨gp, 0, none⟩ = false := by simp [World.frozen?, hvar]
      have FIN : Hid (DS (wb.setCell ⟨gp, 0, none⟩ (.slice na pm.length nc)) d D ∧ (∃ wa' wc' pa' pc' pl', CapS gw gp D.p wa' wc' pa' pc' pl' (wb.setCell ⟨gp, 0, none⟩ (.slice na pm.length nc)) ∧ PlanIs D.p pl') ∧ (∀ B, B ≤ gw → B ≤ gp → Below B w (wb.setCell ⟨gp, 0, none⟩ (.slice na pm.length nc))) ∧ ∀ k, k ≠ gw → k ≠ gp → k < g7 → (wb.setCell ⟨gp, 0, none⟩ (.slice na pm.length nc)).heap[k]? = w.heap[k]?) := by
        have hs : ∀ k, k ≠ gw → k ≠ gp → (wb.setCell ⟨gp, 0, none⟩ (.slice na pm.length nc)).heap[k]? = wn.heap[k]? := fun k h1 h2 => (Below.heap_setCell _ _ _ _ h2).trans (hb.out.2.1 k h1)
        have key : ∀ (j : Nat) cur t f, wn.heap[j]? = some (Obj.cells cur t f) → (t = 51 ∨ t = 3) → (wb.setCell ⟨gp, 0, none⟩ (.slice na pm.length nc)).heap[j]? = wn.heap[j]? := fun j cur t f hj ht => hs j (ne_typed hj EA.out.1.cap.box.2 (by rcases ht with rfl | rfl <;> decide)) (ne_typed hj EA.out.1.cap.var (by rcases ht with rfl | rfl <;> decide))
        refine ⟨EA.out.1.ds.kept hgw hgp hug EA.out.1.cap.box.2 EA.out.1.cap.var hs, ⟨va, vc, na, nc, pm, ⟨⟨h4, (Below.heap_setCell _ _ _ _ hne).trans hb.out.1.2⟩, EA.out.1.ships.same fun k cur f hk => key k cur _ f hk (Or.inl rfl), ?_, EA.out.2.2.same fun k cur f hk => key k cur _ f hk (Or.inr rfl)⟩, EA.out.2.1⟩, ?_, fun k h1 h2 h3 => (hs k h1 h2).trans (EA.out.1.below.block k (by rw [hg7]; exact h3))⟩
        · rw [setCell_eq_setRow wb gp 0 _ _ _ _ hvar, setRow_heap wb gp _ _ _ _ hvar]
          rfl
        · intro B h1 h2
          exact ((EA.out.1.below.mono (by rw [hg7]; omega)).trans (hb.out.2.2 B h1)).setCell h2 _
      clear EA hb hvar hne hn9
      refine wpAnyH_ready (rs := [4]) (by kernel_rfl) (by simp) ?_
      refine AllReadyH.cons rfl (fun K hK => ?_) AllReadyH.nil
      go_simp
      refine hK.out _ _ ⟨H9.out.1, (Below.heap_setCell _ _ _ _ (by have := HG9.out; show g9 ≠ gp; omega)).trans H9.out.2⟩ (fun hHeld => ?_)
      clear hK K
      refine wpAnyH_done (by kernel_rfl) ?_ _
      clear hHeld H9 hc4 hf4
      go_wp2_with fail
      go_ret
      exact ⟨rfl, by rw [hg7]; exact FIN⟩
structure SsS (B gw gp : Nat) (w0 : World) (d k : Nat) (D0 D : Dk) (W : World) : Prop where
  ds : DS W d D
  cap : ∃ pw wa wc pa pc pl, CapS gw gp pw wa wc pa pc pl W ∧ (pw.ships = [] ∨ (pw = D0.p ∧ PlanIs D0.p pl)) ∧ pw.ships.length < 15
  new : w0.heap.size ≤ d
  below : Below B w0 W
  n : D.n ≤ k
theorem CapS.told {gw gp d : Nat} {pw : Pt} {wa pa : Option Addr} {wc pc : Nat} {pl : List Int} {W W' : World} {D : Dk} (h : CapS gw gp pw wa wc pa pc pl W) (hD : DS W d D) (hf : Fr d W W') (hw : gw ≠ d) (hp : gp ≠ d) : CapS gw gp pw wa wc pa pc pl W' :=
  ⟨h.box.told hf hw, h.ships.told hD hf (by decide), by rw [hf.rest gp hp h.lt]; exact h.var, h.row.told hD hf (by decide)⟩
theorem playStarts_any (v : Value) (l : List (List UInt8)) (w : World) (B gw gp : Nat) (hL : LW w) (hBw : B ≤ gw) (hBp : B ≤ gp) (hgw : gw < w.heap.size) (hgp : gp < w.heap.size) (hug : ∀ u ∈ usedG, u < gw ∧ u < gp) (hsl : ∀ W, Below B w W → SlK cStr W v l) (hln : ∀ y ∈ l, y.length ≤ 9223372036854775807) (hll : l.length ≤ 8796093022208) (hC : CapS gw gp zeroPt none 0 none 0 [] w) :
    Calls Tryz.prog 16 #[v, .func (.func 24) #[] #[.pointer (some ⟨gw, 0, none⟩), .pointer (some ⟨gp, 0, none⟩)]] w fun e w' => ∃ d, e = .returned (.tuple #[.pointer (some ⟨d, 0, none⟩), .bool true]) ∧ Hid (Below B w w') := by
  refine (playS_any (.pointer (some ⟨gw, 0, none⟩)) (.pointer (some ⟨gp, 0, none⟩)) v l w B hL (by omega) hsl hln hll
    (fun W d D k => SsS B gw gp w d k D D W) (fun W d D k er n => ∃ D0 s, l[k]? = some s ∧ LineIs D0 s D er n ∧ DOk D0 ∧ D0.n < 250 ∧ SsS B gw gp w d (k + 1) D0 D W)
    (fun W d h1 h2 h3 => ⟨h3, ⟨zeroPt, none, 0, none, 0, [], hC.later h1, Or.inl rfl, by decide⟩, h2, h1.mono (by omega), by show (0 : Int) ≤ _; omega⟩)
    (fun W d D k h => ⟨h.ds, by have := h.new; omega, h.below⟩)
    (fun W W' d D D' k s er n h hk h80 hl hds hf => ⟨D, s, hk, hl, h.ds.ok, by have := h.n; omega, ⟨hds, by
      obtain ⟨pw, wa, wc, pa, pc, pl, h1, h2, h3⟩ := h.cap
      exact ⟨pw, wa, wc, pa, pc, pl, h1.told h.ds hf (by have := h.new; omega) (by have := h.new; omega), h2, h3⟩, h.new, h.below.trans (hf.below.mono (by have := h.new; omega)), by
      have h1 := (lineIs_ok h.ds.ok hl).2 (by have := h.n; omega)
      have := h.n
      rw [h1]; omega⟩⟩)
    (fun W d D k er n h => by obtain ⟨_, _, _, _, _, _, h⟩ := h; exact ⟨h.ds, by have := h.new; omega, h.below⟩)
    (fun W W' d D k er n h hb => by
      obtain ⟨D0, s, h1, h2, h3, h4, h⟩ := h
      obtain ⟨pw, wa, wc, pa, pc, pl, c1, c2, c3⟩ := h.cap
      exact ⟨D0, s, h1, h2, h3, h4, ⟨h.ds.later hb, ⟨pw, wa, wc, pa, pc, pl, c1.later hb, c2, c3⟩, h.new, h.below.trans (hb.mono (by have := h.below.size; omega)), h.n⟩⟩)
    (fun W d D k s er n h hk _ => by
      obtain ⟨D0, s', h1, h2, h3, h4, h⟩ := h
      rw [hk] at h1
      injection h1 with h1
      subst h1
      obtain ⟨pw, wa, wc, pa, pc, pl, c1, c2, c3⟩ := h.cap
      refine (lookStarts_any d gw gp D0 D s er n W pw wa pa wc pc pl h.ds c1 c2 h3 h4 h2 (hln s (List.mem_of_getElem? hk)) c3 (by have := h.new; omega) (by have := h.new; omega) hug).mono ?_
      rintro e W' ⟨rfl, hF⟩
      obtain ⟨k1, ⟨wa', wc', pa', pc', pl', k2, k3⟩, k4, k5⟩ := hF.out
      refine ⟨rfl, ⟨k1, ⟨D.p, wa', wc', pa', pc', pl', k2, Or.inr ⟨rfl, k3⟩, k1.ok.port.port.len⟩, h.new, h.below.trans (k4 B hBw hBp), h.n⟩, fun g x y hg => ?_⟩
      unfold RB
      rw [k5 g (ne_typed hg c1.box.2 (by decide)) (ne_typed hg c1.var (by decide)) hg.lt]
      exact hg)).mono ?_
  rintro e w' ⟨d, rfl, h⟩
  obtain ⟨D, h⟩ := h.out
  exact ⟨d, rfl, h.below⟩
set_option maxHeartbeats 1000000 in
set_option maxRecDepth 100000 in
theorem topStarts_any (v : Value) (l : List (List UInt8)) (w : World) (hL : LW w) (hs : SlK cStr w v l) (hln : ∀ y ∈ l, y.length ≤ 9223372036854775807) (hll : l.length ≤ 8796093022208) :
    Calls Tryz.prog 6 #[v] w fun e w' => e = .returned (.bool true) ∧ Below w.heap.size w w' := by
  have HP := fun (W : World) (gw gp : Nat) h1 h2 h3 h4 h5 h6 h7 h8 => playStarts_any v l W w.heap.size gw gp h1 h2 h3 h4 h5 h6 h7 hln hll h8
  have SL : Hid (SlK cStr w v l ∧ LW w) := ⟨hs, hL⟩
  have hmf : ∀ (fn : Fn) (first cap : Array Value) (w : World), (Instr.makeFunc fn first cap).run Tryz.prog w = .ok (.func fn first cap) w := fun _ _ _ _ => rfl
  obtain ⟨a, cap, hv⟩ : ∃ a cap, v = .slice a l.length cap := by obtain ⟨a, cap, h, _⟩ := hs; exact ⟨a, cap, h⟩
  subst hv
  clear hL hs hln
  go_enter Tryz.func6, Tryz.ntmps6
  go_upto_region 2 with (refine wpList_alloc_box rfl rfl 3 rfl ?_; intro w1 h1 s1)
  have S1 : Hid (w1.heap.size = w.heap.size + 1) := s1
  clear s1
  go_wp2_with fail
  have hb : Below w1.heap.size w1 (w1.alloc (.cells #[.slice none 0 0] 35)) := (Below.refl _ w1).alloc (Nat.le_refl _) _
  have hB : Below w.heap.size w (w1.alloc (.cells #[.slice none 0 0] 35)) := h1.out.2.trans (hb.mono h1.out.2.size)
  have hlt : w1.heap.size < (w1.alloc (.cells #[.slice none 0 0] 35)).heap.size := by simp
  refine (HP _ w.heap.size w1.heap.size (SL.out.2.later hB) (Nat.le_refl _) h1.out.2.size (by have := S1.out; omega) hlt (fun u hu => ⟨SL.out.2.lt u hu, by have := SL.out.2.lt u hu; have := S1.out; omega⟩) (fun W hW => slK_below SL.out.1 (Nat.le_refl _) (hB.trans hW)) ⟨h1.out.1.later hb h1.out.1.lt, RowT.nil _ _ _, heap_alloc_new w1 _, RowT.nil _ _ _⟩).mono ?_
  rintro e w2 ⟨d, rfl, h2⟩
  have B2 : Hid (Below w.heap.size w w2) := hB.trans h2.out
  clear h2 h1 hb hB hlt HP S1
  go_wp2_with fail
  go_ret
  exact ⟨rfl, B2.out⟩
end Go.Proofs.YtcmdoeledmkfmabGreatDoor
