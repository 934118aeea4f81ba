/- A port one time on: Later of package port: P2.10; a ship's end. -/
import Derived.Test.YtghhegajbehpeaaPDue
import Derived.Test.YtghhegajbehpeaaPBase
set_option linter.unusedSimpArgs false
set_option linter.unusedVariables false
namespace Go.Proofs.Ytghhegajbehpeaa
open Go.RowKit

set_option maxHeartbeats 1000000 in
theorem depart_any (b o : Nat) (x0 x4 : Int) (w : World) (c0 : w.cell? ⟨b, o, none⟩ = some (.int .i64 x0)) (c4 : w.cell? ⟨b, o + 4, none⟩ = some (.int .i64 x4)) (f0 : w.frozen? ⟨b, o, none⟩ = false) (f4 : w.frozen? ⟨b, o + 4, none⟩ = false) :
    Calls Try.prog 78 #[.pointer (some ⟨b, o, none⟩)] w fun e w' => e = .returned (.tuple #[]) ∧ w' = (w.setCell ⟨b, o, none⟩ (.int .i64 4)).setCell ⟨b, o + 4, none⟩ (.int .i64 0) := by
  go_enter Try.func78, Try.ntmps78
  go_wp2_with fail
  go_end0
  exact ⟨rfl, rfl⟩

/-- what Later answers -/
def LaterIs (p : Pt) (er : Int) (q : Pt) : Prop := (¬ IsPort p ∧ er = 1 ∧ q = p) ∨ (IsPort p ∧ p.now = 299 ∧ er = 2 ∧ q = p) ∨ (IsPort p ∧ p.now < 299 ∧ er = 0 ∧ q = laterP p)

/-- a port and an error are handed back; the port's ships are a row of the call's own -/
def LaterPost (w : World) (T : Int → Pt → Prop) (e : Ending) (w' : World) : Prop :=
  ∃ (q : Pt) (vs : Value) (er : Int), e = .returned (.tuple #[.agg (portCells q vs).toArray, .int .i64 er]) ∧ T er q ∧ q.kept.length = 4 ∧ q.ships.length ≤ 2932031007317 ∧ w'.ownsRow w.heap.size 48 6 vs q.ships.length (cellsK cShip q.ships) ∧ Below w.heap.size w w'

/-- the memory while Later runs -/
structure LateMem (w : World) (p : Pt) (now : Int) (vn : Value) (g : Nat) (l : List Ship) (W : World) : Prop where
  below : Below w.heap.size w W
  out : PBox W (w.heap.size + 1) zeroPt (.slice none 0 0)
  q : PBox W g { p with now := now } vn
  row : W.ownsRow (w.heap.size + 1 + 1) 48 6 vn l.length (cellsK cShip l)
  lt : ∀ k, vn.ownBlock = some k → k < g
  base : w.heap.size + 1 < g

section
variable {w W W' : World} {p : Pt} {now : Int} {vn : Value} {g : Nat} {l : List Ship}

theorem LateMem.later (h : LateMem w p now vn g l W) (hb : Below W.heap.size W W') : LateMem w p now vn g l W' :=
  ⟨h.below.trans (hb.mono h.below.size), h.out.later hb h.out.lt, h.q.later hb h.q.lt, ownsRow_later h.row hb, h.lt, h.base⟩

theorem LateMem.tick (h : LateMem w p now vn g l W) (n : Int) : LateMem w p n vn g l (W.setCell ⟨g, 0, none⟩ (.int .i64 n)) := by
  have hbs := h.base
  exact ⟨h.below.setCell (by show _ ≤ g; omega) _, h.out.other _ _ (by omega), h.q.setNow n, rowShips_set h.q h.row, h.lt, h.base⟩

theorem LateMem.cell {b n cn : Nat} (h : LateMem w p now (.slice (some ⟨b, 0, none⟩) n cn) g l W) {j : Nat} {s : Ship} (hs : l[j]? = some s) :
    W.cell? ⟨b, j * 6, none⟩ = some (.int .i64 s.st) ∧ W.cell? ⟨b, j * 6 + 2, none⟩ = some (.int .i64 s.lg) ∧ W.cell? ⟨b, j * 6 + 4, none⟩ = some (.int .i64 s.si) ∧ W.frozen? ⟨b, j * 6, none⟩ = false ∧ W.frozen? ⟨b, j * 6 + 4, none⟩ = false := by
  obtain ⟨b', c, e, ho⟩ := OwnK.ofRow h.row (by intro e; cases e)
  injection e with e1 e2 e3
  injection e1 with e1
  injection e1 with e1
  subst e1
  have hr := (ho.rd.ship hs)
  simp only [Nat.zero_add] at hr
  exact ⟨hr.1, hr.2.2.1, hr.2.2.2.2.1, ho.frozen _, ho.frozen _⟩

theorem LateMem.out1 {b n cn : Nat} (h : LateMem w p now (.slice (some ⟨b, 0, none⟩) n cn) g l W) {j : Nat} {s : Ship} (hs : l[j]? = some s) :
    LateMem w p now (.slice (some ⟨b, 0, none⟩) n cn) g (l.set j (outS s)) ((W.setCell ⟨b, j * 6, none⟩ (.int .i64 4)).setCell ⟨b, j * 6 + 4, none⟩ (.int .i64 0)) := by
  have hb0 := (h.row.lt b rfl).1
  have hb1 := h.lt b rfl
  have hbs := h.base
  have hj := (List.getElem?_eq_some_iff.1 hs).1
  have r1 := rowShips_one (i := 0) h.row hs (by decide) (s' := { s with st := 4 }) (x := .int .i64 4) rfl
  have r2 := rowShips_one (i := 4) r1 (List.getElem?_set_self hj) (by decide) (s' := outS s) (x := .int .i64 0) rfl
  rw [List.set_set] at r2
  refine ⟨?_, ?_, ?_, r2, h.lt, h.base⟩
  · exact ((h.below.setCell (p := ⟨b, j * 6, none⟩) (by show _ ≤ b; omega) _).setCell (p := ⟨b, j * 6 + 4, none⟩) (by show _ ≤ b; omega) _)
  · exact (h.out.other (g' := b) (j * 6) (.int .i64 4) (by omega)).other (g' := b) (j * 6 + 4) (.int .i64 0) (by omega)
  · exact (h.q.other (g' := b) (j * 6) (.int .i64 4) (by omega)).other (g' := b) (j * 6 + 4) (.int .i64 0) (by omega)
end

set_option maxHeartbeats 4000000 in
set_option maxRecDepth 100000 in
theorem later_any (v : Value) (p : Pt) (w : World) (hv : PtV w v p) (hq : WfQ p) :
    Calls Try.prog 46 #[v] w fun e w' => LaterPost w (LaterIs p) e w' := by
  obtain ⟨vs, rfl, hsl, h4, hmx⟩ := hv
  have HV : Hid (PtV w (.agg (portCells p vs).toArray) p) := ⟨vs, rfl, hsl, h4, hmx⟩
  have X0 : Hid (PBox (w.alloc (.cells (portCells p vs).toArray 46)) w.heap.size p vs) := PBox.new w p _ h4
  have B0 : Hid (Below w.heap.size w (w.alloc (.cells (portCells p vs).toArray 46))) := (Below.refl _ w).alloc (Nat.le_refl _) _
  have Z0 : Hid ((w.alloc (.cells (portCells p vs).toArray 46)).heap.size = w.heap.size + 1) := by show _ = _; simp
  have HW := fun W h => own_any (.agg (portCells p vs).toArray) p W h
  have HG := fun W h => goodPort_any (.agg (portCells p vs).toArray) p W h hq
  clear hsl hq
  generalize hPC : (portCells p vs).toArray = PC at *
  have HPC : Hid ((portCells p vs).toArray = PC) := hPC
  clear hPC
  go_enter Try.func46, Try.ntmps46
  go_upto_region 1 with (first | (refine wpList_alloc_box rfl rfl 2 rfl ?_; intro w1 hw1 hs1))
  rw [Z0.out] at hw1 hs1
  have T1 : Hid (Below w.heap.size w w1 ∧ PBox w1 w.heap.size p vs ∧ PBox w1 (w.heap.size + 1) zeroPt (.slice none 0 0)) := ⟨B0.out.trans (hw1.out.2.mono (by omega)), X0.out.later hw1.out.2 (by omega), hw1.out.1⟩
  clear hw1 X0 B0 Z0
  go_wp2_with (refine wpList_load_box rfl _ rfl w.heap.size p vs rfl T1.out.2.1 ?_; rw [HPC.out])
  refine (HW _ (HV.out.below T1.out.1)).mono ?_
  rintro e w3 ⟨vn, rfl, hw3⟩
  rw [hs1] at hw3
  have T3 : Hid (Below w.heap.size w w3 ∧ PBox w3 (w.heap.size + 1) zeroPt (.slice none 0 0) ∧ w3.ownsRow (w.heap.size + 1 + 1) 48 6 vn p.ships.length (cellsK cShip p.ships) ∧ w.heap.size + 1 + 1 ≤ w3.heap.size ∧ PBox w3 w.heap.size p vs) := ⟨T1.out.1.trans (hw3.out.2.mono (by omega)), T1.out.2.2.later hw3.out.2 (by omega), hw3.out.1, by have := hw3.out.2.size; omega, T1.out.2.1.later hw3.out.2 (by omega)⟩
  obtain ⟨xn, cn, rfl⟩ := ownsRow_slice T3.out.2.2.1
  have on := ownsRow_one T3.out.2.2.1
  clear T1 hw3 hs1 HW
  go_upto_region 2 with (first | (refine wpList_alloc_box rfl rfl 4 rfl ?_; intro w4 hw4 hs4) | (refine wpList_store_box rfl _ _ rfl w3.heap.size zeroPt p (.slice none 0 0) (.slice xn p.ships.length cn) rfl rfl hw4.out.1 h4 on ?_; intro w5 hw5 hs5))
  have M5 : Hid (LateMem w p p.now (.slice xn p.ships.length cn) w3.heap.size p.ships w5 ∧ PBox w5 w.heap.size p vs) := by
    have hb : Below w3.heap.size w3 w5 := hw4.out.2.trans (hw5.out.2.2 _ (Nat.le_refl _))
    have hz := T3.out.2.2.2.1
    have hbw : Below w.heap.size w w5 := T3.out.1.trans (hb.mono (by omega))
    exact ⟨⟨hbw, T3.out.2.1.later hb (by omega), hw5.out.1, ownsRow_later T3.out.2.2.1 hb, fun k hk => (T3.out.2.2.1.lt k hk).2, by omega⟩, T3.out.2.2.2.2.later hb (by omega)⟩
  generalize w3.heap.size = g at *
  clear hw4 hw5 hs4 hs5 T3 on
  go_wp2_with (refine wpList_load_box rfl _ rfl w.heap.size p vs rfl M5.out.2 ?_; rw [HPC.out])
  refine (HG _ (HV.out.below M5.out.1.below)).mono ?_
  rintro e w6 ⟨⟨b6, rfl, hb6⟩, hw6⟩
  have M6 : Hid (LateMem w p p.now (.slice xn p.ships.length cn) g p.ships w6 ∧ PBox w6 w.heap.size p vs) := ⟨M5.out.1.later hw6, M5.out.2.later hw6 M5.out.2.lt⟩
  have HB : Hid (b6 = true ↔ IsPort p) := hb6
  have on := ownsRow_one M6.out.1.row
  clear M5 hw6 hb6 HG HV
  cases b6
  · have NO : Hid (¬ IsPort p) := fun h => by have := HB.out.2 h; cases this
    go_wp2_with (first | (refine wpList_load_box rfl _ rfl g p (.slice xn p.ships.length cn) rfl M6.out.1.q ?_) | (refine wpList_store_box rfl _ _ rfl (w.heap.size + 1) zeroPt p (.slice none 0 0) (.slice xn p.ships.length cn) rfl rfl M6.out.1.out h4 on ?_; intro w9 hw9 hs9))
    refine bodyPost_ret (v := .tuple #[.agg (portCells p (.slice xn p.ships.length cn)).toArray, .int .i64 1]) (results_box_tmp Try.results46 _ _ (w.heap.size + 1) p (.slice xn p.ships.length cn) rfl hw9.out.1) rfl ?_
    have hbs := M6.out.1.base
    exact ⟨p, _, 1, rfl, Or.inl ⟨NO.out, rfl, rfl⟩, h4, hmx, ownsRow_mono (ownsRow_same M6.out.1.row (fun k hk => hw9.out.2.1 k (by omega))) (by omega), M6.out.1.below.trans (hw9.out.2.2 _ (by omega))⟩
  · have YES : Hid (IsPort p) := HB.out.1 rfl
    obtain ⟨n0, n1⟩ := YES.out.port.now
    have pc0 := M6.out.2.cells.1
    by_cases h9 : p.now = 299
    · have hT : inR (p.now + 1) 0 299 = false := by unfold inR; exact decide_eq_false (by omega)
      go_wp2_with (first | (go_at_call 77; refine (pIsTime _ _).mono ?_; rintro e w' ⟨rfl, rfl⟩) | (refine wpList_load_box rfl _ rfl g p (.slice xn p.ships.length cn) rfl M6.out.1.q ?_) | (refine wpList_store_box rfl _ _ rfl (w.heap.size + 1) zeroPt p (.slice none 0 0) (.slice xn p.ships.length cn) rfl rfl M6.out.1.out h4 on ?_; intro w9 hw9 hs9))
      refine bodyPost_ret (v := .tuple #[.agg (portCells p (.slice xn p.ships.length cn)).toArray, .int .i64 2]) (results_box_tmp Try.results46 _ _ (w.heap.size + 1) p (.slice xn p.ships.length cn) rfl hw9.out.1) rfl ?_
      have hbs := M6.out.1.base
      exact ⟨p, _, 2, rfl, Or.inr (Or.inl ⟨YES.out, h9, rfl, rfl⟩), h4, hmx, ownsRow_mono (ownsRow_same M6.out.1.row (fun k hk => hw9.out.2.1 k (by omega))) (by omega), M6.out.1.below.trans (hw9.out.2.2 _ (by omega))⟩
    · have hT : inR (p.now + 1) 0 299 = true := by unfold inR; exact decide_eq_true (by omega)
      have pg := M6.out.1.q.cells
      have pg0 := pg.1
      have fg := M6.out.1.q.frozen 0
      have M7 : Hid (LateMem w p (p.now + 1) (.slice xn p.ships.length cn) g p.ships (w6.setCell ⟨g, 0, none⟩ (.int .i64 (p.now + 1)))) := M6.out.1.tick (p.now + 1)
      have pgb := M7.out.q.cells.2.1
      clear pg
      simp only at pg0 pgb
      go_wp2_with (first | (go_at_call 77; refine (pIsTime _ _).mono ?_; rintro e w' ⟨rfl, rfl⟩))
      clear M6 pc0 pg0 fg pgb HB
      generalize w'.setCell ⟨g, 0, none⟩ (.int .i64 (p.now + 1)) = W7 at *
      go_loopg [26] p.ships.length (fun kx s26 wr => ∃ (j : Nat), s26 = .int .i64 j ∧ j ≤ p.ships.length ∧ p.ships.length - j ≤ kx ∧ Hid (LateMem w p (p.now + 1) (.slice xn p.ships.length cn) g (lateTo p j) wr))
      case atStart => exact ⟨0, rfl, Nat.zero_le _, by omega, by rw [lateTo_zero]; exact M7⟩
      case round =>
        clear M7
        obtain ⟨j, rfl, hj, hg, M⟩ := hrel
        by_cases hjl : j < p.ships.length
        · obtain ⟨s, hs⟩ : ∃ s, p.ships[j]? = some s := ⟨p.ships[j], List.getElem?_eq_getElem hjl⟩
          obtain ⟨b, rfl⟩ : ∃ b, xn = some ⟨b, 0, none⟩ := by
            obtain ⟨b, c, e, _⟩ := OwnK.ofRow M.out.row (by intro e; injection e with _ e _; omega)
            injection e with e1 e2 e3
            exact ⟨b, e1⟩
          obtain ⟨c0, c2, c4, f0, f4⟩ := M.out.cell (lateTo_get hs)
          obtain ⟨pc0, pc1, pc14, pc15⟩ := M.out.q.cells
          simp only at pc0
          have HS : Hid (p.ships[j]? = some s) := hs
          have HSH := (YES.out.port.ship s (List.mem_of_getElem? hs)).1
          obtain ⟨l1, l2⟩ := HSH.lg
          have hk3 : (j : Int) < (p.ships.length : Int) := by omega
          clear pc14 pc15 hs
          by_cases h3 : s.st = 3
          · obtain ⟨s1, s2, s3, s4⟩ := HSH.lies h3
            rw [h3] at c0
            have hwr : IntKind.i64.wrap (s.si + s.lg) = s.si + s.lg := wrap_small (by omega) (by omega)
            by_cases h5 : s.si + s.lg = p.now + 1
            · have hb5 : (s.si + s.lg == p.now + 1) = true := by simp [h5]
              have LS : Hid (lateTo p (j + 1) = (lateTo p j).set j (outS s)) := by
                show _ = _
                rw [lateTo_succ HS.out]
                unfold laterS
                rw [if_pos ⟨h3, h5⟩]
              have MD : Hid (LateMem w p (p.now + 1) (.slice (some ⟨b, 0, none⟩) p.ships.length cn) g (lateTo p j) wr.drew) := M.out.later ((Below.refl _ wr).drew)
              clear h3 HSH
              go_wp2_with fail
              go_region
              all_goals go_wp2_with fail
              obtain ⟨d0, d2, d4, e0, e4⟩ := MD.out.cell (lateTo_get HS.out)
              refine (depart_any b (j * 6) _ _ _ d0 d4 e0 e4).mono ?_
              rintro e w8 ⟨rfl, rfl⟩
              have M8 : Hid (LateMem w p (p.now + 1) (.slice (some ⟨b, 0, none⟩) p.ships.length cn) g (lateTo p (j + 1)) ((wr.drew.setCell ⟨b, j * 6, none⟩ (.int .i64 4)).setCell ⟨b, j * 6 + 4, none⟩ (.int .i64 0))) := by rw [LS.out]; exact MD.out.out1 (lateTo_get HS.out)
              clear M MD
              go_wp2_with fail
              go_roundg (p.ships.length - (j + 1))
              case measure => omega
              case rel => exact ⟨j + 1, by go_num, by omega, Nat.le_refl _, M8⟩
            · have hb5 : (s.si + s.lg == p.now + 1) = false := by simp [h5]
              have LS : Hid (lateTo p (j + 1) = lateTo p j) := lateTo_no HS.out (by unfold laterS; rw [if_neg (fun h => h5 h.2)])
              have MD : Hid (LateMem w p (p.now + 1) (.slice (some ⟨b, 0, none⟩) p.ships.length cn) g (lateTo p (j + 1)) wr.drew) := by rw [LS.out]; exact M.out.later ((Below.refl _ wr).drew)
              clear M h3 HSH
              go_wp2_with fail
              go_region
              all_goals go_wp2_with fail
              go_roundg (p.ships.length - (j + 1))
              case measure => omega
              case rel => exact ⟨j + 1, by go_num, by omega, Nat.le_refl _, MD⟩
          · have hb3 : (s.st == 3) = false := by simp [h3]
            have LS : Hid (lateTo p (j + 1) = lateTo p j) := lateTo_no HS.out (by unfold laterS; rw [if_neg (fun h => h3 h.1)])
            have MD : Hid (LateMem w p (p.now + 1) (.slice (some ⟨b, 0, none⟩) p.ships.length cn) g (lateTo p (j + 1)) wr.drew) := by rw [LS.out]; exact M.out.later ((Below.refl _ wr).drew)
            clear M h3 HSH
            go_wp2_with fail
            go_region
            all_goals go_wp2_with fail
            go_roundg (p.ships.length - (j + 1))
            case measure => omega
            case rel => exact ⟨j + 1, by go_num, by omega, Nat.le_refl _, MD⟩
        · have hje : j = p.ships.length := by omega
          subst hje
          have hj3 : ¬ (p.ships.length : Int) < (p.ships.length : Int) := by omega
          have on := ownsRow_one M.out.row
          have QB : Hid (PBox wr g (laterP p) (.slice xn p.ships.length cn)) := M.out.q
          go_wp2_with (first | (refine wpList_load_box rfl _ rfl g (laterP p) (.slice xn p.ships.length cn) rfl QB.out ?_) | (refine wpList_store_box rfl _ _ rfl (w.heap.size + 1) zeroPt (laterP p) (.slice none 0 0) (.slice xn p.ships.length cn) rfl rfl M.out.out h4 on ?_; intro w9 hw9 hs9))
          refine bodyPost_ret (v := .tuple #[.agg (portCells (laterP p) (.slice xn p.ships.length cn)).toArray, .int .i64 0]) (results_box_tmp Try.results46 _ _ (w.heap.size + 1) (laterP p) (.slice xn p.ships.length cn) rfl hw9.out.1) rfl ?_
          have hbs := M.out.base
          have hr := M.out.row
          rw [lateTo_end] at hr
          exact ⟨laterP p, _, 0, rfl, Or.inr (Or.inr ⟨YES.out, by omega, rfl, rfl⟩), h4, by rw [later_len]; exact hmx, ownsRow_mono (ownsRow_same hr (fun k hk => hw9.out.2.1 k (by omega))) (by omega), M.out.below.trans (hw9.out.2.2 _ (by omega))⟩

end Go.Proofs.Ytghhegajbehpeaa
