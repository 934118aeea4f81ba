/- Texts of this claim, in one: PTurnsW. -/
import Derived.Test.YtfdnbgfgjelkcaaXPTurnsM
import Derived.Test.YtfdnbgfgjelkcaaQI
import Derived.Test.YtfdnbgfgjelkcaaQ7
/- PortTurns' walk: Tell, Due and Later are the document's, errors too. -/
set_option linter.unusedSimpArgs false
set_option linter.unusedVariables false
namespace Go.Proofs.Ytfdnbgfgjelkcaa
open Go.RowKit


/-- what stays as it is while PortTurns runs -/
structure TE (w : World) (p : Pt) (PC : Array Value) (o : Ord) (vp : Value) (pl : List Int) (W : World) : Prop where
  below : Below w.heap.size w W
  box : BX W w.heap.size PC p
  ord : OBox W (w.heap.size + 1) o
  plan : SlK cInt W vp pl
theorem TE.later {w W W' : World} {p : Pt} {PC : Array Value} {o : Ord} {vp : Value} {pl : List Int} (h : TE w p PC o vp pl W) (hb : Below W.heap.size W W') : TE w p PC o vp pl W' :=
  ⟨h.below.trans (hb.mono h.below.size), h.box.later hb, h.ord.later hb h.ord.lt, h.plan.below hb⟩

/-- so many boxes -/
def BXs (W : World) (l : List (Nat × Array Value × Pt)) : Prop := ∀ x ∈ l, BX W x.1 x.2.1 x.2.2
theorem BXs.later {W W' : World} {l : List (Nat × Array Value × Pt)} (h : BXs W l) (hb : Below W.heap.size W W') : BXs W' l := fun x hx => (h x hx).later hb
theorem BXs.cons {W : World} {l : List (Nat × Array Value × Pt)} {g : Nat} {A : Array Value} {q : Pt} (h : BXs W l) (hb : BX W g A q) : BXs W ((g, A, q) :: l) := fun x hx => by
  rcases List.mem_cons.1 hx with rfl | hx
  · exact hb
  · exact h x hx
theorem BXs.nil (W : World) : BXs W [] := fun x hx => by cases hx
theorem BXs.hd {W : World} {l : List (Nat × Array Value × Pt)} {g : Nat} {A : Array Value} {q : Pt} (h : BXs W ((g, A, q) :: l)) : BX W g A q := h (g, A, q) List.mem_cons_self
theorem BXs.tl {W : World} {l : List (Nat × Array Value × Pt)} {x : Nat × Array Value × Pt} (h : BXs W (x :: l)) : BXs W l := fun y hy => h y (List.mem_cons_of_mem _ hy)

theorem slOne {w : World} {v : Value} {l : List Ship} (h : SlK cShip w v l) : v.oneCell' = true := by obtain ⟨a, cap, rfl, _⟩ := h; rfl

theorem BX.range {W : World} {g : Nat} {A : Array Value} {q : Pt} (h : BX W g A q) : W.rangeAt g 0 A.toList := by
  obtain ⟨vq, rfl, h2, _⟩ := h
  exact h2.whole
theorem BX.size {W : World} {g : Nat} {A : Array Value} {q : Pt} (h : BX W g A q) : (Try.prog.info? 46).map (·.size) = some A.toList.length := by
  obtain ⟨vq, rfl, h2, _⟩ := h
  exact portInfo q vq h2.1

set_option maxHeartbeats 8000000 in
set_option maxRecDepth 100000 in
theorem portTurns_of (RT : ∀ (v : Value) (p : Pt) (kd a b c : Int) (w : World), PtV w v p → Calls Try.prog 45 #[v, .agg #[.int .i64 kd, .int .i64 a, .int .i64 b, .int .i64 c]] w fun e w' => RefTellPost w (TellIs (ObeyIs p ⟨kd, a, b, c⟩) p) e w')
    (v : Value) (p : Pt) (o : Ord) (vp : Value) (pl : List Int) (w : World) (hv : PtV w v p) (hf : WfP p) (ho : WfO o) (hpl : SlK cInt w vp pl) (hp2 : (∀ x ∈ pl, Wf x) ∧ pl.length ≤ 17592186044416) :
    Calls Try.prog 8 #[v, .agg #[.int .i64 o.kd, .int .i64 o.a, .int .i64 o.b, .int .i64 o.c], vp] w fun e w' => e = .returned (.bool true) ∧ Below w.heap.size w w' := by
  obtain ⟨vs, rfl, hsl, h4, hmx⟩ := hv
  obtain ⟨ap, cp, rfl, hcp, hrp⟩ := hpl
  have hnp : pl.length ≤ 17592186044416 := hp2.2
  have HPL : Hid (SlK cInt w (.slice ap pl.length cp) pl) := ⟨ap, cp, rfl, hcp, hrp⟩
  have hq := hf.q
  have HCP := fun v W h => refCopy_any v p W h
  have HTL := fun v W h => tellGen_any v p o W h hq
  have HRT := fun v W h => RT v p o.kd o.a o.b o.c W h
  have HLA := fun v W h => later_any v p W h hq
  have HRL := fun v W h => refLater_any v p W h
  have HDU := fun v vp W h1 h2 => due_any v vp p pl W h1 h2 hnp
  have HRD := fun v W h1 h2 => refDue_any v (.slice ap pl.length cp) p pl W h1 h2 hnp
  have X1 := PBox.new w p vs h4
  have E0 : Hid (TE w p (portCells p vs).toArray o (.slice ap pl.length cp) pl ((w.alloc (.cells (portCells p vs).toArray 46)).alloc (.cells #[.int .i64 o.kd, .int .i64 o.a, .int .i64 o.b, .int .i64 o.c] 61))) := by
    have hz1 : (w.alloc (.cells (portCells p vs).toArray 46)).heap.size = w.heap.size + 1 := by simp
    have O1 := OBox.new (w.alloc (.cells (portCells p vs).toArray 46)) o
    rw [hz1] at O1
    have B0 : Below w.heap.size w ((w.alloc (.cells (portCells p vs).toArray 46)).alloc (.cells #[.int .i64 o.kd, .int .i64 o.a, .int .i64 o.b, .int .i64 o.c] 61)) := ((Below.refl _ w).alloc (Nat.le_refl _) _).alloc (by omega) _
    exact ⟨B0, ⟨vs, rfl, X1.later ((Below.refl _ _).alloc (Nat.le_refl _) _) X1.lt, hsl.below B0, hmx⟩, O1, HPL.out.below B0⟩
  clear X1 hsl hrp HPL RT hq hp2 hf ho
  generalize (portCells p vs).toArray = PC at *
  generalize hWA : (w.alloc (.cells PC 46)).alloc (.cells #[.int .i64 o.kd, .int .i64 o.a, .int .i64 o.b, .int .i64 o.c] 61) = WA at *
  go_enter Try.func8, Try.ntmps8
  go_wp2_with (first | (rw [hWA]) | (refine wpList_load_bx rfl _ rfl w.heap.size PC p rfl E0.out.box ?_))
  refine (HCP _ _ E0.out.box.pv).mono ?_
  rintro e w1 ⟨vc, rfl, hr1, hb1⟩
  have on := ownsRow_one hr1
  have F1 : Hid (TE w p PC o (.slice ap pl.length cp) pl w1 ∧ SlK cShip w1 vc p.ships) := ⟨E0.out.later hb1, slK_ofRow hr1⟩
  clear hr1 hb1 E0 HCP hWA
  go_upto_region 2 with (first | (refine wpList_alloc_box rfl rfl 7 rfl ?_; intro w2 hw2 hs2) | (refine wpList_store_box rfl _ _ rfl w1.heap.size zeroPt p (.slice none 0 0) vc rfl rfl hw2.out.1 h4 on ?_; intro w3 hw3 hs3))
  have F3 : Hid (TE w p PC o (.slice ap pl.length cp) pl w3 ∧ BXs w3 [(w1.heap.size, (portCells p vc).toArray, p)]) := by
    have hb : Below w1.heap.size w1 w3 := hw2.out.2.trans (hw3.out.2.2 _ (Nat.le_refl _))
    exact ⟨F1.out.1.later hb, (BXs.nil _).cons ⟨vc, rfl, hw3.out.1, F1.out.2.below hb, hmx⟩⟩
  clear F1 hw2 hw3 hs2 hs3 on
  generalize w1.heap.size = gc at *
  generalize (portCells p vc).toArray = CC at *
  obtain ⟨oc0, oc1, oc2, oc3⟩ := F3.out.1.ord.cells
  go_wp2_with (refine wpList_load_bx rfl _ rfl gc CC p rfl F3.out.2.hd ?_)
  refine (HTL _ _ F3.out.2.hd.pv).mono ?_
  rintro e w4 ⟨q1, v1, n1, e1, rfl, hT1, hk1, hm1, hr1, hb4⟩
  have on := ownsRow_one hr1
  have T1 : Hid (TellIs (ObeyIs p o) p n1 e1 q1) := hT1
  have F4 : Hid (TE w p PC o (.slice ap pl.length cp) pl w4 ∧ BXs w4 [(gc, CC, p)] ∧ SlK cShip w4 v1 q1.ships) := ⟨F3.out.1.later hb4, F3.out.2.later hb4, slK_ofRow hr1⟩
  clear hT1 hr1 hb4 F3 HTL oc0 oc1 oc2 oc3
  go_upto_region 3 with (first | (refine wpList_alloc_box rfl rfl 8 rfl ?_; intro w2 hw2 hs2) | (refine wpList_store_box rfl _ _ rfl w4.heap.size zeroPt q1 (.slice none 0 0) v1 rfl rfl hw2.out.1 hk1 on ?_; intro w3 hw3 hs3))
  have F5 : Hid (TE w p PC o (.slice ap pl.length cp) pl w3 ∧ BXs w3 [(w4.heap.size, (portCells q1 v1).toArray, q1), (gc, CC, p)]) := by
    have hb : Below w4.heap.size w4 w3 := hw2.out.2.trans (hw3.out.2.2 _ (Nat.le_refl _))
    exact ⟨F4.out.1.later hb, (F4.out.2.1.later hb).cons ⟨v1, rfl, hw3.out.1, F4.out.2.2.below hb, hm1⟩⟩
  clear F4 hw2 hw3 hs2 hs3 on
  generalize w4.heap.size = ga at *
  generalize (portCells q1 v1).toArray = A1 at *
  obtain ⟨oc0, oc1, oc2, oc3⟩ := F5.out.1.ord.cells
  go_wp2_with (refine wpList_load_bx rfl _ rfl w.heap.size PC p rfl F5.out.1.box ?_)
  refine (HRT _ _ F5.out.1.box.pv).mono ?_
  rintro e w4 ⟨q2, v2, n2, e2, rfl, hT2, hk2, hm2, hr2, hb4⟩
  obtain ⟨rfl, rfl, rfl⟩ := tellIs_unique T1.out hT2
  have on := slOne hr2
  have F6 : Hid (TE w p PC o (.slice ap pl.length cp) pl w4 ∧ BXs w4 [(ga, A1, q1), (gc, CC, p)] ∧ SlK cShip w4 v2 q1.ships) := ⟨F5.out.1.later hb4, F5.out.2.later hb4, hr2⟩
  clear hT2 hr2 hb4 F5 HRT T1 oc0 oc1 oc2 oc3
  go_upto_region 4 with (first | (refine wpList_alloc_box rfl rfl 11 rfl ?_; intro w2 hw2 hs2) | (refine wpList_store_box rfl _ _ rfl w4.heap.size zeroPt q1 (.slice none 0 0) v2 rfl rfl hw2.out.1 hk1 on ?_; intro w3 hw3 hs3))
  have F7 : Hid (TE w p PC o (.slice ap pl.length cp) pl w3 ∧ BXs w3 [(w4.heap.size, (portCells q1 v2).toArray, q1), (ga, A1, q1), (gc, CC, p)]) := by
    have hb : Below w4.heap.size w4 w3 := hw2.out.2.trans (hw3.out.2.2 _ (Nat.le_refl _))
    exact ⟨F6.out.1.later hb, (F6.out.2.1.later hb).cons ⟨v2, rfl, hw3.out.1, F6.out.2.2.below hb, hm1⟩⟩
  clear F6 hw2 hw3 hs2 hs3 on
  generalize w4.heap.size = gb at *
  generalize (portCells q1 v2).toArray = A2 at *
  go_wp2_with (refine wpList_load_bx rfl _ rfl gc CC p rfl F7.out.2.tl.tl.hd ?_)
  refine (HLA _ _ F7.out.2.tl.tl.hd.pv).mono ?_
  rintro e w4 ⟨x, v3, e3, rfl, hT3, hk3, hm3, hr3, hb4⟩
  have on := ownsRow_one hr3
  have T3 : Hid (LaterIs p e3 x) := hT3
  have F8 : Hid (TE w p PC o (.slice ap pl.length cp) pl w4 ∧ BXs w4 [(gb, A2, q1), (ga, A1, q1), (gc, CC, p)] ∧ SlK cShip w4 v3 x.ships) := ⟨F7.out.1.later hb4, F7.out.2.later hb4, slK_ofRow hr3⟩
  clear hT3 hr3 hb4 F7 HLA
  go_upto_region 5 with (first | (refine wpList_alloc_box rfl rfl 14 rfl ?_; intro w2 hw2 hs2) | (refine wpList_store_box rfl _ _ rfl w4.heap.size zeroPt x (.slice none 0 0) v3 rfl rfl hw2.out.1 hk3 on ?_; intro w3 hw3 hs3))
  have F9 : Hid (TE w p PC o (.slice ap pl.length cp) pl w3 ∧ BXs w3 [(w4.heap.size, (portCells x v3).toArray, x), (gb, A2, q1), (ga, A1, q1), (gc, CC, p)]) := by
    have hb : Below w4.heap.size w4 w3 := hw2.out.2.trans (hw3.out.2.2 _ (Nat.le_refl _))
    exact ⟨F8.out.1.later hb, (F8.out.2.1.later hb).cons ⟨v3, rfl, hw3.out.1, F8.out.2.2.below hb, hm3⟩⟩
  clear F8 hw2 hw3 hs2 hs3 on
  generalize w4.heap.size = gx at *
  generalize (portCells x v3).toArray = A3 at *
  go_wp2_with (refine wpList_load_bx rfl _ rfl w.heap.size PC p rfl F9.out.1.box ?_)
  refine (HRL _ _ F9.out.1.box.pv).mono ?_
  rintro e w4 ⟨y, v4, e4, rfl, hT4, hk4, hm4, hr4, hb4⟩
  obtain ⟨rfl, rfl⟩ := laterIs_unique T3.out hT4
  have on := slOne hr4
  have FA : Hid (TE w p PC o (.slice ap pl.length cp) pl w4 ∧ BXs w4 [(gx, A3, x), (gb, A2, q1), (ga, A1, q1), (gc, CC, p)] ∧ SlK cShip w4 v4 x.ships) := ⟨F9.out.1.later hb4, F9.out.2.later hb4, hr4⟩
  clear hT4 hr4 hb4 F9 HRL T3
  go_upto_region 6 with (first | (refine wpList_alloc_box rfl rfl 16 rfl ?_; intro w2 hw2 hs2) | (refine wpList_store_box rfl _ _ rfl w4.heap.size zeroPt x (.slice none 0 0) v4 rfl rfl hw2.out.1 hk3 on ?_; intro w3 hw3 hs3))
  have FB : Hid (TE w p PC o (.slice ap pl.length cp) pl w3 ∧ BXs w3 [(w4.heap.size, (portCells x v4).toArray, x), (gx, A3, x), (gb, A2, q1), (ga, A1, q1), (gc, CC, p)]) := by
    have hb : Below w4.heap.size w4 w3 := hw2.out.2.trans (hw3.out.2.2 _ (Nat.le_refl _))
    exact ⟨FA.out.1.later hb, (FA.out.2.1.later hb).cons ⟨v4, rfl, hw3.out.1, FA.out.2.2.below hb, hm3⟩⟩
  clear FA hw2 hw3 hs2 hs3 on
  generalize w4.heap.size = gy at *
  generalize (portCells x v4).toArray = A4 at *
  have FD : Hid (TE w p PC o (.slice ap pl.length cp) pl w3.drew ∧ BXs w3.drew [(gy, A4, x), (gx, A3, x), (gb, A2, q1), (ga, A1, q1), (gc, CC, p)]) := ⟨FB.out.1.later ((Below.refl _ _).drew), FB.out.2.later ((Below.refl _ _).drew)⟩
  have CSZ : (Try.prog.info? 46).map (·.size) = some CC.toList.length := FB.out.2.tl.tl.tl.tl.hd.size
  clear FB
  go_cut [18, 19] (fun s18 s19 wc => ∃ gq v19 A5, s18 = .pointer (some ⟨gq, 0, none⟩) ∧ s19 = v19 ∧ Hid (TE w p PC o (.slice ap pl.length cp) pl wc ∧ BXs wc [(gq, A5, dueP p pl), (gy, A4, x), (gx, A3, x), (gb, A2, q1), (ga, A1, q1), (gc, CC, p)] ∧ SlK cInt wc v19 (ints (dues p pl))))
  case first =>
    refine wp_region_held_drew (S := fun W => Hid (TE w p PC o (.slice ap pl.length cp) pl W ∧ BXs W [(gy, A4, x), (gx, A3, x), (gb, A2, q1), (ga, A1, q1), (gc, CC, p)])) (by kernel_rfl) FD (fun hHeld => ?_)
    have hdl0 : (dueP p pl).ships.length ≤ 2932031007317 := by rw [due_len]; exact hmx
    refine wpAnyH_take (i := 0) (oi := { dst := some 49, op := Op.load 46 (Operand.tmp 7), type := 46, pos := "law.go:95", after := #[], guard := none }) (v := .agg CC) rfl (by kernel_rfl) (by kernel_rfl) (by kernel_rfl) (fun _ _ _ h => h) (yieldsIf_load_mid (by rfl) 46 (.tmp 7) rfl gc 0 rfl CC.toList _ (fun W hW => hW.out.2.tl.tl.tl.tl.hd.range) Try.underlying46 rfl CSZ) hHeld ?_
    simp only [Act.put, List.setIfInBounds_toArray, List.set_cons_zero, List.set_cons_succ]
    refine wpAnyH_take (i := 1) (oi := { dst := some 50, op := Op.move (Operand.tmp 2), type := 57, pos := "law.go:95", after := #[], guard := none }) (v := (.slice ap pl.length cp)) rfl (by kernel_rfl) (by kernel_rfl) (by kernel_rfl) (fun _ _ _ h => h) (Or.inl ⟨by rfl, by intro w hSw; go_simp⟩) hHeld ?_
    simp only [Act.put, List.setIfInBounds_toArray, List.set_cons_zero, List.set_cons_succ]
    refine wpAnyH_ready (rs := [2, 7]) (by kernel_rfl) (by simp) ?_
    refine AllReadyH.cons rfl (fun K hK => ?_) ?_
    · refine step_copyI rfl (.tmp 50) rfl (.slice ap pl.length cp) pl (by simp [Act.eval, Act.put]) hHeld.out.1.plan hnp 51 rfl ?_
      intro vA wA hA
      have EA : Hid (TE w p PC o (.slice ap pl.length cp) pl wA ∧ BXs wA [(gy, A4, x), (gx, A3, x), (gb, A2, q1), (ga, A1, q1), (gc, CC, p)]) := ⟨hHeld.out.1.later hA.out.2, hHeld.out.2.later hA.out.2⟩
      have SA : Hid (SlK cInt wA vA pl) := slK_ofRow hA.out.1
      have BA : Hid (Below _ _ wA) := hA.out.2
      obtain ⟨xA, cA, hvA⟩ := ownsRow_slice hA.out.1
      subst hvA
      clear hA
      refine hK.out _ _ EA (fun hHeld => ?_)
      clear hK K
      (try dsimp only); simp only [Act.put, List.setIfInBounds_toArray, List.set_cons_zero, List.set_cons_succ]
      refine wpAnyH_ready (rs := [3, 7]) (by kernel_rfl) (by simp) ?_
      refine AllReadyH.cons rfl (fun K hK => ?_) ?_
      · go_simp
        refine (HDU _ _ _ hHeld.out.2.tl.tl.tl.tl.hd.pv SA.out).mono ?_
        rintro e wD ⟨v5, vwho, rfl, hD⟩
        have ED : Hid (TE w p PC o (.slice ap pl.length cp) pl wD ∧ BXs wD [(gy, A4, x), (gx, A3, x), (gb, A2, q1), (ga, A1, q1), (gc, CC, p)]) := ⟨hHeld.out.1.later hD.out.2.2, hHeld.out.2.later hD.out.2.2⟩
        have h3 := due_len p pl
        have RD : Hid (wD.ownsRow _ 48 6 v5 (dueP p pl).ships.length (cellsK cShip (dueP p pl).ships) ∧ wD.ownsRow _ 3 1 vwho (ints (dues p pl)).length (cellsK cInt (ints (dues p pl)))) := ⟨by have h1 := hD.out.1; rw [← h3] at h1; exact h1, hD.out.2.1⟩
        have BD : Hid (Below _ _ wD) := hD.out.2.2
        have on5 := ownsRow_one RD.out.1
        clear h3
        obtain ⟨aw, nw, cw, hvw⟩ : ∃ a n c, vwho = .slice a n c := by obtain ⟨a, c, e⟩ := ownsRow_slice RD.out.2; exact ⟨a, _, c, e⟩
        subst hvw
        clear hD
        go_wp2_with fail
        refine hK.out _ _ ED (fun hHeld => ?_)
        clear hK K
        try ((try dsimp only); simp only [Act.put, List.setIfInBounds_toArray, List.set_cons_zero, List.set_cons_succ])
        refine wpAnyH_take (i := 4) (oi := { dst := some 48, op := Op.move (Operand.tmp 52), type := 67, pos := "law.go:95", after := #[{ on := 3, ground := Ground.data }], guard := none }) (v := .tuple #[.agg (portCells (dueP p pl) v5).toArray, .slice aw nw cw]) rfl (by kernel_rfl) (by kernel_rfl) (by kernel_rfl) (fun _ _ _ h => h) (Or.inl ⟨by rfl, by intro w hSw; go_simp⟩) hHeld ?_
        simp only [Act.put, List.setIfInBounds_toArray, List.set_cons_zero, List.set_cons_succ]
        refine wpAnyH_take (i := 5) (oi := { dst := some 53, op := Op.extract (Operand.tmp 48) 0, type := 46, pos := "law.go:95", after := #[{ on := 4, ground := Ground.data }], guard := none }) (v := .agg (portCells (dueP p pl) v5).toArray) rfl (by kernel_rfl) (by kernel_rfl) (by kernel_rfl) (fun _ _ _ h => h) (Or.inl ⟨by rfl, by intro w hSw; go_simp⟩) hHeld ?_
        simp only [Act.put, List.setIfInBounds_toArray, List.set_cons_zero, List.set_cons_succ]
        refine wpAnyH_take (i := 6) (oi := { dst := some 54, op := Op.extract (Operand.tmp 48) 1, type := 57, pos := "law.go:95", after := #[{ on := 4, ground := Ground.data }, { on := 8, ground := Ground.gcOnly Departure.lateStores }], guard := none }) (v := .slice aw nw cw) rfl (by kernel_rfl) (by kernel_rfl) (by kernel_rfl) (fun _ _ _ h => h) (Or.inl ⟨by rfl, by intro w hSw; go_simp⟩) hHeld ?_
        simp only [Act.put, List.setIfInBounds_toArray, List.set_cons_zero, List.set_cons_succ]
        refine wpAnyH_ready (rs := [7]) (by kernel_rfl) (by simp) ?_
        refine AllReadyH.cons rfl (fun K hK => ?_) AllReadyH.nil
        refine step_alloc_box rfl rfl 18 rfl ?_
        intro wB hB
        have EB : Hid (TE w p PC o (.slice ap pl.length cp) pl wB ∧ BXs wB [(gy, A4, x), (gx, A3, x), (gb, A2, q1), (ga, A1, q1), (gc, CC, p)]) := ⟨hHeld.out.1.later hB.out.2, hHeld.out.2.later hB.out.2⟩
        have PB : Hid (PBox wB _ zeroPt (.slice none 0 0)) := hB.out.1
        have BB : Hid (Below _ _ wB) := hB.out.2
        clear hB
        refine hK.out _ _ EB (fun hHeld => ?_)
        clear hK K
        (try dsimp only); simp only [Act.put, List.setIfInBounds_toArray, List.set_cons_zero, List.set_cons_succ]
        refine wpAnyH_ready (rs := [8]) (by kernel_rfl) (by simp) ?_
        refine AllReadyH.cons rfl (fun K hK => ?_) AllReadyH.nil
        refine step_store_box rfl (.tmp 18) (.tmp 53) rfl _ zeroPt (dueP p pl) (.slice none 0 0) v5 (by simp [Act.eval, Act.put]) (by simp [Act.eval, Act.put]) PB.out h4 on5 rfl ?_
        intro wS hS
        have hb : Below wD.heap.size wD wS := BB.out.trans (hS.out.2.2 _ (Nat.le_refl _))
        have FS : Hid (TE w p PC o (.slice ap pl.length cp) pl wS ∧ BXs wS [(gy, A4, x), (gx, A3, x), (gb, A2, q1), (ga, A1, q1), (gc, CC, p)] ∧ PBox wS _ (dueP p pl) v5 ∧ SlK cShip wS v5 (dueP p pl).ships ∧ SlK cInt wS (.slice aw nw cw) (ints (dues p pl))) := ⟨ED.out.1.later hb, ED.out.2.later hb, hS.out.1, (slK_ofRow RD.out.1).below hb, (slK_ofRow RD.out.2).below hb⟩
        refine hK.out _ _ ⟨FS.out.1, FS.out.2.1⟩ (fun hHeld => ?_)
        clear hK K
        refine wpAnyH_take (i := 9) (oi := { dst := some 19, op := Op.assign (Operand.tmp 54), type := 57, pos := "law.go:95", after := #[{ on := 6, ground := Ground.data }, { on := 8, ground := Ground.chain }, { on := 0, ground := Ground.phase }, { on := 1, ground := Ground.phase }, { on := 2, ground := Ground.phase }, { on := 3, ground := Ground.phase }, { on := 4, ground := Ground.phase }, { on := 5, ground := Ground.phase }, { on := 6, ground := Ground.phase }, { on := 7, ground := Ground.phase }, { on := 8, ground := Ground.phase }], guard := none }) (v := .slice aw nw cw) rfl (by kernel_rfl) (by kernel_rfl) (by kernel_rfl) (fun _ _ _ h => h) (Or.inl ⟨by rfl, by intro w hSw; go_simp⟩) hHeld ?_
        simp only [Act.put, List.setIfInBounds_toArray, List.set_cons_zero, List.set_cons_succ]
        refine wpAnyH_done (by kernel_rfl) ?_ _
        go_wp2_with fail
        go_meet
        exact ⟨_, _, _, rfl, rfl, FS.out.1, FS.out.2.1.cons ⟨v5, rfl, FS.out.2.2.1, FS.out.2.2.2.1, hdl0⟩, FS.out.2.2.2.2⟩
      refine AllReadyH.cons rfl (fun K hK => ?_) AllReadyH.nil
      refine step_alloc_box rfl rfl 18 rfl ?_
      intro wB hB
      have EB : Hid (TE w p PC o (.slice ap pl.length cp) pl wB ∧ BXs wB [(gy, A4, x), (gx, A3, x), (gb, A2, q1), (ga, A1, q1), (gc, CC, p)]) := ⟨hHeld.out.1.later hB.out.2, hHeld.out.2.later hB.out.2⟩
      have PB : Hid (PBox wB _ zeroPt (.slice none 0 0)) := hB.out.1
      have BB : Hid (Below _ _ wB) := hB.out.2
      have SB : Hid (SlK cInt wB _ pl) := SA.out.below hB.out.2
      clear hB
      refine hK.out _ _ EB (fun hHeld => ?_)
      clear hK K
      (try dsimp only); simp only [Act.put, List.setIfInBounds_toArray, List.set_cons_zero, List.set_cons_succ]
      refine wpAnyH_ready (rs := [3]) (by kernel_rfl) (by simp) ?_
      refine AllReadyH.cons rfl (fun K hK => ?_) AllReadyH.nil
      go_simp
      refine (HDU _ _ _ hHeld.out.2.tl.tl.tl.tl.hd.pv SB.out).mono ?_
      rintro e wD ⟨v5, vwho, rfl, hD⟩
      have ED : Hid (TE w p PC o (.slice ap pl.length cp) pl wD ∧ BXs wD [(gy, A4, x), (gx, A3, x), (gb, A2, q1), (ga, A1, q1), (gc, CC, p)]) := ⟨hHeld.out.1.later hD.out.2.2, hHeld.out.2.later hD.out.2.2⟩
      have h3 := due_len p pl
      have RD : Hid (wD.ownsRow _ 48 6 v5 (dueP p pl).ships.length (cellsK cShip (dueP p pl).ships) ∧ wD.ownsRow _ 3 1 vwho (ints (dues p pl)).length (cellsK cInt (ints (dues p pl)))) := ⟨by have h1 := hD.out.1; rw [← h3] at h1; exact h1, hD.out.2.1⟩
      have BD : Hid (Below _ _ wD) := hD.out.2.2
      have on5 := ownsRow_one RD.out.1
      clear h3
      have PD : Hid (PBox wD _ zeroPt (.slice none 0 0)) := PB.out.later hD.out.2.2 PB.out.lt
      obtain ⟨aw, nw, cw, hvw⟩ : ∃ a n c, vwho = .slice a n c := by obtain ⟨a, c, e⟩ := ownsRow_slice RD.out.2; exact ⟨a, _, c, e⟩
      subst hvw
      clear hD
      go_wp2_with fail
      refine hK.out _ _ ED (fun hHeld => ?_)
      clear hK K
      try ((try dsimp only); simp only [Act.put, List.setIfInBounds_toArray, List.set_cons_zero, List.set_cons_succ])
      refine wpAnyH_take (i := 4) (oi := { dst := some 48, op := Op.move (Operand.tmp 52), type := 67, pos := "law.go:95", after := #[{ on := 3, ground := Ground.data }], guard := none }) (v := .tuple #[.agg (portCells (dueP p pl) v5).toArray, .slice aw nw cw]) rfl (by kernel_rfl) (by kernel_rfl) (by kernel_rfl) (fun _ _ _ h => h) (Or.inl ⟨by rfl, by intro w hSw; go_simp⟩) hHeld ?_
      simp only [Act.put, List.setIfInBounds_toArray, List.set_cons_zero, List.set_cons_succ]
      refine wpAnyH_take (i := 5) (oi := { dst := some 53, op := Op.extract (Operand.tmp 48) 0, type := 46, pos := "law.go:95", after := #[{ on := 4, ground := Ground.data }], guard := none }) (v := .agg (portCells (dueP p pl) v5).toArray) rfl (by kernel_rfl) (by kernel_rfl) (by kernel_rfl) (fun _ _ _ h => h) (Or.inl ⟨by rfl, by intro w hSw; go_simp⟩) hHeld ?_
      simp only [Act.put, List.setIfInBounds_toArray, List.set_cons_zero, List.set_cons_succ]
      refine wpAnyH_take (i := 6) (oi := { dst := some 54, op := Op.extract (Operand.tmp 48) 1, type := 57, pos := "law.go:95", after := #[{ on := 4, ground := Ground.data }, { on := 8, ground := Ground.gcOnly Departure.lateStores }], guard := none }) (v := .slice aw nw cw) rfl (by kernel_rfl) (by kernel_rfl) (by kernel_rfl) (fun _ _ _ h => h) (Or.inl ⟨by rfl, by intro w hSw; go_simp⟩) hHeld ?_
      simp only [Act.put, List.setIfInBounds_toArray, List.set_cons_zero, List.set_cons_succ]
      refine wpAnyH_ready (rs := [8]) (by kernel_rfl) (by simp) ?_
      refine AllReadyH.cons rfl (fun K hK => ?_) AllReadyH.nil
      refine step_store_box rfl (.tmp 18) (.tmp 53) rfl _ zeroPt (dueP p pl) (.slice none 0 0) v5 (by simp [Act.eval, Act.put]) (by simp [Act.eval, Act.put]) PD.out h4 on5 rfl ?_
      intro wS hS
      have hlt := PB.out.lt
      have hb : Below wA.heap.size wA wS := (BB.out.trans (BD.out.mono (by omega))).trans (hS.out.2.2 _ (Nat.le_refl _))
      have FS : Hid (TE w p PC o (.slice ap pl.length cp) pl wS ∧ BXs wS [(gy, A4, x), (gx, A3, x), (gb, A2, q1), (ga, A1, q1), (gc, CC, p)] ∧ PBox wS _ (dueP p pl) v5 ∧ SlK cShip wS v5 (dueP p pl).ships ∧ SlK cInt wS (.slice aw nw cw) (ints (dues p pl))) := ⟨EA.out.1.later hb, EA.out.2.later hb, hS.out.1, slK_ofRow (ownsRow_same RD.out.1 (fun k hk => hS.out.2.1 k (by omega))), slK_ofRow (ownsRow_same RD.out.2 (fun k hk => hS.out.2.1 k (by omega)))⟩
      refine hK.out _ _ ⟨FS.out.1, FS.out.2.1⟩ (fun hHeld => ?_)
      clear hK K
      refine wpAnyH_take (i := 9) (oi := { dst := some 19, op := Op.assign (Operand.tmp 54), type := 57, pos := "law.go:95", after := #[{ on := 6, ground := Ground.data }, { on := 8, ground := Ground.chain }, { on := 0, ground := Ground.phase }, { on := 1, ground := Ground.phase }, { on := 2, ground := Ground.phase }, { on := 3, ground := Ground.phase }, { on := 4, ground := Ground.phase }, { on := 5, ground := Ground.phase }, { on := 6, ground := Ground.phase }, { on := 7, ground := Ground.phase }, { on := 8, ground := Ground.phase }], guard := none }) (v := .slice aw nw cw) rfl (by kernel_rfl) (by kernel_rfl) (by kernel_rfl) (fun _ _ _ h => h) (Or.inl ⟨by rfl, by intro w hSw; go_simp⟩) hHeld ?_
      simp only [Act.put, List.setIfInBounds_toArray, List.set_cons_zero, List.set_cons_succ]
      refine wpAnyH_done (by kernel_rfl) ?_ _
      go_wp2_with fail
      go_meet
      exact ⟨_, _, _, rfl, rfl, FS.out.1, FS.out.2.1.cons ⟨v5, rfl, FS.out.2.2.1, FS.out.2.2.2.1, hdl0⟩, FS.out.2.2.2.2⟩
    refine AllReadyH.cons rfl (fun K hK => ?_) AllReadyH.nil
    refine step_alloc_box rfl rfl 18 rfl ?_
    intro wB hB
    have EB : Hid (TE w p PC o (.slice ap pl.length cp) pl wB ∧ BXs wB [(gy, A4, x), (gx, A3, x), (gb, A2, q1), (ga, A1, q1), (gc, CC, p)]) := ⟨hHeld.out.1.later hB.out.2, hHeld.out.2.later hB.out.2⟩
    have PB : Hid (PBox wB _ zeroPt (.slice none 0 0)) := hB.out.1
    have BB : Hid (Below _ _ wB) := hB.out.2
    clear hB
    refine hK.out _ _ EB (fun hHeld => ?_)
    clear hK K
    (try dsimp only); simp only [Act.put, List.setIfInBounds_toArray, List.set_cons_zero, List.set_cons_succ]
    refine wpAnyH_ready (rs := [2]) (by kernel_rfl) (by simp) ?_
    refine AllReadyH.cons rfl (fun K hK => ?_) AllReadyH.nil
    refine step_copyI rfl (.tmp 50) rfl (.slice ap pl.length cp) pl (by simp [Act.eval, Act.put]) hHeld.out.1.plan hnp 51 rfl ?_
    intro vA wA hA
    have EA : Hid (TE w p PC o (.slice ap pl.length cp) pl wA ∧ BXs wA [(gy, A4, x), (gx, A3, x), (gb, A2, q1), (ga, A1, q1), (gc, CC, p)]) := ⟨hHeld.out.1.later hA.out.2, hHeld.out.2.later hA.out.2⟩
    have SA : Hid (SlK cInt wA vA pl) := slK_ofRow hA.out.1
    have BA : Hid (Below _ _ wA) := hA.out.2
    have PA : Hid (PBox wA _ zeroPt (.slice none 0 0)) := PB.out.later hA.out.2 PB.out.lt
    obtain ⟨xA, cA, hvA⟩ := ownsRow_slice hA.out.1
    subst hvA
    clear hA
    refine hK.out _ _ EA (fun hHeld => ?_)
    clear hK K
    (try dsimp only); simp only [Act.put, List.setIfInBounds_toArray, List.set_cons_zero, List.set_cons_succ]
    refine wpAnyH_ready (rs := [3]) (by kernel_rfl) (by simp) ?_
    refine AllReadyH.cons rfl (fun K hK => ?_) AllReadyH.nil
    go_simp
    refine (HDU _ _ _ hHeld.out.2.tl.tl.tl.tl.hd.pv SA.out).mono ?_
    rintro e wD ⟨v5, vwho, rfl, hD⟩
    have ED : Hid (TE w p PC o (.slice ap pl.length cp) pl wD ∧ BXs wD [(gy, A4, x), (gx, A3, x), (gb, A2, q1), (ga, A1, q1), (gc, CC, p)]) := ⟨hHeld.out.1.later hD.out.2.2, hHeld.out.2.later hD.out.2.2⟩
    have h3 := due_len p pl
    have RD : Hid (wD.ownsRow _ 48 6 v5 (dueP p pl).ships.length (cellsK cShip (dueP p pl).ships) ∧ wD.ownsRow _ 3 1 vwho (ints (dues p pl)).length (cellsK cInt (ints (dues p pl)))) := ⟨by have h1 := hD.out.1; rw [← h3] at h1; exact h1, hD.out.2.1⟩
    have BD : Hid (Below _ _ wD) := hD.out.2.2
    have on5 := ownsRow_one RD.out.1
    clear h3
    have PD : Hid (PBox wD _ zeroPt (.slice none 0 0)) := PA.out.later hD.out.2.2 PA.out.lt
    obtain ⟨aw, nw, cw, hvw⟩ : ∃ a n c, vwho = .slice a n c := by obtain ⟨a, c, e⟩ := ownsRow_slice RD.out.2; exact ⟨a, _, c, e⟩
    subst hvw
    clear hD
    go_wp2_with fail
    refine hK.out _ _ ED (fun hHeld => ?_)
    clear hK K
    try ((try dsimp only); simp only [Act.put, List.setIfInBounds_toArray, List.set_cons_zero, List.set_cons_succ])
    refine wpAnyH_take (i := 4) (oi := { dst := some 48, op := Op.move (Operand.tmp 52), type := 67, pos := "law.go:95", after := #[{ on := 3, ground := Ground.data }], guard := none }) (v := .tuple #[.agg (portCells (dueP p pl) v5).toArray, .slice aw nw cw]) rfl (by kernel_rfl) (by kernel_rfl) (by kernel_rfl) (fun _ _ _ h => h) (Or.inl ⟨by rfl, by intro w hSw; go_simp⟩) hHeld ?_
    simp only [Act.put, List.setIfInBounds_toArray, List.set_cons_zero, List.set_cons_succ]
    refine wpAnyH_take (i := 5) (oi := { dst := some 53, op := Op.extract (Operand.tmp 48) 0, type := 46, pos := "law.go:95", after := #[{ on := 4, ground := Ground.data }], guard := none }) (v := .agg (portCells (dueP p pl) v5).toArray) rfl (by kernel_rfl) (by kernel_rfl) (by kernel_rfl) (fun _ _ _ h => h) (Or.inl ⟨by rfl, by intro w hSw; go_simp⟩) hHeld ?_
    simp only [Act.put, List.setIfInBounds_toArray, List.set_cons_zero, List.set_cons_succ]
    refine wpAnyH_take (i := 6) (oi := { dst := some 54, op := Op.extract (Operand.tmp 48) 1, type := 57, pos := "law.go:95", after := #[{ on := 4, ground := Ground.data }, { on := 8, ground := Ground.gcOnly Departure.lateStores }], guard := none }) (v := .slice aw nw cw) rfl (by kernel_rfl) (by kernel_rfl) (by kernel_rfl) (fun _ _ _ h => h) (Or.inl ⟨by rfl, by intro w hSw; go_simp⟩) hHeld ?_
    simp only [Act.put, List.setIfInBounds_toArray, List.set_cons_zero, List.set_cons_succ]
    refine wpAnyH_ready (rs := [8]) (by kernel_rfl) (by simp) ?_
    refine AllReadyH.cons rfl (fun K hK => ?_) AllReadyH.nil
    refine step_store_box rfl (.tmp 18) (.tmp 53) rfl _ zeroPt (dueP p pl) (.slice none 0 0) v5 (by simp [Act.eval, Act.put]) (by simp [Act.eval, Act.put]) PD.out h4 on5 rfl ?_
    intro wS hS
    have hlt := PB.out.lt
    have hlt2 := PA.out.lt
    have hb : Below w3.drew.heap.size w3.drew wS := ((BB.out.trans (BA.out.mono (by omega))).trans (BD.out.mono (by omega))).trans (hS.out.2.2 _ (Nat.le_refl _))
    have FS : Hid (TE w p PC o (.slice ap pl.length cp) pl wS ∧ BXs wS [(gy, A4, x), (gx, A3, x), (gb, A2, q1), (ga, A1, q1), (gc, CC, p)] ∧ PBox wS _ (dueP p pl) v5 ∧ SlK cShip wS v5 (dueP p pl).ships ∧ SlK cInt wS (.slice aw nw cw) (ints (dues p pl))) := ⟨FD.out.1.later hb, FD.out.2.later hb, hS.out.1, slK_ofRow (ownsRow_same RD.out.1 (fun k hk => hS.out.2.1 k (by omega))), slK_ofRow (ownsRow_same RD.out.2 (fun k hk => hS.out.2.1 k (by omega)))⟩
    refine hK.out _ _ ⟨FS.out.1, FS.out.2.1⟩ (fun hHeld => ?_)
    clear hK K
    refine wpAnyH_take (i := 9) (oi := { dst := some 19, op := Op.assign (Operand.tmp 54), type := 57, pos := "law.go:95", after := #[{ on := 6, ground := Ground.data }, { on := 8, ground := Ground.chain }, { on := 0, ground := Ground.phase }, { on := 1, ground := Ground.phase }, { on := 2, ground := Ground.phase }, { on := 3, ground := Ground.phase }, { on := 4, ground := Ground.phase }, { on := 5, ground := Ground.phase }, { on := 6, ground := Ground.phase }, { on := 7, ground := Ground.phase }, { on := 8, ground := Ground.phase }], guard := none }) (v := .slice aw nw cw) rfl (by kernel_rfl) (by kernel_rfl) (by kernel_rfl) (fun _ _ _ h => h) (Or.inl ⟨by rfl, by intro w hSw; go_simp⟩) hHeld ?_
    simp only [Act.put, List.setIfInBounds_toArray, List.set_cons_zero, List.set_cons_succ]
    refine wpAnyH_done (by kernel_rfl) ?_ _
    go_wp2_with fail
    go_meet
    exact ⟨_, _, _, rfl, rfl, FS.out.1, FS.out.2.1.cons ⟨v5, rfl, FS.out.2.2.1, FS.out.2.2.2.1, hdl0⟩, FS.out.2.2.2.2⟩
  case rest =>
    obtain ⟨gq, v19, A5, rfl, rfl, FC⟩ := hcut
    clear FD HDU CSZ
    go_wp2_with (refine wpList_load_bx rfl _ rfl w.heap.size PC p rfl FC.out.1.box ?_)
    refine (HRD _ _ FC.out.1.box.pv FC.out.1.plan).mono ?_
    rintro e w4 ⟨v6, v21, rfl, hd⟩
    have on := slOne hd.out.1
    have FE : Hid (TE w p PC o (.slice ap pl.length cp) pl w4 ∧ BXs w4 [(gq, A5, dueP p pl), (gy, A4, x), (gx, A3, x), (gb, A2, q1), (ga, A1, q1), (gc, CC, p)] ∧ SlK cInt w4 u19 (ints (dues p pl)) ∧ SlK cInt w4 v21 (ints (dues p pl)) ∧ SlK cShip w4 v6 (dueP p pl).ships) := ⟨FC.out.1.later hd.out.2.2, FC.out.2.1.later hd.out.2.2, FC.out.2.2.below hd.out.2.2, hd.out.2.1, hd.out.1⟩
    clear hd FC HRD
    have hdl : (dueP p pl).ships.length ≤ 2932031007317 := by rw [due_len]; exact hmx
    go_upto_region 8 with (first | (refine wpList_alloc_box rfl rfl 20 rfl ?_; intro w2 hw2 hs2) | (refine wpList_store_box rfl _ _ rfl w4.heap.size zeroPt (dueP p pl) (.slice none 0 0) v6 rfl rfl hw2.out.1 h4 on ?_; intro w3 hw3 hs3))
    have FF : Hid (TE w p PC o (.slice ap pl.length cp) pl w3 ∧ BXs w3 [(w4.heap.size, (portCells (dueP p pl) v6).toArray, dueP p pl), (gq, A5, dueP p pl), (gy, A4, x), (gx, A3, x), (gb, A2, q1), (ga, A1, q1), (gc, CC, p)] ∧ SlK cInt w3 u19 (ints (dues p pl)) ∧ SlK cInt w3 v21 (ints (dues p pl))) := by
      have hb : Below w4.heap.size w4 w3 := hw2.out.2.trans (hw3.out.2.2 _ (Nat.le_refl _))
      exact ⟨FE.out.1.later hb, (FE.out.2.1.later hb).cons ⟨v6, rfl, hw3.out.1, FE.out.2.2.2.2.below hb, hdl⟩, FE.out.2.2.1.below hb, FE.out.2.2.2.1.below hb⟩
    clear FE hw2 hw3 hs2 hs3 on
    generalize w4.heap.size = gr at *
    generalize (portCells (dueP p pl) v6).toArray = A6 at *
    obtain ⟨a19, n19, c19, h19⟩ : ∃ a n c, u19 = .slice a n c := by obtain ⟨a, c, e, _⟩ := FF.out.2.2.1; exact ⟨a, _, c, e⟩
    obtain ⟨a21, n21, c21, h21⟩ : ∃ a n c, v21 = .slice a n c := by obtain ⟨a, c, e, _⟩ := FF.out.2.2.2; exact ⟨a, _, c, e⟩
    subst h19 h21
    have hnd : (ints (dues p pl)).length ≤ 17592186044416 := by rw [ints_len]; have := whoTo_len p pl p.ships.length; have e : whoTo p pl p.ships.length = dues p pl := rfl; rw [e] at this; omega
    have C8 : Hid (∀ W W', Below W.heap.size W W' → TE w p PC o (.slice ap pl.length cp) pl W ∧ BXs W [(gr, A6, dueP p pl), (gq, A5, dueP p pl), (gy, A4, x), (gx, A3, x), (gb, A2, q1), (ga, A1, q1), (gc, CC, p)] ∧ SlK cInt W (.slice a19 n19 c19) (ints (dues p pl)) ∧ SlK cInt W (.slice a21 n21 c21) (ints (dues p pl)) → TE w p PC o (.slice ap pl.length cp) pl W' ∧ BXs W' [(gr, A6, dueP p pl), (gq, A5, dueP p pl), (gy, A4, x), (gx, A3, x), (gb, A2, q1), (ga, A1, q1), (gc, CC, p)] ∧ SlK cInt W' (.slice a19 n19 c19) (ints (dues p pl)) ∧ SlK cInt W' (.slice a21 n21 c21) (ints (dues p pl))) := fun W W' hb h => ⟨h.1.later hb, h.2.1.later hb, h.2.2.1.below hb, h.2.2.2.below hb⟩
    go_wp2_with (first | (refine wpList_load_bx rfl _ rfl ga A1 q1 rfl FF.out.2.1.tl.tl.tl.tl.tl.hd ?_) | (refine wpList_load_bx rfl _ rfl gb A2 q1 rfl FF.out.2.1.tl.tl.tl.tl.hd ?_))
    refine (same_bx FF.out.2.1.tl.tl.tl.tl.tl.hd FF.out.2.1.tl.tl.tl.tl.hd).mono ?_
    rintro e wa ⟨rfl, hba⟩
    have G1 : Hid (TE w p PC o (.slice ap pl.length cp) pl wa ∧ BXs wa [(gr, A6, dueP p pl), (gq, A5, dueP p pl), (gy, A4, x), (gx, A3, x), (gb, A2, q1), (ga, A1, q1), (gc, CC, p)] ∧ SlK cInt wa (.slice a19 n19 c19) (ints (dues p pl)) ∧ SlK cInt wa (.slice a21 n21 c21) (ints (dues p pl))) := C8.out _ _ hba FF.out
    clear hba FF
    go_wp2_with (first | (refine wpList_load_bx_g (by first | rfl | (simp [Region.wanted, yielded]; done)) _ rfl gx A3 x rfl G1.out.2.1.tl.tl.tl.hd ?_) | (refine wpList_load_bx_g (by first | rfl | (simp [Region.wanted, yielded]; done)) _ rfl gy A4 x rfl G1.out.2.1.tl.tl.hd ?_))
    refine (same_bx G1.out.2.1.tl.tl.tl.hd G1.out.2.1.tl.tl.hd).mono ?_
    rintro e wb ⟨rfl, hbb⟩
    have G2 : Hid (TE w p PC o (.slice ap pl.length cp) pl wb ∧ BXs wb [(gr, A6, dueP p pl), (gq, A5, dueP p pl), (gy, A4, x), (gx, A3, x), (gb, A2, q1), (ga, A1, q1), (gc, CC, p)] ∧ SlK cInt wb (.slice a19 n19 c19) (ints (dues p pl)) ∧ SlK cInt wb (.slice a21 n21 c21) (ints (dues p pl))) := C8.out _ _ hbb G1.out
    clear hbb G1
    go_wp2_with (first | (refine wpList_load_bx_g (by first | rfl | (simp [Region.wanted, yielded]; done)) _ rfl gq A5 (dueP p pl) rfl G2.out.2.1.tl.hd ?_) | (refine wpList_load_bx_g (by first | rfl | (simp [Region.wanted, yielded]; done)) _ rfl gr A6 (dueP p pl) rfl G2.out.2.1.hd ?_))
    refine (same_bx G2.out.2.1.tl.hd G2.out.2.1.hd).mono ?_
    rintro e wd ⟨rfl, hbd⟩
    have G3 : Hid (TE w p PC o (.slice ap pl.length cp) pl wd ∧ BXs wd [(gr, A6, dueP p pl), (gq, A5, dueP p pl), (gy, A4, x), (gx, A3, x), (gb, A2, q1), (ga, A1, q1), (gc, CC, p)] ∧ SlK cInt wd (.slice a19 n19 c19) (ints (dues p pl)) ∧ SlK cInt wd (.slice a21 n21 c21) (ints (dues p pl))) := C8.out _ _ hbd G2.out
    clear hbd G2
    go_wp2_with fail
    refine (sameI_any _ _ _ _ _ G3.out.2.2.1 G3.out.2.2.2 hnd hnd).mono ?_
    rintro e we ⟨rfl, hbe⟩
    rw [decide_eq_true (rfl : ints (dues p pl) = ints (dues p pl))]
    have G4 : Hid (TE w p PC o (.slice ap pl.length cp) pl we ∧ BXs we [(gr, A6, dueP p pl), (gq, A5, dueP p pl), (gy, A4, x), (gx, A3, x), (gb, A2, q1), (ga, A1, q1), (gc, CC, p)] ∧ SlK cInt we (.slice a19 n19 c19) (ints (dues p pl)) ∧ SlK cInt we (.slice a21 n21 c21) (ints (dues p pl))) := C8.out _ _ hbe G3.out
    clear hbe G3
    go_wp2_with (first | (refine wpList_load_bx_g (by first | rfl | (simp [Region.wanted, yielded]; done)) _ rfl gc CC p rfl G4.out.2.1.tl.tl.tl.tl.tl.tl.hd ?_) | (refine wpList_load_bx_g (by first | rfl | (simp [Region.wanted, yielded]; done)) _ rfl w.heap.size PC p rfl G4.out.1.box ?_))
    refine (same_bx G4.out.2.1.tl.tl.tl.tl.tl.tl.hd G4.out.1.box).mono ?_
    rintro e wf ⟨rfl, hbf⟩
    have G5 : Hid (TE w p PC o (.slice ap pl.length cp) pl wf ∧ BXs wf [(gr, A6, dueP p pl), (gq, A5, dueP p pl), (gy, A4, x), (gx, A3, x), (gb, A2, q1), (ga, A1, q1), (gc, CC, p)] ∧ SlK cInt wf (.slice a19 n19 c19) (ints (dues p pl)) ∧ SlK cInt wf (.slice a21 n21 c21) (ints (dues p pl))) := C8.out _ _ hbf G4.out
    clear hbf G4
    go_wp2_with fail
    refine (lawPorts_any _).mono ?_
    rintro e wh ⟨rfl, hbh⟩
    have G6 : Hid (TE w p PC o (.slice ap pl.length cp) pl wh ∧ BXs wh [(gr, A6, dueP p pl), (gq, A5, dueP p pl), (gy, A4, x), (gx, A3, x), (gb, A2, q1), (ga, A1, q1), (gc, CC, p)] ∧ SlK cInt wh (.slice a19 n19 c19) (ints (dues p pl)) ∧ SlK cInt wh (.slice a21 n21 c21) (ints (dues p pl))) := C8.out _ _ hbh G5.out
    clear hbh G5
    go_wp2_with fail
    go_ret
    exact ⟨rfl, G6.out.1.below⟩

end Go.Proofs.Ytfdnbgfgjelkcaa
