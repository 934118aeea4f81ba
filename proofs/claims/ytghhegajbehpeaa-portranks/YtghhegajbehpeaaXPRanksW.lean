/- Texts of this claim, in one: PRanksW. -/
import Derived.Test.YtghhegajbehpeaaQ8
import Derived.Test.YtghhegajbehpeaaXPFirstW
import Derived.Test.YtghhegajbehpeaaQ7
/- PortRanks' walk: an order about one that waits moves nobody who is ahead of it. -/
set_option linter.unusedSimpArgs false
set_option linter.unusedVariables false
namespace Go.Proofs.Ytghhegajbehpeaa
open Go.RowKit


/-- Tell of the orders of PortRanks -/
theorem tellRank_any (v : Value) (p : Pt) (o : Ord) (w : World) (hv : PtV w v p) (hp : IsPort p) (hk : o.kd = 1 ∨ o.kd = 2 ∨ o.kd = 3 ∨ o.kd = 5) :
    Calls Try.prog 44 #[v, .agg #[.int .i64 o.kd, .int .i64 o.a, .int .i64 o.b, .int .i64 o.c]] w fun e w' => TellPost w (TellIs (RankR p o.kd o.a o.b o.c) p) e w' := by
  refine tell_any v p o (RankR p o.kd o.a o.b o.c) w hv (WfQ.of hp) (fun hp n e q h => rankR_wf hp h) (fun hp g B vs W hq hne => ?_)
  have hl := hp.port.len
  have hx := hp.port.next
  by_cases h1 : o.kd = 1
  · have H := obeyCome_any g B p vs o.a o.b o.c W hq hne (by omega) (by omega) (by omega)
    rw [h1]
    refine H.mono ?_
    rintro e w' ⟨n, er, rfl, h⟩
    obtain ⟨q', vs', d1, d2⟩ := h.out
    exact ⟨n, er, rfl, ⟨q', vs', Or.inl ⟨rfl, d1⟩, d2⟩⟩
  · refine (obeyMove_any g B p vs o.kd o.a o.b o.c W hq hp (by omega)).mono ?_
    rintro e w' ⟨n, er, rfl, h⟩
    obtain ⟨q', vs', d1, d2⟩ := h.out
    exact ⟨n, er, rfl, ⟨q', vs', Or.inr ⟨by omega, d1⟩, d2⟩⟩

/-- what stays as it is while PortRanks runs -/
structure KEnv (w : World) (p : Pt) (vs : Value) (o : Ord) (W : World) : Prop where
  below : Below w.heap.size w W
  box : PBox W w.heap.size p vs
  ord : OBox W (w.heap.size + 1) o
  pv : PtV W (.agg (portCells p vs).toArray) p
  ps : SlK cShip W vs p.ships

theorem KEnv.later {w W W' : World} {p : Pt} {vs : Value} {o : Ord} (h : KEnv w p vs o W) (hb : Below W.heap.size W W') : KEnv w p vs o W' :=
  ⟨h.below.trans (hb.mono h.below.size), h.box.later hb h.box.lt, h.ord.later hb h.ord.lt, h.pv.below hb, h.ps.below hb⟩

/-- .. and what the order has made -/
structure KEnv2 (w : World) (p : Pt) (vs : Value) (o : Ord) (q : Pt) (vq : Value) (gq : Nat) (W : World) : Prop where
  env : KEnv w p vs o W
  qbox : PBox W gq q vq
  qv : PtV W (.agg (portCells q vq).toArray) q
  qs : SlK cShip W vq q.ships

theorem KEnv2.later {w W W' : World} {p q : Pt} {vs vq : Value} {o : Ord} {gq : Nat} (h : KEnv2 w p vs o q vq gq W) (hb : Below W.heap.size W W') : KEnv2 w p vs o q vq gq W' :=
  ⟨h.env.later hb, h.qbox.later hb h.qbox.lt, h.qv.below hb, h.qs.below hb⟩

set_option maxHeartbeats 8000000 in
set_option maxRecDepth 100000 in
theorem portRanks_any (v : Value) (p : Pt) (o : Ord) (w : World) (hv : PtV w v p) (hf : WfP p) (ho : WfO o) :
    Calls Try.prog 10 #[v, .agg #[.int .i64 o.kd, .int .i64 o.a, .int .i64 o.b, .int .i64 o.c]] w fun e w' => e = .returned (.bool true) ∧ Below w.heap.size w w' := by
  obtain ⟨vs, rfl, hsl, h4, hmx⟩ := hv
  have HV : Hid (PtV w (.agg (portCells p vs).toArray) p) := ⟨vs, rfl, hsl, h4, hmx⟩
  have E0 : Hid (KEnv w p vs o ((w.alloc (.cells (portCells p vs).toArray 46)).alloc (.cells #[.int .i64 o.kd, .int .i64 o.a, .int .i64 o.b, .int .i64 o.c] 61))) := by
    have X0 : PBox (w.alloc (.cells (portCells p vs).toArray 46)) w.heap.size p vs := PBox.new w p _ h4
    have B0 : Below w.heap.size w (w.alloc (.cells (portCells p vs).toArray 46)) := (Below.refl _ w).alloc (Nat.le_refl _) _
    have X1 : PBox ((w.alloc (.cells (portCells p vs).toArray 46)).alloc (.cells #[.int .i64 o.kd, .int .i64 o.a, .int .i64 o.b, .int .i64 o.c] 61)) w.heap.size p vs := X0.later ((Below.refl _ _).alloc (Nat.le_refl _) _) X0.lt
    have B1 : Below w.heap.size w ((w.alloc (.cells (portCells p vs).toArray 46)).alloc (.cells #[.int .i64 o.kd, .int .i64 o.a, .int .i64 o.b, .int .i64 o.c] 61)) := B0.alloc B0.size _
    have O1 : OBox ((w.alloc (.cells (portCells p vs).toArray 46)).alloc (.cells #[.int .i64 o.kd, .int .i64 o.a, .int .i64 o.b, .int .i64 o.c] 61)) (w.heap.size + 1) o := by
      have h := OBox.new (w.alloc (.cells (portCells p vs).toArray 46)) o
      have e : (w.alloc (.cells (portCells p vs).toArray 46)).heap.size = w.heap.size + 1 := by simp
      rw [e] at h; exact h
    exact ⟨B1, X1, O1, HV.out.below B1, hsl.below B1⟩
  have hq := hf.q
  obtain ⟨ap, cp, rfl, hcp, _⟩ := hsl
  by_cases hp : IsPort p
  case neg =>
    have HG := fun W h => goodPort_not (.agg (portCells p (.slice ap p.ships.length cp)).toArray) p W h hq hp
    have V0 : Hid (PtV _ _ _) := E0.out.pv
    clear hp hq HV
    generalize hPC : (portCells p (.slice ap p.ships.length cp)).toArray = PC at *
    have HPC : Hid ((portCells p (.slice ap p.ships.length cp)).toArray = PC) := hPC
    clear hPC
    generalize hWA : (w.alloc (.cells PC 46)).alloc (.cells #[.int .i64 o.kd, .int .i64 o.a, .int .i64 o.b, .int .i64 o.c] 61) = WA at *
    obtain ⟨oc0, oc1, oc2, oc3⟩ := E0.out.ord.cells
    go_enter Try.func10, Try.ntmps10
    go_wp2_with (first | (rw [hWA]) | (refine wpList_load_box rfl _ rfl w.heap.size p (.slice ap p.ships.length cp) rfl E0.out.box ?_; rw [HPC.out]))
    refine (HG _ V0.out).mono ?_
    rintro e w1 ⟨rfl, hw1⟩
    have B1 : Hid (Below w.heap.size w w1) := E0.out.below.trans (hw1.mono E0.out.below.size)
    clear hw1 E0 HG V0 oc0 oc1 oc2 oc3
    go_wp2_with fail
    refine (keepPorts_any w1).mono ?_
    rintro e w2 ⟨rfl, hw2⟩
    have B2 : Hid (Below w.heap.size w w2) := B1.out.trans (hw2.mono B1.out.size)
    go_wp2_with fail
    go_ret
    exact ⟨rfl, B2.out⟩
  have HP : Hid (IsPort p) := hp
  have HG := fun W h => goodPort_yes (.agg (portCells p (.slice ap p.ships.length cp)).toArray) p W h hp
  have HPA := fun W h => plan_any (.agg (portCells p (.slice ap p.ships.length cp)).toArray) p W h hp
  have V0 : Hid (PtV _ _ _) := E0.out.pv
  by_cases hk : o.kd = 1 ∨ o.kd = 2 ∨ o.kd = 3 ∨ o.kd = 5
  case neg =>
    have hb1 : (o.kd != 1) = true := by simp; omega
    have hb2 : (o.kd != 2) = true := by simp; omega
    have hb3 : (o.kd != 3) = true := by simp; omega
    have hb5 : (o.kd != 5) = true := by simp; omega
    clear hp hq HV hk HPA
    generalize hPC : (portCells p (.slice ap p.ships.length cp)).toArray = PC at *
    have HPC : Hid ((portCells p (.slice ap p.ships.length cp)).toArray = PC) := hPC
    clear hPC
    generalize hWA : (w.alloc (.cells PC 46)).alloc (.cells #[.int .i64 o.kd, .int .i64 o.a, .int .i64 o.b, .int .i64 o.c] 61) = WA at *
    go_enter Try.func10, Try.ntmps10
    go_wp2_with (first | (refine wpList_load_box rfl _ rfl w.heap.size p (.slice ap p.ships.length cp) rfl E0.out.box ?_; rw [HPC.out]))
    refine (HG _ V0.out).mono ?_
    rintro e w1 ⟨rfl, hw1⟩
    have E1 : Hid (KEnv w p (.slice ap p.ships.length cp) o w1) := E0.out.later hw1
    obtain ⟨oc0, oc1, oc2, oc3⟩ := E1.out.ord.cells
    clear hw1 E0 HG V0
    go_wp2_with fail
    refine (keepPorts_any w1).mono ?_
    rintro e w2 ⟨rfl, hw2⟩
    have B2 : Hid (Below w.heap.size w w2) := E1.out.below.trans (hw2.mono E1.out.below.size)
    go_wp2_with fail
    go_ret
    exact ⟨rfl, B2.out⟩
  have HTA := fun W h => tellRank_any (.agg (portCells p (.slice ap p.ships.length cp)).toArray) p o W h hp hk
  have hlen := hp.port.len
  have hnow := hp.port.now
  clear hp hq HV
  generalize hPC : (portCells p (.slice ap p.ships.length cp)).toArray = PC at *
  have HPC : Hid ((portCells p (.slice ap p.ships.length cp)).toArray = PC) := hPC
  clear hPC
  generalize hWA : (w.alloc (.cells PC 46)).alloc (.cells #[.int .i64 o.kd, .int .i64 o.a, .int .i64 o.b, .int .i64 o.c] 61) = WA at *
  go_enter Try.func10, Try.ntmps10
  go_upto_region 1 with fail
  go_cut [36] (fun s36 wc => s36 = .bool false ∧ Hid (KEnv w p (.slice ap p.ships.length cp) o wc))
  case first =>
    go_wp2_with (first | (refine wpList_load_box rfl _ rfl w.heap.size p (.slice ap p.ships.length cp) rfl E0.out.box ?_; rw [HPC.out]))
    refine (HG _ V0.out).mono ?_
    rintro e w1 ⟨rfl, hw1⟩
    have E1 : Hid (KEnv w p (.slice ap p.ships.length cp) o w1) := E0.out.later hw1
    obtain ⟨oc0, oc1, oc2, oc3⟩ := E1.out.ord.cells
    clear hw1 E0 HG V0 HTA HPA
    rcases hk with h | h | h | h
    all_goals
      rw [h] at oc0
      clear h
      go_wp2_with fail
      go_meet
      exact ⟨rfl, E1⟩
  case rest =>
    obtain ⟨rfl, E1⟩ := hcut
    obtain ⟨oc0, oc1, oc2, oc3⟩ := E1.out.ord.cells
    have V1 : Hid (PtV wc (.agg PC) p) := by have h := E1.out.pv; rw [HPC.out] at h; exact h
    clear E0 V0 HG
    go_wp2_with (first | (refine wpList_load_box rfl _ rfl w.heap.size p (.slice ap p.ships.length cp) rfl E1.out.box ?_; rw [HPC.out]))
    refine (HTA _ V1.out).mono ?_
    rintro e w2 ⟨q, vq, n, er, rfl, hT, hq4, hqm, hqo, hb2⟩
    have TI : Hid (TellIs (RankR p o.kd o.a o.b o.c) p n er q) := hT
    have on := ownsRow_one hqo
    obtain ⟨aq, cq, rfl⟩ := ownsRow_slice hqo
    have E2 : Hid (KEnv w p (.slice ap p.ships.length cp) o w2 ∧ SlK cShip w2 (.slice aq q.ships.length cq) q.ships ∧ q.kept.length = 4 ∧ q.ships.length ≤ 2932031007317) := ⟨E1.out.later hb2, slK_ofRow hqo, hq4, hqm⟩
    clear hT hqo hb2 V1 E1 oc0 oc1 oc2 oc3 HTA
    go_upto_region 4 with (first | (refine wpList_alloc_box rfl rfl 5 rfl ?_; intro w3 hw3 hs3) | (refine wpList_store_box rfl _ _ rfl w2.heap.size zeroPt q (.slice none 0 0) (.slice aq q.ships.length cq) rfl rfl hw3.out.1 hq4 on ?_; intro w4 hw4 hs4))
    have E4 : Hid (KEnv2 w p (.slice ap p.ships.length cp) o q (.slice aq q.ships.length cq) w2.heap.size w4) := by
      have hb : Below w2.heap.size w2 w4 := hw3.out.2.trans (hw4.out.2.2 _ (Nat.le_refl _))
      have hsq := E2.out.2.1.below hb
      exact ⟨E2.out.1.later hb, hw4.out.1, ⟨_, rfl, hsq, E2.out.2.2.1, E2.out.2.2.2⟩, hsq⟩
    generalize w2.heap.size = gq at *
    clear E2 hw3 hw4 hs3 hs4 on
    by_cases he : er = 0
    case neg =>
      have hen : (er != 0) = true := by simp [he]
      have B4 : Hid (Below w.heap.size w w4) := E4.out.env.below
      clear E4 TI he HPA
      go_wp2_with fail
      refine (keepPorts_any w4).mono ?_
      rintro e w5 ⟨rfl, hw5⟩
      have B5 : Hid (Below w.heap.size w w5) := B4.out.trans (hw5.mono B4.out.size)
      go_wp2_with fail
      go_ret
      exact ⟨rfl, B5.out⟩
    subst he
    obtain ⟨hIQ, hRQ⟩ : IsPort q ∧ RankR p o.kd o.a o.b o.c n 0 q := by
      rcases TI.out with ⟨h, _⟩ | ⟨_, n0, e0, q0, hR, h⟩
      · exact absurd HP.out h
      · rcases h with ⟨h1, _, h2, _⟩ | ⟨_, _, _, h2, _⟩ | ⟨h1, h2, h3, _, h5⟩
        · exact absurd h2.symm h1
        · exact absurd h2 (by decide)
        · subst h1 h3 h5
          exact ⟨h2, hR⟩
    have QI : Hid (IsPort q) := hIQ
    obtain ⟨j, hj1, hj2, hj3⟩ := rankR_ahead hRQ
    have AH : Hid ((o.kd = 1 ∨ (shp p j).st = 1) → Ahead p q j) := hj3
    have hlq := hIQ.port.len
    have HPQ := fun W h => plan_any (.agg (portCells q (.slice aq q.ships.length cq)).toArray) q W h hIQ
    clear TI hIQ hRQ hj3
    generalize hQC : (portCells q (.slice aq q.ships.length cq)).toArray = QC at *
    have HQC : Hid ((portCells q (.slice aq q.ships.length cq)).toArray = QC) := hQC
    clear hQC
    go_upto_region 6 with (first | (go_at_call 50; refine (keepPorts_any _).mono ?_; rintro e w5 ⟨rfl, hw5⟩))
    have E5 : Hid (KEnv2 w p (.slice ap p.ships.length cp) o q (.slice aq q.ships.length cq) gq w5) := E4.out.later hw5
    clear E4 hw5
    obtain ⟨oc0, oc1, oc2, oc3⟩ := E5.out.env.ord.cells
    have kk : (o.kd = 1 ∧ (o.kd != 1) = false) ∨ (o.kd ≠ 1 ∧ (o.kd != 1) = true) := by
      by_cases h : o.kd = 1
      · exact Or.inl ⟨h, by simp [h]⟩
      · exact Or.inr ⟨h, by simp [h]⟩
    have pc1 := E5.out.env.box.cells.2.1
    go_upto_if 54 with fail
    go_cut [6] (fun s6 wc => s6 = .int .i64 (j : Int) ∧ wc = w5 ∧ Hid (Ahead p q j))
    case first =>
      rcases kk with ⟨h1, hb⟩ | ⟨h1, hb⟩
      · have e : n = (j : Int) := by rw [← hj1]; unfold rankN; rw [if_pos h1]
        have HA : Hid (Ahead p q j) := AH.out (Or.inl h1)
        clear h1 hj1 hj2 hk
        subst e
        go_wp2_with fail
        go_meet
        exact ⟨rfl, rfl, HA⟩
      · have e : o.a = (j : Int) := by rw [← hj1]; unfold rankN; rw [if_neg h1]
        have hjp : j < p.ships.length := by
          rcases hj2 with h | h
          · exact absurd h h1
          · exact h
        obtain ⟨s, hs⟩ : ∃ s, p.ships[j]? = some s := ⟨p.ships[j], List.getElem?_eq_getElem hjp⟩
        obtain ⟨bp, op, rfl, hrp⟩ : ∃ b off, ap = some ⟨b, off, none⟩ ∧ RdK cShip w5 b off p.ships := by
          obtain ⟨x1, x2, e, _, h⟩ := E5.out.env.ps
          injection e with e1 _ _
          subst e1
          rcases h with h | h
          · rw [h] at hs; cases hs
          · exact h
        obtain ⟨c0, c1, c2, c3, c4, c5⟩ := hrp.ship hs
        have hj3 : (j : Int) < (p.ships.length : Int) := by omega
        have esh : shp p j = s := shp_get hs
        rw [e] at oc1
        by_cases hst : s.st = 1
        · have HA : Hid (Ahead p q j) := AH.out (Or.inr (by rw [esh]; exact hst))
          rw [hst] at c0
          clear h1 hj1 hj2 e hk hst
          go_wp2_with fail
          go_meet
          exact ⟨rfl, rfl, HA⟩
        · have hbs : (s.st != 1) = true := by simp [hst]
          have B5 : Hid (Below w.heap.size w w5) := E5.out.env.below
          clear h1 hj1 hj2 e hk hst
          go_wp2_with fail
          go_ret
          exact ⟨rfl, B5.out⟩
    case rest =>
      obtain ⟨rfl, rfl, HA⟩ := hcut
      clear oc0 oc1 oc2 oc3 pc1 AH kk hj1 hj2 hk
      have VP : Hid (PtV wc (.agg PC) p) := by have h := E5.out.env.pv; rw [HPC.out] at h; exact h
      have VQ : Hid (PtV wc (.agg QC) q) := by have h := E5.out.qv; rw [HQC.out] at h; exact h
      have ED : Hid (KEnv2 w p (.slice ap p.ships.length cp) o q (.slice aq q.ships.length cq) gq wc.drew) := E5.out.later ((Below.refl _ _).drew)
      have VPD : Hid (PtV wc.drew (.agg PC) p) := VP.out.below ((Below.refl _ _).drew)
      have VQD : Hid (PtV wc.drew (.agg QC) q) := VQ.out.below ((Below.refl _ _).drew)
      have hq4' : q.kept.length = 4 := E5.out.qbox.1
      go_upto_region 10 with fail
      go_cut [8, 9] (fun s8 s9 wd => Hid (∃ x y, PlanIs p x ∧ PlanIs q y ∧ KEnv2 w p (.slice ap p.ships.length cp) o q (.slice aq q.ships.length cq) gq wd ∧ SlK cInt wd s8 x ∧ SlK cInt wd s9 y))
      case first =>
        refine wp_region_held_drew (S := fun W => Hid (KEnv2 w p (.slice ap p.ships.length cp) o q (.slice aq q.ships.length cq) gq W ∧ PtV W (.agg PC) p ∧ PtV W (.agg QC) q)) (by kernel_rfl) ⟨ED.out, VPD.out, VQD.out⟩ (fun hHeld => ?_)
        refine wpAnyH_take (i := 0) (v := .agg (portCells p (.slice ap p.ships.length cp)).toArray) rfl (by kernel_rfl) (by kernel_rfl) (by kernel_rfl) (fun _ _ _ h => h) (yieldsIf_load_mid (by rfl) 46 (.tmp 2) rfl w.heap.size 0 rfl (portCells p (.slice ap p.ships.length cp)) _ (fun W hW => hW.out.1.env.box.whole) Try.underlying46 rfl (portInfo p _ h4)) hHeld ?_
        rw [HPC.out]
        try simp only [Act.put, List.setIfInBounds_toArray, List.set_cons_zero, List.set_cons_succ]
        refine wpAnyH_take (i := 2) (v := .agg (portCells q (.slice aq q.ships.length cq)).toArray) rfl (by kernel_rfl) (by kernel_rfl) (by kernel_rfl) (fun _ _ _ h => h) (yieldsIf_load_mid (by rfl) 46 (.tmp 5) rfl gq 0 rfl (portCells q (.slice aq q.ships.length cq)) _ (fun W hW => hW.out.1.qbox.whole) Try.underlying46 rfl (portInfo q _ hq4')) hHeld ?_
        rw [HQC.out]
        try simp only [Act.put, List.setIfInBounds_toArray, List.set_cons_zero, List.set_cons_succ]
        refine wpAnyH_ready (rs := [1]) (by kernel_rfl) (by simp) ?_
        refine AllReadyH.cons rfl (fun K hK => ?_) AllReadyH.nil
        go_simp
        refine (HPA _ hHeld.out.2.1).mono ?_
        rintro e wp ⟨⟨vp, rfl, hvp⟩, hbp⟩
        have EP : Hid (KEnv2 w p (.slice ap p.ships.length cp) o q (.slice aq q.ships.length cq) gq wp ∧ PtV wp (.agg PC) p ∧ PtV wp (.agg QC) q) := ⟨hHeld.out.1.later hbp, hHeld.out.2.1.below hbp, hHeld.out.2.2.below hbp⟩
        have FP : Hid (∃ x, PlanIs p x ∧ SlK cInt wp vp x) := (by obtain ⟨x, h1, _, h2⟩ := hvp.out; exact ⟨x, h1, h2⟩)
        clear hbp hvp hHeld
        go_wp2_with fail
        refine hK.out _ _ EP (fun hHeld => ?_)
        clear hK K EP
        refine wpAnyH_ready (rs := [3]) (by kernel_rfl) (by simp) ?_
        refine AllReadyH.cons rfl (fun K hK => ?_) AllReadyH.nil
        go_simp
        refine (HPQ _ hHeld.out.2.2).mono ?_
        rintro e wq ⟨⟨vq, rfl, hvq⟩, hbq⟩
        have EQ : Hid (KEnv2 w p (.slice ap p.ships.length cp) o q (.slice aq q.ships.length cq) gq wq ∧ PtV wq (.agg PC) p ∧ PtV wq (.agg QC) q) := ⟨hHeld.out.1.later hbq, hHeld.out.2.1.below hbq, hHeld.out.2.2.below hbq⟩
        have FQ : Hid (∃ x y, PlanIs p x ∧ PlanIs q y ∧ KEnv2 w p (.slice ap p.ships.length cp) o q (.slice aq q.ships.length cq) gq wq ∧ SlK cInt wq vp x ∧ SlK cInt wq vq y) := (by obtain ⟨x, h1, h2⟩ := FP.out; obtain ⟨y, h3, _, h4⟩ := hvq.out; exact ⟨x, y, h1, h3, hHeld.out.1.later hbq, h2.below hbq, h4⟩)
        clear hbq hvq hHeld FP
        go_wp2_with fail
        refine hK.out _ _ EQ (fun hHeld => ?_)
        clear hK K EQ
        refine wpAnyH_ready (rs := [4]) (by kernel_rfl) (by simp) ?_
        refine AllReadyH.cons rfl (fun K hK => ?_) AllReadyH.nil
        go_simp
        refine hK.out _ _ hHeld (fun hHeld => ?_)
        clear hK K
        refine wpAnyH_ready (rs := [5]) (by kernel_rfl) (by simp) ?_
        refine AllReadyH.cons rfl (fun K hK => ?_) AllReadyH.nil
        go_simp
        refine hK.out _ _ hHeld (fun hHeld => ?_)
        clear hK K
        refine wpAnyH_done (by kernel_rfl) ?_ _
        go_wp2_with fail
        go_meet
        exact FQ
      case rest =>
        obtain ⟨x, y, hx, hy, hE, hsx, hsy⟩ := hcut.out
        have hxl := hx.len
        have hyl := hy.len
        have PLN : Hid (∀ k, k < p.ships.length → (shp p k).st = 1 → before (shp p k) (shp q j) → x.getD k (-1) = y.getD k (-1)) := fun k h1 h2 h3 => HA.out.plan hnow.1 hx hy h1 h2 h3
        have hle := HA.out.le
        have hjq := HA.out.lt
        obtain ⟨s, hs⟩ : ∃ s, q.ships[j]? = some s := ⟨q.ships[j], List.getElem?_eq_getElem hjq⟩
        have ESH : Hid (shp q j = s) := shp_get hs
        obtain ⟨bq, oq, rfl, hrq⟩ : ∃ b off, aq = some ⟨b, off, none⟩ ∧ RdK cShip wc b off q.ships := by
          obtain ⟨x1, x2, e, _, h⟩ := hE.qs
          injection e with e1 _ _
          subst e1
          rcases h with h | h
          · rw [h] at hs; cases hs
          · exact h
        obtain ⟨c0, c1, c2, c3, c4, c5⟩ := hrq.ship hs
        have qc1 := hE.qbox.cells.2.1
        have hbw : Below wc.heap.size wc (wc.alloc (.cells #[.int .i64 s.st, .int .i64 s.wd, .int .i64 s.lg, .int .i64 s.cl, .int .i64 s.si, .int .i64 s.qu] 48)) := (Below.refl _ wc).alloc (Nat.le_refl _) _
        have E6 : Hid (KEnv2 w p (.slice ap p.ships.length cp) o q (.slice (some ⟨bq, oq, none⟩) q.ships.length cq) gq (wc.alloc (.cells #[.int .i64 s.st, .int .i64 s.wd, .int .i64 s.lg, .int .i64 s.cl, .int .i64 s.si, .int .i64 s.qu] 48)) ∧ SlK cInt (wc.alloc (.cells #[.int .i64 s.st, .int .i64 s.wd, .int .i64 s.lg, .int .i64 s.cl, .int .i64 s.si, .int .i64 s.qu] 48)) u8 x ∧ SlK cInt (wc.alloc (.cells #[.int .i64 s.st, .int .i64 s.wd, .int .i64 s.lg, .int .i64 s.cl, .int .i64 s.si, .int .i64 s.qu] 48)) u9 y ∧ SBox (wc.alloc (.cells #[.int .i64 s.st, .int .i64 s.wd, .int .i64 s.lg, .int .i64 s.cl, .int .i64 s.si, .int .i64 s.qu] 48)) wc.heap.size s) := ⟨hE.later hbw, hsx.below hbw, hsy.below hbw, SBox.new wc s⟩
        have hj3 : (j : Int) < (q.ships.length : Int) := by omega
        obtain ⟨a8, c8, e8, _, _⟩ := hsx
        obtain ⟨a9, c9, e9, _, _⟩ := hsy
        rw [hxl] at e8
        rw [hyl] at e9
        subst e8 e9
        have pc1 := E6.out.1.env.box.cells.2.1
        clear hcut hx hy hE hbw hrq hs ED VPD VQD VP VQ HPA HPQ E5
        go_upto_region 12 with fail
        clear c0 c1 c2 c3 c4 c5 qc1
        generalize wc.alloc (.cells #[.int .i64 s.st, .int .i64 s.wd, .int .i64 s.lg, .int .i64 s.cl, .int .i64 s.si, .int .i64 s.qu] 48) = WD at *
        generalize wc.heap.size = g10 at *
        go_wp2_with fail
        clear pc1
        go_loopg [76] p.ships.length (fun kx s76 wr => ∃ (k : Nat), s76 = .int .i64 k ∧ k ≤ p.ships.length ∧ p.ships.length - k ≤ kx ∧ Hid (KEnv2 w p (.slice ap p.ships.length cp) o q (.slice (some ⟨bq, oq, none⟩) q.ships.length cq) gq wr ∧ SlK cInt wr (.slice a8 p.ships.length c8) x ∧ SlK cInt wr (.slice a9 q.ships.length c9) y ∧ SBox wr g10 s))
        case atStart => exact ⟨0, rfl, Nat.zero_le _, by omega, E6⟩
        case round =>
          clear E6
          obtain ⟨k, rfl, hk, hg, I⟩ := hrel
          by_cases hkl : k < p.ships.length
          · obtain ⟨r, hr⟩ : ∃ r, p.ships[k]? = some r := ⟨p.ships[k], List.getElem?_eq_getElem hkl⟩
            have ERH : Hid (shp p k = r) := shp_get hr
            obtain ⟨bp, op, rfl, hrp⟩ : ∃ b off, ap = some ⟨b, off, none⟩ ∧ RdK cShip wr b off p.ships := by
              obtain ⟨x1, x2, e, _, h⟩ := I.out.1.env.ps
              injection e with e1 _ _
              subst e1
              rcases h with h | h
              · rw [h] at hr; cases hr
              · exact h
            obtain ⟨c0, c1, c2, c3, c4, c5⟩ := hrp.ship hr
            have hbw : Below wr.heap.size wr (wr.alloc (.cells #[.int .i64 r.st, .int .i64 r.wd, .int .i64 r.lg, .int .i64 r.cl, .int .i64 r.si, .int .i64 r.qu] 48)) := (Below.refl _ wr).alloc (Nat.le_refl _) _
            have I2 : Hid (KEnv2 w p (.slice (some ⟨bp, op, none⟩) p.ships.length cp) o q (.slice (some ⟨bq, oq, none⟩) q.ships.length cq) gq (wr.alloc (.cells #[.int .i64 r.st, .int .i64 r.wd, .int .i64 r.lg, .int .i64 r.cl, .int .i64 r.si, .int .i64 r.qu] 48)) ∧ SlK cInt (wr.alloc (.cells #[.int .i64 r.st, .int .i64 r.wd, .int .i64 r.lg, .int .i64 r.cl, .int .i64 r.si, .int .i64 r.qu] 48)) (.slice a8 p.ships.length c8) x ∧ SlK cInt (wr.alloc (.cells #[.int .i64 r.st, .int .i64 r.wd, .int .i64 r.lg, .int .i64 r.cl, .int .i64 r.si, .int .i64 r.qu] 48)) (.slice a9 q.ships.length c9) y ∧ SBox (wr.alloc (.cells #[.int .i64 r.st, .int .i64 r.wd, .int .i64 r.lg, .int .i64 r.cl, .int .i64 r.si, .int .i64 r.qu] 48)) g10 s) := ⟨I.out.1.later hbw, I.out.2.1.below hbw, I.out.2.2.1.below hbw, I.out.2.2.2.later hbw I.out.2.2.2.lt⟩
            have N2 : Hid (SBox (wr.alloc (.cells #[.int .i64 r.st, .int .i64 r.wd, .int .i64 r.lg, .int .i64 r.cl, .int .i64 r.si, .int .i64 r.qu] 48)) wr.heap.size r) := SBox.new wr r
            have hgap : g10 < wr.heap.size := I.out.2.2.2.lt
            have hk3 : (k : Int) < (p.ships.length : Int) := by omega
            have hk4 : (k : Int) < (q.ships.length : Int) := by omega
            clear hr hrp hbw I
            go_upto_region 15 with fail
            clear c0 c1 c2 c3 c4 c5
            generalize wr.alloc (.cells #[.int .i64 r.st, .int .i64 r.wd, .int .i64 r.lg, .int .i64 r.cl, .int .i64 r.si, .int .i64 r.qu] 48) = WR at *
            generalize wr.heap.size = g12 at *
            obtain ⟨m0, m1, m2, m3, m4, m5⟩ := N2.out.cells
            obtain ⟨n0, n1, n2, n3, n4, n5⟩ := I2.out.2.2.2.cells
            clear m1 m2 m4 n0 n1 n2 n4
            go_cut [13] (fun s13 we => ∃ b : Bool, s13 = .bool b ∧ Iffb b (before r s) ∧ we = WR)
            case first =>
              by_cases h1 : r.cl < s.cl
              · go_wp2_with fail
                go_meet
                exact ⟨true, rfl, ⟨fun _ => Or.inl h1, fun _ => rfl⟩, rfl⟩
              · by_cases h2 : r.cl = s.cl
                · have hb2 : (r.cl == s.cl) = true := by simp [h2]
                  by_cases h3 : r.qu < s.qu
                  · have Y : Hid (before r s) := Or.inr ⟨h2, h3⟩
                    clear h2
                    go_wp2_with fail
                    go_meet
                    exact ⟨true, rfl, ⟨fun _ => Y.out, fun _ => rfl⟩, rfl⟩
                  · have Y : Hid (¬ before r s) := fun h => by unfold before at h; omega
                    clear h2
                    go_wp2_with fail
                    go_meet
                    exact ⟨false, rfl, ⟨fun h => (by cases h), fun h => absurd h Y.out⟩, rfl⟩
                · have hb2 : (r.cl == s.cl) = false := by simp [h2]
                  have Y : Hid (¬ before r s) := fun h => by unfold before at h; omega
                  clear h2
                  go_wp2_with fail
                  go_meet
                  exact ⟨false, rfl, ⟨fun h => (by cases h), fun h => absurd h Y.out⟩, rfl⟩
            case rest =>
              obtain ⟨b, rfl, hb, rfl⟩ := hcut
              have ID : Hid (KEnv2 w p (.slice (some ⟨bp, op, none⟩) p.ships.length cp) o q (.slice (some ⟨bq, oq, none⟩) q.ships.length cq) gq wc.drew ∧ SlK cInt wc.drew (.slice a8 p.ships.length c8) x ∧ SlK cInt wc.drew (.slice a9 q.ships.length c9) y ∧ SBox wc.drew g10 s) := ⟨I2.out.1.later ((Below.refl _ _).drew), I2.out.2.1.below ((Below.refl _ _).drew), I2.out.2.2.1.below ((Below.refl _ _).drew), I2.out.2.2.2.later ((Below.refl _ _).drew) I2.out.2.2.2.lt⟩
              obtain ⟨z, hz⟩ : ∃ z, x[k]? = some z := ⟨x[k]'(by omega), List.getElem?_eq_getElem (by omega)⟩
              obtain ⟨z', hz'⟩ : ∃ z, y[k]? = some z := ⟨y[k]'(by omega), List.getElem?_eq_getElem (by omega)⟩
              obtain ⟨b8, o8, rfl, hr8⟩ := I2.out.2.1.int hz
              obtain ⟨b9, o9, rfl, hr9⟩ := I2.out.2.2.1.int hz'
              have x8 := hr8.int hz
              have x9 := hr9.int hz'
              have HZ : Hid (r.st = 1 → b = true → z = z') := fun h1 h2 => by
                have h3 := PLN.out k hkl (by rw [ERH.out]; exact h1) (by rw [ERH.out, ESH.out]; exact hb.1 h2)
                rw [List.getD_eq_getElem?_getD, List.getD_eq_getElem?_getD, hz, hz'] at h3
                exact h3
              clear m3 m5 n3 n5 hz hz' hr8 hr9 hb I2 N2
              by_cases h1 : r.st = 1
              · rw [h1] at m0
                cases b
                · clear h1 HZ
                  go_wp2_with fail
                  go_region
                  all_goals go_wp2_with fail
                  go_roundg (p.ships.length - (k + 1))
                  case measure => omega
                  case rel => exact ⟨k + 1, by go_num, by omega, Nat.le_refl _, ID⟩
                · have e := HZ.out h1 rfl
                  subst e
                  have hzz : (z != z) = false := by simp
                  clear h1 HZ
                  go_wp2_with fail
                  go_region
                  all_goals go_wp2_with fail
                  go_roundg (p.ships.length - (k + 1))
                  case measure => omega
                  case rel => exact ⟨k + 1, by go_num, by omega, Nat.le_refl _, ID⟩
              · have hb1 : (r.st == 1) = false := by simp [h1]
                clear h1 HZ
                go_wp2_with fail
                go_region
                all_goals go_wp2_with fail
                go_roundg (p.ships.length - (k + 1))
                case measure => omega
                case rel => exact ⟨k + 1, by go_num, by omega, Nat.le_refl _, ID⟩
          · have hke : k = p.ships.length := by omega
            subst hke
            have hk3 : ¬ (p.ships.length : Int) < (p.ships.length : Int) := by omega
            have B9 : Hid (Below w.heap.size w wr) := I.out.1.env.below
            clear I
            go_wp2_with fail
            go_ret
            exact ⟨rfl, B9.out⟩

end Go.Proofs.Ytghhegajbehpeaa
