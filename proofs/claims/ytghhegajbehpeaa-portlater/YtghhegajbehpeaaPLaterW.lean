/- PortLater's walk: time alone moves nobody. -/
import Derived.Test.YtghhegajbehpeaaPFirstW
import Derived.Test.YtghhegajbehpeaaPLate
set_option linter.unusedSimpArgs false
set_option linter.unusedVariables false
namespace Go.Proofs.Ytghhegajbehpeaa
open Go.RowKit


/-- what stays as it is while PortLater runs -/
structure LEnv (w : World) (p : Pt) (vs : Value) (pl : List Int) (v5 : Value) (q : Pt) (vq : Value) (gq : Nat) (who : List Nat) (vw : Value) (W : World) : Prop where
  below : Below w.heap.size w W
  box : PBox W w.heap.size p vs
  plan : SlK cInt W v5 pl
  qbox : PBox W gq q vq
  qv : PtV W (.agg (portCells q vq).toArray) q
  qs : SlK cShip W vq q.ships
  who : SlK cInt W vw (ints who)

theorem LEnv.later {w W W' : World} {p q : Pt} {vs v5 vq vw : Value} {pl : List Int} {gq : Nat} {who : List Nat} (h : LEnv w p vs pl v5 q vq gq who vw W) (hb : Below W.heap.size W W') : LEnv w p vs pl v5 q vq gq who vw W' :=
  ⟨h.below.trans (hb.mono h.below.size), h.box.later hb h.box.lt, h.plan.below hb, h.qbox.later hb h.qbox.lt, h.qv.below hb, h.qs.below hb, h.who.below hb⟩

/-- .. and what a time later holds -/
structure LEnv2 (w : World) (p : Pt) (vs : Value) (pl : List Int) (v5 : Value) (q : Pt) (vq : Value) (gq : Nat) (who : List Nat) (vw : Value) (r : Pt) (vr : Value) (gr : Nat) (W : World) : Prop where
  env : LEnv w p vs pl v5 q vq gq who vw W
  rbox : PBox W gr r vr
  rv : PtV W (.agg (portCells r vr).toArray) r

theorem LEnv2.later {w W W' : World} {p q r : Pt} {vs v5 vq vw vr : Value} {pl : List Int} {gq gr : Nat} {who : List Nat} (h : LEnv2 w p vs pl v5 q vq gq who vw r vr gr W) (hb : Below W.heap.size W W') : LEnv2 w p vs pl v5 q vq gq who vw r vr gr W' :=
  ⟨h.env.later hb, h.rbox.later hb h.rbox.lt, h.rv.below hb⟩

theorem later_get {p : Pt} {pl : List Int} {i : Nat} {t : Int} (hi : i < p.ships.length) (ht : pl[i]? = some t) : ∃ y, (laterPl p pl)[i]? = some y ∧ (p.now < t → y = t) ∧ (t < 0 → 0 ≤ p.now → y < 0) := by
  have hl : i < (laterPl p pl).length := by unfold laterPl; simpa using hi
  have hg := laterPl_get (pl := pl) hi
  rw [List.getD_eq_getElem?_getD, List.getElem?_eq_getElem hl] at hg
  have hd : pl.getD i (-1) = t := by rw [List.getD_eq_getElem?_getD, ht]; rfl
  have hg' : (laterPl p pl)[i] = if dueB p pl i then -1 else t := by rw [← hd]; exact hg
  refine ⟨_, List.getElem?_eq_getElem hl, fun h => ?_, fun h h0 => ?_⟩
  · rw [hg']
    have : dueB p pl i = false := by
      cases e : dueB p pl i
      · rfl
      · have := (dueB_iff.1 e).1; rw [ht] at this; have := Option.some.inj this; omega
    rw [this]; rfl
  · rw [hg']
    split <;> omega

set_option maxHeartbeats 8000000 in
set_option maxRecDepth 100000 in
theorem portLater_any (v : Value) (p : Pt) (w : World) (hv : PtV w v p) (hf : WfP p) :
    Calls Try.prog 12 #[v] w fun e w' => e = .returned (.bool true) ∧ Below w.heap.size w w' := by
  obtain ⟨vs, rfl, hsl, h4, hmx⟩ := hv
  have HV : Hid (PtV w (.agg (portCells p vs).toArray) p) := ⟨vs, rfl, hsl, h4, hmx⟩
  have X0 : Hid (PBox (w.alloc (.cells (portCells p vs).toArray 46)) w.heap.size p vs) := PBox.new w p _ h4
  have B0 : Hid (Below w.heap.size w (w.alloc (.cells (portCells p vs).toArray 46))) := (Below.refl _ w).alloc (Nat.le_refl _) _
  have hq := hf.q
  by_cases hp : IsPort p
  case neg =>
    have HG := fun W h => goodPort_not (.agg (portCells p vs).toArray) p W h hq hp
    clear hsl hp hq
    generalize hPC : (portCells p vs).toArray = PC at *
    have HPC : Hid ((portCells p vs).toArray = PC) := hPC
    clear hPC
    go_enter Try.func12, Try.ntmps12
    go_wp2_with (refine wpList_load_box rfl _ rfl w.heap.size p vs rfl X0.out ?_; rw [HPC.out])
    refine (HG _ (HV.out.below B0.out)).mono ?_
    rintro e w1 ⟨rfl, hw1⟩
    have B1 : Hid (Below w.heap.size w w1) := B0.out.trans (hw1.mono B0.out.size)
    clear hw1 X0 B0 HG
    go_wp2_with fail
    refine (keepPorts_any w1).mono ?_
    rintro e w2 ⟨rfl, hw2⟩
    have B2 : Hid (Below w.heap.size w w2) := B1.out.trans (hw2.mono B1.out.size)
    go_wp2_with fail
    go_ret
    exact ⟨rfl, B2.out⟩
  have HP : Hid (IsPort p) := hp
  have HG := fun W h => goodPort_yes (.agg (portCells p vs).toArray) p W h hp
  have HPA := fun W h => plan_any (.agg (portCells p vs).toArray) p W h hp
  have HDA := fun pl vp W h h1 h2 => due_any (.agg (portCells p vs).toArray) vp p pl W h h1 h2
  have hlen : p.ships.length < 15 := hp.port.len
  obtain ⟨hnow0, hnow1⟩ := hp.port.now
  clear hsl hp hq
  generalize hPC : (portCells p vs).toArray = PC at *
  have HPC : Hid ((portCells p vs).toArray = PC) := hPC
  clear hPC
  go_enter Try.func12, Try.ntmps12
  go_wp2_with (refine wpList_load_box rfl _ rfl w.heap.size p vs rfl X0.out ?_; rw [HPC.out])
  refine (HG _ (HV.out.below B0.out)).mono ?_
  rintro e w1 ⟨rfl, hw1⟩
  have B1 : Hid (Below w.heap.size w w1 ∧ PBox w1 w.heap.size p vs) := ⟨B0.out.trans (hw1.mono B0.out.size), X0.out.later hw1 X0.out.lt⟩
  clear hw1 X0 B0 HG
  go_wp2_with (refine wpList_load_box rfl _ rfl w.heap.size p vs rfl B1.out.2 ?_; rw [HPC.out])
  refine (HPA _ (HV.out.below B1.out.1)).mono ?_
  rintro e w2 ⟨⟨v5, rfl, h5⟩, hb2⟩
  obtain ⟨pl, hpl, _, hsl⟩ := h5.out
  have PL : Hid (PlanIs p pl) := hpl
  have hpn : pl.length = p.ships.length := hpl.len
  have S2 : Hid (Below w.heap.size w w2 ∧ PBox w2 w.heap.size p vs ∧ SlK cInt w2 v5 pl) := ⟨B1.out.1.trans (hb2.mono B1.out.1.size), B1.out.2.later hb2 B1.out.2.lt, hsl⟩
  obtain ⟨a5, cap5, he5, _, _⟩ := hsl
  rw [hpn] at he5
  subst he5
  clear hpl hb2 h5 B1 HPA
  go_wp2_with (refine wpList_load_box rfl _ rfl w.heap.size p vs rfl S2.out.2.1 ?_; rw [HPC.out])
  refine (HDA pl _ _ (HV.out.below S2.out.1) S2.out.2.2 (by omega)).mono ?_
  rintro e w3 ⟨vq, vw, rfl, hw3⟩
  obtain ⟨aq, cq, rfl⟩ := ownsRow_slice hw3.out.1
  obtain ⟨aw, cw, hvw⟩ := ownsRow_slice hw3.out.2.1
  rw [ints_len] at hvw
  subst hvw
  have QI : Hid (IsPort (dueP p pl)) := isPort_due HP.out PL.out
  have on := ownsRow_one hw3.out.1
  have hdl : (dueP p pl).ships.length = p.ships.length := due_len p pl
  have S3 : Hid (Below w.heap.size w w3 ∧ PBox w3 w.heap.size p vs ∧ SlK cInt w3 (.slice a5 p.ships.length cap5) pl ∧ SlK cShip w3 (.slice aq p.ships.length cq) (dueP p pl).ships ∧ SlK cInt w3 (.slice aw (dues p pl).length cw) (ints (dues p pl))) := by
    have hr := hw3.out.1
    rw [← hdl] at hr
    refine ⟨S2.out.1.trans (hw3.out.2.2.mono S2.out.1.size), S2.out.2.1.later hw3.out.2.2 S2.out.2.1.lt, S2.out.2.2.below hw3.out.2.2, ?_, slK_ofRow hw3.out.2.1⟩
    have := slK_ofRow hr
    rw [hdl] at this
    exact this
  clear S2 hw3 HDA HV
  go_upto_region 5 with (first | (refine wpList_alloc_box rfl rfl 4 rfl ?_; intro w4 hw4 hs4) | (refine wpList_store_box rfl _ _ rfl w3.heap.size zeroPt (dueP p pl) (.slice none 0 0) (.slice aq p.ships.length cq) rfl rfl hw4.out.1 h4 on ?_; intro w5 hw5 hs5))
  have E5 : Hid (LEnv w p vs pl (.slice a5 p.ships.length cap5) (dueP p pl) (.slice aq p.ships.length cq) w3.heap.size (dues p pl) (.slice aw (dues p pl).length cw) w5) := by
    have hb : Below w3.heap.size w3 w5 := hw4.out.2.trans (hw5.out.2.2 _ (Nat.le_refl _))
    have hsq := S3.out.2.2.2.1.below hb
    exact ⟨S3.out.1.trans (hb.mono S3.out.1.size), S3.out.2.1.later hb S3.out.2.1.lt, S3.out.2.2.1.below hb, hw5.out.1, ⟨_, rfl, hsq, h4, by rw [hdl]; exact hmx⟩, hsq, S3.out.2.2.2.2.below hb⟩
  generalize w3.heap.size = gq at *
  have HLA := fun W h => later_any (.agg (portCells (dueP p pl) (.slice aq p.ships.length cq)).toArray) (dueP p pl) W h (WfQ.of QI.out)
  have HGQ := fun W h => goodPort_yes (.agg (portCells (dueP p pl) (.slice aq p.ships.length cq)).toArray) (dueP p pl) W h QI.out
  have QV : Hid (PtV w5 (.agg (portCells (dueP p pl) (.slice aq p.ships.length cq)).toArray) (dueP p pl)) := E5.out.qv
  clear S3 hw4 hw5 hs4 hs5 on
  generalize hQC : (portCells (dueP p pl) (.slice aq p.ships.length cq)).toArray = QC at *
  have HQC : Hid ((portCells (dueP p pl) (.slice aq p.ships.length cq)).toArray = QC) := hQC
  clear hQC
  go_wp2_with (refine wpList_load_box rfl _ rfl gq (dueP p pl) (.slice aq p.ships.length cq) rfl E5.out.qbox ?_; rw [HQC.out])
  refine (HLA _ QV.out).mono ?_
  rintro e w6 ⟨r, vr, er, rfl, hT, hr4, hrm, hro, hb6⟩
  have on := ownsRow_one hro
  have LI : Hid (LaterIs (dueP p pl) er r) := hT
  have E6 : Hid (LEnv w p vs pl (.slice a5 p.ships.length cap5) (dueP p pl) (.slice aq p.ships.length cq) gq (dues p pl) (.slice aw (dues p pl).length cw) w6 ∧ SlK cShip w6 vr r.ships ∧ r.kept.length = 4 ∧ r.ships.length ≤ 2932031007317) := ⟨E5.out.later hb6, slK_ofRow hro, hr4, hrm⟩
  clear E5 hT hro hb6 HLA QV hrm
  go_upto_region 6 with (first | (refine wpList_alloc_box rfl rfl 6 rfl ?_; intro w7 hw7 hs7) | (refine wpList_store_box rfl _ _ rfl w6.heap.size zeroPt r (.slice none 0 0) vr rfl rfl hw7.out.1 hr4 on ?_; intro w8 hw8 hs8))
  have E8 : Hid (LEnv2 w p vs pl (.slice a5 p.ships.length cap5) (dueP p pl) (.slice aq p.ships.length cq) gq (dues p pl) (.slice aw (dues p pl).length cw) r vr w6.heap.size w8) := by
    have hb : Below w6.heap.size w6 w8 := hw7.out.2.trans (hw8.out.2.2 _ (Nat.le_refl _))
    exact ⟨E6.out.1.later hb, hw8.out.1, ⟨_, rfl, E6.out.2.1.below hb, E6.out.2.2.1, E6.out.2.2.2⟩⟩
  generalize w6.heap.size = gr at *
  clear E6 hw7 hw8 hs7 hs8 on
  have L2 : (p.now = 299 ∧ er = 2) ∨ (p.now < 299 ∧ er = 0 ∧ r = laterP (dueP p pl)) := by
    rcases LI.out with ⟨h, _⟩ | ⟨_, h1, h2, _⟩ | ⟨_, h1, h2, h3⟩
    · exact absurd QI.out h
    · exact Or.inl ⟨h1, h2⟩
    · exact Or.inr ⟨h1, h2, h3⟩
  rcases L2 with ⟨h9, rfl⟩ | ⟨h9, rfl, rfl⟩
  · have pc0 := E8.out.env.box.cells.1
    rw [h9] at pc0
    have B8 : Hid (Below w.heap.size w w8) := E8.out.env.below
    clear E8 LI HGQ
    go_wp2_with (first | (go_at_call 50; refine (keepPorts_any _).mono ?_; rintro e w9 ⟨rfl, hw9⟩; have B9 : Hid (Below w.heap.size w w9) := B8.out.trans (hw9.mono B8.out.size)))
    go_ret
    exact ⟨rfl, B9.out⟩
  have RI : Hid (IsPort (laterP (dueP p pl))) := isPort_later QI.out h9
  have hrl : (laterP (dueP p pl)).ships.length = p.ships.length := by rw [later_len, due_len]
  have HPR := fun W h => plan_any (.agg (portCells (laterP (dueP p pl)) vr).toArray) (laterP (dueP p pl)) W h RI.out
  have HGR := fun W h => goodPort_yes (.agg (portCells (laterP (dueP p pl)) vr).toArray) (laterP (dueP p pl)) W h RI.out
  have RV : Hid (PtV w8 (.agg (portCells (laterP (dueP p pl)) vr).toArray) (laterP (dueP p pl))) := E8.out.rv
  generalize hRC : (portCells (laterP (dueP p pl)) vr).toArray = RC at *
  have HRC : Hid ((portCells (laterP (dueP p pl)) vr).toArray = RC) := hRC
  clear hRC LI
  go_wp2_with (refine wpList_load_box rfl _ rfl gr (laterP (dueP p pl)) vr rfl E8.out.rbox ?_; rw [HRC.out])
  refine (HPR _ RV.out).mono ?_
  rintro e w9 ⟨⟨v9, rfl, h9'⟩, hb9⟩
  obtain ⟨x, hx, _, hxs⟩ := h9'.out
  obtain rfl : x = laterPl p pl := hx.unique (by show 0 ≤ p.now + 1; omega) (plan_later HP.out PL.out h9)
  have E9 : Hid (LEnv2 w p vs pl (.slice a5 p.ships.length cap5) (dueP p pl) (.slice aq p.ships.length cq) gq (dues p pl) (.slice aw (dues p pl).length cw) (laterP (dueP p pl)) vr gr w9 ∧ SlK cInt w9 v9 (laterPl p pl)) := ⟨E8.out.later hb9, hxs⟩
  have hxl : (laterPl p pl).length = p.ships.length := by rw [hx.len, hrl]
  obtain ⟨a9, cap9, he9, _, _⟩ := hxs
  rw [hxl] at he9
  subst he9
  clear E8 hx h9' hb9 HPR RV
  go_wp2_with fail
  go_loopg [42] p.ships.length (fun kx s42 wr => ∃ (k : Nat), s42 = .int .i64 k ∧ k ≤ p.ships.length ∧ p.ships.length - k ≤ kx ∧ wr = w9)
  case atStart => exact ⟨0, rfl, Nat.zero_le _, by omega, rfl⟩
  case round =>
    obtain ⟨k, rfl, hk, hg, rfl⟩ := hrel
    by_cases hkl : k < p.ships.length
    · obtain ⟨t, ht⟩ : ∃ t, pl[k]? = some t := ⟨pl[k]'(by omega), List.getElem?_eq_getElem (by omega)⟩
      obtain ⟨y, hy, hy1, hy2⟩ := later_get hkl ht
      obtain ⟨b5, o5, rfl, hr5⟩ := E9.out.1.env.plan.int ht
      obtain ⟨b9, o9, rfl, hr9⟩ := E9.out.2.int hy
      have c5 := hr5.int ht
      have c9 := hr9.int hy
      have pc0 := E9.out.1.env.box.cells.1
      have hk3 : (k : Int) < (p.ships.length : Int) := by omega
      clear hr5 hr9 ht hy
      by_cases h1 : p.now < t
      · have h2 := hy1 h1
        subst h2
        have h3 : ¬ y < 0 := by omega
        have h4 : (y != y) = false := by simp
        clear hy1 hy2
        go_wp2_with fail
        go_roundg (p.ships.length - (k + 1))
        case measure => omega
        case rel => exact ⟨k + 1, by go_num, by omega, Nat.le_refl _, rfl⟩
      · by_cases h2 : t < 0
        · have h3 : ¬ 0 ≤ y := by have := hy2 h2 hnow0; omega
          clear hy1 hy2
          go_wp2_with fail
          go_roundg (p.ships.length - (k + 1))
          case measure => omega
          case rel => exact ⟨k + 1, by go_num, by omega, Nat.le_refl _, rfl⟩
        · clear hy1 hy2
          go_wp2_with fail
          go_roundg (p.ships.length - (k + 1))
          case measure => omega
          case rel => exact ⟨k + 1, by go_num, by omega, Nat.le_refl _, rfl⟩
    · have hke : k = p.ships.length := by omega
      subst hke
      have hk3 : ¬ (p.ships.length : Int) < (p.ships.length : Int) := by omega
      go_wp2_with fail
      go_loopg [73] (dues p pl).length (fun kx s73 wi => ∃ (k : Nat), s73 = .int .i64 k ∧ k ≤ (dues p pl).length ∧ (dues p pl).length - k ≤ kx ∧ Hid (LEnv2 w p vs pl (.slice a5 p.ships.length cap5) (dueP p pl) (.slice aq p.ships.length cq) gq (dues p pl) (.slice aw (dues p pl).length cw) (laterP (dueP p pl)) vr gr wi))
      case atStart => exact ⟨0, rfl, Nat.zero_le _, by omega, E9.out.1⟩
      case round =>
        clear E9
        obtain ⟨k, rfl, hk, hg, E⟩ := hrel
        by_cases hkl : k < (dues p pl).length
        · obtain ⟨i, hki⟩ : ∃ i, (dues p pl)[k]? = some i := ⟨(dues p pl)[k], List.getElem?_eq_getElem hkl⟩
          have hd : dueB p pl i = true := (List.mem_filter.1 (List.mem_of_getElem? hki)).2
          have hil := (due_lt hd).1
          have hpi := (dueB_iff.1 hd).1
          obtain ⟨b5, o5, rfl, hr5⟩ := E.out.env.plan.int hpi
          obtain ⟨bw, ow, rfl, rcw⟩ := E.out.env.who.nat hki
          have c5 := hr5.int hpi
          have pc0 := E.out.env.box.cells.1
          have qc1 := E.out.env.qbox.cells.2.1
          have hqs : (dueP p pl).ships[i]? = some (inS p.now (shp p i)) := by
            have := shp_in (p := dueP p pl) (i := i) (by rw [due_len]; exact hil)
            rw [shp_due, hd] at this
            exact this
          obtain ⟨bq, oq, rfl, hrq⟩ : ∃ b off, aq = some ⟨b, off, none⟩ ∧ RdK cShip wr b off (dueP p pl).ships := by
            obtain ⟨x1, x2, e, _, h⟩ := E.out.env.qs
            injection e with e1 _ _
            subst e1
            rcases h with h | h
            · rw [h] at hqs; cases hqs
            · exact h
          obtain ⟨s0, s1, s2, s3, s4, s5⟩ := hrq.ship hqs
          have s0' : wr.cell? ⟨bq, oq + i * 6, none⟩ = some (.int .i64 3) := s0
          have s4' : wr.cell? ⟨bq, oq + i * 6 + 4, none⟩ = some (.int .i64 p.now) := s4
          have hk3 : (k : Int) < ((dues p pl).length : Int) := by omega
          have hi3 : (i : Int) < (p.ships.length : Int) := by omega
          have hdn : (dues p pl).length ≤ 14 := by
            have h := List.length_filter_le (dueB p pl) (List.range p.ships.length)
            rw [List.length_range] at h
            unfold dues
            omega
          have hn1 : (p.now != p.now) = false := by simp
          have ED : Hid (LEnv2 w p vs pl (.slice (some ⟨b5, o5, none⟩) p.ships.length cap5) (dueP p pl) (.slice (some ⟨bq, oq, none⟩) p.ships.length cq) gq (dues p pl) (.slice (some ⟨bw, ow, none⟩) (dues p pl).length cw) (laterP (dueP p pl)) vr gr wr.drew) := E.out.later ((Below.refl _ wr).drew)
          clear s0 s1 s2 s3 s4 s5 hrq hqs hr5 hki hpi E
          go_wp2_with fail
          go_region
          all_goals go_wp2_with fail
          go_roundg ((dues p pl).length - (k + 1))
          case measure => omega
          case rel => exact ⟨k + 1, by go_num, by omega, Nat.le_refl _, ED⟩
        · have hke : k = (dues p pl).length := by omega
          subst hke
          have hk3 : ¬ ((dues p pl).length : Int) < ((dues p pl).length : Int) := by omega
          have QV : Hid (PtV wr (.agg QC) (dueP p pl)) := by have h := E.out.env.qv; rw [HQC.out] at h; exact h
          go_wp2_with (refine wpList_load_box rfl _ rfl gq (dueP p pl) (.slice aq p.ships.length cq) rfl E.out.env.qbox ?_; rw [HQC.out])
          refine (HGQ _ QV.out).mono ?_
          rintro e w10 ⟨rfl, hb10⟩
          have E10 : Hid (LEnv2 w p vs pl (.slice a5 p.ships.length cap5) (dueP p pl) (.slice aq p.ships.length cq) gq (dues p pl) (.slice aw (dues p pl).length cw) (laterP (dueP p pl)) vr gr w10) := E.out.later hb10
          have RV : Hid (PtV w10 (.agg RC) (laterP (dueP p pl))) := by have h := E10.out.rv; rw [HRC.out] at h; exact h
          clear E hb10 QV HGQ
          go_wp2_with (first | (refine wpList_load_box_g (by first | rfl | (simp [Region.wanted, yielded]; done)) _ rfl gr (laterP (dueP p pl)) vr rfl E10.out.rbox ?_; rw [HRC.out]) | (go_at_call 30; refine (HGR _ RV.out).mono ?_; rintro e w11 ⟨rfl, hb11⟩; have B11 : Hid (Below w.heap.size w w11) := E10.out.env.below.trans (hb11.mono E10.out.env.below.size)) | (go_at_call 50; refine (keepPorts_any _).mono ?_; rintro e w12 ⟨rfl, hw12⟩; have B12 : Hid (Below w.heap.size w w12) := B11.out.trans (hw12.mono B11.out.size)))
          go_ret
          exact ⟨rfl, B12.out⟩

end Go.Proofs.Ytghhegajbehpeaa
