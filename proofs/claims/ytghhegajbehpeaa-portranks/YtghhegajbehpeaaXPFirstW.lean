/- Texts of this claim, in one: PFirstW. -/
import Derived.Test.YtghhegajbehpeaaXPRoomW
/- PortFirst's walk: nobody could come in earlier without moving one who is ahead. -/
set_option linter.unusedSimpArgs false
set_option linter.unusedVariables false
namespace Go.Proofs.Ytghhegajbehpeaa
open Go.RowKit


/-- the numbers of some places lie in a slice -/
theorem SlK.nat {w : World} {a : Option Addr} {n cap : Nat} {rk : List Nat} (h : SlK cInt w (.slice a n cap) (ints rk)) {k i : Nat} (hk : rk[k]? = some i) : ∃ b off, a = some ⟨b, off, none⟩ ∧ w.cell? ⟨b, off + k, none⟩ = some (.int .i64 i) := by
  obtain ⟨a', c', e, _, h⟩ := h
  injection e with e1 e2 e3
  subst e1
  rcases h with h | ⟨b, off, e, hr⟩
  · have h1 := ints_len rk
    rw [h] at h1
    have := (List.getElem?_eq_some_iff.1 hk).1
    have h2 : ([] : List Int).length = 0 := rfl
    omega
  · exact ⟨b, off, e, hr.int (ints_get hk)⟩

theorem SlK.int {w : World} {a : Option Addr} {n cap : Nat} {l : List Int} (h : SlK cInt w (.slice a n cap) l) {k : Nat} {x : Int} (hk : l[k]? = some x) : ∃ b off, a = some ⟨b, off, none⟩ ∧ RdK cInt w b off l := by
  obtain ⟨a', c', e, _, h⟩ := h
  injection e with e1 e2 e3
  subst e1
  rcases h with h | h
  · rw [h] at hk; cases hk
  · exact h

theorem PlEnv.planCell {w W : World} {p : Pt} {vs : Value} {a : Option Addr} {pl : List Int} {b off n cap : Nat} (h : PlEnv w p vs a pl (.slice (some ⟨b, off, none⟩) n cap) W) {i : Nat} {x : Int} (hx : pl[i]? = some x) : W.cell? ⟨b, off + i, none⟩ = some (.int .i64 x) := by
  obtain ⟨b', o, e, hr⟩ := h.plan.int hx
  injection e with e
  injection e with e1 e2
  subst e1 e2
  exact hr.int hx

/-- Left, one ship on -/
theorem Left.step {p : Pt} {pl : List Int} {rk : List Nat} {k i : Nat} {W : World} {v : Value} {r r8 : List (Int × Int)} {x : Int} {s : Ship} (hk : rk[k]? = some i) (hx : pl.getD i (-1) = x) (hs : shp p i = s) (h3 : ∀ t, 0 ≤ t → t < 300 → val r t = baseAt p t - ctrs p pl (rk.take k) t)
    (h0 : 0 ≤ x) (g1 : Sl W v r8) (g2 : Good r8) (g3 : ∀ t, 0 ≤ t → t < 300 → val r8 t = val r t - if x ≤ t ∧ t < x + s.lg then s.wd else 0) : Left p pl (rk.take (k + 1)) W v := by
  refine ⟨r8, g1, g2, fun t t0 t1 => ?_⟩
  rw [g3 t t0 t1, h3 t t0 t1, take_succ_of hk, ctrs_append, ctrs_cons, ctrs_nil]
  have : ctr p pl i t = if x ≤ t ∧ t < x + s.lg then s.wd else 0 := by
    unfold ctr
    rw [hx, hs]
    by_cases c : x ≤ t ∧ t < x + s.lg
    · rw [if_pos c, if_pos ⟨h0, c⟩]
    · rw [if_neg c, if_neg (fun c2 => c c2.2)]
  rw [this]; split <;> omega

set_option maxHeartbeats 4000000 in
set_option maxRecDepth 100000 in
theorem portFirst_any (v : Value) (p : Pt) (w : World) (hv : PtV w v p) (hf : WfP p) :
    Calls Try.prog 11 #[v] w fun e w' => e = .returned (.bool true) ∧ Below w.heap.size w w' := by
  obtain ⟨vs, rfl, ⟨a, cap, rfl, hcap, hrd⟩, h4, hmx⟩ := hv
  have HV : Hid (PtV w (.agg (portCells p (.slice a p.ships.length cap)).toArray) p) := ⟨_, rfl, ⟨a, cap, rfl, hcap, hrd⟩, h4, hmx⟩
  have HR : Hid (p.ships = [] ∨ ∃ b off, a = some ⟨b, off, none⟩ ∧ RdK cShip w b off p.ships) := hrd
  have X0 : Hid (PBox (w.alloc (.cells (portCells p (.slice a p.ships.length cap)).toArray 46)) w.heap.size p (.slice a p.ships.length cap)) := PBox.new w p _ h4
  have B0 : Hid (Below w.heap.size w (w.alloc (.cells (portCells p (.slice a p.ships.length cap)).toArray 46))) := (Below.refl _ w).alloc (Nat.le_refl _) _
  have hq := hf.q
  by_cases hp : IsPort p
  case neg =>
    have HG := fun W h => goodPort_not (.agg (portCells p (.slice a p.ships.length cap)).toArray) p W h hq hp
    clear hrd hp hq
    generalize hPC : (portCells p (.slice a p.ships.length cap)).toArray = PC at *
    have HPC : Hid ((portCells p (.slice a p.ships.length cap)).toArray = PC) := hPC
    clear hPC
    go_enter Try.func11, Try.ntmps11
    go_wp2_with (refine wpList_load_box rfl _ rfl w.heap.size p (.slice a p.ships.length cap) rfl X0.out ?_; rw [HPC.out])
    refine (HG _ (HV.out.below B0.out)).mono ?_
    rintro e w1 ⟨rfl, hw1⟩
    have B1 : Hid (Below w.heap.size w w1) := B0.out.trans (hw1.mono B0.out.size)
    clear hw1 X0 B0 HG
    go_wp2_with fail
    refine (keepPorts_any w1).mono ?_
    rintro e w2 ⟨rfl, hw2⟩
    have B2 : Hid (Below w.heap.size w w2) := B1.out.trans (hw2.mono B1.out.size)
    go_wp2_with fail
    go_ret
    exact ⟨rfl, B2.out⟩
  have HP : Hid (IsPort p) := hp
  have HG := fun W h => goodPort_yes (.agg (portCells p (.slice a p.ships.length cap)).toArray) p W h hp
  have HBA := fun W h => base_any (.agg (portCells p (.slice a p.ships.length cap)).toArray) p W h hq
  have HPA := fun W h => plan_any (.agg (portCells p (.slice a p.ships.length cap)).toArray) p W h hp
  have HRA := fun W h => ranked_any (.agg (portCells p (.slice a p.ships.length cap)).toArray) p W h hp.port
  have hlen : p.ships.length < 15 := hp.port.len
  obtain ⟨hnow0, hnow1⟩ := hp.port.now
  clear hrd hp hq
  generalize hPC : (portCells p (.slice a p.ships.length cap)).toArray = PC at *
  have HPC : Hid ((portCells p (.slice a p.ships.length cap)).toArray = PC) := hPC
  clear hPC
  go_enter Try.func11, Try.ntmps11
  go_wp2_with (refine wpList_load_box rfl _ rfl w.heap.size p (.slice a p.ships.length cap) rfl X0.out ?_; rw [HPC.out])
  refine (HG _ (HV.out.below B0.out)).mono ?_
  rintro e w1 ⟨rfl, hw1⟩
  have B1 : Hid (Below w.heap.size w w1 ∧ PBox w1 w.heap.size p (.slice a p.ships.length cap)) := ⟨B0.out.trans (hw1.mono B0.out.size), X0.out.later hw1 X0.out.lt⟩
  clear hw1 X0 B0 HG
  go_wp2_with (refine wpList_load_box rfl _ rfl w.heap.size p (.slice a p.ships.length cap) rfl B1.out.2 ?_; rw [HPC.out])
  refine (HBA _ (HV.out.below B1.out.1)).mono ?_
  rintro e w4 ⟨⟨v4, ok4, rfl, hB4, _⟩, hb4⟩
  obtain ⟨rfl, _, r0, hr0⟩ : ok4 = true ∧ IsPort p ∧ ∃ r, Sl w4 v4 r ∧ Good r ∧ ∀ t, 0 ≤ t → t < 300 → val r t = baseAt p t := by
    rcases hB4 with h | ⟨_, h, _⟩
    · exact h
    · exact absurd HP.out h
  have M4 : Hid (Sl w4 v4 r0 ∧ Good r0 ∧ ∀ t, 0 ≤ t → t < 300 → val r0 t = baseAt p t) := hr0
  have B4 : Hid (Below w.heap.size w w4 ∧ PBox w4 w.heap.size p (.slice a p.ships.length cap)) := ⟨B1.out.1.trans (hb4.mono B1.out.1.size), B1.out.2.later hb4 B1.out.2.lt⟩
  clear hB4 hb4 hr0 B1 HBA
  go_wp2_with (refine wpList_load_box rfl _ rfl w.heap.size p (.slice a p.ships.length cap) rfl B4.out.2 ?_; rw [HPC.out])
  refine (HPA _ (HV.out.below B4.out.1)).mono ?_
  rintro e w5 ⟨⟨v5, rfl, h5⟩, hb5⟩
  obtain ⟨pl, hpl, _, hsl⟩ := h5.out
  have PL : Hid (PlanIs p pl) := hpl
  have hpn : pl.length = p.ships.length := hpl.len
  obtain ⟨a5, cap5, rfl, hc5, hr5⟩ := hsl
  rw [hpn]
  rw [hpn] at hc5
  have E5 : Hid (PlEnv w p (.slice a p.ships.length cap) a pl (.slice a5 p.ships.length cap5) w5) := by
    have hb : Below w.heap.size w w5 := B4.out.1.trans (hb5.mono B4.out.1.size)
    refine ⟨hb, B4.out.2.later hb5 B4.out.2.lt, ?_, ⟨a5, cap5, by rw [hpn], by rw [hpn]; exact hc5, hr5⟩⟩
    rcases HR.out with h | ⟨b, off, e, hr⟩
    · exact Or.inl h
    · exact Or.inr ⟨b, off, e, hr.below hb⟩
  have M5 : Hid (Sl w5 v4 r0 ∧ Good r0 ∧ ∀ t, 0 ≤ t → t < 300 → val r0 t = baseAt p t) := ⟨M4.out.1.below hb5, M4.out.2⟩
  clear hpl hr5 hb5 h5 B4 M4 HPA
  go_wp2_with (refine wpList_load_box rfl _ rfl w.heap.size p (.slice a p.ships.length cap) rfl E5.out.box ?_; rw [HPC.out])
  refine (HRA _ (HV.out.below E5.out.below)).mono ?_
  rintro e w6 ⟨⟨v6, rfl, h6⟩, hb6⟩
  obtain ⟨rk, hrk, hrow⟩ := h6.out
  obtain ⟨x6, cap6, hv6⟩ := ownsRow_slice hrow
  rw [ints_len] at hv6
  subst hv6
  have RK : Hid (RankedIs p rk ∧ Chain p pl (baseAt p) rk) := by
    obtain ⟨rk', hr', hc'⟩ := PL.out.some
    rw [hr'.unique hrk] at hc'
    exact ⟨hrk, hc'⟩
  have hrl : rk.length ≤ 14 := by have := hrk.len; omega
  have E6 : Hid (PlEnv w p (.slice a p.ships.length cap) a pl (.slice a5 p.ships.length cap5) w6 ∧ SlK cInt w6 (.slice x6 rk.length cap6) (ints rk) ∧ Left p pl (rk.take 0) w6 v4) := ⟨E5.out.later hb6, slK_ofRow hrow, r0, M5.out.1.below hb6, M5.out.2.1, fun t t0 t1 => by rw [M5.out.2.2 t t0 t1]; show _ = _ - 0; omega⟩
  clear hrk hrow h6 hb6 E5 M5 HRA
  go_wp2_with fail
  go_loopg [3, 27] rk.length (fun kx s3 s27 wr => ∃ (k : Nat), s27 = .int .i64 k ∧ k ≤ rk.length ∧ rk.length - k ≤ kx ∧ Hid (PlEnv w p (.slice a p.ships.length cap) a pl (.slice a5 p.ships.length cap5) wr ∧ SlK cInt wr (.slice x6 rk.length cap6) (ints rk) ∧ Left p pl (rk.take k) wr s3))
  case atStart => exact ⟨0, rfl, Nat.zero_le _, by omega, E6⟩
  case round =>
    clear E6
    obtain ⟨k, rfl, hk, hg, I⟩ := hrel
    by_cases hkl : k < rk.length
    · obtain ⟨i, hki⟩ : ∃ i, rk[k]? = some i := ⟨rk[k], List.getElem?_eq_getElem hkl⟩
      obtain ⟨hil, hst⟩ := (RK.out.1.mem i).1 (List.mem_of_getElem? hki)
      obtain ⟨s, hs⟩ : ∃ s, p.ships[i]? = some s := ⟨p.ships[i], List.getElem?_eq_getElem hil⟩
      obtain ⟨x, hx⟩ : ∃ x, pl[i]? = some x := ⟨pl[i]'(by omega), List.getElem?_eq_getElem (by omega)⟩
      obtain ⟨bb, off, rfl, hrd⟩ : ∃ b off, a = some ⟨b, off, none⟩ ∧ RdK cShip wr b off p.ships := by
        rcases I.out.1.ships with h | h
        · rw [h] at hil; simp at hil
        · exact h
      obtain ⟨b5, off5, rfl, hr5⟩ := I.out.1.plan.int hx
      obtain ⟨b6, off6, rfl, rc6⟩ := I.out.2.1.nat hki
      have hxd : pl.getD i (-1) = x := by rw [List.getD_eq_getElem?_getD, hx]; rfl
      have ESH : Hid (shp p i = s) := shp_get hs
      have EX : Hid (pl.getD i (-1) = x ∧ pl[i]? = some x ∧ rk[k]? = some i) := ⟨hxd, hx, hki⟩
      have FF : Hid (FitF (fun t => baseAt p t - ctrs p pl (rk.take k) t) p.now s.lg s.wd x) := by
        have hS : rk = rk.take k ++ i :: rk.drop (k + 1) := by
          rw [← List.take_append_drop k rk]
          congr 1
          · simp
          · rw [List.take_append_drop, List.drop_eq_getElem_cons hkl]
            congr 1
            have := List.getElem?_eq_getElem hkl
            rw [this] at hki
            exact Option.some.inj hki
        have h := RK.out.2 _ _ i hS
        rw [ESH.out, hxd] at h
        exact h
      have rc := hr5.int hx
      have rcb := (hr5.below ((Below.refl _ wr).alloc (Nat.le_refl _) (.cells #[.int .i64 s.st, .int .i64 s.wd, .int .i64 s.lg, .int .i64 s.cl, .int .i64 s.si, .int .i64 s.qu] 48))).int hx
      obtain ⟨c0, c1, c2, c3, c4, c5⟩ := hrd.ship hs
      obtain ⟨pc0, pc1, pc14, pc15⟩ := I.out.1.box.cells
      have HSH := shp_wd HP.out.port i hil
      rw [shp_get hs] at HSH
      have hbw : Below wr.heap.size wr (wr.alloc (.cells #[.int .i64 s.st, .int .i64 s.wd, .int .i64 s.lg, .int .i64 s.cl, .int .i64 s.si, .int .i64 s.qu] 48)) := (Below.refl _ wr).alloc (Nat.le_refl _) _
      obtain ⟨r, hL1, hL2, hL3⟩ := I.out.2.2
      have MM : Hid (PlEnv w p (.slice (some ⟨bb, off, none⟩) p.ships.length cap) (some ⟨bb, off, none⟩) pl (.slice (some ⟨b5, off5, none⟩) p.ships.length cap5) (wr.alloc (.cells #[.int .i64 s.st, .int .i64 s.wd, .int .i64 s.lg, .int .i64 s.cl, .int .i64 s.si, .int .i64 s.qu] 48)) ∧ SlK cInt (wr.alloc (.cells #[.int .i64 s.st, .int .i64 s.wd, .int .i64 s.lg, .int .i64 s.cl, .int .i64 s.si, .int .i64 s.qu] 48)) (.slice (some ⟨b6, off6, none⟩) rk.length cap6) (ints rk) ∧ Sl (wr.alloc (.cells #[.int .i64 s.st, .int .i64 s.wd, .int .i64 s.lg, .int .i64 s.cl, .int .i64 s.si, .int .i64 s.qu] 48)) u3 r ∧ SBox (wr.alloc (.cells #[.int .i64 s.st, .int .i64 s.wd, .int .i64 s.lg, .int .i64 s.cl, .int .i64 s.si, .int .i64 s.qu] 48)) wr.heap.size s) := ⟨I.out.1.later hbw, I.out.2.1.below hbw, hL1.below hbw, SBox.new wr s⟩
      have RG : Hid (Good r ∧ ∀ t, 0 ≤ t → t < 300 → val r t = baseAt p t - ctrs p pl (rk.take k) t) := ⟨hL2, hL3⟩
      have hk3 : (k : Int) < (rk.length : Int) := by omega
      have hi3 : (i : Int) < (p.ships.length : Int) := by omega
      obtain ⟨w1, w2⟩ := HSH.1.wd
      obtain ⟨l1, l2⟩ := HSH.1.lg
      have wgap : w.heap.size < wr.heap.size := I.out.1.box.lt
      clear hs hrd hbw hr5 hx hxd HSH I hki hst hL1 hL2 hL3
      go_upto_region 10 with fail
      clear c0 c1 c2 c3 c4 c5 pc0 pc1 pc14 pc15 rc rc6 rcb
      generalize wr.alloc (.cells #[.int .i64 s.st, .int .i64 s.wd, .int .i64 s.lg, .int .i64 s.cl, .int .i64 s.si, .int .i64 s.qu] 48) = WC at *
      generalize wr.heap.size = gs at *
      obtain ⟨k0, k1, k2, k3, k4, k5⟩ := MM.out.2.2.2.cells
      clear k0 k3 k4 k5
      have EN : ∃ en : Int, (x < 0 → en = 300 - s.lg + 1) ∧ (¬ x < 0 → en = x) ∧ -1000 ≤ en ∧ en ≤ 1000 := by
        by_cases hx0 : x < 0
        · exact ⟨300 - s.lg + 1, fun _ => rfl, fun h => absurd hx0 h, by omega, by omega⟩
        · refine ⟨x, fun h => absurd h hx0, fun _ => rfl, by omega, ?_⟩
          rcases FF.out with ⟨h, _⟩ | ⟨_, h, _, _⟩ <;> omega
      obtain ⟨en, en1, en2, en3, en4⟩ := EN
      go_upto_if 41 with fail
      go_cut [9] (fun s9 wc => s9 = .int .i64 en ∧ wc = WC)
      case first =>
        by_cases hx0 : x < 0
        · have e := en1 hx0
          subst e
          go_wp2_with fail
          go_meet
          exact ⟨by go_num, rfl⟩
        · have e := en2 hx0
          subst e
          go_wp2_with fail
          go_meet
          exact ⟨rfl, rfl⟩
      case rest =>
        obtain ⟨rfl, rfl⟩ := hcut
        have NR : Hid (∀ t, p.now ≤ t → t < en → ¬ roomF (fun t => baseAt p t - ctrs p pl (rk.take k) t) s.wd t s.lg ∧ t + s.lg ≤ 300) := fun t ta tb => by
          rcases FF.out with ⟨h1, h2⟩ | ⟨h1, h2, _, h3⟩
          · have := en1 (by omega)
            exact ⟨h2 t ta (by omega), by omega⟩
          · have := en2 (by have := hnow0; omega)
            exact ⟨h3 t ta (by omega), by omega⟩
        obtain ⟨pc0, pc1, pc14, pc15⟩ := MM.out.1.box.cells
        clear pc1 pc14 pc15 k1 k2
        go_wp2_with fail
        clear pc0
        go_loopg [10] 1000 (fun kx s10 wi => ∃ (t : Int), s10 = .int .i64 t ∧ p.now ≤ t ∧ (en - t).toNat ≤ kx ∧ Hid (PlEnv w p (.slice (some ⟨bb, off, none⟩) p.ships.length cap) (some ⟨bb, off, none⟩) pl (.slice (some ⟨b5, off5, none⟩) p.ships.length cap5) wi ∧ SlK cInt wi (.slice (some ⟨b6, off6, none⟩) rk.length cap6) (ints rk) ∧ Sl wi u3 r ∧ SBox wi gs s))
        case atStart => exact ⟨p.now, rfl, Int.le_refl _, by omega, MM⟩
        case round =>
          clear MM
          obtain ⟨t, rfl, ht1, ht2, J⟩ := hrel
          by_cases htl : t < en
          · obtain ⟨nr, tl⟩ := NR.out t ht1 htl
            have HN : Hid (¬ room r s.wd t s.lg) := fun h => nr fun q qa qb => by
              have h1 := h q qa qb
              have h2 := RG.out.2 q (by omega) (by omega)
              show s.wd ≤ baseAt p q - ctrs p pl (rk.take k) q
              omega
            obtain ⟨k0, k1, k2, k3, k4, k5⟩ := J.out.2.2.2.cells
            clear k0 k3 k4 k5 nr
            go_wp2_with fail
            refine (take_any _ r _ _ _ _ J.out.2.2.1).mono ?_
            rintro e w7 ⟨v7, ok7, rfl, hT7, hb7⟩
            have F7 : Hid (ok7 = false ∧ PlEnv w p (.slice (some ⟨bb, off, none⟩) p.ships.length cap) (some ⟨bb, off, none⟩) pl (.slice (some ⟨b5, off5, none⟩) p.ships.length cap5) w7 ∧ SlK cInt w7 (.slice (some ⟨b6, off6, none⟩) rk.length cap6) (ints rk) ∧ Sl w7 u3 r ∧ SBox w7 gs s) := by
              refine ⟨?_, J.out.1.later hb7, J.out.2.1.below hb7, J.out.2.2.1.below hb7, J.out.2.2.2.later hb7 J.out.2.2.2.lt⟩
              rcases take_good RG.out.1 ⟨by omega, w2⟩ (by omega) (by omega) tl hT7 with ⟨_, _, _, _, _, h⟩ | ⟨e, _, _⟩
              · exact absurd h HN.out
              · exact e
            obtain rfl : ok7 = false := F7.out.1
            clear hT7 hb7 J k1 k2
            go_wp2_with fail
            go_roundg (en - (t + 1)).toNat
            case measure => omega
            case rel => exact ⟨t + 1, by go_num, by omega, Nat.le_refl _, F7.out.2⟩
          · have rc := J.out.1.planCell EX.out.2.1
            by_cases hx0 : 0 ≤ x
            · obtain ⟨f1, f2, f3⟩ : p.now ≤ x ∧ x + s.lg ≤ 300 ∧ roomF (fun t => baseAt p t - ctrs p pl (rk.take k) t) s.wd x s.lg := by
                rcases FF.out with ⟨h, _⟩ | ⟨h1, h2, h3, _⟩
                · omega
                · exact ⟨h1, h2, h3⟩
              have OK8 : Hid (okArgs r x (x + s.lg) s.wd) := ⟨goodB_iff.2 RG.out.1, by unfold inB; exact decide_eq_true ⟨by omega, w2⟩, by omega, by omega, f2⟩
              have SL8 : Hid (Sl wr.drew u3 r) := J.out.2.2.1.below ((Below.refl _ _).drew)
              have ST : Hid (∀ w8 v8 ok8, TakeAns r x (x + s.lg) s.wd (-s.wd) w8 v8 ok8 → Below wr.drew.heap.size wr.drew w8 → (PlEnv w p (.slice (some ⟨bb, off, none⟩) p.ships.length cap) (some ⟨bb, off, none⟩) pl (.slice (some ⟨b5, off5, none⟩) p.ships.length cap5) w8 ∧ SlK cInt w8 (.slice (some ⟨b6, off6, none⟩) rk.length cap6) (ints rk) ∧ Left p pl (rk.take (k + 1)) w8 v8) ∧ w8.cell? ⟨b5, off5 + i, none⟩ = some (.int .i64 x) ∧ SBox w8 gs s) := fun w8 v8 ok8 hT hb8 => by
                have hb9 := below_from_drew hb8
                refine ⟨⟨J.out.1.later hb9, J.out.2.1.below hb9, ?_⟩, (J.out.1.later hb9).planCell EX.out.2.1, J.out.2.2.2.later hb9 J.out.2.2.2.lt⟩
                rcases take_good RG.out.1 ⟨by omega, w2⟩ (by omega) (by omega) f2 hT with ⟨_, r8, g1, g2, g3, _⟩ | ⟨_, _, g2⟩
                · exact Left.step EX.out.2.2 EX.out.1 ESH.out RG.out.2 hx0 g1 g2 g3
                · refine absurd (fun q qa qb => ?_) g2
                  have h1 : s.wd ≤ baseAt p q - ctrs p pl (rk.take k) q := f3 q qa qb
                  have h2 := RG.out.2 q (by omega) (by omega)
                  omega
              have hwr : IntKind.i64.wrap (x + s.lg) = x + s.lg := wrap_small (by omega) (by omega)
              obtain ⟨k0, k1, k2, k3, k4, k5⟩ := J.out.2.2.2.cells
              clear k0 k3 k4 k5 f3
              go_wp2_with fail
              go_region_held (fun w' => w'.cell? ⟨b5, off5 + i, none⟩ = some (.int .i64 x) ∧ w'.cell? ⟨gs, 2, none⟩ = some (.int .i64 s.lg) ∧ w'.cell? ⟨gs, 1, none⟩ = some (.int .i64 s.wd)) (go_keep) (first | (go_at_call 23; refine (take_any _ r _ _ _ _ SL8.out).mono ?_; rintro e w8 ⟨v8, ok8, rfl, hT8, hb8⟩; have F8 : Hid (_ ∧ _ ∧ _) := ST.out w8 v8 ok8 hT8 hb8; have q1 := F8.out.2.1; have q2 := F8.out.2.2.cells.2.1; have q3 := F8.out.2.2.cells.2.2.1; clear hT8 hb8))
              all_goals go_wp2_with fail
              go_roundg (rk.length - (k + 1))
              case measure => omega
              case rel => exact ⟨k + 1, by go_num, by omega, Nat.le_refl _, F8.out.1⟩
            · have K2 : Hid (PlEnv w p (.slice (some ⟨bb, off, none⟩) p.ships.length cap) (some ⟨bb, off, none⟩) pl (.slice (some ⟨b5, off5, none⟩) p.ships.length cap5) wr ∧ SlK cInt wr (.slice (some ⟨b6, off6, none⟩) rk.length cap6) (ints rk) ∧ Left p pl (rk.take (k + 1)) wr u3) := by
                refine ⟨J.out.1, J.out.2.1, r, J.out.2.2.1, RG.out.1, fun q qa qb => ?_⟩
                rw [RG.out.2 q qa qb, take_succ_of EX.out.2.2, ctrs_append, ctrs_cons, ctrs_nil]
                have : ctr p pl i q = 0 := by unfold ctr; rw [EX.out.1, if_neg (by omega)]
                omega
              go_wp2_with fail
              go_roundg (rk.length - (k + 1))
              case measure => omega
              case rel => exact ⟨k + 1, by go_num, by omega, Nat.le_refl _, K2⟩
    · have hke : k = rk.length := by omega
      subst hke
      have B9 : Hid (Below w.heap.size w wr) := I.out.1.below
      clear I
      have hk3 : ¬ (rk.length : Int) < (rk.length : Int) := by omega
      go_wp2_with fail
      refine (keepPorts_any wr).mono ?_
      rintro e w2 ⟨rfl, hw2⟩
      have B2 : Hid (Below w.heap.size w w2) := B9.out.trans (hw2.mono B9.out.size)
      go_wp2_with fail
      go_ret
      exact ⟨rfl, B2.out⟩

end Go.Proofs.Ytghhegajbehpeaa
