/- Texts of this claim, in one: TUndoW. -/
import Derived.Test.YtcmdoeledmkfmabGreatDoorXTBase
/- TopUndo: what was begun and undone has never been: P5.4. -/
set_option linter.unusedSimpArgs false
set_option linter.unusedVariables false
namespace Go.Proofs.YtcmdoeledmkfmabGreatDoor
open Go.RowKit

theorem begin_told {D D1 : Dk} {n er : Int} (h : LineIs D sBegin D1 er n) (hn : D.n < 250) (he : er = 0) : D1.asd = some D.p ∧ D1.p = D.p ∧ D1.n = D.n + 1 := by
  have := lineIs_told h hn parse_begin
  unfold ObsIs at this
  simp only [show ¬ ((10 : Int) = 9) by decide, if_false, if_true] at this
  rcases this.2 with ⟨_, _, rfl⟩ | ⟨_, h, _⟩
  · exact ⟨rfl, rfl, rfl⟩
  · rw [he] at h; cases h

theorem undo_obs {D D1 : Dk} {n er : Int} (h : LineIs D sUndo D1 er n) (hn : D.n < 250) : UndoIs { D with n := D.n + 1 } D1 er := by
  have := lineIs_told h hn parse_undo
  unfold ObsIs at this
  simp only [show ¬ ((12 : Int) = 9) by decide, show ¬ ((12 : Int) = 10) by decide, show ¬ ((12 : Int) = 11) by decide, if_false, if_true] at this
  exact this.2

theorem undo_told {D D1 : Dk} {q : Pt} {n er : Int} (h : LineIs D sUndo D1 er n) (hn : D.n < 250) (ha : D.asd = some q) : er = 0 ∧ D1.p = q ∧ D1.asd = none ∧ D1.n = D.n + 1 := by
  rcases undo_obs h hn with ⟨q', h1, rfl, rfl⟩ | ⟨h1, _⟩
  · have h1 : D.asd = some q' := h1
    rw [ha] at h1
    injection h1 with h1
    exact ⟨rfl, h1.symm, rfl, rfl⟩
  · have h1 : D.asd = none := h1
    rw [ha] at h1
    cases h1

theorem undo_none {D D1 : Dk} {n er : Int} (h : LineIs D sUndo D1 er n) (hn : D.n < 250) (ha : D.asd = none) : er = 7 := by
  rcases undo_obs h hn with ⟨q', h1, _⟩ | ⟨_, h, _⟩
  · have h1 : D.asd = some q' := h1
    rw [ha] at h1
    cases h1
  · exact h

/-- what stays while lines are told that are to be undone -/
structure UnS (w : World) (g7 d : Nat) (p : Pt) (v : Value) (pa : Option Addr) (pc : Nat) (pl : List Int) (k : Nat) (W : World) (D : Dk) : Prop where
  ds : DS W d D
  asd : D.asd = some p
  n : D.n ≤ 81 + k
  was : PBox W g7 p v
  ships : RowT 51 cShip W v p.ships
  plan : RowT 3 cInt W (.slice pa pl.length pc) pl
  below : Below w.heap.size w W
  new : w.heap.size ≤ d
  ne : d < g7

theorem UnS.later {w : World} {g7 d : Nat} {p : Pt} {v : Value} {pa : Option Addr} {pc : Nat} {pl : List Int} {k : Nat} {W W' : World} {D : Dk} (h : UnS w g7 d p v pa pc pl k W D) (hb : Below W.heap.size W W') : UnS w g7 d p v pa pc pl k W' D :=
  ⟨h.ds.later hb, h.asd, h.n, h.was.later hb h.was.lt, h.ships.later hb, h.plan.later hb, h.below.trans (hb.mono h.below.size), h.new, h.ne⟩
theorem UnS.told {w : World} {g7 d : Nat} {p : Pt} {v : Value} {pa : Option Addr} {pc : Nat} {pl : List Int} {k k' : Nat} {W W' : World} {D D' : Dk} (h : UnS w g7 d p v pa pc pl k W D) (hd : DS W' d D') (hf : Fr d W W') (ha : D'.asd = D.asd) (hn : D'.n ≤ 81 + k') : UnS w g7 d p v pa pc pl k' W' D' :=
  ⟨hd, ha.trans h.asd, hn, h.was.told hf (by have := h.ne; omega), h.ships.told h.ds hf (by decide), h.plan.told h.ds hf (by decide), h.below.trans (hf.below.mono h.new), h.new, h.ne⟩
theorem UnS.more {w : World} {g7 d : Nat} {p : Pt} {v : Value} {pa : Option Addr} {pc : Nat} {pl : List Int} {k k' : Nat} {W : World} {D : Dk} (h : UnS w g7 d p v pa pc pl k W D) (hk : k ≤ k') : UnS w g7 d p v pa pc pl k' W D :=
  ⟨h.ds, h.asd, by have := h.n; omega, h.was, h.ships, h.plan, h.below, h.new, h.ne⟩

/-- what the last look leans on -/
def UnH (g7 : Nat) (p : Pt) (v : Value) (pa : Option Addr) (pc : Nat) (pl : List Int) (W : World) : Prop := PBox W g7 p v ∧ RowT 51 cShip W v p.ships ∧ RowT 3 cInt W (.slice pa pl.length pc) pl
theorem UnH.later {g7 : Nat} {p : Pt} {v : Value} {pa : Option Addr} {pc : Nat} {pl : List Int} {W W' : World} (h : UnH g7 p v pa pc pl W) (hb : Below W.heap.size W W') : UnH g7 p v pa pc pl W' := ⟨h.1.later hb h.1.lt, h.2.1.later hb, h.2.2.later hb⟩
theorem UnH.told {g7 d : Nat} {p : Pt} {v : Value} {pa : Option Addr} {pc : Nat} {pl : List Int} {W W' : World} {D : Dk} (h : UnH g7 p v pa pc pl W) (hd : DS W d D) (hf : Fr d W W') (hne : d < g7) : UnH g7 p v pa pc pl W' := ⟨h.1.told hf (by omega), h.2.1.told hd hf (by decide), h.2.2.told hd hf (by decide)⟩

set_option maxHeartbeats 4000000 in
set_option maxRecDepth 100000 in
theorem topUndo_any (v : Value) (l : List (List UInt8)) (v2 : Value) (l2 : List (List UInt8)) (w : World) (hL : LW w) (hs : SlK cStr w v l) (hln : ∀ y ∈ l, y.length ≤ 9223372036854775807) (hll : l.length ≤ 8796093022208) (hs2 : SlK cStr w v2 l2) (hln2 : ∀ y ∈ l2, y.length ≤ 9223372036854775807) (hll2 : l2.length ≤ 8796093022208) :
    Calls Tryz.prog 9 #[v, v2] w fun e w' => e = .returned (.bool true) ∧ Below w.heap.size w w' := by
  have HP := playQuiet_any v l w hL hs hln hll
  have SL : Hid (∀ W, Below w.heap.size w W → SlK cStr W v2 l2) := fun W h => slK_below hs2 (Nat.le_refl _) h
  have LN : Hid (∀ y ∈ l2, y.length ≤ 9223372036854775807) := hln2
  have HTB := fun d D W h => tell_ds d D sBegin W h (by decide)
  have HTU := fun d D W h => tell_ds d D sUndo W h (by decide)
  have HT := fun d D s W h hs => tell_ds d D s W h hs
  have HPA := fun s hs W h => parse_any s hs W h
  obtain ⟨a, cap, hv⟩ : ∃ a cap, v = .slice a l.length cap := by obtain ⟨a, cap, h, _⟩ := hs; exact ⟨a, cap, h⟩
  obtain ⟨a2, cap2, hv2⟩ : ∃ a cap, v2 = .slice a l2.length cap := by obtain ⟨a, cap, h, _⟩ := hs2; exact ⟨a, cap, h⟩
  subst hv hv2
  have eB : txt sBegin = .string { data := #[98, 101, 103, 105, 110] } := rfl
  have eU : txt sUndo = .string { data := #[117, 110, 100, 111] } := rfl
  rw [eB] at HTB
  rw [eU] at HTU
  unfold txt at *
  clear hL hs hln hs2 hln2 eB eU
  go_enter Tryz.func9, Tryz.ntmps9
  go_wp2_with fail
  refine HP.mono ?_
  rintro e w1 ⟨d, rfl, h1⟩
  obtain ⟨D, hD⟩ := h1.out
  have E1 : Hid (PD l w w1 d D) := hD
  have h4 := hD.ds.ok.port.port.four
  have hsn := hD.ds.ok.port.port.len
  have hn80 := hD.n
  have HN : Hid (0 ≤ D.p.now) := hD.ds.ok.port.port.now.1
  clear h1 hD HP
  go_wp2_with fail
  refine (HTB d D _ E1.out.ds).mono ?_
  rintro e w2 ⟨er, n, rfl, h2⟩
  obtain ⟨D1, j1, j2, j3⟩ := h2.out
  have hf := fieldCode (.int .i64 er) (.int .i64 n)
  by_cases he : er = 0
  case neg =>
    have E2 : Hid (Below w.heap.size w w2) := E1.out.below.trans (j3.below.mono E1.out.new)
    have hne : (er != 0) = true := by simp [he]
    clear h2 j1 j2 j3 E1 HTB HTU HT HPA he
    go_wp2_with fail
    go_ret
    exact ⟨rfl, E2.out⟩
  subst he
  obtain ⟨b1, b2, b3⟩ := begin_told j1 (by omega) rfl
  have E2 : Hid (DS w2 d D1 ∧ D1.asd = some D.p ∧ D1.p = D.p ∧ D1.n ≤ 81 ∧ Below w.heap.size w w2 ∧ w.heap.size ≤ d) := ⟨j2, b1, b2, by omega, E1.out.below.trans (j3.below.mono E1.out.new), E1.out.new⟩
  clear h2 j1 j2 j3 E1 HTB b1 b2 b3
  go_wp2_with fail
  refine (deskPort_any d D1 _ E2.out.1.dsk E2.out.1.ok).mono ?_
  rintro e w3 ⟨v3, rfl, h3⟩
  rw [E2.out.2.2.1]
  have h3' := h3.out
  rw [E2.out.2.2.1] at h3'
  have E3 : Hid (DS w3 d D1 ∧ D1.asd = some D.p ∧ D1.p = D.p ∧ D1.n ≤ 81 ∧ Below w.heap.size w w3 ∧ w.heap.size ≤ d ∧ RowT 51 cShip w3 v3 D.p.ships) := ⟨E2.out.1.later h3'.2, E2.out.2.1, E2.out.2.2.1, E2.out.2.2.2.1, E2.out.2.2.2.2.1.trans (h3'.2.mono E2.out.2.2.2.2.1.size), E2.out.2.2.2.2.2, RowT.own h3'.1⟩
  have on3 : v3.oneCell' = true := E3.out.2.2.2.2.2.2.one
  clear h3 h3' E2
  generalize hPC : (portCells D.p v3).toArray = PC at *
  have HPC : Hid ((portCells D.p v3).toArray = PC) := hPC
  clear hPC
  go_wp2_with fail
  refine (deskPlan_any d D1 _ E3.out.1.dsk E3.out.1.ok).mono ?_
  rintro e w4 ⟨v4, rfl, h4p⟩
  obtain ⟨pl, k1, k2, k3⟩ := h4p.out
  obtain ⟨qa, qc, hv4⟩ := (RowT.own k2).shape
  subst hv4
  rw [E3.out.2.2.1] at k1
  have PI : Hid (PlanIs D.p pl) := k1
  have hpl : Hid (pl.length = D.p.ships.length) := k1.len
  have E4 : Hid (DS w4 d D1 ∧ D1.asd = some D.p ∧ D1.n ≤ 81 ∧ Below w.heap.size w w4 ∧ w.heap.size ≤ d ∧ RowT 51 cShip w4 v3 D.p.ships ∧ RowT 3 cInt w4 (.slice qa pl.length qc) pl) := ⟨E3.out.1.later k3, E3.out.2.1, E3.out.2.2.2.1, E3.out.2.2.2.2.1.trans (k3.mono E3.out.2.2.2.2.1.size), E3.out.2.2.2.2.2.1, E3.out.2.2.2.2.2.2.later k3, RowT.own k2⟩
  clear h4p k1 k2 k3 E3
  go_upto_region 7 with (first | (refine wpList_alloc_box rfl rfl 7 rfl ?_; intro w5 h5 s5) | (refine wpList_store_box rfl _ _ rfl w4.heap.size zeroPt D.p (.slice none 0 0) v3 rfl (by rw [← HPC.out]; rfl) h5.out.1 h4 on3 ?_; intro w6 h6 s6))
  have E6 : Hid (UnS w w4.heap.size d D.p v3 qa qc pl 0 w6 D1) := by
    have hb : Below w4.heap.size w4 w6 := h5.out.2.trans (h6.out.2.2 _ (Nat.le_refl _))
    exact ⟨E4.out.1.later hb, E4.out.2.1, by have := E4.out.2.2.1; omega, h6.out.1, E4.out.2.2.2.2.2.1.later hb, E4.out.2.2.2.2.2.2.later hb, E4.out.2.2.2.1.trans (hb.mono E4.out.2.2.2.1.size), E4.out.2.2.2.2.1, E4.out.1.lt⟩
  clear h5 h6 s5 s6 E4
  generalize w4.heap.size = g7 at *
  go_wp2_with fail
  go_loopg [9, 10, 11] (min l2.length 40) (fun kx s9 s10 s11 wr => ∃ (k : Nat), s9 = .int .i64 k ∧ k ≤ min l2.length 40 ∧ min l2.length 40 - k ≤ kx ∧ Hid (∃ D', UnS w g7 d D.p v3 qa qc pl k wr D'))
  case atStart => exact ⟨0, rfl, Nat.zero_le _, by omega, ⟨D1, E6.out⟩⟩
  case round =>
    clear E6
    obtain ⟨k, rfl, hk, hg, HD⟩ := hrel
    obtain ⟨D', hD'⟩ := HD.out
    have I : Hid (UnS w g7 d D.p v3 qa qc pl k wr D') := hD'
    clear hD' HD
    by_cases h40 : k < min l2.length 40
    · have k1 : (k : Int) < (l2.length : Int) := by omega
      have k2 : (k : Int) < 40 := by omega
      have k3 : k < 40 := by omega
      have k4 : k < l2.length := by omega
      obtain ⟨s, hs⟩ : ∃ s, l2[k]? = some s := ⟨l2[k]'k4, List.getElem?_eq_getElem k4⟩
      have HS : Hid (l2[k]? = some s) := hs
      have hsm := LN.out s (List.mem_of_getElem? hs)
      obtain ⟨b, off, rfl⟩ : ∃ b off, a2 = some ⟨b, off, none⟩ := by
        obtain ⟨a', c', e, _, hr⟩ := SL.out wr I.out.below
        injection e with e1
        rcases hr with hr | ⟨b, off, hr, _⟩
        · rw [hr] at k4; simp at k4
        · exact ⟨b, off, by rw [e1, hr]⟩
      have HR : Hid (∀ W, Below w.heap.size w W → W.cell? ⟨b, off + k, none⟩ = some (.string ⟨s.toArray⟩)) := fun W hW => by
        obtain ⟨a', c', e, _, hr⟩ := SL.out W hW
        injection e with e1
        rcases hr with hr | ⟨b', off', hr, h⟩
        · rw [hr] at k4; simp at k4
        · rw [hr] at e1
          injection e1 with e1
          injection e1 with e1 e2
          subst e1 e2
          exact h.str HS.out
      have q1 := HR.out wr I.out.below
      clear hs k4 SL LN HTU HPC
      go_wp2_with fail
      clear q1
      refine (HPA s hsm _ I.out.ds.lw).mono ?_
      rintro e w7 ⟨o, er, rfl, hP, hb7⟩
      have PI2 : Hid ((er = 0 ∧ ParseIs s (some o)) ∨ (er = 1 ∧ o = noOrd ∧ ParseIs s none)) := hP
      have E7 : Hid (UnS w g7 d D.p v3 qa qc pl k w7 D') := I.out.later hb7
      clear hP hb7 I HPA
      go_upto_region 11 with (first | (refine wpList_alloc_ord rfl rfl 10 rfl ?_; intro w8 h8 s8) | (refine wpList_store_ord rfl _ _ rfl w7.heap.size noOrd o rfl rfl h8.out.1 ?_; intro w9 h9 s9))
      have E9 : Hid (UnS w g7 d D.p v3 qa qc pl k w9 D' ∧ LOB w9 w7.heap.size o) := ⟨E7.out.later (h8.out.2.trans (h9.out.2.2 _ (Nat.le_refl _))), h9.out.1⟩
      clear h8 h9 s8 s9 E7
      generalize w7.heap.size = go at *
      have oc := E9.out.2.cells.1
      have q1 := HR.out w9 E9.out.1.below
      by_cases hc : er = 0 ∧ (o.kd = 10 ∨ o.kd = 11 ∨ o.kd = 12)
      · obtain ⟨rfl, hc⟩ := hc
        clear HT
        rcases (show o.kd = 10 ∨ (¬ o.kd = 10 ∧ o.kd = 11) ∨ (¬ o.kd = 10 ∧ ¬ o.kd = 11 ∧ o.kd = 12) by omega) with g1 | ⟨g1, g2⟩ | ⟨g1, g2, g3⟩
        · have e1 : (o.kd == 10) = true := by simp [g1]
          clear hc PI2 HR
          go_wp2_with fail
          go_roundg (min l2.length 40 - (k + 1))
          case measure => omega
          case rel => exact ⟨k + 1, by go_num, by omega, Nat.le_refl _, D', E9.out.1.more (by omega)⟩
        · have e1 : (o.kd == 10) = false := by simp [g1]
          have e2 : (o.kd == 11) = true := by simp [g2]
          clear hc PI2 HR
          go_wp2_with fail
          go_roundg (min l2.length 40 - (k + 1))
          case measure => omega
          case rel => exact ⟨k + 1, by go_num, by omega, Nat.le_refl _, D', E9.out.1.more (by omega)⟩
        · have e1 : (o.kd == 10) = false := by simp [g1]
          have e2 : (o.kd == 11) = false := by simp [g2]
          have e3 : (o.kd == 12) = true := by simp [g3]
          clear hc PI2 HR
          go_wp2_with fail
          go_roundg (min l2.length 40 - (k + 1))
          case measure => omega
          case rel => exact ⟨k + 1, by go_num, by omega, Nat.le_refl _, D', E9.out.1.more (by omega)⟩
      · have HA : Hid (∀ D2 er n, LineIs D' s D2 er n → D2.asd = D'.asd ∧ D2.n ≤ 81 + (k + 1 : Nat)) := fun D2 er' n' hl => by
          refine ⟨lineIs_aside hl fun o' ho' => ?_, ?_⟩
          · rcases PI2.out with ⟨h1, h2⟩ | ⟨_, _, h2⟩
            · have e := parseIs_unique h2 ho'
              injection e with e
              subst e
              exact ⟨fun h => hc ⟨h1, Or.inl h⟩, fun h => hc ⟨h1, Or.inr (Or.inl h)⟩, fun h => hc ⟨h1, Or.inr (Or.inr h)⟩⟩
            · cases parseIs_unique h2 ho'
          · have h1 := (lineIs_ok E9.out.1.ds.ok hl).2 (by have := E9.out.1.n; omega)
            have := E9.out.1.n
            omega
        by_cases g0 : er = 0
        · subst g0
          have e1 : (o.kd == 10) = false := by simp; intro h; exact hc ⟨rfl, Or.inl h⟩
          have e2 : (o.kd == 11) = false := by simp; intro h; exact hc ⟨rfl, Or.inr (Or.inl h)⟩
          have e3 : (o.kd == 12) = false := by simp; intro h; exact hc ⟨rfl, Or.inr (Or.inr h)⟩
          clear hc PI2
          go_wp2_with fail
          refine (HT d D' s _ E9.out.1.ds hsm).mono ?_
          rintro e w10 ⟨er', n', rfl, h10⟩
          obtain ⟨D2, j1, j2, j3⟩ := h10.out
          have E10 : Hid (UnS w g7 d D.p v3 qa qc pl (k + 1) w10 D2) := by have := HA.out _ _ _ j1; exact E9.out.1.told j2 j3 this.1 this.2
          clear h10 j1 j2 j3 E9 HA HT HR oc q1
          go_wp2_with fail
          go_roundg (min l2.length 40 - (k + 1))
          case measure => omega
          case rel => exact ⟨k + 1, by go_num, by omega, Nat.le_refl _, D2, E10.out⟩
        · have e0 : (er == 0) = false := by simp [g0]
          clear hc PI2 g0
          go_wp2_with fail
          refine (HT d D' s _ E9.out.1.ds hsm).mono ?_
          rintro e w10 ⟨er', n', rfl, h10⟩
          obtain ⟨D2, j1, j2, j3⟩ := h10.out
          have E10 : Hid (UnS w g7 d D.p v3 qa qc pl (k + 1) w10 D2) := by have := HA.out _ _ _ j1; exact E9.out.1.told j2 j3 this.1 this.2
          clear h10 j1 j2 j3 E9 HA HT HR oc q1
          go_wp2_with fail
          go_roundg (min l2.length 40 - (k + 1))
          case measure => omega
          case rel => exact ⟨k + 1, by go_num, by omega, Nat.le_refl _, D2, E10.out⟩
    · clear HPA HT SL LN
      by_cases k1 : k < l2.length
      · have k2 : (k : Int) < (l2.length : Int) := by omega
        have k3 : ¬ ((k : Int) < 40) := by omega
        have hk40 : k ≤ 40 := by omega
        clear h40 hk
        go_upto_region 13 with fail
        have ID : Hid (UnS w g7 d D.p v3 qa qc pl k wr.drew D') := I.out.later (Below.refl _ _).drew
        refine wp_region_held_drew (S := fun W => Hid (UnH g7 D.p v3 qa qc pl W)) (by kernel_rfl) ⟨ID.out.was, ID.out.ships, ID.out.plan⟩ (fun hHeld => ?_)
        clear I
        refine wpAnyH_take (i := 0) (oi := { dst := some 68, op := Go.Op.move (Go.Operand.tmp 5), type := 22, pos := "top.go:189", after := #[], guard := none }) (v := ?_) rfl (by kernel_rfl) (by kernel_rfl) (by kernel_rfl) (fun _ _ _ h => h) (Or.inl ⟨by rfl, ?_⟩) hHeld ?_
        rotate_left
        · (intro w hSw; first | (go_simp; done) | (go_simp; with_reducible rfl))
        simp only [Act.put, List.setIfInBounds_toArray, List.set_cons_zero, List.set_cons_succ]
        refine wpAnyH_ready (rs := [1]) (by kernel_rfl) (by simp) ?_
        refine AllReadyH.cons rfl (fun K hK => ?_) AllReadyH.nil
        go_simp
        refine (HTU d D' _ ID.out.ds).mono ?_
        rintro e w10 ⟨er, n, rfl, h10⟩
        obtain ⟨D3, j1, j2, j3⟩ := h10.out
        obtain ⟨rfl, u1, u2, u3⟩ := undo_told j1 (by have := ID.out.n; omega) ID.out.asd
        have E10 : Hid (DS w10 d D3 ∧ D3.p = D.p ∧ D3.asd = none ∧ D3.n ≤ 122 ∧ Below w.heap.size w w10 ∧ w.heap.size ≤ d ∧ d < g7) := ⟨j2, u1, u2, by have := ID.out.n; omega, ID.out.below.trans (j3.below.mono ID.out.new), ID.out.new, ID.out.ne⟩
        have H10 : Hid (UnH g7 D.p v3 qa qc pl w10) := hHeld.out.told ID.out.ds j3 ID.out.ne
        clear h10 j1 j2 j3 u1 u2 u3 ID hHeld
        go_wp2_with fail
        refine hK.out _ _ H10 (fun hHeld => ?_)
        clear hK K H10
        have hf0 := fieldCode (.int .i64 0) (.int .i64 n)
        refine wpAnyH_take (i := 2) (oi := { dst := some 70, op := Go.Op.field 25 (Go.Operand.tmp 69) 0, type := 23, pos := "top.go:189", after := #[{ on := 1, ground := Go.Ground.data }], guard := none }) (v := ?_) rfl (by kernel_rfl) (by kernel_rfl) (by kernel_rfl) (fun _ _ _ h => h) (Or.inl ⟨by rfl, ?_⟩) hHeld ?_
        rotate_left
        · (intro w hSw; first | (go_simp; done) | (go_simp; with_reducible rfl))
        simp only [Act.put, List.setIfInBounds_toArray, List.set_cons_zero, List.set_cons_succ]
        refine wpAnyH_take (i := 3) (oi := { dst := some 71, op := Go.Op.binOp Go.BinOp.eql 23 (Go.Operand.tmp 70) (Go.Operand.const (Go.Value.int Go.IntKind.i64 0)) 23, type := 4, pos := "top.go:189", after := #[{ on := 2, ground := Go.Ground.data }], guard := none }) (v := ?_) rfl (by kernel_rfl) (by kernel_rfl) (by kernel_rfl) (fun _ _ _ h => h) (Or.inl ⟨by rfl, ?_⟩) hHeld ?_
        rotate_left
        · (intro w hSw; first | (go_simp; done) | (go_simp; with_reducible rfl))
        simp only [Act.put, List.setIfInBounds_toArray, List.set_cons_zero, List.set_cons_succ]
        refine wpAnyH_take (i := 4) (oi := { dst := some 72, op := Go.Op.move (Go.Operand.tmp 71), type := 4, pos := "top.go:189", after := #[{ on := 3, ground := Go.Ground.data }, { on := 1, ground := Go.Ground.chain }], guard := none }) (v := ?_) rfl (by kernel_rfl) (by kernel_rfl) (by kernel_rfl) (fun _ _ _ h => h) (Or.inl ⟨by rfl, ?_⟩) hHeld ?_
        rotate_left
        · (intro w hSw; first | (go_simp; done) | (go_simp; with_reducible rfl))
        simp only [Act.put, List.setIfInBounds_toArray, List.set_cons_zero, List.set_cons_succ]
        refine wpAnyH_take (i := 5) (oi := { dst := some 73, op := Go.Op.move (Go.Operand.tmp 5), type := 22, pos := "top.go:189", after := #[{ on := 4, ground := Go.Ground.guard }], guard := some (4, true) }) (v := ?_) rfl (by kernel_rfl) (by kernel_rfl) (by kernel_rfl) (fun _ _ _ h => h) (Or.inl ⟨by rfl, ?_⟩) hHeld ?_
        rotate_left
        · (intro w hSw; first | (go_simp; done) | (go_simp; with_reducible rfl))
        simp only [Act.put, List.setIfInBounds_toArray, List.set_cons_zero, List.set_cons_succ]
        refine wpAnyH_take (i := 7) (oi := { dst := some 75, op := Go.Op.load 33 (Go.Operand.tmp 7), type := 33, pos := "top.go:189", after := #[{ on := 4, ground := Go.Ground.guard }], guard := some (4, true) }) (v := .agg PC) rfl (by kernel_rfl) (by kernel_rfl) (by kernel_rfl) (fun _ _ _ h => h) (by rw [← HPC.out]; exact yieldsIf_load_mid (by rfl) 33 (.tmp 7) rfl g7 0 rfl (portCells D.p v3) _ (fun W hW => hW.out.1.whole) Tryz.underlying33 rfl (portInfo D.p v3 h4)) hHeld ?_
        simp only [Act.put, List.setIfInBounds_toArray, List.set_cons_zero, List.set_cons_succ]
        refine wpAnyH_ready (rs := [6]) (by kernel_rfl) (by simp) ?_
        refine AllReadyH.cons rfl (fun K hK => ?_) AllReadyH.nil
        go_simp
        refine (deskPort_any d D3 _ E10.out.1.dsk E10.out.1.ok).mono ?_
        rintro e w11 ⟨v11, rfl, h11⟩
        rw [E10.out.2.1]
        have h11' := h11.out
        rw [E10.out.2.1] at h11'
        have E11 : Hid (DS w11 d D3 ∧ D3.p = D.p ∧ D3.asd = none ∧ D3.n ≤ 122 ∧ Below w.heap.size w w11 ∧ w.heap.size ≤ d ∧ d < g7 ∧ RowT 51 cShip w11 v11 D.p.ships) := ⟨E10.out.1.later h11'.2, E10.out.2.1, E10.out.2.2.1, E10.out.2.2.2.1, E10.out.2.2.2.2.1.trans (h11'.2.mono E10.out.2.2.2.2.1.size), E10.out.2.2.2.2.2.1, E10.out.2.2.2.2.2.2, RowT.own h11'.1⟩
        have H11 : Hid (UnH g7 D.p v3 qa qc pl w11) := hHeld.out.later h11'.2
        clear h11 h11' E10 hHeld hf0
        generalize hQC : (portCells D.p v11).toArray = QC at *
        have HQC : Hid ((portCells D.p v11).toArray = QC) := hQC
        clear hQC
        go_wp2_with fail
        refine hK.out _ _ H11 (fun hHeld => ?_)
        clear hK K H11
        try ((try dsimp only); simp only [Act.put, List.setIfInBounds_toArray, List.set_cons_zero, List.set_cons_succ])
        refine wpAnyH_ready (rs := [8]) (by kernel_rfl) (by simp) ?_
        refine AllReadyH.cons rfl (fun K hK => ?_) AllReadyH.nil
        go_simp
        refine (topPort_any (.agg QC) (.agg PC) D.p D.p _ ⟨v11, by rw [HQC.out], E11.out.2.2.2.2.2.2.2.sl, h4, by omega⟩ ⟨v3, by rw [HPC.out], hHeld.out.2.1.sl, h4, by omega⟩).mono ?_
        rintro e w12 ⟨⟨bb, rfl, hbb⟩, hb12⟩
        obtain rfl : bb = true := hbb.2 rfl
        have E12 : Hid (DS w12 d D3 ∧ D3.p = D.p ∧ D3.asd = none ∧ D3.n ≤ 122 ∧ Below w.heap.size w w12 ∧ w.heap.size ≤ d ∧ d < g7) := ⟨E11.out.1.later hb12, E11.out.2.1, E11.out.2.2.1, E11.out.2.2.2.1, E11.out.2.2.2.2.1.trans (hb12.mono E11.out.2.2.2.2.1.size), E11.out.2.2.2.2.2.1, E11.out.2.2.2.2.2.2.1⟩
        have H12 : Hid (UnH g7 D.p v3 qa qc pl w12) := hHeld.out.later hb12
        clear hbb hb12 E11 hHeld HQC
        go_wp2_with fail
        refine hK.out _ _ H12 (fun hHeld => ?_)
        clear hK K H12
        refine wpAnyH_take (i := 9) (oi := { dst := some 77, op := Go.Op.pick (Go.Operand.tmp 72) (Go.Operand.tmp 76) (Go.Operand.const (Go.Value.bool false)), type := 4, pos := "top.go:189", after := #[{ on := 4, ground := Go.Ground.data }, { on := 8, ground := Go.Ground.data }], guard := none }) (v := ?_) rfl (by kernel_rfl) (by kernel_rfl) (by kernel_rfl) (fun _ _ _ h => h) (Or.inl ⟨by rfl, ?_⟩) hHeld ?_
        rotate_left
        · (intro w hSw; first | (go_simp; done) | (go_simp; with_reducible rfl))
        simp only [Act.put, List.setIfInBounds_toArray, List.set_cons_zero, List.set_cons_succ]
        refine wpAnyH_take (i := 10) (oi := { dst := some 78, op := Go.Op.move (Go.Operand.tmp 77), type := 4, pos := "top.go:189", after := #[{ on := 9, ground := Go.Ground.data }, { on := 8, ground := Go.Ground.chain }], guard := none }) (v := ?_) rfl (by kernel_rfl) (by kernel_rfl) (by kernel_rfl) (fun _ _ _ h => h) (Or.inl ⟨by rfl, ?_⟩) hHeld ?_
        rotate_left
        · (intro w hSw; first | (go_simp; done) | (go_simp; with_reducible rfl))
        simp only [Act.put, List.setIfInBounds_toArray, List.set_cons_zero, List.set_cons_succ]
        refine wpAnyH_take (i := 11) (oi := { dst := some 79, op := Go.Op.move (Go.Operand.tmp 5), type := 22, pos := "top.go:189", after := #[{ on := 10, ground := Go.Ground.guard }], guard := some (10, true) }) (v := ?_) rfl (by kernel_rfl) (by kernel_rfl) (by kernel_rfl) (fun _ _ _ h => h) (Or.inl ⟨by rfl, ?_⟩) hHeld ?_
        rotate_left
        · (intro w hSw; first | (go_simp; done) | (go_simp; with_reducible rfl))
        simp only [Act.put, List.setIfInBounds_toArray, List.set_cons_zero, List.set_cons_succ]
        refine wpAnyH_take (i := 13) (oi := { dst := some 81, op := Go.Op.move (Go.Operand.tmp 8), type := 35, pos := "top.go:189", after := #[{ on := 10, ground := Go.Ground.guard }], guard := some (10, true) }) (v := ?_) rfl (by kernel_rfl) (by kernel_rfl) (by kernel_rfl) (fun _ _ _ h => h) (Or.inl ⟨by rfl, ?_⟩) hHeld ?_
        rotate_left
        · (intro w hSw; first | (go_simp; done) | (go_simp; with_reducible rfl))
        simp only [Act.put, List.setIfInBounds_toArray, List.set_cons_zero, List.set_cons_succ]
        refine wpAnyH_ready (rs := [12]) (by kernel_rfl) (by simp) ?_
        refine AllReadyH.cons rfl (fun K hK => ?_) AllReadyH.nil
        go_simp
        refine (deskPlan_any d D3 _ E12.out.1.dsk E12.out.1.ok).mono ?_
        rintro e w13 ⟨v13, rfl, h13⟩
        obtain ⟨pm, m1, m2, m3⟩ := h13.out
        rw [E12.out.2.1] at m1
        obtain rfl : pm = pl := m1.unique HN.out PI.out
        have E13 : Hid (DS w13 d D3 ∧ D3.asd = none ∧ D3.n ≤ 122 ∧ Below w.heap.size w w13 ∧ w.heap.size ≤ d ∧ d < g7 ∧ SlK cInt w13 v13 pm) := ⟨E12.out.1.later m3, E12.out.2.2.1, E12.out.2.2.2.1, E12.out.2.2.2.2.1.trans (m3.mono E12.out.2.2.2.2.1.size), E12.out.2.2.2.2.2.1, E12.out.2.2.2.2.2.2, (RowT.own m2).sl⟩
        have H13 : Hid (UnH g7 D.p v3 qa qc pm w13) := hHeld.out.later m3
        clear h13 m1 m2 m3 E12 hHeld
        go_wp2_with fail
        refine hK.out _ _ H13 (fun hHeld => ?_)
        clear hK K H13
        try ((try dsimp only); simp only [Act.put, List.setIfInBounds_toArray, List.set_cons_zero, List.set_cons_succ])
        refine wpAnyH_ready (rs := [14]) (by kernel_rfl) (by simp) ?_
        refine AllReadyH.cons rfl (fun K hK => ?_) AllReadyH.nil
        go_simp
        refine (topInts_any v13 _ pm pm _ E13.out.2.2.2.2.2.2 hHeld.out.2.2.sl (by have := hpl.out; omega) (by have := hpl.out; omega)).mono ?_
        rintro e w14 ⟨rfl, hb14⟩
        have E14 : Hid (DS w14 d D3 ∧ D3.asd = none ∧ D3.n ≤ 122 ∧ Below w.heap.size w w14 ∧ w.heap.size ≤ d ∧ d < g7) := ⟨E13.out.1.later hb14, E13.out.2.1, E13.out.2.2.1, E13.out.2.2.2.1.trans (hb14.mono E13.out.2.2.2.1.size), E13.out.2.2.2.2.1, E13.out.2.2.2.2.2.1⟩
        have H14 : Hid (UnH g7 D.p v3 qa qc pm w14) := hHeld.out.later hb14
        clear hb14 E13 hHeld
        simp only [decide_true]
        go_wp2_with fail
        refine hK.out _ _ H14 (fun hHeld => ?_)
        clear hK K H14
        refine wpAnyH_take (i := 15) (oi := { dst := some 83, op := Go.Op.pick (Go.Operand.tmp 78) (Go.Operand.tmp 82) (Go.Operand.const (Go.Value.bool false)), type := 4, pos := "top.go:189", after := #[{ on := 10, ground := Go.Ground.data }, { on := 14, ground := Go.Ground.data }], guard := none }) (v := ?_) rfl (by kernel_rfl) (by kernel_rfl) (by kernel_rfl) (fun _ _ _ h => h) (Or.inl ⟨by rfl, ?_⟩) hHeld ?_
        rotate_left
        · (intro w hSw; first | (go_simp; done) | (go_simp; with_reducible rfl))
        simp only [Act.put, List.setIfInBounds_toArray, List.set_cons_zero, List.set_cons_succ]
        refine wpAnyH_take (i := 16) (oi := { dst := some 84, op := Go.Op.move (Go.Operand.tmp 83), type := 4, pos := "top.go:189", after := #[{ on := 15, ground := Go.Ground.data }, { on := 14, ground := Go.Ground.chain }], guard := none }) (v := ?_) rfl (by kernel_rfl) (by kernel_rfl) (by kernel_rfl) (fun _ _ _ h => h) (Or.inl ⟨by rfl, ?_⟩) hHeld ?_
        rotate_left
        · (intro w hSw; first | (go_simp; done) | (go_simp; with_reducible rfl))
        simp only [Act.put, List.setIfInBounds_toArray, List.set_cons_zero, List.set_cons_succ]
        refine wpAnyH_take (i := 17) (oi := { dst := some 85, op := Go.Op.move (Go.Operand.tmp 5), type := 22, pos := "top.go:189", after := #[{ on := 16, ground := Go.Ground.guard }], guard := some (16, true) }) (v := ?_) rfl (by kernel_rfl) (by kernel_rfl) (by kernel_rfl) (fun _ _ _ h => h) (Or.inl ⟨by rfl, ?_⟩) hHeld ?_
        rotate_left
        · (intro w hSw; first | (go_simp; done) | (go_simp; with_reducible rfl))
        simp only [Act.put, List.setIfInBounds_toArray, List.set_cons_zero, List.set_cons_succ]
        refine wpAnyH_ready (rs := [18]) (by kernel_rfl) (by simp) ?_
        refine AllReadyH.cons rfl (fun K hK => ?_) AllReadyH.nil
        go_simp
        refine (HTU d D3 _ E14.out.1).mono ?_
        rintro e w15 ⟨er, n2, rfl, h15⟩
        obtain ⟨D4, j1, j2, j3⟩ := h15.out
        obtain rfl := undo_none j1 (by have := E14.out.2.2.1; omega) E14.out.2.1
        have E15 : Hid (Below w.heap.size w w15) := E14.out.2.2.2.1.trans (j3.below.mono E14.out.2.2.2.2.1)
        have H15 : Hid (UnH g7 D.p v3 qa qc pm w15) := hHeld.out.told E14.out.1 j3 E14.out.2.2.2.2.2
        clear h15 j1 j2 j3 E14 hHeld
        go_wp2_with fail
        refine hK.out _ _ H15 (fun hHeld => ?_)
        clear hK K H15
        have hf7 := fieldCode (.int .i64 7) (.int .i64 n2)
        refine wpAnyH_take (i := 19) (oi := { dst := some 87, op := Go.Op.field 25 (Go.Operand.tmp 86) 0, type := 23, pos := "top.go:189", after := #[{ on := 18, ground := Go.Ground.data }, { on := 16, ground := Go.Ground.guard }], guard := some (16, true) }) (v := ?_) rfl (by kernel_rfl) (by kernel_rfl) (by kernel_rfl) (fun _ _ _ h => h) (Or.inl ⟨by rfl, ?_⟩) hHeld ?_
        rotate_left
        · (intro w hSw; first | (go_simp; done) | (go_simp; with_reducible rfl))
        simp only [Act.put, List.setIfInBounds_toArray, List.set_cons_zero, List.set_cons_succ]
        refine wpAnyH_take (i := 20) (oi := { dst := some 88, op := Go.Op.binOp Go.BinOp.eql 23 (Go.Operand.tmp 87) (Go.Operand.const (Go.Value.int Go.IntKind.i64 7)) 23, type := 4, pos := "top.go:189", after := #[{ on := 19, ground := Go.Ground.data }, { on := 16, ground := Go.Ground.guard }], guard := some (16, true) }) (v := ?_) rfl (by kernel_rfl) (by kernel_rfl) (by kernel_rfl) (fun _ _ _ h => h) (Or.inl ⟨by rfl, ?_⟩) hHeld ?_
        rotate_left
        · (intro w hSw; first | (go_simp; done) | (go_simp; with_reducible rfl))
        simp only [Act.put, List.setIfInBounds_toArray, List.set_cons_zero, List.set_cons_succ]
        refine wpAnyH_take (i := 21) (oi := { dst := some 89, op := Go.Op.pick (Go.Operand.tmp 84) (Go.Operand.tmp 88) (Go.Operand.const (Go.Value.bool false)), type := 4, pos := "top.go:189", after := #[{ on := 16, ground := Go.Ground.data }, { on := 20, ground := Go.Ground.data }], guard := none }) (v := ?_) rfl (by kernel_rfl) (by kernel_rfl) (by kernel_rfl) (fun _ _ _ h => h) (Or.inl ⟨by rfl, ?_⟩) hHeld ?_
        rotate_left
        · (intro w hSw; first | (go_simp; done) | (go_simp; with_reducible rfl))
        simp only [Act.put, List.setIfInBounds_toArray, List.set_cons_zero, List.set_cons_succ]
        refine wpAnyH_take (i := 22) (oi := { dst := some 4, op := Go.Op.assign (Go.Operand.tmp 89), type := 4, pos := "top.go:189", after := #[{ on := 21, ground := Go.Ground.data }, { on := 18, ground := Go.Ground.chain }, { on := 0, ground := Go.Ground.phase }, { on := 1, ground := Go.Ground.phase }, { on := 2, ground := Go.Ground.phase }, { on := 3, ground := Go.Ground.phase }, { on := 4, ground := Go.Ground.phase }, { on := 5, ground := Go.Ground.phase }, { on := 6, ground := Go.Ground.phase }, { on := 7, ground := Go.Ground.phase }, { on := 8, ground := Go.Ground.phase }, { on := 9, ground := Go.Ground.phase }, { on := 10, ground := Go.Ground.phase }, { on := 11, ground := Go.Ground.phase }, { on := 12, ground := Go.Ground.phase }, { on := 13, ground := Go.Ground.phase }, { on := 14, ground := Go.Ground.phase }, { on := 15, ground := Go.Ground.phase }, { on := 16, ground := Go.Ground.phase }, { on := 17, ground := Go.Ground.phase }, { on := 18, ground := Go.Ground.phase }, { on := 19, ground := Go.Ground.phase }, { on := 20, ground := Go.Ground.phase }, { on := 21, ground := Go.Ground.phase }], guard := none }) (v := ?_) rfl (by kernel_rfl) (by kernel_rfl) (by kernel_rfl) (fun _ _ _ h => h) (Or.inl ⟨by rfl, ?_⟩) hHeld ?_
        rotate_left
        · (intro w hSw; first | (go_simp; done) | (go_simp; with_reducible rfl))
        simp only [Act.put, List.setIfInBounds_toArray, List.set_cons_zero, List.set_cons_succ]
        refine wpAnyH_done (by kernel_rfl) ?_ _
        clear hHeld
        go_wp2_with fail
        go_ret
        exact ⟨rfl, E15.out⟩
      · have k2 : ¬ ((k : Int) < (l2.length : Int)) := by omega
        have hk40 : k ≤ 40 := by omega
        clear h40 hk
        go_upto_region 13 with fail
        have ID : Hid (UnS w g7 d D.p v3 qa qc pl k wr.drew D') := I.out.later (Below.refl _ _).drew
        refine wp_region_held_drew (S := fun W => Hid (UnH g7 D.p v3 qa qc pl W)) (by kernel_rfl) ⟨ID.out.was, ID.out.ships, ID.out.plan⟩ (fun hHeld => ?_)
        clear I
        refine wpAnyH_take (i := 0) (oi := { dst := some 68, op := Go.Op.move (Go.Operand.tmp 5), type := 22, pos := "top.go:189", after := #[], guard := none }) (v := ?_) rfl (by kernel_rfl) (by kernel_rfl) (by kernel_rfl) (fun _ _ _ h => h) (Or.inl ⟨by rfl, ?_⟩) hHeld ?_
        rotate_left
        · (intro w hSw; first | (go_simp; done) | (go_simp; with_reducible rfl))
        simp only [Act.put, List.setIfInBounds_toArray, List.set_cons_zero, List.set_cons_succ]
        refine wpAnyH_ready (rs := [1]) (by kernel_rfl) (by simp) ?_
        refine AllReadyH.cons rfl (fun K hK => ?_) AllReadyH.nil
        go_simp
        refine (HTU d D' _ ID.out.ds).mono ?_
        rintro e w10 ⟨er, n, rfl, h10⟩
        obtain ⟨D3, j1, j2, j3⟩ := h10.out
        obtain ⟨rfl, u1, u2, u3⟩ := undo_told j1 (by have := ID.out.n; omega) ID.out.asd
        have E10 : Hid (DS w10 d D3 ∧ D3.p = D.p ∧ D3.asd = none ∧ D3.n ≤ 122 ∧ Below w.heap.size w w10 ∧ w.heap.size ≤ d ∧ d < g7) := ⟨j2, u1, u2, by have := ID.out.n; omega, ID.out.below.trans (j3.below.mono ID.out.new), ID.out.new, ID.out.ne⟩
        have H10 : Hid (UnH g7 D.p v3 qa qc pl w10) := hHeld.out.told ID.out.ds j3 ID.out.ne
        clear h10 j1 j2 j3 u1 u2 u3 ID hHeld
        go_wp2_with fail
        refine hK.out _ _ H10 (fun hHeld => ?_)
        clear hK K H10
        have hf0 := fieldCode (.int .i64 0) (.int .i64 n)
        refine wpAnyH_take (i := 2) (oi := { dst := some 70, op := Go.Op.field 25 (Go.Operand.tmp 69) 0, type := 23, pos := "top.go:189", after := #[{ on := 1, ground := Go.Ground.data }], guard := none }) (v := ?_) rfl (by kernel_rfl) (by kernel_rfl) (by kernel_rfl) (fun _ _ _ h => h) (Or.inl ⟨by rfl, ?_⟩) hHeld ?_
        rotate_left
        · (intro w hSw; first | (go_simp; done) | (go_simp; with_reducible rfl))
        simp only [Act.put, List.setIfInBounds_toArray, List.set_cons_zero, List.set_cons_succ]
        refine wpAnyH_take (i := 3) (oi := { dst := some 71, op := Go.Op.binOp Go.BinOp.eql 23 (Go.Operand.tmp 70) (Go.Operand.const (Go.Value.int Go.IntKind.i64 0)) 23, type := 4, pos := "top.go:189", after := #[{ on := 2, ground := Go.Ground.data }], guard := none }) (v := ?_) rfl (by kernel_rfl) (by kernel_rfl) (by kernel_rfl) (fun _ _ _ h => h) (Or.inl ⟨by rfl, ?_⟩) hHeld ?_
        rotate_left
        · (intro w hSw; first | (go_simp; done) | (go_simp; with_reducible rfl))
        simp only [Act.put, List.setIfInBounds_toArray, List.set_cons_zero, List.set_cons_succ]
        refine wpAnyH_take (i := 4) (oi := { dst := some 72, op := Go.Op.move (Go.Operand.tmp 71), type := 4, pos := "top.go:189", after := #[{ on := 3, ground := Go.Ground.data }, { on := 1, ground := Go.Ground.chain }], guard := none }) (v := ?_) rfl (by kernel_rfl) (by kernel_rfl) (by kernel_rfl) (fun _ _ _ h => h) (Or.inl ⟨by rfl, ?_⟩) hHeld ?_
        rotate_left
        · (intro w hSw; first | (go_simp; done) | (go_simp; with_reducible rfl))
        simp only [Act.put, List.setIfInBounds_toArray, List.set_cons_zero, List.set_cons_succ]
        refine wpAnyH_take (i := 5) (oi := { dst := some 73, op := Go.Op.move (Go.Operand.tmp 5), type := 22, pos := "top.go:189", after := #[{ on := 4, ground := Go.Ground.guard }], guard := some (4, true) }) (v := ?_) rfl (by kernel_rfl) (by kernel_rfl) (by kernel_rfl) (fun _ _ _ h => h) (Or.inl ⟨by rfl, ?_⟩) hHeld ?_
        rotate_left
        · (intro w hSw; first | (go_simp; done) | (go_simp; with_reducible rfl))
        simp only [Act.put, List.setIfInBounds_toArray, List.set_cons_zero, List.set_cons_succ]
        refine wpAnyH_take (i := 7) (oi := { dst := some 75, op := Go.Op.load 33 (Go.Operand.tmp 7), type := 33, pos := "top.go:189", after := #[{ on := 4, ground := Go.Ground.guard }], guard := some (4, true) }) (v := .agg PC) rfl (by kernel_rfl) (by kernel_rfl) (by kernel_rfl) (fun _ _ _ h => h) (by rw [← HPC.out]; exact yieldsIf_load_mid (by rfl) 33 (.tmp 7) rfl g7 0 rfl (portCells D.p v3) _ (fun W hW => hW.out.1.whole) Tryz.underlying33 rfl (portInfo D.p v3 h4)) hHeld ?_
        simp only [Act.put, List.setIfInBounds_toArray, List.set_cons_zero, List.set_cons_succ]
        refine wpAnyH_ready (rs := [6]) (by kernel_rfl) (by simp) ?_
        refine AllReadyH.cons rfl (fun K hK => ?_) AllReadyH.nil
        go_simp
        refine (deskPort_any d D3 _ E10.out.1.dsk E10.out.1.ok).mono ?_
        rintro e w11 ⟨v11, rfl, h11⟩
        rw [E10.out.2.1]
        have h11' := h11.out
        rw [E10.out.2.1] at h11'
        have E11 : Hid (DS w11 d D3 ∧ D3.p = D.p ∧ D3.asd = none ∧ D3.n ≤ 122 ∧ Below w.heap.size w w11 ∧ w.heap.size ≤ d ∧ d < g7 ∧ RowT 51 cShip w11 v11 D.p.ships) := ⟨E10.out.1.later h11'.2, E10.out.2.1, E10.out.2.2.1, E10.out.2.2.2.1, E10.out.2.2.2.2.1.trans (h11'.2.mono E10.out.2.2.2.2.1.size), E10.out.2.2.2.2.2.1, E10.out.2.2.2.2.2.2, RowT.own h11'.1⟩
        have H11 : Hid (UnH g7 D.p v3 qa qc pl w11) := hHeld.out.later h11'.2
        clear h11 h11' E10 hHeld hf0
        generalize hQC : (portCells D.p v11).toArray = QC at *
        have HQC : Hid ((portCells D.p v11).toArray = QC) := hQC
        clear hQC
        go_wp2_with fail
        refine hK.out _ _ H11 (fun hHeld => ?_)
        clear hK K H11
        try ((try dsimp only); simp only [Act.put, List.setIfInBounds_toArray, List.set_cons_zero, List.set_cons_succ])
        refine wpAnyH_ready (rs := [8]) (by kernel_rfl) (by simp) ?_
        refine AllReadyH.cons rfl (fun K hK => ?_) AllReadyH.nil
        go_simp
        refine (topPort_any (.agg QC) (.agg PC) D.p D.p _ ⟨v11, by rw [HQC.out], E11.out.2.2.2.2.2.2.2.sl, h4, by omega⟩ ⟨v3, by rw [HPC.out], hHeld.out.2.1.sl, h4, by omega⟩).mono ?_
        rintro e w12 ⟨⟨bb, rfl, hbb⟩, hb12⟩
        obtain rfl : bb = true := hbb.2 rfl
        have E12 : Hid (DS w12 d D3 ∧ D3.p = D.p ∧ D3.asd = none ∧ D3.n ≤ 122 ∧ Below w.heap.size w w12 ∧ w.heap.size ≤ d ∧ d < g7) := ⟨E11.out.1.later hb12, E11.out.2.1, E11.out.2.2.1, E11.out.2.2.2.1, E11.out.2.2.2.2.1.trans (hb12.mono E11.out.2.2.2.2.1.size), E11.out.2.2.2.2.2.1, E11.out.2.2.2.2.2.2.1⟩
        have H12 : Hid (UnH g7 D.p v3 qa qc pl w12) := hHeld.out.later hb12
        clear hbb hb12 E11 hHeld HQC
        go_wp2_with fail
        refine hK.out _ _ H12 (fun hHeld => ?_)
        clear hK K H12
        refine wpAnyH_take (i := 9) (oi := { dst := some 77, op := Go.Op.pick (Go.Operand.tmp 72) (Go.Operand.tmp 76) (Go.Operand.const (Go.Value.bool false)), type := 4, pos := "top.go:189", after := #[{ on := 4, ground := Go.Ground.data }, { on := 8, ground := Go.Ground.data }], guard := none }) (v := ?_) rfl (by kernel_rfl) (by kernel_rfl) (by kernel_rfl) (fun _ _ _ h => h) (Or.inl ⟨by rfl, ?_⟩) hHeld ?_
        rotate_left
        · (intro w hSw; first | (go_simp; done) | (go_simp; with_reducible rfl))
        simp only [Act.put, List.setIfInBounds_toArray, List.set_cons_zero, List.set_cons_succ]
        refine wpAnyH_take (i := 10) (oi := { dst := some 78, op := Go.Op.move (Go.Operand.tmp 77), type := 4, pos := "top.go:189", after := #[{ on := 9, ground := Go.Ground.data }, { on := 8, ground := Go.Ground.chain }], guard := none }) (v := ?_) rfl (by kernel_rfl) (by kernel_rfl) (by kernel_rfl) (fun _ _ _ h => h) (Or.inl ⟨by rfl, ?_⟩) hHeld ?_
        rotate_left
        · (intro w hSw; first | (go_simp; done) | (go_simp; with_reducible rfl))
        simp only [Act.put, List.setIfInBounds_toArray, List.set_cons_zero, List.set_cons_succ]
        refine wpAnyH_take (i := 11) (oi := { dst := some 79, op := Go.Op.move (Go.Operand.tmp 5), type := 22, pos := "top.go:189", after := #[{ on := 10, ground := Go.Ground.guard }], guard := some (10, true) }) (v := ?_) rfl (by kernel_rfl) (by kernel_rfl) (by kernel_rfl) (fun _ _ _ h => h) (Or.inl ⟨by rfl, ?_⟩) hHeld ?_
        rotate_left
        · (intro w hSw; first | (go_simp; done) | (go_simp; with_reducible rfl))
        simp only [Act.put, List.setIfInBounds_toArray, List.set_cons_zero, List.set_cons_succ]
        refine wpAnyH_take (i := 13) (oi := { dst := some 81, op := Go.Op.move (Go.Operand.tmp 8), type := 35, pos := "top.go:189", after := #[{ on := 10, ground := Go.Ground.guard }], guard := some (10, true) }) (v := ?_) rfl (by kernel_rfl) (by kernel_rfl) (by kernel_rfl) (fun _ _ _ h => h) (Or.inl ⟨by rfl, ?_⟩) hHeld ?_
        rotate_left
        · (intro w hSw; first | (go_simp; done) | (go_simp; with_reducible rfl))
        simp only [Act.put, List.setIfInBounds_toArray, List.set_cons_zero, List.set_cons_succ]
        refine wpAnyH_ready (rs := [12]) (by kernel_rfl) (by simp) ?_
        refine AllReadyH.cons rfl (fun K hK => ?_) AllReadyH.nil
        go_simp
        refine (deskPlan_any d D3 _ E12.out.1.dsk E12.out.1.ok).mono ?_
        rintro e w13 ⟨v13, rfl, h13⟩
        obtain ⟨pm, m1, m2, m3⟩ := h13.out
        rw [E12.out.2.1] at m1
        obtain rfl : pm = pl := m1.unique HN.out PI.out
        have E13 : Hid (DS w13 d D3 ∧ D3.asd = none ∧ D3.n ≤ 122 ∧ Below w.heap.size w w13 ∧ w.heap.size ≤ d ∧ d < g7 ∧ SlK cInt w13 v13 pm) := ⟨E12.out.1.later m3, E12.out.2.2.1, E12.out.2.2.2.1, E12.out.2.2.2.2.1.trans (m3.mono E12.out.2.2.2.2.1.size), E12.out.2.2.2.2.2.1, E12.out.2.2.2.2.2.2, (RowT.own m2).sl⟩
        have H13 : Hid (UnH g7 D.p v3 qa qc pm w13) := hHeld.out.later m3
        clear h13 m1 m2 m3 E12 hHeld
        go_wp2_with fail
        refine hK.out _ _ H13 (fun hHeld => ?_)
        clear hK K H13
        try ((try dsimp only); simp only [Act.put, List.setIfInBounds_toArray, List.set_cons_zero, List.set_cons_succ])
        refine wpAnyH_ready (rs := [14]) (by kernel_rfl) (by simp) ?_
        refine AllReadyH.cons rfl (fun K hK => ?_) AllReadyH.nil
        go_simp
        refine (topInts_any v13 _ pm pm _ E13.out.2.2.2.2.2.2 hHeld.out.2.2.sl (by have := hpl.out; omega) (by have := hpl.out; omega)).mono ?_
        rintro e w14 ⟨rfl, hb14⟩
        have E14 : Hid (DS w14 d D3 ∧ D3.asd = none ∧ D3.n ≤ 122 ∧ Below w.heap.size w w14 ∧ w.heap.size ≤ d ∧ d < g7) := ⟨E13.out.1.later hb14, E13.out.2.1, E13.out.2.2.1, E13.out.2.2.2.1.trans (hb14.mono E13.out.2.2.2.1.size), E13.out.2.2.2.2.1, E13.out.2.2.2.2.2.1⟩
        have H14 : Hid (UnH g7 D.p v3 qa qc pm w14) := hHeld.out.later hb14
        clear hb14 E13 hHeld
        simp only [decide_true]
        go_wp2_with fail
        refine hK.out _ _ H14 (fun hHeld => ?_)
        clear hK K H14
        refine wpAnyH_take (i := 15) (oi := { dst := some 83, op := Go.Op.pick (Go.Operand.tmp 78) (Go.Operand.tmp 82) (Go.Operand.const (Go.Value.bool false)), type := 4, pos := "top.go:189", after := #[{ on := 10, ground := Go.Ground.data }, { on := 14, ground := Go.Ground.data }], guard := none }) (v := ?_) rfl (by kernel_rfl) (by kernel_rfl) (by kernel_rfl) (fun _ _ _ h => h) (Or.inl ⟨by rfl, ?_⟩) hHeld ?_
        rotate_left
        · (intro w hSw; first | (go_simp; done) | (go_simp; with_reducible rfl))
        simp only [Act.put, List.setIfInBounds_toArray, List.set_cons_zero, List.set_cons_succ]
        refine wpAnyH_take (i := 16) (oi := { dst := some 84, op := Go.Op.move (Go.Operand.tmp 83), type := 4, pos := "top.go:189", after := #[{ on := 15, ground := Go.Ground.data }, { on := 14, ground := Go.Ground.chain }], guard := none }) (v := ?_) rfl (by kernel_rfl) (by kernel_rfl) (by kernel_rfl) (fun _ _ _ h => h) (Or.inl ⟨by rfl, ?_⟩) hHeld ?_
        rotate_left
        · (intro w hSw; first | (go_simp; done) | (go_simp; with_reducible rfl))
        simp only [Act.put, List.setIfInBounds_toArray, List.set_cons_zero, List.set_cons_succ]
        refine wpAnyH_take (i := 17) (oi := { dst := some 85, op := Go.Op.move (Go.Operand.tmp 5), type := 22, pos := "top.go:189", after := #[{ on := 16, ground := Go.Ground.guard }], guard := some (16, true) }) (v := ?_) rfl (by kernel_rfl) (by kernel_rfl) (by kernel_rfl) (fun _ _ _ h => h) (Or.inl ⟨by rfl, ?_⟩) hHeld ?_
        rotate_left
        · (intro w hSw; first | (go_simp; done) | (go_simp; with_reducible rfl))
        simp only [Act.put, List.setIfInBounds_toArray, List.set_cons_zero, List.set_cons_succ]
        refine wpAnyH_ready (rs := [18]) (by kernel_rfl) (by simp) ?_
        refine AllReadyH.cons rfl (fun K hK => ?_) AllReadyH.nil
        go_simp
        refine (HTU d D3 _ E14.out.1).mono ?_
        rintro e w15 ⟨er, n2, rfl, h15⟩
        obtain ⟨D4, j1, j2, j3⟩ := h15.out
        obtain rfl := undo_none j1 (by have := E14.out.2.2.1; omega) E14.out.2.1
        have E15 : Hid (Below w.heap.size w w15) := E14.out.2.2.2.1.trans (j3.below.mono E14.out.2.2.2.2.1)
        have H15 : Hid (UnH g7 D.p v3 qa qc pm w15) := hHeld.out.told E14.out.1 j3 E14.out.2.2.2.2.2
        clear h15 j1 j2 j3 E14 hHeld
        go_wp2_with fail
        refine hK.out _ _ H15 (fun hHeld => ?_)
        clear hK K H15
        have hf7 := fieldCode (.int .i64 7) (.int .i64 n2)
        refine wpAnyH_take (i := 19) (oi := { dst := some 87, op := Go.Op.field 25 (Go.Operand.tmp 86) 0, type := 23, pos := "top.go:189", after := #[{ on := 18, ground := Go.Ground.data }, { on := 16, ground := Go.Ground.guard }], guard := some (16, true) }) (v := ?_) rfl (by kernel_rfl) (by kernel_rfl) (by kernel_rfl) (fun _ _ _ h => h) (Or.inl ⟨by rfl, ?_⟩) hHeld ?_
        rotate_left
        · (intro w hSw; first | (go_simp; done) | (go_simp; with_reducible rfl))
        simp only [Act.put, List.setIfInBounds_toArray, List.set_cons_zero, List.set_cons_succ]
        refine wpAnyH_take (i := 20) (oi := { dst := some 88, op := Go.Op.binOp Go.BinOp.eql 23 (Go.Operand.tmp 87) (Go.Operand.const (Go.Value.int Go.IntKind.i64 7)) 23, type := 4, pos := "top.go:189", after := #[{ on := 19, ground := Go.Ground.data }, { on := 16, ground := Go.Ground.guard }], guard := some (16, true) }) (v := ?_) rfl (by kernel_rfl) (by kernel_rfl) (by kernel_rfl) (fun _ _ _ h => h) (Or.inl ⟨by rfl, ?_⟩) hHeld ?_
        rotate_left
        · (intro w hSw; first | (go_simp; done) | (go_simp; with_reducible rfl))
        simp only [Act.put, List.setIfInBounds_toArray, List.set_cons_zero, List.set_cons_succ]
        refine wpAnyH_take (i := 21) (oi := { dst := some 89, op := Go.Op.pick (Go.Operand.tmp 84) (Go.Operand.tmp 88) (Go.Operand.const (Go.Value.bool false)), type := 4, pos := "top.go:189", after := #[{ on := 16, ground := Go.Ground.data }, { on := 20, ground := Go.Ground.data }], guard := none }) (v := ?_) rfl (by kernel_rfl) (by kernel_rfl) (by kernel_rfl) (fun _ _ _ h => h) (Or.inl ⟨by rfl, ?_⟩) hHeld ?_
        rotate_left
        · (intro w hSw; first | (go_simp; done) | (go_simp; with_reducible rfl))
        simp only [Act.put, List.setIfInBounds_toArray, List.set_cons_zero, List.set_cons_succ]
        refine wpAnyH_take (i := 22) (oi := { dst := some 4, op := Go.Op.assign (Go.Operand.tmp 89), type := 4, pos := "top.go:189", after := #[{ on := 21, ground := Go.Ground.data }, { on := 18, ground := Go.Ground.chain }, { on := 0, ground := Go.Ground.phase }, { on := 1, ground := Go.Ground.phase }, { on := 2, ground := Go.Ground.phase }, { on := 3, ground := Go.Ground.phase }, { on := 4, ground := Go.Ground.phase }, { on := 5, ground := Go.Ground.phase }, { on := 6, ground := Go.Ground.phase }, { on := 7, ground := Go.Ground.phase }, { on := 8, ground := Go.Ground.phase }, { on := 9, ground := Go.Ground.phase }, { on := 10, ground := Go.Ground.phase }, { on := 11, ground := Go.Ground.phase }, { on := 12, ground := Go.Ground.phase }, { on := 13, ground := Go.Ground.phase }, { on := 14, ground := Go.Ground.phase }, { on := 15, ground := Go.Ground.phase }, { on := 16, ground := Go.Ground.phase }, { on := 17, ground := Go.Ground.phase }, { on := 18, ground := Go.Ground.phase }, { on := 19, ground := Go.Ground.phase }, { on := 20, ground := Go.Ground.phase }, { on := 21, ground := Go.Ground.phase }], guard := none }) (v := ?_) rfl (by kernel_rfl) (by kernel_rfl) (by kernel_rfl) (fun _ _ _ h => h) (Or.inl ⟨by rfl, ?_⟩) hHeld ?_
        rotate_left
        · (intro w hSw; first | (go_simp; done) | (go_simp; with_reducible rfl))
        simp only [Act.put, List.setIfInBounds_toArray, List.set_cons_zero, List.set_cons_succ]
        refine wpAnyH_done (by kernel_rfl) ?_ _
        clear hHeld
        go_wp2_with fail
        go_ret
        exact ⟨rfl, E15.out⟩

end Go.Proofs.YtcmdoeledmkfmabGreatDoor
