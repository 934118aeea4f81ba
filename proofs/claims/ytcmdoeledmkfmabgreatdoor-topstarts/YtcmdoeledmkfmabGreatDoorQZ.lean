/- Texts of this claim, in one: TMath TAlive. -/
import Derived.Test.YtcmdoeledmkfmabGreatDoorQN
import Derived.Test.YtcmdoeledmkfmabGreatDoorQY
set_option linter.unusedSimpArgs false
set_option linter.unusedVariables false
namespace Go.Proofs.YtcmdoeledmkfmabGreatDoor
open Go.RowKit
theorem itoa_small (n : Nat) (h : n < 10) : Lib.itoa (n : Int) = [UInt8.ofNat (48 + n)] := by
  unfold Lib.itoa
  rw [if_neg (by omega), Lib.decDigits, dif_pos (by omega)]
  rfl
theorem itoa_16 : Lib.itoa 16 = [49, 54] := by
  unfold Lib.itoa
  rw [if_neg (by decide)]
  show Lib.decDigits 16 = _
  rw [Lib.decDigits, dif_neg (by decide), Lib.decDigits, dif_pos (by decide)]
  rfl
def sCome16 : List UInt8 := [99, 111, 109, 101, 32, 49, 54, 32, 57, 32, 48]
def sCome1 : List UInt8 := [99, 111, 109, 101, 32, 49, 32, 57, 32, 48]
theorem goodO_of {kd a b c : Int} (h : (1 ≤ kd ∧ kd ≤ 14) ∧ (-(farOf (cntO kd.toNat) 0) ≤ a ∧ a ≤ farOf (cntO kd.toNat) 0) ∧ (-(farOf (cntO kd.toNat) 1) ≤ b ∧ b ≤ farOf (cntO kd.toNat) 1) ∧ (-(farOf (cntO kd.toNat) 2) ≤ c ∧ c ≤ farOf (cntO kd.toNat) 2)) : GoodO ⟨kd, a, b, c⟩ := h
theorem parse_come16 : ParseIs sCome16 (some ⟨1, 16, 9, 0⟩) := by
  have h : GoodO ⟨1, 16, 9, 0⟩ := goodO_of (by decide)
  have e : lineO ⟨1, 16, 9, 0⟩ = sCome16 := by
    show word 1 ++ ([32 :: Lib.itoa 16, 32 :: Lib.itoa ((9 : Nat) : Int), 32 :: Lib.itoa ((0 : Nat) : Int)]).flatten = _
    rw [itoa_16, itoa_small 9 (by decide), itoa_small 0 (by decide)]
    rfl
  rw [← e]
  exact parse_line h
theorem parse_come1 : ParseIs sCome1 (some ⟨1, 1, 9, 0⟩) := by
  have h : GoodO ⟨1, 1, 9, 0⟩ := goodO_of (by decide)
  have e : lineO ⟨1, 1, 9, 0⟩ = sCome1 := by
    show word 1 ++ ([32 :: Lib.itoa ((1 : Nat) : Int), 32 :: Lib.itoa ((9 : Nat) : Int), 32 :: Lib.itoa ((0 : Nat) : Int)]).flatten = _
    rw [itoa_small 1 (by decide), itoa_small 9 (by decide), itoa_small 0 (by decide)]
    rfl
  rw [← e]
  exact parse_line h
theorem base_snoc (p : Pt) (s : Ship) (n : Int) (h : s.st ≠ 3) (t : Int) : baseAt { p with ships := p.ships ++ [s], next := n } t = baseAt p t := by
  unfold baseAt
  simp only
  rw [shipsAt_snoc]
  have : shipAt s t = 0 := by unfold shipAt; rw [if_neg fun c => h c.1]
  rw [this]
  simp
theorem come_ok {p : Pt} {a b c n er : Int} {q : Pt} (hp : IsPort p) (h : TellIs (ObeyIs p ⟨1, a, b, c⟩) p n er q) (hk : (1 ≤ a ∧ a ≤ 16) ∧ (1 ≤ b ∧ b ≤ 300) ∧ (0 ≤ c ∧ c ≤ 3)) (hl : p.ships.length < 14) (hn : p.next < 1048576) :
    er = 0 ∧ n = p.ships.length ∧ q = { p with ships := p.ships ++ [⟨1, a, b, c, 0, p.next⟩], next := p.next + 1 } := by
  rcases h with ⟨h, _⟩ | ⟨_, n0, e0, q0, hO, hc⟩
  · exact absurd hp h
  have hO2 := hO
  unfold ObeyIs at hO
  rw [if_pos rfl] at hO
  rcases hO with ⟨h, _⟩ | ⟨_, h, _⟩ | ⟨_, _, _, rfl, rfl, rfl⟩
  · exact absurd hk h
  · omega
  · rcases hc with ⟨h, _⟩ | ⟨_, h, _⟩ | ⟨_, _, rfl, rfl, rfl⟩
    · exact absurd rfl h
    · exact absurd ⟨obey_port0 hp hO2, fun t t0 t1 => by rw [base_snoc p _ _ (by show ¬ ((1 : Int) = 3); decide)]; exact hp.base t t0 t1⟩ h
    · exact ⟨rfl, rfl, rfl⟩
def alP (s : Ship) : Pt := { zeroPt with ships := [s], next := 1 }
def alQ : Pt := { zeroPt with ships := [⟨3, 16, 9, 0, 0, 0⟩, ⟨1, 1, 9, 0, 0, 1⟩], next := 2 }
theorem base_alP (t : Int) : baseAt (alP ⟨1, 16, 9, 0, 0, 0⟩) t = 16 := (base_snoc zeroPt ⟨1, 16, 9, 0, 0, 0⟩ 1 (by decide) t).trans (baseAt_zero t)
theorem base_alQ {t : Int} (h : 0 ≤ t) : baseAt alQ t = if t < 9 then 0 else 16 := by
  have e := base_snoc (alP ⟨3, 16, 9, 0, 0, 0⟩) ⟨1, 1, 9, 0, 0, 1⟩ 2 (by decide) t
  have e2 : baseAt (alP ⟨3, 16, 9, 0, 0, 0⟩) t = if t < 9 then 0 else 16 := by
    have hz := baseAt_zero t
    unfold baseAt at hz ⊢
    have z : zeroPt.now = 0 := rfl
    have a : (alP ⟨3, 16, 9, 0, 0, 0⟩).now = 0 := rfl
    rw [z, if_pos h] at hz
    rw [a, if_pos h]
    have s1 : shipsAt (alP ⟨3, 16, 9, 0, 0, 0⟩).ships t = if t < 9 then 16 else 0 := by
      show (if (3 : Int) = 3 ∧ t < 0 + 9 then (16 : Int) else 0) + 0 = _
      by_cases c : t < 9
      · rw [if_pos ⟨rfl, by omega⟩, if_pos c]; rfl
      · rw [if_neg (fun k => by omega), if_neg c]; rfl
    have s0 : shipsAt zeroPt.ships t = 0 := rfl
    have k : keepsAt (alP ⟨3, 16, 9, 0, 0, 0⟩).kept t = keepsAt zeroPt.kept t := rfl
    have sh : (alP ⟨3, 16, 9, 0, 0, 0⟩).shut = zeroPt.shut := rfl
    rw [s1, k, sh]
    rw [s0] at hz
    split <;> omega
  exact e.trans e2
theorem plan_alP : PlanIs (alP ⟨1, 16, 9, 0, 0, 0⟩) [0] := by
  refine ⟨rfl, fun i hi h => ?_, [0], ⟨fun i => ?_, by simp⟩, Chain.snoc (a := []) (chain_nil _ _ _) ?_⟩
  · have hi : i < 1 := hi
    obtain rfl : i = 0 := by omega
    exact absurd rfl h
  · constructor
    · intro h
      obtain rfl : i = 0 := by simpa using h
      exact ⟨by show 0 < 1; omega, rfl⟩
    · rintro ⟨h, _⟩
      have h : i < 1 := h
      simp; omega
  · refine Or.inr ⟨by decide, by decide, fun s _ _ => ?_, fun t h1 h2 => ?_⟩
    · show (16 : Int) ≤ baseAt (alP ⟨1, 16, 9, 0, 0, 0⟩) s - 0
      rw [base_alP]; decide
    · have h1 : (0 : Int) ≤ t := h1
      have h2 : t < (0 : Int) := h2
      omega
theorem plan_alQ : PlanIs alQ [-1, 9] := by
  refine ⟨rfl, fun i hi h => ?_, [1], ⟨fun i => ?_, by simp⟩, Chain.snoc (a := []) (chain_nil _ _ _) ?_⟩
  · have hi : i < 2 := hi
    by_cases c : i = 0
    · subst c; rfl
    · obtain rfl : i = 1 := by omega
      exact absurd rfl h
  · constructor
    · intro h
      obtain rfl : i = 1 := by simpa using h
      exact ⟨by show 1 < 2; omega, rfl⟩
    · rintro ⟨h, h2⟩
      have h : i < 2 := h
      by_cases c : i = 0
      · subst c
        exact absurd h2 (by decide)
      · simp; omega
  · refine Or.inr ⟨by decide, by decide, fun s h1 _ => ?_, fun t h1 h2 R => ?_⟩
    · have h1 : (9 : Int) ≤ s := h1
      show (1 : Int) ≤ baseAt alQ s - 0
      rw [base_alQ (by omega), if_neg (by omega)]; decide
    · have h1 : (0 : Int) ≤ t := h1
      have h2 : t < (9 : Int) := h2
      have := R t (Int.le_refl _) (by show t < t + 9; omega)
      have : (1 : Int) ≤ baseAt alQ t - 0 := this
      rw [base_alQ h1, if_pos h2] at this
      omega
theorem obs_order {d d' : Dk} {o : Ord} {n er : Int} (h : ObsIs d o d' n er) (hk : o.kd < 9) : OrderIs d o d' n er := by
  unfold ObsIs at h
  rwa [if_neg (by omega), if_neg (by omega), if_neg (by omega), if_neg (by omega), if_neg (by omega), if_neg (by omega)] at h
theorem alive_math {D1 D2 : Dk} {e1 n1 e2 n2 : Int} (h1 : LineIs newDk sCome16 D1 e1 n1) (h2 : LineIs D1 sCome1 D2 e2 n2) : e1 = 0 ∧ e2 = 0 ∧ n2 = 1 ∧ D2.p = alQ := by
  obtain ⟨m, q, hT, hc⟩ := obs_order (lineIs_told h1 (by decide) parse_come16) (by decide)
  obtain ⟨rfl, rfl, rfl⟩ := come_ok isPort_zero hT (by decide) (by decide) (by decide)
  rcases hc with ⟨h, _⟩ | ⟨_, rfl, r, ⟨pl, hp, rfl⟩, rfl⟩
  · exact absurd rfl h
  have hP : PlanIs (alP ⟨1, 16, 9, 0, 0, 0⟩) pl := hp
  obtain rfl := hP.unique (by decide) plan_alP
  have hT1 := tellIs_port hT
  have hp1 : IsPort (dueP (alP ⟨1, 16, 9, 0, 0, 0⟩) [0]) := isPort_due hT1 plan_alP
  have e : dueP (alP ⟨1, 16, 9, 0, 0, 0⟩) [0] = alP ⟨3, 16, 9, 0, 0, 0⟩ := rfl
  rw [e] at hp1
  obtain ⟨m2, q2, hT2, hc2⟩ := obs_order (lineIs_told h2 (by decide) parse_come1) (by decide)
  obtain ⟨rfl, rfl, rfl⟩ := come_ok hp1 hT2 (by decide) (by decide) (by decide)
  rcases hc2 with ⟨h, _⟩ | ⟨_, rfl, r, ⟨pl2, hp2, rfl⟩, rfl⟩
  · exact absurd rfl h
  have hP2 : PlanIs alQ pl2 := hp2
  obtain rfl := hP2.unique (by decide) plan_alQ
  exact ⟨rfl, rfl, rfl, rfl⟩
theorem alive_plan {pl : List Int} (h : PlanIs alQ pl) : pl = [-1, 9] := h.unique (by decide) plan_alQ
end Go.Proofs.YtcmdoeledmkfmabGreatDoor
set_option linter.unusedSimpArgs false
set_option linter.unusedVariables false
namespace Go.Proofs.YtcmdoeledmkfmabGreatDoor
open Go.RowKit
structure DS (w : World) (d : Nat) (D : Dk) : Prop where
  lw : LW w
  dsk : Dsk w d D
  ok : DOk D
theorem Dsk.old {w : World} {d : Nat} {D : Dk} (h : Dsk w d D) : ∀ u ∈ usedG, u < d := by obtain ⟨_, _, _, _, h⟩ := h; exact h.old
theorem DS.lt {w : World} {d : Nat} {D : Dk} (h : DS w d D) : d < w.heap.size := h.dsk.lt
theorem DS.later {w w' : World} {d : Nat} {D : Dk} (h : DS w d D) (hb : Below w.heap.size w w') : DS w' d D := ⟨h.lw.later hb, h.dsk.later hb, h.ok⟩
theorem DS.other {w w' : World} {d d' : Nat} {D D' : Dk} (h : DS w d D) (h' : DS w d' D') (hf : Fr d' w w') (hne : d ≠ d') : DS w' d D := ⟨h.lw.fr hf h'.dsk.old, h.dsk.other h'.dsk hf hne, h.ok⟩
theorem DS.written {w w' : World} {d g : Nat} {D : Dk} {c : Array Value} {u : TypeId} {f : Nat × Nat} (h : DS w d D) (hg : w.heap[g]? = some (Obj.cells c u f)) (h0 : u ≠ 64) (h1 : u ≠ 51) (h2 : u ≠ 3) (h3 : u ≠ 33) (hu : ∀ k ∈ usedG, k ≠ g) (hs : ∀ k, k ≠ g → w'.heap[k]? = w.heap[k]?) : DS w' d D :=
  ⟨h.lw.same fun k hk => hs k (hu k hk), h.dsk.written hg h0 h1 h2 h3 hs, h.ok⟩
theorem told_ok {D D' : Dk} {s : List UInt8} {er n : Int} (h : DOk D) (hs : LineIs D s D' er n) : DOk D' := (lineIs_ok h hs).1
theorem tell_ds (d : Nat) (D : Dk) (s : List UInt8) (w : World) (h : DS w d D) (hs : s.length ≤ 9223372036854775807) :
    Calls Tryz.prog 12 #[.pointer (some ⟨d, 0, none⟩), txt s] w fun e w' => ∃ er n, e = .returned (.agg #[.int .i64 er, .int .i64 n]) ∧ Hid (∃ D', LineIs D s D' er n ∧ DS w' d D' ∧ Fr d w w') := by
  refine (deskTell_any d D s w h.lw h.dsk h.ok hs).mono ?_
  rintro e w' ⟨er, n, rfl, h1⟩
  obtain ⟨D', j1, j2, j3⟩ := h1.out
  exact ⟨er, n, rfl, D', j1, ⟨h.lw.fr j3 h.dsk.old, j2, told_ok h.ok j1⟩, j3⟩
theorem new_ds (w : World) (hL : LW w) : Calls Tryz.prog 34 #[] w fun e w' => ∃ d, e = .returned (.pointer (some ⟨d, 0, none⟩)) ∧ Hid (w.heap.size ≤ d ∧ DS w' d newDk ∧ Below w.heap.size w w') := by
  refine (deskNew_any w hL).mono ?_
  rintro e w' ⟨d, rfl, h1, h2, h3⟩
  exact ⟨d, rfl, h1, ⟨hL.later h3, h2, newDk_ok⟩, h3⟩
theorem RB.cells {w : World} {g : Nat} {x y : Int} (h : RB w g x y) : w.cell? ⟨g, 0, none⟩ = some (.int .i64 x) ∧ w.cell? ⟨g, 1, none⟩ = some (.int .i64 y) := ⟨cell_of_row _ _ _ _ _ _ h, cell_of_row _ _ _ _ _ _ h⟩
theorem fieldShips (v : Value) (a0 a2 a3 a4 a5 a6 a7 a8 a9 a10 a11 a12 a13 a14 a15 : Value) (W : World) : (Instr.field 33 (.agg #[a0, v, a2, a3, a4, a5, a6, a7, a8, a9, a10, a11, a12, a13, a14, a15]) 1).run Tryz.prog W = .ok v W := by
  kernel_rfl
theorem RB.kept {w w' : World} {g z : Nat} {x y : Int} (h : RB w g x y) (hs : ∀ k, k ≠ z → w'.heap[k]? = w.heap[k]?) (hne : g ≠ z) : RB w' g x y := by unfold RB; rw [hs g hne]; exact h
set_option maxHeartbeats 4000000 in
set_option maxRecDepth 100000 in
theorem alive_any (w : World) (hL : LW w) : Calls Tryz.prog 33 #[] w fun e w' => e = .returned (.bool true) ∧ Below w.heap.size w w' := by
  have HN := new_ds w hL
  have HT := fun d D s W h hs => tell_ds d D s W h hs
  have e16 : txt sCome16 = .string { data := #[99, 111, 109, 101, 32, 49, 54, 32, 57, 32, 48] } := rfl
  have e1 : txt sCome1 = .string { data := #[99, 111, 109, 101, 32, 49, 32, 57, 32, 48] } := rfl
  have HT1 := fun d D W h => HT d D sCome16 W h (by decide)
  have HT2 := fun d D W h => HT d D sCome1 W h (by decide)
  rw [e16] at HT1
  rw [e1] at HT2
  clear HT e16 e1 hL
  go_enter Tryz.func33, Tryz.ntmps33
  go_wp2_with fail
  refine HN.mono ?_
  rintro e w1 ⟨d, rfl, h1⟩
  clear HN
  go_wp2_with fail
  refine (HT1 d newDk _ h1.out.2.1).mono ?_
  rintro e w2 ⟨er1, n1, rfl, h2⟩
  obtain ⟨D1, j1, j2, j3⟩ := h2.out
  have E2 : Hid (DS w2 d D1 ∧ Below w.heap.size w w2 ∧ LineIs newDk sCome16 D1 er1 n1 ∧ w.heap.size ≤ d) := ⟨j2, h1.out.2.2.trans (j3.below.mono h1.out.1), j1, h1.out.1⟩
  clear h1 h2 j1 j2 j3 HT1
  go_wp2_with fail
  refine (HT2 d D1 _ E2.out.1).mono ?_
  rintro e w3 ⟨er2, n2, rfl, h3⟩
  obtain ⟨D2, j1, j2, j3⟩ := h3.out
  obtain ⟨rfl, rfl, rfl, hD2⟩ := alive_math E2.out.2.2.1 j1
  have E3 : Hid (DS w3 d D2 ∧ Below w.heap.size w w3 ∧ D2.p = alQ ∧ w.heap.size ≤ d) := ⟨j2, E2.out.2.1.trans (j3.below.mono E2.out.2.2.2), hD2, E2.out.2.2.2⟩
  clear h3 j1 j2 j3 HT2 E2 hD2
  go_upto_region 5 with (first | (refine wpList_alloc_rep rfl rfl 2 rfl ?_; intro w4 h4 s4) | (refine wpList_alloc_rep rfl rfl 3 rfl ?_; intro w5 h5 s5) | (refine wpList_store_rep rfl _ _ rfl w3.heap.size 0 0 0 n1 rfl rfl (h4.out.1.later h5.out.2) ?_; intro w6 h6 s6) | (refine wpList_store_rep rfl _ _ rfl w4.heap.size 0 0 0 1 rfl rfl (h5.out.1.kept h6.out.2.1 (by omega)) ?_; intro w7 h7 s7))
  have E7 : Hid (DS w7 d D2 ∧ Below w.heap.size w w7 ∧ D2.p = alQ ∧ RB w7 w3.heap.size 0 n1 ∧ RB w7 w4.heap.size 0 1) := by
    have hb : Below w3.heap.size w3 w7 := ((h4.out.2.trans (h5.out.2.mono (by omega))).trans (h6.out.2.2 _ (Nat.le_refl _))).trans (h7.out.2.2 _ (by omega))
    refine ⟨E3.out.1.later hb, E3.out.2.1.trans (hb.mono E3.out.2.1.size), E3.out.2.2.1, h6.out.1.kept h7.out.2.1 (by omega), h7.out.1⟩
  clear h4 h5 h6 h7 s4 s5 s6 s7 E3
  generalize w3.heap.size = ga at *
  generalize w4.heap.size = gb at *
  obtain ⟨a0, _⟩ := E7.out.2.2.2.1.cells
  obtain ⟨b0, b1⟩ := E7.out.2.2.2.2.cells
  go_wp2_with fail
  refine (deskPlan_any d D2 _ E7.out.1.dsk E7.out.1.ok).mono ?_
  rintro e w8 ⟨v8, rfl, h8⟩
  obtain ⟨x8, y8, rfl, E8⟩ : ∃ a c, v8 = .slice a 2 c ∧ Hid (DS w8 d D2 ∧ Below w.heap.size w w8 ∧ D2.p = alQ) := by
    obtain ⟨pl, k1, k2, k3⟩ := h8.out
    rw [E7.out.2.2.1] at k1
    obtain rfl := alive_plan k1
    obtain ⟨a, c, rfl⟩ := ownsRow_slice k2
    exact ⟨a, c, rfl, E7.out.1.later k3, E7.out.2.1.trans (k3.mono E7.out.2.1.size), E7.out.2.2.1⟩
  clear h8 E7 a0 b0 b1
  go_wp2_with fail
  refine (deskPlan_any d D2 _ E8.out.1.dsk E8.out.1.ok).mono ?_
  rintro e w9 ⟨v9, rfl, h9⟩
  obtain ⟨g9, o9, c9, rfl, q9, E9⟩ : ∃ g o c, v9 = .slice (some ⟨g, o, none⟩) 2 c ∧ w9.cell? ⟨g, o + 1, none⟩ = some (.int .i64 9) ∧ Hid (DS w9 d D2 ∧ Below w.heap.size w w9 ∧ D2.p = alQ) := by
    obtain ⟨pl, k1, k2, k3⟩ := h9.out
    rw [E8.out.2.2] at k1
    obtain rfl := alive_plan k1
    obtain ⟨a, c, rfl, _, hr⟩ := (RowT.own k2).sl
    rcases hr with hr | ⟨b, off, rfl, hr⟩
    · cases hr
    · exact ⟨b, off, c, rfl, hr.int (j := 1) rfl, E8.out.1.later k3, E8.out.2.1.trans (k3.mono E8.out.2.1.size), E8.out.2.2⟩
  clear h9 E8
  go_wp2_with fail
  clear q9
  refine (deskPort_any d D2 _ E9.out.1.dsk E9.out.1.ok).mono ?_
  rintro e w10 ⟨v10, rfl, h10⟩
  rw [E9.out.2.2]
  obtain ⟨g10, o10, c10, rfl, q10, E10⟩ : ∃ g o c, v10 = .slice (some ⟨g, o, none⟩) 2 c ∧ w10.cell? ⟨g, o, none⟩ = some (.int .i64 3) ∧ Hid (Below w.heap.size w w10) := by
    obtain ⟨k2, k3⟩ := h10.out
    rw [E9.out.2.2] at k2
    obtain ⟨a, c, rfl, _, hr⟩ := (RowT.own k2).sl
    rcases hr with hr | ⟨b, off, rfl, hr⟩
    · cases hr
    · exact ⟨b, off, c, rfl, (hr.ship (j := 0) (s := ⟨3, 16, 9, 0, 0, 0⟩) rfl).1, E9.out.2.1.trans (k3.mono E9.out.2.1.size)⟩
  clear h10 E9
  have hz : (portCells alQ (.slice (some ⟨g10, o10, none⟩) 2 c10)).toArray = #[.int .i64 0, .slice (some ⟨g10, o10, none⟩) 2 c10, .int .i64 0, .int .i64 0, .int .i64 0, .int .i64 0, .int .i64 0, .int .i64 0, .int .i64 0, .int .i64 0, .int .i64 0, .int .i64 0, .int .i64 0, .int .i64 0, .int .i64 0, .int .i64 2] := rfl
  rw [hz]
  have hF := fieldShips (.slice (some ⟨g10, o10, none⟩) 2 c10)
  go_wp2_with fail
  go_ret
  exact ⟨rfl, E10.out⟩
end Go.Proofs.YtcmdoeledmkfmabGreatDoor
