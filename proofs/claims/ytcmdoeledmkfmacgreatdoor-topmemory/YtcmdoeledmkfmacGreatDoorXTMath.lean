import Derived.Test.YtcmdoeledmkfmacGreatDoorQN
set_option linter.unusedSimpArgs false
set_option linter.unusedVariables false
namespace Go.Proofs.YtcmdoeledmkfmacGreatDoor
open Go.RowKit
theorem itoa_small (n : Nat) (h : n < 10) : Lib.itoa (n : Int) = [UInt8.ofNat (48 + n)] := by
  unfold Lib.itoa
  rw [if_neg (by omega), Lib.decDigits, dif_pos (by omega)]
  rfl
theorem itoa_16 : Lib.itoa 16 = [49, 54] := by
  unfold Lib.itoa
  rw [if_neg (by decide)]
  show Lib.decDigits 16 = _
  rw [Lib.decDigits, dif_neg (by decide), Lib.decDigits, dif_pos (by decide)]
  rfl
def sCome16 : List UInt8 := [99, 111, 109, 101, 32, 49, 54, 32, 57, 32, 48]
def sCome1 : List UInt8 := [99, 111, 109, 101, 32, 49, 32, 57, 32, 48]
def sBegin : List UInt8 := [98, 101, 103, 105, 110]
def sUndo : List UInt8 := [117, 110, 100, 111]
theorem goodO_of {kd a b c : Int} (h : (1 ≤ kd ∧ kd ≤ 14) ∧ (-(farOf (cntO kd.toNat) 0) ≤ a ∧ a ≤ farOf (cntO kd.toNat) 0) ∧ (-(farOf (cntO kd.toNat) 1) ≤ b ∧ b ≤ farOf (cntO kd.toNat) 1) ∧ (-(farOf (cntO kd.toNat) 2) ≤ c ∧ c ≤ farOf (cntO kd.toNat) 2)) : GoodO ⟨kd, a, b, c⟩ := h
theorem parse_come16 : ParseIs sCome16 (some ⟨1, 16, 9, 0⟩) := by
  have h : GoodO ⟨1, 16, 9, 0⟩ := goodO_of (by decide)
  have e : lineO ⟨1, 16, 9, 0⟩ = sCome16 := by
    show word 1 ++ ([32 :: Lib.itoa 16, 32 :: Lib.itoa ((9 : Nat) : Int), 32 :: Lib.itoa ((0 : Nat) : Int)]).flatten = _
    rw [itoa_16, itoa_small 9 (by decide), itoa_small 0 (by decide)]
    rfl
  rw [← e]
  exact parse_line h
theorem parse_come1 : ParseIs sCome1 (some ⟨1, 1, 9, 0⟩) := by
  have h : GoodO ⟨1, 1, 9, 0⟩ := goodO_of (by decide)
  have e : lineO ⟨1, 1, 9, 0⟩ = sCome1 := by
    show word 1 ++ ([32 :: Lib.itoa ((1 : Nat) : Int), 32 :: Lib.itoa ((9 : Nat) : Int), 32 :: Lib.itoa ((0 : Nat) : Int)]).flatten = _
    rw [itoa_small 1 (by decide), itoa_small 9 (by decide), itoa_small 0 (by decide)]
    rfl
  rw [← e]
  exact parse_line h
theorem parse_begin : ParseIs sBegin (some ⟨10, 0, 0, 0⟩) := parse_line (o := ⟨10, 0, 0, 0⟩) (goodO_of (by decide))
theorem parse_undo : ParseIs sUndo (some ⟨12, 0, 0, 0⟩) := parse_line (o := ⟨12, 0, 0, 0⟩) (goodO_of (by decide))
theorem base_snoc (p : Pt) (s : Ship) (n : Int) (h : s.st ≠ 3) (t : Int) : baseAt { p with ships := p.ships ++ [s], next := n } t = baseAt p t := by
  unfold baseAt
  simp only
  rw [shipsAt_snoc]
  have : shipAt s t = 0 := by unfold shipAt; rw [if_neg fun c => h c.1]
  rw [this]
  simp
theorem come_ok {p : Pt} {a b c n er : Int} {q : Pt} (hp : IsPort p) (h : TellIs (ObeyIs p ⟨1, a, b, c⟩) p n er q) (hk : (1 ≤ a ∧ a ≤ 16) ∧ (1 ≤ b ∧ b ≤ 300) ∧ (0 ≤ c ∧ c ≤ 3)) (hl : p.ships.length < 14) (hn : p.next < 1048576) :
    er = 0 ∧ n = p.ships.length ∧ q = { p with ships := p.ships ++ [⟨1, a, b, c, 0, p.next⟩], next := p.next + 1 } := by
  rcases h with ⟨h, _⟩ | ⟨_, n0, e0, q0, hO, hc⟩
  · exact absurd hp h
  have hO2 := hO
  unfold ObeyIs at hO
  rw [if_pos rfl] at hO
  rcases hO with ⟨h, _⟩ | ⟨_, h, _⟩ | ⟨_, _, _, rfl, rfl, rfl⟩
  · exact absurd hk h
  · omega
  · rcases hc with ⟨h, _⟩ | ⟨_, h, _⟩ | ⟨_, _, rfl, rfl, rfl⟩
    · exact absurd rfl h
    · exact absurd ⟨obey_port0 hp hO2, fun t t0 t1 => by rw [base_snoc p _ _ (by show ¬ ((1 : Int) = 3); decide)]; exact hp.base t t0 t1⟩ h
    · exact ⟨rfl, rfl, rfl⟩
def alP (s : Ship) : Pt := { zeroPt with ships := [s], next := 1 }
def alQ : Pt := { zeroPt with ships := [⟨3, 16, 9, 0, 0, 0⟩, ⟨1, 1, 9, 0, 0, 1⟩], next := 2 }
theorem base_alP (t : Int) : baseAt (alP ⟨1, 16, 9, 0, 0, 0⟩) t = 16 := (base_snoc zeroPt ⟨1, 16, 9, 0, 0, 0⟩ 1 (by decide) t).trans (baseAt_zero t)
theorem base_alQ {t : Int} (h : 0 ≤ t) : baseAt alQ t = if t < 9 then 0 else 16 := by
  have e := base_snoc (alP ⟨3, 16, 9, 0, 0, 0⟩) ⟨1, 1, 9, 0, 0, 1⟩ 2 (by decide) t
  have e2 : baseAt (alP ⟨3, 16, 9, 0, 0, 0⟩) t = if t < 9 then 0 else 16 := by
    have hz := baseAt_zero t
    unfold baseAt at hz ⊢
    have z : zeroPt.now = 0 := rfl
    have a : (alP ⟨3, 16, 9, 0, 0, 0⟩).now = 0 := rfl
    rw [z, if_pos h] at hz
    rw [a, if_pos h]
    have s1 : shipsAt (alP ⟨3, 16, 9, 0, 0, 0⟩).ships t = if t < 9 then 16 else 0 := by
      show (if (3 : Int) = 3 ∧ t < 0 + 9 then (16 : Int) else 0) + 0 = _
      by_cases c : t < 9
      · rw [if_pos ⟨rfl, by omega⟩, if_pos c]; rfl
      · rw [if_neg (fun k => by omega), if_neg c]; rfl
    have s0 : shipsAt zeroPt.ships t = 0 := rfl
    have k : keepsAt (alP ⟨3, 16, 9, 0, 0, 0⟩).kept t = keepsAt zeroPt.kept t := rfl
    have sh : (alP ⟨3, 16, 9, 0, 0, 0⟩).shut = zeroPt.shut := rfl
    rw [s1, k, sh]
    rw [s0] at hz
    split <;> omega
  exact e.trans e2
theorem plan_alP : PlanIs (alP ⟨1, 16, 9, 0, 0, 0⟩) [0] := by
  refine ⟨rfl, fun i hi h => ?_, [0], ⟨fun i => ?_, by simp⟩, Chain.snoc (a := []) (chain_nil _ _ _) ?_⟩
  · have hi : i < 1 := hi
    obtain rfl : i = 0 := by omega
    exact absurd rfl h
  · constructor
    · intro h
      obtain rfl : i = 0 := by simpa using h
      exact ⟨by show 0 < 1; omega, rfl⟩
    · rintro ⟨h, _⟩
      have h : i < 1 := h
      simp; omega
  · refine Or.inr ⟨by decide, by decide, fun s _ _ => ?_, fun t h1 h2 => ?_⟩
    · show (16 : Int) ≤ baseAt (alP ⟨1, 16, 9, 0, 0, 0⟩) s - 0
      rw [base_alP]; decide
    · have h1 : (0 : Int) ≤ t := h1
      have h2 : t < (0 : Int) := h2
      omega
theorem plan_alQ : PlanIs alQ [-1, 9] := by
  refine ⟨rfl, fun i hi h => ?_, [1], ⟨fun i => ?_, by simp⟩, Chain.snoc (a := []) (chain_nil _ _ _) ?_⟩
  · have hi : i < 2 := hi
    by_cases c : i = 0
    · subst c; rfl
    · obtain rfl : i = 1 := by omega
      exact absurd rfl h
  · constructor
    · intro h
      obtain rfl : i = 1 := by simpa using h
      exact ⟨by show 1 < 2; omega, rfl⟩
    · rintro ⟨h, h2⟩
      have h : i < 2 := h
      by_cases c : i = 0
      · subst c
        exact absurd h2 (by decide)
      · simp; omega
  · refine Or.inr ⟨by decide, by decide, fun s h1 _ => ?_, fun t h1 h2 R => ?_⟩
    · have h1 : (9 : Int) ≤ s := h1
      show (1 : Int) ≤ baseAt alQ s - 0
      rw [base_alQ (by omega), if_neg (by omega)]; decide
    · have h1 : (0 : Int) ≤ t := h1
      have h2 : t < (9 : Int) := h2
      have := R t (Int.le_refl _) (by show t < t + 9; omega)
      have : (1 : Int) ≤ baseAt alQ t - 0 := this
      rw [base_alQ h1, if_pos h2] at this
      omega
theorem obs_order {d d' : Dk} {o : Ord} {n er : Int} (h : ObsIs d o d' n er) (hk : o.kd < 9) : OrderIs d o d' n er := by
  unfold ObsIs at h
  rwa [if_neg (by omega), if_neg (by omega), if_neg (by omega), if_neg (by omega), if_neg (by omega), if_neg (by omega)] at h
theorem alive_math {D1 D2 : Dk} {e1 n1 e2 n2 : Int} (h1 : LineIs newDk sCome16 D1 e1 n1) (h2 : LineIs D1 sCome1 D2 e2 n2) : e1 = 0 ∧ e2 = 0 ∧ n2 = 1 ∧ D2.p = alQ := by
  obtain ⟨m, q, hT, hc⟩ := obs_order (lineIs_told h1 (by decide) parse_come16) (by decide)
  obtain ⟨rfl, rfl, rfl⟩ := come_ok isPort_zero hT (by decide) (by decide) (by decide)
  rcases hc with ⟨h, _⟩ | ⟨_, rfl, r, ⟨pl, hp, rfl⟩, rfl⟩
  · exact absurd rfl h
  have hP : PlanIs (alP ⟨1, 16, 9, 0, 0, 0⟩) pl := hp
  obtain rfl := hP.unique (by decide) plan_alP
  have hT1 := tellIs_port hT
  have hp1 : IsPort (dueP (alP ⟨1, 16, 9, 0, 0, 0⟩) [0]) := isPort_due hT1 plan_alP
  have e : dueP (alP ⟨1, 16, 9, 0, 0, 0⟩) [0] = alP ⟨3, 16, 9, 0, 0, 0⟩ := rfl
  rw [e] at hp1
  obtain ⟨m2, q2, hT2, hc2⟩ := obs_order (lineIs_told h2 (by decide) parse_come1) (by decide)
  obtain ⟨rfl, rfl, rfl⟩ := come_ok hp1 hT2 (by decide) (by decide) (by decide)
  rcases hc2 with ⟨h, _⟩ | ⟨_, rfl, r, ⟨pl2, hp2, rfl⟩, rfl⟩
  · exact absurd rfl h
  have hP2 : PlanIs alQ pl2 := hp2
  obtain rfl := hP2.unique (by decide) plan_alQ
  exact ⟨rfl, rfl, rfl, rfl⟩
theorem alive_plan {pl : List Int} (h : PlanIs alQ pl) : pl = [-1, 9] := h.unique (by decide) plan_alQ
end Go.Proofs.YtcmdoeledmkfmacGreatDoor
