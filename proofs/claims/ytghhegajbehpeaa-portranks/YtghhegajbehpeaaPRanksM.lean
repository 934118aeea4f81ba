/- An order about one that waits, as plain data: who is ahead of it is planned as it was. -/
import Derived.Test.YtghhegajbehpeaaPObey2
import Derived.Test.YtghhegajbehpeaaPKeepM
set_option linter.unusedSimpArgs false
set_option linter.unusedVariables false
namespace Go.Proofs.Ytghhegajbehpeaa

/-- one port is another one but for the ship at a place, which takes nothing in either and is ranked alike -/
structure Ahead (p q : Pt) (n : Nat) : Prop where
  now : p.now = q.now
  base : ∀ t, baseAt p t = baseAt q t
  lt : n < q.ships.length
  le : p.ships.length ≤ q.ships.length
  same : ∀ i, i ≠ n → shp q i = shp p i ∧ (i < q.ships.length → i < p.ships.length)
  old : n < p.ships.length → (shp p n).cl = (shp q n).cl ∧ (shp p n).qu = (shp q n).qu

theorem Ahead.plan {p q : Pt} {n : Nat} {x y : List Int} (h : Ahead p q n) (h0 : 0 ≤ p.now) (hx : PlanIs p x) (hy : PlanIs q y) {i : Nat} (hi : i < p.ships.length) (hw : (shp p i).st = 1) (hb : before (shp p i) (shp q n)) : x.getD i (-1) = y.getD i (-1) := by
  have ne : ∀ j, j < p.ships.length → before (shp p j) (shp q n) → j ≠ n := fun j hj hb e => by
    subst e
    have := h.old hj
    unfold before at hb
    omega
  refine ranks_same (shp q n) h.now h0 (fun t _ _ => h.base t) (fun j hj => ?_) (fun j hj => ?_) hx hy hi hw hb
  · have hn := ne j hj.2.1 hj.1
    have := h.le
    exact ⟨(h.same j hn).1, by have := hj.2.1; omega⟩
  · have hn : j ≠ n := fun e => by
      have h1 := hj.1
      rw [e] at h1
      exact before_asymm h1 h1
    exact ⟨(h.same j hn).1, (h.same j hn).2 hj.2.1⟩

theorem shp_set_ne {p : Pt} {j i : Nat} {s : Ship} (h : i ≠ j) : shp (setS p j s) i = shp p i := by
  unfold shp setS
  simp only
  rw [List.getD_eq_getElem?_getD, List.getD_eq_getElem?_getD, List.getElem?_set_ne (fun e => h e.symm)]
theorem shp_set_same {p : Pt} {j : Nat} {s : Ship} (h : j < p.ships.length) : shp (setS p j s) j = s := shp_get (by unfold setS; exact List.getElem?_set_self h)
theorem setS_len (p : Pt) (j : Nat) (s : Ship) : (setS p j s).ships.length = p.ships.length := by unfold setS; simp

theorem shipsAt_set {l : List Ship} {j : Nat} {s s' : Ship} (hs : l[j]? = some s) (t : Int) (h : shipAt s t = shipAt s' t) : shipsAt (l.set j s') t = shipsAt l t := by
  unfold shipsAt
  congr 1
  refine List.ext_getElem? fun i => ?_
  rw [List.getElem?_map, List.getElem?_map]
  by_cases e : i = j
  · subst e
    rw [List.getElem?_set_self (List.getElem?_eq_some_iff.1 hs).1, hs]
    simp [h]
  · rw [List.getElem?_set_ne (fun h => e h.symm)]

/-- a ship that takes nothing is set in another one's place that takes nothing -/
theorem ahead_set {p : Pt} {j : Nat} {s s' : Ship} (hs : p.ships[j]? = some s) (h1 : s.st ≠ 3) (h2 : s'.st ≠ 3) (hc : s.cl = s'.cl) (hq : s.qu = s'.qu) : Ahead p (setS p j s') j := by
  have hj := (List.getElem?_eq_some_iff.1 hs).1
  refine ⟨rfl, fun t => ?_, by rw [setS_len]; exact hj, by rw [setS_len]; exact Nat.le_refl _, fun i hi => ⟨shp_set_ne hi, fun h => by rw [setS_len] at h; exact h⟩, fun _ => ?_⟩
  · have e : shipsAt (setS p j s').ships t = shipsAt p.ships t := shipsAt_set hs t (by unfold shipAt; rw [if_neg (fun h => h1 h.1), if_neg (fun h => h2 h.1)])
    unfold baseAt
    show _ = 16 - p.shut - (if p.now ≤ t then shipsAt (setS p j s').ships t + keepsAt p.kept t else 0)
    rw [e]
  · rw [shp_set_same hj, shp_get hs]
    exact ⟨hc, hq⟩

/-- one more ship that waits -/
theorem ahead_snoc (p : Pt) (s : Ship) (nx : Int) (h2 : s.st ≠ 3) : Ahead p { p with ships := p.ships ++ [s], next := nx } p.ships.length := by
  refine ⟨rfl, fun t => ?_, by simp, by simp, fun i hi => ⟨?_, fun h => ?_⟩, fun h => absurd h (Nat.lt_irrefl _)⟩
  · unfold baseAt
    show _ = 16 - p.shut - (if p.now ≤ t then shipsAt (p.ships ++ [s]) t + keepsAt p.kept t else 0)
    have : shipAt s t = 0 := by unfold shipAt; rw [if_neg (fun h => h2 h.1)]
    rw [shipsAt_snoc, this]
    simp
  · unfold shp
    simp only
    rw [List.getD_eq_getElem?_getD, List.getD_eq_getElem?_getD]
    rcases Nat.lt_or_ge i p.ships.length with h | h
    · rw [List.getElem?_append_left h]
    · rw [List.getElem?_eq_none (by simp; omega), List.getElem?_eq_none h]
  · simp at h
    omega

/-- what the orders of PortRanks do -/
def RankR (p : Pt) (kd a b c n er : Int) (q : Pt) : Prop := (kd = 1 ∧ ComeIs p a b c n er q) ∨ ((kd = 2 ∨ kd = 3 ∨ kd = 5) ∧ MoveIs p ⟨kd, a, b, c⟩ n er q)

theorem rankR_wf {p : Pt} {kd a b c n er : Int} {q : Pt} (hp : IsPort p) (h : RankR p kd a b c n er q) : WfQ q ∧ q.ships.length ≤ 100 := by
  have hl := hp.port.len
  have hnx := hp.port.next
  rcases h with ⟨_, h⟩ | ⟨_, _, h⟩
  · rcases h with ⟨_, _, _, rfl⟩ | ⟨_, _, _, _, rfl⟩ | ⟨_, _, _, _, _, rfl⟩
    · exact ⟨WfQ.of hp, by omega⟩
    · exact ⟨WfQ.of hp, by omega⟩
    · refine ⟨fun s hs => ?_, by simp; omega⟩
      rcases List.mem_append.1 hs with hs | hs
      · exact WfQ.of hp s hs
      · have : s = ⟨1, a, b, c, 0, p.next⟩ := by simpa using hs
        subst this
        show (Lit.int .i64 p.next).wf = true
        simp [Lit.wf, IntKind.min, IntKind.max, IntKind.signed, IntKind.bits]
        omega
  · unfold moveF at h
    split at h
    · rename_i ha
      have hq : q = setS p a.toNat (moveS (shp p a.toNat) kd b p.now).2 := (Prod.mk.inj h).2.symm
      subst hq
      refine ⟨fun s hs => ?_, by rw [setS_len]; omega⟩
      have hm : ∀ s : Ship, (moveS s kd b p.now).2.qu = s.qu := fun s => by
        unfold moveS turnF changeF outS
        repeat' split
        all_goals rfl
      rcases List.mem_or_eq_of_mem_set hs with h1 | h1
      · exact WfQ.of hp s h1
      · rw [h1, hm]
        have ha' : a.toNat < p.ships.length := by simp only at ha; omega
        rw [shp_get (List.getElem?_eq_getElem ha')]
        exact WfQ.of hp _ (List.getElem_mem ha')
    · have hq : q = p := (Prod.mk.inj h).2.symm
      subst hq
      exact ⟨WfQ.of hp, by omega⟩

/-- the place that the order is about -/
def rankN (kd a n : Int) : Int := if kd = 1 then n else a

theorem rankR_ahead {p : Pt} {kd a b c n : Int} {q : Pt} (h : RankR p kd a b c n 0 q) : ∃ j : Nat, rankN kd a n = j ∧ (kd = 1 ∨ j < p.ships.length) ∧ ((kd = 1 ∨ (shp p j).st = 1) → Ahead p q j) := by
  rcases h with ⟨rfl, h⟩ | ⟨hk, _, h⟩
  · rcases h with ⟨_, h, _⟩ | ⟨_, _, h, _⟩ | ⟨_, _, _, _, h5, h6⟩
    · exact absurd h (by decide)
    · exact absurd h (by decide)
    · refine ⟨p.ships.length, by unfold rankN; rw [if_pos rfl]; exact h5, Or.inl rfl, fun _ => ?_⟩
      rw [h6]
      exact ahead_snoc p ⟨1, a, b, c, 0, p.next⟩ _ (show (1 : Int) ≠ 3 by decide)
  · unfold moveF at h
    split at h
    · rename_i ha
      simp only at ha
      obtain ⟨h1, h2⟩ := Prod.mk.inj h
      simp only at h1 h2
      have ha' : a.toNat < p.ships.length := by omega
      refine ⟨a.toNat, by unfold rankN; rw [if_neg (by omega)]; omega, Or.inr ha', fun hw => ?_⟩
      have hst : (shp p a.toNat).st = 1 := by
        rcases hw with e | e
        · omega
        · exact e
      rw [← h2]
      refine ahead_set (shp_in ha') (by omega) ?_ ?_ ?_
      · unfold moveS turnF changeF outS
        rcases hk with rfl | rfl | rfl
        · simp [hst]
        · simp [hst]
        · simp [hst]
          split <;> simp [hst]
      · unfold moveS turnF changeF outS
        repeat' split
        all_goals rfl
      · unfold moveS turnF changeF outS
        repeat' split
        all_goals rfl
    · exact absurd (Prod.mk.inj h).1 (by decide)

end Go.Proofs.Ytghhegajbehpeaa
