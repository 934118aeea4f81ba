/- Texts of this claim, in one: DPlanM PUniq DMath DTopM. -/
import Derived.Test.YtcmdoeledmkfmabGreatDoorQ1
import Derived.Test.YtcmdoeledmkfmabGreatDoorQH
import Derived.Test.YtcmdoeledmkfmabGreatDoorQ8
import Derived.Test.YtcmdoeledmkfmabGreatDoorQL
import Derived.Test.YtcmdoeledmkfmabGreatDoorQI
import Derived.Test.YtcmdoeledmkfmabGreatDoorQ7
set_option linter.unusedSimpArgs false
set_option linter.unusedVariables false
namespace Go.Proofs.YtcmdoeledmkfmabGreatDoor
theorem st_due (p : Pt) (pl : List Int) (i : Nat) : (shp (dueP p pl) i).st = 1 ↔ (shp p i).st = 1 ∧ dueB p pl i = false := by
  rw [shp_due]
  cases h : dueB p pl i
  · simp
  · simp [inS]
theorem shp_dueW {p : Pt} {pl : List Int} {i : Nat} (h : (shp p i).st = 1) (hd : dueB p pl i = false) : shp (dueP p pl) i = shp p i := by
  rw [shp_due, hd]; rfl
theorem plan_due {p : Pt} {pl : List Int} (hp : IsPort p) (h : PlanIs p pl) : PlanIs (dueP p pl) (laterPl p pl) := by
  have hp0 := hp.port
  have hl : (dueP p pl).ships.length = p.ships.length := by rw [due_len]
  refine ⟨by rw [hl]; unfold laterPl; simp, ?_, ?_⟩
  · intro i hi hs
    rw [hl] at hi
    rw [laterPl_get hi]
    cases hd : dueB p pl i
    · refine h.none i hi fun c => hs ((st_due p pl i).2 ⟨c, hd⟩)
    · rfl
  · obtain ⟨rk, hr, hc⟩ := h.some
    have hin : ∀ j ∈ rk.filter (fun i => !dueB p pl i), (shp p j).st = 1 ∧ dueB p pl j = false ∧ j < p.ships.length := fun j hj => by
      rw [List.mem_filter, hr.mem] at hj
      exact ⟨hj.1.2, by simpa using hj.2, hj.1.1⟩
    refine ⟨rk.filter fun i => !dueB p pl i, ⟨fun i => ?_, ?_⟩, ?_⟩
    · rw [List.mem_filter, hr.mem, hl, st_due]
      constructor
      · rintro ⟨⟨h1, h2⟩, h3⟩; exact ⟨h1, h2, by simpa using h3⟩
      · rintro ⟨h1, h2, h3⟩; exact ⟨⟨h1, h2⟩, by simp [h3]⟩
    · refine List.Pairwise.imp_of_mem (fun {a b} ha hb hab => ?_) (hr.srt.filter _)
      have h1 := hin a ha
      have h2 := hin b hb
      rw [shp_dueW h1.1 h1.2.1, shp_dueW h2.1 h2.2.1]; exact hab
    · intro a b i e
      obtain ⟨a', c', he, rfl, e2⟩ := List.filter_eq_append_iff.1 e
      obtain ⟨m, b', rfl, hm, hpi, rfl⟩ := List.filter_eq_cons_iff.1 e2
      have hi := hin i (by rw [e]; simp)
      have hS : rk = (a' ++ m) ++ i :: b' := by rw [he]; simp
      have F := hc (a' ++ m) b' i hS
      have hmf : m.filter (fun i => !dueB p pl i) = [] := List.filter_eq_nil_iff.2 hm
      rw [shp_dueW hi.1 hi.2.1, laterPl_get hi.2.2, hi.2.1]
      show FitF (fun t => baseAt (dueP p pl) t - ctrs (dueP p pl) (laterPl p pl) (a'.filter fun i => !dueB p pl i) t) p.now _ _ (pl.getD i (-1))
      have hne : pl.getD i (-1) ≠ p.now := fun c => by
        have : dueB p pl i = true := dueB_iff.2 ⟨by
          have hil : i < pl.length := by rw [h.len]; exact hi.2.2
          rw [List.getD_eq_getElem?_getD, List.getElem?_eq_getElem hil] at c
          rw [List.getElem?_eq_getElem hil]
          exact congrArg some c, hi.1⟩
        rw [hi.2.1] at this; cases this
      have hcA : ∀ t, ctrs (dueP p pl) (laterPl p pl) (a'.filter fun i => !dueB p pl i) t = ctrs p pl ((a' ++ m).filter fun i => !dueB p pl i) t := fun t => by
        rw [List.filter_append, hmf, List.append_nil]
        show sumL _ _ = sumL _ _
        unfold sumL
        congr 1
        refine List.map_congr_left fun j hj => ?_
        have h1 := hin j (by rw [he, List.filter_append]; exact List.mem_append_left _ hj)
        show ctr _ _ _ _ = ctr _ _ _ _
        unfold ctr
        rw [shp_dueW h1.1 h1.2.1, laterPl_get h1.2.2, h1.2.1]
        simp
      have hnd : rk.Nodup := hr.nodup
      rw [hS] at hnd
      have hnd1 := List.nodup_append.1 hnd
      have hnd2 := List.nodup_cons.1 hnd1.2.1
      have hsub : ∀ (P : Nat → Bool) (l : List Nat) t, ctrs p pl l t = ctrs p pl (l.filter P) t + ctrs p pl (l.filter fun i => !P i) t := fun P l t => by
        show sumL l _ = sumL _ _ + sumL _ _
        rw [sumL_filter, sumL_filter]
        refine sumL_add _ fun j _ => ?_
        by_cases c : P j = true
        · rw [if_pos c, if_neg (by simp [c])]; omega
        · rw [if_neg c, if_pos (by simp [c])]; omega
      have hdu : ∀ t, ctrs p pl (dues p pl) t = ctrs p pl ((a' ++ m).filter (dueB p pl)) t + ctrs p pl (b'.filter (dueB p pl)) t := fun t => by
        have e1 : rk.filter (dueB p pl) = (a' ++ m).filter (dueB p pl) ++ b'.filter (dueB p pl) := by rw [hS, List.filter_append, List.filter_cons_of_neg (by simp [hi.2.1])]
        rw [← ctrs_append, ← e1]
        refine Int.le_antisymm (ctrs_le (shp_wd0 hp0) t _ _ (List.nodup_range.filter _) fun j hj _ => ?_) (ctrs_le (shp_wd0 hp0) t _ _ (hr.nodup.filter _) fun j hj _ => ?_)
        · unfold dues at hj
          rw [List.mem_filter] at hj
          rw [List.mem_filter, hr.mem]
          exact ⟨⟨List.mem_range.1 hj.1, (dueB_iff.1 hj.2).2⟩, hj.2⟩
        · rw [List.mem_filter, hr.mem] at hj
          unfold dues
          rw [List.mem_filter]
          exact ⟨List.mem_range.2 hj.1.1, hj.2⟩
      have hpos : ∀ (l : List Nat) t, 0 ≤ ctrs p pl l t := fun l t => by
        induction l with
        | nil => exact Int.le_refl _
        | cons j r ih => rw [ctrs_cons]; have := ctr_nonneg (pl := pl) (shp_wd0 hp0 j) t; omega
      have hval : ∀ t, p.now ≤ t → baseAt (dueP p pl) t - ctrs (dueP p pl) (laterPl p pl) (a'.filter fun i => !dueB p pl i) t = baseAt p t - ctrs p pl (a' ++ m) t - ctrs p pl (b'.filter (dueB p pl)) t := fun t ht => by
        rw [base_due pl hp0.now.1 (by omega), hcA t, hdu t, hsub (dueB p pl) (a' ++ m) t]
        omega
      have now0 := hp0.now
      rcases F with ⟨f1, f2⟩ | ⟨f1, f2, f3, f4⟩
      · refine Or.inl ⟨f1, fun t ta tb R => f2 t (by omega) tb fun s sa sb => ?_⟩
        have h1 := R s sa sb
        simp only at h1
        rw [hval s (by omega)] at h1
        have := hpos (b'.filter (dueB p pl)) s
        show _ ≤ baseAt p s - ctrs p pl (a' ++ m) s
        omega
      · refine Or.inr ⟨by omega, f2, fun s sa sb => ?_, fun t ta tb R => f4 t (by omega) tb fun s sa sb => ?_⟩
        · simp only
          rw [hval s (by omega)]
          have hN := Chain.nonneg hp0.now.1 hp.base rk.length rk rfl hc s (by omega) (by omega)
          rw [hS, ctrs_append, ctrs_cons] at hN
          have h1 : ctr p pl i s = (shp p i).wd := by unfold ctr; rw [if_pos ⟨by omega, sa, sb⟩]
          have h2 := hsub (dueB p pl) b' s
          have h3 := hpos (b'.filter fun i => !dueB p pl i) s
          omega
        · have h1 := R s sa sb
          simp only at h1
          rw [hval s (by omega)] at h1
          have := hpos (b'.filter (dueB p pl)) s
          show _ ≤ baseAt p s - ctrs p pl (a' ++ m) s
          omega
def NoDue (p : Pt) (pl : List Int) : Prop := ∀ i, dueB p pl i = false
theorem getD_some {pl : List Int} {i : Nat} {x : Int} (h : pl[i]? = some x) : pl.getD i (-1) = x := by rw [List.getD_eq_getElem?_getD, h]; rfl
theorem getD_in {pl : List Int} {i : Nat} (h : i < pl.length) : pl[i]? = some (pl.getD i (-1)) := by rw [List.getD_eq_getElem?_getD, List.getElem?_eq_getElem h]; rfl
theorem planNow_due {p : Pt} {pl : List Int} (hp : IsPort p) (h : PlanIs p pl) {i : Nat} (hi : pl[i]? = some p.now) : dueB p pl i = true := by
  refine dueB_iff.2 ⟨hi, ?_⟩
  have hl : i < p.ships.length := by rw [← h.len]; exact (List.getElem?_eq_some_iff.1 hi).1
  rcases Decidable.em ((shp p i).st = 1) with c | c
  · exact c
  · have := h.none i hl c
    rw [getD_some hi] at this
    have := hp.port.now.1
    omega
theorem NoDue.ne {p : Pt} {pl : List Int} (hp : IsPort p) (h : PlanIs p pl) (hn : NoDue p pl) (i : Nat) : pl[i]? ≠ some p.now := fun c => by
  have := planNow_due hp h c
  rw [hn i] at this
  cases this
theorem dueP_none {p : Pt} {pl : List Int} (hn : NoDue p pl) : dueP p pl = p := by
  have e : (dueP p pl).ships = p.ships := by
    rw [ships_range p]
    unfold dueP
    simp only [List.length_map, List.length_range]
    refine List.map_congr_left fun i hi => ?_
    rw [hn i]
    rfl
  have : dueP p pl = { p with ships := (dueP p pl).ships } := rfl
  rw [this, e]
theorem laterPl_none {p : Pt} {pl : List Int} (hn : NoDue p pl) (hl : pl.length = p.ships.length) : laterPl p pl = pl := by
  refine List.ext_getElem? fun i => ?_
  by_cases hi : i < p.ships.length
  · unfold laterPl
    rw [List.getElem?_map, List.getElem?_range hi, getD_in (by omega)]
    simp [hn i]
  · rw [List.getElem?_eq_none (by unfold laterPl; simp; omega), List.getElem?_eq_none (by omega)]
theorem noDue_due {p : Pt} {pl : List Int} (hp : IsPort p) (h : PlanIs p pl) : NoDue (dueP p pl) (laterPl p pl) := fun i => by
  cases e : dueB (dueP p pl) (laterPl p pl) i
  · rfl
  · obtain ⟨h1, h2⟩ := dueB_iff.1 e
    obtain ⟨h3, h4⟩ := (st_due p pl i).1 h2
    have hl : i < p.ships.length := by
      have := (List.getElem?_eq_some_iff.1 h1).1
      unfold laterPl at this
      simpa using this
    have h5 := getD_some h1
    rw [laterPl_get hl, h4] at h5
    have h6 : pl[i]? = some p.now := by rw [getD_in (by rw [h.len]; exact hl)]; exact congrArg some h5
    rw [planNow_due hp h h6] at h4
    cases h4
def AdmitIs (q r : Pt) : Prop := ∃ pl, PlanIs q pl ∧ r = dueP q pl
def Rests (p : Pt) : Prop := IsPort p ∧ ∃ pl, PlanIs p pl ∧ NoDue p pl
theorem AdmitIs.rests {q r : Pt} (hq : IsPort q) (h : AdmitIs q r) : Rests r := by
  obtain ⟨pl, h1, rfl⟩ := h
  exact ⟨isPort_due hq h1, _, plan_due hq h1, noDue_due hq h1⟩
theorem AdmitIs.unique {q r r' : Pt} (hq : IsPort q) (h : AdmitIs q r) (h' : AdmitIs q r') : r = r' := by
  obtain ⟨pl, h1, rfl⟩ := h
  obtain ⟨pl', h2, rfl⟩ := h'
  rw [h1.unique hq.port.now.1 h2]
theorem Rests.none {p : Pt} {pl : List Int} (h : Rests p) (hp : PlanIs p pl) : NoDue p pl := by
  obtain ⟨h1, pl', h2, h3⟩ := h
  rw [hp.unique h1.port.now.1 h2]
  exact h3
def WaitIs : Nat → Pt → Pt → Prop
  | 0, p, q => q = p
  | k + 1, p, q => ∃ r, AdmitIs (laterP p) r ∧ WaitIs k r q
theorem waitIs_snoc : ∀ (k : Nat) (p q r : Pt), WaitIs k p q → AdmitIs (laterP q) r → WaitIs (k + 1) p r
  | 0, p, q, r, h, h' => by
    have h : q = p := h
    subst h
    exact ⟨r, h', rfl⟩
  | k + 1, p, q, r, h, h' => by
    obtain ⟨s, h1, h2⟩ := h
    exact ⟨s, h1, waitIs_snoc k s q r h2 h'⟩
theorem waitIs_rests : ∀ (k : Nat) (p q : Pt), Rests p → p.now + k ≤ 299 → WaitIs k p q → Rests q ∧ q.now = p.now + k
  | 0, p, q, hp, _, h => by
    have h : q = p := h
    subst h
    exact ⟨hp, by omega⟩
  | k + 1, p, q, hp, hn, h => by
    obtain ⟨r, h1, h2⟩ := h
    have h3 := h1.rests (isPort_later hp.1 (by omega))
    have hr : r.now = p.now + 1 := by obtain ⟨pl, _, rfl⟩ := h1; rfl
    have h4 := waitIs_rests k r q h3 (by omega) h2
    exact ⟨h4.1, by omega⟩
def Starts (t : Int) (q : Pt) (i : Nat) : Prop := i < q.ships.length ∧ (((shp q i).st = 1 ∧ ∀ pl, PlanIs q pl → pl.getD i (-1) = t) ∨ ((shp q i).st = 3 ∧ (shp q i).si = t) ∨ (shp q i).st = 4)
theorem starts_step {t : Int} {p r : Pt} {i : Nat} (hp : Rests p) (hn : p.now < 299) (h : Starts t p i) (ha : AdmitIs (laterP p) r) : Starts t r i := by
  obtain ⟨hP, pl, h1, h2⟩ := hp
  have hL := isPort_later hP hn
  have e1 : PlanIs (laterP p) pl := by
    have := plan_later hP h1 hn
    rw [dueP_none h2, laterPl_none h2 h1.len] at this
    exact this
  obtain ⟨pl', h3, rfl⟩ := ha
  have e2 := h3.unique hL.port.now.1 e1
  subst e2
  obtain ⟨hi, h⟩ := h
  have hl : (dueP (laterP p) pl').ships.length = p.ships.length := by rw [due_len, later_len]
  refine ⟨by rw [hl]; exact hi, ?_⟩
  have hsd := shp_due (laterP p) pl' i
  rw [shp_later] at hsd
  rcases h with ⟨a1, a2⟩ | ⟨a1, a2⟩ | a1
  · rw [laterS_same a1] at hsd
    cases hd : dueB (laterP p) pl' i
    · left
      rw [hsd, hd]
      refine ⟨a1, fun x hx => ?_⟩
      rw [hx.unique (isPort_due hL h3).port.now.1 (plan_due hL h3), laterPl_get (by rw [later_len]; exact hi), hd]
      exact a2 _ h1
    · right; left
      rw [hsd, hd]
      refine ⟨rfl, ?_⟩
      have := due_get hd
      rw [a2 _ h1] at this
      exact this.symm
  · have hd : dueB (laterP p) pl' i = false := by
      cases e : dueB (laterP p) pl' i
      · rfl
      · have := (dueB_iff.1 e).2
        rw [shp_later] at this
        unfold laterS outS at this
        split at this
        · simp at this
        · omega
    rw [hd] at hsd
    have hsd : shp (dueP (laterP p) pl') i = laterS p.now (shp p i) := hsd
    right
    rw [hsd]
    unfold laterS outS
    split
    · right; rfl
    · left; exact ⟨a1, a2⟩
  · have hs : laterS p.now (shp p i) = shp p i := by unfold laterS; rw [if_neg (by omega)]
    rw [hs] at hsd
    have hd : dueB (laterP p) pl' i = false := by
      cases e : dueB (laterP p) pl' i
      · rfl
      · have := (dueB_iff.1 e).2
        rw [shp_later, hs] at this
        omega
    rw [hd] at hsd
    have hsd : shp (dueP (laterP p) pl') i = shp p i := hsd
    right; right
    rw [hsd]
    exact a1
theorem waitIs_starts {t : Int} {i : Nat} : ∀ (k : Nat) (p q : Pt), Rests p → p.now + k ≤ 299 → WaitIs k p q → Starts t p i → Starts t q i
  | 0, p, q, _, _, h, hs => by
    have h : q = p := h
    rw [h]; exact hs
  | k + 1, p, q, hp, hn, h, hs => by
    obtain ⟨r, h1, h2⟩ := h
    have hr : r.now = p.now + 1 := by obtain ⟨pl, _, rfl⟩ := h1; rfl
    exact waitIs_starts k r q (h1.rests (isPort_later hp.1 (by omega))) (by omega) h2 (starts_step hp (by omega) hs h1)
theorem Rests.starts {p : Pt} {pl : List Int} (hp : IsPort p) (h : PlanIs p pl) {i : Nat} (hi : i < p.ships.length) (hs : (shp p i).st = 1) : Starts (pl.getD i (-1)) p i :=
  ⟨hi, Or.inl ⟨hs, fun x hx => by rw [hx.unique hp.port.now.1 h]⟩⟩
end Go.Proofs.YtcmdoeledmkfmabGreatDoor
set_option linter.unusedSimpArgs false
set_option linter.unusedVariables false
namespace Go.Proofs.YtcmdoeledmkfmabGreatDoor
open Go.RowKit
end Go.Proofs.YtcmdoeledmkfmabGreatDoor
set_option linter.unusedSimpArgs false
set_option linter.unusedVariables false
namespace Go.Proofs.YtcmdoeledmkfmabGreatDoor
open Go.RowKit
structure Dk where
  p : Pt
  asd : Option Pt
  n : Int
def AskIs (p : Pt) (i : Nat) (n : Int) : Prop :=
  ((shp p i).st = 1 ∧ ∃ pl, PlanIs p pl ∧ n = pl.getD i (-1)) ∨ ((shp p i).st = 3 ∧ n = (shp p i).si) ∨ ((shp p i).st ≠ 1 ∧ (shp p i).st ≠ 3 ∧ n = -1)
def OrderIs (d : Dk) (o : Ord) (d' : Dk) (n er : Int) : Prop :=
  ∃ m q, TellIs (ObeyIs d.p o) d.p m er q ∧ ((er ≠ 0 ∧ n = 0 ∧ d' = d) ∨ (er = 0 ∧ n = m ∧ ∃ r, AdmitIs q r ∧ d' = { d with p := r }))
def WaitsIs (d : Dk) (a : Int) (d' : Dk) (er : Int) : Prop :=
  (¬ (1 ≤ a ∧ d.p.now + a < 300) ∧ er = 2 ∧ d' = d) ∨ ((1 ≤ a ∧ d.p.now + a < 300) ∧ er = 0 ∧ ∃ q, WaitIs a.toNat d.p q ∧ d' = { d with p := q })
def BeginIs (d d' : Dk) (er : Int) : Prop := (d.asd = none ∧ er = 0 ∧ d' = { d with asd := some d.p }) ∨ (d.asd ≠ none ∧ er = 7 ∧ d' = d)
def CommitIs (d d' : Dk) (er : Int) : Prop := (d.asd ≠ none ∧ er = 0 ∧ d' = { d with asd := none }) ∨ (d.asd = none ∧ er = 7 ∧ d' = d)
def UndoIs (d d' : Dk) (er : Int) : Prop := (∃ q, d.asd = some q ∧ er = 0 ∧ d' = { d with p := q, asd := none }) ∨ (d.asd = none ∧ er = 7 ∧ d' = d)
def GuessIs (p : Pt) (a b c n er : Int) : Prop :=
  ∃ m q, TellIs (ObeyIs p ⟨1, a, b, c⟩) p m er q ∧ ((er ≠ 0 ∧ n = 0) ∨ (er = 0 ∧ ∃ pl, PlanIs q pl ∧ n = pl.getD m.toNat (-1)))
def AsksIs (p : Pt) (a n er : Int) : Prop := (¬ (0 ≤ a ∧ a < p.ships.length) ∧ er = 3 ∧ n = 0) ∨ ((0 ≤ a ∧ a < p.ships.length) ∧ er = 0 ∧ AskIs p a.toNat n)
def ObsIs (d : Dk) (o : Ord) (d' : Dk) (n er : Int) : Prop :=
  if o.kd = 9 then n = 0 ∧ WaitsIs d o.a d' er else if o.kd = 10 then n = 0 ∧ BeginIs d d' er else if o.kd = 11 then n = 0 ∧ CommitIs d d' er
  else if o.kd = 12 then n = 0 ∧ UndoIs d d' er else if o.kd = 13 then d' = d ∧ GuessIs d.p o.a o.b o.c n er else if o.kd = 14 then d' = d ∧ AsksIs d.p o.a n er
  else OrderIs d o d' n er
def LineIs (d : Dk) (s : List UInt8) (d' : Dk) (er n : Int) : Prop :=
  (250 ≤ d.n ∧ er = 5 ∧ n = 0 ∧ d' = d) ∨ (d.n < 250 ∧ ((ParseIs s none ∧ er = 1 ∧ n = 0 ∧ d' = { d with n := d.n + 1 }) ∨ ∃ o, ParseIs s (some o) ∧ ObsIs { d with n := d.n + 1 } o d' n er))
structure DOk (d : Dk) : Prop where
  rests : Rests d.p
  aside : ∀ q, d.asd = some q → Rests q
  n : 0 ≤ d.n ∧ d.n ≤ 250
theorem DOk.port {d : Dk} (h : DOk d) : IsPort d.p := h.rests.1
theorem tellIs_port {p : Pt} {o : Ord} {n : Int} {q : Pt} (h : TellIs (ObeyIs p o) p n 0 q) : IsPort q := by
  rcases h with ⟨_, _, h, _⟩ | ⟨_, n0, e0, q0, _, ⟨h1, _, h2, _⟩ | ⟨_, _, _, h, _⟩ | ⟨_, h, _, _, rfl⟩⟩
  · cases h
  · exact absurd h2.symm h1
  · cases h
  · exact h
theorem orderIs_ok {d d' : Dk} {o : Ord} {n er : Int} (h : DOk d) (hs : OrderIs d o d' n er) : DOk d' ∧ d'.n = d.n := by
  obtain ⟨m, q, hT, ⟨_, _, rfl⟩ | ⟨rfl, _, r, hr, rfl⟩⟩ := hs
  · exact ⟨h, rfl⟩
  · exact ⟨⟨hr.rests (tellIs_port hT), h.aside, h.n⟩, rfl⟩
theorem waitsIs_ok {d d' : Dk} {a er : Int} (h : DOk d) (hs : WaitsIs d a d' er) : DOk d' ∧ d'.n = d.n := by
  rcases hs with ⟨_, _, rfl⟩ | ⟨h1, _, q, hq, rfl⟩
  · exact ⟨h, rfl⟩
  · exact ⟨⟨(waitIs_rests _ _ _ h.rests (by omega) hq).1, h.aside, h.n⟩, rfl⟩
theorem obsIs_ok {d d' : Dk} {o : Ord} {n er : Int} (h : DOk d) (hs : ObsIs d o d' n er) : DOk d' ∧ d'.n = d.n := by
  unfold ObsIs at hs
  split at hs
  · exact waitsIs_ok h hs.2
  split at hs
  · rcases hs.2 with ⟨_, _, rfl⟩ | ⟨_, _, rfl⟩
    · exact ⟨⟨h.rests, fun q e => by injection e with e; rw [← e]; exact h.rests, h.n⟩, rfl⟩
    · exact ⟨h, rfl⟩
  split at hs
  · rcases hs.2 with ⟨_, _, rfl⟩ | ⟨_, _, rfl⟩
    · exact ⟨⟨h.rests, fun q e => (by cases e), h.n⟩, rfl⟩
    · exact ⟨h, rfl⟩
  split at hs
  · rcases hs.2 with ⟨q, hq, _, rfl⟩ | ⟨_, _, rfl⟩
    · exact ⟨⟨h.aside q hq, fun q e => (by cases e), h.n⟩, rfl⟩
    · exact ⟨h, rfl⟩
  split at hs
  · obtain ⟨rfl, _⟩ := hs
    exact ⟨h, rfl⟩
  split at hs
  · obtain ⟨rfl, _⟩ := hs
    exact ⟨h, rfl⟩
  · exact orderIs_ok h hs
theorem lineIs_ok {d d' : Dk} {s : List UInt8} {er n : Int} (h : DOk d) (hs : LineIs d s d' er n) : DOk d' ∧ (d.n < 250 → d'.n = d.n + 1) := by
  rcases hs with ⟨h1, _, _, rfl⟩ | ⟨h1, h2⟩
  · exact ⟨h, fun c => by omega⟩
  · have h0 : DOk { d with n := d.n + 1 } := ⟨h.rests, h.aside, by have := h.n; show 0 ≤ d.n + 1 ∧ d.n + 1 ≤ 250; omega⟩
    rcases h2 with ⟨_, _, _, rfl⟩ | ⟨o, _, h3⟩
    · exact ⟨h0, fun _ => rfl⟩
    · have := obsIs_ok h0 h3
      exact ⟨this.1, fun _ => this.2⟩
def PlayIs : Dk → List (List UInt8) → Dk → Prop
  | d, [], d' => d' = d
  | d, s :: l, d' => ∃ e er n, LineIs d s e er n ∧ PlayIs e l d'
theorem playIs_n : ∀ (l : List (List UInt8)) (d d' : Dk), DOk d → d.n + l.length ≤ 250 → PlayIs d l d' → d'.n = d.n + l.length
  | [], d, d', _, _, h => by
    have h : d' = d := h
    rw [h]; simp
  | s :: l, d, d', hd, hn, h => by
    obtain ⟨e, er, n, h1, h2⟩ := h
    simp only [List.length_cons] at hn ⊢
    have h3 := lineIs_ok hd h1
    have h4 := h3.2 (by omega)
    have := playIs_n l e d' h3.1 (by omega) h2
    omega
end Go.Proofs.YtcmdoeledmkfmabGreatDoor
set_option linter.unusedSimpArgs false
set_option linter.unusedVariables false
namespace Go.Proofs.YtcmdoeledmkfmabGreatDoor
open Go.RowKit
theorem planZero : PlanIs zeroPt [] := ⟨rfl, fun i hi => absurd hi (by show ¬ i < 0; omega), [], ⟨fun i => ⟨fun h => (by cases h), fun h => absurd h.1 (by show ¬ i < 0; omega)⟩, List.Pairwise.nil⟩, chain_nil _ _ _⟩
theorem rests_zero : Rests zeroPt := ⟨isPort_zero, [], planZero, fun i => by
  cases e : dueB zeroPt [] i
  · rfl
  · have := (dueB_iff.1 e).1; simp at this⟩
def newDk : Dk := ⟨zeroPt, none, 0⟩
theorem newDk_ok : DOk newDk := ⟨rests_zero, fun q h => (by cases h), by show (0 : Int) ≤ 0 ∧ (0 : Int) ≤ 250; omega⟩
theorem come_is {p : Pt} {a b c n : Int} {q : Pt} (h : TellIs (ObeyIs p ⟨1, a, b, c⟩) p n 0 q) : IsPort q ∧ Ahead p q p.ships.length ∧ n = p.ships.length ∧ shp q p.ships.length = ⟨1, a, b, c, 0, p.next⟩ ∧ IsPort p := by
  have hq := tellIs_port h
  rcases h with ⟨_, _, h, _⟩ | ⟨hp, n0, e0, q0, hO, ⟨h1, _, h2, _⟩ | ⟨_, _, _, h, _⟩ | ⟨h1, _, rfl, _, rfl⟩⟩
  · cases h
  · exact absurd h2.symm h1
  · cases h
  · subst h1
    unfold ObeyIs at hO
    rw [if_pos rfl] at hO
    rcases hO with ⟨_, h, _⟩ | ⟨_, _, h, _⟩ | ⟨_, _, _, _, rfl, rfl⟩
    · cases h
    · cases h
    · refine ⟨hq, ahead_snoc p _ _ (by show ¬ ((1 : Int) = 3); decide), rfl, ?_, hp⟩
      exact shp_get (by simp)
theorem lineIs_told {d d' : Dk} {s : List UInt8} {o : Ord} {er n : Int} (h : LineIs d s d' er n) (hn : d.n < 250) (ho : ParseIs s (some o)) : ObsIs { d with n := d.n + 1 } o d' n er := by
  rcases h with ⟨h1, _⟩ | ⟨_, ⟨h1, _⟩ | ⟨o', h1, h2⟩⟩
  · omega
  · cases parseIs_unique h1 ho
  · have e := parseIs_unique h1 ho
    injection e with e
    rw [← e]; exact h2
end Go.Proofs.YtcmdoeledmkfmabGreatDoor
