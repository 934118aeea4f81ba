/- Time alone moves nobody, as plain data: who is due comes in, a time goes by, and all others are planned as they were; no condition but those that each theorem bears. -/
import Derived.Test.YtghhegajbehpeaaPKeepM
set_option linter.unusedSimpArgs false
set_option linter.unusedVariables false
namespace Go.Proofs.Ytghhegajbehpeaa

/-- the ship at a place is to come in now -/
def dueB (p : Pt) (pl : List Int) (i : Nat) : Bool := decide (pl[i]? = some p.now ∧ (shp p i).st = 1)
theorem dueB_iff {p : Pt} {pl : List Int} {i : Nat} : dueB p pl i = true ↔ pl[i]? = some p.now ∧ (shp p i).st = 1 := by unfold dueB; exact decide_eq_true_iff

/-- a ship that comes in -/
def inS (now : Int) (s : Ship) : Ship := { s with st := 3, si := now }
/-- a ship that goes -/
def outS (s : Ship) : Ship := { s with st := 4, si := 0 }

/-- P2.9 -/
def dueP (p : Pt) (pl : List Int) : Pt := { p with ships := (List.range p.ships.length).map fun i => if dueB p pl i then inS p.now (shp p i) else shp p i }
/-- a ship one time on -/
def laterS (now : Int) (s : Ship) : Ship := if s.st = 3 ∧ s.si + s.lg = now + 1 then outS s else s
/-- P2.10 -/
def laterP (p : Pt) : Pt := { p with now := p.now + 1, ships := p.ships.map (laterS p.now) }

theorem shp_out {p : Pt} {i : Nat} (h : p.ships.length ≤ i) : shp p i = noShip := by unfold shp; rw [List.getD_eq_getElem?_getD, List.getElem?_eq_none h]; rfl
theorem shp_in {p : Pt} {i : Nat} (h : i < p.ships.length) : p.ships[i]? = some (shp p i) := by rw [shp_get (List.getElem?_eq_getElem h)]; exact List.getElem?_eq_getElem h

theorem ships_range (p : Pt) : p.ships = (List.range p.ships.length).map (shp p) := by
  refine List.ext_getElem (by simp) fun i h1 h2 => ?_
  rw [List.getElem_map, List.getElem_range]
  have := shp_in h1
  rw [List.getElem?_eq_getElem h1] at this
  exact Option.some.inj this

theorem due_len (p : Pt) (pl : List Int) : (dueP p pl).ships.length = p.ships.length := by unfold dueP; simp
theorem later_len (p : Pt) : (laterP p).ships.length = p.ships.length := by unfold laterP; simp

theorem shp_due (p : Pt) (pl : List Int) (i : Nat) : shp (dueP p pl) i = if dueB p pl i then inS p.now (shp p i) else shp p i := by
  by_cases h : i < p.ships.length
  · refine shp_get ?_
    unfold dueP
    simp only [List.getElem?_map, List.getElem?_range h, Option.map_some]
  · have h1 := shp_out (p := p) (i := i) (by omega)
    rw [shp_out (p := dueP p pl) (by rw [due_len]; omega)]
    have : dueB p pl i = false := by
      cases e : dueB p pl i
      · rfl
      · have := (dueB_iff.1 e).2; rw [h1] at this; exact absurd this (by decide)
    rw [this, h1]; rfl

theorem shp_later (p : Pt) (i : Nat) : shp (laterP p) i = laterS p.now (shp p i) := by
  by_cases h : i < p.ships.length
  · refine shp_get ?_
    unfold laterP
    simp only [List.getElem?_map, shp_in h, Option.map_some]
  · rw [shp_out (p := laterP p) (by rw [later_len]; omega), shp_out (by omega)]
    unfold laterS
    rw [if_neg (by intro h; exact absurd h.1 (by decide))]

/-- sums over places -/
def sumL (l : List Nat) (f : Nat → Int) : Int := (l.map f).foldr (· + ·) 0
theorem sumL_cons (i : Nat) (l : List Nat) (f : Nat → Int) : sumL (i :: l) f = f i + sumL l f := rfl
theorem sumL_add {f g h : Nat → Int} : ∀ (l : List Nat), (∀ i ∈ l, f i = g i + h i) → sumL l f = sumL l g + sumL l h := by
  intro l
  induction l with
  | nil => intro _; rfl
  | cons i r ih => intro H; rw [sumL_cons, sumL_cons, sumL_cons, ih fun j hj => H j (List.mem_cons_of_mem _ hj), H i List.mem_cons_self]; omega
theorem sumL_filter {f : Nat → Int} {P : Nat → Bool} (l : List Nat) : sumL (l.filter P) f = sumL l fun i => if P i then f i else 0 := by
  induction l with
  | nil => rfl
  | cons i r ih =>
    by_cases h : P i = true
    · rw [List.filter_cons_of_pos h, sumL_cons, sumL_cons, ih, if_pos h]
    · rw [List.filter_cons_of_neg h, sumL_cons, ih, if_neg h]; omega

theorem shipsAt_sum (p : Pt) (t : Int) : shipsAt p.ships t = sumL (List.range p.ships.length) fun i => shipAt (shp p i) t := by
  unfold shipsAt sumL
  conv => lhs; rw [ships_range p, List.map_map]
  rfl

/-- the places of who is due -/
def dues (p : Pt) (pl : List Int) : List Nat := (List.range p.ships.length).filter (dueB p pl)

theorem due_get {p : Pt} {pl : List Int} {i : Nat} (h : dueB p pl i = true) : pl.getD i (-1) = p.now := by
  rw [List.getD_eq_getElem?_getD, (dueB_iff.1 h).1]; rfl

theorem base_due {p : Pt} (pl : List Int) (h0 : 0 ≤ p.now) {t : Int} (ht : p.now ≤ t) : baseAt (dueP p pl) t = baseAt p t - ctrs p pl (dues p pl) t := by
  have e : shipsAt (dueP p pl).ships t = shipsAt p.ships t + ctrs p pl (dues p pl) t := by
    rw [shipsAt_sum, shipsAt_sum, due_len]
    show _ = _ + sumL (dues p pl) (fun i => ctr p pl i t)
    unfold dues
    rw [sumL_filter]
    refine sumL_add _ fun i _ => ?_
    rw [shp_due]
    by_cases h : dueB p pl i = true
    · rw [if_pos h, if_pos h]
      have h1 := (dueB_iff.1 h).2
      unfold shipAt ctr inS
      rw [due_get h]
      simp only
      rw [if_neg (by omega : ¬ ((shp p i).st = 3 ∧ t < (shp p i).si + (shp p i).lg))]
      by_cases c : t < p.now + (shp p i).lg
      · rw [if_pos ⟨trivial, c⟩, if_pos ⟨h0, ht, c⟩]; omega
      · rw [if_neg (fun h => c h.2), if_neg (fun h => c h.2.2)]; omega
    · rw [if_neg h, if_neg h]; omega
  unfold baseAt
  show 16 - p.shut - (if p.now ≤ t then shipsAt (dueP p pl).ships t + keepsAt p.kept t else 0) = _
  rw [if_pos ht, if_pos ht, e]; omega

theorem base_later {q : Pt} {t : Int} (ht : q.now + 1 ≤ t) : baseAt (laterP q) t = baseAt q t := by
  have e : shipsAt (laterP q).ships t = shipsAt q.ships t := by
    rw [shipsAt_sum, shipsAt_sum, later_len]
    unfold sumL
    congr 2
    funext i
    rw [shp_later]
    unfold laterS
    split
    · rename_i h; unfold shipAt outS; simp only; rw [if_neg (by omega), if_neg (by omega)]
    · rfl
  unfold baseAt
  show 16 - q.shut - (if q.now + 1 ≤ t then shipsAt (laterP q).ships t + keepsAt q.kept t else 0) = _
  rw [if_pos ht, if_pos (by omega), e]

theorem mem_shp {p : Pt} {s : Ship} (h : s ∈ p.ships) : ∃ i, i < p.ships.length ∧ s = shp p i := by
  obtain ⟨i, hi, e⟩ := List.mem_iff_getElem.1 h
  exact ⟨i, hi, by rw [← e]; exact (shp_get (List.getElem?_eq_getElem hi)).symm⟩

theorem once_shp {p : Pt} (h : IsPort0 p) {i j : Nat} (hij : i < j) (hj : j < p.ships.length) : (shp p i).qu ≠ (shp p j).qu := h.once i j _ _ hij (shp_in (by omega)) (shp_in hj)

theorem due_range {p : Pt} {pl : List Int} (hp : IsPort p) (h : PlanIs p pl) {i : Nat} (hd : dueB p pl i = true) : i < p.ships.length ∧ p.now + (shp p i).lg ≤ 300 := by
  have hi : i < p.ships.length := by
    rcases Nat.lt_or_ge i p.ships.length with h1 | h1
    · exact h1
    · have := (dueB_iff.1 hd).2; rw [shp_out h1] at this; exact absurd this (by decide)
  have e := due_get hd
  have := (h.room hp hi (by rw [e]; exact hp.port.now.1)).2.2.1
  rw [e] at this
  exact ⟨hi, this⟩

theorem dues_le {p : Pt} {pl : List Int} (hp : IsPort p) (h : PlanIs p pl) {t : Int} (t0 : 0 ≤ t) (t1 : t < 300) : ctrs p pl (dues p pl) t ≤ baseAt p t := by
  obtain ⟨rk, hr, hc⟩ := h.some
  have hn := Chain.nonneg hp.port.now.1 hp.base rk.length rk rfl hc t t0 t1
  have := ctrs_le (pl := pl) (shp_wd0 hp.port) t (dues p pl) rk (List.nodup_range.filter _) (fun i hi _ => (hr.mem i).2 ⟨List.mem_range.1 (List.mem_filter.1 hi).1, (dueB_iff.1 (List.mem_filter.1 hi).2).2⟩)
  omega

theorem isPort_due {p : Pt} {pl : List Int} (hp : IsPort p) (h : PlanIs p pl) : IsPort (dueP p pl) := by
  have hp0 := hp.port
  refine ⟨⟨hp0.now, hp0.shut, by rw [due_len]; exact hp0.len, hp0.next, ?_, ?_, hp0.four, hp0.kept⟩, fun t t0 t1 => ?_⟩
  · intro s hs
    obtain ⟨i, hi, rfl⟩ := mem_shp hs
    rw [due_len] at hi
    have hw := shp_wd hp0 i hi
    rw [shp_due]
    split
    · rename_i hd
      have h2 := (due_range hp h hd).2
      refine ⟨⟨⟨show (1 : Int) ≤ 3 by decide, show (3 : Int) ≤ 4 by decide⟩, hw.1.wd, hw.1.lg, hw.1.cl, hw.1.qu, fun _ => ?_, fun c => absurd rfl c⟩, hw.2⟩
      have := hw.1.lg
      have := hp0.now
      show 0 ≤ p.now ∧ p.now ≤ p.now ∧ p.now < p.now + (shp p i).lg ∧ p.now + (shp p i).lg ≤ 300
      omega
    · exact hw
  · intro i j r s hij hr hs
    have hj := (List.getElem?_eq_some_iff.1 hs).1
    rw [due_len] at hj
    rw [← shp_get hr, ← shp_get hs, shp_due, shp_due]
    have := once_shp hp0 hij hj
    have e : ∀ k, (if dueB p pl k then inS p.now (shp p k) else shp p k).qu = (shp p k).qu := fun k => by split <;> rfl
    rw [e, e]; exact this
  · by_cases ht : p.now ≤ t
    · rw [base_due pl hp0.now.1 ht]
      have := dues_le hp h t0 t1
      omega
    · unfold baseAt
      show 0 ≤ 16 - p.shut - (if p.now ≤ t then _ else 0)
      rw [if_neg ht]
      have := hp0.shut
      omega

theorem isPort_later {q : Pt} (hq : IsPort q) (hn : q.now < 299) : IsPort (laterP q) := by
  have hp0 := hq.port
  refine ⟨⟨⟨by have := hp0.now; show 0 ≤ q.now + 1; omega, by show q.now + 1 ≤ 299; omega⟩, hp0.shut, by rw [later_len]; exact hp0.len, hp0.next, ?_, ?_, hp0.four, hp0.kept⟩, fun t t0 t1 => ?_⟩
  · intro s hs
    obtain ⟨i, hi, rfl⟩ := mem_shp hs
    rw [later_len] at hi
    have hw := shp_wd hp0 i hi
    rw [shp_later]
    unfold laterS
    split
    · exact ⟨⟨⟨show (1 : Int) ≤ 4 by decide, show (4 : Int) ≤ 4 by decide⟩, hw.1.wd, hw.1.lg, hw.1.cl, hw.1.qu, fun c => absurd c (by unfold outS; simp), fun _ => rfl⟩, hw.2⟩
    · rename_i hc
      refine ⟨⟨hw.1.st, hw.1.wd, hw.1.lg, hw.1.cl, hw.1.qu, fun c => ?_, hw.1.else_⟩, hw.2⟩
      have := hw.1.lies c
      have : ¬ (shp q i).si + (shp q i).lg = q.now + 1 := fun e => hc ⟨c, e⟩
      show 0 ≤ (shp q i).si ∧ (shp q i).si ≤ q.now + 1 ∧ q.now + 1 < _ ∧ _
      omega
  · intro i j r s hij hr hs
    have hj := (List.getElem?_eq_some_iff.1 hs).1
    rw [later_len] at hj
    rw [← shp_get hr, ← shp_get hs, shp_later, shp_later]
    have := once_shp hp0 hij hj
    have e : ∀ s : Ship, (laterS q.now s).qu = s.qu := fun s => by unfold laterS; split <;> rfl
    rw [e, e]; exact this
  · by_cases ht : q.now + 1 ≤ t
    · rw [base_later ht]; exact hq.base t t0 t1
    · unfold baseAt
      show 0 ≤ 16 - q.shut - (if q.now + 1 ≤ t then _ else 0)
      rw [if_neg ht]
      have := hp0.shut
      omega

/-- the plan of a port in which who is due has come in and a time has gone by -/
def laterPl (p : Pt) (pl : List Int) : List Int := (List.range p.ships.length).map fun i => if dueB p pl i then -1 else pl.getD i (-1)

theorem laterPl_get {p : Pt} {pl : List Int} {i : Nat} (h : i < p.ships.length) : (laterPl p pl).getD i (-1) = if dueB p pl i then -1 else pl.getD i (-1) := by
  unfold laterPl
  rw [List.getD_eq_getElem?_getD, List.getElem?_map, List.getElem?_range h]
  rfl

theorem laterS_st (now : Int) (s : Ship) : (laterS now s).st = 1 ↔ s.st = 1 := by unfold laterS outS; split <;> simp_all
theorem laterS_same {now : Int} {s : Ship} (h : s.st = 1) : laterS now s = s := by unfold laterS; rw [if_neg (by omega)]

theorem st_both (p : Pt) (pl : List Int) (i : Nat) : (shp (laterP (dueP p pl)) i).st = 1 ↔ (shp p i).st = 1 ∧ dueB p pl i = false := by
  rw [shp_later, laterS_st, shp_due]
  cases h : dueB p pl i
  · simp
  · simp [inS]

theorem shp_both {p : Pt} {pl : List Int} {i : Nat} (h : (shp p i).st = 1) (hd : dueB p pl i = false) : shp (laterP (dueP p pl)) i = shp p i := by
  have e : shp (dueP p pl) i = shp p i := by rw [shp_due, hd]; rfl
  rw [shp_later, e, laterS_same h]

theorem plan_later {p : Pt} {pl : List Int} (hp : IsPort p) (h : PlanIs p pl) (hn : p.now < 299) : PlanIs (laterP (dueP p pl)) (laterPl p pl) := by
  have hp0 := hp.port
  have hl : (laterP (dueP p pl)).ships.length = p.ships.length := by rw [later_len, due_len]
  refine ⟨by rw [hl]; unfold laterPl; simp, ?_, ?_⟩
  · intro i hi hs
    rw [hl] at hi
    rw [laterPl_get hi]
    cases hd : dueB p pl i
    · refine h.none i hi fun c => hs ((st_both p pl i).2 ⟨c, hd⟩)
    · rfl
  · obtain ⟨rk, hr, hc⟩ := h.some
    have hin : ∀ j ∈ rk.filter (fun i => !dueB p pl i), (shp p j).st = 1 ∧ dueB p pl j = false ∧ j < p.ships.length := fun j hj => by
      rw [List.mem_filter, hr.mem] at hj
      exact ⟨hj.1.2, by simpa using hj.2, hj.1.1⟩
    refine ⟨rk.filter fun i => !dueB p pl i, ⟨fun i => ?_, ?_⟩, ?_⟩
    · rw [List.mem_filter, hr.mem, hl, st_both]
      constructor
      · rintro ⟨⟨h1, h2⟩, h3⟩; exact ⟨h1, h2, by simpa using h3⟩
      · rintro ⟨h1, h2, h3⟩; exact ⟨⟨h1, h2⟩, by simp [h3]⟩
    · refine List.Pairwise.imp_of_mem (fun {a b} ha hb hab => ?_) (hr.srt.filter _)
      have h1 := hin a ha
      have h2 := hin b hb
      rw [shp_both h1.1 h1.2.1, shp_both h2.1 h2.2.1]; exact hab
    · intro a b i e
      obtain ⟨a', c', he, rfl, e2⟩ := List.filter_eq_append_iff.1 e
      obtain ⟨m, b', rfl, hm, hpi, rfl⟩ := List.filter_eq_cons_iff.1 e2
      have hi := hin i (by rw [e]; simp)
      have hS : rk = (a' ++ m) ++ i :: b' := by rw [he]; simp
      have F := hc (a' ++ m) b' i hS
      have hmf : m.filter (fun i => !dueB p pl i) = [] := List.filter_eq_nil_iff.2 hm
      rw [shp_both hi.1 hi.2.1, laterPl_get hi.2.2, hi.2.1]
      show FitF (fun t => baseAt (laterP (dueP p pl)) t - ctrs (laterP (dueP p pl)) (laterPl p pl) (a'.filter fun i => !dueB p pl i) t) (p.now + 1) _ _ (pl.getD i (-1))
      have hne : pl.getD i (-1) ≠ p.now := fun c => by
        have : dueB p pl i = true := dueB_iff.2 ⟨by
          have hil : i < pl.length := by rw [h.len]; exact hi.2.2
          rw [List.getD_eq_getElem?_getD, List.getElem?_eq_getElem hil] at c
          rw [List.getElem?_eq_getElem hil]
          exact congrArg some c, hi.1⟩
        rw [hi.2.1] at this; cases this
      have hcA : ∀ t, ctrs (laterP (dueP p pl)) (laterPl p pl) (a'.filter fun i => !dueB p pl i) t = ctrs p pl ((a' ++ m).filter fun i => !dueB p pl i) t := fun t => by
        rw [List.filter_append, hmf, List.append_nil]
        show sumL _ _ = sumL _ _
        unfold sumL
        congr 1
        refine List.map_congr_left fun j hj => ?_
        have h1 := hin j (by rw [he, List.filter_append]; exact List.mem_append_left _ hj)
        show ctr _ _ _ _ = ctr _ _ _ _
        unfold ctr
        rw [shp_both h1.1 h1.2.1, laterPl_get h1.2.2, h1.2.1]
        simp
      have hnd : rk.Nodup := hr.nodup
      rw [hS] at hnd
      have hnd1 := List.nodup_append.1 hnd
      have hnd2 := List.nodup_cons.1 hnd1.2.1
      have hsub : ∀ (P : Nat → Bool) (l : List Nat) t, ctrs p pl l t = ctrs p pl (l.filter P) t + ctrs p pl (l.filter fun i => !P i) t := fun P l t => by
        show sumL l _ = sumL _ _ + sumL _ _
        rw [sumL_filter, sumL_filter]
        refine sumL_add _ fun j _ => ?_
        by_cases c : P j = true
        · rw [if_pos c, if_neg (by simp [c])]; omega
        · rw [if_neg c, if_pos (by simp [c])]; omega
      have hdu : ∀ t, ctrs p pl (dues p pl) t = ctrs p pl ((a' ++ m).filter (dueB p pl)) t + ctrs p pl (b'.filter (dueB p pl)) t := fun t => by
        have e1 : rk.filter (dueB p pl) = (a' ++ m).filter (dueB p pl) ++ b'.filter (dueB p pl) := by rw [hS, List.filter_append, List.filter_cons_of_neg (by simp [hi.2.1])]
        rw [← ctrs_append, ← e1]
        refine Int.le_antisymm (ctrs_le (shp_wd0 hp0) t _ _ (List.nodup_range.filter _) fun j hj _ => ?_) (ctrs_le (shp_wd0 hp0) t _ _ (hr.nodup.filter _) fun j hj _ => ?_)
        · unfold dues at hj
          rw [List.mem_filter] at hj
          rw [List.mem_filter, hr.mem]
          exact ⟨⟨List.mem_range.1 hj.1, (dueB_iff.1 hj.2).2⟩, hj.2⟩
        · rw [List.mem_filter, hr.mem] at hj
          unfold dues
          rw [List.mem_filter]
          exact ⟨List.mem_range.2 hj.1.1, hj.2⟩
      have hpos : ∀ (l : List Nat) t, 0 ≤ ctrs p pl l t := fun l t => by
        induction l with
        | nil => exact Int.le_refl _
        | cons j r ih => rw [ctrs_cons]; have := ctr_nonneg (pl := pl) (shp_wd0 hp0 j) t; omega
      have hval : ∀ t, p.now + 1 ≤ t → baseAt (laterP (dueP p pl)) t - ctrs (laterP (dueP p pl)) (laterPl p pl) (a'.filter fun i => !dueB p pl i) t = baseAt p t - ctrs p pl (a' ++ m) t - ctrs p pl (b'.filter (dueB p pl)) t := fun t ht => by
        rw [base_later (q := dueP p pl) ht, base_due pl hp0.now.1 (by omega), hcA t, hdu t, hsub (dueB p pl) (a' ++ m) t]
        omega
      have now0 := hp0.now
      rcases F with ⟨f1, f2⟩ | ⟨f1, f2, f3, f4⟩
      · refine Or.inl ⟨f1, fun t ta tb R => f2 t (by omega) tb fun s sa sb => ?_⟩
        have h1 := R s sa sb
        simp only at h1
        rw [hval s (by omega)] at h1
        have := hpos (b'.filter (dueB p pl)) s
        show _ ≤ baseAt p s - ctrs p pl (a' ++ m) s
        omega
      · refine Or.inr ⟨by omega, f2, fun s sa sb => ?_, fun t ta tb R => f4 t (by omega) tb fun s sa sb => ?_⟩
        · simp only
          rw [hval s (by omega)]
          have hN := Chain.nonneg hp0.now.1 hp.base rk.length rk rfl hc s (by omega) (by omega)
          rw [hS, ctrs_append, ctrs_cons] at hN
          have h1 : ctr p pl i s = (shp p i).wd := by unfold ctr; rw [if_pos ⟨by omega, sa, sb⟩]
          have h2 := hsub (dueB p pl) b' s
          have h3 := hpos (b'.filter fun i => !dueB p pl i) s
          omega
        · have h1 := R s sa sb
          simp only at h1
          rw [hval s (by omega)] at h1
          have := hpos (b'.filter (dueB p pl)) s
          show _ ≤ baseAt p s - ctrs p pl (a' ++ m) s
          omega

end Go.Proofs.Ytghhegajbehpeaa
