/- Plans as plain data, with no program in them: who is ahead of whom, when each comes in, and that there is one plan only; no condition but those that each theorem bears. -/
import Derived.Test.YtghhegajbehpeaaPMath
set_option linter.unusedSimpArgs false
set_option linter.unusedVariables false
namespace Go.Proofs.Ytghhegajbehpeaa

/-- no ship -/
def noShip : Ship := ⟨0, 0, 0, 0, 0, 0⟩

/-- the ship at a place -/
def shp (p : Pt) (i : Nat) : Ship := p.ships.getD i noShip

theorem shp_get {p : Pt} {i : Nat} {s : Ship} (h : p.ships[i]? = some s) : shp p i = s := by unfold shp; rw [List.getD_eq_getElem?_getD, h]; rfl

/-- one ship is ahead of another one -/
def before (r s : Ship) : Prop := r.cl < s.cl ∨ r.cl = s.cl ∧ r.qu < s.qu

theorem before_asymm {r s : Ship} (h : before r s) : ¬ before s r := by unfold before at *; omega
theorem before_trans {r s u : Ship} (h : before r s) (h2 : before s u) : before r u := by unfold before at *; omega
theorem before_total {r s : Ship} (h : r.qu ≠ s.qu) : before r s ∨ before s r := by unfold before; omega

/-- P2.4 -/
structure RankedIs (p : Pt) (rk : List Nat) : Prop where
  mem : ∀ i, i ∈ rk ↔ i < p.ships.length ∧ (shp p i).st = 1
  srt : rk.Pairwise fun i j => before (shp p i) (shp p j)

/-- two lists in the same order, of the same members, are one -/
theorem sorted_unique {α : Type} (R : α → α → Prop) (hR : ∀ a b, R a b → ¬ R b a) : ∀ (a b : List α), a.Pairwise R → b.Pairwise R → (∀ x, x ∈ a ↔ x ∈ b) → a = b := by
  have irr : ∀ x, ¬ R x x := fun x h => hR x x h h
  intro a
  induction a with
  | nil =>
    intro b _ _ h
    cases b with
    | nil => rfl
    | cons y r => exact absurd ((h y).2 List.mem_cons_self) (by simp)
  | cons x a ih =>
    intro b ha hb h
    cases b with
    | nil => exact absurd ((h x).1 List.mem_cons_self) (by simp)
    | cons y b =>
      have ha' := List.pairwise_cons.1 ha
      have hb' := List.pairwise_cons.1 hb
      have hxy : x = y := by
        rcases List.mem_cons.1 ((h x).1 List.mem_cons_self) with h1 | h1
        · exact h1
        · rcases List.mem_cons.1 ((h y).2 List.mem_cons_self) with h2 | h2
          · exact h2.symm
          · exact absurd (ha'.1 y h2) (hR _ _ (hb'.1 x h1))
      subst hxy
      have : a = b := ih b ha'.2 hb'.2 fun z => by
        constructor
        · intro hz
          rcases List.mem_cons.1 ((h z).1 (List.mem_cons_of_mem _ hz)) with h1 | h1
          · subst h1; exact absurd (ha'.1 _ hz) (irr _)
          · exact h1
        · intro hz
          rcases List.mem_cons.1 ((h z).2 (List.mem_cons_of_mem _ hz)) with h1 | h1
          · subst h1; exact absurd (hb'.1 _ hz) (irr _)
          · exact h1
      rw [this]

theorem RankedIs.unique {p : Pt} {a b : List Nat} (ha : RankedIs p a) (hb : RankedIs p b) : a = b :=
  sorted_unique _ (fun _ _ h => before_asymm h) a b ha.srt hb.srt fun x => (ha.mem x).trans (hb.mem x).symm

theorem RankedIs.nodup {p : Pt} {a : List Nat} (ha : RankedIs p a) : a.Nodup := by
  refine List.Pairwise.imp (fun {i j} h => ?_) ha.srt
  rintro rfl
  exact before_asymm h h

theorem nodup_bound (n : Nat) : ∀ (a : List Nat), a.Nodup → (∀ x ∈ a, x < n) → a.length ≤ n := by
  induction n with
  | zero =>
    intro a _ h
    cases a with
    | nil => simp
    | cons x r => exact absurd (h x List.mem_cons_self) (Nat.not_lt_zero _)
  | succ n ih =>
    intro a hn h
    have h1 := ih (a.erase n) (hn.erase n) fun x hx => by
      have h2 := (hn.mem_erase_iff).1 hx
      have h3 := h x h2.2
      have := h2.1
      omega
    by_cases hm : n ∈ a
    · rw [List.length_erase_of_mem hm] at h1; omega
    · rw [List.erase_of_not_mem hm] at h1; omega

theorem RankedIs.len {p : Pt} {a : List Nat} (ha : RankedIs p a) : a.length ≤ p.ships.length :=
  nodup_bound _ a ha.nodup fun x hx => ((ha.mem x).1 hx).1

/-- n are free from t on, for so long -/
def roomF (f : Int → Int) (n t long : Int) : Prop := ∀ s, t ≤ s → s < t + long → n ≤ f s

/-- the first time from which n are free for so long, or -1 -/
def FitF (f : Int → Int) (fr long n r : Int) : Prop :=
  (r = -1 ∧ ∀ t, fr ≤ t → t + long ≤ 300 → ¬ roomF f n t long) ∨ (fr ≤ r ∧ r + long ≤ 300 ∧ roomF f n r long ∧ ∀ t, fr ≤ t → t < r → ¬ roomF f n t long)

theorem FitF.unique {f : Int → Int} {fr long n r r' : Int} (h0 : 0 ≤ fr) (h : FitF f fr long n r) (h' : FitF f fr long n r') : r = r' := by
  rcases h with ⟨h1, h2⟩ | ⟨h1, h2, h3, h4⟩ <;> rcases h' with ⟨g1, g2⟩ | ⟨g1, g2, g3, g4⟩
  · omega
  · exact absurd g3 (h2 r' g1 g2)
  · exact absurd h3 (g2 r h1 h2)
  · rcases Int.lt_trichotomy r r' with e | e | e
    · exact absurd h3 (g4 r h1 e)
    · exact e
    · exact absurd g3 (h4 r' g1 e)

theorem roomF_congr {f g : Int → Int} {n t long : Int} (h : ∀ s, t ≤ s → s < t + long → f s = g s) : roomF f n t long ↔ roomF g n t long :=
  ⟨fun H s a b => by rw [← h s a b]; exact H s a b, fun H s a b => by rw [h s a b]; exact H s a b⟩

theorem FitF.congr {f g : Int → Int} {fr long n r : Int} (h : ∀ s, fr ≤ s → s < 300 → f s = g s) (hf : FitF f fr long n r) : FitF g fr long n r := by
  rcases hf with ⟨h1, h2⟩ | ⟨h1, h2, h3, h4⟩
  · exact Or.inl ⟨h1, fun t a b => fun R => h2 t a b ((roomF_congr fun s c d => h s (by omega) (by omega)).2 R)⟩
  · exact Or.inr ⟨h1, h2, (roomF_congr fun s c d => h s (by omega) (by omega)).1 h3, fun t a b => fun R => h4 t a b ((roomF_congr fun s c d => h s (by omega) (by omega)).2 R)⟩

/-- what the ship at place i takes at a time, by a plan -/
def ctr (p : Pt) (pl : List Int) (i : Nat) (t : Int) : Int :=
  if 0 ≤ pl.getD i (-1) ∧ pl.getD i (-1) ≤ t ∧ t < pl.getD i (-1) + (shp p i).lg then (shp p i).wd else 0

/-- what some take together -/
def ctrs (p : Pt) (pl : List Int) (rk : List Nat) (t : Int) : Int := (rk.map fun i => ctr p pl i t).foldr (· + ·) 0

theorem ctrs_nil (p : Pt) (pl : List Int) (t : Int) : ctrs p pl [] t = 0 := rfl
theorem ctrs_cons (p : Pt) (pl : List Int) (i : Nat) (r : List Nat) (t : Int) : ctrs p pl (i :: r) t = ctr p pl i t + ctrs p pl r t := rfl
theorem ctrs_append (p : Pt) (pl : List Int) (a b : List Nat) (t : Int) : ctrs p pl (a ++ b) t = ctrs p pl a t + ctrs p pl b t := by
  induction a with
  | nil => simp [ctrs_nil]
  | cons i r ih => rw [List.cons_append, ctrs_cons, ctrs_cons, ih]; omega

/-- each of some comes in at the first time that what is free, and those ahead, leave -/
def Chain (p : Pt) (pl : List Int) (f : Int → Int) (rk : List Nat) : Prop :=
  ∀ (a b : List Nat) (i : Nat), rk = a ++ i :: b → FitF (fun t => f t - ctrs p pl a t) p.now (shp p i).lg (shp p i).wd (pl.getD i (-1))

/-- P2.5 -/
structure PlanIs (p : Pt) (pl : List Int) : Prop where
  len : pl.length = p.ships.length
  none : ∀ i, i < p.ships.length → (shp p i).st ≠ 1 → pl.getD i (-1) = -1
  some : ∃ rk, RankedIs p rk ∧ Chain p pl (baseAt p) rk

theorem chain_nil (p : Pt) (pl : List Int) (f : Int → Int) : Chain p pl f [] := fun a b i h => by simp at h

theorem Chain.take {p : Pt} {pl : List Int} {f : Int → Int} {a b : List Nat} (h : Chain p pl f (a ++ b)) : Chain p pl f a := fun c d i e => h c (d ++ b) i (by rw [e]; simp)

theorem Chain.snoc {p : Pt} {pl : List Int} {f : Int → Int} {a : List Nat} {i : Nat} (h : Chain p pl f a) (hf : FitF (fun t => f t - ctrs p pl a t) p.now (shp p i).lg (shp p i).wd (pl.getD i (-1))) : Chain p pl f (a ++ [i]) := by
  intro c d j e
  by_cases hd : d = []
  · subst hd
    have h1 := List.append_inj' e (by simp)
    have h2 : i = j := by simpa using h1.2
    rw [← h1.1, ← h2]
    exact hf
  · obtain ⟨d', x, rfl⟩ : ∃ d' x, d = d' ++ [x] := ⟨d.dropLast, d.getLast hd, (List.dropLast_concat_getLast hd).symm⟩
    have e' : a ++ [i] = (c ++ j :: d') ++ [x] := by rw [e]; simp
    have h1 := List.append_inj' e' (by simp)
    exact h c d' j h1.1

theorem ctr_set_ne {p : Pt} {pl : List Int} {i j : Nat} (v : Int) (h : j ≠ i) (t : Int) : ctr p (pl.set i v) j t = ctr p pl j t := by
  have : (pl.set i v).getD j (-1) = pl.getD j (-1) := by
    rw [List.getD_eq_getElem?_getD, List.getD_eq_getElem?_getD, List.getElem?_set_ne (fun e => h e.symm)]
  unfold ctr; rw [this]

theorem ctrs_set_notin {p : Pt} {pl : List Int} {i : Nat} (v : Int) : ∀ {rk : List Nat}, i ∉ rk → ∀ t, ctrs p (pl.set i v) rk t = ctrs p pl rk t := by
  intro rk
  induction rk with
  | nil => intro _ t; rfl
  | cons j r ih =>
    intro h t
    rw [ctrs_cons, ctrs_cons, ih (fun hh => h (List.mem_cons_of_mem _ hh)) t, ctr_set_ne v (fun e => h (by rw [e]; exact List.mem_cons_self))]

theorem Chain.set {p : Pt} {pl : List Int} {f : Int → Int} {rk : List Nat} {i : Nat} (h : Chain p pl f rk) (v : Int) (hi : i ∉ rk) : Chain p (pl.set i v) f rk := by
  intro a b j e
  have hj : j ≠ i := fun hh => hi (by rw [e, hh]; simp)
  have ha : i ∉ a := fun hh => hi (by rw [e]; exact List.mem_append_left _ hh)
  have h1 := h a b j e
  have h2 : (pl.set i v).getD j (-1) = pl.getD j (-1) := by
    rw [List.getD_eq_getElem?_getD, List.getD_eq_getElem?_getD, List.getElem?_set_ne (fun e => hj e.symm)]
  rw [h2]
  exact h1.congr fun s _ _ => by show _ = _; rw [ctrs_set_notin v ha]

/-- two plans over the same ships ahead are one -/
theorem Chain.same {p q : Pt} {x y : List Int} {f g : Int → Int} (hn : p.now = q.now) (h0 : 0 ≤ p.now) (hf : ∀ t, p.now ≤ t → t < 300 → f t = g t) : ∀ (n : Nat) (rk : List Nat), rk.length = n → (∀ i ∈ rk, (shp p i).lg = (shp q i).lg ∧ (shp p i).wd = (shp q i).wd) →
    Chain p x f rk → Chain q y g rk → ∀ i ∈ rk, x.getD i (-1) = y.getD i (-1) := by
  intro n
  induction n with
  | zero => intro rk hl _ _ _ i hi; rw [List.eq_nil_of_length_eq_zero hl] at hi; cases hi
  | succ n ih =>
    intro rk hl hs hx hy
    have hne : rk ≠ [] := by rintro rfl; simp at hl
    obtain ⟨a, z, rfl⟩ : ∃ a z, rk = a ++ [z] := ⟨rk.dropLast, rk.getLast hne, (List.dropLast_concat_getLast hne).symm⟩
    have h1 := ih a (by simp at hl; exact hl) (fun i hi => hs i (List.mem_append_left _ hi)) hx.take hy.take
    have hc : ∀ (b : List Nat), (∀ i ∈ b, i ∈ a) → ∀ t, ctrs p x b t = ctrs q y b t := by
      intro b
      induction b with
      | nil => intro _ t; rfl
      | cons j r ih2 =>
        intro hb t
        rw [ctrs_cons, ctrs_cons, ih2 (fun i hi => hb i (List.mem_cons_of_mem _ hi))]
        have hj := hb j List.mem_cons_self
        have e1 := h1 j hj
        have e2 := hs j (List.mem_append_left _ hj)
        unfold ctr
        rw [e1, e2.1, e2.2]
    intro i hi
    rcases List.mem_append.1 hi with hi | hi
    · exact h1 i hi
    · have : i = z := by simpa using hi
      subst this
      have f1 := hx a [] i rfl
      have f2 := hy a [] i rfl
      have e2 := hs i (by simp)
      rw [← hn, ← e2.1, ← e2.2] at f2
      refine f1.unique h0 (f2.congr fun s ha hb => ?_)
      show g s - ctrs q y a s = f s - ctrs p x a s
      rw [hf s ha hb, hc a (fun i hi => hi) s]

theorem PlanIs.unique {p : Pt} {x y : List Int} (h0 : 0 ≤ p.now) (hx : PlanIs p x) (hy : PlanIs p y) : x = y := by
  obtain ⟨rk, hr, c1⟩ := hx.some
  obtain ⟨rk', hr', c2⟩ := hy.some
  have : rk = rk' := hr.unique hr'
  subst this
  have h1 := Chain.same rfl h0 (fun _ _ _ => rfl) rk.length rk rfl (fun _ _ => ⟨rfl, rfl⟩) c1 c2
  refine List.ext_getElem (by rw [hx.len, hy.len]) fun i ha hb => ?_
  have e1 : x.getD i (-1) = x[i] := by simp [List.getD_eq_getElem?_getD, ha]
  have e2 : y.getD i (-1) = y[i] := by simp [List.getD_eq_getElem?_getD, hb]
  rw [← e1, ← e2]
  have hl : i < p.ships.length := by rw [← hx.len]; exact ha
  by_cases hw : (shp p i).st = 1
  · exact h1 i ((hr.mem i).2 ⟨hl, hw⟩)
  · rw [hx.none i hl hw, hy.none i hl hw]

theorem ctr_nonneg {p : Pt} {pl : List Int} {i : Nat} (h : 0 ≤ (shp p i).wd) (t : Int) : 0 ≤ ctr p pl i t := by unfold ctr; split <;> omega

theorem shp_wd {p : Pt} (h : IsPort0 p) (i : Nat) (hi : i < p.ships.length) : IsShip (shp p i) p.now ∧ (shp p i).qu < p.next := by
  have : p.ships[i]? = some p.ships[i] := List.getElem?_eq_getElem hi
  rw [shp_get this]
  exact h.ship _ (List.getElem_mem hi)

theorem shp_wd0 {p : Pt} (h : IsPort0 p) (i : Nat) : 0 ≤ (shp p i).wd := by
  by_cases hi : i < p.ships.length
  · have := (shp_wd h i hi).1.wd; omega
  · have : shp p i = noShip := by unfold shp; rw [List.getD_eq_getElem?_getD, List.getElem?_eq_none (by omega)]; rfl
    rw [this]; decide

/-- who comes in by plan finds room -/
theorem Chain.nonneg {p : Pt} {pl : List Int} {f : Int → Int} (h0 : 0 ≤ p.now) (hf : ∀ t, 0 ≤ t → t < 300 → 0 ≤ f t) : ∀ (n : Nat) (rk : List Nat), rk.length = n → Chain p pl f rk → ∀ t, 0 ≤ t → t < 300 → 0 ≤ f t - ctrs p pl rk t := by
  intro n
  induction n with
  | zero => intro rk hl _ t a b; rw [List.eq_nil_of_length_eq_zero hl, ctrs_nil]; have := hf t a b; omega
  | succ n ih =>
    intro rk hl hx t ha hb
    have hne : rk ≠ [] := by rintro rfl; simp at hl
    obtain ⟨a, z, rfl⟩ : ∃ a z, rk = a ++ [z] := ⟨rk.dropLast, rk.getLast hne, (List.dropLast_concat_getLast hne).symm⟩
    have h1 := ih a (by simp at hl; exact hl) hx.take t ha hb
    have h2 := hx a [] z rfl
    rw [ctrs_append, ctrs_cons, ctrs_nil]
    unfold ctr
    split
    · rename_i hc
      rcases h2 with ⟨e, _⟩ | ⟨_, _, hr, _⟩
      · omega
      · have h3 : (shp p z).wd ≤ f t - ctrs p pl a t := hr t hc.2.1 hc.2.2
        omega
    · omega

/-- what some take is at most what others take, if all that take something are among them -/
theorem ctrs_le {p : Pt} {pl : List Int} (h : ∀ i, 0 ≤ (shp p i).wd) (t : Int) : ∀ (a b : List Nat), a.Nodup → (∀ i ∈ a, ctr p pl i t ≠ 0 → i ∈ b) → ctrs p pl a t ≤ ctrs p pl b t := by
  have hpos : ∀ b, 0 ≤ ctrs p pl b t := by
    intro b
    induction b with
    | nil => exact Int.le_refl _
    | cons j r ih => rw [ctrs_cons]; have := ctr_nonneg (pl := pl) (h j) t; omega
  have her : ∀ (b : List Nat) (i : Nat), i ∈ b → ctrs p pl b t = ctr p pl i t + ctrs p pl (b.erase i) t := by
    intro b i
    induction b with
    | nil => intro h; cases h
    | cons j r ih =>
      intro hi
      by_cases e : j = i
      · subst e; rw [List.erase_cons_head, ctrs_cons]
      · rw [List.erase_cons_tail (by simpa using e), ctrs_cons, ctrs_cons]
        rcases List.mem_cons.1 hi with h1 | h1
        · exact absurd h1.symm e
        · rw [ih h1]; omega
  intro a
  induction a with
  | nil => intro b _ _; exact hpos b
  | cons i r ih =>
    intro b hn hm
    have hn' := List.nodup_cons.1 hn
    rw [ctrs_cons]
    by_cases hz : ctr p pl i t = 0
    · rw [hz]; have := ih b hn'.2 fun j hj => hm j (List.mem_cons_of_mem _ hj); omega
    · have hb := hm i List.mem_cons_self hz
      have := ih (b.erase i) hn'.2 fun j hj hc => (List.mem_erase_of_ne (fun e => hn'.1 (by rw [← e]; exact hj))).2 (hm j (List.mem_cons_of_mem _ hj) hc)
      rw [her b i hb]; omega

end Go.Proofs.Ytghhegajbehpeaa
